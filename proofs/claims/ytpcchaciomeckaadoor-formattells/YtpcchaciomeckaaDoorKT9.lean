/- What the proof stands on, part 9: the contracts of the program's calls that it reaches. -/
import Derived.Test.YtpcchaciomeckaaDoorKT8
/- FormatJoins: Args that are copied, Args behind Args; the walk. -/
namespace Go.Proofs.YtpcchaciomeckaaDoor
open Go.RowKit

def FormS (v : Value) : Prop := v = .slice none 0 0 ∨ ∃ q n c, v = .slice (some q) n c
theorem rows_form {α : Type} {W : World} {k : Nat} {Rd : List Value → α → Prop} {v : Value} {l : List α} (h : RowsR W k Rd v l) : FormS v := by
  rcases h with ⟨rfl, _⟩ | ⟨q, cap, rfl, _⟩
  · exact .inl rfl
  · exact .inr ⟨_, _, _, rfl⟩
theorem Tryd.infoA : (Tryd.prog.info? 37).map (fun i => (i.zero, i.size, i.bytes)) = some (some (.agg #[.int .i64 0, .int .i64 0, .int .u64 0, .string ByteArray.empty]), 4, 40) := by kernel_rfl
theorem flat_len : ∀ l : List Ag, (l.flatMap agC).length = l.length * 4
  | [] => rfl
  | x :: l => by
    rw [List.flatMap_cons, List.length_append, flat_len l, List.length_cons]
    show 4 + _ = _
    omega
theorem flat_one : ∀ (l : List Ag), ∀ u ∈ l.flatMap agC, u.oneCell' = true := by
  intro l u hu
  obtain ⟨x, _, hx⟩ := List.mem_flatMap.1 hu
  unfold agC at hx
  simp only [List.mem_cons, List.not_mem_nil, or_false] at hx
  rcases hx with rfl | rfl | rfl | rfl <;> rfl
theorem run_append_args (w : World) (ty : TypeId) (base : Nat) (s x : Value) (m l : List Ag) (hs : w.ownsRow base 37 4 s m.length (m.flatMap agC)) (hx : AgsV w x l) (hf : FormS x) (hn : (m.length + l.length) * 40 ≤ 140737488355328) (hb : base ≤ w.heap.size) :
    ∃ s' w', (Builtin.append_ #[22, 22] ty #[s, x]).run Tryd.prog w = .ok s' w' ∧ w'.ownsRow base 37 4 s' (m ++ l).length ((m ++ l).flatMap agC) ∧ w.grownBy w' s.ownBlock := by
  obtain ⟨i0, hi, hz0, hz1, hz2⟩ := info_parts Tryd.infoA
  rw [List.length_append, List.flatMap_append]
  obtain ⟨a, c, rfl, hc, hd, _⟩ := hx
  rcases hf with he | ⟨q, n, c', he⟩
  · obtain ⟨rfl, h0, rfl⟩ : a = none ∧ l.length = 0 ∧ c = 0 := Value.slice.inj he
    obtain rfl : l = [] := List.length_eq_zero_iff.1 h0
    exact ⟨s, w, run_append_owned_none (P := Tryd.prog) w base _ ty _ i0 4 Tryd.underlying22 hi s _ _ hs, by simpa using hs, ⟨rfl, rfl, rfl, Nat.le_refl _, fun _ _ _ => rfl⟩⟩
  · obtain ⟨rfl, rfl, rfl⟩ : a = some q ∧ l.length = n ∧ c = c' := Value.slice.inj he
    have hcell : ∀ j u, (l.flatMap agC)[j]? = some u → w.cell? (q.add j) = some u := by
      intro j u hj
      have hjl := (List.getElem?_eq_some_iff.1 hj).1
      rw [flat_len] at hjl
      obtain ⟨b, off, hq, hcells⟩ := hd (by omega)
      cases hq
      have hadd : ∀ o k, (⟨b, o, none⟩ : Addr).add k = ⟨b, o + k, none⟩ := fun o k => by unfold Addr.add; split <;> simp_all
      rw [hadd]
      obtain ⟨j', i, rfl, hi4⟩ : ∃ j' i, j = j' * 4 + i ∧ i < 4 := ⟨j / 4, j % 4, by omega, by omega⟩
      have hj' : j' < l.length := by omega
      rw [flat_get l j' hj' i hi4] at hj
      have hh := hcells j' hj'
      rw [← Nat.add_assoc]
      match i, hi4, hj with
      | 0, _, hj => cases hj; exact hh.c0
      | 1, _, hj => cases hj; exact hh.c1
      | 2, _, hj => cases hj; exact hh.c2
      | 3, _, hj => cases hj; exact hh.c3
    obtain ⟨v', w', h1, h2, h3, _⟩ := run_append_own (P := Tryd.prog) w base 22 ty 37 i0 (.agg #[.int .i64 0, .int .i64 0, .int .u64 0, .string ByteArray.empty]) 4 40 Tryd.underlying22 hi hz0 hz1 hz2 rfl (by decide) s _ _ hs q l.length c (l.flatMap agC) (flat_len l) hcell (flat_one l) (by unfold maxLen; omega) hn hb
    exact ⟨v', w', h1, h2, h3⟩
theorem AgsV.of_owns {W : World} {base : Nat} {v : Value} {l : List Ag} (h : W.ownsRow base 37 4 v l.length (l.flatMap agC)) (hb : ∀ x ∈ l, AB x) : AgsV W v l ∧ FormS v := by
  rcases h.2 with ⟨rfl, h0⟩ | ⟨g, cap, cur, rfl, hbg, hg, hnc, _⟩
  · obtain rfl : l = [] := by
      cases l with
      | nil => rfl
      | cons x l => exact absurd h0 (by simp)
    exact ⟨⟨none, 0, rfl, Nat.le_refl _, fun h => absurd h (Nat.lt_irrefl _), hb⟩, .inl rfl⟩
  · refine ⟨⟨some ⟨g, 0, none⟩, cap, rfl, hnc, fun _ => ⟨g, 0, rfl, fun j hj => ?_⟩, hb⟩, .inr ⟨_, _, _, rfl⟩⟩
    have hadd : ∀ o k, (⟨g, o, none⟩ : Addr).add k = ⟨g, o + k, none⟩ := fun o k => by unfold Addr.add; split <;> simp_all
    have key : ∀ i, i < 4 → ∀ u, (agC l[j])[i]? = some u → W.cell? ⟨g, 0 + j * 4 + i, none⟩ = some u := by
      intro i hi u hu
      rw [← flat_get l j hj i hi] at hu
      have := h.cells (g := g) rfl _ _ hu
      rw [hadd] at this
      rw [Nat.add_assoc]
      exact this
    exact ⟨key 0 (by decide) _ rfl, key 1 (by decide) _ rfl, key 2 (by decide) _ rfl, key 3 (by decide) _ rfl⟩
set_option maxHeartbeats 1000000 in
theorem copyArgs_any (va : Value) (l : List Ag) (w : World) (h : AgsV w va l) (hf : FormS va) (hn : l.length * 40 ≤ 140737488355328) :
    Calls Tryd.prog 9 #[va] w fun e w' => ∃ v, e = .returned v ∧ w'.ownsRow w.heap.size 37 4 v l.length (l.flatMap agC) ∧ Below w.heap.size w w' := by
  obtain ⟨v', w', hr, hO, hG⟩ := run_append_args w 22 w.heap.size (.slice none 0 0) va [] l (World.ownsRow_nil _ _ _ _) h hf (by simpa using hn) (Nat.le_refl _)
  have HO := hide hO
  have HB := hide ((Below.refl _ w).grown hG (Nat.le_refl _) (fun k e => by cases e))
  obtain ⟨va1, vc1, rfl, -⟩ := h
  clear hO hG hf
  go_enter Tryd.func9, Tryd.ntmps9
  go_wp2_with (at_builtin; refine Lib.wpList_append_run _ rfl _ _ _ _ rfl _ _ rfl rfl _ _ hr ?_)
  go_ret
  exact ⟨_, rfl, by simpa using HO.out, HB.out⟩
end Go.Proofs.YtpcchaciomeckaaDoor
