/- MemoryTold: what a custom stream's reads tell; answers appended one by one. -/
import Derived.Test.YtimggonlfkboaaaMeRoom
import Derived.Deep.LoopGhost
namespace Go.Proofs.Ytimggonlfkboaaa
open Go.RowKit

/-- All bytes of answers, one behind the other. -/
def joinR (l : List (List UInt8 × Int)) : List UInt8 := (l.map (·.1)).flatten
/-- How many reads they may take. -/
def potR : List (List UInt8 × Int) → Nat
  | [] => 0
  | x :: r => x.1.length + 1 + potR r
def noErr (l : List (List UInt8 × Int)) : Prop := ∀ x ∈ l, x.2 = 0
theorem told_step (C : CS) (n : Nat) (h1 : 1 ≤ n) (h2 : n ≤ 1048576) (hE : noErr C.reads) :
    (C.read (n : Int)).2.1 = 0 ∧ (C.read (n : Int)).1.length ≤ n ∧ (C.read (n : Int)).1 ++ joinR (C.read (n : Int)).2.2.reads = joinR C.reads ∧ potR (C.read (n : Int)).2.2.reads ≤ potR C.reads - 1 ∧ noErr (C.read (n : Int)).2.2.reads := by
  have hn : inR (n : Int) = true := inR_yes (by omega) (by omega)
  have h0 : (n : Int) ≠ 0 := by omega
  cases hr : C.reads with
  | nil =>
    rw [CS.read_end hn h0 hr, hr]
    exact ⟨rfl, Nat.zero_le _, by simp, by simp [potR], fun x hx => by cases hx⟩
  | cons x r =>
    obtain ⟨d, e⟩ := x
    obtain rfl : e = 0 := hE (d, e) (by rw [hr]; simp)
    have hE2 : noErr r := fun x hx => hE x (by rw [hr]; exact List.mem_cons_of_mem _ hx)
    by_cases hd : n < d.length
    · rw [CS.read_cut hn h0 hr (by simpa using hd), Int.toNat_natCast]
      refine ⟨rfl, by simp; omega, ?_, ?_, fun x hx => ?_⟩
      · simp only [joinR, List.map_cons, List.flatten_cons]
        rw [← List.append_assoc, List.take_append_drop]
      · simp only [potR, List.length_drop]; omega
      · rcases List.mem_cons.1 hx with rfl | hx
        · rfl
        · exact hE2 x hx
    · rw [CS.read_all hn h0 hr (by simpa using hd)]
      refine ⟨rfl, by show d.length ≤ n; omega, ?_, ?_, hE2⟩
      · simp [joinR]
      · simp only [potR]; omega
theorem potR_texts (ls : List (List UInt8)) : potR (ls.map fun t => (t, (0 : Int))) = ls.flatten.length + ls.length := by
  induction ls with
  | nil => rfl
  | cons t r ih => simp only [List.map_cons, potR, List.flatten_cons, List.length_append, List.length_cons, ih]; omega
theorem joinR_texts (ls : List (List UInt8)) : joinR (ls.map fun t => (t, (0 : Int))) = ls.flatten := by
  unfold joinR
  rw [List.map_map]
  congr 1
  induction ls with
  | nil => rfl
  | cons t r ih => simp only [List.map_cons, ih]; rfl
theorem pot_none {l : List (List UInt8 × Int)} (h : potR l = 0) : l = [] := by
  cases l with
  | nil => rfl
  | cons x r => simp only [potR] at h; omega

/-- A row of answers of one's own: the texts lie where they lay in W. -/
def AnsO (W : World) (v : Value) (ls : List (List UInt8)) (w : World) (P : Nat → Prop) : Prop :=
  ∃ xs, w.ownsRow 0 64 2 v ls.length xs ∧ (∀ j (hj : j < ls.length), ∃ va vc, xs[j * 2]? = some (.slice va ls[j].length vc) ∧ xs[j * 2 + 1]? = some (.int .i64 0) ∧ Bys W (.slice va ls[j].length vc) ls[j] ∧ ls[j].length ≤ vc) ∧ ∀ k, v.ownBlock = some k → P k
theorem ans_o (W : World) (v : Value) (ls : List (List UInt8)) : OAt (AnsO W v ls) :=
  ⟨fun ⟨xs, h1, h2, h3⟩ hk _ => ⟨xs, owns_keep h1 fun k e => hk k (h3 k e) (h1.lt k e).2, h2, h3⟩, fun ⟨xs, h1, h2, h3⟩ => ⟨xs, h1, h2, fun k e => ⟨h3 k e, (h1.lt k e).2⟩⟩⟩
theorem ans_nil (W w : World) (P : Nat → Prop) : AnsO W (.slice none 0 0) [] w P := ⟨[], World.ownsRow_nil _ _ _ _, fun j hj => absurd hj (by simp), fun k e => by cases e⟩
theorem AnsO.ansR {W w : World} {v : Value} {ls : List (List UInt8)} {P : Nat → Prop} (h : AnsO W v ls w P) (hB : Below W.heap.size W w) : AnsR w v (ls.map fun t => (t, (0 : Int))) := by
  obtain ⟨xs, h1, h2, h3⟩ := h
  rcases h1.2 with ⟨rfl, h0⟩ | ⟨g, cap, cur, rfl, hr⟩
  · obtain rfl : ls = [] := List.length_eq_zero_iff.1 h0
    exact ⟨_, _, rfl, fun h => absurd h (by simp)⟩
  · refine ⟨_, cap, by rw [List.length_map], fun _ => ⟨g, 0, rfl, fun j hj => ?_⟩⟩
    have hj' : j < ls.length := by simpa using hj
    obtain ⟨va, vc, e1, e2, e3, e4⟩ := h2 j hj'
    have hx : xs.length = ls.length * 2 := h1.1
    have k1 := h1.cellAt (j * 2) (by omega)
    have k2 := h1.cellAt (j * 2 + 1) (by omega)
    rw [e1] at k1
    rw [e2] at k2
    rw [Nat.zero_add]
    simp only [List.getElem_map]
    exact ⟨va, vc, k1, k2, e3.below hB, e4⟩
/-- append(l, Answer{Data: t}): one more. -/
theorem AnsO.more {A : World → (Nat → Prop) → Prop} {W w : World} {v : Value} {ls : List (List UInt8)} {t : List UInt8} {va : Option Addr} {vc g : Nat} {Q : Nat → Prop} (hA : OAt A) (h : Both A (AnsO W v ls) w Q) (ty : TypeId)
    (c0 : w.cell? ⟨g, 0, none⟩ = some (.slice va t.length vc)) (c1 : w.cell? ⟨g, 1, none⟩ = some (.int .i64 0)) (hb : Bys W (.slice va t.length vc) t) (hc : t.length ≤ vc) (hn : (ls.length + 1) * 32 ≤ 140737488351232) :
    ∃ sa sc w', (Builtin.append_ #[46, 46] ty #[v, .slice (some ⟨g, 0, none⟩) 1 1]).run Try.prog w = .ok (.slice sa (ls.length + 1) sc) w' ∧ Both A (AnsO W (.slice sa (ls.length + 1) sc) (ls ++ [t])) w' (fun j => Q j ∨ w.heap.size ≤ j) ∧ Turned Q w w' := by
  obtain ⟨i0, hi, hz0, hz1, hz2⟩ := info_parts Try.infoA
  obtain ⟨P, ⟨xs, h1, h2, h3⟩, h4, h5, -⟩ := h.two hA
  obtain ⟨v', w', r1, r2, r3, _, r5⟩ := run_append_own_at (P := Try.prog) w 0 46 ty 64 i0 (.agg #[.slice none 0 0, .int .i64 0]) 2 32 Try.underlying46 hi hz0 hz1 hz2 rfl (by decide) v _ _ h1 ⟨g, 0, none⟩ 1 1 [.slice va t.length vc, .int .i64 0] rfl (fun j u hj => by
    have hadd : (⟨g, 0, none⟩ : Addr).add j = ⟨g, j, none⟩ := by unfold Addr.add; split <;> simp_all
    rw [hadd]
    match j, hj with
    | 0, hj => simp at hj; subst hj; exact c0
    | 1, hj => simp at hj; subst hj; exact c1) (by simp [Value.oneCell']) (by unfold maxLen; omega) (by omega) (Nat.zero_le _)
  obtain ⟨sa, sc, rfl⟩ := owns_slice r2
  have hTu : Turned P w w' := ⟨r3.os, r3.tape, r3.output, r3.size, fun k hk hn => r3.block k hk (fun e => hn (h3 k e.symm))⟩
  have hxl : xs.length = ls.length * 2 := h1.1
  obtain ⟨q1, q2⟩ := h5 (AnsO W (.slice sa (ls.length + 1) sc) (ls ++ [t])) w w' (Below.refl _ _) (ans_o _ _ _) ⟨fun k => (Value.slice sa (ls.length + 1) sc).ownBlock = some k, ⟨_, by rw [List.length_append]; exact r2, fun j hj => by
    by_cases hlt : j < ls.length
    · obtain ⟨va', vc', e1, e2, e3⟩ := h2 j hlt
      rw [List.getElem_append_left hlt]
      exact ⟨va', vc', by rw [List.getElem?_append_left (by omega)]; exact e1, by rw [List.getElem?_append_left (by omega)]; exact e2, e3⟩
    · obtain rfl : j = ls.length := by simp at hj; omega
      rw [List.getElem_append_right (Nat.le_refl _)]
      refine ⟨va, vc, ?_, ?_, by simpa using hb, by simpa using hc⟩
      · rw [List.getElem?_append_right (by omega), hxl, Nat.sub_self]; simp
      · rw [List.getElem?_append_right (by omega), hxl, show ls.length * 2 + 1 - ls.length * 2 = 1 by omega]; simp, fun k e => e⟩, fun k e => by
    rcases r5 with e' | e'
    · exact .inl (h3 k (by rw [← e', e]))
    · rw [e'] at e
      exact .inr (by have := Option.some.inj e; omega), hTu⟩
  exact ⟨sa, sc, w', r1, q1, q2⟩
end Go.Proofs.Ytimggonlfkboaaa
