/- A custom stream is made. -/
import Derived.Test.YtimggonlfkboaaaMeNew
namespace Go.Proofs.Ytimggonlfkboaaa
open Go.RowKit

/-- Numbers that came in. -/
def IntsR (W : World) (v : Value) (l : List Int) : Prop :=
  (v = .slice none 0 0 ∧ l = []) ∨ ∃ q cap, v = .slice (some q) l.length cap ∧ (0 < l.length → ∃ b off, q = ⟨b, off, none⟩ ∧ ∀ j (hj : j < l.length), W.cell? ⟨b, off + j, none⟩ = some (.int .i64 l[j]))
theorem IntsR.below {W W' : World} {v : Value} {l : List Int} (h : IntsR W v l) (hB : Below W.heap.size W W') : IntsR W' v l := by
  rcases h with h | ⟨q, cap, rfl, h2⟩
  · exact .inl h
  · refine .inr ⟨q, cap, rfl, fun h0 => ?_⟩
    obtain ⟨b, off, rfl, hd⟩ := h2 h0
    exact ⟨b, off, rfl, fun j hj => (hB.cell (p := ⟨b, off + j, none⟩) (World.block_lt_of_cell? W _ (hd j hj))).trans (hd j hj)⟩
theorem IntsR.form {W : World} {v : Value} {l : List Int} (h : IntsR W v l) : ∃ a c, v = .slice a l.length c := by
  rcases h with ⟨rfl, rfl⟩ | ⟨q, cap, rfl, _⟩
  · exact ⟨_, _, rfl⟩
  · exact ⟨_, _, rfl⟩
/-- An int as a cell. -/
def iv (x : Int) : Value := .int .i64 x
theorem Try.infoI : (Try.prog.info? 3).map (fun i => (i.zero, i.size, i.bytes)) = some (some (.int .i64 0), 1, 8) := by kernel_rfl
/-- append([]int(nil), x...). -/
theorem run_append_ints (w : World) (ty : TypeId) (x : Value) (l : List Int) (hx : IntsR w x l) (hn : l.length * 8 ≤ 140737488351232) :
    ∃ s' w', (Builtin.append_ #[24, 24] ty #[.slice none 0 0, x]).run Try.prog w = .ok s' w' ∧ Hid (w'.ownsRow w.heap.size 3 1 s' l.length (l.map iv)) ∧ w.grownBy w' none := by
  refine (?_ : ∃ s' w', (Builtin.append_ #[24, 24] ty #[.slice none 0 0, x]).run Try.prog w = .ok s' w' ∧ w'.ownsRow w.heap.size 3 1 s' l.length (l.map iv) ∧ w.grownBy w' none)
  obtain ⟨i0, hi, hz0, hz1, hz2⟩ := info_parts Try.infoI
  have h0 : w.ownsRow w.heap.size 3 1 (.slice none 0 0) 0 [] := World.ownsRow_nil _ _ _ _
  rcases hx with ⟨rfl, rfl⟩ | ⟨q, cap, rfl, hc⟩
  · exact ⟨_, w, run_append_owned_none (P := Try.prog) w w.heap.size _ ty _ i0 1 Try.underlying24 hi _ _ _ h0, by simpa using h0, ⟨rfl, rfl, rfl, Nat.le_refl _, fun _ _ _ => rfl⟩⟩
  · obtain ⟨v', w', h1, h2, h3, _, h5⟩ := run_append_own_at (P := Try.prog) w w.heap.size 24 ty 3 i0 (.int .i64 0) 1 8 Try.underlying24 hi hz0 hz1 hz2 rfl (by decide) (.slice none 0 0) 0 [] h0 q l.length cap (l.map iv) (by simp) (fun j u hj => by
      have hj' : j < l.length := by have := (List.getElem?_eq_some_iff.1 hj).1; simpa using this
      obtain ⟨b, off, rfl, hd⟩ := hc (by omega)
      have hadd : (⟨b, off, none⟩ : Addr).add j = ⟨b, off + j, none⟩ := by unfold Addr.add; split <;> simp_all
      rw [hadd, hd j hj']
      simpa [iv, List.getElem?_eq_getElem hj'] using hj) (fun u hu => by
      obtain ⟨c, _, rfl⟩ := List.mem_map.1 hu
      rfl) (by unfold maxLen; omega) (by omega) (Nat.le_refl _)
    refine ⟨v', w', h1, by simpa using h2, ?_⟩
    simpa [Value.ownBlock] using h3
/-- A row of ints of one's own. -/
theorem owns_nrow {W : World} {base : Nat} {v : Value} {l : List Int} {N : Nat → Prop} (h : W.ownsRow base 3 1 v l.length (l.map iv)) (hN : ∀ k, v.ownBlock = some k → N k) : NRow W N v l := by
  rcases h.2 with ⟨rfl, h0⟩ | ⟨g, cap, cur, rfl, h1, h2, h3, h4, h5, h6⟩
  · have hl : l = [] := by simpa using h0
    subst hl
    exact ⟨_, _, rfl, Nat.le_refl _, fun h => absurd h (by simp)⟩
  · refine ⟨_, cap, rfl, h3, fun _ => ⟨g, 0, rfl, hN g rfl, fun j hj => ?_⟩⟩
    have := h.cellAt j (by omega)
    rw [Nat.zero_add, this]
    simp [iv, List.getElem?_eq_getElem hj]

/-- What NewCustom answers. -/
def cusE (l : List (List UInt8 × Int)) (ws : List Int) : Int := if 4096 < l.length ∨ 4096 < ws.length then 3 else if ∃ x ∈ l, 1048576 < x.1.length then 5 else 0
def CusNew (l : List (List UInt8 × Int)) (ws : List Int) (w : World) (e : Ending) (w' : World) : Prop := ((∃ x ∈ l, 1048576 < x.1.length) ∧ e = .returned (.tuple #[.pointer none, .int .i64 5]) ∧ Below w.heap.size w w') ∨
  ((∀ x ∈ l, x.1.length ≤ 1048576) ∧ ∃ g, e = .returned (.tuple #[.pointer (some ⟨g, 0, none⟩), .int .i64 0]) ∧ CusAt w' (fun k => w.heap.size ≤ k) g ⟨l, ws, []⟩ ∧ Below w.heap.size w w')
/-- What stands behind '&Custom{..}'. -/
theorem cus_new {w0 w1 w2 : World} {l : List (List UInt8 × Int)} {ws : List Int} {u : Value} {s' : Value} (hA : Ans w1 (fun k => w0.heap.size ≤ k) u (l.map nrm)) (hB : Below w0.heap.size w0 w1) (hs : w2.ownsRow w1.heap.size 3 1 s' ws.length (ws.map iv)) (hg : w1.grownBy w2 none) (z1 : l.length ≤ 4096) (z2 : ws.length ≤ 4096) (hl : ∀ x ∈ l, x.1.length ≤ 1048576) :
    CusAt (w2.alloc (Obj.cells #[.bool true, u, s', .slice none 0 0] 75)) (fun k => w0.heap.size ≤ k) w2.heap.size ⟨l, ws, []⟩ ∧ Below w0.heap.size w0 (w2.alloc (Obj.cells #[.bool true, u, s', .slice none 0 0] 75)) := by
  have hB12 : Below w1.heap.size w1 w2 := (Below.refl _ w1).grown hg (Nat.le_refl _) (fun k e => by cases e)
  have hB2 := recv4 w2 (Obj.cells #[.bool true, u, s', .slice none 0 0] 75)
  have hz1 := hB.size
  have hz2 := hB12.size
  have hB0 := hB.trans (hB12.mono hB.size)
  have hA2 : Ans (w2.alloc (Obj.cells #[.bool true, u, s', .slice none 0 0] 75)) (fun k => w0.heap.size ≤ k ∧ k < w1.heap.size) u (l.map nrm) :=
    (cus_rows hA (N := fun _ => True) (wv := .slice none 0 0) (ws := []) ⟨_, _, rfl, Nat.le_refl _, fun h => absurd h (by simp)⟩).1.keep (fun k _ hk => (hB2.block k (by omega)).trans (hB12.block k hk))
  have hs2 := owns_below hs hB2
  refine ⟨⟨u, s', .slice none 0 0, fun k => w0.heap.size ≤ k ∧ k < w1.heap.size, fun k => w1.heap.size ≤ k ∧ k < w2.heap.size, ⟨?_, ?_, ?_, ?_⟩, ⟨?_, ?_, ?_⟩, hA2, owns_nrow hs2 (fun k e => hs.lt k e), World.ownsRow_nil _ _ _ _, fun k e => (by cases e), fun k e => ⟨e.1, by have := e.2; omega, fun e' => by have := e.2; have := e'.1; omega⟩, fun k e => ⟨by have := e.1; omega, by have := e.2; omega⟩, by show w0.heap.size ≤ w2.heap.size; omega, z1, z2, hl⟩, hB0.alloc hB0.size _⟩
  · simp only [World.cell?, heap_alloc_new]; rfl
  · simp only [World.cell?, heap_alloc_new]; rfl
  · simp only [World.cell?, heap_alloc_new]; rfl
  · simp only [World.cell?, heap_alloc_new]; rfl
  · simp only [World.frozen?, heap_alloc_new]; rfl
  · simp only [World.frozen?, heap_alloc_new]; rfl
  · simp only [World.frozen?, heap_alloc_new]; rfl
set_option maxHeartbeats 1000000 in
theorem newCustom_count (a1 a2 : Option Addr) (n1 n2 c1 c2 : Nat) (w : World) (h : 4096 < n1 ∨ 4096 < n2) :
    Calls Try.prog 14 #[.slice a1 n1 c1, .slice a2 n2 c2] w fun e w' => e = .returned (.tuple #[.pointer none, .int .i64 3]) ∧ w = w' := by
  rcases (show (4096 : Int) < (n1 : Int) ∨ (¬ (4096 : Int) < (n1 : Int) ∧ (4096 : Int) < (n2 : Int)) by omega) with h1 | ⟨h1, h2⟩
  all_goals
    clear h
    go_enter Try.func14, Try.ntmps14
    go_wp2
    go_ret2
    exact ⟨rfl, rfl⟩
set_option maxRecDepth 100000 in
set_option maxHeartbeats 2000000 in
theorem newCustom_any (v1 v2 : Value) (l : List (List UInt8 × Int)) (ws : List Int) (w : World) (h1 : AnsR w v1 l) (h2 : IntsR w v2 ws) (z1 : l.length ≤ 4096) (z2 : ws.length ≤ 4096) :
    Calls Try.prog 14 #[v1, v2] w (CusNew l ws w) := by
  have H1 := hide h1
  have H2 := hide h2
  obtain ⟨a1, c1, rfl, hc⟩ := h1
  obtain ⟨a2, c2, rfl⟩ := h2.form
  have HC := hide hc
  clear hc h2
  have q1 : ¬ (4096 : Int) < (l.length : Int) := by omega
  have q2 : ¬ (4096 : Int) < (ws.length : Int) := by omega
  go_enter Try.func14, Try.ntmps14
  go_wp2
  go_loopw [7, 18] (fun _ i wr => ∃ k : Nat, k ≤ l.length ∧ i = .int .i64 k ∧ Hid (∀ j (hj : j < l.length), j < k → l[j].1.length ≤ 1048576) ∧ Hid (Below w.heap.size w wr)) (fun _ i _ => l.length - (intOf i).toNat)
  case atStart => exact ⟨0, Nat.zero_le _, rfl, hide (fun j hj e => absurd e (by omega)), hide (Below.refl _ _)⟩
  case round =>
    obtain ⟨k, hk, rfl, HI, HB⟩ := hrel
    by_cases hlt : k < l.length
    · obtain ⟨b, off, rfl, hc⟩ := HC.out (by omega)
      obtain ⟨va, vc, a1, a2, a3, a4⟩ := hc k hlt
      have hbl := World.block_lt_of_cell? w _ a1
      have e1 := (HB.out.cell (p := ⟨b, off + k * 2, none⟩) hbl).trans a1
      have e2 := (HB.out.cell (p := ⟨b, off + k * 2 + 1, none⟩) hbl).trans a2
      have hk1 : (0 : Int) ≤ (k : Int) := by omega
      have hk2 : (k : Int) < (l.length : Int) := by omega
      have HL := hide (And.intro (List.getElem_mem hlt) (rfl : l[k] = l[k]))
      have HB2 := hide ((HB.out.trans ((recv4 wr (Obj.cells #[Value.slice va l[k].1.length vc, Value.int IntKind.i64 l[k].2] 64)).mono HB.out.size)))
      by_cases hx : 1048576 < l[k].1.length
      · have hx' : (1048576 : Int) < (l[k].1.length : Int) := by omega
        clear hc HC a1 a2 a3 a4
        go_wp2
        go_ret2
        exact .inl ⟨⟨l[k], HL.out.1, hx⟩, rfl, HB2.out⟩
      · have hx' : ¬ (1048576 : Int) < (l[k].1.length : Int) := by omega
        clear hc HC a1 a2 a3 a4
        go_wp2
        refine ⟨⟨k + 1, by omega, by go_num, hide (fun j hj e => ?_), HB2⟩, by simp [intOf]; omega⟩
        by_cases hjk : j = k
        · subst hjk; omega
        · exact HI.out j hj (by omega)
    · have hall : ∀ x ∈ l, x.1.length ≤ 1048576 := fun x hx => by
        obtain ⟨j, hj, rfl⟩ := List.getElem_of_mem hx
        exact HI.out j hj (by omega)
      have HA := hide hall
      clear hall HI HC
      go_wp2_with fail
      refine (copiedAnswers_any _ l _ (H1.out.below HB.out) (by omega) HA.out).mono ?_
      rintro _ w2 ⟨u, rfl, hA2, hB2⟩
      obtain ⟨s', w3, hrun, HS, hgr⟩ := run_append_ints w2 24 _ ws ((H2.out.below HB.out).below hB2) (by omega)
      have HR := hide hrun
      have HA2 := hide (And.intro hA2 (HB.out.trans (hB2.mono HB.out.size)))
      obtain ⟨ua, uc, rfl, -⟩ := hA2
      obtain ⟨sa, sc, rfl⟩ := owns_slice HS.out
      have HG := hide hgr
      clear hrun hgr hB2
      go_wp2_with (at_builtin; refine Lib.wpList_append_run _ rfl _ _ _ _ rfl _ _ rfl rfl _ _ HR.out ?_)
      go_ret2
      have hAA : Ans w2 (fun k => w.heap.size ≤ k) (.slice ua (l.map nrm).length uc) (l.map nrm) := by
        obtain ⟨a, cap, e0, e1, e2⟩ := HA2.out.1
        refine ⟨a, cap, e0, e1, fun h0 => ?_⟩
        obtain ⟨b, off, r1, r2, r3⟩ := e2 h0
        have hz := HB.out.size
        refine ⟨b, off, r1, Nat.le_trans hz r2, fun j hj => ?_⟩
        obtain ⟨va, vc, g1, g2, g3, g4, g5, g6, g7⟩ := r3 j hj
        exact ⟨va, vc, g1, g2, g3, g4, g5, g6, fun h0 k hk => Nat.le_trans hz (g7 h0 k hk)⟩
      obtain ⟨d1, d2⟩ := cus_new hAA HA2.out.2 HS.out HG.out z1 z2 HA.out
      rw [List.length_map] at d1 d2
      exact .inr ⟨HA.out, _, rfl, d1, d2⟩
end Go.Proofs.Ytimggonlfkboaaa
