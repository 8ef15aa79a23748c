/- Answers for the program: the law's answers. -/
import Derived.Test.YtimggonlfkboaaaMeNew2
import Derived.Deep.LoopGhost
namespace Go.Proofs.Ytimggonlfkboaaa
open Go.RowKit

/-- Cells of answers that lie in W. -/
def ACl (W : World) (l : List (List UInt8 × Int)) (xs : List Value) : Prop := xs.length = l.length * 2 ∧ ∀ j (hj : j < l.length), ∃ va vc, xs[j * 2]? = some (.slice va l[j].1.length vc) ∧ xs[j * 2 + 1]? = some (.int .i64 l[j].2) ∧ Bys W (.slice va l[j].1.length vc) l[j].1 ∧ l[j].1.length ≤ vc
theorem duo_cells (w : World) (a b : Value) (t : TypeId) : (w.alloc (Obj.cells #[a, b] t)).cell? ⟨w.heap.size, 0, none⟩ = some a ∧ (w.alloc (Obj.cells #[a, b] t)).cell? ⟨w.heap.size, 1, none⟩ = some b := by
  constructor <;> (simp only [World.cell?, heap_alloc_new]; rfl)
theorem ACl.snoc {W : World} {l : List (List UInt8 × Int)} {xs : List Value} (h : ACl W l xs) (x : List UInt8 × Int) (va : Option Addr) (vc : Nat) (hb : Bys W (.slice va x.1.length vc) x.1) (hc : x.1.length ≤ vc) : ACl W (l ++ [x]) (xs ++ [.slice va x.1.length vc, .int .i64 x.2]) := by
  obtain ⟨h1, h2⟩ := h
  refine ⟨by simp; omega, fun j hj => ?_⟩
  by_cases hlt : j < l.length
  · obtain ⟨va', vc', e1, e2, e3⟩ := h2 j hlt
    rw [List.getElem_append_left hlt]
    exact ⟨va', vc', by rw [List.getElem?_append_left (by omega)]; exact e1, by rw [List.getElem?_append_left (by omega)]; exact e2, e3⟩
  · obtain rfl : j = l.length := by simp at hj; omega
    rw [List.getElem_append_right (Nat.le_refl _)]
    refine ⟨va, vc, ?_, ?_, by simpa using hb, by simpa using hc⟩
    · rw [List.getElem?_append_right (by omega), h1, Nat.sub_self]; simp
    · rw [List.getElem?_append_right (by omega), h1, show l.length * 2 + 1 - l.length * 2 = 1 by omega]; simp
theorem acl_ansR {W w : World} {base : Nat} {v : Value} {l : List (List UInt8 × Int)} {xs : List Value} (h1 : w.ownsRow base 64 2 v l.length xs) (h2 : ACl W l xs) (hB : Below W.heap.size W w) : AnsR w v l := by
  rcases h1.2 with ⟨rfl, h0⟩ | ⟨g, cap, cur, rfl, hr⟩
  · obtain rfl : l = [] := List.length_eq_zero_iff.1 h0
    exact ⟨_, _, rfl, fun h => absurd h (by simp)⟩
  · refine ⟨_, cap, rfl, fun _ => ⟨g, 0, rfl, fun j hj => ?_⟩⟩
    obtain ⟨va, vc, e1, e2, e3, e4⟩ := h2.2 j hj
    have hx := h2.1
    have k1 := h1.cellAt (j * 2) (by omega)
    have k2 := h1.cellAt (j * 2 + 1) (by omega)
    rw [e1] at k1
    rw [e2] at k2
    rw [Nat.zero_add]
    exact ⟨va, vc, k1, k2, e3.below hB, e4⟩
theorem AnsR.at {W W' : World} {a : Option Addr} {n c : Nat} {l : List (List UInt8 × Int)} (h : AnsR W (.slice a n c) l) (hB : Below W.heap.size W W') (j : Nat) (hj : j < l.length) :
    ∃ b off va vc, a = some ⟨b, off, none⟩ ∧ b < W.heap.size ∧ W'.cell? ⟨b, off + j * 2, none⟩ = some (.slice va l[j].1.length vc) ∧ W'.cell? ⟨b, off + j * 2 + 1, none⟩ = some (.int .i64 l[j].2) ∧ Bys W (.slice va l[j].1.length vc) l[j].1 ∧ l[j].1.length ≤ vc := by
  obtain ⟨a', c', he, hc⟩ := h
  cases he
  obtain ⟨b, off, rfl, hd⟩ := hc (by omega)
  obtain ⟨va, vc, a1, a2, a3, a4⟩ := hd j hj
  have hl := World.block_lt_of_cell? W _ a1
  exact ⟨b, off, va, vc, rfl, hl, (hB.cell (p := ⟨b, off + j * 2, none⟩) hl).trans a1, (hB.cell (p := ⟨b, off + j * 2 + 1, none⟩) hl).trans a2, a3, a4⟩
/-- append(s, x) of an answer, of either package. -/
theorem run_append_ans (w : World) (t e ty : TypeId) (base : Nat) (s : Value) (n : Nat) (xs : List Value) (g : Nat) (u0 u1 : Value) (ht : Try.prog.underlying t = some (.slice e)) (hinf : (Try.prog.info? e).map (fun i => (i.zero, i.size, i.bytes)) = some (some (.agg #[.slice none 0 0, .int .i64 0]), 2, 32))
    (hs : w.ownsRow base e 2 s n xs) (c0 : w.cell? ⟨g, 0, none⟩ = some u0) (c1 : w.cell? ⟨g, 1, none⟩ = some u1) (o0 : u0.oneCell' = true) (o1 : u1.oneCell' = true) (hn : (n + 1) * 32 ≤ 140737488355328) (hb : base ≤ w.heap.size) :
    ∃ sa sc w', (Builtin.append_ #[t, t] ty #[s, .slice (some ⟨g, 0, none⟩) 1 1]).run Try.prog w = .ok (.slice sa (n + 1) sc) w' ∧ Hid (w'.ownsRow base e 2 (.slice sa (n + 1) sc) (n + 1) (xs ++ [u0, u1])) ∧ w.grownBy w' s.ownBlock ∧ ((Value.slice sa (n + 1) sc).ownBlock = s.ownBlock ∨ (Value.slice sa (n + 1) sc).ownBlock = some w.heap.size) := by
  obtain ⟨i0, hi, hz0, hz1, hz2⟩ := info_parts hinf
  obtain ⟨v', w', r1, r2, r3, _, r5⟩ := run_append_own_at (P := Try.prog) w base t ty e i0 (.agg #[.slice none 0 0, .int .i64 0]) 2 32 ht hi hz0 hz1 hz2 rfl (by decide) s _ _ hs ⟨g, 0, none⟩ 1 1 [u0, u1] rfl (fun j u hj => by
    have hadd : (⟨g, 0, none⟩ : Addr).add j = ⟨g, j, none⟩ := by unfold Addr.add; split <;> simp_all
    rw [hadd]
    match j, hj with
    | 0, hj => simp at hj; subst hj; exact c0
    | 1, hj => simp at hj; subst hj; exact c1) (by intro u hu; simp at hu; rcases hu with rfl | rfl; exact o0; exact o1) (by unfold maxLen; omega) (by omega) hb
  obtain ⟨sa, sc, rfl⟩ := owns_slice r2
  exact ⟨sa, sc, w', r1, r2, r3, r5⟩
set_option maxRecDepth 100000 in
set_option maxHeartbeats 4000000 in
theorem answers_any (a : Option Addr) (c : Nat) (l : List (List UInt8 × Int)) (w : World) (h : AnsR w (.slice a l.length c) l) (hs : l.length * 32 ≤ 140737488351232) :
    Calls Try.prog 15 #[.slice a l.length c] w fun e w' => ∃ va vc, e = .returned (.slice va l.length vc) ∧ AnsR w' (.slice va l.length vc) l ∧ Below w.heap.size w w' := by
  have H := hide h
  clear h
  go_enter Try.func15, Try.ntmps15
  go_wp2
  have H0 : Hid (w.ownsRow w.heap.size 64 2 (.slice none 0 0) 0 [] ∧ ACl w (l.take 0) []) := hide ⟨World.ownsRow_nil _ _ _ _, by simp [ACl]⟩
  go_loopg [3, 4] l.length (fun gq s3 s4 wx => ∃ (k : Nat) (xs : List Value), k + gq = l.length ∧ s4 = .int .i64 k ∧ (∃ sa sc, s3 = .slice sa k sc) ∧ Hid (wx.ownsRow w.heap.size 64 2 s3 k xs ∧ ACl w (l.take k) xs) ∧ Hid (Below w.heap.size w wx))
  case atStart => exact ⟨0, [], by omega, rfl, ⟨none, 0, rfl⟩, H0, hide (Below.refl _ _)⟩
  case round =>
    clear H0
    obtain ⟨k, xs, hkg, rfl, ⟨sa, sc, rfl⟩, HI, HB⟩ := hrel
    have hz := HB.out.size
    by_cases hlt : k < l.length
    · obtain ⟨gq, rfl⟩ : ∃ gq, gk = gq + 1 := ⟨gk - 1, by omega⟩
      obtain ⟨b, off, va, vc, rfl, hbl, q0, q1, hby, hcap⟩ := H.out.at HB.out k hlt
      have hk1 : (0 : Int) ≤ (k : Int) := by omega
      have hk2 : (k : Int) < (l.length : Int) := by omega
      have HE : Hid (l.take (k + 1) = l.take k ++ [l[k]]) := hide (List.take_succ_eq_append_getElem hlt)
      have HA := hide (HI.out.2.snoc l[k] va vc hby hcap)
      generalize l[k] = y at *
      obtain ⟨d, e⟩ := y
      simp only at *
      have hBa := recv4 wr.drew (Obj.cells #[.slice va d.length vc, .int .i64 e] 64)
      have c0 : (wr.drew.alloc (Obj.cells #[.slice va d.length vc, .int .i64 e] 64)).cell? ⟨wr.heap.size, 0, none⟩ = some (.slice va d.length vc) := (duo_cells wr.drew _ _ _).1
      have c1 : (wr.drew.alloc (Obj.cells #[.slice va d.length vc, .int .i64 e] 64)).cell? ⟨wr.heap.size, 1, none⟩ = some (.int .i64 e) := (duo_cells wr.drew _ _ _).2
      obtain ⟨sa', sc', w4, hrun, HO, hgr, -⟩ := run_append_ans _ 46 64 46 w.heap.size _ k xs wr.heap.size _ _ Try.underlying46 Try.infoA (owns_below (owns_below HI.out.1 (Below.refl _ _).drew) hBa) c0 c1 rfl rfl (by omega) (Nat.le_trans hz hBa.size)
      have HR := hide hrun
      have hBw := (HB.out.drew).trans (hBa.mono hz)
      have HB4 := hide (hBw.grown hgr hBw.size (fun j e => (HI.out.1.lt j e).1))
      clear hrun hgr hBa hBw c0 c1 hby HI
      go_wp2_with fail
      go_region_law (first | (refine step_append_run _ (by rfl) _ _ _ _ (by rfl) _ _ (by rfl) (by rfl) _ _ HR.out ?_) | fail)
      all_goals
        go_wp2
        go_roundg gq
        case measure => omega
        case rel => exact ⟨k + 1, _, by omega, by go_num, ⟨sa', sc', rfl⟩, hide ⟨HO.out, by rw [HE.out]; exact HA.out⟩, HB4⟩
    · obtain rfl : k = l.length := by omega
      go_wp2
      go_ret
      have h1 := HI.out
      rw [List.take_of_length_le (Nat.le_refl _)] at h1
      exact ⟨sa, sc, rfl, acl_ansR h1.1 h1.2 HB.out, HB.out⟩
end Go.Proofs.Ytimggonlfkboaaa
