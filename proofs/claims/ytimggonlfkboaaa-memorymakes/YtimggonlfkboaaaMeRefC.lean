/- The reference's custom stream: made. -/
import Derived.Test.YtimggonlfkboaaaMeRef
import Derived.Test.YtimggonlfkboaaaMeAns
namespace Go.Proofs.Ytimggonlfkboaaa
open Go.RowKit

theorem Try.infoR : (Try.prog.info? 86).map (fun i => (i.zero, i.size, i.bytes)) = some (some (.agg #[.slice none 0 0, .int .i64 0]), 2, 32) := by kernel_rfl
/-- Cells of answers whose bytes are rows of one's own, at base and above. -/
def ARw (W : World) (base : Nat) (l : List (List UInt8 × Int)) (xs : List Value) : Prop := xs.length = l.length * 2 ∧ ∀ j (hj : j < l.length), ∃ va vc, xs[j * 2]? = some (.slice va l[j].1.length vc) ∧ xs[j * 2 + 1]? = some (.int .i64 l[j].2) ∧ W.ownsRow base 5 1 (.slice va l[j].1.length vc) l[j].1.length (l[j].1.map bv)
theorem ARw.keep {W W' : World} {base : Nat} {l : List (List UInt8 × Int)} {xs : List Value} (h : ARw W base l xs) (hk : ∀ k va vc n (d : List UInt8), W.ownsRow base 5 1 (.slice va n vc) n (d.map bv) → (Value.slice va n vc).ownBlock = some k → W'.heap[k]? = W.heap[k]?) : ARw W' base l xs := by
  refine ⟨h.1, fun j hj => ?_⟩
  obtain ⟨va, vc, e1, e2, e3⟩ := h.2 j hj
  exact ⟨va, vc, e1, e2, owns_keep e3 fun k hk' => hk k va vc _ _ e3 hk'⟩
theorem ARw.below {W W' : World} {base : Nat} {l : List (List UInt8 × Int)} {xs : List Value} (h : ARw W base l xs) (hB : Below W.heap.size W W') : ARw W' base l xs := h.keep fun k _ _ _ _ h1 h2 => hB.block k (h1.lt k h2).2
theorem ARw.snoc {W : World} {base : Nat} {l : List (List UInt8 × Int)} {xs : List Value} (h : ARw W base l xs) (x : List UInt8 × Int) (va : Option Addr) (vc : Nat) (hb : W.ownsRow base 5 1 (.slice va x.1.length vc) x.1.length (x.1.map bv)) : ARw W base (l ++ [x]) (xs ++ [.slice va x.1.length vc, .int .i64 x.2]) := by
  obtain ⟨h1, h2⟩ := h
  refine ⟨by simp; omega, fun j hj => ?_⟩
  by_cases hlt : j < l.length
  · obtain ⟨va', vc', e1, e2, e3⟩ := h2 j hlt
    rw [List.getElem_append_left hlt]
    exact ⟨va', vc', by rw [List.getElem?_append_left (by omega)]; exact e1, by rw [List.getElem?_append_left (by omega)]; exact e2, e3⟩
  · obtain rfl : j = l.length := by simp at hj; omega
    rw [List.getElem_append_right (Nat.le_refl _)]
    refine ⟨va, vc, ?_, ?_, by simpa using hb⟩
    · rw [List.getElem?_append_right (by omega), h1, Nat.sub_self]; simp
    · rw [List.getElem?_append_right (by omega), h1, show l.length * 2 + 1 - l.length * 2 = 1 by omega]; simp
/-- Rows of two element types never share a block. -/
theorem owns_other {W : World} {b1 b2 e1 e2 s1 s2 n1 n2 : Nat} {v1 v2 : Value} {x1 x2 : List Value} (h1 : W.ownsRow b1 e1 s1 v1 n1 x1) (h2 : W.ownsRow b2 e2 s2 v2 n2 x2) (hne : e1 ≠ e2) (k : Nat) (k1 : v1.ownBlock = some k) (k2 : v2.ownBlock = some k) : False := by
  rcases h1.2 with ⟨rfl, _⟩ | ⟨g, cap, cur, rfl, _, hg, _⟩
  · cases k1
  · rcases h2.2 with ⟨rfl, _⟩ | ⟨g', cap', cur', rfl, _, hg', _⟩
    · cases k2
    · obtain rfl : g = k := by simpa [Value.ownBlock] using k1
      obtain rfl : g' = g := by simpa [Value.ownBlock] using k2
      rw [hg] at hg'
      injection hg' with hg'
      injection hg' with _ h5 _
      exact hne h5
set_option maxHeartbeats 1000000 in
theorem rnewCustom_count (a1 a2 : Option Addr) (n1 n2 c1 c2 : Nat) (w : World) (h : 4096 < n1 ∨ 4096 < n2) :
    Calls Try.prog 16 #[.slice a1 n1 c1, .slice a2 n2 c2] w fun e w' => e = .returned (.tuple #[.pointer none, .int .i64 3]) ∧ w = w' := by
  rcases (show (4096 : Int) < (n1 : Int) ∨ (¬ (4096 : Int) < (n1 : Int) ∧ (4096 : Int) < (n2 : Int)) by omega) with h1 | ⟨h1, h2⟩
  all_goals
    clear h
    go_enter Try.func16, Try.ntmps16
    go_wp2
    go_ret2
    exact ⟨rfl, rfl⟩
/-- The block of a reference's stream that is being made. -/
structure RBlk (W : World) (g : Nat) (rv wv : Value) : Prop where
  c0 : W.cell? ⟨g, 0, none⟩ = some (.int .i64 4)
  c1 : W.cell? ⟨g, 1, none⟩ = some (.slice none 0 0)
  c4 : W.cell? ⟨g, 4, none⟩ = some rv
  c5 : W.cell? ⟨g, 5, none⟩ = some wv
  c8 : W.cell? ⟨g, 8, none⟩ = some (.int .i64 0)
  f1 : W.frozen? ⟨g, 1, none⟩ = false
  f4 : W.frozen? ⟨g, 4, none⟩ = false
  f5 : W.frozen? ⟨g, 5, none⟩ = false
  f8 : W.frozen? ⟨g, 8, none⟩ = false
theorem RBlk.keep {W W' : World} {g : Nat} {rv wv : Value} (h : RBlk W g rv wv) (hk : W'.heap[g]? = W.heap[g]?) : RBlk W' g rv wv :=
  ⟨(World.cell?_of_block (w := W) hk).trans h.c0, (World.cell?_of_block (w := W) hk).trans h.c1, (World.cell?_of_block (w := W) hk).trans h.c4, (World.cell?_of_block (w := W) hk).trans h.c5, (World.cell?_of_block (w := W) hk).trans h.c8,
    (World.frozen?_of_block (w := W) hk).trans h.f1, (World.frozen?_of_block (w := W) hk).trans h.f4, (World.frozen?_of_block (w := W) hk).trans h.f5, (World.frozen?_of_block (w := W) hk).trans h.f8⟩
theorem RBlk.set4 {W : World} {g : Nat} {rv wv : Value} (h : RBlk W g rv wv) (u : Value) : RBlk (W.setCell ⟨g, 4, none⟩ u) g u wv :=
  ⟨(World.cell?_setCell_other _ _ _ _ (by simp)).trans h.c0, (World.cell?_setCell_other _ _ _ _ (by simp)).trans h.c1, World.cell?_setCell_same _ _ _ h.c4, (World.cell?_setCell_other _ _ _ _ (by simp)).trans h.c5, (World.cell?_setCell_other _ _ _ _ (by simp)).trans h.c8,
    (World.frozen?_setCell _ _ _ _).trans h.f1, (World.frozen?_setCell _ _ _ _).trans h.f4, (World.frozen?_setCell _ _ _ _).trans h.f5, (World.frozen?_setCell _ _ _ _).trans h.f8⟩
theorem RBlk.set5 {W : World} {g : Nat} {rv wv : Value} (h : RBlk W g rv wv) (u : Value) : RBlk (W.setCell ⟨g, 5, none⟩ u) g rv u :=
  ⟨(World.cell?_setCell_other _ _ _ _ (by simp)).trans h.c0, (World.cell?_setCell_other _ _ _ _ (by simp)).trans h.c1, (World.cell?_setCell_other _ _ _ _ (by simp)).trans h.c4, World.cell?_setCell_same _ _ _ h.c5, (World.cell?_setCell_other _ _ _ _ (by simp)).trans h.c8,
    (World.frozen?_setCell _ _ _ _).trans h.f1, (World.frozen?_setCell _ _ _ _).trans h.f4, (World.frozen?_setCell _ _ _ _).trans h.f5, (World.frozen?_setCell _ _ _ _).trans h.f8⟩
theorem rblk_new (w : World) : RBlk (w.alloc (Obj.cells #[.int .i64 4, .slice none 0 0, .int .i64 0, .int .i64 0, .slice none 0 0, .slice none 0 0, .pointer none, .int .i64 0, .int .i64 0] 84)) w.heap.size (.slice none 0 0) (.slice none 0 0) := by
  refine ⟨?_, ?_, ?_, ?_, ?_, ?_, ?_, ?_, ?_⟩ <;> first | (simp only [World.cell?, heap_alloc_new]; rfl) | (simp only [World.frozen?, heap_alloc_new]; rfl)
/-- A round of the loop, but for its store: what is held where. -/
def RIn (W : World) (g k : Nat) (sa : Option Addr) (sc : Nat) (l : List (List UInt8 × Int)) (xs : List Value) : Prop := RBlk W g (.slice sa k sc) (.slice none 0 0) ∧ W.ownsRow (g + 1) 86 2 (.slice sa k sc) k xs ∧ ARw W (g + 1) l xs
def RS (W : World) (b o : Nat) (va : Option Addr) (vc n : Nat) (e : Int) : Prop := W.cell? ⟨b, o, none⟩ = some (.slice va n vc) ∧ W.cell? ⟨b, o + 1, none⟩ = some (.int .i64 e)
set_option maxHeartbeats 1000000 in
theorem rnc_step (w wr : World) (k : Nat) (sa : Option Addr) (sc : Nat) (l : List (List UInt8 × Int)) (xs : List Value) (b o : Nat) (va : Option Addr) (vc : Nat) (d : List UInt8) (e : Int) (hk : k ≤ 4096) (hd : d.length ≤ 1048576) (hI : RIn wr w.heap.size k sa sc l xs) (hB : Below w.heap.size w wr) (hz : w.heap.size + 1 ≤ wr.heap.size) (hb : b < w.heap.size) (hS : RS wr b o va vc d.length e) (hby : Bys wr (.slice va d.length vc) d) :
    Calls Try.prog 35 #[.slice va d.length vc] wr.drew fun en w2 => ∃ ua uc sa' sc' w7, en = .returned (.slice ua d.length uc) ∧ Hid ((Builtin.append_ #[23, 23] 23 #[.slice sa k sc, .slice (some ⟨w2.heap.size, 0, none⟩) 1 1]).run Try.prog (w2.alloc (Obj.cells #[.slice ua d.length uc, .int .i64 e] 86)) = .ok (.slice sa' (k + 1) sc') w7) ∧
      RS w2 b o va vc d.length e ∧ RS (w2.alloc (Obj.cells #[.slice ua d.length uc, .int .i64 e] 86)) b o va vc d.length e ∧ RS w7 b o va vc d.length e ∧ RS (w7.setCell ⟨w.heap.size, 4, none⟩ (.slice sa' (k + 1) sc')) b o va vc d.length e ∧
      (w2.cell? ⟨w.heap.size, 4, none⟩ = some (.slice sa k sc) ∧ (w2.alloc (Obj.cells #[.slice ua d.length uc, .int .i64 e] 86)).cell? ⟨w.heap.size, 4, none⟩ = some (.slice sa k sc) ∧ w7.cell? ⟨w.heap.size, 4, none⟩ = some (.slice sa k sc) ∧ w7.frozen? ⟨w.heap.size, 4, none⟩ = false) ∧
      Hid (RIn (w7.setCell ⟨w.heap.size, 4, none⟩ (.slice sa' (k + 1) sc')) w.heap.size (k + 1) sa' sc' (l ++ [(d, e)]) (xs ++ [.slice ua d.length uc, .int .i64 e]) ∧ Below w.heap.size w (w7.setCell ⟨w.heap.size, 4, none⟩ (.slice sa' (k + 1) sc')) ∧ w.heap.size + 1 ≤ (w7.setCell ⟨w.heap.size, 4, none⟩ (.slice sa' (k + 1) sc')).heap.size) := by
  have hsd : wr.drew.heap.size = wr.heap.size := rfl
  have hBd : Below wr.heap.size wr wr.drew := (Below.refl _ wr).drew
  refine (rcopied_me _ d _ (hby.below hBd) (by omega)).mono ?_
  rintro _ w2 ⟨ua, uc, rfl, hownu, hB2⟩
  have hB2' : Below wr.heap.size wr w2 := hBd.trans hB2
  have hBa : Below w2.heap.size w2 (w2.alloc (Obj.cells #[.slice ua d.length uc, .int .i64 e] 86)) := recv4 _ _
  have hz2 := hB2'.size
  have hza := hBa.size
  have hBra := hB2'.trans (hBa.mono hz2)
  have hU := owns_below hownu hBa
  have hO := owns_below hI.2.1 hBra
  have hA := hI.2.2.below hBra
  obtain ⟨sa', sc', w7, hrun, HO7, hg7, -⟩ := run_append_ans (w2.alloc (Obj.cells #[.slice ua d.length uc, .int .i64 e] 86)) 23 86 23 (w.heap.size + 1) _ k xs w2.heap.size _ _ Try.underlying23 Try.infoR hO (duo_cells w2 _ _ _).1 (duo_cells w2 _ _ _).2 rfl rfl (by omega) (by omega)
  refine ⟨ua, uc, sa', sc', w7, rfl, ?_⟩
  generalize w2.alloc (Obj.cells #[.slice ua d.length uc, .int .i64 e] 86) = wa at *
  have hz7 := hg7.size
  have hbk : ∀ j, j < w.heap.size + 1 → w7.heap[j]? = wr.heap[j]? := fun j h1 => (hg7.block j (by omega) (fun e => by have := (hO.lt j e.symm).1; omega)).trans (hBra.block j (by omega))
  have hB7 : Below w.heap.size w w7 := by
    have h1 := hB.trans (hBra.mono hB.size)
    exact h1.grown hg7 h1.size (fun j e => by have := (hO.lt j e).1; omega)
  have hRB : RBlk w7 w.heap.size (.slice sa k sc) (.slice none 0 0) := hI.1.keep (hbk _ (by omega))
  have K7 : RS w7 b o va vc d.length e := ⟨(World.cell?_of_block (w := wr) (a := ⟨b, o, none⟩) (hbk b (by omega))).trans hS.1, (World.cell?_of_block (w := wr) (a := ⟨b, o + 1, none⟩) (hbk b (by omega))).trans hS.2⟩
  have hA7 : ARw w7 (w.heap.size + 1) l xs := hA.keep fun j va vc n d h1 h2 => hg7.block j (h1.lt j h2).2 (fun e => owns_other h1 hO (by decide) j h2 e.symm)
  have hU7 := owns_keep (W' := w7) hU fun j h2 => hg7.block j (hU.lt j h2).2 (fun e => owns_other hU hO (by decide) j h2 e.symm)
  have hA8 := hA7.snoc (d, e) ua uc (owns_mono hU7 (by omega))
  have far : ∀ j, w.heap.size + 1 ≤ j → (w7.setCell ⟨w.heap.size, 4, none⟩ (.slice sa' (k + 1) sc')).heap[j]? = w7.heap[j]? := fun j h1 => heap_setCell_other _ _ _ _ (by show j ≠ w.heap.size; omega)
  refine ⟨hide hrun, ⟨(hB2'.cell (p := ⟨b, o, none⟩) (by show b < _; omega)).trans hS.1, (hB2'.cell (p := ⟨b, o + 1, none⟩) (by show b < _; omega)).trans hS.2⟩, ⟨(hBra.cell (p := ⟨b, o, none⟩) (by show b < _; omega)).trans hS.1, (hBra.cell (p := ⟨b, o + 1, none⟩) (by show b < _; omega)).trans hS.2⟩, K7, ⟨(World.cell?_setCell_far _ _ _ _ (by show w.heap.size ≠ b; omega)).trans K7.1, (World.cell?_setCell_far _ _ _ _ (by show w.heap.size ≠ b; omega)).trans K7.2⟩, ⟨(hB2'.cell (p := ⟨w.heap.size, 4, none⟩) (by show w.heap.size < _; omega)).trans hI.1.c4, (hBra.cell (p := ⟨w.heap.size, 4, none⟩) (by show w.heap.size < _; omega)).trans hI.1.c4, hRB.c4, hRB.f4⟩,
    hide ⟨⟨hRB.set4 _, owns_keep HO7.out fun j h2 => far j (HO7.out.lt j h2).1, hA8.keep fun j va vc n d h1 h2 => far j (h1.lt j h2).1⟩, hB7.setCell (p := ⟨w.heap.size, 4, none⟩) (Nat.le_refl _) _, by simp only [World.setCell, Array.size_modify]; omega⟩⟩
/-- What a reference's stream that was made has. -/
def RCus0 (W : World) (g : Nat) (l : List (List UInt8 × Int)) (ws : List Int) : Prop :=
  ∃ sa sc xs wv, RBlk W g (.slice sa l.length sc) wv ∧ W.ownsRow (g + 1) 86 2 (.slice sa l.length sc) l.length xs ∧ ARw W (g + 1) l xs ∧ W.ownsRow (g + 1) 3 1 wv ws.length (ws.map iv)
set_option maxRecDepth 100000 in
set_option maxHeartbeats 4000000 in
theorem rnewCustom_any (a1 : Option Addr) (c1 : Nat) (v2 : Value) (l : List (List UInt8 × Int)) (ws : List Int) (w : World) (h1 : AnsR w (.slice a1 l.length c1) l) (h2 : IntsR w v2 ws) (z1 : l.length ≤ 4096) (z2 : ws.length ≤ 4096) :
    Calls Try.prog 16 #[.slice a1 l.length c1, v2] w fun e w' => Below w.heap.size w w' ∧ (((∃ x ∈ l, 1048576 < x.1.length) ∧ e = .returned (.tuple #[.pointer none, .int .i64 5])) ∨ (∀ x ∈ l, x.1.length ≤ 1048576) ∧ e = .returned (.tuple #[.pointer (some ⟨w.heap.size, 0, none⟩), .int .i64 0]) ∧ RCus0 w' w.heap.size l ws) := by
  have H1 := hide h1
  have H2 := hide h2
  obtain ⟨a2, c2, rfl⟩ := h2.form
  clear h1 h2
  have q1 : ¬ (4096 : Int) < (l.length : Int) := by omega
  have q2 : ¬ (4096 : Int) < (ws.length : Int) := by omega
  go_enter Try.func16, Try.ntmps16
  go_wp2
  have HK := hide (rblk_new w)
  have hB0 := recv4 w (Obj.cells #[.int .i64 4, .slice none 0 0, .int .i64 0, .int .i64 0, .slice none 0 0, .slice none 0 0, .pointer none, .int .i64 0, .int .i64 0] 84)
  have hz0 : (w.alloc (Obj.cells #[.int .i64 4, .slice none 0 0, .int .i64 0, .int .i64 0, .slice none 0 0, .slice none 0 0, .pointer none, .int .i64 0, .int .i64 0] 84)).heap.size = w.heap.size + 1 := Array.size_push _
  generalize w.alloc (Obj.cells #[.int .i64 4, .slice none 0 0, .int .i64 0, .int .i64 0, .slice none 0 0, .slice none 0 0, .pointer none, .int .i64 0, .int .i64 0] 84) = w0 at *
  have HB0 := hide hB0
  clear hB0
  go_loopg [7] l.length (fun gq s7 wx => ∃ (k : Nat) (sa : Option Addr) (sc : Nat) (xs : List Value), k + gq = l.length ∧ s7 = .int .i64 k ∧ Hid (RIn wx w.heap.size k sa sc (l.take k) xs) ∧ Hid (Below w.heap.size w wx) ∧ w.heap.size + 1 ≤ wx.heap.size ∧ Hid (∀ x ∈ l.take k, x.1.length ≤ 1048576))
  case atStart => exact ⟨0, none, 0, [], by omega, rfl, hide ⟨HK.out, World.ownsRow_nil _ _ _ _, by simp [ARw]⟩, HB0, by omega, hide (by simp)⟩
  case round =>
    clear HK HB0
    obtain ⟨k, sa, sc, xs, hkg, rfl, HI, HB, hz, HM⟩ := hrel
    by_cases hlt : k < l.length
    · obtain ⟨gq, rfl⟩ : ∃ gq, gk = gq + 1 := ⟨gk - 1, by omega⟩
      obtain ⟨b, off, va, vc, rfl, hbl, hc0, hc1, hby, hcap⟩ := H1.out.at HB.out k hlt
      have hk1 : (0 : Int) ≤ (k : Int) := by omega
      have hk2 : (k : Int) < (l.length : Int) := by omega
      have HE : Hid (l.take (k + 1) = l.take k ++ [l[k]]) := hide (List.take_succ_eq_append_getElem hlt)
      have HX : Hid (l[k] ∈ l) := hide (List.getElem_mem hlt)
      generalize l[k] = y at *
      obtain ⟨d, e⟩ := y
      simp only at *
      have HBy := hide (hby.below HB.out)
      clear hby
      by_cases hov : (1048576 : Int) < (d.length : Int)
      · go_wp2
        go_ret2
        exact ⟨HB.out, .inl ⟨⟨_, HX.out, by show _ < d.length; omega⟩, rfl⟩⟩
      · have k4 : wr.cell? ⟨w.heap.size, 4, none⟩ = some (.slice sa k sc) := HI.out.1.c4
        have HC := hide (rnc_step w wr k sa sc (l.take k) xs b (off + k * 2) va vc d e (by omega) (by omega) HI.out HB.out hz hbl ⟨hc0, hc1⟩ HBy.out)
        go_wp2_with fail
        go_region_law (first
            | (refine step_append_run _ (by rfl) _ _ _ _ (by rfl) _ _ (by rfl) (by rfl) _ _ HR.out ?_)
            | (go_simp; go_at_call 35; refine HC.out.mono ?_; rintro _ w2 ⟨ua, uc, sa', sc', w7, rfl, HR, ⟨K2a, K2b⟩, ⟨Kaa, Kab⟩, ⟨K7a, K7b⟩, K8, ⟨k42, k4a, k47, f47⟩, HN⟩)
            | fail)
        all_goals
          go_wp2
          go_roundg gq
          case measure => omega
          case rel =>
            refine ⟨k + 1, sa', sc', _, by omega, by go_num, hide (by rw [HE.out]; exact HN.out.1), hide HN.out.2.1, HN.out.2.2, hide ?_⟩
            intro x hx
            rw [HE.out] at hx
            rcases List.mem_append.1 hx with h | h
            · exact HM.out x h
            · obtain rfl := List.mem_singleton.1 h
              show d.length ≤ _
              omega
    · obtain rfl : k = l.length := by omega
      obtain ⟨s', w7, hrun, HO7, hg7⟩ := run_append_ints wr 24 (.slice a2 ws.length c2) ws (H2.out.below HB.out) (by omega)
      obtain ⟨ya, yc, rfl⟩ := owns_slice HO7.out
      have hB7 : Below wr.heap.size wr w7 := (Below.refl _ wr).grown hg7 (Nat.le_refl _) (fun k e => by cases e)
      have hRB : RBlk w7 w.heap.size (.slice sa l.length sc) (.slice none 0 0) := HI.out.1.keep (hB7.block _ (by omega))
      have k5 := HI.out.1.c5
      have k57 := hRB.c5
      have f57 := hRB.f5
      have HR := hide hrun
      have HRB := hide hRB
      clear hrun hRB
      go_wp2_with (at_builtin; refine Lib.wpList_append_run _ rfl _ _ _ _ rfl _ _ rfl rfl _ _ HR.out ?_)
      go_ret2
      have hm := HM.out
      have hi := HI.out
      rw [List.take_of_length_le (Nat.le_refl _)] at hm hi
      have far : ∀ j, w.heap.size + 1 ≤ j → (w7.setCell ⟨w.heap.size, 5, none⟩ (.slice ya ws.length yc)).heap[j]? = w7.heap[j]? := fun j h1 => heap_setCell_other _ _ _ _ (by show j ≠ w.heap.size; omega)
      refine ⟨(HB.out.trans (hB7.mono HB.out.size)).setCell (p := ⟨w.heap.size, 5, none⟩) (Nat.le_refl _) _, .inr ⟨hm, rfl, _, _, _, _, HRB.out.set5 _, owns_keep (owns_below hi.2.1 hB7) fun j h2 => far j (hi.2.1.lt j h2).1, (hi.2.2.below hB7).keep fun j va vc n d h1 h2 => far j (h1.lt j h2).1, owns_keep (owns_mono HO7.out hz) fun j h2 => far j (by have := (HO7.out.lt j h2).1; omega)⟩⟩
end Go.Proofs.Ytimggonlfkboaaa
