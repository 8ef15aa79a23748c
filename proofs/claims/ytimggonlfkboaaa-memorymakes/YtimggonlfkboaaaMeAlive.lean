/- The statements' own example holds: alive answers true. -/
import Derived.Test.YtimggonlfkboaaaMeNew2
import Derived.Test.YtimggonlfkboaaaMeCusW
import Derived.Test.YtimggonlfkboaaaMeCusR
import Derived.Test.YtimggonlfkboaaaMeBoth
import Derived.Lib.SlBytesConst
namespace Go.Proofs.Ytimggonlfkboaaa
open Go.RowKit

set_option maxHeartbeats 1000000 in
theorem num_me (x : Int) (w : World) :
    Calls Try.prog 17 #[.int .i64 x] w fun e w' => e = .returned (.int .i64 x) ∧ w = w' := by
  go_enter Try.func17, Try.ntmps17
  go_wp2
  go_ret
  exact ⟨rfl, rfl⟩
theorem mlit_bys (w : World) (l : List UInt8) (cs : Array Value) (n g : Nat) (fr : Nat × Nat) (hg : g = w.heap.size) (hn : n = l.length) (hcs : cs.toList = l.map bv) : Bys (w.alloc (Obj.cells cs 5 fr)) (.slice (some ⟨g, 0, none⟩) n n) l := by
  subst hn
  subst hg
  by_cases h0 : l.length = 0
  · exact .inr (.inl ⟨_, _, by rw [h0], List.length_eq_zero_iff.1 h0⟩)
  · refine .inr (.inr ⟨w.heap.size, 0, l.length, rfl, by omega, fun j hj => ?_⟩)
    rw [cell_of_row _ w.heap.size _ cs _ fr (heap_alloc_new w _)]
    have h1 : cs.toList[0 + j]? = (l.map bv)[j]? := by rw [hcs, Nat.zero_add]
    rw [Array.getElem?_toList] at h1
    rw [h1]
    simp [List.getD_eq_getElem?_getD, List.getElem?_eq_getElem hj, bv]

/-- A literal's bytes, turned to their own type. -/
theorem mconv_lit (w : World) (C : Array Value) (n g m : Nat) (hg : g = w.heap.size) (hm : C.size = m) : (convert 22 22 (.slice (some ⟨g, 0, none⟩) n n)).run Try.prog (w.alloc (.cells C 5)) = .ok (.slice (some ⟨g, 0, none⟩) n n) (w.alloc (.cells C 5 (m, m + 1))) := by
  subst hg
  subst hm
  exact Lib.run_convert_bytes_const w 22 5 C n n Try.underlying22 Try.underlying5

theorem mem_o (g : Nat) (S : MS) : OAt (fun w O => MemAt w O g S) := ⟨fun h hk _ => h.keep hk, fun h => h.trim⟩
theorem cus_o (g : Nat) (C : CS) : OAt (fun w O => CusAt w O g C) := ⟨fun h hk _ => h.keep hk, fun h => h.trim⟩
theorem ex_answers (w : World) (q : Nat) (h : Bys w (.slice (some ⟨q, 0, none⟩) 2 2) [97, 98]) : AnsR (w.alloc (Obj.cells #[.slice (some ⟨q, 0, none⟩) 2 2, .int .i64 0] 64)) (.slice (some ⟨w.heap.size, 0, none⟩) 1 1) [([97, 98], 0)] := by
  have hB := recv4 w (Obj.cells #[.slice (some ⟨q, 0, none⟩) 2 2, .int .i64 0] 64)
  refine ⟨_, 1, rfl, fun _ => ⟨w.heap.size, 0, rfl, fun j hj => ?_⟩⟩
  obtain rfl : j = 0 := by simp at hj; omega
  refine ⟨some ⟨q, 0, none⟩, 2, ?_, ?_, h.below hB, by simp⟩
  · simp only [World.cell?, heap_alloc_new]; rfl
  · simp only [World.cell?, heap_alloc_new]; rfl
theorem ex_ints (w : World) : IntsR (w.alloc (Obj.cells #[.int .i64 1, .int .i64 (-1)] 3)) (.slice (some ⟨w.heap.size, 0, none⟩) 2 2) [1, -1] := by
  refine .inr ⟨_, 2, rfl, fun _ => ⟨w.heap.size, 0, rfl, fun j hj => ?_⟩⟩
  simp only [World.cell?, heap_alloc_new]
  have : j = 0 ∨ j = 1 := by simp at hj; omega
  rcases this with rfl | rfl <;> rfl
abbrev MC (x : Nat) (S : MS) (c : Nat) (C : CS) (w : World) (Q : Nat → Prop) : Prop := Both (fun w O => MemAt w O x S) (fun w O => CusAt w O c C) w Q
theorem lit_write {x c : Nat} {S S' : MS} {C : CS} {N E : Int} {l : List UInt8} (cs : Array Value) (n m : Nat) (w : World) (Q : Nat → Prop) (h : MC x S c C w Q) (hn : n = l.length) (hcs : cs.toList = l.map bv) (hS : S.write l = (N, E, S')) :
    Calls Try.prog 22 #[.pointer (some ⟨x, 0, none⟩), .slice (some ⟨w.heap.size, 0, none⟩) n n] (w.alloc (Obj.cells cs 5 (n, m))) fun e w' => e = .returned (.tuple #[.int .i64 N, .int .i64 E]) ∧ Hid (MC x S' c C w' (fun j => Q j ∨ w.heap.size ≤ j)) ∧ Hid (Turned Q w w') := by
  subst hn
  have hb := mlit_bys w l cs l.length w.heap.size (l.length, m) rfl rfl hcs
  have hB := recv4 w (Obj.cells cs 5 (l.length, m))
  generalize w.alloc (Obj.cells cs 5 (l.length, m)) = w1 at *
  obtain ⟨O, h1, h2, h3, -⟩ := h.one (cus_o _ _)
  have hz := hB.size
  refine (fmwrite_any O x S l _ _ w1 (h1.below hB) hb (Nat.le_refl _) (fun _ k hk e => ?_)).mono ?_
  · obtain rfl : w.heap.size = k := by simpa [Value.ownBlock] using hk
    have := (h2 _ e).2
    omega
  · rintro e w2 ⟨rfl, hS2⟩
    rw [hS] at hS2 ⊢
    obtain ⟨q1, q2⟩ := h3 (fun w O => MemAt w O x S') w1 w2 hB (mem_o _ _) hS2
    exact ⟨rfl, q1.mono (fun j e => e.imp id (fun e' => Nat.le_trans hz e')), q2⟩
theorem lit_cwrite {x c : Nat} {S : MS} {C C' : CS} {N E : Int} {l : List UInt8} (cs : Array Value) (n m : Nat) (w : World) (Q : Nat → Prop) (h : MC x S c C w Q) (hn : n = l.length) (hcs : cs.toList = l.map bv) (hS : C.write l = (N, E, C')) (hp : ∀ k r, C.writes = k :: r → -1 ≤ k) (hT : C.taken.length + l.length ≤ 140737488351232) :
    Calls Try.prog 37 #[.pointer (some ⟨c, 0, none⟩), .slice (some ⟨w.heap.size, 0, none⟩) n n] (w.alloc (Obj.cells cs 5 (n, m))) fun e w' => e = .returned (.tuple #[.int .i64 N, .int .i64 E]) ∧ Hid (MC x S c C' w' (fun j => Q j ∨ w.heap.size ≤ j)) ∧ Hid (Turned Q w w') := by
  subst hn
  have hb := mlit_bys w l cs l.length w.heap.size (l.length, m) rfl rfl hcs
  have hB := recv4 w (Obj.cells cs 5 (l.length, m))
  generalize w.alloc (Obj.cells cs 5 (l.length, m)) = w1 at *
  obtain ⟨O, h1, h2, h3, -⟩ := h.two (mem_o _ _)
  have hz := hB.size
  refine (cwrite_any O c C l _ _ w1 (h1.below hB) hb (Nat.le_refl _) (fun _ k hk e => ?_) hp hT).mono ?_
  · obtain rfl : w.heap.size = k := by simpa [Value.ownBlock] using hk
    have := (h2 _ e).2
    omega
  · rintro e w2 ⟨rfl, hS2⟩
    rw [hS] at hS2 ⊢
    obtain ⟨q1, q2⟩ := h3 (fun w O => CusAt w O c C') w1 w2 hB (cus_o _ _) hS2
    exact ⟨rfl, q1.mono (fun j e => e.imp id (fun e' => Nat.le_trans hz e')), q2⟩
theorem lit_read {x c : Nat} {S S' : MS} {C : CS} {E n : Int} {l : List UInt8} (w : World) (Q : Nat → Prop) (h : MC x S c C w Q) (hS : S.read n = (l, E, S')) :
    Calls Try.prog 19 #[.pointer (some ⟨x, 0, none⟩), .int .i64 n] w fun e w' => ∃ a cc, e = .returned (.tuple #[.slice a l.length cc, .int .i64 E]) ∧ Hid (w'.ownsRow w.heap.size 5 1 (.slice a l.length cc) l.length (l.map bv)) ∧ Hid (MC x S' c C w' (fun j => Q j ∧ (j < w.heap.size ∨ w'.heap.size ≤ j))) ∧ Hid (Turned Q w w') := by
  obtain ⟨O, h1, h2, -, h3⟩ := h.one (cus_o _ _)
  refine (fmread_any O x S n w h1).mono ?_
  rintro e w2 ⟨v, rfl, ho, hM, hT⟩
  rw [hS] at ho hM ⊢
  obtain ⟨a, cc, rfl⟩ := owns_slice ho
  obtain ⟨q1, q2⟩ := h3 (fun w O => MemAt w O x S') w2 hM hT
  exact ⟨a, cc, rfl, ho, q1, q2⟩
theorem lit_cread {x c : Nat} {S : MS} {C C' : CS} {E n : Int} {l : List UInt8} (w : World) (Q : Nat → Prop) (h : MC x S c C w Q) (hS : C.read n = (l, E, C')) :
    Calls Try.prog 28 #[.pointer (some ⟨c, 0, none⟩), .int .i64 n] w fun e w' => ∃ a cc, e = .returned (.tuple #[.slice a l.length cc, .int .i64 E]) ∧ Hid (w'.ownsRow w.heap.size 5 1 (.slice a l.length cc) l.length (l.map bv)) ∧ Hid (MC x S c C' w' (fun j => Q j ∧ (j < w.heap.size ∨ w'.heap.size ≤ j))) ∧ Hid (Turned Q w w') := by
  obtain ⟨O, h1, h2, -, h3⟩ := h.two (mem_o _ _)
  refine (cread_any O c C n w h1).mono ?_
  rintro e w2 ⟨v, rfl, ho, hM, hT⟩
  rw [hS] at ho hM ⊢
  obtain ⟨a, cc, rfl⟩ := owns_slice ho
  obtain ⟨q1, q2⟩ := h3 (fun w O => CusAt w O c C') w2 hM hT
  exact ⟨a, cc, rfl, ho, q1, q2⟩
theorem lit_seek {x c : Nat} {S S' : MS} {C : CS} {N E off wh : Int} (w : World) (Q : Nat → Prop) (h : MC x S c C w Q) (hS : S.seek off wh = (N, E, S')) :
    Calls Try.prog 24 #[.pointer (some ⟨x, 0, none⟩), .int .i64 off, .int .i64 wh] w fun e w' => e = .returned (.tuple #[.int .i64 N, .int .i64 E]) ∧ Hid (MC x S' c C w' (fun j => Q j ∨ w.heap.size ≤ j)) ∧ Hid (Turned Q w w') := by
  obtain ⟨O, h1, h2, h3, -⟩ := h.one (cus_o _ _)
  refine (fmseek_any O x S off wh w h1).mono ?_
  rintro e w2 ⟨rfl, hS2⟩
  rw [hS] at hS2 ⊢
  obtain ⟨q1, q2⟩ := h3 (fun w O => MemAt w O x S') w w2 (Below.refl _ _) (mem_o _ _) hS2
  exact ⟨rfl, q1, q2⟩
set_option maxRecDepth 100000 in
set_option maxHeartbeats 4000000 in
theorem malive_any (w : World) : Calls Try.prog 18 #[] w fun e w' => e = .returned (.bool true) ∧ Below w.heap.size w w' := by
  go_enter Try.func18, Try.ntmps18
  go_wp2_with fail
  refine (newFixed_good 3 (.slice none 0 0) [] w (.inl ⟨rfl, rfl⟩) (by decide) (by decide)).mono ?_
  rintro e w1 ⟨x, rfl, hX1, hB1⟩
  have HX1 := hide hX1
  have HB1 := hide hB1
  have c1 := mconv_lit w1 #[.int .u8 97, .int .u8 98] 2 w1.heap.size 2 rfl rfl
  simp only [Nat.reduceAdd] at c1
  clear hX1 hB1
  go_wp2_with fail
  have hb1 := mlit_bys w1 [97, 98] #[.int .u8 97, .int .u8 98] 2 w1.heap.size (2, 3) rfl rfl rfl
  have hB2 := recv4 w1 (Obj.cells #[.int .u8 97, .int .u8 98] 5 (2, 3))
  have hs2 : (w1.alloc (Obj.cells #[.int .u8 97, .int .u8 98] 5 (2, 3))).heap.size = w1.heap.size + 1 := by simp
  generalize w1.alloc (Obj.cells #[.int .u8 97, .int .u8 98] 5 (2, 3)) = w2 at *
  have ha := ex_answers w2 w1.heap.size hb1
  have hB3 := recv4 w2 (Obj.cells #[.slice (some ⟨w1.heap.size, 0, none⟩) 2 2, .int .i64 0] 64)
  have hs3 : (w2.alloc (Obj.cells #[.slice (some ⟨w1.heap.size, 0, none⟩) 2 2, .int .i64 0] 64)).heap.size = w1.heap.size + 1 + 1 := by simp [hs2]
  rw [hs2] at ha
  generalize w2.alloc (Obj.cells #[.slice (some ⟨w1.heap.size, 0, none⟩) 2 2, .int .i64 0] 64) = w3 at *
  have hi := ex_ints w3
  have hB4 := recv4 w3 (Obj.cells #[.int .i64 1, .int .i64 (-1)] 3)
  rw [hs3] at hi
  generalize w3.alloc (Obj.cells #[.int .i64 1, .int .i64 (-1)] 3) = w4 at *
  have hB14 : Below w1.heap.size w1 w4 := hB2.trans ((hB3.trans (hB4.mono (by omega))).mono (by omega))
  refine (newCustom_any _ _ [([97, 98], 0)] [1, -1] w4 (ha.below hB4) hi (by decide) (by decide)).mono ?_
  rintro e w5 (⟨⟨y, hy, hy2⟩, -⟩ | ⟨-, c, rfl, hC, hB5⟩)
  · simp at hy; subst hy; simp at hy2
  have hz1 := HB1.out.size
  have hz4 := hB14.size
  have HB5 := hide (HB1.out.trans ((hB14.trans (hB5.mono hB14.size)).mono HB1.out.size))
  have HP : Hid (MC x ⟨[], 3, 0⟩ c ⟨[([97, 98], 0)], [1, -1], []⟩ w5 (fun j => w.heap.size ≤ j)) :=
    hide (Both.make (mem_o _ _) (cus_o _ _) (HX1.out.trim.below hB14) (fun j e _ => e.1) (fun j e _ => by show w.heap.size ≤ j; omega) hB5 hC)
  clear HX1 HB1 hb1 hB2 hs2 ha hB3 hs3 hi hB4 hB14 hC hB5 c1 hz1 hz4
  have c1 := mconv_lit w5 #[.int .u8 97, .int .u8 98, .int .u8 99, .int .u8 100] 4 w5.heap.size 4 rfl rfl
  simp only [Nat.reduceAdd] at c1
  go_wp2_with (first | (go_at_call 17; refine (num_me _ _).mono ?_; rintro _ _ ⟨rfl, rfl⟩) | fail)
  refine (lit_write (S' := ⟨[97, 98, 99], 3, 3⟩) (N := 3) (E := 0) (l := [97, 98, 99, 100]) _ 4 _ w5 _ HP.out rfl rfl rfl).mono ?_
  rintro e w6 ⟨rfl, HP6, HT6⟩
  have c2 := mconv_lit w6 #[.int .u8 101] 1 w6.heap.size 1 rfl rfl
  simp only [Nat.reduceAdd] at c2
  clear HP c1
  go_wp2_with fail
  refine (lit_write (S' := ⟨[97, 98, 99], 3, 3⟩) (N := 0) (E := 31) (l := [101]) _ 1 _ w6 _ HP6.out rfl rfl rfl).mono ?_
  rintro e w7 ⟨rfl, HP7, HT7⟩
  clear HP6 c2
  go_wp2_with fail
  refine (lit_seek (S' := ⟨[97, 98, 99], 3, 1⟩) (N := 1) (E := 0) w7 _ HP7.out rfl).mono ?_
  rintro e w8 ⟨rfl, HP8, HT8⟩
  clear HP7
  go_wp2_with fail
  refine (lit_read (S' := ⟨[97, 98, 99], 3, 3⟩) (E := 0) (l := [98, 99]) w8 _ HP8.out rfl).mono ?_
  rintro e w9 ⟨ab, cb, rfl, HO9, HP9, HT9⟩
  clear HP8
  go_wp2_with fail
  refine (lit_cread (C' := ⟨[([98], 0)], [1, -1], []⟩) (E := 0) (l := [97]) w9 _ HP9.out rfl).mono ?_
  rintro e wa ⟨ad, cd, rfl, HOa, HPa, HTa⟩
  have c3 := mconv_lit wa #[.int .u8 120, .int .u8 121, .int .u8 122] 3 wa.heap.size 3 rfl rfl
  simp only [Nat.reduceAdd] at c3
  clear HP9
  go_wp2_with fail
  refine (lit_cwrite (C' := ⟨[([98], 0)], [-1], [120]⟩) (N := 1) (E := 0) (l := [120, 121, 122]) _ 3 _ wa _ HPa.out rfl rfl rfl (fun k r e => by cases e; decide) (by decide)).mono ?_
  rintro e wb ⟨rfl, HPb, HTb⟩
  have c4 := mconv_lit wb #[.int .u8 122] 1 wb.heap.size 1 rfl rfl
  simp only [Nat.reduceAdd] at c4
  clear HPa c3
  go_wp2_with fail
  refine (lit_cwrite (C' := ⟨[([98], 0)], [], [120]⟩) (N := 0) (E := 101) (l := [122]) _ 1 _ wb _ HPb.out rfl rfl rfl (fun k r e => by cases e; decide) (by decide)).mono ?_
  rintro e wc ⟨rfl, HPc, HTc⟩
  have hz5 := HB5.out.size
  have hz6 := HT6.out.size
  have hz7 := HT7.out.size
  have hz8 := HT8.out.size
  have hz9 := HT9.out.size
  have hza := HTa.out.size
  have hzb := HTb.out.size
  have hzc := HTc.out.size
  have o1 := owns_turned (owns_turned (owns_turned HO9.out HTa.out (fun k hk e => by have := HO9.out.lt k hk; omega)) HTb.out (fun k hk e => by have := HO9.out.lt k hk; omega)) HTc.out (fun k hk e => by have := HO9.out.lt k hk; omega)
  have o2 := owns_turned (owns_turned HOa.out HTb.out (fun k hk e => by have := HOa.out.lt k hk; omega)) HTc.out (fun k hk e => by have := HOa.out.lt k hk; omega)
  have s1 := owns_string o1
  have s2 := owns_string o2
  have hT : Turned (fun j => w.heap.size ≤ j) w5 wc := ((((((HT6.out.trans HT7.out (fun k _ e => by omega)).trans HT8.out (fun k _ e => by omega)).trans HT9.out (fun k _ e => by omega)).trans HTa.out (fun k _ e => by omega)).trans HTb.out (fun k _ e => by omega)).trans HTc.out (fun k _ e => by omega))
  have HBc := hide (HB5.out.trans (hT.below (fun k e => e) hz5))
  clear HPb c4 HPc HT6 HT7 HT8 HT9 HTa HTb HTc hT o1 o2 HO9 HOa hz5 hz6 hz7 hz8 hz9 hza hzb hzc
  simp only [List.length_cons, List.length_nil, Nat.reduceAdd] at s1 s2 ⊢
  go_wp2_with (first | (go_at_call 17; refine (num_me _ _).mono ?_; rintro _ _ ⟨rfl, rfl⟩) | fail)
  go_ret
  exact ⟨rfl, HBc.out⟩
end Go.Proofs.Ytimggonlfkboaaa
