/- What the proof stands on, part 13: the contracts of the program's calls that it reaches. -/
import Derived.Test.YtkkommomefmpgaaGreatKQ12
import Derived.Defers
import Derived.Lib.BufferMore
import Derived.Deep.LoopGhost
import Derived.Laws.CopyOwn
import Derived.Lib.SlBytesConst
/- Memories: seek. -/
namespace Go.Proofs.YtkkommomefmpgaaGreat
open Go.RowKit

theorem MS.seek_arg {S : MS} {off wh : Int} (h : wh < 0 ∨ 2 < wh) : S.seek off wh = (0, 1, S) := by unfold MS.seek; rw [if_pos h]
theorem MS.seek_range {S : MS} {off wh : Int} (h : ¬ (wh < 0 ∨ 2 < wh)) (h2 : off < -(S.from wh : Int) ∨ (S.room : Int) - (S.from wh : Int) < off) : S.seek off wh = (0, 4, S) := by unfold MS.seek; rw [if_neg h, if_pos h2]
theorem MS.seek_good {S : MS} {off wh : Int} (h : ¬ (wh < 0 ∨ 2 < wh)) (h2 : ¬ (off < -(S.from wh : Int) ∨ (S.room : Int) - (S.from wh : Int) < off)) : S.seek off wh = ((S.from wh : Int) + off, 0, ⟨S.l, S.room, ((S.from wh : Int) + off).toNat⟩) := by unfold MS.seek; rw [if_neg h, if_neg h2]

theorem MemAt.place {w : World} {O : Nat → Prop} {g : Nat} {S : MS} (h : MemAt w O g S) (m : Nat) (hm : m ≤ S.room) : MStep w O g ⟨S.l, S.room, m⟩ (w.setCell ⟨g, 2, none⟩ (.int .i64 m)) := by
  obtain ⟨f, b, cap, h0, h1, h2, h3, h4, og, of, ob, n1, n2, r1, r2, r3⟩ := h
  refine ⟨O, ⟨f, b, cap, ?_, ?_, ?_, ?_, ?_, og, of, ob, n1, n2, r1, hm, r3⟩, fun _ e => .inl e, (Turned.refl O w).set (.inl og)⟩
  · rw [World.cell?_setCell_other _ _ _ _ (by simp)]; exact h0
  · rw [World.cell?_setCell_other _ _ _ _ (by simp)]; exact h1
  · exact World.cell?_setCell_same _ _ _ h2
  · rw [World.frozen?_setCell]; exact h3
  · exact h4.keep (Below.heap_setCell _ _ _ _ (fun e => n1 e.symm)) (Below.heap_setCell _ _ _ _ (fun e => n2 e.symm))

set_option maxRecDepth 100000 in
set_option maxHeartbeats 2000000 in
theorem sseek_arg (O : Nat → Prop) (g : Nat) (S : MS) (off wh : Int) (w : World) (h : MemAt w O g S) (ha : wh < 0 ∨ 2 < wh) :
    Calls Tryz.prog 280 #[.pointer (some ⟨g, 0, none⟩), .int .i64 off, .int .i64 wh] w fun e w' => e = .returned (.tuple #[.int .i64 0, .int .i64 1]) ∧ w = w' := by
  have HM := hide h
  obtain ⟨f, b, cap, h0, h1, h2, h3, h4, og, of, ob, n1, n2, r1, r2, r3⟩ := h
  have H4 := hide h4
  clear h4 og of ob n1 n2
  have e0 : (wh == 0) = false := by simp; omega
  have e1 : (wh == 1) = false := by simp; omega
  have e2 : (wh == 2) = false := by simp; omega
  have e0' : ¬ wh = 0 := by omega
  have e1' : ¬ wh = 1 := by omega
  have e2' : ¬ wh = 2 := by omega
  clear ha
  go_enter Tryz.func280, Tryz.ntmps280
  go_wp2_with (first | (go_at_call 278; refine (sMade_yes g f _ h0).mono ?_; rintro _ _ ⟨rfl, rfl⟩) | (go_at_call 154; refine (size_any f b cap S.l _ H4.out).mono ?_; rintro _ _ ⟨rfl, rfl⟩) | fail)
  go_ret2
  exact ⟨rfl, rfl⟩
set_option maxRecDepth 100000 in
set_option maxHeartbeats 2000000 in
theorem sseek_bad0 (O : Nat → Prop) (g : Nat) (S : MS) (off : Int) (w : World) (h : MemAt w O g S) (hr : off < -((0 : Nat) : Int) ∨ (S.room : Int) - ((0 : Nat) : Int) < off) :
    Calls Tryz.prog 280 #[.pointer (some ⟨g, 0, none⟩), .int .i64 off, .int .i64 0] w fun e w' => e = .returned (.tuple #[.int .i64 0, .int .i64 4]) ∧ w = w' := by
  have HM := hide h
  obtain ⟨f, b, cap, h0, h1, h2, h3, h4, og, of, ob, n1, n2, r1, r2, r3⟩ := h
  have H4 := hide h4
  clear h4 og of ob n1 n2
  rcases (show off < 0 ∨ (¬ off < 0 ∧ (S.room : Int) < off) by omega) with hq | ⟨hq, hq2⟩
  all_goals
    clear hr
    go_enter Tryz.func280, Tryz.ntmps280
    go_wp2_with (first | (go_at_call 278; refine (sMade_yes g f _ h0).mono ?_; rintro _ _ ⟨rfl, rfl⟩) | (go_at_call 154; refine (size_any f b cap S.l _ H4.out).mono ?_; rintro _ _ ⟨rfl, rfl⟩) | fail)
    go_ret2
    exact ⟨rfl, rfl⟩
set_option maxRecDepth 100000 in
set_option maxHeartbeats 2000000 in
theorem sseek_good0 (O : Nat → Prop) (g : Nat) (S : MS) (off : Int) (m : Nat) (w : World) (h : MemAt w O g S) (hm : ((0 : Nat) : Int) + off = m) (hr : m ≤ S.room) :
    Calls Tryz.prog 280 #[.pointer (some ⟨g, 0, none⟩), .int .i64 off, .int .i64 0] w fun e w' => e = .returned (.tuple #[.int .i64 m, .int .i64 0]) ∧ MStep w O g ⟨S.l, S.room, m⟩ w' := by
  have HM := hide h
  obtain ⟨f, b, cap, h0, h1, h2, h3, h4, og, of, ob, n1, n2, r1, r2, r3⟩ := h
  have H4 := hide h4
  clear h4 og of ob n1 n2
  obtain rfl : off = (m : Int) := by omega
  clear hm
  have q1 : ¬ (m : Int) < 0 := by omega
  have q2 : ¬ (S.room : Int) < (m : Int) := by omega
  go_enter Tryz.func280, Tryz.ntmps280
  go_wp2_with (first | (go_at_call 278; refine (sMade_yes g f _ h0).mono ?_; rintro _ _ ⟨rfl, rfl⟩) | (go_at_call 154; refine (size_any f b cap S.l _ H4.out).mono ?_; rintro _ _ ⟨rfl, rfl⟩) | fail)
  go_ret2
  exact ⟨rfl, HM.out.place m hr⟩
set_option maxRecDepth 100000 in
set_option maxHeartbeats 2000000 in
theorem sseek_bad1 (O : Nat → Prop) (g : Nat) (S : MS) (off : Int) (w : World) (h : MemAt w O g S) (hr : off < -((S.pl : Nat) : Int) ∨ (S.room : Int) - ((S.pl : Nat) : Int) < off) :
    Calls Tryz.prog 280 #[.pointer (some ⟨g, 0, none⟩), .int .i64 off, .int .i64 1] w fun e w' => e = .returned (.tuple #[.int .i64 0, .int .i64 4]) ∧ w = w' := by
  have HM := hide h
  obtain ⟨f, b, cap, h0, h1, h2, h3, h4, og, of, ob, n1, n2, r1, r2, r3⟩ := h
  have H4 := hide h4
  clear h4 og of ob n1 n2
  rcases (show off < -((S.pl : Nat) : Int) ∨ (¬ off < -((S.pl : Nat) : Int) ∧ (S.room : Int) - ((S.pl : Nat) : Int) < off) by omega) with hq | ⟨hq, hq2⟩
  all_goals
    clear hr
    go_enter Tryz.func280, Tryz.ntmps280
    go_wp2_with (first | (go_at_call 278; refine (sMade_yes g f _ h0).mono ?_; rintro _ _ ⟨rfl, rfl⟩) | (go_at_call 154; refine (size_any f b cap S.l _ H4.out).mono ?_; rintro _ _ ⟨rfl, rfl⟩) | fail)
    go_ret2
    exact ⟨rfl, rfl⟩
set_option maxRecDepth 100000 in
set_option maxHeartbeats 2000000 in
theorem sseek_good1 (O : Nat → Prop) (g : Nat) (S : MS) (off : Int) (m : Nat) (w : World) (h : MemAt w O g S) (hm : ((S.pl : Nat) : Int) + off = m) (hr : m ≤ S.room) :
    Calls Tryz.prog 280 #[.pointer (some ⟨g, 0, none⟩), .int .i64 off, .int .i64 1] w fun e w' => e = .returned (.tuple #[.int .i64 m, .int .i64 0]) ∧ MStep w O g ⟨S.l, S.room, m⟩ w' := by
  have HM := hide h
  obtain ⟨f, b, cap, h0, h1, h2, h3, h4, og, of, ob, n1, n2, r1, r2, r3⟩ := h
  have H4 := hide h4
  clear h4 og of ob n1 n2
  have q1 : ¬ off < -((S.pl : Nat) : Int) := by omega
  have q2 : ¬ (S.room : Int) - ((S.pl : Nat) : Int) < off := by omega
  have HMm := hide hm
  clear hm
  go_enter Tryz.func280, Tryz.ntmps280
  go_wp2_with (first | (go_at_call 278; refine (sMade_yes g f _ h0).mono ?_; rintro _ _ ⟨rfl, rfl⟩) | (go_at_call 154; refine (size_any f b cap S.l _ H4.out).mono ?_; rintro _ _ ⟨rfl, rfl⟩) | fail)
  go_ret2
  rw [HMm.out]
  exact ⟨rfl, HM.out.place m hr⟩
set_option maxRecDepth 100000 in
set_option maxHeartbeats 2000000 in
theorem sseek_bad2 (O : Nat → Prop) (g : Nat) (S : MS) (off : Int) (w : World) (h : MemAt w O g S) (hr : off < -((S.l.length : Nat) : Int) ∨ (S.room : Int) - ((S.l.length : Nat) : Int) < off) :
    Calls Tryz.prog 280 #[.pointer (some ⟨g, 0, none⟩), .int .i64 off, .int .i64 2] w fun e w' => e = .returned (.tuple #[.int .i64 0, .int .i64 4]) ∧ w = w' := by
  have HM := hide h
  obtain ⟨f, b, cap, h0, h1, h2, h3, h4, og, of, ob, n1, n2, r1, r2, r3⟩ := h
  have H4 := hide h4
  clear h4 og of ob n1 n2
  rcases (show off < -((S.l.length : Nat) : Int) ∨ (¬ off < -((S.l.length : Nat) : Int) ∧ (S.room : Int) - ((S.l.length : Nat) : Int) < off) by omega) with hq | ⟨hq, hq2⟩
  all_goals
    clear hr
    go_enter Tryz.func280, Tryz.ntmps280
    go_wp2_with (first | (go_at_call 278; refine (sMade_yes g f _ h0).mono ?_; rintro _ _ ⟨rfl, rfl⟩) | (go_at_call 154; refine (size_any f b cap S.l _ H4.out).mono ?_; rintro _ _ ⟨rfl, rfl⟩) | fail)
    go_ret2
    exact ⟨rfl, rfl⟩
set_option maxRecDepth 100000 in
set_option maxHeartbeats 2000000 in
theorem sseek_good2 (O : Nat → Prop) (g : Nat) (S : MS) (off : Int) (m : Nat) (w : World) (h : MemAt w O g S) (hm : ((S.l.length : Nat) : Int) + off = m) (hr : m ≤ S.room) :
    Calls Tryz.prog 280 #[.pointer (some ⟨g, 0, none⟩), .int .i64 off, .int .i64 2] w fun e w' => e = .returned (.tuple #[.int .i64 m, .int .i64 0]) ∧ MStep w O g ⟨S.l, S.room, m⟩ w' := by
  have HM := hide h
  obtain ⟨f, b, cap, h0, h1, h2, h3, h4, og, of, ob, n1, n2, r1, r2, r3⟩ := h
  have H4 := hide h4
  clear h4 og of ob n1 n2
  have q1 : ¬ off < -((S.l.length : Nat) : Int) := by omega
  have q2 : ¬ (S.room : Int) - ((S.l.length : Nat) : Int) < off := by omega
  have HMm := hide hm
  clear hm
  go_enter Tryz.func280, Tryz.ntmps280
  go_wp2_with (first | (go_at_call 278; refine (sMade_yes g f _ h0).mono ?_; rintro _ _ ⟨rfl, rfl⟩) | (go_at_call 154; refine (size_any f b cap S.l _ H4.out).mono ?_; rintro _ _ ⟨rfl, rfl⟩) | fail)
  go_ret2
  rw [HMm.out]
  exact ⟨rfl, HM.out.place m hr⟩
theorem sseek_any (O : Nat → Prop) (g : Nat) (S : MS) (off wh : Int) (w : World) (h : MemAt w O g S) :
    Calls Tryz.prog 280 #[.pointer (some ⟨g, 0, none⟩), .int .i64 off, .int .i64 wh] w fun e w' => e = .returned (.tuple #[.int .i64 (S.seek off wh).1, .int .i64 (S.seek off wh).2.1]) ∧ MStep w O g (S.seek off wh).2.2 w' := by
  have hok := h.ok
  by_cases ha : wh < 0 ∨ 2 < wh
  · rw [MS.seek_arg ha]
    refine (sseek_arg O g S off wh w h ha).mono ?_
    rintro e w' ⟨rfl, rfl⟩
    exact ⟨rfl, MStep.same h⟩
  have hw3 : wh = 0 ∨ wh = 1 ∨ wh = 2 := by omega
  by_cases hr : off < -(S.from wh : Int) ∨ (S.room : Int) - (S.from wh : Int) < off
  · rw [MS.seek_range ha hr]
    rcases hw3 with rfl | rfl | rfl
    · refine (sseek_bad0 O g S off w h hr).mono ?_
      rintro e w' ⟨rfl, rfl⟩
      exact ⟨rfl, MStep.same h⟩
    · refine (sseek_bad1 O g S off w h hr).mono ?_
      rintro e w' ⟨rfl, rfl⟩
      exact ⟨rfl, MStep.same h⟩
    · refine (sseek_bad2 O g S off w h hr).mono ?_
      rintro e w' ⟨rfl, rfl⟩
      exact ⟨rfl, MStep.same h⟩
  · rw [MS.seek_good ha hr]
    obtain ⟨m, hm⟩ : ∃ m : Nat, (S.from wh : Int) + off = m := ⟨((S.from wh : Int) + off).toNat, by omega⟩
    rw [hm]
    simp only [Int.toNat_natCast]
    rcases hw3 with rfl | rfl | rfl
    · exact sseek_good0 O g S off m w h hm (by omega)
    · exact sseek_good1 O g S off m w h hm (by omega)
    · exact sseek_good2 O g S off m w h hm (by omega)
end Go.Proofs.YtkkommomefmpgaaGreat

/- Memories: made, and their calls. -/
namespace Go.Proofs.YtkkommomefmpgaaGreat
open Go.RowKit

theorem recv4 (w : World) (o : Obj) : Below w.heap.size w (w.alloc o) := (Below.refl _ _).alloc (Nat.le_refl _) _
theorem new_zero3 {W w' : World} {x y z : Value} {t : TypeId} (h : Below (W.alloc (Obj.cells #[x, y, z] t)).heap.size (W.alloc (Obj.cells #[x, y, z] t)) w') :
    w'.cell? ⟨W.heap.size, 0, none⟩ = some x ∧ w'.cell? ⟨W.heap.size, 1, none⟩ = some y ∧ w'.cell? ⟨W.heap.size, 2, none⟩ = some z ∧ w'.frozen? ⟨W.heap.size, 0, none⟩ = false ∧ w'.frozen? ⟨W.heap.size, 1, none⟩ = false ∧ w'.frozen? ⟨W.heap.size, 2, none⟩ = false :=
  ⟨(h.cell (p := ⟨W.heap.size, 0, none⟩) (size_new _ _)).trans (by simp only [World.cell?, heap_alloc_new]; rfl), (h.cell (p := ⟨W.heap.size, 1, none⟩) (size_new _ _)).trans (by simp only [World.cell?, heap_alloc_new]; rfl), (h.cell (p := ⟨W.heap.size, 2, none⟩) (size_new _ _)).trans (by simp only [World.cell?, heap_alloc_new]; rfl), (h.frozen (p := ⟨W.heap.size, 0, none⟩) (size_new _ _)).trans (by simp only [World.frozen?, heap_alloc_new]; rfl), (h.frozen (p := ⟨W.heap.size, 1, none⟩) (size_new _ _)).trans (by simp only [World.frozen?, heap_alloc_new]; rfl), (h.frozen (p := ⟨W.heap.size, 2, none⟩) (size_new _ _)).trans (by simp only [World.frozen?, heap_alloc_new]; rfl)⟩
theorem res_store {fn : Func} {p u : Tmp} {w : World} (h : fn.results = #[.cell p 280, .tmp u]) (tmps : Array Value) (b : Nat) (hp : tmps.getD p undef = .pointer (some ⟨b, 0, none⟩)) (x : Option Addr) (y z : Int) (h1 : w.cell? ⟨b, 0, none⟩ = some (.pointer x)) (h2 : w.cell? ⟨b, 1, none⟩ = some (.int .i64 y)) (h3 : w.cell? ⟨b, 2, none⟩ = some (.int .i64 z)) :
    (results fn tmps).run Tryz.prog w = .ok (.tuple #[.agg #[.pointer x, .int .i64 y, .int .i64 z], tmps.getD u undef]) w := by
  have a60 := Tryz.isAgg280
  have z60 := Tryz.sizeOf280
  have u3 := Tryz.underlying3
  have a3 := Tryz.isAgg3
  have z3 := Tryz.sizeOf3
  have a4 := Tryz.isAgg97
  have z4 := Tryz.sizeOf97
  have u4 := Tryz.underlying97
  rw [results_cell_tmp h, hp]
  simp only [loadVar]
  go_simp
set_option maxRecDepth 100000 in
set_option maxHeartbeats 1000000 in
theorem storeOf_good (v : Value) (l : List UInt8) (room : Int) (w : World) (hb : Bys w v l) (h : ¬ room < (l.length : Int)) (hl : l.length ≤ 1048576) :
    Calls Tryz.prog 163 #[v, .int .i64 room] w fun e w' => ∃ f b, e = .returned (.tuple #[.agg #[.pointer (some ⟨f, 0, none⟩), .int .i64 room, .int .i64 0], .int .i64 0]) ∧ FileAt w' f b l.length l ∧ w.heap.size ≤ f ∧ w.heap.size ≤ b ∧ Below w.heap.size w w' := by
  obtain ⟨a1, c1, rfl, -⟩ := bys_form hb
  have hB : Below w.heap.size w (w.alloc (Obj.cells #[Value.pointer none, Value.int IntKind.i64 0, Value.int IntKind.i64 0] 280)) := (Below.refl _ _).alloc (Nat.le_refl _) _
  have HB := hide (hb.below hB)
  clear hb
  go_enter Tryz.func163, Tryz.ntmps163
  go_wp2_with fail
  refine (Fi_new_good _ l _ HB.out hl).mono ?_
  rintro e w2 ⟨f, rfl, h1, h2, h3⟩
  have H1 := hide h1
  obtain ⟨z0, z1, z2, z3, z4, z5⟩ := new_zero3 h3
  have hwf : w.heap.size < f := Nat.lt_of_le_of_lt hB.size h2
  have hwb : w.heap.size < (w.alloc (Obj.cells #[Value.pointer none, Value.int IntKind.i64 0, Value.int IntKind.i64 0] 280)).heap.size := size_new _ _
  have hB2 := hB.trans (h3.mono hB.size)
  clear h1 h2 h3 hB HB
  generalize (w.alloc (Obj.cells #[Value.pointer none, Value.int IntKind.i64 0, Value.int IntKind.i64 0] 280)).heap.size = b at *
  go_wp2
  obtain ⟨W, hW⟩ : ∃ W, W = ((w2.setCell ⟨w.heap.size, 0, none⟩ (.pointer (some ⟨f, 0, none⟩))).setCell ⟨w.heap.size, 1, none⟩ (.int .i64 room)).setCell ⟨w.heap.size, 2, none⟩ (.int .i64 0) := ⟨_, rfl⟩
  rw [← hW]
  have y0 : W.cell? ⟨w.heap.size, 0, none⟩ = some (.pointer (some ⟨f, 0, none⟩)) := by
    rw [hW, World.cell?_setCell_other _ _ _ _ (by simp), World.cell?_setCell_other _ _ _ _ (by simp)]; exact World.cell?_setCell_same _ _ _ z0
  have y1 : W.cell? ⟨w.heap.size, 1, none⟩ = some (.int .i64 room) := by
    rw [hW, World.cell?_setCell_other _ _ _ _ (by simp)]; exact World.cell?_setCell_same _ _ _ ((World.cell?_setCell_other _ _ _ _ (by simp)).trans z1)
  have y2 : W.cell? ⟨w.heap.size, 2, none⟩ = some (.int .i64 0) := by
    rw [hW]; exact World.cell?_setCell_same _ _ _ ((World.cell?_setCell_other _ _ _ _ (by simp)).trans ((World.cell?_setCell_other _ _ _ _ (by simp)).trans z2))
  refine bodyPost_ret (res_store rfl _ w.heap.size rfl (some ⟨f, 0, none⟩) room 0 y0 y1 y2) rfl ?_
  have hT : Turned (fun k => k = w.heap.size) w2 W := by
    rw [hW]
    exact (((Turned.refl (fun k => k = w.heap.size) w2).set (.inl rfl)).set (.inl rfl)).set (.inl rfl)
  have hbl := H1.out.row.lt
  exact ⟨f, b, rfl, H1.out.keep (hT.block f H1.out.lt (by omega)) (hT.block b hbl (by omega)), by omega, by omega, hB2.trans (hT.below (fun k e => by omega) hB2.size)⟩
theorem mem_new {w w2 : World} {l : List UInt8} {f b room : Nat} {T : TypeId} (hF : FileAt w2 f b l.length l) (hf : w.heap.size ≤ f) (hb : w.heap.size ≤ b) (hB : Below w.heap.size w w2) (hl : l.length ≤ room) (hr : room ≤ 1048576) :
    MemAt (w2.alloc (Obj.cells #[.pointer (some ⟨f, 0, none⟩), .int .i64 (room : Int), .int .i64 0] T)) (fun k => w.heap.size ≤ k) w2.heap.size ⟨l, room, 0⟩ ∧ Below w.heap.size w (w2.alloc (Obj.cells #[.pointer (some ⟨f, 0, none⟩), .int .i64 (room : Int), .int .i64 0] T)) := by
  have hfl := hF.lt
  have hbl := hF.row.lt
  refine ⟨⟨f, b, l.length, ?_, ?_, ?_, ?_, hF.keep (Below.heap_alloc _ _ _ hfl) (Below.heap_alloc _ _ _ hbl), hB.size, hf, hb, by omega, by omega, hl, Nat.zero_le _, hr⟩, hB.alloc hB.size _⟩
  · simp only [World.cell?, heap_alloc_new]; rfl
  · simp only [World.cell?, heap_alloc_new]; rfl
  · simp only [World.cell?, heap_alloc_new]; rfl
  · simp only [World.frozen?, heap_alloc_new]; rfl
theorem mem_new2 {w w2 : World} {l : List UInt8} {f b room : Nat} {T : TypeId} (hF : FileAt w2 f b l.length l) (hf : w.heap.size ≤ f) (hb : w.heap.size ≤ b) (hB : Below w.heap.size w w2) (hl : l.length ≤ room) (hr : room ≤ 1048576) :
    MemAt ((w2.alloc (Obj.cells #[.pointer (some ⟨f, 0, none⟩), .int .i64 (room : Int), .int .i64 0] 280)).alloc (Obj.cells #[.pointer (some ⟨f, 0, none⟩), .int .i64 (room : Int), .int .i64 0] T)) (fun k => w.heap.size ≤ k) (w2.heap.size + 1) ⟨l, room, 0⟩ ∧ Below w.heap.size w ((w2.alloc (Obj.cells #[.pointer (some ⟨f, 0, none⟩), .int .i64 (room : Int), .int .i64 0] 280)).alloc (Obj.cells #[.pointer (some ⟨f, 0, none⟩), .int .i64 (room : Int), .int .i64 0] T)) := by
  have h1 := mem_new (w := w) (T := T) (hF.below (recv4 w2 (Obj.cells #[.pointer (some ⟨f, 0, none⟩), .int .i64 (room : Int), .int .i64 0] 280))) hf hb (hB.alloc hB.size _) hl hr
  have hs : (w2.alloc (Obj.cells #[.pointer (some ⟨f, 0, none⟩), .int .i64 (room : Int), .int .i64 0] 280)).heap.size = w2.heap.size + 1 := by simp
  rw [hs] at h1
  exact h1
set_option maxRecDepth 100000 in
set_option maxHeartbeats 1000000 in
theorem newGrowing_good (v : Value) (l : List UInt8) (w : World) (hb : Bys w v l) (hl : l.length ≤ 1048576) :
    Calls Tryz.prog 81 #[v] w fun e w' => ∃ g, e = .returned (.tuple #[.pointer (some ⟨g, 0, none⟩), .int .i64 0]) ∧ MemAt w' (fun k => w.heap.size ≤ k) g ⟨l, 1048576, 0⟩ ∧ Below w.heap.size w w' := by
  obtain ⟨a1, c1, rfl, -⟩ := bys_form hb
  have HB := hide hb
  clear hb
  go_enter Tryz.func81, Tryz.ntmps81
  go_wp2_with fail
  refine (storeOf_good _ l 1048576 w HB.out (by omega) (by omega)).mono ?_
  rintro e w2 ⟨f, b, rfl, k1, k2, kb, k3⟩
  have K1 := hide k1
  clear k1
  go_wp2
  go_ret2
  obtain ⟨q1, q2⟩ := mem_new2 (room := 1048576) (T := 285) K1.out k2 kb k3 (by omega) (by omega)
  exact ⟨_, rfl, q1, q2⟩
set_option maxRecDepth 100000 in
set_option maxHeartbeats 1000000 in
theorem gmread_any (O : Nat → Prop) (g : Nat) (S : MS) (n : Int) (w : World) (h : MemAt w O g S) :
    Calls Tryz.prog 284 #[.pointer (some ⟨g, 0, none⟩), .int .i64 n] w fun e w' => ∃ v, e = .returned (.tuple #[v, .int .i64 (S.read n).2.1]) ∧ w'.ownsRow w.heap.size 5 1 v (S.read n).1.length ((S.read n).1.map bv) ∧ MemAt w' O g (S.read n).2.2 ∧ Turned O w w' := by
  have HR := hide (sread_any O g S n w h)
  clear h
  go_enter Tryz.func284, Tryz.ntmps284
  go_wp2_with fail
  refine HR.out.mono ?_
  rintro e w2 ⟨v, rfl, h1, h2, h3⟩
  have H1 := hide h1
  have H2 := hide h2
  have H3 := hide h3
  clear h1 h2 h3 HR
  go_wp2
  go_ret2
  exact ⟨v, rfl, H1.out, H2.out, H3.out⟩
set_option maxRecDepth 100000 in
set_option maxHeartbeats 1000000 in
theorem gmseek_any (O : Nat → Prop) (g : Nat) (S : MS) (off wh : Int) (w : World) (h : MemAt w O g S) :
    Calls Tryz.prog 285 #[.pointer (some ⟨g, 0, none⟩), .int .i64 off, .int .i64 wh] w fun e w' => e = .returned (.tuple #[.int .i64 (S.seek off wh).1, .int .i64 (S.seek off wh).2.1]) ∧ MStep w O g (S.seek off wh).2.2 w' := by
  have HR := hide (sseek_any O g S off wh w h)
  clear h
  go_enter Tryz.func285, Tryz.ntmps285
  go_wp2_with fail
  refine HR.out.mono ?_
  rintro e w2 ⟨rfl, h1⟩
  have H1 := hide h1
  clear h1 HR
  go_wp2
  go_ret2
  exact ⟨rfl, H1.out⟩
set_option maxRecDepth 100000 in
set_option maxHeartbeats 1000000 in
theorem gmwrite_any (O : Nat → Prop) (g : Nat) (S : MS) (x : List UInt8) (a : Option Addr) (c : Nat) (w : World) (h : MemAt w O g S) (hx : Bys w (.slice a x.length c) x) (hc : x.length ≤ c) (hap : 0 < x.length → ∀ k, (Value.slice a x.length c).ownBlock = some k → ¬ O k) :
    Calls Tryz.prog 286 #[.pointer (some ⟨g, 0, none⟩), .slice a x.length c] w fun e w' => e = .returned (.tuple #[.int .i64 (S.write x).1, .int .i64 (S.write x).2.1]) ∧ MStep w O g (S.write x).2.2 w' := by
  have HR := hide (swrite_any O g S x a c w h hx hc hap)
  clear h hx hap
  go_enter Tryz.func286, Tryz.ntmps286
  go_wp2_with fail
  refine HR.out.mono ?_
  rintro e w2 ⟨rfl, h1⟩
  have H1 := hide h1
  clear h1 HR
  go_wp2
  go_ret2
  exact ⟨rfl, H1.out⟩
end Go.Proofs.YtkkommomefmpgaaGreat

/- A custom stream, as a value and in memory; isMade, Seek, Taken; an answer is used up. -/
namespace Go.Proofs.YtkkommomefmpgaaGreat
open Go.RowKit

end Go.Proofs.YtkkommomefmpgaaGreat

/- A custom stream is made: copiedAnswers. -/
namespace Go.Proofs.YtkkommomefmpgaaGreat
open Go.RowKit

def AnsR (W : World) (v : Value) (l : List (List UInt8 × Int)) : Prop :=
  ∃ a cap, v = .slice a l.length cap ∧ (0 < l.length → ∃ b off, a = some ⟨b, off, none⟩ ∧ ∀ j (hj : j < l.length), ∃ va vc, W.cell? ⟨b, off + j * 2, none⟩ = some (.slice va l[j].1.length vc) ∧ W.cell? ⟨b, off + j * 2 + 1, none⟩ = some (.int .i64 l[j].2) ∧ Bys W (.slice va l[j].1.length vc) l[j].1 ∧ l[j].1.length ≤ vc)
theorem AnsR.below {W W' : World} {v : Value} {l : List (List UInt8 × Int)} (h : AnsR W v l) (hB : Below W.heap.size W W') : AnsR W' v l := by
  obtain ⟨a, cap, rfl, h2⟩ := h
  refine ⟨a, cap, rfl, fun h0 => ?_⟩
  obtain ⟨b, off, rfl, hd⟩ := h2 h0
  refine ⟨b, off, rfl, fun j hj => ?_⟩
  obtain ⟨va, vc, a1, a2, a3, a4⟩ := hd j hj
  have hl := World.block_lt_of_cell? W _ a1
  exact ⟨va, vc, (hB.cell (p := ⟨b, off + j * 2, none⟩) hl).trans a1, (hB.cell (p := ⟨b, off + j * 2 + 1, none⟩) hl).trans a2, a3.below hB, a4⟩
end Go.Proofs.YtkkommomefmpgaaGreat

/- A custom stream is made. -/
namespace Go.Proofs.YtkkommomefmpgaaGreat
open Go.RowKit

def IntsR (W : World) (v : Value) (l : List Int) : Prop :=
  (v = .slice none 0 0 ∧ l = []) ∨ ∃ q cap, v = .slice (some q) l.length cap ∧ (0 < l.length → ∃ b off, q = ⟨b, off, none⟩ ∧ ∀ j (hj : j < l.length), W.cell? ⟨b, off + j, none⟩ = some (.int .i64 l[j]))
theorem IntsR.below {W W' : World} {v : Value} {l : List Int} (h : IntsR W v l) (hB : Below W.heap.size W W') : IntsR W' v l := by
  rcases h with h | ⟨q, cap, rfl, h2⟩
  · exact .inl h
  · refine .inr ⟨q, cap, rfl, fun h0 => ?_⟩
    obtain ⟨b, off, rfl, hd⟩ := h2 h0
    exact ⟨b, off, rfl, fun j hj => (hB.cell (p := ⟨b, off + j, none⟩) (World.block_lt_of_cell? W _ (hd j hj))).trans (hd j hj)⟩
theorem IntsR.form {W : World} {v : Value} {l : List Int} (h : IntsR W v l) : ∃ a c, v = .slice a l.length c := by
  rcases h with ⟨rfl, rfl⟩ | ⟨q, cap, rfl, _⟩
  · exact ⟨_, _, rfl⟩
  · exact ⟨_, _, rfl⟩
def iv (x : Int) : Value := .int .i64 x
end Go.Proofs.YtkkommomefmpgaaGreat

/- The reference's memories: made; which memories may be. -/
namespace Go.Proofs.YtkkommomefmpgaaGreat
open Go.RowKit

end Go.Proofs.YtkkommomefmpgaaGreat

/- The reference's memories: Read, Write, Seek. -/
namespace Go.Proofs.YtkkommomefmpgaaGreat
open Go.RowKit

end Go.Proofs.YtkkommomefmpgaaGreat

/- The reference's memories: Write. -/
namespace Go.Proofs.YtkkommomefmpgaaGreat
open Go.RowKit

end Go.Proofs.YtkkommomefmpgaaGreat

/- Answers for the program: the law's answers. -/
namespace Go.Proofs.YtkkommomefmpgaaGreat
open Go.RowKit

end Go.Proofs.YtkkommomefmpgaaGreat

/- The reference's custom stream: made. -/
namespace Go.Proofs.YtkkommomefmpgaaGreat
open Go.RowKit

end Go.Proofs.YtkkommomefmpgaaGreat

/- A custom stream: an answer is used up. -/
namespace Go.Proofs.YtkkommomefmpgaaGreat
open Go.RowKit

end Go.Proofs.YtkkommomefmpgaaGreat

/- A custom stream: useAnswer, useNumber, as deferred calls. -/
namespace Go.Proofs.YtkkommomefmpgaaGreat
open Go.RowKit

end Go.Proofs.YtkkommomefmpgaaGreat

/- A custom stream: Read. -/
namespace Go.Proofs.YtkkommomefmpgaaGreat
open Go.RowKit

end Go.Proofs.YtkkommomefmpgaaGreat

/- A custom stream: howMany. -/
namespace Go.Proofs.YtkkommomefmpgaaGreat
open Go.RowKit

end Go.Proofs.YtkkommomefmpgaaGreat

/- A custom stream: Write, Taken. -/
namespace Go.Proofs.YtkkommomefmpgaaGreat
open Go.RowKit

end Go.Proofs.YtkkommomefmpgaaGreat

/- The reference's custom streams: in memory; Read. -/
namespace Go.Proofs.YtkkommomefmpgaaGreat
open Go.RowKit

end Go.Proofs.YtkkommomefmpgaaGreat

/- The reference's custom streams: Write, Seek. -/
namespace Go.Proofs.YtkkommomefmpgaaGreat
open Go.RowKit

end Go.Proofs.YtkkommomefmpgaaGreat

/- Two objects in memory that share nothing. -/
namespace Go.Proofs.YtkkommomefmpgaaGreat
open Go.RowKit

structure OAt (A : World → (Nat → Prop) → Prop) : Prop where
  keep : ∀ {w w' : World} {O : Nat → Prop}, A w O → (∀ j, O j → j < w.heap.size → w'.heap[j]? = w.heap[j]?) → w.heap.size ≤ w'.heap.size → A w' O
  trim : ∀ {w : World} {O : Nat → Prop}, A w O → A w (fun k => O k ∧ k < w.heap.size)
def OStep (A : World → (Nat → Prop) → Prop) (w : World) (O : Nat → Prop) (w' : World) : Prop := ∃ O', A w' O' ∧ (∀ k, O' k → O k ∨ w.heap.size ≤ k) ∧ Turned O w w'
def Both (A B : World → (Nat → Prop) → Prop) (w : World) (Q : Nat → Prop) : Prop := ∃ O P, A w O ∧ B w P ∧ (∀ j, O j → Q j ∧ j < w.heap.size ∧ ¬ P j) ∧ ∀ j, P j → Q j ∧ j < w.heap.size
theorem Both.below {A B : World → (Nat → Prop) → Prop} {w w' : World} {Q : Nat → Prop} (h : Both A B w Q) (hA : OAt A) (hB : OAt B) (hb : Below w.heap.size w w') : Both A B w' (fun j => Q j ∧ (j < w.heap.size ∨ w'.heap.size ≤ j)) := by
  obtain ⟨O, P, h1, h2, h3, h4⟩ := h
  have hz := hb.size
  exact ⟨O, P, hA.keep h1 (fun j _ hl => hb.block j hl) hz, hB.keep h2 (fun j _ hl => hb.block j hl) hz, fun j e => ⟨⟨(h3 j e).1, .inl (h3 j e).2.1⟩, Nat.lt_of_lt_of_le (h3 j e).2.1 hz, (h3 j e).2.2⟩, fun j e => ⟨⟨(h4 j e).1, .inl (h4 j e).2⟩, Nat.lt_of_lt_of_le (h4 j e).2 hz⟩⟩
theorem Both.mono {A B : World → (Nat → Prop) → Prop} {w : World} {Q Q' : Nat → Prop} (h : Both A B w Q) (hq : ∀ j, Q j → Q' j) : Both A B w Q' := by
  obtain ⟨O, P, h1, h2, h3, h4⟩ := h
  exact ⟨O, P, h1, h2, fun j e => ⟨hq j (h3 j e).1, (h3 j e).2⟩, fun j e => ⟨hq j (h4 j e).1, (h4 j e).2⟩⟩
theorem Both.swap {A B : World → (Nat → Prop) → Prop} {w : World} {Q : Nat → Prop} (h : Both A B w Q) : Both B A w Q := by
  obtain ⟨O, P, h1, h2, h3, h4⟩ := h
  exact ⟨P, O, h2, h1, fun j e => ⟨(h4 j e).1, (h4 j e).2, fun e' => (h3 j e').2.2 e⟩, fun j e => ⟨(h3 j e).1, (h3 j e).2.1⟩⟩
theorem Both.one {A B : World → (Nat → Prop) → Prop} {w : World} {Q : Nat → Prop} (h : Both A B w Q) (hB : OAt B) :
    ∃ O, A w O ∧ (∀ j, O j → Q j ∧ j < w.heap.size) ∧ (∀ A' w1 w', Below w.heap.size w w1 → OAt A' → OStep A' w1 O w' → Both A' B w' (fun j => Q j ∨ w1.heap.size ≤ j) ∧ Turned Q w w') ∧
      ∀ A' w', A' w' O → Turned O w w' → Both A' B w' (fun j => Q j ∧ (j < w.heap.size ∨ w'.heap.size ≤ j)) ∧ Turned Q w w' := by
  obtain ⟨O, P, h1, h2, h3, h4⟩ := h
  refine ⟨O, h1, fun j e => ⟨(h3 j e).1, (h3 j e).2.1⟩, fun A' w1 w' hb1 hA' hS => ?_, fun A' w' hA' hT => ?_⟩
  · obtain ⟨O', a1, a2, a3⟩ := hS
    have hz := a3.size
    have hz1 := hb1.size
    refine ⟨⟨fun k => O' k ∧ k < w'.heap.size, P, hA'.trim a1, hB.keep h2 (fun j e hl => (a3.block j (Nat.lt_of_lt_of_le hl hz1) (fun e' => (h3 j e').2.2 e)).trans (hb1.block j hl)) (Nat.le_trans hz1 hz), fun j e => ⟨?_, e.2, fun e' => ?_⟩, fun j e => ⟨.inl (h4 j e).1, Nat.lt_of_lt_of_le (h4 j e).2 (Nat.le_trans hz1 hz)⟩⟩, (Turned.of_below hb1).trans (a3.mono fun k e => (h3 k e).1) (fun _ _ e => e)⟩
    · rcases a2 j e.1 with e1 | e1
      · exact .inl (h3 j e1).1
      · exact .inr e1
    · rcases a2 j e.1 with e1 | e1
      · exact (h3 j e1).2.2 e'
      · have := (h4 j e').2; omega
  · have hz := hT.size
    exact ⟨⟨O, P, hA', hB.keep h2 (fun j e hl => hT.block j hl (fun e' => (h3 j e').2.2 e)) hz, fun j e => ⟨⟨(h3 j e).1, .inl (h3 j e).2.1⟩, Nat.lt_of_lt_of_le (h3 j e).2.1 hz, (h3 j e).2.2⟩, fun j e => ⟨⟨(h4 j e).1, .inl (h4 j e).2⟩, Nat.lt_of_lt_of_le (h4 j e).2 hz⟩⟩, hT.mono fun k e => (h3 k e).1⟩
theorem Both.two {A B : World → (Nat → Prop) → Prop} {w : World} {Q : Nat → Prop} (h : Both A B w Q) (hA : OAt A) :
    ∃ P, B w P ∧ (∀ j, P j → Q j ∧ j < w.heap.size) ∧ (∀ B' w1 w', Below w.heap.size w w1 → OAt B' → OStep B' w1 P w' → Both A B' w' (fun j => Q j ∨ w1.heap.size ≤ j) ∧ Turned Q w w') ∧
      ∀ B' w', B' w' P → Turned P w w' → Both A B' w' (fun j => Q j ∧ (j < w.heap.size ∨ w'.heap.size ≤ j)) ∧ Turned Q w w' := by
  obtain ⟨P, h1, h2, h3, h4⟩ := h.swap.one hA
  exact ⟨P, h1, h2, fun B' w1 w' hb hB' hS => by obtain ⟨a, b⟩ := h3 B' w1 w' hb hB' hS; exact ⟨a.swap, b⟩, fun B' w' hB' hT => by obtain ⟨a, b⟩ := h4 B' w' hB' hT; exact ⟨a.swap, b⟩⟩
theorem Both.make {A B : World → (Nat → Prop) → Prop} {w w' : World} {O Q : Nat → Prop} (hA : OAt A) (hB : OAt B) (h1 : A w O) (hO : ∀ j, O j → j < w.heap.size → Q j) (hQ : ∀ j, w.heap.size ≤ j → j < w'.heap.size → Q j) (hb : Below w.heap.size w w') (h2 : B w' (fun k => w.heap.size ≤ k)) : Both A B w' Q := by
  have hz := hb.size
  exact ⟨fun k => O k ∧ k < w.heap.size, fun k => w.heap.size ≤ k ∧ k < w'.heap.size, hA.keep (hA.trim h1) (fun j _ hl => hb.block j hl) hz, hB.trim h2, fun j e => ⟨hO j e.1 e.2, by have := e.2; omega, fun e' => by have := e.2; have := e'.1; omega⟩, fun j e => ⟨hQ j e.1 e.2, e.2⟩⟩
end Go.Proofs.YtkkommomefmpgaaGreat

/- The statements' own example holds: alive answers true. -/
namespace Go.Proofs.YtkkommomefmpgaaGreat
open Go.RowKit

end Go.Proofs.YtkkommomefmpgaaGreat

/- A Raw of either side, of any kind: what a law is told of the two. -/
namespace Go.Proofs.YtkkommomefmpgaaGreat
open Go.RowKit

abbrev PP {σ : Type} (A B : σ → World → (Nat → Prop) → Prop) (s : σ) (lo : Nat) (w : World) : Prop := Both (A s) (B s) w (fun j => lo ≤ j)
theorem pk_num {σ : Type} {A B : σ → World → (Nat → Prop) → Prop} (oA : ∀ s, OAt (A s)) (oB : ∀ s, OAt (B s)) {s s' : σ} {lo : Nat} {w : World} {F G : FuncId} {X Y : Array Value} {N E : Int} (h : PP A B s lo w) (hlo : lo ≤ w.heap.size)
    (hF : ∀ O wb, A s wb O → (∀ j, O j → lo ≤ j ∧ (j < w.heap.size ∨ wb.heap.size ≤ j)) → Below w.heap.size w wb → Calls Tryz.prog F X wb fun e w' => e = .returned (.tuple #[.int .i64 N, .int .i64 E]) ∧ OStep (A s') wb O w')
    (hG : ∀ O wb, B s wb O → (∀ j, O j → lo ≤ j) → Turned (fun j => lo ≤ j) w wb → Calls Tryz.prog G Y wb fun e w' => e = .returned (.tuple #[.int .i64 N, .int .i64 E]) ∧ OStep (B s') wb O w') :
    ∀ wb, Below w.heap.size w wb → Calls Tryz.prog F X wb fun e w1 => e = .returned (.tuple #[.int .i64 N, .int .i64 E]) ∧ Turned (fun j => lo ≤ j ∧ (j < w.heap.size ∨ wb.heap.size ≤ j)) wb w1 ∧ Turned (fun j => lo ≤ j) w w1 ∧
      ∀ w2, Below w1.heap.size w1 w2 → Calls Tryz.prog G Y w2 fun e w3 => e = .returned (.tuple #[.int .i64 N, .int .i64 E]) ∧ Hid (PP A B s' lo w3) ∧ Turned (fun j => lo ≤ j ∧ (j < w.heap.size ∨ wb.heap.size ≤ j)) wb w3 ∧ Turned (fun j => lo ≤ j) w w3 := by
  intro wb hb
  have hbb := Both.below h (oA _) (oB _) hb
  have hzb := hb.size
  obtain ⟨O, h1, h2, h3, -⟩ := hbb.one (oB _)
  refine (hF O wb h1 (fun j e => (h2 j e).1) hb).mono ?_
  rintro e w1 ⟨rfl, hS⟩
  obtain ⟨q1, q2⟩ := h3 (A s') wb w1 (Below.refl _ _) (oA _) hS
  have hT1 : Turned (fun j => lo ≤ j) w w1 := (Turned.of_below (S := fun j => lo ≤ j) hb).trans (q2.mono fun _ e => e.1) (fun _ _ e => e)
  refine ⟨rfl, q2, hT1, fun w2 hb2 => ?_⟩
  have hz1 := q2.size
  have hz2 := hb2.size
  have q3 := q1.below (oA _) (oB _) hb2
  obtain ⟨P, p1, p2, p3, -⟩ := q3.two (oA _)
  have hT2 := hT1.trans (Turned.of_below (S := fun j => lo ≤ j) hb2) (fun _ _ e => e)
  refine (hG P w2 p1 (fun j e => by rcases (p2 j e).1.1 with e | e; exact e.1; exact Nat.le_trans (Nat.le_trans hlo hzb) e) hT2).mono ?_
  rintro e w3 ⟨rfl, hS3⟩
  obtain ⟨r1, r2⟩ := p3 (B s') w2 w3 (Below.refl _ _) (oB _) hS3
  have hin : ∀ j, ((fun j => ((lo ≤ j ∧ (j < w.heap.size ∨ wb.heap.size ≤ j)) ∨ wb.heap.size ≤ j) ∧ (j < w1.heap.size ∨ w2.heap.size ≤ j)) j) → lo ≤ j ∧ (j < w.heap.size ∨ wb.heap.size ≤ j) := fun j e => by
    rcases e.1 with e1 | e1
    · exact e1
    · exact ⟨by omega, .inr e1⟩
  refine ⟨rfl, hide (r1.mono fun j e => ?_), (q2.trans (Turned.of_below (S := fun j => lo ≤ j ∧ (j < w.heap.size ∨ wb.heap.size ≤ j)) hb2) (fun _ _ e => e)).trans (r2.mono hin) (fun _ _ e => e), hT2.trans (r2.mono fun j e => (hin j e).1) (fun _ _ e => e)⟩
  rcases e with e | e
  · exact (hin j e).1
  · show lo ≤ j; omega
end Go.Proofs.YtkkommomefmpgaaGreat

/- A plant's kinds: memories and custom streams. -/
namespace Go.Proofs.YtkkommomefmpgaaGreat
open Go.RowKit

end Go.Proofs.YtkkommomefmpgaaGreat

/- Streams, as values, over any Raw that is one. -/
namespace Go.Proofs.YtkkommomefmpgaaGreat
open Go.RowKit

structure SS where
  rd : Bool
  wt : Bool
  mode : Int
  size : Int
  out : List UInt8
  inn : List UInt8
  back : List UInt8
  dir : Int
  fin : Bool
  bad : Bool
  closed : Bool
def SS.buf (x : SS) : Bool := decide (1 ≤ x.mode) && decide (x.mode ≤ 3) && (decide (1 ≤ x.size) && decide (x.size ≤ 65536)) && decide ((x.out.length : Int) ≤ if x.mode = 1 then 0 else x.size) && decide ((x.inn.length : Int) ≤ 65536) && decide ((x.back.length : Int) ≤ 8)
def SS.toR (x : SS) : Bool := decide (0 < (x.inn.length : Int) + (x.back.length : Int))
def SS.toW (x : SS) : Bool := decide (0 < (x.out.length : Int))
def SS.way (x : SS) : Bool :=
  if x.dir = 0 then !x.toR && !x.toW
  else if x.dir = 1 then x.rd && !x.toW && !x.closed
  else if x.dir = 2 then x.wt && !x.toR && !x.closed
  else false
def SS.may (x : SS) : Bool := x.buf && x.way
def SS.refuse (x : SS) (hasRaw : Bool) : Int := if x.may = false then 51 else if hasRaw = false then 2 else if x.closed = true then 113 else 0
def SS.mark (x : SS) (e : Int) : SS := if e = 0 ∨ e = 52 then x else { x with bad := true }
def SS.deliver {S : Type} (D : RawD S) (x : SS) (s : S) : SS × Int × S :=
  (({ x with out := x.out.drop (putV D x.out (putF x.out) s 0 0).1 } : SS).mark (putV D x.out (putF x.out) s 0 0).2.1, (putV D x.out (putF x.out) s 0 0).2.1, (putV D x.out (putF x.out) s 0 0).2.2)
def SS.lay {S : Type} (D : RawD S) (x : SS) (s : S) (c : UInt8) : SS × Int × S :=
  if ((x.out.length + 1 : Nat) : Int) = x.size ∨ (x.mode = 2 ∧ c = 10) then ({ x with out := x.out ++ [c] } : SS).deliver D s else ({ x with out := x.out ++ [c] }, 0, s)
def SS.put1 {S : Type} (D : RawD S) (x : SS) (s : S) (c : UInt8) : SS × Int × S :=
  if x.mode = 1 then (x.mark (putV D [c] (putF [c]) s 0 0).2.1, (putV D [c] (putF [c]) s 0 0).2.1, (putV D [c] (putF [c]) s 0 0).2.2)
  else if (x.out.length : Int) = x.size then
    (if (x.deliver D s).2.1 = 0 then (x.deliver D s).1.lay D (x.deliver D s).2.2 c else x.deliver D s)
  else x.lay D s c
def SS.noWrite (x : SS) : Int := if x.refuse true ≠ 0 then x.refuse true else if x.wt = false then 65 else if x.dir = 1 ∧ ¬ (x.fin = true ∧ (x.inn.length : Int) + (x.back.length : Int) = 0) then 112 else 0
def SS.noRead (x : SS) : Int := if x.refuse true ≠ 0 then x.refuse true else if x.rd = false then 65 else if x.dir = 2 then 112 else 0
def SS.put {S : Type} (D : RawD S) (x : SS) (s : S) (c : UInt8) : SS × Int × S :=
  if x.noWrite = 0 then ({ x with dir := 2 } : SS).put1 D s c else (x, x.noWrite, s)
def SS.most (x : SS) : Nat := if x.mode = 1 then 1 else x.size.toNat
def SS.get1 {S : Type} (D : RawD S) (x : SS) (s : S) : SS × UInt8 × Int × S :=
  if 0 < x.back.length then ({ x with back := x.back.dropLast }, x.back.getD (x.back.length - 1) 0, 0, s)
  else if 0 < x.inn.length then ({ x with inn := x.inn.drop 1 }, x.inn.getD 0 0, 0, s)
  else if x.fin = true then (x, 0, 111, s)
  else if (someV D x.most 8192 s).2.1 ≠ 0 then (x.mark (someV D x.most 8192 s).2.1, 0, (someV D x.most 8192 s).2.1, (someV D x.most 8192 s).2.2)
  else if (someV D x.most 8192 s).1.length = 0 then ({ x with fin := true }, 0, 111, (someV D x.most 8192 s).2.2)
  else ({ x with inn := (someV D x.most 8192 s).1.drop 1 }, (someV D x.most 8192 s).1.getD 0 0, 0, (someV D x.most 8192 s).2.2)
def SS.get {S : Type} (D : RawD S) (x : SS) (s : S) : SS × UInt8 × Int × S :=
  if x.noRead = 0 then ({ x with dir := 1 } : SS).get1 D s else (x, 0, x.noRead, s)
def SS.flush {S : Type} (D : RawD S) (x : SS) (s : S) : SS × Int × S :=
  if x.refuse true ≠ 0 then (x, x.refuse true, s) else if x.dir = 2 then
    (if (x.deliver D s).2.1 = 0 then ({ (x.deliver D s).1 with dir := 0 }, 0, (x.deliver D s).2.2) else x.deliver D s)
  else (x, 0, s)
theorem may_buf {x : SS} (h : x.may = true) : 1 ≤ x.mode ∧ x.mode ≤ 3 ∧ 1 ≤ x.size ∧ x.size ≤ 65536 ∧ (x.out.length : Int) ≤ x.size ∧ (x.mode = 1 → x.out = []) ∧ x.inn.length ≤ 65536 ∧ x.back.length ≤ 8 := by
  unfold SS.may SS.buf at h
  simp only [Bool.and_eq_true, decide_eq_true_eq] at h
  obtain ⟨⟨⟨⟨⟨⟨h1, h2⟩, h3, h4⟩, h5⟩, h6⟩, h7⟩, -⟩ := h
  refine ⟨h1, h2, h3, h4, ?_, fun e => ?_, by omega, by omega⟩
  · split at h5 <;> omega
  · rw [if_pos e] at h5
    exact List.length_eq_zero_iff.1 (by omega)
theorem refuse_may {x : SS} {b : Bool} (h : x.refuse b = 0) : x.may = true ∧ b = true ∧ x.closed = false := by
  unfold SS.refuse at h
  split at h
  · omega
  split at h
  · omega
  split at h
  · omega
  rename_i h1 h2 h3
  exact ⟨by simpa using h1, by simpa using h2, by simpa using h3⟩
theorem noWrite_may {x : SS} (h : x.noWrite = 0) : x.refuse true = 0 ∧ x.wt = true := by
  unfold SS.noWrite at h
  split at h
  · contradiction
  split at h
  · omega
  rename_i h1 h2
  exact ⟨by simpa using h1, by simpa using h2⟩
theorem noRead_may {x : SS} (h : x.noRead = 0) : x.refuse true = 0 ∧ x.rd = true ∧ x.dir ≠ 2 := by
  unfold SS.noRead at h
  split at h
  · contradiction
  split at h
  · omega
  split at h
  · omega
  rename_i h1 h2 h3
  exact ⟨by simpa using h1, by simpa using h2, h3⟩
theorem putV_le {S : Type} (D : RawD S) (bs : List UInt8) : ∀ k s d t, d ≤ bs.length → d ≤ (putV D bs k s d t).1 ∧ (putV D bs k s d t).1 ≤ bs.length
  | 0, s, d, t, h => ⟨Nat.le_refl _, h⟩
  | k + 1, s, d, t, h => by
    rw [putV_next D bs k s d t (m := (D.write s (bs.drop d)).1) (e := (D.write s (bs.drop d)).2.1) (s2 := (D.write s (bs.drop d)).2.2) rfl]
    split
    · split
      · split
        · exact ⟨Nat.le_refl _, h⟩
        · exact putV_le D bs k _ d _ h
      · split
        · exact ⟨Nat.le_refl _, h⟩
        · split
          · rename_i h1 h2 h3 h4
            have := putV_le D bs k (D.write s (bs.drop d)).2.2 (d + (D.write s (bs.drop d)).1.toNat) 0 (by omega)
            omega
          · exact ⟨Nat.le_refl _, h⟩
    · exact ⟨Nat.le_refl _, h⟩
theorem putV_ok {S : Type} (D : RawD S) (bs : List UInt8) (T : Nat) (hT : T = 8192) (k : Nat) : ∀ s d t, d ≤ bs.length → t < T → (bs.length - d) * T + (T - t) ≤ k → (putV D bs k s d t).2.1 = 0 → (putV D bs k s d t).1 = bs.length := by
  induction k with
  | zero => intro s d t h ht hk he; omega
  | succ k ih =>
    intro s d t h ht hk he
    rw [putV_next D bs k s d t (m := (D.write s (bs.drop d)).1) (e := (D.write s (bs.drop d)).2.1) (s2 := (D.write s (bs.drop d)).2.2) rfl] at he ⊢
    rw [← hT] at he ⊢
    split at he
    · rename_i h1
      rw [if_pos h1]
      split at he
      · rename_i h2
        rw [if_pos h2]
        split at he
        · simp at he
        · rename_i h3
          rw [if_neg h3]
          exact ih _ d (t + 1) h (by omega) (by omega) he
      · rename_i h2
        rw [if_neg h2]
        split at he
        · simp at he
        · rename_i h3
          rw [if_neg h3]
          split at he
          · rename_i h4
            rw [if_pos h4]
            obtain ⟨q, hq⟩ : ∃ q : Nat, (D.write s (bs.drop d)).1 = (q : Int) := ⟨(D.write s (bs.drop d)).1.toNat, by omega⟩
            rw [hq] at h2 h3 he ⊢
            refine ih _ _ 0 (by omega) (by omega) ?_ he
            have : bs.length - d = (bs.length - (d + (q : Int).toNat)) + q := by omega
            rw [this, Nat.add_mul] at hk
            have h5 : 1 * T ≤ q * T := Nat.mul_le_mul_right _ (by omega)
            omega
          · rename_i h4
            exact absurd he h4
    · rename_i h1
      rw [if_neg h1]
      show d = bs.length
      omega
theorem putV_all {S : Type} (D : RawD S) (bs : List UInt8) (s : S) (h : (putV D bs (putF bs) s 0 0).2.1 = 0) : (putV D bs (putF bs) s 0 0).1 = bs.length := putV_ok D bs 8192 rfl _ s 0 0 (Nat.zero_le _) (by omega) (by unfold putF; omega) h
theorem putV_fits {S : Type} (D : RawD S) (bs : List UInt8) (s : S) : (putV D bs (putF bs) s 0 0).1 ≤ bs.length := (putV_le D bs _ s 0 0 (Nat.zero_le _)).2
structure Bears {S : Type} (D : RawD S) (rok wok : S → Prop) (G : Nat → S → Prop) : Prop where
  put : ∀ n s bs, G (n + 1) s → bs.length ≤ 65536 → putOk D wok bs (putF bs) s 0 0 ∧ G n (putV D bs (putF bs) s 0 0).2.2
  some : ∀ n s m, G (n + 1) s → 1 ≤ m → m ≤ 65536 → someOk D rok m 8192 s ∧ G n (someV D m 8192 s).2.2
  less : ∀ n s, G (n + 1) s → G n s
structure BearsW {S : Type} (D : RawD S) (wok : S → Prop) (G : Nat → S → Prop) : Prop where
  put : ∀ n s bs, G (n + 1) s → bs.length ≤ 65536 → putOk D wok bs (putF bs) s 0 0 ∧ G n (putV D bs (putF bs) s 0 0).2.2
  less : ∀ n s, G (n + 1) s → G n s
theorem Bears.w {S : Type} {D : RawD S} {rok wok : S → Prop} {G : Nat → S → Prop} (h : Bears D rok wok G) : BearsW D wok G := ⟨h.put, h.less⟩
theorem deliver_ok {S : Type} (D : RawD S) (x : SS) (s : S) (h : (x.deliver D s).2.1 = 0) : (x.deliver D s).1 = { x with out := [] } := by
  have h2 : (putV D x.out (putF x.out) s 0 0).2.1 = 0 := h
  have e := putV_all D x.out s h2
  unfold SS.deliver SS.mark
  rw [if_pos (.inl h2), e, List.drop_length]
end Go.Proofs.YtkkommomefmpgaaGreat

/- How many calls of retry a Raw of a plant bears. -/
namespace Go.Proofs.YtkkommomefmpgaaGreat
open Go.RowKit

end Go.Proofs.YtkkommomefmpgaaGreat

/- Slices of anything that came in as an argument: what a walk is told of them, and their sizes. -/
namespace Go.Proofs.YtkkommomefmpgaaGreat
open Go.ChangeShapes Go.WideShapes Go.ChangeAt Go.RowKit Go.Deep

def DatL {H : Type} {α : Type} (Dt : DataW H → α → Prop) (d : DataW H) (l : List α) : Prop := (d = .nil ∧ l = []) ∨ ∃ elems spare : List (DataW H), d = .slice elems spare ∧ l.length = elems.length ∧ ∀ i (hi : i < l.length), ∃ di, di ∈ elems ∧ Dt di l[i]
def RowsR {α : Type} (W : World) (k : Nat) (Rd : List Value → α → Prop) (v : Value) (l : List α) : Prop :=
  (v = .slice none 0 0 ∧ l = []) ∨ ∃ q cap, v = .slice (some q) l.length cap ∧ l.length ≤ cap ∧ (0 < l.length → ∃ b off, q = ⟨b, off, none⟩ ∧ ∀ j (hj : j < l.length), ∃ cs, Rd cs l[j] ∧ cs.length = k ∧ ∀ i v, cs[i]? = some v → W.cell? ⟨b, off + j * k + i, none⟩ = some v)
theorem rows_arg {H : Type} {enc : TypeId × Value → H} {P : Program} {W : World} {base : Nat} {a : Option Addr} {len cap fuel t e : Nat} {d : DataW H} {p : List MemPlace} {α : Type} (k : Nat) (Rd : List Value → α → Prop) (Dt : DataW H → α → Prop)
    (ht : P.underlying t = some (.slice e)) (ce : P.cellsOf e = k) (hk : 0 < k)
    (each : ∀ fuel cs d p, DataW.trod enc P W base (fun _ => true) true fuel e cs = some (d, p) → cs.length = k → ∃ x, Rd cs x ∧ Dt d x)
    (hf : DataW.trod enc P W base (fun _ => true) true fuel t (Value.slice a len cap).cells.toList = some (d, p)) :
    ∃ l : List α, RowsR W k Rd (.slice a len cap) l ∧ DatL Dt d l := by
  rcases open_slice ht hf with ⟨hcs, hd⟩ | ⟨x, n, c, m, kk, D, Pl, hcs, _, hl, hm, hmm, hx, hel⟩
  · simp [Value.cells] at hcs
    obtain ⟨rfl, rfl, rfl⟩ := hcs
    exact ⟨[], .inl ⟨rfl, rfl⟩, .inl ⟨(Prod.mk.inj hd).1, rfl⟩⟩
  · simp [Value.cells] at hcs
    obtain ⟨rfl, rfl, rfl⟩ := hcs
    simp only [if_true] at hmm
    subst hmm
    have ea : ∀ i, i < len → ∃ s : α, Dt (D i) s ∧ ∃ cs, Rd cs s ∧ cs.length = k ∧ ∀ j v, cs[j]? = some v → W.cell? ((x.add (i * k)).add j) = some v := by
      intro i hi
      obtain ⟨cs', h1, h2⟩ := hel i (by omega)
      rw [ce] at h1
      obtain ⟨_, hlen, hcell⟩ := World.cells?_some h1
      obtain ⟨s, hs, hD⟩ := each _ _ _ _ h2 hlen
      refine ⟨s, hD, cs', hs, hlen, fun j v hj => ?_⟩
      have hjl := (List.getElem?_eq_some_iff.1 hj).1
      rw [hcell j (by omega)]
      exact hj
    by_cases hα : 0 < len
    case neg =>
      obtain rfl : len = 0 := by omega
      exact ⟨[], .inr ⟨x, _, rfl, Nat.zero_le _, fun h => absurd h (by simp)⟩, .inr ⟨_, _, (Prod.mk.inj hx).1, by simp, fun i hi => absurd hi (by simp)⟩⟩
    obtain ⟨s, hs⟩ : ∃ s : Nat → α, ∀ i, i < len → Dt (D i) (s i) ∧ ∃ cs, Rd cs (s i) ∧ cs.length = k ∧ ∀ j v, cs[j]? = some v → W.cell? ((x.add (i * k)).add j) = some v := by
      exact ⟨fun i => if h : i < len then (ea i h).choose else (ea 0 hα).choose, fun i hi => by simp only [dif_pos hi]; exact (ea i hi).choose_spec⟩
    refine ⟨(List.range len).map s, .inr ⟨x, m, by simp, by simpa using hl, fun h0 => ?_⟩, .inr ⟨_, _, (Prod.mk.inj hx).1, by simp, fun i hi => ?_⟩⟩
    · obtain ⟨b, off, spot⟩ := x
      obtain ⟨_, cs0, _, hc0, q0⟩ := hs 0 hα
      have hspot : spot = none := by
        have h1 := q0 0 (cs0[0]'(by omega)) (List.getElem?_eq_getElem (by omega))
        simpa [Addr.add] using World.cell?_spot h1
      subst hspot
      refine ⟨b, off, rfl, fun j hj => ?_⟩
      have hj' : j < len := by simpa using hj
      obtain ⟨_, cs, h1, h2, h3⟩ := hs j hj'
      have hadd : ∀ o k, (⟨b, o, none⟩ : Addr).add k = ⟨b, o + k, none⟩ := fun o k => by unfold Addr.add; split <;> simp_all
      simp only [List.getElem_map, List.getElem_range]
      exact ⟨cs, h1, h2, fun i v hv => by have := h3 i v hv; rwa [hadd, hadd] at this⟩
    · have hi' : i < len := by simpa using hi
      exact ⟨D i, List.mem_map.2 ⟨i, by simpa using hi', rfl⟩, by simpa using (hs i hi').1⟩
theorem RowsR.form {α : Type} {W : World} {k : Nat} {Rd : List Value → α → Prop} {v : Value} {l : List α} (h : RowsR W k Rd v l) : ∃ a c, v = .slice a l.length c ∧ l.length ≤ c := by
  rcases h with ⟨rfl, rfl⟩ | ⟨q, cap, rfl, h1, _⟩
  · exact ⟨_, _, rfl, Nat.le_refl _⟩
  · exact ⟨_, _, rfl, h1⟩
theorem RowsR.at {α : Type} {W : World} {k : Nat} {Rd : List Value → α → Prop} {a : Option Addr} {n c : Nat} {l : List α} (h : RowsR W k Rd (.slice a n c) l) (j : Nat) (hj : j < l.length) :
    ∃ b off cs, a = some ⟨b, off, none⟩ ∧ Rd cs l[j] ∧ cs.length = k ∧ ∀ i v, cs[i]? = some v → W.cell? ⟨b, off + j * k + i, none⟩ = some v := by
  rcases h with ⟨_, rfl⟩ | ⟨q, cap, he, h1, h2⟩
  · simp at hj
  · cases he
    obtain ⟨b, off, rfl, hd⟩ := h2 (by omega)
    obtain ⟨cs, h3, h4, h5⟩ := hd j hj
    exact ⟨b, off, cs, rfl, h3, h4, h5⟩
def MSmall {H : Type} (P : Program) (t : TypeId) (d : DataW H) : Prop := ∀ n ∈ d.weights P t, n ≤ reachBytes
theorem msmall_arg {H : Type} {P : Program} {ts : List TypeId} {ds : List (DataW H)} (h : (DataW.weightsEach P ts ds).all (· ≤ reachBytes) = true) {j : Nat} {t : TypeId} {d : DataW H} (ht : ts[j]? = some t) (hd : ds[j]? = some d) : MSmall P t d :=
  fun n hn => of_decide_eq_true (List.all_eq_true.1 h _ (DataW.weights_mem_each ht hd n hn))
theorem MSmall.slice {H : Type} {P : Program} {t e : TypeId} {es sp : List (DataW H)} (h : MSmall P t (.slice es sp)) (hu : P.underlying t = some (.slice e)) : (es.length + sp.length) * P.bytesOf e ≤ reachBytes ∧ ∀ d ∈ es, MSmall P e d :=
  ⟨h _ (by simp [DataW.weights, hu]), fun d hd n hn => h n (by
    simp only [DataW.weights, hu, List.mem_cons, List.mem_append]
    exact Or.inr (Or.inl (Kp_weightsAll_mem hd n hn)))⟩
theorem mbytes_small {H : Type} {P : Program} {t e : TypeId} {d : DataW H} {x : List UInt8} (h : MSmall P t d) (hu : P.underlying t = some (.slice e)) (be : P.bytesOf e = 1) (hO : Kp_DataOf d x) : x.length ≤ 140737488351232 := by
  rcases hO with ⟨_, rfl⟩ | ⟨es, sp, rfl, hl⟩
  · simp
  · have := (h.slice hu).1
    rw [be] at this
    simp only [reachBytes] at this
    omega
theorem mrows_small {H : Type} {P : Program} {t e : TypeId} {d : DataW H} {α : Type} {Dt : DataW H → α → Prop} {l : List α} {n : Nat} (h : MSmall P t d) (hu : P.underlying t = some (.slice e)) (be : P.bytesOf e = n) (hO : DatL Dt d l) : l.length * n ≤ 140737488351232 ∧ ∀ i (hi : i < l.length), ∃ di, MSmall P e di ∧ Dt di l[i] := by
  rcases hO with ⟨_, rfl⟩ | ⟨es, sp, rfl, hl, hel⟩
  · exact ⟨by simp, fun i hi => absurd hi (by simp)⟩
  · obtain ⟨h1, h2⟩ := h.slice hu
    rw [be] at h1
    simp only [reachBytes] at h1
    refine ⟨Nat.le_trans (Nat.mul_le_mul_right _ (by omega)) h1, fun i hi => ?_⟩
    obtain ⟨di, hm, hO⟩ := hel i hi
    exact ⟨di, h2 di hm, hO⟩
def ByC (W : World) (v : Value) (x : List UInt8) : Prop := ∃ va vc, v = .slice va x.length vc ∧ Bys W (.slice va x.length vc) x ∧ x.length ≤ vc
theorem byc_arg {H : Type} {enc : TypeId × Value → H} {P : Program} {W : World} {base fuel e u : Nat} {v : Value} {d : DataW H} {p : List MemPlace} (he : P.underlying e = some (.slice u)) (hu : P.underlying u = some (.int .u8)) (cu : P.cellsOf u = 1)
    (h : DataW.trod enc P W base (fun _ => true) true fuel e [v] = some (d, p)) : ∃ x, ByC W v x ∧ Kp_DataOf d x := by
  obtain ⟨va, vl, vc, rfl⟩ : ∃ va vl vc, v = .slice va vl vc := by
    rcases DataW.trod_slice he h with ⟨h0, _⟩ | ⟨x, len, cap, _, _, _, _, h0, _⟩
    · exact ⟨_, _, _, by simpa using h0⟩
    · exact ⟨_, _, _, by simpa using h0⟩
  obtain ⟨s, hs, hc, hO⟩ := bytes_arg2 he hu cu (by simpa [Value.cells] using h)
  obtain rfl := Kp_bys_len hs
  exact ⟨s, ⟨va, vc, rfl, hs, hc⟩, hO⟩
end Go.Proofs.YtkkommomefmpgaaGreat

/- Lines, steps, answers and numbers that came in as an argument: what a walk is told of them, and their sizes. -/
namespace Go.Proofs.YtkkommomefmpgaaGreat
open Go.ChangeShapes Go.WideShapes Go.ChangeAt Go.RowKit Go.Deep

def MLns (W : World) (v : Value) (ls : List (List UInt8)) : Prop := RowsR W 1 (fun cs x => ∃ u, cs = [u] ∧ ByC W u x) v ls
theorem mlns_arg {H : Type} {enc : TypeId × Value → H} {P : Program} {W : World} {base : Nat} {a : Option Addr} {len cap fuel t e u : Nat} {d : DataW H} {p : List MemPlace}
    (ht : P.underlying t = some (.slice e)) (he : P.underlying e = some (.slice u)) (ce : P.cellsOf e = 1) (hu : P.underlying u = some (.int .u8)) (cu : P.cellsOf u = 1)
    (hf : DataW.trod enc P W base (fun _ => true) true fuel t (Value.slice a len cap).cells.toList = some (d, p)) : ∃ l, MLns W (.slice a len cap) l ∧ DatL Kp_DataOf d l :=
  rows_arg 1 _ Kp_DataOf ht ce (by decide) (fun fuel cs d p h hl => by
    match cs, hl with
    | [v0], _ =>
      obtain ⟨x, h1, h2⟩ := byc_arg he hu cu h
      exact ⟨x, ⟨v0, rfl, h1⟩, h2⟩) hf
theorem MLns.at {W W' : World} {a : Option Addr} {n c : Nat} {ls : List (List UInt8)} (h : MLns W (.slice a n c) ls) (hB : Below W.heap.size W W') (j : Nat) (hj : j < ls.length) :
    ∃ b off va vc, a = some ⟨b, off, none⟩ ∧ W'.cell? ⟨b, off + j, none⟩ = some (.slice va ls[j].length vc) ∧ Bys W (.slice va ls[j].length vc) ls[j] ∧ ls[j].length ≤ vc ∧ b < W.heap.size := by
  obtain ⟨b, off, cs, rfl, ⟨u, rfl, va, vc, rfl, hb, hc⟩, _, h3⟩ := RowsR.at h j hj
  have h4 := h3 0 _ rfl
  rw [Nat.mul_one, Nat.add_zero] at h4
  have hl := World.block_lt_of_cell? W _ h4
  exact ⟨b, off, va, vc, rfl, (hB.cell (p := ⟨b, off + j, none⟩) hl).trans h4, hb, hc, hl⟩
end Go.Proofs.YtkkommomefmpgaaGreat

/- A plant that came in as an argument: what a walk is told of it, and its size. -/
namespace Go.Proofs.YtkkommomefmpgaaGreat
open Go.ChangeShapes Go.WideShapes Go.ChangeAt Go.RowKit Go.Deep

def ACells (W : World) (cs : List Value) (x : List UInt8 × Int) : Prop := ∃ va vc, cs = [.slice va x.1.length vc, .int .i64 x.2] ∧ Bys W (.slice va x.1.length vc) x.1 ∧ x.1.length ≤ vc
def ADat {H : Type} (d : DataW H) (x : List UInt8 × Int) : Prop := ∃ d0 d1, d = .agg [d0, d1] ∧ Kp_DataOf d0 x.1
theorem ans_cells {H : Type} {enc : TypeId × Value → H} {P : Program} {W : World} {base : Nat} {fuel e u : Nat} {f0 f1 : Field} {cs : List Value} {d : DataW H} {p : List MemPlace}
    (he : P.underlying e = some (.struct #[f0, f1])) (ce : P.cellsOf e = 2) (o0 : f0.offset = 0) (o1 : f1.offset = 1) (c0 : P.cellsOf f0.type = 1) (c1 : P.cellsOf f1.type = 1)
    (t0 : P.underlying f0.type = some (.slice u)) (tu : P.underlying u = some (.int .u8)) (cu : P.cellsOf u = 1) (t1 : P.underlying f1.type = some (.int .i64))
    (h : DataW.trod enc P W base (fun _ => true) true fuel e cs = some (d, p)) : ∃ x, ACells W cs x ∧ ADat d x := by
  obtain ⟨xs, k, hk, hxy, hcl, hxl, hf⟩ := DataW.trod_struct he h
  rw [ce] at hcl
  match xs, hxl, cs, hcl with
  | [y0, y1], _, [v0, v1], _ =>
    have g0 := hf 0 f0 rfl
    have g1 := hf 1 f1 rfl
    simp [o0, c0] at g0
    simp [o1, c1] at g1
    obtain ⟨b, hb, _⟩ := DataW.trod_int t1 g1
    obtain rfl : v1 = .int .i64 b := by simpa using hb
    obtain ⟨y0a, y0b⟩ := y0
    obtain ⟨x, ⟨va, vc, rfl, h1, h2⟩, hD⟩ := byc_arg t0 tu cu g0
    simp only [Prod.mk.injEq] at hxy
    exact ⟨(x, b), ⟨va, vc, rfl, h1, h2⟩, ⟨y0a, _, by simpa using hxy.1, hD⟩⟩
theorem rows_ans {W : World} {v : Value} {l : List (List UInt8 × Int)} (h : RowsR W 2 (ACells W) v l) : AnsR W v l := by
  rcases h with ⟨rfl, rfl⟩ | ⟨q, cap, rfl, h1, h2⟩
  · exact ⟨_, _, rfl, fun h => absurd h (by simp)⟩
  · refine ⟨some q, cap, rfl, fun h0 => ?_⟩
    obtain ⟨b, off, rfl, hd⟩ := h2 h0
    refine ⟨b, off, rfl, fun j hj => ?_⟩
    obtain ⟨cs, ⟨va, vc, rfl, r1, r2⟩, _, h3⟩ := hd j hj
    exact ⟨va, vc, h3 0 _ rfl, h3 1 _ rfl, r1, r2⟩
theorem rows_ints {W : World} {v : Value} {l : List Int} (h : RowsR W 1 (fun cs x => cs = [.int .i64 x]) v l) : IntsR W v l := by
  rcases h with ⟨rfl, rfl⟩ | ⟨q, cap, rfl, h1, h2⟩
  · exact .inl ⟨rfl, rfl⟩
  · refine .inr ⟨q, cap, rfl, fun h0 => ?_⟩
    obtain ⟨b, off, rfl, hd⟩ := h2 h0
    refine ⟨b, off, rfl, fun j hj => ?_⟩
    obtain ⟨cs, rfl, _, h3⟩ := hd j hj
    have := h3 0 _ rfl
    rwa [Nat.mul_one, Nat.add_zero] at this
def FCells (cs : List Value) (x : Int × Int) : Prop := cs = [.int .i64 x.1, .int .i64 x.2]
theorem flt_cells {H : Type} {enc : TypeId × Value → H} {P : Program} {W : World} {base : Nat} {fuel e : Nat} {f0 f1 : Field} {cs : List Value} {d : DataW H} {p : List MemPlace}
    (he : P.underlying e = some (.struct #[f0, f1])) (ce : P.cellsOf e = 2) (o0 : f0.offset = 0) (o1 : f1.offset = 1) (c0 : P.cellsOf f0.type = 1) (c1 : P.cellsOf f1.type = 1)
    (t0 : P.underlying f0.type = some (.int .i64)) (t1 : P.underlying f1.type = some (.int .i64))
    (h : DataW.trod enc P W base (fun _ => true) true fuel e cs = some (d, p)) : ∃ x, FCells cs x ∧ True := by
  obtain ⟨xs, k, hk, hxy, hcl, hxl, hf⟩ := DataW.trod_struct he h
  rw [ce] at hcl
  match xs, hxl, cs, hcl with
  | [y0, y1], _, [v0, v1], _ =>
    have g0 := hf 0 f0 rfl
    have g1 := hf 1 f1 rfl
    simp [o0, c0] at g0
    simp [o1, c1] at g1
    obtain ⟨a, ha, _⟩ := DataW.trod_int t0 g0
    obtain ⟨b, hb, _⟩ := DataW.trod_int t1 g1
    obtain rfl : v0 = .int .i64 a := by simpa using ha
    obtain rfl : v1 = .int .i64 b := by simpa using hb
    exact ⟨(a, b), rfl, trivial⟩
structure Plt where
  kind : Int
  size : Int
  data : List UInt8
  reads : List (List UInt8 × Int)
  writes : List Int
  fs : List (Int × Int)
  lines : List (List UInt8)
  place : Int
  app : Bool
structure PltIn (W : World) (x : Plt) (dv rv wv fv lv : Value) : Prop where
  d : ByC W dv x.data
  r : AnsR W rv x.reads
  w : IntsR W wv x.writes
  f : RowsR W 2 FCells fv x.fs
  l : MLns W lv x.lines
end Go.Proofs.YtkkommomefmpgaaGreat

/- Plant.Panics. -/
namespace Go.Proofs.YtkkommomefmpgaaGreat
open Go.RowKit

def Plt.k6 (x : Plt) : Int := (wrap64 (x.kind.tmod 6 + 6)).tmod 6
end Go.Proofs.YtkkommomefmpgaaGreat

/- MemoryPlays: the walk, given what Make makes. -/
namespace Go.Proofs.YtkkommomefmpgaaGreat
open Go.RowKit

theorem pl_new (w : World) (x : Plt) (dv rv wv fv lv : Value) (h : PltIn w x dv rv wv fv lv) (W : World) (hB : Below w.heap.size w W) : PltIn W x dv rv wv fv lv := by
  refine ⟨?_, h.r.below hB, h.w.below hB, ?_, ?_⟩
  · obtain ⟨va, vc, rfl, hb, hc⟩ := h.d
    exact ⟨va, vc, rfl, hb.below hB, hc⟩
  · rcases h.f with h | ⟨q, cap, rfl, h1, h2⟩
    · exact .inl h
    · refine .inr ⟨q, cap, rfl, h1, fun h0 => ?_⟩
      obtain ⟨b, off, rfl, hd⟩ := h2 h0
      refine ⟨b, off, rfl, fun j hj => ?_⟩
      obtain ⟨cs, c1, c2, c3⟩ := hd j hj
      exact ⟨cs, c1, c2, fun i v hv => (hB.cell (p := ⟨b, off + j * 2 + i, none⟩) (World.block_lt_of_cell? w _ (c3 i v hv))).trans (c3 i v hv)⟩
  · rcases h.l with h | ⟨q, cap, rfl, h1, h2⟩
    · exact .inl h
    · refine .inr ⟨q, cap, rfl, h1, fun h0 => ?_⟩
      obtain ⟨b, off, rfl, hd⟩ := h2 h0
      refine ⟨b, off, rfl, fun j hj => ?_⟩
      obtain ⟨cs, ⟨u, e, va, vc, e2, hb, hc⟩, c2, c3⟩ := hd j hj
      exact ⟨cs, ⟨u, e, va, vc, e2, hb.below hB, hc⟩, c2, fun i v hv => (hB.cell (p := ⟨b, off + j * 1 + i, none⟩) (World.block_lt_of_cell? w _ (c3 i v hv))).trans (c3 i v hv)⟩
theorem Both.turned {A B : World → (Nat → Prop) → Prop} {w w' : World} {Q S : Nat → Prop} (h : Both A B w Q) (hA : OAt A) (hB : OAt B) (hT : Turned S w w') (hS : ∀ j, Q j → ¬ S j) : Both A B w' Q := by
  obtain ⟨O, P, h1, h2, h3, h4⟩ := h
  exact ⟨O, P, hA.keep h1 (fun j e hl => hT.block j hl (hS j (h3 j e).1)) hT.size, hB.keep h2 (fun j e hl => hT.block j hl (hS j (h4 j e).1)) hT.size, fun j e => ⟨(h3 j e).1, Nat.lt_of_lt_of_le (h3 j e).2.1 hT.size, (h3 j e).2.2⟩, fun j e => ⟨(h4 j e).1, Nat.lt_of_lt_of_le (h4 j e).2 hT.size⟩⟩
end Go.Proofs.YtkkommomefmpgaaGreat

/- A kernel's description as a plant's kind, given its Same. -/
namespace Go.Proofs.YtkkommomefmpgaaGreat
open Go.RowKit Go.Maps

theorem kat_o (kb : Nat) (K : KS) : OAt (fun w O => KAt w O kb K) := ⟨fun h hk hs => h.keep hk hs, fun h => h.trim⟩
theorem RwS.trim {g mb : Nat} {d : Int} {W : World} {O : Nat → Prop} {K : KS} (h : RwS g mb d W O K) : RwS g mb d W (fun k => O k ∧ k < W.heap.size) K := by
  obtain ⟨P, c, h1, h2, h3, h4, h5⟩ := h
  exact ⟨_, c, h1, h2.trim, fun k e => ⟨h3 k e.1, e.2⟩, ⟨h4, (Array.getElem?_eq_some_iff.1 h1).1⟩, fun e => h5 e.1⟩
theorem rws_o (g mb : Nat) (d : Int) (K : KS) : OAt (fun w O => RwS g mb d w O K) := ⟨fun h hk hs => h.keep hk hs, fun h => h.trim⟩
theorem seek_counts (K : KS) (d o wh : Int) : (K.seek d o wh).2.2.reads = K.reads ∧ (K.seek d o wh).2.2.writes = K.writes := by
  unfold KS.seek
  split
  · exact ⟨rfl, rfl⟩
  split
  · split
    · exact ⟨rfl, rfl⟩
    repeat' split
    all_goals exact ⟨rfl, rfl⟩
  · exact ⟨rfl, rfl⟩
theorem read_counts (K : KS) (d n : Int) : (K.read d n).2.2.reads ≤ K.reads + 1 ∧ (K.read d n).2.2.writes = K.writes := by
  unfold KS.read
  cases hx : K.find d with
  | none => exact ⟨Nat.le_succ _, rfl⟩
  | some y =>
    simp only
    split
    · exact ⟨Nat.le_succ _, rfl⟩
    split
    · exact ⟨Nat.le_succ _, rfl⟩
    split
    · exact ⟨Nat.le_succ _, rfl⟩
    split
    · exact ⟨Nat.le_succ _, rfl⟩
    split
    · cases ho : K.tho y <;> exact ⟨Nat.le_refl _, rfl⟩
    · exact ⟨Nat.le_refl _, rfl⟩
theorem write_counts (K : KS) (d : Int) (b : List UInt8) : (K.write d b).2.2.writes ≤ K.writes + 1 ∧ (K.write d b).2.2.reads = K.reads := by
  unfold KS.write
  cases hx : K.find d with
  | none => exact ⟨Nat.le_succ _, rfl⟩
  | some y =>
    simp only
    split
    · exact ⟨Nat.le_succ _, rfl⟩
    split
    · exact ⟨Nat.le_succ _, rfl⟩
    split
    · exact ⟨Nat.le_succ _, rfl⟩
    split
    · split
      · cases ho : K.tho y <;> exact ⟨Nat.le_refl _, rfl⟩
      · exact ⟨Nat.le_refl _, rfl⟩
    · exact ⟨Nat.le_succ _, rfl⟩
end Go.Proofs.YtkkommomefmpgaaGreat

/- Held: the bytes within a description's pipe. -/
namespace Go.Proofs.YtkkommomefmpgaaGreat
open Go.RowKit Go.Maps

end Go.Proofs.YtkkommomefmpgaaGreat

/- Calls of a kernel that no New made: nil, or an empty one. -/
namespace Go.Proofs.YtkkommomefmpgaaGreat
open Go.RowKit Go.Maps

end Go.Proofs.YtkkommomefmpgaaGreat

/- Rest and Calls of a kernel; what a refused call leaves, as values. -/
namespace Go.Proofs.YtkkommomefmpgaaGreat
open Go.RowKit Go.Maps

end Go.Proofs.YtkkommomefmpgaaGreat

/- KernPlays: are both kernels alike? -/
namespace Go.Proofs.YtkkommomefmpgaaGreat
open Go.RowKit Go.Maps

end Go.Proofs.YtkkommomefmpgaaGreat
