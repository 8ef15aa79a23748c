/- What the proof stands on, part 16: the contracts of the program's calls that it reaches. -/
import Derived.Test.YtanbiinomagdbaaGreatKM15
import Derived.Defers
import Derived.Lib.BufferMore
/- Memories: made, and their calls. -/
namespace Go.Proofs.YtanbiinomagdbaaGreat
open Go.RowKit

theorem recv4 (w : World) (o : Obj) : Below w.heap.size w (w.alloc o) := (Below.refl _ _).alloc (Nat.le_refl _) _
theorem new_zero3 {W w' : World} {x y z : Value} {t : TypeId} (h : Below (W.alloc (Obj.cells #[x, y, z] t)).heap.size (W.alloc (Obj.cells #[x, y, z] t)) w') :
    w'.cell? ⟨W.heap.size, 0, none⟩ = some x ∧ w'.cell? ⟨W.heap.size, 1, none⟩ = some y ∧ w'.cell? ⟨W.heap.size, 2, none⟩ = some z ∧ w'.frozen? ⟨W.heap.size, 0, none⟩ = false ∧ w'.frozen? ⟨W.heap.size, 1, none⟩ = false ∧ w'.frozen? ⟨W.heap.size, 2, none⟩ = false :=
  ⟨(h.cell (p := ⟨W.heap.size, 0, none⟩) (size_new _ _)).trans (by simp only [World.cell?, heap_alloc_new]; rfl), (h.cell (p := ⟨W.heap.size, 1, none⟩) (size_new _ _)).trans (by simp only [World.cell?, heap_alloc_new]; rfl), (h.cell (p := ⟨W.heap.size, 2, none⟩) (size_new _ _)).trans (by simp only [World.cell?, heap_alloc_new]; rfl), (h.frozen (p := ⟨W.heap.size, 0, none⟩) (size_new _ _)).trans (by simp only [World.frozen?, heap_alloc_new]; rfl), (h.frozen (p := ⟨W.heap.size, 1, none⟩) (size_new _ _)).trans (by simp only [World.frozen?, heap_alloc_new]; rfl), (h.frozen (p := ⟨W.heap.size, 2, none⟩) (size_new _ _)).trans (by simp only [World.frozen?, heap_alloc_new]; rfl)⟩
theorem res_store {fn : Func} {p u : Tmp} {w : World} (h : fn.results = #[.cell p 288, .tmp u]) (tmps : Array Value) (b : Nat) (hp : tmps.getD p undef = .pointer (some ⟨b, 0, none⟩)) (x : Option Addr) (y z : Int) (h1 : w.cell? ⟨b, 0, none⟩ = some (.pointer x)) (h2 : w.cell? ⟨b, 1, none⟩ = some (.int .i64 y)) (h3 : w.cell? ⟨b, 2, none⟩ = some (.int .i64 z)) :
    (results fn tmps).run Tryz.prog w = .ok (.tuple #[.agg #[.pointer x, .int .i64 y, .int .i64 z], tmps.getD u undef]) w := by
  have a60 := Tryz.isAgg288
  have z60 := Tryz.sizeOf288
  have u3 := Tryz.underlying3
  have a3 := Tryz.isAgg3
  have z3 := Tryz.sizeOf3
  have a4 := Tryz.isAgg115
  have z4 := Tryz.sizeOf115
  have u4 := Tryz.underlying115
  rw [results_cell_tmp h, hp]
  simp only [loadVar]
  go_simp
set_option maxRecDepth 100000 in
set_option maxHeartbeats 1000000 in
theorem storeOf_long (a : Option Addr) (n c : Nat) (room : Int) (w : World) (h : room < (n : Int)) :
    Calls Tryz.prog 174 #[.slice a n c, .int .i64 room] w fun e w' => (∃ y, e = .returned (.tuple #[.agg #[.pointer none, .int .i64 y, .int .i64 0], .int .i64 5])) ∧ Below w.heap.size w w' := by
  go_enter Tryz.func174, Tryz.ntmps174
  go_wp2
  refine bodyPost_ret (res_store rfl _ w.heap.size rfl none 0 0 (by simp only [World.cell?, heap_alloc_new]; rfl) (by simp only [World.cell?, heap_alloc_new]; rfl) (by simp only [World.cell?, heap_alloc_new]; rfl)) rfl ?_
  exact ⟨⟨_, rfl⟩, (Below.refl _ _).alloc (Nat.le_refl _) _⟩
set_option maxRecDepth 100000 in
set_option maxHeartbeats 1000000 in
theorem storeOf_much (v : Value) (l : List UInt8) (room : Int) (w : World) (hb : Bys w v l) (h : ¬ room < (l.length : Int)) (hl : 1048576 < l.length) :
    Calls Tryz.prog 174 #[v, .int .i64 room] w fun e w' => (∃ y, e = .returned (.tuple #[.agg #[.pointer none, .int .i64 y, .int .i64 0], .int .i64 5])) ∧ Below w.heap.size w w' := by
  obtain ⟨a1, c1, rfl, -⟩ := bys_form hb
  have hB : Below w.heap.size w (w.alloc (Obj.cells #[Value.pointer none, Value.int IntKind.i64 0, Value.int IntKind.i64 0] 288)) := (Below.refl _ _).alloc (Nat.le_refl _) _
  have HB := hide (hb.below hB)
  clear hb
  go_enter Tryz.func174, Tryz.ntmps174
  go_wp2_with fail
  refine (Fi_new_bad _ l _ HB.out hl).mono ?_
  rintro e w2 ⟨rfl, rfl⟩
  go_wp2
  refine bodyPost_ret (res_store rfl _ w.heap.size rfl none room 0 (by simp only [World.cell?, heap_alloc_new]; rfl) (by simp only [World.cell?, heap_alloc_new]; rfl) (by simp only [World.cell?, heap_alloc_new]; rfl)) rfl ?_
  exact ⟨⟨_, rfl⟩, (Below.refl _ _).alloc (Nat.le_refl _) _⟩
set_option maxRecDepth 100000 in
set_option maxHeartbeats 1000000 in
theorem storeOf_good (v : Value) (l : List UInt8) (room : Int) (w : World) (hb : Bys w v l) (h : ¬ room < (l.length : Int)) (hl : l.length ≤ 1048576) :
    Calls Tryz.prog 174 #[v, .int .i64 room] w fun e w' => ∃ f b, e = .returned (.tuple #[.agg #[.pointer (some ⟨f, 0, none⟩), .int .i64 room, .int .i64 0], .int .i64 0]) ∧ FileAt w' f b l.length l ∧ w.heap.size ≤ f ∧ w.heap.size ≤ b ∧ Below w.heap.size w w' := by
  obtain ⟨a1, c1, rfl, -⟩ := bys_form hb
  have hB : Below w.heap.size w (w.alloc (Obj.cells #[Value.pointer none, Value.int IntKind.i64 0, Value.int IntKind.i64 0] 288)) := (Below.refl _ _).alloc (Nat.le_refl _) _
  have HB := hide (hb.below hB)
  clear hb
  go_enter Tryz.func174, Tryz.ntmps174
  go_wp2_with fail
  refine (Fi_new_good _ l _ HB.out hl).mono ?_
  rintro e w2 ⟨f, rfl, h1, h2, h3⟩
  have H1 := hide h1
  obtain ⟨z0, z1, z2, z3, z4, z5⟩ := new_zero3 h3
  have hwf : w.heap.size < f := Nat.lt_of_le_of_lt hB.size h2
  have hwb : w.heap.size < (w.alloc (Obj.cells #[Value.pointer none, Value.int IntKind.i64 0, Value.int IntKind.i64 0] 288)).heap.size := size_new _ _
  have hB2 := hB.trans (h3.mono hB.size)
  clear h1 h2 h3 hB HB
  generalize (w.alloc (Obj.cells #[Value.pointer none, Value.int IntKind.i64 0, Value.int IntKind.i64 0] 288)).heap.size = b at *
  go_wp2
  obtain ⟨W, hW⟩ : ∃ W, W = ((w2.setCell ⟨w.heap.size, 0, none⟩ (.pointer (some ⟨f, 0, none⟩))).setCell ⟨w.heap.size, 1, none⟩ (.int .i64 room)).setCell ⟨w.heap.size, 2, none⟩ (.int .i64 0) := ⟨_, rfl⟩
  rw [← hW]
  have y0 : W.cell? ⟨w.heap.size, 0, none⟩ = some (.pointer (some ⟨f, 0, none⟩)) := by
    rw [hW, World.cell?_setCell_other _ _ _ _ (by simp), World.cell?_setCell_other _ _ _ _ (by simp)]; exact World.cell?_setCell_same _ _ _ z0
  have y1 : W.cell? ⟨w.heap.size, 1, none⟩ = some (.int .i64 room) := by
    rw [hW, World.cell?_setCell_other _ _ _ _ (by simp)]; exact World.cell?_setCell_same _ _ _ ((World.cell?_setCell_other _ _ _ _ (by simp)).trans z1)
  have y2 : W.cell? ⟨w.heap.size, 2, none⟩ = some (.int .i64 0) := by
    rw [hW]; exact World.cell?_setCell_same _ _ _ ((World.cell?_setCell_other _ _ _ _ (by simp)).trans ((World.cell?_setCell_other _ _ _ _ (by simp)).trans z2))
  refine bodyPost_ret (res_store rfl _ w.heap.size rfl (some ⟨f, 0, none⟩) room 0 y0 y1 y2) rfl ?_
  have hT : Turned (fun k => k = w.heap.size) w2 W := by
    rw [hW]
    exact (((Turned.refl (fun k => k = w.heap.size) w2).set (.inl rfl)).set (.inl rfl)).set (.inl rfl)
  have hbl := H1.out.row.lt
  exact ⟨f, b, rfl, H1.out.keep (hT.block f H1.out.lt (by omega)) (hT.block b hbl (by omega)), by omega, by omega, hB2.trans (hT.below (fun k e => by omega) hB2.size)⟩
theorem mem_new {w w2 : World} {l : List UInt8} {f b room : Nat} {T : TypeId} (hF : FileAt w2 f b l.length l) (hf : w.heap.size ≤ f) (hb : w.heap.size ≤ b) (hB : Below w.heap.size w w2) (hl : l.length ≤ room) (hr : room ≤ 1048576) :
    MemAt (w2.alloc (Obj.cells #[.pointer (some ⟨f, 0, none⟩), .int .i64 (room : Int), .int .i64 0] T)) (fun k => w.heap.size ≤ k) w2.heap.size ⟨l, room, 0⟩ ∧ Below w.heap.size w (w2.alloc (Obj.cells #[.pointer (some ⟨f, 0, none⟩), .int .i64 (room : Int), .int .i64 0] T)) := by
  have hfl := hF.lt
  have hbl := hF.row.lt
  refine ⟨⟨f, b, l.length, ?_, ?_, ?_, ?_, hF.keep (Below.heap_alloc _ _ _ hfl) (Below.heap_alloc _ _ _ hbl), hB.size, hf, hb, by omega, by omega, hl, Nat.zero_le _, hr⟩, hB.alloc hB.size _⟩
  · simp only [World.cell?, heap_alloc_new]; rfl
  · simp only [World.cell?, heap_alloc_new]; rfl
  · simp only [World.cell?, heap_alloc_new]; rfl
  · simp only [World.frozen?, heap_alloc_new]; rfl
theorem mem_new2 {w w2 : World} {l : List UInt8} {f b room : Nat} {T : TypeId} (hF : FileAt w2 f b l.length l) (hf : w.heap.size ≤ f) (hb : w.heap.size ≤ b) (hB : Below w.heap.size w w2) (hl : l.length ≤ room) (hr : room ≤ 1048576) :
    MemAt ((w2.alloc (Obj.cells #[.pointer (some ⟨f, 0, none⟩), .int .i64 (room : Int), .int .i64 0] 288)).alloc (Obj.cells #[.pointer (some ⟨f, 0, none⟩), .int .i64 (room : Int), .int .i64 0] T)) (fun k => w.heap.size ≤ k) (w2.heap.size + 1) ⟨l, room, 0⟩ ∧ Below w.heap.size w ((w2.alloc (Obj.cells #[.pointer (some ⟨f, 0, none⟩), .int .i64 (room : Int), .int .i64 0] 288)).alloc (Obj.cells #[.pointer (some ⟨f, 0, none⟩), .int .i64 (room : Int), .int .i64 0] T)) := by
  have h1 := mem_new (w := w) (T := T) (hF.below (recv4 w2 (Obj.cells #[.pointer (some ⟨f, 0, none⟩), .int .i64 (room : Int), .int .i64 0] 288))) hf hb (hB.alloc hB.size _) hl hr
  have hs : (w2.alloc (Obj.cells #[.pointer (some ⟨f, 0, none⟩), .int .i64 (room : Int), .int .i64 0] 288)).heap.size = w2.heap.size + 1 := by simp
  rw [hs] at h1
  exact h1
set_option maxRecDepth 100000 in
set_option maxHeartbeats 1000000 in
theorem newFixed_range (size : Int) (a : Option Addr) (n c : Nat) (w : World) (h : size < 0 ∨ 1048576 < size) :
    Calls Tryz.prog 87 #[.int .i64 size, .slice a n c] w fun e w' => e = .returned (.tuple #[.pointer none, .int .i64 4]) ∧ w = w' := by
  rcases (show size < 0 ∨ (¬ size < 0 ∧ 1048576 < size) by omega) with h1 | ⟨h1, h2⟩
  all_goals
    clear h
    go_enter Tryz.func87, Tryz.ntmps87
    go_wp2
    go_ret2
    exact ⟨rfl, rfl⟩
set_option maxRecDepth 100000 in
set_option maxHeartbeats 1000000 in
theorem newFixed_long (size : Int) (a : Option Addr) (n c : Nat) (w : World) (h1 : 0 ≤ size) (h2 : size ≤ 1048576) (hl : size < (n : Int)) :
    Calls Tryz.prog 87 #[.int .i64 size, .slice a n c] w fun e w' => e = .returned (.tuple #[.pointer none, .int .i64 5]) ∧ Below w.heap.size w w' := by
  have h1' : ¬ size < 0 := by omega
  have h2' : ¬ 1048576 < size := by omega
  go_enter Tryz.func87, Tryz.ntmps87
  go_wp2_with fail
  refine (storeOf_long a n c size w hl).mono ?_
  rintro e w2 ⟨⟨y, rfl⟩, hB⟩
  go_wp2
  go_ret2
  exact ⟨rfl, hB.alloc hB.size _⟩
set_option maxRecDepth 100000 in
set_option maxHeartbeats 1000000 in
theorem newFixed_good (size : Nat) (v : Value) (l : List UInt8) (w : World) (hb : Bys w v l) (h2 : size ≤ 1048576) (hl : l.length ≤ size) :
    Calls Tryz.prog 87 #[.int .i64 (size : Int), v] w fun e w' => ∃ g, e = .returned (.tuple #[.pointer (some ⟨g, 0, none⟩), .int .i64 0]) ∧ MemAt w' (fun k => w.heap.size ≤ k) g ⟨l, size, 0⟩ ∧ Below w.heap.size w w' := by
  obtain ⟨a1, c1, rfl, -⟩ := bys_form hb
  have HB := hide hb
  clear hb
  have h1' : ¬ (size : Int) < 0 := by omega
  have h2' : ¬ (1048576 : Int) < (size : Int) := by omega
  go_enter Tryz.func87, Tryz.ntmps87
  go_wp2_with fail
  refine (storeOf_good _ l size w HB.out (by omega) (by omega)).mono ?_
  rintro e w2 ⟨f, b, rfl, k1, k2, kb, k3⟩
  have K1 := hide k1
  clear k1
  go_wp2
  go_ret2
  obtain ⟨q1, q2⟩ := mem_new2 (T := 292) K1.out k2 kb k3 hl h2
  exact ⟨_, rfl, q1, q2⟩
set_option maxRecDepth 100000 in
set_option maxHeartbeats 1000000 in
theorem newGrowing_long (v : Value) (l : List UInt8) (w : World) (hb : Bys w v l) (hl : 1048576 < l.length) :
    Calls Tryz.prog 89 #[v] w fun e w' => e = .returned (.tuple #[.pointer none, .int .i64 5]) ∧ Below w.heap.size w w' := by
  obtain ⟨a1, c1, rfl, -⟩ := bys_form hb
  have HB := hide hb
  clear hb
  go_enter Tryz.func89, Tryz.ntmps89
  go_wp2_with fail
  refine (storeOf_long a1 l.length c1 1048576 w (by omega)).mono ?_
  rintro e w2 ⟨⟨y, rfl⟩, hB⟩
  go_wp2
  go_ret2
  exact ⟨rfl, hB.alloc hB.size _⟩
set_option maxRecDepth 100000 in
set_option maxHeartbeats 1000000 in
theorem newGrowing_good (v : Value) (l : List UInt8) (w : World) (hb : Bys w v l) (hl : l.length ≤ 1048576) :
    Calls Tryz.prog 89 #[v] w fun e w' => ∃ g, e = .returned (.tuple #[.pointer (some ⟨g, 0, none⟩), .int .i64 0]) ∧ MemAt w' (fun k => w.heap.size ≤ k) g ⟨l, 1048576, 0⟩ ∧ Below w.heap.size w w' := by
  obtain ⟨a1, c1, rfl, -⟩ := bys_form hb
  have HB := hide hb
  clear hb
  go_enter Tryz.func89, Tryz.ntmps89
  go_wp2_with fail
  refine (storeOf_good _ l 1048576 w HB.out (by omega) (by omega)).mono ?_
  rintro e w2 ⟨f, b, rfl, k1, k2, kb, k3⟩
  have K1 := hide k1
  clear k1
  go_wp2
  go_ret2
  obtain ⟨q1, q2⟩ := mem_new2 (room := 1048576) (T := 293) K1.out k2 kb k3 (by omega) (by omega)
  exact ⟨_, rfl, q1, q2⟩
set_option maxRecDepth 100000 in
set_option maxHeartbeats 1000000 in
theorem newReader_long (v : Value) (l : List UInt8) (w : World) (hb : Bys w v l) (hl : 1048576 < l.length) :
    Calls Tryz.prog 91 #[v] w fun e w' => e = .returned (.tuple #[.pointer none, .int .i64 5]) ∧ Below w.heap.size w w' := by
  obtain ⟨a1, c1, rfl, -⟩ := bys_form hb
  have HB := hide hb
  clear hb
  go_enter Tryz.func91, Tryz.ntmps91
  go_wp2_with fail
  refine (storeOf_much _ l _ w HB.out (by omega) hl).mono ?_
  rintro e w2 ⟨⟨y, rfl⟩, hB⟩
  go_wp2
  go_ret2
  exact ⟨rfl, hB.alloc hB.size _⟩
set_option maxRecDepth 100000 in
set_option maxHeartbeats 1000000 in
theorem newReader_good (v : Value) (l : List UInt8) (w : World) (hb : Bys w v l) (hl : l.length ≤ 1048576) :
    Calls Tryz.prog 91 #[v] w fun e w' => ∃ g, e = .returned (.tuple #[.pointer (some ⟨g, 0, none⟩), .int .i64 0]) ∧ MemAt w' (fun k => w.heap.size ≤ k) g ⟨l, l.length, 0⟩ ∧ Below w.heap.size w w' := by
  obtain ⟨a1, c1, rfl, -⟩ := bys_form hb
  have HB := hide hb
  clear hb
  go_enter Tryz.func91, Tryz.ntmps91
  go_wp2_with fail
  refine (storeOf_good _ l (l.length : Int) w HB.out (by omega) (by omega)).mono ?_
  rintro e w2 ⟨f, b, rfl, k1, k2, kb, k3⟩
  have K1 := hide k1
  clear k1
  go_wp2
  go_ret2
  obtain ⟨q1, q2⟩ := mem_new2 (room := l.length) (T := 294) K1.out k2 kb k3 (by omega) (by omega)
  exact ⟨_, rfl, q1, q2⟩
set_option maxRecDepth 100000 in
set_option maxHeartbeats 1000000 in
theorem fmread_any (O : Nat → Prop) (g : Nat) (S : MS) (n : Int) (w : World) (h : MemAt w O g S) :
    Calls Tryz.prog 98 #[.pointer (some ⟨g, 0, none⟩), .int .i64 n] w fun e w' => ∃ v, e = .returned (.tuple #[v, .int .i64 (S.read n).2.1]) ∧ w'.ownsRow w.heap.size 5 1 v (S.read n).1.length ((S.read n).1.map bv) ∧ MemAt w' O g (S.read n).2.2 ∧ Turned O w w' := by
  have HR := hide (sread_any O g S n w h)
  clear h
  go_enter Tryz.func98, Tryz.ntmps98
  go_wp2_with fail
  refine HR.out.mono ?_
  rintro e w2 ⟨v, rfl, h1, h2, h3⟩
  have H1 := hide h1
  have H2 := hide h2
  have H3 := hide h3
  clear h1 h2 h3 HR
  go_wp2
  go_ret2
  exact ⟨v, rfl, H1.out, H2.out, H3.out⟩
set_option maxRecDepth 100000 in
set_option maxHeartbeats 1000000 in
theorem fmseek_any (O : Nat → Prop) (g : Nat) (S : MS) (off wh : Int) (w : World) (h : MemAt w O g S) :
    Calls Tryz.prog 97 #[.pointer (some ⟨g, 0, none⟩), .int .i64 off, .int .i64 wh] w fun e w' => e = .returned (.tuple #[.int .i64 (S.seek off wh).1, .int .i64 (S.seek off wh).2.1]) ∧ MStep w O g (S.seek off wh).2.2 w' := by
  have HR := hide (sseek_any O g S off wh w h)
  clear h
  go_enter Tryz.func97, Tryz.ntmps97
  go_wp2_with fail
  refine HR.out.mono ?_
  rintro e w2 ⟨rfl, h1⟩
  have H1 := hide h1
  clear h1 HR
  go_wp2
  go_ret2
  exact ⟨rfl, H1.out⟩
set_option maxRecDepth 100000 in
set_option maxHeartbeats 1000000 in
theorem fmwrite_any (O : Nat → Prop) (g : Nat) (S : MS) (x : List UInt8) (a : Option Addr) (c : Nat) (w : World) (h : MemAt w O g S) (hx : Bys w (.slice a x.length c) x) (hc : x.length ≤ c) (hap : 0 < x.length → ∀ k, (Value.slice a x.length c).ownBlock = some k → ¬ O k) :
    Calls Tryz.prog 96 #[.pointer (some ⟨g, 0, none⟩), .slice a x.length c] w fun e w' => e = .returned (.tuple #[.int .i64 (S.write x).1, .int .i64 (S.write x).2.1]) ∧ MStep w O g (S.write x).2.2 w' := by
  have HR := hide (swrite_any O g S x a c w h hx hc hap)
  clear h hx hap
  go_enter Tryz.func96, Tryz.ntmps96
  go_wp2_with fail
  refine HR.out.mono ?_
  rintro e w2 ⟨rfl, h1⟩
  have H1 := hide h1
  clear h1 HR
  go_wp2
  go_ret2
  exact ⟨rfl, H1.out⟩
set_option maxRecDepth 100000 in
set_option maxHeartbeats 1000000 in
theorem fmbytes_any (O : Nat → Prop) (g : Nat) (S : MS) (w : World) (h : MemAt w O g S) :
    Calls Tryz.prog 106 #[.pointer (some ⟨g, 0, none⟩)] w fun e w' => ∃ v, e = .returned v ∧ w'.ownsRow w.heap.size 5 1 v S.l.length (S.l.map bv) ∧ Below w.heap.size w w' := by
  have HR := hide (sall_any O g S w h)
  clear h
  go_enter Tryz.func106, Tryz.ntmps106
  go_wp2_with fail
  refine HR.out.mono ?_
  rintro e w2 ⟨v, rfl, h1, h2⟩
  have H1 := hide h1
  clear h1 HR
  go_wp2
  go_ret
  exact ⟨v, rfl, H1.out, h2⟩
set_option maxRecDepth 100000 in
set_option maxHeartbeats 1000000 in
theorem gmread_any (O : Nat → Prop) (g : Nat) (S : MS) (n : Int) (w : World) (h : MemAt w O g S) :
    Calls Tryz.prog 280 #[.pointer (some ⟨g, 0, none⟩), .int .i64 n] w fun e w' => ∃ v, e = .returned (.tuple #[v, .int .i64 (S.read n).2.1]) ∧ w'.ownsRow w.heap.size 5 1 v (S.read n).1.length ((S.read n).1.map bv) ∧ MemAt w' O g (S.read n).2.2 ∧ Turned O w w' := by
  have HR := hide (sread_any O g S n w h)
  clear h
  go_enter Tryz.func280, Tryz.ntmps280
  go_wp2_with fail
  refine HR.out.mono ?_
  rintro e w2 ⟨v, rfl, h1, h2, h3⟩
  have H1 := hide h1
  have H2 := hide h2
  have H3 := hide h3
  clear h1 h2 h3 HR
  go_wp2
  go_ret2
  exact ⟨v, rfl, H1.out, H2.out, H3.out⟩
set_option maxRecDepth 100000 in
set_option maxHeartbeats 1000000 in
theorem gmseek_any (O : Nat → Prop) (g : Nat) (S : MS) (off wh : Int) (w : World) (h : MemAt w O g S) :
    Calls Tryz.prog 281 #[.pointer (some ⟨g, 0, none⟩), .int .i64 off, .int .i64 wh] w fun e w' => e = .returned (.tuple #[.int .i64 (S.seek off wh).1, .int .i64 (S.seek off wh).2.1]) ∧ MStep w O g (S.seek off wh).2.2 w' := by
  have HR := hide (sseek_any O g S off wh w h)
  clear h
  go_enter Tryz.func281, Tryz.ntmps281
  go_wp2_with fail
  refine HR.out.mono ?_
  rintro e w2 ⟨rfl, h1⟩
  have H1 := hide h1
  clear h1 HR
  go_wp2
  go_ret2
  exact ⟨rfl, H1.out⟩
set_option maxRecDepth 100000 in
set_option maxHeartbeats 1000000 in
theorem gmwrite_any (O : Nat → Prop) (g : Nat) (S : MS) (x : List UInt8) (a : Option Addr) (c : Nat) (w : World) (h : MemAt w O g S) (hx : Bys w (.slice a x.length c) x) (hc : x.length ≤ c) (hap : 0 < x.length → ∀ k, (Value.slice a x.length c).ownBlock = some k → ¬ O k) :
    Calls Tryz.prog 282 #[.pointer (some ⟨g, 0, none⟩), .slice a x.length c] w fun e w' => e = .returned (.tuple #[.int .i64 (S.write x).1, .int .i64 (S.write x).2.1]) ∧ MStep w O g (S.write x).2.2 w' := by
  have HR := hide (swrite_any O g S x a c w h hx hc hap)
  clear h hx hap
  go_enter Tryz.func282, Tryz.ntmps282
  go_wp2_with fail
  refine HR.out.mono ?_
  rintro e w2 ⟨rfl, h1⟩
  have H1 := hide h1
  clear h1 HR
  go_wp2
  go_ret2
  exact ⟨rfl, H1.out⟩
set_option maxRecDepth 100000 in
set_option maxHeartbeats 1000000 in
theorem gmbytes_any (O : Nat → Prop) (g : Nat) (S : MS) (w : World) (h : MemAt w O g S) :
    Calls Tryz.prog 107 #[.pointer (some ⟨g, 0, none⟩)] w fun e w' => ∃ v, e = .returned v ∧ w'.ownsRow w.heap.size 5 1 v S.l.length (S.l.map bv) ∧ Below w.heap.size w w' := by
  have HR := hide (sall_any O g S w h)
  clear h
  go_enter Tryz.func107, Tryz.ntmps107
  go_wp2_with fail
  refine HR.out.mono ?_
  rintro e w2 ⟨v, rfl, h1, h2⟩
  have H1 := hide h1
  clear h1 HR
  go_wp2
  go_ret
  exact ⟨v, rfl, H1.out, h2⟩
set_option maxRecDepth 100000 in
set_option maxHeartbeats 1000000 in
theorem rmread_any (O : Nat → Prop) (g : Nat) (S : MS) (n : Int) (w : World) (h : MemAt w O g S) :
    Calls Tryz.prog 293 #[.pointer (some ⟨g, 0, none⟩), .int .i64 n] w fun e w' => ∃ v, e = .returned (.tuple #[v, .int .i64 (S.read n).2.1]) ∧ w'.ownsRow w.heap.size 5 1 v (S.read n).1.length ((S.read n).1.map bv) ∧ MemAt w' O g (S.read n).2.2 ∧ Turned O w w' := by
  have HR := hide (sread_any O g S n w h)
  clear h
  go_enter Tryz.func293, Tryz.ntmps293
  go_wp2_with fail
  refine HR.out.mono ?_
  rintro e w2 ⟨v, rfl, h1, h2, h3⟩
  have H1 := hide h1
  have H2 := hide h2
  have H3 := hide h3
  clear h1 h2 h3 HR
  go_wp2
  go_ret2
  exact ⟨v, rfl, H1.out, H2.out, H3.out⟩
set_option maxRecDepth 100000 in
set_option maxHeartbeats 1000000 in
theorem rmseek_any (O : Nat → Prop) (g : Nat) (S : MS) (off wh : Int) (w : World) (h : MemAt w O g S) :
    Calls Tryz.prog 294 #[.pointer (some ⟨g, 0, none⟩), .int .i64 off, .int .i64 wh] w fun e w' => e = .returned (.tuple #[.int .i64 (S.seek off wh).1, .int .i64 (S.seek off wh).2.1]) ∧ MStep w O g (S.seek off wh).2.2 w' := by
  have HR := hide (sseek_any O g S off wh w h)
  clear h
  go_enter Tryz.func294, Tryz.ntmps294
  go_wp2_with fail
  refine HR.out.mono ?_
  rintro e w2 ⟨rfl, h1⟩
  have H1 := hide h1
  clear h1 HR
  go_wp2
  go_ret2
  exact ⟨rfl, H1.out⟩
set_option maxRecDepth 100000 in
set_option maxHeartbeats 1000000 in
theorem rmwrite_any (O : Nat → Prop) (g : Nat) (S : MS) (v : Value) (w : World) (h : MemAt w O g S) :
    Calls Tryz.prog 295 #[.pointer (some ⟨g, 0, none⟩), v] w fun e w' => e = .returned (.tuple #[.int .i64 0, .int .i64 65]) ∧ w = w' := by
  obtain ⟨f, b, cap, h0, -⟩ := h
  go_enter Tryz.func295, Tryz.ntmps295
  go_wp2_with (first | (go_at_call 216; refine (sMade_yes g f _ h0).mono ?_; rintro _ _ ⟨rfl, rfl⟩) | fail)
  go_ret2
  exact ⟨rfl, rfl⟩
end Go.Proofs.YtanbiinomagdbaaGreat

/- A custom stream, as a value and in memory; isMade, Seek, Taken; an answer is used up. -/
namespace Go.Proofs.YtanbiinomagdbaaGreat
open Go.RowKit

structure CS where
  reads : List (List UInt8 × Int)
  writes : List Int
  taken : List UInt8
def nrm (x : List UInt8 × Int) : List UInt8 × Int := if x.2 = 0 then x else ([], x.2)
def CS.read (C : CS) (n : Int) : List UInt8 × Int × CS :=
  if inR n = false then ([], 4, C) else if n = 0 then ([], 0, C) else match C.reads with
    | [] => ([], 0, C)
    | x :: r => if x.2 ≠ 0 then ([], x.2, ⟨r, C.writes, C.taken⟩)
      else if n.toNat < x.1.length then (x.1.take n.toNat, 0, ⟨(x.1.drop n.toNat, 0) :: r, C.writes, C.taken⟩) else (x.1, 0, ⟨r, C.writes, C.taken⟩)
def CS.write (C : CS) (x : List UInt8) : Int × Int × CS :=
  if 1048576 < x.length then (0, 5, C) else if x = [] then (0, 0, C) else match C.writes with
    | [] => (x.length, 0, ⟨C.reads, [], C.taken ++ x⟩)
    | k :: r => if k < 0 then (0, 101, ⟨C.reads, r, C.taken⟩) else ((min k.toNat x.length : Nat), 0, ⟨C.reads, r, C.taken ++ x.take (min k.toNat x.length)⟩)

def Ans1 (W : World) (R : Nat → Prop) (b o : Nat) (x : List UInt8 × Int) : Prop :=
  ∃ va vc, W.cell? ⟨b, o, none⟩ = some (.slice va x.1.length vc) ∧ W.cell? ⟨b, o + 1, none⟩ = some (.int .i64 x.2) ∧ W.frozen? ⟨b, o, none⟩ = false ∧ W.frozen? ⟨b, o + 1, none⟩ = false ∧ Bys W (.slice va x.1.length vc) x.1 ∧ x.1.length ≤ vc ∧ (0 < x.1.length → ∀ k, (Value.slice va x.1.length vc).ownBlock = some k → R k)
def Ans (W : World) (R : Nat → Prop) (v : Value) (l : List (List UInt8 × Int)) : Prop :=
  ∃ a cap, v = .slice a l.length cap ∧ l.length ≤ cap ∧ (0 < l.length → ∃ b off, a = some ⟨b, off, none⟩ ∧ R b ∧ ∀ j (hj : j < l.length), Ans1 W R b (off + j * 2) l[j])
def NRow (W : World) (R : Nat → Prop) (v : Value) (l : List Int) : Prop :=
  ∃ a cap, v = .slice a l.length cap ∧ l.length ≤ cap ∧ (0 < l.length → ∃ b off, a = some ⟨b, off, none⟩ ∧ R b ∧ ∀ j (hj : j < l.length), W.cell? ⟨b, off + j, none⟩ = some (.int .i64 l[j]))
theorem bys_void2 {W W' : World} {v : Value} {l : List UInt8} (h : Bys W v l) (h0 : ¬ 0 < l.length) : Bys W' v l := by
  rcases h with h | h | ⟨b, off, cap, rfl, h1, -⟩
  · exact .inl h
  · exact .inr (.inl h)
  · exact absurd h1 h0
theorem Ans1.keep {W W' : World} {R : Nat → Prop} {b o : Nat} {x : List UInt8 × Int} (h : Ans1 W R b o x) (hb : R b) (hk : ∀ k, R k → k < W.heap.size → W'.heap[k]? = W.heap[k]?) : Ans1 W' R b o x := by
  obtain ⟨va, vc, h1, h2, h3, h4, h5, h6, h7⟩ := h
  have kb := hk b hb (World.block_lt_of_cell? W _ h1)
  refine ⟨va, vc, (World.cell?_of_block (w := W) kb).trans h1, (World.cell?_of_block (w := W) kb).trans h2, (World.frozen?_of_block (w := W) kb).trans h3, (World.frozen?_of_block (w := W) kb).trans h4, ?_, h6, h7⟩
  by_cases h0 : 0 < x.1.length
  · exact h5.keep fun k e hl => hk k (h7 h0 k e) hl
  · exact bys_void2 h5 h0
theorem Ans.keep {W W' : World} {R : Nat → Prop} {v : Value} {l : List (List UInt8 × Int)} (h : Ans W R v l) (hk : ∀ k, R k → k < W.heap.size → W'.heap[k]? = W.heap[k]?) : Ans W' R v l := by
  obtain ⟨a, cap, rfl, h1, h2⟩ := h
  refine ⟨a, cap, rfl, h1, fun h0 => ?_⟩
  obtain ⟨b, off, rfl, hb, hc⟩ := h2 h0
  exact ⟨b, off, rfl, hb, fun j hj => (hc j hj).keep hb hk⟩
theorem NRow.keep {W W' : World} {R : Nat → Prop} {v : Value} {l : List Int} (h : NRow W R v l) (hk : ∀ k, R k → k < W.heap.size → W'.heap[k]? = W.heap[k]?) : NRow W' R v l := by
  obtain ⟨a, cap, rfl, h1, h2⟩ := h
  refine ⟨a, cap, rfl, h1, fun h0 => ?_⟩
  obtain ⟨b, off, rfl, hb, hc⟩ := h2 h0
  exact ⟨b, off, rfl, hb, fun j hj => (World.cell?_of_block (w := W) (a := ⟨b, off + j, none⟩) (hk b hb (World.block_lt_of_cell? W _ (hc j hj)))).trans (hc j hj)⟩
theorem Bys.set {W : World} {v : Value} {l : List UInt8} {p : Addr} {c : Value} (h : Bys W v l) (hp : W.cell? p = some c) (hc : ∀ k, c ≠ .int .u8 k) (u : Value) : Bys (W.setCell p u) v l := by
  rcases h with h | h | ⟨b, off, cap, rfl, h0, hd⟩
  · exact .inl h
  · exact .inr (.inl h)
  · refine .inr (.inr ⟨b, off, cap, rfl, h0, fun j hj => ?_⟩)
    rw [World.cell?_setCell_other _ _ _ _ (fun e => ?_)]
    · exact hd j hj
    · have h1 := hd j hj
      rw [← e, hp] at h1
      exact hc _ (Option.some.inj h1)
theorem Ans1.set {W : World} {R : Nat → Prop} {b o : Nat} {x : List UInt8 × Int} {p : Addr} {c : Value} (h : Ans1 W R b o x) (hp : W.cell? p = some c) (hc : ∀ k, c ≠ .int .u8 k) (h0 : p ≠ ⟨b, o, none⟩) (h1 : p ≠ ⟨b, o + 1, none⟩) (u : Value) : Ans1 (W.setCell p u) R b o x := by
  obtain ⟨va, vc, a1, a2, a3, a4, a5, a6, a7⟩ := h
  exact ⟨va, vc, (World.cell?_setCell_other _ _ _ _ h0).trans a1, (World.cell?_setCell_other _ _ _ _ h1).trans a2, (World.frozen?_setCell _ _ _ _).trans a3, (World.frozen?_setCell _ _ _ _).trans a4, a5.set hp hc u, a6, a7⟩
theorem NRow.set {W : World} {R : Nat → Prop} {v : Value} {l : List Int} {p : Addr} {c : Value} (h : NRow W R v l) (hp : W.cell? p = some c) (hc : (∀ k, c ≠ .int .i64 k) ∨ ∀ k, R k → k ≠ p.block) (u : Value) : NRow (W.setCell p u) R v l := by
  obtain ⟨a, cap, rfl, h1, h2⟩ := h
  refine ⟨a, cap, rfl, h1, fun h0 => ?_⟩
  obtain ⟨b, off, rfl, hb, hd⟩ := h2 h0
  refine ⟨b, off, rfl, hb, fun j hj => ?_⟩
  rw [World.cell?_setCell_other _ _ _ _ (fun e => ?_)]
  · exact hd j hj
  · rcases hc with hc | hc
    · have h1 := hd j hj
      rw [← e, hp] at h1
      exact hc _ (Option.some.inj h1)
    · exact hc b hb (by rw [e])

def CusAt (W : World) (O : Nat → Prop) (g : Nat) (C : CS) : Prop :=
  ∃ rv wv tv, ∃ R N : Nat → Prop, (W.cell? ⟨g, 0, none⟩ = some (.bool true) ∧ W.cell? ⟨g, 1, none⟩ = some rv ∧ W.cell? ⟨g, 2, none⟩ = some wv ∧ W.cell? ⟨g, 3, none⟩ = some tv) ∧
    (W.frozen? ⟨g, 1, none⟩ = false ∧ W.frozen? ⟨g, 2, none⟩ = false ∧ W.frozen? ⟨g, 3, none⟩ = false) ∧
    Ans W R rv (C.reads.map nrm) ∧ NRow W N wv C.writes ∧ W.ownsRow 0 5 1 tv C.taken.length (C.taken.map bv) ∧
    (∀ k, tv.ownBlock = some k → O k ∧ ¬ R k ∧ ¬ N k ∧ k ≠ g) ∧ (∀ k, R k → O k ∧ k ≠ g ∧ ¬ N k) ∧ (∀ k, N k → O k ∧ k ≠ g) ∧ O g ∧ C.reads.length ≤ 4096 ∧ C.writes.length ≤ 4096 ∧ ∀ x ∈ C.reads, x.1.length ≤ 1048576
def CStep (w : World) (O : Nat → Prop) (g : Nat) (C : CS) (w' : World) : Prop := ∃ O', CusAt w' O' g C ∧ (∀ k, O' k → O k ∨ w.heap.size ≤ k) ∧ Turned O w w'
theorem CusAt.keep {W W' : World} {O : Nat → Prop} {g : Nat} {C : CS} (h : CusAt W O g C) (hk : ∀ j, O j → j < W.heap.size → W'.heap[j]? = W.heap[j]?) : CusAt W' O g C := by
  obtain ⟨rv, wv, tv, R, N, ⟨h0, h1, h2, h3⟩, ⟨f1, f2, f3⟩, hA, hN, hT, ht, hR, hN2, og, rest⟩ := h
  have kg := hk g og (World.block_lt_of_cell? W _ h0)
  exact ⟨rv, wv, tv, R, N, ⟨(World.cell?_of_block (w := W) kg).trans h0, (World.cell?_of_block (w := W) kg).trans h1, (World.cell?_of_block (w := W) kg).trans h2, (World.cell?_of_block (w := W) kg).trans h3⟩,
    ⟨(World.frozen?_of_block (w := W) kg).trans f1, (World.frozen?_of_block (w := W) kg).trans f2, (World.frozen?_of_block (w := W) kg).trans f3⟩,
    hA.keep fun k e hl => hk k (hR k e).1 hl, hN.keep fun k e hl => hk k (hN2 k e).1 hl, owns_keep hT fun k e => hk k (ht k e).1 (hT.lt k e).2, ht, hR, hN2, og, rest⟩
theorem CusAt.below {W W' : World} {O : Nat → Prop} {g : Nat} {C : CS} (h : CusAt W O g C) (hB : Below W.heap.size W W') : CusAt W' O g C := h.keep fun j _ hl => hB.block j hl
theorem CusAt.trim {W : World} {O : Nat → Prop} {g : Nat} {C : CS} (h : CusAt W O g C) : CusAt W (fun k => O k ∧ k < W.heap.size) g C := by
  obtain ⟨rv, wv, tv, R, N, ⟨h0, h1, h2, h3⟩, hf, hA, hN, hT, ht, hR, hN2, og, rest⟩ := h
  have hgl := World.block_lt_of_cell? W _ h0
  refine ⟨rv, wv, tv, fun k => R k ∧ k < W.heap.size, fun k => N k ∧ k < W.heap.size, ⟨h0, h1, h2, h3⟩, hf, ?_, ?_, hT, fun k e => ⟨⟨(ht k e).1, (hT.lt k e).2⟩, fun x => (ht k e).2.1 x.1, fun x => (ht k e).2.2.1 x.1, (ht k e).2.2.2⟩, fun k e => ⟨⟨(hR k e.1).1, e.2⟩, (hR k e.1).2.1, fun x => (hR k e.1).2.2 x.1⟩, fun k e => ⟨⟨(hN2 k e.1).1, e.2⟩, (hN2 k e.1).2⟩, ⟨og, hgl⟩, rest⟩
  · obtain ⟨a, cap, rfl, b1, b2⟩ := hA
    refine ⟨a, cap, rfl, b1, fun h0 => ?_⟩
    obtain ⟨b, off, rfl, hb, hc⟩ := b2 h0
    refine ⟨b, off, rfl, ⟨hb, ?_⟩, fun j hj => ?_⟩
    · obtain ⟨va, vc, a1, _⟩ := hc 0 h0
      exact World.block_lt_of_cell? W _ a1
    · obtain ⟨va, vc, a1, a2, a3, a4, a5, a6, a7⟩ := hc j hj
      refine ⟨va, vc, a1, a2, a3, a4, a5, a6, fun h0 k e => ⟨a7 h0 k e, ?_⟩⟩
      obtain ⟨_, yb, yo, rfl, yl, _⟩ := bys_block a5 h0
      obtain rfl : yb = k := by simpa [Value.ownBlock] using e
      exact yl
  · obtain ⟨a, cap, rfl, b1, b2⟩ := hN
    refine ⟨a, cap, rfl, b1, fun h0 => ?_⟩
    obtain ⟨b, off, rfl, hb, hc⟩ := b2 h0
    exact ⟨b, off, rfl, ⟨hb, World.block_lt_of_cell? W _ (hc 0 h0)⟩, hc⟩
theorem cus_rows {W : World} {R N : Nat → Prop} {rv wv : Value} {l : List (List UInt8 × Int)} {ws : List Int} (hA : Ans W R rv l) (hN : NRow W N wv ws) : Ans W (fun k => R k ∧ k < W.heap.size) rv l ∧ NRow W (fun k => N k ∧ k < W.heap.size) wv ws := by
  constructor
  · obtain ⟨a, cap, rfl, b1, b2⟩ := hA
    refine ⟨a, cap, rfl, b1, fun h0 => ?_⟩
    obtain ⟨b, off, rfl, hb, hc⟩ := b2 h0
    refine ⟨b, off, rfl, ⟨hb, ?_⟩, fun j hj => ?_⟩
    · obtain ⟨va, vc, a1, _⟩ := hc 0 h0
      exact World.block_lt_of_cell? W _ a1
    · obtain ⟨va, vc, a1, a2, a3, a4, a5, a6, a7⟩ := hc j hj
      refine ⟨va, vc, a1, a2, a3, a4, a5, a6, fun h0 k e => ⟨a7 h0 k e, ?_⟩⟩
      obtain ⟨_, yb, yo, rfl, yl, _⟩ := bys_block a5 h0
      obtain rfl : yb = k := by simpa [Value.ownBlock] using e
      exact yl
  · obtain ⟨a, cap, rfl, b1, b2⟩ := hN
    refine ⟨a, cap, rfl, b1, fun h0 => ?_⟩
    obtain ⟨b, off, rfl, hb, hc⟩ := b2 h0
    exact ⟨b, off, rfl, ⟨hb, World.block_lt_of_cell? W _ (hc 0 h0)⟩, hc⟩
theorem CStep.same {w : World} {O : Nat → Prop} {g : Nat} {C : CS} (h : CusAt w O g C) : CStep w O g C w := ⟨O, h, fun _ e => .inl e, Turned.refl _ _⟩
set_option maxHeartbeats 1000000 in
theorem cMade_yes (g : Nat) (w : World) (h : w.cell? ⟨g, 0, none⟩ = some (.bool true)) :
    Calls Tryz.prog 180 #[.pointer (some ⟨g, 0, none⟩)] w fun e w' => e = .returned (.bool true) ∧ w = w' := by
  go_enter Tryz.func180, Tryz.ntmps180
  go_wp2
  go_ret
  exact ⟨rfl, rfl⟩
set_option maxHeartbeats 1000000 in
theorem cseek_any (O : Nat → Prop) (g : Nat) (C : CS) (off wh : Int) (w : World) (h : CusAt w O g C) :
    Calls Tryz.prog 283 #[.pointer (some ⟨g, 0, none⟩), .int .i64 off, .int .i64 wh] w fun e w' => e = .returned (.tuple #[.int .i64 0, .int .i64 66]) ∧ w = w' := by
  obtain ⟨rv, wv, tv, R, N, ⟨h0, -⟩, -⟩ := h
  go_enter Tryz.func283, Tryz.ntmps283
  go_wp2_with (first | (go_at_call 180; refine (cMade_yes g _ h0).mono ?_; rintro _ _ ⟨rfl, rfl⟩) | fail)
  go_ret2
  exact ⟨rfl, rfl⟩

theorem Ans.head {W : World} {R : Nat → Prop} {v : Value} {x : List UInt8 × Int} {r : List (List UInt8 × Int)} (h : Ans W R v (x :: r)) :
    ∃ b off cap, v = .slice (some ⟨b, off, none⟩) (r.length + 1) cap ∧ r.length + 1 ≤ cap ∧ R b ∧ Ans1 W R b off x ∧ ∀ j (hj : j < r.length), Ans1 W R b (off + 2 + j * 2) r[j] := by
  obtain ⟨a, cap, rfl, h1, h2⟩ := h
  obtain ⟨b, off, rfl, hb, hc⟩ := h2 (by simp)
  refine ⟨b, off, cap, rfl, h1, hb, by have h := hc 0 (Nat.succ_pos _); rw [Nat.zero_mul, Nat.add_zero] at h; exact h, fun j hj => ?_⟩
  have := hc (j + 1) (by simpa using hj)
  rw [show off + (j + 1) * 2 = off + 2 + j * 2 by omega] at this
  simpa using this
set_option maxRecDepth 100000 in
set_option maxHeartbeats 1000000 in
theorem mclone_any (v : Value) (l : List UInt8) (w : World) (h : Bys w v l) (hs : l.length ≤ 140737488351232) :
    Calls Tryz.prog 182 #[v] w fun e w' => ∃ u, e = .returned u ∧ w'.ownsRow w.heap.size 5 1 u l.length (l.map bv) ∧ Below w.heap.size w w' := by
  have hmade : (w.alloc (Obj.cells #[] 5)).ownsRow w.heap.size 5 1 (.slice (some ⟨w.heap.size, 0, none⟩) 0 0) ([] : List UInt8).length (([] : List UInt8).map bv) := World.ownsRow_made _ _ _ (Nat.le_refl _) (by decide) rfl
  have hB := recv4 w (Obj.cells #[] 5)
  obtain ⟨s', w1, hrun, HO, hg, hb⟩ := run_append_bytes (w.alloc (Obj.cells #[] 5)) 40 w.heap.size _ v [] l hmade (h.below hB) (by simpa using hs) hB.size
  have HR := hide hrun
  have HB : Hid (Below w.heap.size w w1) := hide (hB.grown hg hB.size (fun j e => by
    have : w.heap.size = j := by simpa [Value.ownBlock] using e
    omega))
  rcases h with ⟨rfl, rfl⟩ | ⟨a, cap, rfl, rfl⟩ | ⟨b, off, cap, rfl, h0, -⟩
  · have hnil : ∀ W, (binOp .eql 40 (.slice none 0 0) (.slice none 0 0)).run Tryz.prog W = .ok (.bool true) W := fun W => Lib.run_eql_slice_nil_nil W _ _ Tryz.underlying40
    go_enter Tryz.func182, Tryz.ntmps182
    go_wp2
    go_ret
    exact ⟨_, rfl, World.ownsRow_nil _ _ _ _, Below.refl _ _⟩
  · have hnil : ∀ W, (binOp .eql 40 (.slice (some a) 0 cap) (.slice none 0 0)).run Tryz.prog W = .ok (.bool false) W := fun W => Lib.run_eql_slice_some_nil W _ _ _ Tryz.underlying40
    clear hrun hg hb hmade hB
    go_enter Tryz.func182, Tryz.ntmps182
    go_wp2_with (at_builtin; refine Lib.wpList_append_run _ rfl _ _ _ _ rfl _ _ rfl rfl _ _ HR.out ?_)
    go_ret
    exact ⟨_, rfl, HO.out, HB.out⟩
  · have hnil : ∀ W, (binOp .eql 40 (.slice (some ⟨b, off, none⟩) l.length cap) (.slice none 0 0)).run Tryz.prog W = .ok (.bool false) W := fun W => Lib.run_eql_slice_some_nil W _ _ _ Tryz.underlying40
    clear hrun hg hb hmade hB
    go_enter Tryz.func182, Tryz.ntmps182
    go_wp2_with (at_builtin; refine Lib.wpList_append_run _ rfl _ _ _ _ rfl _ _ rfl rfl _ _ HR.out ?_)
    go_ret
    exact ⟨_, rfl, HO.out, HB.out⟩
end Go.Proofs.YtanbiinomagdbaaGreat

/- A custom stream is made: copiedAnswers. -/
namespace Go.Proofs.YtanbiinomagdbaaGreat
open Go.RowKit

def AnsR (W : World) (v : Value) (l : List (List UInt8 × Int)) : Prop :=
  ∃ a cap, v = .slice a l.length cap ∧ (0 < l.length → ∃ b off, a = some ⟨b, off, none⟩ ∧ ∀ j (hj : j < l.length), ∃ va vc, W.cell? ⟨b, off + j * 2, none⟩ = some (.slice va l[j].1.length vc) ∧ W.cell? ⟨b, off + j * 2 + 1, none⟩ = some (.int .i64 l[j].2) ∧ Bys W (.slice va l[j].1.length vc) l[j].1 ∧ l[j].1.length ≤ vc)
theorem AnsR.below {W W' : World} {v : Value} {l : List (List UInt8 × Int)} (h : AnsR W v l) (hB : Below W.heap.size W W') : AnsR W' v l := by
  obtain ⟨a, cap, rfl, h2⟩ := h
  refine ⟨a, cap, rfl, fun h0 => ?_⟩
  obtain ⟨b, off, rfl, hd⟩ := h2 h0
  refine ⟨b, off, rfl, fun j hj => ?_⟩
  obtain ⟨va, vc, a1, a2, a3, a4⟩ := hd j hj
  have hl := World.block_lt_of_cell? W _ a1
  exact ⟨va, vc, (hB.cell (p := ⟨b, off + j * 2, none⟩) hl).trans a1, (hB.cell (p := ⟨b, off + j * 2 + 1, none⟩) hl).trans a2, a3.below hB, a4⟩
theorem Tryz.infoA : (Tryz.prog.info? 187).map (fun i => (i.zero, i.size, i.bytes)) = some (some (.agg #[.slice none 0 0, .int .i64 0]), 2, 32) := by kernel_rfl
def Zer (W : World) (b o : Nat) : Prop := W.cell? ⟨b, o, none⟩ = some (.slice none 0 0) ∧ W.cell? ⟨b, o + 1, none⟩ = some (.int .i64 0) ∧ W.frozen? ⟨b, o, none⟩ = false ∧ W.frozen? ⟨b, o + 1, none⟩ = false
def AInv (W : World) (R : Nat → Prop) (b k : Nat) (l : List (List UInt8 × Int)) : Prop := ∀ j (hj : j < l.length), (j < k → Ans1 W R b (j * 2) (nrm l[j])) ∧ (k ≤ j → Zer W b (j * 2))
theorem Zer.keep {W W' : World} {b o : Nat} (h : Zer W b o) (hk : W'.heap[b]? = W.heap[b]?) : Zer W' b o :=
  ⟨(World.cell?_of_block (w := W) hk).trans h.1, (World.cell?_of_block (w := W) hk).trans h.2.1, (World.frozen?_of_block (w := W) hk).trans h.2.2.1, (World.frozen?_of_block (w := W) hk).trans h.2.2.2⟩
def AOth (W : World) (R : Nat → Prop) (b k : Nat) (l : List (List UInt8 × Int)) : Prop := ∀ j (hj : j < l.length), j ≠ k → (j < k → Ans1 W R b (j * 2) (nrm l[j])) ∧ (k ≤ j → Zer W b (j * 2))
theorem AInv.oth {W : World} {R : Nat → Prop} {b k : Nat} {l : List (List UInt8 × Int)} (h : AInv W R b k l) : AOth W R b k l := fun j hj _ => h j hj
theorem AOth.below {W W' : World} {R : Nat → Prop} {b k : Nat} {l : List (List UInt8 × Int)} (h : AOth W R b k l) (hb : R b) (hB : Below W.heap.size W W') : AOth W' R b k l := fun j hj hn =>
  ⟨fun e => ((h j hj hn).1 e).keep hb (fun x _ hl => hB.block x hl), fun e => ((h j hj hn).2 e).keep (hB.block b (World.block_lt_of_cell? W _ ((h j hj hn).2 e).1))⟩
theorem AOth.set {W : World} {R : Nat → Prop} {b k o : Nat} {l : List (List UInt8 × Int)} {c : Value} (h : AOth W R b k l) (hp : W.cell? ⟨b, o, none⟩ = some c) (hc : ∀ x, c ≠ .int .u8 x) (ho : o = k * 2 ∨ o = k * 2 + 1) (u : Value) : AOth (W.setCell ⟨b, o, none⟩ u) R b k l := fun j hj hn => by
  have e1 : (⟨b, o, none⟩ : Addr) ≠ ⟨b, j * 2, none⟩ := by simp <;> omega
  have e2 : (⟨b, o, none⟩ : Addr) ≠ ⟨b, j * 2 + 1, none⟩ := by simp <;> omega
  refine ⟨fun e => ((h j hj hn).1 e).set hp hc e1 e2 u, fun e => ?_⟩
  obtain ⟨a1, a2, a3, a4⟩ := (h j hj hn).2 e
  exact ⟨(World.cell?_setCell_other _ _ _ _ e1).trans a1, (World.cell?_setCell_other _ _ _ _ e2).trans a2, (World.frozen?_setCell _ _ _ _).trans a3, (World.frozen?_setCell _ _ _ _).trans a4⟩
theorem AOth.next {W : World} {R : Nat → Prop} {b k : Nat} {l : List (List UInt8 × Int)} (h : AOth W R b k l) (hk : k < l.length) (h2 : Ans1 W R b (k * 2) (nrm l[k])) : AInv W R b (k + 1) l := fun j hj => by
  by_cases hjk : j = k
  · subst hjk
    exact ⟨fun _ => h2, fun e => absurd e (by omega)⟩
  · exact ⟨fun e => (h j hj hjk).1 (by omega), fun e => (h j hj hjk).2 (by omega)⟩
theorem made_zer {w w1 : World} {n : Nat} (h : w1.ownsRow w.heap.size 187 2 (.slice (some ⟨w.heap.size, 0, none⟩) n n) n (madeCells (Value.agg #[.slice none 0 0, .int .i64 0]).cells (n * 2)).toList) (j : Nat) (hj : j < n) : Zer w1 w.heap.size (j * 2) := by
  have hm : ∀ i, i < n * 2 → (madeCells (Value.agg #[.slice none 0 0, .int .i64 0]).cells (n * 2)).toList[i]? = some (if i % 2 = 0 then .slice none 0 0 else .int .i64 0) := by
    intro i hi
    have : i % 2 = 0 ∨ i % 2 = 1 := by omega
    rcases this with e | e <;> simp [madeCells, Value.cells, hi, e]
  have c0 := h.cellAt (j * 2) (by omega)
  have c1 := h.cellAt (j * 2 + 1) (by omega)
  rw [hm _ (by omega)] at c0 c1
  rw [if_pos (by omega)] at c0
  rw [if_neg (by omega)] at c1
  exact ⟨c0, c1, h.frozenAt _, h.frozenAt _⟩
set_option maxRecDepth 100000 in
set_option maxHeartbeats 2000000 in
theorem copiedAnswers_any (v : Value) (l : List (List UInt8 × Int)) (w : World) (h : AnsR w v l) (hl : l.length ≤ 4096) (hd : ∀ x ∈ l, x.1.length ≤ 1048576) :
    Calls Tryz.prog 175 #[v] w fun e w' => ∃ u, e = .returned u ∧ Ans w' (fun k => w.heap.size ≤ k) u (l.map nrm) ∧ Below w.heap.size w w' := by
  obtain ⟨i0, hi, hz0, hz1, hz2⟩ := info_parts Tryz.infoA
  obtain ⟨a, cap, rfl, hc⟩ := h
  have HC := hide hc
  clear hc
  go_enter Tryz.func175, Tryz.ntmps175
  go_wp2_with (at_make; refine wpList_make_full _ rfl _ _ 183 rfl w.heap.size 187 i0 (.agg #[.slice none 0 0, .int .i64 0]) 2 Tryz.underlying183 hi hz0 hz1 _ _ _ _ l.length rfl rfl rfl rfl (by rw [hz2]; omega) (by unfold maxLen; omega) (Nat.le_refl _) ?_; intro w1 hown1 hgrow1)
  have hB1 : Below w.heap.size w w1 := (Below.refl _ w).grown hgrow1 (Nat.le_refl _) (fun k e => by cases e)
  have HI : Hid (AInv w1 (fun k => w.heap.size ≤ k) w.heap.size 0 l) := hide fun j hj => ⟨fun e => absurd e (by omega), fun _ => made_zer hown1 j hj⟩
  clear hown1 hgrow1
  go_loopw [4, 5, 11] (fun _ _ i wr => ∃ k : Nat, k ≤ l.length ∧ i = .int .i64 k ∧ Hid (AInv wr (fun k => w.heap.size ≤ k) w.heap.size k l) ∧ Hid (Below w.heap.size w wr) ∧ w1.heap.size ≤ wr.heap.size) (fun _ _ i _ => l.length - (intOf i).toNat)
  case atStart => exact ⟨0, Nat.zero_le _, rfl, HI, hB1, Nat.le_refl _⟩
  case round =>
    clear HI
    obtain ⟨k, hk, rfl, HI, HB, hws⟩ := hrel
    by_cases hlt : k < l.length
    · obtain ⟨b, off, rfl, hc⟩ := HC.out (by omega)
      obtain ⟨va, vc, a1, a2, a3, a4⟩ := hc k hlt
      have hbl := World.block_lt_of_cell? w _ a1
      have e1 := (HB.out.cell (p := ⟨b, off + k * 2, none⟩) hbl).trans a1
      have e2 := (HB.out.cell (p := ⟨b, off + k * 2 + 1, none⟩) hbl).trans a2
      have hk1 : (0 : Int) ≤ (k : Int) := by omega
      have hk2 : (k : Int) < (l.length : Int) := by omega
      have hxl : l[k].1.length ≤ 1048576 := hd _ (List.getElem_mem hlt)
      have hcl : w.heap.size < wr.heap.size := World.block_lt_of_cell? wr _ ((HI.out k hlt).2 (Nat.le_refl _)).1
      have HY := hide (And.intro a3 a4)
      have HZ := hide ((HI.out k hlt).2 (Nat.le_refl _))
      clear hc HC a1 a2 a3 a4
      generalize hyd : l[k] = y at *
      obtain ⟨d, e⟩ := y
      simp only at *
      have hBA := recv4 wr (Obj.cells #[Value.slice va d.length vc, Value.int IntKind.i64 e] 187)
      have q1 : (wr.alloc (Obj.cells #[Value.slice va d.length vc, Value.int IntKind.i64 e] 187)).cell? ⟨w.heap.size, k * 2 + 1, none⟩ = some (.int .i64 0) := (hBA.cell (p := ⟨w.heap.size, k * 2 + 1, none⟩) hcl).trans HZ.out.2.1
      have q3 : (wr.alloc (Obj.cells #[Value.slice va d.length vc, Value.int IntKind.i64 e] 187)).frozen? ⟨w.heap.size, k * 2 + 1, none⟩ = false := (hBA.frozen (p := ⟨w.heap.size, k * 2 + 1, none⟩) hcl).trans HZ.out.2.2.2
      have hne : ¬ w.heap.size = wr.heap.size := by omega
      have hne' : ¬ wr.heap.size = w.heap.size := by omega
      have HYd := hide hyd
      have HBA := hide hBA
      clear hyd hBA
      have w1' : (wr.setCell ⟨w.heap.size, k * 2 + 1, none⟩ (.int .i64 e)).cell? ⟨w.heap.size, k * 2 + 1, none⟩ = some (.int .i64 e) := World.cell?_setCell_same _ _ _ HZ.out.2.1
      have w0' : (wr.setCell ⟨w.heap.size, k * 2 + 1, none⟩ (.int .i64 e)).cell? ⟨w.heap.size, k * 2, none⟩ = some (.slice none 0 0) := (World.cell?_setCell_other _ _ _ _ (by simp)).trans HZ.out.1
      have f0' : (wr.setCell ⟨w.heap.size, k * 2 + 1, none⟩ (.int .i64 e)).frozen? ⟨w.heap.size, k * 2, none⟩ = false := (World.frozen?_setCell _ _ _ _).trans HZ.out.2.2.1
      have f1' : (wr.setCell ⟨w.heap.size, k * 2 + 1, none⟩ (.int .i64 e)).frozen? ⟨w.heap.size, k * 2 + 1, none⟩ = false := (World.frozen?_setCell _ _ _ _).trans HZ.out.2.2.2
      have HO := hide (HI.out.oth.set HZ.out.2.1 (fun x e => by cases e) (.inr rfl) (.int .i64 e))
      have HB' := hide (HB.out.setCell (p := ⟨w.heap.size, k * 2 + 1, none⟩) (Nat.le_refl _) (.int .i64 e))
      have hcl' : w.heap.size < (wr.setCell ⟨w.heap.size, k * 2 + 1, none⟩ (.int .i64 e)).heap.size := World.block_lt_of_cell? _ _ w1'
      have hsz : (wr.setCell ⟨w.heap.size, k * 2 + 1, none⟩ (.int .i64 e)).heap.size = wr.heap.size := by simp [World.setCell]
      have HBB := hide (recv4 (wr.setCell ⟨w.heap.size, k * 2 + 1, none⟩ (.int .i64 e)) (Obj.cells #[Value.slice va d.length vc, Value.int IntKind.i64 e] 187))
      have HF := hide (And.intro w0' (And.intro w1' (And.intro f0' f1')))
      clear w0' w1' f0' f1'
      by_cases he : e = 0
      · subst he
        go_wp2_with fail
        generalize wr.setCell ⟨w.heap.size, k * 2 + 1, none⟩ (.int .i64 0) = W1 at *
        have hBw := HB'.out.trans (HBB.out.mono HB'.out.size)
        refine (mclone_any _ d _ (HY.out.1.below hBw) (by omega)).mono ?_
        rintro _ w5 ⟨v, rfl, hown, hB5⟩
        have hB15 : Below W1.heap.size W1 w5 := HBB.out.trans (hB5.mono HBB.out.size)
        obtain ⟨xa, xc, rfl⟩ := owns_slice hown
        have p0 : w5.cell? ⟨w.heap.size, k * 2, none⟩ = some (.slice none 0 0) := (hB15.cell (p := ⟨w.heap.size, k * 2, none⟩) hcl').trans HF.out.1
        have p1 : w5.cell? ⟨w.heap.size, k * 2 + 1, none⟩ = some (.int .i64 0) := (hB15.cell (p := ⟨w.heap.size, k * 2 + 1, none⟩) hcl').trans HF.out.2.1
        have p2 : w5.frozen? ⟨w.heap.size, k * 2, none⟩ = false := (hB15.frozen (p := ⟨w.heap.size, k * 2, none⟩) hcl').trans HF.out.2.2.1
        have p3 : w5.frozen? ⟨w.heap.size, k * 2 + 1, none⟩ = false := (hB15.frozen (p := ⟨w.heap.size, k * 2 + 1, none⟩) hcl').trans HF.out.2.2.2
        have HO5 := hide ((HO.out.below (Nat.le_refl w.heap.size) hB15).set p0 (fun x e => by cases e) (.inl rfl) (.slice xa d.length xc))
        have HA5 : Hid (Ans1 (w5.setCell ⟨w.heap.size, k * 2, none⟩ (.slice xa d.length xc)) (fun k => w.heap.size ≤ k) w.heap.size (k * 2) (nrm l[k])) := hide (by
          rw [HYd.out, show nrm (d, (0 : Int)) = (d, 0) by simp [nrm]]
          exact ⟨xa, xc, World.cell?_setCell_same _ _ _ p0, (World.cell?_setCell_other _ _ _ _ (by simp)).trans p1, (World.frozen?_setCell _ _ _ _).trans p2, (World.frozen?_setCell _ _ _ _).trans p3, (Bys.of_owns hown).set p0 (fun x e => by cases e) _, owns_cap hown, fun _ x hx => Nat.le_trans hBw.size (hown.lt x hx).1⟩)
        have HB5 := hide ((HB'.out.trans (hB15.mono HB'.out.size)).setCell (p := ⟨w.heap.size, k * 2, none⟩) (Nat.le_refl _) (.slice xa d.length xc))
        have hz5 : w1.heap.size ≤ (w5.setCell ⟨w.heap.size, k * 2, none⟩ (.slice xa d.length xc)).heap.size := by
          have h1 := hB15.size
          simp only [World.setCell, Array.size_modify]
          omega
        clear hown hB5 hB15 HO HF HBB HBA hBw p1 p3
        go_wp2
        exact ⟨⟨k + 1, by omega, by go_num, hide (HO5.out.next hlt HA5.out), HB5, hz5⟩, by simp [intOf]; omega⟩
      · have he2 : (e == 0) = false := by simpa using he
        go_wp2
        generalize wr.setCell ⟨w.heap.size, k * 2 + 1, none⟩ (.int .i64 e) = W1 at *
        have hOA := HO.out.below (Nat.le_refl w.heap.size) HBB.out
        have hA1 : Ans1 (W1.alloc (Obj.cells #[Value.slice va d.length vc, Value.int IntKind.i64 e] 187)) (fun k => w.heap.size ≤ k) w.heap.size (k * 2) (nrm l[k]) := by
          rw [HYd.out, show nrm (d, e) = ([], e) by simp [nrm, he]]
          exact ⟨none, 0, (HBB.out.cell (p := ⟨w.heap.size, k * 2, none⟩) hcl').trans HF.out.1, (HBB.out.cell (p := ⟨w.heap.size, k * 2 + 1, none⟩) hcl').trans HF.out.2.1, (HBB.out.frozen (p := ⟨w.heap.size, k * 2, none⟩) hcl').trans HF.out.2.2.1, (HBB.out.frozen (p := ⟨w.heap.size, k * 2 + 1, none⟩) hcl').trans HF.out.2.2.2, .inl ⟨rfl, rfl⟩, Nat.le_refl _, fun h => absurd h (by simp)⟩
        refine ⟨⟨k + 1, by omega, by go_num, hide (hOA.next hlt hA1), hide (HB'.out.trans (HBB.out.mono HB'.out.size)), ?_⟩, ?_⟩
        · have := HBB.out.size; omega
        · simp [intOf]; omega
    · go_wp2
      go_ret
      refine ⟨_, rfl, ⟨some ⟨w.heap.size, 0, none⟩, l.length, by rw [List.length_map]; rfl, by rw [List.length_map]; exact Nat.le_refl _, fun h0 => ⟨w.heap.size, 0, rfl, Nat.le_refl _, fun j hj => ?_⟩⟩, HB.out⟩
      rw [List.length_map] at hj
      rw [Nat.zero_add, List.getElem_map]
      exact (HI.out j hj).1 (by omega)
end Go.Proofs.YtanbiinomagdbaaGreat

/- A custom stream is made. -/
namespace Go.Proofs.YtanbiinomagdbaaGreat
open Go.RowKit

def IntsR (W : World) (v : Value) (l : List Int) : Prop :=
  (v = .slice none 0 0 ∧ l = []) ∨ ∃ q cap, v = .slice (some q) l.length cap ∧ (0 < l.length → ∃ b off, q = ⟨b, off, none⟩ ∧ ∀ j (hj : j < l.length), W.cell? ⟨b, off + j, none⟩ = some (.int .i64 l[j]))
theorem IntsR.below {W W' : World} {v : Value} {l : List Int} (h : IntsR W v l) (hB : Below W.heap.size W W') : IntsR W' v l := by
  rcases h with h | ⟨q, cap, rfl, h2⟩
  · exact .inl h
  · refine .inr ⟨q, cap, rfl, fun h0 => ?_⟩
    obtain ⟨b, off, rfl, hd⟩ := h2 h0
    exact ⟨b, off, rfl, fun j hj => (hB.cell (p := ⟨b, off + j, none⟩) (World.block_lt_of_cell? W _ (hd j hj))).trans (hd j hj)⟩
theorem IntsR.form {W : World} {v : Value} {l : List Int} (h : IntsR W v l) : ∃ a c, v = .slice a l.length c := by
  rcases h with ⟨rfl, rfl⟩ | ⟨q, cap, rfl, _⟩
  · exact ⟨_, _, rfl⟩
  · exact ⟨_, _, rfl⟩
def iv (x : Int) : Value := .int .i64 x
theorem Tryz.infoI : (Tryz.prog.info? 3).map (fun i => (i.zero, i.size, i.bytes)) = some (some (.int .i64 0), 1, 8) := by kernel_rfl
theorem run_append_ints (w : World) (ty : TypeId) (x : Value) (l : List Int) (hx : IntsR w x l) (hn : l.length * 8 ≤ 140737488351232) :
    ∃ s' w', (Builtin.append_ #[47, 47] ty #[.slice none 0 0, x]).run Tryz.prog w = .ok s' w' ∧ Hid (w'.ownsRow w.heap.size 3 1 s' l.length (l.map iv)) ∧ w.grownBy w' none := by
  refine (?_ : ∃ s' w', (Builtin.append_ #[47, 47] ty #[.slice none 0 0, x]).run Tryz.prog w = .ok s' w' ∧ w'.ownsRow w.heap.size 3 1 s' l.length (l.map iv) ∧ w.grownBy w' none)
  obtain ⟨i0, hi, hz0, hz1, hz2⟩ := info_parts Tryz.infoI
  have h0 : w.ownsRow w.heap.size 3 1 (.slice none 0 0) 0 [] := World.ownsRow_nil _ _ _ _
  rcases hx with ⟨rfl, rfl⟩ | ⟨q, cap, rfl, hc⟩
  · exact ⟨_, w, run_append_owned_none (P := Tryz.prog) w w.heap.size _ ty _ i0 1 Tryz.underlying47 hi _ _ _ h0, by simpa using h0, ⟨rfl, rfl, rfl, Nat.le_refl _, fun _ _ _ => rfl⟩⟩
  · obtain ⟨v', w', h1, h2, h3, _, h5⟩ := run_append_own_at (P := Tryz.prog) w w.heap.size 47 ty 3 i0 (.int .i64 0) 1 8 Tryz.underlying47 hi hz0 hz1 hz2 rfl (by decide) (.slice none 0 0) 0 [] h0 q l.length cap (l.map iv) (by simp) (fun j u hj => by
      have hj' : j < l.length := by have := (List.getElem?_eq_some_iff.1 hj).1; simpa using this
      obtain ⟨b, off, rfl, hd⟩ := hc (by omega)
      have hadd : (⟨b, off, none⟩ : Addr).add j = ⟨b, off + j, none⟩ := by unfold Addr.add; split <;> simp_all
      rw [hadd, hd j hj']
      simpa [iv, List.getElem?_eq_getElem hj'] using hj) (fun u hu => by
      obtain ⟨c, _, rfl⟩ := List.mem_map.1 hu
      rfl) (by unfold maxLen; omega) (by omega) (Nat.le_refl _)
    refine ⟨v', w', h1, by simpa using h2, ?_⟩
    simpa [Value.ownBlock] using h3
theorem owns_nrow {W : World} {base : Nat} {v : Value} {l : List Int} {N : Nat → Prop} (h : W.ownsRow base 3 1 v l.length (l.map iv)) (hN : ∀ k, v.ownBlock = some k → N k) : NRow W N v l := by
  rcases h.2 with ⟨rfl, h0⟩ | ⟨g, cap, cur, rfl, h1, h2, h3, h4, h5, h6⟩
  · have hl : l = [] := by simpa using h0
    subst hl
    exact ⟨_, _, rfl, Nat.le_refl _, fun h => absurd h (by simp)⟩
  · refine ⟨_, cap, rfl, h3, fun _ => ⟨g, 0, rfl, hN g rfl, fun j hj => ?_⟩⟩
    have := h.cellAt j (by omega)
    rw [Nat.zero_add, this]
    simp [iv, List.getElem?_eq_getElem hj]

def cusE (l : List (List UInt8 × Int)) (ws : List Int) : Int := if 4096 < l.length ∨ 4096 < ws.length then 3 else if ∃ x ∈ l, 1048576 < x.1.length then 5 else 0
def CusNew (l : List (List UInt8 × Int)) (ws : List Int) (w : World) (e : Ending) (w' : World) : Prop := ((∃ x ∈ l, 1048576 < x.1.length) ∧ e = .returned (.tuple #[.pointer none, .int .i64 5]) ∧ Below w.heap.size w w') ∨
  ((∀ x ∈ l, x.1.length ≤ 1048576) ∧ ∃ g, e = .returned (.tuple #[.pointer (some ⟨g, 0, none⟩), .int .i64 0]) ∧ CusAt w' (fun k => w.heap.size ≤ k) g ⟨l, ws, []⟩ ∧ Below w.heap.size w w')
theorem cus_new {w0 w1 w2 : World} {l : List (List UInt8 × Int)} {ws : List Int} {u : Value} {s' : Value} (hA : Ans w1 (fun k => w0.heap.size ≤ k) u (l.map nrm)) (hB : Below w0.heap.size w0 w1) (hs : w2.ownsRow w1.heap.size 3 1 s' ws.length (ws.map iv)) (hg : w1.grownBy w2 none) (z1 : l.length ≤ 4096) (z2 : ws.length ≤ 4096) (hl : ∀ x ∈ l, x.1.length ≤ 1048576) :
    CusAt (w2.alloc (Obj.cells #[.bool true, u, s', .slice none 0 0] 298)) (fun k => w0.heap.size ≤ k) w2.heap.size ⟨l, ws, []⟩ ∧ Below w0.heap.size w0 (w2.alloc (Obj.cells #[.bool true, u, s', .slice none 0 0] 298)) := by
  have hB12 : Below w1.heap.size w1 w2 := (Below.refl _ w1).grown hg (Nat.le_refl _) (fun k e => by cases e)
  have hB2 := recv4 w2 (Obj.cells #[.bool true, u, s', .slice none 0 0] 298)
  have hz1 := hB.size
  have hz2 := hB12.size
  have hB0 := hB.trans (hB12.mono hB.size)
  have hA2 : Ans (w2.alloc (Obj.cells #[.bool true, u, s', .slice none 0 0] 298)) (fun k => w0.heap.size ≤ k ∧ k < w1.heap.size) u (l.map nrm) :=
    (cus_rows hA (N := fun _ => True) (wv := .slice none 0 0) (ws := []) ⟨_, _, rfl, Nat.le_refl _, fun h => absurd h (by simp)⟩).1.keep (fun k _ hk => (hB2.block k (by omega)).trans (hB12.block k hk))
  have hs2 := owns_below hs hB2
  refine ⟨⟨u, s', .slice none 0 0, fun k => w0.heap.size ≤ k ∧ k < w1.heap.size, fun k => w1.heap.size ≤ k ∧ k < w2.heap.size, ⟨?_, ?_, ?_, ?_⟩, ⟨?_, ?_, ?_⟩, hA2, owns_nrow hs2 (fun k e => hs.lt k e), World.ownsRow_nil _ _ _ _, fun k e => (by cases e), fun k e => ⟨e.1, by have := e.2; omega, fun e' => by have := e.2; have := e'.1; omega⟩, fun k e => ⟨by have := e.1; omega, by have := e.2; omega⟩, by show w0.heap.size ≤ w2.heap.size; omega, z1, z2, hl⟩, hB0.alloc hB0.size _⟩
  · simp only [World.cell?, heap_alloc_new]; rfl
  · simp only [World.cell?, heap_alloc_new]; rfl
  · simp only [World.cell?, heap_alloc_new]; rfl
  · simp only [World.cell?, heap_alloc_new]; rfl
  · simp only [World.frozen?, heap_alloc_new]; rfl
  · simp only [World.frozen?, heap_alloc_new]; rfl
  · simp only [World.frozen?, heap_alloc_new]; rfl
set_option maxHeartbeats 1000000 in
theorem newCustom_count (a1 a2 : Option Addr) (n1 n2 c1 c2 : Nat) (w : World) (h : 4096 < n1 ∨ 4096 < n2) :
    Calls Tryz.prog 93 #[.slice a1 n1 c1, .slice a2 n2 c2] w fun e w' => e = .returned (.tuple #[.pointer none, .int .i64 3]) ∧ w = w' := by
  rcases (show (4096 : Int) < (n1 : Int) ∨ (¬ (4096 : Int) < (n1 : Int) ∧ (4096 : Int) < (n2 : Int)) by omega) with h1 | ⟨h1, h2⟩
  all_goals
    clear h
    go_enter Tryz.func93, Tryz.ntmps93
    go_wp2
    go_ret2
    exact ⟨rfl, rfl⟩
set_option maxRecDepth 100000 in
set_option maxHeartbeats 2000000 in
theorem newCustom_any (v1 v2 : Value) (l : List (List UInt8 × Int)) (ws : List Int) (w : World) (h1 : AnsR w v1 l) (h2 : IntsR w v2 ws) (z1 : l.length ≤ 4096) (z2 : ws.length ≤ 4096) :
    Calls Tryz.prog 93 #[v1, v2] w (CusNew l ws w) := by
  have H1 := hide h1
  have H2 := hide h2
  obtain ⟨a1, c1, rfl, hc⟩ := h1
  obtain ⟨a2, c2, rfl⟩ := h2.form
  have HC := hide hc
  clear hc h2
  have q1 : ¬ (4096 : Int) < (l.length : Int) := by omega
  have q2 : ¬ (4096 : Int) < (ws.length : Int) := by omega
  go_enter Tryz.func93, Tryz.ntmps93
  go_wp2
  go_loopw [7, 18] (fun _ i wr => ∃ k : Nat, k ≤ l.length ∧ i = .int .i64 k ∧ Hid (∀ j (hj : j < l.length), j < k → l[j].1.length ≤ 1048576) ∧ Hid (Below w.heap.size w wr)) (fun _ i _ => l.length - (intOf i).toNat)
  case atStart => exact ⟨0, Nat.zero_le _, rfl, hide (fun j hj e => absurd e (by omega)), hide (Below.refl _ _)⟩
  case round =>
    obtain ⟨k, hk, rfl, HI, HB⟩ := hrel
    by_cases hlt : k < l.length
    · obtain ⟨b, off, rfl, hc⟩ := HC.out (by omega)
      obtain ⟨va, vc, a1, a2, a3, a4⟩ := hc k hlt
      have hbl := World.block_lt_of_cell? w _ a1
      have e1 := (HB.out.cell (p := ⟨b, off + k * 2, none⟩) hbl).trans a1
      have e2 := (HB.out.cell (p := ⟨b, off + k * 2 + 1, none⟩) hbl).trans a2
      have hk1 : (0 : Int) ≤ (k : Int) := by omega
      have hk2 : (k : Int) < (l.length : Int) := by omega
      have HL := hide (And.intro (List.getElem_mem hlt) (rfl : l[k] = l[k]))
      have HB2 := hide ((HB.out.trans ((recv4 wr (Obj.cells #[Value.slice va l[k].1.length vc, Value.int IntKind.i64 l[k].2] 187)).mono HB.out.size)))
      by_cases hx : 1048576 < l[k].1.length
      · have hx' : (1048576 : Int) < (l[k].1.length : Int) := by omega
        clear hc HC a1 a2 a3 a4
        go_wp2
        go_ret2
        exact .inl ⟨⟨l[k], HL.out.1, hx⟩, rfl, HB2.out⟩
      · have hx' : ¬ (1048576 : Int) < (l[k].1.length : Int) := by omega
        clear hc HC a1 a2 a3 a4
        go_wp2
        refine ⟨⟨k + 1, by omega, by go_num, hide (fun j hj e => ?_), HB2⟩, by simp [intOf]; omega⟩
        by_cases hjk : j = k
        · subst hjk; omega
        · exact HI.out j hj (by omega)
    · have hall : ∀ x ∈ l, x.1.length ≤ 1048576 := fun x hx => by
        obtain ⟨j, hj, rfl⟩ := List.getElem_of_mem hx
        exact HI.out j hj (by omega)
      have HA := hide hall
      clear hall HI HC
      go_wp2_with fail
      refine (copiedAnswers_any _ l _ (H1.out.below HB.out) (by omega) HA.out).mono ?_
      rintro _ w2 ⟨u, rfl, hA2, hB2⟩
      obtain ⟨s', w3, hrun, HS, hgr⟩ := run_append_ints w2 47 _ ws ((H2.out.below HB.out).below hB2) (by omega)
      have HR := hide hrun
      have HA2 := hide (And.intro hA2 (HB.out.trans (hB2.mono HB.out.size)))
      obtain ⟨ua, uc, rfl, -⟩ := hA2
      obtain ⟨sa, sc, rfl⟩ := owns_slice HS.out
      have HG := hide hgr
      clear hrun hgr hB2
      go_wp2_with (at_builtin; refine Lib.wpList_append_run _ rfl _ _ _ _ rfl _ _ rfl rfl _ _ HR.out ?_)
      go_ret2
      have hAA : Ans w2 (fun k => w.heap.size ≤ k) (.slice ua (l.map nrm).length uc) (l.map nrm) := by
        obtain ⟨a, cap, e0, e1, e2⟩ := HA2.out.1
        refine ⟨a, cap, e0, e1, fun h0 => ?_⟩
        obtain ⟨b, off, r1, r2, r3⟩ := e2 h0
        have hz := HB.out.size
        refine ⟨b, off, r1, Nat.le_trans hz r2, fun j hj => ?_⟩
        obtain ⟨va, vc, g1, g2, g3, g4, g5, g6, g7⟩ := r3 j hj
        exact ⟨va, vc, g1, g2, g3, g4, g5, g6, fun h0 k hk => Nat.le_trans hz (g7 h0 k hk)⟩
      obtain ⟨d1, d2⟩ := cus_new hAA HA2.out.2 HS.out HG.out z1 z2 HA.out
      rw [List.length_map] at d1 d2
      exact .inr ⟨HA.out, _, rfl, d1, d2⟩
end Go.Proofs.YtanbiinomagdbaaGreat
