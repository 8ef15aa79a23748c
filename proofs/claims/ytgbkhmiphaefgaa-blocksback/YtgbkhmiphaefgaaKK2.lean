/- What the proof stands on, part 2: the contracts of the program's calls that it reaches. -/
import Derived.Test.YtgbkhmiphaefgaaKK1
import Derived.Lib.BufferMore
/- Memories: write, seek. -/
namespace Go.Proofs.Ytgbkhmiphaefgaa
open Go.RowKit

theorem MS.write_long {S : MS} {x : List UInt8} (h : 1048576 < x.length) : S.write x = (0, 5, S) := by unfold MS.write; rw [if_pos h]
theorem MS.write_none {S : MS} : S.write [] = (0, 0, S) := by unfold MS.write; rw [if_neg (by decide), if_pos rfl]
theorem MS.write_full {S : MS} {x : List UInt8} (h : x.length ≤ 1048576) (h0 : x ≠ []) (hp : S.pl = S.room) : S.write x = (0, 31, S) := by unfold MS.write; rw [if_neg (by omega), if_neg h0, if_pos hp]
theorem MS.write_some {S : MS} {x : List UInt8} (h : x.length ≤ 1048576) (h0 : x ≠ []) (hp : S.pl ≠ S.room) {m : Nat} (hm : m = min x.length (S.room - S.pl)) : S.write x = ((m : Int), 0, ⟨lay S.l S.pl (x.take m), S.room, S.pl + m⟩) := by
  unfold MS.write; rw [if_neg (by omega), if_neg h0, if_neg hp, hm]

set_option maxRecDepth 100000 in
set_option maxHeartbeats 1000000 in
theorem swrite_long (O : Nat → Prop) (g : Nat) (S : MS) (a : Option Addr) (n c : Nat) (w : World) (h : MemAt w O g S) (hl : 1048576 < n) :
    Calls Try.prog 109 #[.pointer (some ⟨g, 0, none⟩), .slice a n c] w fun e w' => e = .returned (.tuple #[.int .i64 0, .int .i64 5]) ∧ w = w' := by
  obtain ⟨f, b, cap, h0, -⟩ := h
  have hd : (1048576 : Int) < (n : Int) := by omega
  go_enter Try.func109, Try.ntmps109
  go_wp2_with (first | (go_at_call 107; refine (sMade_yes g f _ h0).mono ?_; rintro _ _ ⟨rfl, rfl⟩) | fail)
  go_ret2
  exact ⟨rfl, rfl⟩
set_option maxRecDepth 100000 in
set_option maxHeartbeats 1000000 in
theorem swrite_none (O : Nat → Prop) (g : Nat) (S : MS) (a : Option Addr) (c : Nat) (w : World) (h : MemAt w O g S) :
    Calls Try.prog 109 #[.pointer (some ⟨g, 0, none⟩), .slice a 0 c] w fun e w' => e = .returned (.tuple #[.int .i64 0, .int .i64 0]) ∧ w = w' := by
  obtain ⟨f, b, cap, h0, -⟩ := h
  go_enter Try.func109, Try.ntmps109
  go_wp2_with (first | (go_at_call 107; refine (sMade_yes g f _ h0).mono ?_; rintro _ _ ⟨rfl, rfl⟩) | fail)
  go_ret2
  exact ⟨rfl, rfl⟩
set_option maxRecDepth 100000 in
set_option maxHeartbeats 1000000 in
theorem swrite_full (O : Nat → Prop) (g : Nat) (S : MS) (a : Option Addr) (n c : Nat) (w : World) (h : MemAt w O g S) (hl : n ≤ 1048576) (hn : 0 < n) (hp : S.pl = S.room) :
    Calls Try.prog 109 #[.pointer (some ⟨g, 0, none⟩), .slice a n c] w fun e w' => e = .returned (.tuple #[.int .i64 0, .int .i64 31]) ∧ Below w.heap.size w w' := by
  obtain ⟨f, b, cap, h0, h1, h2, -⟩ := h
  rw [hp] at h2
  have hd : ¬ (1048576 : Int) < (n : Int) := by omega
  have hd2 : ((n : Int) == 0) = false := by simp; omega
  generalize S.room = R at *
  generalize S.pl = Q at *
  clear hp
  go_enter Try.func109, Try.ntmps109
  go_wp2_with (first | (go_at_call 107; refine (sMade_yes g f _ h0).mono ?_; rintro _ _ ⟨rfl, rfl⟩) | fail)
  go_quiet (fail)
  go_wp2
  go_ret2
  exact ⟨rfl, below_drewN (Below.refl _ _) _⟩
set_option maxRecDepth 100000 in
set_option maxHeartbeats 2000000 in
theorem swrite_some (O : Nat → Prop) (g : Nat) (S : MS) (x : List UInt8) (a : Option Addr) (c m : Nat) (w : World) (h : MemAt w O g S) (hx : Bys w (.slice a x.length c) x) (hc : x.length ≤ c) (hap : ∀ k, (Value.slice a x.length c).ownBlock = some k → ¬ O k) (hl : x.length ≤ 1048576) (h0x : 0 < x.length) (hp : S.pl ≠ S.room) (hm : m = min x.length (S.room - S.pl)) :
    Calls Try.prog 109 #[.pointer (some ⟨g, 0, none⟩), .slice a x.length c] w fun e w' => e = .returned (.tuple #[.int .i64 m, .int .i64 0]) ∧ MStep w O g ⟨lay S.l S.pl (x.take m), S.room, S.pl + m⟩ w' := by
  obtain ⟨f, b, cap, h0, h1, h2, h3, h4, og, of, ob, n1, n2, r1, r2, r3⟩ := h
  obtain ⟨_, xb, xo, rfl, hxl, hcells⟩ := bys_block hx h0x
  have hm1 : 0 < m := by omega
  have hm2 : m ≤ x.length := by omega
  have hm3 : S.pl + m ≤ S.room := by omega
  have hmi : min (x.length : Int) ((S.room : Int) - (S.pl : Int)) = (m : Int) := by omega
  have htl : (x.take m).length = m := by rw [List.length_take]; omega
  have hcut : Bys w (.slice (some ⟨xb, xo, none⟩) m c) (x.take m) := by have := bys_cut hx 0 m c (by omega); simpa using this
  have HW := hide fun (W : World) (hB : Below w.heap.size w W) => writeAt_some f b cap S.l S.pl (.slice (some ⟨xb, xo, none⟩) m c) (x.take m) W (h4.below hB) (hcut.below hB) (fun k hk => by
    obtain rfl : xb = k := by simpa [Value.ownBlock] using hk
    have hn := hap xb rfl
    exact ⟨fun e => hn (e ▸ of), fun e => hn (e ▸ ob)⟩) (by rw [htl]; omega) (by rw [htl]; omega)
  have HS := hide (And.intro h0 (And.intro h1 (And.intro h2 h3)))
  have HF := hide (And.intro of (And.intro ob og))
  have hgl : g < w.heap.size := World.block_lt_of_cell? w _ h0
  have hd : ¬ (1048576 : Int) < (x.length : Int) := by omega
  have hd2 : ((x.length : Int) == 0) = false := by simp; intro e; rw [e] at h0x; simp at h0x
  have hd3 : ((S.pl : Int) == (S.room : Int)) = false := by simp; omega
  have hd3' : ¬ (S.pl : Int) = (S.room : Int) := by omega
  have hmc : m ≤ c := by omega
  have HH := hide (And.intro hm htl)
  clear hm hx hcells hcut hap h4 h3 of ob htl
  go_enter Try.func109, Try.ntmps109
  go_wp2_with (first | (go_at_call 107; refine (sMade_yes g f _ h0).mono ?_; rintro _ _ ⟨rfl, rfl⟩) | fail)
  go_quiet (fail)
  go_wp2_with fail
  go_quiet (fail)
  go_wp2_with fail
  go_region_held3 (fun w' => w'.cell? ⟨g, 0, none⟩ = some (.pointer (some ⟨f, 0, none⟩)) ∧ w'.cell? ⟨g, 2, none⟩ = some (.int .i64 S.pl))
    (first | exact hx5 | exact ⟨h0, h2⟩ | go_keep)
    (first
      | (go_at_call 111; refine (HW.out _ (below_drewN (Below.refl _ _) _)).mono ?_; rintro e w2 ⟨rfl, b', cap', hF2, hb2, hT2⟩; have hx5 : w2.cell? ⟨g, 0, none⟩ = some (.pointer (some ⟨f, 0, none⟩)) ∧ w2.cell? ⟨g, 2, none⟩ = some (.int .i64 S.pl) := ⟨hT2.cell HS.out.1 (fun e => by rcases e with e | e; exact n1 e; exact n2 e), hT2.cell HS.out.2.2.1 (fun e => by rcases e with e | e; exact n1 e; exact n2 e)⟩)
      | fail)
  obtain ⟨k0, k2⟩ := hx5
  have hgb : w2.heap[g]? = w.heap[g]? := hT2.block g hgl (fun e => by rcases e with e | e; exact n1 e; exact n2 e)
  have k1 : w2.cell? ⟨g, 1, none⟩ = some (.int .i64 S.room) := (World.cell?_of_block (w := w) hgb).trans HS.out.2.1
  have k3 : w2.frozen? ⟨g, 2, none⟩ = false := (World.frozen?_of_block (w := w) hgb).trans HS.out.2.2.2
  have hz : w.heap.size ≤ w2.heap.size := hT2.size
  have hb2' : b' = b ∨ w.heap.size ≤ b' := hb2
  have HT2 : Hid (Turned (fun k => k = f ∨ k = b) w w2) := hide ⟨hT2.os, hT2.tape, hT2.output, hT2.size, hT2.block⟩
  have HF2 := hide hF2
  clear hF2 hT2 h0 h1 h2 HW hb2
  go_wp2
  go_ret2
  rw [show ((S.pl : Int) + (m : Int)) = ((S.pl + m : Nat) : Int) by omega]
  have hll : (lay S.l S.pl (x.take m)).length ≤ S.room := by rw [lay_len, HH.out.2]; split <;> omega
  have hff := HF2.out.lt
  have hbn : b' ≠ g := by rcases hb2' with e | e <;> omega
  have hbf : f ≠ g := fun e => n1 e.symm
  refine ⟨rfl, fun k => k = g ∨ k = f ∨ k = b', ⟨f, b', cap', ?_, ?_, ?_, ?_, ?_, .inl rfl, .inr (.inl rfl), .inr (.inr rfl), n1, fun e => hbn e.symm, hll, hm3, r3⟩, fun k e => ?_, ?_⟩
  · rw [World.cell?_setCell_other _ _ _ _ (by simp)]; exact k0
  · rw [World.cell?_setCell_other _ _ _ _ (by simp)]; exact k1
  · exact World.cell?_setCell_same _ _ _ k2
  · rw [World.frozen?_setCell]; exact k3
  · exact HF2.out.keep (Below.heap_setCell _ _ _ _ hbf) (Below.heap_setCell _ _ _ _ hbn)
  · rcases e with rfl | rfl | rfl
    · exact .inl HF.out.2.2
    · exact .inl HF.out.1
    · rcases hb2' with rfl | e
      · exact .inl HF.out.2.1
      · exact .inr e
  · exact (HT2.out.mono (S' := O) (fun k e => by rcases e with rfl | rfl; exact HF.out.1; exact HF.out.2.1)).set (.inl HF.out.2.2)
theorem swrite_any (O : Nat → Prop) (g : Nat) (S : MS) (x : List UInt8) (a : Option Addr) (c : Nat) (w : World) (h : MemAt w O g S) (hx : Bys w (.slice a x.length c) x) (hc : x.length ≤ c) (hap : 0 < x.length → ∀ k, (Value.slice a x.length c).ownBlock = some k → ¬ O k) :
    Calls Try.prog 109 #[.pointer (some ⟨g, 0, none⟩), .slice a x.length c] w fun e w' => e = .returned (.tuple #[.int .i64 (S.write x).1, .int .i64 (S.write x).2.1]) ∧ MStep w O g (S.write x).2.2 w' := by
  by_cases hl : 1048576 < x.length
  · rw [MS.write_long hl]
    refine (swrite_long O g S a x.length c w h hl).mono ?_
    rintro e w' ⟨rfl, rfl⟩
    exact ⟨rfl, MStep.same h⟩
  by_cases h0 : x = []
  · subst h0
    rw [MS.write_none]
    refine (swrite_none O g S a c w h).mono ?_
    rintro e w' ⟨rfl, rfl⟩
    exact ⟨rfl, MStep.same h⟩
  have h0x := List.length_pos_iff.2 h0
  by_cases hp : S.pl = S.room
  · rw [MS.write_full (by omega) h0 hp]
    refine (swrite_full O g S a x.length c w h (by omega) h0x hp).mono ?_
    rintro e w' ⟨rfl, hB⟩
    exact ⟨rfl, MStep.below h hB⟩
  · rw [MS.write_some (by omega) h0 hp rfl]
    exact swrite_some O g S x a c _ w h hx hc (hap h0x) (by omega) h0x hp rfl
end Go.Proofs.Ytgbkhmiphaefgaa

/- Memories: seek. -/
namespace Go.Proofs.Ytgbkhmiphaefgaa
open Go.RowKit

end Go.Proofs.Ytgbkhmiphaefgaa

/- Memories: made, and their calls. -/
namespace Go.Proofs.Ytgbkhmiphaefgaa
open Go.RowKit

theorem recv4 (w : World) (o : Obj) : Below w.heap.size w (w.alloc o) := (Below.refl _ _).alloc (Nat.le_refl _) _
theorem new_zero3 {W w' : World} {x y z : Value} {t : TypeId} (h : Below (W.alloc (Obj.cells #[x, y, z] t)).heap.size (W.alloc (Obj.cells #[x, y, z] t)) w') :
    w'.cell? ⟨W.heap.size, 0, none⟩ = some x ∧ w'.cell? ⟨W.heap.size, 1, none⟩ = some y ∧ w'.cell? ⟨W.heap.size, 2, none⟩ = some z ∧ w'.frozen? ⟨W.heap.size, 0, none⟩ = false ∧ w'.frozen? ⟨W.heap.size, 1, none⟩ = false ∧ w'.frozen? ⟨W.heap.size, 2, none⟩ = false :=
  ⟨(h.cell (p := ⟨W.heap.size, 0, none⟩) (size_new _ _)).trans (by simp only [World.cell?, heap_alloc_new]; rfl), (h.cell (p := ⟨W.heap.size, 1, none⟩) (size_new _ _)).trans (by simp only [World.cell?, heap_alloc_new]; rfl), (h.cell (p := ⟨W.heap.size, 2, none⟩) (size_new _ _)).trans (by simp only [World.cell?, heap_alloc_new]; rfl), (h.frozen (p := ⟨W.heap.size, 0, none⟩) (size_new _ _)).trans (by simp only [World.frozen?, heap_alloc_new]; rfl), (h.frozen (p := ⟨W.heap.size, 1, none⟩) (size_new _ _)).trans (by simp only [World.frozen?, heap_alloc_new]; rfl), (h.frozen (p := ⟨W.heap.size, 2, none⟩) (size_new _ _)).trans (by simp only [World.frozen?, heap_alloc_new]; rfl)⟩
theorem res_store {fn : Func} {p u : Tmp} {w : World} (h : fn.results = #[.cell p 53, .tmp u]) (tmps : Array Value) (b : Nat) (hp : tmps.getD p undef = .pointer (some ⟨b, 0, none⟩)) (x : Option Addr) (y z : Int) (h1 : w.cell? ⟨b, 0, none⟩ = some (.pointer x)) (h2 : w.cell? ⟨b, 1, none⟩ = some (.int .i64 y)) (h3 : w.cell? ⟨b, 2, none⟩ = some (.int .i64 z)) :
    (results fn tmps).run Try.prog w = .ok (.tuple #[.agg #[.pointer x, .int .i64 y, .int .i64 z], tmps.getD u undef]) w := by
  have a60 := Try.isAgg53
  have z60 := Try.sizeOf53
  have u3 := Try.underlying3
  have a3 := Try.isAgg3
  have z3 := Try.sizeOf3
  have a4 := Try.isAgg51
  have z4 := Try.sizeOf51
  have u4 := Try.underlying51
  rw [results_cell_tmp h, hp]
  simp only [loadVar]
  go_simp
set_option maxRecDepth 100000 in
set_option maxHeartbeats 1000000 in
theorem storeOf_good (v : Value) (l : List UInt8) (room : Int) (w : World) (hb : Bys w v l) (h : ¬ room < (l.length : Int)) (hl : l.length ≤ 1048576) :
    Calls Try.prog 18 #[v, .int .i64 room] w fun e w' => ∃ f b, e = .returned (.tuple #[.agg #[.pointer (some ⟨f, 0, none⟩), .int .i64 room, .int .i64 0], .int .i64 0]) ∧ FileAt w' f b l.length l ∧ w.heap.size ≤ f ∧ w.heap.size ≤ b ∧ Below w.heap.size w w' := by
  obtain ⟨a1, c1, rfl, -⟩ := bys_form hb
  have hB : Below w.heap.size w (w.alloc (Obj.cells #[Value.pointer none, Value.int IntKind.i64 0, Value.int IntKind.i64 0] 53)) := (Below.refl _ _).alloc (Nat.le_refl _) _
  have HB := hide (hb.below hB)
  clear hb
  go_enter Try.func18, Try.ntmps18
  go_wp2_with fail
  refine (Fi_new_good _ l _ HB.out hl).mono ?_
  rintro e w2 ⟨f, rfl, h1, h2, h3⟩
  have H1 := hide h1
  obtain ⟨z0, z1, z2, z3, z4, z5⟩ := new_zero3 h3
  have hwf : w.heap.size < f := Nat.lt_of_le_of_lt hB.size h2
  have hwb : w.heap.size < (w.alloc (Obj.cells #[Value.pointer none, Value.int IntKind.i64 0, Value.int IntKind.i64 0] 53)).heap.size := size_new _ _
  have hB2 := hB.trans (h3.mono hB.size)
  clear h1 h2 h3 hB HB
  generalize (w.alloc (Obj.cells #[Value.pointer none, Value.int IntKind.i64 0, Value.int IntKind.i64 0] 53)).heap.size = b at *
  go_wp2
  obtain ⟨W, hW⟩ : ∃ W, W = ((w2.setCell ⟨w.heap.size, 0, none⟩ (.pointer (some ⟨f, 0, none⟩))).setCell ⟨w.heap.size, 1, none⟩ (.int .i64 room)).setCell ⟨w.heap.size, 2, none⟩ (.int .i64 0) := ⟨_, rfl⟩
  rw [← hW]
  have y0 : W.cell? ⟨w.heap.size, 0, none⟩ = some (.pointer (some ⟨f, 0, none⟩)) := by
    rw [hW, World.cell?_setCell_other _ _ _ _ (by simp), World.cell?_setCell_other _ _ _ _ (by simp)]; exact World.cell?_setCell_same _ _ _ z0
  have y1 : W.cell? ⟨w.heap.size, 1, none⟩ = some (.int .i64 room) := by
    rw [hW, World.cell?_setCell_other _ _ _ _ (by simp)]; exact World.cell?_setCell_same _ _ _ ((World.cell?_setCell_other _ _ _ _ (by simp)).trans z1)
  have y2 : W.cell? ⟨w.heap.size, 2, none⟩ = some (.int .i64 0) := by
    rw [hW]; exact World.cell?_setCell_same _ _ _ ((World.cell?_setCell_other _ _ _ _ (by simp)).trans ((World.cell?_setCell_other _ _ _ _ (by simp)).trans z2))
  refine bodyPost_ret (res_store rfl _ w.heap.size rfl (some ⟨f, 0, none⟩) room 0 y0 y1 y2) rfl ?_
  have hT : Turned (fun k => k = w.heap.size) w2 W := by
    rw [hW]
    exact (((Turned.refl (fun k => k = w.heap.size) w2).set (.inl rfl)).set (.inl rfl)).set (.inl rfl)
  have hbl := H1.out.row.lt
  exact ⟨f, b, rfl, H1.out.keep (hT.block f H1.out.lt (by omega)) (hT.block b hbl (by omega)), by omega, by omega, hB2.trans (hT.below (fun k e => by omega) hB2.size)⟩
theorem mem_new {w w2 : World} {l : List UInt8} {f b room : Nat} {T : TypeId} (hF : FileAt w2 f b l.length l) (hf : w.heap.size ≤ f) (hb : w.heap.size ≤ b) (hB : Below w.heap.size w w2) (hl : l.length ≤ room) (hr : room ≤ 1048576) :
    MemAt (w2.alloc (Obj.cells #[.pointer (some ⟨f, 0, none⟩), .int .i64 (room : Int), .int .i64 0] T)) (fun k => w.heap.size ≤ k) w2.heap.size ⟨l, room, 0⟩ ∧ Below w.heap.size w (w2.alloc (Obj.cells #[.pointer (some ⟨f, 0, none⟩), .int .i64 (room : Int), .int .i64 0] T)) := by
  have hfl := hF.lt
  have hbl := hF.row.lt
  refine ⟨⟨f, b, l.length, ?_, ?_, ?_, ?_, hF.keep (Below.heap_alloc _ _ _ hfl) (Below.heap_alloc _ _ _ hbl), hB.size, hf, hb, by omega, by omega, hl, Nat.zero_le _, hr⟩, hB.alloc hB.size _⟩
  · simp only [World.cell?, heap_alloc_new]; rfl
  · simp only [World.cell?, heap_alloc_new]; rfl
  · simp only [World.cell?, heap_alloc_new]; rfl
  · simp only [World.frozen?, heap_alloc_new]; rfl
theorem mem_new2 {w w2 : World} {l : List UInt8} {f b room : Nat} {T : TypeId} (hF : FileAt w2 f b l.length l) (hf : w.heap.size ≤ f) (hb : w.heap.size ≤ b) (hB : Below w.heap.size w w2) (hl : l.length ≤ room) (hr : room ≤ 1048576) :
    MemAt ((w2.alloc (Obj.cells #[.pointer (some ⟨f, 0, none⟩), .int .i64 (room : Int), .int .i64 0] 53)).alloc (Obj.cells #[.pointer (some ⟨f, 0, none⟩), .int .i64 (room : Int), .int .i64 0] T)) (fun k => w.heap.size ≤ k) (w2.heap.size + 1) ⟨l, room, 0⟩ ∧ Below w.heap.size w ((w2.alloc (Obj.cells #[.pointer (some ⟨f, 0, none⟩), .int .i64 (room : Int), .int .i64 0] 53)).alloc (Obj.cells #[.pointer (some ⟨f, 0, none⟩), .int .i64 (room : Int), .int .i64 0] T)) := by
  have h1 := mem_new (w := w) (T := T) (hF.below (recv4 w2 (Obj.cells #[.pointer (some ⟨f, 0, none⟩), .int .i64 (room : Int), .int .i64 0] 53))) hf hb (hB.alloc hB.size _) hl hr
  have hs : (w2.alloc (Obj.cells #[.pointer (some ⟨f, 0, none⟩), .int .i64 (room : Int), .int .i64 0] 53)).heap.size = w2.heap.size + 1 := by simp
  rw [hs] at h1
  exact h1
set_option maxRecDepth 100000 in
set_option maxHeartbeats 1000000 in
theorem newGrowing_good (v : Value) (l : List UInt8) (w : World) (hb : Bys w v l) (hl : l.length ≤ 1048576) :
    Calls Try.prog 10 #[v] w fun e w' => ∃ g, e = .returned (.tuple #[.pointer (some ⟨g, 0, none⟩), .int .i64 0]) ∧ MemAt w' (fun k => w.heap.size ≤ k) g ⟨l, 1048576, 0⟩ ∧ Below w.heap.size w w' := by
  obtain ⟨a1, c1, rfl, -⟩ := bys_form hb
  have HB := hide hb
  clear hb
  go_enter Try.func10, Try.ntmps10
  go_wp2_with fail
  refine (storeOf_good _ l 1048576 w HB.out (by omega) (by omega)).mono ?_
  rintro e w2 ⟨f, b, rfl, k1, k2, kb, k3⟩
  have K1 := hide k1
  clear k1
  go_wp2
  go_ret2
  obtain ⟨q1, q2⟩ := mem_new2 (room := 1048576) (T := 57) K1.out k2 kb k3 (by omega) (by omega)
  exact ⟨_, rfl, q1, q2⟩
set_option maxRecDepth 100000 in
set_option maxHeartbeats 1000000 in
theorem newReader_good (v : Value) (l : List UInt8) (w : World) (hb : Bys w v l) (hl : l.length ≤ 1048576) :
    Calls Try.prog 14 #[v] w fun e w' => ∃ g, e = .returned (.tuple #[.pointer (some ⟨g, 0, none⟩), .int .i64 0]) ∧ MemAt w' (fun k => w.heap.size ≤ k) g ⟨l, l.length, 0⟩ ∧ Below w.heap.size w w' := by
  obtain ⟨a1, c1, rfl, -⟩ := bys_form hb
  have HB := hide hb
  clear hb
  go_enter Try.func14, Try.ntmps14
  go_wp2_with fail
  refine (storeOf_good _ l (l.length : Int) w HB.out (by omega) (by omega)).mono ?_
  rintro e w2 ⟨f, b, rfl, k1, k2, kb, k3⟩
  have K1 := hide k1
  clear k1
  go_wp2
  go_ret2
  obtain ⟨q1, q2⟩ := mem_new2 (room := l.length) (T := 71) K1.out k2 kb k3 (by omega) (by omega)
  exact ⟨_, rfl, q1, q2⟩
set_option maxRecDepth 100000 in
set_option maxHeartbeats 1000000 in
theorem gmread_any (O : Nat → Prop) (g : Nat) (S : MS) (n : Int) (w : World) (h : MemAt w O g S) :
    Calls Try.prog 105 #[.pointer (some ⟨g, 0, none⟩), .int .i64 n] w fun e w' => ∃ v, e = .returned (.tuple #[v, .int .i64 (S.read n).2.1]) ∧ w'.ownsRow w.heap.size 5 1 v (S.read n).1.length ((S.read n).1.map bv) ∧ MemAt w' O g (S.read n).2.2 ∧ Turned O w w' := by
  have HR := hide (sread_any O g S n w h)
  clear h
  go_enter Try.func105, Try.ntmps105
  go_wp2_with fail
  refine HR.out.mono ?_
  rintro e w2 ⟨v, rfl, h1, h2, h3⟩
  have H1 := hide h1
  have H2 := hide h2
  have H3 := hide h3
  clear h1 h2 h3 HR
  go_wp2
  go_ret2
  exact ⟨v, rfl, H1.out, H2.out, H3.out⟩
set_option maxRecDepth 100000 in
set_option maxHeartbeats 1000000 in
theorem gmwrite_any (O : Nat → Prop) (g : Nat) (S : MS) (x : List UInt8) (a : Option Addr) (c : Nat) (w : World) (h : MemAt w O g S) (hx : Bys w (.slice a x.length c) x) (hc : x.length ≤ c) (hap : 0 < x.length → ∀ k, (Value.slice a x.length c).ownBlock = some k → ¬ O k) :
    Calls Try.prog 106 #[.pointer (some ⟨g, 0, none⟩), .slice a x.length c] w fun e w' => e = .returned (.tuple #[.int .i64 (S.write x).1, .int .i64 (S.write x).2.1]) ∧ MStep w O g (S.write x).2.2 w' := by
  have HR := hide (swrite_any O g S x a c w h hx hc hap)
  clear h hx hap
  go_enter Try.func106, Try.ntmps106
  go_wp2_with fail
  refine HR.out.mono ?_
  rintro e w2 ⟨rfl, h1⟩
  have H1 := hide h1
  clear h1 HR
  go_wp2
  go_ret2
  exact ⟨rfl, H1.out⟩
set_option maxRecDepth 100000 in
set_option maxHeartbeats 1000000 in
theorem gmbytes_any (O : Nat → Prop) (g : Nat) (S : MS) (w : World) (h : MemAt w O g S) :
    Calls Try.prog 15 #[.pointer (some ⟨g, 0, none⟩)] w fun e w' => ∃ v, e = .returned v ∧ w'.ownsRow w.heap.size 5 1 v S.l.length (S.l.map bv) ∧ Below w.heap.size w w' := by
  have HR := hide (sall_any O g S w h)
  clear h
  go_enter Try.func15, Try.ntmps15
  go_wp2_with fail
  refine HR.out.mono ?_
  rintro e w2 ⟨v, rfl, h1, h2⟩
  have H1 := hide h1
  clear h1 HR
  go_wp2
  go_ret
  exact ⟨v, rfl, H1.out, h2⟩
set_option maxRecDepth 100000 in
set_option maxHeartbeats 1000000 in
theorem rmread_any (O : Nat → Prop) (g : Nat) (S : MS) (n : Int) (w : World) (h : MemAt w O g S) :
    Calls Try.prog 114 #[.pointer (some ⟨g, 0, none⟩), .int .i64 n] w fun e w' => ∃ v, e = .returned (.tuple #[v, .int .i64 (S.read n).2.1]) ∧ w'.ownsRow w.heap.size 5 1 v (S.read n).1.length ((S.read n).1.map bv) ∧ MemAt w' O g (S.read n).2.2 ∧ Turned O w w' := by
  have HR := hide (sread_any O g S n w h)
  clear h
  go_enter Try.func114, Try.ntmps114
  go_wp2_with fail
  refine HR.out.mono ?_
  rintro e w2 ⟨v, rfl, h1, h2, h3⟩
  have H1 := hide h1
  have H2 := hide h2
  have H3 := hide h3
  clear h1 h2 h3 HR
  go_wp2
  go_ret2
  exact ⟨v, rfl, H1.out, H2.out, H3.out⟩
set_option maxRecDepth 100000 in
set_option maxHeartbeats 1000000 in
theorem rmwrite_any (O : Nat → Prop) (g : Nat) (S : MS) (v : Value) (w : World) (h : MemAt w O g S) :
    Calls Try.prog 115 #[.pointer (some ⟨g, 0, none⟩), v] w fun e w' => e = .returned (.tuple #[.int .i64 0, .int .i64 65]) ∧ w = w' := by
  obtain ⟨f, b, cap, h0, -⟩ := h
  go_enter Try.func115, Try.ntmps115
  go_wp2_with (first | (go_at_call 107; refine (sMade_yes g f _ h0).mono ?_; rintro _ _ ⟨rfl, rfl⟩) | fail)
  go_ret2
  exact ⟨rfl, rfl⟩
end Go.Proofs.Ytgbkhmiphaefgaa

/- A terminal in memory: its lines, its screen, the blocks that are its own. -/
namespace Go.Proofs.Ytgbkhmiphaefgaa
open Go.RowKit

end Go.Proofs.Ytgbkhmiphaefgaa

/- The small functions of terminal: isMade, copied, copiedLines, New, Left, Screen, Copy. -/
namespace Go.Proofs.Ytgbkhmiphaefgaa
open Go.RowKit

theorem Te_made_row {w w1 : World} {T n : Nat} {xs : List Value} (h : w1.ownsRow w.heap.size T 1 (.slice (some ⟨w.heap.size, 0, none⟩) n n) n xs) (hg : w.grownBy w1 none) :
    ∃ cur : List Value, cur.length = n ∧ Hid (w1.heap[w.heap.size]? = some (.cells cur.toArray T (0, 0))) ∧ Below w.heap.size w w1 := by
  refine (?_ : ∃ cur : List Value, cur.length = n ∧ w1.heap[w.heap.size]? = some (.cells cur.toArray T (0, 0)) ∧ Below w.heap.size w w1)
  rcases h.2 with ⟨h0, _⟩ | ⟨g, c, cur, h1, h2, h3, h4, h5, h6, h7⟩
  · cases h0
  · cases h1
    exact ⟨cur.toList, by rw [Array.length_toList]; omega, by rw [Array.toArray_toList]; exact h3, (Below.refl _ w).grown hg (Nat.le_refl _) (fun k e => by cases e)⟩
theorem Te_bys_src {w : World} {a1 : Option Addr} {n c1 : Nat} {l : List UInt8} {X : List Value} (h : Bys w (.slice a1 n c1) l) (hX : X = l.map bv) :
    0 < X.length → ∃ ad, a1 = some ad ∧ ∀ j v, X[j]? = some v → w.cell? (ad.add j) = some v := by
  intro h0
  obtain ⟨a, c, he, hc⟩ := bys_form h
  cases he
  obtain ⟨b, off, rfl, hd⟩ := hc (by rw [hX] at h0; simpa using h0)
  exact ⟨_, rfl, fun j v hj => bys_news hd j v (by rw [← hX]; exact hj)⟩

end Go.Proofs.Ytgbkhmiphaefgaa

/- What retry's texts take of kern's, for a seat that has no kern. -/
namespace Go.Proofs.Ytgbkhmiphaefgaa
open Go.RowKit

theorem recv_below (w : World) (o : Obj) : Below w.heap.size w (w.alloc o) := (Below.refl _ _).alloc (Nat.le_refl _) _
theorem splice_get (L cs : List Value) (off i : Nat) (h : off + cs.length ≤ L.length) : (splice L off cs)[i]? = if i < off then L[i]? else if i < off + cs.length then cs[i - off]? else L[i]? := by
  unfold splice
  split
  · rename_i h1
    rw [List.getElem?_append_left (by simp; omega), List.getElem?_take, if_pos h1]
  · rename_i h1
    rw [List.getElem?_append_right (by simp; omega), List.length_take, Nat.min_eq_left (by omega)]
    split
    · rename_i h2
      rw [List.getElem?_append_left (by omega)]
    · rename_i h2
      rw [List.getElem?_append_right (by omega), List.getElem?_drop]
      congr 1
      omega
end Go.Proofs.Ytgbkhmiphaefgaa

/- Raws, as values and in memory; retry's small functions. -/
namespace Go.Proofs.Ytgbkhmiphaefgaa
open Go.RowKit Go.Maps

structure RawD (S : Type) where
  read : S → Nat → List UInt8 × Int × S
  write : S → List UInt8 → Int × Int × S
structure RawP {S : Type} (D : RawD S) (T : TypeId) (v : Value) (fr fw : FuncId) (rok wok : S → Prop) (At : World → (Nat → Prop) → S → Prop) : Prop where
  mread : ∀ w, (method 240 T v "Read").run Try.prog w = .ok (fr, v) w
  mwrite : ∀ w, (method 240 T v "Write").run Try.prog w = .ok (fw, v) w
  cread : ∀ a w, (callFunc fr a).run Try.prog w = .ok (.enter fr a) w
  cwrite : ∀ a w, (callFunc fw a).run Try.prog w = .ok (.enter fw a) w
  keep : ∀ {w w' : World} {O : Nat → Prop} {s : S}, At w O s → (∀ j, O j → j < w.heap.size → w'.heap[j]? = w.heap[j]?) → w.heap.size ≤ w'.heap.size → At w' O s
  few : ∀ {w : World} {O : Nat → Prop} {s : S} (n : Nat), At w O s → (D.read s n).1.length ≤ 1073741824
  read : ∀ {w : World} {O : Nat → Prop} {s : S} (n : Nat), At w O s → rok s → 1 ≤ n → n ≤ 1048576 → Calls Try.prog fr #[v, .int .i64 n] w fun e w' => ∃ ua uc, e = .returned (.tuple #[.slice ua (D.read s n).1.length uc, .int .i64 (D.read s n).2.1]) ∧ Bys w' (.slice ua (D.read s n).1.length uc) (D.read s n).1 ∧ At w' O (D.read s n).2.2 ∧ Turned O w w'
  write : ∀ {w : World} {O : Nat → Prop} {s : S} (bs : List UInt8) (a : Option Addr) (c : Nat), At w O s → wok s → Bys w (.slice a bs.length c) bs → bs.length ≤ c → 1 ≤ bs.length → bs.length ≤ 1048576 → (∀ k, (Value.slice a bs.length c).ownBlock = some k → ¬ O k) →
    Calls Try.prog fw #[v, .slice a bs.length c] w fun e w' => e = .returned (.tuple #[.int .i64 (D.write s bs).1, .int .i64 (D.write s bs).2.1]) ∧ ∃ O', At w' O' (D.write s bs).2.2 ∧ (∀ k, O' k → O k ∨ w.heap.size ≤ k) ∧ Turned O w w'
structure RawM {S : Type} (D : RawD S) (T : TypeId) (v : Value) (fr fw : FuncId) (rok wok : S → Prop) (At : World → (Nat → Prop) → S → Prop) : Prop where
  rd : (∃ s, rok s) → ∃ vr : Value, (∀ w, (method 240 T v "Read").run Try.prog w = .ok (fr, vr) w) ∧ ∀ {w : World} {O : Nat → Prop} {s : S} (n : Nat), At w O s → rok s → 1 ≤ n → n ≤ 1048576 → Calls Try.prog fr #[vr, .int .i64 n] w fun e w' => ∃ ua uc, e = .returned (.tuple #[.slice ua (D.read s n).1.length uc, .int .i64 (D.read s n).2.1]) ∧ Bys w' (.slice ua (D.read s n).1.length uc) (D.read s n).1 ∧ At w' O (D.read s n).2.2 ∧ Turned O w w'
  mwrite : ∀ w, (method 240 T v "Write").run Try.prog w = .ok (fw, v) w
  cread : ∀ a w, (callFunc fr a).run Try.prog w = .ok (.enter fr a) w
  cwrite : ∀ a w, (callFunc fw a).run Try.prog w = .ok (.enter fw a) w
  keep : ∀ {w w' : World} {O : Nat → Prop} {s : S}, At w O s → (∀ j, O j → j < w.heap.size → w'.heap[j]? = w.heap[j]?) → w.heap.size ≤ w'.heap.size → At w' O s
  few : ∀ {w : World} {O : Nat → Prop} {s : S} (n : Nat), At w O s → (D.read s n).1.length ≤ 1073741824
  write : ∀ {w : World} {O : Nat → Prop} {s : S} (bs : List UInt8) (a : Option Addr) (c : Nat), At w O s → wok s → Bys w (.slice a bs.length c) bs → bs.length ≤ c → 1 ≤ bs.length → bs.length ≤ 1048576 → (∀ k, (Value.slice a bs.length c).ownBlock = some k → ¬ O k) →
    Calls Try.prog fw #[v, .slice a bs.length c] w fun e w' => e = .returned (.tuple #[.int .i64 (D.write s bs).1, .int .i64 (D.write s bs).2.1]) ∧ ∃ O', At w' O' (D.write s bs).2.2 ∧ (∀ k, O' k → O k ∨ w.heap.size ≤ k) ∧ Turned O w w'
theorem RawP.gen {S : Type} {D : RawD S} {T : TypeId} {v : Value} {fr fw : FuncId} {rok wok : S → Prop} {At : World → (Nat → Prop) → S → Prop} (R : RawP D T v fr fw rok wok At) : RawM D T v fr fw rok wok At := ⟨fun _ => ⟨v, R.mread, fun n => R.read n⟩, R.mwrite, R.cread, R.cwrite, R.keep, R.few, R.write⟩
theorem view_own {P : Prop} {w : World} {E : Int} {l : List UInt8} {e : Ending} {w' : World} (h : ∃ u, e = .returned (.tuple #[u, .int .i64 E]) ∧ w'.ownsRow w.heap.size 5 1 u l.length (l.map bv) ∧ P) : ∃ ua uc, e = .returned (.tuple #[.slice ua l.length uc, .int .i64 E]) ∧ Bys w' (.slice ua l.length uc) l ∧ P := by
  obtain ⟨u, rfl, ho, hp⟩ := h
  obtain ⟨ua, uc, rfl⟩ := owns_slice ho
  exact ⟨ua, uc, rfl, Bys.of_owns ho, hp⟩
def RStep {S : Type} (At : World → (Nat → Prop) → S → Prop) (w : World) (O : Nat → Prop) (s : S) (w' : World) : Prop := ∃ O', At w' O' s ∧ (∀ k, O' k → O k ∨ w.heap.size ≤ k) ∧ Turned O w w'
def someV {S : Type} (D : RawD S) (n : Nat) : Nat → S → List UInt8 × Int × S
  | 0, s => ([], 81, s)
  | k + 1, s => if (D.read s n).2.1 = 22 ∨ (D.read s n).2.1 = 23 then someV D n k (D.read s n).2.2
      else if n < (D.read s n).1.length then ([], 82, (D.read s n).2.2)
      else if (D.read s n).2.1 = 0 then ((D.read s n).1, 0, (D.read s n).2.2)
      else ([], (D.read s n).2.1, (D.read s n).2.2)
theorem someV_next {S : Type} (D : RawD S) (n k : Nat) (s : S) {b : List UInt8} {e : Int} {s2 : S} (h : D.read s n = (b, e, s2)) : someV D n (k + 1) s = if e = 22 ∨ e = 23 then someV D n k s2 else if n < b.length then ([], 82, s2) else if e = 0 then (b, 0, s2) else ([], e, s2) := by
  show (if (D.read s n).2.1 = 22 ∨ (D.read s n).2.1 = 23 then someV D n k (D.read s n).2.2 else if n < (D.read s n).1.length then ([], 82, (D.read s n).2.2) else if (D.read s n).2.1 = 0 then ((D.read s n).1, 0, (D.read s n).2.2) else ([], (D.read s n).2.1, (D.read s n).2.2)) = _
  rw [h]
def someOk {S : Type} (D : RawD S) (ok : S → Prop) (n : Nat) : Nat → S → Prop
  | 0, _ => True
  | k + 1, s => ok s ∧ ((D.read s n).2.1 = 22 ∨ (D.read s n).2.1 = 23 → someOk D ok n k (D.read s n).2.2)
def putV {S : Type} (D : RawD S) (bs : List UInt8) : Nat → S → Nat → Nat → Nat × Int × S
  | 0, s, d, _ => (d, 0, s)
  | k + 1, s, d, t => if d < bs.length then
      (if ((D.write s (bs.drop d)).2.1 = 22 ∨ (D.write s (bs.drop d)).2.1 = 23) ∨ ((D.write s (bs.drop d)).1 = 0 ∧ (D.write s (bs.drop d)).2.1 = 0) then
        (if t + 1 = 8192 then (d, 81, (D.write s (bs.drop d)).2.2) else putV D bs k (D.write s (bs.drop d)).2.2 d (t + 1))
       else if (D.write s (bs.drop d)).1 < 0 ∨ ((bs.length - d : Nat) : Int) < (D.write s (bs.drop d)).1 then (d, 82, (D.write s (bs.drop d)).2.2)
       else if (D.write s (bs.drop d)).2.1 = 0 then putV D bs k (D.write s (bs.drop d)).2.2 (d + (D.write s (bs.drop d)).1.toNat) 0
       else (d, (D.write s (bs.drop d)).2.1, (D.write s (bs.drop d)).2.2))
      else (d, 0, s)
def putOk {S : Type} (D : RawD S) (ok : S → Prop) (bs : List UInt8) : Nat → S → Nat → Nat → Prop
  | 0, _, _, _ => True
  | k + 1, s, d, t => d < bs.length → ok s ∧
      (((D.write s (bs.drop d)).2.1 = 22 ∨ (D.write s (bs.drop d)).2.1 = 23) ∨ ((D.write s (bs.drop d)).1 = 0 ∧ (D.write s (bs.drop d)).2.1 = 0) → t + 1 ≠ 8192 → putOk D ok bs k (D.write s (bs.drop d)).2.2 d (t + 1)) ∧
      ((D.write s (bs.drop d)).2.1 = 0 → 1 ≤ (D.write s (bs.drop d)).1 → (D.write s (bs.drop d)).1 ≤ ((bs.length - d : Nat) : Int) → putOk D ok bs k (D.write s (bs.drop d)).2.2 (d + (D.write s (bs.drop d)).1.toNat) 0)
theorem putV_next {S : Type} (D : RawD S) (bs : List UInt8) (k : Nat) (s : S) (d t : Nat) {m e : Int} {s2 : S} (h : D.write s (bs.drop d) = (m, e, s2)) : putV D bs (k + 1) s d t = if d < bs.length then
      (if (e = 22 ∨ e = 23) ∨ (m = 0 ∧ e = 0) then (if t + 1 = 8192 then (d, 81, s2) else putV D bs k s2 d (t + 1))
       else if m < 0 ∨ ((bs.length - d : Nat) : Int) < m then (d, 82, s2)
       else if e = 0 then putV D bs k s2 (d + m.toNat) 0
       else (d, e, s2))
      else (d, 0, s) := by
  show (if d < bs.length then
      (if ((D.write s (bs.drop d)).2.1 = 22 ∨ (D.write s (bs.drop d)).2.1 = 23) ∨ ((D.write s (bs.drop d)).1 = 0 ∧ (D.write s (bs.drop d)).2.1 = 0) then
        (if t + 1 = 8192 then (d, 81, (D.write s (bs.drop d)).2.2) else putV D bs k (D.write s (bs.drop d)).2.2 d (t + 1))
       else if (D.write s (bs.drop d)).1 < 0 ∨ ((bs.length - d : Nat) : Int) < (D.write s (bs.drop d)).1 then (d, 82, (D.write s (bs.drop d)).2.2)
       else if (D.write s (bs.drop d)).2.1 = 0 then putV D bs k (D.write s (bs.drop d)).2.2 (d + (D.write s (bs.drop d)).1.toNat) 0
       else (d, (D.write s (bs.drop d)).2.1, (D.write s (bs.drop d)).2.2))
      else (d, 0, s)) = _
  rw [h]
theorem putV_done {S : Type} (D : RawD S) (bs : List UInt8) (k : Nat) (s : S) (d t : Nat) (h : ¬ d < bs.length) : putV D bs k s d t = (d, 0, s) := by
  cases k with
  | zero => rfl
  | succ k => unfold putV; rw [if_neg h]
theorem putOk_next {S : Type} (D : RawD S) (ok : S → Prop) (bs : List UInt8) (k : Nat) (s : S) (d t : Nat) {m e : Int} {s2 : S} (h : D.write s (bs.drop d) = (m, e, s2)) (hd : d < bs.length) (hp : putOk D ok bs (k + 1) s d t) : ok s ∧ ((e = 22 ∨ e = 23) ∨ (m = 0 ∧ e = 0) → t + 1 ≠ 8192 → putOk D ok bs k s2 d (t + 1)) ∧ (e = 0 → 1 ≤ m → m ≤ ((bs.length - d : Nat) : Int) → putOk D ok bs k s2 (d + m.toNat) 0) := by
  have h2 := hp hd
  rw [h] at h2
  exact h2
def putF (bs : List UInt8) : Nat := bs.length * 8192 + 8192
theorem isTry_yes (e : Int) (w : World) (h : e = 22 ∨ e = 23) : Calls Try.prog 80 #[.int .i64 e] w fun r w' => r = .returned (.bool true) ∧ w = w' := by
  rcases h with rfl | rfl
  all_goals
    go_enter Try.func80, Try.ntmps80
    go_wp2
    go_ret
    exact ⟨rfl, rfl⟩
theorem isTry_no (e : Int) (w : World) (h : ¬ (e = 22 ∨ e = 23)) : Calls Try.prog 80 #[.int .i64 e] w fun r w' => r = .returned (.bool false) ∧ w = w' := by
  have h1 : ¬ e = 22 := fun x => h (.inl x)
  have h2 : ¬ e = 23 := fun x => h (.inr x)
  have h3 : (e == 22) = false := by simp [h1]
  have h4 : (e == 23) = false := by simp [h2]
  go_enter Try.func80, Try.ntmps80
  go_wp2
  go_ret
  exact ⟨rfl, rfl⟩
theorem readable_yes (T : TypeId) (v : Value) (n : Int) (w : World) (h1 : 1 ≤ n) (h2 : n ≤ 1048576) : Calls Try.prog 89 #[.iface T v, .int .i64 n] w fun r w' => r = .returned (.int .i64 0) ∧ w = w' := by
  have h3 : ¬ n < 1 := by omega
  have h4 : ¬ 1048576 < n := by omega
  go_enter Try.func89, Try.ntmps89
  go_wp2
  go_ret
  exact ⟨rfl, rfl⟩
set_option maxRecDepth 100000 in
set_option maxHeartbeats 1000000 in
theorem bclone_any (v : Value) (l : List UInt8) (w : World) (h : Bys w v l) (hs : l.length ≤ 140737488351232) :
    Calls Try.prog 35 #[v] w fun e w' => ∃ u, e = .returned u ∧ w'.ownsRow w.heap.size 5 1 u l.length (l.map bv) ∧ Below w.heap.size w w' := by
  have hmade : (w.alloc (Obj.cells #[] 5)).ownsRow w.heap.size 5 1 (.slice (some ⟨w.heap.size, 0, none⟩) 0 0) ([] : List UInt8).length (([] : List UInt8).map bv) := World.ownsRow_made _ _ _ (Nat.le_refl _) (by decide) rfl
  have hB := recv_below w (Obj.cells #[] 5)
  obtain ⟨s', w1, hrun, HO, hg, hb⟩ := run_append_bytes (w.alloc (Obj.cells #[] 5)) 30 w.heap.size _ v [] l hmade (h.below hB) (by simpa using hs) hB.size
  have HR := hide hrun
  have HB : Hid (Below w.heap.size w w1) := hide (hB.grown hg hB.size (fun j e => by
    have : w.heap.size = j := by simpa [Value.ownBlock] using e
    omega))
  rcases h with ⟨rfl, rfl⟩ | ⟨a, cap, rfl, rfl⟩ | ⟨b, off, cap, rfl, h0, -⟩
  · have hnil : ∀ W, (binOp .eql 30 (.slice none 0 0) (.slice none 0 0)).run Try.prog W = .ok (.bool true) W := fun W => Lib.run_eql_slice_nil_nil W _ _ Try.underlying30
    go_enter Try.func35, Try.ntmps35
    go_wp2
    go_ret
    exact ⟨_, rfl, World.ownsRow_nil _ _ _ _, Below.refl _ _⟩
  · have hnil : ∀ W, (binOp .eql 30 (.slice (some a) 0 cap) (.slice none 0 0)).run Try.prog W = .ok (.bool false) W := fun W => Lib.run_eql_slice_some_nil W _ _ _ Try.underlying30
    clear hrun hg hb hmade hB
    go_enter Try.func35, Try.ntmps35
    go_wp2_with (at_builtin; refine Lib.wpList_append_run _ rfl _ _ _ _ rfl _ _ rfl rfl _ _ HR.out ?_)
    go_ret
    exact ⟨_, rfl, HO.out, HB.out⟩
  · have hnil : ∀ W, (binOp .eql 30 (.slice (some ⟨b, off, none⟩) l.length cap) (.slice none 0 0)).run Try.prog W = .ok (.bool false) W := fun W => Lib.run_eql_slice_some_nil W _ _ _ Try.underlying30
    clear hrun hg hb hmade hB
    go_enter Try.func35, Try.ntmps35
    go_wp2_with (at_builtin; refine Lib.wpList_append_run _ rfl _ _ _ _ rfl _ _ rfl rfl _ _ HR.out ?_)
    go_ret
    exact ⟨_, rfl, HO.out, HB.out⟩
end Go.Proofs.Ytgbkhmiphaefgaa

/- Some, over any Raw. -/
namespace Go.Proofs.Ytgbkhmiphaefgaa
open Go.RowKit Go.Maps

set_option maxRecDepth 100000 in
set_option maxHeartbeats 4000000 in
theorem some_any {S : Type} {D : RawD S} {T : TypeId} {v : Value} {fr fw : FuncId} {rok wok : S → Prop} {At : World → (Nat → Prop) → S → Prop} (R : RawM D T v fr fw rok wok At) {w : World} {O : Nat → Prop} {s : S} (n : Nat) (h : At w O s) (h1 : 1 ≤ n) (h2 : n ≤ 1048576) (hok : someOk D rok n 8192 s) :
    Calls Try.prog 88 #[.iface T v, .int .i64 n] w fun e w' => ∃ u, e = .returned (.tuple #[u, .int .i64 (someV D n 8192 s).2.1]) ∧ w'.ownsRow w.heap.size 5 1 u (someV D n 8192 s).1.length ((someV D n 8192 s).1.map bv) ∧ At w' O (someV D n 8192 s).2.2 ∧ Turned O w w' := by
  have hok1 : someOk D rok n (8191 + 1) s := hok
  obtain ⟨vr, hm, hrd0⟩ := R.rd ⟨s, hok1.1⟩
  clear hok1
  have HRd0 := hide (fun (w : World) (O : Nat → Prop) (s : S) (n : Nat) => @hrd0 w O s n)
  clear hrd0
  have hcr := R.cread
  have HA := hide h
  have HOk := hide hok
  have HR := hide R
  clear h hok R
  go_enter Try.func88, Try.ntmps88
  go_wp2_with (first | (go_at_call 89; refine (readable_yes T v n _ (by omega) (by omega)).mono ?_; rintro _ _ ⟨rfl, rfl⟩) | fail)
  obtain ⟨tr, htr⟩ : ∃ tr, tr = 8192 := ⟨_, rfl⟩
  have HTr := hide htr
  clear htr
  go_loopw [15] (fun i wr => ∃ (k : Nat) (s' : S), i = .int .i64 k ∧ k ≤ 8192 ∧ Hid (At wr O s') ∧ Hid (someOk D rok n (tr - k) s' ∧ someV D n (tr - k) s' = someV D n 8192 s) ∧ Hid (Turned O w wr) ∧ w.heap.size ≤ wr.heap.size) (fun i _ => 8192 - (intOf i).toNat)
  case atStart => exact ⟨0, s, rfl, Nat.zero_le _, HA, hide (by rw [HTr.out]; exact ⟨HOk.out, rfl⟩), hide (Turned.of_below (Below.refl _ _)), Nat.le_refl _⟩
  case round =>
    obtain ⟨k, s', rfl, hk, HAt, HV, HT, hsz⟩ := hrel
    clear HA HOk
    by_cases hlt : k < 8192
    case neg =>
      have hke : k = 8192 := by omega
      have HE : Hid (someV D n 8192 s = ([], 81, s')) := hide (by
        have := HV.out.2
        rw [show tr - k = 0 by have := HTr.out; omega] at this
        exact this.symm)
      have hlt' : ¬ (k : Int) < 8192 := by omega
      clear HV hke hlt
      go_wp2_with fail
      go_ret2
      rw [HE.out]
      exact ⟨_, rfl, World.ownsRow_nil _ _ _ _, HAt.out, HT.out⟩
    have hlt' : (k : Int) < 8192 := by omega
    obtain ⟨j, hj⟩ : ∃ j, tr - k = j + 1 := ⟨tr - k - 1, by have := HTr.out; omega⟩
    rw [hj] at HV
    have HRd := hide (HRd0.out _ _ _ n HAt.out HV.out.1.1 h1 h2)
    have hfew := HR.out.few n HAt.out
    obtain ⟨b, e, s2, hd⟩ : ∃ b e s2, D.read s' n = (b, e, s2) := ⟨_, _, _, rfl⟩
    rw [hd] at HRd hfew
    simp only at HRd hfew
    have hV1 : e = 22 ∨ e = 23 → someOk D rok n j s2 := by have := HV.out.1.2; rw [hd] at this; exact this
    have hV2 := HV.out.2
    rw [someV_next D n j s' hd] at hV2
    have HV1 := hide hV1
    have HJ := hide hj
    clear HV hd hj hV1
    by_cases ht : e = 22 ∨ e = 23
    · rw [if_pos ht] at hV2
      have HV2 := hide hV2
      have HV3 := hide (HV1.out ht)
      have HTt := hide ht
      clear hV2 ht
      go_wp2_with fail
      refine HRd.out.mono ?_
      rintro _ w1 ⟨ua, uc, rfl, hO1, hA1, hT1⟩
      have HA1 := hide hA1
      have HT1 := hide (HT.out.trans hT1 (fun _ _ e => e))
      have hs1 : w.heap.size ≤ w1.heap.size := Nat.le_trans hsz hT1.size
      clear hO1 hA1 hT1
      go_wp2_with (first | (go_at_call 80; refine (isTry_yes _ _ HTt.out).mono ?_; rintro _ _ ⟨rfl, rfl⟩) | fail)
      go_roundw
      case rel => exact ⟨k + 1, s2, by go_num, by omega, HA1, hide (by rw [show tr - (k + 1) = j by have := HJ.out; omega]; exact ⟨HV3.out, HV2.out⟩), HT1, hs1⟩
      case measure => simp [intOf]; omega
    · rw [if_neg ht] at hV2
      have HTt := hide ht
      clear ht HV1
      by_cases hn : n < b.length
      · rw [if_pos hn] at hV2
        have HV2 := hide hV2
        have hn' : (n : Int) < (b.length : Int) := by omega
        clear hV2 hn
        go_wp2_with fail
        refine HRd.out.mono ?_
        rintro _ w1 ⟨ua, uc, rfl, hO1, hA1, hT1⟩
        have HA1 := hide hA1
        have HT1 := hide (HT.out.trans hT1 (fun _ _ e => e))
        clear hO1 hA1 hT1
        go_wp2_with (first | (go_at_call 80; refine (isTry_no _ _ HTt.out).mono ?_; rintro _ _ ⟨rfl, rfl⟩) | fail)
        go_ret2
        rw [← HV2.out]
        exact ⟨_, rfl, World.ownsRow_nil _ _ _ _, HA1.out, HT1.out⟩
      rw [if_neg hn] at hV2
      have hn' : ¬ (n : Int) < (b.length : Int) := by omega
      by_cases he : e = 0
      · subst he
        rw [if_pos rfl] at hV2
        have HV2 := hide hV2
        clear hV2 hn
        go_wp2_with fail
        refine HRd.out.mono ?_
        rintro _ w1 ⟨ua, uc, rfl, hO1, hA1, hT1⟩
        have HC := hide (bclone_any (.slice ua b.length uc) b w1 hO1 (by omega))
        have HA1 := hide hA1
        have HT1 := hide (HT.out.trans hT1 (fun _ _ e => e))
        clear hO1 hA1 hT1
        go_wp2_with (first | (go_at_call 80; refine (isTry_no _ _ HTt.out).mono ?_; rintro _ _ ⟨rfl, rfl⟩) | fail)
        refine HC.out.mono ?_
        rintro _ w2 ⟨u2, rfl, hO2, hB2⟩
        have HA2 := hide (HR.out.keep HA1.out (fun j _ hj => hB2.block j hj) hB2.size)
        have HT2 := hide (HT1.out.trans (Turned.of_below hB2) (fun _ _ e => e))
        have HO2 := hide (owns_mono hO2 HT1.out.size)
        clear hO2 hB2
        go_wp2
        go_ret2
        rw [← HV2.out]
        exact ⟨_, rfl, HO2.out, HA2.out, HT2.out⟩
      · rw [if_neg he] at hV2
        have HV2 := hide hV2
        have he2 : (e != 0) = true := by simp [he]
        have he3 : (e == 0) = false := by simp [he]
        clear hV2 hn
        go_wp2_with fail
        refine HRd.out.mono ?_
        rintro _ w1 ⟨ua, uc, rfl, hO1, hA1, hT1⟩
        have HA1 := hide hA1
        have HT1 := hide (HT.out.trans hT1 (fun _ _ e => e))
        clear hO1 hA1 hT1
        go_wp2_with (first | (go_at_call 80; refine (isTry_no _ _ HTt.out).mono ?_; rintro _ _ ⟨rfl, rfl⟩) | fail)
        go_ret2
        rw [← HV2.out]
        exact ⟨_, rfl, World.ownsRow_nil _ _ _ _, HA1.out, HT1.out⟩
end Go.Proofs.Ytgbkhmiphaefgaa

/- Put, over any Raw. -/
namespace Go.Proofs.Ytgbkhmiphaefgaa
open Go.RowKit Go.Maps

theorem spliced_bys {W : World} {g d cap : Nat} {cur : List Value} {l : List UInt8} (hW : W.heap[g]? = some (.cells (splice cur d (l.map bv)).toArray 5 (0, 0))) (hf : d + l.length ≤ cur.length) (h0 : 0 < l.length) : Bys W (.slice (some ⟨g, d, none⟩) l.length cap) l := by
  refine .inr (.inr ⟨g, d, cap, rfl, h0, fun j hj => ?_⟩)
  rw [cell_of_row _ _ _ _ _ _ hW, List.getElem?_toArray, splice_get _ _ _ _ (by simpa using hf), if_neg (by omega), if_pos (by rw [List.length_map]; omega), Nat.add_sub_cancel_left]
  simp [hj, bv]
set_option maxRecDepth 100000 in
set_option maxHeartbeats 4000000 in
theorem rput_any {S : Type} {D : RawD S} {T : TypeId} {v : Value} {fr fw : FuncId} {rok wok : S → Prop} {At : World → (Nat → Prop) → S → Prop} (R : RawM D T v fr fw rok wok At) {w : World} {O : Nat → Prop} {s : S} (bs : List UInt8) (ba : Option Addr) (bc : Nat) (h : At w O s) (hO : ∀ j, O j → j < w.heap.size) (hb : Bys w (.slice ba bs.length bc) bs) (hcap : bs.length ≤ bc) (h2 : bs.length ≤ 1048576) (hap : 0 < bs.length → ∀ k, (Value.slice ba bs.length bc).ownBlock = some k → ¬ O k) (hok : putOk D wok bs (putF bs) s 0 0) :
    Calls Try.prog 55 #[.iface T v, .slice ba bs.length bc] w fun e w' => e = .returned (.tuple #[.int .i64 (putV D bs (putF bs) s 0 0).1, .int .i64 (putV D bs (putF bs) s 0 0).2.1]) ∧ RStep At w O (putV D bs (putF bs) s 0 0).2.2 w' := by
  obtain ⟨i0, hi, hz0, hz1, hz2⟩ := info_parts Try.infoB
  have hm := R.mwrite
  have hcr := R.cwrite
  have HA := hide h
  have HOk := hide hok
  have HR := hide R
  have HOl := hide hO
  have HBb := hide hb
  have HAp := hide hap
  have hn1 : ¬ (1048576 : Int) < (bs.length : Int) := by omega
  clear h hok R hO hb hap
  obtain ⟨F, hF⟩ : ∃ F, F = putF bs := ⟨_, rfl⟩
  have HF := hide hF
  rw [← hF] at HOk ⊢
  clear hF
  go_enter Try.func55, Try.ntmps55
  go_wp2_with (at_make; refine wpList_make_full _ rfl _ _ 30 rfl w.heap.size 5 i0 (.int .u8 0) 1 Try.underlying30 hi hz0 hz1 _ _ _ _ bs.length rfl rfl rfl rfl (by rw [hz2]; omega) (by unfold maxLen; omega) (Nat.le_refl _) ?_; intro w1 hown1 hgrow1; obtain ⟨cur, hcl, HRw, hB1⟩ := Te_made_row hown1 hgrow1; clear hown1 hgrow1)
  have hs1 : w.heap.size < w1.heap.size := (Array.getElem?_eq_some_iff.1 HRw.out).1
  have HB1 := hide hB1
  have HRw0 : Hid (∃ cur : List Value, w1.heap[w.heap.size]? = some (.cells cur.toArray 5 (0, 0)) ∧ cur.length = bs.length) := hide ⟨cur, HRw.out, hcl⟩
  clear HRw hB1 hcl
  go_loopw [7, 8] (fun tv rv wr => ∃ (k d t : Nat) (s' : S), tv = .int .i64 d ∧ rv = .int .i64 t ∧ d ≤ bs.length ∧ t < 8192 ∧ (bs.length - d) * 8192 + (8192 - t) ≤ k ∧ Hid (∃ O', At wr O' s' ∧ ∀ j, O' j → O j ∨ w1.heap.size ≤ j) ∧ Hid (∃ cur : List Value, wr.heap[w.heap.size]? = some (.cells cur.toArray 5 (0, 0)) ∧ cur.length = bs.length) ∧ Hid (putOk D wok bs k s' d t ∧ putV D bs k s' d t = putV D bs F s 0 0) ∧ Hid (Turned O w wr) ∧ w1.heap.size ≤ wr.heap.size) (fun tv rv _ => (bs.length - (intOf tv).toNat) * 8192 + (8192 - (intOf rv).toNat))
  case atStart => exact ⟨F, 0, 0, s, rfl, rfl, Nat.zero_le _, by omega, by rw [HF.out]; unfold putF; omega, hide ⟨O, HR.out.keep HA.out (fun j _ hj => HB1.out.block j hj) HB1.out.size, fun _ e => .inl e⟩, HRw0, hide ⟨HOk.out, rfl⟩, hide (Turned.of_below HB1.out), Nat.le_refl _⟩
  case round =>
    obtain ⟨k, d, t, s', rfl, rfl, hd, ht, hk, HAt, HRw, HV, HT, hsz⟩ := hrel
    clear HA HOk HRw0
    by_cases hlt : d < bs.length
    case neg =>
      have HE : Hid (putV D bs F s 0 0 = (d, 0, s')) := hide (by rw [← HV.out.2]; exact putV_done D bs k s' d t hlt)
      have hlt' : ¬ (d : Int) < (bs.length : Int) := by omega
      clear HV hlt
      go_wp2_with fail
      go_ret2
      rw [HE.out]
      obtain ⟨O', hA', hO'⟩ := HAt.out
      exact ⟨rfl, O', hA', fun j e => (hO' j e).imp id (fun e => by omega), HT.out⟩
    have hlt' : (d : Int) < (bs.length : Int) := by omega
    have hq0 : (0 : Int) ≤ (d : Int) := by omega
    have hq1 : (d : Int) ≤ (bs.length : Int) := by omega
    have hq2 : (bs.length : Int) ≤ (bc : Int) := by omega
    have hq3 : (d : Int) < (bc : Int) := by omega
    have hq4 : ¬ bc = d := by omega
    have hq5 : ¬ bs.length = d := by omega
    obtain ⟨-, xb, xo, rfl, hxb, -⟩ := bys_block HBb.out (by omega)
    obtain ⟨O', hA', hO'⟩ := HAt.out
    obtain ⟨cur, hcu, hcl⟩ := HRw.out
    have hbd : Bys wr (.slice (some ⟨xb, xo + d, none⟩) (bs.length - d) (bc - d)) (bs.drop d) := by
      have := bys_cut (HBb.out.turned HT.out (fun k hk _ => HAp.out (by omega) k hk)) d (bs.length - d) (bc - d) (by omega)
      rw [List.take_of_length_le (by rw [List.length_drop]; exact Nat.le_refl _)] at this
      exact this
    have hdl : (bs.drop d).length = bs.length - d := List.length_drop
    obtain ⟨w2, hrun, HG2, hgr2⟩ := run_copy wr 3 (some ⟨w.heap.size, d, none⟩) (some ⟨xb, xo + d, none⟩) (bs.length - d) (bs.length - d) (bs.length - d) (bc - d) w.heap.size d cur hcu ((bs.drop d).map bv) (by rw [List.length_map, hdl]; simp) (fun h0 => ⟨rfl, Te_bys_src hbd rfl h0⟩) (by rw [List.length_map, hdl]; omega) (bys_one _)
    rw [List.length_map, hdl] at hrun
    have hbs2 : Bys w2 (.slice (some ⟨w.heap.size, d, none⟩) (bs.drop d).length (bs.length - d)) (bs.drop d) := spliced_bys HG2.out (by rw [hdl]; omega) (by rw [hdl]; omega)
    obtain ⟨j, rfl⟩ : ∃ j, k = j + 1 := ⟨k - 1, by omega⟩
    obtain ⟨m, e, s2, hw⟩ : ∃ m e s2, D.write s' (bs.drop d) = (m, e, s2) := ⟨_, _, _, rfl⟩
    obtain ⟨hV0, hV1, hV3⟩ := putOk_next D wok bs j s' d t hw hlt HV.out.1
    have hgO : ¬ O' w.heap.size := fun e => by
      rcases hO' _ e with e | e
      · have := HOl.out _ e; omega
      · omega
    have HW := hide (HR.out.write (w := w2) (bs.drop d) (some ⟨w.heap.size, d, none⟩) (bs.length - d) (HR.out.keep hA' (fun i hi hl => hgr2.block i hl (fun e => by cases e; exact hgO hi)) hgr2.size) hV0 hbs2 (by rw [hdl]; exact Nat.le_refl _) (by rw [hdl]; omega) (by rw [hdl]; omega) (fun i hi => by
      have : w.heap.size = i := by simpa [Value.ownBlock] using hi
      exact this ▸ hgO))
    rw [hw, hdl] at HW
    simp only at HW
    have hV2 := HV.out.2
    rw [putV_next D bs j s' d t hw, if_pos hlt] at hV2
    have HRw2 : Hid (∃ cur : List Value, w2.heap[w.heap.size]? = some (.cells cur.toArray 5 (0, 0)) ∧ cur.length = bs.length) := hide ⟨_, HG2.out, by rw [length_splice _ _ _ (by rw [List.length_map, hdl]; omega)]; exact hcl⟩
    have HT2 : Hid (Turned O w w2) := hide (HT.out.grown hgr2 (fun k e => .inr (by cases e; exact Nat.le_refl _)))
    have hs2 : w1.heap.size ≤ w2.heap.size := by have := hgr2.size; omega
    have HO' := hide hO'
    have HgO := hide hgO
    have HV1 := hide hV1
    have HV3 := hide hV3
    have hsub : (bs.length : Int) - (d : Int) = ((bs.length - d : Nat) : Int) := by omega
    clear HV hw hV0 hV1 hV3 hbs2 hbd hcu hcl hA' hO' hgO hgr2 HG2 HAt HRw hxb
    have hEE : ∀ x : Nat, ¬ ((8192 : Int) = (x : Int)) → True := fun _ _ => trivial
    clear hEE
    by_cases htry : (e = 22 ∨ e = 23) ∨ (m = 0 ∧ e = 0)
    · rw [if_pos htry] at hV2
      by_cases ht1 : t + 1 = 8192
      · rw [if_pos ht1] at hV2
        have HV2 := hide hV2
        obtain rfl : t = 8191 := by omega
        clear hV2 HV1 HV3 ht1
        by_cases hey : e = 22 ∨ e = 23
        · have HTt := hide hey
          clear htry hey
          go_wp2_with fail
          refine HW.out.mono ?_
          rintro _ w3 ⟨rfl, O3, hA3, hO3, hT3⟩
          have HA3 : Hid (∃ O', At w3 O' s2 ∧ ∀ j, O' j → O j ∨ w1.heap.size ≤ j) := hide ⟨O3, hA3, fun i e => (hO3 i e).elim (fun e => HO'.out i e) (fun e => .inr (by omega))⟩
          have HRw3 : Hid (∃ cur : List Value, w3.heap[w.heap.size]? = some (.cells cur.toArray 5 (0, 0)) ∧ cur.length = bs.length) := hide (by
            obtain ⟨c, hc, hl⟩ := HRw2.out
            exact ⟨c, (hT3.block _ (by omega) HgO.out).trans hc, hl⟩)
          have HT3 : Hid (Turned O w w3) := hide (HT2.out.trans hT3 (fun i hi e => (HO'.out i e).resolve_right (by omega)))
          have hs3 : w1.heap.size ≤ w3.heap.size := by have := hT3.size; omega
          clear hA3 hO3 hT3
          go_wp2_with (first | (go_at_call 80; refine (isTry_yes _ _ HTt.out).mono ?_; rintro _ _ ⟨rfl, rfl⟩) | fail)
          go_ret2
          rw [← HV2.out]
          obtain ⟨O', hA', hO'⟩ := HA3.out
          exact ⟨rfl, O', hA', fun i e => (hO' i e).imp id (fun e => by omega), HT3.out⟩
        · obtain ⟨rfl, rfl⟩ : m = 0 ∧ e = 0 := htry.resolve_left hey
          have HTt := hide hey
          clear htry hey
          go_wp2_with fail
          refine HW.out.mono ?_
          rintro _ w3 ⟨rfl, O3, hA3, hO3, hT3⟩
          have HA3 : Hid (∃ O', At w3 O' s2 ∧ ∀ j, O' j → O j ∨ w1.heap.size ≤ j) := hide ⟨O3, hA3, fun i e => (hO3 i e).elim (fun e => HO'.out i e) (fun e => .inr (by omega))⟩
          have HRw3 : Hid (∃ cur : List Value, w3.heap[w.heap.size]? = some (.cells cur.toArray 5 (0, 0)) ∧ cur.length = bs.length) := hide (by
            obtain ⟨c, hc, hl⟩ := HRw2.out
            exact ⟨c, (hT3.block _ (by omega) HgO.out).trans hc, hl⟩)
          have HT3 : Hid (Turned O w w3) := hide (HT2.out.trans hT3 (fun i hi e => (HO'.out i e).resolve_right (by omega)))
          have hs3 : w1.heap.size ≤ w3.heap.size := by have := hT3.size; omega
          clear hA3 hO3 hT3
          go_wp2_with (first | (go_at_call 80; refine (isTry_no _ _ HTt.out).mono ?_; rintro _ _ ⟨rfl, rfl⟩) | fail)
          go_ret2
          rw [← HV2.out]
          obtain ⟨O', hA', hO'⟩ := HA3.out
          exact ⟨rfl, O', hA', fun i e => (hO' i e).imp id (fun e => by omega), HT3.out⟩
      · rw [if_neg ht1] at hV2
        have HV2 := hide hV2
        have HV4 := hide (HV1.out htry ht1)
        have htt : ¬ (t : Int) + 1 = 8192 := by omega
        have htu : ((t : Int) + 1 == 8192) = false := by simp; omega
        clear hV2 HV1 HV3
        by_cases hey : e = 22 ∨ e = 23
        · have HTt := hide hey
          clear htry hey
          go_wp2_with fail
          refine HW.out.mono ?_
          rintro _ w3 ⟨rfl, O3, hA3, hO3, hT3⟩
          have HA3 : Hid (∃ O', At w3 O' s2 ∧ ∀ j, O' j → O j ∨ w1.heap.size ≤ j) := hide ⟨O3, hA3, fun i e => (hO3 i e).elim (fun e => HO'.out i e) (fun e => .inr (by omega))⟩
          have HRw3 : Hid (∃ cur : List Value, w3.heap[w.heap.size]? = some (.cells cur.toArray 5 (0, 0)) ∧ cur.length = bs.length) := hide (by
            obtain ⟨c, hc, hl⟩ := HRw2.out
            exact ⟨c, (hT3.block _ (by omega) HgO.out).trans hc, hl⟩)
          have HT3 : Hid (Turned O w w3) := hide (HT2.out.trans hT3 (fun i hi e => (HO'.out i e).resolve_right (by omega)))
          have hs3 : w1.heap.size ≤ w3.heap.size := by have := hT3.size; omega
          clear hA3 hO3 hT3
          go_wp2_with (first | (go_at_call 80; refine (isTry_yes _ _ HTt.out).mono ?_; rintro _ _ ⟨rfl, rfl⟩) | fail)
          go_roundw
          case rel => exact ⟨j, d, t + 1, s2, rfl, by go_num, by omega, by omega, by omega, HA3, HRw3, hide ⟨HV4.out, HV2.out⟩, HT3, hs3⟩
          case measure => simp [intOf]; omega
        · obtain ⟨rfl, rfl⟩ : m = 0 ∧ e = 0 := htry.resolve_left hey
          have HTt := hide hey
          clear htry hey
          go_wp2_with fail
          refine HW.out.mono ?_
          rintro _ w3 ⟨rfl, O3, hA3, hO3, hT3⟩
          have HA3 : Hid (∃ O', At w3 O' s2 ∧ ∀ j, O' j → O j ∨ w1.heap.size ≤ j) := hide ⟨O3, hA3, fun i e => (hO3 i e).elim (fun e => HO'.out i e) (fun e => .inr (by omega))⟩
          have HRw3 : Hid (∃ cur : List Value, w3.heap[w.heap.size]? = some (.cells cur.toArray 5 (0, 0)) ∧ cur.length = bs.length) := hide (by
            obtain ⟨c, hc, hl⟩ := HRw2.out
            exact ⟨c, (hT3.block _ (by omega) HgO.out).trans hc, hl⟩)
          have HT3 : Hid (Turned O w w3) := hide (HT2.out.trans hT3 (fun i hi e => (HO'.out i e).resolve_right (by omega)))
          have hs3 : w1.heap.size ≤ w3.heap.size := by have := hT3.size; omega
          clear hA3 hO3 hT3
          go_wp2_with (first | (go_at_call 80; refine (isTry_no _ _ HTt.out).mono ?_; rintro _ _ ⟨rfl, rfl⟩) | fail)
          go_roundw
          case rel => exact ⟨j, d, t + 1, s2, rfl, by go_num, by omega, by omega, by omega, HA3, HRw3, hide ⟨HV4.out, HV2.out⟩, HT3, hs3⟩
          case measure => simp [intOf]; omega
    rw [if_neg htry] at hV2
    have HTt : Hid (¬ (e = 22 ∨ e = 23)) := hide (fun h => htry (.inl h))
    have hme : ¬ (m = 0 ∧ e = 0) := fun h => htry (.inr h)
    clear htry HV1
    by_cases hraw : m < 0 ∨ ((bs.length - d : Nat) : Int) < m
    · rw [if_pos hraw] at hV2
      have HV2 := hide hV2
      clear hV2 HV3 hme
      have hm0 : ¬ m = 0 := by omega
      have hm1 : (m == 0) = false := by simp [hm0]
      have hr2 : m < 0 ∨ (¬ m < 0 ∧ ((bs.length - d : Nat) : Int) < m) := by omega
      clear hraw
      rcases hr2 with hr2 | ⟨hr2, hr3⟩
      all_goals
        go_wp2_with fail
        refine HW.out.mono ?_
        rintro _ w3 ⟨rfl, O3, hA3, hO3, hT3⟩
        have HA3 : Hid (∃ O', At w3 O' s2 ∧ ∀ j, O' j → O j ∨ w1.heap.size ≤ j) := hide ⟨O3, hA3, fun i e => (hO3 i e).elim (fun e => HO'.out i e) (fun e => .inr (by omega))⟩
        have HRw3 : Hid (∃ cur : List Value, w3.heap[w.heap.size]? = some (.cells cur.toArray 5 (0, 0)) ∧ cur.length = bs.length) := hide (by
          obtain ⟨c, hc, hl⟩ := HRw2.out
          exact ⟨c, (hT3.block _ (by omega) HgO.out).trans hc, hl⟩)
        have HT3 : Hid (Turned O w w3) := hide (HT2.out.trans hT3 (fun i hi e => (HO'.out i e).resolve_right (by omega)))
        have hs3 : w1.heap.size ≤ w3.heap.size := by have := hT3.size; omega
        clear hA3 hO3 hT3
        go_wp2_with (first | (go_at_call 80; refine (isTry_no _ _ HTt.out).mono ?_; rintro _ _ ⟨rfl, rfl⟩) | fail)
        go_ret2
        rw [← HV2.out]
        obtain ⟨O', hA', hO'⟩ := HA3.out
        exact ⟨rfl, O', hA', fun i e => (hO' i e).imp id (fun e => by omega), HT3.out⟩
    rw [if_neg hraw] at hV2
    have hr1 : ¬ m < 0 := fun h => hraw (.inl h)
    have hr2 : ¬ ((bs.length - d : Nat) : Int) < m := fun h => hraw (.inr h)
    clear hraw
    by_cases he : e = 0
    · subst he
      rw [if_pos rfl] at hV2
      have hm0 : ¬ m = 0 := fun h => hme ⟨h, rfl⟩
      have hm1 : (m == 0) = false := by simp [hm0]
      have HV2 := hide hV2
      have HV4 := hide (HV3.out rfl (by omega) (by omega))
      obtain ⟨q, rfl⟩ : ∃ q : Nat, m = (q : Int) := ⟨m.toNat, by omega⟩
      rw [Int.toNat_natCast] at HV2 HV4
      have hq6 : q ≤ bs.length - d := by omega
      have hq7 : 1 ≤ q := by omega
      clear hV2 HV3 hme
      go_wp2_with fail
      refine HW.out.mono ?_
      rintro _ w3 ⟨rfl, O3, hA3, hO3, hT3⟩
      have HA3 : Hid (∃ O', At w3 O' s2 ∧ ∀ j, O' j → O j ∨ w1.heap.size ≤ j) := hide ⟨O3, hA3, fun i e => (hO3 i e).elim (fun e => HO'.out i e) (fun e => .inr (by omega))⟩
      have HRw3 : Hid (∃ cur : List Value, w3.heap[w.heap.size]? = some (.cells cur.toArray 5 (0, 0)) ∧ cur.length = bs.length) := hide (by
        obtain ⟨c, hc, hl⟩ := HRw2.out
        exact ⟨c, (hT3.block _ (by omega) HgO.out).trans hc, hl⟩)
      have HT3 : Hid (Turned O w w3) := hide (HT2.out.trans hT3 (fun i hi e => (HO'.out i e).resolve_right (by omega)))
      have hs3 : w1.heap.size ≤ w3.heap.size := by have := hT3.size; omega
      clear hA3 hO3 hT3
      go_wp2_with (first | (go_at_call 80; refine (isTry_no _ _ HTt.out).mono ?_; rintro _ _ ⟨rfl, rfl⟩) | fail)
      go_roundw
      case rel => exact ⟨j, d + q, 0, s2, by go_num, rfl, by omega, by omega, by omega, HA3, HRw3, hide ⟨HV4.out, HV2.out⟩, HT3, hs3⟩
      case measure => simp [intOf]; omega
    · rw [if_neg he] at hV2
      have HV2 := hide hV2
      have he2 : (e != 0) = true := by simp [he]
      have he3 : (e == 0) = false := by simp [he]
      clear hV2 HV3 hme
      by_cases hm0 : m = 0
      all_goals first | (subst hm0; skip) | skip
      all_goals
        first | have hm1 : (m == 0) = false := by simp [hm0] | skip
      all_goals
        go_wp2_with fail
        refine HW.out.mono ?_
        rintro _ w3 ⟨rfl, O3, hA3, hO3, hT3⟩
        have HA3 : Hid (∃ O', At w3 O' s2 ∧ ∀ j, O' j → O j ∨ w1.heap.size ≤ j) := hide ⟨O3, hA3, fun i e => (hO3 i e).elim (fun e => HO'.out i e) (fun e => .inr (by omega))⟩
        have HRw3 : Hid (∃ cur : List Value, w3.heap[w.heap.size]? = some (.cells cur.toArray 5 (0, 0)) ∧ cur.length = bs.length) := hide (by
          obtain ⟨c, hc, hl⟩ := HRw2.out
          exact ⟨c, (hT3.block _ (by omega) HgO.out).trans hc, hl⟩)
        have HT3 : Hid (Turned O w w3) := hide (HT2.out.trans hT3 (fun i hi e => (HO'.out i e).resolve_right (by omega)))
        have hs3 : w1.heap.size ≤ w3.heap.size := by have := hT3.size; omega
        clear hA3 hO3 hT3
        go_wp2_with (first | (go_at_call 80; refine (isTry_no _ _ HTt.out).mono ?_; rintro _ _ ⟨rfl, rfl⟩) | fail)
        go_ret2
        rw [← HV2.out]
        obtain ⟨O', hA', hO'⟩ := HA3.out
        exact ⟨rfl, O', hA', fun i e => (hO' i e).imp id (fun e => by omega), HT3.out⟩
end Go.Proofs.Ytgbkhmiphaefgaa
