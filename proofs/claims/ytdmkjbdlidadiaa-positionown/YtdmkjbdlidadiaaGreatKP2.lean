/- What the proof stands on, part 2: the contracts of the program's calls that it reaches. -/
import Derived.Test.YtdmkjbdlidadiaaGreatKP1
import Derived.Lib.MinMax
import Derived.Defers
import Derived.Lib.BufferMore
/- Memories: a store as a value and in memory; isMade, read, seek, all of it. -/
namespace Go.Proofs.YtdmkjbdlidadiaaGreat
open Go.RowKit

structure MS where
  l : List UInt8
  room : Nat
  pl : Nat
def MS.read (S : MS) (n : Int) : List UInt8 × Int × MS :=
  if inR n = true then (piece S.l S.pl n.toNat, 0, ⟨S.l, S.room, S.pl + (piece S.l S.pl n.toNat).length⟩) else ([], 4, S)
def MS.write (S : MS) (x : List UInt8) : Int × Int × MS :=
  if 1048576 < x.length then (0, 5, S) else if x = [] then (0, 0, S) else if S.pl = S.room then (0, 31, S)
  else ((min x.length (S.room - S.pl) : Nat), 0, ⟨lay S.l S.pl (x.take (min x.length (S.room - S.pl))), S.room, S.pl + min x.length (S.room - S.pl)⟩)
def MS.from (S : MS) (wh : Int) : Nat := if wh = 1 then S.pl else if wh = 2 then S.l.length else 0
def MS.seek (S : MS) (off wh : Int) : Int × Int × MS :=
  if wh < 0 ∨ 2 < wh then (0, 1, S)
  else if off < -(S.from wh : Int) ∨ (S.room : Int) - (S.from wh : Int) < off then (0, 4, S)
  else ((S.from wh : Int) + off, 0, ⟨S.l, S.room, ((S.from wh : Int) + off).toNat⟩)

def MemAt (W : World) (O : Nat → Prop) (g : Nat) (S : MS) : Prop :=
  ∃ f b cap, W.cell? ⟨g, 0, none⟩ = some (.pointer (some ⟨f, 0, none⟩)) ∧ W.cell? ⟨g, 1, none⟩ = some (.int .i64 S.room) ∧ W.cell? ⟨g, 2, none⟩ = some (.int .i64 S.pl) ∧ W.frozen? ⟨g, 2, none⟩ = false ∧
    FileAt W f b cap S.l ∧ O g ∧ O f ∧ O b ∧ g ≠ f ∧ g ≠ b ∧ S.l.length ≤ S.room ∧ S.pl ≤ S.room ∧ S.room ≤ 1048576
def MStep (w : World) (O : Nat → Prop) (g : Nat) (S : MS) (w' : World) : Prop := ∃ O', MemAt w' O' g S ∧ (∀ k, O' k → O k ∨ w.heap.size ≤ k) ∧ Turned O w w'
theorem MemAt.keep {W W' : World} {O : Nat → Prop} {g : Nat} {S : MS} (h : MemAt W O g S) (hk : ∀ j, O j → j < W.heap.size → W'.heap[j]? = W.heap[j]?) : MemAt W' O g S := by
  obtain ⟨f, b, cap, h0, h1, h2, h3, h4, og, of, ob, n1, n2, r1, r2, r3⟩ := h
  have kg := hk g og (World.block_lt_of_cell? W _ h0)
  exact ⟨f, b, cap, (World.cell?_of_block (w := W) kg).trans h0, (World.cell?_of_block (w := W) kg).trans h1, (World.cell?_of_block (w := W) kg).trans h2, (World.frozen?_of_block (w := W) kg).trans h3,
    h4.keep (hk f of h4.lt) (hk b ob h4.row.lt), og, of, ob, n1, n2, r1, r2, r3⟩
theorem MemAt.below {W W' : World} {O : Nat → Prop} {g : Nat} {S : MS} (h : MemAt W O g S) (hB : Below W.heap.size W W') : MemAt W' O g S := h.keep fun j _ hl => hB.block j hl
theorem MemAt.ok {W : World} {O : Nat → Prop} {g : Nat} {S : MS} (h : MemAt W O g S) : S.l.length ≤ S.room ∧ S.pl ≤ S.room ∧ S.room ≤ 1048576 := by
  obtain ⟨f, b, cap, h0, h1, h2, h3, h4, og, of, ob, n1, n2, r1, r2, r3⟩ := h
  exact ⟨r1, r2, r3⟩
theorem MemAt.mono {W : World} {O O' : Nat → Prop} {g : Nat} {S : MS} (h : MemAt W O g S) (ho : ∀ j, O j → O' j) : MemAt W O' g S := by
  obtain ⟨f, b, cap, h0, h1, h2, h3, h4, og, of, ob, n⟩ := h
  exact ⟨f, b, cap, h0, h1, h2, h3, h4, ho _ og, ho _ of, ho _ ob, n⟩
theorem MemAt.lt {W : World} {O : Nat → Prop} {g : Nat} {S : MS} (h : MemAt W O g S) : g < W.heap.size ∧ O g := by
  obtain ⟨f, b, cap, h0, h1, h2, h3, h4, og, n⟩ := h
  exact ⟨World.block_lt_of_cell? W _ h0, og⟩
theorem MemAt.trim {W : World} {O : Nat → Prop} {g : Nat} {S : MS} (h : MemAt W O g S) : MemAt W (fun k => O k ∧ k < W.heap.size) g S := by
  obtain ⟨f, b, cap, h0, h1, h2, h3, h4, og, of, ob, n⟩ := h
  exact ⟨f, b, cap, h0, h1, h2, h3, h4, ⟨og, World.block_lt_of_cell? W _ h0⟩, ⟨of, h4.lt⟩, ⟨ob, h4.row.lt⟩, n⟩
theorem MStep.same {w : World} {O : Nat → Prop} {g : Nat} {S : MS} (h : MemAt w O g S) : MStep w O g S w := ⟨O, h, fun _ e => .inl e, Turned.refl _ _⟩
theorem MStep.below {w w' : World} {O : Nat → Prop} {g : Nat} {S : MS} (h : MemAt w O g S) (hB : Below w.heap.size w w') : MStep w O g S w' := ⟨O, h.below hB, fun _ e => .inl e, Turned.of_below hB⟩

set_option maxHeartbeats 1000000 in
theorem sMade_yes (g f : Nat) (w : World) (h : w.cell? ⟨g, 0, none⟩ = some (.pointer (some ⟨f, 0, none⟩))) :
    Calls Tryz.prog 304 #[.pointer (some ⟨g, 0, none⟩)] w fun e w' => e = .returned (.bool true) ∧ w = w' := by
  go_enter Tryz.func304, Tryz.ntmps304
  go_wp2
  go_ret
  exact ⟨rfl, rfl⟩
set_option maxRecDepth 100000 in
set_option maxHeartbeats 1000000 in
theorem sall_any (O : Nat → Prop) (g : Nat) (S : MS) (w : World) (h : MemAt w O g S) :
    Calls Tryz.prog 190 #[.pointer (some ⟨g, 0, none⟩)] w fun e w' => ∃ v, e = .returned v ∧ w'.ownsRow w.heap.size 5 1 v S.l.length (S.l.map bv) ∧ Below w.heap.size w w' := by
  obtain ⟨f, b, cap, h0, h1, h2, h3, h4, og, of, ob, n1, n2, r1, r2, r3⟩ := h
  have H4 := hide h4
  clear h4 og of ob h1 h2 h3
  go_enter Tryz.func190, Tryz.ntmps190
  go_wp2_with fail
  refine (bytes_any f b cap S.l _ H4.out (by omega)).mono ?_
  rintro e w2 ⟨rfl, hown, hB⟩
  have HO := hide hown
  clear hown
  go_wp2
  go_ret
  exact ⟨_, rfl, HO.out, hB⟩

set_option maxRecDepth 100000 in
set_option maxHeartbeats 1000000 in
theorem sread_any (O : Nat → Prop) (g : Nat) (S : MS) (n : Int) (w : World) (h : MemAt w O g S) :
    Calls Tryz.prog 305 #[.pointer (some ⟨g, 0, none⟩), .int .i64 n] w fun e w' => ∃ v, e = .returned (.tuple #[v, .int .i64 (S.read n).2.1]) ∧ w'.ownsRow w.heap.size 5 1 v (S.read n).1.length ((S.read n).1.map bv) ∧ MemAt w' O g (S.read n).2.2 ∧ Turned O w w' := by
  obtain ⟨f, b, cap, h0, h1, h2, h3, h4, og, of, ob, n1, n2, r1, r2, r3⟩ := h
  have hp : inR (S.pl : Int) = true := inR_yes (by omega) (by omega)
  have hE : Fi_rdE (S.pl : Int) n = (S.read n).2.1 := by
    unfold Fi_rdE MS.read
    rw [hp, Bool.true_and]
    by_cases hn : inR n = true
    · rw [if_neg (by simp [hn]), if_pos hn]
    · rw [if_pos (by simpa using hn), if_neg hn]
  have hL : rdL S.l (S.pl : Int) n = (S.read n).1 := by
    unfold rdL MS.read
    rw [hp, Bool.true_and]
    by_cases hn : inR n = true
    · rw [if_neg (by simp [hn]), if_pos hn, Int.toNat_natCast]
    · rw [if_pos (by simpa using hn), if_neg hn]
  have hS : (S.read n).2.2 = ⟨S.l, S.room, S.pl + (S.read n).1.length⟩ := by
    unfold MS.read
    by_cases hn : inR n = true
    · rw [if_pos hn]
    · rw [if_neg hn]; rfl
  have hle : S.pl + (S.read n).1.length ≤ S.room := by
    unfold MS.read
    by_cases hn : inR n = true
    · rw [if_pos hn]; show S.pl + (piece S.l S.pl n.toNat).length ≤ S.room; rw [piece_len]; omega
    · rw [if_neg hn]; simpa using r2
  have HR := hide (readAt_any f b cap S.l (S.pl : Int) n w.drew (h4.below (Below.refl _ _).drew) (by omega))
  rw [hE, hL] at HR
  rw [hS]
  generalize (S.read n).1 = Y at *
  generalize (S.read n).2.1 = E at *
  have H4 := hide h4
  have HS := hide (And.intro h0 (And.intro h1 (And.intro h2 h3)))
  clear hE hL hS h4 hp
  go_enter Tryz.func305, Tryz.ntmps305
  go_wp2_with fail
  go_region_held3 (fun w' => w'.cell? ⟨g, 0, none⟩ = some (.pointer (some ⟨f, 0, none⟩)) ∧ w'.cell? ⟨g, 2, none⟩ = some (.int .i64 S.pl))
    (first | exact hx5 | exact ⟨h0, h2⟩ | go_keep)
    (first
      | (go_at_call 308; refine HR.out.mono ?_; rintro e w2 ⟨v, rfl, hown, hB⟩; have hx5 : w2.cell? ⟨g, 0, none⟩ = some (.pointer (some ⟨f, 0, none⟩)) ∧ w2.cell? ⟨g, 2, none⟩ = some (.int .i64 S.pl) := ⟨(hB.cell (p := ⟨g, 0, none⟩) (World.block_lt_of_cell? w _ HS.out.1)).trans HS.out.1, (hB.cell (p := ⟨g, 2, none⟩) (World.block_lt_of_cell? w _ HS.out.2.2.1)).trans HS.out.2.2.1⟩)
      | fail)
  obtain ⟨va, vc, rfl⟩ := owns_slice hown
  obtain ⟨-, k2⟩ := hx5
  have hgl : g < w.heap.size := World.block_lt_of_cell? w _ HS.out.2.2.1
  have kb : w2.heap[g]? = w.heap[g]? := hB.block g hgl
  have k3 : w2.frozen? ⟨g, 2, none⟩ = false := (World.frozen?_of_block (w := w) kb).trans HS.out.2.2.2
  have HO := hide hown
  have hB' : Below w.heap.size w w2 := ((Below.refl _ w).drew).trans hB
  clear hown h0 h1 h2 h3 HR hB
  have hB := hB'
  go_wp2
  go_ret2
  rw [show ((S.pl : Int) + (Y.length : Int)) = ((S.pl + Y.length : Nat) : Int) by omega]
  have hT : Turned O w (w2.setCell ⟨g, 2, none⟩ (.int .i64 ((S.pl + Y.length : Nat) : Int))) := (Turned.of_below (S := O) hB).set (.inl og)
  refine ⟨_, rfl, owns_keep HO.out (fun k hk => Below.heap_setCell _ _ _ _ (fun e => ?_)), ⟨f, b, cap, ?_, ?_, ?_, ?_, ?_, og, of, ob, n1, n2, r1, hle, r3⟩, hT⟩
  · have h1 : w.heap.size ≤ k := (HO.out.lt k hk).1; have e' : k = g := e; omega
  · rw [World.cell?_setCell_other _ _ _ _ (by simp)]; exact (World.cell?_of_block (w := w) kb).trans HS.out.1
  · rw [World.cell?_setCell_other _ _ _ _ (by simp)]; exact (World.cell?_of_block (w := w) kb).trans HS.out.2.1
  · exact World.cell?_setCell_same _ _ _ k2
  · rw [World.frozen?_setCell]; exact k3
  · have := H4.out.below hB
    exact this.keep (Below.heap_setCell _ _ _ _ (fun e => n1 e.symm)) (Below.heap_setCell _ _ _ _ (fun e => n2 e.symm))
end Go.Proofs.YtdmkjbdlidadiaaGreat

/- Memories: write, seek. -/
namespace Go.Proofs.YtdmkjbdlidadiaaGreat
open Go.RowKit

theorem MS.write_long {S : MS} {x : List UInt8} (h : 1048576 < x.length) : S.write x = (0, 5, S) := by unfold MS.write; rw [if_pos h]
theorem MS.write_none {S : MS} : S.write [] = (0, 0, S) := by unfold MS.write; rw [if_neg (by decide), if_pos rfl]
theorem MS.write_full {S : MS} {x : List UInt8} (h : x.length ≤ 1048576) (h0 : x ≠ []) (hp : S.pl = S.room) : S.write x = (0, 31, S) := by unfold MS.write; rw [if_neg (by omega), if_neg h0, if_pos hp]
theorem MS.write_some {S : MS} {x : List UInt8} (h : x.length ≤ 1048576) (h0 : x ≠ []) (hp : S.pl ≠ S.room) {m : Nat} (hm : m = min x.length (S.room - S.pl)) : S.write x = ((m : Int), 0, ⟨lay S.l S.pl (x.take m), S.room, S.pl + m⟩) := by
  unfold MS.write; rw [if_neg (by omega), if_neg h0, if_neg hp, hm]

set_option maxRecDepth 100000 in
set_option maxHeartbeats 1000000 in
theorem swrite_long (O : Nat → Prop) (g : Nat) (S : MS) (a : Option Addr) (n c : Nat) (w : World) (h : MemAt w O g S) (hl : 1048576 < n) :
    Calls Tryz.prog 307 #[.pointer (some ⟨g, 0, none⟩), .slice a n c] w fun e w' => e = .returned (.tuple #[.int .i64 0, .int .i64 5]) ∧ w = w' := by
  obtain ⟨f, b, cap, h0, -⟩ := h
  have hd : (1048576 : Int) < (n : Int) := by omega
  go_enter Tryz.func307, Tryz.ntmps307
  go_wp2_with (first | (go_at_call 304; refine (sMade_yes g f _ h0).mono ?_; rintro _ _ ⟨rfl, rfl⟩) | fail)
  go_ret2
  exact ⟨rfl, rfl⟩
set_option maxRecDepth 100000 in
set_option maxHeartbeats 1000000 in
theorem swrite_none (O : Nat → Prop) (g : Nat) (S : MS) (a : Option Addr) (c : Nat) (w : World) (h : MemAt w O g S) :
    Calls Tryz.prog 307 #[.pointer (some ⟨g, 0, none⟩), .slice a 0 c] w fun e w' => e = .returned (.tuple #[.int .i64 0, .int .i64 0]) ∧ w = w' := by
  obtain ⟨f, b, cap, h0, -⟩ := h
  go_enter Tryz.func307, Tryz.ntmps307
  go_wp2_with (first | (go_at_call 304; refine (sMade_yes g f _ h0).mono ?_; rintro _ _ ⟨rfl, rfl⟩) | fail)
  go_ret2
  exact ⟨rfl, rfl⟩
set_option maxRecDepth 100000 in
set_option maxHeartbeats 1000000 in
theorem swrite_full (O : Nat → Prop) (g : Nat) (S : MS) (a : Option Addr) (n c : Nat) (w : World) (h : MemAt w O g S) (hl : n ≤ 1048576) (hn : 0 < n) (hp : S.pl = S.room) :
    Calls Tryz.prog 307 #[.pointer (some ⟨g, 0, none⟩), .slice a n c] w fun e w' => e = .returned (.tuple #[.int .i64 0, .int .i64 31]) ∧ Below w.heap.size w w' := by
  obtain ⟨f, b, cap, h0, h1, h2, -⟩ := h
  rw [hp] at h2
  have hd : ¬ (1048576 : Int) < (n : Int) := by omega
  have hd2 : ((n : Int) == 0) = false := by simp; omega
  generalize S.room = R at *
  generalize S.pl = Q at *
  clear hp
  go_enter Tryz.func307, Tryz.ntmps307
  go_wp2_with (first | (go_at_call 304; refine (sMade_yes g f _ h0).mono ?_; rintro _ _ ⟨rfl, rfl⟩) | fail)
  go_quiet (fail)
  go_wp2
  go_ret2
  exact ⟨rfl, below_drewN (Below.refl _ _) _⟩
set_option maxRecDepth 100000 in
set_option maxHeartbeats 2000000 in
theorem swrite_some (O : Nat → Prop) (g : Nat) (S : MS) (x : List UInt8) (a : Option Addr) (c m : Nat) (w : World) (h : MemAt w O g S) (hx : Bys w (.slice a x.length c) x) (hc : x.length ≤ c) (hap : ∀ k, (Value.slice a x.length c).ownBlock = some k → ¬ O k) (hl : x.length ≤ 1048576) (h0x : 0 < x.length) (hp : S.pl ≠ S.room) (hm : m = min x.length (S.room - S.pl)) :
    Calls Tryz.prog 307 #[.pointer (some ⟨g, 0, none⟩), .slice a x.length c] w fun e w' => e = .returned (.tuple #[.int .i64 m, .int .i64 0]) ∧ MStep w O g ⟨lay S.l S.pl (x.take m), S.room, S.pl + m⟩ w' := by
  obtain ⟨f, b, cap, h0, h1, h2, h3, h4, og, of, ob, n1, n2, r1, r2, r3⟩ := h
  obtain ⟨_, xb, xo, rfl, hxl, hcells⟩ := bys_block hx h0x
  have hm1 : 0 < m := by omega
  have hm2 : m ≤ x.length := by omega
  have hm3 : S.pl + m ≤ S.room := by omega
  have hmi : min (x.length : Int) ((S.room : Int) - (S.pl : Int)) = (m : Int) := by omega
  have htl : (x.take m).length = m := by rw [List.length_take]; omega
  have hcut : Bys w (.slice (some ⟨xb, xo, none⟩) m c) (x.take m) := by have := bys_cut hx 0 m c (by omega); simpa using this
  have HW := hide fun (W : World) (hB : Below w.heap.size w W) => writeAt_some f b cap S.l S.pl (.slice (some ⟨xb, xo, none⟩) m c) (x.take m) W (h4.below hB) (hcut.below hB) (fun k hk => by
    obtain rfl : xb = k := by simpa [Value.ownBlock] using hk
    have hn := hap xb rfl
    exact ⟨fun e => hn (e ▸ of), fun e => hn (e ▸ ob)⟩) (by rw [htl]; omega) (by rw [htl]; omega)
  have HS := hide (And.intro h0 (And.intro h1 (And.intro h2 h3)))
  have HF := hide (And.intro of (And.intro ob og))
  have hgl : g < w.heap.size := World.block_lt_of_cell? w _ h0
  have hd : ¬ (1048576 : Int) < (x.length : Int) := by omega
  have hd2 : ((x.length : Int) == 0) = false := by simp; intro e; rw [e] at h0x; simp at h0x
  have hd3 : ((S.pl : Int) == (S.room : Int)) = false := by simp; omega
  have hd3' : ¬ (S.pl : Int) = (S.room : Int) := by omega
  have hmc : m ≤ c := by omega
  have HH := hide (And.intro hm htl)
  clear hm hx hcells hcut hap h4 h3 of ob htl
  go_enter Tryz.func307, Tryz.ntmps307
  go_wp2_with (first | (go_at_call 304; refine (sMade_yes g f _ h0).mono ?_; rintro _ _ ⟨rfl, rfl⟩) | fail)
  go_quiet (fail)
  go_wp2_with fail
  go_quiet (fail)
  go_wp2_with fail
  go_region_held3 (fun w' => w'.cell? ⟨g, 0, none⟩ = some (.pointer (some ⟨f, 0, none⟩)) ∧ w'.cell? ⟨g, 2, none⟩ = some (.int .i64 S.pl))
    (first | exact hx5 | exact ⟨h0, h2⟩ | go_keep)
    (first
      | (go_at_call 309; refine (HW.out _ (below_drewN (Below.refl _ _) _)).mono ?_; rintro e w2 ⟨rfl, b', cap', hF2, hb2, hT2⟩; have hx5 : w2.cell? ⟨g, 0, none⟩ = some (.pointer (some ⟨f, 0, none⟩)) ∧ w2.cell? ⟨g, 2, none⟩ = some (.int .i64 S.pl) := ⟨hT2.cell HS.out.1 (fun e => by rcases e with e | e; exact n1 e; exact n2 e), hT2.cell HS.out.2.2.1 (fun e => by rcases e with e | e; exact n1 e; exact n2 e)⟩)
      | fail)
  obtain ⟨k0, k2⟩ := hx5
  have hgb : w2.heap[g]? = w.heap[g]? := hT2.block g hgl (fun e => by rcases e with e | e; exact n1 e; exact n2 e)
  have k1 : w2.cell? ⟨g, 1, none⟩ = some (.int .i64 S.room) := (World.cell?_of_block (w := w) hgb).trans HS.out.2.1
  have k3 : w2.frozen? ⟨g, 2, none⟩ = false := (World.frozen?_of_block (w := w) hgb).trans HS.out.2.2.2
  have hz : w.heap.size ≤ w2.heap.size := hT2.size
  have hb2' : b' = b ∨ w.heap.size ≤ b' := hb2
  have HT2 : Hid (Turned (fun k => k = f ∨ k = b) w w2) := hide ⟨hT2.os, hT2.tape, hT2.output, hT2.size, hT2.block⟩
  have HF2 := hide hF2
  clear hF2 hT2 h0 h1 h2 HW hb2
  go_wp2
  go_ret2
  rw [show ((S.pl : Int) + (m : Int)) = ((S.pl + m : Nat) : Int) by omega]
  have hll : (lay S.l S.pl (x.take m)).length ≤ S.room := by rw [lay_len, HH.out.2]; split <;> omega
  have hff := HF2.out.lt
  have hbn : b' ≠ g := by rcases hb2' with e | e <;> omega
  have hbf : f ≠ g := fun e => n1 e.symm
  refine ⟨rfl, fun k => k = g ∨ k = f ∨ k = b', ⟨f, b', cap', ?_, ?_, ?_, ?_, ?_, .inl rfl, .inr (.inl rfl), .inr (.inr rfl), n1, fun e => hbn e.symm, hll, hm3, r3⟩, fun k e => ?_, ?_⟩
  · rw [World.cell?_setCell_other _ _ _ _ (by simp)]; exact k0
  · rw [World.cell?_setCell_other _ _ _ _ (by simp)]; exact k1
  · exact World.cell?_setCell_same _ _ _ k2
  · rw [World.frozen?_setCell]; exact k3
  · exact HF2.out.keep (Below.heap_setCell _ _ _ _ hbf) (Below.heap_setCell _ _ _ _ hbn)
  · rcases e with rfl | rfl | rfl
    · exact .inl HF.out.2.2
    · exact .inl HF.out.1
    · rcases hb2' with rfl | e
      · exact .inl HF.out.2.1
      · exact .inr e
  · exact (HT2.out.mono (S' := O) (fun k e => by rcases e with rfl | rfl; exact HF.out.1; exact HF.out.2.1)).set (.inl HF.out.2.2)
theorem swrite_any (O : Nat → Prop) (g : Nat) (S : MS) (x : List UInt8) (a : Option Addr) (c : Nat) (w : World) (h : MemAt w O g S) (hx : Bys w (.slice a x.length c) x) (hc : x.length ≤ c) (hap : 0 < x.length → ∀ k, (Value.slice a x.length c).ownBlock = some k → ¬ O k) :
    Calls Tryz.prog 307 #[.pointer (some ⟨g, 0, none⟩), .slice a x.length c] w fun e w' => e = .returned (.tuple #[.int .i64 (S.write x).1, .int .i64 (S.write x).2.1]) ∧ MStep w O g (S.write x).2.2 w' := by
  by_cases hl : 1048576 < x.length
  · rw [MS.write_long hl]
    refine (swrite_long O g S a x.length c w h hl).mono ?_
    rintro e w' ⟨rfl, rfl⟩
    exact ⟨rfl, MStep.same h⟩
  by_cases h0 : x = []
  · subst h0
    rw [MS.write_none]
    refine (swrite_none O g S a c w h).mono ?_
    rintro e w' ⟨rfl, rfl⟩
    exact ⟨rfl, MStep.same h⟩
  have h0x := List.length_pos_iff.2 h0
  by_cases hp : S.pl = S.room
  · rw [MS.write_full (by omega) h0 hp]
    refine (swrite_full O g S a x.length c w h (by omega) h0x hp).mono ?_
    rintro e w' ⟨rfl, hB⟩
    exact ⟨rfl, MStep.below h hB⟩
  · rw [MS.write_some (by omega) h0 hp rfl]
    exact swrite_some O g S x a c _ w h hx hc (hap h0x) (by omega) h0x hp rfl
end Go.Proofs.YtdmkjbdlidadiaaGreat

/- Memories: seek. -/
namespace Go.Proofs.YtdmkjbdlidadiaaGreat
open Go.RowKit

theorem MS.seek_arg {S : MS} {off wh : Int} (h : wh < 0 ∨ 2 < wh) : S.seek off wh = (0, 1, S) := by unfold MS.seek; rw [if_pos h]
theorem MS.seek_range {S : MS} {off wh : Int} (h : ¬ (wh < 0 ∨ 2 < wh)) (h2 : off < -(S.from wh : Int) ∨ (S.room : Int) - (S.from wh : Int) < off) : S.seek off wh = (0, 4, S) := by unfold MS.seek; rw [if_neg h, if_pos h2]
theorem MS.seek_good {S : MS} {off wh : Int} (h : ¬ (wh < 0 ∨ 2 < wh)) (h2 : ¬ (off < -(S.from wh : Int) ∨ (S.room : Int) - (S.from wh : Int) < off)) : S.seek off wh = ((S.from wh : Int) + off, 0, ⟨S.l, S.room, ((S.from wh : Int) + off).toNat⟩) := by unfold MS.seek; rw [if_neg h, if_neg h2]

theorem MemAt.place {w : World} {O : Nat → Prop} {g : Nat} {S : MS} (h : MemAt w O g S) (m : Nat) (hm : m ≤ S.room) : MStep w O g ⟨S.l, S.room, m⟩ (w.setCell ⟨g, 2, none⟩ (.int .i64 m)) := by
  obtain ⟨f, b, cap, h0, h1, h2, h3, h4, og, of, ob, n1, n2, r1, r2, r3⟩ := h
  refine ⟨O, ⟨f, b, cap, ?_, ?_, ?_, ?_, ?_, og, of, ob, n1, n2, r1, hm, r3⟩, fun _ e => .inl e, (Turned.refl O w).set (.inl og)⟩
  · rw [World.cell?_setCell_other _ _ _ _ (by simp)]; exact h0
  · rw [World.cell?_setCell_other _ _ _ _ (by simp)]; exact h1
  · exact World.cell?_setCell_same _ _ _ h2
  · rw [World.frozen?_setCell]; exact h3
  · exact h4.keep (Below.heap_setCell _ _ _ _ (fun e => n1 e.symm)) (Below.heap_setCell _ _ _ _ (fun e => n2 e.symm))

set_option maxRecDepth 100000 in
set_option maxHeartbeats 2000000 in
theorem sseek_arg (O : Nat → Prop) (g : Nat) (S : MS) (off wh : Int) (w : World) (h : MemAt w O g S) (ha : wh < 0 ∨ 2 < wh) :
    Calls Tryz.prog 306 #[.pointer (some ⟨g, 0, none⟩), .int .i64 off, .int .i64 wh] w fun e w' => e = .returned (.tuple #[.int .i64 0, .int .i64 1]) ∧ w = w' := by
  have HM := hide h
  obtain ⟨f, b, cap, h0, h1, h2, h3, h4, og, of, ob, n1, n2, r1, r2, r3⟩ := h
  have H4 := hide h4
  clear h4 og of ob n1 n2
  have e0 : (wh == 0) = false := by simp; omega
  have e1 : (wh == 1) = false := by simp; omega
  have e2 : (wh == 2) = false := by simp; omega
  have e0' : ¬ wh = 0 := by omega
  have e1' : ¬ wh = 1 := by omega
  have e2' : ¬ wh = 2 := by omega
  clear ha
  go_enter Tryz.func306, Tryz.ntmps306
  go_wp2_with (first | (go_at_call 304; refine (sMade_yes g f _ h0).mono ?_; rintro _ _ ⟨rfl, rfl⟩) | (go_at_call 173; refine (size_any f b cap S.l _ H4.out).mono ?_; rintro _ _ ⟨rfl, rfl⟩) | fail)
  go_ret2
  exact ⟨rfl, rfl⟩
set_option maxRecDepth 100000 in
set_option maxHeartbeats 2000000 in
theorem sseek_bad0 (O : Nat → Prop) (g : Nat) (S : MS) (off : Int) (w : World) (h : MemAt w O g S) (hr : off < -((0 : Nat) : Int) ∨ (S.room : Int) - ((0 : Nat) : Int) < off) :
    Calls Tryz.prog 306 #[.pointer (some ⟨g, 0, none⟩), .int .i64 off, .int .i64 0] w fun e w' => e = .returned (.tuple #[.int .i64 0, .int .i64 4]) ∧ w = w' := by
  have HM := hide h
  obtain ⟨f, b, cap, h0, h1, h2, h3, h4, og, of, ob, n1, n2, r1, r2, r3⟩ := h
  have H4 := hide h4
  clear h4 og of ob n1 n2
  rcases (show off < 0 ∨ (¬ off < 0 ∧ (S.room : Int) < off) by omega) with hq | ⟨hq, hq2⟩
  all_goals
    clear hr
    go_enter Tryz.func306, Tryz.ntmps306
    go_wp2_with (first | (go_at_call 304; refine (sMade_yes g f _ h0).mono ?_; rintro _ _ ⟨rfl, rfl⟩) | (go_at_call 173; refine (size_any f b cap S.l _ H4.out).mono ?_; rintro _ _ ⟨rfl, rfl⟩) | fail)
    go_ret2
    exact ⟨rfl, rfl⟩
set_option maxRecDepth 100000 in
set_option maxHeartbeats 2000000 in
theorem sseek_good0 (O : Nat → Prop) (g : Nat) (S : MS) (off : Int) (m : Nat) (w : World) (h : MemAt w O g S) (hm : ((0 : Nat) : Int) + off = m) (hr : m ≤ S.room) :
    Calls Tryz.prog 306 #[.pointer (some ⟨g, 0, none⟩), .int .i64 off, .int .i64 0] w fun e w' => e = .returned (.tuple #[.int .i64 m, .int .i64 0]) ∧ MStep w O g ⟨S.l, S.room, m⟩ w' := by
  have HM := hide h
  obtain ⟨f, b, cap, h0, h1, h2, h3, h4, og, of, ob, n1, n2, r1, r2, r3⟩ := h
  have H4 := hide h4
  clear h4 og of ob n1 n2
  obtain rfl : off = (m : Int) := by omega
  clear hm
  have q1 : ¬ (m : Int) < 0 := by omega
  have q2 : ¬ (S.room : Int) < (m : Int) := by omega
  go_enter Tryz.func306, Tryz.ntmps306
  go_wp2_with (first | (go_at_call 304; refine (sMade_yes g f _ h0).mono ?_; rintro _ _ ⟨rfl, rfl⟩) | (go_at_call 173; refine (size_any f b cap S.l _ H4.out).mono ?_; rintro _ _ ⟨rfl, rfl⟩) | fail)
  go_ret2
  exact ⟨rfl, HM.out.place m hr⟩
set_option maxRecDepth 100000 in
set_option maxHeartbeats 2000000 in
theorem sseek_bad1 (O : Nat → Prop) (g : Nat) (S : MS) (off : Int) (w : World) (h : MemAt w O g S) (hr : off < -((S.pl : Nat) : Int) ∨ (S.room : Int) - ((S.pl : Nat) : Int) < off) :
    Calls Tryz.prog 306 #[.pointer (some ⟨g, 0, none⟩), .int .i64 off, .int .i64 1] w fun e w' => e = .returned (.tuple #[.int .i64 0, .int .i64 4]) ∧ w = w' := by
  have HM := hide h
  obtain ⟨f, b, cap, h0, h1, h2, h3, h4, og, of, ob, n1, n2, r1, r2, r3⟩ := h
  have H4 := hide h4
  clear h4 og of ob n1 n2
  rcases (show off < -((S.pl : Nat) : Int) ∨ (¬ off < -((S.pl : Nat) : Int) ∧ (S.room : Int) - ((S.pl : Nat) : Int) < off) by omega) with hq | ⟨hq, hq2⟩
  all_goals
    clear hr
    go_enter Tryz.func306, Tryz.ntmps306
    go_wp2_with (first | (go_at_call 304; refine (sMade_yes g f _ h0).mono ?_; rintro _ _ ⟨rfl, rfl⟩) | (go_at_call 173; refine (size_any f b cap S.l _ H4.out).mono ?_; rintro _ _ ⟨rfl, rfl⟩) | fail)
    go_ret2
    exact ⟨rfl, rfl⟩
set_option maxRecDepth 100000 in
set_option maxHeartbeats 2000000 in
theorem sseek_good1 (O : Nat → Prop) (g : Nat) (S : MS) (off : Int) (m : Nat) (w : World) (h : MemAt w O g S) (hm : ((S.pl : Nat) : Int) + off = m) (hr : m ≤ S.room) :
    Calls Tryz.prog 306 #[.pointer (some ⟨g, 0, none⟩), .int .i64 off, .int .i64 1] w fun e w' => e = .returned (.tuple #[.int .i64 m, .int .i64 0]) ∧ MStep w O g ⟨S.l, S.room, m⟩ w' := by
  have HM := hide h
  obtain ⟨f, b, cap, h0, h1, h2, h3, h4, og, of, ob, n1, n2, r1, r2, r3⟩ := h
  have H4 := hide h4
  clear h4 og of ob n1 n2
  have q1 : ¬ off < -((S.pl : Nat) : Int) := by omega
  have q2 : ¬ (S.room : Int) - ((S.pl : Nat) : Int) < off := by omega
  have HMm := hide hm
  clear hm
  go_enter Tryz.func306, Tryz.ntmps306
  go_wp2_with (first | (go_at_call 304; refine (sMade_yes g f _ h0).mono ?_; rintro _ _ ⟨rfl, rfl⟩) | (go_at_call 173; refine (size_any f b cap S.l _ H4.out).mono ?_; rintro _ _ ⟨rfl, rfl⟩) | fail)
  go_ret2
  rw [HMm.out]
  exact ⟨rfl, HM.out.place m hr⟩
set_option maxRecDepth 100000 in
set_option maxHeartbeats 2000000 in
theorem sseek_bad2 (O : Nat → Prop) (g : Nat) (S : MS) (off : Int) (w : World) (h : MemAt w O g S) (hr : off < -((S.l.length : Nat) : Int) ∨ (S.room : Int) - ((S.l.length : Nat) : Int) < off) :
    Calls Tryz.prog 306 #[.pointer (some ⟨g, 0, none⟩), .int .i64 off, .int .i64 2] w fun e w' => e = .returned (.tuple #[.int .i64 0, .int .i64 4]) ∧ w = w' := by
  have HM := hide h
  obtain ⟨f, b, cap, h0, h1, h2, h3, h4, og, of, ob, n1, n2, r1, r2, r3⟩ := h
  have H4 := hide h4
  clear h4 og of ob n1 n2
  rcases (show off < -((S.l.length : Nat) : Int) ∨ (¬ off < -((S.l.length : Nat) : Int) ∧ (S.room : Int) - ((S.l.length : Nat) : Int) < off) by omega) with hq | ⟨hq, hq2⟩
  all_goals
    clear hr
    go_enter Tryz.func306, Tryz.ntmps306
    go_wp2_with (first | (go_at_call 304; refine (sMade_yes g f _ h0).mono ?_; rintro _ _ ⟨rfl, rfl⟩) | (go_at_call 173; refine (size_any f b cap S.l _ H4.out).mono ?_; rintro _ _ ⟨rfl, rfl⟩) | fail)
    go_ret2
    exact ⟨rfl, rfl⟩
set_option maxRecDepth 100000 in
set_option maxHeartbeats 2000000 in
theorem sseek_good2 (O : Nat → Prop) (g : Nat) (S : MS) (off : Int) (m : Nat) (w : World) (h : MemAt w O g S) (hm : ((S.l.length : Nat) : Int) + off = m) (hr : m ≤ S.room) :
    Calls Tryz.prog 306 #[.pointer (some ⟨g, 0, none⟩), .int .i64 off, .int .i64 2] w fun e w' => e = .returned (.tuple #[.int .i64 m, .int .i64 0]) ∧ MStep w O g ⟨S.l, S.room, m⟩ w' := by
  have HM := hide h
  obtain ⟨f, b, cap, h0, h1, h2, h3, h4, og, of, ob, n1, n2, r1, r2, r3⟩ := h
  have H4 := hide h4
  clear h4 og of ob n1 n2
  have q1 : ¬ off < -((S.l.length : Nat) : Int) := by omega
  have q2 : ¬ (S.room : Int) - ((S.l.length : Nat) : Int) < off := by omega
  have HMm := hide hm
  clear hm
  go_enter Tryz.func306, Tryz.ntmps306
  go_wp2_with (first | (go_at_call 304; refine (sMade_yes g f _ h0).mono ?_; rintro _ _ ⟨rfl, rfl⟩) | (go_at_call 173; refine (size_any f b cap S.l _ H4.out).mono ?_; rintro _ _ ⟨rfl, rfl⟩) | fail)
  go_ret2
  rw [HMm.out]
  exact ⟨rfl, HM.out.place m hr⟩
theorem sseek_any (O : Nat → Prop) (g : Nat) (S : MS) (off wh : Int) (w : World) (h : MemAt w O g S) :
    Calls Tryz.prog 306 #[.pointer (some ⟨g, 0, none⟩), .int .i64 off, .int .i64 wh] w fun e w' => e = .returned (.tuple #[.int .i64 (S.seek off wh).1, .int .i64 (S.seek off wh).2.1]) ∧ MStep w O g (S.seek off wh).2.2 w' := by
  have hok := h.ok
  by_cases ha : wh < 0 ∨ 2 < wh
  · rw [MS.seek_arg ha]
    refine (sseek_arg O g S off wh w h ha).mono ?_
    rintro e w' ⟨rfl, rfl⟩
    exact ⟨rfl, MStep.same h⟩
  have hw3 : wh = 0 ∨ wh = 1 ∨ wh = 2 := by omega
  by_cases hr : off < -(S.from wh : Int) ∨ (S.room : Int) - (S.from wh : Int) < off
  · rw [MS.seek_range ha hr]
    rcases hw3 with rfl | rfl | rfl
    · refine (sseek_bad0 O g S off w h hr).mono ?_
      rintro e w' ⟨rfl, rfl⟩
      exact ⟨rfl, MStep.same h⟩
    · refine (sseek_bad1 O g S off w h hr).mono ?_
      rintro e w' ⟨rfl, rfl⟩
      exact ⟨rfl, MStep.same h⟩
    · refine (sseek_bad2 O g S off w h hr).mono ?_
      rintro e w' ⟨rfl, rfl⟩
      exact ⟨rfl, MStep.same h⟩
  · rw [MS.seek_good ha hr]
    obtain ⟨m, hm⟩ : ∃ m : Nat, (S.from wh : Int) + off = m := ⟨((S.from wh : Int) + off).toNat, by omega⟩
    rw [hm]
    simp only [Int.toNat_natCast]
    rcases hw3 with rfl | rfl | rfl
    · exact sseek_good0 O g S off m w h hm (by omega)
    · exact sseek_good1 O g S off m w h hm (by omega)
    · exact sseek_good2 O g S off m w h hm (by omega)
end Go.Proofs.YtdmkjbdlidadiaaGreat

/- Memories: made, and their calls. -/
namespace Go.Proofs.YtdmkjbdlidadiaaGreat
open Go.RowKit

theorem recv4 (w : World) (o : Obj) : Below w.heap.size w (w.alloc o) := (Below.refl _ _).alloc (Nat.le_refl _) _
theorem new_zero3 {W w' : World} {x y z : Value} {t : TypeId} (h : Below (W.alloc (Obj.cells #[x, y, z] t)).heap.size (W.alloc (Obj.cells #[x, y, z] t)) w') :
    w'.cell? ⟨W.heap.size, 0, none⟩ = some x ∧ w'.cell? ⟨W.heap.size, 1, none⟩ = some y ∧ w'.cell? ⟨W.heap.size, 2, none⟩ = some z ∧ w'.frozen? ⟨W.heap.size, 0, none⟩ = false ∧ w'.frozen? ⟨W.heap.size, 1, none⟩ = false ∧ w'.frozen? ⟨W.heap.size, 2, none⟩ = false :=
  ⟨(h.cell (p := ⟨W.heap.size, 0, none⟩) (size_new _ _)).trans (by simp only [World.cell?, heap_alloc_new]; rfl), (h.cell (p := ⟨W.heap.size, 1, none⟩) (size_new _ _)).trans (by simp only [World.cell?, heap_alloc_new]; rfl), (h.cell (p := ⟨W.heap.size, 2, none⟩) (size_new _ _)).trans (by simp only [World.cell?, heap_alloc_new]; rfl), (h.frozen (p := ⟨W.heap.size, 0, none⟩) (size_new _ _)).trans (by simp only [World.frozen?, heap_alloc_new]; rfl), (h.frozen (p := ⟨W.heap.size, 1, none⟩) (size_new _ _)).trans (by simp only [World.frozen?, heap_alloc_new]; rfl), (h.frozen (p := ⟨W.heap.size, 2, none⟩) (size_new _ _)).trans (by simp only [World.frozen?, heap_alloc_new]; rfl)⟩
theorem res_store {fn : Func} {p u : Tmp} {w : World} (h : fn.results = #[.cell p 295, .tmp u]) (tmps : Array Value) (b : Nat) (hp : tmps.getD p undef = .pointer (some ⟨b, 0, none⟩)) (x : Option Addr) (y z : Int) (h1 : w.cell? ⟨b, 0, none⟩ = some (.pointer x)) (h2 : w.cell? ⟨b, 1, none⟩ = some (.int .i64 y)) (h3 : w.cell? ⟨b, 2, none⟩ = some (.int .i64 z)) :
    (results fn tmps).run Tryz.prog w = .ok (.tuple #[.agg #[.pointer x, .int .i64 y, .int .i64 z], tmps.getD u undef]) w := by
  have a60 := Tryz.isAgg295
  have z60 := Tryz.sizeOf295
  have u3 := Tryz.underlying3
  have a3 := Tryz.isAgg3
  have z3 := Tryz.sizeOf3
  have a4 := Tryz.isAgg105
  have z4 := Tryz.sizeOf105
  have u4 := Tryz.underlying105
  rw [results_cell_tmp h, hp]
  simp only [loadVar]
  go_simp
set_option maxRecDepth 100000 in
set_option maxHeartbeats 1000000 in
theorem storeOf_long (a : Option Addr) (n c : Nat) (room : Int) (w : World) (h : room < (n : Int)) :
    Calls Tryz.prog 184 #[.slice a n c, .int .i64 room] w fun e w' => (∃ y, e = .returned (.tuple #[.agg #[.pointer none, .int .i64 y, .int .i64 0], .int .i64 5])) ∧ Below w.heap.size w w' := by
  go_enter Tryz.func184, Tryz.ntmps184
  go_wp2
  refine bodyPost_ret (res_store rfl _ w.heap.size rfl none 0 0 (by simp only [World.cell?, heap_alloc_new]; rfl) (by simp only [World.cell?, heap_alloc_new]; rfl) (by simp only [World.cell?, heap_alloc_new]; rfl)) rfl ?_
  exact ⟨⟨_, rfl⟩, (Below.refl _ _).alloc (Nat.le_refl _) _⟩
set_option maxRecDepth 100000 in
set_option maxHeartbeats 1000000 in
theorem storeOf_good (v : Value) (l : List UInt8) (room : Int) (w : World) (hb : Bys w v l) (h : ¬ room < (l.length : Int)) (hl : l.length ≤ 1048576) :
    Calls Tryz.prog 184 #[v, .int .i64 room] w fun e w' => ∃ f b, e = .returned (.tuple #[.agg #[.pointer (some ⟨f, 0, none⟩), .int .i64 room, .int .i64 0], .int .i64 0]) ∧ FileAt w' f b l.length l ∧ w.heap.size ≤ f ∧ w.heap.size ≤ b ∧ Below w.heap.size w w' := by
  obtain ⟨a1, c1, rfl, -⟩ := bys_form hb
  have hB : Below w.heap.size w (w.alloc (Obj.cells #[Value.pointer none, Value.int IntKind.i64 0, Value.int IntKind.i64 0] 295)) := (Below.refl _ _).alloc (Nat.le_refl _) _
  have HB := hide (hb.below hB)
  clear hb
  go_enter Tryz.func184, Tryz.ntmps184
  go_wp2_with fail
  refine (Fi_new_good _ l _ HB.out hl).mono ?_
  rintro e w2 ⟨f, rfl, h1, h2, h3⟩
  have H1 := hide h1
  obtain ⟨z0, z1, z2, z3, z4, z5⟩ := new_zero3 h3
  have hwf : w.heap.size < f := Nat.lt_of_le_of_lt hB.size h2
  have hwb : w.heap.size < (w.alloc (Obj.cells #[Value.pointer none, Value.int IntKind.i64 0, Value.int IntKind.i64 0] 295)).heap.size := size_new _ _
  have hB2 := hB.trans (h3.mono hB.size)
  clear h1 h2 h3 hB HB
  generalize (w.alloc (Obj.cells #[Value.pointer none, Value.int IntKind.i64 0, Value.int IntKind.i64 0] 295)).heap.size = b at *
  go_wp2
  obtain ⟨W, hW⟩ : ∃ W, W = ((w2.setCell ⟨w.heap.size, 0, none⟩ (.pointer (some ⟨f, 0, none⟩))).setCell ⟨w.heap.size, 1, none⟩ (.int .i64 room)).setCell ⟨w.heap.size, 2, none⟩ (.int .i64 0) := ⟨_, rfl⟩
  rw [← hW]
  have y0 : W.cell? ⟨w.heap.size, 0, none⟩ = some (.pointer (some ⟨f, 0, none⟩)) := by
    rw [hW, World.cell?_setCell_other _ _ _ _ (by simp), World.cell?_setCell_other _ _ _ _ (by simp)]; exact World.cell?_setCell_same _ _ _ z0
  have y1 : W.cell? ⟨w.heap.size, 1, none⟩ = some (.int .i64 room) := by
    rw [hW, World.cell?_setCell_other _ _ _ _ (by simp)]; exact World.cell?_setCell_same _ _ _ ((World.cell?_setCell_other _ _ _ _ (by simp)).trans z1)
  have y2 : W.cell? ⟨w.heap.size, 2, none⟩ = some (.int .i64 0) := by
    rw [hW]; exact World.cell?_setCell_same _ _ _ ((World.cell?_setCell_other _ _ _ _ (by simp)).trans ((World.cell?_setCell_other _ _ _ _ (by simp)).trans z2))
  refine bodyPost_ret (res_store rfl _ w.heap.size rfl (some ⟨f, 0, none⟩) room 0 y0 y1 y2) rfl ?_
  have hT : Turned (fun k => k = w.heap.size) w2 W := by
    rw [hW]
    exact (((Turned.refl (fun k => k = w.heap.size) w2).set (.inl rfl)).set (.inl rfl)).set (.inl rfl)
  have hbl := H1.out.row.lt
  exact ⟨f, b, rfl, H1.out.keep (hT.block f H1.out.lt (by omega)) (hT.block b hbl (by omega)), by omega, by omega, hB2.trans (hT.below (fun k e => by omega) hB2.size)⟩
theorem mem_new {w w2 : World} {l : List UInt8} {f b room : Nat} {T : TypeId} (hF : FileAt w2 f b l.length l) (hf : w.heap.size ≤ f) (hb : w.heap.size ≤ b) (hB : Below w.heap.size w w2) (hl : l.length ≤ room) (hr : room ≤ 1048576) :
    MemAt (w2.alloc (Obj.cells #[.pointer (some ⟨f, 0, none⟩), .int .i64 (room : Int), .int .i64 0] T)) (fun k => w.heap.size ≤ k) w2.heap.size ⟨l, room, 0⟩ ∧ Below w.heap.size w (w2.alloc (Obj.cells #[.pointer (some ⟨f, 0, none⟩), .int .i64 (room : Int), .int .i64 0] T)) := by
  have hfl := hF.lt
  have hbl := hF.row.lt
  refine ⟨⟨f, b, l.length, ?_, ?_, ?_, ?_, hF.keep (Below.heap_alloc _ _ _ hfl) (Below.heap_alloc _ _ _ hbl), hB.size, hf, hb, by omega, by omega, hl, Nat.zero_le _, hr⟩, hB.alloc hB.size _⟩
  · simp only [World.cell?, heap_alloc_new]; rfl
  · simp only [World.cell?, heap_alloc_new]; rfl
  · simp only [World.cell?, heap_alloc_new]; rfl
  · simp only [World.frozen?, heap_alloc_new]; rfl
theorem mem_new2 {w w2 : World} {l : List UInt8} {f b room : Nat} {T : TypeId} (hF : FileAt w2 f b l.length l) (hf : w.heap.size ≤ f) (hb : w.heap.size ≤ b) (hB : Below w.heap.size w w2) (hl : l.length ≤ room) (hr : room ≤ 1048576) :
    MemAt ((w2.alloc (Obj.cells #[.pointer (some ⟨f, 0, none⟩), .int .i64 (room : Int), .int .i64 0] 295)).alloc (Obj.cells #[.pointer (some ⟨f, 0, none⟩), .int .i64 (room : Int), .int .i64 0] T)) (fun k => w.heap.size ≤ k) (w2.heap.size + 1) ⟨l, room, 0⟩ ∧ Below w.heap.size w ((w2.alloc (Obj.cells #[.pointer (some ⟨f, 0, none⟩), .int .i64 (room : Int), .int .i64 0] 295)).alloc (Obj.cells #[.pointer (some ⟨f, 0, none⟩), .int .i64 (room : Int), .int .i64 0] T)) := by
  have h1 := mem_new (w := w) (T := T) (hF.below (recv4 w2 (Obj.cells #[.pointer (some ⟨f, 0, none⟩), .int .i64 (room : Int), .int .i64 0] 295))) hf hb (hB.alloc hB.size _) hl hr
  have hs : (w2.alloc (Obj.cells #[.pointer (some ⟨f, 0, none⟩), .int .i64 (room : Int), .int .i64 0] 295)).heap.size = w2.heap.size + 1 := by simp
  rw [hs] at h1
  exact h1
set_option maxRecDepth 100000 in
set_option maxHeartbeats 1000000 in
theorem newGrowing_long (v : Value) (l : List UInt8) (w : World) (hb : Bys w v l) (hl : 1048576 < l.length) :
    Calls Tryz.prog 94 #[v] w fun e w' => e = .returned (.tuple #[.pointer none, .int .i64 5]) ∧ Below w.heap.size w w' := by
  obtain ⟨a1, c1, rfl, -⟩ := bys_form hb
  have HB := hide hb
  clear hb
  go_enter Tryz.func94, Tryz.ntmps94
  go_wp2_with fail
  refine (storeOf_long a1 l.length c1 1048576 w (by omega)).mono ?_
  rintro e w2 ⟨⟨y, rfl⟩, hB⟩
  go_wp2
  go_ret2
  exact ⟨rfl, hB.alloc hB.size _⟩
set_option maxRecDepth 100000 in
set_option maxHeartbeats 1000000 in
theorem newGrowing_good (v : Value) (l : List UInt8) (w : World) (hb : Bys w v l) (hl : l.length ≤ 1048576) :
    Calls Tryz.prog 94 #[v] w fun e w' => ∃ g, e = .returned (.tuple #[.pointer (some ⟨g, 0, none⟩), .int .i64 0]) ∧ MemAt w' (fun k => w.heap.size ≤ k) g ⟨l, 1048576, 0⟩ ∧ Below w.heap.size w w' := by
  obtain ⟨a1, c1, rfl, -⟩ := bys_form hb
  have HB := hide hb
  clear hb
  go_enter Tryz.func94, Tryz.ntmps94
  go_wp2_with fail
  refine (storeOf_good _ l 1048576 w HB.out (by omega) (by omega)).mono ?_
  rintro e w2 ⟨f, b, rfl, k1, k2, kb, k3⟩
  have K1 := hide k1
  clear k1
  go_wp2
  go_ret2
  obtain ⟨q1, q2⟩ := mem_new2 (room := 1048576) (T := 300) K1.out k2 kb k3 (by omega) (by omega)
  exact ⟨_, rfl, q1, q2⟩
set_option maxRecDepth 100000 in
set_option maxHeartbeats 1000000 in
theorem fmbytes_any (O : Nat → Prop) (g : Nat) (S : MS) (w : World) (h : MemAt w O g S) :
    Calls Tryz.prog 113 #[.pointer (some ⟨g, 0, none⟩)] w fun e w' => ∃ v, e = .returned v ∧ w'.ownsRow w.heap.size 5 1 v S.l.length (S.l.map bv) ∧ Below w.heap.size w w' := by
  have HR := hide (sall_any O g S w h)
  clear h
  go_enter Tryz.func113, Tryz.ntmps113
  go_wp2_with fail
  refine HR.out.mono ?_
  rintro e w2 ⟨v, rfl, h1, h2⟩
  have H1 := hide h1
  clear h1 HR
  go_wp2
  go_ret
  exact ⟨v, rfl, H1.out, h2⟩
set_option maxRecDepth 100000 in
set_option maxHeartbeats 1000000 in
theorem gmread_any (O : Nat → Prop) (g : Nat) (S : MS) (n : Int) (w : World) (h : MemAt w O g S) :
    Calls Tryz.prog 310 #[.pointer (some ⟨g, 0, none⟩), .int .i64 n] w fun e w' => ∃ v, e = .returned (.tuple #[v, .int .i64 (S.read n).2.1]) ∧ w'.ownsRow w.heap.size 5 1 v (S.read n).1.length ((S.read n).1.map bv) ∧ MemAt w' O g (S.read n).2.2 ∧ Turned O w w' := by
  have HR := hide (sread_any O g S n w h)
  clear h
  go_enter Tryz.func310, Tryz.ntmps310
  go_wp2_with fail
  refine HR.out.mono ?_
  rintro e w2 ⟨v, rfl, h1, h2, h3⟩
  have H1 := hide h1
  have H2 := hide h2
  have H3 := hide h3
  clear h1 h2 h3 HR
  go_wp2
  go_ret2
  exact ⟨v, rfl, H1.out, H2.out, H3.out⟩
set_option maxRecDepth 100000 in
set_option maxHeartbeats 1000000 in
theorem gmseek_any (O : Nat → Prop) (g : Nat) (S : MS) (off wh : Int) (w : World) (h : MemAt w O g S) :
    Calls Tryz.prog 311 #[.pointer (some ⟨g, 0, none⟩), .int .i64 off, .int .i64 wh] w fun e w' => e = .returned (.tuple #[.int .i64 (S.seek off wh).1, .int .i64 (S.seek off wh).2.1]) ∧ MStep w O g (S.seek off wh).2.2 w' := by
  have HR := hide (sseek_any O g S off wh w h)
  clear h
  go_enter Tryz.func311, Tryz.ntmps311
  go_wp2_with fail
  refine HR.out.mono ?_
  rintro e w2 ⟨rfl, h1⟩
  have H1 := hide h1
  clear h1 HR
  go_wp2
  go_ret2
  exact ⟨rfl, H1.out⟩
set_option maxRecDepth 100000 in
set_option maxHeartbeats 1000000 in
theorem gmwrite_any (O : Nat → Prop) (g : Nat) (S : MS) (x : List UInt8) (a : Option Addr) (c : Nat) (w : World) (h : MemAt w O g S) (hx : Bys w (.slice a x.length c) x) (hc : x.length ≤ c) (hap : 0 < x.length → ∀ k, (Value.slice a x.length c).ownBlock = some k → ¬ O k) :
    Calls Tryz.prog 312 #[.pointer (some ⟨g, 0, none⟩), .slice a x.length c] w fun e w' => e = .returned (.tuple #[.int .i64 (S.write x).1, .int .i64 (S.write x).2.1]) ∧ MStep w O g (S.write x).2.2 w' := by
  have HR := hide (swrite_any O g S x a c w h hx hc hap)
  clear h hx hap
  go_enter Tryz.func312, Tryz.ntmps312
  go_wp2_with fail
  refine HR.out.mono ?_
  rintro e w2 ⟨rfl, h1⟩
  have H1 := hide h1
  clear h1 HR
  go_wp2
  go_ret2
  exact ⟨rfl, H1.out⟩
set_option maxRecDepth 100000 in
set_option maxHeartbeats 1000000 in
theorem gmbytes_any (O : Nat → Prop) (g : Nat) (S : MS) (w : World) (h : MemAt w O g S) :
    Calls Tryz.prog 103 #[.pointer (some ⟨g, 0, none⟩)] w fun e w' => ∃ v, e = .returned v ∧ w'.ownsRow w.heap.size 5 1 v S.l.length (S.l.map bv) ∧ Below w.heap.size w w' := by
  have HR := hide (sall_any O g S w h)
  clear h
  go_enter Tryz.func103, Tryz.ntmps103
  go_wp2_with fail
  refine HR.out.mono ?_
  rintro e w2 ⟨v, rfl, h1, h2⟩
  have H1 := hide h1
  clear h1 HR
  go_wp2
  go_ret
  exact ⟨v, rfl, H1.out, h2⟩
end Go.Proofs.YtdmkjbdlidadiaaGreat

/- A custom stream, as a value and in memory; isMade, Seek, Taken; an answer is used up. -/
namespace Go.Proofs.YtdmkjbdlidadiaaGreat
open Go.RowKit

structure CS where
  reads : List (List UInt8 × Int)
  writes : List Int
  taken : List UInt8
def nrm (x : List UInt8 × Int) : List UInt8 × Int := if x.2 = 0 then x else ([], x.2)
def CS.read (C : CS) (n : Int) : List UInt8 × Int × CS :=
  if inR n = false then ([], 4, C) else if n = 0 then ([], 0, C) else match C.reads with
    | [] => ([], 0, C)
    | x :: r => if x.2 ≠ 0 then ([], x.2, ⟨r, C.writes, C.taken⟩)
      else if n.toNat < x.1.length then (x.1.take n.toNat, 0, ⟨(x.1.drop n.toNat, 0) :: r, C.writes, C.taken⟩) else (x.1, 0, ⟨r, C.writes, C.taken⟩)
def CS.write (C : CS) (x : List UInt8) : Int × Int × CS :=
  if 1048576 < x.length then (0, 5, C) else if x = [] then (0, 0, C) else match C.writes with
    | [] => (x.length, 0, ⟨C.reads, [], C.taken ++ x⟩)
    | k :: r => if k < 0 then (0, 101, ⟨C.reads, r, C.taken⟩) else ((min k.toNat x.length : Nat), 0, ⟨C.reads, r, C.taken ++ x.take (min k.toNat x.length)⟩)

def Ans1 (W : World) (R : Nat → Prop) (b o : Nat) (x : List UInt8 × Int) : Prop :=
  ∃ va vc, W.cell? ⟨b, o, none⟩ = some (.slice va x.1.length vc) ∧ W.cell? ⟨b, o + 1, none⟩ = some (.int .i64 x.2) ∧ W.frozen? ⟨b, o, none⟩ = false ∧ W.frozen? ⟨b, o + 1, none⟩ = false ∧ Bys W (.slice va x.1.length vc) x.1 ∧ x.1.length ≤ vc ∧ (0 < x.1.length → ∀ k, (Value.slice va x.1.length vc).ownBlock = some k → R k)
def Ans (W : World) (R : Nat → Prop) (v : Value) (l : List (List UInt8 × Int)) : Prop :=
  ∃ a cap, v = .slice a l.length cap ∧ l.length ≤ cap ∧ (0 < l.length → ∃ b off, a = some ⟨b, off, none⟩ ∧ R b ∧ ∀ j (hj : j < l.length), Ans1 W R b (off + j * 2) l[j])
def NRow (W : World) (R : Nat → Prop) (v : Value) (l : List Int) : Prop :=
  ∃ a cap, v = .slice a l.length cap ∧ l.length ≤ cap ∧ (0 < l.length → ∃ b off, a = some ⟨b, off, none⟩ ∧ R b ∧ ∀ j (hj : j < l.length), W.cell? ⟨b, off + j, none⟩ = some (.int .i64 l[j]))
theorem bys_void2 {W W' : World} {v : Value} {l : List UInt8} (h : Bys W v l) (h0 : ¬ 0 < l.length) : Bys W' v l := by
  rcases h with h | h | ⟨b, off, cap, rfl, h1, -⟩
  · exact .inl h
  · exact .inr (.inl h)
  · exact absurd h1 h0
theorem Ans1.keep {W W' : World} {R : Nat → Prop} {b o : Nat} {x : List UInt8 × Int} (h : Ans1 W R b o x) (hb : R b) (hk : ∀ k, R k → k < W.heap.size → W'.heap[k]? = W.heap[k]?) : Ans1 W' R b o x := by
  obtain ⟨va, vc, h1, h2, h3, h4, h5, h6, h7⟩ := h
  have kb := hk b hb (World.block_lt_of_cell? W _ h1)
  refine ⟨va, vc, (World.cell?_of_block (w := W) kb).trans h1, (World.cell?_of_block (w := W) kb).trans h2, (World.frozen?_of_block (w := W) kb).trans h3, (World.frozen?_of_block (w := W) kb).trans h4, ?_, h6, h7⟩
  by_cases h0 : 0 < x.1.length
  · exact h5.keep fun k e hl => hk k (h7 h0 k e) hl
  · exact bys_void2 h5 h0
theorem Ans.keep {W W' : World} {R : Nat → Prop} {v : Value} {l : List (List UInt8 × Int)} (h : Ans W R v l) (hk : ∀ k, R k → k < W.heap.size → W'.heap[k]? = W.heap[k]?) : Ans W' R v l := by
  obtain ⟨a, cap, rfl, h1, h2⟩ := h
  refine ⟨a, cap, rfl, h1, fun h0 => ?_⟩
  obtain ⟨b, off, rfl, hb, hc⟩ := h2 h0
  exact ⟨b, off, rfl, hb, fun j hj => (hc j hj).keep hb hk⟩
theorem NRow.keep {W W' : World} {R : Nat → Prop} {v : Value} {l : List Int} (h : NRow W R v l) (hk : ∀ k, R k → k < W.heap.size → W'.heap[k]? = W.heap[k]?) : NRow W' R v l := by
  obtain ⟨a, cap, rfl, h1, h2⟩ := h
  refine ⟨a, cap, rfl, h1, fun h0 => ?_⟩
  obtain ⟨b, off, rfl, hb, hc⟩ := h2 h0
  exact ⟨b, off, rfl, hb, fun j hj => (World.cell?_of_block (w := W) (a := ⟨b, off + j, none⟩) (hk b hb (World.block_lt_of_cell? W _ (hc j hj)))).trans (hc j hj)⟩
theorem Bys.set {W : World} {v : Value} {l : List UInt8} {p : Addr} {c : Value} (h : Bys W v l) (hp : W.cell? p = some c) (hc : ∀ k, c ≠ .int .u8 k) (u : Value) : Bys (W.setCell p u) v l := by
  rcases h with h | h | ⟨b, off, cap, rfl, h0, hd⟩
  · exact .inl h
  · exact .inr (.inl h)
  · refine .inr (.inr ⟨b, off, cap, rfl, h0, fun j hj => ?_⟩)
    rw [World.cell?_setCell_other _ _ _ _ (fun e => ?_)]
    · exact hd j hj
    · have h1 := hd j hj
      rw [← e, hp] at h1
      exact hc _ (Option.some.inj h1)
theorem Ans1.set {W : World} {R : Nat → Prop} {b o : Nat} {x : List UInt8 × Int} {p : Addr} {c : Value} (h : Ans1 W R b o x) (hp : W.cell? p = some c) (hc : ∀ k, c ≠ .int .u8 k) (h0 : p ≠ ⟨b, o, none⟩) (h1 : p ≠ ⟨b, o + 1, none⟩) (u : Value) : Ans1 (W.setCell p u) R b o x := by
  obtain ⟨va, vc, a1, a2, a3, a4, a5, a6, a7⟩ := h
  exact ⟨va, vc, (World.cell?_setCell_other _ _ _ _ h0).trans a1, (World.cell?_setCell_other _ _ _ _ h1).trans a2, (World.frozen?_setCell _ _ _ _).trans a3, (World.frozen?_setCell _ _ _ _).trans a4, a5.set hp hc u, a6, a7⟩
theorem NRow.set {W : World} {R : Nat → Prop} {v : Value} {l : List Int} {p : Addr} {c : Value} (h : NRow W R v l) (hp : W.cell? p = some c) (hc : (∀ k, c ≠ .int .i64 k) ∨ ∀ k, R k → k ≠ p.block) (u : Value) : NRow (W.setCell p u) R v l := by
  obtain ⟨a, cap, rfl, h1, h2⟩ := h
  refine ⟨a, cap, rfl, h1, fun h0 => ?_⟩
  obtain ⟨b, off, rfl, hb, hd⟩ := h2 h0
  refine ⟨b, off, rfl, hb, fun j hj => ?_⟩
  rw [World.cell?_setCell_other _ _ _ _ (fun e => ?_)]
  · exact hd j hj
  · rcases hc with hc | hc
    · have h1 := hd j hj
      rw [← e, hp] at h1
      exact hc _ (Option.some.inj h1)
    · exact hc b hb (by rw [e])

def CusAt (W : World) (O : Nat → Prop) (g : Nat) (C : CS) : Prop :=
  ∃ rv wv tv, ∃ R N : Nat → Prop, (W.cell? ⟨g, 0, none⟩ = some (.bool true) ∧ W.cell? ⟨g, 1, none⟩ = some rv ∧ W.cell? ⟨g, 2, none⟩ = some wv ∧ W.cell? ⟨g, 3, none⟩ = some tv) ∧
    (W.frozen? ⟨g, 1, none⟩ = false ∧ W.frozen? ⟨g, 2, none⟩ = false ∧ W.frozen? ⟨g, 3, none⟩ = false) ∧
    Ans W R rv (C.reads.map nrm) ∧ NRow W N wv C.writes ∧ W.ownsRow 0 5 1 tv C.taken.length (C.taken.map bv) ∧
    (∀ k, tv.ownBlock = some k → O k ∧ ¬ R k ∧ ¬ N k ∧ k ≠ g) ∧ (∀ k, R k → O k ∧ k ≠ g ∧ ¬ N k) ∧ (∀ k, N k → O k ∧ k ≠ g) ∧ O g ∧ C.reads.length ≤ 4096 ∧ C.writes.length ≤ 4096 ∧ ∀ x ∈ C.reads, x.1.length ≤ 1048576
def CStep (w : World) (O : Nat → Prop) (g : Nat) (C : CS) (w' : World) : Prop := ∃ O', CusAt w' O' g C ∧ (∀ k, O' k → O k ∨ w.heap.size ≤ k) ∧ Turned O w w'
theorem CusAt.keep {W W' : World} {O : Nat → Prop} {g : Nat} {C : CS} (h : CusAt W O g C) (hk : ∀ j, O j → j < W.heap.size → W'.heap[j]? = W.heap[j]?) : CusAt W' O g C := by
  obtain ⟨rv, wv, tv, R, N, ⟨h0, h1, h2, h3⟩, ⟨f1, f2, f3⟩, hA, hN, hT, ht, hR, hN2, og, rest⟩ := h
  have kg := hk g og (World.block_lt_of_cell? W _ h0)
  exact ⟨rv, wv, tv, R, N, ⟨(World.cell?_of_block (w := W) kg).trans h0, (World.cell?_of_block (w := W) kg).trans h1, (World.cell?_of_block (w := W) kg).trans h2, (World.cell?_of_block (w := W) kg).trans h3⟩,
    ⟨(World.frozen?_of_block (w := W) kg).trans f1, (World.frozen?_of_block (w := W) kg).trans f2, (World.frozen?_of_block (w := W) kg).trans f3⟩,
    hA.keep fun k e hl => hk k (hR k e).1 hl, hN.keep fun k e hl => hk k (hN2 k e).1 hl, owns_keep hT fun k e => hk k (ht k e).1 (hT.lt k e).2, ht, hR, hN2, og, rest⟩
theorem CusAt.below {W W' : World} {O : Nat → Prop} {g : Nat} {C : CS} (h : CusAt W O g C) (hB : Below W.heap.size W W') : CusAt W' O g C := h.keep fun j _ hl => hB.block j hl
theorem CusAt.trim {W : World} {O : Nat → Prop} {g : Nat} {C : CS} (h : CusAt W O g C) : CusAt W (fun k => O k ∧ k < W.heap.size) g C := by
  obtain ⟨rv, wv, tv, R, N, ⟨h0, h1, h2, h3⟩, hf, hA, hN, hT, ht, hR, hN2, og, rest⟩ := h
  have hgl := World.block_lt_of_cell? W _ h0
  refine ⟨rv, wv, tv, fun k => R k ∧ k < W.heap.size, fun k => N k ∧ k < W.heap.size, ⟨h0, h1, h2, h3⟩, hf, ?_, ?_, hT, fun k e => ⟨⟨(ht k e).1, (hT.lt k e).2⟩, fun x => (ht k e).2.1 x.1, fun x => (ht k e).2.2.1 x.1, (ht k e).2.2.2⟩, fun k e => ⟨⟨(hR k e.1).1, e.2⟩, (hR k e.1).2.1, fun x => (hR k e.1).2.2 x.1⟩, fun k e => ⟨⟨(hN2 k e.1).1, e.2⟩, (hN2 k e.1).2⟩, ⟨og, hgl⟩, rest⟩
  · obtain ⟨a, cap, rfl, b1, b2⟩ := hA
    refine ⟨a, cap, rfl, b1, fun h0 => ?_⟩
    obtain ⟨b, off, rfl, hb, hc⟩ := b2 h0
    refine ⟨b, off, rfl, ⟨hb, ?_⟩, fun j hj => ?_⟩
    · obtain ⟨va, vc, a1, _⟩ := hc 0 h0
      exact World.block_lt_of_cell? W _ a1
    · obtain ⟨va, vc, a1, a2, a3, a4, a5, a6, a7⟩ := hc j hj
      refine ⟨va, vc, a1, a2, a3, a4, a5, a6, fun h0 k e => ⟨a7 h0 k e, ?_⟩⟩
      obtain ⟨_, yb, yo, rfl, yl, _⟩ := bys_block a5 h0
      obtain rfl : yb = k := by simpa [Value.ownBlock] using e
      exact yl
  · obtain ⟨a, cap, rfl, b1, b2⟩ := hN
    refine ⟨a, cap, rfl, b1, fun h0 => ?_⟩
    obtain ⟨b, off, rfl, hb, hc⟩ := b2 h0
    exact ⟨b, off, rfl, ⟨hb, World.block_lt_of_cell? W _ (hc 0 h0)⟩, hc⟩
theorem cus_rows {W : World} {R N : Nat → Prop} {rv wv : Value} {l : List (List UInt8 × Int)} {ws : List Int} (hA : Ans W R rv l) (hN : NRow W N wv ws) : Ans W (fun k => R k ∧ k < W.heap.size) rv l ∧ NRow W (fun k => N k ∧ k < W.heap.size) wv ws := by
  constructor
  · obtain ⟨a, cap, rfl, b1, b2⟩ := hA
    refine ⟨a, cap, rfl, b1, fun h0 => ?_⟩
    obtain ⟨b, off, rfl, hb, hc⟩ := b2 h0
    refine ⟨b, off, rfl, ⟨hb, ?_⟩, fun j hj => ?_⟩
    · obtain ⟨va, vc, a1, _⟩ := hc 0 h0
      exact World.block_lt_of_cell? W _ a1
    · obtain ⟨va, vc, a1, a2, a3, a4, a5, a6, a7⟩ := hc j hj
      refine ⟨va, vc, a1, a2, a3, a4, a5, a6, fun h0 k e => ⟨a7 h0 k e, ?_⟩⟩
      obtain ⟨_, yb, yo, rfl, yl, _⟩ := bys_block a5 h0
      obtain rfl : yb = k := by simpa [Value.ownBlock] using e
      exact yl
  · obtain ⟨a, cap, rfl, b1, b2⟩ := hN
    refine ⟨a, cap, rfl, b1, fun h0 => ?_⟩
    obtain ⟨b, off, rfl, hb, hc⟩ := b2 h0
    exact ⟨b, off, rfl, ⟨hb, World.block_lt_of_cell? W _ (hc 0 h0)⟩, hc⟩
theorem CStep.same {w : World} {O : Nat → Prop} {g : Nat} {C : CS} (h : CusAt w O g C) : CStep w O g C w := ⟨O, h, fun _ e => .inl e, Turned.refl _ _⟩
theorem CStep.below {w w' : World} {O : Nat → Prop} {g : Nat} {C : CS} (h : CusAt w O g C) (hB : Below w.heap.size w w') : CStep w O g C w' := ⟨O, h.below hB, fun _ e => .inl e, Turned.of_below hB⟩

theorem Ans.head {W : World} {R : Nat → Prop} {v : Value} {x : List UInt8 × Int} {r : List (List UInt8 × Int)} (h : Ans W R v (x :: r)) :
    ∃ b off cap, v = .slice (some ⟨b, off, none⟩) (r.length + 1) cap ∧ r.length + 1 ≤ cap ∧ R b ∧ Ans1 W R b off x ∧ ∀ j (hj : j < r.length), Ans1 W R b (off + 2 + j * 2) r[j] := by
  obtain ⟨a, cap, rfl, h1, h2⟩ := h
  obtain ⟨b, off, rfl, hb, hc⟩ := h2 (by simp)
  refine ⟨b, off, cap, rfl, h1, hb, by have h := hc 0 (Nat.succ_pos _); rw [Nat.zero_mul, Nat.add_zero] at h; exact h, fun j hj => ?_⟩
  have := hc (j + 1) (by simpa using hj)
  rw [show off + (j + 1) * 2 = off + 2 + j * 2 by omega] at this
  simpa using this
end Go.Proofs.YtdmkjbdlidadiaaGreat

/- A custom stream is made: copiedAnswers. -/
namespace Go.Proofs.YtdmkjbdlidadiaaGreat
open Go.RowKit

def AnsR (W : World) (v : Value) (l : List (List UInt8 × Int)) : Prop :=
  ∃ a cap, v = .slice a l.length cap ∧ (0 < l.length → ∃ b off, a = some ⟨b, off, none⟩ ∧ ∀ j (hj : j < l.length), ∃ va vc, W.cell? ⟨b, off + j * 2, none⟩ = some (.slice va l[j].1.length vc) ∧ W.cell? ⟨b, off + j * 2 + 1, none⟩ = some (.int .i64 l[j].2) ∧ Bys W (.slice va l[j].1.length vc) l[j].1 ∧ l[j].1.length ≤ vc)
theorem AnsR.below {W W' : World} {v : Value} {l : List (List UInt8 × Int)} (h : AnsR W v l) (hB : Below W.heap.size W W') : AnsR W' v l := by
  obtain ⟨a, cap, rfl, h2⟩ := h
  refine ⟨a, cap, rfl, fun h0 => ?_⟩
  obtain ⟨b, off, rfl, hd⟩ := h2 h0
  refine ⟨b, off, rfl, fun j hj => ?_⟩
  obtain ⟨va, vc, a1, a2, a3, a4⟩ := hd j hj
  have hl := World.block_lt_of_cell? W _ a1
  exact ⟨va, vc, (hB.cell (p := ⟨b, off + j * 2, none⟩) hl).trans a1, (hB.cell (p := ⟨b, off + j * 2 + 1, none⟩) hl).trans a2, a3.below hB, a4⟩
def Zer (W : World) (b o : Nat) : Prop := W.cell? ⟨b, o, none⟩ = some (.slice none 0 0) ∧ W.cell? ⟨b, o + 1, none⟩ = some (.int .i64 0) ∧ W.frozen? ⟨b, o, none⟩ = false ∧ W.frozen? ⟨b, o + 1, none⟩ = false
def AInv (W : World) (R : Nat → Prop) (b k : Nat) (l : List (List UInt8 × Int)) : Prop := ∀ j (hj : j < l.length), (j < k → Ans1 W R b (j * 2) (nrm l[j])) ∧ (k ≤ j → Zer W b (j * 2))
theorem Zer.keep {W W' : World} {b o : Nat} (h : Zer W b o) (hk : W'.heap[b]? = W.heap[b]?) : Zer W' b o :=
  ⟨(World.cell?_of_block (w := W) hk).trans h.1, (World.cell?_of_block (w := W) hk).trans h.2.1, (World.frozen?_of_block (w := W) hk).trans h.2.2.1, (World.frozen?_of_block (w := W) hk).trans h.2.2.2⟩
theorem AInv.below {W W' : World} {R : Nat → Prop} {b k : Nat} {l : List (List UInt8 × Int)} (h : AInv W R b k l) (hb : R b) (hB : Below W.heap.size W W') : AInv W' R b k l := fun j hj =>
  ⟨fun e => ((h j hj).1 e).keep hb (fun x _ hl => hB.block x hl), fun e => ((h j hj).2 e).keep (hB.block b (World.block_lt_of_cell? W _ ((h j hj).2 e).1))⟩
def AOth (W : World) (R : Nat → Prop) (b k : Nat) (l : List (List UInt8 × Int)) : Prop := ∀ j (hj : j < l.length), j ≠ k → (j < k → Ans1 W R b (j * 2) (nrm l[j])) ∧ (k ≤ j → Zer W b (j * 2))
theorem AInv.oth {W : World} {R : Nat → Prop} {b k : Nat} {l : List (List UInt8 × Int)} (h : AInv W R b k l) : AOth W R b k l := fun j hj _ => h j hj
theorem AOth.below {W W' : World} {R : Nat → Prop} {b k : Nat} {l : List (List UInt8 × Int)} (h : AOth W R b k l) (hb : R b) (hB : Below W.heap.size W W') : AOth W' R b k l := fun j hj hn =>
  ⟨fun e => ((h j hj hn).1 e).keep hb (fun x _ hl => hB.block x hl), fun e => ((h j hj hn).2 e).keep (hB.block b (World.block_lt_of_cell? W _ ((h j hj hn).2 e).1))⟩
theorem AOth.set {W : World} {R : Nat → Prop} {b k o : Nat} {l : List (List UInt8 × Int)} {c : Value} (h : AOth W R b k l) (hp : W.cell? ⟨b, o, none⟩ = some c) (hc : ∀ x, c ≠ .int .u8 x) (ho : o = k * 2 ∨ o = k * 2 + 1) (u : Value) : AOth (W.setCell ⟨b, o, none⟩ u) R b k l := fun j hj hn => by
  have e1 : (⟨b, o, none⟩ : Addr) ≠ ⟨b, j * 2, none⟩ := by simp <;> omega
  have e2 : (⟨b, o, none⟩ : Addr) ≠ ⟨b, j * 2 + 1, none⟩ := by simp <;> omega
  refine ⟨fun e => ((h j hj hn).1 e).set hp hc e1 e2 u, fun e => ?_⟩
  obtain ⟨a1, a2, a3, a4⟩ := (h j hj hn).2 e
  exact ⟨(World.cell?_setCell_other _ _ _ _ e1).trans a1, (World.cell?_setCell_other _ _ _ _ e2).trans a2, (World.frozen?_setCell _ _ _ _).trans a3, (World.frozen?_setCell _ _ _ _).trans a4⟩
theorem AOth.next {W : World} {R : Nat → Prop} {b k : Nat} {l : List (List UInt8 × Int)} (h : AOth W R b k l) (hk : k < l.length) (h2 : Ans1 W R b (k * 2) (nrm l[k])) : AInv W R b (k + 1) l := fun j hj => by
  by_cases hjk : j = k
  · subst hjk
    exact ⟨fun _ => h2, fun e => absurd e (by omega)⟩
  · exact ⟨fun e => (h j hj hjk).1 (by omega), fun e => (h j hj hjk).2 (by omega)⟩
end Go.Proofs.YtdmkjbdlidadiaaGreat

/- A custom stream is made. -/
namespace Go.Proofs.YtdmkjbdlidadiaaGreat
open Go.RowKit

def IntsR (W : World) (v : Value) (l : List Int) : Prop :=
  (v = .slice none 0 0 ∧ l = []) ∨ ∃ q cap, v = .slice (some q) l.length cap ∧ (0 < l.length → ∃ b off, q = ⟨b, off, none⟩ ∧ ∀ j (hj : j < l.length), W.cell? ⟨b, off + j, none⟩ = some (.int .i64 l[j]))
theorem IntsR.below {W W' : World} {v : Value} {l : List Int} (h : IntsR W v l) (hB : Below W.heap.size W W') : IntsR W' v l := by
  rcases h with h | ⟨q, cap, rfl, h2⟩
  · exact .inl h
  · refine .inr ⟨q, cap, rfl, fun h0 => ?_⟩
    obtain ⟨b, off, rfl, hd⟩ := h2 h0
    exact ⟨b, off, rfl, fun j hj => (hB.cell (p := ⟨b, off + j, none⟩) (World.block_lt_of_cell? W _ (hd j hj))).trans (hd j hj)⟩
theorem IntsR.form {W : World} {v : Value} {l : List Int} (h : IntsR W v l) : ∃ a c, v = .slice a l.length c := by
  rcases h with ⟨rfl, rfl⟩ | ⟨q, cap, rfl, _⟩
  · exact ⟨_, _, rfl⟩
  · exact ⟨_, _, rfl⟩
def iv (x : Int) : Value := .int .i64 x
end Go.Proofs.YtdmkjbdlidadiaaGreat

/- The reference's memories: made; which memories may be. -/
namespace Go.Proofs.YtdmkjbdlidadiaaGreat
open Go.RowKit

set_option maxHeartbeats 1000000 in
theorem rcopied_me (v : Value) (l : List UInt8) (w : World) (h : Bys w v l) (hs : l.length ≤ 140737488351232) :
    Calls Tryz.prog 183 #[v] w fun e w' => ∃ a c, e = .returned (.slice a l.length c) ∧ w'.ownsRow w.heap.size 5 1 (.slice a l.length c) l.length (l.map bv) ∧ Below w.heap.size w w' := by
  obtain ⟨s', w1, hrun, HO, hg, hb⟩ := run_append_bytes w 40 w.heap.size (.slice none 0 0) v [] l (World.ownsRow_nil _ _ _ _) h (by simpa using hs) (Nat.le_refl _)
  have HR := hide hrun
  have HB : Hid (Below w.heap.size w w1) := hide ((Below.refl _ _).grown hg (Nat.le_refl _) (fun j e => by cases e))
  simp only [List.nil_append] at HO
  obtain ⟨a, c, rfl⟩ := owns_slice HO.out
  clear hrun hg hb
  obtain ⟨a1, c1, rfl, -⟩ := bys_form h
  clear h
  go_enter Tryz.func183, Tryz.ntmps183
  go_wp2_with (at_builtin; refine Lib.wpList_append_run _ rfl _ _ _ _ rfl _ _ rfl rfl _ _ HR.out ?_)
  go_ret
  exact ⟨_, _, rfl, HO.out, HB.out⟩
def rmc (kind : Int) (v : Value) (room pl : Int) (rv wv : Value) (m : Int) : Array Value := #[.int .i64 kind, v, .int .i64 room, .int .i64 pl, rv, wv, .pointer none, .int .i64 0, .int .i64 m]
def RMemAt (W : World) (O : Nat → Prop) (g : Nat) (kind : Int) (S : MS) : Prop :=
  ∃ a c m, W.heap[g]? = some (.cells (rmc kind (.slice a S.l.length c) S.room S.pl (.slice none 0 0) (.slice none 0 0) m) 196) ∧
    W.ownsRow 0 5 1 (.slice a S.l.length c) S.l.length (S.l.map bv) ∧ (∀ k, (Value.slice a S.l.length c).ownBlock = some k → O k ∧ k ≠ g) ∧ O g ∧ S.l.length ≤ S.room ∧ S.pl ≤ S.room ∧ S.room ≤ 1048576
theorem RMemAt.keep {W W' : World} {O : Nat → Prop} {g : Nat} {kind : Int} {S : MS} (h : RMemAt W O g kind S) (hk : ∀ j, O j → j < W.heap.size → W'.heap[j]? = W.heap[j]?) : RMemAt W' O g kind S := by
  obtain ⟨a, c, m, h1, hr, hb, og, rest⟩ := h
  exact ⟨a, c, m, (hk g og (Array.getElem?_eq_some_iff.1 h1).1).trans h1, owns_keep hr fun k e => hk k (hb k e).1 (hr.lt k e).2, hb, og, rest⟩
theorem RMemAt.trim {W : World} {O : Nat → Prop} {g : Nat} {kind : Int} {S : MS} (h : RMemAt W O g kind S) : RMemAt W (fun k => O k ∧ k < W.heap.size) g kind S := by
  obtain ⟨a, c, m, h1, hr, hb, og, rest⟩ := h
  exact ⟨a, c, m, h1, hr, fun k e => ⟨⟨(hb k e).1, (hr.lt k e).2⟩, (hb k e).2⟩, ⟨og, (Array.getElem?_eq_some_iff.1 h1).1⟩, rest⟩
theorem RMemAt.mono {W : World} {O O' : Nat → Prop} {g : Nat} {kind : Int} {S : MS} (h : RMemAt W O g kind S) (ho : ∀ j, O j → O' j) : RMemAt W O' g kind S := by
  obtain ⟨a, c, m, h1, hr, hb, og, rest⟩ := h
  exact ⟨a, c, m, h1, hr, fun k e => ⟨ho _ (hb k e).1, (hb k e).2⟩, ho _ og, rest⟩
theorem rmem_new {w0 w1 : World} {l : List UInt8} {a : Option Addr} {c room : Nat} {kind : Int} (hr : w1.ownsRow w0.heap.size 5 1 (.slice a l.length c) l.length (l.map bv)) (hB : Below w0.heap.size w0 w1) (hl : l.length ≤ room) (hm : room ≤ 1048576) :
    RMemAt (w1.alloc (Obj.cells #[.int .i64 kind, .slice a l.length c, .int .i64 (room : Int), .int .i64 0, .slice none 0 0, .slice none 0 0, .pointer none, .int .i64 0, .int .i64 0] 196)) (fun k => w0.heap.size ≤ k) w1.heap.size kind ⟨l, room, 0⟩ ∧ Below w0.heap.size w0 (w1.alloc (Obj.cells #[.int .i64 kind, .slice a l.length c, .int .i64 (room : Int), .int .i64 0, .slice none 0 0, .slice none 0 0, .pointer none, .int .i64 0, .int .i64 0] 196)) := by
  have hb := recv4 w1 (Obj.cells #[.int .i64 kind, .slice a l.length c, .int .i64 (room : Int), .int .i64 0, .slice none 0 0, .slice none 0 0, .pointer none, .int .i64 0, .int .i64 0] 196)
  exact ⟨⟨a, c, 0, heap_alloc_new _ _, owns_mono (owns_below hr hb) (Nat.zero_le _), fun k e => ⟨(hr.lt k e).1, by have := (hr.lt k e).2; omega⟩, hB.size, hl, Nat.zero_le _, hm⟩, hB.alloc hB.size _⟩
def grE (l : List UInt8) : Int := if 1048576 < l.length then 5 else 0
def PNewM (E : Int) (S : MS) (w : World) (e : Ending) (w' : World) : Prop := ∃ p, e = .returned (.tuple #[.pointer p, .int .i64 E]) ∧ Below w.heap.size w w' ∧ ((E ≠ 0 ∧ p = none) ∨ (E = 0 ∧ ∃ g, p = some ⟨g, 0, none⟩ ∧ MemAt w' (fun k => w.heap.size ≤ k) g S))
def RNewM (E : Int) (kind : Int) (S : MS) (w : World) (e : Ending) (w' : World) : Prop := ∃ p, e = .returned (.tuple #[.pointer p, .int .i64 E]) ∧ Below w.heap.size w w' ∧ ((E ≠ 0 ∧ p = none) ∨ (E = 0 ∧ ∃ g, p = some ⟨g, 0, none⟩ ∧ RMemAt w' (fun k => w.heap.size ≤ k) g kind S))
theorem newGrowing_any (v : Value) (l : List UInt8) (w : World) (hb : Bys w v l) : Calls Tryz.prog 94 #[v] w (PNewM (grE l) ⟨l, 1048576, 0⟩ w) := by
  unfold grE
  by_cases h1 : 1048576 < l.length
  · rw [if_pos h1]
    refine (newGrowing_long v l w hb h1).mono ?_
    rintro e w' ⟨rfl, hB⟩
    exact ⟨_, rfl, hB, .inl ⟨by decide, rfl⟩⟩
  · rw [if_neg h1]
    refine (newGrowing_good v l w hb (by omega)).mono ?_
    rintro e w' ⟨g, rfl, hM, hB⟩
    exact ⟨_, rfl, hB, .inr ⟨rfl, g, rfl, hM⟩⟩
set_option maxRecDepth 100000 in
set_option maxHeartbeats 1000000 in
theorem rnewGrowing_any (v : Value) (l : List UInt8) (w : World) (hb : Bys w v l) : Calls Tryz.prog 93 #[v] w (RNewM (grE l) 2 ⟨l, 1048576, 0⟩ w) := by
  have HB := hide hb
  obtain ⟨a1, c1, rfl, -⟩ := bys_form hb
  clear hb
  unfold grE
  by_cases h1 : 1048576 < l.length
  · rw [if_pos h1]
    have h2 : (1048576 : Int) < (l.length : Int) := by omega
    go_enter Tryz.func93, Tryz.ntmps93
    go_wp2
    go_ret2
    exact ⟨_, rfl, Below.refl _ _, .inl ⟨by decide, rfl⟩⟩
  rw [if_neg h1]
  have h2 : ¬ (1048576 : Int) < (l.length : Int) := by omega
  go_enter Tryz.func93, Tryz.ntmps93
  go_wp2_with fail
  refine (rcopied_me _ l w HB.out (by omega)).mono ?_
  rintro _ w1 ⟨a, c, rfl, hr, hB⟩
  have HR := hide hr
  clear hr
  go_wp2
  go_ret2
  obtain ⟨q1, q2⟩ := rmem_new (kind := 2) (room := 1048576) HR.out hB (by omega) (by omega)
  exact ⟨_, rfl, q2, .inr ⟨rfl, _, rfl, q1⟩⟩
end Go.Proofs.YtdmkjbdlidadiaaGreat
