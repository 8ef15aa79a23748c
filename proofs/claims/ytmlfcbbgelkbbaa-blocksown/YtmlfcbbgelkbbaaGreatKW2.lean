/- What the proof stands on, part 2: the contracts of the program's calls that it reaches. -/
import Derived.Test.YtmlfcbbgelkbbaaGreatKW1
import Derived.Defers
import Derived.Lib.BufferMore
import Derived.Laws.AppendOwnNone
import Derived.Laws.OwnMore
import Derived.Deep.QuietTactic
import Derived.BigQuiet
import Derived.Laws.StructEq
import Derived.Deep.RegionLaw
import Derived.Deep.RegionWith
import Derived.Lib.MinMax
import Derived.Maps.OwnSet
import Derived.Sort.KeysCollected
import Derived.BigRegion
import Derived.Sort.Walk0
import Derived.ChangeArms
import Derived.ChangeSlices
import Derived.SizedLaws
import Derived.Deep.Slices
import Derived.ProofKit
import Derived.OpenShut
import Derived.Deep.SlicePairs
/- Memories: write, seek. -/
namespace Go.Proofs.YtmlfcbbgelkbbaaGreat
open Go.RowKit

theorem MS.write_long {S : MS} {x : List UInt8} (h : 1048576 < x.length) : S.write x = (0, 5, S) := by unfold MS.write; rw [if_pos h]
theorem MS.write_none {S : MS} : S.write [] = (0, 0, S) := by unfold MS.write; rw [if_neg (by decide), if_pos rfl]
theorem MS.write_full {S : MS} {x : List UInt8} (h : x.length ≤ 1048576) (h0 : x ≠ []) (hp : S.pl = S.room) : S.write x = (0, 31, S) := by unfold MS.write; rw [if_neg (by omega), if_neg h0, if_pos hp]
theorem MS.write_some {S : MS} {x : List UInt8} (h : x.length ≤ 1048576) (h0 : x ≠ []) (hp : S.pl ≠ S.room) {m : Nat} (hm : m = min x.length (S.room - S.pl)) : S.write x = ((m : Int), 0, ⟨lay S.l S.pl (x.take m), S.room, S.pl + m⟩) := by
  unfold MS.write; rw [if_neg (by omega), if_neg h0, if_neg hp, hm]

set_option maxRecDepth 100000 in
set_option maxHeartbeats 1000000 in
theorem swrite_long (O : Nat → Prop) (g : Nat) (S : MS) (a : Option Addr) (n c : Nat) (w : World) (h : MemAt w O g S) (hl : 1048576 < n) :
    Calls Tryz.prog 303 #[.pointer (some ⟨g, 0, none⟩), .slice a n c] w fun e w' => e = .returned (.tuple #[.int .i64 0, .int .i64 5]) ∧ w = w' := by
  obtain ⟨f, b, cap, h0, -⟩ := h
  have hd : (1048576 : Int) < (n : Int) := by omega
  go_enter Tryz.func303, Tryz.ntmps303
  go_wp2_with (first | (go_at_call 300; refine (sMade_yes g f _ h0).mono ?_; rintro _ _ ⟨rfl, rfl⟩) | fail)
  go_ret2
  exact ⟨rfl, rfl⟩
set_option maxRecDepth 100000 in
set_option maxHeartbeats 1000000 in
theorem swrite_none (O : Nat → Prop) (g : Nat) (S : MS) (a : Option Addr) (c : Nat) (w : World) (h : MemAt w O g S) :
    Calls Tryz.prog 303 #[.pointer (some ⟨g, 0, none⟩), .slice a 0 c] w fun e w' => e = .returned (.tuple #[.int .i64 0, .int .i64 0]) ∧ w = w' := by
  obtain ⟨f, b, cap, h0, -⟩ := h
  go_enter Tryz.func303, Tryz.ntmps303
  go_wp2_with (first | (go_at_call 300; refine (sMade_yes g f _ h0).mono ?_; rintro _ _ ⟨rfl, rfl⟩) | fail)
  go_ret2
  exact ⟨rfl, rfl⟩
set_option maxRecDepth 100000 in
set_option maxHeartbeats 1000000 in
theorem swrite_full (O : Nat → Prop) (g : Nat) (S : MS) (a : Option Addr) (n c : Nat) (w : World) (h : MemAt w O g S) (hl : n ≤ 1048576) (hn : 0 < n) (hp : S.pl = S.room) :
    Calls Tryz.prog 303 #[.pointer (some ⟨g, 0, none⟩), .slice a n c] w fun e w' => e = .returned (.tuple #[.int .i64 0, .int .i64 31]) ∧ Below w.heap.size w w' := by
  obtain ⟨f, b, cap, h0, h1, h2, -⟩ := h
  rw [hp] at h2
  have hd : ¬ (1048576 : Int) < (n : Int) := by omega
  have hd2 : ((n : Int) == 0) = false := by simp; omega
  generalize S.room = R at *
  generalize S.pl = Q at *
  clear hp
  go_enter Tryz.func303, Tryz.ntmps303
  go_wp2_with (first | (go_at_call 300; refine (sMade_yes g f _ h0).mono ?_; rintro _ _ ⟨rfl, rfl⟩) | fail)
  go_quiet (fail)
  go_wp2
  go_ret2
  exact ⟨rfl, below_drewN (Below.refl _ _) _⟩
set_option maxRecDepth 100000 in
set_option maxHeartbeats 2000000 in
theorem swrite_some (O : Nat → Prop) (g : Nat) (S : MS) (x : List UInt8) (a : Option Addr) (c m : Nat) (w : World) (h : MemAt w O g S) (hx : Bys w (.slice a x.length c) x) (hc : x.length ≤ c) (hap : ∀ k, (Value.slice a x.length c).ownBlock = some k → ¬ O k) (hl : x.length ≤ 1048576) (h0x : 0 < x.length) (hp : S.pl ≠ S.room) (hm : m = min x.length (S.room - S.pl)) :
    Calls Tryz.prog 303 #[.pointer (some ⟨g, 0, none⟩), .slice a x.length c] w fun e w' => e = .returned (.tuple #[.int .i64 m, .int .i64 0]) ∧ MStep w O g ⟨lay S.l S.pl (x.take m), S.room, S.pl + m⟩ w' := by
  obtain ⟨f, b, cap, h0, h1, h2, h3, h4, og, of, ob, n1, n2, r1, r2, r3⟩ := h
  obtain ⟨_, xb, xo, rfl, hxl, hcells⟩ := bys_block hx h0x
  have hm1 : 0 < m := by omega
  have hm2 : m ≤ x.length := by omega
  have hm3 : S.pl + m ≤ S.room := by omega
  have hmi : min (x.length : Int) ((S.room : Int) - (S.pl : Int)) = (m : Int) := by omega
  have htl : (x.take m).length = m := by rw [List.length_take]; omega
  have hcut : Bys w (.slice (some ⟨xb, xo, none⟩) m c) (x.take m) := by have := bys_cut hx 0 m c (by omega); simpa using this
  have HW := hide fun (W : World) (hB : Below w.heap.size w W) => writeAt_some f b cap S.l S.pl (.slice (some ⟨xb, xo, none⟩) m c) (x.take m) W (h4.below hB) (hcut.below hB) (fun k hk => by
    obtain rfl : xb = k := by simpa [Value.ownBlock] using hk
    have hn := hap xb rfl
    exact ⟨fun e => hn (e ▸ of), fun e => hn (e ▸ ob)⟩) (by rw [htl]; omega) (by rw [htl]; omega)
  have HS := hide (And.intro h0 (And.intro h1 (And.intro h2 h3)))
  have HF := hide (And.intro of (And.intro ob og))
  have hgl : g < w.heap.size := World.block_lt_of_cell? w _ h0
  have hd : ¬ (1048576 : Int) < (x.length : Int) := by omega
  have hd2 : ((x.length : Int) == 0) = false := by simp; intro e; rw [e] at h0x; simp at h0x
  have hd3 : ((S.pl : Int) == (S.room : Int)) = false := by simp; omega
  have hd3' : ¬ (S.pl : Int) = (S.room : Int) := by omega
  have hmc : m ≤ c := by omega
  have HH := hide (And.intro hm htl)
  clear hm hx hcells hcut hap h4 h3 of ob htl
  go_enter Tryz.func303, Tryz.ntmps303
  go_wp2_with (first | (go_at_call 300; refine (sMade_yes g f _ h0).mono ?_; rintro _ _ ⟨rfl, rfl⟩) | fail)
  go_quiet (fail)
  go_wp2_with fail
  go_quiet (fail)
  go_wp2_with fail
  go_region_held3 (fun w' => w'.cell? ⟨g, 0, none⟩ = some (.pointer (some ⟨f, 0, none⟩)) ∧ w'.cell? ⟨g, 2, none⟩ = some (.int .i64 S.pl))
    (first | exact hx5 | exact ⟨h0, h2⟩ | go_keep)
    (first
      | (go_at_call 305; refine (HW.out _ (below_drewN (Below.refl _ _) _)).mono ?_; rintro e w2 ⟨rfl, b', cap', hF2, hb2, hT2⟩; have hx5 : w2.cell? ⟨g, 0, none⟩ = some (.pointer (some ⟨f, 0, none⟩)) ∧ w2.cell? ⟨g, 2, none⟩ = some (.int .i64 S.pl) := ⟨hT2.cell HS.out.1 (fun e => by rcases e with e | e; exact n1 e; exact n2 e), hT2.cell HS.out.2.2.1 (fun e => by rcases e with e | e; exact n1 e; exact n2 e)⟩)
      | fail)
  obtain ⟨k0, k2⟩ := hx5
  have hgb : w2.heap[g]? = w.heap[g]? := hT2.block g hgl (fun e => by rcases e with e | e; exact n1 e; exact n2 e)
  have k1 : w2.cell? ⟨g, 1, none⟩ = some (.int .i64 S.room) := (World.cell?_of_block (w := w) hgb).trans HS.out.2.1
  have k3 : w2.frozen? ⟨g, 2, none⟩ = false := (World.frozen?_of_block (w := w) hgb).trans HS.out.2.2.2
  have hz : w.heap.size ≤ w2.heap.size := hT2.size
  have hb2' : b' = b ∨ w.heap.size ≤ b' := hb2
  have HT2 : Hid (Turned (fun k => k = f ∨ k = b) w w2) := hide ⟨hT2.os, hT2.tape, hT2.output, hT2.size, hT2.block⟩
  have HF2 := hide hF2
  clear hF2 hT2 h0 h1 h2 HW hb2
  go_wp2
  go_ret2
  rw [show ((S.pl : Int) + (m : Int)) = ((S.pl + m : Nat) : Int) by omega]
  have hll : (lay S.l S.pl (x.take m)).length ≤ S.room := by rw [lay_len, HH.out.2]; split <;> omega
  have hff := HF2.out.lt
  have hbn : b' ≠ g := by rcases hb2' with e | e <;> omega
  have hbf : f ≠ g := fun e => n1 e.symm
  refine ⟨rfl, fun k => k = g ∨ k = f ∨ k = b', ⟨f, b', cap', ?_, ?_, ?_, ?_, ?_, .inl rfl, .inr (.inl rfl), .inr (.inr rfl), n1, fun e => hbn e.symm, hll, hm3, r3⟩, fun k e => ?_, ?_⟩
  · rw [World.cell?_setCell_other _ _ _ _ (by simp)]; exact k0
  · rw [World.cell?_setCell_other _ _ _ _ (by simp)]; exact k1
  · exact World.cell?_setCell_same _ _ _ k2
  · rw [World.frozen?_setCell]; exact k3
  · exact HF2.out.keep (Below.heap_setCell _ _ _ _ hbf) (Below.heap_setCell _ _ _ _ hbn)
  · rcases e with rfl | rfl | rfl
    · exact .inl HF.out.2.2
    · exact .inl HF.out.1
    · rcases hb2' with rfl | e
      · exact .inl HF.out.2.1
      · exact .inr e
  · exact (HT2.out.mono (S' := O) (fun k e => by rcases e with rfl | rfl; exact HF.out.1; exact HF.out.2.1)).set (.inl HF.out.2.2)
theorem swrite_any (O : Nat → Prop) (g : Nat) (S : MS) (x : List UInt8) (a : Option Addr) (c : Nat) (w : World) (h : MemAt w O g S) (hx : Bys w (.slice a x.length c) x) (hc : x.length ≤ c) (hap : 0 < x.length → ∀ k, (Value.slice a x.length c).ownBlock = some k → ¬ O k) :
    Calls Tryz.prog 303 #[.pointer (some ⟨g, 0, none⟩), .slice a x.length c] w fun e w' => e = .returned (.tuple #[.int .i64 (S.write x).1, .int .i64 (S.write x).2.1]) ∧ MStep w O g (S.write x).2.2 w' := by
  by_cases hl : 1048576 < x.length
  · rw [MS.write_long hl]
    refine (swrite_long O g S a x.length c w h hl).mono ?_
    rintro e w' ⟨rfl, rfl⟩
    exact ⟨rfl, MStep.same h⟩
  by_cases h0 : x = []
  · subst h0
    rw [MS.write_none]
    refine (swrite_none O g S a c w h).mono ?_
    rintro e w' ⟨rfl, rfl⟩
    exact ⟨rfl, MStep.same h⟩
  have h0x := List.length_pos_iff.2 h0
  by_cases hp : S.pl = S.room
  · rw [MS.write_full (by omega) h0 hp]
    refine (swrite_full O g S a x.length c w h (by omega) h0x hp).mono ?_
    rintro e w' ⟨rfl, hB⟩
    exact ⟨rfl, MStep.below h hB⟩
  · rw [MS.write_some (by omega) h0 hp rfl]
    exact swrite_some O g S x a c _ w h hx hc (hap h0x) (by omega) h0x hp rfl
end Go.Proofs.YtmlfcbbgelkbbaaGreat

/- Memories: seek. -/
namespace Go.Proofs.YtmlfcbbgelkbbaaGreat
open Go.RowKit

theorem MS.seek_arg {S : MS} {off wh : Int} (h : wh < 0 ∨ 2 < wh) : S.seek off wh = (0, 1, S) := by unfold MS.seek; rw [if_pos h]
theorem MS.seek_range {S : MS} {off wh : Int} (h : ¬ (wh < 0 ∨ 2 < wh)) (h2 : off < -(S.from wh : Int) ∨ (S.room : Int) - (S.from wh : Int) < off) : S.seek off wh = (0, 4, S) := by unfold MS.seek; rw [if_neg h, if_pos h2]
theorem MS.seek_good {S : MS} {off wh : Int} (h : ¬ (wh < 0 ∨ 2 < wh)) (h2 : ¬ (off < -(S.from wh : Int) ∨ (S.room : Int) - (S.from wh : Int) < off)) : S.seek off wh = ((S.from wh : Int) + off, 0, ⟨S.l, S.room, ((S.from wh : Int) + off).toNat⟩) := by unfold MS.seek; rw [if_neg h, if_neg h2]

theorem MemAt.place {w : World} {O : Nat → Prop} {g : Nat} {S : MS} (h : MemAt w O g S) (m : Nat) (hm : m ≤ S.room) : MStep w O g ⟨S.l, S.room, m⟩ (w.setCell ⟨g, 2, none⟩ (.int .i64 m)) := by
  obtain ⟨f, b, cap, h0, h1, h2, h3, h4, og, of, ob, n1, n2, r1, r2, r3⟩ := h
  refine ⟨O, ⟨f, b, cap, ?_, ?_, ?_, ?_, ?_, og, of, ob, n1, n2, r1, hm, r3⟩, fun _ e => .inl e, (Turned.refl O w).set (.inl og)⟩
  · rw [World.cell?_setCell_other _ _ _ _ (by simp)]; exact h0
  · rw [World.cell?_setCell_other _ _ _ _ (by simp)]; exact h1
  · exact World.cell?_setCell_same _ _ _ h2
  · rw [World.frozen?_setCell]; exact h3
  · exact h4.keep (Below.heap_setCell _ _ _ _ (fun e => n1 e.symm)) (Below.heap_setCell _ _ _ _ (fun e => n2 e.symm))

set_option maxRecDepth 100000 in
set_option maxHeartbeats 2000000 in
theorem sseek_arg (O : Nat → Prop) (g : Nat) (S : MS) (off wh : Int) (w : World) (h : MemAt w O g S) (ha : wh < 0 ∨ 2 < wh) :
    Calls Tryz.prog 302 #[.pointer (some ⟨g, 0, none⟩), .int .i64 off, .int .i64 wh] w fun e w' => e = .returned (.tuple #[.int .i64 0, .int .i64 1]) ∧ w = w' := by
  have HM := hide h
  obtain ⟨f, b, cap, h0, h1, h2, h3, h4, og, of, ob, n1, n2, r1, r2, r3⟩ := h
  have H4 := hide h4
  clear h4 og of ob n1 n2
  have e0 : (wh == 0) = false := by simp; omega
  have e1 : (wh == 1) = false := by simp; omega
  have e2 : (wh == 2) = false := by simp; omega
  have e0' : ¬ wh = 0 := by omega
  have e1' : ¬ wh = 1 := by omega
  have e2' : ¬ wh = 2 := by omega
  clear ha
  go_enter Tryz.func302, Tryz.ntmps302
  go_wp2_with (first | (go_at_call 300; refine (sMade_yes g f _ h0).mono ?_; rintro _ _ ⟨rfl, rfl⟩) | (go_at_call 165; refine (size_any f b cap S.l _ H4.out).mono ?_; rintro _ _ ⟨rfl, rfl⟩) | fail)
  go_ret2
  exact ⟨rfl, rfl⟩
set_option maxRecDepth 100000 in
set_option maxHeartbeats 2000000 in
theorem sseek_bad0 (O : Nat → Prop) (g : Nat) (S : MS) (off : Int) (w : World) (h : MemAt w O g S) (hr : off < -((0 : Nat) : Int) ∨ (S.room : Int) - ((0 : Nat) : Int) < off) :
    Calls Tryz.prog 302 #[.pointer (some ⟨g, 0, none⟩), .int .i64 off, .int .i64 0] w fun e w' => e = .returned (.tuple #[.int .i64 0, .int .i64 4]) ∧ w = w' := by
  have HM := hide h
  obtain ⟨f, b, cap, h0, h1, h2, h3, h4, og, of, ob, n1, n2, r1, r2, r3⟩ := h
  have H4 := hide h4
  clear h4 og of ob n1 n2
  rcases (show off < 0 ∨ (¬ off < 0 ∧ (S.room : Int) < off) by omega) with hq | ⟨hq, hq2⟩
  all_goals
    clear hr
    go_enter Tryz.func302, Tryz.ntmps302
    go_wp2_with (first | (go_at_call 300; refine (sMade_yes g f _ h0).mono ?_; rintro _ _ ⟨rfl, rfl⟩) | (go_at_call 165; refine (size_any f b cap S.l _ H4.out).mono ?_; rintro _ _ ⟨rfl, rfl⟩) | fail)
    go_ret2
    exact ⟨rfl, rfl⟩
set_option maxRecDepth 100000 in
set_option maxHeartbeats 2000000 in
theorem sseek_good0 (O : Nat → Prop) (g : Nat) (S : MS) (off : Int) (m : Nat) (w : World) (h : MemAt w O g S) (hm : ((0 : Nat) : Int) + off = m) (hr : m ≤ S.room) :
    Calls Tryz.prog 302 #[.pointer (some ⟨g, 0, none⟩), .int .i64 off, .int .i64 0] w fun e w' => e = .returned (.tuple #[.int .i64 m, .int .i64 0]) ∧ MStep w O g ⟨S.l, S.room, m⟩ w' := by
  have HM := hide h
  obtain ⟨f, b, cap, h0, h1, h2, h3, h4, og, of, ob, n1, n2, r1, r2, r3⟩ := h
  have H4 := hide h4
  clear h4 og of ob n1 n2
  obtain rfl : off = (m : Int) := by omega
  clear hm
  have q1 : ¬ (m : Int) < 0 := by omega
  have q2 : ¬ (S.room : Int) < (m : Int) := by omega
  go_enter Tryz.func302, Tryz.ntmps302
  go_wp2_with (first | (go_at_call 300; refine (sMade_yes g f _ h0).mono ?_; rintro _ _ ⟨rfl, rfl⟩) | (go_at_call 165; refine (size_any f b cap S.l _ H4.out).mono ?_; rintro _ _ ⟨rfl, rfl⟩) | fail)
  go_ret2
  exact ⟨rfl, HM.out.place m hr⟩
set_option maxRecDepth 100000 in
set_option maxHeartbeats 2000000 in
theorem sseek_bad1 (O : Nat → Prop) (g : Nat) (S : MS) (off : Int) (w : World) (h : MemAt w O g S) (hr : off < -((S.pl : Nat) : Int) ∨ (S.room : Int) - ((S.pl : Nat) : Int) < off) :
    Calls Tryz.prog 302 #[.pointer (some ⟨g, 0, none⟩), .int .i64 off, .int .i64 1] w fun e w' => e = .returned (.tuple #[.int .i64 0, .int .i64 4]) ∧ w = w' := by
  have HM := hide h
  obtain ⟨f, b, cap, h0, h1, h2, h3, h4, og, of, ob, n1, n2, r1, r2, r3⟩ := h
  have H4 := hide h4
  clear h4 og of ob n1 n2
  rcases (show off < -((S.pl : Nat) : Int) ∨ (¬ off < -((S.pl : Nat) : Int) ∧ (S.room : Int) - ((S.pl : Nat) : Int) < off) by omega) with hq | ⟨hq, hq2⟩
  all_goals
    clear hr
    go_enter Tryz.func302, Tryz.ntmps302
    go_wp2_with (first | (go_at_call 300; refine (sMade_yes g f _ h0).mono ?_; rintro _ _ ⟨rfl, rfl⟩) | (go_at_call 165; refine (size_any f b cap S.l _ H4.out).mono ?_; rintro _ _ ⟨rfl, rfl⟩) | fail)
    go_ret2
    exact ⟨rfl, rfl⟩
set_option maxRecDepth 100000 in
set_option maxHeartbeats 2000000 in
theorem sseek_good1 (O : Nat → Prop) (g : Nat) (S : MS) (off : Int) (m : Nat) (w : World) (h : MemAt w O g S) (hm : ((S.pl : Nat) : Int) + off = m) (hr : m ≤ S.room) :
    Calls Tryz.prog 302 #[.pointer (some ⟨g, 0, none⟩), .int .i64 off, .int .i64 1] w fun e w' => e = .returned (.tuple #[.int .i64 m, .int .i64 0]) ∧ MStep w O g ⟨S.l, S.room, m⟩ w' := by
  have HM := hide h
  obtain ⟨f, b, cap, h0, h1, h2, h3, h4, og, of, ob, n1, n2, r1, r2, r3⟩ := h
  have H4 := hide h4
  clear h4 og of ob n1 n2
  have q1 : ¬ off < -((S.pl : Nat) : Int) := by omega
  have q2 : ¬ (S.room : Int) - ((S.pl : Nat) : Int) < off := by omega
  have HMm := hide hm
  clear hm
  go_enter Tryz.func302, Tryz.ntmps302
  go_wp2_with (first | (go_at_call 300; refine (sMade_yes g f _ h0).mono ?_; rintro _ _ ⟨rfl, rfl⟩) | (go_at_call 165; refine (size_any f b cap S.l _ H4.out).mono ?_; rintro _ _ ⟨rfl, rfl⟩) | fail)
  go_ret2
  rw [HMm.out]
  exact ⟨rfl, HM.out.place m hr⟩
set_option maxRecDepth 100000 in
set_option maxHeartbeats 2000000 in
theorem sseek_bad2 (O : Nat → Prop) (g : Nat) (S : MS) (off : Int) (w : World) (h : MemAt w O g S) (hr : off < -((S.l.length : Nat) : Int) ∨ (S.room : Int) - ((S.l.length : Nat) : Int) < off) :
    Calls Tryz.prog 302 #[.pointer (some ⟨g, 0, none⟩), .int .i64 off, .int .i64 2] w fun e w' => e = .returned (.tuple #[.int .i64 0, .int .i64 4]) ∧ w = w' := by
  have HM := hide h
  obtain ⟨f, b, cap, h0, h1, h2, h3, h4, og, of, ob, n1, n2, r1, r2, r3⟩ := h
  have H4 := hide h4
  clear h4 og of ob n1 n2
  rcases (show off < -((S.l.length : Nat) : Int) ∨ (¬ off < -((S.l.length : Nat) : Int) ∧ (S.room : Int) - ((S.l.length : Nat) : Int) < off) by omega) with hq | ⟨hq, hq2⟩
  all_goals
    clear hr
    go_enter Tryz.func302, Tryz.ntmps302
    go_wp2_with (first | (go_at_call 300; refine (sMade_yes g f _ h0).mono ?_; rintro _ _ ⟨rfl, rfl⟩) | (go_at_call 165; refine (size_any f b cap S.l _ H4.out).mono ?_; rintro _ _ ⟨rfl, rfl⟩) | fail)
    go_ret2
    exact ⟨rfl, rfl⟩
set_option maxRecDepth 100000 in
set_option maxHeartbeats 2000000 in
theorem sseek_good2 (O : Nat → Prop) (g : Nat) (S : MS) (off : Int) (m : Nat) (w : World) (h : MemAt w O g S) (hm : ((S.l.length : Nat) : Int) + off = m) (hr : m ≤ S.room) :
    Calls Tryz.prog 302 #[.pointer (some ⟨g, 0, none⟩), .int .i64 off, .int .i64 2] w fun e w' => e = .returned (.tuple #[.int .i64 m, .int .i64 0]) ∧ MStep w O g ⟨S.l, S.room, m⟩ w' := by
  have HM := hide h
  obtain ⟨f, b, cap, h0, h1, h2, h3, h4, og, of, ob, n1, n2, r1, r2, r3⟩ := h
  have H4 := hide h4
  clear h4 og of ob n1 n2
  have q1 : ¬ off < -((S.l.length : Nat) : Int) := by omega
  have q2 : ¬ (S.room : Int) - ((S.l.length : Nat) : Int) < off := by omega
  have HMm := hide hm
  clear hm
  go_enter Tryz.func302, Tryz.ntmps302
  go_wp2_with (first | (go_at_call 300; refine (sMade_yes g f _ h0).mono ?_; rintro _ _ ⟨rfl, rfl⟩) | (go_at_call 165; refine (size_any f b cap S.l _ H4.out).mono ?_; rintro _ _ ⟨rfl, rfl⟩) | fail)
  go_ret2
  rw [HMm.out]
  exact ⟨rfl, HM.out.place m hr⟩
theorem sseek_any (O : Nat → Prop) (g : Nat) (S : MS) (off wh : Int) (w : World) (h : MemAt w O g S) :
    Calls Tryz.prog 302 #[.pointer (some ⟨g, 0, none⟩), .int .i64 off, .int .i64 wh] w fun e w' => e = .returned (.tuple #[.int .i64 (S.seek off wh).1, .int .i64 (S.seek off wh).2.1]) ∧ MStep w O g (S.seek off wh).2.2 w' := by
  have hok := h.ok
  by_cases ha : wh < 0 ∨ 2 < wh
  · rw [MS.seek_arg ha]
    refine (sseek_arg O g S off wh w h ha).mono ?_
    rintro e w' ⟨rfl, rfl⟩
    exact ⟨rfl, MStep.same h⟩
  have hw3 : wh = 0 ∨ wh = 1 ∨ wh = 2 := by omega
  by_cases hr : off < -(S.from wh : Int) ∨ (S.room : Int) - (S.from wh : Int) < off
  · rw [MS.seek_range ha hr]
    rcases hw3 with rfl | rfl | rfl
    · refine (sseek_bad0 O g S off w h hr).mono ?_
      rintro e w' ⟨rfl, rfl⟩
      exact ⟨rfl, MStep.same h⟩
    · refine (sseek_bad1 O g S off w h hr).mono ?_
      rintro e w' ⟨rfl, rfl⟩
      exact ⟨rfl, MStep.same h⟩
    · refine (sseek_bad2 O g S off w h hr).mono ?_
      rintro e w' ⟨rfl, rfl⟩
      exact ⟨rfl, MStep.same h⟩
  · rw [MS.seek_good ha hr]
    obtain ⟨m, hm⟩ : ∃ m : Nat, (S.from wh : Int) + off = m := ⟨((S.from wh : Int) + off).toNat, by omega⟩
    rw [hm]
    simp only [Int.toNat_natCast]
    rcases hw3 with rfl | rfl | rfl
    · exact sseek_good0 O g S off m w h hm (by omega)
    · exact sseek_good1 O g S off m w h hm (by omega)
    · exact sseek_good2 O g S off m w h hm (by omega)
end Go.Proofs.YtmlfcbbgelkbbaaGreat

/- Memories: made, and their calls. -/
namespace Go.Proofs.YtmlfcbbgelkbbaaGreat
open Go.RowKit

theorem recv4 (w : World) (o : Obj) : Below w.heap.size w (w.alloc o) := (Below.refl _ _).alloc (Nat.le_refl _) _
theorem new_zero3 {W w' : World} {x y z : Value} {t : TypeId} (h : Below (W.alloc (Obj.cells #[x, y, z] t)).heap.size (W.alloc (Obj.cells #[x, y, z] t)) w') :
    w'.cell? ⟨W.heap.size, 0, none⟩ = some x ∧ w'.cell? ⟨W.heap.size, 1, none⟩ = some y ∧ w'.cell? ⟨W.heap.size, 2, none⟩ = some z ∧ w'.frozen? ⟨W.heap.size, 0, none⟩ = false ∧ w'.frozen? ⟨W.heap.size, 1, none⟩ = false ∧ w'.frozen? ⟨W.heap.size, 2, none⟩ = false :=
  ⟨(h.cell (p := ⟨W.heap.size, 0, none⟩) (size_new _ _)).trans (by simp only [World.cell?, heap_alloc_new]; rfl), (h.cell (p := ⟨W.heap.size, 1, none⟩) (size_new _ _)).trans (by simp only [World.cell?, heap_alloc_new]; rfl), (h.cell (p := ⟨W.heap.size, 2, none⟩) (size_new _ _)).trans (by simp only [World.cell?, heap_alloc_new]; rfl), (h.frozen (p := ⟨W.heap.size, 0, none⟩) (size_new _ _)).trans (by simp only [World.frozen?, heap_alloc_new]; rfl), (h.frozen (p := ⟨W.heap.size, 1, none⟩) (size_new _ _)).trans (by simp only [World.frozen?, heap_alloc_new]; rfl), (h.frozen (p := ⟨W.heap.size, 2, none⟩) (size_new _ _)).trans (by simp only [World.frozen?, heap_alloc_new]; rfl)⟩
theorem res_store {fn : Func} {p u : Tmp} {w : World} (h : fn.results = #[.cell p 289, .tmp u]) (tmps : Array Value) (b : Nat) (hp : tmps.getD p undef = .pointer (some ⟨b, 0, none⟩)) (x : Option Addr) (y z : Int) (h1 : w.cell? ⟨b, 0, none⟩ = some (.pointer x)) (h2 : w.cell? ⟨b, 1, none⟩ = some (.int .i64 y)) (h3 : w.cell? ⟨b, 2, none⟩ = some (.int .i64 z)) :
    (results fn tmps).run Tryz.prog w = .ok (.tuple #[.agg #[.pointer x, .int .i64 y, .int .i64 z], tmps.getD u undef]) w := by
  have a60 := Tryz.isAgg289
  have z60 := Tryz.sizeOf289
  have u3 := Tryz.underlying3
  have a3 := Tryz.isAgg3
  have z3 := Tryz.sizeOf3
  have a4 := Tryz.isAgg102
  have z4 := Tryz.sizeOf102
  have u4 := Tryz.underlying102
  rw [results_cell_tmp h, hp]
  simp only [loadVar]
  go_simp
set_option maxRecDepth 100000 in
set_option maxHeartbeats 1000000 in
theorem storeOf_long (a : Option Addr) (n c : Nat) (room : Int) (w : World) (h : room < (n : Int)) :
    Calls Tryz.prog 174 #[.slice a n c, .int .i64 room] w fun e w' => (∃ y, e = .returned (.tuple #[.agg #[.pointer none, .int .i64 y, .int .i64 0], .int .i64 5])) ∧ Below w.heap.size w w' := by
  go_enter Tryz.func174, Tryz.ntmps174
  go_wp2
  refine bodyPost_ret (res_store rfl _ w.heap.size rfl none 0 0 (by simp only [World.cell?, heap_alloc_new]; rfl) (by simp only [World.cell?, heap_alloc_new]; rfl) (by simp only [World.cell?, heap_alloc_new]; rfl)) rfl ?_
  exact ⟨⟨_, rfl⟩, (Below.refl _ _).alloc (Nat.le_refl _) _⟩
set_option maxRecDepth 100000 in
set_option maxHeartbeats 1000000 in
theorem storeOf_good (v : Value) (l : List UInt8) (room : Int) (w : World) (hb : Bys w v l) (h : ¬ room < (l.length : Int)) (hl : l.length ≤ 1048576) :
    Calls Tryz.prog 174 #[v, .int .i64 room] w fun e w' => ∃ f b, e = .returned (.tuple #[.agg #[.pointer (some ⟨f, 0, none⟩), .int .i64 room, .int .i64 0], .int .i64 0]) ∧ FileAt w' f b l.length l ∧ w.heap.size ≤ f ∧ w.heap.size ≤ b ∧ Below w.heap.size w w' := by
  obtain ⟨a1, c1, rfl, -⟩ := bys_form hb
  have hB : Below w.heap.size w (w.alloc (Obj.cells #[Value.pointer none, Value.int IntKind.i64 0, Value.int IntKind.i64 0] 289)) := (Below.refl _ _).alloc (Nat.le_refl _) _
  have HB := hide (hb.below hB)
  clear hb
  go_enter Tryz.func174, Tryz.ntmps174
  go_wp2_with fail
  refine (Fi_new_good _ l _ HB.out hl).mono ?_
  rintro e w2 ⟨f, rfl, h1, h2, h3⟩
  have H1 := hide h1
  obtain ⟨z0, z1, z2, z3, z4, z5⟩ := new_zero3 h3
  have hwf : w.heap.size < f := Nat.lt_of_le_of_lt hB.size h2
  have hwb : w.heap.size < (w.alloc (Obj.cells #[Value.pointer none, Value.int IntKind.i64 0, Value.int IntKind.i64 0] 289)).heap.size := size_new _ _
  have hB2 := hB.trans (h3.mono hB.size)
  clear h1 h2 h3 hB HB
  generalize (w.alloc (Obj.cells #[Value.pointer none, Value.int IntKind.i64 0, Value.int IntKind.i64 0] 289)).heap.size = b at *
  go_wp2
  obtain ⟨W, hW⟩ : ∃ W, W = ((w2.setCell ⟨w.heap.size, 0, none⟩ (.pointer (some ⟨f, 0, none⟩))).setCell ⟨w.heap.size, 1, none⟩ (.int .i64 room)).setCell ⟨w.heap.size, 2, none⟩ (.int .i64 0) := ⟨_, rfl⟩
  rw [← hW]
  have y0 : W.cell? ⟨w.heap.size, 0, none⟩ = some (.pointer (some ⟨f, 0, none⟩)) := by
    rw [hW, World.cell?_setCell_other _ _ _ _ (by simp), World.cell?_setCell_other _ _ _ _ (by simp)]; exact World.cell?_setCell_same _ _ _ z0
  have y1 : W.cell? ⟨w.heap.size, 1, none⟩ = some (.int .i64 room) := by
    rw [hW, World.cell?_setCell_other _ _ _ _ (by simp)]; exact World.cell?_setCell_same _ _ _ ((World.cell?_setCell_other _ _ _ _ (by simp)).trans z1)
  have y2 : W.cell? ⟨w.heap.size, 2, none⟩ = some (.int .i64 0) := by
    rw [hW]; exact World.cell?_setCell_same _ _ _ ((World.cell?_setCell_other _ _ _ _ (by simp)).trans ((World.cell?_setCell_other _ _ _ _ (by simp)).trans z2))
  refine bodyPost_ret (res_store rfl _ w.heap.size rfl (some ⟨f, 0, none⟩) room 0 y0 y1 y2) rfl ?_
  have hT : Turned (fun k => k = w.heap.size) w2 W := by
    rw [hW]
    exact (((Turned.refl (fun k => k = w.heap.size) w2).set (.inl rfl)).set (.inl rfl)).set (.inl rfl)
  have hbl := H1.out.row.lt
  exact ⟨f, b, rfl, H1.out.keep (hT.block f H1.out.lt (by omega)) (hT.block b hbl (by omega)), by omega, by omega, hB2.trans (hT.below (fun k e => by omega) hB2.size)⟩
theorem mem_new {w w2 : World} {l : List UInt8} {f b room : Nat} {T : TypeId} (hF : FileAt w2 f b l.length l) (hf : w.heap.size ≤ f) (hb : w.heap.size ≤ b) (hB : Below w.heap.size w w2) (hl : l.length ≤ room) (hr : room ≤ 1048576) :
    MemAt (w2.alloc (Obj.cells #[.pointer (some ⟨f, 0, none⟩), .int .i64 (room : Int), .int .i64 0] T)) (fun k => w.heap.size ≤ k) w2.heap.size ⟨l, room, 0⟩ ∧ Below w.heap.size w (w2.alloc (Obj.cells #[.pointer (some ⟨f, 0, none⟩), .int .i64 (room : Int), .int .i64 0] T)) := by
  have hfl := hF.lt
  have hbl := hF.row.lt
  refine ⟨⟨f, b, l.length, ?_, ?_, ?_, ?_, hF.keep (Below.heap_alloc _ _ _ hfl) (Below.heap_alloc _ _ _ hbl), hB.size, hf, hb, by omega, by omega, hl, Nat.zero_le _, hr⟩, hB.alloc hB.size _⟩
  · simp only [World.cell?, heap_alloc_new]; rfl
  · simp only [World.cell?, heap_alloc_new]; rfl
  · simp only [World.cell?, heap_alloc_new]; rfl
  · simp only [World.frozen?, heap_alloc_new]; rfl
theorem mem_new2 {w w2 : World} {l : List UInt8} {f b room : Nat} {T : TypeId} (hF : FileAt w2 f b l.length l) (hf : w.heap.size ≤ f) (hb : w.heap.size ≤ b) (hB : Below w.heap.size w w2) (hl : l.length ≤ room) (hr : room ≤ 1048576) :
    MemAt ((w2.alloc (Obj.cells #[.pointer (some ⟨f, 0, none⟩), .int .i64 (room : Int), .int .i64 0] 289)).alloc (Obj.cells #[.pointer (some ⟨f, 0, none⟩), .int .i64 (room : Int), .int .i64 0] T)) (fun k => w.heap.size ≤ k) (w2.heap.size + 1) ⟨l, room, 0⟩ ∧ Below w.heap.size w ((w2.alloc (Obj.cells #[.pointer (some ⟨f, 0, none⟩), .int .i64 (room : Int), .int .i64 0] 289)).alloc (Obj.cells #[.pointer (some ⟨f, 0, none⟩), .int .i64 (room : Int), .int .i64 0] T)) := by
  have h1 := mem_new (w := w) (T := T) (hF.below (recv4 w2 (Obj.cells #[.pointer (some ⟨f, 0, none⟩), .int .i64 (room : Int), .int .i64 0] 289))) hf hb (hB.alloc hB.size _) hl hr
  have hs : (w2.alloc (Obj.cells #[.pointer (some ⟨f, 0, none⟩), .int .i64 (room : Int), .int .i64 0] 289)).heap.size = w2.heap.size + 1 := by simp
  rw [hs] at h1
  exact h1
set_option maxRecDepth 100000 in
set_option maxHeartbeats 1000000 in
theorem newGrowing_long (v : Value) (l : List UInt8) (w : World) (hb : Bys w v l) (hl : 1048576 < l.length) :
    Calls Tryz.prog 86 #[v] w fun e w' => e = .returned (.tuple #[.pointer none, .int .i64 5]) ∧ Below w.heap.size w w' := by
  obtain ⟨a1, c1, rfl, -⟩ := bys_form hb
  have HB := hide hb
  clear hb
  go_enter Tryz.func86, Tryz.ntmps86
  go_wp2_with fail
  refine (storeOf_long a1 l.length c1 1048576 w (by omega)).mono ?_
  rintro e w2 ⟨⟨y, rfl⟩, hB⟩
  go_wp2
  go_ret2
  exact ⟨rfl, hB.alloc hB.size _⟩
set_option maxRecDepth 100000 in
set_option maxHeartbeats 1000000 in
theorem newGrowing_good (v : Value) (l : List UInt8) (w : World) (hb : Bys w v l) (hl : l.length ≤ 1048576) :
    Calls Tryz.prog 86 #[v] w fun e w' => ∃ g, e = .returned (.tuple #[.pointer (some ⟨g, 0, none⟩), .int .i64 0]) ∧ MemAt w' (fun k => w.heap.size ≤ k) g ⟨l, 1048576, 0⟩ ∧ Below w.heap.size w w' := by
  obtain ⟨a1, c1, rfl, -⟩ := bys_form hb
  have HB := hide hb
  clear hb
  go_enter Tryz.func86, Tryz.ntmps86
  go_wp2_with fail
  refine (storeOf_good _ l 1048576 w HB.out (by omega) (by omega)).mono ?_
  rintro e w2 ⟨f, b, rfl, k1, k2, kb, k3⟩
  have K1 := hide k1
  clear k1
  go_wp2
  go_ret2
  obtain ⟨q1, q2⟩ := mem_new2 (room := 1048576) (T := 294) K1.out k2 kb k3 (by omega) (by omega)
  exact ⟨_, rfl, q1, q2⟩
set_option maxRecDepth 100000 in
set_option maxHeartbeats 1000000 in
theorem newReader_good (v : Value) (l : List UInt8) (w : World) (hb : Bys w v l) (hl : l.length ≤ 1048576) :
    Calls Tryz.prog 88 #[v] w fun e w' => ∃ g, e = .returned (.tuple #[.pointer (some ⟨g, 0, none⟩), .int .i64 0]) ∧ MemAt w' (fun k => w.heap.size ≤ k) g ⟨l, l.length, 0⟩ ∧ Below w.heap.size w w' := by
  obtain ⟨a1, c1, rfl, -⟩ := bys_form hb
  have HB := hide hb
  clear hb
  go_enter Tryz.func88, Tryz.ntmps88
  go_wp2_with fail
  refine (storeOf_good _ l (l.length : Int) w HB.out (by omega) (by omega)).mono ?_
  rintro e w2 ⟨f, b, rfl, k1, k2, kb, k3⟩
  have K1 := hide k1
  clear k1
  go_wp2
  go_ret2
  obtain ⟨q1, q2⟩ := mem_new2 (room := l.length) (T := 295) K1.out k2 kb k3 (by omega) (by omega)
  exact ⟨_, rfl, q1, q2⟩
set_option maxRecDepth 100000 in
set_option maxHeartbeats 1000000 in
theorem gmread_any (O : Nat → Prop) (g : Nat) (S : MS) (n : Int) (w : World) (h : MemAt w O g S) :
    Calls Tryz.prog 306 #[.pointer (some ⟨g, 0, none⟩), .int .i64 n] w fun e w' => ∃ v, e = .returned (.tuple #[v, .int .i64 (S.read n).2.1]) ∧ w'.ownsRow w.heap.size 5 1 v (S.read n).1.length ((S.read n).1.map bv) ∧ MemAt w' O g (S.read n).2.2 ∧ Turned O w w' := by
  have HR := hide (sread_any O g S n w h)
  clear h
  go_enter Tryz.func306, Tryz.ntmps306
  go_wp2_with fail
  refine HR.out.mono ?_
  rintro e w2 ⟨v, rfl, h1, h2, h3⟩
  have H1 := hide h1
  have H2 := hide h2
  have H3 := hide h3
  clear h1 h2 h3 HR
  go_wp2
  go_ret2
  exact ⟨v, rfl, H1.out, H2.out, H3.out⟩
set_option maxRecDepth 100000 in
set_option maxHeartbeats 1000000 in
theorem gmseek_any (O : Nat → Prop) (g : Nat) (S : MS) (off wh : Int) (w : World) (h : MemAt w O g S) :
    Calls Tryz.prog 307 #[.pointer (some ⟨g, 0, none⟩), .int .i64 off, .int .i64 wh] w fun e w' => e = .returned (.tuple #[.int .i64 (S.seek off wh).1, .int .i64 (S.seek off wh).2.1]) ∧ MStep w O g (S.seek off wh).2.2 w' := by
  have HR := hide (sseek_any O g S off wh w h)
  clear h
  go_enter Tryz.func307, Tryz.ntmps307
  go_wp2_with fail
  refine HR.out.mono ?_
  rintro e w2 ⟨rfl, h1⟩
  have H1 := hide h1
  clear h1 HR
  go_wp2
  go_ret2
  exact ⟨rfl, H1.out⟩
set_option maxRecDepth 100000 in
set_option maxHeartbeats 1000000 in
theorem gmwrite_any (O : Nat → Prop) (g : Nat) (S : MS) (x : List UInt8) (a : Option Addr) (c : Nat) (w : World) (h : MemAt w O g S) (hx : Bys w (.slice a x.length c) x) (hc : x.length ≤ c) (hap : 0 < x.length → ∀ k, (Value.slice a x.length c).ownBlock = some k → ¬ O k) :
    Calls Tryz.prog 308 #[.pointer (some ⟨g, 0, none⟩), .slice a x.length c] w fun e w' => e = .returned (.tuple #[.int .i64 (S.write x).1, .int .i64 (S.write x).2.1]) ∧ MStep w O g (S.write x).2.2 w' := by
  have HR := hide (swrite_any O g S x a c w h hx hc hap)
  clear h hx hap
  go_enter Tryz.func308, Tryz.ntmps308
  go_wp2_with fail
  refine HR.out.mono ?_
  rintro e w2 ⟨rfl, h1⟩
  have H1 := hide h1
  clear h1 HR
  go_wp2
  go_ret2
  exact ⟨rfl, H1.out⟩
set_option maxRecDepth 100000 in
set_option maxHeartbeats 1000000 in
theorem rmread_any (O : Nat → Prop) (g : Nat) (S : MS) (n : Int) (w : World) (h : MemAt w O g S) :
    Calls Tryz.prog 324 #[.pointer (some ⟨g, 0, none⟩), .int .i64 n] w fun e w' => ∃ v, e = .returned (.tuple #[v, .int .i64 (S.read n).2.1]) ∧ w'.ownsRow w.heap.size 5 1 v (S.read n).1.length ((S.read n).1.map bv) ∧ MemAt w' O g (S.read n).2.2 ∧ Turned O w w' := by
  have HR := hide (sread_any O g S n w h)
  clear h
  go_enter Tryz.func324, Tryz.ntmps324
  go_wp2_with fail
  refine HR.out.mono ?_
  rintro e w2 ⟨v, rfl, h1, h2, h3⟩
  have H1 := hide h1
  have H2 := hide h2
  have H3 := hide h3
  clear h1 h2 h3 HR
  go_wp2
  go_ret2
  exact ⟨v, rfl, H1.out, H2.out, H3.out⟩
set_option maxRecDepth 100000 in
set_option maxHeartbeats 1000000 in
theorem rmwrite_any (O : Nat → Prop) (g : Nat) (S : MS) (v : Value) (w : World) (h : MemAt w O g S) :
    Calls Tryz.prog 326 #[.pointer (some ⟨g, 0, none⟩), v] w fun e w' => e = .returned (.tuple #[.int .i64 0, .int .i64 65]) ∧ w = w' := by
  obtain ⟨f, b, cap, h0, -⟩ := h
  go_enter Tryz.func326, Tryz.ntmps326
  go_wp2_with (first | (go_at_call 300; refine (sMade_yes g f _ h0).mono ?_; rintro _ _ ⟨rfl, rfl⟩) | fail)
  go_ret2
  exact ⟨rfl, rfl⟩
end Go.Proofs.YtmlfcbbgelkbbaaGreat

/- A custom stream, as a value and in memory; isMade, Seek, Taken; an answer is used up. -/
namespace Go.Proofs.YtmlfcbbgelkbbaaGreat
open Go.RowKit

end Go.Proofs.YtmlfcbbgelkbbaaGreat

/- A custom stream is made: copiedAnswers. -/
namespace Go.Proofs.YtmlfcbbgelkbbaaGreat
open Go.RowKit

def AnsR (W : World) (v : Value) (l : List (List UInt8 × Int)) : Prop :=
  ∃ a cap, v = .slice a l.length cap ∧ (0 < l.length → ∃ b off, a = some ⟨b, off, none⟩ ∧ ∀ j (hj : j < l.length), ∃ va vc, W.cell? ⟨b, off + j * 2, none⟩ = some (.slice va l[j].1.length vc) ∧ W.cell? ⟨b, off + j * 2 + 1, none⟩ = some (.int .i64 l[j].2) ∧ Bys W (.slice va l[j].1.length vc) l[j].1 ∧ l[j].1.length ≤ vc)
end Go.Proofs.YtmlfcbbgelkbbaaGreat

/- A custom stream is made. -/
namespace Go.Proofs.YtmlfcbbgelkbbaaGreat
open Go.RowKit

def IntsR (W : World) (v : Value) (l : List Int) : Prop :=
  (v = .slice none 0 0 ∧ l = []) ∨ ∃ q cap, v = .slice (some q) l.length cap ∧ (0 < l.length → ∃ b off, q = ⟨b, off, none⟩ ∧ ∀ j (hj : j < l.length), W.cell? ⟨b, off + j, none⟩ = some (.int .i64 l[j]))
theorem IntsR.form {W : World} {v : Value} {l : List Int} (h : IntsR W v l) : ∃ a c, v = .slice a l.length c := by
  rcases h with ⟨rfl, rfl⟩ | ⟨q, cap, rfl, _⟩
  · exact ⟨_, _, rfl⟩
  · exact ⟨_, _, rfl⟩
end Go.Proofs.YtmlfcbbgelkbbaaGreat

/- The reference's memories: made; which memories may be. -/
namespace Go.Proofs.YtmlfcbbgelkbbaaGreat
open Go.RowKit

set_option maxHeartbeats 1000000 in
theorem rcopied_me (v : Value) (l : List UInt8) (w : World) (h : Bys w v l) (hs : l.length ≤ 140737488351232) :
    Calls Tryz.prog 173 #[v] w fun e w' => ∃ a c, e = .returned (.slice a l.length c) ∧ w'.ownsRow w.heap.size 5 1 (.slice a l.length c) l.length (l.map bv) ∧ Below w.heap.size w w' := by
  obtain ⟨s', w1, hrun, HO, hg, hb⟩ := run_append_bytes w 40 w.heap.size (.slice none 0 0) v [] l (World.ownsRow_nil _ _ _ _) h (by simpa using hs) (Nat.le_refl _)
  have HR := hide hrun
  have HB : Hid (Below w.heap.size w w1) := hide ((Below.refl _ _).grown hg (Nat.le_refl _) (fun j e => by cases e))
  simp only [List.nil_append] at HO
  obtain ⟨a, c, rfl⟩ := owns_slice HO.out
  clear hrun hg hb
  obtain ⟨a1, c1, rfl, -⟩ := bys_form h
  clear h
  go_enter Tryz.func173, Tryz.ntmps173
  go_wp2_with (at_builtin; refine Lib.wpList_append_run _ rfl _ _ _ _ rfl _ _ rfl rfl _ _ HR.out ?_)
  go_ret
  exact ⟨_, _, rfl, HO.out, HB.out⟩
def rmc (kind : Int) (v : Value) (room pl : Int) (rv wv : Value) (m : Int) : Array Value := #[.int .i64 kind, v, .int .i64 room, .int .i64 pl, rv, wv, .pointer none, .int .i64 0, .int .i64 m]
def RMemAt (W : World) (O : Nat → Prop) (g : Nat) (kind : Int) (S : MS) : Prop :=
  ∃ a c m, W.heap[g]? = some (.cells (rmc kind (.slice a S.l.length c) S.room S.pl (.slice none 0 0) (.slice none 0 0) m) 192) ∧
    W.ownsRow 0 5 1 (.slice a S.l.length c) S.l.length (S.l.map bv) ∧ (∀ k, (Value.slice a S.l.length c).ownBlock = some k → O k ∧ k ≠ g) ∧ O g ∧ S.l.length ≤ S.room ∧ S.pl ≤ S.room ∧ S.room ≤ 1048576
theorem RMemAt.keep {W W' : World} {O : Nat → Prop} {g : Nat} {kind : Int} {S : MS} (h : RMemAt W O g kind S) (hk : ∀ j, O j → j < W.heap.size → W'.heap[j]? = W.heap[j]?) : RMemAt W' O g kind S := by
  obtain ⟨a, c, m, h1, hr, hb, og, rest⟩ := h
  exact ⟨a, c, m, (hk g og (Array.getElem?_eq_some_iff.1 h1).1).trans h1, owns_keep hr fun k e => hk k (hb k e).1 (hr.lt k e).2, hb, og, rest⟩
theorem RMemAt.trim {W : World} {O : Nat → Prop} {g : Nat} {kind : Int} {S : MS} (h : RMemAt W O g kind S) : RMemAt W (fun k => O k ∧ k < W.heap.size) g kind S := by
  obtain ⟨a, c, m, h1, hr, hb, og, rest⟩ := h
  exact ⟨a, c, m, h1, hr, fun k e => ⟨⟨(hb k e).1, (hr.lt k e).2⟩, (hb k e).2⟩, ⟨og, (Array.getElem?_eq_some_iff.1 h1).1⟩, rest⟩
theorem RMemAt.mono {W : World} {O O' : Nat → Prop} {g : Nat} {kind : Int} {S : MS} (h : RMemAt W O g kind S) (ho : ∀ j, O j → O' j) : RMemAt W O' g kind S := by
  obtain ⟨a, c, m, h1, hr, hb, og, rest⟩ := h
  exact ⟨a, c, m, h1, hr, fun k e => ⟨ho _ (hb k e).1, (hb k e).2⟩, ho _ og, rest⟩
theorem rmem_new {w0 w1 : World} {l : List UInt8} {a : Option Addr} {c room : Nat} {kind : Int} (hr : w1.ownsRow w0.heap.size 5 1 (.slice a l.length c) l.length (l.map bv)) (hB : Below w0.heap.size w0 w1) (hl : l.length ≤ room) (hm : room ≤ 1048576) :
    RMemAt (w1.alloc (Obj.cells #[.int .i64 kind, .slice a l.length c, .int .i64 (room : Int), .int .i64 0, .slice none 0 0, .slice none 0 0, .pointer none, .int .i64 0, .int .i64 0] 192)) (fun k => w0.heap.size ≤ k) w1.heap.size kind ⟨l, room, 0⟩ ∧ Below w0.heap.size w0 (w1.alloc (Obj.cells #[.int .i64 kind, .slice a l.length c, .int .i64 (room : Int), .int .i64 0, .slice none 0 0, .slice none 0 0, .pointer none, .int .i64 0, .int .i64 0] 192)) := by
  have hb := recv4 w1 (Obj.cells #[.int .i64 kind, .slice a l.length c, .int .i64 (room : Int), .int .i64 0, .slice none 0 0, .slice none 0 0, .pointer none, .int .i64 0, .int .i64 0] 192)
  exact ⟨⟨a, c, 0, heap_alloc_new _ _, owns_mono (owns_below hr hb) (Nat.zero_le _), fun k e => ⟨(hr.lt k e).1, by have := (hr.lt k e).2; omega⟩, hB.size, hl, Nat.zero_le _, hm⟩, hB.alloc hB.size _⟩
def grE (l : List UInt8) : Int := if 1048576 < l.length then 5 else 0
def PNewM (E : Int) (S : MS) (w : World) (e : Ending) (w' : World) : Prop := ∃ p, e = .returned (.tuple #[.pointer p, .int .i64 E]) ∧ Below w.heap.size w w' ∧ ((E ≠ 0 ∧ p = none) ∨ (E = 0 ∧ ∃ g, p = some ⟨g, 0, none⟩ ∧ MemAt w' (fun k => w.heap.size ≤ k) g S))
def RNewM (E : Int) (kind : Int) (S : MS) (w : World) (e : Ending) (w' : World) : Prop := ∃ p, e = .returned (.tuple #[.pointer p, .int .i64 E]) ∧ Below w.heap.size w w' ∧ ((E ≠ 0 ∧ p = none) ∨ (E = 0 ∧ ∃ g, p = some ⟨g, 0, none⟩ ∧ RMemAt w' (fun k => w.heap.size ≤ k) g kind S))
theorem newGrowing_any (v : Value) (l : List UInt8) (w : World) (hb : Bys w v l) : Calls Tryz.prog 86 #[v] w (PNewM (grE l) ⟨l, 1048576, 0⟩ w) := by
  unfold grE
  by_cases h1 : 1048576 < l.length
  · rw [if_pos h1]
    refine (newGrowing_long v l w hb h1).mono ?_
    rintro e w' ⟨rfl, hB⟩
    exact ⟨_, rfl, hB, .inl ⟨by decide, rfl⟩⟩
  · rw [if_neg h1]
    refine (newGrowing_good v l w hb (by omega)).mono ?_
    rintro e w' ⟨g, rfl, hM, hB⟩
    exact ⟨_, rfl, hB, .inr ⟨rfl, g, rfl, hM⟩⟩
set_option maxRecDepth 100000 in
set_option maxHeartbeats 1000000 in
theorem rnewGrowing_any (v : Value) (l : List UInt8) (w : World) (hb : Bys w v l) : Calls Tryz.prog 85 #[v] w (RNewM (grE l) 2 ⟨l, 1048576, 0⟩ w) := by
  have HB := hide hb
  obtain ⟨a1, c1, rfl, -⟩ := bys_form hb
  clear hb
  unfold grE
  by_cases h1 : 1048576 < l.length
  · rw [if_pos h1]
    have h2 : (1048576 : Int) < (l.length : Int) := by omega
    go_enter Tryz.func85, Tryz.ntmps85
    go_wp2
    go_ret2
    exact ⟨_, rfl, Below.refl _ _, .inl ⟨by decide, rfl⟩⟩
  rw [if_neg h1]
  have h2 : ¬ (1048576 : Int) < (l.length : Int) := by omega
  go_enter Tryz.func85, Tryz.ntmps85
  go_wp2_with fail
  refine (rcopied_me _ l w HB.out (by omega)).mono ?_
  rintro _ w1 ⟨a, c, rfl, hr, hB⟩
  have HR := hide hr
  clear hr
  go_wp2
  go_ret2
  obtain ⟨q1, q2⟩ := rmem_new (kind := 2) (room := 1048576) HR.out hB (by omega) (by omega)
  exact ⟨_, rfl, q2, .inr ⟨rfl, _, rfl, q1⟩⟩
end Go.Proofs.YtmlfcbbgelkbbaaGreat

/- Names, and lists of named bytes: what holds them; Named, has, CopyNamed. -/
namespace Go.Proofs.YtmlfcbbgelkbbaaGreat
open Go.RowKit

end Go.Proofs.YtmlfcbbgelkbbaaGreat

/- Faults: what a fault that may be is, and what mayBe, may answer. -/
namespace Go.Proofs.YtmlfcbbgelkbbaaGreat
open Go.RowKit

def fv (x : Int × Int) : Value := .agg #[.int .i64 x.1, .int .i64 x.2]
def may (x : Int × Int) : Bool := if x.1 = 1 then decide (1 ≤ x.2 ∧ x.2 ≤ 1048576) else decide (0 ≤ x.1 ∧ x.1 ≤ 3 ∧ x.2 = 0)

end Go.Proofs.YtmlfcbbgelkbbaaGreat

/- Lists of faults in memory; CopyFaults, SameFaults, Clone, Check and the reference's Check, for any faults. -/
namespace Go.Proofs.YtmlfcbbgelkbbaaGreat
open Go.RowKit

end Go.Proofs.YtmlfcbbgelkbbaaGreat

/- SameFaults and the reference's Check, for any faults. -/
namespace Go.Proofs.YtmlfcbbgelkbbaaGreat
open Go.RowKit

end Go.Proofs.YtmlfcbbgelkbbaaGreat

/- Check and the reference's Check, for any faults. -/
namespace Go.Proofs.YtmlfcbbgelkbbaaGreat
open Go.RowKit

end Go.Proofs.YtmlfcbbgelkbbaaGreat

/- Check of faults: the closure, first, Check. -/
namespace Go.Proofs.YtmlfcbbgelkbbaaGreat
open Go.RowKit

end Go.Proofs.YtmlfcbbgelkbbaaGreat

/- Plans: isMade, New, Next, Rest, Copy, the reference's Next. -/
namespace Go.Proofs.YtmlfcbbgelkbbaaGreat
open Go.RowKit

end Go.Proofs.YtmlfcbbgelkbbaaGreat

/- A pipe: what its block holds, and what stays of it. -/
namespace Go.Proofs.YtmlfcbbgelkbbaaGreat
open Go.RowKit

theorem heap_setCell_same {W : World} {g : Nat} (j : Nat) (v : Value) {cur : List Value} {t : TypeId} {fr : Nat × Nat} (h : W.heap[g]? = some (.cells cur.toArray t fr)) : (W.setCell ⟨g, j, none⟩ v).heap[g]? = some (.cells (cur.set j v).toArray t fr) := by
  unfold World.setCell
  simp only [Array.getElem?_modify, h]
  simp

end Go.Proofs.YtmlfcbbgelkbbaaGreat

/- What the small functions of a pipe answer: isMade, mayBeAsked, room, place, side, readWaits, refuses, fitting. -/
namespace Go.Proofs.YtmlfcbbgelkbbaaGreat
open Go.RowKit

end Go.Proofs.YtmlfcbbgelkbbaaGreat

/- The ring of a pipe: front. -/
namespace Go.Proofs.YtmlfcbbgelkbbaaGreat
open Go.RowKit

end Go.Proofs.YtmlfcbbgelkbbaaGreat

/- The ring of a pipe: take and put. -/
namespace Go.Proofs.YtmlfcbbgelkbbaaGreat
open Go.RowKit

end Go.Proofs.YtmlfcbbgelkbbaaGreat

/- What the calls of a pipe answer, and what they leave: New, Join, Leave, Held, Ends, CanRead, CanWrite. -/
namespace Go.Proofs.YtmlfcbbgelkbbaaGreat
open Go.RowKit

end Go.Proofs.YtmlfcbbgelkbbaaGreat

/- What the calls of a pipe answer, and what they leave: Join, Leave, Held, Ends, CanRead, CanWrite. -/
namespace Go.Proofs.YtmlfcbbgelkbbaaGreat
open Go.RowKit

end Go.Proofs.YtmlfcbbgelkbbaaGreat

/- What Read and Write of a pipe answer, and what they leave. -/
namespace Go.Proofs.YtmlfcbbgelkbbaaGreat
open Go.RowKit

end Go.Proofs.YtmlfcbbgelkbbaaGreat

/- A kernel by the page, as a value: what it is, and what calls answer and leave. No program. -/
namespace Go.Proofs.YtmlfcbbgelkbbaaGreat
open Go.RowKit

end Go.Proofs.YtmlfcbbgelkbbaaGreat

/- The reference's pipe: Join, Leave, Read, CanRead, CanWrite. -/
namespace Go.Proofs.YtmlfcbbgelkbbaaGreat
open Go.RowKit

end Go.Proofs.YtmlfcbbgelkbbaaGreat

/- The reference's pipe: Read. -/
namespace Go.Proofs.YtmlfcbbgelkbbaaGreat
open Go.RowKit

end Go.Proofs.YtmlfcbbgelkbbaaGreat

/- The reference's pipe: Write. -/
namespace Go.Proofs.YtmlfcbbgelkbbaaGreat
open Go.RowKit

end Go.Proofs.YtmlfcbbgelkbbaaGreat

/- The reference's things: files, terminals and pipes in one notion, each within a set of blocks of its own. -/
namespace Go.Proofs.YtmlfcbbgelkbbaaGreat
open Go.RowKit

end Go.Proofs.YtmlfcbbgelkbbaaGreat

/- CopyNamed, SameNamed. -/
namespace Go.Proofs.YtmlfcbbgelkbbaaGreat
open Go.RowKit

end Go.Proofs.YtmlfcbbgelkbbaaGreat

/- CopyTyped. -/
namespace Go.Proofs.YtmlfcbbgelkbbaaGreat
open Go.RowKit

end Go.Proofs.YtmlfcbbgelkbbaaGreat

/- The reference's kernel: Named, has, flagged, Move. -/
namespace Go.Proofs.YtmlfcbbgelkbbaaGreat
open Go.RowKit

theorem move_any (base off most : Int) (w : World) (h1 : 0 ≤ base) (h2 : base ≤ 1048576) (h3 : 0 ≤ most) (h4 : most ≤ 1048576) :
    Calls Tryz.prog 166 #[.int .i64 base, .int .i64 off, .int .i64 most] w fun e w' => e = .returned (if 0 ≤ base + off ∧ base + off ≤ most then .tuple #[.int .i64 (base + off), .bool true] else .tuple #[.int .i64 0, .bool false]) ∧ w' = w := by
  rcases (show off < -base ∨ (¬ off < -base ∧ most - base < off) ∨ (¬ off < -base ∧ ¬ most - base < off) by omega) with e1 | ⟨e1, e2⟩ | ⟨e1, e2⟩
  · rw [if_neg (by omega)]
    go_enter Tryz.func166, Tryz.ntmps166
    go_wp2
    go_ret2
    exact ⟨rfl, rfl⟩
  · rw [if_neg (by omega)]
    go_enter Tryz.func166, Tryz.ntmps166
    go_wp2
    go_ret2
    exact ⟨rfl, rfl⟩
  · rw [if_pos (by omega)]
    have e3 : -9223372036854775808 ≤ base + off ∧ base + off ≤ 9223372036854775807 := by omega
    go_enter Tryz.func166, Tryz.ntmps166
    go_wp2
    go_ret2
    exact ⟨rfl, rfl⟩
end Go.Proofs.YtmlfcbbgelkbbaaGreat

/- The reference's plan: Next. -/
namespace Go.Proofs.YtmlfcbbgelkbbaaGreat
open Go.RowKit

end Go.Proofs.YtmlfcbbgelkbbaaGreat

/- The reference's kernel: has, Check. -/
namespace Go.Proofs.YtmlfcbbgelkbbaaGreat
open Go.RowKit

end Go.Proofs.YtmlfcbbgelkbbaaGreat

/- A kernel by the page: what it is, as a value; what lies in memory for the reference's kernel. -/
namespace Go.Proofs.YtmlfcbbgelkbbaaGreat
open Go.RowKit

inductive Tag where
  | kern
  | trow
  | drow
  | plan
  | thing (i : Nat)
  | obj (i : Nat)
  | desc (n : Nat)
end Go.Proofs.YtmlfcbbgelkbbaaGreat

/- The reference's kernel: what a description that is found leads to; Kind, Held, CanRead, CanWrite, Keep. -/
namespace Go.Proofs.YtmlfcbbgelkbbaaGreat
open Go.RowKit

end Go.Proofs.YtmlfcbbgelkbbaaGreat

/- The reference's kernel: CanWrite, Held, Keep. -/
namespace Go.Proofs.YtmlfcbbgelkbbaaGreat
open Go.RowKit

end Go.Proofs.YtmlfcbbgelkbbaaGreat

/- The reference's kernel: what it is when an object of it turns, when a call is counted, when a fault is used up. -/
namespace Go.Proofs.YtmlfcbbgelkbbaaGreat
open Go.RowKit

end Go.Proofs.YtmlfcbbgelkbbaaGreat

/- The reference's kernel: Read. -/
namespace Go.Proofs.YtmlfcbbgelkbbaaGreat
open Go.RowKit

end Go.Proofs.YtmlfcbbgelkbbaaGreat

/- The reference's kernel: room, Seek. -/
namespace Go.Proofs.YtmlfcbbgelkbbaaGreat
open Go.RowKit

end Go.Proofs.YtmlfcbbgelkbbaaGreat

/- A kernel by the page, as a value: writes, drops, opens, pipes, beginnings. No program. -/
namespace Go.Proofs.YtmlfcbbgelkbbaaGreat
open Go.RowKit

end Go.Proofs.YtmlfcbbgelkbbaaGreat

/- The reference's kernel: Write. -/
namespace Go.Proofs.YtmlfcbbgelkbbaaGreat
open Go.RowKit

end Go.Proofs.YtmlfcbbgelkbbaaGreat

/- The reference's kernel: Write, to a terminal and to a pipe. -/
namespace Go.Proofs.YtmlfcbbgelkbbaaGreat
open Go.RowKit

end Go.Proofs.YtmlfcbbgelkbbaaGreat

/- The reference's kernel: Write, to a terminal. -/
namespace Go.Proofs.YtmlfcbbgelkbbaaGreat
open Go.RowKit

end Go.Proofs.YtmlfcbbgelkbbaaGreat

/- The reference's kernel: Write, to a file. -/
namespace Go.Proofs.YtmlfcbbgelkbbaaGreat
open Go.RowKit

end Go.Proofs.YtmlfcbbgelkbbaaGreat

/- The reference's kernel: a new description. -/
namespace Go.Proofs.YtmlfcbbgelkbbaaGreat
open Go.RowKit

end Go.Proofs.YtmlfcbbgelkbbaaGreat

/- Spoil turns the block of its slice, and no other. -/
namespace Go.Proofs.YtmlfcbbgelkbbaaGreat
open Go.RowKit

set_option maxRecDepth 100000 in
set_option maxHeartbeats 1000000 in
theorem Kp_spoil_turn (base : Nat) (v : Value) (n : Nat) (xs : List Value) (w : World) (h : w.ownsRow base 5 1 v n xs) (hx : ∀ u ∈ xs, ∃ c, u = .int .u8 c) (hs : n ≤ maxLen) :
    Calls Tryz.prog 38 #[v] w fun e w' => e = .returned (.tuple #[]) ∧ Turned (fun k => v.ownBlock = some k) w w' := by
  unfold maxLen at hs
  rcases h.2 with ⟨rfl, h0⟩ | ⟨g, cap, cur, rfl, hbg, -⟩
  · go_enter Tryz.func38, Tryz.ntmps38
    go_wp2
    go_loopw [2] (fun i wr => i = .int .i64 0 ∧ wr = w) (fun _ _ => 0)
    case atStart => exact ⟨rfl, rfl⟩
    case round =>
      obtain ⟨rfl, rfl⟩ := hrel
      go_wp2
      go_end0
      exact ⟨rfl, Turned.refl _ _⟩
  · have HO := hide h
    have HX := hide hx
    have hlen : xs.length = n := by have := h.1; omega
    clear h hx
    go_enter Tryz.func38, Tryz.ntmps38
    go_wp2
    go_loopw [2] (fun i wr => ∃ (k : Nat) (ys : List Value), k ≤ n ∧ i = .int .i64 k ∧ ys.length = n ∧ (∀ u ∈ ys, ∃ c, u = .int .u8 c) ∧ wr.ownsRow base 5 1 (.slice (some ⟨g, 0, none⟩) n cap) n ys ∧ Turned (fun k => (Value.slice (some ⟨g, 0, none⟩) n cap).ownBlock = some k) w wr) (fun i _ => n - (intOf i).toNat)
    case atStart => exact ⟨0, xs, Nat.zero_le _, rfl, hlen, HX.out, HO.out, Turned.refl _ _⟩
    case round =>
      clear HO HX hlen
      obtain ⟨k, ys, hk, rfl, hlen, hys, hown, hT⟩ := hrel
      have HT := hide hT
      clear hT
      by_cases hlt : k < n
      · obtain ⟨c, hc⟩ := hys ys[k] (List.getElem_mem _)
        have hcell := hown.cellAt k (by omega)
        rw [List.getElem?_eq_getElem (by omega), hc] at hcell
        have hfr := hown.frozenAt k
        have HY := hide hys
        have HO := hide hown
        have HL := hide hlen
        clear hys hown hc hlen
        go_wp2
        go_roundw
        case rel =>
          obtain ⟨hst, hgr⟩ := HO.out.stored k (Value.int .u8 (bits .xor .u8 c 85))
          refine ⟨k + 1, _, by omega, by go_num, ?_, ?_, hst, HT.out.set (.inl rfl)⟩
          · rw [List.length_set]; exact HL.out
          · intro u hu
            rcases List.mem_or_eq_of_mem_set hu with h | h
            · exact HY.out u h
            · exact ⟨_, h⟩
        case measure => simp [intOf]; omega
      · go_wp2
        go_end0
        exact ⟨rfl, HT.out⟩
theorem Kp_bv_ints (l : List UInt8) : ∀ u ∈ l.map bv, ∃ c, u = .int .u8 c := by
  intro u hu
  obtain ⟨c, _, rfl⟩ := List.mem_map.1 hu
  exact ⟨_, rfl⟩
end Go.Proofs.YtmlfcbbgelkbbaaGreat

/- The program's files, terminals and pipes in one notion, each within a set of blocks of its own. -/
namespace Go.Proofs.YtmlfcbbgelkbbaaGreat
open Go.RowKit

end Go.Proofs.YtmlfcbbgelkbbaaGreat

/- Maps whose values are pointers to blocks: what they hold, as a list of keys and blocks in any order. -/
namespace Go.Proofs.YtmlfcbbgelkbbaaGreat
open Go.RowKit Go.Maps

end Go.Proofs.YtmlfcbbgelkbbaaGreat

/- The program's kernel: what lies in memory for it; isMade, described. -/
namespace Go.Proofs.YtmlfcbbgelkbbaaGreat
open Go.RowKit Go.Maps

inductive PTag where
  | kern
  | fmap
  | tmap
  | omap
  | plan
  | obj (i : Nat)
  | cons (i : Nat)
  | desc (n : Nat)
  | ofile (n : Nat)
end Go.Proofs.YtmlfcbbgelkbbaaGreat

/- The program's kernel: described, Kind. -/
namespace Go.Proofs.YtmlfcbbgelkbbaaGreat
open Go.RowKit Go.Maps

end Go.Proofs.YtmlfcbbgelkbbaaGreat

/- The program's kernel: how what lies in memory turns. -/
namespace Go.Proofs.YtmlfcbbgelkbbaaGreat
open Go.RowKit Go.Maps

end Go.Proofs.YtmlfcbbgelkbbaaGreat

/- The program's kernel: what is done with an open file, a console, a pipe's end. -/
namespace Go.Proofs.YtmlfcbbgelkbbaaGreat
open Go.RowKit Go.Maps

end Go.Proofs.YtmlfcbbgelkbbaaGreat

/- The program's kernel: writes to an open file and to a console; what a pipe's end does. -/
namespace Go.Proofs.YtmlfcbbgelkbbaaGreat
open Go.RowKit Go.Maps

end Go.Proofs.YtmlfcbbgelkbbaaGreat

/- The program's kernel: a console's refusals, reads and writes. -/
namespace Go.Proofs.YtmlfcbbgelkbbaaGreat
open Go.RowKit Go.Maps

end Go.Proofs.YtmlfcbbgelkbbaaGreat

/- The program's kernel: what a pipe's end does. -/
namespace Go.Proofs.YtmlfcbbgelkbbaaGreat
open Go.RowKit Go.Maps

theorem recv_below (w : World) (o : Obj) : Below w.heap.size w (w.alloc o) := (Below.refl _ _).alloc (Nat.le_refl _) _
end Go.Proofs.YtmlfcbbgelkbbaaGreat

/- The reference's kernel: desc. -/
namespace Go.Proofs.YtmlfcbbgelkbbaaGreat
open Go.RowKit

end Go.Proofs.YtmlfcbbgelkbbaaGreat

/- The reference's kernel: one thing more; Pipe. -/
namespace Go.Proofs.YtmlfcbbgelkbbaaGreat
open Go.RowKit

end Go.Proofs.YtmlfcbbgelkbbaaGreat

/- The reference's kernel: a thing by its name. -/
namespace Go.Proofs.YtmlfcbbgelkbbaaGreat
open Go.RowKit

end Go.Proofs.YtmlfcbbgelkbbaaGreat

/- The reference's kernel: a thing is put among the names. -/
namespace Go.Proofs.YtmlfcbbgelkbbaaGreat
open Go.RowKit

end Go.Proofs.YtmlfcbbgelkbbaaGreat

/- The program's kernel: Read. -/
namespace Go.Proofs.YtmlfcbbgelkbbaaGreat
open Go.RowKit Go.Maps

end Go.Proofs.YtmlfcbbgelkbbaaGreat

/- The program's kernel: what is written to a thing. -/
namespace Go.Proofs.YtmlfcbbgelkbbaaGreat
open Go.RowKit Go.Maps

end Go.Proofs.YtmlfcbbgelkbbaaGreat

/- The program's kernel: Seek, Keep. -/
namespace Go.Proofs.YtmlfcbbgelkbbaaGreat
open Go.RowKit Go.Maps

end Go.Proofs.YtmlfcbbgelkbbaaGreat

/- The program's kernel: Keep, Drop. -/
namespace Go.Proofs.YtmlfcbbgelkbbaaGreat
open Go.RowKit Go.Maps

end Go.Proofs.YtmlfcbbgelkbbaaGreat

/- The program's kernel: Drop, CanRead, CanWrite. -/
namespace Go.Proofs.YtmlfcbbgelkbbaaGreat
open Go.RowKit Go.Maps

end Go.Proofs.YtmlfcbbgelkbbaaGreat

/- The program's kernel: new things and new descriptions. -/
namespace Go.Proofs.YtmlfcbbgelkbbaaGreat
open Go.RowKit Go.Maps

end Go.Proofs.YtmlfcbbgelkbbaaGreat

/- The program's kernel: describe. -/
namespace Go.Proofs.YtmlfcbbgelkbbaaGreat
open Go.RowKit Go.Maps

end Go.Proofs.YtmlfcbbgelkbbaaGreat

/- The program's kernel: new files. -/
namespace Go.Proofs.YtmlfcbbgelkbbaaGreat
open Go.RowKit Go.Maps

end Go.Proofs.YtmlfcbbgelkbbaaGreat

/- The reference's kernel: Open. -/
namespace Go.Proofs.YtmlfcbbgelkbbaaGreat
open Go.RowKit

end Go.Proofs.YtmlfcbbgelkbbaaGreat

/- The reference's kernel: Open, of a name that is there. -/
namespace Go.Proofs.YtmlfcbbgelkbbaaGreat
open Go.RowKit

end Go.Proofs.YtmlfcbbgelkbbaaGreat

/- The program's kernel: thingFor. -/
namespace Go.Proofs.YtmlfcbbgelkbbaaGreat
open Go.RowKit Go.Maps

end Go.Proofs.YtmlfcbbgelkbbaaGreat

/- The program's kernel: thingFor, walked. -/
namespace Go.Proofs.YtmlfcbbgelkbbaaGreat
open Go.RowKit Go.Maps

end Go.Proofs.YtmlfcbbgelkbbaaGreat

/- The program's kernel: thingFor, where a file is made. -/
namespace Go.Proofs.YtmlfcbbgelkbbaaGreat
open Go.RowKit Go.Maps

end Go.Proofs.YtmlfcbbgelkbbaaGreat

/- The program's kernel: nameMayBe, flagsMayBe. -/
namespace Go.Proofs.YtmlfcbbgelkbbaaGreat
open Go.RowKit Go.Maps
set_option linter.unusedSimpArgs false

end Go.Proofs.YtmlfcbbgelkbbaaGreat

/- The program's kernel: Open. -/
namespace Go.Proofs.YtmlfcbbgelkbbaaGreat
open Go.RowKit Go.Maps

end Go.Proofs.YtmlfcbbgelkbbaaGreat

/- The program's kernel: give. -/
namespace Go.Proofs.YtmlfcbbgelkbbaaGreat
open Go.RowKit Go.Maps

end Go.Proofs.YtmlfcbbgelkbbaaGreat

/- The program's kernel: Check. -/
namespace Go.Proofs.YtmlfcbbgelkbbaaGreat
open Go.RowKit Go.Maps

end Go.Proofs.YtmlfcbbgelkbbaaGreat

/- The program's kernel as it is being made: without its plan. -/
namespace Go.Proofs.YtmlfcbbgelkbbaaGreat
open Go.RowKit Go.Maps

end Go.Proofs.YtmlfcbbgelkbbaaGreat

/- The program's kernel as it is being made: how it begins, and how files and terminals come to it. -/
namespace Go.Proofs.YtmlfcbbgelkbbaaGreat
open Go.RowKit Go.Maps

end Go.Proofs.YtmlfcbbgelkbbaaGreat

/- The program's kernel: New. -/
namespace Go.Proofs.YtmlfcbbgelkbbaaGreat
open Go.RowKit Go.Maps

end Go.Proofs.YtmlfcbbgelkbbaaGreat

/- The reference's kernel: New. -/
namespace Go.Proofs.YtmlfcbbgelkbbaaGreat
open Go.RowKit

end Go.Proofs.YtmlfcbbgelkbbaaGreat

/- Lines, and steps, that came in as an argument: what a walk is told of them. -/
namespace Go.Proofs.YtmlfcbbgelkbbaaGreat
open Go.ChangeShapes Go.WideShapes Go.ChangeAt Go.RowKit Go.Deep

end Go.Proofs.YtmlfcbbgelkbbaaGreat

/- Faults, and ints, that came in as an argument: what a walk is told of them. -/
namespace Go.Proofs.YtmlfcbbgelkbbaaGreat
open Go.ChangeShapes Go.WideShapes Go.ChangeAt Go.RowKit Go.Deep

end Go.Proofs.YtmlfcbbgelkbbaaGreat

/- Files, terminals, steps and setups that came in as an argument: what a walk is told of them, and their sizes. -/
namespace Go.Proofs.YtmlfcbbgelkbbaaGreat
open Go.ChangeShapes Go.WideShapes Go.ChangeAt Go.RowKit Go.Deep

end Go.Proofs.YtmlfcbbgelkbbaaGreat

/- The program's kernel: Read, walked. -/
namespace Go.Proofs.YtmlfcbbgelkbbaaGreat
open Go.RowKit Go.Maps

end Go.Proofs.YtmlfcbbgelkbbaaGreat

/- The program's kernel: Pipe. -/
namespace Go.Proofs.YtmlfcbbgelkbbaaGreat
open Go.RowKit Go.Maps

end Go.Proofs.YtmlfcbbgelkbbaaGreat

/- The program's kernel: Pipe, walked. -/
namespace Go.Proofs.YtmlfcbbgelkbbaaGreat
open Go.RowKit Go.Maps

end Go.Proofs.YtmlfcbbgelkbbaaGreat

/- The program's kernel: CanRead, CanWrite. -/
namespace Go.Proofs.YtmlfcbbgelkbbaaGreat
open Go.RowKit Go.Maps

end Go.Proofs.YtmlfcbbgelkbbaaGreat

/- The program's kernel: Write, walked. -/
namespace Go.Proofs.YtmlfcbbgelkbbaaGreat
open Go.RowKit Go.Maps

end Go.Proofs.YtmlfcbbgelkbbaaGreat

/- The program's kernel within a set of blocks: each call. -/
namespace Go.Proofs.YtmlfcbbgelkbbaaGreat
open Go.RowKit Go.Maps

end Go.Proofs.YtmlfcbbgelkbbaaGreat

/- A law's setup, copied for the program; how far a kernel's numbers go up by a call. -/
namespace Go.Proofs.YtmlfcbbgelkbbaaGreat
open Go.RowKit Go.Maps

end Go.Proofs.YtmlfcbbgelkbbaaGreat
