/- What the proof stands on, part 14: the contracts of the program's calls that it reaches. -/
import Derived.Test.YtpffhemmjigfaaaKM13
import Derived.Deep.DeepCutAuto
/- PushbackOwn: the walk. -/
namespace Go.Proofs.Ytpffhemmjigfaaa
open Go.RowKit

set_option maxRecDepth 100000 in
set_option maxHeartbeats 8000000 in
theorem pown_any (x : SS) (o i b : Value) (ta : Option Addr) (tn tc : Nat) (t : List UInt8) (w : World) (h : SIn w (fun _ => True) x o i b) (ho : x.out.length ≤ 140737488351232) (hi : x.inn.length ≤ 140737488351232) (hb : x.back.length ≤ 140737488351232) (hby : Bys w (.slice ta tn tc) t) (htl : t.length ≤ 140737488351232) :
    Calls Try.prog 6 #[.agg #[.bool x.rd, .bool x.wt, .int .i64 x.mode, .int .i64 x.size, o, i, b, .int .i64 x.dir, .bool x.fin, .bool x.bad, .bool x.closed], .slice ta tn tc] w fun e w' => e = .returned (.bool true) ∧ Below w.heap.size w w' := by
  obtain rfl := bys_len13 hby
  have HI := hide h
  have HBy := hide hby
  obtain ⟨s1, s4, rfl, -⟩ := h.so
  obtain ⟨s2, s5, rfl, -⟩ := h.si
  obtain ⟨s3, s6, rfl, -⟩ := h.sb
  clear h hby
  obtain ⟨q2, hq2⟩ : ∃ q, q = x.unget t := ⟨_, rfl⟩
  have hl2 := unget_len x t ho hi hb
  rw [← hq2] at hl2
  have HU3 := hide (fun (o i b : Value) W (a : Option Addr) (c : Nat) (P : Nat → Prop) (hs : SIn W P x o i b) (hb2 : Bys W (.slice a t.length c) t) => callsIn_wide.1 (pungetAll_in 3 (Nat.le_refl _) x o i b _ a c t W hs ho hi hb hb2 htl))
  have HGv := hide (fun W (hs : SIn W (fun _ => True) x (.slice s1 x.out.length s4) (.slice s2 x.inn.length s5) (.slice s3 x.back.length s6)) => given_any x _ _ _ _ W hs ho hi hb)
  rw [← hq2] at HU3
  clear hq2
  obtain ⟨z, e'⟩ := q2
  simp only at HU3 hl2
  have hl3 := held_len z
  go_enter Try.func6, Try.ntmps6
  have HW : Hid (Below w.heap.size w w) := hide (Below.refl _ _)
  have hA := recv_below w (Obj.cells #[.bool x.rd, .bool x.wt, .int .i64 x.mode, .int .i64 x.size, .slice s1 x.out.length s4, .slice s2 x.inn.length s5, .slice s3 x.back.length s6, .int .i64 x.dir, .bool x.fin, .bool x.bad, .bool x.closed] 24)
  have HS := hide (RSt.new w x (.slice s1 x.out.length s4) (.slice s2 x.inn.length s5) (.slice s3 x.back.length s6))
  replace HW := hide (HW.out.trans (hA.mono HW.out.size))
  replace HI := hide (HI.out.below hA)
  replace HBy := hide (HBy.out.below hA)
  have hz := hA.size
  clear hA
  clear hz
  obtain ⟨c0, c1, c2, c3, c4, c5, c6, c7, c8, c9, c10⟩ := HS.out.cs
  go_wp2_with fail
  clear c0 c1 c2 c3 c4 c5 c6 c7 c8 c9 c10
  generalize w.alloc (Obj.cells #[.bool x.rd, .bool x.wt, .int .i64 x.mode, .int .i64 x.size, .slice s1 x.out.length s4, .slice s2 x.inn.length s5, .slice s3 x.back.length s6, .int .i64 x.dir, .bool x.fin, .bool x.bad, .bool x.closed] 24) = w0 at *
  refine (palive_any _).mono ?_
  rintro _ w1 ⟨rfl, hB⟩
  replace HW := hide (HW.out.trans (hB.mono HW.out.size))
  replace HI := hide (HI.out.below hB)
  replace HBy := hide (HBy.out.below hB)
  replace HS := hide (HS.out.below hB)
  clear hB
  obtain ⟨c0, c1, c2, c3, c4, c5, c6, c7, c8, c9, c10⟩ := HS.out.cs
  go_wp2_with fail
  clear c0 c1 c2 c3 c4 c5 c6 c7 c8 c9 c10
  have HW1 := hide HW.out.size
  refine (HGv.out _ HI.out).mono ?_
  rintro _ w2 ⟨o1, i1, b1, rfl, y1, y2, y3, hB, hAp⟩
  obtain ⟨g1, g4, rfl⟩ := owns_slice y1
  obtain ⟨g2, g5, rfl⟩ := owns_slice y2
  obtain ⟨g3, g6, rfl⟩ := owns_slice y3
  have HX : Hid (Own3 w1.heap.size w2 x (.slice g1 x.out.length g4) (.slice g2 x.inn.length g5) (.slice g3 x.back.length g6)) := hide ⟨y1, y2, y3, hAp⟩
  have HXl := hide HX.out.lt
  have zw2 : w1.heap.size ≤ w2.heap.size := hB.size
  replace HW := hide (HW.out.trans (hB.mono HW.out.size))
  replace HI := hide (HI.out.below hB)
  replace HBy := hide (HBy.out.below hB)
  replace HS := hide (HS.out.below hB)
  clear y1 y2 y3 hB hAp HGv
  have hA := recv_below w2 (Obj.cells #[.bool x.rd, .bool x.wt, .int .i64 x.mode, .int .i64 x.size, .slice g1 x.out.length g4, .slice g2 x.inn.length g5, .slice g3 x.back.length g6, .int .i64 x.dir, .bool x.fin, .bool x.bad, .bool x.closed] 25)
  have HG := hide (StAt.new w2 x (.slice g1 x.out.length g4) (.slice g2 x.inn.length g5) (.slice g3 x.back.length g6))
  replace HW := hide (HW.out.trans (hA.mono HW.out.size))
  replace HI := hide (HI.out.below hA)
  replace HBy := hide (HBy.out.below hA)
  replace HS := hide (HS.out.below hA)
  replace HX := hide (HX.out.below hA)
  have hz := hA.size
  clear hA
  go_wp2_with fail
  have hg : w2.heap.size < (w2.alloc (Obj.cells #[.bool x.rd, .bool x.wt, .int .i64 x.mode, .int .i64 x.size, .slice g1 x.out.length g4, .slice g2 x.inn.length g5, .slice g3 x.back.length g6, .int .i64 x.dir, .bool x.fin, .bool x.bad, .bool x.closed] 25)).heap.size := HG.out.lt
  clear hz
  generalize w2.alloc (Obj.cells #[.bool x.rd, .bool x.wt, .int .i64 x.mode, .int .i64 x.size, .slice g1 x.out.length g4, .slice g2 x.inn.length g5, .slice g3 x.back.length g6, .int .i64 x.dir, .bool x.fin, .bool x.bad, .bool x.closed] 25) = w3 at *
  refine (copy_any _ t _ HBy.out htl).mono ?_
  rintro _ w4 ⟨ow, rfl, hO, hB⟩
  obtain ⟨ova, ovc, rfl⟩ := owns_slice hO
  have HOw := hide hO
  have HOl := hide (fun k e => hO.lt k e)
  have zw4 : w3.heap.size ≤ w4.heap.size := hB.size
  replace HW := hide (HW.out.trans (hB.mono HW.out.size))
  replace HI := hide (HI.out.below hB)
  replace HBy := hide (HBy.out.below hB)
  replace HS := hide (HS.out.below hB)
  replace HX := hide (HX.out.below hB)
  replace HG := hide (HG.out.below hB)
  clear hO hB
  obtain ⟨c0, c1, c2, c3, c4, c5, c6, c7, c8, c9, c10⟩ := HG.out.cs
  go_wp2_with fail
  clear c0 c1 c2 c3 c4 c5 c6 c7 c8 c9 c10
  refine (HU3.out _ _ _ _ _ _ _ HX.out.sin (Bys.of_owns HOw.out)).mono ?_
  rintro _ w5 ⟨o1, i1, b1, rfl, hO, hB⟩
  obtain ⟨u1, u4, rfl⟩ := owns_slice hO.1
  obtain ⟨u2, u5, rfl⟩ := owns_slice hO.2.1
  obtain ⟨u3, u6, rfl⟩ := owns_slice hO.2.2.1
  have HY := hide hO.sin
  have zw5 : w4.heap.size ≤ w5.heap.size := hB.size
  replace HW := hide (HW.out.trans (hB.mono HW.out.size))
  replace HI := hide (HI.out.below hB)
  replace HBy := hide (HBy.out.below hB)
  replace HS := hide (HS.out.below hB)
  replace HX := hide (HX.out.below hB)
  replace HG := hide (HG.out.below hB)
  replace HOw := hide (owns_below HOw.out hB)
  clear hO hB HU3
  have hA := recv_below w5 (Obj.cells #[.bool z.rd, .bool z.wt, .int .i64 z.mode, .int .i64 z.size, .slice u1 z.out.length u4, .slice u2 z.inn.length u5, .slice u3 z.back.length u6, .int .i64 z.dir, .bool z.fin, .bool z.bad, .bool z.closed] 25)
  have HYs := hide (StAt.new w5 z (.slice u1 z.out.length u4) (.slice u2 z.inn.length u5) (.slice u3 z.back.length u6))
  replace HW := hide (HW.out.trans (hA.mono HW.out.size))
  replace HI := hide (HI.out.below hA)
  replace HBy := hide (HBy.out.below hA)
  replace HS := hide (HS.out.below hA)
  replace HX := hide (HX.out.below hA)
  replace HG := hide (HG.out.below hA)
  replace HOw := hide (owns_below HOw.out hA)
  replace HY := hide (HY.out.below hA)
  have hz := hA.size
  clear hA
  have z6 : w5.heap.size < (w5.alloc (Obj.cells #[.bool z.rd, .bool z.wt, .int .i64 z.mode, .int .i64 z.size, .slice u1 z.out.length u4, .slice u2 z.inn.length u5, .slice u3 z.back.length u6, .int .i64 z.dir, .bool z.fin, .bool z.bad, .bool z.closed] 25)).heap.size := HYs.out.lt
  clear hz
  obtain ⟨c0, c1, c2, c3, c4, c5, c6, c7, c8, c9, c10⟩ := HYs.out.cs
  go_wp2_with fail
  clear c0 c1 c2 c3 c4 c5 c6 c7 c8 c9 c10
  generalize w5.alloc (Obj.cells #[.bool z.rd, .bool z.wt, .int .i64 z.mode, .int .i64 z.size, .slice u1 z.out.length u4, .slice u2 z.inn.length u5, .slice u3 z.back.length u6, .int .i64 z.dir, .bool z.fin, .bool z.bad, .bool z.closed] 25) = w6 at *
  refine (given_any z _ _ _ _ _ HY.out hl2.1 hl2.2.1 hl2.2.2).mono ?_
  rintro _ w7 ⟨o1, i1, b1, rfl, y1, y2, y3, hB, -⟩
  obtain ⟨k1, k4, rfl⟩ := owns_slice y1
  obtain ⟨k2, k5, rfl⟩ := owns_slice y2
  obtain ⟨k3, k6, rfl⟩ := owns_slice y3
  have HK : Hid (SIn w7 (fun k => w6.heap.size ≤ k ∧ k < w7.heap.size) z (.slice k1 z.out.length k4) (.slice k2 z.inn.length k5) (.slice k3 z.back.length k6)) := hide ⟨Sl.own y1, Sl.own y2, Sl.own y3, fun k e => y1.lt k e, fun k e => y2.lt k e, fun k e => y3.lt k e⟩
  have zw7 : w6.heap.size ≤ w7.heap.size := hB.size
  replace HW := hide (HW.out.trans (hB.mono HW.out.size))
  replace HI := hide (HI.out.below hB)
  replace HBy := hide (HBy.out.below hB)
  replace HS := hide (HS.out.below hB)
  replace HX := hide (HX.out.below hB)
  replace HG := hide (HG.out.below hB)
  replace HOw := hide (owns_below HOw.out hB)
  replace HY := hide (HY.out.below hB)
  replace HYs := hide (HYs.out.below hB)
  clear y1 y2 y3 hB
  have hA := recv_below w7 (Obj.cells #[.bool z.rd, .bool z.wt, .int .i64 z.mode, .int .i64 z.size, .slice k1 z.out.length k4, .slice k2 z.inn.length k5, .slice k3 z.back.length k6, .int .i64 z.dir, .bool z.fin, .bool z.bad, .bool z.closed] 25)
  have HKs := hide (StAt.new w7 z (.slice k1 z.out.length k4) (.slice k2 z.inn.length k5) (.slice k3 z.back.length k6))
  replace HW := hide (HW.out.trans (hA.mono HW.out.size))
  replace HI := hide (HI.out.below hA)
  replace HBy := hide (HBy.out.below hA)
  replace HS := hide (HS.out.below hA)
  replace HX := hide (HX.out.below hA)
  replace HG := hide (HG.out.below hA)
  replace HOw := hide (owns_below HOw.out hA)
  replace HY := hide (HY.out.below hA)
  replace HYs := hide (HYs.out.below hA)
  replace HK := hide (HK.out.below hA)
  have hz := hA.size
  clear hA
  have z8 : w7.heap.size < (w7.alloc (Obj.cells #[.bool z.rd, .bool z.wt, .int .i64 z.mode, .int .i64 z.size, .slice k1 z.out.length k4, .slice k2 z.inn.length k5, .slice k3 z.back.length k6, .int .i64 z.dir, .bool z.fin, .bool z.bad, .bool z.closed] 25)).heap.size := HKs.out.lt
  clear hz
  obtain ⟨c0, c1, c2, c3, c4, c5, c6, c7, c8, c9, c10⟩ := HYs.out.cs
  go_wp2_with fail
  clear c0 c1 c2 c3 c4 c5 c6 c7 c8 c9 c10
  generalize w7.alloc (Obj.cells #[.bool z.rd, .bool z.wt, .int .i64 z.mode, .int .i64 z.size, .slice k1 z.out.length k4, .slice k2 z.inn.length k5, .slice k3 z.back.length k6, .int .i64 z.dir, .bool z.fin, .bool z.bad, .bool z.closed] 25) = w8 at *
  refine (callsIn_wide.1 (pheld_in 3 (Nat.le_refl _) z _ _ _ _ _ HY.out hl2.2.1 hl2.2.2)).mono ?_
  rintro _ w9 ⟨hv, rfl, hO, hB⟩
  obtain ⟨hva, hvc, rfl⟩ := owns_slice hO
  have HH := hide hO
  have HHl := hide (fun k e => hO.lt k e)
  have zw9 : w8.heap.size ≤ w9.heap.size := hB.size
  replace HW := hide (HW.out.trans (hB.mono HW.out.size))
  replace HI := hide (HI.out.below hB)
  replace HBy := hide (HBy.out.below hB)
  replace HS := hide (HS.out.below hB)
  replace HX := hide (HX.out.below hB)
  replace HG := hide (HG.out.below hB)
  replace HOw := hide (owns_below HOw.out hB)
  replace HY := hide (HY.out.below hB)
  replace HYs := hide (HYs.out.below hB)
  replace HK := hide (HK.out.below hB)
  replace HKs := hide (HKs.out.below hB)
  clear hO hB
  generalize hLL : z.heldL.length = LL at *
  have HLL := hide hLL
  clear hLL
  go_wp2_with fail
  refine (Kp_spoil_turn _ _ _ _ w9 HH.out (Kp_bv_ints _) (by unfold maxLen; omega)).mono ?_
  rintro _ w10 ⟨rfl, hT⟩
  have HT : Hid (Turned (fun k => (w1.heap.size ≤ k ∧ k < w2.heap.size) ∨ (w3.heap.size ≤ k ∧ k < w4.heap.size) ∨ w8.heap.size ≤ k) w9 w10) := hide (hT.mono fun k e => .inr (.inr (HHl.out k e).1))
  have HOw2 := hide (owns_turned HOw.out hT fun k e e2 => by have := HOl.out k e; have := HHl.out k e2; omega)
  have HX2 : Hid (Own3 w1.heap.size w10 x (.slice g1 x.out.length g4) (.slice g2 x.inn.length g5) (.slice g3 x.back.length g6)) := hide ⟨owns_turned HX.out.1 hT fun k e e2 => (by have := HXl.out.1 k e; have := HHl.out k e2; omega), owns_turned HX.out.2.1 hT fun k e e2 => (by have := HXl.out.2.1 k e; have := HHl.out k e2; omega), owns_turned HX.out.2.2.1 hT fun k e e2 => (by have := HXl.out.2.2 k e; have := HHl.out k e2; omega), HX.out.2.2.2⟩
  have HG2 : Hid (StAt w10 w2.heap.size x (.slice g1 x.out.length g4) (.slice g2 x.inn.length g5) (.slice g3 x.back.length g6)) := hide ((hT.block _ HG.out.lt fun e2 => by have := HHl.out _ e2; omega).trans HG.out)
  clear hT HOw HX HG HH
  go_wp2_with fail
  refine (Kp_spoil_turn _ _ _ _ w10 HOw2.out (Kp_bv_ints _) (by unfold maxLen; omega)).mono ?_
  rintro _ w11 ⟨rfl, hT⟩
  replace HT := hide (HT.out.trans (hT.mono fun k e => (.inr (.inl (HOl.out k e)) : (fun k => (w1.heap.size ≤ k ∧ k < w2.heap.size) ∨ (w3.heap.size ≤ k ∧ k < w4.heap.size) ∨ w8.heap.size ≤ k) k)) (fun _ _ e => e))
  have HX3 : Hid (Own3 w1.heap.size w11 x (.slice g1 x.out.length g4) (.slice g2 x.inn.length g5) (.slice g3 x.back.length g6)) := hide ⟨owns_turned HX2.out.1 hT fun k e e2 => (by have := HXl.out.1 k e; have := HOl.out k e2; omega), owns_turned HX2.out.2.1 hT fun k e e2 => (by have := HXl.out.2.1 k e; have := HOl.out k e2; omega), owns_turned HX2.out.2.2.1 hT fun k e e2 => (by have := HXl.out.2.2 k e; have := HOl.out k e2; omega), HX2.out.2.2.2⟩
  have HG3 : Hid (StAt w11 w2.heap.size x (.slice g1 x.out.length g4) (.slice g2 x.inn.length g5) (.slice g3 x.back.length g6)) := hide ((hT.block _ HG2.out.lt fun e2 => by have := HOl.out _ e2; omega).trans HG2.out)
  clear hT HOw2 HX2 HG2
  have x5 := HG3.out.cs.2.2.2.2.2.1
  go_wp2_with fail
  clear x5
  refine (Kp_spoil_turn _ _ _ _ w11 HX3.out.2.1 (Kp_bv_ints _) (by unfold maxLen; omega)).mono ?_
  rintro _ w12 ⟨rfl, hT⟩
  replace HT := hide (HT.out.trans (hT.mono fun k e => (.inl (HXl.out.2.1 k e) : (fun k => (w1.heap.size ≤ k ∧ k < w2.heap.size) ∨ (w3.heap.size ≤ k ∧ k < w4.heap.size) ∨ w8.heap.size ≤ k) k)) (fun _ _ e => e))
  have HXo := hide (owns_turned HX3.out.1 hT fun k e e2 => (HX3.out.2.2.2.1 k e).1 e2)
  have HXb := hide (owns_turned HX3.out.2.2.1 hT fun k e e2 => HX3.out.2.2.2.2 k e2 e)
  have HAp := hide HX3.out.2.2.2
  have HG4 : Hid (StAt w12 w2.heap.size x (.slice g1 x.out.length g4) (.slice g2 x.inn.length g5) (.slice g3 x.back.length g6)) := hide ((hT.block _ HG3.out.lt fun e2 => by have := HXl.out.2.1 _ e2; omega).trans HG3.out)
  clear hT HX3 HG3
  have x6 := HG4.out.cs.2.2.2.2.2.2.1
  go_wp2_with fail
  clear x6
  refine (Kp_spoil_turn _ _ _ _ w12 HXb.out (Kp_bv_ints _) (by unfold maxLen; omega)).mono ?_
  rintro _ w13 ⟨rfl, hT⟩
  replace HT := hide (HT.out.trans (hT.mono fun k e => (.inl (HXl.out.2.2 k e) : (fun k => (w1.heap.size ≤ k ∧ k < w2.heap.size) ∨ (w3.heap.size ≤ k ∧ k < w4.heap.size) ∨ w8.heap.size ≤ k) k)) (fun _ _ e => e))
  replace HXo := hide (owns_turned HXo.out hT fun k e e2 => (HAp.out.1 k e).2 e2)
  have HG5 : Hid (StAt w13 w2.heap.size x (.slice g1 x.out.length g4) (.slice g2 x.inn.length g5) (.slice g3 x.back.length g6)) := hide ((hT.block _ HG4.out.lt fun e2 => by have := HXl.out.2.2 _ e2; omega).trans HG4.out)
  clear hT HXb HG4
  have x4 := HG5.out.cs.2.2.2.2.1
  go_wp2_with fail
  clear x4
  refine (Kp_spoil_turn _ _ _ _ w13 HXo.out (Kp_bv_ints _) (by unfold maxLen; omega)).mono ?_
  rintro _ w14 ⟨rfl, hT⟩
  replace HT := hide (HT.out.trans (hT.mono fun k e => (.inl (HXl.out.1 k e) : (fun k => (w1.heap.size ≤ k ∧ k < w2.heap.size) ∨ (w3.heap.size ≤ k ∧ k < w4.heap.size) ∨ w8.heap.size ≤ k) k)) (fun _ _ e => e))
  clear hT HXo HG5 HAp
  have HY2 := hide (HY.out.turned HT.out fun k e1 _ e2 => by
    have e1 : w4.heap.size ≤ k ∧ k < w5.heap.size := e1
    rcases e2 with e2 | e2 | e2 <;> omega)
  have HK2 := hide (HK.out.turned HT.out fun k e1 _ e2 => by
    have e1 : w6.heap.size ≤ k ∧ k < w7.heap.size := e1
    rcases e2 with e2 | e2 | e2 <;> omega)
  have HYs2 : Hid (StAt w14 w5.heap.size z (.slice u1 z.out.length u4) (.slice u2 z.inn.length u5) (.slice u3 z.back.length u6)) := hide ((HT.out.block _ HYs.out.lt fun e2 => by rcases e2 with e2 | e2 | e2 <;> omega).trans HYs.out)
  have HKs2 : Hid (StAt w14 w7.heap.size z (.slice k1 z.out.length k4) (.slice k2 z.inn.length k5) (.slice k3 z.back.length k6)) := hide ((HT.out.block _ HKs.out.lt fun e2 => by rcases e2 with e2 | e2 | e2 <;> omega).trans HKs.out)
  have hzw := HW.out.size
  have zw : w.heap.size ≤ w1.heap.size := HW1.out
  have HWf := hide (HW.out.trans (HT.out.below (B := w.heap.size) (fun k e2 => by rcases e2 with e2 | e2 | e2 <;> omega) HW.out.size))
  clear HY HK HYs HKs HT HW
  obtain ⟨c0, c1, c2, c3, c4, c5, c6, c7, c8, c9, c10⟩ := HYs2.out.cs
  obtain ⟨d0, d1, d2, d3, d4, d5, d6, d7, d8, d9, d10⟩ := HKs2.out.cs
  go_wp2_with fail
  clear c0 c1 c2 c3 c4 c5 c6 c7 c8 c9 c10
  clear d0 d1 d2 d3 d4 d5 d6 d7 d8 d9 d10
  refine (ssame_any z _ _ _ _ _ _ _ _ _ HY2.out HK2.out hl2.1 hl2.2.1 hl2.2.2).mono ?_
  rintro _ w15 ⟨rfl, hB⟩
  have HWg := hide (HWf.out.trans (hB.mono HWf.out.size))
  clear hB
  go_wp2
  go_ret
  exact ⟨rfl, HWg.out⟩
end Go.Proofs.Ytpffhemmjigfaaa

/- Streams: the law's Counter with any bytes, as a Raw that is read alone. -/
namespace Go.Proofs.Ytpffhemmjigfaaa
open Go.RowKit

def ctD2 : RawD CtS := ⟨fun s n => ((s.b.drop s.pl).take (min (min n 1048576) (s.b.length - s.pl)), 0, ⟨s.b, s.pl + min (min n 1048576) (s.b.length - s.pl), s.rd + 1, s.wr⟩), fun s x => ((x.length : Int), 0, ⟨s.b ++ x, s.pl, s.rd, s.wr + 1⟩)⟩
def CtAt2 (g : Nat) (W : World) (O : Nat → Prop) (s : CtS) : Prop := ∃ v, CtB W g v s ∧ W.ownsRow 0 5 1 v s.b.length (s.b.map bv) ∧ (∀ k, v.ownBlock = some k → O k ∧ k ≠ g) ∧ O g ∧ s.pl ≤ s.b.length ∧ s.b.length ≤ 140737488355328
theorem CtAt2.keep {g : Nat} {W W' : World} {O : Nat → Prop} {s : CtS} (h : CtAt2 g W O s) (hk : ∀ j, O j → j < W.heap.size → W'.heap[j]? = W.heap[j]?) : CtAt2 g W' O s := by
  obtain ⟨v, h1, h2, h3, h4, h5⟩ := h
  exact ⟨v, (hk g h4 h1.lt).trans h1, owns_keep h2 fun k e => hk k (h3 k e).1 (h2.lt k e).2, h3, h4, h5⟩
theorem CtAt2.trim {g : Nat} {W : World} {O : Nat → Prop} {s : CtS} (h : CtAt2 g W O s) : CtAt2 g W (fun k => O k ∧ k < W.heap.size) s := by
  obtain ⟨v, h1, h2, h3, h4, h5⟩ := h
  exact ⟨v, h1, h2, fun k e => ⟨⟨(h3 k e).1, (h2.lt k e).2⟩, (h3 k e).2⟩, ⟨h4, h1.lt⟩, h5⟩
theorem ct2_o (g : Nat) (s : CtS) : OAt (fun w O => CtAt2 g w O s) := ⟨fun h hk _ => h.keep hk, fun h => h.trim⟩
set_option maxRecDepth 100000 in
set_option maxHeartbeats 2000000 in
theorem ct_read2 {w : World} {O : Nat → Prop} {s : CtS} (g n : Nat) (h : CtAt2 g w O s) (hok : s.rd ≤ 4611686018427387904) (hn1 : 1 ≤ n) (hn2 : n ≤ 1048576) :
    Calls Try.prog 115 #[.pointer (some ⟨g, 0, none⟩), .int .i64 n] w fun e w' => ∃ ua uc, e = .returned (.tuple #[.slice ua (ctD2.read s n).1.length uc, .int .i64 (ctD2.read s n).2.1]) ∧ Bys w' (.slice ua (ctD2.read s n).1.length uc) (ctD2.read s n).1 ∧ CtAt2 g w' O (ctD2.read s n).2.2 ∧ Turned O w w' := by
  obtain ⟨v, h1, h2, h3, h4, h5, h6⟩ := h
  have k1 := hok
  obtain ⟨c0, c1, c2, c3⟩ := h1.cs
  have f1 := h1.soft 1
  have f2 := h1.soft 2
  obtain ⟨k, hk⟩ : ∃ k, k = min n (s.b.length - s.pl) := ⟨_, rfl⟩
  have hkl : s.pl + k ≤ s.b.length := by omega
  have hmin : min (n : Int) ((s.b.length : Int) - (s.pl : Int)) = (k : Int) := by omega
  have hlen : ((s.b.drop s.pl).take k).length = k := by rw [List.length_take, List.length_drop]; omega
  have q1 := h1.set (v' := v) (s' := ⟨s.b, s.pl, s.rd + 1, s.wr⟩) 2 (.int .i64 ((s.rd : Int) + 1)) rfl
  have q2 := q1.set (v' := v) (s' := ⟨s.b, s.pl + k, s.rd + 1, s.wr⟩) 1 (.int .i64 ((s.pl : Int) + (k : Int))) rfl
  have hT1 : Turned (fun j => j = g) w ((w.setCell ⟨g, 2, none⟩ (.int .i64 ((s.rd : Int) + 1))).setCell ⟨g, 1, none⟩ (.int .i64 ((s.pl : Int) + (k : Int)))) := ((Turned.refl (fun j => j = g) w).set (.inl rfl)).set (.inl rfl)
  have h2s := owns_turned h2 hT1 (fun j e => (h3 j e).2)
  have HF : Hid (CtAt2 g ((w.setCell ⟨g, 2, none⟩ (.int .i64 ((s.rd : Int) + 1))).setCell ⟨g, 1, none⟩ (.int .i64 ((s.pl : Int) + (k : Int)))) O ⟨s.b, s.pl + k, s.rd + 1, s.wr⟩ ∧ Turned O w ((w.setCell ⟨g, 2, none⟩ (.int .i64 ((s.rd : Int) + 1))).setCell ⟨g, 1, none⟩ (.int .i64 ((s.pl : Int) + (k : Int))))) := hide ⟨⟨v, q2, h2s, h3, h4, hkl, h6⟩, hT1.mono fun j e => e ▸ h4⟩
  have HV : Hid (ctD2.read s n = ((s.b.drop s.pl).take k, 0, ⟨s.b, s.pl + k, s.rd + 1, s.wr⟩)) := hide (by rw [hk]; show ((s.b.drop s.pl).take (min (min n 1048576) (s.b.length - s.pl)), (0 : Int), (⟨s.b, s.pl + min (min n 1048576) (s.b.length - s.pl), s.rd + 1, s.wr⟩ : CtS)) = _; rw [Nat.min_eq_left hn2])
  obtain ⟨va, vc, rfl⟩ := owns_slice h2
  have hcap := owns_cap h2
  have hby := Bys.of_owns h2s
  have j0 : (0 : Int) ≤ (s.pl : Int) := by omega
  have j1 : (s.pl : Int) ≤ (s.pl : Int) + (k : Int) := by omega
  have j2 : (s.pl : Int) + (k : Int) ≤ (vc : Int) := by omega
  have j3 : (s.pl : Int) + (k : Int) - (k : Int) = (s.pl : Int) := by omega
  have j6 : s.pl + k - s.pl = k := by omega
  have HK := hide hk
  have HLn := hide hlen
  by_cases hp : 0 < s.b.length
  · obtain ⟨-, qb, qo, rfl, -⟩ := bys_block hby hp
    by_cases hc : vc = s.pl
    · have hk0 : k = 0 := by omega
      subst hc
      subst hk0
      have HB := hide hby
      clear hby h1 h2 h3 h5 q1 q2 hT1 h2s hk hlen
      go_enter Try.func115, Try.ntmps115
      go_wp2
      go_quiet (fail)
      go_wp2
      go_quiet (fail)
      go_wp2
      go_ret2
      rw [HV.out, HLn.out]
      exact ⟨_, _, rfl, by simp only [List.take_zero]; exact .inr (.inl ⟨_, _, rfl, rfl⟩), HF.out.1.keep (fun _ _ _ => rfl), ⟨HF.out.2.os, HF.out.2.tape, HF.out.2.output, HF.out.2.size, HF.out.2.block⟩⟩
    · have j4 : (s.pl : Int) < (vc : Int) := by omega
      have j5 : ¬ vc = s.pl := hc
      have hcut := bys_cut hby s.pl k (vc - s.pl) (by omega)
      have HB := hide hcut
      clear hby h1 h2 h3 h5 q1 q2 hT1 h2s hk hlen hcut
      go_enter Try.func115, Try.ntmps115
      go_wp2
      go_quiet (fail)
      go_wp2
      go_quiet (fail)
      go_wp2
      go_ret2
      rw [HV.out, HLn.out, show s.pl + k - s.pl = k by omega]
      exact ⟨_, _, rfl, HB.out.keep (fun _ _ _ => rfl), HF.out.1.keep (fun _ _ _ => rfl), ⟨HF.out.2.os, HF.out.2.tape, HF.out.2.output, HF.out.2.size, HF.out.2.block⟩⟩
  · have hb0 : s.b = [] := List.length_eq_zero_iff.1 (by omega)
    have hp0 : s.pl = 0 := by omega
    have hk0 : k = 0 := by omega
    subst hk0
    obtain ⟨b0, pl0, rd0, wr0⟩ := s
    simp only at *
    subst hb0 hp0
    have hm0 : min (n : Int) 0 = 0 := by omega
    rcases h2.2 with ⟨e, -⟩ | ⟨q, cap, cur, e, -⟩
    all_goals
      cases e
      clear hby h1 h2 h3 h5 q1 q2 hT1 h2s hk hlen
      go_enter Try.func115, Try.ntmps115
      go_wp2
      go_quiet (fail)
      go_wp2
      go_quiet (fail)
      go_wp2
      go_ret2
      rw [HV.out, HLn.out]
      exact ⟨_, _, rfl, by first | exact .inl ⟨rfl, rfl⟩ | exact .inr (.inl ⟨_, _, rfl, rfl⟩), HF.out.1.keep (fun _ _ _ => rfl), ⟨HF.out.2.os, HF.out.2.tape, HF.out.2.output, HF.out.2.size, HF.out.2.block⟩⟩
/-- A Counter is a Raw that may be read. -/
theorem ct_raw2 (g : Nat) : RawM ctD2 46 (.pointer (some ⟨g, 0, none⟩)) 115 117 (fun s => s.rd ≤ 4611686018427387904) (fun _ => False) (CtAt2 g) where
  mread w := by kernel_rfl
  mwrite w := by kernel_rfl
  cread a w := by kernel_rfl
  cwrite a w := by kernel_rfl
  keep h hk _ := h.keep hk
  few {w O s} n h := by
    show ((s.b.drop s.pl).take (min (min n 1048576) (s.b.length - s.pl))).length ≤ _
    rw [List.length_take, List.length_drop]
    omega
  read n h hok h1 h2 := ct_read2 g n h hok h1 h2
  write bs a c h hok := hok.elim
theorem ct2_some (S : CtS) (n : Nat) (hn : n ≤ 1048576) : someV ctD2 n 8192 S = ((S.b.drop S.pl).take (min n (S.b.length - S.pl)), 0, ⟨S.b, S.pl + min n (S.b.length - S.pl), S.rd + 1, S.wr⟩) := by
  have hr : ctD2.read S n = ((S.b.drop S.pl).take (min n (S.b.length - S.pl)), 0, ⟨S.b, S.pl + min n (S.b.length - S.pl), S.rd + 1, S.wr⟩) := by
    show ((S.b.drop S.pl).take (min (min n 1048576) (S.b.length - S.pl)), (0 : Int), (⟨S.b, S.pl + min (min n 1048576) (S.b.length - S.pl), S.rd + 1, S.wr⟩ : CtS)) = _
    rw [Nat.min_eq_left hn]
  rw [someV_next ctD2 n 8191 S hr, if_neg (by omega), if_neg (by rw [List.length_take]; omega), if_pos rfl]
theorem ct2_ok (S : CtS) (n : Nat) (h : S.rd ≤ 4611686018427387904) : someOk ctD2 (fun s => s.rd ≤ 4611686018427387904) n 8192 S :=
  ⟨h, fun e => by have e2 : (0 : Int) = 22 ∨ (0 : Int) = 23 := e; omega⟩
end Go.Proofs.Ytpffhemmjigfaaa

/- PushbackNext, as values: a stream that reads, with bytes pushed back. -/
namespace Go.Proofs.Ytpffhemmjigfaaa
open Go.RowKit

/-- A full stream that reads the text b over a Counter: i bytes of it were got, bk is pushed back. -/
structure PnR (x : SS) (S : CtS) (b : List UInt8) (i sz : Nat) (bk : List UInt8) : Prop where
  rd : x.rd = true
  cl : x.closed = false
  md : x.mode = 3
  sz1 : x.size = sz
  sz2 : 1 ≤ sz
  sz3 : sz ≤ 65536
  out : x.out = []
  back : x.back = bk
  bkl : bk.length ≤ 8
  dir : x.dir = 0 ∨ x.dir = 1
  d0 : x.dir = 0 → x.inn = [] ∧ bk = []
  sb : S.b = b
  pl : S.pl ≤ b.length
  ii : i + x.inn.length = S.pl
  inn : x.inn = (b.drop i).take x.inn.length
  innl : x.inn.length ≤ 65536
  fin : x.fin = true → i = b.length
theorem PnR.may {x : SS} {S : CtS} {b : List UInt8} {i sz : Nat} {bk : List UInt8} (h : PnR x S b i sz bk) : x.may = true := by
  refine (may_iff x).2 ⟨by rw [h.md]; decide, by rw [h.md]; decide, by rw [h.sz1]; have := h.sz2; omega, by rw [h.sz1]; have := h.sz3; omega, by rw [h.out, h.sz1]; simp, fun e => by rw [h.out]; rfl, h.innl, by rw [h.back]; exact h.bkl, ?_⟩
  rcases h.dir with e | e
  · exact .inl ⟨e, by rw [h.out]; rfl, by rw [(h.d0 e).1, h.back, (h.d0 e).2]; rfl⟩
  · exact .inr (.inl ⟨e, h.rd, by rw [h.out]; rfl, h.cl⟩)
theorem PnR.refuse {x : SS} {S : CtS} {b : List UInt8} {i sz : Nat} {bk : List UInt8} (h : PnR x S b i sz bk) : x.refuse true = 0 := refuse_zero h.may h.cl
theorem PnR.dir2 {x : SS} {S : CtS} {b : List UInt8} {i sz : Nat} {bk : List UInt8} (h : PnR x S b i sz bk) : x.dir ≠ 2 := by rcases h.dir with e | e <;> omega
theorem PnR.noRead {x : SS} {S : CtS} {b : List UInt8} {i sz : Nat} {bk : List UInt8} (h : PnR x S b i sz bk) : x.noRead = 0 := by
  unfold SS.noRead
  rw [if_neg (by simp [h.refuse]), if_neg (by simp [h.rd]), if_neg h.dir2]
theorem PnR.len {x : SS} {S : CtS} {b : List UInt8} {i sz : Nat} {bk : List UInt8} (h : PnR x S b i sz bk) : x.out.length ≤ 140737488351232 ∧ x.inn.length ≤ 140737488351232 ∧ x.back.length ≤ 140737488351232 := by
  rw [h.out, h.back]
  have := h.innl
  have := h.bkl
  exact ⟨by simp, by omega, by omega⟩
/-- What was pushed back is got first, without a raw call. -/
theorem pn_back {x : SS} {S : CtS} {b : List UInt8} {i sz : Nat} {bk : List UInt8} {c : UInt8} (h : PnR x S b i sz (bk ++ [c])) : (x.get ctD2 S).2.1 = c ∧ (x.get ctD2 S).2.2.1 = 0 ∧ (x.get ctD2 S).2.2.2 = S ∧ PnR (x.get ctD2 S).1 S b i sz bk := by
  have hl : 0 < ({ x with dir := 1 } : SS).back.length := by show 0 < x.back.length; rw [h.back]; simp
  have he : x.get ctD2 S = ({ x with dir := 1, back := x.back.dropLast }, x.back.getD (x.back.length - 1) 0, 0, S) := by
    unfold SS.get
    rw [if_pos h.noRead]
    unfold SS.get1
    rw [if_pos hl]
  rw [he]
  have hb := h.bkl
  rw [List.length_append] at hb
  refine ⟨?_, rfl, rfl, ⟨h.rd, h.cl, h.md, h.sz1, h.sz2, h.sz3, h.out, ?_, by omega, .inr rfl, fun e => ?_, h.sb, h.pl, h.ii, h.inn, h.innl, h.fin⟩⟩
  · simp only [h.back]
    simp
  · simp only [h.back]
    simp
  · exact absurd e (by simp)
theorem pn_get {x : SS} {S : CtS} {b : List UInt8} {i sz : Nat} (h : PnR x S b i sz []) (hi : i < b.length) : (x.get ctD2 S).2.1 = b.getD i 0 ∧ (x.get ctD2 S).2.2.1 = 0 ∧ (x.get ctD2 S).2.2.2.rd ≤ S.rd + 1 ∧ PnR (x.get ctD2 S).1 (x.get ctD2 S).2.2.2 b (i + 1) sz [] := by
  have hb : ¬ 0 < ({ x with dir := 1 } : SS).back.length := by show ¬ 0 < x.back.length; rw [h.back]; simp
  by_cases h0 : 0 < x.inn.length
  · have he : x.get ctD2 S = ({ x with dir := 1, inn := x.inn.drop 1 }, x.inn.getD 0 0, 0, S) := by
      unfold SS.get
      rw [if_pos h.noRead]
      unfold SS.get1
      rw [if_neg hb, if_pos (by exact h0)]
    rw [he]
    have h1 := h.inn
    have h2 := h.ii
    refine ⟨?_, rfl, Nat.le_succ _, ⟨h.rd, h.cl, h.md, h.sz1, h.sz2, h.sz3, h.out, h.back, h.bkl, .inr rfl, fun e => absurd e (by simp), h.sb, h.pl, ?_, ?_, ?_, fun e => ?_⟩⟩
    · show x.inn.getD 0 0 = _
      rw [h1]
      simp only [List.getD_eq_getElem?_getD, List.getElem?_take, List.getElem?_drop]
      rw [if_pos h0]
      rfl
    · simp only [List.length_drop]; omega
    · show x.inn.drop 1 = (b.drop (i + 1)).take (x.inn.drop 1).length
      rw [List.length_drop]
      conv => lhs; rw [h1]
      rw [List.drop_take, List.drop_drop]
    · simp only [List.length_drop]; have := h.innl; omega
    · have := h.fin e; omega
  · have h00 : x.inn = [] := List.length_eq_zero_iff.1 (by omega)
    have hf : x.fin = false := by
      rcases Bool.eq_false_or_eq_true x.fin with e | e
      · have := h.fin e; omega
      · exact e
    have hpl : S.pl = i := by have := h.ii; rw [h00] at this; simpa using this.symm
    have hmo : ({ x with dir := 1 } : SS).most = sz := by
      unfold SS.most
      show (if x.mode = 1 then 1 else x.size.toNat) = sz
      rw [if_neg (by rw [h.md]; decide), h.sz1]
      omega
    have h3 := h.sz3
    have h2 := h.sz2
    have hsv := ct2_some S sz (by omega)
    have hlen : ((S.b.drop S.pl).take (min sz (S.b.length - S.pl))).length = min sz (b.length - i) := by
      rw [List.length_take, List.length_drop, h.sb, hpl]; omega
    have he : x.get ctD2 S = ({ x with dir := 1, inn := ((S.b.drop S.pl).take (min sz (S.b.length - S.pl))).drop 1 }, ((S.b.drop S.pl).take (min sz (S.b.length - S.pl))).getD 0 0, 0, ⟨S.b, S.pl + min sz (S.b.length - S.pl), S.rd + 1, S.wr⟩) := by
      unfold SS.get
      rw [if_pos h.noRead]
      unfold SS.get1
      rw [if_neg hb, if_neg (by exact h0), if_neg (by show ¬ x.fin = true; simp [hf]), hmo, hsv, if_neg (by simp), if_neg (by rw [hlen]; omega)]
    rw [he, h.sb, hpl]
    refine ⟨?_, rfl, Nat.le_refl _, ⟨h.rd, h.cl, h.md, h.sz1, h.sz2, h.sz3, h.out, h.back, h.bkl, .inr rfl, fun e => absurd e (by simp), rfl, ?_, ?_, ?_, ?_, fun e => ?_⟩⟩
    · simp only [List.getD_eq_getElem?_getD, List.getElem?_take, List.getElem?_drop]
      rw [if_pos (by omega)]
      rfl
    · simp only; omega
    · simp only [List.length_drop, List.length_take]; omega
    · simp only [List.length_drop, List.length_take]
      rw [List.drop_take, List.drop_drop]
      congr 1
      omega
    · simp only [List.length_drop, List.length_take]; omega
    · have e' : x.fin = true := e
      rw [hf] at e'
      cases e'
theorem pn_end {x : SS} {S : CtS} {b : List UInt8} {sz : Nat} (h : PnR x S b b.length sz []) : (x.get ctD2 S).2.2.1 = 111 ∧ (x.get ctD2 S).2.2.2.rd ≤ S.rd + 1 ∧ PnR (x.get ctD2 S).1 (x.get ctD2 S).2.2.2 b b.length sz [] := by
  have hb : ¬ 0 < ({ x with dir := 1 } : SS).back.length := by show ¬ 0 < x.back.length; rw [h.back]; simp
  have hpl : S.pl = b.length := by have := h.ii; have := h.pl; omega
  have hin : x.inn = [] := List.length_eq_zero_iff.1 (by have := h.ii; omega)
  have h0 : ¬ 0 < x.inn.length := by rw [hin]; simp
  have hmo : ({ x with dir := 1 } : SS).most = sz := by
    unfold SS.most
    show (if x.mode = 1 then 1 else x.size.toNat) = sz
    rw [if_neg (by rw [h.md]; decide), h.sz1]
    omega
  rcases Bool.eq_false_or_eq_true x.fin with e | e
  · have he : x.get ctD2 S = ({ x with dir := 1 }, 0, 111, S) := by
      unfold SS.get
      rw [if_pos h.noRead]
      unfold SS.get1
      rw [if_neg hb, if_neg (by exact h0), if_pos (by exact e)]
    rw [he]
    exact ⟨rfl, Nat.le_succ _, ⟨h.rd, h.cl, h.md, h.sz1, h.sz2, h.sz3, h.out, h.back, h.bkl, .inr rfl, fun e => absurd e (by simp), h.sb, h.pl, h.ii, h.inn, h.innl, fun _ => rfl⟩⟩
  · have h3 := h.sz3
    have hsv := ct2_some S sz (by omega)
    have hz : S.b.length - S.pl = 0 := by rw [h.sb, hpl]; omega
    rw [hz, Nat.min_zero, List.take_zero, Nat.add_zero] at hsv
    have he : x.get ctD2 S = ({ x with dir := 1, fin := true }, 0, 111, ⟨S.b, S.pl, S.rd + 1, S.wr⟩) := by
      unfold SS.get
      rw [if_pos h.noRead]
      unfold SS.get1
      rw [if_neg hb, if_neg (by exact h0), if_neg (by show ¬ x.fin = true; simp [e]), hmo, hsv, if_neg (by simp), if_pos (by simp)]
    rw [he]
    exact ⟨rfl, Nat.le_refl _, ⟨h.rd, h.cl, h.md, h.sz1, h.sz2, h.sz3, h.out, h.back, h.bkl, .inr rfl, fun e => absurd e (by simp), h.sb, h.pl, h.ii, h.inn, h.innl, fun _ => rfl⟩⟩
theorem pn_unget {x : SS} {S : CtS} {b : List UInt8} {i sz : Nat} (h : PnR x S b i sz []) (l : List UInt8) : (8 < l.length → (x.unget l).2 = 31) ∧ (l.length ≤ 8 → (x.unget l).2 = 0 ∧ PnR (x.unget l).1 S b i sz l.reverse) := by
  have hn : x.noPush l.length = if (8 : Int) - x.back.length < l.length then 31 else 0 := noPush_val h.refuse h.rd h.dir2
  rw [h.back] at hn
  simp only [List.length_nil] at hn
  constructor
  · intro hl
    rw [if_pos (by omega)] at hn
    unfold SS.unget
    rw [if_pos (.inl (by rw [hn]; decide)), hn]
  · intro hl
    rw [if_neg (by omega)] at hn
    unfold SS.unget
    by_cases e : l = []
    · subst e
      rw [if_pos (.inr rfl)]
      exact ⟨hn, h⟩
    · rw [if_neg (by simp [hn, e])]
      refine ⟨rfl, ⟨h.rd, h.cl, h.md, h.sz1, h.sz2, h.sz3, h.out, ?_, by simpa using hl, .inr rfl, fun e => absurd e (by simp), h.sb, h.pl, h.ii, h.inn, h.innl, fun e => absurd e (by simp)⟩⟩
      simp only [h.back]
      simp
theorem pn_new (b : List UInt8) (sz : Nat) (h1 : 1 ≤ sz) (h2 : sz ≤ 65536) : PnR (xR 3 sz) ⟨b, 0, 0, 0⟩ b 0 sz [] :=
  ⟨rfl, rfl, rfl, rfl, h1, h2, rfl, rfl, by simp, .inl rfl, fun _ => ⟨rfl, rfl⟩, rfl, Nat.zero_le _, rfl, by simp [xR], by simp [xR], fun e => absurd e (by simp [xR])⟩
end Go.Proofs.Ytpffhemmjigfaaa

/- PushbackNext: the walk. -/
namespace Go.Proofs.Ytpffhemmjigfaaa
open Go.RowKit

theorem ptmod_bound (x k : Int) (hk : 0 < k) : -k < x.tmod k ∧ x.tmod k < k := by
  have h2 : ∀ y : Int, 0 ≤ y → 0 ≤ y.tmod k ∧ y.tmod k < k := fun y h => by
    rw [Int.tmod_eq_emod_of_nonneg h]
    exact ⟨Int.emod_nonneg _ (by omega), Int.emod_lt_of_pos _ hk⟩
  rcases Int.le_total 0 x with h | h
  · have := h2 x h; omega
  · have h3 := h2 (-x) (by omega)
    rw [Int.neg_tmod] at h3
    omega
theorem prem_twice (full k : Int) (hk : 0 < k) (hk2 : k ≤ 1048576) : ∃ m : Nat, (wrap64 (full.tmod k + k)).tmod k = (m : Int) ∧ (m : Int) < k := by
  have h1 := ptmod_bound full k hk
  have h2 : wrap64 (full.tmod k + k) = full.tmod k + k := by unfold wrap64; omega
  rw [h2, Int.tmod_eq_emod_of_nonneg (by omega)]
  have h3 := Int.emod_nonneg (full.tmod k + k) (b := k) (by omega)
  have h4 := Int.emod_lt_of_pos (full.tmod k + k) hk
  exact ⟨((full.tmod k + k) % k).toNat, by omega, by omega⟩
/-- A state's variable beside a Raw: Get, the answer laid into a block of its own, and from there into the variable. -/
theorem LV.get2 {gr : Nat} {W W1 : World} {B g : Nat} {O : Nat → Prop} {x x' : SS} {s s' : CtS} {o i b o' i' b' : Value} (h : LV (CtAt2 gr) W B g O x s o i b) (hB : B ≤ W.heap.size) (hS : SOut (CtAt2 gr) W O x' s' o' i' b' W1) (ob : Obj) :
    StAt (W1.alloc ob) g x o i b ∧ (∃ O', LV (CtAt2 gr) (filled (W1.alloc ob) g x' o' i' b') B g O' x' s' o' i' b') ∧ Turned (fun k => B ≤ k) W (filled (W1.alloc ob) g x' o' i' b') :=
  LV.next (fun s => ct2_o gr s) h hB (SOut.below (fun s => ct2_o gr s) hS (recv_below W1 ob) rfl rfl rfl)
set_option maxRecDepth 100000 in
set_option maxHeartbeats 8000000 in
theorem pnext_any (xa : Option Addr) (xn xc : Nat) (X : List UInt8) (size gets : Int) (ta : Option Addr) (tn tc : Nat) (t : List UInt8) (w : World) (hX : Bys w (.slice xa xn xc) X) (hXl : X.length ≤ 140737488351232) (hby : Bys w (.slice ta tn tc) t) (htl : t.length ≤ 140737488351232) :
    Calls Try.prog 4 #[.slice xa xn xc, .int .i64 size, .int .i64 gets, .slice ta tn tc] w fun e w' => e = .returned (.bool true) ∧ Below w.heap.size w w' := by
  obtain rfl := bys_len13 hby
  obtain rfl := bys_len13 hX
  have HBy := hide hby
  have HX := hide hX
  clear hby hX
  go_enter Try.func4, Try.ntmps4
  go_wp2_with fail
  refine (palive_any _).mono ?_
  rintro _ w1 ⟨rfl, hB1⟩
  have HB1 := hide hB1
  have hM := fun W => sNew_any moR 3 size W
  rw [new_R, if_pos (by decide)] at hM
  unfold mv at hM
  clear hB1
  by_cases hs : 1 ≤ size ∧ size ≤ 65536
  case neg =>
    rw [if_neg hs] at hM
    simp only at hM
    have HM := hide hM
    clear hM
    go_wp2_with fail
    refine (HM.out _).mono ?_
    rintro _ w2 ⟨rfl, hB2⟩
    have HB2 := hide (HB1.out.trans (hB2.mono HB1.out.size))
    clear hB2
    go_wp2_with (first | (go_at_call 16; refine (pnum_is _ _).mono ?_; rintro _ _ ⟨rfl, rfl⟩) | fail)
    go_ret
    exact ⟨rfl, HB2.out.trans ((recv_below w2 _).mono HB2.out.size)⟩
  rw [if_pos hs] at hM
  simp only at hM
  obtain ⟨sz, rfl⟩ : ∃ sz : Nat, size = (sz : Int) := ⟨size.toNat, by omega⟩
  have HM := hide hM
  clear hM
  go_wp2_with fail
  refine (HM.out _).mono ?_
  rintro _ w2 ⟨rfl, hB2⟩
  have HB2 := hide (HB1.out.trans (hB2.mono HB1.out.size))
  clear hB2 HB1 HM
  have HS3 := hide (StAt.new w2 (xR 3 sz) (.slice none 0 0) (.slice none 0 0) (.slice none 0 0))
  have hBx := recv_below w2 (Obj.cells #[.bool (xR 3 sz).rd, .bool (xR 3 sz).wt, .int .i64 (xR 3 sz).mode, .int .i64 (xR 3 sz).size, .slice none 0 0, .slice none 0 0, .slice none 0 0, .int .i64 (xR 3 sz).dir, .bool (xR 3 sz).fin, .bool (xR 3 sz).bad, .bool (xR 3 sz).closed] 25)
  have HB3 := hide (HB2.out.trans (hBx.mono HB2.out.size))
  have hzw2 := HB2.out.size
  clear hBx
  go_wp2_with (first | (go_at_call 16; refine (pnum_is _ _).mono ?_; rintro _ _ ⟨rfl, rfl⟩) | fail)
  have hg3 := HS3.out.lt
  generalize w2.alloc (Obj.cells #[.bool (xR 3 sz).rd, .bool (xR 3 sz).wt, .int .i64 (xR 3 sz).mode, .int .i64 (xR 3 sz).size, .slice none 0 0, .slice none 0 0, .slice none 0 0, .int .i64 (xR 3 sz).dir, .bool (xR 3 sz).fin, .bool (xR 3 sz).bad, .bool (xR 3 sz).closed] 25) = w3 at *
  refine (copy_any _ X _ (HX.out.below HB3.out) hXl).mono ?_
  rintro _ w4 ⟨rv, rfl, hO, hB4⟩
  obtain ⟨ra, rc, rfl⟩ := owns_slice hO
  have hz4 := hB4.size
  have hBc := recv_below w4 (Obj.cells #[.slice ra X.length rc, .int .i64 0, .int .i64 0, .int .i64 0] 49)
  have hz5 : (w4.alloc (Obj.cells #[.slice ra X.length rc, .int .i64 0, .int .i64 0, .int .i64 0] 49)).heap.size = w4.heap.size + 1 := World.size_alloc _ _
  have HLV : Hid (LV (CtAt2 w4.heap.size) (w4.alloc (Obj.cells #[.slice ra X.length rc, .int .i64 0, .int .i64 0, .int .i64 0] 49)) w2.heap.size w2.heap.size (fun k => w3.heap.size ≤ k ∧ k < w4.heap.size + 1) (xR 3 sz) ⟨X, 0, 0, 0⟩ (.slice none 0 0) (.slice none 0 0) (.slice none 0 0)) := hide
    ⟨(HS3.out.below hB4).below hBc, ⟨Sl.nil, Sl.nil, Sl.nil, fun k e => by simp [Value.ownBlock] at e, fun k e => by simp [Value.ownBlock] at e, fun k e => by simp [Value.ownBlock] at e⟩,
      ⟨.slice ra X.length rc, heap_alloc_new w4 _, owns_mono (owns_below hO hBc) (Nat.zero_le _), fun k e => ⟨⟨(hO.lt k e).1, by have := (hO.lt k e).2; omega⟩, by have := (hO.lt k e).2; omega⟩, ⟨by omega, by omega⟩, Nat.zero_le _, by show X.length ≤ _; omega⟩,
      fun j e => by have := e.2; omega, fun j e => by have := e.1; omega, fun e => by have := e.1; omega, Nat.le_refl _⟩
  have HB5 := hide ((HB3.out.trans (hB4.mono HB3.out.size)).trans (hBc.mono (HB3.out.trans (hB4.mono HB3.out.size)).size))
  clear hO hB4 hBc hz5
  have hm0 := prem_twice gets 50 (by decide) (by decide)
  obtain ⟨m, hm, hm9⟩ := hm0
  go_wp2
  clear hm

  generalize w4.alloc (Obj.cells #[.slice ra X.length rc, .int .i64 0, .int .i64 0, .int .i64 0] 49) = w5 at *
  have hB5 : w2.heap.size ≤ w5.heap.size := by have := HLV.out.st.lt; omega
  generalize w4.heap.size = gr at *
  clear HS3 HB2 HB3 hg3 hz4
  have HP0 := hide (pn_new X sz (by omega) (by omega))
  go_loopw [12, 13] (fun s12 s13 wr => ∃ (k i : Nat) (x : SS) (S : CtS) (o' i' b' : Value) (O : Nat → Prop), k ≤ m ∧ s12 = .int .i64 i ∧ s13 = .int .i64 k ∧ i ≤ k ∧ i ≤ X.length ∧ Hid (PnR x S X i sz []) ∧ S.rd ≤ k ∧ Hid (LV (CtAt2 gr) wr w2.heap.size w2.heap.size O x S o' i' b') ∧ Hid (Below w.heap.size w wr) ∧ w2.heap.size ≤ wr.heap.size) (fun _ s13 _ => m - (intOf s13).toNat)
  case atStart => exact ⟨0, 0, _, _, _, _, _, _, Nat.zero_le _, rfl, rfl, Nat.le_refl _, Nat.zero_le _, HP0, Nat.le_refl _, HLV, HB5, hB5⟩
  case round =>
    clear HLV HB5 hB5 HP0
    obtain ⟨k, i, x, S, o', i', b', O, hk, rfl, rfl, hik, hiX, HP, hrd, HLV, HB, hBr⟩ := hrel
    obtain ⟨y1, y4, rfl, -⟩ := HLV.out.ls.so
    obtain ⟨y2, y5, rfl, -⟩ := HLV.out.ls.si
    obtain ⟨y3, y6, rfl, -⟩ := HLV.out.ls.sb
    have hyl := HP.out.len
    by_cases hlt : k < m
    · have hgt := sGetR_any (ct_raw2 gr) (fun s => ct2_o gr s) HLV.out.ls HLV.out.raw HLV.out.ol (fun m _ _ => ct2_ok S m (by omega)) hyl.1 hyl.2.1 hyl.2.2
      have hstep : ∃ i2, i2 ≤ k + 1 ∧ i2 ≤ X.length ∧ ((x.get ctD2 S).2.2.1 = 0 → i2 = i + 1) ∧ ((x.get ctD2 S).2.2.1 ≠ 0 → i2 = i) ∧ (x.get ctD2 S).2.2.2.rd ≤ k + 1 ∧ PnR (x.get ctD2 S).1 (x.get ctD2 S).2.2.2 X i2 sz [] := by
        by_cases hi : i < X.length
        · obtain ⟨-, p2, p3, p4⟩ := pn_get HP.out hi
          exact ⟨i + 1, by omega, by omega, fun _ => rfl, fun e => absurd p2 e, by omega, p4⟩
        · obtain rfl : i = X.length := by omega
          obtain ⟨p2, p3, p4⟩ := pn_end HP.out
          exact ⟨X.length, by omega, by omega, fun e => by rw [p2] at e; omega, fun _ => rfl, by omega, p4⟩
      generalize x.get ctD2 S = Q at *
      obtain ⟨x', cc, f, S'⟩ := Q
      simp only at hgt hstep
      obtain ⟨i2, j1, j2, j3, j4, j5, j6⟩ := hstep
      have HG := hide hgt
      have HP2 := hide j6
      obtain ⟨c0, c1, c2, c3, c4, c5, c6, c7, c8, c9, c10⟩ := HLV.out.st.cs
      have hkm : (k : Int) < (m : Int) := by omega
      clear hgt j6
      go_wp2_with fail
      refine HG.out.mono ?_
      rintro _ W1 ⟨o2, i2', b2, rfl, hS⟩
      clear c0 c1 c2 c3 c4 c5 c6 c7 c8 c9 c10
      obtain ⟨p1, p4, rfl, -⟩ := hS.choose_spec.1.so
      obtain ⟨p2, p5, rfl, -⟩ := hS.choose_spec.1.si
      obtain ⟨p3, p6, rfl, -⟩ := hS.choose_spec.1.sb
      obtain ⟨hst, hl, ht⟩ := LV.get2 HLV.out hBr hS (Obj.cells #[.bool x'.rd, .bool x'.wt, .int .i64 x'.mode, .int .i64 x'.size, .slice p1 x'.out.length p4, .slice p2 x'.inn.length p5, .slice p3 x'.back.length p6, .int .i64 x'.dir, .bool x'.fin, .bool x'.bad, .bool x'.closed] 25)
      have HL2 := hide hl
      have HB2 := hide (HB.out.trans ((ht.below (fun k e => e) hBr).mono hzw2))
      have hB2 := Nat.le_trans hBr ht.size
      have hnw := StAt.new W1 x' (.slice p1 x'.out.length p4) (.slice p2 x'.inn.length p5) (.slice p3 x'.back.length p6)
      obtain ⟨c0, c1, c2, c3, c4, c5, c6, c7, c8, c9, c10⟩ := hst.cs
      obtain ⟨d0, d1, d2, d3, d4, d5, d6, d7, d8, d9, d10⟩ := hnw.cs

      have f0 := hst.soft 0
      have f1 := hst.soft 1
      have f2 := hst.soft 2
      have f3 := hst.soft 3
      have f4 := hst.soft 4
      have f5 := hst.soft 5
      have f6 := hst.soft 6
      have f7 := hst.soft 7
      have f8 := hst.soft 8
      have f9 := hst.soft 9
      have f10 := hst.soft 10
      unfold filled at HL2 HB2 hB2
      clear hst hnw ht hl hS HG HLV HB
      have HB2' := hide hB2
      clear hB2
      by_cases hf : f = 0
      · subst hf
        have j3 := j3 rfl
        subst j3
        clear j4
        go_wp2_with (first | (go_at_call 16; refine (pnum_is _ _).mono ?_; rintro _ _ ⟨rfl, rfl⟩) | fail)
        go_roundw
        case rel =>
          obtain ⟨O2, hl⟩ := HL2.out
          exact ⟨k + 1, i + 1, x', S', _, _, _, O2, by omega, by go_num, by go_num, j1, j2, HP2, j5, hide hl, HB2, HB2'.out⟩
        case measure => simp [intOf]; omega
      · have j4 := j4 hf
        subst j4
        have hfb : (f == 0) = false := by simp [hf]
        clear j3
        go_wp2_with (first | (go_at_call 16; refine (pnum_is _ _).mono ?_; rintro _ _ ⟨rfl, rfl⟩) | fail)
        go_roundw
        case rel =>
          obtain ⟨O2, hl⟩ := HL2.out
          exact ⟨k + 1, i2, x', S', _, _, _, O2, by omega, rfl, by go_num, j1, j2, HP2, j5, hide hl, HB2, HB2'.out⟩
        case measure => simp [intOf]; omega
    obtain rfl : k = m := by omega
    have hlt' : ¬ (k : Int) < (k : Int) := by omega
    have hpu := callsIn_wide.1 (pungetAll_in 3 (Nat.le_refl _) x _ _ _ _ ta tc t wr HLV.out.ls hyl.1 hyl.2.1 hyl.2.2 (HBy.out.below HB.out) htl)
    have hpn := pn_unget HP.out t
    generalize x.unget t = Q at *
    obtain ⟨y, E⟩ := Q
    simp only at hpu hpn
    have HPu := hide hpu
    have HPn := hide hpn
    obtain ⟨c0, c1, c2, c3, c4, c5, c6, c7, c8, c9, c10⟩ := HLV.out.st.cs
    clear hpu hpn
    go_wp2_with fail
    refine HPu.out.mono ?_
    rintro _ W1 ⟨o2, i2', b2, rfl, hO, hBW⟩
    clear c0 c1 c2 c3 c4 c5 c6 c7 c8 c9 c10
    obtain ⟨p1, p4, rfl⟩ := owns_slice hO.1
    obtain ⟨p2, p5, rfl⟩ := owns_slice hO.2.1
    obtain ⟨p3, p6, rfl⟩ := owns_slice hO.2.2.1
    have hzW := hBW.size
    have hBa := recv_below W1 (Obj.cells #[.bool y.rd, .bool y.wt, .int .i64 y.mode, .int .i64 y.size, .slice p1 y.out.length p4, .slice p2 y.inn.length p5, .slice p3 y.back.length p6, .int .i64 y.dir, .bool y.fin, .bool y.bad, .bool y.closed] 25)
    have hza : (W1.alloc (Obj.cells #[.bool y.rd, .bool y.wt, .int .i64 y.mode, .int .i64 y.size, .slice p1 y.out.length p4, .slice p2 y.inn.length p5, .slice p3 y.back.length p6, .int .i64 y.dir, .bool y.fin, .bool y.bad, .bool y.closed] 25)).heap.size = W1.heap.size + 1 := World.size_alloc _ _
    have hB2 := hBW.trans (hBa.mono hBW.size)
    have HL2 : Hid (LV (CtAt2 gr) (W1.alloc (Obj.cells #[.bool y.rd, .bool y.wt, .int .i64 y.mode, .int .i64 y.size, .slice p1 y.out.length p4, .slice p2 y.inn.length p5, .slice p3 y.back.length p6, .int .i64 y.dir, .bool y.fin, .bool y.bad, .bool y.closed] 25)) w2.heap.size W1.heap.size O y S (.slice p1 y.out.length p4) (.slice p2 y.inn.length p5) (.slice p3 y.back.length p6)) := hide
      ⟨StAt.new W1 y (.slice p1 y.out.length p4) (.slice p2 y.inn.length p5) (.slice p3 y.back.length p6), (hO.sin.below hBa).mono fun k e => ⟨by have := e.1; omega, fun e' => by have := HLV.out.ol k e'; have := e.1; omega, by have := e.2; omega, by have := e.2; omega⟩,
        (ct2_o gr S).keep HLV.out.raw (fun j _ hj => hB2.block j hj) hB2.size, fun j e => by have := HLV.out.ol j e; omega, HLV.out.ob, fun e => by have := HLV.out.ol _ e; omega, by omega⟩
    have HB2 := hide (HB.out.trans (hB2.mono HB.out.size))
    have hBr2 : w2.heap.size ≤ (W1.alloc (Obj.cells #[.bool y.rd, .bool y.wt, .int .i64 y.mode, .int .i64 y.size, .slice p1 y.out.length p4, .slice p2 y.inn.length p5, .slice p3 y.back.length p6, .int .i64 y.dir, .bool y.fin, .bool y.bad, .bool y.closed] 25)).heap.size := by omega
    clear hO hBW hBa hB2 HPu HLV HB hza
    by_cases h8 : 8 < t.length
    · have hE := HPn.out.1 h8
      subst hE
      have h8' : (8 : Int) < (t.length : Int) := by omega
      go_wp2_with (first | (go_at_call 16; refine (pnum_is _ _).mono ?_; rintro _ _ ⟨rfl, rfl⟩) | fail)
      go_ret
      exact ⟨rfl, HB2.out⟩
    have h8' : ¬ (8 : Int) < (t.length : Int) := by omega
    obtain ⟨hE, hPy⟩ := HPn.out.2 (by omega)
    subst hE
    have HPy := hide hPy
    obtain ⟨rv2, hr2, -⟩ := HL2.out.raw
    have r2 := hr2.cs.2.2.1
    clear hPy hr2
    go_wp2_with (first | (go_at_call 16; refine (pnum_is _ _).mono ?_; rintro _ _ ⟨rfl, rfl⟩) | fail)
    clear r2
    generalize W1.alloc (Obj.cells #[.bool y.rd, .bool y.wt, .int .i64 y.mode, .int .i64 y.size, .slice p1 y.out.length p4, .slice p2 y.inn.length p5, .slice p3 y.back.length p6, .int .i64 y.dir, .bool y.fin, .bool y.bad, .bool y.closed] 25) = W2 at *
    have hgt1 : w2.heap.size ≤ W1.heap.size := by omega
    generalize W1.heap.size = gt at *
    go_loopw [20] (fun s20 wq => ∃ (j : Nat) (y : SS) (o' i' b' : Value) (O : Nat → Prop), j ≤ t.length ∧ s20 = .int .i64 j ∧ Hid (PnR y S X i sz (t.drop j).reverse) ∧ Hid (LV (CtAt2 gr) wq w2.heap.size gt O y S o' i' b') ∧ Hid (Below w.heap.size w wq) ∧ w2.heap.size ≤ wq.heap.size) (fun s20 _ => t.length - (intOf s20).toNat)
    case atStart => exact ⟨0, y, _, _, _, O, Nat.zero_le _, rfl, by rw [List.drop_zero]; exact HPy, HL2, HB2, hBr2⟩
    case round =>
      clear HPy HL2 HB2 hBr2 hBr hyl
      obtain ⟨j, y, o', i', b', O, hj, rfl, HPy, HLV, HB, hBr⟩ := hrel
      obtain ⟨y1, y4, rfl, -⟩ := HLV.out.ls.so
      obtain ⟨y2, y5, rfl, -⟩ := HLV.out.ls.si
      obtain ⟨y3, y6, rfl, -⟩ := HLV.out.ls.sb
      have hyl := HPy.out.len
      have hgt := sGetR_any (ct_raw2 gr) (fun s => ct2_o gr s) HLV.out.ls HLV.out.raw HLV.out.ol (fun m _ _ => ct2_ok S m (by omega)) hyl.1 hyl.2.1 hyl.2.2
      obtain ⟨c0, c1, c2, c3, c4, c5, c6, c7, c8, c9, c10⟩ := HLV.out.st.cs
      by_cases hjt : j < t.length
      · have hst0 := beh_step t j hjt
        have hpb := HPy.out
        rw [hst0] at hpb
        obtain ⟨b1, b2, b3, b4⟩ := pn_back hpb
        generalize y.get ctD2 S = Q at *
        obtain ⟨y', cc, f, S'⟩ := Q
        simp only at hgt b1 b2 b3 b4
        subst b2 b3
        have HG := hide hgt
        have HP2 := hide b4
        have HC := hide b1
        have hkm : (j : Int) < (t.length : Int) := by omega
        have hj0 : (0 : Int) ≤ (j : Int) := by omega
        clear hgt b4 b1 hst0 hpb
        go_wp2_with fail
        refine HG.out.mono ?_
        rintro _ W4 ⟨o2, i2', b2, rfl, hS⟩
        clear c0 c1 c2 c3 c4 c5 c6 c7 c8 c9 c10
        obtain ⟨p1, p4, rfl, -⟩ := hS.choose_spec.1.so
        obtain ⟨p2, p5, rfl, -⟩ := hS.choose_spec.1.si
        obtain ⟨p3, p6, rfl, -⟩ := hS.choose_spec.1.sb
        obtain ⟨hst, hl, ht⟩ := LV.get2 HLV.out hBr hS (Obj.cells #[.bool y'.rd, .bool y'.wt, .int .i64 y'.mode, .int .i64 y'.size, .slice p1 y'.out.length p4, .slice p2 y'.inn.length p5, .slice p3 y'.back.length p6, .int .i64 y'.dir, .bool y'.fin, .bool y'.bad, .bool y'.closed] 25)
        have HL2 := hide hl
        have HB2 := hide (HB.out.trans ((ht.below (fun k e => e) hBr).mono hzw2))
        have HBz := hide (Nat.le_trans hBr ht.size)
        have hnw := StAt.new W4 y' (.slice p1 y'.out.length p4) (.slice p2 y'.inn.length p5) (.slice p3 y'.back.length p6)
        obtain ⟨c0, c1, c2, c3, c4, c5, c6, c7, c8, c9, c10⟩ := hst.cs
        obtain ⟨d0, d1, d2, d3, d4, d5, d6, d7, d8, d9, d10⟩ := hnw.cs
        have f0 := hst.soft 0
        have f1 := hst.soft 1
        have f2 := hst.soft 2
        have f3 := hst.soft 3
        have f4 := hst.soft 4
        have f5 := hst.soft 5
        have f6 := hst.soft 6
        have f7 := hst.soft 7
        have f8 := hst.soft 8
        have f9 := hst.soft 9
        have f10 := hst.soft 10
        unfold filled at HL2 HB2 HBz
        clear hst hnw ht hl hS HG HLV HB
        go_wp2_with fail
        generalize ((((((((((((W4.alloc (Obj.cells #[.bool y'.rd, .bool y'.wt, .int .i64 y'.mode, .int .i64 y'.size, .slice p1 y'.out.length p4, .slice p2 y'.inn.length p5, .slice p3 y'.back.length p6, .int .i64 y'.dir, .bool y'.fin, .bool y'.bad, .bool y'.closed] 25)).setCell ⟨gt, 0, none⟩ (.bool y'.rd)).setCell ⟨gt, 1, none⟩ (.bool y'.wt)).setCell ⟨gt, 2, none⟩ (.int .i64 y'.mode)).setCell ⟨gt, 3, none⟩ (.int .i64 y'.size)).setCell ⟨gt, 4, none⟩ (.slice p1 y'.out.length p4)).setCell ⟨gt, 5, none⟩ (.slice p2 y'.inn.length p5)).setCell ⟨gt, 6, none⟩ (.slice p3 y'.back.length p6)).setCell ⟨gt, 7, none⟩ (.int .i64 y'.dir)).setCell ⟨gt, 8, none⟩ (.bool y'.fin)).setCell ⟨gt, 9, none⟩ (.bool y'.bad)).setCell ⟨gt, 10, none⟩ (.bool y'.closed)) = W5 at *
        clear c0 c1 c2 c3 c4 c5 c6 c7 c8 c9 c10 d0 d1 d2 d3 d4 d5 d6 d7 d8 d9 d10 f0 f1 f2 f3 f4 f5 f6 f7 f8 f9 f10
        obtain ⟨-, bb, boff, rfl, -, hc⟩ := bys_block (HBy.out.below HB2.out) (by omega)
        have hcj := hc j (by omega)
        rw [← HC.out] at hcj
        clear hc
        go_wp2_with (first | (go_at_call 16; refine (pnum_is _ _).mono ?_; rintro _ _ ⟨rfl, rfl⟩) | fail)
        go_roundw
        case rel =>
          obtain ⟨O2, hl⟩ := HL2.out
          exact ⟨j + 1, y', _, _, _, O2, by omega, by go_num, HP2, hide hl, HB2, HBz.out⟩
        case measure => simp [intOf]; omega
      obtain rfl : j = t.length := by omega
      have hlt2 : ¬ (t.length : Int) < (t.length : Int) := by omega
      have hpb := HPy.out
      rw [List.drop_length] at hpb
      obtain ⟨rv3, hr3, -⟩ := HLV.out.raw
      have r3 := hr3.cs.2.2.1
      clear hr3
      by_cases hi : i < X.length
      · obtain ⟨b1, b2, -, -⟩ := pn_get hpb hi
        generalize y.get ctD2 S = Q at *
        obtain ⟨y', cc, f, S'⟩ := Q
        simp only at hgt b1 b2
        subst b2
        have HG := hide hgt
        have HC := hide b1
        clear hgt b1 hpb
        go_wp2_with fail
        refine HG.out.mono ?_
        rintro _ W4 ⟨o2, i2', b2, rfl, hS⟩
        clear c0 c1 c2 c3 c4 c5 c6 c7 c8 c9 c10 r3
        obtain ⟨p1, p4, rfl, -⟩ := hS.choose_spec.1.so
        obtain ⟨p2, p5, rfl, -⟩ := hS.choose_spec.1.si
        obtain ⟨p3, p6, rfl, -⟩ := hS.choose_spec.1.sb
        obtain ⟨hst, hl, ht⟩ := LV.get2 HLV.out hBr hS (Obj.cells #[.bool y'.rd, .bool y'.wt, .int .i64 y'.mode, .int .i64 y'.size, .slice p1 y'.out.length p4, .slice p2 y'.inn.length p5, .slice p3 y'.back.length p6, .int .i64 y'.dir, .bool y'.fin, .bool y'.bad, .bool y'.closed] 25)
        obtain ⟨O', s1, s2, s3, s4, s5⟩ := hS
        have HB2 := hide (HB.out.trans (((s5.below (B := w2.heap.size) (fun k e => HLV.out.ob k e) hBr).mono hzw2)))
        have hBa := recv_below W4 (Obj.cells #[.bool y'.rd, .bool y'.wt, .int .i64 y'.mode, .int .i64 y'.size, .slice p1 y'.out.length p4, .slice p2 y'.inn.length p5, .slice p3 y'.back.length p6, .int .i64 y'.dir, .bool y'.fin, .bool y'.bad, .bool y'.closed] 25)
        have HB3 := hide (HB2.out.trans (hBa.mono HB2.out.size))
        clear hst hl ht s1 s2 s3 s4 s5 hBa HG HLV HB
        obtain ⟨-, bb, boff, rfl, -, hc⟩ := bys_block (HX.out.below HB3.out) (by omega)
        have hcj := hc i (by omega)
        rw [← HC.out] at hcj
        have hi0 : (0 : Int) ≤ (i : Int) := by omega
        have hi1 : (i : Int) < (X.length : Int) := by omega
        clear hc
        go_wp2_with (first | (go_at_call 16; refine (pnum_is _ _).mono ?_; rintro _ _ ⟨rfl, rfl⟩) | fail)
        go_ret
        exact ⟨rfl, HB3.out⟩
      · obtain rfl : i = X.length := by omega
        obtain ⟨b2, -, -⟩ := pn_end hpb
        generalize y.get ctD2 S = Q at *
        obtain ⟨y', cc, f, S'⟩ := Q
        simp only at hgt b2
        subst b2
        have HG := hide hgt
        clear hgt hpb
        go_wp2_with fail
        refine HG.out.mono ?_
        rintro _ W4 ⟨o2, i2', b2, rfl, hS⟩
        clear c0 c1 c2 c3 c4 c5 c6 c7 c8 c9 c10 r3
        obtain ⟨p1, p4, rfl, -⟩ := hS.choose_spec.1.so
        obtain ⟨p2, p5, rfl, -⟩ := hS.choose_spec.1.si
        obtain ⟨p3, p6, rfl, -⟩ := hS.choose_spec.1.sb
        obtain ⟨O', s1, s2, s3, s4, s5⟩ := hS
        have HB2 := hide (HB.out.trans (((s5.below (B := w2.heap.size) (fun k e => HLV.out.ob k e) hBr).mono hzw2)))
        have hBa := recv_below W4 (Obj.cells #[.bool y'.rd, .bool y'.wt, .int .i64 y'.mode, .int .i64 y'.size, .slice p1 y'.out.length p4, .slice p2 y'.inn.length p5, .slice p3 y'.back.length p6, .int .i64 y'.dir, .bool y'.fin, .bool y'.bad, .bool y'.closed] 25)
        have HB3 := hide (HB2.out.trans (hBa.mono HB2.out.size))
        have hi1 : ¬ (X.length : Int) < (X.length : Int) := by omega
        clear s1 s2 s3 s4 s5 hBa HG HLV HB
        go_wp2_with (first | (go_at_call 16; refine (pnum_is _ _).mono ?_; rintro _ _ ⟨rfl, rfl⟩) | fail)
        go_ret
        exact ⟨rfl, HB3.out⟩
end Go.Proofs.Ytpffhemmjigfaaa
