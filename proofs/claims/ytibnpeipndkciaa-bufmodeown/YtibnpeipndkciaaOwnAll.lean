/- BufmodeOwn: for every state, mode, size and text, the state that follows a Set shares nothing with the one handed in, and what Writes answers is its holder own. -/
import Derived.Test.YtibnpeipndkciaaKM11
import Derived.ProofKit
import Derived.OpenShut
import Derived.ShutString
import Derived.ChangeOld
import Derived.Below
import Derived.SizedLaws
/- BufmodeOwn: the walk. -/
namespace Go.Proofs.Ytibnpeipndkciaa
open Go.RowKit

theorem Nus.turned {P : Nat → Prop} {W W' : World} {v : Value} {l : List Nat} (h : Nus W v l) (hT : Turned P W W') (hS : ∀ k, v.ownBlock = some k → k < W.heap.size → ¬ P k) : Nus W' v l := by
  obtain ⟨a, c, rfl, h⟩ := h
  refine ⟨a, c, rfl, fun h0 => ?_⟩
  obtain ⟨b, off, rfl, hc⟩ := h h0
  exact ⟨b, off, rfl, fun j hj => hT.cell (hc j hj) (hS b rfl (World.block_lt_of_cell? W _ (hc j hj)))⟩
theorem SIn.of_own {W : World} {B : Nat} {x : SS} {o i b : Value} (h1 : W.ownsRow B 5 1 o x.out.length (x.out.map bv)) (h2 : W.ownsRow B 5 1 i x.inn.length (x.inn.map bv)) (h3 : W.ownsRow B 5 1 b x.back.length (x.back.map bv)) : SIn W (fun k => B ≤ k ∧ k < W.heap.size) x o i b :=
  ⟨Sl.own h1, Sl.own h2, Sl.own h3, fun k e => h1.lt k e, fun k e => h2.lt k e, fun k e => h3.lt k e⟩
theorem bset_len (x : SS) (S : CtS) (mode size : Int) : (x.bset ctD S mode size).1.out.length ≤ x.out.length ∧ (x.bset ctD S mode size).1.inn.length ≤ x.inn.length ∧ (x.bset ctD S mode size).1.back.length ≤ x.back.length := by
  have hd : ∀ y : SS, (y.deliver ctD S).1.out.length ≤ y.out.length ∧ (y.deliver ctD S).1.inn = y.inn ∧ (y.deliver ctD S).1.back = y.back := fun y => by
    rw [deliver_out, List.length_drop]
    refine ⟨by omega, ?_, ?_⟩ <;> (unfold SS.deliver SS.mark; split <;> rfl)
  have hf : (x.flush ctD S).1.out.length ≤ x.out.length ∧ (x.flush ctD S).1.inn.length ≤ x.inn.length ∧ (x.flush ctD S).1.back.length ≤ x.back.length := by
    obtain ⟨h1, h2, h3⟩ := hd x
    unfold SS.flush
    split
    · exact ⟨Nat.le_refl _, Nat.le_refl _, Nat.le_refl _⟩
    split
    · split
      · exact ⟨h1, by simp only; rw [h2]; exact Nat.le_refl _, by simp only; rw [h3]; exact Nat.le_refl _⟩
      · exact ⟨h1, by rw [h2]; exact Nat.le_refl _, by rw [h3]; exact Nat.le_refl _⟩
    · exact ⟨Nat.le_refl _, Nat.le_refl _, Nat.le_refl _⟩
  unfold SS.bset
  split
  · exact ⟨Nat.le_refl _, Nat.le_refl _, Nat.le_refl _⟩
  · simp only
    split <;> exact hf
set_option maxRecDepth 100000 in
set_option maxHeartbeats 8000000 in
theorem bown_any (x : SS) (o i b : Value) (mode size : Int) (va : Option Addr) (vn vc : Nat) (t : List UInt8) (w : World) (h : SIn w (fun _ => True) x o i b) (ho : x.out.length ≤ 140737488351232) (hi : x.inn.length ≤ 140737488351232) (hb : x.back.length ≤ 140737488351232) (hby : Bys w (.slice va vn vc) t) (hc : t.length ≤ vc) :
    Calls Try.prog 7 #[.agg #[.bool x.rd, .bool x.wt, .int .i64 x.mode, .int .i64 x.size, o, i, b, .int .i64 x.dir, .bool x.fin, .bool x.bad, .bool x.closed], .int .i64 mode, .int .i64 size, .slice va vn vc] w fun e w' => e = .returned (.bool true) ∧ Below w.heap.size w w' := by
  obtain rfl := bys_len12 hby
  have HBy := hide hby
  have HW := hide (fun (W : World) (hW : Below w.heap.size w W) => bwrites_any mode size va vc t hc W (HBy.out.below hW))
  have hLl := bwL_len (mode := mode) (size := size) (t := t)
  generalize bwL mode size t = L at *
  generalize bwE mode size t = E at *
  have HI := hide h
  obtain ⟨oa, oc, rfl, -⟩ := h.so
  obtain ⟨ia, ic, rfl, -⟩ := h.si
  obtain ⟨ba, bc, rfl, -⟩ := h.sb
  clear h hby
  go_enter Try.func7, Try.ntmps7
  go_wp2_with fail
  have HB0 := hide (recv_below w (Obj.cells #[.bool x.rd, .bool x.wt, .int .i64 x.mode, .int .i64 x.size, .slice oa x.out.length oc, .slice ia x.inn.length ic, .slice ba x.back.length bc, .int .i64 x.dir, .bool x.fin, .bool x.bad, .bool x.closed] 59))
  have HR0 := hide (RSt.new w x (.slice oa x.out.length oc) (.slice ia x.inn.length ic) (.slice ba x.back.length bc))
  generalize w.alloc (Obj.cells #[.bool x.rd, .bool x.wt, .int .i64 x.mode, .int .i64 x.size, .slice oa x.out.length oc, .slice ia x.inn.length ic, .slice ba x.back.length bc, .int .i64 x.dir, .bool x.fin, .bool x.bad, .bool x.closed] 59) = w0 at *
  refine (balive_any _).mono ?_
  rintro _ w1 ⟨rfl, hB1⟩
  have HR1 := hide (HR0.out.below hB1)
  have HB1 := hide (HB0.out.trans (hB1.mono HB0.out.size))
  have hz1 := HB1.out.size
  clear hB1 HR0 HB0
  obtain ⟨c0, c1, c2, c3, c4, c5, c6, c7, c8, c9, c10⟩ := HR1.out.cs
  go_wp2_with fail
  refine (given_any x _ _ _ _ w1 (HI.out.below HB1.out) ho hi hb).mono ?_
  rintro _ w2 ⟨o1, i1, b1, rfl, y1, y2, y3, hB2, hAp⟩
  obtain ⟨xa, xd, rfl⟩ := owns_slice y1
  obtain ⟨xb, xe, rfl⟩ := owns_slice y2
  obtain ⟨xc, xf, rfl⟩ := owns_slice y3
  have HY := hide (And.intro y1 (And.intro y2 y3))
  have HAp := hide hAp
  have HLt : Hid (∀ k, ((Value.slice xa x.out.length xd).ownBlock = some k ∨ (Value.slice xb x.inn.length xe).ownBlock = some k ∨ (Value.slice xc x.back.length xf).ownBlock = some k) → w1.heap.size ≤ k ∧ k < w2.heap.size) := hide (fun k e => by
    rcases e with e | e | e
    · exact y1.lt k e
    · exact y2.lt k e
    · exact y3.lt k e)
  have HB2 := hide (HB1.out.trans (hB2.mono HB1.out.size))
  have hz2 := hB2.size
  clear y1 y2 y3 hB2 hAp c0 c1 c2 c3 c4 c5 c6 c7 c8 c9 c10 HR1
  have hx : StAt (w2.alloc (Obj.cells #[.bool x.rd, .bool x.wt, .int .i64 x.mode, .int .i64 x.size, .slice xa x.out.length xd, .slice xb x.inn.length xe, .slice xc x.back.length xf, .int .i64 x.dir, .bool x.fin, .bool x.bad, .bool x.closed] 39)) w2.heap.size x (.slice xa x.out.length xd) (.slice xb x.inn.length xe) (.slice xc x.back.length xf) := StAt.new w2 x (.slice xa x.out.length xd) (.slice xb x.inn.length xe) (.slice xc x.back.length xf)
  obtain ⟨c0, c1, c2, c3, c4, c5, c6, c7, c8, c9, c10⟩ := hx.cs
  have HX := hide hx
  clear hx
  go_wp2_with fail
  have hzx : (w2.alloc (Obj.cells #[.bool x.rd, .bool x.wt, .int .i64 x.mode, .int .i64 x.size, .slice xa x.out.length xd, .slice xb x.inn.length xe, .slice xc x.back.length xf, .int .i64 x.dir, .bool x.fin, .bool x.bad, .bool x.closed] 39)).heap.size = w2.heap.size + 1 := Array.size_push ..
  have hBx := recv_below w2 (Obj.cells #[.bool x.rd, .bool x.wt, .int .i64 x.mode, .int .i64 x.size, .slice xa x.out.length xd, .slice xb x.inn.length xe, .slice xc x.back.length xf, .int .i64 x.dir, .bool x.fin, .bool x.bad, .bool x.closed] 39)
  have hBc := recv_below (w2.alloc (Obj.cells #[.bool x.rd, .bool x.wt, .int .i64 x.mode, .int .i64 x.size, .slice xa x.out.length xd, .slice xb x.inn.length xe, .slice xc x.back.length xf, .int .i64 x.dir, .bool x.fin, .bool x.bad, .bool x.closed] 39)) (Obj.cells #[.slice none 0 0, .int .i64 0, .int .i64 0, .int .i64 0] 46)
  have HX3 := hide (HX.out.below hBc)
  have HC3 : Hid (CtB ((w2.alloc (Obj.cells #[.bool x.rd, .bool x.wt, .int .i64 x.mode, .int .i64 x.size, .slice xa x.out.length xd, .slice xb x.inn.length xe, .slice xc x.back.length xf, .int .i64 x.dir, .bool x.fin, .bool x.bad, .bool x.closed] 39)).alloc (Obj.cells #[.slice none 0 0, .int .i64 0, .int .i64 0, .int .i64 0] 46)) (w2.heap.size + 1) (.slice none 0 0) ⟨[], 0, 0, 0⟩) := hide (by have := heap_alloc_new (w2.alloc (Obj.cells #[.bool x.rd, .bool x.wt, .int .i64 x.mode, .int .i64 x.size, .slice xa x.out.length xd, .slice xb x.inn.length xe, .slice xc x.back.length xf, .int .i64 x.dir, .bool x.fin, .bool x.bad, .bool x.closed] 39)) (Obj.cells #[.slice none 0 0, .int .i64 0, .int .i64 0, .int .i64 0] 46); rw [hzx] at this; exact this)
  have HB23 := hide (hBx.trans (hBc.mono hBx.size))
  clear hBx hBc HX hzx
  generalize (w2.alloc (Obj.cells #[.bool x.rd, .bool x.wt, .int .i64 x.mode, .int .i64 x.size, .slice xa x.out.length xd, .slice xb x.inn.length xe, .slice xc x.back.length xf, .int .i64 x.dir, .bool x.fin, .bool x.bad, .bool x.closed] 39)).alloc (Obj.cells #[.slice none 0 0, .int .i64 0, .int .i64 0, .int .i64 0] 46) = w3 at *
  clear c0 c1 c2 c3 c4 c5 c6 c7 c8 c9 c10
  have hgc := HC3.out.lt
  have hno : ∀ k, (Value.slice none 0 0).ownBlock = some k → False := fun k e => by simp [Value.ownBlock] at e
  obtain ⟨hy1, hy2, hy3⟩ := HY.out
  have r1 := owns_below hy1 HB23.out
  have r2 := owns_below hy2 HB23.out
  have r3 := owns_below hy3 HB23.out
  have hlen := bset_len x ⟨[], 0, 0, 0⟩ mode size
  have hp := bset_any (ct_raw (w2.heap.size + 1)) (fun s => ct_o (w2.heap.size + 1) s) ct_bears (s := ⟨[], 0, 0, 0⟩) (O := fun k => k = w2.heap.size + 1) mode size (SIn.of_own r1 r2 r3) ⟨_, HC3.out, World.ownsRow_nil _ _ _ _, fun k e => (hno k e).elim, rfl, Nat.le_refl _, by simp⟩ (fun j e => by have e2 : j = w2.heap.size + 1 := e; omega) (by simp) ho hi hb
  generalize x.bset ctD ⟨[], 0, 0, 0⟩ mode size = X at *
  obtain ⟨y, ey, S'⟩ := X
  simp only at hp hlen
  have HP := hide hp
  have HRw := hide (And.intro r1 (And.intro r2 r3))
  clear hp r1 r2 r3 hy1 hy2 hy3 HY hno
  obtain ⟨hl1, hl2, hl3⟩ := hlen
  refine HP.out.mono ?_
  rintro _ w4 ⟨o2, i2, b2, rfl, hS⟩
  obtain ⟨O', s1, -, -, -, s5⟩ := hS
  obtain ⟨ya, yd, rfl, -⟩ := s1.so
  obtain ⟨yb, ye, rfl, -⟩ := s1.si
  obtain ⟨yc, yf, rfl, -⟩ := s1.sb
  have hz3 := HB23.out.size
  have hz4 := s5.size
  have HYs := hide s1
  have HT4 := hide s5
  have HX4 : Hid (StAt w4 w2.heap.size x (.slice xa x.out.length xd) (.slice xb x.inn.length xe) (.slice xc x.back.length xf)) := hide ((s5.block _ HX3.out.lt (by omega)).trans HX3.out)
  have HB4 := hide ((HB2.out.trans (HB23.out.mono HB2.out.size)).trans (s5.below (fun k e => by omega) (HB2.out.trans (HB23.out.mono HB2.out.size)).size))
  clear s1 s5 HP HC3 HX3
  have hv : StAt (w4.alloc (Obj.cells #[.bool y.rd, .bool y.wt, .int .i64 y.mode, .int .i64 y.size, .slice ya y.out.length yd, .slice yb y.inn.length ye, .slice yc y.back.length yf, .int .i64 y.dir, .bool y.fin, .bool y.bad, .bool y.closed] 39)) w4.heap.size y (.slice ya y.out.length yd) (.slice yb y.inn.length ye) (.slice yc y.back.length yf) := StAt.new w4 y (.slice ya y.out.length yd) (.slice yb y.inn.length ye) (.slice yc y.back.length yf)
  have hzy : (w4.alloc (Obj.cells #[.bool y.rd, .bool y.wt, .int .i64 y.mode, .int .i64 y.size, .slice ya y.out.length yd, .slice yb y.inn.length ye, .slice yc y.back.length yf, .int .i64 y.dir, .bool y.fin, .bool y.bad, .bool y.closed] 39)).heap.size = w4.heap.size + 1 := Array.size_push ..
  have hBy4 := recv_below w4 (Obj.cells #[.bool y.rd, .bool y.wt, .int .i64 y.mode, .int .i64 y.size, .slice ya y.out.length yd, .slice yb y.inn.length ye, .slice yc y.back.length yf, .int .i64 y.dir, .bool y.fin, .bool y.bad, .bool y.closed] 39)
  obtain ⟨c0, c1, c2, c3, c4, c5, c6, c7, c8, c9, c10⟩ := hv.cs
  have HV5 := hide hv
  have HB45 := hide hBy4
  have HG := hide (given_any y _ _ _ _ (w4.alloc (Obj.cells #[.bool y.rd, .bool y.wt, .int .i64 y.mode, .int .i64 y.size, .slice ya y.out.length yd, .slice yb y.inn.length ye, .slice yc y.back.length yf, .int .i64 y.dir, .bool y.fin, .bool y.bad, .bool y.closed] 39)) (HYs.out.below hBy4) (by omega) (by omega) (by omega))
  clear hv hBy4
  go_wp2_with fail
  generalize w4.alloc (Obj.cells #[.bool y.rd, .bool y.wt, .int .i64 y.mode, .int .i64 y.size, .slice ya y.out.length yd, .slice yb y.inn.length ye, .slice yc y.back.length yf, .int .i64 y.dir, .bool y.fin, .bool y.bad, .bool y.closed] 39) = w5 at *
  refine HG.out.mono ?_
  rintro _ w6 ⟨o3, i3, b3, rfl, k1, k2, k3, hB6, -⟩
  obtain ⟨ka, kd, rfl⟩ := owns_slice k1
  obtain ⟨kb, ke, rfl⟩ := owns_slice k2
  obtain ⟨kc, kf, rfl⟩ := owns_slice k3
  have HKs := hide (SIn.of_own k1 k2 k3)
  have hz6 := hB6.size
  have HB46 := hide (HB45.out.trans (hB6.mono HB45.out.size))
  have HV6 := hide (HV5.out.below hB6)
  clear k1 k2 k3 hB6 HG HV5 HB45 c0 c1 c2 c3 c4 c5 c6 c7 c8 c9 c10
  have hBk := recv_below w6 (Obj.cells #[.bool y.rd, .bool y.wt, .int .i64 y.mode, .int .i64 y.size, .slice ka y.out.length kd, .slice kb y.inn.length ke, .slice kc y.back.length kf, .int .i64 y.dir, .bool y.fin, .bool y.bad, .bool y.closed] 39)
  have hzk : (w6.alloc (Obj.cells #[.bool y.rd, .bool y.wt, .int .i64 y.mode, .int .i64 y.size, .slice ka y.out.length kd, .slice kb y.inn.length ke, .slice kc y.back.length kf, .int .i64 y.dir, .bool y.fin, .bool y.bad, .bool y.closed] 39)).heap.size = w6.heap.size + 1 := Array.size_push ..
  have hB47 := HB46.out.trans (hBk.mono HB46.out.size)
  have HX7 := hide (HX4.out.below hB47)
  have HV7 := hide (HV6.out.below hBk)
  have HKv7 := hide (StAt.new w6 y (.slice ka y.out.length kd) (.slice kb y.inn.length ke) (.slice kc y.back.length kf))
  have HK7 := hide (HKs.out.below hBk)
  have HY7 := hide (HYs.out.below hB47)
  have HB7 := hide (HB4.out.trans (hB47.mono HB4.out.size))
  have HRw7 := hide (And.intro (owns_below (owns_turned HRw.out.1 HT4.out (fun k e => by intro e'; have e2 : k = w2.heap.size + 1 := e'; exact absurd (HLt.out k (.inl e)) (by omega))) hB47) (And.intro (owns_below (owns_turned HRw.out.2.1 HT4.out (fun k e => by intro e'; have e2 : k = w2.heap.size + 1 := e'; exact absurd (HLt.out k (.inr (.inl e))) (by omega))) hB47) (owns_below (owns_turned HRw.out.2.2 HT4.out (fun k e => by intro e'; have e2 : k = w2.heap.size + 1 := e'; exact absurd (HLt.out k (.inr (.inr e))) (by omega))) hB47)))
  clear hBk hB47 HX4 HV6 HKs HYs HB46 HT4 HRw
  have x4 := HX7.out.cs.2.2.2.2.1
  go_wp2_with fail
  generalize w6.alloc (Obj.cells #[.bool y.rd, .bool y.wt, .int .i64 y.mode, .int .i64 y.size, .slice ka y.out.length kd, .slice kb y.inn.length ke, .slice kc y.back.length kf, .int .i64 y.dir, .bool y.fin, .bool y.bad, .bool y.closed] 39) = w7 at *
  refine (Kp_spoil_turn _ _ _ _ w7 HRw7.out.1 (Kp_bv_ints _) (by unfold maxLen; omega)).mono ?_
  rintro _ w8 ⟨rfl, hT8⟩
  have HX8 : Hid (StAt w8 w2.heap.size x (.slice xa x.out.length xd) (.slice xb x.inn.length xe) (.slice xc x.back.length xf)) := hide ((hT8.block _ HX7.out.lt (fun e => by have := HLt.out _ (.inl e); omega)).trans HX7.out)
  have HR8 := hide (And.intro (owns_turned HRw7.out.2.1 hT8 (fun k e e' => (HAp.out.1 k e').1 e)) (owns_turned HRw7.out.2.2 hT8 (fun k e e' => (HAp.out.1 k e').2 e)))
  have HT8 := hide (hT8.mono fun k e => (.inl e : (Value.slice xa x.out.length xd).ownBlock = some k ∨ (Value.slice xb x.inn.length xe).ownBlock = some k ∨ (Value.slice xc x.back.length xf).ownBlock = some k))
  clear hT8 x4 HX7
  have x5 := HX8.out.cs.2.2.2.2.2.1
  go_wp2_with fail
  refine (Kp_spoil_turn _ _ _ _ w8 HR8.out.1 (Kp_bv_ints _) (by unfold maxLen; omega)).mono ?_
  rintro _ w9 ⟨rfl, hT9⟩
  have HX9 : Hid (StAt w9 w2.heap.size x (.slice xa x.out.length xd) (.slice xb x.inn.length xe) (.slice xc x.back.length xf)) := hide ((hT9.block _ HX8.out.lt (fun e => by have := HLt.out _ (.inr (.inl e)); omega)).trans HX8.out)
  have HR9 := hide (owns_turned HR8.out.2 hT9 (fun k e e' => HAp.out.2 k e' e))
  have HT9 := hide (HT8.out.trans (hT9.mono fun k e => (.inr (.inl e) : (Value.slice xa x.out.length xd).ownBlock = some k ∨ (Value.slice xb x.inn.length xe).ownBlock = some k ∨ (Value.slice xc x.back.length xf).ownBlock = some k)) (fun _ _ e => e))
  clear hT9 x5 HX8 HR8 HT8
  have x6 := HX9.out.cs.2.2.2.2.2.2.1
  go_wp2_with fail
  refine (Kp_spoil_turn _ _ _ _ w9 HR9.out (Kp_bv_ints _) (by unfold maxLen; omega)).mono ?_
  rintro _ w10 ⟨rfl, hT10⟩
  have HT10 := hide (HT9.out.trans (hT10.mono fun k e => (.inr (.inr e) : (Value.slice xa x.out.length xd).ownBlock = some k ∨ (Value.slice xb x.inn.length xe).ownBlock = some k ∨ (Value.slice xc x.back.length xf).ownBlock = some k)) (fun _ _ e => e))
  have HB10 := hide (HB7.out.trans (HT10.out.below (fun k e => by have := HLt.out k e; omega) HB7.out.size))
  have hz10 := HT10.out.size
  have hzz := HB7.out.size
  clear hT10 x6 HX9 HR9 HT9 HRw7
  go_wp2_with fail
  refine (HW.out _ HB10.out).mono ?_
  rintro _ w11 ⟨u, rfl, hO11, hB11⟩
  obtain ⟨aa, ac, rfl⟩ := owns_slice hO11
  have hz11 := hB11.size
  have HNa := hide (And.intro (Nus.of_owns hO11) (fun k e => hO11.lt k e))
  have HB11 := hide (HB10.out.trans (hB11.mono HB10.out.size))
  have HT11 := hide ((HT10.out.mono fun k e => (.inl e : ((Value.slice xa x.out.length xd).ownBlock = some k ∨ (Value.slice xb x.inn.length xe).ownBlock = some k ∨ (Value.slice xc x.back.length xf).ownBlock = some k) ∨ w7.heap.size ≤ k)).trans (Turned.of_below (S := fun k => ((Value.slice xa x.out.length xd).ownBlock = some k ∨ (Value.slice xb x.inn.length xe).ownBlock = some k ∨ (Value.slice xc x.back.length xf).ownBlock = some k) ∨ w7.heap.size ≤ k) hB11) (fun _ _ e => e))
  clear hO11 hB11 HT10 HB10
  go_wp2_with fail
  refine (HW.out _ HB11.out).mono ?_
  rintro _ w12 ⟨u, rfl, hO12, hB12⟩
  have hz12 := hB12.size
  have HNa2 := hide (HNa.out.1.below hB12)
  have HB12 := hide (HB11.out.trans (hB12.mono HB11.out.size))
  have HT12 := hide (HT11.out.trans (Turned.of_below (S := fun k => ((Value.slice xa x.out.length xd).ownBlock = some k ∨ (Value.slice xb x.inn.length xe).ownBlock = some k ∨ (Value.slice xc x.back.length xf).ownBlock = some k) ∨ w7.heap.size ≤ k) hB12) (fun _ _ e => e))
  have HIx : Hid (∀ u ∈ nvs L, ∃ c, u = .int .i64 c) := hide (fun u hu => by
    obtain ⟨c, _, rfl⟩ := List.mem_map.1 hu
    exact ⟨_, rfl⟩)
  have hnl : (nvs L).length = L.length := List.length_map _
  obtain ⟨ca, cc, rfl⟩ := owns_slice hO12
  have HO12 := hide hO12
  clear hO12 hB12 HT11 HB11
  go_wp2_with fail
  go_loopw [17] (fun iv wr => ∃ (k : Nat) (ys : List Value), k ≤ L.length ∧ iv = .int .i64 k ∧ ys.length = L.length ∧ Hid (∀ u ∈ ys, ∃ c, u = .int .i64 c) ∧ Hid (wr.ownsRow w11.heap.size 3 1 (.slice ca L.length cc) L.length ys) ∧ Hid (Turned (fun j => (Value.slice ca L.length cc).ownBlock = some j) w12 wr)) (fun iv _ => L.length - (intOf iv).toNat)
  case atStart => exact ⟨0, _, Nat.zero_le _, rfl, hnl, HIx, HO12, hide (Turned.refl _ _)⟩
  case round =>
    obtain ⟨k, ys, hk, rfl, hys, HYi, HOr, HTr⟩ := hrel
    by_cases hlt : k < L.length
    · have hk1 : (0 : Int) ≤ (k : Int) := by omega
      have hk2 : (k : Int) < (L.length : Int) := by omega
      obtain ⟨c, hcx⟩ := HYi.out ys[k] (List.getElem_mem _)
      obtain ⟨g, rfl, hcell⟩ := nvs_cell HOr.out hlt (List.getElem?_eq_getElem (by omega : k < ys.length))
      rw [hcx] at hcell
      have hfr := HOr.out.frozenAt k
      obtain ⟨hst, hgr⟩ := HOr.out.stored k (Value.int .i64 (-1))
      have HSt := hide hst
      have HTn : Hid (Turned (fun j => (Value.slice (some ⟨g, 0, none⟩) L.length cc).ownBlock = some j) w12 (wr.setCell ⟨g, k, none⟩ (.int .i64 (-1)))) := hide (HTr.out.set (.inl rfl))
      clear hst hgr hcx
      go_wp2
      go_roundw
      case rel =>
        refine ⟨k + 1, _, by omega, by go_num, by rw [List.length_set]; exact hys, hide (fun u hu => ?_), HSt, HTn⟩
        rcases List.mem_or_eq_of_mem_set hu with h | h
        · exact HYi.out u h
        · exact ⟨_, h⟩
      case measure => simp [intOf]; omega
    · have hlt' : ¬ (k : Int) < (L.length : Int) := by omega
      have hzr := HTr.out.size
      have hcb : ∀ j, (Value.slice ca L.length cc).ownBlock = some j → w11.heap.size ≤ j ∧ j < w12.heap.size := fun j e => HO12.out.lt j e
      have HBr := hide (HB12.out.trans (HTr.out.below (fun j e => by have := hcb j e; omega) HB12.out.size))
      have HTa := hide (HT12.out.trans (HTr.out.mono fun j e => (.inr (by have := hcb j e; omega) : ((Value.slice xa x.out.length xd).ownBlock = some j ∨ (Value.slice xb x.inn.length xe).ownBlock = some j ∨ (Value.slice xc x.back.length xf).ownBlock = some j) ∨ w7.heap.size ≤ j)) (fun _ _ e => e))
      have HNar := hide (HNa2.out.turned HTr.out (fun j e _ e' => by have h1 := (HNa.out.2 j e).2; have := hcb j e'; omega))
      clear HYi HOr HTr HO12 HT12 HNa2 HB12 hcb
      go_wp2_with fail
      refine (HW.out _ HBr.out).mono ?_
      rintro _ w14 ⟨u, rfl, hO14, hB14⟩
      obtain ⟨da, dc, rfl⟩ := owns_slice hO14
      have hz14 := hB14.size
      have HNc := hide (Nus.of_owns hO14)
      have HNa14 := hide (HNar.out.below hB14)
      have HB14 := hide (HBr.out.trans (hB14.mono HBr.out.size))
      have hT14 := HTa.out.trans (Turned.of_below (S := fun k => ((Value.slice xa x.out.length xd).ownBlock = some k ∨ (Value.slice xb x.inn.length xe).ownBlock = some k ∨ (Value.slice xc x.back.length xf).ownBlock = some k) ∨ w7.heap.size ≤ k) hB14) (fun _ _ e => e)
      have far : ∀ k, w2.heap.size ≤ k → k < w7.heap.size → ¬ (((Value.slice xa x.out.length xd).ownBlock = some k ∨ (Value.slice xb x.inn.length xe).ownBlock = some k ∨ (Value.slice xc x.back.length xf).ownBlock = some k) ∨ w7.heap.size ≤ k) := fun k h1 h2 e => by
        rcases e with e | e
        · have := HLt.out k e; omega
        · omega
      have HVz : Hid (StAt w14 w4.heap.size y (.slice ya y.out.length yd) (.slice yb y.inn.length ye) (.slice yc y.back.length yf)) := hide ((hT14.block _ HV7.out.lt (far _ (by omega) HV7.out.lt)).trans HV7.out)
      have HKz : Hid (StAt w14 w6.heap.size y (.slice ka y.out.length kd) (.slice kb y.inn.length ke) (.slice kc y.back.length kf)) := hide ((hT14.block _ HKv7.out.lt (far _ (by omega) HKv7.out.lt)).trans HKv7.out)
      have HYz := hide (HY7.out.turned hT14 (fun k e h2 => far k (by have := e.1; omega) h2))
      have HKsz := hide (HK7.out.turned hT14 (fun k e h2 => far k (by have := e.1; omega) h2))
      clear hO14 hB14 hT14 far HTa
      obtain ⟨c0, c1, c2, c3, c4, c5, c6, c7, c8, c9, c10⟩ := HVz.out.cs
      obtain ⟨d0, d1, d2, d3, d4, d5, d6, d7, d8, d9, d10⟩ := HKz.out.cs
      go_wp2_with fail
      refine (ssame_any y _ _ _ _ _ _ _ _ w14 HYz.out HKsz.out (by omega) (by omega) (by omega)).mono ?_
      rintro _ w15 ⟨rfl, hB15⟩
      have HNc15 := hide (HNc.out.below hB15)
      have HNa15 := hide (HNa14.out.below hB15)
      have HB15 := hide (HB14.out.trans (hB15.mono HB14.out.size))
      clear hB15 c0 c1 c2 c3 c4 c5 c6 c7 c8 c9 c10 d0 d1 d2 d3 d4 d5 d6 d7 d8 d9 d10
      go_wp2_with fail
      refine (sameNus_any _ _ L _ HNa15.out HNc15.out (by omega)).mono ?_
      rintro _ w16 ⟨rfl, hB16⟩
      go_wp2
      go_ret
      exact ⟨rfl, HB15.out.trans (hB16.mono HB15.out.size)⟩
end Go.Proofs.Ytibnpeipndkciaa

/- BufmodeOwn: for every state, mode, size and text, the state that follows a Set shares nothing with the one handed in, and what Writes answers is its holder own. -/
namespace Go.Proofs.Ytibnpeipndkciaa.bufmodeOwn
open Go.ChangeShapes Go.WideShapes Go.ChangeAt Go.RowKit
open Go.ChangeMaps (open_string shut_string)
set_option linter.unusedVariables false

theorem own : ownKnob Try.prog.godebug = none := by kernel_rfl
theorem laidOut : laidOutB Try.prog = true := by kernel_rfl

set_option maxRecDepth 100000 in
theorem lifted (os : Os) (started : os.Started) (H : Type) (enc : TypeId × Value → H) :
    ReturnsInHanded {} Try.checked os 7 .any (Rows.bufmodeOwnSpec.pre6 enc Try.prog Try.f7 Rows.bufmodeOwnRow.domain false) (Rows.bufmodeOwnSpec.post enc Try.prog Try.f7 false true false false) := by
  refine returnsInHanded_of_change_sized (C := Try.checked) own started (by kernel_rfl) Try.func7
    (ChangeSpec.witness6 (enc := enc) (C := Try.checked) false ⟨#[], #[.agg #[.bool false, .bool false, .int .i64 0, .int .i64 0, .slice none 0 0, .slice none 0 0, .slice none 0 0, .int .i64 0, .bool false, .bool false, .bool false], .int .i64 0, .int .i64 0, .slice none 0 0], []⟩ 8 (by kernel_rfl) (by kernel_rfl) (by kernel_rfl) (by kernel_rfl)) ?_
  intro W base args ds gs before hval0 hW hcnd0 hsz0 _
  have hsz : (DataW.weightsEach Try.prog (Try.f7.params.toList ++ Rows.bufmodeOwnSpec.plain.varTypes Try.prog) (ds ++ gs)).all (· ≤ reachBytes) = true := hsz0
  clear hsz0
  have hval : ∀ (j : Nat) t v, Try.f7.params[j]? = some t → args[j]? = some v → Value.okWide Try.prog W .any base t v := hval0
  have hW' := hW
  obtain ⟨p, q, hA0, hV, rfl, hfz, hnd⟩ := hW
  have hA : DataW.TrodAll enc Try.prog W 0 (fun _ => true) true Try.f7.params.toList args.toList ds p := hA0
  rw [Try.params7] at hA hval hsz
  obtain ⟨v0, vs0, d0, ds0, p0, q0, hargs, rfl, rfl, h0, r0⟩ := trodAll_cons hA
  obtain ⟨v1, vs1, d1, ds1, p1, q1, rfl, rfl, rfl, h1, r1⟩ := trodAll_cons r0
  obtain ⟨v2, vs2, d2, ds2, p2, q2, rfl, rfl, rfl, h2, r2⟩ := trodAll_cons r1
  obtain ⟨v3, vs3, d3, ds3, p3, q3, rfl, rfl, rfl, h3, r3⟩ := trodAll_cons r2
  obtain ⟨rfl, rfl, rfl⟩ := trodAll_nil r3
  obtain rfl : args = #[v0, v1, v2, v3] := by cases args; simp_all
  obtain ⟨rfl, rfl⟩ := trodVars_none hV
  obtain ⟨c0, rfl, hc0⟩ := okWide_struct Try.underlying59 (hval 0 59 v0 rfl rfl)
  have k0 := h0
  have lt0 : ∀ x ∈ p0, x.block < W.heap.size := by obtain ⟨m, hm⟩ := k0; exact DataW.trod_lt m _ _ _ hm
  obtain ⟨fuel0, hf0⟩ := h0
  obtain ⟨x0, ov0, iv0, bv0, hcl0, yo0, yi0, yb0, _, _, _, _, _, _, _, _, _, _, _, rfl, eo0, ei0, eb0⟩ := state_cells hf0
  obtain rfl : c0 = #[.bool x0.rd, .bool x0.wt, .int .i64 x0.mode, .int .i64 x0.size, ov0, iv0, bv0, .int .i64 x0.dir, .bool x0.fin, .bool x0.bad, .bool x0.closed] := by cases c0; simpa [Value.cells] using hcl0
  have sm0 := msmall_arg hsz (j := 0) (t := 59) rfl rfl
  have zo0 : x0.out.length ≤ 140737488351232 := mbytes_small (sm0.fields Try.underlying59 4 _ _ rfl rfl) Try.underlying22 (by kernel_rfl) eo0
  have zi0 : x0.inn.length ≤ 140737488351232 := mbytes_small (sm0.fields Try.underlying59 5 _ _ rfl rfl) Try.underlying22 (by kernel_rfl) ei0
  have zb0 : x0.back.length ≤ 140737488351232 := mbytes_small (sm0.fields Try.underlying59 6 _ _ rfl rfl) Try.underlying22 (by kernel_rfl) eb0
  obtain ⟨a1, rfl, rfl, rfl, w1⟩ := open_int Try.underlying3 (hval 1 3 v1 rfl rfl) h1
  have b1 := bounds_i64 w1
  obtain ⟨a2, rfl, rfl, rfl, w2⟩ := open_int Try.underlying3 (hval 2 3 v2 rfl rfl) h2
  have b2 := bounds_i64 w2
  obtain ⟨c3, len3, cap3, rfl⟩ := okWide_slice Try.underlying22 (hval 3 22 v3 rfl rfl)
  have k3 := h3
  have lt3 : ∀ x ∈ p3, x.block < W.heap.size := by obtain ⟨m, hm⟩ := k3; exact DataW.trod_lt m _ _ _ hm
  obtain ⟨fuel3, hf3⟩ := h3
  obtain ⟨l3, y3, m3, e3⟩ := bytes_arg2 Try.underlying22 Try.underlying5 (by kernel_rfl) hf3
  have z3 : l3.length ≤ 140737488351232 := by
    rcases e3 with ⟨_, rfl⟩ | ⟨elems, spare, rfl, hll⟩
    · simp
    · have := sized_slice hsz (j := 3) (t := 22) (e := 5) rfl rfl Try.underlying22
      rw [show Try.prog.bytesOf 5 = 1 by kernel_rfl] at this; simp only [reachBytes] at this; omega
  clear hA0
  refine (bown_any x0 ov0 iv0 bv0 a1 a2 c3 len3 cap3 l3 W ⟨yo0, yi0, yb0, fun _ _ => trivial, fun _ _ => trivial, fun _ _ => trivial⟩ zo0 zi0 zb0 y3 m3).mono fun e W' ⟨he, bel⟩ => ?_
  subst he
  exact ⟨_, rfl, _, _, _, [], _, [], hW', trodAll_mk1 (shut_bool Try.underlying4 _), (trodAll_cons_mk (Below.trod laidOut (by kernel_rfl) (of_decide_eq_true (by kernel_rfl)) k0 bel lt0) (trodAll_cons_mk (shut_int Try.underlying3 w1) (trodAll_cons_mk (shut_int Try.underlying3 w2) (trodAll_cons_mk (Below.trod laidOut (by kernel_rfl) (of_decide_eq_true (by kernel_rfl)) k3 bel lt3) trodAll_mk0)))), rfl, bel.frame _, fun h => by cases h⟩

theorem over : Rows.bufmodeOwnRow.holds Try.pinned (OpenSpec.ofChange Rows.bufmodeOwnSpec) :=
  OpenClaim.holds_of_wide 7 Try.f7 rfl rfl rfl rfl rfl rfl rfl ⟨rfl, rfl, rfl, rfl, rfl⟩ rfl rfl rfl rfl rfl (by kernel_rfl) Try.func7 (by kernel_rfl)
    (of_decide_eq_true (by kernel_rfl)) (by unfold Func.isWrapper; first | (rw [if_pos (by decide +kernel)]; kernel_rfl) | (rw [if_neg (by decide +kernel)]; exact ⟨rfl, rfl⟩))
    (fun os started H enc _ => lifted os started H enc)
end Go.Proofs.Ytibnpeipndkciaa.bufmodeOwn
namespace Go.Proofs.Ytibnpeipndkciaa
theorem bufmodeOwn_holds : Rows.BufmodeOwnSaid := bufmodeOwn.over
#print axioms bufmodeOwn_holds
end Go.Proofs.Ytibnpeipndkciaa
