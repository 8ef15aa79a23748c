/- What the proof stands on, part 13: the contracts of the program's calls that it reaches. -/
import Derived.Test.YtgbkhmiphaefgaaKK12
import Derived.Deep.RegionLaw
import Derived.RangeFuncNested
import Derived.RangeFuncBound
import Derived.RangeFuncCalls
import Derived.RangeFuncLeaves
import Derived.RangeFuncBox
import Derived.Shelf.Abstract
import Derived.Shelf.RegionOpen
import Derived.OwnWalkIn
import Derived.TacticsInMore
import Derived.LoopNIn
import Derived.LoopIn
import Derived.Maps.AppendAt
import Derived.Sort.BigQuietIn
import Derived.Laws.AppendOwnNone
import Derived.Deep.QuietTactic
import Derived.BigQuiet
import Derived.Lib.MinMax
/- Lines: bytes put through the buffer. -/
namespace Go.Proofs.Ytgbkhmiphaefgaa
open Go.RowKit

def ThV {S : Type} (D : RawD S) (t : List UInt8) (Q : SS × Nat × Int × S) (k : Nat) (e : Int) (y : SS) (u : S) : Prop := (e = 0 → Rm y ∧ puts D y u (t.drop k) k = Q) ∧ (e ≠ 0 → 0 < k ∧ Q = (y, k, e, u))
theorem puts_step {S : Type} (D : RawD S) (y : SS) (u : S) (t : List UInt8) (k : Nat) (h : k < t.length) : puts D y u (t.drop k) k = if (y.put D u (t.getD k 0)).2.1 = 0 then puts D (y.put D u (t.getD k 0)).1 (y.put D u (t.getD k 0)).2.2 (t.drop (k + 1)) (k + 1) else ((y.put D u (t.getD k 0)).1, k + 1, (y.put D u (t.getD k 0)).2.1, (y.put D u (t.getD k 0)).2.2) := by
  rw [List.drop_eq_getElem_cons h, show t.getD k 0 = t[k] by rw [List.getD_eq_getElem?_getD, List.getElem?_eq_getElem h]; rfl]
  rfl
theorem ThV.done {S : Type} {D : RawD S} {t : List UInt8} {Q : SS × Nat × Int × S} {k : Nat} {e : Int} {y : SS} {u : S} (h : ThV D t Q k e y u) (hk : ¬ (k < t.length ∧ e = 0)) : Q = (y, k, e, u) := by
  by_cases he : e = 0
  · have hk2 : ¬ k < t.length := fun e2 => hk ⟨e2, he⟩
    have := (h.1 he).2
    rw [List.drop_of_length_le (by omega)] at this
    rw [← this, he]
    rfl
  · exact (h.2 he).2
set_option linter.unusedSimpArgs false in
set_option maxRecDepth 100000 in
set_option maxHeartbeats 8000000 in
theorem through_any {S : Type} {D : RawD S} {T : TypeId} {v : Value} {fr fw : FuncId} {rok wok : S → Prop} {At : World → (Nat → Prop) → S → Prop} (R : RawM D T v fr fw rok wok At) (hT : ∀ s, OAt (fun w O => At w O s)) {G : Nat → S → Prop} (hG : Bears D rok wok G) {w : World} {O P : Nat → Prop} {s : S} {x : SS} {o i b : Value} (t : List UInt8) (tb tq tc : Nat) (h : SIn w P x o i b) (hA : At w O s) (hO : ∀ j, O j → j < w.heap.size) (hg : G (2 * t.length + 4) s) (ho : x.out.length ≤ 140737488351232) (hi : x.inn.length ≤ 140737488351232) (hb : x.back.length ≤ 140737488351232) (hn : x.noWrite = 0) (hmo : x.mode ≠ 1) (ht : ∀ j, j < t.length → w.cell? ⟨tb, tq + j, none⟩ = some (.int .u8 ((t.getD j 0).toNat : Int))) (hby : Bys w (.slice (some ⟨tb, tq, none⟩) t.length tc) t) (htc : t.length ≤ tc) (ht1 : 0 < t.length) (ht2 : t.length ≤ 1048576) (hap : ¬ O tb) :
    Calls Try.prog 40 #[.agg #[.bool x.rd, .bool x.wt, .int .i64 x.mode, .int .i64 x.size, o, i, b, .int .i64 x.dir, .bool x.fin, .bool x.bad, .bool x.closed], .iface T v, .slice (some ⟨tb, tq, none⟩) t.length tc] w fun e w' => ∃ o' i' b', e = .returned (.tuple #[.agg #[.bool (x.through D s t).1.rd, .bool (x.through D s t).1.wt, .int .i64 (x.through D s t).1.mode, .int .i64 (x.through D s t).1.size, o', i', b', .int .i64 (x.through D s t).1.dir, .bool (x.through D s t).1.fin, .bool (x.through D s t).1.bad, .bool (x.through D s t).1.closed], .int .i64 (x.through D s t).2.1, .int .i64 (x.through D s t).2.2.1]) ∧ SOut At w O (x.through D s t).1 (x.through D s t).2.2.2 o' i' b' w' := by
  have HW := hide (fun (W : World) (hW : Below w.heap.size w W) => withRoom_any R hT hG (h.below hW) ((hT s).keep hA (fun j _ hj => hW.block j hj) hW.size) (fun j e => Nat.lt_of_lt_of_le (hO j e) hW.size) (hG.w.down 2 (2 * t.length + 2) (by rw [show 2 + (2 * t.length + 2) = 2 * t.length + 4 by omega]; exact hg)) ho hi hb)
  have HRm := hide (fun e => room_rm D s hn hmo e)
  have HGr : Hid (G (2 * t.length + 2) (x.room D s).2.2) := hide (by
    unfold SS.room
    split
    · exact hG.w.down _ 2 hg
    · exact flush_bear hG x hg)
  have hq : x.through D s t = if (x.room D s).2.1 = 0 then puts D (x.room D s).1 (x.room D s).2.2 t 0 else ((x.room D s).1, 0, (x.room D s).2.1, (x.room D s).2.2) := rfl
  have HI := hide h
  have HA := hide hA
  have HO := hide hO
  have HG := hide hG
  have HT := hide ht
  have HBy := hide hby
  generalize x.through D s t = Q at *
  obtain ⟨qx, qn, qe, qs⟩ := Q
  obtain ⟨oa, oc, rfl, -⟩ := h.so
  obtain ⟨ia, ic, rfl, -⟩ := h.si
  obtain ⟨ba, bc, rfl, -⟩ := h.sb
  generalize x.room D s = q at *
  obtain ⟨x1, re, s1⟩ := q
  simp only at HW HRm HGr hq ⊢
  have HQ := hide hq
  clear h hA hO hg ho hi hb hn hmo ht hby hq hG
  go_enter Try.func40, Try.ntmps40
  go_wp2_with fail
  have HB0 := hide ((recv_below w (Obj.cells #[.bool x.rd, .bool x.wt, .int .i64 x.mode, .int .i64 x.size, .slice oa x.out.length oc, .slice ia x.inn.length ic, .slice ba x.back.length bc, .int .i64 x.dir, .bool x.fin, .bool x.bad, .bool x.closed] 35)).trans ((recv_below (w.alloc (Obj.cells #[.bool x.rd, .bool x.wt, .int .i64 x.mode, .int .i64 x.size, .slice oa x.out.length oc, .slice ia x.inn.length ic, .slice ba x.back.length bc, .int .i64 x.dir, .bool x.fin, .bool x.bad, .bool x.closed] 35)) (Obj.cells #[.bool false, .bool false, .int .i64 0, .int .i64 0, .slice none 0 0, .slice none 0 0, .slice none 0 0, .int .i64 0, .bool false, .bool false, .bool false] 35)).mono (recv_below w (Obj.cells #[.bool x.rd, .bool x.wt, .int .i64 x.mode, .int .i64 x.size, .slice oa x.out.length oc, .slice ia x.inn.length ic, .slice ba x.back.length bc, .int .i64 x.dir, .bool x.fin, .bool x.bad, .bool x.closed] 35)).size))
  have HS0 := hide ((StAt.new w x (.slice oa x.out.length oc) (.slice ia x.inn.length ic) (.slice ba x.back.length bc)).below (recv_below _ (Obj.cells #[.bool false, .bool false, .int .i64 0, .int .i64 0, .slice none 0 0, .slice none 0 0, .slice none 0 0, .int .i64 0, .bool false, .bool false, .bool false] 35)))
  have HZ0 : Hid (((w.alloc (Obj.cells #[.bool x.rd, .bool x.wt, .int .i64 x.mode, .int .i64 x.size, .slice oa x.out.length oc, .slice ia x.inn.length ic, .slice ba x.back.length bc, .int .i64 x.dir, .bool x.fin, .bool x.bad, .bool x.closed] 35)).alloc (Obj.cells #[.bool false, .bool false, .int .i64 0, .int .i64 0, .slice none 0 0, .slice none 0 0, .slice none 0 0, .int .i64 0, .bool false, .bool false, .bool false] 35)).heap[w.heap.size + 1]? = some (Obj.cells #[.bool false, .bool false, .int .i64 0, .int .i64 0, .slice none 0 0, .slice none 0 0, .slice none 0 0, .int .i64 0, .bool false, .bool false, .bool false] 35)) := hide (by have := heap_alloc_new (w.alloc (Obj.cells #[.bool x.rd, .bool x.wt, .int .i64 x.mode, .int .i64 x.size, .slice oa x.out.length oc, .slice ia x.inn.length ic, .slice ba x.back.length bc, .int .i64 x.dir, .bool x.fin, .bool x.bad, .bool x.closed] 35)) (Obj.cells #[.bool false, .bool false, .int .i64 0, .int .i64 0, .slice none 0 0, .slice none 0 0, .slice none 0 0, .int .i64 0, .bool false, .bool false, .bool false] 35); rw [show (w.alloc (Obj.cells #[.bool x.rd, .bool x.wt, .int .i64 x.mode, .int .i64 x.size, .slice oa x.out.length oc, .slice ia x.inn.length ic, .slice ba x.back.length bc, .int .i64 x.dir, .bool x.fin, .bool x.bad, .bool x.closed] 35)).heap.size = w.heap.size + 1 from Array.size_push ..] at this; exact this)
  generalize (w.alloc (Obj.cells #[.bool x.rd, .bool x.wt, .int .i64 x.mode, .int .i64 x.size, .slice oa x.out.length oc, .slice ia x.inn.length ic, .slice ba x.back.length bc, .int .i64 x.dir, .bool x.fin, .bool x.bad, .bool x.closed] 35)).alloc (Obj.cells #[.bool false, .bool false, .int .i64 0, .int .i64 0, .slice none 0 0, .slice none 0 0, .slice none 0 0, .int .i64 0, .bool false, .bool false, .bool false] 35) = w0 at *
  have hz0 : w.heap.size + 1 < w0.heap.size := (Array.getElem?_eq_some_iff.1 HZ0.out).1
  refine (HW.out _ HB0.out).mono ?_
  rintro _ w2 ⟨a1, a2, a3, a4, a5, a6, rfl, hWr⟩
  obtain ⟨hst, O1, hk, hv⟩ := hWr.qk (r := w.heap.size + 1) hT HI.out HA.out HO.out HB0.out HS0.out HZ0.out (by omega) (Nat.le_refl _) (Nat.le_succ _)
  unfold filled at hk hv
  have HK := hide hk
  have HV := hide hv
  obtain ⟨c0, c1, c2, c3, c4, c5, c6, c7, c8, c9, c10⟩ := hst.cs
  have s0 := hst.soft 0
  have s1 := hst.soft 1
  have s2 := hst.soft 2
  have s3 := hst.soft 3
  have s4 := hst.soft 4
  have s5 := hst.soft 5
  have s6 := hst.soft 6
  have s7 := hst.soft 7
  have s8 := hst.soft 8
  have s9 := hst.soft 9
  have s10 := hst.soft 10
  clear hWr hst hk hv HW HS0 HZ0
  go_upto_region 2 with fail
  clear c0 c1 c2 c3 c4 c5 c6 c7 c8 c9 c10 s0 s1 s2 s3 s4 s5 s6 s7 s8 s9 s10
  generalize (((((((((((w2.setCell ⟨w.heap.size, 0, none⟩ (.bool x1.rd)).setCell ⟨w.heap.size, 1, none⟩ (.bool x1.wt)).setCell ⟨w.heap.size, 2, none⟩ (.int .i64 x1.mode)).setCell ⟨w.heap.size, 3, none⟩ (.int .i64 x1.size)).setCell ⟨w.heap.size, 4, none⟩ (.slice a1 x1.out.length a4)).setCell ⟨w.heap.size, 5, none⟩ (.slice a2 x1.inn.length a5)).setCell ⟨w.heap.size, 6, none⟩ (.slice a3 x1.back.length a6)).setCell ⟨w.heap.size, 7, none⟩ (.int .i64 x1.dir)).setCell ⟨w.heap.size, 8, none⟩ (.bool x1.fin)).setCell ⟨w.heap.size, 9, none⟩ (.bool x1.bad)).setCell ⟨w.heap.size, 10, none⟩ (.bool x1.closed)) = w3 at *
  by_cases hre : re = 0
  case neg =>
    have HX : Hid (x1 = qx ∧ 0 = qn ∧ re = qe ∧ s1 = qs) := hide (by have := HQ.out; rw [if_neg hre] at this; simp only [Prod.mk.injEq] at this; exact ⟨this.1.symm, this.2.1.symm, this.2.2.1.symm, this.2.2.2.symm⟩)
    have HV3 := hide (HV.out hre)
    have hb1 : (re != 0) = true := by simp [hre]
    have hb2 : (re == 0) = false := by simp [hre]
    clear hre HK HV HQ HRm HGr
    have HZr := hide HV3.out.zr
    obtain ⟨c0, c1, c2, c3, c4, c5, c6, c7, c8, c9, c10⟩ := HV3.out.st.cs
    have f0 := frozen_of_row w3 (w.heap.size + 1) 0 _ _ HZr.out
    have f1 := frozen_of_row w3 (w.heap.size + 1) 1 _ _ HZr.out
    have f2 := frozen_of_row w3 (w.heap.size + 1) 2 _ _ HZr.out
    have f3 := frozen_of_row w3 (w.heap.size + 1) 3 _ _ HZr.out
    have f4 := frozen_of_row w3 (w.heap.size + 1) 4 _ _ HZr.out
    have f5 := frozen_of_row w3 (w.heap.size + 1) 5 _ _ HZr.out
    have f6 := frozen_of_row w3 (w.heap.size + 1) 6 _ _ HZr.out
    have f7 := frozen_of_row w3 (w.heap.size + 1) 7 _ _ HZr.out
    have f8 := frozen_of_row w3 (w.heap.size + 1) 8 _ _ HZr.out
    have f9 := frozen_of_row w3 (w.heap.size + 1) 9 _ _ HZr.out
    have f10 := frozen_of_row w3 (w.heap.size + 1) 10 _ _ HZr.out
    have d0 := cell_of_row w3 (w.heap.size + 1) 0 _ _ _ HZr.out
    have d1 := cell_of_row w3 (w.heap.size + 1) 1 _ _ _ HZr.out
    have d2 := cell_of_row w3 (w.heap.size + 1) 2 _ _ _ HZr.out
    have d3 := cell_of_row w3 (w.heap.size + 1) 3 _ _ _ HZr.out
    have d4 := cell_of_row w3 (w.heap.size + 1) 4 _ _ _ HZr.out
    have d5 := cell_of_row w3 (w.heap.size + 1) 5 _ _ _ HZr.out
    have d6 := cell_of_row w3 (w.heap.size + 1) 6 _ _ _ HZr.out
    have d7 := cell_of_row w3 (w.heap.size + 1) 7 _ _ _ HZr.out
    have d8 := cell_of_row w3 (w.heap.size + 1) 8 _ _ _ HZr.out
    have d9 := cell_of_row w3 (w.heap.size + 1) 9 _ _ _ HZr.out
    have d10 := cell_of_row w3 (w.heap.size + 1) 10 _ _ _ HZr.out
    simp at d0 d1 d2 d3 d4 d5 d6 d7 d8 d9 d10
    go_wp2
    obtain ⟨e1, e2⟩ := HV3.out.out hT
    unfold filled at e1 e2
    refine bodyPost_ret (res_three rfl _ (w.heap.size + 1) rfl x1 _ _ _ e1) rfl ?_
    obtain ⟨rfl, rfl, rfl, rfl⟩ := HX.out
    exact ⟨_, _, _, rfl, e2⟩
  case pos =>
    have HTv : Hid (ThV D t (qx, qn, qe, qs) 0 0 x1 s1) := hide ⟨fun _ => ⟨HRm.out hre, by have := HQ.out; rw [if_pos hre] at this; exact this.symm⟩, fun e => absurd rfl e⟩
    subst hre
    clear HV HQ HRm
    have hw2 : w2.heap.size ≤ w2.heap.size := Nat.le_refl _
    go_wp2_with fail
    go_loopw [9, 10] (fun v9 v10 wr => ∃ (k : Nat) (e : Int) (y : SS) (u : S) (a1 a2 a3 : Option Addr) (a4 a5 a6 : Nat) (O1 : Nat → Prop), v9 = .int .i64 e ∧ v10 = .int .i64 k ∧ k ≤ t.length ∧ Hid (QK At (k = 0) w O (w.heap.size + 1) w.heap.size wr O1 y u (.slice a1 y.out.length a4) (.slice a2 y.inn.length a5) (.slice a3 y.back.length a6)) ∧ Hid (ThV D t (qx, qn, qe, qs) k e y u) ∧ Hid (G (2 * (t.length - k) + 2) u)) (fun _ v10 _ => t.length - (intOf v10).toNat)
    case atStart => exact ⟨0, 0, x1, s1, _, _, _, _, _, _, O1, rfl, rfl, Nat.zero_le _, hide (HK.out.z fun _ => rfl), HTv, hide (by rw [Nat.sub_zero]; exact HGr.out)⟩
    case round =>
      clear HK HTv HGr hw2
      obtain ⟨k, e, y, u, a1, a2, a3, a4, a5, a6, O1, rfl, rfl, hk, HK, HTv, HGu⟩ := hrel
      by_cases hgo : k < t.length ∧ e = 0
      case neg =>
        have HX := hide (HTv.out.done hgo)
        have hk0 : ¬ k = 0 := fun e2 => by
          by_cases he : e = 0
          · exact hgo ⟨by omega, he⟩
          · have := (HTv.out.2 he).1; omega
        have HV := hide (HK.out.v hk0)
        clear HK HTv HGu
        by_cases hlt : k < t.length
        case' pos =>
          have he : ¬ e = 0 := fun e2 => hgo ⟨hlt, e2⟩
          have hb1 : (e == 0) = false := by simp [he]
          have hl1 : (k : Int) < (t.length : Int) := by omega
          clear hgo he hk0
        case' neg =>
          have hl1 : ¬ (k : Int) < (t.length : Int) := by omega
          clear hgo hk0
        all_goals
          have HZr := hide HV.out.zr
          obtain ⟨c0, c1, c2, c3, c4, c5, c6, c7, c8, c9, c10⟩ := HV.out.st.cs
          have f0 := frozen_of_row wr (w.heap.size + 1) 0 _ _ HZr.out
          have f1 := frozen_of_row wr (w.heap.size + 1) 1 _ _ HZr.out
          have f2 := frozen_of_row wr (w.heap.size + 1) 2 _ _ HZr.out
          have f3 := frozen_of_row wr (w.heap.size + 1) 3 _ _ HZr.out
          have f4 := frozen_of_row wr (w.heap.size + 1) 4 _ _ HZr.out
          have f5 := frozen_of_row wr (w.heap.size + 1) 5 _ _ HZr.out
          have f6 := frozen_of_row wr (w.heap.size + 1) 6 _ _ HZr.out
          have f7 := frozen_of_row wr (w.heap.size + 1) 7 _ _ HZr.out
          have f8 := frozen_of_row wr (w.heap.size + 1) 8 _ _ HZr.out
          have f9 := frozen_of_row wr (w.heap.size + 1) 9 _ _ HZr.out
          have f10 := frozen_of_row wr (w.heap.size + 1) 10 _ _ HZr.out
          have d0 := cell_of_row wr (w.heap.size + 1) 0 _ _ _ HZr.out
          have d1 := cell_of_row wr (w.heap.size + 1) 1 _ _ _ HZr.out
          have d2 := cell_of_row wr (w.heap.size + 1) 2 _ _ _ HZr.out
          have d3 := cell_of_row wr (w.heap.size + 1) 3 _ _ _ HZr.out
          have d4 := cell_of_row wr (w.heap.size + 1) 4 _ _ _ HZr.out
          have d5 := cell_of_row wr (w.heap.size + 1) 5 _ _ _ HZr.out
          have d6 := cell_of_row wr (w.heap.size + 1) 6 _ _ _ HZr.out
          have d7 := cell_of_row wr (w.heap.size + 1) 7 _ _ _ HZr.out
          have d8 := cell_of_row wr (w.heap.size + 1) 8 _ _ _ HZr.out
          have d9 := cell_of_row wr (w.heap.size + 1) 9 _ _ _ HZr.out
          have d10 := cell_of_row wr (w.heap.size + 1) 10 _ _ _ HZr.out
          simp at d0 d1 d2 d3 d4 d5 d6 d7 d8 d9 d10
          go_wp2
          obtain ⟨e1, e2⟩ := HV.out.out hT
          unfold filled at e1 e2
          refine bodyPost_ret (res_three rfl _ (w.heap.size + 1) rfl y _ _ _ e1) rfl ?_
          obtain ⟨rfl, rfl, rfl, rfl⟩ : qx = y ∧ qn = k ∧ qe = e ∧ qs = u := by have := HX.out; simpa using this
          exact ⟨_, _, _, rfl, e2⟩
      obtain ⟨hlt, rfl⟩ := hgo
      have hl1 : (k : Int) < (t.length : Int) := by omega
      obtain ⟨hrm, hps⟩ := HTv.out.1 rfl
      obtain ⟨r1, r2, r3, r4⟩ := hrm.size
      have hd1 : wr.drew.cell? ⟨tb, tq + k, none⟩ = some (.int .u8 ((t.getD k 0).toNat : Int)) := HK.out.tu.cell (HT.out k hlt) hap
      have hp := sPut_anyO R hT HG.out (t.getD k 0) (HK.out.ls.below (Below.refl _ wr).drew) ((hT u).keep HK.out.raw (fun j _ hj => (Below.refl wr.heap.size wr).drew.block j hj) (Nat.le_refl _)) HK.out.ol (HG.out.w.down 2 (2 * (t.length - k)) (by rw [Nat.add_comm]; exact HGu.out)) (by omega) (by rw [r3]; simp) (by rw [r4]; simp) hrm.nw hrm.mode
      rw [puts_step D y u t k hlt] at hps
      have hwg := put_wg D u (t.getD k 0) hrm
      have hgn : G (2 * (t.length - (k + 1)) + 2) (y.put D u (t.getD k 0)).2.2 := put_bear HG.out y (t.getD k 0) (by rw [show 2 * (t.length - (k + 1)) + 2 + 2 = 2 * (t.length - k) + 2 by omega]; exact HGu.out)
      generalize y.put D u (t.getD k 0) = q at *
      obtain ⟨y', e', u'⟩ := q
      simp only at hp hps hwg hgn
      generalize t.getD k 0 = ch at *
      have HP := hide hp
      have HPs := hide hps
      have HWg := hide hwg
      have HGn := hide hgn
      clear hp hps hwg hgn hrm HTv HGu r1 r2 r3 r4
      obtain ⟨c0, c1, c2, c3, c4, c5, c6, c7, c8, c9, c10⟩ := HK.out.st.cs
      go_upto_region 6 with fail
      go_cut [9] (fun v9 wx => v9 = .int .i64 e' ∧ ∃ (d1 d2 d3 : Option Addr) (d4 d5 d6 : Nat) (w1 : World), Hid (SOut At wr.drew O1 y' u' (.slice d1 y'.out.length d4) (.slice d2 y'.inn.length d5) (.slice d3 y'.back.length d6) w1) ∧ Hid (e' = 0 → w1.ownsRow wr.drew.heap.size 5 1 (.slice d1 y'.out.length d4) y'.out.length (y'.out.map bv)) ∧ wx = filled w1 w.heap.size y' (.slice d1 y'.out.length d4) (.slice d2 y'.inn.length d5) (.slice d3 y'.back.length d6))
      case first =>
        go_region_law (first | (go_simp; go_at_call 38; refine HP.out.mono ?_; rintro _ w1 ⟨o', i', b', rfl, hS, hOw⟩; obtain ⟨d1, d4, rfl, -⟩ := hS.choose_spec.1.so; obtain ⟨d2, d5, rfl, -⟩ := hS.choose_spec.1.si; obtain ⟨d3, d6, rfl, -⟩ := hS.choose_spec.1.sb; have HS1 := hide hS; have HOw := hide hOw; have hst1 := (HK.out.next hT (Below.refl _ wr).drew hS).1; clear hS hOw; obtain ⟨p0, p1, p2, p3, p4, p5, p6, p7, p8, p9, p10⟩ := hst1.cs; have f0 := hst1.soft 0; have f1 := hst1.soft 1; have f2 := hst1.soft 2; have f3 := hst1.soft 3; have f4 := hst1.soft 4; have f5 := hst1.soft 5; have f6 := hst1.soft 6; have f7 := hst1.soft 7; have f8 := hst1.soft 8; have f9 := hst1.soft 9; have f10 := hst1.soft 10; clear hst1) | fail)
        all_goals
          go_wp2
          go_meet
          exact ⟨rfl, d1, d2, d3, d4, d5, d6, w1, HS1, HOw, rfl⟩
      case rest =>
      obtain ⟨rfl, d1, d2, d3, d4, d5, d6, w1, HS1, HOw, hwc⟩ := hcut
      rw [hwc]
      clear hwc hd1 HP c0 c1 c2 c3 c4 c5 c6 c7 c8 c9 c10
      obtain ⟨-, O2, hqv, hown⟩ := HK.out.next hT (Below.refl _ wr).drew HS1.out
      have HV := hide hqv
      have HOn : Hid (e' = 0 → (filled w1 w.heap.size y' (.slice d1 y'.out.length d4) (.slice d2 y'.inn.length d5) (.slice d3 y'.back.length d6)).ownsRow w.heap.size 5 1 (.slice d1 y'.out.length d4) y'.out.length (y'.out.map bv)) := hide (fun e => hown _ _ (HOw.out e))
      clear hqv hown HS1 HOw HK
      generalize filled w1 w.heap.size y' (.slice d1 y'.out.length d4) (.slice d2 y'.inn.length d5) (.slice d3 y'.back.length d6) = w4 at *
      obtain ⟨K, hK⟩ : ∃ K, K = k + 1 := ⟨_, rfl⟩
      have e1 : wrap64 ((k : Int) + 1) = (K : Int) := by unfold wrap64; omega
      have HKk := hide hK
      rw [← hK] at HPs HGn
      clear hK
      by_cases he : e' = 0
      case neg =>
        have hb1 : (e' == 0) = false := by simp [he]
        have HX : Hid (ThV D t (qx, qn, qe, qs) K e' y' u') := hide ⟨fun e => absurd e he, fun _ => ⟨by have := HKk.out; omega, by have := HPs.out; rw [if_neg he] at this; exact this.symm⟩⟩
        clear HPs HWg HOn he
        go_wp2_with fail
        try simp only [e1]
        go_roundw
        case rel => exact ⟨K, e', y', u', _, _, _, _, _, _, O2, rfl, congrArg (Value.int .i64) (by have := HKk.out; omega), by have := HKk.out; omega, hide HV.out.k, HX, HGn⟩
        case measure => simp [intOf]; omega
      subst he
      obtain ⟨hwg, hyl⟩ := HWg.out rfl
      have hps := HPs.out
      rw [if_pos rfl] at hps
      have HPs2 := hide hps
      have HOn2 := hide (HOn.out rfl)
      have HWg2 := hide hwg
      have HYs := hide (hwg.rm hyl).size
      have HYl := hide hyl
      clear HPs HWg HOn hps hwg
      obtain ⟨c0, c1, c2, c3, c4, c5, c6, c7, c8, c9, c10⟩ := HV.out.st.cs
      go_upto_region 9 with fail
      have hK := HKk.out
      have hkK : (k : Int) + 1 = (K : Int) := by omega
      have hq1 : (K : Int) ≤ (t.length : Int) := by omega
      have hq2 : (t.length : Int) ≤ (tc : Int) := by omega
      have hq3 : (K : Int) ≤ (tc : Int) := by omega
      have hq0 : (0 : Int) ≤ (K : Int) := by omega
      simp only [hkK]
      clear hkK hl1 hlt e1 hK
      by_cases hcc : K < tc
      · have hq4 : (K : Int) < (tc : Int) := by omega
        have hq5 : ¬ tc = K := by omega
        have hqu := quiet_any y' d1 d4 (.slice d2 y'.inn.length d5) (.slice d3 y'.back.length d6) (t.drop K) tb (tq + K) (tc - K) w4.drew HYs.out.1 HYl.out (by simp only [List.length_drop, List.length_nil]; omega) (by simp only [List.length_drop, List.length_nil]; omega) (fun j hj => by rw [List.length_drop] at hj; have := HV.out.tu.cell (HT.out (K + j) (by omega)) hap; rw [show (t.drop K).getD j 0 = t.getD (K + j) 0 by rw [List.getD_eq_getElem?_getD, List.getD_eq_getElem?_getD, List.getElem?_drop], Nat.add_assoc]; exact this)
        obtain ⟨n1, n2, n3⟩ := quiet_is y' (t.drop K) HYl.out
        generalize quietV y' (t.drop K) = n at *
        simp only [List.length_drop, List.length_nil] at hqu n1
        have HQu := hide hqu
        have HN3 := hide n3
        clear hqu n3
        go_cut [11] (fun v11 wx => v11 = .int .i64 n ∧ Hid (Below w4.heap.size w4 wx))
        case first =>
          go_region_law (first | (go_simp; go_at_call 57; refine HQu.out.mono ?_; rintro _ w5 ⟨rfl, hB5⟩; have HB5 := hide ((Below.refl w4.heap.size w4).drew.trans hB5); clear hB5) | fail)
          all_goals
            go_wp2
            go_meet
            exact ⟨rfl, HB5⟩
        case rest =>
          obtain ⟨rfl, HB5⟩ := hcut
          obtain ⟨w5, hw5⟩ : ∃ W, W = wc := ⟨_, rfl⟩
          rw [← hw5]
          rw [← hw5] at HB5
          clear hw5 HQu c0 c1 c2 c3 c4 c5 c6 c7 c8 c9 c10
          obtain ⟨M, hM0⟩ : ∃ M, M = K + n := ⟨_, rfl⟩
          have HMn := hide hM0
          have hm1 : (0 : Int) ≤ (M : Int) := by omega
          have hm2 : (M : Int) ≤ (tc : Int) := by omega
          have hm3 : (K : Int) ≤ (M : Int) := by omega
          have hm4 : max (M : Int) 0 = (M : Int) := by omega
          have HW1 : Hid (IntKind.i64.wrap ((K : Int) + (n : Int)) = (M : Int)) := hide (by rw [IntKind.wrap_i64]; omega)
          have HW2 : Hid (wrap64 ((K : Int) + (n : Int)) = (M : Int)) := hide (by unfold wrap64; omega)
          clear hM0
          have hV5 := HV.out.below hT (HB5.out.trans ((Below.refl _ w5).drew.mono HB5.out.size))
          have hO5 := owns_below HOn2.out (HB5.out.trans ((Below.refl _ w5).drew.mono HB5.out.size))
          have hz45 := HB5.out.size
          obtain ⟨L, la, lk, w6, hM⟩ := QV.more hT hV5 hO5 (.slice (some ⟨tb, tq + K, none⟩) (M - K) (tc - K)) ((t.drop K).take n) (by rw [show M - K = n by have := HMn.out; omega]; exact bys_cut (HBy.out.turned hV5.tu (fun k e _ e2 => hap (by cases e; exact e2))) K n (tc - K) (by omega)) (by have := HYs.out.2.1; simp only [List.length_take, List.length_drop, List.length_nil]; omega) HYs.out.2.2.1 HYs.out.2.2.2
          have HM := hide hM
          have HR := hide hM.run
          have c4 := hV5.st.cs.2.2.2.2.1
          have e4 := hM.d4
          have g4 := hM.g4
          have HL := hide hM.eq
          have hw1 := HW1.out
          have hw2 := HW2.out
          clear hV5 hO5 hM HOn2 HB5
          go_upto_region 10 with fail
          go_region_law (first | (refine step_append_run _ (by rfl) _ _ _ _ (by rfl) _ _ (by rfl) (by rfl) _ _ HR.out ?_) | fail)
          all_goals
            have HV6 := hide HM.out.qv
            clear HM HR c4 e4 g4 HV hw1 hw2
            generalize w6.setCell ⟨w.heap.size, 4, none⟩ (.slice la L.length lk) = w7 at *
            obtain ⟨p1, p2⟩ := puts_quiet D u' n y' (t.drop K) K HWg2.out (by simp only [List.length_drop]; omega) n2 HN3.out
            have HX : Hid (ThV D t (qx, qn, qe, qs) M 0 { y' with out := L } u') := hide ⟨fun _ => by
              rw [HL.out, HMn.out]
              refine ⟨p2.rm (by simp only [List.length_append, List.length_take, List.length_drop, List.length_nil]; omega), ?_⟩
              rw [← HPs2.out, p1, List.drop_drop], fun e => absurd rfl e⟩
            have HG2 : Hid (G (2 * (t.length - M) + 2) u') := hide (HG.out.w.down _ (2 * (M - K)) (by rw [show 2 * (t.length - M) + 2 + 2 * (M - K) = 2 * (t.length - K) + 2 by have := HMn.out; omega]; exact HGn.out))
            clear p1 p2 HPs2 HL HGn HWg2
            have hw1 := HW1.out
            have hw2 := HW2.out
            go_wp2_with fail
            try simp only [hw2]
            clear hw1 hw2
            go_roundw
            case rel => exact ⟨M, 0, _, u', _, _, _, _, _, _, O2, rfl, by first | rfl | exact congrArg (Value.int .i64) (by have := HMn.out; omega), by have := HMn.out; omega, hide HV6.out.k, HX, HG2⟩
            case measure => have := HMn.out; have := HKk.out; simp [intOf]; omega
      · obtain rfl : tc = K := by omega
        have hqu := quiet_any y' d1 d4 (.slice d2 y'.inn.length d5) (.slice d3 y'.back.length d6) ([] : List UInt8) tb tq 0 w4.drew HYs.out.1 HYl.out (by simp only [List.length_drop, List.length_nil]; omega) (by simp only [List.length_drop, List.length_nil]; omega) (fun j hj => by simp at hj)
        obtain ⟨n1, n2, n3⟩ := quiet_is y' ([] : List UInt8) HYl.out
        generalize quietV y' ([] : List UInt8) = n at *
        simp only [List.length_drop, List.length_nil] at hqu n1
        have HQu := hide hqu
        have HN3 := hide n3
        clear hqu n3
        go_cut [11] (fun v11 wx => v11 = .int .i64 n ∧ Hid (Below w4.heap.size w4 wx))
        case first =>
          go_region_law (first | (go_simp; go_at_call 57; refine HQu.out.mono ?_; rintro _ w5 ⟨rfl, hB5⟩; have HB5 := hide ((Below.refl w4.heap.size w4).drew.trans hB5); clear hB5) | fail)
          all_goals
            go_wp2
            go_meet
            exact ⟨rfl, HB5⟩
        case rest =>
          obtain ⟨rfl, HB5⟩ := hcut
          obtain ⟨w5, hw5⟩ : ∃ W, W = wc := ⟨_, rfl⟩
          rw [← hw5]
          rw [← hw5] at HB5
          clear hw5 HQu c0 c1 c2 c3 c4 c5 c6 c7 c8 c9 c10
          obtain ⟨M, hM0⟩ : ∃ M, M = tc + n := ⟨_, rfl⟩
          have HMn := hide hM0
          have hm1 : (0 : Int) ≤ (M : Int) := by omega
          have hm2 : (M : Int) ≤ (tc : Int) := by omega
          have hm3 : (tc : Int) ≤ (M : Int) := by omega
          have hm4 : max (M : Int) 0 = (M : Int) := by omega
          have HW1 : Hid (IntKind.i64.wrap ((tc : Int) + (n : Int)) = (M : Int)) := hide (by rw [IntKind.wrap_i64]; omega)
          have HW2 : Hid (wrap64 ((tc : Int) + (n : Int)) = (M : Int)) := hide (by unfold wrap64; omega)
          clear hM0
          have hV5 := HV.out.below hT (HB5.out.trans ((Below.refl _ w5).drew.mono HB5.out.size))
          have hO5 := owns_below HOn2.out (HB5.out.trans ((Below.refl _ w5).drew.mono HB5.out.size))
          have hz45 := HB5.out.size
          obtain ⟨L, la, lk, w6, hM⟩ := QV.more hT hV5 hO5 (.slice (some ⟨tb, tq, none⟩) (M - tc) 0) ([] : List UInt8) (by rw [show M - tc = 0 by have := HMn.out; omega]; exact .inr (.inl ⟨_, _, rfl, rfl⟩)) (by have := HYs.out.2.1; simp only [List.length_take, List.length_drop, List.length_nil]; omega) HYs.out.2.2.1 HYs.out.2.2.2
          have HM := hide hM
          have HR := hide hM.run
          have c4 := hV5.st.cs.2.2.2.2.1
          have e4 := hM.d4
          have g4 := hM.g4
          have HL := hide hM.eq
          have hw1 := HW1.out
          have hw2 := HW2.out
          clear hV5 hO5 hM HOn2 HB5
          go_upto_region 10 with fail
          go_region_law (first | (refine step_append_run _ (by rfl) _ _ _ _ (by rfl) _ _ (by rfl) (by rfl) _ _ HR.out ?_) | fail)
          all_goals
            have HV6 := hide HM.out.qv
            clear HM HR c4 e4 g4 HV hw1 hw2
            generalize w6.setCell ⟨w.heap.size, 4, none⟩ (.slice la L.length lk) = w7 at *
            obtain ⟨p1, p2⟩ := puts_quiet D u' n y' (t.drop tc) tc HWg2.out (by simp only [List.length_drop]; omega) n2 (by have h0 : n = 0 := (by omega); subst h0; simp)
            have HX : Hid (ThV D t (qx, qn, qe, qs) M 0 { y' with out := L } u') := hide ⟨fun _ => by
              rw [HL.out, HMn.out]
              refine ⟨(by have h0 : n = 0 := (by omega); subst h0; simpa using p2 : Wg _).rm (by simp only [List.length_append, List.length_take, List.length_drop, List.length_nil]; omega), ?_⟩
              rw [← HPs2.out, p1, List.drop_drop]
              have h0 : n = 0 := (by omega)
              subst h0
              simp, fun e => absurd rfl e⟩
            have HG2 : Hid (G (2 * (t.length - M) + 2) u') := hide (HG.out.w.down _ (2 * (M - tc)) (by rw [show 2 * (t.length - M) + 2 + 2 * (M - tc) = 2 * (t.length - tc) + 2 by have := HMn.out; omega]; exact HGn.out))
            clear p1 p2 HPs2 HL HGn HWg2
            have hw1 := HW1.out
            have hw2 := HW2.out
            go_wp2_with fail
            try simp only [hw2]
            clear hw1 hw2
            go_roundw
            case rel => exact ⟨M, 0, _, u', _, _, _, _, _, _, O2, rfl, by first | rfl | exact congrArg (Value.int .i64) (by have := HMn.out; omega), by have := HMn.out; omega, hide HV6.out.k, HX, HG2⟩
            case measure => have := HMn.out; have := HKk.out; simp [intOf]; omega
end Go.Proofs.Ytgbkhmiphaefgaa

/- What bufmode.lengths hands out, for every loop body: how long the writes are, the first one first. -/
namespace Go.Proofs.Ytgbkhmiphaefgaa
open Go.RowKit Go.Shelf

attribute [local go_sem] Oper.semAt_some

end Go.Proofs.Ytgbkhmiphaefgaa

/- What bufmode.Writes answers, for every mode, size and text: how long the writes are, in memory of its own. -/
namespace Go.Proofs.Ytgbkhmiphaefgaa
open Go.RowKit Go.Shelf

attribute [local go_sem] Oper.semAt_some

end Go.Proofs.Ytgbkhmiphaefgaa

/- What bufmode's Writes and Reads and the reference's answer, for every input. -/
namespace Go.Proofs.Ytgbkhmiphaefgaa
open Go.RowKit

end Go.Proofs.Ytgbkhmiphaefgaa

/- What bufmode's Reads and the reference's answer; slices of numbers that are the same. -/
namespace Go.Proofs.Ytgbkhmiphaefgaa
open Go.RowKit

end Go.Proofs.Ytgbkhmiphaefgaa

/- The law's Counter as a Raw. -/
namespace Go.Proofs.Ytgbkhmiphaefgaa
open Go.RowKit

end Go.Proofs.Ytgbkhmiphaefgaa

/- StreamFew, as values: how many raw calls there are. -/
namespace Go.Proofs.Ytgbkhmiphaefgaa
open Go.RowKit

end Go.Proofs.Ytgbkhmiphaefgaa

/- BufmodeTrue, BufmodeTaken, as values: what a stream's Counter counts. -/
namespace Go.Proofs.Ytgbkhmiphaefgaa
open Go.RowKit

end Go.Proofs.Ytgbkhmiphaefgaa

/- Lines: Put onto a Counter, as values. -/
namespace Go.Proofs.Ytgbkhmiphaefgaa
open Go.RowKit

def SS.aput {S : Type} (D : RawD S) (x : SS) (s : S) (t : List UInt8) : SS × Nat × Int × S :=
  if x.prefuse true t.length 1048576 ≠ 0 ∨ t.length = 0 then (x, 0, x.prefuse true t.length 1048576, s)
  else if x.noWrite ≠ 0 then (x, 0, x.noWrite, s)
  else if x.mode = 1 then SS.once D { x with dir := 2 } s t else x.through D s t
theorem mark_inn (x : SS) (e : Int) : (x.mark e).inn = x.inn := by
  unfold SS.mark
  split <;> rfl
theorem mark_back (x : SS) (e : Int) : (x.mark e).back = x.back := by
  unfold SS.mark
  split <;> rfl
end Go.Proofs.Ytgbkhmiphaefgaa
