/- FdtableShares answers true for all bytes and numbers, within the reach of a machine's memory: what is duplicated, and what a fork inherits, is one place. -/
import Derived.Test.YtbhlnmekhgfgcaaKM10
import Derived.ProofKit
import Derived.OpenShut
import Derived.ShutString
import Derived.ChangeOld
import Derived.Below
import Derived.SizedLaws
/- FdtableShares, walked. -/
namespace Go.Proofs.Ytbhlnmekhgfgcaa
open Go.RowKit Go.Maps

/-- One file, one description of it, held by so many. -/
def KSh (b : List UInt8) (p h rd : Nat) : KS := ⟨[⟨nmF, .file b⟩], [0], [⟨1, 0, 1, p, h⟩], 2, [], rd, 0⟩
theorem sh_read (b : List UInt8) (p h rd : Nat) (n : Int) (h1 : 1 ≤ n) (h2 : n ≤ 1048576) : (KSh b p h rd).read 1 n = (piece b p n.toNat, 0, KSh b (p + (piece b p n.toNat).length) h (rd + 1)) := by
  have hx : (KSh b p h rd).find 1 = some ⟨1, 0, 1, p, h⟩ := rfl
  rw [read_is hx (by show fbit 1 1 ≠ 0; decide) h1 h2 rfl]
  have e : nxt (KSh b p h rd).plan n = (n, 0) := nxt_nil h1 h2
  rw [e, if_pos rfl]
  rfl
def shd1 : Nat → Int := tset (fun _ => 0) 0 1
def shd2 : Nat → Int := tset shd1 1 1
def shd3 : Nat → Int := tset shd2 60 1
def shm1 : Nat → Bool := tset (fun _ => false) 0 false
def shm2 : Nat → Bool := tset shm1 1 false
def shm3 : Nat → Bool := tset shm2 60 false
theorem sh_s1 (b : List UInt8) : (⟨KS.new [(nmF, b)] [] [], fun _ => 0, fun _ => false⟩ : TS).open nmF 1 = (0, 0, ⟨KSh b 0 1 0, shd1, shm1⟩) := by kernel_rfl
theorem sh_s2 (b : List UInt8) : (⟨KSh b 0 1 0, shd1, shm1⟩ : TS).dup 0 = (1, 0, ⟨KSh b 0 2 0, shd2, shm2⟩) := by kernel_rfl
theorem sh_s3 (b : List UInt8) : (⟨KSh b 0 2 0, shd2, shm2⟩ : TS).dupTo 0 60 = (0, ⟨KSh b 0 3 0, shd3, shm3⟩) := by kernel_rfl
def shF (b : List UInt8) : Nat → Int := ((⟨KSh b 0 3 0, shd3, shm3⟩ : TS).fork 64).2
theorem sh_s4 (b : List UInt8) : (⟨KSh b 0 3 0, shd3, shm3⟩ : TS).fork 64 = (KSh b 0 6 0, shF b) := by kernel_rfl
theorem shF_is (b : List UInt8) : shF b 60 = 1 ∧ shF b 1 = 1 := by constructor <;> kernel_rfl
theorem shd3_is : shd3 0 = 1 ∧ shd3 1 = 1 := by constructor <;> kernel_rfl
set_option maxRecDepth 100000 in
set_option maxHeartbeats 2000000 in
theorem tnew_nil (w : World) : Calls Try.prog 8 #[.pointer none] w fun e w' => e = .returned (.pointer (some ⟨w.heap.size, 0, none⟩)) ∧ Below w.heap.size w w' := by
  have HB := hide (recv_below w (.cells (.pointer none :: zslots 64).toArray 83 (0, 0)))
  go_enter Try.func8, Try.ntmps8
  go_wp2_with fail
  go_ret
  exact ⟨rfl, HB.out⟩
/-- Which table and descriptor a round reads. -/
theorem sh_reads {B : Nat} {P : Nat → Prop} {w : World} {kb t c : Nat} {b : List UInt8} {p rd : Nat} (h : TM B P w kb (KSh b p 6 rd) [⟨t, shd3, shm3⟩, ⟨c, shF b, fun _ => false⟩]) (n : Int) (h1 : 1 ≤ n) (h2 : n ≤ 1048576) (hr : rd < 9223372036854775807) (tb fd : Nat) (hq : (tb = t ∧ (fd = 0 ∨ fd = 1)) ∨ (tb = c ∧ (fd = 60 ∨ fd = 1))) :
    Calls Try.prog 15 #[.pointer (some ⟨tb, 0, none⟩), .int .i64 (fd : Int), .int .i64 n] w fun e w' => ∃ v, e = .returned (.tuple #[v, .int .i64 0]) ∧ w'.ownsRow w.heap.size 5 1 v (piece b p n.toNat).length ((piece b p n.toNat).map bv) ∧ TM B P w' kb (KSh b (p + (piece b p n.toNat).length) 6 (rd + 1)) [⟨t, shd3, shm3⟩, ⟨c, shF b, fun _ => false⟩] ∧ Below B w w' ∧ Held P w w' := by
  have e := sh_read b p 6 rd n h1 h2
  rcases hq with ⟨rfl, rfl | rfl⟩ | ⟨rfl, rfl | rfl⟩
  · exact TM.read (L1 := []) (L2 := [⟨c, shF b, fun _ => false⟩]) h 0 n (by decide) (by show shd3 0 ≠ 0; rw [shd3_is.1]; decide) hr (piece b p n.toNat, 0, KSh b (p + (piece b p n.toNat).length) 6 (rd + 1)) (by show (KSh b p 6 rd).read (shd3 0) n = _; rw [shd3_is.1]; exact e)
  · exact TM.read (L1 := []) (L2 := [⟨c, shF b, fun _ => false⟩]) h 1 n (by decide) (by show shd3 1 ≠ 0; rw [shd3_is.2]; decide) hr (piece b p n.toNat, 0, KSh b (p + (piece b p n.toNat).length) 6 (rd + 1)) (by show (KSh b p 6 rd).read (shd3 1) n = _; rw [shd3_is.2]; exact e)
  · exact TM.read (L1 := [⟨t, shd3, shm3⟩]) (L2 := []) h 60 n (by decide) (by show shF b 60 ≠ 0; rw [(shF_is b).1]; decide) hr (piece b p n.toNat, 0, KSh b (p + (piece b p n.toNat).length) 6 (rd + 1)) (by show (KSh b p 6 rd).read (shF b 60) n = _; rw [(shF_is b).1]; exact e)
  · exact TM.read (L1 := [⟨t, shd3, shm3⟩]) (L2 := []) h 1 n (by decide) (by show shF b 1 ≠ 0; rw [(shF_is b).2]; decide) hr (piece b p n.toNat, 0, KSh b (p + (piece b p n.toNat).length) 6 (rd + 1)) (by show (KSh b p 6 rd).read (shF b 1) n = _; rw [(shF_is b).2]; exact e)
set_option maxRecDepth 100000 in
set_option maxHeartbeats 8000000 in
theorem fdtableShares_any (a1 a2 : Option Addr) (n1 n2 c1 c2 : Nat) (b : List UInt8) (cuts : List Int) (w : World) (h1 : Bys w (.slice a1 n1 c1) b) (m1 : b.length ≤ c1) (h2 : Fa_Ints w (.slice a2 n2 c2) cuts) (z1 : b.length ≤ 140737488351232) (z2 : cuts.length ≤ 140737488351232) :
    Calls Try.prog 4 #[.slice a1 n1 c1, .slice a2 n2 c2] w fun e w' => e = .returned (.bool true) ∧ Below w.heap.size w w' := by
  obtain rfl := Kp_bys_len h1
  obtain ⟨a2', c2', he2, hcu⟩ := h2
  obtain ⟨rfl, rfl, rfl⟩ : a2 = a2' ∧ n2 = cuts.length ∧ c2 = c2' := by simpa using he2
  have HCu := hide hcu
  have H1 := hide h1
  clear hcu he2
  have HAl := hide (talive_any w)
  clear h1
  go_enter Try.func4, Try.ntmps4
  go_wp2_with fail
  refine HAl.out.mono ?_
  rintro e w1 ⟨rfl, hB1⟩
  have hsz1 := hB1.size
  have hBn := recv_below w1 (Obj.cells #[.string ⟨#[102]⟩, .slice a1 b.length c1] 30)
  obtain ⟨p0, p1⟩ := pair_cells w1 (.string ⟨#[102]⟩) (.slice a1 b.length c1) 30
  have hN : Nms (w1.alloc (Obj.cells #[.string ⟨#[102]⟩, .slice a1 b.length c1] 30)) (.slice (some ⟨w1.heap.size, 0, none⟩) 1 1) [(nmF, b)] := one_named p0 p1 ((H1.out.below hB1).below hBn) m1 (by decide)
  have hF0 : Flts (w1.alloc (Obj.cells #[.string ⟨#[102]⟩, .slice a1 b.length c1] 30)) (.slice none 0 0) [] := .inl ⟨rfl, rfl⟩
  have hBw : Below w.heap.size w (w1.alloc (Obj.cells #[.string ⟨#[102]⟩, .slice a1 b.length c1] 30)) := hB1.trans (hBn.mono hsz1)
  by_cases hb : 1048576 < b.length
  · have HN := hide (knew_bad (some ⟨w1.heap.size, 0, none⟩) none none 1 0 0 [(nmF, b)] [] [] _ hN (no_typed _) hF0 (by decide) (by simp) (by decide) (by rw [pl_check, if_pos hb]; decide))
    rw [pl_check, if_pos hb] at HN
    have hb' : (1048576 : Int) < (b.length : Int) := by omega
    have HB := hide hBw
    clear hN hF0 p0 p1 hBn hBw
    go_wp2_with fail
    refine HN.out.mono ?_
    rintro e w2 ⟨rfl, hB2⟩
    have HB2 := hide (HB.out.trans (hB2.mono HB.out.size))
    clear hB2
    go_wp2_with fail
    refine (tnew_nil w2).mono ?_
    rintro e w3 ⟨rfl, hB3⟩
    have HB3 := hide (HB2.out.trans (hB3.mono HB2.out.size))
    clear hB3
    go_wp2_with (first | (go_at_call 9; refine (tnum_is _ _).mono ?_; rintro _ _ ⟨rfl, rfl⟩) | fail)
    go_ret
    exact ⟨rfl, HB3.out⟩
  · have HN := hide (knew_good (some ⟨w1.heap.size, 0, none⟩) none none 1 0 0 [(nmF, b)] [] [] _ hN (no_typed _) hF0 (by decide) (by simp) (by decide) (by rw [pl_check, if_neg hb]))
    have HB := hide hBw
    clear hN hF0 p0 p1 hBn hBw
    go_wp2_with fail
    refine HN.out.mono ?_
    rintro e w2 ⟨kb, rfl, hK, hB2⟩
    have HB2 := hide (HB.out.trans (hB2.mono HB.out.size))
    have HNw := hide ((TM.make (B := w.heap.size) hK (fun k e => Nat.le_trans HB.out.size e)).new)
    clear hK hB2
    go_wp2_with fail
    refine HNw.out.mono ?_
    rintro e w3 ⟨t, rfl, hM, hB3, -⟩
    have HB3 := hide (HB2.out.trans hB3)
    have HO := hide (TM.open (L1 := []) (L2 := []) hM nmF 1 (by decide) (by show (1 : Nat) < 9223372036854775807; decide) _ (sh_s1 b))
    clear hM hB3
    go_wp2_with (first | (go_at_call 9; refine (tnum_is _ _).mono ?_; rintro _ _ ⟨rfl, rfl⟩) | fail)
    refine HO.out.mono ?_
    rintro e w4 ⟨rfl, hM, hB4, -⟩
    have HB4 := hide (HB3.out.trans hB4)
    have HD := hide (TM.dup (L1 := []) (L2 := []) hM 0 _ (sh_s2 b))
    clear hM hB4
    go_wp2_with fail
    refine HD.out.mono ?_
    rintro e w5 ⟨rfl, hM, hB5, -⟩
    have HB5 := hide (HB4.out.trans hB5)
    have HD2 := hide (TM.dupTo (L1 := []) (L2 := []) hM 0 60 _ (sh_s3 b))
    clear hM hB5
    go_wp2_with fail
    refine HD2.out.mono ?_
    rintro e w6 ⟨rfl, hM, hB6, -⟩
    have HB6 := hide (HB5.out.trans hB6)
    have HFk := hide (TM.fork (L1 := []) (L2 := []) hM _ (sh_s4 b))
    clear hM hB6
    go_wp2_with fail
    refine HFk.out.mono ?_
    rintro e w7 ⟨c, rfl, hM, hB7, -⟩
    have HB7 := hide (HB6.out.trans hB7)
    have HM7 : Hid (TM w.heap.size (fun j => (Value.slice none 0 0).ownBlock = some j) w7 kb (KSh b 0 6 0) [⟨t, shd3, shm3⟩, ⟨c, shF b, fun _ => false⟩]) := hide (hM.claim (Below.refl _ _) _ (fun k e => by cases e))
    clear hM hB7
    go_wp2_with (first | (go_at_call 9; refine (tnum_is _ _).mono ?_; rintro _ _ ⟨rfl, rfl⟩) | fail)
    go_loopw [14, 15] (fun gv i wr => ∃ (k p : Nat) (G : List UInt8), k ≤ cuts.length ∧ i = .int .i64 k ∧ Hid (wr.ownsRow w.heap.size 5 1 gv G.length (G.map bv)) ∧ Hid (TM w.heap.size (fun j => gv.ownBlock = some j) wr kb (KSh b p 6 k) [⟨t, shd3, shm3⟩, ⟨c, shF b, fun _ => false⟩]) ∧ Hid (G = b.take p) ∧ p ≤ b.length ∧ (k ≤ p ∨ p = b.length) ∧ Below w.heap.size w wr) (fun _ i _ => cuts.length - (intOf i).toNat)
    case atStart => exact ⟨0, 0, [], Nat.zero_le _, rfl, hide (World.ownsRow_nil _ _ _ _), HM7, hide rfl, Nat.zero_le _, .inl (Nat.le_refl _), HB7.out⟩
    case round =>
      obtain ⟨k, p, G, hk, rfl, HO, HM, HG, hp, hkp, hB6⟩ := hrel
      clear HM7 HB7
      obtain ⟨ga, gc, rfl⟩ := owns_slice HO.out
      by_cases hlt : k < cuts.length
      · obtain ⟨cb, off, rfl, hce⟩ := HCu.out (by omega)
        have hc0 := hce k hlt
        have hcl := World.block_lt_of_cell? w _ hc0
        have hc1 := (hB6.cell (p := ⟨cb, off + k, none⟩) hcl).trans hc0
        have hk1 : (0 : Int) ≤ (k : Int) := by omega
        have hk2 : (k : Int) < (cuts.length : Int) := by omega
        generalize cuts.getD k 0 = y at *
        obtain ⟨m, hm, hm9⟩ := krem_twice y 7 (by decide) (by decide)
        have HR := hide (sh_reads HM.out (1 + (m : Int)) (by omega) (by omega) (show k < 9223372036854775807 by omega))
        have hpl := piece_len b p (1 + (m : Int)).toNat
        have HTk := hide (take_piece (b := b) (n := (1 + (m : Int)).toNat) hp)
        have htn : (1 + (m : Int)).toNat = 1 + m := by omega
        rw [htn] at hpl
        have hpl2 : (piece b p (1 + (m : Int)).toNat).length = min (1 + m) (b.length - p) := by rw [htn]; exact hpl
        have HPl := hide hpl2
        clear hpl htn hc0 hce hpl2
        generalize piece b p (1 + (m : Int)).toNat = Y at *
        have HKp2 := hide hkp
        have HB6 := hide hB6
        clear hkp hB6
        have hk4 : (k : Int).tmod 4 = ((k % 4 : Nat) : Int) := by rw [Int.tmod_eq_emod_of_nonneg hk1]; omega
        have HAll : Hid (∀ tb fd, (tb = t ∧ (fd = 0 ∨ fd = 1)) ∨ (tb = c ∧ (fd = 60 ∨ fd = 1)) → Calls Try.prog 15 #[.pointer (some ⟨tb, 0, none⟩), .int .i64 ((fd : Nat) : Int), .int .i64 (1 + (m : Int))] wr fun e w' => ∃ ya yc, e = .returned (.tuple #[.slice ya Y.length yc, .int .i64 0]) ∧ ∃ s' w7, (Builtin.append_ #[28, 28] 28 #[.slice ga G.length gc, .slice ya Y.length yc]).run Try.prog w' = .ok s' w7 ∧ Hid (w7.ownsRow w.heap.size 5 1 s' (G ++ Y).length ((G ++ Y).map bv)) ∧ Hid (TM w.heap.size (fun j => s'.ownBlock = some j) w7 kb (KSh b (p + Y.length) 6 (k + 1)) [⟨t, shd3, shm3⟩, ⟨c, shF b, fun _ => false⟩]) ∧ Below w.heap.size w w7) := hide (fun tb fd hq => by
          refine (HR.out tb fd hq).mono ?_
          rintro e w6 ⟨v, rfl, hO6, hM6, hB6, hH6⟩
          obtain ⟨ya, yc, rfl⟩ := owns_slice hO6
          have hO' := owns_keep HO.out (fun j hj => hH6 j hj)
          have hBw := HB6.out.trans hB6
          obtain ⟨s', w7, hrun, HO7, hg7, hb7⟩ := run_append_bytes w6 28 w.heap.size _ (.slice ya Y.length yc) G Y hO' (Bys.of_owns hO6) (by have := HG.out; have := HPl.out; rw [HG.out, List.length_take]; omega) hBw.size
          refine ⟨ya, yc, rfl, s', w7, hrun, HO7, hide ?_, hBw.grown hg7 hBw.size (fun j e => (hO'.lt j e).1)⟩
          have hT7 : Turned (fun j => (Value.slice ga G.length gc).ownBlock = some j) w6 w7 := (Turned.refl _ w6).grown hg7 (fun j e => .inl e)
          exact hM6.take hT7 (fun k e => .inl e) _ (fun j e => by
            rcases hb7 with h | h
            · exact .inl (h ▸ e)
            · have := (HO7.out.lt j e).2
              rw [h] at e
              cases e
              exact .inr ⟨Nat.le_refl _, this⟩))
        have HG7 : Hid (G ++ Y = b.take (p + Y.length)) := hide (by rw [HG.out]; exact HTk.out)
        clear HR
        rcases (show k % 4 = 0 ∨ k % 4 = 1 ∨ k % 4 = 2 ∨ k % 4 = 3 by omega) with h4 | h4 | h4 | h4
        · have HR := hide (HAll.out t 0 (.inl ⟨rfl, .inl rfl⟩))
          rw [h4] at hk4
          clear HAll h4
          go_wp2_with fail
          refine HR.out.mono ?_
          rintro e w6 ⟨ya, yc, rfl, s', w7, hrun, HO7, HM7, hB7⟩
          have HRun := hide hrun
          clear hrun
          go_wp2_with (first | (at_builtin; refine Lib.wpList_append_run _ rfl _ _ _ _ rfl _ _ rfl rfl _ _ HRun.out ?_) | fail)
          go_roundw
          case rel => exact ⟨k + 1, p + Y.length, G ++ Y, by omega, by go_num, HO7, HM7, HG7, by have := HPl.out; omega, by have := HPl.out; have := HKp2.out; omega, hB7⟩
          case measure => simp [intOf]; omega
        · have HR := hide (HAll.out t 1 (.inl ⟨rfl, .inr rfl⟩))
          rw [h4] at hk4
          clear HAll h4
          go_wp2_with fail
          refine HR.out.mono ?_
          rintro e w6 ⟨ya, yc, rfl, s', w7, hrun, HO7, HM7, hB7⟩
          have HRun := hide hrun
          clear hrun
          go_wp2_with (first | (at_builtin; refine Lib.wpList_append_run _ rfl _ _ _ _ rfl _ _ rfl rfl _ _ HRun.out ?_) | fail)
          go_roundw
          case rel => exact ⟨k + 1, p + Y.length, G ++ Y, by omega, by go_num, HO7, HM7, HG7, by have := HPl.out; omega, by have := HPl.out; have := HKp2.out; omega, hB7⟩
          case measure => simp [intOf]; omega
        · have HR := hide (HAll.out c 60 (.inr ⟨rfl, .inl rfl⟩))
          rw [h4] at hk4
          clear HAll h4
          go_wp2_with fail
          refine HR.out.mono ?_
          rintro e w6 ⟨ya, yc, rfl, s', w7, hrun, HO7, HM7, hB7⟩
          have HRun := hide hrun
          clear hrun
          go_wp2_with (first | (at_builtin; refine Lib.wpList_append_run _ rfl _ _ _ _ rfl _ _ rfl rfl _ _ HRun.out ?_) | fail)
          go_roundw
          case rel => exact ⟨k + 1, p + Y.length, G ++ Y, by omega, by go_num, HO7, HM7, HG7, by have := HPl.out; omega, by have := HPl.out; have := HKp2.out; omega, hB7⟩
          case measure => simp [intOf]; omega
        · have HR := hide (HAll.out c 1 (.inr ⟨rfl, .inr rfl⟩))
          rw [h4] at hk4
          clear HAll h4
          go_wp2_with fail
          refine HR.out.mono ?_
          rintro e w6 ⟨ya, yc, rfl, s', w7, hrun, HO7, HM7, hB7⟩
          have HRun := hide hrun
          clear hrun
          go_wp2_with (first | (at_builtin; refine Lib.wpList_append_run _ rfl _ _ _ _ rfl _ _ rfl rfl _ _ HRun.out ?_) | fail)
          go_roundw
          case rel => exact ⟨k + 1, p + Y.length, G ++ Y, by omega, by go_num, HO7, HM7, HG7, by have := HPl.out; omega, by have := HPl.out; have := HKp2.out; omega, hB7⟩
          case measure => simp [intOf]; omega
      · have HEnd : Hid (G.length = p ∧ (G.length : Int) ≤ (b.length : Int) ∧ ((cuts.length : Int) ≤ (b.length : Int) ∨ (¬ (cuts.length : Int) ≤ (b.length : Int) ∧ (G.length : Int) = (b.length : Int)))) := hide (by
          have : G.length = p := by rw [HG.out, List.length_take]; omega
          refine ⟨this, by omega, by omega⟩)
        have d1 := HEnd.out.2.1
        have hgl : G.length ≤ b.length := by omega
        have hgc : (G.length : Int) ≤ (c1 : Int) := by omega
        have HSm := hide (same_any (.slice ga G.length gc) (.slice a1 G.length c1) G wr (Bys.of_owns HO.out) (by
          have := bys_front (H1.out.below hB6) G.length hgl
          rw [HEnd.out.1] at this
          rw [← HG.out] at this
          rw [HEnd.out.1]
          exact this) (by unfold maxLen; omega))
        clear hkp
        obtain rfl : k = cuts.length := by omega
        have HB6 := hide hB6
        rcases HEnd.out.2.2 with d2 | ⟨d2, d3⟩
        · clear HEnd HM HCu HG HO H1 hk hlt hp hgl hB6
          go_wp2_with (first | (go_at_call 16; refine HSm.out.mono ?_; rintro _ w9 ⟨rfl, hB9⟩) | fail)
          go_ret
          exact ⟨rfl, HB6.out.trans (hB9.mono HB6.out.size)⟩
        · have d4 : ((G.length : Int) == (b.length : Int)) = true := by simp [d3]
          clear HEnd HM HCu HG HO H1 hk hlt hp hgl hB6 d3
          go_wp2_with (first | (go_at_call 16; refine HSm.out.mono ?_; rintro _ w9 ⟨rfl, hB9⟩) | fail)
          go_ret
          exact ⟨rfl, HB6.out.trans (hB9.mono HB6.out.size)⟩
end Go.Proofs.Ytbhlnmekhgfgcaa

/- FdtableShares answers true for all bytes and numbers, within the reach of a machine's memory: what is duplicated, and what a fork inherits, is one place. -/
namespace Go.Proofs.Ytbhlnmekhgfgcaa.fdtableShares
open Go.ChangeShapes Go.WideShapes Go.ChangeAt Go.RowKit
open Go.ChangeMaps (open_string shut_string)
set_option linter.unusedVariables false

theorem own : ownKnob Try.prog.godebug = none := by kernel_rfl
theorem laidOut : laidOutB Try.prog = true := by kernel_rfl

set_option maxRecDepth 100000 in
theorem lifted (os : Os) (started : os.Started) (H : Type) (enc : TypeId × Value → H) :
    ReturnsInHanded {} Try.checked os 4 .any (Rows.fdtableSharesSpec.pre6 enc Try.prog Try.f4 Rows.fdtableSharesRow.domain false) (Rows.fdtableSharesSpec.post enc Try.prog Try.f4 false true false false) := by
  refine returnsInHanded_of_change_sized (C := Try.checked) own started (by kernel_rfl) Try.func4
    (ChangeSpec.witness6 (enc := enc) (C := Try.checked) false ⟨#[], #[.slice none 0 0, .slice none 0 0], []⟩ 8 (by kernel_rfl) (by kernel_rfl) (by kernel_rfl) (by kernel_rfl)) ?_
  intro W base args ds gs before hval0 hW hcnd0 hsz0 _
  have hsz : (DataW.weightsEach Try.prog (Try.f4.params.toList ++ Rows.fdtableSharesSpec.plain.varTypes Try.prog) (ds ++ gs)).all (· ≤ reachBytes) = true := hsz0
  clear hsz0
  have hval : ∀ (j : Nat) t v, Try.f4.params[j]? = some t → args[j]? = some v → Value.okWide Try.prog W .any base t v := hval0
  have hW' := hW
  obtain ⟨p, q, hA0, hV, rfl, hfz, hnd⟩ := hW
  have hA : DataW.TrodAll enc Try.prog W 0 (fun _ => true) true Try.f4.params.toList args.toList ds p := hA0
  rw [Try.params4] at hA hval hsz
  obtain ⟨v0, vs0, d0, ds0, p0, q0, hargs, rfl, rfl, h0, r0⟩ := trodAll_cons hA
  obtain ⟨v1, vs1, d1, ds1, p1, q1, rfl, rfl, rfl, h1, r1⟩ := trodAll_cons r0
  obtain ⟨rfl, rfl, rfl⟩ := trodAll_nil r1
  obtain rfl : args = #[v0, v1] := by cases args; simp_all
  obtain ⟨rfl, rfl⟩ := trodVars_none hV
  obtain ⟨c0, len0, cap0, rfl⟩ := okWide_slice Try.underlying28 (hval 0 28 v0 rfl rfl)
  have k0 := h0
  have lt0 : ∀ x ∈ p0, x.block < W.heap.size := by obtain ⟨m, hm⟩ := k0; exact DataW.trod_lt m _ _ _ hm
  obtain ⟨fuel0, hf0⟩ := h0
  obtain ⟨l0, y0, m0, e0⟩ := bytes_arg2 Try.underlying28 Try.underlying5 (by kernel_rfl) hf0
  have z0 : l0.length ≤ 140737488351232 := by
    rcases e0 with ⟨_, rfl⟩ | ⟨elems, spare, rfl, hll⟩
    · simp
    · have := sized_slice hsz (j := 0) (t := 28) (e := 5) rfl rfl Try.underlying28
      rw [show Try.prog.bytesOf 5 = 1 by kernel_rfl] at this; simp only [reachBytes] at this; omega
  obtain ⟨c1, len1, cap1, rfl⟩ := okWide_slice Try.underlying22 (hval 1 22 v1 rfl rfl)
  have k1 := h1
  have lt1 : ∀ x ∈ p1, x.block < W.heap.size := by obtain ⟨m, hm⟩ := k1; exact DataW.trod_lt m _ _ _ hm
  obtain ⟨fuel1, hf1⟩ := h1
  obtain ⟨l1, y1, e1⟩ := ints_arg Try.underlying22 Try.underlying3 (by kernel_rfl) hf1
  have z1 : l1.length * 8 ≤ 140737488351232 := by
    rcases e1 with ⟨_, rfl⟩ | ⟨elems, spare, rfl, hll⟩
    · simp
    · have := sized_slice hsz (j := 1) (t := 22) (e := 3) rfl rfl Try.underlying22
      rw [show Try.prog.bytesOf 3 = 8 by kernel_rfl] at this; simp only [reachBytes] at this; omega
  clear hA0
  refine (fdtableShares_any _ _ _ _ _ _ l0 l1 W y0 m0 y1 z0 (by omega)).mono fun e W' ⟨he, bel⟩ => ?_
  subst he
  exact ⟨_, rfl, _, _, _, [], _, [], hW', trodAll_mk1 (shut_bool Try.underlying4 _), (trodAll_cons_mk (Below.trod laidOut (by kernel_rfl) (of_decide_eq_true (by kernel_rfl)) k0 bel lt0) (trodAll_cons_mk (Below.trod laidOut (by kernel_rfl) (of_decide_eq_true (by kernel_rfl)) k1 bel lt1) trodAll_mk0)), rfl, bel.frame _, fun h => by cases h⟩

theorem over : Rows.fdtableSharesRow.holds Try.pinned (OpenSpec.ofChange Rows.fdtableSharesSpec) :=
  OpenClaim.holds_of_wide 4 Try.f4 rfl rfl rfl rfl rfl rfl rfl ⟨rfl, rfl, rfl, rfl, rfl⟩ rfl rfl rfl rfl rfl (by kernel_rfl) Try.func4 (by kernel_rfl)
    (of_decide_eq_true (by kernel_rfl)) (by unfold Func.isWrapper; first | (rw [if_pos (by decide +kernel)]; kernel_rfl) | (rw [if_neg (by decide +kernel)]; exact ⟨rfl, rfl⟩))
    (fun os started H enc _ => lifted os started H enc)
end Go.Proofs.Ytbhlnmekhgfgcaa.fdtableShares
namespace Go.Proofs.Ytbhlnmekhgfgcaa
theorem fdtableShares_holds : Rows.FdtableSharesSaid := fdtableShares.over
#print axioms fdtableShares_holds
end Go.Proofs.Ytbhlnmekhgfgcaa
