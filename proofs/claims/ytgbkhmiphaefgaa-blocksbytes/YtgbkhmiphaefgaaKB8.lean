/- What the proof stands on, part 8: the contracts of the program's calls that it reaches. -/
import Derived.Test.YtgbkhmiphaefgaaKB7
import Derived.KernelRfl
/- Blocks: the law's num, alive. -/
namespace Go.Proofs.Ytgbkhmiphaefgaa
open Go.RowKit

theorem num16 (e : Int) (w : World) : Calls Try.prog 8 #[.int .i64 e] w fun r w' => r = .returned (.int .i64 e) ∧ w = w' := by
  go_enter Try.func8, Try.ntmps8
  go_wp2
  go_ret
  exact ⟨rfl, rfl⟩
def hello : List UInt8 := [104, 101, 108, 108, 111]
def qhX : SS := ⟨true, false, 3, 4, [], [], [], 1, true, false, false⟩
theorem qh_a : (xR 3 4).bread rdRm ⟨hello, hello.length, 0⟩ 2 3 = (qhX, [104, 101, 108, 108, 111], 2, 111, ⟨hello, hello.length, 5⟩) := by kernel_rfl
theorem by_big : bytesV 1099511627776 1099511627776 = (0, 4) := by kernel_rfl
set_option maxRecDepth 100000 in
set_option maxHeartbeats 8000000 in
theorem alive16 (w : World) : Calls Try.prog 9 #[] w fun e w' => e = .returned (.bool true) ∧ Below w.heap.size w w' := by
  have cl := conv_lit15 w #[.int .u8 104, .int .u8 101, .int .u8 108, .int .u8 108, .int .u8 111] 5 5 rfl
  have hb3 := lit_bys15 w hello #[.int .u8 104, .int .u8 101, .int .u8 108, .int .u8 108, .int .u8 111] 5 (5, 6) rfl rfl
  have hBl := (Below.refl _ w).alloc (Nat.le_refl _) (Obj.cells #[.int .u8 104, .int .u8 101, .int .u8 108, .int .u8 108, .int .u8 111] 5 (5, 6))
  have HN1 := hide (newReader_good _ hello _ hb3 (by decide))
  have HBl := hide hBl
  have hN := fun W => sNew_any moR 3 4 W
  rw [new_R, if_pos (by decide), if_pos (by decide)] at hN
  simp only at hN
  unfold mv at hN
  have HN := hide hN
  have hY := fun W => bbytes_any 1099511627776 1099511627776 W
  rw [by_big] at hY
  simp only at hY
  have HY := hide hY
  clear hN hb3 hBl hY
  go_enter Try.func9, Try.ntmps9
  go_wp2_with fail
  generalize w.alloc (Obj.cells #[.int .u8 104, .int .u8 101, .int .u8 108, .int .u8 108, .int .u8 111] 5 (5, 6)) = w0 at *
  refine HN1.out.mono ?_
  rintro _ w1 ⟨g, rfl, hM, hB⟩
  have HM := hide hM
  have HB := hide (HBl.out.trans (hB.mono HBl.out.size))
  have hz0 := HBl.out.size
  clear hM hB HN1 cl
  go_wp2_with fail
  refine (HN.out _).mono ?_
  rintro _ w2 ⟨rfl, hB2⟩
  have HM2 := hide (HM.out.below hB2)
  have HB2 := hide (HB.out.trans (hB2.mono HB.out.size))
  clear hB2 HM HB
  have HS2 := hide (StAt.new w2 (xR 3 4) (.slice none 0 0) (.slice none 0 0) (.slice none 0 0))
  have HB3 := hide (recv_below w2 (Obj.cells #[.bool (xR 3 4).rd, .bool (xR 3 4).wt, .int .i64 (xR 3 4).mode, .int .i64 (xR 3 4).size, .slice none 0 0, .slice none 0 0, .slice none 0 0, .int .i64 (xR 3 4).dir, .bool (xR 3 4).fin, .bool (xR 3 4).bad, .bool (xR 3 4).closed] 35))
  have HLV : Hid (LV (fun w O S => MemAt w O g S) (w2.alloc (Obj.cells #[.bool (xR 3 4).rd, .bool (xR 3 4).wt, .int .i64 (xR 3 4).mode, .int .i64 (xR 3 4).size, .slice none 0 0, .slice none 0 0, .slice none 0 0, .int .i64 (xR 3 4).dir, .bool (xR 3 4).fin, .bool (xR 3 4).bad, .bool (xR 3 4).closed] 35)) w.heap.size w2.heap.size (fun k => w0.heap.size ≤ k ∧ k < w2.heap.size) (xR 3 4) ⟨hello, hello.length, 0⟩ (.slice none (xR 3 4).out.length 0) (.slice none (xR 3 4).inn.length 0) (.slice none (xR 3 4).back.length 0)) := hide
    ⟨HS2.out, SIn.nils0 rfl rfl rfl, HM2.out.trim.below HB3.out, fun j e => Nat.lt_of_lt_of_le e.2 HB3.out.size, fun j e => by have := e.1; omega, fun e => by omega, HB2.out.size⟩
  have HTT : Hid (Turned (fun k => w.heap.size ≤ k) w (w2.alloc (Obj.cells #[.bool (xR 3 4).rd, .bool (xR 3 4).wt, .int .i64 (xR 3 4).mode, .int .i64 (xR 3 4).size, .slice none 0 0, .slice none 0 0, .slice none 0 0, .int .i64 (xR 3 4).dir, .bool (xR 3 4).fin, .bool (xR 3 4).bad, .bool (xR 3 4).closed] 35))) := hide ((Turned.of_below HB2.out).trans (Turned.of_below (S := fun k => w.heap.size ≤ k) HB3.out) (fun _ _ e => e))
  have hp := bread_any (rdr_raw g) (fun s => gmem_o g s) (bears_true rdRm) _ _ _ _ _ _ 2 3 HLV.out.ls HLV.out.raw HLV.out.ol trivial (by decide) (by decide) (by decide)
  rw [qh_a] at hp
  simp only at hp
  have HP := hide hp
  clear hp
  go_wp2_with (first | (go_at_call 8; refine (num16 _ _).mono ?_; rintro _ _ ⟨rfl, rfl⟩) | fail)
  generalize w2.alloc (Obj.cells #[.bool (xR 3 4).rd, .bool (xR 3 4).wt, .int .i64 (xR 3 4).mode, .int .i64 (xR 3 4).size, .slice none 0 0, .slice none 0 0, .slice none 0 0, .int .i64 (xR 3 4).dir, .bool (xR 3 4).fin, .bool (xR 3 4).bad, .bool (xR 3 4).closed] 35) = w3 at *
  have HSZ := hide HTT.out.size
  clear HS2 HB3 HM2 HN
  generalize w2.heap.size = gv at *
  refine HP.out.mono ?_
  rintro _ w10 ⟨o', i', b', uu, rfl, hS⟩
  obtain ⟨e1, e4, rfl, -⟩ := hS.choose_spec.1.1.so
  obtain ⟨e2, e5, rfl, -⟩ := hS.choose_spec.1.1.si
  obtain ⟨e3, e6, rfl, -⟩ := hS.choose_spec.1.1.sb
  obtain ⟨r1, r2, hu0⟩ := owns_slice hS.choose_spec.2.1
  have hu1 : uu = .slice r1 5 r2 := hu0
  subst hu1
  have ht : Turned _ w3 w10 := hS.choose_spec.1.2.2.2.2
  have HT10 : Hid (Turned (fun k => w.heap.size ≤ k) w w10) := hide (HTT.out.trans (ht.mono fun k e => HLV.out.ob k e) (fun _ _ e => e))
  have HB11 := recv_below w10 (Obj.cells #[.bool qhX.rd, .bool qhX.wt, .int .i64 qhX.mode, .int .i64 qhX.size, .slice e1 qhX.out.length e4, .slice e2 qhX.inn.length e5, .slice e3 qhX.back.length e6, .int .i64 qhX.dir, .bool qhX.fin, .bool qhX.bad, .bool qhX.closed] 35)
  have m1 : (convert 30 9 (.slice r1 5 r2)).run Try.prog (w10.alloc (Obj.cells #[.bool qhX.rd, .bool qhX.wt, .int .i64 qhX.mode, .int .i64 qhX.size, .slice e1 qhX.out.length e4, .slice e2 qhX.inn.length e5, .slice e3 qhX.back.length e6, .int .i64 qhX.dir, .bool qhX.fin, .bool qhX.bad, .bool qhX.closed] 35)) = .ok (.string ⟨#[104, 101, 108, 108, 111]⟩) (w10.alloc (Obj.cells #[.bool qhX.rd, .bool qhX.wt, .int .i64 qhX.mode, .int .i64 qhX.size, .slice e1 qhX.out.length e4, .slice e2 qhX.inn.length e5, .slice e3 qhX.back.length e6, .int .i64 qhX.dir, .bool qhX.fin, .bool qhX.bad, .bool qhX.closed] 35)) := owns_string (l := [104, 101, 108, 108, 111]) (owns_below hS.choose_spec.2.1 HB11)
  have HB12 := hide HB11
  clear hS ht hu0 HLV HTT HSZ HP HB11
  go_wp2_with fail
  refine (HY.out _).mono ?_
  rintro _ _ ⟨rfl, rfl⟩
  go_wp2_with (first | (go_at_call 8; refine (num16 _ _).mono ?_; rintro _ _ ⟨rfl, rfl⟩) | fail)
  go_ret
  exact ⟨rfl, (HT10.out.below (B := w.heap.size) (fun _ e => e) (Nat.le_refl _)).trans (HB12.out.mono HT10.out.size)⟩
end Go.Proofs.Ytgbkhmiphaefgaa

/- BlocksBytes: the walk. -/
namespace Go.Proofs.Ytgbkhmiphaefgaa
open Go.RowKit

set_option maxRecDepth 100000 in
set_option maxHeartbeats 1000000 in
theorem rbytes16_any (size count : Int) (w : World) : Calls Try.prog 7 #[.int .i64 size, .int .i64 count] w fun e w' => e = .returned (.tuple #[.int .i64 (bytesV size count).1, .int .i64 (bytesV size count).2]) ∧ w = w' := by
  by_cases h1 : size < 0
  · have hv : bytesV size count = (0, 4) := by unfold bytesV; rw [if_pos (.inl h1)]
    rw [hv]
    clear hv
    go_enter Try.func7, Try.ntmps7
    go_wp2
    go_ret2
    exact ⟨rfl, rfl⟩
  by_cases h2 : count < 0
  · have hv : bytesV size count = (0, 4) := by unfold bytesV; rw [if_pos (.inr h2)]
    rw [hv]
    clear hv
    go_enter Try.func7, Try.ntmps7
    go_wp2
    go_ret2
    exact ⟨rfl, rfl⟩
  have hn : ¬ (size < 0 ∨ count < 0) := by omega
  by_cases h3 : 0 < size
  · have h4 : ¬ size = 0 := by omega
    have h4' : (size == 0) = false := by simp [h4]
    have hq : wrap64 ((1048576 : Int) / size) = (1048576 : Int) / size := ediv_wrap _ _ (by omega) (by omega) h3
    have HD := hide (bytesV_ok (size := size) (count := count))
    by_cases h5 : (1048576 : Int) / size < count
    · have hv : bytesV size count = (0, 4) := by unfold bytesV; rw [if_neg hn, if_pos ⟨h3, h5⟩]
      rw [hv]
      clear hv hn HD
      go_enter Try.func7, Try.ntmps7
      go_wp2
      go_ret2
      exact ⟨rfl, rfl⟩
    · have hv : bytesV size count = (size * count, 0) := by unfold bytesV; rw [if_neg hn, if_neg (fun e => h5 e.2)]
      have hm := HD.out (by rw [hv])
      have hw : wrap64 (size * count) = size * count := by unfold wrap64; omega
      rw [hv]
      clear hv hn HD hm
      go_enter Try.func7, Try.ntmps7
      go_wp2
      go_ret2
      exact ⟨rfl, rfl⟩
  · obtain rfl : size = 0 := by omega
    have hv : bytesV 0 count = (0, 0) := by unfold bytesV; rw [if_neg hn, if_neg (by omega)]; simp
    have hw : wrap64 (0 * count) = 0 := by simp [wrap64]
    rw [hv]
    clear hv hn
    go_enter Try.func7, Try.ntmps7
    go_wp2
    go_ret2
    exact ⟨by first | rfl | simp [hw], rfl⟩
set_option maxRecDepth 100000 in
set_option maxHeartbeats 8000000 in
theorem lbytes_any (size count : Int) (w : World) : Calls Try.prog 3 #[.int .i64 size, .int .i64 count] w fun e w' => e = .returned (.bool true) ∧ Below w.heap.size w w' := by
  have HP := hide (fun W => bbytes_any size count W)
  have HR := hide (fun W => rbytes16_any size count W)
  generalize bytesV size count = q at *
  obtain ⟨q1, q2⟩ := q
  go_enter Try.func3, Try.ntmps3
  go_wp2_with fail
  refine (HP.out _).mono ?_
  rintro _ _ ⟨rfl, rfl⟩
  go_wp2_with fail
  refine (HR.out _).mono ?_
  rintro _ _ ⟨rfl, rfl⟩
  have HB1 := hide (Below.refl w.heap.size w)
  go_wp2_with (first | (go_at_call 8; refine (num16 _ _).mono ?_; rintro _ _ ⟨rfl, rfl⟩) | fail)
  refine (alive16 _).mono ?_
  rintro _ w2 ⟨rfl, hB2⟩
  have HB2 := hide (HB1.out.trans (hB2.mono HB1.out.size))
  clear hB2
  go_wp2
  go_ret
  exact ⟨rfl, HB2.out⟩
end Go.Proofs.Ytgbkhmiphaefgaa
