/- FaultsTells: the walk. -/
import Derived.Test.YtnabnnckhdileaaFRParse
import Derived.Test.YtnabnnckhdileaaFRPrint
import Derived.Test.YtnabnnckhdileaaFAlive
namespace Go.Proofs.Ytnabnnckhdileaa
open Go.RowKit

/-- What Print answers as its text. -/
def prn (l : List Fault) : List UInt8 := if (chk l).1 = 0 then prt l else []
theorem print_all (v : Value) (l : List Fault) (w : World) (h : Flts w v l) (hs : l.length ≤ maxLen) :
    Calls Try.prog 11 #[v] w fun e w' => e = .returned (.tuple #[.string ⟨(prn l).toArray⟩, .int .i64 (chk l).1]) ∧ Below w.heap.size w w' := by
  by_cases hc : (chk l).1 = 0
  · rw [show prn l = prt l by simp [prn, hc], hc]
    exact print_good v l w h hc
  · rw [show prn l = [] by simp [prn, hc]]
    exact print_bad v l w h hs hc
theorem rprint_all (v : Value) (l : List Fault) (w : World) (h : Flts w v l) (hs : l.length ≤ maxLen) :
    Calls Try.prog 12 #[v] w fun e w' => e = .returned (.tuple #[.string ⟨(prn l).toArray⟩, .int .i64 (chk l).1]) ∧ Below w.heap.size w w' := by
  by_cases hc : (chk l).1 = 0
  · rw [show prn l = prt l by simp [prn, hc], hc]
    exact rprint_good v l w h hc
  · rw [show prn l = [] by simp [prn, hc]]
    exact rprint_bad v l w h hs hc
theorem prs_len (s : ByteArray) : (prs s).1.length ≤ 65536 := by
  unfold prs
  split
  · simp
  · split
    · simp
    · split
      · simp
      · simp only [List.length_map]
        omega

set_option maxRecDepth 100000 in
set_option maxHeartbeats 4000000 in
theorem tells_walk (v : Value) (l : List Fault) (s : ByteArray) (w : World) (h : Flts w v l) (hs : l.length * 16 ≤ 140737488351232) :
    Calls Try.prog 3 #[v, .string s] w fun e w' => e = .returned (.bool true) ∧ Below w.heap.size w w' := by
  have hl : l.length ≤ maxLen := by unfold maxLen; omega
  have H0 := hide h
  have HC := hide fun v w hf => check_any v l w hf hl
  have HRC := hide fun v w hf => rcheck_any v l w hf hl
  have HP := hide fun v w hf => print_all v l w hf hl
  have HRP := hide fun v w hf => rprint_all v l w hf hl
  have HQ := hide fun w => parse_any s w
  have HRQ := hide fun w => rparse_any s w
  have hpl := prs_len s
  generalize (chk l).1 = x at *
  generalize (chk l).2 = y at *
  generalize (⟨(prn l).toArray⟩ : ByteArray) = T at *
  generalize (prs s).1 = L at *
  generalize (prs s).2.1 = p at *
  generalize (prs s).2.2 = q at *
  clear h
  go_enter Try.func3, Try.ntmps3
  go_wp2_with fail
  refine (copyf_any v l _ H0.out hs).mono ?_
  rintro e w1 ⟨vo, rfl, hown, hB1⟩
  have HO := hide (Flts.of_owns hown)
  clear hown
  go_wp2_with fail
  refine (HC.out _ _ HO.out).mono ?_
  rintro e w2 ⟨rfl, hC2⟩
  have hB2 := hB1.trans (hC2.mono hB1.size)
  have HO2 := hide (HO.out.below hC2)
  go_wp2_with fail
  refine (HRC.out _ _ (H0.out.below hB2)).mono ?_
  rintro e w3 ⟨rfl, hC3⟩
  have hB3 := hB2.trans (hC3.mono hB2.size)
  have HO3 := hide (HO2.out.below hC3)
  go_wp2_with fail
  refine (HP.out _ _ HO3.out).mono ?_
  rintro e w4 ⟨rfl, hC4⟩
  have hB4 := hB3.trans (hC4.mono hB3.size)
  have HO4 := hide (HO3.out.below hC4)
  go_wp2_with fail
  refine (HRP.out _ _ (H0.out.below hB4)).mono ?_
  rintro e w5 ⟨rfl, hC5⟩
  have hB5 := hB4.trans (hC5.mono hB4.size)
  have HO5 := hide (HO4.out.below hC5)
  go_wp2_with fail
  refine (HQ.out _).mono ?_
  rintro e w6 ⟨vx, rfl, hX, hC6⟩
  have hB6 := hB5.trans (hC6.mono hB5.size)
  have HO6 := hide (HO5.out.below hC6)
  have HX := hide hX
  clear hX
  go_wp2_with fail
  refine (HRQ.out _).mono ?_
  rintro e w7 ⟨vy, rfl, hY, hC7⟩
  have hB7 := hB6.trans (hC7.mono hB6.size)
  have HO7 := hide (HO6.out.below hC7)
  have HX7 := hide (HX.out.below hC7)
  have HY := hide hY
  clear hY HX HO HO2 HO3 HO4 HO5 HO6 HC HRC HP HRP HQ HRQ hC2 hC3 hC4 hC5 hC6 hC7 hB1 hB2 hB3 hB4 hB5 hB6
  go_wp2_with fail
  refine (num_any _ _).mono ?_
  rintro e w8 ⟨rfl, rfl⟩
  go_wp2_with fail
  refine (num_any _ _).mono ?_
  rintro e w9 ⟨rfl, rfl⟩
  go_wp2_with fail
  refine (samef_any _ _ L _ HX7.out HY.out (by unfold maxLen; omega)).mono ?_
  rintro e w10 ⟨rfl, hC10⟩
  have hB10 := hB7.trans (hC10.mono hB7.size)
  have HO10 := hide (HO7.out.below hC10)
  go_wp2_with fail
  refine (num_any _ _).mono ?_
  rintro e w11 ⟨rfl, rfl⟩
  go_wp2_with fail
  refine (samef_any _ _ l _ HO10.out (H0.out.below hB10) hl).mono ?_
  rintro e w12 ⟨rfl, hC12⟩
  have hB12 := hB10.trans (hC12.mono hB10.size)
  go_wp2_with fail
  refine (alive_any _).mono ?_
  rintro e w13 ⟨rfl, hC13⟩
  go_wp2
  go_ret
  exact ⟨rfl, hB12.trans (hC13.mono hB12.size)⟩
end Go.Proofs.Ytnabnnckhdileaa
