/- FaultsBack: the walk. -/
import Derived.Test.YtnabnnckhdileaaFBackMath
import Derived.Test.YtnabnnckhdileaaFAlive
namespace Go.Proofs.Ytnabnnckhdileaa
open Go.RowKit

set_option maxRecDepth 100000 in
set_option maxHeartbeats 4000000 in
theorem back_walk (v : Value) (l : List Fault) (w : World) (h : Flts w v l) (hs : l.length * 16 ≤ 140737488351232) :
    Calls Try.prog 5 #[v] w fun e w' => e = .returned (.bool true) ∧ Below w.heap.size w w' := by
  have H0 := hide h
  by_cases hc : (chk l).1 = 0
  · obtain ⟨hlen, hfb, -⟩ := chk_zero hc
    have HP := hide fun w hf => print_good v l w hf hc
    have hsz : (⟨(prt l).toArray⟩ : ByteArray).size = (prt l).length := by simp [ByteArray.size]
    by_cases hlong : 65536 < (prt l).length
    · have hl' : (65536 : Int) < ((⟨(prt l).toArray⟩ : ByteArray).size : Int) := by omega
      generalize (⟨(prt l).toArray⟩ : ByteArray) = T at *
      clear hc hfb h hlong hsz
      go_enter Try.func5, Try.ntmps5
      go_wp2_with fail
      refine (alive_any _).mono ?_
      rintro e w1 ⟨rfl, hB1⟩
      go_wp2_with fail
      refine (HP.out _ (H0.out.below hB1)).mono ?_
      rintro e w2 ⟨rfl, hB2⟩
      go_wp2_with fail
      refine (num_any _ _).mono ?_
      rintro e w3 ⟨rfl, rfl⟩
      go_wp2
      go_ret
      exact ⟨rfl, hB1.trans (hB2.mono hB1.size)⟩
    · have hl' : ((⟨(prt l).toArray⟩ : ByteArray).size : Int) ≤ 65536 := by omega
      have HR := hide fun w => parse_any ⟨(prt l).toArray⟩ w
      rw [prs_prt l hlen (fb_mem hfb) (by omega), ← hsz] at HR
      generalize (⟨(prt l).toArray⟩ : ByteArray) = T at *
      clear hc hfb h hlong hsz
      go_enter Try.func5, Try.ntmps5
      go_wp2_with fail
      refine (alive_any _).mono ?_
      rintro e w1 ⟨rfl, hB1⟩
      go_wp2_with fail
      refine (HP.out _ (H0.out.below hB1)).mono ?_
      rintro e w2 ⟨rfl, hB2⟩
      have hB02 := hB1.trans (hB2.mono hB1.size)
      go_wp2_with fail
      refine (num_any _ _).mono ?_
      rintro e w3 ⟨rfl, rfl⟩
      go_wp2_with fail
      refine (HR.out _).mono ?_
      rintro e w4 ⟨vx, rfl, hF, hB4⟩
      have HF := hide hF
      have hB04 := hB02.trans (hB4.mono hB02.size)
      clear hF
      go_wp2_with fail
      refine (num_any _ _).mono ?_
      rintro e w5 ⟨rfl, rfl⟩
      go_wp2_with fail
      refine (samef_any _ _ l _ HF.out (H0.out.below hB04) (by unfold maxLen; omega)).mono ?_
      rintro e w6 ⟨rfl, hB6⟩
      go_wp2
      go_ret
      exact ⟨rfl, hB04.trans (hB6.mono hB04.size)⟩
  · have hne : ((chk l).1 == 0) = false := by simpa using hc
    have hne2 : ((chk l).1 != 0) = true := by simpa using hc
    have HN := hide fun w' hf => print_bad v l w' hf (by unfold maxLen; omega) hc
    generalize (chk l).1 = x at *
    clear hc h
    go_enter Try.func5, Try.ntmps5
    go_wp2_with fail
    refine (alive_any _).mono ?_
    rintro e w1 ⟨rfl, hB1⟩
    go_wp2_with fail
    refine (HN.out _ (H0.out.below hB1)).mono ?_
    rintro e w2 ⟨rfl, hB2⟩
    go_wp2_with fail
    refine (num_any _ _).mono ?_
    rintro e w3 ⟨rfl, rfl⟩
    go_wp2
    go_ret
    exact ⟨rfl, hB1.trans (hB2.mono hB1.size)⟩
end Go.Proofs.Ytnabnnckhdileaa
