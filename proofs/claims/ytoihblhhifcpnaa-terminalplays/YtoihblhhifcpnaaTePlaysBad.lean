/- TerminalPlays: the walk where no terminal is made. -/
import Derived.Test.YtoihblhhifcpnaaTePair
import Derived.Deep.RegionHeld3
namespace Go.Proofs.Ytoihblhhifcpnaa
open Go.RowKit

set_option maxRecDepth 100000 in
set_option maxHeartbeats 4000000 in
theorem plays_bad (v vs : Value) (ls : List (List UInt8)) (ss : List Stp) (w : World) (h : Lns w v ls) (hss : Stps w vs ss) (hs : ls.length * 24 ≤ 140737488351232) (hs2 : ∀ j (hj : j < ls.length), ls[j].length ≤ 140737488351232) (hE : newE ls ≠ 0) :
    Calls Try.prog 3 #[v, vs] w fun e w' => e = .returned (.bool true) ∧ Below w.heap.size w w' := by
  have H0 := hide h
  have HS2 := hide hs2
  obtain ⟨a1, c1, rfl⟩ := h.form
  obtain ⟨sa, sc, rfl, -⟩ := hss
  clear h hs2
  have HN := hide (fun a c W h => new_bad (.slice a ls.length c) ls W h hE)
  have HR := hide (fun W h => rnew_bad (.slice a1 ls.length c1) ls W h hs hE)
  generalize newE ls = E at *
  go_enter Try.func3, Try.ntmps3
  go_wp2_with fail
  refine (copyLists_any _ ls _ H0.out hs HS2.out).mono ?_
  rintro e w1 ⟨vo, xs, rfl, hown, hLC, hB1⟩
  obtain ⟨oa, oc, rfl⟩ := owns_slice hown
  have HLn := hide (hLC.lns rfl hown)
  clear hown hLC
  go_wp2_with fail
  refine (HN.out _ _ _ HLn.out).mono ?_
  rintro e w2 ⟨rfl, rfl⟩
  go_wp2_with fail
  refine (HR.out _ (H0.out.below hB1)).mono ?_
  rintro e w3 ⟨rfl, rfl⟩
  go_wp2_with fail
  refine (num_any _ _).mono ?_
  rintro e w4 ⟨rfl, rfl⟩
  clear HLn HN HR H0 HS2
  go_wp2
  go_loopw [5, 9, 10, 11, 12, 13, 14] (fun tp i _ _ _ _ _ wr => tp = .pointer none ∧ i = .int .i64 0 ∧ Below w.heap.size w wr) (fun _ _ _ _ _ _ _ _ => 0)
  case atStart => exact ⟨rfl, rfl, hB1⟩
  case round =>
    obtain ⟨rfl, rfl, hB⟩ := hrel
    go_wp2_with fail
    refine (alive_any _).mono ?_
    rintro e w5 ⟨rfl, hB5⟩
    go_wp2
    go_ret
    exact ⟨rfl, hB.trans (hB5.mono hB.size)⟩
end Go.Proofs.Ytoihblhhifcpnaa
