/- What the proof stands on, part 8: the contracts of the program's calls that it reaches. -/
import Derived.Test.YtndleeafkepdjaaGreatKW7
import Derived.Lib.AppendZeros
import Derived.Deep.RegionLaw
/- Lines: why a call is refused. -/
namespace Go.Proofs.YtndleeafkepdjaaGreat
open Go.RowKit

set_option maxRecDepth 100000 in
set_option maxHeartbeats 1000000 in
theorem lrefusal_any (x : SS) (oa ia ba : Option Addr) (oc ic bc : Nat) (T : TypeId) (v : Value) (w : World) (hi : x.inn.length ≤ 140737488351232) (hb : x.back.length ≤ 140737488351232) :
    Calls Tryz.prog 183 #[.agg #[.bool x.rd, .bool x.wt, .int .i64 x.mode, .int .i64 x.size, .slice oa x.out.length oc, .slice ia x.inn.length ic, .slice ba x.back.length bc, .int .i64 x.dir, .bool x.fin, .bool x.bad, .bool x.closed], .iface T v] w fun e w' => e = .returned (.int .i64 (x.refuse true)) ∧ Below w.heap.size w w' := by
  have HC := hide (fun W => scheck_any x oa ia ba oc ic bc W hi hb)
  generalize hr : x.refuse true = r
  unfold SS.refuse at hr
  cases h1 : x.may with
  | false =>
    rw [h1] at HC
    simp only [Bool.false_eq_true, if_false] at HC
    have HR : Hid (51 = r) := hide (by rw [← hr, h1]; rfl)
    clear hr h1
    go_enter Tryz.func183, Tryz.ntmps183
    go_wp2_with fail
    have HB0 := hide (recv_below w (Obj.cells #[.bool x.rd, .bool x.wt, .int .i64 x.mode, .int .i64 x.size, .slice oa x.out.length oc, .slice ia x.inn.length ic, .slice ba x.back.length bc, .int .i64 x.dir, .bool x.fin, .bool x.bad, .bool x.closed] 55))
    have HS0 := hide (StAt.new w x (.slice oa x.out.length oc) (.slice ia x.inn.length ic) (.slice ba x.back.length bc))
    generalize w.alloc (Obj.cells #[.bool x.rd, .bool x.wt, .int .i64 x.mode, .int .i64 x.size, .slice oa x.out.length oc, .slice ia x.inn.length ic, .slice ba x.back.length bc, .int .i64 x.dir, .bool x.fin, .bool x.bad, .bool x.closed] 55) = w0 at *
    refine (HC.out w0).mono ?_
    rintro _ w1 ⟨rfl, hB1⟩
    have HS1 := hide (HS0.out.below hB1)
    obtain ⟨-, -, -, -, -, -, -, -, -, -, c10⟩ := HS1.out.cs

    have HB1 := hide (HB0.out.trans (hB1.mono HB0.out.size))
    clear hB1
    go_wp2
    go_ret
    exact ⟨by rw [← HR.out]; rfl, HB1.out⟩
  | true =>
    rw [h1] at HC
    simp only [if_true] at HC
    rcases Bool.eq_false_or_eq_true x.closed with h2 | h2
    · skip
      have HR : Hid (113 = r) := hide (by rw [← hr, h1, h2]; rfl)
      have H2 := hide h2
      clear hr h1 h2
      go_enter Tryz.func183, Tryz.ntmps183
      go_wp2_with fail
      have HB0 := hide (recv_below w (Obj.cells #[.bool x.rd, .bool x.wt, .int .i64 x.mode, .int .i64 x.size, .slice oa x.out.length oc, .slice ia x.inn.length ic, .slice ba x.back.length bc, .int .i64 x.dir, .bool x.fin, .bool x.bad, .bool x.closed] 55))
      have HS0 := hide (StAt.new w x (.slice oa x.out.length oc) (.slice ia x.inn.length ic) (.slice ba x.back.length bc))
      generalize w.alloc (Obj.cells #[.bool x.rd, .bool x.wt, .int .i64 x.mode, .int .i64 x.size, .slice oa x.out.length oc, .slice ia x.inn.length ic, .slice ba x.back.length bc, .int .i64 x.dir, .bool x.fin, .bool x.bad, .bool x.closed] 55) = w0 at *
      refine (HC.out w0).mono ?_
      rintro _ w1 ⟨rfl, hB1⟩
      have HS1 := hide (HS0.out.below hB1)
      obtain ⟨-, -, -, -, -, -, -, -, -, -, c10⟩ := HS1.out.cs
      rw [H2.out] at c10
      have HB1 := hide (HB0.out.trans (hB1.mono HB0.out.size))
      clear hB1
      go_wp2
      go_ret
      exact ⟨by rw [← HR.out]; rfl, HB1.out⟩
    · skip
      have HR : Hid (0 = r) := hide (by rw [← hr, h1, h2]; rfl)
      have H2 := hide h2
      clear hr h1 h2
      go_enter Tryz.func183, Tryz.ntmps183
      go_wp2_with fail
      have HB0 := hide (recv_below w (Obj.cells #[.bool x.rd, .bool x.wt, .int .i64 x.mode, .int .i64 x.size, .slice oa x.out.length oc, .slice ia x.inn.length ic, .slice ba x.back.length bc, .int .i64 x.dir, .bool x.fin, .bool x.bad, .bool x.closed] 55))
      have HS0 := hide (StAt.new w x (.slice oa x.out.length oc) (.slice ia x.inn.length ic) (.slice ba x.back.length bc))
      generalize w.alloc (Obj.cells #[.bool x.rd, .bool x.wt, .int .i64 x.mode, .int .i64 x.size, .slice oa x.out.length oc, .slice ia x.inn.length ic, .slice ba x.back.length bc, .int .i64 x.dir, .bool x.fin, .bool x.bad, .bool x.closed] 55) = w0 at *
      refine (HC.out w0).mono ?_
      rintro _ w1 ⟨rfl, hB1⟩
      have HS1 := hide (HS0.out.below hB1)
      obtain ⟨-, -, -, -, -, -, -, -, -, -, c10⟩ := HS1.out.cs
      rw [H2.out] at c10
      have HB1 := hide (HB0.out.trans (hB1.mono HB0.out.size))
      clear hB1
      go_wp2
      go_ret
      exact ⟨by rw [← HR.out]; rfl, HB1.out⟩
set_option maxRecDepth 100000 in
set_option maxHeartbeats 1000000 in
theorem lrefusal_nil (x : SS) (oa ia ba : Option Addr) (oc ic bc : Nat) (w : World) (hi : x.inn.length ≤ 140737488351232) (hb : x.back.length ≤ 140737488351232) :
    Calls Tryz.prog 183 #[.agg #[.bool x.rd, .bool x.wt, .int .i64 x.mode, .int .i64 x.size, .slice oa x.out.length oc, .slice ia x.inn.length ic, .slice ba x.back.length bc, .int .i64 x.dir, .bool x.fin, .bool x.bad, .bool x.closed], .nilIface] w fun e w' => e = .returned (.int .i64 (x.refuse false)) ∧ Below w.heap.size w w' := by
  have HC := hide (fun W => scheck_any x oa ia ba oc ic bc W hi hb)
  generalize hr : x.refuse false = r
  unfold SS.refuse at hr
  cases h1 : x.may with
  | false =>
    rw [h1] at HC
    simp only [Bool.false_eq_true, if_false] at HC
    have HR : Hid (51 = r) := hide (by rw [← hr, h1]; rfl)
    clear hr h1
    go_enter Tryz.func183, Tryz.ntmps183
    go_wp2_with fail
    have HB0 := hide (recv_below w (Obj.cells #[.bool x.rd, .bool x.wt, .int .i64 x.mode, .int .i64 x.size, .slice oa x.out.length oc, .slice ia x.inn.length ic, .slice ba x.back.length bc, .int .i64 x.dir, .bool x.fin, .bool x.bad, .bool x.closed] 55))
    have HS0 := hide (StAt.new w x (.slice oa x.out.length oc) (.slice ia x.inn.length ic) (.slice ba x.back.length bc))
    generalize w.alloc (Obj.cells #[.bool x.rd, .bool x.wt, .int .i64 x.mode, .int .i64 x.size, .slice oa x.out.length oc, .slice ia x.inn.length ic, .slice ba x.back.length bc, .int .i64 x.dir, .bool x.fin, .bool x.bad, .bool x.closed] 55) = w0 at *
    refine (HC.out w0).mono ?_
    rintro _ w1 ⟨rfl, hB1⟩
    have HS1 := hide (HS0.out.below hB1)
    obtain ⟨-, -, -, -, -, -, -, -, -, -, c10⟩ := HS1.out.cs

    have HB1 := hide (HB0.out.trans (hB1.mono HB0.out.size))
    clear hB1
    go_wp2
    go_ret
    exact ⟨by rw [← HR.out]; rfl, HB1.out⟩
  | true =>
    rw [h1] at HC
    simp only [if_true] at HC
    have HR : Hid (2 = r) := hide (by rw [← hr, h1]; rfl)
    clear hr h1
    go_enter Tryz.func183, Tryz.ntmps183
    go_wp2_with fail
    have HB0 := hide (recv_below w (Obj.cells #[.bool x.rd, .bool x.wt, .int .i64 x.mode, .int .i64 x.size, .slice oa x.out.length oc, .slice ia x.inn.length ic, .slice ba x.back.length bc, .int .i64 x.dir, .bool x.fin, .bool x.bad, .bool x.closed] 55))
    have HS0 := hide (StAt.new w x (.slice oa x.out.length oc) (.slice ia x.inn.length ic) (.slice ba x.back.length bc))
    generalize w.alloc (Obj.cells #[.bool x.rd, .bool x.wt, .int .i64 x.mode, .int .i64 x.size, .slice oa x.out.length oc, .slice ia x.inn.length ic, .slice ba x.back.length bc, .int .i64 x.dir, .bool x.fin, .bool x.bad, .bool x.closed] 55) = w0 at *
    refine (HC.out w0).mono ?_
    rintro _ w1 ⟨rfl, hB1⟩
    have HS1 := hide (HS0.out.below hB1)
    obtain ⟨-, -, -, -, -, -, -, -, -, -, c10⟩ := HS1.out.cs

    have HB1 := hide (HB0.out.trans (hB1.mono HB0.out.size))
    clear hB1
    go_wp2
    go_ret
    exact ⟨by rw [← HR.out]; rfl, HB1.out⟩
def SS.grefuse (x : SS) (hr : Bool) (limit least most : Int) : Int := if x.refuse hr ≠ 0 then x.refuse hr else if limit < least ∨ most < limit then 4 else 0
def SS.prefuse (x : SS) (hr : Bool) (n : Nat) (most : Int) : Int := if x.refuse hr ≠ 0 then x.refuse hr else if most < (n : Int) then 5 else 0
set_option maxRecDepth 100000 in
set_option maxHeartbeats 1000000 in
theorem getRefusal_any (x : SS) (oa ia ba : Option Addr) (oc ic bc : Nat) (T : TypeId) (v : Value) (limit least most : Int) (w : World) (hi : x.inn.length ≤ 140737488351232) (hb : x.back.length ≤ 140737488351232) :
    Calls Tryz.prog 108 #[.agg #[.bool x.rd, .bool x.wt, .int .i64 x.mode, .int .i64 x.size, .slice oa x.out.length oc, .slice ia x.inn.length ic, .slice ba x.back.length bc, .int .i64 x.dir, .bool x.fin, .bool x.bad, .bool x.closed], .iface T v, .int .i64 limit, .int .i64 least, .int .i64 most] w fun e w' => e = .returned (.int .i64 (x.grefuse true limit least most)) ∧ Below w.heap.size w w' := by
  have HC := hide (fun W => lrefusal_any x oa ia ba oc ic bc T v W hi hb)
  generalize hr : x.grefuse true limit least most = r
  unfold SS.grefuse at hr
  obtain ⟨rf, hrf⟩ : ∃ rf, rf = x.refuse true := ⟨_, rfl⟩
  rw [← hrf] at HC hr
  clear hrf
  by_cases h0 : rf = 0
  case neg =>
    have HR : Hid (rf = r) := hide (by rw [← hr, if_pos h0])
    have hb1 : (rf == 0) = false := by simp [h0]
    have hb2 : (rf != 0) = true := by simp [h0]
    clear hr h0
    go_enter Tryz.func108, Tryz.ntmps108
    go_wp2_with fail
    refine (HC.out _).mono ?_
    rintro _ w1 ⟨rfl, hB1⟩
    have HB1 := hide ((recv_below w (Obj.cells #[.bool x.rd, .bool x.wt, .int .i64 x.mode, .int .i64 x.size, .slice oa x.out.length oc, .slice ia x.inn.length ic, .slice ba x.back.length bc, .int .i64 x.dir, .bool x.fin, .bool x.bad, .bool x.closed] 55)).trans (hB1.mono (recv_below w (Obj.cells #[.bool x.rd, .bool x.wt, .int .i64 x.mode, .int .i64 x.size, .slice oa x.out.length oc, .slice ia x.inn.length ic, .slice ba x.back.length bc, .int .i64 x.dir, .bool x.fin, .bool x.bad, .bool x.closed] 55)).size))
    clear hB1
    go_wp2
    go_ret
    exact ⟨by rw [← HR.out]; rfl, HB1.out⟩
  subst h0
  rw [if_neg (by simp)] at hr
  by_cases h1 : limit < least
  · skip
    have HR : Hid (4 = r) := hide (by rw [← hr, if_pos (.inl h1)])
    clear hr
    go_enter Tryz.func108, Tryz.ntmps108
    go_wp2_with fail
    refine (HC.out _).mono ?_
    rintro _ w1 ⟨rfl, hB1⟩
    have HB1 := hide ((recv_below w (Obj.cells #[.bool x.rd, .bool x.wt, .int .i64 x.mode, .int .i64 x.size, .slice oa x.out.length oc, .slice ia x.inn.length ic, .slice ba x.back.length bc, .int .i64 x.dir, .bool x.fin, .bool x.bad, .bool x.closed] 55)).trans (hB1.mono (recv_below w (Obj.cells #[.bool x.rd, .bool x.wt, .int .i64 x.mode, .int .i64 x.size, .slice oa x.out.length oc, .slice ia x.inn.length ic, .slice ba x.back.length bc, .int .i64 x.dir, .bool x.fin, .bool x.bad, .bool x.closed] 55)).size))
    clear hB1
    go_wp2
    go_ret
    exact ⟨by rw [← HR.out]; rfl, HB1.out⟩
  by_cases h2 : most < limit
  · skip
    have HR : Hid (4 = r) := hide (by rw [← hr, if_pos (.inr h2)])
    clear hr
    go_enter Tryz.func108, Tryz.ntmps108
    go_wp2_with fail
    refine (HC.out _).mono ?_
    rintro _ w1 ⟨rfl, hB1⟩
    have HB1 := hide ((recv_below w (Obj.cells #[.bool x.rd, .bool x.wt, .int .i64 x.mode, .int .i64 x.size, .slice oa x.out.length oc, .slice ia x.inn.length ic, .slice ba x.back.length bc, .int .i64 x.dir, .bool x.fin, .bool x.bad, .bool x.closed] 55)).trans (hB1.mono (recv_below w (Obj.cells #[.bool x.rd, .bool x.wt, .int .i64 x.mode, .int .i64 x.size, .slice oa x.out.length oc, .slice ia x.inn.length ic, .slice ba x.back.length bc, .int .i64 x.dir, .bool x.fin, .bool x.bad, .bool x.closed] 55)).size))
    clear hB1
    go_wp2
    go_ret
    exact ⟨by rw [← HR.out]; rfl, HB1.out⟩
  · skip
    have HR : Hid (0 = r) := hide (by rw [← hr, if_neg (by omega)])
    clear hr
    go_enter Tryz.func108, Tryz.ntmps108
    go_wp2_with fail
    refine (HC.out _).mono ?_
    rintro _ w1 ⟨rfl, hB1⟩
    have HB1 := hide ((recv_below w (Obj.cells #[.bool x.rd, .bool x.wt, .int .i64 x.mode, .int .i64 x.size, .slice oa x.out.length oc, .slice ia x.inn.length ic, .slice ba x.back.length bc, .int .i64 x.dir, .bool x.fin, .bool x.bad, .bool x.closed] 55)).trans (hB1.mono (recv_below w (Obj.cells #[.bool x.rd, .bool x.wt, .int .i64 x.mode, .int .i64 x.size, .slice oa x.out.length oc, .slice ia x.inn.length ic, .slice ba x.back.length bc, .int .i64 x.dir, .bool x.fin, .bool x.bad, .bool x.closed] 55)).size))
    clear hB1
    go_wp2
    go_ret
    exact ⟨by rw [← HR.out]; rfl, HB1.out⟩
set_option maxRecDepth 100000 in
set_option maxHeartbeats 1000000 in
theorem getRefusal_nil (x : SS) (oa ia ba : Option Addr) (oc ic bc : Nat) (limit least most : Int) (w : World) (hi : x.inn.length ≤ 140737488351232) (hb : x.back.length ≤ 140737488351232) :
    Calls Tryz.prog 108 #[.agg #[.bool x.rd, .bool x.wt, .int .i64 x.mode, .int .i64 x.size, .slice oa x.out.length oc, .slice ia x.inn.length ic, .slice ba x.back.length bc, .int .i64 x.dir, .bool x.fin, .bool x.bad, .bool x.closed], .nilIface, .int .i64 limit, .int .i64 least, .int .i64 most] w fun e w' => e = .returned (.int .i64 (x.grefuse false limit least most)) ∧ Below w.heap.size w w' := by
  have HC := hide (fun W => lrefusal_nil x oa ia ba oc ic bc W hi hb)
  generalize hr : x.grefuse false limit least most = r
  unfold SS.grefuse at hr
  obtain ⟨rf, hrf⟩ : ∃ rf, rf = x.refuse false := ⟨_, rfl⟩
  rw [← hrf] at HC hr
  clear hrf
  by_cases h0 : rf = 0
  case neg =>
    have HR : Hid (rf = r) := hide (by rw [← hr, if_pos h0])
    have hb1 : (rf == 0) = false := by simp [h0]
    have hb2 : (rf != 0) = true := by simp [h0]
    clear hr h0
    go_enter Tryz.func108, Tryz.ntmps108
    go_wp2_with fail
    refine (HC.out _).mono ?_
    rintro _ w1 ⟨rfl, hB1⟩
    have HB1 := hide ((recv_below w (Obj.cells #[.bool x.rd, .bool x.wt, .int .i64 x.mode, .int .i64 x.size, .slice oa x.out.length oc, .slice ia x.inn.length ic, .slice ba x.back.length bc, .int .i64 x.dir, .bool x.fin, .bool x.bad, .bool x.closed] 55)).trans (hB1.mono (recv_below w (Obj.cells #[.bool x.rd, .bool x.wt, .int .i64 x.mode, .int .i64 x.size, .slice oa x.out.length oc, .slice ia x.inn.length ic, .slice ba x.back.length bc, .int .i64 x.dir, .bool x.fin, .bool x.bad, .bool x.closed] 55)).size))
    clear hB1
    go_wp2
    go_ret
    exact ⟨by rw [← HR.out]; rfl, HB1.out⟩
  subst h0
  rw [if_neg (by simp)] at hr
  by_cases h1 : limit < least
  · skip
    have HR : Hid (4 = r) := hide (by rw [← hr, if_pos (.inl h1)])
    clear hr
    go_enter Tryz.func108, Tryz.ntmps108
    go_wp2_with fail
    refine (HC.out _).mono ?_
    rintro _ w1 ⟨rfl, hB1⟩
    have HB1 := hide ((recv_below w (Obj.cells #[.bool x.rd, .bool x.wt, .int .i64 x.mode, .int .i64 x.size, .slice oa x.out.length oc, .slice ia x.inn.length ic, .slice ba x.back.length bc, .int .i64 x.dir, .bool x.fin, .bool x.bad, .bool x.closed] 55)).trans (hB1.mono (recv_below w (Obj.cells #[.bool x.rd, .bool x.wt, .int .i64 x.mode, .int .i64 x.size, .slice oa x.out.length oc, .slice ia x.inn.length ic, .slice ba x.back.length bc, .int .i64 x.dir, .bool x.fin, .bool x.bad, .bool x.closed] 55)).size))
    clear hB1
    go_wp2
    go_ret
    exact ⟨by rw [← HR.out]; rfl, HB1.out⟩
  by_cases h2 : most < limit
  · skip
    have HR : Hid (4 = r) := hide (by rw [← hr, if_pos (.inr h2)])
    clear hr
    go_enter Tryz.func108, Tryz.ntmps108
    go_wp2_with fail
    refine (HC.out _).mono ?_
    rintro _ w1 ⟨rfl, hB1⟩
    have HB1 := hide ((recv_below w (Obj.cells #[.bool x.rd, .bool x.wt, .int .i64 x.mode, .int .i64 x.size, .slice oa x.out.length oc, .slice ia x.inn.length ic, .slice ba x.back.length bc, .int .i64 x.dir, .bool x.fin, .bool x.bad, .bool x.closed] 55)).trans (hB1.mono (recv_below w (Obj.cells #[.bool x.rd, .bool x.wt, .int .i64 x.mode, .int .i64 x.size, .slice oa x.out.length oc, .slice ia x.inn.length ic, .slice ba x.back.length bc, .int .i64 x.dir, .bool x.fin, .bool x.bad, .bool x.closed] 55)).size))
    clear hB1
    go_wp2
    go_ret
    exact ⟨by rw [← HR.out]; rfl, HB1.out⟩
  · skip
    have HR : Hid (0 = r) := hide (by rw [← hr, if_neg (by omega)])
    clear hr
    go_enter Tryz.func108, Tryz.ntmps108
    go_wp2_with fail
    refine (HC.out _).mono ?_
    rintro _ w1 ⟨rfl, hB1⟩
    have HB1 := hide ((recv_below w (Obj.cells #[.bool x.rd, .bool x.wt, .int .i64 x.mode, .int .i64 x.size, .slice oa x.out.length oc, .slice ia x.inn.length ic, .slice ba x.back.length bc, .int .i64 x.dir, .bool x.fin, .bool x.bad, .bool x.closed] 55)).trans (hB1.mono (recv_below w (Obj.cells #[.bool x.rd, .bool x.wt, .int .i64 x.mode, .int .i64 x.size, .slice oa x.out.length oc, .slice ia x.inn.length ic, .slice ba x.back.length bc, .int .i64 x.dir, .bool x.fin, .bool x.bad, .bool x.closed] 55)).size))
    clear hB1
    go_wp2
    go_ret
    exact ⟨by rw [← HR.out]; rfl, HB1.out⟩
set_option maxRecDepth 100000 in
set_option maxHeartbeats 1000000 in
theorem putRefusal_nil (x : SS) (oa ia ba : Option Addr) (oc ic bc : Nat) (qa : Option Addr) (n qc : Nat) (most : Int) (w : World) (hi : x.inn.length ≤ 140737488351232) (hb : x.back.length ≤ 140737488351232) :
    Calls Tryz.prog 112 #[.agg #[.bool x.rd, .bool x.wt, .int .i64 x.mode, .int .i64 x.size, .slice oa x.out.length oc, .slice ia x.inn.length ic, .slice ba x.back.length bc, .int .i64 x.dir, .bool x.fin, .bool x.bad, .bool x.closed], .nilIface, .slice qa n qc, .int .i64 most] w fun e w' => e = .returned (.int .i64 (x.prefuse false n most)) ∧ Below w.heap.size w w' := by
  have HC := hide (fun W => lrefusal_nil x oa ia ba oc ic bc W hi hb)
  generalize hr : x.prefuse false n most = r
  unfold SS.prefuse at hr
  obtain ⟨rf, hrf⟩ : ∃ rf, rf = x.refuse false := ⟨_, rfl⟩
  rw [← hrf] at HC hr
  clear hrf
  by_cases h0 : rf = 0
  case neg =>
    have HR : Hid (rf = r) := hide (by rw [← hr, if_pos h0])
    have hb1 : (rf == 0) = false := by simp [h0]
    have hb2 : (rf != 0) = true := by simp [h0]
    clear hr h0
    go_enter Tryz.func112, Tryz.ntmps112
    go_wp2_with fail
    refine (HC.out _).mono ?_
    rintro _ w1 ⟨rfl, hB1⟩
    have HB1 := hide ((recv_below w (Obj.cells #[.bool x.rd, .bool x.wt, .int .i64 x.mode, .int .i64 x.size, .slice oa x.out.length oc, .slice ia x.inn.length ic, .slice ba x.back.length bc, .int .i64 x.dir, .bool x.fin, .bool x.bad, .bool x.closed] 55)).trans (hB1.mono (recv_below w (Obj.cells #[.bool x.rd, .bool x.wt, .int .i64 x.mode, .int .i64 x.size, .slice oa x.out.length oc, .slice ia x.inn.length ic, .slice ba x.back.length bc, .int .i64 x.dir, .bool x.fin, .bool x.bad, .bool x.closed] 55)).size))
    clear hB1
    go_wp2
    go_ret
    exact ⟨by rw [← HR.out]; rfl, HB1.out⟩
  subst h0
  rw [if_neg (by simp)] at hr
  by_cases h2 : most < (n : Int)
  · skip
    have HR : Hid (5 = r) := hide (by rw [← hr, if_pos h2])
    clear hr
    go_enter Tryz.func112, Tryz.ntmps112
    go_wp2_with fail
    refine (HC.out _).mono ?_
    rintro _ w1 ⟨rfl, hB1⟩
    have HB1 := hide ((recv_below w (Obj.cells #[.bool x.rd, .bool x.wt, .int .i64 x.mode, .int .i64 x.size, .slice oa x.out.length oc, .slice ia x.inn.length ic, .slice ba x.back.length bc, .int .i64 x.dir, .bool x.fin, .bool x.bad, .bool x.closed] 55)).trans (hB1.mono (recv_below w (Obj.cells #[.bool x.rd, .bool x.wt, .int .i64 x.mode, .int .i64 x.size, .slice oa x.out.length oc, .slice ia x.inn.length ic, .slice ba x.back.length bc, .int .i64 x.dir, .bool x.fin, .bool x.bad, .bool x.closed] 55)).size))
    clear hB1
    go_wp2
    go_ret
    exact ⟨by rw [← HR.out]; rfl, HB1.out⟩
  · skip
    have HR : Hid (0 = r) := hide (by rw [← hr, if_neg (by omega)])
    clear hr
    go_enter Tryz.func112, Tryz.ntmps112
    go_wp2_with fail
    refine (HC.out _).mono ?_
    rintro _ w1 ⟨rfl, hB1⟩
    have HB1 := hide ((recv_below w (Obj.cells #[.bool x.rd, .bool x.wt, .int .i64 x.mode, .int .i64 x.size, .slice oa x.out.length oc, .slice ia x.inn.length ic, .slice ba x.back.length bc, .int .i64 x.dir, .bool x.fin, .bool x.bad, .bool x.closed] 55)).trans (hB1.mono (recv_below w (Obj.cells #[.bool x.rd, .bool x.wt, .int .i64 x.mode, .int .i64 x.size, .slice oa x.out.length oc, .slice ia x.inn.length ic, .slice ba x.back.length bc, .int .i64 x.dir, .bool x.fin, .bool x.bad, .bool x.closed] 55)).size))
    clear hB1
    go_wp2
    go_ret
    exact ⟨by rw [← HR.out]; rfl, HB1.out⟩
end Go.Proofs.YtndleeafkepdjaaGreat

/- Lines, as values: bytes got one by one, most of what was read apart. -/
namespace Go.Proofs.YtndleeafkepdjaaGreat
open Go.RowKit

def gat {S : Type} (D : RawD S) (stop : List UInt8 → Bool) : Nat → SS → S → List UInt8 → SS × List UInt8 × Int × S
  | 0, x, s, acc => (x, acc, 0, s)
  | n + 1, x, s, acc => if stop acc = true then (x, acc, 0, s) else if (x.get D s).2.2.1 ≠ 0 then ((x.get D s).1, acc, (x.get D s).2.2.1, (x.get D s).2.2.2) else gat D stop n (x.get D s).1 (x.get D s).2.2.2 (acc ++ [(x.get D s).2.1])
def stopU (d : UInt8) (limit : Int) (b : List UInt8) : Bool := decide ((b.length : Int) = limit) || (decide (0 < b.length) && decide (b.getD (b.length - 1) 0 = d))
def endV (e : Int) (b : List UInt8) : Int := if e = 111 ∧ 0 < b.length then 0 else e
def SS.until {S : Type} (D : RawD S) (x : SS) (s : S) (d : UInt8) (limit : Int) : SS × List UInt8 × Int × S :=
  if x.grefuse true limit 1 65536 ≠ 0 then (x, [], x.grefuse true limit 1 65536, s)
  else ((gat D (stopU d limit) (limit.toNat + 1) x s []).1, (gat D (stopU d limit) (limit.toNat + 1) x s []).2.1, endV (gat D (stopU d limit) (limit.toNat + 1) x s []).2.2.1 (gat D (stopU d limit) (limit.toNat + 1) x s []).2.1, (gat D (stopU d limit) (limit.toNat + 1) x s []).2.2.2)
def SS.wh (y : SS) (far : List UInt8) : SS := { y with inn := y.inn ++ far }
def SS.near (y : SS) (n : List UInt8) : SS := { y with inn := n }
def part (n f : List UInt8) : List UInt8 × List UInt8 := if f = [] then (n.take 64, n.drop 64) else if n = [] then (f.take 64, f.drop 64) else (n, f)
def SS.parted (y : SS) (far : List UInt8) : SS := y.near (part y.inn far).1
theorem part_app (n f : List UInt8) : (part n f).1 ++ (part n f).2 = n ++ f := by
  unfold part
  split
  · rename_i h; subst h; simp
  split
  · rename_i h; subst h; simp
  · rfl
theorem part_none (n f : List UInt8) (h : (part n f).1 = []) : (part n f).2 = [] := by
  unfold part at h ⊢
  split
  · rename_i h1
    rw [if_pos h1] at h
    have h2 := List.length_eq_zero_iff.2 h
    simp only [List.length_take] at h2
    simp only [List.drop_eq_nil_iff]
    omega
  · rename_i h1
    rw [if_neg h1] at h
    split
    · rename_i h2
      rw [if_pos h2] at h
      have h3 := List.length_eq_zero_iff.2 h
      simp only [List.length_take] at h3
      simp only [List.drop_eq_nil_iff]
      omega
    · rename_i h2
      rw [if_neg h2] at h
      exact absurd h h2
theorem wh_parted (y : SS) (far : List UInt8) : (y.parted far).wh (part y.inn far).2 = y.wh far := by
  unfold SS.wh SS.parted SS.near
  simp only [part_app]
theorem parted_none (y : SS) (far : List UInt8) (h : (y.parted far).inn = []) : (part y.inn far).2 = [] := part_none _ _ h
theorem may_near {y : SS} {far : List UInt8} (h : (y.wh far).may = true) : y.may = true := by
  obtain ⟨h1, h2, h3, h4, h5, h6, h7, h8, h9⟩ := (may_iff _).1 h
  simp only [SS.wh, List.length_append] at h7 h9
  refine (may_iff _).2 ⟨h1, h2, h3, h4, h5, h6, by omega, h8, ?_⟩
  rcases h9 with ⟨a, b, c⟩ | a | ⟨a, b, c, d⟩
  · exact .inl ⟨a, b, by omega⟩
  · exact .inr (.inl a)
  · exact .inr (.inr ⟨a, b, by omega, d⟩)
theorem get_wh {S : Type} (D : RawD S) (y : SS) (far : List UInt8) (s : S) (hn : y.inn = [] → far = []) (hm : (y.wh far).may = true) : (y.wh far).get D s = ((y.get D s).1.wh far, (y.get D s).2.1, (y.get D s).2.2.1, (y.get D s).2.2.2) := by
  by_cases h0 : y.inn = []
  · obtain rfl := hn h0
    have e : ∀ z : SS, z.wh [] = z := fun z => by unfold SS.wh; simp
    rw [e, e]
  have hmy := may_near hm
  have hr : (y.wh far).noRead = y.noRead := by
    unfold SS.noRead SS.refuse
    rw [hm, hmy]
    rfl
  unfold SS.get
  rw [hr]
  split
  · unfold SS.get1
    have hl : 0 < y.inn.length := List.length_pos_iff.2 h0
    have hl2 : 0 < (y.wh far).inn.length := by simp only [SS.wh, List.length_append]; omega
    simp only [show (y.wh far).back = y.back from rfl]
    split
    · rfl
    · try rw [if_pos hl2]
      try rw [if_pos hl]
      obtain ⟨c, t, ht⟩ : ∃ c t, y.inn = c :: t := by
        cases h : y.inn with
        | nil => exact absurd h h0
        | cons c t => exact ⟨c, t, rfl⟩
      simp only [SS.wh, ht]
      simp
  · rfl
theorem gat_stop {S : Type} (D : RawD S) (stop : List UInt8 → Bool) (n : Nat) (x : SS) (s : S) (acc : List UInt8) (h : stop acc = true) : gat D stop n x s acc = (x, acc, 0, s) := by
  cases n with
  | zero => rfl
  | succ n => unfold gat; rw [if_pos h]
theorem gat_err {S : Type} (D : RawD S) (stop : List UInt8 → Bool) (n : Nat) (x : SS) (s : S) (acc : List UInt8) (h : stop acc = false) (he : (x.get D s).2.2.1 ≠ 0) : gat D stop (n + 1) x s acc = ((x.get D s).1, acc, (x.get D s).2.2.1, (x.get D s).2.2.2) := by
  show (if stop acc = true then _ else _) = _
  rw [if_neg (by simp [h]), if_pos he]
theorem gat_next {S : Type} (D : RawD S) (stop : List UInt8 → Bool) (n : Nat) (x : SS) (s : S) (acc : List UInt8) (h : stop acc = false) (he : (x.get D s).2.2.1 = 0) : gat D stop (n + 1) x s acc = gat D stop n (x.get D s).1 (x.get D s).2.2.2 (acc ++ [(x.get D s).2.1]) := by
  show (if stop acc = true then _ else _) = _
  rw [if_neg (by simp [h]), if_neg (by simp [he])]
end Go.Proofs.YtndleeafkepdjaaGreat

/- Lines: slices.Concat of two. -/
namespace Go.Proofs.YtndleeafkepdjaaGreat
open Go.RowKit

set_option maxRecDepth 100000 in
set_option maxHeartbeats 4000000 in
theorem lgrow_any (n : Nat) (w : World) (hn : n ≤ 281474976702464) :
    Calls Tryz.prog 246 #[.slice none 0 0, .int .i64 n] w fun e w' => ∃ v, e = .returned v ∧ w'.ownsRow w.heap.size 5 1 v 0 [] ∧ Below w.heap.size w w' := by
  by_cases h0 : n = 0
  · subst h0
    go_enter Tryz.func246, Tryz.ntmps246
    go_wp2
    go_ret
    exact ⟨_, rfl, World.ownsRow_nil _ _ _ _, Below.refl _ _⟩
  obtain ⟨i0, hi, hz0, hz1, hz2⟩ := info_parts Tryz.infoB
  have HR := hide (fun ty => Lib.run_append_nil_zeros w 40 3 ty 5 i0 (.int .u8 0) .i64 .i64 Tryz.underlying40 Tryz.underlying3 hi hz0 n (by omega) (by rw [hz1]; decide) (by omega) (by rw [hz2]; omega))
  have hG := grownCap_ge w n 0 5
  have hGm := grownCap_le_maxLen w n 0 5 (by unfold maxLen; omega)
  have HO := hide (World.ownsRow_made (base := w.heap.size) (e := 5) (size := 1) w.drew (Builtin.zeroCells (Value.int .u8 0).cells n ++ Builtin.zeroCells (Value.int .u8 0).cells (grownCap w n 0 5 - n)) (grownCap w n 0 5) (Nat.le_refl _) hGm (by simp [Builtin.zeroCells, Value.cells]; omega))
  have HB := hide ((Below.refl w.heap.size w).drew.trans (recv_below w.drew (.cells (Builtin.zeroCells (Value.int .u8 0).cells n ++ Builtin.zeroCells (Value.int .u8 0).cells (grownCap w n 0 5 - n)) 5)))
  have hG3 : (grownCap w n 0 5 : Int) ≤ 9223372036854775807 := by unfold maxLen at hGm; omega
  generalize grownCap w n 0 5 = G at *
  generalize w.drew.alloc (.cells (Builtin.zeroCells (Value.int .u8 0).cells n ++ Builtin.zeroCells (Value.int .u8 0).cells (G - n)) 5) = w1 at *
  have h1 : ¬ ((n : Int) < 0) := by omega
  have h3 : wrap64 ((n : Int) - 0) = (n : Int) := by unfold wrap64; omega
  have h4 : (n : Int) > 0 := by omega
  have hG2 : (n : Int) ≤ (G : Int) := by omega
  clear hG hGm hi hz0 hz1 hz2
  go_enter Tryz.func246, Tryz.ntmps246
  go_wp2_with (at_builtin; refine Lib.wpList_append_run _ rfl _ _ _ _ rfl _ _ rfl rfl _ _ (HR.out _) ?_)
  go_ret
  exact ⟨_, rfl, HO.out, HB.out⟩
def sumK (a b : Nat) : Nat → Int
  | 0 => 0
  | 1 => (a : Int)
  | _ => ((a + b : Nat) : Int)
def catK (a b : List UInt8) : Nat → List UInt8
  | 0 => []
  | 1 => a
  | _ => a ++ b
set_option maxRecDepth 100000 in
set_option maxHeartbeats 8000000 in
theorem lconcat_by (a1 a2 : Option Addr) (k1 k2 : Nat) (l1 l2 : List UInt8) (q : Nat) (w : World) (hc0 : w.cell? ⟨q, 0, none⟩ = some (.slice a1 l1.length k1)) (hc1 : w.cell? ⟨q, 1, none⟩ = some (.slice a2 l2.length k2)) (hb1 : Bys w (.slice a1 l1.length k1) l1) (hb2 : Bys w (.slice a2 l2.length k2) l2) (hl : l1.length + l2.length ≤ 1099511627776) :
    Calls Tryz.prog 214 #[.slice (some ⟨q, 0, none⟩) 2 2] w fun e w' => ∃ v, e = .returned v ∧ w'.ownsRow w.heap.size 5 1 v (l1.length + l2.length) ((l1 ++ l2).map bv) ∧ Below w.heap.size w w' := by
  have HB1 := hide hb1
  have HB2 := hide hb2
  have HC0 := hide hc0
  have HC1 := hide hc1
  have HL := hide hl
  have HG := hide (fun W => lgrow_any (l1.length + l2.length) W (by omega))
  have e1 : wrap64 (0 + (l1.length : Int)) = (l1.length : Int) := by unfold wrap64; omega
  have e2 : wrap64 ((l1.length : Int) + (l2.length : Int)) = ((l1.length + l2.length : Nat) : Int) := by unfold wrap64; omega
  clear hb1 hb2 hl
  go_enter Tryz.func214, Tryz.ntmps214
  go_wp2
  go_loopw [3, 11] (fun n i wr => ∃ k : Nat, k ≤ 2 ∧ i = .int .i64 k ∧ n = .int .i64 (sumK l1.length l2.length k) ∧ Hid (wr = w)) (fun _ i _ => 2 - (intOf i).toNat)
  case atStart => exact ⟨0, Nat.zero_le _, rfl, rfl, hide rfl⟩
  case round =>
    obtain ⟨k, hk, rfl, rfl, HW⟩ := hrel
    have hc0' := hc0
    have hc1' := hc1
    rw [← HW.out] at hc0' hc1'
    clear hc0 hc1
    match k, hk with
    | 0, _ =>
      have HU : Hid (wrap64 (sumK l1.length l2.length 0 + (l1.length : Int)) = sumK l1.length l2.length 1) := hide e1
      have hU : ¬ (wrap64 (sumK l1.length l2.length 0 + (l1.length : Int)) < 0) := by rw [HU.out]; show ¬ ((l1.length : Int) < 0); omega
      generalize sumK l1.length l2.length 0 = U at *
      clear e1 e2
      go_wp2_with fail
      exact ⟨⟨1, by decide, rfl, by rw [HU.out], HW⟩, by simp [intOf]⟩
    | 1, _ =>
      have HU : Hid (wrap64 (sumK l1.length l2.length 1 + (l2.length : Int)) = sumK l1.length l2.length 2) := hide e2
      have hU : ¬ (wrap64 (sumK l1.length l2.length 1 + (l2.length : Int)) < 0) := by rw [HU.out]; show ¬ (((l1.length + l2.length : Nat) : Int) < 0); omega
      generalize sumK l1.length l2.length 1 = U at *
      clear e1 e2
      go_wp2_with fail
      exact ⟨⟨2, by decide, rfl, by rw [HU.out], HW⟩, by simp [intOf]⟩
    | 2, _ =>
      clear e1 e2 hc0' hc1'
      obtain rfl := HW.out
      go_wp2_with fail
      refine (HG.out _).mono ?_
      rintro _ w1 ⟨u, rfl, hO1, hB1⟩
      have HO1 := hide hO1
      have HW1 := hide hB1
      clear hO1 hB1 HG
      obtain ⟨w0, hw0⟩ : ∃ W, W = wr := ⟨_, rfl⟩
      subst hw0
      go_wp2
      go_loopw [6, 27] (fun n i wr => ∃ k : Nat, k ≤ 2 ∧ i = .int .i64 k ∧ Hid (Below w0.heap.size w0 wr) ∧ Hid (wr.ownsRow w0.heap.size 5 1 n (catK l1 l2 k).length ((catK l1 l2 k).map bv))) (fun _ i _ => 2 - (intOf i).toNat)
      case atStart => exact ⟨0, Nat.zero_le _, rfl, HW1, HO1⟩
      case round =>
        clear HO1 HW1
        obtain ⟨k, hk, rfl, HB, HO⟩ := hrel
        have hs := HB.out.size
        match k, hk with
        | 0, _ =>
          have d0 := (HB.out.cell (World.block_lt_of_cell? w0 _ HC0.out)).trans HC0.out
          obtain ⟨s', w', hr, HO2, hg, -⟩ := run_append_bytes wr 40 w0.heap.size _ _ (catK l1 l2 0) l1 HO.out (HB1.out.below HB.out) (by have := HL.out; show 0 + l1.length ≤ _; omega) hs
          have HR := hide hr
          have HG2 := hide hg
          clear hr hg hs
          go_wp2_with (at_builtin; refine Lib.wpList_append_run _ rfl _ _ _ _ rfl _ _ rfl rfl _ _ HR.out ?_)
          exact ⟨⟨1, by decide, rfl, hide (HB.out.grown HG2.out HB.out.size (fun k e => (HO.out.lt k e).1)), HO2⟩, by simp [intOf]⟩
        | 1, _ =>
          have d1 := (HB.out.cell (World.block_lt_of_cell? w0 _ HC1.out)).trans HC1.out
          obtain ⟨s', w', hr, HO2, hg, -⟩ := run_append_bytes wr 40 w0.heap.size _ _ (catK l1 l2 1) l2 HO.out (HB2.out.below HB.out) (by have := HL.out; show l1.length + l2.length ≤ _; omega) hs
          have HR := hide hr
          have HG2 := hide hg
          clear hr hg hs
          go_wp2_with (at_builtin; refine Lib.wpList_append_run _ rfl _ _ _ _ rfl _ _ rfl rfl _ _ HR.out ?_)
          exact ⟨⟨2, by decide, rfl, hide (HB.out.grown HG2.out HB.out.size (fun k e => (HO.out.lt k e).1)), HO2⟩, by simp [intOf]⟩
        | 2, _ =>
          go_wp2_with fail
          go_ret
          exact ⟨_, rfl, by rw [← List.length_append]; exact HO.out, HB.out⟩
theorem lconcat_any (v1 v2 : Value) (l1 l2 : List UInt8) (q : Nat) (w : World) (hc0 : w.cell? ⟨q, 0, none⟩ = some v1) (hc1 : w.cell? ⟨q, 1, none⟩ = some v2) (h1 : Sl w v1 l1) (h2 : Sl w v2 l2) (hl : l1.length + l2.length ≤ 1099511627776) :
    Calls Tryz.prog 214 #[.slice (some ⟨q, 0, none⟩) 2 2] w fun e w' => ∃ v, e = .returned v ∧ w'.ownsRow w.heap.size 5 1 v (l1.length + l2.length) ((l1 ++ l2).map bv) ∧ Below w.heap.size w w' := by
  obtain ⟨a1, k1, rfl, hb1, -⟩ := h1
  obtain ⟨a2, k2, rfl, hb2, -⟩ := h2
  exact lconcat_by a1 a2 k1 k2 l1 l2 q w hc0 hc1 hb1 hb2 hl
end Go.Proofs.YtndleeafkepdjaaGreat

/- Lines: a copy of a state, its lists apart. -/
namespace Go.Proofs.YtndleeafkepdjaaGreat
open Go.RowKit

set_option maxRecDepth 100000 in
set_option maxHeartbeats 40000000 in
theorem lcopied_any (x : SS) (o i b : Value) (P : Nat → Prop) (w : World) (h : SIn w P x o i b) (ho : x.out.length ≤ 140737488351232) (hi : x.inn.length ≤ 140737488351232) (hb : x.back.length ≤ 140737488351232) :
    Calls Tryz.prog 109 #[.agg #[.bool x.rd, .bool x.wt, .int .i64 x.mode, .int .i64 x.size, o, i, b, .int .i64 x.dir, .bool x.fin, .bool x.bad, .bool x.closed]] w fun e w' => ∃ o' i' b', e = .returned (.agg #[.bool x.rd, .bool x.wt, .int .i64 x.mode, .int .i64 x.size, o', i', b', .int .i64 x.dir, .bool x.fin, .bool x.bad, .bool x.closed]) ∧ w'.ownsRow w.heap.size 5 1 o' x.out.length (x.out.map bv) ∧ w'.ownsRow w.heap.size 5 1 i' x.inn.length (x.inn.map bv) ∧ w'.ownsRow w.heap.size 5 1 b' x.back.length (x.back.map bv) ∧ Below w.heap.size w w' ∧ Ap3 o' i' b' := by
  have HC1 := hide (fun W (hB : Below w.heap.size w W) => bclone_any o x.out W ((h.so.turned (Turned.of_below (S := fun _ => False) hB) (fun _ _ _ => id)).choose_spec.choose_spec.2.1) ho)
  have HC2 := hide (fun W (hB : Below w.heap.size w W) => bclone_any i x.inn W ((h.si.turned (Turned.of_below (S := fun _ => False) hB) (fun _ _ _ => id)).choose_spec.choose_spec.2.1) hi)
  have HC3 := hide (fun W (hB : Below w.heap.size w W) => bclone_any b x.back W ((h.sb.turned (Turned.of_below (S := fun _ => False) hB) (fun _ _ _ => id)).choose_spec.choose_spec.2.1) hb)
  obtain ⟨oa, oc, rfl, -⟩ := h.so
  obtain ⟨ia, ic, rfl, -⟩ := h.si
  obtain ⟨ba, bc, rfl, -⟩ := h.sb
  clear h
  go_enter Tryz.func109, Tryz.ntmps109
  go_wp2_with fail
  have HB0 := hide ((recv_below w (Obj.cells #[.bool x.rd, .bool x.wt, .int .i64 x.mode, .int .i64 x.size, .slice oa x.out.length oc, .slice ia x.inn.length ic, .slice ba x.back.length bc, .int .i64 x.dir, .bool x.fin, .bool x.bad, .bool x.closed] 55)).trans ((recv_below (w.alloc (Obj.cells #[.bool x.rd, .bool x.wt, .int .i64 x.mode, .int .i64 x.size, .slice oa x.out.length oc, .slice ia x.inn.length ic, .slice ba x.back.length bc, .int .i64 x.dir, .bool x.fin, .bool x.bad, .bool x.closed] 55)) (Obj.cells #[.bool false, .bool false, .int .i64 0, .int .i64 0, .slice none 0 0, .slice none 0 0, .slice none 0 0, .int .i64 0, .bool false, .bool false, .bool false] 55)).mono (recv_below w (Obj.cells #[.bool x.rd, .bool x.wt, .int .i64 x.mode, .int .i64 x.size, .slice oa x.out.length oc, .slice ia x.inn.length ic, .slice ba x.back.length bc, .int .i64 x.dir, .bool x.fin, .bool x.bad, .bool x.closed] 55)).size))
  have HS0 := hide ((StAt.new w x (.slice oa x.out.length oc) (.slice ia x.inn.length ic) (.slice ba x.back.length bc)).below (recv_below _ (Obj.cells #[.bool false, .bool false, .int .i64 0, .int .i64 0, .slice none 0 0, .slice none 0 0, .slice none 0 0, .int .i64 0, .bool false, .bool false, .bool false] 55)))
  have HZ0 : Hid (((w.alloc (Obj.cells #[.bool x.rd, .bool x.wt, .int .i64 x.mode, .int .i64 x.size, .slice oa x.out.length oc, .slice ia x.inn.length ic, .slice ba x.back.length bc, .int .i64 x.dir, .bool x.fin, .bool x.bad, .bool x.closed] 55)).alloc (Obj.cells #[.bool false, .bool false, .int .i64 0, .int .i64 0, .slice none 0 0, .slice none 0 0, .slice none 0 0, .int .i64 0, .bool false, .bool false, .bool false] 55)).heap[w.heap.size + 1]? = some (Obj.cells #[.bool false, .bool false, .int .i64 0, .int .i64 0, .slice none 0 0, .slice none 0 0, .slice none 0 0, .int .i64 0, .bool false, .bool false, .bool false] 55)) := hide (by have := heap_alloc_new (w.alloc (Obj.cells #[.bool x.rd, .bool x.wt, .int .i64 x.mode, .int .i64 x.size, .slice oa x.out.length oc, .slice ia x.inn.length ic, .slice ba x.back.length bc, .int .i64 x.dir, .bool x.fin, .bool x.bad, .bool x.closed] 55)) (Obj.cells #[.bool false, .bool false, .int .i64 0, .int .i64 0, .slice none 0 0, .slice none 0 0, .slice none 0 0, .int .i64 0, .bool false, .bool false, .bool false] 55); rw [show (w.alloc (Obj.cells #[.bool x.rd, .bool x.wt, .int .i64 x.mode, .int .i64 x.size, .slice oa x.out.length oc, .slice ia x.inn.length ic, .slice ba x.back.length bc, .int .i64 x.dir, .bool x.fin, .bool x.bad, .bool x.closed] 55)).heap.size = w.heap.size + 1 from Array.size_push ..] at this; exact this)
  generalize (w.alloc (Obj.cells #[.bool x.rd, .bool x.wt, .int .i64 x.mode, .int .i64 x.size, .slice oa x.out.length oc, .slice ia x.inn.length ic, .slice ba x.back.length bc, .int .i64 x.dir, .bool x.fin, .bool x.bad, .bool x.closed] 55)).alloc (Obj.cells #[.bool false, .bool false, .int .i64 0, .int .i64 0, .slice none 0 0, .slice none 0 0, .slice none 0 0, .int .i64 0, .bool false, .bool false, .bool false] 55) = w0 at *
  have hz0 : w.heap.size + 1 < w0.heap.size := (Array.getElem?_eq_some_iff.1 HZ0.out).1
  obtain ⟨-, -, -, -, c4, c5, c6, -⟩ := HS0.out.cs
  go_region_law (first
    | (go_simp; go_at_call 165; have := HB2; refine (HC3.out _ HB2.out).mono ?_; rintro _ w3 ⟨u3, rfl, hO3, hB3⟩; obtain ⟨a3, k3, rfl⟩ := owns_slice hO3; have HS3 := hide (HS2.out.below hB3); have HZ3 := hide ((hB3.block (w.heap.size + 1) (Array.getElem?_eq_some_iff.1 HZ2.out).1).trans HZ2.out); have HB3 := hide (HB2.out.trans (hB3.mono HB2.out.size)); have HO3 := hide (And.intro (And.intro (owns_below HO2.out.1 hB3) (owns_below HO2.out.2 hB3)) hO3); clear hO3 hB3; obtain ⟨f0, f1, f2, f3, f4, f5, f6, f7, f8, f9, f10⟩ := HS3.out.cs; have g4 := frozen_of_row w3 w.heap.size 4 _ _ HS3.out; have g5 := frozen_of_row w3 w.heap.size 5 _ _ HS3.out; have g6 := frozen_of_row w3 w.heap.size 6 _ _ HS3.out)
    | (go_simp; go_at_call 165; have := HB1; refine (HC2.out _ HB1.out).mono ?_; rintro _ w2 ⟨u2, rfl, hO2, hB2⟩; obtain ⟨a2, k2, rfl⟩ := owns_slice hO2; have HS2 := hide (HS1.out.below hB2); have HZ2 := hide ((hB2.block (w.heap.size + 1) (Array.getElem?_eq_some_iff.1 HZ1.out).1).trans HZ1.out); have HB2 := hide (HB1.out.trans (hB2.mono HB1.out.size)); have hs2 := hB2.size; have HO2 := hide (And.intro (owns_below HO1.out hB2) hO2); clear hO2 hB2; obtain ⟨-, -, -, -, e4, e5, e6, -⟩ := HS2.out.cs)
    | (go_simp; go_at_call 165; refine (HC1.out _ (by exact HB0.out.drew)).mono ?_; rintro _ w1 ⟨u1, rfl, hO1, hB1⟩; obtain ⟨a1, k1, rfl⟩ := owns_slice hO1; have HS1 := hide (HS0.out.below ((Below.refl _ _).drew.trans hB1)); have HZ1 := hide ((hB1.block (w.heap.size + 1) (Array.getElem?_eq_some_iff.1 HZ0.out).1).trans HZ0.out); have HB1 := hide (HB0.out.trans (((Below.refl _ _).drew.trans hB1).mono HB0.out.size)); have hs1 : w0.heap.size ≤ w1.heap.size := hB1.size; have HO1 := hide hO1; clear hO1 hB1; obtain ⟨-, -, -, -, d4, d5, d6, -⟩ := HS1.out.cs)
    | fail)
  all_goals
    have e4 := Go.heap_setCell_same w3 w.heap.size 4 _ _ (.slice a1 x.out.length k1) HS3.out
    have e5 := Go.heap_setCell_same _ w.heap.size 5 _ _ (.slice a2 x.inn.length k2) e4
    have e6 := Go.heap_setCell_same _ w.heap.size 6 _ _ (.slice a3 x.back.length k3) e5
    have HS4 : Hid (StAt (((w3.setCell ⟨w.heap.size, 4, none⟩ (.slice a1 x.out.length k1)).setCell ⟨w.heap.size, 5, none⟩ (.slice a2 x.inn.length k2)).setCell ⟨w.heap.size, 6, none⟩ (.slice a3 x.back.length k3)) w.heap.size x (.slice a1 x.out.length k1) (.slice a2 x.inn.length k2) (.slice a3 x.back.length k3)) := hide e6
    have HT4 : Hid (Turned (fun k => k = w.heap.size) w3 (((w3.setCell ⟨w.heap.size, 4, none⟩ (.slice a1 x.out.length k1)).setCell ⟨w.heap.size, 5, none⟩ (.slice a2 x.inn.length k2)).setCell ⟨w.heap.size, 6, none⟩ (.slice a3 x.back.length k3))) := hide ((((Turned.refl (fun k => k = w.heap.size) w3).set (.inl rfl)).set (.inl rfl)).set (.inl rfl))
    clear e4 e5 e6 f0 f1 f2 f3 f4 f5 f6 f7 f8 f9 f10 g4 g5 g6 c4 c5 c6 d4 d5 d6 HS0 HS1 HS2 HS3 HZ0 HZ1 HZ2 HC1 HC2 HC3
    generalize ((w3.setCell ⟨w.heap.size, 4, none⟩ (.slice a1 x.out.length k1)).setCell ⟨w.heap.size, 5, none⟩ (.slice a2 x.inn.length k2)).setCell ⟨w.heap.size, 6, none⟩ (.slice a3 x.back.length k3) = w4 at *
    have HZ4 := hide ((HT4.out.block (w.heap.size + 1) (Array.getElem?_eq_some_iff.1 HZ3.out).1 (by omega)).trans HZ3.out)
    obtain ⟨f0, f1, f2, f3, f4, f5, f6, f7, f8, f9, f10⟩ := HS4.out.cs
    have z0 := cell_of_row w4 (w.heap.size + 1) 0 _ _ _ HZ4.out
    have z1 := cell_of_row w4 (w.heap.size + 1) 1 _ _ _ HZ4.out
    have z2 := cell_of_row w4 (w.heap.size + 1) 2 _ _ _ HZ4.out
    have z3 := cell_of_row w4 (w.heap.size + 1) 3 _ _ _ HZ4.out
    have z4 := cell_of_row w4 (w.heap.size + 1) 4 _ _ _ HZ4.out
    have z5 := cell_of_row w4 (w.heap.size + 1) 5 _ _ _ HZ4.out
    have z6 := cell_of_row w4 (w.heap.size + 1) 6 _ _ _ HZ4.out
    have z7 := cell_of_row w4 (w.heap.size + 1) 7 _ _ _ HZ4.out
    have z8 := cell_of_row w4 (w.heap.size + 1) 8 _ _ _ HZ4.out
    have z9 := cell_of_row w4 (w.heap.size + 1) 9 _ _ _ HZ4.out
    have z10 := cell_of_row w4 (w.heap.size + 1) 10 _ _ _ HZ4.out
    have y0 := frozen_of_row w4 (w.heap.size + 1) 0 _ _ HZ4.out
    have y1 := frozen_of_row w4 (w.heap.size + 1) 1 _ _ HZ4.out
    have y2 := frozen_of_row w4 (w.heap.size + 1) 2 _ _ HZ4.out
    have y3 := frozen_of_row w4 (w.heap.size + 1) 3 _ _ HZ4.out
    have y4 := frozen_of_row w4 (w.heap.size + 1) 4 _ _ HZ4.out
    have y5 := frozen_of_row w4 (w.heap.size + 1) 5 _ _ HZ4.out
    have y6 := frozen_of_row w4 (w.heap.size + 1) 6 _ _ HZ4.out
    have y7 := frozen_of_row w4 (w.heap.size + 1) 7 _ _ HZ4.out
    have y8 := frozen_of_row w4 (w.heap.size + 1) 8 _ _ HZ4.out
    have y9 := frozen_of_row w4 (w.heap.size + 1) 9 _ _ HZ4.out
    have y10 := frozen_of_row w4 (w.heap.size + 1) 10 _ _ HZ4.out
    simp at z0 z1 z2 z3 z4 z5 z6 z7 z8 z9 z10
    go_wp2
    obtain ⟨e1, e2⟩ := st_fill w4 (w.heap.size + 1) x (.slice a1 x.out.length k1) (.slice a2 x.inn.length k2) (.slice a3 x.back.length k3) HZ4.out
    have HTw := hide ((HT4.out.mono fun k e => (.inl e : k = w.heap.size ∨ k = w.heap.size + 1)).trans (e2.mono fun k e => (.inr e : k = w.heap.size ∨ k = w.heap.size + 1)) (fun _ _ e => e))
    refine bodyPost_ret (results_cell_row rfl _ _ (w.heap.size + 1) _ _ _ _ rfl e1 Tryz.underlying55 rfl (by kernel_rfl)) rfl ?_
    have far : ∀ k, w.heap.size + 1 < k → ¬ (k = w.heap.size ∨ k = w.heap.size + 1) := fun k h e => by omega
    have hr1 := HO3.out.1.1
    have hr2 := HO3.out.1.2
    have hr3 := HO3.out.2
    have hs0 : w.heap.size + 1 < w0.drew.heap.size := hz0
    exact ⟨_, _, _, rfl, owns_mono (owns_turned hr1 HTw.out (fun k e => far k (by have := (hr1.lt k e).1; omega))) (by omega), owns_mono (owns_turned hr2 HTw.out (fun k e => far k (by have := (hr2.lt k e).1; omega))) (by omega), owns_mono (owns_turned hr3 HTw.out (fun k e => far k (by have := (hr3.lt k e).1; omega))) (by omega), (HTw.out.below (B := w.heap.size) (fun k e => by omega) HB3.out.size) |> HB3.out.trans, fun k e => ⟨fun e' => by have := (HO1.out.lt k e).2; have := (HO2.out.2.lt k e').1; omega, fun e' => by have := (HO1.out.lt k e).2; have := (HO3.out.2.lt k e').1; omega⟩, fun k e e' => by have := (HO2.out.2.lt k e).2; have := (HO3.out.2.lt k e').1; omega⟩
end Go.Proofs.YtndleeafkepdjaaGreat
