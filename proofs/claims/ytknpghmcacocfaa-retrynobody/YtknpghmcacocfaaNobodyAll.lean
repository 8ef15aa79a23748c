/- RetryNobody answers true for every number and all bytes: a Raw that is nil is told so, and sizes out of their range are refused. -/
import Derived.Test.YtknpghmcacocfaaKM14
import Derived.ProofKit
import Derived.OpenShut
import Derived.ShutString
import Derived.ChangeOld
import Derived.Below
import Derived.SizedLaws
/- RetryNobody, walked. -/
namespace Go.Proofs.Ytknpghmcacocfaa
open Go.RowKit Go.Maps

set_option maxRecDepth 100000 in
theorem some_nil (n : Int) (w : World) : Calls Try.prog 29 #[.nilIface, .int .i64 n] w fun e w' => e = .returned (.tuple #[.slice none 0 0, .int .i64 2]) ∧ w = w' := by
  go_enter Try.func29, Try.ntmps29
  go_wp2_with (first | (go_at_call 51; refine (readable_nil n _).mono ?_; rintro _ _ ⟨rfl, rfl⟩) | fail)
  go_ret2
  exact ⟨rfl, rfl⟩
set_option maxRecDepth 100000 in
theorem all_nil (n : Int) (w : World) : Calls Try.prog 26 #[.nilIface, .int .i64 n] w fun e w' => e = .returned (.tuple #[.slice none 0 0, .int .i64 2]) ∧ w = w' := by
  go_enter Try.func26, Try.ntmps26
  go_wp2_with (first | (go_at_call 51; refine (readable_nil n _).mono ?_; rintro _ _ ⟨rfl, rfl⟩) | fail)
  go_ret2
  exact ⟨rfl, rfl⟩
set_option maxRecDepth 100000 in
theorem put_nil (v : Value) (w : World) : Calls Try.prog 27 #[.nilIface, v] w fun e w' => e = .returned (.tuple #[.int .i64 0, .int .i64 2]) ∧ w = w' := by
  go_enter Try.func27, Try.ntmps27
  go_wp2
  go_ret2
  exact ⟨rfl, rfl⟩
set_option maxRecDepth 100000 in
theorem some_no (T : TypeId) (v : Value) (n : Int) (w : World) (h : n < 1 ∨ 1048576 < n) : Calls Try.prog 29 #[.iface T v, .int .i64 n] w fun e w' => e = .returned (.tuple #[.slice none 0 0, .int .i64 4]) ∧ w = w' := by
  have H := hide h
  clear h
  go_enter Try.func29, Try.ntmps29
  go_wp2_with (first | (go_at_call 51; refine (readable_no T v n _ H.out).mono ?_; rintro _ _ ⟨rfl, rfl⟩) | fail)
  go_ret2
  exact ⟨rfl, rfl⟩
/-- An Odd that is new. -/
theorem odd_new (w : World) (rv wv : Value) (s : OddS) (O : Nat → Prop) (hO : O w.heap.size) (h1 : IRow w rv s.reads) (h2 : IRow w wv s.writes) (h3 : ∀ k, rv.ownBlock = some k → O k ∧ k < w.heap.size) (h4 : ∀ k, wv.ownBlock = some k → O k ∧ k < w.heap.size) : OddAt w.heap.size (w.alloc (Obj.cells #[rv, wv, .int .i64 s.err] 67)) O s := by
  have hB := recv_below w (Obj.cells #[rv, wv, .int .i64 s.err] 67)
  have hn := heap_alloc_new w (Obj.cells #[rv, wv, .int .i64 s.err] 67)
  refine ⟨rv, wv, ?_, ?_, ?_, ?_, ?_, h1.keep (fun k _ hl => hB.block k hl), h2.keep (fun k _ hl => hB.block k hl), hO, fun k e => ⟨(h3 k e).1, by have := (h3 k e).2; omega⟩, fun k e => ⟨(h4 k e).1, by have := (h4 k e).2; omega⟩⟩
  · simp only [World.cell?, hn]; rfl
  · simp only [World.cell?, hn]; rfl
  · simp only [World.cell?, hn]; rfl
  · simp only [World.frozen?, hn]; rfl
  · simp only [World.frozen?, hn]; rfl
theorem nob_some (n : Nat) : someOk oddD (fun _ => True) n 8192 ⟨[], [], 0⟩ ∧ someV oddD n 8192 ⟨[], [], 0⟩ = ([], 0, ⟨[], [], 0⟩) := by
  constructor
  · exact ⟨trivial, fun e => absurd e (by show ¬ ((0 : Int) = 22 ∨ (0 : Int) = 23); decide)⟩
  · show someV oddD n (8191 + 1) ⟨[], [], 0⟩ = _
    rw [someV_next oddD n 8191 _ (show oddD.read ⟨[], [], 0⟩ n = ([], 0, ⟨[], [], 0⟩) from rfl), if_neg (by decide), if_neg (by simp), if_pos rfl]
theorem nob_put {S : Type} (D : RawD S) (ok : S → Prop) (s : S) : putOk D ok [] (putF []) s 0 0 ∧ putV D [] (putF []) s 0 0 = (0, 0, s) := by
  refine ⟨?_, putV_done D [] _ s 0 0 (by simp)⟩
  generalize putF [] = k
  cases k with
  | zero => trivial
  | succ k => exact fun e => absurd e (by simp)
set_option maxRecDepth 100000 in
set_option maxHeartbeats 4000000 in
theorem retryNobody_any (n : Int) (a : Option Addr) (bl bc : Nat) (w : World) :
    Calls Try.prog 8 #[.int .i64 n, .slice a bl bc] w fun e w' => e = .returned (.bool true) ∧ Below w.heap.size w w' := by
  have HAl := hide (ralive_any w)
  go_enter Try.func8, Try.ntmps8
  go_wp2_with fail
  refine HAl.out.mono ?_
  rintro e w1 ⟨rfl, hB1⟩
  have HB1 := hide hB1
  have hs1 := hB1.size
  clear hB1 HAl
  have HOd := hide (odd_new w1 (.slice none 0 0) (.slice none 0 0) ⟨[], [], 0⟩ (fun k => k = w1.heap.size) rfl irow_none irow_none (fun k e => by cases e) (fun k e => by cases e))
  have HBo := hide (recv_below w1 (Obj.cells #[.slice none 0 0, .slice none 0 0, .int .i64 0] 67))
  have hso : (w1.alloc (Obj.cells #[.slice none 0 0, .slice none 0 0, .int .i64 0] 67)).heap.size = w1.heap.size + 1 := by simp
  by_cases hn : n < 1 ∨ 1048576 < n
  · have HNo := hide hn
    have hb : n < 1 ∨ (¬ n < 1 ∧ 1048576 < n) := by omega
    clear hn
    rcases hb with hb | ⟨hb, hb2⟩
    all_goals
      go_wp2_with fail
      refine (some_nil _ _).mono ?_
      rintro _ _ ⟨rfl, rfl⟩
      go_wp2_with fail
      refine (all_nil _ _).mono ?_
      rintro _ _ ⟨rfl, rfl⟩
      go_wp2_with fail
      refine (put_nil _ _).mono ?_
      rintro _ _ ⟨rfl, rfl⟩
      go_wp2_with (first | (go_at_call 25; refine (num_re _ _).mono ?_; rintro _ _ ⟨rfl, rfl⟩) | fail)
      generalize w1.alloc (Obj.cells #[.slice none 0 0, .slice none 0 0, .int .i64 0] 67) = w2 at *
      refine (some_no _ _ n _ HNo.out).mono ?_
      rintro _ _ ⟨rfl, rfl⟩
      have HPu := hide (rput_any (odd_raw w1.heap.size) (O := fun k => k = w1.heap.size) [] none 0 HOd.out (fun j e => by subst e; omega) (.inl ⟨rfl, rfl⟩) (by decide) (by decide) (fun k e => by cases e) (nob_put oddD _ _).1)
      rw [(nob_put oddD (fun _ => True) _).2] at HPu
      go_wp2_with fail
      refine HPu.out.mono ?_
      rintro _ w3 ⟨rfl, O3, -, -, hT3⟩
      have HB3 := hide ((HB1.out.trans (HBo.out.mono hs1)).trans (hT3.below (fun j e => by subst e; exact hs1) (by omega)))
      clear hT3
      go_wp2_with (first | (go_at_call 25; refine (num_re _ _).mono ?_; rintro _ _ ⟨rfl, rfl⟩) | fail)
      go_ret
      exact ⟨rfl, HB3.out⟩
  · have hb : ¬ n < 1 := fun e => hn (.inl e)
    have hb2 : ¬ 1048576 < n := fun e => hn (.inr e)
    obtain ⟨q, rfl⟩ : ∃ q : Nat, n = (q : Int) := ⟨n.toNat, by omega⟩
    clear hn
    go_wp2_with fail
    refine (some_nil _ _).mono ?_
    rintro _ _ ⟨rfl, rfl⟩
    go_wp2_with fail
    refine (all_nil _ _).mono ?_
    rintro _ _ ⟨rfl, rfl⟩
    go_wp2_with fail
    refine (put_nil _ _).mono ?_
    rintro _ _ ⟨rfl, rfl⟩
    go_wp2_with (first | (go_at_call 25; refine (num_re _ _).mono ?_; rintro _ _ ⟨rfl, rfl⟩) | fail)
    generalize w1.alloc (Obj.cells #[.slice none 0 0, .slice none 0 0, .int .i64 0] 67) = w2 at *
    have HSo := hide (some_any (odd_raw w1.heap.size) (O := fun k => k = w1.heap.size) q HOd.out (by omega) (by omega) (nob_some q).1)
    rw [(nob_some q).2] at HSo
    refine HSo.out.mono ?_
    rintro _ w3 ⟨u, rfl, -, hA3, hT3⟩
    have hs3 := hT3.size
    have HPu := hide (rput_any (odd_raw w1.heap.size) (O := fun k => k = w1.heap.size) [] none 0 hA3 (fun j e => by subst e; omega) (.inl ⟨rfl, rfl⟩) (by decide) (by decide) (fun k e => by cases e) (nob_put oddD _ _).1)
    rw [(nob_put oddD (fun _ => True) _).2] at HPu
    have HT3 := hide hT3
    clear hA3 hT3
    go_wp2_with fail
    refine HPu.out.mono ?_
    rintro _ w4 ⟨rfl, O4, -, -, hT4⟩
    have HB3 := hide ((HB1.out.trans (HBo.out.mono hs1)).trans ((HT3.out.trans hT4 (fun _ _ e => e)).below (fun j e => by subst e; exact hs1) (by omega)))
    clear hT4
    go_wp2_with (first | (go_at_call 25; refine (num_re _ _).mono ?_; rintro _ _ ⟨rfl, rfl⟩) | fail)
    go_ret
    exact ⟨by show Ending.returned (Value.bool (!decide ((q : Int) < 1) && !decide (1048576 < (q : Int)))) = _; rw [decide_eq_false (by omega), decide_eq_false (by omega)]; rfl, HB3.out⟩
end Go.Proofs.Ytknpghmcacocfaa

/- RetryNobody answers true for every number and all bytes: a Raw that is nil is told so, and sizes out of their range are refused. -/
namespace Go.Proofs.Ytknpghmcacocfaa.retryNobody
open Go.ChangeShapes Go.WideShapes Go.ChangeAt Go.RowKit
open Go.ChangeMaps (open_string shut_string)
set_option linter.unusedVariables false

theorem own : ownKnob Try.prog.godebug = none := by kernel_rfl
theorem laidOut : laidOutB Try.prog = true := by kernel_rfl

set_option maxRecDepth 100000 in
theorem lifted (os : Os) (started : os.Started) (H : Type) (enc : TypeId × Value → H) :
    ReturnsInHanded {} Try.checked os 8 .any (Rows.retryNobodySpec.pre6 enc Try.prog Try.f8 Rows.retryNobodyRow.domain false) (Rows.retryNobodySpec.post enc Try.prog Try.f8 false true false false) := by
  refine returnsInHanded_of_change_sized (C := Try.checked) own started (by kernel_rfl) Try.func8
    (ChangeSpec.witness6 (enc := enc) (C := Try.checked) false ⟨#[], #[.int .i64 0, .slice none 0 0], []⟩ 8 (by kernel_rfl) (by kernel_rfl) (by kernel_rfl) (by kernel_rfl)) ?_
  intro W base args ds gs before hval0 hW hcnd0 hsz0 _
  have hsz : (DataW.weightsEach Try.prog (Try.f8.params.toList ++ Rows.retryNobodySpec.plain.varTypes Try.prog) (ds ++ gs)).all (· ≤ reachBytes) = true := hsz0
  clear hsz0
  have hval : ∀ (j : Nat) t v, Try.f8.params[j]? = some t → args[j]? = some v → Value.okWide Try.prog W .any base t v := hval0
  have hW' := hW
  obtain ⟨p, q, hA0, hV, rfl, hfz, hnd⟩ := hW
  have hA : DataW.TrodAll enc Try.prog W 0 (fun _ => true) true Try.f8.params.toList args.toList ds p := hA0
  rw [Try.params8] at hA hval hsz
  obtain ⟨v0, vs0, d0, ds0, p0, q0, hargs, rfl, rfl, h0, r0⟩ := trodAll_cons hA
  obtain ⟨v1, vs1, d1, ds1, p1, q1, rfl, rfl, rfl, h1, r1⟩ := trodAll_cons r0
  obtain ⟨rfl, rfl, rfl⟩ := trodAll_nil r1
  obtain rfl : args = #[v0, v1] := by cases args; simp_all
  obtain ⟨rfl, rfl⟩ := trodVars_none hV
  obtain ⟨a0, rfl, rfl, rfl, w0⟩ := open_int Try.underlying3 (hval 0 3 v0 rfl rfl) h0
  have b0 := bounds_i64 w0
  obtain ⟨c1, len1, cap1, rfl⟩ := okWide_slice Try.underlying22 (hval 1 22 v1 rfl rfl)
  have k1 := h1
  have lt1 : ∀ x ∈ p1, x.block < W.heap.size := by obtain ⟨m, hm⟩ := k1; exact DataW.trod_lt m _ _ _ hm
  obtain ⟨fuel1, hf1⟩ := h1
  obtain ⟨l1, y1, m1, e1⟩ := bytes_arg2 Try.underlying22 Try.underlying5 (by kernel_rfl) hf1
  have z1 : l1.length ≤ 140737488351232 := by
    rcases e1 with ⟨_, rfl⟩ | ⟨elems, spare, rfl, hll⟩
    · simp
    · have := sized_slice hsz (j := 1) (t := 22) (e := 5) rfl rfl Try.underlying22
      rw [show Try.prog.bytesOf 5 = 1 by kernel_rfl] at this; simp only [reachBytes] at this; omega
  clear hA0
  refine ((retryNobody_any a0 _ _ _ W)).mono fun e W' ⟨he, bel⟩ => ?_
  subst he
  exact ⟨_, rfl, _, _, _, [], _, [], hW', trodAll_mk1 (shut_bool Try.underlying4 _), (trodAll_cons_mk (shut_int Try.underlying3 w0) (trodAll_cons_mk (Below.trod laidOut (by kernel_rfl) (of_decide_eq_true (by kernel_rfl)) k1 bel lt1) trodAll_mk0)), rfl, bel.frame _, fun h => by cases h⟩

theorem over : Rows.retryNobodyRow.holds Try.pinned (OpenSpec.ofChange Rows.retryNobodySpec) :=
  OpenClaim.holds_of_wide 8 Try.f8 rfl rfl rfl rfl rfl rfl rfl ⟨rfl, rfl, rfl, rfl, rfl⟩ rfl rfl rfl rfl rfl (by kernel_rfl) Try.func8 (by kernel_rfl)
    (of_decide_eq_true (by kernel_rfl)) (by unfold Func.isWrapper; first | (rw [if_pos (by decide +kernel)]; kernel_rfl) | (rw [if_neg (by decide +kernel)]; exact ⟨rfl, rfl⟩))
    (fun os started H enc _ => lifted os started H enc)
end Go.Proofs.Ytknpghmcacocfaa.retryNobody
namespace Go.Proofs.Ytknpghmcacocfaa
theorem retryNobody_holds : Rows.RetryNobodySaid := retryNobody.over
#print axioms retryNobody_holds
end Go.Proofs.Ytknpghmcacocfaa
