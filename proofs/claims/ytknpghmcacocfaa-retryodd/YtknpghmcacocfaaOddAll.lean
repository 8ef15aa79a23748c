/- RetryOdd answers true for all numbers that an odd Raw answers, every error and every number, within the reach of a machine's memory: a Raw that answers more than was asked for, or than it was given, is told so; one that never goes on is given up. -/
import Derived.Test.YtknpghmcacocfaaKM14
import Derived.Deep.DeepCutAuto
import Derived.Deep.CutBlock
import Derived.Deep.RegionWith
import Derived.ProofKit
import Derived.OpenShut
import Derived.ShutString
import Derived.ChangeOld
import Derived.Below
import Derived.SizedLaws
/- RetryNobody, walked. -/
namespace Go.Proofs.Ytknpghmcacocfaa
open Go.RowKit Go.Maps

set_option maxRecDepth 100000 in
theorem some_nil (n : Int) (w : World) : Calls Try.prog 29 #[.nilIface, .int .i64 n] w fun e w' => e = .returned (.tuple #[.slice none 0 0, .int .i64 2]) ∧ w = w' := by
  go_enter Try.func29, Try.ntmps29
  go_wp2_with (first | (go_at_call 51; refine (readable_nil n _).mono ?_; rintro _ _ ⟨rfl, rfl⟩) | fail)
  go_ret2
  exact ⟨rfl, rfl⟩
set_option maxRecDepth 100000 in
theorem all_nil (n : Int) (w : World) : Calls Try.prog 26 #[.nilIface, .int .i64 n] w fun e w' => e = .returned (.tuple #[.slice none 0 0, .int .i64 2]) ∧ w = w' := by
  go_enter Try.func26, Try.ntmps26
  go_wp2_with (first | (go_at_call 51; refine (readable_nil n _).mono ?_; rintro _ _ ⟨rfl, rfl⟩) | fail)
  go_ret2
  exact ⟨rfl, rfl⟩
set_option maxRecDepth 100000 in
theorem put_nil (v : Value) (w : World) : Calls Try.prog 27 #[.nilIface, v] w fun e w' => e = .returned (.tuple #[.int .i64 0, .int .i64 2]) ∧ w = w' := by
  go_enter Try.func27, Try.ntmps27
  go_wp2
  go_ret2
  exact ⟨rfl, rfl⟩
set_option maxRecDepth 100000 in
theorem some_no (T : TypeId) (v : Value) (n : Int) (w : World) (h : n < 1 ∨ 1048576 < n) : Calls Try.prog 29 #[.iface T v, .int .i64 n] w fun e w' => e = .returned (.tuple #[.slice none 0 0, .int .i64 4]) ∧ w = w' := by
  have H := hide h
  clear h
  go_enter Try.func29, Try.ntmps29
  go_wp2_with (first | (go_at_call 51; refine (readable_no T v n _ H.out).mono ?_; rintro _ _ ⟨rfl, rfl⟩) | fail)
  go_ret2
  exact ⟨rfl, rfl⟩
/-- An Odd that is new. -/
theorem odd_new (w : World) (rv wv : Value) (s : OddS) (O : Nat → Prop) (hO : O w.heap.size) (h1 : IRow w rv s.reads) (h2 : IRow w wv s.writes) (h3 : ∀ k, rv.ownBlock = some k → O k ∧ k < w.heap.size) (h4 : ∀ k, wv.ownBlock = some k → O k ∧ k < w.heap.size) : OddAt w.heap.size (w.alloc (Obj.cells #[rv, wv, .int .i64 s.err] 67)) O s := by
  have hB := recv_below w (Obj.cells #[rv, wv, .int .i64 s.err] 67)
  have hn := heap_alloc_new w (Obj.cells #[rv, wv, .int .i64 s.err] 67)
  refine ⟨rv, wv, ?_, ?_, ?_, ?_, ?_, h1.keep (fun k _ hl => hB.block k hl), h2.keep (fun k _ hl => hB.block k hl), hO, fun k e => ⟨(h3 k e).1, by have := (h3 k e).2; omega⟩, fun k e => ⟨(h4 k e).1, by have := (h4 k e).2; omega⟩⟩
  · simp only [World.cell?, hn]; rfl
  · simp only [World.cell?, hn]; rfl
  · simp only [World.cell?, hn]; rfl
  · simp only [World.frozen?, hn]; rfl
  · simp only [World.frozen?, hn]; rfl
theorem nob_some (n : Nat) : someOk oddD (fun _ => True) n 8192 ⟨[], [], 0⟩ ∧ someV oddD n 8192 ⟨[], [], 0⟩ = ([], 0, ⟨[], [], 0⟩) := by
  constructor
  · exact ⟨trivial, fun e => absurd e (by show ¬ ((0 : Int) = 22 ∨ (0 : Int) = 23); decide)⟩
  · show someV oddD n (8191 + 1) ⟨[], [], 0⟩ = _
    rw [someV_next oddD n 8191 _ (show oddD.read ⟨[], [], 0⟩ n = ([], 0, ⟨[], [], 0⟩) from rfl), if_neg (by decide), if_neg (by simp), if_pos rfl]
theorem nob_put {S : Type} (D : RawD S) (ok : S → Prop) (s : S) : putOk D ok [] (putF []) s 0 0 ∧ putV D [] (putF []) s 0 0 = (0, 0, s) := by
  refine ⟨?_, putV_done D [] _ s 0 0 (by simp)⟩
  generalize putF [] = k
  cases k with
  | zero => trivial
  | succ k => exact fun e => absurd e (by simp)
set_option maxRecDepth 100000 in
set_option maxHeartbeats 4000000 in
theorem retryNobody_any (n : Int) (a : Option Addr) (bl bc : Nat) (w : World) :
    Calls Try.prog 8 #[.int .i64 n, .slice a bl bc] w fun e w' => e = .returned (.bool true) ∧ Below w.heap.size w w' := by
  have HAl := hide (ralive_any w)
  go_enter Try.func8, Try.ntmps8
  go_wp2_with fail
  refine HAl.out.mono ?_
  rintro e w1 ⟨rfl, hB1⟩
  have HB1 := hide hB1
  have hs1 := hB1.size
  clear hB1 HAl
  have HOd := hide (odd_new w1 (.slice none 0 0) (.slice none 0 0) ⟨[], [], 0⟩ (fun k => k = w1.heap.size) rfl irow_none irow_none (fun k e => by cases e) (fun k e => by cases e))
  have HBo := hide (recv_below w1 (Obj.cells #[.slice none 0 0, .slice none 0 0, .int .i64 0] 67))
  have hso : (w1.alloc (Obj.cells #[.slice none 0 0, .slice none 0 0, .int .i64 0] 67)).heap.size = w1.heap.size + 1 := by simp
  by_cases hn : n < 1 ∨ 1048576 < n
  · have HNo := hide hn
    have hb : n < 1 ∨ (¬ n < 1 ∧ 1048576 < n) := by omega
    clear hn
    rcases hb with hb | ⟨hb, hb2⟩
    all_goals
      go_wp2_with fail
      refine (some_nil _ _).mono ?_
      rintro _ _ ⟨rfl, rfl⟩
      go_wp2_with fail
      refine (all_nil _ _).mono ?_
      rintro _ _ ⟨rfl, rfl⟩
      go_wp2_with fail
      refine (put_nil _ _).mono ?_
      rintro _ _ ⟨rfl, rfl⟩
      go_wp2_with (first | (go_at_call 25; refine (num_re _ _).mono ?_; rintro _ _ ⟨rfl, rfl⟩) | fail)
      generalize w1.alloc (Obj.cells #[.slice none 0 0, .slice none 0 0, .int .i64 0] 67) = w2 at *
      refine (some_no _ _ n _ HNo.out).mono ?_
      rintro _ _ ⟨rfl, rfl⟩
      have HPu := hide (rput_any (odd_raw w1.heap.size) (O := fun k => k = w1.heap.size) [] none 0 HOd.out (fun j e => by subst e; omega) (.inl ⟨rfl, rfl⟩) (by decide) (by decide) (fun _ k e => by cases e) (nob_put oddD _ _).1)
      rw [(nob_put oddD (fun _ => True) _).2] at HPu
      go_wp2_with fail
      refine HPu.out.mono ?_
      rintro _ w3 ⟨rfl, O3, -, -, hT3⟩
      have HB3 := hide ((HB1.out.trans (HBo.out.mono hs1)).trans (hT3.below (fun j e => by subst e; exact hs1) (by omega)))
      clear hT3
      go_wp2_with (first | (go_at_call 25; refine (num_re _ _).mono ?_; rintro _ _ ⟨rfl, rfl⟩) | fail)
      go_ret
      exact ⟨rfl, HB3.out⟩
  · have hb : ¬ n < 1 := fun e => hn (.inl e)
    have hb2 : ¬ 1048576 < n := fun e => hn (.inr e)
    obtain ⟨q, rfl⟩ : ∃ q : Nat, n = (q : Int) := ⟨n.toNat, by omega⟩
    clear hn
    go_wp2_with fail
    refine (some_nil _ _).mono ?_
    rintro _ _ ⟨rfl, rfl⟩
    go_wp2_with fail
    refine (all_nil _ _).mono ?_
    rintro _ _ ⟨rfl, rfl⟩
    go_wp2_with fail
    refine (put_nil _ _).mono ?_
    rintro _ _ ⟨rfl, rfl⟩
    go_wp2_with (first | (go_at_call 25; refine (num_re _ _).mono ?_; rintro _ _ ⟨rfl, rfl⟩) | fail)
    generalize w1.alloc (Obj.cells #[.slice none 0 0, .slice none 0 0, .int .i64 0] 67) = w2 at *
    have HSo := hide (some_any (odd_raw w1.heap.size) (O := fun k => k = w1.heap.size) q HOd.out (by omega) (by omega) (nob_some q).1)
    rw [(nob_some q).2] at HSo
    refine HSo.out.mono ?_
    rintro _ w3 ⟨u, rfl, -, hA3, hT3⟩
    have hs3 := hT3.size
    have HPu := hide (rput_any (odd_raw w1.heap.size) (O := fun k => k = w1.heap.size) [] none 0 hA3 (fun j e => by subst e; omega) (.inl ⟨rfl, rfl⟩) (by decide) (by decide) (fun _ k e => by cases e) (nob_put oddD _ _).1)
    rw [(nob_put oddD (fun _ => True) _).2] at HPu
    have HT3 := hide hT3
    clear hA3 hT3
    go_wp2_with fail
    refine HPu.out.mono ?_
    rintro _ w4 ⟨rfl, O4, -, -, hT4⟩
    have HB3 := hide ((HB1.out.trans (HBo.out.mono hs1)).trans ((HT3.out.trans hT4 (fun _ _ e => e)).below (fun j e => by subst e; exact hs1) (by omega)))
    clear hT4
    go_wp2_with (first | (go_at_call 25; refine (num_re _ _).mono ?_; rintro _ _ ⟨rfl, rfl⟩) | fail)
    go_ret
    exact ⟨by show Ending.returned (Value.bool (!decide ((q : Int) < 1) && !decide (1048576 < (q : Int)))) = _; rw [decide_eq_false (by omega), decide_eq_false (by omega)]; rfl, HB3.out⟩
end Go.Proofs.Ytknpghmcacocfaa

/- RetryOdd: what Some and Put answer over an Odd, as values. -/
namespace Go.Proofs.Ytknpghmcacocfaa
open Go.RowKit Go.Maps Go.ChangeShapes Go.WideShapes Go.ChangeAt Go.Deep

theorem odd_some_ok (n : Nat) : ∀ k s, someOk oddD (fun _ => True) n k s
  | 0, _ => trivial
  | k + 1, _ => ⟨trivial, fun _ => odd_some_ok n k _⟩
theorem odd_put_ok (bs : List UInt8) : ∀ k s d t, putOk oddD (fun _ => True) bs k s d t
  | 0, _, _, _ => trivial
  | k + 1, _, _, _ => fun _ => ⟨trivial, fun _ _ => odd_put_ok bs k _ _ _, fun _ _ _ => odd_put_ok bs k _ _ _⟩
theorem odd_some_more (n : Nat) (k : Int) (r ws : List Int) (e : Int) (h1 : (n : Int) < k) (h2 : n ≤ 40) : ∃ s, someV oddD n 8192 ⟨k :: r, ws, e⟩ = ([], 82, s) := by
  refine ⟨⟨r, ws, e⟩, ?_⟩
  show someV oddD n (8191 + 1) _ = _
  rw [someV_next oddD n 8191 _ (show oddD.read ⟨k :: r, ws, e⟩ n = (List.replicate (min k.toNat 5000) 0, 0, ⟨r, ws, e⟩) from rfl), if_neg (by decide), if_pos (by rw [List.length_replicate]; omega)]
theorem odd_some_few (n : Nat) (k : Int) (r ws : List Int) (e : Int) (h1 : k ≤ (n : Int)) (h2 : n ≤ 40) : ∃ s, someV oddD n 8192 ⟨k :: r, ws, e⟩ = (List.replicate k.toNat 0, 0, s) := by
  refine ⟨⟨r, ws, e⟩, ?_⟩
  show someV oddD n (8191 + 1) _ = _
  rw [someV_next oddD n 8191 _ (show oddD.read ⟨k :: r, ws, e⟩ n = (List.replicate (min k.toNat 5000) 0, 0, ⟨r, ws, e⟩) from rfl), if_neg (by decide), if_neg (by rw [List.length_replicate]; omega), if_pos rfl, show min k.toNat 5000 = k.toNat by omega]
theorem odd_some_tries (n : Nat) (ws : List Int) (e : Int) (he : e = 22 ∨ e = 23) : ∀ k, someV oddD n k ⟨[], ws, e⟩ = ([], 81, ⟨[], ws, e⟩)
  | 0 => rfl
  | k + 1 => by
    rw [someV_next oddD n k _ (show oddD.read ⟨[], ws, e⟩ n = ([], e, ⟨[], ws, e⟩) from rfl), if_pos he]
    exact odd_some_tries n ws e he k
theorem odd_some_err (n : Nat) (ws : List Int) (e : Int) (he : ¬ (e = 22 ∨ e = 23)) : someV oddD n 8192 ⟨[], ws, e⟩ = ([], e, ⟨[], ws, e⟩) := by
  show someV oddD n (8191 + 1) _ = _
  rw [someV_next oddD n 8191 _ (show oddD.read ⟨[], ws, e⟩ n = ([], e, ⟨[], ws, e⟩) from rfl), if_neg he, if_neg (by simp)]
  split
  · rename_i h; rw [h]
  · rfl
/-- So far the law's own reckoning and Put's agree. -/
def OPut (bs : List UInt8) (ws : List Int) (e : Int) (R : Nat × Int) (i d : Nat) : Prop := ∃ f t, t ≤ i ∧ (bs.length - d) * 8192 + (8192 - t) ≤ f ∧ ((putV oddD bs f ⟨[], ws.drop i, e⟩ d t).1, (putV oddD bs f ⟨[], ws.drop i, e⟩ d t).2.1) = R
theorem oput_start (bs : List UInt8) (ws : List Int) (e : Int) : OPut bs ws e ((putV oddD bs (putF bs) ⟨[], ws, e⟩ 0 0).1, (putV oddD bs (putF bs) ⟨[], ws, e⟩ 0 0).2.1) 0 0 := ⟨putF bs, 0, Nat.le_refl _, by unfold putF; omega, rfl⟩
theorem drop_cons {ws : List Int} {i : Nat} (h : i < ws.length) : ws.drop i = ws[i] :: ws.drop (i + 1) := List.drop_eq_getElem_cons h
set_option maxRecDepth 100000 in
theorem oput_bad {bs : List UInt8} {ws : List Int} {e : Int} {R : Nat × Int} {i d : Nat} (h : OPut bs ws e R i d) (hi : i < ws.length) (hd : d < bs.length) (hb : ws[i] < 0 ∨ ((bs.length - d : Nat) : Int) < ws[i]) : R = (d, 82) := by
  obtain ⟨f, t, h1, h2, rfl⟩ := h
  obtain ⟨f, rfl⟩ : ∃ g, f = g + 1 := ⟨f - 1, by omega⟩
  rw [putV_next oddD bs f _ d t (show oddD.write ⟨[], ws.drop i, e⟩ (bs.drop d) = (ws[i], 0, ⟨[], ws.drop (i + 1), e⟩) by rw [drop_cons hi]; rfl), if_pos hd, if_neg (by omega), if_pos hb]
set_option maxRecDepth 100000 in
theorem oput_next {bs : List UInt8} {ws : List Int} {e : Int} {R : Nat × Int} {i d : Nat} (h : OPut bs ws e R i d) (hi : i < ws.length) (hd : d < bs.length) (hi4 : i < 4000) (h0 : 0 ≤ ws[i]) (h9 : ws[i] ≤ ((bs.length - d : Nat) : Int)) : OPut bs ws e R (i + 1) (d + ws[i].toNat) := by
  obtain ⟨f, t, h1, h2, rfl⟩ := h
  obtain ⟨f, rfl⟩ : ∃ g, f = g + 1 := ⟨f - 1, by omega⟩
  rw [putV_next oddD bs f _ d t (show oddD.write ⟨[], ws.drop i, e⟩ (bs.drop d) = (ws[i], 0, ⟨[], ws.drop (i + 1), e⟩) by rw [drop_cons hi]; rfl), if_pos hd]
  by_cases hw : ws[i] = 0
  · rw [if_pos (.inr ⟨hw, rfl⟩), if_neg (by omega)]
    exact ⟨f, t + 1, by omega, by rw [hw]; simp; omega, by rw [hw]; rfl⟩
  · rw [if_neg (by omega), if_neg (by omega), if_pos rfl]
    exact ⟨f, 0, by omega, by omega, rfl⟩
theorem oput_done {bs : List UInt8} {ws : List Int} {e : Int} {R : Nat × Int} {i d : Nat} (h : OPut bs ws e R i d) (hd : d = bs.length) : R = (d, 0) := by
  obtain ⟨f, t, h1, h2, rfl⟩ := h
  rw [putV_done oddD bs f _ d t (by omega)]
set_option maxRecDepth 100000 in
theorem odd_put_tries (bs : List UInt8) (e : Int) (d : Nat) (he : (e = 22 ∨ e = 23) ∨ e = 0) (hd : d < bs.length) : ∀ f t, t < 8192 → 8192 - t ≤ f → putV oddD bs f ⟨[], [], e⟩ d t = (d, 81, ⟨[], [], e⟩)
  | 0, t, h1, h2 => by omega
  | f + 1, t, h1, h2 => by
    rw [putV_next oddD bs f _ d t (show oddD.write ⟨[], [], e⟩ (bs.drop d) = (0, e, ⟨[], [], e⟩) from rfl), if_pos hd, if_pos (he.imp id (fun h => ⟨rfl, h⟩))]
    by_cases ht : t + 1 = 8192
    · rw [if_pos ht]
    · rw [if_neg ht]
      exact odd_put_tries bs e d he hd f (t + 1) (by omega) (by omega)
theorem oput_tries {bs : List UInt8} {ws : List Int} {e : Int} {R : Nat × Int} {i d : Nat} (h : OPut bs ws e R i d) (hi : i = ws.length) (hd : d < bs.length) (hi4 : i ≤ 4000) (he : (e = 22 ∨ e = 23) ∨ e = 0) : R = (d, 81) := by
  obtain ⟨f, t, h1, h2, rfl⟩ := h
  rw [List.drop_of_length_le (by omega), odd_put_tries bs e d he hd f t (by omega) (by omega)]
set_option maxRecDepth 100000 in
theorem oput_err {bs : List UInt8} {ws : List Int} {e : Int} {R : Nat × Int} {i d : Nat} (h : OPut bs ws e R i d) (hi : i = ws.length) (hd : d < bs.length) (he : ¬ (e = 22 ∨ e = 23)) (h0 : ¬ e = 0) : R = (d, e) := by
  obtain ⟨f, t, h1, h2, rfl⟩ := h
  obtain ⟨f, rfl⟩ : ∃ g, f = g + 1 := ⟨f - 1, by omega⟩
  rw [List.drop_of_length_le (by omega), putV_next oddD bs f _ d t (show oddD.write ⟨[], [], e⟩ (bs.drop d) = (0, e, ⟨[], [], e⟩) from rfl), if_pos hd, if_neg (by omega), if_neg (by omega), if_neg h0]
def zv (i : Int) : Value := .int .i64 i
theorem IRow.of_owns {W : World} {B : Nat} {u : Value} {l : List Int} (h : W.ownsRow B 3 1 u l.length (l.map zv)) : IRow W u l ∧ ∀ k, u.ownBlock = some k → B ≤ k ∧ k < W.heap.size := by
  refine ⟨?_, fun k hk => h.lt k hk⟩
  have hx := h
  rcases h.2 with ⟨rfl, e⟩ | ⟨g, cap, cur, rfl, h2, h3, h4, h5⟩
  · obtain rfl : l = [] := List.length_eq_zero_iff.1 e
    exact irow_none
  · refine ⟨_, _, rfl, h4, fun h0 => ⟨g, 0, rfl, fun j hj => ?_⟩⟩
    rw [Nat.zero_add, hx.cellAt j (by omega)]
    simp [zv, hj]
theorem Try.infoI8 : (Try.prog.info? 3).map (fun i => (i.zero, i.size, i.bytes)) = some (some (.int .i64 0), 1, 8) := by kernel_rfl
theorem nil_cap {H : Type} {enc : TypeId × Value → H} {P : Program} {W : World} {base : Nat} {a : Option Addr} {len cap fuel t e : Nat} {d : DataW H} {p : List MemPlace}
    (ht : P.underlying t = some (.slice e)) (he : P.underlying e = some (.int .i64)) (hc : P.cellsOf e = 1)
    (hf : DataW.trod enc P W base (fun _ => true) true fuel t (Value.slice a len cap).cells.toList = some (d, p)) : a = none → cap = 0 := by
  rcases open_ints ht he hc hf with ⟨hcs, hd⟩ | ⟨x, n, c, zs, hcs, _, hl, hm, hz, hx, hcell, hwz⟩
  · simp [Value.cells] at hcs
    exact fun _ => hcs.2.2
  · simp [Value.cells] at hcs
    intro h
    rw [h] at hcs
    cases hcs.1
theorem run_append_zs (w : World) (ty : TypeId) (a : Option Addr) (c : Nat) (l : List Int) (hx : Fa_Ints w (.slice a l.length c) l) (hn : l.length * 8 ≤ 140737488351232) (hc0 : a = none → c = 0) :
    ∃ s' w', (Builtin.append_ #[23, 23] ty #[.slice none 0 0, .slice a l.length c]).run Try.prog w = .ok s' w' ∧ Hid (w'.ownsRow w.heap.size 3 1 s' l.length (l.map zv)) ∧ Below w.heap.size w w' := by
  obtain ⟨i0, hi, hz0, hz1, hz2⟩ := info_parts Try.infoI8
  have h0 := World.ownsRow_nil w w.heap.size 3 1
  obtain ⟨a', c', he, hc⟩ := hx
  cases he
  cases a with
  | none =>
    have hl : l = [] := by
      by_cases h1 : 0 < l.length
      · obtain ⟨_, _, e, _⟩ := hc h1; cases e
      · exact List.length_eq_zero_iff.1 (by omega)
    subst hl
    obtain rfl := hc0 rfl
    exact ⟨_, w, run_append_owned_none (P := Try.prog) w w.heap.size _ ty _ i0 1 Try.underlying23 hi (.slice none 0 0) _ _ h0, hide h0, Below.refl _ _⟩
  | some a =>
    obtain ⟨v', w', h1, h2, h3, _, h5⟩ := run_append_own_at (P := Try.prog) w w.heap.size 23 ty 3 i0 (.int .i64 0) 1 8 Try.underlying23 hi hz0 hz1 hz2 rfl (by decide) (.slice none 0 0) _ _ h0 a l.length c (l.map zv) (by simp) (fun j v hj => by
      have hjl : j < l.length := by have := (List.getElem?_eq_some_iff.1 hj).1; simpa using this
      obtain ⟨b, off, e, hcc⟩ := hc (by omega)
      cases e
      rw [add_at, hcc j hjl]
      rw [← hj]
      simp [zv, hjl]) (fun v hv => by obtain ⟨_, _, rfl⟩ := List.mem_map.1 hv; rfl) (by unfold maxLen; omega) (by omega) (Nat.le_refl _)
    refine ⟨v', w', h1, hide (by simpa using h2), (Below.refl _ w).grown h3 (Nat.le_refl _) (fun k e => by cases e)⟩
set_option maxRecDepth 100000 in
set_option maxHeartbeats 2000000 in
theorem copyZs_any (a : Option Addr) (c : Nat) (l : List Int) (w : World) (h : Fa_Ints w (.slice a l.length c) l) (hl : l.length * 8 ≤ 140737488351232) (hc0 : a = none → c = 0) :
    Calls Try.prog 30 #[.slice a l.length c] w fun e w' => ∃ v, e = .returned v ∧ IRow w' v l ∧ (∀ k, v.ownBlock = some k → w.heap.size ≤ k ∧ k < w'.heap.size) ∧ Below w.heap.size w w' := by
  obtain ⟨s', w', hrun, HO, hB⟩ := run_append_zs w 23 a c l h hl hc0
  have HRun := hide hrun
  have HB := hide hB
  clear h hrun hB
  go_enter Try.func30, Try.ntmps30
  go_wp2_with (first | (at_builtin; refine Lib.wpList_append_run _ rfl _ _ _ _ rfl _ _ rfl rfl _ _ HRun.out ?_) | fail)
  go_ret
  exact ⟨_, rfl, (IRow.of_owns HO.out).1, (IRow.of_owns HO.out).2, HB.out⟩
end Go.Proofs.Ytknpghmcacocfaa

/- RetryOdd: Put over a new Odd with new zeros, in whatever order they are made. -/
namespace Go.Proofs.Ytknpghmcacocfaa
open Go.RowKit Go.Maps

/-- What make([]byte, M) leaves of any world. -/
structure MkZ (M : Nat) (mk : World → World) : Prop where
  run : ∀ W, (Instr.makeSlice 22 (.int .i64 M) (.int .i64 M)).run Try.prog W = .ok (.slice (some ⟨W.heap.size, 0, none⟩) M M) (mk W)
  row : ∀ W, (mk W).ownsRow W.heap.size 5 1 (.slice (some ⟨W.heap.size, 0, none⟩) M M) (List.replicate M (0 : UInt8)).length ((List.replicate M (0 : UInt8)).map bv)
  below : ∀ W, Below W.heap.size W (mk W)
theorem mkz (M : Nat) (hM : M ≤ 40) : ∃ mk, MkZ M mk := by
  obtain ⟨i0, hi, hz0, hz1, hz2⟩ := info_parts Try.infoB
  have h : ∀ W : World, ∃ W', (Instr.makeSlice 22 (.int .i64 M) (.int .i64 M)).run Try.prog W = .ok (.slice (some ⟨W.heap.size, 0, none⟩) M M) W' ∧ W'.ownsRow W.heap.size 5 1 (.slice (some ⟨W.heap.size, 0, none⟩) M M) (List.replicate M (0 : UInt8)).length ((List.replicate M (0 : UInt8)).map bv) ∧ Below W.heap.size W W' := fun W => by
    obtain ⟨w', h1, h2, h3⟩ := run_make_full (P := Try.prog) W W.heap.size 22 5 i0 (.int .u8 0) 1 Try.underlying22 hi hz0 hz1 .i64 .i64 M (by rw [hz2]; omega) (by unfold maxLen; omega) (Nat.le_refl _)
    exact ⟨w', h1, zeros_made h2, (Below.refl _ W).grown h3 (Nat.le_refl _) (fun k e => by cases e)⟩
  exact ⟨fun W => (h W).choose, fun W => (h W).choose_spec.1, fun W => (h W).choose_spec.2.1, fun W => (h W).choose_spec.2.2⟩
theorem MkZ.bigger {M : Nat} {mk : World → World} (h : MkZ M mk) (W : World) : W.heap.size < (mk W).heap.size := ((h.row W).lt W.heap.size rfl).2
def zs (M : Nat) : List UInt8 := List.replicate M 0
theorem ready_any {w4 W : World} {g zb M : Nat} {ws : List Int} {e : Int} (hA : OddAt g W (fun k => w4.heap.size ≤ k ∧ k ≠ zb ∧ k < W.heap.size) ⟨[], ws, e⟩) (hz : Bys W (.slice (some ⟨zb, 0, none⟩) (zs M).length M) (zs M)) (hB : Below w4.heap.size w4 W) (hM : M ≤ 40) :
    Calls Try.prog 27 #[.iface 64 (.pointer (some ⟨g, 0, none⟩)), .slice (some ⟨zb, 0, none⟩) M M] W fun r w' => r = .returned (.tuple #[.int .i64 (putV oddD (zs M) (putF (zs M)) ⟨[], ws, e⟩ 0 0).1, .int .i64 (putV oddD (zs M) (putF (zs M)) ⟨[], ws, e⟩ 0 0).2.1]) ∧ Below w4.heap.size w4 w' := by
  have hl : (zs M).length = M := List.length_replicate
  have h := rput_any (odd_raw g) (zs M) (some ⟨zb, 0, none⟩) M hA (fun j e => e.2.2) hz (by omega) (by omega) (fun _ k hk e => by
    have : zb = k := by simpa [Value.ownBlock] using hk
    exact e.2.1 this.symm) (odd_put_ok _ _ _ _ _)
  rw [hl] at h
  refine h.mono fun r w' ⟨h1, O', _, _, h4⟩ => ⟨h1, hB.trans (h4.below (fun j e => e.1) hB.size)⟩
theorem row_bys {W W' : World} {M zb : Nat} {B : Nat} (h : W.ownsRow B 5 1 (.slice (some ⟨zb, 0, none⟩) M M) (List.replicate M (0 : UInt8)).length ((List.replicate M (0 : UInt8)).map bv)) (hB : Below W.heap.size W W') : Bys W' (.slice (some ⟨zb, 0, none⟩) (zs M).length M) (zs M) := by
  have := (Bys.of_owns h).below hB
  rw [show (zs M).length = M from List.length_replicate]
  exact this
theorem irow_form {W : World} {v : Value} {l : List Int} (h : IRow W v l) : ∃ a c, v = .slice a l.length c := by obtain ⟨a, c, e, -⟩ := h; exact ⟨a, c, e⟩
theorem odd_mono {W : World} {g : Nat} {O O' : Nat → Prop} {s : OddS} (h : OddAt g W O s) (hO : ∀ k, O k → O' k) : OddAt g W O' s := by
  obtain ⟨rv, wv, h⟩ := h
  exact ⟨rv, wv, h.reads, h.writes, h.err, h.soft0, h.soft1, h.row, h.wow, hO _ h.own, fun k e => ⟨hO k (h.rown k e).1, (h.rown k e).2⟩, fun k e => ⟨hO k (h.wown k e).1, (h.wown k e).2⟩⟩
/-- The zeros first, then the numbers, then the Odd. -/
theorem readyA {w4 w5 : World} {M : Nat} {mk : World → World} (h : MkZ M mk) {va : Option Addr} {vc : Nat} {ws : List Int} {e : Int} (hI : IRow w5 (.slice va ws.length vc) ws) (hv : ∀ k, (Value.slice va ws.length vc).ownBlock = some k → (mk w4.drew).heap.size ≤ k ∧ k < w5.heap.size) (hB : Below (mk w4.drew).heap.size (mk w4.drew) w5) :
    OddAt (w5.heap.size) (w5.alloc (Obj.cells #[.slice none 0 0, .slice va ws.length vc, .int .i64 e] 67)) (fun k => w4.heap.size ≤ k ∧ k ≠ w4.heap.size ∧ k < (w5.alloc (Obj.cells #[.slice none 0 0, .slice va ws.length vc, .int .i64 e] 67)).heap.size) ⟨[], ws, e⟩ ∧ Bys (w5.alloc (Obj.cells #[.slice none 0 0, .slice va ws.length vc, .int .i64 e] 67)) (.slice (some ⟨w4.heap.size, 0, none⟩) (zs M).length M) (zs M) ∧ Below w4.heap.size w4 (w5.alloc (Obj.cells #[.slice none 0 0, .slice va ws.length vc, .int .i64 e] 67)) := by
  have hb := h.bigger w4.drew
  have hb4 : w4.heap.size < (mk w4.drew).heap.size := hb
  have hs := hB.size
  have hn := recv_below w5 (Obj.cells #[.slice none 0 0, .slice va ws.length vc, .int .i64 e] 67)
  have hsz : (w5.alloc (Obj.cells #[.slice none 0 0, .slice va ws.length vc, .int .i64 e] 67)).heap.size = w5.heap.size + 1 := by simp
  have hd : Below w4.heap.size w4 w4.drew := (Below.refl _ _).drew
  refine ⟨odd_new w5 (.slice none 0 0) (.slice va ws.length vc) ⟨[], ws, e⟩ _ ⟨by omega, by omega, by omega⟩ irow_none hI (fun k e => by cases e) (fun k e => ⟨⟨?_, ?_, ?_⟩, (hv k e).2⟩), row_bys (h.row w4.drew) (hB.trans (hn.mono hs)), (hd.trans (h.below w4.drew)).trans ((hB.trans (hn.mono hs)).mono (by omega))⟩
  · have := (hv k e).1; omega
  · have := (hv k e).1; omega
  · have := (hv k e).2; omega
/-- The numbers, the zeros, the Odd. -/
theorem readyB {w4 w5 : World} {M : Nat} {mk : World → World} (h : MkZ M mk) {va : Option Addr} {vc : Nat} {ws : List Int} {e : Int} (hI : IRow w5 (.slice va ws.length vc) ws) (hv : ∀ k, (Value.slice va ws.length vc).ownBlock = some k → w4.heap.size ≤ k ∧ k < w5.heap.size) (hB : Below w4.heap.size w4 w5) :
    OddAt ((mk w5).heap.size) ((mk w5).alloc (Obj.cells #[.slice none 0 0, .slice va ws.length vc, .int .i64 e] 67)) (fun k => w4.heap.size ≤ k ∧ k ≠ w5.heap.size ∧ k < ((mk w5).alloc (Obj.cells #[.slice none 0 0, .slice va ws.length vc, .int .i64 e] 67)).heap.size) ⟨[], ws, e⟩ ∧ Bys ((mk w5).alloc (Obj.cells #[.slice none 0 0, .slice va ws.length vc, .int .i64 e] 67)) (.slice (some ⟨w5.heap.size, 0, none⟩) (zs M).length M) (zs M) ∧ Below w4.heap.size w4 ((mk w5).alloc (Obj.cells #[.slice none 0 0, .slice va ws.length vc, .int .i64 e] 67)) := by
  have hb := h.bigger w5
  have hs := hB.size
  have hmb := h.below w5
  have hn := recv_below (mk w5) (Obj.cells #[.slice none 0 0, .slice va ws.length vc, .int .i64 e] 67)
  have hsz : ((mk w5).alloc (Obj.cells #[.slice none 0 0, .slice va ws.length vc, .int .i64 e] 67)).heap.size = (mk w5).heap.size + 1 := by simp
  refine ⟨odd_new (mk w5) (.slice none 0 0) (.slice va ws.length vc) ⟨[], ws, e⟩ _ ⟨by omega, by omega, by omega⟩ irow_none (hI.keep (fun k _ hl => hmb.block k hl)) (fun k e => by cases e) (fun k e => ⟨⟨?_, ?_, ?_⟩, ?_⟩), row_bys (h.row w5) hn, hB.trans ((hmb.trans (hn.mono (by omega))).mono hs)⟩
  · exact (hv k e).1
  · have := (hv k e).2; omega
  · have := (hv k e).2; omega
  · have := (hv k e).2; omega
/-- The numbers, the Odd, the zeros. -/
theorem readyC {w4 w5 : World} {M : Nat} {mk : World → World} (h : MkZ M mk) {va : Option Addr} {vc : Nat} {ws : List Int} {e : Int} (hI : IRow w5 (.slice va ws.length vc) ws) (hv : ∀ k, (Value.slice va ws.length vc).ownBlock = some k → w4.heap.size ≤ k ∧ k < w5.heap.size) (hB : Below w4.heap.size w4 w5) :
    OddAt (w5.heap.size) (mk (w5.alloc (Obj.cells #[.slice none 0 0, .slice va ws.length vc, .int .i64 e] 67))) (fun k => w4.heap.size ≤ k ∧ k ≠ (w5.heap.size + 1) ∧ k < (mk (w5.alloc (Obj.cells #[.slice none 0 0, .slice va ws.length vc, .int .i64 e] 67))).heap.size) ⟨[], ws, e⟩ ∧ Bys (mk (w5.alloc (Obj.cells #[.slice none 0 0, .slice va ws.length vc, .int .i64 e] 67))) (.slice (some ⟨(w5.heap.size + 1), 0, none⟩) (zs M).length M) (zs M) ∧ Below w4.heap.size w4 (mk (w5.alloc (Obj.cells #[.slice none 0 0, .slice va ws.length vc, .int .i64 e] 67))) := by
  have hn := recv_below w5 (Obj.cells #[.slice none 0 0, .slice va ws.length vc, .int .i64 e] 67)
  have hsz : (w5.alloc (Obj.cells #[.slice none 0 0, .slice va ws.length vc, .int .i64 e] 67)).heap.size = w5.heap.size + 1 := by simp
  have hO := odd_new w5 (.slice none 0 0) (.slice va ws.length vc) ⟨[], ws, e⟩ (fun k => w4.heap.size ≤ k ∧ k < w5.heap.size + 1) ⟨hB.size, by omega⟩ irow_none hI (fun k e => by cases e) (fun k e => ⟨⟨(hv k e).1, by have := (hv k e).2; omega⟩, (hv k e).2⟩)
  generalize w5.alloc (Obj.cells #[.slice none 0 0, .slice va ws.length vc, .int .i64 e] 67) = wa at *
  have hb := h.bigger wa
  have hs := hB.size
  have hmb := h.below wa
  have hrow := row_bys (h.row wa) (Below.refl _ _)
  rw [hsz] at hrow
  refine ⟨odd_mono ((odd_raw w5.heap.size).keep hO (fun j _ hl => hmb.block j hl) hmb.size) (fun k e => ⟨e.1, by have := e.2; omega, by have := e.2; omega⟩), hrow, hB.trans ((hn.trans (hmb.mono (by omega))).mono hs)⟩
end Go.Proofs.Ytknpghmcacocfaa

/- RetryOdd, walked. -/
namespace Go.Proofs.Ytknpghmcacocfaa
open Go.RowKit Go.Maps

set_option maxRecDepth 100000 in
set_option maxHeartbeats 16000000 in
theorem retryOdd_any (a1 a2 : Option Addr) (n1 n2 c1 c2 : Nat) (rs ws : List Int) (e n : Int) (w : World) (h1 : Fa_Ints w (.slice a1 n1 c1) rs) (h2 : Fa_Ints w (.slice a2 n2 c2) ws) (z1 : rs.length * 8 ≤ 140737488351232) (z2 : ws.length * 8 ≤ 140737488351232) (k1 : a1 = none → c1 = 0) (k2 : a2 = none → c2 = 0) :
    Calls Try.prog 7 #[.slice a1 n1 c1, .slice a2 n2 c2, .int .i64 e, .int .i64 n] w fun e w' => e = .returned (.bool true) ∧ Below w.heap.size w w' := by
  obtain ⟨i0, hi, hz0, hz1, hz2⟩ := info_parts Try.infoB
  obtain rfl : n1 = rs.length := by obtain ⟨_, _, e, _⟩ := h1; cases e; rfl
  obtain rfl : n2 = ws.length := by obtain ⟨_, _, e, _⟩ := h2; cases e; rfl
  have H1 := hide h1
  have H2 := hide h2
  have HK := hide (And.intro k1 k2)
  have HAl := hide (ralive_any w)
  clear h1 h2 k1 k2
  go_enter Try.func7, Try.ntmps7
  go_wp2_with fail
  refine HAl.out.mono ?_
  rintro _ w1 ⟨rfl, hB1⟩
  have HB1 := hide hB1
  have hs1 := hB1.size
  have HC1 := hide (copyZs_any a1 c1 rs w1 (H1.out.below hB1) z1 HK.out.1)
  obtain ⟨m, hm, hm9⟩ := krem_twice n 40 (by decide) (by decide)
  obtain ⟨M, hM⟩ : ∃ M, M = 1 + m := ⟨_, rfl⟩
  have hMv : (1 : Int) + (m : Int) = (M : Int) := by omega
  have HM : Hid (1 ≤ M ∧ M ≤ 40) := hide (by omega)
  have hwM : wrap64 (M : Int) = (M : Int) := by unfold wrap64; omega
  clear hM hm9 hB1
  go_wp2_with fail
  simp only [hwM]
  clear hm hMv hwM
  refine HC1.out.mono ?_
  rintro _ w2 ⟨v, rfl, hI2, hv2, hB2⟩
  have hs2 := hB2.size
  obtain ⟨va, vc, rfl⟩ : ∃ va vc, v = .slice va rs.length vc := by obtain ⟨a, c, e, -⟩ := hI2; exact ⟨a, c, e⟩
  have HOd := hide (odd_new w2 (.slice va rs.length vc) (.slice none 0 0) ⟨rs, [], e⟩ (fun k => w1.heap.size ≤ k) (by omega) hI2 irow_none (fun k e => hv2 k e) (fun k e => by cases e))
  have HBo := hide ((HB1.out.trans (hB2.mono hs1)).trans ((recv_below w2 (Obj.cells #[.slice va rs.length vc, .slice none 0 0, .int .i64 e] 67)).mono (by omega)))
  clear hI2 hv2 hB2 HC1 HAl
  go_wp2_with fail
  generalize w2.alloc (Obj.cells #[.slice va rs.length vc, .slice none 0 0, .int .i64 e] 67) = w3 at *
  have HSo := hide (some_any (odd_raw w2.heap.size) (O := fun k => w1.heap.size ≤ k) M HOd.out HM.out.1 (by have := HM.out; omega) (odd_some_ok M 8192 _))
  refine HSo.out.mono ?_
  rintro _ w4 ⟨u, rfl, hO4, -, hT4⟩
  obtain ⟨ua, uc, rfl⟩ := owns_slice hO4
  have hB4 : Below w.heap.size w w4 := HBo.out.trans (hT4.below (fun j h => Nat.le_trans hs1 h) HBo.out.size)
  have HB4 := hide hB4
  have HR4 := hide (H1.out.below hB4)
  have HC2 := hide (fun W (h : Below w4.heap.size w4 W) => copyZs_any a2 c2 ws W ((H2.out.below hB4).below h) z2 HK.out.2)
  clear hO4 hT4 hB4 HSo HOd HBo hs2
  generalize hYF : someV oddD M 8192 ⟨rs, [], e⟩ = YF at *
  obtain ⟨Y, F, s'⟩ := YF
  have HYF := hide hYF
  clear hYF
  simp only
  obtain ⟨Yn, hYn⟩ : ∃ Yn, Yn = Y.length := ⟨_, rfl⟩
  have HYn := hide hYn
  rw [← hYn]
  clear hYn
  have hec : e = 22 ∨ e = 23 ∨ (¬ e = 22 ∧ ¬ e = 23 ∧ (e == 22) = false ∧ (e == 23) = false) := by
    by_cases q1 : e = 22
    · exact .inl q1
    · by_cases q2 : e = 23
      · exact .inr (.inl q2)
      · exact .inr (.inr ⟨q1, q2, by simp [q1], by simp [q2]⟩)
  obtain ⟨Bo, hBo⟩ : ∃ Bo : Bool, Bo = decide (e = 22 ∨ e = 23) := ⟨_, rfl⟩
  have HBo := hide hBo
  clear hBo
  go_upto_region 5 with fail
  go_cut [11] (fun av wx => av = .bool Bo ∧ wx = w4)
  case first =>
    rcases hec with rfl | rfl | ⟨g1, g2, g3, g4⟩
    all_goals
      go_wp2_with (first | (go_at_call 25; refine (num_re _ _).mono ?_; rintro _ _ ⟨rfl, rfl⟩) | fail)
      go_meet
      refine ⟨?_, rfl⟩
      rw [HBo.out]
      first | rfl | simp [g1, g2]
  case rest =>
  obtain ⟨rfl, hwc⟩ := hcut
  rw [hwc]
  clear hwc
  go_upto_block 0 with fail
  go_cut [] (fun wx => wx = w4)
  case first =>
    cases rs with
    | cons k r =>
      obtain ⟨_, _, e1, hc⟩ := HR4.out
      cases e1
      obtain ⟨rb, ro, rfl, hd⟩ := hc (by simp)
      have c0 := hd 0 (by simp)
      simp only [Nat.add_zero, List.getD_cons_zero] at c0
      clear hc hd HR4
      simp only [List.length_cons]
      have q0 : (0 : Int) < (r.length : Int) + 1 := by omega
      by_cases hkM : (M : Int) < k
      · obtain ⟨s2, h82⟩ := odd_some_more M k r [] e hkM HM.out.2
        have hq := HYF.out.symm.trans h82
        cases hq
        obtain rfl : Yn = 0 := HYn.out
        clear HYF HYn h82 hec
        go_wp2_with (first | (go_at_call 25; refine (num_re _ _).mono ?_; rintro _ _ ⟨rfl, rfl⟩) | fail)
        go_meet
        rfl
      · obtain ⟨s2, h0⟩ := odd_some_few M k r [] e (by omega) HM.out.2
        have hq := HYF.out.symm.trans h0
        cases hq
        have hmx : max k 0 = (Yn : Int) := by rw [HYn.out, List.length_replicate]; omega
        clear HYF HYn h0 hec
        go_wp2_with (first | (go_at_call 25; refine (num_re _ _).mono ?_; rintro _ _ ⟨rfl, rfl⟩) | fail)
        go_meet
        rfl
    | nil =>
      clear HR4
      simp only [List.length_nil]
      by_cases he : e = 22 ∨ e = 23
      · have hq := HYF.out.symm.trans (odd_some_tries M [] _ he 8192)
        cases hq
        obtain rfl : Bo = true := by rw [HBo.out]; simpa using he
        clear HYF HYn hec he
        go_wp2_with (first | (go_at_call 25; refine (num_re _ _).mono ?_; rintro _ _ ⟨rfl, rfl⟩) | fail)
        go_meet
        rfl
      · have hq := HYF.out.symm.trans (odd_some_err M [] e he)
        cases hq
        obtain rfl : Bo = false := by rw [HBo.out]; simpa using he
        clear HYF HYn hec he
        go_wp2_with (first | (go_at_call 25; refine (num_re _ _).mono ?_; rintro _ _ ⟨rfl, rfl⟩) | fail)
        go_meet
        rfl
  case rest =>
  rw [hcut]
  clear hcut HR4 HYF HYn hec
  obtain ⟨mk, hmk⟩ := mkz M HM.out.2
  have hrun := hmk.run
  have HMk := hide hmk
  clear hmk
  obtain ⟨P1, hP1⟩ : ∃ P1 : Nat, (putV oddD (zs M) (putF (zs M)) ⟨[], ws, e⟩ 0 0).1 = P1 := ⟨_, rfl⟩
  obtain ⟨P2, hP2⟩ : ∃ P2 : Int, (putV oddD (zs M) (putF (zs M)) ⟨[], ws, e⟩ 0 0).2.1 = P2 := ⟨_, rfl⟩
  have HPu : Hid (OPut (zs M) ws e (P1, P2) 0 0) := hide (by rw [← hP1, ← hP2]; exact oput_start _ _ _)
  have HP := hide (And.intro hP1 hP2)
  clear hP1 hP2
  have Hd0 : Hid (Below w4.heap.size w4 w4.drew) := hide (Below.refl _ _).drew
  have Hd1 : Hid (Below w4.heap.size w4 (mk w4.drew)) := hide ((Below.refl _ _).drew.trans (HMk.out.below w4.drew))
  go_upto_region 17 with fail
  go_cut [12, 13] (fun mv gv wx => mv = .int .i64 P1 ∧ gv = .int .i64 P2 ∧ Hid (Below w.heap.size w wx))
  case first =>
    go_region_with (first
      | (go_at_call 30; refine (HC2.out _ ?_).mono ?_; (first | exact Hd0.out | exact Hd1.out); rintro _ w5 ⟨v5, rfl, hI5, hv5, hB5⟩; obtain ⟨xa, xc, rfl⟩ := irow_form hI5; (first | (have FA := hide (readyA (w4 := w4) (e := e) HMk.out hI5 hv5 hB5)) | (have FB := hide (readyB (w4 := w4) (e := e) HMk.out hI5 hv5 (Hd0.out.trans hB5)); have FC := hide (readyC (w4 := w4) (e := e) HMk.out hI5 hv5 (Hd0.out.trans hB5)))); clear hI5 hv5 hB5)
      | (go_at_call 27; refine (ready_any (w4 := w4) (ws := ws) (e := e) ?_ ?_ ?_ HM.out.2).mono ?_; (first | exact FA.out.1 | exact FB.out.1 | exact FC.out.1); (first | exact FA.out.2.1 | exact FB.out.2.1 | exact FC.out.2.1); (first | exact FA.out.2.2 | exact FB.out.2.2 | exact FC.out.2.2); rintro _ w9 ⟨rfl, hB9⟩; rw [HP.out.1, HP.out.2]; have HB9 := hide (HB4.out.trans (hB9.mono HB4.out.size)); clear hB9)
      | fail)
    all_goals
      go_wp2_with fail
      go_meet
      exact ⟨rfl, rfl, HB9⟩
  case rest =>
  obtain ⟨rfl, rfl, HBc⟩ := hcut
  clear hrun HMk HC2 Hd0 Hd1 HP
  have hzl : (zs M).length = M := List.length_replicate
  have HZl := hide hzl
  clear hzl
  go_wp2_with fail
  go_loopw [14, 15] (fun dv iv wr => ∃ (i d : Nat), iv = .int .i64 i ∧ dv = .int .i64 d ∧ i ≤ ws.length ∧ i ≤ 4000 ∧ d < M ∧ Hid (OPut (zs M) ws e (P1, P2) i d) ∧ Hid (Below w.heap.size w wr)) (fun _ iv _ => 4000 - (intOf iv).toNat)
  case atStart => exact ⟨0, 0, rfl, rfl, Nat.zero_le _, Nat.zero_le _, by have := HM.out; omega, HPu, HBc⟩
  case round =>
    obtain ⟨i, d, rfl, rfl, hil, hi4, hdM, HPi, HBr⟩ := hrel
    clear HPu HBc
    have hM40 : M ≤ 40 := HM.out.2
    by_cases hlt : i < ws.length
    · have hlt' : (i : Int) < (ws.length : Int) := by omega
      by_cases h4 : i < 4000
      case neg =>
        have h4' : ¬ (i : Int) < 4000 := by omega
        have h5 : (4000 : Int) < (ws.length : Int) := by omega
        go_wp2_with fail
        go_ret
        exact ⟨rfl, HBr.out⟩
      have h4' : (i : Int) < 4000 := by omega
      have hi0 : (0 : Int) ≤ (i : Int) := by omega
      obtain ⟨_, _, e1, hc⟩ := H2.out.below HBr.out
      cases e1
      obtain ⟨wb, wo, rfl, hcc⟩ := hc (by omega)
      have c0 := hcc i hlt
      have hgd : ws.getD i 0 = ws[i] := by simp [hlt]
      rw [hgd] at c0
      clear hc hcc hgd
      have HB1 := hide (fun hb => oput_bad HPi.out hlt (by rw [HZl.out]; exact hdM) hb)
      have HB2 := hide (fun h0 h9 => oput_next HPi.out hlt (by rw [HZl.out]; exact hdM) h4 h0 h9)
      rw [HZl.out] at HB1 HB2
      generalize ws[i] = x at *
      by_cases hb : x < 0 ∨ ((M - d : Nat) : Int) < x
      · have hP := HB1.out hb
        have e1 := (congrArg Prod.fst hP).symm
        have e2 := congrArg Prod.snd hP
        simp only at e1 e2
        clear hP
        subst e1
        subst e2
        have hb2 : x < 0 ∨ (¬ x < 0 ∧ (M : Int) - (d : Int) < x) := by omega
        clear hb HB1 HB2 HPi
        rcases hb2 with hb2 | ⟨hb2, hb3⟩
        all_goals
          go_wp2_with (first | (go_at_call 25; refine (num_re _ _).mono ?_; rintro _ _ ⟨rfl, rfl⟩) | fail)
          go_ret
          exact ⟨rfl, HBr.out⟩
      · have hx0 : ¬ x < 0 := fun h => hb (.inl h)
        have hx1 : ¬ (M : Int) - (d : Int) < x := fun h => hb (.inr (by omega))
        have hN := HB2.out (by omega) (by omega)
        obtain ⟨q, rfl⟩ : ∃ q : Nat, x = (q : Int) := ⟨x.toNat, by omega⟩
        rw [Int.toNat_natCast] at hN
        have HN := hide hN
        clear hb HB1 HB2 HPi hN
        by_cases hdn : d + q = M
        · have hP := oput_done HN.out (by rw [HZl.out]; exact hdn)
          have e1 := (congrArg Prod.fst hP).symm
          have e2 := congrArg Prod.snd hP
          simp only at e1 e2
          clear hP
          subst e1
          subst e2
          have hdn' : (d : Int) + (q : Int) = (M : Int) := by omega
          go_wp2_with (first | (go_at_call 25; refine (num_re _ _).mono ?_; rintro _ _ ⟨rfl, rfl⟩) | fail)
          go_ret
          exact ⟨rfl, HBr.out⟩
        · have hdn' : ¬ (d : Int) + (q : Int) = (M : Int) := by omega
          have hdn2 : (((d : Int) + (q : Int)) == (M : Int)) = false := by rw [beq_eq_false_iff_ne]; exact hdn'
          go_wp2_with (first | (go_at_call 25; refine (num_re _ _).mono ?_; rintro _ _ ⟨rfl, rfl⟩) | fail)
          go_roundw
          case rel => exact ⟨i + 1, d + q, by go_num, by go_num, by omega, by omega, by omega, HN, HBr⟩
          case measure => simp [intOf]; omega
    · have hie : i = ws.length := by omega
      have hlt' : ¬ (i : Int) < (ws.length : Int) := by omega
      have h5 : ¬ (4000 : Int) < (ws.length : Int) := by omega
      by_cases hec : e = 22 ∨ e = 23
      · have hP := oput_tries HPi.out hie (by rw [HZl.out]; exact hdM) hi4 (.inl hec)
        have e1 := (congrArg Prod.fst hP).symm
        have e2 := congrArg Prod.snd hP
        simp only at e1 e2
        clear hP
        subst e1
        subst e2
        obtain rfl : Bo = true := by rw [HBo.out]; simpa using hec
        clear HPi hec hie
        go_wp2_with (first | (go_at_call 25; refine (num_re _ _).mono ?_; rintro _ _ ⟨rfl, rfl⟩) | fail)
        go_ret
        exact ⟨rfl, HBr.out⟩
      · obtain rfl : Bo = false := by rw [HBo.out]; simpa using hec
        by_cases he0 : e = 0
        · have hP := oput_tries HPi.out hie (by rw [HZl.out]; exact hdM) hi4 (.inr he0)
          have e1 := (congrArg Prod.fst hP).symm
          have e2 := congrArg Prod.snd hP
          simp only at e1 e2
          clear hP
          subst e1
          subst e2
          subst he0
          clear HPi hec hie
          go_wp2_with (first | (go_at_call 25; refine (num_re _ _).mono ?_; rintro _ _ ⟨rfl, rfl⟩) | fail)
          go_ret
          exact ⟨rfl, HBr.out⟩
        · have he1 : (e == 0) = false := by simp [he0]
          have hP := oput_err HPi.out hie (by rw [HZl.out]; exact hdM) hec he0
          have e1 := (congrArg Prod.fst hP).symm
          have e2 := congrArg Prod.snd hP
          simp only at e1 e2
          clear hP
          subst e1
          subst e2
          clear HPi hec hie
          go_wp2_with (first | (go_at_call 25; refine (num_re _ _).mono ?_; rintro _ _ ⟨rfl, rfl⟩) | fail)
          go_ret
          exact ⟨rfl, HBr.out⟩
end Go.Proofs.Ytknpghmcacocfaa

/- RetryOdd answers true for all numbers that an odd Raw answers, every error and every number, within the reach of a machine's memory: a Raw that answers more than was asked for, or than it was given, is told so; one that never goes on is given up. -/
namespace Go.Proofs.Ytknpghmcacocfaa.retryOdd
open Go.ChangeShapes Go.WideShapes Go.ChangeAt Go.RowKit
open Go.ChangeMaps (open_string shut_string)
set_option linter.unusedVariables false

theorem own : ownKnob Try.prog.godebug = none := by kernel_rfl
theorem laidOut : laidOutB Try.prog = true := by kernel_rfl

set_option maxRecDepth 100000 in
theorem lifted (os : Os) (started : os.Started) (H : Type) (enc : TypeId × Value → H) :
    ReturnsInHanded {} Try.checked os 7 .any (Rows.retryOddSpec.pre6 enc Try.prog Try.f7 Rows.retryOddRow.domain false) (Rows.retryOddSpec.post enc Try.prog Try.f7 false true false false) := by
  refine returnsInHanded_of_change_sized (C := Try.checked) own started (by kernel_rfl) Try.func7
    (ChangeSpec.witness6 (enc := enc) (C := Try.checked) false ⟨#[], #[.slice none 0 0, .slice none 0 0, .int .i64 0, .int .i64 0], []⟩ 8 (by kernel_rfl) (by kernel_rfl) (by kernel_rfl) (by kernel_rfl)) ?_
  intro W base args ds gs before hval0 hW hcnd0 hsz0 _
  have hsz : (DataW.weightsEach Try.prog (Try.f7.params.toList ++ Rows.retryOddSpec.plain.varTypes Try.prog) (ds ++ gs)).all (· ≤ reachBytes) = true := hsz0
  clear hsz0
  have hval : ∀ (j : Nat) t v, Try.f7.params[j]? = some t → args[j]? = some v → Value.okWide Try.prog W .any base t v := hval0
  have hW' := hW
  obtain ⟨p, q, hA0, hV, rfl, hfz, hnd⟩ := hW
  have hA : DataW.TrodAll enc Try.prog W 0 (fun _ => true) true Try.f7.params.toList args.toList ds p := hA0
  rw [Try.params7] at hA hval hsz
  obtain ⟨v0, vs0, d0, ds0, p0, q0, hargs, rfl, rfl, h0, r0⟩ := trodAll_cons hA
  obtain ⟨v1, vs1, d1, ds1, p1, q1, rfl, rfl, rfl, h1, r1⟩ := trodAll_cons r0
  obtain ⟨v2, vs2, d2, ds2, p2, q2, rfl, rfl, rfl, h2, r2⟩ := trodAll_cons r1
  obtain ⟨v3, vs3, d3, ds3, p3, q3, rfl, rfl, rfl, h3, r3⟩ := trodAll_cons r2
  obtain ⟨rfl, rfl, rfl⟩ := trodAll_nil r3
  obtain rfl : args = #[v0, v1, v2, v3] := by cases args; simp_all
  obtain ⟨rfl, rfl⟩ := trodVars_none hV
  obtain ⟨c0, len0, cap0, rfl⟩ := okWide_slice Try.underlying23 (hval 0 23 v0 rfl rfl)
  have k0 := h0
  have lt0 : ∀ x ∈ p0, x.block < W.heap.size := by obtain ⟨m, hm⟩ := k0; exact DataW.trod_lt m _ _ _ hm
  obtain ⟨fuel0, hf0⟩ := h0
  obtain ⟨l0, y0, e0⟩ := ints_arg Try.underlying23 Try.underlying3 (by kernel_rfl) hf0
  have z0 : l0.length * 8 ≤ 140737488351232 := by
    rcases e0 with ⟨_, rfl⟩ | ⟨elems, spare, rfl, hll⟩
    · simp
    · have := sized_slice hsz (j := 0) (t := 23) (e := 3) rfl rfl Try.underlying23
      rw [show Try.prog.bytesOf 3 = 8 by kernel_rfl] at this; simp only [reachBytes] at this; omega
  obtain ⟨c1, len1, cap1, rfl⟩ := okWide_slice Try.underlying23 (hval 1 23 v1 rfl rfl)
  have k1 := h1
  have lt1 : ∀ x ∈ p1, x.block < W.heap.size := by obtain ⟨m, hm⟩ := k1; exact DataW.trod_lt m _ _ _ hm
  obtain ⟨fuel1, hf1⟩ := h1
  obtain ⟨l1, y1, e1⟩ := ints_arg Try.underlying23 Try.underlying3 (by kernel_rfl) hf1
  have z1 : l1.length * 8 ≤ 140737488351232 := by
    rcases e1 with ⟨_, rfl⟩ | ⟨elems, spare, rfl, hll⟩
    · simp
    · have := sized_slice hsz (j := 1) (t := 23) (e := 3) rfl rfl Try.underlying23
      rw [show Try.prog.bytesOf 3 = 8 by kernel_rfl] at this; simp only [reachBytes] at this; omega
  obtain ⟨a2, rfl, rfl, rfl, w2⟩ := open_int Try.underlying26 (hval 2 26 v2 rfl rfl) h2
  have b2 := bounds_i64 w2
  obtain ⟨a3, rfl, rfl, rfl, w3⟩ := open_int Try.underlying3 (hval 3 3 v3 rfl rfl) h3
  have b3 := bounds_i64 w3
  clear hA0
  refine ((retryOdd_any _ _ _ _ _ _ l0 l1 a2 a3 W y0 y1 z0 z1 (nil_cap Try.underlying23 Try.underlying3 (by kernel_rfl) hf0) (nil_cap Try.underlying23 Try.underlying3 (by kernel_rfl) hf1))).mono fun e W' ⟨he, bel⟩ => ?_
  subst he
  exact ⟨_, rfl, _, _, _, [], _, [], hW', trodAll_mk1 (shut_bool Try.underlying4 _), (trodAll_cons_mk (Below.trod laidOut (by kernel_rfl) (of_decide_eq_true (by kernel_rfl)) k0 bel lt0) (trodAll_cons_mk (Below.trod laidOut (by kernel_rfl) (of_decide_eq_true (by kernel_rfl)) k1 bel lt1) (trodAll_cons_mk (shut_int Try.underlying26 w2) (trodAll_cons_mk (shut_int Try.underlying3 w3) trodAll_mk0)))), rfl, bel.frame _, fun h => by cases h⟩

theorem over : Rows.retryOddRow.holds Try.pinned (OpenSpec.ofChange Rows.retryOddSpec) :=
  OpenClaim.holds_of_wide 7 Try.f7 rfl rfl rfl rfl rfl rfl rfl ⟨rfl, rfl, rfl, rfl, rfl⟩ rfl rfl rfl rfl rfl (by kernel_rfl) Try.func7 (by kernel_rfl)
    (of_decide_eq_true (by kernel_rfl)) (by unfold Func.isWrapper; first | (rw [if_pos (by decide +kernel)]; kernel_rfl) | (rw [if_neg (by decide +kernel)]; exact ⟨rfl, rfl⟩))
    (fun os started H enc _ => lifted os started H enc)
end Go.Proofs.Ytknpghmcacocfaa.retryOdd
namespace Go.Proofs.Ytknpghmcacocfaa
theorem retryOdd_holds : Rows.RetryOddSaid := retryOdd.over
#print axioms retryOdd_holds
end Go.Proofs.Ytknpghmcacocfaa
