/- What the proof stands on, part 9: the contracts of the program's calls that it reaches. -/
import Derived.Test.YtdmkjbdlidadiaaGreatKP8
import Derived.Deep.Cut
/- Position: why a call is refused; sums of places; a Raw's place is set. -/
namespace Go.Proofs.YtdmkjbdlidadiaaGreat
open Go.RowKit

theorem plus_eq (a b : Int) (ha : -9223372036854775808 ≤ a ∧ a ≤ 9223372036854775807) (hb : -9223372036854775808 ≤ b ∧ b ≤ 9223372036854775807) : (decide (wrap64 (a + b) < a) == decide (b < 0)) = decide (-9223372036854775808 ≤ a + b ∧ a + b ≤ 9223372036854775807) := by
  by_cases h1 : a + b < -9223372036854775808
  · have e : wrap64 (a + b) = a + b + 18446744073709551616 := by unfold wrap64; omega
    rw [e, decide_eq_false (by omega : ¬ (a + b + 18446744073709551616 < a)), decide_eq_true (by omega : b < 0), decide_eq_false (by omega)]
    rfl
  by_cases h2 : 9223372036854775807 < a + b
  · have e : wrap64 (a + b) = a + b - 18446744073709551616 := by unfold wrap64; omega
    rw [e, decide_eq_true (by omega : a + b - 18446744073709551616 < a), decide_eq_false (by omega : ¬ b < 0), decide_eq_false (by omega)]
    rfl
  have e : wrap64 (a + b) = a + b := by unfold wrap64; omega
  rw [e, decide_eq_true (by omega : -9223372036854775808 ≤ a + b ∧ a + b ≤ 9223372036854775807)]
  by_cases h3 : b < 0
  · rw [decide_eq_true (by omega : a + b < a), decide_eq_true h3]; rfl
  · rw [decide_eq_false (by omega : ¬ a + b < a), decide_eq_false h3]; rfl
theorem plus_any (a b : Int) (w : World) (ha : -9223372036854775808 ≤ a ∧ a ≤ 9223372036854775807) (hb : -9223372036854775808 ≤ b ∧ b ≤ 9223372036854775807) : Calls Tryz.prog 239 #[.int .i64 a, .int .i64 b] w fun e w' => e = .returned (.tuple #[.int .i64 (wrap64 (a + b)), .bool (decide (-9223372036854775808 ≤ a + b ∧ a + b ≤ 9223372036854775807))]) ∧ w = w' := by
  have HE := hide (plus_eq a b ha hb)
  clear ha hb
  generalize decide (-9223372036854775808 ≤ a + b ∧ a + b ≤ 9223372036854775807) = q at *
  go_enter Tryz.func239, Tryz.ntmps239
  go_wp2
  go_ret2
  exact ⟨by rw [← HE.out]; rfl, rfl⟩
def placeV (at' n off : Int) : Int × Int := if 0 ≤ at' - n + off ∧ at' - n + off ≤ 1048576 then (at' - n + off, 0) else (0, 4)
set_option maxHeartbeats 4000000 in
theorem placeOf_any (p n off : Int) (w : World) (hp : 0 ≤ p ∧ p ≤ 1048576) (hn : 0 ≤ n ∧ n ≤ 1000000000000000) (ho : -9223372036854775808 ≤ off ∧ off ≤ 9223372036854775807) : Calls Tryz.prog 213 #[.int .i64 p, .int .i64 n, .int .i64 off] w fun e w' => e = .returned (.tuple #[.int .i64 (placeV p n off).1, .int .i64 (placeV p n off).2]) ∧ w = w' := by
  have hw1 : wrap64 (p + -n) = p - n := by unfold wrap64; omega
  have hw0 : wrap64 (-n) = -n := by unfold wrap64; omega
  have h1 := fun W => plus_any p (-n) W (by omega) (by omega)
  have h2 := fun W => plus_any (p - n) off W (by omega) ho
  rw [hw1, decide_eq_true (by omega)] at h1
  have H1 := hide h1
  clear h1 hw1
  obtain ⟨t, ht⟩ : ∃ t, t = p - n := ⟨_, rfl⟩
  rw [← ht] at h2 H1
  obtain ⟨z, hz⟩ : ∃ z, z = placeV p n off := ⟨_, rfl⟩
  rw [← hz]
  have hz2 : z = if 0 ≤ t + off ∧ t + off ≤ 1048576 then (t + off, 0) else (0, 4) := by rw [hz, ht]; rfl
  have htb : -1000000000000000 ≤ t ∧ t ≤ 1048576 := by omega
  clear hz ht hn hp
  by_cases hf : -9223372036854775808 ≤ t + off ∧ t + off ≤ 9223372036854775807
  · rw [decide_eq_true hf, show wrap64 (t + off) = t + off by unfold wrap64; omega] at h2
    generalize t + off = q at *
    have H2 := hide h2
    clear h2 htb ho hf
    by_cases hq0 : q < 0
    · have HZ : Hid (z = (0, 4)) := hide (by rw [hz2, if_neg (by omega)])
      clear hz2
      go_enter Tryz.func213, Tryz.ntmps213
      go_wp2_with fail
      refine (H1.out _).mono ?_
      rintro _ _ ⟨rfl, rfl⟩
      go_wp2_with fail
      refine (H2.out _).mono ?_
      rintro _ _ ⟨rfl, rfl⟩
      go_wp2
      go_ret2
      exact ⟨by rw [HZ.out]; rfl, rfl⟩
    by_cases hq1 : 1048576 < q
    · have HZ : Hid (z = (0, 4)) := hide (by rw [hz2, if_neg (by omega)])
      clear hz2
      go_enter Tryz.func213, Tryz.ntmps213
      go_wp2_with fail
      refine (H1.out _).mono ?_
      rintro _ _ ⟨rfl, rfl⟩
      go_wp2_with fail
      refine (H2.out _).mono ?_
      rintro _ _ ⟨rfl, rfl⟩
      go_wp2
      go_ret2
      exact ⟨by rw [HZ.out]; rfl, rfl⟩
    have HZ : Hid (z = (q, 0)) := hide (by rw [hz2, if_pos (by omega)])
    clear hz2
    go_enter Tryz.func213, Tryz.ntmps213
    go_wp2_with fail
    refine (H1.out _).mono ?_
    rintro _ _ ⟨rfl, rfl⟩
    go_wp2_with fail
    refine (H2.out _).mono ?_
    rintro _ _ ⟨rfl, rfl⟩
    go_wp2
    go_ret2
    exact ⟨by rw [HZ.out]; rfl, rfl⟩
  · rw [decide_eq_false hf] at h2
    have HZ : Hid (z = (0, 4)) := hide (by rw [hz2, if_neg (by omega)])
    generalize wrap64 (t + off) = q at *
    have H2 := hide h2
    clear h2 htb ho hf hz2
    go_enter Tryz.func213, Tryz.ntmps213
    go_wp2_with fail
    refine (H1.out _).mono ?_
    rintro _ _ ⟨rfl, rfl⟩
    go_wp2_with fail
    refine (H2.out _).mono ?_
    rintro _ _ ⟨rfl, rfl⟩
    go_wp2
    go_ret2
    exact ⟨by rw [HZ.out]; rfl, rfl⟩
set_option maxRecDepth 100000 in
set_option maxHeartbeats 1000000 in
theorem prefusal14 (x : SS) (oa ia ba : Option Addr) (oc ic bc : Nat) (T : TypeId) (v : Value) (w : World) (hi : x.inn.length ≤ 140737488351232) (hb : x.back.length ≤ 140737488351232) :
    Calls Tryz.prog 131 #[.agg #[.bool x.rd, .bool x.wt, .int .i64 x.mode, .int .i64 x.size, .slice oa x.out.length oc, .slice ia x.inn.length ic, .slice ba x.back.length bc, .int .i64 x.dir, .bool x.fin, .bool x.bad, .bool x.closed], .iface T v] w fun e w' => e = .returned (.int .i64 (x.refuse true)) ∧ Below w.heap.size w w' := by
  have HC := hide (fun W => scheck_any x oa ia ba oc ic bc W hi hb)
  generalize hr : x.refuse true = r
  unfold SS.refuse at hr
  cases h1 : x.may with
  | false =>
    rw [h1] at HC
    simp only [Bool.false_eq_true, if_false] at HC
    have HR : Hid (51 = r) := hide (by rw [← hr, h1]; rfl)
    clear hr h1
    go_enter Tryz.func131, Tryz.ntmps131
    go_wp2_with fail
    have HB0 := hide (recv_below w (Obj.cells #[.bool x.rd, .bool x.wt, .int .i64 x.mode, .int .i64 x.size, .slice oa x.out.length oc, .slice ia x.inn.length ic, .slice ba x.back.length bc, .int .i64 x.dir, .bool x.fin, .bool x.bad, .bool x.closed] 58))
    have HS0 := hide (StAt.new w x (.slice oa x.out.length oc) (.slice ia x.inn.length ic) (.slice ba x.back.length bc))
    generalize w.alloc (Obj.cells #[.bool x.rd, .bool x.wt, .int .i64 x.mode, .int .i64 x.size, .slice oa x.out.length oc, .slice ia x.inn.length ic, .slice ba x.back.length bc, .int .i64 x.dir, .bool x.fin, .bool x.bad, .bool x.closed] 58) = w0 at *
    refine (HC.out w0).mono ?_
    rintro _ w1 ⟨rfl, hB1⟩
    have HS1 := hide (HS0.out.below hB1)
    obtain ⟨-, -, -, -, -, -, -, -, -, -, c10⟩ := HS1.out.cs

    have HB1 := hide (HB0.out.trans (hB1.mono HB0.out.size))
    clear hB1
    go_wp2
    go_ret
    exact ⟨by rw [← HR.out]; rfl, HB1.out⟩
  | true =>
    rw [h1] at HC
    simp only [if_true] at HC
    rcases Bool.eq_false_or_eq_true x.closed with h2 | h2
    · skip
      have HR : Hid (113 = r) := hide (by rw [← hr, h1, h2]; rfl)
      have H2 := hide h2
      clear hr h1 h2
      go_enter Tryz.func131, Tryz.ntmps131
      go_wp2_with fail
      have HB0 := hide (recv_below w (Obj.cells #[.bool x.rd, .bool x.wt, .int .i64 x.mode, .int .i64 x.size, .slice oa x.out.length oc, .slice ia x.inn.length ic, .slice ba x.back.length bc, .int .i64 x.dir, .bool x.fin, .bool x.bad, .bool x.closed] 58))
      have HS0 := hide (StAt.new w x (.slice oa x.out.length oc) (.slice ia x.inn.length ic) (.slice ba x.back.length bc))
      generalize w.alloc (Obj.cells #[.bool x.rd, .bool x.wt, .int .i64 x.mode, .int .i64 x.size, .slice oa x.out.length oc, .slice ia x.inn.length ic, .slice ba x.back.length bc, .int .i64 x.dir, .bool x.fin, .bool x.bad, .bool x.closed] 58) = w0 at *
      refine (HC.out w0).mono ?_
      rintro _ w1 ⟨rfl, hB1⟩
      have HS1 := hide (HS0.out.below hB1)
      obtain ⟨-, -, -, -, -, -, -, -, -, -, c10⟩ := HS1.out.cs
      rw [H2.out] at c10
      have HB1 := hide (HB0.out.trans (hB1.mono HB0.out.size))
      clear hB1
      go_wp2
      go_ret
      exact ⟨by rw [← HR.out]; rfl, HB1.out⟩
    · skip
      have HR : Hid (0 = r) := hide (by rw [← hr, h1, h2]; rfl)
      have H2 := hide h2
      clear hr h1 h2
      go_enter Tryz.func131, Tryz.ntmps131
      go_wp2_with fail
      have HB0 := hide (recv_below w (Obj.cells #[.bool x.rd, .bool x.wt, .int .i64 x.mode, .int .i64 x.size, .slice oa x.out.length oc, .slice ia x.inn.length ic, .slice ba x.back.length bc, .int .i64 x.dir, .bool x.fin, .bool x.bad, .bool x.closed] 58))
      have HS0 := hide (StAt.new w x (.slice oa x.out.length oc) (.slice ia x.inn.length ic) (.slice ba x.back.length bc))
      generalize w.alloc (Obj.cells #[.bool x.rd, .bool x.wt, .int .i64 x.mode, .int .i64 x.size, .slice oa x.out.length oc, .slice ia x.inn.length ic, .slice ba x.back.length bc, .int .i64 x.dir, .bool x.fin, .bool x.bad, .bool x.closed] 58) = w0 at *
      refine (HC.out w0).mono ?_
      rintro _ w1 ⟨rfl, hB1⟩
      have HS1 := hide (HS0.out.below hB1)
      obtain ⟨-, -, -, -, -, -, -, -, -, -, c10⟩ := HS1.out.cs
      rw [H2.out] at c10
      have HB1 := hide (HB0.out.trans (hB1.mono HB0.out.size))
      clear hB1
      go_wp2
      go_ret
      exact ⟨by rw [← HR.out]; rfl, HB1.out⟩
def SS.srefuse (x : SS) (hr : Bool) (wh : Int) : Int := if x.refuse hr ≠ 0 then x.refuse hr else if wh < 0 ∨ 2 < wh then 1 else 0
set_option maxRecDepth 100000 in
set_option maxHeartbeats 1000000 in
theorem seekRefusal_any (x : SS) (oa ia ba : Option Addr) (oc ic bc : Nat) (T : TypeId) (v : Value) (wh : Int) (w : World) (hi : x.inn.length ≤ 140737488351232) (hb : x.back.length ≤ 140737488351232) :
    Calls Tryz.prog 135 #[.agg #[.bool x.rd, .bool x.wt, .int .i64 x.mode, .int .i64 x.size, .slice oa x.out.length oc, .slice ia x.inn.length ic, .slice ba x.back.length bc, .int .i64 x.dir, .bool x.fin, .bool x.bad, .bool x.closed], .iface T v, .int .i64 wh] w fun e w' => e = .returned (.int .i64 (x.srefuse true wh)) ∧ Below w.heap.size w w' := by
  have HC := hide (fun W => prefusal14 x oa ia ba oc ic bc T v W hi hb)
  generalize hr : x.srefuse true wh = r
  unfold SS.srefuse at hr
  obtain ⟨rf, hrf⟩ : ∃ rf, rf = x.refuse true := ⟨_, rfl⟩
  rw [← hrf] at HC hr
  clear hrf
  by_cases h0 : rf = 0
  case neg =>
    have HR : Hid (rf = r) := hide (by rw [← hr, if_pos h0])
    have hb1 : (rf == 0) = false := by simp [h0]
    have hb2 : (rf != 0) = true := by simp [h0]
    clear hr h0
    go_enter Tryz.func135, Tryz.ntmps135
    go_wp2_with fail
    refine (HC.out _).mono ?_
    rintro _ w1 ⟨rfl, hB1⟩
    have HB1 := hide ((recv_below w (Obj.cells #[.bool x.rd, .bool x.wt, .int .i64 x.mode, .int .i64 x.size, .slice oa x.out.length oc, .slice ia x.inn.length ic, .slice ba x.back.length bc, .int .i64 x.dir, .bool x.fin, .bool x.bad, .bool x.closed] 58)).trans (hB1.mono (recv_below w (Obj.cells #[.bool x.rd, .bool x.wt, .int .i64 x.mode, .int .i64 x.size, .slice oa x.out.length oc, .slice ia x.inn.length ic, .slice ba x.back.length bc, .int .i64 x.dir, .bool x.fin, .bool x.bad, .bool x.closed] 58)).size))
    clear hB1
    go_wp2
    go_ret
    exact ⟨by rw [← HR.out]; rfl, HB1.out⟩
  subst h0
  rw [if_neg (by simp)] at hr
  by_cases h1 : wh < 0
  · skip
    have HR : Hid (1 = r) := hide (by rw [← hr, if_pos (.inl h1)])
    clear hr
    go_enter Tryz.func135, Tryz.ntmps135
    go_wp2_with fail
    refine (HC.out _).mono ?_
    rintro _ w1 ⟨rfl, hB1⟩
    have HB1 := hide ((recv_below w (Obj.cells #[.bool x.rd, .bool x.wt, .int .i64 x.mode, .int .i64 x.size, .slice oa x.out.length oc, .slice ia x.inn.length ic, .slice ba x.back.length bc, .int .i64 x.dir, .bool x.fin, .bool x.bad, .bool x.closed] 58)).trans (hB1.mono (recv_below w (Obj.cells #[.bool x.rd, .bool x.wt, .int .i64 x.mode, .int .i64 x.size, .slice oa x.out.length oc, .slice ia x.inn.length ic, .slice ba x.back.length bc, .int .i64 x.dir, .bool x.fin, .bool x.bad, .bool x.closed] 58)).size))
    clear hB1
    go_wp2
    go_ret
    exact ⟨by rw [← HR.out]; rfl, HB1.out⟩
  by_cases h2 : 2 < wh
  · skip
    have HR : Hid (1 = r) := hide (by rw [← hr, if_pos (.inr h2)])
    clear hr
    go_enter Tryz.func135, Tryz.ntmps135
    go_wp2_with fail
    refine (HC.out _).mono ?_
    rintro _ w1 ⟨rfl, hB1⟩
    have HB1 := hide ((recv_below w (Obj.cells #[.bool x.rd, .bool x.wt, .int .i64 x.mode, .int .i64 x.size, .slice oa x.out.length oc, .slice ia x.inn.length ic, .slice ba x.back.length bc, .int .i64 x.dir, .bool x.fin, .bool x.bad, .bool x.closed] 58)).trans (hB1.mono (recv_below w (Obj.cells #[.bool x.rd, .bool x.wt, .int .i64 x.mode, .int .i64 x.size, .slice oa x.out.length oc, .slice ia x.inn.length ic, .slice ba x.back.length bc, .int .i64 x.dir, .bool x.fin, .bool x.bad, .bool x.closed] 58)).size))
    clear hB1
    go_wp2
    go_ret
    exact ⟨by rw [← HR.out]; rfl, HB1.out⟩
  · skip
    have HR : Hid (0 = r) := hide (by rw [← hr, if_neg (by omega)])
    clear hr
    go_enter Tryz.func135, Tryz.ntmps135
    go_wp2_with fail
    refine (HC.out _).mono ?_
    rintro _ w1 ⟨rfl, hB1⟩
    have HB1 := hide ((recv_below w (Obj.cells #[.bool x.rd, .bool x.wt, .int .i64 x.mode, .int .i64 x.size, .slice oa x.out.length oc, .slice ia x.inn.length ic, .slice ba x.back.length bc, .int .i64 x.dir, .bool x.fin, .bool x.bad, .bool x.closed] 58)).trans (hB1.mono (recv_below w (Obj.cells #[.bool x.rd, .bool x.wt, .int .i64 x.mode, .int .i64 x.size, .slice oa x.out.length oc, .slice ia x.inn.length ic, .slice ba x.back.length bc, .int .i64 x.dir, .bool x.fin, .bool x.bad, .bool x.closed] 58)).size))
    clear hB1
    go_wp2
    go_ret
    exact ⟨by rw [← HR.out]; rfl, HB1.out⟩
end Go.Proofs.YtdmkjbdlidadiaaGreat

/- Streams: a state of the program's in a call's variable, beside a Raw. -/
namespace Go.Proofs.YtdmkjbdlidadiaaGreat
open Go.RowKit

theorem StAt.set {W : World} {g : Nat} {x x' : SS} {o i b o' i' b' : Value} (h : StAt W g x o i b) (j : Nat) (u : Value) (hl : ([.bool x.rd, .bool x.wt, .int .i64 x.mode, .int .i64 x.size, o, i, b, .int .i64 x.dir, .bool x.fin, .bool x.bad, .bool x.closed] : List Value).set j u = [.bool x'.rd, .bool x'.wt, .int .i64 x'.mode, .int .i64 x'.size, o', i', b', .int .i64 x'.dir, .bool x'.fin, .bool x'.bad, .bool x'.closed]) : StAt (W.setCell ⟨g, j, none⟩ u) g x' o' i' b' ∧ Turned (fun k => k = g) W (W.setCell ⟨g, j, none⟩ u) := by
  refine ⟨?_, (Turned.refl (fun k => k = g) W).set (.inl rfl)⟩
  have := Go.heap_setCell_same W g j _ _ u h
  unfold StAt
  rw [this]
  simp only [List.setIfInBounds_toArray, hl]
theorem StAt.turned {P : Nat → Prop} {W W' : World} {g : Nat} {x : SS} {o i b : Value} (h : StAt W g x o i b) (hT : Turned P W W') (hn : ¬ P g) : StAt W' g x o i b := (hT.block g h.lt hn).trans h
theorem st_fill3 (w : World) (r : Nat) (x : SS) (o i b : Value) (h : w.heap[r]? = some (Obj.cells #[.bool false, .bool false, .int .i64 0, .int .i64 0, .slice none 0 0, .slice none 0 0, .slice none 0 0, .int .i64 0, .bool false, .bool false, .bool false] 58)) : StAt (filled w r x o i b) r x o i b ∧ Turned (fun k => k = r) w (filled w r x o i b) := st_fill w r x o i b h
structure QV {σ : Type} (B : World → (Nat → Prop) → σ → Prop) (w : World) (O0 : Nat → Prop) (r g : Nat) (W : World) (O : Nat → Prop) (x : SS) (s : σ) (o i b : Value) : Prop where
  st : StAt W g x o i b
  ls : SIn W (fun k => w.heap.size ≤ k ∧ ¬ O k ∧ k ≠ g ∧ k ≠ r ∧ k < W.heap.size) x o i b
  raw : B W O s
  ol : ∀ j, O j → j < W.heap.size
  og : ¬ O g
  orr : ¬ O r
  zr : W.heap[r]? = some (Obj.cells #[.bool false, .bool false, .int .i64 0, .int .i64 0, .slice none 0 0, .slice none 0 0, .slice none 0 0, .int .i64 0, .bool false, .bool false, .bool false] 58)
  gr : g ≠ r
  gw : w.heap.size ≤ g
  rw : w.heap.size ≤ r
  oo : ∀ k, O k → O0 k ∨ w.heap.size ≤ k
  tu : Turned O0 w W
theorem QV.rlt {σ : Type} {B : World → (Nat → Prop) → σ → Prop} {w : World} {O0 : Nat → Prop} {r g : Nat} {W : World} {O : Nat → Prop} {x : SS} {s : σ} {o i b : Value} (h : QV B w O0 r g W O x s o i b) : r < W.heap.size := (Array.getElem?_eq_some_iff.1 h.zr).1
theorem QV.below {σ : Type} {B : World → (Nat → Prop) → σ → Prop} (hT : ∀ s, OAt (fun w O => B w O s)) {w : World} {O0 : Nat → Prop} {r g : Nat} {W W' : World} {O : Nat → Prop} {x : SS} {s : σ} {o i b : Value} (h : QV B w O0 r g W O x s o i b) (hB : Below W.heap.size W W') : QV B w O0 r g W' O x s o i b := by
  have hz := hB.size
  exact ⟨h.st.below hB, (h.ls.below hB).mono fun k e => ⟨e.1, e.2.1, e.2.2.1, e.2.2.2.1, by have := e.2.2.2.2; omega⟩, (hT s).keep h.raw (fun j _ hj => hB.block j hj) hz, fun j e => Nat.lt_of_lt_of_le (h.ol j e) hz, h.og, h.orr, (hB.block r h.rlt).trans h.zr, h.gr, h.gw, h.rw, h.oo, h.tu.trans (Turned.of_below (S := O0) hB) (fun _ _ e => e)⟩
theorem QV.at {σ : Type} {B : World → (Nat → Prop) → σ → Prop} (hT : ∀ s, OAt (fun w O => B w O s)) {w : World} {O0 : Nat → Prop} {r g : Nat} {W W' : World} {O : Nat → Prop} {x x' : SS} {s : σ} {o i b o' i' b' : Value} (h : QV B w O0 r g W O x s o i b) (hs : StAt W' g x' o' i' b') (ht : Turned (fun k => k = g) W W') (hl : SIn W (fun k => w.heap.size ≤ k ∧ ¬ O k ∧ k ≠ g ∧ k ≠ r ∧ k < W.heap.size) x' o' i' b') : QV B w O0 r g W' O x' s o' i' b' := by
  have hz := ht.size
  have hg := h.gw
  exact ⟨hs, (hl.turned ht fun k e _ => e.2.2.1).mono fun k e => ⟨e.1, e.2.1, e.2.2.1, e.2.2.2.1, by have := e.2.2.2.2; omega⟩, (hT s).keep h.raw (fun j e hj => ht.block j hj (fun e' => h.og (e' ▸ e))) hz, fun j e => Nat.lt_of_lt_of_le (h.ol j e) hz, h.og, h.orr, (ht.block r h.rlt (fun e => h.gr e.symm)).trans h.zr, h.gr, h.gw, h.rw, h.oo, h.tu.trans ht (fun k hk e => by have e' : k = g := e; omega)⟩
theorem QV.set {σ : Type} {B : World → (Nat → Prop) → σ → Prop} (hT : ∀ s, OAt (fun w O => B w O s)) {w : World} {O0 : Nat → Prop} {r g : Nat} {W : World} {O : Nat → Prop} {x : SS} {s : σ} {o i b : Value} (h : QV B w O0 r g W O x s o i b) (x' : SS) (o' i' b' : Value) (j : Nat) (u : Value) (he : ([.bool x.rd, .bool x.wt, .int .i64 x.mode, .int .i64 x.size, o, i, b, .int .i64 x.dir, .bool x.fin, .bool x.bad, .bool x.closed] : List Value).set j u = [.bool x'.rd, .bool x'.wt, .int .i64 x'.mode, .int .i64 x'.size, o', i', b', .int .i64 x'.dir, .bool x'.fin, .bool x'.bad, .bool x'.closed]) (hl : SIn W (fun k => w.heap.size ≤ k ∧ ¬ O k ∧ k ≠ g ∧ k ≠ r ∧ k < W.heap.size) x' o' i' b') : QV B w O0 r g (W.setCell ⟨g, j, none⟩ u) O x' s o' i' b' := by
  obtain ⟨h1, h2⟩ := h.st.set j u he
  exact h.at hT h1 h2 hl
theorem QV.step {σ : Type} {B : World → (Nat → Prop) → σ → Prop} (hT : ∀ s, OAt (fun w O => B w O s)) {w : World} {O0 : Nat → Prop} {r g : Nat} {W W1 : World} {O : Nat → Prop} {x : SS} {s s' : σ} {o i b : Value} (h : QV B w O0 r g W O x s o i b) (hS : OStep (fun w O => B w O s') W O W1) : ∃ O', QV B w O0 r g W1 O' x s' o i b ∧ ∀ k, k < W.heap.size → ¬ O k → ¬ O' k := by
  obtain ⟨O1, q1, q2, q3⟩ := hS
  have hz := q3.size
  have hn : ∀ k, k < W.heap.size → ¬ O k → ¬ (O1 k ∧ k < W1.heap.size) := fun k hk hno e => (q2 k e.1).elim hno (fun e => by omega)
  have hw := h.tu.size
  exact ⟨fun k => O1 k ∧ k < W1.heap.size, ⟨h.st.turned q3 h.og, (h.ls.turned q3 fun k e _ => e.2.1).mono fun k e => ⟨e.1, hn k e.2.2.2.2 e.2.1, e.2.2.1, e.2.2.2.1, by have := e.2.2.2.2; omega⟩, (hT s').trim q1, fun j e => e.2, hn g h.st.lt h.og, hn r h.rlt h.orr, (q3.block r h.rlt h.orr).trans h.zr, h.gr, h.gw, h.rw, fun k e => (q2 k e.1).elim (h.oo k) (fun e => .inr (by omega)), h.tu.trans q3 (fun k hk e => (h.oo k e).resolve_right (by omega))⟩, hn⟩
theorem QV.out {σ : Type} {B : World → (Nat → Prop) → σ → Prop} (hT : ∀ s, OAt (fun w O => B w O s)) {w : World} {O0 : Nat → Prop} {r g : Nat} {W : World} {O : Nat → Prop} {x : SS} {s : σ} {o i b : Value} (h : QV B w O0 r g W O x s o i b) : StAt (filled W r x o i b) r x o i b ∧ SOut B w O0 x s o i b (filled W r x o i b) := by
  obtain ⟨e1, e2⟩ := st_fill3 W r x o i b h.zr
  have hz := e2.size
  have hr := h.rw
  exact ⟨e1, O, (h.ls.turned e2 fun k e _ => e.2.2.2.1).mono fun k e => ⟨e.1, e.2.1, by have := e.2.2.2.2; omega⟩, (hT s).keep h.raw (fun j e hj => e2.block j hj (fun e' => h.orr (e' ▸ e))) hz, fun j e => Nat.lt_of_lt_of_le (h.ol j e) hz, h.oo, h.tu.trans e2 (fun k hk e => by have e' : k = r := e; omega)⟩
end Go.Proofs.YtdmkjbdlidadiaaGreat

/- Streams: a call's variable takes what another call gave. -/
namespace Go.Proofs.YtdmkjbdlidadiaaGreat
open Go.RowKit

theorem QV.of_out {σ : Type} {B : World → (Nat → Prop) → σ → Prop} (hT : ∀ s, OAt (fun w O => B w O s)) {w w1 w2 : World} {O : Nat → Prop} {r g : Nat} {x x' : SS} {s' : σ} {o i b o' i' b' : Value} (hB : Below w.heap.size w w1) (hs : StAt w1 g x o i b) (hz : w1.heap[r]? = some (Obj.cells #[.bool false, .bool false, .int .i64 0, .int .i64 0, .slice none 0 0, .slice none 0 0, .slice none 0 0, .int .i64 0, .bool false, .bool false, .bool false] 58)) (hgr : g ≠ r) (hg : w.heap.size ≤ g) (hr : w.heap.size ≤ r) (hO : ∀ j, O j → j < w.heap.size) (hS : SOut B w1 O x' s' o' i' b' w2) :
    StAt w2 g x o i b ∧ ∃ O', QV B w O r g (filled w2 g x' o' i' b') O' x' s' o' i' b' := by
  obtain ⟨O', h1, h2, h3, h4, h5⟩ := hS
  have hz1 := hB.size
  have hz5 := h5.size
  have hgl := hs.lt
  have hrl : r < w1.heap.size := (Array.getElem?_eq_some_iff.1 hz).1
  have hst : StAt w2 g x o i b := (h5.block g hgl (fun e => by have := hO g e; omega)).trans hs
  obtain ⟨e1, e2⟩ := st_fill2 w2 g x x' o i b o' i' b' hst
  have hz2 := e2.size
  have no : ∀ k, w.heap.size ≤ k → k < w1.heap.size → ¬ O' k := fun k ha hb e => by
    rcases h4 k e with e | e
    · have := hO k e; omega
    · omega
  refine ⟨hst, O', e1, (h1.turned e2 fun k e _ e' => by have := e.1; omega).mono fun k e => ⟨by have := e.1; omega, e.2.1, by have := e.1; omega, by have := e.1; omega, by have := e.2.2; omega⟩, (hT s').keep h2 (fun j e hj => e2.block j hj (fun e' => no g hg hgl (e' ▸ e))) hz2, fun j e => Nat.lt_of_lt_of_le (h3 j e) hz2, no g hg hgl, no r hr hrl, ?_, hgr, hg, hr, fun k e => (h4 k e).imp id (fun e => by omega), ?_⟩
  · exact (e2.block r (by omega) (fun e => hgr e.symm)).trans ((h5.block r hrl (fun e => by have := hO r e; omega)).trans hz)
  · exact ((Turned.of_below (S := O) hB).trans h5 (fun _ _ e => e)).trans e2 (fun k hk e => by have e' : k = g := e; omega)
theorem QV.of_new {σ : Type} {B : World → (Nat → Prop) → σ → Prop} (hT : ∀ s, OAt (fun w O => B w O s)) {w w1 w2 : World} {O : Nat → Prop} {r : Nat} {x' : SS} {s' : σ} {o' i' b' : Value} (hB : Below w.heap.size w w1) (hz : w1.heap[r]? = some (Obj.cells #[.bool false, .bool false, .int .i64 0, .int .i64 0, .slice none 0 0, .slice none 0 0, .slice none 0 0, .int .i64 0, .bool false, .bool false, .bool false] 58)) (hr : w.heap.size ≤ r) (hO : ∀ j, O j → j < w.heap.size) (hS : SOut B w1 O x' s' o' i' b' w2) :
    ∃ O', QV B w O r w2.heap.size (w2.alloc (Obj.cells #[.bool x'.rd, .bool x'.wt, .int .i64 x'.mode, .int .i64 x'.size, o', i', b', .int .i64 x'.dir, .bool x'.fin, .bool x'.bad, .bool x'.closed] 58)) O' x' s' o' i' b' := by
  obtain ⟨O', h1, h2, h3, h4, h5⟩ := hS
  have hz1 := hB.size
  have hz5 := h5.size
  have hrl : r < w1.heap.size := (Array.getElem?_eq_some_iff.1 hz).1
  have hBn := recv_below w2 (Obj.cells #[.bool x'.rd, .bool x'.wt, .int .i64 x'.mode, .int .i64 x'.size, o', i', b', .int .i64 x'.dir, .bool x'.fin, .bool x'.bad, .bool x'.closed] 58)
  have hzn := hBn.size
  have hst := StAt.new w2 x' o' i' b'
  refine ⟨O', hst, (h1.below hBn).mono fun k e => ⟨by have := e.1; omega, e.2.1, by have := e.2.2; omega, by have := e.1; omega, by have := e.2.2; omega⟩, (hT s').keep h2 (fun j _ hj => hBn.block j hj) hzn, fun j e => Nat.lt_of_lt_of_le (h3 j e) hzn, fun e => by have := h3 _ e; omega, fun e => ?_, ?_, by omega, by omega, hr, fun k e => (h4 k e).imp id (fun e => by omega), ?_⟩
  · rcases h4 r e with e | e
    · have := hO r e; omega
    · omega
  · exact (hBn.block r (by omega)).trans ((h5.block r hrl (fun e => by have := hO r e; omega)).trans hz)
  · exact ((Turned.of_below (S := O) hB).trans h5 (fun _ _ e => e)).trans (Turned.of_below (S := O) hBn) (fun _ _ e => e)
theorem SIn.nils0 {W : World} {P : Nat → Prop} {x : SS} (h1 : x.out = []) (h2 : x.inn = []) (h3 : x.back = []) : SIn W P x (.slice none 0 0) (.slice none 0 0) (.slice none 0 0) := by
  have hno : ∀ k, (Value.slice none 0 0).ownBlock = some k → False := fun k e => by simp [Value.ownBlock] at e
  exact ⟨h1 ▸ Sl.nil, h2 ▸ Sl.nil, h3 ▸ Sl.nil, fun k e => (hno k e).elim, fun k e => (hno k e).elim, fun k e => (hno k e).elim⟩
theorem QV.out2 {σ : Type} {B : World → (Nat → Prop) → σ → Prop} (hT : ∀ s, OAt (fun w O => B w O s)) {w : World} {O0 : Nat → Prop} {r g : Nat} {W : World} {O : Nat → Prop} {x : SS} {s : σ} {o i b : Value} (h : QV B w O0 r g W O x s o i b) (x' : SS) (o' i' b' : Value) (hl : SIn W (fun k => w.heap.size ≤ k ∧ ¬ O k ∧ k ≠ g ∧ k ≠ r ∧ k < W.heap.size) x' o' i' b') : StAt (filled W r x' o' i' b') r x' o' i' b' ∧ SOut B w O0 x' s o' i' b' (filled W r x' o' i' b') := by
  obtain ⟨e1, e2⟩ := st_fill3 W r x' o' i' b' h.zr
  have hz := e2.size
  have hr := h.rw
  exact ⟨e1, O, (hl.turned e2 fun k e _ => e.2.2.2.1).mono fun k e => ⟨e.1, e.2.1, by have := e.2.2.2.2; omega⟩, (hT s).keep h.raw (fun j e hj => e2.block j hj (fun e' => h.orr (e' ▸ e))) hz, fun j e => Nat.lt_of_lt_of_le (h.ol j e) hz, h.oo, h.tu.trans e2 (fun k hk e => by have e' : k = r := e; omega)⟩
end Go.Proofs.YtdmkjbdlidadiaaGreat

/- Position: what was put is delivered, the way stays. -/
namespace Go.Proofs.YtdmkjbdlidadiaaGreat
open Go.RowKit

set_option maxRecDepth 100000 in
set_option maxHeartbeats 4000000 in
theorem delivered_any {S : Type} {D : RawD S} {T : TypeId} {v : Value} {fr fw : FuncId} {rok wok : S → Prop} {At : World → (Nat → Prop) → S → Prop} (R : RawM D T v fr fw rok wok At) (hT : ∀ s, OAt (fun w O => At w O s)) {G : Nat → S → Prop} (hG : Bears D rok wok G) {w : World} {O P : Nat → Prop} {s : S} {x : SS} {o i b : Value} (h : SIn w P x o i b) (hA : At w O s) (hO : ∀ j, O j → j < w.heap.size) (hg : G 2 s) (ho : x.out.length ≤ 140737488351232) (hi : x.inn.length ≤ 140737488351232) (hb : x.back.length ≤ 140737488351232) (hr : x.refuse true = 0) :
    Calls Tryz.prog 133 #[.agg #[.bool x.rd, .bool x.wt, .int .i64 x.mode, .int .i64 x.size, o, i, b, .int .i64 x.dir, .bool x.fin, .bool x.bad, .bool x.closed], .iface T v] w fun e w' => ∃ o' i' b', e = .returned (.tuple #[.agg #[.bool (x.deliver D s).1.rd, .bool (x.deliver D s).1.wt, .int .i64 (x.deliver D s).1.mode, .int .i64 (x.deliver D s).1.size, o', i', b', .int .i64 (x.deliver D s).1.dir, .bool (x.deliver D s).1.fin, .bool (x.deliver D s).1.bad, .bool (x.deliver D s).1.closed], .int .i64 (x.deliver D s).2.1]) ∧ SOut At w O (x.deliver D s).1 (x.deliver D s).2.2 o' i' b' w' := by
  have HFl := hide (fun (W : World) (hW : Below w.heap.size w W) => sFlush_any R hT hG (h.below hW) ((hT s).keep hA (fun j _ hj => hW.block j hj) hW.size) (fun j e => Nat.lt_of_lt_of_le (hO j e) hW.size) hg ho hi hb)
  have HD := hide (flush_deliver D s hr)
  clear hr
  obtain ⟨oa, oc, rfl, -⟩ := h.so
  obtain ⟨ia, ic, rfl, -⟩ := h.si
  obtain ⟨ba, bc, rfl, -⟩ := h.sb
  clear h
  generalize x.deliver D s = q at *
  obtain ⟨qx, qe, qs⟩ := q
  go_enter Tryz.func133, Tryz.ntmps133
  go_wp2_with fail
  have HB0 := hide ((recv_below w (Obj.cells #[.bool x.rd, .bool x.wt, .int .i64 x.mode, .int .i64 x.size, .slice oa x.out.length oc, .slice ia x.inn.length ic, .slice ba x.back.length bc, .int .i64 x.dir, .bool x.fin, .bool x.bad, .bool x.closed] 58)).trans ((recv_below (w.alloc (Obj.cells #[.bool x.rd, .bool x.wt, .int .i64 x.mode, .int .i64 x.size, .slice oa x.out.length oc, .slice ia x.inn.length ic, .slice ba x.back.length bc, .int .i64 x.dir, .bool x.fin, .bool x.bad, .bool x.closed] 58)) (Obj.cells #[.bool false, .bool false, .int .i64 0, .int .i64 0, .slice none 0 0, .slice none 0 0, .slice none 0 0, .int .i64 0, .bool false, .bool false, .bool false] 58)).mono (recv_below w (Obj.cells #[.bool x.rd, .bool x.wt, .int .i64 x.mode, .int .i64 x.size, .slice oa x.out.length oc, .slice ia x.inn.length ic, .slice ba x.back.length bc, .int .i64 x.dir, .bool x.fin, .bool x.bad, .bool x.closed] 58)).size))
  have HS0 := hide ((StAt.new w x (.slice oa x.out.length oc) (.slice ia x.inn.length ic) (.slice ba x.back.length bc)).below (recv_below _ (Obj.cells #[.bool false, .bool false, .int .i64 0, .int .i64 0, .slice none 0 0, .slice none 0 0, .slice none 0 0, .int .i64 0, .bool false, .bool false, .bool false] 58)))
  have HZ0 : Hid (((w.alloc (Obj.cells #[.bool x.rd, .bool x.wt, .int .i64 x.mode, .int .i64 x.size, .slice oa x.out.length oc, .slice ia x.inn.length ic, .slice ba x.back.length bc, .int .i64 x.dir, .bool x.fin, .bool x.bad, .bool x.closed] 58)).alloc (Obj.cells #[.bool false, .bool false, .int .i64 0, .int .i64 0, .slice none 0 0, .slice none 0 0, .slice none 0 0, .int .i64 0, .bool false, .bool false, .bool false] 58)).heap[w.heap.size + 1]? = some (Obj.cells #[.bool false, .bool false, .int .i64 0, .int .i64 0, .slice none 0 0, .slice none 0 0, .slice none 0 0, .int .i64 0, .bool false, .bool false, .bool false] 58)) := hide (by have := heap_alloc_new (w.alloc (Obj.cells #[.bool x.rd, .bool x.wt, .int .i64 x.mode, .int .i64 x.size, .slice oa x.out.length oc, .slice ia x.inn.length ic, .slice ba x.back.length bc, .int .i64 x.dir, .bool x.fin, .bool x.bad, .bool x.closed] 58)) (Obj.cells #[.bool false, .bool false, .int .i64 0, .int .i64 0, .slice none 0 0, .slice none 0 0, .slice none 0 0, .int .i64 0, .bool false, .bool false, .bool false] 58); rw [show (w.alloc (Obj.cells #[.bool x.rd, .bool x.wt, .int .i64 x.mode, .int .i64 x.size, .slice oa x.out.length oc, .slice ia x.inn.length ic, .slice ba x.back.length bc, .int .i64 x.dir, .bool x.fin, .bool x.bad, .bool x.closed] 58)).heap.size = w.heap.size + 1 from Array.size_push ..] at this; exact this)
  generalize (w.alloc (Obj.cells #[.bool x.rd, .bool x.wt, .int .i64 x.mode, .int .i64 x.size, .slice oa x.out.length oc, .slice ia x.inn.length ic, .slice ba x.back.length bc, .int .i64 x.dir, .bool x.fin, .bool x.bad, .bool x.closed] 58)).alloc (Obj.cells #[.bool false, .bool false, .int .i64 0, .int .i64 0, .slice none 0 0, .slice none 0 0, .slice none 0 0, .int .i64 0, .bool false, .bool false, .bool false] 58) = w0 at *
  have hz0 : w.heap.size + 1 < w0.heap.size := (Array.getElem?_eq_some_iff.1 HZ0.out).1
  have hp := HFl.out _ HB0.out
  clear HFl
  generalize x.flush D s = X at *
  obtain ⟨fx, fe, fs⟩ := X
  simp only at hp HD
  have HP := hide hp
  clear hp
  refine HP.out.mono ?_
  rintro _ w2 ⟨o1, i1, b1, rfl, hS⟩
  obtain ⟨a1, k1, rfl, -⟩ := hS.choose_spec.1.so
  obtain ⟨a2, k2, rfl, -⟩ := hS.choose_spec.1.si
  obtain ⟨a3, k3, rfl, -⟩ := hS.choose_spec.1.sb
  have hTu : Turned O w0 w2 := by obtain ⟨_, _, _, _, _, t⟩ := hS; exact t
  have hS2 : StAt w2 w.heap.size x (.slice oa x.out.length oc) (.slice ia x.inn.length ic) (.slice ba x.back.length bc) := (hTu.block _ (by omega) (fun e => by have := hO _ e; omega)).trans HS0.out
  have HS3 := hide (hS2.below (recv_below w2 (Obj.cells #[.bool fx.rd, .bool fx.wt, .int .i64 fx.mode, .int .i64 fx.size, .slice a1 fx.out.length k1, .slice a2 fx.inn.length k2, .slice a3 fx.back.length k3, .int .i64 fx.dir, .bool fx.fin, .bool fx.bad, .bool fx.closed] 58)))
  obtain ⟨O3, hV3⟩ := QV.of_new hT HB0.out HZ0.out (Nat.le_succ _) hO hS
  have HV3 := hide hV3
  clear hV3 hS hTu hS2 HS0 HZ0 HP
  go_upto_region 2 with fail
  generalize w2.alloc (Obj.cells #[.bool fx.rd, .bool fx.wt, .int .i64 fx.mode, .int .i64 fx.size, .slice a1 fx.out.length k1, .slice a2 fx.inn.length k2, .slice a3 fx.back.length k3, .int .i64 fx.dir, .bool fx.fin, .bool fx.bad, .bool fx.closed] 58) = w3 at *
  generalize w2.heap.size = g2 at *
  obtain ⟨rfl, rfl⟩ : fe = qe ∧ fs = qs := by have := HD.out; simp only [Prod.mk.injEq] at this; exact ⟨this.2.1, this.2.2⟩
  have HX : Hid (SS.mk fx.rd fx.wt fx.mode fx.size fx.out fx.inn fx.back x.dir fx.fin fx.bad fx.closed = qx) := hide (by have := HD.out; simp only [Prod.mk.injEq] at this; exact this.1)
  clear HD
  have HV4 := hide (HV3.out.set hT (SS.mk fx.rd fx.wt fx.mode fx.size fx.out fx.inn fx.back x.dir fx.fin fx.bad fx.closed) _ _ _ 7 (.int .i64 x.dir) rfl ⟨HV3.out.ls.so, HV3.out.ls.si, HV3.out.ls.sb, HV3.out.ls.po, HV3.out.ls.pi, HV3.out.ls.pb⟩)
  have s7 := HV3.out.st.soft 7
  have c7 := HS3.out.cs.2.2.2.2.2.2.2.1
  have d7 := HV3.out.st.cs.2.2.2.2.2.2.2.1
  clear HV3 HS3
  go_upto_region 3 with fail
  clear s7 c7 d7
  generalize w3.setCell ⟨g2, 7, none⟩ (.int .i64 x.dir) = w4 at *
  obtain ⟨e1, e2⟩ := HV4.out.out hT
  unfold filled at e1 e2
  have HE := hide e1
  have HF := hide e2
  have HZr := hide HV4.out.zr
  obtain ⟨c0, c1, c2, c3, c4, c5, c6, c7, c8, c9, c10⟩ := HV4.out.st.cs
  have f0 := frozen_of_row w4 (w.heap.size + 1) 0 _ _ HZr.out
  have f1 := frozen_of_row w4 (w.heap.size + 1) 1 _ _ HZr.out
  have f2 := frozen_of_row w4 (w.heap.size + 1) 2 _ _ HZr.out
  have f3 := frozen_of_row w4 (w.heap.size + 1) 3 _ _ HZr.out
  have f4 := frozen_of_row w4 (w.heap.size + 1) 4 _ _ HZr.out
  have f5 := frozen_of_row w4 (w.heap.size + 1) 5 _ _ HZr.out
  have f6 := frozen_of_row w4 (w.heap.size + 1) 6 _ _ HZr.out
  have f7 := frozen_of_row w4 (w.heap.size + 1) 7 _ _ HZr.out
  have f8 := frozen_of_row w4 (w.heap.size + 1) 8 _ _ HZr.out
  have f9 := frozen_of_row w4 (w.heap.size + 1) 9 _ _ HZr.out
  have f10 := frozen_of_row w4 (w.heap.size + 1) 10 _ _ HZr.out
  have d0 := cell_of_row w4 (w.heap.size + 1) 0 _ _ _ HZr.out
  have d1 := cell_of_row w4 (w.heap.size + 1) 1 _ _ _ HZr.out
  have d2 := cell_of_row w4 (w.heap.size + 1) 2 _ _ _ HZr.out
  have d3 := cell_of_row w4 (w.heap.size + 1) 3 _ _ _ HZr.out
  have d4 := cell_of_row w4 (w.heap.size + 1) 4 _ _ _ HZr.out
  have d5 := cell_of_row w4 (w.heap.size + 1) 5 _ _ _ HZr.out
  have d6 := cell_of_row w4 (w.heap.size + 1) 6 _ _ _ HZr.out
  have d7 := cell_of_row w4 (w.heap.size + 1) 7 _ _ _ HZr.out
  have d8 := cell_of_row w4 (w.heap.size + 1) 8 _ _ _ HZr.out
  have d9 := cell_of_row w4 (w.heap.size + 1) 9 _ _ _ HZr.out
  have d10 := cell_of_row w4 (w.heap.size + 1) 10 _ _ _ HZr.out
  simp at d0 d1 d2 d3 d4 d5 d6 d7 d8 d9 d10
  clear e1 e2
  go_wp2
  refine bodyPost_ret (res_two rfl _ (w.heap.size + 1) rfl _ _ _ _ HE.out) rfl ?_
  obtain rfl := HX.out
  exact ⟨_, _, _, rfl, HF.out⟩
end Go.Proofs.YtdmkjbdlidadiaaGreat

/- Position: a Raw's place is set. -/
namespace Go.Proofs.YtdmkjbdlidadiaaGreat
open Go.RowKit

set_option maxRecDepth 100000 in
set_option maxHeartbeats 4000000 in
theorem moved_any {S : Type} {K : SkV S} {T : TypeId} {v : Value} {fs : FuncId} {sok : S → Prop} {At : World → (Nat → Prop) → S → Prop} (Q : RawS K T v fs sok At) {G : Nat → S → Prop} (hK : BearsS K sok G) {w : World} {O : Nat → Prop} {s : S} (n off wh : Int) (hA : At w O s) (hg : G 2 s) (hn : 0 ≤ n ∧ n ≤ 1000000000000000) (ho : -9223372036854775808 ≤ off ∧ off ≤ 9223372036854775807) :
    Calls Tryz.prog 136 #[.iface T v, .int .i64 n, .int .i64 off, .int .i64 wh] w fun e w' => e = .returned (.tuple #[.int .i64 (movedV K s n off wh).1, .int .i64 (movedV K s n off wh).2.1]) ∧ OStep (fun w O => At w O (movedV K s n off wh).2.2) w O w' := by
  have hm := Q.mseek
  have hc := Q.cseek
  obtain ⟨q, hq⟩ : ∃ q, q = movedV K s n off wh := ⟨_, rfl⟩
  rw [← hq]
  obtain ⟨qp, qe, qs⟩ := q
  unfold movedV at hq
  by_cases hw : wh = 1
  case neg =>
    rw [if_pos hw] at hq
    have HS := hide (Q.seek off wh hA (hK 1 s off wh hg).1 ho)
    rw [← hq] at HS
    simp only at HS
    have hb : (wh != 1) = true := by simp [hw]
    have hb2 : (wh == 1) = false := by simp [hw]
    clear hw hq ho hn
    go_enter Tryz.func136, Tryz.ntmps136
    go_wp2_with fail
    refine HS.out.mono ?_
    rintro _ w1 ⟨rfl, hS1⟩
    have HS1 := hide hS1
    clear hS1
    go_wp2
    go_ret2
    exact ⟨rfl, HS1.out⟩
  subst hw
  rw [if_neg (by simp)] at hq
  have HS := hide (Q.seek 0 1 hA (hK 1 s 0 1 hg).1 (by omega))
  have hpt := Q.told 0 1 hA
  have HG1 := hide (hK 1 s 0 1 hg).2
  obtain ⟨p1, f1, s1, h1⟩ : ∃ p1 f1 s1, K s 0 1 = (p1, f1, s1) := ⟨_, _, _, rfl⟩
  rw [h1] at HS HG1 hq hpt
  simp only at HS HG1 hq hpt
  clear h1
  by_cases hf : f1 = 0
  case neg =>
    rw [if_pos hf] at hq
    obtain ⟨rfl, rfl, rfl⟩ : qp = 0 ∧ qe = f1 ∧ qs = s1 := by simpa using hq
    have hb : (qe != 0) = true := by simp [hf]
    have hb2 : (qe == 0) = false := by simp [hf]
    clear hf hq ho hn hpt
    go_enter Tryz.func136, Tryz.ntmps136
    go_wp2_with fail
    refine HS.out.mono ?_
    rintro _ w1 ⟨rfl, hS1⟩
    have HS1 := hide hS1
    clear hS1
    go_wp2
    go_ret2
    exact ⟨rfl, HS1.out⟩
  subst hf
  rw [if_neg (by simp)] at hq
  have HP := hide (fun W => placeOf_any p1 n off W hpt hn ho)
  unfold placeV at HP
  by_cases hin : 0 ≤ p1 - n + off ∧ p1 - n + off ≤ 1048576
  case neg =>
    rw [if_neg hin] at hq HP
    obtain ⟨rfl, rfl, rfl⟩ : qp = 0 ∧ qe = 4 ∧ qs = s1 := by simpa using hq
    simp only at HP
    clear hin hq ho hn hpt
    go_enter Tryz.func136, Tryz.ntmps136
    go_wp2_with fail
    refine HS.out.mono ?_
    rintro _ w1 ⟨rfl, hS1⟩
    have HS1 := hide hS1
    clear hS1
    go_wp2_with fail
    refine (HP.out _).mono ?_
    rintro _ _ ⟨rfl, rfl⟩
    go_wp2
    go_ret2
    exact ⟨rfl, HS1.out⟩
  rw [if_pos hin] at hq HP
  simp only at HP
  have HS2 := hide (fun (W : World) (O' : Nat → Prop) (hA' : At W O' s1) => Q.seek (p1 - n + off) 0 hA' (hK 0 s1 (p1 - n + off) 0 HG1.out).1 (by omega))
  rw [← hq] at HS2
  simp only at HS2
  generalize p1 - n + off = t at *
  clear hin hq ho hn hpt
  go_enter Tryz.func136, Tryz.ntmps136
  go_wp2_with fail
  refine HS.out.mono ?_
  rintro _ w1 ⟨rfl, O1, hA1, hO1, hT1⟩
  have HA1 := hide hA1
  have HO1 := hide hO1
  have HT1 := hide hT1
  clear hA1 hO1 hT1
  go_wp2_with fail
  refine (HP.out _).mono ?_
  rintro _ _ ⟨rfl, rfl⟩
  go_wp2_with fail
  refine (HS2.out _ _ HA1.out).mono ?_
  rintro _ w2 ⟨rfl, O2, hA2, hO2, hT2⟩
  have HA2 := hide hA2
  have HO2 := hide hO2
  have HT2 := hide hT2
  clear hA2 hO2 hT2
  go_wp2
  go_ret2
  have hz := HT1.out.size
  refine ⟨rfl, O2, HA2.out, fun k e => ?_, HT1.out.trans HT2.out (fun k hk e => (HO1.out k e).resolve_right (by omega))⟩
  rcases HO2.out k e with e | e
  · exact HO1.out k e
  · exact .inr (by omega)
end Go.Proofs.YtdmkjbdlidadiaaGreat

/- Position: a state's lists, by an array of their places. -/
namespace Go.Proofs.YtdmkjbdlidadiaaGreat
open Go.RowKit

def ps3 (g : Nat) : Array Value := #[.pointer (some ⟨g, 4, none⟩), .pointer (some ⟨g, 5, none⟩), .pointer (some ⟨g, 6, none⟩)]
theorem ps_build (g : Nat) (w : World) : (Instr.build 324 #[(0, .pointer (some ⟨g, 4, none⟩)), (1, .pointer (some ⟨g, 5, none⟩)), (2, .pointer (some ⟨g, 6, none⟩))]).run Tryz.prog w = .ok (.agg #[.pointer (some ⟨g, 4, none⟩), .pointer (some ⟨g, 5, none⟩), .pointer (some ⟨g, 6, none⟩)]) w := by
  kernel_rfl
theorem listsOf_any (g : Nat) (w : World) : Calls Tryz.prog 212 #[.pointer (some ⟨g, 0, none⟩)] w fun e w' => e = .returned (.agg (ps3 g)) ∧ Below w.heap.size w w' := by
  have hb := ps_build g
  go_enter Tryz.func212, Tryz.ntmps212
  go_wp2_with fail
  go_region
  go_wp2
  refine bodyPost_ret (results_cell_row rfl _ _ w.heap.size _ _ _ _ rfl (heap_alloc_new w _) Tryz.underlying324 rfl (by kernel_rfl)) rfl ?_
  exact ⟨rfl, (recv_below w _).drew⟩
theorem ps_info : (Tryz.prog.info? 323).map (fun i => i.size) = some 1 := by kernel_rfl
theorem index_ps0 (g : Nat) (W : World) : (Instr.index 324 (.agg (ps3 g)) (.int .i64 0)).run Tryz.prog W = .ok (.pointer (some ⟨g, 4, none⟩)) W := by
  have hu := Tryz.underlying324
  have hi := ps_info
  cases hq : Tryz.prog.info? 323 with
  | none => rw [hq] at hi; cases hi
  | some i =>
    rw [hq] at hi
    have hs : i.size = 1 := by simpa using hi
    unfold Instr.index
    simp [asIntOf, Sem.run_bind, run_underlying hu W, part, sizeOf, typeInfo, hq, hs, ps3]
theorem index_ps1 (g : Nat) (W : World) : (Instr.index 324 (.agg (ps3 g)) (.int .i64 1)).run Tryz.prog W = .ok (.pointer (some ⟨g, 5, none⟩)) W := by
  have hu := Tryz.underlying324
  have hi := ps_info
  cases hq : Tryz.prog.info? 323 with
  | none => rw [hq] at hi; cases hi
  | some i =>
    rw [hq] at hi
    have hs : i.size = 1 := by simpa using hi
    unfold Instr.index
    simp [asIntOf, Sem.run_bind, run_underlying hu W, part, sizeOf, typeInfo, hq, hs, ps3]
theorem index_ps2 (g : Nat) (W : World) : (Instr.index 324 (.agg (ps3 g)) (.int .i64 2)).run Tryz.prog W = .ok (.pointer (some ⟨g, 6, none⟩)) W := by
  have hu := Tryz.underlying324
  have hi := ps_info
  cases hq : Tryz.prog.info? 323 with
  | none => rw [hq] at hi; cases hi
  | some i =>
    rw [hq] at hi
    have hs : i.size = 1 := by simpa using hi
    unfold Instr.index
    simp [asIntOf, Sem.run_bind, run_underlying hu W, part, sizeOf, typeInfo, hq, hs, ps3]
def SS.upto (x : SS) (k : Nat) : Int := if k = 0 then 0 else if k = 1 then x.out.length else if k = 2 then (x.out.length : Int) + x.inn.length else (x.out.length : Int) + x.inn.length + x.back.length
set_option maxRecDepth 100000 in
set_option maxHeartbeats 4000000 in
theorem pheld14 (x : SS) (oa ia ba : Option Addr) (oc ic bc : Nat) (w : World) (ho : x.out.length ≤ 140737488351232) (hi : x.inn.length ≤ 140737488351232) (hb : x.back.length ≤ 140737488351232) :
    Calls Tryz.prog 134 #[.agg #[.bool x.rd, .bool x.wt, .int .i64 x.mode, .int .i64 x.size, .slice oa x.out.length oc, .slice ia x.inn.length ic, .slice ba x.back.length bc, .int .i64 x.dir, .bool x.fin, .bool x.bad, .bool x.closed]] w fun e w' => e = .returned (.int .i64 ((x.out.length : Int) + x.inn.length + x.back.length)) ∧ Below w.heap.size w w' := by
  go_enter Tryz.func134, Tryz.ntmps134
  go_wp2_with fail
  have HS0 := hide (StAt.new w x (.slice oa x.out.length oc) (.slice ia x.inn.length ic) (.slice ba x.back.length bc))
  have HB0 := hide (recv_below w (Obj.cells #[.bool x.rd, .bool x.wt, .int .i64 x.mode, .int .i64 x.size, .slice oa x.out.length oc, .slice ia x.inn.length ic, .slice ba x.back.length bc, .int .i64 x.dir, .bool x.fin, .bool x.bad, .bool x.closed] 58))
  generalize w.alloc (Obj.cells #[.bool x.rd, .bool x.wt, .int .i64 x.mode, .int .i64 x.size, .slice oa x.out.length oc, .slice ia x.inn.length ic, .slice ba x.back.length bc, .int .i64 x.dir, .bool x.fin, .bool x.bad, .bool x.closed] 58) = w0 at *
  refine (listsOf_any _ _).mono ?_
  rintro _ w1 ⟨rfl, hB1⟩
  have HS1 := hide (HS0.out.below hB1)
  have HB1 := hide (HB0.out.trans (hB1.mono HB0.out.size))
  clear hB1 HS0 HB0
  go_wp2_with fail
  have hx0 := index_ps0 w.heap.size
  have hx1 := index_ps1 w.heap.size
  have hx2 := index_ps2 w.heap.size
  have hl1 : (x.out.length : Int) ≤ 140737488351232 := by omega
  have hl2 : (x.inn.length : Int) ≤ 140737488351232 := by omega
  have hl3 : (x.back.length : Int) ≤ 140737488351232 := by omega
  have HL := hide (And.intro hl1 (And.intro hl2 hl3))
  clear hl1 hl2 hl3 ho hi hb
  generalize hA : ps3 w.heap.size = A at *
  clear hA
  go_loopw [3, 7] (fun n i wr => ∃ k : Nat, k ≤ 3 ∧ i = .int .i64 k ∧ n = .int .i64 (x.upto k) ∧ Hid (Below w1.heap.size w1 wr)) (fun _ i _ => 3 - (intOf i).toNat)
  case atStart => exact ⟨0, Nat.zero_le _, rfl, rfl, hide (Below.refl _ _)⟩
  case round =>
    obtain ⟨k, hk, rfl, rfl, HB⟩ := hrel
    obtain ⟨c0, c1, c2, c3, c4, c5, c6, c7, c8, c9, c10⟩ := (HS1.out.below HB.out).cs
    clear c0 c1 c2 c3 c7 c8 c9 c10
    match k, hk with
    | 0, _ =>
      have HU : Hid (wrap64 (x.upto 0 + (x.out.length : Int)) = x.upto 1) := hide (by have := HL.out; simp only [SS.upto, wrap64]; simp; omega)
      generalize x.upto 0 = U at *
      go_wp2_with fail
      exact ⟨⟨1, by decide, rfl, by rw [HU.out], HB⟩, by simp [intOf]⟩
    | 1, _ =>
      have HU : Hid (wrap64 (x.upto 1 + (x.inn.length : Int)) = x.upto 2) := hide (by have := HL.out; simp only [SS.upto, wrap64]; simp; omega)
      generalize x.upto 1 = U at *
      go_wp2_with fail
      exact ⟨⟨2, by decide, rfl, by rw [HU.out], HB⟩, by simp [intOf]⟩
    | 2, _ =>
      have HU : Hid (wrap64 (x.upto 2 + (x.back.length : Int)) = x.upto 3) := hide (by have := HL.out; simp only [SS.upto, wrap64]; simp; omega)
      generalize x.upto 2 = U at *
      go_wp2_with fail
      exact ⟨⟨3, by decide, rfl, by rw [HU.out], HB⟩, by simp [intOf]⟩
    | 3, _ =>
      go_wp2_with fail
      go_ret
      exact ⟨by simp only [SS.upto]; simp, HB1.out.trans (HB.out.mono HB1.out.size)⟩
end Go.Proofs.YtdmkjbdlidadiaaGreat
