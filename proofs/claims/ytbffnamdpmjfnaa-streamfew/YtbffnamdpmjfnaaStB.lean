/- Streams: Check, refusal, copies. -/
import Derived.Test.YtbffnamdpmjfnaaStA
import Derived.Deep.RegionHeld3
namespace Go.Proofs.Ytbffnamdpmjfnaa
open Go.RowKit

/-- A state that lies in a block of its own. -/
def StAt (W : World) (g : Nat) (x : SS) (o i b : Value) : Prop := W.heap[g]? = some (.cells #[.bool x.rd, .bool x.wt, .int .i64 x.mode, .int .i64 x.size, o, i, b, .int .i64 x.dir, .bool x.fin, .bool x.bad, .bool x.closed] 30)
theorem StAt.cs {W : World} {g : Nat} {x : SS} {o i b : Value} (h : StAt W g x o i b) : W.cell? ⟨g, 0, none⟩ = some (.bool x.rd) ∧ W.cell? ⟨g, 1, none⟩ = some (.bool x.wt) ∧ W.cell? ⟨g, 2, none⟩ = some (.int .i64 x.mode) ∧ W.cell? ⟨g, 3, none⟩ = some (.int .i64 x.size) ∧ W.cell? ⟨g, 4, none⟩ = some (o) ∧ W.cell? ⟨g, 5, none⟩ = some (i) ∧ W.cell? ⟨g, 6, none⟩ = some (b) ∧ W.cell? ⟨g, 7, none⟩ = some (.int .i64 x.dir) ∧ W.cell? ⟨g, 8, none⟩ = some (.bool x.fin) ∧ W.cell? ⟨g, 9, none⟩ = some (.bool x.bad) ∧ W.cell? ⟨g, 10, none⟩ = some (.bool x.closed) :=
  ⟨cell_of_row W g 0 _ _ _ h, cell_of_row W g 1 _ _ _ h, cell_of_row W g 2 _ _ _ h, cell_of_row W g 3 _ _ _ h, cell_of_row W g 4 _ _ _ h, cell_of_row W g 5 _ _ _ h, cell_of_row W g 6 _ _ _ h, cell_of_row W g 7 _ _ _ h, cell_of_row W g 8 _ _ _ h, cell_of_row W g 9 _ _ _ h, cell_of_row W g 10 _ _ _ h⟩
theorem StAt.new (w : World) (x : SS) (o i b : Value) : StAt (w.alloc (Obj.cells #[.bool x.rd, .bool x.wt, .int .i64 x.mode, .int .i64 x.size, o, i, b, .int .i64 x.dir, .bool x.fin, .bool x.bad, .bool x.closed] 30)) w.heap.size x o i b := heap_alloc_new w _
theorem StAt.below {W W' : World} {g : Nat} {x : SS} {o i b : Value} (h : StAt W g x o i b) (hB : Below W.heap.size W W') : StAt W' g x o i b := (hB.block g (Array.getElem?_eq_some_iff.1 h).1).trans h
set_option maxRecDepth 100000 in
set_option maxHeartbeats 400000 in
theorem scheck_any (x : SS) (oa ia ba : Option Addr) (oc ic bc : Nat) (w : World) (hi : x.inn.length ≤ 140737488351232) (hb : x.back.length ≤ 140737488351232) : Calls Try.prog 47 #[.agg #[.bool x.rd, .bool x.wt, .int .i64 x.mode, .int .i64 x.size, .slice oa x.out.length oc, .slice ia x.inn.length ic, .slice ba x.back.length bc, .int .i64 x.dir, .bool x.fin, .bool x.bad, .bool x.closed]] w fun e w' => e = .returned (.int .i64 (if x.may = true then 0 else 51)) ∧ Below w.heap.size w w' := by
  have HB := hide (bufMay_any x oa ia ba oc ic bc)
  have HW := hide (fun W => wayMay_any x oa ia ba oc ic bc W hi hb)
  generalize hr : (if x.may = true then (0 : Int) else 51) = r
  unfold SS.may at hr
  cases h1 : x.buf with
  | false =>
    have H1 := hide h1
    have HR : Hid (51 = r) := hide (by rw [← hr, h1]; rfl)
    clear hr h1
    go_enter Try.func47, Try.ntmps47
    go_wp2_with fail
    have HB0 := hide (recv_below w (Obj.cells #[.bool x.rd, .bool x.wt, .int .i64 x.mode, .int .i64 x.size, .slice oa x.out.length oc, .slice ia x.inn.length ic, .slice ba x.back.length bc, .int .i64 x.dir, .bool x.fin, .bool x.bad, .bool x.closed] 30))
    have HS0 := hide (StAt.new w x (.slice oa x.out.length oc) (.slice ia x.inn.length ic) (.slice ba x.back.length bc))
    generalize w.alloc (Obj.cells #[.bool x.rd, .bool x.wt, .int .i64 x.mode, .int .i64 x.size, .slice oa x.out.length oc, .slice ia x.inn.length ic, .slice ba x.back.length bc, .int .i64 x.dir, .bool x.fin, .bool x.bad, .bool x.closed] 30) = w0 at *
    refine (HB.out w0).mono ?_
    rintro _ w1 ⟨rfl, hB1⟩
    rw [H1.out]
    have HB1 := hide (HB0.out.trans (hB1.mono HB0.out.size))
    clear hB1
    go_wp2
    go_ret
    exact ⟨by rw [← HR.out]; rfl, HB1.out⟩
  | true =>
  cases h2 : x.way with
  | false =>
    have H1 := hide h1
    have H2 := hide h2
    have HR : Hid (51 = r) := hide (by rw [← hr, h1, h2]; rfl)
    clear hr h1 h2
    go_enter Try.func47, Try.ntmps47
    go_wp2_with fail
    have HB0 := hide (recv_below w (Obj.cells #[.bool x.rd, .bool x.wt, .int .i64 x.mode, .int .i64 x.size, .slice oa x.out.length oc, .slice ia x.inn.length ic, .slice ba x.back.length bc, .int .i64 x.dir, .bool x.fin, .bool x.bad, .bool x.closed] 30))
    have HS0 := hide (StAt.new w x (.slice oa x.out.length oc) (.slice ia x.inn.length ic) (.slice ba x.back.length bc))
    generalize w.alloc (Obj.cells #[.bool x.rd, .bool x.wt, .int .i64 x.mode, .int .i64 x.size, .slice oa x.out.length oc, .slice ia x.inn.length ic, .slice ba x.back.length bc, .int .i64 x.dir, .bool x.fin, .bool x.bad, .bool x.closed] 30) = w0 at *
    refine (HB.out w0).mono ?_
    rintro _ w1 ⟨rfl, hB1⟩
    rw [H1.out]
    have HS1 := hide (HS0.out.below hB1)
    obtain ⟨c0, c1, c2, c3, c4, c5, c6, c7, c8, c9, c10⟩ := HS1.out.cs
    have HB1 := hide (HB0.out.trans (hB1.mono HB0.out.size))
    clear hB1
    go_wp2_with fail
    refine (HW.out w1).mono ?_
    rintro _ w2 ⟨rfl, hB2⟩
    rw [H2.out]
    have HB2 := hide (HB1.out.trans (hB2.mono HB1.out.size))
    clear hB2 c0 c1 c2 c3 c4 c5 c6 c7 c8 c9 c10
    go_wp2
    go_ret
    exact ⟨by rw [← HR.out]; rfl, HB2.out⟩
  | true =>
    have H1 := hide h1
    have H2 := hide h2
    have HR : Hid (0 = r) := hide (by rw [← hr, h1, h2]; rfl)
    clear hr h1 h2
    go_enter Try.func47, Try.ntmps47
    go_wp2_with fail
    have HB0 := hide (recv_below w (Obj.cells #[.bool x.rd, .bool x.wt, .int .i64 x.mode, .int .i64 x.size, .slice oa x.out.length oc, .slice ia x.inn.length ic, .slice ba x.back.length bc, .int .i64 x.dir, .bool x.fin, .bool x.bad, .bool x.closed] 30))
    have HS0 := hide (StAt.new w x (.slice oa x.out.length oc) (.slice ia x.inn.length ic) (.slice ba x.back.length bc))
    generalize w.alloc (Obj.cells #[.bool x.rd, .bool x.wt, .int .i64 x.mode, .int .i64 x.size, .slice oa x.out.length oc, .slice ia x.inn.length ic, .slice ba x.back.length bc, .int .i64 x.dir, .bool x.fin, .bool x.bad, .bool x.closed] 30) = w0 at *
    refine (HB.out w0).mono ?_
    rintro _ w1 ⟨rfl, hB1⟩
    rw [H1.out]
    have HS1 := hide (HS0.out.below hB1)
    obtain ⟨c0, c1, c2, c3, c4, c5, c6, c7, c8, c9, c10⟩ := HS1.out.cs
    have HB1 := hide (HB0.out.trans (hB1.mono HB0.out.size))
    clear hB1
    go_wp2_with fail
    refine (HW.out w1).mono ?_
    rintro _ w2 ⟨rfl, hB2⟩
    rw [H2.out]
    have HB2 := hide (HB1.out.trans (hB2.mono HB1.out.size))
    clear hB2 c0 c1 c2 c3 c4 c5 c6 c7 c8 c9 c10
    go_wp2
    go_ret
    exact ⟨by rw [← HR.out]; rfl, HB2.out⟩
set_option maxRecDepth 100000 in
set_option maxHeartbeats 400000 in
theorem srefusal_any (x : SS) (hr : Bool) (oa ia ba : Option Addr) (oc ic bc : Nat) (w : World) (hi : x.inn.length ≤ 140737488351232) (hb : x.back.length ≤ 140737488351232) : Calls Try.prog 38 #[.agg #[.bool x.rd, .bool x.wt, .int .i64 x.mode, .int .i64 x.size, .slice oa x.out.length oc, .slice ia x.inn.length ic, .slice ba x.back.length bc, .int .i64 x.dir, .bool x.fin, .bool x.bad, .bool x.closed], .bool hr] w fun e w' => e = .returned (.int .i64 (x.refuse hr)) ∧ Below w.heap.size w w' := by
  have HC := hide (fun W => scheck_any x oa ia ba oc ic bc W hi hb)
  generalize hq : x.refuse hr = r
  unfold SS.refuse at hq
  cases hm : x.may with
  | false =>
    have HM : Hid ((if x.may = true then (0 : Int) else 51) = 51) := hide (by rw [hm]; rfl)
    have HR : Hid (51 = r) := hide (by rw [← hq, hm]; rfl)
    clear hq hm
    go_enter Try.func38, Try.ntmps38
    go_wp2_with fail
    have HB0 := hide (recv_below w (Obj.cells #[.bool x.rd, .bool x.wt, .int .i64 x.mode, .int .i64 x.size, .slice oa x.out.length oc, .slice ia x.inn.length ic, .slice ba x.back.length bc, .int .i64 x.dir, .bool x.fin, .bool x.bad, .bool x.closed] 30))
    have HS0 := hide (StAt.new w x (.slice oa x.out.length oc) (.slice ia x.inn.length ic) (.slice ba x.back.length bc))
    generalize w.alloc (Obj.cells #[.bool x.rd, .bool x.wt, .int .i64 x.mode, .int .i64 x.size, .slice oa x.out.length oc, .slice ia x.inn.length ic, .slice ba x.back.length bc, .int .i64 x.dir, .bool x.fin, .bool x.bad, .bool x.closed] 30) = w0 at *
    refine (HC.out w0).mono ?_
    rintro _ w1 ⟨rfl, hB1⟩
    rw [HM.out]
    have HS1 := hide (HS0.out.below hB1)
    obtain ⟨c0, c1, c2, c3, c4, c5, c6, c7, c8, c9, c10⟩ := HS1.out.cs
    have HB1 := hide (HB0.out.trans (hB1.mono HB0.out.size))
    clear hB1
    go_wp2
    go_ret
    exact ⟨by rw [← HR.out]; rfl, HB1.out⟩
  | true =>
  rw [hm] at hq
  have HM : Hid ((if x.may = true then (0 : Int) else 51) = 0) := hide (by rw [hm]; rfl)
  cases hr with
  | false =>
    have HR : Hid (2 = r) := hide hq
    clear hq hm
    go_enter Try.func38, Try.ntmps38
    go_wp2_with fail
    have HB0 := hide (recv_below w (Obj.cells #[.bool x.rd, .bool x.wt, .int .i64 x.mode, .int .i64 x.size, .slice oa x.out.length oc, .slice ia x.inn.length ic, .slice ba x.back.length bc, .int .i64 x.dir, .bool x.fin, .bool x.bad, .bool x.closed] 30))
    have HS0 := hide (StAt.new w x (.slice oa x.out.length oc) (.slice ia x.inn.length ic) (.slice ba x.back.length bc))
    generalize w.alloc (Obj.cells #[.bool x.rd, .bool x.wt, .int .i64 x.mode, .int .i64 x.size, .slice oa x.out.length oc, .slice ia x.inn.length ic, .slice ba x.back.length bc, .int .i64 x.dir, .bool x.fin, .bool x.bad, .bool x.closed] 30) = w0 at *
    refine (HC.out w0).mono ?_
    rintro _ w1 ⟨rfl, hB1⟩
    rw [HM.out]
    have HS1 := hide (HS0.out.below hB1)
    obtain ⟨c0, c1, c2, c3, c4, c5, c6, c7, c8, c9, c10⟩ := HS1.out.cs
    have HB1 := hide (HB0.out.trans (hB1.mono HB0.out.size))
    clear hB1
    go_wp2
    go_ret
    exact ⟨by rw [← HR.out]; rfl, HB1.out⟩
  | true =>
  rcases Bool.eq_false_or_eq_true x.closed with hcl | hcl
  · skip
    have HR : Hid (113 = r) := hide (by rw [← hq, hcl]; rfl)
    have HCl := hide hcl
    clear hq hm hcl
    go_enter Try.func38, Try.ntmps38
    go_wp2_with fail
    have HB0 := hide (recv_below w (Obj.cells #[.bool x.rd, .bool x.wt, .int .i64 x.mode, .int .i64 x.size, .slice oa x.out.length oc, .slice ia x.inn.length ic, .slice ba x.back.length bc, .int .i64 x.dir, .bool x.fin, .bool x.bad, .bool x.closed] 30))
    have HS0 := hide (StAt.new w x (.slice oa x.out.length oc) (.slice ia x.inn.length ic) (.slice ba x.back.length bc))
    generalize w.alloc (Obj.cells #[.bool x.rd, .bool x.wt, .int .i64 x.mode, .int .i64 x.size, .slice oa x.out.length oc, .slice ia x.inn.length ic, .slice ba x.back.length bc, .int .i64 x.dir, .bool x.fin, .bool x.bad, .bool x.closed] 30) = w0 at *
    refine (HC.out w0).mono ?_
    rintro _ w1 ⟨rfl, hB1⟩
    rw [HM.out]
    have HS1 := hide (HS0.out.below hB1)
    obtain ⟨c0, c1, c2, c3, c4, c5, c6, c7, c8, c9, c10⟩ := HS1.out.cs
    rw [HCl.out] at c10
    have HB1 := hide (HB0.out.trans (hB1.mono HB0.out.size))
    clear hB1
    go_wp2
    go_ret
    exact ⟨by rw [← HR.out]; rfl, HB1.out⟩
  · skip
    have HR : Hid (0 = r) := hide (by rw [← hq, hcl]; rfl)
    have HCl := hide hcl
    clear hq hm hcl
    go_enter Try.func38, Try.ntmps38
    go_wp2_with fail
    have HB0 := hide (recv_below w (Obj.cells #[.bool x.rd, .bool x.wt, .int .i64 x.mode, .int .i64 x.size, .slice oa x.out.length oc, .slice ia x.inn.length ic, .slice ba x.back.length bc, .int .i64 x.dir, .bool x.fin, .bool x.bad, .bool x.closed] 30))
    have HS0 := hide (StAt.new w x (.slice oa x.out.length oc) (.slice ia x.inn.length ic) (.slice ba x.back.length bc))
    generalize w.alloc (Obj.cells #[.bool x.rd, .bool x.wt, .int .i64 x.mode, .int .i64 x.size, .slice oa x.out.length oc, .slice ia x.inn.length ic, .slice ba x.back.length bc, .int .i64 x.dir, .bool x.fin, .bool x.bad, .bool x.closed] 30) = w0 at *
    refine (HC.out w0).mono ?_
    rintro _ w1 ⟨rfl, hB1⟩
    rw [HM.out]
    have HS1 := hide (HS0.out.below hB1)
    obtain ⟨c0, c1, c2, c3, c4, c5, c6, c7, c8, c9, c10⟩ := HS1.out.cs
    rw [HCl.out] at c10
    have HB1 := hide (HB0.out.trans (hB1.mono HB0.out.size))
    clear hB1
    go_wp2
    go_ret
    exact ⟨by rw [← HR.out]; rfl, HB1.out⟩
set_option maxRecDepth 100000 in
set_option maxHeartbeats 1000000 in
/-- What lies behind the first n. -/
theorem behind_any (l : List UInt8) (v : Value) (n : Nat) (w : World) (h : Sl w v l) (hn : n ≤ l.length) : Calls Try.prog 41 #[v, .int .i64 n] w fun e w' => ∃ u, e = .returned u ∧ Sl w u (l.drop n) ∧ (∀ k, u.ownBlock = some k → v.ownBlock = some k) ∧ (n = l.length → u = .slice none 0 0) ∧ w = w' := by
  obtain ⟨a, c, rfl, hb, hc⟩ := h
  by_cases he : n = l.length
  · subst he
    clear hb
    go_enter Try.func41, Try.ntmps41
    go_wp2
    go_ret
    exact ⟨.slice none 0 0, rfl, by rw [List.drop_length]; exact Sl.nil, by intro k e; simp [Value.ownBlock] at e, fun _ => rfl, rfl⟩
  · obtain ⟨-, b, off, rfl, -⟩ := bys_block hb (by omega)
    have HB := hide hb
    clear hb
    have h1 : ¬ (n : Int) = (l.length : Int) := by omega
    have h2 : (n : Int) ≤ (l.length : Int) := by omega
    have h3 : (l.length : Int) ≤ (c : Int) := by omega
    have h4 : (n : Int) < (c : Int) := by omega
    have h5 : ¬ c = n := by omega
    go_enter Try.func41, Try.ntmps41
    go_wp2
    go_ret
    refine ⟨.slice (some ⟨b, off + n, none⟩) (l.length - n) (c - n), rfl, ?_, fun k e => e, fun e => absurd e he, rfl⟩
    have := bys_cut HB.out n (l.length - n) (c - n) (by omega)
    rw [List.take_of_length_le (by rw [List.length_drop]; exact Nat.le_refl _)] at this
    exact ⟨_, _, by rw [List.length_drop], this, by rw [List.length_drop]; omega⟩
end Go.Proofs.Ytbffnamdpmjfnaa
