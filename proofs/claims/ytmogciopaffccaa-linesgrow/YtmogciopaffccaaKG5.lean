/- What the proof stands on, part 5: the contracts of the program's calls that it reaches. -/
import Derived.Test.YtmogciopaffccaaKG4
import Derived.Lib.AppendZeros
import Derived.Deep.RegionLaw
import Derived.BigRegion
import Derived.Deep.DeepCutAuto
/- Lines: why a call is refused. -/
namespace Go.Proofs.Ytmogciopaffccaa
open Go.RowKit

set_option maxRecDepth 100000 in
set_option maxHeartbeats 1000000 in
theorem lrefusal_any (x : SS) (oa ia ba : Option Addr) (oc ic bc : Nat) (T : TypeId) (v : Value) (w : World) (hi : x.inn.length ≤ 140737488351232) (hb : x.back.length ≤ 140737488351232) :
    Calls Try.prog 33 #[.agg #[.bool x.rd, .bool x.wt, .int .i64 x.mode, .int .i64 x.size, .slice oa x.out.length oc, .slice ia x.inn.length ic, .slice ba x.back.length bc, .int .i64 x.dir, .bool x.fin, .bool x.bad, .bool x.closed], .iface T v] w fun e w' => e = .returned (.int .i64 (x.refuse true)) ∧ Below w.heap.size w w' := by
  have HC := hide (fun W => scheck_any x oa ia ba oc ic bc W hi hb)
  generalize hr : x.refuse true = r
  unfold SS.refuse at hr
  cases h1 : x.may with
  | false =>
    rw [h1] at HC
    simp only [Bool.false_eq_true, if_false] at HC
    have HR : Hid (51 = r) := hide (by rw [← hr, h1]; rfl)
    clear hr h1
    go_enter Try.func33, Try.ntmps33
    go_wp2_with fail
    have HB0 := hide (recv_below w (Obj.cells #[.bool x.rd, .bool x.wt, .int .i64 x.mode, .int .i64 x.size, .slice oa x.out.length oc, .slice ia x.inn.length ic, .slice ba x.back.length bc, .int .i64 x.dir, .bool x.fin, .bool x.bad, .bool x.closed] 29))
    have HS0 := hide (StAt.new w x (.slice oa x.out.length oc) (.slice ia x.inn.length ic) (.slice ba x.back.length bc))
    generalize w.alloc (Obj.cells #[.bool x.rd, .bool x.wt, .int .i64 x.mode, .int .i64 x.size, .slice oa x.out.length oc, .slice ia x.inn.length ic, .slice ba x.back.length bc, .int .i64 x.dir, .bool x.fin, .bool x.bad, .bool x.closed] 29) = w0 at *
    refine (HC.out w0).mono ?_
    rintro _ w1 ⟨rfl, hB1⟩
    have HS1 := hide (HS0.out.below hB1)
    obtain ⟨-, -, -, -, -, -, -, -, -, -, c10⟩ := HS1.out.cs

    have HB1 := hide (HB0.out.trans (hB1.mono HB0.out.size))
    clear hB1
    go_wp2
    go_ret
    exact ⟨by rw [← HR.out]; rfl, HB1.out⟩
  | true =>
    rw [h1] at HC
    simp only [if_true] at HC
    rcases Bool.eq_false_or_eq_true x.closed with h2 | h2
    · skip
      have HR : Hid (113 = r) := hide (by rw [← hr, h1, h2]; rfl)
      have H2 := hide h2
      clear hr h1 h2
      go_enter Try.func33, Try.ntmps33
      go_wp2_with fail
      have HB0 := hide (recv_below w (Obj.cells #[.bool x.rd, .bool x.wt, .int .i64 x.mode, .int .i64 x.size, .slice oa x.out.length oc, .slice ia x.inn.length ic, .slice ba x.back.length bc, .int .i64 x.dir, .bool x.fin, .bool x.bad, .bool x.closed] 29))
      have HS0 := hide (StAt.new w x (.slice oa x.out.length oc) (.slice ia x.inn.length ic) (.slice ba x.back.length bc))
      generalize w.alloc (Obj.cells #[.bool x.rd, .bool x.wt, .int .i64 x.mode, .int .i64 x.size, .slice oa x.out.length oc, .slice ia x.inn.length ic, .slice ba x.back.length bc, .int .i64 x.dir, .bool x.fin, .bool x.bad, .bool x.closed] 29) = w0 at *
      refine (HC.out w0).mono ?_
      rintro _ w1 ⟨rfl, hB1⟩
      have HS1 := hide (HS0.out.below hB1)
      obtain ⟨-, -, -, -, -, -, -, -, -, -, c10⟩ := HS1.out.cs
      rw [H2.out] at c10
      have HB1 := hide (HB0.out.trans (hB1.mono HB0.out.size))
      clear hB1
      go_wp2
      go_ret
      exact ⟨by rw [← HR.out]; rfl, HB1.out⟩
    · skip
      have HR : Hid (0 = r) := hide (by rw [← hr, h1, h2]; rfl)
      have H2 := hide h2
      clear hr h1 h2
      go_enter Try.func33, Try.ntmps33
      go_wp2_with fail
      have HB0 := hide (recv_below w (Obj.cells #[.bool x.rd, .bool x.wt, .int .i64 x.mode, .int .i64 x.size, .slice oa x.out.length oc, .slice ia x.inn.length ic, .slice ba x.back.length bc, .int .i64 x.dir, .bool x.fin, .bool x.bad, .bool x.closed] 29))
      have HS0 := hide (StAt.new w x (.slice oa x.out.length oc) (.slice ia x.inn.length ic) (.slice ba x.back.length bc))
      generalize w.alloc (Obj.cells #[.bool x.rd, .bool x.wt, .int .i64 x.mode, .int .i64 x.size, .slice oa x.out.length oc, .slice ia x.inn.length ic, .slice ba x.back.length bc, .int .i64 x.dir, .bool x.fin, .bool x.bad, .bool x.closed] 29) = w0 at *
      refine (HC.out w0).mono ?_
      rintro _ w1 ⟨rfl, hB1⟩
      have HS1 := hide (HS0.out.below hB1)
      obtain ⟨-, -, -, -, -, -, -, -, -, -, c10⟩ := HS1.out.cs
      rw [H2.out] at c10
      have HB1 := hide (HB0.out.trans (hB1.mono HB0.out.size))
      clear hB1
      go_wp2
      go_ret
      exact ⟨by rw [← HR.out]; rfl, HB1.out⟩
def SS.grefuse (x : SS) (hr : Bool) (limit least most : Int) : Int := if x.refuse hr ≠ 0 then x.refuse hr else if limit < least ∨ most < limit then 4 else 0
set_option maxRecDepth 100000 in
set_option maxHeartbeats 1000000 in
theorem getRefusal_any (x : SS) (oa ia ba : Option Addr) (oc ic bc : Nat) (T : TypeId) (v : Value) (limit least most : Int) (w : World) (hi : x.inn.length ≤ 140737488351232) (hb : x.back.length ≤ 140737488351232) :
    Calls Try.prog 20 #[.agg #[.bool x.rd, .bool x.wt, .int .i64 x.mode, .int .i64 x.size, .slice oa x.out.length oc, .slice ia x.inn.length ic, .slice ba x.back.length bc, .int .i64 x.dir, .bool x.fin, .bool x.bad, .bool x.closed], .iface T v, .int .i64 limit, .int .i64 least, .int .i64 most] w fun e w' => e = .returned (.int .i64 (x.grefuse true limit least most)) ∧ Below w.heap.size w w' := by
  have HC := hide (fun W => lrefusal_any x oa ia ba oc ic bc T v W hi hb)
  generalize hr : x.grefuse true limit least most = r
  unfold SS.grefuse at hr
  obtain ⟨rf, hrf⟩ : ∃ rf, rf = x.refuse true := ⟨_, rfl⟩
  rw [← hrf] at HC hr
  clear hrf
  by_cases h0 : rf = 0
  case neg =>
    have HR : Hid (rf = r) := hide (by rw [← hr, if_pos h0])
    have hb1 : (rf == 0) = false := by simp [h0]
    have hb2 : (rf != 0) = true := by simp [h0]
    clear hr h0
    go_enter Try.func20, Try.ntmps20
    go_wp2_with fail
    refine (HC.out _).mono ?_
    rintro _ w1 ⟨rfl, hB1⟩
    have HB1 := hide ((recv_below w (Obj.cells #[.bool x.rd, .bool x.wt, .int .i64 x.mode, .int .i64 x.size, .slice oa x.out.length oc, .slice ia x.inn.length ic, .slice ba x.back.length bc, .int .i64 x.dir, .bool x.fin, .bool x.bad, .bool x.closed] 29)).trans (hB1.mono (recv_below w (Obj.cells #[.bool x.rd, .bool x.wt, .int .i64 x.mode, .int .i64 x.size, .slice oa x.out.length oc, .slice ia x.inn.length ic, .slice ba x.back.length bc, .int .i64 x.dir, .bool x.fin, .bool x.bad, .bool x.closed] 29)).size))
    clear hB1
    go_wp2
    go_ret
    exact ⟨by rw [← HR.out]; rfl, HB1.out⟩
  subst h0
  rw [if_neg (by simp)] at hr
  by_cases h1 : limit < least
  · skip
    have HR : Hid (4 = r) := hide (by rw [← hr, if_pos (.inl h1)])
    clear hr
    go_enter Try.func20, Try.ntmps20
    go_wp2_with fail
    refine (HC.out _).mono ?_
    rintro _ w1 ⟨rfl, hB1⟩
    have HB1 := hide ((recv_below w (Obj.cells #[.bool x.rd, .bool x.wt, .int .i64 x.mode, .int .i64 x.size, .slice oa x.out.length oc, .slice ia x.inn.length ic, .slice ba x.back.length bc, .int .i64 x.dir, .bool x.fin, .bool x.bad, .bool x.closed] 29)).trans (hB1.mono (recv_below w (Obj.cells #[.bool x.rd, .bool x.wt, .int .i64 x.mode, .int .i64 x.size, .slice oa x.out.length oc, .slice ia x.inn.length ic, .slice ba x.back.length bc, .int .i64 x.dir, .bool x.fin, .bool x.bad, .bool x.closed] 29)).size))
    clear hB1
    go_wp2
    go_ret
    exact ⟨by rw [← HR.out]; rfl, HB1.out⟩
  by_cases h2 : most < limit
  · skip
    have HR : Hid (4 = r) := hide (by rw [← hr, if_pos (.inr h2)])
    clear hr
    go_enter Try.func20, Try.ntmps20
    go_wp2_with fail
    refine (HC.out _).mono ?_
    rintro _ w1 ⟨rfl, hB1⟩
    have HB1 := hide ((recv_below w (Obj.cells #[.bool x.rd, .bool x.wt, .int .i64 x.mode, .int .i64 x.size, .slice oa x.out.length oc, .slice ia x.inn.length ic, .slice ba x.back.length bc, .int .i64 x.dir, .bool x.fin, .bool x.bad, .bool x.closed] 29)).trans (hB1.mono (recv_below w (Obj.cells #[.bool x.rd, .bool x.wt, .int .i64 x.mode, .int .i64 x.size, .slice oa x.out.length oc, .slice ia x.inn.length ic, .slice ba x.back.length bc, .int .i64 x.dir, .bool x.fin, .bool x.bad, .bool x.closed] 29)).size))
    clear hB1
    go_wp2
    go_ret
    exact ⟨by rw [← HR.out]; rfl, HB1.out⟩
  · skip
    have HR : Hid (0 = r) := hide (by rw [← hr, if_neg (by omega)])
    clear hr
    go_enter Try.func20, Try.ntmps20
    go_wp2_with fail
    refine (HC.out _).mono ?_
    rintro _ w1 ⟨rfl, hB1⟩
    have HB1 := hide ((recv_below w (Obj.cells #[.bool x.rd, .bool x.wt, .int .i64 x.mode, .int .i64 x.size, .slice oa x.out.length oc, .slice ia x.inn.length ic, .slice ba x.back.length bc, .int .i64 x.dir, .bool x.fin, .bool x.bad, .bool x.closed] 29)).trans (hB1.mono (recv_below w (Obj.cells #[.bool x.rd, .bool x.wt, .int .i64 x.mode, .int .i64 x.size, .slice oa x.out.length oc, .slice ia x.inn.length ic, .slice ba x.back.length bc, .int .i64 x.dir, .bool x.fin, .bool x.bad, .bool x.closed] 29)).size))
    clear hB1
    go_wp2
    go_ret
    exact ⟨by rw [← HR.out]; rfl, HB1.out⟩
end Go.Proofs.Ytmogciopaffccaa

/- Lines, as values: bytes got one by one, most of what was read apart. -/
namespace Go.Proofs.Ytmogciopaffccaa
open Go.RowKit

def gat {S : Type} (D : RawD S) (stop : List UInt8 → Bool) : Nat → SS → S → List UInt8 → SS × List UInt8 × Int × S
  | 0, x, s, acc => (x, acc, 0, s)
  | n + 1, x, s, acc => if stop acc = true then (x, acc, 0, s) else if (x.get D s).2.2.1 ≠ 0 then ((x.get D s).1, acc, (x.get D s).2.2.1, (x.get D s).2.2.2) else gat D stop n (x.get D s).1 (x.get D s).2.2.2 (acc ++ [(x.get D s).2.1])
def stopU (d : UInt8) (limit : Int) (b : List UInt8) : Bool := decide ((b.length : Int) = limit) || (decide (0 < b.length) && decide (b.getD (b.length - 1) 0 = d))
def endV (e : Int) (b : List UInt8) : Int := if e = 111 ∧ 0 < b.length then 0 else e
def SS.until {S : Type} (D : RawD S) (x : SS) (s : S) (d : UInt8) (limit : Int) : SS × List UInt8 × Int × S :=
  if x.grefuse true limit 1 65536 ≠ 0 then (x, [], x.grefuse true limit 1 65536, s)
  else ((gat D (stopU d limit) (limit.toNat + 1) x s []).1, (gat D (stopU d limit) (limit.toNat + 1) x s []).2.1, endV (gat D (stopU d limit) (limit.toNat + 1) x s []).2.2.1 (gat D (stopU d limit) (limit.toNat + 1) x s []).2.1, (gat D (stopU d limit) (limit.toNat + 1) x s []).2.2.2)
def SS.wh (y : SS) (far : List UInt8) : SS := { y with inn := y.inn ++ far }
def SS.near (y : SS) (n : List UInt8) : SS := { y with inn := n }
def part (n f : List UInt8) : List UInt8 × List UInt8 := if f = [] then (n.take 64, n.drop 64) else if n = [] then (f.take 64, f.drop 64) else (n, f)
def SS.parted (y : SS) (far : List UInt8) : SS := y.near (part y.inn far).1
theorem part_app (n f : List UInt8) : (part n f).1 ++ (part n f).2 = n ++ f := by
  unfold part
  split
  · rename_i h; subst h; simp
  split
  · rename_i h; subst h; simp
  · rfl
theorem part_none (n f : List UInt8) (h : (part n f).1 = []) : (part n f).2 = [] := by
  unfold part at h ⊢
  split
  · rename_i h1
    rw [if_pos h1] at h
    have h2 := List.length_eq_zero_iff.2 h
    simp only [List.length_take] at h2
    simp only [List.drop_eq_nil_iff]
    omega
  · rename_i h1
    rw [if_neg h1] at h
    split
    · rename_i h2
      rw [if_pos h2] at h
      have h3 := List.length_eq_zero_iff.2 h
      simp only [List.length_take] at h3
      simp only [List.drop_eq_nil_iff]
      omega
    · rename_i h2
      rw [if_neg h2] at h
      exact absurd h h2
theorem wh_parted (y : SS) (far : List UInt8) : (y.parted far).wh (part y.inn far).2 = y.wh far := by
  unfold SS.wh SS.parted SS.near
  simp only [part_app]
theorem parted_none (y : SS) (far : List UInt8) (h : (y.parted far).inn = []) : (part y.inn far).2 = [] := part_none _ _ h
theorem may_near {y : SS} {far : List UInt8} (h : (y.wh far).may = true) : y.may = true := by
  obtain ⟨h1, h2, h3, h4, h5, h6, h7, h8, h9⟩ := (may_iff _).1 h
  simp only [SS.wh, List.length_append] at h7 h9
  refine (may_iff _).2 ⟨h1, h2, h3, h4, h5, h6, by omega, h8, ?_⟩
  rcases h9 with ⟨a, b, c⟩ | a | ⟨a, b, c, d⟩
  · exact .inl ⟨a, b, by omega⟩
  · exact .inr (.inl a)
  · exact .inr (.inr ⟨a, b, by omega, d⟩)
theorem get_wh {S : Type} (D : RawD S) (y : SS) (far : List UInt8) (s : S) (hn : y.inn = [] → far = []) (hm : (y.wh far).may = true) : (y.wh far).get D s = ((y.get D s).1.wh far, (y.get D s).2.1, (y.get D s).2.2.1, (y.get D s).2.2.2) := by
  by_cases h0 : y.inn = []
  · obtain rfl := hn h0
    have e : ∀ z : SS, z.wh [] = z := fun z => by unfold SS.wh; simp
    rw [e, e]
  have hmy := may_near hm
  have hr : (y.wh far).noRead = y.noRead := by
    unfold SS.noRead SS.refuse
    rw [hm, hmy]
    rfl
  unfold SS.get
  rw [hr]
  split
  · unfold SS.get1
    have hl : 0 < y.inn.length := List.length_pos_iff.2 h0
    have hl2 : 0 < (y.wh far).inn.length := by simp only [SS.wh, List.length_append]; omega
    simp only [show (y.wh far).back = y.back from rfl]
    split
    · rfl
    · try rw [if_pos hl2]
      try rw [if_pos hl]
      obtain ⟨c, t, ht⟩ : ∃ c t, y.inn = c :: t := by
        cases h : y.inn with
        | nil => exact absurd h h0
        | cons c t => exact ⟨c, t, rfl⟩
      simp only [SS.wh, ht]
      simp
  · rfl
theorem gat_stop {S : Type} (D : RawD S) (stop : List UInt8 → Bool) (n : Nat) (x : SS) (s : S) (acc : List UInt8) (h : stop acc = true) : gat D stop n x s acc = (x, acc, 0, s) := by
  cases n with
  | zero => rfl
  | succ n => unfold gat; rw [if_pos h]
theorem gat_err {S : Type} (D : RawD S) (stop : List UInt8 → Bool) (n : Nat) (x : SS) (s : S) (acc : List UInt8) (h : stop acc = false) (he : (x.get D s).2.2.1 ≠ 0) : gat D stop (n + 1) x s acc = ((x.get D s).1, acc, (x.get D s).2.2.1, (x.get D s).2.2.2) := by
  show (if stop acc = true then _ else _) = _
  rw [if_neg (by simp [h]), if_pos he]
theorem gat_next {S : Type} (D : RawD S) (stop : List UInt8 → Bool) (n : Nat) (x : SS) (s : S) (acc : List UInt8) (h : stop acc = false) (he : (x.get D s).2.2.1 = 0) : gat D stop (n + 1) x s acc = gat D stop n (x.get D s).1 (x.get D s).2.2.2 (acc ++ [(x.get D s).2.1]) := by
  show (if stop acc = true then _ else _) = _
  rw [if_neg (by simp [h]), if_neg (by simp [he])]
end Go.Proofs.Ytmogciopaffccaa

/- Lines: slices.Concat of two. -/
namespace Go.Proofs.Ytmogciopaffccaa
open Go.RowKit

set_option maxRecDepth 100000 in
set_option maxHeartbeats 4000000 in
theorem lgrow_any (n : Nat) (w : World) (hn : n ≤ 281474976702464) :
    Calls Try.prog 79 #[.slice none 0 0, .int .i64 n] w fun e w' => ∃ v, e = .returned v ∧ w'.ownsRow w.heap.size 5 1 v 0 [] ∧ Below w.heap.size w w' := by
  by_cases h0 : n = 0
  · subst h0
    go_enter Try.func79, Try.ntmps79
    go_wp2
    go_ret
    exact ⟨_, rfl, World.ownsRow_nil _ _ _ _, Below.refl _ _⟩
  obtain ⟨i0, hi, hz0, hz1, hz2⟩ := info_parts Try.infoB
  have HR := hide (fun ty => Lib.run_append_nil_zeros w 22 3 ty 5 i0 (.int .u8 0) .i64 .i64 Try.underlying22 Try.underlying3 hi hz0 n (by omega) (by rw [hz1]; decide) (by omega) (by rw [hz2]; omega))
  have hG := grownCap_ge w n 0 5
  have hGm := grownCap_le_maxLen w n 0 5 (by unfold maxLen; omega)
  have HO := hide (World.ownsRow_made (base := w.heap.size) (e := 5) (size := 1) w.drew (Builtin.zeroCells (Value.int .u8 0).cells n ++ Builtin.zeroCells (Value.int .u8 0).cells (grownCap w n 0 5 - n)) (grownCap w n 0 5) (Nat.le_refl _) hGm (by simp [Builtin.zeroCells, Value.cells]; omega))
  have HB := hide ((Below.refl w.heap.size w).drew.trans (recv_below w.drew (.cells (Builtin.zeroCells (Value.int .u8 0).cells n ++ Builtin.zeroCells (Value.int .u8 0).cells (grownCap w n 0 5 - n)) 5)))
  have hG3 : (grownCap w n 0 5 : Int) ≤ 9223372036854775807 := by unfold maxLen at hGm; omega
  generalize grownCap w n 0 5 = G at *
  generalize w.drew.alloc (.cells (Builtin.zeroCells (Value.int .u8 0).cells n ++ Builtin.zeroCells (Value.int .u8 0).cells (G - n)) 5) = w1 at *
  have h1 : ¬ ((n : Int) < 0) := by omega
  have h3 : wrap64 ((n : Int) - 0) = (n : Int) := by unfold wrap64; omega
  have h4 : (n : Int) > 0 := by omega
  have hG2 : (n : Int) ≤ (G : Int) := by omega
  clear hG hGm hi hz0 hz1 hz2
  go_enter Try.func79, Try.ntmps79
  go_wp2_with (at_builtin; refine Lib.wpList_append_run _ rfl _ _ _ _ rfl _ _ rfl rfl _ _ (HR.out _) ?_)
  go_ret
  exact ⟨_, rfl, HO.out, HB.out⟩
def sumK (a b : Nat) : Nat → Int
  | 0 => 0
  | 1 => (a : Int)
  | _ => ((a + b : Nat) : Int)
def catK (a b : List UInt8) : Nat → List UInt8
  | 0 => []
  | 1 => a
  | _ => a ++ b
set_option maxRecDepth 100000 in
set_option maxHeartbeats 8000000 in
theorem lconcat_any (v1 v2 : Value) (l1 l2 : List UInt8) (q : Nat) (w : World) (hc0 : w.cell? ⟨q, 0, none⟩ = some v1) (hc1 : w.cell? ⟨q, 1, none⟩ = some v2) (h1 : Sl w v1 l1) (h2 : Sl w v2 l2) (hl : l1.length + l2.length ≤ 1099511627776) :
    Calls Try.prog 53 #[.slice (some ⟨q, 0, none⟩) 2 2] w fun e w' => ∃ v, e = .returned v ∧ w'.ownsRow w.heap.size 5 1 v (l1.length + l2.length) ((l1 ++ l2).map bv) ∧ Below w.heap.size w w' := by
  obtain ⟨a1, k1, rfl, hb1, -⟩ := h1
  obtain ⟨a2, k2, rfl, hb2, -⟩ := h2
  have HB1 := hide hb1
  have HB2 := hide hb2
  have HC0 := hide hc0
  have HC1 := hide hc1
  have HL := hide hl
  have HG := hide (fun W => lgrow_any (l1.length + l2.length) W (by omega))
  have e1 : wrap64 (0 + (l1.length : Int)) = (l1.length : Int) := by unfold wrap64; omega
  have e2 : wrap64 ((l1.length : Int) + (l2.length : Int)) = ((l1.length + l2.length : Nat) : Int) := by unfold wrap64; omega
  clear hb1 hb2 hl
  go_enter Try.func53, Try.ntmps53
  go_wp2
  go_loopw [3, 11] (fun n i wr => ∃ k : Nat, k ≤ 2 ∧ i = .int .i64 k ∧ n = .int .i64 (sumK l1.length l2.length k) ∧ Hid (wr = w)) (fun _ i _ => 2 - (intOf i).toNat)
  case atStart => exact ⟨0, Nat.zero_le _, rfl, rfl, hide rfl⟩
  case round =>
    obtain ⟨k, hk, rfl, rfl, HW⟩ := hrel
    have hc0' := hc0
    have hc1' := hc1
    rw [← HW.out] at hc0' hc1'
    clear hc0 hc1
    match k, hk with
    | 0, _ =>
      have HU : Hid (wrap64 (sumK l1.length l2.length 0 + (l1.length : Int)) = sumK l1.length l2.length 1) := hide e1
      have hU : ¬ (wrap64 (sumK l1.length l2.length 0 + (l1.length : Int)) < 0) := by rw [HU.out]; show ¬ ((l1.length : Int) < 0); omega
      generalize sumK l1.length l2.length 0 = U at *
      clear e1 e2
      go_wp2_with fail
      exact ⟨⟨1, by decide, rfl, by rw [HU.out], HW⟩, by simp [intOf]⟩
    | 1, _ =>
      have HU : Hid (wrap64 (sumK l1.length l2.length 1 + (l2.length : Int)) = sumK l1.length l2.length 2) := hide e2
      have hU : ¬ (wrap64 (sumK l1.length l2.length 1 + (l2.length : Int)) < 0) := by rw [HU.out]; show ¬ (((l1.length + l2.length : Nat) : Int) < 0); omega
      generalize sumK l1.length l2.length 1 = U at *
      clear e1 e2
      go_wp2_with fail
      exact ⟨⟨2, by decide, rfl, by rw [HU.out], HW⟩, by simp [intOf]⟩
    | 2, _ =>
      clear e1 e2 hc0' hc1'
      obtain rfl := HW.out
      go_wp2_with fail
      refine (HG.out _).mono ?_
      rintro _ w1 ⟨u, rfl, hO1, hB1⟩
      have HO1 := hide hO1
      have HW1 := hide hB1
      clear hO1 hB1 HG
      obtain ⟨w0, hw0⟩ : ∃ W, W = wr := ⟨_, rfl⟩
      subst hw0
      go_wp2
      go_loopw [6, 27] (fun n i wr => ∃ k : Nat, k ≤ 2 ∧ i = .int .i64 k ∧ Hid (Below w0.heap.size w0 wr) ∧ Hid (wr.ownsRow w0.heap.size 5 1 n (catK l1 l2 k).length ((catK l1 l2 k).map bv))) (fun _ i _ => 2 - (intOf i).toNat)
      case atStart => exact ⟨0, Nat.zero_le _, rfl, HW1, HO1⟩
      case round =>
        clear HO1 HW1
        obtain ⟨k, hk, rfl, HB, HO⟩ := hrel
        have hs := HB.out.size
        match k, hk with
        | 0, _ =>
          have d0 := (HB.out.cell (World.block_lt_of_cell? w0 _ HC0.out)).trans HC0.out
          obtain ⟨s', w', hr, HO2, hg, -⟩ := run_append_bytes wr 22 w0.heap.size _ _ (catK l1 l2 0) l1 HO.out (HB1.out.below HB.out) (by have := HL.out; show 0 + l1.length ≤ _; omega) hs
          have HR := hide hr
          have HG2 := hide hg
          clear hr hg hs
          go_wp2_with (at_builtin; refine Lib.wpList_append_run _ rfl _ _ _ _ rfl _ _ rfl rfl _ _ HR.out ?_)
          exact ⟨⟨1, by decide, rfl, hide (HB.out.grown HG2.out HB.out.size (fun k e => (HO.out.lt k e).1)), HO2⟩, by simp [intOf]⟩
        | 1, _ =>
          have d1 := (HB.out.cell (World.block_lt_of_cell? w0 _ HC1.out)).trans HC1.out
          obtain ⟨s', w', hr, HO2, hg, -⟩ := run_append_bytes wr 22 w0.heap.size _ _ (catK l1 l2 1) l2 HO.out (HB2.out.below HB.out) (by have := HL.out; show l1.length + l2.length ≤ _; omega) hs
          have HR := hide hr
          have HG2 := hide hg
          clear hr hg hs
          go_wp2_with (at_builtin; refine Lib.wpList_append_run _ rfl _ _ _ _ rfl _ _ rfl rfl _ _ HR.out ?_)
          exact ⟨⟨2, by decide, rfl, hide (HB.out.grown HG2.out HB.out.size (fun k e => (HO.out.lt k e).1)), HO2⟩, by simp [intOf]⟩
        | 2, _ =>
          go_wp2_with fail
          go_ret
          exact ⟨_, rfl, by rw [← List.length_append]; exact HO.out, HB.out⟩
end Go.Proofs.Ytmogciopaffccaa

/- Streams: the reference's copy of a state. -/
namespace Go.Proofs.Ytmogciopaffccaa
open Go.RowKit

def Ap3 (o i b : Value) : Prop := (∀ k, o.ownBlock = some k → i.ownBlock ≠ some k ∧ b.ownBlock ≠ some k) ∧ (∀ k, i.ownBlock = some k → b.ownBlock ≠ some k)

end Go.Proofs.Ytmogciopaffccaa

/- Lines: a copy of a state, its lists apart. -/
namespace Go.Proofs.Ytmogciopaffccaa
open Go.RowKit

set_option maxRecDepth 100000 in
set_option maxHeartbeats 40000000 in
theorem lcopied_any (x : SS) (o i b : Value) (P : Nat → Prop) (w : World) (h : SIn w P x o i b) (ho : x.out.length ≤ 140737488351232) (hi : x.inn.length ≤ 140737488351232) (hb : x.back.length ≤ 140737488351232) :
    Calls Try.prog 21 #[.agg #[.bool x.rd, .bool x.wt, .int .i64 x.mode, .int .i64 x.size, o, i, b, .int .i64 x.dir, .bool x.fin, .bool x.bad, .bool x.closed]] w fun e w' => ∃ o' i' b', e = .returned (.agg #[.bool x.rd, .bool x.wt, .int .i64 x.mode, .int .i64 x.size, o', i', b', .int .i64 x.dir, .bool x.fin, .bool x.bad, .bool x.closed]) ∧ w'.ownsRow w.heap.size 5 1 o' x.out.length (x.out.map bv) ∧ w'.ownsRow w.heap.size 5 1 i' x.inn.length (x.inn.map bv) ∧ w'.ownsRow w.heap.size 5 1 b' x.back.length (x.back.map bv) ∧ Below w.heap.size w w' ∧ Ap3 o' i' b' := by
  have HC1 := hide (fun W (hB : Below w.heap.size w W) => bclone_any o x.out W ((h.so.turned (Turned.of_below (S := fun _ => False) hB) (fun _ _ _ => id)).choose_spec.choose_spec.2.1) ho)
  have HC2 := hide (fun W (hB : Below w.heap.size w W) => bclone_any i x.inn W ((h.si.turned (Turned.of_below (S := fun _ => False) hB) (fun _ _ _ => id)).choose_spec.choose_spec.2.1) hi)
  have HC3 := hide (fun W (hB : Below w.heap.size w W) => bclone_any b x.back W ((h.sb.turned (Turned.of_below (S := fun _ => False) hB) (fun _ _ _ => id)).choose_spec.choose_spec.2.1) hb)
  obtain ⟨oa, oc, rfl, -⟩ := h.so
  obtain ⟨ia, ic, rfl, -⟩ := h.si
  obtain ⟨ba, bc, rfl, -⟩ := h.sb
  clear h
  go_enter Try.func21, Try.ntmps21
  go_wp2_with fail
  have HB0 := hide ((recv_below w (Obj.cells #[.bool x.rd, .bool x.wt, .int .i64 x.mode, .int .i64 x.size, .slice oa x.out.length oc, .slice ia x.inn.length ic, .slice ba x.back.length bc, .int .i64 x.dir, .bool x.fin, .bool x.bad, .bool x.closed] 29)).trans ((recv_below (w.alloc (Obj.cells #[.bool x.rd, .bool x.wt, .int .i64 x.mode, .int .i64 x.size, .slice oa x.out.length oc, .slice ia x.inn.length ic, .slice ba x.back.length bc, .int .i64 x.dir, .bool x.fin, .bool x.bad, .bool x.closed] 29)) (Obj.cells #[.bool false, .bool false, .int .i64 0, .int .i64 0, .slice none 0 0, .slice none 0 0, .slice none 0 0, .int .i64 0, .bool false, .bool false, .bool false] 29)).mono (recv_below w (Obj.cells #[.bool x.rd, .bool x.wt, .int .i64 x.mode, .int .i64 x.size, .slice oa x.out.length oc, .slice ia x.inn.length ic, .slice ba x.back.length bc, .int .i64 x.dir, .bool x.fin, .bool x.bad, .bool x.closed] 29)).size))
  have HS0 := hide ((StAt.new w x (.slice oa x.out.length oc) (.slice ia x.inn.length ic) (.slice ba x.back.length bc)).below (recv_below _ (Obj.cells #[.bool false, .bool false, .int .i64 0, .int .i64 0, .slice none 0 0, .slice none 0 0, .slice none 0 0, .int .i64 0, .bool false, .bool false, .bool false] 29)))
  have HZ0 : Hid (((w.alloc (Obj.cells #[.bool x.rd, .bool x.wt, .int .i64 x.mode, .int .i64 x.size, .slice oa x.out.length oc, .slice ia x.inn.length ic, .slice ba x.back.length bc, .int .i64 x.dir, .bool x.fin, .bool x.bad, .bool x.closed] 29)).alloc (Obj.cells #[.bool false, .bool false, .int .i64 0, .int .i64 0, .slice none 0 0, .slice none 0 0, .slice none 0 0, .int .i64 0, .bool false, .bool false, .bool false] 29)).heap[w.heap.size + 1]? = some (Obj.cells #[.bool false, .bool false, .int .i64 0, .int .i64 0, .slice none 0 0, .slice none 0 0, .slice none 0 0, .int .i64 0, .bool false, .bool false, .bool false] 29)) := hide (by have := heap_alloc_new (w.alloc (Obj.cells #[.bool x.rd, .bool x.wt, .int .i64 x.mode, .int .i64 x.size, .slice oa x.out.length oc, .slice ia x.inn.length ic, .slice ba x.back.length bc, .int .i64 x.dir, .bool x.fin, .bool x.bad, .bool x.closed] 29)) (Obj.cells #[.bool false, .bool false, .int .i64 0, .int .i64 0, .slice none 0 0, .slice none 0 0, .slice none 0 0, .int .i64 0, .bool false, .bool false, .bool false] 29); rw [show (w.alloc (Obj.cells #[.bool x.rd, .bool x.wt, .int .i64 x.mode, .int .i64 x.size, .slice oa x.out.length oc, .slice ia x.inn.length ic, .slice ba x.back.length bc, .int .i64 x.dir, .bool x.fin, .bool x.bad, .bool x.closed] 29)).heap.size = w.heap.size + 1 from Array.size_push ..] at this; exact this)
  generalize (w.alloc (Obj.cells #[.bool x.rd, .bool x.wt, .int .i64 x.mode, .int .i64 x.size, .slice oa x.out.length oc, .slice ia x.inn.length ic, .slice ba x.back.length bc, .int .i64 x.dir, .bool x.fin, .bool x.bad, .bool x.closed] 29)).alloc (Obj.cells #[.bool false, .bool false, .int .i64 0, .int .i64 0, .slice none 0 0, .slice none 0 0, .slice none 0 0, .int .i64 0, .bool false, .bool false, .bool false] 29) = w0 at *
  have hz0 : w.heap.size + 1 < w0.heap.size := (Array.getElem?_eq_some_iff.1 HZ0.out).1
  obtain ⟨-, -, -, -, c4, c5, c6, -⟩ := HS0.out.cs
  go_region_law (first
    | (go_simp; go_at_call 34; have := HB2; refine (HC3.out _ HB2.out).mono ?_; rintro _ w3 ⟨u3, rfl, hO3, hB3⟩; obtain ⟨a3, k3, rfl⟩ := owns_slice hO3; have HS3 := hide (HS2.out.below hB3); have HZ3 := hide ((hB3.block (w.heap.size + 1) (Array.getElem?_eq_some_iff.1 HZ2.out).1).trans HZ2.out); have HB3 := hide (HB2.out.trans (hB3.mono HB2.out.size)); have HO3 := hide (And.intro (And.intro (owns_below HO2.out.1 hB3) (owns_below HO2.out.2 hB3)) hO3); clear hO3 hB3; obtain ⟨f0, f1, f2, f3, f4, f5, f6, f7, f8, f9, f10⟩ := HS3.out.cs; have g4 := frozen_of_row w3 w.heap.size 4 _ _ HS3.out; have g5 := frozen_of_row w3 w.heap.size 5 _ _ HS3.out; have g6 := frozen_of_row w3 w.heap.size 6 _ _ HS3.out)
    | (go_simp; go_at_call 34; have := HB1; refine (HC2.out _ HB1.out).mono ?_; rintro _ w2 ⟨u2, rfl, hO2, hB2⟩; obtain ⟨a2, k2, rfl⟩ := owns_slice hO2; have HS2 := hide (HS1.out.below hB2); have HZ2 := hide ((hB2.block (w.heap.size + 1) (Array.getElem?_eq_some_iff.1 HZ1.out).1).trans HZ1.out); have HB2 := hide (HB1.out.trans (hB2.mono HB1.out.size)); have hs2 := hB2.size; have HO2 := hide (And.intro (owns_below HO1.out hB2) hO2); clear hO2 hB2; obtain ⟨-, -, -, -, e4, e5, e6, -⟩ := HS2.out.cs)
    | (go_simp; go_at_call 34; refine (HC1.out _ (by exact HB0.out.drew)).mono ?_; rintro _ w1 ⟨u1, rfl, hO1, hB1⟩; obtain ⟨a1, k1, rfl⟩ := owns_slice hO1; have HS1 := hide (HS0.out.below ((Below.refl _ _).drew.trans hB1)); have HZ1 := hide ((hB1.block (w.heap.size + 1) (Array.getElem?_eq_some_iff.1 HZ0.out).1).trans HZ0.out); have HB1 := hide (HB0.out.trans (((Below.refl _ _).drew.trans hB1).mono HB0.out.size)); have hs1 : w0.heap.size ≤ w1.heap.size := hB1.size; have HO1 := hide hO1; clear hO1 hB1; obtain ⟨-, -, -, -, d4, d5, d6, -⟩ := HS1.out.cs)
    | fail)
  all_goals
    have e4 := Go.heap_setCell_same w3 w.heap.size 4 _ _ (.slice a1 x.out.length k1) HS3.out
    have e5 := Go.heap_setCell_same _ w.heap.size 5 _ _ (.slice a2 x.inn.length k2) e4
    have e6 := Go.heap_setCell_same _ w.heap.size 6 _ _ (.slice a3 x.back.length k3) e5
    have HS4 : Hid (StAt (((w3.setCell ⟨w.heap.size, 4, none⟩ (.slice a1 x.out.length k1)).setCell ⟨w.heap.size, 5, none⟩ (.slice a2 x.inn.length k2)).setCell ⟨w.heap.size, 6, none⟩ (.slice a3 x.back.length k3)) w.heap.size x (.slice a1 x.out.length k1) (.slice a2 x.inn.length k2) (.slice a3 x.back.length k3)) := hide e6
    have HT4 : Hid (Turned (fun k => k = w.heap.size) w3 (((w3.setCell ⟨w.heap.size, 4, none⟩ (.slice a1 x.out.length k1)).setCell ⟨w.heap.size, 5, none⟩ (.slice a2 x.inn.length k2)).setCell ⟨w.heap.size, 6, none⟩ (.slice a3 x.back.length k3))) := hide ((((Turned.refl (fun k => k = w.heap.size) w3).set (.inl rfl)).set (.inl rfl)).set (.inl rfl))
    clear e4 e5 e6 f0 f1 f2 f3 f4 f5 f6 f7 f8 f9 f10 g4 g5 g6 c4 c5 c6 d4 d5 d6 HS0 HS1 HS2 HS3 HZ0 HZ1 HZ2 HC1 HC2 HC3
    generalize ((w3.setCell ⟨w.heap.size, 4, none⟩ (.slice a1 x.out.length k1)).setCell ⟨w.heap.size, 5, none⟩ (.slice a2 x.inn.length k2)).setCell ⟨w.heap.size, 6, none⟩ (.slice a3 x.back.length k3) = w4 at *
    have HZ4 := hide ((HT4.out.block (w.heap.size + 1) (Array.getElem?_eq_some_iff.1 HZ3.out).1 (by omega)).trans HZ3.out)
    obtain ⟨f0, f1, f2, f3, f4, f5, f6, f7, f8, f9, f10⟩ := HS4.out.cs
    have z0 := cell_of_row w4 (w.heap.size + 1) 0 _ _ _ HZ4.out
    have z1 := cell_of_row w4 (w.heap.size + 1) 1 _ _ _ HZ4.out
    have z2 := cell_of_row w4 (w.heap.size + 1) 2 _ _ _ HZ4.out
    have z3 := cell_of_row w4 (w.heap.size + 1) 3 _ _ _ HZ4.out
    have z4 := cell_of_row w4 (w.heap.size + 1) 4 _ _ _ HZ4.out
    have z5 := cell_of_row w4 (w.heap.size + 1) 5 _ _ _ HZ4.out
    have z6 := cell_of_row w4 (w.heap.size + 1) 6 _ _ _ HZ4.out
    have z7 := cell_of_row w4 (w.heap.size + 1) 7 _ _ _ HZ4.out
    have z8 := cell_of_row w4 (w.heap.size + 1) 8 _ _ _ HZ4.out
    have z9 := cell_of_row w4 (w.heap.size + 1) 9 _ _ _ HZ4.out
    have z10 := cell_of_row w4 (w.heap.size + 1) 10 _ _ _ HZ4.out
    have y0 := frozen_of_row w4 (w.heap.size + 1) 0 _ _ HZ4.out
    have y1 := frozen_of_row w4 (w.heap.size + 1) 1 _ _ HZ4.out
    have y2 := frozen_of_row w4 (w.heap.size + 1) 2 _ _ HZ4.out
    have y3 := frozen_of_row w4 (w.heap.size + 1) 3 _ _ HZ4.out
    have y4 := frozen_of_row w4 (w.heap.size + 1) 4 _ _ HZ4.out
    have y5 := frozen_of_row w4 (w.heap.size + 1) 5 _ _ HZ4.out
    have y6 := frozen_of_row w4 (w.heap.size + 1) 6 _ _ HZ4.out
    have y7 := frozen_of_row w4 (w.heap.size + 1) 7 _ _ HZ4.out
    have y8 := frozen_of_row w4 (w.heap.size + 1) 8 _ _ HZ4.out
    have y9 := frozen_of_row w4 (w.heap.size + 1) 9 _ _ HZ4.out
    have y10 := frozen_of_row w4 (w.heap.size + 1) 10 _ _ HZ4.out
    simp at z0 z1 z2 z3 z4 z5 z6 z7 z8 z9 z10
    go_wp2
    obtain ⟨e1, e2⟩ := st_fill w4 (w.heap.size + 1) x (.slice a1 x.out.length k1) (.slice a2 x.inn.length k2) (.slice a3 x.back.length k3) HZ4.out
    have HTw := hide ((HT4.out.mono fun k e => (.inl e : k = w.heap.size ∨ k = w.heap.size + 1)).trans (e2.mono fun k e => (.inr e : k = w.heap.size ∨ k = w.heap.size + 1)) (fun _ _ e => e))
    refine bodyPost_ret (results_cell_row rfl _ _ (w.heap.size + 1) _ _ _ _ rfl e1 Try.underlying29 rfl (by kernel_rfl)) rfl ?_
    have far : ∀ k, w.heap.size + 1 < k → ¬ (k = w.heap.size ∨ k = w.heap.size + 1) := fun k h e => by omega
    have hr1 := HO3.out.1.1
    have hr2 := HO3.out.1.2
    have hr3 := HO3.out.2
    have hs0 : w.heap.size + 1 < w0.drew.heap.size := hz0
    exact ⟨_, _, _, rfl, owns_mono (owns_turned hr1 HTw.out (fun k e => far k (by have := (hr1.lt k e).1; omega))) (by omega), owns_mono (owns_turned hr2 HTw.out (fun k e => far k (by have := (hr2.lt k e).1; omega))) (by omega), owns_mono (owns_turned hr3 HTw.out (fun k e => far k (by have := (hr3.lt k e).1; omega))) (by omega), (HTw.out.below (B := w.heap.size) (fun k e => by omega) HB3.out.size) |> HB3.out.trans, fun k e => ⟨fun e' => by have := (HO1.out.lt k e).2; have := (HO2.out.2.lt k e').1; omega, fun e' => by have := (HO1.out.lt k e).2; have := (HO3.out.2.lt k e').1; omega⟩, fun k e e' => by have := (HO2.out.2.lt k e).2; have := (HO3.out.2.lt k e').1; omega⟩
end Go.Proofs.Ytmogciopaffccaa

/- Lines: a source: a state on its way, most of what was read apart; in memory. -/
namespace Go.Proofs.Ytmogciopaffccaa
open Go.RowKit

def Src (W : World) (g : Nat) (x : SS) (o i b r f : Value) : Prop := W.heap[g]? = some (.cells #[.bool x.rd, .bool x.wt, .int .i64 x.mode, .int .i64 x.size, o, i, b, .int .i64 x.dir, .bool x.fin, .bool x.bad, .bool x.closed, r, f] 100)
theorem Src.cs {W : World} {g : Nat} {x : SS} {o i b r f : Value} (h : Src W g x o i b r f) : W.cell? ⟨g, 0, none⟩ = some (.bool x.rd) ∧ W.cell? ⟨g, 1, none⟩ = some (.bool x.wt) ∧ W.cell? ⟨g, 2, none⟩ = some (.int .i64 x.mode) ∧ W.cell? ⟨g, 3, none⟩ = some (.int .i64 x.size) ∧ W.cell? ⟨g, 4, none⟩ = some (o) ∧ W.cell? ⟨g, 5, none⟩ = some (i) ∧ W.cell? ⟨g, 6, none⟩ = some (b) ∧ W.cell? ⟨g, 7, none⟩ = some (.int .i64 x.dir) ∧ W.cell? ⟨g, 8, none⟩ = some (.bool x.fin) ∧ W.cell? ⟨g, 9, none⟩ = some (.bool x.bad) ∧ W.cell? ⟨g, 10, none⟩ = some (.bool x.closed) ∧ W.cell? ⟨g, 11, none⟩ = some (r) ∧ W.cell? ⟨g, 12, none⟩ = some (f) :=
  ⟨cell_of_row W g 0 _ _ _ h, cell_of_row W g 1 _ _ _ h, cell_of_row W g 2 _ _ _ h, cell_of_row W g 3 _ _ _ h, cell_of_row W g 4 _ _ _ h, cell_of_row W g 5 _ _ _ h, cell_of_row W g 6 _ _ _ h, cell_of_row W g 7 _ _ _ h, cell_of_row W g 8 _ _ _ h, cell_of_row W g 9 _ _ _ h, cell_of_row W g 10 _ _ _ h, cell_of_row W g 11 _ _ _ h, cell_of_row W g 12 _ _ _ h⟩
theorem Src.lt {W : World} {g : Nat} {x : SS} {o i b r f : Value} (h : Src W g x o i b r f) : g < W.heap.size := (Array.getElem?_eq_some_iff.1 h).1
theorem Src.soft {W : World} {g : Nat} {x : SS} {o i b r f : Value} (h : Src W g x o i b r f) (j : Nat) : W.frozen? ⟨g, j, none⟩ = false := frozen_of_row W g j _ _ h
theorem Src.set {W : World} {g : Nat} {x x' : SS} {o i b o' i' b' r r' f f' : Value} (h : Src W g x o i b r f) (j : Nat) (u : Value) (hl : ([.bool x.rd, .bool x.wt, .int .i64 x.mode, .int .i64 x.size, o, i, b, .int .i64 x.dir, .bool x.fin, .bool x.bad, .bool x.closed, r, f] : List Value).set j u = [.bool x'.rd, .bool x'.wt, .int .i64 x'.mode, .int .i64 x'.size, o', i', b', .int .i64 x'.dir, .bool x'.fin, .bool x'.bad, .bool x'.closed, r', f']) : Src (W.setCell ⟨g, j, none⟩ u) g x' o' i' b' r' f' := by
  have := Go.heap_setCell_same W g j _ _ u h
  unfold Src
  rw [this]
  simp only [List.setIfInBounds_toArray, hl]
theorem Src.below {W W' : World} {g : Nat} {x : SS} {o i b r f : Value} (h : Src W g x o i b r f) (hB : Below W.heap.size W W') : Src W' g x o i b r f := (hB.block g h.lt).trans h
theorem Src.turned {P : Nat → Prop} {W W' : World} {g : Nat} {x : SS} {o i b r f : Value} (h : Src W g x o i b r f) (hT : Turned P W W') (hg : ¬ P g) : Src W' g x o i b r f := (hT.block g h.lt hg).trans h
theorem Src.two {W : World} {g : Nat} {x : SS} {o i b r f : Value} (h : Src W g x o i b r f) (n : List UInt8) (i' f' : Value) : Src ((W.setCell ⟨g, 5, none⟩ i').setCell ⟨g, 12, none⟩ f') g (x.near n) o i' b r f' := Src.set (x := x.near n) (Src.set (x' := x.near n) h 5 i' rfl) 12 f' rfl
theorem Sl.zero {W : World} {a : Addr} {c : Nat} : Sl W (.slice (some a) 0 c) [] := ⟨_, _, rfl, .inr (.inl ⟨_, _, rfl, rfl⟩), Nat.zero_le _⟩
theorem Sl.cuts {W : World} {b o c : Nat} {l : List UInt8} (h : Sl W (.slice (some ⟨b, o, none⟩) l.length c) l) (n : Nat) (hn : n ≤ l.length) : Sl W (.slice (some ⟨b, o, none⟩) n c) (l.take n) ∧ Sl W (.slice (some ⟨b, o + n, none⟩) (l.length - n) (c - n)) (l.drop n) := by
  obtain ⟨_, _, e, hb, hc⟩ := h
  cases e
  have h1 := bys_cut hb 0 n c (by omega)
  have h2 := bys_cut hb n (l.length - n) (c - n) (by omega)
  rw [List.drop_zero, Nat.add_zero] at h1
  rw [List.take_of_length_le (by rw [List.length_drop]; exact Nat.le_refl _)] at h2
  exact ⟨⟨_, _, by rw [List.length_take, Nat.min_eq_left hn], h1, by rw [List.length_take]; omega⟩, ⟨_, _, by rw [List.length_drop], h2, by rw [List.length_drop]; omega⟩⟩
set_option maxRecDepth 100000 in
set_option maxHeartbeats 4000000 in
theorem partIn_A0 (y : SS) (g : Nat) (fa : Option Addr) (fc : Nat) (o b r : Value) (w : World) (h : Src w g y o (.slice none 0 0) b r (.slice fa 0 fc)) : Calls Try.prog 51 #[.pointer (some ⟨g, 0, none⟩)] w fun e w' => ∃ i' f', e = .returned (.tuple #[]) ∧ Src w' g (y.near []) o i' b r f' ∧ Sl w' i' [] ∧ Sl w' f' [] ∧ (∀ k, i'.ownBlock = some k ∨ f'.ownBlock = some k → False) ∧ Turned (fun k => k = g) w w' := by
  have HS := hide h
  obtain ⟨c0, c1, c2, c3, c4, c5, c6, c7, c8, c9, c10, c11, c12⟩ := h.cs
  have s5 := h.soft 5
  have s12 := h.soft 12
  have hm : min (64 : Int) 0 = 0 := by decide
  clear h
  go_enter Try.func51, Try.ntmps51
  go_upto_region 4 with fail
  have HS2 : Hid (Src ((w.setCell ⟨g, 5, none⟩ (.slice none 0 0)).setCell ⟨g, 12, none⟩ (.slice none 0 0)) g (y.near []) o (.slice none 0 0) b r (.slice none 0 0)) := hide (HS.out.two [] _ _)
  have HT2 : Hid (Turned (fun k => k = g) w ((w.setCell ⟨g, 5, none⟩ (.slice none 0 0)).setCell ⟨g, 12, none⟩ (.slice none 0 0))) := hide (((Turned.refl (fun k => k = g) w).set (.inl rfl)).set (.inl rfl))
  generalize (w.setCell ⟨g, 5, none⟩ (.slice none 0 0)).setCell ⟨g, 12, none⟩ (.slice none 0 0) = w2 at *
  clear c0 c1 c2 c3 c4 c5 c6 c7 c8 c9 c10 c11 c12 s5 s12
  obtain ⟨c0, c1, c2, c3, c4, c5, c6, c7, c8, c9, c10, c11, c12⟩ := HS2.out.cs
  have s5 := HS2.out.soft 5
  have s12 := HS2.out.soft 12
  go_big_region
  try go_wp2
  go_end0
  have HT3 : ∀ X Y, Turned (fun k => k = g) w ((w2.drew.setCell ⟨g, 5, none⟩ X).setCell ⟨g, 12, none⟩ Y) := fun X Y => HT2.out.trans (((Turned.of_below (S := fun k => k = g) (Below.refl _ w2).drew).set (.inl rfl)).set (.inl rfl)) (fun _ _ e => e)
  exact ⟨_, _, rfl, Src.two (show Src (World.drew _) g _ o _ b r _ from HS2.out) [] _ _, Sl.nil, Sl.nil, (by intro k e; rcases e with e | e <;> simp [Value.ownBlock] at e <;> omega), HT3 _ _⟩
set_option maxRecDepth 100000 in
set_option maxHeartbeats 4000000 in
theorem partIn_A1 (y : SS) (g : Nat) (fa : Option Addr) (fc : Nat) (ab ao : Nat) (au : Option Nat) (o b r : Value) (w : World) (h : Src w g y o (.slice (some ⟨ab, ao, au⟩) 0 0) b r (.slice fa 0 fc)) : Calls Try.prog 51 #[.pointer (some ⟨g, 0, none⟩)] w fun e w' => ∃ i' f', e = .returned (.tuple #[]) ∧ Src w' g (y.near []) o i' b r f' ∧ Sl w' i' [] ∧ Sl w' f' [] ∧ (∀ k, i'.ownBlock = some k ∨ f'.ownBlock = some k → k = ab) ∧ Turned (fun k => k = g) w w' := by
  have HS := hide h
  obtain ⟨c0, c1, c2, c3, c4, c5, c6, c7, c8, c9, c10, c11, c12⟩ := h.cs
  have s5 := h.soft 5
  have s12 := h.soft 12
  have hm : min (64 : Int) 0 = 0 := by decide
  clear h
  go_enter Try.func51, Try.ntmps51
  go_upto_region 4 with fail
  have HS2 : Hid (Src ((w.setCell ⟨g, 5, none⟩ (.slice none 0 0)).setCell ⟨g, 12, none⟩ (.slice (some ⟨ab, ao, au⟩) 0 0)) g (y.near []) o (.slice none 0 0) b r (.slice (some ⟨ab, ao, au⟩) 0 0)) := hide (HS.out.two [] _ _)
  have HT2 : Hid (Turned (fun k => k = g) w ((w.setCell ⟨g, 5, none⟩ (.slice none 0 0)).setCell ⟨g, 12, none⟩ (.slice (some ⟨ab, ao, au⟩) 0 0))) := hide (((Turned.refl (fun k => k = g) w).set (.inl rfl)).set (.inl rfl))
  generalize (w.setCell ⟨g, 5, none⟩ (.slice none 0 0)).setCell ⟨g, 12, none⟩ (.slice (some ⟨ab, ao, au⟩) 0 0) = w2 at *
  clear c0 c1 c2 c3 c4 c5 c6 c7 c8 c9 c10 c11 c12 s5 s12
  obtain ⟨c0, c1, c2, c3, c4, c5, c6, c7, c8, c9, c10, c11, c12⟩ := HS2.out.cs
  have s5 := HS2.out.soft 5
  have s12 := HS2.out.soft 12
  go_big_region
  try go_wp2
  go_end0
  have HT3 : ∀ X Y, Turned (fun k => k = g) w ((w2.drew.setCell ⟨g, 5, none⟩ X).setCell ⟨g, 12, none⟩ Y) := fun X Y => HT2.out.trans (((Turned.of_below (S := fun k => k = g) (Below.refl _ w2).drew).set (.inl rfl)).set (.inl rfl)) (fun _ _ e => e)
  exact ⟨_, _, rfl, Src.two (show Src (World.drew _) g _ o _ b r _ from HS2.out) [] _ _, Sl.zero, Sl.zero, (by intro k e; rcases e with e | e <;> simp [Value.ownBlock] at e <;> omega), HT3 _ _⟩
set_option maxRecDepth 100000 in
set_option maxHeartbeats 4000000 in
theorem partIn_A2 (y : SS) (g : Nat) (fa : Option Addr) (fc : Nat) (ab ao c : Nat) (au : Option Nat) (hc : ¬ c = 0) (o b r : Value) (w : World) (h : Src w g y o (.slice (some ⟨ab, ao, au⟩) 0 c) b r (.slice fa 0 fc)) : Calls Try.prog 51 #[.pointer (some ⟨g, 0, none⟩)] w fun e w' => ∃ i' f', e = .returned (.tuple #[]) ∧ Src w' g (y.near []) o i' b r f' ∧ Sl w' i' [] ∧ Sl w' f' [] ∧ (∀ k, i'.ownBlock = some k ∨ f'.ownBlock = some k → k = ab) ∧ Turned (fun k => k = g) w w' := by
  have HS := hide h
  obtain ⟨c0, c1, c2, c3, c4, c5, c6, c7, c8, c9, c10, c11, c12⟩ := h.cs
  have s5 := h.soft 5
  have s12 := h.soft 12
  have hm : min (64 : Int) 0 = 0 := by decide
  have hc1 : (0 : Int) < (c : Int) := by omega
  clear h
  go_enter Try.func51, Try.ntmps51
  go_upto_region 4 with fail
  have HS2 : Hid (Src ((w.setCell ⟨g, 5, none⟩ (.slice none 0 0)).setCell ⟨g, 12, none⟩ (.slice (some ⟨ab, ao, au⟩) 0 c)) g (y.near []) o (.slice none 0 0) b r (.slice (some ⟨ab, ao, au⟩) 0 c)) := hide (HS.out.two [] _ _)
  have HT2 : Hid (Turned (fun k => k = g) w ((w.setCell ⟨g, 5, none⟩ (.slice none 0 0)).setCell ⟨g, 12, none⟩ (.slice (some ⟨ab, ao, au⟩) 0 c))) := hide (((Turned.refl (fun k => k = g) w).set (.inl rfl)).set (.inl rfl))
  generalize (w.setCell ⟨g, 5, none⟩ (.slice none 0 0)).setCell ⟨g, 12, none⟩ (.slice (some ⟨ab, ao, au⟩) 0 c) = w2 at *
  clear c0 c1 c2 c3 c4 c5 c6 c7 c8 c9 c10 c11 c12 s5 s12
  obtain ⟨c0, c1, c2, c3, c4, c5, c6, c7, c8, c9, c10, c11, c12⟩ := HS2.out.cs
  have s5 := HS2.out.soft 5
  have s12 := HS2.out.soft 12
  go_big_region
  try go_wp2
  go_end0
  have HT3 : ∀ X Y, Turned (fun k => k = g) w ((w2.drew.setCell ⟨g, 5, none⟩ X).setCell ⟨g, 12, none⟩ Y) := fun X Y => HT2.out.trans (((Turned.of_below (S := fun k => k = g) (Below.refl _ w2).drew).set (.inl rfl)).set (.inl rfl)) (fun _ _ e => e)
  exact ⟨_, _, rfl, Src.two (show Src (World.drew _) g _ o _ b r _ from HS2.out) [] _ _, Sl.zero, Sl.zero, (by intro k e; rcases e with e | e <;> simp [Value.ownBlock] at e <;> omega), HT3 _ _⟩
set_option maxRecDepth 100000 in
set_option maxHeartbeats 4000000 in
theorem partIn_A3 (y : SS) (g : Nat) (fa : Option Addr) (fc : Nat) (ab ao : Nat) (hn0 : 0 < y.inn.length) (hn : y.inn.length ≤ 64) (o b r : Value) (w : World) (h : Src w g y o (.slice (some ⟨ab, ao, none⟩) y.inn.length y.inn.length) b r (.slice fa 0 fc)) (hv : Sl w (.slice (some ⟨ab, ao, none⟩) y.inn.length y.inn.length) y.inn) (hg : ab ≠ g) : Calls Try.prog 51 #[.pointer (some ⟨g, 0, none⟩)] w fun e w' => ∃ i' f', e = .returned (.tuple #[]) ∧ Src w' g (y.near y.inn) o i' b r f' ∧ Sl w' i' y.inn ∧ Sl w' f' [] ∧ (∀ k, i'.ownBlock = some k ∨ f'.ownBlock = some k → k = ab) ∧ Turned (fun k => k = g) w w' := by
  have HS := hide h
  obtain ⟨c0, c1, c2, c3, c4, c5, c6, c7, c8, c9, c10, c11, c12⟩ := h.cs
  have s5 := h.soft 5
  have s12 := h.soft 12
  have hm : min (64 : Int) (y.inn.length : Int) = (y.inn.length : Int) := by omega
  have HV := hide hv
  clear hv
  clear h
  go_enter Try.func51, Try.ntmps51
  go_upto_region 4 with fail
  have HS2 : Hid (Src ((w.setCell ⟨g, 5, none⟩ (.slice none 0 0)).setCell ⟨g, 12, none⟩ (.slice (some ⟨ab, ao, none⟩) y.inn.length y.inn.length)) g (y.near []) o (.slice none 0 0) b r (.slice (some ⟨ab, ao, none⟩) y.inn.length y.inn.length)) := hide (HS.out.two [] _ _)
  have HT2 : Hid (Turned (fun k => k = g) w ((w.setCell ⟨g, 5, none⟩ (.slice none 0 0)).setCell ⟨g, 12, none⟩ (.slice (some ⟨ab, ao, none⟩) y.inn.length y.inn.length))) := hide (((Turned.refl (fun k => k = g) w).set (.inl rfl)).set (.inl rfl))
  generalize (w.setCell ⟨g, 5, none⟩ (.slice none 0 0)).setCell ⟨g, 12, none⟩ (.slice (some ⟨ab, ao, none⟩) y.inn.length y.inn.length) = w2 at *
  clear c0 c1 c2 c3 c4 c5 c6 c7 c8 c9 c10 c11 c12 s5 s12
  obtain ⟨c0, c1, c2, c3, c4, c5, c6, c7, c8, c9, c10, c11, c12⟩ := HS2.out.cs
  have s5 := HS2.out.soft 5
  have s12 := HS2.out.soft 12
  go_big_region
  try go_wp2
  go_end0
  have HT3 : ∀ X Y, Turned (fun k => k = g) w ((w2.drew.setCell ⟨g, 5, none⟩ X).setCell ⟨g, 12, none⟩ Y) := fun X Y => HT2.out.trans (((Turned.of_below (S := fun k => k = g) (Below.refl _ w2).drew).set (.inl rfl)).set (.inl rfl)) (fun _ _ e => e)
  exact ⟨_, _, rfl, Src.two (show Src (World.drew _) g _ o _ b r _ from HS2.out) y.inn _ _, (HV.out.turned (HT3 _ _) (fun k e _ e2 => hg (by simp [Value.ownBlock] at e; omega))), Sl.zero, (by intro k e; rcases e with e | e <;> simp [Value.ownBlock] at e <;> omega), HT3 _ _⟩
set_option maxRecDepth 100000 in
set_option maxHeartbeats 4000000 in
theorem partIn_A4 (y : SS) (g : Nat) (fa : Option Addr) (fc : Nat) (ab ao c : Nat) (hn0 : 0 < y.inn.length) (hn : y.inn.length ≤ 64) (hc : y.inn.length < c) (o b r : Value) (w : World) (h : Src w g y o (.slice (some ⟨ab, ao, none⟩) y.inn.length c) b r (.slice fa 0 fc)) (hv : Sl w (.slice (some ⟨ab, ao, none⟩) y.inn.length c) y.inn) (hg : ab ≠ g) : Calls Try.prog 51 #[.pointer (some ⟨g, 0, none⟩)] w fun e w' => ∃ i' f', e = .returned (.tuple #[]) ∧ Src w' g (y.near y.inn) o i' b r f' ∧ Sl w' i' y.inn ∧ Sl w' f' [] ∧ (∀ k, i'.ownBlock = some k ∨ f'.ownBlock = some k → k = ab) ∧ Turned (fun k => k = g) w w' := by
  have HS := hide h
  obtain ⟨c0, c1, c2, c3, c4, c5, c6, c7, c8, c9, c10, c11, c12⟩ := h.cs
  have s5 := h.soft 5
  have s12 := h.soft 12
  have hm : min (64 : Int) (y.inn.length : Int) = (y.inn.length : Int) := by omega
  have hc1 : (y.inn.length : Int) < (c : Int) := by omega
  have hc2 : (y.inn.length : Int) ≤ (c : Int) := by omega
  have hc3 : ¬ c = y.inn.length := by omega
  have HV := hide hv
  clear hv
  clear h
  go_enter Try.func51, Try.ntmps51
  go_upto_region 4 with fail
  have HS2 : Hid (Src ((w.setCell ⟨g, 5, none⟩ (.slice none 0 0)).setCell ⟨g, 12, none⟩ (.slice (some ⟨ab, ao, none⟩) y.inn.length c)) g (y.near []) o (.slice none 0 0) b r (.slice (some ⟨ab, ao, none⟩) y.inn.length c)) := hide (HS.out.two [] _ _)
  have HT2 : Hid (Turned (fun k => k = g) w ((w.setCell ⟨g, 5, none⟩ (.slice none 0 0)).setCell ⟨g, 12, none⟩ (.slice (some ⟨ab, ao, none⟩) y.inn.length c))) := hide (((Turned.refl (fun k => k = g) w).set (.inl rfl)).set (.inl rfl))
  generalize (w.setCell ⟨g, 5, none⟩ (.slice none 0 0)).setCell ⟨g, 12, none⟩ (.slice (some ⟨ab, ao, none⟩) y.inn.length c) = w2 at *
  clear c0 c1 c2 c3 c4 c5 c6 c7 c8 c9 c10 c11 c12 s5 s12
  obtain ⟨c0, c1, c2, c3, c4, c5, c6, c7, c8, c9, c10, c11, c12⟩ := HS2.out.cs
  have s5 := HS2.out.soft 5
  have s12 := HS2.out.soft 12
  go_big_region
  try go_wp2
  go_end0
  have HT3 : ∀ X Y, Turned (fun k => k = g) w ((w2.drew.setCell ⟨g, 5, none⟩ X).setCell ⟨g, 12, none⟩ Y) := fun X Y => HT2.out.trans (((Turned.of_below (S := fun k => k = g) (Below.refl _ w2).drew).set (.inl rfl)).set (.inl rfl)) (fun _ _ e => e)
  exact ⟨_, _, rfl, Src.two (show Src (World.drew _) g _ o _ b r _ from HS2.out) y.inn _ _, (HV.out.turned (HT3 _ _) (fun k e _ e2 => hg (by simp [Value.ownBlock] at e; omega))), Sl.zero, (by intro k e; rcases e with e | e <;> simp [Value.ownBlock] at e <;> omega), HT3 _ _⟩
set_option maxRecDepth 100000 in
set_option maxHeartbeats 4000000 in
theorem partIn_A5 (y : SS) (g : Nat) (fa : Option Addr) (fc : Nat) (ab ao c : Nat) (hn : 64 < y.inn.length) (hc : y.inn.length ≤ c) (o b r : Value) (w : World) (h : Src w g y o (.slice (some ⟨ab, ao, none⟩) y.inn.length c) b r (.slice fa 0 fc)) (hv : Sl w (.slice (some ⟨ab, ao, none⟩) y.inn.length c) y.inn) (hg : ab ≠ g) : Calls Try.prog 51 #[.pointer (some ⟨g, 0, none⟩)] w fun e w' => ∃ i' f', e = .returned (.tuple #[]) ∧ Src w' g (y.near (y.inn.take 64)) o i' b r f' ∧ Sl w' i' (y.inn.take 64) ∧ Sl w' f' (y.inn.drop 64) ∧ (∀ k, i'.ownBlock = some k ∨ f'.ownBlock = some k → k = ab) ∧ Turned (fun k => k = g) w w' := by
  have HS := hide h
  obtain ⟨c0, c1, c2, c3, c4, c5, c6, c7, c8, c9, c10, c11, c12⟩ := h.cs
  have s5 := h.soft 5
  have s12 := h.soft 12
  have hm : min (64 : Int) (y.inn.length : Int) = 64 := by omega
  have hc1 : (64 : Int) < (c : Int) := by omega
  have hc2 : (64 : Int) ≤ (c : Int) := by omega
  have hc3 : ¬ c = 64 := by omega
  have hc4 : (64 : Int) ≤ (y.inn.length : Int) := by omega
  have hc5 : (y.inn.length : Int) ≤ (c : Int) := by omega
  have HV := hide hv
  clear hv
  clear h
  go_enter Try.func51, Try.ntmps51
  go_upto_region 4 with fail
  have HS2 : Hid (Src ((w.setCell ⟨g, 5, none⟩ (.slice none 0 0)).setCell ⟨g, 12, none⟩ (.slice (some ⟨ab, ao, none⟩) y.inn.length c)) g (y.near []) o (.slice none 0 0) b r (.slice (some ⟨ab, ao, none⟩) y.inn.length c)) := hide (HS.out.two [] _ _)
  have HT2 : Hid (Turned (fun k => k = g) w ((w.setCell ⟨g, 5, none⟩ (.slice none 0 0)).setCell ⟨g, 12, none⟩ (.slice (some ⟨ab, ao, none⟩) y.inn.length c))) := hide (((Turned.refl (fun k => k = g) w).set (.inl rfl)).set (.inl rfl))
  generalize (w.setCell ⟨g, 5, none⟩ (.slice none 0 0)).setCell ⟨g, 12, none⟩ (.slice (some ⟨ab, ao, none⟩) y.inn.length c) = w2 at *
  clear c0 c1 c2 c3 c4 c5 c6 c7 c8 c9 c10 c11 c12 s5 s12
  obtain ⟨c0, c1, c2, c3, c4, c5, c6, c7, c8, c9, c10, c11, c12⟩ := HS2.out.cs
  have s5 := HS2.out.soft 5
  have s12 := HS2.out.soft 12
  go_big_region
  try go_wp2
  go_end0
  obtain ⟨C1, C2⟩ := HV.out.cuts 64 (by omega)
  have HT3 : ∀ X Y, Turned (fun k => k = g) w ((w2.drew.setCell ⟨g, 5, none⟩ X).setCell ⟨g, 12, none⟩ Y) := fun X Y => HT2.out.trans (((Turned.of_below (S := fun k => k = g) (Below.refl _ w2).drew).set (.inl rfl)).set (.inl rfl)) (fun _ _ e => e)
  exact ⟨_, _, rfl, Src.two (show Src (World.drew _) g _ o _ b r _ from HS2.out) (y.inn.take 64) _ _, (C1.turned (HT3 _ _) (fun k e _ e2 => hg (by simp [Value.ownBlock] at e; omega))), (C2.turned (HT3 _ _) (fun k e _ e2 => hg (by simp [Value.ownBlock] at e; omega))), (by intro k e; rcases e with e | e <;> simp [Value.ownBlock] at e <;> omega), HT3 _ _⟩
set_option maxRecDepth 100000 in
set_option maxHeartbeats 4000000 in
theorem partIn_B3 (y : SS) (g : Nat) (ia : Option Addr) (ic : Nat) (far : List UInt8) (ab ao : Nat) (hn0 : 0 < far.length) (hn : far.length ≤ 64) (o b r : Value) (w : World) (h : Src w g y o (.slice ia 0 ic) b r (.slice (some ⟨ab, ao, none⟩) far.length far.length)) (hv : Sl w (.slice (some ⟨ab, ao, none⟩) far.length far.length) far) (hg : ab ≠ g) : Calls Try.prog 51 #[.pointer (some ⟨g, 0, none⟩)] w fun e w' => ∃ i' f', e = .returned (.tuple #[]) ∧ Src w' g (y.near far) o i' b r f' ∧ Sl w' i' far ∧ Sl w' f' [] ∧ (∀ k, i'.ownBlock = some k ∨ f'.ownBlock = some k → k = ab) ∧ Turned (fun k => k = g) w w' := by
  have HS := hide h
  obtain ⟨c0, c1, c2, c3, c4, c5, c6, c7, c8, c9, c10, c11, c12⟩ := h.cs
  have s5 := h.soft 5
  have s12 := h.soft 12
  have hm : min (64 : Int) (far.length : Int) = (far.length : Int) := by omega
  have HV := hide hv
  clear hv
  clear h
  have hf0 : ¬ (far.length : Int) = 0 := by omega
  go_enter Try.func51, Try.ntmps51
  go_upto_region 4 with fail
  have HS2 := HS
  have HT2 := hide (Turned.refl (fun k => k = g) w)
  go_big_region
  try go_wp2
  go_end0
  have HT3 : ∀ X Y, Turned (fun k => k = g) w ((w.drew.setCell ⟨g, 5, none⟩ X).setCell ⟨g, 12, none⟩ Y) := fun X Y => HT2.out.trans (((Turned.of_below (S := fun k => k = g) (Below.refl _ w).drew).set (.inl rfl)).set (.inl rfl)) (fun _ _ e => e)
  exact ⟨_, _, rfl, Src.two (show Src (World.drew _) g _ o _ b r _ from HS2.out) far _ _, (HV.out.turned (HT3 _ _) (fun k e _ e2 => hg (by simp [Value.ownBlock] at e; omega))), Sl.zero, (by intro k e; rcases e with e | e <;> simp [Value.ownBlock] at e <;> omega), HT3 _ _⟩
set_option maxRecDepth 100000 in
set_option maxHeartbeats 4000000 in
theorem partIn_B4 (y : SS) (g : Nat) (ia : Option Addr) (ic : Nat) (far : List UInt8) (ab ao c : Nat) (hn0 : 0 < far.length) (hn : far.length ≤ 64) (hc : far.length < c) (o b r : Value) (w : World) (h : Src w g y o (.slice ia 0 ic) b r (.slice (some ⟨ab, ao, none⟩) far.length c)) (hv : Sl w (.slice (some ⟨ab, ao, none⟩) far.length c) far) (hg : ab ≠ g) : Calls Try.prog 51 #[.pointer (some ⟨g, 0, none⟩)] w fun e w' => ∃ i' f', e = .returned (.tuple #[]) ∧ Src w' g (y.near far) o i' b r f' ∧ Sl w' i' far ∧ Sl w' f' [] ∧ (∀ k, i'.ownBlock = some k ∨ f'.ownBlock = some k → k = ab) ∧ Turned (fun k => k = g) w w' := by
  have HS := hide h
  obtain ⟨c0, c1, c2, c3, c4, c5, c6, c7, c8, c9, c10, c11, c12⟩ := h.cs
  have s5 := h.soft 5
  have s12 := h.soft 12
  have hm : min (64 : Int) (far.length : Int) = (far.length : Int) := by omega
  have hc1 : (far.length : Int) < (c : Int) := by omega
  have hc2 : (far.length : Int) ≤ (c : Int) := by omega
  have hc3 : ¬ c = far.length := by omega
  have HV := hide hv
  clear hv
  clear h
  have hf0 : ¬ (far.length : Int) = 0 := by omega
  go_enter Try.func51, Try.ntmps51
  go_upto_region 4 with fail
  have HS2 := HS
  have HT2 := hide (Turned.refl (fun k => k = g) w)
  go_big_region
  try go_wp2
  go_end0
  have HT3 : ∀ X Y, Turned (fun k => k = g) w ((w.drew.setCell ⟨g, 5, none⟩ X).setCell ⟨g, 12, none⟩ Y) := fun X Y => HT2.out.trans (((Turned.of_below (S := fun k => k = g) (Below.refl _ w).drew).set (.inl rfl)).set (.inl rfl)) (fun _ _ e => e)
  exact ⟨_, _, rfl, Src.two (show Src (World.drew _) g _ o _ b r _ from HS2.out) far _ _, (HV.out.turned (HT3 _ _) (fun k e _ e2 => hg (by simp [Value.ownBlock] at e; omega))), Sl.zero, (by intro k e; rcases e with e | e <;> simp [Value.ownBlock] at e <;> omega), HT3 _ _⟩
set_option maxRecDepth 100000 in
set_option maxHeartbeats 4000000 in
theorem partIn_B5 (y : SS) (g : Nat) (ia : Option Addr) (ic : Nat) (far : List UInt8) (ab ao c : Nat) (hn : 64 < far.length) (hc : far.length ≤ c) (o b r : Value) (w : World) (h : Src w g y o (.slice ia 0 ic) b r (.slice (some ⟨ab, ao, none⟩) far.length c)) (hv : Sl w (.slice (some ⟨ab, ao, none⟩) far.length c) far) (hg : ab ≠ g) : Calls Try.prog 51 #[.pointer (some ⟨g, 0, none⟩)] w fun e w' => ∃ i' f', e = .returned (.tuple #[]) ∧ Src w' g (y.near (far.take 64)) o i' b r f' ∧ Sl w' i' (far.take 64) ∧ Sl w' f' (far.drop 64) ∧ (∀ k, i'.ownBlock = some k ∨ f'.ownBlock = some k → k = ab) ∧ Turned (fun k => k = g) w w' := by
  have HS := hide h
  obtain ⟨c0, c1, c2, c3, c4, c5, c6, c7, c8, c9, c10, c11, c12⟩ := h.cs
  have s5 := h.soft 5
  have s12 := h.soft 12
  have hm : min (64 : Int) (far.length : Int) = 64 := by omega
  have hc1 : (64 : Int) < (c : Int) := by omega
  have hc2 : (64 : Int) ≤ (c : Int) := by omega
  have hc3 : ¬ c = 64 := by omega
  have hc4 : (64 : Int) ≤ (far.length : Int) := by omega
  have hc5 : (far.length : Int) ≤ (c : Int) := by omega
  have HV := hide hv
  clear hv
  clear h
  have hf0 : ¬ (far.length : Int) = 0 := by omega
  go_enter Try.func51, Try.ntmps51
  go_upto_region 4 with fail
  have HS2 := HS
  have HT2 := hide (Turned.refl (fun k => k = g) w)
  go_big_region
  try go_wp2
  go_end0
  obtain ⟨C1, C2⟩ := HV.out.cuts 64 (by omega)
  have HT3 : ∀ X Y, Turned (fun k => k = g) w ((w.drew.setCell ⟨g, 5, none⟩ X).setCell ⟨g, 12, none⟩ Y) := fun X Y => HT2.out.trans (((Turned.of_below (S := fun k => k = g) (Below.refl _ w).drew).set (.inl rfl)).set (.inl rfl)) (fun _ _ e => e)
  exact ⟨_, _, rfl, Src.two (show Src (World.drew _) g _ o _ b r _ from HS2.out) (far.take 64) _ _, (C1.turned (HT3 _ _) (fun k e _ e2 => hg (by simp [Value.ownBlock] at e; omega))), (C2.turned (HT3 _ _) (fun k e _ e2 => hg (by simp [Value.ownBlock] at e; omega))), (by intro k e; rcases e with e | e <;> simp [Value.ownBlock] at e <;> omega), HT3 _ _⟩
set_option maxRecDepth 100000 in
set_option maxHeartbeats 4000000 in
theorem partIn_C (y : SS) (far : List UInt8) (g : Nat) (ia fa : Option Addr) (ic fc : Nat) (o b r : Value) (w : World) (h : Src w g y o (.slice ia y.inn.length ic) b r (.slice fa far.length fc)) (h1 : 0 < y.inn.length) (h2 : 0 < far.length) : Calls Try.prog 51 #[.pointer (some ⟨g, 0, none⟩)] w fun e w' => e = .returned (.tuple #[]) ∧ Below w.heap.size w w' := by
  obtain ⟨c0, c1, c2, c3, c4, c5, c6, c7, c8, c9, c10, c11, c12⟩ := h.cs
  clear h
  have q1 : ¬ (y.inn.length : Int) = 0 := by omega
  have q2 : ¬ (far.length : Int) = 0 := by omega
  go_enter Try.func51, Try.ntmps51
  go_wp2
  go_end0
  exact ⟨rfl, Below.refl _ _⟩
theorem partIn_any (y : SS) (far : List UInt8) (g : Nat) (o i b r f : Value) (w : World) (h : Src w g y o i b r f) (hi : Sl w i y.inn) (hf : Sl w f far) (gi : ∀ k, i.ownBlock = some k → k ≠ g) (gf : ∀ k, f.ownBlock = some k → k ≠ g) : Calls Try.prog 51 #[.pointer (some ⟨g, 0, none⟩)] w fun e w' => ∃ i' f', e = .returned (.tuple #[]) ∧ Src w' g (y.parted far) o i' b r f' ∧ Sl w' i' (part y.inn far).1 ∧ Sl w' f' (part y.inn far).2 ∧ (∀ k, i'.ownBlock = some k ∨ f'.ownBlock = some k → i.ownBlock = some k ∨ f.ownBlock = some k) ∧ Turned (fun k => k = g) w w' := by
  have HI := hi
  have HF := hf
  obtain ⟨ia, ic, rfl, hbi, hci⟩ := hi
  obtain ⟨fa, fc, rfl, hbf, hcf⟩ := hf
  by_cases hf0 : far = []
  · subst hf0
    rcases hbi with ⟨e, e0⟩ | ⟨⟨ab, ao, au⟩, c, e, e0⟩ | ⟨ab, ao, c, e, h0, hc⟩
    · have hp : part y.inn [] = ([], []) := by rw [e0]; rfl
      rw [e] at h
      refine (partIn_A0 y g fa fc o b r w h).mono ?_
      rintro _ w' ⟨i', f', rfl, s1, s2, s3, s4, s5⟩
      unfold SS.parted
      rw [hp]
      exact ⟨i', f', rfl, s1, s2, s3, fun k e => (s4 k e).elim, s5⟩
    · have hp : part y.inn [] = ([], []) := by rw [e0]; rfl
      rw [e] at h
      rw [e]
      by_cases hc0 : c = 0
      · subst hc0
        refine (partIn_A1 y g fa fc ab ao au o b r w h).mono ?_
        rintro _ w' ⟨i', f', rfl, s1, s2, s3, s4, s5⟩
        unfold SS.parted
        rw [hp]
        exact ⟨i', f', rfl, s1, s2, s3, fun k e => .inl (by rw [s4 k e]; rfl), s5⟩
      · refine (partIn_A2 y g fa fc ab ao c au hc0 o b r w h).mono ?_
        rintro _ w' ⟨i', f', rfl, s1, s2, s3, s4, s5⟩
        unfold SS.parted
        rw [hp]
        exact ⟨i', f', rfl, s1, s2, s3, fun k e => .inl (by rw [s4 k e]; rfl), s5⟩
    · have e' := e
      cases e'
      have hg : ab ≠ g := gi ab rfl
      by_cases hn : y.inn.length ≤ 64
      · have hp : part y.inn [] = (y.inn, []) := by show (y.inn.take 64, y.inn.drop 64) = _; rw [List.take_of_length_le hn, List.drop_eq_nil_of_le hn]
        by_cases hc0 : ic = y.inn.length
        · rw [hc0] at h HI
          refine (partIn_A3 y g fa fc ab ao h0 hn o b r w h HI hg).mono ?_
          rintro _ w' ⟨i', f', rfl, s1, s2, s3, s4, s5⟩
          unfold SS.parted
          rw [hp]
          exact ⟨i', f', rfl, s1, s2, s3, fun k e => .inl (by rw [s4 k e]; rfl), s5⟩
        · refine (partIn_A4 y g fa fc ab ao ic h0 hn (by omega) o b r w h HI hg).mono ?_
          rintro _ w' ⟨i', f', rfl, s1, s2, s3, s4, s5⟩
          unfold SS.parted
          rw [hp]
          exact ⟨i', f', rfl, s1, s2, s3, fun k e => .inl (by rw [s4 k e]; rfl), s5⟩
      · have hp : part y.inn [] = (y.inn.take 64, y.inn.drop 64) := rfl
        refine (partIn_A5 y g fa fc ab ao ic (by omega) hci o b r w h HI hg).mono ?_
        rintro _ w' ⟨i', f', rfl, s1, s2, s3, s4, s5⟩
        unfold SS.parted
        rw [hp]
        exact ⟨i', f', rfl, s1, s2, s3, fun k e => .inl (by rw [s4 k e]; rfl), s5⟩
  · have hfl : 0 < far.length := List.length_pos_iff.2 hf0
    by_cases hi0 : y.inn = []
    · obtain ⟨-, ab, ao, rfl, -, -⟩ := bys_block hbf hfl
      have hg : ab ≠ g := gf ab rfl
      have h' : Src w g y o (.slice ia 0 ic) b r (.slice (some ⟨ab, ao, none⟩) far.length fc) := by
        rw [hi0] at h; exact h
      by_cases hn : far.length ≤ 64
      · have hp : part y.inn far = (far, []) := by rw [hi0]; unfold part; rw [if_neg hf0, if_pos rfl, List.take_of_length_le hn, List.drop_eq_nil_of_le hn]
        by_cases hc0 : fc = far.length
        · rw [hc0] at h' HF
          refine (partIn_B3 y g ia ic far ab ao hfl hn o b r w h' HF hg).mono ?_
          rintro _ w' ⟨i', f', rfl, s1, s2, s3, s4, s5⟩
          unfold SS.parted
          rw [hp]
          exact ⟨i', f', rfl, s1, s2, s3, fun k e => .inr (by rw [s4 k e]; rfl), s5⟩
        · refine (partIn_B4 y g ia ic far ab ao fc hfl hn (by omega) o b r w h' HF hg).mono ?_
          rintro _ w' ⟨i', f', rfl, s1, s2, s3, s4, s5⟩
          unfold SS.parted
          rw [hp]
          exact ⟨i', f', rfl, s1, s2, s3, fun k e => .inr (by rw [s4 k e]; rfl), s5⟩
      · have hp : part y.inn far = (far.take 64, far.drop 64) := by rw [hi0]; unfold part; rw [if_neg hf0, if_pos rfl]
        refine (partIn_B5 y g ia ic far ab ao fc (by omega) hcf o b r w h' HF hg).mono ?_
        rintro _ w' ⟨i', f', rfl, s1, s2, s3, s4, s5⟩
        unfold SS.parted
        rw [hp]
        exact ⟨i', f', rfl, s1, s2, s3, fun k e => .inr (by rw [s4 k e]; rfl), s5⟩
    · have hp : part y.inn far = (y.inn, far) := by unfold part; rw [if_neg hf0, if_neg hi0]
      refine (partIn_C y far g ia fa ic fc o b r w h (List.length_pos_iff.2 hi0) hfl).mono ?_
      rintro _ w' ⟨rfl, hB⟩
      unfold SS.parted
      rw [hp]
      have hT := Turned.of_below (S := fun k => k = g) hB
      exact ⟨_, _, rfl, h.below hB, HI.turned hT (fun k e _ => gi k e), HF.turned hT (fun k e _ => gf k e), fun _ e => e, hT⟩
structure SrcOn {S : Type} (At : World → (Nat → Prop) → S → Prop) (W : World) (O : Nat → Prop) (s : S) (B g : Nat) (y : SS) (far : List UInt8) (o i b r f : Value) : Prop where
  src : Src W g y o i b r f
  ls : SIn W (fun k => B ≤ k ∧ ¬ O k ∧ k ≠ g ∧ k < W.heap.size) y o i b
  fl : Sl W f far
  fp : ∀ k, f.ownBlock = some k → B ≤ k ∧ ¬ O k ∧ k ≠ g ∧ k < W.heap.size
  raw : At W O s
  og : ¬ O g
  gB : B ≤ g
  ol : ∀ j, O j → j < W.heap.size
  nr : y.inn = [] → far = []
theorem Src.new (w : World) (x : SS) (o i b r f : Value) : Src (w.alloc (Obj.cells #[.bool x.rd, .bool x.wt, .int .i64 x.mode, .int .i64 x.size, o, i, b, .int .i64 x.dir, .bool x.fin, .bool x.bad, .bool x.closed, r, f] 100)) w.heap.size x o i b r f := heap_alloc_new w _
set_option maxRecDepth 100000 in
set_option maxHeartbeats 4000000 in
theorem sourceOf_any {S : Type} {At : World → (Nat → Prop) → S → Prop} (hT : ∀ s, OAt (fun w O => At w O s)) {w : World} {O P : Nat → Prop} {s : S} {x : SS} {o i b : Value} (T : TypeId) (v : Value) (h : SIn w P x o i b) (hA : At w O s) (hO : ∀ j, O j → j < w.heap.size) (ho : x.out.length ≤ 140737488351232) (hi : x.inn.length ≤ 140737488351232) (hb : x.back.length ≤ 140737488351232) :
    Calls Try.prog 35 #[.agg #[.bool x.rd, .bool x.wt, .int .i64 x.mode, .int .i64 x.size, o, i, b, .int .i64 x.dir, .bool x.fin, .bool x.bad, .bool x.closed], .iface T v] w fun e w' => ∃ g y far o' i' b' f', e = .returned (.pointer (some ⟨g, 0, none⟩)) ∧ y.wh far = x ∧ SrcOn At w' O s w.heap.size g y far o' i' b' (.iface T v) f' ∧ Below w.heap.size w w' := by
  have HC := hide (fun (W : World) (hW : Below w.heap.size w W) => lcopied_any x o i b P W (h.below hW) ho hi hb)
  obtain ⟨oa, oc, rfl, -⟩ := h.so
  obtain ⟨ia, ic, rfl, -⟩ := h.si
  obtain ⟨ba, bc, rfl, -⟩ := h.sb
  clear h
  go_enter Try.func35, Try.ntmps35
  go_wp2_with fail
  refine (HC.out _ (recv_below w _)).mono ?_
  rintro _ w1 ⟨o', i', b', rfl, q1, q2, q3, hB1, -⟩
  obtain ⟨a1, k1, rfl⟩ := owns_slice q1
  obtain ⟨a2, k2, rfl⟩ := owns_slice q2
  obtain ⟨a3, k3, rfl⟩ := owns_slice q3
  have hz := (recv_below w (Obj.cells #[.bool x.rd, .bool x.wt, .int .i64 x.mode, .int .i64 x.size, .slice oa x.out.length oc, .slice ia x.inn.length ic, .slice ba x.back.length bc, .int .i64 x.dir, .bool x.fin, .bool x.bad, .bool x.closed] 29)).size
  have hB01 := (recv_below w (Obj.cells #[.bool x.rd, .bool x.wt, .int .i64 x.mode, .int .i64 x.size, .slice oa x.out.length oc, .slice ia x.inn.length ic, .slice ba x.back.length bc, .int .i64 x.dir, .bool x.fin, .bool x.bad, .bool x.closed] 29)).trans (hB1.mono hz)
  have hBn := recv_below w1 (Obj.cells #[.bool x.rd, .bool x.wt, .int .i64 x.mode, .int .i64 x.size, .slice a1 x.out.length k1, .slice a2 x.inn.length k2, .slice a3 x.back.length k3, .int .i64 x.dir, .bool x.fin, .bool x.bad, .bool x.closed, .iface T v, .slice none 0 0] 100)
  have HP := hide (partIn_any x [] w1.heap.size _ _ _ _ _ _ (Src.new w1 x (.slice a1 x.out.length k1) (.slice a2 x.inn.length k2) (.slice a3 x.back.length k3) (.iface T v) (.slice none 0 0)) (Sl.own (owns_below q2 hBn)) Sl.nil (fun k e => by have := (q2.lt k e).2; omega) (fun k e => by simp [Value.ownBlock] at e))
  have HQ := hide (And.intro q1 (And.intro q2 q3))
  have HZ := hide hz
  have HB := hide (And.intro hB01 hBn)
  clear q1 q2 q3 hB1 hB01 hBn HC hz
  go_wp2_with fail
  refine HP.out.mono ?_
  rintro _ w2 ⟨i2, f2, rfl, s1, s2, s3, s4, s5⟩
  obtain ⟨q1, q2, q3⟩ := HQ.out
  obtain ⟨hB01, hBn⟩ := HB.out
  have hz := HZ.out
  have hz1 := hB01.size
  have hz2 := hBn.size
  have hz3 := s5.size
  have HR := hide (And.intro s1 (And.intro s2 (And.intro s3 (And.intro s4 s5))))
  clear s1 s2 s3 s4 HP
  go_wp2
  go_ret
  obtain ⟨s1, s2, s3, s4, s5⟩ := HR.out
  have hw1 : w1.heap.size < (w1.alloc (Obj.cells #[.bool x.rd, .bool x.wt, .int .i64 x.mode, .int .i64 x.size, .slice a1 x.out.length k1, .slice a2 x.inn.length k2, .slice a3 x.back.length k3, .int .i64 x.dir, .bool x.fin, .bool x.bad, .bool x.closed, .iface T v, .slice none 0 0] 100)).heap.size := (Src.new w1 x (.slice a1 x.out.length k1) (.slice a2 x.inn.length k2) (.slice a3 x.back.length k3) (.iface T v) (.slice none 0 0)).lt
  have inP : ∀ k, (w.alloc (Obj.cells #[.bool x.rd, .bool x.wt, .int .i64 x.mode, .int .i64 x.size, .slice oa x.out.length oc, .slice ia x.inn.length ic, .slice ba x.back.length bc, .int .i64 x.dir, .bool x.fin, .bool x.bad, .bool x.closed] 29)).heap.size ≤ k ∧ k < w1.heap.size → (w.heap.size ≤ k ∧ ¬ O k ∧ k ≠ w1.heap.size ∧ k < w2.heap.size) := fun k e => ⟨by omega, fun e2 => by have := hO k e2; omega, by omega, by omega⟩
  have tr : ∀ {u : Value} {l : List UInt8}, w1.ownsRow (w.alloc (Obj.cells #[.bool x.rd, .bool x.wt, .int .i64 x.mode, .int .i64 x.size, .slice oa x.out.length oc, .slice ia x.inn.length ic, .slice ba x.back.length bc, .int .i64 x.dir, .bool x.fin, .bool x.bad, .bool x.closed] 29)).heap.size 5 1 u l.length (l.map bv) → Sl w2 u l := fun q => Sl.turned (Sl.own (owns_below q hBn)) s5 (fun k e _ e2 => by have := (q.lt k e).2; omega)
  have bk : ∀ k, i2.ownBlock = some k ∨ f2.ownBlock = some k → (w.heap.size ≤ k ∧ ¬ O k ∧ k ≠ w1.heap.size ∧ k < w2.heap.size) := fun k e => by
    rcases s4 k e with e | e
    · exact inP k (q2.lt k e)
    · simp [Value.ownBlock] at e
  refine ⟨w1.heap.size, x.parted [], (part x.inn []).2, _, _, _, _, rfl, (wh_parted x []).trans (by unfold SS.wh; simp), ⟨s1, ⟨tr q1, s2, tr q3, fun k e => inP k (q1.lt k e), fun k e => bk k (.inl e), fun k e => inP k (q3.lt k e)⟩, s3, fun k e => bk k (.inr e), (hT s).keep hA (fun j e hj => (s5.block j (by omega) (by omega)).trans ((hBn.block j (by omega)).trans (hB01.block j hj))) (by omega), fun e => by have := hO _ e; omega, hz1, fun j e => by have := hO j e; omega, parted_none x []⟩, (hB01.trans (hBn.mono hz1)).trans (s5.below (B := w.heap.size) (fun k e => by have : k = w1.heap.size := e; omega) (by omega))⟩
end Go.Proofs.Ytmogciopaffccaa

/- Streams: three lists of a state, apart; a state that a call gave, in a variable of its own. -/
namespace Go.Proofs.Ytmogciopaffccaa
open Go.RowKit

end Go.Proofs.Ytmogciopaffccaa

/- Streams: a state of the program's in a call's variable, beside a Raw. -/
namespace Go.Proofs.Ytmogciopaffccaa
open Go.RowKit

end Go.Proofs.Ytmogciopaffccaa
