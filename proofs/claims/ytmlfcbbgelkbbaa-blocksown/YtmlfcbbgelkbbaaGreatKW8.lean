/- What the proof stands on, part 8: the contracts of the program's calls that it reaches. -/
import Derived.Test.YtmlfcbbgelkbbaaGreatKW7
import Derived.Lib.AppendZeros
import Derived.Deep.RegionLaw
import Derived.BigRegion
import Derived.Lib.MinMax
import Derived.Deep.DeepCutAuto
/- Blocks: how many bytes some elements are; what both calls ask first. -/
namespace Go.Proofs.YtmlfcbbgelkbbaaGreat
open Go.RowKit

def bytesV (size count : Int) : Int × Int := if size < 0 ∨ count < 0 then (0, 4) else if 0 < size ∧ (1048576 : Int) / size < count then (0, 4) else (size * count, 0)
theorem bytesV_ok {size count : Int} (h : (bytesV size count).2 = 0) : 0 ≤ size ∧ 0 ≤ count ∧ (bytesV size count).1 = size * count ∧ 0 ≤ size * count ∧ size * count ≤ 1048576 := by
  unfold bytesV at h ⊢
  split at h
  · simp at h
  split at h
  · simp at h
  rename_i h1 h2
  rw [if_neg h1, if_neg h2]
  have h3 : 0 ≤ size := by omega
  have h4 : 0 ≤ count := by omega
  refine ⟨h3, h4, rfl, Int.mul_nonneg h3 h4, ?_⟩
  by_cases h5 : size = 0
  · subst h5; simp
  have h6 : count ≤ (1048576 : Int) / size := by
    rcases Int.lt_or_le ((1048576 : Int) / size) count with h | h
    · exact absurd ⟨by omega, h⟩ h2
    · exact h
  have h7 := Int.mul_le_mul_of_nonneg_left h6 h3
  have h8 := Int.mul_ediv_self_le (x := (1048576 : Int)) (k := size) h5
  omega
theorem ediv_wrap (a b : Int) (h1 : 0 ≤ a) (h2 : a ≤ 9223372036854775807) (h3 : 0 < b) : wrap64 (a / b) = a / b := by
  have h4 : 0 ≤ a / b := Int.ediv_nonneg h1 (by omega)
  have h5 : a / b ≤ a := Int.ediv_le_self b h1
  generalize a / b = q at *
  unfold wrap64
  omega
set_option maxRecDepth 100000 in
set_option maxHeartbeats 1000000 in
theorem bbytes_any (size count : Int) (w : World) : Calls Tryz.prog 126 #[.int .i64 size, .int .i64 count] w fun e w' => e = .returned (.tuple #[.int .i64 (bytesV size count).1, .int .i64 (bytesV size count).2]) ∧ w = w' := by
  by_cases h1 : size < 0
  · have hv : bytesV size count = (0, 4) := by unfold bytesV; rw [if_pos (.inl h1)]
    rw [hv]
    clear hv
    go_enter Tryz.func126, Tryz.ntmps126
    go_wp2
    go_ret2
    exact ⟨rfl, rfl⟩
  by_cases h2 : count < 0
  · have hv : bytesV size count = (0, 4) := by unfold bytesV; rw [if_pos (.inr h2)]
    rw [hv]
    clear hv
    go_enter Tryz.func126, Tryz.ntmps126
    go_wp2
    go_ret2
    exact ⟨rfl, rfl⟩
  have hn : ¬ (size < 0 ∨ count < 0) := by omega
  by_cases h3 : 0 < size
  · have h4 : ¬ size = 0 := by omega
    have h4' : (size == 0) = false := by simp [h4]
    have hq : wrap64 ((1048576 : Int) / size) = (1048576 : Int) / size := ediv_wrap _ _ (by omega) (by omega) h3
    have HD := hide (bytesV_ok (size := size) (count := count))
    by_cases h5 : (1048576 : Int) / size < count
    · have hv : bytesV size count = (0, 4) := by unfold bytesV; rw [if_neg hn, if_pos ⟨h3, h5⟩]
      rw [hv]
      clear hv hn HD
      go_enter Tryz.func126, Tryz.ntmps126
      go_wp2
      go_ret2
      exact ⟨rfl, rfl⟩
    · have hv : bytesV size count = (size * count, 0) := by unfold bytesV; rw [if_neg hn, if_neg (fun e => h5 e.2)]
      have hm := HD.out (by rw [hv])
      have hw : wrap64 (size * count) = size * count := by unfold wrap64; omega
      rw [hv]
      clear hv hn HD hm
      go_enter Tryz.func126, Tryz.ntmps126
      go_wp2
      go_ret2
      exact ⟨rfl, rfl⟩
  · obtain rfl : size = 0 := by omega
    have hv : bytesV 0 count = (0, 0) := by unfold bytesV; rw [if_neg hn, if_neg (by omega)]; simp
    have hw : wrap64 (0 * count) = 0 := by simp [wrap64]
    rw [hv]
    clear hv hn
    go_enter Tryz.func126, Tryz.ntmps126
    go_wp2
    go_ret2
    exact ⟨by first | rfl | simp [hw], rfl⟩
def wholeV (n : Nat) (size : Int) : Int := if n = 0 then 0 else (n : Int) / size
set_option maxRecDepth 100000 in
set_option maxHeartbeats 1000000 in
theorem bwhole_any (n : Nat) (size : Int) (w : World) (h : 0 < n → size ≠ 0) (hn : n ≤ 1048576) (hs : 0 ≤ size): Calls Tryz.prog 130 #[.int .i64 n, .int .i64 size] w fun e w' => e = .returned (.int .i64 (wholeV n size)) ∧ w = w' := by
  by_cases h0 : n = 0
  · have hv : wholeV n size = 0 := by unfold wholeV; rw [if_pos h0]
    rw [hv]
    subst h0
    clear hv
    go_enter Tryz.func130, Tryz.ntmps130
    go_wp2
    go_ret
    exact ⟨rfl, rfl⟩
  · have hv : wholeV n size = (n : Int) / size := by unfold wholeV; rw [if_neg h0]
    have h1 : ¬ size = 0 := h (by omega)
    have h2 : ((n : Int) == 0) = false := by simp [h0]
    have h3 : ¬ (n : Int) = 0 := by omega
    have h1' : (size == 0) = false := by simp [h1]
    have hq : wrap64 ((n : Int) / size) = (n : Int) / size := ediv_wrap _ _ (by omega) (by omega) (by omega)
    rw [hv]
    clear hv h
    go_enter Tryz.func130, Tryz.ntmps130
    go_wp2
    go_ret
    exact ⟨by show Ending.returned (.int .i64 (wrap64 ((n : Int) / size))) = _; rw [hq], rfl⟩
def SS.bwant (x : SS) (hr : Bool) (size count : Int) : Int × Int := if x.refuse hr ≠ 0 then (0, x.refuse hr) else bytesV size count
theorem bwant_may {x : SS} {hr : Bool} {size count : Int} (h : (x.bwant hr size count).2 = 0) : x.refuse hr = 0 ∧ bytesV size count = x.bwant hr size count := by
  unfold SS.bwant at h ⊢
  split at h
  · rename_i h1; exact absurd h h1
  · rename_i h1
    rw [if_neg h1]
    exact ⟨by simpa using h1, rfl⟩
set_option maxRecDepth 100000 in
set_option maxHeartbeats 1000000 in
theorem bwanted_any (x : SS) (oa ia ba : Option Addr) (oc ic bc : Nat) (T : TypeId) (v : Value) (size count : Int) (w : World) (hi : x.inn.length ≤ 140737488351232) (hb : x.back.length ≤ 140737488351232) :
    Calls Tryz.prog 127 #[.agg #[.bool x.rd, .bool x.wt, .int .i64 x.mode, .int .i64 x.size, .slice oa x.out.length oc, .slice ia x.inn.length ic, .slice ba x.back.length bc, .int .i64 x.dir, .bool x.fin, .bool x.bad, .bool x.closed], .iface T v, .int .i64 size, .int .i64 count] w fun e w' => e = .returned (.tuple #[.int .i64 (x.bwant true size count).1, .int .i64 (x.bwant true size count).2]) ∧ Below w.heap.size w w' := by
  have HC := hide (fun W => scheck_any x oa ia ba oc ic bc W hi hb)
  generalize hr : x.bwant true size count = r
  obtain ⟨r1, r2⟩ := r
  unfold SS.bwant SS.refuse at hr
  cases h1 : x.may with
  | false =>
    rw [h1] at HC
    simp only [Bool.false_eq_true, if_false] at HC
    have HR : Hid ((0, 51) = (r1, r2)) := hide (by rw [← hr, h1]; rfl)
    clear hr h1
    go_enter Tryz.func127, Tryz.ntmps127
    go_wp2_with fail
    have HB0 := hide (recv_below w (Obj.cells #[.bool x.rd, .bool x.wt, .int .i64 x.mode, .int .i64 x.size, .slice oa x.out.length oc, .slice ia x.inn.length ic, .slice ba x.back.length bc, .int .i64 x.dir, .bool x.fin, .bool x.bad, .bool x.closed] 58))
    generalize w.alloc (Obj.cells #[.bool x.rd, .bool x.wt, .int .i64 x.mode, .int .i64 x.size, .slice oa x.out.length oc, .slice ia x.inn.length ic, .slice ba x.back.length bc, .int .i64 x.dir, .bool x.fin, .bool x.bad, .bool x.closed] 58) = w0 at *
    refine (HC.out w0).mono ?_
    rintro _ w1 ⟨rfl, hB1⟩
    have HB1 := hide (HB0.out.trans (hB1.mono HB0.out.size))
    clear hB1
    go_wp2
    go_ret2
    obtain ⟨rfl, rfl⟩ := Prod.mk.inj HR.out
    exact ⟨rfl, HB1.out⟩
  | true =>
    rw [h1] at HC
    simp only [if_true] at HC
    rcases Bool.eq_false_or_eq_true x.closed with h2 | h2
    · skip
      have HR : Hid ((0, 113) = (r1, r2)) := hide (by rw [← hr, h1, h2]; rfl)
      have H2 := hide h2
      clear hr h1 h2
      go_enter Tryz.func127, Tryz.ntmps127
      go_wp2_with fail
      have HB0 := hide (recv_below w (Obj.cells #[.bool x.rd, .bool x.wt, .int .i64 x.mode, .int .i64 x.size, .slice oa x.out.length oc, .slice ia x.inn.length ic, .slice ba x.back.length bc, .int .i64 x.dir, .bool x.fin, .bool x.bad, .bool x.closed] 58))
      have HS0 := hide (StAt.new w x (.slice oa x.out.length oc) (.slice ia x.inn.length ic) (.slice ba x.back.length bc))
      generalize w.alloc (Obj.cells #[.bool x.rd, .bool x.wt, .int .i64 x.mode, .int .i64 x.size, .slice oa x.out.length oc, .slice ia x.inn.length ic, .slice ba x.back.length bc, .int .i64 x.dir, .bool x.fin, .bool x.bad, .bool x.closed] 58) = w0 at *
      refine (HC.out w0).mono ?_
      rintro _ w1 ⟨rfl, hB1⟩
      have HS1 := hide (HS0.out.below hB1)
      obtain ⟨-, -, -, -, -, -, -, -, -, -, c10⟩ := HS1.out.cs
      rw [H2.out] at c10
      have HB1 := hide (HB0.out.trans (hB1.mono HB0.out.size))
      clear hB1
      go_wp2
      go_ret2
      obtain ⟨rfl, rfl⟩ := Prod.mk.inj HR.out
      exact ⟨rfl, HB1.out⟩
    · skip
      have HR : Hid (bytesV size count = (r1, r2)) := hide (by rw [← hr, h1, h2]; rfl)
      have H2 := hide h2
      have HBy := hide (fun W => bbytes_any size count W)
      clear hr h1 h2
      go_enter Tryz.func127, Tryz.ntmps127
      go_wp2_with fail
      have HB0 := hide (recv_below w (Obj.cells #[.bool x.rd, .bool x.wt, .int .i64 x.mode, .int .i64 x.size, .slice oa x.out.length oc, .slice ia x.inn.length ic, .slice ba x.back.length bc, .int .i64 x.dir, .bool x.fin, .bool x.bad, .bool x.closed] 58))
      have HS0 := hide (StAt.new w x (.slice oa x.out.length oc) (.slice ia x.inn.length ic) (.slice ba x.back.length bc))
      generalize w.alloc (Obj.cells #[.bool x.rd, .bool x.wt, .int .i64 x.mode, .int .i64 x.size, .slice oa x.out.length oc, .slice ia x.inn.length ic, .slice ba x.back.length bc, .int .i64 x.dir, .bool x.fin, .bool x.bad, .bool x.closed] 58) = w0 at *
      refine (HC.out w0).mono ?_
      rintro _ w1 ⟨rfl, hB1⟩
      have HS1 := hide (HS0.out.below hB1)
      obtain ⟨-, -, -, -, -, -, -, -, -, -, c10⟩ := HS1.out.cs
      rw [H2.out] at c10
      have HB1 := hide (HB0.out.trans (hB1.mono HB0.out.size))
      clear hB1
      generalize bytesV size count = q at *
      go_wp2_with fail
      refine (HBy.out w1).mono ?_
      rintro _ w2 ⟨rfl, rfl⟩
      have HR2 := HR
      obtain ⟨q1, q2⟩ := q
      go_wp2
      go_ret2
      obtain ⟨rfl, rfl⟩ := Prod.mk.inj HR.out
      exact ⟨rfl, HB1.out⟩
set_option maxRecDepth 100000 in
set_option maxHeartbeats 1000000 in
theorem bwanted_nil (x : SS) (oa ia ba : Option Addr) (oc ic bc : Nat) (size count : Int) (w : World) (hi : x.inn.length ≤ 140737488351232) (hb : x.back.length ≤ 140737488351232) :
    Calls Tryz.prog 127 #[.agg #[.bool x.rd, .bool x.wt, .int .i64 x.mode, .int .i64 x.size, .slice oa x.out.length oc, .slice ia x.inn.length ic, .slice ba x.back.length bc, .int .i64 x.dir, .bool x.fin, .bool x.bad, .bool x.closed], .nilIface, .int .i64 size, .int .i64 count] w fun e w' => e = .returned (.tuple #[.int .i64 (x.bwant false size count).1, .int .i64 (x.bwant false size count).2]) ∧ Below w.heap.size w w' := by
  have HC := hide (fun W => scheck_any x oa ia ba oc ic bc W hi hb)
  generalize hr : x.bwant false size count = r
  obtain ⟨r1, r2⟩ := r
  unfold SS.bwant SS.refuse at hr
  cases h1 : x.may with
  | false =>
    rw [h1] at HC
    simp only [Bool.false_eq_true, if_false] at HC
    have HR : Hid ((0, 51) = (r1, r2)) := hide (by rw [← hr, h1]; rfl)
    clear hr h1
    go_enter Tryz.func127, Tryz.ntmps127
    go_wp2_with fail
    have HB0 := hide (recv_below w (Obj.cells #[.bool x.rd, .bool x.wt, .int .i64 x.mode, .int .i64 x.size, .slice oa x.out.length oc, .slice ia x.inn.length ic, .slice ba x.back.length bc, .int .i64 x.dir, .bool x.fin, .bool x.bad, .bool x.closed] 58))
    generalize w.alloc (Obj.cells #[.bool x.rd, .bool x.wt, .int .i64 x.mode, .int .i64 x.size, .slice oa x.out.length oc, .slice ia x.inn.length ic, .slice ba x.back.length bc, .int .i64 x.dir, .bool x.fin, .bool x.bad, .bool x.closed] 58) = w0 at *
    refine (HC.out w0).mono ?_
    rintro _ w1 ⟨rfl, hB1⟩
    have HB1 := hide (HB0.out.trans (hB1.mono HB0.out.size))
    clear hB1
    go_wp2
    go_ret2
    obtain ⟨rfl, rfl⟩ := Prod.mk.inj HR.out
    exact ⟨rfl, HB1.out⟩
  | true =>
    rw [h1] at HC
    simp only [if_true] at HC
    have HR : Hid ((0, 2) = (r1, r2)) := hide (by rw [← hr, h1]; rfl)
    clear hr h1
    go_enter Tryz.func127, Tryz.ntmps127
    go_wp2_with fail
    have HB0 := hide (recv_below w (Obj.cells #[.bool x.rd, .bool x.wt, .int .i64 x.mode, .int .i64 x.size, .slice oa x.out.length oc, .slice ia x.inn.length ic, .slice ba x.back.length bc, .int .i64 x.dir, .bool x.fin, .bool x.bad, .bool x.closed] 58))
    have HS0 := hide (StAt.new w x (.slice oa x.out.length oc) (.slice ia x.inn.length ic) (.slice ba x.back.length bc))
    generalize w.alloc (Obj.cells #[.bool x.rd, .bool x.wt, .int .i64 x.mode, .int .i64 x.size, .slice oa x.out.length oc, .slice ia x.inn.length ic, .slice ba x.back.length bc, .int .i64 x.dir, .bool x.fin, .bool x.bad, .bool x.closed] 58) = w0 at *
    refine (HC.out w0).mono ?_
    rintro _ w1 ⟨rfl, hB1⟩
    have HS1 := hide (HS0.out.below hB1)

    have HB1 := hide (HB0.out.trans (hB1.mono HB0.out.size))
    clear hB1
    go_wp2
    go_ret2
    obtain ⟨rfl, rfl⟩ := Prod.mk.inj HR.out
    exact ⟨rfl, HB1.out⟩
end Go.Proofs.YtmlfcbbgelkbbaaGreat

/- Lines: slices.Concat of two. -/
namespace Go.Proofs.YtmlfcbbgelkbbaaGreat
open Go.RowKit

end Go.Proofs.YtmlfcbbgelkbbaaGreat

/- Lines: a copy of a state, its lists apart. -/
namespace Go.Proofs.YtmlfcbbgelkbbaaGreat
open Go.RowKit

end Go.Proofs.YtmlfcbbgelkbbaaGreat

/- Lines: a source: a state on its way, most of what was read apart; in memory. -/
namespace Go.Proofs.YtmlfcbbgelkbbaaGreat
open Go.RowKit

theorem slNone {W W' : World} {v : Value} (h : Sl W v []) : Sl W' v [] := by
  obtain ⟨a, c, rfl, hb, hc⟩ := h
  refine ⟨a, c, rfl, ?_, hc⟩
  rcases hb with ⟨e, -⟩ | ⟨a', c', e, -⟩ | ⟨_, _, _, _, h0, _⟩
  · exact .inl ⟨e, rfl⟩
  · exact .inr (.inl ⟨a', c', e, rfl⟩)
  · simp at h0
theorem Sl.zero {W : World} {a : Addr} {c : Nat} : Sl W (.slice (some a) 0 c) [] := ⟨_, _, rfl, .inr (.inl ⟨_, _, rfl, rfl⟩), Nat.zero_le _⟩
end Go.Proofs.YtmlfcbbgelkbbaaGreat

/- Lines: whether it is enough; a source that other blocks leave alone. -/
namespace Go.Proofs.YtmlfcbbgelkbbaaGreat
open Go.RowKit
def OffS (k : Nat) (O : Nat → Prop) (g : Nat) (o i b f : Value) : Prop := ¬ O k ∧ k ≠ g ∧ o.ownBlock ≠ some k ∧ i.ownBlock ≠ some k ∧ b.ownBlock ≠ some k ∧ f.ownBlock ≠ some k
theorem bear_down {S : Type} {D : RawD S} {rok wok : S → Prop} {G : Nat → S → Prop} (hG : Bears D rok wok G) : ∀ a b s, G (a + b) s → G b s
  | 0, b, s, h => by rwa [Nat.zero_add] at h
  | a + 1, b, s, h => bear_down hG a b s (hG.less _ s (by rwa [show a + 1 + b = a + b + 1 by omega] at h))
end Go.Proofs.YtmlfcbbgelkbbaaGreat

/- Blocks: a copy of a state, its lists apart. -/
namespace Go.Proofs.YtmlfcbbgelkbbaaGreat
open Go.RowKit

set_option maxRecDepth 100000 in
set_option maxHeartbeats 40000000 in
theorem kcopied_any (x : SS) (o i b : Value) (P : Nat → Prop) (w : World) (h : SIn w P x o i b) (ho : x.out.length ≤ 140737488351232) (hi : x.inn.length ≤ 140737488351232) (hb : x.back.length ≤ 140737488351232) :
    Calls Tryz.prog 128 #[.agg #[.bool x.rd, .bool x.wt, .int .i64 x.mode, .int .i64 x.size, o, i, b, .int .i64 x.dir, .bool x.fin, .bool x.bad, .bool x.closed]] w fun e w' => ∃ o' i' b', e = .returned (.agg #[.bool x.rd, .bool x.wt, .int .i64 x.mode, .int .i64 x.size, o', i', b', .int .i64 x.dir, .bool x.fin, .bool x.bad, .bool x.closed]) ∧ w'.ownsRow w.heap.size 5 1 o' x.out.length (x.out.map bv) ∧ w'.ownsRow w.heap.size 5 1 i' x.inn.length (x.inn.map bv) ∧ w'.ownsRow w.heap.size 5 1 b' x.back.length (x.back.map bv) ∧ Below w.heap.size w w' ∧ Ap3 o' i' b' := by
  have HC1 := hide (fun W (hB : Below w.heap.size w W) => bclone_any o x.out W ((h.so.turned (Turned.of_below (S := fun _ => False) hB) (fun _ _ _ => id)).choose_spec.choose_spec.2.1) ho)
  have HC2 := hide (fun W (hB : Below w.heap.size w W) => bclone_any i x.inn W ((h.si.turned (Turned.of_below (S := fun _ => False) hB) (fun _ _ _ => id)).choose_spec.choose_spec.2.1) hi)
  have HC3 := hide (fun W (hB : Below w.heap.size w W) => bclone_any b x.back W ((h.sb.turned (Turned.of_below (S := fun _ => False) hB) (fun _ _ _ => id)).choose_spec.choose_spec.2.1) hb)
  obtain ⟨oa, oc, rfl, -⟩ := h.so
  obtain ⟨ia, ic, rfl, -⟩ := h.si
  obtain ⟨ba, bc, rfl, -⟩ := h.sb
  clear h
  go_enter Tryz.func128, Tryz.ntmps128
  go_wp2_with fail
  have HB0 := hide ((recv_below w (Obj.cells #[.bool x.rd, .bool x.wt, .int .i64 x.mode, .int .i64 x.size, .slice oa x.out.length oc, .slice ia x.inn.length ic, .slice ba x.back.length bc, .int .i64 x.dir, .bool x.fin, .bool x.bad, .bool x.closed] 58)).trans ((recv_below (w.alloc (Obj.cells #[.bool x.rd, .bool x.wt, .int .i64 x.mode, .int .i64 x.size, .slice oa x.out.length oc, .slice ia x.inn.length ic, .slice ba x.back.length bc, .int .i64 x.dir, .bool x.fin, .bool x.bad, .bool x.closed] 58)) (Obj.cells #[.bool false, .bool false, .int .i64 0, .int .i64 0, .slice none 0 0, .slice none 0 0, .slice none 0 0, .int .i64 0, .bool false, .bool false, .bool false] 58)).mono (recv_below w (Obj.cells #[.bool x.rd, .bool x.wt, .int .i64 x.mode, .int .i64 x.size, .slice oa x.out.length oc, .slice ia x.inn.length ic, .slice ba x.back.length bc, .int .i64 x.dir, .bool x.fin, .bool x.bad, .bool x.closed] 58)).size))
  have HS0 := hide ((StAt.new w x (.slice oa x.out.length oc) (.slice ia x.inn.length ic) (.slice ba x.back.length bc)).below (recv_below _ (Obj.cells #[.bool false, .bool false, .int .i64 0, .int .i64 0, .slice none 0 0, .slice none 0 0, .slice none 0 0, .int .i64 0, .bool false, .bool false, .bool false] 58)))
  have HZ0 : Hid (((w.alloc (Obj.cells #[.bool x.rd, .bool x.wt, .int .i64 x.mode, .int .i64 x.size, .slice oa x.out.length oc, .slice ia x.inn.length ic, .slice ba x.back.length bc, .int .i64 x.dir, .bool x.fin, .bool x.bad, .bool x.closed] 58)).alloc (Obj.cells #[.bool false, .bool false, .int .i64 0, .int .i64 0, .slice none 0 0, .slice none 0 0, .slice none 0 0, .int .i64 0, .bool false, .bool false, .bool false] 58)).heap[w.heap.size + 1]? = some (Obj.cells #[.bool false, .bool false, .int .i64 0, .int .i64 0, .slice none 0 0, .slice none 0 0, .slice none 0 0, .int .i64 0, .bool false, .bool false, .bool false] 58)) := hide (by have := heap_alloc_new (w.alloc (Obj.cells #[.bool x.rd, .bool x.wt, .int .i64 x.mode, .int .i64 x.size, .slice oa x.out.length oc, .slice ia x.inn.length ic, .slice ba x.back.length bc, .int .i64 x.dir, .bool x.fin, .bool x.bad, .bool x.closed] 58)) (Obj.cells #[.bool false, .bool false, .int .i64 0, .int .i64 0, .slice none 0 0, .slice none 0 0, .slice none 0 0, .int .i64 0, .bool false, .bool false, .bool false] 58); rw [show (w.alloc (Obj.cells #[.bool x.rd, .bool x.wt, .int .i64 x.mode, .int .i64 x.size, .slice oa x.out.length oc, .slice ia x.inn.length ic, .slice ba x.back.length bc, .int .i64 x.dir, .bool x.fin, .bool x.bad, .bool x.closed] 58)).heap.size = w.heap.size + 1 from Array.size_push ..] at this; exact this)
  generalize (w.alloc (Obj.cells #[.bool x.rd, .bool x.wt, .int .i64 x.mode, .int .i64 x.size, .slice oa x.out.length oc, .slice ia x.inn.length ic, .slice ba x.back.length bc, .int .i64 x.dir, .bool x.fin, .bool x.bad, .bool x.closed] 58)).alloc (Obj.cells #[.bool false, .bool false, .int .i64 0, .int .i64 0, .slice none 0 0, .slice none 0 0, .slice none 0 0, .int .i64 0, .bool false, .bool false, .bool false] 58) = w0 at *
  have hz0 : w.heap.size + 1 < w0.heap.size := (Array.getElem?_eq_some_iff.1 HZ0.out).1
  obtain ⟨-, -, -, -, c4, c5, c6, -⟩ := HS0.out.cs
  go_region_law (first
    | (go_simp; go_at_call 193; have := HB2; refine (HC3.out _ HB2.out).mono ?_; rintro _ w3 ⟨u3, rfl, hO3, hB3⟩; obtain ⟨a3, k3, rfl⟩ := owns_slice hO3; have HS3 := hide (HS2.out.below hB3); have HZ3 := hide ((hB3.block (w.heap.size + 1) (Array.getElem?_eq_some_iff.1 HZ2.out).1).trans HZ2.out); have HB3 := hide (HB2.out.trans (hB3.mono HB2.out.size)); have HO3 := hide (And.intro (And.intro (owns_below HO2.out.1 hB3) (owns_below HO2.out.2 hB3)) hO3); clear hO3 hB3; obtain ⟨f0, f1, f2, f3, f4, f5, f6, f7, f8, f9, f10⟩ := HS3.out.cs; have g4 := frozen_of_row w3 w.heap.size 4 _ _ HS3.out; have g5 := frozen_of_row w3 w.heap.size 5 _ _ HS3.out; have g6 := frozen_of_row w3 w.heap.size 6 _ _ HS3.out)
    | (go_simp; go_at_call 193; have := HB1; refine (HC2.out _ HB1.out).mono ?_; rintro _ w2 ⟨u2, rfl, hO2, hB2⟩; obtain ⟨a2, k2, rfl⟩ := owns_slice hO2; have HS2 := hide (HS1.out.below hB2); have HZ2 := hide ((hB2.block (w.heap.size + 1) (Array.getElem?_eq_some_iff.1 HZ1.out).1).trans HZ1.out); have HB2 := hide (HB1.out.trans (hB2.mono HB1.out.size)); have hs2 := hB2.size; have HO2 := hide (And.intro (owns_below HO1.out hB2) hO2); clear hO2 hB2; obtain ⟨-, -, -, -, e4, e5, e6, -⟩ := HS2.out.cs)
    | (go_simp; go_at_call 193; refine (HC1.out _ (by exact HB0.out.drew)).mono ?_; rintro _ w1 ⟨u1, rfl, hO1, hB1⟩; obtain ⟨a1, k1, rfl⟩ := owns_slice hO1; have HS1 := hide (HS0.out.below ((Below.refl _ _).drew.trans hB1)); have HZ1 := hide ((hB1.block (w.heap.size + 1) (Array.getElem?_eq_some_iff.1 HZ0.out).1).trans HZ0.out); have HB1 := hide (HB0.out.trans (((Below.refl _ _).drew.trans hB1).mono HB0.out.size)); have hs1 : w0.heap.size ≤ w1.heap.size := hB1.size; have HO1 := hide hO1; clear hO1 hB1; obtain ⟨-, -, -, -, d4, d5, d6, -⟩ := HS1.out.cs)
    | fail)
  all_goals
    have e4 := Go.heap_setCell_same w3 w.heap.size 4 _ _ (.slice a1 x.out.length k1) HS3.out
    have e5 := Go.heap_setCell_same _ w.heap.size 5 _ _ (.slice a2 x.inn.length k2) e4
    have e6 := Go.heap_setCell_same _ w.heap.size 6 _ _ (.slice a3 x.back.length k3) e5
    have HS4 : Hid (StAt (((w3.setCell ⟨w.heap.size, 4, none⟩ (.slice a1 x.out.length k1)).setCell ⟨w.heap.size, 5, none⟩ (.slice a2 x.inn.length k2)).setCell ⟨w.heap.size, 6, none⟩ (.slice a3 x.back.length k3)) w.heap.size x (.slice a1 x.out.length k1) (.slice a2 x.inn.length k2) (.slice a3 x.back.length k3)) := hide e6
    have HT4 : Hid (Turned (fun k => k = w.heap.size) w3 (((w3.setCell ⟨w.heap.size, 4, none⟩ (.slice a1 x.out.length k1)).setCell ⟨w.heap.size, 5, none⟩ (.slice a2 x.inn.length k2)).setCell ⟨w.heap.size, 6, none⟩ (.slice a3 x.back.length k3))) := hide ((((Turned.refl (fun k => k = w.heap.size) w3).set (.inl rfl)).set (.inl rfl)).set (.inl rfl))
    clear e4 e5 e6 f0 f1 f2 f3 f4 f5 f6 f7 f8 f9 f10 g4 g5 g6 c4 c5 c6 d4 d5 d6 HS0 HS1 HS2 HS3 HZ0 HZ1 HZ2 HC1 HC2 HC3
    generalize ((w3.setCell ⟨w.heap.size, 4, none⟩ (.slice a1 x.out.length k1)).setCell ⟨w.heap.size, 5, none⟩ (.slice a2 x.inn.length k2)).setCell ⟨w.heap.size, 6, none⟩ (.slice a3 x.back.length k3) = w4 at *
    have HZ4 := hide ((HT4.out.block (w.heap.size + 1) (Array.getElem?_eq_some_iff.1 HZ3.out).1 (by omega)).trans HZ3.out)
    obtain ⟨f0, f1, f2, f3, f4, f5, f6, f7, f8, f9, f10⟩ := HS4.out.cs
    have z0 := cell_of_row w4 (w.heap.size + 1) 0 _ _ _ HZ4.out
    have z1 := cell_of_row w4 (w.heap.size + 1) 1 _ _ _ HZ4.out
    have z2 := cell_of_row w4 (w.heap.size + 1) 2 _ _ _ HZ4.out
    have z3 := cell_of_row w4 (w.heap.size + 1) 3 _ _ _ HZ4.out
    have z4 := cell_of_row w4 (w.heap.size + 1) 4 _ _ _ HZ4.out
    have z5 := cell_of_row w4 (w.heap.size + 1) 5 _ _ _ HZ4.out
    have z6 := cell_of_row w4 (w.heap.size + 1) 6 _ _ _ HZ4.out
    have z7 := cell_of_row w4 (w.heap.size + 1) 7 _ _ _ HZ4.out
    have z8 := cell_of_row w4 (w.heap.size + 1) 8 _ _ _ HZ4.out
    have z9 := cell_of_row w4 (w.heap.size + 1) 9 _ _ _ HZ4.out
    have z10 := cell_of_row w4 (w.heap.size + 1) 10 _ _ _ HZ4.out
    have y0 := frozen_of_row w4 (w.heap.size + 1) 0 _ _ HZ4.out
    have y1 := frozen_of_row w4 (w.heap.size + 1) 1 _ _ HZ4.out
    have y2 := frozen_of_row w4 (w.heap.size + 1) 2 _ _ HZ4.out
    have y3 := frozen_of_row w4 (w.heap.size + 1) 3 _ _ HZ4.out
    have y4 := frozen_of_row w4 (w.heap.size + 1) 4 _ _ HZ4.out
    have y5 := frozen_of_row w4 (w.heap.size + 1) 5 _ _ HZ4.out
    have y6 := frozen_of_row w4 (w.heap.size + 1) 6 _ _ HZ4.out
    have y7 := frozen_of_row w4 (w.heap.size + 1) 7 _ _ HZ4.out
    have y8 := frozen_of_row w4 (w.heap.size + 1) 8 _ _ HZ4.out
    have y9 := frozen_of_row w4 (w.heap.size + 1) 9 _ _ HZ4.out
    have y10 := frozen_of_row w4 (w.heap.size + 1) 10 _ _ HZ4.out
    simp at z0 z1 z2 z3 z4 z5 z6 z7 z8 z9 z10
    go_wp2
    obtain ⟨e1, e2⟩ := st_fill w4 (w.heap.size + 1) x (.slice a1 x.out.length k1) (.slice a2 x.inn.length k2) (.slice a3 x.back.length k3) HZ4.out
    have HTw := hide ((HT4.out.mono fun k e => (.inl e : k = w.heap.size ∨ k = w.heap.size + 1)).trans (e2.mono fun k e => (.inr e : k = w.heap.size ∨ k = w.heap.size + 1)) (fun _ _ e => e))
    refine bodyPost_ret (results_cell_row rfl _ _ (w.heap.size + 1) _ _ _ _ rfl e1 Tryz.underlying58 rfl (by kernel_rfl)) rfl ?_
    have far : ∀ k, w.heap.size + 1 < k → ¬ (k = w.heap.size ∨ k = w.heap.size + 1) := fun k h e => by omega
    have hr1 := HO3.out.1.1
    have hr2 := HO3.out.1.2
    have hr3 := HO3.out.2
    have hs0 : w.heap.size + 1 < w0.drew.heap.size := hz0
    exact ⟨_, _, _, rfl, owns_mono (owns_turned hr1 HTw.out (fun k e => far k (by have := (hr1.lt k e).1; omega))) (by omega), owns_mono (owns_turned hr2 HTw.out (fun k e => far k (by have := (hr2.lt k e).1; omega))) (by omega), owns_mono (owns_turned hr3 HTw.out (fun k e => far k (by have := (hr3.lt k e).1; omega))) (by omega), (HTw.out.below (B := w.heap.size) (fun k e => by omega) HB3.out.size) |> HB3.out.trans, fun k e => ⟨fun e' => by have := (HO1.out.lt k e).2; have := (HO2.out.2.lt k e').1; omega, fun e' => by have := (HO1.out.lt k e).2; have := (HO3.out.2.lt k e').1; omega⟩, fun k e e' => by have := (HO2.out.2.lt k e).2; have := (HO3.out.2.lt k e').1; omega⟩
end Go.Proofs.YtmlfcbbgelkbbaaGreat

/- Blocks: a source: a state on its way, what was read stands apart; in memory. -/
namespace Go.Proofs.YtmlfcbbgelkbbaaGreat
open Go.RowKit

theorem Sl.cut1 {W : World} {q o c : Nat} {l : List UInt8} {n : Nat} (h : Sl W (.slice (some ⟨q, o, none⟩) n c) l) (hn : 0 < n) : ∃ ch t, l = ch :: t ∧ n = t.length + 1 ∧ W.cell? ⟨q, o, none⟩ = some (.int .u8 (ch.toNat : Int)) ∧ Sl W (.slice (some ⟨q, o + 1, none⟩) (n - 1) (c - 1)) t ∧ n ≤ c := by
  obtain ⟨a2, c2, e, hb, hc⟩ := h
  have hnl : n = l.length := by cases e; rfl
  subst hnl
  cases l with
  | nil => simp at hn
  | cons ch t =>
    obtain ⟨-, qb, qo, e2, -, hcell⟩ := bys_block hb (by simp)
    cases e2
    cases e
    have h0 := hcell 0 (by simp)
    have h1 := bys_cut hb 1 t.length (c - 1) (by simp only [List.length_cons]; omega)
    rw [List.drop_succ_cons, List.drop_zero, List.take_length] at h1
    exact ⟨ch, t, rfl, rfl, h0, ⟨_, _, rfl, h1, by simp only [List.length_cons] at hc; omega⟩, hc⟩
def BSrc (W : World) (g : Nat) (x : SS) (o i b r f : Value) : Prop := W.heap[g]? = some (.cells #[.bool x.rd, .bool x.wt, .int .i64 x.mode, .int .i64 x.size, o, i, b, .int .i64 x.dir, .bool x.fin, .bool x.bad, .bool x.closed, r, f] 324)
theorem BSrc.cs {W : World} {g : Nat} {x : SS} {o i b r f : Value} (h : BSrc W g x o i b r f) : W.cell? ⟨g, 0, none⟩ = some (.bool x.rd) ∧ W.cell? ⟨g, 1, none⟩ = some (.bool x.wt) ∧ W.cell? ⟨g, 2, none⟩ = some (.int .i64 x.mode) ∧ W.cell? ⟨g, 3, none⟩ = some (.int .i64 x.size) ∧ W.cell? ⟨g, 4, none⟩ = some (o) ∧ W.cell? ⟨g, 5, none⟩ = some (i) ∧ W.cell? ⟨g, 6, none⟩ = some (b) ∧ W.cell? ⟨g, 7, none⟩ = some (.int .i64 x.dir) ∧ W.cell? ⟨g, 8, none⟩ = some (.bool x.fin) ∧ W.cell? ⟨g, 9, none⟩ = some (.bool x.bad) ∧ W.cell? ⟨g, 10, none⟩ = some (.bool x.closed) ∧ W.cell? ⟨g, 11, none⟩ = some (r) ∧ W.cell? ⟨g, 12, none⟩ = some (f) :=
  ⟨cell_of_row W g 0 _ _ _ h, cell_of_row W g 1 _ _ _ h, cell_of_row W g 2 _ _ _ h, cell_of_row W g 3 _ _ _ h, cell_of_row W g 4 _ _ _ h, cell_of_row W g 5 _ _ _ h, cell_of_row W g 6 _ _ _ h, cell_of_row W g 7 _ _ _ h, cell_of_row W g 8 _ _ _ h, cell_of_row W g 9 _ _ _ h, cell_of_row W g 10 _ _ _ h, cell_of_row W g 11 _ _ _ h, cell_of_row W g 12 _ _ _ h⟩
theorem BSrc.lt {W : World} {g : Nat} {x : SS} {o i b r f : Value} (h : BSrc W g x o i b r f) : g < W.heap.size := (Array.getElem?_eq_some_iff.1 h).1
theorem BSrc.soft {W : World} {g : Nat} {x : SS} {o i b r f : Value} (h : BSrc W g x o i b r f) (j : Nat) : W.frozen? ⟨g, j, none⟩ = false := frozen_of_row W g j _ _ h
theorem BSrc.set {W : World} {g : Nat} {x x' : SS} {o i b o' i' b' r r' f f' : Value} (h : BSrc W g x o i b r f) (j : Nat) (u : Value) (hl : ([.bool x.rd, .bool x.wt, .int .i64 x.mode, .int .i64 x.size, o, i, b, .int .i64 x.dir, .bool x.fin, .bool x.bad, .bool x.closed, r, f] : List Value).set j u = [.bool x'.rd, .bool x'.wt, .int .i64 x'.mode, .int .i64 x'.size, o', i', b', .int .i64 x'.dir, .bool x'.fin, .bool x'.bad, .bool x'.closed, r', f']) : BSrc (W.setCell ⟨g, j, none⟩ u) g x' o' i' b' r' f' := by
  have := Go.heap_setCell_same W g j _ _ u h
  unfold BSrc
  rw [this]
  simp only [List.setIfInBounds_toArray, hl]
theorem BSrc.below {W W' : World} {g : Nat} {x : SS} {o i b r f : Value} (h : BSrc W g x o i b r f) (hB : Below W.heap.size W W') : BSrc W' g x o i b r f := (hB.block g h.lt).trans h
theorem BSrc.turned {P : Nat → Prop} {W W' : World} {g : Nat} {x : SS} {o i b r f : Value} (h : BSrc W g x o i b r f) (hT : Turned P W W') (hg : ¬ P g) : BSrc W' g x o i b r f := (hT.block g h.lt hg).trans h
theorem BSrc.two {W : World} {g : Nat} {x : SS} {o i b r f : Value} (h : BSrc W g x o i b r f) (n : List UInt8) (i' f' : Value) : BSrc ((W.setCell ⟨g, 5, none⟩ i').setCell ⟨g, 12, none⟩ f') g (x.near n) o i' b r f' := BSrc.set (x := x.near n) (BSrc.set (x' := x.near n) h 5 i' rfl) 12 f' rfl
theorem BSrc.one {W : World} {g : Nat} {x : SS} {o i b r f : Value} (h : BSrc W g x o i b r f) (f' : Value) : BSrc (W.setCell ⟨g, 12, none⟩ f') g x o i b r f' := BSrc.set h 12 f' rfl
theorem BSrc.fill {w : World} {g : Nat} {y : SS} {o0 i0 b0 r f : Value} (h : BSrc w g y o0 i0 b0 r f) (x : SS) (o i b : Value) : BSrc (filled w g x o i b) g x o i b r f ∧ Turned (fun k => k = g) w (filled w g x o i b) := by
  have e0 := Go.heap_setCell_same _ g 0 _ _ (.bool x.rd) h
  simp only [List.setIfInBounds_toArray, List.set_cons_zero] at e0
  have e1 := Go.heap_setCell_same _ g 1 _ _ (.bool x.wt) e0
  simp only [List.setIfInBounds_toArray, List.set_cons_zero, List.set_cons_succ] at e1
  have e2 := Go.heap_setCell_same _ g 2 _ _ (.int .i64 x.mode) e1
  simp only [List.setIfInBounds_toArray, List.set_cons_zero, List.set_cons_succ] at e2
  have e3 := Go.heap_setCell_same _ g 3 _ _ (.int .i64 x.size) e2
  simp only [List.setIfInBounds_toArray, List.set_cons_zero, List.set_cons_succ] at e3
  have e4 := Go.heap_setCell_same _ g 4 _ _ (o) e3
  simp only [List.setIfInBounds_toArray, List.set_cons_zero, List.set_cons_succ] at e4
  have e5 := Go.heap_setCell_same _ g 5 _ _ (i) e4
  simp only [List.setIfInBounds_toArray, List.set_cons_zero, List.set_cons_succ] at e5
  have e6 := Go.heap_setCell_same _ g 6 _ _ (b) e5
  simp only [List.setIfInBounds_toArray, List.set_cons_zero, List.set_cons_succ] at e6
  have e7 := Go.heap_setCell_same _ g 7 _ _ (.int .i64 x.dir) e6
  simp only [List.setIfInBounds_toArray, List.set_cons_zero, List.set_cons_succ] at e7
  have e8 := Go.heap_setCell_same _ g 8 _ _ (.bool x.fin) e7
  simp only [List.setIfInBounds_toArray, List.set_cons_zero, List.set_cons_succ] at e8
  have e9 := Go.heap_setCell_same _ g 9 _ _ (.bool x.bad) e8
  simp only [List.setIfInBounds_toArray, List.set_cons_zero, List.set_cons_succ] at e9
  have e10 := Go.heap_setCell_same _ g 10 _ _ (.bool x.closed) e9
  simp only [List.setIfInBounds_toArray, List.set_cons_zero, List.set_cons_succ] at e10
  exact ⟨e10, ((((((((((((Turned.refl (fun k => k = g) w).set (.inl rfl)).set (.inl rfl)).set (.inl rfl)).set (.inl rfl)).set (.inl rfl)).set (.inl rfl)).set (.inl rfl)).set (.inl rfl)).set (.inl rfl)).set (.inl rfl)).set (.inl rfl))⟩
structure BSrcOn {S : Type} (At : World → (Nat → Prop) → S → Prop) (W : World) (O : Nat → Prop) (s : S) (B g : Nat) (y : SS) (far : List UInt8) (o i b r f : Value) : Prop where
  src : BSrc W g y o i b r f
  ls : SIn W (fun k => B ≤ k ∧ ¬ O k ∧ k ≠ g ∧ k < W.heap.size) y o i b
  fl : Sl W f far
  fp : ∀ k, f.ownBlock = some k → B ≤ k ∧ ¬ O k ∧ k ≠ g ∧ k < W.heap.size
  raw : At W O s
  og : ¬ O g
  gB : B ≤ g
  ol : ∀ j, O j → j < W.heap.size
  nr : far ≠ [] → y.inn = [] ∧ y.back = []
theorem BSrc.new (w : World) (x : SS) (o i b r f : Value) : BSrc (w.alloc (Obj.cells #[.bool x.rd, .bool x.wt, .int .i64 x.mode, .int .i64 x.size, o, i, b, .int .i64 x.dir, .bool x.fin, .bool x.bad, .bool x.closed, r, f] 324)) w.heap.size x o i b r f := heap_alloc_new w _
theorem BSrcOn.turned {S : Type} {At : World → (Nat → Prop) → S → Prop} (hT : ∀ s, OAt (fun w O => At w O s)) {W W' : World} {Q O : Nat → Prop} {s : S} {B g : Nat} {y : SS} {far : List UInt8} {o i b r f : Value} (h : BSrcOn At W O s B g y far o i b r f) (t : Turned Q W W') (hQ : ∀ k, k < W.heap.size → Q k → OffS k O g o i b f) : BSrcOn At W' O s B g y far o i b r f := by
  have hz := t.size
  refine ⟨h.src.turned t (fun e => (hQ g h.src.lt e).2.1 rfl), ?_, h.fl.turned t (fun k e hk e2 => (hQ k hk e2).2.2.2.2.2 e), fun k e => ?_, (hT s).keep h.raw (fun j e hj => t.block j hj (fun e2 => (hQ j hj e2).1 e)) hz, h.og, h.gB, fun j e => Nat.lt_of_lt_of_le (h.ol j e) hz, h.nr⟩
  · exact ⟨h.ls.so.turned t (fun k e hk e2 => (hQ k hk e2).2.2.1 e), h.ls.si.turned t (fun k e hk e2 => (hQ k hk e2).2.2.2.1 e), h.ls.sb.turned t (fun k e hk e2 => (hQ k hk e2).2.2.2.2.1 e), fun k e => ⟨(h.ls.po k e).1, (h.ls.po k e).2.1, (h.ls.po k e).2.2.1, Nat.lt_of_lt_of_le (h.ls.po k e).2.2.2 hz⟩, fun k e => ⟨(h.ls.pi k e).1, (h.ls.pi k e).2.1, (h.ls.pi k e).2.2.1, Nat.lt_of_lt_of_le (h.ls.pi k e).2.2.2 hz⟩, fun k e => ⟨(h.ls.pb k e).1, (h.ls.pb k e).2.1, (h.ls.pb k e).2.2.1, Nat.lt_of_lt_of_le (h.ls.pb k e).2.2.2 hz⟩⟩
  · exact ⟨(h.fp k e).1, (h.fp k e).2.1, (h.fp k e).2.2.1, Nat.lt_of_lt_of_le (h.fp k e).2.2.2 hz⟩
theorem BSrcOn.below {S : Type} {At : World → (Nat → Prop) → S → Prop} (hT : ∀ s, OAt (fun w O => At w O s)) {W W' : World} {O : Nat → Prop} {s : S} {B g : Nat} {y : SS} {far : List UInt8} {o i b r f : Value} (h : BSrcOn At W O s B g y far o i b r f) (hB : Below W.heap.size W W') : BSrcOn At W' O s B g y far o i b r f := h.turned hT (Turned.of_below (S := fun _ => False) hB) (fun _ _ e => e.elim)
end Go.Proofs.YtmlfcbbgelkbbaaGreat

/- Streams: a state of the program's in a call's variable, beside a Raw. -/
namespace Go.Proofs.YtmlfcbbgelkbbaaGreat
open Go.RowKit

theorem StAt.set {W : World} {g : Nat} {x x' : SS} {o i b o' i' b' : Value} (h : StAt W g x o i b) (j : Nat) (u : Value) (hl : ([.bool x.rd, .bool x.wt, .int .i64 x.mode, .int .i64 x.size, o, i, b, .int .i64 x.dir, .bool x.fin, .bool x.bad, .bool x.closed] : List Value).set j u = [.bool x'.rd, .bool x'.wt, .int .i64 x'.mode, .int .i64 x'.size, o', i', b', .int .i64 x'.dir, .bool x'.fin, .bool x'.bad, .bool x'.closed]) : StAt (W.setCell ⟨g, j, none⟩ u) g x' o' i' b' ∧ Turned (fun k => k = g) W (W.setCell ⟨g, j, none⟩ u) := by
  refine ⟨?_, (Turned.refl (fun k => k = g) W).set (.inl rfl)⟩
  have := Go.heap_setCell_same W g j _ _ u h
  unfold StAt
  rw [this]
  simp only [List.setIfInBounds_toArray, hl]
theorem StAt.turned {P : Nat → Prop} {W W' : World} {g : Nat} {x : SS} {o i b : Value} (h : StAt W g x o i b) (hT : Turned P W W') (hn : ¬ P g) : StAt W' g x o i b := (hT.block g h.lt hn).trans h
end Go.Proofs.YtmlfcbbgelkbbaaGreat

/- Streams: a call's variable takes what another call gave. -/
namespace Go.Proofs.YtmlfcbbgelkbbaaGreat
open Go.RowKit

theorem SIn.nils0 {W : World} {P : Nat → Prop} {x : SS} (h1 : x.out = []) (h2 : x.inn = []) (h3 : x.back = []) : SIn W P x (.slice none 0 0) (.slice none 0 0) (.slice none 0 0) := by
  have hno : ∀ k, (Value.slice none 0 0).ownBlock = some k → False := fun k e => by simp [Value.ownBlock] at e
  exact ⟨h1 ▸ Sl.nil, h2 ▸ Sl.nil, h3 ▸ Sl.nil, fun k e => (hno k e).elim, fun k e => (hno k e).elim, fun k e => (hno k e).elim⟩
end Go.Proofs.YtmlfcbbgelkbbaaGreat

/- Streams: what a call leaves, carried on. -/
namespace Go.Proofs.YtmlfcbbgelkbbaaGreat
open Go.RowKit

theorem SOut.below {S : Type} {At : World → (Nat → Prop) → S → Prop} (hT : ∀ s, OAt (fun w O => At w O s)) {w w2 w3 : World} {O : Nat → Prop} {x x' : SS} {s : S} {o i b : Value} (h : SOut At w O x s o i b w2) (hB : Below w2.heap.size w2 w3) (e1 : x'.out = x.out) (e2 : x'.inn = x.inn) (e3 : x'.back = x.back) : SOut At w O x' s o i b w3 := by
  obtain ⟨O', h1, h2, h3, h4, h5⟩ := h
  have hz := hB.size
  refine ⟨O', ?_, (hT s).keep h2 (fun j _ hj => hB.block j hj) hz, fun j e => Nat.lt_of_lt_of_le (h3 j e) hz, h4, h5.trans (Turned.of_below (S := O) hB) (fun _ _ e => e)⟩
  have h6 := (h1.below hB).mono (Q := fun k => w.heap.size ≤ k ∧ ¬ O' k ∧ k < w3.heap.size) fun k e => ⟨e.1, e.2.1, by have := e.2.2; omega⟩
  exact ⟨by rw [e1]; exact h6.so, by rw [e2]; exact h6.si, by rw [e3]; exact h6.sb, h6.po, h6.pi, h6.pb⟩
end Go.Proofs.YtmlfcbbgelkbbaaGreat
