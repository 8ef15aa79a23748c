/- KernSays answers true for all setups, steps and numbers, within the reach of a machine's memory: a read or write that the kernel says would not wait does not, one that would does, and asking changes nothing. -/
import Derived.Test.YtjnifkngcbaldaaKM11
import Derived.ProofKit
import Derived.OpenShut
import Derived.ShutString
import Derived.ChangeOld
import Derived.Below
import Derived.SizedLaws
/- KernSays: what a read, a write and the questions ahead of them say, as values. No program. -/
namespace Go.Proofs.Ytjnifkngcbaldaa
open Go.RowKit

/-- num. -/
theorem num_kp (x : Int) (w : World) : Calls Try.prog 9 #[.int .i64 x] w fun e w' => e = .returned (.int .i64 x) ∧ w = w' := by
  go_enter Try.func9, Try.ntmps9
  go_wp2
  go_ret
  exact ⟨rfl, rfl⟩

theorem nxt_err {l : List Fault} {want : Int} (h1 : 1 ≤ want) (h2 : want ≤ 1048576) : (nxt l want).2 = 0 ∨ (nxt l want).2 = 22 ∨ (nxt l want).2 = 23 := by
  unfold nxt
  rw [if_neg (by omega)]
  cases l with
  | nil => exact .inl rfl
  | cons f r =>
    simp only
    split
    · exact .inl rfl
    · split
      · exact .inr (.inl rfl)
      · split
        · exact .inr (.inr rfl)
        · exact .inl rfl
theorem inN_of {n : Int} (h1 : 1 ≤ n) (h2 : n ≤ 1048576) : inN n = true := by simp [inN, h1, h2]
theorem read_says {K : KS} {d n : Int} {x : De} (ok : planOk K.plan) (hx : K.find d = some x) (h1 : 1 ≤ n) (h2 : n ≤ 1048576) :
    (fbit x.flags 1 = 0 ∧ (K.read d n).2.1 = 65 ∧ (K.read d n).2.2 = K ∧ K.canRead d = false) ∨
    (fbit x.flags 1 ≠ 0 ∧ (K.read d n).2.1 = 52 ∧ (K.read d n).2.2 = K ∧ K.canRead d = false ∧ (K.tho x).kind = 3) ∨
    (fbit x.flags 1 ≠ 0 ∧ ((K.read d n).2.1 = 0 ∨ (K.read d n).2.1 = 22 ∨ (K.read d n).2.1 = 23) ∧ K.canRead d = true) := by
  by_cases hf : fbit x.flags 1 = 0
  · left
    have e : K.read d n = ([], 65, K) := by unfold KS.read; rw [hx]; simp only; rw [if_pos hf]
    rw [e, KS.canRead_some hx, hf]
    exact ⟨rfl, rfl, rfl, rfl⟩
  · right
    have hb : (!(fbit x.flags 1 == 0)) = true := by simpa using hf
    by_cases hw : (K.tho x).waits = true
    · left
      have e : K.read d n = ([], 52, K) := by
        unfold KS.read; rw [hx]; simp only; rw [if_neg hf, if_neg (by omega), if_neg (by omega), if_pos hw]
      rw [e, KS.canRead_some hx, hb]
      cases ho : K.tho x with
      | file b => rw [ho] at hw; cases hw
      | term ls scr => rw [ho] at hw; cases hw
      | pipe q rd wt =>
        rw [ho] at hw
        exact ⟨hf, rfl, rfl, by simpa [Ob.waits] using hw, rfl⟩
    · right
      have hw' : (K.tho x).waits = false := by simpa using hw
      rw [read_is hx hf h1 h2 hw', KS.canRead_some hx, hb]
      refine ⟨hf, ?_, ?_⟩
      · rcases nxt_err (l := K.plan) h1 h2 with e | e | e
        · rw [if_pos e]
          have hm := nxt_good ok h1 h2 e
          left
          unfold KS.rdx
          rw [show K.readUp.tho x = K.tho x from rfl]
          cases ho : K.tho x with
          | file b => rfl
          | term ls scr =>
            show Te_rdE (nxt K.plan n).1 = 0
            unfold Te_rdE
            rw [if_pos (show rOk (nxt K.plan n).1 = true by unfold rOk; exact decide_eq_true ⟨hm.1, by omega⟩)]
          | pipe q rd wt =>
            show Kp_rdE (nxt K.plan n).1 q.length rd wt = 0
            rw [ho] at hw'
            have hc : canR q.length rd wt = true := by simpa [Ob.waits] using hw'
            unfold Kp_rdE
            rw [inN_of hm.1 (by omega)]
            unfold canR at hc
            simp only [Bool.and_eq_true, decide_eq_true_eq, Bool.not_eq_true', decide_eq_false_iff_not] at hc
            rw [if_neg (by decide), if_neg (by omega), if_neg (by simpa using hc.2)]
        · rw [if_neg (by omega)]; exact .inr (.inl e)
        · rw [if_neg (by omega)]; exact .inr (.inr e)
      · cases ho : K.tho x with
        | file b => rfl
        | term ls scr => rfl
        | pipe q rd wt => rw [ho] at hw'; simpa [Ob.waits] using hw'
theorem find_setDe {K : KS} {d : Int} {x x' : De} (hx : K.find d = some x) (hn : x'.n = x.n) : (K.setDe x').find d = some x' := by
  unfold KS.find KS.setDe at *
  generalize K.de = l at *
  induction l with
  | nil => simp at hx
  | cons y r ih =>
    have hxn := List.find?_some hx
    simp only [decide_eq_true_eq] at hxn
    simp only [List.map_cons, List.find?_cons] at hx ⊢
    by_cases e : y.n = x'.n
    · rw [if_pos e]
      rw [show decide ((x'.n : Int) = d) = true by simpa [hn] using hxn]
    · rw [if_neg e]
      have e2 : decide ((y.n : Int) = d) = false := by
        simp only [decide_eq_false_iff_not]; intro h; apply e; rw [hn]; omega
      rw [e2] at hx ⊢
      exact ih hx
theorem kind_set {K : KS} (j i : Nat) (ob : Ob) (h : ob.kind = (K.obOf i).kind) : ((K.setOb i ob).obOf j).kind = (K.obOf j).kind := by
  by_cases hi : i < K.th.length
  · exact KS.kind_setOb hi (by rw [h, KS.obOf_eq hi]) j
  · have : K.setOb i ob = K := by
      unfold KS.setOb
      rw [List.modify_eq_self (by omega)]
    rw [this]
theorem read_find {K : KS} {d n : Int} {x : De} (hx : K.find d = some x) : ∃ x', (K.read d n).2.2.find d = some x' ∧ x'.flags = x.flags ∧ ((K.read d n).2.2.tho x').kind = (K.tho x).kind := by
  unfold KS.read
  rw [hx]
  simp only
  split
  · exact ⟨x, hx, rfl, rfl⟩
  split
  · exact ⟨x, hx, rfl, rfl⟩
  split
  · exact ⟨x, hx, rfl, rfl⟩
  split
  · exact ⟨x, hx, rfl, rfl⟩
  split
  · cases ho : K.tho x with
    | file b =>
      refine ⟨_, find_setDe (K := K.readUp) (x := x) hx rfl, rfl, ?_⟩
      show (K.tho x).kind = _
      rw [ho]
    | term ls scr =>
      refine ⟨x, hx, rfl, ?_⟩
      show ((K.readUp.setOb x.th _).obOf x.th).kind = _
      rw [kind_set (K := K.readUp) x.th x.th _ (by show _ = (K.tho x).kind; rw [ho]; rfl)]
      show (K.tho x).kind = _
      rw [ho]
    | pipe q rd wt =>
      refine ⟨x, hx, rfl, ?_⟩
      show ((K.readUp.setOb x.th _).obOf x.th).kind = _
      rw [kind_set (K := K.readUp) x.th x.th _ (by show _ = (K.tho x).kind; rw [ho]; rfl)]
      show (K.tho x).kind = _
      rw [ho]
  · exact ⟨x, hx, rfl, rfl⟩
theorem refusal_vals (ob : Ob) (fl : Int) (p : Nat) (n : Int) : refusal ob fl p n = 0 ∨ refusal ob fl p n = 31 ∨ refusal ob fl p n = 53 ∨ refusal ob fl p n = 52 := by
  unfold refusal
  cases ob with
  | file f => simp only; split <;> simp
  | term ls scr => simp only; split <;> simp
  | pipe q rd wt => simp only; split <;> (try split) <;> simp
theorem refusal_soft {ob : Ob} (h : ob.kind ≠ 3) (fl : Int) (p : Nat) (n : Int) : refusal ob fl p n ≠ 52 := by
  unfold refusal
  cases ob with
  | file f => simp only; split <;> decide
  | term ls scr => simp only; split <;> decide
  | pipe q rd wt => exact absurd rfl h
theorem fit_some {n m c : Nat} (h : 0 < fitN n n c) (hm : 1 ≤ m) : fitN n m c ≠ 0 := by
  unfold fitN at h ⊢
  by_cases e : 512 < n
  · rw [if_pos e] at h ⊢; omega
  · rw [if_neg e] at h ⊢; exact Nat.ne_of_gt h
theorem write_says {K : KS} {d : Int} {b : List UInt8} {x : De} (ok : planOk K.plan) (hx : K.find d = some x) (h1 : 1 ≤ b.length) (h2 : b.length ≤ 1048576) :
    (fbit x.flags 2 = 0 ∧ (K.write d b).2.1 = 65) ∨ (fbit x.flags 2 ≠ 0 ∧ refusal (K.tho x) x.flags x.pos b.length = 52 ∧ (K.write d b).2.1 = 52) ∨
    (fbit x.flags 2 ≠ 0 ∧ refusal (K.tho x) x.flags x.pos b.length ≠ 52 ∧ (K.write d b).2.1 ≠ 65 ∧ (K.write d b).2.1 ≠ 52) := by
  by_cases hf : fbit x.flags 2 = 0
  · left
    refine ⟨hf, ?_⟩
    unfold KS.write; rw [hx]; simp only; rw [if_pos hf]
  · right
    have ne : refusal (K.tho x) x.flags x.pos b.length ≠ 0 → (K.write d b).2.1 = refusal (K.tho x) x.flags x.pos b.length := fun hr => by
      unfold KS.write; rw [hx]; simp only; rw [if_neg hf, if_neg (by omega), if_neg (by omega), if_neg hr]
    rcases refusal_vals (K.tho x) x.flags x.pos b.length with e | e | e | e
    · right
      refine ⟨hf, by omega, ?_⟩
      rw [write_is hx hf h1 h2 e]
      have h1' : (1 : Int) ≤ (b.length : Int) := by omega
      have h2' : (b.length : Int) ≤ 1048576 := by omega
      rcases nxt_err (l := K.plan) h1' h2' with e1 | e1 | e1
      · rw [if_pos e1]
        have hm := nxt_good ok h1' h2' e1
        unfold KS.wrx
        rw [show K.writeUp.tho x = K.tho x from rfl]
        cases ho : K.tho x with
        | file f => exact ⟨by simp, by simp⟩
        | term ls scr => exact ⟨by simp, by simp⟩
        | pipe q rd wt =>
          show Kp_wrE b.length (nxt K.plan b.length).1 q.length rd wt ≠ 65 ∧ Kp_wrE b.length (nxt K.plan b.length).1 q.length rd wt ≠ 52
          rw [ho] at e
          unfold refusal at e
          simp only at e
          by_cases hr : rd = 0
          · rw [if_pos hr] at e; cases e
          rw [if_neg hr] at e
          have hc : canW b.length q.length rd wt = true := by
            cases hcw : canW b.length q.length rd wt with
            | true => rfl
            | false => rw [hcw] at e; simp at e
          unfold canW at hc
          simp only [Bool.and_eq_true, decide_eq_true_eq, Bool.or_eq_true, Int.toNat_natCast] at hc
          obtain ⟨_, hwt, hfit⟩ := hc
          have hfit : 0 < fitN b.length b.length q.length := by rcases hfit with h | h <;> omega
          have : fitN b.length (nxt K.plan b.length).1.toNat q.length ≠ 0 := by
            exact fit_some hfit (by omega)
          have hre : refE b.length (nxt K.plan b.length).1 rd wt = 0 := by
            unfold refE
            rw [if_neg (by omega), inN_of hm.1 (by omega), if_neg (by decide), if_neg (by omega), if_neg hr]
          have : Kp_wrE b.length (nxt K.plan b.length).1 q.length rd wt = 0 := by
            unfold Kp_wrE
            rw [if_pos hre, if_neg (by omega), if_neg this]
          omega
      · rw [if_neg (by omega)]
        show (nxt K.plan b.length).2 ≠ 65 ∧ (nxt K.plan b.length).2 ≠ 52
        omega
      · rw [if_neg (by omega)]
        show (nxt K.plan b.length).2 ≠ 65 ∧ (nxt K.plan b.length).2 ≠ 52
        omega
    · right; rw [ne (by omega)]; exact ⟨hf, by omega, by omega, by omega⟩
    · right; rw [ne (by omega)]; exact ⟨hf, by omega, by omega, by omega⟩
    · left; rw [ne (by omega)]; exact ⟨hf, e, e⟩
theorem canWriteP_is {K : KS} {d n : Int} {x : De} (hx : K.find d = some x) (h1 : 1 ≤ n) (h2 : n ≤ 1048576) : K.canWriteP d n = (bit x.flags 2 && !(refusal (K.tho x) x.flags x.pos n == 52)) := by
  unfold KS.canWriteP
  rw [hx]
  simp only
  rw [inN_of h1 h2, Bool.true_and]
theorem kindOf_none {K : KS} {d : Int} (h : K.find d = none) : K.kindOf d = 0 ∧ K.canRead d = false ∧ ∀ n, K.canWriteP d n = false := by
  refine ⟨?_, KS.canRead_none h, fun n => ?_⟩
  · unfold KS.kindOf; rw [h]
  · unfold KS.canWriteP; rw [h]
theorem kindOf_some {K : KS} {d : Int} {x : De} (h : K.find d = some x) : K.kindOf d = (K.tho x).kind ∧ K.kindOf d ≠ 0 := by
  have : K.kindOf d = (K.tho x).kind := by unfold KS.kindOf; rw [h]
  refine ⟨this, ?_⟩
  rw [this]
  cases K.tho x <;> simp [Ob.kind]
/-- A write behind a question and a read: it waits just if the question said so. -/
theorem says_write {K K' : KS} {d n : Int} {x x' : De} {b : List UInt8} (ok' : planOk K'.plan) (hx : K.find d = some x) (hx' : K'.find d = some x') (hfl : x'.flags = x.flags) (hk : (K'.tho x').kind = (K.tho x).kind) (hs : K' = K ∨ (K.tho x).kind ≠ 3) (hn : (b.length : Int) = n) (h1 : 1 ≤ n) (h2 : n ≤ 1048576) :
    ((K'.write d b).2.1 = 65 ∧ K.canWriteP d n = false) ∨ ((K'.write d b).2.1 = 52 ∧ K.canWriteP d n = false) ∨ ((K'.write d b).2.1 ≠ 65 ∧ (K'.write d b).2.1 ≠ 52 ∧ K.canWriteP d n = true) := by
  rw [canWriteP_is hx h1 h2]
  have hsoft : refusal (K'.tho x') x'.flags x'.pos b.length = 52 ↔ refusal (K.tho x) x.flags x.pos n = 52 := by
    rcases hs with rfl | hs
    · rw [hx] at hx'
      cases hx'
      rw [hn]
    · have a := refusal_soft hs x.flags x.pos n
      have b := refusal_soft (ob := K'.tho x') (by rw [hk]; exact hs) x'.flags x'.pos b.length
      exact ⟨fun e => absurd e b, fun e => absurd e a⟩
  rcases write_says (b := b) ok' hx' (by omega) (by omega) with ⟨a1, a2⟩ | ⟨a1, a2, a3⟩ | ⟨a1, a2, a3, a4⟩
  · left; refine ⟨a2, ?_⟩; rw [bit_no (by rw [← hfl]; exact a1)]; rfl
  · right; left; refine ⟨a3, ?_⟩; rw [hsoft.1 a2]; simp
  · right; right
    refine ⟨a3, a4, ?_⟩
    rw [bit_yes (by rw [← hfl]; exact a1)]
    simpa using fun e => a2 (hsoft.2 e)
theorem plan_read {K : KS} (h : planOk K.plan) (d n : Int) : planOk (K.read d n).2.2.plan := by
  unfold KS.read
  split
  · exact h
  split
  · exact h
  split
  · exact h
  split
  · exact h
  split
  · exact h
  split
  · split
    · exact h.tail
    · exact h.tail
    · exact h.tail
  · exact h.tail
end Go.Proofs.Ytjnifkngcbaldaa

/- A law's setup, copied for the program; how far a kernel's numbers go up by a call. -/
namespace Go.Proofs.Ytjnifkngcbaldaa
open Go.RowKit Go.Maps

theorem nms_of_owns {W : World} {B B' : Nat} {v : Value} {l : List Nm} {us : List Value} (h : W.ownsRow B 30 2 v l.length (ncs l us)) (hc : LCells W B' (l.map Prod.snd) us) (hs : ∀ j (hj : j < l.length), l[j].1.size ≤ maxLen) : Nms W v l := by
  have hl : us.length = l.length := by have := hc.1; simpa using this
  rcases h.2 with ⟨rfl, h0⟩ | ⟨g, cap, cur, rfl, _, _, hcap, _⟩
  · rw [List.length_eq_zero_iff.1 h0]
    exact ⟨_, _, rfl, Nat.le_refl _, fun h => absurd h (by decide)⟩
  · refine ⟨_, cap, rfl, hcap, fun _ => ⟨g, 0, rfl, fun j hj => ?_⟩⟩
    obtain ⟨u, h1, h2⟩ := hc.2.1 j (by simpa using hj)
    simp only [List.getElem_map] at h2
    obtain ⟨e1, e2⟩ := ncs_get l us j hj hl
    have hcp := h2.2
    obtain ⟨a, c, rfl⟩ := owns_slice h2
    refine ⟨a, c, by rw [Nat.zero_add, h.cellAt (j * 2) (by omega)]; exact e1, by rw [Nat.zero_add, h.cellAt (j * 2 + 1) (by omega), e2]; exact h1, Bys.of_owns h2, ?_, hs j hj⟩
    rcases hcp with ⟨e, e'⟩ | ⟨_, _, _, e, _, _, e', _⟩
    · simp only [Value.slice.injEq] at e; omega
    · simp only [Value.slice.injEq] at e; omega
theorem tps_of_owns {W : World} {B B' : Nat} {v : Value} {l : List Tp} {us : List Value} (h : W.ownsRow B 78 2 v l.length (ncs l us)) (hl : us.length = l.length) (hc : ∀ j (hj : j < l.length), ∃ u, us[j]? = some u ∧ TC W B' l[j].2 u) (hs : ∀ j (hj : j < l.length), l[j].1.size ≤ maxLen) : Tps W v l := by
  rcases h.2 with ⟨rfl, h0⟩ | ⟨g, cap, cur, rfl, _, _, hcap, _⟩
  · rw [List.length_eq_zero_iff.1 h0]
    exact ⟨_, _, rfl, Nat.le_refl _, fun h => absurd h (by decide)⟩
  · refine ⟨_, cap, rfl, hcap, fun _ => ⟨g, 0, rfl, fun j hj => ?_⟩⟩
    obtain ⟨u, h1, xs, h2, h3⟩ := hc j hj
    obtain ⟨e1, e2⟩ := ncs_get l us j hj hl
    have hL := h3.lns rfl h2
    obtain ⟨a, c, rfl⟩ := owns_slice h2
    exact ⟨a, c, by rw [Nat.zero_add, h.cellAt (j * 2) (by omega)]; exact e1, by rw [Nat.zero_add, h.cellAt (j * 2 + 1) (by omega), e2]; exact h1, hL, hs j hj⟩
theorem nms_sizes {W : World} {v : Value} {l : List Nm} (h : Nms W v l) : ∀ j (hj : j < l.length), l[j].1.size ≤ maxLen := fun j hj => by
  obtain ⟨a, c, rfl, _, hd⟩ := h
  obtain ⟨b, off, _, hd⟩ := hd (by omega)
  obtain ⟨_, _, _, _, _, _, e⟩ := hd j hj
  exact e
theorem tps_sizes {W : World} {v : Value} {l : List Tp} (h : Tps W v l) : ∀ j (hj : j < l.length), l[j].1.size ≤ maxLen := fun j hj => by
  obtain ⟨a, c, rfl, _, hd⟩ := h
  obtain ⟨b, off, _, hd⟩ := hd (by omega)
  obtain ⟨_, _, _, _, _, e⟩ := hd j hj
  exact e

theorem LCells.turned {S : Nat → Prop} {W W' : World} {B : Nat} {ls : List (List UInt8)} {xs : List Value} (h : LCells W B ls xs) (hT : Turned S W W') (hS : ∀ k, B ≤ k → ¬ S k) : LCells W' B ls xs :=
  h.keep fun j hj v k h1 e => by
    obtain ⟨v', h2, h3⟩ := h.2.1 j hj
    rw [h1] at h2
    cases h2
    exact hT.block k (h3.lt k e).2 (hS k (h3.lt k e).1)
theorem TC.turned {S : Nat → Prop} {W W' : World} {B : Nat} {ls : List (List UInt8)} {u : Value} (h : TC W B ls u) (hT : Turned S W W') (hS : ∀ k, B ≤ k → ¬ S k) : TC W' B ls u := by
  obtain ⟨xs, h1, h2⟩ := h
  exact ⟨xs, owns_turned h1 hT (fun k e => hS k (h1.lt k e).1), h2.turned hT hS⟩
/-- A kernel's numbers go up by no more than a call may bring. -/
def KLe (K K' : KS) : Prop := K'.next ≤ K.next + 2 ∧ K'.reads ≤ K.reads + 1 ∧ K'.writes ≤ K.writes + 1
theorem KLe.refl (K : KS) : KLe K K := ⟨by omega, by omega, by omega⟩
theorem cut_same (K : KS) (i : Nat) (f : Int) : (K.cut i f).next = K.next ∧ (K.cut i f).reads = K.reads ∧ (K.cut i f).writes = K.writes := by
  unfold KS.cut
  split
  · split
    · exact ⟨rfl, rfl, rfl⟩
    · exact ⟨rfl, rfl, rfl⟩
  · exact ⟨rfl, rfl, rfl⟩
theorem kle_open (K : KS) (s : ByteArray) (f : Int) : KLe K (K.open s f).2.2 := by
  unfold KS.open
  split
  · exact KLe.refl K
  split
  · exact KLe.refl K
  split
  · exact KLe.refl K
  split
  · rename_i i _
    split
    · obtain ⟨e1, e2, e3⟩ := cut_same K i f
      refine ⟨?_, ?_, ?_⟩
      · show (K.cut i f).next + 1 ≤ _; omega
      · show (K.cut i f).reads ≤ _; omega
      · show (K.cut i f).writes ≤ _; omega
    · exact KLe.refl K
  · split
    · exact KLe.refl K
    split
    · exact KLe.refl K
    · refine ⟨?_, ?_, ?_⟩
      · show K.next + 1 ≤ _; omega
      · show K.reads ≤ _; omega
      · show K.writes ≤ _; omega
theorem kle_pipe (K : KS) : KLe K K.pipe.2.2.2 := by
  unfold KS.pipe
  split
  · exact KLe.refl K
  · refine ⟨?_, ?_, ?_⟩
    · show K.next + 1 + 1 ≤ _; omega
    · show K.reads ≤ _; omega
    · show K.writes ≤ _; omega
theorem kle_read (K : KS) (d n : Int) : KLe K (K.read d n).2.2 := by
  have up : ∀ (K' : KS), K'.next = K.next → K'.reads = K.reads + 1 → K'.writes = K.writes → KLe K K' := fun K' a b c => ⟨by omega, by omega, by omega⟩
  unfold KS.read
  split
  · exact KLe.refl K
  split
  · exact KLe.refl K
  split
  · exact KLe.refl K
  split
  · exact KLe.refl K
  split
  · exact KLe.refl K
  split
  · split
    · exact up _ rfl rfl rfl
    · exact up _ rfl rfl rfl
    · exact up _ rfl rfl rfl
  · exact up _ rfl rfl rfl
theorem kle_write (K : KS) (d : Int) (b : List UInt8) : KLe K (K.write d b).2.2 := by
  have up : ∀ (K' : KS), K'.next = K.next → K'.reads = K.reads → K'.writes = K.writes + 1 → KLe K K' := fun K' a b c => ⟨by omega, by omega, by omega⟩
  unfold KS.write
  split
  · exact KLe.refl K
  split
  · exact KLe.refl K
  split
  · exact KLe.refl K
  split
  · exact KLe.refl K
  split
  · split
    · split
      · exact up _ rfl rfl rfl
      · exact up _ rfl rfl rfl
      · exact up _ rfl rfl rfl
    · exact up _ rfl rfl rfl
  · exact KLe.refl K
theorem kle_keep (K : KS) (d : Int) : KLe K (K.keepK d) := by
  unfold KS.keepK
  split
  · exact KLe.refl K
  split
  · exact KLe.refl K
  · exact KLe.refl K
theorem kle_drop (K : KS) (d : Int) : KLe K (K.dropK d) := by
  unfold KS.dropK
  split
  · exact KLe.refl K
  split
  · exact KLe.refl K
  split
  · exact KLe.refl K
  · exact KLe.refl K
theorem new_nums (fs : List Nm) (ts : List Tp) (l : List Fault) : (KS.new fs ts l).next = 1 ∧ (KS.new fs ts l).reads = 0 ∧ (KS.new fs ts l).writes = 0 := by
  unfold KS.new
  have h1 : ∀ (fs : List Nm) (K : KS), (fs.foldl (fun K f => K.addTh ⟨f.1, .file f.2⟩) K).next = K.next ∧ (fs.foldl (fun K f => K.addTh ⟨f.1, .file f.2⟩) K).reads = K.reads ∧ (fs.foldl (fun K f => K.addTh ⟨f.1, .file f.2⟩) K).writes = K.writes := by
    intro fs
    induction fs with
    | nil => exact fun K => ⟨rfl, rfl, rfl⟩
    | cons f r ih => exact fun K => ih (K.addTh ⟨f.1, .file f.2⟩)
  have h2 : ∀ (ts : List Tp) (K : KS), (ts.foldl (fun K t => K.addTh ⟨t.1, .term t.2 []⟩) K).next = K.next ∧ (ts.foldl (fun K t => K.addTh ⟨t.1, .term t.2 []⟩) K).reads = K.reads ∧ (ts.foldl (fun K t => K.addTh ⟨t.1, .term t.2 []⟩) K).writes = K.writes := by
    intro ts
    induction ts with
    | nil => exact fun K => ⟨rfl, rfl, rfl⟩
    | cons f r ih => exact fun K => ih (K.addTh ⟨f.1, .term f.2 []⟩)
  obtain ⟨a1, a2, a3⟩ := h2 ts (fs.foldl (fun K f => K.addTh ⟨f.1, .file f.2⟩) (KS.nought l))
  obtain ⟨b1, b2, b3⟩ := h1 fs (KS.nought l)
  exact ⟨a1.trans b1, a2.trans b2, a3.trans b3⟩

theorem trip_cells (w : World) (x y z : Value) (t : TypeId) : (w.alloc (Obj.cells #[x, y, z] t)).cell? ⟨w.heap.size, 0, none⟩ = some x ∧ (w.alloc (Obj.cells #[x, y, z] t)).cell? ⟨w.heap.size, 1, none⟩ = some y ∧ (w.alloc (Obj.cells #[x, y, z] t)).cell? ⟨w.heap.size, 2, none⟩ = some z := by
  have h := heap_alloc_new w (Obj.cells ([x, y, z] : List Value).toArray t)
  refine ⟨?_, ?_, ?_⟩ <;> (rw [cell_of_row _ _ _ _ _ _ h]; rfl)
set_option maxRecDepth 100000 in
set_option maxHeartbeats 2000000 in
theorem config_any (a1 a2 a3 : Option Addr) (c1 c2 c3 : Nat) (fs : List Nm) (ts : List Tp) (l : List Fault) (w : World) (h1 : Nms w (.slice a1 fs.length c1) fs) (h2 : Tps w (.slice a2 ts.length c2) ts) (h3 : Flts w (.slice a3 l.length c3) l)
    (z1 : fs.length * 40 ≤ 140737488351232 ∧ ∀ j (hj : j < fs.length), fs[j].2.length ≤ 140737488351232) (z2 : ts.length * 40 ≤ 140737488351232 ∧ ∀ j (hj : j < ts.length), ts[j].2.length * 24 ≤ 140737488351232 ∧ ∀ i (hi : i < ts[j].2.length), ts[j].2[i].length ≤ 140737488351232) (z3 : l.length * 16 ≤ 140737488351232) :
    Calls Try.prog 17 #[.agg #[.slice a1 fs.length c1, .slice a2 ts.length c2, .slice a3 l.length c3]] w fun e w' => ∃ b1 d1 b2 d2 b3 d3, e = .returned (.agg #[.slice b1 fs.length d1, .slice b2 ts.length d2, .slice b3 l.length d3]) ∧ Nms w' (.slice b1 fs.length d1) fs ∧ Tps w' (.slice b2 ts.length d2) ts ∧ Flts w' (.slice b3 l.length d3) l ∧ Below w.heap.size w w' := by
  have H1 := hide h1
  have H2 := hide h2
  have H3 := hide h3
  have Z1 := hide z1
  have Z2 := hide z2
  have Z3 := hide z3
  have hB0 := recv_below w (Obj.cells #[.slice a1 fs.length c1, .slice a2 ts.length c2, .slice a3 l.length c3] 48)
  have HB0 := hide hB0
  clear h1 h2 h3 z1 z2 z3 hB0
  obtain ⟨q0, q1, q2⟩ := trio_cells w (.slice a1 fs.length c1) (.slice a2 ts.length c2) (.slice a3 l.length c3) 48
  go_enter Try.func17, Try.ntmps17
  go_wp2_with fail
  have hBx := HB0.out
  have hsx := hBx.size
  have hwz : (w.alloc (Obj.cells #[Value.slice a1 fs.length c1, Value.slice a2 ts.length c2, Value.slice a3 l.length c3] 48)).heap.size = w.heap.size + 1 := by simp
  generalize hwx : w.alloc (Obj.cells #[Value.slice a1 fs.length c1, Value.slice a2 ts.length c2, Value.slice a3 l.length c3] 48) = wx at *
  have hlt : w.heap.size < wx.heap.size := World.block_lt_of_cell? wx _ q0
  have hBy := recv_below wx (Obj.cells #[Value.slice none 0 0, Value.slice none 0 0, Value.slice none 0 0] 35)
  have k0 := (hBy.cell (p := ⟨w.heap.size, 0, none⟩) hlt).trans q0
  have k1 := (hBy.cell (p := ⟨w.heap.size, 1, none⟩) hlt).trans q1
  have k2 := (hBy.cell (p := ⟨w.heap.size, 2, none⟩) hlt).trans q2
  obtain ⟨r0, r1, r2⟩ := trio_cells wx (.slice none 0 0) (.slice none 0 0) (.slice none 0 0) 35
  generalize hwy : wx.alloc (Obj.cells #[Value.slice none 0 0, Value.slice none 0 0, Value.slice none 0 0] 35) = wy at *
  have hlt2 : w.heap.size < wy.heap.size := World.block_lt_of_cell? wy _ k0
  have hlr : wx.heap.size < wy.heap.size := World.block_lt_of_cell? wy _ r0
  have hBwy : Below w.heap.size w wy := hBx.trans (hBy.mono hsx)
  have HByd := hide ((Below.refl w.heap.size w).trans hBwy).drew
  have HS : Hid (∀ W, Below wy.heap.size wy W → W.cell? ⟨w.heap.size, 0, none⟩ = some (.slice a1 fs.length c1) ∧ W.cell? ⟨w.heap.size, 1, none⟩ = some (.slice a2 ts.length c2) ∧ W.cell? ⟨w.heap.size, 2, none⟩ = some (.slice a3 l.length c3)) := hide (fun W hW =>
    ⟨(hW.cell hlt2).trans k0, (hW.cell hlt2).trans k1, (hW.cell hlt2).trans k2⟩)
  have f0 : wy.frozen? ⟨wx.heap.size, 0, none⟩ = false := by rw [← hwy]; simp only [World.frozen?, heap_alloc_new]; rfl
  have f1 : wy.frozen? ⟨wx.heap.size, 1, none⟩ = false := by rw [← hwy]; simp only [World.frozen?, heap_alloc_new]; rfl
  have f2 : wy.frozen? ⟨wx.heap.size, 2, none⟩ = false := by rw [← hwy]; simp only [World.frozen?, heap_alloc_new]; rfl
  have hnq : wx.heap.size ≠ w.heap.size := by omega
  have HFz : Hid (∀ W, Below wy.heap.size wy W → W.cell? ⟨wx.heap.size, 0, none⟩ = some (.slice none 0 0) ∧ W.cell? ⟨wx.heap.size, 1, none⟩ = some (.slice none 0 0) ∧ W.cell? ⟨wx.heap.size, 2, none⟩ = some (.slice none 0 0) ∧ W.frozen? ⟨wx.heap.size, 0, none⟩ = false ∧ W.frozen? ⟨wx.heap.size, 1, none⟩ = false ∧ W.frozen? ⟨wx.heap.size, 2, none⟩ = false) := hide (fun W hW =>
    ⟨(hW.cell hlr).trans r0, (hW.cell hlr).trans r1, (hW.cell hlr).trans r2, (hW.frozen hlr).trans f0, (hW.frozen hlr).trans f1, (hW.frozen hlr).trans f2⟩)
  rw [hwz] at HFz hnq
  clear k0 k1 k2 r0 r1 r2 f0 f1 f2 q0 q1 q2
  go_region_held3 (fun w' => w'.cell? ⟨w.heap.size, 0, none⟩ = some (.slice a1 fs.length c1) ∧ w'.cell? ⟨w.heap.size, 1, none⟩ = some (.slice a2 ts.length c2) ∧ w'.cell? ⟨w.heap.size, 2, none⟩ = some (.slice a3 l.length c3))
    (first | exact ⟨(World.cell?_setCell_far _ _ _ _ hnq).trans ((World.cell?_setCell_far _ _ _ _ hnq).trans ((World.cell?_setCell_far _ _ _ _ hnq).trans (HS.out _ h4).1)), (World.cell?_setCell_far _ _ _ _ hnq).trans ((World.cell?_setCell_far _ _ _ _ hnq).trans ((World.cell?_setCell_far _ _ _ _ hnq).trans (HS.out _ h4).2.1)), (World.cell?_setCell_far _ _ _ _ hnq).trans ((World.cell?_setCell_far _ _ _ _ hnq).trans ((World.cell?_setCell_far _ _ _ _ hnq).trans (HS.out _ h4).2.2))⟩ | exact HS.out _ h4 | exact HS.out _ h3 | exact HS.out _ (Below.refl _ _).drew | exact HS.out _ h2 | go_keep)
    (first | (go_at_call 44; refine (copyNamed_any _ fs _ (H1.out.below (by exact HByd.out)) Z1.out.1 Z1.out.2).mono ?_; rintro _ w2 ⟨v1, us1, rfl, hO1, hL1, hB2⟩; obtain ⟨b1, d1, rfl⟩ := owns_slice hO1; have h2 : Below wy.heap.size wy w2 := (Below.refl _ _).drew.trans hB2) | (go_at_call 45; refine (copyTyped_any _ ts _ (H2.out.below (HByd.out.trans (hB2.mono HByd.out.size))) Z2.out.1 Z2.out.2).mono ?_; rintro _ w3 ⟨v2, us2, rfl, hO2, hl2, hL2, hB3⟩; obtain ⟨b2, d2, rfl⟩ := owns_slice hO2; have h3 : Below wy.heap.size wy w3 := h2.trans (hB3.mono h2.size)) | (go_at_call 46; refine (copyf_any _ l _ (H3.out.below ((HByd.out.trans (hB2.mono HByd.out.size)).trans (hB3.mono (HByd.out.trans (hB2.mono HByd.out.size)).size))) Z3.out).mono ?_; rintro _ w4 ⟨v3, rfl, hO3, hB4⟩; obtain ⟨b3, d3, rfl⟩ := owns_slice hO3; have h4 : Below wy.heap.size wy w4 := h3.trans (hB4.mono h3.size); obtain ⟨r0, r1, r2, f0, f1, f2⟩ := HFz.out _ h4) | fail)
  have hrow : w4.heap[w.heap.size + 1]? = some (.cells #[.slice none 0 0, .slice none 0 0, .slice none 0 0] 35 (0, 0)) := by
    rw [← hwz, h4.block _ hlr, ← hwy]
    exact heap_alloc_new _ _
  have e0 := Go.heap_setCell_same w4 (w.heap.size + 1) 0 _ _ (.slice b1 fs.length d1) hrow
  have e1 := Go.heap_setCell_same _ (w.heap.size + 1) 1 _ _ (.slice b2 ts.length d2) e0
  have e2 := Go.heap_setCell_same _ (w.heap.size + 1) 2 _ _ (.slice b3 l.length d3) e1
  have hT5 : Turned (fun k => k = w.heap.size + 1) w4 (((w4.setCell ⟨w.heap.size + 1, 0, none⟩ (.slice b1 fs.length d1)).setCell ⟨w.heap.size + 1, 1, none⟩ (.slice b2 ts.length d2)).setCell ⟨w.heap.size + 1, 2, none⟩ (.slice b3 l.length d3)) := (((Turned.refl (fun k => k = w.heap.size + 1) w4).set (.inl rfl)).set (.inl rfl)).set (.inl rfl)
  have hB5 : Below w.heap.size w (((w4.setCell ⟨w.heap.size + 1, 0, none⟩ (.slice b1 fs.length d1)).setCell ⟨w.heap.size + 1, 1, none⟩ (.slice b2 ts.length d2)).setCell ⟨w.heap.size + 1, 2, none⟩ (.slice b3 l.length d3)) := ((((hBwy.trans (h4.mono (Nat.le_of_lt hlt2))).setCell (p := ⟨w.heap.size + 1, 0, none⟩) (Nat.le_succ _) _).setCell (p := ⟨w.heap.size + 1, 1, none⟩) (Nat.le_succ _) _).setCell (p := ⟨w.heap.size + 1, 2, none⟩) (Nat.le_succ _) _)
  generalize ((w4.setCell ⟨w.heap.size + 1, 0, none⟩ (.slice b1 fs.length d1)).setCell ⟨w.heap.size + 1, 1, none⟩ (.slice b2 ts.length d2)).setCell ⟨w.heap.size + 1, 2, none⟩ (.slice b3 l.length d3) = w5 at *
  have hdr : wy.drew.heap.size = wy.heap.size := rfl
  have far : ∀ k, wy.heap.size ≤ k → ¬ k = w.heap.size + 1 := fun k h e => by omega
  have hs2 := h2.size
  have hs3 := h3.size
  have hB24 := hB3.trans (hB4.mono hB3.size)
  have n1 := nms_of_owns (owns_turned (owns_below hO1 hB24) hT5 (fun k hk e => far k (by have := (hO1.lt k hk).1; omega) e)) ((hL1.below hB24).turned hT5 (fun k hk e => far k (by omega) e)) (nms_sizes H1.out)
  have n2 := tps_of_owns (owns_turned (owns_below hO2 hB4) hT5 (fun k hk e => far k (by have := (hO2.lt k hk).1; omega) e)) hl2 (fun j hj => by
    obtain ⟨u, g1, g2⟩ := hL2 j hj
    exact ⟨u, g1, (g2.below hB4).turned hT5 (fun k hk e => far k (by omega) e)⟩) (tps_sizes H2.out)
  have n3 := Flts.of_owns (owns_turned hO3 hT5 (fun k hk e => far k (by have := (hO3.lt k hk).1; omega) e))
  go_wp2
  refine bodyPost_ret (results_cell_row rfl _ _ (w.heap.size + 1) _ _ _ _ rfl e2 Try.underlying35 rfl (by kernel_rfl)) rfl ?_
  exact ⟨_, _, _, _, _, _, rfl, n1, n2, n3, hB5⟩
end Go.Proofs.Ytjnifkngcbaldaa

/- KernPlace: the kernel's states, as values. -/
namespace Go.Proofs.Ytjnifkngcbaldaa
open Go.RowKit Go.Maps

def nmF : ByteArray := ⟨#[102]⟩
/-- One file, two descriptions of it: one read by two, one written. -/
def KPl (b : List UInt8) (p1 p2 rd wr : Nat) : KS := ⟨[⟨nmF, .file b⟩], [0], [⟨1, 0, 1, p1, 2⟩, ⟨2, 0, 3, p2, 1⟩], 3, [], rd, wr⟩
theorem pl_check (b : List UInt8) : checkE [(nmF, b)] [] [] = if 1048576 < b.length then 5 else 0 := by
  unfold checkE
  rw [if_neg (by simp)]
  rw [show kfiles [] [(nmF, b)] = if 1048576 < b.length then (5, []) else (0, [nmF]) from rfl]
  split
  · rw [if_neg (by decide)]
  · rw [if_pos rfl]; rfl
theorem pl_open1 (b : List UInt8) : (KS.new [(nmF, b)] [] []).open nmF 1 = (1, 0, ⟨[⟨nmF, .file b⟩], [0], [⟨1, 0, 1, 0, 1⟩], 2, [], 0, 0⟩) := rfl
theorem pl_open2 (b : List UInt8) : (⟨[⟨nmF, .file b⟩], [0], [⟨1, 0, 1, 0, 1⟩], 2, [], 0, 0⟩ : KS).open nmF 3 = (2, 0, ⟨[⟨nmF, .file b⟩], [0], [⟨1, 0, 1, 0, 1⟩, ⟨2, 0, 3, 0, 1⟩], 3, [], 0, 0⟩) := rfl
theorem pl_keep (b : List UInt8) : (⟨[⟨nmF, .file b⟩], [0], [⟨1, 0, 1, 0, 1⟩, ⟨2, 0, 3, 0, 1⟩], 3, [], 0, 0⟩ : KS).keepE 1 = 0 ∧ (⟨[⟨nmF, .file b⟩], [0], [⟨1, 0, 1, 0, 1⟩, ⟨2, 0, 3, 0, 1⟩], 3, [], 0, 0⟩ : KS).keepK 1 = KPl b 0 0 0 0 := ⟨rfl, rfl⟩
theorem nxt_nil {n : Int} (h1 : 1 ≤ n) (h2 : n ≤ 1048576) : nxt [] n = (n, 0) := by simp [nxt]; omega
theorem pl_read (b : List UInt8) (p1 p2 rd wr : Nat) (n : Int) (h1 : 1 ≤ n) (h2 : n ≤ 1048576) : (KPl b p1 p2 rd wr).read 1 n = (piece b p1 n.toNat, 0, KPl b (p1 + (piece b p1 n.toNat).length) p2 (rd + 1) wr) := by
  have hx : (KPl b p1 p2 rd wr).find 1 = some ⟨1, 0, 1, p1, 2⟩ := rfl
  rw [read_is hx (by show fbit 1 1 ≠ 0; decide) h1 h2 rfl]
  have e : nxt (KPl b p1 p2 rd wr).plan n = (n, 0) := nxt_nil h1 h2
  rw [e, if_pos rfl]
  rfl
theorem pl_write (b x : List UInt8) (p1 rd wr : Nat) (h1 : 1 ≤ x.length) (h2 : x.length ≤ 1048576) : (KPl b p1 0 rd wr).write 2 x = ((x.length : Int), 0, KPl (wrL b 0 x) p1 x.length rd (wr + 1)) := by
  have hx : (KPl b p1 0 rd wr).find 2 = some ⟨2, 0, 3, 0, 1⟩ := rfl
  have hr : refusal ((KPl b p1 0 rd wr).tho ⟨2, 0, 3, 0, 1⟩) 3 0 x.length = 0 := rfl
  rw [write_is hx (by show fbit 3 2 ≠ 0; decide) h1 h2 hr]
  have e : nxt (KPl b p1 0 rd wr).plan x.length = ((x.length : Int), 0) := nxt_nil (by omega) (by omega)
  rw [e, if_pos rfl]
  have hm : min x.length (1048576 - placeOf b 3 0) = x.length := by
    rw [show placeOf b 3 0 = 0 from rfl]; omega
  show (KPl b p1 0 rd wr).writeUp.wrx ⟨2, 0, 3, 0, 1⟩ x x.length = _
  rw [show (KPl b p1 0 rd wr).writeUp.wrx ⟨2, 0, 3, 0, 1⟩ x x.length = (((min x.length (1048576 - placeOf b 3 0) : Nat) : Int), 0, ((KPl b p1 0 rd wr).writeUp.setOb 0 (.file (wrL b (placeOf b 3 0) (x.take (min x.length (1048576 - placeOf b 3 0)))))).setDe ⟨2, 0, 3, placeOf b 3 0 + min x.length (1048576 - placeOf b 3 0), 1⟩) from rfl]
  rw [hm, show placeOf b 3 0 = 0 from rfl, List.take_length, Nat.zero_add]
  rfl
theorem pl_writeN (b x : List UInt8) (p1 rd wr : Nat) (h : x.length = 0 ∨ 1048576 < x.length) : ((KPl b p1 0 rd wr).write 2 x).1 = 0 := by
  have hx : (KPl b p1 0 rd wr).find 2 = some ⟨2, 0, 3, 0, 1⟩ := rfl
  unfold KS.write
  rw [hx]
  simp only
  rw [if_neg (by decide)]
  rcases h with h | h
  · rw [if_neg (by omega), if_pos h]
  · rw [if_pos h]
theorem pl_seek (b : List UInt8) (p1 p2 rd wr : Nat) : (KPl b p1 p2 rd wr).seek 1 0 0 = (0, 0, KPl b 0 p2 rd wr) := rfl
theorem pl_back (b x : List UInt8) (h2 : x.length ≤ 1048576) : piece (wrL b 0 x) 0 x.length = x := by
  unfold wrL
  have : Fi_wrE 0 x.length = 0 := wr_fits (at' := 0) (by omega)
  rw [if_pos this]
  by_cases hx : x = []
  · subst hx; simp [piece]
  · simp [piece, lay, hx]
theorem ktmod_bound (x k : Int) (hk : 0 < k) : -k < x.tmod k ∧ x.tmod k < k := by
  have h2 : ∀ y : Int, 0 ≤ y → 0 ≤ y.tmod k ∧ y.tmod k < k := fun y h => by
    rw [Int.tmod_eq_emod_of_nonneg h]
    exact ⟨Int.emod_nonneg _ (by omega), Int.emod_lt_of_pos _ hk⟩
  rcases Int.le_total 0 x with h | h
  · have := h2 x h; omega
  · have h3 := h2 (-x) (by omega)
    rw [Int.neg_tmod] at h3
    omega
theorem krem_twice (full k : Int) (hk : 0 < k) (hk2 : k ≤ 1048576) : ∃ m : Nat, (wrap64 (full.tmod k + k)).tmod k = (m : Int) ∧ (m : Int) < k := by
  have h1 := ktmod_bound full k hk
  have h2 : wrap64 (full.tmod k + k) = full.tmod k + k := by unfold wrap64; omega
  rw [h2, Int.tmod_eq_emod_of_nonneg (by omega)]
  have h3 := Int.emod_nonneg (full.tmod k + k) (b := k) (by omega)
  have h4 := Int.emod_lt_of_pos (full.tmod k + k) hk
  exact ⟨((full.tmod k + k) % k).toNat, by omega, by omega⟩
theorem take_piece {b : List UInt8} {p n : Nat} (hp : p ≤ b.length) : b.take p ++ piece b p n = b.take (p + (piece b p n).length) := by
  rw [piece_len]
  unfold piece
  rw [← List.take_add]
  by_cases h : n ≤ b.length - p
  · rw [Nat.min_eq_left h]
  · rw [Nat.min_eq_right (by omega), List.take_of_length_le (by omega), List.take_of_length_le (by omega)]
end Go.Proofs.Ytjnifkngcbaldaa

/- KernSays, walked. -/
namespace Go.Proofs.Ytjnifkngcbaldaa
open Go.RowKit Go.Maps

theorem kmade_zeros {w w1 : World} {n : Nat} (h : w1.ownsRow w.heap.size 5 1 (.slice (some ⟨w.heap.size, 0, none⟩) n n) n (madeCells (Value.int .u8 0).cells (n * 1)).toList) (hg : w.grownBy w1 none) :
    Bys w1 (.slice (some ⟨w.heap.size, 0, none⟩) n n) (List.replicate n 0) ∧ Below w.heap.size w w1 := by
  refine ⟨?_, (Below.refl _ w).grown hg (Nat.le_refl _) (fun k e => by cases e)⟩
  rw [made_cells] at h
  refine Bys.of_owns (base := w.heap.size) ?_
  simpa [bv] using h

set_option maxRecDepth 100000 in
set_option maxHeartbeats 8000000 in
theorem kernSays_any (a1 a2 a3 a4 : Option Addr) (c1 c2 c3 c4 : Nat) (fs : List Nm) (ts : List Tp) (g : List Fault) (l : List KSt) (d n : Int) (w : World) (h1 : Nms w (.slice a1 fs.length c1) fs) (h2 : Tps w (.slice a2 ts.length c2) ts) (h3 : Flts w (.slice a3 g.length c3) g) (h4 : KSts w (.slice a4 l.length c4) l)
    (z1 : fs.length * 40 ≤ 140737488351232 ∧ ∀ j (hj : j < fs.length), fs[j].2.length ≤ 140737488351232) (z2 : ts.length * 40 ≤ 140737488351232 ∧ ∀ j (hj : j < ts.length), ts[j].2.length * 24 ≤ 140737488351232 ∧ ∀ i (hi : i < ts[j].2.length), ts[j].2[i].length ≤ 140737488351232) (z3 : g.length * 16 ≤ 140737488351232) (z4 : l.length * 72 ≤ 140737488351232 ∧ ∀ i (hi : i < l.length), l[i].data.length ≤ 140737488351232) (hd : I64 d) :
    Calls Try.prog 5 #[.agg #[.slice a1 fs.length c1, .slice a2 ts.length c2, .slice a3 g.length c3], .slice a4 l.length c4, .int .i64 d, .int .i64 n] w fun e w' => e = .returned (.bool true) ∧ Below w.heap.size w w' := by
  have HD := hide hd
  have H4 := hide h4
  have Z4 := hide z4
  have HAl := hide (alive_any (w.alloc (Obj.cells #[Value.slice a1 fs.length c1, Value.slice a2 ts.length c2, Value.slice a3 g.length c3] 48)))
  have HCf := hide fun w1 (hB1 : Below w.heap.size w w1) => config_any a1 a2 a3 c1 c2 c3 fs ts g w1 (h1.below hB1) (h2.below hB1) (h3.below hB1) z1 z2 z3
  have HZ := hide (And.intro z1.1 (And.intro z2.1 z3))
  have HBx := hide (recv_below w (Obj.cells #[Value.slice a1 fs.length c1, Value.slice a2 ts.length c2, Value.slice a3 g.length c3] 48))
  have HQ := hide (trio_cells w (.slice a1 fs.length c1) (.slice a2 ts.length c2) (.slice a3 g.length c3) 48)
  clear h1 h2 h3 h4 z1 z2 z3 z4 hd
  go_enter Try.func5, Try.ntmps5
  go_wp2_with fail
  refine HAl.out.mono ?_
  rintro e w1 ⟨rfl, hB1⟩
  have HB1 : Hid (Below w.heap.size w w1) := hide (HBx.out.trans (hB1.mono HBx.out.size))
  have hlt := World.block_lt_of_cell? _ _ HQ.out.1
  have q0 := (hB1.cell hlt).trans HQ.out.1
  have q1 := (hB1.cell (p := ⟨w.heap.size, 1, none⟩) hlt).trans HQ.out.2.1
  have q2 := (hB1.cell (p := ⟨w.heap.size, 2, none⟩) hlt).trans HQ.out.2.2
  clear hB1 HAl HBx HQ hlt
  go_wp2_with fail
  refine (HCf.out w1 HB1.out).mono ?_
  rintro e w2 ⟨b1, d1, b2, d2, b3, d3, rfl, hN, hT, hF, hB2⟩
  have HB2 := hide (HB1.out.trans (hB2.mono HB1.out.size))
  clear q0 q1 q2
  by_cases hE : checkE fs ts g = 0
  case neg =>
    have HN := hide (knew_bad b1 b2 b3 d1 d2 d3 fs ts g w2 hN hT hF HZ.out.2.2 (by have := HZ.out.1; omega) (by have := HZ.out.2.1; omega) hE)
    clear hN hT hF hB2 HB1 HCf
    generalize checkE fs ts g = E at *
    go_wp2_with fail
    refine HN.out.mono ?_
    rintro e w3 ⟨rfl, hB3⟩
    have HB3 := hide (HB2.out.trans (hB3.mono HB2.out.size))
    clear hB3 HB2 HN
    go_wp2_with (first | (go_at_call 9; refine (num_kp _ _).mono ?_; rintro _ _ ⟨rfl, rfl⟩) | fail)
    go_ret
    exact ⟨rfl, HB3.out⟩
  have HN := hide (knew_good b1 b2 b3 d1 d2 d3 fs ts g w2 hN hT hF HZ.out.2.2 (by have := HZ.out.1; omega) (by have := HZ.out.2.1; omega) hE)
  clear hN hT hF hB2 HB1 HCf
  go_wp2_with fail
  refine HN.out.mono ?_
  rintro e w3 ⟨kb, rfl, hK, hB3⟩
  have HB3 := hide (HB2.out.trans (hB3.mono HB2.out.size))
  have HK3 := hide ((hK.mono (fun k e => Nat.le_trans HB2.out.size e)).trim)
  have HNn := hide (new_nums fs ts g)
  clear hB3 HB2 HN hK
  generalize hK0 : KS.new fs ts g = K0 at *
  clear hK0 hE
  go_wp2_with (first | (go_at_call 9; refine (num_kp _ _).mono ?_; rintro _ _ ⟨rfl, rfl⟩) | fail)
  go_loopw [11] (fun i wr => ∃ (k : Nat) (K : KS), k ≤ l.length ∧ i = .int .i64 k ∧ Hid (KAt wr (fun j => w.heap.size ≤ j ∧ j < wr.heap.size) kb K) ∧ Hid (K.next ≤ 1 + 2 * k ∧ K.reads ≤ k ∧ K.writes ≤ k) ∧ Hid (Below w.heap.size w wr)) (fun i _ => l.length - (intOf i).toNat)
  case atStart => exact ⟨0, K0, Nat.zero_le _, rfl, HK3, hide (by have := HNn.out; omega), HB3⟩
  case round =>
    obtain ⟨k, K, hk, rfl, HK, HNum, HB⟩ := hrel
    clear HK3 HB3 HNn
    by_cases hlt : k < l.length
    · obtain ⟨b, off, va, vc, rfl, hb, q0, q1, q2, q3, q4, q5, hby, hcap, hsz, i1, i2, i3⟩ := ksts_at H4.out HB.out k hlt
      have hdata := Z4.out.2 k hlt
      have hl9 := Z4.out.1
      have hk1 : (0 : Int) ≤ (k : Int) := by omega
      have hk2 : (k : Int) < (l.length : Int) := by omega
      have hnum := HNum.out
      have HHk := hide (And.intro hnum hl9)
      generalize l[k] = x at *
      obtain ⟨what, name, xa, xb, xc, data⟩ := x
      simp only at *
      have hBb := recv_below wr (Obj.cells #[.int .i64 what, .string name, .int .i64 xa, .int .i64 xb, .int .i64 xc, .slice va data.length vc] 52)
      have HKb := hide (HK.out.below hBb)
      have HBb := hide (HB.out.trans (hBb.mono HB.out.size))
      have HOp := hide (HKb.out.open name xa hsz (by omega))
      have HPi := hide (HKb.out.pipe (by omega))
      have HRd := hide (HKb.out.read xa xb i1 (by omega))
      have HWr := hide (HKb.out.write xa data va vc i1 (by omega) (hby.below HBb.out) hcap (by omega) (fun h0 j hj e => by
        obtain ⟨_, yb, yo, e2, e3, _⟩ := bys_block hby h0
        rw [e2] at hj
        cases hj
        have e' : w.heap.size ≤ yb := e.1
        omega))
      have HKe := hide (HKb.out.keeps xa i1)
      have HDr := hide (HKb.out.drops xa i1)
      clear hby hcap hsz i1 i2 i3 hdata hb hnum hBb
      by_cases e0 : what = 0
      · subst e0
        clear HPi HRd HWr HKe HDr
        go_wp2_with (first | (go_at_call 10; refine HOp.out.mono ?_; rintro _ w6 ⟨rfl, hS⟩) | fail)
        obtain ⟨hK6, hB6⟩ := hS.at (B := w.heap.size) (fun _ e => e.1) HBb.out.size
        have HK6 := hide hK6
        have HB6 := hide (HBb.out.trans hB6)
        clear hS hK6 hB6
        go_roundw
        case rel => exact ⟨k + 1, _, by omega, by go_num, HK6, hide (by have := kle_open K name xa; unfold KLe at this; have := HHk.out; omega), HB6⟩
        case measure => simp [intOf]; omega
      by_cases e1 : what = 1
      · subst e1
        clear HOp HRd HWr HKe HDr
        go_wp2_with (first | (go_at_call 18; refine HPi.out.mono ?_; rintro _ w6 ⟨rfl, hS⟩) | fail)
        obtain ⟨hK6, hB6⟩ := hS.at (B := w.heap.size) (fun _ e => e.1) HBb.out.size
        have HK6 := hide hK6
        have HB6 := hide (HBb.out.trans hB6)
        clear hS hK6 hB6
        go_roundw
        case rel => exact ⟨k + 1, _, by omega, by go_num, HK6, hide (by have := kle_pipe K; unfold KLe at this; have := HHk.out; omega), HB6⟩
        case measure => simp [intOf]; omega
      by_cases e2 : what = 2
      · subst e2
        clear HOp HPi HWr HKe HDr
        go_wp2_with (first | (go_at_call 12; refine HRd.out.mono ?_; rintro _ w6 ⟨_, rfl, _, hK6, hT6⟩) | fail)
        have HB6 := hide (HBb.out.trans (hT6.below (fun _ e => e.1) HBb.out.size))
        have HK6 := hide (hK6.mono (O' := fun j => w.heap.size ≤ j ∧ j < w6.heap.size) (fun j e => ⟨e.1, Nat.lt_of_lt_of_le e.2 (Nat.le_trans (by simp) hT6.size)⟩))
        clear hK6 hT6
        go_roundw
        case rel => exact ⟨k + 1, _, by omega, by go_num, HK6, hide (by have := kle_read K xa xb; unfold KLe at this; have := HHk.out; omega), HB6⟩
        case measure => simp [intOf]; omega
      by_cases e3 : what = 3
      · subst e3
        clear HOp HPi HRd HKe HDr
        go_wp2_with (first | (go_at_call 14; refine HWr.out.mono ?_; rintro _ w6 ⟨rfl, hS⟩) | fail)
        obtain ⟨hK6, hB6⟩ := hS.at (B := w.heap.size) (fun _ e => e.1) HBb.out.size
        have HK6 := hide hK6
        have HB6 := hide (HBb.out.trans hB6)
        clear hS hK6 hB6
        go_roundw
        case rel => exact ⟨k + 1, _, by omega, by go_num, HK6, hide (by have := kle_write K xa data; unfold KLe at this; have := HHk.out; omega), HB6⟩
        case measure => simp [intOf]; omega
      by_cases e5 : what = 5
      · subst e5
        clear HOp HPi HRd HWr HDr
        go_wp2_with (first | (go_at_call 11; refine HKe.out.mono ?_; rintro _ w6 ⟨rfl, hS⟩) | fail)
        obtain ⟨hK6, hB6⟩ := hS.at (B := w.heap.size) (fun _ e => e.1) HBb.out.size
        have HK6 := hide hK6
        have HB6 := hide (HBb.out.trans hB6)
        clear hS hK6 hB6
        go_roundw
        case rel => exact ⟨k + 1, _, by omega, by go_num, HK6, hide (by have := kle_keep K xa; unfold KLe at this; have := HHk.out; omega), HB6⟩
        case measure => simp [intOf]; omega
      by_cases e6 : what = 6
      · subst e6
        clear HOp HPi HRd HWr HKe
        go_wp2_with (first | (go_at_call 19; refine HDr.out.mono ?_; rintro _ w6 ⟨rfl, hS⟩) | fail)
        obtain ⟨hK6, hB6⟩ := hS.at (B := w.heap.size) (fun _ e => e.1) HBb.out.size
        have HK6 := hide hK6
        have HB6 := hide (HBb.out.trans hB6)
        clear hS hK6 hB6
        go_roundw
        case rel => exact ⟨k + 1, _, by omega, by go_num, HK6, hide (by have := kle_drop K xa; unfold KLe at this; have := HHk.out; omega), HB6⟩
        case measure => simp [intOf]; omega
      clear HOp HPi HRd HWr HKe HDr
      go_wp2_with fail
      go_roundw
      case rel => exact ⟨k + 1, K, by omega, by go_num, hide (HKb.out.mono (fun j e => ⟨e.1, Nat.lt_of_lt_of_le e.2 (by simp)⟩)), hide (by have := HHk.out; omega), HBb⟩
      case measure => simp [intOf]; omega
    · obtain ⟨m, hm, hm9⟩ := krem_twice n 5000 (by decide) (by decide)
      obtain ⟨i0, hi, hz0, hz1, hz2⟩ := info_parts Try.infoB
      obtain ⟨M, hM⟩ : ∃ M, M = 1 + m := ⟨_, rfl⟩
      have hMv : (1 : Int) + (m : Int) = (M : Int) := by omega
      have HM : Hid (1 ≤ M ∧ M ≤ 5000) := hide (by omega)
      have hwM : wrap64 (M : Int) = (M : Int) := by unfold wrap64; omega
      have HCr := hide (HK.out.canRead d HD.out)
      have HCw := hide fun W (hW : Below wr.heap.size wr W) => (HK.out.below hW).canWrite d (M : Int) HD.out
      have HKi := hide fun W (hW : Below wr.heap.size wr W) => (HK.out.below hW).kinds d HD.out
      have HRd := hide fun W (hW : Below wr.heap.size wr W) => (HK.out.below hW).read d (M : Int) HD.out (by have := HNum.out; have := Z4.out.1; omega)
      have HOk := hide HK.out.ok.1.plan
      clear hM hm9
      cases hx : K.find d with
      | none =>
        obtain ⟨k1, k2, k3⟩ := kindOf_none hx
        have HCv : Hid (K.canRead d = false) := hide k2
        have HMv : Hid (K.canWriteP d (M : Int) = false) := hide (k3 _)
        rw [k1] at HKi
        clear k1 k2 k3 hx HRd HOk
        go_wp2_with fail
        refine HCr.out.mono ?_
        rintro e w4 ⟨rfl, hB4⟩
        rw [HCv.out]
        have HB4 := hide hB4
        clear hB4
        go_wp2_with fail
        refine (HCw.out w4 HB4.out).mono ?_
        rintro e w5 ⟨rfl, hB5⟩
        rw [HMv.out]
        have HB5 := hide (HB4.out.trans (hB5.mono HB4.out.size))
        clear hB5
        go_wp2_with fail
        refine (HKi.out w5 HB5.out).mono ?_
        rintro e w6 ⟨rfl, hB6⟩
        have HB6 := hide (HB5.out.trans (hB6.mono HB5.out.size))
        clear hB6
        go_wp2_with fail
        go_ret
        exact ⟨rfl, HB.out.trans (HB6.out.mono HB.out.size)⟩
      | some x =>
        obtain ⟨k1, k2⟩ := kindOf_some hx
        have hM1 : (1 : Int) ≤ (M : Int) := by have := HM.out; omega
        have hM2 : (M : Int) ≤ 1048576 := by have := HM.out; omega
        have HRn : Hid ((K.read d (M : Int)).2.2.writes < 9223372036854775807) := hide (by have := kle_read K d M; unfold KLe at this; have := HNum.out; have := Z4.out.1; omega)
        have HRk : Hid (planOk (K.read d (M : Int)).2.2.plan) := hide (plan_read HOk.out d M)
        obtain ⟨x', e1, e2, e3⟩ := read_find (n := (M : Int)) hx
        have HKi2 : Hid ((K.read d (M : Int)).2.2.kindOf d = K.kindOf d) := hide (by rw [(kindOf_some e1).1, e3, k1])
        have HSw := hide fun (hs : (K.read d (M : Int)).2.2 = K ∨ (K.tho x).kind ≠ 3) => says_write (b := List.replicate M 0) HRk.out hx e1 e2 e3 hs (by rw [List.length_replicate]) hM1 hM2
        have HSr := hide (read_says HOk.out hx hM1 hM2)
        clear hM1 hM2 e1 e2 e3
        generalize hR : K.read d (M : Int) = R at *
        clear hR HRk
        rcases HSr.out with ⟨-, f1, f2, f3⟩ | ⟨-, f1, f2, f3, f4⟩ | ⟨-, f1, f3⟩
        · have HCv : Hid (K.canRead d = false) := hide f3
          have HW3 := hide (HSw.out (.inl f2))
          rw [f1] at HRd
          clear HSw f1 f2 f3 HKi2 HSr
          rcases HW3.out with ⟨g1, g2⟩ | ⟨g1, g2⟩ | ⟨g1, g3, g2⟩
          all_goals
            have HMv := hide g2
            clear HW3
            go_wp2_with fail
            refine HCr.out.mono ?_
            rintro e w4 ⟨rfl, hB4⟩
            rw [HCv.out]
            have HB4 := hide hB4
            clear hB4
            go_wp2_with fail
            refine (HCw.out w4 HB4.out).mono ?_
            rintro e w5 ⟨rfl, hB5⟩
            rw [HMv.out]
            have HB5 := hide (HB4.out.trans (hB5.mono HB4.out.size))
            clear hB5
            go_wp2_with fail
            refine (HKi.out w5 HB5.out).mono ?_
            rintro e w6 ⟨rfl, hB6⟩
            have HB6 := hide (HB5.out.trans (hB6.mono HB5.out.size))
            clear hB6
            go_wp2_with fail
            refine (HRd.out w6 HB6.out).mono ?_
            rintro e w7 ⟨v7, rfl, -, hK7, hT7⟩
            have HT7 := hide hT7
            have HK7 := hide hK7
            have HB7 : Hid (Below w.heap.size w w7) := hide ((HB.out.trans (HB6.out.mono HB.out.size)).trans (hT7.below (fun _ e => e.1) (Nat.le_trans HB.out.size HB6.out.size)))
            have HWn : Hid (R.2.2.writes < 9223372036854775807) := hide HRn.out
            clear hT7 hK7
            go_wp2_with (first | (go_at_call 9; refine (num_kp _ _).mono ?_; rintro _ _ ⟨rfl, rfl⟩) | (at_make; refine wpList_make_full _ rfl _ _ 22 rfl w7.heap.size 5 i0 (.int .u8 0) 1 Try.underlying22 hi hz0 hz1 _ _ _ _ M rfl rfl rfl rfl (by rw [hz2]; have := HM.out; omega) (by have := HM.out; unfold maxLen; omega) (Nat.le_refl _) ?_; intro w8 hown8 hgrow8; have HZ8 := hide (kmade_zeros hown8 hgrow8); clear hown8 hgrow8) | fail)
            have HWr := hide ((HK7.out.below HZ8.out.2).write d (List.replicate M 0) (some ⟨w7.heap.size, 0, none⟩) M HD.out HWn.out (by rw [List.length_replicate]; exact HZ8.out.1) (by rw [List.length_replicate]; exact Nat.le_refl _) (by rw [List.length_replicate]; have := HM.out; omega) (fun _ j hj e => by
              have : j = w7.heap.size := by simpa [Value.ownBlock] using hj.symm
              have := HB6.out.size
              have := HT7.out.size
              omega))
            rw [List.length_replicate] at HWr
            refine HWr.out.mono ?_
            rintro e w9 ⟨rfl, hS⟩
            obtain ⟨-, hB9⟩ := hS.at (B := w.heap.size) (fun _ e => e.1) (Nat.le_trans HB7.out.size HZ8.out.2.size)
            have HB9 := hide ((HB7.out.trans (HZ8.out.2.mono HB7.out.size)).trans hB9)
            clear hS hB9 HWr HZ8
            first | rw [g1] | (generalize (R.2.2.write d (List.replicate M 0)).2.1 = gv at g1 g3 ⊢; have g1b : (gv == 65) = false := (by simpa using g1); have g3b : (gv == 52) = false := (by simpa using g3); have g1c : (gv != 65) = true := (by simpa using g1))
            go_wp2_with (first | (go_at_call 9; refine (num_kp _ _).mono ?_; rintro _ _ ⟨rfl, rfl⟩) | fail)
            go_ret
            exact ⟨rfl, HB9.out⟩
        · have HCv : Hid (K.canRead d = false) := hide f3
          have hk3 : K.kindOf d = 3 := by rw [k1]; exact f4
          rw [f1] at HRd
          rw [f2] at HRd
          clear HSw f1 f2 f3 f4 HKi2 HSr
          obtain ⟨mv, hmv⟩ : ∃ mv, K.canWriteP d (M : Int) = mv := ⟨_, rfl⟩
          have HMv := hide hmv
          clear hmv k2
          rw [hk3] at HKi
          go_wp2_with fail
          refine HCr.out.mono ?_
          rintro e w4 ⟨rfl, hB4⟩
          rw [HCv.out]
          have HB4 := hide hB4
          clear hB4
          go_wp2_with fail
          refine (HCw.out w4 HB4.out).mono ?_
          rintro e w5 ⟨rfl, hB5⟩
          rw [HMv.out]
          have HB5 := hide (HB4.out.trans (hB5.mono HB4.out.size))
          clear hB5
          go_wp2_with fail
          refine (HKi.out w5 HB5.out).mono ?_
          rintro e w6 ⟨rfl, hB6⟩
          have HB6 := hide (HB5.out.trans (hB6.mono HB5.out.size))
          clear hB6
          go_wp2_with fail
          refine (HRd.out w6 HB6.out).mono ?_
          rintro e w7 ⟨v7, rfl, -, hK7, hT7⟩
          have HT7 := hide hT7
          have HK7 := hide hK7
          have HB7 : Hid (Below w.heap.size w w7) := hide ((HB.out.trans (HB6.out.mono HB.out.size)).trans (hT7.below (fun _ e => e.1) (Nat.le_trans HB.out.size HB6.out.size)))
          have HWn : Hid (K.writes < 9223372036854775807) := hide (by have := HNum.out; have := Z4.out.1; omega)
          clear hT7 hK7
          go_wp2_with (first | (go_at_call 9; refine (num_kp _ _).mono ?_; rintro _ _ ⟨rfl, rfl⟩) | (go_at_call 22; refine (HK7.out.kinds d HD.out).mono ?_; rintro _ w8 ⟨rfl, hB8⟩; rw [hk3]) | fail)
          go_ret
          exact ⟨rfl, HB7.out.trans (hB8.mono HB7.out.size)⟩
        · have HCv : Hid (K.canRead d = true) := hide f3
          have hf1 : ¬ R.2.1 = 65 := by omega
          have hf2 : ¬ R.2.1 = 52 := by omega
          have hki2 := HKi2.out
          obtain ⟨ys, f, K'⟩ := R
          simp only at *
          have hb1 : (f == 65) = false := by simpa using hf1
          have hb2 : (f == 52) = false := by simpa using hf2
          by_cases hk3 : K.kindOf d = 3
          · rw [hk3] at HKi hki2
            obtain ⟨mv, hmv⟩ : ∃ mv, K.canWriteP d (M : Int) = mv := ⟨_, rfl⟩
            have HMv := hide hmv
            have HKi3 := hide hki2
            clear HSw f1 f3 HKi2 HSr hmv k2 hk3 hki2 k1
            go_wp2_with fail
            refine HCr.out.mono ?_
            rintro e w4 ⟨rfl, hB4⟩
            rw [HCv.out]
            have HB4 := hide hB4
            clear hB4
            go_wp2_with fail
            refine (HCw.out w4 HB4.out).mono ?_
            rintro e w5 ⟨rfl, hB5⟩
            rw [HMv.out]
            have HB5 := hide (HB4.out.trans (hB5.mono HB4.out.size))
            clear hB5
            go_wp2_with fail
            refine (HKi.out w5 HB5.out).mono ?_
            rintro e w6 ⟨rfl, hB6⟩
            have HB6 := hide (HB5.out.trans (hB6.mono HB5.out.size))
            clear hB6
            go_wp2_with fail
            refine (HRd.out w6 HB6.out).mono ?_
            rintro e w7 ⟨v7, rfl, -, hK7, hT7⟩
            have HT7 := hide hT7
            have HK7 := hide hK7
            have HB7 : Hid (Below w.heap.size w w7) := hide ((HB.out.trans (HB6.out.mono HB.out.size)).trans (hT7.below (fun _ e => e.1) (Nat.le_trans HB.out.size HB6.out.size)))
            have HWn : Hid (K'.writes < 9223372036854775807) := hide HRn.out
            clear hT7 hK7
            go_wp2_with (first | (go_at_call 9; refine (num_kp _ _).mono ?_; rintro _ _ ⟨rfl, rfl⟩) | (go_at_call 22; refine (HK7.out.kinds d HD.out).mono ?_; rintro _ w8 ⟨rfl, hB8⟩; rw [HKi3.out]) | fail)
            go_ret
            exact ⟨rfl, HB7.out.trans (hB8.mono HB7.out.size)⟩
          · have HW3 := hide (HSw.out (.inr (by rw [← k1]; exact hk3)))
            have HKi3 := hide hki2
            clear HSw f1 f3 HKi2 HSr hki2 k1
            generalize K.kindOf d = kd at *
            have hkb : (kd == 3) = false := by simpa using hk3
            have hkb0 : (kd == 0) = false := by simpa using k2
            have hb3 : (f != 65) = true := by simpa using hf1
            rcases HW3.out with ⟨g1, g2⟩ | ⟨g1, g2⟩ | ⟨g1, g3, g2⟩
            all_goals
              have HMv := hide g2
              clear HW3
              go_wp2_with fail
              refine HCr.out.mono ?_
              rintro e w4 ⟨rfl, hB4⟩
              rw [HCv.out]
              have HB4 := hide hB4
              clear hB4
              go_wp2_with fail
              refine (HCw.out w4 HB4.out).mono ?_
              rintro e w5 ⟨rfl, hB5⟩
              rw [HMv.out]
              have HB5 := hide (HB4.out.trans (hB5.mono HB4.out.size))
              clear hB5
              go_wp2_with fail
              refine (HKi.out w5 HB5.out).mono ?_
              rintro e w6 ⟨rfl, hB6⟩
              have HB6 := hide (HB5.out.trans (hB6.mono HB5.out.size))
              clear hB6
              go_wp2_with fail
              refine (HRd.out w6 HB6.out).mono ?_
              rintro e w7 ⟨v7, rfl, -, hK7, hT7⟩
              have HT7 := hide hT7
              have HK7 := hide hK7
              have HB7 : Hid (Below w.heap.size w w7) := hide ((HB.out.trans (HB6.out.mono HB.out.size)).trans (hT7.below (fun _ e => e.1) (Nat.le_trans HB.out.size HB6.out.size)))
              have HWn : Hid (K'.writes < 9223372036854775807) := hide HRn.out
              clear hT7 hK7
              go_wp2_with (first | (go_at_call 9; refine (num_kp _ _).mono ?_; rintro _ _ ⟨rfl, rfl⟩) | fail)
              refine (HK7.out.kinds d HD.out).mono ?_
              rintro _ w77 ⟨rfl, hB77⟩
              rw [HKi3.out]
              have HK7 := hide (HK7.out.below hB77)
              have HB7 := hide (HB7.out.trans (hB77.mono HB7.out.size))
              have HS77 := hide hB77.size
              clear hB77
              go_wp2_with (first | (go_at_call 9; refine (num_kp _ _).mono ?_; rintro _ _ ⟨rfl, rfl⟩) | (at_make; refine wpList_make_full _ rfl _ _ 22 rfl w77.heap.size 5 i0 (.int .u8 0) 1 Try.underlying22 hi hz0 hz1 _ _ _ _ M rfl rfl rfl rfl (by rw [hz2]; have := HM.out; omega) (by have := HM.out; unfold maxLen; omega) (Nat.le_refl _) ?_; intro w8 hown8 hgrow8; have HZ8 := hide (kmade_zeros hown8 hgrow8); clear hown8 hgrow8) | fail)
              have HWr := hide ((HK7.out.below HZ8.out.2).write d (List.replicate M 0) (some ⟨w77.heap.size, 0, none⟩) M HD.out HWn.out (by rw [List.length_replicate]; exact HZ8.out.1) (by rw [List.length_replicate]; exact Nat.le_refl _) (by rw [List.length_replicate]; have := HM.out; omega) (fun _ j hj e => by
                have : j = w77.heap.size := by simpa [Value.ownBlock] using hj.symm
                have := HB6.out.size
                have := HT7.out.size
                have := HS77.out
                omega))
              rw [List.length_replicate] at HWr
              refine HWr.out.mono ?_
              rintro e w9 ⟨rfl, hS⟩
              obtain ⟨-, hB9⟩ := hS.at (B := w.heap.size) (fun _ e => e.1) (Nat.le_trans HB7.out.size HZ8.out.2.size)
              have HB9 := hide ((HB7.out.trans (HZ8.out.2.mono HB7.out.size)).trans hB9)
              clear hS hB9 HWr HZ8
              first | rw [g1] | (generalize (K'.write d (List.replicate M 0)).2.1 = gv at g1 g3 ⊢; have g1b : (gv == 65) = false := (by simpa using g1); have g3b : (gv == 52) = false := (by simpa using g3); have g1c : (gv != 65) = true := (by simpa using g1))
              go_wp2_with (first | (go_at_call 9; refine (num_kp _ _).mono ?_; rintro _ _ ⟨rfl, rfl⟩) | fail)
              go_ret
              exact ⟨rfl, HB9.out⟩
end Go.Proofs.Ytjnifkngcbaldaa

/- KernSays answers true for all setups, steps and numbers, within the reach of a machine's memory: a read or write that the kernel says would not wait does not, one that would does, and asking changes nothing. -/
namespace Go.Proofs.Ytjnifkngcbaldaa.kernSays
open Go.ChangeShapes Go.WideShapes Go.ChangeAt Go.RowKit
open Go.ChangeMaps (open_string shut_string)
set_option linter.unusedVariables false

theorem own : ownKnob Try.prog.godebug = none := by kernel_rfl
theorem laidOut : laidOutB Try.prog = true := by kernel_rfl

set_option maxRecDepth 100000 in
theorem lifted (os : Os) (started : os.Started) (H : Type) (enc : TypeId × Value → H) :
    ReturnsInHanded {} Try.checked os 5 .any (Rows.kernSaysSpec.pre6 enc Try.prog Try.f5 Rows.kernSaysRow.domain false) (Rows.kernSaysSpec.post enc Try.prog Try.f5 false true false false) := by
  refine returnsInHanded_of_change_sized (C := Try.checked) own started (by kernel_rfl) Try.func5
    (ChangeSpec.witness6 (enc := enc) (C := Try.checked) false ⟨#[], #[.agg #[.slice none 0 0, .slice none 0 0, .slice none 0 0], .slice none 0 0, .int .i64 0, .int .i64 0], []⟩ 8 (by kernel_rfl) (by kernel_rfl) (by kernel_rfl) (by kernel_rfl)) ?_
  intro W base args ds gs before hval0 hW hcnd0 hsz0 _
  have hsz : (DataW.weightsEach Try.prog (Try.f5.params.toList ++ Rows.kernSaysSpec.plain.varTypes Try.prog) (ds ++ gs)).all (· ≤ reachBytes) = true := hsz0
  clear hsz0
  have hval : ∀ (j : Nat) t v, Try.f5.params[j]? = some t → args[j]? = some v → Value.okWide Try.prog W .any base t v := hval0
  have hW' := hW
  obtain ⟨p, q, hA0, hV, rfl, hfz, hnd⟩ := hW
  have hA : DataW.TrodAll enc Try.prog W 0 (fun _ => true) true Try.f5.params.toList args.toList ds p := hA0
  rw [Try.params5] at hA hval hsz
  obtain ⟨v0, vs0, d0, ds0, p0, q0, hargs, rfl, rfl, h0, r0⟩ := trodAll_cons hA
  obtain ⟨v1, vs1, d1, ds1, p1, q1, rfl, rfl, rfl, h1, r1⟩ := trodAll_cons r0
  obtain ⟨v2, vs2, d2, ds2, p2, q2, rfl, rfl, rfl, h2, r2⟩ := trodAll_cons r1
  obtain ⟨v3, vs3, d3, ds3, p3, q3, rfl, rfl, rfl, h3, r3⟩ := trodAll_cons r2
  obtain ⟨rfl, rfl, rfl⟩ := trodAll_nil r3
  obtain rfl : args = #[v0, v1, v2, v3] := by cases args; simp_all
  obtain ⟨rfl, rfl⟩ := trodVars_none hV
  obtain ⟨c0, rfl, hc0⟩ := okWide_struct Try.underlying48 (hval 0 48 v0 rfl rfl)
  have k0 := h0
  have lt0 : ∀ x ∈ p0, x.block < W.heap.size := by obtain ⟨m, hm⟩ := k0; exact DataW.trod_lt m _ _ _ hm
  obtain ⟨fuel0, hf0⟩ := h0
  obtain ⟨fa0, fl0, fc0, ta0, tl0, tc0, ga0, gl0, gc0, dn0, dt0, dg0, sf0, qn0, qt0, qg0, hcl0, rfl, hfn0, hft0, hfg0⟩ := setup_cells Try.underlying48 (by kernel_rfl) rfl rfl rfl (by kernel_rfl) (by kernel_rfl) (by kernel_rfl) Try.underlying31 Try.underlying32 Try.underlying33 hf0
  obtain rfl : c0 = #[.slice fa0 fl0 fc0, .slice ta0 tl0 tc0, .slice ga0 gl0 gc0] := by cases c0; simpa [Value.cells] using hcl0
  obtain ⟨fs0, yf0, ef0⟩ := nms_arg Try.underlying31 Try.underlying30 (by kernel_rfl) rfl rfl (by kernel_rfl) (by kernel_rfl) Try.underlying9 Try.underlying22 Try.underlying5 (by kernel_rfl) hfn0
  obtain ⟨ts0, yt0, et0⟩ := tps_arg Try.underlying32 Try.underlying78 (by kernel_rfl) rfl rfl (by kernel_rfl) (by kernel_rfl) Try.underlying9 Try.underlying76 Try.underlying22 (by kernel_rfl) Try.underlying5 (by kernel_rfl) hft0
  obtain ⟨gg0, yg0, eg0⟩ := faults_arg Try.underlying33 Try.underlying124 (by kernel_rfl) rfl rfl (by kernel_rfl) (by kernel_rfl) Try.underlying3 Try.underlying3 hfg0
  obtain rfl : fl0 = fs0.length := by obtain ⟨_, _, e, _⟩ := yf0; cases e; rfl
  obtain rfl : tl0 = ts0.length := by obtain ⟨_, _, e, _⟩ := yt0; cases e; rfl
  obtain rfl : gl0 = gg0.length := by obtain ⟨_, _, e, _⟩ := flts_form yg0; cases e; rfl
  have sm0 : Small Try.prog 48 (.agg [dn0, dt0, dg0]) := small_arg hsz (j := 0) rfl rfl
  have zf0 := named_small (sm0.fields Try.underlying48 0 _ _ rfl rfl) Try.underlying31 (by kernel_rfl) Try.underlying30 Try.underlying22 (by kernel_rfl) ef0
  have zt0 := typed_small (sm0.fields Try.underlying48 1 _ _ rfl rfl) Try.underlying32 (by kernel_rfl) Try.underlying78 Try.underlying76 Try.underlying22 (by kernel_rfl) (by kernel_rfl) et0
  have zg0 := faults_small (sm0.fields Try.underlying48 2 _ _ rfl rfl) Try.underlying33 (by kernel_rfl) eg0
  obtain ⟨c1, len1, cap1, rfl⟩ := okWide_slice Try.underlying49 (hval 1 49 v1 rfl rfl)
  have k1 := h1
  have lt1 : ∀ x ∈ p1, x.block < W.heap.size := by obtain ⟨m, hm⟩ := k1; exact DataW.trod_lt m _ _ _ hm
  obtain ⟨fuel1, hf1⟩ := h1
  obtain ⟨l1, y1, e1⟩ := ksts_arg Try.underlying49 Try.underlying52 (by kernel_rfl) rfl rfl rfl rfl rfl rfl (by kernel_rfl) (by kernel_rfl) (by kernel_rfl) (by kernel_rfl) (by kernel_rfl) (by kernel_rfl) Try.underlying3 Try.underlying9 Try.underlying3 Try.underlying3 Try.underlying3 Try.underlying22 Try.underlying5 (by kernel_rfl) hf1
  obtain rfl : len1 = l1.length := by obtain ⟨_, _, e, _⟩ := y1; cases e; rfl
  have z1 := ksteps_small (small_arg hsz (j := 1) (t := 49) rfl rfl) Try.underlying49 (by kernel_rfl) Try.underlying52 Try.underlying22 (by kernel_rfl) e1
  obtain ⟨a2, rfl, rfl, rfl, w2⟩ := open_int Try.underlying3 (hval 2 3 v2 rfl rfl) h2
  have b2 := bounds_i64 w2
  obtain ⟨a3, rfl, rfl, rfl, w3⟩ := open_int Try.underlying3 (hval 3 3 v3 rfl rfl) h3
  have b3 := bounds_i64 w3
  clear hA0
  refine (kernSays_any _ _ _ _ _ _ _ _ fs0 ts0 gg0 l1 a2 a3 W yf0 yt0 yg0 y1 zf0 zt0 zg0 z1 ⟨b2.1, b2.2⟩).mono fun e W' ⟨he, bel⟩ => ?_
  subst he
  exact ⟨_, rfl, _, _, _, [], _, [], hW', trodAll_mk1 (shut_bool Try.underlying4 _), (trodAll_cons_mk (Below.trod laidOut (by kernel_rfl) (of_decide_eq_true (by kernel_rfl)) k0 bel lt0) (trodAll_cons_mk (Below.trod laidOut (by kernel_rfl) (of_decide_eq_true (by kernel_rfl)) k1 bel lt1) (trodAll_cons_mk (shut_int Try.underlying3 w2) (trodAll_cons_mk (shut_int Try.underlying3 w3) trodAll_mk0)))), rfl, bel.frame _, fun h => by cases h⟩

theorem over : Rows.kernSaysRow.holds Try.pinned (OpenSpec.ofChange Rows.kernSaysSpec) :=
  OpenClaim.holds_of_wide 5 Try.f5 rfl rfl rfl rfl rfl rfl rfl ⟨rfl, rfl, rfl, rfl, rfl⟩ rfl rfl rfl rfl rfl (by kernel_rfl) Try.func5 (by kernel_rfl)
    (of_decide_eq_true (by kernel_rfl)) (by unfold Func.isWrapper; first | (rw [if_pos (by decide +kernel)]; kernel_rfl) | (rw [if_neg (by decide +kernel)]; exact ⟨rfl, rfl⟩))
    (fun os started H enc _ => lifted os started H enc)
end Go.Proofs.Ytjnifkngcbaldaa.kernSays
namespace Go.Proofs.Ytjnifkngcbaldaa
theorem kernSays_holds : Rows.KernSaysSaid := kernSays.over
#print axioms kernSays_holds
end Go.Proofs.Ytjnifkngcbaldaa
