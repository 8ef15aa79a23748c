/- What the proof stands on, part 16: the contracts of the program's calls that it reaches. -/
import Derived.Test.YtkkicbhmcjbmbaaGreatKM15
import Derived.ProofKit
import Derived.OpenShut
import Derived.ChangeArms
import Derived.ChangeSlices
import Derived.SizedLaws
import Derived.Deep.Slices
/- KernSays: what a read, a write and the questions ahead of them say, as values. No program. -/
namespace Go.Proofs.YtkkicbhmcjbmbaaGreat
open Go.RowKit

/-- num. -/
theorem num_kp (x : Int) (w : World) : Calls Tryz.prog 10 #[.int .i64 x] w fun e w' => e = .returned (.int .i64 x) ∧ w = w' := by
  go_enter Tryz.func10, Tryz.ntmps10
  go_wp2
  go_ret
  exact ⟨rfl, rfl⟩

theorem nxt_err {l : List Fault} {want : Int} (h1 : 1 ≤ want) (h2 : want ≤ 1048576) : (nxt l want).2 = 0 ∨ (nxt l want).2 = 22 ∨ (nxt l want).2 = 23 := by
  unfold nxt
  rw [if_neg (by omega)]
  cases l with
  | nil => exact .inl rfl
  | cons f r =>
    simp only
    split
    · exact .inl rfl
    · split
      · exact .inr (.inl rfl)
      · split
        · exact .inr (.inr rfl)
        · exact .inl rfl
theorem inN_of {n : Int} (h1 : 1 ≤ n) (h2 : n ≤ 1048576) : inN n = true := by simp [inN, h1, h2]
theorem read_says {K : KS} {d n : Int} {x : De} (ok : planOk K.plan) (hx : K.find d = some x) (h1 : 1 ≤ n) (h2 : n ≤ 1048576) :
    (fbit x.flags 1 = 0 ∧ (K.read d n).2.1 = 65 ∧ (K.read d n).2.2 = K ∧ K.canRead d = false) ∨
    (fbit x.flags 1 ≠ 0 ∧ (K.read d n).2.1 = 52 ∧ (K.read d n).2.2 = K ∧ K.canRead d = false ∧ (K.tho x).kind = 3) ∨
    (fbit x.flags 1 ≠ 0 ∧ ((K.read d n).2.1 = 0 ∨ (K.read d n).2.1 = 22 ∨ (K.read d n).2.1 = 23) ∧ K.canRead d = true) := by
  by_cases hf : fbit x.flags 1 = 0
  · left
    have e : K.read d n = ([], 65, K) := by unfold KS.read; rw [hx]; simp only; rw [if_pos hf]
    rw [e, KS.canRead_some hx, hf]
    exact ⟨rfl, rfl, rfl, rfl⟩
  · right
    have hb : (!(fbit x.flags 1 == 0)) = true := by simpa using hf
    by_cases hw : (K.tho x).waits = true
    · left
      have e : K.read d n = ([], 52, K) := by
        unfold KS.read; rw [hx]; simp only; rw [if_neg hf, if_neg (by omega), if_neg (by omega), if_pos hw]
      rw [e, KS.canRead_some hx, hb]
      cases ho : K.tho x with
      | file b => rw [ho] at hw; cases hw
      | term ls scr => rw [ho] at hw; cases hw
      | pipe q rd wt =>
        rw [ho] at hw
        exact ⟨hf, rfl, rfl, by simpa [Ob.waits] using hw, rfl⟩
    · right
      have hw' : (K.tho x).waits = false := by simpa using hw
      rw [read_is hx hf h1 h2 hw', KS.canRead_some hx, hb]
      refine ⟨hf, ?_, ?_⟩
      · rcases nxt_err (l := K.plan) h1 h2 with e | e | e
        · rw [if_pos e]
          have hm := nxt_good ok h1 h2 e
          left
          unfold KS.rdx
          rw [show K.readUp.tho x = K.tho x from rfl]
          cases ho : K.tho x with
          | file b => rfl
          | term ls scr =>
            show Te_rdE (nxt K.plan n).1 = 0
            unfold Te_rdE
            rw [if_pos (show rOk (nxt K.plan n).1 = true by unfold rOk; exact decide_eq_true ⟨hm.1, by omega⟩)]
          | pipe q rd wt =>
            show Kp_rdE (nxt K.plan n).1 q.length rd wt = 0
            rw [ho] at hw'
            have hc : canR q.length rd wt = true := by simpa [Ob.waits] using hw'
            unfold Kp_rdE
            rw [inN_of hm.1 (by omega)]
            unfold canR at hc
            simp only [Bool.and_eq_true, decide_eq_true_eq, Bool.not_eq_true', decide_eq_false_iff_not] at hc
            rw [if_neg (by decide), if_neg (by omega), if_neg (by simpa using hc.2)]
        · rw [if_neg (by omega)]; exact .inr (.inl e)
        · rw [if_neg (by omega)]; exact .inr (.inr e)
      · cases ho : K.tho x with
        | file b => rfl
        | term ls scr => rfl
        | pipe q rd wt => rw [ho] at hw'; simpa [Ob.waits] using hw'
theorem find_setDe {K : KS} {d : Int} {x x' : De} (hx : K.find d = some x) (hn : x'.n = x.n) : (K.setDe x').find d = some x' := by
  unfold KS.find KS.setDe at *
  generalize K.de = l at *
  induction l with
  | nil => simp at hx
  | cons y r ih =>
    have hxn := List.find?_some hx
    simp only [decide_eq_true_eq] at hxn
    simp only [List.map_cons, List.find?_cons] at hx ⊢
    by_cases e : y.n = x'.n
    · rw [if_pos e]
      rw [show decide ((x'.n : Int) = d) = true by simpa [hn] using hxn]
    · rw [if_neg e]
      have e2 : decide ((y.n : Int) = d) = false := by
        simp only [decide_eq_false_iff_not]; intro h; apply e; rw [hn]; omega
      rw [e2] at hx ⊢
      exact ih hx
theorem kind_set {K : KS} (j i : Nat) (ob : Ob) (h : ob.kind = (K.obOf i).kind) : ((K.setOb i ob).obOf j).kind = (K.obOf j).kind := by
  by_cases hi : i < K.th.length
  · exact KS.kind_setOb hi (by rw [h, KS.obOf_eq hi]) j
  · have : K.setOb i ob = K := by
      unfold KS.setOb
      rw [List.modify_eq_self (by omega)]
    rw [this]
theorem read_find {K : KS} {d n : Int} {x : De} (hx : K.find d = some x) : ∃ x', (K.read d n).2.2.find d = some x' ∧ x'.flags = x.flags ∧ ((K.read d n).2.2.tho x').kind = (K.tho x).kind := by
  unfold KS.read
  rw [hx]
  simp only
  split
  · exact ⟨x, hx, rfl, rfl⟩
  split
  · exact ⟨x, hx, rfl, rfl⟩
  split
  · exact ⟨x, hx, rfl, rfl⟩
  split
  · exact ⟨x, hx, rfl, rfl⟩
  split
  · cases ho : K.tho x with
    | file b =>
      refine ⟨_, find_setDe (K := K.readUp) (x := x) hx rfl, rfl, ?_⟩
      show (K.tho x).kind = _
      rw [ho]
    | term ls scr =>
      refine ⟨x, hx, rfl, ?_⟩
      show ((K.readUp.setOb x.th _).obOf x.th).kind = _
      rw [kind_set (K := K.readUp) x.th x.th _ (by show _ = (K.tho x).kind; rw [ho]; rfl)]
      show (K.tho x).kind = _
      rw [ho]
    | pipe q rd wt =>
      refine ⟨x, hx, rfl, ?_⟩
      show ((K.readUp.setOb x.th _).obOf x.th).kind = _
      rw [kind_set (K := K.readUp) x.th x.th _ (by show _ = (K.tho x).kind; rw [ho]; rfl)]
      show (K.tho x).kind = _
      rw [ho]
  · exact ⟨x, hx, rfl, rfl⟩
theorem refusal_vals (ob : Ob) (fl : Int) (p : Nat) (n : Int) : refusal ob fl p n = 0 ∨ refusal ob fl p n = 31 ∨ refusal ob fl p n = 53 ∨ refusal ob fl p n = 52 := by
  unfold refusal
  cases ob with
  | file f => simp only; split <;> simp
  | term ls scr => simp only; split <;> simp
  | pipe q rd wt => simp only; split <;> (try split) <;> simp
theorem refusal_soft {ob : Ob} (h : ob.kind ≠ 3) (fl : Int) (p : Nat) (n : Int) : refusal ob fl p n ≠ 52 := by
  unfold refusal
  cases ob with
  | file f => simp only; split <;> decide
  | term ls scr => simp only; split <;> decide
  | pipe q rd wt => exact absurd rfl h
theorem fit_some {n m c : Nat} (h : 0 < fitN n n c) (hm : 1 ≤ m) : fitN n m c ≠ 0 := by
  unfold fitN at h ⊢
  by_cases e : 512 < n
  · rw [if_pos e] at h ⊢; omega
  · rw [if_neg e] at h ⊢; exact Nat.ne_of_gt h
theorem write_says {K : KS} {d : Int} {b : List UInt8} {x : De} (ok : planOk K.plan) (hx : K.find d = some x) (h1 : 1 ≤ b.length) (h2 : b.length ≤ 1048576) :
    (fbit x.flags 2 = 0 ∧ (K.write d b).2.1 = 65) ∨ (fbit x.flags 2 ≠ 0 ∧ refusal (K.tho x) x.flags x.pos b.length = 52 ∧ (K.write d b).2.1 = 52) ∨
    (fbit x.flags 2 ≠ 0 ∧ refusal (K.tho x) x.flags x.pos b.length ≠ 52 ∧ (K.write d b).2.1 ≠ 65 ∧ (K.write d b).2.1 ≠ 52) := by
  by_cases hf : fbit x.flags 2 = 0
  · left
    refine ⟨hf, ?_⟩
    unfold KS.write; rw [hx]; simp only; rw [if_pos hf]
  · right
    have ne : refusal (K.tho x) x.flags x.pos b.length ≠ 0 → (K.write d b).2.1 = refusal (K.tho x) x.flags x.pos b.length := fun hr => by
      unfold KS.write; rw [hx]; simp only; rw [if_neg hf, if_neg (by omega), if_neg (by omega), if_neg hr]
    rcases refusal_vals (K.tho x) x.flags x.pos b.length with e | e | e | e
    · right
      refine ⟨hf, by omega, ?_⟩
      rw [write_is hx hf h1 h2 e]
      have h1' : (1 : Int) ≤ (b.length : Int) := by omega
      have h2' : (b.length : Int) ≤ 1048576 := by omega
      rcases nxt_err (l := K.plan) h1' h2' with e1 | e1 | e1
      · rw [if_pos e1]
        have hm := nxt_good ok h1' h2' e1
        unfold KS.wrx
        rw [show K.writeUp.tho x = K.tho x from rfl]
        cases ho : K.tho x with
        | file f => exact ⟨by simp, by simp⟩
        | term ls scr => exact ⟨by simp, by simp⟩
        | pipe q rd wt =>
          show Kp_wrE b.length (nxt K.plan b.length).1 q.length rd wt ≠ 65 ∧ Kp_wrE b.length (nxt K.plan b.length).1 q.length rd wt ≠ 52
          rw [ho] at e
          unfold refusal at e
          simp only at e
          by_cases hr : rd = 0
          · rw [if_pos hr] at e; cases e
          rw [if_neg hr] at e
          have hc : canW b.length q.length rd wt = true := by
            cases hcw : canW b.length q.length rd wt with
            | true => rfl
            | false => rw [hcw] at e; simp at e
          unfold canW at hc
          simp only [Bool.and_eq_true, decide_eq_true_eq, Bool.or_eq_true, Int.toNat_natCast] at hc
          obtain ⟨_, hwt, hfit⟩ := hc
          have hfit : 0 < fitN b.length b.length q.length := by rcases hfit with h | h <;> omega
          have : fitN b.length (nxt K.plan b.length).1.toNat q.length ≠ 0 := by
            exact fit_some hfit (by omega)
          have hre : refE b.length (nxt K.plan b.length).1 rd wt = 0 := by
            unfold refE
            rw [if_neg (by omega), inN_of hm.1 (by omega), if_neg (by decide), if_neg (by omega), if_neg hr]
          have : Kp_wrE b.length (nxt K.plan b.length).1 q.length rd wt = 0 := by
            unfold Kp_wrE
            rw [if_pos hre, if_neg (by omega), if_neg this]
          omega
      · rw [if_neg (by omega)]
        show (nxt K.plan b.length).2 ≠ 65 ∧ (nxt K.plan b.length).2 ≠ 52
        omega
      · rw [if_neg (by omega)]
        show (nxt K.plan b.length).2 ≠ 65 ∧ (nxt K.plan b.length).2 ≠ 52
        omega
    · right; rw [ne (by omega)]; exact ⟨hf, by omega, by omega, by omega⟩
    · right; rw [ne (by omega)]; exact ⟨hf, by omega, by omega, by omega⟩
    · left; rw [ne (by omega)]; exact ⟨hf, e, e⟩
theorem canWriteP_is {K : KS} {d n : Int} {x : De} (hx : K.find d = some x) (h1 : 1 ≤ n) (h2 : n ≤ 1048576) : K.canWriteP d n = (bit x.flags 2 && !(refusal (K.tho x) x.flags x.pos n == 52)) := by
  unfold KS.canWriteP
  rw [hx]
  simp only
  rw [inN_of h1 h2, Bool.true_and]
theorem kindOf_none {K : KS} {d : Int} (h : K.find d = none) : K.kindOf d = 0 ∧ K.canRead d = false ∧ ∀ n, K.canWriteP d n = false := by
  refine ⟨?_, KS.canRead_none h, fun n => ?_⟩
  · unfold KS.kindOf; rw [h]
  · unfold KS.canWriteP; rw [h]
theorem kindOf_some {K : KS} {d : Int} {x : De} (h : K.find d = some x) : K.kindOf d = (K.tho x).kind ∧ K.kindOf d ≠ 0 := by
  have : K.kindOf d = (K.tho x).kind := by unfold KS.kindOf; rw [h]
  refine ⟨this, ?_⟩
  rw [this]
  cases K.tho x <;> simp [Ob.kind]
/-- A write behind a question and a read: it waits just if the question said so. -/
theorem says_write {K K' : KS} {d n : Int} {x x' : De} {b : List UInt8} (ok' : planOk K'.plan) (hx : K.find d = some x) (hx' : K'.find d = some x') (hfl : x'.flags = x.flags) (hk : (K'.tho x').kind = (K.tho x).kind) (hs : K' = K ∨ (K.tho x).kind ≠ 3) (hn : (b.length : Int) = n) (h1 : 1 ≤ n) (h2 : n ≤ 1048576) :
    ((K'.write d b).2.1 = 65 ∧ K.canWriteP d n = false) ∨ ((K'.write d b).2.1 = 52 ∧ K.canWriteP d n = false) ∨ ((K'.write d b).2.1 ≠ 65 ∧ (K'.write d b).2.1 ≠ 52 ∧ K.canWriteP d n = true) := by
  rw [canWriteP_is hx h1 h2]
  have hsoft : refusal (K'.tho x') x'.flags x'.pos b.length = 52 ↔ refusal (K.tho x) x.flags x.pos n = 52 := by
    rcases hs with rfl | hs
    · rw [hx] at hx'
      cases hx'
      rw [hn]
    · have a := refusal_soft hs x.flags x.pos n
      have b := refusal_soft (ob := K'.tho x') (by rw [hk]; exact hs) x'.flags x'.pos b.length
      exact ⟨fun e => absurd e b, fun e => absurd e a⟩
  rcases write_says (b := b) ok' hx' (by omega) (by omega) with ⟨a1, a2⟩ | ⟨a1, a2, a3⟩ | ⟨a1, a2, a3, a4⟩
  · left; refine ⟨a2, ?_⟩; rw [bit_no (by rw [← hfl]; exact a1)]; rfl
  · right; left; refine ⟨a3, ?_⟩; rw [hsoft.1 a2]; simp
  · right; right
    refine ⟨a3, a4, ?_⟩
    rw [bit_yes (by rw [← hfl]; exact a1)]
    simpa using fun e => a2 (hsoft.2 e)
theorem plan_read {K : KS} (h : planOk K.plan) (d n : Int) : planOk (K.read d n).2.2.plan := by
  unfold KS.read
  split
  · exact h
  split
  · exact h
  split
  · exact h
  split
  · exact h
  split
  · exact h
  split
  · split
    · exact h.tail
    · exact h.tail
    · exact h.tail
  · exact h.tail
end Go.Proofs.YtkkicbhmcjbmbaaGreat

/- Calls of a kernel that no New made: nil, or an empty one. -/
namespace Go.Proofs.YtkkicbhmcjbmbaaGreat
open Go.RowKit Go.Maps

/-- No New made it. -/
def Unmade (p : Option Addr) (w : World) : Prop := p = none ∨ ∃ g, p = some ⟨g, 0, none⟩ ∧ w.cell? ⟨g, 0, none⟩ = some (.bool false)
theorem Unmade.below {p : Option Addr} {w w' : World} (h : Unmade p w) (hB : Below w.heap.size w w') : Unmade p w' := by
  rcases h with h | ⟨g, h1, h2⟩
  · exact .inl h
  · exact .inr ⟨g, h1, (hB.cell (p := ⟨g, 0, none⟩) (World.block_lt_of_cell? w _ h2)).trans h2⟩
set_option maxRecDepth 100000 in
theorem made_no (p : Option Addr) (w : World) (h : Unmade p w) : Calls Tryz.prog 108 #[.pointer p] w fun e w' => e = .returned (.bool false) ∧ w = w' := by
  rcases h with rfl | ⟨g, rfl, hc⟩
  · exact (kmade_nil w).mono fun _ _ ⟨a, b⟩ => ⟨a, b.symm⟩
  · go_enter Tryz.func108, Tryz.ntmps108
    go_wp2
    go_ret
    exact ⟨rfl, rfl⟩
set_option maxRecDepth 100000 in
theorem described_no (p : Option Addr) (d : Int) (w : World) (h : Unmade p w) : Calls Tryz.prog 134 #[.pointer p, .int .i64 d] w fun e w' => e = .returned (.tuple #[.pointer none, .int .i64 2]) ∧ w = w' := by
  have HM := hide (made_no p w h)
  go_enter Tryz.func134, Tryz.ntmps134
  go_wp2_with fail
  refine HM.out.mono ?_
  rintro e w1 ⟨rfl, rfl⟩
  go_wp2
  go_ret2
  exact ⟨rfl, rfl⟩
set_option maxRecDepth 100000 in
set_option maxHeartbeats 1000000 in
theorem open_no (p : Option Addr) (s : ByteArray) (f : Int) (w : World) (h : Unmade p w) : Calls Tryz.prog 29 #[.pointer p, .string s, .int .i64 f] w fun e w' => e = .returned (.tuple #[.int .i64 0, .int .i64 2]) ∧ w = w' := by
  have HM := hide (made_no p w h)
  clear h
  go_enter Tryz.func29, Tryz.ntmps29
  go_wp2_with fail
  refine HM.out.mono ?_
  rintro e w1 ⟨rfl, rfl⟩
  go_wp2
  go_ret2
  exact ⟨rfl, rfl⟩
set_option maxRecDepth 100000 in
set_option maxHeartbeats 1000000 in
theorem pipe_no (p : Option Addr) (w : World) (h : Unmade p w) : Calls Tryz.prog 27 #[.pointer p] w fun e w' => e = .returned (.tuple #[.int .i64 0, .int .i64 0, .int .i64 2]) ∧ w = w' := by
  have HM := hide (made_no p w h)
  clear h
  go_enter Tryz.func27, Tryz.ntmps27
  go_wp2_with fail
  refine HM.out.mono ?_
  rintro e w1 ⟨rfl, rfl⟩
  go_wp2
  go_ret3
  exact ⟨rfl, rfl⟩
set_option maxRecDepth 100000 in
set_option maxHeartbeats 1000000 in
theorem read_no (p : Option Addr) (d n : Int) (w : World) (h : Unmade p w) : Calls Tryz.prog 52 #[.pointer p, .int .i64 d, .int .i64 n] w fun e w' => e = .returned (.tuple #[.slice none 0 0, .int .i64 2]) ∧ w = w' := by
  have HM := hide (described_no p d w h)
  clear h
  go_enter Tryz.func52, Tryz.ntmps52
  go_wp2_with fail
  refine HM.out.mono ?_
  rintro e w1 ⟨rfl, rfl⟩
  go_wp2
  go_ret2
  exact ⟨rfl, rfl⟩
set_option maxRecDepth 100000 in
set_option maxHeartbeats 1000000 in
theorem write_no (p : Option Addr) (d : Int) (a : Option Addr) (n c : Nat) (w : World) (h : Unmade p w) : Calls Tryz.prog 55 #[.pointer p, .int .i64 d, .slice a n c] w fun e w' => e = .returned (.tuple #[.int .i64 0, .int .i64 2]) ∧ w = w' := by
  have HM := hide (described_no p d w h)
  clear h
  go_enter Tryz.func55, Tryz.ntmps55
  go_wp2_with fail
  refine HM.out.mono ?_
  rintro e w1 ⟨rfl, rfl⟩
  go_wp2
  go_ret2
  exact ⟨rfl, rfl⟩
set_option maxRecDepth 100000 in
set_option maxHeartbeats 1000000 in
theorem seek_no (p : Option Addr) (d o i : Int) (w : World) (h : Unmade p w) : Calls Tryz.prog 58 #[.pointer p, .int .i64 d, .int .i64 o, .int .i64 i] w fun e w' => e = .returned (.tuple #[.int .i64 0, .int .i64 2]) ∧ w = w' := by
  have HM := hide (described_no p d w h)
  clear h
  go_enter Tryz.func58, Tryz.ntmps58
  go_wp2_with fail
  refine HM.out.mono ?_
  rintro e w1 ⟨rfl, rfl⟩
  go_wp2
  go_ret2
  exact ⟨rfl, rfl⟩
set_option maxRecDepth 100000 in
set_option maxHeartbeats 1000000 in
theorem keep_no (p : Option Addr) (d : Int) (w : World) (h : Unmade p w) : Calls Tryz.prog 60 #[.pointer p, .int .i64 d] w fun e w' => e = .returned (.int .i64 2) ∧ w = w' := by
  have HM := hide (described_no p d w h)
  clear h
  go_enter Tryz.func60, Tryz.ntmps60
  go_wp2_with fail
  refine HM.out.mono ?_
  rintro e w1 ⟨rfl, rfl⟩
  go_wp2
  go_ret
  exact ⟨rfl, rfl⟩
set_option maxRecDepth 100000 in
set_option maxHeartbeats 1000000 in
theorem drop_no (p : Option Addr) (d : Int) (w : World) (h : Unmade p w) : Calls Tryz.prog 62 #[.pointer p, .int .i64 d] w fun e w' => e = .returned (.int .i64 2) ∧ w = w' := by
  have HM := hide (described_no p d w h)
  clear h
  go_enter Tryz.func62, Tryz.ntmps62
  go_wp2_with fail
  refine HM.out.mono ?_
  rintro e w1 ⟨rfl, rfl⟩
  go_wp2
  go_ret
  exact ⟨rfl, rfl⟩
set_option maxRecDepth 100000 in
set_option maxHeartbeats 1000000 in
theorem canRead_no (p : Option Addr) (d : Int) (w : World) (h : Unmade p w) : Calls Tryz.prog 74 #[.pointer p, .int .i64 d] w fun e w' => e = .returned (.bool false) ∧ w = w' := by
  have HM := hide (described_no p d w h)
  clear h
  go_enter Tryz.func74, Tryz.ntmps74
  go_wp2_with fail
  refine HM.out.mono ?_
  rintro e w1 ⟨rfl, rfl⟩
  go_wp2
  go_ret
  exact ⟨rfl, rfl⟩
set_option maxRecDepth 100000 in
set_option maxHeartbeats 1000000 in
theorem canWrite_no (p : Option Addr) (d n : Int) (w : World) (h : Unmade p w) : Calls Tryz.prog 76 #[.pointer p, .int .i64 d, .int .i64 n] w fun e w' => e = .returned (.bool false) ∧ w = w' := by
  have HM := hide (described_no p d w h)
  clear h
  go_enter Tryz.func76, Tryz.ntmps76
  go_wp2_with fail
  refine HM.out.mono ?_
  rintro e w1 ⟨rfl, rfl⟩
  go_wp2
  go_ret
  exact ⟨rfl, rfl⟩
set_option maxRecDepth 100000 in
set_option maxHeartbeats 1000000 in
theorem kind_no (p : Option Addr) (d : Int) (w : World) (h : Unmade p w) : Calls Tryz.prog 72 #[.pointer p, .int .i64 d] w fun e w' => e = .returned (.int .i64 0) ∧ w = w' := by
  have HM := hide (described_no p d w h)
  clear h
  go_enter Tryz.func72, Tryz.ntmps72
  go_wp2_with fail
  refine HM.out.mono ?_
  rintro e w1 ⟨rfl, rfl⟩
  go_wp2
  go_ret
  exact ⟨rfl, rfl⟩
set_option maxRecDepth 100000 in
set_option maxHeartbeats 1000000 in
theorem calls_no (p : Option Addr) (w : World) (h : Unmade p w) : Calls Tryz.prog 64 #[.pointer p] w fun e w' => e = .returned (.tuple #[.int .i64 0, .int .i64 0]) ∧ w = w' := by
  have HM := hide (made_no p w h)
  clear h
  go_enter Tryz.func64, Tryz.ntmps64
  go_wp2_with fail
  refine HM.out.mono ?_
  rintro e w1 ⟨rfl, rfl⟩
  go_wp2
  go_ret2
  exact ⟨rfl, rfl⟩
set_option maxRecDepth 100000 in
set_option maxHeartbeats 1000000 in
theorem rest_no (p : Option Addr) (w : World) (h : Unmade p w) : Calls Tryz.prog 69 #[.pointer p] w fun e w' => e = .returned (.slice none 0 0) ∧ w = w' := by
  have HM := hide (made_no p w h)
  clear h
  go_enter Tryz.func69, Tryz.ntmps69
  go_wp2_with fail
  refine HM.out.mono ?_
  rintro e w1 ⟨rfl, rfl⟩
  go_wp2
  go_ret
  exact ⟨rfl, rfl⟩
set_option maxRecDepth 100000 in
set_option maxHeartbeats 1000000 in
theorem files_no (p : Option Addr) (w : World) (h : Unmade p w) : Calls Tryz.prog 66 #[.pointer p] w fun e w' => e = .returned (.slice none 0 0) ∧ w = w' := by
  have HM := hide (made_no p w h)
  clear h
  go_enter Tryz.func66, Tryz.ntmps66
  go_wp2_with fail
  refine HM.out.mono ?_
  rintro e w1 ⟨rfl, rfl⟩
  go_wp2
  go_ret
  exact ⟨rfl, rfl⟩
set_option maxRecDepth 100000 in
set_option maxHeartbeats 1000000 in
theorem held_no (p : Option Addr) (d : Int) (w : World) (h : Unmade p w) : Calls Tryz.prog 78 #[.pointer p, .int .i64 d] w fun e w' => e = .returned (.slice none 0 0) ∧ w = w' := by
  have HM := hide (described_no p d w h)
  clear h
  go_enter Tryz.func78, Tryz.ntmps78
  go_wp2_with fail
  refine HM.out.mono ?_
  rintro e w1 ⟨rfl, rfl⟩
  go_wp2
  go_ret
  exact ⟨rfl, rfl⟩
set_option maxRecDepth 100000 in
set_option maxHeartbeats 1000000 in
theorem screen_no (p : Option Addr) (s : ByteArray) (w : World) (h : Unmade p w) : Calls Tryz.prog 71 #[.pointer p, .string s] w fun e w' => e = .returned (.tuple #[.slice none 0 0, .bool false]) ∧ w = w' := by
  have HM := hide (made_no p w h)
  clear h
  go_enter Tryz.func71, Tryz.ntmps71
  go_wp2_with fail
  refine HM.out.mono ?_
  rintro e w1 ⟨rfl, rfl⟩
  go_wp2
  go_ret2
  exact ⟨rfl, rfl⟩
set_option maxRecDepth 100000 in
theorem kcalls_any (ρ : Nat → Option PTag) (I : PI) (K : KS) (w : World) (h : PK w ρ I K) :
    Calls Tryz.prog 64 #[.pointer (some ⟨I.kb, 0, none⟩)] w fun e w' => e = .returned (.tuple #[.int .i64 K.reads, .int .i64 K.writes]) ∧ Below w.heap.size w w' := by
  have c6 := h.cells.reads
  have c7 := h.cells.writes
  have HM := hide (kmade_any I.kb w h.cells.made)
  clear h
  go_enter Tryz.func64, Tryz.ntmps64
  go_wp2_with fail
  refine HM.out.mono ?_
  rintro e w1 ⟨rfl, rfl⟩
  go_wp2_with fail
  go_quiet (fail)
  go_wp2
  go_ret2
  exact ⟨rfl, below_drewN (Below.refl _ _) _⟩
set_option maxRecDepth 100000 in
set_option maxHeartbeats 1000000 in
theorem kscreen_no (ρ : Nat → Option PTag) (I : PI) (K : KS) (s : ByteArray) (w : World) (h : PK w ρ I K) (hs : s.size ≤ maxLen) (hn : ∀ i ∈ K.nm, (K.obOf i).kind = 2 → K.nameOf i ≠ s) :
    Calls Tryz.prog 71 #[.pointer (some ⟨I.kb, 0, none⟩), .string s] w fun e w' => e = .returned (.tuple #[.slice none 0 0, .bool false]) ∧ w = w' := by
  have c2 := h.cells.terms
  have hl := miss_term h hs hn true
  simp only [if_true] at hl
  have HM := hide (kmade_any I.kb w h.cells.made)
  clear h
  go_enter Tryz.func71, Tryz.ntmps71
  go_wp2_with fail
  refine HM.out.mono ?_
  rintro e w1 ⟨rfl, rfl⟩
  go_wp2
  go_ret2
  exact ⟨rfl, rfl⟩
theorem tscreen_any (O : Nat → Prop) (p : Nat) (ls : List (List UInt8)) (scr : List UInt8) (w : World) (h : PObj w O p (.term ls scr)) :
    Calls Tryz.prog 157 #[.pointer (some ⟨p, 0, none⟩)] w fun e w' => ∃ v, e = .returned v ∧ w'.ownsRow w.heap.size 5 1 v scr.length (scr.map bv) ∧ Below w.heap.size w w' :=
  (po_tscreen O p ls scr w h).mono fun _ _ ⟨a, b, c⟩ => ⟨_, a, b, c⟩
set_option maxRecDepth 100000 in
set_option maxHeartbeats 1000000 in
theorem kscreen_yes (ρ : Nat → Option PTag) (I : PI) (K : KS) (s : ByteArray) (w : World) (h : PK w ρ I K) (hs : s.size ≤ maxLen) (i : Nat) (hi : i ∈ K.nm) (hn : K.nameOf i = s) (ls : List (List UInt8)) (scr : List UInt8) (ho : K.obOf i = .term ls scr) :
    Calls Tryz.prog 71 #[.pointer (some ⟨I.kb, 0, none⟩), .string s] w fun e w' => ∃ v, e = .returned (.tuple #[v, .bool true]) ∧ w'.ownsRow w.heap.size 5 1 v scr.length (scr.map bv) ∧ Below w.heap.size w w' := by
  have hith := h.ok.nm i hi
  have c2 := h.cells.terms
  have hl := look_term h hs hi hn (by rw [ho]; rfl) true
  simp only [if_true] at hl
  have hob := h.comp (.obj i) hith
  have hoe : K.th[i].ob = .term ls scr := by rw [← KS.obOf_eq hith, ho]
  rw [hoe] at hob
  have HS := hide (tscreen_any _ _ ls scr w hob)
  have hcb := (h.comp (.cons i) hith ls scr hoe).1
  have c0 : w.cell? ⟨I.cb i, 0, none⟩ = some (.pointer (some ⟨I.ob i, 0, none⟩)) := by rw [cell_of_row _ _ _ _ _ _ hcb]; rfl
  have HM := hide (kmade_any I.kb w h.cells.made)
  clear h hob hcb
  go_enter Tryz.func71, Tryz.ntmps71
  go_wp2_with fail
  refine HM.out.mono ?_
  rintro e w1 ⟨rfl, rfl⟩
  go_wp2_with fail
  refine HS.out.mono ?_
  rintro e w2 ⟨v, rfl, hO, hB⟩
  have HO := hide hO
  have HB := hide hB
  clear hO hB
  go_wp2
  go_ret2
  exact ⟨v, rfl, HO.out, HB.out⟩
theorem KAt.calls {w : World} {O : Nat → Prop} {kb : Nat} {K : KS} (h : KAt w O kb K) : Calls Tryz.prog 64 #[.pointer (some ⟨kb, 0, none⟩)] w fun e w' => e = .returned (.tuple #[.int .i64 K.reads, .int .i64 K.writes]) ∧ Below w.heap.size w w' := by
  obtain ⟨ρ, I, h1, rfl, h3⟩ := h
  exact kcalls_any ρ I K w h1
theorem KAt.screen {w : World} {O : Nat → Prop} {kb : Nat} {K : KS} (h : KAt w O kb K) (s : ByteArray) (hs : s.size ≤ maxLen) (i : Nat) (hi : i ∈ K.nm) (hn : K.nameOf i = s) (ls : List (List UInt8)) (scr : List UInt8) (ho : K.obOf i = .term ls scr) :
    Calls Tryz.prog 71 #[.pointer (some ⟨kb, 0, none⟩), .string s] w fun e w' => ∃ v, e = .returned (.tuple #[v, .bool true]) ∧ w'.ownsRow w.heap.size 5 1 v scr.length (scr.map bv) ∧ Below w.heap.size w w' := by
  obtain ⟨ρ, I, h1, rfl, h3⟩ := h
  exact kscreen_yes ρ I K s w h1 hs i hi hn ls scr ho
end Go.Proofs.YtkkicbhmcjbmbaaGreat

/- The law's examples. -/
namespace Go.Proofs.YtkkicbhmcjbmbaaGreat
open Go.RowKit Go.Maps

def exK0 : KS := KS.new [(⟨#[97]⟩, [104, 101, 108, 108, 111])] [] [(1, 2), (2, 0)]
def exK1 : KS := (exK0.open ⟨#[97]⟩ 1).2.2
theorem ex1 : (exK0.open ⟨#[97]⟩ 1).1 = 1 ∧ (exK0.open ⟨#[97]⟩ 1).2.1 = 0 := by constructor <;> rfl
def exK2 : KS := (exK1.read 1 5).2.2
theorem ex2 : (exK1.read 1 5).1 = [104, 101] ∧ (exK1.read 1 5).2.1 = 0 := by constructor <;> rfl
def exK3 : KS := (exK2.read 1 5).2.2
theorem ex3 : (exK2.read 1 5).1 = [] ∧ (exK2.read 1 5).2.1 = 22 := by constructor <;> rfl
def exK4 : KS := (exK3.read 1 5).2.2
theorem ex4 : (exK3.read 1 5).1 = [108, 108, 111] ∧ (exK3.read 1 5).2.1 = 0 := by constructor <;> rfl
def exK5 : KS := (exK4.open ⟨#[98]⟩ 1).2.2
theorem ex5 : (exK4.open ⟨#[98]⟩ 1).1 = 0 ∧ (exK4.open ⟨#[98]⟩ 1).2.1 = 62 := by constructor <;> rfl
def exK6 : KS := (exK5.open ⟨#[98]⟩ 42).2.2
theorem ex6 : (exK5.open ⟨#[98]⟩ 42).1 = 2 ∧ (exK5.open ⟨#[98]⟩ 42).2.1 = 0 := by constructor <;> rfl
theorem ex7 : (exK6.open ⟨#[98]⟩ 42).1 = 0 ∧ (exK6.open ⟨#[98]⟩ 42).2.1 = 63 := by constructor <;> rfl
theorem exc : checkE [(⟨#[97]⟩, [104, 101, 108, 108, 111])] [] [(1, 2), (2, 0)] = 0 := by rfl
theorem one_named {W : World} {g : Nat} {nm : ByteArray} {va : Option Addr} {vc : Nat} {b : List UInt8} (h0 : W.cell? ⟨g, 0, none⟩ = some (.string nm)) (h1 : W.cell? ⟨g, 1, none⟩ = some (.slice va b.length vc)) (hb : Bys W (.slice va b.length vc) b) (hc : b.length ≤ vc) (hs : nm.size ≤ maxLen) : Nms W (.slice (some ⟨g, 0, none⟩) 1 1) [(nm, b)] := by
  refine ⟨_, _, rfl, Nat.le_refl _, fun _ => ⟨g, 0, rfl, fun j hj => ?_⟩⟩
  obtain rfl : j = 0 := by simp at hj; omega
  exact ⟨va, vc, h0, h1, hb, hc, hs⟩
theorem no_typed (W : World) : Tps W (.slice none 0 0) [] := ⟨_, _, rfl, Nat.le_refl _, fun h => absurd h (Nat.lt_irrefl _)⟩
set_option maxRecDepth 100000 in
set_option maxHeartbeats 2000000 in
theorem hello_any (w : World) : Calls Tryz.prog 80 #[] w fun e w' => ∃ kb, e = .returned (.pointer (some ⟨kb, 0, none⟩)) ∧ KAt w' (fun k => w.heap.size ≤ k) kb exK0 ∧ Below w.heap.size w w' := by
  have cl := conv_lit w #[.int .u8 104, .int .u8 101, .int .u8 108, .int .u8 108, .int .u8 111] 5 w.heap.size 5 rfl rfl
  simp only [Nat.reduceAdd] at cl
  have hb1 := Te_lit_bys w [104, 101, 108, 108, 111] #[.int .u8 104, .int .u8 101, .int .u8 108, .int .u8 108, .int .u8 111] 5 w.heap.size (5, 6) rfl rfl rfl
  have hB1 := recv_below w (Obj.cells #[.int .u8 104, .int .u8 101, .int .u8 108, .int .u8 108, .int .u8 111] 5 (5, 6))
  have hs1 : (w.alloc (Obj.cells #[.int .u8 104, .int .u8 101, .int .u8 108, .int .u8 108, .int .u8 111] 5 (5, 6))).heap.size = w.heap.size + 1 := by simp
  go_enter Tryz.func80, Tryz.ntmps80
  go_wp2_with fail
  generalize hw1 : w.alloc (Obj.cells #[.int .u8 104, .int .u8 101, .int .u8 108, .int .u8 108, .int .u8 111] 5 (5, 6)) = w1 at *
  have hB2 := recv_below w1 (Obj.cells #[.string ⟨#[97]⟩, .slice (some ⟨w.heap.size, 0, none⟩) 5 5] 93)
  have hB3 := recv_below (w1.alloc (Obj.cells #[.string ⟨#[97]⟩, .slice (some ⟨w.heap.size, 0, none⟩) 5 5] 93)) (Obj.cells #[.int .i64 1, .int .i64 2, .int .i64 2, .int .i64 0] 167)
  have hs2 : (w1.alloc (Obj.cells #[.string ⟨#[97]⟩, .slice (some ⟨w.heap.size, 0, none⟩) 5 5] 93)).heap.size = w.heap.size + 1 + 1 := by simp [hs1]
  have hs3 : ((w1.alloc (Obj.cells #[.string ⟨#[97]⟩, .slice (some ⟨w.heap.size, 0, none⟩) 5 5] 93)).alloc (Obj.cells #[.int .i64 1, .int .i64 2, .int .i64 2, .int .i64 0] 167)).heap.size = w.heap.size + 1 + 1 + 1 := by simp [hs1]
  obtain ⟨p0, p1⟩ := pair_cells w1 (.string ⟨#[97]⟩) (.slice (some ⟨w.heap.size, 0, none⟩) 5 5) 93
  rw [hs1] at p0 p1
  have hN : Nms ((w1.alloc (Obj.cells #[.string ⟨#[97]⟩, .slice (some ⟨w.heap.size, 0, none⟩) 5 5] 93)).alloc (Obj.cells #[.int .i64 1, .int .i64 2, .int .i64 2, .int .i64 0] 167)) (.slice (some ⟨w.heap.size + 1, 0, none⟩) 1 1) [(⟨#[97]⟩, [104, 101, 108, 108, 111])] :=
    one_named ((hB3.cell (p := ⟨w.heap.size + 1, 0, none⟩) (by show w.heap.size + 1 < _; omega)).trans p0) ((hB3.cell (p := ⟨w.heap.size + 1, 1, none⟩) (by show w.heap.size + 1 < _; omega)).trans p1) ((hb1.below hB2).below hB3) (by decide) (by decide)
  have hfl : ((w1.alloc (Obj.cells #[.string ⟨#[97]⟩, .slice (some ⟨w.heap.size, 0, none⟩) 5 5] 93)).alloc (Obj.cells #[.int .i64 1, .int .i64 2, .int .i64 2, .int .i64 0] 167)).heap[w.heap.size + 1 + 1]? = some (Obj.cells ([.int .i64 1, .int .i64 2, .int .i64 2, .int .i64 0] : List Value).toArray 167 (0, 0)) := by
    have := heap_alloc_new (w1.alloc (Obj.cells #[.string ⟨#[97]⟩, .slice (some ⟨w.heap.size, 0, none⟩) 5 5] 93)) (Obj.cells #[.int .i64 1, .int .i64 2, .int .i64 2, .int .i64 0] 167)
    rw [hs2] at this
    exact this
  have hF : Flts ((w1.alloc (Obj.cells #[.string ⟨#[97]⟩, .slice (some ⟨w.heap.size, 0, none⟩) 5 5] 93)).alloc (Obj.cells #[.int .i64 1, .int .i64 2, .int .i64 2, .int .i64 0] 167)) (.slice (some ⟨w.heap.size + 1 + 1, 0, none⟩) 2 2) [(1, 2), (2, 0)] := by
    refine .inr (.inr ⟨w.heap.size + 1 + 1, 0, 2, rfl, by decide, by decide, fun j hj => ?_⟩)
    have : j = 0 ∨ j = 1 := by simp at hj; omega
    rcases this with rfl | rfl
    · constructor <;> (rw [cell_of_row _ _ _ _ _ _ hfl]; rfl)
    · constructor <;> (rw [cell_of_row _ _ _ _ _ _ hfl]; rfl)
  have hBw : Below w.heap.size w ((w1.alloc (Obj.cells #[.string ⟨#[97]⟩, .slice (some ⟨w.heap.size, 0, none⟩) 5 5] 93)).alloc (Obj.cells #[.int .i64 1, .int .i64 2, .int .i64 2, .int .i64 0] 167)) := hB1.trans ((hB2.trans (hB3.mono (by omega))).mono (by omega))
  have HN := hide (knew_good (some ⟨w.heap.size + 1, 0, none⟩) none (some ⟨w.heap.size + 1 + 1, 0, none⟩) 1 0 2 [(⟨#[97]⟩, [104, 101, 108, 108, 111])] [] [(1, 2), (2, 0)] _ hN (no_typed _) hF (by decide) (by decide) (by decide) exc)
  have HB := hide hBw
  clear hN hF hfl p0 p1 hB1 hB2 hB3 hb1 hBw cl
  refine HN.out.mono ?_
  rintro e w4 ⟨kb, rfl, hK, hB4⟩
  have HK := hide hK
  have HB4 := hide hB4
  clear hK hB4
  go_wp2
  go_ret
  have h0 := HB.out.size
  exact ⟨kb, rfl, HK.out.mono (fun k e => Nat.le_trans h0 e), HB.out.trans (HB4.out.mono h0)⟩
/-- num. -/
theorem num_is (x : Int) (w : World) : Calls Tryz.prog 10 #[.int .i64 x] w fun e w' => e = .returned (.int .i64 x) ∧ w' = w := by
  go_enter Tryz.func10, Tryz.ntmps10
  go_wp2
  go_ret
  exact ⟨rfl, rfl⟩
set_option maxRecDepth 100000 in
set_option maxHeartbeats 4000000 in
theorem alive_any (w : World) : Calls Tryz.prog 14 #[] w fun e w' => e = .returned (.bool true) ∧ Below w.heap.size w w' := by
  have HH := hide (hello_any w)
  have i1 : I64 1 := ⟨by decide, by decide⟩
  go_enter Tryz.func14, Tryz.ntmps14
  go_wp2_with fail
  refine HH.out.mono ?_
  rintro e w1 ⟨kb, rfl, hK, hB⟩
  have HB1 := hide hB
  have hs1 := hB.size
  have H1 := hide (hK.open ⟨#[97]⟩ 1 (by decide) (by decide))
  rw [ex1.1, ex1.2] at H1
  clear hK hB
  go_wp2_with fail
  refine H1.out.mono ?_
  rintro e w2 ⟨rfl, hS⟩
  obtain ⟨hK, hB⟩ := hS.at (B := w.heap.size) (fun _ e => e) hs1
  have HB2 := hide (HB1.out.trans hB)
  have hs2 := HB2.out.size
  have H2 := hide (hK.read 1 5 i1 (by decide))
  rw [show (exK0.open ⟨#[97]⟩ 1).2.2 = exK1 from rfl, ex2.1, ex2.2] at H2
  clear hK hB hS
  go_wp2_with fail
  refine H2.out.mono ?_
  rintro e w3 ⟨va, rfl, hra, hK3, hT3⟩
  obtain ⟨aa, ac, rfl⟩ := owns_slice hra
  have HA : Hid (w3.ownsRow w2.heap.size 5 1 (.slice aa 2 ac) 2 ([104, 101].map bv)) := hide hra
  have HT3 := hide hT3
  have H3 := hide (hK3.read 1 5 i1 (by decide))
  rw [show (exK1.read 1 5).2.2 = exK2 from rfl, ex3.1, ex3.2] at H3
  clear hra hK3 hT3
  simp only [List.length_cons, List.length_nil, Nat.zero_add, Nat.reduceAdd]
  go_wp2_with fail
  refine H3.out.mono ?_
  rintro e w4 ⟨vb, rfl, hrb, hK4, hT4⟩
  obtain ⟨ba, bc, rfl⟩ := owns_slice hrb
  have HT4 := hide hT4
  have H4 := hide (hK4.read 1 5 i1 (by decide))
  rw [show (exK2.read 1 5).2.2 = exK3 from rfl, ex4.1, ex4.2] at H4
  clear hrb hK4 hT4
  simp only [List.length_nil]
  go_wp2_with fail
  refine H4.out.mono ?_
  rintro e w5 ⟨vc, rfl, hrc, hK5, hT5⟩
  obtain ⟨ca, cc, rfl⟩ := owns_slice hrc
  have HC : Hid (w5.ownsRow w4.heap.size 5 1 (.slice ca 3 cc) 3 ([108, 108, 111].map bv)) := hide hrc
  have HT5 := hide hT5
  have H5 := hide (hK5.open ⟨#[98]⟩ 1 (by decide) (by decide))
  rw [show (exK3.read 1 5).2.2 = exK4 from rfl, ex5.1, ex5.2] at H5
  clear hrc hK5 hT5
  simp only [List.length_cons, List.length_nil, Nat.zero_add, Nat.reduceAdd]
  go_wp2_with fail
  refine H5.out.mono ?_
  rintro e w6 ⟨rfl, O6, hK6, hO6, hT6⟩
  have HO6 := hide (And.intro hO6 hT6)
  have H6 := hide (hK6.open ⟨#[98]⟩ 42 (by decide) (by decide))
  rw [show (exK4.open ⟨#[98]⟩ 1).2.2 = exK5 from rfl, ex6.1, ex6.2] at H6
  clear hK6 hO6 hT6
  go_wp2_with fail
  refine H6.out.mono ?_
  rintro e w7 ⟨rfl, O7, hK7, hO7, hT7⟩
  have HO7 := hide (And.intro hO7 hT7)
  have H7 := hide (hK7.open ⟨#[98]⟩ 42 (by decide) (by decide))
  rw [show (exK5.open ⟨#[98]⟩ 42).2.2 = exK6 from rfl, ex7.1, ex7.2] at H7
  clear hK7 hO7 hT7
  go_wp2_with fail
  refine H7.out.mono ?_
  rintro e w8 ⟨rfl, O8, -, hO8, hT8⟩
  have HE : Hid ((convert 40 9 (.slice aa 2 ac)).run Tryz.prog w8 = .ok (.string ⟨#[104, 101]⟩) w8 ∧ (convert 40 9 (.slice ca 3 cc)).run Tryz.prog w8 = .ok (.string ⟨#[108, 108, 111]⟩) w8 ∧ Below w.heap.size w w8) := hide (by
    obtain ⟨o6, t6⟩ := HO6.out
    obtain ⟨o7, t7⟩ := HO7.out
    have t3 := HT3.out
    have t4 := HT4.out
    have t5 := HT5.out
    have z3 := t3.size
    have z4 := t4.size
    have z5 := t5.size
    have z6 := t6.size
    have z7 := t7.size
    have n6 : ∀ k, k < w5.heap.size → w2.heap.size ≤ k → ¬ O6 k := fun k h1 h2 e => by
      rcases o6 k e with e | e
      · exact absurd e.2 (by omega)
      · omega
    have n7 : ∀ k, k < w5.heap.size → w2.heap.size ≤ k → ¬ O7 k := fun k h1 h2 e => by
      rcases o7 k e with e | e
      · exact n6 k h1 h2 e
      · omega
    have la := HA.out.lt
    have lc := HC.out.lt
    have A4 := owns_turned HA.out t4 (fun k e => by have := la k e; omega)
    have A5 := owns_turned A4 t5 (fun k e => by have := la k e; omega)
    have A6 := owns_turned A5 t6 (fun k e => by have := la k e; omega)
    have A7 := owns_turned A6 t7 (fun k e => by have := la k e; exact n6 k (by omega) (by omega))
    have A8 := owns_turned A7 hT8 (fun k e => by have := la k e; exact n7 k (by omega) (by omega))
    have C6 := owns_turned HC.out t6 (fun k e => by have := lc k e; omega)
    have C7 := owns_turned C6 t7 (fun k e => by have := lc k e; exact n6 k (by omega) (by omega))
    have C8 := owns_turned C7 hT8 (fun k e => by have := lc k e; exact n7 k (by omega) (by omega))
    have b6 : ∀ k, O6 k → w.heap.size ≤ k := fun k e => by
      rcases o6 k e with e | e
      · exact e.1
      · omega
    have b7 : ∀ k, O7 k → w.heap.size ≤ k := fun k e => by
      rcases o7 k e with e | e
      · exact b6 k e
      · omega
    refine ⟨owns_string (l := [104, 101]) A8, owns_string (l := [108, 108, 111]) C8, ?_⟩
    have B3 := HB2.out.trans (t3.below (fun k e => e.1) hs2)
    have B4 := B3.trans (t4.below (fun k e => e.1) B3.size)
    have B5 := B4.trans (t5.below (fun k e => e.1) B4.size)
    have B6 := B5.trans (t6.below (fun k e => e.1) B5.size)
    have B7 := B6.trans (t7.below b6 B6.size)
    exact B7.trans (hT8.below b7 B7.size))
  have q1 := HE.out.1
  have q2 := HE.out.2.1
  clear hO8 hT8
  go_wp2
  go_ret
  exact ⟨rfl, HE.out.2.2⟩
end Go.Proofs.YtkkicbhmcjbmbaaGreat

/- KernPlace: the kernel's states, as values. -/
namespace Go.Proofs.YtkkicbhmcjbmbaaGreat
open Go.RowKit Go.Maps

def nmF : ByteArray := ⟨#[102]⟩
/-- One file, two descriptions of it: one read by two, one written. -/
def KPl (b : List UInt8) (p1 p2 rd wr : Nat) : KS := ⟨[⟨nmF, .file b⟩], [0], [⟨1, 0, 1, p1, 2⟩, ⟨2, 0, 3, p2, 1⟩], 3, [], rd, wr⟩
theorem pl_check (b : List UInt8) : checkE [(nmF, b)] [] [] = if 1048576 < b.length then 5 else 0 := by
  unfold checkE
  rw [if_neg (by simp)]
  rw [show kfiles [] [(nmF, b)] = if 1048576 < b.length then (5, []) else (0, [nmF]) from rfl]
  split
  · rw [if_neg (by decide)]
  · rw [if_pos rfl]; rfl
theorem pl_open1 (b : List UInt8) : (KS.new [(nmF, b)] [] []).open nmF 1 = (1, 0, ⟨[⟨nmF, .file b⟩], [0], [⟨1, 0, 1, 0, 1⟩], 2, [], 0, 0⟩) := rfl
theorem pl_open2 (b : List UInt8) : (⟨[⟨nmF, .file b⟩], [0], [⟨1, 0, 1, 0, 1⟩], 2, [], 0, 0⟩ : KS).open nmF 3 = (2, 0, ⟨[⟨nmF, .file b⟩], [0], [⟨1, 0, 1, 0, 1⟩, ⟨2, 0, 3, 0, 1⟩], 3, [], 0, 0⟩) := rfl
theorem pl_keep (b : List UInt8) : (⟨[⟨nmF, .file b⟩], [0], [⟨1, 0, 1, 0, 1⟩, ⟨2, 0, 3, 0, 1⟩], 3, [], 0, 0⟩ : KS).keepE 1 = 0 ∧ (⟨[⟨nmF, .file b⟩], [0], [⟨1, 0, 1, 0, 1⟩, ⟨2, 0, 3, 0, 1⟩], 3, [], 0, 0⟩ : KS).keepK 1 = KPl b 0 0 0 0 := ⟨rfl, rfl⟩
theorem nxt_nil {n : Int} (h1 : 1 ≤ n) (h2 : n ≤ 1048576) : nxt [] n = (n, 0) := by simp [nxt]; omega
theorem pl_read (b : List UInt8) (p1 p2 rd wr : Nat) (n : Int) (h1 : 1 ≤ n) (h2 : n ≤ 1048576) : (KPl b p1 p2 rd wr).read 1 n = (piece b p1 n.toNat, 0, KPl b (p1 + (piece b p1 n.toNat).length) p2 (rd + 1) wr) := by
  have hx : (KPl b p1 p2 rd wr).find 1 = some ⟨1, 0, 1, p1, 2⟩ := rfl
  rw [read_is hx (by show fbit 1 1 ≠ 0; decide) h1 h2 rfl]
  have e : nxt (KPl b p1 p2 rd wr).plan n = (n, 0) := nxt_nil h1 h2
  rw [e, if_pos rfl]
  rfl
theorem pl_write (b x : List UInt8) (p1 rd wr : Nat) (h1 : 1 ≤ x.length) (h2 : x.length ≤ 1048576) : (KPl b p1 0 rd wr).write 2 x = ((x.length : Int), 0, KPl (wrL b 0 x) p1 x.length rd (wr + 1)) := by
  have hx : (KPl b p1 0 rd wr).find 2 = some ⟨2, 0, 3, 0, 1⟩ := rfl
  have hr : refusal ((KPl b p1 0 rd wr).tho ⟨2, 0, 3, 0, 1⟩) 3 0 x.length = 0 := rfl
  rw [write_is hx (by show fbit 3 2 ≠ 0; decide) h1 h2 hr]
  have e : nxt (KPl b p1 0 rd wr).plan x.length = ((x.length : Int), 0) := nxt_nil (by omega) (by omega)
  rw [e, if_pos rfl]
  have hm : min x.length (1048576 - placeOf b 3 0) = x.length := by
    rw [show placeOf b 3 0 = 0 from rfl]; omega
  show (KPl b p1 0 rd wr).writeUp.wrx ⟨2, 0, 3, 0, 1⟩ x x.length = _
  rw [show (KPl b p1 0 rd wr).writeUp.wrx ⟨2, 0, 3, 0, 1⟩ x x.length = (((min x.length (1048576 - placeOf b 3 0) : Nat) : Int), 0, ((KPl b p1 0 rd wr).writeUp.setOb 0 (.file (wrL b (placeOf b 3 0) (x.take (min x.length (1048576 - placeOf b 3 0)))))).setDe ⟨2, 0, 3, placeOf b 3 0 + min x.length (1048576 - placeOf b 3 0), 1⟩) from rfl]
  rw [hm, show placeOf b 3 0 = 0 from rfl, List.take_length, Nat.zero_add]
  rfl
theorem pl_writeN (b x : List UInt8) (p1 rd wr : Nat) (h : x.length = 0 ∨ 1048576 < x.length) : ((KPl b p1 0 rd wr).write 2 x).1 = 0 := by
  have hx : (KPl b p1 0 rd wr).find 2 = some ⟨2, 0, 3, 0, 1⟩ := rfl
  unfold KS.write
  rw [hx]
  simp only
  rw [if_neg (by decide)]
  rcases h with h | h
  · rw [if_neg (by omega), if_pos h]
  · rw [if_pos h]
theorem pl_seek (b : List UInt8) (p1 p2 rd wr : Nat) : (KPl b p1 p2 rd wr).seek 1 0 0 = (0, 0, KPl b 0 p2 rd wr) := rfl
theorem pl_back (b x : List UInt8) (h2 : x.length ≤ 1048576) : piece (wrL b 0 x) 0 x.length = x := by
  unfold wrL
  have : Fi_wrE 0 x.length = 0 := wr_fits (at' := 0) (by omega)
  rw [if_pos this]
  by_cases hx : x = []
  · subst hx; simp [piece]
  · simp [piece, lay, hx]
theorem ktmod_bound (x k : Int) (hk : 0 < k) : -k < x.tmod k ∧ x.tmod k < k := by
  have h2 : ∀ y : Int, 0 ≤ y → 0 ≤ y.tmod k ∧ y.tmod k < k := fun y h => by
    rw [Int.tmod_eq_emod_of_nonneg h]
    exact ⟨Int.emod_nonneg _ (by omega), Int.emod_lt_of_pos _ hk⟩
  rcases Int.le_total 0 x with h | h
  · have := h2 x h; omega
  · have h3 := h2 (-x) (by omega)
    rw [Int.neg_tmod] at h3
    omega
theorem krem_twice (full k : Int) (hk : 0 < k) (hk2 : k ≤ 1048576) : ∃ m : Nat, (wrap64 (full.tmod k + k)).tmod k = (m : Int) ∧ (m : Int) < k := by
  have h1 := ktmod_bound full k hk
  have h2 : wrap64 (full.tmod k + k) = full.tmod k + k := by unfold wrap64; omega
  rw [h2, Int.tmod_eq_emod_of_nonneg (by omega)]
  have h3 := Int.emod_nonneg (full.tmod k + k) (b := k) (by omega)
  have h4 := Int.emod_lt_of_pos (full.tmod k + k) hk
  exact ⟨((full.tmod k + k) % k).toNat, by omega, by omega⟩
theorem take_piece {b : List UInt8} {p n : Nat} (hp : p ≤ b.length) : b.take p ++ piece b p n = b.take (p + (piece b p n).length) := by
  rw [piece_len]
  unfold piece
  rw [← List.take_add]
  by_cases h : n ≤ b.length - p
  · rw [Nat.min_eq_left h]
  · rw [Nat.min_eq_right (by omega), List.take_of_length_le (by omega), List.take_of_length_le (by omega)]
end Go.Proofs.YtkkicbhmcjbmbaaGreat

/- Bytes that came in as an argument: what a walk is told of them. -/
namespace Go.Proofs.YtkkicbhmcjbmbaaGreat
open Go.ChangeShapes Go.WideShapes Go.ChangeAt Go.RowKit

theorem bytes_arg {H : Type} {enc : TypeId × Value → H} {P : Program} {W : World} {base : Nat} {a : Option Addr} {len cap fuel t e : Nat} {d : DataW H} {p : List MemPlace}
    (ht : P.underlying t = some (.slice e)) (he : P.underlying e = some (.int .u8)) (hc : P.cellsOf e = 1)
    (hf : DataW.trod enc P W base (fun _ => true) true fuel t (Value.slice a len cap).cells.toList = some (d, p)) :
    ∃ l : List UInt8, Bys W (.slice a len cap) l ∧ ((d = .nil ∧ l = []) ∨ ∃ elems spare : List (DataW H), d = .slice elems spare ∧ l.length = elems.length) := by
  rcases open_ints ht he hc hf with ⟨hcs, hd⟩ | ⟨x, n, c, zs, hcs, _, hl, hm, hz, hx, hcell, hwz⟩
  · simp [Value.cells] at hcs
    obtain ⟨rfl, rfl, rfl⟩ := hcs
    exact ⟨[], .inl ⟨rfl, rfl⟩, .inl ⟨(Prod.mk.inj hd).1, rfl⟩⟩
  · simp [Value.cells] at hcs
    obtain ⟨rfl, rfl, rfl⟩ := hcs
    simp only [if_true] at hz
    have hlen : ((zs.take len).map fun n => UInt8.ofNat n.toNat).length = len := by rw [List.length_map, List.length_take]; omega
    refine ⟨(zs.take len).map fun n => UInt8.ofNat n.toNat, ?_, .inr ⟨_, _, (Prod.mk.inj hx).1, by simp [lits]⟩⟩
    by_cases h0 : len = 0
    · subst h0
      exact .inr (.inl ⟨x, cap, rfl, by simp⟩)
    · obtain ⟨b, off, spot⟩ := x
      have hspot : spot = none := by simpa [Addr.add] using World.cell?_spot (hcell 0 (by omega))
      subst hspot
      refine .inr (.inr ⟨b, off, cap, by rw [hlen], by rw [hlen]; omega, fun j hj => ?_⟩)
      rw [hlen] at hj
      have h1 := hcell j (by omega)
      have hadd : (⟨b, off, none⟩ : Addr).add j = ⟨b, off + j, none⟩ := by unfold Addr.add; split <;> simp_all
      rw [hadd] at h1
      rw [h1]
      have hjz : j < zs.length := by omega
      have hb := bounds_u8 (hwz zs[j] (List.getElem_mem hjz))
      simp only [List.getD_eq_getElem?_getD, List.getElem?_map, List.getElem?_take, if_pos hj, List.getElem?_eq_getElem hjz, Option.map_some, Option.getD_some]
      rw [UInt8.toNat_ofNat_of_lt' (by show _ < 256; omega), Int.toNat_of_nonneg hb.1]

theorem one_le {H : Type} (d : DataW H) : 1 ≤ Rows.uptoBulk d := by
  cases d with
  | lit l => cases l <;> simp [Rows.uptoBulk]
  | nil => simp [Rows.uptoBulk]
  | ptr d => simp [Rows.uptoBulk]
  | slice elems spare => simp [Rows.uptoBulk]
  | agg parts => simp [Rows.uptoBulk]
  | iface t d => simp [Rows.uptoBulk]
  | map entries => simp [Rows.uptoBulk]
  | held h => simp [Rows.uptoBulk]
theorem bulk_length {H : Type} (l : List (DataW H)) : l.length ≤ Rows.uptoBulkAll l := by
  induction l with
  | nil => simp [Rows.uptoBulkAll]
  | cons x r ih => have := one_le x; simp only [Rows.uptoBulkAll, List.length_cons]; omega
theorem bulk_slice {H : Type} (elems spare : List (DataW H)) : elems.length + 1 ≤ Rows.uptoBulk (.slice elems spare) := by
  have h1 := bulk_length elems
  simp only [Rows.uptoBulk]
  omega
end Go.Proofs.YtkkicbhmcjbmbaaGreat

/- Bytes, and steps, that came in as an argument: what a walk is told of them. -/
namespace Go.Proofs.YtkkicbhmcjbmbaaGreat
open Go.ChangeShapes Go.WideShapes Go.ChangeAt Go.RowKit Go.Deep

/-- A step: what, n, which side, data. -/
abbrev Kp_Stp := Int × Int × Bool × List UInt8
theorem Kp_bys_len {W : World} {a : Option Addr} {n c : Nat} {l : List UInt8} (h : Bys W (.slice a n c) l) : n = l.length := by
  obtain ⟨a', c', he, _⟩ := bys_form h
  cases he
  rfl
theorem bytes_arg2 {H : Type} {enc : TypeId × Value → H} {P : Program} {W : World} {base : Nat} {a : Option Addr} {len cap fuel t e : Nat} {d : DataW H} {p : List MemPlace}
    (ht : P.underlying t = some (.slice e)) (he : P.underlying e = some (.int .u8)) (hc : P.cellsOf e = 1)
    (hf : DataW.trod enc P W base (fun _ => true) true fuel t (Value.slice a len cap).cells.toList = some (d, p)) :
    ∃ l : List UInt8, Bys W (.slice a len cap) l ∧ l.length ≤ cap ∧ ((d = .nil ∧ l = []) ∨ ∃ elems spare : List (DataW H), d = .slice elems spare ∧ l.length = elems.length) := by
  rcases open_ints ht he hc hf with ⟨hcs, hd⟩ | ⟨x, n, c, zs, hcs, _, hl, hm, hz, hx, hcell, hwz⟩
  · simp [Value.cells] at hcs
    obtain ⟨rfl, rfl, rfl⟩ := hcs
    exact ⟨[], .inl ⟨rfl, rfl⟩, by simp, .inl ⟨(Prod.mk.inj hd).1, rfl⟩⟩
  · simp [Value.cells] at hcs
    obtain ⟨rfl, rfl, rfl⟩ := hcs
    simp only [if_true] at hz
    have hlen : ((zs.take len).map fun n => UInt8.ofNat n.toNat).length = len := by rw [List.length_map, List.length_take]; omega
    refine ⟨(zs.take len).map fun n => UInt8.ofNat n.toNat, ?_, by rw [hlen]; exact hl, .inr ⟨_, _, (Prod.mk.inj hx).1, by simp [lits]⟩⟩
    by_cases h0 : len = 0
    · subst h0
      exact .inr (.inl ⟨x, cap, rfl, by simp⟩)
    · obtain ⟨b, off, spot⟩ := x
      have hspot : spot = none := by simpa [Addr.add] using World.cell?_spot (hcell 0 (by omega))
      subst hspot
      refine .inr (.inr ⟨b, off, cap, by rw [hlen], by rw [hlen]; omega, fun j hj => ?_⟩)
      rw [hlen] at hj
      have h1 := hcell j (by omega)
      have hadd : (⟨b, off, none⟩ : Addr).add j = ⟨b, off + j, none⟩ := by unfold Addr.add; split <;> simp_all
      rw [hadd] at h1
      rw [h1]
      have hjz : j < zs.length := by omega
      have hb := bounds_u8 (hwz zs[j] (List.getElem_mem hjz))
      simp only [List.getD_eq_getElem?_getD, List.getElem?_map, List.getElem?_take, if_pos hj, List.getElem?_eq_getElem hjz, Option.map_some, Option.getD_some]
      rw [UInt8.toNat_ofNat_of_lt' (by show _ < 256; omega), Int.toNat_of_nonneg hb.1]



/-- How a slice of bytes inside a datum is told. -/
def Kp_DataOf {H : Type} (d : DataW H) (x : List UInt8) : Prop := (d = .nil ∧ x = []) ∨ ∃ elems spare : List (DataW H), d = .slice elems spare ∧ x.length = elems.length

theorem Kp_step_cells {H : Type} {enc : TypeId × Value → H} {P : Program} {W : World} {base : Nat} {fuel e u : Nat} {f0 f1 f2 f3 : Field} {cs : List Value} {d : DataW H} {p : List MemPlace}
    (he : P.underlying e = some (.struct #[f0, f1, f2, f3])) (ce : P.cellsOf e = 4) (o0 : f0.offset = 0) (o1 : f1.offset = 1) (o2 : f2.offset = 2) (o3 : f3.offset = 3)
    (c0 : P.cellsOf f0.type = 1) (c1 : P.cellsOf f1.type = 1) (c2 : P.cellsOf f2.type = 1) (c3 : P.cellsOf f3.type = 1)
    (t0 : P.underlying f0.type = some (.int .i64)) (t1 : P.underlying f1.type = some (.int .i64)) (t2 : P.underlying f2.type = some .bool) (t3 : P.underlying f3.type = some (.slice u)) (tu : P.underlying u = some (.int .u8)) (cu : P.cellsOf u = 1)
    (h : DataW.trod enc P W base (fun _ => true) true fuel e cs = some (d, p)) :
    ∃ (x : Kp_Stp) (va : Option Addr) (vc : Nat) (d3 : DataW H), cs = [.int .i64 x.1, .int .i64 x.2.1, .bool x.2.2.1, .slice va x.2.2.2.length vc] ∧ (Bys W (.slice va x.2.2.2.length vc) x.2.2.2 ∧ x.2.2.2.length ≤ vc) ∧ (∃ x0 x1 x2, d = .agg [x0, x1, x2, d3]) ∧ Kp_DataOf d3 x.2.2.2 := by
  obtain ⟨xs, k, hk, hxy, hcl, hxl, hf⟩ := DataW.trod_struct he h
  rw [ce] at hcl
  match xs, hxl, cs, hcl with
  | [y0, y1, y2, y3], _, [v0, v1, v2, v3], _ =>
    have g0 := hf 0 f0 rfl
    have g1 := hf 1 f1 rfl
    have g2 := hf 2 f2 rfl
    have g3 := hf 3 f3 rfl
    simp [o0, c0] at g0
    simp [o1, c1] at g1
    simp [o2, c2] at g2
    simp [o3, c3] at g3
    obtain ⟨a, ha, _⟩ := DataW.trod_int t0 g0
    obtain ⟨b, hb, _⟩ := DataW.trod_int t1 g1
    obtain ⟨c, hc, _⟩ := DataW.trod_bool t2 g2
    obtain rfl : v0 = .int .i64 a := by simpa using ha
    obtain rfl : v1 = .int .i64 b := by simpa using hb
    obtain rfl : v2 = .bool c := by simpa using hc
    obtain ⟨va, vl, vc, rfl⟩ : ∃ va vl vc, v3 = .slice va vl vc := by
      rcases DataW.trod_slice t3 g3 with ⟨h0, _⟩ | ⟨x, len, cap, _, _, _, _, h0, _⟩
      · exact ⟨_, _, _, by simpa using h0⟩
      · exact ⟨_, _, _, by simpa using h0⟩
    obtain ⟨y3a, y3b⟩ := y3
    obtain ⟨l, hl, hlc, hd⟩ := bytes_arg2 t3 tu cu (by simpa [Value.cells] using g3)
    obtain rfl := Kp_bys_len hl
    simp only [Prod.mk.injEq] at hxy
    exact ⟨(a, b, c, l), va, vc, y3a, rfl, ⟨hl, hlc⟩, ⟨_, _, _, by simpa using hxy.1⟩, hd⟩

/-- The slice value v holds the steps l. -/
def Kp_Stps (W : World) (v : Value) (l : List Kp_Stp) : Prop :=
  ∃ a c, v = .slice a l.length c ∧ (0 < l.length → ∃ b off, a = some ⟨b, off, none⟩ ∧ ∀ j (hj : j < l.length), ∃ va vc,
    W.cell? ⟨b, off + j * 4, none⟩ = some (.int .i64 l[j].1) ∧ W.cell? ⟨b, off + j * 4 + 1, none⟩ = some (.int .i64 l[j].2.1) ∧ W.cell? ⟨b, off + j * 4 + 2, none⟩ = some (.bool l[j].2.2.1) ∧ W.cell? ⟨b, off + j * 4 + 3, none⟩ = some (.slice va l[j].2.2.2.length vc) ∧ Bys W (.slice va l[j].2.2.2.length vc) l[j].2.2.2 ∧ l[j].2.2.2.length ≤ vc)

theorem Kp_stps_arg {H : Type} {enc : TypeId × Value → H} {P : Program} {W : World} {base : Nat} {a : Option Addr} {len cap fuel t e u : Nat} {f0 f1 f2 f3 : Field} {d : DataW H} {p : List MemPlace}
    (ht : P.underlying t = some (.slice e)) (he : P.underlying e = some (.struct #[f0, f1, f2, f3])) (ce : P.cellsOf e = 4) (o0 : f0.offset = 0) (o1 : f1.offset = 1) (o2 : f2.offset = 2) (o3 : f3.offset = 3)
    (c0 : P.cellsOf f0.type = 1) (c1 : P.cellsOf f1.type = 1) (c2 : P.cellsOf f2.type = 1) (c3 : P.cellsOf f3.type = 1)
    (t0 : P.underlying f0.type = some (.int .i64)) (t1 : P.underlying f1.type = some (.int .i64)) (t2 : P.underlying f2.type = some .bool) (t3 : P.underlying f3.type = some (.slice u)) (tu : P.underlying u = some (.int .u8)) (cu : P.cellsOf u = 1)
    (hf : DataW.trod enc P W base (fun _ => true) true fuel t (Value.slice a len cap).cells.toList = some (d, p)) :
    ∃ l : List Kp_Stp, Kp_Stps W (.slice a len cap) l ∧ ((d = .nil ∧ l = []) ∨ ∃ elems spare : List (DataW H), d = .slice elems spare ∧ l.length = elems.length ∧ ∀ i (hi : i < l.length), ∃ x0 x1 x2 d3, DataW.agg [x0, x1, x2, d3] ∈ elems ∧ Kp_DataOf d3 l[i].2.2.2) := by
  rcases open_slice ht hf with ⟨hcs, hd⟩ | ⟨x, n, c, m, k, D, Pl, hcs, _, hl, hm, hmm, hx, hel⟩
  · simp [Value.cells] at hcs
    obtain ⟨rfl, rfl, rfl⟩ := hcs
    exact ⟨[], ⟨_, _, rfl, fun h => absurd h (by decide)⟩, .inl ⟨(Prod.mk.inj hd).1, rfl⟩⟩
  · simp [Value.cells] at hcs
    obtain ⟨rfl, rfl, rfl⟩ := hcs
    simp only [if_true] at hmm
    subst hmm
    have each : ∀ i, i < len → ∃ s : Kp_Stp, ∃ va vc, (∃ x0 x1 x2 d3, D i = .agg [x0, x1, x2, d3] ∧ Kp_DataOf d3 s.2.2.2) ∧
        W.cell? ((x.add (i * 4)).add 0) = some (.int .i64 s.1) ∧ W.cell? ((x.add (i * 4)).add 1) = some (.int .i64 s.2.1) ∧ W.cell? ((x.add (i * 4)).add 2) = some (.bool s.2.2.1) ∧ W.cell? ((x.add (i * 4)).add 3) = some (.slice va s.2.2.2.length vc) ∧ Bys W (.slice va s.2.2.2.length vc) s.2.2.2 ∧ s.2.2.2.length ≤ vc := by
      intro i hi
      obtain ⟨cs', h1, h2⟩ := hel i (by omega)
      rw [ce] at h1
      obtain ⟨_, hlen, hcell⟩ := World.cells?_some h1
      obtain ⟨s, va, vc, d3, rfl, hb, ⟨x0, x1, x2, hD⟩, hO⟩ := Kp_step_cells he ce o0 o1 o2 o3 c0 c1 c2 c3 t0 t1 t2 t3 tu cu h2
      exact ⟨s, va, vc, ⟨x0, x1, x2, d3, hD, hO⟩, by simpa using hcell 0 (by omega), by simpa using hcell 1 (by omega), by simpa using hcell 2 (by omega), by simpa using hcell 3 (by omega), hb⟩
    obtain ⟨s, hs⟩ := choose_lt each
    refine ⟨(List.range len).map s, ⟨some x, m, by simp, fun h0 => ?_⟩, .inr ⟨_, _, (Prod.mk.inj hx).1, by simp, fun i hi => ?_⟩⟩
    · have h0' : 0 < len := by simpa using h0
      obtain ⟨b, off, spot⟩ := x
      obtain ⟨_, _, _, q0, _⟩ := hs 0 h0'
      have hspot : spot = none := by simpa [Addr.add] using World.cell?_spot q0
      subst hspot
      refine ⟨b, off, rfl, fun j hj => ?_⟩
      have hj' : j < len := by simpa using hj
      obtain ⟨va, vc, _, q0, q1, q2, q3, hb⟩ := hs j hj'
      have hadd : ∀ o k, (⟨b, o, none⟩ : Addr).add k = ⟨b, o + k, none⟩ := fun o k => by unfold Addr.add; split <;> simp_all
      rw [hadd, hadd] at q0 q1 q2 q3
      simp only [List.getElem_map, List.getElem_range]
      exact ⟨va, vc, by simpa using q0, q1, q2, q3, hb⟩
    · have hi' : i < len := by simpa using hi
      obtain ⟨va, vc, ⟨x0, x1, x2, d3, hD, hO⟩, _⟩ := hs i hi'
      refine ⟨x0, x1, x2, d3, ?_, by simpa using hO⟩
      rw [← hD]
      exact List.mem_map.2 ⟨i, by simpa using hi', rfl⟩

theorem Kp_weightsAll_mem {H : Type} {P : Program} {e : TypeId} : ∀ {l : List (DataW H)} {d : DataW H}, d ∈ l → ∀ n ∈ d.weights P e, n ∈ DataW.weightsAll P e l
  | d' :: r, d, hd, n, hn => by
    simp only [DataW.weightsAll, List.mem_append]
    rcases List.mem_cons.1 hd with rfl | h
    · exact Or.inl hn
    · exact Or.inr (Kp_weightsAll_mem h n hn)
theorem Kp_step_weight {H : Type} {P : Program} {e u : TypeId} {f0 f1 f2 f3 : Field} {x0 x1 x2 d3 : DataW H} {x : List UInt8} (he : P.underlying e = some (.struct #[f0, f1, f2, f3])) (t3 : P.underlying f3.type = some (.slice u)) (bu : P.bytesOf u = 1)
    (hO : Kp_DataOf d3 x) (h : ∀ n ∈ (DataW.agg [x0, x1, x2, d3]).weights P e, n ≤ reachBytes) : x.length ≤ 140737488351232 := by
  rcases hO with ⟨_, rfl⟩ | ⟨elems, spare, rfl, hl⟩
  · simp
  · have := h ((elems.length + spare.length) * P.bytesOf u) (by simp [DataW.weights, DataW.weightsEach, he, t3])
    rw [bu] at this
    simp only [reachBytes] at this
    omega
/-- The reach, of the data of each step. -/
theorem Kp_sized_steps {H : Type} {P : Program} {ts : List TypeId} {ds : List (DataW H)} (h : (DataW.weightsEach P ts ds).all (· ≤ reachBytes) = true) {j : Nat} {t e u : TypeId} {f0 f1 f2 f3 : Field} {x0 x1 x2 d3 : DataW H} {elems spare : List (DataW H)} {x : List UInt8}
    (ht : ts[j]? = some t) (hd : ds[j]? = some (.slice elems spare)) (hu : P.underlying t = some (.slice e)) (hm : DataW.agg [x0, x1, x2, d3] ∈ elems) (he : P.underlying e = some (.struct #[f0, f1, f2, f3])) (t3 : P.underlying f3.type = some (.slice u)) (bu : P.bytesOf u = 1) (hO : Kp_DataOf d3 x) : x.length ≤ 140737488351232 :=
  Kp_step_weight he t3 bu hO fun n hn => of_decide_eq_true (List.all_eq_true.1 h _ (DataW.weights_mem_each ht hd n (by
    simp only [DataW.weights, hu, List.mem_cons, List.mem_append]
    exact Or.inr (Or.inl (Kp_weightsAll_mem hm n hn)))))
theorem bulkAll_mem {H : Type} : ∀ {l : List (DataW H)} {d : DataW H}, d ∈ l → Rows.uptoBulk d ≤ Rows.uptoBulkAll l
  | d' :: r, d, hd => by
    simp only [Rows.uptoBulkAll]
    rcases List.mem_cons.1 hd with rfl | h
    · omega
    · have := bulkAll_mem h; omega
/-- The bulk, of the data of each step. -/
theorem bulk_steps {H : Type} {elems spare : List (DataW H)} {x0 x1 x2 d3 : DataW H} {x : List UInt8} (hm : DataW.agg [x0, x1, x2, d3] ∈ elems) (hO : Kp_DataOf d3 x) : x.length ≤ Rows.uptoBulk (.slice elems spare) := by
  have h1 := bulkAll_mem hm
  simp only [Rows.uptoBulk, Rows.uptoBulkAll] at h1
  have h2 : Rows.uptoBulkAll elems ≤ Rows.uptoBulk (.slice elems spare) := by simp only [Rows.uptoBulk]; omega
  rcases hO with ⟨_, rfl⟩ | ⟨es, sp, rfl, hl⟩
  · simp
  · have := bulk_slice es sp
    omega
theorem stps_form {W : World} {v : Value} {l : List Kp_Stp} (h : Kp_Stps W v l) : ∃ a c, v = .slice a l.length c := by
  obtain ⟨a, c, rfl, _⟩ := h
  exact ⟨a, c, rfl⟩
/-- Step j of the steps l, in any later world. -/
theorem Kp_stps_at {W W' : World} {a : Option Addr} {n c : Nat} {l : List Kp_Stp} (h : Kp_Stps W (.slice a n c) l) (hB : Below W.heap.size W W') (j : Nat) (hj : j < l.length) :
    ∃ b off va vc, a = some ⟨b, off, none⟩ ∧ b < W.heap.size ∧ W'.cell? ⟨b, off + j * 4, none⟩ = some (.int .i64 l[j].1) ∧ W'.cell? ⟨b, off + j * 4 + 1, none⟩ = some (.int .i64 l[j].2.1) ∧ W'.cell? ⟨b, off + j * 4 + 2, none⟩ = some (.bool l[j].2.2.1) ∧
      W'.cell? ⟨b, off + j * 4 + 3, none⟩ = some (.slice va l[j].2.2.2.length vc) ∧ Bys W (.slice va l[j].2.2.2.length vc) l[j].2.2.2 ∧ l[j].2.2.2.length ≤ vc := by
  obtain ⟨a', c', he, hc⟩ := h
  cases he
  obtain ⟨b, off, rfl, hd⟩ := hc (by omega)
  obtain ⟨va, vc, h0, h1, h2, h3, h4, h5⟩ := hd j hj
  have hb := World.block_lt_of_cell? W _ h0
  exact ⟨b, off, va, vc, rfl, hb, (hB.cell (p := ⟨b, off + j * 4, none⟩) hb).trans h0, (hB.cell (p := ⟨b, off + j * 4 + 1, none⟩) hb).trans h1, (hB.cell (p := ⟨b, off + j * 4 + 2, none⟩) hb).trans h2, (hB.cell (p := ⟨b, off + j * 4 + 3, none⟩) hb).trans h3, h4, h5⟩
end Go.Proofs.YtkkicbhmcjbmbaaGreat
