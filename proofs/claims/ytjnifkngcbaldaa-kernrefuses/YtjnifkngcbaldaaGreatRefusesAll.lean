/- KernRefuses answers true for all setups, steps and calls, within the reach of a machine's memory: a raw call that is refused changes no file, no place, and uses up no fault but the one that refused it. -/
import Derived.Test.YtjnifkngcbaldaaGreatKM11
import Derived.Test.YtjnifkngcbaldaaGreatRows
import Derived.Shelf.SlIter.Nil
import Derived.Shelf.SortM.Plain
import Derived.Shelf.SortM.SortNone
import Derived.Ground.GgzProg
import Derived.Ground.SlgmProg
import Derived.Test.YtjnifkngcbaldaaGreatProg
import Derived.ProofKit
import Derived.OpenShut
import Derived.ShutString
import Derived.ChangeOld
import Derived.Below
import Derived.SizedLaws
/- KernPlace: the kernel's states, as values. -/
namespace Go.Proofs.YtjnifkngcbaldaaGreat
open Go.RowKit Go.Maps

def nmF : ByteArray := ⟨#[102]⟩
/-- One file, two descriptions of it: one read by two, one written. -/
def KPl (b : List UInt8) (p1 p2 rd wr : Nat) : KS := ⟨[⟨nmF, .file b⟩], [0], [⟨1, 0, 1, p1, 2⟩, ⟨2, 0, 3, p2, 1⟩], 3, [], rd, wr⟩
theorem pl_check (b : List UInt8) : checkE [(nmF, b)] [] [] = if 1048576 < b.length then 5 else 0 := by
  unfold checkE
  rw [if_neg (by simp)]
  rw [show kfiles [] [(nmF, b)] = if 1048576 < b.length then (5, []) else (0, [nmF]) from rfl]
  split
  · rw [if_neg (by decide)]
  · rw [if_pos rfl]; rfl
theorem pl_open1 (b : List UInt8) : (KS.new [(nmF, b)] [] []).open nmF 1 = (1, 0, ⟨[⟨nmF, .file b⟩], [0], [⟨1, 0, 1, 0, 1⟩], 2, [], 0, 0⟩) := rfl
theorem pl_open2 (b : List UInt8) : (⟨[⟨nmF, .file b⟩], [0], [⟨1, 0, 1, 0, 1⟩], 2, [], 0, 0⟩ : KS).open nmF 3 = (2, 0, ⟨[⟨nmF, .file b⟩], [0], [⟨1, 0, 1, 0, 1⟩, ⟨2, 0, 3, 0, 1⟩], 3, [], 0, 0⟩) := rfl
theorem pl_keep (b : List UInt8) : (⟨[⟨nmF, .file b⟩], [0], [⟨1, 0, 1, 0, 1⟩, ⟨2, 0, 3, 0, 1⟩], 3, [], 0, 0⟩ : KS).keepE 1 = 0 ∧ (⟨[⟨nmF, .file b⟩], [0], [⟨1, 0, 1, 0, 1⟩, ⟨2, 0, 3, 0, 1⟩], 3, [], 0, 0⟩ : KS).keepK 1 = KPl b 0 0 0 0 := ⟨rfl, rfl⟩
theorem nxt_nil {n : Int} (h1 : 1 ≤ n) (h2 : n ≤ 1048576) : nxt [] n = (n, 0) := by simp [nxt]; omega
theorem pl_read (b : List UInt8) (p1 p2 rd wr : Nat) (n : Int) (h1 : 1 ≤ n) (h2 : n ≤ 1048576) : (KPl b p1 p2 rd wr).read 1 n = (piece b p1 n.toNat, 0, KPl b (p1 + (piece b p1 n.toNat).length) p2 (rd + 1) wr) := by
  have hx : (KPl b p1 p2 rd wr).find 1 = some ⟨1, 0, 1, p1, 2⟩ := rfl
  rw [read_is hx (by show fbit 1 1 ≠ 0; decide) h1 h2 rfl]
  have e : nxt (KPl b p1 p2 rd wr).plan n = (n, 0) := nxt_nil h1 h2
  rw [e, if_pos rfl]
  rfl
theorem pl_write (b x : List UInt8) (p1 rd wr : Nat) (h1 : 1 ≤ x.length) (h2 : x.length ≤ 1048576) : (KPl b p1 0 rd wr).write 2 x = ((x.length : Int), 0, KPl (wrL b 0 x) p1 x.length rd (wr + 1)) := by
  have hx : (KPl b p1 0 rd wr).find 2 = some ⟨2, 0, 3, 0, 1⟩ := rfl
  have hr : refusal ((KPl b p1 0 rd wr).tho ⟨2, 0, 3, 0, 1⟩) 3 0 x.length = 0 := rfl
  rw [write_is hx (by show fbit 3 2 ≠ 0; decide) h1 h2 hr]
  have e : nxt (KPl b p1 0 rd wr).plan x.length = ((x.length : Int), 0) := nxt_nil (by omega) (by omega)
  rw [e, if_pos rfl]
  have hm : min x.length (1048576 - placeOf b 3 0) = x.length := by
    rw [show placeOf b 3 0 = 0 from rfl]; omega
  show (KPl b p1 0 rd wr).writeUp.wrx ⟨2, 0, 3, 0, 1⟩ x x.length = _
  rw [show (KPl b p1 0 rd wr).writeUp.wrx ⟨2, 0, 3, 0, 1⟩ x x.length = (((min x.length (1048576 - placeOf b 3 0) : Nat) : Int), 0, ((KPl b p1 0 rd wr).writeUp.setOb 0 (.file (wrL b (placeOf b 3 0) (x.take (min x.length (1048576 - placeOf b 3 0)))))).setDe ⟨2, 0, 3, placeOf b 3 0 + min x.length (1048576 - placeOf b 3 0), 1⟩) from rfl]
  rw [hm, show placeOf b 3 0 = 0 from rfl, List.take_length, Nat.zero_add]
  rfl
theorem pl_writeN (b x : List UInt8) (p1 rd wr : Nat) (h : x.length = 0 ∨ 1048576 < x.length) : ((KPl b p1 0 rd wr).write 2 x).1 = 0 := by
  have hx : (KPl b p1 0 rd wr).find 2 = some ⟨2, 0, 3, 0, 1⟩ := rfl
  unfold KS.write
  rw [hx]
  simp only
  rw [if_neg (by decide)]
  rcases h with h | h
  · rw [if_neg (by omega), if_pos h]
  · rw [if_pos h]
theorem pl_seek (b : List UInt8) (p1 p2 rd wr : Nat) : (KPl b p1 p2 rd wr).seek 1 0 0 = (0, 0, KPl b 0 p2 rd wr) := rfl
theorem pl_back (b x : List UInt8) (h2 : x.length ≤ 1048576) : piece (wrL b 0 x) 0 x.length = x := by
  unfold wrL
  have : Fi_wrE 0 x.length = 0 := wr_fits (at' := 0) (by omega)
  rw [if_pos this]
  by_cases hx : x = []
  · subst hx; simp [piece]
  · simp [piece, lay, hx]
theorem ktmod_bound (x k : Int) (hk : 0 < k) : -k < x.tmod k ∧ x.tmod k < k := by
  have h2 : ∀ y : Int, 0 ≤ y → 0 ≤ y.tmod k ∧ y.tmod k < k := fun y h => by
    rw [Int.tmod_eq_emod_of_nonneg h]
    exact ⟨Int.emod_nonneg _ (by omega), Int.emod_lt_of_pos _ hk⟩
  rcases Int.le_total 0 x with h | h
  · have := h2 x h; omega
  · have h3 := h2 (-x) (by omega)
    rw [Int.neg_tmod] at h3
    omega
theorem krem_twice (full k : Int) (hk : 0 < k) (hk2 : k ≤ 1048576) : ∃ m : Nat, (wrap64 (full.tmod k + k)).tmod k = (m : Int) ∧ (m : Int) < k := by
  have h1 := ktmod_bound full k hk
  have h2 : wrap64 (full.tmod k + k) = full.tmod k + k := by unfold wrap64; omega
  rw [h2, Int.tmod_eq_emod_of_nonneg (by omega)]
  have h3 := Int.emod_nonneg (full.tmod k + k) (b := k) (by omega)
  have h4 := Int.emod_lt_of_pos (full.tmod k + k) hk
  exact ⟨((full.tmod k + k) % k).toNat, by omega, by omega⟩
theorem take_piece {b : List UInt8} {p n : Nat} (hp : p ≤ b.length) : b.take p ++ piece b p n = b.take (p + (piece b p n).length) := by
  rw [piece_len]
  unfold piece
  rw [← List.take_add]
  by_cases h : n ≤ b.length - p
  · rw [Nat.min_eq_left h]
  · rw [Nat.min_eq_right (by omega), List.take_of_length_le (by omega), List.take_of_length_le (by omega)]
end Go.Proofs.YtjnifkngcbaldaaGreat

/- KernSays: what a read, a write and the questions ahead of them say, as values. No program. -/
namespace Go.Proofs.YtjnifkngcbaldaaGreat
open Go.RowKit

/-- num. -/
theorem num_kp (x : Int) (w : World) : Calls Tryz.prog 9 #[.int .i64 x] w fun e w' => e = .returned (.int .i64 x) ∧ w = w' := by
  go_enter Tryz.func9, Tryz.ntmps9
  go_wp2
  go_ret
  exact ⟨rfl, rfl⟩

theorem nxt_err {l : List Fault} {want : Int} (h1 : 1 ≤ want) (h2 : want ≤ 1048576) : (nxt l want).2 = 0 ∨ (nxt l want).2 = 22 ∨ (nxt l want).2 = 23 := by
  unfold nxt
  rw [if_neg (by omega)]
  cases l with
  | nil => exact .inl rfl
  | cons f r =>
    simp only
    split
    · exact .inl rfl
    · split
      · exact .inr (.inl rfl)
      · split
        · exact .inr (.inr rfl)
        · exact .inl rfl
theorem inN_of {n : Int} (h1 : 1 ≤ n) (h2 : n ≤ 1048576) : inN n = true := by simp [inN, h1, h2]
theorem read_says {K : KS} {d n : Int} {x : De} (ok : planOk K.plan) (hx : K.find d = some x) (h1 : 1 ≤ n) (h2 : n ≤ 1048576) :
    (fbit x.flags 1 = 0 ∧ (K.read d n).2.1 = 65 ∧ (K.read d n).2.2 = K ∧ K.canRead d = false) ∨
    (fbit x.flags 1 ≠ 0 ∧ (K.read d n).2.1 = 52 ∧ (K.read d n).2.2 = K ∧ K.canRead d = false ∧ (K.tho x).kind = 3) ∨
    (fbit x.flags 1 ≠ 0 ∧ ((K.read d n).2.1 = 0 ∨ (K.read d n).2.1 = 22 ∨ (K.read d n).2.1 = 23) ∧ K.canRead d = true) := by
  by_cases hf : fbit x.flags 1 = 0
  · left
    have e : K.read d n = ([], 65, K) := by unfold KS.read; rw [hx]; simp only; rw [if_pos hf]
    rw [e, KS.canRead_some hx, hf]
    exact ⟨rfl, rfl, rfl, rfl⟩
  · right
    have hb : (!(fbit x.flags 1 == 0)) = true := by simpa using hf
    by_cases hw : (K.tho x).waits = true
    · left
      have e : K.read d n = ([], 52, K) := by
        unfold KS.read; rw [hx]; simp only; rw [if_neg hf, if_neg (by omega), if_neg (by omega), if_pos hw]
      rw [e, KS.canRead_some hx, hb]
      cases ho : K.tho x with
      | file b => rw [ho] at hw; cases hw
      | term ls scr => rw [ho] at hw; cases hw
      | pipe q rd wt =>
        rw [ho] at hw
        exact ⟨hf, rfl, rfl, by simpa [Ob.waits] using hw, rfl⟩
    · right
      have hw' : (K.tho x).waits = false := by simpa using hw
      rw [read_is hx hf h1 h2 hw', KS.canRead_some hx, hb]
      refine ⟨hf, ?_, ?_⟩
      · rcases nxt_err (l := K.plan) h1 h2 with e | e | e
        · rw [if_pos e]
          have hm := nxt_good ok h1 h2 e
          left
          unfold KS.rdx
          rw [show K.readUp.tho x = K.tho x from rfl]
          cases ho : K.tho x with
          | file b => rfl
          | term ls scr =>
            show Te_rdE (nxt K.plan n).1 = 0
            unfold Te_rdE
            rw [if_pos (show rOk (nxt K.plan n).1 = true by unfold rOk; exact decide_eq_true ⟨hm.1, by omega⟩)]
          | pipe q rd wt =>
            show Kp_rdE (nxt K.plan n).1 q.length rd wt = 0
            rw [ho] at hw'
            have hc : canR q.length rd wt = true := by simpa [Ob.waits] using hw'
            unfold Kp_rdE
            rw [inN_of hm.1 (by omega)]
            unfold canR at hc
            simp only [Bool.and_eq_true, decide_eq_true_eq, Bool.not_eq_true', decide_eq_false_iff_not] at hc
            rw [if_neg (by decide), if_neg (by omega), if_neg (by simpa using hc.2)]
        · rw [if_neg (by omega)]; exact .inr (.inl e)
        · rw [if_neg (by omega)]; exact .inr (.inr e)
      · cases ho : K.tho x with
        | file b => rfl
        | term ls scr => rfl
        | pipe q rd wt => rw [ho] at hw'; simpa [Ob.waits] using hw'
theorem find_setDe {K : KS} {d : Int} {x x' : De} (hx : K.find d = some x) (hn : x'.n = x.n) : (K.setDe x').find d = some x' := by
  unfold KS.find KS.setDe at *
  generalize K.de = l at *
  induction l with
  | nil => simp at hx
  | cons y r ih =>
    have hxn := List.find?_some hx
    simp only [decide_eq_true_eq] at hxn
    simp only [List.map_cons, List.find?_cons] at hx ⊢
    by_cases e : y.n = x'.n
    · rw [if_pos e]
      rw [show decide ((x'.n : Int) = d) = true by simpa [hn] using hxn]
    · rw [if_neg e]
      have e2 : decide ((y.n : Int) = d) = false := by
        simp only [decide_eq_false_iff_not]; intro h; apply e; rw [hn]; omega
      rw [e2] at hx ⊢
      exact ih hx
theorem kind_set {K : KS} (j i : Nat) (ob : Ob) (h : ob.kind = (K.obOf i).kind) : ((K.setOb i ob).obOf j).kind = (K.obOf j).kind := by
  by_cases hi : i < K.th.length
  · exact KS.kind_setOb hi (by rw [h, KS.obOf_eq hi]) j
  · have : K.setOb i ob = K := by
      unfold KS.setOb
      rw [List.modify_eq_self (by omega)]
    rw [this]
theorem read_find {K : KS} {d n : Int} {x : De} (hx : K.find d = some x) : ∃ x', (K.read d n).2.2.find d = some x' ∧ x'.flags = x.flags ∧ ((K.read d n).2.2.tho x').kind = (K.tho x).kind := by
  unfold KS.read
  rw [hx]
  simp only
  split
  · exact ⟨x, hx, rfl, rfl⟩
  split
  · exact ⟨x, hx, rfl, rfl⟩
  split
  · exact ⟨x, hx, rfl, rfl⟩
  split
  · exact ⟨x, hx, rfl, rfl⟩
  split
  · cases ho : K.tho x with
    | file b =>
      refine ⟨_, find_setDe (K := K.readUp) (x := x) hx rfl, rfl, ?_⟩
      show (K.tho x).kind = _
      rw [ho]
    | term ls scr =>
      refine ⟨x, hx, rfl, ?_⟩
      show ((K.readUp.setOb x.th _).obOf x.th).kind = _
      rw [kind_set (K := K.readUp) x.th x.th _ (by show _ = (K.tho x).kind; rw [ho]; rfl)]
      show (K.tho x).kind = _
      rw [ho]
    | pipe q rd wt =>
      refine ⟨x, hx, rfl, ?_⟩
      show ((K.readUp.setOb x.th _).obOf x.th).kind = _
      rw [kind_set (K := K.readUp) x.th x.th _ (by show _ = (K.tho x).kind; rw [ho]; rfl)]
      show (K.tho x).kind = _
      rw [ho]
  · exact ⟨x, hx, rfl, rfl⟩
theorem refusal_vals (ob : Ob) (fl : Int) (p : Nat) (n : Int) : refusal ob fl p n = 0 ∨ refusal ob fl p n = 31 ∨ refusal ob fl p n = 53 ∨ refusal ob fl p n = 52 := by
  unfold refusal
  cases ob with
  | file f => simp only; split <;> simp
  | term ls scr => simp only; split <;> simp
  | pipe q rd wt => simp only; split <;> (try split) <;> simp
theorem refusal_soft {ob : Ob} (h : ob.kind ≠ 3) (fl : Int) (p : Nat) (n : Int) : refusal ob fl p n ≠ 52 := by
  unfold refusal
  cases ob with
  | file f => simp only; split <;> decide
  | term ls scr => simp only; split <;> decide
  | pipe q rd wt => exact absurd rfl h
theorem fit_some {n m c : Nat} (h : 0 < fitN n n c) (hm : 1 ≤ m) : fitN n m c ≠ 0 := by
  unfold fitN at h ⊢
  by_cases e : 512 < n
  · rw [if_pos e] at h ⊢; omega
  · rw [if_neg e] at h ⊢; exact Nat.ne_of_gt h
theorem write_says {K : KS} {d : Int} {b : List UInt8} {x : De} (ok : planOk K.plan) (hx : K.find d = some x) (h1 : 1 ≤ b.length) (h2 : b.length ≤ 1048576) :
    (fbit x.flags 2 = 0 ∧ (K.write d b).2.1 = 65) ∨ (fbit x.flags 2 ≠ 0 ∧ refusal (K.tho x) x.flags x.pos b.length = 52 ∧ (K.write d b).2.1 = 52) ∨
    (fbit x.flags 2 ≠ 0 ∧ refusal (K.tho x) x.flags x.pos b.length ≠ 52 ∧ (K.write d b).2.1 ≠ 65 ∧ (K.write d b).2.1 ≠ 52) := by
  by_cases hf : fbit x.flags 2 = 0
  · left
    refine ⟨hf, ?_⟩
    unfold KS.write; rw [hx]; simp only; rw [if_pos hf]
  · right
    have ne : refusal (K.tho x) x.flags x.pos b.length ≠ 0 → (K.write d b).2.1 = refusal (K.tho x) x.flags x.pos b.length := fun hr => by
      unfold KS.write; rw [hx]; simp only; rw [if_neg hf, if_neg (by omega), if_neg (by omega), if_neg hr]
    rcases refusal_vals (K.tho x) x.flags x.pos b.length with e | e | e | e
    · right
      refine ⟨hf, by omega, ?_⟩
      rw [write_is hx hf h1 h2 e]
      have h1' : (1 : Int) ≤ (b.length : Int) := by omega
      have h2' : (b.length : Int) ≤ 1048576 := by omega
      rcases nxt_err (l := K.plan) h1' h2' with e1 | e1 | e1
      · rw [if_pos e1]
        have hm := nxt_good ok h1' h2' e1
        unfold KS.wrx
        rw [show K.writeUp.tho x = K.tho x from rfl]
        cases ho : K.tho x with
        | file f => exact ⟨by simp, by simp⟩
        | term ls scr => exact ⟨by simp, by simp⟩
        | pipe q rd wt =>
          show Kp_wrE b.length (nxt K.plan b.length).1 q.length rd wt ≠ 65 ∧ Kp_wrE b.length (nxt K.plan b.length).1 q.length rd wt ≠ 52
          rw [ho] at e
          unfold refusal at e
          simp only at e
          by_cases hr : rd = 0
          · rw [if_pos hr] at e; cases e
          rw [if_neg hr] at e
          have hc : canW b.length q.length rd wt = true := by
            cases hcw : canW b.length q.length rd wt with
            | true => rfl
            | false => rw [hcw] at e; simp at e
          unfold canW at hc
          simp only [Bool.and_eq_true, decide_eq_true_eq, Bool.or_eq_true, Int.toNat_natCast] at hc
          obtain ⟨_, hwt, hfit⟩ := hc
          have hfit : 0 < fitN b.length b.length q.length := by rcases hfit with h | h <;> omega
          have : fitN b.length (nxt K.plan b.length).1.toNat q.length ≠ 0 := by
            exact fit_some hfit (by omega)
          have hre : refE b.length (nxt K.plan b.length).1 rd wt = 0 := by
            unfold refE
            rw [if_neg (by omega), inN_of hm.1 (by omega), if_neg (by decide), if_neg (by omega), if_neg hr]
          have : Kp_wrE b.length (nxt K.plan b.length).1 q.length rd wt = 0 := by
            unfold Kp_wrE
            rw [if_pos hre, if_neg (by omega), if_neg this]
          omega
      · rw [if_neg (by omega)]
        show (nxt K.plan b.length).2 ≠ 65 ∧ (nxt K.plan b.length).2 ≠ 52
        omega
      · rw [if_neg (by omega)]
        show (nxt K.plan b.length).2 ≠ 65 ∧ (nxt K.plan b.length).2 ≠ 52
        omega
    · right; rw [ne (by omega)]; exact ⟨hf, by omega, by omega, by omega⟩
    · right; rw [ne (by omega)]; exact ⟨hf, by omega, by omega, by omega⟩
    · left; rw [ne (by omega)]; exact ⟨hf, e, e⟩
theorem canWriteP_is {K : KS} {d n : Int} {x : De} (hx : K.find d = some x) (h1 : 1 ≤ n) (h2 : n ≤ 1048576) : K.canWriteP d n = (bit x.flags 2 && !(refusal (K.tho x) x.flags x.pos n == 52)) := by
  unfold KS.canWriteP
  rw [hx]
  simp only
  rw [inN_of h1 h2, Bool.true_and]
theorem kindOf_none {K : KS} {d : Int} (h : K.find d = none) : K.kindOf d = 0 ∧ K.canRead d = false ∧ ∀ n, K.canWriteP d n = false := by
  refine ⟨?_, KS.canRead_none h, fun n => ?_⟩
  · unfold KS.kindOf; rw [h]
  · unfold KS.canWriteP; rw [h]
theorem kindOf_some {K : KS} {d : Int} {x : De} (h : K.find d = some x) : K.kindOf d = (K.tho x).kind ∧ K.kindOf d ≠ 0 := by
  have : K.kindOf d = (K.tho x).kind := by unfold KS.kindOf; rw [h]
  refine ⟨this, ?_⟩
  rw [this]
  cases K.tho x <;> simp [Ob.kind]
/-- A write behind a question and a read: it waits just if the question said so. -/
theorem says_write {K K' : KS} {d n : Int} {x x' : De} {b : List UInt8} (ok' : planOk K'.plan) (hx : K.find d = some x) (hx' : K'.find d = some x') (hfl : x'.flags = x.flags) (hk : (K'.tho x').kind = (K.tho x).kind) (hs : K' = K ∨ (K.tho x).kind ≠ 3) (hn : (b.length : Int) = n) (h1 : 1 ≤ n) (h2 : n ≤ 1048576) :
    ((K'.write d b).2.1 = 65 ∧ K.canWriteP d n = false) ∨ ((K'.write d b).2.1 = 52 ∧ K.canWriteP d n = false) ∨ ((K'.write d b).2.1 ≠ 65 ∧ (K'.write d b).2.1 ≠ 52 ∧ K.canWriteP d n = true) := by
  rw [canWriteP_is hx h1 h2]
  have hsoft : refusal (K'.tho x') x'.flags x'.pos b.length = 52 ↔ refusal (K.tho x) x.flags x.pos n = 52 := by
    rcases hs with rfl | hs
    · rw [hx] at hx'
      cases hx'
      rw [hn]
    · have a := refusal_soft hs x.flags x.pos n
      have b := refusal_soft (ob := K'.tho x') (by rw [hk]; exact hs) x'.flags x'.pos b.length
      exact ⟨fun e => absurd e b, fun e => absurd e a⟩
  rcases write_says (b := b) ok' hx' (by omega) (by omega) with ⟨a1, a2⟩ | ⟨a1, a2, a3⟩ | ⟨a1, a2, a3, a4⟩
  · left; refine ⟨a2, ?_⟩; rw [bit_no (by rw [← hfl]; exact a1)]; rfl
  · right; left; refine ⟨a3, ?_⟩; rw [hsoft.1 a2]; simp
  · right; right
    refine ⟨a3, a4, ?_⟩
    rw [bit_yes (by rw [← hfl]; exact a1)]
    simpa using fun e => a2 (hsoft.2 e)
theorem plan_read {K : KS} (h : planOk K.plan) (d n : Int) : planOk (K.read d n).2.2.plan := by
  unfold KS.read
  split
  · exact h
  split
  · exact h
  split
  · exact h
  split
  · exact h
  split
  · exact h
  split
  · split
    · exact h.tail
    · exact h.tail
    · exact h.tail
  · exact h.tail
end Go.Proofs.YtjnifkngcbaldaaGreat

/- A law's setup, copied for the program; how far a kernel's numbers go up by a call. -/
namespace Go.Proofs.YtjnifkngcbaldaaGreat
open Go.RowKit Go.Maps

theorem nms_of_owns {W : World} {B B' : Nat} {v : Value} {l : List Nm} {us : List Value} (h : W.ownsRow B 69 2 v l.length (ncs l us)) (hc : LCells W B' (l.map Prod.snd) us) (hs : ∀ j (hj : j < l.length), l[j].1.size ≤ maxLen) : Nms W v l := by
  have hl : us.length = l.length := by have := hc.1; simpa using this
  rcases h.2 with ⟨rfl, h0⟩ | ⟨g, cap, cur, rfl, _, _, hcap, _⟩
  · rw [List.length_eq_zero_iff.1 h0]
    exact ⟨_, _, rfl, Nat.le_refl _, fun h => absurd h (by decide)⟩
  · refine ⟨_, cap, rfl, hcap, fun _ => ⟨g, 0, rfl, fun j hj => ?_⟩⟩
    obtain ⟨u, h1, h2⟩ := hc.2.1 j (by simpa using hj)
    simp only [List.getElem_map] at h2
    obtain ⟨e1, e2⟩ := ncs_get l us j hj hl
    have hcp := h2.2
    obtain ⟨a, c, rfl⟩ := owns_slice h2
    refine ⟨a, c, by rw [Nat.zero_add, h.cellAt (j * 2) (by omega)]; exact e1, by rw [Nat.zero_add, h.cellAt (j * 2 + 1) (by omega), e2]; exact h1, Bys.of_owns h2, ?_, hs j hj⟩
    rcases hcp with ⟨e, e'⟩ | ⟨_, _, _, e, _, _, e', _⟩
    · simp only [Value.slice.injEq] at e; omega
    · simp only [Value.slice.injEq] at e; omega
theorem tps_of_owns {W : World} {B B' : Nat} {v : Value} {l : List Tp} {us : List Value} (h : W.ownsRow B 74 2 v l.length (ncs l us)) (hl : us.length = l.length) (hc : ∀ j (hj : j < l.length), ∃ u, us[j]? = some u ∧ TC W B' l[j].2 u) (hs : ∀ j (hj : j < l.length), l[j].1.size ≤ maxLen) : Tps W v l := by
  rcases h.2 with ⟨rfl, h0⟩ | ⟨g, cap, cur, rfl, _, _, hcap, _⟩
  · rw [List.length_eq_zero_iff.1 h0]
    exact ⟨_, _, rfl, Nat.le_refl _, fun h => absurd h (by decide)⟩
  · refine ⟨_, cap, rfl, hcap, fun _ => ⟨g, 0, rfl, fun j hj => ?_⟩⟩
    obtain ⟨u, h1, xs, h2, h3⟩ := hc j hj
    obtain ⟨e1, e2⟩ := ncs_get l us j hj hl
    have hL := h3.lns rfl h2
    obtain ⟨a, c, rfl⟩ := owns_slice h2
    exact ⟨a, c, by rw [Nat.zero_add, h.cellAt (j * 2) (by omega)]; exact e1, by rw [Nat.zero_add, h.cellAt (j * 2 + 1) (by omega), e2]; exact h1, hL, hs j hj⟩
theorem nms_sizes {W : World} {v : Value} {l : List Nm} (h : Nms W v l) : ∀ j (hj : j < l.length), l[j].1.size ≤ maxLen := fun j hj => by
  obtain ⟨a, c, rfl, _, hd⟩ := h
  obtain ⟨b, off, _, hd⟩ := hd (by omega)
  obtain ⟨_, _, _, _, _, _, e⟩ := hd j hj
  exact e
theorem tps_sizes {W : World} {v : Value} {l : List Tp} (h : Tps W v l) : ∀ j (hj : j < l.length), l[j].1.size ≤ maxLen := fun j hj => by
  obtain ⟨a, c, rfl, _, hd⟩ := h
  obtain ⟨b, off, _, hd⟩ := hd (by omega)
  obtain ⟨_, _, _, _, _, e⟩ := hd j hj
  exact e

theorem LCells.turned {S : Nat → Prop} {W W' : World} {B : Nat} {ls : List (List UInt8)} {xs : List Value} (h : LCells W B ls xs) (hT : Turned S W W') (hS : ∀ k, B ≤ k → ¬ S k) : LCells W' B ls xs :=
  h.keep fun j hj v k h1 e => by
    obtain ⟨v', h2, h3⟩ := h.2.1 j hj
    rw [h1] at h2
    cases h2
    exact hT.block k (h3.lt k e).2 (hS k (h3.lt k e).1)
theorem TC.turned {S : Nat → Prop} {W W' : World} {B : Nat} {ls : List (List UInt8)} {u : Value} (h : TC W B ls u) (hT : Turned S W W') (hS : ∀ k, B ≤ k → ¬ S k) : TC W' B ls u := by
  obtain ⟨xs, h1, h2⟩ := h
  exact ⟨xs, owns_turned h1 hT (fun k e => hS k (h1.lt k e).1), h2.turned hT hS⟩
/-- A kernel's numbers go up by no more than a call may bring. -/
def KLe (K K' : KS) : Prop := K'.next ≤ K.next + 2 ∧ K'.reads ≤ K.reads + 1 ∧ K'.writes ≤ K.writes + 1
theorem KLe.refl (K : KS) : KLe K K := ⟨by omega, by omega, by omega⟩
theorem cut_same (K : KS) (i : Nat) (f : Int) : (K.cut i f).next = K.next ∧ (K.cut i f).reads = K.reads ∧ (K.cut i f).writes = K.writes := by
  unfold KS.cut
  split
  · split
    · exact ⟨rfl, rfl, rfl⟩
    · exact ⟨rfl, rfl, rfl⟩
  · exact ⟨rfl, rfl, rfl⟩
theorem kle_open (K : KS) (s : ByteArray) (f : Int) : KLe K (K.open s f).2.2 := by
  unfold KS.open
  split
  · exact KLe.refl K
  split
  · exact KLe.refl K
  split
  · exact KLe.refl K
  split
  · rename_i i _
    split
    · obtain ⟨e1, e2, e3⟩ := cut_same K i f
      refine ⟨?_, ?_, ?_⟩
      · show (K.cut i f).next + 1 ≤ _; omega
      · show (K.cut i f).reads ≤ _; omega
      · show (K.cut i f).writes ≤ _; omega
    · exact KLe.refl K
  · split
    · exact KLe.refl K
    split
    · exact KLe.refl K
    · refine ⟨?_, ?_, ?_⟩
      · show K.next + 1 ≤ _; omega
      · show K.reads ≤ _; omega
      · show K.writes ≤ _; omega
theorem kle_pipe (K : KS) : KLe K K.pipe.2.2.2 := by
  unfold KS.pipe
  split
  · exact KLe.refl K
  · refine ⟨?_, ?_, ?_⟩
    · show K.next + 1 + 1 ≤ _; omega
    · show K.reads ≤ _; omega
    · show K.writes ≤ _; omega
theorem kle_read (K : KS) (d n : Int) : KLe K (K.read d n).2.2 := by
  have up : ∀ (K' : KS), K'.next = K.next → K'.reads = K.reads + 1 → K'.writes = K.writes → KLe K K' := fun K' a b c => ⟨by omega, by omega, by omega⟩
  unfold KS.read
  split
  · exact KLe.refl K
  split
  · exact KLe.refl K
  split
  · exact KLe.refl K
  split
  · exact KLe.refl K
  split
  · exact KLe.refl K
  split
  · split
    · exact up _ rfl rfl rfl
    · exact up _ rfl rfl rfl
    · exact up _ rfl rfl rfl
  · exact up _ rfl rfl rfl
theorem kle_write (K : KS) (d : Int) (b : List UInt8) : KLe K (K.write d b).2.2 := by
  have up : ∀ (K' : KS), K'.next = K.next → K'.reads = K.reads → K'.writes = K.writes + 1 → KLe K K' := fun K' a b c => ⟨by omega, by omega, by omega⟩
  unfold KS.write
  split
  · exact KLe.refl K
  split
  · exact KLe.refl K
  split
  · exact KLe.refl K
  split
  · exact KLe.refl K
  split
  · split
    · split
      · exact up _ rfl rfl rfl
      · exact up _ rfl rfl rfl
      · exact up _ rfl rfl rfl
    · exact up _ rfl rfl rfl
  · exact KLe.refl K
theorem kle_keep (K : KS) (d : Int) : KLe K (K.keepK d) := by
  unfold KS.keepK
  split
  · exact KLe.refl K
  split
  · exact KLe.refl K
  · exact KLe.refl K
theorem kle_drop (K : KS) (d : Int) : KLe K (K.dropK d) := by
  unfold KS.dropK
  split
  · exact KLe.refl K
  split
  · exact KLe.refl K
  split
  · exact KLe.refl K
  · exact KLe.refl K
theorem new_nums (fs : List Nm) (ts : List Tp) (l : List Fault) : (KS.new fs ts l).next = 1 ∧ (KS.new fs ts l).reads = 0 ∧ (KS.new fs ts l).writes = 0 := by
  unfold KS.new
  have h1 : ∀ (fs : List Nm) (K : KS), (fs.foldl (fun K f => K.addTh ⟨f.1, .file f.2⟩) K).next = K.next ∧ (fs.foldl (fun K f => K.addTh ⟨f.1, .file f.2⟩) K).reads = K.reads ∧ (fs.foldl (fun K f => K.addTh ⟨f.1, .file f.2⟩) K).writes = K.writes := by
    intro fs
    induction fs with
    | nil => exact fun K => ⟨rfl, rfl, rfl⟩
    | cons f r ih => exact fun K => ih (K.addTh ⟨f.1, .file f.2⟩)
  have h2 : ∀ (ts : List Tp) (K : KS), (ts.foldl (fun K t => K.addTh ⟨t.1, .term t.2 []⟩) K).next = K.next ∧ (ts.foldl (fun K t => K.addTh ⟨t.1, .term t.2 []⟩) K).reads = K.reads ∧ (ts.foldl (fun K t => K.addTh ⟨t.1, .term t.2 []⟩) K).writes = K.writes := by
    intro ts
    induction ts with
    | nil => exact fun K => ⟨rfl, rfl, rfl⟩
    | cons f r ih => exact fun K => ih (K.addTh ⟨f.1, .term f.2 []⟩)
  obtain ⟨a1, a2, a3⟩ := h2 ts (fs.foldl (fun K f => K.addTh ⟨f.1, .file f.2⟩) (KS.nought l))
  obtain ⟨b1, b2, b3⟩ := h1 fs (KS.nought l)
  exact ⟨a1.trans b1, a2.trans b2, a3.trans b3⟩

theorem trip_cells (w : World) (x y z : Value) (t : TypeId) : (w.alloc (Obj.cells #[x, y, z] t)).cell? ⟨w.heap.size, 0, none⟩ = some x ∧ (w.alloc (Obj.cells #[x, y, z] t)).cell? ⟨w.heap.size, 1, none⟩ = some y ∧ (w.alloc (Obj.cells #[x, y, z] t)).cell? ⟨w.heap.size, 2, none⟩ = some z := by
  have h := heap_alloc_new w (Obj.cells ([x, y, z] : List Value).toArray t)
  refine ⟨?_, ?_, ?_⟩ <;> (rw [cell_of_row _ _ _ _ _ _ h]; rfl)
set_option maxRecDepth 100000 in
set_option maxHeartbeats 2000000 in
theorem config_any (a1 a2 a3 : Option Addr) (c1 c2 c3 : Nat) (fs : List Nm) (ts : List Tp) (l : List Fault) (w : World) (h1 : Nms w (.slice a1 fs.length c1) fs) (h2 : Tps w (.slice a2 ts.length c2) ts) (h3 : Flts w (.slice a3 l.length c3) l)
    (z1 : fs.length * 40 ≤ 140737488351232 ∧ ∀ j (hj : j < fs.length), fs[j].2.length ≤ 140737488351232) (z2 : ts.length * 40 ≤ 140737488351232 ∧ ∀ j (hj : j < ts.length), ts[j].2.length * 24 ≤ 140737488351232 ∧ ∀ i (hi : i < ts[j].2.length), ts[j].2[i].length ≤ 140737488351232) (z3 : l.length * 16 ≤ 140737488351232) :
    Calls Tryz.prog 5 #[.agg #[.slice a1 fs.length c1, .slice a2 ts.length c2, .slice a3 l.length c3]] w fun e w' => ∃ b1 d1 b2 d2 b3 d3, e = .returned (.agg #[.slice b1 fs.length d1, .slice b2 ts.length d2, .slice b3 l.length d3]) ∧ Nms w' (.slice b1 fs.length d1) fs ∧ Tps w' (.slice b2 ts.length d2) ts ∧ Flts w' (.slice b3 l.length d3) l ∧ Below w.heap.size w w' := by
  have H1 := hide h1
  have H2 := hide h2
  have H3 := hide h3
  have Z1 := hide z1
  have Z2 := hide z2
  have Z3 := hide z3
  have hB0 := recv_below w (Obj.cells #[.slice a1 fs.length c1, .slice a2 ts.length c2, .slice a3 l.length c3] 26)
  have HB0 := hide hB0
  clear h1 h2 h3 z1 z2 z3 hB0
  obtain ⟨q0, q1, q2⟩ := trio_cells w (.slice a1 fs.length c1) (.slice a2 ts.length c2) (.slice a3 l.length c3) 26
  go_enter Tryz.func5, Tryz.ntmps5
  go_wp2_with fail
  have hBx := HB0.out
  have hsx := hBx.size
  have hwz : (w.alloc (Obj.cells #[Value.slice a1 fs.length c1, Value.slice a2 ts.length c2, Value.slice a3 l.length c3] 26)).heap.size = w.heap.size + 1 := by simp
  generalize hwx : w.alloc (Obj.cells #[Value.slice a1 fs.length c1, Value.slice a2 ts.length c2, Value.slice a3 l.length c3] 26) = wx at *
  have hlt : w.heap.size < wx.heap.size := World.block_lt_of_cell? wx _ q0
  have hBy := recv_below wx (Obj.cells #[Value.slice none 0 0, Value.slice none 0 0, Value.slice none 0 0] 28)
  have k0 := (hBy.cell (p := ⟨w.heap.size, 0, none⟩) hlt).trans q0
  have k1 := (hBy.cell (p := ⟨w.heap.size, 1, none⟩) hlt).trans q1
  have k2 := (hBy.cell (p := ⟨w.heap.size, 2, none⟩) hlt).trans q2
  obtain ⟨r0, r1, r2⟩ := trio_cells wx (.slice none 0 0) (.slice none 0 0) (.slice none 0 0) 28
  generalize hwy : wx.alloc (Obj.cells #[Value.slice none 0 0, Value.slice none 0 0, Value.slice none 0 0] 28) = wy at *
  have hlt2 : w.heap.size < wy.heap.size := World.block_lt_of_cell? wy _ k0
  have hlr : wx.heap.size < wy.heap.size := World.block_lt_of_cell? wy _ r0
  have hBwy : Below w.heap.size w wy := hBx.trans (hBy.mono hsx)
  have HByd := hide ((Below.refl w.heap.size w).trans hBwy).drew
  have HS : Hid (∀ W, Below wy.heap.size wy W → W.cell? ⟨w.heap.size, 0, none⟩ = some (.slice a1 fs.length c1) ∧ W.cell? ⟨w.heap.size, 1, none⟩ = some (.slice a2 ts.length c2) ∧ W.cell? ⟨w.heap.size, 2, none⟩ = some (.slice a3 l.length c3)) := hide (fun W hW =>
    ⟨(hW.cell hlt2).trans k0, (hW.cell hlt2).trans k1, (hW.cell hlt2).trans k2⟩)
  have f0 : wy.frozen? ⟨wx.heap.size, 0, none⟩ = false := by rw [← hwy]; simp only [World.frozen?, heap_alloc_new]; rfl
  have f1 : wy.frozen? ⟨wx.heap.size, 1, none⟩ = false := by rw [← hwy]; simp only [World.frozen?, heap_alloc_new]; rfl
  have f2 : wy.frozen? ⟨wx.heap.size, 2, none⟩ = false := by rw [← hwy]; simp only [World.frozen?, heap_alloc_new]; rfl
  have hnq : wx.heap.size ≠ w.heap.size := by omega
  have HFz : Hid (∀ W, Below wy.heap.size wy W → W.cell? ⟨wx.heap.size, 0, none⟩ = some (.slice none 0 0) ∧ W.cell? ⟨wx.heap.size, 1, none⟩ = some (.slice none 0 0) ∧ W.cell? ⟨wx.heap.size, 2, none⟩ = some (.slice none 0 0) ∧ W.frozen? ⟨wx.heap.size, 0, none⟩ = false ∧ W.frozen? ⟨wx.heap.size, 1, none⟩ = false ∧ W.frozen? ⟨wx.heap.size, 2, none⟩ = false) := hide (fun W hW =>
    ⟨(hW.cell hlr).trans r0, (hW.cell hlr).trans r1, (hW.cell hlr).trans r2, (hW.frozen hlr).trans f0, (hW.frozen hlr).trans f1, (hW.frozen hlr).trans f2⟩)
  rw [hwz] at HFz hnq
  clear k0 k1 k2 r0 r1 r2 f0 f1 f2 q0 q1 q2
  go_region_held3 (fun w' => w'.cell? ⟨w.heap.size, 0, none⟩ = some (.slice a1 fs.length c1) ∧ w'.cell? ⟨w.heap.size, 1, none⟩ = some (.slice a2 ts.length c2) ∧ w'.cell? ⟨w.heap.size, 2, none⟩ = some (.slice a3 l.length c3))
    (first | exact ⟨(World.cell?_setCell_far _ _ _ _ hnq).trans ((World.cell?_setCell_far _ _ _ _ hnq).trans ((World.cell?_setCell_far _ _ _ _ hnq).trans (HS.out _ h4).1)), (World.cell?_setCell_far _ _ _ _ hnq).trans ((World.cell?_setCell_far _ _ _ _ hnq).trans ((World.cell?_setCell_far _ _ _ _ hnq).trans (HS.out _ h4).2.1)), (World.cell?_setCell_far _ _ _ _ hnq).trans ((World.cell?_setCell_far _ _ _ _ hnq).trans ((World.cell?_setCell_far _ _ _ _ hnq).trans (HS.out _ h4).2.2))⟩ | exact HS.out _ h4 | exact HS.out _ h3 | exact HS.out _ (Below.refl _ _).drew | exact HS.out _ h2 | go_keep)
    (first | (go_at_call 23; refine (copyNamed_any _ fs _ (H1.out.below (by exact HByd.out)) Z1.out.1 Z1.out.2).mono ?_; rintro _ w2 ⟨v1, us1, rfl, hO1, hL1, hB2⟩; obtain ⟨b1, d1, rfl⟩ := owns_slice hO1; have h2 : Below wy.heap.size wy w2 := (Below.refl _ _).drew.trans hB2) | (go_at_call 24; refine (copyTyped_any _ ts _ (H2.out.below (HByd.out.trans (hB2.mono HByd.out.size))) Z2.out.1 Z2.out.2).mono ?_; rintro _ w3 ⟨v2, us2, rfl, hO2, hl2, hL2, hB3⟩; obtain ⟨b2, d2, rfl⟩ := owns_slice hO2; have h3 : Below wy.heap.size wy w3 := h2.trans (hB3.mono h2.size)) | (go_at_call 25; refine (copyf_any _ l _ (H3.out.below ((HByd.out.trans (hB2.mono HByd.out.size)).trans (hB3.mono (HByd.out.trans (hB2.mono HByd.out.size)).size))) Z3.out).mono ?_; rintro _ w4 ⟨v3, rfl, hO3, hB4⟩; obtain ⟨b3, d3, rfl⟩ := owns_slice hO3; have h4 : Below wy.heap.size wy w4 := h3.trans (hB4.mono h3.size); obtain ⟨r0, r1, r2, f0, f1, f2⟩ := HFz.out _ h4) | fail)
  have hrow : w4.heap[w.heap.size + 1]? = some (.cells #[.slice none 0 0, .slice none 0 0, .slice none 0 0] 28 (0, 0)) := by
    rw [← hwz, h4.block _ hlr, ← hwy]
    exact heap_alloc_new _ _
  have e0 := Go.heap_setCell_same w4 (w.heap.size + 1) 0 _ _ (.slice b1 fs.length d1) hrow
  have e1 := Go.heap_setCell_same _ (w.heap.size + 1) 1 _ _ (.slice b2 ts.length d2) e0
  have e2 := Go.heap_setCell_same _ (w.heap.size + 1) 2 _ _ (.slice b3 l.length d3) e1
  have hT5 : Turned (fun k => k = w.heap.size + 1) w4 (((w4.setCell ⟨w.heap.size + 1, 0, none⟩ (.slice b1 fs.length d1)).setCell ⟨w.heap.size + 1, 1, none⟩ (.slice b2 ts.length d2)).setCell ⟨w.heap.size + 1, 2, none⟩ (.slice b3 l.length d3)) := (((Turned.refl (fun k => k = w.heap.size + 1) w4).set (.inl rfl)).set (.inl rfl)).set (.inl rfl)
  have hB5 : Below w.heap.size w (((w4.setCell ⟨w.heap.size + 1, 0, none⟩ (.slice b1 fs.length d1)).setCell ⟨w.heap.size + 1, 1, none⟩ (.slice b2 ts.length d2)).setCell ⟨w.heap.size + 1, 2, none⟩ (.slice b3 l.length d3)) := ((((hBwy.trans (h4.mono (Nat.le_of_lt hlt2))).setCell (p := ⟨w.heap.size + 1, 0, none⟩) (Nat.le_succ _) _).setCell (p := ⟨w.heap.size + 1, 1, none⟩) (Nat.le_succ _) _).setCell (p := ⟨w.heap.size + 1, 2, none⟩) (Nat.le_succ _) _)
  generalize ((w4.setCell ⟨w.heap.size + 1, 0, none⟩ (.slice b1 fs.length d1)).setCell ⟨w.heap.size + 1, 1, none⟩ (.slice b2 ts.length d2)).setCell ⟨w.heap.size + 1, 2, none⟩ (.slice b3 l.length d3) = w5 at *
  have hdr : wy.drew.heap.size = wy.heap.size := rfl
  have far : ∀ k, wy.heap.size ≤ k → ¬ k = w.heap.size + 1 := fun k h e => by omega
  have hs2 := h2.size
  have hs3 := h3.size
  have hB24 := hB3.trans (hB4.mono hB3.size)
  have n1 := nms_of_owns (owns_turned (owns_below hO1 hB24) hT5 (fun k hk e => far k (by have := (hO1.lt k hk).1; omega) e)) ((hL1.below hB24).turned hT5 (fun k hk e => far k (by omega) e)) (nms_sizes H1.out)
  have n2 := tps_of_owns (owns_turned (owns_below hO2 hB4) hT5 (fun k hk e => far k (by have := (hO2.lt k hk).1; omega) e)) hl2 (fun j hj => by
    obtain ⟨u, g1, g2⟩ := hL2 j hj
    exact ⟨u, g1, (g2.below hB4).turned hT5 (fun k hk e => far k (by omega) e)⟩) (tps_sizes H2.out)
  have n3 := Flts.of_owns (owns_turned hO3 hT5 (fun k hk e => far k (by have := (hO3.lt k hk).1; omega) e))
  go_wp2
  refine bodyPost_ret (results_cell_row rfl _ _ (w.heap.size + 1) _ _ _ _ rfl e2 Tryz.underlying28 rfl (by kernel_rfl)) rfl ?_
  exact ⟨_, _, _, _, _, _, rfl, n1, n2, n3, hB5⟩
end Go.Proofs.YtjnifkngcbaldaaGreat

/- Contracts of Go's library on the keys of a map, sorted, at this dump, laid by the kit's own command. -/
namespace Go.Proofs
open Go.RowKit Go.Maps Go.Sort Go.Shelf
def Tryz.keys70_ren : Go.Shelf.Ren := ⟨fun | 7 => 70 | 10 => 112 | n => n, fun | 23 => 62 | 26 => 9 | 3 => 70 | 28 => 137 | 0 => 0 | 27 => 136 | 33 => 84 | 4 => 4 | n => n, fun | n => n⟩
theorem Tryz.keys70 : Go.Proofs.SlLaysZ.n7 Tryz.prog Tryz.keys70_ren := {
  mixed := by kernel_rfl
  f7 := ⟨Tryz.f70.name, by decide, Tryz.func70.trans (congrArg some (by kernel_rfl))⟩
  f10 := ⟨Tryz.f112.name, by decide, Tryz.func112.trans (congrArg some (by kernel_rfl))⟩
  t0 := Tryz.underlying0
  a0 := Tryz.isAgg0
  z0 := Tryz.sizeOf0
  v0 := Tryz.zeroValue0
  t4 := Tryz.underlying4
  a4 := Tryz.isAgg4
  z4 := Tryz.sizeOf4
  v4 := Tryz.zeroValue4
  t23 := Tryz.underlying62
  a23 := Tryz.isAgg62
  z23 := Tryz.sizeOf62
  v23 := Tryz.zeroValue62
  t26 := Tryz.underlying9
  a26 := Tryz.isAgg9
  z26 := Tryz.sizeOf9
  v26 := Tryz.zeroValue9
  t27 := Tryz.underlying136
  a27 := Tryz.isAgg136
  z27 := Tryz.sizeOf136
  v27 := Tryz.zeroValue136
  t28 := Tryz.underlying137
  a28 := Tryz.isAgg137
  z28 := Tryz.sizeOf137
  v28 := Tryz.zeroValue137
  t33 := Tryz.underlying84
  a33 := Tryz.isAgg84
  z33 := Tryz.sizeOf84
  v33 := Tryz.zeroValue84 }
def Tryz.sorted69_ren : Go.Shelf.Ren := ⟨fun | 6 => 69 | 8 => 110 | 9 => 111 | 11 => 124 | 13 => 126 | 12 => 125 | 23 => 136 | 24 => 137 | 14 => 127 | 15 => 128 | 16 => 129 | 17 => 130 | 18 => 131 | 19 => 132 | 20 => 133 | 21 => 134 | 22 => 135 | 25 => 138 | 26 => 139 | 27 => 140 | 28 => 141 | 29 => 142 | 30 => 143 | 31 => 144 | n => n, fun | 26 => 9 | 28 => 137 | 24 => 83 | 0 => 0 | 3 => 3 | 37 => 219 | 48 => 231 | 50 => 233 | 4 => 4 | 40 => 224 | 39 => 223 | 45 => 188 | 5 => 5 | 9 => 9 | 51 => 234 | 55 => 207 | 57 => 239 | 58 => 87 | 33 => 84 | n => n, fun | n => n⟩
theorem Tryz.sorted69 : Go.Proofs.SlLaysZ.n6 Tryz.prog Tryz.sorted69_ren := {
  mixed := by kernel_rfl
  f6 := ⟨Tryz.f69.name, by decide, Tryz.func69.trans (congrArg some (by kernel_rfl))⟩
  f8 := ⟨Tryz.f110.name, by decide, Tryz.func110.trans (congrArg some (by kernel_rfl))⟩
  f11 := ⟨Tryz.f124.name, by decide, Tryz.func124.trans (congrArg some (by kernel_rfl))⟩
  t0 := Tryz.underlying0
  a0 := Tryz.isAgg0
  z0 := Tryz.sizeOf0
  v0 := Tryz.zeroValue0
  t24 := Tryz.underlying83
  a24 := Tryz.isAgg83
  z24 := Tryz.sizeOf83
  v24 := Tryz.zeroValue83
  t26 := Tryz.underlying9
  a26 := Tryz.isAgg9
  z26 := Tryz.sizeOf9
  v26 := Tryz.zeroValue9
  t28 := Tryz.underlying137
  a28 := Tryz.isAgg137
  z28 := Tryz.sizeOf137
  v28 := Tryz.zeroValue137
  i26 := by kernel_rfl }
def Tryz.sort111_ren : Go.Shelf.Ren := ⟨fun | 6 => 111 | 8 => 126 | 9 => 125 | 19 => 136 | 20 => 137 | 21 => 127 | 22 => 128 | 23 => 129 | 24 => 130 | 25 => 131 | 26 => 132 | 27 => 133 | 28 => 134 | 29 => 135 | 36 => 138 | 31 => 139 | 32 => 140 | 37 => 141 | 38 => 142 | 39 => 143 | 41 => 144 | n => n, fun | 27 => 83 | 29 => 9 | 3 => 3 | 32 => 219 | 26 => 83 | 0 => 0 | 44 => 231 | 46 => 233 | 4 => 4 | 36 => 224 | 35 => 223 | 41 => 188 | 5 => 5 | 9 => 9 | 53 => 234 | 57 => 207 | 63 => 239 | 64 => 87 | n => n, fun | n => n⟩
theorem Tryz.sort111 : Go.Proofs.SlLaysM.n6 Tryz.prog Tryz.sort111_ren := {
  mixed := by kernel_rfl
  f6 := ⟨Tryz.f111.name, by decide, Tryz.func111.trans (congrArg some (by kernel_rfl))⟩
  f8 := Tryz.func126.trans (congrArg some (by kernel_rfl))
  f9 := ⟨Tryz.f125.name, by decide, Tryz.func125.trans (congrArg some (by kernel_rfl))⟩
  f19 := Tryz.func136.trans (congrArg some (by kernel_rfl))
  f20 := Tryz.func137.trans (congrArg some (by kernel_rfl))
  f21 := ⟨Tryz.f127.name, by decide, Tryz.func127.trans (congrArg some (by kernel_rfl))⟩
  f22 := ⟨Tryz.f128.name, by decide, Tryz.func128.trans (congrArg some (by kernel_rfl))⟩
  f23 := ⟨Tryz.f129.name, by decide, Tryz.func129.trans (congrArg some (by kernel_rfl))⟩
  f24 := ⟨Tryz.f130.name, by decide, Tryz.func130.trans (congrArg some (by kernel_rfl))⟩
  f25 := ⟨Tryz.f131.name, by decide, Tryz.func131.trans (congrArg some (by kernel_rfl))⟩
  f26 := ⟨Tryz.f132.name, by decide, Tryz.func132.trans (congrArg some (by kernel_rfl))⟩
  f27 := ⟨Tryz.f133.name, by decide, Tryz.func133.trans (congrArg some (by kernel_rfl))⟩
  f28 := ⟨Tryz.f134.name, by decide, Tryz.func134.trans (congrArg some (by kernel_rfl))⟩
  f29 := ⟨Tryz.f135.name, by decide, Tryz.func135.trans (congrArg some (by kernel_rfl))⟩
  f31 := Tryz.func139.trans (congrArg some (by kernel_rfl))
  f32 := Tryz.func140.trans (congrArg some (by kernel_rfl))
  f36 := ⟨Tryz.f138.name, by decide, Tryz.func138.trans (congrArg some (by kernel_rfl))⟩
  f37 := ⟨Tryz.f141.name, by decide, Tryz.func141.trans (congrArg some (by kernel_rfl))⟩
  f38 := ⟨Tryz.f142.name, by decide, Tryz.func142.trans (congrArg some (by kernel_rfl))⟩
  f39 := ⟨Tryz.f143.name, by decide, Tryz.func143.trans (congrArg some (by kernel_rfl))⟩
  f41 := ⟨Tryz.f144.name, by decide, Tryz.func144.trans (congrArg some (by kernel_rfl))⟩
  t0 := Tryz.underlying0
  a0 := Tryz.isAgg0
  z0 := Tryz.sizeOf0
  v0 := Tryz.zeroValue0
  t3 := Tryz.underlying3
  a3 := Tryz.isAgg3
  z3 := Tryz.sizeOf3
  v3 := Tryz.zeroValue3
  t4 := Tryz.underlying4
  a4 := Tryz.isAgg4
  z4 := Tryz.sizeOf4
  v4 := Tryz.zeroValue4
  t5 := Tryz.underlying5
  a5 := Tryz.isAgg5
  z5 := Tryz.sizeOf5
  v5 := Tryz.zeroValue5
  t9 := Tryz.underlying9
  a9 := Tryz.isAgg9
  z9 := Tryz.sizeOf9
  v9 := Tryz.zeroValue9
  t26 := Tryz.underlying83
  a26 := Tryz.isAgg83
  z26 := Tryz.sizeOf83
  v26 := Tryz.zeroValue83
  t27 := Tryz.underlying83
  a27 := Tryz.isAgg83
  z27 := Tryz.sizeOf83
  v27 := Tryz.zeroValue83
  t29 := Tryz.underlying9
  a29 := Tryz.isAgg9
  z29 := Tryz.sizeOf9
  v29 := Tryz.zeroValue9
  t32 := Tryz.underlying219
  a32 := Tryz.isAgg219
  z32 := Tryz.sizeOf219
  v32 := Tryz.zeroValue219
  t35 := Tryz.underlying223
  a35 := Tryz.isAgg223
  z35 := Tryz.sizeOf223
  v35 := Tryz.zeroValue223
  t36 := Tryz.underlying224
  a36 := Tryz.isAgg224
  z36 := Tryz.sizeOf224
  v36 := Tryz.zeroValue224
  t41 := Tryz.underlying188
  a41 := Tryz.isAgg188
  z41 := Tryz.sizeOf188
  v41 := Tryz.zeroValue188
  t44 := Tryz.underlying231
  a44 := Tryz.isAgg231
  z44 := Tryz.sizeOf231
  v44 := Tryz.zeroValue231
  t46 := Tryz.underlying233
  a46 := Tryz.isAgg233
  z46 := Tryz.sizeOf233
  v46 := Tryz.zeroValue233
  t53 := Tryz.underlying234
  a53 := Tryz.isAgg234
  z53 := Tryz.sizeOf234
  v53 := Tryz.zeroValue234
  t57 := Tryz.underlying207
  a57 := Tryz.isAgg207
  z57 := Tryz.sizeOf207
  v57 := Tryz.zeroValue207
  t63 := Tryz.underlying239
  a63 := Tryz.isAgg239
  z63 := Tryz.sizeOf239
  v63 := Tryz.zeroValue239
  t64 := Tryz.underlying87
  a64 := Tryz.isAgg87
  z64 := Tryz.sizeOf87
  v64 := Tryz.zeroValue87 }

theorem Tryz.sorts69 (m : Nat) : AnyZ.SortsIn Tryz.prog Tryz.sorted69_ren Fence.wide m :=
  ⟨fun blk off cap ss W hH hblk hsz => callsIn_wide.2 (AnyM.slices_Sort_string Tryz.sort111 blk off cap ss W hH hblk hsz),
   fun p cap W => callsIn_wide.2 (AnyM.slices_Sort_string_none Tryz.sort111 p cap W)⟩
theorem Tryz.maps_Keys_70 (mb : Option Nat) (W : World) : CallsIn Fence.wide 5 Tryz.prog 70 #[.map mb] W fun e w' => e = .returned (.func (.func 112) #[] #[.pointer (some ⟨W.heap.size, 0, none⟩)]) ∧ w' = W.alloc (.cells #[.map mb] 62) :=
  AnyZ.keys_in Tryz.keys70 Fence.wide 5 trivial rfl mb W
set_option maxHeartbeats 1000000 in
theorem Tryz.slices_Sorted_keys_69_70 {H : Type} (b nn : Nat) (D0 : DataW H) (R : Value → Option (DataW H × List MemPlace)) (w : World) (hown : w.ownsMap Tryz.prog 9 R b nn D0) (hmax : Maps.size D0 ≤ maxLen) (hbytes : Maps.size D0 * 16 ≤ 140737488355328) :
    CallsIn Fence.wide 5 Tryz.prog 69 #[.func (.func 112) #[] #[.pointer (some ⟨w.heap.size, 0, none⟩)]] (w.alloc (.cells #[.map (some b)] 62)) fun e w' => ∃ (v : Value) (ss : List (List UInt8)), e = .returned v ∧ ss.Perm (strKeys D0) ∧
      w'.ownsRow (w.alloc (.cells #[.map (some b)] 62)).heap.size 9 1 v ss.length ((ss.mergeSort (fun x y => decide (x ≤ y))).map encStr) ∧ (v = .slice none 0 0 ↔ ss = []) ∧ Below (w.alloc (.cells #[.map (some b)] 62)).heap.size (w.alloc (.cells #[.map (some b)] 62)) w' := by
  have hbl := hown.lt
  have hseq : SeqGives Fence.wide 2 Tryz.prog 112 #[.pointer (some ⟨w.heap.size, 0, none⟩)] encStr (fun ss => ss.Perm (strKeys D0)) (Maps.size D0) (w.alloc (.cells #[.map (some b)] 62)) :=
    AnyZ.keys_gives (ρ := Tryz.keys70_ren) { Tryz.keys70 with } Fence.wide _ trivial rfl (by omega) w.heap.size b nn D0 _ (by simp) (by simp) (by
      obtain ⟨es, clock, hb, Ft, hs, hD⟩ := hown
      exact ⟨es, clock, (Below.heap_alloc _ _ b hbl).trans hb, Ft, hs, hD⟩)
  exact AnyZ.sorted_in Tryz.sorted69 Fence.wide 5 trivial trivial trivial trivial rfl (by omega) (Tryz.sorts69 _) (enters_of Tryz.func111 (by kernel_rfl) rfl) 112 #[.pointer (some ⟨w.heap.size, 0, none⟩)] trivial (enters_of Tryz.func112 (by kernel_rfl) rfl) _ _ hmax hbytes _ hseq
set_option maxHeartbeats 1000000 in
theorem Tryz.slices_Sorted_keys_nil_69_70 (w : World) :
    CallsIn Fence.wide 5 Tryz.prog 69 #[.func (.func 112) #[] #[.pointer (some ⟨w.heap.size, 0, none⟩)]] (w.alloc (.cells #[.map none] 62)) fun e w' => ∃ (v : Value) (ss : List (List UInt8)), e = .returned v ∧ ss = [] ∧
      w'.ownsRow (w.alloc (.cells #[.map none] 62)).heap.size 9 1 v ss.length ((ss.mergeSort (fun x y => decide (x ≤ y))).map encStr) ∧ (v = .slice none 0 0 ↔ ss = []) ∧ Below (w.alloc (.cells #[.map none] 62)).heap.size (w.alloc (.cells #[.map none] 62)) w' := by
  have hseq : SeqGives Fence.wide 2 Tryz.prog 112 #[.pointer (some ⟨w.heap.size, 0, none⟩)] encStr (fun ss : List (List UInt8) => ss = []) 0 (w.alloc (.cells #[.map none] 62)) :=
    AnyZ.keys_gives_nil (ρ := Tryz.keys70_ren) { Tryz.keys70 with } Fence.wide _ trivial rfl w.heap.size _ (by simp) (by simp)
  exact AnyZ.sorted_in Tryz.sorted69 Fence.wide 5 trivial trivial trivial trivial rfl (by omega) (Tryz.sorts69 _) (enters_of Tryz.func111 (by kernel_rfl) rfl) 112 #[.pointer (some ⟨w.heap.size, 0, none⟩)] trivial (enters_of Tryz.func112 (by kernel_rfl) rfl) _ 0 (Nat.zero_le _) (by omega) _ hseq
end Go.Proofs

/- Files: all files by name. -/
namespace Go.Proofs.YtjnifkngcbaldaaGreat
open Go.RowKit Go.Maps

/-- A file's bytes. -/
def Ob.bytes : Ob → List UInt8
  | .file b => b
  | _ => []
/-- All files, by name. -/
def KS.files (K : KS) : List Nm := K.fidx.map fun i => (K.nameOf i, (K.obOf i).bytes)
def fnames (K : KS) : List (List UInt8) := K.fidx.map fun i => (K.nameOf i).data.toList
theorem fnames_sorted {K : KS} (h : KNm K) : (fnames K).Pairwise (fun a b => leB a b = true) := by
  unfold fnames KS.fidx
  refine List.pairwise_map.2 ?_
  refine ((h.sorted.filter _).imp fun {a b} hab => ?_)
  exact decide_eq_true (List.le_of_lt hab)
theorem keys_are {K : KS} (h : KNm K) {ss : List (List UInt8)} (hp : ss.Perm (fnames K)) : ss.mergeSort (fun x y => decide (x ≤ y)) = fnames K := by
  show ss.mergeSort leB = _
  rw [mergeSort_of_perm hp]
  exact List.mergeSort_of_pairwise (fnames_sorted h)
theorem fl_strs (K : KS) (I : PI) : ((K.fl I).map fun p => strOf p.1) = fnames K := by
  unfold KS.fl fnames
  rw [List.map_map]
  rfl
theorem sorted_any {w : World} {ρ : Nat → Option PTag} {I : PI} {K : KS} (h : PK w ρ I K) :
    Calls Tryz.prog 69 #[.func (.func 112) #[] #[.pointer (some ⟨w.heap.size, 0, none⟩)]] (w.alloc (.cells #[.map (some I.fm)] 62)) fun e w' => ∃ v, e = .returned v ∧ w'.ownsRow (w.alloc (.cells #[.map (some I.fm)] 62)).heap.size 9 1 v (fnames K).length ((fnames K).map encStr) ∧ Below (w.alloc (.cells #[.map (some I.fm)] 62)).heap.size (w.alloc (.cells #[.map (some I.fm)] 62)) w' := by
  obtain ⟨D, h1, h2, h3⟩ := (h.comp .fmap).1.keys skeyed Tryz.underlying9
  have hfew : (K.fl I).length ≤ 256 := by
    have := h.ok.named
    have h4 : (K.fl I).length ≤ K.nm.length := by unfold KS.fl KS.fidx; simpa using List.length_filter_le _ _
    omega
  rw [fl_strs] at h3
  refine (callsIn_wide.1 (Tryz.slices_Sorted_keys_69_70 I.fm _ D ptrElem w h1 (by unfold maxLen; omega) (by omega))).mono ?_
  rintro e w' ⟨v, ss, rfl, hS, hrow, -, hb⟩
  have hp := hS.trans h3
  rw [keys_are h.nm hp, hp.length_eq] at hrow
  exact ⟨v, rfl, hrow, hb⟩
theorem kbytes_any (O : Nat → Prop) (p : Nat) (b : List UInt8) (w : World) (h : PObj w O p (.file b)) :
    Calls Tryz.prog 71 #[.pointer (some ⟨p, 0, none⟩)] w fun e w' => ∃ v, e = .returned v ∧ w'.ownsRow w.heap.size 5 1 v b.length (b.map bv) ∧ Below w.heap.size w w' :=
  (po_fbytes O p b w h).mono fun _ _ ⟨a, b, c⟩ => ⟨_, a, b, c⟩
theorem name_few {s : ByteArray} (h : nameOk s = true) : s.size ≤ 64 := by
  unfold nameOk at h
  simp only [Bool.and_eq_true, decide_eq_true_eq] at h
  exact h.2.1
theorem file_at {K : KS} (h : KOk K) {k : Nat} (hk : k < (fnames K).length) : ∃ i L, i ∈ K.nm ∧ i < K.th.length ∧ K.obOf i = .file L ∧ (fnames K)[k]? = some (K.nameOf i).data.toList ∧ K.files[k]? = some (K.nameOf i, L) := by
  have hk' : k < K.fidx.length := by simpa [fnames] using hk
  have hm := List.mem_filter.1 (List.getElem_mem hk')
  have hkind : (K.obOf K.fidx[k]).kind = 1 := by simpa using hm.2
  cases ho : K.obOf K.fidx[k] with
  | file L =>
    refine ⟨K.fidx[k], L, hm.1, h.nm _ hm.1, ho, ?_, ?_⟩
    · simp [fnames, hk']
    · simp [KS.files, hk', ho, Ob.bytes]
  | term ls scr => rw [ho] at hkind; cases hkind
  | pipe q rd wt => rw [ho] at hkind; cases hkind
theorem names_cell {W : World} {va : Option Addr} {vc N k : Nat} {ns : List (List UInt8)} {s : ByteArray} (h : W.ownsRow 0 9 1 (.slice va N vc) N (ns.map encStr)) (hk : k < N) (hs : ns[k]? = some s.data.toList) : ∃ vb, va = some ⟨vb, 0, none⟩ ∧ W.cell? ⟨vb, k, none⟩ = some (.string s) := by
  have hx := h
  rcases h.2 with ⟨e, _⟩ | ⟨g, cap, cur, e, _⟩
  · simp only [Value.slice.injEq] at e; omega
  · simp only [Value.slice.injEq] at e
    obtain ⟨rfl, _, rfl⟩ := e
    refine ⟨g, rfl, ?_⟩
    rw [hx.cellAt k (by omega), List.getElem?_map, hs]
    simp [encStr]
theorem kkeys_any (mb : Option Nat) (W : World) : Calls Tryz.prog 70 #[.map mb] W fun e w' => e = .returned (.func (.func 112) #[] #[.pointer (some ⟨W.heap.size, 0, none⟩)]) ∧ w' = W.alloc (.cells #[.map mb] 62) := callsIn_wide.1 (Tryz.maps_Keys_70 mb W)
set_option maxRecDepth 100000 in
set_option maxHeartbeats 4000000 in
theorem kfiles_any (ρ : Nat → Option PTag) (I : PI) (K : KS) (w : World) (h : PK w ρ I K) :
    Calls Tryz.prog 17 #[.pointer (some ⟨I.kb, 0, none⟩)] w fun e w' => ∃ v us, e = .returned v ∧ w'.ownsRow w.heap.size 69 2 v K.files.length (ncs K.files us) ∧ LCells w' w.heap.size (K.files.map Prod.snd) us ∧ Below w.heap.size w w' := by
  have H := hide h
  have c0 := h.cells.made
  have c1 := h.cells.files
  have sl := (h.comp .fmap).1.len Tryz.underlying62
  have hflen : (K.fl I).length = (fnames K).length := by simp [KS.fl, fnames]
  obtain ⟨N, hN⟩ : ∃ N, N = (fnames K).length := ⟨_, rfl⟩
  rw [hflen, ← hN] at sl
  have HN := hide hN
  have HN9 : Hid (N ≤ 256) := hide (by
    have := h.ok.named
    have h4 : (K.fl I).length ≤ K.nm.length := by unfold KS.fl KS.fidx; simpa using List.length_filter_le _ _
    omega)
  obtain ⟨i0, hi, hz0, hz1, hz2⟩ := info_parts Tryz.infoN
  clear h hflen hN
  go_enter Tryz.func17, Tryz.ntmps17
  go_wp2_with fail
  refine (kmade_any I.kb w c0).mono ?_
  rintro e w1 ⟨rfl, rfl⟩
  go_wp2_with (at_make; refine wpList_make_own _ rfl _ _ 22 rfl w1.heap.size 69 i0 (.agg #[.string ByteArray.empty, .slice none 0 0]) 2 Tryz.underlying22 hi hz0 hz1 _ _ _ N rfl rfl rfl (by rw [hz2]; have := HN9.out; omega) (by have := HN9.out; unfold maxLen; omega) (Nat.le_refl _) ?_; intro w2 hown2 hgrow2; have HO2 := hide hown2; have HB2 : Hid (Below w1.heap.size w1 w2) := hide ((Below.refl _ w1).grown hgrow2 (Nat.le_refl _) (fun k e => by cases e)); have H2 := hide (H.out.under HB2.out); have c2 := H2.out.cells.files; clear hown2 hgrow2 c0 c1 sl)
  refine (kkeys_any _ _).mono ?_
  rintro _ _ ⟨rfl, rfl⟩
  go_wp2_with fail
  refine (sorted_any H2.out).mono ?_
  rintro e w3 ⟨v, rfl, hrow, hB3⟩
  obtain ⟨va, vc, rfl⟩ := owns_slice hrow
  have HRow := hide (owns_mono hrow (Nat.zero_le _))
  rw [← HN.out] at HRow ⊢
  have HB3 : Hid (Below w1.heap.size w1 w3) := hide (HB2.out.trans (((recv_below w2 _).trans (hB3.mono (recv_below w2 _).size)).mono HB2.out.size))
  have HO3 := hide (owns_below HO2.out ((recv_below w2 _).trans (hB3.mono (recv_below w2 _).size)))
  clear hrow hB3 c2
  go_wp2_with fail
  go_loopw [3, 22] (fun ov i wr => ∃ (k : Nat) (us : List Value), k ≤ N ∧ i = .int .i64 k ∧ Hid (wr.ownsRow w1.heap.size 69 2 ov k (ncs (K.files.take k) us)) ∧ Hid (LCells wr w1.heap.size ((K.files.take k).map Prod.snd) us) ∧ Hid (wr.ownsRow 0 9 1 (.slice va N vc) N ((fnames K).map encStr)) ∧ Hid (Below w1.heap.size w1 wr)) (fun _ i _ => N - (intOf i).toNat)
  case atStart => exact ⟨0, [], Nat.zero_le _, rfl, HO3, hide ⟨rfl, (fun j hj => by simp at hj), (fun i j vi vj m _ h1 => by simp at h1)⟩, HRow, HB3⟩
  case round =>
    obtain ⟨k, us, hk, rfl, HO, HL, HRw, HB⟩ := hrel
    obtain ⟨oa, oc, rfl⟩ := owns_slice HO.out
    clear HO3 HRow HB3 HO2 HB2 H2
    by_cases hlt : k < N
    · obtain ⟨i, L, hmem, hith, hobi, hfn, hfile⟩ := file_at H.out.ok (k := k) (by rw [← HN.out]; exact hlt)
      have hH := H.out.under HB.out
      have hHd := hH
      have hsz : (K.nameOf i).size ≤ maxLen := by have := name_few (H.out.nm.ok i hmem); unfold maxLen; omega
      have hlk := look_file hHd hsz hmem rfl (by rw [hobi]; rfl) false
      simp only [Bool.false_eq_true, if_false] at hlk
      have HOb : Hid (PObj wr (fun k => ρ k = some (.obj i)) (I.ob i) (.file L)) := hide (by have := hHd.comp (.obj i) hith; rw [← KS.obOf_eq hith, hobi] at this; exact this)
      have hc1 := hH.cells.files
      have hkb : I.kb < wr.heap.size := World.block_lt_of_cell? wr _ hc1
      have hkw : I.kb < w1.heap.size := World.block_lt_of_cell? w1 _ H.out.cells.files
      obtain ⟨vb, rfl, hcell⟩ := names_cell HRw.out hlt hfn
      have hk1 : (0 : Int) ≤ (k : Int) := by omega
      have hk2 : (k : Int) < (N : Int) := by omega
      have hNs := HN9.out
      have hBs := HB.out.size
      have hul := HL.out.1
      simp only [List.length_map, List.length_take] at hul
      have hkf : k < K.files.length := (List.getElem?_eq_some_iff.1 hfile).1
      rw [Nat.min_eq_left (by omega)] at hul
      have hl4 : L.length ≤ 1048576 := HOb.out.1
      have HPk := hide hfile
      generalize K.nameOf i = nm at *
      clear hfn hobi hH hHd hfile hsz
      go_wp2_with fail
      refine (kbytes_any _ (I.ob i) L _ HOb.out).mono ?_
      rintro e w4 ⟨u, rfl, hownu, hB4⟩
      obtain ⟨ua, uc, rfl⟩ := owns_slice hownu
      have hz4 : wr.heap.size ≤ w4.heap.size := hB4.size
      have hB04 : Below w1.heap.size w1 w4 := HB.out.trans (hB4.mono HB.out.size)
      have K4 : w4.cell? ⟨I.kb, 1, none⟩ = some (.map (some I.fm)) := (hB4.cell (p := ⟨I.kb, 1, none⟩) hkb).trans hc1
      have hBa : Below w4.heap.size w4 (w4.alloc (Obj.cells #[.string nm, .slice ua L.length uc] 69)) := (Below.refl _ _).alloc (Nat.le_refl _) _
      have Ka : (w4.alloc (Obj.cells #[.string nm, .slice ua L.length uc] 69)).cell? ⟨I.kb, 1, none⟩ = some (.map (some I.fm)) := (hBa.cell (p := ⟨I.kb, 1, none⟩) (Nat.lt_of_lt_of_le hkb hz4)).trans K4
      have hB0a := hB04.trans (hBa.mono hB04.size)
      have hB4a := hB4.trans (hBa.mono hB4.size)
      have HOa := hide (owns_below (W := wr) HO.out hB4a)
      have HLa := hide (LCells.below (W := wr) HL.out hB4a)
      have HUa := hide (owns_below hownu hBa)
      have hcu0 : (w4.alloc (Obj.cells #[.string nm, .slice ua L.length uc] 69)).cell? ⟨w4.heap.size, 0, none⟩ = some (.string nm) := (by simp only [World.cell?, heap_alloc_new]; rfl)
      have hcu1 : (w4.alloc (Obj.cells #[.string nm, .slice ua L.length uc] 69)).cell? ⟨w4.heap.size, 1, none⟩ = some (.slice ua L.length uc) := (by simp only [World.cell?, heap_alloc_new]; rfl)
      have hza := size_new w4 (Obj.cells #[.string nm, .slice ua L.length uc] 69)
      obtain ⟨s', w7, hrun, HO7, hg7, hb7⟩ := run_append_named (w4.alloc (Obj.cells #[.string nm, .slice ua L.length uc] 69)) 22 w1.heap.size _ k _ w4.heap.size 1 nm _ HOa.out hcu0 hcu1 rfl (by omega) (by omega)
      have HR := hide hrun
      have HX := hide hownu
      have K7 : w7.cell? ⟨I.kb, 1, none⟩ = some (.map (some I.fm)) := (World.cell?_of_block (w := w4.alloc (Obj.cells #[.string nm, .slice ua L.length uc] 69)) (a := ⟨I.kb, 1, none⟩) (hg7.block I.kb (by show I.kb < _; omega) (fun e => by have := (HOa.out.lt I.kb e.symm).1; omega))).trans Ka
      clear hrun hownu hcu0 hcu1
      go_wp2_with (first | (at_builtin; refine Lib.wpList_append_run _ rfl _ _ _ _ rfl _ _ rfl rfl _ _ HR.out ?_) | fail)
      all_goals
        go_roundw
        case rel =>
          have hLa : LCells w7 w1.heap.size ((K.files.take k).map Prod.snd) us := HLa.out.keep fun j hj v i h1 e => by
            obtain ⟨v', h2, h3⟩ := HLa.out.2.1 j hj
            rw [h1] at h2
            cases h2
            exact hg7.block i (h3.lt i e).2 (fun e' => Te_owns_apart h3 HOa.out (by decide) i e e'.symm)
          have hU7 := owns_keep (W' := w7) HUa.out fun i e => hg7.block i (HUa.out.lt i e).2 (fun e' => Te_owns_apart HUa.out HOa.out (by decide) i e e'.symm)
          refine ⟨k + 1, us ++ [.slice ua L.length uc], by omega, by go_num, ?_, ?_, hide ?_, hide (hB0a.grown hg7 hB0a.size (fun j e => (HOa.out.lt j e).1))⟩
          · have h8 := HO7.out
            rw [← ncs_snoc (K.files.take k) us (nm, L) _ (by simp; omega)] at h8
            rw [show K.files.take (k + 1) = K.files.take k ++ [(nm, L)] by rw [List.take_add_one, HPk.out]; rfl]
            exact h8
          · have h9 : k < (K.files.map Prod.snd).length := by rw [List.length_map]; exact (List.getElem?_eq_some_iff.1 HPk.out).1
            rw [List.map_take] at hLa ⊢
            refine LCells.snoc h9 hLa _ ?_ (fun j v i h1 e e' => ?_)
            · rw [List.getElem_map, (List.getElem?_eq_some_iff.1 HPk.out).2]
              exact owns_mono hU7 (by omega)
            · obtain ⟨v', h2, h3⟩ := HL.out.2.1 j (by have := (List.getElem?_eq_some_iff.1 h1).1; have := HL.out.1; omega)
              rw [h1] at h2
              cases h2
              have := (h3.lt i e).2
              have : wr.heap.size ≤ i := (HX.out.lt i e').1
              omega
          · exact owns_keep (owns_below HRw.out hB4a) fun i e => hg7.block i (Nat.lt_of_lt_of_le (HRw.out.lt i e).2 hB4a.size) (fun e' => Te_owns_apart (owns_below HRw.out hB4a) HOa.out (by decide) i e e'.symm)
        case measure => simp [intOf]; omega
    · have hke : k = K.files.length := by have := HN.out; simp only [fnames, KS.files, List.length_map] at *; omega
      go_wp2
      go_ret
      have h1 := HL.out
      have h2 := HO.out
      subst hke
      rw [List.take_length] at h1 h2
      exact ⟨_, us, rfl, h2, h1, HB.out⟩
end Go.Proofs.YtjnifkngcbaldaaGreat

/- KernPieces: the kernel's states, as values. -/
namespace Go.Proofs.YtjnifkngcbaldaaGreat
open Go.RowKit Go.Maps

def nmG : ByteArray := ⟨#[103]⟩
/-- Two files: one read, one written. -/
def KPc (b y : List UInt8) (p q : Nat) (L : List Fault) (rd wr : Nat) : KS := ⟨[⟨nmF, .file b⟩, ⟨nmG, .file y⟩], [0, 1], [⟨1, 0, 1, p, 1⟩, ⟨2, 1, 10, q, 1⟩], 3, L, rd, wr⟩
theorem pc_open1 (b : List UInt8) (l : List Fault) : (KS.new [(nmF, b)] [] l).open nmF 1 = (1, 0, ⟨[⟨nmF, .file b⟩], [0], [⟨1, 0, 1, 0, 1⟩], 2, l, 0, 0⟩) := rfl
theorem pc_open2 (b : List UInt8) (l : List Fault) : (⟨[⟨nmF, .file b⟩], [0], [⟨1, 0, 1, 0, 1⟩], 2, l, 0, 0⟩ : KS).open nmG 10 = (2, 0, KPc b [] 0 0 l 0 0) := rfl
theorem pc_read (b y : List UInt8) (p q : Nat) (L : List Fault) (rd wr : Nat) (n : Nat) (hp : p ≤ b.length) (hL : planOk L) (h1 : 1 ≤ n) (h2 : n ≤ 1048576) :
    ∃ Y E, (KPc b y p q L rd wr).read 1 (n : Int) = (Y, E, KPc b y (p + Y.length) q L.tail (rd + 1) wr) ∧ b.take p ++ Y = b.take (p + Y.length) ∧ p + Y.length ≤ b.length ∧ (E = 0 ∨ E = 22 ∨ E = 23) ∧ Y.length ≤ n ∧ (Y.length = 0 → p < b.length → L ≠ []) := by
  have hx : (KPc b y p q L rd wr).find 1 = some ⟨1, 0, 1, p, 1⟩ := rfl
  have n1 : (1 : Int) ≤ (n : Int) := by omega
  have n2 : (n : Int) ≤ 1048576 := by omega
  rw [read_is hx (by show fbit 1 1 ≠ 0; decide) n1 n2 rfl]
  rw [show (KPc b y p q L rd wr).plan = L from rfl]
  rcases nxt_err (l := L) n1 n2 with e | e | e
  · rw [if_pos e]
    have hg := nxt_good hL n1 n2 e
    refine ⟨piece b p (nxt L n).1.toNat, 0, rfl, take_piece hp, ?_, .inl rfl, ?_, ?_⟩
    · rw [piece_len]; omega
    · rw [piece_len]; omega
    · intro h0 hlt; rw [piece_len] at h0; omega
  · rw [if_neg (by omega), e]
    refine ⟨[], 22, rfl, by simp, by simpa using hp, by simp, by simp, fun _ _ hn => ?_⟩
    subst hn
    rw [nxt_nil n1 n2] at e
    cases e
  · rw [if_neg (by omega), e]
    refine ⟨[], 23, rfl, by simp, by simpa using hp, by simp, by simp, fun _ _ hn => ?_⟩
    subst hn
    rw [nxt_nil n1 n2] at e
    cases e
theorem wrL_more (x : List UInt8) (q m : Nat) (hq : q + m ≤ x.length) (hm : 1 ≤ m) (h2 : x.length ≤ 1048576) : wrL (x.take q) q ((x.drop q).take m) = x.take (q + m) := by
  unfold wrL
  have hl : ((x.drop q).take m).length = m := by rw [List.length_take, List.length_drop]; omega
  have hf : Fi_wrE q ((x.drop q).take m).length = 0 := wr_fits (at' := q) (by omega)
  rw [if_pos hf]
  have hne : (x.drop q).take m ≠ [] := by intro e; rw [e] at hl; simp at hl; omega
  have htl : (x.take q).length = q := by rw [List.length_take]; omega
  unfold lay grow
  simp only [hl, htl]
  have hd : (List.take q x ++ List.replicate (q + m - q) (0 : UInt8)).drop (q + m) = [] := List.drop_of_length_le (by rw [List.length_append, htl, List.length_replicate]; omega)
  rw [if_neg hne, Int.toNat_natCast, List.take_append_of_le_length (by omega), List.take_of_length_le (by omega), hd, List.append_nil, List.take_add]
theorem pc_write (b x : List UInt8) (p q : Nat) (L : List Fault) (rd wr : Nat) (hq : q < x.length) (h2 : x.length ≤ 1048576) (hL : planOk L) :
    ∃ (m : Nat) (E : Int), (KPc b (x.take q) p q L rd wr).write 2 (x.drop q) = ((m : Int), E, KPc b (x.take (q + m)) p (q + m) L.tail rd (wr + 1)) ∧ q + m ≤ x.length ∧ (E = 0 ∨ E = 22 ∨ E = 23) ∧ (m = 0 → L ≠ []) := by
  have hx : (KPc b (x.take q) p q L rd wr).find 2 = some ⟨2, 1, 10, q, 1⟩ := rfl
  have hdl : (x.drop q).length = x.length - q := List.length_drop
  have hpl : placeOf (x.take q) 10 q = q := rfl
  have hr : refusal ((KPc b (x.take q) p q L rd wr).tho ⟨2, 1, 10, q, 1⟩) 10 q (x.drop q).length = 0 := by
    show (if placeOf (x.take q) 10 q = 1048576 then (31 : Int) else 0) = 0
    rw [hpl, if_neg (by omega)]
  have n1 : (1 : Int) ≤ ((x.drop q).length : Int) := by omega
  have n2 : ((x.drop q).length : Int) ≤ 1048576 := by omega
  rw [write_is hx (by show fbit 10 2 ≠ 0; decide) (by omega) (by omega) hr]
  rw [show (KPc b (x.take q) p q L rd wr).plan = L from rfl]
  rcases nxt_err (l := L) n1 n2 with e | e | e
  · rw [if_pos e]
    have hg := nxt_good hL n1 n2 e
    obtain ⟨m, hm⟩ : ∃ m : Nat, (nxt L (x.drop q).length).1 = (m : Int) := ⟨(nxt L (x.drop q).length).1.toNat, by omega⟩
    rw [hm] at hg ⊢
    have hmin : min ((m : Int)).toNat (1048576 - placeOf (x.take q) 10 q) = m := by rw [hpl]; omega
    refine ⟨m, 0, ?_, by omega, .inl rfl, fun h0 => by omega⟩
    show (KPc b (x.take q) p q L rd wr).writeUp.wrx ⟨2, 1, 10, q, 1⟩ (x.drop q) m = _
    rw [show (KPc b (x.take q) p q L rd wr).writeUp.wrx ⟨2, 1, 10, q, 1⟩ (x.drop q) m = (((min ((m : Int)).toNat (1048576 - placeOf (x.take q) 10 q) : Nat) : Int), 0, ((KPc b (x.take q) p q L rd wr).writeUp.setOb 1 (.file (wrL (x.take q) (placeOf (x.take q) 10 q) ((x.drop q).take (min ((m : Int)).toNat (1048576 - placeOf (x.take q) 10 q)))))).setDe ⟨2, 1, 10, placeOf (x.take q) 10 q + min ((m : Int)).toNat (1048576 - placeOf (x.take q) 10 q), 1⟩) from rfl]
    rw [hmin, hpl, wrL_more x q m (by omega) (by omega) h2]
    rfl
  · rw [if_neg (by omega), e]
    refine ⟨0, 22, rfl, by omega, by simp, fun _ hn => ?_⟩
    subst hn
    rw [nxt_nil n1 n2] at e
    cases e
  · rw [if_neg (by omega), e]
    refine ⟨0, 23, rfl, by omega, by simp, fun _ hn => ?_⟩
    subst hn
    rw [nxt_nil n1 n2] at e
    cases e
theorem pc_files (b x : List UInt8) (p q : Nat) (L : List Fault) (rd wr : Nat) : (KPc b x p q L rd wr).files = [(nmF, b), (nmG, x)] := rfl
theorem KAt.files {w : World} {O : Nat → Prop} {kb : Nat} {K : KS} (h : KAt w O kb K) :
    Calls Tryz.prog 17 #[.pointer (some ⟨kb, 0, none⟩)] w fun e w' => ∃ v us, e = .returned v ∧ w'.ownsRow w.heap.size 69 2 v K.files.length (ncs K.files us) ∧ LCells w' w.heap.size (K.files.map Prod.snd) us ∧ Below w.heap.size w w' := by
  obtain ⟨ρ, I, h1, rfl, h3⟩ := h
  exact kfiles_any ρ I K w h1
end Go.Proofs.YtjnifkngcbaldaaGreat

/- Rest and Calls of a kernel; what a refused call leaves, as values. -/
namespace Go.Proofs.YtjnifkngcbaldaaGreat
open Go.RowKit Go.Maps

set_option maxRecDepth 100000 in
theorem krest_any (ρ : Nat → Option PTag) (I : PI) (K : KS) (w : World) (h : PK w ρ I K) :
    Calls Tryz.prog 18 #[.pointer (some ⟨I.kb, 0, none⟩)] w fun e w' => ∃ v, e = .returned v ∧ w'.ownsRow w.heap.size 148 2 v K.plan.length (fcs K.plan) ∧ Below w.heap.size w w' := by
  have c0 := h.cells.made
  have c5 := h.cells.plan
  have HR := hide (rest_any I.pb I.pv K.plan w (h.comp .plan).1 (by have := h.ok.plan.1; omega))
  have HM := hide (kmade_any I.kb w c0)
  clear h
  go_enter Tryz.func18, Tryz.ntmps18
  go_wp2_with fail
  refine HM.out.mono ?_
  rintro e w1 ⟨rfl, rfl⟩
  go_wp2_with fail
  refine HR.out.mono ?_
  rintro e w2 ⟨v, rfl, hO, hB⟩
  have HO := hide hO
  have HB := hide hB
  clear hO hB
  go_wp2
  go_ret
  exact ⟨v, rfl, HO.out, HB.out⟩
theorem KAt.rest {w : World} {O : Nat → Prop} {kb : Nat} {K : KS} (h : KAt w O kb K) :
    Calls Tryz.prog 18 #[.pointer (some ⟨kb, 0, none⟩)] w fun e w' => ∃ v, e = .returned v ∧ w'.ownsRow w.heap.size 148 2 v K.plan.length (fcs K.plan) ∧ Below w.heap.size w w' := by
  obtain ⟨ρ, I, h1, rfl, h3⟩ := h
  exact krest_any ρ I K w h1
/-- What is left of a call that answers an error. -/
def Refused (K : KS) (E : Int) (K' : KS) : Prop := K'.files = K.files ∧ ((E ≠ 22 ∧ E ≠ 23 ∧ K'.plan = K.plan) ∨ ((E = 22 ∨ E = 23) ∧ K'.plan = K.plan.tail ∧ K.plan ≠ []))
theorem Refused.same {K : KS} {E : Int} (h1 : E ≠ 22) (h2 : E ≠ 23) : Refused K E K := ⟨rfl, .inl ⟨h1, h2, rfl⟩⟩
theorem refused_open (K : KS) (s : ByteArray) (f : Int) (h : (K.open s f).2.1 ≠ 0) : Refused K (K.open s f).2.1 (K.open s f).2.2 := by
  revert h
  unfold KS.open
  repeat' split
  all_goals first
    | exact fun _ => Refused.same (by simp) (by simp)
    | exact fun h => absurd rfl h
theorem nxt_some {L : List Fault} {n : Int} (h1 : 1 ≤ n) (h2 : n ≤ 1048576) (h : (nxt L n).2 ≠ 0) : L ≠ [] := fun e => by
  subst e
  unfold nxt at h
  rw [if_neg (by omega)] at h
  exact h rfl
theorem rdx_zero {K : KS} {x : De} {m : Int} (h1 : 1 ≤ m) (h2 : m ≤ 1048576) (hw : (K.tho x).waits = false) : (K.rdx x m).2.1 = 0 := by
  unfold KS.rdx
  cases ho : K.tho x with
  | file b => rfl
  | term ls scr =>
    show Te_rdE m = 0
    unfold Te_rdE
    rw [if_pos (show rOk m = true by unfold rOk; exact decide_eq_true ⟨h1, h2⟩)]
  | pipe q rd wt =>
    show Kp_rdE m q.length rd wt = 0
    rw [ho] at hw
    have hc : canR q.length rd wt = true := by simpa [Ob.waits] using hw
    unfold Kp_rdE
    rw [inN_of h1 h2]
    unfold canR at hc
    simp only [Bool.and_eq_true, decide_eq_true_eq, Bool.not_eq_true', decide_eq_false_iff_not] at hc
    rw [if_neg (by decide), if_neg (by omega), if_neg (by simpa using hc.2)]
theorem refused_read (K : KS) (ok : planOk K.plan) (d n : Int) (h : (K.read d n).2.1 ≠ 0) : Refused K (K.read d n).2.1 (K.read d n).2.2 := by
  cases hx : K.find d with
  | none =>
    have e : K.read d n = ([], 64, K) := by unfold KS.read; rw [hx]
    rw [e]; exact Refused.same (by simp) (by simp)
  | some x =>
    by_cases hf : fbit x.flags 1 = 0
    · have e : K.read d n = ([], 65, K) := by unfold KS.read; rw [hx]; simp only; rw [if_pos hf]
      rw [e]; exact Refused.same (by simp) (by simp)
    by_cases hn : n < 0 ∨ 1048576 < n
    · have e : K.read d n = ([], 4, K) := by unfold KS.read; rw [hx]; simp only; rw [if_neg hf, if_pos hn]
      rw [e]; exact Refused.same (by simp) (by simp)
    by_cases h0 : n = 0
    · have e : K.read d n = ([], 0, K) := by unfold KS.read; rw [hx]; simp only; rw [if_neg hf, if_neg hn, if_pos h0]
      rw [e] at h; exact absurd rfl h
    have n1 : 1 ≤ n := by omega
    have n2 : n ≤ 1048576 := by omega
    by_cases hw : (K.tho x).waits = true
    · have e : K.read d n = ([], 52, K) := by unfold KS.read; rw [hx]; simp only; rw [if_neg hf, if_neg hn, if_neg h0, if_pos hw]
      rw [e]; exact Refused.same (by simp) (by simp)
    have hw' : (K.tho x).waits = false := by simpa using hw
    rw [read_is hx hf n1 n2 hw'] at h ⊢
    by_cases e0 : (nxt K.plan n).2 = 0
    · rw [if_pos e0] at h
      have hg := nxt_good ok n1 n2 e0
      exact absurd (rdx_zero (K := K.readUp) hg.1 (by omega) hw') h
    · rw [if_neg e0]
      refine ⟨rfl, .inr ⟨?_, rfl, nxt_some n1 n2 e0⟩⟩
      rcases nxt_err (l := K.plan) n1 n2 with e | e | e
      · exact absurd e e0
      · exact .inl e
      · exact .inr e
theorem wrx_zero {K : KS} {x : De} {b : List UInt8} {m : Int} (h1 : 1 ≤ m) (h2 : m ≤ 1048576) (hl : 1 ≤ b.length) (hl2 : b.length ≤ 1048576) (hr : refusal (K.tho x) x.flags x.pos b.length = 0) : (K.wrx x b m).2.1 = 0 := by
  unfold KS.wrx
  cases ho : K.tho x with
  | file f => rfl
  | term ls scr => rfl
  | pipe q rd wt =>
    show Kp_wrE b.length m q.length rd wt = 0
    rw [ho] at hr
    unfold refusal at hr
    simp only at hr
    by_cases hrd : rd = 0
    · rw [if_pos hrd] at hr; cases hr
    rw [if_neg hrd] at hr
    have hc : canW b.length q.length rd wt = true := by
      cases hcw : canW b.length q.length rd wt with
      | true => rfl
      | false => rw [hcw] at hr; simp at hr
    unfold canW at hc
    simp only [Bool.and_eq_true, decide_eq_true_eq, Bool.or_eq_true, Int.toNat_natCast] at hc
    obtain ⟨_, hwt, hfit⟩ := hc
    have hfit : 0 < fitN b.length b.length q.length := by rcases hfit with h | h <;> omega
    have hf2 : fitN b.length m.toNat q.length ≠ 0 := fit_some hfit (by omega)
    have hre : refE b.length m rd wt = 0 := by
      unfold refE
      rw [if_neg (by omega), inN_of h1 h2, if_neg (by decide), if_neg (by omega), if_neg hrd]
    unfold Kp_wrE
    rw [if_pos hre, if_neg (by omega), if_neg hf2]
theorem refused_write (K : KS) (ok : planOk K.plan) (d : Int) (b : List UInt8) (h : (K.write d b).2.1 ≠ 0) : Refused K (K.write d b).2.1 (K.write d b).2.2 := by
  cases hx : K.find d with
  | none =>
    have e : K.write d b = (0, 64, K) := by unfold KS.write; rw [hx]
    rw [e]; exact Refused.same (by simp) (by simp)
  | some x =>
    by_cases hf : fbit x.flags 2 = 0
    · have e : K.write d b = (0, 65, K) := by unfold KS.write; rw [hx]; simp only; rw [if_pos hf]
      rw [e]; exact Refused.same (by simp) (by simp)
    by_cases hn : 1048576 < b.length
    · have e : K.write d b = (0, 5, K) := by unfold KS.write; rw [hx]; simp only; rw [if_neg hf, if_pos hn]
      rw [e]; exact Refused.same (by simp) (by simp)
    by_cases h0 : b.length = 0
    · have e : K.write d b = (0, 0, K) := by unfold KS.write; rw [hx]; simp only; rw [if_neg hf, if_neg hn, if_pos h0]
      rw [e] at h; exact absurd rfl h
    by_cases hr : refusal (K.tho x) x.flags x.pos b.length = 0
    · have n1 : (1 : Int) ≤ (b.length : Int) := by omega
      have n2 : (b.length : Int) ≤ 1048576 := by omega
      rw [write_is hx hf (by omega) (by omega) hr] at h ⊢
      by_cases e0 : (nxt K.plan b.length).2 = 0
      · rw [if_pos e0] at h
        have hg := nxt_good ok n1 n2 e0
        exact absurd (wrx_zero (K := K.writeUp) hg.1 (by omega) (by omega) (by omega) hr) h
      · rw [if_neg e0]
        refine ⟨rfl, .inr ⟨?_, rfl, nxt_some n1 n2 e0⟩⟩
        rcases nxt_err (l := K.plan) n1 n2 with e | e | e
        · exact absurd e e0
        · exact .inl e
        · exact .inr e
    · have e : K.write d b = (0, refusal (K.tho x) x.flags x.pos b.length, K) := by unfold KS.write; rw [hx]; simp only; rw [if_neg hf, if_neg hn, if_neg h0, if_neg hr]
      rw [e]
      rcases refusal_vals (K.tho x) x.flags x.pos b.length with e | e | e | e <;> exact Refused.same (by show refusal _ _ _ _ ≠ 22; omega) (by show refusal _ _ _ _ ≠ 23; omega)
theorem refused_seek (K : KS) (d o wh : Int) (h : (K.seek d o wh).2.1 ≠ 0) : Refused K (K.seek d o wh).2.1 (K.seek d o wh).2.2 := by
  revert h
  unfold KS.seek
  repeat' split
  all_goals first
    | exact fun _ => Refused.same (by simp) (by simp)
    | exact fun h => absurd rfl h
end Go.Proofs.YtjnifkngcbaldaaGreat

/- Handles: their calls, those of no kernel, and two kernels side by side. -/
namespace Go.Proofs.YtjnifkngcbaldaaGreat
open Go.RowKit Go.Maps

theorem described_nil (d : Int) (w : World) : Calls Tryz.prog 67 #[.pointer none, .int .i64 d] w fun e w' => e = .returned (.tuple #[.pointer none, .int .i64 2]) ∧ w = w' := by
  go_enter Tryz.func67, Tryz.ntmps67
  go_wp2_with fail
  refine (kmade_nil w).mono ?_
  rintro e w1 ⟨rfl, rfl⟩
  go_wp2
  go_ret2
  exact ⟨rfl, rfl⟩
set_option maxRecDepth 100000 in
set_option maxHeartbeats 1000000 in
theorem kread_nil (d n : Int) (w : World) : Calls Tryz.prog 19 #[.pointer none, .int .i64 d, .int .i64 n] w fun e w' => e = .returned (.tuple #[.slice none 0 0, .int .i64 2]) ∧ w = w' := by
  go_enter Tryz.func19, Tryz.ntmps19
  go_wp2_with fail
  refine (described_nil d w).mono ?_
  rintro e w1 ⟨rfl, rfl⟩
  go_wp2
  go_ret2
  exact ⟨rfl, rfl⟩
set_option maxRecDepth 100000 in
set_option maxHeartbeats 1000000 in
theorem kwrite_nil (d : Int) (a : Option Addr) (n c : Nat) (w : World) : Calls Tryz.prog 16 #[.pointer none, .int .i64 d, .slice a n c] w fun e w' => e = .returned (.tuple #[.int .i64 0, .int .i64 2]) ∧ w = w' := by
  go_enter Tryz.func16, Tryz.ntmps16
  go_wp2_with fail
  refine (described_nil d w).mono ?_
  rintro e w1 ⟨rfl, rfl⟩
  go_wp2
  go_ret2
  exact ⟨rfl, rfl⟩
set_option maxRecDepth 100000 in
set_option maxHeartbeats 1000000 in
theorem kseek_nil (d o h : Int) (w : World) : Calls Tryz.prog 20 #[.pointer none, .int .i64 d, .int .i64 o, .int .i64 h] w fun e w' => e = .returned (.tuple #[.int .i64 0, .int .i64 2]) ∧ w = w' := by
  go_enter Tryz.func20, Tryz.ntmps20
  go_wp2_with fail
  refine (described_nil d w).mono ?_
  rintro e w1 ⟨rfl, rfl⟩
  go_wp2
  go_ret2
  exact ⟨rfl, rfl⟩
/-- A step behind blocks that are new. -/
theorem KStep.behind {w w1 w' : World} {O : Nat → Prop} {kb : Nat} {K : KS} (h : KStep w1 O kb K w') (hB : Below w.heap.size w w1) : KStep w O kb K w' := by
  obtain ⟨O', h1, h2, h3⟩ := h
  exact ⟨O', h1, fun k e => (h2 k e).imp id (fun e => Nat.le_trans hB.size e), (Turned.of_below hB).trans h3 (fun _ _ e => e)⟩
theorem KAt.rstep {w w' : World} {O : Nat → Prop} {kb : Nat} {K' : KS} (h : KAt w' O kb K') (hT : Turned O w w') : KStep w O kb K' w' := ⟨O, h, fun _ e => .inl e, hT⟩
/-- Two kernels that share nothing, from a base on. -/
def Two (W : World) (B kb mb : Nat) (K M : KS) : Prop := ∃ O P, KAt W O kb K ∧ KAt W P mb M ∧ (∀ j, O j → B ≤ j ∧ j < W.heap.size ∧ ¬ P j) ∧ ∀ j, P j → B ≤ j ∧ j < W.heap.size
theorem Two.swap {W : World} {B kb mb : Nat} {K M : KS} (h : Two W B kb mb K M) : Two W B mb kb M K := by
  obtain ⟨O, P, h1, h2, h3, h4⟩ := h
  exact ⟨P, O, h2, h1, fun j e => ⟨(h4 j e).1, (h4 j e).2, fun e' => (h3 j e').2.2 e⟩, fun j e => ⟨(h3 j e).1, (h3 j e).2.1⟩⟩
theorem Two.below {W W' : World} {B kb mb : Nat} {K M : KS} (h : Two W B kb mb K M) (hB : Below W.heap.size W W') : Two W' B kb mb K M := by
  obtain ⟨O, P, h1, h2, h3, h4⟩ := h
  exact ⟨O, P, h1.below hB, h2.below hB, fun j e => ⟨(h3 j e).1, Nat.lt_of_lt_of_le (h3 j e).2.1 hB.size, (h3 j e).2.2⟩, fun j e => ⟨(h4 j e).1, Nat.lt_of_lt_of_le (h4 j e).2 hB.size⟩⟩
/-- Both, and what a step of the one, and then of the other, leaves. -/
theorem Two.both {wr : World} {B kb mb : Nat} {K M : KS} (h : Two wr B kb mb K M) (hB : B ≤ wr.heap.size) :
    ∃ O P, KAt wr O kb K ∧ KAt wr P mb M ∧ (∀ j, O j → B ≤ j ∧ j < wr.heap.size) ∧ (∀ j, P j → B ≤ j ∧ j < wr.heap.size) ∧
      ∀ wb, Below wr.heap.size wr wb → ∀ K' w6, KStep wb O kb K' w6 → KAt w6 P mb M ∧ ∀ M' w7, KStep w6 P mb M' w7 → Two w7 B kb mb K' M' ∧ Below B wr w7 := by
  obtain ⟨O, P, h1, h2, h3, h4⟩ := h
  refine ⟨O, P, h1, h2, fun j e => ⟨(h3 j e).1, (h3 j e).2.1⟩, h4, fun wb hb K' w6 hS => ?_⟩
  obtain ⟨O', g1, g2, g3⟩ := hS
  have hsb := hb.size
  have hm : KAt w6 P mb M := (h2.below hb).keep (fun j e hl => g3.block j hl (fun e' => (h3 j e').2.2 e)) g3.size
  refine ⟨hm, fun M' w7 hS7 => ?_⟩
  obtain ⟨P', f1, f2, f3⟩ := hS7
  have hz6 := g3.size
  have hz7 := f3.size
  have g1' := g1.trim
  refine ⟨⟨fun k => O' k ∧ k < w6.heap.size, fun k => P' k ∧ k < w7.heap.size, g1'.keep (fun j e hl => f3.block j hl (fun e' => ?_)) hz7, f1.trim, fun j e => ⟨?_, Nat.lt_of_lt_of_le e.2 hz7, fun e' => ?_⟩, fun j e => ⟨?_, e.2⟩⟩, (hb.mono hB).trans ((g3.below (fun j e => (h3 j e).1) (Nat.le_trans hB hsb)).trans (f3.below (fun j e => (h4 j e).1) (Nat.le_trans hB (Nat.le_trans hsb hz6))))⟩
  · rcases g2 j e.1 with e1 | e1
    · exact (h3 j e1).2.2 e'
    · have := (h4 j e').2; omega
  · rcases g2 j e.1 with e1 | e1
    · exact (h3 j e1).1
    · omega
  · rcases f2 j e'.1 with e2 | e2
    · rcases g2 j e.1 with e1 | e1
      · exact (h3 j e1).2.2 e2
      · have := (h4 j e2).2; omega
    · have := e.2; omega
  · rcases f2 j e.1 with e2 | e2
    · exact (h4 j e2).1
    · omega
theorem six_cells (w : World) (a b c d e f : Value) (t : TypeId) : (w.alloc (Obj.cells #[a, b, c, d, e, f] t)).cell? ⟨w.heap.size, 1, none⟩ = some b ∧ (w.alloc (Obj.cells #[a, b, c, d, e, f] t)).cell? ⟨w.heap.size, 2, none⟩ = some c ∧ (w.alloc (Obj.cells #[a, b, c, d, e, f] t)).cell? ⟨w.heap.size, 3, none⟩ = some d ∧ (w.alloc (Obj.cells #[a, b, c, d, e, f] t)).cell? ⟨w.heap.size, 4, none⟩ = some e ∧ (w.alloc (Obj.cells #[a, b, c, d, e, f] t)).cell? ⟨w.heap.size, 5, none⟩ = some f := by
  refine ⟨?_, ?_, ?_, ?_, ?_⟩ <;> (simp only [World.cell?, heap_alloc_new]; rfl)
theorem cell_keep {O : Nat → Prop} {w w' : World} {g j : Nat} {v : Value} (hT : Turned O w w') (h : w.cell? ⟨g, j, none⟩ = some v) (hO : ¬ O g) : w'.cell? ⟨g, j, none⟩ = some v :=
  (World.cell?_of_block (w := w) (a := ⟨g, j, none⟩) (hT.block g (World.block_lt_of_cell? w _ h) hO)).trans h
theorem KStep.turned {w w' : World} {O : Nat → Prop} {kb : Nat} {K : KS} (h : KStep w O kb K w') : Turned O w w' := by
  obtain ⟨_, _, _, h3⟩ := h
  exact h3
theorem KAt.files_ok {w : World} {O : Nat → Prop} {kb : Nat} {K : KS} (h : KAt w O kb K) : K.files.length ≤ 256 ∧ ∀ j (hj : j < K.files.length), K.files[j].2.length ≤ 1048576 ∧ K.files[j].1.size ≤ maxLen := by
  obtain ⟨ρ, I, h1, _, _⟩ := h
  refine ⟨?_, fun j hj => ?_⟩
  · have := h1.ok.named
    have h4 : K.files.length ≤ K.nm.length := by unfold KS.files KS.fidx; simpa using List.length_filter_le _ _
    omega
  · obtain ⟨i, L, hm, hi, ho, _, hf⟩ := file_at h1.ok (k := j) (by simpa [fnames, KS.files] using hj)
    rw [(List.getElem?_eq_some_iff.1 hf).2]
    have := h1.comp (.obj i) hi
    rw [← KS.obOf_eq hi, ho] at this
    exact ⟨this.1, by have := name_few (h1.nm.ok i hm); unfold maxLen; show (K.nameOf i).size ≤ _; omega⟩
theorem kle_seek (K : KS) (d o h : Int) : KLe K (K.seek d o h).2.2 := by
  unfold KS.seek
  repeat' split
  all_goals first
    | exact KLe.refl K
    | exact ⟨Nat.le_add_right K.next 2, Nat.le_add_right K.reads 1, Nat.le_add_right K.writes 1⟩
theorem bys_none {W W' : World} {v : Value} {l : List UInt8} (h : Bys W v l) (h0 : ¬ 0 < l.length) : Bys W' v l := by
  rcases h with h | h | ⟨_, _, _, _, h, _⟩
  · exact .inl h
  · exact .inr (.inl h)
  · exact absurd h h0
theorem read_few {w : World} {O : Nat → Prop} {kb : Nat} {K : KS} (h : KAt w O kb K) (d n : Int) : (K.read d n).1.length ≤ 1048576 := by
  obtain ⟨ρ, I, h1, _, _⟩ := h
  have ok : ∀ x, K.find d = some x → (K.tho x).ok := fun x hx => by
    have hi := h1.ok.th x (KS.find_some hx).1
    have := (h1.comp (.obj x.th) hi).ok
    rw [KS.tho_eq hi]
    exact this
  unfold KS.read
  split
  · simp
  · rename_i x hx
    have hk := ok x hx
    split
    · simp
    split
    · simp
    split
    · simp
    split
    · simp
    split
    · revert hk
      cases K.tho x with
      | file b => intro hk; simp only [piece_len]; have : b.length ≤ 1048576 := hk; omega
      | term ls scr =>
        intro hk
        simp only [rdH]
        split
        · cases ls with
          | nil => simp [headL]
          | cons l r =>
            have := hk.2.1 0 (by simp)
            simp only [List.getElem_cons_zero] at this
            simp only [headL, List.length_take]
            omega
        · simp
      | pipe q rd wt => intro hk; have : q.length ≤ 4096 := hk.1; simp only [rdB]; split <;> simp <;> omega
    · simp
end Go.Proofs.YtjnifkngcbaldaaGreat

/- KernRefuses, walked. -/
namespace Go.Proofs.YtjnifkngcbaldaaGreat
open Go.RowKit Go.Maps

theorem head_cell (w : World) (a b c d e f : Value) (t : TypeId) : (w.alloc (Obj.cells #[a, b, c, d, e, f] t)).cell? ⟨w.heap.size, 0, none⟩ = some a := by
  simp only [World.cell?, heap_alloc_new]; rfl
/-- A step's cells, wherever blocks below a size stay. -/
def StepAt (W : World) (g : Nat) (x : KSt) (va : Option Addr) (vc : Nat) : Prop :=
  W.cell? ⟨g, 0, none⟩ = some (.int .i64 x.what) ∧ W.cell? ⟨g, 1, none⟩ = some (.string x.name) ∧ W.cell? ⟨g, 2, none⟩ = some (.int .i64 x.a) ∧ W.cell? ⟨g, 3, none⟩ = some (.int .i64 x.b) ∧ W.cell? ⟨g, 4, none⟩ = some (.int .i64 x.c) ∧ W.cell? ⟨g, 5, none⟩ = some (.slice va x.data.length vc)
theorem StepAt.below {W W' : World} {g : Nat} {x : KSt} {va : Option Addr} {vc : Nat} (h : StepAt W g x va vc) (hB : Below W.heap.size W W') : StepAt W' g x va vc := by
  obtain ⟨h0, h1, h2, h3, h4, h5⟩ := h
  have hg := World.block_lt_of_cell? W _ h0
  exact ⟨(hB.cell (p := ⟨g, 0, none⟩) hg).trans h0, (hB.cell (p := ⟨g, 1, none⟩) hg).trans h1, (hB.cell (p := ⟨g, 2, none⟩) hg).trans h2, (hB.cell (p := ⟨g, 3, none⟩) hg).trans h3, (hB.cell (p := ⟨g, 4, none⟩) hg).trans h4, (hB.cell (p := ⟨g, 5, none⟩) hg).trans h5⟩
set_option maxRecDepth 100000 in
set_option maxHeartbeats 8000000 in
theorem kernRefuses_any (a1 a2 a3 a4 va : Option Addr) (c1 c2 c3 c4 vc : Nat) (fs : List Nm) (ts : List Tp) (g : List Fault) (l : List KSt) (x : KSt) (w : World) (h1 : Nms w (.slice a1 fs.length c1) fs) (h2 : Tps w (.slice a2 ts.length c2) ts) (h3 : Flts w (.slice a3 g.length c3) g) (h4 : KSts w (.slice a4 l.length c4) l)
    (h5 : Bys w (.slice va x.data.length vc) x.data ∧ x.data.length ≤ vc ∧ x.name.size ≤ maxLen ∧ I64 x.a ∧ I64 x.b ∧ I64 x.c)
    (z1 : fs.length * 40 ≤ 140737488351232 ∧ ∀ j (hj : j < fs.length), fs[j].2.length ≤ 140737488351232) (z2 : ts.length * 40 ≤ 140737488351232 ∧ ∀ j (hj : j < ts.length), ts[j].2.length * 24 ≤ 140737488351232 ∧ ∀ i (hi : i < ts[j].2.length), ts[j].2[i].length ≤ 140737488351232) (z3 : g.length * 16 ≤ 140737488351232) (z4 : l.length * 72 ≤ 140737488351232 ∧ ∀ i (hi : i < l.length), l[i].data.length ≤ 140737488351232) (z5 : x.data.length ≤ 140737488351232) :
    Calls Tryz.prog 4 #[.agg #[.slice a1 fs.length c1, .slice a2 ts.length c2, .slice a3 g.length c3], .slice a4 l.length c4, .agg #[.int .i64 x.what, .string x.name, .int .i64 x.a, .int .i64 x.b, .int .i64 x.c, .slice va x.data.length vc]] w fun e w' => e = .returned (.bool true) ∧ Below w.heap.size w w' := by
  have H4 := hide h4
  have H5 := hide h5
  have Z4 := hide z4
  have Z5 := hide z5
  have HCf := hide fun w1 (hB1 : Below w.heap.size w w1) => config_any a1 a2 a3 c1 c2 c3 fs ts g w1 (h1.below hB1) (h2.below hB1) (h3.below hB1) z1 z2 z3
  have HZ := hide (And.intro z1.1 (And.intro z2.1 z3))
  have HQ := hide (trio_cells w (.slice a1 fs.length c1) (.slice a2 ts.length c2) (.slice a3 g.length c3) 26)
  have hs1 : (w.alloc (Obj.cells #[Value.slice a1 fs.length c1, Value.slice a2 ts.length c2, Value.slice a3 g.length c3] 26)).heap.size = w.heap.size + 1 := by simp
  have hX0 := head_cell (w.alloc (Obj.cells #[Value.slice a1 fs.length c1, Value.slice a2 ts.length c2, Value.slice a3 g.length c3] 26)) (.int .i64 x.what) (.string x.name) (.int .i64 x.a) (.int .i64 x.b) (.int .i64 x.c) (.slice va x.data.length vc) 42
  have hX := six_cells (w.alloc (Obj.cells #[Value.slice a1 fs.length c1, Value.slice a2 ts.length c2, Value.slice a3 g.length c3] 26)) (.int .i64 x.what) (.string x.name) (.int .i64 x.a) (.int .i64 x.b) (.int .i64 x.c) (.slice va x.data.length vc) 42
  rw [hs1] at hX hX0
  have HX : Hid (StepAt ((w.alloc (Obj.cells #[Value.slice a1 fs.length c1, Value.slice a2 ts.length c2, Value.slice a3 g.length c3] 26)).alloc (Obj.cells #[.int .i64 x.what, .string x.name, .int .i64 x.a, .int .i64 x.b, .int .i64 x.c, .slice va x.data.length vc] 42)) (w.heap.size + 1) x va vc) := hide ⟨hX0, hX⟩
  have hBS := recv_below w (Obj.cells #[Value.slice a1 fs.length c1, Value.slice a2 ts.length c2, Value.slice a3 g.length c3] 26)
  have hBX := recv_below (w.alloc (Obj.cells #[Value.slice a1 fs.length c1, Value.slice a2 ts.length c2, Value.slice a3 g.length c3] 26)) (Obj.cells #[.int .i64 x.what, .string x.name, .int .i64 x.a, .int .i64 x.b, .int .i64 x.c, .slice va x.data.length vc] 42)
  have HBx : Hid (Below w.heap.size w ((w.alloc (Obj.cells #[Value.slice a1 fs.length c1, Value.slice a2 ts.length c2, Value.slice a3 g.length c3] 26)).alloc (Obj.cells #[.int .i64 x.what, .string x.name, .int .i64 x.a, .int .i64 x.b, .int .i64 x.c, .slice va x.data.length vc] 42))) := hide (hBS.trans (hBX.mono hBS.size))
  have hltS := World.block_lt_of_cell? _ _ HQ.out.1
  have HQ1 : Hid (((w.alloc (Obj.cells #[Value.slice a1 fs.length c1, Value.slice a2 ts.length c2, Value.slice a3 g.length c3] 26)).alloc (Obj.cells #[.int .i64 x.what, .string x.name, .int .i64 x.a, .int .i64 x.b, .int .i64 x.c, .slice va x.data.length vc] 42)).cell? ⟨w.heap.size, 0, none⟩ = some (.slice a1 fs.length c1) ∧ ((w.alloc (Obj.cells #[Value.slice a1 fs.length c1, Value.slice a2 ts.length c2, Value.slice a3 g.length c3] 26)).alloc (Obj.cells #[.int .i64 x.what, .string x.name, .int .i64 x.a, .int .i64 x.b, .int .i64 x.c, .slice va x.data.length vc] 42)).cell? ⟨w.heap.size, 1, none⟩ = some (.slice a2 ts.length c2) ∧ ((w.alloc (Obj.cells #[Value.slice a1 fs.length c1, Value.slice a2 ts.length c2, Value.slice a3 g.length c3] 26)).alloc (Obj.cells #[.int .i64 x.what, .string x.name, .int .i64 x.a, .int .i64 x.b, .int .i64 x.c, .slice va x.data.length vc] 42)).cell? ⟨w.heap.size, 2, none⟩ = some (.slice a3 g.length c3)) := hide ⟨(hBX.cell (p := ⟨w.heap.size, 0, none⟩) hltS).trans HQ.out.1, (hBX.cell (p := ⟨w.heap.size, 1, none⟩) hltS).trans HQ.out.2.1, (hBX.cell (p := ⟨w.heap.size, 2, none⟩) hltS).trans HQ.out.2.2⟩
  clear h1 h2 h3 h4 h5 z1 z2 z3 z4 z5 hX hX0 hBS hBX hltS HQ
  go_enter Tryz.func4, Tryz.ntmps4
  go_wp2_with fail
  clear hs1
  generalize (w.alloc (Obj.cells #[Value.slice a1 fs.length c1, Value.slice a2 ts.length c2, Value.slice a3 g.length c3] 26)).alloc (Obj.cells #[.int .i64 x.what, .string x.name, .int .i64 x.a, .int .i64 x.b, .int .i64 x.c, .slice va x.data.length vc] 42) = wx at *
  refine (alive_any wx).mono ?_
  rintro e w1 ⟨rfl, hB1⟩
  have hlt := World.block_lt_of_cell? _ _ HQ1.out.1
  have HB1 := hide hB1
  have q0 := (hB1.cell (p := ⟨w.heap.size, 0, none⟩) hlt).trans HQ1.out.1
  have q1 := (hB1.cell (p := ⟨w.heap.size, 1, none⟩) hlt).trans HQ1.out.2.1
  have q2 := (hB1.cell (p := ⟨w.heap.size, 2, none⟩) hlt).trans HQ1.out.2.2
  clear hB1 hlt HQ1
  go_wp2_with fail
  refine (HCf.out w1 (HBx.out.trans (HB1.out.mono HBx.out.size))).mono ?_
  rintro e w2 ⟨b1, d1, b2, d2, b3, d3, rfl, hN, hT, hF, hB2⟩
  have HB2 := hide (HB1.out.trans (hB2.mono HB1.out.size))
  clear q0 q1 q2
  by_cases hE : checkE fs ts g = 0
  case neg =>
    have HN := hide (knew_bad b1 b2 b3 d1 d2 d3 fs ts g w2 hN hT hF HZ.out.2.2 (by have := HZ.out.1; omega) (by have := HZ.out.2.1; omega) hE)
    clear hN hT hF hB2 HB1 HCf
    generalize checkE fs ts g = E at *
    go_wp2_with fail
    refine HN.out.mono ?_
    rintro e w3 ⟨rfl, hB3⟩
    have HB3 := hide (HBx.out.trans ((HB2.out.trans (hB3.mono HB2.out.size)).mono HBx.out.size))
    clear hB3 HB2 HN
    go_wp2_with (first | (go_at_call 9; refine (num_kp _ _).mono ?_; rintro _ _ ⟨rfl, rfl⟩) | fail)
    go_ret
    exact ⟨rfl, HB3.out⟩
  have HN := hide (knew_good b1 b2 b3 d1 d2 d3 fs ts g w2 hN hT hF HZ.out.2.2 (by have := HZ.out.1; omega) (by have := HZ.out.2.1; omega) hE)
  clear hN hT hF hB2 HB1 HCf
  go_wp2_with fail
  refine HN.out.mono ?_
  rintro e w3 ⟨kb, rfl, hK, hB3⟩
  have HB3 := hide (HB2.out.trans (hB3.mono HB2.out.size))
  have HK3 := hide ((hK.mono (fun k e => Nat.le_trans HB2.out.size e)).trim)
  have HNn := hide (new_nums fs ts g)
  clear hB3 HB2 HN hK
  generalize hK0 : KS.new fs ts g = K0 at *
  clear hK0 hE
  go_wp2_with (first | (go_at_call 9; refine (num_kp _ _).mono ?_; rintro _ _ ⟨rfl, rfl⟩) | fail)
  go_loopw [9] (fun i wr => ∃ (k : Nat) (K : KS), k ≤ l.length ∧ i = .int .i64 k ∧ Hid (KAt wr (fun j => wx.heap.size ≤ j ∧ j < wr.heap.size) kb K) ∧ Hid (K.next ≤ 1 + 2 * k ∧ K.reads ≤ k ∧ K.writes ≤ k) ∧ Hid (Below wx.heap.size wx wr)) (fun i _ => l.length - (intOf i).toNat)
  case atStart => exact ⟨0, K0, Nat.zero_le _, rfl, HK3, hide (by have := HNn.out; omega), HB3⟩
  case round =>
    obtain ⟨k, K, hk, rfl, HK, HNum, HB⟩ := hrel
    clear HK3 HB3 HNn
    have HBw := hide (HBx.out.trans (HB.out.mono HBx.out.size))
    by_cases hlt : k < l.length
    · obtain ⟨b, off, ya, yc, rfl, hb, q0, q1, q2, q3, q4, q5, hby, hcap, hsz, i1, i2, i3⟩ := ksts_at H4.out HBw.out k hlt
      have hdata := Z4.out.2 k hlt
      have hl9 := Z4.out.1
      have hk1 : (0 : Int) ≤ (k : Int) := by omega
      have hk2 : (k : Int) < (l.length : Int) := by omega
      have hnum := HNum.out
      have HHk := hide (And.intro hnum hl9)
      generalize l[k] = y at *
      obtain ⟨what, name, xa, xb, xc, data⟩ := y
      simp only at *
      have hBb := recv_below wr (Obj.cells #[.int .i64 what, .string name, .int .i64 xa, .int .i64 xb, .int .i64 xc, .slice ya data.length yc] 42)
      have HKb := hide (HK.out.below hBb)
      have HBb := hide (HB.out.trans (hBb.mono HB.out.size))
      have HOp := hide (HKb.out.open name xa hsz (by omega))
      have HPi := hide (HKb.out.pipe (by omega))
      have hwx := HBx.out.size
      have HWr := hide (HKb.out.write xa data ya yc i1 (by omega) ((hby.below HBw.out).below hBb) hcap (by omega) (fun h0 j hj e => by
        obtain ⟨_, yb, yo, e2, e3, _⟩ := bys_block hby h0
        rw [e2] at hj
        cases hj
        have e' : wx.heap.size ≤ yb := e.1
        omega))
      clear hby hcap hsz i1 i2 i3 hdata hb hnum hBb hwx
      by_cases e0 : what = 0
      · subst e0
        clear HPi HWr
        go_wp2_with fail
        refine HOp.out.mono ?_
        rintro _ w6 ⟨rfl, hS⟩
        obtain ⟨hK6, hB6⟩ := hS.at (B := wx.heap.size) (fun _ e => e.1) HBb.out.size
        have HK6 := hide hK6
        have HB6 := hide (HBb.out.trans hB6)
        clear hS hK6 hB6
        go_wp2_with fail
        go_roundw
        case rel => exact ⟨k + 1, _, by omega, by go_num, HK6, hide (by have := kle_open K name xa; unfold KLe at this; have := HHk.out; omega), HB6⟩
        case measure => simp [intOf]; omega
      by_cases e1 : what = 1
      · subst e1
        clear HOp HWr
        go_wp2_with fail
        refine HPi.out.mono ?_
        rintro _ w6 ⟨rfl, hS⟩
        obtain ⟨hK6, hB6⟩ := hS.at (B := wx.heap.size) (fun _ e => e.1) HBb.out.size
        have HK6 := hide hK6
        have HB6 := hide (HBb.out.trans hB6)
        clear hS hK6 hB6
        go_wp2_with fail
        go_roundw
        case rel => exact ⟨k + 1, _, by omega, by go_num, HK6, hide (by have := kle_pipe K; unfold KLe at this; have := HHk.out; omega), HB6⟩
        case measure => simp [intOf]; omega
      by_cases e3 : what = 3
      · subst e3
        clear HOp HPi
        go_wp2_with fail
        refine HWr.out.mono ?_
        rintro _ w6 ⟨rfl, hS⟩
        obtain ⟨hK6, hB6⟩ := hS.at (B := wx.heap.size) (fun _ e => e.1) HBb.out.size
        have HK6 := hide hK6
        have HB6 := hide (HBb.out.trans hB6)
        clear hS hK6 hB6
        go_wp2_with fail
        go_roundw
        case rel => exact ⟨k + 1, _, by omega, by go_num, HK6, hide (by have := kle_write K xa data; unfold KLe at this; have := HHk.out; omega), HB6⟩
        case measure => simp [intOf]; omega
      clear HOp HPi HWr
      go_wp2_with fail
      go_roundw
      case rel => exact ⟨k + 1, K, by omega, by go_num, hide (HKb.out.mono (fun j e => ⟨e.1, Nat.lt_of_lt_of_le e.2 (by simp)⟩)), hide (by have := HHk.out; omega), HBb⟩
      case measure => simp [intOf]; omega
    · have HRf := hide (HK.out.files)
      have HFo := hide HK.out.files_ok
      have hpl := HK.out.ok.1.plan
      have HPl := hide hpl
      clear hpl
      go_wp2_with fail
      refine HRf.out.mono ?_
      rintro e w4 ⟨v4, us4, rfl, hO4, hL4, hB4⟩
      obtain ⟨fa, fc, rfl⟩ := owns_slice hO4
      have HK4 := hide (HK.out.below hB4)
      have HB4 := hide (HB.out.trans (hB4.mono HB.out.size))
      have HR4 := hide HK4.out.rest
      have hs44 := hB4.size
      clear hB4
      have HO4 := hide hO4
      have HL4 := hide hL4
      clear hO4 hL4
      go_wp2_with fail
      refine HR4.out.mono ?_
      rintro e w5 ⟨v5, rfl, hO5, hB5⟩
      obtain ⟨ra, rc, rfl⟩ := owns_slice hO5
      have HK5 := hide (HK4.out.below hB5)
      have HB5 := hide (HB4.out.trans (hB5.mono HB4.out.size))
      have HO45 := hide (owns_below HO4.out hB5)
      have HL45 := hide (HL4.out.below hB5)
      have HO5 := hide hO5
      have hz45 := HO4.out.1
      have hs45 := hB5.size
      have HX5 := hide (HX.out.below HB5.out)
      clear hB5 hO5 HO4 HL4 HR4 HRf HK4 hz45
      -- TAIL2
      obtain ⟨xw, xn, xa, xb, xc, xd⟩ := x
      simp only at *
      obtain ⟨x0, x1, x2, x3, x4, x5⟩ := HX5.out
      simp only at x0 x1 x2 x3 x4 x5
      have hnum := HNum.out
      have hl9 := Z4.out.1
      have hHb := HBx.out.size
      clear HX HX5
      by_cases e0 : xw = 0
      · subst e0
        have H6 := hide (HK5.out.open xn xa H5.out.2.2.1 (by omega))
        go_wp2_with fail
        refine H6.out.mono ?_
        rintro e w6 ⟨rfl, hS⟩
        clear x0 x1 x2 x3 x4 x5
        have hT6 := hS.turned
        obtain ⟨O', hK6, hO6, -⟩ := hS
        have HB6 := hide (HB5.out.trans (hT6.below (fun _ e => e.1) HB5.out.size))
        have HO6 := hide (owns_turned HO45.out hT6 (fun j hj e => by have := (HO45.out.lt j hj).1; have := e.2; omega))
        have HL6 := hide (HL45.out.turned hT6 (fun j hj e => by have := e.2; omega))
        have HR6 := hide (owns_turned HO5.out hT6 (fun j hj e => by have := (HO5.out.lt j hj).1; have := e.2; omega))
        have HRef := hide (fun h => refused_open K xn xa h)
        have HK6 := hide hK6
        clear hT6 hO6 hK6 H6
        generalize K.open xn xa = R at *
        obtain ⟨r1, E, K'⟩ := R
        simp only at *
        by_cases hE0 : E = 0
        · subst hE0
          clear HRef
          go_wp2_with (first | (go_at_call 9; refine (num_kp _ _).mono ?_; rintro _ _ ⟨rfl, rfl⟩) | fail)
          go_ret
          exact ⟨rfl, HBx.out.trans (HB6.out.mono HBx.out.size)⟩
        obtain ⟨hfiles, hor⟩ := HRef.out hE0
        have HFl := hide hfiles
        have HRest := hide HK6.out.rest
        have hE0b : (E == 0) = false := by simpa using hE0
        clear HRef hfiles
        go_wp2_with (first | (go_at_call 9; refine (num_kp _ _).mono ?_; rintro _ _ ⟨rfl, rfl⟩) | fail)
        refine HRest.out.mono ?_
        rintro e w7 ⟨v7, rfl, hO7, hB7⟩
        obtain ⟨la, lc, rfl⟩ := owns_slice hO7
        have HK7 := hide (HK6.out.below hB7)
        have HB7 := hide (HB6.out.trans (hB7.mono HB6.out.size))
        have HO7 := hide hO7
        have HW7 := hide (nms_of_owns (owns_below HO6.out hB7) (HL6.out.below hB7) (fun j hj => (HFo.out.2 j hj).2))
        have HR7 := hide (Flts.of_owns (owns_below HR6.out hB7))
        clear hO7 hB7 HRest
        rcases hor with ⟨n22, n23, hpl⟩ | ⟨h22, hpl, hne⟩
        · rw [hpl] at HO7 ⊢
          have n22b : (E == 22) = false := by simpa using n22
          have n23b : (E == 23) = false := by simpa using n23
          have HSf := hide (samef_any _ _ K.plan w7 (Flts.of_owns HO7.out) HR7.out (by have := HPl.out.1; unfold maxLen; omega))
          clear hpl
          go_wp2_with (first | (go_at_call 9; refine (num_kp _ _).mono ?_; rintro _ _ ⟨rfl, rfl⟩) | fail)
          refine HSf.out.mono ?_
          rintro e w8 ⟨rfl, hB8⟩
          have HB8 := hide (HB7.out.trans (hB8.mono HB7.out.size))
          have HF8 := hide (HK7.out.below hB8).files
          rw [HFl.out] at HF8
          have HW8 := hide (HW7.out.below hB8)
          clear hB8 HSf
          go_wp2_with (first | (go_at_call 9; refine (num_kp _ _).mono ?_; rintro _ _ ⟨rfl, rfl⟩) | fail)
          refine HF8.out.mono ?_
          rintro e w9 ⟨v9, us9, rfl, hO9, hL9, hB9⟩
          have hN9 := nms_of_owns hO9 hL9 (fun j hj => (HFo.out.2 j hj).2)
          have HSm := hide (sameNamed_any _ _ K.files w9 hN9 (HW8.out.below hB9) (by have := HFo.out.1; unfold maxLen; omega) (fun j hj => by have := (HFo.out.2 j hj).1; unfold maxLen; omega))
          have HB9 := hide (HB8.out.trans (hB9.mono HB8.out.size))
          obtain ⟨va9, vc9, rfl⟩ := owns_slice hO9
          clear hO9 hL9 hB9 hN9
          go_wp2_with (first | (go_at_call 9; refine (num_kp _ _).mono ?_; rintro _ _ ⟨rfl, rfl⟩) | fail)
          refine HSm.out.mono ?_
          rintro e w10 ⟨rfl, hB10⟩
          have HB10 := hide (HBx.out.trans ((HB9.out.trans (hB10.mono HB9.out.size)).mono HBx.out.size))
          clear hB10
          go_wp2_with (first | (go_at_call 9; refine (num_kp _ _).mono ?_; rintro _ _ ⟨rfl, rfl⟩) | fail)
          go_ret
          exact ⟨rfl, HB10.out⟩
        · obtain ⟨f0, r0, hP⟩ : ∃ f0 r0, K.plan = f0 :: r0 := by
            cases hp : K.plan with
            | nil => exact absurd hp hne
            | cons f0 r0 => exact ⟨f0, r0, rfl⟩
          rw [hpl, hP] at HO7 ⊢
          simp only [List.tail_cons, List.length_cons] at HO7 ⊢
          have hrl : r0.length ≤ 4096 := by have := HPl.out.1; rw [hP] at this; simp at this; omega
          have HF8 := hide HK7.out.files
          rw [HFl.out] at HF8
          have HB8 := HB7
          have HW8 := HW7
          clear hpl hne
          rcases h22 with rfl | rfl
          all_goals
            go_wp2_with (first | (go_at_call 9; refine (num_kp _ _).mono ?_; rintro _ _ ⟨rfl, rfl⟩) | fail)
            refine HF8.out.mono ?_
            rintro e w9 ⟨v9, us9, rfl, hO9, hL9, hB9⟩
            have hN9 := nms_of_owns hO9 hL9 (fun j hj => (HFo.out.2 j hj).2)
            have HSm := hide (sameNamed_any _ _ K.files w9 hN9 (HW8.out.below hB9) (by have := HFo.out.1; unfold maxLen; omega) (fun j hj => by have := (HFo.out.2 j hj).1; unfold maxLen; omega))
            have HB9 := hide (HB8.out.trans (hB9.mono HB8.out.size))
            obtain ⟨va9, vc9, rfl⟩ := owns_slice hO9
            clear hO9 hL9 hB9 hN9
            go_wp2_with (first | (go_at_call 9; refine (num_kp _ _).mono ?_; rintro _ _ ⟨rfl, rfl⟩) | fail)
            refine HSm.out.mono ?_
            rintro e w10 ⟨rfl, hB10⟩
            have HB10 := hide (HBx.out.trans ((HB9.out.trans (hB10.mono HB9.out.size)).mono HBx.out.size))
            clear hB10
            go_wp2_with (first | (go_at_call 9; refine (num_kp _ _).mono ?_; rintro _ _ ⟨rfl, rfl⟩) | fail)
            go_ret
            exact ⟨rfl, HB10.out⟩
      by_cases e2 : xw = 2
      · subst e2
        have H6 := hide (HK5.out.read xa xb H5.out.2.2.2.1 (by omega))
        go_wp2_with fail
        refine H6.out.mono ?_
        rintro e w6 ⟨v6, rfl, hOv, hKv, hTv⟩
        have hS := hKv.rstep hTv
        obtain ⟨va6, vc6, rfl⟩ := owns_slice hOv
        clear x0 x1 x2 x3 x4 x5 hOv hKv hTv
        have hT6 := hS.turned
        obtain ⟨O', hK6, hO6, -⟩ := hS
        have HB6 := hide (HB5.out.trans (hT6.below (fun _ e => e.1) HB5.out.size))
        have HO6 := hide (owns_turned HO45.out hT6 (fun j hj e => by have := (HO45.out.lt j hj).1; have := e.2; omega))
        have HL6 := hide (HL45.out.turned hT6 (fun j hj e => by have := e.2; omega))
        have HR6 := hide (owns_turned HO5.out hT6 (fun j hj e => by have := (HO5.out.lt j hj).1; have := e.2; omega))
        have HRef := hide (fun h => refused_read K HPl.out xa xb h)
        have HK6 := hide hK6
        clear hT6 hO6 hK6 H6
        generalize K.read xa xb = R at *
        obtain ⟨r1, E, K'⟩ := R
        simp only at *
        by_cases hE0 : E = 0
        · subst hE0
          clear HRef
          go_wp2_with (first | (go_at_call 9; refine (num_kp _ _).mono ?_; rintro _ _ ⟨rfl, rfl⟩) | fail)
          go_ret
          exact ⟨rfl, HBx.out.trans (HB6.out.mono HBx.out.size)⟩
        obtain ⟨hfiles, hor⟩ := HRef.out hE0
        have HFl := hide hfiles
        have HRest := hide HK6.out.rest
        have hE0b : (E == 0) = false := by simpa using hE0
        clear HRef hfiles
        go_wp2_with (first | (go_at_call 9; refine (num_kp _ _).mono ?_; rintro _ _ ⟨rfl, rfl⟩) | fail)
        refine HRest.out.mono ?_
        rintro e w7 ⟨v7, rfl, hO7, hB7⟩
        obtain ⟨la, lc, rfl⟩ := owns_slice hO7
        have HK7 := hide (HK6.out.below hB7)
        have HB7 := hide (HB6.out.trans (hB7.mono HB6.out.size))
        have HO7 := hide hO7
        have HW7 := hide (nms_of_owns (owns_below HO6.out hB7) (HL6.out.below hB7) (fun j hj => (HFo.out.2 j hj).2))
        have HR7 := hide (Flts.of_owns (owns_below HR6.out hB7))
        clear hO7 hB7 HRest
        rcases hor with ⟨n22, n23, hpl⟩ | ⟨h22, hpl, hne⟩
        · rw [hpl] at HO7 ⊢
          have n22b : (E == 22) = false := by simpa using n22
          have n23b : (E == 23) = false := by simpa using n23
          have HSf := hide (samef_any _ _ K.plan w7 (Flts.of_owns HO7.out) HR7.out (by have := HPl.out.1; unfold maxLen; omega))
          clear hpl
          go_wp2_with (first | (go_at_call 9; refine (num_kp _ _).mono ?_; rintro _ _ ⟨rfl, rfl⟩) | fail)
          refine HSf.out.mono ?_
          rintro e w8 ⟨rfl, hB8⟩
          have HB8 := hide (HB7.out.trans (hB8.mono HB7.out.size))
          have HF8 := hide (HK7.out.below hB8).files
          rw [HFl.out] at HF8
          have HW8 := hide (HW7.out.below hB8)
          clear hB8 HSf
          go_wp2_with (first | (go_at_call 9; refine (num_kp _ _).mono ?_; rintro _ _ ⟨rfl, rfl⟩) | fail)
          refine HF8.out.mono ?_
          rintro e w9 ⟨v9, us9, rfl, hO9, hL9, hB9⟩
          have hN9 := nms_of_owns hO9 hL9 (fun j hj => (HFo.out.2 j hj).2)
          have HSm := hide (sameNamed_any _ _ K.files w9 hN9 (HW8.out.below hB9) (by have := HFo.out.1; unfold maxLen; omega) (fun j hj => by have := (HFo.out.2 j hj).1; unfold maxLen; omega))
          have HB9 := hide (HB8.out.trans (hB9.mono HB8.out.size))
          obtain ⟨va9, vc9, rfl⟩ := owns_slice hO9
          clear hO9 hL9 hB9 hN9
          go_wp2_with (first | (go_at_call 9; refine (num_kp _ _).mono ?_; rintro _ _ ⟨rfl, rfl⟩) | fail)
          refine HSm.out.mono ?_
          rintro e w10 ⟨rfl, hB10⟩
          have HB10 := hide (HBx.out.trans ((HB9.out.trans (hB10.mono HB9.out.size)).mono HBx.out.size))
          clear hB10
          go_wp2_with (first | (go_at_call 9; refine (num_kp _ _).mono ?_; rintro _ _ ⟨rfl, rfl⟩) | fail)
          go_ret
          exact ⟨rfl, HB10.out⟩
        · obtain ⟨f0, r0, hP⟩ : ∃ f0 r0, K.plan = f0 :: r0 := by
            cases hp : K.plan with
            | nil => exact absurd hp hne
            | cons f0 r0 => exact ⟨f0, r0, rfl⟩
          rw [hpl, hP] at HO7 ⊢
          simp only [List.tail_cons, List.length_cons] at HO7 ⊢
          have hrl : r0.length ≤ 4096 := by have := HPl.out.1; rw [hP] at this; simp at this; omega
          have HF8 := hide HK7.out.files
          rw [HFl.out] at HF8
          have HB8 := HB7
          have HW8 := HW7
          clear hpl hne
          rcases h22 with rfl | rfl
          all_goals
            go_wp2_with (first | (go_at_call 9; refine (num_kp _ _).mono ?_; rintro _ _ ⟨rfl, rfl⟩) | fail)
            refine HF8.out.mono ?_
            rintro e w9 ⟨v9, us9, rfl, hO9, hL9, hB9⟩
            have hN9 := nms_of_owns hO9 hL9 (fun j hj => (HFo.out.2 j hj).2)
            have HSm := hide (sameNamed_any _ _ K.files w9 hN9 (HW8.out.below hB9) (by have := HFo.out.1; unfold maxLen; omega) (fun j hj => by have := (HFo.out.2 j hj).1; unfold maxLen; omega))
            have HB9 := hide (HB8.out.trans (hB9.mono HB8.out.size))
            obtain ⟨va9, vc9, rfl⟩ := owns_slice hO9
            clear hO9 hL9 hB9 hN9
            go_wp2_with (first | (go_at_call 9; refine (num_kp _ _).mono ?_; rintro _ _ ⟨rfl, rfl⟩) | fail)
            refine HSm.out.mono ?_
            rintro e w10 ⟨rfl, hB10⟩
            have HB10 := hide (HBx.out.trans ((HB9.out.trans (hB10.mono HB9.out.size)).mono HBx.out.size))
            clear hB10
            go_wp2_with (first | (go_at_call 9; refine (num_kp _ _).mono ?_; rintro _ _ ⟨rfl, rfl⟩) | fail)
            go_ret
            exact ⟨rfl, HB10.out⟩
      by_cases e3 : xw = 3
      · subst e3
        have H6 := hide (HK5.out.write xa xd va vc H5.out.2.2.2.1 (by omega) (H5.out.1.below (HBx.out.trans (HB5.out.mono HBx.out.size))) H5.out.2.1 (by have := Z5.out; omega) (fun h0 j hj e => by
          obtain ⟨_, yb, yo, e2, e3, _⟩ := bys_block H5.out.1 h0
          rw [e2] at hj
          cases hj
          have e' : wx.heap.size ≤ yb := e.1
          omega))
        go_wp2_with fail
        refine H6.out.mono ?_
        rintro e w6 ⟨rfl, hS⟩
        clear x0 x1 x2 x3 x4 x5
        have hT6 := hS.turned
        obtain ⟨O', hK6, hO6, -⟩ := hS
        have HB6 := hide (HB5.out.trans (hT6.below (fun _ e => e.1) HB5.out.size))
        have HO6 := hide (owns_turned HO45.out hT6 (fun j hj e => by have := (HO45.out.lt j hj).1; have := e.2; omega))
        have HL6 := hide (HL45.out.turned hT6 (fun j hj e => by have := e.2; omega))
        have HR6 := hide (owns_turned HO5.out hT6 (fun j hj e => by have := (HO5.out.lt j hj).1; have := e.2; omega))
        have HRef := hide (fun h => refused_write K HPl.out xa xd h)
        have HK6 := hide hK6
        clear hT6 hO6 hK6 H6
        generalize K.write xa xd = R at *
        obtain ⟨r1, E, K'⟩ := R
        simp only at *
        by_cases hE0 : E = 0
        · subst hE0
          clear HRef
          go_wp2_with (first | (go_at_call 9; refine (num_kp _ _).mono ?_; rintro _ _ ⟨rfl, rfl⟩) | fail)
          go_ret
          exact ⟨rfl, HBx.out.trans (HB6.out.mono HBx.out.size)⟩
        obtain ⟨hfiles, hor⟩ := HRef.out hE0
        have HFl := hide hfiles
        have HRest := hide HK6.out.rest
        have hE0b : (E == 0) = false := by simpa using hE0
        clear HRef hfiles
        go_wp2_with (first | (go_at_call 9; refine (num_kp _ _).mono ?_; rintro _ _ ⟨rfl, rfl⟩) | fail)
        refine HRest.out.mono ?_
        rintro e w7 ⟨v7, rfl, hO7, hB7⟩
        obtain ⟨la, lc, rfl⟩ := owns_slice hO7
        have HK7 := hide (HK6.out.below hB7)
        have HB7 := hide (HB6.out.trans (hB7.mono HB6.out.size))
        have HO7 := hide hO7
        have HW7 := hide (nms_of_owns (owns_below HO6.out hB7) (HL6.out.below hB7) (fun j hj => (HFo.out.2 j hj).2))
        have HR7 := hide (Flts.of_owns (owns_below HR6.out hB7))
        clear hO7 hB7 HRest
        rcases hor with ⟨n22, n23, hpl⟩ | ⟨h22, hpl, hne⟩
        · rw [hpl] at HO7 ⊢
          have n22b : (E == 22) = false := by simpa using n22
          have n23b : (E == 23) = false := by simpa using n23
          have HSf := hide (samef_any _ _ K.plan w7 (Flts.of_owns HO7.out) HR7.out (by have := HPl.out.1; unfold maxLen; omega))
          clear hpl
          go_wp2_with (first | (go_at_call 9; refine (num_kp _ _).mono ?_; rintro _ _ ⟨rfl, rfl⟩) | fail)
          refine HSf.out.mono ?_
          rintro e w8 ⟨rfl, hB8⟩
          have HB8 := hide (HB7.out.trans (hB8.mono HB7.out.size))
          have HF8 := hide (HK7.out.below hB8).files
          rw [HFl.out] at HF8
          have HW8 := hide (HW7.out.below hB8)
          clear hB8 HSf
          go_wp2_with (first | (go_at_call 9; refine (num_kp _ _).mono ?_; rintro _ _ ⟨rfl, rfl⟩) | fail)
          refine HF8.out.mono ?_
          rintro e w9 ⟨v9, us9, rfl, hO9, hL9, hB9⟩
          have hN9 := nms_of_owns hO9 hL9 (fun j hj => (HFo.out.2 j hj).2)
          have HSm := hide (sameNamed_any _ _ K.files w9 hN9 (HW8.out.below hB9) (by have := HFo.out.1; unfold maxLen; omega) (fun j hj => by have := (HFo.out.2 j hj).1; unfold maxLen; omega))
          have HB9 := hide (HB8.out.trans (hB9.mono HB8.out.size))
          obtain ⟨va9, vc9, rfl⟩ := owns_slice hO9
          clear hO9 hL9 hB9 hN9
          go_wp2_with (first | (go_at_call 9; refine (num_kp _ _).mono ?_; rintro _ _ ⟨rfl, rfl⟩) | fail)
          refine HSm.out.mono ?_
          rintro e w10 ⟨rfl, hB10⟩
          have HB10 := hide (HBx.out.trans ((HB9.out.trans (hB10.mono HB9.out.size)).mono HBx.out.size))
          clear hB10
          go_wp2_with (first | (go_at_call 9; refine (num_kp _ _).mono ?_; rintro _ _ ⟨rfl, rfl⟩) | fail)
          go_ret
          exact ⟨rfl, HB10.out⟩
        · obtain ⟨f0, r0, hP⟩ : ∃ f0 r0, K.plan = f0 :: r0 := by
            cases hp : K.plan with
            | nil => exact absurd hp hne
            | cons f0 r0 => exact ⟨f0, r0, rfl⟩
          rw [hpl, hP] at HO7 ⊢
          simp only [List.tail_cons, List.length_cons] at HO7 ⊢
          have hrl : r0.length ≤ 4096 := by have := HPl.out.1; rw [hP] at this; simp at this; omega
          have HF8 := hide HK7.out.files
          rw [HFl.out] at HF8
          have HB8 := HB7
          have HW8 := HW7
          clear hpl hne
          rcases h22 with rfl | rfl
          all_goals
            go_wp2_with (first | (go_at_call 9; refine (num_kp _ _).mono ?_; rintro _ _ ⟨rfl, rfl⟩) | fail)
            refine HF8.out.mono ?_
            rintro e w9 ⟨v9, us9, rfl, hO9, hL9, hB9⟩
            have hN9 := nms_of_owns hO9 hL9 (fun j hj => (HFo.out.2 j hj).2)
            have HSm := hide (sameNamed_any _ _ K.files w9 hN9 (HW8.out.below hB9) (by have := HFo.out.1; unfold maxLen; omega) (fun j hj => by have := (HFo.out.2 j hj).1; unfold maxLen; omega))
            have HB9 := hide (HB8.out.trans (hB9.mono HB8.out.size))
            obtain ⟨va9, vc9, rfl⟩ := owns_slice hO9
            clear hO9 hL9 hB9 hN9
            go_wp2_with (first | (go_at_call 9; refine (num_kp _ _).mono ?_; rintro _ _ ⟨rfl, rfl⟩) | fail)
            refine HSm.out.mono ?_
            rintro e w10 ⟨rfl, hB10⟩
            have HB10 := hide (HBx.out.trans ((HB9.out.trans (hB10.mono HB9.out.size)).mono HBx.out.size))
            clear hB10
            go_wp2_with (first | (go_at_call 9; refine (num_kp _ _).mono ?_; rintro _ _ ⟨rfl, rfl⟩) | fail)
            go_ret
            exact ⟨rfl, HB10.out⟩
      by_cases e4 : xw = 4
      · subst e4
        have H6 := hide (HK5.out.seek xa xb xc H5.out.2.2.2.1 H5.out.2.2.2.2.1)
        go_wp2_with fail
        refine H6.out.mono ?_
        rintro e w6 ⟨rfl, hS⟩
        clear x0 x1 x2 x3 x4 x5
        have hT6 := hS.turned
        obtain ⟨O', hK6, hO6, -⟩ := hS
        have HB6 := hide (HB5.out.trans (hT6.below (fun _ e => e.1) HB5.out.size))
        have HO6 := hide (owns_turned HO45.out hT6 (fun j hj e => by have := (HO45.out.lt j hj).1; have := e.2; omega))
        have HL6 := hide (HL45.out.turned hT6 (fun j hj e => by have := e.2; omega))
        have HR6 := hide (owns_turned HO5.out hT6 (fun j hj e => by have := (HO5.out.lt j hj).1; have := e.2; omega))
        have HRef := hide (fun h => refused_seek K xa xb xc h)
        have HK6 := hide hK6
        clear hT6 hO6 hK6 H6
        generalize K.seek xa xb xc = R at *
        obtain ⟨r1, E, K'⟩ := R
        simp only at *
        by_cases hE0 : E = 0
        · subst hE0
          clear HRef
          go_wp2_with (first | (go_at_call 9; refine (num_kp _ _).mono ?_; rintro _ _ ⟨rfl, rfl⟩) | fail)
          go_ret
          exact ⟨rfl, HBx.out.trans (HB6.out.mono HBx.out.size)⟩
        obtain ⟨hfiles, hor⟩ := HRef.out hE0
        have HFl := hide hfiles
        have HRest := hide HK6.out.rest
        have hE0b : (E == 0) = false := by simpa using hE0
        clear HRef hfiles
        go_wp2_with (first | (go_at_call 9; refine (num_kp _ _).mono ?_; rintro _ _ ⟨rfl, rfl⟩) | fail)
        refine HRest.out.mono ?_
        rintro e w7 ⟨v7, rfl, hO7, hB7⟩
        obtain ⟨la, lc, rfl⟩ := owns_slice hO7
        have HK7 := hide (HK6.out.below hB7)
        have HB7 := hide (HB6.out.trans (hB7.mono HB6.out.size))
        have HO7 := hide hO7
        have HW7 := hide (nms_of_owns (owns_below HO6.out hB7) (HL6.out.below hB7) (fun j hj => (HFo.out.2 j hj).2))
        have HR7 := hide (Flts.of_owns (owns_below HR6.out hB7))
        clear hO7 hB7 HRest
        rcases hor with ⟨n22, n23, hpl⟩ | ⟨h22, hpl, hne⟩
        · rw [hpl] at HO7 ⊢
          have n22b : (E == 22) = false := by simpa using n22
          have n23b : (E == 23) = false := by simpa using n23
          have HSf := hide (samef_any _ _ K.plan w7 (Flts.of_owns HO7.out) HR7.out (by have := HPl.out.1; unfold maxLen; omega))
          clear hpl
          go_wp2_with (first | (go_at_call 9; refine (num_kp _ _).mono ?_; rintro _ _ ⟨rfl, rfl⟩) | fail)
          refine HSf.out.mono ?_
          rintro e w8 ⟨rfl, hB8⟩
          have HB8 := hide (HB7.out.trans (hB8.mono HB7.out.size))
          have HF8 := hide (HK7.out.below hB8).files
          rw [HFl.out] at HF8
          have HW8 := hide (HW7.out.below hB8)
          clear hB8 HSf
          go_wp2_with (first | (go_at_call 9; refine (num_kp _ _).mono ?_; rintro _ _ ⟨rfl, rfl⟩) | fail)
          refine HF8.out.mono ?_
          rintro e w9 ⟨v9, us9, rfl, hO9, hL9, hB9⟩
          have hN9 := nms_of_owns hO9 hL9 (fun j hj => (HFo.out.2 j hj).2)
          have HSm := hide (sameNamed_any _ _ K.files w9 hN9 (HW8.out.below hB9) (by have := HFo.out.1; unfold maxLen; omega) (fun j hj => by have := (HFo.out.2 j hj).1; unfold maxLen; omega))
          have HB9 := hide (HB8.out.trans (hB9.mono HB8.out.size))
          obtain ⟨va9, vc9, rfl⟩ := owns_slice hO9
          clear hO9 hL9 hB9 hN9
          go_wp2_with (first | (go_at_call 9; refine (num_kp _ _).mono ?_; rintro _ _ ⟨rfl, rfl⟩) | fail)
          refine HSm.out.mono ?_
          rintro e w10 ⟨rfl, hB10⟩
          have HB10 := hide (HBx.out.trans ((HB9.out.trans (hB10.mono HB9.out.size)).mono HBx.out.size))
          clear hB10
          go_wp2_with (first | (go_at_call 9; refine (num_kp _ _).mono ?_; rintro _ _ ⟨rfl, rfl⟩) | fail)
          go_ret
          exact ⟨rfl, HB10.out⟩
        · obtain ⟨f0, r0, hP⟩ : ∃ f0 r0, K.plan = f0 :: r0 := by
            cases hp : K.plan with
            | nil => exact absurd hp hne
            | cons f0 r0 => exact ⟨f0, r0, rfl⟩
          rw [hpl, hP] at HO7 ⊢
          simp only [List.tail_cons, List.length_cons] at HO7 ⊢
          have hrl : r0.length ≤ 4096 := by have := HPl.out.1; rw [hP] at this; simp at this; omega
          have HF8 := hide HK7.out.files
          rw [HFl.out] at HF8
          have HB8 := HB7
          have HW8 := HW7
          clear hpl hne
          rcases h22 with rfl | rfl
          all_goals
            go_wp2_with (first | (go_at_call 9; refine (num_kp _ _).mono ?_; rintro _ _ ⟨rfl, rfl⟩) | fail)
            refine HF8.out.mono ?_
            rintro e w9 ⟨v9, us9, rfl, hO9, hL9, hB9⟩
            have hN9 := nms_of_owns hO9 hL9 (fun j hj => (HFo.out.2 j hj).2)
            have HSm := hide (sameNamed_any _ _ K.files w9 hN9 (HW8.out.below hB9) (by have := HFo.out.1; unfold maxLen; omega) (fun j hj => by have := (HFo.out.2 j hj).1; unfold maxLen; omega))
            have HB9 := hide (HB8.out.trans (hB9.mono HB8.out.size))
            obtain ⟨va9, vc9, rfl⟩ := owns_slice hO9
            clear hO9 hL9 hB9 hN9
            go_wp2_with (first | (go_at_call 9; refine (num_kp _ _).mono ?_; rintro _ _ ⟨rfl, rfl⟩) | fail)
            refine HSm.out.mono ?_
            rintro e w10 ⟨rfl, hB10⟩
            have HB10 := hide (HBx.out.trans ((HB9.out.trans (hB10.mono HB9.out.size)).mono HBx.out.size))
            clear hB10
            go_wp2_with (first | (go_at_call 9; refine (num_kp _ _).mono ?_; rintro _ _ ⟨rfl, rfl⟩) | fail)
            go_ret
            exact ⟨rfl, HB10.out⟩
      go_wp2_with (first | (go_at_call 9; refine (num_kp _ _).mono ?_; rintro _ _ ⟨rfl, rfl⟩) | fail)
      go_ret
      exact ⟨rfl, HBx.out.trans (HB5.out.mono HBx.out.size)⟩
end Go.Proofs.YtjnifkngcbaldaaGreat

/- KernRefuses answers true for all setups, steps and calls, within the reach of a machine's memory: a raw call that is refused changes no file, no place, and uses up no fault but the one that refused it. -/
namespace Go.Proofs.YtjnifkngcbaldaaGreat.kernRefuses
open Go.ChangeShapes Go.WideShapes Go.ChangeAt Go.RowKit
open Go.ChangeMaps (open_string shut_string)
set_option linter.unusedVariables false

theorem own : ownKnob Tryz.prog.godebug = none := by kernel_rfl
theorem laidOut : laidOutB Tryz.prog = true := by kernel_rfl

set_option maxRecDepth 100000 in
theorem lifted (os : Os) (started : os.Started) (H : Type) (enc : TypeId × Value → H) :
    ReturnsInHanded {} Tryz.checked os 4 .any (Rows.kernRefusesSpec.pre6 enc Tryz.prog Tryz.f4 Rows.kernRefusesRow.domain false) (Rows.kernRefusesSpec.post enc Tryz.prog Tryz.f4 false true false false) := by
  refine returnsInHanded_of_change_sized (C := Tryz.checked) own started (by kernel_rfl) Tryz.func4
    (ChangeSpec.witness6 (enc := enc) (C := Tryz.checked) false ⟨#[], #[.agg #[.slice none 0 0, .slice none 0 0, .slice none 0 0], .slice none 0 0, .agg #[.int .i64 0, .string ByteArray.empty, .int .i64 0, .int .i64 0, .int .i64 0, .slice none 0 0]], []⟩ 8 (by kernel_rfl) (by kernel_rfl) (by kernel_rfl) (by kernel_rfl)) ?_
  intro W base args ds gs before hval0 hW hcnd0 hsz0 _
  have hsz : (DataW.weightsEach Tryz.prog (Tryz.f4.params.toList ++ Rows.kernRefusesSpec.plain.varTypes Tryz.prog) (ds ++ gs)).all (· ≤ reachBytes) = true := hsz0
  clear hsz0
  have hval : ∀ (j : Nat) t v, Tryz.f4.params[j]? = some t → args[j]? = some v → Value.okWide Tryz.prog W .any base t v := hval0
  have hW' := hW
  obtain ⟨p, q, hA0, hV, rfl, hfz, hnd⟩ := hW
  have hA : DataW.TrodAll enc Tryz.prog W 0 (fun _ => true) true Tryz.f4.params.toList args.toList ds p := hA0
  rw [Tryz.params4] at hA hval hsz
  obtain ⟨v0, vs0, d0, ds0, p0, q0, hargs, rfl, rfl, h0, r0⟩ := trodAll_cons hA
  obtain ⟨v1, vs1, d1, ds1, p1, q1, rfl, rfl, rfl, h1, r1⟩ := trodAll_cons r0
  obtain ⟨v2, vs2, d2, ds2, p2, q2, rfl, rfl, rfl, h2, r2⟩ := trodAll_cons r1
  obtain ⟨rfl, rfl, rfl⟩ := trodAll_nil r2
  obtain rfl : args = #[v0, v1, v2] := by cases args; simp_all
  obtain ⟨rfl, rfl⟩ := trodVars_none hV
  obtain ⟨c0, rfl, hc0⟩ := okWide_struct Tryz.underlying26 (hval 0 26 v0 rfl rfl)
  have k0 := h0
  have lt0 : ∀ x ∈ p0, x.block < W.heap.size := by obtain ⟨m, hm⟩ := k0; exact DataW.trod_lt m _ _ _ hm
  obtain ⟨fuel0, hf0⟩ := h0
  obtain ⟨fa0, fl0, fc0, ta0, tl0, tc0, ga0, gl0, gc0, dn0, dt0, dg0, sf0, qn0, qt0, qg0, hcl0, rfl, hfn0, hft0, hfg0⟩ := setup_cells Tryz.underlying26 (by kernel_rfl) rfl rfl rfl (by kernel_rfl) (by kernel_rfl) (by kernel_rfl) Tryz.underlying22 Tryz.underlying23 Tryz.underlying24 hf0
  obtain rfl : c0 = #[.slice fa0 fl0 fc0, .slice ta0 tl0 tc0, .slice ga0 gl0 gc0] := by cases c0; simpa [Value.cells] using hcl0
  obtain ⟨fs0, yf0, ef0⟩ := nms_arg Tryz.underlying22 Tryz.underlying69 (by kernel_rfl) rfl rfl (by kernel_rfl) (by kernel_rfl) Tryz.underlying9 Tryz.underlying40 Tryz.underlying5 (by kernel_rfl) hfn0
  obtain ⟨ts0, yt0, et0⟩ := tps_arg Tryz.underlying23 Tryz.underlying74 (by kernel_rfl) rfl rfl (by kernel_rfl) (by kernel_rfl) Tryz.underlying9 Tryz.underlying72 Tryz.underlying40 (by kernel_rfl) Tryz.underlying5 (by kernel_rfl) hft0
  obtain ⟨gg0, yg0, eg0⟩ := faults_arg Tryz.underlying24 Tryz.underlying148 (by kernel_rfl) rfl rfl (by kernel_rfl) (by kernel_rfl) Tryz.underlying3 Tryz.underlying3 hfg0
  obtain rfl : fl0 = fs0.length := by obtain ⟨_, _, e, _⟩ := yf0; cases e; rfl
  obtain rfl : tl0 = ts0.length := by obtain ⟨_, _, e, _⟩ := yt0; cases e; rfl
  obtain rfl : gl0 = gg0.length := by obtain ⟨_, _, e, _⟩ := flts_form yg0; cases e; rfl
  have sm0 : Small Tryz.prog 26 (.agg [dn0, dt0, dg0]) := small_arg hsz (j := 0) rfl rfl
  have zf0 := named_small (sm0.fields Tryz.underlying26 0 _ _ rfl rfl) Tryz.underlying22 (by kernel_rfl) Tryz.underlying69 Tryz.underlying40 (by kernel_rfl) ef0
  have zt0 := typed_small (sm0.fields Tryz.underlying26 1 _ _ rfl rfl) Tryz.underlying23 (by kernel_rfl) Tryz.underlying74 Tryz.underlying72 Tryz.underlying40 (by kernel_rfl) (by kernel_rfl) et0
  have zg0 := faults_small (sm0.fields Tryz.underlying26 2 _ _ rfl rfl) Tryz.underlying24 (by kernel_rfl) eg0
  obtain ⟨c1, len1, cap1, rfl⟩ := okWide_slice Tryz.underlying27 (hval 1 27 v1 rfl rfl)
  have k1 := h1
  have lt1 : ∀ x ∈ p1, x.block < W.heap.size := by obtain ⟨m, hm⟩ := k1; exact DataW.trod_lt m _ _ _ hm
  obtain ⟨fuel1, hf1⟩ := h1
  obtain ⟨l1, y1, e1⟩ := ksts_arg Tryz.underlying27 Tryz.underlying42 (by kernel_rfl) rfl rfl rfl rfl rfl rfl (by kernel_rfl) (by kernel_rfl) (by kernel_rfl) (by kernel_rfl) (by kernel_rfl) (by kernel_rfl) Tryz.underlying3 Tryz.underlying9 Tryz.underlying3 Tryz.underlying3 Tryz.underlying3 Tryz.underlying40 Tryz.underlying5 (by kernel_rfl) hf1
  obtain rfl : len1 = l1.length := by obtain ⟨_, _, e, _⟩ := y1; cases e; rfl
  have z1 := ksteps_small (small_arg hsz (j := 1) (t := 27) rfl rfl) Tryz.underlying27 (by kernel_rfl) Tryz.underlying42 Tryz.underlying40 (by kernel_rfl) e1
  obtain ⟨c2, rfl, hc2⟩ := okWide_struct Tryz.underlying42 (hval 2 42 v2 rfl rfl)
  have k2 := h2
  have lt2 : ∀ x ∈ p2, x.block < W.heap.size := by obtain ⟨m, hm⟩ := k2; exact DataW.trod_lt m _ _ _ hm
  obtain ⟨fuel2, hf2⟩ := h2
  obtain ⟨x2, va2, vc2, e2, hcl2, y2, ⟨_, _, _, _, _, rfl⟩, hO2⟩ := kstep_cells Tryz.underlying42 (by kernel_rfl) rfl rfl rfl rfl rfl rfl (by kernel_rfl) (by kernel_rfl) (by kernel_rfl) (by kernel_rfl) (by kernel_rfl) (by kernel_rfl) Tryz.underlying3 Tryz.underlying9 Tryz.underlying3 Tryz.underlying3 Tryz.underlying3 Tryz.underlying40 Tryz.underlying5 (by kernel_rfl) hf2
  obtain rfl : c2 = #[.int .i64 x2.what, .string x2.name, .int .i64 x2.a, .int .i64 x2.b, .int .i64 x2.c, .slice va2 x2.data.length vc2] := by cases c2; simpa [Value.cells] using hcl2
  have z2 : x2.data.length ≤ 140737488351232 := bytes_small ((small_arg hsz (j := 2) (t := 42) rfl rfl).fields Tryz.underlying42 5 _ _ rfl rfl) Tryz.underlying40 (by kernel_rfl) hO2
  clear hA0
  refine (kernRefuses_any _ _ _ _ _ _ _ _ _ _ fs0 ts0 gg0 l1 x2 W yf0 yt0 yg0 y1 y2 zf0 zt0 zg0 z1 z2).mono fun e W' ⟨he, bel⟩ => ?_
  subst he
  exact ⟨_, rfl, _, _, _, [], _, [], hW', trodAll_mk1 (shut_bool Tryz.underlying4 _), (trodAll_cons_mk (Below.trod laidOut (by kernel_rfl) (of_decide_eq_true (by kernel_rfl)) k0 bel lt0) (trodAll_cons_mk (Below.trod laidOut (by kernel_rfl) (of_decide_eq_true (by kernel_rfl)) k1 bel lt1) (trodAll_cons_mk (Below.trod laidOut (by kernel_rfl) (of_decide_eq_true (by kernel_rfl)) k2 bel lt2) trodAll_mk0))), rfl, bel.frame _, fun h => by cases h⟩

theorem over : Rows.kernRefusesRow.holds Tryz.pinned (OpenSpec.ofChange Rows.kernRefusesSpec) :=
  OpenClaim.holds_of_wide 4 Tryz.f4 rfl rfl rfl rfl rfl rfl rfl ⟨rfl, rfl, rfl, rfl, rfl⟩ rfl rfl rfl rfl rfl (by kernel_rfl) Tryz.func4 (by kernel_rfl)
    (of_decide_eq_true (by kernel_rfl)) (by unfold Func.isWrapper; first | (rw [if_pos (by decide +kernel)]; kernel_rfl) | (rw [if_neg (by decide +kernel)]; exact ⟨rfl, rfl⟩))
    (fun os started H enc _ => lifted os started H enc)
end Go.Proofs.YtjnifkngcbaldaaGreat.kernRefuses
namespace Go.Proofs.YtjnifkngcbaldaaGreat
theorem kernRefuses_holds : Rows.KernRefusesSaid := kernRefuses.over
#print axioms kernRefuses_holds
end Go.Proofs.YtjnifkngcbaldaaGreat
