/- What the proof stands on, part 8: the contracts of the program's calls that it reaches. -/
import Derived.Test.YtibnpeipndkciaaKM7
import Derived.Lib.BytesEntry
import Derived.Lib.MinMax
import Derived.RangeFuncNested
import Derived.RangeFuncBound
import Derived.RangeFuncCalls
import Derived.RangeFuncLeaves
import Derived.RangeFuncBox
import Derived.Shelf.Abstract
import Derived.Shelf.RegionOpen
import Derived.OwnWalkIn
import Derived.TacticsInMore
import Derived.LoopNIn
import Derived.LoopIn
import Derived.Maps.AppendAt
import Derived.Sort.BigQuietIn
import Derived.Laws.AppendOwnNone
/- StreamFew, as values: how many raw calls there are. -/
namespace Go.Proofs.Ytibnpeipndkciaa
open Go.RowKit

/-- A Counter takes all at once. -/
theorem ct_put (S : CtS) (bs : List UInt8) (hl : bs.length ≤ 1048576) : putV ctD bs (putF bs) S 0 0 = (bs.length, 0, ⟨S.b ++ bs, S.pl, S.rd, S.wr + if bs = [] then 0 else 1⟩) := by
  by_cases h0 : bs = []
  · subst h0
    rw [putV_done _ _ _ _ _ _ (by simp)]
    obtain ⟨b, pl, rd, wr⟩ := S
    simp
  have hpos : 0 < bs.length := List.length_pos_iff.2 h0
  have hw : ctD.write S (bs.drop 0) = ((bs.length : Int), 0, ⟨S.b ++ bs, S.pl, S.rd, S.wr + 1⟩) := by
    rw [List.drop_zero]; rfl
  obtain ⟨k, hk⟩ : ∃ k, putF bs = k + 1 := ⟨putF bs - 1, by unfold putF; omega⟩
  rw [hk, putV_next ctD bs k _ 0 0 hw, if_pos hpos, if_neg (by omega), if_neg (by omega), if_pos rfl, putV_done _ _ _ _ _ _ (by omega), if_neg h0]
  simp
theorem ct_some (S : CtS) (n : Nat) : someV ctD n 8192 S = ((S.b.drop S.pl).take (min n (S.b.length - S.pl)), 0, ⟨S.b, S.pl + min n (S.b.length - S.pl), S.rd + 1, S.wr⟩) := by
  have hr : ctD.read S n = ((S.b.drop S.pl).take (min n (S.b.length - S.pl)), 0, ⟨S.b, S.pl + min n (S.b.length - S.pl), S.rd + 1, S.wr⟩) := rfl
  rw [someV_next ctD n 8191 S hr, if_neg (by omega), if_neg (by rw [List.length_take]; omega), if_pos rfl]
/-- A full stream that is written alone: what was put, and how many writes there were. -/
structure FwW (x : SS) (S : CtS) (l : List UInt8) (sz : Nat) : Prop where
  wt : x.wt = true
  mode : x.mode = 3
  size : x.size = (sz : Int)
  s1 : 1 ≤ sz
  s2 : sz ≤ 65536
  ol : x.out.length < sz
  inn : x.inn = []
  back : x.back = []
  closed : x.closed = false
  dir : x.dir = 2 ∨ (x.dir = 0 ∧ x.out = [])
  all : S.b ++ x.out = l
  few : S.wr * sz + x.out.length = l.length
  rz : S.rd = 0
theorem FwW.may {x : SS} {S : CtS} {l : List UInt8} {sz : Nat} (h : FwW x S l sz) : x.may = true := by
  unfold SS.may SS.buf SS.way SS.toR SS.toW
  have h1 := h.s1
  have h2 := h.s2
  have h3 := h.ol
  rw [h.inn, h.back, h.closed, h.wt, h.mode, h.size]
  have e2 : (1 : Int) ≤ (sz : Int) := by omega
  have e3 : (sz : Int) ≤ 65536 := by omega
  rcases h.dir with e | ⟨e, e4⟩
  · simp [e, e2, e3]
    omega
  · simp [e, e4, e2, e3]
theorem FwW.refuse {x : SS} {S : CtS} {l : List UInt8} {sz : Nat} (h : FwW x S l sz) : x.refuse true = 0 := by
  unfold SS.refuse
  rw [if_neg (by simp [h.may]), if_neg (by simp), if_neg (by simp [h.closed])]
theorem FwW.noWrite {x : SS} {S : CtS} {l : List UInt8} {sz : Nat} (h : FwW x S l sz) : x.noWrite = 0 := by
  unfold SS.noWrite
  rw [if_neg (by simp [h.refuse]), if_neg (by simp [h.wt]), if_neg (fun e => by rcases h.dir with d | d <;> omega)]
theorem ct_deliver (x : SS) (S : CtS) (h : x.out.length ≤ 65536) : x.deliver ctD S = ({ x with out := [] }, 0, ⟨S.b ++ x.out, S.pl, S.rd, S.wr + if x.out = [] then 0 else 1⟩) := by
  unfold SS.deliver SS.mark
  rw [ct_put S x.out (by omega)]
  simp
theorem fw_put {x : SS} {S : CtS} {l : List UInt8} {sz : Nat} (h : FwW x S l sz) (c : UInt8) : (x.put ctD S c).2.1 = 0 ∧ FwW (x.put ctD S c).1 (x.put ctD S c).2.2 (l ++ [c]) sz := by
  have ho := h.ol
  have h1 := h.s1
  have h2 := h.s2
  have hf := h.few
  have hs := h.size
  unfold SS.put
  rw [if_pos h.noWrite]
  unfold SS.put1
  rw [if_neg (by simp only; rw [h.mode]; decide), if_neg (by simp only; omega)]
  unfold SS.lay
  simp only
  split
  · rename_i hc
    have hfull : x.out.length + 1 = sz := by
      rcases hc with e | e
      · omega
      · rw [h.mode] at e; simp at e
    rw [ct_deliver _ S (by simp; omega)]
    refine ⟨rfl, ⟨h.wt, h.mode, h.size, h1, h2, h1, h.inn, h.back, h.closed, .inl rfl, ?_, ?_, h.rz⟩⟩
    · simp only [List.append_nil]
      rw [← List.append_assoc, h.all]
    · simp only [List.length_append, List.length_cons, List.length_nil]
      rw [if_neg (by simp), Nat.add_mul]
      omega
  · rename_i hc
    refine ⟨rfl, ⟨h.wt, h.mode, h.size, h1, h2, ?_, h.inn, h.back, h.closed, .inl rfl, ?_, ?_, h.rz⟩⟩
    · simp only [List.length_append, List.length_cons, List.length_nil]
      have : ¬ ((x.out.length + 1 : Nat) : Int) = x.size := fun e => hc (.inl e)
      omega
    · simp only
      rw [← List.append_assoc, h.all]
    · simp only [List.length_append, List.length_cons, List.length_nil]
      omega
theorem fw_close {x : SS} {S : CtS} {l : List UInt8} {sz : Nat} (h : FwW x S l sz) : (x.close ctD S).2.1 = 0 ∧ (x.close ctD S).2.2.b = l ∧ (x.close ctD S).2.2.wr ≤ l.length / sz + 1 := by
  have ho := h.ol
  have h2 := h.s2
  have hf := h.few
  unfold SS.close
  rw [if_neg (by simp [h.refuse]), ct_deliver x S (by omega)]
  refine ⟨rfl, h.all, ?_⟩
  simp only
  have hw : S.wr ≤ l.length / sz := (Nat.le_div_iff_mul_le (by omega)).2 (by omega)
  split <;> omega
/-- A full stream that is read alone: i bytes were got. -/
structure FwR (x : SS) (S : CtS) (b : List UInt8) (i sz : Nat) : Prop where
  rd : x.rd = true
  mode : x.mode = 3
  size : x.size = (sz : Int)
  s1 : 1 ≤ sz
  s2 : sz ≤ 65536
  out : x.out = []
  back : x.back = []
  fin : x.fin = false
  closed : x.closed = false
  dir : x.dir = 1 ∨ (x.dir = 0 ∧ x.inn = [])
  all : S.b = b
  inn : x.inn = (b.drop i).take x.inn.length
  pl : S.pl = i + x.inn.length
  top : S.pl = min (S.rd * sz) b.length
  few : S.rd = 0 ∨ (S.rd - 1) * sz < i
  wz : S.wr = 0
theorem FwR.short {x : SS} {S : CtS} {b : List UInt8} {i sz : Nat} (h : FwR x S b i sz) : x.inn.length < sz := by
  have h1 := h.s1
  have h2 := h.pl
  have h3 := h.top
  rcases h.few with e | e
  · rw [e] at h3
    omega
  · obtain ⟨r, hr⟩ : ∃ r, S.rd = r + 1 ∨ S.rd = 0 := ⟨S.rd - 1, by omega⟩
    rcases hr with hr | hr
    · rw [hr] at e h3
      rw [Nat.add_mul] at h3
      simp only [Nat.add_sub_cancel] at e
      omega
    · rw [hr] at h3
      omega
theorem FwR.may {x : SS} {S : CtS} {b : List UInt8} {i sz : Nat} (h : FwR x S b i sz) : x.may = true := by
  unfold SS.may SS.buf SS.way SS.toR SS.toW
  have h1 := h.s1
  have h2 := h.s2
  have h3 := h.short
  rw [h.out, h.back, h.closed, h.rd, h.mode, h.size]
  have e2 : (1 : Int) ≤ (sz : Int) := by omega
  have e3 : (sz : Int) ≤ 65536 := by omega
  have e5 : (x.inn.length : Int) ≤ 65536 := by omega
  rcases h.dir with e | ⟨e, e4⟩
  · simp [e, e2, e3, e5]
  · simp [e, e4, e2, e3]
theorem FwR.noRead {x : SS} {S : CtS} {b : List UInt8} {i sz : Nat} (h : FwR x S b i sz) : x.noRead = 0 := by
  have hr : x.refuse true = 0 := by
    unfold SS.refuse
    rw [if_neg (by simp [h.may]), if_neg (by simp), if_neg (by simp [h.closed])]
  unfold SS.noRead
  rw [if_neg (by simp [hr]), if_neg (by simp [h.rd]), if_neg (fun e => by rcases h.dir with d | d <;> omega)]
theorem fr_get {x : SS} {S : CtS} {b : List UInt8} {i sz : Nat} (h : FwR x S b i sz) (hi : i < b.length) : (x.get ctD S).2.2.1 = 0 ∧ (x.get ctD S).2.1 = b.getD i 0 ∧ FwR (x.get ctD S).1 (x.get ctD S).2.2.2 b (i + 1) sz := by
  have h1 := h.s1
  have hin := h.inn
  have hpl := h.pl
  have htop := h.top
  have hst := h.short
  unfold SS.get
  rw [if_pos h.noRead]
  unfold SS.get1
  rw [if_neg (by simp only; rw [h.back]; simp)]
  by_cases hp : 0 < x.inn.length
  · rw [if_pos hp]
    refine ⟨rfl, ?_, ⟨h.rd, h.mode, h.size, h1, h.s2, h.out, h.back, h.fin, h.closed, .inl rfl, h.all, ?_, ?_, htop, ?_, h.wz⟩⟩
    · simp only
      rw [hin]
      simp only [List.getD_eq_getElem?_getD, List.getElem?_take, List.getElem?_drop, Nat.add_zero]
      rw [if_pos hp]
    · simp only [List.length_drop]
      conv => lhs; rw [hin]
      rw [List.drop_take, List.drop_drop]
    · simp only [List.length_drop]
      omega
    · rcases h.few with e | e
      · rw [e] at htop; omega
      · right; show (S.rd - 1) * sz < i + 1; omega
  · have h0 : x.inn.length = 0 := by omega
    rw [if_neg hp, if_neg (by simp only; rw [h.fin]; simp)]
    have hm : ({ x with dir := 1 } : SS).most = sz := by
      unfold SS.most
      simp only
      rw [if_neg (by rw [h.mode]; decide), h.size, Int.toNat_natCast]
    rw [hm, ct_some S sz]
    simp only
    have hSl : S.b.length = b.length := by rw [h.all]
    have hpi : S.pl = i := by omega
    have hri : S.rd * sz = i := by omega
    have hmn : 1 ≤ min sz (S.b.length - S.pl) := by omega
    have hlen : ((S.b.drop S.pl).take (min sz (S.b.length - S.pl))).length = min sz (S.b.length - S.pl) := by rw [List.length_take, List.length_drop]; omega
    rw [if_neg (by simp), if_neg (by omega)]
    refine ⟨rfl, ?_, ⟨h.rd, h.mode, h.size, h1, h.s2, h.out, h.back, h.fin, h.closed, .inl rfl, h.all, ?_, ?_, ?_, ?_, h.wz⟩⟩
    · simp only
      rw [h.all, hpi]
      simp only [List.getD_eq_getElem?_getD, List.getElem?_take, List.getElem?_drop, Nat.add_zero]
      rw [if_pos (by omega)]
    · simp only [List.length_drop, hlen]
      rw [h.all, hpi, List.drop_take, List.drop_drop]
    · simp only [List.length_drop, hlen]
      omega
    · show S.pl + min sz (S.b.length - S.pl) = min ((S.rd + 1) * sz) b.length
      rw [Nat.add_mul]
      omega
    · right
      show (S.rd + 1 - 1) * sz < i + 1
      rw [Nat.add_sub_cancel]
      omega
theorem fr_few {x : SS} {S : CtS} {b : List UInt8} {sz : Nat} (h : FwR x S b b.length sz) : S.rd ≤ b.length / sz + 1 := by
  have h1 := h.s1
  rcases h.few with e | e
  · rw [e]; exact Nat.zero_le _
  · have : S.rd - 1 ≤ b.length / sz := (Nat.le_div_iff_mul_le (by omega)).2 (by omega)
    omega
/-- Bounds of a Counter's numbers. -/
theorem ct_bears : Bears ctD ctOk ctOk (fun n s => s.rd + n ≤ 4611686018427387904 ∧ s.wr + n ≤ 4611686018427387904 ∧ s.b.length + n * 65536 ≤ 1000000000) := by
  refine ⟨fun n s bs h hl => ?_, fun n s m h h1 h2 => ?_, fun n s h => by omega⟩
  · rw [ct_put s bs (by omega)]
    have hok : ctOk s := by unfold ctOk; omega
    refine ⟨?_, ?_⟩
    · obtain ⟨k, hk⟩ : ∃ k, putF bs = k + 1 := ⟨putF bs - 1, by unfold putF; omega⟩
      rw [hk]
      intro hpos
      have hw : ctD.write s (bs.drop 0) = ((bs.length : Int), 0, ⟨s.b ++ bs, s.pl, s.rd, s.wr + 1⟩) := by rw [List.drop_zero]; rfl
      rw [hw]
      refine ⟨hok, fun e => by
        have e2 : ((0 : Int) = 22 ∨ (0 : Int) = 23) ∨ ((bs.length : Int) = 0 ∧ (0 : Int) = 0) := e
        omega, fun _ _ _ => ?_⟩
      cases k with
      | zero => trivial
      | succ k => intro h5; simp at h5
    · simp only [List.length_append]
      split <;> omega
  · rw [ct_some s m]
    exact ⟨⟨by unfold ctOk; omega, fun e => by have e2 : (0 : Int) = 22 ∨ (0 : Int) = 23 := e; omega⟩, by simp only; omega⟩
theorem FwW.bear {x : SS} {S : CtS} {l : List UInt8} {sz : Nat} (h : FwW x S l sz) (hl : l.length ≤ 5000) : S.rd + 2 ≤ 4611686018427387904 ∧ S.wr + 2 ≤ 4611686018427387904 ∧ S.b.length + 2 * 65536 ≤ 1000000000 := by
  have h1 := h.few
  have h2 := h.rz
  have h3 : S.wr ≤ S.wr * sz := Nat.le_mul_of_pos_right _ h.s1
  have h4 : S.b.length ≤ l.length := by rw [← h.all]; simp
  omega
theorem FwR.bear {x : SS} {S : CtS} {b : List UInt8} {i sz : Nat} (h : FwR x S b i sz) (hl : b.length ≤ 5000) (hi : i ≤ 5000) : S.rd + 2 ≤ 4611686018427387904 ∧ S.wr + 2 ≤ 4611686018427387904 ∧ S.b.length + 2 * 65536 ≤ 1000000000 := by
  have h2 := h.wz
  have h3 : S.rd - 1 ≤ (S.rd - 1) * sz := Nat.le_mul_of_pos_right _ h.s1
  have h4 := h.all
  rw [h4]
  rcases h.few with e | e <;> omega
theorem few_le (b sz r : Nat) (hb : b ≤ 5000) (h : r ≤ b / sz + 1) : decide ((r : Int) ≤ IntKind.i64.wrap (IntKind.i64.wrap ((b : Int) / (sz : Int)) + 1)) = true ∧ decide ((r : Int) ≤ IntKind.i64.wrap (wrap64 ((b : Int) / (sz : Int)) + 1)) = true := by
  have h1 : b / sz ≤ 5000 := Nat.le_trans (Nat.div_le_self _ _) hb
  rw [show (b : Int) / (sz : Int) = ((b / sz : Nat) : Int) from (Int.natCast_ediv _ _).symm]
  generalize b / sz = q at *
  have e1 : IntKind.i64.wrap (q : Int) = (q : Int) := by rw [IntKind.wrap_i64]; omega
  have e2 : IntKind.i64.wrap ((q : Int) + 1) = (q : Int) + 1 := by rw [IntKind.wrap_i64]; omega
  have e3 : wrap64 (q : Int) = (q : Int) := by unfold wrap64; omega
  rw [e1, e3, e2]
  exact ⟨decide_eq_true (by omega), decide_eq_true (by omega)⟩
theorem take_more (b : List UInt8) (k : Nat) (h : k < b.length) : b.take (k + 1) = b.take k ++ [b.getD k 0] := by
  rw [List.take_add_one]
  simp [h]
end Go.Proofs.Ytibnpeipndkciaa

/- Buffers' modes, as values: which writes a text makes, how many reads there are. -/
namespace Go.Proofs.Ytibnpeipndkciaa

/-- Why there is no buffer of that mode and size. -/
def bref (mode size : Int) : Int := if mode < 1 ∨ 3 < mode then 1 else if size < 1 ∨ 65536 < size then 4 else 0
/-- How many bytes one raw call moves at most. -/
def brm (mode size : Int) : Int := if mode = 1 then 1 else size
/-- Up to the first newline, with it, or all. -/
def lnw : List UInt8 → Nat
  | [] => 0
  | c :: l => if c = 10 then 1 else 1 + lnw l
/-- How long the writes are; n bytes are held. -/
def rwr (ln : Bool) (m : Nat) : Nat → List UInt8 → List Nat
  | n, [] => if 0 < n then [n] else []
  | n, c :: l => if n + 1 = m ∨ (ln = true ∧ c = 10) then (n + 1) :: rwr ln m 0 l else rwr ln m (n + 1) l
/-- The first piece of at most r bytes. -/
def chk (ln : Bool) (r : Nat) (l : List UInt8) : Nat := if ln = true then lnw (l.take r) else min r l.length
theorem lnw_le (l : List UInt8) : lnw l ≤ l.length := by
  induction l with
  | nil => exact Nat.le_refl _
  | cons c l ih =>
    unfold lnw
    split
    · simp
    · simp; omega
theorem lnw_pos (l : List UInt8) (h : l ≠ []) : 1 ≤ lnw l := by
  cases l with
  | nil => contradiction
  | cons c l =>
    unfold lnw
    split <;> omega
theorem chk_pos (ln : Bool) (r : Nat) (l : List UInt8) (hr : 1 ≤ r) (h : l ≠ []) : 1 ≤ chk ln r l ∧ chk ln r l ≤ r ∧ chk ln r l ≤ l.length := by
  have hl : 0 < l.length := List.length_pos_iff.2 h
  unfold chk
  split
  · have h1 := lnw_le (l.take r)
    rw [List.length_take] at h1
    refine ⟨lnw_pos _ ?_, by omega, by omega⟩
    intro e
    have := congrArg List.length e
    rw [List.length_take, List.length_nil] at this
    omega
  · omega
theorem chk_one (ln : Bool) (c : UInt8) (l : List UInt8) : chk ln 1 (c :: l) = 1 := by
  unfold chk
  split
  · simp [lnw]
  · rw [List.length_cons]; omega
theorem chk_nl (r : Nat) (l : List UInt8) (hr : 1 ≤ r) : chk true r (10 :: l) = 1 := by
  obtain ⟨k, rfl⟩ : ∃ k, r = k + 1 := ⟨r - 1, by omega⟩
  simp [chk, lnw]
theorem chk_cons (ln : Bool) (r : Nat) (c : UInt8) (l : List UInt8) (h : ¬ (ln = true ∧ c = 10)) : chk ln (r + 1) (c :: l) = 1 + chk ln r l := by
  unfold chk
  split
  · rename_i e
    rw [List.take_succ_cons]
    have : ¬ c = 10 := fun e' => h ⟨e, e'⟩
    simp only [lnw, if_neg this]
  · simp; omega
/-- A text's writes: the first piece, and the writes of what is behind it. -/
theorem rwr_step (ln : Bool) (m : Nat) : ∀ (l : List UInt8) (n : Nat), n < m → l ≠ [] → rwr ln m n l = (n + chk ln (m - n) l) :: rwr ln m 0 (l.drop (chk ln (m - n) l)) := by
  intro l
  induction l with
  | nil => intro n _ h; contradiction
  | cons c l ih =>
    intro n hn _
    rw [show rwr ln m n (c :: l) = if n + 1 = m ∨ (ln = true ∧ c = 10) then (n + 1) :: rwr ln m 0 l else rwr ln m (n + 1) l from rfl]
    by_cases hc : n + 1 = m ∨ (ln = true ∧ c = 10)
    · rw [if_pos hc]
      have e : chk ln (m - n) (c :: l) = 1 := by
        rcases hc with e | ⟨e1, e2⟩
        · rw [show m - n = 1 by omega]; exact chk_one ln c l
        · subst e1 e2; exact chk_nl _ l (by omega)
      rw [e]; rfl
    · rw [if_neg hc]
      have hc2 : ¬ (ln = true ∧ c = 10) := fun e => hc (.inr e)
      obtain ⟨r, hr⟩ : ∃ r, m - n = r + 1 := ⟨m - n - 1, by omega⟩
      rw [hr, chk_cons ln r c l hc2]
      by_cases hl : l = []
      · subst hl
        have e0 : chk ln r [] = 0 := by unfold chk; split <;> simp [lnw]
        rw [e0]
        simp [rwr]
      · rw [ih (n + 1) (by omega) hl, show m - (n + 1) = r by omega, Nat.add_comm 1 (chk ln r l), List.drop_succ_cons]
        congr 1
        omega
theorem rwr_nil (ln : Bool) (m : Nat) : rwr ln m 0 [] = [] := rfl
/-- One byte more. -/
theorem rwr_snoc (ln : Bool) (m : Nat) : ∀ (l : List UInt8) (n : Nat), n < m → ∃ k p, k < m ∧ (∀ r, rwr ln m n (l ++ r) = p ++ rwr ln m k r) ∧ n + l.length = p.sum + k := by
  intro l
  induction l with
  | nil => intro n hn; exact ⟨n, [], hn, fun r => rfl, by simp⟩
  | cons c l ih =>
    intro n hn
    by_cases hc : n + 1 = m ∨ (ln = true ∧ c = 10)
    · obtain ⟨k, p, h1, h2, h3⟩ := ih 0 (by omega)
      refine ⟨k, (n + 1) :: p, h1, fun r => ?_, ?_⟩
      · show rwr ln m n (c :: (l ++ r)) = _
        rw [rwr, if_pos hc, h2 r]; rfl
      · simp only [List.length_cons, List.sum_cons]; omega
    · obtain ⟨k, p, h1, h2, h3⟩ := ih (n + 1) (by omega)
      refine ⟨k, p, h1, fun r => ?_, ?_⟩
      · show rwr ln m n (c :: (l ++ r)) = _
        rw [rwr, if_neg hc, h2 r]
      · simp only [List.length_cons]; omega
theorem rwr_sum (ln : Bool) (m : Nat) (l : List UInt8) (n : Nat) (hn : n < m) : (rwr ln m n l).sum = n + l.length := by
  obtain ⟨k, p, h1, h2, h3⟩ := rwr_snoc ln m l n hn
  have := h2 []
  rw [List.append_nil] at this
  rw [this, h3, List.sum_append]
  congr 1
  unfold rwr
  split
  · simp
  · simp; omega
theorem rwr_each (ln : Bool) (m : Nat) : ∀ (l : List UInt8) (n : Nat), n < m → ∀ x ∈ rwr ln m n l, 1 ≤ x ∧ x ≤ m := by
  intro l
  induction l with
  | nil =>
    intro n hn x hx
    unfold rwr at hx
    split at hx
    · simp at hx; omega
    · simp at hx
  | cons c l ih =>
    intro n hn x hx
    unfold rwr at hx
    split at hx
    · rcases List.mem_cons.1 hx with e | e
      · omega
      · exact ih 0 (by omega) x e
    · rename_i h
      exact ih (n + 1) (by have : ¬ n + 1 = m := fun e => h (.inl e); omega) x hx
theorem rwr_len_le (ln : Bool) (m : Nat) (l : List UInt8) (n : Nat) (hn : n < m) : (rwr ln m n l).length ≤ n + l.length := by
  rw [← rwr_sum ln m l n hn]
  have := rwr_each ln m l n hn
  generalize rwr ln m n l = q at *
  induction q with
  | nil => simp
  | cons a q ih =>
    have h1 := this a (by simp)
    have h2 := ih fun x hx => this x (by simp [hx])
    simp only [List.length_cons, List.sum_cons]
    omega
/-- Full: all but the last are whole. -/
theorem rwr_full (m : Nat) : ∀ (l : List UInt8) (n : Nat), n < m → (rwr false m n l).length = (n + l.length + (m - 1)) / m := by
  intro l
  induction l with
  | nil =>
    intro n hn
    unfold rwr
    simp only [List.length_nil, Nat.add_zero]
    split
    · symm; rw [List.length_singleton]; exact Nat.div_eq_of_lt_le (by omega) (by omega)
    · symm; rw [List.length_nil]; exact Nat.div_eq_of_lt (by omega)
  | cons c l ih =>
    intro n hn
    unfold rwr
    by_cases h : n + 1 = m
    · rw [if_pos (.inl h), List.length_cons, ih 0 (by omega), List.length_cons]
      rw [show n + (l.length + 1) + (m - 1) = (0 + l.length + (m - 1)) + m by omega, Nat.add_div_right _ (by omega)]
    · rw [if_neg (by simp [h]), ih (n + 1) (by omega), List.length_cons]
      congr 1
      omega
/-- How many pieces there are. -/
def pcs (n m : Nat) : Nat := (n + m - 1) / m
theorem pcs_of {n m c : Nat} (hm : 1 ≤ m) (h : (c = 0 ∧ n = 0) ∨ (1 ≤ c ∧ (c - 1) * m < n ∧ n ≤ c * m)) : pcs n m = c := by
  unfold pcs
  rcases h with ⟨rfl, rfl⟩ | ⟨h1, h2, h3⟩
  · exact Nat.div_eq_of_lt (by omega)
  · obtain ⟨k, rfl⟩ : ∃ k, c = k + 1 := ⟨c - 1, by omega⟩
    rw [Nat.add_sub_cancel] at h2
    refine Nat.div_eq_of_lt_le ?_ ?_
    · rw [Nat.add_mul]; omega
    · rw [Nat.add_mul, Nat.add_mul] at *; omega
theorem pcs_ge {n m : Nat} (hm : 1 ≤ m) : n ≤ pcs n m * m := by
  unfold pcs
  have := Nat.div_add_mod (n + m - 1) m
  have h2 := Nat.mod_lt (n + m - 1) (show m > 0 by omega)
  rw [Nat.mul_comm] at this
  omega
theorem pcs_le {n m : Nat} (hm : 1 ≤ m) : pcs n m ≤ n := by
  unfold pcs
  refine (Nat.div_le_iff_le_mul_add_pred (by omega)).2 ?_
  have : n ≤ m * n := Nat.le_mul_of_pos_left _ (by omega)
  omega
/-- How many reads there are. -/
def rds (m n have_ : Nat) : Nat := if have_ < n then pcs have_ m + 1 else pcs n m
end Go.Proofs.Ytibnpeipndkciaa

/- Buffers' modes: what the small functions answer. -/
namespace Go.Proofs.Ytibnpeipndkciaa
open Go.RowKit

set_option maxHeartbeats 1000000 in
theorem bref_any (mode size : Int) (w : World) : Calls Try.prog 25 #[.int .i64 mode, .int .i64 size] w fun e w' => e = .returned (.int .i64 (bref mode size)) ∧ w = w' := by
  rcases (show mode < 1 ∨ 3 < mode ∨ (1 ≤ mode ∧ mode ≤ 3 ∧ size < 1) ∨ (1 ≤ mode ∧ mode ≤ 3 ∧ 65536 < size) ∨ (1 ≤ mode ∧ mode ≤ 3 ∧ 1 ≤ size ∧ size ≤ 65536) by omega) with h | h | ⟨h1, h2, h3⟩ | ⟨h1, h2, h3⟩ | ⟨h1, h2, h3, h4⟩
  all_goals
    go_enter Try.func25, Try.ntmps25
    go_wp2
    go_ret
    refine ⟨ret_int ?_, rfl⟩
    unfold bref
    first
    | rw [if_pos (by omega)]
    | rw [if_neg (by omega), if_pos (by omega)]
    | rw [if_neg (by omega), if_neg (by omega)]
set_option maxHeartbeats 1000000 in
theorem rbref_any (mode size : Int) (w : World) : Calls Try.prog 27 #[.int .i64 mode, .int .i64 size] w fun e w' => e = .returned (.int .i64 (bref mode size)) ∧ w = w' := by
  rcases (show mode < 1 ∨ 3 < mode ∨ (1 ≤ mode ∧ mode ≤ 3 ∧ size < 1) ∨ (1 ≤ mode ∧ mode ≤ 3 ∧ 65536 < size) ∨ (1 ≤ mode ∧ mode ≤ 3 ∧ 1 ≤ size ∧ size ≤ 65536) by omega) with h | h | ⟨h1, h2, h3⟩ | ⟨h1, h2, h3⟩ | ⟨h1, h2, h3, h4⟩
  all_goals
    go_enter Try.func27, Try.ntmps27
    go_wp2
    go_ret
    refine ⟨ret_int ?_, rfl⟩
    unfold bref
    first
    | rw [if_pos (by omega)]
    | rw [if_neg (by omega), if_pos (by omega)]
    | rw [if_neg (by omega), if_neg (by omega)]
theorem bref_ok {mode size : Int} (h : bref mode size = 0) : 1 ≤ mode ∧ mode ≤ 3 ∧ 1 ≤ size ∧ size ≤ 65536 := by
  unfold bref at h
  split at h
  · omega
  split at h
  · omega
  omega
theorem bref_zero {mode size : Int} (h : 1 ≤ mode ∧ mode ≤ 3 ∧ 1 ≤ size ∧ size ≤ 65536) : bref mode size = 0 := by
  unfold bref
  rw [if_neg (by omega), if_neg (by omega)]
set_option maxHeartbeats 1000000 in
theorem broom_any (mode size : Int) (w : World) : Calls Try.prog 29 #[.int .i64 mode, .int .i64 size] w fun e w' => e = .returned (.int .i64 (brm mode size)) ∧ w = w' := by
  by_cases h : mode = 1
  · subst h
    go_enter Try.func29, Try.ntmps29
    go_wp2
    go_ret
    exact ⟨ret_int (by unfold brm; rw [if_pos rfl]), rfl⟩
  · have h2 : (mode == 1) = false := by simpa using h
    go_enter Try.func29, Try.ntmps29
    go_wp2
    go_ret
    exact ⟨ret_int (by unfold brm; rw [if_neg h]), rfl⟩
set_option maxHeartbeats 1000000 in
theorem bpieces_any (n m : Nat) (w : World) (hn : n ≤ 1048576) (h1 : 1 ≤ m) (h2 : m ≤ 65536) : Calls Try.prog 30 #[.int .i64 n, .int .i64 m] w fun e w' => e = .returned (.int .i64 (pcs n m)) ∧ w = w' := by
  have h0 : ¬ m = 0 := by omega
  have h3 : ¬ (m : Int) = 0 := by omega
  have h4 : ((m : Int) == 0) = false := by simpa using h3
  have h5 : (m == 0) = false := by simpa using h0
  have hb : ((n : Int) + (m : Int) - 1) / (m : Int) = (pcs n m : Int) := by
    unfold pcs
    rw [Int.natCast_ediv]
    congr 1
    omega
  have hp := pcs_le (n := n) h1
  have hw : wrap64 (((n : Int) + (m : Int) - 1) / (m : Int)) = (pcs n m : Int) := by rw [hb]; unfold wrap64; omega
  have hw2 : IntKind.i64.wrap (((n : Int) + (m : Int) - 1) / (m : Int)) = (pcs n m : Int) := by rw [hb, IntKind.wrap_i64]; omega
  have HW := hide hw
  have HW2 := hide hw2
  have HW3 := hide hb
  clear hw hw2 hb hp
  go_enter Try.func30, Try.ntmps30
  go_wp2
  go_ret
  exact ⟨ret_int (by first | exact HW.out | exact HW2.out | exact HW3.out), rfl⟩
def cntB (n : Int) : Bool := decide (0 ≤ n ∧ n ≤ 1048576)
set_option maxHeartbeats 1000000 in
theorem bcount_any (n : Int) (w : World) : Calls Try.prog 28 #[.int .i64 n] w fun e w' => e = .returned (.bool (cntB n)) ∧ w = w' := by
  rcases (show n < 0 ∨ 1048576 < n ∨ (0 ≤ n ∧ n ≤ 1048576) by omega) with h | h | ⟨h, h2⟩
  all_goals
    go_enter Try.func28, Try.ntmps28
    go_wp2
    go_ret
    refine ⟨ret_bool ?_, rfl⟩
    unfold cntB
    first
    | exact (decide_eq_true (by omega)).symm
    | exact (decide_eq_false (by omega)).symm
    | (rw [decide_eq_false (p := 0 ≤ n ∧ n ≤ 1048576) (by omega)]; exact decide_eq_false (by omega))
theorem idx_lnw (l : List UInt8) : (if 0 ≤ Lib.indexByte l 10 then Lib.indexByte l 10 + 1 else (l.length : Int)) = (lnw l : Int) := by
  induction l with
  | nil => rfl
  | cons c l ih =>
    have hg := Lib.indexByte_ge l 10
    unfold Lib.indexByte lnw
    by_cases h : c = 10
    · subst h
      simp
    · have h2 : (c == 10) = false := by simpa using h
      rw [h2, if_neg h]
      simp only [Bool.false_eq_true, if_false]
      by_cases h3 : Lib.indexByte l 10 = -1
      · rw [h3] at ih ⊢
        simp at ih ⊢
        omega
      · have h4 : (Lib.indexByte l 10 == -1) = false := by simpa using h3
        rw [h4]
        simp only [Bool.false_eq_true, if_false]
        rw [if_pos (by omega)] at ih
        rw [if_pos (by omega)]
        omega
theorem bytesOf_map (l : List UInt8) : Lib.bytesOf (l.map fun c => (c.toNat : Int)) = l := by
  unfold Lib.bytesOf
  rw [List.map_map]
  conv => rhs; rw [← List.map_id l]
  apply List.map_congr_left
  intro c _
  simp
set_option maxHeartbeats 1000000 in
set_option maxRecDepth 100000 in
theorem bindex_any (b o c : Nat) (l : List UInt8) (w : World) (h : ∀ j, j < l.length → w.cell? ⟨b, o + j, none⟩ = some (.int .u8 ((l.getD j 0).toNat : Int))) :
    Calls Try.prog 62 #[.slice (some ⟨b, o, none⟩) l.length c, .int .u8 10] w fun e w' => e = .returned (.int .i64 (Lib.indexByte l 10)) ∧ w' = w := by
  have HR := hide (Lib.run_indexByteSlice (P := Try.prog) w b o l.length c (l.map fun c => (c.toNat : Int)) (by simp) (fun i hi => by
    rw [h i hi]
    congr 2
    simp [List.getD_eq_getElem?_getD, List.getElem?_eq_getElem hi]) 10)
  rw [bytesOf_map, show ((10 : Int).toNat.toUInt8) = (10 : UInt8) from rfl] at HR
  clear h
  go_enter Try.func62, Try.ntmps62
  go_wp2
  rw [run_callFunc_extern Try.func69 (by kernel_rfl) (by kernel_rfl) (by kernel_rfl) (e := Extern.BytealgIndexByte.indexByte) (by kernel_rfl), HR.out]
  simp only [Result.andThen]
  rw [Oper.upon_value]
  go_wp2
  go_ret
  exact ⟨rfl, rfl⟩
set_option maxHeartbeats 1000000 in
theorem bline_any (b o c : Nat) (l : List UInt8) (w : World) (h : ∀ j, j < l.length → w.cell? ⟨b, o + j, none⟩ = some (.int .u8 ((l.getD j 0).toNat : Int))) (hl : l.length ≤ 1048576) :
    Calls Try.prog 46 #[.slice (some ⟨b, o, none⟩) l.length c] w fun e w' => e = .returned (.int .i64 (lnw l)) ∧ w' = w := by
  have HC := hide (bindex_any b o c l w h)
  have hv := idx_lnw l
  have hle := lnw_le l
  clear h
  generalize Lib.indexByte l 10 = q at *
  by_cases hq : 0 ≤ q
  · rw [if_pos hq] at hv
    have hq2 : q ≤ 1048576 := by omega
    have HV := hide hv
    clear hv
    go_enter Try.func46, Try.ntmps46
    go_wp2_with (go_at_call 62; refine HC.out.mono ?_; rintro _ _ ⟨rfl, rfl⟩)
    go_ret
    exact ⟨ret_int HV.out, rfl⟩
  · rw [if_neg hq] at hv
    have HV := hide hv
    clear hv
    go_enter Try.func46, Try.ntmps46
    go_wp2_with (go_at_call 62; refine HC.out.mono ?_; rintro _ _ ⟨rfl, rfl⟩)
    go_ret
    exact ⟨ret_int HV.out, rfl⟩
end Go.Proofs.Ytibnpeipndkciaa

/- What bufmode.lengths hands out, for every loop body: how long the writes are, the first one first. -/
namespace Go.Proofs.Ytibnpeipndkciaa
open Go.RowKit Go.Shelf

attribute [local go_sem] Oper.semAt_some

/-- What a body leaves alone: the boxes, and the text. -/
def LenKp (Bt Bm Bk : Nat) (tv : Value) (t : List UInt8) (W W' : World) : Prop := W'.cell? ⟨Bt, 0, none⟩ = W.cell? ⟨Bt, 0, none⟩ ∧ W'.cell? ⟨Bm, 0, none⟩ = W.cell? ⟨Bm, 0, none⟩ ∧ W'.cell? ⟨Bk, 0, none⟩ = W.cell? ⟨Bk, 0, none⟩ ∧ (Bys W tv t → Bys W' tv t)
theorem take_min_len (l : List UInt8) (m : Nat) : l.take (min m l.length) = l.take m := by
  by_cases h : m ≤ l.length
  · rw [Nat.min_eq_left h]
  · rw [Nat.min_eq_right (by omega), List.take_length, List.take_of_length_le (by omega)]

set_option maxRecDepth 100000 in
set_option maxHeartbeats 2000000 in
theorem len1_in (f : Nat) (hn : 1 ≤ f) (l Bt Bm Bk : Nat) (mode : Int) (m : Nat) (ta : Option Addr) (tc : Nat) (t : List UInt8) (hm1 : 1 ≤ m) (hm2 : m ≤ 65536) (htc : t.length ≤ tc) (htl : t.length ≤ 1048576) (J Jx : List Nat → World → Prop)
    (hY : ∀ (pre : List Nat) (x : Nat) (W : World), J pre W → pre.length < t.length + 1 → YieldAt Fence.wide (f - 1) Try.prog l #[.int .i64 (x : Int)] W fun e W' =>
      (e = .returned (.bool true) ∧ J (pre ++ [x]) W' ∧ LenKp Bt Bm Bk (.slice ta t.length tc) t W W') ∨ (e = .returned (.bool false) ∧ Jx (pre ++ [x]) W'))
    (W : World) (hct : W.cell? ⟨Bt, 0, none⟩ = some (.slice ta t.length tc)) (hcm : W.cell? ⟨Bm, 0, none⟩ = some (.int .i64 m)) (hck : W.cell? ⟨Bk, 0, none⟩ = some (.int .i64 mode)) (hb : Bys W (.slice ta t.length tc) t) (h0 : J [] W) :
    CallsIn Fence.wide f Try.prog 45 #[.func (.yield l) #[] #[], .pointer (some ⟨Bt, 0, none⟩), .pointer (some ⟨Bm, 0, none⟩), .pointer (some ⟨Bk, 0, none⟩)] W fun e W' => (∃ v, e = .returned v) ∧
      (J (rwr (decide (mode = 2)) m 0 t) W' ∨ (∃ pre, pre <+: rwr (decide (mode = 2)) m 0 t ∧ Jx pre W')) := by
  obtain ⟨b, off, hbo⟩ : ∃ b off, 0 < t.length → ta = some ⟨b, off, none⟩ := by
    by_cases h : 0 < t.length
    · obtain ⟨-, qb, qo, e, -⟩ := bys_block hb h
      exact ⟨qb, qo, fun _ => e⟩
    · exact ⟨0, 0, fun h' => absurd h' h⟩
  obtain ⟨R, hR⟩ : ∃ R, R = rwr (decide (mode = 2)) m 0 t := ⟨_, rfl⟩
  have hRl : R.length ≤ t.length := by rw [hR]; have := rwr_len_le (decide (mode = 2)) m t 0 (by omega); omega
  rw [← hR]
  have HR := hide hR
  have HBO := hide hbo
  have HB0 := hide hb
  clear hR hbo hb
  refine callsIn_of_wp Try.func45 rfl trivial ?_ rfl
  simp only [Try.ntmps45, List.size_toArray, List.length_cons, List.length_nil, Nat.reduceAdd, Nat.reduceSub, Array.replicate_succ, Array.replicate_zero, List.push_toArray, List.append_toArray, List.nil_append, List.cons_append]
  gi_wp2
  gi_loopw [5] (fun r wr => ∃ (d : Nat) (ra : Option Addr) (rc : Nat) (pre : List Nat), d ≤ t.length ∧ r = .slice ra (t.length - d) rc ∧ t.length - d ≤ rc ∧ Hid (d < t.length → ra = some ⟨b, off + d, none⟩) ∧ J pre wr ∧ Hid (pre ++ rwr (decide (mode = 2)) m 0 (t.drop d) = R) ∧ wr.cell? ⟨Bt, 0, none⟩ = some (.slice ta t.length tc) ∧ wr.cell? ⟨Bm, 0, none⟩ = some (.int .i64 m) ∧ wr.cell? ⟨Bk, 0, none⟩ = some (.int .i64 mode) ∧ Hid (Bys wr (.slice ta t.length tc) t)) (fun r _ => (match r with | .slice _ n _ => n | _ => 0))
  case atStart => exact ⟨0, ta, tc, [], Nat.zero_le _, by simp, by simpa using htc, hide (fun h => by rw [HBO.out h]; rfl), h0, hide (by rw [HR.out]; rfl), hct, hcm, hck, HB0⟩
  case round =>
    clear hct hcm hck h0 HB0
    obtain ⟨d, ra, rc, pre, hd, rfl, hrc, HA, hJ, HP, hct, hcm, hck, HB⟩ := hrel
    by_cases hlt : d < t.length
    case neg =>
      obtain rfl : d = t.length := by omega
      have e0 : t.length - t.length = 0 := by omega
      rw [e0]
      rw [e0] at hrc
      gi_wp2
      go_end0
      refine ⟨⟨_, rfl⟩, .inl ?_⟩
      have := HP.out
      rw [List.drop_length, rwr_nil, List.append_nil] at this
      rw [← this]
      exact hJ
    obtain rfl := HA.out hlt
    obtain ⟨L, hL⟩ : ∃ L, L = t.length - d := ⟨_, rfl⟩
    have hdl : (t.drop d).length = L := by rw [List.length_drop, hL]
    have hne : t.drop d ≠ [] := fun e => by rw [e] at hdl; simp at hdl; omega
    have hst := rwr_step (decide (mode = 2)) m (t.drop d) 0 (by omega) hne
    obtain ⟨k1, k2, k3⟩ := chk_pos (decide (mode = 2)) m (t.drop d) hm1 hne
    rw [Nat.sub_zero, Nat.zero_add, List.drop_drop] at hst
    have hlen : pre.length < t.length + 1 := by
      have h1 := congrArg List.length HP.out
      rw [List.length_append] at h1
      omega
    rw [hdl] at k3
    obtain ⟨m0, hm0⟩ : ∃ m0, m0 = min m L := ⟨_, rfl⟩
    have hmin : min (m : Int) (L : Int) = (m0 : Int) := by omega
    have hcut : ∀ j, j < ((t.drop d).take m0).length → wr.cell? ⟨b, off + d + j, none⟩ = some (.int .u8 ((((t.drop d).take m0).getD j 0).toNat : Int)) := by
      obtain ⟨-, qb, qo, e, -, hc⟩ := bys_block HB.out (by omega)
      cases (HBO.out (by omega)).symm.trans e
      intro j hj
      rw [List.length_take, hdl] at hj
      rw [Nat.add_assoc, hc (d + j) (by omega)]
      congr 3
      simp only [List.getD_eq_getElem?_getD, List.getElem?_take, List.getElem?_drop]
      rw [if_pos (by omega)]
    have htk : ((t.drop d).take m0).length = m0 := by rw [List.length_take, hdl]; omega
    have hck2 : mode = 2 → lnw ((t.drop d).take m0) = chk (decide (mode = 2)) m (t.drop d) := fun e => by
      unfold chk
      rw [if_pos (by simpa using e), hm0, ← hdl, take_min_len]
    have hck3 : ¬ mode = 2 → m0 = chk (decide (mode = 2)) m (t.drop d) := fun e => by
      unfold chk
      rw [if_neg (by simpa using e), hm0, hdl]
    have HCk2 := hide hck2
    have HCk3 := hide hck3
    have HLw := hide (fun W' (hc : ∀ j, j < ((t.drop d).take m0).length → W'.cell? ⟨b, off + d + j, none⟩ = some (.int .u8 ((((t.drop d).take m0).getD j 0).toNat : Int))) => bline_any b (off + d) rc ((t.drop d).take m0) W' hc (by omega))
    rw [htk] at HLw
    rw [htk] at hcut
    have HCu := hide hcut
    have HSt := hide hst
    have hL0 : 0 < L := by omega
    have hLr : L ≤ rc := by omega
    have hm0L : m0 ≤ L := by omega
    have hm01 : 1 ≤ m0 := by omega
    have hLm : L ≤ 1048576 := by omega
    rw [← hL]
    have HL := hide hL
    generalize hkk : chk (decide (mode = 2)) m (t.drop d) = k at *
    have HKk := hide hkk
    obtain ⟨fn, tmps, assign, body, hy, hYR⟩ := hY pre k wr hJ hlen
    clear hst hL hkk hcut hck2 hck3 hdl hne htk hm0 hY hd hrc hlt hRl
    have hgt : (0 : Int) < (L : Int) := by omega
    have hkp : (1 : Int) ≤ (k : Int) := by omega
    have hkr : (k : Int) ≤ (rc : Int) := by omega
    have hmr : (m0 : Int) ≤ (rc : Int) := by omega
    have HN : Hid (∀ W3, J (pre ++ [k]) W3 → LenKp Bt Bm Bk (.slice ta t.length tc) t wr W3 → ∀ ra' rc', (d + k < t.length → ra' = some ⟨b, off + d + k, none⟩) → L - k ≤ rc' →
        ∃ (d1 : Nat) (ra : Option Addr) (rc : Nat) (pre : List Nat), d1 ≤ t.length ∧ Value.slice ra' (L - k) rc' = .slice ra (t.length - d1) rc ∧ t.length - d1 ≤ rc ∧ Hid (d1 < t.length → ra = some ⟨b, off + d1, none⟩) ∧ J pre W3 ∧ Hid (pre ++ rwr (decide (mode = 2)) m 0 (t.drop d1) = R) ∧ W3.cell? ⟨Bt, 0, none⟩ = some (.slice ta t.length tc) ∧ W3.cell? ⟨Bm, 0, none⟩ = some (.int .i64 m) ∧ W3.cell? ⟨Bk, 0, none⟩ = some (.int .i64 mode) ∧ Hid (Bys W3 (.slice ta t.length tc) t)) := hide (by
      have hL := HL.out
      intro W3 hJ3 hK3 ra' rc' h1 h2
      refine ⟨d + k, ra', rc', pre ++ [k], by omega, by rw [show t.length - (d + k) = L - k by omega], by omega, hide (fun h => by rw [h1 h, Nat.add_assoc]), hJ3, hide ?_, hK3.1.trans hct, hK3.2.1.trans hcm, hK3.2.2.1.trans hck, hide (hK3.2.2.2 HB.out)⟩
      have := HP.out
      rw [HSt.out] at this
      rw [List.append_assoc]
      exact this)
    have HX : Hid (pre ++ [k] <+: R) := hide (by
      have := HP.out
      rw [HSt.out] at this
      exact ⟨_, by rw [List.append_assoc]; exact this⟩)
    have hdk : d + k < t.length ↔ k < L := by have := HL.out; omega
    have HDk := hide hdk
    clear hdk
    by_cases h2 : mode = 2
    · have hb2 : (mode == 2) = true := by simpa using h2
      have HLk := hide (HCk2.out h2)
      clear h2
      gi_wp2
      refine ⟨trivial, ?_⟩
      refine (callsIn_wide.2 (HLw.out _ HCu.out)).mono ?_
      rintro e w' ⟨rfl, rfl⟩
      rw [HLk.out]
      gi_wp2
      refine hYR.mono ?_
      rintro e W3 (⟨rfl, hJ3, hK3⟩ | ⟨rfl, hJx3⟩)
      · have HN3 := hide (HN.out W3 hJ3 hK3)
        clear hJ3 hK3 hYR hy
        by_cases hc : rc = k
        · gi_wp2
          go_roundw
          case rel => exact HN3.out _ _ (fun h => by have := HDk.out.1 h; omega) (by omega)
          case measure => show L - k < L; omega
        · gi_wp2
          go_roundw
          case rel => exact HN3.out _ _ (fun h => rfl) (by omega)
          case measure => show L - k < L; omega
      · gi_wp2
        refine bodyPost_ret (results_none rfl _ _ _) rfl ?_
        exact ⟨⟨_, rfl⟩, .inr ⟨pre ++ [k], HX.out, hJx3⟩⟩
    · have hb2 : (mode == 2) = false := by simpa using h2
      have hmk := HCk3.out h2
      subst hmk
      clear h2
      gi_wp2
      refine hYR.mono ?_
      rintro e W3 (⟨rfl, hJ3, hK3⟩ | ⟨rfl, hJx3⟩)
      · have HN3 := hide (HN.out W3 hJ3 hK3)
        clear hJ3 hK3 hYR hy
        by_cases hc : rc = m0
        · gi_wp2
          go_roundw
          case rel => exact HN3.out _ _ (fun h => by have := HDk.out.1 h; omega) (by omega)
          case measure => show L - m0 < L; omega
        · gi_wp2
          go_roundw
          case rel => exact HN3.out _ _ (fun h => rfl) (by omega)
          case measure => show L - m0 < L; omega
      · gi_wp2
        refine bodyPost_ret (results_none rfl _ _ _) rfl ?_
        exact ⟨⟨_, rfl⟩, .inr ⟨pre ++ [m0], HX.out, hJx3⟩⟩
set_option maxHeartbeats 1000000 in
/-- lengths: three boxes; the function value captures them. -/
theorem lengths_in (f : Nat) (hf : 1 ≤ f) (mode size : Int) (ta : Option Addr) (tn tc : Nat) (w : World) :
    CallsIn Fence.wide f Try.prog 26 #[.int .i64 mode, .int .i64 size, .slice ta tn tc] w fun e w' => e = .returned (.func (.func 45) #[] #[.pointer (some ⟨w.heap.size + 1, 0, none⟩), .pointer (some ⟨w.heap.size + 2, 0, none⟩), .pointer (some ⟨w.heap.size, 0, none⟩)]) ∧
      Boxed w' w.heap.size 3 (.int .i64 mode) ∧ Boxed w' (w.heap.size + 1) 22 (.slice ta tn tc) ∧ Boxed w' (w.heap.size + 2) 3 (.int .i64 (brm mode size)) ∧ w'.heap.size = w.heap.size + 3 ∧ Below w.heap.size w w' := by
  refine callsIn_of_wp Try.func26 rfl trivial ?_ rfl
  simp only [Try.ntmps26, List.size_toArray, List.length_cons, List.length_nil, Nat.reduceAdd, Nat.reduceSub, Array.replicate_succ, Array.replicate_zero, List.push_toArray, List.append_toArray, List.nil_append, List.cons_append]
  gi_wp2
  refine ⟨trivial, ?_⟩
  refine (callsIn_wide.2 (broom_any mode size _)).mono ?_
  rintro e w' ⟨rfl, rfl⟩
  gi_wp2
  have b1 := ((Boxed.new w 3 (.int .i64 mode)).alloc (.cells #[.slice ta tn tc] 22)).alloc (.cells #[.int .i64 (brm mode size)] 3)
  have b2 := Boxed.new (w.alloc (.cells #[.int .i64 mode] 3)) 22 (.slice ta tn tc)
  rw [World.size_alloc] at b2
  have b2 := b2.alloc (.cells #[.int .i64 (brm mode size)] 3)
  have b3 := Boxed.new ((w.alloc (.cells #[.int .i64 mode] 3)).alloc (.cells #[.slice ta tn tc] 22)) 3 (.int .i64 (brm mode size))
  rw [World.size_alloc, World.size_alloc] at b3
  go_ret
  refine ⟨rfl, b1, b2, b3, by simp, ?_⟩
  exact (((Below.refl _ w).alloc (Nat.le_refl _) _).alloc (by simp) _).alloc (by simp; omega) _
theorem lengths_stops (f : Nat) (hn : 1 ≤ f) (Bt Bm Bk : Nat) (mode : Int) (m : Nat) (ta : Option Addr) (tc : Nat) (t : List UInt8) (hm1 : 1 ≤ m) (hm2 : m ≤ 65536) (htc : t.length ≤ tc) (htl : t.length ≤ 1048576) (w : World) (hBt : Bt < w.heap.size) (hBm : Bm < w.heap.size) (hBk : Bk < w.heap.size)
    (hct : w.cell? ⟨Bt, 0, none⟩ = some (.slice ta t.length tc)) (hcm : w.cell? ⟨Bm, 0, none⟩ = some (.int .i64 m)) (hck : w.cell? ⟨Bk, 0, none⟩ = some (.int .i64 mode)) (hb : Bys w (.slice ta t.length tc) t) :
    SeqStopsK Fence.wide f Try.prog 45 #[.pointer (some ⟨Bt, 0, none⟩), .pointer (some ⟨Bm, 0, none⟩), .pointer (some ⟨Bk, 0, none⟩)] (fun x : Nat => #[Value.int .i64 (x : Int)]) (LenKp Bt Bm Bk (.slice ta t.length tc) t) (fun ys => ys = rwr (decide (mode = 2)) m 0 t) (fun pre => pre <+: rwr (decide (mode = 2)) m 0 t) (t.length + 1) w := fun l J Jx W hW _ _ hY h0 =>
  (len1_in f hn l Bt Bm Bk mode m ta tc t hm1 hm2 htc htl J Jx hY W ((hW.cell (p := ⟨Bt, 0, none⟩) hBt).trans hct) ((hW.cell (p := ⟨Bm, 0, none⟩) hBm).trans hcm) ((hW.cell (p := ⟨Bk, 0, none⟩) hBk).trans hck) (hb.below hW) h0).mono fun _ _ ⟨h1, h2⟩ => ⟨h1, h2.imp (fun h => ⟨_, rfl, h⟩) id⟩
end Go.Proofs.Ytibnpeipndkciaa

/- What bufmode.Writes answers, for every mode, size and text: how long the writes are, in memory of its own. -/
namespace Go.Proofs.Ytibnpeipndkciaa
open Go.RowKit Go.Shelf

attribute [local go_sem] Oper.semAt_some

/-- Numbers as cells. -/
def nvs (l : List Nat) : List Value := l.map fun i : Nat => Value.int .i64 (i : Int)
theorem bcell_putObj {W : World} {l : Nat} {o' : Obj} {b off : Nat} (h : b ≠ l) : (W.putObj l o').cell? ⟨b, off, none⟩ = W.cell? ⟨b, off, none⟩ := by
  simp only [World.cell?]
  rw [World.putObj_heap_other h]
theorem Try.infoI : (Try.prog.info? 3).map (fun i => (i.zero, i.size, i.bytes)) = some (some (.int .i64 0), 1, 8) := by kernel_rfl
theorem bys_put {W : World} {l : Nat} {o' : Obj} {v : Value} {t : List UInt8} {n0 : Nat} (h : Bys W v t) (hv : ∀ k, v.ownBlock = some k → 0 < t.length → k < n0) (hl : n0 ≤ l) : Bys (W.putObj l o') v t := by
  rcases h with h | h | ⟨b, off, cap, rfl, h0, hc⟩
  · exact .inl h
  · exact .inr (.inl h)
  · have := hv b rfl h0
    exact .inr (.inr ⟨b, off, cap, rfl, h0, fun j hj => (bcell_putObj (by omega)).trans (hc j hj)⟩)

set_option maxRecDepth 100000 in
set_option maxHeartbeats 4000000 in
theorem bwrites_in (f : Nat) (hf : 3 ≤ f) (mode size : Int) (ta : Option Addr) (tc : Nat) (t : List UInt8) (hok : bref mode size = 0) (htl : t.length ≤ 1048576) (htc : t.length ≤ tc) (w : World) (hb : Bys w (.slice ta t.length tc) t) :
    CallsIn Fence.wide f Try.prog 8 #[.int .i64 mode, .int .i64 size, .slice ta t.length tc] w fun e w' => ∃ v, e = .returned (.tuple #[v, .int .i64 0]) ∧ w'.ownsRow w.heap.size 3 1 v (rwr (decide (mode = 2)) (brm mode size).toNat 0 t).length (nvs (rwr (decide (mode = 2)) (brm mode size).toNat 0 t)) ∧ Below w.heap.size w w' := by
  have h1 : 1 ≤ f := by omega
  obtain ⟨i0, hi, hz0, hz1, hz2⟩ := info_parts Try.infoI
  have hmx : Try.prog.follows .mixedOrders = true := by kernel_rfl
  obtain ⟨q1, q2, q3, q4⟩ := bref_ok hok
  have hbm : 1 ≤ brm mode size ∧ brm mode size ≤ 65536 := by unfold brm; split <;> omega
  obtain ⟨m, hm⟩ : ∃ m : Nat, brm mode size = (m : Int) := ⟨(brm mode size).toNat, by omega⟩
  have hm1 : 1 ≤ m := by omega
  have hm2 : m ≤ 65536 := by omega
  have HLi := fun W => lengths_in (f - 1) (by omega) mode size ta t.length tc W
  rw [hm] at HLi
  have hmt : (brm mode size).toNat = m := by omega
  rw [hmt]
  have HLi := hide HLi
  have hle : ¬ (1048576 : Int) < (t.length : Int) := by omega
  have HBr := hide (fun W => bref_any mode size W)
  rw [hok] at HBr
  clear hm hmt hbm hok
  refine callsIn_of_wp_marks Try.func8 rfl trivial ?_ rfl
  simp only [Try.ntmps8, List.size_toArray, List.length_cons, List.length_nil, Nat.reduceAdd, Nat.reduceSub, Array.replicate_succ, Array.replicate_zero, List.push_toArray, List.append_toArray, List.nil_append, List.cons_append]
  gi_wp2
  refine ⟨trivial, (callsIn_wide.2 (HBr.out _)).mono ?_⟩
  rintro _ _ ⟨rfl, rfl⟩
  gi_wp2
  refine ⟨trivial, (HLi.out _).mono ?_⟩
  rintro _ W1 ⟨rfl, bk, bt, bm, hz, hB1⟩
  rw [World.size_alloc] at bk bt bm hz
  have bO := Boxed.new w 23 (.slice none 0 0)
  have bO1 : Boxed W1 w.heap.size 23 (.slice none 0 0) := (hB1.block _ bO.lt).trans bO
  have hB0 : Below w.heap.size w W1 := ((Below.refl _ w).alloc (Nat.le_refl _) _).trans (hB1.mono (by simp))
  have hob : ∀ k, (Value.slice ta t.length tc).ownBlock = some k → 0 < t.length → k < w.heap.size := fun k e h0 => by
    obtain ⟨-, qb, qo, rfl, hl, -⟩ := bys_block hb h0
    cases e
    exact hl
  have hRl := rwr_len_le (decide (mode = 2)) m t 0 (by omega)
  have hsz : (w.alloc (.cells #[.slice none 0 0] 23)).heap.size = w.heap.size + 1 := World.size_alloc _ _
  simp only [hsz]
  gi_wp2
  refine wpIn_rangeFunc_ownG rfl h1 (gf := 45) (lb := #[.pointer (some ⟨w.heap.size + 1 + 1, 0, none⟩), .pointer (some ⟨w.heap.size + 1 + 2, 0, none⟩), .pointer (some ⟨w.heap.size + 1, 0, none⟩)]) rfl trivial (enters_of Try.func45 (by kernel_rfl) rfl)
    (lengths_stops (f - 1) (by omega) (w.heap.size + 1 + 1) (w.heap.size + 1 + 2) (w.heap.size + 1) mode m ta tc t hm1 hm2 htc htl W1 (by omega) (by omega) (by omega) bt.cell bm.cell bk.cell (hb.below hB0)) (fun h1 h2 => ⟨h2.1.trans h1.1, h2.2.1.trans h1.2.1, h2.2.2.1.trans h1.2.2.1, fun h => h2.2.2.2 (h1.2.2.2 h)⟩)
    (fun W l o o' hl _ _ _ => ⟨bcell_putObj (by omega), bcell_putObj (by omega), bcell_putObj (by omega), fun h => bys_put h hob (by omega)⟩) (Below.refl _ _) (fun _ => rfl)
    (fun (pre : List Nat) W => ((((∃ v, Boxed W w.heap.size 23 v ∧ W.ownsRow (w.heap.size + 4) 3 1 v pre.length (nvs pre) ∧ True) ∧ Boxed W (w.heap.size + 1 + 1) 22 (.slice ta t.length tc)) ∧ Boxed W (w.heap.size + 1 + 2) 3 (.int .i64 m)) ∧ Boxed W (w.heap.size + 1) 3 (.int .i64 mode)) ∧ Below w.heap.size w W)
    (fun _ _ _ => False)
    (OwnFrom.and (OwnFrom.and (OwnFrom.and (OwnFrom.and (Own.from (holdsRow_own (w.heap.size + 4) w.heap.size 23 3 1 (fun pre : List Nat => pre.length) (fun pre => nvs pre) (fun _ _ => True)) _) (Own.from (boxed_own _ _ _) _)) (Own.from (boxed_own _ _ _) _)) (Own.from (boxed_own _ _ _) _)) (ownFrom_below (Nat.le_refl _) (by omega)))
    (fun _ _ _ _ _ hs _ _ => hs)
    ⟨⟨⟨⟨⟨_, bO1, World.ownsRow_nil _ _ _ _, trivial⟩, bt⟩, bm⟩, bk⟩, hB0⟩
    (fun x => { tmps := #[.int .i64 mode, .int .i64 size, .slice ta t.length tc, undef, undef, undef, .slice none 0 0, .int .i64 0, .int .i64 0, .pointer (some ⟨w.heap.size, 0, none⟩), .int .i64 (x : Int), .int .i64 mode, .int .i64 size, .int .i64 0, .int .i64 0, .bool false, undef, .slice ta t.length tc, .int .i64 t.length, .bool (decide ((1048576 : Int) < (t.length : Int))), .int .i64 mode, .int .i64 size, .slice ta t.length tc, .func (.func 45) #[] #[.pointer (some ⟨w.heap.size + 1 + 1, 0, none⟩), .pointer (some ⟨w.heap.size + 1 + 2, 0, none⟩), .pointer (some ⟨w.heap.size + 1, 0, none⟩)], .int .i64 (x : Int), undef, undef, undef, undef, undef], defers := [] }) ?assign ?body ?done ?stop
  case assign =>
    intro l x W K hK
    gi_wp2
    exact hK
  case body =>
    rintro l pre x W ⟨⟨⟨⟨⟨v, hv, hrow, -⟩, hbt⟩, hbm⟩, hbk⟩, hB⟩ hlt'
    have hc := hv.cell
    have hcA := fun o => (hv.alloc o).cell
    have hpl : (nvs pre).length = pre.length := List.length_map _
    have hpre : pre.length ≤ 1048577 := by omega
    have hrow0 := owns_mono hrow (show w.heap.size ≤ w.heap.size + 4 by omega)
    have hzW : w.heap.size + 4 ≤ W.heap.size := by have := hbm.lt; omega
    gi_wp2_with (gi_at_builtin; refine wpListIn_append_own _ rfl _ _ 23 rfl (w.heap.size + 4) 3 i0 (.int .i64 0) 1 8 Try.underlying23 hi hz0 hz1 hz2 rfl (by decide) _ _ _ rfl (hrow.alloc _) ⟨W.heap.size, 0, none⟩ 1 1 [.int .i64 (x : Int)] rfl rfl (cell_one_new _ _ _) (by simp [Value.oneCell']) (by unfold maxLen; omega) (by omega) (by simp; omega) ?_; intro v' w1 hown' hgrow _; obtain ⟨g', cap', rfl⟩ := ownsRow_succ hown'; have hgrow' : (W.alloc (.cells #[.int .i64 (x : Int)] 3)).grownBy w1 v.ownBlock := hgrow; obtain ⟨hv1, hv2, hr2, hk2, hb2⟩ := hv.appended (by decide) hrow0 hB.size (Nat.le_refl _) (owns_mono hown' (show w.heap.size ≤ w.heap.size + 4 by omega)) hgrow'; have hc1 := hv1.cell; have hf1 := hv1.frozen)
    have hr3 := hown'.kept (grownBy_setCell' w1 w.heap.size (.slice (some ⟨g', 0, none⟩) (pre.length + 1) cap')) (.inr (hv1.not_row (by decide) hown').symm)
    have hbt1 := ((hbt.alloc (.cells #[.int .i64 (x : Int)] 3)).kept hgrow' (hbt.not_row (by decide) hrow)).other (B' := w.heap.size) (by omega) (.slice (some ⟨g', 0, none⟩) (pre.length + 1) cap')
    have hbm1 := ((hbm.alloc (.cells #[.int .i64 (x : Int)] 3)).kept hgrow' (fun e => by have := (hrow.lt _ e.symm).1; omega)).other (B' := w.heap.size) (by omega) (.slice (some ⟨g', 0, none⟩) (pre.length + 1) cap')
    have hbk1 := ((hbk.alloc (.cells #[.int .i64 (x : Int)] 3)).kept hgrow' (fun e => by have := (hrow.lt _ e.symm).1; omega)).other (B' := w.heap.size) (by omega) (.slice (some ⟨g', 0, none⟩) (pre.length + 1) cap')
    exact ⟨hk2.from _, ⟨hbt1.cell.trans hbt.cell.symm, hbm1.cell.trans hbm.cell.symm, hbk1.cell.trans hbk.cell.symm, fun h => (hb.below (hB.trans hb2))⟩, ⟨⟨⟨⟨_, hv2, by simpa [nvs] using hr3, trivial⟩, hbt1⟩, hbm1⟩, hbk1⟩, hB.trans hb2⟩
  case done =>
    rintro D ys W hD rfl ⟨⟨⟨⟨⟨v, hv, hrow, -⟩, hbt⟩, hbm⟩, hbk⟩, hB⟩ hK
    have hc := hv.cell
    gi_wp2
    refine ⟨by simp, .inl ⟨_, _, rfl, run_takeDeferred hK, ?_⟩⟩
    refine ⟨.tuple #[v, .int .i64 0], ?_, v, rfl, owns_mono (ownsRow_putObj hrow _ hK rfl) (show w.heap.size ≤ w.heap.size + 4 by omega), hB.trans (belowK_b (w := w) (Nat.le_refl _) W D _ _ (by omega) hK rfl rfl)⟩
    simp [results, Try.f8, go_sem]
  case stop =>
    rintro D c pre W _ _ h _
    exact h.elim
end Go.Proofs.Ytibnpeipndkciaa

/- What bufmode's Writes and Reads and the reference's answer, for every input. -/
namespace Go.Proofs.Ytibnpeipndkciaa
open Go.RowKit

def bwE (mode size : Int) (t : List UInt8) : Int := if bref mode size ≠ 0 then bref mode size else if 1048576 < t.length then 5 else 0
def bwL (mode size : Int) (t : List UInt8) : List Nat := if bwE mode size t = 0 then rwr (decide (mode = 2)) (brm mode size).toNat 0 t else []
theorem bwE_ok {mode size : Int} {t : List UInt8} (h : bwE mode size t = 0) : bref mode size = 0 ∧ t.length ≤ 1048576 := by
  unfold bwE at h
  split at h
  · contradiction
  split at h
  · omega
  rename_i h1 h2
  exact ⟨by simpa using h1, by omega⟩
theorem brm_nat {mode size : Int} (h : bref mode size = 0) : ∃ m : Nat, brm mode size = (m : Int) ∧ (brm mode size).toNat = m ∧ 1 ≤ m ∧ m ≤ 65536 := by
  obtain ⟨q1, q2, q3, q4⟩ := bref_ok h
  have hbm : 1 ≤ brm mode size ∧ brm mode size ≤ 65536 := by unfold brm; split <;> omega
  exact ⟨(brm mode size).toNat, by omega, rfl, by omega, by omega⟩
theorem bwL_len {mode size : Int} {t : List UInt8} : (bwL mode size t).length ≤ 1048576 := by
  unfold bwL
  split
  · rename_i h
    obtain ⟨h1, h2⟩ := bwE_ok h
    obtain ⟨m, -, h3, h4, -⟩ := brm_nat h1
    rw [h3]
    have := rwr_len_le (decide (mode = 2)) m t 0 (by omega)
    omega
  · simp
set_option maxRecDepth 100000 in
set_option maxHeartbeats 1000000 in
theorem bwrites_any (mode size : Int) (ta : Option Addr) (tc : Nat) (t : List UInt8) (htc : t.length ≤ tc) (w : World) (hb : Bys w (.slice ta t.length tc) t) :
    Calls Try.prog 8 #[.int .i64 mode, .int .i64 size, .slice ta t.length tc] w fun e w' => ∃ v, e = .returned (.tuple #[v, .int .i64 (bwE mode size t)]) ∧ w'.ownsRow w.heap.size 3 1 v (bwL mode size t).length (nvs (bwL mode size t)) ∧ Below w.heap.size w w' := by
  by_cases h1 : bref mode size = 0
  · by_cases h2 : 1048576 < t.length
    · have h3 : bwE mode size t = 5 := by unfold bwE; rw [if_neg (by simpa using h1), if_pos h2]
      have h4 : bwL mode size t = [] := by unfold bwL; rw [h3, if_neg (by decide)]
      rw [h3, h4]
      have h5 : (1048576 : Int) < (t.length : Int) := by omega
      have HB := hide (fun W => bref_any mode size W)
      rw [h1] at HB
      clear h1 h2 h3 h4 hb
      go_enter Try.func8, Try.ntmps8
      go_wp2_with (go_at_call 25; refine (HB.out _).mono ?_; rintro _ _ ⟨rfl, rfl⟩)
      go_ret2
      exact ⟨_, rfl, World.ownsRow_nil _ _ _ _, Below.refl _ _⟩
    · have h3 : bwE mode size t = 0 := by unfold bwE; rw [if_neg (by simpa using h1), if_neg h2]
      have h4 : bwL mode size t = rwr (decide (mode = 2)) (brm mode size).toNat 0 t := by unfold bwL; rw [h3, if_pos rfl]
      rw [h3, h4]
      exact callsIn_wide.1 (bwrites_in 3 (Nat.le_refl _) mode size ta tc t h1 (by omega) htc w hb)
  · have h3 : bwE mode size t = bref mode size := by unfold bwE; rw [if_pos h1]
    have h4 : bwL mode size t = [] := by unfold bwL; rw [h3, if_neg h1]
    rw [h3, h4]
    have HB := hide (fun W => bref_any mode size W)
    generalize bref mode size = q at *
    have h5 : (q == 0) = false := by simpa using h1
    have h6 : (q != 0) = true := by simpa using h1
    clear h3 h4 hb
    go_enter Try.func8, Try.ntmps8
    go_wp2_with (go_at_call 25; refine (HB.out _).mono ?_; rintro _ _ ⟨rfl, rfl⟩)
    go_ret2
    exact ⟨_, rfl, World.ownsRow_nil _ _ _ _, Below.refl _ _⟩
set_option maxRecDepth 100000 in
set_option maxHeartbeats 4000000 in
theorem rbwrites_any (mode size : Int) (ta : Option Addr) (tc : Nat) (t : List UInt8) (w : World) (hb : Bys w (.slice ta t.length tc) t) (htt : t.length ≤ 140737488351232) :
    Calls Try.prog 9 #[.int .i64 mode, .int .i64 size, .slice ta t.length tc] w fun e w' => ∃ v, e = .returned (.tuple #[v, .int .i64 (bwE mode size t)]) ∧ w'.ownsRow w.heap.size 3 1 v (bwL mode size t).length (nvs (bwL mode size t)) ∧ Below w.heap.size w w' := by
  obtain ⟨i0, hi, hz0, hz1, hz2⟩ := info_parts Try.infoI
  by_cases h1 : bref mode size = 0
  · by_cases h2 : 1048576 < t.length
    · have h3 : bwE mode size t = 5 := by unfold bwE; rw [if_neg (by simpa using h1), if_pos h2]
      have h4 : bwL mode size t = [] := by unfold bwL; rw [h3, if_neg (by decide)]
      rw [h3, h4]
      have h5 : (1048576 : Int) < (t.length : Int) := by omega
      have HB := hide (fun W => rbref_any mode size W)
      rw [h1] at HB
      clear h1 h2 h3 h4 hb
      go_enter Try.func9, Try.ntmps9
      go_wp2_with (go_at_call 27; refine (HB.out _).mono ?_; rintro _ _ ⟨rfl, rfl⟩)
      go_ret2
      exact ⟨_, rfl, World.ownsRow_nil _ _ _ _, Below.refl _ _⟩
    · have h3 : bwE mode size t = 0 := by unfold bwE; rw [if_neg (by simpa using h1), if_neg h2]
      have h4 : bwL mode size t = rwr (decide (mode = 2)) (brm mode size).toNat 0 t := by unfold bwL; rw [h3, if_pos rfl]
      rw [h3, h4]
      obtain ⟨m, hm, hmt, hm1, hm2⟩ := brm_nat h1
      rw [hmt]
      have HB := hide (fun W => rbref_any mode size W)
      rw [h1] at HB
      obtain ⟨q1, q2, q3, q4⟩ := bref_ok h1
      obtain ⟨R, hR⟩ : ∃ R, R = rwr (decide (mode = 2)) m 0 t := ⟨_, rfl⟩
      have hRl : R.length ≤ 1048576 := by rw [hR]; have := rwr_len_le (decide (mode = 2)) m t 0 (by omega); omega
      rw [← hR]
      have HR := hide hR
      have HBy := hide hb
      have HM := hide hm
      have hle : ¬ (1048576 : Int) < (t.length : Int) := by omega
      clear hR hb h1 h2 h3 h4 hm hmt
      go_enter Try.func9, Try.ntmps9
      go_wp2_with (go_at_call 27; refine (HB.out _).mono ?_; rintro _ _ ⟨rfl, rfl⟩)
      go_loopw [9, 10, 11] (fun o n i wr => ∃ (k j : Nat) (p : List Nat), k ≤ t.length ∧ i = .int .i64 k ∧ n = .int .i64 j ∧ j < m ∧ Hid (p ++ rwr (decide (mode = 2)) m j (t.drop k) = R) ∧ Hid (wr.ownsRow w.heap.size 3 1 o p.length (nvs p)) ∧ p.length ≤ k ∧ Hid (Below w.heap.size w wr)) (fun _ _ i _ => t.length - (intOf i).toNat)
      case atStart => exact ⟨0, 0, [], Nat.zero_le _, rfl, rfl, by omega, hide (by rw [HR.out]; rfl), hide (World.ownsRow_nil _ _ _ _), Nat.le_refl _, hide (Below.refl _ _)⟩
      case round =>
        obtain ⟨k, j, p, hk, rfl, rfl, hj, HP, HO, hpk, HBr⟩ := hrel
        have hzr := HBr.out.size
        by_cases hlt : k < t.length
        case neg =>
          obtain rfl : k = t.length := by omega
          have hp := HP.out
          rw [List.drop_length] at hp
          obtain ⟨oa, oc, rfl⟩ := owns_slice HO.out
          unfold rwr at hp
          by_cases hj0 : 0 < j
          · rw [if_pos hj0] at hp
            have hj2 : (0 : Int) < (j : Int) := by omega
            have HPp := hide hp
            clear hp HP
            go_wp2_with (at_builtin; refine wpList_append_own _ rfl _ _ 23 rfl w.heap.size 3 i0 (.int .i64 0) 1 8 Try.underlying23 hi hz0 hz1 hz2 rfl (by decide) _ _ _ rfl (HO.out.alloc _) ⟨wr.heap.size, 0, none⟩ 1 1 [.int .i64 (j : Int)] rfl rfl (cell_one_new _ _ _) (by simp [Value.oneCell']) (by unfold maxLen; omega) (by omega) (by simp; omega) ?_; intro v' w1 hown hgrow hnil; obtain ⟨va, vc, rfl⟩ := owns_slice hown)
            go_ret2
            refine ⟨_, rfl, by rw [← HPp.out]; simpa [nvs] using hown, (HBr.out.alloc (by omega) _).grown hgrow (by simp; omega) (fun j e => (HO.out.lt j e).1)⟩
          · rw [if_neg hj0, List.append_nil] at hp
            subst hp
            have hj2 : ¬ (0 : Int) < (j : Int) := by omega
            clear HP
            go_wp2
            go_ret2
            exact ⟨_, rfl, HO.out, HBr.out⟩
        have hp := HP.out
        rw [List.drop_eq_getElem_cons hlt] at hp
        have hcell : ∃ b off, ta = some ⟨b, off, none⟩ ∧ wr.cell? ⟨b, off + k, none⟩ = some (.int .u8 (((t[k]).toNat : Nat) : Int)) := by
          obtain ⟨-, qb, qo, e, -, hc⟩ := bys_block (HBy.out.below HBr.out) (by omega)
          refine ⟨qb, qo, e, ?_⟩
          rw [hc k hlt, List.getD_eq_getElem?_getD, List.getElem?_eq_getElem hlt]
          rfl
        generalize t[k] = c at *
        obtain ⟨b, off, rfl, hcell⟩ := hcell
        rw [show rwr (decide (mode = 2)) m j (c :: t.drop (k + 1)) = if j + 1 = m ∨ (decide (mode = 2) = true ∧ c = 10) then (j + 1) :: rwr (decide (mode = 2)) m 0 (t.drop (k + 1)) else rwr (decide (mode = 2)) m (j + 1) (t.drop (k + 1)) from rfl] at hp
        have hk1 : (0 : Int) ≤ (k : Int) := by omega
        have hk2 : (k : Int) < (t.length : Int) := by omega
        obtain ⟨oa, oc, rfl⟩ := owns_slice HO.out
        have hM := HM.out
        unfold brm at hM
        rcases (show (mode = 1 ∧ j + 1 = m) ∨ (¬ mode = 1 ∧ (m : Int) = size ∧ ((j + 1 = m) ∨ (¬ j + 1 = m ∧ mode = 2 ∧ c = 10) ∨ (¬ j + 1 = m ∧ mode = 2 ∧ ¬ c = 10) ∨ (¬ j + 1 = m ∧ ¬ mode = 2))) by
          by_cases e1 : mode = 1
          · rw [if_pos e1] at hM; exact .inl ⟨e1, by omega⟩
          · rw [if_neg e1] at hM
            refine .inr ⟨e1, hM.symm, ?_⟩
            by_cases e2 : j + 1 = m
            · exact .inl e2
            · by_cases e3 : mode = 2
              · by_cases e4 : c = 10
                · exact .inr (.inl ⟨e2, e3, e4⟩)
                · exact .inr (.inr (.inl ⟨e2, e3, e4⟩))
              · exact .inr (.inr (.inr ⟨e2, e3⟩))) with ⟨e1, e2⟩ | ⟨e1, es, e2 | ⟨e2, e3, e4⟩ | ⟨e2, e3, e4⟩ | ⟨e2, e3⟩⟩
        · skip
          rw [if_pos (.inl e2)] at hp
          have HPp := hide hp
          have hjm : (j : Int) + 1 ≤ 65536 := by omega
          have b1 : (mode == 1) = true := by simpa using e1
          clear hp HP hM e1
          go_wp2_with (first | (at_builtin; refine wpList_append_own _ rfl _ _ 23 rfl w.heap.size 3 i0 (.int .i64 0) 1 8 Try.underlying23 hi hz0 hz1 hz2 rfl (by decide) _ _ _ rfl (HO.out.alloc _) ⟨wr.heap.size, 0, none⟩ 1 1 [.int .i64 ((j : Int) + 1)] rfl rfl (cell_one_new _ _ _) (by simp [Value.oneCell']) (by unfold maxLen; omega) (by omega) (by simp; omega) ?_; intro v' w1 hown hgrow hnil; obtain ⟨va, vc, rfl⟩ := owns_slice hown) | fail)
          go_roundw
          case rel => exact ⟨k + 1, 0, p ++ [j + 1], by omega, by go_num, rfl, by omega, hide (by rw [List.append_assoc]; exact HPp.out), hide (by rw [List.length_append]; simpa [nvs] using hown), by rw [List.length_append, List.length_singleton]; omega, hide ((HBr.out.alloc (by omega) _).grown hgrow (by simp; omega) (fun j e => (HO.out.lt j e).1))⟩
          case measure => simp [intOf]; omega
        · skip
          rw [if_pos (.inl e2)] at hp
          have HPp := hide hp
          have hjm : (j : Int) + 1 ≤ 65536 := by omega
          have b1 : (mode == 1) = false := by simpa using e1
          have b2 : ((j : Int) + 1 == size) = true := by simp only [beq_iff_eq]; omega
          clear hp HP hM e1 es
          go_wp2_with (first | (at_builtin; refine wpList_append_own _ rfl _ _ 23 rfl w.heap.size 3 i0 (.int .i64 0) 1 8 Try.underlying23 hi hz0 hz1 hz2 rfl (by decide) _ _ _ rfl (HO.out.alloc _) ⟨wr.heap.size, 0, none⟩ 1 1 [.int .i64 ((j : Int) + 1)] rfl rfl (cell_one_new _ _ _) (by simp [Value.oneCell']) (by unfold maxLen; omega) (by omega) (by simp; omega) ?_; intro v' w1 hown hgrow hnil; obtain ⟨va, vc, rfl⟩ := owns_slice hown) | fail)
          go_roundw
          case rel => exact ⟨k + 1, 0, p ++ [j + 1], by omega, by go_num, rfl, by omega, hide (by rw [List.append_assoc]; exact HPp.out), hide (by rw [List.length_append]; simpa [nvs] using hown), by rw [List.length_append, List.length_singleton]; omega, hide ((HBr.out.alloc (by omega) _).grown hgrow (by simp; omega) (fun j e => (HO.out.lt j e).1))⟩
          case measure => simp [intOf]; omega
        · skip
          rw [if_pos (.inr ⟨by simpa using e3, e4⟩)] at hp
          have HPp := hide hp
          have hjm : (j : Int) + 1 ≤ 65536 := by omega
          have b1 : (mode == 1) = false := by simpa using e1
          have b2 : ((j : Int) + 1 == size) = false := by simp only [beq_eq_false_iff_ne]; omega
          have b4 : ¬ (j : Int) + 1 = size := by omega
          have b3 : (mode == 2) = true := by simpa using e3
          have b5 : ((c.toNat : Int) == 10) = true := by rw [e4]; rfl
          have b6 : (c.toNat : Int) = 10 := by rw [e4]; rfl
          clear hp HP hM e1 es e3 e4
          go_wp2_with (first | (at_builtin; refine wpList_append_own _ rfl _ _ 23 rfl w.heap.size 3 i0 (.int .i64 0) 1 8 Try.underlying23 hi hz0 hz1 hz2 rfl (by decide) _ _ _ rfl (HO.out.alloc _) ⟨wr.heap.size, 0, none⟩ 1 1 [.int .i64 ((j : Int) + 1)] rfl rfl (cell_one_new _ _ _) (by simp [Value.oneCell']) (by unfold maxLen; omega) (by omega) (by simp; omega) ?_; intro v' w1 hown hgrow hnil; obtain ⟨va, vc, rfl⟩ := owns_slice hown) | fail)
          go_roundw
          case rel => exact ⟨k + 1, 0, p ++ [j + 1], by omega, by go_num, rfl, by omega, hide (by rw [List.append_assoc]; exact HPp.out), hide (by rw [List.length_append]; simpa [nvs] using hown), by rw [List.length_append, List.length_singleton]; omega, hide ((HBr.out.alloc (by omega) _).grown hgrow (by simp; omega) (fun j e => (HO.out.lt j e).1))⟩
          case measure => simp [intOf]; omega
        · skip
          rw [if_neg (fun e => by rcases e with e | e; exact e2 e; exact e4 e.2)] at hp
          have HPp := hide hp
          have hjm : (j : Int) + 1 ≤ 65536 := by omega
          have b1 : (mode == 1) = false := by simpa using e1
          have b2 : ((j : Int) + 1 == size) = false := by simp only [beq_eq_false_iff_ne]; omega
          have b4 : ¬ (j : Int) + 1 = size := by omega
          have b3 : (mode == 2) = true := by simpa using e3
          have b6 : ¬ (c.toNat : Int) = 10 := fun e => e4 (UInt8.toNat_inj.1 (by rw [show (10 : UInt8).toNat = 10 from rfl]; omega))
          have b5 : ((c.toNat : Int) == 10) = false := by simpa using b6
          clear hp HP hM e1 es e3 e4
          go_wp2
          go_roundw
          case rel => exact ⟨k + 1, j + 1, p, by omega, by go_num, by go_num, by omega, HPp, HO, by omega, HBr⟩
          case measure => simp [intOf]; omega
        · skip
          rw [if_neg (fun e => by rcases e with e | e; exact e2 e; exact e3 (by simpa using e.1))] at hp
          have HPp := hide hp
          have hjm : (j : Int) + 1 ≤ 65536 := by omega
          have b1 : (mode == 1) = false := by simpa using e1
          have b2 : ((j : Int) + 1 == size) = false := by simp only [beq_eq_false_iff_ne]; omega
          have b4 : ¬ (j : Int) + 1 = size := by omega
          have b3 : (mode == 2) = false := by simpa using e3
          clear hp HP hM e1 es e3
          go_wp2
          go_roundw
          case rel => exact ⟨k + 1, j + 1, p, by omega, by go_num, by go_num, by omega, HPp, HO, by omega, HBr⟩
          case measure => simp [intOf]; omega
  · have h3 : bwE mode size t = bref mode size := by unfold bwE; rw [if_pos h1]
    have h4 : bwL mode size t = [] := by unfold bwL; rw [h3, if_neg h1]
    rw [h3, h4]
    have HB := hide (fun W => rbref_any mode size W)
    generalize bref mode size = q at *
    have h5 : (q == 0) = false := by simpa using h1
    have h6 : (q != 0) = true := by simpa using h1
    clear h3 h4 hb
    go_enter Try.func9, Try.ntmps9
    go_wp2_with (go_at_call 27; refine (HB.out _).mono ?_; rintro _ _ ⟨rfl, rfl⟩)
    go_ret2
    exact ⟨_, rfl, World.ownsRow_nil _ _ _ _, Below.refl _ _⟩
end Go.Proofs.Ytibnpeipndkciaa
