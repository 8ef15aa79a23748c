/- StreamFew, as values: how many raw calls there are. -/
import Derived.Test.YtbffnamdpmjfnaaStCt
namespace Go.Proofs.Ytbffnamdpmjfnaa
open Go.RowKit

/-- A Counter takes all at once. -/
theorem ct_put (S : CtS) (bs : List UInt8) (hl : bs.length ≤ 1048576) : putV ctD bs (putF bs) S 0 0 = (bs.length, 0, ⟨S.b ++ bs, S.pl, S.rd, S.wr + if bs = [] then 0 else 1⟩) := by
  by_cases h0 : bs = []
  · subst h0
    rw [putV_done _ _ _ _ _ _ (by simp)]
    obtain ⟨b, pl, rd, wr⟩ := S
    simp
  have hpos : 0 < bs.length := List.length_pos_iff.2 h0
  have hw : ctD.write S (bs.drop 0) = ((bs.length : Int), 0, ⟨S.b ++ bs, S.pl, S.rd, S.wr + 1⟩) := by
    rw [List.drop_zero]; rfl
  obtain ⟨k, hk⟩ : ∃ k, putF bs = k + 1 := ⟨putF bs - 1, by unfold putF; omega⟩
  rw [hk, putV_next ctD bs k _ 0 0 hw, if_pos hpos, if_neg (by omega), if_neg (by omega), if_pos rfl, putV_done _ _ _ _ _ _ (by omega), if_neg h0]
  simp
theorem ct_some (S : CtS) (n : Nat) : someV ctD n 8192 S = ((S.b.drop S.pl).take (min n (S.b.length - S.pl)), 0, ⟨S.b, S.pl + min n (S.b.length - S.pl), S.rd + 1, S.wr⟩) := by
  have hr : ctD.read S n = ((S.b.drop S.pl).take (min n (S.b.length - S.pl)), 0, ⟨S.b, S.pl + min n (S.b.length - S.pl), S.rd + 1, S.wr⟩) := rfl
  rw [someV_next ctD n 8191 S hr, if_neg (by omega), if_neg (by rw [List.length_take]; omega), if_pos rfl]
/-- A full stream that is written alone: what was put, and how many writes there were. -/
structure FwW (x : SS) (S : CtS) (l : List UInt8) (sz : Nat) : Prop where
  wt : x.wt = true
  mode : x.mode = 3
  size : x.size = (sz : Int)
  s1 : 1 ≤ sz
  s2 : sz ≤ 65536
  ol : x.out.length < sz
  inn : x.inn = []
  back : x.back = []
  closed : x.closed = false
  dir : x.dir = 2 ∨ (x.dir = 0 ∧ x.out = [])
  all : S.b ++ x.out = l
  few : S.wr * sz + x.out.length = l.length
  rz : S.rd = 0
theorem FwW.may {x : SS} {S : CtS} {l : List UInt8} {sz : Nat} (h : FwW x S l sz) : x.may = true := by
  unfold SS.may SS.buf SS.way SS.toR SS.toW
  have h1 := h.s1
  have h2 := h.s2
  have h3 := h.ol
  rw [h.inn, h.back, h.closed, h.wt, h.mode, h.size]
  have e2 : (1 : Int) ≤ (sz : Int) := by omega
  have e3 : (sz : Int) ≤ 65536 := by omega
  rcases h.dir with e | ⟨e, e4⟩
  · simp [e, e2, e3]
    omega
  · simp [e, e4, e2, e3]
theorem FwW.refuse {x : SS} {S : CtS} {l : List UInt8} {sz : Nat} (h : FwW x S l sz) : x.refuse true = 0 := by
  unfold SS.refuse
  rw [if_neg (by simp [h.may]), if_neg (by simp), if_neg (by simp [h.closed])]
theorem FwW.noWrite {x : SS} {S : CtS} {l : List UInt8} {sz : Nat} (h : FwW x S l sz) : x.noWrite = 0 := by
  unfold SS.noWrite
  rw [if_neg (by simp [h.refuse]), if_neg (by simp [h.wt]), if_neg (fun e => by rcases h.dir with d | d <;> omega)]
theorem ct_deliver (x : SS) (S : CtS) (h : x.out.length ≤ 65536) : x.deliver ctD S = ({ x with out := [] }, 0, ⟨S.b ++ x.out, S.pl, S.rd, S.wr + if x.out = [] then 0 else 1⟩) := by
  unfold SS.deliver SS.mark
  rw [ct_put S x.out (by omega)]
  simp
theorem fw_put {x : SS} {S : CtS} {l : List UInt8} {sz : Nat} (h : FwW x S l sz) (c : UInt8) : (x.put ctD S c).2.1 = 0 ∧ FwW (x.put ctD S c).1 (x.put ctD S c).2.2 (l ++ [c]) sz := by
  have ho := h.ol
  have h1 := h.s1
  have h2 := h.s2
  have hf := h.few
  have hs := h.size
  unfold SS.put
  rw [if_pos h.noWrite]
  unfold SS.put1
  rw [if_neg (by simp only; rw [h.mode]; decide), if_neg (by simp only; omega)]
  unfold SS.lay
  simp only
  split
  · rename_i hc
    have hfull : x.out.length + 1 = sz := by
      rcases hc with e | e
      · omega
      · rw [h.mode] at e; simp at e
    rw [ct_deliver _ S (by simp; omega)]
    refine ⟨rfl, ⟨h.wt, h.mode, h.size, h1, h2, h1, h.inn, h.back, h.closed, .inl rfl, ?_, ?_, h.rz⟩⟩
    · simp only [List.append_nil]
      rw [← List.append_assoc, h.all]
    · simp only [List.length_append, List.length_cons, List.length_nil]
      rw [if_neg (by simp), Nat.add_mul]
      omega
  · rename_i hc
    refine ⟨rfl, ⟨h.wt, h.mode, h.size, h1, h2, ?_, h.inn, h.back, h.closed, .inl rfl, ?_, ?_, h.rz⟩⟩
    · simp only [List.length_append, List.length_cons, List.length_nil]
      have : ¬ ((x.out.length + 1 : Nat) : Int) = x.size := fun e => hc (.inl e)
      omega
    · simp only
      rw [← List.append_assoc, h.all]
    · simp only [List.length_append, List.length_cons, List.length_nil]
      omega
theorem fw_close {x : SS} {S : CtS} {l : List UInt8} {sz : Nat} (h : FwW x S l sz) : (x.close ctD S).2.1 = 0 ∧ (x.close ctD S).2.2.b = l ∧ (x.close ctD S).2.2.wr ≤ l.length / sz + 1 := by
  have ho := h.ol
  have h2 := h.s2
  have hf := h.few
  unfold SS.close
  rw [if_neg (by simp [h.refuse]), ct_deliver x S (by omega)]
  refine ⟨rfl, h.all, ?_⟩
  simp only
  have hw : S.wr ≤ l.length / sz := (Nat.le_div_iff_mul_le (by omega)).2 (by omega)
  split <;> omega
/-- A full stream that is read alone: i bytes were got. -/
structure FwR (x : SS) (S : CtS) (b : List UInt8) (i sz : Nat) : Prop where
  rd : x.rd = true
  mode : x.mode = 3
  size : x.size = (sz : Int)
  s1 : 1 ≤ sz
  s2 : sz ≤ 65536
  out : x.out = []
  back : x.back = []
  fin : x.fin = false
  closed : x.closed = false
  dir : x.dir = 1 ∨ (x.dir = 0 ∧ x.inn = [])
  all : S.b = b
  inn : x.inn = (b.drop i).take x.inn.length
  pl : S.pl = i + x.inn.length
  top : S.pl = min (S.rd * sz) b.length
  few : S.rd = 0 ∨ (S.rd - 1) * sz < i
  wz : S.wr = 0
theorem FwR.short {x : SS} {S : CtS} {b : List UInt8} {i sz : Nat} (h : FwR x S b i sz) : x.inn.length < sz := by
  have h1 := h.s1
  have h2 := h.pl
  have h3 := h.top
  rcases h.few with e | e
  · rw [e] at h3
    omega
  · obtain ⟨r, hr⟩ : ∃ r, S.rd = r + 1 ∨ S.rd = 0 := ⟨S.rd - 1, by omega⟩
    rcases hr with hr | hr
    · rw [hr] at e h3
      rw [Nat.add_mul] at h3
      simp only [Nat.add_sub_cancel] at e
      omega
    · rw [hr] at h3
      omega
theorem FwR.may {x : SS} {S : CtS} {b : List UInt8} {i sz : Nat} (h : FwR x S b i sz) : x.may = true := by
  unfold SS.may SS.buf SS.way SS.toR SS.toW
  have h1 := h.s1
  have h2 := h.s2
  have h3 := h.short
  rw [h.out, h.back, h.closed, h.rd, h.mode, h.size]
  have e2 : (1 : Int) ≤ (sz : Int) := by omega
  have e3 : (sz : Int) ≤ 65536 := by omega
  have e5 : (x.inn.length : Int) ≤ 65536 := by omega
  rcases h.dir with e | ⟨e, e4⟩
  · simp [e, e2, e3, e5]
  · simp [e, e4, e2, e3]
theorem FwR.noRead {x : SS} {S : CtS} {b : List UInt8} {i sz : Nat} (h : FwR x S b i sz) : x.noRead = 0 := by
  have hr : x.refuse true = 0 := by
    unfold SS.refuse
    rw [if_neg (by simp [h.may]), if_neg (by simp), if_neg (by simp [h.closed])]
  unfold SS.noRead
  rw [if_neg (by simp [hr]), if_neg (by simp [h.rd]), if_neg (fun e => by rcases h.dir with d | d <;> omega)]
theorem fr_get {x : SS} {S : CtS} {b : List UInt8} {i sz : Nat} (h : FwR x S b i sz) (hi : i < b.length) : (x.get ctD S).2.2.1 = 0 ∧ (x.get ctD S).2.1 = b.getD i 0 ∧ FwR (x.get ctD S).1 (x.get ctD S).2.2.2 b (i + 1) sz := by
  have h1 := h.s1
  have hin := h.inn
  have hpl := h.pl
  have htop := h.top
  have hst := h.short
  unfold SS.get
  rw [if_pos h.noRead]
  unfold SS.get1
  rw [if_neg (by simp only; rw [h.back]; simp)]
  by_cases hp : 0 < x.inn.length
  · rw [if_pos hp]
    refine ⟨rfl, ?_, ⟨h.rd, h.mode, h.size, h1, h.s2, h.out, h.back, h.fin, h.closed, .inl rfl, h.all, ?_, ?_, htop, ?_, h.wz⟩⟩
    · simp only
      rw [hin]
      simp only [List.getD_eq_getElem?_getD, List.getElem?_take, List.getElem?_drop, Nat.add_zero]
      rw [if_pos hp]
    · simp only [List.length_drop]
      conv => lhs; rw [hin]
      rw [List.drop_take, List.drop_drop]
    · simp only [List.length_drop]
      omega
    · rcases h.few with e | e
      · rw [e] at htop; omega
      · right; show (S.rd - 1) * sz < i + 1; omega
  · have h0 : x.inn.length = 0 := by omega
    rw [if_neg hp, if_neg (by simp only; rw [h.fin]; simp)]
    have hm : ({ x with dir := 1 } : SS).most = sz := by
      unfold SS.most
      simp only
      rw [if_neg (by rw [h.mode]; decide), h.size, Int.toNat_natCast]
    rw [hm, ct_some S sz]
    simp only
    have hSl : S.b.length = b.length := by rw [h.all]
    have hpi : S.pl = i := by omega
    have hri : S.rd * sz = i := by omega
    have hmn : 1 ≤ min sz (S.b.length - S.pl) := by omega
    have hlen : ((S.b.drop S.pl).take (min sz (S.b.length - S.pl))).length = min sz (S.b.length - S.pl) := by rw [List.length_take, List.length_drop]; omega
    rw [if_neg (by simp), if_neg (by omega)]
    refine ⟨rfl, ?_, ⟨h.rd, h.mode, h.size, h1, h.s2, h.out, h.back, h.fin, h.closed, .inl rfl, h.all, ?_, ?_, ?_, ?_, h.wz⟩⟩
    · simp only
      rw [h.all, hpi]
      simp only [List.getD_eq_getElem?_getD, List.getElem?_take, List.getElem?_drop, Nat.add_zero]
      rw [if_pos (by omega)]
    · simp only [List.length_drop, hlen]
      rw [h.all, hpi, List.drop_take, List.drop_drop]
    · simp only [List.length_drop, hlen]
      omega
    · show S.pl + min sz (S.b.length - S.pl) = min ((S.rd + 1) * sz) b.length
      rw [Nat.add_mul]
      omega
    · right
      show (S.rd + 1 - 1) * sz < i + 1
      rw [Nat.add_sub_cancel]
      omega
theorem fr_few {x : SS} {S : CtS} {b : List UInt8} {sz : Nat} (h : FwR x S b b.length sz) : S.rd ≤ b.length / sz + 1 := by
  have h1 := h.s1
  rcases h.few with e | e
  · rw [e]; exact Nat.zero_le _
  · have : S.rd - 1 ≤ b.length / sz := (Nat.le_div_iff_mul_le (by omega)).2 (by omega)
    omega
/-- Bounds of a Counter's numbers. -/
theorem ct_bears : Bears ctD ctOk ctOk (fun n s => s.rd + n ≤ 4611686018427387904 ∧ s.wr + n ≤ 4611686018427387904 ∧ s.b.length + n * 65536 ≤ 1000000000) := by
  refine ⟨fun n s bs h hl => ?_, fun n s m h h1 h2 => ?_, fun n s h => by omega⟩
  · rw [ct_put s bs (by omega)]
    have hok : ctOk s := by unfold ctOk; omega
    refine ⟨?_, ?_⟩
    · obtain ⟨k, hk⟩ : ∃ k, putF bs = k + 1 := ⟨putF bs - 1, by unfold putF; omega⟩
      rw [hk]
      intro hpos
      have hw : ctD.write s (bs.drop 0) = ((bs.length : Int), 0, ⟨s.b ++ bs, s.pl, s.rd, s.wr + 1⟩) := by rw [List.drop_zero]; rfl
      rw [hw]
      refine ⟨hok, fun e => by
        have e2 : ((0 : Int) = 22 ∨ (0 : Int) = 23) ∨ ((bs.length : Int) = 0 ∧ (0 : Int) = 0) := e
        omega, fun _ _ _ => ?_⟩
      cases k with
      | zero => trivial
      | succ k => intro h5; simp at h5
    · simp only [List.length_append]
      split <;> omega
  · rw [ct_some s m]
    exact ⟨⟨by unfold ctOk; omega, fun e => by have e2 : (0 : Int) = 22 ∨ (0 : Int) = 23 := e; omega⟩, by simp only; omega⟩
theorem FwW.bear {x : SS} {S : CtS} {l : List UInt8} {sz : Nat} (h : FwW x S l sz) (hl : l.length ≤ 5000) : S.rd + 2 ≤ 4611686018427387904 ∧ S.wr + 2 ≤ 4611686018427387904 ∧ S.b.length + 2 * 65536 ≤ 1000000000 := by
  have h1 := h.few
  have h2 := h.rz
  have h3 : S.wr ≤ S.wr * sz := Nat.le_mul_of_pos_right _ h.s1
  have h4 : S.b.length ≤ l.length := by rw [← h.all]; simp
  omega
theorem FwR.bear {x : SS} {S : CtS} {b : List UInt8} {i sz : Nat} (h : FwR x S b i sz) (hl : b.length ≤ 5000) (hi : i ≤ 5000) : S.rd + 2 ≤ 4611686018427387904 ∧ S.wr + 2 ≤ 4611686018427387904 ∧ S.b.length + 2 * 65536 ≤ 1000000000 := by
  have h2 := h.wz
  have h3 : S.rd - 1 ≤ (S.rd - 1) * sz := Nat.le_mul_of_pos_right _ h.s1
  have h4 := h.all
  rw [h4]
  rcases h.few with e | e <;> omega
theorem few_le (b sz r : Nat) (hb : b ≤ 5000) (h : r ≤ b / sz + 1) : decide ((r : Int) ≤ IntKind.i64.wrap (IntKind.i64.wrap ((b : Int) / (sz : Int)) + 1)) = true ∧ decide ((r : Int) ≤ IntKind.i64.wrap (wrap64 ((b : Int) / (sz : Int)) + 1)) = true := by
  have h1 : b / sz ≤ 5000 := Nat.le_trans (Nat.div_le_self _ _) hb
  rw [show (b : Int) / (sz : Int) = ((b / sz : Nat) : Int) from (Int.natCast_ediv _ _).symm]
  generalize b / sz = q at *
  have e1 : IntKind.i64.wrap (q : Int) = (q : Int) := by rw [IntKind.wrap_i64]; omega
  have e2 : IntKind.i64.wrap ((q : Int) + 1) = (q : Int) + 1 := by rw [IntKind.wrap_i64]; omega
  have e3 : wrap64 (q : Int) = (q : Int) := by unfold wrap64; omega
  rw [e1, e3, e2]
  exact ⟨decide_eq_true (by omega), decide_eq_true (by omega)⟩
theorem take_more (b : List UInt8) (k : Nat) (h : k < b.length) : b.take (k + 1) = b.take k ++ [b.getD k 0] := by
  rw [List.take_add_one]
  simp [h]
end Go.Proofs.Ytbffnamdpmjfnaa
