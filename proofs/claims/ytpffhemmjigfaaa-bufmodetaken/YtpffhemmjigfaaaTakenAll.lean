/- BufmodeTaken: for every text, mode, size and changes of the buffer, what the Raw of a stream takes in the end is what was put (of the first 2000 bytes), whenever and however the buffer is changed. -/
import Derived.Test.YtpffhemmjigfaaaKM14
import Derived.OpenShut
import Derived.Deep.Cut
import Derived.Deep.LoopGhost
import Derived.Deep.RegionLaw
import Derived.Deep.DeepCutAuto
import Derived.Deep.RegionWith
import Derived.ProofKit
import Derived.ShutString
import Derived.ChangeOld
import Derived.Below
import Derived.SizedLaws
/- BufmodeCounts, BufmodeSums: the walks. -/
namespace Go.Proofs.Ytpffhemmjigfaaa
open Go.RowKit

theorem bys_len12 {W : World} {a : Option Addr} {n c : Nat} {l : List UInt8} (h : Bys W (.slice a n c) l) : n = l.length := by
  obtain ⟨a1, c1, e, -⟩ := bys_form h
  cases e
  rfl
theorem bfull_le (t sz : Nat) (h1 : 1 ≤ sz) : (t + (sz - 1)) / sz ≤ t / sz + 1 := by
  have : (t + (sz - 1)) / sz ≤ (t + sz) / sz := Nat.div_le_div_right (by omega)
  rw [Nat.add_div_right _ (by omega)] at this
  exact this
theorem bfew_le (b sz r : Nat) (hb : b ≤ 1048576) (h : r ≤ b / sz + 1) : decide ((r : Int) ≤ wrap64 (wrap64 ((b : Int) / (sz : Int)) + 1)) = true := by
  have h1 : b / sz ≤ 1048576 := Nat.le_trans (Nat.div_le_self _ _) hb
  rw [show (b : Int) / (sz : Int) = ((b / sz : Nat) : Int) from (Int.natCast_ediv _ _).symm]
  generalize b / sz = q at *
  have e3 : wrap64 (q : Int) = (q : Int) := by unfold wrap64; omega
  have e4 : wrap64 ((q : Int) + 1) = (q : Int) + 1 := by unfold wrap64; omega
  rw [e3, e4]
  exact decide_eq_true (by omega)
theorem sum_take_le (L : List Nat) (k : Nat) : (L.take k).sum ≤ L.sum := by
  conv => rhs; rw [← List.take_append_drop k L]
  rw [List.sum_append]
  omega

end Go.Proofs.Ytpffhemmjigfaaa

/- BufmodeTrue, BufmodeTaken, as values: what a stream's Counter counts. -/
namespace Go.Proofs.Ytpffhemmjigfaaa
open Go.RowKit

/-- A stream that is written alone, of any mode: it holds fewer bytes than it may. -/
structure GwB (x : SS) (m : Nat) : Prop where
  wt : x.wt = true
  m1 : 1 ≤ x.mode
  m2 : x.mode ≤ 3
  s1 : 1 ≤ x.size
  s2 : x.size ≤ 65536
  hm : brm x.mode x.size = (m : Int)
  ol : x.out.length < m
  inn : x.inn = []
  back : x.back = []
  closed : x.closed = false
  dir : x.dir = 2 ∨ (x.dir = 0 ∧ x.out = [])
theorem GwB.one {x : SS} {m : Nat} (h : GwB x m) (e : x.mode = 1) : m = 1 ∧ x.out = [] := by
  have h1 := h.hm
  unfold brm at h1
  rw [if_pos e] at h1
  have h2 := h.ol
  exact ⟨by omega, List.length_eq_zero_iff.1 (by omega)⟩
theorem GwB.more {x : SS} {m : Nat} (h : GwB x m) (e : ¬ x.mode = 1) : x.size = (m : Int) := by
  have h1 := h.hm
  unfold brm at h1
  rwa [if_neg e] at h1
theorem GwB.may {x : SS} {m : Nat} (h : GwB x m) : x.may = true := by
  have h1 := h.m1
  have h2 := h.m2
  have h3 := h.s1
  have h4 := h.s2
  have h5 := h.ol
  have hb : x.buf = true := by
    unfold SS.buf
    rw [h.inn, h.back]
    have e : (x.out.length : Int) ≤ if x.mode = 1 then 0 else x.size := by
      split
      · rename_i e; rw [(h.one e).2]; simp
      · rename_i e; have := h.more e; omega
    rw [decide_eq_true h1, decide_eq_true h2, decide_eq_true h3, decide_eq_true h4, decide_eq_true e]
    simp
  have hw : x.way = true := by
    unfold SS.way SS.toR SS.toW
    rw [h.inn, h.back, h.closed, h.wt]
    rcases h.dir with e | ⟨e, e4⟩
    · simp [e]
    · simp [e, e4]
  unfold SS.may
  rw [hb, hw]
  rfl
theorem GwB.refuse {x : SS} {m : Nat} (h : GwB x m) : x.refuse true = 0 := by
  unfold SS.refuse
  rw [if_neg (by simp [h.may]), if_neg (by simp), if_neg (by simp [h.closed])]
theorem GwB.noWrite {x : SS} {m : Nat} (h : GwB x m) : x.noWrite = 0 := by
  unfold SS.noWrite
  rw [if_neg (by simp [h.refuse]), if_neg (by simp [h.wt]), if_neg (fun e => by rcases h.dir with d | d <;> omega)]
theorem GwB.small2 {x : SS} {m : Nat} (h : GwB x m) : x.out.length ≤ 65536 := by
  have h1 := h.ol
  have h2 := h.hm
  have h3 := h.s2
  unfold brm at h2
  split at h2 <;> omega
/-- A byte is put: what is held, taken and counted. -/
theorem gw_put {x : SS} {S : CtS} {m : Nat} (h : GwB x m) (c : UInt8) : (x.put ctD S c).2.1 = 0 ∧ GwB (x.put ctD S c).1 m ∧ (x.put ctD S c).1.mode = x.mode ∧ (x.put ctD S c).1.size = x.size ∧ (x.put ctD S c).2.2.rd = S.rd ∧
    (if x.out.length + 1 = m ∨ (decide (x.mode = 2) = true ∧ c = 10) then (x.put ctD S c).1.out = [] ∧ (x.put ctD S c).2.2.b = S.b ++ x.out ++ [c] ∧ (x.put ctD S c).2.2.wr = S.wr + 1 else (x.put ctD S c).1.out = x.out ++ [c] ∧ (x.put ctD S c).2.2.b = S.b ∧ (x.put ctD S c).2.2.wr = S.wr) := by
  have ho := h.ol
  unfold SS.put
  rw [if_pos h.noWrite]
  unfold SS.put1
  by_cases h1 : x.mode = 1
  · obtain ⟨rfl, e2⟩ := h.one h1
    have hc : x.out.length + 1 = 1 ∨ (decide (x.mode = 2) = true ∧ c = 10) := .inl (by rw [e2]; rfl)
    rw [if_pos h1, if_pos hc, ct_put S [c] (by simp)]
    refine ⟨rfl, ⟨h.wt, h.m1, h.m2, h.s1, h.s2, h.hm, ?_, h.inn, h.back, h.closed, .inl rfl⟩, rfl, rfl, rfl, ?_, ?_, ?_⟩
    · show x.out.length < 1; omega
    · show x.out = []; exact e2
    · show S.b ++ [c] = S.b ++ x.out ++ [c]; rw [e2, List.append_nil]
    · show S.wr + (if [c] = [] then 0 else 1) = S.wr + 1; simp
  · have hs := h.more h1
    rw [if_neg h1, if_neg (by simp only; omega)]
    unfold SS.lay
    simp only
    by_cases hc : x.out.length + 1 = m ∨ (decide (x.mode = 2) = true ∧ c = 10)
    · rw [if_pos hc, if_pos (by
        rcases hc with e | e
        · left; omega
        · right; simpa using e), ct_deliver _ S (by simp; have := h.s2; omega)]
      refine ⟨rfl, ⟨h.wt, h.m1, h.m2, h.s1, h.s2, h.hm, by show 0 < m; omega, h.inn, h.back, h.closed, .inl rfl⟩, rfl, rfl, rfl, rfl, ?_, ?_⟩
      · simp
      · simp
    · rw [if_neg hc, if_neg (fun e => hc (by
        rcases e with e | e
        · left; omega
        · right; simpa using e))]
      have : ¬ x.out.length + 1 = m := fun e => hc (.inl e)
      exact ⟨rfl, ⟨h.wt, h.m1, h.m2, h.s1, h.s2, h.hm, by show (x.out ++ [c]).length < m; simp; omega, h.inn, h.back, h.closed, .inl rfl⟩, rfl, rfl, rfl, rfl, rfl, rfl⟩
theorem gw_close {x : SS} {S : CtS} {m : Nat} (h : GwB x m) : (x.close ctD S).2.1 = 0 ∧ (x.close ctD S).2.2 = ⟨S.b ++ x.out, S.pl, S.rd, S.wr + if x.out = [] then 0 else 1⟩ := by
  have h1 := h.ol
  have h2 : m ≤ 65536 := by
    have := h.hm
    have := h.s2
    unfold brm at *
    split at * <;> omega
  unfold SS.close
  rw [if_neg (by simp [h.refuse]), ct_deliver x S (by omega)]
  exact ⟨rfl, rfl⟩
/-- k bytes of t were put; N writes in the end. -/
structure GwW (x : SS) (S : CtS) (t : List UInt8) (k m N : Nat) (md : Int) : Prop where
  b : GwB x m
  mode : x.mode = md
  all : S.b ++ x.out = t.take k
  few : S.wr + (rwr (decide (md = 2)) m x.out.length (t.drop k)).length = N
  rz : S.rd = 0
theorem GwW.put {x : SS} {S : CtS} {t : List UInt8} {k m N : Nat} {md : Int} (h : GwW x S t k m N md) (hk : k < t.length) : (x.put ctD S (t.getD k 0)).2.1 = 0 ∧ GwW (x.put ctD S (t.getD k 0)).1 (x.put ctD S (t.getD k 0)).2.2 t (k + 1) m N md := by
  have hf := h.few
  have hg : t.getD k 0 = t[k] := by rw [List.getD_eq_getElem?_getD, List.getElem?_eq_getElem hk]; rfl
  rw [List.drop_eq_getElem_cons hk] at hf
  rw [show rwr (decide (md = 2)) m x.out.length (t[k] :: t.drop (k + 1)) = if x.out.length + 1 = m ∨ (decide (md = 2) = true ∧ t[k] = 10) then (x.out.length + 1) :: rwr (decide (md = 2)) m 0 (t.drop (k + 1)) else rwr (decide (md = 2)) m (x.out.length + 1) (t.drop (k + 1)) from rfl] at hf
  obtain ⟨p1, p2, p3, p4, p5, p6⟩ := gw_put (S := S) h.b (t.getD k 0)
  have ht : t.take (k + 1) = t.take k ++ [t.getD k 0] := take_more t k hk
  rw [h.mode, hg] at p6
  rw [hg] at p1 p2 p3 p5 ht ⊢
  split at hf
  · rename_i hc
    rw [if_pos hc] at p6
    obtain ⟨q1, q2, q3⟩ := p6
    refine ⟨p1, p2, p3.trans h.mode, ?_, ?_, p5.trans h.rz⟩
    · rw [q1, q2, List.append_nil, h.all, ht]
    · rw [q1, q3, ← hf]; simp only [List.length_cons, List.length_nil]; omega
  · rename_i hc
    rw [if_neg hc] at p6
    obtain ⟨q1, q2, q3⟩ := p6
    refine ⟨p1, p2, p3.trans h.mode, ?_, ?_, p5.trans h.rz⟩
    · rw [q1, q2, ← List.append_assoc, h.all, ht]
    · rw [q1, q3, ← hf, List.length_append]; rfl
theorem GwW.end {x : SS} {S : CtS} {t : List UInt8} {m N : Nat} {md : Int} (h : GwW x S t t.length m N md) : (x.close ctD S).2.1 = 0 ∧ (x.close ctD S).2.2.b = t ∧ (x.close ctD S).2.2.wr = N := by
  obtain ⟨p1, p2⟩ := gw_close (S := S) h.b
  have hf := h.few
  have ha := h.all
  rw [List.drop_length] at hf
  rw [List.take_length] at ha
  refine ⟨p1, by rw [p2]; exact ha, ?_⟩
  rw [p2]
  show S.wr + _ = N
  rw [← hf]
  unfold rwr
  by_cases e : x.out = []
  · rw [if_pos e, e]; rfl
  · rw [if_neg e, if_pos (List.length_pos_iff.2 e)]; rfl
/-- A stream that is read alone, of any mode: i times a byte was asked for. -/
structure GwR (x : SS) (S : CtS) (t : List UInt8) (i m : Nat) : Prop where
  rd : x.rd = true
  m1 : 1 ≤ x.mode
  m2 : x.mode ≤ 3
  s1 : 1 ≤ x.size
  s2 : x.size ≤ 65536
  hm : brm x.mode x.size = (m : Int)
  out : x.out = []
  back : x.back = []
  closed : x.closed = false
  dir : x.dir = 1 ∨ (x.dir = 0 ∧ x.inn = [])
  all : S.b = t
  wz : S.wr = 0
  pl : S.pl ≤ t.length
  live : ∃ j, RdI m t.length S.rd j x.inn.length (t.length - S.pl) x.fin ∧ (x.fin = false → j = i) ∧ (x.fin = true → j ≤ i)
  dead : x.fin = true → x.inn = []
theorem GwR.hm1 {x : SS} {S : CtS} {t : List UInt8} {i m : Nat} (h : GwR x S t i m) : 1 ≤ m ∧ m ≤ 65536 := by
  have h1 := h.hm
  have h2 := h.s1
  have h3 := h.s2
  unfold brm at h1
  split at h1 <;> omega
theorem GwR.short {x : SS} {S : CtS} {t : List UInt8} {i m : Nat} (h : GwR x S t i m) : x.inn.length ≤ t.length := by
  rcases Bool.eq_false_or_eq_true x.fin with e | e
  · rw [h.dead e]; simp
  · obtain ⟨j, h1, -⟩ := h.live
    rw [e] at h1
    exact ((h1.le h.hm1.1).2 rfl).2.2
theorem GwR.may {x : SS} {S : CtS} {t : List UInt8} {i m : Nat} (h : GwR x S t i m) (ht : t.length ≤ 5000) : x.may = true := by
  have h1 := h.m1
  have h2 := h.m2
  have h3 := h.s1
  have h4 := h.s2
  have h5 := h.short
  have hb : x.buf = true := by
    unfold SS.buf
    rw [h.out, h.back]
    have e : (([] : List UInt8).length : Int) ≤ if x.mode = 1 then 0 else x.size := by
      split <;> simp; omega
    rw [decide_eq_true h1, decide_eq_true h2, decide_eq_true h3, decide_eq_true h4, decide_eq_true e, decide_eq_true (show (x.inn.length : Int) ≤ 65536 by omega)]
    simp
  have hw : x.way = true := by
    unfold SS.way SS.toR SS.toW
    rw [h.out, h.back, h.closed, h.rd]
    rcases h.dir with e | ⟨e, e4⟩
    · simp [e]
    · simp [e, e4]
  unfold SS.may
  rw [hb, hw]
  rfl
theorem GwR.noRead {x : SS} {S : CtS} {t : List UInt8} {i m : Nat} (h : GwR x S t i m) (ht : t.length ≤ 5000) : x.noRead = 0 := by
  have hr : x.refuse true = 0 := by
    unfold SS.refuse
    rw [if_neg (by simp [h.may ht]), if_neg (by simp), if_neg (by simp [h.closed])]
  unfold SS.noRead
  rw [if_neg (by simp [hr]), if_neg (by simp [h.rd]), if_neg (fun e => by rcases h.dir with d | d <;> omega)]
theorem GwR.get {x : SS} {S : CtS} {t : List UInt8} {i m : Nat} (h : GwR x S t i m) (ht : t.length ≤ 5000) : GwR (x.get ctD S).1 (x.get ctD S).2.2.2 t (i + 1) m := by
  obtain ⟨hm1, hm2⟩ := h.hm1
  obtain ⟨j, hj1, hj2, hj3⟩ := h.live
  have hpl := h.pl
  have hSl : S.b.length = t.length := by rw [h.all]
  unfold SS.get
  rw [if_pos (h.noRead ht)]
  unfold SS.get1
  rw [if_neg (by simp only; rw [h.back]; simp)]
  by_cases hp : 0 < x.inn.length
  · have hf : x.fin = false := by
      rcases Bool.eq_false_or_eq_true x.fin with e | e
      · rw [h.dead e] at hp; simp at hp
      · exact e
    rw [if_pos hp]
    rw [hf] at hj1
    refine ⟨h.rd, h.m1, h.m2, h.s1, h.s2, h.hm, h.out, h.back, h.closed, .inl rfl, h.all, h.wz, hpl, ⟨j + 1, ?_, fun _ => by rw [hj2 hf], fun e => ?_⟩, fun e => ?_⟩
    · show RdI m t.length S.rd (j + 1) (x.inn.drop 1).length (t.length - S.pl) x.fin
      rw [List.length_drop, hf]
      exact hj1.held (by omega)
    · have e2 : x.fin = true := e
      rw [hf] at e2; cases e2
    · have e2 : x.fin = true := e
      rw [hf] at e2; cases e2
  · have h0 : x.inn = [] := List.length_eq_zero_iff.1 (by omega)
    rw [if_neg hp]
    rcases Bool.eq_false_or_eq_true x.fin with hf | hf
    · rw [if_pos hf]
      exact ⟨h.rd, h.m1, h.m2, h.s1, h.s2, h.hm, h.out, h.back, h.closed, .inl rfl, h.all, h.wz, hpl, ⟨j, hj1, fun e => (by have e2 : x.fin = false := e; rw [hf] at e2; cases e2), fun _ => by have := hj3 hf; omega⟩, h.dead⟩
    · rw [if_neg (by simp only; rw [hf]; simp)]
      have hmo : ({ x with dir := 1 } : SS).most = m := by
        have h1 := h.hm
        unfold SS.most brm at *
        simp only
        split
        · rename_i e; rw [if_pos e] at h1; omega
        · rename_i e; rw [if_neg e] at h1; omega
      rw [hmo, ct_some S m]
      simp only
      rw [hf, h0] at hj1
      have hji := hj2 hf
      have hlen : ((S.b.drop S.pl).take (min m (S.b.length - S.pl))).length = min m (t.length - S.pl) := by rw [List.length_take, List.length_drop]; omega
      rw [if_neg (by simp)]
      by_cases hr : t.length - S.pl = 0
      · rw [if_pos (by omega)]
        have hz : min m (S.b.length - S.pl) = 0 := by omega
        refine ⟨h.rd, h.m1, h.m2, h.s1, h.s2, h.hm, h.out, h.back, h.closed, .inl rfl, h.all, h.wz, by show S.pl + min m (S.b.length - S.pl) ≤ _; omega, ⟨j + 1, ?_, fun e => (by cases e), fun _ => by omega⟩, fun _ => h0⟩
        show RdI m t.length (S.rd + 1) (j + 1) x.inn.length (t.length - (S.pl + min m (S.b.length - S.pl))) true
        rw [h0, hz, show t.length - (S.pl + 0) = 0 by omega]
        rw [hr] at hj1
        exact hj1.end hm1
      · rw [if_neg (by omega)]
        refine ⟨h.rd, h.m1, h.m2, h.s1, h.s2, h.hm, h.out, h.back, h.closed, .inl rfl, h.all, h.wz, by show S.pl + min m (S.b.length - S.pl) ≤ _; omega, ⟨j + 1, ?_, fun _ => by omega, fun e => ?_⟩, fun e => ?_⟩
        · show RdI m t.length (S.rd + 1) (j + 1) (((S.b.drop S.pl).take (min m (S.b.length - S.pl))).drop 1).length (t.length - (S.pl + min m (S.b.length - S.pl))) x.fin
          rw [List.length_drop, hlen, hf, hSl, show t.length - (S.pl + min m (t.length - S.pl)) = (t.length - S.pl) - min m (t.length - S.pl) by omega]
          exact hj1.read hm1 (by omega)
        · have e2 : x.fin = true := e
          rw [hf] at e2; cases e2
        · have e2 : x.fin = true := e
          rw [hf] at e2; cases e2
theorem GwR.reads {x : SS} {S : CtS} {t : List UInt8} {n m : Nat} (h : GwR x S t n m) : S.rd = rds m n t.length := by
  obtain ⟨j, h1, h2, h3⟩ := h.live
  have hm1 := h.hm1.1
  unfold rds
  rcases Bool.eq_false_or_eq_true x.fin with hf | hf
  · rw [hf] at h1
    obtain ⟨a1, a2⟩ := h1.dead rfl
    have := h3 hf
    rw [if_pos (by omega), a2]
  · rw [hf] at h1
    have a1 := h1.pcs hm1
    obtain ⟨a2, -⟩ := h1.live rfl
    have := h2 hf
    rw [if_neg (by omega), ← a1, this]
theorem GwR.rdle {x : SS} {S : CtS} {t : List UInt8} {n m : Nat} (h : GwR x S t n m) : S.rd ≤ t.length + 1 := by
  obtain ⟨j, h1, -⟩ := h.live
  exact (h1.le h.hm1.1).1
end Go.Proofs.Ytpffhemmjigfaaa

/- BufmodeTaken, as values; its turns as an argument. -/
namespace Go.Proofs.Ytpffhemmjigfaaa
open Go.ChangeShapes Go.WideShapes Go.ChangeAt Go.RowKit Go.Deep

structure Trn where
  pl : Int
  mode : Int
  size : Int
def TnCells (cs : List Value) (x : Trn) : Prop := cs = [.int .i64 x.pl, .int .i64 x.mode, .int .i64 x.size]
def TnDat {H : Type} (d : DataW H) (_ : Trn) : Prop := ∃ x0 x1 x2, d = .agg [x0, x1, x2]
def Trns (W : World) (v : Value) (l : List Trn) : Prop := RowsR W 3 TnCells v l
theorem trn_cells {H : Type} {enc : TypeId × Value → H} {P : Program} {W : World} {base : Nat} {fuel e : Nat} {f0 f1 f2 : Field} {cs : List Value} {d : DataW H} {p : List MemPlace}
    (he : P.underlying e = some (.struct #[f0, f1, f2])) (ce : P.cellsOf e = 3) (o0 : f0.offset = 0) (o1 : f1.offset = 1) (o2 : f2.offset = 2)
    (c0 : P.cellsOf f0.type = 1) (c1 : P.cellsOf f1.type = 1) (c2 : P.cellsOf f2.type = 1) (t0 : P.underlying f0.type = some (.int .i64)) (t1 : P.underlying f1.type = some (.int .i64)) (t2 : P.underlying f2.type = some (.int .i64))
    (h : DataW.trod enc P W base (fun _ => true) true fuel e cs = some (d, p)) : ∃ x : Trn, TnCells cs x ∧ TnDat d x := by
  obtain ⟨xs, k, hk, hxy, hcl, hxl, hf⟩ := DataW.trod_struct he h
  rw [ce] at hcl
  match xs, hxl, cs, hcl with
  | [y0, y1, y2], _, [v0, v1, v2], _ =>
    have g0 := hf 0 f0 rfl
    have g1 := hf 1 f1 rfl
    have g2 := hf 2 f2 rfl
    simp [o0, c0] at g0
    simp [o1, c1] at g1
    simp [o2, c2] at g2
    obtain ⟨a, ha, _⟩ := DataW.trod_int t0 g0
    obtain ⟨b, hb, _⟩ := DataW.trod_int t1 g1
    obtain ⟨c, hc, _⟩ := DataW.trod_int t2 g2
    obtain rfl : v0 = .int .i64 a := by simpa using ha
    obtain rfl : v1 = .int .i64 b := by simpa using hb
    obtain rfl : v2 = .int .i64 c := by simpa using hc
    simp only [Prod.mk.injEq] at hxy
    exact ⟨⟨a, b, c⟩, rfl, ⟨_, _, _, by simpa using hxy.1⟩⟩
theorem Trns.at {W W' : World} {a : Option Addr} {n c : Nat} {l : List Trn} (h : Trns W (.slice a n c) l) (hB : Below W.heap.size W W') (j : Nat) (hj : j < l.length) :
    ∃ b off, a = some ⟨b, off, none⟩ ∧ b < W.heap.size ∧ W'.cell? ⟨b, off + j * 3, none⟩ = some (.int .i64 l[j].pl) ∧ W'.cell? ⟨b, off + j * 3 + 1, none⟩ = some (.int .i64 l[j].mode) ∧ W'.cell? ⟨b, off + j * 3 + 2, none⟩ = some (.int .i64 l[j].size) := by
  obtain ⟨b, off, cs, rfl, rfl, _, h3⟩ := RowsR.at h j hj
  have hl : b < W.heap.size := World.block_lt_of_cell? W _ (h3 0 _ rfl)
  have key : ∀ i v, W.cell? ⟨b, off + j * 3 + i, none⟩ = some v → W'.cell? ⟨b, off + j * 3 + i, none⟩ = some v := fun i v hv => (hB.cell (p := ⟨b, off + j * 3 + i, none⟩) hl).trans hv
  exact ⟨b, off, rfl, hl, key 0 _ (h3 0 _ rfl), key 1 _ (h3 1 _ rfl), key 2 _ (h3 2 _ rfl)⟩
/-- l was put; it is taken, or held. -/
structure TkW (x : SS) (S : CtS) (l : List UInt8) : Prop where
  b : ∃ m, GwB x m
  all : S.b ++ x.out = l
  wr : S.wr ≤ S.b.length
  rz : S.rd = 0
theorem TkW.put {x : SS} {S : CtS} {l : List UInt8} (h : TkW x S l) (c : UInt8) : (x.put ctD S c).2.1 = 0 ∧ TkW (x.put ctD S c).1 (x.put ctD S c).2.2 (l ++ [c]) := by
  obtain ⟨m, hb⟩ := h.b
  obtain ⟨p1, p2, p3, p4, p5, p6⟩ := gw_put (S := S) hb c
  have hw := h.wr
  split at p6
  · obtain ⟨q1, q2, q3⟩ := p6
    refine ⟨p1, ⟨m, p2⟩, ?_, ?_, p5.trans h.rz⟩
    · rw [q1, q2, List.append_nil, h.all]
    · rw [q2, q3]; simp only [List.length_append, List.length_cons, List.length_nil]; omega
  · obtain ⟨q1, q2, q3⟩ := p6
    refine ⟨p1, ⟨m, p2⟩, ?_, ?_, p5.trans h.rz⟩
    · rw [q1, q2, ← List.append_assoc, h.all]
    · rw [q2, q3]; exact hw
theorem TkW.set {x : SS} {S : CtS} {l : List UInt8} (h : TkW x S l) (mode size : Int) : TkW (x.bset ctD S mode size).1 (x.bset ctD S mode size).2.2 l ∧ ((x.bset ctD S mode size).2.1 = 0 → (x.bset ctD S mode size).1.mode = mode ∧ (x.bset ctD S mode size).1.size = size ∧ (x.bset ctD S mode size).1.out = []) := by
  obtain ⟨m, hb⟩ := h.b
  have hw := h.wr
  have hr : x.brefuse true mode size = bref mode size := by
    unfold SS.brefuse
    rw [if_neg (by simp [hb.refuse])]
  by_cases h0 : bref mode size = 0
  · have hq := bref_ok h0
    have hm : ∃ m' : Nat, brm mode size = (m' : Int) ∧ 1 ≤ m' := by
      obtain ⟨m', e1, -, e2, -⟩ := brm_nat h0
      exact ⟨m', e1, e2⟩
    obtain ⟨m', hm', hm1⟩ := hm
    have hol := hb.small2
    rcases hb.dir with hd | ⟨hd, he⟩
    · have hf : x.flush ctD S = ({ x with out := [], dir := 0 }, 0, ⟨S.b ++ x.out, S.pl, S.rd, S.wr + if x.out = [] then 0 else 1⟩) := by
        unfold SS.flush
        rw [if_neg (by simp [hb.refuse]), if_pos hd, ct_deliver x S hol, if_pos rfl]
      unfold SS.bset
      rw [hr, if_neg (by simp [h0]), hf]
      simp only [if_true]
      refine ⟨⟨⟨m', hb.wt, hq.1, hq.2.1, hq.2.2.1, hq.2.2.2, hm', by show 0 < m'; omega, hb.inn, hb.back, hb.closed, .inl hd⟩, ?_, ?_, h.rz⟩, fun _ => ⟨trivial, trivial, trivial⟩⟩
      · show S.b ++ x.out ++ [] = l
        rw [List.append_nil, h.all]
      · show S.wr + _ ≤ (S.b ++ x.out).length
        rw [List.length_append]
        split
        · omega
        · rename_i e; have := List.length_pos_iff.2 e; omega
    · have hf : x.flush ctD S = (x, 0, S) := by
        unfold SS.flush
        rw [if_neg (by simp [hb.refuse]), if_neg (by omega)]
      unfold SS.bset
      rw [hr, if_neg (by simp [h0]), hf]
      simp only [if_true]
      exact ⟨⟨⟨m', hb.wt, hq.1, hq.2.1, hq.2.2.1, hq.2.2.2, hm', by show x.out.length < m'; rw [he]; show 0 < m'; omega, hb.inn, hb.back, hb.closed, .inr ⟨hd, he⟩⟩, h.all, hw, h.rz⟩, fun _ => ⟨trivial, trivial, he⟩⟩
  · unfold SS.bset
    rw [hr, if_pos h0]
    exact ⟨h, fun e => absurd e h0⟩
theorem TkW.close {x : SS} {S : CtS} {l : List UInt8} (h : TkW x S l) : (x.close ctD S).2.1 = 0 ∧ (x.close ctD S).2.2.b = l := by
  obtain ⟨m, hb⟩ := h.b
  obtain ⟨p1, p2⟩ := gw_close (S := S) hb
  exact ⟨p1, by rw [p2]; exact h.all⟩
theorem TkW.small {x : SS} {S : CtS} {l : List UInt8} (h : TkW x S l) : x.out.length ≤ 65536 ∧ x.inn = [] ∧ x.back = [] := by
  obtain ⟨m, hb⟩ := h.b
  exact ⟨hb.small2, hb.inn, hb.back⟩
theorem TkW.bear {x : SS} {S : CtS} {l : List UInt8} (h : TkW x S l) (hl : l.length ≤ 2000) : S.rd + 2 ≤ 4611686018427387904 ∧ S.wr + 2 ≤ 4611686018427387904 ∧ S.b.length + 2 * 65536 ≤ 1000000000 := by
  have h1 := h.wr
  have h2 := h.rz
  have h4 : S.b.length ≤ l.length := by
    have := congrArg List.length h.all
    rw [List.length_append] at this
    omega
  omega
end Go.Proofs.Ytpffhemmjigfaaa

/- Buffers' modes: Set, over any Raw. -/
namespace Go.Proofs.Ytpffhemmjigfaaa
open Go.RowKit

theorem SOut.turned2 {S : Type} {At : World → (Nat → Prop) → S → Prop} (hT : ∀ s, OAt (fun w O => At w O s)) {w1 w2 wA wB : World} {O : Nat → Prop} {x x' : SS} {s : S} {o i b : Value} {g : Nat} (h : SOut At w1 O x s o i b w2) (hB : Below w2.heap.size w2 wA) (ht : Turned (fun k => k = g) wA wB) (e1 : x'.out = x.out) (e2 : x'.inn = x.inn) (e3 : x'.back = x.back) (hg : w2.heap.size ≤ g) : SOut At w1 O x' s o i b wB := by
  obtain ⟨O', h1, h2, h3, h4, h5⟩ := h
  have hzA := hB.size
  have hzB := ht.size
  have hz5 := h5.size
  have h6 := ((h1.below hB).turned ht (fun k e _ e' => by have := e.2.2; omega)).mono (Q := fun k => w1.heap.size ≤ k ∧ ¬ O' k ∧ k < wB.heap.size) fun k e => ⟨e.1, e.2.1, by have := e.2.2; omega⟩
  refine ⟨O', ⟨by rw [e1]; exact h6.so, by rw [e2]; exact h6.si, by rw [e3]; exact h6.sb, h6.po, h6.pi, h6.pb⟩, (hT s).keep ((hT s).keep h2 (fun j _ hj => hB.block j hj) hzA) (fun j e hj => ht.block j hj (fun e' => ?_)) hzB, fun j e => Nat.lt_of_lt_of_le (h3 j e) (by omega), h4, (h5.trans (Turned.of_below (S := O) hB) (fun _ _ e => e)).trans ht (fun k hk e => by omega)⟩
  have := h3 j e
  omega
set_option maxRecDepth 100000 in
set_option maxHeartbeats 4000000 in
theorem bset_any {S : Type} {D : RawD S} {T : TypeId} {v : Value} {fr fw : FuncId} {rok wok : S → Prop} {At : World → (Nat → Prop) → S → Prop} (R : RawM D T v fr fw rok wok At) (hT : ∀ s, OAt (fun w O => At w O s)) {G : Nat → S → Prop} (hG : Bears D rok wok G) {w : World} {O P : Nat → Prop} {s : S} {x : SS} {o i b : Value} (mode size : Int) (h : SIn w P x o i b) (hA : At w O s) (hO : ∀ j, O j → j < w.heap.size) (hg : G 2 s) (ho : x.out.length ≤ 140737488351232) (hi : x.inn.length ≤ 140737488351232) (hb : x.back.length ≤ 140737488351232) :
    Calls Try.prog 25 #[.agg #[.bool x.rd, .bool x.wt, .int .i64 x.mode, .int .i64 x.size, o, i, b, .int .i64 x.dir, .bool x.fin, .bool x.bad, .bool x.closed], .iface T v, .int .i64 mode, .int .i64 size] w fun e w' => ∃ o' i' b', e = .returned (.tuple #[.agg #[.bool (x.bset D s mode size).1.rd, .bool (x.bset D s mode size).1.wt, .int .i64 (x.bset D s mode size).1.mode, .int .i64 (x.bset D s mode size).1.size, o', i', b', .int .i64 (x.bset D s mode size).1.dir, .bool (x.bset D s mode size).1.fin, .bool (x.bset D s mode size).1.bad, .bool (x.bset D s mode size).1.closed], .int .i64 (x.bset D s mode size).2.1]) ∧ SOut At w O (x.bset D s mode size).1 (x.bset D s mode size).2.2 o' i' b' w' := by
  have HFl := hide (fun (W : World) (hW : Below w.heap.size w W) => sFlush_any R hT hG (h.below hW) ((hT s).keep hA (fun j _ hj => hW.block j hj) hW.size) (fun j e => Nat.lt_of_lt_of_le (hO j e) hW.size) hg ho hi hb)
  have HCp := hide (fun (W : World) (hW : Below w.heap.size w W) => bcopied_any x o i b P W (h.below hW) ho hi hb)
  obtain ⟨oa, oc, rfl, -⟩ := h.so
  obtain ⟨ia, ic, rfl, -⟩ := h.si
  obtain ⟨ba, bc, rfl, -⟩ := h.sb
  have HRf := hide (fun W => brefusal_any x oa ia ba oc ic bc T v mode size W hi hb)
  clear h
  generalize hq : x.bset D s mode size = q
  obtain ⟨qx, qe, qs⟩ := q
  unfold SS.bset at hq
  go_enter Try.func25, Try.ntmps25
  go_wp2_with fail
  have HB0 := hide ((recv_below w (Obj.cells #[.bool x.rd, .bool x.wt, .int .i64 x.mode, .int .i64 x.size, .slice oa x.out.length oc, .slice ia x.inn.length ic, .slice ba x.back.length bc, .int .i64 x.dir, .bool x.fin, .bool x.bad, .bool x.closed] 25)).trans ((recv_below (w.alloc (Obj.cells #[.bool x.rd, .bool x.wt, .int .i64 x.mode, .int .i64 x.size, .slice oa x.out.length oc, .slice ia x.inn.length ic, .slice ba x.back.length bc, .int .i64 x.dir, .bool x.fin, .bool x.bad, .bool x.closed] 25)) (Obj.cells #[.bool false, .bool false, .int .i64 0, .int .i64 0, .slice none 0 0, .slice none 0 0, .slice none 0 0, .int .i64 0, .bool false, .bool false, .bool false] 25)).mono (recv_below w (Obj.cells #[.bool x.rd, .bool x.wt, .int .i64 x.mode, .int .i64 x.size, .slice oa x.out.length oc, .slice ia x.inn.length ic, .slice ba x.back.length bc, .int .i64 x.dir, .bool x.fin, .bool x.bad, .bool x.closed] 25)).size))
  have HS0 := hide ((StAt.new w x (.slice oa x.out.length oc) (.slice ia x.inn.length ic) (.slice ba x.back.length bc)).below (recv_below _ (Obj.cells #[.bool false, .bool false, .int .i64 0, .int .i64 0, .slice none 0 0, .slice none 0 0, .slice none 0 0, .int .i64 0, .bool false, .bool false, .bool false] 25)))
  have HZ0 : Hid (((w.alloc (Obj.cells #[.bool x.rd, .bool x.wt, .int .i64 x.mode, .int .i64 x.size, .slice oa x.out.length oc, .slice ia x.inn.length ic, .slice ba x.back.length bc, .int .i64 x.dir, .bool x.fin, .bool x.bad, .bool x.closed] 25)).alloc (Obj.cells #[.bool false, .bool false, .int .i64 0, .int .i64 0, .slice none 0 0, .slice none 0 0, .slice none 0 0, .int .i64 0, .bool false, .bool false, .bool false] 25)).heap[w.heap.size + 1]? = some (Obj.cells #[.bool false, .bool false, .int .i64 0, .int .i64 0, .slice none 0 0, .slice none 0 0, .slice none 0 0, .int .i64 0, .bool false, .bool false, .bool false] 25)) := hide (by have := heap_alloc_new (w.alloc (Obj.cells #[.bool x.rd, .bool x.wt, .int .i64 x.mode, .int .i64 x.size, .slice oa x.out.length oc, .slice ia x.inn.length ic, .slice ba x.back.length bc, .int .i64 x.dir, .bool x.fin, .bool x.bad, .bool x.closed] 25)) (Obj.cells #[.bool false, .bool false, .int .i64 0, .int .i64 0, .slice none 0 0, .slice none 0 0, .slice none 0 0, .int .i64 0, .bool false, .bool false, .bool false] 25); rw [show (w.alloc (Obj.cells #[.bool x.rd, .bool x.wt, .int .i64 x.mode, .int .i64 x.size, .slice oa x.out.length oc, .slice ia x.inn.length ic, .slice ba x.back.length bc, .int .i64 x.dir, .bool x.fin, .bool x.bad, .bool x.closed] 25)).heap.size = w.heap.size + 1 from Array.size_push ..] at this; exact this)
  generalize (w.alloc (Obj.cells #[.bool x.rd, .bool x.wt, .int .i64 x.mode, .int .i64 x.size, .slice oa x.out.length oc, .slice ia x.inn.length ic, .slice ba x.back.length bc, .int .i64 x.dir, .bool x.fin, .bool x.bad, .bool x.closed] 25)).alloc (Obj.cells #[.bool false, .bool false, .int .i64 0, .int .i64 0, .slice none 0 0, .slice none 0 0, .slice none 0 0, .int .i64 0, .bool false, .bool false, .bool false] 25) = w0 at *
  have hz0 : w.heap.size + 1 < w0.heap.size := (Array.getElem?_eq_some_iff.1 HZ0.out).1
  refine (HRf.out _).mono ?_
  rintro _ w1 ⟨rfl, hB1⟩
  have HB1 := hide (HB0.out.trans (hB1.mono HB0.out.size))
  have HS1 := hide (HS0.out.below hB1)
  have HZ1 := hide ((hB1.block (w.heap.size + 1) hz0).trans HZ0.out)
  have hz1 := hB1.size
  clear hB1 HS0 HZ0 HB0 HRf
  obtain ⟨c0, c1, c2, c3, c4, c5, c6, c7, c8, c9, c10⟩ := HS1.out.cs
  by_cases hn : x.brefuse true mode size = 0
  case neg =>
    rw [if_pos hn] at hq
    obtain ⟨rfl, rfl, rfl⟩ : x = qx ∧ x.brefuse true mode size = qe ∧ s = qs := by simpa using hq
    obtain ⟨nw, hnw⟩ : ∃ nw, nw = x.brefuse true mode size := ⟨_, rfl⟩
    rw [← hnw] at hn ⊢
    have HNw := hide hnw
    have hn2 : (nw == 0) = false := by simp [hn]
    have hn3 : (nw != 0) = true := by simp [hn]
    clear hq hnw HFl
    go_wp2_with fail
    refine (HCp.out _ HB1.out).mono ?_
    rintro _ w2 ⟨o1, i1, b1, rfl, y3, y4, y5, hB2⟩
    have hOu := SOut.of_own hT ((hT s).keep hA (fun j _ hj => HB1.out.block j hj) HB1.out.size) (fun j e => Nat.lt_of_lt_of_le (hO j e) HB1.out.size) y3 y4 y5 hB2
    obtain ⟨a1, k1, rfl⟩ := owns_slice y3
    obtain ⟨a2, k2, rfl⟩ := owns_slice y4
    obtain ⟨a3, k3, rfl⟩ := owns_slice y5
    have HOu := hide hOu
    have HZ3 := hide ((hB2.block (w.heap.size + 1) (by omega)).trans HZ1.out)
    clear hOu y3 y4 y5 hB2 c0 c1 c2 c3 c4 c5 c6 c7 c8 c9 c10
    have z0 := cell_of_row w2 (w.heap.size + 1) 0 _ _ _ HZ3.out
    have z1 := cell_of_row w2 (w.heap.size + 1) 1 _ _ _ HZ3.out
    have z2 := cell_of_row w2 (w.heap.size + 1) 2 _ _ _ HZ3.out
    have z3 := cell_of_row w2 (w.heap.size + 1) 3 _ _ _ HZ3.out
    have z4 := cell_of_row w2 (w.heap.size + 1) 4 _ _ _ HZ3.out
    have z5 := cell_of_row w2 (w.heap.size + 1) 5 _ _ _ HZ3.out
    have z6 := cell_of_row w2 (w.heap.size + 1) 6 _ _ _ HZ3.out
    have z7 := cell_of_row w2 (w.heap.size + 1) 7 _ _ _ HZ3.out
    have z8 := cell_of_row w2 (w.heap.size + 1) 8 _ _ _ HZ3.out
    have z9 := cell_of_row w2 (w.heap.size + 1) 9 _ _ _ HZ3.out
    have z10 := cell_of_row w2 (w.heap.size + 1) 10 _ _ _ HZ3.out
    have u0 := frozen_of_row w2 (w.heap.size + 1) 0 _ _ HZ3.out
    have u1 := frozen_of_row w2 (w.heap.size + 1) 1 _ _ HZ3.out
    have u2 := frozen_of_row w2 (w.heap.size + 1) 2 _ _ HZ3.out
    have u3 := frozen_of_row w2 (w.heap.size + 1) 3 _ _ HZ3.out
    have u4 := frozen_of_row w2 (w.heap.size + 1) 4 _ _ HZ3.out
    have u5 := frozen_of_row w2 (w.heap.size + 1) 5 _ _ HZ3.out
    have u6 := frozen_of_row w2 (w.heap.size + 1) 6 _ _ HZ3.out
    have u7 := frozen_of_row w2 (w.heap.size + 1) 7 _ _ HZ3.out
    have u8 := frozen_of_row w2 (w.heap.size + 1) 8 _ _ HZ3.out
    have u9 := frozen_of_row w2 (w.heap.size + 1) 9 _ _ HZ3.out
    have u10 := frozen_of_row w2 (w.heap.size + 1) 10 _ _ HZ3.out
    simp at z0 z1 z2 z3 z4 z5 z6 z7 z8 z9 z10
    go_wp2
    obtain ⟨e1, e2⟩ := st_fill w2 (w.heap.size + 1) x (.slice a1 x.out.length k1) (.slice a2 x.inn.length k2) (.slice a3 x.back.length k3) HZ3.out
    refine bodyPost_ret (res_two rfl _ (w.heap.size + 1) rfl x _ _ _ e1) rfl ?_
    exact ⟨_, _, _, by rw [← HNw.out]; rfl, SOut.fin hT HOu.out HB1.out (by omega) (Nat.le_succ _) hO e2⟩
  rw [if_neg (by simp [hn])] at hq
  rw [hn]
  have hp := HFl.out _ HB1.out
  clear HFl HCp hn
  generalize x.flush D s = X at *
  obtain ⟨fx, fe, fs⟩ := X
  simp only at hp hq
  have HP := hide hp
  clear hp
  go_wp2_with fail
  refine HP.out.mono ?_
  rintro _ w2 ⟨o1, i1, b1, rfl, hS⟩
  obtain ⟨a1, k1, rfl, -⟩ := hS.choose_spec.1.so
  obtain ⟨a2, k2, rfl, -⟩ := hS.choose_spec.1.si
  obtain ⟨a3, k3, rfl, -⟩ := hS.choose_spec.1.sb
  have hTu : Turned O w1 w2 := by obtain ⟨_, _, _, _, _, t⟩ := hS; exact t
  have HOu := hide hS
  have hz2 := hTu.size
  have HS2 : Hid (StAt w2 w.heap.size x (.slice oa x.out.length oc) (.slice ia x.inn.length ic) (.slice ba x.back.length bc)) := hide ((hTu.block _ (by omega) (fun e => by have := hO _ e; omega)).trans HS1.out)
  have HZ2 := hide ((hTu.block (w.heap.size + 1) (by omega) (fun e => by have := hO _ e; omega)).trans HZ1.out)
  clear hS hTu HS1 HZ1 c0 c1 c2 c3 c4 c5 c6 c7 c8 c9 c10 HP
  have hBA := recv_below w2 (Obj.cells #[.bool fx.rd, .bool fx.wt, .int .i64 fx.mode, .int .i64 fx.size, .slice a1 fx.out.length k1, .slice a2 fx.inn.length k2, .slice a3 fx.back.length k3, .int .i64 fx.dir, .bool fx.fin, .bool fx.bad, .bool fx.closed] 25)
  have hzA : (w2.alloc (Obj.cells #[.bool fx.rd, .bool fx.wt, .int .i64 fx.mode, .int .i64 fx.size, .slice a1 fx.out.length k1, .slice a2 fx.inn.length k2, .slice a3 fx.back.length k3, .int .i64 fx.dir, .bool fx.fin, .bool fx.bad, .bool fx.closed] 25)).heap.size = w2.heap.size + 1 := Array.size_push ..
  have HSA := hide (HS2.out.below hBA)
  have HZA := hide ((hBA.block (w.heap.size + 1) (by omega)).trans HZ2.out)
  have HFA := hide (StAt.new w2 fx (.slice a1 fx.out.length k1) (.slice a2 fx.inn.length k2) (.slice a3 fx.back.length k3))
  have HOA := HOu
  have HBA := hide hBA
  have hg1 : w2.heap.size ≤ w2.heap.size := Nat.le_refl _
  have hzw : w.heap.size ≤ w1.heap.size := by omega
  clear HS2 HZ2 hBA HOu
  go_upto_region 5 with fail
  have hg2 : w.heap.size + 1 < w2.heap.size := by omega
  generalize w2.alloc (Obj.cells #[.bool fx.rd, .bool fx.wt, .int .i64 fx.mode, .int .i64 fx.size, .slice a1 fx.out.length k1, .slice a2 fx.inn.length k2, .slice a3 fx.back.length k3, .int .i64 fx.dir, .bool fx.fin, .bool fx.bad, .bool fx.closed] 25) = wA at *
  obtain ⟨g2, hg2e⟩ : ∃ g2, g2 = w2.heap.size := ⟨_, rfl⟩
  rw [← hg2e] at HFA hg2 ⊢
  have hg1 : w2.heap.size ≤ g2 := by omega
  have HG2 := hide hg2e
  clear hg2e
  obtain ⟨-, -, -, -, -, -, -, c7, -, -, -⟩ := HSA.out.cs
  have f7 := frozen_of_row _ g2 7 _ _ HFA.out
  have d7 := HFA.out.cs.2.2.2.2.2.2.2.1
  have e7 := Go.heap_setCell_same _ g2 7 _ _ (.int .i64 x.dir) HFA.out
  simp only [List.setIfInBounds_toArray, List.set_cons_zero, List.set_cons_succ] at e7
  have HT7 : Hid (Turned (fun k => k = g2) wA (wA.setCell ⟨g2, 7, none⟩ (.int .i64 x.dir))) := hide ((Turned.refl (fun k => k = g2) _).set (.inl rfl))
  have hg5 : g2 < wA.heap.size := (Array.getElem?_eq_some_iff.1 HFA.out).1
  have HZ5 := hide ((HT7.out.block (w.heap.size + 1) (by omega) (by omega)).trans HZA.out)
  go_upto_region 6 with fail
  clear c7 f7 d7
  generalize wA.setCell ⟨g2, 7, none⟩ (.int .i64 x.dir) = wB at *
  by_cases he : fe = 0
  · subst he
    rw [if_pos rfl] at hq
    obtain ⟨hq1, rfl, rfl⟩ : ({ fx with dir := x.dir, mode := mode, size := size } : SS) = qx ∧ 0 = qe ∧ fs = qs := by simpa using hq
    have f2 := frozen_of_row _ g2 2 _ _ e7
    have f3 := frozen_of_row _ g2 3 _ _ e7
    have m2 := cell_of_row _ g2 2 _ _ _ e7
    have m3 := cell_of_row _ g2 3 _ _ _ e7
    have e8 := Go.heap_setCell_same _ g2 2 _ _ (.int .i64 mode) e7
    simp only [List.setIfInBounds_toArray, List.set_cons_zero, List.set_cons_succ] at e8
    have f3b := frozen_of_row _ g2 3 _ _ e8
    have m3b := cell_of_row _ g2 3 _ _ _ e8
    have e9 := Go.heap_setCell_same _ g2 3 _ _ (.int .i64 size) e8
    simp only [List.setIfInBounds_toArray, List.set_cons_zero, List.set_cons_succ] at e9
    simp at m2 m3 m3b
    have hT8 : Turned (fun k => k = g2) wB ((wB.setCell ⟨g2, 2, none⟩ (.int .i64 mode)).setCell ⟨g2, 3, none⟩ (.int .i64 size)) := ((Turned.refl (fun k => k = g2) wB).set (j := 2) (u := .int .i64 mode) (.inl rfl)).set (j := 3) (u := .int .i64 size) (.inl rfl)
    have HT9 := hide (HT7.out.trans hT8 (fun _ _ e => e))
    have HZ9 := hide ((HT9.out.block (w.heap.size + 1) (by omega) (by omega)).trans HZA.out)
    have HE9 := hide e9
    have HQ1 := hide hq1
    clear hT8 e7 e8 e9 hq hq1 HT7 HZ5
    go_upto_region 8 with fail
    generalize (wB.setCell ⟨g2, 2, none⟩ (.int .i64 mode)).setCell ⟨g2, 3, none⟩ (.int .i64 size) = wC at *
    have HS9 : Hid (StAt wC g2 qx (.slice a1 fx.out.length k1) (.slice a2 fx.inn.length k2) (.slice a3 fx.back.length k3)) := hide (by rw [← HQ1.out]; exact HE9.out)
    have ho1 : fx.out = qx.out := by rw [← HQ1.out]
    have ho2 : fx.inn = qx.inn := by rw [← HQ1.out]
    have ho3 : fx.back = qx.back := by rw [← HQ1.out]
    have HOQ : Hid (SOut At w1 O qx fs (.slice a1 fx.out.length k1) (.slice a2 fx.inn.length k2) (.slice a3 fx.back.length k3) wC) := hide (SOut.turned2 hT HOA.out HBA.out HT9.out ho1.symm ho2.symm ho3.symm hg1)
    rw [ho1, ho2, ho3] at HS9 HOQ
    clear ho1 ho2 ho3 HE9 f2 f3 m2 m3 m3b f3b HQ1 HOA HT9
    obtain ⟨n0, n1, n2, n3, n4, n5, n6, n7, n8, n9, n10⟩ := HS9.out.cs
    have z0 := cell_of_row wC (w.heap.size + 1) 0 _ _ _ HZ9.out
    have z1 := cell_of_row wC (w.heap.size + 1) 1 _ _ _ HZ9.out
    have z2 := cell_of_row wC (w.heap.size + 1) 2 _ _ _ HZ9.out
    have z3 := cell_of_row wC (w.heap.size + 1) 3 _ _ _ HZ9.out
    have z4 := cell_of_row wC (w.heap.size + 1) 4 _ _ _ HZ9.out
    have z5 := cell_of_row wC (w.heap.size + 1) 5 _ _ _ HZ9.out
    have z6 := cell_of_row wC (w.heap.size + 1) 6 _ _ _ HZ9.out
    have z7 := cell_of_row wC (w.heap.size + 1) 7 _ _ _ HZ9.out
    have z8 := cell_of_row wC (w.heap.size + 1) 8 _ _ _ HZ9.out
    have z9 := cell_of_row wC (w.heap.size + 1) 9 _ _ _ HZ9.out
    have z10 := cell_of_row wC (w.heap.size + 1) 10 _ _ _ HZ9.out
    have u0 := frozen_of_row wC (w.heap.size + 1) 0 _ _ HZ9.out
    have u1 := frozen_of_row wC (w.heap.size + 1) 1 _ _ HZ9.out
    have u2 := frozen_of_row wC (w.heap.size + 1) 2 _ _ HZ9.out
    have u3 := frozen_of_row wC (w.heap.size + 1) 3 _ _ HZ9.out
    have u4 := frozen_of_row wC (w.heap.size + 1) 4 _ _ HZ9.out
    have u5 := frozen_of_row wC (w.heap.size + 1) 5 _ _ HZ9.out
    have u6 := frozen_of_row wC (w.heap.size + 1) 6 _ _ HZ9.out
    have u7 := frozen_of_row wC (w.heap.size + 1) 7 _ _ HZ9.out
    have u8 := frozen_of_row wC (w.heap.size + 1) 8 _ _ HZ9.out
    have u9 := frozen_of_row wC (w.heap.size + 1) 9 _ _ HZ9.out
    have u10 := frozen_of_row wC (w.heap.size + 1) 10 _ _ HZ9.out
    simp at z0 z1 z2 z3 z4 z5 z6 z7 z8 z9 z10
    go_wp2
    obtain ⟨e1, e2⟩ := st_fill wC (w.heap.size + 1) qx (.slice a1 qx.out.length k1) (.slice a2 qx.inn.length k2) (.slice a3 qx.back.length k3) HZ9.out
    refine bodyPost_ret (res_two rfl _ (w.heap.size + 1) rfl qx _ _ _ e1) rfl ?_
    exact ⟨_, _, _, rfl, SOut.fin hT HOQ.out HB1.out (by omega) (Nat.le_succ _) hO e2⟩
  · rw [if_neg he] at hq
    obtain ⟨hq1, rfl, rfl⟩ : ({ fx with dir := x.dir } : SS) = qx ∧ fe = qe ∧ fs = qs := by simpa using hq
    have he2 : (fe == 0) = false := by simpa using he
    have HE9 := hide e7
    have HQ1 := hide hq1
    have HT9 := HT7
    have HZ9 := HZ5
    clear e7 hq hq1 HT7 HZ5
    go_upto_region 8 with fail
    have HS9 : Hid (StAt wB g2 qx (.slice a1 fx.out.length k1) (.slice a2 fx.inn.length k2) (.slice a3 fx.back.length k3)) := hide (by rw [← HQ1.out]; exact HE9.out)
    have ho1 : fx.out = qx.out := by rw [← HQ1.out]
    have ho2 : fx.inn = qx.inn := by rw [← HQ1.out]
    have ho3 : fx.back = qx.back := by rw [← HQ1.out]
    have HOQ : Hid (SOut At w1 O qx fs (.slice a1 fx.out.length k1) (.slice a2 fx.inn.length k2) (.slice a3 fx.back.length k3) wB) := hide (SOut.turned2 hT HOA.out HBA.out HT9.out ho1.symm ho2.symm ho3.symm hg1)
    rw [ho1, ho2, ho3] at HS9 HOQ
    clear ho1 ho2 ho3 HE9 HQ1 HOA HT9
    obtain ⟨n0, n1, n2, n3, n4, n5, n6, n7, n8, n9, n10⟩ := HS9.out.cs
    have z0 := cell_of_row wB (w.heap.size + 1) 0 _ _ _ HZ9.out
    have z1 := cell_of_row wB (w.heap.size + 1) 1 _ _ _ HZ9.out
    have z2 := cell_of_row wB (w.heap.size + 1) 2 _ _ _ HZ9.out
    have z3 := cell_of_row wB (w.heap.size + 1) 3 _ _ _ HZ9.out
    have z4 := cell_of_row wB (w.heap.size + 1) 4 _ _ _ HZ9.out
    have z5 := cell_of_row wB (w.heap.size + 1) 5 _ _ _ HZ9.out
    have z6 := cell_of_row wB (w.heap.size + 1) 6 _ _ _ HZ9.out
    have z7 := cell_of_row wB (w.heap.size + 1) 7 _ _ _ HZ9.out
    have z8 := cell_of_row wB (w.heap.size + 1) 8 _ _ _ HZ9.out
    have z9 := cell_of_row wB (w.heap.size + 1) 9 _ _ _ HZ9.out
    have z10 := cell_of_row wB (w.heap.size + 1) 10 _ _ _ HZ9.out
    have u0 := frozen_of_row wB (w.heap.size + 1) 0 _ _ HZ9.out
    have u1 := frozen_of_row wB (w.heap.size + 1) 1 _ _ HZ9.out
    have u2 := frozen_of_row wB (w.heap.size + 1) 2 _ _ HZ9.out
    have u3 := frozen_of_row wB (w.heap.size + 1) 3 _ _ HZ9.out
    have u4 := frozen_of_row wB (w.heap.size + 1) 4 _ _ HZ9.out
    have u5 := frozen_of_row wB (w.heap.size + 1) 5 _ _ HZ9.out
    have u6 := frozen_of_row wB (w.heap.size + 1) 6 _ _ HZ9.out
    have u7 := frozen_of_row wB (w.heap.size + 1) 7 _ _ HZ9.out
    have u8 := frozen_of_row wB (w.heap.size + 1) 8 _ _ HZ9.out
    have u9 := frozen_of_row wB (w.heap.size + 1) 9 _ _ HZ9.out
    have u10 := frozen_of_row wB (w.heap.size + 1) 10 _ _ HZ9.out
    simp at z0 z1 z2 z3 z4 z5 z6 z7 z8 z9 z10
    go_wp2
    obtain ⟨e1, e2⟩ := st_fill wB (w.heap.size + 1) qx (.slice a1 qx.out.length k1) (.slice a2 qx.inn.length k2) (.slice a3 qx.back.length k3) HZ9.out
    refine bodyPost_ret (res_two rfl _ (w.heap.size + 1) rfl qx _ _ _ e1) rfl ?_
    exact ⟨_, _, _, rfl, SOut.fin hT HOQ.out HB1.out (by omega) (Nat.le_succ _) hO e2⟩
end Go.Proofs.Ytpffhemmjigfaaa

/- Two variables that hold states, each beside a Raw of its own; all of it apart. -/
namespace Go.Proofs.Ytpffhemmjigfaaa
open Go.RowKit

/-- The blocks of a variable, its lists and its Raw. -/
def Us (g : Nat) (O : Nat → Prop) (o i b : Value) (k : Nat) : Prop := k = g ∨ O k ∨ o.ownBlock = some k ∨ i.ownBlock = some k ∨ b.ownBlock = some k
theorem LV.us_lt {S : Type} {At : World → (Nat → Prop) → S → Prop} {w : World} {B g : Nat} {O : Nat → Prop} {x : SS} {s : S} {o i b : Value} (h : LV At w B g O x s o i b) {k : Nat} (e : Us g O o i b k) : k < w.heap.size := by
  rcases e with e | e | e | e | e
  · rw [e]; exact h.st.lt
  · exact h.ol k e
  · exact (h.ls.po k e).2.2.2
  · exact (h.ls.pi k e).2.2.2
  · exact (h.ls.pb k e).2.2.2
theorem LV.turned {S : Type} {At : World → (Nat → Prop) → S → Prop} (hT : ∀ s, OAt (fun w O => At w O s)) {w w' : World} {B g : Nat} {O Q : Nat → Prop} {x : SS} {s : S} {o i b : Value} (h : LV At w B g O x s o i b) (ht : Turned Q w w') (hq : ∀ k, Us g O o i b k → ¬ Q k) : LV At w' B g O x s o i b := by
  have hz := ht.size
  exact ⟨(ht.block g h.st.lt (hq g (.inl rfl))).trans h.st, ⟨h.ls.so.turned ht (fun k e _ => hq k (.inr (.inr (.inl e)))), h.ls.si.turned ht (fun k e _ => hq k (.inr (.inr (.inr (.inl e))))), h.ls.sb.turned ht (fun k e _ => hq k (.inr (.inr (.inr (.inr e))))), fun k e => by have := h.ls.po k e; exact ⟨this.1, this.2.1, this.2.2.1, by omega⟩, fun k e => by have := h.ls.pi k e; exact ⟨this.1, this.2.1, this.2.2.1, by omega⟩, fun k e => by have := h.ls.pb k e; exact ⟨this.1, this.2.1, this.2.2.1, by omega⟩⟩,
    (hT s).keep h.raw (fun j e hj => ht.block j hj (hq j (.inr (.inl e)))) hz, fun j e => Nat.lt_of_lt_of_le (h.ol j e) hz, h.ob, h.og, h.gB⟩
/-- Both. -/
structure V2 {S1 S2 : Type} (A1 : World → (Nat → Prop) → S1 → Prop) (A2 : World → (Nat → Prop) → S2 → Prop) (W : World) (B g1 : Nat) (O1 : Nat → Prop) (x1 : SS) (s1 : S1) (o1 i1 b1 : Value) (g2 : Nat) (O2 : Nat → Prop) (x2 : SS) (s2 : S2) (o2 i2 b2 : Value) : Prop where
  l1 : LV A1 W B g1 O1 x1 s1 o1 i1 b1
  l2 : LV A2 W B g2 O2 x2 s2 o2 i2 b2
  dj : ∀ k, Us g1 O1 o1 i1 b1 k → ¬ Us g2 O2 o2 i2 b2 k
theorem V2.swap {S1 S2 : Type} {A1 : World → (Nat → Prop) → S1 → Prop} {A2 : World → (Nat → Prop) → S2 → Prop} {W : World} {B g1 : Nat} {O1 : Nat → Prop} {x1 : SS} {s1 : S1} {o1 i1 b1 : Value} {g2 : Nat} {O2 : Nat → Prop} {x2 : SS} {s2 : S2} {o2 i2 b2 : Value} (h : V2 A1 A2 W B g1 O1 x1 s1 o1 i1 b1 g2 O2 x2 s2 o2 i2 b2) : V2 A2 A1 W B g2 O2 x2 s2 o2 i2 b2 g1 O1 x1 s1 o1 i1 b1 := ⟨h.l2, h.l1, fun k e e' => h.dj k e' e⟩
theorem V2.below {S1 S2 : Type} {A1 : World → (Nat → Prop) → S1 → Prop} {A2 : World → (Nat → Prop) → S2 → Prop} (hT1 : ∀ s, OAt (fun w O => A1 w O s)) (hT2 : ∀ s, OAt (fun w O => A2 w O s)) {W W' : World} {B g1 : Nat} {O1 : Nat → Prop} {x1 : SS} {s1 : S1} {o1 i1 b1 : Value} {g2 : Nat} {O2 : Nat → Prop} {x2 : SS} {s2 : S2} {o2 i2 b2 : Value} (h : V2 A1 A2 W B g1 O1 x1 s1 o1 i1 b1 g2 O2 x2 s2 o2 i2 b2) (hB : Below W.heap.size W W') : V2 A1 A2 W' B g1 O1 x1 s1 o1 i1 b1 g2 O2 x2 s2 o2 i2 b2 := ⟨h.l1.below hT1 hB, h.l2.below hT2 hB, h.dj⟩
/-- A call on the first, and what follows laid into its variable. -/
theorem V2.step {S1 S2 : Type} {A1 : World → (Nat → Prop) → S1 → Prop} {A2 : World → (Nat → Prop) → S2 → Prop} (hT1 : ∀ s, OAt (fun w O => A1 w O s)) (hT2 : ∀ s, OAt (fun w O => A2 w O s)) {w w1 : World} {B g1 : Nat} {O1 : Nat → Prop} {x1 x1' : SS} {s1 s1' : S1} {o1 i1 b1 o' i' b' : Value} {g2 : Nat} {O2 : Nat → Prop} {x2 : SS} {s2 : S2} {o2 i2 b2 : Value} (h : V2 A1 A2 w B g1 O1 x1 s1 o1 i1 b1 g2 O2 x2 s2 o2 i2 b2) (hB : B ≤ w.heap.size) (hS : SOut A1 w O1 x1' s1' o' i' b' w1) :
    StAt w1 g1 x1 o1 i1 b1 ∧ LV A2 w1 B g2 O2 x2 s2 o2 i2 b2 ∧ (∃ O', V2 A1 A2 (filled w1 g1 x1' o' i' b') B g1 O' x1' s1' o' i' b' g2 O2 x2 s2 o2 i2 b2) ∧ Turned (fun k => B ≤ k) w (filled w1 g1 x1' o' i' b') := by
  obtain ⟨hst, -, ht⟩ := LV.next hT1 h.l1 hB hS
  obtain ⟨O', q1, q2, q3, q4, q5⟩ := hS
  have hl1 := LV.next1 hT1 h.l1 hB O' q1 q2 q3 q4 q5
  have hl2 := h.l2.turned hT2 q5 (fun k e e' => h.dj k (.inr (.inl e')) e)
  obtain ⟨-, e2⟩ := st_fill2 w1 g1 x1 x1' o1 i1 b1 o' i' b' hst
  refine ⟨hst, hl2, ⟨O', hl1, hl2.turned hT2 e2 (fun k e e' => h.dj k (.inl e') e), fun k e e' => ?_⟩, ht⟩
  have hlt := h.l2.us_lt e'
  rcases e with e | e | e | e | e
  · exact h.dj k (.inl e) e'
  · rcases q4 k e with e | e
    · exact h.dj k (.inr (.inl e)) e'
    · omega
  · have := (q1.po k e).1; omega
  · have := (q1.pi k e).1; omega
  · have := (q1.pb k e).1; omega
end Go.Proofs.Ytpffhemmjigfaaa

/- BufmodeTrue: the walk. -/
namespace Go.Proofs.Ytpffhemmjigfaaa
open Go.RowKit

theorem newW_bref (mode size : Int) : SS.new moW mode size = if bref mode size = 0 then (xW mode size, 0) else (ss0, bref mode size) := by
  rw [new_W]
  by_cases h1 : 1 ≤ mode ∧ mode ≤ 3
  · by_cases h2 : 1 ≤ size ∧ size ≤ 65536
    · have e : bref mode size = 0 := by unfold bref; rw [if_neg (by omega), if_neg (by omega)]
      rw [if_pos h1, if_pos h2, e, if_pos rfl]
    · have e : bref mode size = 4 := by unfold bref; rw [if_neg (by omega), if_pos (by omega)]
      rw [if_pos h1, if_neg h2, e, if_neg (by decide)]
  · have e : bref mode size = 1 := by unfold bref; rw [if_pos (by omega)]
    rw [if_neg h1, e, if_neg (by decide)]
theorem newR_bref (mode size : Int) : SS.new moR mode size = if bref mode size = 0 then (xR mode size, 0) else (ss0, bref mode size) := by
  rw [new_R]
  by_cases h1 : 1 ≤ mode ∧ mode ≤ 3
  · by_cases h2 : 1 ≤ size ∧ size ≤ 65536
    · have e : bref mode size = 0 := by unfold bref; rw [if_neg (by omega), if_neg (by omega)]
      rw [if_pos h1, if_pos h2, e, if_pos rfl]
    · have e : bref mode size = 4 := by unfold bref; rw [if_neg (by omega), if_pos (by omega)]
      rw [if_pos h1, if_neg h2, e, if_neg (by decide)]
  · have e : bref mode size = 1 := by unfold bref; rw [if_pos (by omega)]
    rw [if_neg h1, e, if_neg (by decide)]
theorem GwW.bear {x : SS} {S : CtS} {t : List UInt8} {k m N : Nat} {md : Int} (h : GwW x S t k m N md) (hl : t.length ≤ 3000) (hN : N ≤ 3000) : S.rd + 2 ≤ 4611686018427387904 ∧ S.wr + 2 ≤ 4611686018427387904 ∧ S.b.length + 2 * 65536 ≤ 1000000000 := by
  have h1 := h.few
  have h2 := h.rz
  have h4 : S.b.length ≤ t.length := by
    have := congrArg List.length h.all
    rw [List.length_append, List.length_take] at this
    omega
  omega
theorem GwR.bear {x : SS} {S : CtS} {t : List UInt8} {i m : Nat} (h : GwR x S t i m) (hl : t.length ≤ 3000) : S.rd + 2 ≤ 4611686018427387904 ∧ S.wr + 2 ≤ 4611686018427387904 ∧ S.b.length + 2 * 65536 ≤ 1000000000 := by
  have h2 := h.wz
  have h3 := h.rdle
  have h4 := h.all
  rw [h4]
  omega
theorem GwB.small {x : SS} {m : Nat} (h : GwB x m) : x.out.length ≤ 65536 := by
  have h1 := h.ol
  have h2 := h.hm
  have h3 := h.s2
  unfold brm at h2
  split at h2 <;> omega
theorem LV.beside {S1 S2 : Type} {A1 : World → (Nat → Prop) → S1 → Prop} {A2 : World → (Nat → Prop) → S2 → Prop} (hT1 : ∀ s, OAt (fun w O => A1 w O s)) (hT2 : ∀ s, OAt (fun w O => A2 w O s)) {w w1 : World} {B g : Nat} {O P : Nat → Prop} {x x' : SS} {s s' : S2} {s1 : S1} {o i b o' i' b' : Value} (h : LV A2 w B g O x s o i b) (hC : A1 w P s1) (hd : ∀ k, Us g O o i b k → ¬ P k) (hP : ∀ k, P k → k < w.heap.size) (hB : B ≤ w.heap.size) (hS : SOut A2 w O x' s' o' i' b' w1) :
    StAt w1 g x o i b ∧ (∃ O', LV A2 (filled w1 g x' o' i' b') B g O' x' s' o' i' b' ∧ A1 (filled w1 g x' o' i' b') P s1 ∧ (∀ k, Us g O' o' i' b' k → ¬ P k) ∧ (∀ k, P k → k < (filled w1 g x' o' i' b').heap.size)) ∧ Turned (fun k => B ≤ k) w (filled w1 g x' o' i' b') := by
  obtain ⟨hst, -, ht⟩ := LV.next hT2 h hB hS
  obtain ⟨O', q1, q2, q3, q4, q5⟩ := hS
  have hl := LV.next1 hT2 h hB O' q1 q2 q3 q4 q5
  obtain ⟨-, e2⟩ := st_fill2 w1 g x x' o i b o' i' b' hst
  have hz := q5.size
  have hz2 := e2.size
  refine ⟨hst, ⟨O', hl, (hT1 s1).keep ((hT1 s1).keep hC (fun j e hj => q5.block j hj (fun e' => hd j (.inr (.inl e')) e)) hz) (fun j e hj => e2.block j hj (fun e' => hd j (.inl e') e)) hz2, fun k e e' => ?_, fun k e => by have := hP k e; omega⟩, ht⟩
  have hlt := hP k e'
  rcases e with e | e | e | e | e
  · exact hd k (.inl e) e'
  · rcases q4 k e with e | e
    · exact hd k (.inr (.inl e)) e'
    · omega
  · have := (q1.po k e).1; omega
  · have := (q1.pi k e).1; omega
  · have := (q1.pb k e).1; omega
theorem mod_twice (n M : Int) (h : M = (wrap64 (n.tmod 4000 + 4000)).tmod 4000) : 0 ≤ M ∧ M < 4000 := by
  have h1 := Int.lt_tmod_of_pos n (show (0 : Int) < 4000 by omega)
  have h2 := Int.tmod_lt_of_pos n (show (0 : Int) < 4000 by omega)
  have h3 : 0 ≤ n.tmod 4000 + 4000 := by omega
  have h4 : wrap64 (n.tmod 4000 + 4000) = n.tmod 4000 + 4000 := by unfold wrap64; omega
  rw [h4] at h
  rw [Int.tmod_eq_emod_of_nonneg h3] at h
  omega

end Go.Proofs.Ytpffhemmjigfaaa

/- BufmodeTaken: the walk. -/
namespace Go.Proofs.Ytpffhemmjigfaaa
open Go.RowKit

theorem bnum_same (x : Int) (w : World) : Calls Try.prog 24 #[.int .i64 x] w fun e w' => e = .returned (.int .i64 x) ∧ w' = w := (bnum_is x w).mono fun _ _ h => ⟨h.1, h.2.symm⟩
set_option linter.unusedSimpArgs false in
set_option maxRecDepth 100000 in
set_option maxHeartbeats 40000000 in
theorem btaken_any (mode size : Int) (va : Option Addr) (vn vc : Nat) (t : List UInt8) (ra : Option Addr) (rc : Nat) (L : List Trn) (w : World) (hb : Bys w (.slice va vn vc) t) (hc : t.length ≤ vc) (hr : Trns w (.slice ra L.length rc) L) (hLl : L.length ≤ 140737488351232) :
    Calls Try.prog 7 #[.slice va vn vc, .int .i64 mode, .int .i64 size, .slice ra L.length rc] w fun e w' => e = .returned (.bool true) ∧ Below w.heap.size w w' := by
  obtain rfl := bys_len12 hb
  have HBy := hide hb
  have HTn := hide hr
  clear hb hr
  go_enter Try.func7, Try.ntmps7
  go_wp2_with fail
  refine (balive_any _).mono ?_
  rintro _ w1 ⟨rfl, hB1⟩
  have HB1 := hide hB1
  clear hB1
  have hN := fun W => sNew_any moW mode size W
  rw [newW_bref] at hN
  unfold mv at hN
  by_cases hs : bref mode size = 0
  case neg =>
    rw [if_neg hs] at hN
    simp only at hN
    generalize bref mode size = q at *
    have HN := hide hN
    have hs2 : (q == 0) = false := by simpa using hs
    have hs3 : (q != 0) = true := by simpa using hs
    clear hN
    go_wp2_with fail
    refine (HN.out _).mono ?_
    rintro _ w2 ⟨rfl, hB2⟩
    have HB2 := hide (HB1.out.trans (hB2.mono HB1.out.size))
    clear hB2
    go_wp2_with (first | (go_at_call 24; refine (bnum_is _ _).mono ?_; rintro _ _ ⟨rfl, rfl⟩) | fail)
    go_ret
    exact ⟨rfl, HB2.out.trans ((recv_below w2 _).mono HB2.out.size)⟩
  rw [if_pos hs] at hN
  simp only at hN
  have HN := hide hN
  obtain ⟨m, hm, hmt, hm1, hm2⟩ := brm_nat hs
  obtain ⟨q1, q2, q3, q4⟩ := bref_ok hs
  clear hN
  go_wp2_with fail
  refine (HN.out _).mono ?_
  rintro _ w2 ⟨rfl, hB2⟩
  have HB2 := hide (HB1.out.trans (hB2.mono HB1.out.size))
  have hz2 := HB2.out.size
  clear hB2 HN HB1
  go_wp2_with (first | (go_at_call 24; refine (bnum_is _ _).mono ?_; rintro _ _ ⟨rfl, rfl⟩) | fail)
  have hgs : (w2.alloc (Obj.cells #[.bool (xW mode size).rd, .bool (xW mode size).wt, .int .i64 (xW mode size).mode, .int .i64 (xW mode size).size, .slice none 0 0, .slice none 0 0, .slice none 0 0, .int .i64 (xW mode size).dir, .bool (xW mode size).fin, .bool (xW mode size).bad, .bool (xW mode size).closed] 25)).heap.size = w2.heap.size + 1 := Array.size_push ..
  have hBa := recv_below w2 (Obj.cells #[.bool (xW mode size).rd, .bool (xW mode size).wt, .int .i64 (xW mode size).mode, .int .i64 (xW mode size).size, .slice none 0 0, .slice none 0 0, .slice none 0 0, .int .i64 (xW mode size).dir, .bool (xW mode size).fin, .bool (xW mode size).bad, .bool (xW mode size).closed] 25)
  have hBc := recv_below (w2.alloc (Obj.cells #[.bool (xW mode size).rd, .bool (xW mode size).wt, .int .i64 (xW mode size).mode, .int .i64 (xW mode size).size, .slice none 0 0, .slice none 0 0, .slice none 0 0, .int .i64 (xW mode size).dir, .bool (xW mode size).fin, .bool (xW mode size).bad, .bool (xW mode size).closed] 25)) (Obj.cells #[.slice none 0 0, .int .i64 0, .int .i64 0, .int .i64 0] 49)
  have HS3 := hide ((StAt.new w2 (xW mode size) (.slice none 0 0) (.slice none 0 0) (.slice none 0 0)).below hBc)
  have HC3 : Hid (CtB ((w2.alloc (Obj.cells #[.bool (xW mode size).rd, .bool (xW mode size).wt, .int .i64 (xW mode size).mode, .int .i64 (xW mode size).size, .slice none 0 0, .slice none 0 0, .slice none 0 0, .int .i64 (xW mode size).dir, .bool (xW mode size).fin, .bool (xW mode size).bad, .bool (xW mode size).closed] 25)).alloc (Obj.cells #[.slice none 0 0, .int .i64 0, .int .i64 0, .int .i64 0] 49)) (w2.heap.size + 1) (.slice none 0 0) ⟨[], 0, 0, 0⟩) := hide (by have := heap_alloc_new (w2.alloc (Obj.cells #[.bool (xW mode size).rd, .bool (xW mode size).wt, .int .i64 (xW mode size).mode, .int .i64 (xW mode size).size, .slice none 0 0, .slice none 0 0, .slice none 0 0, .int .i64 (xW mode size).dir, .bool (xW mode size).fin, .bool (xW mode size).bad, .bool (xW mode size).closed] 25)) (Obj.cells #[.slice none 0 0, .int .i64 0, .int .i64 0, .int .i64 0] 49); rw [hgs] at this; exact this)
  have HB3 := hide (HB2.out.trans ((hBa.trans (hBc.mono hBa.size)).mono HB2.out.size))
  clear hBa hBc
  generalize (w2.alloc (Obj.cells #[.bool (xW mode size).rd, .bool (xW mode size).wt, .int .i64 (xW mode size).mode, .int .i64 (xW mode size).size, .slice none 0 0, .slice none 0 0, .slice none 0 0, .int .i64 (xW mode size).dir, .bool (xW mode size).fin, .bool (xW mode size).bad, .bool (xW mode size).closed] 25)).alloc (Obj.cells #[.slice none 0 0, .int .i64 0, .int .i64 0, .int .i64 0] 49) = w3 at *
  obtain ⟨gw, hgw⟩ : ∃ gw, gw = w2.heap.size + 1 := ⟨_, rfl⟩
  obtain ⟨B, hBq⟩ : ∃ B, B = w2.heap.size := ⟨_, rfl⟩
  rw [← hgw] at HC3
  rw [← hBq] at HS3
  rw [← hgw, ← hBq]
  have hc3 := HC3.out.lt
  have hno : ∀ k, (Value.slice none 0 0).ownBlock = some k → False := fun k e => by simp [Value.ownBlock] at e
  have HV : Hid (LV (CtAt gw) w3 B B (fun k => k = gw) (xW mode size) ⟨[], 0, 0, 0⟩ (.slice none 0 0) (.slice none 0 0) (.slice none 0 0)) := hide
    ⟨HS3.out, SIn.nils rfl rfl rfl, ⟨_, HC3.out, World.ownsRow_nil _ _ _ _, fun k e => (hno k e).elim, rfl, Nat.le_refl _, by simp⟩, fun j e => by have e2 : j = gw := e; omega, fun j e => by have e2 : j = gw := e; omega, fun e => by have e2 : B = gw := e; omega, Nat.le_refl _⟩
  have HF : Hid (TkW (xW mode size) ⟨[], 0, 0, 0⟩ (t.take 0)) := hide ⟨⟨m, ⟨rfl, q1, q2, q3, q4, hm, by show 0 < m; omega, rfl, rfl, rfl, .inr ⟨rfl, rfl⟩⟩⟩, rfl, Nat.le_refl _, rfl⟩
  have hBw : w.heap.size ≤ B := by omega
  have hB3 : B ≤ w3.heap.size := by omega
  clear HS3 HC3 hno hc3 hgs hz2 hm hmt hm1 hm2 hs q1 q2 q3 q4 HB2 hgw hBq
  go_loopg [12] (min t.length 2000) (fun gq s12 wx => ∃ (k : Nat) (x : SS) (S : CtS) (o i c : Value) (O : Nat → Prop), k + gq = min t.length 2000 ∧ s12 = .int .i64 k ∧ Hid (LV (CtAt gw) wx B B O x S o i c) ∧ Hid (TkW x S (t.take k)) ∧ Hid (Below w.heap.size w wx) ∧ B ≤ wx.heap.size)
  case atStart => exact ⟨0, _, _, _, _, _, _, by omega, rfl, HV, HF, HB3, hB3⟩
  case round =>
    clear HV HF HB3 hB3
    obtain ⟨k, x, S, o, i, c, O, hkg, rfl, HV, HF, HB, hBz⟩ := hrel
    by_cases hlt : k < min t.length 2000
    case neg =>
      obtain ⟨oa, oc, eo, -⟩ := HV.out.ls.so
      obtain ⟨ia, ic, ei, -⟩ := HV.out.ls.si
      obtain ⟨ba, bc, eb, -⟩ := HV.out.ls.sb
      subst eo ei eb
      have hkk : k = min t.length 2000 := by omega
      have htl : (t.take k).length ≤ 2000 := by rw [List.length_take]; omega
      obtain ⟨t1, t2⟩ := HF.out.close
      obtain ⟨g1, g2, g3⟩ := HF.out.small
      have hp := sClose_any (ct_raw gw) (fun s => ct_o gw s) ct_bears HV.out.ls HV.out.raw HV.out.ol (HF.out.bear htl) (by omega) (by rw [g2]; decide) (by rw [g3]; decide)
      generalize x.close ctD S = X at *
      obtain ⟨x', e', S'⟩ := X
      simp only at hp t1 t2
      subst t1
      have HP := hide hp
      have HT2 := hide t2
      obtain ⟨m0, m1', m2', m3', m4', m5', m6', m7', m8', m9', m10'⟩ := HV.out.st.cs
      have hmn : min (t.length : Int) 2000 = (k : Int) := by omega
      have hkv : (k : Int) ≤ (vc : Int) := by omega
      have hkl : k ≤ t.length := by omega
      have HBk : Hid (Bys w (.slice va k vc) (t.take k)) := hide (by
        by_cases h0 : 0 < t.length
        · obtain ⟨-, qb, qo, rfl, -⟩ := bys_block HBy.out h0
          have := bys_cut HBy.out 0 k vc (by omega)
          rwa [List.drop_zero] at this
        · obtain rfl : k = 0 := by omega
          rw [List.take_zero]
          obtain ⟨a9, c9, e9, -⟩ := bys_form HBy.out
          have hz : t.length = 0 := by omega
          rcases HBy.out with ⟨e, -⟩ | ⟨a8, c8, e, -⟩ | ⟨_, _, _, _, h9, _⟩
          · rw [hz] at e; exact .inl ⟨e, rfl⟩
          · rw [hz] at e; exact .inr (.inl ⟨_, _, e, rfl⟩)
          · omega)
      have htk : (t.take k).length = k := by rw [List.length_take]; omega
      have hcase : ((k : Int) < (t.length : Int) ∧ ¬ (k : Int) < 2000) ∨ ¬ (k : Int) < (t.length : Int) := by
        by_cases h1 : (k : Int) < (t.length : Int)
        · exact .inl ⟨h1, by omega⟩
        · exact .inr h1
      clear hp t2 htl g1 g2 g3 hkk HF
      generalize hgt : t.take k = t' at *
      have HGt := hide hgt
      subst htk
      clear hgt
      have hk0 : (0 : Int) ≤ (t'.length : Int) := by omega
      rcases hcase with ⟨h1, h2⟩ | h1
      all_goals
        go_wp2_with fail
        refine HP.out.mono ?_
        rintro _ w5' ⟨o', i', b'', rfl, hS⟩
        obtain ⟨O', s1, s2, s3, s4, s5⟩ := hS
        obtain ⟨a1, k1, rfl, -⟩ := s1.so
        obtain ⟨a2, k2, rfl, -⟩ := s1.si
        obtain ⟨a3, k3, rfl, -⟩ := s1.sb
        have HBz : Hid (Below w.heap.size w w5') := hide (HB.out.trans (s5.below (fun k e => Nat.le_trans hBw (HV.out.ob k e)) HB.out.size))
        obtain ⟨v1, y1, y2, -⟩ := s2
        have z0 := y1.cs.1
        have HGl := hide y1.lt
        rw [HT2.out] at y2
        have HYb := hide (Bys.of_owns y2)
        obtain ⟨va1, vc1, rfl⟩ := owns_slice y2
        clear s1 s3 s4 s5 y1 y2 m0 m1' m2' m3' m4' m5' m6' m7' m8' m9' m10' HP
        go_upto_region 23 with fail
        have hBt := recv_below w5' (Obj.cells #[.bool x'.rd, .bool x'.wt, .int .i64 x'.mode, .int .i64 x'.size, .slice a1 x'.out.length k1, .slice a2 x'.inn.length k2, .slice a3 x'.back.length k3, .int .i64 x'.dir, .bool x'.fin, .bool x'.bad, .bool x'.closed] 25)
        have z1 := (hBt.cell (p := ⟨gw, 0, none⟩) HGl.out).trans z0
        have HBy2 := hide (HBk.out.below (HBz.out.trans (hBt.mono HBz.out.size)))
        have HYb2 := hide (HYb.out.below hBt)
        have HBz2 := hide (HBz.out.trans (hBt.mono HBz.out.size))
        generalize w5'.alloc (Obj.cells #[.bool x'.rd, .bool x'.wt, .int .i64 x'.mode, .int .i64 x'.size, .slice a1 x'.out.length k1, .slice a2 x'.inn.length k2, .slice a3 x'.back.length k3, .int .i64 x'.dir, .bool x'.fin, .bool x'.bad, .bool x'.closed] 25) = wE at *
        have HSd := hide (same_any (.slice va1 t'.length vc1) (.slice va t'.length vc) t' wE.drew (HYb2.out.below (Below.refl _ _).drew) (HBy2.out.below (Below.refl _ _).drew) (by unfold maxLen; omega))
        have HKa := hide (fun (W : World) (hW : Below wE.heap.size wE W) => (show W.cell? ⟨gw, 0, none⟩ = some (.slice va1 t'.length vc1) from (hW.cell (World.block_lt_of_cell? wE _ z1)).trans z1))
        clear z0 z1 hBt
        go_region_held3 (fun W => W.cell? ⟨gw, 0, none⟩ = some (.slice va1 t'.length vc1)) (first | exact HKa.out _ HB6.out | exact HKa.out _ (Below.refl _ _).drew) (first
          | (go_at_call 17; refine HSd.out.mono ?_; rintro _ w6' ⟨rfl, hB6'⟩; have HB6 : Hid (Below wE.heap.size wE w6') := hide ((Below.refl _ wE).drew.trans hB6'); clear hB6')
          | (go_at_call 24; refine (bnum_is _ _).mono ?_; rintro _ _ ⟨rfl, rfl⟩) | fail)
        go_wp2
        go_ret
        exact ⟨rfl, HBz2.out.trans (HB6.out.mono HBz2.out.size)⟩
    obtain ⟨gq, rfl⟩ : ∃ gq, gk = gq + 1 := ⟨gk - 1, by omega⟩
    have hk1 : (0 : Int) ≤ (k : Int) := by omega
    have hk2 : (k : Int) < (t.length : Int) := by omega
    have hk3 : (k : Int) < 2000 := by omega
    have htl : (t.take k).length ≤ 2000 := by rw [List.length_take]; omega
    go_wp2_with fail
    go_loopg [13] L.length (fun gj s13 wx => ∃ (j : Nat) (x : SS) (S : CtS) (o i c : Value) (O : Nat → Prop), j + gj = L.length ∧ s13 = .int .i64 j ∧ Hid (LV (CtAt gw) wx B B O x S o i c) ∧ Hid (TkW x S (t.take k)) ∧ Hid (Below w.heap.size w wx) ∧ B ≤ wx.heap.size)
    case atStart => exact ⟨0, _, _, _, _, _, _, by omega, rfl, HV, HF, HB, hBz⟩
    case round =>
      clear HV HF HB hBz
      obtain ⟨j, x, S, o, i, c, O, hjg, rfl, HV, HF, HB, hBz⟩ := hrel
      obtain ⟨oa, oc, eo, -⟩ := HV.out.ls.so
      obtain ⟨ia, ic, ei, -⟩ := HV.out.ls.si
      obtain ⟨ba, bc, eb, -⟩ := HV.out.ls.sb
      subst eo ei eb
      by_cases hlj : j < L.length
      case neg =>
        obtain rfl : j = L.length := by omega
        have hlj' : ¬ (L.length : Int) < (L.length : Int) := by omega
        obtain ⟨-, qb, qo, rfl, hqb, hcell⟩ := bys_block HBy.out (by omega)
        have d1 := (HB.out.cell (World.block_lt_of_cell? w _ (hcell k (by omega)))).trans (hcell k (by omega))
        have hBZ : Below wr.heap.size wr (wr.alloc (Obj.cells #[.bool false, .bool false, .int .i64 0, .int .i64 0, .slice none 0 0, .slice none 0 0, .slice none 0 0, .int .i64 0, .bool false, .bool false, .bool false] 25)).drew := (recv_below wr (Obj.cells #[.bool false, .bool false, .int .i64 0, .int .i64 0, .slice none 0 0, .slice none 0 0, .slice none 0 0, .int .i64 0, .bool false, .bool false, .bool false] 25)).trans (Below.refl _ _).drew
        have d1z := (hBZ.cell (World.block_lt_of_cell? wr _ d1)).trans d1
        obtain ⟨t1, t2⟩ := HF.out.put (t.getD k 0)
        obtain ⟨g1, g2, g3⟩ := HF.out.small
        have htm : t.take (k + 1) = t.take k ++ [t.getD k 0] := take_more t k (by omega)
        rw [← htm] at t2
        clear htm
        generalize t.getD k 0 = ch at *
        have hzZ : (wr.alloc (Obj.cells #[.bool false, .bool false, .int .i64 0, .int .i64 0, .slice none 0 0, .slice none 0 0, .slice none 0 0, .int .i64 0, .bool false, .bool false, .bool false] 25)).heap.size = wr.heap.size + 1 := Array.size_push ..
        have HVd := hide (HV.out.below (fun s => ct_o gw s) (Below.refl _ wr).drew)
        have HVz := hide (HV.out.below (fun s => ct_o gw s) hBZ)
        have hp := sPut_any (ct_raw gw) (fun s => ct_o gw s) ct_bears ch HVd.out.ls HVd.out.raw HVd.out.ol (HF.out.bear htl) (by omega) (by rw [g2]; decide) (by rw [g3]; decide)
        have hpz := sPut_any (ct_raw gw) (fun s => ct_o gw s) ct_bears ch HVz.out.ls HVz.out.raw HVz.out.ol (HF.out.bear htl) (by omega) (by rw [g2]; decide) (by rw [g3]; decide)
        generalize x.put ctD S ch = X at *
        obtain ⟨x', e', S'⟩ := X
        simp only at hp hpz t1 t2
        subst t1
        have HP := hide hp
        have HPz := hide hpz
        have HF2 := hide t2
        have HZ0 : Hid ((wr.alloc (Obj.cells #[.bool false, .bool false, .int .i64 0, .int .i64 0, .slice none 0 0, .slice none 0 0, .slice none 0 0, .int .i64 0, .bool false, .bool false, .bool false] 25)).drew.heap[wr.heap.size]? = some (Obj.cells #[.bool false, .bool false, .int .i64 0, .int .i64 0, .slice none 0 0, .slice none 0 0, .slice none 0 0, .int .i64 0, .bool false, .bool false, .bool false] 25)) := hide (heap_alloc_new wr (Obj.cells #[.bool false, .bool false, .int .i64 0, .int .i64 0, .slice none 0 0, .slice none 0 0, .slice none 0 0, .int .i64 0, .bool false, .bool false, .bool false] 25))
        obtain ⟨m0, m1', m2', m3', m4', m5', m6', m7', m8', m9', m10'⟩ := HV.out.st.cs
        obtain ⟨n0, n1, n2, n3, n4, n5, n6, n7, n8, n9, n10⟩ := HVz.out.st.cs
        have HLow : Hid (qb < B ∧ qb < wr.heap.size) := hide ⟨by omega, by have := HB.out.size; omega⟩
        have hgB := HV.out.st.lt
        have HSn : Hid (∀ W W', Below wr.heap.size wr W → Turned O W W' → (fun W => StAt W B x (.slice oa x.out.length oc) (.slice ia x.inn.length ic) (.slice ba x.back.length bc) ∧ W.cell? ⟨qb, qo + k, none⟩ = some (.int .u8 (ch.toNat : Int))) W') := hide (fun W W' hW hT => ⟨(hT.block B (Nat.lt_of_lt_of_le hgB hW.size) HV.out.og).trans (HV.out.st.below hW), hT.cell ((hW.cell (World.block_lt_of_cell? wr _ d1)).trans d1) (fun e => by have h1 := HV.out.ob _ e; have h2 := HLow.out; simp only at h1; omega)⟩)
        have HSt : Hid (∀ W W', (fun W => StAt W B x (.slice oa x.out.length oc) (.slice ia x.inn.length ic) (.slice ba x.back.length bc) ∧ W.cell? ⟨qb, qo + k, none⟩ = some (.int .u8 (ch.toNat : Int))) W → Turned (fun k => k = wr.heap.size) W W' → (fun W => StAt W B x (.slice oa x.out.length oc) (.slice ia x.inn.length ic) (.slice ba x.back.length bc) ∧ W.cell? ⟨qb, qo + k, none⟩ = some (.int .u8 (ch.toNat : Int))) W') := hide (fun W W' h hT => ⟨(hT.block B h.1.lt (by omega)).trans h.1, hT.cell h.2 (fun e => by have h1 : _ = wr.heap.size := e; have h2 := HLow.out; simp only at h1; omega)⟩)
        have HSb : Hid (∀ W W', (fun W => StAt W B x (.slice oa x.out.length oc) (.slice ia x.inn.length ic) (.slice ba x.back.length bc) ∧ W.cell? ⟨qb, qo + k, none⟩ = some (.int .u8 (ch.toNat : Int))) W → Below W.heap.size W W' → (fun W => StAt W B x (.slice oa x.out.length oc) (.slice ia x.inn.length ic) (.slice ba x.back.length bc) ∧ W.cell? ⟨qb, qo + k, none⟩ = some (.int .u8 (ch.toNat : Int))) W') := hide (fun W W' h hB => ⟨h.1.below hB, (hB.cell (World.block_lt_of_cell? W _ h.2)).trans h.2⟩)
        clear hp hpz t2 g1 g2 g3 hBZ hqb hcell
        go_upto_region 18 with fail
        go_cut [16, 17] (fun p14 e15 wx => ∃ (gt : Nat) (a1 a2 a3 : Option Addr) (k1 k2 k3 : Nat), p14 = .pointer (some ⟨gt, 0, none⟩) ∧ e15 = .int .i64 0 ∧ Hid (StAt wx gt x' (.slice a1 x'.out.length k1) (.slice a2 x'.inn.length k2) (.slice a3 x'.back.length k3)) ∧ Hid (SOut (CtAt gw) wr.drew O x' S' (.slice a1 x'.out.length k1) (.slice a2 x'.inn.length k2) (.slice a3 x'.back.length k3) wx))
        case first =>
          refine wp_region_noPanic ?_
          refine wp_region_held_drew (S := fun W => StAt W B x (.slice oa x.out.length oc) (.slice ia x.inn.length ic) (.slice ba x.back.length bc) ∧ W.cell? ⟨qb, qo + k, none⟩ = some (.int .u8 (ch.toNat : Int))) (by kernel_rfl) (HSn.out _ _ (Below.refl _ _).drew (Turned.refl _ _)) (fun hHeld => ?_)
          refine wpAnyH_take (i := 0) (oi := ?_) (v := ?_) ?_ (by kernel_rfl) (by kernel_rfl) (by kernel_rfl) (fun _ _ _ h => (h : False).elim) (Or.inl ⟨?_, ?_⟩) hHeld ?_
          rotate_left 2
          · (simp only [List.getElem?_toArray, List.getElem?_cons_zero]; rfl)
          · rfl
          · (intro W hSw; obtain ⟨hq1, hq2⟩ := hSw; obtain ⟨m0, m1, m2, m3, m4, m5, m6, m7, m8, m9, m10⟩ := hq1.cs; go_simp <;> with_reducible rfl)
          try simp only [Act.put, List.setIfInBounds_toArray, List.set_cons_zero, List.set_cons_succ]
          refine wpAnyH_take (i := 1) (oi := ?_) (v := ?_) ?_ (by kernel_rfl) (by kernel_rfl) (by kernel_rfl) (fun _ _ _ h => (h : False).elim) (Or.inl ⟨?_, ?_⟩) hHeld ?_
          rotate_left 2
          · (simp only [List.getElem?_toArray, List.getElem?_cons_zero, List.getElem?_cons_succ]; rfl)
          · rfl
          · (intro W hSw; obtain ⟨hq1, hq2⟩ := hSw; obtain ⟨m0, m1, m2, m3, m4, m5, m6, m7, m8, m9, m10⟩ := hq1.cs; go_simp <;> with_reducible rfl)
          try simp only [Act.put, List.setIfInBounds_toArray, List.set_cons_zero, List.set_cons_succ]
          refine wpAnyH_take (i := 2) (oi := ?_) (v := ?_) ?_ (by kernel_rfl) (by kernel_rfl) (by kernel_rfl) (fun _ _ _ h => (h : False).elim) (Or.inl ⟨?_, ?_⟩) hHeld ?_
          rotate_left 2
          · (simp only [List.getElem?_toArray, List.getElem?_cons_zero, List.getElem?_cons_succ]; rfl)
          · rfl
          · (intro W hSw; obtain ⟨hq1, hq2⟩ := hSw; obtain ⟨m0, m1, m2, m3, m4, m5, m6, m7, m8, m9, m10⟩ := hq1.cs; go_simp <;> with_reducible rfl)
          try simp only [Act.put, List.setIfInBounds_toArray, List.set_cons_zero, List.set_cons_succ]
          refine wpAnyH_take (i := 3) (oi := ?_) (v := ?_) ?_ (by kernel_rfl) (by kernel_rfl) (by kernel_rfl) (fun _ _ _ h => (h : False).elim) (Or.inl ⟨?_, ?_⟩) hHeld ?_
          rotate_left 2
          · (simp only [List.getElem?_toArray, List.getElem?_cons_zero, List.getElem?_cons_succ]; rfl)
          · rfl
          · (intro W hSw; obtain ⟨hq1, hq2⟩ := hSw; obtain ⟨m0, m1, m2, m3, m4, m5, m6, m7, m8, m9, m10⟩ := hq1.cs; go_simp <;> with_reducible rfl)
          try simp only [Act.put, List.setIfInBounds_toArray, List.set_cons_zero, List.set_cons_succ]
          refine wpAnyH_take (i := 4) (oi := ?_) (v := ?_) ?_ (by kernel_rfl) (by kernel_rfl) (by kernel_rfl) (fun _ _ _ h => (h : False).elim) (Or.inl ⟨?_, ?_⟩) hHeld ?_
          rotate_left 2
          · (simp only [List.getElem?_toArray, List.getElem?_cons_zero, List.getElem?_cons_succ]; rfl)
          · rfl
          · (intro W hSw; obtain ⟨hq1, hq2⟩ := hSw; obtain ⟨m0, m1, m2, m3, m4, m5, m6, m7, m8, m9, m10⟩ := hq1.cs; go_simp <;> with_reducible rfl)
          try simp only [Act.put, List.setIfInBounds_toArray, List.set_cons_zero, List.set_cons_succ]
          refine wpAnyH_take (i := 5) (oi := ?_) (v := ?_) ?_ (by kernel_rfl) (by kernel_rfl) (by kernel_rfl) (fun _ _ _ h => (h : False).elim) (Or.inl ⟨?_, ?_⟩) hHeld ?_
          rotate_left 2
          · (simp only [List.getElem?_toArray, List.getElem?_cons_zero, List.getElem?_cons_succ]; rfl)
          · rfl
          · (intro W hSw; obtain ⟨hq1, hq2⟩ := hSw; obtain ⟨m0, m1, m2, m3, m4, m5, m6, m7, m8, m9, m10⟩ := hq1.cs; go_simp <;> with_reducible rfl)
          try simp only [Act.put, List.setIfInBounds_toArray, List.set_cons_zero, List.set_cons_succ]
          refine wpAnyH_take (i := 6) (oi := ?_) (v := ?_) ?_ (by kernel_rfl) (by kernel_rfl) (by kernel_rfl) (fun _ _ _ h => (h : False).elim) (Or.inl ⟨?_, ?_⟩) hHeld ?_
          rotate_left 2
          · (simp only [List.getElem?_toArray, List.getElem?_cons_zero, List.getElem?_cons_succ]; rfl)
          · rfl
          · (intro W hSw; obtain ⟨hq1, hq2⟩ := hSw; obtain ⟨m0, m1, m2, m3, m4, m5, m6, m7, m8, m9, m10⟩ := hq1.cs; go_simp <;> with_reducible rfl)
          try simp only [Act.put, List.setIfInBounds_toArray, List.set_cons_zero, List.set_cons_succ]
          refine wpAnyH_ready (rs := [7, 11]) (by kernel_rfl) (by simp) ?_
          refine AllReadyH.cons (o := ?_) ?_ (fun K' hK => ?_) (AllReadyH.cons (o := ?_) ?_ (fun K' hK => ?_) AllReadyH.nil)
          rotate_left 1
          · (simp only [List.getElem?_toArray, List.getElem?_cons_zero, List.getElem?_cons_succ]; rfl)
          · go_simp
            go_at_call 26
            refine HP.out.mono ?_
            rintro _ w5' ⟨o', i', b'', rfl, hS⟩
            obtain ⟨a1, k1, rfl, -⟩ := hS.choose_spec.1.so
            obtain ⟨a2, k2, rfl, -⟩ := hS.choose_spec.1.si
            obtain ⟨a3, k3, rfl, -⟩ := hS.choose_spec.1.sb
            have hT5 : Turned O wr.drew w5' := (by obtain ⟨_, _, _, _, _, t⟩ := hS; exact t)
            have HS5 := hide hS
            clear hS
            have h9 := HSn.out _ w5' ((Below.refl _ _).drew) hT5
            refine hK.out _ _ (h9) (fun hHeld2 => ?_)
            clear hK K' hHeld
            have hHeld := hHeld2
            clear hHeld2
            try simp only [Act.put, List.setIfInBounds_toArray, List.set_cons_zero, List.set_cons_succ]
            refine wpAnyH_take (i := 8) (oi := ?_) (v := ?_) ?_ (by kernel_rfl) (by kernel_rfl) (by kernel_rfl) (fun _ _ _ h => (h : False).elim) (Or.inl ⟨?_, ?_⟩) hHeld ?_
            rotate_left 2
            · (simp only [List.getElem?_toArray, List.getElem?_cons_zero, List.getElem?_cons_succ]; rfl)
            · rfl
            · (intro W hSw; obtain ⟨hq1, hq2⟩ := hSw; obtain ⟨m0, m1, m2, m3, m4, m5, m6, m7, m8, m9, m10⟩ := hq1.cs; go_simp <;> with_reducible rfl)
            try simp only [Act.put, List.setIfInBounds_toArray, List.set_cons_zero, List.set_cons_succ]
            refine wpAnyH_take (i := 9) (oi := ?_) (v := ?_) ?_ (by kernel_rfl) (by kernel_rfl) (by kernel_rfl) (fun _ _ _ h => (h : False).elim) (Or.inl ⟨?_, ?_⟩) hHeld ?_
            rotate_left 2
            · (simp only [List.getElem?_toArray, List.getElem?_cons_zero, List.getElem?_cons_succ]; rfl)
            · rfl
            · (intro W hSw; obtain ⟨hq1, hq2⟩ := hSw; obtain ⟨m0, m1, m2, m3, m4, m5, m6, m7, m8, m9, m10⟩ := hq1.cs; go_simp <;> with_reducible rfl)
            try simp only [Act.put, List.setIfInBounds_toArray, List.set_cons_zero, List.set_cons_succ]
            refine wpAnyH_take (i := 10) (oi := ?_) (v := ?_) ?_ (by kernel_rfl) (by kernel_rfl) (by kernel_rfl) (fun _ _ _ h => (h : False).elim) (Or.inl ⟨?_, ?_⟩) hHeld ?_
            rotate_left 2
            · (simp only [List.getElem?_toArray, List.getElem?_cons_zero, List.getElem?_cons_succ]; rfl)
            · rfl
            · (intro W hSw; obtain ⟨hq1, hq2⟩ := hSw; obtain ⟨m0, m1, m2, m3, m4, m5, m6, m7, m8, m9, m10⟩ := hq1.cs; go_simp <;> with_reducible rfl)
            try simp only [Act.put, List.setIfInBounds_toArray, List.set_cons_zero, List.set_cons_succ]
            refine wpAnyH_ready (rs := [11]) (by kernel_rfl) (by simp) ?_
            refine AllReadyH.cons (o := ?_) ?_ (fun K' hK => ?_) AllReadyH.nil
            rotate_left 1
            · (simp only [List.getElem?_toArray, List.getElem?_cons_zero, List.getElem?_cons_succ]; rfl)
            go_simp
            refine hK.out _ _ (HSb.out _ _ h9 (recv_below w5' (Obj.cells #[.bool false, .bool false, .int .i64 0, .int .i64 0, .slice none 0 0, .slice none 0 0, .slice none 0 0, .int .i64 0, .bool false, .bool false, .bool false] 25))) (fun hHeld2 => ?_)
            clear hK K' hHeld
            have hHeld := hHeld2
            clear hHeld2
            try simp only [Act.put, List.setIfInBounds_toArray, List.set_cons_zero, List.set_cons_succ]
            refine wpAnyH_ready (rs := [12]) (by kernel_rfl) (by simp) ?_
            refine AllReadyH.cons (o := ?_) ?_ (fun K' hK => ?_) AllReadyH.nil
            rotate_left 1
            · (simp only [List.getElem?_toArray, List.getElem?_cons_zero, List.getElem?_cons_succ]; rfl)
            go_simp
            refine hK.out _ _ (HSb.out _ _ h9 (recv_below w5' (Obj.cells #[.bool x'.rd, .bool x'.wt, .int .i64 x'.mode, .int .i64 x'.size, .slice a1 x'.out.length k1, .slice a2 x'.inn.length k2, .slice a3 x'.back.length k3, .int .i64 x'.dir, .bool x'.fin, .bool x'.bad, .bool x'.closed] 25))) (fun hHeld2 => ?_)
            clear hK K' hHeld
            have hHeld := hHeld2
            clear hHeld2
            try simp only [Act.put, List.setIfInBounds_toArray, List.set_cons_zero, List.set_cons_succ]
            refine wpAnyH_take (i := 13) (oi := ?_) (v := ?_) ?_ (by kernel_rfl) (by kernel_rfl) (by kernel_rfl) (fun _ _ _ h => (h : False).elim) (Or.inl ⟨?_, ?_⟩) hHeld ?_
            rotate_left 2
            · (simp only [List.getElem?_toArray, List.getElem?_cons_zero, List.getElem?_cons_succ]; rfl)
            · rfl
            · (intro W hSw; obtain ⟨hq1, hq2⟩ := hSw; obtain ⟨m0, m1, m2, m3, m4, m5, m6, m7, m8, m9, m10⟩ := hq1.cs; go_simp <;> with_reducible rfl)
            try simp only [Act.put, List.setIfInBounds_toArray, List.set_cons_zero, List.set_cons_succ]
            refine wpAnyH_done (by kernel_rfl) ?_ _
            refine NoPanic.normal ?_
            clear hHeld h9 hT5
            go_wp2
            go_meet
            exact ⟨_, _, _, _, _, _, _, rfl, rfl, hide (StAt.new w5' x' (.slice a1 x'.out.length k1) (.slice a2 x'.inn.length k2) (.slice a3 x'.back.length k3)), hide (SOut.below (fun s => ct_o gw s) HS5.out (recv_below w5' (Obj.cells #[.bool x'.rd, .bool x'.wt, .int .i64 x'.mode, .int .i64 x'.size, .slice a1 x'.out.length k1, .slice a2 x'.inn.length k2, .slice a3 x'.back.length k3, .int .i64 x'.dir, .bool x'.fin, .bool x'.bad, .bool x'.closed] 25)) rfl rfl rfl)⟩
          rotate_left 1
          · (simp only [List.getElem?_toArray, List.getElem?_cons_zero, List.getElem?_cons_succ]; rfl)
          · go_simp
            refine hK.out _ _ (HSn.out _ _ ((Below.refl _ wr).alloc (Nat.le_refl _) (Obj.cells #[.bool false, .bool false, .int .i64 0, .int .i64 0, .slice none 0 0, .slice none 0 0, .slice none 0 0, .int .i64 0, .bool false, .bool false, .bool false] 25)).drew (Turned.refl _ _)) (fun hHeld2 => ?_)
            clear hK K' hHeld
            have hHeld := hHeld2
            clear hHeld2
            try simp only [Act.put, List.setIfInBounds_toArray, List.set_cons_zero, List.set_cons_succ]
            refine wpAnyH_ready (rs := [7]) (by kernel_rfl) (by simp) ?_
            refine AllReadyH.cons (o := ?_) ?_ (fun K' hK => ?_) AllReadyH.nil
            rotate_left 1
            · (simp only [List.getElem?_toArray, List.getElem?_cons_zero, List.getElem?_cons_succ]; rfl)
            go_simp
            go_at_call 26
            refine HPz.out.mono ?_
            rintro _ w5' ⟨o', i', b'', rfl, hS⟩
            obtain ⟨a1, k1, rfl, -⟩ := hS.choose_spec.1.so
            obtain ⟨a2, k2, rfl, -⟩ := hS.choose_spec.1.si
            obtain ⟨a3, k3, rfl, -⟩ := hS.choose_spec.1.sb
            have hT5 : Turned O (wr.alloc (Obj.cells #[.bool false, .bool false, .int .i64 0, .int .i64 0, .slice none 0 0, .slice none 0 0, .slice none 0 0, .int .i64 0, .bool false, .bool false, .bool false] 25)).drew w5' := (by obtain ⟨_, _, _, _, _, t⟩ := hS; exact t)
            have HS5 := hide hS
            clear hS
            have h9 := HSn.out _ w5' (((Below.refl _ wr).alloc (Nat.le_refl _) (Obj.cells #[.bool false, .bool false, .int .i64 0, .int .i64 0, .slice none 0 0, .slice none 0 0, .slice none 0 0, .int .i64 0, .bool false, .bool false, .bool false] 25)).drew) hT5
            refine hK.out _ _ (h9) (fun hHeld2 => ?_)
            clear hK K' hHeld
            have hHeld := hHeld2
            clear hHeld2
            try simp only [Act.put, List.setIfInBounds_toArray, List.set_cons_zero, List.set_cons_succ]
            refine wpAnyH_take (i := 8) (oi := ?_) (v := ?_) ?_ (by kernel_rfl) (by kernel_rfl) (by kernel_rfl) (fun _ _ _ h => (h : False).elim) (Or.inl ⟨?_, ?_⟩) hHeld ?_
            rotate_left 2
            · (simp only [List.getElem?_toArray, List.getElem?_cons_zero, List.getElem?_cons_succ]; rfl)
            · rfl
            · (intro W hSw; obtain ⟨hq1, hq2⟩ := hSw; obtain ⟨m0, m1, m2, m3, m4, m5, m6, m7, m8, m9, m10⟩ := hq1.cs; go_simp <;> with_reducible rfl)
            try simp only [Act.put, List.setIfInBounds_toArray, List.set_cons_zero, List.set_cons_succ]
            refine wpAnyH_take (i := 9) (oi := ?_) (v := ?_) ?_ (by kernel_rfl) (by kernel_rfl) (by kernel_rfl) (fun _ _ _ h => (h : False).elim) (Or.inl ⟨?_, ?_⟩) hHeld ?_
            rotate_left 2
            · (simp only [List.getElem?_toArray, List.getElem?_cons_zero, List.getElem?_cons_succ]; rfl)
            · rfl
            · (intro W hSw; obtain ⟨hq1, hq2⟩ := hSw; obtain ⟨m0, m1, m2, m3, m4, m5, m6, m7, m8, m9, m10⟩ := hq1.cs; go_simp <;> with_reducible rfl)
            try simp only [Act.put, List.setIfInBounds_toArray, List.set_cons_zero, List.set_cons_succ]
            refine wpAnyH_take (i := 10) (oi := ?_) (v := ?_) ?_ (by kernel_rfl) (by kernel_rfl) (by kernel_rfl) (fun _ _ _ h => (h : False).elim) (Or.inl ⟨?_, ?_⟩) hHeld ?_
            rotate_left 2
            · (simp only [List.getElem?_toArray, List.getElem?_cons_zero, List.getElem?_cons_succ]; rfl)
            · rfl
            · (intro W hSw; obtain ⟨hq1, hq2⟩ := hSw; obtain ⟨m0, m1, m2, m3, m4, m5, m6, m7, m8, m9, m10⟩ := hq1.cs; go_simp <;> with_reducible rfl)
            try simp only [Act.put, List.setIfInBounds_toArray, List.set_cons_zero, List.set_cons_succ]
            have hz9 : w5'.heap[wr.heap.size]? = some (Obj.cells #[.bool false, .bool false, .int .i64 0, .int .i64 0, .slice none 0 0, .slice none 0 0, .slice none 0 0, .int .i64 0, .bool false, .bool false, .bool false] 25) := (hT5.block wr.heap.size (by show _ < (wr.alloc (Obj.cells #[.bool false, .bool false, .int .i64 0, .int .i64 0, .slice none 0 0, .slice none 0 0, .slice none 0 0, .int .i64 0, .bool false, .bool false, .bool false] 25)).heap.size; omega) (fun e => by have := HV.out.ol _ e; omega)).trans HZ0.out
            obtain ⟨e1, e2⟩ := st_fill w5' wr.heap.size x' (.slice a1 x'.out.length k1) (.slice a2 x'.inn.length k2) (.slice a3 x'.back.length k3) hz9
            have HS9 := hide (HSt.out _ _ h9 e2)
            have HE1 := hide e1
            have HE2x := hide e2
            have u0' := frozen_of_row w5' wr.heap.size 0 _ _ hz9
            have u1' := frozen_of_row w5' wr.heap.size 1 _ _ hz9
            have u2' := frozen_of_row w5' wr.heap.size 2 _ _ hz9
            have u3' := frozen_of_row w5' wr.heap.size 3 _ _ hz9
            have u4' := frozen_of_row w5' wr.heap.size 4 _ _ hz9
            have u5' := frozen_of_row w5' wr.heap.size 5 _ _ hz9
            have u6' := frozen_of_row w5' wr.heap.size 6 _ _ hz9
            have u7' := frozen_of_row w5' wr.heap.size 7 _ _ hz9
            have u8' := frozen_of_row w5' wr.heap.size 8 _ _ hz9
            have u9' := frozen_of_row w5' wr.heap.size 9 _ _ hz9
            have u10' := frozen_of_row w5' wr.heap.size 10 _ _ hz9
            have z0' := cell_of_row w5' wr.heap.size 0 _ _ _ hz9
            have z1' := cell_of_row w5' wr.heap.size 1 _ _ _ hz9
            have z2' := cell_of_row w5' wr.heap.size 2 _ _ _ hz9
            have z3' := cell_of_row w5' wr.heap.size 3 _ _ _ hz9
            have z4' := cell_of_row w5' wr.heap.size 4 _ _ _ hz9
            have z5' := cell_of_row w5' wr.heap.size 5 _ _ _ hz9
            have z6' := cell_of_row w5' wr.heap.size 6 _ _ _ hz9
            have z7' := cell_of_row w5' wr.heap.size 7 _ _ _ hz9
            have z8' := cell_of_row w5' wr.heap.size 8 _ _ _ hz9
            have z9' := cell_of_row w5' wr.heap.size 9 _ _ _ hz9
            have z10' := cell_of_row w5' wr.heap.size 10 _ _ _ hz9
            simp at z0' z1' z2' z3' z4' z5' z6' z7' z8' z9' z10'
            clear e1 e2 hz9 hT5
            refine wpAnyH_ready (rs := [12]) (by kernel_rfl) (by simp) ?_
            refine AllReadyH.cons (o := ?_) ?_ (fun K' hK => ?_) AllReadyH.nil
            rotate_left 1
            · (simp only [List.getElem?_toArray, List.getElem?_cons_zero, List.getElem?_cons_succ]; rfl)
            go_simp
            refine hK.out _ _ (HS9.out) (fun hHeld2 => ?_)
            clear hK K' hHeld
            have hHeld := hHeld2
            clear hHeld2
            try simp only [Act.put, List.setIfInBounds_toArray, List.set_cons_zero, List.set_cons_succ]
            clear u0' z0' u1' z1' u2' z2' u3' z3' u4' z4' u5' z5' u6' z6' u7' z7' u8' z8' u9' z9' u10' z10'
            refine wpAnyH_take (i := 13) (oi := ?_) (v := ?_) ?_ (by kernel_rfl) (by kernel_rfl) (by kernel_rfl) (fun _ _ _ h => (h : False).elim) (Or.inl ⟨?_, ?_⟩) hHeld ?_
            rotate_left 2
            · (simp only [List.getElem?_toArray, List.getElem?_cons_zero, List.getElem?_cons_succ]; rfl)
            · rfl
            · (intro W hSw; obtain ⟨hq1, hq2⟩ := hSw; obtain ⟨m0, m1, m2, m3, m4, m5, m6, m7, m8, m9, m10⟩ := hq1.cs; go_simp <;> with_reducible rfl)
            try simp only [Act.put, List.setIfInBounds_toArray, List.set_cons_zero, List.set_cons_succ]
            refine wpAnyH_done (by kernel_rfl) ?_ _
            refine NoPanic.normal ?_
            clear hHeld h9
            go_wp2
            go_meet
            exact ⟨_, _, _, _, _, _, _, rfl, rfl, HE1, hide (SOut.fin (fun s => ct_o gw s) HS5.out (show Below wr.heap.size wr.drew (wr.alloc (Obj.cells #[.bool false, .bool false, .int .i64 0, .int .i64 0, .slice none 0 0, .slice none 0 0, .slice none 0 0, .int .i64 0, .bool false, .bool false, .bool false] 25)).drew from recv_below wr.drew (Obj.cells #[.bool false, .bool false, .int .i64 0, .int .i64 0, .slice none 0 0, .slice none 0 0, .slice none 0 0, .int .i64 0, .bool false, .bool false, .bool false] 25)) (by show wr.heap.size < (wr.alloc (Obj.cells #[.bool false, .bool false, .int .i64 0, .int .i64 0, .slice none 0 0, .slice none 0 0, .slice none 0 0, .int .i64 0, .bool false, .bool false, .bool false] 25)).heap.size; omega) (Nat.le_refl _) HV.out.ol HE2x.out)⟩
        case rest =>
          obtain ⟨gt, a1, a2, a3, k1, k2, k3, rfl, rfl, HTb, HSo⟩ := hcut
          obtain ⟨hst, hv, ht⟩ := LV.next (fun s => ct_o gw s) HVd.out hBz HSo.out
          clear m0 m1' m2' m3' m4' m5' m6' m7' m8' m9' m10' n0 n1 n2 n3 n4 n5 n6 n7 n8 n9 n10 d1 d1z HP HPz HVz HZ0
          obtain ⟨t0, t1, t2, t3, t4, t5, t6, t7, t8, t9, t10⟩ := HTb.out.cs
          obtain ⟨p0, p1, p2, p3, p4, p5, p6, p7, p8, p9, p10⟩ := hst.cs
          have f0 := hst.soft 0
          have f1 := hst.soft 1
          have f2 := hst.soft 2
          have f3 := hst.soft 3
          have f4 := hst.soft 4
          have f5 := hst.soft 5
          have f6 := hst.soft 6
          have f7 := hst.soft 7
          have f8 := hst.soft 8
          have f9 := hst.soft 9
          have f10 := hst.soft 10
          have HV9 := hide hv
          have HT9 := hide ht
          unfold filled at HV9 HT9
          have HB9 : Hid (Below w.heap.size w ((((((((((((wc.setCell ⟨B, 0, none⟩ (.bool x'.rd)).setCell ⟨B, 1, none⟩ (.bool x'.wt)).setCell ⟨B, 2, none⟩ (.int .i64 x'.mode)).setCell ⟨B, 3, none⟩ (.int .i64 x'.size)).setCell ⟨B, 4, none⟩ (.slice a1 x'.out.length k1)).setCell ⟨B, 5, none⟩ (.slice a2 x'.inn.length k2)).setCell ⟨B, 6, none⟩ (.slice a3 x'.back.length k3)).setCell ⟨B, 7, none⟩ (.int .i64 x'.dir)).setCell ⟨B, 8, none⟩ (.bool x'.fin)).setCell ⟨B, 9, none⟩ (.bool x'.bad)).setCell ⟨B, 10, none⟩ (.bool x'.closed)))) := hide ((HB.out.trans ((Below.refl _ _).drew.mono HB.out.size)).trans ((HT9.out.below (fun k e => e) hBz).mono hBw))
          have hBn : B ≤ ((((((((((((wc.setCell ⟨B, 0, none⟩ (.bool x'.rd)).setCell ⟨B, 1, none⟩ (.bool x'.wt)).setCell ⟨B, 2, none⟩ (.int .i64 x'.mode)).setCell ⟨B, 3, none⟩ (.int .i64 x'.size)).setCell ⟨B, 4, none⟩ (.slice a1 x'.out.length k1)).setCell ⟨B, 5, none⟩ (.slice a2 x'.inn.length k2)).setCell ⟨B, 6, none⟩ (.slice a3 x'.back.length k3)).setCell ⟨B, 7, none⟩ (.int .i64 x'.dir)).setCell ⟨B, 8, none⟩ (.bool x'.fin)).setCell ⟨B, 9, none⟩ (.bool x'.bad)).setCell ⟨B, 10, none⟩ (.bool x'.closed))).heap.size := by have h9 : wr.drew.heap.size ≤ ((((((((((((wc.setCell ⟨B, 0, none⟩ (.bool x'.rd)).setCell ⟨B, 1, none⟩ (.bool x'.wt)).setCell ⟨B, 2, none⟩ (.int .i64 x'.mode)).setCell ⟨B, 3, none⟩ (.int .i64 x'.size)).setCell ⟨B, 4, none⟩ (.slice a1 x'.out.length k1)).setCell ⟨B, 5, none⟩ (.slice a2 x'.inn.length k2)).setCell ⟨B, 6, none⟩ (.slice a3 x'.back.length k3)).setCell ⟨B, 7, none⟩ (.int .i64 x'.dir)).setCell ⟨B, 8, none⟩ (.bool x'.fin)).setCell ⟨B, 9, none⟩ (.bool x'.bad)).setCell ⟨B, 10, none⟩ (.bool x'.closed))).heap.size := HT9.out.size; have h10 : wr.drew.heap.size = wr.heap.size := rfl; omega
          clear hst hv ht
          go_wp2_with (first | (go_at_call 24; refine (bnum_is _ _).mono ?_; rintro _ _ ⟨rfl, rfl⟩) | fail)
          obtain ⟨O2', hv9⟩ := HV9.out
          have HVn := hide hv9
          clear hv9 HV9
          go_roundg gq
          case measure => omega
          case rel => exact ⟨k + 1, x', S', _, _, _, O2', by omega, by go_num, HVn, HF2, HB9, hBn⟩
      obtain ⟨gn, rfl⟩ : ∃ gn, gk = gn + 1 := ⟨gk - 1, by omega⟩
      have hj1 : (0 : Int) ≤ (j : Int) := by omega
      have hj2 : (j : Int) < (L.length : Int) := by omega
      obtain ⟨tb, tf, rfl, htb, d0, d1, d2⟩ := HTn.out.at HB.out j hlj
      have HTc := hide (fun (W : World) (hW : Below w.heap.size w W) => (HTn.out.at hW j hlj))
      by_cases hpl : L[j].pl = (k : Int)
      case neg =>
        have hpb : (L[j].pl == (k : Int)) = false := by simpa using hpl
        generalize L[j].pl = pl at *
        go_wp2
        go_roundg gn
        case measure => omega
        case rel => exact ⟨j + 1, x, S, _, _, _, O, by omega, by go_num, HV, HF, HB, hBz⟩
      rw [hpl] at d0
      obtain ⟨t1, t2⟩ := HF.out.set L[j].mode L[j].size
      obtain ⟨g1, g2, g3⟩ := HF.out.small
      have HVd := hide (HV.out.below (fun s => ct_o gw s) (Below.refl _ wr).drew)
      have hp := bset_any (ct_raw gw) (fun s => ct_o gw s) ct_bears L[j].mode L[j].size HVd.out.ls HVd.out.raw HVd.out.ol (HF.out.bear htl) (by omega) (by rw [g2]; decide) (by rw [g3]; decide)
      generalize htm : L[j].mode = tm at *
      generalize hts : L[j].size = ts at *
      clear htm hts
      obtain ⟨X, hX⟩ : ∃ X, x.bset ctD S tm ts = X := ⟨_, rfl⟩
      have HX := hide hX
      rw [hX] at hp t1 t2
      clear hX
      obtain ⟨x', e', S'⟩ := X
      simp only at hp t1 t2
      have HP := hide hp
      have HF2 := hide t1
      have HE2 := hide t2
      obtain ⟨m0, m1', m2', m3', m4', m5', m6', m7', m8', m9', m10'⟩ := HV.out.st.cs
      clear hp t1 t2 hpl
      have hzZ : (wr.alloc (Obj.cells #[.bool false, .bool false, .int .i64 0, .int .i64 0, .slice none 0 0, .slice none 0 0, .slice none 0 0, .int .i64 0, .bool false, .bool false, .bool false] 25)).heap.size = wr.heap.size + 1 := Array.size_push ..
      have hBZ : Below wr.heap.size wr (wr.alloc (Obj.cells #[.bool false, .bool false, .int .i64 0, .int .i64 0, .slice none 0 0, .slice none 0 0, .slice none 0 0, .int .i64 0, .bool false, .bool false, .bool false] 25)).drew := (recv_below wr (Obj.cells #[.bool false, .bool false, .int .i64 0, .int .i64 0, .slice none 0 0, .slice none 0 0, .slice none 0 0, .int .i64 0, .bool false, .bool false, .bool false] 25)).trans (Below.refl _ _).drew
      have HVz := hide (HV.out.below (fun s => ct_o gw s) hBZ)
      have hpz := bset_any (ct_raw gw) (fun s => ct_o gw s) ct_bears tm ts HVz.out.ls HVz.out.raw HVz.out.ol (HF.out.bear htl) (by omega) (by rw [g2]; decide) (by rw [g3]; decide)
      have hZ0 : (wr.alloc (Obj.cells #[.bool false, .bool false, .int .i64 0, .int .i64 0, .slice none 0 0, .slice none 0 0, .slice none 0 0, .int .i64 0, .bool false, .bool false, .bool false] 25)).drew.heap[wr.heap.size]? = some (Obj.cells #[.bool false, .bool false, .int .i64 0, .int .i64 0, .slice none 0 0, .slice none 0 0, .slice none 0 0, .int .i64 0, .bool false, .bool false, .bool false] 25) := heap_alloc_new wr (Obj.cells #[.bool false, .bool false, .int .i64 0, .int .i64 0, .slice none 0 0, .slice none 0 0, .slice none 0 0, .int .i64 0, .bool false, .bool false, .bool false] 25)
      have HZ0 := hide hZ0
      have HBZ := hide hBZ
      rw [HX.out] at hpz
      simp only at hpz
      have HPz := hide hpz
      obtain ⟨n0, n1, n2, n3, n4, n5, n6, n7, n8, n9, n10⟩ := HVz.out.st.cs
      have d1z := (HBZ.out.cell (World.block_lt_of_cell? wr _ d1)).trans d1
      have d2z := (HBZ.out.cell (World.block_lt_of_cell? wr _ d2)).trans d2
      clear hpz hBZ hZ0 HX g1 g2 g3
      have HLow : Hid (tb < B ∧ tb < wr.heap.size) := hide ⟨by omega, by have := HB.out.size; omega⟩
      have hgB := HV.out.st.lt
      have HSn : Hid (∀ W W', Below wr.heap.size wr W → Turned O W W' → (fun W => StAt W B x (.slice oa x.out.length oc) (.slice ia x.inn.length ic) (.slice ba x.back.length bc) ∧ W.cell? ⟨tb, tf + j * 3 + 1, none⟩ = some (.int .i64 tm) ∧ W.cell? ⟨tb, tf + j * 3 + 2, none⟩ = some (.int .i64 ts)) W') := hide (fun W W' hW hT => ⟨(hT.block B (Nat.lt_of_lt_of_le hgB hW.size) HV.out.og).trans (HV.out.st.below hW), hT.cell ((hW.cell (World.block_lt_of_cell? wr _ d1)).trans d1) (fun e => by have h1 := HV.out.ob _ e; have h2 := HLow.out; simp only at h1; omega), hT.cell ((hW.cell (World.block_lt_of_cell? wr _ d2)).trans d2) (fun e => by have h1 := HV.out.ob _ e; have h2 := HLow.out; simp only at h1; omega)⟩)
      have HSt : Hid (∀ W W', (fun W => StAt W B x (.slice oa x.out.length oc) (.slice ia x.inn.length ic) (.slice ba x.back.length bc) ∧ W.cell? ⟨tb, tf + j * 3 + 1, none⟩ = some (.int .i64 tm) ∧ W.cell? ⟨tb, tf + j * 3 + 2, none⟩ = some (.int .i64 ts)) W → Turned (fun k => k = wr.heap.size) W W' → (fun W => StAt W B x (.slice oa x.out.length oc) (.slice ia x.inn.length ic) (.slice ba x.back.length bc) ∧ W.cell? ⟨tb, tf + j * 3 + 1, none⟩ = some (.int .i64 tm) ∧ W.cell? ⟨tb, tf + j * 3 + 2, none⟩ = some (.int .i64 ts)) W') := hide (fun W W' h hT => ⟨(hT.block B h.1.lt (by omega)).trans h.1, hT.cell h.2.1 (fun e => by have h1 : _ = wr.heap.size := e; have h2 := HLow.out; simp only at h1; omega), hT.cell h.2.2 (fun e => by have h1 : _ = wr.heap.size := e; have h2 := HLow.out; simp only at h1; omega)⟩)
      have HSb : Hid (∀ W W', (fun W => StAt W B x (.slice oa x.out.length oc) (.slice ia x.inn.length ic) (.slice ba x.back.length bc) ∧ W.cell? ⟨tb, tf + j * 3 + 1, none⟩ = some (.int .i64 tm) ∧ W.cell? ⟨tb, tf + j * 3 + 2, none⟩ = some (.int .i64 ts)) W → Below W.heap.size W W' → (fun W => StAt W B x (.slice oa x.out.length oc) (.slice ia x.inn.length ic) (.slice ba x.back.length bc) ∧ W.cell? ⟨tb, tf + j * 3 + 1, none⟩ = some (.int .i64 tm) ∧ W.cell? ⟨tb, tf + j * 3 + 2, none⟩ = some (.int .i64 ts)) W') := hide (fun W W' h hB => ⟨h.1.below hB, (hB.cell (World.block_lt_of_cell? W _ h.2.1)).trans h.2.1, (hB.cell (World.block_lt_of_cell? W _ h.2.2)).trans h.2.2⟩)
      go_upto_region 14 with fail
      go_cut [14, 15] (fun p14 e15 wx => ∃ (gt : Nat) (a1 a2 a3 : Option Addr) (k1 k2 k3 : Nat), p14 = .pointer (some ⟨gt, 0, none⟩) ∧ e15 = .int .i64 e' ∧ Hid (StAt wx gt x' (.slice a1 x'.out.length k1) (.slice a2 x'.inn.length k2) (.slice a3 x'.back.length k3)) ∧ Hid (SOut (CtAt gw) wr.drew O x' S' (.slice a1 x'.out.length k1) (.slice a2 x'.inn.length k2) (.slice a3 x'.back.length k3) wx))
      case first =>
        refine wp_region_noPanic ?_
        refine wp_region_held_drew (S := fun W => StAt W B x (.slice oa x.out.length oc) (.slice ia x.inn.length ic) (.slice ba x.back.length bc) ∧ W.cell? ⟨tb, tf + j * 3 + 1, none⟩ = some (.int .i64 tm) ∧ W.cell? ⟨tb, tf + j * 3 + 2, none⟩ = some (.int .i64 ts)) (by kernel_rfl) (HSn.out _ _ (Below.refl _ _).drew (Turned.refl _ _)) (fun hHeld => ?_)
        refine wpAnyH_take (i := 0) (oi := ?_) (v := ?_) ?_ (by kernel_rfl) (by kernel_rfl) (by kernel_rfl) (fun _ _ _ h => (h : False).elim) (Or.inl ⟨?_, ?_⟩) hHeld ?_
        rotate_left 2
        · (simp only [List.getElem?_toArray, List.getElem?_cons_zero]; rfl)
        · rfl
        · (intro W hSw; obtain ⟨hq1, hq2⟩ := hSw; obtain ⟨m0, m1, m2, m3, m4, m5, m6, m7, m8, m9, m10⟩ := hq1.cs; go_simp <;> with_reducible rfl)
        try simp only [Act.put, List.setIfInBounds_toArray, List.set_cons_zero, List.set_cons_succ]
        refine wpAnyH_take (i := 1) (oi := ?_) (v := ?_) ?_ (by kernel_rfl) (by kernel_rfl) (by kernel_rfl) (fun _ _ _ h => (h : False).elim) (Or.inl ⟨?_, ?_⟩) hHeld ?_
        rotate_left 2
        · (simp only [List.getElem?_toArray, List.getElem?_cons_zero, List.getElem?_cons_succ]; rfl)
        · rfl
        · (intro W hSw; obtain ⟨hq1, hq2⟩ := hSw; obtain ⟨m0, m1, m2, m3, m4, m5, m6, m7, m8, m9, m10⟩ := hq1.cs; go_simp <;> with_reducible rfl)
        try simp only [Act.put, List.setIfInBounds_toArray, List.set_cons_zero, List.set_cons_succ]
        refine wpAnyH_take (i := 2) (oi := ?_) (v := ?_) ?_ (by kernel_rfl) (by kernel_rfl) (by kernel_rfl) (fun _ _ _ h => (h : False).elim) (Or.inl ⟨?_, ?_⟩) hHeld ?_
        rotate_left 2
        · (simp only [List.getElem?_toArray, List.getElem?_cons_zero, List.getElem?_cons_succ]; rfl)
        · rfl
        · (intro W hSw; obtain ⟨hq1, hq2⟩ := hSw; obtain ⟨m0, m1, m2, m3, m4, m5, m6, m7, m8, m9, m10⟩ := hq1.cs; go_simp <;> with_reducible rfl)
        try simp only [Act.put, List.setIfInBounds_toArray, List.set_cons_zero, List.set_cons_succ]
        refine wpAnyH_take (i := 3) (oi := ?_) (v := ?_) ?_ (by kernel_rfl) (by kernel_rfl) (by kernel_rfl) (fun _ _ _ h => (h : False).elim) (Or.inl ⟨?_, ?_⟩) hHeld ?_
        rotate_left 2
        · (simp only [List.getElem?_toArray, List.getElem?_cons_zero, List.getElem?_cons_succ]; rfl)
        · rfl
        · (intro W hSw; obtain ⟨hq1, hq2⟩ := hSw; obtain ⟨m0, m1, m2, m3, m4, m5, m6, m7, m8, m9, m10⟩ := hq1.cs; go_simp <;> with_reducible rfl)
        try simp only [Act.put, List.setIfInBounds_toArray, List.set_cons_zero, List.set_cons_succ]
        refine wpAnyH_take (i := 4) (oi := ?_) (v := ?_) ?_ (by kernel_rfl) (by kernel_rfl) (by kernel_rfl) (fun _ _ _ h => (h : False).elim) (Or.inl ⟨?_, ?_⟩) hHeld ?_
        rotate_left 2
        · (simp only [List.getElem?_toArray, List.getElem?_cons_zero, List.getElem?_cons_succ]; rfl)
        · rfl
        · (intro W hSw; obtain ⟨hq1, hq2⟩ := hSw; obtain ⟨m0, m1, m2, m3, m4, m5, m6, m7, m8, m9, m10⟩ := hq1.cs; go_simp <;> with_reducible rfl)
        try simp only [Act.put, List.setIfInBounds_toArray, List.set_cons_zero, List.set_cons_succ]
        refine wpAnyH_take (i := 5) (oi := ?_) (v := ?_) ?_ (by kernel_rfl) (by kernel_rfl) (by kernel_rfl) (fun _ _ _ h => (h : False).elim) (Or.inl ⟨?_, ?_⟩) hHeld ?_
        rotate_left 2
        · (simp only [List.getElem?_toArray, List.getElem?_cons_zero, List.getElem?_cons_succ]; rfl)
        · rfl
        · (intro W hSw; obtain ⟨hq1, hq2⟩ := hSw; obtain ⟨m0, m1, m2, m3, m4, m5, m6, m7, m8, m9, m10⟩ := hq1.cs; go_simp <;> with_reducible rfl)
        try simp only [Act.put, List.setIfInBounds_toArray, List.set_cons_zero, List.set_cons_succ]
        refine wpAnyH_take (i := 6) (oi := ?_) (v := ?_) ?_ (by kernel_rfl) (by kernel_rfl) (by kernel_rfl) (fun _ _ _ h => (h : False).elim) (Or.inl ⟨?_, ?_⟩) hHeld ?_
        rotate_left 2
        · (simp only [List.getElem?_toArray, List.getElem?_cons_zero, List.getElem?_cons_succ]; rfl)
        · rfl
        · (intro W hSw; obtain ⟨hq1, hq2⟩ := hSw; obtain ⟨m0, m1, m2, m3, m4, m5, m6, m7, m8, m9, m10⟩ := hq1.cs; go_simp <;> with_reducible rfl)
        try simp only [Act.put, List.setIfInBounds_toArray, List.set_cons_zero, List.set_cons_succ]
        refine wpAnyH_take (i := 7) (oi := ?_) (v := ?_) ?_ (by kernel_rfl) (by kernel_rfl) (by kernel_rfl) (fun _ _ _ h => (h : False).elim) (Or.inl ⟨?_, ?_⟩) hHeld ?_
        rotate_left 2
        · (simp only [List.getElem?_toArray, List.getElem?_cons_zero, List.getElem?_cons_succ]; rfl)
        · rfl
        · (intro W hSw; obtain ⟨hq1, hq2⟩ := hSw; obtain ⟨m0, m1, m2, m3, m4, m5, m6, m7, m8, m9, m10⟩ := hq1.cs; go_simp <;> with_reducible rfl)
        try simp only [Act.put, List.setIfInBounds_toArray, List.set_cons_zero, List.set_cons_succ]
        refine wpAnyH_take (i := 8) (oi := ?_) (v := ?_) ?_ (by kernel_rfl) (by kernel_rfl) (by kernel_rfl) (fun _ _ _ h => (h : False).elim) (Or.inl ⟨?_, ?_⟩) hHeld ?_
        rotate_left 2
        · (simp only [List.getElem?_toArray, List.getElem?_cons_zero, List.getElem?_cons_succ]; rfl)
        · rfl
        · (intro W hSw; obtain ⟨hq1, hq2⟩ := hSw; obtain ⟨m0, m1, m2, m3, m4, m5, m6, m7, m8, m9, m10⟩ := hq1.cs; go_simp <;> with_reducible rfl)
        try simp only [Act.put, List.setIfInBounds_toArray, List.set_cons_zero, List.set_cons_succ]
        refine wpAnyH_take (i := 9) (oi := ?_) (v := ?_) ?_ (by kernel_rfl) (by kernel_rfl) (by kernel_rfl) (fun _ _ _ h => (h : False).elim) (Or.inl ⟨?_, ?_⟩) hHeld ?_
        rotate_left 2
        · (simp only [List.getElem?_toArray, List.getElem?_cons_zero, List.getElem?_cons_succ]; rfl)
        · rfl
        · (intro W hSw; obtain ⟨hq1, hq2⟩ := hSw; obtain ⟨m0, m1, m2, m3, m4, m5, m6, m7, m8, m9, m10⟩ := hq1.cs; go_simp <;> with_reducible rfl)
        try simp only [Act.put, List.setIfInBounds_toArray, List.set_cons_zero, List.set_cons_succ]
        refine wpAnyH_take (i := 10) (oi := ?_) (v := ?_) ?_ (by kernel_rfl) (by kernel_rfl) (by kernel_rfl) (fun _ _ _ h => (h : False).elim) (Or.inl ⟨?_, ?_⟩) hHeld ?_
        rotate_left 2
        · (simp only [List.getElem?_toArray, List.getElem?_cons_zero, List.getElem?_cons_succ]; rfl)
        · rfl
        · (intro W hSw; obtain ⟨hq1, hq2⟩ := hSw; obtain ⟨m0, m1, m2, m3, m4, m5, m6, m7, m8, m9, m10⟩ := hq1.cs; go_simp <;> with_reducible rfl)
        try simp only [Act.put, List.setIfInBounds_toArray, List.set_cons_zero, List.set_cons_succ]
        refine wpAnyH_take (i := 11) (oi := ?_) (v := ?_) ?_ (by kernel_rfl) (by kernel_rfl) (by kernel_rfl) (fun _ _ _ h => (h : False).elim) (Or.inl ⟨?_, ?_⟩) hHeld ?_
        rotate_left 2
        · (simp only [List.getElem?_toArray, List.getElem?_cons_zero, List.getElem?_cons_succ]; rfl)
        · rfl
        · (intro W hSw; obtain ⟨hq1, hq2⟩ := hSw; obtain ⟨m0, m1, m2, m3, m4, m5, m6, m7, m8, m9, m10⟩ := hq1.cs; go_simp <;> with_reducible rfl)
        try simp only [Act.put, List.setIfInBounds_toArray, List.set_cons_zero, List.set_cons_succ]
        refine wpAnyH_take (i := 12) (oi := ?_) (v := ?_) ?_ (by kernel_rfl) (by kernel_rfl) (by kernel_rfl) (fun _ _ _ h => (h : False).elim) (Or.inl ⟨?_, ?_⟩) hHeld ?_
        rotate_left 2
        · (simp only [List.getElem?_toArray, List.getElem?_cons_zero, List.getElem?_cons_succ]; rfl)
        · rfl
        · (intro W hSw; obtain ⟨hq1, hq2⟩ := hSw; obtain ⟨m0, m1, m2, m3, m4, m5, m6, m7, m8, m9, m10⟩ := hq1.cs; go_simp <;> with_reducible rfl)
        try simp only [Act.put, List.setIfInBounds_toArray, List.set_cons_zero, List.set_cons_succ]
        refine wpAnyH_ready (rs := [13, 17]) (by kernel_rfl) (by simp) ?_
        refine AllReadyH.cons (o := ?_) ?_ (fun K' hK => ?_) (AllReadyH.cons (o := ?_) ?_ (fun K' hK => ?_) AllReadyH.nil)
        rotate_left 1
        · (simp only [List.getElem?_toArray, List.getElem?_cons_zero, List.getElem?_cons_succ]; rfl)
        · go_simp
          go_at_call 25
          refine HP.out.mono ?_
          rintro _ w5' ⟨o', i', b'', rfl, hS⟩
          obtain ⟨a1, k1, rfl, -⟩ := hS.choose_spec.1.so
          obtain ⟨a2, k2, rfl, -⟩ := hS.choose_spec.1.si
          obtain ⟨a3, k3, rfl, -⟩ := hS.choose_spec.1.sb
          have hT5 : Turned O wr.drew w5' := (by obtain ⟨_, _, _, _, _, t⟩ := hS; exact t)
          have HS5 := hide hS
          clear hS
          have h9 := HSn.out _ w5' ((Below.refl _ _).drew) hT5
          refine hK.out _ _ (h9) (fun hHeld2 => ?_)
          clear hK K' hHeld
          have hHeld := hHeld2
          clear hHeld2
          try simp only [Act.put, List.setIfInBounds_toArray, List.set_cons_zero, List.set_cons_succ]
          refine wpAnyH_take (i := 14) (oi := ?_) (v := ?_) ?_ (by kernel_rfl) (by kernel_rfl) (by kernel_rfl) (fun _ _ _ h => (h : False).elim) (Or.inl ⟨?_, ?_⟩) hHeld ?_
          rotate_left 2
          · (simp only [List.getElem?_toArray, List.getElem?_cons_zero, List.getElem?_cons_succ]; rfl)
          · rfl
          · (intro W hSw; obtain ⟨hq1, hq2⟩ := hSw; obtain ⟨m0, m1, m2, m3, m4, m5, m6, m7, m8, m9, m10⟩ := hq1.cs; go_simp <;> with_reducible rfl)
          try simp only [Act.put, List.setIfInBounds_toArray, List.set_cons_zero, List.set_cons_succ]
          refine wpAnyH_take (i := 15) (oi := ?_) (v := ?_) ?_ (by kernel_rfl) (by kernel_rfl) (by kernel_rfl) (fun _ _ _ h => (h : False).elim) (Or.inl ⟨?_, ?_⟩) hHeld ?_
          rotate_left 2
          · (simp only [List.getElem?_toArray, List.getElem?_cons_zero, List.getElem?_cons_succ]; rfl)
          · rfl
          · (intro W hSw; obtain ⟨hq1, hq2⟩ := hSw; obtain ⟨m0, m1, m2, m3, m4, m5, m6, m7, m8, m9, m10⟩ := hq1.cs; go_simp <;> with_reducible rfl)
          try simp only [Act.put, List.setIfInBounds_toArray, List.set_cons_zero, List.set_cons_succ]
          refine wpAnyH_take (i := 16) (oi := ?_) (v := ?_) ?_ (by kernel_rfl) (by kernel_rfl) (by kernel_rfl) (fun _ _ _ h => (h : False).elim) (Or.inl ⟨?_, ?_⟩) hHeld ?_
          rotate_left 2
          · (simp only [List.getElem?_toArray, List.getElem?_cons_zero, List.getElem?_cons_succ]; rfl)
          · rfl
          · (intro W hSw; obtain ⟨hq1, hq2⟩ := hSw; obtain ⟨m0, m1, m2, m3, m4, m5, m6, m7, m8, m9, m10⟩ := hq1.cs; go_simp <;> with_reducible rfl)
          try simp only [Act.put, List.setIfInBounds_toArray, List.set_cons_zero, List.set_cons_succ]
          refine wpAnyH_ready (rs := [17]) (by kernel_rfl) (by simp) ?_
          refine AllReadyH.cons (o := ?_) ?_ (fun K' hK => ?_) AllReadyH.nil
          rotate_left 1
          · (simp only [List.getElem?_toArray, List.getElem?_cons_zero, List.getElem?_cons_succ]; rfl)
          go_simp
          refine hK.out _ _ (HSb.out _ _ h9 (recv_below w5' (Obj.cells #[.bool false, .bool false, .int .i64 0, .int .i64 0, .slice none 0 0, .slice none 0 0, .slice none 0 0, .int .i64 0, .bool false, .bool false, .bool false] 25))) (fun hHeld2 => ?_)
          clear hK K' hHeld
          have hHeld := hHeld2
          clear hHeld2
          try simp only [Act.put, List.setIfInBounds_toArray, List.set_cons_zero, List.set_cons_succ]
          refine wpAnyH_ready (rs := [18]) (by kernel_rfl) (by simp) ?_
          refine AllReadyH.cons (o := ?_) ?_ (fun K' hK => ?_) AllReadyH.nil
          rotate_left 1
          · (simp only [List.getElem?_toArray, List.getElem?_cons_zero, List.getElem?_cons_succ]; rfl)
          go_simp
          refine hK.out _ _ (HSb.out _ _ h9 (recv_below w5' (Obj.cells #[.bool x'.rd, .bool x'.wt, .int .i64 x'.mode, .int .i64 x'.size, .slice a1 x'.out.length k1, .slice a2 x'.inn.length k2, .slice a3 x'.back.length k3, .int .i64 x'.dir, .bool x'.fin, .bool x'.bad, .bool x'.closed] 25))) (fun hHeld2 => ?_)
          clear hK K' hHeld
          have hHeld := hHeld2
          clear hHeld2
          try simp only [Act.put, List.setIfInBounds_toArray, List.set_cons_zero, List.set_cons_succ]
          refine wpAnyH_take (i := 19) (oi := ?_) (v := ?_) ?_ (by kernel_rfl) (by kernel_rfl) (by kernel_rfl) (fun _ _ _ h => (h : False).elim) (Or.inl ⟨?_, ?_⟩) hHeld ?_
          rotate_left 2
          · (simp only [List.getElem?_toArray, List.getElem?_cons_zero, List.getElem?_cons_succ]; rfl)
          · rfl
          · (intro W hSw; obtain ⟨hq1, hq2⟩ := hSw; obtain ⟨m0, m1, m2, m3, m4, m5, m6, m7, m8, m9, m10⟩ := hq1.cs; go_simp <;> with_reducible rfl)
          try simp only [Act.put, List.setIfInBounds_toArray, List.set_cons_zero, List.set_cons_succ]
          refine wpAnyH_done (by kernel_rfl) ?_ _
          refine NoPanic.normal ?_
          clear hHeld h9 hT5
          go_wp2
          go_meet
          exact ⟨_, _, _, _, _, _, _, rfl, rfl, hide (StAt.new w5' x' (.slice a1 x'.out.length k1) (.slice a2 x'.inn.length k2) (.slice a3 x'.back.length k3)), hide (SOut.below (fun s => ct_o gw s) HS5.out (recv_below w5' (Obj.cells #[.bool x'.rd, .bool x'.wt, .int .i64 x'.mode, .int .i64 x'.size, .slice a1 x'.out.length k1, .slice a2 x'.inn.length k2, .slice a3 x'.back.length k3, .int .i64 x'.dir, .bool x'.fin, .bool x'.bad, .bool x'.closed] 25)) rfl rfl rfl)⟩
        rotate_left 1
        · (simp only [List.getElem?_toArray, List.getElem?_cons_zero, List.getElem?_cons_succ]; rfl)
        · go_simp
          refine hK.out _ _ (HSn.out _ _ ((Below.refl _ wr).alloc (Nat.le_refl _) (Obj.cells #[.bool false, .bool false, .int .i64 0, .int .i64 0, .slice none 0 0, .slice none 0 0, .slice none 0 0, .int .i64 0, .bool false, .bool false, .bool false] 25)).drew (Turned.refl _ _)) (fun hHeld2 => ?_)
          clear hK K' hHeld
          have hHeld := hHeld2
          clear hHeld2
          try simp only [Act.put, List.setIfInBounds_toArray, List.set_cons_zero, List.set_cons_succ]
          refine wpAnyH_ready (rs := [13]) (by kernel_rfl) (by simp) ?_
          refine AllReadyH.cons (o := ?_) ?_ (fun K' hK => ?_) AllReadyH.nil
          rotate_left 1
          · (simp only [List.getElem?_toArray, List.getElem?_cons_zero, List.getElem?_cons_succ]; rfl)
          go_simp
          go_at_call 25
          refine HPz.out.mono ?_
          rintro _ w5' ⟨o', i', b'', rfl, hS⟩
          obtain ⟨a1, k1, rfl, -⟩ := hS.choose_spec.1.so
          obtain ⟨a2, k2, rfl, -⟩ := hS.choose_spec.1.si
          obtain ⟨a3, k3, rfl, -⟩ := hS.choose_spec.1.sb
          have hT5 : Turned O (wr.alloc (Obj.cells #[.bool false, .bool false, .int .i64 0, .int .i64 0, .slice none 0 0, .slice none 0 0, .slice none 0 0, .int .i64 0, .bool false, .bool false, .bool false] 25)).drew w5' := (by obtain ⟨_, _, _, _, _, t⟩ := hS; exact t)
          have HS5 := hide hS
          clear hS
          have h9 := HSn.out _ w5' (((Below.refl _ wr).alloc (Nat.le_refl _) (Obj.cells #[.bool false, .bool false, .int .i64 0, .int .i64 0, .slice none 0 0, .slice none 0 0, .slice none 0 0, .int .i64 0, .bool false, .bool false, .bool false] 25)).drew) hT5
          refine hK.out _ _ (h9) (fun hHeld2 => ?_)
          clear hK K' hHeld
          have hHeld := hHeld2
          clear hHeld2
          try simp only [Act.put, List.setIfInBounds_toArray, List.set_cons_zero, List.set_cons_succ]
          refine wpAnyH_take (i := 14) (oi := ?_) (v := ?_) ?_ (by kernel_rfl) (by kernel_rfl) (by kernel_rfl) (fun _ _ _ h => (h : False).elim) (Or.inl ⟨?_, ?_⟩) hHeld ?_
          rotate_left 2
          · (simp only [List.getElem?_toArray, List.getElem?_cons_zero, List.getElem?_cons_succ]; rfl)
          · rfl
          · (intro W hSw; obtain ⟨hq1, hq2⟩ := hSw; obtain ⟨m0, m1, m2, m3, m4, m5, m6, m7, m8, m9, m10⟩ := hq1.cs; go_simp <;> with_reducible rfl)
          try simp only [Act.put, List.setIfInBounds_toArray, List.set_cons_zero, List.set_cons_succ]
          refine wpAnyH_take (i := 15) (oi := ?_) (v := ?_) ?_ (by kernel_rfl) (by kernel_rfl) (by kernel_rfl) (fun _ _ _ h => (h : False).elim) (Or.inl ⟨?_, ?_⟩) hHeld ?_
          rotate_left 2
          · (simp only [List.getElem?_toArray, List.getElem?_cons_zero, List.getElem?_cons_succ]; rfl)
          · rfl
          · (intro W hSw; obtain ⟨hq1, hq2⟩ := hSw; obtain ⟨m0, m1, m2, m3, m4, m5, m6, m7, m8, m9, m10⟩ := hq1.cs; go_simp <;> with_reducible rfl)
          try simp only [Act.put, List.setIfInBounds_toArray, List.set_cons_zero, List.set_cons_succ]
          refine wpAnyH_take (i := 16) (oi := ?_) (v := ?_) ?_ (by kernel_rfl) (by kernel_rfl) (by kernel_rfl) (fun _ _ _ h => (h : False).elim) (Or.inl ⟨?_, ?_⟩) hHeld ?_
          rotate_left 2
          · (simp only [List.getElem?_toArray, List.getElem?_cons_zero, List.getElem?_cons_succ]; rfl)
          · rfl
          · (intro W hSw; obtain ⟨hq1, hq2⟩ := hSw; obtain ⟨m0, m1, m2, m3, m4, m5, m6, m7, m8, m9, m10⟩ := hq1.cs; go_simp <;> with_reducible rfl)
          try simp only [Act.put, List.setIfInBounds_toArray, List.set_cons_zero, List.set_cons_succ]
          have hz9 : w5'.heap[wr.heap.size]? = some (Obj.cells #[.bool false, .bool false, .int .i64 0, .int .i64 0, .slice none 0 0, .slice none 0 0, .slice none 0 0, .int .i64 0, .bool false, .bool false, .bool false] 25) := (hT5.block wr.heap.size (by show _ < (wr.alloc (Obj.cells #[.bool false, .bool false, .int .i64 0, .int .i64 0, .slice none 0 0, .slice none 0 0, .slice none 0 0, .int .i64 0, .bool false, .bool false, .bool false] 25)).heap.size; omega) (fun e => by have := HV.out.ol _ e; omega)).trans HZ0.out
          obtain ⟨e1, e2⟩ := st_fill w5' wr.heap.size x' (.slice a1 x'.out.length k1) (.slice a2 x'.inn.length k2) (.slice a3 x'.back.length k3) hz9
          have HS9 := hide (HSt.out _ _ h9 e2)
          have HE1 := hide e1
          have HE2x := hide e2
          have u0' := frozen_of_row w5' wr.heap.size 0 _ _ hz9
          have u1' := frozen_of_row w5' wr.heap.size 1 _ _ hz9
          have u2' := frozen_of_row w5' wr.heap.size 2 _ _ hz9
          have u3' := frozen_of_row w5' wr.heap.size 3 _ _ hz9
          have u4' := frozen_of_row w5' wr.heap.size 4 _ _ hz9
          have u5' := frozen_of_row w5' wr.heap.size 5 _ _ hz9
          have u6' := frozen_of_row w5' wr.heap.size 6 _ _ hz9
          have u7' := frozen_of_row w5' wr.heap.size 7 _ _ hz9
          have u8' := frozen_of_row w5' wr.heap.size 8 _ _ hz9
          have u9' := frozen_of_row w5' wr.heap.size 9 _ _ hz9
          have u10' := frozen_of_row w5' wr.heap.size 10 _ _ hz9
          have z0' := cell_of_row w5' wr.heap.size 0 _ _ _ hz9
          have z1' := cell_of_row w5' wr.heap.size 1 _ _ _ hz9
          have z2' := cell_of_row w5' wr.heap.size 2 _ _ _ hz9
          have z3' := cell_of_row w5' wr.heap.size 3 _ _ _ hz9
          have z4' := cell_of_row w5' wr.heap.size 4 _ _ _ hz9
          have z5' := cell_of_row w5' wr.heap.size 5 _ _ _ hz9
          have z6' := cell_of_row w5' wr.heap.size 6 _ _ _ hz9
          have z7' := cell_of_row w5' wr.heap.size 7 _ _ _ hz9
          have z8' := cell_of_row w5' wr.heap.size 8 _ _ _ hz9
          have z9' := cell_of_row w5' wr.heap.size 9 _ _ _ hz9
          have z10' := cell_of_row w5' wr.heap.size 10 _ _ _ hz9
          simp at z0' z1' z2' z3' z4' z5' z6' z7' z8' z9' z10'
          clear e1 e2 hz9 hT5
          refine wpAnyH_ready (rs := [18]) (by kernel_rfl) (by simp) ?_
          refine AllReadyH.cons (o := ?_) ?_ (fun K' hK => ?_) AllReadyH.nil
          rotate_left 1
          · (simp only [List.getElem?_toArray, List.getElem?_cons_zero, List.getElem?_cons_succ]; rfl)
          go_simp
          refine hK.out _ _ (HS9.out) (fun hHeld2 => ?_)
          clear hK K' hHeld
          have hHeld := hHeld2
          clear hHeld2
          try simp only [Act.put, List.setIfInBounds_toArray, List.set_cons_zero, List.set_cons_succ]
          clear u0' z0' u1' z1' u2' z2' u3' z3' u4' z4' u5' z5' u6' z6' u7' z7' u8' z8' u9' z9' u10' z10'
          refine wpAnyH_take (i := 19) (oi := ?_) (v := ?_) ?_ (by kernel_rfl) (by kernel_rfl) (by kernel_rfl) (fun _ _ _ h => (h : False).elim) (Or.inl ⟨?_, ?_⟩) hHeld ?_
          rotate_left 2
          · (simp only [List.getElem?_toArray, List.getElem?_cons_zero, List.getElem?_cons_succ]; rfl)
          · rfl
          · (intro W hSw; obtain ⟨hq1, hq2⟩ := hSw; obtain ⟨m0, m1, m2, m3, m4, m5, m6, m7, m8, m9, m10⟩ := hq1.cs; go_simp <;> with_reducible rfl)
          try simp only [Act.put, List.setIfInBounds_toArray, List.set_cons_zero, List.set_cons_succ]
          refine wpAnyH_done (by kernel_rfl) ?_ _
          refine NoPanic.normal ?_
          clear hHeld h9
          go_wp2
          go_meet
          exact ⟨_, _, _, _, _, _, _, rfl, rfl, HE1, hide (SOut.fin (fun s => ct_o gw s) HS5.out (show Below wr.heap.size wr.drew (wr.alloc (Obj.cells #[.bool false, .bool false, .int .i64 0, .int .i64 0, .slice none 0 0, .slice none 0 0, .slice none 0 0, .int .i64 0, .bool false, .bool false, .bool false] 25)).drew from recv_below wr.drew (Obj.cells #[.bool false, .bool false, .int .i64 0, .int .i64 0, .slice none 0 0, .slice none 0 0, .slice none 0 0, .int .i64 0, .bool false, .bool false, .bool false] 25)) (by show wr.heap.size < (wr.alloc (Obj.cells #[.bool false, .bool false, .int .i64 0, .int .i64 0, .slice none 0 0, .slice none 0 0, .slice none 0 0, .int .i64 0, .bool false, .bool false, .bool false] 25)).heap.size; omega) (Nat.le_refl _) HV.out.ol HE2x.out)⟩
      case rest =>
        obtain ⟨gt, a1, a2, a3, k1, k2, k3, rfl, rfl, HTb, HSo⟩ := hcut
        obtain ⟨wq, hq⟩ : ∃ W, W = wc := ⟨_, rfl⟩
        subst hq
        have hTu : Turned O wr.drew wq := by obtain ⟨_, _, _, _, _, t⟩ := HSo.out; exact t
        have HBc : Hid (Below w.heap.size w wq) := hide ((HB.out.trans ((Below.refl _ _).drew.mono HB.out.size)).trans (hTu.below (fun j e => Nat.le_trans hBw (HV.out.ob j e)) HB.out.size))
        obtain ⟨tb2, tf2, et, -, -, r1, r2⟩ := HTc.out wq HBc.out
        cases et
        obtain ⟨t0, t1, t2, t3, t4, t5, t6, t7, t8, t9, t10⟩ := HTb.out.cs
        clear hTu m0 m1' m2' m3' m4' m5' m6' m7' m8' m9' m10' n0 n1 n2 n3 n4 n5 n6 n7 n8 n9 n10 d0 d1 d2 d1z d2z HP HPz HVz HZ0 HBZ
        go_upto_region 15 with fail
        go_cut [102] (fun b wx => b = .bool false ∧ ∃ q, wx = wq.drewN q)
        case first =>
          by_cases he : e' = 0
          · obtain ⟨e1, e2, e3⟩ := HE2.out he
            have b1 : (x'.mode != tm) = false := by simp [e1]
            have b2 : (x'.size != ts) = false := by simp [e2]
            have b3 : ¬ (0 : Int) < (x'.out.length : Int) := by rw [e3]; decide
            have HO3 := hide e3
            subst he
            clear e1 e2 e3
            go_quiet ((go_at_call 24; exact Calls.quiet_of_same (bnum_same _ _)))
            go_wp2
            go_meet
            exact ⟨by rw [HO3.out]; rfl, _, rfl⟩
          · have b1 : (e' == 0) = false := by simpa using he
            go_quiet ((go_at_call 24; exact Calls.quiet_of_same (bnum_same _ _)))
            go_wp2
            go_meet
            exact ⟨rfl, _, rfl⟩
        case rest =>
          obtain ⟨rfl, q, hwq⟩ := hcut
          obtain ⟨wd, hd⟩ : ∃ W, W = wc := ⟨_, rfl⟩
          subst hd
          have hBd : Below wq.heap.size wq wd := by rw [hwq]; exact below_drewN (Below.refl _ _) _
          have HTb2 := hide (HTb.out.below hBd)
          have HSo2 := hide (SOut.below (fun s => ct_o gw s) HSo.out hBd (x' := x') rfl rfl rfl)
          have HBd := hide (HBc.out.trans (hBd.mono HBc.out.size))
          obtain ⟨hst, hv, ht⟩ := LV.next (fun s => ct_o gw s) HVd.out hBz HSo2.out
          clear t0 t1 t2 t3 t4 t5 t6 t7 t8 t9 t10 hBd hwq r1 r2
          obtain ⟨t0, t1, t2, t3, t4, t5, t6, t7, t8, t9, t10⟩ := HTb2.out.cs
          obtain ⟨p0, p1, p2, p3, p4, p5, p6, p7, p8, p9, p10⟩ := hst.cs
          have f0 := hst.soft 0
          have f1 := hst.soft 1
          have f2 := hst.soft 2
          have f3 := hst.soft 3
          have f4 := hst.soft 4
          have f5 := hst.soft 5
          have f6 := hst.soft 6
          have f7 := hst.soft 7
          have f8 := hst.soft 8
          have f9 := hst.soft 9
          have f10 := hst.soft 10
          have HV9 := hide hv
          have HT9 := hide ht
          unfold filled at HV9 HT9
          have HB9 : Hid (Below w.heap.size w ((((((((((((wd.setCell ⟨B, 0, none⟩ (.bool x'.rd)).setCell ⟨B, 1, none⟩ (.bool x'.wt)).setCell ⟨B, 2, none⟩ (.int .i64 x'.mode)).setCell ⟨B, 3, none⟩ (.int .i64 x'.size)).setCell ⟨B, 4, none⟩ (.slice a1 x'.out.length k1)).setCell ⟨B, 5, none⟩ (.slice a2 x'.inn.length k2)).setCell ⟨B, 6, none⟩ (.slice a3 x'.back.length k3)).setCell ⟨B, 7, none⟩ (.int .i64 x'.dir)).setCell ⟨B, 8, none⟩ (.bool x'.fin)).setCell ⟨B, 9, none⟩ (.bool x'.bad)).setCell ⟨B, 10, none⟩ (.bool x'.closed)))) := hide ((HB.out.trans ((Below.refl _ _).drew.mono HB.out.size)).trans ((HT9.out.below (fun k e => e) hBz).mono hBw))
          have hBn : B ≤ ((((((((((((wd.setCell ⟨B, 0, none⟩ (.bool x'.rd)).setCell ⟨B, 1, none⟩ (.bool x'.wt)).setCell ⟨B, 2, none⟩ (.int .i64 x'.mode)).setCell ⟨B, 3, none⟩ (.int .i64 x'.size)).setCell ⟨B, 4, none⟩ (.slice a1 x'.out.length k1)).setCell ⟨B, 5, none⟩ (.slice a2 x'.inn.length k2)).setCell ⟨B, 6, none⟩ (.slice a3 x'.back.length k3)).setCell ⟨B, 7, none⟩ (.int .i64 x'.dir)).setCell ⟨B, 8, none⟩ (.bool x'.fin)).setCell ⟨B, 9, none⟩ (.bool x'.bad)).setCell ⟨B, 10, none⟩ (.bool x'.closed))).heap.size := by have h9 : wr.drew.heap.size ≤ ((((((((((((wd.setCell ⟨B, 0, none⟩ (.bool x'.rd)).setCell ⟨B, 1, none⟩ (.bool x'.wt)).setCell ⟨B, 2, none⟩ (.int .i64 x'.mode)).setCell ⟨B, 3, none⟩ (.int .i64 x'.size)).setCell ⟨B, 4, none⟩ (.slice a1 x'.out.length k1)).setCell ⟨B, 5, none⟩ (.slice a2 x'.inn.length k2)).setCell ⟨B, 6, none⟩ (.slice a3 x'.back.length k3)).setCell ⟨B, 7, none⟩ (.int .i64 x'.dir)).setCell ⟨B, 8, none⟩ (.bool x'.fin)).setCell ⟨B, 9, none⟩ (.bool x'.bad)).setCell ⟨B, 10, none⟩ (.bool x'.closed))).heap.size := HT9.out.size; have h10 : wr.drew.heap.size = wr.heap.size := rfl; omega
          clear hst hv ht
          go_wp2
          obtain ⟨O2', hv9⟩ := HV9.out
          have HVn := hide hv9
          clear hv9 HV9
          go_roundg gn
          case measure => omega
          case rel => exact ⟨j + 1, x', S', _, _, _, O2', by omega, by go_num, HVn, HF2, HB9, hBn⟩
end Go.Proofs.Ytpffhemmjigfaaa

/- BufmodeTaken: for every text, mode, size and changes of the buffer, what the Raw of a stream takes in the end is what was put (of the first 2000 bytes), whenever and however the buffer is changed. -/
namespace Go.Proofs.Ytpffhemmjigfaaa.bufmodeTaken
open Go.ChangeShapes Go.WideShapes Go.ChangeAt Go.RowKit
open Go.ChangeMaps (open_string shut_string)
set_option linter.unusedVariables false

theorem own : ownKnob Try.prog.godebug = none := by kernel_rfl
theorem laidOut : laidOutB Try.prog = true := by kernel_rfl

set_option maxRecDepth 100000 in
theorem lifted (os : Os) (started : os.Started) (H : Type) (enc : TypeId × Value → H) :
    ReturnsInHanded {} Try.checked os 7 .any (Rows.bufmodeTakenSpec.pre6 enc Try.prog Try.f7 Rows.bufmodeTakenRow.domain false) (Rows.bufmodeTakenSpec.post enc Try.prog Try.f7 false true false false) := by
  refine returnsInHanded_of_change_sized (C := Try.checked) own started (by kernel_rfl) Try.func7
    (ChangeSpec.witness6 (enc := enc) (C := Try.checked) false ⟨#[], #[.slice none 0 0, .int .i64 0, .int .i64 0, .slice none 0 0], []⟩ 8 (by kernel_rfl) (by kernel_rfl) (by kernel_rfl) (by kernel_rfl)) ?_
  intro W base args ds gs before hval0 hW hcnd0 hsz0 _
  have hsz : (DataW.weightsEach Try.prog (Try.f7.params.toList ++ Rows.bufmodeTakenSpec.plain.varTypes Try.prog) (ds ++ gs)).all (· ≤ reachBytes) = true := hsz0
  clear hsz0
  have hval : ∀ (j : Nat) t v, Try.f7.params[j]? = some t → args[j]? = some v → Value.okWide Try.prog W .any base t v := hval0
  have hW' := hW
  obtain ⟨p, q, hA0, hV, rfl, hfz, hnd⟩ := hW
  have hA : DataW.TrodAll enc Try.prog W 0 (fun _ => true) true Try.f7.params.toList args.toList ds p := hA0
  rw [Try.params7] at hA hval hsz
  obtain ⟨v0, vs0, d0, ds0, p0, q0, hargs, rfl, rfl, h0, r0⟩ := trodAll_cons hA
  obtain ⟨v1, vs1, d1, ds1, p1, q1, rfl, rfl, rfl, h1, r1⟩ := trodAll_cons r0
  obtain ⟨v2, vs2, d2, ds2, p2, q2, rfl, rfl, rfl, h2, r2⟩ := trodAll_cons r1
  obtain ⟨v3, vs3, d3, ds3, p3, q3, rfl, rfl, rfl, h3, r3⟩ := trodAll_cons r2
  obtain ⟨rfl, rfl, rfl⟩ := trodAll_nil r3
  obtain rfl : args = #[v0, v1, v2, v3] := by cases args; simp_all
  obtain ⟨rfl, rfl⟩ := trodVars_none hV
  obtain ⟨c0, len0, cap0, rfl⟩ := okWide_slice Try.underlying22 (hval 0 22 v0 rfl rfl)
  have k0 := h0
  have lt0 : ∀ x ∈ p0, x.block < W.heap.size := by obtain ⟨m, hm⟩ := k0; exact DataW.trod_lt m _ _ _ hm
  obtain ⟨fuel0, hf0⟩ := h0
  obtain ⟨l0, y0, m0, e0⟩ := bytes_arg2 Try.underlying22 Try.underlying5 (by kernel_rfl) hf0
  have z0 : l0.length ≤ 140737488351232 := by
    rcases e0 with ⟨_, rfl⟩ | ⟨elems, spare, rfl, hll⟩
    · simp
    · have := sized_slice hsz (j := 0) (t := 22) (e := 5) rfl rfl Try.underlying22
      rw [show Try.prog.bytesOf 5 = 1 by kernel_rfl] at this; simp only [reachBytes] at this; omega
  obtain ⟨a1, rfl, rfl, rfl, w1⟩ := open_int Try.underlying3 (hval 1 3 v1 rfl rfl) h1
  have b1 := bounds_i64 w1
  obtain ⟨a2, rfl, rfl, rfl, w2⟩ := open_int Try.underlying3 (hval 2 3 v2 rfl rfl) h2
  have b2 := bounds_i64 w2
  obtain ⟨c3, len3, cap3, rfl⟩ := okWide_slice Try.underlying55 (hval 3 55 v3 rfl rfl)
  have k3 := h3
  have lt3 : ∀ x ∈ p3, x.block < W.heap.size := by obtain ⟨m, hm⟩ := k3; exact DataW.trod_lt m _ _ _ hm
  obtain ⟨fuel3, hf3⟩ := h3
  obtain ⟨l3, y3, e3⟩ : ∃ l, Trns W (.slice c3 len3 cap3) l ∧ DatL TnDat d3 l := rows_arg 3 _ TnDat Try.underlying55 (by kernel_rfl) (by decide) (fun fuel cs d p h hl => trn_cells Try.underlying57 (by kernel_rfl) rfl rfl rfl (by kernel_rfl) (by kernel_rfl) (by kernel_rfl) Try.underlying3 Try.underlying3 Try.underlying3 h) hf3
  obtain rfl : len3 = l3.length := by obtain ⟨_, _, e, _⟩ := RowsR.form y3; cases e; rfl
  obtain ⟨z3, zz3⟩ := mrows_small (msmall_arg hsz (j := 3) (t := 55) rfl rfl) Try.underlying55 (n := 24) (by kernel_rfl) e3
  clear hA0
  refine (btaken_any a1 a2 c0 len0 cap0 l0 c3 cap3 l3 W y0 m0 y3 (by omega)).mono fun e W' ⟨he, bel⟩ => ?_
  subst he
  exact ⟨_, rfl, _, _, _, [], _, [], hW', trodAll_mk1 (shut_bool Try.underlying4 _), (trodAll_cons_mk (Below.trod laidOut (by kernel_rfl) (of_decide_eq_true (by kernel_rfl)) k0 bel lt0) (trodAll_cons_mk (shut_int Try.underlying3 w1) (trodAll_cons_mk (shut_int Try.underlying3 w2) (trodAll_cons_mk (Below.trod laidOut (by kernel_rfl) (of_decide_eq_true (by kernel_rfl)) k3 bel lt3) trodAll_mk0)))), rfl, bel.frame _, fun h => by cases h⟩

theorem over : Rows.bufmodeTakenRow.holds Try.pinned (OpenSpec.ofChange Rows.bufmodeTakenSpec) :=
  OpenClaim.holds_of_wide 7 Try.f7 rfl rfl rfl rfl rfl rfl rfl ⟨rfl, rfl, rfl, rfl, rfl⟩ rfl rfl rfl rfl rfl (by kernel_rfl) Try.func7 (by kernel_rfl)
    (of_decide_eq_true (by kernel_rfl)) (by unfold Func.isWrapper; first | (rw [if_pos (by decide +kernel)]; kernel_rfl) | (rw [if_neg (by decide +kernel)]; exact ⟨rfl, rfl⟩))
    (fun os started H enc _ => lifted os started H enc)
end Go.Proofs.Ytpffhemmjigfaaa.bufmodeTaken
namespace Go.Proofs.Ytpffhemmjigfaaa
theorem bufmodeTaken_holds : Rows.BufmodeTakenSaid := bufmodeTaken.over
#print axioms bufmodeTaken_holds
end Go.Proofs.Ytpffhemmjigfaaa
