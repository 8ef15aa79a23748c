/- Streams over memory that grows. -/
import Derived.Test.YtbffnamdpmjfnaaStL
import Derived.Test.YtbffnamdpmjfnaaMeTypes
namespace Go.Proofs.Ytbffnamdpmjfnaa
open Go.RowKit

theorem someOk_true {S : Type} (D : RawD S) (n : Nat) : ∀ k s, someOk D (fun _ => True) n k s
  | 0, _ => trivial
  | k + 1, _ => ⟨trivial, fun _ => someOk_true D n k _⟩
theorem putOk_true {S : Type} (D : RawD S) (bs : List UInt8) : ∀ k s d t, putOk D (fun _ => True) bs k s d t
  | 0, _, _, _ => trivial
  | k + 1, _, _, _ => fun _ => ⟨trivial, fun _ _ => putOk_true D bs k _ _ _, fun _ _ _ => putOk_true D bs k _ _ _⟩
theorem bears_true {S : Type} (D : RawD S) : Bears D (fun _ => True) (fun _ => True) (fun _ _ => True) := ⟨fun _ s bs _ _ => ⟨putOk_true D bs _ s _ _, trivial⟩, fun _ s m _ _ _ => ⟨someOk_true D m _ s, trivial⟩, fun _ _ h => h⟩
/-- Memory as a Raw. -/
def msR : RawD MS := ⟨fun S n => S.read n, fun S x => S.write x⟩
theorem gmem_o (g : Nat) (S : MS) : OAt (fun w O => MemAt w O g S) := ⟨fun h hk _ => h.keep hk, fun h => h.trim⟩
theorem piece_le (l : List UInt8) (p n : Nat) : (piece l p n).length ≤ l.length := by
  unfold piece
  simp
  omega
theorem gro_raw (g : Nat) : RawM msR 24 (.pointer (some ⟨g, 0, none⟩)) 84 85 (fun _ => True) (fun _ => True) (fun w O S => MemAt w O g S) where
  mread w := by kernel_rfl
  mwrite w := by kernel_rfl
  cread a w := by kernel_rfl
  cwrite a w := by kernel_rfl
  keep h hk _ := h.keep hk
  few {w O s} n h := by
    have := h.ok
    show (s.read n).1.length ≤ _
    unfold MS.read
    split
    · have := piece_le s.l s.pl (n : Int).toNat
      simp only
      omega
    · simp
  read n h _ _ _ := (gmread_any _ g _ n _ h).mono fun _ _ e => view_own e
  write bs a c h _ hb hc _ _ hap := gmwrite_any _ g _ bs a c _ h hb hc (fun _ => hap)
theorem lay_tail (l x : List UInt8) : lay l l.length x = l ++ x := by
  unfold lay
  split
  · rename_i h; subst h; simp
  · have h1 : grow l (l.length + x.length) = l ++ List.replicate x.length 0 := by
      unfold grow
      rw [show l.length + x.length - l.length = x.length by omega]
    rw [h1, List.take_left, List.drop_eq_nil_of_le (by simp), List.append_nil]
/-- All is taken at once where there is room. -/
theorem ms_put (S : MS) (bs : List UInt8) (h1 : S.pl = S.l.length) (h2 : S.room = 1048576) (h3 : S.l.length + bs.length ≤ 1048576) : putV msR bs (putF bs) S 0 0 = (bs.length, 0, ⟨S.l ++ bs, 1048576, S.l.length + bs.length⟩) := by
  obtain ⟨l, room, pl⟩ := S
  simp only at h1 h2 h3
  subst h1 h2
  by_cases h0 : bs = []
  · subst h0
    rw [putV_done _ _ _ _ _ _ (by simp)]
    simp
  have hpos : 0 < bs.length := List.length_pos_iff.2 h0
  have hw : msR.write ⟨l, 1048576, l.length⟩ (bs.drop 0) = ((bs.length : Int), 0, ⟨l ++ bs, 1048576, l.length + bs.length⟩) := by
    show MS.write _ (bs.drop 0) = _
    unfold MS.write
    rw [List.drop_zero, if_neg (by omega), if_neg h0, if_neg (by simp only; omega)]
    simp only
    rw [Nat.min_eq_left (by omega), List.take_length, lay_tail]
  obtain ⟨k, hk⟩ : ∃ k, putF bs = k + 1 := ⟨putF bs - 1, by unfold putF; omega⟩
  rw [hk, putV_next msR bs k _ 0 0 hw, if_pos hpos, if_neg (by omega), if_neg (by omega), if_pos rfl, putV_done _ _ _ _ _ _ (by omega)]
  simp
/-- A stream that is written alone, over memory that grows. -/
structure Thr (x : SS) (S : MS) : Prop where
  rd : x.rd = false
  wt : x.wt = true
  m1 : 1 ≤ x.mode
  m3 : x.mode ≤ 3
  s1 : 1 ≤ x.size
  s2 : x.size ≤ 65536
  ol : (x.out.length : Int) < x.size
  o1 : x.mode = 1 → x.out = []
  inn : x.inn = []
  back : x.back = []
  fin : x.fin = false
  bad : x.bad = false
  closed : x.closed = false
  dir : x.dir = 2 ∨ (x.dir = 0 ∧ x.out = [])
  pl : S.pl = S.l.length
  room : S.room = 1048576
theorem Thr.may {x : SS} {S : MS} (h : Thr x S) : x.may = true := by
  unfold SS.may SS.buf SS.way SS.toR SS.toW
  have h1 : (x.out.length : Int) ≤ if x.mode = 1 then 0 else x.size := by
    split
    · rename_i e
      rw [h.o1 e]; simp
    · have := h.ol; omega
  rw [h.inn, h.back, h.closed, h.wt]
  simp only [h.m1, h.m3, h.s1, h.s2, h1, decide_true, Bool.true_and, List.length_nil]
  rcases h.dir with e | ⟨e, e2⟩
  · simp [e]
  · simp [e, e2]
theorem Thr.refuse {x : SS} {S : MS} (h : Thr x S) : x.refuse true = 0 := by
  unfold SS.refuse
  rw [if_neg (by simp [h.may]), if_neg (by simp), if_neg (by simp [h.closed])]
theorem Thr.noWrite {x : SS} {S : MS} (h : Thr x S) : x.noWrite = 0 := by
  unfold SS.noWrite
  rw [if_neg (by simp [h.refuse]), if_neg (by simp [h.wt]), if_neg (fun e => by rcases h.dir with d | d <;> omega)]
theorem ms_deliver (x : SS) (S : MS) (h1 : S.pl = S.l.length) (h2 : S.room = 1048576) (h3 : S.l.length + x.out.length ≤ 1048576) : x.deliver msR S = ({ x with out := [] }, 0, ⟨S.l ++ x.out, 1048576, S.l.length + x.out.length⟩) := by
  unfold SS.deliver SS.mark
  rw [ms_put S x.out h1 h2 h3]
  simp
theorem thr_put {x : SS} {S : MS} (h : Thr x S) (c : UInt8) (hr : S.l.length + x.out.length + 1 ≤ 1048576) : (x.put msR S c).2.1 = 0 ∧ Thr (x.put msR S c).1 (x.put msR S c).2.2 ∧ (x.put msR S c).2.2.l ++ (x.put msR S c).1.out = S.l ++ x.out ++ [c] := by
  unfold SS.put
  rw [if_pos h.noWrite]
  unfold SS.put1
  by_cases hm : x.mode = 1
  · rw [if_pos hm, ms_put S [c] h.pl h.room (by simp; omega)]
    refine ⟨rfl, ?_, ?_⟩
    · unfold SS.mark
      rw [if_pos (.inl rfl)]
      exact ⟨h.rd, h.wt, h.m1, h.m3, h.s1, h.s2, h.ol, h.o1, h.inn, h.back, h.fin, h.bad, h.closed, .inl rfl, by simp, rfl⟩
    · unfold SS.mark
      rw [if_pos (.inl rfl)]
      simp [h.o1 hm]
  rw [if_neg hm]
  have ho := h.ol
  rw [if_neg (by simp only; omega)]
  unfold SS.lay
  simp only
  split
  · rename_i hc
    rw [ms_deliver _ S h.pl h.room (by simp; omega)]
    have hs := h.s1
    exact ⟨rfl, ⟨h.rd, h.wt, h.m1, h.m3, h.s1, h.s2, by simp; omega, fun _ => rfl, h.inn, h.back, h.fin, h.bad, h.closed, .inl rfl, by simp, rfl⟩, by simp⟩
  · rename_i hc
    refine ⟨rfl, ⟨h.rd, h.wt, h.m1, h.m3, h.s1, h.s2, ?_, fun e => absurd e hm, h.inn, h.back, h.fin, h.bad, h.closed, .inl rfl, h.pl, h.room⟩, by simp⟩
    have : ¬ ((x.out.length + 1 : Nat) : Int) = x.size := fun e => hc (.inl e)
    simp
    omega
theorem thr_flush {x : SS} {S : MS} (h : Thr x S) (hr : S.l.length + x.out.length ≤ 1048576) : (x.flush msR S).2.1 = 0 ∧ Thr (x.flush msR S).1 (x.flush msR S).2.2 ∧ (x.flush msR S).1.out = [] ∧ (x.flush msR S).2.2.l = S.l ++ x.out := by
  unfold SS.flush
  rw [if_neg (by simp [h.refuse])]
  have hs := h.s1
  split
  · rw [ms_deliver x S h.pl h.room hr, if_pos rfl]
    exact ⟨rfl, ⟨h.rd, h.wt, h.m1, h.m3, h.s1, h.s2, by simp; omega, fun _ => rfl, h.inn, h.back, h.fin, h.bad, h.closed, .inr ⟨rfl, rfl⟩, by simp, rfl⟩, rfl, rfl⟩
  · rename_i hd
    have ho : x.out = [] := (h.dir.resolve_left hd).2
    exact ⟨rfl, h, ho, by rw [ho]; simp⟩
theorem thr_close {x : SS} {S : MS} (h : Thr x S) (hr : S.l.length + x.out.length ≤ 1048576) : (x.close msR S).2.1 = 0 ∧ (x.close msR S).1.closed = true ∧ (x.close msR S).2.2.l = S.l ++ x.out := by
  unfold SS.close
  rw [if_neg (by simp [h.refuse]), ms_deliver x S h.pl h.room hr]
  exact ⟨rfl, rfl, rfl⟩
end Go.Proofs.Ytbffnamdpmjfnaa
