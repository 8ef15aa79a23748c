/- What the proof stands on, part 8: the contracts of the program's calls that it reaches. -/
import Derived.Test.YtpffhemmjigfaaaKM7
import Derived.Deep.RegionLaw
import Derived.Lib.BytesEntry
import Derived.Lib.MinMax
import Derived.Deep.RegionHeld3
import Derived.Deep.Cut
import Derived.ProofKit
import Derived.OpenShut
/- StreamFew, as values: how many raw calls there are. -/
namespace Go.Proofs.Ytpffhemmjigfaaa
open Go.RowKit

/-- A Counter takes all at once. -/
theorem ct_put (S : CtS) (bs : List UInt8) (hl : bs.length ≤ 1048576) : putV ctD bs (putF bs) S 0 0 = (bs.length, 0, ⟨S.b ++ bs, S.pl, S.rd, S.wr + if bs = [] then 0 else 1⟩) := by
  by_cases h0 : bs = []
  · subst h0
    rw [putV_done _ _ _ _ _ _ (by simp)]
    obtain ⟨b, pl, rd, wr⟩ := S
    simp
  have hpos : 0 < bs.length := List.length_pos_iff.2 h0
  have hw : ctD.write S (bs.drop 0) = ((bs.length : Int), 0, ⟨S.b ++ bs, S.pl, S.rd, S.wr + 1⟩) := by
    rw [List.drop_zero]; rfl
  obtain ⟨k, hk⟩ : ∃ k, putF bs = k + 1 := ⟨putF bs - 1, by unfold putF; omega⟩
  rw [hk, putV_next ctD bs k _ 0 0 hw, if_pos hpos, if_neg (by omega), if_neg (by omega), if_pos rfl, putV_done _ _ _ _ _ _ (by omega), if_neg h0]
  simp
theorem ct_some (S : CtS) (n : Nat) : someV ctD n 8192 S = ((S.b.drop S.pl).take (min n (S.b.length - S.pl)), 0, ⟨S.b, S.pl + min n (S.b.length - S.pl), S.rd + 1, S.wr⟩) := by
  have hr : ctD.read S n = ((S.b.drop S.pl).take (min n (S.b.length - S.pl)), 0, ⟨S.b, S.pl + min n (S.b.length - S.pl), S.rd + 1, S.wr⟩) := rfl
  rw [someV_next ctD n 8191 S hr, if_neg (by omega), if_neg (by rw [List.length_take]; omega), if_pos rfl]
/-- A full stream that is written alone: what was put, and how many writes there were. -/
structure FwW (x : SS) (S : CtS) (l : List UInt8) (sz : Nat) : Prop where
  wt : x.wt = true
  mode : x.mode = 3
  size : x.size = (sz : Int)
  s1 : 1 ≤ sz
  s2 : sz ≤ 65536
  ol : x.out.length < sz
  inn : x.inn = []
  back : x.back = []
  closed : x.closed = false
  dir : x.dir = 2 ∨ (x.dir = 0 ∧ x.out = [])
  all : S.b ++ x.out = l
  few : S.wr * sz + x.out.length = l.length
  rz : S.rd = 0
theorem FwW.may {x : SS} {S : CtS} {l : List UInt8} {sz : Nat} (h : FwW x S l sz) : x.may = true := by
  unfold SS.may SS.buf SS.way SS.toR SS.toW
  have h1 := h.s1
  have h2 := h.s2
  have h3 := h.ol
  rw [h.inn, h.back, h.closed, h.wt, h.mode, h.size]
  have e2 : (1 : Int) ≤ (sz : Int) := by omega
  have e3 : (sz : Int) ≤ 65536 := by omega
  rcases h.dir with e | ⟨e, e4⟩
  · simp [e, e2, e3]
    omega
  · simp [e, e4, e2, e3]
theorem FwW.refuse {x : SS} {S : CtS} {l : List UInt8} {sz : Nat} (h : FwW x S l sz) : x.refuse true = 0 := by
  unfold SS.refuse
  rw [if_neg (by simp [h.may]), if_neg (by simp), if_neg (by simp [h.closed])]
theorem FwW.noWrite {x : SS} {S : CtS} {l : List UInt8} {sz : Nat} (h : FwW x S l sz) : x.noWrite = 0 := by
  unfold SS.noWrite
  rw [if_neg (by simp [h.refuse]), if_neg (by simp [h.wt]), if_neg (fun e => by rcases h.dir with d | d <;> omega)]
theorem ct_deliver (x : SS) (S : CtS) (h : x.out.length ≤ 65536) : x.deliver ctD S = ({ x with out := [] }, 0, ⟨S.b ++ x.out, S.pl, S.rd, S.wr + if x.out = [] then 0 else 1⟩) := by
  unfold SS.deliver SS.mark
  rw [ct_put S x.out (by omega)]
  simp
theorem fw_put {x : SS} {S : CtS} {l : List UInt8} {sz : Nat} (h : FwW x S l sz) (c : UInt8) : (x.put ctD S c).2.1 = 0 ∧ FwW (x.put ctD S c).1 (x.put ctD S c).2.2 (l ++ [c]) sz := by
  have ho := h.ol
  have h1 := h.s1
  have h2 := h.s2
  have hf := h.few
  have hs := h.size
  unfold SS.put
  rw [if_pos h.noWrite]
  unfold SS.put1
  rw [if_neg (by simp only; rw [h.mode]; decide), if_neg (by simp only; omega)]
  unfold SS.lay
  simp only
  split
  · rename_i hc
    have hfull : x.out.length + 1 = sz := by
      rcases hc with e | e
      · omega
      · rw [h.mode] at e; simp at e
    rw [ct_deliver _ S (by simp; omega)]
    refine ⟨rfl, ⟨h.wt, h.mode, h.size, h1, h2, h1, h.inn, h.back, h.closed, .inl rfl, ?_, ?_, h.rz⟩⟩
    · simp only [List.append_nil]
      rw [← List.append_assoc, h.all]
    · simp only [List.length_append, List.length_cons, List.length_nil]
      rw [if_neg (by simp), Nat.add_mul]
      omega
  · rename_i hc
    refine ⟨rfl, ⟨h.wt, h.mode, h.size, h1, h2, ?_, h.inn, h.back, h.closed, .inl rfl, ?_, ?_, h.rz⟩⟩
    · simp only [List.length_append, List.length_cons, List.length_nil]
      have : ¬ ((x.out.length + 1 : Nat) : Int) = x.size := fun e => hc (.inl e)
      omega
    · simp only
      rw [← List.append_assoc, h.all]
    · simp only [List.length_append, List.length_cons, List.length_nil]
      omega
theorem fw_close {x : SS} {S : CtS} {l : List UInt8} {sz : Nat} (h : FwW x S l sz) : (x.close ctD S).2.1 = 0 ∧ (x.close ctD S).2.2.b = l ∧ (x.close ctD S).2.2.wr ≤ l.length / sz + 1 := by
  have ho := h.ol
  have h2 := h.s2
  have hf := h.few
  unfold SS.close
  rw [if_neg (by simp [h.refuse]), ct_deliver x S (by omega)]
  refine ⟨rfl, h.all, ?_⟩
  simp only
  have hw : S.wr ≤ l.length / sz := (Nat.le_div_iff_mul_le (by omega)).2 (by omega)
  split <;> omega
/-- A full stream that is read alone: i bytes were got. -/
structure FwR (x : SS) (S : CtS) (b : List UInt8) (i sz : Nat) : Prop where
  rd : x.rd = true
  mode : x.mode = 3
  size : x.size = (sz : Int)
  s1 : 1 ≤ sz
  s2 : sz ≤ 65536
  out : x.out = []
  back : x.back = []
  fin : x.fin = false
  closed : x.closed = false
  dir : x.dir = 1 ∨ (x.dir = 0 ∧ x.inn = [])
  all : S.b = b
  inn : x.inn = (b.drop i).take x.inn.length
  pl : S.pl = i + x.inn.length
  top : S.pl = min (S.rd * sz) b.length
  few : S.rd = 0 ∨ (S.rd - 1) * sz < i
  wz : S.wr = 0
theorem FwR.short {x : SS} {S : CtS} {b : List UInt8} {i sz : Nat} (h : FwR x S b i sz) : x.inn.length < sz := by
  have h1 := h.s1
  have h2 := h.pl
  have h3 := h.top
  rcases h.few with e | e
  · rw [e] at h3
    omega
  · obtain ⟨r, hr⟩ : ∃ r, S.rd = r + 1 ∨ S.rd = 0 := ⟨S.rd - 1, by omega⟩
    rcases hr with hr | hr
    · rw [hr] at e h3
      rw [Nat.add_mul] at h3
      simp only [Nat.add_sub_cancel] at e
      omega
    · rw [hr] at h3
      omega
theorem FwR.may {x : SS} {S : CtS} {b : List UInt8} {i sz : Nat} (h : FwR x S b i sz) : x.may = true := by
  unfold SS.may SS.buf SS.way SS.toR SS.toW
  have h1 := h.s1
  have h2 := h.s2
  have h3 := h.short
  rw [h.out, h.back, h.closed, h.rd, h.mode, h.size]
  have e2 : (1 : Int) ≤ (sz : Int) := by omega
  have e3 : (sz : Int) ≤ 65536 := by omega
  have e5 : (x.inn.length : Int) ≤ 65536 := by omega
  rcases h.dir with e | ⟨e, e4⟩
  · simp [e, e2, e3, e5]
  · simp [e, e4, e2, e3]
theorem FwR.noRead {x : SS} {S : CtS} {b : List UInt8} {i sz : Nat} (h : FwR x S b i sz) : x.noRead = 0 := by
  have hr : x.refuse true = 0 := by
    unfold SS.refuse
    rw [if_neg (by simp [h.may]), if_neg (by simp), if_neg (by simp [h.closed])]
  unfold SS.noRead
  rw [if_neg (by simp [hr]), if_neg (by simp [h.rd]), if_neg (fun e => by rcases h.dir with d | d <;> omega)]
theorem fr_get {x : SS} {S : CtS} {b : List UInt8} {i sz : Nat} (h : FwR x S b i sz) (hi : i < b.length) : (x.get ctD S).2.2.1 = 0 ∧ (x.get ctD S).2.1 = b.getD i 0 ∧ FwR (x.get ctD S).1 (x.get ctD S).2.2.2 b (i + 1) sz := by
  have h1 := h.s1
  have hin := h.inn
  have hpl := h.pl
  have htop := h.top
  have hst := h.short
  unfold SS.get
  rw [if_pos h.noRead]
  unfold SS.get1
  rw [if_neg (by simp only; rw [h.back]; simp)]
  by_cases hp : 0 < x.inn.length
  · rw [if_pos hp]
    refine ⟨rfl, ?_, ⟨h.rd, h.mode, h.size, h1, h.s2, h.out, h.back, h.fin, h.closed, .inl rfl, h.all, ?_, ?_, htop, ?_, h.wz⟩⟩
    · simp only
      rw [hin]
      simp only [List.getD_eq_getElem?_getD, List.getElem?_take, List.getElem?_drop, Nat.add_zero]
      rw [if_pos hp]
    · simp only [List.length_drop]
      conv => lhs; rw [hin]
      rw [List.drop_take, List.drop_drop]
    · simp only [List.length_drop]
      omega
    · rcases h.few with e | e
      · rw [e] at htop; omega
      · right; show (S.rd - 1) * sz < i + 1; omega
  · have h0 : x.inn.length = 0 := by omega
    rw [if_neg hp, if_neg (by simp only; rw [h.fin]; simp)]
    have hm : ({ x with dir := 1 } : SS).most = sz := by
      unfold SS.most
      simp only
      rw [if_neg (by rw [h.mode]; decide), h.size, Int.toNat_natCast]
    rw [hm, ct_some S sz]
    simp only
    have hSl : S.b.length = b.length := by rw [h.all]
    have hpi : S.pl = i := by omega
    have hri : S.rd * sz = i := by omega
    have hmn : 1 ≤ min sz (S.b.length - S.pl) := by omega
    have hlen : ((S.b.drop S.pl).take (min sz (S.b.length - S.pl))).length = min sz (S.b.length - S.pl) := by rw [List.length_take, List.length_drop]; omega
    rw [if_neg (by simp), if_neg (by omega)]
    refine ⟨rfl, ?_, ⟨h.rd, h.mode, h.size, h1, h.s2, h.out, h.back, h.fin, h.closed, .inl rfl, h.all, ?_, ?_, ?_, ?_, h.wz⟩⟩
    · simp only
      rw [h.all, hpi]
      simp only [List.getD_eq_getElem?_getD, List.getElem?_take, List.getElem?_drop, Nat.add_zero]
      rw [if_pos (by omega)]
    · simp only [List.length_drop, hlen]
      rw [h.all, hpi, List.drop_take, List.drop_drop]
    · simp only [List.length_drop, hlen]
      omega
    · show S.pl + min sz (S.b.length - S.pl) = min ((S.rd + 1) * sz) b.length
      rw [Nat.add_mul]
      omega
    · right
      show (S.rd + 1 - 1) * sz < i + 1
      rw [Nat.add_sub_cancel]
      omega
theorem fr_few {x : SS} {S : CtS} {b : List UInt8} {sz : Nat} (h : FwR x S b b.length sz) : S.rd ≤ b.length / sz + 1 := by
  have h1 := h.s1
  rcases h.few with e | e
  · rw [e]; exact Nat.zero_le _
  · have : S.rd - 1 ≤ b.length / sz := (Nat.le_div_iff_mul_le (by omega)).2 (by omega)
    omega
/-- Bounds of a Counter's numbers. -/
theorem ct_bears : Bears ctD ctOk ctOk (fun n s => s.rd + n ≤ 4611686018427387904 ∧ s.wr + n ≤ 4611686018427387904 ∧ s.b.length + n * 65536 ≤ 1000000000) := by
  refine ⟨fun n s bs h hl => ?_, fun n s m h h1 h2 => ?_, fun n s h => by omega⟩
  · rw [ct_put s bs (by omega)]
    have hok : ctOk s := by unfold ctOk; omega
    refine ⟨?_, ?_⟩
    · obtain ⟨k, hk⟩ : ∃ k, putF bs = k + 1 := ⟨putF bs - 1, by unfold putF; omega⟩
      rw [hk]
      intro hpos
      have hw : ctD.write s (bs.drop 0) = ((bs.length : Int), 0, ⟨s.b ++ bs, s.pl, s.rd, s.wr + 1⟩) := by rw [List.drop_zero]; rfl
      rw [hw]
      refine ⟨hok, fun e => by
        have e2 : ((0 : Int) = 22 ∨ (0 : Int) = 23) ∨ ((bs.length : Int) = 0 ∧ (0 : Int) = 0) := e
        omega, fun _ _ _ => ?_⟩
      cases k with
      | zero => trivial
      | succ k => intro h5; simp at h5
    · simp only [List.length_append]
      split <;> omega
  · rw [ct_some s m]
    exact ⟨⟨by unfold ctOk; omega, fun e => by have e2 : (0 : Int) = 22 ∨ (0 : Int) = 23 := e; omega⟩, by simp only; omega⟩
theorem FwW.bear {x : SS} {S : CtS} {l : List UInt8} {sz : Nat} (h : FwW x S l sz) (hl : l.length ≤ 5000) : S.rd + 2 ≤ 4611686018427387904 ∧ S.wr + 2 ≤ 4611686018427387904 ∧ S.b.length + 2 * 65536 ≤ 1000000000 := by
  have h1 := h.few
  have h2 := h.rz
  have h3 : S.wr ≤ S.wr * sz := Nat.le_mul_of_pos_right _ h.s1
  have h4 : S.b.length ≤ l.length := by rw [← h.all]; simp
  omega
theorem FwR.bear {x : SS} {S : CtS} {b : List UInt8} {i sz : Nat} (h : FwR x S b i sz) (hl : b.length ≤ 5000) (hi : i ≤ 5000) : S.rd + 2 ≤ 4611686018427387904 ∧ S.wr + 2 ≤ 4611686018427387904 ∧ S.b.length + 2 * 65536 ≤ 1000000000 := by
  have h2 := h.wz
  have h3 : S.rd - 1 ≤ (S.rd - 1) * sz := Nat.le_mul_of_pos_right _ h.s1
  have h4 := h.all
  rw [h4]
  rcases h.few with e | e <;> omega
theorem few_le (b sz r : Nat) (hb : b ≤ 5000) (h : r ≤ b / sz + 1) : decide ((r : Int) ≤ IntKind.i64.wrap (IntKind.i64.wrap ((b : Int) / (sz : Int)) + 1)) = true ∧ decide ((r : Int) ≤ IntKind.i64.wrap (wrap64 ((b : Int) / (sz : Int)) + 1)) = true := by
  have h1 : b / sz ≤ 5000 := Nat.le_trans (Nat.div_le_self _ _) hb
  rw [show (b : Int) / (sz : Int) = ((b / sz : Nat) : Int) from (Int.natCast_ediv _ _).symm]
  generalize b / sz = q at *
  have e1 : IntKind.i64.wrap (q : Int) = (q : Int) := by rw [IntKind.wrap_i64]; omega
  have e2 : IntKind.i64.wrap ((q : Int) + 1) = (q : Int) + 1 := by rw [IntKind.wrap_i64]; omega
  have e3 : wrap64 (q : Int) = (q : Int) := by unfold wrap64; omega
  rw [e1, e3, e2]
  exact ⟨decide_eq_true (by omega), decide_eq_true (by omega)⟩
theorem take_more (b : List UInt8) (k : Nat) (h : k < b.length) : b.take (k + 1) = b.take k ++ [b.getD k 0] := by
  rw [List.take_add_one]
  simp [h]
end Go.Proofs.Ytpffhemmjigfaaa

/- Buffers' modes: a copy of a state. -/
namespace Go.Proofs.Ytpffhemmjigfaaa
open Go.RowKit

set_option maxRecDepth 100000 in
set_option maxHeartbeats 40000000 in
theorem bcopied_any (x : SS) (o i b : Value) (P : Nat → Prop) (w : World) (h : SIn w P x o i b) (ho : x.out.length ≤ 140737488351232) (hi : x.inn.length ≤ 140737488351232) (hb : x.back.length ≤ 140737488351232) :
    Calls Try.prog 45 #[.agg #[.bool x.rd, .bool x.wt, .int .i64 x.mode, .int .i64 x.size, o, i, b, .int .i64 x.dir, .bool x.fin, .bool x.bad, .bool x.closed]] w fun e w' => ∃ o' i' b', e = .returned (.agg #[.bool x.rd, .bool x.wt, .int .i64 x.mode, .int .i64 x.size, o', i', b', .int .i64 x.dir, .bool x.fin, .bool x.bad, .bool x.closed]) ∧ w'.ownsRow w.heap.size 5 1 o' x.out.length (x.out.map bv) ∧ w'.ownsRow w.heap.size 5 1 i' x.inn.length (x.inn.map bv) ∧ w'.ownsRow w.heap.size 5 1 b' x.back.length (x.back.map bv) ∧ Below w.heap.size w w' := by
  have HC1 := hide (fun W (hB : Below w.heap.size w W) => bclone_any o x.out W ((h.so.turned (Turned.of_below (S := fun _ => False) hB) (fun _ _ _ => id)).choose_spec.choose_spec.2.1) ho)
  have HC2 := hide (fun W (hB : Below w.heap.size w W) => bclone_any i x.inn W ((h.si.turned (Turned.of_below (S := fun _ => False) hB) (fun _ _ _ => id)).choose_spec.choose_spec.2.1) hi)
  have HC3 := hide (fun W (hB : Below w.heap.size w W) => bclone_any b x.back W ((h.sb.turned (Turned.of_below (S := fun _ => False) hB) (fun _ _ _ => id)).choose_spec.choose_spec.2.1) hb)
  obtain ⟨oa, oc, rfl, -⟩ := h.so
  obtain ⟨ia, ic, rfl, -⟩ := h.si
  obtain ⟨ba, bc, rfl, -⟩ := h.sb
  clear h
  go_enter Try.func45, Try.ntmps45
  go_wp2_with fail
  have HB0 := hide ((recv_below w (Obj.cells #[.bool x.rd, .bool x.wt, .int .i64 x.mode, .int .i64 x.size, .slice oa x.out.length oc, .slice ia x.inn.length ic, .slice ba x.back.length bc, .int .i64 x.dir, .bool x.fin, .bool x.bad, .bool x.closed] 25)).trans ((recv_below (w.alloc (Obj.cells #[.bool x.rd, .bool x.wt, .int .i64 x.mode, .int .i64 x.size, .slice oa x.out.length oc, .slice ia x.inn.length ic, .slice ba x.back.length bc, .int .i64 x.dir, .bool x.fin, .bool x.bad, .bool x.closed] 25)) (Obj.cells #[.bool false, .bool false, .int .i64 0, .int .i64 0, .slice none 0 0, .slice none 0 0, .slice none 0 0, .int .i64 0, .bool false, .bool false, .bool false] 25)).mono (recv_below w (Obj.cells #[.bool x.rd, .bool x.wt, .int .i64 x.mode, .int .i64 x.size, .slice oa x.out.length oc, .slice ia x.inn.length ic, .slice ba x.back.length bc, .int .i64 x.dir, .bool x.fin, .bool x.bad, .bool x.closed] 25)).size))
  have HS0 := hide ((StAt.new w x (.slice oa x.out.length oc) (.slice ia x.inn.length ic) (.slice ba x.back.length bc)).below (recv_below _ (Obj.cells #[.bool false, .bool false, .int .i64 0, .int .i64 0, .slice none 0 0, .slice none 0 0, .slice none 0 0, .int .i64 0, .bool false, .bool false, .bool false] 25)))
  have HZ0 : Hid (((w.alloc (Obj.cells #[.bool x.rd, .bool x.wt, .int .i64 x.mode, .int .i64 x.size, .slice oa x.out.length oc, .slice ia x.inn.length ic, .slice ba x.back.length bc, .int .i64 x.dir, .bool x.fin, .bool x.bad, .bool x.closed] 25)).alloc (Obj.cells #[.bool false, .bool false, .int .i64 0, .int .i64 0, .slice none 0 0, .slice none 0 0, .slice none 0 0, .int .i64 0, .bool false, .bool false, .bool false] 25)).heap[w.heap.size + 1]? = some (Obj.cells #[.bool false, .bool false, .int .i64 0, .int .i64 0, .slice none 0 0, .slice none 0 0, .slice none 0 0, .int .i64 0, .bool false, .bool false, .bool false] 25)) := hide (by have := heap_alloc_new (w.alloc (Obj.cells #[.bool x.rd, .bool x.wt, .int .i64 x.mode, .int .i64 x.size, .slice oa x.out.length oc, .slice ia x.inn.length ic, .slice ba x.back.length bc, .int .i64 x.dir, .bool x.fin, .bool x.bad, .bool x.closed] 25)) (Obj.cells #[.bool false, .bool false, .int .i64 0, .int .i64 0, .slice none 0 0, .slice none 0 0, .slice none 0 0, .int .i64 0, .bool false, .bool false, .bool false] 25); rw [show (w.alloc (Obj.cells #[.bool x.rd, .bool x.wt, .int .i64 x.mode, .int .i64 x.size, .slice oa x.out.length oc, .slice ia x.inn.length ic, .slice ba x.back.length bc, .int .i64 x.dir, .bool x.fin, .bool x.bad, .bool x.closed] 25)).heap.size = w.heap.size + 1 from Array.size_push ..] at this; exact this)
  generalize (w.alloc (Obj.cells #[.bool x.rd, .bool x.wt, .int .i64 x.mode, .int .i64 x.size, .slice oa x.out.length oc, .slice ia x.inn.length ic, .slice ba x.back.length bc, .int .i64 x.dir, .bool x.fin, .bool x.bad, .bool x.closed] 25)).alloc (Obj.cells #[.bool false, .bool false, .int .i64 0, .int .i64 0, .slice none 0 0, .slice none 0 0, .slice none 0 0, .int .i64 0, .bool false, .bool false, .bool false] 25) = w0 at *
  have hz0 : w.heap.size + 1 < w0.heap.size := (Array.getElem?_eq_some_iff.1 HZ0.out).1
  obtain ⟨-, -, -, -, c4, c5, c6, -⟩ := HS0.out.cs
  go_region_law (first
    | (go_simp; go_at_call 52; have := HB2; refine (HC3.out _ HB2.out).mono ?_; rintro _ w3 ⟨u3, rfl, hO3, hB3⟩; obtain ⟨a3, k3, rfl⟩ := owns_slice hO3; have HS3 := hide (HS2.out.below hB3); have HZ3 := hide ((hB3.block (w.heap.size + 1) (Array.getElem?_eq_some_iff.1 HZ2.out).1).trans HZ2.out); have HB3 := hide (HB2.out.trans (hB3.mono HB2.out.size)); have HO3 := hide (And.intro (And.intro (owns_below HO2.out.1 hB3) (owns_below HO2.out.2 hB3)) hO3); clear hO3 hB3; obtain ⟨f0, f1, f2, f3, f4, f5, f6, f7, f8, f9, f10⟩ := HS3.out.cs; have g4 := frozen_of_row w3 w.heap.size 4 _ _ HS3.out; have g5 := frozen_of_row w3 w.heap.size 5 _ _ HS3.out; have g6 := frozen_of_row w3 w.heap.size 6 _ _ HS3.out)
    | (go_simp; go_at_call 52; have := HB1; refine (HC2.out _ HB1.out).mono ?_; rintro _ w2 ⟨u2, rfl, hO2, hB2⟩; obtain ⟨a2, k2, rfl⟩ := owns_slice hO2; have HS2 := hide (HS1.out.below hB2); have HZ2 := hide ((hB2.block (w.heap.size + 1) (Array.getElem?_eq_some_iff.1 HZ1.out).1).trans HZ1.out); have HB2 := hide (HB1.out.trans (hB2.mono HB1.out.size)); have hs2 := hB2.size; have HO2 := hide (And.intro (owns_below HO1.out hB2) hO2); clear hO2 hB2; obtain ⟨-, -, -, -, e4, e5, e6, -⟩ := HS2.out.cs)
    | (go_simp; go_at_call 52; refine (HC1.out _ (by exact HB0.out.drew)).mono ?_; rintro _ w1 ⟨u1, rfl, hO1, hB1⟩; obtain ⟨a1, k1, rfl⟩ := owns_slice hO1; have HS1 := hide (HS0.out.below ((Below.refl _ _).drew.trans hB1)); have HZ1 := hide ((hB1.block (w.heap.size + 1) (Array.getElem?_eq_some_iff.1 HZ0.out).1).trans HZ0.out); have HB1 := hide (HB0.out.trans (((Below.refl _ _).drew.trans hB1).mono HB0.out.size)); have hs1 : w0.heap.size ≤ w1.heap.size := hB1.size; have HO1 := hide hO1; clear hO1 hB1; obtain ⟨-, -, -, -, d4, d5, d6, -⟩ := HS1.out.cs)
    | fail)
  all_goals
    have e4 := Go.heap_setCell_same w3 w.heap.size 4 _ _ (.slice a1 x.out.length k1) HS3.out
    have e5 := Go.heap_setCell_same _ w.heap.size 5 _ _ (.slice a2 x.inn.length k2) e4
    have e6 := Go.heap_setCell_same _ w.heap.size 6 _ _ (.slice a3 x.back.length k3) e5
    have HS4 : Hid (StAt (((w3.setCell ⟨w.heap.size, 4, none⟩ (.slice a1 x.out.length k1)).setCell ⟨w.heap.size, 5, none⟩ (.slice a2 x.inn.length k2)).setCell ⟨w.heap.size, 6, none⟩ (.slice a3 x.back.length k3)) w.heap.size x (.slice a1 x.out.length k1) (.slice a2 x.inn.length k2) (.slice a3 x.back.length k3)) := hide e6
    have HT4 : Hid (Turned (fun k => k = w.heap.size) w3 (((w3.setCell ⟨w.heap.size, 4, none⟩ (.slice a1 x.out.length k1)).setCell ⟨w.heap.size, 5, none⟩ (.slice a2 x.inn.length k2)).setCell ⟨w.heap.size, 6, none⟩ (.slice a3 x.back.length k3))) := hide ((((Turned.refl (fun k => k = w.heap.size) w3).set (.inl rfl)).set (.inl rfl)).set (.inl rfl))
    clear e4 e5 e6 f0 f1 f2 f3 f4 f5 f6 f7 f8 f9 f10 g4 g5 g6 c4 c5 c6 d4 d5 d6 HS0 HS1 HS2 HS3 HZ0 HZ1 HZ2 HC1 HC2 HC3
    generalize ((w3.setCell ⟨w.heap.size, 4, none⟩ (.slice a1 x.out.length k1)).setCell ⟨w.heap.size, 5, none⟩ (.slice a2 x.inn.length k2)).setCell ⟨w.heap.size, 6, none⟩ (.slice a3 x.back.length k3) = w4 at *
    have HZ4 := hide ((HT4.out.block (w.heap.size + 1) (Array.getElem?_eq_some_iff.1 HZ3.out).1 (by omega)).trans HZ3.out)
    obtain ⟨f0, f1, f2, f3, f4, f5, f6, f7, f8, f9, f10⟩ := HS4.out.cs
    have z0 := cell_of_row w4 (w.heap.size + 1) 0 _ _ _ HZ4.out
    have z1 := cell_of_row w4 (w.heap.size + 1) 1 _ _ _ HZ4.out
    have z2 := cell_of_row w4 (w.heap.size + 1) 2 _ _ _ HZ4.out
    have z3 := cell_of_row w4 (w.heap.size + 1) 3 _ _ _ HZ4.out
    have z4 := cell_of_row w4 (w.heap.size + 1) 4 _ _ _ HZ4.out
    have z5 := cell_of_row w4 (w.heap.size + 1) 5 _ _ _ HZ4.out
    have z6 := cell_of_row w4 (w.heap.size + 1) 6 _ _ _ HZ4.out
    have z7 := cell_of_row w4 (w.heap.size + 1) 7 _ _ _ HZ4.out
    have z8 := cell_of_row w4 (w.heap.size + 1) 8 _ _ _ HZ4.out
    have z9 := cell_of_row w4 (w.heap.size + 1) 9 _ _ _ HZ4.out
    have z10 := cell_of_row w4 (w.heap.size + 1) 10 _ _ _ HZ4.out
    have y0 := frozen_of_row w4 (w.heap.size + 1) 0 _ _ HZ4.out
    have y1 := frozen_of_row w4 (w.heap.size + 1) 1 _ _ HZ4.out
    have y2 := frozen_of_row w4 (w.heap.size + 1) 2 _ _ HZ4.out
    have y3 := frozen_of_row w4 (w.heap.size + 1) 3 _ _ HZ4.out
    have y4 := frozen_of_row w4 (w.heap.size + 1) 4 _ _ HZ4.out
    have y5 := frozen_of_row w4 (w.heap.size + 1) 5 _ _ HZ4.out
    have y6 := frozen_of_row w4 (w.heap.size + 1) 6 _ _ HZ4.out
    have y7 := frozen_of_row w4 (w.heap.size + 1) 7 _ _ HZ4.out
    have y8 := frozen_of_row w4 (w.heap.size + 1) 8 _ _ HZ4.out
    have y9 := frozen_of_row w4 (w.heap.size + 1) 9 _ _ HZ4.out
    have y10 := frozen_of_row w4 (w.heap.size + 1) 10 _ _ HZ4.out
    simp at z0 z1 z2 z3 z4 z5 z6 z7 z8 z9 z10
    go_wp2
    obtain ⟨e1, e2⟩ := st_fill w4 (w.heap.size + 1) x (.slice a1 x.out.length k1) (.slice a2 x.inn.length k2) (.slice a3 x.back.length k3) HZ4.out
    have HTw := hide ((HT4.out.mono fun k e => (.inl e : k = w.heap.size ∨ k = w.heap.size + 1)).trans (e2.mono fun k e => (.inr e : k = w.heap.size ∨ k = w.heap.size + 1)) (fun _ _ e => e))
    refine bodyPost_ret (results_cell_row rfl _ _ (w.heap.size + 1) _ _ _ _ rfl e1 Try.underlying25 rfl (by kernel_rfl)) rfl ?_
    have far : ∀ k, w.heap.size + 1 < k → ¬ (k = w.heap.size ∨ k = w.heap.size + 1) := fun k h e => by omega
    have hr1 := HO3.out.1.1
    have hr2 := HO3.out.1.2
    have hr3 := HO3.out.2
    have hs0 : w.heap.size + 1 < w0.drew.heap.size := hz0
    exact ⟨_, _, _, rfl, owns_mono (owns_turned hr1 HTw.out (fun k e => far k (by have := (hr1.lt k e).1; omega))) (by omega), owns_mono (owns_turned hr2 HTw.out (fun k e => far k (by have := (hr2.lt k e).1; omega))) (by omega), owns_mono (owns_turned hr3 HTw.out (fun k e => far k (by have := (hr3.lt k e).1; omega))) (by omega), (HTw.out.below (B := w.heap.size) (fun k e => by omega) HB3.out.size) |> HB3.out.trans⟩
end Go.Proofs.Ytpffhemmjigfaaa

/- Buffers' modes, as values: which writes a text makes, how many reads there are. -/
namespace Go.Proofs.Ytpffhemmjigfaaa

/-- Why there is no buffer of that mode and size. -/
def bref (mode size : Int) : Int := if mode < 1 ∨ 3 < mode then 1 else if size < 1 ∨ 65536 < size then 4 else 0
/-- How many bytes one raw call moves at most. -/
def brm (mode size : Int) : Int := if mode = 1 then 1 else size
/-- Up to the first newline, with it, or all. -/
def lnw : List UInt8 → Nat
  | [] => 0
  | c :: l => if c = 10 then 1 else 1 + lnw l
/-- How long the writes are; n bytes are held. -/
def rwr (ln : Bool) (m : Nat) : Nat → List UInt8 → List Nat
  | n, [] => if 0 < n then [n] else []
  | n, c :: l => if n + 1 = m ∨ (ln = true ∧ c = 10) then (n + 1) :: rwr ln m 0 l else rwr ln m (n + 1) l
/-- The first piece of at most r bytes. -/
def chk (ln : Bool) (r : Nat) (l : List UInt8) : Nat := if ln = true then lnw (l.take r) else min r l.length
theorem lnw_le (l : List UInt8) : lnw l ≤ l.length := by
  induction l with
  | nil => exact Nat.le_refl _
  | cons c l ih =>
    unfold lnw
    split
    · simp
    · simp; omega
theorem lnw_pos (l : List UInt8) (h : l ≠ []) : 1 ≤ lnw l := by
  cases l with
  | nil => contradiction
  | cons c l =>
    unfold lnw
    split <;> omega
theorem chk_pos (ln : Bool) (r : Nat) (l : List UInt8) (hr : 1 ≤ r) (h : l ≠ []) : 1 ≤ chk ln r l ∧ chk ln r l ≤ r ∧ chk ln r l ≤ l.length := by
  have hl : 0 < l.length := List.length_pos_iff.2 h
  unfold chk
  split
  · have h1 := lnw_le (l.take r)
    rw [List.length_take] at h1
    refine ⟨lnw_pos _ ?_, by omega, by omega⟩
    intro e
    have := congrArg List.length e
    rw [List.length_take, List.length_nil] at this
    omega
  · omega
theorem chk_one (ln : Bool) (c : UInt8) (l : List UInt8) : chk ln 1 (c :: l) = 1 := by
  unfold chk
  split
  · simp [lnw]
  · rw [List.length_cons]; omega
theorem chk_nl (r : Nat) (l : List UInt8) (hr : 1 ≤ r) : chk true r (10 :: l) = 1 := by
  obtain ⟨k, rfl⟩ : ∃ k, r = k + 1 := ⟨r - 1, by omega⟩
  simp [chk, lnw]
theorem chk_cons (ln : Bool) (r : Nat) (c : UInt8) (l : List UInt8) (h : ¬ (ln = true ∧ c = 10)) : chk ln (r + 1) (c :: l) = 1 + chk ln r l := by
  unfold chk
  split
  · rename_i e
    rw [List.take_succ_cons]
    have : ¬ c = 10 := fun e' => h ⟨e, e'⟩
    simp only [lnw, if_neg this]
  · simp; omega
/-- A text's writes: the first piece, and the writes of what is behind it. -/
theorem rwr_step (ln : Bool) (m : Nat) : ∀ (l : List UInt8) (n : Nat), n < m → l ≠ [] → rwr ln m n l = (n + chk ln (m - n) l) :: rwr ln m 0 (l.drop (chk ln (m - n) l)) := by
  intro l
  induction l with
  | nil => intro n _ h; contradiction
  | cons c l ih =>
    intro n hn _
    rw [show rwr ln m n (c :: l) = if n + 1 = m ∨ (ln = true ∧ c = 10) then (n + 1) :: rwr ln m 0 l else rwr ln m (n + 1) l from rfl]
    by_cases hc : n + 1 = m ∨ (ln = true ∧ c = 10)
    · rw [if_pos hc]
      have e : chk ln (m - n) (c :: l) = 1 := by
        rcases hc with e | ⟨e1, e2⟩
        · rw [show m - n = 1 by omega]; exact chk_one ln c l
        · subst e1 e2; exact chk_nl _ l (by omega)
      rw [e]; rfl
    · rw [if_neg hc]
      have hc2 : ¬ (ln = true ∧ c = 10) := fun e => hc (.inr e)
      obtain ⟨r, hr⟩ : ∃ r, m - n = r + 1 := ⟨m - n - 1, by omega⟩
      rw [hr, chk_cons ln r c l hc2]
      by_cases hl : l = []
      · subst hl
        have e0 : chk ln r [] = 0 := by unfold chk; split <;> simp [lnw]
        rw [e0]
        simp [rwr]
      · rw [ih (n + 1) (by omega) hl, show m - (n + 1) = r by omega, Nat.add_comm 1 (chk ln r l), List.drop_succ_cons]
        congr 1
        omega
theorem rwr_nil (ln : Bool) (m : Nat) : rwr ln m 0 [] = [] := rfl
/-- One byte more. -/
theorem rwr_snoc (ln : Bool) (m : Nat) : ∀ (l : List UInt8) (n : Nat), n < m → ∃ k p, k < m ∧ (∀ r, rwr ln m n (l ++ r) = p ++ rwr ln m k r) ∧ n + l.length = p.sum + k := by
  intro l
  induction l with
  | nil => intro n hn; exact ⟨n, [], hn, fun r => rfl, by simp⟩
  | cons c l ih =>
    intro n hn
    by_cases hc : n + 1 = m ∨ (ln = true ∧ c = 10)
    · obtain ⟨k, p, h1, h2, h3⟩ := ih 0 (by omega)
      refine ⟨k, (n + 1) :: p, h1, fun r => ?_, ?_⟩
      · show rwr ln m n (c :: (l ++ r)) = _
        rw [rwr, if_pos hc, h2 r]; rfl
      · simp only [List.length_cons, List.sum_cons]; omega
    · obtain ⟨k, p, h1, h2, h3⟩ := ih (n + 1) (by omega)
      refine ⟨k, p, h1, fun r => ?_, ?_⟩
      · show rwr ln m n (c :: (l ++ r)) = _
        rw [rwr, if_neg hc, h2 r]
      · simp only [List.length_cons]; omega
theorem rwr_sum (ln : Bool) (m : Nat) (l : List UInt8) (n : Nat) (hn : n < m) : (rwr ln m n l).sum = n + l.length := by
  obtain ⟨k, p, h1, h2, h3⟩ := rwr_snoc ln m l n hn
  have := h2 []
  rw [List.append_nil] at this
  rw [this, h3, List.sum_append]
  congr 1
  unfold rwr
  split
  · simp
  · simp; omega
theorem rwr_each (ln : Bool) (m : Nat) : ∀ (l : List UInt8) (n : Nat), n < m → ∀ x ∈ rwr ln m n l, 1 ≤ x ∧ x ≤ m := by
  intro l
  induction l with
  | nil =>
    intro n hn x hx
    unfold rwr at hx
    split at hx
    · simp at hx; omega
    · simp at hx
  | cons c l ih =>
    intro n hn x hx
    unfold rwr at hx
    split at hx
    · rcases List.mem_cons.1 hx with e | e
      · omega
      · exact ih 0 (by omega) x e
    · rename_i h
      exact ih (n + 1) (by have : ¬ n + 1 = m := fun e => h (.inl e); omega) x hx
theorem rwr_len_le (ln : Bool) (m : Nat) (l : List UInt8) (n : Nat) (hn : n < m) : (rwr ln m n l).length ≤ n + l.length := by
  rw [← rwr_sum ln m l n hn]
  have := rwr_each ln m l n hn
  generalize rwr ln m n l = q at *
  induction q with
  | nil => simp
  | cons a q ih =>
    have h1 := this a (by simp)
    have h2 := ih fun x hx => this x (by simp [hx])
    simp only [List.length_cons, List.sum_cons]
    omega
/-- Full: all but the last are whole. -/
theorem rwr_full (m : Nat) : ∀ (l : List UInt8) (n : Nat), n < m → (rwr false m n l).length = (n + l.length + (m - 1)) / m := by
  intro l
  induction l with
  | nil =>
    intro n hn
    unfold rwr
    simp only [List.length_nil, Nat.add_zero]
    split
    · symm; rw [List.length_singleton]; exact Nat.div_eq_of_lt_le (by omega) (by omega)
    · symm; rw [List.length_nil]; exact Nat.div_eq_of_lt (by omega)
  | cons c l ih =>
    intro n hn
    unfold rwr
    by_cases h : n + 1 = m
    · rw [if_pos (.inl h), List.length_cons, ih 0 (by omega), List.length_cons]
      rw [show n + (l.length + 1) + (m - 1) = (0 + l.length + (m - 1)) + m by omega, Nat.add_div_right _ (by omega)]
    · rw [if_neg (by simp [h]), ih (n + 1) (by omega), List.length_cons]
      congr 1
      omega
/-- How many pieces there are. -/
def pcs (n m : Nat) : Nat := (n + m - 1) / m
theorem pcs_of {n m c : Nat} (hm : 1 ≤ m) (h : (c = 0 ∧ n = 0) ∨ (1 ≤ c ∧ (c - 1) * m < n ∧ n ≤ c * m)) : pcs n m = c := by
  unfold pcs
  rcases h with ⟨rfl, rfl⟩ | ⟨h1, h2, h3⟩
  · exact Nat.div_eq_of_lt (by omega)
  · obtain ⟨k, rfl⟩ : ∃ k, c = k + 1 := ⟨c - 1, by omega⟩
    rw [Nat.add_sub_cancel] at h2
    refine Nat.div_eq_of_lt_le ?_ ?_
    · rw [Nat.add_mul]; omega
    · rw [Nat.add_mul, Nat.add_mul] at *; omega
theorem pcs_ge {n m : Nat} (hm : 1 ≤ m) : n ≤ pcs n m * m := by
  unfold pcs
  have := Nat.div_add_mod (n + m - 1) m
  have h2 := Nat.mod_lt (n + m - 1) (show m > 0 by omega)
  rw [Nat.mul_comm] at this
  omega
theorem pcs_le {n m : Nat} (hm : 1 ≤ m) : pcs n m ≤ n := by
  unfold pcs
  refine (Nat.div_le_iff_le_mul_add_pred (by omega)).2 ?_
  have : n ≤ m * n := Nat.le_mul_of_pos_left _ (by omega)
  omega
/-- How many reads there are. -/
def rds (m n have_ : Nat) : Nat := if have_ < n then pcs have_ m + 1 else pcs n m
end Go.Proofs.Ytpffhemmjigfaaa

/- Buffers' modes: what the small functions answer. -/
namespace Go.Proofs.Ytpffhemmjigfaaa
open Go.RowKit

set_option maxHeartbeats 1000000 in
theorem bref_any (mode size : Int) (w : World) : Calls Try.prog 61 #[.int .i64 mode, .int .i64 size] w fun e w' => e = .returned (.int .i64 (bref mode size)) ∧ w = w' := by
  rcases (show mode < 1 ∨ 3 < mode ∨ (1 ≤ mode ∧ mode ≤ 3 ∧ size < 1) ∨ (1 ≤ mode ∧ mode ≤ 3 ∧ 65536 < size) ∨ (1 ≤ mode ∧ mode ≤ 3 ∧ 1 ≤ size ∧ size ≤ 65536) by omega) with h | h | ⟨h1, h2, h3⟩ | ⟨h1, h2, h3⟩ | ⟨h1, h2, h3, h4⟩
  all_goals
    go_enter Try.func61, Try.ntmps61
    go_wp2
    go_ret
    refine ⟨ret_int ?_, rfl⟩
    unfold bref
    first
    | rw [if_pos (by omega)]
    | rw [if_neg (by omega), if_pos (by omega)]
    | rw [if_neg (by omega), if_neg (by omega)]
theorem bref_ok {mode size : Int} (h : bref mode size = 0) : 1 ≤ mode ∧ mode ≤ 3 ∧ 1 ≤ size ∧ size ≤ 65536 := by
  unfold bref at h
  split at h
  · omega
  split at h
  · omega
  omega
theorem bref_zero {mode size : Int} (h : 1 ≤ mode ∧ mode ≤ 3 ∧ 1 ≤ size ∧ size ≤ 65536) : bref mode size = 0 := by
  unfold bref
  rw [if_neg (by omega), if_neg (by omega)]
set_option maxHeartbeats 1000000 in
theorem broom_any (mode size : Int) (w : World) : Calls Try.prog 64 #[.int .i64 mode, .int .i64 size] w fun e w' => e = .returned (.int .i64 (brm mode size)) ∧ w = w' := by
  by_cases h : mode = 1
  · subst h
    go_enter Try.func64, Try.ntmps64
    go_wp2
    go_ret
    exact ⟨ret_int (by unfold brm; rw [if_pos rfl]), rfl⟩
  · have h2 : (mode == 1) = false := by simpa using h
    go_enter Try.func64, Try.ntmps64
    go_wp2
    go_ret
    exact ⟨ret_int (by unfold brm; rw [if_neg h]), rfl⟩
set_option maxHeartbeats 1000000 in
theorem bpieces_any (n m : Nat) (w : World) (hn : n ≤ 1048576) (h1 : 1 ≤ m) (h2 : m ≤ 65536) : Calls Try.prog 65 #[.int .i64 n, .int .i64 m] w fun e w' => e = .returned (.int .i64 (pcs n m)) ∧ w = w' := by
  have h0 : ¬ m = 0 := by omega
  have h3 : ¬ (m : Int) = 0 := by omega
  have h4 : ((m : Int) == 0) = false := by simpa using h3
  have h5 : (m == 0) = false := by simpa using h0
  have hb : ((n : Int) + (m : Int) - 1) / (m : Int) = (pcs n m : Int) := by
    unfold pcs
    rw [Int.natCast_ediv]
    congr 1
    omega
  have hp := pcs_le (n := n) h1
  have hw : wrap64 (((n : Int) + (m : Int) - 1) / (m : Int)) = (pcs n m : Int) := by rw [hb]; unfold wrap64; omega
  have hw2 : IntKind.i64.wrap (((n : Int) + (m : Int) - 1) / (m : Int)) = (pcs n m : Int) := by rw [hb, IntKind.wrap_i64]; omega
  have HW := hide hw
  have HW2 := hide hw2
  have HW3 := hide hb
  clear hw hw2 hb hp
  go_enter Try.func65, Try.ntmps65
  go_wp2
  go_ret
  exact ⟨ret_int (by first | exact HW.out | exact HW2.out | exact HW3.out), rfl⟩
def cntB (n : Int) : Bool := decide (0 ≤ n ∧ n ≤ 1048576)
set_option maxHeartbeats 1000000 in
theorem bcount_any (n : Int) (w : World) : Calls Try.prog 63 #[.int .i64 n] w fun e w' => e = .returned (.bool (cntB n)) ∧ w = w' := by
  rcases (show n < 0 ∨ 1048576 < n ∨ (0 ≤ n ∧ n ≤ 1048576) by omega) with h | h | ⟨h, h2⟩
  all_goals
    go_enter Try.func63, Try.ntmps63
    go_wp2
    go_ret
    refine ⟨ret_bool ?_, rfl⟩
    unfold cntB
    first
    | exact (decide_eq_true (by omega)).symm
    | exact (decide_eq_false (by omega)).symm
    | (rw [decide_eq_false (p := 0 ≤ n ∧ n ≤ 1048576) (by omega)]; exact decide_eq_false (by omega))
theorem idx_lnw (l : List UInt8) : (if 0 ≤ Lib.indexByte l 10 then Lib.indexByte l 10 + 1 else (l.length : Int)) = (lnw l : Int) := by
  induction l with
  | nil => rfl
  | cons c l ih =>
    have hg := Lib.indexByte_ge l 10
    unfold Lib.indexByte lnw
    by_cases h : c = 10
    · subst h
      simp
    · have h2 : (c == 10) = false := by simpa using h
      rw [h2, if_neg h]
      simp only [Bool.false_eq_true, if_false]
      by_cases h3 : Lib.indexByte l 10 = -1
      · rw [h3] at ih ⊢
        simp at ih ⊢
        omega
      · have h4 : (Lib.indexByte l 10 == -1) = false := by simpa using h3
        rw [h4]
        simp only [Bool.false_eq_true, if_false]
        rw [if_pos (by omega)] at ih
        rw [if_pos (by omega)]
        omega
theorem bytesOf_map (l : List UInt8) : Lib.bytesOf (l.map fun c => (c.toNat : Int)) = l := by
  unfold Lib.bytesOf
  rw [List.map_map]
  conv => rhs; rw [← List.map_id l]
  apply List.map_congr_left
  intro c _
  simp
set_option maxHeartbeats 1000000 in
set_option maxRecDepth 100000 in
theorem bindex_any (b o c : Nat) (l : List UInt8) (w : World) (h : ∀ j, j < l.length → w.cell? ⟨b, o + j, none⟩ = some (.int .u8 ((l.getD j 0).toNat : Int))) :
    Calls Try.prog 98 #[.slice (some ⟨b, o, none⟩) l.length c, .int .u8 10] w fun e w' => e = .returned (.int .i64 (Lib.indexByte l 10)) ∧ w' = w := by
  have HR := hide (Lib.run_indexByteSlice (P := Try.prog) w b o l.length c (l.map fun c => (c.toNat : Int)) (by simp) (fun i hi => by
    rw [h i hi]
    congr 2
    simp [List.getD_eq_getElem?_getD, List.getElem?_eq_getElem hi]) 10)
  rw [bytesOf_map, show ((10 : Int).toNat.toUInt8) = (10 : UInt8) from rfl] at HR
  clear h
  go_enter Try.func98, Try.ntmps98
  go_wp2
  rw [run_callFunc_extern Try.func99 (by kernel_rfl) (by kernel_rfl) (by kernel_rfl) (e := Extern.BytealgIndexByte.indexByte) (by kernel_rfl), HR.out]
  simp only [Result.andThen]
  rw [Oper.upon_value]
  go_wp2
  go_ret
  exact ⟨rfl, rfl⟩
set_option maxHeartbeats 1000000 in
theorem bline_any (b o c : Nat) (l : List UInt8) (w : World) (h : ∀ j, j < l.length → w.cell? ⟨b, o + j, none⟩ = some (.int .u8 ((l.getD j 0).toNat : Int))) (hl : l.length ≤ 1048576) :
    Calls Try.prog 79 #[.slice (some ⟨b, o, none⟩) l.length c] w fun e w' => e = .returned (.int .i64 (lnw l)) ∧ w' = w := by
  have HC := hide (bindex_any b o c l w h)
  have hv := idx_lnw l
  have hle := lnw_le l
  clear h
  generalize Lib.indexByte l 10 = q at *
  by_cases hq : 0 ≤ q
  · rw [if_pos hq] at hv
    have hq2 : q ≤ 1048576 := by omega
    have HV := hide hv
    clear hv
    go_enter Try.func79, Try.ntmps79
    go_wp2_with (go_at_call 98; refine HC.out.mono ?_; rintro _ _ ⟨rfl, rfl⟩)
    go_ret
    exact ⟨ret_int HV.out, rfl⟩
  · rw [if_neg hq] at hv
    have HV := hide hv
    clear hv
    go_enter Try.func79, Try.ntmps79
    go_wp2_with (go_at_call 98; refine HC.out.mono ?_; rintro _ _ ⟨rfl, rfl⟩)
    go_ret
    exact ⟨ret_int HV.out, rfl⟩
end Go.Proofs.Ytpffhemmjigfaaa

/- Buffers' modes: Set, over any Raw. -/
namespace Go.Proofs.Ytpffhemmjigfaaa
open Go.RowKit

def SS.brefuse (x : SS) (hasRaw : Bool) (mode size : Int) : Int := if x.refuse hasRaw ≠ 0 then x.refuse hasRaw else bref mode size
def SS.bset {S : Type} (D : RawD S) (x : SS) (s : S) (mode size : Int) : SS × Int × S :=
  if x.brefuse true mode size ≠ 0 then (x, x.brefuse true mode size, s)
  else (if (x.flush D s).2.1 = 0 then { (x.flush D s).1 with dir := x.dir, mode := mode, size := size } else { (x.flush D s).1 with dir := x.dir }, (x.flush D s).2.1, (x.flush D s).2.2)
theorem brefuse_ok {x : SS} {b : Bool} {mode size : Int} (h : x.brefuse b mode size = 0) : x.refuse b = 0 ∧ bref mode size = 0 := by
  unfold SS.brefuse at h
  split at h
  · contradiction
  rename_i h1
  exact ⟨by simpa using h1, h⟩
set_option maxRecDepth 100000 in
set_option maxHeartbeats 1000000 in
theorem brefusal_any (x : SS) (oa ia ba : Option Addr) (oc ic bc : Nat) (T : TypeId) (v : Value) (mode size : Int) (w : World) (hi : x.inn.length ≤ 140737488351232) (hb : x.back.length ≤ 140737488351232) :
    Calls Try.prog 44 #[.agg #[.bool x.rd, .bool x.wt, .int .i64 x.mode, .int .i64 x.size, .slice oa x.out.length oc, .slice ia x.inn.length ic, .slice ba x.back.length bc, .int .i64 x.dir, .bool x.fin, .bool x.bad, .bool x.closed], .iface T v, .int .i64 mode, .int .i64 size] w fun e w' => e = .returned (.int .i64 (x.brefuse true mode size)) ∧ Below w.heap.size w w' := by
  have HC := hide (fun W => scheck_any x oa ia ba oc ic bc W hi hb)
  generalize hr : x.brefuse true mode size = r
  unfold SS.brefuse SS.refuse at hr
  cases h1 : x.may with
  | false =>
    rw [h1] at HC
    simp only [Bool.false_eq_true, if_false] at HC
    have HR : Hid (51 = r) := hide (by rw [← hr, h1]; rfl)
    clear hr h1
    go_enter Try.func44, Try.ntmps44
    go_wp2_with fail
    have HB0 := hide (recv_below w (Obj.cells #[.bool x.rd, .bool x.wt, .int .i64 x.mode, .int .i64 x.size, .slice oa x.out.length oc, .slice ia x.inn.length ic, .slice ba x.back.length bc, .int .i64 x.dir, .bool x.fin, .bool x.bad, .bool x.closed] 25))
    generalize w.alloc (Obj.cells #[.bool x.rd, .bool x.wt, .int .i64 x.mode, .int .i64 x.size, .slice oa x.out.length oc, .slice ia x.inn.length ic, .slice ba x.back.length bc, .int .i64 x.dir, .bool x.fin, .bool x.bad, .bool x.closed] 25) = w0 at *
    refine (HC.out w0).mono ?_
    rintro _ w1 ⟨rfl, hB1⟩
    have HB1 := hide (HB0.out.trans (hB1.mono HB0.out.size))
    clear hB1
    go_wp2
    go_ret
    exact ⟨by rw [← HR.out]; rfl, HB1.out⟩
  | true =>
    rw [h1] at HC
    simp only [if_true] at HC
    rcases Bool.eq_false_or_eq_true x.closed with h2 | h2
    · have HR : Hid (113 = r) := hide (by rw [← hr, h1, h2]; rfl)
      have H2 := hide h2
      clear hr h1 h2
      go_enter Try.func44, Try.ntmps44
      go_wp2_with fail
      have HB0 := hide (recv_below w (Obj.cells #[.bool x.rd, .bool x.wt, .int .i64 x.mode, .int .i64 x.size, .slice oa x.out.length oc, .slice ia x.inn.length ic, .slice ba x.back.length bc, .int .i64 x.dir, .bool x.fin, .bool x.bad, .bool x.closed] 25))
      have HS0 := hide (StAt.new w x (.slice oa x.out.length oc) (.slice ia x.inn.length ic) (.slice ba x.back.length bc))
      generalize w.alloc (Obj.cells #[.bool x.rd, .bool x.wt, .int .i64 x.mode, .int .i64 x.size, .slice oa x.out.length oc, .slice ia x.inn.length ic, .slice ba x.back.length bc, .int .i64 x.dir, .bool x.fin, .bool x.bad, .bool x.closed] 25) = w0 at *
      refine (HC.out w0).mono ?_
      rintro _ w1 ⟨rfl, hB1⟩
      have HS1 := hide (HS0.out.below hB1)
      obtain ⟨-, -, -, -, -, -, -, -, -, -, c10⟩ := HS1.out.cs
      rw [H2.out] at c10
      have HB1 := hide (HB0.out.trans (hB1.mono HB0.out.size))
      clear hB1
      go_wp2
      go_ret
      exact ⟨by rw [← HR.out]; rfl, HB1.out⟩
    · have HR : Hid (bref mode size = r) := hide (by rw [← hr, h1, h2]; simp)
      have H2 := hide h2
      clear hr h1 h2
      go_enter Try.func44, Try.ntmps44
      go_wp2_with fail
      have HB0 := hide (recv_below w (Obj.cells #[.bool x.rd, .bool x.wt, .int .i64 x.mode, .int .i64 x.size, .slice oa x.out.length oc, .slice ia x.inn.length ic, .slice ba x.back.length bc, .int .i64 x.dir, .bool x.fin, .bool x.bad, .bool x.closed] 25))
      have HS0 := hide (StAt.new w x (.slice oa x.out.length oc) (.slice ia x.inn.length ic) (.slice ba x.back.length bc))
      generalize w.alloc (Obj.cells #[.bool x.rd, .bool x.wt, .int .i64 x.mode, .int .i64 x.size, .slice oa x.out.length oc, .slice ia x.inn.length ic, .slice ba x.back.length bc, .int .i64 x.dir, .bool x.fin, .bool x.bad, .bool x.closed] 25) = w0 at *
      refine (HC.out w0).mono ?_
      rintro _ w1 ⟨rfl, hB1⟩
      have HS1 := hide (HS0.out.below hB1)
      obtain ⟨-, -, -, -, -, -, -, -, -, -, c10⟩ := HS1.out.cs
      rw [H2.out] at c10
      have HB1 := hide (HB0.out.trans (hB1.mono HB0.out.size))
      clear hB1
      go_wp2_with (first | (go_at_call 61; refine (bref_any _ _ _).mono ?_; rintro _ _ ⟨rfl, rfl⟩) | fail)
      go_ret
      exact ⟨by rw [← HR.out]; rfl, HB1.out⟩
theorem SOut.below {S : Type} {At : World → (Nat → Prop) → S → Prop} (hT : ∀ s, OAt (fun w O => At w O s)) {w w2 w3 : World} {O : Nat → Prop} {x x' : SS} {s : S} {o i b : Value} (h : SOut At w O x s o i b w2) (hB : Below w2.heap.size w2 w3) (e1 : x'.out = x.out) (e2 : x'.inn = x.inn) (e3 : x'.back = x.back) : SOut At w O x' s o i b w3 := by
  obtain ⟨O', h1, h2, h3, h4, h5⟩ := h
  have hz := hB.size
  refine ⟨O', ?_, (hT s).keep h2 (fun j _ hj => hB.block j hj) hz, fun j e => Nat.lt_of_lt_of_le (h3 j e) hz, h4, h5.trans (Turned.of_below (S := O) hB) (fun _ _ e => e)⟩
  have h6 := (h1.below hB).mono (Q := fun k => w.heap.size ≤ k ∧ ¬ O' k ∧ k < w3.heap.size) fun k e => ⟨e.1, e.2.1, by have := e.2.2; omega⟩
  exact ⟨by rw [e1]; exact h6.so, by rw [e2]; exact h6.si, by rw [e3]; exact h6.sb, h6.po, h6.pi, h6.pb⟩
theorem SOut.more {S : Type} {At : World → (Nat → Prop) → S → Prop} {w w0 w3 : World} {O : Nat → Prop} {x : SS} {s : S} {o i b : Value} (h : SOut At w0 O x s o i b w3) (hB : Below w.heap.size w w0) : SOut At w O x s o i b w3 := by
  obtain ⟨O', h1, h2, h3, h4, h5⟩ := h
  have hz := hB.size
  exact ⟨O', h1.mono fun k e => ⟨by have := e.1; omega, e.2.1, e.2.2⟩, h2, h3, fun k e => (h4 k e).imp id (fun e => by omega), (Turned.of_below (S := O) hB).trans h5 (fun _ _ e => e)⟩
theorem SOut.of_own {S : Type} {At : World → (Nat → Prop) → S → Prop} (hT : ∀ s, OAt (fun w O => At w O s)) {w w3 : World} {O : Nat → Prop} {x : SS} {s : S} {o i b : Value} (hA : At w O s) (hO : ∀ j, O j → j < w.heap.size) (h1 : w3.ownsRow w.heap.size 5 1 o x.out.length (x.out.map bv)) (h2 : w3.ownsRow w.heap.size 5 1 i x.inn.length (x.inn.map bv)) (h3 : w3.ownsRow w.heap.size 5 1 b x.back.length (x.back.map bv)) (hB : Below w.heap.size w w3) : SOut At w O x s o i b w3 := by
  have hz := hB.size
  have far : ∀ k, w.heap.size ≤ k → ¬ O k := fun k h e => by have := hO k e; omega
  exact ⟨O, ⟨Sl.own h1, Sl.own h2, Sl.own h3, fun k e => ⟨(h1.lt k e).1, far k (h1.lt k e).1, (h1.lt k e).2⟩, fun k e => ⟨(h2.lt k e).1, far k (h2.lt k e).1, (h2.lt k e).2⟩, fun k e => ⟨(h3.lt k e).1, far k (h3.lt k e).1, (h3.lt k e).2⟩⟩, (hT s).keep hA (fun j _ hj => hB.block j hj) hz, fun j e => Nat.lt_of_lt_of_le (hO j e) hz, fun k e => .inl e, Turned.of_below (S := O) hB⟩
end Go.Proofs.Ytpffhemmjigfaaa

/- Streams: the law's Given and Same. -/
namespace Go.Proofs.Ytpffhemmjigfaaa
open Go.RowKit

set_option maxRecDepth 100000 in
set_option maxHeartbeats 4000000 in
theorem given_any (x : SS) (o i b : Value) (P : Nat → Prop) (w : World) (h : SIn w P x o i b) (ho : x.out.length ≤ 140737488351232) (hi : x.inn.length ≤ 140737488351232) (hb : x.back.length ≤ 140737488351232) :
    Calls Try.prog 8 #[.agg #[.bool x.rd, .bool x.wt, .int .i64 x.mode, .int .i64 x.size, o, i, b, .int .i64 x.dir, .bool x.fin, .bool x.bad, .bool x.closed]] w fun e w' => ∃ o' i' b', e = .returned (.agg #[.bool x.rd, .bool x.wt, .int .i64 x.mode, .int .i64 x.size, o', i', b', .int .i64 x.dir, .bool x.fin, .bool x.bad, .bool x.closed]) ∧ w'.ownsRow w.heap.size 5 1 o' x.out.length (x.out.map bv) ∧ w'.ownsRow w.heap.size 5 1 i' x.inn.length (x.inn.map bv) ∧ w'.ownsRow w.heap.size 5 1 b' x.back.length (x.back.map bv) ∧ Below w.heap.size w w' ∧ Ap3 o' i' b' := by
  have HOw := hide (fun (W : World) (hW : Below w.heap.size w W) => rown_any x o i b P W (h.below hW) ho hi hb)
  obtain ⟨oa, oc, rfl, -⟩ := h.so
  obtain ⟨ia, ic, rfl, -⟩ := h.si
  obtain ⟨ba, bc, rfl, -⟩ := h.sb
  clear h
  go_enter Try.func8, Try.ntmps8
  go_wp2_with fail
  have HB0 := hide ((recv_below w (Obj.cells #[.bool x.rd, .bool x.wt, .int .i64 x.mode, .int .i64 x.size, .slice oa x.out.length oc, .slice ia x.inn.length ic, .slice ba x.back.length bc, .int .i64 x.dir, .bool x.fin, .bool x.bad, .bool x.closed] 24)).trans ((recv_below (w.alloc (Obj.cells #[.bool x.rd, .bool x.wt, .int .i64 x.mode, .int .i64 x.size, .slice oa x.out.length oc, .slice ia x.inn.length ic, .slice ba x.back.length bc, .int .i64 x.dir, .bool x.fin, .bool x.bad, .bool x.closed] 24)) (Obj.cells #[.bool false, .bool false, .int .i64 0, .int .i64 0, .slice none 0 0, .slice none 0 0, .slice none 0 0, .int .i64 0, .bool false, .bool false, .bool false] 25)).mono (recv_below w (Obj.cells #[.bool x.rd, .bool x.wt, .int .i64 x.mode, .int .i64 x.size, .slice oa x.out.length oc, .slice ia x.inn.length ic, .slice ba x.back.length bc, .int .i64 x.dir, .bool x.fin, .bool x.bad, .bool x.closed] 24)).size))
  have HZ0 : Hid (((w.alloc (Obj.cells #[.bool x.rd, .bool x.wt, .int .i64 x.mode, .int .i64 x.size, .slice oa x.out.length oc, .slice ia x.inn.length ic, .slice ba x.back.length bc, .int .i64 x.dir, .bool x.fin, .bool x.bad, .bool x.closed] 24)).alloc (Obj.cells #[.bool false, .bool false, .int .i64 0, .int .i64 0, .slice none 0 0, .slice none 0 0, .slice none 0 0, .int .i64 0, .bool false, .bool false, .bool false] 25)).heap[w.heap.size + 1]? = some (Obj.cells #[.bool false, .bool false, .int .i64 0, .int .i64 0, .slice none 0 0, .slice none 0 0, .slice none 0 0, .int .i64 0, .bool false, .bool false, .bool false] 25)) := hide (by have := heap_alloc_new (w.alloc (Obj.cells #[.bool x.rd, .bool x.wt, .int .i64 x.mode, .int .i64 x.size, .slice oa x.out.length oc, .slice ia x.inn.length ic, .slice ba x.back.length bc, .int .i64 x.dir, .bool x.fin, .bool x.bad, .bool x.closed] 24)) (Obj.cells #[.bool false, .bool false, .int .i64 0, .int .i64 0, .slice none 0 0, .slice none 0 0, .slice none 0 0, .int .i64 0, .bool false, .bool false, .bool false] 25); rw [show (w.alloc (Obj.cells #[.bool x.rd, .bool x.wt, .int .i64 x.mode, .int .i64 x.size, .slice oa x.out.length oc, .slice ia x.inn.length ic, .slice ba x.back.length bc, .int .i64 x.dir, .bool x.fin, .bool x.bad, .bool x.closed] 24)).heap.size = w.heap.size + 1 from Array.size_push ..] at this; exact this)
  generalize (w.alloc (Obj.cells #[.bool x.rd, .bool x.wt, .int .i64 x.mode, .int .i64 x.size, .slice oa x.out.length oc, .slice ia x.inn.length ic, .slice ba x.back.length bc, .int .i64 x.dir, .bool x.fin, .bool x.bad, .bool x.closed] 24)).alloc (Obj.cells #[.bool false, .bool false, .int .i64 0, .int .i64 0, .slice none 0 0, .slice none 0 0, .slice none 0 0, .int .i64 0, .bool false, .bool false, .bool false] 25) = w0 at *
  have hz0 : w.heap.size + 1 < w0.heap.size := (Array.getElem?_eq_some_iff.1 HZ0.out).1
  refine (HOw.out _ HB0.out).mono ?_
  rintro _ w1 ⟨o1, i1, b1, rfl, y3, y4, y5, hB1, hAp⟩
  obtain ⟨a1, k1, rfl⟩ := owns_slice y3
  obtain ⟨a2, k2, rfl⟩ := owns_slice y4
  obtain ⟨a3, k3, rfl⟩ := owns_slice y5
  have HZ1 := hide ((hB1.block (w.heap.size + 1) hz0).trans HZ0.out)
  have HB1 := hide (HB0.out.trans (hB1.mono HB0.out.size))
  have HY := hide (And.intro y3 (And.intro y4 y5))
  have HAp := hide hAp
  clear hAp y3 y4 y5 hB1 HZ0 HB0 HOw
  have z0 := cell_of_row w1 (w.heap.size + 1) 0 _ _ _ HZ1.out
  have z1 := cell_of_row w1 (w.heap.size + 1) 1 _ _ _ HZ1.out
  have z2 := cell_of_row w1 (w.heap.size + 1) 2 _ _ _ HZ1.out
  have z3 := cell_of_row w1 (w.heap.size + 1) 3 _ _ _ HZ1.out
  have z4 := cell_of_row w1 (w.heap.size + 1) 4 _ _ _ HZ1.out
  have z5 := cell_of_row w1 (w.heap.size + 1) 5 _ _ _ HZ1.out
  have z6 := cell_of_row w1 (w.heap.size + 1) 6 _ _ _ HZ1.out
  have z7 := cell_of_row w1 (w.heap.size + 1) 7 _ _ _ HZ1.out
  have z8 := cell_of_row w1 (w.heap.size + 1) 8 _ _ _ HZ1.out
  have z9 := cell_of_row w1 (w.heap.size + 1) 9 _ _ _ HZ1.out
  have z10 := cell_of_row w1 (w.heap.size + 1) 10 _ _ _ HZ1.out
  have u0 := frozen_of_row w1 (w.heap.size + 1) 0 _ _ HZ1.out
  have u1 := frozen_of_row w1 (w.heap.size + 1) 1 _ _ HZ1.out
  have u2 := frozen_of_row w1 (w.heap.size + 1) 2 _ _ HZ1.out
  have u3 := frozen_of_row w1 (w.heap.size + 1) 3 _ _ HZ1.out
  have u4 := frozen_of_row w1 (w.heap.size + 1) 4 _ _ HZ1.out
  have u5 := frozen_of_row w1 (w.heap.size + 1) 5 _ _ HZ1.out
  have u6 := frozen_of_row w1 (w.heap.size + 1) 6 _ _ HZ1.out
  have u7 := frozen_of_row w1 (w.heap.size + 1) 7 _ _ HZ1.out
  have u8 := frozen_of_row w1 (w.heap.size + 1) 8 _ _ HZ1.out
  have u9 := frozen_of_row w1 (w.heap.size + 1) 9 _ _ HZ1.out
  have u10 := frozen_of_row w1 (w.heap.size + 1) 10 _ _ HZ1.out
  simp at z0 z1 z2 z3 z4 z5 z6 z7 z8 z9 z10
  go_wp2
  obtain ⟨e1, e2⟩ := st_fill w1 (w.heap.size + 1) x (.slice a1 x.out.length k1) (.slice a2 x.inn.length k2) (.slice a3 x.back.length k3) HZ1.out
  refine bodyPost_ret (results_cell_row rfl _ _ (w.heap.size + 1) _ _ _ _ rfl e1 Try.underlying25 rfl (by kernel_rfl)) rfl ?_
  obtain ⟨hr1, hr2, hr3⟩ := HY.out
  exact ⟨_, _, _, rfl, owns_mono (owns_turned hr1 e2 (fun k e => by have := (hr1.lt k e).1; omega)) (by omega), owns_mono (owns_turned hr2 e2 (fun k e => by have := (hr2.lt k e).1; omega)) (by omega), owns_mono (owns_turned hr3 e2 (fun k e => by have := (hr3.lt k e).1; omega)) (by omega), HB1.out.trans (e2.below (fun k e => by omega) HB1.out.size), HAp.out⟩
set_option maxRecDepth 100000 in
set_option maxHeartbeats 4000000 in
theorem ssame_any (x : SS) (o i b p q r : Value) (P Q : Nat → Prop) (w : World) (h : SIn w P x o i b) (h' : SIn w Q x p q r) (ho : x.out.length ≤ 140737488351232) (hi : x.inn.length ≤ 140737488351232) (hb : x.back.length ≤ 140737488351232) :
    Calls Try.prog 15 #[.agg #[.bool x.rd, .bool x.wt, .int .i64 x.mode, .int .i64 x.size, o, i, b, .int .i64 x.dir, .bool x.fin, .bool x.bad, .bool x.closed], .agg #[.bool x.rd, .bool x.wt, .int .i64 x.mode, .int .i64 x.size, p, q, r, .int .i64 x.dir, .bool x.fin, .bool x.bad, .bool x.closed]] w fun e w' => e = .returned (.bool true) ∧ Below w.heap.size w w' := by
  obtain ⟨oa, oc, rfl, hb1, -⟩ := h.so
  obtain ⟨ia, ic, rfl, hb2, -⟩ := h.si
  obtain ⟨ba, bc, rfl, hb3, -⟩ := h.sb
  obtain ⟨pa, pc, rfl, hb4, -⟩ := h'.so
  obtain ⟨qa, qc, rfl, hb5, -⟩ := h'.si
  obtain ⟨ra, rc, rfl, hb6, -⟩ := h'.sb
  have HS1 := hide (fun (W : World) (hW : Below w.heap.size w W) => same_any (.slice oa x.out.length oc) (.slice pa x.out.length pc) x.out W (hb1.below hW) (hb4.below hW) (by unfold maxLen; omega))
  have HS2 := hide (fun (W : World) (hW : Below w.heap.size w W) => same_any (.slice ia x.inn.length ic) (.slice qa x.inn.length qc) x.inn W (hb2.below hW) (hb5.below hW) (by unfold maxLen; omega))
  have HS3 := hide (fun (W : World) (hW : Below w.heap.size w W) => same_any (.slice ba x.back.length bc) (.slice ra x.back.length rc) x.back W (hb3.below hW) (hb6.below hW) (by unfold maxLen; omega))
  clear h h' hb1 hb2 hb3 hb4 hb5 hb6
  go_enter Try.func15, Try.ntmps15
  go_upto_region 1 with fail
  have HB0 := hide ((recv_below w (Obj.cells #[.bool x.rd, .bool x.wt, .int .i64 x.mode, .int .i64 x.size, .slice oa x.out.length oc, .slice ia x.inn.length ic, .slice ba x.back.length bc, .int .i64 x.dir, .bool x.fin, .bool x.bad, .bool x.closed] 25)).trans ((recv_below (w.alloc (Obj.cells #[.bool x.rd, .bool x.wt, .int .i64 x.mode, .int .i64 x.size, .slice oa x.out.length oc, .slice ia x.inn.length ic, .slice ba x.back.length bc, .int .i64 x.dir, .bool x.fin, .bool x.bad, .bool x.closed] 25)) (Obj.cells #[.bool x.rd, .bool x.wt, .int .i64 x.mode, .int .i64 x.size, .slice pa x.out.length pc, .slice qa x.inn.length qc, .slice ra x.back.length rc, .int .i64 x.dir, .bool x.fin, .bool x.bad, .bool x.closed] 24)).mono (recv_below w (Obj.cells #[.bool x.rd, .bool x.wt, .int .i64 x.mode, .int .i64 x.size, .slice oa x.out.length oc, .slice ia x.inn.length ic, .slice ba x.back.length bc, .int .i64 x.dir, .bool x.fin, .bool x.bad, .bool x.closed] 25)).size))
  have HA0 := hide ((StAt.new w x (.slice oa x.out.length oc) (.slice ia x.inn.length ic) (.slice ba x.back.length bc)).below (recv_below _ (Obj.cells #[.bool x.rd, .bool x.wt, .int .i64 x.mode, .int .i64 x.size, .slice pa x.out.length pc, .slice qa x.inn.length qc, .slice ra x.back.length rc, .int .i64 x.dir, .bool x.fin, .bool x.bad, .bool x.closed] 24)))
  have HR0 : Hid (RSt ((w.alloc (Obj.cells #[.bool x.rd, .bool x.wt, .int .i64 x.mode, .int .i64 x.size, .slice oa x.out.length oc, .slice ia x.inn.length ic, .slice ba x.back.length bc, .int .i64 x.dir, .bool x.fin, .bool x.bad, .bool x.closed] 25)).alloc (Obj.cells #[.bool x.rd, .bool x.wt, .int .i64 x.mode, .int .i64 x.size, .slice pa x.out.length pc, .slice qa x.inn.length qc, .slice ra x.back.length rc, .int .i64 x.dir, .bool x.fin, .bool x.bad, .bool x.closed] 24)) (w.heap.size + 1) x (.slice pa x.out.length pc) (.slice qa x.inn.length qc) (.slice ra x.back.length rc)) := hide (by have := RSt.new (w.alloc (Obj.cells #[.bool x.rd, .bool x.wt, .int .i64 x.mode, .int .i64 x.size, .slice oa x.out.length oc, .slice ia x.inn.length ic, .slice ba x.back.length bc, .int .i64 x.dir, .bool x.fin, .bool x.bad, .bool x.closed] 25)) x (.slice pa x.out.length pc) (.slice qa x.inn.length qc) (.slice ra x.back.length rc); rw [show (w.alloc (Obj.cells #[.bool x.rd, .bool x.wt, .int .i64 x.mode, .int .i64 x.size, .slice oa x.out.length oc, .slice ia x.inn.length ic, .slice ba x.back.length bc, .int .i64 x.dir, .bool x.fin, .bool x.bad, .bool x.closed] 25)).heap.size = w.heap.size + 1 from Array.size_push ..] at this; exact this)
  generalize (w.alloc (Obj.cells #[.bool x.rd, .bool x.wt, .int .i64 x.mode, .int .i64 x.size, .slice oa x.out.length oc, .slice ia x.inn.length ic, .slice ba x.back.length bc, .int .i64 x.dir, .bool x.fin, .bool x.bad, .bool x.closed] 25)).alloc (Obj.cells #[.bool x.rd, .bool x.wt, .int .i64 x.mode, .int .i64 x.size, .slice pa x.out.length pc, .slice qa x.inn.length qc, .slice ra x.back.length rc, .int .i64 x.dir, .bool x.fin, .bool x.bad, .bool x.closed] 24) = w0 at *
  have HK := hide (fun (W : World) (hW : Below w0.heap.size w0 W) => (show (fun W => W.cell? ⟨w.heap.size, 0, none⟩ = some (.bool x.rd) ∧ W.cell? ⟨w.heap.size, 1, none⟩ = some (.bool x.wt) ∧ W.cell? ⟨w.heap.size, 2, none⟩ = some (.int .i64 x.mode) ∧ W.cell? ⟨w.heap.size, 3, none⟩ = some (.int .i64 x.size) ∧ W.cell? ⟨w.heap.size, 4, none⟩ = some (.slice oa x.out.length oc) ∧ W.cell? ⟨w.heap.size, 5, none⟩ = some (.slice ia x.inn.length ic) ∧ W.cell? ⟨w.heap.size, 6, none⟩ = some (.slice ba x.back.length bc) ∧ W.cell? ⟨w.heap.size, 7, none⟩ = some (.int .i64 x.dir) ∧ W.cell? ⟨w.heap.size, 8, none⟩ = some (.bool x.fin) ∧ W.cell? ⟨w.heap.size, 9, none⟩ = some (.bool x.bad) ∧ W.cell? ⟨w.heap.size, 10, none⟩ = some (.bool x.closed) ∧ W.cell? ⟨w.heap.size + 1, 0, none⟩ = some (.bool x.rd) ∧ W.cell? ⟨w.heap.size + 1, 1, none⟩ = some (.bool x.wt) ∧ W.cell? ⟨w.heap.size + 1, 2, none⟩ = some (.int .i64 x.mode) ∧ W.cell? ⟨w.heap.size + 1, 3, none⟩ = some (.int .i64 x.size) ∧ W.cell? ⟨w.heap.size + 1, 4, none⟩ = some (.slice pa x.out.length pc) ∧ W.cell? ⟨w.heap.size + 1, 5, none⟩ = some (.slice qa x.inn.length qc) ∧ W.cell? ⟨w.heap.size + 1, 6, none⟩ = some (.slice ra x.back.length rc) ∧ W.cell? ⟨w.heap.size + 1, 7, none⟩ = some (.int .i64 x.dir) ∧ W.cell? ⟨w.heap.size + 1, 8, none⟩ = some (.bool x.fin) ∧ W.cell? ⟨w.heap.size + 1, 9, none⟩ = some (.bool x.bad) ∧ W.cell? ⟨w.heap.size + 1, 10, none⟩ = some (.bool x.closed)) W from by
    obtain ⟨c0, c1, c2, c3, c4, c5, c6, c7, c8, c9, c10⟩ := (HA0.out.below hW).cs
    obtain ⟨d0, d1, d2, d3, d4, d5, d6, d7, d8, d9, d10⟩ := (HR0.out.below hW).cs
    exact ⟨c0, c1, c2, c3, c4, c5, c6, c7, c8, c9, c10, d0, d1, d2, d3, d4, d5, d6, d7, d8, d9, d10⟩))
  clear HA0 HR0
  obtain ⟨c0, c1, c2, c3, c4, c5, c6, c7, c8, c9, c10, d0, d1, d2, d3, d4, d5, d6, d7, d8, d9, d10⟩ := HK.out w0 (Below.refl _ _)
  go_wp2_with fail
  refine (HS1.out _ HB0.out).mono ?_
  rintro _ w1 ⟨rfl, hB1⟩
  have HB1 : Hid (Below w0.heap.size w0 w1) := hide hB1
  clear hB1
  clear c0 c1 c2 c3 c4 c5 c6 c7 c8 c9 c10 d0 d1 d2 d3 d4 d5 d6 d7 d8 d9 d10
  obtain ⟨c0, c1, c2, c3, c4, c5, c6, c7, c8, c9, c10, d0, d1, d2, d3, d4, d5, d6, d7, d8, d9, d10⟩ := HK.out w1 HB1.out
  go_wp2_with fail
  refine (HS2.out _ (HB0.out.trans (HB1.out.mono HB0.out.size))).mono ?_
  rintro _ w2 ⟨rfl, hB2⟩
  have HB2 : Hid (Below w0.heap.size w0 w2) := hide (HB1.out.trans (hB2.mono HB1.out.size))
  clear hB2
  clear c0 c1 c2 c3 c4 c5 c6 c7 c8 c9 c10 d0 d1 d2 d3 d4 d5 d6 d7 d8 d9 d10
  obtain ⟨c0, c1, c2, c3, c4, c5, c6, c7, c8, c9, c10, d0, d1, d2, d3, d4, d5, d6, d7, d8, d9, d10⟩ := HK.out w2 HB2.out
  go_wp2_with fail
  refine (HS3.out _ (HB0.out.trans (HB2.out.mono HB0.out.size))).mono ?_
  rintro _ w3 ⟨rfl, hB3⟩
  have HB3 : Hid (Below w0.heap.size w0 w3) := hide (HB2.out.trans (hB3.mono HB2.out.size))
  clear hB3
  clear c0 c1 c2 c3 c4 c5 c6 c7 c8 c9 c10 d0 d1 d2 d3 d4 d5 d6 d7 d8 d9 d10
  obtain ⟨c0, c1, c2, c3, c4, c5, c6, c7, c8, c9, c10, d0, d1, d2, d3, d4, d5, d6, d7, d8, d9, d10⟩ := HK.out w3 HB3.out
  go_wp2
  go_ret
  exact ⟨rfl, HB0.out.trans (HB3.out.mono HB0.out.size)⟩
end Go.Proofs.Ytpffhemmjigfaaa

/- Bytes that came in as an argument: what a walk is told of them. -/
namespace Go.Proofs.Ytpffhemmjigfaaa
open Go.ChangeShapes Go.WideShapes Go.ChangeAt Go.RowKit

theorem bytes_arg {H : Type} {enc : TypeId × Value → H} {P : Program} {W : World} {base : Nat} {a : Option Addr} {len cap fuel t e : Nat} {d : DataW H} {p : List MemPlace}
    (ht : P.underlying t = some (.slice e)) (he : P.underlying e = some (.int .u8)) (hc : P.cellsOf e = 1)
    (hf : DataW.trod enc P W base (fun _ => true) true fuel t (Value.slice a len cap).cells.toList = some (d, p)) :
    ∃ l : List UInt8, Bys W (.slice a len cap) l ∧ ((d = .nil ∧ l = []) ∨ ∃ elems spare : List (DataW H), d = .slice elems spare ∧ l.length = elems.length) := by
  rcases open_ints ht he hc hf with ⟨hcs, hd⟩ | ⟨x, n, c, zs, hcs, _, hl, hm, hz, hx, hcell, hwz⟩
  · simp [Value.cells] at hcs
    obtain ⟨rfl, rfl, rfl⟩ := hcs
    exact ⟨[], .inl ⟨rfl, rfl⟩, .inl ⟨(Prod.mk.inj hd).1, rfl⟩⟩
  · simp [Value.cells] at hcs
    obtain ⟨rfl, rfl, rfl⟩ := hcs
    simp only [if_true] at hz
    have hlen : ((zs.take len).map fun n => UInt8.ofNat n.toNat).length = len := by rw [List.length_map, List.length_take]; omega
    refine ⟨(zs.take len).map fun n => UInt8.ofNat n.toNat, ?_, .inr ⟨_, _, (Prod.mk.inj hx).1, by simp [lits]⟩⟩
    by_cases h0 : len = 0
    · subst h0
      exact .inr (.inl ⟨x, cap, rfl, by simp⟩)
    · obtain ⟨b, off, spot⟩ := x
      have hspot : spot = none := by simpa [Addr.add] using World.cell?_spot (hcell 0 (by omega))
      subst hspot
      refine .inr (.inr ⟨b, off, cap, by rw [hlen], by rw [hlen]; omega, fun j hj => ?_⟩)
      rw [hlen] at hj
      have h1 := hcell j (by omega)
      have hadd : (⟨b, off, none⟩ : Addr).add j = ⟨b, off + j, none⟩ := by unfold Addr.add; split <;> simp_all
      rw [hadd] at h1
      rw [h1]
      have hjz : j < zs.length := by omega
      have hb := bounds_u8 (hwz zs[j] (List.getElem_mem hjz))
      simp only [List.getD_eq_getElem?_getD, List.getElem?_map, List.getElem?_take, if_pos hj, List.getElem?_eq_getElem hjz, Option.map_some, Option.getD_some]
      rw [UInt8.toNat_ofNat_of_lt' (by show _ < 256; omega), Int.toNat_of_nonneg hb.1]

theorem one_le {H : Type} (d : DataW H) : 1 ≤ Rows.uptoBulk d := by
  cases d with
  | lit l => cases l <;> simp [Rows.uptoBulk]
  | nil => simp [Rows.uptoBulk]
  | ptr d => simp [Rows.uptoBulk]
  | slice elems spare => simp [Rows.uptoBulk]
  | agg parts => simp [Rows.uptoBulk]
  | iface t d => simp [Rows.uptoBulk]
  | map entries => simp [Rows.uptoBulk]
  | held h => simp [Rows.uptoBulk]
theorem bulk_length {H : Type} (l : List (DataW H)) : l.length ≤ Rows.uptoBulkAll l := by
  induction l with
  | nil => simp [Rows.uptoBulkAll]
  | cons x r ih => have := one_le x; simp only [Rows.uptoBulkAll, List.length_cons]; omega
theorem bulk_slice {H : Type} (elems spare : List (DataW H)) : elems.length + 1 ≤ Rows.uptoBulk (.slice elems spare) := by
  have h1 := bulk_length elems
  simp only [Rows.uptoBulk]
  omega
end Go.Proofs.Ytpffhemmjigfaaa
