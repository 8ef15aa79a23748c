/- BufmodeTaken: for every text, mode, size and changes of the buffer, what the Raw of a stream takes in the end is what was put (of the first 2000 bytes), whenever and however the buffer is changed. -/
import Derived.Test.YtibnpeipndkciaaKM11
import Derived.OpenShut
import Derived.Deep.LoopGhost
import Derived.Deep.RegionLaw
import Derived.Deep.DeepCutAuto
import Derived.Deep.RegionWith
import Derived.ProofKit
import Derived.ShutString
import Derived.ChangeOld
import Derived.Below
import Derived.SizedLaws
/- BufmodeTaken, as values; its turns as an argument. -/
namespace Go.Proofs.Ytibnpeipndkciaa
open Go.ChangeShapes Go.WideShapes Go.ChangeAt Go.RowKit Go.Deep

structure Trn where
  pl : Int
  mode : Int
  size : Int
def TnCells (cs : List Value) (x : Trn) : Prop := cs = [.int .i64 x.pl, .int .i64 x.mode, .int .i64 x.size]
def TnDat {H : Type} (d : DataW H) (_ : Trn) : Prop := ∃ x0 x1 x2, d = .agg [x0, x1, x2]
def Trns (W : World) (v : Value) (l : List Trn) : Prop := RowsR W 3 TnCells v l
theorem trn_cells {H : Type} {enc : TypeId × Value → H} {P : Program} {W : World} {base : Nat} {fuel e : Nat} {f0 f1 f2 : Field} {cs : List Value} {d : DataW H} {p : List MemPlace}
    (he : P.underlying e = some (.struct #[f0, f1, f2])) (ce : P.cellsOf e = 3) (o0 : f0.offset = 0) (o1 : f1.offset = 1) (o2 : f2.offset = 2)
    (c0 : P.cellsOf f0.type = 1) (c1 : P.cellsOf f1.type = 1) (c2 : P.cellsOf f2.type = 1) (t0 : P.underlying f0.type = some (.int .i64)) (t1 : P.underlying f1.type = some (.int .i64)) (t2 : P.underlying f2.type = some (.int .i64))
    (h : DataW.trod enc P W base (fun _ => true) true fuel e cs = some (d, p)) : ∃ x : Trn, TnCells cs x ∧ TnDat d x := by
  obtain ⟨xs, k, hk, hxy, hcl, hxl, hf⟩ := DataW.trod_struct he h
  rw [ce] at hcl
  match xs, hxl, cs, hcl with
  | [y0, y1, y2], _, [v0, v1, v2], _ =>
    have g0 := hf 0 f0 rfl
    have g1 := hf 1 f1 rfl
    have g2 := hf 2 f2 rfl
    simp [o0, c0] at g0
    simp [o1, c1] at g1
    simp [o2, c2] at g2
    obtain ⟨a, ha, _⟩ := DataW.trod_int t0 g0
    obtain ⟨b, hb, _⟩ := DataW.trod_int t1 g1
    obtain ⟨c, hc, _⟩ := DataW.trod_int t2 g2
    obtain rfl : v0 = .int .i64 a := by simpa using ha
    obtain rfl : v1 = .int .i64 b := by simpa using hb
    obtain rfl : v2 = .int .i64 c := by simpa using hc
    simp only [Prod.mk.injEq] at hxy
    exact ⟨⟨a, b, c⟩, rfl, ⟨_, _, _, by simpa using hxy.1⟩⟩
theorem Trns.at {W W' : World} {a : Option Addr} {n c : Nat} {l : List Trn} (h : Trns W (.slice a n c) l) (hB : Below W.heap.size W W') (j : Nat) (hj : j < l.length) :
    ∃ b off, a = some ⟨b, off, none⟩ ∧ b < W.heap.size ∧ W'.cell? ⟨b, off + j * 3, none⟩ = some (.int .i64 l[j].pl) ∧ W'.cell? ⟨b, off + j * 3 + 1, none⟩ = some (.int .i64 l[j].mode) ∧ W'.cell? ⟨b, off + j * 3 + 2, none⟩ = some (.int .i64 l[j].size) := by
  obtain ⟨b, off, cs, rfl, rfl, _, h3⟩ := RowsR.at h j hj
  have hl : b < W.heap.size := World.block_lt_of_cell? W _ (h3 0 _ rfl)
  have key : ∀ i v, W.cell? ⟨b, off + j * 3 + i, none⟩ = some v → W'.cell? ⟨b, off + j * 3 + i, none⟩ = some v := fun i v hv => (hB.cell (p := ⟨b, off + j * 3 + i, none⟩) hl).trans hv
  exact ⟨b, off, rfl, hl, key 0 _ (h3 0 _ rfl), key 1 _ (h3 1 _ rfl), key 2 _ (h3 2 _ rfl)⟩
/-- l was put; it is taken, or held. -/
structure TkW (x : SS) (S : CtS) (l : List UInt8) : Prop where
  b : ∃ m, GwB x m
  all : S.b ++ x.out = l
  wr : S.wr ≤ S.b.length
  rz : S.rd = 0
theorem TkW.put {x : SS} {S : CtS} {l : List UInt8} (h : TkW x S l) (c : UInt8) : (x.put ctD S c).2.1 = 0 ∧ TkW (x.put ctD S c).1 (x.put ctD S c).2.2 (l ++ [c]) := by
  obtain ⟨m, hb⟩ := h.b
  obtain ⟨p1, p2, p3, p4, p5, p6⟩ := gw_put (S := S) hb c
  have hw := h.wr
  split at p6
  · obtain ⟨q1, q2, q3⟩ := p6
    refine ⟨p1, ⟨m, p2⟩, ?_, ?_, p5.trans h.rz⟩
    · rw [q1, q2, List.append_nil, h.all]
    · rw [q2, q3]; simp only [List.length_append, List.length_cons, List.length_nil]; omega
  · obtain ⟨q1, q2, q3⟩ := p6
    refine ⟨p1, ⟨m, p2⟩, ?_, ?_, p5.trans h.rz⟩
    · rw [q1, q2, ← List.append_assoc, h.all]
    · rw [q2, q3]; exact hw
theorem TkW.set {x : SS} {S : CtS} {l : List UInt8} (h : TkW x S l) (mode size : Int) : TkW (x.bset ctD S mode size).1 (x.bset ctD S mode size).2.2 l ∧ ((x.bset ctD S mode size).2.1 = 0 → (x.bset ctD S mode size).1.mode = mode ∧ (x.bset ctD S mode size).1.size = size ∧ (x.bset ctD S mode size).1.out = []) := by
  obtain ⟨m, hb⟩ := h.b
  have hw := h.wr
  have hr : x.brefuse true mode size = bref mode size := by
    unfold SS.brefuse
    rw [if_neg (by simp [hb.refuse])]
  by_cases h0 : bref mode size = 0
  · have hq := bref_ok h0
    have hm : ∃ m' : Nat, brm mode size = (m' : Int) ∧ 1 ≤ m' := by
      obtain ⟨m', e1, -, e2, -⟩ := brm_nat h0
      exact ⟨m', e1, e2⟩
    obtain ⟨m', hm', hm1⟩ := hm
    have hol := hb.small2
    rcases hb.dir with hd | ⟨hd, he⟩
    · have hf : x.flush ctD S = ({ x with out := [], dir := 0 }, 0, ⟨S.b ++ x.out, S.pl, S.rd, S.wr + if x.out = [] then 0 else 1⟩) := by
        unfold SS.flush
        rw [if_neg (by simp [hb.refuse]), if_pos hd, ct_deliver x S hol, if_pos rfl]
      unfold SS.bset
      rw [hr, if_neg (by simp [h0]), hf]
      simp only [if_true]
      refine ⟨⟨⟨m', hb.wt, hq.1, hq.2.1, hq.2.2.1, hq.2.2.2, hm', by show 0 < m'; omega, hb.inn, hb.back, hb.closed, .inl hd⟩, ?_, ?_, h.rz⟩, fun _ => ⟨trivial, trivial, trivial⟩⟩
      · show S.b ++ x.out ++ [] = l
        rw [List.append_nil, h.all]
      · show S.wr + _ ≤ (S.b ++ x.out).length
        rw [List.length_append]
        split
        · omega
        · rename_i e; have := List.length_pos_iff.2 e; omega
    · have hf : x.flush ctD S = (x, 0, S) := by
        unfold SS.flush
        rw [if_neg (by simp [hb.refuse]), if_neg (by omega)]
      unfold SS.bset
      rw [hr, if_neg (by simp [h0]), hf]
      simp only [if_true]
      exact ⟨⟨⟨m', hb.wt, hq.1, hq.2.1, hq.2.2.1, hq.2.2.2, hm', by show x.out.length < m'; rw [he]; show 0 < m'; omega, hb.inn, hb.back, hb.closed, .inr ⟨hd, he⟩⟩, h.all, hw, h.rz⟩, fun _ => ⟨trivial, trivial, he⟩⟩
  · unfold SS.bset
    rw [hr, if_pos h0]
    exact ⟨h, fun e => absurd e h0⟩
theorem TkW.close {x : SS} {S : CtS} {l : List UInt8} (h : TkW x S l) : (x.close ctD S).2.1 = 0 ∧ (x.close ctD S).2.2.b = l := by
  obtain ⟨m, hb⟩ := h.b
  obtain ⟨p1, p2⟩ := gw_close (S := S) hb
  exact ⟨p1, by rw [p2]; exact h.all⟩
theorem TkW.small {x : SS} {S : CtS} {l : List UInt8} (h : TkW x S l) : x.out.length ≤ 65536 ∧ x.inn = [] ∧ x.back = [] := by
  obtain ⟨m, hb⟩ := h.b
  exact ⟨hb.small2, hb.inn, hb.back⟩
theorem TkW.bear {x : SS} {S : CtS} {l : List UInt8} (h : TkW x S l) (hl : l.length ≤ 2000) : S.rd + 2 ≤ 4611686018427387904 ∧ S.wr + 2 ≤ 4611686018427387904 ∧ S.b.length + 2 * 65536 ≤ 1000000000 := by
  have h1 := h.wr
  have h2 := h.rz
  have h4 : S.b.length ≤ l.length := by
    have := congrArg List.length h.all
    rw [List.length_append] at this
    omega
  omega
end Go.Proofs.Ytibnpeipndkciaa

/- BufmodeTrue: the walk. -/
namespace Go.Proofs.Ytibnpeipndkciaa
open Go.RowKit

theorem newW_bref (mode size : Int) : SS.new moW mode size = if bref mode size = 0 then (xW mode size, 0) else (ss0, bref mode size) := by
  rw [new_W]
  by_cases h1 : 1 ≤ mode ∧ mode ≤ 3
  · by_cases h2 : 1 ≤ size ∧ size ≤ 65536
    · have e : bref mode size = 0 := by unfold bref; rw [if_neg (by omega), if_neg (by omega)]
      rw [if_pos h1, if_pos h2, e, if_pos rfl]
    · have e : bref mode size = 4 := by unfold bref; rw [if_neg (by omega), if_pos (by omega)]
      rw [if_pos h1, if_neg h2, e, if_neg (by decide)]
  · have e : bref mode size = 1 := by unfold bref; rw [if_pos (by omega)]
    rw [if_neg h1, e, if_neg (by decide)]
theorem newR_bref (mode size : Int) : SS.new moR mode size = if bref mode size = 0 then (xR mode size, 0) else (ss0, bref mode size) := by
  rw [new_R]
  by_cases h1 : 1 ≤ mode ∧ mode ≤ 3
  · by_cases h2 : 1 ≤ size ∧ size ≤ 65536
    · have e : bref mode size = 0 := by unfold bref; rw [if_neg (by omega), if_neg (by omega)]
      rw [if_pos h1, if_pos h2, e, if_pos rfl]
    · have e : bref mode size = 4 := by unfold bref; rw [if_neg (by omega), if_pos (by omega)]
      rw [if_pos h1, if_neg h2, e, if_neg (by decide)]
  · have e : bref mode size = 1 := by unfold bref; rw [if_pos (by omega)]
    rw [if_neg h1, e, if_neg (by decide)]
theorem GwW.bear {x : SS} {S : CtS} {t : List UInt8} {k m N : Nat} {md : Int} (h : GwW x S t k m N md) (hl : t.length ≤ 3000) (hN : N ≤ 3000) : S.rd + 2 ≤ 4611686018427387904 ∧ S.wr + 2 ≤ 4611686018427387904 ∧ S.b.length + 2 * 65536 ≤ 1000000000 := by
  have h1 := h.few
  have h2 := h.rz
  have h4 : S.b.length ≤ t.length := by
    have := congrArg List.length h.all
    rw [List.length_append, List.length_take] at this
    omega
  omega
theorem GwR.bear {x : SS} {S : CtS} {t : List UInt8} {i m : Nat} (h : GwR x S t i m) (hl : t.length ≤ 3000) : S.rd + 2 ≤ 4611686018427387904 ∧ S.wr + 2 ≤ 4611686018427387904 ∧ S.b.length + 2 * 65536 ≤ 1000000000 := by
  have h2 := h.wz
  have h3 := h.rdle
  have h4 := h.all
  rw [h4]
  omega
theorem GwB.small {x : SS} {m : Nat} (h : GwB x m) : x.out.length ≤ 65536 := by
  have h1 := h.ol
  have h2 := h.hm
  have h3 := h.s2
  unfold brm at h2
  split at h2 <;> omega
theorem LV.beside {S1 S2 : Type} {A1 : World → (Nat → Prop) → S1 → Prop} {A2 : World → (Nat → Prop) → S2 → Prop} (hT1 : ∀ s, OAt (fun w O => A1 w O s)) (hT2 : ∀ s, OAt (fun w O => A2 w O s)) {w w1 : World} {B g : Nat} {O P : Nat → Prop} {x x' : SS} {s s' : S2} {s1 : S1} {o i b o' i' b' : Value} (h : LV A2 w B g O x s o i b) (hC : A1 w P s1) (hd : ∀ k, Us g O o i b k → ¬ P k) (hP : ∀ k, P k → k < w.heap.size) (hB : B ≤ w.heap.size) (hS : SOut A2 w O x' s' o' i' b' w1) :
    StAt w1 g x o i b ∧ (∃ O', LV A2 (filled w1 g x' o' i' b') B g O' x' s' o' i' b' ∧ A1 (filled w1 g x' o' i' b') P s1 ∧ (∀ k, Us g O' o' i' b' k → ¬ P k) ∧ (∀ k, P k → k < (filled w1 g x' o' i' b').heap.size)) ∧ Turned (fun k => B ≤ k) w (filled w1 g x' o' i' b') := by
  obtain ⟨hst, -, ht⟩ := LV.next hT2 h hB hS
  obtain ⟨O', q1, q2, q3, q4, q5⟩ := hS
  have hl := LV.next1 hT2 h hB O' q1 q2 q3 q4 q5
  obtain ⟨-, e2⟩ := st_fill2 w1 g x x' o i b o' i' b' hst
  have hz := q5.size
  have hz2 := e2.size
  refine ⟨hst, ⟨O', hl, (hT1 s1).keep ((hT1 s1).keep hC (fun j e hj => q5.block j hj (fun e' => hd j (.inr (.inl e')) e)) hz) (fun j e hj => e2.block j hj (fun e' => hd j (.inl e') e)) hz2, fun k e e' => ?_, fun k e => by have := hP k e; omega⟩, ht⟩
  have hlt := hP k e'
  rcases e with e | e | e | e | e
  · exact hd k (.inl e) e'
  · rcases q4 k e with e | e
    · exact hd k (.inr (.inl e)) e'
    · omega
  · have := (q1.po k e).1; omega
  · have := (q1.pi k e).1; omega
  · have := (q1.pb k e).1; omega
theorem mod_twice (n M : Int) (h : M = (wrap64 (n.tmod 4000 + 4000)).tmod 4000) : 0 ≤ M ∧ M < 4000 := by
  have h1 := Int.lt_tmod_of_pos n (show (0 : Int) < 4000 by omega)
  have h2 := Int.tmod_lt_of_pos n (show (0 : Int) < 4000 by omega)
  have h3 : 0 ≤ n.tmod 4000 + 4000 := by omega
  have h4 : wrap64 (n.tmod 4000 + 4000) = n.tmod 4000 + 4000 := by unfold wrap64; omega
  rw [h4] at h
  rw [Int.tmod_eq_emod_of_nonneg h3] at h
  omega
set_option maxRecDepth 100000 in
set_option maxHeartbeats 8000000 in
theorem btrue_any (mode size : Int) (va : Option Addr) (vn vc : Nat) (t0 : List UInt8) (n : Int) (w : World) (hb : Bys w (.slice va vn vc) t0) (hc : t0.length ≤ vc) :
    Calls Try.prog 5 #[.int .i64 mode, .int .i64 size, .slice va vn vc, .int .i64 n] w fun e w' => e = .returned (.bool true) ∧ Below w.heap.size w w' := by
  obtain rfl := bys_len12 hb
  have HBy0 := hide hb
  clear hb
  go_enter Try.func5, Try.ntmps5
  go_wp2_with fail
  refine (balive_any _).mono ?_
  rintro _ w1 ⟨rfl, hB1⟩
  have HB1 := hide hB1
  clear hB1
  go_upto_if 25 with fail
  go_cut [2] (fun tv wx => ∃ t : List UInt8, tv = .slice va t.length vc ∧ t.length ≤ 3000 ∧ t.length ≤ vc ∧ Hid (Bys w (.slice va t.length vc) t) ∧ wx = w1)
  case first =>
    by_cases h3 : 3000 < t0.length
    · have h4 : (3000 : Int) < (t0.length : Int) := by omega
      have q1 : (3000 : Int) ≤ (vc : Int) := by omega
      have hb5 : (t0.take 3000).length = 3000 := by rw [List.length_take]; omega
      have HBy : Hid (Bys w (.slice va (t0.take 3000).length vc) (t0.take 3000)) := hide (by
        obtain ⟨-, qb, qo, rfl, -⟩ := bys_block HBy0.out (by omega)
        have := bys_cut HBy0.out 0 3000 vc (by omega)
        rw [List.drop_zero] at this
        rw [hb5]
        exact this)
      go_wp2
      go_meet
      exact ⟨t0.take 3000, by rw [hb5], by omega, by omega, HBy, rfl⟩
    · have h4 : ¬ (3000 : Int) < (t0.length : Int) := by omega
      go_wp2
      go_meet
      exact ⟨t0, rfl, by omega, hc, HBy0, rfl⟩
  case rest =>
  obtain ⟨t, rfl, htl, htc, HBy, hwc⟩ := hcut
  rw [hwc]
  clear hwc HBy0 hc
  have HWr := hide (fun (W : World) (hW : Below w.heap.size w W) => bwrites_any mode size va vc t htc W (HBy.out.below hW))
  have hN := fun W => sNew_any moW mode size W
  have hM := fun W => sNew_any moR mode size W
  rw [newW_bref] at hN
  rw [newR_bref] at hM
  unfold mv at hN hM
  by_cases hs : bref mode size = 0
  case neg =>
    rw [if_neg hs] at hN hM
    simp only at hN hM
    have hE : bwE mode size t = bref mode size := by unfold bwE; rw [if_pos hs]
    rw [hE] at HWr
    generalize bref mode size = q at *
    have HN := hide hN
    have HM := hide hM
    have hs2 : (q == 0) = false := by simpa using hs
    have hs3 : (q != 0) = true := by simpa using hs
    clear hN hM hE
    go_wp2_with fail
    refine (HWr.out _ HB1.out).mono ?_
    rintro _ w2 ⟨u, rfl, hO2, hB2⟩
    obtain ⟨ua, uc, rfl⟩ := owns_slice hO2
    have HB2 := hide (HB1.out.trans (hB2.mono HB1.out.size))
    clear hO2 hB2
    go_wp2_with fail
    refine (HN.out _).mono ?_
    rintro _ w3 ⟨rfl, hB3⟩
    have HB3 := hide (HB2.out.trans (hB3.mono HB2.out.size))
    clear hB3
    go_wp2_with fail
    refine (HM.out _).mono ?_
    rintro _ w4 ⟨rfl, hB4⟩
    have hz3 := (recv_below w3 (Obj.cells #[.bool ss0.rd, .bool ss0.wt, .int .i64 ss0.mode, .int .i64 ss0.size, .slice none 0 0, .slice none 0 0, .slice none 0 0, .int .i64 ss0.dir, .bool ss0.fin, .bool ss0.bad, .bool ss0.closed] 39)).size
    have HB4 := hide (HB3.out.trans (((recv_below w3 _).trans (hB4.mono hz3)).mono HB3.out.size))
    clear hB4 hz3
    go_wp2_with (first | (go_at_call 13; refine (bnum_is _ _).mono ?_; rintro _ _ ⟨rfl, rfl⟩) | fail)
    go_ret
    exact ⟨rfl, HB4.out.trans ((recv_below w4 _).mono HB4.out.size)⟩
  rw [if_pos hs] at hN hM
  simp only at hN hM
  have HN := hide hN
  have HM := hide hM
  have hE : bwE mode size t = 0 := by unfold bwE; rw [if_neg (by simpa using hs), if_neg (by omega)]
  rw [hE] at HWr
  obtain ⟨m, hm, hmt, hm1, hm2⟩ := brm_nat hs
  obtain ⟨q1, q2, q3, q4⟩ := bref_ok hs
  obtain ⟨L, hL⟩ : ∃ L, L = bwL mode size t := ⟨_, rfl⟩
  have hLr : (rwr (decide (mode = 2)) m 0 t).length = L.length := by rw [hL]; unfold bwL; rw [if_pos hE, hmt]
  have hLl : L.length ≤ 3000 := by rw [← hLr]; have := rwr_len_le (decide (mode = 2)) m t 0 (by omega); omega
  rw [← hL] at HWr
  clear hN hM hL
  go_wp2_with fail
  refine (HWr.out _ HB1.out).mono ?_
  rintro _ w1' ⟨u, rfl, hO2, hB2⟩
  obtain ⟨ua, uc, rfl⟩ := owns_slice hO2
  have HB1' := hide (HB1.out.trans (hB2.mono HB1.out.size))
  clear hO2 hB2
  go_wp2_with fail
  refine (HN.out _).mono ?_
  rintro _ w2 ⟨rfl, hB2⟩
  have HB2 := hide (HB1'.out.trans (hB2.mono HB1'.out.size))
  clear hB2
  go_wp2_with fail
  refine (HM.out _).mono ?_
  rintro _ w3 ⟨rfl, hB3⟩
  have hz2 := (recv_below w2 (Obj.cells #[.bool (xW mode size).rd, .bool (xW mode size).wt, .int .i64 (xW mode size).mode, .int .i64 (xW mode size).size, .slice none 0 0, .slice none 0 0, .slice none 0 0, .int .i64 (xW mode size).dir, .bool (xW mode size).fin, .bool (xW mode size).bad, .bool (xW mode size).closed] 39)).size
  have hgs : (w2.alloc (Obj.cells #[.bool (xW mode size).rd, .bool (xW mode size).wt, .int .i64 (xW mode size).mode, .int .i64 (xW mode size).size, .slice none 0 0, .slice none 0 0, .slice none 0 0, .int .i64 (xW mode size).dir, .bool (xW mode size).fin, .bool (xW mode size).bad, .bool (xW mode size).closed] 39)).heap.size = w2.heap.size + 1 := Array.size_push ..
  have HS3 := hide ((StAt.new w2 (xW mode size) (.slice none 0 0) (.slice none 0 0) (.slice none 0 0)).below hB3)
  have HB3 := hide (HB2.out.trans (((recv_below w2 _).trans (hB3.mono hz2)).mono HB2.out.size))
  have hz3 := hB3.size
  have hz1 := HB1.out.size
  have hzw2 := HB2.out.size
  clear hB3 HB1' HB2 HN HM HWr
  have HB4 := hide (HB3.out.trans ((recv_below w3 (Obj.cells #[.bool (xR mode size).rd, .bool (xR mode size).wt, .int .i64 (xR mode size).mode, .int .i64 (xR mode size).size, .slice none 0 0, .slice none 0 0, .slice none 0 0, .int .i64 (xR mode size).dir, .bool (xR mode size).fin, .bool (xR mode size).bad, .bool (xR mode size).closed] 39)).mono HB3.out.size))
  have HS4 := hide (HS3.out.below (recv_below w3 (Obj.cells #[.bool (xR mode size).rd, .bool (xR mode size).wt, .int .i64 (xR mode size).mode, .int .i64 (xR mode size).size, .slice none 0 0, .slice none 0 0, .slice none 0 0, .int .i64 (xR mode size).dir, .bool (xR mode size).fin, .bool (xR mode size).bad, .bool (xR mode size).closed] 39)))
  have HT4 := hide (StAt.new w3 (xR mode size) (.slice none 0 0) (.slice none 0 0) (.slice none 0 0))
  go_wp2_with (first | (go_at_call 13; refine (bnum_is _ _).mono ?_; rintro _ _ ⟨rfl, rfl⟩) | fail)
  have HB5 := hide (HB4.out.trans ((recv_below (w3.alloc (Obj.cells #[.bool (xR mode size).rd, .bool (xR mode size).wt, .int .i64 (xR mode size).mode, .int .i64 (xR mode size).size, .slice none 0 0, .slice none 0 0, .slice none 0 0, .int .i64 (xR mode size).dir, .bool (xR mode size).fin, .bool (xR mode size).bad, .bool (xR mode size).closed] 39)) (Obj.cells #[.slice none 0 0, .int .i64 0, .int .i64 0, .int .i64 0] 46)).mono HB4.out.size))
  have HS5 := hide (HS4.out.below (recv_below (w3.alloc (Obj.cells #[.bool (xR mode size).rd, .bool (xR mode size).wt, .int .i64 (xR mode size).mode, .int .i64 (xR mode size).size, .slice none 0 0, .slice none 0 0, .slice none 0 0, .int .i64 (xR mode size).dir, .bool (xR mode size).fin, .bool (xR mode size).bad, .bool (xR mode size).closed] 39)) (Obj.cells #[.slice none 0 0, .int .i64 0, .int .i64 0, .int .i64 0] 46)))
  have HT5 := hide (HT4.out.below (recv_below (w3.alloc (Obj.cells #[.bool (xR mode size).rd, .bool (xR mode size).wt, .int .i64 (xR mode size).mode, .int .i64 (xR mode size).size, .slice none 0 0, .slice none 0 0, .slice none 0 0, .int .i64 (xR mode size).dir, .bool (xR mode size).fin, .bool (xR mode size).bad, .bool (xR mode size).closed] 39)) (Obj.cells #[.slice none 0 0, .int .i64 0, .int .i64 0, .int .i64 0] 46)))
  have hz4 : (w3.alloc (Obj.cells #[.bool (xR mode size).rd, .bool (xR mode size).wt, .int .i64 (xR mode size).mode, .int .i64 (xR mode size).size, .slice none 0 0, .slice none 0 0, .slice none 0 0, .int .i64 (xR mode size).dir, .bool (xR mode size).fin, .bool (xR mode size).bad, .bool (xR mode size).closed] 39)).heap.size = w3.heap.size + 1 := Array.size_push ..
  have HC5 : Hid (CtB ((w3.alloc (Obj.cells #[.bool (xR mode size).rd, .bool (xR mode size).wt, .int .i64 (xR mode size).mode, .int .i64 (xR mode size).size, .slice none 0 0, .slice none 0 0, .slice none 0 0, .int .i64 (xR mode size).dir, .bool (xR mode size).fin, .bool (xR mode size).bad, .bool (xR mode size).closed] 39)).alloc (Obj.cells #[.slice none 0 0, .int .i64 0, .int .i64 0, .int .i64 0] 46)) (w3.heap.size + 1) (.slice none 0 0) ⟨[], 0, 0, 0⟩) := hide (by have := heap_alloc_new (w3.alloc (Obj.cells #[.bool (xR mode size).rd, .bool (xR mode size).wt, .int .i64 (xR mode size).mode, .int .i64 (xR mode size).size, .slice none 0 0, .slice none 0 0, .slice none 0 0, .int .i64 (xR mode size).dir, .bool (xR mode size).fin, .bool (xR mode size).bad, .bool (xR mode size).closed] 39)) (Obj.cells #[.slice none 0 0, .int .i64 0, .int .i64 0, .int .i64 0] 46); rw [hz4] at this; exact this)
  generalize (w3.alloc (Obj.cells #[.bool (xR mode size).rd, .bool (xR mode size).wt, .int .i64 (xR mode size).mode, .int .i64 (xR mode size).size, .slice none 0 0, .slice none 0 0, .slice none 0 0, .int .i64 (xR mode size).dir, .bool (xR mode size).fin, .bool (xR mode size).bad, .bool (xR mode size).closed] 39)).alloc (Obj.cells #[.slice none 0 0, .int .i64 0, .int .i64 0, .int .i64 0] 46) = w5 at *
  refine (copy_any _ t w5 (HBy.out.below HB5.out) (by omega)).mono ?_
  rintro _ w6 ⟨v6, rfl, hO6, hB6⟩
  obtain ⟨a6, k6, rfl⟩ := owns_slice hO6
  have HS6 := hide (HS5.out.below hB6)
  have HT6 := hide (HT5.out.below hB6)
  have HC6 : Hid (CtB w6 (w3.heap.size + 1) (.slice none 0 0) ⟨[], 0, 0, 0⟩) := hide ((hB6.block _ HC5.out.lt).trans HC5.out)
  have HO6 := hide hO6
  have HB6 := hide (HB5.out.trans (hB6.mono HB5.out.size))
  have hc5 := HC5.out.lt
  have hz6 := hB6.size
  clear hO6 hB6 HS3 HS4 HT4 HB3 HB4 HS5 HT5 HB5 HC5 hz4
  go_wp2_with fail
  have HB7 := hide (HB6.out.trans ((recv_below w6 (Obj.cells #[.slice a6 t.length k6, .int .i64 0, .int .i64 0, .int .i64 0] 46)).mono HB6.out.size))
  have HC7 : Hid (CtB (w6.alloc (Obj.cells #[.slice a6 t.length k6, .int .i64 0, .int .i64 0, .int .i64 0] 46)) w6.heap.size (.slice a6 t.length k6) ⟨t, 0, 0, 0⟩) := hide (heap_alloc_new w6 (Obj.cells #[.slice a6 t.length k6, .int .i64 0, .int .i64 0, .int .i64 0] 46))
  have HS7 := hide (HS6.out.below (recv_below w6 (Obj.cells #[.slice a6 t.length k6, .int .i64 0, .int .i64 0, .int .i64 0] 46)))
  have HT7 := hide (HT6.out.below (recv_below w6 (Obj.cells #[.slice a6 t.length k6, .int .i64 0, .int .i64 0, .int .i64 0] 46)))
  have HW7 : Hid (CtB (w6.alloc (Obj.cells #[.slice a6 t.length k6, .int .i64 0, .int .i64 0, .int .i64 0] 46)) (w3.heap.size + 1) (.slice none 0 0) ⟨[], 0, 0, 0⟩) := hide (((recv_below w6 (Obj.cells #[.slice a6 t.length k6, .int .i64 0, .int .i64 0, .int .i64 0] 46)).block _ HC6.out.lt).trans HC6.out)
  have HO7 := hide (owns_below HO6.out (recv_below w6 (Obj.cells #[.slice a6 t.length k6, .int .i64 0, .int .i64 0, .int .i64 0] 46)))
  generalize w6.alloc (Obj.cells #[.slice a6 t.length k6, .int .i64 0, .int .i64 0, .int .i64 0] 46) = w7 at *
  obtain ⟨gw, hgw⟩ : ∃ gw, gw = w3.heap.size + 1 := ⟨_, rfl⟩
  obtain ⟨B, hBq⟩ : ∃ B, B = w2.heap.size := ⟨_, rfl⟩
  have hno : ∀ k, (Value.slice none 0 0).ownBlock = some k → False := fun k e => by simp [Value.ownBlock] at e
  have hlt6 : ∀ k, (Value.slice a6 t.length k6).ownBlock = some k → w5.heap.size ≤ k ∧ k < w6.heap.size := fun k e => ⟨(HO6.out.lt k e).1, (HO6.out.lt k e).2⟩
  have hc7 := HC7.out.lt
  have HV : Hid (V2 (CtAt gw) (CtAt w6.heap.size) w7 B w2.heap.size (fun k => k = gw) (xW mode size) ⟨[], 0, 0, 0⟩ (.slice none 0 0) (.slice none 0 0) (.slice none 0 0) w3.heap.size (fun k => k = w6.heap.size ∨ (Value.slice a6 t.length k6).ownBlock = some k) (xR mode size) ⟨t, 0, 0, 0⟩ (.slice none 0 0) (.slice none 0 0) (.slice none 0 0)) := hide (by
    refine ⟨⟨HS7.out, SIn.nils rfl rfl rfl, ⟨_, by rw [hgw]; exact HW7.out, World.ownsRow_nil _ _ _ _, fun k e => (hno k e).elim, rfl, Nat.le_refl _, by simp⟩, fun j e => by have e2 : j = gw := e; omega, fun j e => by have e2 : j = gw := e; omega, fun e => by have e2 : w2.heap.size = gw := e; omega, by omega⟩,
      ⟨HT7.out, SIn.nils rfl rfl rfl, ⟨_, HC7.out, owns_mono HO7.out (Nat.zero_le _), fun k e => ⟨.inr e, by have := hlt6 k e; omega⟩, .inl rfl, Nat.zero_le _, by show t.length ≤ _; omega⟩, fun j e => ?_, fun j e => ?_, fun e => ?_, by omega⟩, fun k e e' => ?_⟩
    · rcases e with e | e
      · omega
      · have := hlt6 j e; omega
    · rcases e with e | e
      · omega
      · have := hlt6 j e; omega
    · rcases e with e | e
      · omega
      · have := hlt6 _ e; omega
    · have e1 : k = w2.heap.size ∨ k = gw := by
        rcases e with e | e | e | e | e
        · exact .inl e
        · exact .inr e
        · exact (hno k e).elim
        · exact (hno k e).elim
        · exact (hno k e).elim
      rcases e' with e' | e' | e' | e' | e'
      · omega
      · rcases e' with e' | e'
        · omega
        · have := hlt6 k e'; omega
      · exact hno k e'
      · exact hno k e'
      · exact hno k e')
  have HFw : Hid (GwW (xW mode size) ⟨[], 0, 0, 0⟩ t 0 m L.length mode) := hide ⟨⟨rfl, q1, q2, q3, q4, hm, by show 0 < m; omega, rfl, rfl, rfl, .inr ⟨rfl, rfl⟩⟩, rfl, rfl, by show 0 + (rwr (decide (mode = 2)) m 0 (t.drop 0)).length = _; rw [List.drop_zero, hLr]; omega, rfl⟩
  have HFr : Hid (GwR (xR mode size) ⟨t, 0, 0, 0⟩ t 0 m) := hide ⟨rfl, q1, q2, q3, q4, hm, rfl, rfl, rfl, .inr ⟨rfl, rfl⟩, rfl, rfl, Nat.zero_le _, ⟨0, RdI.start _ _, fun _ => rfl, fun e => by cases e⟩, fun e => by cases e⟩
  have HSz : Hid (bref mode size = 0) := hide hs
  have HMt : Hid ((brm mode size).toNat = m) := hide hmt
  have hBw : w.heap.size ≤ B := by omega
  have hB7 : B ≤ w7.heap.size := by omega
  rw [← hgw]
  generalize hgr : w6.heap.size = gr at *
  generalize hgt : w3.heap.size = gt at *
  generalize hgs2 : w2.heap.size = gs at *
  clear hno hlt6 HS6 HT6 HC6 HO6 HB6 HC7 HS7 HT7 HW7 HO7 hgr hgt hgs2 hgw hBq hc5 hc7 hz6 hz3 hz2 hz1 hzw2 hgs HB1 hs hm hmt hLr hE
  go_loopg [17] t.length (fun gq s17 wx => ∃ (k : Nat) (x1 : SS) (S1 : CtS) (o1 i1 c1 : Value) (O1 O2 : Nat → Prop), k + gq = t.length ∧ s17 = .int .i64 k ∧ Hid (V2 (CtAt gw) (CtAt gr) wx B gs O1 x1 S1 o1 i1 c1 gt O2 (xR mode size) ⟨t, 0, 0, 0⟩ (.slice none 0 0) (.slice none 0 0) (.slice none 0 0)) ∧ Hid (GwW x1 S1 t k m L.length mode) ∧ Hid (Below w.heap.size w wx) ∧ B ≤ wx.heap.size)
  case atStart => exact ⟨0, _, _, _, _, _, _, _, by omega, rfl, HV, HFw, HB7, hB7⟩
  case round =>
    clear HV HFw HB7 hB7
    obtain ⟨k, x1, S1, o1, i1, c1, O1, O2, hkg, rfl, HVr, HFw, HBr, hBr⟩ := hrel
    obtain ⟨oa0, oc0, eo, -⟩ := HVr.out.l1.ls.so
    obtain ⟨ia0, ic0, ei, -⟩ := HVr.out.l1.ls.si
    obtain ⟨ba0, bc0, ebk, -⟩ := HVr.out.l1.ls.sb
    subst eo ei ebk
    by_cases hlt : k < t.length
    case neg =>
      obtain rfl : k = t.length := by omega
      have hlt' : ¬ (t.length : Int) < (t.length : Int) := by omega
      have hcl := HFw.out.end
      have hp := sClose_any (ct_raw gw) (fun s => ct_o gw s) ct_bears HVr.out.l1.ls HVr.out.l1.raw HVr.out.l1.ol (HFw.out.bear htl hLl) (by have := HFw.out.b.small; omega) (by rw [HFw.out.b.inn]; decide) (by rw [HFw.out.b.back]; decide)
      generalize x1.close ctD S1 = X at *
      obtain ⟨x1', e', S1'⟩ := X
      simp only at hp hcl
      obtain ⟨t1, t2, t3⟩ := hcl
      subst t1
      have HP := hide hp
      have HT2 := hide t2
      have HT3 := hide t3
      obtain ⟨m0, m1', m2', m3', m4', m5', m6', m7', m8', m9', m10'⟩ := HVr.out.l1.st.cs
      clear hp t2 t3
      go_wp2_with fail
      refine HP.out.mono ?_
      rintro _ w5' ⟨o', i', b'', rfl, hS⟩
      obtain ⟨O', s1, s2, s3, s4, s5⟩ := hS
      obtain ⟨a1, k1, rfl, -⟩ := s1.so
      obtain ⟨a2, k2, rfl, -⟩ := s1.si
      obtain ⟨a3, k3, rfl, -⟩ := s1.sb
      have hl2 := HVr.out.l2.turned (fun s => ct_o gr s) s5 (fun k e e' => HVr.out.dj k (.inr (.inl e')) e)
      have HBz : Hid (Below w.heap.size w w5') := hide (HBr.out.trans (s5.below (fun k e => Nat.le_trans hBw (HVr.out.l1.ob k e)) HBr.out.size))
      have hzz := s5.size
      have hBz : B ≤ w5'.heap.size := by omega
      have HCt := hide s2
      have HO'2 : Hid (∀ k, Us gt O2 (.slice none 0 0) (.slice none 0 0) (.slice none 0 0) k → ¬ O' k) := hide (fun k e e' => by
        rcases s4 k e' with h | h
        · exact HVr.out.dj k (.inr (.inl h)) e
        · have := HVr.out.l2.us_lt e; omega)
      have HL2 := hide hl2
      have HOl := hide s3
      clear s1 s2 s3 s4 s5 hl2 HP HVr HBr hBr m0 m1' m2' m3' m4' m5' m6' m7' m8' m9' m10' hzz
      have HAll : Hid (∃ P2 : Nat → Prop, LV (CtAt gr) w5' B gt P2 (xR mode size) ⟨t, 0, 0, 0⟩ (.slice none 0 0) (.slice none 0 0) (.slice none 0 0) ∧ CtAt gw w5' O' S1' ∧ (∀ k, Us gt P2 (.slice none 0 0) (.slice none 0 0) (.slice none 0 0) k → ¬ O' k) ∧ (∀ k, O' k → k < w5'.heap.size)) := hide ⟨O2, HL2.out, HCt.out, HO'2.out, HOl.out⟩
      clear HL2 HCt HO'2 HOl HFw
      go_upto_region 16 with fail
      go_upto_region 17 with fail
      obtain ⟨M, hM⟩ : ∃ M, M = (wrap64 (n.tmod 4000 + 4000)).tmod 4000 := ⟨_, rfl⟩
      have hMb := mod_twice n M hM
      rw [← hM]
      clear hM
      obtain ⟨N, rfl⟩ : ∃ N : Nat, M = (N : Int) := ⟨M.toNat, by omega⟩
      have hN : N < 4000 := by omega
      clear hMb
      have HRd : Hid (∀ W, Calls Try.prog 10 #[.int .i64 mode, .int .i64 size, .int .i64 N, .int .i64 t.length] W fun e w' => e = .returned (.tuple #[.int .i64 (rds m N t.length), .int .i64 0]) ∧ W = w') := hide (fun W => by
        have h := breads_any mode size N t.length W
        have e1 : brE mode size N t.length = 0 := by
          unfold brE cntB
          rw [if_neg (by simpa using HSz.out), if_pos ⟨decide_eq_true (by omega), decide_eq_true (by omega)⟩]
        have e2 : brN mode size N t.length = (rds m N t.length : Int) := by
          unfold brN
          rw [e1, if_pos rfl, HMt.out]
          simp
        rw [e1, e2] at h
        exact h)
      clear hlt' hkg hlt
      go_upto_region 18 with fail
      go_loopg [18] N (fun gq s18 wx => ∃ (k : Nat) (x2 : SS) (S2 : CtS) (o2 i2 c2 : Value) (P2 : Nat → Prop), k + gq = N ∧ s18 = .int .i64 k ∧ Hid (LV (CtAt gr) wx B gt P2 x2 S2 o2 i2 c2 ∧ CtAt gw wx O' S1' ∧ (∀ k, Us gt P2 o2 i2 c2 k → ¬ O' k) ∧ (∀ k, O' k → k < wx.heap.size)) ∧ Hid (GwR x2 S2 t k m) ∧ Hid (Below w.heap.size w wx) ∧ B ≤ wx.heap.size)
      case atStart => exact ⟨0, _, _, _, _, _, HAll.out.choose, by omega, rfl, hide HAll.out.choose_spec, HFr, HBz, hBz⟩
      case round =>
        clear HAll HFr HBz hBz
        obtain ⟨k, x2, S2, o2, i2, c2, P2, hkg, rfl, HA, HFr, HBr, hBr⟩ := hrel
        obtain ⟨oa1, oc1, eo, -⟩ := HA.out.1.ls.so
        obtain ⟨ia1, ic1, ei, -⟩ := HA.out.1.ls.si
        obtain ⟨ba1, bc1, ebk, -⟩ := HA.out.1.ls.sb
        subst eo ei ebk
        by_cases hlt : k < N
        case neg =>
          obtain rfl : k = N := by omega
          have hlt' : ¬ (k : Int) < (k : Int) := by omega
          obtain ⟨v1, y1, y2, -⟩ := HA.out.2.1
          obtain ⟨v2, y3, -⟩ := HA.out.1.raw
          obtain ⟨z0, -, -, z3⟩ := y1.cs
          obtain ⟨-, -, z2, -⟩ := y3.cs
          rw [HT2.out] at y2
          rw [HT3.out] at z3
          have hrr := HFr.out.reads
          rw [hrr] at z2
          have HSm := hide (same_any v1 (.slice va t.length vc) t wr (Bys.of_owns y2) (HBy.out.below HBr.out) (by unfold maxLen; omega))
          obtain ⟨va1, vc1, rfl⟩ := owns_slice y2
          have HK := hide (fun (W : World) (hW : Below wr.heap.size wr W) => (show W.cell? ⟨gr, 2, none⟩ = some (.int .i64 (rds m k t.length)) from (hW.cell y3.lt).trans z2))
          clear y1 y2 y3 hrr HA
          go_wp2_with (first | (go_at_call 10; refine (HRd.out _).mono ?_; rintro _ _ ⟨rfl, rfl⟩) | fail)
          refine HSm.out.mono ?_
          rintro _ w6' ⟨rfl, hB6'⟩
          have z2' := HK.out w6' hB6'
          have HB6 := hide (HBr.out.trans (hB6'.mono HBr.out.size))
          clear z0 z2 z3 hB6'
          go_wp2_with (first | (go_at_call 13; refine (bnum_is _ _).mono ?_; rintro _ _ ⟨rfl, rfl⟩) | fail)
          go_ret
          exact ⟨rfl, HB6.out⟩
        obtain ⟨gq, rfl⟩ : ∃ gq, gk = gq + 1 := ⟨gk - 1, by omega⟩
        have hk2 : (k : Int) < (N : Int) := by omega
        have hg := sGet_any (ct_raw gr) (fun s => ct_o gr s) ct_bears HA.out.1.ls HA.out.1.raw HA.out.1.ol (HFr.out.bear htl) (by rw [HFr.out.out]; decide) (by have := HFr.out.short; omega) (by rw [HFr.out.back]; decide)
        have u3 := HFr.out.get (by omega)
        generalize x2.get ctD S2 = X at *
        obtain ⟨x2', cc, e2, S2'⟩ := X
        simp only at hg u3
        have HG := hide hg
        have HF3 := hide u3
        obtain ⟨m0, m1', m2', m3', m4', m5', m6', m7', m8', m9', m10'⟩ := HA.out.1.st.cs
        clear hg u3
        go_wp2_with fail
        refine HG.out.mono ?_
        rintro _ w9 ⟨o', i', b'', rfl, hS⟩
        obtain ⟨a4, k4, rfl, -⟩ := hS.choose_spec.1.so
        obtain ⟨a5, k5, rfl, -⟩ := hS.choose_spec.1.si
        obtain ⟨a6', k6', rfl, -⟩ := hS.choose_spec.1.sb
        obtain ⟨hst, hv, ht⟩ := LV.beside (A1 := CtAt gw) (A2 := CtAt gr) (fun s => ct_o gw s) (fun s => ct_o gr s) HA.out.1 HA.out.2.1 HA.out.2.2.1 HA.out.2.2.2 hBr hS
        have HV9 := hide hv
        have HT9 := hide ht
        clear m0 m1' m2' m3' m4' m5' m6' m7' m8' m9' m10'
        obtain ⟨p0, p1, p2, p3, p4, p5, p6, p7, p8, p9, p10⟩ := hst.cs
        have f0 := hst.soft 0
        have f1 := hst.soft 1
        have f2 := hst.soft 2
        have f3 := hst.soft 3
        have f4 := hst.soft 4
        have f5 := hst.soft 5
        have f6 := hst.soft 6
        have f7 := hst.soft 7
        have f8 := hst.soft 8
        have f9 := hst.soft 9
        have f10 := hst.soft 10
        unfold filled at HV9 HT9
        have HB9 : Hid (Below w.heap.size w ((((((((((((w9.setCell ⟨gt, 0, none⟩ (.bool x2'.rd)).setCell ⟨gt, 1, none⟩ (.bool x2'.wt)).setCell ⟨gt, 2, none⟩ (.int .i64 x2'.mode)).setCell ⟨gt, 3, none⟩ (.int .i64 x2'.size)).setCell ⟨gt, 4, none⟩ (.slice a4 x2'.out.length k4)).setCell ⟨gt, 5, none⟩ (.slice a5 x2'.inn.length k5)).setCell ⟨gt, 6, none⟩ (.slice a6' x2'.back.length k6')).setCell ⟨gt, 7, none⟩ (.int .i64 x2'.dir)).setCell ⟨gt, 8, none⟩ (.bool x2'.fin)).setCell ⟨gt, 9, none⟩ (.bool x2'.bad)).setCell ⟨gt, 10, none⟩ (.bool x2'.closed)))) := hide (HBr.out.trans ((HT9.out.below (fun k e => e) hBr).mono hBw))
        have hBn : B ≤ ((((((((((((w9.setCell ⟨gt, 0, none⟩ (.bool x2'.rd)).setCell ⟨gt, 1, none⟩ (.bool x2'.wt)).setCell ⟨gt, 2, none⟩ (.int .i64 x2'.mode)).setCell ⟨gt, 3, none⟩ (.int .i64 x2'.size)).setCell ⟨gt, 4, none⟩ (.slice a4 x2'.out.length k4)).setCell ⟨gt, 5, none⟩ (.slice a5 x2'.inn.length k5)).setCell ⟨gt, 6, none⟩ (.slice a6' x2'.back.length k6')).setCell ⟨gt, 7, none⟩ (.int .i64 x2'.dir)).setCell ⟨gt, 8, none⟩ (.bool x2'.fin)).setCell ⟨gt, 9, none⟩ (.bool x2'.bad)).setCell ⟨gt, 10, none⟩ (.bool x2'.closed))).heap.size := by have := HT9.out.size; omega
        clear hst hv ht hS HG HA
        go_wp2
        obtain ⟨O2', hv9⟩ := HV9.out
        have HVn := hide hv9
        clear hv9 HV9
        go_roundg gq
        case measure => omega
        case rel => exact ⟨k + 1, x2', S2', _, _, _, O2', by omega, by go_num, HVn, HF3, HB9, hBn⟩
    obtain ⟨gq, rfl⟩ : ∃ gq, gk = gq + 1 := ⟨gk - 1, by omega⟩
    have hk1 : (0 : Int) ≤ (k : Int) := by omega
    have hk2 : (k : Int) < (t.length : Int) := by omega
    obtain ⟨-, qb, qo, rfl, hqb, hcell⟩ := bys_block HBy.out (by omega)
    have HBx := hide (fun (W : World) (hW : Below w.heap.size w W) => (hW.cell (World.block_lt_of_cell? w _ (hcell k hlt))).trans (hcell k hlt))
    have d0 := HBx.out wr HBr.out
    obtain ⟨t1, t2⟩ := HFw.out.put hlt
    generalize t.getD k 0 = ch at *
    have HVd := hide (HVr.out.below (fun s => ct_o gw s) (fun s => ct_o gr s) (Below.refl _ wr).drew)
    have hp := sPut_any (ct_raw gw) (fun s => ct_o gw s) ct_bears ch HVd.out.l1.ls HVd.out.l1.raw HVd.out.l1.ol (HFw.out.bear htl hLl) (by have := HFw.out.b.small; omega) (by rw [HFw.out.b.inn]; decide) (by rw [HFw.out.b.back]; decide)
    generalize x1.put ctD S1 ch = X at *
    obtain ⟨x1', e', S1'⟩ := X
    simp only at hp t1 t2
    subst t1
    have HP := hide hp
    have HF2 := hide t2
    obtain ⟨m0, m1', m2', m3', m4', m5', m6', m7', m8', m9', m10'⟩ := HVr.out.l1.st.cs
    clear hp t2 hcell hqb
    go_wp2_with fail
    go_region_law (first | (go_simp; go_at_call 17; refine HP.out.mono ?_; rintro _ w5' ⟨o', i', b'', rfl, hS⟩; obtain ⟨a1, k1, rfl, -⟩ := hS.choose_spec.1.so; obtain ⟨a2, k2, rfl, -⟩ := hS.choose_spec.1.si; obtain ⟨a3, k3, rfl, -⟩ := hS.choose_spec.1.sb; obtain ⟨hst, -, hv, ht⟩ := V2.step (fun s => ct_o gw s) (fun s => ct_o gr s) HVd.out hBr hS; have HV6 := hide hv; have HT6 := hide ht; obtain ⟨p0, p1, p2, p3, p4, p5, p6, p7, p8, p9, p10⟩ := hst.cs; have f0 := hst.soft 0; have f1 := hst.soft 1; have f2 := hst.soft 2; have f3 := hst.soft 3; have f4 := hst.soft 4; have f5 := hst.soft 5; have f6 := hst.soft 6; have f7 := hst.soft 7; have f8 := hst.soft 8; have f9 := hst.soft 9; have f10 := hst.soft 10; clear hst hv ht hS) | fail)
    all_goals
      unfold filled at HV6 HT6
      clear p0 p1 p2 p3 p4 p5 p6 p7 p8 p9 p10 f0 f1 f2 f3 f4 f5 f6 f7 f8 f9 f10 m0 m1' m2' m3' m4' m5' m6' m7' m8' m9' m10' d0 HP HVd HVr
      generalize (((((((((((w5'.setCell ⟨gs, 0, none⟩ (.bool x1'.rd)).setCell ⟨gs, 1, none⟩ (.bool x1'.wt)).setCell ⟨gs, 2, none⟩ (.int .i64 x1'.mode)).setCell ⟨gs, 3, none⟩ (.int .i64 x1'.size)).setCell ⟨gs, 4, none⟩ (.slice a1 x1'.out.length k1)).setCell ⟨gs, 5, none⟩ (.slice a2 x1'.inn.length k2)).setCell ⟨gs, 6, none⟩ (.slice a3 x1'.back.length k3)).setCell ⟨gs, 7, none⟩ (.int .i64 x1'.dir)).setCell ⟨gs, 8, none⟩ (.bool x1'.fin)).setCell ⟨gs, 9, none⟩ (.bool x1'.bad)).setCell ⟨gs, 10, none⟩ (.bool x1'.closed)) = w8 at *
      have HB8 : Hid (Below w.heap.size w w8) := hide ((HBr.out.trans ((Below.refl _ _).drew.mono HBr.out.size)).trans ((HT6.out.below (fun k e => e) hBr).mono hBw))
      have hB8 : B ≤ w8.heap.size := by have h9 : wr.drew.heap.size ≤ w8.heap.size := HT6.out.size; have h10 : wr.drew.heap.size = wr.heap.size := rfl; omega
      obtain ⟨O1', hv8⟩ := HV6.out
      have HV8 := hide hv8
      clear hv8 HV6 HT6
      go_wp2
      go_roundg gq
      case measure => omega
      case rel => exact ⟨k + 1, x1', S1', _, _, _, _, _, by omega, by go_num, HV8, HF2, HB8, hB8⟩
end Go.Proofs.Ytibnpeipndkciaa

/- BufmodeTaken: the walk. -/
namespace Go.Proofs.Ytibnpeipndkciaa
open Go.RowKit

theorem bnum_same (x : Int) (w : World) : Calls Try.prog 13 #[.int .i64 x] w fun e w' => e = .returned (.int .i64 x) ∧ w' = w := (bnum_is x w).mono fun _ _ h => ⟨h.1, h.2.symm⟩
set_option maxRecDepth 100000 in
set_option maxHeartbeats 40000000 in
theorem btaken_any (mode size : Int) (va : Option Addr) (vn vc : Nat) (t : List UInt8) (ra : Option Addr) (rc : Nat) (L : List Trn) (w : World) (hb : Bys w (.slice va vn vc) t) (hc : t.length ≤ vc) (hr : Trns w (.slice ra L.length rc) L) (hLl : L.length ≤ 140737488351232) :
    Calls Try.prog 6 #[.slice va vn vc, .int .i64 mode, .int .i64 size, .slice ra L.length rc] w fun e w' => e = .returned (.bool true) ∧ Below w.heap.size w w' := by
  obtain rfl := bys_len12 hb
  have HBy := hide hb
  have HTn := hide hr
  clear hb hr
  go_enter Try.func6, Try.ntmps6
  go_wp2_with fail
  refine (balive_any _).mono ?_
  rintro _ w1 ⟨rfl, hB1⟩
  have HB1 := hide hB1
  clear hB1
  have hN := fun W => sNew_any moW mode size W
  rw [newW_bref] at hN
  unfold mv at hN
  by_cases hs : bref mode size = 0
  case neg =>
    rw [if_neg hs] at hN
    simp only at hN
    generalize bref mode size = q at *
    have HN := hide hN
    have hs2 : (q == 0) = false := by simpa using hs
    have hs3 : (q != 0) = true := by simpa using hs
    clear hN
    go_wp2_with fail
    refine (HN.out _).mono ?_
    rintro _ w2 ⟨rfl, hB2⟩
    have HB2 := hide (HB1.out.trans (hB2.mono HB1.out.size))
    clear hB2
    go_wp2_with (first | (go_at_call 13; refine (bnum_is _ _).mono ?_; rintro _ _ ⟨rfl, rfl⟩) | fail)
    go_ret
    exact ⟨rfl, HB2.out.trans ((recv_below w2 _).mono HB2.out.size)⟩
  rw [if_pos hs] at hN
  simp only at hN
  have HN := hide hN
  obtain ⟨m, hm, hmt, hm1, hm2⟩ := brm_nat hs
  obtain ⟨q1, q2, q3, q4⟩ := bref_ok hs
  clear hN
  go_wp2_with fail
  refine (HN.out _).mono ?_
  rintro _ w2 ⟨rfl, hB2⟩
  have HB2 := hide (HB1.out.trans (hB2.mono HB1.out.size))
  have hz2 := HB2.out.size
  clear hB2 HN HB1
  go_wp2_with (first | (go_at_call 13; refine (bnum_is _ _).mono ?_; rintro _ _ ⟨rfl, rfl⟩) | fail)
  have hgs : (w2.alloc (Obj.cells #[.bool (xW mode size).rd, .bool (xW mode size).wt, .int .i64 (xW mode size).mode, .int .i64 (xW mode size).size, .slice none 0 0, .slice none 0 0, .slice none 0 0, .int .i64 (xW mode size).dir, .bool (xW mode size).fin, .bool (xW mode size).bad, .bool (xW mode size).closed] 39)).heap.size = w2.heap.size + 1 := Array.size_push ..
  have hBa := recv_below w2 (Obj.cells #[.bool (xW mode size).rd, .bool (xW mode size).wt, .int .i64 (xW mode size).mode, .int .i64 (xW mode size).size, .slice none 0 0, .slice none 0 0, .slice none 0 0, .int .i64 (xW mode size).dir, .bool (xW mode size).fin, .bool (xW mode size).bad, .bool (xW mode size).closed] 39)
  have hBc := recv_below (w2.alloc (Obj.cells #[.bool (xW mode size).rd, .bool (xW mode size).wt, .int .i64 (xW mode size).mode, .int .i64 (xW mode size).size, .slice none 0 0, .slice none 0 0, .slice none 0 0, .int .i64 (xW mode size).dir, .bool (xW mode size).fin, .bool (xW mode size).bad, .bool (xW mode size).closed] 39)) (Obj.cells #[.slice none 0 0, .int .i64 0, .int .i64 0, .int .i64 0] 46)
  have HS3 := hide ((StAt.new w2 (xW mode size) (.slice none 0 0) (.slice none 0 0) (.slice none 0 0)).below hBc)
  have HC3 : Hid (CtB ((w2.alloc (Obj.cells #[.bool (xW mode size).rd, .bool (xW mode size).wt, .int .i64 (xW mode size).mode, .int .i64 (xW mode size).size, .slice none 0 0, .slice none 0 0, .slice none 0 0, .int .i64 (xW mode size).dir, .bool (xW mode size).fin, .bool (xW mode size).bad, .bool (xW mode size).closed] 39)).alloc (Obj.cells #[.slice none 0 0, .int .i64 0, .int .i64 0, .int .i64 0] 46)) (w2.heap.size + 1) (.slice none 0 0) ⟨[], 0, 0, 0⟩) := hide (by have := heap_alloc_new (w2.alloc (Obj.cells #[.bool (xW mode size).rd, .bool (xW mode size).wt, .int .i64 (xW mode size).mode, .int .i64 (xW mode size).size, .slice none 0 0, .slice none 0 0, .slice none 0 0, .int .i64 (xW mode size).dir, .bool (xW mode size).fin, .bool (xW mode size).bad, .bool (xW mode size).closed] 39)) (Obj.cells #[.slice none 0 0, .int .i64 0, .int .i64 0, .int .i64 0] 46); rw [hgs] at this; exact this)
  have HB3 := hide (HB2.out.trans ((hBa.trans (hBc.mono hBa.size)).mono HB2.out.size))
  clear hBa hBc
  generalize (w2.alloc (Obj.cells #[.bool (xW mode size).rd, .bool (xW mode size).wt, .int .i64 (xW mode size).mode, .int .i64 (xW mode size).size, .slice none 0 0, .slice none 0 0, .slice none 0 0, .int .i64 (xW mode size).dir, .bool (xW mode size).fin, .bool (xW mode size).bad, .bool (xW mode size).closed] 39)).alloc (Obj.cells #[.slice none 0 0, .int .i64 0, .int .i64 0, .int .i64 0] 46) = w3 at *
  obtain ⟨gw, hgw⟩ : ∃ gw, gw = w2.heap.size + 1 := ⟨_, rfl⟩
  obtain ⟨B, hBq⟩ : ∃ B, B = w2.heap.size := ⟨_, rfl⟩
  rw [← hgw] at HC3
  rw [← hBq] at HS3
  rw [← hgw, ← hBq]
  have hc3 := HC3.out.lt
  have hno : ∀ k, (Value.slice none 0 0).ownBlock = some k → False := fun k e => by simp [Value.ownBlock] at e
  have HV : Hid (LV (CtAt gw) w3 B B (fun k => k = gw) (xW mode size) ⟨[], 0, 0, 0⟩ (.slice none 0 0) (.slice none 0 0) (.slice none 0 0)) := hide
    ⟨HS3.out, SIn.nils rfl rfl rfl, ⟨_, HC3.out, World.ownsRow_nil _ _ _ _, fun k e => (hno k e).elim, rfl, Nat.le_refl _, by simp⟩, fun j e => by have e2 : j = gw := e; omega, fun j e => by have e2 : j = gw := e; omega, fun e => by have e2 : B = gw := e; omega, Nat.le_refl _⟩
  have HF : Hid (TkW (xW mode size) ⟨[], 0, 0, 0⟩ (t.take 0)) := hide ⟨⟨m, ⟨rfl, q1, q2, q3, q4, hm, by show 0 < m; omega, rfl, rfl, rfl, .inr ⟨rfl, rfl⟩⟩⟩, rfl, Nat.le_refl _, rfl⟩
  have hBw : w.heap.size ≤ B := by omega
  have hB3 : B ≤ w3.heap.size := by omega
  clear HS3 HC3 hno hc3 hgs hz2 hm hmt hm1 hm2 hs q1 q2 q3 q4 HB2 hgw hBq
  go_loopg [12] (min t.length 2000) (fun gq s12 wx => ∃ (k : Nat) (x : SS) (S : CtS) (o i c : Value) (O : Nat → Prop), k + gq = min t.length 2000 ∧ s12 = .int .i64 k ∧ Hid (LV (CtAt gw) wx B B O x S o i c) ∧ Hid (TkW x S (t.take k)) ∧ Hid (Below w.heap.size w wx) ∧ B ≤ wx.heap.size)
  case atStart => exact ⟨0, _, _, _, _, _, _, by omega, rfl, HV, HF, HB3, hB3⟩
  case round =>
    clear HV HF HB3 hB3
    obtain ⟨k, x, S, o, i, c, O, hkg, rfl, HV, HF, HB, hBz⟩ := hrel
    by_cases hlt : k < min t.length 2000
    case neg =>
      obtain ⟨oa, oc, eo, -⟩ := HV.out.ls.so
      obtain ⟨ia, ic, ei, -⟩ := HV.out.ls.si
      obtain ⟨ba, bc, eb, -⟩ := HV.out.ls.sb
      subst eo ei eb
      have hkk : k = min t.length 2000 := by omega
      have htl : (t.take k).length ≤ 2000 := by rw [List.length_take]; omega
      obtain ⟨t1, t2⟩ := HF.out.close
      obtain ⟨g1, g2, g3⟩ := HF.out.small
      have hp := sClose_any (ct_raw gw) (fun s => ct_o gw s) ct_bears HV.out.ls HV.out.raw HV.out.ol (HF.out.bear htl) (by omega) (by rw [g2]; decide) (by rw [g3]; decide)
      generalize x.close ctD S = X at *
      obtain ⟨x', e', S'⟩ := X
      simp only at hp t1 t2
      subst t1
      have HP := hide hp
      have HT2 := hide t2
      obtain ⟨m0, m1', m2', m3', m4', m5', m6', m7', m8', m9', m10'⟩ := HV.out.st.cs
      have hmn : min (t.length : Int) 2000 = (k : Int) := by omega
      have hkv : (k : Int) ≤ (vc : Int) := by omega
      have hkl : k ≤ t.length := by omega
      have HBk : Hid (Bys w (.slice va k vc) (t.take k)) := hide (by
        by_cases h0 : 0 < t.length
        · obtain ⟨-, qb, qo, rfl, -⟩ := bys_block HBy.out h0
          have := bys_cut HBy.out 0 k vc (by omega)
          rwa [List.drop_zero] at this
        · obtain rfl : k = 0 := by omega
          rw [List.take_zero]
          obtain ⟨a9, c9, e9, -⟩ := bys_form HBy.out
          have hz : t.length = 0 := by omega
          rcases HBy.out with ⟨e, -⟩ | ⟨a8, c8, e, -⟩ | ⟨_, _, _, _, h9, _⟩
          · rw [hz] at e; exact .inl ⟨e, rfl⟩
          · rw [hz] at e; exact .inr (.inl ⟨_, _, e, rfl⟩)
          · omega)
      have htk : (t.take k).length = k := by rw [List.length_take]; omega
      have hcase : ((k : Int) < (t.length : Int) ∧ ¬ (k : Int) < 2000) ∨ ¬ (k : Int) < (t.length : Int) := by
        by_cases h1 : (k : Int) < (t.length : Int)
        · exact .inl ⟨h1, by omega⟩
        · exact .inr h1
      clear hp t2 htl g1 g2 g3 hkk HF
      generalize hgt : t.take k = t' at *
      have HGt := hide hgt
      subst htk
      clear hgt
      have hk0 : (0 : Int) ≤ (t'.length : Int) := by omega
      rcases hcase with ⟨h1, h2⟩ | h1
      all_goals
        go_wp2_with fail
        refine HP.out.mono ?_
        rintro _ w5' ⟨o', i', b'', rfl, hS⟩
        obtain ⟨O', s1, s2, s3, s4, s5⟩ := hS
        obtain ⟨a1, k1, rfl, -⟩ := s1.so
        obtain ⟨a2, k2, rfl, -⟩ := s1.si
        obtain ⟨a3, k3, rfl, -⟩ := s1.sb
        have HBz : Hid (Below w.heap.size w w5') := hide (HB.out.trans (s5.below (fun k e => Nat.le_trans hBw (HV.out.ob k e)) HB.out.size))
        obtain ⟨v1, y1, y2, -⟩ := s2
        have z0 := y1.cs.1
        have HGl := hide y1.lt
        rw [HT2.out] at y2
        have HYb := hide (Bys.of_owns y2)
        obtain ⟨va1, vc1, rfl⟩ := owns_slice y2
        clear s1 s3 s4 s5 y1 y2 m0 m1' m2' m3' m4' m5' m6' m7' m8' m9' m10' HP
        go_upto_region 23 with fail
        have hBt := recv_below w5' (Obj.cells #[.bool x'.rd, .bool x'.wt, .int .i64 x'.mode, .int .i64 x'.size, .slice a1 x'.out.length k1, .slice a2 x'.inn.length k2, .slice a3 x'.back.length k3, .int .i64 x'.dir, .bool x'.fin, .bool x'.bad, .bool x'.closed] 39)
        have z1 := (hBt.cell (p := ⟨gw, 0, none⟩) HGl.out).trans z0
        have HBy2 := hide (HBk.out.below (HBz.out.trans (hBt.mono HBz.out.size)))
        have HYb2 := hide (HYb.out.below hBt)
        have HBz2 := hide (HBz.out.trans (hBt.mono HBz.out.size))
        generalize w5'.alloc (Obj.cells #[.bool x'.rd, .bool x'.wt, .int .i64 x'.mode, .int .i64 x'.size, .slice a1 x'.out.length k1, .slice a2 x'.inn.length k2, .slice a3 x'.back.length k3, .int .i64 x'.dir, .bool x'.fin, .bool x'.bad, .bool x'.closed] 39) = wE at *
        have HSd := hide (same_any (.slice va1 t'.length vc1) (.slice va t'.length vc) t' wE.drew (HYb2.out.below (Below.refl _ _).drew) (HBy2.out.below (Below.refl _ _).drew) (by unfold maxLen; omega))
        have HKa := hide (fun (W : World) (hW : Below wE.heap.size wE W) => (show W.cell? ⟨gw, 0, none⟩ = some (.slice va1 t'.length vc1) from (hW.cell (World.block_lt_of_cell? wE _ z1)).trans z1))
        clear z0 z1 hBt
        go_region_held3 (fun W => W.cell? ⟨gw, 0, none⟩ = some (.slice va1 t'.length vc1)) (first | exact HKa.out _ HB6.out | exact HKa.out _ (Below.refl _ _).drew) (first
          | (go_at_call 20; refine HSd.out.mono ?_; rintro _ w6' ⟨rfl, hB6'⟩; have HB6 : Hid (Below wE.heap.size wE w6') := hide ((Below.refl _ wE).drew.trans hB6'); clear hB6')
          | (go_at_call 13; refine (bnum_is _ _).mono ?_; rintro _ _ ⟨rfl, rfl⟩) | fail)
        go_wp2
        go_ret
        exact ⟨rfl, HBz2.out.trans (HB6.out.mono HBz2.out.size)⟩
    obtain ⟨gq, rfl⟩ : ∃ gq, gk = gq + 1 := ⟨gk - 1, by omega⟩
    have hk1 : (0 : Int) ≤ (k : Int) := by omega
    have hk2 : (k : Int) < (t.length : Int) := by omega
    have hk3 : (k : Int) < 2000 := by omega
    have htl : (t.take k).length ≤ 2000 := by rw [List.length_take]; omega
    go_wp2_with fail
    go_loopg [13] L.length (fun gj s13 wx => ∃ (j : Nat) (x : SS) (S : CtS) (o i c : Value) (O : Nat → Prop), j + gj = L.length ∧ s13 = .int .i64 j ∧ Hid (LV (CtAt gw) wx B B O x S o i c) ∧ Hid (TkW x S (t.take k)) ∧ Hid (Below w.heap.size w wx) ∧ B ≤ wx.heap.size)
    case atStart => exact ⟨0, _, _, _, _, _, _, by omega, rfl, HV, HF, HB, hBz⟩
    case round =>
      clear HV HF HB hBz
      obtain ⟨j, x, S, o, i, c, O, hjg, rfl, HV, HF, HB, hBz⟩ := hrel
      obtain ⟨oa, oc, eo, -⟩ := HV.out.ls.so
      obtain ⟨ia, ic, ei, -⟩ := HV.out.ls.si
      obtain ⟨ba, bc, eb, -⟩ := HV.out.ls.sb
      subst eo ei eb
      by_cases hlj : j < L.length
      case neg =>
        obtain rfl : j = L.length := by omega
        have hlj' : ¬ (L.length : Int) < (L.length : Int) := by omega
        obtain ⟨-, qb, qo, rfl, hqb, hcell⟩ := bys_block HBy.out (by omega)
        have d1 := (HB.out.cell (World.block_lt_of_cell? w _ (hcell k (by omega)))).trans (hcell k (by omega))
        have hBZ : Below wr.heap.size wr (wr.alloc (Obj.cells #[.bool false, .bool false, .int .i64 0, .int .i64 0, .slice none 0 0, .slice none 0 0, .slice none 0 0, .int .i64 0, .bool false, .bool false, .bool false] 39)).drew := (recv_below wr (Obj.cells #[.bool false, .bool false, .int .i64 0, .int .i64 0, .slice none 0 0, .slice none 0 0, .slice none 0 0, .int .i64 0, .bool false, .bool false, .bool false] 39)).trans (Below.refl _ _).drew
        have d1z := (hBZ.cell (World.block_lt_of_cell? wr _ d1)).trans d1
        obtain ⟨t1, t2⟩ := HF.out.put (t.getD k 0)
        obtain ⟨g1, g2, g3⟩ := HF.out.small
        have htm : t.take (k + 1) = t.take k ++ [t.getD k 0] := take_more t k (by omega)
        rw [← htm] at t2
        clear htm
        generalize t.getD k 0 = ch at *
        have hzZ : (wr.alloc (Obj.cells #[.bool false, .bool false, .int .i64 0, .int .i64 0, .slice none 0 0, .slice none 0 0, .slice none 0 0, .int .i64 0, .bool false, .bool false, .bool false] 39)).heap.size = wr.heap.size + 1 := Array.size_push ..
        have HVd := hide (HV.out.below (fun s => ct_o gw s) (Below.refl _ wr).drew)
        have HVz := hide (HV.out.below (fun s => ct_o gw s) hBZ)
        have hp := sPut_any (ct_raw gw) (fun s => ct_o gw s) ct_bears ch HVd.out.ls HVd.out.raw HVd.out.ol (HF.out.bear htl) (by omega) (by rw [g2]; decide) (by rw [g3]; decide)
        have hpz := sPut_any (ct_raw gw) (fun s => ct_o gw s) ct_bears ch HVz.out.ls HVz.out.raw HVz.out.ol (HF.out.bear htl) (by omega) (by rw [g2]; decide) (by rw [g3]; decide)
        generalize x.put ctD S ch = X at *
        obtain ⟨x', e', S'⟩ := X
        simp only at hp hpz t1 t2
        subst t1
        have HP := hide hp
        have HPz := hide hpz
        have HF2 := hide t2
        have HZ0 : Hid ((wr.alloc (Obj.cells #[.bool false, .bool false, .int .i64 0, .int .i64 0, .slice none 0 0, .slice none 0 0, .slice none 0 0, .int .i64 0, .bool false, .bool false, .bool false] 39)).drew.heap[wr.heap.size]? = some (Obj.cells #[.bool false, .bool false, .int .i64 0, .int .i64 0, .slice none 0 0, .slice none 0 0, .slice none 0 0, .int .i64 0, .bool false, .bool false, .bool false] 39)) := hide (heap_alloc_new wr (Obj.cells #[.bool false, .bool false, .int .i64 0, .int .i64 0, .slice none 0 0, .slice none 0 0, .slice none 0 0, .int .i64 0, .bool false, .bool false, .bool false] 39))
        obtain ⟨m0, m1', m2', m3', m4', m5', m6', m7', m8', m9', m10'⟩ := HV.out.st.cs
        obtain ⟨n0, n1, n2, n3, n4, n5, n6, n7, n8, n9, n10⟩ := HVz.out.st.cs
        clear hp hpz t2 g1 g2 g3 hBZ hqb hcell
        go_upto_region 18 with fail
        go_cut [16, 17] (fun p14 e15 wx => ∃ (gt : Nat) (a1 a2 a3 : Option Addr) (k1 k2 k3 : Nat), p14 = .pointer (some ⟨gt, 0, none⟩) ∧ e15 = .int .i64 0 ∧ Hid (StAt wx gt x' (.slice a1 x'.out.length k1) (.slice a2 x'.inn.length k2) (.slice a3 x'.back.length k3)) ∧ Hid (SOut (CtAt gw) wr.drew O x' S' (.slice a1 x'.out.length k1) (.slice a2 x'.inn.length k2) (.slice a3 x'.back.length k3) wx))
        case first =>
          go_region_law (first
            | (go_simp; go_at_call 17; refine HPz.out.mono ?_; rintro _ w5' ⟨o', i', b'', rfl, hS⟩; obtain ⟨a1, k1, rfl, -⟩ := hS.choose_spec.1.so; obtain ⟨a2, k2, rfl, -⟩ := hS.choose_spec.1.si; obtain ⟨a3, k3, rfl, -⟩ := hS.choose_spec.1.sb; have hT5 : Turned O (wr.alloc (Obj.cells #[.bool false, .bool false, .int .i64 0, .int .i64 0, .slice none 0 0, .slice none 0 0, .slice none 0 0, .int .i64 0, .bool false, .bool false, .bool false] 39)).drew w5' := (by obtain ⟨_, _, _, _, _, t⟩ := hS; exact t); have HZ5 := hide ((hT5.block wr.heap.size (by show _ < (wr.alloc (Obj.cells #[.bool false, .bool false, .int .i64 0, .int .i64 0, .slice none 0 0, .slice none 0 0, .slice none 0 0, .int .i64 0, .bool false, .bool false, .bool false] 39)).heap.size; omega) (fun e => by have := HV.out.ol _ e; omega)).trans HZ0.out); have HS5 := hide hS; clear hS hT5; have z0 := cell_of_row w5' wr.heap.size 0 _ _ _ HZ5.out; have z1 := cell_of_row w5' wr.heap.size 1 _ _ _ HZ5.out; have z2 := cell_of_row w5' wr.heap.size 2 _ _ _ HZ5.out; have z3 := cell_of_row w5' wr.heap.size 3 _ _ _ HZ5.out; have z4 := cell_of_row w5' wr.heap.size 4 _ _ _ HZ5.out; have z5 := cell_of_row w5' wr.heap.size 5 _ _ _ HZ5.out; have z6 := cell_of_row w5' wr.heap.size 6 _ _ _ HZ5.out; have z7 := cell_of_row w5' wr.heap.size 7 _ _ _ HZ5.out; have z8 := cell_of_row w5' wr.heap.size 8 _ _ _ HZ5.out; have z9 := cell_of_row w5' wr.heap.size 9 _ _ _ HZ5.out; have z10 := cell_of_row w5' wr.heap.size 10 _ _ _ HZ5.out; have u0 := frozen_of_row w5' wr.heap.size 0 _ _ HZ5.out; have u1 := frozen_of_row w5' wr.heap.size 1 _ _ HZ5.out; have u2 := frozen_of_row w5' wr.heap.size 2 _ _ HZ5.out; have u3 := frozen_of_row w5' wr.heap.size 3 _ _ HZ5.out; have u4 := frozen_of_row w5' wr.heap.size 4 _ _ HZ5.out; have u5 := frozen_of_row w5' wr.heap.size 5 _ _ HZ5.out; have u6 := frozen_of_row w5' wr.heap.size 6 _ _ HZ5.out; have u7 := frozen_of_row w5' wr.heap.size 7 _ _ HZ5.out; have u8 := frozen_of_row w5' wr.heap.size 8 _ _ HZ5.out; have u9 := frozen_of_row w5' wr.heap.size 9 _ _ HZ5.out; have u10 := frozen_of_row w5' wr.heap.size 10 _ _ HZ5.out; simp at z0 z1 z2 z3 z4 z5 z6 z7 z8 z9 z10)
            | (go_simp; go_at_call 17; refine HP.out.mono ?_; rintro _ w5' ⟨o', i', b'', rfl, hS⟩; obtain ⟨a1, k1, rfl, -⟩ := hS.choose_spec.1.so; obtain ⟨a2, k2, rfl, -⟩ := hS.choose_spec.1.si; obtain ⟨a3, k3, rfl, -⟩ := hS.choose_spec.1.sb; have HS5 := hide hS; clear hS) | fail)
          all_goals
            go_wp2
            go_meet
            first
            | (obtain ⟨e1, e2⟩ := st_fill w5' wr.heap.size x' (.slice a1 x'.out.length k1) (.slice a2 x'.inn.length k2) (.slice a3 x'.back.length k3) HZ5.out
               exact ⟨_, _, _, _, _, _, _, rfl, rfl, hide e1, hide (SOut.fin (fun s => ct_o gw s) HS5.out (show Below wr.heap.size wr.drew (wr.alloc (Obj.cells #[.bool false, .bool false, .int .i64 0, .int .i64 0, .slice none 0 0, .slice none 0 0, .slice none 0 0, .int .i64 0, .bool false, .bool false, .bool false] 39)).drew from recv_below wr.drew (Obj.cells #[.bool false, .bool false, .int .i64 0, .int .i64 0, .slice none 0 0, .slice none 0 0, .slice none 0 0, .int .i64 0, .bool false, .bool false, .bool false] 39)) (by show wr.heap.size < (wr.alloc (Obj.cells #[.bool false, .bool false, .int .i64 0, .int .i64 0, .slice none 0 0, .slice none 0 0, .slice none 0 0, .int .i64 0, .bool false, .bool false, .bool false] 39)).heap.size; omega) (Nat.le_refl _) HV.out.ol e2)⟩)
            | exact ⟨_, _, _, _, _, _, _, rfl, rfl, hide (StAt.new w5' x' (.slice a1 x'.out.length k1) (.slice a2 x'.inn.length k2) (.slice a3 x'.back.length k3)), hide (SOut.below (fun s => ct_o gw s) HS5.out (recv_below w5' (Obj.cells #[.bool x'.rd, .bool x'.wt, .int .i64 x'.mode, .int .i64 x'.size, .slice a1 x'.out.length k1, .slice a2 x'.inn.length k2, .slice a3 x'.back.length k3, .int .i64 x'.dir, .bool x'.fin, .bool x'.bad, .bool x'.closed] 39)) rfl rfl rfl)⟩
        case rest =>
          obtain ⟨gt, a1, a2, a3, k1, k2, k3, rfl, rfl, HTb, HSo⟩ := hcut
          obtain ⟨hst, hv, ht⟩ := LV.next (fun s => ct_o gw s) HVd.out hBz HSo.out
          clear m0 m1' m2' m3' m4' m5' m6' m7' m8' m9' m10' n0 n1 n2 n3 n4 n5 n6 n7 n8 n9 n10 d1 d1z HP HPz HVz HZ0
          obtain ⟨t0, t1, t2, t3, t4, t5, t6, t7, t8, t9, t10⟩ := HTb.out.cs
          obtain ⟨p0, p1, p2, p3, p4, p5, p6, p7, p8, p9, p10⟩ := hst.cs
          have f0 := hst.soft 0
          have f1 := hst.soft 1
          have f2 := hst.soft 2
          have f3 := hst.soft 3
          have f4 := hst.soft 4
          have f5 := hst.soft 5
          have f6 := hst.soft 6
          have f7 := hst.soft 7
          have f8 := hst.soft 8
          have f9 := hst.soft 9
          have f10 := hst.soft 10
          have HV9 := hide hv
          have HT9 := hide ht
          unfold filled at HV9 HT9
          have HB9 : Hid (Below w.heap.size w ((((((((((((wc.setCell ⟨B, 0, none⟩ (.bool x'.rd)).setCell ⟨B, 1, none⟩ (.bool x'.wt)).setCell ⟨B, 2, none⟩ (.int .i64 x'.mode)).setCell ⟨B, 3, none⟩ (.int .i64 x'.size)).setCell ⟨B, 4, none⟩ (.slice a1 x'.out.length k1)).setCell ⟨B, 5, none⟩ (.slice a2 x'.inn.length k2)).setCell ⟨B, 6, none⟩ (.slice a3 x'.back.length k3)).setCell ⟨B, 7, none⟩ (.int .i64 x'.dir)).setCell ⟨B, 8, none⟩ (.bool x'.fin)).setCell ⟨B, 9, none⟩ (.bool x'.bad)).setCell ⟨B, 10, none⟩ (.bool x'.closed)))) := hide ((HB.out.trans ((Below.refl _ _).drew.mono HB.out.size)).trans ((HT9.out.below (fun k e => e) hBz).mono hBw))
          have hBn : B ≤ ((((((((((((wc.setCell ⟨B, 0, none⟩ (.bool x'.rd)).setCell ⟨B, 1, none⟩ (.bool x'.wt)).setCell ⟨B, 2, none⟩ (.int .i64 x'.mode)).setCell ⟨B, 3, none⟩ (.int .i64 x'.size)).setCell ⟨B, 4, none⟩ (.slice a1 x'.out.length k1)).setCell ⟨B, 5, none⟩ (.slice a2 x'.inn.length k2)).setCell ⟨B, 6, none⟩ (.slice a3 x'.back.length k3)).setCell ⟨B, 7, none⟩ (.int .i64 x'.dir)).setCell ⟨B, 8, none⟩ (.bool x'.fin)).setCell ⟨B, 9, none⟩ (.bool x'.bad)).setCell ⟨B, 10, none⟩ (.bool x'.closed))).heap.size := by have h9 : wr.drew.heap.size ≤ ((((((((((((wc.setCell ⟨B, 0, none⟩ (.bool x'.rd)).setCell ⟨B, 1, none⟩ (.bool x'.wt)).setCell ⟨B, 2, none⟩ (.int .i64 x'.mode)).setCell ⟨B, 3, none⟩ (.int .i64 x'.size)).setCell ⟨B, 4, none⟩ (.slice a1 x'.out.length k1)).setCell ⟨B, 5, none⟩ (.slice a2 x'.inn.length k2)).setCell ⟨B, 6, none⟩ (.slice a3 x'.back.length k3)).setCell ⟨B, 7, none⟩ (.int .i64 x'.dir)).setCell ⟨B, 8, none⟩ (.bool x'.fin)).setCell ⟨B, 9, none⟩ (.bool x'.bad)).setCell ⟨B, 10, none⟩ (.bool x'.closed))).heap.size := HT9.out.size; have h10 : wr.drew.heap.size = wr.heap.size := rfl; omega
          clear hst hv ht
          go_wp2_with (first | (go_at_call 13; refine (bnum_is _ _).mono ?_; rintro _ _ ⟨rfl, rfl⟩) | fail)
          obtain ⟨O2', hv9⟩ := HV9.out
          have HVn := hide hv9
          clear hv9 HV9
          go_roundg gq
          case measure => omega
          case rel => exact ⟨k + 1, x', S', _, _, _, O2', by omega, by go_num, HVn, HF2, HB9, hBn⟩
      obtain ⟨gn, rfl⟩ : ∃ gn, gk = gn + 1 := ⟨gk - 1, by omega⟩
      have hj1 : (0 : Int) ≤ (j : Int) := by omega
      have hj2 : (j : Int) < (L.length : Int) := by omega
      obtain ⟨tb, tf, rfl, htb, d0, d1, d2⟩ := HTn.out.at HB.out j hlj
      have HTc := hide (fun (W : World) (hW : Below w.heap.size w W) => (HTn.out.at hW j hlj))
      by_cases hpl : L[j].pl = (k : Int)
      case neg =>
        have hpb : (L[j].pl == (k : Int)) = false := by simpa using hpl
        generalize L[j].pl = pl at *
        go_wp2
        go_roundg gn
        case measure => omega
        case rel => exact ⟨j + 1, x, S, _, _, _, O, by omega, by go_num, HV, HF, HB, hBz⟩
      rw [hpl] at d0
      obtain ⟨t1, t2⟩ := HF.out.set L[j].mode L[j].size
      obtain ⟨g1, g2, g3⟩ := HF.out.small
      have HVd := hide (HV.out.below (fun s => ct_o gw s) (Below.refl _ wr).drew)
      have hp := bset_any (ct_raw gw) (fun s => ct_o gw s) ct_bears L[j].mode L[j].size HVd.out.ls HVd.out.raw HVd.out.ol (HF.out.bear htl) (by omega) (by rw [g2]; decide) (by rw [g3]; decide)
      generalize htm : L[j].mode = tm at *
      generalize hts : L[j].size = ts at *
      clear htm hts
      obtain ⟨X, hX⟩ : ∃ X, x.bset ctD S tm ts = X := ⟨_, rfl⟩
      have HX := hide hX
      rw [hX] at hp t1 t2
      clear hX
      obtain ⟨x', e', S'⟩ := X
      simp only at hp t1 t2
      have HP := hide hp
      have HF2 := hide t1
      have HE2 := hide t2
      obtain ⟨m0, m1', m2', m3', m4', m5', m6', m7', m8', m9', m10'⟩ := HV.out.st.cs
      clear hp t1 t2 hpl
      have hzZ : (wr.alloc (Obj.cells #[.bool false, .bool false, .int .i64 0, .int .i64 0, .slice none 0 0, .slice none 0 0, .slice none 0 0, .int .i64 0, .bool false, .bool false, .bool false] 39)).heap.size = wr.heap.size + 1 := Array.size_push ..
      have hBZ : Below wr.heap.size wr (wr.alloc (Obj.cells #[.bool false, .bool false, .int .i64 0, .int .i64 0, .slice none 0 0, .slice none 0 0, .slice none 0 0, .int .i64 0, .bool false, .bool false, .bool false] 39)).drew := (recv_below wr (Obj.cells #[.bool false, .bool false, .int .i64 0, .int .i64 0, .slice none 0 0, .slice none 0 0, .slice none 0 0, .int .i64 0, .bool false, .bool false, .bool false] 39)).trans (Below.refl _ _).drew
      have HVz := hide (HV.out.below (fun s => ct_o gw s) hBZ)
      have hpz := bset_any (ct_raw gw) (fun s => ct_o gw s) ct_bears tm ts HVz.out.ls HVz.out.raw HVz.out.ol (HF.out.bear htl) (by omega) (by rw [g2]; decide) (by rw [g3]; decide)
      have hZ0 : (wr.alloc (Obj.cells #[.bool false, .bool false, .int .i64 0, .int .i64 0, .slice none 0 0, .slice none 0 0, .slice none 0 0, .int .i64 0, .bool false, .bool false, .bool false] 39)).drew.heap[wr.heap.size]? = some (Obj.cells #[.bool false, .bool false, .int .i64 0, .int .i64 0, .slice none 0 0, .slice none 0 0, .slice none 0 0, .int .i64 0, .bool false, .bool false, .bool false] 39) := heap_alloc_new wr (Obj.cells #[.bool false, .bool false, .int .i64 0, .int .i64 0, .slice none 0 0, .slice none 0 0, .slice none 0 0, .int .i64 0, .bool false, .bool false, .bool false] 39)
      have HZ0 := hide hZ0
      have HBZ := hide hBZ
      rw [HX.out] at hpz
      simp only at hpz
      have HPz := hide hpz
      obtain ⟨n0, n1, n2, n3, n4, n5, n6, n7, n8, n9, n10⟩ := HVz.out.st.cs
      have d1z := (HBZ.out.cell (World.block_lt_of_cell? wr _ d1)).trans d1
      have d2z := (HBZ.out.cell (World.block_lt_of_cell? wr _ d2)).trans d2
      clear hpz hBZ hZ0 HX g1 g2 g3
      go_upto_region 14 with fail
      go_cut [14, 15] (fun p14 e15 wx => ∃ (gt : Nat) (a1 a2 a3 : Option Addr) (k1 k2 k3 : Nat), p14 = .pointer (some ⟨gt, 0, none⟩) ∧ e15 = .int .i64 e' ∧ Hid (StAt wx gt x' (.slice a1 x'.out.length k1) (.slice a2 x'.inn.length k2) (.slice a3 x'.back.length k3)) ∧ Hid (SOut (CtAt gw) wr.drew O x' S' (.slice a1 x'.out.length k1) (.slice a2 x'.inn.length k2) (.slice a3 x'.back.length k3) wx))
      case first =>
        go_region_law (first
          | (go_simp; go_at_call 21; refine HPz.out.mono ?_; rintro _ w5' ⟨o', i', b'', rfl, hS⟩; obtain ⟨a1, k1, rfl, -⟩ := hS.choose_spec.1.so; obtain ⟨a2, k2, rfl, -⟩ := hS.choose_spec.1.si; obtain ⟨a3, k3, rfl, -⟩ := hS.choose_spec.1.sb; have hT5 : Turned O (wr.alloc (Obj.cells #[.bool false, .bool false, .int .i64 0, .int .i64 0, .slice none 0 0, .slice none 0 0, .slice none 0 0, .int .i64 0, .bool false, .bool false, .bool false] 39)).drew w5' := (by obtain ⟨_, _, _, _, _, t⟩ := hS; exact t); have HZ5 := hide ((hT5.block wr.heap.size (by show _ < (wr.alloc (Obj.cells #[.bool false, .bool false, .int .i64 0, .int .i64 0, .slice none 0 0, .slice none 0 0, .slice none 0 0, .int .i64 0, .bool false, .bool false, .bool false] 39)).heap.size; omega) (fun e => by have := HV.out.ol _ e; omega)).trans HZ0.out); have HS5 := hide hS; clear hS hT5; have z0 := cell_of_row w5' wr.heap.size 0 _ _ _ HZ5.out; have z1 := cell_of_row w5' wr.heap.size 1 _ _ _ HZ5.out; have z2 := cell_of_row w5' wr.heap.size 2 _ _ _ HZ5.out; have z3 := cell_of_row w5' wr.heap.size 3 _ _ _ HZ5.out; have z4 := cell_of_row w5' wr.heap.size 4 _ _ _ HZ5.out; have z5 := cell_of_row w5' wr.heap.size 5 _ _ _ HZ5.out; have z6 := cell_of_row w5' wr.heap.size 6 _ _ _ HZ5.out; have z7 := cell_of_row w5' wr.heap.size 7 _ _ _ HZ5.out; have z8 := cell_of_row w5' wr.heap.size 8 _ _ _ HZ5.out; have z9 := cell_of_row w5' wr.heap.size 9 _ _ _ HZ5.out; have z10 := cell_of_row w5' wr.heap.size 10 _ _ _ HZ5.out; have u0 := frozen_of_row w5' wr.heap.size 0 _ _ HZ5.out; have u1 := frozen_of_row w5' wr.heap.size 1 _ _ HZ5.out; have u2 := frozen_of_row w5' wr.heap.size 2 _ _ HZ5.out; have u3 := frozen_of_row w5' wr.heap.size 3 _ _ HZ5.out; have u4 := frozen_of_row w5' wr.heap.size 4 _ _ HZ5.out; have u5 := frozen_of_row w5' wr.heap.size 5 _ _ HZ5.out; have u6 := frozen_of_row w5' wr.heap.size 6 _ _ HZ5.out; have u7 := frozen_of_row w5' wr.heap.size 7 _ _ HZ5.out; have u8 := frozen_of_row w5' wr.heap.size 8 _ _ HZ5.out; have u9 := frozen_of_row w5' wr.heap.size 9 _ _ HZ5.out; have u10 := frozen_of_row w5' wr.heap.size 10 _ _ HZ5.out; simp at z0 z1 z2 z3 z4 z5 z6 z7 z8 z9 z10)
          | (go_simp; go_at_call 21; refine HP.out.mono ?_; rintro _ w5' ⟨o', i', b'', rfl, hS⟩; obtain ⟨a1, k1, rfl, -⟩ := hS.choose_spec.1.so; obtain ⟨a2, k2, rfl, -⟩ := hS.choose_spec.1.si; obtain ⟨a3, k3, rfl, -⟩ := hS.choose_spec.1.sb; have HS5 := hide hS; clear hS) | fail)
        all_goals
          go_wp2
          go_meet
          first
          | (obtain ⟨e1, e2⟩ := st_fill w5' wr.heap.size x' (.slice a1 x'.out.length k1) (.slice a2 x'.inn.length k2) (.slice a3 x'.back.length k3) HZ5.out
             exact ⟨_, _, _, _, _, _, _, rfl, rfl, hide e1, hide (SOut.fin (fun s => ct_o gw s) HS5.out (show Below wr.heap.size wr.drew (wr.alloc (Obj.cells #[.bool false, .bool false, .int .i64 0, .int .i64 0, .slice none 0 0, .slice none 0 0, .slice none 0 0, .int .i64 0, .bool false, .bool false, .bool false] 39)).drew from recv_below wr.drew (Obj.cells #[.bool false, .bool false, .int .i64 0, .int .i64 0, .slice none 0 0, .slice none 0 0, .slice none 0 0, .int .i64 0, .bool false, .bool false, .bool false] 39)) (by show wr.heap.size < (wr.alloc (Obj.cells #[.bool false, .bool false, .int .i64 0, .int .i64 0, .slice none 0 0, .slice none 0 0, .slice none 0 0, .int .i64 0, .bool false, .bool false, .bool false] 39)).heap.size; omega) (Nat.le_refl _) HV.out.ol e2)⟩)
          | exact ⟨_, _, _, _, _, _, _, rfl, rfl, hide (StAt.new w5' x' (.slice a1 x'.out.length k1) (.slice a2 x'.inn.length k2) (.slice a3 x'.back.length k3)), hide (SOut.below (fun s => ct_o gw s) HS5.out (recv_below w5' (Obj.cells #[.bool x'.rd, .bool x'.wt, .int .i64 x'.mode, .int .i64 x'.size, .slice a1 x'.out.length k1, .slice a2 x'.inn.length k2, .slice a3 x'.back.length k3, .int .i64 x'.dir, .bool x'.fin, .bool x'.bad, .bool x'.closed] 39)) rfl rfl rfl)⟩
      case rest =>
        obtain ⟨gt, a1, a2, a3, k1, k2, k3, rfl, rfl, HTb, HSo⟩ := hcut
        obtain ⟨wq, hq⟩ : ∃ W, W = wc := ⟨_, rfl⟩
        subst hq
        have hTu : Turned O wr.drew wq := by obtain ⟨_, _, _, _, _, t⟩ := HSo.out; exact t
        have HBc : Hid (Below w.heap.size w wq) := hide ((HB.out.trans ((Below.refl _ _).drew.mono HB.out.size)).trans (hTu.below (fun j e => Nat.le_trans hBw (HV.out.ob j e)) HB.out.size))
        obtain ⟨tb2, tf2, et, -, -, r1, r2⟩ := HTc.out wq HBc.out
        cases et
        obtain ⟨t0, t1, t2, t3, t4, t5, t6, t7, t8, t9, t10⟩ := HTb.out.cs
        clear hTu m0 m1' m2' m3' m4' m5' m6' m7' m8' m9' m10' n0 n1 n2 n3 n4 n5 n6 n7 n8 n9 n10 d0 d1 d2 d1z d2z HP HPz HVz HZ0 HBZ
        go_upto_region 15 with fail
        go_cut [102] (fun b wx => b = .bool false ∧ ∃ q, wx = wq.drewN q)
        case first =>
          by_cases he : e' = 0
          · obtain ⟨e1, e2, e3⟩ := HE2.out he
            have b1 : (x'.mode != tm) = false := by simp [e1]
            have b2 : (x'.size != ts) = false := by simp [e2]
            have b3 : ¬ (0 : Int) < (x'.out.length : Int) := by rw [e3]; decide
            have HO3 := hide e3
            subst he
            clear e1 e2 e3
            go_quiet ((go_at_call 13; exact Calls.quiet_of_same (bnum_same _ _)))
            go_wp2
            go_meet
            exact ⟨by rw [HO3.out]; rfl, _, rfl⟩
          · have b1 : (e' == 0) = false := by simpa using he
            go_quiet ((go_at_call 13; exact Calls.quiet_of_same (bnum_same _ _)))
            go_wp2
            go_meet
            exact ⟨rfl, _, rfl⟩
        case rest =>
          obtain ⟨rfl, q, hwq⟩ := hcut
          obtain ⟨wd, hd⟩ : ∃ W, W = wc := ⟨_, rfl⟩
          subst hd
          have hBd : Below wq.heap.size wq wd := by rw [hwq]; exact below_drewN (Below.refl _ _) _
          have HTb2 := hide (HTb.out.below hBd)
          have HSo2 := hide (SOut.below (fun s => ct_o gw s) HSo.out hBd (x' := x') rfl rfl rfl)
          have HBd := hide (HBc.out.trans (hBd.mono HBc.out.size))
          obtain ⟨hst, hv, ht⟩ := LV.next (fun s => ct_o gw s) HVd.out hBz HSo2.out
          clear t0 t1 t2 t3 t4 t5 t6 t7 t8 t9 t10 hBd hwq r1 r2
          obtain ⟨t0, t1, t2, t3, t4, t5, t6, t7, t8, t9, t10⟩ := HTb2.out.cs
          obtain ⟨p0, p1, p2, p3, p4, p5, p6, p7, p8, p9, p10⟩ := hst.cs
          have f0 := hst.soft 0
          have f1 := hst.soft 1
          have f2 := hst.soft 2
          have f3 := hst.soft 3
          have f4 := hst.soft 4
          have f5 := hst.soft 5
          have f6 := hst.soft 6
          have f7 := hst.soft 7
          have f8 := hst.soft 8
          have f9 := hst.soft 9
          have f10 := hst.soft 10
          have HV9 := hide hv
          have HT9 := hide ht
          unfold filled at HV9 HT9
          have HB9 : Hid (Below w.heap.size w ((((((((((((wd.setCell ⟨B, 0, none⟩ (.bool x'.rd)).setCell ⟨B, 1, none⟩ (.bool x'.wt)).setCell ⟨B, 2, none⟩ (.int .i64 x'.mode)).setCell ⟨B, 3, none⟩ (.int .i64 x'.size)).setCell ⟨B, 4, none⟩ (.slice a1 x'.out.length k1)).setCell ⟨B, 5, none⟩ (.slice a2 x'.inn.length k2)).setCell ⟨B, 6, none⟩ (.slice a3 x'.back.length k3)).setCell ⟨B, 7, none⟩ (.int .i64 x'.dir)).setCell ⟨B, 8, none⟩ (.bool x'.fin)).setCell ⟨B, 9, none⟩ (.bool x'.bad)).setCell ⟨B, 10, none⟩ (.bool x'.closed)))) := hide ((HB.out.trans ((Below.refl _ _).drew.mono HB.out.size)).trans ((HT9.out.below (fun k e => e) hBz).mono hBw))
          have hBn : B ≤ ((((((((((((wd.setCell ⟨B, 0, none⟩ (.bool x'.rd)).setCell ⟨B, 1, none⟩ (.bool x'.wt)).setCell ⟨B, 2, none⟩ (.int .i64 x'.mode)).setCell ⟨B, 3, none⟩ (.int .i64 x'.size)).setCell ⟨B, 4, none⟩ (.slice a1 x'.out.length k1)).setCell ⟨B, 5, none⟩ (.slice a2 x'.inn.length k2)).setCell ⟨B, 6, none⟩ (.slice a3 x'.back.length k3)).setCell ⟨B, 7, none⟩ (.int .i64 x'.dir)).setCell ⟨B, 8, none⟩ (.bool x'.fin)).setCell ⟨B, 9, none⟩ (.bool x'.bad)).setCell ⟨B, 10, none⟩ (.bool x'.closed))).heap.size := by have h9 : wr.drew.heap.size ≤ ((((((((((((wd.setCell ⟨B, 0, none⟩ (.bool x'.rd)).setCell ⟨B, 1, none⟩ (.bool x'.wt)).setCell ⟨B, 2, none⟩ (.int .i64 x'.mode)).setCell ⟨B, 3, none⟩ (.int .i64 x'.size)).setCell ⟨B, 4, none⟩ (.slice a1 x'.out.length k1)).setCell ⟨B, 5, none⟩ (.slice a2 x'.inn.length k2)).setCell ⟨B, 6, none⟩ (.slice a3 x'.back.length k3)).setCell ⟨B, 7, none⟩ (.int .i64 x'.dir)).setCell ⟨B, 8, none⟩ (.bool x'.fin)).setCell ⟨B, 9, none⟩ (.bool x'.bad)).setCell ⟨B, 10, none⟩ (.bool x'.closed))).heap.size := HT9.out.size; have h10 : wr.drew.heap.size = wr.heap.size := rfl; omega
          clear hst hv ht
          go_wp2
          obtain ⟨O2', hv9⟩ := HV9.out
          have HVn := hide hv9
          clear hv9 HV9
          go_roundg gn
          case measure => omega
          case rel => exact ⟨j + 1, x', S', _, _, _, O2', by omega, by go_num, HVn, HF2, HB9, hBn⟩
end Go.Proofs.Ytibnpeipndkciaa

/- BufmodeTaken: for every text, mode, size and changes of the buffer, what the Raw of a stream takes in the end is what was put (of the first 2000 bytes), whenever and however the buffer is changed. -/
namespace Go.Proofs.Ytibnpeipndkciaa.bufmodeTaken
open Go.ChangeShapes Go.WideShapes Go.ChangeAt Go.RowKit
open Go.ChangeMaps (open_string shut_string)
set_option linter.unusedVariables false

theorem own : ownKnob Try.prog.godebug = none := by kernel_rfl
theorem laidOut : laidOutB Try.prog = true := by kernel_rfl

set_option maxRecDepth 100000 in
theorem lifted (os : Os) (started : os.Started) (H : Type) (enc : TypeId × Value → H) :
    ReturnsInHanded {} Try.checked os 6 .any (Rows.bufmodeTakenSpec.pre6 enc Try.prog Try.f6 Rows.bufmodeTakenRow.domain false) (Rows.bufmodeTakenSpec.post enc Try.prog Try.f6 false true false false) := by
  refine returnsInHanded_of_change_sized (C := Try.checked) own started (by kernel_rfl) Try.func6
    (ChangeSpec.witness6 (enc := enc) (C := Try.checked) false ⟨#[], #[.slice none 0 0, .int .i64 0, .int .i64 0, .slice none 0 0], []⟩ 8 (by kernel_rfl) (by kernel_rfl) (by kernel_rfl) (by kernel_rfl)) ?_
  intro W base args ds gs before hval0 hW hcnd0 hsz0 _
  have hsz : (DataW.weightsEach Try.prog (Try.f6.params.toList ++ Rows.bufmodeTakenSpec.plain.varTypes Try.prog) (ds ++ gs)).all (· ≤ reachBytes) = true := hsz0
  clear hsz0
  have hval : ∀ (j : Nat) t v, Try.f6.params[j]? = some t → args[j]? = some v → Value.okWide Try.prog W .any base t v := hval0
  have hW' := hW
  obtain ⟨p, q, hA0, hV, rfl, hfz, hnd⟩ := hW
  have hA : DataW.TrodAll enc Try.prog W 0 (fun _ => true) true Try.f6.params.toList args.toList ds p := hA0
  rw [Try.params6] at hA hval hsz
  obtain ⟨v0, vs0, d0, ds0, p0, q0, hargs, rfl, rfl, h0, r0⟩ := trodAll_cons hA
  obtain ⟨v1, vs1, d1, ds1, p1, q1, rfl, rfl, rfl, h1, r1⟩ := trodAll_cons r0
  obtain ⟨v2, vs2, d2, ds2, p2, q2, rfl, rfl, rfl, h2, r2⟩ := trodAll_cons r1
  obtain ⟨v3, vs3, d3, ds3, p3, q3, rfl, rfl, rfl, h3, r3⟩ := trodAll_cons r2
  obtain ⟨rfl, rfl, rfl⟩ := trodAll_nil r3
  obtain rfl : args = #[v0, v1, v2, v3] := by cases args; simp_all
  obtain ⟨rfl, rfl⟩ := trodVars_none hV
  obtain ⟨c0, len0, cap0, rfl⟩ := okWide_slice Try.underlying22 (hval 0 22 v0 rfl rfl)
  have k0 := h0
  have lt0 : ∀ x ∈ p0, x.block < W.heap.size := by obtain ⟨m, hm⟩ := k0; exact DataW.trod_lt m _ _ _ hm
  obtain ⟨fuel0, hf0⟩ := h0
  obtain ⟨l0, y0, m0, e0⟩ := bytes_arg2 Try.underlying22 Try.underlying5 (by kernel_rfl) hf0
  have z0 : l0.length ≤ 140737488351232 := by
    rcases e0 with ⟨_, rfl⟩ | ⟨elems, spare, rfl, hll⟩
    · simp
    · have := sized_slice hsz (j := 0) (t := 22) (e := 5) rfl rfl Try.underlying22
      rw [show Try.prog.bytesOf 5 = 1 by kernel_rfl] at this; simp only [reachBytes] at this; omega
  obtain ⟨a1, rfl, rfl, rfl, w1⟩ := open_int Try.underlying3 (hval 1 3 v1 rfl rfl) h1
  have b1 := bounds_i64 w1
  obtain ⟨a2, rfl, rfl, rfl, w2⟩ := open_int Try.underlying3 (hval 2 3 v2 rfl rfl) h2
  have b2 := bounds_i64 w2
  obtain ⟨c3, len3, cap3, rfl⟩ := okWide_slice Try.underlying54 (hval 3 54 v3 rfl rfl)
  have k3 := h3
  have lt3 : ∀ x ∈ p3, x.block < W.heap.size := by obtain ⟨m, hm⟩ := k3; exact DataW.trod_lt m _ _ _ hm
  obtain ⟨fuel3, hf3⟩ := h3
  obtain ⟨l3, y3, e3⟩ : ∃ l, Trns W (.slice c3 len3 cap3) l ∧ DatL TnDat d3 l := rows_arg 3 _ TnDat Try.underlying54 (by kernel_rfl) (by decide) (fun fuel cs d p h hl => trn_cells Try.underlying56 (by kernel_rfl) rfl rfl rfl (by kernel_rfl) (by kernel_rfl) (by kernel_rfl) Try.underlying3 Try.underlying3 Try.underlying3 h) hf3
  obtain rfl : len3 = l3.length := by obtain ⟨_, _, e, _⟩ := RowsR.form y3; cases e; rfl
  obtain ⟨z3, zz3⟩ := mrows_small (msmall_arg hsz (j := 3) (t := 54) rfl rfl) Try.underlying54 (n := 24) (by kernel_rfl) e3
  clear hA0
  refine (btaken_any a1 a2 c0 len0 cap0 l0 c3 cap3 l3 W y0 m0 y3 (by omega)).mono fun e W' ⟨he, bel⟩ => ?_
  subst he
  exact ⟨_, rfl, _, _, _, [], _, [], hW', trodAll_mk1 (shut_bool Try.underlying4 _), (trodAll_cons_mk (Below.trod laidOut (by kernel_rfl) (of_decide_eq_true (by kernel_rfl)) k0 bel lt0) (trodAll_cons_mk (shut_int Try.underlying3 w1) (trodAll_cons_mk (shut_int Try.underlying3 w2) (trodAll_cons_mk (Below.trod laidOut (by kernel_rfl) (of_decide_eq_true (by kernel_rfl)) k3 bel lt3) trodAll_mk0)))), rfl, bel.frame _, fun h => by cases h⟩

theorem over : Rows.bufmodeTakenRow.holds Try.pinned (OpenSpec.ofChange Rows.bufmodeTakenSpec) :=
  OpenClaim.holds_of_wide 6 Try.f6 rfl rfl rfl rfl rfl rfl rfl ⟨rfl, rfl, rfl, rfl, rfl⟩ rfl rfl rfl rfl rfl (by kernel_rfl) Try.func6 (by kernel_rfl)
    (of_decide_eq_true (by kernel_rfl)) (by unfold Func.isWrapper; first | (rw [if_pos (by decide +kernel)]; kernel_rfl) | (rw [if_neg (by decide +kernel)]; exact ⟨rfl, rfl⟩))
    (fun os started H enc _ => lifted os started H enc)
end Go.Proofs.Ytibnpeipndkciaa.bufmodeTaken
namespace Go.Proofs.Ytibnpeipndkciaa
theorem bufmodeTaken_holds : Rows.BufmodeTakenSaid := bufmodeTaken.over
#print axioms bufmodeTaken_holds
end Go.Proofs.Ytibnpeipndkciaa
