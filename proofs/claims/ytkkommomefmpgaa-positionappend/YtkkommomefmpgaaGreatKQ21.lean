/- What the proof stands on, part 21: the contracts of the program's calls that it reaches. -/
import Derived.Test.YtkkommomefmpgaaGreatKQ20
/- What is put on a stream that appends, over a kernel's file, whatever its faults are: values. -/
namespace Go.Proofs.YtkkommomefmpgaaGreat
open Go.RowKit Go.Maps

theorem ker_seek (kb : Nat) (d : Int) (hd : I64 d) : RawS (fun K o wh => KS.seek K d o wh) 294 (.agg #[.pointer (some ⟨kb, 0, none⟩), .int .i64 d]) 331 (fun _ => True) (fun w O K => KAt w O kb K) where
  mseek w := by kernel_rfl
  cseek a w := by kernel_rfl
  seek o wh h _ ho := (h.hseek d o wh hd ho).mono fun e w' ⟨h1, h2⟩ => ⟨h1, h2⟩
  told {w O s} o wh _ := by
    have z : (0 : Int) ≤ 0 ∧ (0 : Int) ≤ 1048576 := by decide
    unfold KS.seek
    repeat' split
    all_goals first | assumption | exact z
set_option maxRecDepth 100000 in
theorem ker_bearsS (d : Int) : BearsS (fun K o wh => KS.seek K d o wh) (fun _ => True) kB := fun n K o wh h => by
  obtain ⟨e1, e2⟩ := seek_counts K d o wh
  refine ⟨trivial, ?_⟩
  revert h
  simp only
  generalize (KS.seek K d o wh).2.2 = K2 at *
  intro h
  unfold kB at h ⊢
  rw [e1, e2]
  obtain ⟨h1, h2⟩ := h
  rw [Nat.add_mul, Nat.one_mul] at h1 h2
  exact ⟨Nat.le_trans (Nat.add_le_add_left (Nat.le_add_right _ _) _) h1, Nat.le_trans (Nat.add_le_add_left (Nat.le_add_right _ _) _) h2⟩
def KAp (b : List UInt8) (p : Nat) (L : List Fault) (rd wr : Nat) : KS := ⟨[⟨⟨#[102]⟩, .file b⟩], [0], [⟨1, 0, 7, p, 1⟩], 2, L, rd, wr⟩
def apS (F x : List UInt8) (p rd : Nat) (q : Nat) (L : List Fault) (wr : Nat) : KS := KAp ((F ++ x).take (F.length + q)) (if q = 0 then p else F.length + q) L rd wr
theorem ap_write (F x : List UInt8) (p rd : Nat) (h2 : F.length + x.length ≤ 1048576) : WrV (kerD 1) x (apS F x p rd) where
  write q L wr hq hL := by
    obtain ⟨X, hX⟩ : ∃ X, X = F ++ x := ⟨_, rfl⟩
    obtain ⟨n, hn⟩ : ∃ n, n = F.length + q := ⟨_, rfl⟩
    have hXl : X.length = F.length + x.length := by rw [hX, List.length_append]
    have hXd : X.drop n = x.drop q := by rw [hX, hn, List.drop_append]; simp
    have hst : ∀ q' p' L' wr', (q' = 0 → p' = p) → (q' ≠ 0 → p' = F.length + q') → KAp (X.take (F.length + q')) p' L' rd wr' = apS F x p rd q' L' wr' := fun q' p' L' wr' e1 e2 => by
      unfold apS
      rw [← hX]
      by_cases h0 : q' = 0
      · rw [if_pos h0, e1 h0]
      · rw [if_neg h0, e2 h0]
    obtain ⟨p1, hp1⟩ : ∃ p1, p1 = if q = 0 then p else F.length + q := ⟨_, rfl⟩
    have hK : apS F x p rd q L wr = KAp (X.take n) p1 L rd wr := by unfold apS; rw [← hX, hp1, hn]
    rw [hK, ← hXd]
    have hx : (KAp (X.take n) p1 L rd wr).find 1 = some ⟨1, 0, 7, p1, 1⟩ := rfl
    have hdl : (X.drop n).length = X.length - n := List.length_drop
    have htl : (X.take n).length = n := by rw [List.length_take]; omega
    have hpl : placeOf (X.take n) 7 p1 = n := htl
    have hr : refusal ((KAp (X.take n) p1 L rd wr).tho ⟨1, 0, 7, p1, 1⟩) 7 p1 (X.drop n).length = 0 := by
      show (if placeOf (X.take n) 7 p1 = 1048576 then (31 : Int) else 0) = 0
      rw [hpl, if_neg (by omega)]
    have n1 : (1 : Int) ≤ ((X.drop n).length : Int) := by omega
    have n2 : ((X.drop n).length : Int) ≤ 1048576 := by omega
    show ∃ (m : Nat) (E : Int), (KAp (X.take n) p1 L rd wr).write 1 (X.drop n) = _ ∧ _
    rw [write_is hx (by show fbit 7 2 ≠ 0; decide) (by omega) (by omega) hr]
    rw [show (KAp (X.take n) p1 L rd wr).plan = L from rfl]
    rcases nxt_err (l := L) n1 n2 with e | e | e
    · rw [if_pos e]
      have hg := nxt_good hL n1 n2 e
      obtain ⟨m, hm⟩ : ∃ m : Nat, (nxt L (X.drop n).length).1 = (m : Int) := ⟨(nxt L (X.drop n).length).1.toNat, by omega⟩
      rw [hm] at hg ⊢
      have hmin : min ((m : Int)).toNat (1048576 - placeOf (X.take n) 7 p1) = m := by rw [hpl]; omega
      refine ⟨m, 0, ?_, by omega, .inl ⟨rfl, by omega⟩⟩
      rw [show (KAp (X.take n) p1 L rd wr).writeUp.wrx ⟨1, 0, 7, p1, 1⟩ (X.drop n) m = (((min ((m : Int)).toNat (1048576 - placeOf (X.take n) 7 p1) : Nat) : Int), 0, ((KAp (X.take n) p1 L rd wr).writeUp.setOb 0 (.file (wrL (X.take n) (placeOf (X.take n) 7 p1) ((X.drop n).take (min ((m : Int)).toNat (1048576 - placeOf (X.take n) 7 p1)))))).setDe ⟨1, 0, 7, placeOf (X.take n) 7 p1 + min ((m : Int)).toNat (1048576 - placeOf (X.take n) 7 p1), 1⟩) from rfl]
      rw [hmin, hpl, wrL_more X n m (by omega) (by omega) (by omega)]
      rw [← hst (q + m) (n + m) L.tail (wr + 1) (by omega) (by omega), show F.length + (q + m) = n + m by omega]
      rfl
    · rw [if_neg (by omega), e]
      refine ⟨0, 22, ?_, by omega, .inr ⟨.inl rfl, rfl, fun hn => ?_⟩⟩
      · rw [← hst (q + 0) p1 L.tail (wr + 1) (fun e => by rw [hp1, if_pos (show q = 0 by omega)]) (fun e => by rw [hp1, if_neg (show ¬ q = 0 by omega)]; omega), show F.length + (q + 0) = n by omega]
        rfl
      · subst hn
        rw [nxt_nil n1 n2] at e
        cases e
    · rw [if_neg (by omega), e]
      refine ⟨0, 23, ?_, by omega, .inr ⟨.inr rfl, rfl, fun hn => ?_⟩⟩
      · rw [← hst (q + 0) p1 L.tail (wr + 1) (fun e => by rw [hp1, if_pos (show q = 0 by omega)]) (fun e => by rw [hp1, if_neg (show ¬ q = 0 by omega)]; omega), show F.length + (q + 0) = n by omega]
        rfl
      · subst hn
        rw [nxt_nil n1 n2] at e
        cases e
theorem ap_put (F x : List UInt8) (p rd wr : Nat) (L : List Fault) (h2 : F.length + x.length ≤ 1048576) (hL : planOk L) (hw : wr ≤ 4611686018427387904) : ∃ p' L' wr', putV (kerD 1) x (putF x) (KAp F p L rd wr) 0 0 = (x.length, 0, KAp (F ++ x) p' L' rd wr') ∧ planOk L' ∧ (x ≠ [] → p' = (F ++ x).length) ∧ (x = [] → p' = p) := by
  obtain ⟨-, L', wr', g2, g3⟩ := WrV.put (ap_write F x p rd h2) (ok := fun _ => True) (R := 9223372036854775807) (fun _ _ _ _ => trivial) (putF x) 0 0 L wr (Nat.zero_le _) (by unfold putF; omega) (by have := hL.1; omega) hL (by have := hL.1; omega)
  have e0 : apS F x p rd 0 L wr = KAp F p L rd wr := by unfold apS; rw [if_pos rfl, Nat.add_zero, List.take_left]
  rw [e0] at g2
  have e1 : apS F x p rd x.length L' wr' = KAp (F ++ x) (if x.length = 0 then p else F.length + x.length) L' rd wr' := by unfold apS; rw [← List.length_append, List.take_length]
  rw [e1] at g2
  refine ⟨_, L', wr', g2, g3, fun h => ?_, fun h => ?_⟩
  · rw [if_neg (fun e => h (List.length_eq_zero_iff.1 e)), List.length_append]
  · rw [if_pos (by rw [h]; rfl)]
def moAp : Mo := ⟨true, true, true, true, false, false, false, false⟩
theorem chk_moAp : chkM moAp = 0 := by decide
theorem new_Ap (mode size : Int) : SS.new moAp mode size = if 1 ≤ mode ∧ mode ≤ 3 then (if 1 ≤ size ∧ size ≤ 65536 then (xRW mode size, 0) else (ss0, 4)) else (ss0, 1) := by
  unfold SS.new
  rw [if_pos chk_moAp]
  rfl
structure Ap (E : Prop) (x : SS) (K : KS) (W : List UInt8) : Prop where
  wt : x.wt = true
  m1 : 1 ≤ x.mode
  m3 : x.mode ≤ 3
  s1 : 1 ≤ x.size
  s2 : x.size ≤ 65536
  ol : (x.out.length : Int) < x.size
  o1 : x.mode = 1 → x.out = []
  inn : x.inn = []
  back : x.back = []
  closed : x.closed = false
  dir : x.dir = 2 ∨ (x.dir = 0 ∧ x.out = [])
  st : ∃ F p L rd wr, K = KAp F p L rd wr ∧ planOk L ∧ F ++ x.out = W ∧ p ≤ 1048576 ∧ (E → x.out ≠ [] ∨ p = F.length)
  few : W.length ≤ 1000000
theorem Ap.may {E : Prop} {x : SS} {K : KS} {W : List UInt8} (h : Ap E x K W) : x.may = true := by
  refine (may_iff x).2 ⟨h.m1, h.m3, h.s1, h.s2, by have := h.ol; omega, fun e => by rw [h.o1 e]; rfl, by rw [h.inn]; simp, by rw [h.back]; simp, ?_⟩
  rcases h.dir with e | ⟨e, e2⟩
  · exact .inr (.inr ⟨e, h.wt, by rw [h.inn, h.back]; rfl, h.closed⟩)
  · exact .inl ⟨e, by rw [e2]; rfl, by rw [h.inn, h.back]; rfl⟩
theorem Ap.refuse {E : Prop} {x : SS} {K : KS} {W : List UInt8} (h : Ap E x K W) : x.refuse true = 0 := by
  unfold SS.refuse
  rw [if_neg (by simp [h.may]), if_neg (by simp), if_neg (by simp [h.closed])]
theorem Ap.noWrite {E : Prop} {x : SS} {K : KS} {W : List UInt8} (h : Ap E x K W) : x.noWrite = 0 := by
  unfold SS.noWrite
  rw [if_neg (by simp [h.refuse]), if_neg (by simp [h.wt]), if_neg (fun e => by rcases h.dir with d | d <;> omega)]
theorem Ap.lens {E : Prop} {x : SS} {K : KS} {W : List UInt8} (h : Ap E x K W) : x.out.length ≤ 140737488351232 ∧ x.inn.length ≤ 140737488351232 ∧ x.back.length ≤ 140737488351232 := by
  have h1 := h.ol
  have h2 := h.s2
  exact ⟨by omega, by rw [h.inn]; simp, by rw [h.back]; simp⟩
theorem ap_deliver {x : SS} {F : List UInt8} {p rd wr : Nat} {L : List Fault} (hl : (F ++ x.out).length ≤ 1000000) (hL : planOk L) (hw : wr ≤ 4611686018427387904) : ∃ p' L' wr', x.deliver (kerD 1) (KAp F p L rd wr) = ({ x with out := [] }, 0, KAp (F ++ x.out) p' L' rd wr') ∧ planOk L' ∧ (x.out ≠ [] → p' = (F ++ x.out).length) ∧ (x.out = [] → p' = p) := by
  obtain ⟨p', L', wr', g1, g2, g3, g4⟩ := ap_put F x.out p rd wr L (by rw [List.length_append] at hl; omega) hL hw
  refine ⟨p', L', wr', ?_, g2, g3, g4⟩
  unfold SS.deliver SS.mark
  rw [g1]
  simp
theorem kap_wr {K : KS} {n : Nat} (hk : kB n K) (F : List UInt8) (p : Nat) (L : List Fault) (rd wr : Nat) (e : K = KAp F p L rd wr) : wr ≤ 4611686018427387904 := by
  have h2 := hk.2
  rw [e] at h2
  exact Nat.le_trans (Nat.le_add_right _ _) h2
theorem Ap.put {E : Prop} {x : SS} {K : KS} {W : List UInt8} {n : Nat} (h : Ap E x K W) (hk : kB n K) (c : UInt8) (hl : W.length + 1 ≤ 1000000) : (x.put (kerD 1) K c).2.1 = 0 ∧ Ap True (x.put (kerD 1) K c).1 (x.put (kerD 1) K c).2.2 (W ++ [c]) := by
  obtain ⟨F, p, L, rd, wr, rfl, hL, hW, hp, -⟩ := h.st
  have hw := kap_wr hk F p L rd wr rfl
  have hWl : W.length = F.length + x.out.length := by rw [← hW, List.length_append]
  have few : (W ++ [c]).length ≤ 1000000 := by rw [List.length_append]; simpa using hl
  have hs := h.s1
  unfold SS.put
  rw [if_pos h.noWrite]
  unfold SS.put1
  by_cases hm : x.mode = 1
  · rw [if_pos hm]
    obtain ⟨p', L', wr', g1, g2, g3, -⟩ := ap_put F [c] p rd wr L (by simp; omega) hL hw
    rw [g1]
    have ho := h.o1 hm
    unfold SS.mark
    rw [if_pos (.inl rfl)]
    refine ⟨rfl, h.wt, h.m1, h.m3, h.s1, h.s2, h.ol, h.o1, h.inn, h.back, h.closed, .inl rfl, ⟨F ++ [c], p', L', rd, wr', rfl, g2, ?_, ?_, fun _ => .inr (g3 (by simp))⟩, few⟩
    · show F ++ [c] ++ x.out = _
      rw [← hW, ho]; simp
    · rw [g3 (by simp), List.length_append]
      simp only [List.length_cons, List.length_nil]
      omega
  rw [if_neg hm]
  have hol := h.ol
  rw [if_neg (by simp only; omega)]
  unfold SS.lay
  simp only
  split
  · rename_i hc
    have hlx : (F ++ (x.out ++ [c])).length ≤ 1000000 := by simp only [List.length_append, List.length_cons, List.length_nil]; omega
    obtain ⟨p', L', wr', g1, g2, g3, -⟩ := ap_deliver (x := ⟨x.rd, x.wt, x.mode, x.size, x.out ++ [c], x.inn, x.back, 2, x.fin, x.bad, x.closed⟩) (F := F) (p := p) (rd := rd) (wr := wr) (L := L) hlx hL hw
    rw [g1]
    have g3' := g3 (by simp)
    simp only at g3'
    refine ⟨rfl, h.wt, h.m1, h.m3, h.s1, h.s2, by show ((0 : Nat) : Int) < x.size; omega, fun _ => rfl, h.inn, h.back, h.closed, .inl rfl, ⟨F ++ (x.out ++ [c]), p', L', rd, wr', rfl, g2, ?_, by rw [g3']; omega, fun _ => .inr g3'⟩, few⟩
    show F ++ (x.out ++ [c]) ++ [] = _
    rw [← hW]; simp
  · rename_i hc
    have hc' : ¬ ((x.out.length + 1 : Nat) : Int) = x.size := fun e => hc (.inl e)
    refine ⟨rfl, h.wt, h.m1, h.m3, h.s1, h.s2, by show (((x.out ++ [c]).length : Nat) : Int) < x.size; rw [List.length_append]; simp only [List.length_cons, List.length_nil]; omega, fun e => absurd e hm, h.inn, h.back, h.closed, .inl rfl, ⟨F, p, L, rd, wr, rfl, hL, ?_, hp, fun _ => .inl (by show x.out ++ [c] ≠ []; simp)⟩, few⟩
    show F ++ (x.out ++ [c]) = _
    rw [← hW]; simp
abbrev kSk : SkV KS := fun K o wh => KS.seek K 1 o wh
theorem ap_seek (F : List UInt8) (p : Nat) (L : List Fault) (rd wr : Nat) (o : Int) : KS.seek (KAp F p L rd wr) 1 o 0 = if 0 ≤ o ∧ o ≤ 1048576 then (o, 0, KAp F o.toNat L rd wr) else (0, 4, KAp F p L rd wr) := by
  have hx : (KAp F p L rd wr).find 1 = some ⟨1, 0, 7, p, 1⟩ := rfl
  unfold KS.seek
  rw [hx]
  simp only [show (KAp F p L rd wr).tho ⟨1, 0, 7, p, 1⟩ = .file F from rfl]
  have a1 : ¬ ((0 : Int) = 1) := by decide
  have a2 : ¬ ((0 : Int) = 2) := by decide
  rw [if_neg (by decide)]
  simp only [if_neg a1, if_neg a2, Int.zero_add]
  rfl
theorem ap_told (F : List UInt8) (p : Nat) (L : List Fault) (rd wr : Nat) (hp : p ≤ 1048576) : KS.seek (KAp F p L rd wr) 1 0 1 = ((p : Int), 0, KAp F p L rd wr) := by
  have hx : (KAp F p L rd wr).find 1 = some ⟨1, 0, 7, p, 1⟩ := rfl
  unfold KS.seek
  rw [hx]
  simp only [show (KAp F p L rd wr).tho ⟨1, 0, 7, p, 1⟩ = .file F from rfl]
  rw [if_neg (by decide)]
  simp only [if_true, Int.add_zero, Int.toNat_natCast]
  rw [if_pos (by omega)]
  rfl
theorem Ap.tell {E : Prop} {x : SS} {K : KS} {W : List UInt8} {n : Nat} (h : Ap E x K W) (hk : kB n K) : (x.tell (kerD 1) kSk K).2.2.1 = 0 ∧ (E → (x.tell (kerD 1) kSk K).2.1 = (W.length : Int)) ∧ (x.tell (kerD 1) kSk K).1.out = [] ∧ Ap E (x.tell (kerD 1) kSk K).1 (x.tell (kerD 1) kSk K).2.2.2 W := by
  obtain ⟨F, p, L, rd, wr, rfl, hL, hW, hp, hE⟩ := h.st
  have hw := kap_wr hk F p L rd wr rfl
  have hlW := h.few
  rw [← hW] at hlW
  obtain ⟨p', L', wr', g1, g2, g3, g4⟩ := ap_deliver (x := x) (F := F) (p := p) (rd := rd) (wr := wr) (L := L) hlW hL hw
  have hp' : p' ≤ 1048576 := by
    by_cases h0 : x.out = []
    · rw [g4 h0]; exact hp
    · rw [g3 h0]; omega
  unfold SS.tell
  rw [if_neg (by simp [h.refuse]), g1, if_neg (by simp)]
  unfold SS.told
  simp only
  rw [show kSk (KAp (F ++ x.out) p' L' rd wr') 0 1 = ((p' : Int), 0, KAp (F ++ x.out) p' L' rd wr') from ap_told _ _ _ _ _ hp']
  simp only
  have hh : SS.hold ⟨x.rd, x.wt, x.mode, x.size, [], x.inn, x.back, x.dir, x.fin, x.bad, x.closed⟩ = 0 := by
    unfold SS.hold
    simp only [h.inn, h.back]
    rfl
  rw [if_neg (by simp), hh, if_neg (by omega)]
  have hs := h.s1
  have hEnd : E → p' = (F ++ x.out).length := fun e => by
    by_cases h0 : x.out = []
    · rw [g4 h0, h0, List.append_nil]
      exact (hE e).resolve_left (fun q => q h0)
    · exact g3 h0
  refine ⟨rfl, fun e => ?_, rfl, h.wt, h.m1, h.m3, h.s1, h.s2, by show ((0 : Nat) : Int) < x.size; omega, fun _ => rfl, h.inn, h.back, h.closed, ?_, ⟨F ++ x.out, p', L', rd, wr', rfl, g2, ?_, hp', fun e => .inr (hEnd e)⟩, h.few⟩
  · show (p' : Int) - 0 = _
    rw [hEnd e, hW]; omega
  · rcases h.dir with e | e
    · exact .inl e
    · exact .inr ⟨e.1, rfl⟩
  · show F ++ x.out ++ [] = W
    rw [List.append_nil]; exact hW
theorem Ap.seek {E : Prop} {x : SS} {K : KS} {W : List UInt8} {n : Nat} (h : Ap E x K W) (hk : kB n K) (o : Int) : Ap False (x.seek (kerD 1) kSk K o 0).1 (x.seek (kerD 1) kSk K o 0).2.2.2 W := by
  obtain ⟨F, p, L, rd, wr, rfl, hL, hW, hp, hE⟩ := h.st
  have hw := kap_wr hk F p L rd wr rfl
  have hlW := h.few
  rw [← hW] at hlW
  obtain ⟨p', L', wr', g1, g2, g3, g4⟩ := ap_deliver (x := x) (F := F) (p := p) (rd := rd) (wr := wr) (L := L) hlW hL hw
  have hp' : p' ≤ 1048576 := by
    by_cases h0 : x.out = []
    · rw [g4 h0]; exact hp
    · rw [g3 h0]; omega
  have hs := h.s1
  unfold SS.seek
  rw [if_neg (by simp [h.refuse]), if_neg (by decide), g1, if_neg (by simp)]
  have hmv : ∀ s n, movedV kSk s n o 0 = kSk s o 0 := fun s n => by unfold movedV; rw [if_pos (by decide)]
  unfold SS.sought
  simp only [hmv]
  rw [show kSk (KAp (F ++ x.out) p' L' rd wr') o 0 = _ from ap_seek (F ++ x.out) p' L' rd wr' o]
  by_cases ho : 0 ≤ o ∧ o ≤ 1048576
  · rw [if_pos ho]
    simp only
    rw [if_neg (by simp)]
    exact ⟨h.wt, h.m1, h.m3, h.s1, h.s2, by show ((0 : Nat) : Int) < x.size; omega, fun _ => rfl, rfl, rfl, h.closed, .inr ⟨rfl, rfl⟩, ⟨F ++ x.out, o.toNat, L', rd, wr', rfl, g2, by show F ++ x.out ++ [] = W; rw [List.append_nil]; exact hW, by omega, fun e => e.elim⟩, h.few⟩
  · rw [if_neg ho]
    simp only
    rw [if_pos (by decide)]
    refine ⟨h.wt, h.m1, h.m3, h.s1, h.s2, by show ((0 : Nat) : Int) < x.size; omega, fun _ => rfl, h.inn, h.back, h.closed, ?_, ⟨F ++ x.out, p', L', rd, wr', rfl, g2, by show F ++ x.out ++ [] = W; rw [List.append_nil]; exact hW, hp', fun e => e.elim⟩, h.few⟩
    rcases h.dir with e | e
    · exact .inl e
    · exact .inr ⟨e.1, rfl⟩
theorem tell_bear {x : SS} {K : KS} {n : Nat} (h : kB (n + 2) K) (hl : x.out.length ≤ 65536) : kB n (x.tell (kerD 1) kSk K).2.2.2 := by
  have hB := ker_bears 1
  have h1 : kB (n + 1) (x.deliver (kerD 1) K).2.2 := (hB.put (n + 1) K x.out h hl).2
  have h2 : ∀ o wh, kB n (kSk (x.deliver (kerD 1) K).2.2 o wh).2.2 := fun o wh => (ker_bearsS 1 n _ o wh h1).2
  unfold SS.tell SS.told
  repeat' split
  all_goals first | exact h2 _ _ | exact hB.less _ _ h1 | exact hB.less _ _ (hB.less _ _ h)
theorem seek_bear {x : SS} {K : KS} {n : Nat} (o : Int) (h : kB (n + 2) K) (hl : x.out.length ≤ 65536) : kB n (x.seek (kerD 1) kSk K o 0).2.2.2 := by
  have hB := ker_bears 1
  have h1 : kB (n + 1) (x.deliver (kerD 1) K).2.2 := (hB.put (n + 1) K x.out h hl).2
  have h2 : ∀ o wh, kB n (kSk (x.deliver (kerD 1) K).2.2 o wh).2.2 := fun o wh => (ker_bearsS 1 n _ o wh h1).2
  have hmv : ∀ s n, movedV kSk s n o 0 = kSk s o 0 := fun s n => by unfold movedV; rw [if_pos (by decide)]
  unfold SS.seek SS.sought
  simp only [hmv]
  repeat' split
  all_goals first | exact h2 _ _ | exact hB.less _ _ h1 | exact hB.less _ _ (hB.less _ _ h)
theorem kB_le {K : KS} {m n : Nat} (hmn : m ≤ n) (h : kB n K) : kB m K := ⟨Nat.le_trans (Nat.add_le_add_left (Nat.mul_le_mul_right _ hmn) _) h.1, Nat.le_trans (Nat.add_le_add_left (Nat.mul_le_mul_right _ hmn) _) h.2⟩
theorem Ap.weak {E E' : Prop} {x : SS} {K : KS} {W : List UInt8} (h : Ap E x K W) (he : E' → E) : Ap E' x K W := by
  obtain ⟨F, p, L, rd, wr, e, hL, hW, hp, hE⟩ := h.st
  exact ⟨h.wt, h.m1, h.m3, h.s1, h.s2, h.ol, h.o1, h.inn, h.back, h.closed, h.dir, ⟨F, p, L, rd, wr, e, hL, hW, hp, fun q => hE (he q)⟩, h.few⟩
theorem ap_made (b : List UInt8) (fs : List Fault) : kmD ⟨4, 0, b, [], [], fs, [], 0, true⟩ false = 1 ∧ kmK ⟨4, 0, b, [], [], fs, [], 0, true⟩ false = KAp b 0 fs 0 0 := by
  have hc : ∀ (K : KS) i, KS.cut K i 7 = K := fun K i => by
    unfold KS.cut
    rw [if_neg (by decide)]
  have hq : KS.byName ⟨[⟨⟨#[102]⟩, .file b⟩], [0], [], 1, fs, 0, 0⟩ ⟨#[102]⟩ = some 0 := rfl
  have ho : KS.open ⟨[⟨⟨#[102]⟩, .file b⟩], [0], [], 1, fs, 0, 0⟩ ⟨#[102]⟩ 7 = (1, 0, KAp b 0 fs 0 0) := by
    unfold KS.open
    rw [if_neg (by decide), if_neg (by decide), if_neg (by simp), hq]
    simp only
    rw [if_pos (by decide), hc]
    rfl
  have hn : KS.new (kfs ⟨4, 0, b, [], [], fs, [], 0, true⟩ false) (kts ⟨4, 0, b, [], [], fs, [], 0, true⟩ false) fs = ⟨[⟨⟨#[102]⟩, .file b⟩], [0], [], 1, fs, 0, 0⟩ := by
    simp [kfs, kts, KS.new, KS.nought, KS.addTh, insN]
  unfold kmD kmK
  rw [show kfl ⟨4, 0, b, [], [], fs, [], 0, true⟩ = 7 from rfl]
  simp only
  rw [hn, ho]
  exact ⟨rfl, rfl⟩
theorem ap_seek0 (b : List UInt8) (fs : List Fault) : ((KAp b 0 fs 0 0).seek 1 0 0).2.2 = KAp b 0 fs 0 0 := by
  rw [ap_seek, if_pos (by decide)]
  rfl
theorem ap_files (b : List UInt8) (p : Nat) (L : List Fault) (rd wr : Nat) : (KAp b p L rd wr).files = [(⟨#[102]⟩, b)] := rfl
end Go.Proofs.YtkkommomefmpgaaGreat

/- Two variables that hold states, each beside a Raw of its own; all of it apart. -/
namespace Go.Proofs.YtkkommomefmpgaaGreat
open Go.RowKit

def Us (g : Nat) (O : Nat → Prop) (o i b : Value) (k : Nat) : Prop := k = g ∨ O k ∨ o.ownBlock = some k ∨ i.ownBlock = some k ∨ b.ownBlock = some k
theorem LV.turned {S : Type} {At : World → (Nat → Prop) → S → Prop} (hT : ∀ s, OAt (fun w O => At w O s)) {w w' : World} {B g : Nat} {O Q : Nat → Prop} {x : SS} {s : S} {o i b : Value} (h : LV At w B g O x s o i b) (ht : Turned Q w w') (hq : ∀ k, Us g O o i b k → ¬ Q k) : LV At w' B g O x s o i b := by
  have hz := ht.size
  exact ⟨(ht.block g h.st.lt (hq g (.inl rfl))).trans h.st, ⟨h.ls.so.turned ht (fun k e _ => hq k (.inr (.inr (.inl e)))), h.ls.si.turned ht (fun k e _ => hq k (.inr (.inr (.inr (.inl e))))), h.ls.sb.turned ht (fun k e _ => hq k (.inr (.inr (.inr (.inr e))))), fun k e => by have := h.ls.po k e; exact ⟨this.1, this.2.1, this.2.2.1, by omega⟩, fun k e => by have := h.ls.pi k e; exact ⟨this.1, this.2.1, this.2.2.1, by omega⟩, fun k e => by have := h.ls.pb k e; exact ⟨this.1, this.2.1, this.2.2.1, by omega⟩⟩,
    (hT s).keep h.raw (fun j e hj => ht.block j hj (hq j (.inr (.inl e)))) hz, fun j e => Nat.lt_of_lt_of_le (h.ol j e) hz, h.ob, h.og, h.gB⟩
end Go.Proofs.YtkkommomefmpgaaGreat

/- PositionCounts: values; a variable that stays while its Raw goes on. -/
namespace Go.Proofs.YtkkommomefmpgaaGreat
open Go.RowKit

end Go.Proofs.YtkkommomefmpgaaGreat

/- A call beside something that is kept. -/
namespace Go.Proofs.YtkkommomefmpgaaGreat
open Go.RowKit

theorem LV.by14 {S1 S2 : Type} {A1 : World → (Nat → Prop) → S1 → Prop} {A2 : World → (Nat → Prop) → S2 → Prop} (hT1 : ∀ s, OAt (fun w O => A1 w O s)) (hT2 : ∀ s, OAt (fun w O => A2 w O s)) {w w1 : World} {B g : Nat} {O P : Nat → Prop} {x x' : SS} {s s' : S2} {s1 : S1} {o i b o' i' b' : Value} (h : LV A2 w B g O x s o i b) (hC : A1 w P s1) (hd : ∀ k, Us g O o i b k → ¬ P k) (hP : ∀ k, P k → k < w.heap.size) (hB : B ≤ w.heap.size) (hS : SOut A2 w O x' s' o' i' b' w1) :
    StAt w1 g x o i b ∧ (∃ O', LV A2 (filled w1 g x' o' i' b') B g O' x' s' o' i' b' ∧ A1 (filled w1 g x' o' i' b') P s1 ∧ (∀ k, Us g O' o' i' b' k → ¬ P k) ∧ (∀ k, P k → k < (filled w1 g x' o' i' b').heap.size)) ∧ Turned (fun k => B ≤ k) w (filled w1 g x' o' i' b') := by
  obtain ⟨hst, -, ht⟩ := LV.next hT2 h hB hS
  obtain ⟨O', q1, q2, q3, q4, q5⟩ := hS
  have hl := LV.next1 hT2 h hB O' q1 q2 q3 q4 q5
  obtain ⟨-, e2⟩ := st_fill2 w1 g x x' o i b o' i' b' hst
  have hz := q5.size
  have hz2 := e2.size
  refine ⟨hst, ⟨O', hl, (hT1 s1).keep ((hT1 s1).keep hC (fun j e hj => q5.block j hj (fun e' => hd j (.inr (.inl e')) e)) hz) (fun j e hj => e2.block j hj (fun e' => hd j (.inl e') e)) hz2, fun k e e' => ?_, fun k e => by have := hP k e; omega⟩, ht⟩
  have hlt := hP k e'
  rcases e with e | e | e | e | e
  · exact hd k (.inl e) e'
  · rcases q4 k e with e | e
    · exact hd k (.inr (.inl e)) e'
    · omega
  · have := (q1.po k e).1; omega
  · have := (q1.pi k e).1; omega
  · have := (q1.pb k e).1; omega
end Go.Proofs.YtkkommomefmpgaaGreat
