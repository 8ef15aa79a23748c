/- What the proof stands on, part 13: the contracts of the program's calls that it reaches. -/
import Derived.Test.YtkkicbhmcjbmbaaGreatKM12
/- KernPieces: the kernel's states, as values. -/
namespace Go.Proofs.YtkkicbhmcjbmbaaGreat
open Go.RowKit Go.Maps

def nmG : ByteArray := ⟨#[103]⟩
/-- Two files: one read, one written. -/
def KPc (b y : List UInt8) (p q : Nat) (L : List Fault) (rd wr : Nat) : KS := ⟨[⟨nmF, .file b⟩, ⟨nmG, .file y⟩], [0, 1], [⟨1, 0, 1, p, 1⟩, ⟨2, 1, 10, q, 1⟩], 3, L, rd, wr⟩
theorem pc_open1 (b : List UInt8) (l : List Fault) : (KS.new [(nmF, b)] [] l).open nmF 1 = (1, 0, ⟨[⟨nmF, .file b⟩], [0], [⟨1, 0, 1, 0, 1⟩], 2, l, 0, 0⟩) := rfl
theorem pc_open2 (b : List UInt8) (l : List Fault) : (⟨[⟨nmF, .file b⟩], [0], [⟨1, 0, 1, 0, 1⟩], 2, l, 0, 0⟩ : KS).open nmG 10 = (2, 0, KPc b [] 0 0 l 0 0) := rfl
theorem pc_read (b y : List UInt8) (p q : Nat) (L : List Fault) (rd wr : Nat) (n : Nat) (hp : p ≤ b.length) (hL : planOk L) (h1 : 1 ≤ n) (h2 : n ≤ 1048576) :
    ∃ Y E, (KPc b y p q L rd wr).read 1 (n : Int) = (Y, E, KPc b y (p + Y.length) q L.tail (rd + 1) wr) ∧ b.take p ++ Y = b.take (p + Y.length) ∧ p + Y.length ≤ b.length ∧ (E = 0 ∨ E = 22 ∨ E = 23) ∧ Y.length ≤ n ∧ (Y.length = 0 → p < b.length → L ≠ []) := by
  have hx : (KPc b y p q L rd wr).find 1 = some ⟨1, 0, 1, p, 1⟩ := rfl
  have n1 : (1 : Int) ≤ (n : Int) := by omega
  have n2 : (n : Int) ≤ 1048576 := by omega
  rw [read_is hx (by show fbit 1 1 ≠ 0; decide) n1 n2 rfl]
  rw [show (KPc b y p q L rd wr).plan = L from rfl]
  rcases nxt_err (l := L) n1 n2 with e | e | e
  · rw [if_pos e]
    have hg := nxt_good hL n1 n2 e
    refine ⟨piece b p (nxt L n).1.toNat, 0, rfl, take_piece hp, ?_, .inl rfl, ?_, ?_⟩
    · rw [piece_len]; omega
    · rw [piece_len]; omega
    · intro h0 hlt; rw [piece_len] at h0; omega
  · rw [if_neg (by omega), e]
    refine ⟨[], 22, rfl, by simp, by simpa using hp, by simp, by simp, fun _ _ hn => ?_⟩
    subst hn
    rw [nxt_nil n1 n2] at e
    cases e
  · rw [if_neg (by omega), e]
    refine ⟨[], 23, rfl, by simp, by simpa using hp, by simp, by simp, fun _ _ hn => ?_⟩
    subst hn
    rw [nxt_nil n1 n2] at e
    cases e
theorem wrL_more (x : List UInt8) (q m : Nat) (hq : q + m ≤ x.length) (hm : 1 ≤ m) (h2 : x.length ≤ 1048576) : wrL (x.take q) q ((x.drop q).take m) = x.take (q + m) := by
  unfold wrL
  have hl : ((x.drop q).take m).length = m := by rw [List.length_take, List.length_drop]; omega
  have hf : Fi_wrE q ((x.drop q).take m).length = 0 := wr_fits (at' := q) (by omega)
  rw [if_pos hf]
  have hne : (x.drop q).take m ≠ [] := by intro e; rw [e] at hl; simp at hl; omega
  have htl : (x.take q).length = q := by rw [List.length_take]; omega
  unfold lay grow
  simp only [hl, htl]
  have hd : (List.take q x ++ List.replicate (q + m - q) (0 : UInt8)).drop (q + m) = [] := List.drop_of_length_le (by rw [List.length_append, htl, List.length_replicate]; omega)
  rw [if_neg hne, Int.toNat_natCast, List.take_append_of_le_length (by omega), List.take_of_length_le (by omega), hd, List.append_nil, List.take_add]
theorem pc_write (b x : List UInt8) (p q : Nat) (L : List Fault) (rd wr : Nat) (hq : q < x.length) (h2 : x.length ≤ 1048576) (hL : planOk L) :
    ∃ (m : Nat) (E : Int), (KPc b (x.take q) p q L rd wr).write 2 (x.drop q) = ((m : Int), E, KPc b (x.take (q + m)) p (q + m) L.tail rd (wr + 1)) ∧ q + m ≤ x.length ∧ (E = 0 ∨ E = 22 ∨ E = 23) ∧ (m = 0 → L ≠ []) := by
  have hx : (KPc b (x.take q) p q L rd wr).find 2 = some ⟨2, 1, 10, q, 1⟩ := rfl
  have hdl : (x.drop q).length = x.length - q := List.length_drop
  have hpl : placeOf (x.take q) 10 q = q := rfl
  have hr : refusal ((KPc b (x.take q) p q L rd wr).tho ⟨2, 1, 10, q, 1⟩) 10 q (x.drop q).length = 0 := by
    show (if placeOf (x.take q) 10 q = 1048576 then (31 : Int) else 0) = 0
    rw [hpl, if_neg (by omega)]
  have n1 : (1 : Int) ≤ ((x.drop q).length : Int) := by omega
  have n2 : ((x.drop q).length : Int) ≤ 1048576 := by omega
  rw [write_is hx (by show fbit 10 2 ≠ 0; decide) (by omega) (by omega) hr]
  rw [show (KPc b (x.take q) p q L rd wr).plan = L from rfl]
  rcases nxt_err (l := L) n1 n2 with e | e | e
  · rw [if_pos e]
    have hg := nxt_good hL n1 n2 e
    obtain ⟨m, hm⟩ : ∃ m : Nat, (nxt L (x.drop q).length).1 = (m : Int) := ⟨(nxt L (x.drop q).length).1.toNat, by omega⟩
    rw [hm] at hg ⊢
    have hmin : min ((m : Int)).toNat (1048576 - placeOf (x.take q) 10 q) = m := by rw [hpl]; omega
    refine ⟨m, 0, ?_, by omega, .inl rfl, fun h0 => by omega⟩
    show (KPc b (x.take q) p q L rd wr).writeUp.wrx ⟨2, 1, 10, q, 1⟩ (x.drop q) m = _
    rw [show (KPc b (x.take q) p q L rd wr).writeUp.wrx ⟨2, 1, 10, q, 1⟩ (x.drop q) m = (((min ((m : Int)).toNat (1048576 - placeOf (x.take q) 10 q) : Nat) : Int), 0, ((KPc b (x.take q) p q L rd wr).writeUp.setOb 1 (.file (wrL (x.take q) (placeOf (x.take q) 10 q) ((x.drop q).take (min ((m : Int)).toNat (1048576 - placeOf (x.take q) 10 q)))))).setDe ⟨2, 1, 10, placeOf (x.take q) 10 q + min ((m : Int)).toNat (1048576 - placeOf (x.take q) 10 q), 1⟩) from rfl]
    rw [hmin, hpl, wrL_more x q m (by omega) (by omega) h2]
    rfl
  · rw [if_neg (by omega), e]
    refine ⟨0, 22, rfl, by omega, by simp, fun _ hn => ?_⟩
    subst hn
    rw [nxt_nil n1 n2] at e
    cases e
  · rw [if_neg (by omega), e]
    refine ⟨0, 23, rfl, by omega, by simp, fun _ hn => ?_⟩
    subst hn
    rw [nxt_nil n1 n2] at e
    cases e
theorem pc_files (b x : List UInt8) (p q : Nat) (L : List Fault) (rd wr : Nat) : (KPc b x p q L rd wr).files = [(nmF, b), (nmG, x)] := rfl
theorem KAt.files {w : World} {O : Nat → Prop} {kb : Nat} {K : KS} (h : KAt w O kb K) :
    Calls Tryz.prog 66 #[.pointer (some ⟨kb, 0, none⟩)] w fun e w' => ∃ v us, e = .returned v ∧ w'.ownsRow w.heap.size 93 2 v K.files.length (ncs K.files us) ∧ LCells w' w.heap.size (K.files.map Prod.snd) us ∧ Below w.heap.size w w' := by
  obtain ⟨ρ, I, h1, rfl, h3⟩ := h
  exact kfiles_any ρ I K w h1
end Go.Proofs.YtkkicbhmcjbmbaaGreat

/- Rest and Calls of a kernel; what a refused call leaves, as values. -/
namespace Go.Proofs.YtkkicbhmcjbmbaaGreat
open Go.RowKit Go.Maps

set_option maxRecDepth 100000 in
theorem krest_any (ρ : Nat → Option PTag) (I : PI) (K : KS) (w : World) (h : PK w ρ I K) :
    Calls Tryz.prog 69 #[.pointer (some ⟨I.kb, 0, none⟩)] w fun e w' => ∃ v, e = .returned v ∧ w'.ownsRow w.heap.size 167 2 v K.plan.length (fcs K.plan) ∧ Below w.heap.size w w' := by
  have c0 := h.cells.made
  have c5 := h.cells.plan
  have HR := hide (rest_any I.pb I.pv K.plan w (h.comp .plan).1 (by have := h.ok.plan.1; omega))
  have HM := hide (kmade_any I.kb w c0)
  clear h
  go_enter Tryz.func69, Tryz.ntmps69
  go_wp2_with fail
  refine HM.out.mono ?_
  rintro e w1 ⟨rfl, rfl⟩
  go_wp2_with fail
  refine HR.out.mono ?_
  rintro e w2 ⟨v, rfl, hO, hB⟩
  have HO := hide hO
  have HB := hide hB
  clear hO hB
  go_wp2
  go_ret
  exact ⟨v, rfl, HO.out, HB.out⟩
theorem KAt.rest {w : World} {O : Nat → Prop} {kb : Nat} {K : KS} (h : KAt w O kb K) :
    Calls Tryz.prog 69 #[.pointer (some ⟨kb, 0, none⟩)] w fun e w' => ∃ v, e = .returned v ∧ w'.ownsRow w.heap.size 167 2 v K.plan.length (fcs K.plan) ∧ Below w.heap.size w w' := by
  obtain ⟨ρ, I, h1, rfl, h3⟩ := h
  exact krest_any ρ I K w h1
/-- What is left of a call that answers an error. -/
def Refused (K : KS) (E : Int) (K' : KS) : Prop := K'.files = K.files ∧ ((E ≠ 22 ∧ E ≠ 23 ∧ K'.plan = K.plan) ∨ ((E = 22 ∨ E = 23) ∧ K'.plan = K.plan.tail ∧ K.plan ≠ []))
theorem Refused.same {K : KS} {E : Int} (h1 : E ≠ 22) (h2 : E ≠ 23) : Refused K E K := ⟨rfl, .inl ⟨h1, h2, rfl⟩⟩
theorem refused_open (K : KS) (s : ByteArray) (f : Int) (h : (K.open s f).2.1 ≠ 0) : Refused K (K.open s f).2.1 (K.open s f).2.2 := by
  revert h
  unfold KS.open
  repeat' split
  all_goals first
    | exact fun _ => Refused.same (by simp) (by simp)
    | exact fun h => absurd rfl h
theorem nxt_some {L : List Fault} {n : Int} (h1 : 1 ≤ n) (h2 : n ≤ 1048576) (h : (nxt L n).2 ≠ 0) : L ≠ [] := fun e => by
  subst e
  unfold nxt at h
  rw [if_neg (by omega)] at h
  exact h rfl
theorem rdx_zero {K : KS} {x : De} {m : Int} (h1 : 1 ≤ m) (h2 : m ≤ 1048576) (hw : (K.tho x).waits = false) : (K.rdx x m).2.1 = 0 := by
  unfold KS.rdx
  cases ho : K.tho x with
  | file b => rfl
  | term ls scr =>
    show Te_rdE m = 0
    unfold Te_rdE
    rw [if_pos (show rOk m = true by unfold rOk; exact decide_eq_true ⟨h1, h2⟩)]
  | pipe q rd wt =>
    show Kp_rdE m q.length rd wt = 0
    rw [ho] at hw
    have hc : canR q.length rd wt = true := by simpa [Ob.waits] using hw
    unfold Kp_rdE
    rw [inN_of h1 h2]
    unfold canR at hc
    simp only [Bool.and_eq_true, decide_eq_true_eq, Bool.not_eq_true', decide_eq_false_iff_not] at hc
    rw [if_neg (by decide), if_neg (by omega), if_neg (by simpa using hc.2)]
theorem refused_read (K : KS) (ok : planOk K.plan) (d n : Int) (h : (K.read d n).2.1 ≠ 0) : Refused K (K.read d n).2.1 (K.read d n).2.2 := by
  cases hx : K.find d with
  | none =>
    have e : K.read d n = ([], 64, K) := by unfold KS.read; rw [hx]
    rw [e]; exact Refused.same (by simp) (by simp)
  | some x =>
    by_cases hf : fbit x.flags 1 = 0
    · have e : K.read d n = ([], 65, K) := by unfold KS.read; rw [hx]; simp only; rw [if_pos hf]
      rw [e]; exact Refused.same (by simp) (by simp)
    by_cases hn : n < 0 ∨ 1048576 < n
    · have e : K.read d n = ([], 4, K) := by unfold KS.read; rw [hx]; simp only; rw [if_neg hf, if_pos hn]
      rw [e]; exact Refused.same (by simp) (by simp)
    by_cases h0 : n = 0
    · have e : K.read d n = ([], 0, K) := by unfold KS.read; rw [hx]; simp only; rw [if_neg hf, if_neg hn, if_pos h0]
      rw [e] at h; exact absurd rfl h
    have n1 : 1 ≤ n := by omega
    have n2 : n ≤ 1048576 := by omega
    by_cases hw : (K.tho x).waits = true
    · have e : K.read d n = ([], 52, K) := by unfold KS.read; rw [hx]; simp only; rw [if_neg hf, if_neg hn, if_neg h0, if_pos hw]
      rw [e]; exact Refused.same (by simp) (by simp)
    have hw' : (K.tho x).waits = false := by simpa using hw
    rw [read_is hx hf n1 n2 hw'] at h ⊢
    by_cases e0 : (nxt K.plan n).2 = 0
    · rw [if_pos e0] at h
      have hg := nxt_good ok n1 n2 e0
      exact absurd (rdx_zero (K := K.readUp) hg.1 (by omega) hw') h
    · rw [if_neg e0]
      refine ⟨rfl, .inr ⟨?_, rfl, nxt_some n1 n2 e0⟩⟩
      rcases nxt_err (l := K.plan) n1 n2 with e | e | e
      · exact absurd e e0
      · exact .inl e
      · exact .inr e
theorem wrx_zero {K : KS} {x : De} {b : List UInt8} {m : Int} (h1 : 1 ≤ m) (h2 : m ≤ 1048576) (hl : 1 ≤ b.length) (hl2 : b.length ≤ 1048576) (hr : refusal (K.tho x) x.flags x.pos b.length = 0) : (K.wrx x b m).2.1 = 0 := by
  unfold KS.wrx
  cases ho : K.tho x with
  | file f => rfl
  | term ls scr => rfl
  | pipe q rd wt =>
    show Kp_wrE b.length m q.length rd wt = 0
    rw [ho] at hr
    unfold refusal at hr
    simp only at hr
    by_cases hrd : rd = 0
    · rw [if_pos hrd] at hr; cases hr
    rw [if_neg hrd] at hr
    have hc : canW b.length q.length rd wt = true := by
      cases hcw : canW b.length q.length rd wt with
      | true => rfl
      | false => rw [hcw] at hr; simp at hr
    unfold canW at hc
    simp only [Bool.and_eq_true, decide_eq_true_eq, Bool.or_eq_true, Int.toNat_natCast] at hc
    obtain ⟨_, hwt, hfit⟩ := hc
    have hfit : 0 < fitN b.length b.length q.length := by rcases hfit with h | h <;> omega
    have hf2 : fitN b.length m.toNat q.length ≠ 0 := fit_some hfit (by omega)
    have hre : refE b.length m rd wt = 0 := by
      unfold refE
      rw [if_neg (by omega), inN_of h1 h2, if_neg (by decide), if_neg (by omega), if_neg hrd]
    unfold Kp_wrE
    rw [if_pos hre, if_neg (by omega), if_neg hf2]
theorem refused_write (K : KS) (ok : planOk K.plan) (d : Int) (b : List UInt8) (h : (K.write d b).2.1 ≠ 0) : Refused K (K.write d b).2.1 (K.write d b).2.2 := by
  cases hx : K.find d with
  | none =>
    have e : K.write d b = (0, 64, K) := by unfold KS.write; rw [hx]
    rw [e]; exact Refused.same (by simp) (by simp)
  | some x =>
    by_cases hf : fbit x.flags 2 = 0
    · have e : K.write d b = (0, 65, K) := by unfold KS.write; rw [hx]; simp only; rw [if_pos hf]
      rw [e]; exact Refused.same (by simp) (by simp)
    by_cases hn : 1048576 < b.length
    · have e : K.write d b = (0, 5, K) := by unfold KS.write; rw [hx]; simp only; rw [if_neg hf, if_pos hn]
      rw [e]; exact Refused.same (by simp) (by simp)
    by_cases h0 : b.length = 0
    · have e : K.write d b = (0, 0, K) := by unfold KS.write; rw [hx]; simp only; rw [if_neg hf, if_neg hn, if_pos h0]
      rw [e] at h; exact absurd rfl h
    by_cases hr : refusal (K.tho x) x.flags x.pos b.length = 0
    · have n1 : (1 : Int) ≤ (b.length : Int) := by omega
      have n2 : (b.length : Int) ≤ 1048576 := by omega
      rw [write_is hx hf (by omega) (by omega) hr] at h ⊢
      by_cases e0 : (nxt K.plan b.length).2 = 0
      · rw [if_pos e0] at h
        have hg := nxt_good ok n1 n2 e0
        exact absurd (wrx_zero (K := K.writeUp) hg.1 (by omega) (by omega) (by omega) hr) h
      · rw [if_neg e0]
        refine ⟨rfl, .inr ⟨?_, rfl, nxt_some n1 n2 e0⟩⟩
        rcases nxt_err (l := K.plan) n1 n2 with e | e | e
        · exact absurd e e0
        · exact .inl e
        · exact .inr e
    · have e : K.write d b = (0, refusal (K.tho x) x.flags x.pos b.length, K) := by unfold KS.write; rw [hx]; simp only; rw [if_neg hf, if_neg hn, if_neg h0, if_neg hr]
      rw [e]
      rcases refusal_vals (K.tho x) x.flags x.pos b.length with e | e | e | e <;> exact Refused.same (by show refusal _ _ _ _ ≠ 22; omega) (by show refusal _ _ _ _ ≠ 23; omega)
theorem refused_seek (K : KS) (d o wh : Int) (h : (K.seek d o wh).2.1 ≠ 0) : Refused K (K.seek d o wh).2.1 (K.seek d o wh).2.2 := by
  revert h
  unfold KS.seek
  repeat' split
  all_goals first
    | exact fun _ => Refused.same (by simp) (by simp)
    | exact fun h => absurd rfl h
end Go.Proofs.YtkkicbhmcjbmbaaGreat

/- Handles: their calls, those of no kernel, and two kernels side by side. -/
namespace Go.Proofs.YtkkicbhmcjbmbaaGreat
open Go.RowKit Go.Maps

theorem described_nil (d : Int) (w : World) : Calls Tryz.prog 134 #[.pointer none, .int .i64 d] w fun e w' => e = .returned (.tuple #[.pointer none, .int .i64 2]) ∧ w = w' := by
  go_enter Tryz.func134, Tryz.ntmps134
  go_wp2_with fail
  refine (kmade_nil w).mono ?_
  rintro e w1 ⟨rfl, rfl⟩
  go_wp2
  go_ret2
  exact ⟨rfl, rfl⟩
set_option maxRecDepth 100000 in
set_option maxHeartbeats 1000000 in
theorem kread_nil (d n : Int) (w : World) : Calls Tryz.prog 52 #[.pointer none, .int .i64 d, .int .i64 n] w fun e w' => e = .returned (.tuple #[.slice none 0 0, .int .i64 2]) ∧ w = w' := by
  go_enter Tryz.func52, Tryz.ntmps52
  go_wp2_with fail
  refine (described_nil d w).mono ?_
  rintro e w1 ⟨rfl, rfl⟩
  go_wp2
  go_ret2
  exact ⟨rfl, rfl⟩
set_option maxRecDepth 100000 in
set_option maxHeartbeats 1000000 in
theorem kwrite_nil (d : Int) (a : Option Addr) (n c : Nat) (w : World) : Calls Tryz.prog 55 #[.pointer none, .int .i64 d, .slice a n c] w fun e w' => e = .returned (.tuple #[.int .i64 0, .int .i64 2]) ∧ w = w' := by
  go_enter Tryz.func55, Tryz.ntmps55
  go_wp2_with fail
  refine (described_nil d w).mono ?_
  rintro e w1 ⟨rfl, rfl⟩
  go_wp2
  go_ret2
  exact ⟨rfl, rfl⟩
set_option maxRecDepth 100000 in
set_option maxHeartbeats 1000000 in
theorem kseek_nil (d o h : Int) (w : World) : Calls Tryz.prog 58 #[.pointer none, .int .i64 d, .int .i64 o, .int .i64 h] w fun e w' => e = .returned (.tuple #[.int .i64 0, .int .i64 2]) ∧ w = w' := by
  go_enter Tryz.func58, Tryz.ntmps58
  go_wp2_with fail
  refine (described_nil d w).mono ?_
  rintro e w1 ⟨rfl, rfl⟩
  go_wp2
  go_ret2
  exact ⟨rfl, rfl⟩
set_option maxRecDepth 100000 in
theorem hread_nil (d n : Int) (w : World) : Calls Tryz.prog 223 #[.agg #[.pointer none, .int .i64 d], .int .i64 n] w fun e w' => e = .returned (.tuple #[.slice none 0 0, .int .i64 2]) ∧ Below w.heap.size w w' := by
  have hB := recv_below w (Obj.cells #[.pointer none, .int .i64 d] 70)
  go_enter Tryz.func223, Tryz.ntmps223
  go_wp2_with fail
  refine (kread_nil d n _).mono ?_
  rintro e w1 ⟨rfl, rfl⟩
  go_wp2
  go_ret2
  exact ⟨rfl, hB⟩
set_option maxRecDepth 100000 in
theorem hwrite_nil (d : Int) (a : Option Addr) (n c : Nat) (w : World) : Calls Tryz.prog 225 #[.agg #[.pointer none, .int .i64 d], .slice a n c] w fun e w' => e = .returned (.tuple #[.int .i64 0, .int .i64 2]) ∧ Below w.heap.size w w' := by
  have hB := recv_below w (Obj.cells #[.pointer none, .int .i64 d] 70)
  go_enter Tryz.func225, Tryz.ntmps225
  go_wp2_with fail
  refine (kwrite_nil d a n c _).mono ?_
  rintro e w1 ⟨rfl, rfl⟩
  go_wp2
  go_ret2
  exact ⟨rfl, hB⟩
/-- A step behind blocks that are new. -/
theorem KStep.behind {w w1 w' : World} {O : Nat → Prop} {kb : Nat} {K : KS} (h : KStep w1 O kb K w') (hB : Below w.heap.size w w1) : KStep w O kb K w' := by
  obtain ⟨O', h1, h2, h3⟩ := h
  exact ⟨O', h1, fun k e => (h2 k e).imp id (fun e => Nat.le_trans hB.size e), (Turned.of_below hB).trans h3 (fun _ _ e => e)⟩
set_option maxRecDepth 100000 in
theorem KAt.hread {w : World} {O : Nat → Prop} {kb : Nat} {K : KS} (h : KAt w O kb K) (d n : Int) (hd : I64 d) (hr : K.reads < 9223372036854775807) :
    Calls Tryz.prog 223 #[.agg #[.pointer (some ⟨kb, 0, none⟩), .int .i64 d], .int .i64 n] w fun e w' => ∃ v, e = .returned (.tuple #[v, .int .i64 (K.read d n).2.1]) ∧ w'.ownsRow w.heap.size 5 1 v (K.read d n).1.length ((K.read d n).1.map bv) ∧ KStep w O kb (K.read d n).2.2 w' := by
  have hB := recv_below w (Obj.cells #[.pointer (some ⟨kb, 0, none⟩), .int .i64 d] 70)
  have HR := hide ((h.below hB).read d n hd hr)
  have HB := hide hB
  clear h hB
  go_enter Tryz.func223, Tryz.ntmps223
  go_wp2_with fail
  refine HR.out.mono ?_
  rintro e w1 ⟨v, rfl, h1, h2, h3⟩
  have HS : Hid (KStep w O kb (K.read d n).2.2 w1) := hide (KStep.behind ⟨O, h2, fun _ e => .inl e, h3⟩ HB.out)
  have HO := hide (owns_mono h1 HB.out.size)
  clear h1 h2 h3
  go_wp2
  go_ret2
  exact ⟨v, rfl, HO.out, HS.out⟩
set_option maxRecDepth 100000 in
theorem KAt.hwrite {w : World} {O : Nat → Prop} {kb : Nat} {K : KS} (h : KAt w O kb K) (d : Int) (bs : List UInt8) (a1 : Option Addr) (cx : Nat) (hd : I64 d) (hr : K.writes < 9223372036854775807)
    (hb : Bys w (.slice a1 bs.length cx) bs) (hcap : bs.length ≤ cx) (hbig : bs.length ≤ 9223372036854775807) (hap : 0 < bs.length → ∀ k, (Value.slice a1 bs.length cx).ownBlock = some k → ¬ O k) :
    Calls Tryz.prog 225 #[.agg #[.pointer (some ⟨kb, 0, none⟩), .int .i64 d], .slice a1 bs.length cx] w fun e w' => e = .returned (.tuple #[.int .i64 (K.write d bs).1, .int .i64 (K.write d bs).2.1]) ∧ KStep w O kb (K.write d bs).2.2 w' := by
  have hB := recv_below w (Obj.cells #[.pointer (some ⟨kb, 0, none⟩), .int .i64 d] 70)
  have HR := hide ((h.below hB).write d bs a1 cx hd hr (hb.below hB) hcap hbig hap)
  have HB := hide hB
  clear h hB hb hap
  go_enter Tryz.func225, Tryz.ntmps225
  go_wp2_with fail
  refine HR.out.mono ?_
  rintro e w1 ⟨rfl, h1⟩
  have HS := hide (h1.behind HB.out)
  clear h1
  go_wp2
  go_ret2
  exact ⟨rfl, HS.out⟩
theorem KAt.rstep {w w' : World} {O : Nat → Prop} {kb : Nat} {K' : KS} (h : KAt w' O kb K') (hT : Turned O w w') : KStep w O kb K' w' := ⟨O, h, fun _ e => .inl e, hT⟩
/-- Two kernels that share nothing, from a base on. -/
def Two (W : World) (B kb mb : Nat) (K M : KS) : Prop := ∃ O P, KAt W O kb K ∧ KAt W P mb M ∧ (∀ j, O j → B ≤ j ∧ j < W.heap.size ∧ ¬ P j) ∧ ∀ j, P j → B ≤ j ∧ j < W.heap.size
theorem Two.swap {W : World} {B kb mb : Nat} {K M : KS} (h : Two W B kb mb K M) : Two W B mb kb M K := by
  obtain ⟨O, P, h1, h2, h3, h4⟩ := h
  exact ⟨P, O, h2, h1, fun j e => ⟨(h4 j e).1, (h4 j e).2, fun e' => (h3 j e').2.2 e⟩, fun j e => ⟨(h3 j e).1, (h3 j e).2.1⟩⟩
theorem Two.below {W W' : World} {B kb mb : Nat} {K M : KS} (h : Two W B kb mb K M) (hB : Below W.heap.size W W') : Two W' B kb mb K M := by
  obtain ⟨O, P, h1, h2, h3, h4⟩ := h
  exact ⟨O, P, h1.below hB, h2.below hB, fun j e => ⟨(h3 j e).1, Nat.lt_of_lt_of_le (h3 j e).2.1 hB.size, (h3 j e).2.2⟩, fun j e => ⟨(h4 j e).1, Nat.lt_of_lt_of_le (h4 j e).2 hB.size⟩⟩
/-- Both, and what a step of the one, and then of the other, leaves. -/
theorem Two.both {wr : World} {B kb mb : Nat} {K M : KS} (h : Two wr B kb mb K M) (hB : B ≤ wr.heap.size) :
    ∃ O P, KAt wr O kb K ∧ KAt wr P mb M ∧ (∀ j, O j → B ≤ j ∧ j < wr.heap.size) ∧ (∀ j, P j → B ≤ j ∧ j < wr.heap.size) ∧
      ∀ wb, Below wr.heap.size wr wb → ∀ K' w6, KStep wb O kb K' w6 → KAt w6 P mb M ∧ ∀ M' w7, KStep w6 P mb M' w7 → Two w7 B kb mb K' M' ∧ Below B wr w7 := by
  obtain ⟨O, P, h1, h2, h3, h4⟩ := h
  refine ⟨O, P, h1, h2, fun j e => ⟨(h3 j e).1, (h3 j e).2.1⟩, h4, fun wb hb K' w6 hS => ?_⟩
  obtain ⟨O', g1, g2, g3⟩ := hS
  have hsb := hb.size
  have hm : KAt w6 P mb M := (h2.below hb).keep (fun j e hl => g3.block j hl (fun e' => (h3 j e').2.2 e)) g3.size
  refine ⟨hm, fun M' w7 hS7 => ?_⟩
  obtain ⟨P', f1, f2, f3⟩ := hS7
  have hz6 := g3.size
  have hz7 := f3.size
  have g1' := g1.trim
  refine ⟨⟨fun k => O' k ∧ k < w6.heap.size, fun k => P' k ∧ k < w7.heap.size, g1'.keep (fun j e hl => f3.block j hl (fun e' => ?_)) hz7, f1.trim, fun j e => ⟨?_, Nat.lt_of_lt_of_le e.2 hz7, fun e' => ?_⟩, fun j e => ⟨?_, e.2⟩⟩, (hb.mono hB).trans ((g3.below (fun j e => (h3 j e).1) (Nat.le_trans hB hsb)).trans (f3.below (fun j e => (h4 j e).1) (Nat.le_trans hB (Nat.le_trans hsb hz6))))⟩
  · rcases g2 j e.1 with e1 | e1
    · exact (h3 j e1).2.2 e'
    · have := (h4 j e').2; omega
  · rcases g2 j e.1 with e1 | e1
    · exact (h3 j e1).1
    · omega
  · rcases f2 j e'.1 with e2 | e2
    · rcases g2 j e.1 with e1 | e1
      · exact (h3 j e1).2.2 e2
      · have := (h4 j e2).2; omega
    · have := e.2; omega
  · rcases f2 j e.1 with e2 | e2
    · exact (h4 j e2).1
    · omega
theorem six_cells (w : World) (a b c d e f : Value) (t : TypeId) : (w.alloc (Obj.cells #[a, b, c, d, e, f] t)).cell? ⟨w.heap.size, 1, none⟩ = some b ∧ (w.alloc (Obj.cells #[a, b, c, d, e, f] t)).cell? ⟨w.heap.size, 2, none⟩ = some c ∧ (w.alloc (Obj.cells #[a, b, c, d, e, f] t)).cell? ⟨w.heap.size, 3, none⟩ = some d ∧ (w.alloc (Obj.cells #[a, b, c, d, e, f] t)).cell? ⟨w.heap.size, 4, none⟩ = some e ∧ (w.alloc (Obj.cells #[a, b, c, d, e, f] t)).cell? ⟨w.heap.size, 5, none⟩ = some f := by
  refine ⟨?_, ?_, ?_, ?_, ?_⟩ <;> (simp only [World.cell?, heap_alloc_new]; rfl)
theorem cell_keep {O : Nat → Prop} {w w' : World} {g j : Nat} {v : Value} (hT : Turned O w w') (h : w.cell? ⟨g, j, none⟩ = some v) (hO : ¬ O g) : w'.cell? ⟨g, j, none⟩ = some v :=
  (World.cell?_of_block (w := w) (a := ⟨g, j, none⟩) (hT.block g (World.block_lt_of_cell? w _ h) hO)).trans h
theorem KStep.turned {w w' : World} {O : Nat → Prop} {kb : Nat} {K : KS} (h : KStep w O kb K w') : Turned O w w' := by
  obtain ⟨_, _, _, h3⟩ := h
  exact h3
theorem KAt.files_ok {w : World} {O : Nat → Prop} {kb : Nat} {K : KS} (h : KAt w O kb K) : K.files.length ≤ 256 ∧ ∀ j (hj : j < K.files.length), K.files[j].2.length ≤ 1048576 ∧ K.files[j].1.size ≤ maxLen := by
  obtain ⟨ρ, I, h1, _, _⟩ := h
  refine ⟨?_, fun j hj => ?_⟩
  · have := h1.ok.named
    have h4 : K.files.length ≤ K.nm.length := by unfold KS.files KS.fidx; simpa using List.length_filter_le _ _
    omega
  · obtain ⟨i, L, hm, hi, ho, _, hf⟩ := file_at h1.ok (k := j) (by simpa [fnames, KS.files] using hj)
    rw [(List.getElem?_eq_some_iff.1 hf).2]
    have := h1.comp (.obj i) hi
    rw [← KS.obOf_eq hi, ho] at this
    exact ⟨this.1, by have := name_few (h1.nm.ok i hm); unfold maxLen; show (K.nameOf i).size ≤ _; omega⟩
theorem kle_seek (K : KS) (d o h : Int) : KLe K (K.seek d o h).2.2 := by
  unfold KS.seek
  repeat' split
  all_goals first
    | exact KLe.refl K
    | exact ⟨Nat.le_add_right K.next 2, Nat.le_add_right K.reads 1, Nat.le_add_right K.writes 1⟩
theorem bys_none {W W' : World} {v : Value} {l : List UInt8} (h : Bys W v l) (h0 : ¬ 0 < l.length) : Bys W' v l := by
  rcases h with h | h | ⟨_, _, _, _, h, _⟩
  · exact .inl h
  · exact .inr (.inl h)
  · exact absurd h h0
theorem read_few {w : World} {O : Nat → Prop} {kb : Nat} {K : KS} (h : KAt w O kb K) (d n : Int) : (K.read d n).1.length ≤ 1048576 := by
  obtain ⟨ρ, I, h1, _, _⟩ := h
  have ok : ∀ x, K.find d = some x → (K.tho x).ok := fun x hx => by
    have hi := h1.ok.th x (KS.find_some hx).1
    have := (h1.comp (.obj x.th) hi).ok
    rw [KS.tho_eq hi]
    exact this
  unfold KS.read
  split
  · simp
  · rename_i x hx
    have hk := ok x hx
    split
    · simp
    split
    · simp
    split
    · simp
    split
    · simp
    split
    · revert hk
      cases K.tho x with
      | file b => intro hk; simp only [piece_len]; have : b.length ≤ 1048576 := hk; omega
      | term ls scr =>
        intro hk
        simp only [rdH]
        split
        · cases ls with
          | nil => simp [headL]
          | cons l r =>
            have := hk.2.1 0 (by simp)
            simp only [List.getElem_cons_zero] at this
            simp only [headL, List.length_take]
            omega
        · simp
      | pipe q rd wt => intro hk; have : q.length ≤ 4096 := hk.1; simp only [rdB]; split <;> simp <;> omega
    · simp
end Go.Proofs.YtkkicbhmcjbmbaaGreat

/- The reference of file: within, Piece, Lay. -/
namespace Go.Proofs.YtkkicbhmcjbmbaaGreat
open Go.RowKit

theorem owns_len {W : World} {base e n : Nat} {v : Value} {xs : List Value} (h : W.ownsRow base e 1 v n xs) : W.ownsRow base e 1 v xs.length xs := by
  have := h.1
  rw [show xs.length = n by omega]
  exact h

set_option maxHeartbeats 1000000 in
theorem within_any (n : Int) (w : World) :
    Calls Tryz.prog 175 #[.int .i64 n] w fun e w' => e = .returned (.bool (inR n)) ∧ w' = w := by
  rcases (show n < 0 ∨ 1048576 < n ∨ (0 ≤ n ∧ n ≤ 1048576) by omega) with hx | hx | ⟨hx1, hx2⟩
  · rw [inR_no (by omega)]
    have hd : decide (0 ≤ n) = false := by simp; omega
    go_enter Tryz.func175, Tryz.ntmps175
    go_wp2
    go_ret
    exact ⟨rfl, rfl⟩
  · rw [inR_no (by omega)]
    have hd : decide (0 ≤ n) = true := by simp; omega
    have hd2 : decide (n ≤ 1048576) = false := by simp; omega
    go_enter Tryz.func175, Tryz.ntmps175
    go_wp2
    go_ret
    exact ⟨rfl, rfl⟩
  · rw [inR_yes (by omega) (by omega)]
    go_enter Tryz.func175, Tryz.ntmps175
    go_wp2
    go_ret
    exact ⟨rfl, rfl⟩

set_option maxRecDepth 100000 in
set_option maxHeartbeats 1000000 in
theorem piece_any (base : Nat) (u : Value) (l : List UInt8) (off n : Nat) (w : World) (h : w.ownsRow base 5 1 u l.length (l.map bv)) (hl : l.length ≤ 1048576) (ho : off ≤ 1048576) (hn : n ≤ 1048576) :
    Calls Tryz.prog 141 #[u, .int .i64 off, .int .i64 n] w fun e w' => ∃ v', e = .returned v' ∧ w'.ownsRow w.heap.size 5 1 v' (piece l off n).length ((piece l off n).map bv) ∧ Below w.heap.size w w' := by
  obtain ⟨i0, hi, hz0, hz1, hz2⟩ := info_parts Tryz.infoB
  by_cases hlt : off < l.length
  · obtain ⟨g, cap, rfl, hbg, hgl⟩ := h.form (by omega)
    have HR := hide (RowAt.of_owns h)
    have hcap := HR.out.len
    clear h
    have hd : decide ((l.length : Int) ≤ (off : Int)) = false := by simp; omega
    have HX : Hid (∀ j v, ((piece l off n).map bv)[j]? = some v → w.cell? ((⟨g, off, none⟩ : Addr).add j) = some v) := hide fun j v hj => by
      have hb := piece_bys HR.out off n off _ 0 rfl (.inr rfl)
      rcases hb with ⟨h0, _⟩ | ⟨a, c, h0, h1⟩ | ⟨b, o, c, h0, h1, h2⟩
      · cases h0
      · rw [h1] at hj; simp at hj
      · simp only [Value.slice.injEq, Option.some.injEq, Addr.mk.injEq] at h0
        obtain ⟨⟨rfl, rfl, -⟩, -, -⟩ := h0
        exact bys_news h2 j v hj
    have hpl := piece_len l off n
    have H1 := hide (bys_one (piece l off n))
    obtain ⟨X, hX⟩ : ∃ X, X = (piece l off n).map bv := ⟨_, rfl⟩
    have hXl : X.length = (piece l off n).length := by rw [hX]; simp
    rw [← hX] at HX H1
    have HE := hide hX
    have HPL := hide hpl
    have HXL := hide hXl
    clear hX hpl hXl
    have k1 : ¬ cap = off := by omega
    have k2 : (off : Int) < (cap : Int) := by omega
    by_cases hnn : n < l.length - off
    · go_enter Tryz.func141, Tryz.ntmps141
      go_wp2_with (at_builtin; refine wpList_append_own _ rfl _ _ 40 rfl w.heap.size 5 i0 (.int .u8 0) 1 1 Tryz.underlying40 hi hz0 hz1 hz2 rfl (by decide) _ _ _ rfl (World.ownsRow_nil _ _ _ _) ⟨g, off, none⟩ _ _ X rfl (by have := HPL.out; have := HXL.out; omega) HX.out H1.out (by unfold maxLen; omega) (by omega) (Nat.le_refl _) ?_; intro v' w1 hown hgrow hnil)
      all_goals
        go_ret
        refine ⟨v', rfl, ?_, (Below.refl _ _).grown hgrow (Nat.le_refl _) (fun j e => by cases e)⟩
        have h2 := owns_len hown
        rw [List.nil_append] at h2
        rw [← HE.out, ← HXL.out]
        exact h2
    · go_enter Tryz.func141, Tryz.ntmps141
      go_wp2_with (at_builtin; refine wpList_append_own _ rfl _ _ 40 rfl w.heap.size 5 i0 (.int .u8 0) 1 1 Tryz.underlying40 hi hz0 hz1 hz2 rfl (by decide) _ _ _ rfl (World.ownsRow_nil _ _ _ _) ⟨g, off, none⟩ _ _ X rfl (by have := HPL.out; have := HXL.out; omega) HX.out H1.out (by unfold maxLen; omega) (by omega) (Nat.le_refl _) ?_; intro v' w1 hown hgrow hnil)
      all_goals
        go_ret
        refine ⟨v', rfl, ?_, (Below.refl _ _).grown hgrow (Nat.le_refl _) (fun j e => by cases e)⟩
        have h2 := owns_len hown
        rw [List.nil_append] at h2
        rw [← HE.out, ← HXL.out]
        exact h2
  · have hp : piece l off n = [] := List.length_eq_zero_iff.1 (by rw [piece_len]; omega)
    rw [hp]
    obtain ⟨a, c, rfl⟩ := owns_slice h
    clear h
    have hd : decide ((l.length : Int) ≤ (off : Int)) = true := by simp; omega
    go_enter Tryz.func141, Tryz.ntmps141
    go_wp2
    all_goals first
      | (exfalso; omega)
      | (go_ret; exact ⟨_, rfl, World.ownsRow_nil _ _ _ _, Below.refl _ _⟩)

/-- Bytes laid one by one. -/
def rlay (l : List UInt8) (off : Nat) (x : List UInt8) : List UInt8 := (grow l off).take off ++ (x ++ (grow l off).drop (off + x.length))
theorem rlay_len (l : List UInt8) (off : Nat) (x : List UInt8) : (rlay l off x).length = max (max l.length off) (off + x.length) := by
  have := grow_len l off
  simp only [rlay, List.length_append, List.length_take, List.length_drop]
  omega
theorem rlay_nil (l : List UInt8) (off : Nat) : rlay l off [] = grow l off := by simp [rlay]
theorem grow_drop (l : List UInt8) (n m : Nat) (h : n ≤ m) : (grow l n).drop m = l.drop m := by
  by_cases hn : n ≤ l.length
  · rw [grow_no hn]
  · rw [List.drop_of_length_le (by rw [grow_len]; omega), List.drop_of_length_le (by omega)]
theorem grow_take (l : List UInt8) (n m : Nat) (h : m ≤ n) : (grow l n).take m = (grow l m).take m := by
  apply List.ext_getElem?
  intro j
  rw [List.getElem?_take, List.getElem?_take]
  split
  · rename_i hj
    simp only [grow]
    by_cases hl : j < l.length
    · rw [List.getElem?_append_left hl, List.getElem?_append_left hl]
    · rw [List.getElem?_append_right (by omega), List.getElem?_append_right (by omega), List.getElem?_replicate, List.getElem?_replicate, if_pos (by omega), if_pos (by omega)]
  · rfl
theorem lay_rlay (l : List UInt8) (off : Nat) (x : List UInt8) (h : x ≠ []) : lay l off x = rlay l off x := by
  rw [lay, if_neg h, rlay, grow_take l _ off (by omega), grow_drop _ _ _ (Nat.le_refl _), grow_drop _ _ _ (by omega)]
theorem trunc_rlay (l : List UInt8) (n : Nat) : trunc l n = rlay (l.take n) n [] := by rw [rlay_nil, trunc]
theorem grow_succ (l : List UInt8) (n : Nat) (h : l.length ≤ n) : grow l n ++ [0] = grow l (n + 1) := by
  simp only [grow]
  rw [show n + 1 - l.length = (n - l.length) + 1 by omega, List.replicate_succ', List.append_assoc]
theorem rlay_step (l : List UInt8) (off : Nat) (x : List UInt8) (k : Nat) (hk : k < x.length) (h1 : off + k < (rlay l off (x.take k)).length) : (rlay l off (x.take k)).set (off + k) x[k] = rlay l off (x.take (k + 1)) := by
  have hg := grow_len l off
  have hl := rlay_len l off (x.take k)
  have hl2 := rlay_len l off (x.take (k + 1))
  simp only [List.length_take] at hl hl2
  have hpre : ((grow l off).take off).length = off := by rw [List.length_take]; omega
  have hk' : (x.take k).length = k := by simp; omega
  have hk2 : (x.take (k + 1)).length = k + 1 := by simp; omega
  have hlt : off + k < (grow l off).length := by omega
  rw [rlay, rlay, hk', hk2, List.drop_eq_getElem_cons hlt, List.set_append_right _ _ (by omega), hpre, List.set_append_right _ _ (by omega), hk', Nat.add_sub_cancel_left, Nat.sub_self, List.set_cons_zero, List.take_succ_eq_append_getElem hk, List.append_assoc, Nat.add_assoc]
  rfl
theorem rlay_more (l : List UInt8) (off : Nat) (x : List UInt8) (k : Nat) (hk : k < x.length) (h1 : (rlay l off (x.take k)).length = off + k) : rlay l off (x.take k) ++ [x[k]] = rlay l off (x.take (k + 1)) := by
  have hl := rlay_len l off (x.take k)
  simp only [List.length_take] at hl
  have hg := grow_len l off
  rw [rlay, rlay, List.drop_of_length_le (by simp; omega), List.drop_of_length_le (by simp; omega), List.append_nil, List.append_nil, List.append_assoc, ← List.take_succ_eq_append_getElem hk]

theorem lay_turn {S : Nat → Prop} {w wr w1 : World} {o : Obj} {vb : Option Nat} (hT : Turned S w wr) (hg : (wr.alloc o).grownBy w1 vb) (hv : ∀ k, vb = some k → S k ∨ w.heap.size ≤ k) : Turned S w w1 := by
  refine hT.trans (S' := fun k => vb = some k) ⟨hg.os, hg.tape, hg.output, Nat.le_trans (by simp) hg.size, fun k hk hn => ?_⟩ (fun k hk e => (hv k e).resolve_right (by omega))
  exact (hg.block k (by simp; omega) (fun e => hn e.symm)).trans (Below.heap_alloc _ _ _ hk)
theorem map_set_bv (l : List UInt8) (j : Nat) (c : UInt8) : (l.map bv).set j (bv c) = (l.set j c).map bv := by rw [List.map_set]
theorem set_turn {S : Nat → Prop} {w wr : World} {g j : Nat} {u : Value} (hT : Turned S w wr) (hg : S g ∨ w.heap.size ≤ g) : Turned S w (wr.setCell ⟨g, j, none⟩ u) := by
  refine hT.trans (S' := fun k => k = g) ⟨rfl, rfl, rfl, by simp [World.setCell], fun k hk hn => Below.heap_setCell _ _ _ _ hn⟩ (fun k hk e => by subst e; exact hg.resolve_right (by omega))

set_option maxRecDepth 100000 in
set_option maxHeartbeats 2000000 in
theorem lay_any (base : Nat) (u vx : Value) (l x : List UInt8) (off : Nat) (w : World) (h : w.ownsRow base 5 1 u l.length (l.map bv)) (hx : Bys w vx x) (hux : 0 < x.length → ∀ k, vx.ownBlock = some k → u.ownBlock ≠ some k) (hl : l.length ≤ 1048576) (ho : off + x.length ≤ 1048576) (hb : base ≤ w.heap.size) :
    Calls Tryz.prog 171 #[u, .int .i64 off, vx] w fun e w' => ∃ u', e = .returned u' ∧ w'.ownsRow base 5 1 u' (rlay l off x).length ((rlay l off x).map bv) ∧ (∀ k, u'.ownBlock = some k → u.ownBlock = some k ∨ w.heap.size ≤ k) ∧ Turned (fun k => u.ownBlock = some k) w w' := by
  obtain ⟨i0, hi, hz0, hz1, hz2⟩ := info_parts Tryz.infoB
  have HX := hide hx
  have HU := hide hux
  have HO := hide h
  obtain ⟨a1, c1, rfl, -⟩ := bys_form hx
  obtain ⟨ua, uc, rfl⟩ := owns_slice h
  clear h hx hux
  go_enter Tryz.func171, Tryz.ntmps171
  go_wp2
  go_loopw [0] (fun v wr => ∃ m : List UInt8, Hid (m = l ∨ ∃ n, m = grow l n ∧ l.length ≤ n ∧ n ≤ off) ∧ m.length ≤ 1048576 ∧ wr.ownsRow base 5 1 v m.length (m.map bv) ∧ Hid (∀ k, v.ownBlock = some k → (Value.slice ua l.length uc).ownBlock = some k ∨ w.heap.size ≤ k) ∧ Turned (fun k => (Value.slice ua l.length uc).ownBlock = some k) w wr) (fun v _ => match v with | .slice _ n _ => off - n | _ => 0)
  case atStart => exact ⟨l, .inl rfl, hl, HO.out, fun k hk => .inl hk, Turned.refl _ _⟩
  case round =>
    clear HO
    obtain ⟨m, HM, hml, hown, HV, hT⟩ := hrel
    obtain ⟨va, vc, rfl⟩ := owns_slice hown
    have HO := hide hown
    have HT := hide hT
    have hsz := hT.size
    clear hown hT
    by_cases hlt : m.length < off
    · go_wp2_with (at_builtin; refine wpList_append_lies _ rfl _ _ 40 rfl base 5 i0 (.int .u8 0) 1 1 Tryz.underlying40 hi hz0 hz1 hz2 rfl (by decide) _ _ _ rfl (HO.out.alloc _) ⟨wr.heap.size, 0, none⟩ 1 1 [.int .u8 0] rfl rfl (cell_one_new _ _ _) (by simp [Value.oneCell']) (by decide) (by unfold maxLen; omega) (by omega) (by simp; omega) (wr.heap.size + 1) (by simp) ?_; intro g1 cap1 w1 hown1 hgrow1 hg1 hg2)
      go_roundw
      case rel =>
        have hv := HV.out
        refine ⟨m ++ [0], hide ?_, by simp; omega, by simpa [bv] using hown1, hide ?_, lay_turn HT.out hgrow1 (fun k e => hv k e)⟩
        · rcases HM.out with rfl | ⟨n, rfl, h1, h2⟩
          · exact .inr ⟨m.length + 1, by rw [← grow_succ _ _ (Nat.le_refl _), grow_no (Nat.le_refl _)], by omega, by omega⟩
          · rw [grow_len] at hlt
            exact .inr ⟨n + 1, grow_succ _ _ h1, by omega, by omega⟩
        · intro k hk
          obtain rfl : g1 = k := by simpa [Value.ownBlock] using hk
          rcases hg1 with h | h
          · exact hv _ h
          · right; omega
      case measure => simp; omega
    · have hme : m = grow l off := by
        rcases HM.out with rfl | ⟨n, rfl, h1, h2⟩
        · rw [grow_no (by omega)]
        · rw [grow_len] at hlt
          rw [show n = off by omega]
      have HE := hide hme
      clear hme HM
      go_wp2
      go_loopw [0, 7] (fun v i wr => ∃ k : Nat, k ≤ x.length ∧ i = .int .i64 k ∧ wr.ownsRow base 5 1 v (rlay l off (x.take k)).length ((rlay l off (x.take k)).map bv) ∧ Hid (∀ k, v.ownBlock = some k → (Value.slice ua l.length uc).ownBlock = some k ∨ w.heap.size ≤ k) ∧ Turned (fun k => (Value.slice ua l.length uc).ownBlock = some k) w wr) (fun _ i _ => x.length - (intOf i).toNat)
      case atStart => exact ⟨0, Nat.zero_le _, rfl, by rw [List.take_zero, rlay_nil, ← HE.out]; exact HO.out, HV, HT.out⟩
      case round =>
        clear HO HT HV HE hsz
        obtain ⟨k, hk, rfl, hown, HV, hT⟩ := hrel
        have hsz := hT.size
        have hrl := rlay_len l off (x.take k)
        have hk' : (x.take k).length = k := by simp; omega
        rw [hk'] at hrl
        have HE : Hid (k = x.length → rlay l off (x.take k) = rlay l off x) := hide fun e => by rw [e, List.take_length]
        have HS : Hid (∀ hlt : k < x.length, off + k < (rlay l off (x.take k)).length → (rlay l off (x.take k)).set (off + k) x[k] = rlay l off (x.take (k + 1))) := hide fun hlt => rlay_step l off x k hlt
        have HM : Hid (∀ hlt : k < x.length, (rlay l off (x.take k)).length = off + k → rlay l off (x.take k) ++ [x[k]] = rlay l off (x.take (k + 1))) := hide fun hlt => rlay_more l off x k hlt
        generalize rlay l off (x.take k) = L at *
        have hLb : L.length ≤ 1048576 := by omega
        have hLo : off + k ≤ L.length := by omega
        clear hrl hk'
        obtain ⟨va, vc, rfl⟩ := owns_slice hown
        have HT := hide hT
        by_cases hlt : k < x.length
        · have g1 : ∃ b o, a1 = some ⟨b, o, none⟩ ∧ wr.cell? ⟨b, o + k, none⟩ = some (.int .u8 (x[k].toNat : Int)) := by
            obtain ⟨a', c', he, hc⟩ := bys_form HX.out
            cases he
            obtain ⟨b, o, rfl, hd⟩ := hc (by omega)
            refine ⟨b, o, rfl, ?_⟩
            have h1 := hd k hlt
            have h2 := World.block_lt_of_cell? w _ h1
            have h3 := (World.cell?_of_block (w := w) (a := ⟨b, o + k, none⟩) (hT.block b h2 (HU.out (by omega) b rfl))).trans h1
            rw [h3, List.getD_eq_getElem?_getD, List.getElem?_eq_getElem hlt]
            rfl
          obtain ⟨bx, ox, rfl, g1⟩ := g1
          have hk1 : (0 : Int) ≤ (k : Int) := by omega
          have hk2 : (k : Int) < (x.length : Int) := by omega
          have HS' := hide (HS.out hlt)
          have HM' := hide (HM.out hlt)
          clear hT HS HM HE
          generalize x[k] = c at *
          by_cases hin : off + k < L.length
          · obtain ⟨g, cap, he, hbg, hgl⟩ := hown.form (by omega)
            cases he
            have HO := hide hown
            have hc := hown.cellAt (off + k) (by omega)
            have hf := hown.frozenAt (off + k)
            rw [List.getElem?_eq_getElem (by simpa using hin)] at hc
            generalize (L.map bv)[off + k]'(by simpa using hin) = old at hc
            have hin1 : (off : Int) + (k : Int) < (L.length : Int) := by omega
            have hin0 : (0 : Int) ≤ (off : Int) + (k : Int) := by omega
            clear hown
            go_wp2
            go_roundw
            case rel =>
              obtain ⟨hst, hgr⟩ := HO.out.stored (off + k) (bv c)
              refine ⟨k + 1, by omega, by go_num, ?_, HV, set_turn HT.out (HV.out g rfl)⟩
              have e1 := HS'.out hin
              rw [map_set_bv] at hst
              rw [← e1, List.length_set]
              exact hst
            case measure => simp [intOf]; omega
          · have HO := hide hown
            clear hown
            go_wp2_with (at_builtin; refine wpList_append_lies _ rfl _ _ 40 rfl base 5 i0 (.int .u8 0) 1 1 Tryz.underlying40 hi hz0 hz1 hz2 rfl (by decide) _ _ _ rfl (HO.out.alloc _) ⟨wr.heap.size, 0, none⟩ 1 1 [.int .u8 (c.toNat : Int)] rfl rfl (cell_one_new _ _ _) (by simp [Value.oneCell']) (by decide) (by unfold maxLen; omega) (by omega) (by simp; omega) (wr.heap.size + 1) (by simp) ?_; intro g1 cap1 w1 hown1 hgrow1 hg1 hg2)
            go_roundw
            case rel =>
              have hv := HV.out
              refine ⟨k + 1, by omega, by go_num, ?_, hide ?_, lay_turn HT.out hgrow1 (fun k e => hv k e)⟩
              · rw [← HM'.out (by omega)]
                simpa [bv] using hown1
              · intro k hk
                obtain rfl : g1 = k := by simpa [Value.ownBlock] using hk
                rcases hg1 with h | h
                · exact hv _ h
                · right; omega
            case measure => simp [intOf]; omega
        · have HO := hide hown
          clear hown hT
          go_wp2
          go_ret
          have e1 := HE.out (by omega)
          rw [e1] at HO HV
          rw [e1]
          exact ⟨_, rfl, HO.out, HV.out, HT.out⟩
end Go.Proofs.YtkkicbhmcjbmbaaGreat

/- The reference's file: New, ReadAt, WriteAt, Truncate. -/
namespace Go.Proofs.YtkkicbhmcjbmbaaGreat
open Go.RowKit

/-- Block r is the reference's file of the bytes l. -/
structure RFileAt (W : World) (base r : Nat) (u : Value) (l : List UInt8) : Prop where
  data : W.cell? ⟨r, 0, none⟩ = some u
  soft : W.frozen? ⟨r, 0, none⟩ = false
  row : W.ownsRow base 5 1 u l.length (l.map bv)
  apart : u.ownBlock ≠ some r
theorem RFileAt.lt {W : World} {base r : Nat} {u : Value} {l : List UInt8} (h : RFileAt W base r u l) : r < W.heap.size := World.block_lt_of_cell? W _ h.data
theorem RFileAt.keep {W W' : World} {base r : Nat} {u : Value} {l : List UInt8} (h : RFileAt W base r u l) (hB : ∀ k, k < W.heap.size → k = r ∨ u.ownBlock = some k → W'.heap[k]? = W.heap[k]?) : RFileAt W' base r u l :=
  ⟨(World.cell?_of_block (w := W) (hB r h.lt (.inl rfl))).trans h.data, (World.frozen?_of_block (w := W) (hB r h.lt (.inl rfl))).trans h.soft, owns_keep h.row fun k hk => hB k (h.row.lt k hk).2 (.inr hk), h.apart⟩
theorem RFileAt.below {W W' : World} {base r : Nat} {u : Value} {l : List UInt8} (h : RFileAt W base r u l) (hB : Below W.heap.size W W') : RFileAt W' base r u l :=
  h.keep fun k hk _ => hB.block k hk

set_option maxRecDepth 100000 in
set_option maxHeartbeats 1000000 in
theorem Fi_rnew_bad (v : Value) (l : List UInt8) (w : World) (h : Bys w v l) (hl : 1048576 < l.length) :
    Calls Tryz.prog 117 #[v] w fun e w' => e = .returned (.tuple #[.pointer none, .int .i64 5]) ∧ w' = w := by
  obtain ⟨a1, c1, rfl, -⟩ := bys_form h
  clear h
  have hd : decide ((1048576 : Int) < (l.length : Int)) = true := by simp; omega
  go_enter Tryz.func117, Tryz.ntmps117
  go_wp2
  all_goals first
    | (exfalso; omega)
    | (go_ret2; exact ⟨rfl, rfl⟩)

/-- What stands behind 'f.B = append(f.B, b...)'. -/
theorem rnew_file {w w1 : World} {u : Value} {l : List UInt8} (hown : w1.ownsRow (w.heap.size + 1) 5 1 u l.length (l.map bv)) (hg : (w.alloc (Obj.cells #[Value.slice none 0 0] 189)).grownBy w1 none) :
    RFileAt (w1.setCell ⟨w.heap.size, 0, none⟩ u) (w.heap.size + 1) w.heap.size u l ∧ Below w.heap.size w (w1.setCell ⟨w.heap.size, 0, none⟩ u) := by
  have hsz := size_new w (Obj.cells #[Value.slice none 0 0] 189)
  have hgg := hg.block w.heap.size hsz (by simp)
  have hB : Below w.heap.size w w1 := ((Below.refl _ _).alloc (Nat.le_refl _) _).grown hg (Nat.le_of_lt hsz) (fun k e => by cases e)
  have hc : w1.cell? ⟨w.heap.size, 0, none⟩ = some (.slice none 0 0) := by
    rw [World.cell?_of_block (w := w.alloc (Obj.cells #[Value.slice none 0 0] 189)) hgg]
    simp only [World.cell?, heap_alloc_new]; rfl
  have hap : u.ownBlock ≠ some w.heap.size := fun e => by have := (hown.lt _ e).1; omega
  refine ⟨⟨World.cell?_setCell_same _ _ _ hc, ?_, owns_keep hown fun k hk => Below.heap_setCell _ _ _ _ (fun e => hap (by rw [hk, e])), hap⟩, hB.setCell (Nat.le_refl _) _⟩
  rw [World.frozen?_setCell, World.frozen?_of_block (w := w.alloc (Obj.cells #[Value.slice none 0 0] 189)) hgg]
  simp only [World.frozen?, heap_alloc_new]; rfl

set_option maxRecDepth 100000 in
set_option maxHeartbeats 1000000 in
theorem Fi_rnew_good (v : Value) (l : List UInt8) (w : World) (h : Bys w v l) (hl : l.length ≤ 1048576) :
    Calls Tryz.prog 117 #[v] w fun e w' => e = .returned (.tuple #[.pointer (some ⟨w.heap.size, 0, none⟩), .int .i64 0]) ∧ (∃ u, RFileAt w' (w.heap.size + 1) w.heap.size u l) ∧ Below w.heap.size w w' := by
  obtain ⟨i0, hi, hz0, hz1, hz2⟩ := info_parts Tryz.infoB
  have hd : decide ((1048576 : Int) < (l.length : Int)) = false := by simp; omega
  have hBa : Below w.heap.size w (w.alloc (Obj.cells #[Value.slice none 0 0] 189)) := (Below.refl _ _).alloc (Nat.le_refl _) _
  have hc0 : (w.alloc (Obj.cells #[Value.slice none 0 0] 189)).cell? ⟨w.heap.size, 0, none⟩ = some (.slice none 0 0) := by simp only [World.cell?, heap_alloc_new]; rfl
  have hf0 : (w.alloc (Obj.cells #[Value.slice none 0 0] 189)).frozen? ⟨w.heap.size, 0, none⟩ = false := by simp only [World.frozen?, heap_alloc_new]; rfl
  have hsz := size_new w (Obj.cells #[Value.slice none 0 0] 189)
  rcases h with ⟨rfl, rfl⟩ | ⟨a, cap, rfl, rfl⟩ | ⟨b, off, cap, rfl, h0, hc⟩
  · go_enter Tryz.func117, Tryz.ntmps117
    go_wp2_with (at_builtin; refine wpList_append_own_none rfl _ _ 40 rfl w.heap.size 5 i0 1 Tryz.underlying40 hi _ _ _ rfl (World.ownsRow_nil _ _ _ _) rfl ?_)
    go_ret2
    exact ⟨rfl, ⟨_, hc0, hf0, World.ownsRow_nil _ _ _ _, by simp [Value.ownBlock]⟩, hBa⟩
  · go_enter Tryz.func117, Tryz.ntmps117
    go_wp2_with (at_builtin; refine wpList_append_own _ rfl _ _ 40 rfl (w.heap.size + 1) 5 i0 (.int .u8 0) 1 1 Tryz.underlying40 hi hz0 hz1 hz2 rfl (by decide) _ _ _ rfl (World.ownsRow_nil _ _ _ _) a 0 cap [] rfl rfl (by simp) (by simp) (by decide) (by decide) (by simp) ?_; intro v' w1 hown hgrow hnil; obtain ⟨a', c', rfl⟩ := owns_slice hown; have q1 := (hgrow.cell_far ⟨w.heap.size, 0, none⟩ hsz (by rintro ⟨⟩)).trans hc0; have q2 := (hgrow.frozen_far ⟨w.heap.size, 0, none⟩ hsz (by rintro ⟨⟩)).trans hf0)
    go_ret2
    obtain ⟨h1, h2⟩ := rnew_file (w := w) (l := []) hown hgrow
    exact ⟨rfl, ⟨_, h1⟩, h2⟩
  · have HN := hide (fun j u hj => (hBa.cell (World.block_lt_of_cell? w _ (bys_news hc j u hj))).trans (bys_news hc j u hj))
    clear hc
    go_enter Tryz.func117, Tryz.ntmps117
    go_wp2_with (at_builtin; refine wpList_append_own _ rfl _ _ 40 rfl (w.heap.size + 1) 5 i0 (.int .u8 0) 1 1 Tryz.underlying40 hi hz0 hz1 hz2 rfl (by decide) _ _ _ rfl (World.ownsRow_nil _ _ _ _) ⟨b, off, none⟩ l.length cap (l.map bv) rfl (by simp) HN.out (bys_one l) (by unfold maxLen; omega) (by omega) (by simp) ?_; intro v' w1 hown hgrow hnil; obtain ⟨a', c', rfl⟩ := owns_slice hown; have q1 := (hgrow.cell_far ⟨w.heap.size, 0, none⟩ hsz (by rintro ⟨⟩)).trans hc0; have q2 := (hgrow.frozen_far ⟨w.heap.size, 0, none⟩ hsz (by rintro ⟨⟩)).trans hf0)
    go_ret2
    obtain ⟨h1, h2⟩ := rnew_file (w := w) (l := l) (by simpa using hown) hgrow
    exact ⟨rfl, ⟨_, h1⟩, h2⟩

/-- What stands behind a store of a new row into the reference's file. -/
theorem rstore {w w1 : World} {base r : Nat} {u u' : Value} {l l' : List UInt8} (h : RFileAt w base r u l) (hown : w1.ownsRow base 5 1 u' l'.length (l'.map bv)) (hb : ∀ k, u'.ownBlock = some k → u.ownBlock = some k ∨ w.heap.size ≤ k) (hT : Turned (fun k => u.ownBlock = some k) w w1) :
    RFileAt (w1.setCell ⟨r, 0, none⟩ u') base r u' l' ∧ Turned (fun k => k = r ∨ u.ownBlock = some k) w (w1.setCell ⟨r, 0, none⟩ u') := by
  have hrl := h.lt
  have hgg := hT.block r hrl h.apart
  have hap : u'.ownBlock ≠ some r := fun e => by
    rcases hb r e with h1 | h1
    · exact h.apart h1
    · omega
  refine ⟨⟨World.cell?_setCell_same _ _ _ ((World.cell?_of_block (w := w) hgg).trans h.data), ?_, owns_keep hown fun k hk => Below.heap_setCell _ _ _ _ (fun e => hap (by rw [hk, e])), hap⟩, ?_⟩
  · rw [World.frozen?_setCell]
    exact (World.frozen?_of_block (w := w) hgg).trans h.soft
  · refine ⟨hT.os, hT.tape, hT.output, by simpa [World.setCell] using hT.size, fun k hk hn => ?_⟩
    rw [Below.heap_setCell _ _ _ _ (fun e => hn (.inl e))]
    exact hT.block k hk (fun e => hn (.inr e))

set_option maxRecDepth 100000 in
set_option maxHeartbeats 1000000 in
theorem rwriteAt_any (base r : Nat) (u : Value) (l : List UInt8) (off : Int) (vx : Value) (x : List UInt8) (w : World) (h : RFileAt w base r u l) (hx : Bys w vx x) (hux : 0 < x.length → ∀ k, vx.ownBlock = some k → u.ownBlock ≠ some k) (hl : l.length ≤ 1048576) (hb : base ≤ w.heap.size) :
    Calls Tryz.prog 146 #[.pointer (some ⟨r, 0, none⟩), .int .i64 off, vx] w fun e w' => e = .returned (.int .i64 (Fi_wrE off x.length)) ∧ ∃ u', RFileAt w' base r u' (wrL l off x) ∧ (∀ k, u'.ownBlock = some k → u.ownBlock = some k ∨ w.heap.size ≤ k) ∧ Turned (fun k => k = r ∨ u.ownBlock = some k) w w' := by
  have HF := hide h
  have HX := hide hx
  have HU := hide hux
  obtain ⟨a1, c1, rfl, -⟩ := bys_form hx
  have h1 := h.data
  have h2 := h.soft
  obtain ⟨ua, uc, rfl⟩ := owns_slice h.row
  clear h hx hux
  by_cases ho : inR off = false
  · have e1 : Fi_wrE off x.length = 4 := by unfold Fi_wrE; rw [if_pos ho]
    rw [wrL, e1, if_neg (by decide)]
    have HO := hide ho
    clear ho e1
    go_enter Tryz.func146, Tryz.ntmps146
    go_wp2_with fail
    refine (within_any _ _).mono ?_
    rintro e w1 ⟨rfl, rfl⟩
    rw [HO.out]
    go_wp2
    go_ret
    exact ⟨rfl, _, HF.out, fun k hk => .inl hk, Turned.refl _ _⟩
  · have ho1 : inR off = true := by simpa using ho
    have ho' := ho1
    simp only [inR, decide_eq_true_eq] at ho'
    obtain ⟨o, rfl⟩ : ∃ o : Nat, off = o := ⟨off.toNat, by omega⟩
    by_cases h3 : (1048576 : Int) < (o : Int) + (x.length : Nat)
    · have e1 : Fi_wrE o x.length = 31 := by unfold Fi_wrE; rw [if_neg ho, if_pos h3]
      rw [wrL, e1, if_neg (by decide)]
      have HO := hide ho1
      clear ho e1 ho1
      have hd : decide ((1048576 - (o : Int)) < (x.length : Int)) = true := by simp; omega
      go_enter Tryz.func146, Tryz.ntmps146
      go_wp2_with fail
      refine (within_any _ _).mono ?_
      rintro e w1 ⟨rfl, rfl⟩
      rw [HO.out]
      go_wp2
      all_goals first
        | (exfalso; omega)
        | (go_ret; exact ⟨rfl, _, HF.out, fun k hk => .inl hk, Turned.refl _ _⟩)
    · have e1 : Fi_wrE o x.length = 0 := by unfold Fi_wrE; rw [if_neg ho, if_neg h3]
      rw [wrL, e1, if_pos rfl, Int.toNat_natCast]
      have HO := hide ho1
      clear ho e1 ho1
      have hd : decide ((1048576 - (o : Int)) < (x.length : Int)) = false := by simp; omega
      by_cases h4 : x = []
      · subst h4
        rw [lay, if_pos rfl]
        go_enter Tryz.func146, Tryz.ntmps146
        go_wp2_with fail
        refine (within_any _ _).mono ?_
        rintro e w1 ⟨rfl, rfl⟩
        rw [HO.out]
        go_wp2
        all_goals first
          | (exfalso; omega)
          | (go_ret; exact ⟨rfl, _, HF.out, fun k hk => .inl hk, Turned.refl _ _⟩)
      · have hx0 := List.length_pos_iff.2 h4
        rw [lay_rlay _ _ _ h4]
        have hd2 : decide ((0 : Int) < (x.length : Int)) = true := by simp; omega
        clear h4
        go_enter Tryz.func146, Tryz.ntmps146
        go_wp2_with fail
        refine (within_any _ _).mono ?_
        rintro e w1 ⟨rfl, rfl⟩
        rw [HO.out]
        go_wp2_with fail
        refine (lay_any base _ _ l x o _ HF.out.row HX.out HU.out hl (by omega) hb).mono ?_
        rintro e w2 ⟨u', rfl, hown, hub, hT⟩
        obtain ⟨a', c', rfl⟩ := owns_slice hown
        have HOw := hide hown
        have HUB := hide hub
        have HT := hide hT
        have hgg := hT.block r HF.out.lt HF.out.apart
        have q1 := (World.cell?_of_block (w := w1) (a := ⟨r, 0, none⟩) hgg).trans HF.out.data
        have q2 := (World.frozen?_of_block (w := w1) (a := ⟨r, 0, none⟩) hgg).trans HF.out.soft
        clear hown hub hT hgg
        go_wp2
        go_ret
        obtain ⟨r1, r2⟩ := rstore HF.out HOw.out HUB.out HT.out
        exact ⟨rfl, _, r1, HUB.out, r2⟩
end Go.Proofs.YtkkicbhmcjbmbaaGreat

/- The reference's Truncate. -/
namespace Go.Proofs.YtkkicbhmcjbmbaaGreat
open Go.RowKit

theorem owns_take {W : World} {base e b cap k n : Nat} {xs : List Value} (h : W.ownsRow base e 1 (.slice (some ⟨b, 0, none⟩) k cap) k xs) (hn : n ≤ k) : W.ownsRow base e 1 (.slice (some ⟨b, 0, none⟩) n cap) n (xs.take n) := by
  have h0 := h.1
  refine ⟨by rw [List.length_take]; omega, .inr ?_⟩
  rcases h.2 with ⟨h1, _⟩ | ⟨g, c, cur, h1, h2, h3, h4, h5, h6, h7⟩
  · cases h1
  · cases h1
    refine ⟨b, cap, cur, rfl, h2, h3, by omega, h5, h6, ?_⟩
    rw [← h7, List.take_take, Nat.mul_one, Nat.mul_one, Nat.min_eq_left hn]
theorem rcut {w : World} {base r b cap n : Nat} {l : List UInt8} (h : RFileAt w base r (.slice (some ⟨b, 0, none⟩) l.length cap) l) (hn : n ≤ l.length) :
    RFileAt (w.setCell ⟨r, 0, none⟩ (.slice (some ⟨b, 0, none⟩) n cap)) base r (.slice (some ⟨b, 0, none⟩) n cap) (l.take n) ∧ Turned (fun k => k = r ∨ b = k) w (w.setCell ⟨r, 0, none⟩ (.slice (some ⟨b, 0, none⟩) n cap)) := by
  have hap : b ≠ r := fun e => h.apart (by rw [e]; rfl)
  have hl : (l.take n).length = n := by simp; omega
  refine ⟨⟨World.cell?_setCell_same _ _ _ h.data, ?_, ?_, fun e => h.apart e⟩, ⟨rfl, rfl, rfl, by simp [World.setCell], fun k hk hn => Below.heap_setCell _ _ _ _ (fun e => hn (.inl e))⟩⟩
  · rw [World.frozen?_setCell]; exact h.soft
  · rw [hl, List.map_take]
    exact owns_keep (owns_take h.row hn) fun k hk => Below.heap_setCell _ _ _ _ (fun e => hap (by cases hk; exact e))


end Go.Proofs.YtkkicbhmcjbmbaaGreat
