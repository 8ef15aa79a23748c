/- TopWhole answers true for all faults and writes of at most a mebibyte in all (beyond the reach of any machine the rows that it appends to would be too long): what was read out of a pipe, and what it still holds, is the small pieces that were taken, each whole, in order. -/
import Derived.Test.YtlooldimlcdedaaKM11
import Derived.ProofKit
import Derived.OpenShut
import Derived.ShutString
import Derived.ChangeOld
import Derived.Below
import Derived.SizedLaws
import Derived.JoinedCond
/- Held: the bytes within a description's pipe. -/
namespace Go.Proofs.Ytlooldimlcdedaa
open Go.RowKit Go.Maps

theorem pheld_any (O : Nat → Prop) (p : Nat) (q : List UInt8) (rd wt : Nat) (w : World) (h : PObj w O p (.pipe q rd wt)) :
    Calls Try.prog 44 #[.pointer (some ⟨p, 0, none⟩)] w fun e w' => ∃ v, e = .returned v ∧ w'.ownsRow w.heap.size 5 1 v q.length (q.map bv) ∧ Below w.heap.size w w' :=
  (held_any p q rd wt w h.1).mono fun _ _ ⟨a, b, c⟩ => ⟨_, a, b, c⟩
set_option maxRecDepth 100000 in
set_option maxHeartbeats 2000000 in
theorem kheld_any (ρ : Nat → Option PTag) (I : PI) (K : KS) (d : Int) (w : World) (h : PK w ρ I K) (hd : I64 d) :
    Calls Try.prog 23 #[.pointer (some ⟨I.kb, 0, none⟩), .int .i64 d] w fun e w' => ∃ v, e = .returned v ∧ w'.ownsRow w.heap.size 5 1 v (K.heldOf d).length ((K.heldOf d).map bv) ∧ Below w.heap.size w w' := by
  have HF := hide (described_any ρ I K d w h hd)
  cases hx : K.find d with
  | none =>
    rw [hx] at HF
    rw [KS.heldOf_none hx]
    clear h
    go_enter Try.func23, Try.ntmps23
    go_wp2_with fail
    refine HF.out.mono ?_
    rintro e w1 ⟨rfl, rfl⟩
    unfold descV
    go_wp2
    go_ret
    exact ⟨_, rfl, World.ownsRow_nil _ _ _ _, Below.refl _ _⟩
  | some x =>
    rw [hx] at HF
    rw [KS.heldOf_some hx]
    have hm := (KS.find_some hx).1
    have c0 := (h.desc hm).thing
    have HO := hide (h.pobj hm)
    unfold descV at HF
    cases ho : K.tho x with
    | file b =>
      rw [show thingV I K x = .iface 97 (.pointer (some ⟨I.xb x.n, 0, none⟩)) by unfold thingV; rw [ho]] at c0
      clear h HO
      go_enter Try.func23, Try.ntmps23
      go_wp2_with fail
      refine HF.out.mono ?_
      rintro e w1 ⟨rfl, rfl⟩
      go_wp2_with fail
      refine (pipeOf_file _ _).mono ?_
      rintro e w2 ⟨rfl, hB2⟩
      go_wp2
      go_ret
      exact ⟨_, rfl, World.ownsRow_nil _ _ _ _, hB2.alloc hB2.size _⟩
    | term ls scr =>
      rw [show thingV I K x = .iface 78 (.pointer (some ⟨I.cb x.th, 0, none⟩)) by unfold thingV; rw [ho]] at c0
      clear h HO
      go_enter Try.func23, Try.ntmps23
      go_wp2_with fail
      refine HF.out.mono ?_
      rintro e w1 ⟨rfl, rfl⟩
      go_wp2_with fail
      refine (pipeOf_term _ _).mono ?_
      rintro e w2 ⟨rfl, hB2⟩
      go_wp2
      go_ret
      exact ⟨_, rfl, World.ownsRow_nil _ _ _ _, hB2.alloc hB2.size _⟩
    | pipe q rd wt =>
      rw [show thingV I K x = .iface 110 (.agg #[.pointer (some ⟨I.ob x.th, 0, none⟩)]) by unfold thingV; rw [ho]] at c0
      rw [ho] at HO
      clear h
      go_enter Try.func23, Try.ntmps23
      go_wp2_with fail
      refine HF.out.mono ?_
      rintro e w1 ⟨rfl, rfl⟩
      go_wp2_with fail
      refine (pipeOf_yes _ _).mono ?_
      rintro e w2 ⟨rfl, hB2⟩
      have hs2 := hB2.size
      have HB2 := hide hB2
      have hB3 := hB2.alloc hB2.size (Obj.cells #[.pointer (some ⟨I.ob x.th, 0, none⟩)] 110)
      have HB3 := hide hB3
      have HO3 := hide (HO.out.keep (fun k _ hlt => hB3.block k hlt) hB3.size)
      clear hB2 hB3
      go_wp2_with fail
      refine (pheld_any _ (I.ob x.th) q rd wt _ HO3.out).mono ?_
      rintro e w4 ⟨v, rfl, hO4, hB4⟩
      have HO4 := hide (owns_mono hO4 HB3.out.size)
      have HB4 := hide (HB3.out.trans (hB4.mono HB3.out.size))
      clear hO4 hB4
      go_wp2
      go_ret
      exact ⟨v, rfl, HO4.out, HB4.out⟩
theorem KAt.held {w : World} {O : Nat → Prop} {kb : Nat} {K : KS} (h : KAt w O kb K) (d : Int) (hd : I64 d) :
    Calls Try.prog 23 #[.pointer (some ⟨kb, 0, none⟩), .int .i64 d] w fun e w' => ∃ v, e = .returned v ∧ w'.ownsRow w.heap.size 5 1 v (K.heldOf d).length ((K.heldOf d).map bv) ∧ Below w.heap.size w w' := by
  obtain ⟨ρ, I, h1, rfl, h3⟩ := h
  exact kheld_any ρ I K d w h1 hd
end Go.Proofs.Ytlooldimlcdedaa

/- KernSays: what a read, a write and the questions ahead of them say, as values. No program. -/
namespace Go.Proofs.Ytlooldimlcdedaa
open Go.RowKit

/-- num. -/
theorem num_kp (x : Int) (w : World) : Calls Try.prog 8 #[.int .i64 x] w fun e w' => e = .returned (.int .i64 x) ∧ w = w' := by
  go_enter Try.func8, Try.ntmps8
  go_wp2
  go_ret
  exact ⟨rfl, rfl⟩

theorem nxt_err {l : List Fault} {want : Int} (h1 : 1 ≤ want) (h2 : want ≤ 1048576) : (nxt l want).2 = 0 ∨ (nxt l want).2 = 22 ∨ (nxt l want).2 = 23 := by
  unfold nxt
  rw [if_neg (by omega)]
  cases l with
  | nil => exact .inl rfl
  | cons f r =>
    simp only
    split
    · exact .inl rfl
    · split
      · exact .inr (.inl rfl)
      · split
        · exact .inr (.inr rfl)
        · exact .inl rfl
theorem inN_of {n : Int} (h1 : 1 ≤ n) (h2 : n ≤ 1048576) : inN n = true := by simp [inN, h1, h2]
theorem read_says {K : KS} {d n : Int} {x : De} (ok : planOk K.plan) (hx : K.find d = some x) (h1 : 1 ≤ n) (h2 : n ≤ 1048576) :
    (fbit x.flags 1 = 0 ∧ (K.read d n).2.1 = 65 ∧ (K.read d n).2.2 = K ∧ K.canRead d = false) ∨
    (fbit x.flags 1 ≠ 0 ∧ (K.read d n).2.1 = 52 ∧ (K.read d n).2.2 = K ∧ K.canRead d = false ∧ (K.tho x).kind = 3) ∨
    (fbit x.flags 1 ≠ 0 ∧ ((K.read d n).2.1 = 0 ∨ (K.read d n).2.1 = 22 ∨ (K.read d n).2.1 = 23) ∧ K.canRead d = true) := by
  by_cases hf : fbit x.flags 1 = 0
  · left
    have e : K.read d n = ([], 65, K) := by unfold KS.read; rw [hx]; simp only; rw [if_pos hf]
    rw [e, KS.canRead_some hx, hf]
    exact ⟨rfl, rfl, rfl, rfl⟩
  · right
    have hb : (!(fbit x.flags 1 == 0)) = true := by simpa using hf
    by_cases hw : (K.tho x).waits = true
    · left
      have e : K.read d n = ([], 52, K) := by
        unfold KS.read; rw [hx]; simp only; rw [if_neg hf, if_neg (by omega), if_neg (by omega), if_pos hw]
      rw [e, KS.canRead_some hx, hb]
      cases ho : K.tho x with
      | file b => rw [ho] at hw; cases hw
      | term ls scr => rw [ho] at hw; cases hw
      | pipe q rd wt =>
        rw [ho] at hw
        exact ⟨hf, rfl, rfl, by simpa [Ob.waits] using hw, rfl⟩
    · right
      have hw' : (K.tho x).waits = false := by simpa using hw
      rw [read_is hx hf h1 h2 hw', KS.canRead_some hx, hb]
      refine ⟨hf, ?_, ?_⟩
      · rcases nxt_err (l := K.plan) h1 h2 with e | e | e
        · rw [if_pos e]
          have hm := nxt_good ok h1 h2 e
          left
          unfold KS.rdx
          rw [show K.readUp.tho x = K.tho x from rfl]
          cases ho : K.tho x with
          | file b => rfl
          | term ls scr =>
            show Te_rdE (nxt K.plan n).1 = 0
            unfold Te_rdE
            rw [if_pos (show rOk (nxt K.plan n).1 = true by unfold rOk; exact decide_eq_true ⟨hm.1, by omega⟩)]
          | pipe q rd wt =>
            show Kp_rdE (nxt K.plan n).1 q.length rd wt = 0
            rw [ho] at hw'
            have hc : canR q.length rd wt = true := by simpa [Ob.waits] using hw'
            unfold Kp_rdE
            rw [inN_of hm.1 (by omega)]
            unfold canR at hc
            simp only [Bool.and_eq_true, decide_eq_true_eq, Bool.not_eq_true', decide_eq_false_iff_not] at hc
            rw [if_neg (by decide), if_neg (by omega), if_neg (by simpa using hc.2)]
        · rw [if_neg (by omega)]; exact .inr (.inl e)
        · rw [if_neg (by omega)]; exact .inr (.inr e)
      · cases ho : K.tho x with
        | file b => rfl
        | term ls scr => rfl
        | pipe q rd wt => rw [ho] at hw'; simpa [Ob.waits] using hw'
theorem find_setDe {K : KS} {d : Int} {x x' : De} (hx : K.find d = some x) (hn : x'.n = x.n) : (K.setDe x').find d = some x' := by
  unfold KS.find KS.setDe at *
  generalize K.de = l at *
  induction l with
  | nil => simp at hx
  | cons y r ih =>
    have hxn := List.find?_some hx
    simp only [decide_eq_true_eq] at hxn
    simp only [List.map_cons, List.find?_cons] at hx ⊢
    by_cases e : y.n = x'.n
    · rw [if_pos e]
      rw [show decide ((x'.n : Int) = d) = true by simpa [hn] using hxn]
    · rw [if_neg e]
      have e2 : decide ((y.n : Int) = d) = false := by
        simp only [decide_eq_false_iff_not]; intro h; apply e; rw [hn]; omega
      rw [e2] at hx ⊢
      exact ih hx
theorem kind_set {K : KS} (j i : Nat) (ob : Ob) (h : ob.kind = (K.obOf i).kind) : ((K.setOb i ob).obOf j).kind = (K.obOf j).kind := by
  by_cases hi : i < K.th.length
  · exact KS.kind_setOb hi (by rw [h, KS.obOf_eq hi]) j
  · have : K.setOb i ob = K := by
      unfold KS.setOb
      rw [List.modify_eq_self (by omega)]
    rw [this]
theorem read_find {K : KS} {d n : Int} {x : De} (hx : K.find d = some x) : ∃ x', (K.read d n).2.2.find d = some x' ∧ x'.flags = x.flags ∧ ((K.read d n).2.2.tho x').kind = (K.tho x).kind := by
  unfold KS.read
  rw [hx]
  simp only
  split
  · exact ⟨x, hx, rfl, rfl⟩
  split
  · exact ⟨x, hx, rfl, rfl⟩
  split
  · exact ⟨x, hx, rfl, rfl⟩
  split
  · exact ⟨x, hx, rfl, rfl⟩
  split
  · cases ho : K.tho x with
    | file b =>
      refine ⟨_, find_setDe (K := K.readUp) (x := x) hx rfl, rfl, ?_⟩
      show (K.tho x).kind = _
      rw [ho]
    | term ls scr =>
      refine ⟨x, hx, rfl, ?_⟩
      show ((K.readUp.setOb x.th _).obOf x.th).kind = _
      rw [kind_set (K := K.readUp) x.th x.th _ (by show _ = (K.tho x).kind; rw [ho]; rfl)]
      show (K.tho x).kind = _
      rw [ho]
    | pipe q rd wt =>
      refine ⟨x, hx, rfl, ?_⟩
      show ((K.readUp.setOb x.th _).obOf x.th).kind = _
      rw [kind_set (K := K.readUp) x.th x.th _ (by show _ = (K.tho x).kind; rw [ho]; rfl)]
      show (K.tho x).kind = _
      rw [ho]
  · exact ⟨x, hx, rfl, rfl⟩
theorem refusal_vals (ob : Ob) (fl : Int) (p : Nat) (n : Int) : refusal ob fl p n = 0 ∨ refusal ob fl p n = 31 ∨ refusal ob fl p n = 53 ∨ refusal ob fl p n = 52 := by
  unfold refusal
  cases ob with
  | file f => simp only; split <;> simp
  | term ls scr => simp only; split <;> simp
  | pipe q rd wt => simp only; split <;> (try split) <;> simp
theorem refusal_soft {ob : Ob} (h : ob.kind ≠ 3) (fl : Int) (p : Nat) (n : Int) : refusal ob fl p n ≠ 52 := by
  unfold refusal
  cases ob with
  | file f => simp only; split <;> decide
  | term ls scr => simp only; split <;> decide
  | pipe q rd wt => exact absurd rfl h
theorem fit_some {n m c : Nat} (h : 0 < fitN n n c) (hm : 1 ≤ m) : fitN n m c ≠ 0 := by
  unfold fitN at h ⊢
  by_cases e : 512 < n
  · rw [if_pos e] at h ⊢; omega
  · rw [if_neg e] at h ⊢; exact Nat.ne_of_gt h
theorem write_says {K : KS} {d : Int} {b : List UInt8} {x : De} (ok : planOk K.plan) (hx : K.find d = some x) (h1 : 1 ≤ b.length) (h2 : b.length ≤ 1048576) :
    (fbit x.flags 2 = 0 ∧ (K.write d b).2.1 = 65) ∨ (fbit x.flags 2 ≠ 0 ∧ refusal (K.tho x) x.flags x.pos b.length = 52 ∧ (K.write d b).2.1 = 52) ∨
    (fbit x.flags 2 ≠ 0 ∧ refusal (K.tho x) x.flags x.pos b.length ≠ 52 ∧ (K.write d b).2.1 ≠ 65 ∧ (K.write d b).2.1 ≠ 52) := by
  by_cases hf : fbit x.flags 2 = 0
  · left
    refine ⟨hf, ?_⟩
    unfold KS.write; rw [hx]; simp only; rw [if_pos hf]
  · right
    have ne : refusal (K.tho x) x.flags x.pos b.length ≠ 0 → (K.write d b).2.1 = refusal (K.tho x) x.flags x.pos b.length := fun hr => by
      unfold KS.write; rw [hx]; simp only; rw [if_neg hf, if_neg (by omega), if_neg (by omega), if_neg hr]
    rcases refusal_vals (K.tho x) x.flags x.pos b.length with e | e | e | e
    · right
      refine ⟨hf, by omega, ?_⟩
      rw [write_is hx hf h1 h2 e]
      have h1' : (1 : Int) ≤ (b.length : Int) := by omega
      have h2' : (b.length : Int) ≤ 1048576 := by omega
      rcases nxt_err (l := K.plan) h1' h2' with e1 | e1 | e1
      · rw [if_pos e1]
        have hm := nxt_good ok h1' h2' e1
        unfold KS.wrx
        rw [show K.writeUp.tho x = K.tho x from rfl]
        cases ho : K.tho x with
        | file f => exact ⟨by simp, by simp⟩
        | term ls scr => exact ⟨by simp, by simp⟩
        | pipe q rd wt =>
          show Kp_wrE b.length (nxt K.plan b.length).1 q.length rd wt ≠ 65 ∧ Kp_wrE b.length (nxt K.plan b.length).1 q.length rd wt ≠ 52
          rw [ho] at e
          unfold refusal at e
          simp only at e
          by_cases hr : rd = 0
          · rw [if_pos hr] at e; cases e
          rw [if_neg hr] at e
          have hc : canW b.length q.length rd wt = true := by
            cases hcw : canW b.length q.length rd wt with
            | true => rfl
            | false => rw [hcw] at e; simp at e
          unfold canW at hc
          simp only [Bool.and_eq_true, decide_eq_true_eq, Bool.or_eq_true, Int.toNat_natCast] at hc
          obtain ⟨_, hwt, hfit⟩ := hc
          have hfit : 0 < fitN b.length b.length q.length := by rcases hfit with h | h <;> omega
          have : fitN b.length (nxt K.plan b.length).1.toNat q.length ≠ 0 := by
            exact fit_some hfit (by omega)
          have hre : refE b.length (nxt K.plan b.length).1 rd wt = 0 := by
            unfold refE
            rw [if_neg (by omega), inN_of hm.1 (by omega), if_neg (by decide), if_neg (by omega), if_neg hr]
          have : Kp_wrE b.length (nxt K.plan b.length).1 q.length rd wt = 0 := by
            unfold Kp_wrE
            rw [if_pos hre, if_neg (by omega), if_neg this]
          omega
      · rw [if_neg (by omega)]
        show (nxt K.plan b.length).2 ≠ 65 ∧ (nxt K.plan b.length).2 ≠ 52
        omega
      · rw [if_neg (by omega)]
        show (nxt K.plan b.length).2 ≠ 65 ∧ (nxt K.plan b.length).2 ≠ 52
        omega
    · right; rw [ne (by omega)]; exact ⟨hf, by omega, by omega, by omega⟩
    · right; rw [ne (by omega)]; exact ⟨hf, by omega, by omega, by omega⟩
    · left; rw [ne (by omega)]; exact ⟨hf, e, e⟩
theorem canWriteP_is {K : KS} {d n : Int} {x : De} (hx : K.find d = some x) (h1 : 1 ≤ n) (h2 : n ≤ 1048576) : K.canWriteP d n = (bit x.flags 2 && !(refusal (K.tho x) x.flags x.pos n == 52)) := by
  unfold KS.canWriteP
  rw [hx]
  simp only
  rw [inN_of h1 h2, Bool.true_and]
theorem kindOf_none {K : KS} {d : Int} (h : K.find d = none) : K.kindOf d = 0 ∧ K.canRead d = false ∧ ∀ n, K.canWriteP d n = false := by
  refine ⟨?_, KS.canRead_none h, fun n => ?_⟩
  · unfold KS.kindOf; rw [h]
  · unfold KS.canWriteP; rw [h]
theorem kindOf_some {K : KS} {d : Int} {x : De} (h : K.find d = some x) : K.kindOf d = (K.tho x).kind ∧ K.kindOf d ≠ 0 := by
  have : K.kindOf d = (K.tho x).kind := by unfold KS.kindOf; rw [h]
  refine ⟨this, ?_⟩
  rw [this]
  cases K.tho x <;> simp [Ob.kind]
/-- A write behind a question and a read: it waits just if the question said so. -/
theorem says_write {K K' : KS} {d n : Int} {x x' : De} {b : List UInt8} (ok' : planOk K'.plan) (hx : K.find d = some x) (hx' : K'.find d = some x') (hfl : x'.flags = x.flags) (hk : (K'.tho x').kind = (K.tho x).kind) (hs : K' = K ∨ (K.tho x).kind ≠ 3) (hn : (b.length : Int) = n) (h1 : 1 ≤ n) (h2 : n ≤ 1048576) :
    ((K'.write d b).2.1 = 65 ∧ K.canWriteP d n = false) ∨ ((K'.write d b).2.1 = 52 ∧ K.canWriteP d n = false) ∨ ((K'.write d b).2.1 ≠ 65 ∧ (K'.write d b).2.1 ≠ 52 ∧ K.canWriteP d n = true) := by
  rw [canWriteP_is hx h1 h2]
  have hsoft : refusal (K'.tho x') x'.flags x'.pos b.length = 52 ↔ refusal (K.tho x) x.flags x.pos n = 52 := by
    rcases hs with rfl | hs
    · rw [hx] at hx'
      cases hx'
      rw [hn]
    · have a := refusal_soft hs x.flags x.pos n
      have b := refusal_soft (ob := K'.tho x') (by rw [hk]; exact hs) x'.flags x'.pos b.length
      exact ⟨fun e => absurd e b, fun e => absurd e a⟩
  rcases write_says (b := b) ok' hx' (by omega) (by omega) with ⟨a1, a2⟩ | ⟨a1, a2, a3⟩ | ⟨a1, a2, a3, a4⟩
  · left; refine ⟨a2, ?_⟩; rw [bit_no (by rw [← hfl]; exact a1)]; rfl
  · right; left; refine ⟨a3, ?_⟩; rw [hsoft.1 a2]; simp
  · right; right
    refine ⟨a3, a4, ?_⟩
    rw [bit_yes (by rw [← hfl]; exact a1)]
    simpa using fun e => a2 (hsoft.2 e)
theorem plan_read {K : KS} (h : planOk K.plan) (d n : Int) : planOk (K.read d n).2.2.plan := by
  unfold KS.read
  split
  · exact h
  split
  · exact h
  split
  · exact h
  split
  · exact h
  split
  · exact h
  split
  · split
    · exact h.tail
    · exact h.tail
    · exact h.tail
  · exact h.tail
end Go.Proofs.Ytlooldimlcdedaa

/- TopWhole: a kernel with one pipe, as a value. -/
namespace Go.Proofs.Ytlooldimlcdedaa
open Go.RowKit Go.Maps

/-- One pipe, a description of each end. -/
def KTp (q : List UInt8) (L : List Fault) (rd wr : Nat) : KS := ⟨[⟨ByteArray.empty, .pipe q 1 1⟩], [], [⟨1, 0, 1, 0, 1⟩, ⟨2, 0, 2, 0, 1⟩], 3, L, rd, wr⟩
theorem tp_pipe (l : List Fault) : (KS.new [] [] l).pipe = (1, 2, 0, KTp [] l 0 0) := rfl
theorem tp_held (q : List UInt8) (L : List Fault) (rd wr : Nat) : (KTp q L rd wr).heldOf 1 = q := rfl
theorem tp_read (q : List UInt8) (L : List Fault) (rd wr : Nat) (n : Nat) (hL : planOk L) (h2 : n ≤ 1048576) :
    ∃ Y E L' rd', (KTp q L rd wr).read 1 (n : Int) = (Y, E, KTp (q.drop Y.length) L' rd' wr) ∧ Y ++ q.drop Y.length = q ∧ rd' ≤ rd + 1 := by
  have hx : (KTp q L rd wr).find 1 = some ⟨1, 0, 1, 0, 1⟩ := rfl
  have hf : fbit 1 1 ≠ 0 := by decide
  by_cases h0 : n = 0
  · subst h0
    exact ⟨[], 0, L, rd, rfl, by simp, by omega⟩
  have n1 : (1 : Int) ≤ (n : Int) := by omega
  have n2 : (n : Int) ≤ 1048576 := by omega
  cases q with
  | nil =>
    refine ⟨[], 52, L, rd, ?_, by simp, by omega⟩
    unfold KS.read
    rw [hx]
    simp only
    rw [if_neg hf, if_neg (by omega), if_neg (by omega), if_pos (by rfl)]
    rfl
  | cons c r =>
    rw [read_is hx hf n1 n2 rfl, show (KTp (c :: r) L rd wr).plan = L from rfl]
    rcases nxt_err (l := L) n1 n2 with e | e | e
    · rw [if_pos e]
      have hg := nxt_good hL n1 n2 e
      generalize (nxt L n).1 = m at *
      have hE : Kp_rdE m (c :: r).length 1 1 = 0 := by
        unfold Kp_rdE
        rw [inN_of hg.1 (by omega)]
        simp
      have hB : rdB m (c :: r) 1 1 = (c :: r).take m.toNat := by unfold rdB; rw [if_pos hE]
      have hQ : rdQ m (c :: r) 1 1 = (c :: r).drop m.toNat := by unfold rdQ; rw [if_pos hE]
      refine ⟨(c :: r).take m.toNat, 0, L.tail, rd + 1, ?_, ?_, by omega⟩
      · rw [show (KTp (c :: r) L rd wr).readUp.rdx ⟨1, 0, 1, 0, 1⟩ m = (rdB m (c :: r) 1 1, Kp_rdE m (c :: r).length 1 1, KTp (rdQ m (c :: r) 1 1) L.tail (rd + 1) wr) from rfl, hE, hB, hQ]
        congr 3
        rw [List.length_take]
        by_cases hm : m.toNat ≤ (c :: r).length
        · rw [Nat.min_eq_left hm]
        · rw [Nat.min_eq_right (by omega), List.drop_of_length_le (by omega), List.drop_of_length_le (Nat.le_refl _)]
      · rw [List.length_take]
        by_cases hm : m.toNat ≤ (c :: r).length
        · rw [Nat.min_eq_left hm, List.take_append_drop]
        · rw [Nat.min_eq_right (by omega), List.take_of_length_le (by omega), List.drop_of_length_le (Nat.le_refl _), List.append_nil]
    · rw [if_neg (by omega)]
      exact ⟨[], _, L.tail, rd + 1, rfl, by simp, by omega⟩
    · rw [if_neg (by omega)]
      exact ⟨[], _, L.tail, rd + 1, rfl, by simp, by omega⟩
theorem tp_write (q x : List UInt8) (L : List Fault) (rd wr : Nat) (hL : planOk L) (hx5 : x.length ≤ 512) :
    (∃ L' wr', (KTp q L rd wr).write 2 x = ((x.length : Int), 0, KTp (q ++ x) L' rd wr') ∧ wr' ≤ wr + 1) ∨ (∃ E L' wr', (KTp q L rd wr).write 2 x = (0, E, KTp q L' rd wr') ∧ E ≠ 0 ∧ wr' ≤ wr + 1) := by
  have hx : (KTp q L rd wr).find 2 = some ⟨2, 0, 2, 0, 1⟩ := rfl
  have hf : fbit 2 2 ≠ 0 := by decide
  by_cases h0 : x.length = 0
  · left
    obtain rfl := List.length_eq_zero_iff.1 h0
    exact ⟨L, wr, by rw [List.append_nil]; rfl, by omega⟩
  have n1 : (1 : Int) ≤ (x.length : Int) := by omega
  have n2 : (x.length : Int) ≤ 1048576 := by omega
  by_cases hr : refusal ((KTp q L rd wr).tho ⟨2, 0, 2, 0, 1⟩) 2 0 x.length = 0
  · rw [write_is hx hf (by omega) (by omega) hr, show (KTp q L rd wr).plan = L from rfl]
    rcases nxt_err (l := L) n1 n2 with e | e | e
    · left
      rw [if_pos e]
      have hg := nxt_good hL n1 n2 e
      generalize (nxt L x.length).1 = m at *
      have hr2 : (if canW (x.length : Int) q.length 1 1 = false then (52 : Int) else 0) = 0 := hr
      have hc : canW (x.length : Int) q.length 1 1 = true := by
        cases hcw : canW (x.length : Int) q.length 1 1 with
        | true => rfl
        | false => rw [hcw] at hr2; simp at hr2
      unfold canW at hc
      simp only [Bool.and_eq_true, decide_eq_true_eq, Bool.or_eq_true, Int.toNat_natCast] at hc
      have hfit : 0 < fitN x.length x.length q.length := by rcases hc.2.2 with h | h <;> omega
      have hfn : fitN x.length m.toNat q.length = x.length := by
        unfold fitN at hfit ⊢
        rw [if_neg (by omega)] at hfit ⊢
        split at hfit
        · omega
        · rename_i hlt; rw [if_neg hlt]
      have hre : refE x.length m 1 1 = 0 := by
        unfold refE
        rw [if_neg (by omega), inN_of hg.1 (by omega)]
        simp
      have hE : Kp_wrE x.length m q.length 1 1 = 0 := by unfold Kp_wrE; rw [if_pos hre, if_neg h0, hfn, if_neg h0]
      have hW : wrN x.length m q.length 1 1 = x.length := by unfold wrN; rw [if_pos hre, hfn]
      refine ⟨L.tail, wr + 1, ?_, by omega⟩
      rw [show (KTp q L rd wr).writeUp.wrx ⟨2, 0, 2, 0, 1⟩ x m = (((wrN x.length m q.length 1 1 : Nat) : Int), Kp_wrE x.length m q.length 1 1, KTp (q ++ x.take (wrN x.length m q.length 1 1)) L.tail rd (wr + 1)) from rfl, hE, hW, List.take_length]
    · right
      rw [if_neg (by omega)]
      exact ⟨_, L.tail, wr + 1, rfl, by omega, by omega⟩
    · right
      rw [if_neg (by omega)]
      exact ⟨_, L.tail, wr + 1, rfl, by omega, by omega⟩
  · right
    refine ⟨refusal ((KTp q L rd wr).tho ⟨2, 0, 2, 0, 1⟩) 2 0 x.length, L, wr, ?_, hr, by omega⟩
    unfold KS.write
    rw [hx]
    simp only
    rw [if_neg hf, if_neg (by omega), if_neg h0, if_neg hr]
theorem tp_few {w : World} {O : Nat → Prop} {kb : Nat} {q : List UInt8} {L : List Fault} {rd wr : Nat} (h : KAt w O kb (KTp q L rd wr)) : q.length ≤ 4096 := by
  obtain ⟨ρ, I, h1, _, _⟩ := h
  exact (h1.comp (.obj 0) (by show 0 < 1; decide)).ok.1
end Go.Proofs.Ytlooldimlcdedaa

/- KernPlace: the kernel's states, as values. -/
namespace Go.Proofs.Ytlooldimlcdedaa
open Go.RowKit Go.Maps

def nmF : ByteArray := ⟨#[102]⟩
/-- One file, two descriptions of it: one read by two, one written. -/
def KPl (b : List UInt8) (p1 p2 rd wr : Nat) : KS := ⟨[⟨nmF, .file b⟩], [0], [⟨1, 0, 1, p1, 2⟩, ⟨2, 0, 3, p2, 1⟩], 3, [], rd, wr⟩
theorem pl_check (b : List UInt8) : checkE [(nmF, b)] [] [] = if 1048576 < b.length then 5 else 0 := by
  unfold checkE
  rw [if_neg (by simp)]
  rw [show kfiles [] [(nmF, b)] = if 1048576 < b.length then (5, []) else (0, [nmF]) from rfl]
  split
  · rw [if_neg (by decide)]
  · rw [if_pos rfl]; rfl
theorem pl_open1 (b : List UInt8) : (KS.new [(nmF, b)] [] []).open nmF 1 = (1, 0, ⟨[⟨nmF, .file b⟩], [0], [⟨1, 0, 1, 0, 1⟩], 2, [], 0, 0⟩) := rfl
theorem pl_open2 (b : List UInt8) : (⟨[⟨nmF, .file b⟩], [0], [⟨1, 0, 1, 0, 1⟩], 2, [], 0, 0⟩ : KS).open nmF 3 = (2, 0, ⟨[⟨nmF, .file b⟩], [0], [⟨1, 0, 1, 0, 1⟩, ⟨2, 0, 3, 0, 1⟩], 3, [], 0, 0⟩) := rfl
theorem pl_keep (b : List UInt8) : (⟨[⟨nmF, .file b⟩], [0], [⟨1, 0, 1, 0, 1⟩, ⟨2, 0, 3, 0, 1⟩], 3, [], 0, 0⟩ : KS).keepE 1 = 0 ∧ (⟨[⟨nmF, .file b⟩], [0], [⟨1, 0, 1, 0, 1⟩, ⟨2, 0, 3, 0, 1⟩], 3, [], 0, 0⟩ : KS).keepK 1 = KPl b 0 0 0 0 := ⟨rfl, rfl⟩
theorem nxt_nil {n : Int} (h1 : 1 ≤ n) (h2 : n ≤ 1048576) : nxt [] n = (n, 0) := by simp [nxt]; omega
theorem pl_read (b : List UInt8) (p1 p2 rd wr : Nat) (n : Int) (h1 : 1 ≤ n) (h2 : n ≤ 1048576) : (KPl b p1 p2 rd wr).read 1 n = (piece b p1 n.toNat, 0, KPl b (p1 + (piece b p1 n.toNat).length) p2 (rd + 1) wr) := by
  have hx : (KPl b p1 p2 rd wr).find 1 = some ⟨1, 0, 1, p1, 2⟩ := rfl
  rw [read_is hx (by show fbit 1 1 ≠ 0; decide) h1 h2 rfl]
  have e : nxt (KPl b p1 p2 rd wr).plan n = (n, 0) := nxt_nil h1 h2
  rw [e, if_pos rfl]
  rfl
theorem pl_write (b x : List UInt8) (p1 rd wr : Nat) (h1 : 1 ≤ x.length) (h2 : x.length ≤ 1048576) : (KPl b p1 0 rd wr).write 2 x = ((x.length : Int), 0, KPl (wrL b 0 x) p1 x.length rd (wr + 1)) := by
  have hx : (KPl b p1 0 rd wr).find 2 = some ⟨2, 0, 3, 0, 1⟩ := rfl
  have hr : refusal ((KPl b p1 0 rd wr).tho ⟨2, 0, 3, 0, 1⟩) 3 0 x.length = 0 := rfl
  rw [write_is hx (by show fbit 3 2 ≠ 0; decide) h1 h2 hr]
  have e : nxt (KPl b p1 0 rd wr).plan x.length = ((x.length : Int), 0) := nxt_nil (by omega) (by omega)
  rw [e, if_pos rfl]
  have hm : min x.length (1048576 - placeOf b 3 0) = x.length := by
    rw [show placeOf b 3 0 = 0 from rfl]; omega
  show (KPl b p1 0 rd wr).writeUp.wrx ⟨2, 0, 3, 0, 1⟩ x x.length = _
  rw [show (KPl b p1 0 rd wr).writeUp.wrx ⟨2, 0, 3, 0, 1⟩ x x.length = (((min x.length (1048576 - placeOf b 3 0) : Nat) : Int), 0, ((KPl b p1 0 rd wr).writeUp.setOb 0 (.file (wrL b (placeOf b 3 0) (x.take (min x.length (1048576 - placeOf b 3 0)))))).setDe ⟨2, 0, 3, placeOf b 3 0 + min x.length (1048576 - placeOf b 3 0), 1⟩) from rfl]
  rw [hm, show placeOf b 3 0 = 0 from rfl, List.take_length, Nat.zero_add]
  rfl
theorem pl_writeN (b x : List UInt8) (p1 rd wr : Nat) (h : x.length = 0 ∨ 1048576 < x.length) : ((KPl b p1 0 rd wr).write 2 x).1 = 0 := by
  have hx : (KPl b p1 0 rd wr).find 2 = some ⟨2, 0, 3, 0, 1⟩ := rfl
  unfold KS.write
  rw [hx]
  simp only
  rw [if_neg (by decide)]
  rcases h with h | h
  · rw [if_neg (by omega), if_pos h]
  · rw [if_pos h]
theorem pl_seek (b : List UInt8) (p1 p2 rd wr : Nat) : (KPl b p1 p2 rd wr).seek 1 0 0 = (0, 0, KPl b 0 p2 rd wr) := rfl
theorem pl_back (b x : List UInt8) (h2 : x.length ≤ 1048576) : piece (wrL b 0 x) 0 x.length = x := by
  unfold wrL
  have : Fi_wrE 0 x.length = 0 := wr_fits (at' := 0) (by omega)
  rw [if_pos this]
  by_cases hx : x = []
  · subst hx; simp [piece]
  · simp [piece, lay, hx]
theorem ktmod_bound (x k : Int) (hk : 0 < k) : -k < x.tmod k ∧ x.tmod k < k := by
  have h2 : ∀ y : Int, 0 ≤ y → 0 ≤ y.tmod k ∧ y.tmod k < k := fun y h => by
    rw [Int.tmod_eq_emod_of_nonneg h]
    exact ⟨Int.emod_nonneg _ (by omega), Int.emod_lt_of_pos _ hk⟩
  rcases Int.le_total 0 x with h | h
  · have := h2 x h; omega
  · have h3 := h2 (-x) (by omega)
    rw [Int.neg_tmod] at h3
    omega
theorem krem_twice (full k : Int) (hk : 0 < k) (hk2 : k ≤ 1048576) : ∃ m : Nat, (wrap64 (full.tmod k + k)).tmod k = (m : Int) ∧ (m : Int) < k := by
  have h1 := ktmod_bound full k hk
  have h2 : wrap64 (full.tmod k + k) = full.tmod k + k := by unfold wrap64; omega
  rw [h2, Int.tmod_eq_emod_of_nonneg (by omega)]
  have h3 := Int.emod_nonneg (full.tmod k + k) (b := k) (by omega)
  have h4 := Int.emod_lt_of_pos (full.tmod k + k) hk
  exact ⟨((full.tmod k + k) % k).toNat, by omega, by omega⟩
theorem take_piece {b : List UInt8} {p n : Nat} (hp : p ≤ b.length) : b.take p ++ piece b p n = b.take (p + (piece b p n).length) := by
  rw [piece_len]
  unfold piece
  rw [← List.take_add]
  by_cases h : n ≤ b.length - p
  · rw [Nat.min_eq_left h]
  · rw [Nat.min_eq_right (by omega), List.take_of_length_le (by omega), List.take_of_length_le (by omega)]
end Go.Proofs.Ytlooldimlcdedaa

/- TopWhole, walked. -/
namespace Go.Proofs.Ytlooldimlcdedaa
open Go.RowKit Go.Maps

theorem tnum_kp (x : Int) (w : World) : Calls Try.prog 22 #[.int .i64 x] w fun e w' => e = .returned (.int .i64 x) ∧ w = w' := by
  go_enter Try.func22, Try.ntmps22
  go_wp2
  go_ret
  exact ⟨rfl, rfl⟩
set_option maxRecDepth 100000 in
set_option maxHeartbeats 4000000 in
theorem piped_any (w : World) : Calls Try.prog 21 #[] w fun e w' => e = .returned (.bool true) ∧ Below w.heap.size w w' := by
  have hF0 : Flts w (.slice none 0 0) [] := .inl ⟨rfl, rfl⟩
  have hN0 : Nms w (.slice none 0 0) [] := ⟨_, _, rfl, Nat.le_refl _, fun h => absurd h (Nat.lt_irrefl _)⟩
  have HN := hide (knew_good none none none 0 0 0 [] [] [] w hN0 (no_typed _) hF0 (by decide) (by decide) (by decide) rfl)
  clear hF0 hN0
  go_enter Try.func21, Try.ntmps21
  go_wp2_with fail
  refine HN.out.mono ?_
  rintro e w1 ⟨kb, rfl, hK, hB⟩
  have HB1 := hide hB
  have H1 := hide (hK.pipe (by decide))
  rw [tp_pipe] at H1
  clear hK hB
  go_wp2_with (first | (go_at_call 22; refine (tnum_kp _ _).mono ?_; rintro _ _ ⟨rfl, rfl⟩) | fail)
  refine H1.out.mono ?_
  rintro e w2 ⟨rfl, hS⟩
  obtain ⟨hK, hB⟩ := hS.at (B := w.heap.size) (fun _ e => e) HB1.out.size
  have HB2 := hide (HB1.out.trans hB)
  have HK2 := hide hK
  clear hS hK hB
  have cl := conv_lit w2 #[.int .u8 97, .int .u8 98] 2 w2.heap.size 2 rfl rfl
  simp only [Nat.reduceAdd] at cl
  have hb1 := Te_lit_bys w2 [97, 98] #[.int .u8 97, .int .u8 98] 2 w2.heap.size (2, 3) rfl rfl rfl
  have hBl := recv_below w2 (Obj.cells #[.int .u8 97, .int .u8 98] 5 (2, 3))
  have H3 := hide ((HK2.out.below hBl).write 2 [97, 98] (some ⟨w2.heap.size, 0, none⟩) 2 ⟨by decide, by decide⟩ (by decide) hb1 (by decide) (by decide) (fun _ j hj e => by
    have : j = w2.heap.size := by simpa [Value.ownBlock] using hj.symm
    have := e.2
    omega))
  rw [show (KTp [] [] 0 0).write 2 [97, 98] = (2, 0, KTp [97, 98] [] 0 1) from rfl] at H3
  have HBl := hide (HB2.out.trans (hBl.mono HB2.out.size))
  clear hb1 hBl
  go_wp2_with fail
  refine H3.out.mono ?_
  rintro e w3 ⟨rfl, hS⟩
  obtain ⟨hK, hB⟩ := hS.at (B := w.heap.size) (fun _ e => e.1) HBl.out.size
  have HB3 := hide (HBl.out.trans hB)
  have H4 := hide (hK.read 1 9 ⟨by decide, by decide⟩ (by decide))
  rw [show (KTp [97, 98] [] 0 1).read 1 9 = ([97, 98], 0, KTp [] [] 1 1) from rfl] at H4
  clear hS hK hB cl
  go_wp2_with fail
  refine H4.out.mono ?_
  rintro e w4 ⟨v, rfl, hO, -, hT⟩
  obtain ⟨va, vc, rfl⟩ := owns_slice hO
  have q1 : (convert 22 9 (.slice va 2 vc)).run Try.prog w4 = .ok (.string ⟨#[97, 98]⟩) w4 := owns_string (l := [97, 98]) hO
  have HB4 := hide (HB3.out.trans (hT.below (fun _ e => e.1) HB3.out.size))
  clear hO hT
  simp only [List.length_cons, List.length_nil, Nat.zero_add, Nat.reduceAdd]
  go_wp2_with (first | (go_at_call 22; refine (tnum_kp _ _).mono ?_; rintro _ _ ⟨rfl, rfl⟩) | fail)
  go_ret
  exact ⟨rfl, HB4.out⟩
/-- Two rows of bytes and a kernel that share nothing. -/
structure Trio (W : World) (B kb : Nat) (iv ov : Value) (In Out q : List UInt8) (L : List Fault) (rd wr : Nat) (O : Nat → Prop) : Prop where
  kern : KAt W O kb (KTp q L rd wr)
  inn : W.ownsRow B 5 1 iv In.length (In.map bv)
  out : W.ownsRow B 5 1 ov Out.length (Out.map bv)
  low : ∀ j, O j → B ≤ j ∧ j < W.heap.size ∧ iv.ownBlock ≠ some j ∧ ov.ownBlock ≠ some j
  apart : ∀ j, iv.ownBlock = some j → ov.ownBlock ≠ some j
  eq : Out ++ q = In
theorem Trio.below {W W' : World} {B kb : Nat} {iv ov : Value} {In Out q : List UInt8} {L : List Fault} {rd wr : Nat} {O : Nat → Prop} (h : Trio W B kb iv ov In Out q L rd wr O) (hB : Below W.heap.size W W') : Trio W' B kb iv ov In Out q L rd wr O :=
  ⟨h.kern.below hB, owns_below h.inn hB, owns_below h.out hB, fun j e => ⟨(h.low j e).1, Nat.lt_of_lt_of_le (h.low j e).2.1 hB.size, (h.low j e).2.2⟩, h.apart, h.eq⟩
theorem Trio.outs {W W' : World} {B kb : Nat} {iv ov s : Value} {In Out Y q : List UInt8} {L : List Fault} {rd wr : Nat} {O : Nat → Prop} (hk : KAt W O kb (KTp q L rd wr)) (hi : W.ownsRow B 5 1 iv In.length (In.map bv))
    (low : ∀ j, O j → B ≤ j ∧ j < W.heap.size ∧ iv.ownBlock ≠ some j ∧ ov.ownBlock ≠ some j) (ap : ∀ j, iv.ownBlock = some j → ov.ownBlock ≠ some j) (h7 : W'.ownsRow B 5 1 s (Out ++ Y).length ((Out ++ Y).map bv)) (hg : W.grownBy W' ov.ownBlock) (hb : s.ownBlock = ov.ownBlock ∨ s.ownBlock = some W.heap.size) (he : (Out ++ Y) ++ q = In) : Trio W' B kb iv s In (Out ++ Y) q L rd wr O := by
  refine ⟨hk.keep (fun j e hl => hg.block j hl (fun e' => (low j e).2.2.2 e'.symm)) hg.size, owns_keep hi (fun j e => hg.block j (hi.lt j e).2 (fun e' => ap j e e'.symm)), h7, fun j e => ⟨(low j e).1, Nat.lt_of_lt_of_le (low j e).2.1 hg.size, (low j e).2.2.1, fun e' => ?_⟩, fun j e e' => ?_, he⟩
  · rcases hb with h | h
    · rw [h] at e'; exact (low j e).2.2.2 e'
    · rw [h] at e'; cases e'; have := (low _ e).2.1; omega
  · rcases hb with h | h
    · rw [h] at e'; exact ap j e e'
    · rw [h] at e'; cases e'; have := (hi.lt _ e).2; omega
theorem Trio.ins {W W' : World} {B kb : Nat} {iv ov s : Value} {In Out X q' : List UInt8} {L : List Fault} {rd wr : Nat} {O : Nat → Prop} (hk : KAt W O kb (KTp q' L rd wr)) (ho : W.ownsRow B 5 1 ov Out.length (Out.map bv))
    (low : ∀ j, O j → B ≤ j ∧ j < W.heap.size ∧ iv.ownBlock ≠ some j ∧ ov.ownBlock ≠ some j) (ap : ∀ j, iv.ownBlock = some j → ov.ownBlock ≠ some j) (h7 : W'.ownsRow B 5 1 s (In ++ X).length ((In ++ X).map bv)) (hg : W.grownBy W' iv.ownBlock) (hb : s.ownBlock = iv.ownBlock ∨ s.ownBlock = some W.heap.size) (he : Out ++ q' = In ++ X) : Trio W' B kb s ov (In ++ X) Out q' L rd wr O := by
  refine ⟨hk.keep (fun j e hl => hg.block j hl (fun e' => (low j e).2.2.1 e'.symm)) hg.size, h7, owns_keep ho (fun j e => hg.block j (ho.lt j e).2 (fun e' => ap j e'.symm e)), fun j e => ⟨(low j e).1, Nat.lt_of_lt_of_le (low j e).2.1 hg.size, fun e' => ?_, (low j e).2.2.2⟩, fun j e e' => ?_, he⟩
  · rcases hb with h | h
    · rw [h] at e'; exact (low j e).2.2.1 e'
    · rw [h] at e'; cases e'; have := (low _ e).2.1; omega
  · rcases hb with h | h
    · rw [h] at e; exact ap j e e'
    · rw [h] at e; cases e; have := (ho.lt _ e').2; omega
theorem tmade {w w1 : World} {n : Nat} (h : w1.ownsRow w.heap.size 5 1 (.slice (some ⟨w.heap.size, 0, none⟩) n n) n (madeCells (Value.int .u8 0).cells (n * 1)).toList) (hg : w.grownBy w1 none) :
    w1.ownsRow w.heap.size 5 1 (.slice (some ⟨w.heap.size, 0, none⟩) n n) n ((List.replicate n (0 : UInt8)).map bv) ∧ Below w.heap.size w w1 := by
  refine ⟨?_, (Below.refl _ w).grown hg (Nat.le_refl _) (fun k e => by cases e)⟩
  rw [made_cells] at h
  simpa [bv] using h
theorem append_wanted {P : Program} (w : World) {ops : Array Oper} {rest : List Oper} {o : Oper} {a : Act} {Q : Exit → Act → World → Prop} (hw : Region.wanted o (yielded ops a.tmps) = true) (s x : Operand) (t tn : TypeId)
    (ho : o.op = .call { callee := .builtin .append, args := #[s, x], argTypes := #[t, tn] }) (vs vx : Value) (hs : a.eval s = vs) (hx : a.eval x = vx)
    (v' : Value) (w' : World) (hr : (Builtin.append_ #[t, tn] o.type #[vs, vx]).run P w = .ok v' w') (h : wpList P ops Q rest (a.put o.dst v') w') : wpList P ops Q (o :: rest) a w := by
  unfold wpList
  rw [if_pos hw]
  exact .inl (Lib.wp_append_run w s x t tn ho vs vx hs hx v' w' hr h)
set_option maxRecDepth 100000 in
set_option maxHeartbeats 8000000 in
theorem topWhole_any (a1 a2 : Option Addr) (n1 n2 c1 c2 : Nat) (g l : List Fault) (w : World) (h1 : Flts w (.slice a1 n1 c1) g) (h2 : Flts w (.slice a2 n2 c2) l) (z1 : g.length ≤ 1048576) (z2 : l.length ≤ 1048576) :
    Calls Try.prog 5 #[.slice a1 n1 c1, .slice a2 n2 c2] w fun e w' => e = .returned (.bool true) ∧ Below w.heap.size w w' := by
  obtain rfl : n1 = g.length := by obtain ⟨_, _, e, _⟩ := flts_form h1; cases e; rfl
  obtain ⟨a2', c2', he2, hcu⟩ := flts_form h2
  obtain ⟨rfl, rfl, rfl⟩ : a2 = a2' ∧ n2 = l.length ∧ c2 = c2' := by simpa using he2
  have HCu := hide hcu
  have H1 := hide h1
  have HPp := hide (piped_any w)
  clear hcu he2 h1 h2
  go_enter Try.func5, Try.ntmps5
  go_wp2_with fail
  refine HPp.out.mono ?_
  rintro e w1 ⟨rfl, hB1⟩
  have HB1 := hide hB1
  have hN0 : Nms w1 (.slice none 0 0) [] := ⟨_, _, rfl, Nat.le_refl _, fun h => absurd h (Nat.lt_irrefl _)⟩
  have hF1 := H1.out.below hB1
  by_cases hE : checkE [] [] g = 0
  case neg =>
    have HN := hide (knew_bad none none a1 0 0 c1 [] [] g w1 hN0 (no_typed _) hF1 (by omega) (by decide) (by decide) hE)
    clear hN0 hF1 hB1
    generalize checkE [] [] g = E at *
    go_wp2_with fail
    refine HN.out.mono ?_
    rintro e w2 ⟨rfl, hB2⟩
    have HB2 := hide (HB1.out.trans (hB2.mono HB1.out.size))
    clear hB2
    go_wp2_with (first | (go_at_call 22; refine (tnum_kp _ _).mono ?_; rintro _ _ ⟨rfl, rfl⟩) | fail)
    go_ret
    exact ⟨rfl, HB2.out⟩
  have HN := hide (knew_good none none a1 0 0 c1 [] [] g w1 hN0 (no_typed _) hF1 (by omega) (by decide) (by decide) hE)
  clear hN0 hF1 hB1 hE
  go_wp2_with fail
  refine HN.out.mono ?_
  rintro e w2 ⟨kb, rfl, hK, hB2⟩
  have HB2 := hide (HB1.out.trans (hB2.mono HB1.out.size))
  have H3 := hide ((hK.mono (fun k e => Nat.le_trans HB1.out.size e)).pipe (by show (1 : Nat) + 1 < 9223372036854775807; decide))
  rw [tp_pipe] at H3
  clear hK hB2 HN HB1
  go_wp2_with (first | (go_at_call 22; refine (tnum_kp _ _).mono ?_; rintro _ _ ⟨rfl, rfl⟩) | fail)
  refine H3.out.mono ?_
  rintro e w3 ⟨rfl, hS⟩
  obtain ⟨hK, hB⟩ := hS.at (B := w.heap.size) (fun _ e => e) HB2.out.size
  have HB3 := hide (HB2.out.trans hB)
  have HT3 : Hid (∃ O, Trio w3 w.heap.size kb (.slice none 0 0) (.slice none 0 0) [] [] [] g 0 0 O) := hide ⟨_, hK, World.ownsRow_nil _ _ _ _, World.ownsRow_nil _ _ _ _, fun j e => ⟨e.1, e.2, by simp [Value.ownBlock], by simp [Value.ownBlock]⟩, fun j e => by simp [Value.ownBlock] at e, rfl⟩
  clear hS hK hB HB2
  go_wp2_with (first | (go_at_call 22; refine (tnum_kp _ _).mono ?_; rintro _ _ ⟨rfl, rfl⟩) | fail)
  go_loopw [10, 11, 12] (fun iv ov i wr => ∃ (k rd wt : Nat) (In Out q : List UInt8) (L : List Fault), k ≤ l.length ∧ i = .int .i64 k ∧ Hid (∃ O, Trio wr w.heap.size kb iv ov In Out q L rd wt O) ∧ Hid (In.length ≤ k * 512 ∧ rd ≤ k ∧ wt ≤ k) ∧ Hid (Below w.heap.size w wr)) (fun _ _ i _ => l.length - (intOf i).toNat)
  case atStart => exact ⟨0, 0, 0, [], [], [], g, Nat.zero_le _, rfl, HT3, hide (by simp), HB3⟩
  case round =>
    obtain ⟨k, rd, wt, In, Out, q, L, hk, rfl, HT, HNm, HB⟩ := hrel
    clear HT3 HB3
    obtain ⟨O, hT⟩ := HT.out
    obtain ⟨ia, ic, rfl⟩ := owns_slice hT.inn
    obtain ⟨oa, oc, rfl⟩ := owns_slice hT.out
    have HTr := hide hT
    clear hT
    by_cases hlt : k < l.length
    · obtain ⟨cb, off, rfl, hce⟩ := HCu.out (by omega)
      obtain ⟨q0, q1⟩ := hce k hlt
      have hcl := World.block_lt_of_cell? w _ q0
      have r0 := (HB.out.cell (p := ⟨cb, off + k * 2, none⟩) hcl).trans q0
      have r1 := (HB.out.cell (p := ⟨cb, off + k * 2 + 1, none⟩) hcl).trans q1
      have hk1 : (0 : Int) ≤ (k : Int) := by omega
      have hk2 : (k : Int) < (l.length : Int) := by omega
      generalize l.getD k (0, 0) = y at *
      obtain ⟨by', ny⟩ := y
      simp only at r0 r1
      clear q0 q1 hce
      have hbnd : In.length ≤ 536870912 := by have := HNm.out; omega
      have hol : Out.length ≤ In.length := by rw [← HTr.out.eq, List.length_append]; omega
      by_cases hby : by' < 0
      · obtain ⟨m, hm, hm9⟩ := krem_twice ny 3000 (by decide) (by decide)
        obtain ⟨Y, E, L', rd', hread, hY, hrd⟩ := tp_read q L rd wt m HTr.out.kern.ok.1.plan (by omega)
        have HR := hide (HTr.out.kern.read 1 (m : Int) ⟨by decide, by decide⟩ (by show rd < 9223372036854775807; have := HNm.out; omega))
        rw [hread] at HR
        simp only at HR
        have HY := hide (And.intro hY hrd)
        have hYl : Y.length ≤ 4096 := by have h1 := congrArg List.length hY; rw [List.length_append] at h1; have := tp_few HTr.out.kern; omega
        clear hread hY hrd hm9
        go_wp2_with fail
        refine HR.out.mono ?_
        rintro e w6 ⟨v, rfl, hO6, hK6, hT6⟩
        obtain ⟨ya, yc, rfl⟩ := owns_slice hO6
        have hs6 := hT6.size
        have hin6 := owns_turned HTr.out.inn hT6 (fun j hj e => (HTr.out.low j e).2.2.1 hj)
        have hou6 := owns_turned HTr.out.out hT6 (fun j hj e => (HTr.out.low j e).2.2.2 hj)
        obtain ⟨s', w7, hrun, HO7, hg7, hb7⟩ := run_append_bytes w6 22 w.heap.size _ (.slice ya Y.length yc) Out Y hou6 (Bys.of_owns hO6) (by omega) (by have := HB.out.size; omega)
        have HRun := hide hrun
        have HB7 : Hid (Below w.heap.size w w7) := hide ((HB.out.trans (hT6.below (fun j e => (HTr.out.low j e).1) HB.out.size)).grown hg7 (Nat.le_trans HB.out.size hs6) (fun j e => (hou6.lt j e).1))
        have HT7 : Hid (∃ O, Trio w7 w.heap.size kb (.slice ia In.length ic) s' In (Out ++ Y) (q.drop Y.length) L' rd' wt O) := hide ⟨O, Trio.outs hK6 hin6 (fun j e => ⟨(HTr.out.low j e).1, Nat.lt_of_lt_of_le (HTr.out.low j e).2.1 hs6, (HTr.out.low j e).2.2⟩) HTr.out.apart HO7.out hg7 hb7 (by rw [List.append_assoc, HY.out.1]; exact HTr.out.eq)⟩
        clear hrun hO6 hK6 hT6 hb7 hg7 hin6 hou6 HO7
        go_wp2_with (first | (at_builtin; refine Lib.wpList_append_run _ rfl _ _ _ _ rfl _ _ rfl rfl _ _ HRun.out ?_) | fail)
        go_roundw
        case rel => exact ⟨k + 1, rd', wt, In, Out ++ Y, q.drop Y.length, L', by omega, by go_num, HT7, hide (by have := HNm.out; have := HY.out.2; omega), HB7⟩
        case measure => simp [intOf]; omega
      · obtain ⟨M, hM, hM9⟩ := krem_twice ny 513 (by decide) (by decide)
        obtain ⟨i0, hi, hz0, hz1, hz2⟩ := info_parts Try.infoB
        have hMs : M ≤ 512 := by omega
        clear hM9
        have HTW := hide HB.out
        obtain ⟨W0, rfl⟩ : ∃ W0, W0 = wr := ⟨_, rfl⟩
        go_wp2_with (first | (at_make; refine wpList_make_full _ rfl _ _ 22 rfl W0.heap.size 5 i0 (.int .u8 0) 1 Try.underlying22 hi hz0 hz1 _ _ _ _ M rfl rfl rfl rfl (by rw [hz2]; omega) (by unfold maxLen; omega) (Nat.le_refl _) ?_; intro w5 hown5 hgrow5; have HM5 := hide (tmade hown5 hgrow5); clear hown5 hgrow5) | fail)
        have HR0 := hide r0
        clear r0 r1
        go_loopw [16] (fun j wj => ∃ (jj : Nat) (X : List UInt8), jj ≤ M ∧ j = .int .i64 jj ∧ X.length = M ∧ Hid (wj.ownsRow W0.heap.size 5 1 (.slice (some ⟨W0.heap.size, 0, none⟩) M M) M (X.map bv)) ∧ Hid (Below W0.heap.size W0 wj)) (fun j _ => M - (intOf j).toNat)
        case atStart => exact ⟨0, List.replicate M 0, Nat.zero_le _, rfl, List.length_replicate, hide HM5.out.1, hide HM5.out.2⟩
        case round =>
          obtain ⟨jj, X, hjj, rfl, hXl, HX, HBj⟩ := hrel
          by_cases hjl : jj < M
          · have hcell := HX.out.cellAt jj (by omega)
            rw [List.getElem?_map, List.getElem?_eq_getElem (by omega)] at hcell
            simp only [Option.map_some, bv] at hcell
            have hfr := HX.out.frozenAt jj
            have hj1 : (0 : Int) ≤ (jj : Int) := by omega
            have hj2 : (jj : Int) < (M : Int) := by omega
            have r0 := (HBj.out.cell (p := ⟨cb, off + k * 2, none⟩) (by show cb < W0.heap.size; have := HB.out.size; omega)).trans HR0.out
            go_wp2
            go_roundw
            case rel =>
              obtain ⟨hst, -⟩ := HX.out.stored jj (Value.int .u8 (by' % 256))
              have hc8 : bv (UInt8.ofNat (by' % 256).toNat) = .int .u8 (by' % 256) := by
                have h1 : 0 ≤ by' % 256 := Int.emod_nonneg _ (by decide)
                have h2 : by' % 256 < 256 := Int.emod_lt_of_pos _ (by decide)
                have h3 : (UInt8.ofNat (by' % 256).toNat).toNat = (by' % 256).toNat := by rw [UInt8.toNat_ofNat_of_lt']; show _ < 256; omega
                unfold bv
                rw [h3, Int.toNat_of_nonneg h1]
              rw [← hc8, ← List.map_set] at hst
              refine ⟨jj + 1, X.set jj (UInt8.ofNat (by' % 256).toNat), by omega, by go_num, by rw [List.length_set]; exact hXl, hide ?_, hide (HBj.out.setCell (p := ⟨W0.heap.size, jj, none⟩) (Nat.le_refl _) _)⟩
              rw [← hc8]
              exact hst
            case measure => simp [intOf]; omega
          · have hTj := HTr.out.below HBj.out
            have hbl : Bys wr (.slice (some ⟨W0.heap.size, 0, none⟩) X.length M) X := Bys.of_owns (by rw [hXl]; exact HX.out)
            have hap : 0 < X.length → ∀ j, (Value.slice (some ⟨W0.heap.size, 0, none⟩) X.length M).ownBlock = some j → ¬ O j := fun _ j hj e => by
              have : j = W0.heap.size := by simpa [Value.ownBlock] using hj.symm
              have := (HTr.out.low j e).2.1
              omega
            have H6 := hide (hTj.kern.write 2 X (some ⟨W0.heap.size, 0, none⟩) M ⟨by decide, by decide⟩ (by show wt < 9223372036854775807; have := HNm.out; omega) hbl (by omega) (by omega) hap)
            have HTj := hide hTj
            have HBw := hide (HB.out.trans (HBj.out.mono HB.out.size))
            have HXr := hide HX.out
            have HMl := hide hXl
            clear hbl hap hTj
            rcases tp_write q X L rd wt HTr.out.kern.ok.1.plan (by omega) with ⟨L', wt', hw, hwt⟩ | ⟨E, L', wt', hw, hE, hwt⟩
            · rw [hw, hXl] at H6
              simp only at H6
              have HWt := hide hwt
              clear hw hwt hXl
              go_wp2_with fail
              refine H6.out.mono ?_
              rintro e w6 ⟨rfl, hS⟩
              obtain ⟨O', hK6, hO6, hT6⟩ := hS
              have hs6 := hT6.size
              have hin6 := owns_turned HTj.out.inn hT6 (fun j hj e => (HTj.out.low j e).2.2.1 hj)
              have hou6 := owns_turned HTj.out.out hT6 (fun j hj e => (HTj.out.low j e).2.2.2 hj)
              have hx6 := owns_turned HXr.out hT6 (fun j hj e => by have := (HXr.out.lt j hj).1; have := (HTr.out.low j e).2.1; omega)
              have hlow6 : ∀ j, (O' j ∧ j < w6.heap.size) → w.heap.size ≤ j ∧ j < w6.heap.size ∧ (Value.slice ia In.length ic).ownBlock ≠ some j ∧ (Value.slice oa Out.length oc).ownBlock ≠ some j := fun j e => by
                rcases hO6 j e.1 with h | h
                · exact ⟨(HTj.out.low j h).1, e.2, (HTj.out.low j h).2.2⟩
                · exact ⟨Nat.le_trans HBw.out.size h, e.2, fun e' => by have := (HTj.out.inn.lt j e').2; omega, fun e' => by have := (HTj.out.out.lt j e').2; omega⟩
              obtain ⟨s', w7, hrun, HO7, hg7, hb7⟩ := run_append_bytes w6 22 w.heap.size _ (.slice (some ⟨W0.heap.size, 0, none⟩) M M) In X hin6 (Bys.of_owns (by rw [HMl.out]; exact hx6)) (by have := HMl.out; omega) (by have := HBw.out.size; omega)
              have HRun := hide hrun
              have HB7 : Hid (Below w.heap.size w w7) := hide ((HBw.out.trans (hT6.below (fun j e => (HTj.out.low j e).1) HBw.out.size)).grown hg7 (Nat.le_trans HBw.out.size hs6) (fun j e => (hin6.lt j e).1))
              have HT7 : Hid (∃ O, Trio w7 w.heap.size kb s' (.slice oa Out.length oc) (In ++ X) Out (q ++ X) L' rd wt' O) := hide ⟨_, Trio.ins hK6.trim hou6 hlow6 HTr.out.apart HO7.out hg7 hb7 (by rw [← List.append_assoc, HTr.out.eq])⟩
              clear hrun hK6 hO6 hT6 hb7 hg7 hin6 hou6 hx6 hlow6 HO7
              go_wp2_with (first | (go_at_call 22; refine (tnum_kp _ _).mono ?_; rintro _ _ ⟨rfl, rfl⟩) | (at_builtin; refine Lib.wpList_append_run _ rfl _ _ _ _ rfl _ _ rfl rfl _ _ HRun.out ?_) | fail)
              go_roundw
              case rel => exact ⟨k + 1, rd, wt', In ++ X, Out, q ++ X, L', by omega, by go_num, HT7, hide (by have := HNm.out; have := HWt.out; have := HMl.out; rw [List.length_append]; omega), HB7⟩
              case measure => simp [intOf]; omega
            · rw [hw, hXl] at H6
              simp only at H6
              have HWt := hide hwt
              have hEb : (E == 0) = false := by simpa using hE
              have hEc : (E != 0) = true := by simpa using hE
              clear hw hwt hXl
              go_wp2_with fail
              refine H6.out.mono ?_
              rintro e w6 ⟨rfl, hS⟩
              obtain ⟨O', hK6, hO6, hT6⟩ := hS
              have HT6 : Hid (∃ O, Trio w6 w.heap.size kb (.slice ia In.length ic) (.slice oa Out.length oc) In Out q L' rd wt' O) := hide ⟨_, hK6.trim, owns_turned HTj.out.inn hT6 (fun j hj e => (HTj.out.low j e).2.2.1 hj), owns_turned HTj.out.out hT6 (fun j hj e => (HTj.out.low j e).2.2.2 hj), fun j e => (by
                rcases hO6 j e.1 with h | h
                · exact ⟨(HTj.out.low j h).1, e.2, (HTj.out.low j h).2.2⟩
                · exact ⟨Nat.le_trans HBw.out.size h, e.2, fun e' => by have := (HTj.out.inn.lt j e').2; omega, fun e' => by have := (HTj.out.out.lt j e').2; omega⟩), HTr.out.apart, HTr.out.eq⟩
              have HB6 := hide (HBw.out.trans (hT6.below (fun j e => (HTj.out.low j e).1) HBw.out.size))
              clear hK6 hO6 hT6
              go_wp2_with (first | (go_at_call 22; refine (tnum_kp _ _).mono ?_; rintro _ _ ⟨rfl, rfl⟩) | fail)
              go_roundw
              case rel => exact ⟨k + 1, rd, wt', In, Out, q, L', by omega, by go_num, HT6, hide (by have := HNm.out; have := HWt.out; omega), HB6⟩
              case measure => simp [intOf]; omega
    · have H6 := hide (HTr.out.kern.held 1 ⟨by decide, by decide⟩)
      rw [tp_held] at H6
      have hq4 := tp_few HTr.out.kern
      have hq5 : (q.length : Int) ≤ 4096 := by omega
      have hbnd : In.length ≤ 536870912 := by have := HNm.out; omega
      have hol : Out.length + q.length = In.length := by rw [← HTr.out.eq, List.length_append]
      go_wp2_with fail
      refine H6.out.mono ?_
      rintro e w6 ⟨v, rfl, hO6, hB6⟩
      obtain ⟨qa, qc, rfl⟩ := owns_slice hO6
      have hT6 := HTr.out.below hB6
      obtain ⟨s', w7, hrun, HO7, hg7, hb7⟩ := run_append_bytes w6 22 w.heap.size _ (.slice qa q.length qc) Out q hT6.out (Bys.of_owns hO6) (by omega) (by have := HB.out.size; have := hB6.size; omega)
      have HRun := hide hrun
      have hin7 := owns_keep (W' := w7) hT6.inn (fun j e => hg7.block j (hT6.inn.lt j e).2 (fun e' => hT6.apart j e e'.symm))
      have HB7 : Hid (Below w.heap.size w w7) := hide ((HB.out.trans (hB6.mono HB.out.size)).grown hg7 (Nat.le_trans HB.out.size hB6.size) (fun j e => (hT6.out.lt j e).1))
      have HSm := hide (same_any s' (.slice ia In.length ic) In w7 (by have := Bys.of_owns HO7.out; rw [HTr.out.eq] at this; exact this) (Bys.of_owns hin7) (by unfold maxLen; omega))
      clear hrun hO6 hB6 hT6 hb7 hg7 hin7 HO7
      go_wp2_with (first | (go_at_call 22; refine (tnum_kp _ _).mono ?_; rintro _ _ ⟨rfl, rfl⟩) | (at_builtin; refine append_wanted _ (by rfl) _ _ _ _ rfl _ _ rfl rfl _ _ HRun.out ?_) | fail)
      refine HSm.out.mono ?_
      rintro e w8 ⟨rfl, hB8⟩
      have HB8 := hide (HB7.out.trans (hB8.mono HB7.out.size))
      clear hB8
      go_wp2
      go_ret
      exact ⟨rfl, HB8.out⟩
end Go.Proofs.Ytlooldimlcdedaa

/- TopWhole answers true for all faults and writes of at most a mebibyte in all (beyond the reach of any machine the rows that it appends to would be too long): what was read out of a pipe, and what it still holds, is the small pieces that were taken, each whole, in order. -/
namespace Go.Proofs.Ytlooldimlcdedaa.topWhole
open Go.ChangeShapes Go.WideShapes Go.ChangeAt Go.RowKit
open Go.ChangeMaps (open_string shut_string)
set_option linter.unusedVariables false

theorem own : ownKnob Try.prog.godebug = none := by kernel_rfl
theorem laidOut : laidOutB Try.prog = true := by kernel_rfl

set_option maxRecDepth 100000 in
theorem contract (H : Type) (enc : TypeId × Value → H) (W : World) (base : Nat) (args : Array Value) (ds gs : List (DataW H)) (before : List MemPlace)
    (hval0 : ∀ (j : Nat) t v, Try.f5.params[j]? = some t → args[j]? = some v → Value.okWide Try.prog W .any base t v)
    (hW : DataW.Whole enc Try.prog Try.f5.params.toList Rows.topWholeSpec.vars false W args.toList ds gs before) (hk : Rows.uptoSmall H (ds ++ gs) = true) :
    Calls Try.prog 5 args W fun e W' => ∃ v, e = .returned v ∧ Rows.topWholeSpec.post enc Try.prog Try.f5 false true false false W args v W' := by
  have hval : ∀ (j : Nat) t v, Try.f5.params[j]? = some t → args[j]? = some v → Value.okWide Try.prog W .any base t v := hval0
  have hW' := hW
  obtain ⟨p, q, hA0, hV, rfl, hfz, hnd⟩ := hW
  have hA : DataW.TrodAll enc Try.prog W 0 (fun _ => true) true Try.f5.params.toList args.toList ds p := hA0
  rw [Try.params5] at hA hval
  obtain ⟨v0, vs0, d0, ds0, p0, q0, hargs, rfl, rfl, h0, r0⟩ := trodAll_cons hA
  obtain ⟨v1, vs1, d1, ds1, p1, q1, rfl, rfl, rfl, h1, r1⟩ := trodAll_cons r0
  obtain ⟨rfl, rfl, rfl⟩ := trodAll_nil r1
  obtain rfl : args = #[v0, v1] := by cases args; simp_all
  obtain ⟨rfl, rfl⟩ := trodVars_none hV
  obtain ⟨c0, len0, cap0, rfl⟩ := okWide_slice Try.underlying33 (hval 0 33 v0 rfl rfl)
  have k0 := h0
  have lt0 : ∀ x ∈ p0, x.block < W.heap.size := by obtain ⟨m, hm⟩ := k0; exact DataW.trod_lt m _ _ _ hm
  obtain ⟨fuel0, hf0⟩ := h0
  obtain ⟨l0, y0, e0⟩ := faults_arg Try.underlying33 Try.underlying116 (by kernel_rfl) rfl rfl (by kernel_rfl) (by kernel_rfl) Try.underlying3 Try.underlying3 hf0
  obtain ⟨c1, len1, cap1, rfl⟩ := okWide_slice Try.underlying57 (hval 1 57 v1 rfl rfl)
  have k1 := h1
  have lt1 : ∀ x ∈ p1, x.block < W.heap.size := by obtain ⟨m, hm⟩ := k1; exact DataW.trod_lt m _ _ _ hm
  obtain ⟨fuel1, hf1⟩ := h1
  obtain ⟨l1, y1, e1⟩ := faults_arg Try.underlying57 Try.underlying59 (by kernel_rfl) rfl rfl (by kernel_rfl) (by kernel_rfl) Try.underlying3 Try.underlying3 hf1
  have hK := of_decide_eq_true (p := Rows.uptoBulkAll _ ≤ 1048576) hk
  simp only [List.append_nil, Rows.uptoBulkAll] at hK
  have z0 : l0.length ≤ 1048576 := by
    rcases e0 with ⟨_, rfl⟩ | ⟨elems, spare, rfl, hll⟩
    · simp
    · have := bulk_slice elems spare; omega
  have z1 : l1.length ≤ 1048576 := by
    rcases e1 with ⟨_, rfl⟩ | ⟨elems, spare, rfl, hll⟩
    · simp
    · have := bulk_slice elems spare; omega
  clear hA0
  refine (topWhole_any _ _ _ _ _ _ l0 l1 W y0 y1 z0 z1).mono fun e W' ⟨he, bel⟩ => ?_
  subst he
  exact ⟨_, rfl, _, _, _, [], _, [], hW', trodAll_mk1 (shut_bool Try.underlying4 _), (trodAll_cons_mk (Below.trod laidOut (by kernel_rfl) (of_decide_eq_true (by kernel_rfl)) k0 bel lt0) (trodAll_cons_mk (Below.trod laidOut (by kernel_rfl) (of_decide_eq_true (by kernel_rfl)) k1 bel lt1) trodAll_mk0)), rfl, bel.frame _, fun h => by cases h⟩

set_option maxRecDepth 100000 in
theorem lifted (os : Os) (started : os.Started) (H : Type) (enc : TypeId × Value → H) (F : Stop.Interp) :
    ReturnsInHanded {} Try.checked os 5 .any ((Rows.OpenSpec.upto Rows.topWholeSpec).pre6 enc Try.prog Try.f5 Rows.topWholeUptoRow.domain false) (((Rows.OpenSpec.upto Rows.topWholeSpec).at F).post enc Try.prog Try.f5 false true false false) := by
  refine returnsInHanded_of_cond (C := Try.checked) (s := Rows.OpenSpec.upto Rows.topWholeSpec) (k := Rows.uptoSmall) rfl own started (by kernel_rfl) Try.func5
    (OpenSpec.witness (enc := enc) (C := Try.checked) (s := Rows.OpenSpec.upto Rows.topWholeSpec) (k := Rows.uptoSmall) rfl false ⟨#[], #[.slice none 0 0, .slice none 0 0], []⟩ 8 (by kernel_rfl) (by kernel_rfl) (by kernel_rfl)
      (x := ([.nil, .nil], [], [])) (by kernel_rfl) rfl (by kernel_rfl)) ?_
  intro W base args ds gs before hval hW _ hk _
  exact contract H enc W base args ds gs before hval hW hk

theorem over : Rows.TopWholeUptoSaid :=
  OpenClaim.holds_of_cond 5 Try.f5 rfl rfl rfl rfl rfl rfl rfl ⟨rfl, rfl, rfl, rfl, rfl⟩ rfl rfl rfl rfl rfl (by kernel_rfl) Try.func5 (by kernel_rfl)
    (of_decide_eq_true (by kernel_rfl)) (by unfold Func.isWrapper; first | (rw [if_pos (by decide +kernel)]; kernel_rfl) | (rw [if_neg (by decide +kernel)]; exact ⟨rfl, rfl⟩))
    (fun os started H enc _ F => lifted os started H enc F)
end Go.Proofs.Ytlooldimlcdedaa.topWhole
namespace Go.Proofs.Ytlooldimlcdedaa
theorem topWhole_holds : Rows.TopWholeUptoSaid := topWhole.over
#print axioms topWhole_holds
end Go.Proofs.Ytlooldimlcdedaa
