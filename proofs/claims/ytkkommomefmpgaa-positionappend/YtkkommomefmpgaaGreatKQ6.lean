/- What the proof stands on, part 6: the contracts of the program's calls that it reaches. -/
import Derived.Test.YtkkommomefmpgaaGreatKQ5
/- The program's kernel: a console's refusals, reads and writes. -/
namespace Go.Proofs.YtkkommomefmpgaaGreat
open Go.RowKit Go.Maps

set_option maxRecDepth 100000 in
set_option maxHeartbeats 1000000 in
theorem co_refuses (x p n0 : Nat) (n : Int) (w : World) (h : COc w x p n0) :
    Calls Tryz.prog 300 #[.pointer (some ⟨x, 0, none⟩), .int .i64 n] w fun e w' => e = .returned (.int .i64 (if n0 = 1048576 then 31 else 0)) ∧ w' = w := by
  obtain ⟨c0, c1, c2⟩ := h.cells
  clear h
  by_cases hm : n0 = 1048576
  · rw [if_pos hm]
    subst hm
    go_enter Tryz.func300, Tryz.ntmps300
    go_wp2
    go_ret
    exact ⟨rfl, rfl⟩
  · rw [if_neg hm]
    have h1 : ¬ (n0 : Int) = 1048576 := by omega
    have h2 : ((n0 : Int) == 1048576) = false := by simpa using h1
    go_enter Tryz.func300, Tryz.ntmps300
    go_wp2
    go_ret
    exact ⟨rfl, rfl⟩
set_option maxRecDepth 100000 in
set_option maxHeartbeats 1000000 in
theorem co_read (x p n0 : Nat) (ls : List (List UInt8)) (scr : List UInt8) (m : Int) (O : Nat → Prop) (w : World) (h : COc w x p n0) (hO : PObj w O p (.term ls scr)) :
    Calls Tryz.prog 298 #[.pointer (some ⟨x, 0, none⟩), .int .i64 m] w fun e w' => ∃ v, e = .returned (.tuple #[v, .int .i64 (Te_rdE m)]) ∧ w'.ownsRow w.heap.size 5 1 v (rdH ls m).length ((rdH ls m).map bv) ∧ PObj w' O p (.term (rdR ls m) scr) ∧ Turned O w w' := by
  obtain ⟨c0, c1, c2⟩ := h.cells
  have HR := hide (po_tread O p ls scr m w hO)
  clear h hO
  go_enter Tryz.func298, Tryz.ntmps298
  go_wp2_with fail
  refine HR.out.mono ?_
  rintro e w1 ⟨v, rfl, hrow, hS⟩
  obtain ⟨va, vc, rfl⟩ := owns_slice hrow
  have HV := hide hrow
  have HS := hide hS
  clear hrow hS
  go_wp2
  go_ret2
  exact ⟨_, rfl, HV.out, HS.out⟩
def TWr (w : World) (O : Nat → Prop) (x p : Nat) (ls : List (List UInt8)) (scr z : List UInt8) (e : Ending) (w' : World) : Prop :=
  e = .returned (.tuple #[.int .i64 (z.length : Nat), .int .i64 0]) ∧ COc w' x p (scr ++ z).length ∧ (∃ O', PObj w' O' p (.term ls (scr ++ z)) ∧ ∀ k, O' k → O k ∨ w.heap.size ≤ k) ∧ Turned (fun k => O k ∨ k = x) w w'
theorem TWr.of {w : World} {O : Nat → Prop} {x p : Nat} {ls : List (List UInt8)} {scr z : List UInt8} {w' : World} (h : COc w x p scr.length) (hx : ¬ O x) (hS : PStep (w.setCell ⟨x, 1, none⟩ (.int .i64 ((scr.length + z.length : Nat) : Int))) O p (.term ls (scr ++ z)) w') :
    TWr w O x p ls scr z (.returned (.tuple #[.int .i64 (z.length : Nat), .int .i64 0])) w' := by
  obtain ⟨O', h1, h2, h3⟩ := hS
  have hlt : x < w.heap.size := (Array.getElem?_eq_some_iff.1 h).1
  refine ⟨rfl, ?_, ⟨O', h1, fun k e => by rw [heap_set_size] at h2; exact h2 k e⟩, ?_⟩
  · rw [List.length_append]
    exact (h.set (scr.length + z.length)).keep (h3.block x (by rw [heap_set_size]; exact hlt) hx)
  · refine (((Turned.refl (fun k => O k ∨ k = x) w).set (g := x) (j := 1) (u := .int .i64 ((scr.length + z.length : Nat) : Int)) (.inl (.inr rfl)))).trans (h3.mono fun k e => Or.inl e) (fun k _ e => e)
set_option maxRecDepth 100000 in
set_option maxHeartbeats 2000000 in
theorem co_write (x p : Nat) (ls : List (List UInt8)) (scr bs : List UInt8) (m : Nat) (a1 : Option Addr) (cx : Nat) (O : Nat → Prop) (w : World) (h : COc w x p scr.length) (hO : PObj w O p (.term ls scr)) (hxO : ¬ O x)
    (hb : Bys w (.slice a1 bs.length cx) bs) (hcap : bs.length ≤ cx) (h1 : 1 ≤ m) (h2 : m ≤ bs.length) (h3 : bs.length ≤ 1048576) (hd : ∀ k, (Value.slice a1 bs.length cx).ownBlock = some k → k ≠ x) :
    Calls Tryz.prog 301 #[.pointer (some ⟨x, 0, none⟩), .slice a1 bs.length cx, .int .i64 m] w (TWr w O x p ls scr (bs.take (min m (1048576 - scr.length)))) := by
  obtain ⟨c0, c1, c3⟩ := h.cells
  have hat : scr.length ≤ 1048576 := hO.ok.2.2
  have hlt : x < w.heap.size := (Array.getElem?_eq_some_iff.1 h).1
  obtain ⟨A, hA⟩ : ∃ A, A = scr.length := ⟨_, rfl⟩
  obtain ⟨N, hN⟩ : ∃ N, N = min m (1048576 - scr.length) := ⟨_, rfl⟩
  rw [← hN]
  have hNb : N ≤ bs.length := by omega
  have hz : (bs.take N).length = N := by simp; omega
  have HW : Hid (Calls Tryz.prog 294 #[.pointer (some ⟨p, 0, none⟩), .slice a1 N cx] (w.setCell ⟨x, 1, none⟩ (.int .i64 ((A : Int) + (N : Int)))).drew fun e w' => e = .returned (.int .i64 0) ∧ PStep (w.setCell ⟨x, 1, none⟩ (.int .i64 ((A : Int) + (N : Int)))) O p (.term ls (scr ++ bs.take N)) w') := hide (by
    have hOS : PObj (w.setCell ⟨x, 1, none⟩ (.int .i64 ((A : Int) + (N : Int)))) O p (.term ls scr) := hO.keep (fun k e _ => heap_set_other w 1 _ (fun e' => hxO (by rw [e'] at e; exact e))) (by rw [heap_set_size]; exact Nat.le_refl _)
    refine (po_twrite O p ls scr (bs.take N) (.slice a1 N cx) (w.setCell ⟨x, 1, none⟩ (.int .i64 ((A : Int) + (N : Int)))).drew (hOS.keep (fun _ _ _ => rfl) (Nat.le_refl _)) ?_).mono ?_
    · refine (bys_front hb N hNb).keep fun k e hk => (heap_set_other w (g := x) 1 (.int .i64 ((A : Int) + (N : Int))) ?_ :)
      exact hd k (by cases a1 <;> simp [Value.ownBlock] at e ⊢ <;> exact e)
    · rintro e w' ⟨rfl, O', hS1, hS2, hS3⟩
      have hfit : ¬ 1048576 < scr.length + (bs.take N).length := by rw [hz]; omega
      unfold wrS at hS1
      rw [if_neg hfit] at hS1
      exact ⟨by unfold Te_wrE; rw [if_neg hfit], O', hS1, hS2, (Turned.of_below (Below.refl _ _).drew).trans hS3 (fun _ _ e => e)⟩)
  have HF : Hid (∀ w', PStep (w.setCell ⟨x, 1, none⟩ (.int .i64 ((A : Int) + (N : Int)))) O p (.term ls (scr ++ bs.take N)) w' → TWr w O x p ls scr (bs.take N) (.returned (.tuple #[.int .i64 (N : Nat), .int .i64 0])) w') := hide (fun w' hS => by
    have := TWr.of (w' := w') (z := bs.take N) (ls := ls) h hxO (by rw [hz, ← hA]; exact hS)
    rw [hz] at this
    exact this)
  have c0' : (w.setCell ⟨x, 1, none⟩ (.int .i64 ((A : Int) + (N : Int)))).cell? ⟨x, 0, none⟩ = some (.pointer (some ⟨p, 0, none⟩)) := by
    rw [World.cell?_setCell_other]
    · exact c0
    · simp
  rw [← hA] at c1
  have hN' : N = min m (1048576 - A) := by rw [hA]; exact hN
  have hat' : A ≤ 1048576 := by rw [hA]; exact hat
  have HD := hide (And.intro hN' (And.intro hat' hz))
  clear h hO hb hN hz hd hat hN'
  generalize TWr w O x p ls scr (bs.take N) = FW at *
  clear hA
  generalize scr ++ bs.take N = scr' at *
  rcases (show m < 1048576 - A ∨ 1048576 - A < m ∨ m = 1048576 - A by omega) with hc | hc | hc
  · obtain rfl : N = m := by have := HD.out.1; omega
    have d1 : (N : Int) < 1048576 - (A : Int) := by omega
    have d2 : ¬ (1048576 - (A : Int)) < (N : Int) := by omega
    have d3 : (N : Int) ≤ (cx : Int) := by omega
    have d4 : (A : Int) ≤ 1048576 := by omega
    go_enter Tryz.func301, Tryz.ntmps301
    go_wp2_with fail
    generalize (w.setCell ⟨x, 1, none⟩ (.int .i64 ((A : Int) + (N : Int)))) = wS at *
    go_region_held3 (fun w' => w'.cell? ⟨x, 0, none⟩ = some (.pointer (some ⟨p, 0, none⟩)))
      (first | exact K5 | go_keep)
      (first
        | (go_at_call 294; refine HW.out.mono ?_; rintro e w5 ⟨rfl, hS⟩; have K5 : w5.cell? ⟨x, 0, none⟩ = some (.pointer (some ⟨p, 0, none⟩)) := by obtain ⟨O', hS1, hS2, hS3⟩ := hS; exact hS3.cell c0' hxO)
        | fail)
    go_wp2
    exact HF.out _ hS
  · have e1 : (N : Int) = 1048576 - (A : Int) := by have := HD.out.1; omega
    have e2 : N = 1048576 - A := by omega
    have d1 : ¬ (m : Int) < 1048576 - (A : Int) := by omega
    have d2 : (1048576 - (A : Int)) < (m : Int) := by omega
    have d3 : 1048576 - (A : Int) ≤ (cx : Int) := by omega
    have d4 : (A : Int) ≤ 1048576 := by omega
    have d5 : (1048576 - (A : Int)).toNat = N := by omega
    rw [e1] at HW HF c0'
    have HE := hide e1
    clear e1 e2
    go_enter Tryz.func301, Tryz.ntmps301
    go_wp2_with fail
    generalize (w.setCell ⟨x, 1, none⟩ (.int .i64 ((A : Int) + (1048576 - (A : Int))))) = wS at *
    go_region_held3 (fun w' => w'.cell? ⟨x, 0, none⟩ = some (.pointer (some ⟨p, 0, none⟩)))
      (first | exact K5 | go_keep)
      (first
        | (go_at_call 294; refine HW.out.mono ?_; rintro e w5 ⟨rfl, hS⟩; have K5 : w5.cell? ⟨x, 0, none⟩ = some (.pointer (some ⟨p, 0, none⟩)) := by obtain ⟨O', hS1, hS2, hS3⟩ := hS; exact hS3.cell c0' hxO)
        | fail)
    go_wp2
    exact HF.out _ hS
  · obtain rfl : N = m := by have := HD.out.1; omega
    have e1 : 1048576 - (A : Int) = (N : Int) := by omega
    have d3 : (N : Int) ≤ (cx : Int) := by omega
    have d4 : (A : Int) ≤ 1048576 := by omega
    clear hc
    go_enter Tryz.func301, Tryz.ntmps301
    go_wp2_with fail
    generalize (w.setCell ⟨x, 1, none⟩ (.int .i64 ((A : Int) + (N : Int)))) = wS at *
    go_region_held3 (fun w' => w'.cell? ⟨x, 0, none⟩ = some (.pointer (some ⟨p, 0, none⟩)))
      (first | exact K5 | go_keep)
      (first
        | (go_at_call 294; refine HW.out.mono ?_; rintro e w5 ⟨rfl, hS⟩; have K5 : w5.cell? ⟨x, 0, none⟩ = some (.pointer (some ⟨p, 0, none⟩)) := by obtain ⟨O', hS1, hS2, hS3⟩ := hS; exact hS3.cell c0' hxO)
        | fail)
    go_wp2
    exact HF.out _ hS
end Go.Proofs.YtkkommomefmpgaaGreat

/- The program's kernel: what a pipe's end does. -/
namespace Go.Proofs.YtkkommomefmpgaaGreat
open Go.RowKit Go.Maps

theorem recv_cell (w : World) (v : Value) (t : TypeId) : (w.alloc (Obj.cells #[v] t)).cell? ⟨w.heap.size, 0, none⟩ = some v := cell_new w v t
theorem recv_below (w : World) (o : Obj) : Below w.heap.size w (w.alloc o) := (Below.refl _ _).alloc (Nat.le_refl _) _
theorem PipeAt.under {W W' : World} {g : Nat} {q : List UInt8} {rd wt : Nat} (h : PipeAt W g q rd wt) (hB : Below W.heap.size W W') : PipeAt W' g q rd wt := h.keep (hB.block g h.lt)
set_option maxRecDepth 100000 in
set_option maxHeartbeats 1000000 in
theorem pp_readWaits (p : Nat) (q : List UInt8) (rd wt : Nat) (w : World) (h : PipeAt w p q rd wt) :
    Calls Tryz.prog 325 #[.agg #[.pointer (some ⟨p, 0, none⟩)]] w fun e w' => e = .returned (.bool (!canR q.length rd wt)) ∧ Below w.heap.size w w' := by
  have hB := recv_below w (Obj.cells #[.pointer (some ⟨p, 0, none⟩)] 271)
  have c0 := recv_cell w (.pointer (some ⟨p, 0, none⟩)) 271
  have HC := hide (canRead_any p q rd wt _ (h.under hB))
  clear h
  go_enter Tryz.func325, Tryz.ntmps325
  go_wp2_with fail
  refine HC.out.mono ?_
  rintro e w1 ⟨rfl, rfl⟩
  go_wp2
  go_ret
  exact ⟨rfl, hB⟩
set_option maxRecDepth 100000 in
set_option maxHeartbeats 1000000 in
theorem pp_refuses (p : Nat) (q : List UInt8) (rd wt : Nat) (n : Int) (w : World) (h : PipeAt w p q rd wt) :
    Calls Tryz.prog 326 #[.agg #[.pointer (some ⟨p, 0, none⟩)], .int .i64 n] w fun e w' => e = .returned (.int .i64 (if rd = 0 then 53 else if canW n q.length rd wt = false then 52 else 0)) ∧ Below w.heap.size w w' := by
  have hB := recv_below w (Obj.cells #[.pointer (some ⟨p, 0, none⟩)] 271)
  have c0 := recv_cell w (.pointer (some ⟨p, 0, none⟩)) 271
  have HE := hide (ends_any p q rd wt _ (h.under hB))
  have HC := hide (fun W hW => canWrite_any n p q rd wt W ((h.under hB).under hW))
  have hlt : w.heap.size < (w.alloc (Obj.cells #[.pointer (some ⟨p, 0, none⟩)] 271)).heap.size := size_new _ _
  clear h
  by_cases hr : rd = 0
  · subst hr
    rw [if_pos rfl]
    go_enter Tryz.func326, Tryz.ntmps326
    go_wp2_with fail
    refine HE.out.mono ?_
    rintro e w1 ⟨rfl, hB1⟩
    go_wp2
    go_ret
    exact ⟨rfl, hB.trans (hB1.mono hB.size)⟩
  · rw [if_neg hr]
    have d1 : ¬ (rd : Int) = 0 := by omega
    have d2 : ((rd : Int) == 0) = false := by simpa using d1
    generalize canW n q.length rd wt = can at *
    cases can
    · go_enter Tryz.func326, Tryz.ntmps326
      go_wp2_with fail
      refine HE.out.mono ?_
      rintro e w1 ⟨rfl, hB1⟩
      have c1 := (hB1.cell (p := ⟨w.heap.size, 0, none⟩) hlt).trans c0
      go_wp2_with fail
      refine (HC.out w1 hB1).mono ?_
      rintro e w2 ⟨rfl, rfl⟩
      go_wp2
      go_ret
      exact ⟨rfl, hB.trans (hB1.mono hB.size)⟩
    · go_enter Tryz.func326, Tryz.ntmps326
      go_wp2_with fail
      refine HE.out.mono ?_
      rintro e w1 ⟨rfl, hB1⟩
      have c1 := (hB1.cell (p := ⟨w.heap.size, 0, none⟩) hlt).trans c0
      go_wp2_with fail
      refine (HC.out w1 hB1).mono ?_
      rintro e w2 ⟨rfl, rfl⟩
      go_wp2
      go_ret
      exact ⟨rfl, hB.trans (hB1.mono hB.size)⟩
theorem PStep.after {w w1 w' : World} {O : Nat → Prop} {p : Nat} {ob : Ob} (hB : Below w.heap.size w w1) (h : PStep w1 O p ob w') : PStep w O p ob w' := by
  obtain ⟨O', h1, h2, h3⟩ := h
  exact ⟨O', h1, fun k e => (h2 k e).imp id (fun e => Nat.le_trans hB.size e), (Turned.of_below hB).trans h3 (fun _ _ e => e)⟩
set_option maxRecDepth 100000 in
set_option maxHeartbeats 1000000 in
theorem pp_read (p : Nat) (q : List UInt8) (rd wt : Nat) (m : Int) (O : Nat → Prop) (w : World) (h : PObj w O p (.pipe q rd wt)) :
    Calls Tryz.prog 324 #[.agg #[.pointer (some ⟨p, 0, none⟩)], .int .i64 m] w fun e w' => ∃ v, e = .returned (.tuple #[v, .int .i64 (Kp_rdE m q.length rd wt)]) ∧ w'.ownsRow w.heap.size 5 1 v (rdB m q rd wt).length ((rdB m q rd wt).map bv) ∧ PObj w' O p (.pipe (rdQ m q rd wt) rd wt) ∧ Turned O w w' := by
  have hB := recv_below w (Obj.cells #[.pointer (some ⟨p, 0, none⟩)] 271)
  have c0 := recv_cell w (.pointer (some ⟨p, 0, none⟩)) 271
  have HC := hide (po_pread O p q rd wt m _ (h.keep (fun k _ hlt => hB.block k hlt) hB.size))
  clear h
  go_enter Tryz.func324, Tryz.ntmps324
  go_wp2_with fail
  refine HC.out.mono ?_
  rintro e w1 ⟨v, rfl, hrow, hS⟩
  obtain ⟨va, vc, rfl⟩ := owns_slice hrow
  have HV := hide hrow
  have HS := hide hS
  clear hrow hS
  go_wp2
  go_ret2
  exact ⟨_, rfl, owns_mono HV.out hB.size, HS.out.1, (Turned.of_below hB).trans HS.out.2 (fun _ _ e => e)⟩
set_option maxRecDepth 100000 in
set_option maxHeartbeats 1000000 in
theorem pp_write (p : Nat) (q bs : List UInt8) (rd wt : Nat) (m : Int) (a1 : Option Addr) (cx : Nat) (O : Nat → Prop) (w : World) (h : PObj w O p (.pipe q rd wt)) (hb : Bys w (.slice a1 bs.length cx) bs) (hcap : bs.length ≤ cx) (h3 : bs.length ≤ 1048576) (hd : ∀ k, (Value.slice a1 bs.length cx).ownBlock = some k → ¬ O k) :
    Calls Tryz.prog 327 #[.agg #[.pointer (some ⟨p, 0, none⟩)], .slice a1 bs.length cx, .int .i64 m] w fun e w' => e = .returned (.tuple #[.int .i64 (wrN bs.length m q.length rd wt : Nat), .int .i64 (Kp_wrE bs.length m q.length rd wt)]) ∧ PStep w O p (.pipe (q ++ bs.take (wrN bs.length m q.length rd wt)) rd wt) w' := by
  have hB := recv_below w (Obj.cells #[.pointer (some ⟨p, 0, none⟩)] 271)
  have c0 := recv_cell w (.pointer (some ⟨p, 0, none⟩)) 271
  have HC := hide (po_pwrite O p q bs rd wt m a1 bs.length cx _ (h.keep (fun k _ hlt => hB.block k hlt) hB.size) (hb.below hB) hcap (by omega) (fun _ => hd))
  clear h hb
  go_enter Tryz.func327, Tryz.ntmps327
  go_wp2_with fail
  refine HC.out.mono ?_
  rintro e w1 ⟨rfl, hS⟩
  have HS := hide hS
  clear hS
  go_wp2
  go_ret2
  exact ⟨rfl, HS.out.after hB⟩
end Go.Proofs.YtkkommomefmpgaaGreat

/- The program's kernel: Read. -/
namespace Go.Proofs.YtkkommomefmpgaaGreat
open Go.RowKit Go.Maps

def Own (ρ : Nat → Option PTag) (k : Nat) : Prop := ∃ t, ρ k = some t
def PNext (ρ : Nat → Option PTag) (I : PI) (w : World) (K' : KS) (w' : World) : Prop := ∃ ρ' I', PK w' ρ' I' K' ∧ I'.kb = I.kb ∧ newTags ρ ρ' w ∧ Turned (Own ρ) w w'
theorem PNext.step {w w' : World} {O : Nat → Prop} {ρ : Nat → Option PTag} {I : PI} {K' : KS} (hO : ∀ k t, ρ k = some t → O k) (h : PNext ρ I w K' w') : KStep w O I.kb K' w' := by
  obtain ⟨ρ', I', h1, h2, h3, h4⟩ := h
  exact PK.step hO h1 h2 h3 h4
theorem newTags.refl (ρ : Nat → Option PTag) (w : World) : newTags ρ ρ w := fun _ t e => .inl ⟨t, e⟩
theorem PNext.of {w w' : World} {ρ : Nat → Option PTag} {I I' : PI} {K' : KS} (h : PK w' ρ I' K') (hk : I'.kb = I.kb) (hT : Turned (Own ρ) w w') : PNext ρ I w K' w' := ⟨ρ, I', h, hk, newTags.refl _ _, hT⟩
theorem PNext.after {w w1 w' : World} {ρ : Nat → Option PTag} {I I1 : PI} {K' : KS} (hT : Turned (Own ρ) w w1) (hk : I1.kb = I.kb) (h : PNext ρ I1 w1 K' w') : PNext ρ I w K' w' := by
  obtain ⟨ρ', I', h1, h2, h3, h4⟩ := h
  exact ⟨ρ', I', h1, h2.trans hk, fun k t e => (h3 k t e).imp id (fun e => Nat.le_trans hT.size e), hT.trans h4 (fun _ _ e => e)⟩
theorem PK.under {W W' : World} {ρ : Nat → Option PTag} {I : PI} {K : KS} (h : PK W ρ I K) (hB : Below W.heap.size W W') : PK W' ρ I K := h.keep (fun k t e => hB.block k (h.lt k t e)) hB.size
theorem PK.readUp {W : World} {ρ : Nat → Option PTag} {I : PI} {K : KS} (h : PK W ρ I K) : PK (W.setCell ⟨I.kb, 6, none⟩ (.int .i64 ((K.reads : Int) + 1))) ρ I { K with reads := K.reads + 1 } ∧ Turned (Own ρ) W (W.setCell ⟨I.kb, 6, none⟩ (.int .i64 ((K.reads : Int) + 1))) := by
  have hb := (h.comp .kern).1
  have hT := (Turned.refl (fun k => k = I.kb) W).set (g := I.kb) (j := 6) (u := .int .i64 ((K.reads : Int) + 1)) (.inl rfl)
  have := h.kernel (K.reads + 1) K.writes I.last (by rw [heap_setCell_same 6 _ hb]; rfl) hT (Nat.le_refl _)
  rw [← (h.comp .kern).2.2] at this
  exact ⟨this, hT.mono fun k e => ⟨.kern, by rw [e]; exact (h.comp .kern).2.1⟩⟩
theorem PK.writeUp {W : World} {ρ : Nat → Option PTag} {I : PI} {K : KS} (h : PK W ρ I K) : PK (W.setCell ⟨I.kb, 7, none⟩ (.int .i64 ((K.writes : Int) + 1))) ρ I { K with writes := K.writes + 1 } ∧ Turned (Own ρ) W (W.setCell ⟨I.kb, 7, none⟩ (.int .i64 ((K.writes : Int) + 1))) := by
  have hb := (h.comp .kern).1
  have hT := (Turned.refl (fun k => k = I.kb) W).set (g := I.kb) (j := 7) (u := .int .i64 ((K.writes : Int) + 1)) (.inl rfl)
  have := h.kernel K.reads (K.writes + 1) I.last (by rw [heap_setCell_same 7 _ hb]; rfl) hT (Nat.le_refl _)
  rw [← (h.comp .kern).2.2] at this
  exact ⟨this, hT.mono fun k e => ⟨.kern, by rw [e]; exact (h.comp .kern).2.1⟩⟩
theorem knext_any (ρ : Nat → Option PTag) (I : PI) (K : KS) (want : Int) (w : World) (h : PK w ρ I K) (h1 : 1 ≤ want) (h2 : want ≤ 1048576) :
    Calls Tryz.prog 141 #[.pointer (some ⟨I.pb, 0, none⟩), .int .i64 want] w fun e w' => e = .returned (.tuple #[.int .i64 (nxt K.plan want).1, .int .i64 (nxt K.plan want).2]) ∧ ∃ v', PK w' ρ { I with pv := v' } { K with plan := K.plan.tail } ∧ Turned (Own ρ) w w' := by
  have hp := (h.comp .plan).1
  cases hpl : K.plan with
  | nil =>
    rw [hpl] at hp
    refine (next_end I.pb I.pv want w hp h1 h2).mono ?_
    rintro e w' ⟨rfl, rfl⟩
    refine ⟨by rw [show nxt ([] : List Fault) want = (want, 0) by simp [nxt]; omega], I.pv, ?_, Turned.refl _ _⟩
    have : ({ K with plan := ([] : List Fault).tail } : KS) = K := by
      obtain ⟨_, _, _, _, plan, _, _⟩ := K
      simp only at hpl
      subst hpl
      rfl
    rw [this]
    exact h
  | cons f r =>
    have hpo := h.ok.plan
    rw [hpl] at hp hpo
    refine (next_some I.pb I.pv f r want w hp h1 h2 (by have := hpo.1; simp at this; unfold maxLen; omega)).mono ?_
    rintro e w' ⟨rfl, v', h3, h4, h5⟩
    have hT : Turned (fun k => k = I.pb) w w' := (Turned.refl _ w).grown h5 (fun k e => by cases e; exact .inl rfl)
    exact ⟨rfl, v', h.used h3 (fun k e => by rw [← h4]; exact e) hT hpo.tail, hT.mono fun k e => ⟨.plan, by rw [e]; exact (h.comp .plan).2.1⟩⟩
theorem PK.objStep {W W' : World} {ρ : Nat → Option PTag} {I : PI} {K : KS} (h : PK W ρ I K) {i : Nat} (hi : i < K.th.length) {ob' : Ob} (hk : ob'.kind = K.th[i].ob.kind) (hS : PStep W (fun k => ρ k = some (.obj i)) (I.ob i) ob' W')
    (hc : ∀ ls scr, ob' = .term ls scr → ∃ ls0 scr0, K.th[i].ob = .term ls0 scr0 ∧ scr.length = scr0.length) : PNext ρ I W (K.setOb i ob') W' := by
  obtain ⟨O', h1, h2, h3⟩ := hS
  obtain ⟨ρ', h4, h5, h6⟩ := h.setOb hi hk (h3.mono fun k e => Or.inl e) h1 h2 (fun ls scr e => by
    obtain ⟨ls0, scr0, e0, e1⟩ := hc ls scr e
    obtain ⟨a1, a2⟩ := h.comp (.cons i) hi ls0 scr0 e0
    rw [e1]
    exact (h3.block _ (h.lt _ _ a2) (fun e' => by rw [a2] at e'; cases e')).trans a1)
  exact ⟨ρ', I, h4, rfl, h5, h3.mono fun k e => ⟨_, e⟩⟩
def PHold (ρ : Nat → Option PTag) (I : PI) (w : World) (K' : KS) (w' : World) : Prop := ∃ ρ' I', PK w' ρ' I' K' ∧ I'.kb = I.kb ∧ (∀ k, Own ρ' k → Own ρ k) ∧ Turned (Own ρ) w w'
theorem PHold.of {w w' : World} {ρ : Nat → Option PTag} {I I' : PI} {K' : KS} (h : PK w' ρ I' K') (hk : I'.kb = I.kb) (hT : Turned (Own ρ) w w') : PHold ρ I w K' w' := ⟨ρ, I', h, hk, fun _ e => e, hT⟩
theorem PHold.after {w w1 w' : World} {ρ : Nat → Option PTag} {I I1 : PI} {K' : KS} (hT : Turned (Own ρ) w w1) (hk : I1.kb = I.kb) (h : PHold ρ I1 w1 K' w') : PHold ρ I w K' w' := by
  obtain ⟨ρ', I', h1, h2, h3, h4⟩ := h
  exact ⟨ρ', I', h1, h2.trans hk, h3, hT.trans h4 (fun _ _ e => e)⟩
theorem PK.objHold {W W' : World} {ρ : Nat → Option PTag} {I : PI} {K : KS} (h : PK W ρ I K) {i : Nat} (hi : i < K.th.length) {ob' : Ob} (hk : ob'.kind = K.th[i].ob.kind) (hO : PObj W' (fun k => ρ k = some (.obj i)) (I.ob i) ob') (hT : Turned (fun k => ρ k = some (.obj i)) W W')
    (hc : ∀ ls scr, ob' = .term ls scr → ∃ ls0 scr0, K.th[i].ob = .term ls0 scr0 ∧ scr.length = scr0.length) : PHold ρ I W (K.setOb i ob') W' := by
  obtain ⟨ρ', h4, h5, h6⟩ := h.setOb hi hk (hT.mono fun k e => Or.inl e) hO (fun k e => .inl e) (fun ls scr e => by
    obtain ⟨ls0, scr0, e0, e1⟩ := hc ls scr e
    obtain ⟨a1, a2⟩ := h.comp (.cons i) hi ls0 scr0 e0
    rw [e1]
    exact (hT.block _ (h.lt _ _ a2) (fun e' => by rw [a2] at e'; cases e')).trans a1)
  exact ⟨ρ', I, h4, rfl, fun k ⟨t, e⟩ => (h6.2 k t e).elim id (fun e => ⟨_, e⟩), hT.mono fun k e => ⟨_, e⟩⟩
def KS.rdx (K : KS) (x : De) (m : Int) : List UInt8 × Int × KS := match K.tho x with
  | .file b => (piece b x.pos m.toNat, 0, K.setDe { x with pos := x.pos + (piece b x.pos m.toNat).length })
  | .term ls scr => (rdH ls m, Te_rdE m, K.setOb x.th (.term (rdR ls m) scr))
  | .pipe q rd wt => (rdB m q rd wt, Kp_rdE m q.length rd wt, K.setOb x.th (.pipe (rdQ m q rd wt) rd wt))
def PRd (ρ : Nat → Option PTag) (I : PI) (w : World) (r : List UInt8 × Int × KS) (e : Ending) (w' : World) : Prop :=
  ∃ v, e = .returned (.tuple #[v, .int .i64 r.2.1]) ∧ w'.ownsRow w.heap.size 5 1 v r.1.length (r.1.map bv) ∧ PHold ρ I w r.2.2 w'
theorem PK.pobj {W : World} {ρ : Nat → Option PTag} {I : PI} {K : KS} (h : PK W ρ I K) {x : De} (hx : x ∈ K.de) : PObj W (fun k => ρ k = some (.obj x.th)) (I.ob x.th) (K.tho x) := by
  have hi := h.ok.th x hx
  rw [KS.tho_eq hi]
  exact h.comp (.obj x.th) hi
theorem xread_file (ρ : Nat → Option PTag) (I : PI) (K : KS) (x : De) (b : List UInt8) (m : Int) (w : World) (h : PK w ρ I K) (hx : x ∈ K.de) (ho : K.tho x = .file b) (h1 : 1 ≤ m) (h2 : m ≤ 1048576) :
    Calls Tryz.prog 307 #[.pointer (some ⟨I.xb x.n, 0, none⟩), .int .i64 m] w (PRd ρ I w (K.rdx x m)) := by
  have hO := h.pobj hx
  rw [ho] at hO
  obtain ⟨hb, ht⟩ := h.comp (.ofile x.n) x hx rfl b ho
  have hdc := h.comp (.desc x.n) x hx rfl
  have hpos := h.ok.pos x hx
  refine (of_read (I.xb x.n) (I.ob x.th) b x.pos (bit x.flags 4) m _ w hb hO hpos h1 h2).mono ?_
  rintro e w' ⟨v, rfl, hrow, hC, hT⟩
  rw [show K.rdx x m = (piece b x.pos m.toNat, 0, K.setDe { x with pos := x.pos + (piece b x.pos m.toNat).length }) by unfold KS.rdx; rw [ho]]
  have hle : x.pos + (piece b x.pos m.toNat).length ≤ 1048576 := by have := hO.1; rw [piece_len]; omega
  have hT2 : Turned (fun k => ρ k = some (.desc x.n) ∨ ρ k = some (.ofile x.n)) w w' := hT.mono fun k e => by rw [e]; exact .inr ht
  refine ⟨v, rfl, hrow, PHold.of (h.setDe hx (x' := { x with pos := x.pos + (piece b x.pos m.toNat).length }) rfl rfl rfl hle (h.ok.held x hx) hT2 ?_ ?_) rfl (hT.mono fun k e => ⟨.ofile x.n, by rw [e]; exact ht⟩)⟩
  · exact (hT.block _ (h.lt _ _ hdc.2) (fun e => by rw [e, ht] at hdc; cases hdc.2)).trans hdc.1
  · intro b' _
    exact hC
theorem xread_term (ρ : Nat → Option PTag) (I : PI) (K : KS) (x : De) (ls : List (List UInt8)) (scr : List UInt8) (m : Int) (w : World) (h : PK w ρ I K) (hx : x ∈ K.de) (ho : K.tho x = .term ls scr) :
    Calls Tryz.prog 298 #[.pointer (some ⟨I.cb x.th, 0, none⟩), .int .i64 m] w (PRd ρ I w (K.rdx x m)) := by
  have hO := h.pobj hx
  have hi := h.ok.th x hx
  have hth := KS.tho_eq (K := K) (x := x) hi
  rw [ho] at hO hth
  obtain ⟨hb, ht⟩ := h.comp (.cons x.th) hi ls scr hth.symm
  refine (co_read (I.cb x.th) (I.ob x.th) scr.length ls scr m _ w hb hO).mono ?_
  rintro e w' ⟨v, rfl, hrow, hS, hT⟩
  rw [show K.rdx x m = (rdH ls m, Te_rdE m, K.setOb x.th (.term (rdR ls m) scr)) by unfold KS.rdx; rw [ho]]
  exact ⟨v, rfl, hrow, h.objHold hi (by rw [← hth]; rfl) hS hT (fun ls' scr' e => ⟨ls, scr, hth.symm, by cases e; rfl⟩)⟩
theorem xread_pipe (ρ : Nat → Option PTag) (I : PI) (K : KS) (x : De) (q : List UInt8) (rd wt : Nat) (m : Int) (w : World) (h : PK w ρ I K) (hx : x ∈ K.de) (ho : K.tho x = .pipe q rd wt) :
    Calls Tryz.prog 324 #[.agg #[.pointer (some ⟨I.ob x.th, 0, none⟩)], .int .i64 m] w (PRd ρ I w (K.rdx x m)) := by
  have hO := h.pobj hx
  have hi := h.ok.th x hx
  have hth := KS.tho_eq (K := K) (x := x) hi
  rw [ho] at hO hth
  refine (pp_read (I.ob x.th) q rd wt m _ w hO).mono ?_
  rintro e w' ⟨v, rfl, hrow, hS, hT⟩
  rw [show K.rdx x m = (rdB m q rd wt, Kp_rdE m q.length rd wt, K.setOb x.th (.pipe (rdQ m q rd wt) rd wt)) by unfold KS.rdx; rw [ho]]
  exact ⟨v, rfl, hrow, h.objHold hi (by rw [← hth]; rfl) hS hT (fun ls' scr' e => by cases e)⟩
theorem read_is {K : KS} {d n : Int} {x : De} (hx : K.find d = some x) (h1 : fbit x.flags 1 ≠ 0) (h2 : 1 ≤ n) (h3 : n ≤ 1048576) (h4 : (K.tho x).waits = false) :
    K.read d n = if (nxt K.plan n).2 = 0 then K.readUp.rdx x (nxt K.plan n).1 else ([], (nxt K.plan n).2, K.readUp) := by
  unfold KS.read KS.rdx
  rw [hx]
  simp only
  rw [if_neg h1, if_neg (by omega), if_neg (by omega), if_neg (by rw [h4]; decide)]
  show _ = if _ then (match K.tho x with | .file b => _ | .term ls scr => _ | .pipe q rd wt => _) else _
  split
  · cases K.tho x <;> rfl
  · rfl
theorem PRd.refused {w : World} {ρ : Nat → Option PTag} {I : PI} {K : KS} {w' : World} (h : PK w ρ I K) (hB : Below w.heap.size w w') (E : Int) : PRd ρ I w ([], E, K) (.returned (.tuple #[.slice none 0 0, .int .i64 E])) w' :=
  ⟨_, rfl, World.ownsRow_nil _ _ _ _, PHold.of (h.under hB) rfl (Turned.of_below hB)⟩
end Go.Proofs.YtkkommomefmpgaaGreat

/- The program's kernel: what is written to a thing. -/
namespace Go.Proofs.YtkkommomefmpgaaGreat
open Go.RowKit Go.Maps

def KS.wrx (K : KS) (x : De) (b : List UInt8) (m : Int) : Int × Int × KS := match K.tho x with
  | .file f => ((min m.toNat (1048576 - placeOf f x.flags x.pos) : Nat), 0, (K.setOb x.th (.file (wrL f (placeOf f x.flags x.pos) (b.take (min m.toNat (1048576 - placeOf f x.flags x.pos)))))).setDe { x with pos := placeOf f x.flags x.pos + min m.toNat (1048576 - placeOf f x.flags x.pos) })
  | .term ls scr => ((min m.toNat (1048576 - scr.length) : Nat), 0, K.setOb x.th (.term ls (scr ++ b.take (min m.toNat (1048576 - scr.length)))))
  | .pipe q rd wt => ((wrN b.length m q.length rd wt : Nat), Kp_wrE b.length m q.length rd wt, K.setOb x.th (.pipe (q ++ b.take (wrN b.length m q.length rd wt)) rd wt))
def PNum (ρ : Nat → Option PTag) (I : PI) (w : World) (r : Int × Int × KS) (e : Ending) (w' : World) : Prop :=
  e = .returned (.tuple #[.int .i64 r.1, .int .i64 r.2.1]) ∧ PNext ρ I w r.2.2 w'
theorem PNum.refused {w : World} {ρ : Nat → Option PTag} {I : PI} {K : KS} {w' : World} (h : PK w ρ I K) (hB : Below w.heap.size w w') (E : Int) : PNum ρ I w (0, E, K) (.returned (.tuple #[.int .i64 0, .int .i64 E])) w' :=
  ⟨rfl, PNext.of (h.under hB) rfl (Turned.of_below hB)⟩
theorem plc_place (b : List UInt8) (f : Int) (pos : Nat) : plc b (bit f 4) pos = placeOf b f pos := rfl
theorem xwrite_file (ρ : Nat → Option PTag) (I : PI) (K : KS) (x : De) (b bs : List UInt8) (m : Nat) (a1 : Option Addr) (cx : Nat) (w : World) (h : PK w ρ I K) (hx : x ∈ K.de) (ho : K.tho x = .file b)
    (hb : Bys w (.slice a1 bs.length cx) bs) (hcap : bs.length ≤ cx) (h1 : 1 ≤ m) (h2 : m ≤ bs.length) (h3 : bs.length ≤ 1048576) (hd : ∀ k, (Value.slice a1 bs.length cx).ownBlock = some k → ¬ Own ρ k) :
    Calls Tryz.prog 310 #[.pointer (some ⟨I.xb x.n, 0, none⟩), .slice a1 bs.length cx, .int .i64 m] w (PNum ρ I w (K.wrx x bs m)) := by
  have hO := h.pobj hx
  have hi := h.ok.th x hx
  have hth := KS.tho_eq (K := K) (x := x) hi
  rw [ho] at hO hth
  obtain ⟨hxb, ht⟩ := h.comp (.ofile x.n) x hx rfl b ho
  have hdc := h.comp (.desc x.n) x hx rfl
  have hpos := h.ok.pos x hx
  have hxO : ¬ ρ (I.xb x.n) = some (.obj x.th) := fun e => by rw [ht] at e; cases e
  refine (of_write (I.xb x.n) (I.ob x.th) b bs x.pos (bit x.flags 4) m a1 cx _ w hxb hO hxO hpos hb hcap h1 h2 h3 (fun k e => ⟨fun e' => hd k e ⟨_, e'⟩, fun e' => hd k e ⟨.ofile x.n, by rw [e']; exact ht⟩⟩)).mono ?_
  rintro e w' ⟨rfl, hS⟩
  rw [plc_place] at hS
  have hat : placeOf b x.flags x.pos ≤ 1048576 := by
    unfold placeOf; split
    · exact hO.1
    · exact hpos
  rw [show K.wrx x bs m = (((min m (1048576 - placeOf b x.flags x.pos) : Nat) : Int), 0, (K.setOb x.th (.file (wrL b (placeOf b x.flags x.pos) (bs.take (min m (1048576 - placeOf b x.flags x.pos)))))).setDe { x with pos := placeOf b x.flags x.pos + min m (1048576 - placeOf b x.flags x.pos) }) by unfold KS.wrx; rw [ho]; rfl]
  rw [plc_place]
  generalize placeOf b x.flags x.pos = A at *
  have hz : (bs.take (min m (1048576 - A))).length = min m (1048576 - A) := by simp; omega
  rw [hz] at hS ⊢
  have hN : A + min m (1048576 - A) ≤ 1048576 := by omega
  generalize min m (1048576 - A) = N at *
  have hT1 := (Turned.refl (fun k => k = I.xb x.n) w).set (g := I.xb x.n) (j := 1) (u := .int .i64 ((A : Int) + (N : Int))) (.inl rfl)
  have hP1 : PK (w.setCell ⟨I.xb x.n, 1, none⟩ (.int .i64 ((A : Int) + (N : Int)))) ρ I (K.setDe { x with pos := A + N }) := by
    refine h.setDe hx (x' := { x with pos := A + N }) rfl rfl rfl hN (h.ok.held x hx) (hT1.mono fun k e => by rw [e]; exact .inr ht) ?_ ?_
    · exact (hT1.block _ (h.lt _ _ hdc.2) (fun e => by rw [e, ht] at hdc; cases hdc.2)).trans hdc.1
    · intro b' _
      rw [heap_setCell_same 1 _ hxb]
      rfl
  refine ⟨rfl, PNext.after (hT1.mono fun k e => ⟨.ofile x.n, by rw [e]; exact ht⟩) rfl (hP1.objStep (ob' := .file (wrL b A (bs.take N))) hi (by show (1 : Int) = (K.th[x.th].ob).kind; rw [← hth]; rfl) hS (fun ls scr e => by cases e))⟩
theorem xwrite_term (ρ : Nat → Option PTag) (I : PI) (K : KS) (x : De) (ls : List (List UInt8)) (scr bs : List UInt8) (m : Nat) (a1 : Option Addr) (cx : Nat) (w : World) (h : PK w ρ I K) (hx : x ∈ K.de) (ho : K.tho x = .term ls scr)
    (hb : Bys w (.slice a1 bs.length cx) bs) (hcap : bs.length ≤ cx) (h1 : 1 ≤ m) (h2 : m ≤ bs.length) (h3 : bs.length ≤ 1048576) (hd : ∀ k, (Value.slice a1 bs.length cx).ownBlock = some k → ¬ Own ρ k) :
    Calls Tryz.prog 301 #[.pointer (some ⟨I.cb x.th, 0, none⟩), .slice a1 bs.length cx, .int .i64 m] w (PNum ρ I w (K.wrx x bs m)) := by
  have hO := h.pobj hx
  have hi := h.ok.th x hx
  have hth := KS.tho_eq (K := K) (x := x) hi
  rw [ho] at hO hth
  obtain ⟨hcb, ht⟩ := h.comp (.cons x.th) hi ls scr hth.symm
  have hxO : ¬ ρ (I.cb x.th) = some (.obj x.th) := fun e => by rw [ht] at e; cases e
  have hat : scr.length ≤ 1048576 := hO.ok.2.2
  refine (co_write (I.cb x.th) (I.ob x.th) ls scr bs m a1 cx _ w hcb hO hxO hb hcap h1 h2 h3 (fun k e e' => hd k e ⟨.cons x.th, by rw [e']; exact ht⟩)).mono ?_
  rintro e w' ⟨rfl, hC, ⟨O', hO1, hO2⟩, hT⟩
  rw [show K.wrx x bs m = (((min m (1048576 - scr.length) : Nat) : Int), 0, K.setOb x.th (.term ls (scr ++ bs.take (min m (1048576 - scr.length))))) by unfold KS.wrx; rw [ho]; rfl]
  have hz : (bs.take (min m (1048576 - scr.length))).length = min m (1048576 - scr.length) := by simp; omega
  rw [hz]
  obtain ⟨ρ', a1, a2, a3⟩ := h.setOb hi (ob' := .term ls (scr ++ bs.take (min m (1048576 - scr.length)))) (by rw [← hth]; rfl) (hT.mono fun k e => e.imp id (fun e => by rw [e]; exact ht)) hO1 hO2 (fun ls' scr' e => by cases e; exact hC)
  exact ⟨rfl, ρ', I, a1, rfl, a2, hT.mono fun k e => by
    rcases e with e | e
    · exact ⟨_, e⟩
    · exact ⟨.cons x.th, by rw [e]; exact ht⟩⟩
theorem xwrite_pipe (ρ : Nat → Option PTag) (I : PI) (K : KS) (x : De) (q : List UInt8) (rd wt : Nat) (bs : List UInt8) (m : Int) (a1 : Option Addr) (cx : Nat) (w : World) (h : PK w ρ I K) (hx : x ∈ K.de) (ho : K.tho x = .pipe q rd wt)
    (hb : Bys w (.slice a1 bs.length cx) bs) (hcap : bs.length ≤ cx) (h3 : bs.length ≤ 1048576) (hd : ∀ k, (Value.slice a1 bs.length cx).ownBlock = some k → ¬ Own ρ k) :
    Calls Tryz.prog 327 #[.agg #[.pointer (some ⟨I.ob x.th, 0, none⟩)], .slice a1 bs.length cx, .int .i64 m] w (PNum ρ I w (K.wrx x bs m)) := by
  have hO := h.pobj hx
  have hi := h.ok.th x hx
  have hth := KS.tho_eq (K := K) (x := x) hi
  rw [ho] at hO hth
  refine (pp_write (I.ob x.th) q bs rd wt m a1 cx _ w hO hb hcap h3 (fun k e e' => hd k e ⟨_, e'⟩)).mono ?_
  rintro e w' ⟨rfl, hS⟩
  rw [show K.wrx x bs m = (((wrN bs.length m q.length rd wt : Nat) : Int), Kp_wrE bs.length m q.length rd wt, K.setOb x.th (.pipe (q ++ bs.take (wrN bs.length m q.length rd wt)) rd wt)) by unfold KS.wrx; rw [ho]]
  exact ⟨rfl, h.objStep hi (by rw [← hth]; rfl) hS (fun ls' scr' e => by cases e)⟩
theorem write_is {K : KS} {d : Int} {b : List UInt8} {x : De} (hx : K.find d = some x) (h1 : fbit x.flags 2 ≠ 0) (h2 : 1 ≤ b.length) (h3 : b.length ≤ 1048576) (h4 : refusal (K.tho x) x.flags x.pos b.length = 0) :
    K.write d b = if (nxt K.plan b.length).2 = 0 then K.writeUp.wrx x b (nxt K.plan b.length).1 else (0, (nxt K.plan b.length).2, K.writeUp) := by
  unfold KS.write KS.wrx
  rw [hx]
  simp only
  rw [if_neg h1, if_neg (by omega), if_neg (by omega), if_pos h4]
  show _ = if _ then (match K.tho x with | .file b => _ | .term ls scr => _ | .pipe q rd wt => _) else _
  split
  · cases K.tho x <;> rfl
  · rfl
end Go.Proofs.YtkkommomefmpgaaGreat

/- The program's kernel: Seek, Keep. -/
namespace Go.Proofs.YtkkommomefmpgaaGreat
open Go.RowKit Go.Maps

theorem as_openFile_openFile (x : Nat) (w : World) : (Instr.typeAssert (.iface 261 (.pointer (some ⟨x, 0, none⟩))) 230 261 true).run Tryz.prog w = .ok (.tuple #[(.pointer (some ⟨x, 0, none⟩)), .bool true]) w := by kernel_rfl
theorem as_openFile_console (x : Nat) (w : World) : (Instr.typeAssert (.iface 104 (.pointer (some ⟨x, 0, none⟩))) 230 261 true).run Tryz.prog w = .ok (.tuple #[.pointer none, .bool false]) w := by kernel_rfl
theorem as_openFile_pipeEnd (x : Nat) (w : World) : (Instr.typeAssert (.iface 271 (.agg #[.pointer (some ⟨x, 0, none⟩)])) 230 261 true).run Tryz.prog w = .ok (.tuple #[.pointer none, .bool false]) w := by kernel_rfl
set_option maxRecDepth 100000 in
theorem fileOf_yes (x : Nat) (w : World) : Calls Tryz.prog 153 #[.iface 261 (.pointer (some ⟨x, 0, none⟩))] w fun e w' => e = .returned (.tuple #[.pointer (some ⟨x, 0, none⟩), .bool true]) ∧ w' = w := by
  have ha := as_openFile_openFile x
  go_enter Tryz.func153, Tryz.ntmps153
  go_wp2
  go_ret2
  exact ⟨rfl, rfl⟩
set_option maxRecDepth 100000 in
theorem fileOf_term (x : Nat) (w : World) : Calls Tryz.prog 153 #[.iface 104 (.pointer (some ⟨x, 0, none⟩))] w fun e w' => e = .returned (.tuple #[.pointer none, .bool false]) ∧ w' = w := by
  have ha := as_openFile_console x
  go_enter Tryz.func153, Tryz.ntmps153
  go_wp2
  go_ret2
  exact ⟨rfl, rfl⟩
set_option maxRecDepth 100000 in
theorem fileOf_pipe (x : Nat) (w : World) : Calls Tryz.prog 153 #[.iface 271 (.agg #[.pointer (some ⟨x, 0, none⟩)])] w fun e w' => e = .returned (.tuple #[.pointer none, .bool false]) ∧ w' = w := by
  have ha := as_openFile_pipeEnd x
  go_enter Tryz.func153, Tryz.ntmps153
  go_wp2
  go_ret2
  exact ⟨rfl, rfl⟩
theorem PK.seekTo {W : World} {ρ : Nat → Option PTag} {I : PI} {K : KS} (h : PK W ρ I K) {x : De} (hx : x ∈ K.de) {b : List UInt8} (ho : K.tho x = .file b) (p : Nat) (hp : p ≤ 1048576) (v : Int) (hv : v = (p : Int)) :
    PNext ρ I W (K.setDe { x with pos := p }) (W.setCell ⟨I.xb x.n, 1, none⟩ (.int .i64 v)) := by
  subst hv
  obtain ⟨hxb, ht⟩ := h.comp (.ofile x.n) x hx rfl b ho
  have hdc := h.comp (.desc x.n) x hx rfl
  have hT1 := (Turned.refl (fun k => k = I.xb x.n) W).set (g := I.xb x.n) (j := 1) (u := .int .i64 (p : Int)) (.inl rfl)
  refine PNext.of (h.setDe hx (x' := { x with pos := p }) rfl rfl rfl hp (h.ok.held x hx) (hT1.mono fun k e => by rw [e]; exact .inr ht) ?_ ?_) rfl (hT1.mono fun k e => ⟨.ofile x.n, by rw [e]; exact ht⟩)
  · exact (hT1.block _ (h.lt _ _ hdc.2) (fun e => by rw [e, ht] at hdc; cases hdc.2)).trans hdc.1
  · intro b' _
    rw [heap_setCell_same 1 _ hxb]
    rfl
set_option maxRecDepth 100000 in
set_option maxHeartbeats 4000000 in
theorem kseek_any (ρ : Nat → Option PTag) (I : PI) (K : KS) (d off wh : Int) (w : World) (h : PK w ρ I K) (hd : I64 d) (hoff : I64 off) :
    Calls Tryz.prog 56 #[.pointer (some ⟨I.kb, 0, none⟩), .int .i64 d, .int .i64 off, .int .i64 wh] w (PNum ρ I w (K.seek d off wh)) := by
  have HF := hide (described_any ρ I K d w h hd)
  have HX := hide fun E => PNum.refused h (Below.refl _ w) E
  cases hx : K.find d with
  | none =>
    rw [hx] at HF
    rw [show K.seek d off wh = (0, 64, K) by unfold KS.seek; rw [hx]]
    clear h
    go_enter Tryz.func56, Tryz.ntmps56
    go_wp2_with fail
    refine HF.out.mono ?_
    rintro e w1 ⟨rfl, rfl⟩
    unfold descV
    go_wp2
    go_ret2
    exact HX.out 64
  | some x =>
    rw [hx] at HF
    have hm := (KS.find_some hx).1
    have c0 := (h.desc hm).thing
    have hpos := h.ok.pos x hm
    have HO := hide (h.pobj hm)
    cases ho : K.tho x with
    | term ls scr =>
      rw [show K.seek d off wh = (0, 66, K) by unfold KS.seek; rw [hx]; simp only; rw [ho]]
      rw [thing_term ho] at c0
      clear h
      go_enter Tryz.func56, Tryz.ntmps56
      go_wp2_with fail
      refine HF.out.mono ?_
      rintro e w1 ⟨rfl, rfl⟩
      unfold descV
      go_wp2_with fail
      refine (fileOf_term (I.cb x.th) _).mono ?_
      rintro e w2 ⟨rfl, rfl⟩
      go_wp2
      go_ret2
      exact HX.out 66
    | pipe q rd wt =>
      rw [show K.seek d off wh = (0, 66, K) by unfold KS.seek; rw [hx]; simp only; rw [ho]]
      rw [thing_pipe ho] at c0
      clear h
      go_enter Tryz.func56, Tryz.ntmps56
      go_wp2_with fail
      refine HF.out.mono ?_
      rintro e w1 ⟨rfl, rfl⟩
      unfold descV
      go_wp2_with fail
      refine (fileOf_pipe (I.ob x.th) _).mono ?_
      rintro e w2 ⟨rfl, rfl⟩
      go_wp2
      go_ret2
      exact HX.out 66
    | file b =>
      rw [thing_file ho] at c0
      rw [ho] at HO
      have hbl := HO.out.1
      obtain ⟨c1, c2, c3, c4⟩ := OFc.cells (h.comp (.ofile x.n) x hm rfl b ho).1
      have HSz := hide (po_fsize _ (I.ob x.th) b w HO.out)
      have HT := hide fun p hp v hv => h.seekTo hm ho p hp v hv
      have hR : ∀ base : Int, base = (if wh = 1 then (x.pos : Int) else if wh = 2 then (b.length : Int) else 0) → 0 ≤ wh → wh ≤ 2 → K.seek d off wh = if 0 ≤ base + off ∧ base + off ≤ 1048576 then (base + off, 0, K.setDe { x with pos := (base + off).toNat }) else (0, 4, K) := by
        intro base hb h1 h2
        subst hb
        unfold KS.seek
        rw [hx]
        simp only
        rw [ho]
        simp only
        rw [if_neg (by omega)]
      by_cases hw : wh < 0 ∨ 2 < wh
      · rw [show K.seek d off wh = (0, 1, K) by unfold KS.seek; rw [hx]; simp only; rw [ho]; simp only; rw [if_pos hw]]
        have q0 : ¬ wh = 0 := by omega
        have q1 : ¬ wh = 1 := by omega
        have q2 : ¬ wh = 2 := by omega
        have r0 : (wh == 0) = false := by simpa using q0
        have r1 : (wh == 1) = false := by simpa using q1
        have r2 : (wh == 2) = false := by simpa using q2
        have s0 : ((0 : Int) == wh) = false := by simp; omega
        have s1 : ((1 : Int) == wh) = false := by simp; omega
        have s2 : ((2 : Int) == wh) = false := by simp; omega
        clear h hR HT
        go_enter Tryz.func56, Tryz.ntmps56
        go_wp2_with fail
        refine HF.out.mono ?_
        rintro e w1 ⟨rfl, rfl⟩
        unfold descV
        go_wp2_with fail
        refine (fileOf_yes (I.xb x.n) _).mono ?_
        rintro e w2 ⟨rfl, rfl⟩
        go_wp2
        go_ret2
        exact HX.out 1
      · obtain ⟨o1, o2⟩ := hoff
        rcases (show wh = 0 ∨ wh = 1 ∨ wh = 2 by omega) with rfl | rfl | rfl
        · have hK := hR (0 : Int) (by simp) (by omega) (by omega)
          by_cases hin : 0 ≤ (0 : Int) + off ∧ (0 : Int) + off ≤ 1048576
          · rw [if_pos hin] at hK
            rw [hK]
            have HD := hide (HT.out ((0 : Int) + off).toNat (by omega) (off) (by omega))
            have t1 : ¬ off < -(0 : Int) := by omega
            have t2 : ¬ 1048576 - (0 : Int) < off := by omega
            have HI := hide hin
            clear h hR HT hK hin
            go_enter Tryz.func56, Tryz.ntmps56
            go_wp2_with fail
            refine HF.out.mono ?_
            rintro e w1 ⟨rfl, rfl⟩
            unfold descV
            go_wp2_with fail
            refine (fileOf_yes (I.xb x.n) _).mono ?_
            rintro e w2 ⟨rfl, rfl⟩
            go_wp2
            go_ret2
            refine ⟨?_, HD.out⟩
            first | rfl | (simp only [Int.zero_add]; rfl)
          · rw [if_neg hin] at hK
            rw [hK]
            clear h hR HT hK
            by_cases t1 : off < -(0 : Int)
            · go_enter Tryz.func56, Tryz.ntmps56
              go_wp2_with fail
              refine HF.out.mono ?_
              rintro e w1 ⟨rfl, rfl⟩
              unfold descV
              go_wp2_with fail
              refine (fileOf_yes (I.xb x.n) _).mono ?_
              rintro e w2 ⟨rfl, rfl⟩
              go_wp2
              go_ret2
              exact HX.out 4
            · have t2 : 1048576 - (0 : Int) < off := by omega
              go_enter Tryz.func56, Tryz.ntmps56
              go_wp2_with fail
              refine HF.out.mono ?_
              rintro e w1 ⟨rfl, rfl⟩
              unfold descV
              go_wp2_with fail
              refine (fileOf_yes (I.xb x.n) _).mono ?_
              rintro e w2 ⟨rfl, rfl⟩
              go_wp2
              go_ret2
              exact HX.out 4
        · have hK := hR (x.pos : Int) (by simp) (by omega) (by omega)
          by_cases hin : 0 ≤ (x.pos : Int) + off ∧ (x.pos : Int) + off ≤ 1048576
          · rw [if_pos hin] at hK
            rw [hK]
            have HD := hide (HT.out ((x.pos : Int) + off).toNat (by omega) ((x.pos : Int) + off) (by omega))
            have t1 : ¬ off < -(x.pos : Int) := by omega
            have t2 : ¬ 1048576 - (x.pos : Int) < off := by omega
            have HI := hide hin
            clear h hR HT hK hin
            go_enter Tryz.func56, Tryz.ntmps56
            go_wp2_with fail
            refine HF.out.mono ?_
            rintro e w1 ⟨rfl, rfl⟩
            unfold descV
            go_wp2_with fail
            refine (fileOf_yes (I.xb x.n) _).mono ?_
            rintro e w2 ⟨rfl, rfl⟩
            go_wp2
            go_ret2
            refine ⟨?_, HD.out⟩
            first | rfl | (simp only [Int.zero_add]; rfl)
          · rw [if_neg hin] at hK
            rw [hK]
            clear h hR HT hK
            by_cases t1 : off < -(x.pos : Int)
            · go_enter Tryz.func56, Tryz.ntmps56
              go_wp2_with fail
              refine HF.out.mono ?_
              rintro e w1 ⟨rfl, rfl⟩
              unfold descV
              go_wp2_with fail
              refine (fileOf_yes (I.xb x.n) _).mono ?_
              rintro e w2 ⟨rfl, rfl⟩
              go_wp2
              go_ret2
              exact HX.out 4
            · have t2 : 1048576 - (x.pos : Int) < off := by omega
              go_enter Tryz.func56, Tryz.ntmps56
              go_wp2_with fail
              refine HF.out.mono ?_
              rintro e w1 ⟨rfl, rfl⟩
              unfold descV
              go_wp2_with fail
              refine (fileOf_yes (I.xb x.n) _).mono ?_
              rintro e w2 ⟨rfl, rfl⟩
              go_wp2
              go_ret2
              exact HX.out 4
        · have hK := hR (b.length : Int) (by simp) (by omega) (by omega)
          by_cases hin : 0 ≤ (b.length : Int) + off ∧ (b.length : Int) + off ≤ 1048576
          · rw [if_pos hin] at hK
            rw [hK]
            have HD := hide (HT.out ((b.length : Int) + off).toNat (by omega) ((b.length : Int) + off) (by omega))
            have t1 : ¬ off < -(b.length : Int) := by omega
            have t2 : ¬ 1048576 - (b.length : Int) < off := by omega
            have HI := hide hin
            clear h hR HT hK hin
            go_enter Tryz.func56, Tryz.ntmps56
            go_wp2_with fail
            refine HF.out.mono ?_
            rintro e w1 ⟨rfl, rfl⟩
            unfold descV
            go_wp2_with fail
            refine (fileOf_yes (I.xb x.n) _).mono ?_
            rintro e w2 ⟨rfl, rfl⟩
            go_wp2_with fail
            refine HSz.out.mono ?_
            rintro e w3 ⟨rfl, rfl⟩
            go_wp2
            go_ret2
            refine ⟨?_, HD.out⟩
            first | rfl | (simp only [Int.zero_add]; rfl)
          · rw [if_neg hin] at hK
            rw [hK]
            clear h hR HT hK
            by_cases t1 : off < -(b.length : Int)
            · go_enter Tryz.func56, Tryz.ntmps56
              go_wp2_with fail
              refine HF.out.mono ?_
              rintro e w1 ⟨rfl, rfl⟩
              unfold descV
              go_wp2_with fail
              refine (fileOf_yes (I.xb x.n) _).mono ?_
              rintro e w2 ⟨rfl, rfl⟩
              go_wp2_with fail
              refine HSz.out.mono ?_
              rintro e w3 ⟨rfl, rfl⟩
              go_wp2
              go_ret2
              exact HX.out 4
            · have t2 : 1048576 - (b.length : Int) < off := by omega
              go_enter Tryz.func56, Tryz.ntmps56
              go_wp2_with fail
              refine HF.out.mono ?_
              rintro e w1 ⟨rfl, rfl⟩
              unfold descV
              go_wp2_with fail
              refine (fileOf_yes (I.xb x.n) _).mono ?_
              rintro e w2 ⟨rfl, rfl⟩
              go_wp2_with fail
              refine HSz.out.mono ?_
              rintro e w3 ⟨rfl, rfl⟩
              go_wp2
              go_ret2
              exact HX.out 4
end Go.Proofs.YtkkommomefmpgaaGreat

/- The program's kernel: Keep, Drop. -/
namespace Go.Proofs.YtkkommomefmpgaaGreat
open Go.RowKit Go.Maps

end Go.Proofs.YtkkommomefmpgaaGreat

/- The program's kernel: Drop, CanRead, CanWrite. -/
namespace Go.Proofs.YtkkommomefmpgaaGreat
open Go.RowKit Go.Maps

end Go.Proofs.YtkkommomefmpgaaGreat

/- The program's kernel: new things and new descriptions. -/
namespace Go.Proofs.YtkkommomefmpgaaGreat
open Go.RowKit Go.Maps

def upd (f : Nat → Nat) (i v : Nat) : Nat → Nat := fun j => if j = i then v else f j
theorem upd_same (f : Nat → Nat) (i v : Nat) : upd f i v i = v := by simp [upd]
theorem upd_other {f : Nat → Nat} {i v j : Nat} (h : j ≠ i) : upd f i v j = f j := by simp [upd, h]
structure More (K K' : KS) (t : Th) : Prop where
  th : K'.th = K.th ++ [t]
  de : K'.de = K.de
  next : K'.next = K.next
  plan : K'.plan = K.plan
  reads : K'.reads = K.reads
  writes : K'.writes = K.writes
theorem More.obOf {K K' : KS} {t : Th} (h : More K K' t) {j : Nat} (hj : j < K.th.length) : K'.obOf j = K.obOf j := by simp [KS.obOf, h.th, List.getElem?_append_left hj]
theorem More.nameOf {K K' : KS} {t : Th} (h : More K K' t) {j : Nat} (hj : j < K.th.length) : K'.nameOf j = K.nameOf j := by simp [KS.nameOf, h.th, List.getElem?_append_left hj]
theorem More.obNew {K K' : KS} {t : Th} (h : More K K' t) : K'.obOf K.th.length = t.ob := by simp [KS.obOf, h.th]
theorem More.nameNew {K K' : KS} {t : Th} (h : More K K' t) : K'.nameOf K.th.length = t.name := by simp [KS.nameOf, h.th]
theorem More.at {K K' : KS} {t : Th} (h : More K K' t) {j : Nat} (hj : j < K.th.length) (hj' : j < K'.th.length) : K'.th[j] = K.th[j] := by simp [h.th, List.getElem_append_left hj]
theorem More.atNew {K K' : KS} {t : Th} (h : More K K' t) (hj' : K.th.length < K'.th.length) : K'.th[K.th.length] = t := by simp [h.th]
theorem PK.more {W W' : World} {ρ : Nat → Option PTag} {I : PI} {K K' : KS} {t : Th} (h : PK W ρ I K) (hM : More K K' t) (p c : Nat) {O' : Nat → Prop} (hO : PObj W' O' p t.ob) (hO' : ∀ k, O' k → W.heap.size ≤ k ∧ k ≠ c)
    (hc : ∀ ls scr, t.ob = .term ls scr → COc W' c p scr.length ∧ W.heap.size ≤ c) (hT : Turned (fun k => ρ k = some .fmap ∨ ρ k = some .tmap) W W') (hok : KOk K') (hnm : KNm K')
    (hf : PMap W' Tryz.prog 9 I.fm (K'.fl { I with ob := upd I.ob K.th.length p, cb := upd I.cb K.th.length c })) (ht : PMap W' Tryz.prog 9 I.tm (K'.tl { I with ob := upd I.ob K.th.length p, cb := upd I.cb K.th.length c })) :
    ∃ ρ', PK W' ρ' { I with ob := upd I.ob K.th.length p, cb := upd I.cb K.th.length c } K' ∧ newTags ρ ρ' W ∧ ∀ k, k < W.heap.size → ρ' k = ρ k := by
  classical
  obtain ⟨ρ', hρ⟩ : ∃ ρ' : Nat → Option PTag, ρ' = fun k => if k < W.heap.size then ρ k else if k < W'.heap.size then (if k = c then some (.cons K.th.length) else if O' k then some (.obj K.th.length) else none) else none := ⟨_, rfl⟩
  have low : ∀ k, k < W.heap.size → ρ' k = ρ k := fun k hlt => by rw [hρ]; simp [hlt]
  have fit : ∀ {k t}, ρ k = some t → ρ' k = some t := fun {k t} e => (low k (h.lt k t e)).trans e
  have back : ∀ {k t}, ρ' k = some t → ρ k = some t ∨ (W.heap.size ≤ k ∧ k < W'.heap.size) := by
    intro k t e
    by_cases hlt : k < W.heap.size
    · rw [low k hlt] at e; exact .inl e
    · rw [hρ] at e
      simp only [if_neg hlt] at e
      split at e
      · exact .inr ⟨by omega, by assumption⟩
      · cases e
  have key : ∀ t, t ≠ .fmap → t ≠ .tmap → PComp W' ρ I K t := fun t h1 h2 => (h.comp t).keep (fun k e hlt => hT.block k hlt (fun e' => by
    rcases e' with e' | e'
    · rw [e'] at e; exact h1 (Option.some.inj e).symm
    · rw [e'] at e; exact h2 (Option.some.inj e).symm)) hT.size
  have hlen : K'.th.length = K.th.length + 1 := by rw [hM.th]; simp
  have hthv : ∀ d ∈ K.de, thingV { I with ob := upd I.ob K.th.length p, cb := upd I.cb K.th.length c } K' d = thingV I K d := by
    intro d hd
    have hlt := h.ok.th d hd
    unfold thingV
    rw [KS.tho_obOf, KS.tho_obOf, hM.obOf hlt]
    simp only [upd_other (Nat.ne_of_lt hlt)]
  refine ⟨ρ', ⟨fun t' => ?_, fun k t e => ?_, hok, hnm⟩, fun k t e => (back e).imp (fun e' => ⟨t, e'⟩) (fun e' => e'.1), low⟩
  · cases t' with
    | kern =>
      obtain ⟨a1, a2, a3⟩ := key .kern (by simp) (by simp)
      refine ⟨?_, fit a2, by rw [hM.next]; exact a3⟩
      rw [hM.reads, hM.writes]
      exact a1
    | fmap => exact ⟨hf, fit (h.comp .fmap).2⟩
    | tmap => exact ⟨ht, fit (h.comp .tmap).2⟩
    | omap =>
      obtain ⟨a1, a2⟩ := key .omap (by simp) (by simp)
      refine ⟨?_, fit a2⟩
      unfold KS.dl at a1 ⊢
      rw [hM.de]
      exact a1
    | plan =>
      obtain ⟨a1, a2, a3⟩ := key .plan (by simp) (by simp)
      refine ⟨?_, fit a2, fun k e => fit (a3 k e)⟩
      rw [hM.plan]
      exact a1
    | obj j =>
      intro hj
      by_cases e : j = K.th.length
      · subst e
        rw [hM.atNew hj]
        simp only [upd_same]
        refine hO.trim.mono fun k ⟨e1, e2⟩ => ?_
        have := hO' k e1
        rw [hρ]
        simp [Nat.not_lt.2 this.1, e2, this.2, e1]
      · have hj' : j < K.th.length := by omega
        rw [hM.at hj' hj]
        simp only [upd_other e]
        exact (key (.obj j) (by simp) (by simp) hj').mono fun k e => fit e
    | cons j =>
      intro hj ls scr e1
      by_cases e : j = K.th.length
      · subst e
        rw [hM.atNew hj] at e1
        obtain ⟨a1, a2⟩ := hc ls scr e1
        simp only [upd_same]
        have hlt : c < W'.heap.size := (Array.getElem?_eq_some_iff.1 a1).1
        exact ⟨a1, by rw [hρ]; simp [Nat.not_lt.2 a2, hlt]⟩
      · have hj' : j < K.th.length := by omega
        rw [hM.at hj' hj] at e1
        simp only [upd_other e]
        obtain ⟨a1, a2⟩ := key (.cons j) (by simp) (by simp) hj' ls scr e1
        exact ⟨a1, fit a2⟩
    | desc n =>
      intro d hd e
      rw [hM.de] at hd
      obtain ⟨a1, a2⟩ := key (.desc n) (by simp) (by simp) d hd e
      exact ⟨by rw [hthv d hd]; exact a1, fit a2⟩
    | ofile n =>
      intro d hd e b hb
      rw [hM.de] at hd
      have hlt := h.ok.th d hd
      rw [KS.tho_obOf, hM.obOf hlt] at hb
      simp only [upd_other (Nat.ne_of_lt hlt)]
      obtain ⟨a1, a2⟩ := key (.ofile n) (by simp) (by simp) d hd e b hb
      exact ⟨a1, fit a2⟩
  · rcases back e with e' | e'
    · exact Nat.lt_of_lt_of_le (h.lt k t e') hT.size
    · exact e'.2
structure Described (w : World) (I : PI) (K : KS) (tv : Value) (flags : Int) (nb : Nat) (w' : World) : Prop where
  new : w.heap.size ≤ nb
  desc : w'.heap[nb]? = some (.cells ([tv, .bool (bit flags 1), .bool (bit flags 2), .int .i64 (1 : Nat)] : List Value).toArray 246 (0, 0))
  kern : w'.heap[I.kb]? = some (.cells ([.bool true, .map (some I.fm), .map (some I.tm), .map (some I.om), .int .i64 ((I.last + 1 : Nat) : Int), .pointer (some ⟨I.pb, 0, none⟩), .int .i64 K.reads, .int .i64 K.writes] : List Value).toArray 96 (0, 0))
  map : PMap w' Tryz.prog 3 I.om ((dkey (I.last + 1), nb) :: K.dl I)
  turned : Turned (fun k => k = I.kb ∨ k = I.om) w w'
theorem PK.newDe {w w' : World} {ρ : Nat → Option PTag} {I : PI} {K : KS} (h : PK w ρ I K) {i : Nat} (hi : i < K.th.length) {flags : Int} (hf : flagsOk flags = true) (hfew : K.de.length < 256) {tv : Value} {nb xb : Nat} (hD : Described w I K tv flags nb w')
    (hx : ∀ b, K.obOf i = .file b → tv = .iface 261 (.pointer (some ⟨xb, 0, none⟩)) ∧ OFc w xb (I.ob i) 0 (bit flags 4) ∧ ρ xb = none)
    (hy : ∀ ls scr, K.obOf i = .term ls scr → tv = .iface 104 (.pointer (some ⟨I.cb i, 0, none⟩)))
    (hz : ∀ q rd wt, K.obOf i = .pipe q rd wt → tv = .iface 271 (.agg #[.pointer (some ⟨I.ob i, 0, none⟩)])) :
    ∃ ρ', PK w' ρ' { I with db := upd I.db K.next nb, xb := upd I.xb K.next xb, last := I.last + 1 } (K.newDe i flags) ∧ (∀ k t, ρ' k = some t → ρ k = some t ∨ k = nb ∨ ((∃ b, K.obOf i = .file b) ∧ k = xb)) ∧ (∀ k t, ρ k = some t → ρ' k = some t) := by
  classical
  have hnx := (h.comp .kern).2.2
  have hkb := (h.comp .kern).2.1
  have hom := (h.comp .omap).2
  obtain ⟨ρ', hρ⟩ : ∃ ρ' : Nat → Option PTag, ρ' = fun k => if k = nb then some (.desc K.next) else if (∃ b, K.obOf i = .file b) ∧ k = xb then some (.ofile K.next) else ρ k := ⟨_, rfl⟩
  have hnb : ∀ {k t}, ρ k = some t → k ≠ nb := fun {k t} e e' => by have := h.lt k t e; have := hD.new; omega
  have fit : ∀ {k t}, ρ k = some t → ρ' k = some t := fun {k t} e => by
    rw [hρ]
    simp only [if_neg (hnb e)]
    rw [if_neg (fun hh => by obtain ⟨⟨b, hb⟩, e'⟩ := hh; rw [e', (hx b hb).2.2] at e; cases e)]
    exact e
  have back : ∀ {k t}, ρ' k = some t → ρ k = some t ∨ k = nb ∨ ((∃ b, K.obOf i = .file b) ∧ k = xb) := fun {k t} e => by
    rw [hρ] at e
    simp only at e
    split at e
    · rename_i hh; exact .inr (.inl hh)
    · split at e
      · rename_i hh; exact .inr (.inr hh)
      · exact .inl e
  have hT := hD.turned
  have key : ∀ t, t ≠ .kern → t ≠ .omap → PComp w' ρ I K t := fun t h1 h2 => (h.comp t).keep (fun k e hlt => hT.block k hlt (fun e' => by
    rcases e' with e' | e'
    · rw [e', hkb] at e; exact h1 (Option.some.inj e).symm
    · rw [e', hom] at e; exact h2 (Option.some.inj e).symm)) hT.size
  have hmem : ∀ d, d ∈ (K.newDe i flags).de → d ∈ K.de ∨ d = ⟨K.next, i, flags, 0, 1⟩ := fun d hd => by
    have : d ∈ K.de ++ [(⟨K.next, i, flags, 0, 1⟩ : De)] := hd
    simpa using this
  have hold : ∀ d ∈ K.de, d.n ≠ K.next := fun d hd => by have := (h.ok.num d hd).2; omega
  have hthv : ∀ d ∈ K.de, thingV { I with db := upd I.db K.next nb, xb := upd I.xb K.next xb, last := I.last + 1 } (K.newDe i flags) d = thingV I K d := by
    intro d hd
    unfold thingV
    rw [show (K.newDe i flags).tho d = K.tho d from rfl]
    simp only [upd_other (hold d hd)]
  have h1n : 1 ≤ K.next := by omega
  refine ⟨ρ', ⟨fun t' => ?_, fun k t e => ?_, ?_, h.nm.same rfl rfl⟩, fun k t e => back e, fun k t e => fit e⟩
  · cases t' with
    | kern => exact ⟨hD.kern, fit hkb, by show K.next + 1 = _; rw [hnx]⟩
    | fmap => obtain ⟨a1, a2⟩ := key .fmap (by simp) (by simp); exact ⟨a1, fit a2⟩
    | tmap => obtain ⟨a1, a2⟩ := key .tmap (by simp) (by simp); exact ⟨a1, fit a2⟩
    | omap =>
      refine ⟨hD.map.perm ?_, fit hom⟩
      unfold KS.dl
      show List.Perm _ (List.map _ (K.de ++ [_]))
      rw [List.map_append]
      simp only [List.map_cons, List.map_nil, upd_same]
      rw [show K.de.map (fun d => (dkey d.n, upd I.db K.next nb d.n)) = K.de.map (fun d => (dkey d.n, I.db d.n)) from List.map_congr_left fun d hd => by rw [upd_other (hold d hd)], hnx]
      exact (List.perm_append_comm (l₁ := [_]) (l₂ := _))
    | plan => obtain ⟨a1, a2, a3⟩ := key .plan (by simp) (by simp); exact ⟨a1, fit a2, fun k e => fit (a3 k e)⟩
    | obj j => exact fun hj => (key (.obj j) (by simp) (by simp) hj).mono fun k e => fit e
    | cons j => exact fun hj ls scr e => by obtain ⟨a1, a2⟩ := key (.cons j) (by simp) (by simp) hj ls scr e; exact ⟨a1, fit a2⟩
    | desc n =>
      intro d hd e
      subst e
      rcases hmem d hd with hd | rfl
      · obtain ⟨a1, a2⟩ := key (.desc d.n) (by simp) (by simp) d hd rfl
        simp only [upd_other (hold d hd)]
        exact ⟨by rw [hthv d hd]; exact a1, fit a2⟩
      · simp only [upd_same]
        refine ⟨?_, by rw [hρ]; simp⟩
        rw [hD.desc]
        have : thingV { I with db := upd I.db K.next nb, xb := upd I.xb K.next xb, last := I.last + 1 } (K.newDe i flags) ⟨K.next, i, flags, 0, 1⟩ = tv := by
          unfold thingV
          rw [show (K.newDe i flags).tho ⟨K.next, i, flags, 0, 1⟩ = K.obOf i from rfl]
          cases ho : K.obOf i with
          | file b => simp only [upd_same]; exact (hx b ho).1.symm
          | term ls scr => exact (hy ls scr ho).symm
          | pipe q rd wt => exact (hz q rd wt ho).symm
        rw [this]
    | ofile n =>
      intro d hd e b hb
      subst e
      rcases hmem d hd with hd | rfl
      · obtain ⟨a1, a2⟩ := key (.ofile d.n) (by simp) (by simp) d hd rfl b hb
        simp only [upd_other (hold d hd)]
        exact ⟨a1, fit a2⟩
      · simp only [upd_same]
        have hb' : K.obOf i = .file b := hb
        obtain ⟨a1, a2, a3⟩ := hx b hb'
        have hlt : xb < w.heap.size := (Array.getElem?_eq_some_iff.1 a2).1
        refine ⟨(hT.block xb hlt (fun e => ?_)).trans a2, ?_⟩
        · rcases e with e | e
          · rw [e, hkb] at a3; cases a3
          · rw [e, hom] at a3; cases a3
        · rw [hρ]
          have : xb ≠ nb := by have := hD.new; omega
          simp [this, hb']
  · rcases back e with e' | rfl | ⟨⟨b, hb⟩, rfl⟩
    · exact Nat.lt_of_lt_of_le (h.lt k t e') hT.size
    · exact (Array.getElem?_eq_some_iff.1 hD.desc).1
    · exact Nat.lt_of_lt_of_le (Array.getElem?_eq_some_iff.1 (hx b hb).2.1).1 hT.size
  · refine ⟨by show (K.de ++ [_]).length ≤ 256; simp; omega, h.ok.named, fun d hd => ?_, h.ok.nm, fun d hd => ?_, fun d hd d' hd' e => ?_, fun d hd => ?_, fun d hd => ?_, fun d hd => ?_, h.ok.plan⟩
    · rcases hmem d hd with hd | rfl
      · exact h.ok.th d hd
      · exact hi
    · rcases hmem d hd with hd | rfl
      · have := h.ok.num d hd; exact ⟨this.1, by show d.n < K.next + 1; omega⟩
      · exact ⟨h1n, by show K.next < K.next + 1; omega⟩
    · rcases hmem d hd with hd | rfl <;> rcases hmem d' hd' with hd' | rfl
      · exact h.ok.once d hd d' hd' e
      · exact absurd e (hold d hd)
      · exact absurd e.symm (hold d' hd')
      · rfl
    · rcases hmem d hd with hd | rfl
      · exact h.ok.flags d hd
      · exact hf
    · rcases hmem d hd with hd | rfl
      · exact h.ok.pos d hd
      · exact Nat.zero_le _
    · rcases hmem d hd with hd | rfl
      · exact h.ok.held d hd
      · exact ⟨Nat.le_refl _, by show (1 : Nat) ≤ 1024; omega⟩
end Go.Proofs.YtkkommomefmpgaaGreat

/- The program's kernel: describe. -/
namespace Go.Proofs.YtkkommomefmpgaaGreat
open Go.RowKit Go.Maps

set_option maxRecDepth 100000 in
set_option maxHeartbeats 2000000 in
theorem describe_any (ρ : Nat → Option PTag) (I : PI) (K : KS) (tT : TypeId) (tu : Value) (flags : Int) (w : World) (h : PK w ρ I K) (hl : I.last + 1 < 9223372036854775807) :
    Calls Tryz.prog 135 #[.pointer (some ⟨I.kb, 0, none⟩), .iface tT tu, .int .i64 flags] w fun e w' => e = .returned (.int .i64 ((I.last + 1 : Nat) : Int)) ∧ ∃ nb, Described w I K (.iface tT tu) flags nb w' := by
  have c3 := h.cells.opens
  have c4 := h.cells.last
  have c4s : w.frozen? ⟨I.kb, 4, none⟩ = false := frozen_of_row w I.kb 4 _ _ (h.comp .kern).1
  have hb := (h.comp .kern).1
  have hT1 := (Turned.refl (fun k => k = I.kb) w).set (g := I.kb) (j := 4) (u := .int .i64 ((I.last : Int) + 1)) (.inl rfl)
  have b1 : (w.setCell ⟨I.kb, 4, none⟩ (.int .i64 ((I.last : Int) + 1))).heap[I.kb]? = some (.cells ([.bool true, .map (some I.fm), .map (some I.tm), .map (some I.om), .int .i64 ((I.last + 1 : Nat) : Int), .pointer (some ⟨I.pb, 0, none⟩), .int .i64 K.reads, .int .i64 K.writes] : List Value).toArray 96 (0, 0)) := by
    rw [heap_setCell_same 4 _ hb]; rfl
  have d3 : (w.setCell ⟨I.kb, 4, none⟩ (.int .i64 ((I.last : Int) + 1))).cell? ⟨I.kb, 3, none⟩ = some (.map (some I.om)) := by rw [cell_of_row _ I.kb _ _ _ _ b1]; rfl
  have d4 : (w.setCell ⟨I.kb, 4, none⟩ (.int .i64 ((I.last : Int) + 1))).cell? ⟨I.kb, 4, none⟩ = some (.int .i64 ((I.last : Int) + 1)) := by rw [cell_of_row _ I.kb _ _ _ _ b1]; rfl
  have hsz : (w.setCell ⟨I.kb, 4, none⟩ (.int .i64 ((I.last : Int) + 1))).heap.size = w.heap.size := heap_set_size _ _ _ _
  have hkb := h.lt _ _ (h.comp .kern).2.1
  have hom := h.lt _ _ (h.comp .omap).2
  have hne : I.om ≠ I.kb := fun e => by have := (h.comp .omap).2; rw [e, (h.comp .kern).2.1] at this; cases this
  have hfew := h.ok.few
  have hmap : PMap ((w.setCell ⟨I.kb, 4, none⟩ (.int .i64 ((I.last : Int) + 1))).drew.alloc (Obj.cells #[.iface tT tu, .bool (bit flags 1), .bool (bit flags 2), .int .i64 1] 246)) Tryz.prog 3 I.om (K.dl I) := by
    refine (h.comp .omap).1.keep ?_
    rw [Below.heap_alloc _ _ I.om (by show I.om < (w.setCell ⟨I.kb, 4, none⟩ (.int .i64 ((I.last : Int) + 1))).heap.size; omega)]
    exact hT1.block _ hom hne
  have hnew : ∀ p ∈ K.dl I, p.1 ≠ dkey (I.last + 1) := fun p hp e => by
    obtain ⟨d, hd, rfl⟩ := List.mem_map.1 hp
    have := (h.ok.num d hd).2
    have := (h.comp .kern).2.2
    simp only [dkey, Lit.int.injEq] at e
    omega
  obtain ⟨w', hrun, hm', hmt⟩ := hmap.store ikeyed Tryz.underlying93 (by show (K.dl I).length < maxLen; unfold KS.dl maxLen; simp; omega) (key := .int .i64 ((I.last : Int) + 1)) (kl := dkey (I.last + 1)) w.heap.size (by rw [show (dkey (I.last + 1)) = Lit.int .i64 ((I.last : Int) + 1) by simp [dkey]]; exact int_key _ (I64.wf ⟨by omega, by omega⟩)) hnew
  have hB2 : Below w.heap.size (w.setCell ⟨I.kb, 4, none⟩ (.int .i64 ((I.last : Int) + 1))) ((w.setCell ⟨I.kb, 4, none⟩ (.int .i64 ((I.last : Int) + 1))).drew.alloc (Obj.cells #[.iface tT tu, .bool (bit flags 1), .bool (bit flags 2), .int .i64 1] 246)) := (Below.refl _ _).drew.trans ((recv_below _ _).mono (by show w.heap.size ≤ (w.setCell ⟨I.kb, 4, none⟩ (.int .i64 ((I.last : Int) + 1))).heap.size; omega))
  have hT2 := mapTurned_turned hmt
  have HD : Hid (Described w I K (.iface tT tu) flags w.heap.size w') := hide (by
    have hlt2 : w.heap.size < ((w.setCell ⟨I.kb, 4, none⟩ (.int .i64 ((I.last : Int) + 1))).drew.alloc (Obj.cells #[.iface tT tu, .bool (bit flags 1), .bool (bit flags 2), .int .i64 1] 246)).heap.size := by
      have := size_new (w.setCell ⟨I.kb, 4, none⟩ (.int .i64 ((I.last : Int) + 1))).drew (Obj.cells #[.iface tT tu, .bool (bit flags 1), .bool (bit flags 2), .int .i64 1] 246)
      rw [← hsz]; exact this
    refine ⟨Nat.le_refl _, ?_, ?_, hm', ?_⟩
    · rw [hT2.block _ hlt2 (by omega)]
      have := heap_alloc_new (w.setCell ⟨I.kb, 4, none⟩ (.int .i64 ((I.last : Int) + 1))).drew (Obj.cells #[.iface tT tu, .bool (bit flags 1), .bool (bit flags 2), .int .i64 1] 246)
      rw [show (w.setCell ⟨I.kb, 4, none⟩ (.int .i64 ((I.last : Int) + 1))).drew.heap.size = w.heap.size from hsz] at this
      exact this
    · rw [hT2.block _ (by omega) (Ne.symm hne), hB2.block _ hkb]
      exact b1
    · exact ((hT1.mono fun k e => Or.inl e).trans (Turned.of_below (S := fun k => k = I.kb ∨ k = I.om) (hB2.mono (by omega))) (fun _ _ e => e)).trans (hT2.mono fun k e => Or.inr e) (fun _ _ e => e))
  have e3 := (hB2.cell (p := ⟨I.kb, 3, none⟩) hkb).trans d3
  have e4 := (hB2.cell (p := ⟨I.kb, 4, none⟩) hkb).trans d4
  have HF : Hid (w'.cell? ⟨I.kb, 4, none⟩ = some (.int .i64 ((I.last : Int) + 1))) := hide (hT2.cell e4 (Ne.symm hne))
  have hrun' : (Instr.mapUpdate 93 (.map (some I.om)) (.int .i64 ((I.last : Int) + 1)) (.pointer (some ⟨w.heap.size, 0, none⟩))).run Tryz.prog (((w.setCell ⟨I.kb, 4, none⟩ (.int .i64 ((I.last : Int) + 1))).alloc (Obj.cells #[.iface tT tu, .bool (bits .and .i64 flags 1 != 0), .bool (bits .and .i64 flags 2 != 0), .int .i64 1] 246)).drew) = .ok () w' := hrun
  have hF := HF.out
  clear hrun e3 e4 HF
  clear hB2 hT2 hmt hm' hmap hT1 h hb b1
  go_enter Tryz.func135, Tryz.ntmps135
  go_wp2_with fail
  go_region
  go_wp2
  go_ret
  exact ⟨by go_num, _, HD.out⟩
end Go.Proofs.YtkkommomefmpgaaGreat
