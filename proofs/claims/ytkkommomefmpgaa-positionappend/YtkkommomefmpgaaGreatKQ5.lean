/- What the proof stands on, part 5: the contracts of the program's calls that it reaches. -/
import Derived.Test.YtkkommomefmpgaaGreatKQ4
import Derived.Maps.OwnSet
import Derived.Sort.KeysCollected
/- A kernel by the page, as a value: writes, drops, opens, pipes, beginnings. No program. -/
namespace Go.Proofs.YtkkommomefmpgaaGreat
open Go.RowKit

def bit (f m : Int) : Bool := !(fbit f m == 0)
theorem bit_no {f m : Int} (h : fbit f m = 0) : bit f m = false := by unfold bit; rw [h]; rfl
theorem bit_yes {f m : Int} (h : fbit f m ≠ 0) : bit f m = true := by unfold bit; simpa using h
def placeOf (f : List UInt8) (flags : Int) (pos : Nat) : Nat := if bit flags 4 = true then f.length else pos
def refusal (ob : Ob) (flags : Int) (pos : Nat) (n : Int) : Int := match ob with
  | .pipe q rd wt => if rd = 0 then 53 else if canW n q.length rd wt = false then 52 else 0
  | .term _ scr => if scr.length = 1048576 then 31 else 0
  | .file f => if placeOf f flags pos = 1048576 then 31 else 0
def KS.writeUp (K : KS) : KS := { K with writes := K.writes + 1, plan := K.plan.tail }
def KS.write (K : KS) (d : Int) (b : List UInt8) : Int × Int × KS :=
  match K.find d with
  | none => (0, 64, K)
  | some x =>
    if fbit x.flags 2 = 0 then (0, 65, K) else if 1048576 < b.length then (0, 5, K) else if b.length = 0 then (0, 0, K)
    else if refusal (K.tho x) x.flags x.pos b.length = 0 then
      if (nxt K.plan b.length).2 = 0 then
        match K.tho x with
        | .file f => ((min (nxt K.plan b.length).1.toNat (1048576 - placeOf f x.flags x.pos) : Nat), 0, (K.writeUp.setOb x.th (.file (wrL f (placeOf f x.flags x.pos) (b.take (min (nxt K.plan b.length).1.toNat (1048576 - placeOf f x.flags x.pos)))))).setDe { x with pos := placeOf f x.flags x.pos + min (nxt K.plan b.length).1.toNat (1048576 - placeOf f x.flags x.pos) })
        | .term ls scr => ((min (nxt K.plan b.length).1.toNat (1048576 - scr.length) : Nat), 0, K.writeUp.setOb x.th (.term ls (scr ++ b.take (min (nxt K.plan b.length).1.toNat (1048576 - scr.length)))))
        | .pipe q rd wt => ((wrN b.length (nxt K.plan b.length).1 q.length rd wt : Nat), Kp_wrE b.length (nxt K.plan b.length).1 q.length rd wt, K.writeUp.setOb x.th (.pipe (q ++ b.take (wrN b.length (nxt K.plan b.length).1 q.length rd wt)) rd wt))
      else (0, (nxt K.plan b.length).2, K.writeUp)
    else (0, refusal (K.tho x) x.flags x.pos b.length, K)
def KS.newDe (K : KS) (i : Nat) (flags : Int) : KS := { K with de := K.de ++ [⟨K.next, i, flags, 0, 1⟩], next := K.next + 1 }
def KS.obOf (K : KS) (i : Nat) : Ob := (K.th[i]?.map Th.ob).getD (.file [])
def KS.nameOf (K : KS) (i : Nat) : ByteArray := (K.th[i]?.map Th.name).getD ByteArray.empty
def nlt (a b : ByteArray) : Prop := a.data.toList < b.data.toList
instance (a b : ByteArray) : Decidable (nlt a b) := inferInstanceAs (Decidable (a.data.toList < b.data.toList))
def insN (f : Nat → ByteArray) (i : Nat) : List Nat → List Nat
  | [] => [i]
  | j :: r => if nlt (f i) (f j) then i :: j :: r else j :: insN f i r
def KS.addTh (K : KS) (t : Th) : KS := { K with th := K.th ++ [t], nm := insN (fun j => ((K.th ++ [t])[j]?.map Th.name).getD ByteArray.empty) K.th.length K.nm }
def KS.byName (K : KS) (s : ByteArray) : Option Nat := K.nm.find? fun i => decide (K.nameOf i = s)
def KS.cut (K : KS) (i : Nat) (flags : Int) : KS := if bit flags 16 = true then (match K.obOf i with | .file _ => K.setOb i (.file []) | _ => K) else K
def KS.open (K : KS) (s : ByteArray) (flags : Int) : Int × Int × KS :=
  if nameOk s = false then (0, 61, K) else if flagsOk flags = false then (0, 65, K) else if 256 ≤ K.de.length then (0, 3, K) else
  match K.byName s with
  | some i => if fbit flags 32 = 0 then (K.next, 0, (K.cut i flags).newDe i flags) else (0, 63, K)
  | none => if fbit flags 8 = 0 then (0, 62, K) else if 256 ≤ K.nm.length then (0, 3, K) else (K.next, 0, (K.addTh ⟨s, .file []⟩).newDe K.th.length flags)
def KS.nought (l : List Fault) : KS := ⟨[], [], [], 1, l, 0, 0⟩
def KS.new (fs : List Nm) (ts : List Tp) (l : List Fault) : KS := ts.foldl (fun K t => K.addTh ⟨t.1, .term t.2 []⟩) (fs.foldl (fun K f => K.addTh ⟨f.1, .file f.2⟩) (KS.nought l))
structure KNm (K : KS) : Prop where
  sorted : K.nm.Pairwise fun i j => nlt (K.nameOf i) (K.nameOf j)
  kind : ∀ i ∈ K.nm, (K.obOf i).kind = 1 ∨ (K.obOf i).kind = 2
  all : ∀ i, i < K.th.length → (K.obOf i).kind ≠ 3 → i ∈ K.nm
  ok : ∀ i ∈ K.nm, nameOk (K.nameOf i) = true

theorem KS.obOf_eq {K : KS} {i : Nat} (h : i < K.th.length) : K.obOf i = K.th[i].ob := by simp [KS.obOf, h]
theorem KS.tho_obOf (K : KS) (x : De) : K.tho x = K.obOf x.th := rfl
theorem KS.nameOf_setOb (K : KS) (i j : Nat) (ob : Ob) : (K.setOb i ob).nameOf j = K.nameOf j := by
  unfold KS.nameOf KS.setOb
  simp only [List.getElem?_modify]
  by_cases h : i = j
  · subst h; cases K.th[i]? <;> simp
  · simp [h]
theorem KS.obOf_setOb_same {K : KS} {i : Nat} (ob : Ob) (h : i < K.th.length) : (K.setOb i ob).obOf i = ob := by simp [KS.obOf, KS.setOb, h]
theorem KS.obOf_setOb_other {K : KS} {i j : Nat} (ob : Ob) (h : j ≠ i) : (K.setOb i ob).obOf j = K.obOf j := by
  unfold KS.obOf KS.setOb
  simp [Ne.symm h]
theorem KS.kind_setOb {K : KS} {i : Nat} {ob : Ob} (h : i < K.th.length) (hk : ob.kind = K.th[i].ob.kind) (j : Nat) : ((K.setOb i ob).obOf j).kind = (K.obOf j).kind := by
  by_cases e : j = i
  · subst e; rw [KS.obOf_setOb_same ob h, hk, KS.obOf_eq h]
  · rw [KS.obOf_setOb_other ob e]
theorem KNm.setOb {K : KS} (h : KNm K) {i : Nat} {ob : Ob} (hi : i < K.th.length) (hk : ob.kind = K.th[i].ob.kind) : KNm (K.setOb i ob) := by
  refine ⟨?_, fun j hj => by rw [KS.kind_setOb hi hk]; exact h.kind j hj, fun j hj e => h.all j (by rw [setOb_len] at hj; exact hj) (by rw [KS.kind_setOb hi hk] at e; exact e), fun j hj => by rw [KS.nameOf_setOb]; exact h.ok j hj⟩
  refine List.Pairwise.imp (fun {a b} hab => ?_) h.sorted
  rw [KS.nameOf_setOb, KS.nameOf_setOb]; exact hab
theorem KNm.same {K K' : KS} (h : KNm K) (ht : K'.th = K.th) (hn : K'.nm = K.nm) : KNm K' := by
  have e1 : K'.nameOf = K.nameOf := by funext i; simp [KS.nameOf, ht]
  have e2 : K'.obOf = K.obOf := by funext i; simp [KS.obOf, ht]
  exact ⟨by rw [hn, e1]; exact h.sorted, by rw [hn, e2]; exact h.kind, by rw [hn, e2, ht]; exact h.all, by rw [hn, e1]; exact h.ok⟩
theorem KOk.setOb {K : KS} (h : KOk K) (i : Nat) (ob : Ob) : KOk (K.setOb i ob) :=
  ⟨h.few, h.named, fun d hd => by rw [setOb_len]; exact h.th d hd, fun j hj => by rw [setOb_len]; exact h.nm j hj, h.num, h.once, h.flags, h.pos, h.held, h.plan⟩
theorem nlt_ne {a b : ByteArray} (h : nlt a b) : a ≠ b := fun e => by subst e; exact List.lt_irrefl _ h
theorem nlt_trans {a b c : ByteArray} (h : nlt a b) (h' : nlt b c) : nlt a c := List.lt_trans h h'
theorem nlt_total {a b : ByteArray} (h : ¬ nlt a b) (hne : a ≠ b) : nlt b a := by
  unfold nlt at *
  by_cases h1 : b.data.toList < a.data.toList
  · exact h1
  · exact absurd (Go.WideShapes.bytes_inj (List.le_antisymm (List.not_lt.1 h1) (List.not_lt.1 h))) hne
theorem mem_insN {f : Nat → ByteArray} {i j : Nat} : ∀ {l : List Nat}, j ∈ insN f i l ↔ j = i ∨ j ∈ l
  | [] => by simp [insN]
  | a :: r => by
    unfold insN
    split
    · simp
    · simp only [List.mem_cons, mem_insN (l := r)]
      constructor
      · rintro (h | h | h) <;> simp [h]
      · rintro (h | h | h) <;> simp [h]
theorem insN_perm (f : Nat → ByteArray) (i : Nat) : ∀ l : List Nat, (insN f i l).Perm (i :: l)
  | [] => List.Perm.refl _
  | a :: r => by
    unfold insN
    split
    · exact List.Perm.refl _
    · exact ((insN_perm f i r).cons a).trans (List.Perm.swap i a r)
theorem insN_sorted {f : Nat → ByteArray} {i : Nat} : ∀ {l : List Nat}, l.Pairwise (fun a b => nlt (f a) (f b)) → (∀ j ∈ l, f j ≠ f i) → (insN f i l).Pairwise fun a b => nlt (f a) (f b)
  | [], _, _ => by simp [insN]
  | a :: r, h, hne => by
    obtain ⟨h1, h2⟩ := List.pairwise_cons.1 h
    unfold insN
    split
    · rename_i hlt
      refine List.pairwise_cons.2 ⟨fun b hb => ?_, h⟩
      rcases List.mem_cons.1 hb with rfl | hb
      · exact hlt
      · exact nlt_trans hlt (h1 b hb)
    · rename_i hlt
      refine List.pairwise_cons.2 ⟨fun b hb => ?_, insN_sorted h2 fun j hj => hne j (by simp [hj])⟩
      rcases mem_insN.1 hb with rfl | hb
      · exact nlt_total hlt (Ne.symm (hne a (by simp)))
      · exact h1 b hb
end Go.Proofs.YtkkommomefmpgaaGreat

/- Spoil turns the block of its slice, and no other. -/
namespace Go.Proofs.YtkkommomefmpgaaGreat
open Go.RowKit

end Go.Proofs.YtkkommomefmpgaaGreat

/- The program's files, terminals and pipes in one notion, each within a set of blocks of its own. -/
namespace Go.Proofs.YtkkommomefmpgaaGreat
open Go.RowKit

def PObj (W : World) (O : Nat → Prop) (p : Nat) : Ob → Prop
  | .file b => b.length ≤ 1048576 ∧ ∃ r cap, FileAt W p r cap b ∧ O p ∧ O r
  | .term ls scr => ∃ B O1, PTerm W B p O1 ls scr ∧ ∀ k, O1 k → O k
  | .pipe q rd wt => PipeAt W p q rd wt ∧ O p
theorem PObj.ok {W : World} {O : Nat → Prop} {p : Nat} {ob : Ob} (h : PObj W O p ob) : ob.ok := by
  cases ob with
  | file b => exact h.1
  | term ls scr => obtain ⟨B, O1, h1, _⟩ := h; exact ⟨h1.few, h1.short, h1.room⟩
  | pipe q rd wt => obtain ⟨⟨R, f, h1, _⟩, _⟩ := h; exact ⟨h1.lc, h1.lr, h1.lw⟩
theorem PObj.mono {W : World} {O O' : Nat → Prop} {p : Nat} {ob : Ob} (h : PObj W O p ob) (hO : ∀ k, O k → O' k) : PObj W O' p ob := by
  cases ob with
  | file b => obtain ⟨h0, r, cap, h1, h2, h3⟩ := h; exact ⟨h0, r, cap, h1, hO _ h2, hO _ h3⟩
  | term ls scr => obtain ⟨B, O1, h1, h2⟩ := h; exact ⟨B, O1, h1, fun k e => hO _ (h2 k e)⟩
  | pipe q rd wt => exact ⟨h.1, hO _ h.2⟩
theorem PObj.keep {W W' : World} {O : Nat → Prop} {p : Nat} {ob : Ob} (h : PObj W O p ob) (hk : ∀ k, O k → k < W.heap.size → W'.heap[k]? = W.heap[k]?) (hs : W.heap.size ≤ W'.heap.size) : PObj W' O p ob := by
  cases ob with
  | file b =>
    obtain ⟨h0, r, cap, h1, h2, h3⟩ := h
    have hp := hk p h2 h1.lt
    exact ⟨h0, r, cap, ⟨(World.cell?_of_block (w := W) hp).trans h1.made, (World.cell?_of_block (w := W) hp).trans h1.data, (World.frozen?_of_block (w := W) hp).trans h1.soft, h1.row.keep (hk r h3 h1.row.lt), h1.apart⟩, h2, h3⟩
  | term ls scr =>
    obtain ⟨B, O1, h1, h2⟩ := h
    obtain ⟨la, lc, s, h3⟩ := h1.term
    have hp := hk p (h2 _ h3.ot) (h3.lt _ h3.ot).2
    exact ⟨B, O1, ⟨(World.cell?_of_block (w := W) hp).trans h1.made, ⟨la, lc, s, h3.keep (fun k e => hk k (h2 k e) (h3.lt k e).2) hs⟩, h1.few, h1.short, h1.room⟩, h2⟩
  | pipe q rd wt => exact ⟨h.1.keep (hk p h.2 h.1.lt), h.2⟩
def PStep (w : World) (O : Nat → Prop) (p : Nat) (ob' : Ob) (w' : World) : Prop := ∃ O', PObj w' O' p ob' ∧ (∀ k, O' k → O k ∨ w.heap.size ≤ k) ∧ Turned O w w'
theorem po_fread (O : Nat → Prop) (p : Nat) (b : List UInt8) (off n : Int) (w : World) (h : PObj w O p (.file b)) :
    Calls Tryz.prog 282 #[.pointer (some ⟨p, 0, none⟩), .int .i64 off, .int .i64 n] w fun e w' => ∃ v, e = .returned (.tuple #[v, .int .i64 (Fi_rdE off n)]) ∧ w'.ownsRow w.heap.size 5 1 v (rdL b off n).length ((rdL b off n).map bv) ∧ Below w.heap.size w w' := by
  obtain ⟨h0, r, cap, h1, h2, h3⟩ := h
  exact readAt_any p r cap b off n w h1 h0
theorem po_fsize (O : Nat → Prop) (p : Nat) (b : List UInt8) (w : World) (h : PObj w O p (.file b)) :
    Calls Tryz.prog 154 #[.pointer (some ⟨p, 0, none⟩)] w fun e w' => e = .returned (.int .i64 b.length) ∧ w' = w := by
  obtain ⟨h0, r, cap, h1, h2, h3⟩ := h
  exact size_any p r cap b w h1
theorem po_fbytes (O : Nat → Prop) (p : Nat) (b : List UInt8) (w : World) (h : PObj w O p (.file b)) :
    Calls Tryz.prog 120 #[.pointer (some ⟨p, 0, none⟩)] w fun e w' => e = .returned (.slice (some ⟨w.heap.size, 0, none⟩) b.length b.length) ∧ w'.ownsRow w.heap.size 5 1 (.slice (some ⟨w.heap.size, 0, none⟩) b.length b.length) b.length (b.map bv) ∧ Below w.heap.size w w' := by
  obtain ⟨h0, r, cap, h1, h2, h3⟩ := h
  exact bytes_any p r cap b w h1 h0
theorem po_fwrite (O : Nat → Prop) (p : Nat) (b x : List UInt8) (off : Int) (vx : Value) (w : World) (h : PObj w O p (.file b)) (hx : Bys w vx x) (hd : 0 < x.length → ∀ k, vx.ownBlock = some k → ¬ O k) :
    Calls Tryz.prog 283 #[.pointer (some ⟨p, 0, none⟩), .int .i64 off, vx] w fun e w' => e = .returned (.int .i64 (Fi_wrE off x.length)) ∧ PStep w O p (.file (wrL b off x)) w' := by
  obtain ⟨h0, r, cap, h1, h2, h3⟩ := h
  refine (writeAt_any p r cap b off vx x w h1 hx (fun h0 k e => ⟨fun e' => hd h0 k e (by rw [e']; exact h2), fun e' => hd h0 k e (by rw [e']; exact h3)⟩)).mono ?_
  rintro e w' ⟨rfl, r', cap', h4, h5, h6⟩
  refine ⟨rfl, fun k => O k ∨ k = r', ⟨wrL_len h0, r', cap', h4, .inl h2, .inr rfl⟩, fun k e => ?_, h6.mono fun k e => ?_⟩
  · rcases e with e | rfl
    · exact .inl e
    · rcases h5 with h5 | h5
      · left; rw [h5]; exact h3
      · exact .inr h5
  · rcases e with rfl | rfl
    · exact h2
    · exact h3
theorem po_ftrunc (O : Nat → Prop) (p : Nat) (b : List UInt8) (n : Int) (w : World) (h : PObj w O p (.file b)) (hl : (trL b n).length ≤ 1048576) :
    Calls Tryz.prog 198 #[.pointer (some ⟨p, 0, none⟩), .int .i64 n] w fun e w' => e = .returned (.int .i64 (trE n)) ∧ PStep w O p (.file (trL b n)) w' := by
  obtain ⟨h0, r, cap, h1, h2, h3⟩ := h
  refine (truncate_any p r cap b n w h1).mono ?_
  rintro e w' ⟨rfl, r', cap', h4, h5, h6⟩
  refine ⟨rfl, fun k => O k ∨ k = r', ⟨hl, r', cap', h4, .inl h2, .inr rfl⟩, fun k e => ?_, h6.mono fun k e => ?_⟩
  · rcases e with e | rfl
    · exact .inl e
    · rcases h5 with h5 | h5
      · left; rw [h5]; exact h3
      · exact .inr h5
  · rcases e with rfl | rfl
    · exact h2
    · exact h3
theorem po_tread (O : Nat → Prop) (p : Nat) (ls : List (List UInt8)) (scr : List UInt8) (n : Int) (w : World) (h : PObj w O p (.term ls scr)) :
    Calls Tryz.prog 293 #[.pointer (some ⟨p, 0, none⟩), .int .i64 n] w fun e w' => ∃ v, e = .returned (.tuple #[v, .int .i64 (Te_rdE n)]) ∧ w'.ownsRow w.heap.size 5 1 v (rdH ls n).length ((rdH ls n).map bv) ∧ PObj w' O p (.term (rdR ls n) scr) ∧ Turned O w w' := by
  obtain ⟨B, O1, h1, h2⟩ := h
  refine (Te_read_any B p O1 ls scr n w h1).mono ?_
  rintro e w' ⟨v, rfl, h3, h4, h5⟩
  exact ⟨v, rfl, h3, ⟨B, O1, h4, h2⟩, h5.mono h2⟩
theorem po_twrite (O : Nat → Prop) (p : Nat) (ls : List (List UInt8)) (scr x : List UInt8) (vx : Value) (w : World) (h : PObj w O p (.term ls scr)) (hx : Bys w vx x) :
    Calls Tryz.prog 294 #[.pointer (some ⟨p, 0, none⟩), vx] w fun e w' => e = .returned (.int .i64 (Te_wrE scr.length x.length)) ∧ PStep w O p (.term ls (wrS scr x)) w' := by
  obtain ⟨B, O1, h1, h2⟩ := h
  refine (Te_write_any B p O1 ls scr vx x w h1 hx).mono ?_
  rintro e w' ⟨rfl, O2, h3, h4, h5⟩
  refine ⟨rfl, fun k => O k ∨ O2 k, ⟨B, O2, h3, fun k e => .inr e⟩, fun k e => ?_, h5.mono h2⟩
  rcases e with e | e
  · exact .inl e
  · exact (h4 k e).imp (h2 k) id
theorem po_pread (O : Nat → Prop) (p : Nat) (q : List UInt8) (rd wt : Nat) (n : Int) (w : World) (h : PObj w O p (.pipe q rd wt)) :
    Calls Tryz.prog 313 #[.pointer (some ⟨p, 0, none⟩), .int .i64 n] w fun e w' => ∃ v, e = .returned (.tuple #[v, .int .i64 (Kp_rdE n q.length rd wt)]) ∧ w'.ownsRow w.heap.size 5 1 v (rdB n q rd wt).length ((rdB n q rd wt).map bv) ∧ PObj w' O p (.pipe (rdQ n q rd wt) rd wt) ∧ Turned O w w' := by
  refine (Kp_read_any n p q rd wt w h.1).mono ?_
  rintro e w' ⟨v, rfl, h3, h4, h5⟩
  exact ⟨v, rfl, h3, ⟨h4, h.2⟩, h5.mono fun k e => by rw [e]; exact h.2⟩
theorem po_pwrite (O : Nat → Prop) (p : Nat) (q x : List UInt8) (rd wt : Nat) (most : Int) (a1 : Option Addr) (n cx : Nat) (w : World) (h : PObj w O p (.pipe q rd wt)) (hx : Bys w (.slice a1 n cx) x) (hcx : x.length ≤ cx) (hxs : x.length ≤ 140737488351232) (hd : 0 < x.length → ∀ k, (Value.slice a1 n cx).ownBlock = some k → ¬ O k) :
    Calls Tryz.prog 314 #[.pointer (some ⟨p, 0, none⟩), .slice a1 n cx, .int .i64 most] w fun e w' => e = .returned (.tuple #[.int .i64 (wrN x.length most q.length rd wt : Nat), .int .i64 (Kp_wrE x.length most q.length rd wt)]) ∧ PStep w O p (.pipe (q ++ x.take (wrN x.length most q.length rd wt)) rd wt) w' := by
  refine (Kp_write_any most p q x a1 n cx rd wt w h.1 hx hcx hxs (fun h0 e => hd h0 p e h.2)).mono ?_
  rintro e w' ⟨rfl, h4, h5⟩
  exact ⟨rfl, O, ⟨h4, h.2⟩, fun _ e => .inl e, h5.mono fun k e => by rw [e]; exact h.2⟩
theorem po_new_file (v : Value) (b : List UInt8) (w : World) (hv : Bys w v b) (hl : b.length ≤ 1048576) :
    Calls Tryz.prog 122 #[v] w fun e w' => ∃ p, e = .returned (.tuple #[.pointer (some ⟨p, 0, none⟩), .int .i64 0]) ∧ PObj w' (fun k => w.heap.size ≤ k ∧ k < w'.heap.size) p (.file b) ∧ Below w.heap.size w w' := by
  refine (Fi_new_good v b w hv hl).mono ?_
  rintro e w' ⟨p, rfl, h1, h2, h3⟩
  exact ⟨p, rfl, ⟨hl, _, _, h1, ⟨by omega, h1.lt⟩, ⟨Nat.le_refl _, h1.row.lt⟩⟩, h3⟩
theorem po_new_term (v : Value) (ls : List (List UInt8)) (w : World) (hv : Lns w v ls) (hl : newE ls = 0) :
    Calls Tryz.prog 38 #[v] w fun e w' => ∃ p, e = .returned (.tuple #[.pointer (some ⟨p, 0, none⟩), .int .i64 0]) ∧ PObj w' (fun k => w.heap.size ≤ k ∧ k < w'.heap.size) p (.term ls []) ∧ Below w.heap.size w w' := by
  refine (Te_new_good v ls w hv hl).mono ?_
  rintro e w' ⟨p, O, rfl, h1, h2⟩
  obtain ⟨la, lc, s, h3⟩ := h1.term
  exact ⟨p, rfl, ⟨_, O, h1, fun k e => h3.lt k e⟩, h2⟩
end Go.Proofs.YtkkommomefmpgaaGreat

/- Maps whose values are pointers to blocks: what they hold, as a list of keys and blocks in any order. -/
namespace Go.Proofs.YtkkommomefmpgaaGreat
open Go.RowKit Go.Maps

def ptrElem : Value → Option (DataW Unit × List MemPlace)
  | .pointer (some ⟨g, 0, none⟩) => some (.lit (.int .i64 g), [])
  | .pointer none => some (.nil, [])
  | _ => none
theorem ptrElem_inv {v : Value} {g : Nat} {ps : List MemPlace} (h : ptrElem v = some (.lit (.int .i64 g), ps)) : v = .pointer (some ⟨g, 0, none⟩) := by
  unfold ptrElem at h
  split at h
  · simp at h; obtain ⟨h, _⟩ := h; obtain rfl := Int.ofNat_inj.1 h; rfl
  · simp at h
  · cases h
structure PMap (W : World) (P : Program) (k : TypeId) (b : Nat) (l : List (Lit × Nat)) : Prop where
  own : ∃ D : DataW Unit, W.ownsMap P k ptrElem b l.length D ∧ Maps.size D = l.length ∧ (∀ p ∈ l, ∀ z, D.atKey p.1 z = .lit (.int .i64 p.2)) ∧ ∀ kl, Maps.has D kl = true → ∃ p ∈ l, p.1 = kl
  nodup : l.Pairwise (fun p q => p.1 ≠ q.1)
theorem PMap.lt {W : World} {P : Program} {k : TypeId} {b : Nat} {l : List (Lit × Nat)} (h : PMap W P k b l) : b < W.heap.size := by
  obtain ⟨D, h1, _⟩ := h.own; exact h1.lt
theorem PMap.keep {W W' : World} {P : Program} {k : TypeId} {b : Nat} {l : List (Lit × Nat)} (h : PMap W P k b l) (hk : W'.heap[b]? = W.heap[b]?) : PMap W' P k b l := by
  obtain ⟨D, ⟨es, clock, hb, F, hs, hD⟩, h2, h3⟩ := h.own
  exact ⟨⟨D, ⟨es, clock, hk.trans hb, F, hs, hD⟩, h2, h3⟩, h.nodup⟩
theorem PMap.perm {W : World} {P : Program} {k : TypeId} {b : Nat} {l l' : List (Lit × Nat)} (h : PMap W P k b l) (hp : l.Perm l') : PMap W P k b l' := by
  obtain ⟨D, h1, h2, h3, h4⟩ := h.own
  refine ⟨⟨D, by rw [← hp.length_eq]; exact h1, by rw [← hp.length_eq]; exact h2, fun p hm => h3 p (hp.mem_iff.2 hm), fun kl hh => ?_⟩, ?_⟩
  · obtain ⟨p, hm, e⟩ := h4 kl hh
    exact ⟨p, hp.mem_iff.1 hm, e⟩
  · exact hp.pairwise h.nodup (fun {a b} hab => Ne.symm hab)
theorem PMap.made (w : World) (P : Program) (k : TypeId) : PMap (w.alloc (.map #[] 0)) P k w.heap.size [] :=
  ⟨⟨.map [], World.ownsMap_made w P k ptrElem, rfl, fun _ h => by simp at h, fun kl h => by simp [Maps.has] at h⟩, List.Pairwise.nil⟩
theorem PMap.hit {W : World} {P : Program} {k t e : TypeId} {b : Nat} {l : List (Lit × Nat)} (h : PMap W P k b l) (K : Keyed P k) (ht : P.underlying t = some (.map k e)) (hz : (zeroValue e).run P W = .ok (.pointer none) W)
    {key : Value} {kl : Lit} {g : Nat} (hkey : keyOf P k key = some kl) (hm : (kl, g) ∈ l) (c : Bool) : (Instr.lookup t (.map (some b)) key c).run P W = .ok (if c then .tuple #[.pointer (some ⟨g, 0, none⟩), .bool true] else .pointer (some ⟨g, 0, none⟩)) W := by
  obtain ⟨D, ⟨es, clock, hb, F, hs, hD⟩, h2, h3, h4⟩ := h.own
  rcases Maps.fit_look c K ht hz hb F hkey with ⟨_, _, hat⟩ | ⟨e0, y, _, _, hrun, hRv, hat, _⟩
  · have := h3 _ hm .nil
    rw [hD] at this
    rw [hat] at this
    cases this
  · have := h3 _ hm .nil
    rw [hD] at this
    rw [hat] at this
    obtain ⟨y1, y2⟩ := y
    simp only at this
    subst this
    rw [hrun, ptrElem_inv hRv]
theorem PMap.miss {W : World} {P : Program} {k t e : TypeId} {b : Nat} {l : List (Lit × Nat)} (h : PMap W P k b l) (K : Keyed P k) (ht : P.underlying t = some (.map k e)) (hz : (zeroValue e).run P W = .ok (.pointer none) W)
    {key : Value} {kl : Lit} (hkey : keyOf P k key = some kl) (hm : ∀ p ∈ l, p.1 ≠ kl) (c : Bool) : (Instr.lookup t (.map (some b)) key c).run P W = .ok (if c then .tuple #[.pointer none, .bool false] else .pointer none) W := by
  obtain ⟨D, ⟨es, clock, hb, F, hs, hD⟩, h2, h3, h4⟩ := h.own
  rcases Maps.fit_look c K ht hz hb F hkey with ⟨hrun, _, hat⟩ | ⟨e0, y, _, _, hrun, hRv, hat, _⟩
  · exact hrun
  · have : Maps.has D kl = true := by rw [hD]; exact Maps.has_true_of_atKey hat
    obtain ⟨p, hp, e⟩ := h4 kl this
    exact absurd e (hm p hp)
theorem PMap.len {W : World} {P : Program} {k t e : TypeId} {b : Nat} {l : List (Lit × Nat)} (h : PMap W P k b l) (ht : P.underlying t = some (.map k e)) (ty : TypeId) : (Builtin.len_ #[t] ty #[.map (some b)]).run P W = .ok (.int .i64 l.length) W := by
  obtain ⟨D, h1, h2, _⟩ := h.own
  rw [h1.len ht ty, h2]
theorem mapTurned_turned {w w' : World} {b : Nat} (h : w.mapTurned w' b) : Turned (fun k => k = b) w w' := (Turned.refl _ w).grown h.grown (fun k e => by cases e; exact .inl rfl)
theorem PMap.store {W : World} {P : Program} {k t e : TypeId} {b : Nat} {l : List (Lit × Nat)} (h : PMap W P k b l) (K : Keyed P k) (ht : P.underlying t = some (.map k e)) (hn : l.length < maxLen)
    {key : Value} {kl : Lit} (g : Nat) (hkey : keyOf P k key = some kl) (hm : ∀ p ∈ l, p.1 ≠ kl) : ∃ w', (Instr.mapUpdate t (.map (some b)) key (.pointer (some ⟨g, 0, none⟩))).run P W = .ok () w' ∧ PMap w' P k b ((kl, g) :: l) ∧ W.mapTurned w' b := by
  obtain ⟨D, h1, h2, h3, h4⟩ := h.own
  have hno : Maps.has D kl = false := by
    rcases hh : Maps.has D kl with _ | _
    · rfl
    · obtain ⟨p, hp, e⟩ := h4 kl hh
      exact absurd e (hm p hp)
  obtain ⟨w', hrun, ho, hT⟩ := h1.store K ht hn hkey (d := .lit (.int .i64 g)) (ps := []) (val := .pointer (some ⟨g, 0, none⟩)) rfl
  refine ⟨w', hrun, ⟨⟨_, ho, ?_, ?_, ?_⟩, List.pairwise_cons.2 ⟨fun p hp e => hm p hp e.symm, h.nodup⟩⟩, hT⟩
  · rw [Maps.size_put (h1.tidy K), hno, h2]; rfl
  · intro p hp z
    rcases List.mem_cons.1 hp with rfl | hp
    · exact Maps.atKey_put_same h1.isMap (K.key hkey) _ _
    · rw [Maps.atKey_put_other (hm p hp)]; exact h3 p hp z
  · intro kl' hh
    by_cases e : kl' = kl
    · exact ⟨(kl, g), by simp, e.symm⟩
    · rw [Maps.has_put_other e] at hh
      obtain ⟨p, hp, e2⟩ := h4 kl' hh
      exact ⟨p, List.mem_cons_of_mem _ hp, e2⟩
theorem PMap.keys {W : World} {P : Program} {k : TypeId} {b : Nat} {l : List (Lit × Nat)} (h : PMap W P k b l) (K : Keyed P k) (hk : P.underlying k = some .string) :
    ∃ D : DataW Unit, W.ownsMap P k ptrElem b l.length D ∧ Maps.size D = l.length ∧ (strKeys D).Perm (l.map fun p => strOf p.1) := by
  obtain ⟨D, h1, h2, h3, h4⟩ := h.own
  refine ⟨D, h1, h2, ?_⟩
  have key : ∀ p ∈ l, ∃ x, p.1 = .string x := by
    intro p hp
    obtain ⟨es, rfl, hko⟩ := h1.keysOf
    have hh : Maps.has (DataW.map es) p.1 = true := Maps.has_true_of_atKey (h3 p hp)
    rw [Maps.has_eq, List.any_eq_true] at hh
    obtain ⟨q, hq, hs⟩ := hh
    obtain ⟨v, hv⟩ := hko q hq
    obtain ⟨y, _, hy, _⟩ := Maps.keyOf_str hk hv
    rw [hy] at hs
    exact ⟨y, by cases hp1 : p.1 <;> rw [hp1] at hs <;> simp [Lit.sameKey] at hs; rw [hs]⟩
  obtain ⟨es, hD, hpw, _⟩ := h1.entries K
  obtain ⟨es', hD', hko⟩ := h1.keysOf
  obtain rfl : es = es' := by rw [hD] at hD'; simpa using hD'
  subst hD
  refine (perm_strKeys hpw (fun p hp => by obtain ⟨v, hv⟩ := hko p hp; obtain ⟨x, _, hx, _⟩ := Maps.keyOf_str hk hv; exact ⟨x, hx⟩) ?_ ?_).symm
  · refine List.pairwise_map.2 (h.nodup.imp_of_mem fun {p q} hp hq hne e => hne ?_)
    obtain ⟨a, ha⟩ := key p hp
    obtain ⟨c, hc⟩ := key q hq
    rw [ha, hc] at e ⊢
    exact congrArg _ e
  · intro x
    constructor
    · intro hx
      obtain ⟨p, hp, rfl⟩ := List.mem_map.1 hx
      obtain ⟨a, ha⟩ := key p hp
      have := Maps.has_true_of_atKey (h3 p hp)
      rw [ha] at this ⊢
      exact this
    · intro hh
      obtain ⟨p, hp, e⟩ := h4 _ hh
      exact List.mem_map.2 ⟨p, hp, by rw [e]; rfl⟩
end Go.Proofs.YtkkommomefmpgaaGreat

/- The program's kernel: what lies in memory for it; isMade, described. -/
namespace Go.Proofs.YtkkommomefmpgaaGreat
open Go.RowKit Go.Maps

inductive PTag where
  | kern
  | fmap
  | tmap
  | omap
  | plan
  | obj (i : Nat)
  | cons (i : Nat)
  | desc (n : Nat)
  | ofile (n : Nat)
structure PI where
  kb : Nat
  fm : Nat
  tm : Nat
  om : Nat
  pb : Nat
  pv : Value
  ob : Nat → Nat
  cb : Nat → Nat
  db : Nat → Nat
  xb : Nat → Nat
  last : Nat
def nkey (s : ByteArray) : Lit := .string s.data.toList
def dkey (n : Nat) : Lit := .int .i64 n
def KS.fidx (K : KS) : List Nat := K.nm.filter fun i => (K.obOf i).kind == 1
def KS.tidx (K : KS) : List Nat := K.nm.filter fun i => (K.obOf i).kind == 2
def KS.fl (K : KS) (I : PI) : List (Lit × Nat) := K.fidx.map fun i => (nkey (K.nameOf i), I.ob i)
def KS.tl (K : KS) (I : PI) : List (Lit × Nat) := K.tidx.map fun i => (nkey (K.nameOf i), I.cb i)
def KS.dl (K : KS) (I : PI) : List (Lit × Nat) := K.de.map fun d => (dkey d.n, I.db d.n)
def thingV (I : PI) (K : KS) (d : De) : Value := match K.tho d with
  | .file _ => .iface 261 (.pointer (some ⟨I.xb d.n, 0, none⟩))
  | .term _ _ => .iface 104 (.pointer (some ⟨I.cb d.th, 0, none⟩))
  | .pipe _ _ _ => .iface 271 (.agg #[.pointer (some ⟨I.ob d.th, 0, none⟩)])
def PComp (W : World) (ρ : Nat → Option PTag) (I : PI) (K : KS) : PTag → Prop
  | .kern => W.heap[I.kb]? = some (.cells ([.bool true, .map (some I.fm), .map (some I.tm), .map (some I.om), .int .i64 I.last, .pointer (some ⟨I.pb, 0, none⟩), .int .i64 K.reads, .int .i64 K.writes] : List Value).toArray 96 (0, 0)) ∧ ρ I.kb = some .kern ∧ K.next = I.last + 1
  | .fmap => PMap W Tryz.prog 9 I.fm (K.fl I) ∧ ρ I.fm = some .fmap
  | .tmap => PMap W Tryz.prog 9 I.tm (K.tl I) ∧ ρ I.tm = some .tmap
  | .omap => PMap W Tryz.prog 3 I.om (K.dl I) ∧ ρ I.om = some .omap
  | .plan => PlanAt W I.pb I.pv K.plan ∧ ρ I.pb = some .plan ∧ ∀ k, I.pv.ownBlock = some k → ρ k = some .plan
  | .obj i => ∀ (h : i < K.th.length), PObj W (fun k => ρ k = some (.obj i)) (I.ob i) K.th[i].ob
  | .cons i => ∀ (h : i < K.th.length), ∀ ls scr, K.th[i].ob = .term ls scr → W.heap[I.cb i]? = some (.cells ([.pointer (some ⟨I.ob i, 0, none⟩), .int .i64 scr.length] : List Value).toArray 106 (0, 0)) ∧ ρ (I.cb i) = some (.cons i)
  | .desc n => ∀ d ∈ K.de, d.n = n → W.heap[I.db n]? = some (.cells ([thingV I K d, .bool (bit d.flags 1), .bool (bit d.flags 2), .int .i64 d.held] : List Value).toArray 246 (0, 0)) ∧ ρ (I.db n) = some (.desc n)
  | .ofile n => ∀ d ∈ K.de, d.n = n → ∀ b, K.tho d = .file b → W.heap[I.xb n]? = some (.cells ([.pointer (some ⟨I.ob d.th, 0, none⟩), .int .i64 d.pos, .bool (bit d.flags 4)] : List Value).toArray 265 (0, 0)) ∧ ρ (I.xb n) = some (.ofile n)
theorem PComp.keep {W W' : World} {ρ : Nat → Option PTag} {I : PI} {K : KS} {t : PTag} (h : PComp W ρ I K t) (hk : ∀ k, ρ k = some t → k < W.heap.size → W'.heap[k]? = W.heap[k]?) (hs : W.heap.size ≤ W'.heap.size) : PComp W' ρ I K t := by
  have lt : ∀ {k o}, W.heap[k]? = some o → k < W.heap.size := fun e => (Array.getElem?_eq_some_iff.1 e).1
  cases t with
  | kern => exact ⟨(hk _ h.2.1 (lt h.1)).trans h.1, h.2⟩
  | fmap => exact ⟨h.1.keep (hk _ h.2 h.1.lt), h.2⟩
  | tmap => exact ⟨h.1.keep (hk _ h.2 h.1.lt), h.2⟩
  | omap => exact ⟨h.1.keep (hk _ h.2 h.1.lt), h.2⟩
  | plan => exact ⟨h.1.keep fun k hlt e => by
      rcases e with rfl | e
      · exact hk _ h.2.1 hlt
      · exact hk k (h.2.2 k e) hlt, h.2⟩
  | obj i => exact fun hi => (h hi).keep (fun k e hlt => hk k e hlt) hs
  | cons i => exact fun hi ls scr e => ⟨(hk _ (h hi ls scr e).2 (lt (h hi ls scr e).1)).trans (h hi ls scr e).1, (h hi ls scr e).2⟩
  | desc n => exact fun d hd e => ⟨(hk _ (h d hd e).2 (lt (h d hd e).1)).trans (h d hd e).1, (h d hd e).2⟩
  | ofile n => exact fun d hd e b eb => ⟨(hk _ (h d hd e b eb).2 (lt (h d hd e b eb).1)).trans (h d hd e b eb).1, (h d hd e b eb).2⟩
structure PK (W : World) (ρ : Nat → Option PTag) (I : PI) (K : KS) : Prop where
  comp : ∀ t, PComp W ρ I K t
  lt : ∀ k t, ρ k = some t → k < W.heap.size
  ok : KOk K
  nm : KNm K
theorem PK.keep {W W' : World} {ρ : Nat → Option PTag} {I : PI} {K : KS} (h : PK W ρ I K) (hk : ∀ k t, ρ k = some t → W'.heap[k]? = W.heap[k]?) (hs : W.heap.size ≤ W'.heap.size) : PK W' ρ I K :=
  ⟨fun t => (h.comp t).keep (fun k e _ => hk k t e) hs, fun k t e => Nat.lt_of_lt_of_le (h.lt k t e) hs, h.ok, h.nm⟩
def KAt (W : World) (O : Nat → Prop) (kb : Nat) (K : KS) : Prop := ∃ ρ I, PK W ρ I K ∧ I.kb = kb ∧ ∀ k t, ρ k = some t → O k
theorem KAt.keep {W W' : World} {O : Nat → Prop} {kb : Nat} {K : KS} (h : KAt W O kb K) (hk : ∀ k, O k → k < W.heap.size → W'.heap[k]? = W.heap[k]?) (hs : W.heap.size ≤ W'.heap.size) : KAt W' O kb K := by
  obtain ⟨ρ, I, h1, h2, h3⟩ := h
  exact ⟨ρ, I, h1.keep (fun k t e => hk k (h3 k t e) (h1.lt k t e)) hs, h2, h3⟩
theorem KAt.below {W W' : World} {O : Nat → Prop} {kb : Nat} {K : KS} (h : KAt W O kb K) (hB : Below W.heap.size W W') : KAt W' O kb K := h.keep (fun k _ hlt => hB.block k hlt) hB.size
theorem KAt.ok {W : World} {O : Nat → Prop} {kb : Nat} {K : KS} (h : KAt W O kb K) : KOk K ∧ KNm K := by
  obtain ⟨ρ, I, h1, h2, h3⟩ := h
  exact ⟨h1.ok, h1.nm⟩
def KStep (w : World) (O : Nat → Prop) (kb : Nat) (K' : KS) (w' : World) : Prop := ∃ O', KAt w' O' kb K' ∧ (∀ k, O' k → O k ∨ w.heap.size ≤ k) ∧ Turned O w w'
theorem string_key (s : ByteArray) (hs : s.size ≤ maxLen) : keyOf Tryz.prog 9 (.string s) = some (nkey s) := by
  have hu := Tryz.underlying9
  simp [keyOf, hu, mapKey, nkey, hs]
theorem int_key (d : Int) (hd : (Lit.int .i64 d).wf = true) : keyOf Tryz.prog 3 (.int .i64 d) = some (.int .i64 d) := keyOf_int_mk Tryz.underlying3 hd
theorem skeyed : Keyed Tryz.prog 9 := string_keyed Tryz.underlying9
theorem ikeyed : Keyed Tryz.prog 3 := int_keyed Tryz.underlying3

structure KCells (W : World) (ρ : Nat → Option PTag) (I : PI) (K : KS) : Prop where
  made : W.cell? ⟨I.kb, 0, none⟩ = some (.bool true)
  files : W.cell? ⟨I.kb, 1, none⟩ = some (.map (some I.fm))
  terms : W.cell? ⟨I.kb, 2, none⟩ = some (.map (some I.tm))
  opens : W.cell? ⟨I.kb, 3, none⟩ = some (.map (some I.om))
  last : W.cell? ⟨I.kb, 4, none⟩ = some (.int .i64 I.last)
  plan : W.cell? ⟨I.kb, 5, none⟩ = some (.pointer (some ⟨I.pb, 0, none⟩))
  reads : W.cell? ⟨I.kb, 6, none⟩ = some (.int .i64 K.reads)
  writes : W.cell? ⟨I.kb, 7, none⟩ = some (.int .i64 K.writes)
theorem PK.cells {W : World} {ρ : Nat → Option PTag} {I : PI} {K : KS} (h : PK W ρ I K) : KCells W ρ I K := by
  have hb := (h.comp .kern).1
  constructor <;> (rw [cell_of_row W I.kb _ _ _ _ hb]; rfl)
set_option maxRecDepth 100000 in
theorem kmade_any (kb : Nat) (w : World) (h : w.cell? ⟨kb, 0, none⟩ = some (.bool true)) :
    Calls Tryz.prog 117 #[.pointer (some ⟨kb, 0, none⟩)] w fun e w' => e = .returned (.bool true) ∧ w' = w := by
  go_enter Tryz.func117, Tryz.ntmps117
  go_wp2
  go_ret
  exact ⟨rfl, rfl⟩
end Go.Proofs.YtkkommomefmpgaaGreat

/- The program's kernel: described, Kind. -/
namespace Go.Proofs.YtkkommomefmpgaaGreat
open Go.RowKit Go.Maps

theorem zero_desc (w : World) : (zeroValue 242).run Tryz.prog w = .ok (.pointer none) w := by kernel_rfl
def descV (I : PI) : Option De → Value
  | none => .tuple #[.pointer none, .int .i64 64]
  | some x => .tuple #[.pointer (some ⟨I.db x.n, 0, none⟩), .int .i64 0]
theorem look_desc {w : World} {ρ : Nat → Option PTag} {I : PI} {K : KS} (h : PK w ρ I K) {d : Int} (hd : I64 d) :
    (Instr.lookup 93 (.map (some I.om)) (.int .i64 d) true).run Tryz.prog w = .ok (.tuple #[.pointer ((K.find d).map fun x => ⟨I.db x.n, 0, none⟩), .bool (K.find d).isSome]) w := by
  have hm := (h.comp .omap).1
  cases hx : K.find d with
  | none =>
    rw [hm.miss ikeyed Tryz.underlying93 (zero_desc w) (int_key d hd.wf) (fun p hp e => ?_) true]
    · rfl
    · obtain ⟨x, hx1, rfl⟩ := List.mem_map.1 hp
      have := List.find?_eq_none.1 hx x hx1
      simp only [dkey, Lit.int.injEq] at e
      simp [e.2] at this
  | some x =>
    obtain ⟨h1, h2⟩ := KS.find_some hx
    rw [hm.hit ikeyed Tryz.underlying93 (zero_desc w) (int_key d hd.wf) (g := I.db x.n) (List.mem_map.2 ⟨x, h1, by simp [dkey, h2]⟩) true]
    rfl
set_option maxRecDepth 100000 in
set_option maxHeartbeats 1000000 in
theorem described_any (ρ : Nat → Option PTag) (I : PI) (K : KS) (d : Int) (w : World) (h : PK w ρ I K) (hd : I64 d) :
    Calls Tryz.prog 140 #[.pointer (some ⟨I.kb, 0, none⟩), .int .i64 d] w fun e w' => e = .returned (descV I (K.find d)) ∧ w' = w := by
  have hm := hide (kmade_any I.kb w h.cells.made)
  have c3 := h.cells.opens
  have hl := look_desc h hd
  cases hx : K.find d with
  | none =>
    rw [hx] at hl
    simp only [Option.map_none, Option.isSome_none] at hl
    clear h
    go_enter Tryz.func140, Tryz.ntmps140
    go_wp2_with fail
    refine hm.out.mono ?_
    rintro e w1 ⟨rfl, rfl⟩
    go_wp2
    go_ret2
    exact ⟨rfl, rfl⟩
  | some x =>
    rw [hx] at hl
    simp only [Option.map_some, Option.isSome_some] at hl
    clear h
    go_enter Tryz.func140, Tryz.ntmps140
    go_wp2_with fail
    refine hm.out.mono ?_
    rintro e w1 ⟨rfl, rfl⟩
    go_wp2
    go_ret2
    exact ⟨rfl, rfl⟩
structure DCells (W : World) (I : PI) (K : KS) (x : De) : Prop where
  thing : W.cell? ⟨I.db x.n, 0, none⟩ = some (thingV I K x)
  reads : W.cell? ⟨I.db x.n, 1, none⟩ = some (.bool (bit x.flags 1))
  writes : W.cell? ⟨I.db x.n, 2, none⟩ = some (.bool (bit x.flags 2))
  held : W.cell? ⟨I.db x.n, 3, none⟩ = some (.int .i64 x.held)
theorem PK.desc {W : World} {ρ : Nat → Option PTag} {I : PI} {K : KS} (h : PK W ρ I K) {x : De} (hx : x ∈ K.de) : DCells W I K x := by
  have hb := (h.comp (.desc x.n) x hx rfl).1
  constructor <;> (rw [cell_of_row W _ _ _ _ _ hb]; rfl)
theorem thing_file {I : PI} {K : KS} {x : De} {b : List UInt8} (h : K.tho x = .file b) : thingV I K x = .iface 261 (.pointer (some ⟨I.xb x.n, 0, none⟩)) := by unfold thingV; rw [h]
theorem thing_term {I : PI} {K : KS} {x : De} {ls : List (List UInt8)} {scr : List UInt8} (h : K.tho x = .term ls scr) : thingV I K x = .iface 104 (.pointer (some ⟨I.cb x.th, 0, none⟩)) := by unfold thingV; rw [h]
theorem thing_pipe {I : PI} {K : KS} {x : De} {q : List UInt8} {rd wt : Nat} (h : K.tho x = .pipe q rd wt) : thingV I K x = .iface 271 (.agg #[.pointer (some ⟨I.ob x.th, 0, none⟩)]) := by unfold thingV; rw [h]
theorem mf_readWaits (p : Nat) (w : World) : (method 485 261 (.pointer (some ⟨p, 0, none⟩)) "millrace/kern.readWaits").run Tryz.prog w = .ok (308, .pointer (some ⟨p, 0, none⟩)) w := by kernel_rfl
theorem mt_readWaits (p : Nat) (w : World) : (method 485 104 (.pointer (some ⟨p, 0, none⟩)) "millrace/kern.readWaits").run Tryz.prog w = .ok (299, .pointer (some ⟨p, 0, none⟩)) w := by kernel_rfl
theorem mp_readWaits (p : Nat) (w : World) : (method 485 271 (.agg #[.pointer (some ⟨p, 0, none⟩)]) "millrace/kern.readWaits").run Tryz.prog w = .ok (325, .agg #[.pointer (some ⟨p, 0, none⟩)]) w := by kernel_rfl
theorem mf_refuses (p : Nat) (w : World) : (method 485 261 (.pointer (some ⟨p, 0, none⟩)) "millrace/kern.refuses").run Tryz.prog w = .ok (309, .pointer (some ⟨p, 0, none⟩)) w := by kernel_rfl
theorem mt_refuses (p : Nat) (w : World) : (method 485 104 (.pointer (some ⟨p, 0, none⟩)) "millrace/kern.refuses").run Tryz.prog w = .ok (300, .pointer (some ⟨p, 0, none⟩)) w := by kernel_rfl
theorem mp_refuses (p : Nat) (w : World) : (method 485 271 (.agg #[.pointer (some ⟨p, 0, none⟩)]) "millrace/kern.refuses").run Tryz.prog w = .ok (326, .agg #[.pointer (some ⟨p, 0, none⟩)]) w := by kernel_rfl
theorem mf_read (p : Nat) (w : World) : (method 485 261 (.pointer (some ⟨p, 0, none⟩)) "millrace/kern.read").run Tryz.prog w = .ok (307, .pointer (some ⟨p, 0, none⟩)) w := by kernel_rfl
theorem mt_read (p : Nat) (w : World) : (method 485 104 (.pointer (some ⟨p, 0, none⟩)) "millrace/kern.read").run Tryz.prog w = .ok (298, .pointer (some ⟨p, 0, none⟩)) w := by kernel_rfl
theorem mp_read (p : Nat) (w : World) : (method 485 271 (.agg #[.pointer (some ⟨p, 0, none⟩)]) "millrace/kern.read").run Tryz.prog w = .ok (324, .agg #[.pointer (some ⟨p, 0, none⟩)]) w := by kernel_rfl
theorem mf_write (p : Nat) (w : World) : (method 485 261 (.pointer (some ⟨p, 0, none⟩)) "millrace/kern.write").run Tryz.prog w = .ok (310, .pointer (some ⟨p, 0, none⟩)) w := by kernel_rfl
theorem mt_write (p : Nat) (w : World) : (method 485 104 (.pointer (some ⟨p, 0, none⟩)) "millrace/kern.write").run Tryz.prog w = .ok (301, .pointer (some ⟨p, 0, none⟩)) w := by kernel_rfl
theorem mp_write (p : Nat) (w : World) : (method 485 271 (.agg #[.pointer (some ⟨p, 0, none⟩)]) "millrace/kern.write").run Tryz.prog w = .ok (327, .agg #[.pointer (some ⟨p, 0, none⟩)]) w := by kernel_rfl
end Go.Proofs.YtkkommomefmpgaaGreat

/- The program's kernel: how what lies in memory turns. -/
namespace Go.Proofs.YtkkommomefmpgaaGreat
open Go.RowKit Go.Maps

def newTags (ρ ρ' : Nat → Option PTag) (w : World) : Prop := ∀ k t, ρ' k = some t → (∃ t', ρ k = some t') ∨ w.heap.size ≤ k
theorem PK.step {w w' : World} {O : Nat → Prop} {ρ ρ' : Nat → Option PTag} {I I' : PI} {K' : KS} (hO : ∀ k t, ρ k = some t → O k) (h' : PK w' ρ' I' K') (hkb : I'.kb = I.kb) (hn : newTags ρ ρ' w) (hT : Turned (fun k => ∃ t, ρ k = some t) w w') : KStep w O I.kb K' w' := by
  refine ⟨fun k => O k ∨ w.heap.size ≤ k, ⟨ρ', I', h', hkb, fun k t e => ?_⟩, fun k e => e, hT.mono fun k ⟨t, e⟩ => hO k t e⟩
  rcases hn k t e with ⟨t', e'⟩ | e'
  · exact .inl (hO k t' e')
  · exact .inr e'
theorem PK.kernel {W W' : World} {ρ : Nat → Option PTag} {I : PI} {K : KS} (h : PK W ρ I K) (r wt l : Nat) (hb : W'.heap[I.kb]? = some (.cells ([.bool true, .map (some I.fm), .map (some I.tm), .map (some I.om), .int .i64 l, .pointer (some ⟨I.pb, 0, none⟩), .int .i64 r, .int .i64 wt] : List Value).toArray 96 (0, 0)))
    (hT : Turned (fun k => k = I.kb) W W') (hl : I.last ≤ l) : PK W' ρ { I with last := l } { K with reads := r, writes := wt, next := l + 1 } := by
  have hkb := (h.comp .kern).2.1
  have hnx := (h.comp .kern).2.2
  have key : ∀ t, t ≠ .kern → PComp W' ρ I K t := fun t ht => (h.comp t).keep (fun k e hlt => hT.block k hlt (fun e' => by rw [e', hkb] at e; exact ht (Option.some.inj e).symm)) hT.size
  refine ⟨fun t => ?_, fun k t e => Nat.lt_of_lt_of_le (h.lt k t e) hT.size, ⟨h.ok.few, h.ok.named, h.ok.th, h.ok.nm, fun d hd => ⟨(h.ok.num d hd).1, by have := (h.ok.num d hd).2; show d.n < l + 1; omega⟩, h.ok.once, h.ok.flags, h.ok.pos, h.ok.held, h.ok.plan⟩, h.nm.same rfl rfl⟩
  cases t with
  | kern => exact ⟨hb, hkb, rfl⟩
  | fmap => exact key .fmap (by simp)
  | tmap => exact key .tmap (by simp)
  | omap => exact key .omap (by simp)
  | plan => exact key .plan (by simp)
  | obj i => exact key (.obj i) (by simp)
  | cons i => exact key (.cons i) (by simp)
  | desc n => exact key (.desc n) (by simp)
  | ofile n => exact key (.ofile n) (by simp)
theorem PK.used {W W' : World} {ρ : Nat → Option PTag} {I : PI} {K : KS} (h : PK W ρ I K) {r : List Fault} {v' : Value} (hR : PlanAt W' I.pb v' r) (hv : ∀ k, v'.ownBlock = some k → I.pv.ownBlock = some k) (hT : Turned (fun k => k = I.pb) W W') (hok : planOk r) : PK W' ρ { I with pv := v' } { K with plan := r } := by
  have hpb := (h.comp .plan).2
  have key : ∀ t, t ≠ .plan → PComp W' ρ I K t := fun t ht => (h.comp t).keep (fun k e hlt => hT.block k hlt (fun e' => by rw [e', hpb.1] at e; exact ht (Option.some.inj e).symm)) hT.size
  refine ⟨fun t => ?_, fun k t e => Nat.lt_of_lt_of_le (h.lt k t e) hT.size, ⟨h.ok.few, h.ok.named, h.ok.th, h.ok.nm, h.ok.num, h.ok.once, h.ok.flags, h.ok.pos, h.ok.held, hok⟩, h.nm.same rfl rfl⟩
  cases t with
  | plan => exact ⟨hR, hpb.1, fun k e => hpb.2 k (hv k e)⟩
  | kern => exact key .kern (by simp)
  | fmap => exact key .fmap (by simp)
  | tmap => exact key .tmap (by simp)
  | omap => exact key .omap (by simp)
  | obj i => exact key (.obj i) (by simp)
  | cons i => exact key (.cons i) (by simp)
  | desc n => exact key (.desc n) (by simp)
  | ofile n => exact key (.ofile n) (by simp)
theorem tho_setDe (K : KS) (x y : De) : (K.setDe x).tho y = K.tho y := rfl
theorem setDe_dl {K : KS} {x : De} (I : PI) : (K.setDe x).dl I = K.dl I := by
  unfold KS.dl KS.setDe
  simp only [List.map_map]
  refine List.map_congr_left fun y _ => ?_
  simp only [Function.comp]
  split
  · rename_i e; rw [e]
  · rfl
theorem PK.setDe {W W' : World} {ρ : Nat → Option PTag} {I : PI} {K : KS} (h : PK W ρ I K) {x x' : De} (hx : x ∈ K.de) (hn : x'.n = x.n) (ht : x'.th = x.th) (hf : x'.flags = x.flags) (hp : x'.pos ≤ 1048576) (hh : 1 ≤ x'.held ∧ x'.held ≤ 1024)
    (hT : Turned (fun k => ρ k = some (.desc x.n) ∨ ρ k = some (.ofile x.n)) W W')
    (hd : W'.heap[I.db x.n]? = some (.cells ([thingV I K x, .bool (bit x.flags 1), .bool (bit x.flags 2), .int .i64 x'.held] : List Value).toArray 246 (0, 0)))
    (hx2 : ∀ b, K.tho x = .file b → W'.heap[I.xb x.n]? = some (.cells ([.pointer (some ⟨I.ob x.th, 0, none⟩), .int .i64 x'.pos, .bool (bit x.flags 4)] : List Value).toArray 265 (0, 0))) : PK W' ρ I (K.setDe x') := by
  have key : ∀ t, t ≠ .desc x.n → t ≠ .ofile x.n → PComp W' ρ I K t := fun t h1 h2 => (h.comp t).keep (fun k e hlt => hT.block k hlt (fun e' => by
    rcases e' with e' | e'
    · rw [e'] at e; exact h1 (Option.some.inj e).symm
    · rw [e'] at e; exact h2 (Option.some.inj e).symm)) hT.size
  refine ⟨fun t => ?_, fun k t e => Nat.lt_of_lt_of_le (h.lt k t e) hT.size, h.ok.setDe hx hn ht hf hp hh, h.nm.same rfl rfl⟩
  cases t with
  | kern => exact key .kern (by simp) (by simp)
  | fmap => exact key .fmap (by simp) (by simp)
  | tmap => exact key .tmap (by simp) (by simp)
  | omap =>
    refine ⟨?_, (h.comp .omap).2⟩
    rw [setDe_dl]
    exact (key .omap (by simp) (by simp)).1
  | plan => exact key .plan (by simp) (by simp)
  | obj i => exact key (.obj i) (by simp) (by simp)
  | cons i => exact key (.cons i) (by simp) (by simp)
  | desc n =>
    intro y hy e
    subst e
    rcases mem_setDe hy with rfl | ⟨hy, hne⟩
    · rw [hn]
      refine ⟨?_, (h.comp (.desc x.n) x hx rfl).2⟩
      rw [hd, hf]
      have : thingV I (K.setDe y) y = thingV I K x := by
        unfold thingV
        rw [tho_setDe, show K.tho y = K.tho x by unfold KS.tho; rw [ht], hn, ht]
      rw [this]
    · exact key (.desc y.n) (by rw [hn] at hne; simpa using hne) (by simp) y hy rfl
  | ofile n =>
    intro y hy e b hb
    subst e
    rcases mem_setDe hy with rfl | ⟨hy, hne⟩
    · rw [tho_setDe, show K.tho y = K.tho x by unfold KS.tho; rw [ht]] at hb
      rw [hn, ht, hf]
      exact ⟨hx2 b hb, (h.comp (.ofile x.n) x hx rfl b hb).2⟩
    · exact key (.ofile y.n) (by simp) (by rw [hn] at hne; simpa using hne) y hy rfl b hb
theorem thing_setOb {I : PI} {K : KS} {i : Nat} {ob : Ob} (hi : i < K.th.length) (hk : ob.kind = K.th[i].ob.kind) (x : De) : thingV I (K.setOb i ob) x = thingV I K x := by
  have := KS.kind_setOb hi hk x.th
  unfold thingV
  rw [KS.tho_obOf, KS.tho_obOf]
  cases h1 : (K.setOb i ob).obOf x.th <;> cases h2 : K.obOf x.th <;> rw [h1, h2] at this <;> simp [Ob.kind] at this <;> rfl
theorem fidx_setOb {K : KS} {i : Nat} {ob : Ob} (hi : i < K.th.length) (hk : ob.kind = K.th[i].ob.kind) : (K.setOb i ob).fidx = K.fidx ∧ (K.setOb i ob).tidx = K.tidx := by
  constructor
  · unfold KS.fidx
    refine List.filter_congr fun j _ => ?_
    rw [KS.kind_setOb hi hk]
  · unfold KS.tidx
    refine List.filter_congr fun j _ => ?_
    rw [KS.kind_setOb hi hk]
theorem PObj.trim {W : World} {O : Nat → Prop} {p : Nat} {ob : Ob} (h : PObj W O p ob) : PObj W (fun k => O k ∧ k < W.heap.size) p ob := by
  cases ob with
  | file b => obtain ⟨h0, r, cap, h1, h2, h3⟩ := h; exact ⟨h0, r, cap, h1, ⟨h2, h1.lt⟩, ⟨h3, h1.row.lt⟩⟩
  | term ls scr =>
    obtain ⟨B, O1, h1, h2⟩ := h
    obtain ⟨la, lc, s, h3⟩ := h1.term
    exact ⟨B, O1, h1, fun k e => ⟨h2 k e, (h3.lt k e).2⟩⟩
  | pipe q rd wt => exact ⟨h.1, h.2, h.1.lt⟩
theorem PK.setOb {W W' : World} {ρ : Nat → Option PTag} {I : PI} {K : KS} (h : PK W ρ I K) {i : Nat} (hi : i < K.th.length) {ob' : Ob} (hk : ob'.kind = K.th[i].ob.kind) {O' : Nat → Prop}
    (hT : Turned (fun k => ρ k = some (.obj i) ∨ ρ k = some (.cons i)) W W') (hO : PObj W' O' (I.ob i) ob') (hO' : ∀ k, O' k → ρ k = some (.obj i) ∨ W.heap.size ≤ k)
    (hc : ∀ ls scr, ob' = .term ls scr → W'.heap[I.cb i]? = some (.cells ([.pointer (some ⟨I.ob i, 0, none⟩), .int .i64 scr.length] : List Value).toArray 106 (0, 0))) :
    ∃ ρ', PK W' ρ' I (K.setOb i ob') ∧ newTags ρ ρ' W ∧ (∀ k, k < W.heap.size → ρ' k = ρ k) ∧ ∀ k t, ρ' k = some t → (∃ t', ρ k = some t') ∨ O' k := by
  classical
  obtain ⟨ρ', hρ⟩ : ∃ ρ' : Nat → Option PTag, ρ' = fun k => if k < W.heap.size then ρ k else if O' k ∧ k < W'.heap.size then some (.obj i) else none := ⟨_, rfl⟩
  have low : ∀ k, k < W.heap.size → ρ' k = ρ k := fun k hlt => by rw [hρ]; simp [hlt]
  have fit : ∀ {k t}, ρ k = some t → ρ' k = some t := fun {k t} e => (low k (h.lt k t e)).trans e
  have back : ∀ {k t}, ρ' k = some t → ρ k = some t ∨ (W.heap.size ≤ k ∧ k < W'.heap.size ∧ O' k) := by
    intro k t e
    by_cases hlt : k < W.heap.size
    · rw [low k hlt] at e; exact .inl e
    · rw [hρ] at e
      simp only [if_neg hlt] at e
      split at e
      · rename_i hh; exact .inr ⟨by omega, hh.2, hh.1⟩
      · cases e
  have key : ∀ t, t ≠ .obj i → t ≠ .cons i → PComp W' ρ I K t := fun t h1 h2 => (h.comp t).keep (fun k e hlt => hT.block k hlt (fun e' => by
    rcases e' with e' | e'
    · rw [e'] at e; exact h1 (Option.some.inj e).symm
    · rw [e'] at e; exact h2 (Option.some.inj e).symm)) hT.size
  refine ⟨ρ', ⟨fun t => ?_, fun k t e => ?_, h.ok.setOb i ob', h.nm.setOb hi hk⟩, fun k t e => (back e).imp (fun e' => ⟨t, e'⟩) (fun e' => e'.1), low, fun k t e => (back e).imp (fun e' => ⟨t, e'⟩) (fun e' => e'.2.2)⟩
  · cases t with
    | kern => obtain ⟨a1, a2, a3⟩ := key .kern (by simp) (by simp); exact ⟨a1, fit a2, a3⟩
    | fmap =>
      obtain ⟨a1, a2⟩ := key .fmap (by simp) (by simp)
      refine ⟨?_, fit a2⟩
      unfold KS.fl at a1 ⊢
      rw [(fidx_setOb hi hk).1]
      simp only [KS.nameOf_setOb]
      exact a1
    | tmap =>
      obtain ⟨a1, a2⟩ := key .tmap (by simp) (by simp)
      refine ⟨?_, fit a2⟩
      unfold KS.tl at a1 ⊢
      rw [(fidx_setOb hi hk).2]
      simp only [KS.nameOf_setOb]
      exact a1
    | omap => obtain ⟨a1, a2⟩ := key .omap (by simp) (by simp); exact ⟨a1, fit a2⟩
    | plan => obtain ⟨a1, a2, a3⟩ := key .plan (by simp) (by simp); exact ⟨a1, fit a2, fun k e => fit (a3 k e)⟩
    | obj j =>
      intro hj
      have hj' : j < K.th.length := by rw [setOb_len] at hj; exact hj
      by_cases e : j = i
      · subst e
        rw [setOb_same hj hj']
        refine hO.trim.mono fun k ⟨e1, e2⟩ => ?_
        by_cases hlt : k < W.heap.size
        · rcases hO' k e1 with e3 | e3
          · exact fit e3
          · omega
        · rw [hρ]; simp [hlt, e1, e2]
      · rw [setOb_other e hj hj']
        exact (key (.obj j) (by simpa using e) (by simp) hj').mono fun k e => fit e
    | cons j =>
      intro hj ls scr e1
      have hj' : j < K.th.length := by rw [setOb_len] at hj; exact hj
      by_cases e : j = i
      · subst e
        rw [setOb_same hj hj'] at e1
        simp only at e1
        have : ∃ ls0 scr0, K.th[j].ob = .term ls0 scr0 := by
          rw [e1] at hk
          cases h2 : K.th[j].ob <;> rw [h2] at hk <;> simp [Ob.kind] at hk
          exact ⟨_, _, rfl⟩
        obtain ⟨ls0, scr0, h2⟩ := this
        exact ⟨hc ls scr e1, fit (h.comp (.cons j) hj' ls0 scr0 h2).2⟩
      · rw [setOb_other e hj hj'] at e1
        obtain ⟨a1, a2⟩ := key (.cons j) (by simp) (by simpa using e) hj' ls scr e1
        exact ⟨a1, fit a2⟩
    | desc n =>
      intro d hd e
      obtain ⟨a1, a2⟩ := key (.desc n) (by simp) (by simp) d hd e
      exact ⟨by rw [thing_setOb hi hk]; exact a1, fit a2⟩
    | ofile n =>
      intro d hd e b hb
      have : ∃ b0, K.tho d = .file b0 := by
        have hkk := KS.kind_setOb hi hk d.th
        rw [KS.tho_obOf] at hb
        rw [hb] at hkk
        rw [KS.tho_obOf]
        cases h2 : K.obOf d.th <;> rw [h2] at hkk <;> simp [Ob.kind] at hkk
        exact ⟨_, rfl⟩
      obtain ⟨b0, hb0⟩ := this
      obtain ⟨a1, a2⟩ := key (.ofile n) (by simp) (by simp) d hd e b0 hb0
      exact ⟨a1, fit a2⟩
  · rcases back e with e' | e'
    · exact Nat.lt_of_lt_of_le (h.lt k t e') hT.size
    · exact e'.2.1
end Go.Proofs.YtkkommomefmpgaaGreat

/- The program's kernel: what is done with an open file, a console, a pipe's end. -/
namespace Go.Proofs.YtkkommomefmpgaaGreat
open Go.RowKit Go.Maps

def OFc (W : World) (x p pos : Nat) (ap : Bool) : Prop := W.heap[x]? = some (.cells ([.pointer (some ⟨p, 0, none⟩), .int .i64 pos, .bool ap] : List Value).toArray 265 (0, 0))
def COc (W : World) (x p n : Nat) : Prop := W.heap[x]? = some (.cells ([.pointer (some ⟨p, 0, none⟩), .int .i64 n] : List Value).toArray 106 (0, 0))
theorem OFc.cells {W : World} {x p pos : Nat} {ap : Bool} (h : OFc W x p pos ap) : W.cell? ⟨x, 0, none⟩ = some (.pointer (some ⟨p, 0, none⟩)) ∧ W.cell? ⟨x, 1, none⟩ = some (.int .i64 pos) ∧ W.cell? ⟨x, 2, none⟩ = some (.bool ap) ∧ W.frozen? ⟨x, 1, none⟩ = false := by
  refine ⟨?_, ?_, ?_, frozen_of_row W x 1 _ _ h⟩ <;> (rw [cell_of_row W _ _ _ _ _ h]; rfl)
theorem COc.cells {W : World} {x p n : Nat} (h : COc W x p n) : W.cell? ⟨x, 0, none⟩ = some (.pointer (some ⟨p, 0, none⟩)) ∧ W.cell? ⟨x, 1, none⟩ = some (.int .i64 n) ∧ W.frozen? ⟨x, 1, none⟩ = false := by
  refine ⟨?_, ?_, frozen_of_row W x 1 _ _ h⟩ <;> (rw [cell_of_row W _ _ _ _ _ h]; rfl)
def plc (b : List UInt8) (ap : Bool) (pos : Nat) : Nat := if ap = true then b.length else pos
set_option maxRecDepth 100000 in
set_option maxHeartbeats 1000000 in
theorem of_place (x p : Nat) (b : List UInt8) (pos : Nat) (ap : Bool) (O : Nat → Prop) (w : World) (h : OFc w x p pos ap) (hO : PObj w O p (.file b)) :
    Calls Tryz.prog 311 #[.pointer (some ⟨x, 0, none⟩)] w fun e w' => e = .returned (.int .i64 (plc b ap pos : Nat)) ∧ w' = w := by
  obtain ⟨c0, c1, c2, _⟩ := h.cells
  have HS := hide (po_fsize O p b w hO)
  unfold plc
  cases ap
  · go_enter Tryz.func311, Tryz.ntmps311
    go_wp2
    go_ret
    exact ⟨rfl, rfl⟩
  · go_enter Tryz.func311, Tryz.ntmps311
    go_wp2_with fail
    refine HS.out.mono ?_
    rintro e w1 ⟨rfl, rfl⟩
    go_wp2
    go_ret
    exact ⟨rfl, rfl⟩
set_option maxRecDepth 100000 in
set_option maxHeartbeats 1000000 in
theorem of_refuses (x p : Nat) (b : List UInt8) (pos : Nat) (ap : Bool) (n : Int) (O : Nat → Prop) (w : World) (h : OFc w x p pos ap) (hO : PObj w O p (.file b)) :
    Calls Tryz.prog 309 #[.pointer (some ⟨x, 0, none⟩), .int .i64 n] w fun e w' => e = .returned (.int .i64 (if plc b ap pos = 1048576 then 31 else 0)) ∧ w' = w := by
  have HP := hide (of_place x p b pos ap O w h hO)
  clear h hO
  generalize plc b ap pos = m at *
  by_cases hm : m = 1048576
  · rw [if_pos hm]
    subst hm
    go_enter Tryz.func309, Tryz.ntmps309
    go_wp2_with fail
    refine HP.out.mono ?_
    rintro e w1 ⟨rfl, rfl⟩
    go_wp2
    go_ret
    exact ⟨rfl, rfl⟩
  · rw [if_neg hm]
    have h1 : ¬ (m : Int) = 1048576 := by omega
    have h2 : ((m : Int) == 1048576) = false := by simpa using h1
    go_enter Tryz.func309, Tryz.ntmps309
    go_wp2_with fail
    refine HP.out.mono ?_
    rintro e w1 ⟨rfl, rfl⟩
    go_wp2
    go_ret
    exact ⟨rfl, rfl⟩
theorem rdL_piece {b : List UInt8} {pos : Nat} {m : Int} (h1 : pos ≤ 1048576) (h2 : 1 ≤ m) (h3 : m ≤ 1048576) : rdL b pos m = piece b pos m.toNat ∧ Fi_rdE pos m = 0 := by
  have : (inR (pos : Int) && inR m) = true := by unfold inR; simp; omega
  unfold rdL Fi_rdE
  rw [this]
  simp
theorem OFc.set {W : World} {x p pos : Nat} {ap : Bool} (h : OFc W x p pos ap) (pos' : Nat) : OFc (W.setCell ⟨x, 1, none⟩ (.int .i64 pos')) x p pos' ap := by
  unfold OFc at *
  rw [heap_setCell_same 1 _ h]
  rfl
theorem COc.set {W : World} {x p n : Nat} (h : COc W x p n) (n' : Nat) : COc (W.setCell ⟨x, 1, none⟩ (.int .i64 n')) x p n' := by
  unfold COc at *
  rw [heap_setCell_same 1 _ h]
  rfl
set_option maxRecDepth 100000 in
set_option maxHeartbeats 1000000 in
theorem of_read (x p : Nat) (b : List UInt8) (pos : Nat) (ap : Bool) (m : Int) (O : Nat → Prop) (w : World) (h : OFc w x p pos ap) (hO : PObj w O p (.file b)) (hp : pos ≤ 1048576) (h1 : 1 ≤ m) (h2 : m ≤ 1048576) :
    Calls Tryz.prog 307 #[.pointer (some ⟨x, 0, none⟩), .int .i64 m] w fun e w' => ∃ v, e = .returned (.tuple #[v, .int .i64 0]) ∧ w'.ownsRow w.heap.size 5 1 v (piece b pos m.toNat).length ((piece b pos m.toNat).map bv) ∧ OFc w' x p (pos + (piece b pos m.toNat).length) ap ∧ Turned (fun k => k = x) w w' := by
  obtain ⟨c0, c1, c2, c3⟩ := h.cells
  have HR := hide (po_fread O p b pos m w.drew (hO.keep (fun _ _ _ => rfl) (Nat.le_refl _)))
  have HC := hide h
  rw [(rdL_piece (b := b) hp h1 h2).1, (rdL_piece (b := b) hp h1 h2).2] at HR
  have hlen : (piece b pos m.toNat).length ≤ 1048576 := by rw [piece_len]; omega
  have hlt : x < w.heap.size := (Array.getElem?_eq_some_iff.1 h).1
  clear h hO
  generalize piece b pos m.toNat = z at *
  have HL := hide hlen
  clear hlen
  go_enter Tryz.func307, Tryz.ntmps307
  go_wp2_with fail
  go_region_held3 (fun w' => w'.cell? ⟨x, 0, none⟩ = some (.pointer (some ⟨p, 0, none⟩)) ∧ w'.cell? ⟨x, 1, none⟩ = some (.int .i64 pos))
    (first | exact K5 | go_keep)
    (first
      | (go_at_call 282; refine HR.out.mono ?_; rintro e w1 ⟨v, rfl, hrow, hB1⟩; have K5 : w1.cell? ⟨x, 0, none⟩ = some (.pointer (some ⟨p, 0, none⟩)) ∧ w1.cell? ⟨x, 1, none⟩ = some (.int .i64 pos) := ⟨(hB1.cell (p := ⟨x, 0, none⟩) hlt).trans c0, (hB1.cell (p := ⟨x, 1, none⟩) hlt).trans c1⟩)
      | fail)
  have hB : Below w.heap.size w w1 := (Below.refl _ w).drew.trans hB1
  obtain ⟨va, vc, rfl⟩ := owns_slice hrow
  have HV := hide hrow
  have c1' := K5.2
  have c3' : w1.frozen? ⟨x, 1, none⟩ = false := (World.frozen?_of_block (w := w) (hB.block x hlt)).trans c3
  have hn := HL.out
  clear hrow
  go_wp2
  go_ret2
  have HC' : OFc w1 x p pos ap := (hB.block x hlt).trans HC.out
  refine ⟨_, rfl, ?_, ?_, (Turned.of_below hB).set (.inl rfl)⟩
  · exact ownsRow_setCell_below HV.out hlt _
  · have := HC'.set (pos + z.length)
    simpa using this
end Go.Proofs.YtkkommomefmpgaaGreat

/- The program's kernel: writes to an open file and to a console; what a pipe's end does. -/
namespace Go.Proofs.YtkkommomefmpgaaGreat
open Go.RowKit Go.Maps

theorem bys_front {W : World} {a : Option Addr} {c : Nat} {x : List UInt8} (h : Bys W (.slice a x.length c) x) (m : Nat) (hm : m ≤ x.length) : Bys W (.slice a m c) (x.take m) := by
  rcases h with ⟨h1, rfl⟩ | ⟨b, cap, h1, rfl⟩ | ⟨b, off, cap, h1, h2, h3⟩
  · simp at hm; subst hm
    simp at h1
    exact .inl ⟨by rw [h1.1, h1.2], by simp⟩
  · simp at hm; subst hm
    simp only [List.length_nil, Value.slice.injEq] at h1
    exact .inr (.inl ⟨b, cap, by rw [h1.1, h1.2.2], by simp⟩)
  · simp only [Value.slice.injEq] at h1
    obtain ⟨rfl, _, rfl⟩ := h1
    by_cases h0 : m = 0
    · subst h0
      exact .inr (.inl ⟨_, _, rfl, by simp⟩)
    · refine .inr (.inr ⟨b, off, c, by simp [hm], by simp; omega, fun j hj => ?_⟩)
      have hj' : j < m := by simp at hj; omega
      rw [h3 j (by omega)]
      simp [List.getD, hj']
theorem wr_fits {x : List UInt8} {at' : Nat} (h : at' + x.length ≤ 1048576) : Fi_wrE at' x.length = 0 := by
  unfold Fi_wrE inR
  simp
  omega
theorem COc.keep {W W' : World} {x p n : Nat} (h : COc W x p n) (hk : W'.heap[x]? = W.heap[x]?) : COc W' x p n := hk.trans h
theorem heap_set_other (W : World) {g k : Nat} (j : Nat) (v : Value) (h : k ≠ g) : (W.setCell ⟨g, j, none⟩ v).heap[k]? = W.heap[k]? := by
  unfold World.setCell
  simp [Array.getElem?_modify, Ne.symm h]
theorem heap_set_size (W : World) (g j : Nat) (v : Value) : (W.setCell ⟨g, j, none⟩ v).heap.size = W.heap.size := by
  unfold World.setCell; simp
def FWr (w : World) (O : Nat → Prop) (x p : Nat) (b : List UInt8) (at' : Nat) (z : List UInt8) (e : Ending) (w' : World) : Prop :=
  e = .returned (.tuple #[.int .i64 (z.length : Nat), .int .i64 0]) ∧ PStep (w.setCell ⟨x, 1, none⟩ (.int .i64 ((at' : Int) + (z.length : Int)))) O p (.file (wrL b at' z)) w'
set_option maxRecDepth 100000 in
set_option maxHeartbeats 2000000 in
theorem of_write (x p : Nat) (b bs : List UInt8) (pos : Nat) (ap : Bool) (m : Nat) (a1 : Option Addr) (cx : Nat) (O : Nat → Prop) (w : World) (h : OFc w x p pos ap) (hO : PObj w O p (.file b)) (hxO : ¬ O x) (hp : pos ≤ 1048576)
    (hb : Bys w (.slice a1 bs.length cx) bs) (hcap : bs.length ≤ cx) (h1 : 1 ≤ m) (h2 : m ≤ bs.length) (h3 : bs.length ≤ 1048576) (hd : ∀ k, (Value.slice a1 bs.length cx).ownBlock = some k → ¬ O k ∧ k ≠ x) :
    Calls Tryz.prog 310 #[.pointer (some ⟨x, 0, none⟩), .slice a1 bs.length cx, .int .i64 m] w (FWr w O x p b (plc b ap pos) (bs.take (min m (1048576 - plc b ap pos)))) := by
  obtain ⟨c0, c1, c2, c3⟩ := h.cells
  have HP := hide (of_place x p b pos ap O w h hO)
  have hat : plc b ap pos ≤ 1048576 := by
    unfold plc; split
    · exact hO.1
    · exact hp
  have hlt : x < w.heap.size := (Array.getElem?_eq_some_iff.1 h).1
  obtain ⟨A, hA⟩ : ∃ A, A = plc b ap pos := ⟨_, rfl⟩
  rw [← hA] at HP hat ⊢
  clear hA
  obtain ⟨N, hN⟩ : ∃ N, N = min m (1048576 - A) := ⟨_, rfl⟩
  rw [← hN]
  have hNb : N ≤ bs.length := by omega
  have hz : (bs.take N).length = N := by simp; omega
  have HW : Hid (Calls Tryz.prog 283 #[.pointer (some ⟨p, 0, none⟩), .int .i64 A, .slice a1 N cx] (w.setCell ⟨x, 1, none⟩ (.int .i64 ((A : Int) + (N : Int)))).drew fun e w' => e = .returned (.int .i64 0) ∧ PStep (w.setCell ⟨x, 1, none⟩ (.int .i64 ((A : Int) + (N : Int)))) O p (.file (wrL b A (bs.take N))) w') := hide (by
    have hOS : PObj (w.setCell ⟨x, 1, none⟩ (.int .i64 ((A : Int) + (N : Int)))) O p (.file b) := hO.keep (fun k e _ => heap_set_other w 1 _ (fun e' => hxO (by rw [e'] at e; exact e))) (by rw [heap_set_size]; exact Nat.le_refl _)
    refine (po_fwrite O p b (bs.take N) A (.slice a1 N cx) (w.setCell ⟨x, 1, none⟩ (.int .i64 ((A : Int) + (N : Int)))).drew (hOS.keep (fun _ _ _ => rfl) (Nat.le_refl _)) ?_ ?_).mono ?_
    · refine (bys_front hb N hNb).keep fun k e hk => (heap_set_other w (g := x) 1 (.int .i64 ((A : Int) + (N : Int))) ?_ :)
      exact (hd k (by cases a1 <;> simp [Value.ownBlock] at e ⊢ <;> exact e)).2
    · intro _ k e
      exact (hd k (by cases a1 <;> simp [Value.ownBlock] at e ⊢ <;> exact e)).1
    · rintro e w' ⟨rfl, O', hS1, hS2, hS3⟩
      exact ⟨by rw [wr_fits (by rw [hz]; omega)], O', hS1, hS2, (Turned.of_below (Below.refl _ _).drew).trans hS3 (fun _ _ e => e)⟩)
  have HF : Hid (∀ w', PStep (w.setCell ⟨x, 1, none⟩ (.int .i64 ((A : Int) + (N : Int)))) O p (.file (wrL b A (bs.take N))) w' → FWr w O x p b A (bs.take N) (.returned (.tuple #[.int .i64 (N : Nat), .int .i64 0])) w') := hide (fun w' hS => by
    unfold FWr
    rw [hz]
    exact ⟨rfl, hS⟩)
  have c0' : (w.setCell ⟨x, 1, none⟩ (.int .i64 ((A : Int) + (N : Int)))).cell? ⟨x, 0, none⟩ = some (.pointer (some ⟨p, 0, none⟩)) := by
    rw [World.cell?_setCell_other]
    · exact c0
    · simp
  have HD := hide (And.intro hN (And.intro hat hz))
  clear h hO hb hN hz hd
  generalize FWr w O x p b A (bs.take N) = FW at *
  rcases (show m < 1048576 - A ∨ 1048576 - A < m ∨ m = 1048576 - A by omega) with hc | hc | hc
  · obtain rfl : N = m := by have := HD.out.1; omega
    have d1 : (N : Int) < 1048576 - (A : Int) := by omega
    have d2 : ¬ (1048576 - (A : Int)) < (N : Int) := by omega
    have d3 : (N : Int) ≤ (cx : Int) := by omega
    have d4 : (A : Int) ≤ 1048576 := by omega
    go_enter Tryz.func310, Tryz.ntmps310
    go_wp2_with fail
    refine HP.out.mono ?_
    rintro e w1 ⟨rfl, rfl⟩
    go_wp2_with fail
    generalize (w1.setCell ⟨x, 1, none⟩ (.int .i64 ((A : Int) + (N : Int)))) = wS at *
    go_region_held3 (fun w' => w'.cell? ⟨x, 0, none⟩ = some (.pointer (some ⟨p, 0, none⟩)))
      (first | exact K5 | go_keep)
      (first
        | (go_at_call 283; refine HW.out.mono ?_; rintro e w5 ⟨rfl, hS⟩; have K5 : w5.cell? ⟨x, 0, none⟩ = some (.pointer (some ⟨p, 0, none⟩)) := by obtain ⟨O', hS1, hS2, hS3⟩ := hS; exact hS3.cell c0' hxO)
        | fail)
    go_wp2
    exact HF.out _ hS
  · have e1 : (N : Int) = 1048576 - (A : Int) := by have := HD.out.1; omega
    have e2 : N = 1048576 - A := by omega
    have d1 : ¬ (m : Int) < 1048576 - (A : Int) := by omega
    have d2 : (1048576 - (A : Int)) < (m : Int) := by omega
    have d3 : 1048576 - (A : Int) ≤ (cx : Int) := by omega
    have d4 : (A : Int) ≤ 1048576 := by omega
    have d5 : (1048576 - (A : Int)).toNat = N := by omega
    rw [e1] at HW HF c0'
    have HE := hide e1
    clear e1 e2
    go_enter Tryz.func310, Tryz.ntmps310
    go_wp2_with fail
    refine HP.out.mono ?_
    rintro e w1 ⟨rfl, rfl⟩
    go_wp2_with fail
    generalize (w1.setCell ⟨x, 1, none⟩ (.int .i64 ((A : Int) + (1048576 - (A : Int))))) = wS at *
    go_region_held3 (fun w' => w'.cell? ⟨x, 0, none⟩ = some (.pointer (some ⟨p, 0, none⟩)))
      (first | exact K5 | go_keep)
      (first
        | (go_at_call 283; refine HW.out.mono ?_; rintro e w5 ⟨rfl, hS⟩; have K5 : w5.cell? ⟨x, 0, none⟩ = some (.pointer (some ⟨p, 0, none⟩)) := by obtain ⟨O', hS1, hS2, hS3⟩ := hS; exact hS3.cell c0' hxO)
        | fail)
    go_wp2
    exact HF.out _ hS
  · obtain rfl : N = m := by have := HD.out.1; omega
    have e1 : 1048576 - (A : Int) = (N : Int) := by omega
    have d3 : (N : Int) ≤ (cx : Int) := by omega
    have d4 : (A : Int) ≤ 1048576 := by omega
    clear hc
    go_enter Tryz.func310, Tryz.ntmps310
    go_wp2_with fail
    refine HP.out.mono ?_
    rintro e w1 ⟨rfl, rfl⟩
    go_wp2_with fail
    generalize (w1.setCell ⟨x, 1, none⟩ (.int .i64 ((A : Int) + (N : Int)))) = wS at *
    go_region_held3 (fun w' => w'.cell? ⟨x, 0, none⟩ = some (.pointer (some ⟨p, 0, none⟩)))
      (first | exact K5 | go_keep)
      (first
        | (go_at_call 283; refine HW.out.mono ?_; rintro e w5 ⟨rfl, hS⟩; have K5 : w5.cell? ⟨x, 0, none⟩ = some (.pointer (some ⟨p, 0, none⟩)) := by obtain ⟨O', hS1, hS2, hS3⟩ := hS; exact hS3.cell c0' hxO)
        | fail)
    go_wp2
    exact HF.out _ hS
end Go.Proofs.YtkkommomefmpgaaGreat
