/- What the proof stands on, part 6: the contracts of the program's calls that it reaches. -/
import Derived.Test.YtejcfhjhjplcnaaGreatKM5
import Derived.Maps.OwnSet
import Derived.Sort.KeysCollected
/- Plans: isMade, New, Next, Rest, Copy, the reference's Next. -/
namespace Go.Proofs.YtejcfhjhjplcnaaGreat
open Go.RowKit

structure PlanAt (W : World) (g : Nat) (v : Value) (l : List Fault) : Prop where
  made : W.cell? ⟨g, 0, none⟩ = some (.bool true)
  left : W.cell? ⟨g, 1, none⟩ = some v
  soft : W.frozen? ⟨g, 1, none⟩ = false
  list : Flts W v l
  apart : v.ownBlock ≠ some g
structure RPlanAt (W : World) (g : Nat) (v : Value) (l : List Fault) : Prop where
  left : W.cell? ⟨g, 0, none⟩ = some v
  soft : W.frozen? ⟨g, 0, none⟩ = false
  list : Flts W v l
  apart : v.ownBlock ≠ some g

def nxt (l : List Fault) (want : Int) : Int × Int :=
  if want < 1 ∨ 1048576 < want then (0, 4) else match l with
  | [] => (want, 0)
  | f :: _ => if f.1 = 1 then (min want f.2, 0) else if f.1 = 2 then (0, 22) else if f.1 = 3 then (0, 23) else (want, 0)
set_option maxHeartbeats 1000000 in
theorem Fa_isMade_yes (g : Nat) (w : World) (h : w.cell? ⟨g, 0, none⟩ = some (.bool true)) :
    Calls Tryz.prog 209 #[.pointer (some ⟨g, 0, none⟩)] w fun e w' => e = .returned (.bool true) ∧ w' = w := by
  go_enter Tryz.func209, Tryz.ntmps209
  go_wp2
  go_ret
  exact ⟨rfl, rfl⟩
set_option maxRecDepth 100000 in
set_option maxHeartbeats 1000000 in
theorem Fa_new_good (v : Value) (l : List Fault) (w : World) (h : Flts w v l) (hs : l.length * 16 ≤ 140737488351232) (hc : (chk l).1 = 0) :
    Calls Tryz.prog 55 #[v] w fun e w' => ∃ g v', e = .returned (.tuple #[.pointer (some ⟨g, 0, none⟩), .int .i64 0]) ∧ PlanAt w' g v' l ∧ w.heap.size ≤ g ∧ g < w'.heap.size ∧ (∀ k, v'.ownBlock = some k → w.heap.size ≤ k ∧ k < w'.heap.size) ∧ Below w.heap.size w w' := by
  have hk := Fa_check_any v l w h (by unfold maxLen; omega)
  rw [hc] at hk
  have HK := hide hk
  generalize (chk l).2 = y at *
  clear hk
  go_enter Tryz.func55, Tryz.ntmps55
  go_wp2_with fail
  refine HK.out.mono ?_
  rintro e w1 ⟨rfl, hB⟩
  have HF := hide (h.below hB)
  clear h HK
  go_wp2_with fail
  refine (clone_any v l w1 HF.out hs).mono ?_
  rintro e w2 ⟨v', rfl, hown, hB2⟩
  obtain ⟨a2, c2, rfl⟩ := owns_slice hown
  have HO := hide hown
  clear hown
  go_wp2
  go_ret2
  have hB3 := hB.trans (hB2.mono hB.size)
  have hl := HO.out.lt
  have hz := hB.size
  refine ⟨_, .slice a2 l.length c2, rfl, ⟨?_, ?_, ?_, ?_, ?_⟩, hB3.size, ?_, ?_, hB3.alloc hB3.size _⟩
  · simp only [World.cell?, heap_alloc_new]; rfl
  · simp only [World.cell?, heap_alloc_new]; rfl
  · simp only [World.frozen?, heap_alloc_new]; rfl
  · exact (Flts.of_owns HO.out).below ((Below.refl _ _).alloc (Nat.le_refl _) _)
  · intro he
    have := (hl _ he).2
    omega
  · exact size_new _ _
  · intro k hk
    have := hl k hk
    have := size_new w2 (Obj.cells #[Value.bool true, Value.slice a2 l.length c2] 246)
    omega

theorem PlanAt.form {W : World} {g : Nat} {v : Value} {l : List Fault} (h : PlanAt W g v l) : ∃ a c, v = .slice a l.length c := by
  obtain ⟨a, c, rfl, _⟩ := flts_form h.list
  exact ⟨a, c, rfl⟩
theorem PlanAt.keep {W W' : World} {g : Nat} {v : Value} {l : List Fault} (h : PlanAt W g v l) (hB : ∀ k, k < W.heap.size → k = g ∨ v.ownBlock = some k → W'.heap[k]? = W.heap[k]?) : PlanAt W' g v l := by
  have hg := World.block_lt_of_cell? W _ h.made
  have e := hB g hg (.inl rfl)
  exact ⟨(World.cell?_of_block (w := W) e).trans h.made, (World.cell?_of_block (w := W) e).trans h.left, (World.frozen?_of_block (w := W) e).trans h.soft, h.list.lift fun k hk hl => hB k hl (.inr hk), h.apart⟩
theorem PlanAt.below {W W' : World} {g : Nat} {v : Value} {l : List Fault} (h : PlanAt W g v l) (hB : Below W.heap.size W W') : PlanAt W' g v l :=
  h.keep fun k hk _ => hB.block k hk
theorem RPlanAt.keep {W W' : World} {g : Nat} {v : Value} {l : List Fault} (h : RPlanAt W g v l) (hB : ∀ k, k < W.heap.size → k = g ∨ v.ownBlock = some k → W'.heap[k]? = W.heap[k]?) : RPlanAt W' g v l := by
  have hg := World.block_lt_of_cell? W _ h.left
  have e := hB g hg (.inl rfl)
  exact ⟨(World.cell?_of_block (w := W) e).trans h.left, (World.frozen?_of_block (w := W) e).trans h.soft, h.list.lift fun k hk hl => hB k hl (.inr hk), h.apart⟩
theorem RPlanAt.below {W W' : World} {g : Nat} {v : Value} {l : List Fault} (h : RPlanAt W g v l) (hB : Below W.heap.size W W') : RPlanAt W' g v l :=
  h.keep fun k hk _ => hB.block k hk

set_option maxRecDepth 100000 in
set_option maxHeartbeats 1000000 in
theorem rest_any (g : Nat) (v : Value) (l : List Fault) (w : World) (h : PlanAt w g v l) (hs : l.length * 16 ≤ 140737488351232) :
    Calls Tryz.prog 184 #[.pointer (some ⟨g, 0, none⟩)] w fun e w' => ∃ v', e = .returned v' ∧ w'.ownsRow w.heap.size 190 2 v' l.length (fcs l) ∧ Below w.heap.size w w' := by
  obtain ⟨a, c, rfl⟩ := h.form
  have h1 := h.made
  have h2 := h.left
  have h3 := hide h.list
  clear h
  go_enter Tryz.func184, Tryz.ntmps184
  go_wp2_with fail
  refine (Fa_isMade_yes g w h1).mono ?_
  rintro e w1 ⟨rfl, rfl⟩
  go_wp2_with fail
  refine (clone_any _ l w1 h3.out hs).mono ?_
  rintro e w2 ⟨v', rfl, hown, hB2⟩
  have HO := hide hown
  clear hown
  go_wp2
  go_ret
  exact ⟨_, rfl, HO.out, hB2⟩

set_option maxRecDepth 100000 in
set_option maxHeartbeats 1000000 in
theorem next_end (g : Nat) (v : Value) (want : Int) (w : World) (h : PlanAt w g v []) (hw1 : 1 ≤ want) (hw2 : want ≤ 1048576) :
    Calls Tryz.prog 165 #[.pointer (some ⟨g, 0, none⟩), .int .i64 want] w fun e w' => e = .returned (.tuple #[.int .i64 want, .int .i64 0]) ∧ w' = w := by
  obtain ⟨a, c, rfl⟩ := h.form
  have h1 := h.made
  have h2 := h.left
  simp only [List.length_nil] at h2
  clear h
  go_enter Tryz.func165, Tryz.ntmps165
  go_wp2_with fail
  refine (Fa_isMade_yes g w h1).mono ?_
  rintro e w1 ⟨rfl, rfl⟩
  go_wp2
  go_ret2
  exact ⟨rfl, rfl⟩
theorem nxt_in {x y want : Int} {r : List Fault} (h1 : 1 ≤ want) (h2 : want ≤ 1048576) : nxt ((x, y) :: r) want = if x = 1 then (min want y, 0) else if x = 2 then (0, 22) else if x = 3 then (0, 23) else (want, 0) := by
  simp only [nxt]
  rw [if_neg (by omega)]

theorem plan_world {w : World} {g b off cap n : Nat} {f : Fault} {r : List Fault} {o : Obj} {v' : Value} (h : PlanAt w g (.slice (some ⟨b, off, none⟩) n cap) (f :: r)) (hn : n = r.length + 1) (hcap : n ≤ cap)
    (hv : v' = .slice (some ⟨b, off + 2, none⟩) r.length (cap - 1) ∨ v' = .slice (some ⟨b, off, none⟩) r.length 0 ∧ cap = 1) :
    PlanAt ((w.setCell ⟨g, 1, none⟩ v').alloc o) g v' r ∧ v'.ownBlock = some b ∧ w.grownBy ((w.setCell ⟨g, 1, none⟩ v').alloc o) (some g) := by
  have hne : g ≠ b := fun e => h.apart (by rw [e]; rfl)
  have hgl : g < w.heap.size := World.block_lt_of_cell? w _ h.made
  have hsz : (w.setCell ⟨g, 1, none⟩ v').heap.size = w.heap.size := by simp [World.setCell]
  have hal : ∀ k, k < w.heap.size → ((w.setCell ⟨g, 1, none⟩ v').alloc o).heap[k]? = (w.setCell ⟨g, 1, none⟩ v').heap[k]? := fun k hk => Below.heap_alloc _ _ _ (by rw [hsz]; exact hk)
  have hoth : ∀ k, k < w.heap.size → k ≠ g → ((w.setCell ⟨g, 1, none⟩ v').alloc o).heap[k]? = w.heap[k]? := fun k hk hkg => (hal k hk).trans (Below.heap_setCell _ _ _ _ hkg)
  have hob : v'.ownBlock = some b := by rcases hv with rfl | ⟨rfl, _⟩ <;> rfl
  refine ⟨⟨?_, ?_, ?_, ?_, by rw [hob]; intro e; exact hne (Option.some.inj e).symm⟩, hob, ⟨rfl, rfl, rfl, ?_, ?_⟩⟩
  · exact (World.cell?_of_block (hal g hgl)).trans ((World.cell?_setCell_other _ _ _ _ (by simp)).trans h.made)
  · exact (World.cell?_of_block (hal g hgl)).trans (World.cell?_setCell_same _ _ _ h.left)
  · exact (World.frozen?_of_block (hal g hgl)).trans ((World.frozen?_setCell _ _ _ _).trans h.soft)
  · rcases h.list with ⟨h0, _⟩ | ⟨a, c, h0, h1⟩ | ⟨b', off', cap', heq, h0, hc', hc⟩
    · cases h0
    · cases h1
    · cases heq
      rcases hv with rfl | ⟨rfl, h1⟩
      · by_cases hr : r.length = 0
        · exact .inr (.inl ⟨_, _, by rw [hr], List.length_eq_zero_iff.1 hr⟩)
        · refine .inr (.inr ⟨b, off + 2, cap - 1, rfl, by omega, by omega, fun j hj => ?_⟩)
          have hj' : j + 1 < (f :: r).length := by simp only [List.length_cons]; omega
          have hbl : b < w.heap.size := World.block_lt_of_cell? w _ (hc (j + 1) hj').1
          have e := hoth b hbl (Ne.symm hne)
          have e1 := (hc (j + 1) hj').1
          have e2 := (hc (j + 1) hj').2
          rw [List.getD_cons_succ] at e1 e2
          rw [show off + (j + 1) * 2 = off + 2 + j * 2 by omega] at e1 e2
          exact ⟨(World.cell?_of_block (w := w) e).trans e1, (World.cell?_of_block (w := w) e).trans e2⟩
      · have hr : r.length = 0 := by omega
        exact .inr (.inl ⟨_, _, by rw [hr], List.length_eq_zero_iff.1 hr⟩)
  · have := size_new (w.setCell ⟨g, 1, none⟩ v') o
    omega
  · intro k hk hkg
    exact hoth k hk fun e => hkg (by rw [e])

set_option maxRecDepth 100000 in
set_option maxHeartbeats 1000000 in
theorem next_some (g : Nat) (v : Value) (f : Fault) (r : List Fault) (want : Int) (w : World) (h : PlanAt w g v (f :: r)) (hw1 : 1 ≤ want) (hw2 : want ≤ 1048576) (hs : r.length < maxLen) :
    Calls Tryz.prog 165 #[.pointer (some ⟨g, 0, none⟩), .int .i64 want] w fun e w' => e = .returned (.tuple #[.int .i64 (nxt (f :: r) want).1, .int .i64 (nxt (f :: r) want).2]) ∧ ∃ v', PlanAt w' g v' r ∧ v'.ownBlock = v.ownBlock ∧ w.grownBy w' (some g) := by
  unfold maxLen at hs
  have h1 := h.made
  have h2 := h.left
  have h3 := h.soft
  rcases h.list with ⟨rfl, h0⟩ | ⟨a, cap, rfl, h0⟩ | ⟨b, off, cap, rfl, h0, hcap, hc⟩
  · cases h0
  · cases h0
  · have e1 := (hc 0 h0).1
    have e2 := (hc 0 h0).2
    simp only [Nat.zero_mul, Nat.add_zero, List.getD_cons_zero] at e1 e2
    obtain ⟨x, y⟩ := f
    simp only at e1 e2
    have hne : g ≠ b := fun e => h.apart (by rw [e]; rfl)
    simp only [List.length_cons] at h2 hcap
    have HC := hide hc
    have HP := hide h
    have hgl := World.block_lt_of_cell? w _ h1
    have h2' : ∀ o, (w.alloc o).cell? ⟨g, 1, none⟩ = some (.slice (some ⟨b, off, none⟩) (r.length + 1) cap) := fun o => (World.cell?_of_block (w := w) (Below.heap_alloc w o g hgl)).trans h2
    have h3' : ∀ o, (w.alloc o).frozen? ⟨g, 1, none⟩ = false := fun o => (World.frozen?_of_block (w := w) (Below.heap_alloc w o g hgl)).trans h3
    have hgn : w.heap.size ≠ g := by simp only at hgl; omega
    clear hc h h0 h3
    go_enter Tryz.func165, Tryz.ntmps165
    go_wp2_with fail
    refine (Fa_isMade_yes g w h1).mono ?_
    rintro e w1 ⟨rfl, rfl⟩
    go_wp2
    all_goals go_ret2
    all_goals refine ⟨ret2 (congrArg (Value.int .i64) ?_) (congrArg (Value.int .i64) ?_), _, plan_world HP.out (by simp) (by simp only [List.length_cons]; omega) (by first | exact .inl rfl | exact .inr ⟨rfl, by first | rfl | omega⟩)⟩
    all_goals clear HC HP
    all_goals rw [nxt_in hw1 hw2]
    all_goals simp_all
    all_goals omega
end Go.Proofs.YtejcfhjhjplcnaaGreat

/- A kernel by the page, as a value: what it is, and what calls answer and leave. No program. -/
namespace Go.Proofs.YtejcfhjhjplcnaaGreat
open Go.RowKit

theorem kempty_yes (s : ByteArray) (h : s.size = 0) : s.toList.isEmpty = true := by
  rw [ByteArray.toList_eq, List.isEmpty_iff, ← List.length_eq_zero_iff]; simpa using h
theorem kempty_no (s : ByteArray) (h : s.size ≠ 0) : s.toList.isEmpty = false := by
  rw [ByteArray.toList_eq, Bool.eq_false_iff, Ne, List.isEmpty_iff, ← List.length_eq_zero_iff]; simpa using h
def nameOk (s : ByteArray) : Bool := decide (0 < s.size) && (decide (s.size ≤ 64) && s.data.toList.all (fun c => decide (33 ≤ c.toNat) && decide (c.toNat ≤ 126)))

abbrev fbit (f m : Int) : Int := bits .and .i64 f m
def flagsOk (f : Int) : Bool := decide (0 ≤ f ∧ f ≤ 63) && (!(fbit f 3 == 0) && ((fbit f 20 == 0 || !(fbit f 2 == 0)) && (fbit f 32 == 0 || !(fbit f 8 == 0))))
def inNames (s : ByteArray) (ss : List ByteArray) : Bool := ss.any (fun x => x.data.toList == s.data.toList)
theorem bytes_ne {x s : ByteArray} (h : ¬ x = s) : ¬ x.data.toList = s.data.toList := fun e => h (Go.WideShapes.bytes_inj e)
theorem inNames_iff (s : ByteArray) (ss : List ByteArray) : inNames s ss = true ↔ s ∈ ss := by
  unfold inNames
  rw [List.any_eq_true]
  constructor
  · rintro ⟨x, hx, he⟩
    have : x = s := Go.WideShapes.bytes_inj (by simpa using he)
    rw [← this]; exact hx
  · intro h
    exact ⟨s, h, by simp⟩

def kfiles : List ByteArray → List Nm → Int × List ByteArray
  | ns, [] => (0, ns)
  | ns, (n, d) :: l => if nameOk n = false then (61, ns) else if inNames n ns = true then (6, ns) else if 1048576 < d.length then (5, ns) else kfiles (ns ++ [n]) l
def kterms : List ByteArray → List Tp → Int
  | _, [] => 0
  | ns, (n, ls) :: l => if nameOk n = false then 61 else if inNames n ns = true then 6 else if newE ls = 0 then kterms (ns ++ [n]) l else newE ls
def checkE (fs : List Nm) (ts : List Tp) (l : List Fault) : Int :=
  if 256 < fs.length + ts.length then 3 else if (kfiles [] fs).1 = 0 then (if kterms (kfiles [] fs).2 ts = 0 then (chk l).1 else kterms (kfiles [] fs).2 ts) else (kfiles [] fs).1
theorem drop_at {α : Type} (l : List α) (k : Nat) (h : k < l.length) : l.drop k = l[k] :: l.drop (k + 1) := List.drop_eq_getElem_cons h

inductive Ob where
  | file (b : List UInt8)
  | term (ls : List (List UInt8)) (scr : List UInt8)
  | pipe (q : List UInt8) (rd wt : Nat)
def Ob.kind : Ob → Int
  | .file _ => 1
  | .term _ _ => 2
  | .pipe _ _ _ => 3
def Ob.ok : Ob → Prop
  | .file b => b.length ≤ 1048576
  | .term ls scr => ls.length ≤ 256 ∧ (∀ j (hj : j < ls.length), ls[j].length ≤ 4096) ∧ scr.length ≤ 1048576
  | .pipe q rd wt => q.length ≤ 4096 ∧ rd ≤ 1024 ∧ wt ≤ 1024
structure Th where
  name : ByteArray
  ob : Ob
structure De where
  n : Nat
  th : Nat
  flags : Int
  pos : Nat
  held : Nat
structure KS where
  th : List Th
  nm : List Nat
  de : List De
  next : Nat
  plan : List Fault
  reads : Nat
  writes : Nat
def KS.find (K : KS) (d : Int) : Option De := K.de.find? (fun x => decide ((x.n : Int) = d))

def planOk (l : List Fault) : Prop := l.length ≤ 4096 ∧ ∀ f ∈ l, f.1 = 1 → 1 ≤ f.2 ∧ f.2 ≤ 1048576
theorem planOk.tail {l : List Fault} (h : planOk l) : planOk l.tail := ⟨by have := h.1; simp; omega, fun f hf => h.2 f (List.mem_of_mem_tail hf)⟩
theorem nxt_good {l : List Fault} {want : Int} (h : planOk l) (h1 : 1 ≤ want) (h2 : want ≤ 1048576) (he : (nxt l want).2 = 0) : 1 ≤ (nxt l want).1 ∧ (nxt l want).1 ≤ want := by
  unfold nxt at he ⊢
  rw [if_neg (by omega)] at he ⊢
  cases l with
  | nil => simp; omega
  | cons f r =>
    simp only at he ⊢
    by_cases e1 : f.1 = 1
    · have := h.2 f (by simp) e1
      rw [if_pos e1]
      simp only
      omega
    · rw [if_neg e1] at he ⊢
      by_cases e2 : f.1 = 2
      · rw [if_pos e2] at he; simp at he
      · rw [if_neg e2] at he ⊢
        by_cases e3 : f.1 = 3
        · rw [if_pos e3] at he; simp at he
        · rw [if_neg e3] at he ⊢
          simp only
          omega
structure KOk (K : KS) : Prop where
  few : K.de.length ≤ 256
  named : K.nm.length ≤ 256
  th : ∀ d ∈ K.de, d.th < K.th.length
  nm : ∀ i ∈ K.nm, i < K.th.length
  num : ∀ d ∈ K.de, 1 ≤ d.n ∧ d.n < K.next
  once : ∀ d ∈ K.de, ∀ d' ∈ K.de, d.n = d'.n → d = d'
  flags : ∀ d ∈ K.de, flagsOk d.flags = true
  pos : ∀ d ∈ K.de, d.pos ≤ 1048576
  held : ∀ d ∈ K.de, 1 ≤ d.held ∧ d.held ≤ 1024
  plan : planOk K.plan
theorem KS.find_some {K : KS} {d : Int} {x : De} (h : K.find d = some x) : x ∈ K.de ∧ (x.n : Int) = d := by
  unfold KS.find at h
  exact ⟨List.mem_of_find?_eq_some h, by simpa using List.find?_some h⟩
def KS.tho (K : KS) (x : De) : Ob := (K.th[x.th]?.map Th.ob).getD (.file [])
theorem KS.tho_eq {K : KS} {x : De} (h : x.th < K.th.length) : K.tho x = K.th[x.th].ob := by simp [KS.tho, h]
def KS.kindOf (K : KS) (d : Int) : Int := match K.find d with | none => 0 | some x => (K.tho x).kind
def KS.canRead (K : KS) (d : Int) : Bool := match K.find d with
  | none => false
  | some x => !(fbit x.flags 1 == 0) && (match K.tho x with | .pipe q rd wt => canR q.length rd wt | _ => true)
theorem KS.canRead_none {K : KS} {d : Int} (h : K.find d = none) : K.canRead d = false := by unfold KS.canRead; rw [h]
theorem KS.canRead_some {K : KS} {d : Int} {x : De} (h : K.find d = some x) : K.canRead d = (!(fbit x.flags 1 == 0) && (match K.tho x with | .pipe q rd wt => canR q.length rd wt | _ => true)) := by unfold KS.canRead; rw [h]
def KS.canWrite (K : KS) (d n : Int) : Bool := match K.find d with
  | none => false
  | some x => !(fbit x.flags 2 == 0) && (inN n && (match K.tho x with | .pipe q rd wt => canW n q.length rd wt | _ => true))
theorem KS.canWrite_none {K : KS} {d n : Int} (h : K.find d = none) : K.canWrite d n = false := by unfold KS.canWrite; rw [h]
theorem KS.canWrite_some {K : KS} {d n : Int} {x : De} (h : K.find d = some x) : K.canWrite d n = (!(fbit x.flags 2 == 0) && (inN n && (match K.tho x with | .pipe q rd wt => canW n q.length rd wt | _ => true))) := by unfold KS.canWrite; rw [h]
def KS.heldOf (K : KS) (d : Int) : List UInt8 := match K.find d with
  | none => []
  | some x => match K.tho x with | .pipe q _ _ => q | _ => []
theorem KS.heldOf_none {K : KS} {d : Int} (h : K.find d = none) : K.heldOf d = [] := by unfold KS.heldOf; rw [h]
theorem KS.heldOf_some {K : KS} {d : Int} {x : De} (h : K.find d = some x) : K.heldOf d = match K.tho x with | .pipe q _ _ => q | _ => [] := by unfold KS.heldOf; rw [h]
def KS.setDe (K : KS) (x : De) : KS := { K with de := K.de.map fun y => if y.n = x.n then x else y }
theorem mem_setDe {K : KS} {x y : De} (h : y ∈ (K.setDe x).de) : y = x ∨ (y ∈ K.de ∧ y.n ≠ x.n) := by
  obtain ⟨z, hz, he⟩ := List.mem_map.1 h
  by_cases e : z.n = x.n
  · rw [if_pos e] at he; exact .inl he.symm
  · rw [if_neg e] at he; subst he; exact .inr ⟨hz, e⟩
theorem setDe_ns {K : KS} {x : De} (f : Nat → Value) : (K.setDe x).de.map (fun d => f d.n) = K.de.map fun d => f d.n := by
  unfold KS.setDe
  simp only [List.map_map]
  apply List.map_congr_left
  intro y _
  simp only [Function.comp]
  split
  · rename_i e; rw [e]
  · rfl
theorem KOk.setDe {K : KS} (h : KOk K) {x x' : De} (hx : x ∈ K.de) (hn : x'.n = x.n) (ht : x'.th = x.th) (hf : x'.flags = x.flags) (hp : x'.pos ≤ 1048576) (hh : 1 ≤ x'.held ∧ x'.held ≤ 1024) : KOk (K.setDe x') := by
  have el : ∀ y ∈ (K.setDe x').de, y = x' ∨ (y ∈ K.de ∧ y.n ≠ x'.n) := fun y hy => mem_setDe hy
  refine ⟨by simpa [KS.setDe] using h.few, h.named, fun y hy => ?_, h.nm, fun y hy => ?_, fun y hy z hz e => ?_, fun y hy => ?_, fun y hy => ?_, fun y hy => ?_, h.plan⟩
  · rcases el y hy with rfl | ⟨h1, _⟩
    · rw [ht]; exact h.th x hx
    · exact h.th y h1
  · rcases el y hy with rfl | ⟨h1, _⟩
    · rw [hn]; exact h.num x hx
    · exact h.num y h1
  · rcases el y hy with rfl | ⟨h1, h2⟩
    · rcases el z hz with rfl | ⟨h3, h4⟩
      · rfl
      · exact absurd e.symm h4
    · rcases el z hz with rfl | ⟨h3, h4⟩
      · exact absurd e h2
      · exact h.once y h1 z h3 e
  · rcases el y hy with rfl | ⟨h1, _⟩
    · rw [hf]; exact h.flags x hx
    · exact h.flags y h1
  · rcases el y hy with rfl | ⟨h1, _⟩
    · exact hp
    · exact h.pos y h1
  · rcases el y hy with rfl | ⟨h1, _⟩
    · exact hh
    · exact h.held y h1
def KS.keepE (K : KS) (d : Int) : Int := match K.find d with
  | none => 64
  | some x => if 1024 ≤ x.held then 3 else 0
def KS.keepK (K : KS) (d : Int) : KS := match K.find d with
  | none => K
  | some x => if 1024 ≤ x.held then K else K.setDe { x with held := x.held + 1 }
def KS.setOb (K : KS) (i : Nat) (ob : Ob) : KS := { K with th := K.th.modify i fun t => { t with ob := ob } }
theorem setOb_len (K : KS) (i : Nat) (ob : Ob) : (K.setOb i ob).th.length = K.th.length := by simp [KS.setOb]
theorem setOb_same {K : KS} {i : Nat} {ob : Ob} (h : i < (K.setOb i ob).th.length) (h' : i < K.th.length) : (K.setOb i ob).th[i] = { K.th[i] with ob := ob } := by simp [KS.setOb]
theorem setOb_other {K : KS} {i j : Nat} {ob : Ob} (hne : j ≠ i) (h : j < (K.setOb i ob).th.length) (h' : j < K.th.length) : (K.setOb i ob).th[j] = K.th[j] := by simp [KS.setOb, Ne.symm hne]
def Ob.waits : Ob → Bool
  | .pipe q rd wt => !canR q.length rd wt
  | _ => false
def KS.readUp (K : KS) : KS := { K with reads := K.reads + 1, plan := K.plan.tail }
def KS.read (K : KS) (d n : Int) : List UInt8 × Int × KS :=
  match K.find d with
  | none => ([], 64, K)
  | some x =>
    if fbit x.flags 1 = 0 then ([], 65, K) else if n < 0 ∨ 1048576 < n then ([], 4, K) else if n = 0 then ([], 0, K) else if (K.tho x).waits = true then ([], 52, K)
    else if (nxt K.plan n).2 = 0 then
      match K.tho x with
      | .file b => (piece b x.pos (nxt K.plan n).1.toNat, 0, K.readUp.setDe { x with pos := x.pos + (piece b x.pos (nxt K.plan n).1.toNat).length })
      | .term ls scr => (rdH ls (nxt K.plan n).1, Te_rdE (nxt K.plan n).1, K.readUp.setOb x.th (.term (rdR ls (nxt K.plan n).1) scr))
      | .pipe q rd wt => (rdB (nxt K.plan n).1 q rd wt, Kp_rdE (nxt K.plan n).1 q.length rd wt, K.readUp.setOb x.th (.pipe (rdQ (nxt K.plan n).1 q rd wt) rd wt))
    else ([], (nxt K.plan n).2, K.readUp)
theorem term_ok {ls : List (List UInt8)} {scr : List UInt8} {m : Int} (h : (Ob.term ls scr).ok) : (Ob.term (rdR ls m) scr).ok := by
  unfold rdR
  split
  · exact ⟨restL_few h.1, restL_short h.2.1, h.2.2⟩
  · exact h
theorem pipe_ok {q : List UInt8} {rd wt : Nat} {m : Int} (h : (Ob.pipe q rd wt).ok) : (Ob.pipe (rdQ m q rd wt) rd wt).ok := by
  unfold rdQ
  split
  · exact ⟨by have := h.1; simp; omega, h.2⟩
  · exact h

def roomOf (ob : Ob) (flags : Int) (pos : Nat) : Nat := match ob with
  | .file b => if fbit flags 4 = 0 then 1048576 - pos else 1048576 - b.length
  | .term _ scr => 1048576 - scr.length
  | .pipe _ _ _ => 0
def KS.seek (K : KS) (d off wh : Int) : Int × Int × KS :=
  match K.find d with
  | none => (0, 64, K)
  | some x => match K.tho x with
    | .file b => if wh < 0 ∨ 2 < wh then (0, 1, K) else
        if 0 ≤ (if wh = 1 then (x.pos : Int) else if wh = 2 then (b.length : Int) else 0) + off ∧ (if wh = 1 then (x.pos : Int) else if wh = 2 then (b.length : Int) else 0) + off ≤ 1048576 then
          ((if wh = 1 then (x.pos : Int) else if wh = 2 then (b.length : Int) else 0) + off, 0, K.setDe { x with pos := ((if wh = 1 then (x.pos : Int) else if wh = 2 then (b.length : Int) else 0) + off).toNat })
        else (0, 4, K)
    | _ => (0, 66, K)
end Go.Proofs.YtejcfhjhjplcnaaGreat

/- A kernel by the page, as a value: writes, drops, opens, pipes, beginnings. No program. -/
namespace Go.Proofs.YtejcfhjhjplcnaaGreat
open Go.RowKit

def bit (f m : Int) : Bool := !(fbit f m == 0)
theorem bit_no {f m : Int} (h : fbit f m = 0) : bit f m = false := by unfold bit; rw [h]; rfl
theorem bit_yes {f m : Int} (h : fbit f m ≠ 0) : bit f m = true := by unfold bit; simpa using h
def placeOf (f : List UInt8) (flags : Int) (pos : Nat) : Nat := if bit flags 4 = true then f.length else pos
def refusal (ob : Ob) (flags : Int) (pos : Nat) (n : Int) : Int := match ob with
  | .pipe q rd wt => if rd = 0 then 53 else if canW n q.length rd wt = false then 52 else 0
  | .term _ scr => if scr.length = 1048576 then 31 else 0
  | .file f => if placeOf f flags pos = 1048576 then 31 else 0
def KS.writeUp (K : KS) : KS := { K with writes := K.writes + 1, plan := K.plan.tail }
def KS.write (K : KS) (d : Int) (b : List UInt8) : Int × Int × KS :=
  match K.find d with
  | none => (0, 64, K)
  | some x =>
    if fbit x.flags 2 = 0 then (0, 65, K) else if 1048576 < b.length then (0, 5, K) else if b.length = 0 then (0, 0, K)
    else if refusal (K.tho x) x.flags x.pos b.length = 0 then
      if (nxt K.plan b.length).2 = 0 then
        match K.tho x with
        | .file f => ((min (nxt K.plan b.length).1.toNat (1048576 - placeOf f x.flags x.pos) : Nat), 0, (K.writeUp.setOb x.th (.file (wrL f (placeOf f x.flags x.pos) (b.take (min (nxt K.plan b.length).1.toNat (1048576 - placeOf f x.flags x.pos)))))).setDe { x with pos := placeOf f x.flags x.pos + min (nxt K.plan b.length).1.toNat (1048576 - placeOf f x.flags x.pos) })
        | .term ls scr => ((min (nxt K.plan b.length).1.toNat (1048576 - scr.length) : Nat), 0, K.writeUp.setOb x.th (.term ls (scr ++ b.take (min (nxt K.plan b.length).1.toNat (1048576 - scr.length)))))
        | .pipe q rd wt => ((wrN b.length (nxt K.plan b.length).1 q.length rd wt : Nat), Kp_wrE b.length (nxt K.plan b.length).1 q.length rd wt, K.writeUp.setOb x.th (.pipe (q ++ b.take (wrN b.length (nxt K.plan b.length).1 q.length rd wt)) rd wt))
      else (0, (nxt K.plan b.length).2, K.writeUp)
    else (0, refusal (K.tho x) x.flags x.pos b.length, K)
def KS.lose (K : KS) (n : Nat) : KS := { K with de := K.de.filter fun y => decide (y.n ≠ n) }
def KS.dropE (K : KS) (d : Int) : Int := match K.find d with
  | none => 64
  | some _ => 0
def KS.dropK (K : KS) (d : Int) : KS := match K.find d with
  | none => K
  | some x => if 1 < x.held then K.setDe { x with held := x.held - 1 } else
    match K.tho x with
    | .pipe q rd wt => (K.setOb x.th (.pipe q (leaveR (bit x.flags 2) rd wt) (leaveW (bit x.flags 2) rd wt))).lose x.n
    | _ => K.lose x.n
def KS.newDe (K : KS) (i : Nat) (flags : Int) : KS := { K with de := K.de ++ [⟨K.next, i, flags, 0, 1⟩], next := K.next + 1 }
def KS.obOf (K : KS) (i : Nat) : Ob := (K.th[i]?.map Th.ob).getD (.file [])
def KS.nameOf (K : KS) (i : Nat) : ByteArray := (K.th[i]?.map Th.name).getD ByteArray.empty
def nlt (a b : ByteArray) : Prop := a.data.toList < b.data.toList
instance (a b : ByteArray) : Decidable (nlt a b) := inferInstanceAs (Decidable (a.data.toList < b.data.toList))
def insN (f : Nat → ByteArray) (i : Nat) : List Nat → List Nat
  | [] => [i]
  | j :: r => if nlt (f i) (f j) then i :: j :: r else j :: insN f i r
def KS.addTh (K : KS) (t : Th) : KS := { K with th := K.th ++ [t], nm := insN (fun j => ((K.th ++ [t])[j]?.map Th.name).getD ByteArray.empty) K.th.length K.nm }
def KS.addP (K : KS) (ob : Ob) : KS := { K with th := K.th ++ [⟨ByteArray.empty, ob⟩] }
def KS.byName (K : KS) (s : ByteArray) : Option Nat := K.nm.find? fun i => decide (K.nameOf i = s)
def KS.cut (K : KS) (i : Nat) (flags : Int) : KS := if bit flags 16 = true then (match K.obOf i with | .file _ => K.setOb i (.file []) | _ => K) else K
def KS.open (K : KS) (s : ByteArray) (flags : Int) : Int × Int × KS :=
  if nameOk s = false then (0, 61, K) else if flagsOk flags = false then (0, 65, K) else if 256 ≤ K.de.length then (0, 3, K) else
  match K.byName s with
  | some i => if fbit flags 32 = 0 then (K.next, 0, (K.cut i flags).newDe i flags) else (0, 63, K)
  | none => if fbit flags 8 = 0 then (0, 62, K) else if 256 ≤ K.nm.length then (0, 3, K) else (K.next, 0, (K.addTh ⟨s, .file []⟩).newDe K.th.length flags)
def KS.pipe (K : KS) : Int × Int × Int × KS :=
  if 254 < K.de.length then (0, 0, 3, K) else (K.next, (K.next + 1 : Nat), 0, ((K.addP (.pipe [] 1 1)).newDe K.th.length 1).newDe K.th.length 2)
def KS.nought (l : List Fault) : KS := ⟨[], [], [], 1, l, 0, 0⟩
def KS.new (fs : List Nm) (ts : List Tp) (l : List Fault) : KS := ts.foldl (fun K t => K.addTh ⟨t.1, .term t.2 []⟩) (fs.foldl (fun K f => K.addTh ⟨f.1, .file f.2⟩) (KS.nought l))
structure KNm (K : KS) : Prop where
  sorted : K.nm.Pairwise fun i j => nlt (K.nameOf i) (K.nameOf j)
  kind : ∀ i ∈ K.nm, (K.obOf i).kind = 1 ∨ (K.obOf i).kind = 2
  all : ∀ i, i < K.th.length → (K.obOf i).kind ≠ 3 → i ∈ K.nm
  ok : ∀ i ∈ K.nm, nameOk (K.nameOf i) = true

theorem KS.obOf_eq {K : KS} {i : Nat} (h : i < K.th.length) : K.obOf i = K.th[i].ob := by simp [KS.obOf, h]
theorem KS.tho_obOf (K : KS) (x : De) : K.tho x = K.obOf x.th := rfl
theorem KS.nameOf_setOb (K : KS) (i j : Nat) (ob : Ob) : (K.setOb i ob).nameOf j = K.nameOf j := by
  unfold KS.nameOf KS.setOb
  simp only [List.getElem?_modify]
  by_cases h : i = j
  · subst h; cases K.th[i]? <;> simp
  · simp [h]
theorem KS.obOf_setOb_same {K : KS} {i : Nat} (ob : Ob) (h : i < K.th.length) : (K.setOb i ob).obOf i = ob := by simp [KS.obOf, KS.setOb, h]
theorem KS.obOf_setOb_other {K : KS} {i j : Nat} (ob : Ob) (h : j ≠ i) : (K.setOb i ob).obOf j = K.obOf j := by
  unfold KS.obOf KS.setOb
  simp [Ne.symm h]
theorem KS.kind_setOb {K : KS} {i : Nat} {ob : Ob} (h : i < K.th.length) (hk : ob.kind = K.th[i].ob.kind) (j : Nat) : ((K.setOb i ob).obOf j).kind = (K.obOf j).kind := by
  by_cases e : j = i
  · subst e; rw [KS.obOf_setOb_same ob h, hk, KS.obOf_eq h]
  · rw [KS.obOf_setOb_other ob e]
theorem KNm.setOb {K : KS} (h : KNm K) {i : Nat} {ob : Ob} (hi : i < K.th.length) (hk : ob.kind = K.th[i].ob.kind) : KNm (K.setOb i ob) := by
  refine ⟨?_, fun j hj => by rw [KS.kind_setOb hi hk]; exact h.kind j hj, fun j hj e => h.all j (by rw [setOb_len] at hj; exact hj) (by rw [KS.kind_setOb hi hk] at e; exact e), fun j hj => by rw [KS.nameOf_setOb]; exact h.ok j hj⟩
  refine List.Pairwise.imp (fun {a b} hab => ?_) h.sorted
  rw [KS.nameOf_setOb, KS.nameOf_setOb]; exact hab
theorem KNm.same {K K' : KS} (h : KNm K) (ht : K'.th = K.th) (hn : K'.nm = K.nm) : KNm K' := by
  have e1 : K'.nameOf = K.nameOf := by funext i; simp [KS.nameOf, ht]
  have e2 : K'.obOf = K.obOf := by funext i; simp [KS.obOf, ht]
  exact ⟨by rw [hn, e1]; exact h.sorted, by rw [hn, e2]; exact h.kind, by rw [hn, e2, ht]; exact h.all, by rw [hn, e1]; exact h.ok⟩
theorem KOk.setOb {K : KS} (h : KOk K) (i : Nat) (ob : Ob) : KOk (K.setOb i ob) :=
  ⟨h.few, h.named, fun d hd => by rw [setOb_len]; exact h.th d hd, fun j hj => by rw [setOb_len]; exact h.nm j hj, h.num, h.once, h.flags, h.pos, h.held, h.plan⟩
theorem nlt_ne {a b : ByteArray} (h : nlt a b) : a ≠ b := fun e => by subst e; exact List.lt_irrefl _ h
theorem nlt_trans {a b c : ByteArray} (h : nlt a b) (h' : nlt b c) : nlt a c := List.lt_trans h h'
theorem nlt_total {a b : ByteArray} (h : ¬ nlt a b) (hne : a ≠ b) : nlt b a := by
  unfold nlt at *
  by_cases h1 : b.data.toList < a.data.toList
  · exact h1
  · exact absurd (Go.WideShapes.bytes_inj (List.le_antisymm (List.not_lt.1 h1) (List.not_lt.1 h))) hne
theorem mem_insN {f : Nat → ByteArray} {i j : Nat} : ∀ {l : List Nat}, j ∈ insN f i l ↔ j = i ∨ j ∈ l
  | [] => by simp [insN]
  | a :: r => by
    unfold insN
    split
    · simp
    · simp only [List.mem_cons, mem_insN (l := r)]
      constructor
      · rintro (h | h | h) <;> simp [h]
      · rintro (h | h | h) <;> simp [h]
theorem insN_perm (f : Nat → ByteArray) (i : Nat) : ∀ l : List Nat, (insN f i l).Perm (i :: l)
  | [] => List.Perm.refl _
  | a :: r => by
    unfold insN
    split
    · exact List.Perm.refl _
    · exact ((insN_perm f i r).cons a).trans (List.Perm.swap i a r)
theorem insN_sorted {f : Nat → ByteArray} {i : Nat} : ∀ {l : List Nat}, l.Pairwise (fun a b => nlt (f a) (f b)) → (∀ j ∈ l, f j ≠ f i) → (insN f i l).Pairwise fun a b => nlt (f a) (f b)
  | [], _, _ => by simp [insN]
  | a :: r, h, hne => by
    obtain ⟨h1, h2⟩ := List.pairwise_cons.1 h
    unfold insN
    split
    · rename_i hlt
      refine List.pairwise_cons.2 ⟨fun b hb => ?_, h⟩
      rcases List.mem_cons.1 hb with rfl | hb
      · exact hlt
      · exact nlt_trans hlt (h1 b hb)
    · rename_i hlt
      refine List.pairwise_cons.2 ⟨fun b hb => ?_, insN_sorted h2 fun j hj => hne j (by simp [hj])⟩
      rcases mem_insN.1 hb with rfl | hb
      · exact nlt_total hlt (Ne.symm (hne a (by simp)))
      · exact h1 b hb
end Go.Proofs.YtejcfhjhjplcnaaGreat

/- Spoil turns the block of its slice, and no other. -/
namespace Go.Proofs.YtejcfhjhjplcnaaGreat
open Go.RowKit

end Go.Proofs.YtejcfhjhjplcnaaGreat

/- The program's files, terminals and pipes in one notion, each within a set of blocks of its own. -/
namespace Go.Proofs.YtejcfhjhjplcnaaGreat
open Go.RowKit

def PObj (W : World) (O : Nat → Prop) (p : Nat) : Ob → Prop
  | .file b => b.length ≤ 1048576 ∧ ∃ r cap, FileAt W p r cap b ∧ O p ∧ O r
  | .term ls scr => ∃ B O1, PTerm W B p O1 ls scr ∧ ∀ k, O1 k → O k
  | .pipe q rd wt => PipeAt W p q rd wt ∧ O p
theorem PObj.ok {W : World} {O : Nat → Prop} {p : Nat} {ob : Ob} (h : PObj W O p ob) : ob.ok := by
  cases ob with
  | file b => exact h.1
  | term ls scr => obtain ⟨B, O1, h1, _⟩ := h; exact ⟨h1.few, h1.short, h1.room⟩
  | pipe q rd wt => obtain ⟨⟨R, f, h1, _⟩, _⟩ := h; exact ⟨h1.lc, h1.lr, h1.lw⟩
theorem PObj.at {W : World} {O : Nat → Prop} {p : Nat} {ob : Ob} (h : PObj W O p ob) : O p ∧ p < W.heap.size := by
  cases ob with
  | file b => obtain ⟨_, r, cap, h1, h2, _⟩ := h; exact ⟨h2, h1.lt⟩
  | term ls scr => obtain ⟨B, O1, h1, h2⟩ := h; obtain ⟨la, lc, s, h3⟩ := h1.term; exact ⟨h2 _ h3.ot, (h3.lt _ h3.ot).2⟩
  | pipe q rd wt => exact ⟨h.2, h.1.lt⟩
theorem PObj.mono {W : World} {O O' : Nat → Prop} {p : Nat} {ob : Ob} (h : PObj W O p ob) (hO : ∀ k, O k → O' k) : PObj W O' p ob := by
  cases ob with
  | file b => obtain ⟨h0, r, cap, h1, h2, h3⟩ := h; exact ⟨h0, r, cap, h1, hO _ h2, hO _ h3⟩
  | term ls scr => obtain ⟨B, O1, h1, h2⟩ := h; exact ⟨B, O1, h1, fun k e => hO _ (h2 k e)⟩
  | pipe q rd wt => exact ⟨h.1, hO _ h.2⟩
theorem PObj.keep {W W' : World} {O : Nat → Prop} {p : Nat} {ob : Ob} (h : PObj W O p ob) (hk : ∀ k, O k → k < W.heap.size → W'.heap[k]? = W.heap[k]?) (hs : W.heap.size ≤ W'.heap.size) : PObj W' O p ob := by
  cases ob with
  | file b =>
    obtain ⟨h0, r, cap, h1, h2, h3⟩ := h
    have hp := hk p h2 h1.lt
    exact ⟨h0, r, cap, ⟨(World.cell?_of_block (w := W) hp).trans h1.made, (World.cell?_of_block (w := W) hp).trans h1.data, (World.frozen?_of_block (w := W) hp).trans h1.soft, h1.row.keep (hk r h3 h1.row.lt), h1.apart⟩, h2, h3⟩
  | term ls scr =>
    obtain ⟨B, O1, h1, h2⟩ := h
    obtain ⟨la, lc, s, h3⟩ := h1.term
    have hp := hk p (h2 _ h3.ot) (h3.lt _ h3.ot).2
    exact ⟨B, O1, ⟨(World.cell?_of_block (w := W) hp).trans h1.made, ⟨la, lc, s, h3.keep (fun k e => hk k (h2 k e) (h3.lt k e).2) hs⟩, h1.few, h1.short, h1.room⟩, h2⟩
  | pipe q rd wt => exact ⟨h.1.keep (hk p h.2 h.1.lt), h.2⟩
def PStep (w : World) (O : Nat → Prop) (p : Nat) (ob' : Ob) (w' : World) : Prop := ∃ O', PObj w' O' p ob' ∧ (∀ k, O' k → O k ∨ w.heap.size ≤ k) ∧ Turned O w w'
theorem PStep.same {w : World} {O : Nat → Prop} {p : Nat} {ob : Ob} (h : PObj w O p ob) : PStep w O p ob w := ⟨O, h, fun _ e => .inl e, Turned.refl _ _⟩

theorem po_fread (O : Nat → Prop) (p : Nat) (b : List UInt8) (off n : Int) (w : World) (h : PObj w O p (.file b)) :
    Calls Tryz.prog 224 #[.pointer (some ⟨p, 0, none⟩), .int .i64 off, .int .i64 n] w fun e w' => ∃ v, e = .returned (.tuple #[v, .int .i64 (Fi_rdE off n)]) ∧ w'.ownsRow w.heap.size 5 1 v (rdL b off n).length ((rdL b off n).map bv) ∧ Below w.heap.size w w' := by
  obtain ⟨h0, r, cap, h1, h2, h3⟩ := h
  exact readAt_any p r cap b off n w h1 h0
theorem po_fsize (O : Nat → Prop) (p : Nat) (b : List UInt8) (w : World) (h : PObj w O p (.file b)) :
    Calls Tryz.prog 177 #[.pointer (some ⟨p, 0, none⟩)] w fun e w' => e = .returned (.int .i64 b.length) ∧ w' = w := by
  obtain ⟨h0, r, cap, h1, h2, h3⟩ := h
  exact size_any p r cap b w h1
theorem po_fbytes (O : Nat → Prop) (p : Nat) (b : List UInt8) (w : World) (h : PObj w O p (.file b)) :
    Calls Tryz.prog 183 #[.pointer (some ⟨p, 0, none⟩)] w fun e w' => e = .returned (.slice (some ⟨w.heap.size, 0, none⟩) b.length b.length) ∧ w'.ownsRow w.heap.size 5 1 (.slice (some ⟨w.heap.size, 0, none⟩) b.length b.length) b.length (b.map bv) ∧ Below w.heap.size w w' := by
  obtain ⟨h0, r, cap, h1, h2, h3⟩ := h
  exact bytes_any p r cap b w h1 h0
theorem po_fwrite (O : Nat → Prop) (p : Nat) (b x : List UInt8) (off : Int) (vx : Value) (w : World) (h : PObj w O p (.file b)) (hx : Bys w vx x) (hd : 0 < x.length → ∀ k, vx.ownBlock = some k → ¬ O k) :
    Calls Tryz.prog 223 #[.pointer (some ⟨p, 0, none⟩), .int .i64 off, vx] w fun e w' => e = .returned (.int .i64 (Fi_wrE off x.length)) ∧ PStep w O p (.file (wrL b off x)) w' := by
  obtain ⟨h0, r, cap, h1, h2, h3⟩ := h
  refine (writeAt_any p r cap b off vx x w h1 hx (fun h0 k e => ⟨fun e' => hd h0 k e (by rw [e']; exact h2), fun e' => hd h0 k e (by rw [e']; exact h3)⟩)).mono ?_
  rintro e w' ⟨rfl, r', cap', h4, h5, h6⟩
  refine ⟨rfl, fun k => O k ∨ k = r', ⟨wrL_len h0, r', cap', h4, .inl h2, .inr rfl⟩, fun k e => ?_, h6.mono fun k e => ?_⟩
  · rcases e with e | rfl
    · exact .inl e
    · rcases h5 with h5 | h5
      · left; rw [h5]; exact h3
      · exact .inr h5
  · rcases e with rfl | rfl
    · exact h2
    · exact h3
theorem po_ftrunc (O : Nat → Prop) (p : Nat) (b : List UInt8) (n : Int) (w : World) (h : PObj w O p (.file b)) (hl : (trL b n).length ≤ 1048576) :
    Calls Tryz.prog 196 #[.pointer (some ⟨p, 0, none⟩), .int .i64 n] w fun e w' => e = .returned (.int .i64 (trE n)) ∧ PStep w O p (.file (trL b n)) w' := by
  obtain ⟨h0, r, cap, h1, h2, h3⟩ := h
  refine (truncate_any p r cap b n w h1).mono ?_
  rintro e w' ⟨rfl, r', cap', h4, h5, h6⟩
  refine ⟨rfl, fun k => O k ∨ k = r', ⟨hl, r', cap', h4, .inl h2, .inr rfl⟩, fun k e => ?_, h6.mono fun k e => ?_⟩
  · rcases e with e | rfl
    · exact .inl e
    · rcases h5 with h5 | h5
      · left; rw [h5]; exact h3
      · exact .inr h5
  · rcases e with rfl | rfl
    · exact h2
    · exact h3
theorem po_tread (O : Nat → Prop) (p : Nat) (ls : List (List UInt8)) (scr : List UInt8) (n : Int) (w : World) (h : PObj w O p (.term ls scr)) :
    Calls Tryz.prog 269 #[.pointer (some ⟨p, 0, none⟩), .int .i64 n] w fun e w' => ∃ v, e = .returned (.tuple #[v, .int .i64 (Te_rdE n)]) ∧ w'.ownsRow w.heap.size 5 1 v (rdH ls n).length ((rdH ls n).map bv) ∧ PObj w' O p (.term (rdR ls n) scr) ∧ Turned O w w' := by
  obtain ⟨B, O1, h1, h2⟩ := h
  refine (Te_read_any B p O1 ls scr n w h1).mono ?_
  rintro e w' ⟨v, rfl, h3, h4, h5⟩
  exact ⟨v, rfl, h3, ⟨B, O1, h4, h2⟩, h5.mono h2⟩
theorem po_twrite (O : Nat → Prop) (p : Nat) (ls : List (List UInt8)) (scr x : List UInt8) (vx : Value) (w : World) (h : PObj w O p (.term ls scr)) (hx : Bys w vx x) :
    Calls Tryz.prog 270 #[.pointer (some ⟨p, 0, none⟩), vx] w fun e w' => e = .returned (.int .i64 (Te_wrE scr.length x.length)) ∧ PStep w O p (.term ls (wrS scr x)) w' := by
  obtain ⟨B, O1, h1, h2⟩ := h
  refine (Te_write_any B p O1 ls scr vx x w h1 hx).mono ?_
  rintro e w' ⟨rfl, O2, h3, h4, h5⟩
  refine ⟨rfl, fun k => O k ∨ O2 k, ⟨B, O2, h3, fun k e => .inr e⟩, fun k e => ?_, h5.mono h2⟩
  rcases e with e | e
  · exact .inl e
  · exact (h4 k e).imp (h2 k) id
theorem po_tscreen (O : Nat → Prop) (p : Nat) (ls : List (List UInt8)) (scr : List UInt8) (w : World) (h : PObj w O p (.term ls scr)) :
    Calls Tryz.prog 185 #[.pointer (some ⟨p, 0, none⟩)] w fun e w' => e = .returned (.slice (some ⟨w.heap.size, 0, none⟩) scr.length scr.length) ∧ w'.ownsRow w.heap.size 5 1 (.slice (some ⟨w.heap.size, 0, none⟩) scr.length scr.length) scr.length (scr.map bv) ∧ Below w.heap.size w w' := by
  obtain ⟨B, O1, h1, h2⟩ := h
  exact screen_any B p O1 ls scr w h1
theorem po_pread (O : Nat → Prop) (p : Nat) (q : List UInt8) (rd wt : Nat) (n : Int) (w : World) (h : PObj w O p (.pipe q rd wt)) :
    Calls Tryz.prog 289 #[.pointer (some ⟨p, 0, none⟩), .int .i64 n] w fun e w' => ∃ v, e = .returned (.tuple #[v, .int .i64 (Kp_rdE n q.length rd wt)]) ∧ w'.ownsRow w.heap.size 5 1 v (rdB n q rd wt).length ((rdB n q rd wt).map bv) ∧ PObj w' O p (.pipe (rdQ n q rd wt) rd wt) ∧ Turned O w w' := by
  refine (Kp_read_any n p q rd wt w h.1).mono ?_
  rintro e w' ⟨v, rfl, h3, h4, h5⟩
  exact ⟨v, rfl, h3, ⟨h4, h.2⟩, h5.mono fun k e => by rw [e]; exact h.2⟩
theorem po_pwrite (O : Nat → Prop) (p : Nat) (q x : List UInt8) (rd wt : Nat) (most : Int) (a1 : Option Addr) (n cx : Nat) (w : World) (h : PObj w O p (.pipe q rd wt)) (hx : Bys w (.slice a1 n cx) x) (hcx : x.length ≤ cx) (hxs : x.length ≤ 140737488351232) (hd : 0 < x.length → ∀ k, (Value.slice a1 n cx).ownBlock = some k → ¬ O k) :
    Calls Tryz.prog 290 #[.pointer (some ⟨p, 0, none⟩), .slice a1 n cx, .int .i64 most] w fun e w' => e = .returned (.tuple #[.int .i64 (wrN x.length most q.length rd wt : Nat), .int .i64 (Kp_wrE x.length most q.length rd wt)]) ∧ PStep w O p (.pipe (q ++ x.take (wrN x.length most q.length rd wt)) rd wt) w' := by
  refine (Kp_write_any most p q x a1 n cx rd wt w h.1 hx hcx hxs (fun h0 e => hd h0 p e h.2)).mono ?_
  rintro e w' ⟨rfl, h4, h5⟩
  exact ⟨rfl, O, ⟨h4, h.2⟩, fun _ e => .inl e, h5.mono fun k e => by rw [e]; exact h.2⟩
theorem po_pjoin (O : Nat → Prop) (p : Nat) (q : List UInt8) (rd wt : Nat) (x : Bool) (w : World) (h : PObj w O p (.pipe q rd wt)) :
    Calls Tryz.prog 195 #[.pointer (some ⟨p, 0, none⟩), .bool x] w fun e w' => e = .returned (.int .i64 (joinE x rd wt)) ∧ PStep w O p (.pipe q (joinR x rd wt) (joinW x rd wt)) w' := by
  refine (join_any x p q rd wt w h.1).mono ?_
  rintro e w' ⟨rfl, h4, h5⟩
  exact ⟨rfl, O, ⟨h4, h.2⟩, fun _ e => .inl e, h5.mono fun k e => by rw [e]; exact h.2⟩
theorem po_pleave (O : Nat → Prop) (p : Nat) (q : List UInt8) (rd wt : Nat) (x : Bool) (w : World) (h : PObj w O p (.pipe q rd wt)) :
    Calls Tryz.prog 179 #[.pointer (some ⟨p, 0, none⟩), .bool x] w fun e w' => e = .returned (.int .i64 (leaveE x rd wt)) ∧ PStep w O p (.pipe q (leaveR x rd wt) (leaveW x rd wt)) w' := by
  refine (leave_any x p q rd wt w h.1).mono ?_
  rintro e w' ⟨rfl, h4, h5⟩
  exact ⟨rfl, O, ⟨h4, h.2⟩, fun _ e => .inl e, h5.mono fun k e => by rw [e]; exact h.2⟩
theorem po_new_file (v : Value) (b : List UInt8) (w : World) (hv : Bys w v b) (hl : b.length ≤ 1048576) :
    Calls Tryz.prog 156 #[v] w fun e w' => ∃ p, e = .returned (.tuple #[.pointer (some ⟨p, 0, none⟩), .int .i64 0]) ∧ PObj w' (fun k => w.heap.size ≤ k ∧ k < w'.heap.size) p (.file b) ∧ Below w.heap.size w w' := by
  refine (Fi_new_good v b w hv hl).mono ?_
  rintro e w' ⟨p, rfl, h1, h2, h3⟩
  exact ⟨p, rfl, ⟨hl, _, _, h1, ⟨by omega, h1.lt⟩, ⟨Nat.le_refl _, h1.row.lt⟩⟩, h3⟩
theorem po_new_term (v : Value) (ls : List (List UInt8)) (w : World) (hv : Lns w v ls) (hl : newE ls = 0) :
    Calls Tryz.prog 54 #[v] w fun e w' => ∃ p, e = .returned (.tuple #[.pointer (some ⟨p, 0, none⟩), .int .i64 0]) ∧ PObj w' (fun k => w.heap.size ≤ k ∧ k < w'.heap.size) p (.term ls []) ∧ Below w.heap.size w w' := by
  refine (Te_new_good v ls w hv hl).mono ?_
  rintro e w' ⟨p, O, rfl, h1, h2⟩
  obtain ⟨la, lc, s, h3⟩ := h1.term
  exact ⟨p, rfl, ⟨_, O, h1, fun k e => h3.lt k e⟩, h2⟩
theorem po_new_pipe (w : World) :
    Calls Tryz.prog 194 #[] w fun e w' => ∃ p, e = .returned (.pointer (some ⟨p, 0, none⟩)) ∧ PObj w' (fun k => w.heap.size ≤ k ∧ k < w'.heap.size) p (.pipe [] 0 0) ∧ Below w.heap.size w w' := by
  refine (new_any w).mono ?_
  rintro e w' ⟨rfl, h1, h2⟩
  exact ⟨_, rfl, ⟨h1, Nat.le_refl _, h1.lt⟩, h2⟩
end Go.Proofs.YtejcfhjhjplcnaaGreat

/- Maps whose values are pointers to blocks: what they hold, as a list of keys and blocks in any order. -/
namespace Go.Proofs.YtejcfhjhjplcnaaGreat
open Go.RowKit Go.Maps

def ptrElem : Value → Option (DataW Unit × List MemPlace)
  | .pointer (some ⟨g, 0, none⟩) => some (.lit (.int .i64 g), [])
  | .pointer none => some (.nil, [])
  | _ => none
theorem ptrElem_inv {v : Value} {g : Nat} {ps : List MemPlace} (h : ptrElem v = some (.lit (.int .i64 g), ps)) : v = .pointer (some ⟨g, 0, none⟩) := by
  unfold ptrElem at h
  split at h
  · simp at h; obtain ⟨h, _⟩ := h; obtain rfl := Int.ofNat_inj.1 h; rfl
  · simp at h
  · cases h
theorem tight {w : World} {P : Program} {k : TypeId} {R : Value → Option (DataW Unit × List MemPlace)} {b n : Nat} {D : DataW Unit} (h : w.ownsMap P k R b n D) : w.ownsMap P k R b (Maps.size D) D := by
  obtain ⟨es, clock, hb, F, hs, hD⟩ := h
  have e1 : Maps.size D = es.size := by rw [hD]; simp [Maps.size, length_sorted]
  exact ⟨es, clock, hb, F, by rw [e1]; exact Nat.le_refl _, hD⟩
structure PMap (W : World) (P : Program) (k : TypeId) (b : Nat) (l : List (Lit × Nat)) : Prop where
  own : ∃ D : DataW Unit, W.ownsMap P k ptrElem b l.length D ∧ Maps.size D = l.length ∧ (∀ p ∈ l, ∀ z, D.atKey p.1 z = .lit (.int .i64 p.2)) ∧ ∀ kl, Maps.has D kl = true → ∃ p ∈ l, p.1 = kl
  nodup : l.Pairwise (fun p q => p.1 ≠ q.1)
theorem PMap.lt {W : World} {P : Program} {k : TypeId} {b : Nat} {l : List (Lit × Nat)} (h : PMap W P k b l) : b < W.heap.size := by
  obtain ⟨D, h1, _⟩ := h.own; exact h1.lt
theorem PMap.keep {W W' : World} {P : Program} {k : TypeId} {b : Nat} {l : List (Lit × Nat)} (h : PMap W P k b l) (hk : W'.heap[b]? = W.heap[b]?) : PMap W' P k b l := by
  obtain ⟨D, ⟨es, clock, hb, F, hs, hD⟩, h2, h3⟩ := h.own
  exact ⟨⟨D, ⟨es, clock, hk.trans hb, F, hs, hD⟩, h2, h3⟩, h.nodup⟩
theorem PMap.perm {W : World} {P : Program} {k : TypeId} {b : Nat} {l l' : List (Lit × Nat)} (h : PMap W P k b l) (hp : l.Perm l') : PMap W P k b l' := by
  obtain ⟨D, h1, h2, h3, h4⟩ := h.own
  refine ⟨⟨D, by rw [← hp.length_eq]; exact h1, by rw [← hp.length_eq]; exact h2, fun p hm => h3 p (hp.mem_iff.2 hm), fun kl hh => ?_⟩, ?_⟩
  · obtain ⟨p, hm, e⟩ := h4 kl hh
    exact ⟨p, hp.mem_iff.1 hm, e⟩
  · exact hp.pairwise h.nodup (fun {a b} hab => Ne.symm hab)
theorem PMap.made (w : World) (P : Program) (k : TypeId) : PMap (w.alloc (.map #[] 0)) P k w.heap.size [] :=
  ⟨⟨.map [], World.ownsMap_made w P k ptrElem, rfl, fun _ h => by simp at h, fun kl h => by simp [Maps.has] at h⟩, List.Pairwise.nil⟩
theorem PMap.hit {W : World} {P : Program} {k t e : TypeId} {b : Nat} {l : List (Lit × Nat)} (h : PMap W P k b l) (K : Keyed P k) (ht : P.underlying t = some (.map k e)) (hz : (zeroValue e).run P W = .ok (.pointer none) W)
    {key : Value} {kl : Lit} {g : Nat} (hkey : keyOf P k key = some kl) (hm : (kl, g) ∈ l) (c : Bool) : (Instr.lookup t (.map (some b)) key c).run P W = .ok (if c then .tuple #[.pointer (some ⟨g, 0, none⟩), .bool true] else .pointer (some ⟨g, 0, none⟩)) W := by
  obtain ⟨D, ⟨es, clock, hb, F, hs, hD⟩, h2, h3, h4⟩ := h.own
  rcases Maps.fit_look c K ht hz hb F hkey with ⟨_, _, hat⟩ | ⟨e0, y, _, _, hrun, hRv, hat, _⟩
  · have := h3 _ hm .nil
    rw [hD] at this
    rw [hat] at this
    cases this
  · have := h3 _ hm .nil
    rw [hD] at this
    rw [hat] at this
    obtain ⟨y1, y2⟩ := y
    simp only at this
    subst this
    rw [hrun, ptrElem_inv hRv]
theorem PMap.miss {W : World} {P : Program} {k t e : TypeId} {b : Nat} {l : List (Lit × Nat)} (h : PMap W P k b l) (K : Keyed P k) (ht : P.underlying t = some (.map k e)) (hz : (zeroValue e).run P W = .ok (.pointer none) W)
    {key : Value} {kl : Lit} (hkey : keyOf P k key = some kl) (hm : ∀ p ∈ l, p.1 ≠ kl) (c : Bool) : (Instr.lookup t (.map (some b)) key c).run P W = .ok (if c then .tuple #[.pointer none, .bool false] else .pointer none) W := by
  obtain ⟨D, ⟨es, clock, hb, F, hs, hD⟩, h2, h3, h4⟩ := h.own
  rcases Maps.fit_look c K ht hz hb F hkey with ⟨hrun, _, hat⟩ | ⟨e0, y, _, _, hrun, hRv, hat, _⟩
  · exact hrun
  · have : Maps.has D kl = true := by rw [hD]; exact Maps.has_true_of_atKey hat
    obtain ⟨p, hp, e⟩ := h4 kl this
    exact absurd e (hm p hp)
theorem PMap.len {W : World} {P : Program} {k t e : TypeId} {b : Nat} {l : List (Lit × Nat)} (h : PMap W P k b l) (ht : P.underlying t = some (.map k e)) (ty : TypeId) : (Builtin.len_ #[t] ty #[.map (some b)]).run P W = .ok (.int .i64 l.length) W := by
  obtain ⟨D, h1, h2, _⟩ := h.own
  rw [h1.len ht ty, h2]
theorem mapTurned_turned {w w' : World} {b : Nat} (h : w.mapTurned w' b) : Turned (fun k => k = b) w w' := (Turned.refl _ w).grown h.grown (fun k e => by cases e; exact .inl rfl)
theorem PMap.store {W : World} {P : Program} {k t e : TypeId} {b : Nat} {l : List (Lit × Nat)} (h : PMap W P k b l) (K : Keyed P k) (ht : P.underlying t = some (.map k e)) (hn : l.length < maxLen)
    {key : Value} {kl : Lit} (g : Nat) (hkey : keyOf P k key = some kl) (hm : ∀ p ∈ l, p.1 ≠ kl) : ∃ w', (Instr.mapUpdate t (.map (some b)) key (.pointer (some ⟨g, 0, none⟩))).run P W = .ok () w' ∧ PMap w' P k b ((kl, g) :: l) ∧ W.mapTurned w' b := by
  obtain ⟨D, h1, h2, h3, h4⟩ := h.own
  have hno : Maps.has D kl = false := by
    rcases hh : Maps.has D kl with _ | _
    · rfl
    · obtain ⟨p, hp, e⟩ := h4 kl hh
      exact absurd e (hm p hp)
  obtain ⟨w', hrun, ho, hT⟩ := h1.store K ht hn hkey (d := .lit (.int .i64 g)) (ps := []) (val := .pointer (some ⟨g, 0, none⟩)) rfl
  refine ⟨w', hrun, ⟨⟨_, ho, ?_, ?_, ?_⟩, List.pairwise_cons.2 ⟨fun p hp e => hm p hp e.symm, h.nodup⟩⟩, hT⟩
  · rw [Maps.size_put (h1.tidy K), hno, h2]; rfl
  · intro p hp z
    rcases List.mem_cons.1 hp with rfl | hp
    · exact Maps.atKey_put_same h1.isMap (K.key hkey) _ _
    · rw [Maps.atKey_put_other (hm p hp)]; exact h3 p hp z
  · intro kl' hh
    by_cases e : kl' = kl
    · exact ⟨(kl, g), by simp, e.symm⟩
    · rw [Maps.has_put_other e] at hh
      obtain ⟨p, hp, e2⟩ := h4 kl' hh
      exact ⟨p, List.mem_cons_of_mem _ hp, e2⟩
theorem PMap.drop {W : World} {P : Program} {k t e : TypeId} {b : Nat} {l : List (Lit × Nat)} {key : Value} {kl : Lit} {g : Nat} (h : PMap W P k b ((kl, g) :: l)) (K : Keyed P k) (ht : P.underlying t = some (.map k e))
    (hkey : keyOf P k key = some kl) (ty : TypeId) : ∃ w', (Builtin.delete_ #[t, k] ty #[.map (some b), key]).run P W = .ok (.tuple #[]) w' ∧ PMap w' P k b l ∧ W.mapTurned w' b := by
  obtain ⟨D, h1, h2, h3, h4⟩ := h.own
  have hyes : Maps.has D kl = true := Maps.has_true_of_atKey (h3 (kl, g) (by simp))
  have hap := List.pairwise_cons.1 h.nodup
  obtain ⟨w', hrun, ho, hT⟩ := h1.drop K ht hkey ty
  have hsz : Maps.size (D.del kl) = l.length := by
    have := Maps.size_del (k := kl) (h1.tidy K)
    rw [hyes, h2] at this
    simpa using this
  refine ⟨w', hrun, ⟨⟨_, by rw [← hsz]; exact tight ho, hsz, ?_, ?_⟩, hap.2⟩, hT⟩
  · intro p hp z
    rw [Maps.atKey_del_other (fun e => hap.1 p hp e.symm)]
    exact h3 p (List.mem_cons_of_mem _ hp) z
  · intro kl' hh
    by_cases e : kl' = kl
    · rw [e, Maps.has_del_same] at hh; cases hh
    · rw [Maps.has_del_other e] at hh
      obtain ⟨p, hp, e2⟩ := h4 kl' hh
      rcases List.mem_cons.1 hp with rfl | hp
      · exact absurd e2.symm e
      · exact ⟨p, hp, e2⟩
theorem PMap.keys {W : World} {P : Program} {k : TypeId} {b : Nat} {l : List (Lit × Nat)} (h : PMap W P k b l) (K : Keyed P k) (hk : P.underlying k = some .string) :
    ∃ D : DataW Unit, W.ownsMap P k ptrElem b l.length D ∧ Maps.size D = l.length ∧ (strKeys D).Perm (l.map fun p => strOf p.1) := by
  obtain ⟨D, h1, h2, h3, h4⟩ := h.own
  refine ⟨D, h1, h2, ?_⟩
  have key : ∀ p ∈ l, ∃ x, p.1 = .string x := by
    intro p hp
    obtain ⟨es, rfl, hko⟩ := h1.keysOf
    have hh : Maps.has (DataW.map es) p.1 = true := Maps.has_true_of_atKey (h3 p hp)
    rw [Maps.has_eq, List.any_eq_true] at hh
    obtain ⟨q, hq, hs⟩ := hh
    obtain ⟨v, hv⟩ := hko q hq
    obtain ⟨y, _, hy, _⟩ := Maps.keyOf_str hk hv
    rw [hy] at hs
    exact ⟨y, by cases hp1 : p.1 <;> rw [hp1] at hs <;> simp [Lit.sameKey] at hs; rw [hs]⟩
  obtain ⟨es, hD, hpw, _⟩ := h1.entries K
  obtain ⟨es', hD', hko⟩ := h1.keysOf
  obtain rfl : es = es' := by rw [hD] at hD'; simpa using hD'
  subst hD
  refine (perm_strKeys hpw (fun p hp => by obtain ⟨v, hv⟩ := hko p hp; obtain ⟨x, _, hx, _⟩ := Maps.keyOf_str hk hv; exact ⟨x, hx⟩) ?_ ?_).symm
  · refine List.pairwise_map.2 (h.nodup.imp_of_mem fun {p q} hp hq hne e => hne ?_)
    obtain ⟨a, ha⟩ := key p hp
    obtain ⟨c, hc⟩ := key q hq
    rw [ha, hc] at e ⊢
    exact congrArg _ e
  · intro x
    constructor
    · intro hx
      obtain ⟨p, hp, rfl⟩ := List.mem_map.1 hx
      obtain ⟨a, ha⟩ := key p hp
      have := Maps.has_true_of_atKey (h3 p hp)
      rw [ha] at this ⊢
      exact this
    · intro hh
      obtain ⟨p, hp, e⟩ := h4 _ hh
      exact List.mem_map.2 ⟨p, hp, by rw [e]; rfl⟩
end Go.Proofs.YtejcfhjhjplcnaaGreat

/- The program's kernel: what lies in memory for it; isMade, described. -/
namespace Go.Proofs.YtejcfhjhjplcnaaGreat
open Go.RowKit Go.Maps

inductive PTag where
  | kern
  | fmap
  | tmap
  | omap
  | plan
  | obj (i : Nat)
  | cons (i : Nat)
  | desc (n : Nat)
  | ofile (n : Nat)
structure PI where
  kb : Nat
  fm : Nat
  tm : Nat
  om : Nat
  pb : Nat
  pv : Value
  ob : Nat → Nat
  cb : Nat → Nat
  db : Nat → Nat
  xb : Nat → Nat
  last : Nat
def nkey (s : ByteArray) : Lit := .string s.data.toList
def dkey (n : Nat) : Lit := .int .i64 n
def KS.fidx (K : KS) : List Nat := K.nm.filter fun i => (K.obOf i).kind == 1
def KS.tidx (K : KS) : List Nat := K.nm.filter fun i => (K.obOf i).kind == 2
def KS.fl (K : KS) (I : PI) : List (Lit × Nat) := K.fidx.map fun i => (nkey (K.nameOf i), I.ob i)
def KS.tl (K : KS) (I : PI) : List (Lit × Nat) := K.tidx.map fun i => (nkey (K.nameOf i), I.cb i)
def KS.dl (K : KS) (I : PI) : List (Lit × Nat) := K.de.map fun d => (dkey d.n, I.db d.n)
def thingV (I : PI) (K : KS) (d : De) : Value := match K.tho d with
  | .file _ => .iface 267 (.pointer (some ⟨I.xb d.n, 0, none⟩))
  | .term _ _ => .iface 127 (.pointer (some ⟨I.cb d.th, 0, none⟩))
  | .pipe _ _ _ => .iface 275 (.agg #[.pointer (some ⟨I.ob d.th, 0, none⟩)])
def PComp (W : World) (ρ : Nat → Option PTag) (I : PI) (K : KS) : PTag → Prop
  | .kern => W.heap[I.kb]? = some (.cells ([.bool true, .map (some I.fm), .map (some I.tm), .map (some I.om), .int .i64 I.last, .pointer (some ⟨I.pb, 0, none⟩), .int .i64 K.reads, .int .i64 K.writes] : List Value).toArray 117 (0, 0)) ∧ ρ I.kb = some .kern ∧ K.next = I.last + 1
  | .fmap => PMap W Tryz.prog 9 I.fm (K.fl I) ∧ ρ I.fm = some .fmap
  | .tmap => PMap W Tryz.prog 9 I.tm (K.tl I) ∧ ρ I.tm = some .tmap
  | .omap => PMap W Tryz.prog 3 I.om (K.dl I) ∧ ρ I.om = some .omap
  | .plan => PlanAt W I.pb I.pv K.plan ∧ ρ I.pb = some .plan ∧ ∀ k, I.pv.ownBlock = some k → ρ k = some .plan
  | .obj i => ∀ (h : i < K.th.length), PObj W (fun k => ρ k = some (.obj i)) (I.ob i) K.th[i].ob
  | .cons i => ∀ (h : i < K.th.length), ∀ ls scr, K.th[i].ob = .term ls scr → W.heap[I.cb i]? = some (.cells ([.pointer (some ⟨I.ob i, 0, none⟩), .int .i64 scr.length] : List Value).toArray 129 (0, 0)) ∧ ρ (I.cb i) = some (.cons i)
  | .desc n => ∀ d ∈ K.de, d.n = n → W.heap[I.db n]? = some (.cells ([thingV I K d, .bool (bit d.flags 1), .bool (bit d.flags 2), .int .i64 d.held] : List Value).toArray 257 (0, 0)) ∧ ρ (I.db n) = some (.desc n)
  | .ofile n => ∀ d ∈ K.de, d.n = n → ∀ b, K.tho d = .file b → W.heap[I.xb n]? = some (.cells ([.pointer (some ⟨I.ob d.th, 0, none⟩), .int .i64 d.pos, .bool (bit d.flags 4)] : List Value).toArray 271 (0, 0)) ∧ ρ (I.xb n) = some (.ofile n)
theorem PComp.keep {W W' : World} {ρ : Nat → Option PTag} {I : PI} {K : KS} {t : PTag} (h : PComp W ρ I K t) (hk : ∀ k, ρ k = some t → k < W.heap.size → W'.heap[k]? = W.heap[k]?) (hs : W.heap.size ≤ W'.heap.size) : PComp W' ρ I K t := by
  have lt : ∀ {k o}, W.heap[k]? = some o → k < W.heap.size := fun e => (Array.getElem?_eq_some_iff.1 e).1
  cases t with
  | kern => exact ⟨(hk _ h.2.1 (lt h.1)).trans h.1, h.2⟩
  | fmap => exact ⟨h.1.keep (hk _ h.2 h.1.lt), h.2⟩
  | tmap => exact ⟨h.1.keep (hk _ h.2 h.1.lt), h.2⟩
  | omap => exact ⟨h.1.keep (hk _ h.2 h.1.lt), h.2⟩
  | plan => exact ⟨h.1.keep fun k hlt e => by
      rcases e with rfl | e
      · exact hk _ h.2.1 hlt
      · exact hk k (h.2.2 k e) hlt, h.2⟩
  | obj i => exact fun hi => (h hi).keep (fun k e hlt => hk k e hlt) hs
  | cons i => exact fun hi ls scr e => ⟨(hk _ (h hi ls scr e).2 (lt (h hi ls scr e).1)).trans (h hi ls scr e).1, (h hi ls scr e).2⟩
  | desc n => exact fun d hd e => ⟨(hk _ (h d hd e).2 (lt (h d hd e).1)).trans (h d hd e).1, (h d hd e).2⟩
  | ofile n => exact fun d hd e b eb => ⟨(hk _ (h d hd e b eb).2 (lt (h d hd e b eb).1)).trans (h d hd e b eb).1, (h d hd e b eb).2⟩
structure PK (W : World) (ρ : Nat → Option PTag) (I : PI) (K : KS) : Prop where
  comp : ∀ t, PComp W ρ I K t
  lt : ∀ k t, ρ k = some t → k < W.heap.size
  ok : KOk K
  nm : KNm K
theorem PK.keep {W W' : World} {ρ : Nat → Option PTag} {I : PI} {K : KS} (h : PK W ρ I K) (hk : ∀ k t, ρ k = some t → W'.heap[k]? = W.heap[k]?) (hs : W.heap.size ≤ W'.heap.size) : PK W' ρ I K :=
  ⟨fun t => (h.comp t).keep (fun k e _ => hk k t e) hs, fun k t e => Nat.lt_of_lt_of_le (h.lt k t e) hs, h.ok, h.nm⟩
def KAt (W : World) (O : Nat → Prop) (kb : Nat) (K : KS) : Prop := ∃ ρ I, PK W ρ I K ∧ I.kb = kb ∧ ∀ k t, ρ k = some t → O k
theorem KAt.keep {W W' : World} {O : Nat → Prop} {kb : Nat} {K : KS} (h : KAt W O kb K) (hk : ∀ k, O k → k < W.heap.size → W'.heap[k]? = W.heap[k]?) (hs : W.heap.size ≤ W'.heap.size) : KAt W' O kb K := by
  obtain ⟨ρ, I, h1, h2, h3⟩ := h
  exact ⟨ρ, I, h1.keep (fun k t e => hk k (h3 k t e) (h1.lt k t e)) hs, h2, h3⟩
theorem KAt.below {W W' : World} {O : Nat → Prop} {kb : Nat} {K : KS} (h : KAt W O kb K) (hB : Below W.heap.size W W') : KAt W' O kb K := h.keep (fun k _ hlt => hB.block k hlt) hB.size
theorem KAt.mono {W : World} {O O' : Nat → Prop} {kb : Nat} {K : KS} (h : KAt W O kb K) (hO : ∀ k, O k → O' k) : KAt W O' kb K := by
  obtain ⟨ρ, I, h1, h2, h3⟩ := h
  exact ⟨ρ, I, h1, h2, fun k t e => hO k (h3 k t e)⟩
theorem KAt.ok {W : World} {O : Nat → Prop} {kb : Nat} {K : KS} (h : KAt W O kb K) : KOk K ∧ KNm K := by
  obtain ⟨ρ, I, h1, h2, h3⟩ := h
  exact ⟨h1.ok, h1.nm⟩
theorem KAt.lt {W : World} {O : Nat → Prop} {kb : Nat} {K : KS} (h : KAt W O kb K) : O kb ∧ kb < W.heap.size := by
  obtain ⟨ρ, I, h1, rfl, h3⟩ := h
  have := (h1.comp .kern).2.1
  exact ⟨h3 _ _ this, h1.lt _ _ this⟩
def KStep (w : World) (O : Nat → Prop) (kb : Nat) (K' : KS) (w' : World) : Prop := ∃ O', KAt w' O' kb K' ∧ (∀ k, O' k → O k ∨ w.heap.size ≤ k) ∧ Turned O w w'
theorem KStep.same {w : World} {O : Nat → Prop} {kb : Nat} {K : KS} (h : KAt w O kb K) : KStep w O kb K w := ⟨O, h, fun _ e => .inl e, Turned.refl _ _⟩
theorem KStep.below {w w' : World} {O : Nat → Prop} {kb : Nat} {K : KS} (h : KAt w O kb K) (hB : Below w.heap.size w w') : KStep w O kb K w' := ⟨O, h.below hB, fun _ e => .inl e, Turned.of_below hB⟩

theorem string_key (s : ByteArray) (hs : s.size ≤ maxLen) : keyOf Tryz.prog 9 (.string s) = some (nkey s) := by
  have hu := Tryz.underlying9
  simp [keyOf, hu, mapKey, nkey, hs]
theorem int_key (d : Int) (hd : (Lit.int .i64 d).wf = true) : keyOf Tryz.prog 3 (.int .i64 d) = some (.int .i64 d) := keyOf_int_mk Tryz.underlying3 hd
theorem skeyed : Keyed Tryz.prog 9 := string_keyed Tryz.underlying9
theorem ikeyed : Keyed Tryz.prog 3 := int_keyed Tryz.underlying3

structure KCells (W : World) (ρ : Nat → Option PTag) (I : PI) (K : KS) : Prop where
  made : W.cell? ⟨I.kb, 0, none⟩ = some (.bool true)
  files : W.cell? ⟨I.kb, 1, none⟩ = some (.map (some I.fm))
  terms : W.cell? ⟨I.kb, 2, none⟩ = some (.map (some I.tm))
  opens : W.cell? ⟨I.kb, 3, none⟩ = some (.map (some I.om))
  last : W.cell? ⟨I.kb, 4, none⟩ = some (.int .i64 I.last)
  plan : W.cell? ⟨I.kb, 5, none⟩ = some (.pointer (some ⟨I.pb, 0, none⟩))
  reads : W.cell? ⟨I.kb, 6, none⟩ = some (.int .i64 K.reads)
  writes : W.cell? ⟨I.kb, 7, none⟩ = some (.int .i64 K.writes)
theorem PK.cells {W : World} {ρ : Nat → Option PTag} {I : PI} {K : KS} (h : PK W ρ I K) : KCells W ρ I K := by
  have hb := (h.comp .kern).1
  constructor <;> (rw [cell_of_row W I.kb _ _ _ _ hb]; rfl)
set_option maxRecDepth 100000 in
theorem kmade_any (kb : Nat) (w : World) (h : w.cell? ⟨kb, 0, none⟩ = some (.bool true)) :
    Calls Tryz.prog 117 #[.pointer (some ⟨kb, 0, none⟩)] w fun e w' => e = .returned (.bool true) ∧ w' = w := by
  go_enter Tryz.func117, Tryz.ntmps117
  go_wp2
  go_ret
  exact ⟨rfl, rfl⟩
end Go.Proofs.YtejcfhjhjplcnaaGreat
