/- What the proof stands on, part 18: the contracts of the program's calls that it reaches. -/
import Derived.Test.YtejcfhjhjplcnaaGreatKM17
import Derived.RangeFuncNested
import Derived.RangeFuncBound
import Derived.RangeFuncCalls
import Derived.RangeFuncLeaves
import Derived.RangeFuncBox
import Derived.Shelf.Abstract
import Derived.Shelf.RegionOpen
import Derived.OwnWalkIn
import Derived.TacticsInMore
import Derived.LoopNIn
import Derived.LoopIn
import Derived.Maps.AppendAt
import Derived.Sort.BigQuietIn
/- Kernels as values: a pipe on which a description writes has a writer, and no other one writes on it. -/
namespace Go.Proofs.YtejcfhjhjplcnaaGreat
open Go.RowKit Go.Maps

def Ob.wts : Ob → Option Nat
  | .pipe _ _ wt => some wt
  | _ => none
def KS.pw (K : KS) (i : Nat) : Option Nat := (K.obOf i).wts
def PInv (K : KS) : Prop := ∀ x ∈ K.de, bit x.flags 2 = true → ∀ wt, K.pw x.th = some wt → 1 ≤ wt ∧ ∀ y ∈ K.de, y.th = x.th → bit y.flags 2 = true → y.n = x.n
theorem PInv.sub {K K' : KS} (h : PInv K) (hd : ∀ x ∈ K'.de, ∃ y ∈ K.de, y.n = x.n ∧ y.th = x.th ∧ y.flags = x.flags) (hw : ∀ i, K'.pw i = K.pw i) : PInv K' := by
  intro x hx hb wt hwt
  obtain ⟨y, hy, e1, e2, e3⟩ := hd x hx
  rw [hw, ← e2] at hwt
  obtain ⟨h1, h2⟩ := h y hy (by rw [e3]; exact hb) wt hwt
  refine ⟨h1, fun z hz hzt hzb => ?_⟩
  obtain ⟨u, hu, f1, f2, f3⟩ := hd z hz
  rw [← f1, ← e1]
  exact h2 u hu (by rw [f2, hzt, e2]) (by rw [f3]; exact hzb)
theorem pw_setOb {K : KS} {i : Nat} {ob : Ob} (h : ob.wts = K.pw i) (j : Nat) : (K.setOb i ob).pw j = K.pw j := by
  unfold KS.pw KS.obOf KS.setOb at *
  simp only [List.getElem?_modify]
  by_cases e : i = j
  · subst e
    cases hq : K.th[i]? with
    | none => simp
    | some t => simp [hq] at h ⊢; exact h
  · simp [e]
theorem PInv.setDe {K : KS} {d : Int} {x x' : De} (h : PInv K) (hx : K.find d = some x) (e1 : x'.n = x.n) (e2 : x'.th = x.th) (e3 : x'.flags = x.flags) : PInv (K.setDe x') := by
  refine h.sub (fun y hy => ?_) (fun i => rfl)
  rcases mem_setDe hy with rfl | ⟨hy, _⟩
  · exact ⟨x, (KS.find_some hx).1, e1.symm, e2.symm, e3.symm⟩
  · exact ⟨y, hy, rfl, rfl, rfl⟩
theorem PInv.setOb {K : KS} {i : Nat} {ob : Ob} (h : PInv K) (hw : ob.wts = K.pw i) : PInv (K.setOb i ob) := h.sub (fun y hy => ⟨y, hy, rfl, rfl, rfl⟩) (pw_setOb hw)
theorem PInv.readUp {K : KS} (h : PInv K) : PInv K.readUp := h.sub (fun y hy => ⟨y, hy, rfl, rfl, rfl⟩) (fun _ => rfl)
theorem PInv.writeUp {K : KS} (h : PInv K) : PInv K.writeUp := h.sub (fun y hy => ⟨y, hy, rfl, rfl, rfl⟩) (fun _ => rfl)
theorem pinv_read {K : KS} (h : PInv K) (d n : Int) : PInv (K.read d n).2.2 := by
  unfold KS.read
  cases hx : K.find d with
  | none => exact h
  | some x =>
    simp only
    split
    · exact h
    split
    · exact h
    split
    · exact h
    split
    · exact h
    split
    · cases ho : K.tho x with
      | file b => exact h.readUp.setDe (d := d) (x := x) hx rfl rfl rfl
      | term ls scr => exact h.readUp.setOb (by show none = (K.obOf x.th).wts; rw [show K.obOf x.th = K.tho x from rfl, ho]; rfl)
      | pipe q rd wt => exact h.readUp.setOb (by show some wt = (K.obOf x.th).wts; rw [show K.obOf x.th = K.tho x from rfl, ho]; rfl)
    · exact h.readUp
theorem pinv_write {K : KS} (h : PInv K) (d : Int) (b : List UInt8) : PInv (K.write d b).2.2 := by
  unfold KS.write
  cases hx : K.find d with
  | none => exact h
  | some x =>
    simp only
    split
    · exact h
    split
    · exact h
    split
    · exact h
    split
    · split
      · cases ho : K.tho x with
        | file f =>
          have h1 : PInv (K.writeUp.setOb x.th (.file (wrL f (placeOf f x.flags x.pos) (b.take (min (nxt K.plan b.length).1.toNat (1048576 - placeOf f x.flags x.pos)))))) := h.writeUp.setOb (by show none = (K.obOf x.th).wts; rw [show K.obOf x.th = K.tho x from rfl, ho]; rfl)
          exact h1.setDe (d := d) (x := x) hx rfl rfl rfl
        | term ls scr => exact h.writeUp.setOb (by show none = (K.obOf x.th).wts; rw [show K.obOf x.th = K.tho x from rfl, ho]; rfl)
        | pipe q rd wt => exact h.writeUp.setOb (by show some wt = (K.obOf x.th).wts; rw [show K.obOf x.th = K.tho x from rfl, ho]; rfl)
      · exact h.writeUp
    · exact h
theorem pinv_seek {K : KS} (h : PInv K) (d o wh : Int) : PInv (K.seek d o wh).2.2 := by
  unfold KS.seek
  cases hx : K.find d with
  | none => exact h
  | some x =>
    simp only
    cases ho : K.tho x with
    | file b =>
      simp only
      generalize (if wh = 1 then (x.pos : Int) else if wh = 2 then (b.length : Int) else 0) = z
      split
      · exact h
      split
      · exact h.setDe (d := d) (x := x) hx rfl rfl rfl
      · exact h
    | term ls scr => exact h
    | pipe q rd wt => exact h
theorem pinv_keep {K : KS} (h : PInv K) (d : Int) : PInv (K.keepK d) := by
  unfold KS.keepK
  cases hx : K.find d with
  | none => exact h
  | some x =>
    simp only
    split
    · exact h
    · exact h.setDe (d := d) (x := x) hx rfl rfl rfl
theorem pinv_drop {K : KS} (h : PInv K) (d : Int) : PInv (K.dropK d) := by
  unfold KS.dropK
  cases hx : K.find d with
  | none => exact h
  | some x =>
    simp only
    split
    · exact h.setDe (d := d) (x := x) hx rfl rfl rfl
    · have hlose : ∀ {K' : KS}, PInv K' → PInv (K'.lose x.n) := fun {K'} h' => h'.sub (fun y hy => ⟨y, (List.mem_filter.1 hy).1, rfl, rfl, rfl⟩) (fun _ => rfl)
      cases ho : K.tho x with
      | file b => exact hlose h
      | term ls scr => exact hlose h
      | pipe q rd wt =>
        simp only
        by_cases hb : bit x.flags 2 = true
        · intro y hy hyb wt' hwt'
          obtain ⟨hy1, hy2⟩ := List.mem_filter.1 hy
          have hy1' : y ∈ K.de := hy1
          have hyn : y.n ≠ x.n := by simpa using hy2
          have hxm := (KS.find_some hx).1
          by_cases hth : y.th = x.th
          · obtain ⟨_, h2⟩ := h x hxm hb wt (by show (K.obOf x.th).wts = some wt; rw [show K.obOf x.th = K.tho x from rfl, ho]; rfl)
            exact absurd (h2 y hy1' hth hyb) hyn
          · have hpw : K.pw y.th = some wt' := by
              rw [← hwt']
              show K.pw y.th = (K.setOb x.th _).pw y.th
              unfold KS.pw KS.obOf KS.setOb
              simp only [List.getElem?_modify]
              simp [Ne.symm hth]
            obtain ⟨g1, g2⟩ := h y hy1' hyb wt' hpw
            exact ⟨g1, fun z hz hzt hzb => g2 z (List.mem_filter.1 hz).1 hzt hzb⟩
        · have hb' : bit x.flags 2 = false := by simpa using hb
          exact hlose (h.setOb (by rw [hb']; show some (leaveW false rd wt) = (K.obOf x.th).wts; rw [show K.obOf x.th = K.tho x from rfl, ho]; rfl))
theorem obOf_app {K : KS} {i : Nat} (h : i < K.th.length) {t : Th} : ((K.th ++ [t])[i]?.map Th.ob).getD (.file []) = K.obOf i := by
  unfold KS.obOf
  rw [List.getElem?_append_left h]
theorem pinv_newDe {K : KS} (h : PInv K) (i : Nat) (fl : Int) (hi : K.pw i = none) : PInv (K.newDe i fl) := by
  intro x hx hb wt hwt
  have hpw : K.pw x.th = some wt := hwt
  rcases List.mem_append.1 (show x ∈ K.de ++ [⟨K.next, i, fl, 0, 1⟩] from hx) with hx | hx
  · obtain ⟨g1, g2⟩ := h x hx hb wt hpw
    refine ⟨g1, fun y hy hyt hyb => ?_⟩
    rcases List.mem_append.1 (show y ∈ K.de ++ [⟨K.next, i, fl, 0, 1⟩] from hy) with hy | hy
    · exact g2 y hy hyt hyb
    · have : y = ⟨K.next, i, fl, 0, 1⟩ := by simpa using hy
      subst this
      rw [← hyt] at hpw
      rw [hi] at hpw
      cases hpw
  · have : x = ⟨K.next, i, fl, 0, 1⟩ := by simpa using hx
    subst this
    rw [hi] at hpw
    cases hpw
theorem pinv_open {K : KS} (h : PInv K) (hk : KOk K) (hn : KNm K) (s : ByteArray) (fl : Int) : PInv (K.open s fl).2.2 := by
  unfold KS.open
  split
  · exact h
  split
  · exact h
  split
  · exact h
  cases hq : K.byName s with
  | some i =>
    simp only
    have him : i ∈ K.nm := List.mem_of_find?_eq_some hq
    have hki := hn.kind i him
    split
    · have hpi : K.pw i = none := by
        unfold KS.pw
        cases ho : K.obOf i with
        | file b => rfl
        | term ls scr => rfl
        | pipe q rd wt => rw [ho] at hki; rcases hki with e | e <;> simp [Ob.kind] at e
      have hcut : PInv (K.cut i fl) ∧ (K.cut i fl).pw i = none := by
        unfold KS.cut
        split
        · cases ho : K.obOf i with
          | file b =>
            have hw : (Ob.file []).wts = K.pw i := by rw [hpi]; rfl
            exact ⟨h.setOb hw, by rw [pw_setOb hw]; exact hpi⟩
          | term ls scr => exact ⟨h, hpi⟩
          | pipe q rd wt => exact ⟨h, hpi⟩
        · exact ⟨h, hpi⟩
      exact pinv_newDe hcut.1 i fl hcut.2
    · exact h
  | none =>
    simp only
    split
    · exact h
    split
    · exact h
    · have hadd : PInv (K.addTh ⟨s, .file []⟩) := by
        intro x hx hb wt hwt
        have hx' : x ∈ K.de := hx
        have hlt := hk.th x hx'
        have hpw : K.pw x.th = some wt := by
          rw [← hwt]
          show (K.obOf x.th).wts = ((((K.th ++ [⟨s, .file []⟩])[x.th]?.map Th.ob).getD (.file []))).wts
          rw [obOf_app hlt]
        exact h x hx' hb wt hpw
      refine pinv_newDe hadd _ fl ?_
      show ((((K.th ++ [⟨s, .file []⟩])[K.th.length]?.map Th.ob).getD (.file []))).wts = none
      simp [Ob.wts]
theorem pinv_pipe {K : KS} (h : PInv K) (hk : KOk K) : PInv K.pipe.2.2.2 := by
  unfold KS.pipe
  split
  · exact h
  · simp only
    have hnew : ∀ i, i < K.th.length → (((K.addP (.pipe [] 1 1)).newDe K.th.length 1).newDe K.th.length 2).pw i = K.pw i := fun i hi => by
      show ((((K.th ++ [⟨ByteArray.empty, .pipe [] 1 1⟩])[i]?.map Th.ob).getD (.file []))).wts = (K.obOf i).wts
      rw [obOf_app hi]
    intro x hx hb wt hwt
    have hx0 : x ∈ (K.de ++ [⟨K.next, K.th.length, 1, 0, 1⟩]) ++ [⟨K.next + 1, K.th.length, 2, 0, 1⟩] := hx
    rcases List.mem_append.1 hx0 with hx1 | hx1
    · rcases List.mem_append.1 hx1 with hx2 | hx2
      · have hlt := hk.th x hx2
        rw [hnew _ hlt] at hwt
        obtain ⟨g1, g2⟩ := h x hx2 hb wt hwt
        refine ⟨g1, fun y hy hyt hyb => ?_⟩
        have hy0 : y ∈ (K.de ++ [⟨K.next, K.th.length, 1, 0, 1⟩]) ++ [⟨K.next + 1, K.th.length, 2, 0, 1⟩] := hy
        rcases List.mem_append.1 hy0 with hy1 | hy1
        · rcases List.mem_append.1 hy1 with hy2 | hy2
          · exact g2 y hy2 hyt hyb
          · have : y = ⟨K.next, K.th.length, 1, 0, 1⟩ := by simpa using hy2
            subst this
            simp at hyt
            omega
        · have : y = ⟨K.next + 1, K.th.length, 2, 0, 1⟩ := by simpa using hy1
          subst this
          simp at hyt
          omega
      · have : x = ⟨K.next, K.th.length, 1, 0, 1⟩ := by simpa using hx2
        subst this
        exact absurd (show bit 1 2 = true from hb) (by decide)
    · have : x = ⟨K.next + 1, K.th.length, 2, 0, 1⟩ := by simpa using hx1
      subst this
      have hw1 : wt = 1 := by
        have e : ((((K.th ++ [⟨ByteArray.empty, .pipe [] 1 1⟩])[K.th.length]?.map Th.ob).getD (.file []))).wts = some wt := hwt
        simp [Ob.wts] at e
        exact e.symm
      refine ⟨by omega, fun y hy hyt hyb => ?_⟩
      have hy0 : y ∈ (K.de ++ [⟨K.next, K.th.length, 1, 0, 1⟩]) ++ [⟨K.next + 1, K.th.length, 2, 0, 1⟩] := hy
      rcases List.mem_append.1 hy0 with hy1 | hy1
      · rcases List.mem_append.1 hy1 with hy2 | hy2
        · have := hk.th y hy2
          have e : y.th = K.th.length := hyt
          omega
        · have : y = ⟨K.next, K.th.length, 1, 0, 1⟩ := by simpa using hy2
          subst this
          exact absurd (show bit 1 2 = true from hyb) (by decide)
      · have : y = ⟨K.next + 1, K.th.length, 2, 0, 1⟩ := by simpa using hy1
        subst this
        rfl
theorem pinv_can {K : KS} (h : PInv K) (d n : Int) : K.canWriteP d n = K.canWrite d n := by
  unfold KS.canWriteP KS.canWrite
  cases hx : K.find d with
  | none => rfl
  | some x =>
    simp only
    show (bit x.flags 2 && _) = (bit x.flags 2 && _)
    cases hb : bit x.flags 2 with
    | false => rfl
    | true =>
      simp only [Bool.true_and]
      cases hi : inN n with
      | false => rfl
      | true =>
        simp only [Bool.true_and]
        cases ho : K.tho x with
        | file b => simp only [refusal]; split <;> rfl
        | term ls scr => simp only [refusal]; split <;> rfl
        | pipe q rd wt =>
          obtain ⟨g1, -⟩ := h x (KS.find_some hx).1 hb wt (by show (K.obOf x.th).wts = some wt; rw [show K.obOf x.th = K.tho x from rfl, ho]; rfl)
          simp only [refusal]
          by_cases hr : rd = 0
          · rw [if_pos hr]
            unfold canW
            rw [hi, hr, decide_eq_true (show 0 < wt from g1)]
            rfl
          · rw [if_neg hr]
            cases hc : canW n q.length rd wt with
            | true => rfl
            | false => rfl
theorem pinv_new (fs : List Nm) (ts : List Tp) (l : List Fault) (h : (KS.new fs ts l).de = []) : PInv (KS.new fs ts l) := by
  intro x hx
  rw [h] at hx
  cases hx
theorem new_de (fs : List Nm) (ts : List Tp) (l : List Fault) : (KS.new fs ts l).de = [] := by
  unfold KS.new
  have h1 : ∀ (ts : List Tp) (K : KS), (ts.foldl (fun K t => K.addTh ⟨t.1, .term t.2 []⟩) K).de = K.de := fun ts => by
    induction ts with
    | nil => intro K; rfl
    | cons t r ih => intro K; rw [List.foldl_cons, ih]; rfl
  have h2 : ∀ (fs : List Nm) (K : KS), (fs.foldl (fun K f => K.addTh ⟨f.1, .file f.2⟩) K).de = K.de := fun fs => by
    induction fs with
    | nil => intro K; rfl
    | cons t r ih => intro K; rw [List.foldl_cons, ih]; rfl
  rw [h1, h2]
  rfl
theorem next_does (K : KS) (x : KSt) : K.next ≤ (K.does x).next := by
  unfold KS.does
  split
  · unfold KS.open
    split
    · exact Nat.le_refl _
    split
    · exact Nat.le_refl _
    split
    · exact Nat.le_refl _
    cases hq : K.byName x.name with
    | some i =>
      simp only
      split
      · show K.next ≤ (K.cut i x.a).next + 1
        rw [(cut_same K i x.a).1]
        omega
      · exact Nat.le_refl _
    | none =>
      simp only
      split
      · exact Nat.le_refl _
      split
      · exact Nat.le_refl _
      · show K.next ≤ K.next + 1
        omega
  split
  · unfold KS.pipe
    split
    · exact Nat.le_refl _
    · show K.next ≤ K.next + 1 + 1
      omega
  split
  · unfold KS.read
    cases hx : K.find x.a with
    | none => exact Nat.le_refl _
    | some y =>
      simp only
      split
      · exact Nat.le_refl _
      split
      · exact Nat.le_refl _
      split
      · exact Nat.le_refl _
      split
      · exact Nat.le_refl _
      split
      · cases ho : K.tho y <;> exact Nat.le_refl _
      · exact Nat.le_refl _
  split
  · unfold KS.write
    cases hx : K.find x.a with
    | none => exact Nat.le_refl _
    | some y =>
      simp only
      split
      · exact Nat.le_refl _
      split
      · exact Nat.le_refl _
      split
      · exact Nat.le_refl _
      split
      · split
        · cases ho : K.tho y <;> exact Nat.le_refl _
        · exact Nat.le_refl _
      · exact Nat.le_refl _
  split
  · unfold KS.seek
    cases hx : K.find x.a with
    | none => exact Nat.le_refl _
    | some y =>
      simp only
      cases ho : K.tho y with
      | file b =>
        simp only
        generalize (if x.c = 1 then (y.pos : Int) else if x.c = 2 then (b.length : Int) else 0) = z
        split
        · exact Nat.le_refl _
        split
        · exact Nat.le_refl _
        · exact Nat.le_refl _
      | term ls scr => exact Nat.le_refl _
      | pipe q rd wt => exact Nat.le_refl _
  split
  · unfold KS.keepK
    cases hx : K.find x.a with
    | none => exact Nat.le_refl _
    | some y => simp only; split <;> exact Nat.le_refl _
  · unfold KS.dropK
    cases hx : K.find x.a with
    | none => exact Nat.le_refl _
    | some y =>
      simp only
      split
      · exact Nat.le_refl _
      · cases ho : K.tho y <;> exact Nat.le_refl _
end Go.Proofs.YtejcfhjhjplcnaaGreat

/- KernPlays: are both kernels alike? -/
namespace Go.Proofs.YtejcfhjhjplcnaaGreat
open Go.RowKit Go.Maps

theorem RAt.cells {w : World} {O : Nat → Prop} {kb : Nat} {K : KS} (h : RAt w O kb K) : ∃ pb pv, w.cell? ⟨kb, 2, none⟩ = some (.int .i64 K.next) ∧ w.cell? ⟨kb, 3, none⟩ = some (.pointer (some ⟨pb, 0, none⟩)) ∧ w.cell? ⟨kb, 4, none⟩ = some (.int .i64 K.reads) ∧ w.cell? ⟨kb, 5, none⟩ = some (.int .i64 K.writes) ∧ w.cell? ⟨pb, 0, none⟩ = some pv ∧ Flts w pv K.plan := by
  obtain ⟨B, ρ, I, h1, rfl, h3⟩ := h
  have hb := (h1.comp .kern).1
  have hp := (h1.comp .plan).1
  exact ⟨I.pb, I.pv, by rw [cell_of_row w I.kb 2 _ _ _ hb]; rfl, by rw [cell_of_row w I.kb 3 _ _ _ hb]; rfl, by rw [cell_of_row w I.kb 4 _ _ _ hb]; rfl, by rw [cell_of_row w I.kb 5 _ _ _ hb]; rfl, hp.left, hp.list⟩
theorem RAt.files {w : World} {O : Nat → Prop} {kb : Nat} {K : KS} (h : RAt w O kb K) :
    Calls Tryz.prog 76 #[.pointer (some ⟨kb, 0, none⟩)] w fun e w' => ∃ v us, e = .returned v ∧ w'.ownsRow w.heap.size 119 2 v K.files.length (ncs K.files us) ∧ LCells w' w.heap.size (K.files.map Prod.snd) us ∧ Below w.heap.size w w' := by
  obtain ⟨B, ρ, I, h1, rfl, h3⟩ := h
  exact rkfiles_any B ρ I K w h1
theorem RAt.screens {w : World} {O : Nat → Prop} {kb : Nat} {K : KS} (h : RAt w O kb K) :
    Calls Tryz.prog 79 #[.pointer (some ⟨kb, 0, none⟩)] w fun e w' => ∃ v us, e = .returned v ∧ w'.ownsRow w.heap.size 119 2 v K.screens.length (ncs K.screens us) ∧ LCells w' w.heap.size (K.screens.map Prod.snd) us ∧ Below w.heap.size w w' := by
  obtain ⟨B, ρ, I, h1, rfl, h3⟩ := h
  exact rkscreens_any B ρ I K w h1
theorem RAt.kinds {w : World} {O : Nat → Prop} {kb : Nat} {K : KS} (h : RAt w O kb K) (d : Int) :
    Calls Tryz.prog 82 #[.pointer (some ⟨kb, 0, none⟩), .int .i64 d] w fun e w' => e = .returned (.int .i64 (K.kindOf d)) ∧ w' = w := by
  obtain ⟨B, ρ, I, h1, rfl, h3⟩ := h
  exact rkind_any B ρ I K d w h1
theorem RAt.canRead {w : World} {O : Nat → Prop} {kb : Nat} {K : KS} (h : RAt w O kb K) (d : Int) :
    Calls Tryz.prog 84 #[.pointer (some ⟨kb, 0, none⟩), .int .i64 d] w fun e w' => e = .returned (.bool (K.canRead d)) ∧ w' = w := by
  obtain ⟨B, ρ, I, h1, rfl, h3⟩ := h
  exact rkcanRead_any B ρ I K d w h1
theorem RAt.canWrite {w : World} {O : Nat → Prop} {kb : Nat} {K : KS} (h : RAt w O kb K) (d n : Int) :
    Calls Tryz.prog 86 #[.pointer (some ⟨kb, 0, none⟩), .int .i64 d, .int .i64 n] w fun e w' => e = .returned (.bool (K.canWrite d n)) ∧ w' = w := by
  obtain ⟨B, ρ, I, h1, rfl, h3⟩ := h
  exact rkcanWrite_any B ρ I K d n w h1
theorem RAt.held {w : World} {O : Nat → Prop} {kb : Nat} {K : KS} (h : RAt w O kb K) (d : Int) :
    Calls Tryz.prog 88 #[.pointer (some ⟨kb, 0, none⟩), .int .i64 d] w fun e w' => ∃ a c, e = .returned (.slice a (K.heldOf d).length c) ∧ Bys w (.slice a (K.heldOf d).length c) (K.heldOf d) ∧ w' = w := by
  obtain ⟨B, ρ, I, h1, rfl, h3⟩ := h
  exact rkheld_any B ρ I K d w h1
theorem screens_ok {w : World} {O P : Nat → Prop} {kb mb : Nat} {K : KS} (h : KAt w O kb K) (h2 : RAt w P mb K) : K.screens.length ≤ 256 ∧ ∀ j (hj : j < K.screens.length), ∃ i ∈ K.nm, K.nameOf i = K.screens[j].1 ∧ (∃ ls, K.obOf i = .term ls K.screens[j].2) ∧ K.screens[j].1.size ≤ maxLen ∧ K.screens[j].2.length ≤ 1048576 := by
  have hok := h.ok
  refine ⟨?_, fun j hj => ?_⟩
  · have h1 : K.screens.length ≤ K.nm.length := by
      unfold KS.screens KS.tidx
      rw [List.length_map]
      exact List.length_filter_le _ _
    have := hok.1.named
    omega
  · have hm : K.screens[j] ∈ K.screens := List.getElem_mem hj
    obtain ⟨i, hi, he⟩ := List.mem_map.1 hm
    obtain ⟨hi1, hi2⟩ := List.mem_filter.1 hi
    refine ⟨i, hi1, by rw [← he], ?_, ?_, ?_⟩
    · cases ho : K.obOf i with
      | file b => rw [ho] at hi2; simp [Ob.kind] at hi2
      | term ls scr => exact ⟨ls, by rw [← he]; simp only [ho]; rfl⟩
      | pipe q rd wt => rw [ho] at hi2; simp [Ob.kind] at hi2
    · rw [← he]
      have := name_few (hok.2.ok i hi1)
      show (K.nameOf i).size ≤ maxLen
      unfold maxLen
      omega
    · obtain ⟨_, ρ, I, h1, -, -⟩ := h2
      have hlt := hok.1.nm i hi1
      have ht := (h1.comp (.obj i) hlt).2
      rw [← KS.obOf_eq hlt] at ht
      rw [← he]
      show (K.obOf i).shown.length ≤ 1048576
      cases ho : K.obOf i with
      | file b => simp [Ob.shown]
      | term ls scr => rw [ho] at ht; exact ht.2.2
      | pipe q rd wt => simp [Ob.shown]
theorem held_few {w : World} {P : Nat → Prop} {mb : Nat} {K : KS} (h : RAt w P mb K) (d : Int) : (K.heldOf d).length ≤ 4096 := by
  obtain ⟨_, ρ, I, h1, -, -⟩ := h
  unfold KS.heldOf
  cases hx : K.find d with
  | none => simp
  | some x =>
    simp only
    have hlt := h1.ok.th x (KS.find_some hx).1
    have ht := (h1.comp (.obj x.th) hlt).2
    rw [← KS.tho_eq hlt] at ht
    cases ho : K.tho x with
    | file b => simp
    | term ls scr => simp
    | pipe q rd wt => rw [ho] at ht; exact ht.1
def MCells (W : World) (mb pb : Nat) (K : KS) (pa : Option Addr) (pn pc : Nat) : Prop := W.cell? ⟨mb, 2, none⟩ = some (.int .i64 K.next) ∧ W.cell? ⟨mb, 3, none⟩ = some (.pointer (some ⟨pb, 0, none⟩)) ∧ W.cell? ⟨mb, 4, none⟩ = some (.int .i64 K.reads) ∧ W.cell? ⟨mb, 5, none⟩ = some (.int .i64 K.writes) ∧ W.cell? ⟨pb, 0, none⟩ = some (.slice pa pn pc)
set_option maxRecDepth 100000 in
set_option maxHeartbeats 4000000 in
theorem same_kern (B kb mb : Nat) (K : KS) (w : World) (hD : Duo w B kb mb K K) (hP : PInv K) (hk : KSmall K) :
    Calls Tryz.prog 14 #[.pointer (some ⟨kb, 0, none⟩), .pointer (some ⟨mb, 0, none⟩)] w fun e w' => e = .returned (.bool true) ∧ Below w.heap.size w w' := by
  obtain ⟨O, P, hK, hM, hO, hPj⟩ := hD
  obtain ⟨pb, pv, m2, m3, m4, m5, mp, hF⟩ := hM.cells
  obtain ⟨pa, pc, hpv, -⟩ := flts_form hF
  subst hpv
  have hmb : mb < w.heap.size := World.block_lt_of_cell? w _ m2
  have hpb : pb < w.heap.size := World.block_lt_of_cell? w _ mp
  have HMC : Hid (∀ w', Below w.heap.size w w' → MCells w' mb pb K pa K.plan.length pc) := fun w' hb => ⟨(hb.cell (p := ⟨mb, 2, none⟩) hmb).trans m2, (hb.cell (p := ⟨mb, 3, none⟩) hmb).trans m3, (hb.cell (p := ⟨mb, 4, none⟩) hmb).trans m4, (hb.cell (p := ⟨mb, 5, none⟩) hmb).trans m5, (hb.cell (p := ⟨pb, 0, none⟩) hpb).trans mp⟩
  have HK := hide hK
  have HM := hide hM
  have HF := hide hF
  have HPI := hide hP
  have HKs := hide hk
  have HFo := hide (hK.files_ok)
  have HSo := hide (screens_ok hK hM)
  have HPl := hide (hK.ok.1.plan)
  have H1 := hide hK.calls
  clear m2 m3 m4 m5 mp hF hK hM hP hk hmb hpb
  go_enter Tryz.func14, Tryz.ntmps14
  go_wp2_with fail
  refine H1.out.mono ?_
  rintro e w1 ⟨rfl, hB1⟩
  have HB1 := hide hB1
  obtain ⟨m2, m3, m4, m5, mp⟩ := HMC.out w1 hB1
  clear hB1 H1
  go_wp2_with fail
  go_region_held3 (fun w' => w'.cell? ⟨mb, 2, none⟩ = some (.int .i64 K.next) ∧ w'.cell? ⟨mb, 3, none⟩ = some (.pointer (some ⟨pb, 0, none⟩)) ∧ w'.cell? ⟨mb, 4, none⟩ = some (.int .i64 K.reads) ∧ w'.cell? ⟨mb, 5, none⟩ = some (.int .i64 K.writes) ∧ w'.cell? ⟨pb, 0, none⟩ = some (.slice pa K.plan.length pc))
    (first | exact HMC.out _ hbU | exact HMC.out _ hbR | exact HMC.out _ hbN | exact HMC.out _ hbG | exact HMC.out _ hbF | exact HMC.out _ HB1.out.drew | go_keep)
    (first
      | (go_at_call 75; refine ((HK.out.below HB1.out.drew).files).mono ?_; rintro e wF ⟨vF, usF, rfl, hOF, hLF, hBF⟩; have hbF : Below w.heap.size w wF := HB1.out.drew.trans (hBF.mono HB1.out.size); have hNF := nms_of_owns hOF hLF (fun j hj => (HFo.out.2 j hj).2); obtain ⟨aF, cF, rfl⟩ := owns_slice hOF)
      | (go_at_call 76; refine ((HM.out.below hbF).files).mono ?_; rintro e wG ⟨vG, usG, rfl, hOG, hLG, hBG⟩; have hbG : Below w.heap.size w wG := hbF.trans (hBG.mono hbF.size); have hNG := nms_of_owns hOG hLG (fun j hj => (HFo.out.2 j hj).2); obtain ⟨aG, cG, rfl⟩ := owns_slice hOG)
      | (go_at_call 74; refine (sameNamed_any _ _ K.files wG (hNF.below hBG) hNG (by have := HFo.out.1; unfold maxLen; omega) (fun j hj => by have := (HFo.out.2 j hj).1; unfold maxLen; omega)).mono ?_; rintro e wN ⟨rfl, hBN⟩; have hbN : Below w.heap.size w wN := hbG.trans (hBN.mono hbG.size))
      | (go_at_call 78; refine ((HK.out.below hbN).rest).mono ?_; rintro e wR ⟨vR, rfl, hOR, hBR⟩; have hbR : Below w.heap.size w wR := hbN.trans (hBR.mono hbN.size); have hFR := Flts.of_owns hOR; obtain ⟨aR, cR, rfl⟩ := owns_slice hOR)
      | (go_at_call 77; refine (samef_any _ _ K.plan wR hFR (HF.out.below hbR) (by have := HPl.out.1; unfold maxLen; omega)).mono ?_; rintro e wU ⟨rfl, hBU⟩; have hbU : Below w.heap.size w wU := hbR.trans (hBU.mono hbR.size))
      | fail)
  have HbU := hide hbU
  have HSc := hide ((HM.out.below hbU).screens)
  clear hOF hLF hBF hbF hNF hOG hLG hBG hbG hNG hBN hbN hOR hBR hbR hFR hBU hbU
  go_wp2_with fail
  refine HSc.out.mono ?_
  rintro e wS ⟨vS, us, rfl, hOS, hLS, hBS⟩
  have HbS := hide (HbU.out.trans (hBS.mono HbU.out.size))
  obtain ⟨aS, cS, rfl⟩ := owns_slice hOS
  have HOS := hide hOS
  have HLS := hide hLS
  clear hOS hLS hBS HSc
  have hsl := HSo.out.1
  have HNS := hide (nms_of_owns HOS.out HLS.out (fun j hj => by obtain ⟨_, _, _, _, h, _⟩ := HSo.out.2 j hj; exact h))
  clear HOS HLS
  go_wp2
  go_loopg [8] K.screens.length (fun g s8 wx => ∃ i : Nat, i + g = K.screens.length ∧ s8 = .int .i64 i ∧ Hid (Below wS.heap.size wS wx))
  case atStart => exact ⟨0, by omega, rfl, Below.refl _ _⟩
  case round =>
    obtain ⟨i, hig, rfl, HBx⟩ := hrel
    have HBw := hide (HbS.out.trans (HBx.out.mono HbS.out.size))
    by_cases hlt : i < K.screens.length
    · obtain ⟨g, rfl⟩ : ∃ g, gk = g + 1 := ⟨gk - 1, by omega⟩
      have hl1 : (i : Int) < (K.screens.length : Int) := by omega
      have hl0 : (0 : Int) ≤ (i : Int) := by omega
      obtain ⟨b, off, va, vc, rfl, hbl, q0, q1, hby, hcap, hnz⟩ := (HNS.out.below HBx.out).at i hlt
      obtain ⟨ix, hix, hnx, ⟨ls, hox⟩, hsz, hfw⟩ := HSo.out.2 i hlt
      have HSn := hide ((HK.out.below HBw.out).screen K.screens[i].1 hsz ix hix hnx ls K.screens[i].2 hox)
      have HY := hide hby
      have hcb := World.block_lt_of_cell? wr _ q1
      have HQ1 := hide q1
      clear hby hcap hnz hix hnx hox
      generalize K.screens[i] = y at *
      obtain ⟨yn, yd⟩ := y
      simp only at *
      go_wp2_with fail
      refine HSn.out.mono ?_
      rintro e wT ⟨vT, rfl, hOT, hBT⟩
      have c1 := (hBT.cell (p := ⟨b, off + i * 2 + 1, none⟩) hcb).trans HQ1.out
      have HSm := hide (same_any _ _ yd wT (Bys.of_owns hOT) (HY.out.below hBT) (by unfold maxLen; omega))
      obtain ⟨aT, cT, rfl⟩ := owns_slice hOT
      have HBT := hide (HBx.out.trans (hBT.mono HBx.out.size))
      clear hOT hBT q0 q1
      go_wp2_with (first | (go_at_call 39; refine HSm.out.mono ?_; rintro _ wV ⟨rfl, hBV⟩) | fail)
      go_roundg g
      case measure => omega
      case rel => exact ⟨i + 1, by omega, by go_num, HBT.out.trans (hBV.mono HBT.out.size)⟩
    · have hl1 : ¬ (i : Int) < (K.screens.length : Int) := by omega
      clear HBx HbS HbU HB1 m2 m3 m4 m5 mp
      obtain ⟨m2, m3, m4, m5, mp⟩ := HMC.out wr HBw.out
      have hkn := HKs.out.2.1
      go_wp2
      go_loopg [11] (K.next + 1) (fun g s11 wx => ∃ d : Nat, d + g = K.next + 1 ∧ s11 = .int .i64 d ∧ Hid (Below w.heap.size w wx))
      case atStart => exact ⟨0, by omega, rfl, HBw⟩
      case round =>
        obtain ⟨d, hdg, rfl, HBx⟩ := hrel
        clear m2 m3 m4 m5 mp HBw
        obtain ⟨m2, m3, m4, m5, mp⟩ := HMC.out _ HBx.out
        clear m3 m4 m5 mp
        have hw1 : wrap64 ((K.next : Int) + 1) = (K.next : Int) + 1 := by unfold wrap64; omega
        by_cases hlt2 : d < K.next + 1
        · obtain ⟨g, rfl⟩ : ∃ g, gk = g + 1 := ⟨gk - 1, by omega⟩
          have hl3 : (d : Int) < (K.next : Int) + 1 := by omega
          have hd64 : I64 (d : Int) := ⟨by omega, by omega⟩
          have hK0 := HK.out.below HBx.out
          have hM0 := HM.out.below HBx.out
          have hfew := held_few hM0 (d : Int)
          have HK0 := hide hK0
          have HM0 := hide hM0
          have Hd := hide hd64
          clear hK0 hM0 hd64
          generalize hkd : K.kindOf (d : Int) = kd at *
          generalize hcr : K.canRead (d : Int) = cr at *
          generalize hcw : K.canWrite (d : Int) 600 = cw at *
          generalize hhl : K.heldOf (d : Int) = hl at *
          have HD := hide (And.intro hkd (And.intro hcr (And.intro hcw hhl)))
          clear hkd hcr hcw hhl
          go_wp2_with (first
            | (go_at_call 81; have hq := HK0.out.kinds (d : Int) Hd.out; rw [HD.out.1] at hq; refine hq.mono ?_; clear hq; rintro e wA ⟨rfl, hBA⟩; have HBA := hide hBA; clear hBA)
            | (go_at_call 82; have hq := (HM0.out.below HBA.out).kinds (d : Int); rw [HD.out.1] at hq; refine hq.mono ?_; clear hq; rintro _ _ ⟨rfl, rfl⟩)
            | (go_at_call 83; have hq := (HK0.out.below HBA.out).canRead (d : Int) Hd.out; rw [HD.out.2.1] at hq; refine hq.mono ?_; clear hq; rintro e wC ⟨rfl, hBC⟩; have HBC := hide (HBA.out.trans (hBC.mono HBA.out.size)); clear hBC)
            | (go_at_call 84; have hq := (HM0.out.below HBC.out).canRead (d : Int); rw [HD.out.2.1] at hq; refine hq.mono ?_; clear hq; rintro _ _ ⟨rfl, rfl⟩)
            | (go_at_call 85; have hq := (HK0.out.below HBC.out).canWrite (d : Int) 600 Hd.out; rw [pinv_can HPI.out, HD.out.2.2.1] at hq; refine hq.mono ?_; clear hq; rintro e wD ⟨rfl, hBD⟩; have HBD := hide (HBC.out.trans (hBD.mono HBC.out.size)); clear hBD)
            | (go_at_call 86; have hq := (HM0.out.below HBD.out).canWrite (d : Int) 600; rw [HD.out.2.2.1] at hq; refine hq.mono ?_; clear hq; rintro _ _ ⟨rfl, rfl⟩)
            | (go_at_call 87; have hq := (HK0.out.below HBD.out).held (d : Int) Hd.out; rw [HD.out.2.2.2] at hq; refine hq.mono ?_; clear hq; rintro e wE ⟨vE, rfl, hOE, hBE⟩; have HBE := hide (HBD.out.trans (hBE.mono HBD.out.size)); have HYE := hide (Bys.of_owns hOE); obtain ⟨aE, cE, rfl⟩ := owns_slice hOE; clear hBE hOE)
            | (go_at_call 88; have hq := (HM0.out.below HBE.out).held (d : Int); rw [HD.out.2.2.2] at hq; refine hq.mono ?_; clear hq; rintro e _ ⟨aG, cG, rfl, hYG, rfl⟩; have HYG := hide hYG; clear hYG)
            | (go_at_call 39; refine (same_any _ _ hl _ HYE.out HYG.out (by unfold maxLen; omega)).mono ?_; rintro e wH ⟨rfl, hBH⟩; have HBH := hide (HBE.out.trans (hBH.mono HBE.out.size)); clear hBH)
            | fail)
          go_roundg g
          case measure => omega
          case rel => exact ⟨d + 1, by omega, by go_num, HBx.out.trans (HBH.out.mono HBx.out.size)⟩
        · have hl3 : ¬ (d : Int) < (K.next : Int) + 1 := by omega
          go_wp2
          go_ret
          exact ⟨rfl, HBx.out⟩
end Go.Proofs.YtejcfhjhjplcnaaGreat

/- What (*fdtable.Table).free hands out, for every loop body: the descriptors that are free, rising. -/
namespace Go.Proofs.YtejcfhjhjplcnaaGreat
open Go.RowKit Go.Shelf

attribute [local go_sem] Oper.semAt_some

def frees (ds : Nat → Int) (n : Nat) : List Nat := (List.range n).filter fun i => decide (ds i = 0)
theorem frees_succ (ds : Nat → Int) (n : Nat) : frees ds (n + 1) = frees ds n ++ (if ds n = 0 then [n] else []) := by
  unfold frees
  rw [List.range_succ, List.filter_append]
  by_cases h : ds n = 0 <;> simp [h]
theorem frees_prefix (ds : Nat → Int) {n m : Nat} (h : n ≤ m) : frees ds n <+: frees ds m := by
  induction m with
  | zero => rw [Nat.le_zero.1 h]; exact List.prefix_refl _
  | succ k ih =>
    by_cases e : n = k + 1
    · rw [e]; exact List.prefix_refl _
    · rw [frees_succ]; exact (ih (by omega)).trans (List.prefix_append _ _)
theorem frees_len (ds : Nat → Int) (n : Nat) : (frees ds n).length ≤ n := by
  unfold frees
  exact Nat.le_trans (List.length_filter_le _ _) (by rw [List.length_range]; exact Nat.le_refl _)
def Slots (W : World) (t : Nat) (ds : Nat → Int) : Prop := ∀ i, i < 64 → W.cell? ⟨t, 1 + i * 2, none⟩ = some (.int .i64 (ds i))

set_option maxRecDepth 100000 in
set_option maxHeartbeats 1000000 in
theorem free1_in (f : Nat) (hn : 1 ≤ f) (l Bt t : Nat) (ds : Nat → Int) (J Jx : List Nat → World → Prop)
    (hY : ∀ (pre : List Nat) (x : Nat) (W : World), J pre W → pre.length < 64 → YieldAt Fence.wide (f - 1) Tryz.prog l #[.int .i64 (x : Int)] W fun e W' =>
      (e = .returned (.bool true) ∧ J (pre ++ [x]) W' ∧ W'.cell? ⟨Bt, 0, none⟩ = W.cell? ⟨Bt, 0, none⟩ ∧ (Slots W t ds → Slots W' t ds)) ∨ (e = .returned (.bool false) ∧ Jx (pre ++ [x]) W'))
    (W : World) (hct : W.cell? ⟨Bt, 0, none⟩ = some (.pointer (some ⟨t, 0, none⟩))) (hs : Slots W t ds) (h0 : J [] W) :
    CallsIn Fence.wide f Tryz.prog 219 #[.func (.yield l) #[] #[], .pointer (some ⟨Bt, 0, none⟩)] W fun e W' => (∃ v, e = .returned v) ∧
      (J (frees ds 64) W' ∨ (∃ pre, pre <+: frees ds 64 ∧ Jx pre W')) := by
  refine callsIn_of_wp Tryz.func219 rfl trivial ?_ rfl
  simp only [Tryz.ntmps219, List.size_toArray, List.length_cons, List.length_nil, Nat.reduceAdd, Nat.reduceSub, Array.replicate_succ, Array.replicate_zero, List.push_toArray, List.append_toArray, List.nil_append, List.cons_append]
  gi_wp2
  gi_loopw [4] (fun i wr => ∃ k : Nat, k ≤ 64 ∧ i = .int .i64 k ∧ J (frees ds k) wr ∧ wr.cell? ⟨Bt, 0, none⟩ = some (.pointer (some ⟨t, 0, none⟩)) ∧ Hid (Slots wr t ds)) (fun i _ => 64 - (intOf i).toNat)
  case atStart => exact ⟨0, Nat.zero_le _, rfl, h0, hct, hide hs⟩
  case round =>
    clear hct hs h0
    obtain ⟨k, hk, rfl, hJ, hct, HS⟩ := hrel
    by_cases hlt : k < 64
    · have hc := HS.out k hlt
      have hk1 : (0 : Int) ≤ (k : Int) := by omega
      have hk2 : (k : Int) < 64 := by omega
      have HF := hide (frees_succ ds k)
      obtain ⟨fn, tmps, assign, body, hy, hR⟩ := hY (frees ds k) k wr hJ (Nat.lt_of_le_of_lt (frees_len ds k) hlt)
      by_cases hz : ds k = 0
      · rw [hz] at hc
        rw [if_pos hz] at HF
        clear hY
        gi_wp2
        refine hR.mono ?_
        rintro e W3 (⟨rfl, hJ3, hk3, hs3⟩ | ⟨rfl, hJx3⟩)
        · have hct3 := hk3.trans hct
          gi_wp2
          go_roundw
          case rel => exact ⟨k + 1, by omega, by go_num, by rw [HF.out]; exact hJ3, hct3, hide (hs3 HS.out)⟩
          case measure => simp [intOf]; omega
        · gi_wp2
          refine bodyPost_ret (results_none rfl _ _ _) rfl ?_
          exact ⟨⟨_, rfl⟩, .inr ⟨_, by rw [← HF.out]; exact frees_prefix ds (by omega), hJx3⟩⟩
      · rw [if_neg hz, List.append_nil] at HF
        clear hY hy hR
        gi_wp2
        repeat (refine ⟨fun _ _ => trivial, ?_⟩; gi_wp2)
        go_roundw
        case rel => exact ⟨k + 1, by omega, by go_num, by rw [HF.out]; exact hJ, hct, HS⟩
        case measure => simp [intOf]; omega
    · obtain rfl : k = 64 := by omega
      gi_wp2
      go_end0
      exact ⟨⟨_, rfl⟩, .inl hJ⟩
set_option maxHeartbeats 1000000 in
theorem free_in (f : Nat) (t : Option Addr) (w : World) :
    CallsIn Fence.wide f Tryz.prog 192 #[.pointer t] w fun e w' => e = .returned (.func (.func 219) #[] #[.pointer (some ⟨w.heap.size, 0, none⟩)]) ∧ w' = w.alloc (.cells #[.pointer t] 47) := by
  refine callsIn_of_wp Tryz.func192 rfl trivial ?_ rfl
  simp only [Tryz.ntmps192, List.size_toArray, List.length_cons, List.length_nil, Nat.reduceAdd, Nat.reduceSub, Array.replicate_succ, Array.replicate_zero, List.push_toArray, List.append_toArray, List.nil_append, List.cons_append]
  gi_wp2
  go_ret
  exact ⟨rfl, rfl⟩
def FreeKp (Bt t : Nat) (ds : Nat → Int) (W W' : World) : Prop := W'.cell? ⟨Bt, 0, none⟩ = W.cell? ⟨Bt, 0, none⟩ ∧ (Slots W t ds → Slots W' t ds)
theorem Slots.below {W W' : World} {t : Nat} {ds : Nat → Int} (h : Slots W t ds) (hB : Below W.heap.size W W') : Slots W' t ds := fun i hi =>
  (hB.cell (p := ⟨t, 1 + i * 2, none⟩) (World.block_lt_of_cell? W _ (h i hi))).trans (h i hi)
theorem free_stops (f : Nat) (hn : 1 ≤ f) (Bt t : Nat) (ds : Nat → Int) (w : World) (hBt : Bt < w.heap.size) (hct : w.cell? ⟨Bt, 0, none⟩ = some (.pointer (some ⟨t, 0, none⟩))) (hs : Slots w t ds) :
    SeqStopsK Fence.wide f Tryz.prog 219 #[.pointer (some ⟨Bt, 0, none⟩)] (fun x : Nat => #[Value.int .i64 (x : Int)]) (FreeKp Bt t ds) (fun ys => ys = frees ds 64) (fun pre => pre <+: frees ds 64) 64 w := fun l J Jx W hW _ _ hY h0 =>
  (free1_in f hn l Bt t ds J Jx hY W ((hW.cell (p := ⟨Bt, 0, none⟩) hBt).trans hct) (hs.below hW) h0).mono fun _ _ ⟨h1, h2⟩ => ⟨h1, h2.imp (fun h => ⟨_, rfl, h⟩) id⟩
end Go.Proofs.YtejcfhjhjplcnaaGreat

/- (*fdtable.Table).lowest: the lowest free descriptor. -/
namespace Go.Proofs.YtejcfhjhjplcnaaGreat
open Go.RowKit Go.Shelf

attribute [local go_sem] Oper.semAt_some

theorem tcell_putObj {W : World} {l : Nat} {o' : Obj} {b off : Nat} (h : b ≠ l) : (W.putObj l o').cell? ⟨b, off, none⟩ = W.cell? ⟨b, off, none⟩ := by
  simp only [World.cell?]
  rw [World.putObj_heap_other h]
theorem tmade_any (t kb : Nat) (w : World) (h : w.cell? ⟨t, 0, none⟩ = some (.pointer (some ⟨kb, 0, none⟩))) :
    Calls Tryz.prog 95 #[.pointer (some ⟨t, 0, none⟩)] w fun e w' => e = .returned (.bool true) ∧ w = w' := by
  go_enter Tryz.func95, Tryz.ntmps95
  go_wp2
  go_ret
  exact ⟨rfl, rfl⟩
def lowV (ds : Nat → Int) : Value := match (frees ds 64).head? with | some x => .tuple #[.int .i64 x, .int .i64 0] | none => .tuple #[.int .i64 0, .int .i64 31]
theorem lowV_some {ds : Nat → Int} {x : Nat} (h : (frees ds 64).head? = some x) : lowV ds = .tuple #[.int .i64 x, .int .i64 0] := by unfold lowV; rw [h]
theorem lowV_none {ds : Nat → Int} (h : (frees ds 64).head? = none) : lowV ds = .tuple #[.int .i64 0, .int .i64 31] := by unfold lowV; rw [h]
set_option maxRecDepth 100000 in
set_option maxHeartbeats 2000000 in
theorem lowest_in (f : Nat) (hn : 3 ≤ f) (t kb : Nat) (ds : Nat → Int) (w : World) (hk : w.cell? ⟨t, 0, none⟩ = some (.pointer (some ⟨kb, 0, none⟩))) (hs : Slots w t ds) :
    CallsIn Fence.wide f Tryz.prog 187 #[.pointer (some ⟨t, 0, none⟩)] w fun e W' => e = .returned (lowV ds) ∧ Below w.heap.size w W' := by
  have h1 : 1 ≤ f := by omega
  refine callsIn_of_wp_marks Tryz.func187 rfl trivial ?_ rfl
  simp only [Tryz.ntmps187, List.size_toArray, List.length_cons, List.length_nil, Nat.reduceAdd, Nat.reduceSub, Array.replicate_succ, Array.replicate_zero, List.push_toArray, List.append_toArray, List.nil_append, List.cons_append]
  have bA := Boxed.new w 3 (.int .i64 0)
  have bE := Boxed.new (w.alloc (.cells #[.int .i64 0] 3)) 31 (.int .i64 0)
  have bT := Boxed.new ((w.alloc (.cells #[.int .i64 0] 3)).alloc (.cells #[.int .i64 0] 31)) 47 (.pointer (some ⟨t, 0, none⟩))
  simp only [World.size_alloc] at bE bT
  have hB0 : Below w.heap.size w ((w.alloc (.cells #[.int .i64 0] 3)).alloc (.cells #[.int .i64 0] 31)) := ((Below.refl _ w).alloc (Nat.le_refl _) _).alloc (by simp) _
  have hB1 : Below w.heap.size w (((w.alloc (.cells #[.int .i64 0] 3)).alloc (.cells #[.int .i64 0] 31)).alloc (.cells #[.pointer (some ⟨t, 0, none⟩)] 47)) := hB0.alloc (by simp; omega) _
  have hsz : (((w.alloc (.cells #[.int .i64 0] 3)).alloc (.cells #[.int .i64 0] 31)).alloc (.cells #[.pointer (some ⟨t, 0, none⟩)] 47)).heap.size = w.heap.size + 3 := by simp
  have hk' := (hB0.cell (p := ⟨t, 0, none⟩) (World.block_lt_of_cell? w _ hk)).trans hk
  have hs' := hs.below hB1
  have htl := World.block_lt_of_cell? w _ hk
  have hmx : Tryz.prog.follows .mixedOrders = true := by kernel_rfl
  gi_wp2_with (first | (refine ⟨trivial, ?_⟩; gi_at_call 95; refine (callsIn_wide.2 (tmade_any t kb _ hk')).mono ?_; rintro e w' ⟨rfl, rfl⟩) | (refine ⟨trivial, ?_⟩; gi_at_call 192; refine (free_in (f - 1) _ _).mono ?_; rintro e w' ⟨rfl, rfl⟩))
  refine wpIn_rangeFunc_ownF rfl h1 (gf := 219) (lb := #[.pointer (some ⟨w.heap.size + 2, 0, none⟩)]) rfl trivial (enters_of Tryz.func219 (by kernel_rfl) rfl)
    (free_stops (f - 1) (by omega) (w.heap.size + 2) t ds _ (by rw [hsz]; omega) bT.cell hs') (fun h1 h2 => ⟨h2.1.trans h1.1, fun h => h2.2 (h1.2 h)⟩) (fun W l o o' hl _ _ _ => ⟨tcell_putObj (by rw [hsz] at hl; omega), fun h i hi => (tcell_putObj (by rw [hsz] at hl; omega)).trans (h i hi)⟩) (Below.refl _ _) (fun _ => rfl)
    (fun (pre : List Nat) W => (pre = [] ∧ (Boxed W w.heap.size 3 (.int .i64 0) ∧ Boxed W (w.heap.size + 1) 31 (.int .i64 0))) ∧ Below w.heap.size w W)
    (fun c (pre : List Nat) W => (c = .ret ∧ (Boxed W w.heap.size 3 (.int .i64 (pre.headD 0)) ∧ Boxed W (w.heap.size + 1) 31 (.int .i64 0))) ∧ pre ≠ [] ∧ Below w.heap.size w W)
    ?hI ?hIx ⟨⟨rfl, (bA.alloc _).alloc _, bE.alloc _⟩, hB1⟩
    (fun x => { tmps := #[.pointer (some ⟨t, 0, none⟩), undef, .pointer (some ⟨w.heap.size, 0, none⟩), .pointer (some ⟨w.heap.size + 1, 0, none⟩), .int .i64 (x : Int), .pointer (some ⟨t, 0, none⟩), .bool true, .bool false, .pointer (some ⟨t, 0, none⟩), .func (.func 219) #[] #[.pointer (some ⟨w.heap.size + 2, 0, none⟩)], .int .i64 (x : Int), undef], defers := [] }) ?assign ?body ?done ?stop
  case hI => exact fun s W W' row ⟨⟨e, b1, b2⟩, hB⟩ hg hr => ⟨⟨e, Own.from (boxed_own _ _ (fun _ => .int .i64 0)) _ s W W' row b1 hg hr, Own.from (boxed_own _ _ (fun _ => .int .i64 0)) _ s W W' row b2 hg hr⟩, ownFrom_below (Nat.le_refl _) (by rw [hsz]; omega) s W W' row hB hg hr⟩
  case hIx => exact fun c s W W' row ⟨⟨e, b1, b2⟩, hne, hB⟩ hg hr => ⟨⟨e, Own.from (boxed_own _ _ (fun s : List Nat => .int .i64 (s.headD 0))) _ s W W' row b1 hg hr, Own.from (boxed_own _ _ (fun _ => .int .i64 0)) _ s W W' row b2 hg hr⟩, hne, ownFrom_below (Nat.le_refl _) (by rw [hsz]; omega) s W W' row hB hg hr⟩
  case assign =>
    intro l x W K hK
    gi_wp2
    exact hK
  case body =>
    rintro l pre x W ⟨⟨rfl, b1, b2⟩, hB⟩ _
    have k1 := b1.cell
    have k2 := b2.cell
    have f1 := b1.frozen
    have f2 := b2.frozen
    gi_wp2
    exact ⟨(KeepsOthers.setCell _ _ _).trans (KeepsOthers.setCell _ _ _), ⟨rfl, (b1.set _).other (by omega) _, (b2.other (by omega) _).set _⟩, by simp, (hB.setCell (Nat.le_refl _) _).setCell (Nat.le_succ _) _⟩
  case done =>
    rintro D ys W hD rfl ⟨⟨he, b1, b2⟩, hB⟩ hK
    have k1 := b1.cell
    have k2 := b2.cell
    have f1 := b1.frozen
    have f2 := b2.frozen
    have k3 := (b2.other (B' := w.heap.size) (by omega) (.int .i64 0)).cell
    have f3 := (b2.other (B' := w.heap.size) (by omega) (.int .i64 0)).frozen
    have hE := lowV_none (ds := ds) (by rw [he]; rfl)
    have c1 := ((b1.set (.int .i64 0)).other (B' := w.heap.size + 1) (by omega) (.int .i64 31))
    have c2 := ((b2.other (B' := w.heap.size) (by omega) (.int .i64 0)).set (.int .i64 31))
    have hK' := ((KeepsOthers.setCell W ⟨w.heap.size, 0, none⟩ (.int .i64 0)).trans (KeepsOthers.setCell _ ⟨w.heap.size + 1, 0, none⟩ (.int .i64 31))).same D _ hK rfl
    have hB2 : Below w.heap.size w ((W.setCell ⟨w.heap.size, 0, none⟩ (.int .i64 0)).setCell ⟨w.heap.size + 1, 0, none⟩ (.int .i64 31)) := (hB.setCell (Nat.le_refl _) _).setCell (Nat.le_succ _) _
    gi_wp2
    refine ⟨by simp, .inl ⟨_, _, rfl, run_takeDeferred hK', ?_⟩⟩
    have e1 := cell_kept c1.cell (grownBy_putObj' _ D (.deferred none)) (fun r e => by cases e; exact ⟨_, hK', rfl⟩)
    have e2 := cell_kept c2.cell (grownBy_putObj' _ D (.deferred none)) (fun r e => by cases e; exact ⟨_, hK', rfl⟩)
    refine ⟨.tuple #[.int .i64 0, .int .i64 31], ?_, by rw [hE], hB2.trans (belowK_b (w := w) (Nat.le_refl _) _ D _ _ (by rw [hsz] at hD; omega) hK' rfl rfl)⟩
    simp [results, Tryz.f187, go_sem, e1, e2]
  case stop =>
    rintro D c pre W hD hp ⟨⟨rfl, b1, b2⟩, hne, hB⟩ hK
    obtain ⟨x, r, rfl⟩ : ∃ x r, pre = x :: r := by
      cases pre with
      | nil => exact absurd rfl hne
      | cons x r => exact ⟨x, r, rfl⟩
    have hE := lowV_some (ds := ds) (x := x) (by obtain ⟨r', hr'⟩ := hp; rw [← hr']; rfl)
    simp only [List.headD_cons] at b1
    have e1 := cell_kept b1.cell (grownBy_putObj' _ D (.deferred none)) (fun r e => by cases e; exact ⟨_, hK, rfl⟩)
    have e2 := cell_kept b2.cell (grownBy_putObj' _ D (.deferred none)) (fun r e => by cases e; exact ⟨_, hK, rfl⟩)
    gi_wp2
    refine ⟨by simp, .inl ⟨_, _, rfl, run_takeDeferred hK, ?_⟩⟩
    refine ⟨.tuple #[.int .i64 x, .int .i64 0], ?_, by rw [hE], hB.trans (belowK_b (w := w) (Nat.le_refl _) _ D _ _ (by rw [hsz] at hD; omega) hK rfl rfl)⟩
    simp [results, Tryz.f187, go_sem, e1, e2]
theorem lowest_any (t kb : Nat) (ds : Nat → Int) (w : World) (hk : w.cell? ⟨t, 0, none⟩ = some (.pointer (some ⟨kb, 0, none⟩))) (hs : Slots w t ds) :
    Calls Tryz.prog 187 #[.pointer (some ⟨t, 0, none⟩)] w fun e W' => e = .returned (lowV ds) ∧ Below w.heap.size w W' := callsIn_wide.1 (lowest_in 3 (Nat.le_refl _) t kb ds w hk hs)
end Go.Proofs.YtejcfhjhjplcnaaGreat

/- A task's table over a kernel: what its block holds, what calls answer and leave, as values. -/
namespace Go.Proofs.YtejcfhjhjplcnaaGreat
open Go.RowKit Go.Maps

def tset {α : Type} (f : Nat → α) (i : Nat) (v : α) : Nat → α := fun j => if j = i then v else f j
theorem tset_same {α : Type} (f : Nat → α) (i : Nat) (v : α) : tset f i v i = v := by simp [tset]
theorem tset_other {α : Type} (f : Nat → α) {i j : Nat} (v : α) (h : j ≠ i) : tset f i v j = f j := by simp [tset, h]
theorem tcell_same {W W' : World} {t off : Nat} (hB : W'.heap[t]? = W.heap[t]?) : W'.cell? ⟨t, off, none⟩ = W.cell? ⟨t, off, none⟩ := by
  simp only [World.cell?]
  rw [hB]
theorem toff_other {W : World} {t a b : Nat} {v : Value} (h : a ≠ b) : (W.setCell ⟨t, a, none⟩ v).cell? ⟨t, b, none⟩ = W.cell? ⟨t, b, none⟩ :=
  World.cell?_setCell_other (w := W) (a := ⟨t, a, none⟩) (b := ⟨t, b, none⟩) (v := v) (fun e => h (by cases e; rfl))
theorem toff_same {W : World} {t a : Nat} {u v : Value} (h : W.cell? ⟨t, a, none⟩ = some u) : (W.setCell ⟨t, a, none⟩ v).cell? ⟨t, a, none⟩ = some v :=
  World.cell?_setCell_same' _ _ _ (by rw [h]; rfl)
structure Tb (W : World) (t kb : Nat) (ds : Nat → Int) (ms : Nat → Bool) : Prop where
  blk : ∃ cur : List Value, W.heap[t]? = some (.cells cur.toArray 176 (0, 0))
  ck : W.cell? ⟨t, 0, none⟩ = some (.pointer (some ⟨kb, 0, none⟩))
  sl : Slots W t ds
  mks : ∀ i, i < 64 → W.cell? ⟨t, 1 + i * 2 + 1, none⟩ = some (.bool (ms i))
  i64 : ∀ i, I64 (ds i)
theorem Tb.lt {W : World} {t kb : Nat} {ds : Nat → Int} {ms : Nat → Bool} (h : Tb W t kb ds ms) : t < W.heap.size := World.block_lt_of_cell? W _ h.ck
theorem Tb.soft {W : World} {t kb : Nat} {ds : Nat → Int} {ms : Nat → Bool} (h : Tb W t kb ds ms) (j : Nat) : W.frozen? ⟨t, j, none⟩ = false := by
  obtain ⟨cur, e⟩ := h.blk
  exact frozen_of_row W t j _ _ e
theorem Tb.keep {W W' : World} {t kb : Nat} {ds : Nat → Int} {ms : Nat → Bool} (h : Tb W t kb ds ms) (hB : W'.heap[t]? = W.heap[t]?) : Tb W' t kb ds ms :=
  ⟨by rw [hB]; exact h.blk, (tcell_same hB).trans h.ck, fun i hi => (tcell_same hB).trans (h.sl i hi), fun i hi => (tcell_same hB).trans (h.mks i hi), h.i64⟩
theorem Tb.below {W W' : World} {t kb : Nat} {ds : Nat → Int} {ms : Nat → Bool} (h : Tb W t kb ds ms) (hB : Below W.heap.size W W') : Tb W' t kb ds ms := h.keep (hB.block t h.lt)
theorem Tb.turned {S : Nat → Prop} {W W' : World} {t kb : Nat} {ds : Nat → Int} {ms : Nat → Bool} (h : Tb W t kb ds ms) (hT : Turned S W W') (hS : ¬ S t) : Tb W' t kb ds ms := h.keep (hT.block t h.lt hS)
theorem Tb.desc {W : World} {t kb : Nat} {ds : Nat → Int} {ms : Nat → Bool} (h : Tb W t kb ds ms) {i : Nat} (hi : i < 64) (d : Int) (hd : I64 d) : Tb (W.setCell ⟨t, 1 + i * 2, none⟩ (.int .i64 d)) t kb (tset ds i d) ms := by
  obtain ⟨cur, e⟩ := h.blk
  refine ⟨⟨_, heap_setCell_same _ _ e⟩, ?_, fun j hj => ?_, fun j hj => ?_, fun j => ?_⟩
  · rw [toff_other (by omega)]; exact h.ck
  · by_cases hji : j = i
    · subst hji
      rw [toff_same (h.sl j hj), tset_same]
    · rw [toff_other (by omega), tset_other _ _ hji]; exact h.sl j hj
  · rw [toff_other (by omega)]; exact h.mks j hj
  · unfold tset
    split
    · exact hd
    · exact h.i64 j
theorem Tb.mark {W : World} {t kb : Nat} {ds : Nat → Int} {ms : Nat → Bool} (h : Tb W t kb ds ms) {i : Nat} (hi : i < 64) (m : Bool) : Tb (W.setCell ⟨t, 1 + i * 2 + 1, none⟩ (.bool m)) t kb ds (tset ms i m) := by
  obtain ⟨cur, e⟩ := h.blk
  refine ⟨⟨_, heap_setCell_same _ _ e⟩, ?_, fun j hj => ?_, fun j hj => ?_, h.i64⟩
  · rw [toff_other (by omega)]; exact h.ck
  · rw [toff_other (by omega)]; exact h.sl j hj
  · by_cases hji : j = i
    · subst hji
      rw [toff_same (h.mks j hj), tset_same]
    · rw [toff_other (by omega), tset_other _ _ hji]; exact h.mks j hj
structure TS where
  K : KS
  ds : Nat → Int
  ms : Nat → Bool
structure TW (w : World) (O : Nat → Prop) (t kb : Nat) (S : TS) : Prop where
  k : KAt w O kb S.K
  tb : Tb w t kb S.ds S.ms
  apart : ¬ O t
def TStep (w : World) (O : Nat → Prop) (t kb : Nat) (S' : TS) (w' : World) : Prop := ∃ O', TW w' O' t kb S' ∧ (∀ k, O' k → O k ∨ w.heap.size ≤ k) ∧ Turned (fun k => O k ∨ k = t) w w'
theorem TW.below {w w' : World} {O : Nat → Prop} {t kb : Nat} {S : TS} (h : TW w O t kb S) (hB : Below w.heap.size w w') : TW w' O t kb S := ⟨h.k.below hB, h.tb.below hB, h.apart⟩
theorem TStep.below {w w' : World} {O : Nat → Prop} {t kb : Nat} {S : TS} (h : TW w O t kb S) (hB : Below w.heap.size w w') : TStep w O t kb S w' := ⟨O, h.below hB, fun _ e => .inl e, Turned.of_below hB⟩
theorem TStep.trans {w w1 w' : World} {O : Nat → Prop} {t kb : Nat} {S1 S' : TS} (_ht : t < w.heap.size) (h : TStep w O t kb S1 w1) (h2 : ∀ O1, TW w1 O1 t kb S1 → TStep w1 O1 t kb S' w') : TStep w O t kb S' w' := by
  obtain ⟨O1, a1, a2, a3⟩ := h
  obtain ⟨O2, b1, b2, b3⟩ := h2 O1 a1
  refine ⟨O2, b1, fun k e => ?_, a3.trans b3 fun k hk e => ?_⟩
  · rcases b2 k e with e | e
    · exact a2 k e
    · exact .inr (Nat.le_trans a3.size e)
  · rcases e with e | e
    · rcases a2 k e with e | e
      · exact .inl e
      · omega
    · exact .inr e
theorem TStep.join {w w1 w' : World} {O O1 : Nat → Prop} {t kb : Nat} {S' : TS} (h1 : ∀ k, O1 k → O k ∨ w.heap.size ≤ k) (h2 : Turned (fun k => O k ∨ k = t) w w1) (h : TStep w1 O1 t kb S' w') : TStep w O t kb S' w' := by
  obtain ⟨O2, b1, b2, b3⟩ := h
  refine ⟨O2, b1, fun k e => ?_, h2.trans b3 fun k hk e => ?_⟩
  · rcases b2 k e with e | e
    · exact h1 k e
    · exact .inr (Nat.le_trans h2.size e)
  · rcases e with e | e
    · rcases h1 k e with e | e
      · exact .inl e
      · omega
    · exact .inr e
theorem TStep.behind {w w1 w' : World} {O : Nat → Prop} {t kb : Nat} {S' : TS} (h : TStep w1 O t kb S' w') (hB : Below w.heap.size w w1) : TStep w O t kb S' w' := by
  obtain ⟨O', a1, a2, a3⟩ := h
  exact ⟨O', a1, fun k e => (a2 k e).imp id (fun e => Nat.le_trans hB.size e), (Turned.of_below hB).trans a3 (fun _ _ e => e)⟩
theorem TW.kstep {w w' : World} {O : Nat → Prop} {t kb : Nat} {S : TS} {K' : KS} (h : TW w O t kb S) (hs : KStep w O kb K' w') : TStep w O t kb ⟨K', S.ds, S.ms⟩ w' := by
  obtain ⟨O', a1, a2, a3⟩ := hs
  refine ⟨O', ⟨a1, h.tb.turned a3 h.apart, fun e => ?_⟩, a2, a3.mono fun k e => .inl e⟩
  have := h.tb.lt
  rcases a2 t e with e | e
  · exact h.apart e
  · omega
theorem TW.put {w : World} {O : Nat → Prop} {t kb : Nat} {S : TS} (h : TW w O t kb S) {i : Nat} (hi : i < 64) (d : Int) (m : Bool) (hd : I64 d) :
    TStep w O t kb ⟨S.K, tset S.ds i d, tset S.ms i m⟩ ((w.setCell ⟨t, 1 + i * 2, none⟩ (.int .i64 d)).setCell ⟨t, 1 + i * 2 + 1, none⟩ (.bool m)) := by
  have hT : Turned (fun k => k = t) w ((w.setCell ⟨t, 1 + i * 2, none⟩ (.int .i64 d)).setCell ⟨t, 1 + i * 2 + 1, none⟩ (.bool m)) := ((Turned.refl (fun k => k = t) w).set (.inl rfl)).set (.inl rfl)
  refine ⟨O, ⟨h.k.keep (fun k hO hk => hT.block k hk (fun e => h.apart (e ▸ hO))) hT.size, (h.tb.desc hi d hd).mark hi m, h.apart⟩, fun _ e => .inl e, hT.mono fun k e => .inr e⟩
theorem TW.marks {w : World} {O : Nat → Prop} {t kb : Nat} {S : TS} (h : TW w O t kb S) {i : Nat} (hi : i < 64) (m : Bool) :
    TStep w O t kb ⟨S.K, S.ds, tset S.ms i m⟩ (w.setCell ⟨t, 1 + i * 2 + 1, none⟩ (.bool m)) := by
  have hT : Turned (fun k => k = t) w (w.setCell ⟨t, 1 + i * 2 + 1, none⟩ (.bool m)) := (Turned.refl (fun k => k = t) w).set (.inl rfl)
  refine ⟨O, ⟨h.k.keep (fun k hO hk => hT.block k hk (fun e => h.apart (e ▸ hO))) hT.size, h.tb.mark hi m, h.apart⟩, fun _ e => .inl e, hT.mono fun k e => .inr e⟩
def TS.low (S : TS) : Option Nat := (frees S.ds 64).head?
def TS.uses (S : TS) (fd : Int) : Bool := decide (0 ≤ fd ∧ fd < 64) && !(S.ds fd.toNat == 0)
def TS.open (S : TS) (s : ByteArray) (f : Int) : Int × Int × TS := match S.low with
  | none => (0, 31, S)
  | some x => if (S.K.open s f).2.1 = 0 then ((x : Int), 0, ⟨(S.K.open s f).2.2, tset S.ds x (S.K.open s f).1, tset S.ms x false⟩) else (0, (S.K.open s f).2.1, ⟨(S.K.open s f).2.2, S.ds, S.ms⟩)
def TS.install (S : TS) (d : Int) : Int × Int × TS := match S.low with
  | none => (0, 31, S)
  | some x => if S.K.keepE d = 0 then ((x : Int), 0, ⟨S.K.keepK d, tset S.ds x d, tset S.ms x false⟩) else (0, S.K.keepE d, ⟨S.K.keepK d, S.ds, S.ms⟩)
def TS.release (S : TS) (i : Nat) : TS := ⟨if S.ds i = 0 then S.K else S.K.dropK (S.ds i), tset S.ds i 0, tset S.ms i false⟩
def TS.close (S : TS) (fd : Int) : Int × TS := if S.uses fd = true then (0, S.release fd.toNat) else (71, S)
def TS.dup (S : TS) (fd : Int) : Int × Int × TS := if S.uses fd = true then S.install (S.ds fd.toNat) else (0, 71, S)
def TS.dupTo (S : TS) (fd to : Int) : Int × TS :=
  if S.uses fd = true then
    if 0 ≤ to ∧ to < 64 then
      if to = fd then (0, S)
      else if S.K.keepE (S.ds fd.toNat) = 0 then (0, ⟨((⟨S.K.keepK (S.ds fd.toNat), S.ds, S.ms⟩ : TS).release to.toNat).K, tset S.ds to.toNat (S.ds fd.toNat), tset S.ms to.toNat false⟩)
      else (S.K.keepE (S.ds fd.toNat), ⟨S.K.keepK (S.ds fd.toNat), S.ds, S.ms⟩)
    else (71, S)
  else (71, S)
def TS.mark (S : TS) (fd : Int) (m : Bool) : Int × TS := if S.uses fd = true then (0, ⟨S.K, S.ds, tset S.ms fd.toNat m⟩) else (71, S)
def TS.list (S : TS) : List Nat := (List.range 64).filter fun i => decide (S.ds i ≠ 0)
end Go.Proofs.YtejcfhjhjplcnaaGreat

/- A table's calls: what a descriptor is, marks, release, Close. -/
namespace Go.Proofs.YtejcfhjhjplcnaaGreat
open Go.RowKit Go.Maps

theorem tmayBe_any (fd : Int) (w : World) : Calls Tryz.prog 190 #[.int .i64 fd] w fun e w' => e = .returned (.bool (decide (0 ≤ fd ∧ fd < 64))) ∧ w = w' := by
  go_enter Tryz.func190, Tryz.ntmps190
  by_cases h1 : 0 ≤ fd
  · by_cases h2 : fd < 64
    · go_wp2
      go_ret
      exact ⟨by simp [h1, h2], rfl⟩
    · go_wp2
      go_ret
      exact ⟨by simp [h2], rfl⟩
  · go_wp2
    go_ret
    exact ⟨by simp; omega, rfl⟩
set_option maxRecDepth 100000 in
theorem used_no (t kb : Nat) (S : TS) (fd : Int) (w : World) (h : Tb w t kb S.ds S.ms) (hu : S.uses fd = false) :
    Calls Tryz.prog 188 #[.pointer (some ⟨t, 0, none⟩), .int .i64 fd] w fun e w' => e = .returned (.tuple #[.pointer none, .int .i64 71]) ∧ w = w' := by
  have HM := hide (tmade_any t kb w h.ck)
  have HB := hide (tmayBe_any fd w)
  have HS := hide h.sl
  have hck := h.ck
  by_cases hr : 0 ≤ fd ∧ fd < 64
  · obtain ⟨i, rfl⟩ := Int.eq_ofNat_of_zero_le hr.1
    have hz : S.ds i = 0 := by simpa [TS.uses, hr] using hu
    have hc := HS.out i (by omega)
    rw [hz] at hc
    have h1 := hr.1
    have h2 := hr.2
    rw [decide_eq_true hr] at HB
    clear h hu hr
    go_enter Tryz.func188, Tryz.ntmps188
    go_wp2_with (first | (go_at_call 95; refine HM.out.mono ?_; rintro _ _ ⟨rfl, rfl⟩) | (go_at_call 190; refine HB.out.mono ?_; rintro _ _ ⟨rfl, rfl⟩) | fail)
    go_ret2
    exact ⟨rfl, rfl⟩
  · rw [decide_eq_false hr] at HB
    clear h hu hr
    go_enter Tryz.func188, Tryz.ntmps188
    go_wp2_with (first | (go_at_call 95; refine HM.out.mono ?_; rintro _ _ ⟨rfl, rfl⟩) | (go_at_call 190; refine HB.out.mono ?_; rintro _ _ ⟨rfl, rfl⟩) | fail)
    go_ret2
    exact ⟨rfl, rfl⟩
set_option maxRecDepth 100000 in
theorem used_yes (t kb : Nat) (S : TS) (i : Nat) (w : World) (h : Tb w t kb S.ds S.ms) (hi : i < 64) (hz : S.ds i ≠ 0) :
    Calls Tryz.prog 188 #[.pointer (some ⟨t, 0, none⟩), .int .i64 (i : Int)] w fun e w' => e = .returned (.tuple #[.pointer (some ⟨t, 1 + i * 2, none⟩), .int .i64 0]) ∧ w = w' := by
  have HM := hide (tmade_any t kb w h.ck)
  have HB := hide (tmayBe_any (i : Int) w)
  have hc := h.sl i hi
  have hck := h.ck
  have h1 : (0 : Int) ≤ (i : Int) := by omega
  have h2 : (i : Int) < 64 := by omega
  rw [decide_eq_true ⟨h1, h2⟩] at HB
  generalize S.ds i = d at *
  clear h hi
  go_enter Tryz.func188, Tryz.ntmps188
  go_wp2_with (first | (go_at_call 95; refine HM.out.mono ?_; rintro _ _ ⟨rfl, rfl⟩) | (go_at_call 190; refine HB.out.mono ?_; rintro _ _ ⟨rfl, rfl⟩) | fail)
  go_ret2
  exact ⟨rfl, rfl⟩
theorem uses_yes {S : TS} {fd : Int} (h : S.uses fd = true) : ∃ i : Nat, fd = (i : Int) ∧ i < 64 ∧ S.ds i ≠ 0 := by
  unfold TS.uses at h
  simp only [Bool.and_eq_true, decide_eq_true_eq, Bool.not_eq_true', beq_eq_false_iff_ne, ne_eq] at h
  obtain ⟨⟨h1, h2⟩, h3⟩ := h
  exact ⟨fd.toNat, by omega, by omega, h3⟩
theorem uses_of {S : TS} {i : Nat} (hi : i < 64) (h : S.ds i ≠ 0) : S.uses (i : Int) = true := by
  unfold TS.uses
  simp only [Int.toNat_natCast, Bool.and_eq_true, decide_eq_true_eq, Bool.not_eq_true', beq_eq_false_iff_ne, ne_eq]
  exact ⟨⟨by omega, by omega⟩, h⟩
set_option maxRecDepth 100000 in
set_option maxHeartbeats 1000000 in
theorem trelease_any (t kb : Nat) (O : Nat → Prop) (S : TS) (i : Nat) (w : World) (h : TW w O t kb S) (hi : i < 64) :
    Calls Tryz.prog 189 #[.pointer (some ⟨t, 0, none⟩), .int .i64 (i : Int)] w fun e w' => (∃ v, e = .returned v) ∧ TStep w O t kb (S.release i) w' := by
  have hc := h.tb.sl i hi
  have hm := h.tb.mks i hi
  have hck := h.tb.ck
  have f1 := h.tb.soft (1 + i * 2)
  have f2 := h.tb.soft (1 + i * 2 + 1)
  have h1 : (0 : Int) ≤ (i : Int) := by omega
  have h2 : (i : Int) < 64 := by omega
  by_cases hz : S.ds i = 0
  · have HP : Hid (TStep w O t kb (S.release i) ((w.setCell ⟨t, 1 + i * 2, none⟩ (.int .i64 0)).setCell ⟨t, 1 + i * 2 + 1, none⟩ (.bool false))) := hide (by
      have := h.put hi 0 false ⟨by decide, by decide⟩
      unfold TS.release
      rw [if_pos hz]
      exact this)
    rw [hz] at hc
    clear h
    go_enter Tryz.func189, Tryz.ntmps189
    go_wp2_with fail
    go_end0
    exact ⟨⟨_, rfl⟩, HP.out⟩
  · have HD := hide (h.k.drops (S.ds i) (h.tb.i64 i))
    have HW := hide h
    generalize hd : S.ds i = d at *
    have HDs := hide hd
    clear h hd
    go_enter Tryz.func189, Tryz.ntmps189
    go_wp2_with fail
    refine HD.out.mono ?_
    rintro e w1 ⟨rfl, hS⟩
    have hT := HW.out.kstep hS
    have HF : Hid (∀ O1, TW w1 O1 t kb ⟨S.K.dropK d, S.ds, S.ms⟩ → TStep w1 O1 t kb (S.release i) ((w1.setCell ⟨t, 1 + i * 2, none⟩ (.int .i64 0)).setCell ⟨t, 1 + i * 2 + 1, none⟩ (.bool false))) := hide (fun O1 h1 => by
      have := h1.put hi 0 false ⟨by decide, by decide⟩
      unfold TS.release
      rw [HDs.out, if_neg hz]
      exact this)
    have HT := hide (TStep.trans HW.out.tb.lt hT HF.out)
    obtain ⟨O1, a1, a2, a3⟩ := hT
    have hc1 := a1.tb.sl i hi
    have hm1 := a1.tb.mks i hi
    have hck1 := a1.tb.ck
    have g1 := a1.tb.soft (1 + i * 2)
    have g2 := a1.tb.soft (1 + i * 2 + 1)
    clear hS a1 a2 a3 hc hm hck f1 f2
    go_wp2_with fail
    go_end0
    exact ⟨⟨_, rfl⟩, HT.out⟩
set_option maxRecDepth 100000 in
set_option maxHeartbeats 1000000 in
theorem tclose_any (t kb : Nat) (O : Nat → Prop) (S : TS) (fd : Int) (w : World) (h : TW w O t kb S) :
    Calls Tryz.prog 92 #[.pointer (some ⟨t, 0, none⟩), .int .i64 fd] w fun e w' => e = .returned (.int .i64 (S.close fd).1) ∧ TStep w O t kb (S.close fd).2 w' := by
  by_cases hu : S.uses fd = true
  · obtain ⟨i, rfl, hi, hz⟩ := uses_yes hu
    have HU := hide (used_yes t kb S i w h.tb hi hz)
    have HR := hide (trelease_any t kb O S i w h hi)
    have HE : Hid (S.close (i : Int) = (0, S.release i)) := hide (by unfold TS.close; rw [if_pos hu]; rfl)
    clear h hu
    rw [HE.out]
    go_enter Tryz.func92, Tryz.ntmps92
    go_wp2_with fail
    refine HU.out.mono ?_
    rintro e w1 ⟨rfl, rfl⟩
    go_wp2_with fail
    refine HR.out.mono ?_
    rintro e w1 ⟨⟨v, rfl⟩, hT⟩
    have HT := hide hT
    clear hT
    go_wp2
    go_ret
    exact ⟨rfl, HT.out⟩
  · have hu' : S.uses fd = false := by simpa using hu
    have HU := hide (used_no t kb S fd w h.tb hu')
    have HE : Hid (S.close fd = (71, S)) := hide (by unfold TS.close; rw [if_neg hu])
    have HW := hide h
    clear h hu hu'
    rw [HE.out]
    go_enter Tryz.func92, Tryz.ntmps92
    go_wp2_with fail
    refine HU.out.mono ?_
    rintro e w1 ⟨rfl, rfl⟩
    go_wp2_with fail
    go_ret
    exact ⟨rfl, TStep.below HW.out (Below.refl _ _)⟩
set_option maxRecDepth 100000 in
set_option maxHeartbeats 1000000 in
theorem tmark_any (t kb : Nat) (O : Nat → Prop) (S : TS) (fd : Int) (m : Bool) (w : World) (h : TW w O t kb S) :
    Calls Tryz.prog 94 #[.pointer (some ⟨t, 0, none⟩), .int .i64 fd, .bool m] w fun e w' => e = .returned (.int .i64 (S.mark fd m).1) ∧ TStep w O t kb (S.mark fd m).2 w' := by
  by_cases hu : S.uses fd = true
  · obtain ⟨i, rfl, hi, hz⟩ := uses_yes hu
    have HU := hide (used_yes t kb S i w h.tb hi hz)
    have HR := hide (h.marks hi m)
    have hm := h.tb.mks i hi
    have f2 := h.tb.soft (1 + i * 2 + 1)
    have HE : Hid (S.mark (i : Int) m = (0, ⟨S.K, S.ds, tset S.ms i m⟩)) := hide (by unfold TS.mark; rw [if_pos hu]; rfl)
    clear h hu
    rw [HE.out]
    go_enter Tryz.func94, Tryz.ntmps94
    go_wp2_with fail
    refine HU.out.mono ?_
    rintro e w1 ⟨rfl, rfl⟩
    go_wp2_with fail
    go_ret
    exact ⟨rfl, HR.out⟩
  · have hu' : S.uses fd = false := by simpa using hu
    have HU := hide (used_no t kb S fd w h.tb hu')
    have HE : Hid (S.mark fd m = (71, S)) := hide (by unfold TS.mark; rw [if_neg hu])
    have HW := hide h
    clear h hu hu'
    rw [HE.out]
    go_enter Tryz.func94, Tryz.ntmps94
    go_wp2_with fail
    refine HU.out.mono ?_
    rintro e w1 ⟨rfl, rfl⟩
    go_wp2_with fail
    go_ret
    exact ⟨rfl, TStep.below HW.out (Below.refl _ _)⟩
set_option maxRecDepth 100000 in
theorem tdesc_yes (t kb : Nat) (S : TS) (i : Nat) (w : World) (h : Tb w t kb S.ds S.ms) (hi : i < 64) (hz : S.ds i ≠ 0) :
    Calls Tryz.prog 115 #[.pointer (some ⟨t, 0, none⟩), .int .i64 (i : Int)] w fun e w' => e = .returned (.tuple #[.int .i64 (S.ds i), .int .i64 0]) ∧ w = w' := by
  have HU := hide (used_yes t kb S i w h hi hz)
  have hc := h.sl i hi
  clear h
  generalize S.ds i = d at *
  go_enter Tryz.func115, Tryz.ntmps115
  go_wp2_with fail
  refine HU.out.mono ?_
  rintro e w1 ⟨rfl, rfl⟩
  go_wp2_with fail
  go_ret2
  exact ⟨rfl, rfl⟩
set_option maxRecDepth 100000 in
theorem tread_yes (t kb : Nat) (O : Nat → Prop) (S : TS) (i : Nat) (n : Int) (w : World) (h : TW w O t kb S) (hi : i < 64) (hz : S.ds i ≠ 0) (hr : S.K.reads < 9223372036854775807) :
    Calls Tryz.prog 105 #[.pointer (some ⟨t, 0, none⟩), .int .i64 (i : Int), .int .i64 n] w fun e w' => ∃ v, e = .returned (.tuple #[v, .int .i64 (S.K.read (S.ds i) n).2.1]) ∧ w'.ownsRow w.heap.size 5 1 v (S.K.read (S.ds i) n).1.length ((S.K.read (S.ds i) n).1.map bv) ∧ TW w' O t kb ⟨(S.K.read (S.ds i) n).2.2, S.ds, S.ms⟩ ∧ Turned O w w' := by
  have HU := hide (used_yes t kb S i w h.tb hi hz)
  have hBd : Below w.heap.size w w.drew := (Below.refl _ w).drew
  have HR := hide ((h.k.below hBd).read (S.ds i) n (h.tb.i64 i) hr)
  have HT := hide (h.tb.below hBd)
  have HA := hide h.apart
  have HB := hide hBd
  have hc := h.tb.sl i hi
  have hck := h.tb.ck
  have hcd := HT.out.sl i hi
  have hckd := HT.out.ck
  clear h hBd
  generalize S.ds i = d at *
  generalize S.K.read d n = r at *
  go_enter Tryz.func105, Tryz.ntmps105
  go_wp2_with fail
  refine HU.out.mono ?_
  rintro e w1 ⟨rfl, rfl⟩
  go_wp2_with fail
  go_region_held3 (fun w' => w'.cell? ⟨t, 0, none⟩ = some (.pointer (some ⟨kb, 0, none⟩)) ∧ w'.cell? ⟨t, 1 + i * 2, none⟩ = some (.int .i64 d))
    (first | exact K5 | go_keep)
    (first
      | (go_at_call 63; refine HR.out.mono ?_; rintro e w5 ⟨v, rfl, h1, h2, h3⟩; have K5 : w5.cell? ⟨t, 0, none⟩ = some (.pointer (some ⟨kb, 0, none⟩)) ∧ w5.cell? ⟨t, 1 + i * 2, none⟩ = some (.int .i64 d) := ⟨h3.cell hckd HA.out, h3.cell hcd HA.out⟩)
      | fail)
  have H1 := hide h1
  have H2 : Hid (TW w5 O t kb ⟨r.2.2, S.ds, S.ms⟩) := hide ⟨h2, HT.out.turned h3 HA.out, HA.out⟩
  have H3 : Hid (Turned O w w5) := hide ((Turned.of_below HB.out).trans h3 (fun _ _ e => e))
  clear h1 h2 h3
  go_wp2
  go_ret2
  exact ⟨_, rfl, H1.out, H2.out, H3.out⟩
end Go.Proofs.YtejcfhjhjplcnaaGreat
