/- What the proof stands on, part 15: the contracts of the program's calls that it reaches. -/
import Derived.Test.YtanbiinomagdbaaGreatKM14
import Derived.Lib.MinMax
/- Kernels as values: a pipe on which a description writes has a writer, and no other one writes on it. -/
namespace Go.Proofs.YtanbiinomagdbaaGreat
open Go.RowKit Go.Maps

def Ob.wts : Ob → Option Nat
  | .pipe _ _ wt => some wt
  | _ => none
def KS.pw (K : KS) (i : Nat) : Option Nat := (K.obOf i).wts
def PInv (K : KS) : Prop := ∀ x ∈ K.de, bit x.flags 2 = true → ∀ wt, K.pw x.th = some wt → 1 ≤ wt ∧ ∀ y ∈ K.de, y.th = x.th → bit y.flags 2 = true → y.n = x.n
theorem PInv.sub {K K' : KS} (h : PInv K) (hd : ∀ x ∈ K'.de, ∃ y ∈ K.de, y.n = x.n ∧ y.th = x.th ∧ y.flags = x.flags) (hw : ∀ i, K'.pw i = K.pw i) : PInv K' := by
  intro x hx hb wt hwt
  obtain ⟨y, hy, e1, e2, e3⟩ := hd x hx
  rw [hw, ← e2] at hwt
  obtain ⟨h1, h2⟩ := h y hy (by rw [e3]; exact hb) wt hwt
  refine ⟨h1, fun z hz hzt hzb => ?_⟩
  obtain ⟨u, hu, f1, f2, f3⟩ := hd z hz
  rw [← f1, ← e1]
  exact h2 u hu (by rw [f2, hzt, e2]) (by rw [f3]; exact hzb)
theorem pw_setOb {K : KS} {i : Nat} {ob : Ob} (h : ob.wts = K.pw i) (j : Nat) : (K.setOb i ob).pw j = K.pw j := by
  unfold KS.pw KS.obOf KS.setOb at *
  simp only [List.getElem?_modify]
  by_cases e : i = j
  · subst e
    cases hq : K.th[i]? with
    | none => simp
    | some t => simp [hq] at h ⊢; exact h
  · simp [e]
theorem PInv.setDe {K : KS} {d : Int} {x x' : De} (h : PInv K) (hx : K.find d = some x) (e1 : x'.n = x.n) (e2 : x'.th = x.th) (e3 : x'.flags = x.flags) : PInv (K.setDe x') := by
  refine h.sub (fun y hy => ?_) (fun i => rfl)
  rcases mem_setDe hy with rfl | ⟨hy, _⟩
  · exact ⟨x, (KS.find_some hx).1, e1.symm, e2.symm, e3.symm⟩
  · exact ⟨y, hy, rfl, rfl, rfl⟩
theorem PInv.setOb {K : KS} {i : Nat} {ob : Ob} (h : PInv K) (hw : ob.wts = K.pw i) : PInv (K.setOb i ob) := h.sub (fun y hy => ⟨y, hy, rfl, rfl, rfl⟩) (pw_setOb hw)
theorem PInv.readUp {K : KS} (h : PInv K) : PInv K.readUp := h.sub (fun y hy => ⟨y, hy, rfl, rfl, rfl⟩) (fun _ => rfl)
theorem PInv.writeUp {K : KS} (h : PInv K) : PInv K.writeUp := h.sub (fun y hy => ⟨y, hy, rfl, rfl, rfl⟩) (fun _ => rfl)
theorem pinv_read {K : KS} (h : PInv K) (d n : Int) : PInv (K.read d n).2.2 := by
  unfold KS.read
  cases hx : K.find d with
  | none => exact h
  | some x =>
    simp only
    split
    · exact h
    split
    · exact h
    split
    · exact h
    split
    · exact h
    split
    · cases ho : K.tho x with
      | file b => exact h.readUp.setDe (d := d) (x := x) hx rfl rfl rfl
      | term ls scr => exact h.readUp.setOb (by show none = (K.obOf x.th).wts; rw [show K.obOf x.th = K.tho x from rfl, ho]; rfl)
      | pipe q rd wt => exact h.readUp.setOb (by show some wt = (K.obOf x.th).wts; rw [show K.obOf x.th = K.tho x from rfl, ho]; rfl)
    · exact h.readUp
theorem pinv_write {K : KS} (h : PInv K) (d : Int) (b : List UInt8) : PInv (K.write d b).2.2 := by
  unfold KS.write
  cases hx : K.find d with
  | none => exact h
  | some x =>
    simp only
    split
    · exact h
    split
    · exact h
    split
    · exact h
    split
    · split
      · cases ho : K.tho x with
        | file f =>
          have h1 : PInv (K.writeUp.setOb x.th (.file (wrL f (placeOf f x.flags x.pos) (b.take (min (nxt K.plan b.length).1.toNat (1048576 - placeOf f x.flags x.pos)))))) := h.writeUp.setOb (by show none = (K.obOf x.th).wts; rw [show K.obOf x.th = K.tho x from rfl, ho]; rfl)
          exact h1.setDe (d := d) (x := x) hx rfl rfl rfl
        | term ls scr => exact h.writeUp.setOb (by show none = (K.obOf x.th).wts; rw [show K.obOf x.th = K.tho x from rfl, ho]; rfl)
        | pipe q rd wt => exact h.writeUp.setOb (by show some wt = (K.obOf x.th).wts; rw [show K.obOf x.th = K.tho x from rfl, ho]; rfl)
      · exact h.writeUp
    · exact h
theorem pinv_seek {K : KS} (h : PInv K) (d o wh : Int) : PInv (K.seek d o wh).2.2 := by
  unfold KS.seek
  cases hx : K.find d with
  | none => exact h
  | some x =>
    simp only
    cases ho : K.tho x with
    | file b =>
      simp only
      generalize (if wh = 1 then (x.pos : Int) else if wh = 2 then (b.length : Int) else 0) = z
      split
      · exact h
      split
      · exact h.setDe (d := d) (x := x) hx rfl rfl rfl
      · exact h
    | term ls scr => exact h
    | pipe q rd wt => exact h
theorem obOf_app {K : KS} {i : Nat} (h : i < K.th.length) {t : Th} : ((K.th ++ [t])[i]?.map Th.ob).getD (.file []) = K.obOf i := by
  unfold KS.obOf
  rw [List.getElem?_append_left h]
theorem pinv_newDe {K : KS} (h : PInv K) (i : Nat) (fl : Int) (hi : K.pw i = none) : PInv (K.newDe i fl) := by
  intro x hx hb wt hwt
  have hpw : K.pw x.th = some wt := hwt
  rcases List.mem_append.1 (show x ∈ K.de ++ [⟨K.next, i, fl, 0, 1⟩] from hx) with hx | hx
  · obtain ⟨g1, g2⟩ := h x hx hb wt hpw
    refine ⟨g1, fun y hy hyt hyb => ?_⟩
    rcases List.mem_append.1 (show y ∈ K.de ++ [⟨K.next, i, fl, 0, 1⟩] from hy) with hy | hy
    · exact g2 y hy hyt hyb
    · have : y = ⟨K.next, i, fl, 0, 1⟩ := by simpa using hy
      subst this
      rw [← hyt] at hpw
      rw [hi] at hpw
      cases hpw
  · have : x = ⟨K.next, i, fl, 0, 1⟩ := by simpa using hx
    subst this
    rw [hi] at hpw
    cases hpw
theorem pinv_open {K : KS} (h : PInv K) (hk : KOk K) (hn : KNm K) (s : ByteArray) (fl : Int) : PInv (K.open s fl).2.2 := by
  unfold KS.open
  split
  · exact h
  split
  · exact h
  split
  · exact h
  cases hq : K.byName s with
  | some i =>
    simp only
    have him : i ∈ K.nm := List.mem_of_find?_eq_some hq
    have hki := hn.kind i him
    split
    · have hpi : K.pw i = none := by
        unfold KS.pw
        cases ho : K.obOf i with
        | file b => rfl
        | term ls scr => rfl
        | pipe q rd wt => rw [ho] at hki; rcases hki with e | e <;> simp [Ob.kind] at e
      have hcut : PInv (K.cut i fl) ∧ (K.cut i fl).pw i = none := by
        unfold KS.cut
        split
        · cases ho : K.obOf i with
          | file b =>
            have hw : (Ob.file []).wts = K.pw i := by rw [hpi]; rfl
            exact ⟨h.setOb hw, by rw [pw_setOb hw]; exact hpi⟩
          | term ls scr => exact ⟨h, hpi⟩
          | pipe q rd wt => exact ⟨h, hpi⟩
        · exact ⟨h, hpi⟩
      exact pinv_newDe hcut.1 i fl hcut.2
    · exact h
  | none =>
    simp only
    split
    · exact h
    split
    · exact h
    · have hadd : PInv (K.addTh ⟨s, .file []⟩) := by
        intro x hx hb wt hwt
        have hx' : x ∈ K.de := hx
        have hlt := hk.th x hx'
        have hpw : K.pw x.th = some wt := by
          rw [← hwt]
          show (K.obOf x.th).wts = ((((K.th ++ [⟨s, .file []⟩])[x.th]?.map Th.ob).getD (.file []))).wts
          rw [obOf_app hlt]
        exact h x hx' hb wt hpw
      refine pinv_newDe hadd _ fl ?_
      show ((((K.th ++ [⟨s, .file []⟩])[K.th.length]?.map Th.ob).getD (.file []))).wts = none
      simp [Ob.wts]
theorem pinv_new (fs : List Nm) (ts : List Tp) (l : List Fault) (h : (KS.new fs ts l).de = []) : PInv (KS.new fs ts l) := by
  intro x hx
  rw [h] at hx
  cases hx
theorem new_de (fs : List Nm) (ts : List Tp) (l : List Fault) : (KS.new fs ts l).de = [] := by
  unfold KS.new
  have h1 : ∀ (ts : List Tp) (K : KS), (ts.foldl (fun K t => K.addTh ⟨t.1, .term t.2 []⟩) K).de = K.de := fun ts => by
    induction ts with
    | nil => intro K; rfl
    | cons t r ih => intro K; rw [List.foldl_cons, ih]; rfl
  have h2 : ∀ (fs : List Nm) (K : KS), (fs.foldl (fun K f => K.addTh ⟨f.1, .file f.2⟩) K).de = K.de := fun fs => by
    induction fs with
    | nil => intro K; rfl
    | cons t r ih => intro K; rw [List.foldl_cons, ih]; rfl
  rw [h1, h2]
  rfl
end Go.Proofs.YtanbiinomagdbaaGreat

/- KernPlays: are both kernels alike? -/
namespace Go.Proofs.YtanbiinomagdbaaGreat
open Go.RowKit Go.Maps

theorem RAt.cells {w : World} {O : Nat → Prop} {kb : Nat} {K : KS} (h : RAt w O kb K) : ∃ pb pv, w.cell? ⟨kb, 2, none⟩ = some (.int .i64 K.next) ∧ w.cell? ⟨kb, 3, none⟩ = some (.pointer (some ⟨pb, 0, none⟩)) ∧ w.cell? ⟨kb, 4, none⟩ = some (.int .i64 K.reads) ∧ w.cell? ⟨kb, 5, none⟩ = some (.int .i64 K.writes) ∧ w.cell? ⟨pb, 0, none⟩ = some pv ∧ Flts w pv K.plan := by
  obtain ⟨B, ρ, I, h1, rfl, h3⟩ := h
  have hb := (h1.comp .kern).1
  have hp := (h1.comp .plan).1
  exact ⟨I.pb, I.pv, by rw [cell_of_row w I.kb 2 _ _ _ hb]; rfl, by rw [cell_of_row w I.kb 3 _ _ _ hb]; rfl, by rw [cell_of_row w I.kb 4 _ _ _ hb]; rfl, by rw [cell_of_row w I.kb 5 _ _ _ hb]; rfl, hp.left, hp.list⟩
theorem RAt.files {w : World} {O : Nat → Prop} {kb : Nat} {K : KS} (h : RAt w O kb K) :
    Calls Tryz.prog 72 #[.pointer (some ⟨kb, 0, none⟩)] w fun e w' => ∃ v us, e = .returned v ∧ w'.ownsRow w.heap.size 114 2 v K.files.length (ncs K.files us) ∧ LCells w' w.heap.size (K.files.map Prod.snd) us ∧ Below w.heap.size w w' := by
  obtain ⟨B, ρ, I, h1, rfl, h3⟩ := h
  exact rkfiles_any B ρ I K w h1
theorem RAt.screens {w : World} {O : Nat → Prop} {kb : Nat} {K : KS} (h : RAt w O kb K) :
    Calls Tryz.prog 75 #[.pointer (some ⟨kb, 0, none⟩)] w fun e w' => ∃ v us, e = .returned v ∧ w'.ownsRow w.heap.size 114 2 v K.screens.length (ncs K.screens us) ∧ LCells w' w.heap.size (K.screens.map Prod.snd) us ∧ Below w.heap.size w w' := by
  obtain ⟨B, ρ, I, h1, rfl, h3⟩ := h
  exact rkscreens_any B ρ I K w h1
theorem screens_ok {w : World} {O P : Nat → Prop} {kb mb : Nat} {K : KS} (h : KAt w O kb K) (h2 : RAt w P mb K) : K.screens.length ≤ 256 ∧ ∀ j (hj : j < K.screens.length), ∃ i ∈ K.nm, K.nameOf i = K.screens[j].1 ∧ (∃ ls, K.obOf i = .term ls K.screens[j].2) ∧ K.screens[j].1.size ≤ maxLen ∧ K.screens[j].2.length ≤ 1048576 := by
  have hok := h.ok
  refine ⟨?_, fun j hj => ?_⟩
  · have h1 : K.screens.length ≤ K.nm.length := by
      unfold KS.screens KS.tidx
      rw [List.length_map]
      exact List.length_filter_le _ _
    have := hok.1.named
    omega
  · have hm : K.screens[j] ∈ K.screens := List.getElem_mem hj
    obtain ⟨i, hi, he⟩ := List.mem_map.1 hm
    obtain ⟨hi1, hi2⟩ := List.mem_filter.1 hi
    refine ⟨i, hi1, by rw [← he], ?_, ?_, ?_⟩
    · cases ho : K.obOf i with
      | file b => rw [ho] at hi2; simp [Ob.kind] at hi2
      | term ls scr => exact ⟨ls, by rw [← he]; simp only [ho]; rfl⟩
      | pipe q rd wt => rw [ho] at hi2; simp [Ob.kind] at hi2
    · rw [← he]
      have := name_few (hok.2.ok i hi1)
      show (K.nameOf i).size ≤ maxLen
      unfold maxLen
      omega
    · obtain ⟨_, ρ, I, h1, -, -⟩ := h2
      have hlt := hok.1.nm i hi1
      have ht := (h1.comp (.obj i) hlt).2
      rw [← KS.obOf_eq hlt] at ht
      rw [← he]
      show (K.obOf i).shown.length ≤ 1048576
      cases ho : K.obOf i with
      | file b => simp [Ob.shown]
      | term ls scr => rw [ho] at ht; exact ht.2.2
      | pipe q rd wt => simp [Ob.shown]
end Go.Proofs.YtanbiinomagdbaaGreat

/- Raws, as values and in memory; retry's small functions. -/
namespace Go.Proofs.YtanbiinomagdbaaGreat
open Go.RowKit Go.Maps

structure RawD (S : Type) where
  read : S → Nat → List UInt8 × Int × S
  write : S → List UInt8 → Int × Int × S
structure RawM {S : Type} (D : RawD S) (T : TypeId) (v : Value) (fr fw : FuncId) (rok wok : S → Prop) (At : World → (Nat → Prop) → S → Prop) : Prop where
  mread : ∀ w, (method 480 T v "Read").run Tryz.prog w = .ok (fr, v) w
  mwrite : ∀ w, (method 480 T v "Write").run Tryz.prog w = .ok (fw, v) w
  cread : ∀ a w, (callFunc fr a).run Tryz.prog w = .ok (.enter fr a) w
  cwrite : ∀ a w, (callFunc fw a).run Tryz.prog w = .ok (.enter fw a) w
  keep : ∀ {w w' : World} {O : Nat → Prop} {s : S}, At w O s → (∀ j, O j → j < w.heap.size → w'.heap[j]? = w.heap[j]?) → w.heap.size ≤ w'.heap.size → At w' O s
  few : ∀ {w : World} {O : Nat → Prop} {s : S} (n : Nat), At w O s → (D.read s n).1.length ≤ 1073741824
  read : ∀ {w : World} {O : Nat → Prop} {s : S} (n : Nat), At w O s → rok s → 1 ≤ n → n ≤ 1048576 → Calls Tryz.prog fr #[v, .int .i64 n] w fun e w' => ∃ ua uc, e = .returned (.tuple #[.slice ua (D.read s n).1.length uc, .int .i64 (D.read s n).2.1]) ∧ Bys w' (.slice ua (D.read s n).1.length uc) (D.read s n).1 ∧ At w' O (D.read s n).2.2 ∧ Turned O w w'
  write : ∀ {w : World} {O : Nat → Prop} {s : S} (bs : List UInt8) (a : Option Addr) (c : Nat), At w O s → wok s → Bys w (.slice a bs.length c) bs → bs.length ≤ c → 1 ≤ bs.length → bs.length ≤ 1048576 → (∀ k, (Value.slice a bs.length c).ownBlock = some k → ¬ O k) →
    Calls Tryz.prog fw #[v, .slice a bs.length c] w fun e w' => e = .returned (.tuple #[.int .i64 (D.write s bs).1, .int .i64 (D.write s bs).2.1]) ∧ ∃ O', At w' O' (D.write s bs).2.2 ∧ (∀ k, O' k → O k ∨ w.heap.size ≤ k) ∧ Turned O w w'
end Go.Proofs.YtanbiinomagdbaaGreat

/- Some, over any Raw. -/
namespace Go.Proofs.YtanbiinomagdbaaGreat
open Go.RowKit Go.Maps

end Go.Proofs.YtanbiinomagdbaaGreat

/- All, over any Raw. -/
namespace Go.Proofs.YtanbiinomagdbaaGreat
open Go.RowKit Go.Maps


end Go.Proofs.YtanbiinomagdbaaGreat

/- Put, over any Raw. -/
namespace Go.Proofs.YtanbiinomagdbaaGreat
open Go.RowKit Go.Maps

end Go.Proofs.YtanbiinomagdbaaGreat

/- A kernel's handle is a Raw. -/
namespace Go.Proofs.YtanbiinomagdbaaGreat
open Go.RowKit Go.Maps

set_option maxRecDepth 100000 in
theorem KAt.hread2 {w : World} {O : Nat → Prop} {kb : Nat} {K : KS} (h : KAt w O kb K) (d n : Int) (hd : I64 d) (hr : K.reads < 9223372036854775807) :
    Calls Tryz.prog 321 #[.agg #[.pointer (some ⟨kb, 0, none⟩), .int .i64 d], .int .i64 n] w fun e w' => ∃ v, e = .returned (.tuple #[v, .int .i64 (K.read d n).2.1]) ∧ w'.ownsRow w.heap.size 5 1 v (K.read d n).1.length ((K.read d n).1.map bv) ∧ KAt w' O kb (K.read d n).2.2 ∧ Turned O w w' := by
  have hB := recv_below w (Obj.cells #[.pointer (some ⟨kb, 0, none⟩), .int .i64 d] 300)
  have HR := hide ((h.below hB).read d n hd hr)
  have HB := hide hB
  clear h hB
  go_enter Tryz.func321, Tryz.ntmps321
  go_wp2_with fail
  refine HR.out.mono ?_
  rintro e w1 ⟨v, rfl, h1, h2, h3⟩
  have HK := hide h2
  have HT := hide ((Turned.of_below HB.out).trans h3 (fun _ _ e => e))
  have HO := hide (owns_mono h1 HB.out.size)
  clear h1 h2 h3
  go_wp2
  go_ret2
  exact ⟨v, rfl, HO.out, HK.out, HT.out⟩
structure RdV {S : Type} (D : RawD S) (b : List UInt8) (st : Nat → List Fault → Nat → S) : Prop where
  read : ∀ p L rd n, p ≤ b.length → planOk L → 1 ≤ n → n ≤ 1048576 → ∃ Y E, D.read (st p L rd) n = (Y, E, st (p + Y.length) L.tail (rd + 1)) ∧ b.take p ++ Y = b.take (p + Y.length) ∧ p + Y.length ≤ b.length ∧ Y.length ≤ n ∧ ((E = 0 ∧ (p < b.length → Y ≠ [])) ∨ ((E = 22 ∨ E = 23) ∧ Y = [] ∧ L ≠ []))
structure WrV {S : Type} (D : RawD S) (x : List UInt8) (st : Nat → List Fault → Nat → S) : Prop where
  write : ∀ q L wr, q < x.length → planOk L → ∃ (m : Nat) (E : Int), D.write (st q L wr) (x.drop q) = ((m : Int), E, st (q + m) L.tail (wr + 1)) ∧ q + m ≤ x.length ∧ ((E = 0 ∧ 1 ≤ m) ∨ ((E = 22 ∨ E = 23) ∧ m = 0 ∧ L ≠ []))
end Go.Proofs.YtanbiinomagdbaaGreat

/- The reference's Raw over a kernel's description: Of, Read, Write. -/
namespace Go.Proofs.YtanbiinomagdbaaGreat
open Go.RowKit Go.Maps

def rwc (mb : Nat) (d c : Int) : Array Value := #[.int .i64 5, .slice none 0 0, .int .i64 0, .int .i64 0, .slice none 0 0, .slice none 0 0, .pointer (some ⟨mb, 0, none⟩), .int .i64 d, .int .i64 c]
def RwS (g mb : Nat) (d : Int) (W : World) (O : Nat → Prop) (K : KS) : Prop := ∃ P c, W.heap[g]? = some (.cells (rwc mb d c) 189) ∧ RAt W P mb K ∧ (∀ k, P k → O k) ∧ O g ∧ ¬ P g
theorem RwS.keep {g mb : Nat} {d : Int} {W W' : World} {O : Nat → Prop} {K : KS} (h : RwS g mb d W O K) (hk : ∀ j, O j → j < W.heap.size → W'.heap[j]? = W.heap[j]?) (hs : W.heap.size ≤ W'.heap.size) : RwS g mb d W' O K := by
  obtain ⟨P, c, h1, h2, h3, h4, h5⟩ := h
  exact ⟨P, c, (hk g h4 (Array.getElem?_eq_some_iff.1 h1).1).trans h1, h2.keep (fun k e hl => hk k (h3 k e) hl) hs, h3, h4, h5⟩
def RwStep (g mb : Nat) (d : Int) (w : World) (O : Nat → Prop) (K' : KS) (w' : World) : Prop := ∃ O', RwS g mb d w' O' K' ∧ (∀ k, O' k → O k ∨ w.heap.size ≤ k) ∧ Turned O w w'
theorem rw_step {g mb : Nat} {d c : Int} {w wa w' : World} {O P : Nat → Prop} {K' : KS} (h1 : wa.heap[g]? = some (.cells (rwc mb d c) 189)) (hT : Turned (fun k => k = g) w wa) (hS : RKStep wa P mb K' w') (h3 : ∀ k, P k → O k) (h4 : O g) (h5 : ¬ P g) : RwStep g mb d w O K' w' := by
  obtain ⟨P', a1, a2, a3⟩ := hS
  have hg : g < wa.heap.size := (Array.getElem?_eq_some_iff.1 h1).1
  have hz := hT.size
  refine ⟨fun k => O k ∨ w.heap.size ≤ k, ⟨P', c, (a3.block g hg h5).trans h1, a1, fun k e => (a2 k e).imp (h3 k) (fun e => by omega), .inl h4, fun e => ?_⟩, fun _ e => e, (hT.mono (fun k e => by subst e; exact h4)).trans a3 (fun k _ e => h3 k e)⟩
  rcases a2 g e with e | e
  · exact h5 e
  · omega
set_option maxRecDepth 100000 in
set_option maxHeartbeats 2000000 in
theorem of_any (mb : Nat) (d : Int) (w : World) : Calls Tryz.prog 176 #[.pointer (some ⟨mb, 0, none⟩), .int .i64 d] w fun e w' => e = .returned (.pointer (some ⟨w.heap.size, 0, none⟩)) ∧ w'.heap[w.heap.size]? = some (.cells (rwc mb d 0) 189) ∧ Below w.heap.size w w' := by
  go_enter Tryz.func176, Tryz.ntmps176
  go_wp2
  go_ret
  exact ⟨rfl, heap_alloc_new _ _, (Below.refl _ _).alloc (Nat.le_refl _) _⟩
set_option maxRecDepth 100000 in
set_option maxHeartbeats 2000000 in
theorem rwread_any (g mb : Nat) (d n : Int) (O : Nat → Prop) (K : KS) (w : World) (h : RwS g mb d w O K) (hr : K.reads < 9223372036854775807) :
    Calls Tryz.prog 21 #[.pointer (some ⟨g, 0, none⟩), .int .i64 n] w fun e w' => ∃ v, e = .returned (.tuple #[v, .int .i64 (K.read d n).2.1]) ∧ Bys w' v (K.read d n).1 ∧ RwStep g mb d w O (K.read d n).2.2 w' := by
  obtain ⟨P, c, h1, h2, h3, h4, h5⟩ := h
  have q0 : w.cell? ⟨g, 0, none⟩ = some (.int .i64 5) := cell_of_row w g 0 _ _ _ h1
  have q8 : w.cell? ⟨g, 8, none⟩ = some (.int .i64 c) := cell_of_row w g 8 _ _ _ h1
  have s8 := frozen_of_row w g 8 _ _ h1
  have e8 : ∀ c', (w.setCell ⟨g, 8, none⟩ (.int .i64 c')).heap[g]? = some (.cells (rwc mb d c') 189) := fun c' => Go.heap_setCell_same w g 8 _ _ (.int .i64 c') h1
  have hT : ∀ c', Turned (fun k => k = g) w (w.setCell ⟨g, 8, none⟩ (.int .i64 c')) := fun c' => Turned.set (S := fun k => k = g) (Turned.refl _ _) (.inl rfl)
  have hR : ∀ c', RAt (w.setCell ⟨g, 8, none⟩ (.int .i64 c')) P mb K := fun c' => h2.keep (fun k e hl => (hT c').block k hl (fun e' => by subst e'; exact h5 e)) (hT c').size
  have r0 : ∀ c', (w.setCell ⟨g, 8, none⟩ (.int .i64 c')).cell? ⟨g, 0, none⟩ = some (.int .i64 5) := fun c' => cell_of_row _ g 0 _ _ _ (e8 c')
  have r6 : ∀ c', (w.setCell ⟨g, 8, none⟩ (.int .i64 c')).cell? ⟨g, 6, none⟩ = some (.pointer (some ⟨mb, 0, none⟩)) := fun c' => cell_of_row _ g 6 _ _ _ (e8 c')
  have r7 : ∀ c', (w.setCell ⟨g, 8, none⟩ (.int .i64 c')).cell? ⟨g, 7, none⟩ = some (.int .i64 d) := fun c' => cell_of_row _ g 7 _ _ _ (e8 c')
  have HRd := hide fun c' => ((hR c').below (Below.refl _ _).drew).read d n hr
  have HF := hide (fun c' => And.intro (e8 c') (hT c'))
  have HP := hide (And.intro h3 (And.intro h4 h5))
  clear e8 hT hR h1 h2 h3 h4 h5
  generalize hRR : K.read d n = R at *
  obtain ⟨l, e, K'⟩ := R
  simp only at HRd ⊢
  go_enter Tryz.func21, Tryz.ntmps21
  go_wp2_with fail
  have HRw := hide (HRd.out (wrap64 (c + 1)))
  obtain ⟨f1, f2⟩ := HF.out (wrap64 (c + 1))
  have k6 := r6 (wrap64 (c + 1))
  have k7 := r7 (wrap64 (c + 1))
  have HF1 := hide f1
  have HF2 := hide f2
  clear HRd HF r0 r6 r7 f1 f2 q0 q8 s8
  generalize w.setCell ⟨g, 8, none⟩ (.int .i64 (wrap64 (c + 1))) = wa at *
  go_region_held3 (fun w' => w'.cell? ⟨g, 6, none⟩ = some (.pointer (some ⟨mb, 0, none⟩)) ∧ w'.cell? ⟨g, 7, none⟩ = some (.int .i64 d))
    (first | exact hx7 | exact ⟨k6, k7⟩ | go_keep)
    (first
      | (go_at_call 60; refine HRw.out.mono ?_; rintro e w5 ⟨v, rfl, hby, hS⟩; have hx7 : w5.cell? ⟨g, 6, none⟩ = some (.pointer (some ⟨mb, 0, none⟩)) ∧ w5.cell? ⟨g, 7, none⟩ = some (.int .i64 d) := ⟨rk_cell hS (drew_cell k6) HP.out.2.2, rk_cell hS (drew_cell k7) HP.out.2.2⟩; obtain ⟨va, vc, rfl⟩ : ∃ va vc, v = .slice va l.length vc := (by obtain ⟨va, vc, e, -⟩ := bys_form hby; exact ⟨va, vc, e⟩))
      | fail)
  all_goals go_wp2
  all_goals go_ret2
  all_goals exact ⟨_, rfl, hby, rw_step (wa := wa.drew) HF1.out ((HF2.out).trans (Turned.of_below (S := fun k => k = g) (Below.refl _ _).drew) (fun _ _ e => e)) hS HP.out.1 HP.out.2.1 HP.out.2.2⟩
set_option maxRecDepth 100000 in
set_option maxHeartbeats 2000000 in
theorem rwwrite_any (g mb : Nat) (d : Int) (b : List UInt8) (a1 : Option Addr) (cx : Nat) (O : Nat → Prop) (K : KS) (w : World) (h : RwS g mb d w O K) (hr : K.writes < 9223372036854775807) (hb : Bys w (.slice a1 b.length cx) b) (hcap : b.length ≤ cx) (hap : 0 < b.length → ∀ k, (Value.slice a1 b.length cx).ownBlock = some k → k < w.heap.size ∧ ¬ O k) :
    Calls Tryz.prog 26 #[.pointer (some ⟨g, 0, none⟩), .slice a1 b.length cx] w fun e w' => e = .returned (.tuple #[.int .i64 (K.write d b).1, .int .i64 (K.write d b).2.1]) ∧ RwStep g mb d w O (K.write d b).2.2 w' := by
  obtain ⟨P, c, h1, h2, h3, h4, h5⟩ := h
  have q0 : w.cell? ⟨g, 0, none⟩ = some (.int .i64 5) := cell_of_row w g 0 _ _ _ h1
  have q8 : w.cell? ⟨g, 8, none⟩ = some (.int .i64 c) := cell_of_row w g 8 _ _ _ h1
  have s8 := frozen_of_row w g 8 _ _ h1
  have e8 : ∀ c', (w.setCell ⟨g, 8, none⟩ (.int .i64 c')).heap[g]? = some (.cells (rwc mb d c') 189) := fun c' => Go.heap_setCell_same w g 8 _ _ (.int .i64 c') h1
  have hT : ∀ c', Turned (fun k => k = g) w (w.setCell ⟨g, 8, none⟩ (.int .i64 c')) := fun c' => Turned.set (S := fun k => k = g) (Turned.refl _ _) (.inl rfl)
  have hR : ∀ c', RAt (w.setCell ⟨g, 8, none⟩ (.int .i64 c')) P mb K := fun c' => h2.keep (fun k e hl => (hT c').block k hl (fun e' => by subst e'; exact h5 e)) (hT c').size
  have r0 : ∀ c', (w.setCell ⟨g, 8, none⟩ (.int .i64 c')).cell? ⟨g, 0, none⟩ = some (.int .i64 5) := fun c' => cell_of_row _ g 0 _ _ _ (e8 c')
  have r6 : ∀ c', (w.setCell ⟨g, 8, none⟩ (.int .i64 c')).cell? ⟨g, 6, none⟩ = some (.pointer (some ⟨mb, 0, none⟩)) := fun c' => cell_of_row _ g 6 _ _ _ (e8 c')
  have r7 : ∀ c', (w.setCell ⟨g, 8, none⟩ (.int .i64 c')).cell? ⟨g, 7, none⟩ = some (.int .i64 d) := fun c' => cell_of_row _ g 7 _ _ _ (e8 c')
  have hyb : ∀ c', Bys (w.setCell ⟨g, 8, none⟩ (.int .i64 c')) (.slice a1 b.length cx) b := fun c' => by
    by_cases hz : 0 < b.length
    · exact hb.turned (hT c') (fun k hk _ e => by subst e; exact (hap hz _ hk).2 h4)
    · exact bys_none hb hz
  have HRd := hide fun c' => ((hR c').below (Below.refl _ _).drew).write0 d b a1 cx hr ((hyb c').below (Below.refl _ _).drew) hcap (fun hz k hk => ⟨by have := (hap hz k hk).1; have := (hT c').size; exact Nat.lt_of_lt_of_le (hap hz k hk).1 (hT c').size, fun e => (hap hz k hk).2 (h3 k e)⟩)
  have HF := hide (fun c' => And.intro (e8 c') (hT c'))
  have HP := hide (And.intro h3 (And.intro h4 h5))
  clear e8 hT hR h1 h2 h3 h4 h5 hyb hap hb
  generalize hRR : K.write d b = R at *
  obtain ⟨m, e, K'⟩ := R
  simp only at HRd ⊢
  go_enter Tryz.func26, Tryz.ntmps26
  go_wp2_with fail
  have HRw := hide (HRd.out (wrap64 (c + 1)))
  obtain ⟨f1, f2⟩ := HF.out (wrap64 (c + 1))
  have k6 := r6 (wrap64 (c + 1))
  have k7 := r7 (wrap64 (c + 1))
  have HF1 := hide f1
  have HF2 := hide f2
  clear HRd HF r0 r6 r7 f1 f2 q0 q8 s8
  generalize w.setCell ⟨g, 8, none⟩ (.int .i64 (wrap64 (c + 1))) = wa at *
  go_region_held3 (fun w' => w'.cell? ⟨g, 6, none⟩ = some (.pointer (some ⟨mb, 0, none⟩)) ∧ w'.cell? ⟨g, 7, none⟩ = some (.int .i64 d))
    (first | exact hx7 | exact ⟨k6, k7⟩ | go_keep)
    (first
      | (go_at_call 62; refine HRw.out.mono ?_; rintro e w5 ⟨rfl, hS⟩; have hx7 : w5.cell? ⟨g, 6, none⟩ = some (.pointer (some ⟨mb, 0, none⟩)) ∧ w5.cell? ⟨g, 7, none⟩ = some (.int .i64 d) := ⟨rk_cell hS (drew_cell k6) HP.out.2.2, rk_cell hS (drew_cell k7) HP.out.2.2⟩)
      | fail)
  all_goals go_wp2
  all_goals go_ret2
  all_goals exact ⟨rfl, rw_step (wa := wa.drew) HF1.out ((HF2.out).trans (Turned.of_below (S := fun k => k = g) (Below.refl _ _).drew) (fun _ _ e => e)) hS HP.out.1 HP.out.2.1 HP.out.2.2⟩
end Go.Proofs.YtanbiinomagdbaaGreat

/- A kernel's description as a Raw of either side: the reference's Seek; PlK, but for Same. -/
namespace Go.Proofs.YtanbiinomagdbaaGreat
open Go.RowKit Go.Maps

set_option maxRecDepth 100000 in
set_option maxHeartbeats 2000000 in
theorem rwseek_any (g mb : Nat) (d off wh : Int) (O : Nat → Prop) (K : KS) (w : World) (h : RwS g mb d w O K) :
    Calls Tryz.prog 27 #[.pointer (some ⟨g, 0, none⟩), .int .i64 off, .int .i64 wh] w fun e w' => e = .returned (.tuple #[.int .i64 (K.seek d off wh).1, .int .i64 (K.seek d off wh).2.1]) ∧ RwStep g mb d w O (K.seek d off wh).2.2 w' := by
  obtain ⟨P, c, h1, h2, h3, h4, h5⟩ := h
  have q0 : w.cell? ⟨g, 0, none⟩ = some (.int .i64 5) := cell_of_row w g 0 _ _ _ h1
  have k6 : w.cell? ⟨g, 6, none⟩ = some (.pointer (some ⟨mb, 0, none⟩)) := cell_of_row w g 6 _ _ _ h1
  have k7 : w.cell? ⟨g, 7, none⟩ = some (.int .i64 d) := cell_of_row w g 7 _ _ _ h1
  have HRw := hide ((h2.below (Below.refl _ _).drew).seek d off wh)
  have HF := hide h1
  have HP := hide (And.intro h3 (And.intro h4 h5))
  clear h1 h2 h3 h4 h5
  generalize hRR : K.seek d off wh = R at *
  obtain ⟨n, e, K'⟩ := R
  simp only at HRw ⊢
  go_enter Tryz.func27, Tryz.ntmps27
  go_wp2_with fail
  go_region_held3 (fun w' => w'.cell? ⟨g, 6, none⟩ = some (.pointer (some ⟨mb, 0, none⟩)) ∧ w'.cell? ⟨g, 7, none⟩ = some (.int .i64 d))
    (first | exact hx7 | exact ⟨k6, k7⟩ | go_keep)
    (first
      | (go_at_call 64; refine HRw.out.mono ?_; rintro e w5 ⟨rfl, hS⟩; have hx7 : w5.cell? ⟨g, 6, none⟩ = some (.pointer (some ⟨mb, 0, none⟩)) ∧ w5.cell? ⟨g, 7, none⟩ = some (.int .i64 d) := ⟨rk_cell hS (drew_cell k6) HP.out.2.2, rk_cell hS (drew_cell k7) HP.out.2.2⟩)
      | fail)
  all_goals go_wp2
  all_goals go_ret2
  all_goals exact ⟨rfl, rw_step (wa := w.drew) HF.out (Turned.of_below (S := fun k => k = g) (Below.refl _ _).drew) hS HP.out.1 HP.out.2.1 HP.out.2.2⟩
end Go.Proofs.YtanbiinomagdbaaGreat

/- Memories: a store as a value and in memory; isMade, read, seek, all of it. -/
namespace Go.Proofs.YtanbiinomagdbaaGreat
open Go.RowKit

structure MS where
  l : List UInt8
  room : Nat
  pl : Nat
def MS.read (S : MS) (n : Int) : List UInt8 × Int × MS :=
  if inR n = true then (piece S.l S.pl n.toNat, 0, ⟨S.l, S.room, S.pl + (piece S.l S.pl n.toNat).length⟩) else ([], 4, S)
def MS.write (S : MS) (x : List UInt8) : Int × Int × MS :=
  if 1048576 < x.length then (0, 5, S) else if x = [] then (0, 0, S) else if S.pl = S.room then (0, 31, S)
  else ((min x.length (S.room - S.pl) : Nat), 0, ⟨lay S.l S.pl (x.take (min x.length (S.room - S.pl))), S.room, S.pl + min x.length (S.room - S.pl)⟩)
def MS.from (S : MS) (wh : Int) : Nat := if wh = 1 then S.pl else if wh = 2 then S.l.length else 0
def MS.seek (S : MS) (off wh : Int) : Int × Int × MS :=
  if wh < 0 ∨ 2 < wh then (0, 1, S)
  else if off < -(S.from wh : Int) ∨ (S.room : Int) - (S.from wh : Int) < off then (0, 4, S)
  else ((S.from wh : Int) + off, 0, ⟨S.l, S.room, ((S.from wh : Int) + off).toNat⟩)

def MemAt (W : World) (O : Nat → Prop) (g : Nat) (S : MS) : Prop :=
  ∃ f b cap, W.cell? ⟨g, 0, none⟩ = some (.pointer (some ⟨f, 0, none⟩)) ∧ W.cell? ⟨g, 1, none⟩ = some (.int .i64 S.room) ∧ W.cell? ⟨g, 2, none⟩ = some (.int .i64 S.pl) ∧ W.frozen? ⟨g, 2, none⟩ = false ∧
    FileAt W f b cap S.l ∧ O g ∧ O f ∧ O b ∧ g ≠ f ∧ g ≠ b ∧ S.l.length ≤ S.room ∧ S.pl ≤ S.room ∧ S.room ≤ 1048576
def MStep (w : World) (O : Nat → Prop) (g : Nat) (S : MS) (w' : World) : Prop := ∃ O', MemAt w' O' g S ∧ (∀ k, O' k → O k ∨ w.heap.size ≤ k) ∧ Turned O w w'
theorem MemAt.keep {W W' : World} {O : Nat → Prop} {g : Nat} {S : MS} (h : MemAt W O g S) (hk : ∀ j, O j → j < W.heap.size → W'.heap[j]? = W.heap[j]?) : MemAt W' O g S := by
  obtain ⟨f, b, cap, h0, h1, h2, h3, h4, og, of, ob, n1, n2, r1, r2, r3⟩ := h
  have kg := hk g og (World.block_lt_of_cell? W _ h0)
  exact ⟨f, b, cap, (World.cell?_of_block (w := W) kg).trans h0, (World.cell?_of_block (w := W) kg).trans h1, (World.cell?_of_block (w := W) kg).trans h2, (World.frozen?_of_block (w := W) kg).trans h3,
    h4.keep (hk f of h4.lt) (hk b ob h4.row.lt), og, of, ob, n1, n2, r1, r2, r3⟩
theorem MemAt.below {W W' : World} {O : Nat → Prop} {g : Nat} {S : MS} (h : MemAt W O g S) (hB : Below W.heap.size W W') : MemAt W' O g S := h.keep fun j _ hl => hB.block j hl
theorem MemAt.ok {W : World} {O : Nat → Prop} {g : Nat} {S : MS} (h : MemAt W O g S) : S.l.length ≤ S.room ∧ S.pl ≤ S.room ∧ S.room ≤ 1048576 := by
  obtain ⟨f, b, cap, h0, h1, h2, h3, h4, og, of, ob, n1, n2, r1, r2, r3⟩ := h
  exact ⟨r1, r2, r3⟩
theorem MemAt.trim {W : World} {O : Nat → Prop} {g : Nat} {S : MS} (h : MemAt W O g S) : MemAt W (fun k => O k ∧ k < W.heap.size) g S := by
  obtain ⟨f, b, cap, h0, h1, h2, h3, h4, og, of, ob, n⟩ := h
  exact ⟨f, b, cap, h0, h1, h2, h3, h4, ⟨og, World.block_lt_of_cell? W _ h0⟩, ⟨of, h4.lt⟩, ⟨ob, h4.row.lt⟩, n⟩
theorem MStep.same {w : World} {O : Nat → Prop} {g : Nat} {S : MS} (h : MemAt w O g S) : MStep w O g S w := ⟨O, h, fun _ e => .inl e, Turned.refl _ _⟩
theorem MStep.below {w w' : World} {O : Nat → Prop} {g : Nat} {S : MS} (h : MemAt w O g S) (hB : Below w.heap.size w w') : MStep w O g S w' := ⟨O, h.below hB, fun _ e => .inl e, Turned.of_below hB⟩

set_option maxHeartbeats 1000000 in
theorem sMade_yes (g f : Nat) (w : World) (h : w.cell? ⟨g, 0, none⟩ = some (.pointer (some ⟨f, 0, none⟩))) :
    Calls Tryz.prog 216 #[.pointer (some ⟨g, 0, none⟩)] w fun e w' => e = .returned (.bool true) ∧ w = w' := by
  go_enter Tryz.func216, Tryz.ntmps216
  go_wp2
  go_ret
  exact ⟨rfl, rfl⟩
set_option maxRecDepth 100000 in
set_option maxHeartbeats 1000000 in
theorem sall_any (O : Nat → Prop) (g : Nat) (S : MS) (w : World) (h : MemAt w O g S) :
    Calls Tryz.prog 184 #[.pointer (some ⟨g, 0, none⟩)] w fun e w' => ∃ v, e = .returned v ∧ w'.ownsRow w.heap.size 5 1 v S.l.length (S.l.map bv) ∧ Below w.heap.size w w' := by
  obtain ⟨f, b, cap, h0, h1, h2, h3, h4, og, of, ob, n1, n2, r1, r2, r3⟩ := h
  have H4 := hide h4
  clear h4 og of ob h1 h2 h3
  go_enter Tryz.func184, Tryz.ntmps184
  go_wp2_with fail
  refine (bytes_any f b cap S.l _ H4.out (by omega)).mono ?_
  rintro e w2 ⟨rfl, hown, hB⟩
  have HO := hide hown
  clear hown
  go_wp2
  go_ret
  exact ⟨_, rfl, HO.out, hB⟩

set_option maxRecDepth 100000 in
set_option maxHeartbeats 1000000 in
theorem sread_any (O : Nat → Prop) (g : Nat) (S : MS) (n : Int) (w : World) (h : MemAt w O g S) :
    Calls Tryz.prog 179 #[.pointer (some ⟨g, 0, none⟩), .int .i64 n] w fun e w' => ∃ v, e = .returned (.tuple #[v, .int .i64 (S.read n).2.1]) ∧ w'.ownsRow w.heap.size 5 1 v (S.read n).1.length ((S.read n).1.map bv) ∧ MemAt w' O g (S.read n).2.2 ∧ Turned O w w' := by
  obtain ⟨f, b, cap, h0, h1, h2, h3, h4, og, of, ob, n1, n2, r1, r2, r3⟩ := h
  have hp : inR (S.pl : Int) = true := inR_yes (by omega) (by omega)
  have hE : Fi_rdE (S.pl : Int) n = (S.read n).2.1 := by
    unfold Fi_rdE MS.read
    rw [hp, Bool.true_and]
    by_cases hn : inR n = true
    · rw [if_neg (by simp [hn]), if_pos hn]
    · rw [if_pos (by simpa using hn), if_neg hn]
  have hL : rdL S.l (S.pl : Int) n = (S.read n).1 := by
    unfold rdL MS.read
    rw [hp, Bool.true_and]
    by_cases hn : inR n = true
    · rw [if_neg (by simp [hn]), if_pos hn, Int.toNat_natCast]
    · rw [if_pos (by simpa using hn), if_neg hn]
  have hS : (S.read n).2.2 = ⟨S.l, S.room, S.pl + (S.read n).1.length⟩ := by
    unfold MS.read
    by_cases hn : inR n = true
    · rw [if_pos hn]
    · rw [if_neg hn]; rfl
  have hle : S.pl + (S.read n).1.length ≤ S.room := by
    unfold MS.read
    by_cases hn : inR n = true
    · rw [if_pos hn]; show S.pl + (piece S.l S.pl n.toNat).length ≤ S.room; rw [piece_len]; omega
    · rw [if_neg hn]; simpa using r2
  have HR := hide (readAt_any f b cap S.l (S.pl : Int) n w.drew (h4.below (Below.refl _ _).drew) (by omega))
  rw [hE, hL] at HR
  rw [hS]
  generalize (S.read n).1 = Y at *
  generalize (S.read n).2.1 = E at *
  have H4 := hide h4
  have HS := hide (And.intro h0 (And.intro h1 (And.intro h2 h3)))
  clear hE hL hS h4 hp
  go_enter Tryz.func179, Tryz.ntmps179
  go_wp2_with fail
  go_region_held3 (fun w' => w'.cell? ⟨g, 0, none⟩ = some (.pointer (some ⟨f, 0, none⟩)) ∧ w'.cell? ⟨g, 2, none⟩ = some (.int .i64 S.pl))
    (first | exact hx5 | exact ⟨h0, h2⟩ | go_keep)
    (first
      | (go_at_call 218; refine HR.out.mono ?_; rintro e w2 ⟨v, rfl, hown, hB⟩; have hx5 : w2.cell? ⟨g, 0, none⟩ = some (.pointer (some ⟨f, 0, none⟩)) ∧ w2.cell? ⟨g, 2, none⟩ = some (.int .i64 S.pl) := ⟨(hB.cell (p := ⟨g, 0, none⟩) (World.block_lt_of_cell? w _ HS.out.1)).trans HS.out.1, (hB.cell (p := ⟨g, 2, none⟩) (World.block_lt_of_cell? w _ HS.out.2.2.1)).trans HS.out.2.2.1⟩)
      | fail)
  obtain ⟨va, vc, rfl⟩ := owns_slice hown
  obtain ⟨-, k2⟩ := hx5
  have hgl : g < w.heap.size := World.block_lt_of_cell? w _ HS.out.2.2.1
  have kb : w2.heap[g]? = w.heap[g]? := hB.block g hgl
  have k3 : w2.frozen? ⟨g, 2, none⟩ = false := (World.frozen?_of_block (w := w) kb).trans HS.out.2.2.2
  have HO := hide hown
  have hB' : Below w.heap.size w w2 := ((Below.refl _ w).drew).trans hB
  clear hown h0 h1 h2 h3 HR hB
  have hB := hB'
  go_wp2
  go_ret2
  rw [show ((S.pl : Int) + (Y.length : Int)) = ((S.pl + Y.length : Nat) : Int) by omega]
  have hT : Turned O w (w2.setCell ⟨g, 2, none⟩ (.int .i64 ((S.pl + Y.length : Nat) : Int))) := (Turned.of_below (S := O) hB).set (.inl og)
  refine ⟨_, rfl, owns_keep HO.out (fun k hk => Below.heap_setCell _ _ _ _ (fun e => ?_)), ⟨f, b, cap, ?_, ?_, ?_, ?_, ?_, og, of, ob, n1, n2, r1, hle, r3⟩, hT⟩
  · have h1 : w.heap.size ≤ k := (HO.out.lt k hk).1; have e' : k = g := e; omega
  · rw [World.cell?_setCell_other _ _ _ _ (by simp)]; exact (World.cell?_of_block (w := w) kb).trans HS.out.1
  · rw [World.cell?_setCell_other _ _ _ _ (by simp)]; exact (World.cell?_of_block (w := w) kb).trans HS.out.2.1
  · exact World.cell?_setCell_same _ _ _ k2
  · rw [World.frozen?_setCell]; exact k3
  · have := H4.out.below hB
    exact this.keep (Below.heap_setCell _ _ _ _ (fun e => n1 e.symm)) (Below.heap_setCell _ _ _ _ (fun e => n2 e.symm))
end Go.Proofs.YtanbiinomagdbaaGreat

/- Memories: write, seek. -/
namespace Go.Proofs.YtanbiinomagdbaaGreat
open Go.RowKit

theorem MS.write_long {S : MS} {x : List UInt8} (h : 1048576 < x.length) : S.write x = (0, 5, S) := by unfold MS.write; rw [if_pos h]
theorem MS.write_none {S : MS} : S.write [] = (0, 0, S) := by unfold MS.write; rw [if_neg (by decide), if_pos rfl]
theorem MS.write_full {S : MS} {x : List UInt8} (h : x.length ≤ 1048576) (h0 : x ≠ []) (hp : S.pl = S.room) : S.write x = (0, 31, S) := by unfold MS.write; rw [if_neg (by omega), if_neg h0, if_pos hp]
theorem MS.write_some {S : MS} {x : List UInt8} (h : x.length ≤ 1048576) (h0 : x ≠ []) (hp : S.pl ≠ S.room) {m : Nat} (hm : m = min x.length (S.room - S.pl)) : S.write x = ((m : Int), 0, ⟨lay S.l S.pl (x.take m), S.room, S.pl + m⟩) := by
  unfold MS.write; rw [if_neg (by omega), if_neg h0, if_neg hp, hm]

set_option maxRecDepth 100000 in
set_option maxHeartbeats 1000000 in
theorem swrite_long (O : Nat → Prop) (g : Nat) (S : MS) (a : Option Addr) (n c : Nat) (w : World) (h : MemAt w O g S) (hl : 1048576 < n) :
    Calls Tryz.prog 177 #[.pointer (some ⟨g, 0, none⟩), .slice a n c] w fun e w' => e = .returned (.tuple #[.int .i64 0, .int .i64 5]) ∧ w = w' := by
  obtain ⟨f, b, cap, h0, -⟩ := h
  have hd : (1048576 : Int) < (n : Int) := by omega
  go_enter Tryz.func177, Tryz.ntmps177
  go_wp2_with (first | (go_at_call 216; refine (sMade_yes g f _ h0).mono ?_; rintro _ _ ⟨rfl, rfl⟩) | fail)
  go_ret2
  exact ⟨rfl, rfl⟩
set_option maxRecDepth 100000 in
set_option maxHeartbeats 1000000 in
theorem swrite_none (O : Nat → Prop) (g : Nat) (S : MS) (a : Option Addr) (c : Nat) (w : World) (h : MemAt w O g S) :
    Calls Tryz.prog 177 #[.pointer (some ⟨g, 0, none⟩), .slice a 0 c] w fun e w' => e = .returned (.tuple #[.int .i64 0, .int .i64 0]) ∧ w = w' := by
  obtain ⟨f, b, cap, h0, -⟩ := h
  go_enter Tryz.func177, Tryz.ntmps177
  go_wp2_with (first | (go_at_call 216; refine (sMade_yes g f _ h0).mono ?_; rintro _ _ ⟨rfl, rfl⟩) | fail)
  go_ret2
  exact ⟨rfl, rfl⟩
set_option maxRecDepth 100000 in
set_option maxHeartbeats 1000000 in
theorem swrite_full (O : Nat → Prop) (g : Nat) (S : MS) (a : Option Addr) (n c : Nat) (w : World) (h : MemAt w O g S) (hl : n ≤ 1048576) (hn : 0 < n) (hp : S.pl = S.room) :
    Calls Tryz.prog 177 #[.pointer (some ⟨g, 0, none⟩), .slice a n c] w fun e w' => e = .returned (.tuple #[.int .i64 0, .int .i64 31]) ∧ Below w.heap.size w w' := by
  obtain ⟨f, b, cap, h0, h1, h2, -⟩ := h
  rw [hp] at h2
  have hd : ¬ (1048576 : Int) < (n : Int) := by omega
  have hd2 : ((n : Int) == 0) = false := by simp; omega
  generalize S.room = R at *
  generalize S.pl = Q at *
  clear hp
  go_enter Tryz.func177, Tryz.ntmps177
  go_wp2_with (first | (go_at_call 216; refine (sMade_yes g f _ h0).mono ?_; rintro _ _ ⟨rfl, rfl⟩) | fail)
  go_quiet (fail)
  go_wp2
  go_ret2
  exact ⟨rfl, below_drewN (Below.refl _ _) _⟩
set_option maxRecDepth 100000 in
set_option maxHeartbeats 2000000 in
theorem swrite_some (O : Nat → Prop) (g : Nat) (S : MS) (x : List UInt8) (a : Option Addr) (c m : Nat) (w : World) (h : MemAt w O g S) (hx : Bys w (.slice a x.length c) x) (hc : x.length ≤ c) (hap : ∀ k, (Value.slice a x.length c).ownBlock = some k → ¬ O k) (hl : x.length ≤ 1048576) (h0x : 0 < x.length) (hp : S.pl ≠ S.room) (hm : m = min x.length (S.room - S.pl)) :
    Calls Tryz.prog 177 #[.pointer (some ⟨g, 0, none⟩), .slice a x.length c] w fun e w' => e = .returned (.tuple #[.int .i64 m, .int .i64 0]) ∧ MStep w O g ⟨lay S.l S.pl (x.take m), S.room, S.pl + m⟩ w' := by
  obtain ⟨f, b, cap, h0, h1, h2, h3, h4, og, of, ob, n1, n2, r1, r2, r3⟩ := h
  obtain ⟨_, xb, xo, rfl, hxl, hcells⟩ := bys_block hx h0x
  have hm1 : 0 < m := by omega
  have hm2 : m ≤ x.length := by omega
  have hm3 : S.pl + m ≤ S.room := by omega
  have hmi : min (x.length : Int) ((S.room : Int) - (S.pl : Int)) = (m : Int) := by omega
  have htl : (x.take m).length = m := by rw [List.length_take]; omega
  have hcut : Bys w (.slice (some ⟨xb, xo, none⟩) m c) (x.take m) := by have := bys_cut hx 0 m c (by omega); simpa using this
  have HW := hide fun (W : World) (hB : Below w.heap.size w W) => writeAt_some f b cap S.l S.pl (.slice (some ⟨xb, xo, none⟩) m c) (x.take m) W (h4.below hB) (hcut.below hB) (fun k hk => by
    obtain rfl : xb = k := by simpa [Value.ownBlock] using hk
    have hn := hap xb rfl
    exact ⟨fun e => hn (e ▸ of), fun e => hn (e ▸ ob)⟩) (by rw [htl]; omega) (by rw [htl]; omega)
  have HS := hide (And.intro h0 (And.intro h1 (And.intro h2 h3)))
  have HF := hide (And.intro of (And.intro ob og))
  have hgl : g < w.heap.size := World.block_lt_of_cell? w _ h0
  have hd : ¬ (1048576 : Int) < (x.length : Int) := by omega
  have hd2 : ((x.length : Int) == 0) = false := by simp; intro e; rw [e] at h0x; simp at h0x
  have hd3 : ((S.pl : Int) == (S.room : Int)) = false := by simp; omega
  have hd3' : ¬ (S.pl : Int) = (S.room : Int) := by omega
  have hmc : m ≤ c := by omega
  have HH := hide (And.intro hm htl)
  clear hm hx hcells hcut hap h4 h3 of ob htl
  go_enter Tryz.func177, Tryz.ntmps177
  go_wp2_with (first | (go_at_call 216; refine (sMade_yes g f _ h0).mono ?_; rintro _ _ ⟨rfl, rfl⟩) | fail)
  go_quiet (fail)
  go_wp2_with fail
  go_quiet (fail)
  go_wp2_with fail
  go_region_held3 (fun w' => w'.cell? ⟨g, 0, none⟩ = some (.pointer (some ⟨f, 0, none⟩)) ∧ w'.cell? ⟨g, 2, none⟩ = some (.int .i64 S.pl))
    (first | exact hx5 | exact ⟨h0, h2⟩ | go_keep)
    (first
      | (go_at_call 217; refine (HW.out _ (below_drewN (Below.refl _ _) _)).mono ?_; rintro e w2 ⟨rfl, b', cap', hF2, hb2, hT2⟩; have hx5 : w2.cell? ⟨g, 0, none⟩ = some (.pointer (some ⟨f, 0, none⟩)) ∧ w2.cell? ⟨g, 2, none⟩ = some (.int .i64 S.pl) := ⟨hT2.cell HS.out.1 (fun e => by rcases e with e | e; exact n1 e; exact n2 e), hT2.cell HS.out.2.2.1 (fun e => by rcases e with e | e; exact n1 e; exact n2 e)⟩)
      | fail)
  obtain ⟨k0, k2⟩ := hx5
  have hgb : w2.heap[g]? = w.heap[g]? := hT2.block g hgl (fun e => by rcases e with e | e; exact n1 e; exact n2 e)
  have k1 : w2.cell? ⟨g, 1, none⟩ = some (.int .i64 S.room) := (World.cell?_of_block (w := w) hgb).trans HS.out.2.1
  have k3 : w2.frozen? ⟨g, 2, none⟩ = false := (World.frozen?_of_block (w := w) hgb).trans HS.out.2.2.2
  have hz : w.heap.size ≤ w2.heap.size := hT2.size
  have hb2' : b' = b ∨ w.heap.size ≤ b' := hb2
  have HT2 : Hid (Turned (fun k => k = f ∨ k = b) w w2) := hide ⟨hT2.os, hT2.tape, hT2.output, hT2.size, hT2.block⟩
  have HF2 := hide hF2
  clear hF2 hT2 h0 h1 h2 HW hb2
  go_wp2
  go_ret2
  rw [show ((S.pl : Int) + (m : Int)) = ((S.pl + m : Nat) : Int) by omega]
  have hll : (lay S.l S.pl (x.take m)).length ≤ S.room := by rw [lay_len, HH.out.2]; split <;> omega
  have hff := HF2.out.lt
  have hbn : b' ≠ g := by rcases hb2' with e | e <;> omega
  have hbf : f ≠ g := fun e => n1 e.symm
  refine ⟨rfl, fun k => k = g ∨ k = f ∨ k = b', ⟨f, b', cap', ?_, ?_, ?_, ?_, ?_, .inl rfl, .inr (.inl rfl), .inr (.inr rfl), n1, fun e => hbn e.symm, hll, hm3, r3⟩, fun k e => ?_, ?_⟩
  · rw [World.cell?_setCell_other _ _ _ _ (by simp)]; exact k0
  · rw [World.cell?_setCell_other _ _ _ _ (by simp)]; exact k1
  · exact World.cell?_setCell_same _ _ _ k2
  · rw [World.frozen?_setCell]; exact k3
  · exact HF2.out.keep (Below.heap_setCell _ _ _ _ hbf) (Below.heap_setCell _ _ _ _ hbn)
  · rcases e with rfl | rfl | rfl
    · exact .inl HF.out.2.2
    · exact .inl HF.out.1
    · rcases hb2' with rfl | e
      · exact .inl HF.out.2.1
      · exact .inr e
  · exact (HT2.out.mono (S' := O) (fun k e => by rcases e with rfl | rfl; exact HF.out.1; exact HF.out.2.1)).set (.inl HF.out.2.2)
theorem swrite_any (O : Nat → Prop) (g : Nat) (S : MS) (x : List UInt8) (a : Option Addr) (c : Nat) (w : World) (h : MemAt w O g S) (hx : Bys w (.slice a x.length c) x) (hc : x.length ≤ c) (hap : 0 < x.length → ∀ k, (Value.slice a x.length c).ownBlock = some k → ¬ O k) :
    Calls Tryz.prog 177 #[.pointer (some ⟨g, 0, none⟩), .slice a x.length c] w fun e w' => e = .returned (.tuple #[.int .i64 (S.write x).1, .int .i64 (S.write x).2.1]) ∧ MStep w O g (S.write x).2.2 w' := by
  by_cases hl : 1048576 < x.length
  · rw [MS.write_long hl]
    refine (swrite_long O g S a x.length c w h hl).mono ?_
    rintro e w' ⟨rfl, rfl⟩
    exact ⟨rfl, MStep.same h⟩
  by_cases h0 : x = []
  · subst h0
    rw [MS.write_none]
    refine (swrite_none O g S a c w h).mono ?_
    rintro e w' ⟨rfl, rfl⟩
    exact ⟨rfl, MStep.same h⟩
  have h0x := List.length_pos_iff.2 h0
  by_cases hp : S.pl = S.room
  · rw [MS.write_full (by omega) h0 hp]
    refine (swrite_full O g S a x.length c w h (by omega) h0x hp).mono ?_
    rintro e w' ⟨rfl, hB⟩
    exact ⟨rfl, MStep.below h hB⟩
  · rw [MS.write_some (by omega) h0 hp rfl]
    exact swrite_some O g S x a c _ w h hx hc (hap h0x) (by omega) h0x hp rfl
end Go.Proofs.YtanbiinomagdbaaGreat

/- Memories: seek. -/
namespace Go.Proofs.YtanbiinomagdbaaGreat
open Go.RowKit

theorem MS.seek_arg {S : MS} {off wh : Int} (h : wh < 0 ∨ 2 < wh) : S.seek off wh = (0, 1, S) := by unfold MS.seek; rw [if_pos h]
theorem MS.seek_range {S : MS} {off wh : Int} (h : ¬ (wh < 0 ∨ 2 < wh)) (h2 : off < -(S.from wh : Int) ∨ (S.room : Int) - (S.from wh : Int) < off) : S.seek off wh = (0, 4, S) := by unfold MS.seek; rw [if_neg h, if_pos h2]
theorem MS.seek_good {S : MS} {off wh : Int} (h : ¬ (wh < 0 ∨ 2 < wh)) (h2 : ¬ (off < -(S.from wh : Int) ∨ (S.room : Int) - (S.from wh : Int) < off)) : S.seek off wh = ((S.from wh : Int) + off, 0, ⟨S.l, S.room, ((S.from wh : Int) + off).toNat⟩) := by unfold MS.seek; rw [if_neg h, if_neg h2]

theorem MemAt.place {w : World} {O : Nat → Prop} {g : Nat} {S : MS} (h : MemAt w O g S) (m : Nat) (hm : m ≤ S.room) : MStep w O g ⟨S.l, S.room, m⟩ (w.setCell ⟨g, 2, none⟩ (.int .i64 m)) := by
  obtain ⟨f, b, cap, h0, h1, h2, h3, h4, og, of, ob, n1, n2, r1, r2, r3⟩ := h
  refine ⟨O, ⟨f, b, cap, ?_, ?_, ?_, ?_, ?_, og, of, ob, n1, n2, r1, hm, r3⟩, fun _ e => .inl e, (Turned.refl O w).set (.inl og)⟩
  · rw [World.cell?_setCell_other _ _ _ _ (by simp)]; exact h0
  · rw [World.cell?_setCell_other _ _ _ _ (by simp)]; exact h1
  · exact World.cell?_setCell_same _ _ _ h2
  · rw [World.frozen?_setCell]; exact h3
  · exact h4.keep (Below.heap_setCell _ _ _ _ (fun e => n1 e.symm)) (Below.heap_setCell _ _ _ _ (fun e => n2 e.symm))

set_option maxRecDepth 100000 in
set_option maxHeartbeats 2000000 in
theorem sseek_arg (O : Nat → Prop) (g : Nat) (S : MS) (off wh : Int) (w : World) (h : MemAt w O g S) (ha : wh < 0 ∨ 2 < wh) :
    Calls Tryz.prog 178 #[.pointer (some ⟨g, 0, none⟩), .int .i64 off, .int .i64 wh] w fun e w' => e = .returned (.tuple #[.int .i64 0, .int .i64 1]) ∧ w = w' := by
  have HM := hide h
  obtain ⟨f, b, cap, h0, h1, h2, h3, h4, og, of, ob, n1, n2, r1, r2, r3⟩ := h
  have H4 := hide h4
  clear h4 og of ob n1 n2
  have e0 : (wh == 0) = false := by simp; omega
  have e1 : (wh == 1) = false := by simp; omega
  have e2 : (wh == 2) = false := by simp; omega
  have e0' : ¬ wh = 0 := by omega
  have e1' : ¬ wh = 1 := by omega
  have e2' : ¬ wh = 2 := by omega
  clear ha
  go_enter Tryz.func178, Tryz.ntmps178
  go_wp2_with (first | (go_at_call 216; refine (sMade_yes g f _ h0).mono ?_; rintro _ _ ⟨rfl, rfl⟩) | (go_at_call 163; refine (size_any f b cap S.l _ H4.out).mono ?_; rintro _ _ ⟨rfl, rfl⟩) | fail)
  go_ret2
  exact ⟨rfl, rfl⟩
set_option maxRecDepth 100000 in
set_option maxHeartbeats 2000000 in
theorem sseek_bad0 (O : Nat → Prop) (g : Nat) (S : MS) (off : Int) (w : World) (h : MemAt w O g S) (hr : off < -((0 : Nat) : Int) ∨ (S.room : Int) - ((0 : Nat) : Int) < off) :
    Calls Tryz.prog 178 #[.pointer (some ⟨g, 0, none⟩), .int .i64 off, .int .i64 0] w fun e w' => e = .returned (.tuple #[.int .i64 0, .int .i64 4]) ∧ w = w' := by
  have HM := hide h
  obtain ⟨f, b, cap, h0, h1, h2, h3, h4, og, of, ob, n1, n2, r1, r2, r3⟩ := h
  have H4 := hide h4
  clear h4 og of ob n1 n2
  rcases (show off < 0 ∨ (¬ off < 0 ∧ (S.room : Int) < off) by omega) with hq | ⟨hq, hq2⟩
  all_goals
    clear hr
    go_enter Tryz.func178, Tryz.ntmps178
    go_wp2_with (first | (go_at_call 216; refine (sMade_yes g f _ h0).mono ?_; rintro _ _ ⟨rfl, rfl⟩) | (go_at_call 163; refine (size_any f b cap S.l _ H4.out).mono ?_; rintro _ _ ⟨rfl, rfl⟩) | fail)
    go_ret2
    exact ⟨rfl, rfl⟩
set_option maxRecDepth 100000 in
set_option maxHeartbeats 2000000 in
theorem sseek_good0 (O : Nat → Prop) (g : Nat) (S : MS) (off : Int) (m : Nat) (w : World) (h : MemAt w O g S) (hm : ((0 : Nat) : Int) + off = m) (hr : m ≤ S.room) :
    Calls Tryz.prog 178 #[.pointer (some ⟨g, 0, none⟩), .int .i64 off, .int .i64 0] w fun e w' => e = .returned (.tuple #[.int .i64 m, .int .i64 0]) ∧ MStep w O g ⟨S.l, S.room, m⟩ w' := by
  have HM := hide h
  obtain ⟨f, b, cap, h0, h1, h2, h3, h4, og, of, ob, n1, n2, r1, r2, r3⟩ := h
  have H4 := hide h4
  clear h4 og of ob n1 n2
  obtain rfl : off = (m : Int) := by omega
  clear hm
  have q1 : ¬ (m : Int) < 0 := by omega
  have q2 : ¬ (S.room : Int) < (m : Int) := by omega
  go_enter Tryz.func178, Tryz.ntmps178
  go_wp2_with (first | (go_at_call 216; refine (sMade_yes g f _ h0).mono ?_; rintro _ _ ⟨rfl, rfl⟩) | (go_at_call 163; refine (size_any f b cap S.l _ H4.out).mono ?_; rintro _ _ ⟨rfl, rfl⟩) | fail)
  go_ret2
  exact ⟨rfl, HM.out.place m hr⟩
set_option maxRecDepth 100000 in
set_option maxHeartbeats 2000000 in
theorem sseek_bad1 (O : Nat → Prop) (g : Nat) (S : MS) (off : Int) (w : World) (h : MemAt w O g S) (hr : off < -((S.pl : Nat) : Int) ∨ (S.room : Int) - ((S.pl : Nat) : Int) < off) :
    Calls Tryz.prog 178 #[.pointer (some ⟨g, 0, none⟩), .int .i64 off, .int .i64 1] w fun e w' => e = .returned (.tuple #[.int .i64 0, .int .i64 4]) ∧ w = w' := by
  have HM := hide h
  obtain ⟨f, b, cap, h0, h1, h2, h3, h4, og, of, ob, n1, n2, r1, r2, r3⟩ := h
  have H4 := hide h4
  clear h4 og of ob n1 n2
  rcases (show off < -((S.pl : Nat) : Int) ∨ (¬ off < -((S.pl : Nat) : Int) ∧ (S.room : Int) - ((S.pl : Nat) : Int) < off) by omega) with hq | ⟨hq, hq2⟩
  all_goals
    clear hr
    go_enter Tryz.func178, Tryz.ntmps178
    go_wp2_with (first | (go_at_call 216; refine (sMade_yes g f _ h0).mono ?_; rintro _ _ ⟨rfl, rfl⟩) | (go_at_call 163; refine (size_any f b cap S.l _ H4.out).mono ?_; rintro _ _ ⟨rfl, rfl⟩) | fail)
    go_ret2
    exact ⟨rfl, rfl⟩
set_option maxRecDepth 100000 in
set_option maxHeartbeats 2000000 in
theorem sseek_good1 (O : Nat → Prop) (g : Nat) (S : MS) (off : Int) (m : Nat) (w : World) (h : MemAt w O g S) (hm : ((S.pl : Nat) : Int) + off = m) (hr : m ≤ S.room) :
    Calls Tryz.prog 178 #[.pointer (some ⟨g, 0, none⟩), .int .i64 off, .int .i64 1] w fun e w' => e = .returned (.tuple #[.int .i64 m, .int .i64 0]) ∧ MStep w O g ⟨S.l, S.room, m⟩ w' := by
  have HM := hide h
  obtain ⟨f, b, cap, h0, h1, h2, h3, h4, og, of, ob, n1, n2, r1, r2, r3⟩ := h
  have H4 := hide h4
  clear h4 og of ob n1 n2
  have q1 : ¬ off < -((S.pl : Nat) : Int) := by omega
  have q2 : ¬ (S.room : Int) - ((S.pl : Nat) : Int) < off := by omega
  have HMm := hide hm
  clear hm
  go_enter Tryz.func178, Tryz.ntmps178
  go_wp2_with (first | (go_at_call 216; refine (sMade_yes g f _ h0).mono ?_; rintro _ _ ⟨rfl, rfl⟩) | (go_at_call 163; refine (size_any f b cap S.l _ H4.out).mono ?_; rintro _ _ ⟨rfl, rfl⟩) | fail)
  go_ret2
  rw [HMm.out]
  exact ⟨rfl, HM.out.place m hr⟩
set_option maxRecDepth 100000 in
set_option maxHeartbeats 2000000 in
theorem sseek_bad2 (O : Nat → Prop) (g : Nat) (S : MS) (off : Int) (w : World) (h : MemAt w O g S) (hr : off < -((S.l.length : Nat) : Int) ∨ (S.room : Int) - ((S.l.length : Nat) : Int) < off) :
    Calls Tryz.prog 178 #[.pointer (some ⟨g, 0, none⟩), .int .i64 off, .int .i64 2] w fun e w' => e = .returned (.tuple #[.int .i64 0, .int .i64 4]) ∧ w = w' := by
  have HM := hide h
  obtain ⟨f, b, cap, h0, h1, h2, h3, h4, og, of, ob, n1, n2, r1, r2, r3⟩ := h
  have H4 := hide h4
  clear h4 og of ob n1 n2
  rcases (show off < -((S.l.length : Nat) : Int) ∨ (¬ off < -((S.l.length : Nat) : Int) ∧ (S.room : Int) - ((S.l.length : Nat) : Int) < off) by omega) with hq | ⟨hq, hq2⟩
  all_goals
    clear hr
    go_enter Tryz.func178, Tryz.ntmps178
    go_wp2_with (first | (go_at_call 216; refine (sMade_yes g f _ h0).mono ?_; rintro _ _ ⟨rfl, rfl⟩) | (go_at_call 163; refine (size_any f b cap S.l _ H4.out).mono ?_; rintro _ _ ⟨rfl, rfl⟩) | fail)
    go_ret2
    exact ⟨rfl, rfl⟩
set_option maxRecDepth 100000 in
set_option maxHeartbeats 2000000 in
theorem sseek_good2 (O : Nat → Prop) (g : Nat) (S : MS) (off : Int) (m : Nat) (w : World) (h : MemAt w O g S) (hm : ((S.l.length : Nat) : Int) + off = m) (hr : m ≤ S.room) :
    Calls Tryz.prog 178 #[.pointer (some ⟨g, 0, none⟩), .int .i64 off, .int .i64 2] w fun e w' => e = .returned (.tuple #[.int .i64 m, .int .i64 0]) ∧ MStep w O g ⟨S.l, S.room, m⟩ w' := by
  have HM := hide h
  obtain ⟨f, b, cap, h0, h1, h2, h3, h4, og, of, ob, n1, n2, r1, r2, r3⟩ := h
  have H4 := hide h4
  clear h4 og of ob n1 n2
  have q1 : ¬ off < -((S.l.length : Nat) : Int) := by omega
  have q2 : ¬ (S.room : Int) - ((S.l.length : Nat) : Int) < off := by omega
  have HMm := hide hm
  clear hm
  go_enter Tryz.func178, Tryz.ntmps178
  go_wp2_with (first | (go_at_call 216; refine (sMade_yes g f _ h0).mono ?_; rintro _ _ ⟨rfl, rfl⟩) | (go_at_call 163; refine (size_any f b cap S.l _ H4.out).mono ?_; rintro _ _ ⟨rfl, rfl⟩) | fail)
  go_ret2
  rw [HMm.out]
  exact ⟨rfl, HM.out.place m hr⟩
theorem sseek_any (O : Nat → Prop) (g : Nat) (S : MS) (off wh : Int) (w : World) (h : MemAt w O g S) :
    Calls Tryz.prog 178 #[.pointer (some ⟨g, 0, none⟩), .int .i64 off, .int .i64 wh] w fun e w' => e = .returned (.tuple #[.int .i64 (S.seek off wh).1, .int .i64 (S.seek off wh).2.1]) ∧ MStep w O g (S.seek off wh).2.2 w' := by
  have hok := h.ok
  by_cases ha : wh < 0 ∨ 2 < wh
  · rw [MS.seek_arg ha]
    refine (sseek_arg O g S off wh w h ha).mono ?_
    rintro e w' ⟨rfl, rfl⟩
    exact ⟨rfl, MStep.same h⟩
  have hw3 : wh = 0 ∨ wh = 1 ∨ wh = 2 := by omega
  by_cases hr : off < -(S.from wh : Int) ∨ (S.room : Int) - (S.from wh : Int) < off
  · rw [MS.seek_range ha hr]
    rcases hw3 with rfl | rfl | rfl
    · refine (sseek_bad0 O g S off w h hr).mono ?_
      rintro e w' ⟨rfl, rfl⟩
      exact ⟨rfl, MStep.same h⟩
    · refine (sseek_bad1 O g S off w h hr).mono ?_
      rintro e w' ⟨rfl, rfl⟩
      exact ⟨rfl, MStep.same h⟩
    · refine (sseek_bad2 O g S off w h hr).mono ?_
      rintro e w' ⟨rfl, rfl⟩
      exact ⟨rfl, MStep.same h⟩
  · rw [MS.seek_good ha hr]
    obtain ⟨m, hm⟩ : ∃ m : Nat, (S.from wh : Int) + off = m := ⟨((S.from wh : Int) + off).toNat, by omega⟩
    rw [hm]
    simp only [Int.toNat_natCast]
    rcases hw3 with rfl | rfl | rfl
    · exact sseek_good0 O g S off m w h hm (by omega)
    · exact sseek_good1 O g S off m w h hm (by omega)
    · exact sseek_good2 O g S off m w h hm (by omega)
end Go.Proofs.YtanbiinomagdbaaGreat
