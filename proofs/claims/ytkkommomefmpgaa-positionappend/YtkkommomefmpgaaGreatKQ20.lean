/- What the proof stands on, part 20: the contracts of the program's calls that it reaches. -/
import Derived.Test.YtkkommomefmpgaaGreatKQ19
import Derived.Deep.LoopGhost
import Derived.WalkMore
import Derived.Deep.RegionWith
import Derived.BigQuiet
import Derived.Deep.RegionHeld3
import Derived.KernelRfl
import Derived.Lib.SlBytesConst
import Derived.Lib.AppendZeros
import Derived.Deep.RegionLaw
import Derived.BigRegion
import Derived.Lib.MinMax
import Derived.Deep.DeepCutAuto
/- Openmode: Parse. -/
namespace Go.Proofs.YtkkommomefmpgaaGreat
open Go.RowKit

def fits (m : Mo) (c : UInt8) (k : Nat) : Bool := decide (sg.getD k 0 = c) && ((mayI m).getD k false && !(hasI m).getD k false)
def stepM (m : Mo) (c : UInt8) : Option Mo := ((List.range 7).find? (fits m c)).map (layI m)
theorem stepM_some {m : Mo} {c : UInt8} {k : Nat} (hk : k < 7) (h : ∀ j, j < k → fits m c j = false) (hf : fits m c k = true) : stepM m c = some (layI m k) := by
  have : (List.range 7).find? (fits m c) = some k := by
    rw [List.find?_range_eq_some]
    exact ⟨hf, by simpa using hk, fun j hj => by simp [h j hj]⟩
  simp [stepM, this]
theorem stepM_none {m : Mo} {c : UInt8} (h : ∀ j, j < 7 → fits m c j = false) : stepM m c = none := by
  have : (List.range 7).find? (fits m c) = none := by
    rw [List.find?_range_eq_none]
    intro j hj
    simp [h j hj]
  simp [stepM, this]
theorem MoAt.s0 {W : World} {b : Nat} {m : Mo} (h : MoAt W b m) (x : Bool) : MoAt (W.setCell ⟨b, 0, none⟩ (.bool x)) b { m with rd := x } := Go.heap_setCell_same W b 0 _ _ (.bool x) h
theorem MoAt.s1 {W : World} {b : Nat} {m : Mo} (h : MoAt W b m) (x : Bool) : MoAt (W.setCell ⟨b, 1, none⟩ (.bool x)) b { m with wr := x } := Go.heap_setCell_same W b 1 _ _ (.bool x) h
theorem MoAt.s2 {W : World} {b : Nat} {m : Mo} (h : MoAt W b m) (x : Bool) : MoAt (W.setCell ⟨b, 2, none⟩ (.bool x)) b { m with ap := x } := Go.heap_setCell_same W b 2 _ _ (.bool x) h
theorem MoAt.s3 {W : World} {b : Nat} {m : Mo} (h : MoAt W b m) (x : Bool) : MoAt (W.setCell ⟨b, 3, none⟩ (.bool x)) b { m with cr := x } := Go.heap_setCell_same W b 3 _ _ (.bool x) h
theorem MoAt.s4 {W : World} {b : Nat} {m : Mo} (h : MoAt W b m) (x : Bool) : MoAt (W.setCell ⟨b, 4, none⟩ (.bool x)) b { m with tr := x } := Go.heap_setCell_same W b 4 _ _ (.bool x) h
theorem MoAt.s5 {W : World} {b : Nat} {m : Mo} (h : MoAt W b m) (x : Bool) : MoAt (W.setCell ⟨b, 5, none⟩ (.bool x)) b { m with ex := x } := Go.heap_setCell_same W b 5 _ _ (.bool x) h
theorem MoAt.s6 {W : World} {b : Nat} {m : Mo} (h : MoAt W b m) (x : Bool) : MoAt (W.setCell ⟨b, 6, none⟩ (.bool x)) b { m with bi := x } := Go.heap_setCell_same W b 6 _ _ (.bool x) h
theorem MoAt.s7 {W : World} {b : Nat} {m : Mo} (h : MoAt W b m) (x : Bool) : MoAt (W.setCell ⟨b, 7, none⟩ (.bool x)) b { m with ma := x } := Go.heap_setCell_same W b 7 _ _ (.bool x) h
def putM (W : World) (b : Nat) (m' : Mo) : World := ((((((((W.setCell ⟨b, 0, none⟩ (.bool m'.rd)).setCell ⟨b, 1, none⟩ (.bool m'.wr)).setCell ⟨b, 2, none⟩ (.bool m'.ap)).setCell ⟨b, 3, none⟩ (.bool m'.cr)).setCell ⟨b, 4, none⟩ (.bool m'.tr)).setCell ⟨b, 5, none⟩ (.bool m'.ex)).setCell ⟨b, 6, none⟩ (.bool m'.bi)).setCell ⟨b, 7, none⟩ (.bool m'.ma))
theorem MoAt.put {W : World} {b : Nat} {m : Mo} (h : MoAt W b m) (m' : Mo) : MoAt (putM W b m') b m' ∧ Turned (fun k => k = b) W (putM W b m') :=
  ⟨((((((((h.s0 m'.rd).s1 m'.wr).s2 m'.ap).s3 m'.cr).s4 m'.tr).s5 m'.ex).s6 m'.bi).s7 m'.ma), Turned.set (S := fun k => k = b) (Turned.set (S := fun k => k = b) (Turned.set (S := fun k => k = b) (Turned.set (S := fun k => k = b) (Turned.set (S := fun k => k = b) (Turned.set (S := fun k => k = b) (Turned.set (S := fun k => k = b) (Turned.set (S := fun k => k = b) (Turned.refl _ _) (.inl rfl)) (.inl rfl)) (.inl rfl)) (.inl rfl)) (.inl rfl)) (.inl rfl)) (.inl rfl)) (.inl rfl)⟩
def Mc (W : World) (b : Nat) (m : Mo) : Prop := W.cell? ⟨b, 0, none⟩ = some (.bool m.rd) ∧ W.cell? ⟨b, 1, none⟩ = some (.bool m.wr) ∧ W.cell? ⟨b, 2, none⟩ = some (.bool m.ap) ∧ W.cell? ⟨b, 3, none⟩ = some (.bool m.cr) ∧ W.cell? ⟨b, 4, none⟩ = some (.bool m.tr) ∧ W.cell? ⟨b, 5, none⟩ = some (.bool m.ex) ∧ W.cell? ⟨b, 6, none⟩ = some (.bool m.bi) ∧ W.cell? ⟨b, 7, none⟩ = some (.bool m.ma)
theorem MoAt.mc {W : World} {b : Nat} {m : Mo} (h : MoAt W b m) : Mc W b m := ⟨h.cell 0, h.cell 1, h.cell 2, h.cell 3, h.cell 4, h.cell 5, h.cell 6, h.cell 7⟩
def Ms (W : World) (b : Nat) : Prop := W.frozen? ⟨b, 0, none⟩ = false ∧ W.frozen? ⟨b, 1, none⟩ = false ∧ W.frozen? ⟨b, 2, none⟩ = false ∧ W.frozen? ⟨b, 3, none⟩ = false ∧ W.frozen? ⟨b, 4, none⟩ = false ∧ W.frozen? ⟨b, 5, none⟩ = false ∧ W.frozen? ⟨b, 6, none⟩ = false ∧ W.frozen? ⟨b, 7, none⟩ = false
theorem MoAt.ms {W : World} {b : Nat} {m : Mo} (h : MoAt W b m) : Ms W b := ⟨h.soft 0, h.soft 1, h.soft 2, h.soft 3, h.soft 4, h.soft 5, h.soft 6, h.soft 7⟩
theorem drop_getD {l : List UInt8} {k : Nat} (hk : k < l.length) : l.drop k = l.getD k 0 :: l.drop (k + 1) := by
  rw [List.drop_eq_getElem_cons hk]
  simp [List.getD_eq_getElem?_getD, List.getElem?_eq_getElem hk]
theorem hM1a {wr wa : World} {b : Nat} {m : Mo} (h : MoAt wr b m) (hB : Below wr.heap.size wr wa) : MoAt wa b m := h.below hB
def prs (m : Mo) (i : Nat) : List UInt8 → Mo × Int × Nat
  | [] => if isNone m then (mo0, 91, i) else (m, 0, i)
  | c :: r => match stepM m c with
    | none => (mo0, 91, i)
    | some m' => prs m' (i + 1) r
theorem res_mode {fn : Func} {p u v : Tmp} {w : World} (h : fn.results = #[.cell p 69, .tmp u, .tmp v]) (tmps : Array Value) (b : Nat) (hp : tmps.getD p undef = .pointer (some ⟨b, 0, none⟩)) (m : Mo) (hm : MoAt w b m) :
    (results fn tmps).run Tryz.prog w = .ok (.tuple #[mv m, tmps.getD u undef, tmps.getD v undef]) w := by
  have a60 := Tryz.isAgg69
  have z60 := Tryz.sizeOf69
  have c0 : w.cell? ⟨b, 0, none⟩ = some (.bool m.rd) := hm.cell 0
  have c1 : w.cell? ⟨b, 1, none⟩ = some (.bool m.wr) := hm.cell 1
  have c2 : w.cell? ⟨b, 2, none⟩ = some (.bool m.ap) := hm.cell 2
  have c3 : w.cell? ⟨b, 3, none⟩ = some (.bool m.cr) := hm.cell 3
  have c4 : w.cell? ⟨b, 4, none⟩ = some (.bool m.tr) := hm.cell 4
  have c5 : w.cell? ⟨b, 5, none⟩ = some (.bool m.ex) := hm.cell 5
  have c6 : w.cell? ⟨b, 6, none⟩ = some (.bool m.bi) := hm.cell 6
  have c7 : w.cell? ⟨b, 7, none⟩ = some (.bool m.ma) := hm.cell 7
  have u3 := Tryz.underlying4
  have a3 := Tryz.isAgg4
  have z3 := Tryz.sizeOf4
  have hr : (results fn tmps).run Tryz.prog w = ((asAddr (tmps.getD p undef)).run Tryz.prog w).andThen fun a w₁ => ((loadVar 69 a).run Tryz.prog w₁).andThen fun x w₂ => .ok (.tuple #[x, tmps.getD u undef, tmps.getD v undef]) w₂ := by
    simp only [results, h]
    simp [Sem.run_bind, Result.andThen]
  rw [hr, hp]
  simp only [loadVar]
  go_simp
  rfl

set_option maxRecDepth 100000 in
set_option maxHeartbeats 1000000 in
theorem oparse_any (s : ByteArray) (w : World) (hs : s.size ≤ maxLen) : Calls Tryz.prog 183 #[.string s] w fun e w' => e = .returned (.tuple #[mv (prs mo0 0 s.data.toList).1, .int .i64 (prs mo0 0 s.data.toList).2.1, .int .i64 (prs mo0 0 s.data.toList).2.2]) ∧ Below w.heap.size w w' := by
  have hl := hide fun w => oletters_any w
  have hlen : s.data.toList.length = s.size := by simp
  generalize hR : prs mo0 0 s.data.toList = R
  have HR := hide hR
  clear hR
  unfold maxLen at hs
  go_enter Tryz.func183, Tryz.ntmps183
  go_wp2
  go_step3
  go_wp2_with fail
  refine (hl.out _).mono ?_
  rintro e w1 ⟨rfl, hL, hB1⟩
  have hA0 : MoAt (w.alloc (Obj.cells (mc mo0) 69)) w.heap.size mo0 := heap_alloc_new _ _
  have hA1 : MoAt ((w.alloc (Obj.cells (mc mo0) 69)).alloc (Obj.cells (mc mo0) 69)) (w.heap.size + 1) mo0 := by
    have := heap_alloc_new (w.alloc (Obj.cells (mc mo0) 69)) (Obj.cells (mc mo0) 69)
    rwa [show (w.alloc (Obj.cells (mc mo0) 69)).heap.size = w.heap.size + 1 by simp] at this
  have hM0 : MoAt w1 w.heap.size mo0 := (hA0.below ((Below.refl _ _).alloc (Nat.le_refl _) _)).below hB1
  have hM1 : MoAt w1 (w.heap.size + 1) mo0 := hA1.below hB1
  have hB0 : Below w.heap.size w w1 := (((Below.refl w.heap.size w).alloc (Nat.le_refl _) (Obj.cells (mc mo0) 69)).alloc (by simp) (Obj.cells (mc mo0) 69)).trans (hB1.mono (by simp; omega))
  have hL2 : Lt w1 (w.heap.size + 1 + 1) := by simpa using hL
  clear hB1 hl hL hA0 hA1
  go_wp2
  go_step3
  go_wp2
  go_loopg [13] s.size (fun g s13 wx => ∃ (k : Nat) (m : Mo), k + g = s.size ∧ s13 = .int .i64 k ∧ Hid (prs m k (s.data.toList.drop k) = R) ∧ Hid (MoAt wx w.heap.size mo0) ∧ Hid (MoAt wx (w.heap.size + 1) m) ∧ Hid (Lt wx (w.heap.size + 1 + 1)) ∧ Hid (Below w.heap.size w wx))
  case atStart => exact ⟨0, mo0, by omega, rfl, HR, hM0, hM1, hL2, hB0⟩
  case round =>
    clear hM0 hM1 hL2 hB0 HR
    obtain ⟨k, m, hkg, rfl, HP, HM0, HM1, HL, HB⟩ := hrel
    cases gk with
    | zero =>
      have hkz : ¬ ((k : Int) < (s.size : Int)) := by omega
      have hnil : s.data.toList.drop k = [] := List.drop_eq_nil_of_le (by omega)
      have hp := HP.out
      rw [hnil] at hp
      have HN := hide hnil
      have HP2 := hide hp
      clear hnil hp HP
      obtain ⟨c0, c1, c2, c3, c4, c5, c6, c7⟩ := HM1.out.mc
      have hin := isNone_any m
      simp only [mv] at hin
      go_wp2_with fail
      refine (hin _).mono ?_
      rintro e w2 ⟨rfl, hB2⟩
      have HM0' := hide (HM0.out.below hB2)
      have HM1' := hide (HM1.out.below hB2)
      have HB' := hide (HB.out.trans (hB2.mono HB.out.size))
      clear c0 c1 c2 c3 c4 c5 c6 c7 hin HM0 HM1 HB
      obtain ⟨d0, d1, d2, d3, d4, d5, d6, d7⟩ := HM0'.out.mc
      obtain ⟨f0, f1, f2, f3, f4, f5, f6, f7⟩ := HM0'.out.ms
      cases hq : isNone m with
      | true =>
        go_wp2
        try rw [Exit.noGoto_ret]
        obtain ⟨p1, p2⟩ := HM0'.out.put mo0
        refine bodyPost_ret (res_mode rfl _ w.heap.size rfl mo0 p1) rfl ?_
        have hv : R = (mo0, 91, k) := by rw [← HP2.out]; simp [prs, hq]
        subst hv
        exact ⟨by rw [show (s.size : Int) = (k : Int) by omega]; rfl, (HB'.out.trans (p2.below (B := w.heap.size) (by intro k e; omega) HB'.out.size))⟩
      | false =>
        obtain ⟨c0, c1, c2, c3, c4, c5, c6, c7⟩ := HM1'.out.mc
        go_wp2
        try rw [Exit.noGoto_ret]
        obtain ⟨p1, p2⟩ := HM0'.out.put m
        refine bodyPost_ret (res_mode rfl _ w.heap.size rfl m p1) rfl ?_
        have hv : R = (m, 0, k) := by rw [← HP2.out]; simp [prs, hq]
        subst hv
        exact ⟨by rw [show (s.size : Int) = (k : Int) by omega]; rfl, (HB'.out.trans (p2.below (B := w.heap.size) (by intro k e; omega) HB'.out.size))⟩
    | succ g =>
      have hkz : (k : Int) < (s.size : Int) := by omega
      have hk0 : (0 : Int) ≤ (k : Int) := by omega
      go_wp2
      go_loopg [18] 7 (fun g2 s18 wy => ∃ j : Nat, j + g2 = 7 ∧ s18 = .int .i64 j ∧ Hid (∀ i, i < j → fits m (s.data.toList.getD k 0) i = false) ∧ Hid (MoAt wy w.heap.size mo0) ∧ Hid (MoAt wy (w.heap.size + 1) m) ∧ Hid (Lt wy (w.heap.size + 1 + 1)) ∧ Hid (Below w.heap.size w wy))
      case atStart => exact ⟨0, by omega, rfl, fun i hi => absurd hi (by omega), HM0, HM1, HL, HB⟩
      case round =>
        clear HM0 HM1 HL HB
        obtain ⟨j, hjg, rfl, HF, HM0, HM1, HL, HB⟩ := hrel
        cases gk with
        | zero =>
          obtain ⟨d0, d1, d2, d3, d4, d5, d6, d7⟩ := HM0.out.mc
          obtain ⟨f0, f1, f2, f3, f4, f5, f6, f7⟩ := HM0.out.ms
          have hj7 : ¬ (j : Int) < 7 := by omega
          go_wp2
          try rw [Exit.noGoto_ret]
          obtain ⟨p1, p2⟩ := HM0.out.put mo0
          refine bodyPost_ret (res_mode rfl _ w.heap.size rfl mo0 p1) rfl ?_
          have hv : R = (mo0, 91, k) := by
            rw [← HP.out, drop_getD (by omega : k < s.data.toList.length)]
            simp only [prs]
            rw [stepM_none (fun i hi => HF.out i (by omega))]
          subst hv
          exact ⟨rfl, (HB.out.trans (p2.below (B := w.heap.size) (by intro k e; omega) HB.out.size))⟩
        | succ g2 =>
          have hj7 : j < 7 := by omega
          have hj1 : (0 : Int) ≤ (j : Int) := by omega
          have hj2 : (j : Int) < 7 := by omega
          obtain ⟨e0, e1, e2, e3⟩ := ltc_cells HL.out hj7
          have hsf := store_func
          have hen := enter_has hj7
          have hen2 := enter_may hj7
          have hen3 := enter_lay hj7
          have hm0 : ∀ o, (wr.alloc o).cell? ⟨w.heap.size + 1, 0, none⟩ = some (.bool m.rd) := fun o => (HM1.out.below ((Below.refl _ _).alloc (Nat.le_refl _) o)).cell 0
          have hm1 : ∀ o, (wr.alloc o).cell? ⟨w.heap.size + 1, 1, none⟩ = some (.bool m.wr) := fun o => (HM1.out.below ((Below.refl _ _).alloc (Nat.le_refl _) o)).cell 1
          have hm2 : ∀ o, (wr.alloc o).cell? ⟨w.heap.size + 1, 2, none⟩ = some (.bool m.ap) := fun o => (HM1.out.below ((Below.refl _ _).alloc (Nat.le_refl _) o)).cell 2
          have hm3 : ∀ o, (wr.alloc o).cell? ⟨w.heap.size + 1, 3, none⟩ = some (.bool m.cr) := fun o => (HM1.out.below ((Below.refl _ _).alloc (Nat.le_refl _) o)).cell 3
          have hm4 : ∀ o, (wr.alloc o).cell? ⟨w.heap.size + 1, 4, none⟩ = some (.bool m.tr) := fun o => (HM1.out.below ((Below.refl _ _).alloc (Nat.le_refl _) o)).cell 4
          have hm5 : ∀ o, (wr.alloc o).cell? ⟨w.heap.size + 1, 5, none⟩ = some (.bool m.ex) := fun o => (HM1.out.below ((Below.refl _ _).alloc (Nat.le_refl _) o)).cell 5
          have hm6 : ∀ o, (wr.alloc o).cell? ⟨w.heap.size + 1, 6, none⟩ = some (.bool m.bi) := fun o => (HM1.out.below ((Below.refl _ _).alloc (Nat.le_refl _) o)).cell 6
          have hm7 : ∀ o, (wr.alloc o).cell? ⟨w.heap.size + 1, 7, none⟩ = some (.bool m.ma) := fun o => (HM1.out.below ((Below.refl _ _).alloc (Nat.le_refl _) o)).cell 7
          go_wp2_with fail
          have qa := fun i => cell_of_row (wr.alloc _) wr.heap.size i _ _ _ (heap_alloc_new wr (Obj.cells #[.int .u8 (sg[j]?.getD 0).toNat, .func (.func (mayF j)) #[] #[], .func (.func (layF j)) #[] #[], .func (.func (hasF j)) #[] #[]] 333))
          have hBa := (Below.refl wr.heap.size wr).alloc (Nat.le_refl _) (Obj.cells #[.int .u8 (sg[j]?.getD 0).toNat, .func (.func (mayF j)) #[] #[], .func (.func (layF j)) #[] #[], .func (.func (hasF j)) #[] #[]] 333)
          have hMa := hM1a HM1.out hBa
          generalize wr.alloc (Obj.cells #[.int .u8 (sg[j]?.getD 0).toNat, .func (.func (mayF j)) #[] #[], .func (.func (layF j)) #[] #[], .func (.func (hasF j)) #[] #[]] 333) = wa at *
          have q0 : wa.cell? ⟨wr.heap.size, 0, none⟩ = some (.int .u8 (sg[j]?.getD 0).toNat) := qa 0
          have q1 : wa.cell? ⟨wr.heap.size, 1, none⟩ = some (.func (.func (mayF j)) #[] #[]) := qa 1
          have q2 : wa.cell? ⟨wr.heap.size, 2, none⟩ = some (.func (.func (layF j)) #[] #[]) := qa 2
          have q3 : wa.cell? ⟨wr.heap.size, 3, none⟩ = some (.func (.func (hasF j)) #[] #[]) := qa 3
          obtain ⟨c0, c1, c2, c3, c4, c5, c6, c7⟩ := hMa.mc
          have HMa := hide hMa
          have HBa := hide hBa
          clear hMa hBa qa e0 e1 e2 e3 hm0 hm1 hm2 hm3 hm4 hm5 hm6 hm7 hsf
          have hkz' : k < s.size := by omega
          have hidx : s[k]'hkz' = s.data.toList.getD k 0 := by
            rw [List.getD_eq_getElem?_getD, List.getElem?_eq_getElem (by omega)]
            simp [ByteArray.getElem_eq_getElem_data]
          have HF2 := hide (show fits m (s.data.toList.getD k 0) j = (decide (sg[j]?.getD 0 = s.data.toList.getD k 0) && ((mayI m).getD j false && !(hasI m).getD j false)) from rfl)
          by_cases hsg : (sg[j]?.getD 0) = s.data.toList.getD k 0
          · have hgd : (((sg[j]?.getD 0).toNat : Int) == ((s[k]'hkz').toNat : Int)) = true := by rw [hidx, hsg]; simp
            rw [hsg, ← hidx] at q0
            have HI := hide hidx
            have HG := hide hsg
            clear hidx hsg hgd
            have hcm := hide (omay_any m j hj7)
            have hch := hide (ohas_any m j hj7)
            simp only [mv] at hcm hch
            have hwa : wr.heap.size < wa.heap.size := World.block_lt_of_cell? wa _ q1
            have HS : Hid (∀ w', Below wa.heap.size wa w' → (fun w' => w'.cell? ⟨w.heap.size + 1, 0, none⟩ = some (.bool m.rd) ∧ w'.cell? ⟨w.heap.size + 1, 1, none⟩ = some (.bool m.wr) ∧ w'.cell? ⟨w.heap.size + 1, 2, none⟩ = some (.bool m.ap) ∧ w'.cell? ⟨w.heap.size + 1, 3, none⟩ = some (.bool m.cr) ∧ w'.cell? ⟨w.heap.size + 1, 4, none⟩ = some (.bool m.tr) ∧ w'.cell? ⟨w.heap.size + 1, 5, none⟩ = some (.bool m.ex) ∧ w'.cell? ⟨w.heap.size + 1, 6, none⟩ = some (.bool m.bi) ∧ w'.cell? ⟨w.heap.size + 1, 7, none⟩ = some (.bool m.ma) ∧ w'.cell? ⟨wr.heap.size, 0, none⟩ = some (.int .u8 ((s[k]'hkz').toNat : Int)) ∧ w'.cell? ⟨wr.heap.size, 1, none⟩ = some (.func (.func (mayF j)) #[] #[]) ∧ w'.cell? ⟨wr.heap.size, 3, none⟩ = some (.func (.func (hasF j)) #[] #[])) w') := fun w' hb =>
              ⟨(HMa.out.below hb).cell 0, (HMa.out.below hb).cell 1, (HMa.out.below hb).cell 2, (HMa.out.below hb).cell 3, (HMa.out.below hb).cell 4, (HMa.out.below hb).cell 5, (HMa.out.below hb).cell 6, (HMa.out.below hb).cell 7,
                (hb.cell (p := ⟨wr.heap.size, 0, none⟩) hwa).trans q0, (hb.cell (p := ⟨wr.heap.size, 1, none⟩) hwa).trans q1, (hb.cell (p := ⟨wr.heap.size, 3, none⟩) hwa).trans q3⟩
            cases hmy : (mayI m).getD j false with
            | false =>
              rw [hmy] at hcm
              have HY := hide hmy
              clear hmy hch
              first | go_region_with (first | (refine (hcm.out _).mono ?_; rintro e w3 ⟨rfl, hB3⟩; have hb3 : Below wa.heap.size wa w3 := (Below.refl _ _).drew.trans hB3) | fail) | fail
              all_goals
                have hb : Below wr.heap.size wr w3 := HBa.out.trans (hb3.mono HBa.out.size)
                go_wp2
                go_roundg g2
                case measure => omega
                case rel => exact ⟨j + 1, by omega, by go_num, fun i hi => by
                  by_cases hij : i < j
                  · exact HF.out i hij
                  · rw [show i = j by omega, HF2.out, HG.out, HY.out]; simp, HM0.out.below hb, HM1.out.below hb, HL.out.below hb, HB.out.trans (hb.mono HB.out.size)⟩
            | true =>
              rw [hmy] at hcm
              have HY := hide hmy
              clear hmy
              cases hha : (hasI m).getD j false with
              | true =>
                rw [hha] at hch
                have HA := hide hha
                clear hha
                first | go_region_held3 (fun w' => w'.cell? ⟨w.heap.size + 1, 0, none⟩ = some (.bool m.rd) ∧ w'.cell? ⟨w.heap.size + 1, 1, none⟩ = some (.bool m.wr) ∧ w'.cell? ⟨w.heap.size + 1, 2, none⟩ = some (.bool m.ap) ∧ w'.cell? ⟨w.heap.size + 1, 3, none⟩ = some (.bool m.cr) ∧ w'.cell? ⟨w.heap.size + 1, 4, none⟩ = some (.bool m.tr) ∧ w'.cell? ⟨w.heap.size + 1, 5, none⟩ = some (.bool m.ex) ∧ w'.cell? ⟨w.heap.size + 1, 6, none⟩ = some (.bool m.bi) ∧ w'.cell? ⟨w.heap.size + 1, 7, none⟩ = some (.bool m.ma) ∧ w'.cell? ⟨wr.heap.size, 0, none⟩ = some (.int .u8 ((s[k]'hkz').toNat : Int)) ∧ w'.cell? ⟨wr.heap.size, 1, none⟩ = some (.func (.func (mayF j)) #[] #[]) ∧ w'.cell? ⟨wr.heap.size, 3, none⟩ = some (.func (.func (hasF j)) #[] #[]))
                  (first | exact HS.out _ hb4 | exact HS.out _ hb3 | exact HS.out _ (Below.refl _ _).drew | go_keep)
                  (first | (refine (hcm.out _).mono ?_; rintro e w3 ⟨rfl, hB3⟩; have hb3 : Below wa.heap.size wa w3 := (Below.refl _ _).drew.trans hB3) | (refine (hch.out _).mono ?_; rintro e w4 ⟨rfl, hB4⟩; have hb4 := hb3.trans (hB4.mono hb3.size)) | fail) | fail
                all_goals
                  have hb : Below wr.heap.size wr w4 := HBa.out.trans (hb4.mono HBa.out.size)
                  go_wp2
                  go_roundg g2
                  case measure => omega
                  case rel => exact ⟨j + 1, by omega, by go_num, fun i hi => by
                    by_cases hij : i < j
                    · exact HF.out i hij
                    · rw [show i = j by omega, HF2.out, HG.out, HY.out, HA.out]; simp, HM0.out.below hb, HM1.out.below hb, HL.out.below hb, HB.out.trans (hb.mono HB.out.size)⟩
              | false =>
                rw [hha] at hch
                have HA := hide hha
                clear hha
                first | go_region_held3 (fun w' => w'.cell? ⟨w.heap.size + 1, 0, none⟩ = some (.bool m.rd) ∧ w'.cell? ⟨w.heap.size + 1, 1, none⟩ = some (.bool m.wr) ∧ w'.cell? ⟨w.heap.size + 1, 2, none⟩ = some (.bool m.ap) ∧ w'.cell? ⟨w.heap.size + 1, 3, none⟩ = some (.bool m.cr) ∧ w'.cell? ⟨w.heap.size + 1, 4, none⟩ = some (.bool m.tr) ∧ w'.cell? ⟨w.heap.size + 1, 5, none⟩ = some (.bool m.ex) ∧ w'.cell? ⟨w.heap.size + 1, 6, none⟩ = some (.bool m.bi) ∧ w'.cell? ⟨w.heap.size + 1, 7, none⟩ = some (.bool m.ma) ∧ w'.cell? ⟨wr.heap.size, 0, none⟩ = some (.int .u8 ((s[k]'hkz').toNat : Int)) ∧ w'.cell? ⟨wr.heap.size, 1, none⟩ = some (.func (.func (mayF j)) #[] #[]) ∧ w'.cell? ⟨wr.heap.size, 3, none⟩ = some (.func (.func (hasF j)) #[] #[]))
                  (first | exact HS.out _ hb4 | exact HS.out _ hb3 | exact HS.out _ (Below.refl _ _).drew | go_keep)
                  (first | (refine (hcm.out _).mono ?_; rintro e w3 ⟨rfl, hB3⟩; have hb3 : Below wa.heap.size wa w3 := (Below.refl _ _).drew.trans hB3) | (refine (hch.out _).mono ?_; rintro e w4 ⟨rfl, hB4⟩; have hb4 := hb3.trans (hB4.mono hb3.size)) | fail) | fail
                have hb : Below wr.heap.size wr w4 := HBa.out.trans (hb4.mono HBa.out.size)
                have e2 := (hb4.cell (p := ⟨wr.heap.size, 2, none⟩) hwa).trans q2
                have HM1' := HM1.out.below hb
                have HLay := hide (olay_any (w.heap.size + 1) m j hj7 w4 HM1')
                go_wp2_with fail
                refine HLay.out.mono ?_
                rintro e w5 ⟨rfl, hM5, hT5⟩
                have hm5 := hide hM5
                have ht5 := hide hT5
                clear hM5 hT5
                go_wp2
                go_roundg g
                case measure => omega
                case rel =>
                  have hb0 : Below w.heap.size w w4 := HB.out.trans (hb.mono HB.out.size)
                  exact ⟨k + 1, layI m j, by omega, by go_num, by
                    show prs (layI m j) (k + 1) (s.data.toList.drop (k + 1)) = R
                    rw [← HP.out, drop_getD (by omega : k < s.data.toList.length)]
                    simp only [prs]
                    rw [stepM_some hj7 HF.out (by rw [HF2.out, HG.out, HY.out, HA.out]; simp)],
                    (HM0.out.below hb).keep ht5.out (by omega), hm5.out, (HL.out.below hb).keep ht5.out (by omega), hb0.trans (ht5.out.below (B := w.heap.size) (by intro k e; omega) hb0.size)⟩
          · have hgd : (((sg[j]?.getD 0).toNat : Int) == ((s[k]'hkz').toNat : Int)) = false := by
              rw [hidx]
              simp only [beq_eq_false_iff_ne, ne_eq]
              intro e
              exact hsg (UInt8.toNat_inj.1 (by omega))
            have HI := hide hidx
            have HG := hide hsg
            clear hidx hsg
            go_region
            go_wp2
            go_roundg g2
            case measure => omega
            case rel => exact ⟨j + 1, by omega, by go_num, fun i hi => by
              by_cases hij : i < j
              · exact HF.out i hij
              · rw [show i = j by omega, HF2.out, decide_eq_false HG.out, Bool.false_and], HM0.out.below HBa.out.drew, HMa.out.below (Below.refl _ _).drew, HL.out.below HBa.out.drew, (HB.out.trans (HBa.out.mono HB.out.size)).drew⟩
end Go.Proofs.YtkkommomefmpgaaGreat

/- Openmode: the reference's Parse and letters. -/
namespace Go.Proofs.YtkkommomefmpgaaGreat
open Go.RowKit

end Go.Proofs.YtkkommomefmpgaaGreat

/- Openmode: the reference's Parse. -/
namespace Go.Proofs.YtkkommomefmpgaaGreat
open Go.RowKit

end Go.Proofs.YtkkommomefmpgaaGreat

/- Openmode: Check, Print, Flags of both. -/
namespace Go.Proofs.YtkkommomefmpgaaGreat
open Go.RowKit

theorem spl_len (m : Mo) : (spl m).length ≤ 7 := splK_len m 7
def chkM (m : Mo) : Int := if (prs mo0 0 (spl m)).2.1 = 0 ∧ (prs mo0 0 (spl m)).1 = m then 0 else 91
set_option maxRecDepth 100000 in
set_option maxHeartbeats 1000000 in
theorem ocheck_any (m : Mo) (w : World) : Calls Tryz.prog 104 #[mv m] w fun e w' => e = .returned (.int .i64 (chkM m)) ∧ Below w.heap.size w w' := by
  generalize hR : chkM m = R
  have HR := hide hR
  clear hR
  have hsp := hide (ospell_any m)
  have hpr := hide (fun w => oparse_any ⟨(spl m).toArray⟩ w (by have := spl_len m; unfold maxLen; simp [ByteArray.size]; omega))
  simp only at hpr
  unfold chkM at HR
  generalize hq : prs mo0 0 (spl m) = q at *
  have HQ := hide hq
  clear hq
  obtain ⟨x, e, n⟩ := q
  simp only [mv] at hsp hpr ⊢
  go_enter Tryz.func104, Tryz.ntmps104
  go_wp2_with fail
  refine (hsp.out _).mono ?_
  rintro e1 w1 ⟨rfl, hB1⟩
  go_wp2_with fail
  refine (hpr.out _).mono ?_
  rintro e2 w2 ⟨rfl, hB2⟩
  have hA : MoAt (w.alloc (Obj.cells (mc m) 69)) w.heap.size m := heap_alloc_new _ _
  have hB12 := hB1.trans (hB2.mono hB1.size)
  have hM2 : ∀ o, MoAt (w2.alloc o) w.heap.size m := fun o => (hA.below hB12).below ((Below.refl _ _).alloc (Nat.le_refl _) o)
  have hBB : Below w.heap.size w w2 := ((Below.refl w.heap.size w).alloc (Nat.le_refl _) _).trans (hB12.mono (Nat.le_of_lt (size_new _ _)))
  have c0 := fun o => (hM2 o).mc.1
  have c1 := fun o => (hM2 o).mc.2.1
  have c2 := fun o => (hM2 o).mc.2.2.1
  have c3 := fun o => (hM2 o).mc.2.2.2.1
  have c4 := fun o => (hM2 o).mc.2.2.2.2.1
  have c5 := fun o => (hM2 o).mc.2.2.2.2.2.1
  have c6 := fun o => (hM2 o).mc.2.2.2.2.2.2.1
  have c7 := fun o => (hM2 o).mc.2.2.2.2.2.2.2
  have HBB := hide hBB
  clear hB1 hB2 hB12 hM2 hA hBB hsp hpr
  by_cases he : e = 0
  · subst he
    have hr : R = if x = m then 0 else 91 := by rw [← HR.out]; simp
    have HRR := hide hr
    clear hr
    go_wp2
    all_goals go_ret
    all_goals refine ⟨ret_int ?_, HBB.out.alloc HBB.out.size _⟩
    all_goals rw [HRR.out]
    all_goals
      by_cases hxm : x = m
      · first | (rw [if_pos hxm]; done) | (exfalso; subst hxm; simp_all; done)
      · first | (rw [if_neg hxm]; done) | (exfalso; refine hxm ?_; cases x; cases m; simp_all; done)
  · have hr : R = 91 := by rw [← HR.out]; simp [he]
    subst hr
    go_wp2
    all_goals go_ret
    all_goals exact ⟨rfl, HBB.out.alloc HBB.out.size _⟩
end Go.Proofs.YtkkommomefmpgaaGreat

/- Streams: New. -/
namespace Go.Proofs.YtkkommomefmpgaaGreat
open Go.RowKit

def ss0 : SS := ⟨false, false, 0, 0, [], [], [], 0, false, false, false⟩
def SS.new (m : Mo) (mode size : Int) : SS × Int :=
  if chkM m = 0 then (if 1 ≤ mode ∧ mode ≤ 3 then (if 1 ≤ size ∧ size ≤ 65536 then (⟨m.rd, m.wr, mode, size, [], [], [], 0, false, false, false⟩, 0) else (ss0, 4)) else (ss0, 1)) else (ss0, chkM m)
set_option maxRecDepth 100000 in
set_option maxHeartbeats 2000000 in
theorem sNew_any (m : Mo) (mode size : Int) (w : World) :
    Calls Tryz.prog 26 #[mv m, .int .i64 mode, .int .i64 size] w fun e w' => e = .returned (.tuple #[.agg #[.bool (SS.new m mode size).1.rd, .bool (SS.new m mode size).1.wt, .int .i64 (SS.new m mode size).1.mode, .int .i64 (SS.new m mode size).1.size, .slice none 0 0, .slice none 0 0, .slice none 0 0, .int .i64 (SS.new m mode size).1.dir, .bool (SS.new m mode size).1.fin, .bool (SS.new m mode size).1.bad, .bool (SS.new m mode size).1.closed], .int .i64 (SS.new m mode size).2]) ∧ Below w.heap.size w w' := by
  have HC := hide (ocheck_any m)
  generalize hq : SS.new m mode size = q
  obtain ⟨qx, qe⟩ := q
  unfold SS.new at hq
  generalize chkM m = ck at *
  unfold mv at *
  by_cases h0 : ck = 0
  · subst h0
    rw [if_pos rfl] at hq
    by_cases h1 : 1 ≤ mode ∧ mode ≤ 3
    · rw [if_pos h1] at hq
      have HI : Hid ((decide (1 ≤ mode) && decide (mode ≤ 3)) = true) := hide (by rw [decide_eq_true h1.1, decide_eq_true h1.2]; rfl)
      by_cases h2 : 1 ≤ size ∧ size ≤ 65536
      · rw [if_pos h2] at hq
        have HJ : Hid ((decide (1 ≤ size) && decide (size ≤ 65536)) = true) := hide (by rw [decide_eq_true h2.1, decide_eq_true h2.2]; rfl)
        obtain ⟨rfl, rfl⟩ : (⟨m.rd, m.wr, mode, size, [], [], [], 0, false, false, false⟩ : SS) = qx ∧ 0 = qe := by simpa using hq
        clear hq h1 h2
        go_enter Tryz.func26, Tryz.ntmps26
        go_wp2_with fail
        have HB0 := hide ((recv_below w (Obj.cells #[.bool m.rd, .bool m.wr, .bool m.ap, .bool m.cr, .bool m.tr, .bool m.ex, .bool m.bi, .bool m.ma] 69)).trans ((recv_below (w.alloc (Obj.cells #[.bool m.rd, .bool m.wr, .bool m.ap, .bool m.cr, .bool m.tr, .bool m.ex, .bool m.bi, .bool m.ma] 69)) (Obj.cells #[.bool false, .bool false, .int .i64 0, .int .i64 0, .slice none 0 0, .slice none 0 0, .slice none 0 0, .int .i64 0, .bool false, .bool false, .bool false] 58)).mono (recv_below w (Obj.cells #[.bool m.rd, .bool m.wr, .bool m.ap, .bool m.cr, .bool m.tr, .bool m.ex, .bool m.bi, .bool m.ma] 69)).size))
        have HM0 : Hid (((w.alloc (Obj.cells #[.bool m.rd, .bool m.wr, .bool m.ap, .bool m.cr, .bool m.tr, .bool m.ex, .bool m.bi, .bool m.ma] 69)).alloc (Obj.cells #[.bool false, .bool false, .int .i64 0, .int .i64 0, .slice none 0 0, .slice none 0 0, .slice none 0 0, .int .i64 0, .bool false, .bool false, .bool false] 58)).heap[w.heap.size]? = some (Obj.cells #[.bool m.rd, .bool m.wr, .bool m.ap, .bool m.cr, .bool m.tr, .bool m.ex, .bool m.bi, .bool m.ma] 69)) := hide (((recv_below (w.alloc (Obj.cells #[.bool m.rd, .bool m.wr, .bool m.ap, .bool m.cr, .bool m.tr, .bool m.ex, .bool m.bi, .bool m.ma] 69)) (Obj.cells #[.bool false, .bool false, .int .i64 0, .int .i64 0, .slice none 0 0, .slice none 0 0, .slice none 0 0, .int .i64 0, .bool false, .bool false, .bool false] 58)).block w.heap.size (by simp)).trans (heap_alloc_new w (Obj.cells #[.bool m.rd, .bool m.wr, .bool m.ap, .bool m.cr, .bool m.tr, .bool m.ex, .bool m.bi, .bool m.ma] 69)))
        have HZ0 : Hid (((w.alloc (Obj.cells #[.bool m.rd, .bool m.wr, .bool m.ap, .bool m.cr, .bool m.tr, .bool m.ex, .bool m.bi, .bool m.ma] 69)).alloc (Obj.cells #[.bool false, .bool false, .int .i64 0, .int .i64 0, .slice none 0 0, .slice none 0 0, .slice none 0 0, .int .i64 0, .bool false, .bool false, .bool false] 58)).heap[w.heap.size + 1]? = some (Obj.cells #[.bool false, .bool false, .int .i64 0, .int .i64 0, .slice none 0 0, .slice none 0 0, .slice none 0 0, .int .i64 0, .bool false, .bool false, .bool false] 58)) := hide (by have := heap_alloc_new (w.alloc (Obj.cells #[.bool m.rd, .bool m.wr, .bool m.ap, .bool m.cr, .bool m.tr, .bool m.ex, .bool m.bi, .bool m.ma] 69)) (Obj.cells #[.bool false, .bool false, .int .i64 0, .int .i64 0, .slice none 0 0, .slice none 0 0, .slice none 0 0, .int .i64 0, .bool false, .bool false, .bool false] 58); rw [show (w.alloc (Obj.cells #[.bool m.rd, .bool m.wr, .bool m.ap, .bool m.cr, .bool m.tr, .bool m.ex, .bool m.bi, .bool m.ma] 69)).heap.size = w.heap.size + 1 from Array.size_push ..] at this; exact this)
        generalize (w.alloc (Obj.cells #[.bool m.rd, .bool m.wr, .bool m.ap, .bool m.cr, .bool m.tr, .bool m.ex, .bool m.bi, .bool m.ma] 69)).alloc (Obj.cells #[.bool false, .bool false, .int .i64 0, .int .i64 0, .slice none 0 0, .slice none 0 0, .slice none 0 0, .int .i64 0, .bool false, .bool false, .bool false] 58) = w0 at *
        have hz0 : w.heap.size + 1 < w0.heap.size := (Array.getElem?_eq_some_iff.1 HZ0.out).1
        refine (HC.out w0).mono ?_
        rintro _ w1 ⟨rfl, hB1⟩
        have HZ1 := hide ((hB1.block (w.heap.size + 1) hz0).trans HZ0.out)
        have HM1 := hide ((hB1.block w.heap.size (by omega)).trans HM0.out)
        have p0 := cell_of_row w1 w.heap.size 0 _ _ _ HM1.out
        have p1 := cell_of_row w1 w.heap.size 1 _ _ _ HM1.out
        have z0 := cell_of_row w1 (w.heap.size + 1) 0 _ _ _ HZ1.out
        have z1 := cell_of_row w1 (w.heap.size + 1) 1 _ _ _ HZ1.out
        have z2 := cell_of_row w1 (w.heap.size + 1) 2 _ _ _ HZ1.out
        have z3 := cell_of_row w1 (w.heap.size + 1) 3 _ _ _ HZ1.out
        have z4 := cell_of_row w1 (w.heap.size + 1) 4 _ _ _ HZ1.out
        have z5 := cell_of_row w1 (w.heap.size + 1) 5 _ _ _ HZ1.out
        have z6 := cell_of_row w1 (w.heap.size + 1) 6 _ _ _ HZ1.out
        have z7 := cell_of_row w1 (w.heap.size + 1) 7 _ _ _ HZ1.out
        have z8 := cell_of_row w1 (w.heap.size + 1) 8 _ _ _ HZ1.out
        have z9 := cell_of_row w1 (w.heap.size + 1) 9 _ _ _ HZ1.out
        have z10 := cell_of_row w1 (w.heap.size + 1) 10 _ _ _ HZ1.out
        have u0 := frozen_of_row w1 (w.heap.size + 1) 0 _ _ HZ1.out
        have u1 := frozen_of_row w1 (w.heap.size + 1) 1 _ _ HZ1.out
        have u2 := frozen_of_row w1 (w.heap.size + 1) 2 _ _ HZ1.out
        have u3 := frozen_of_row w1 (w.heap.size + 1) 3 _ _ HZ1.out
        have u4 := frozen_of_row w1 (w.heap.size + 1) 4 _ _ HZ1.out
        have u5 := frozen_of_row w1 (w.heap.size + 1) 5 _ _ HZ1.out
        have u6 := frozen_of_row w1 (w.heap.size + 1) 6 _ _ HZ1.out
        have u7 := frozen_of_row w1 (w.heap.size + 1) 7 _ _ HZ1.out
        have u8 := frozen_of_row w1 (w.heap.size + 1) 8 _ _ HZ1.out
        have u9 := frozen_of_row w1 (w.heap.size + 1) 9 _ _ HZ1.out
        have u10 := frozen_of_row w1 (w.heap.size + 1) 10 _ _ HZ1.out
        simp at p0 p1 z0 z1 z2 z3 z4 z5 z6 z7 z8 z9 z10
        have HB1 := hide (HB0.out.trans (hB1.mono HB0.out.size))
        clear hB1
        go_wp2_with (first | (go_at_call 105; refine (isMode_any _ _).mono ?_; rintro _ _ ⟨rfl, rfl⟩; rw [HI.out]) | (go_at_call 106; refine (isSize_any _ _).mono ?_; rintro _ _ ⟨rfl, rfl⟩; rw [HJ.out]) | fail)
        obtain ⟨e1, e2⟩ := st_fill w1 (w.heap.size + 1) (⟨m.rd, m.wr, mode, size, [], [], [], 0, false, false, false⟩ : SS) (.slice none 0 0) (.slice none 0 0) (.slice none 0 0) HZ1.out
        refine bodyPost_ret (res_two rfl _ (w.heap.size + 1) rfl (⟨m.rd, m.wr, mode, size, [], [], [], 0, false, false, false⟩ : SS) _ _ _ e1) rfl ?_
        exact ⟨rfl, HB1.out.trans (e2.below (fun k e => by omega) HB1.out.size)⟩
      · rw [if_neg h2] at hq
        have HJ : Hid ((decide (1 ≤ size) && decide (size ≤ 65536)) = false) := hide (by
          by_cases h3 : 1 ≤ size
          · rw [decide_eq_false (p := size ≤ 65536) (fun e => h2 ⟨h3, e⟩), Bool.and_false]
          · rw [decide_eq_false h3]; rfl)
        obtain ⟨rfl, rfl⟩ : ss0 = qx ∧ 4 = qe := by simpa using hq
        clear hq h1 h2
        go_enter Tryz.func26, Tryz.ntmps26
        go_wp2_with fail
        have HB0 := hide ((recv_below w (Obj.cells #[.bool m.rd, .bool m.wr, .bool m.ap, .bool m.cr, .bool m.tr, .bool m.ex, .bool m.bi, .bool m.ma] 69)).trans ((recv_below (w.alloc (Obj.cells #[.bool m.rd, .bool m.wr, .bool m.ap, .bool m.cr, .bool m.tr, .bool m.ex, .bool m.bi, .bool m.ma] 69)) (Obj.cells #[.bool false, .bool false, .int .i64 0, .int .i64 0, .slice none 0 0, .slice none 0 0, .slice none 0 0, .int .i64 0, .bool false, .bool false, .bool false] 58)).mono (recv_below w (Obj.cells #[.bool m.rd, .bool m.wr, .bool m.ap, .bool m.cr, .bool m.tr, .bool m.ex, .bool m.bi, .bool m.ma] 69)).size))
        have HM0 : Hid (((w.alloc (Obj.cells #[.bool m.rd, .bool m.wr, .bool m.ap, .bool m.cr, .bool m.tr, .bool m.ex, .bool m.bi, .bool m.ma] 69)).alloc (Obj.cells #[.bool false, .bool false, .int .i64 0, .int .i64 0, .slice none 0 0, .slice none 0 0, .slice none 0 0, .int .i64 0, .bool false, .bool false, .bool false] 58)).heap[w.heap.size]? = some (Obj.cells #[.bool m.rd, .bool m.wr, .bool m.ap, .bool m.cr, .bool m.tr, .bool m.ex, .bool m.bi, .bool m.ma] 69)) := hide (((recv_below (w.alloc (Obj.cells #[.bool m.rd, .bool m.wr, .bool m.ap, .bool m.cr, .bool m.tr, .bool m.ex, .bool m.bi, .bool m.ma] 69)) (Obj.cells #[.bool false, .bool false, .int .i64 0, .int .i64 0, .slice none 0 0, .slice none 0 0, .slice none 0 0, .int .i64 0, .bool false, .bool false, .bool false] 58)).block w.heap.size (by simp)).trans (heap_alloc_new w (Obj.cells #[.bool m.rd, .bool m.wr, .bool m.ap, .bool m.cr, .bool m.tr, .bool m.ex, .bool m.bi, .bool m.ma] 69)))
        have HZ0 : Hid (((w.alloc (Obj.cells #[.bool m.rd, .bool m.wr, .bool m.ap, .bool m.cr, .bool m.tr, .bool m.ex, .bool m.bi, .bool m.ma] 69)).alloc (Obj.cells #[.bool false, .bool false, .int .i64 0, .int .i64 0, .slice none 0 0, .slice none 0 0, .slice none 0 0, .int .i64 0, .bool false, .bool false, .bool false] 58)).heap[w.heap.size + 1]? = some (Obj.cells #[.bool false, .bool false, .int .i64 0, .int .i64 0, .slice none 0 0, .slice none 0 0, .slice none 0 0, .int .i64 0, .bool false, .bool false, .bool false] 58)) := hide (by have := heap_alloc_new (w.alloc (Obj.cells #[.bool m.rd, .bool m.wr, .bool m.ap, .bool m.cr, .bool m.tr, .bool m.ex, .bool m.bi, .bool m.ma] 69)) (Obj.cells #[.bool false, .bool false, .int .i64 0, .int .i64 0, .slice none 0 0, .slice none 0 0, .slice none 0 0, .int .i64 0, .bool false, .bool false, .bool false] 58); rw [show (w.alloc (Obj.cells #[.bool m.rd, .bool m.wr, .bool m.ap, .bool m.cr, .bool m.tr, .bool m.ex, .bool m.bi, .bool m.ma] 69)).heap.size = w.heap.size + 1 from Array.size_push ..] at this; exact this)
        generalize (w.alloc (Obj.cells #[.bool m.rd, .bool m.wr, .bool m.ap, .bool m.cr, .bool m.tr, .bool m.ex, .bool m.bi, .bool m.ma] 69)).alloc (Obj.cells #[.bool false, .bool false, .int .i64 0, .int .i64 0, .slice none 0 0, .slice none 0 0, .slice none 0 0, .int .i64 0, .bool false, .bool false, .bool false] 58) = w0 at *
        have hz0 : w.heap.size + 1 < w0.heap.size := (Array.getElem?_eq_some_iff.1 HZ0.out).1
        refine (HC.out w0).mono ?_
        rintro _ w1 ⟨rfl, hB1⟩
        have HZ1 := hide ((hB1.block (w.heap.size + 1) hz0).trans HZ0.out)
        have HM1 := hide ((hB1.block w.heap.size (by omega)).trans HM0.out)
        have p0 := cell_of_row w1 w.heap.size 0 _ _ _ HM1.out
        have p1 := cell_of_row w1 w.heap.size 1 _ _ _ HM1.out
        have z0 := cell_of_row w1 (w.heap.size + 1) 0 _ _ _ HZ1.out
        have z1 := cell_of_row w1 (w.heap.size + 1) 1 _ _ _ HZ1.out
        have z2 := cell_of_row w1 (w.heap.size + 1) 2 _ _ _ HZ1.out
        have z3 := cell_of_row w1 (w.heap.size + 1) 3 _ _ _ HZ1.out
        have z4 := cell_of_row w1 (w.heap.size + 1) 4 _ _ _ HZ1.out
        have z5 := cell_of_row w1 (w.heap.size + 1) 5 _ _ _ HZ1.out
        have z6 := cell_of_row w1 (w.heap.size + 1) 6 _ _ _ HZ1.out
        have z7 := cell_of_row w1 (w.heap.size + 1) 7 _ _ _ HZ1.out
        have z8 := cell_of_row w1 (w.heap.size + 1) 8 _ _ _ HZ1.out
        have z9 := cell_of_row w1 (w.heap.size + 1) 9 _ _ _ HZ1.out
        have z10 := cell_of_row w1 (w.heap.size + 1) 10 _ _ _ HZ1.out
        have u0 := frozen_of_row w1 (w.heap.size + 1) 0 _ _ HZ1.out
        have u1 := frozen_of_row w1 (w.heap.size + 1) 1 _ _ HZ1.out
        have u2 := frozen_of_row w1 (w.heap.size + 1) 2 _ _ HZ1.out
        have u3 := frozen_of_row w1 (w.heap.size + 1) 3 _ _ HZ1.out
        have u4 := frozen_of_row w1 (w.heap.size + 1) 4 _ _ HZ1.out
        have u5 := frozen_of_row w1 (w.heap.size + 1) 5 _ _ HZ1.out
        have u6 := frozen_of_row w1 (w.heap.size + 1) 6 _ _ HZ1.out
        have u7 := frozen_of_row w1 (w.heap.size + 1) 7 _ _ HZ1.out
        have u8 := frozen_of_row w1 (w.heap.size + 1) 8 _ _ HZ1.out
        have u9 := frozen_of_row w1 (w.heap.size + 1) 9 _ _ HZ1.out
        have u10 := frozen_of_row w1 (w.heap.size + 1) 10 _ _ HZ1.out
        simp at p0 p1 z0 z1 z2 z3 z4 z5 z6 z7 z8 z9 z10
        have HB1 := hide (HB0.out.trans (hB1.mono HB0.out.size))
        clear hB1
        go_wp2_with (first | (go_at_call 105; refine (isMode_any _ _).mono ?_; rintro _ _ ⟨rfl, rfl⟩; rw [HI.out]) | (go_at_call 106; refine (isSize_any _ _).mono ?_; rintro _ _ ⟨rfl, rfl⟩; rw [HJ.out]) | fail)
        obtain ⟨e1, e2⟩ := st_fill w1 (w.heap.size + 1) ss0 (.slice none 0 0) (.slice none 0 0) (.slice none 0 0) HZ1.out
        refine bodyPost_ret (res_two rfl _ (w.heap.size + 1) rfl ss0 _ _ _ e1) rfl ?_
        exact ⟨rfl, HB1.out.trans (e2.below (fun k e => by omega) HB1.out.size)⟩
    · rw [if_neg h1] at hq
      have HI : Hid ((decide (1 ≤ mode) && decide (mode ≤ 3)) = false) := hide (by
        by_cases h3 : 1 ≤ mode
        · rw [decide_eq_false (p := mode ≤ 3) (fun e => h1 ⟨h3, e⟩), Bool.and_false]
        · rw [decide_eq_false h3]; rfl)
      obtain ⟨rfl, rfl⟩ : ss0 = qx ∧ 1 = qe := by simpa using hq
      clear hq h1
      go_enter Tryz.func26, Tryz.ntmps26
      go_wp2_with fail
      have HB0 := hide ((recv_below w (Obj.cells #[.bool m.rd, .bool m.wr, .bool m.ap, .bool m.cr, .bool m.tr, .bool m.ex, .bool m.bi, .bool m.ma] 69)).trans ((recv_below (w.alloc (Obj.cells #[.bool m.rd, .bool m.wr, .bool m.ap, .bool m.cr, .bool m.tr, .bool m.ex, .bool m.bi, .bool m.ma] 69)) (Obj.cells #[.bool false, .bool false, .int .i64 0, .int .i64 0, .slice none 0 0, .slice none 0 0, .slice none 0 0, .int .i64 0, .bool false, .bool false, .bool false] 58)).mono (recv_below w (Obj.cells #[.bool m.rd, .bool m.wr, .bool m.ap, .bool m.cr, .bool m.tr, .bool m.ex, .bool m.bi, .bool m.ma] 69)).size))
      have HM0 : Hid (((w.alloc (Obj.cells #[.bool m.rd, .bool m.wr, .bool m.ap, .bool m.cr, .bool m.tr, .bool m.ex, .bool m.bi, .bool m.ma] 69)).alloc (Obj.cells #[.bool false, .bool false, .int .i64 0, .int .i64 0, .slice none 0 0, .slice none 0 0, .slice none 0 0, .int .i64 0, .bool false, .bool false, .bool false] 58)).heap[w.heap.size]? = some (Obj.cells #[.bool m.rd, .bool m.wr, .bool m.ap, .bool m.cr, .bool m.tr, .bool m.ex, .bool m.bi, .bool m.ma] 69)) := hide (((recv_below (w.alloc (Obj.cells #[.bool m.rd, .bool m.wr, .bool m.ap, .bool m.cr, .bool m.tr, .bool m.ex, .bool m.bi, .bool m.ma] 69)) (Obj.cells #[.bool false, .bool false, .int .i64 0, .int .i64 0, .slice none 0 0, .slice none 0 0, .slice none 0 0, .int .i64 0, .bool false, .bool false, .bool false] 58)).block w.heap.size (by simp)).trans (heap_alloc_new w (Obj.cells #[.bool m.rd, .bool m.wr, .bool m.ap, .bool m.cr, .bool m.tr, .bool m.ex, .bool m.bi, .bool m.ma] 69)))
      have HZ0 : Hid (((w.alloc (Obj.cells #[.bool m.rd, .bool m.wr, .bool m.ap, .bool m.cr, .bool m.tr, .bool m.ex, .bool m.bi, .bool m.ma] 69)).alloc (Obj.cells #[.bool false, .bool false, .int .i64 0, .int .i64 0, .slice none 0 0, .slice none 0 0, .slice none 0 0, .int .i64 0, .bool false, .bool false, .bool false] 58)).heap[w.heap.size + 1]? = some (Obj.cells #[.bool false, .bool false, .int .i64 0, .int .i64 0, .slice none 0 0, .slice none 0 0, .slice none 0 0, .int .i64 0, .bool false, .bool false, .bool false] 58)) := hide (by have := heap_alloc_new (w.alloc (Obj.cells #[.bool m.rd, .bool m.wr, .bool m.ap, .bool m.cr, .bool m.tr, .bool m.ex, .bool m.bi, .bool m.ma] 69)) (Obj.cells #[.bool false, .bool false, .int .i64 0, .int .i64 0, .slice none 0 0, .slice none 0 0, .slice none 0 0, .int .i64 0, .bool false, .bool false, .bool false] 58); rw [show (w.alloc (Obj.cells #[.bool m.rd, .bool m.wr, .bool m.ap, .bool m.cr, .bool m.tr, .bool m.ex, .bool m.bi, .bool m.ma] 69)).heap.size = w.heap.size + 1 from Array.size_push ..] at this; exact this)
      generalize (w.alloc (Obj.cells #[.bool m.rd, .bool m.wr, .bool m.ap, .bool m.cr, .bool m.tr, .bool m.ex, .bool m.bi, .bool m.ma] 69)).alloc (Obj.cells #[.bool false, .bool false, .int .i64 0, .int .i64 0, .slice none 0 0, .slice none 0 0, .slice none 0 0, .int .i64 0, .bool false, .bool false, .bool false] 58) = w0 at *
      have hz0 : w.heap.size + 1 < w0.heap.size := (Array.getElem?_eq_some_iff.1 HZ0.out).1
      refine (HC.out w0).mono ?_
      rintro _ w1 ⟨rfl, hB1⟩
      have HZ1 := hide ((hB1.block (w.heap.size + 1) hz0).trans HZ0.out)
      have HM1 := hide ((hB1.block w.heap.size (by omega)).trans HM0.out)
      have p0 := cell_of_row w1 w.heap.size 0 _ _ _ HM1.out
      have p1 := cell_of_row w1 w.heap.size 1 _ _ _ HM1.out
      have z0 := cell_of_row w1 (w.heap.size + 1) 0 _ _ _ HZ1.out
      have z1 := cell_of_row w1 (w.heap.size + 1) 1 _ _ _ HZ1.out
      have z2 := cell_of_row w1 (w.heap.size + 1) 2 _ _ _ HZ1.out
      have z3 := cell_of_row w1 (w.heap.size + 1) 3 _ _ _ HZ1.out
      have z4 := cell_of_row w1 (w.heap.size + 1) 4 _ _ _ HZ1.out
      have z5 := cell_of_row w1 (w.heap.size + 1) 5 _ _ _ HZ1.out
      have z6 := cell_of_row w1 (w.heap.size + 1) 6 _ _ _ HZ1.out
      have z7 := cell_of_row w1 (w.heap.size + 1) 7 _ _ _ HZ1.out
      have z8 := cell_of_row w1 (w.heap.size + 1) 8 _ _ _ HZ1.out
      have z9 := cell_of_row w1 (w.heap.size + 1) 9 _ _ _ HZ1.out
      have z10 := cell_of_row w1 (w.heap.size + 1) 10 _ _ _ HZ1.out
      have u0 := frozen_of_row w1 (w.heap.size + 1) 0 _ _ HZ1.out
      have u1 := frozen_of_row w1 (w.heap.size + 1) 1 _ _ HZ1.out
      have u2 := frozen_of_row w1 (w.heap.size + 1) 2 _ _ HZ1.out
      have u3 := frozen_of_row w1 (w.heap.size + 1) 3 _ _ HZ1.out
      have u4 := frozen_of_row w1 (w.heap.size + 1) 4 _ _ HZ1.out
      have u5 := frozen_of_row w1 (w.heap.size + 1) 5 _ _ HZ1.out
      have u6 := frozen_of_row w1 (w.heap.size + 1) 6 _ _ HZ1.out
      have u7 := frozen_of_row w1 (w.heap.size + 1) 7 _ _ HZ1.out
      have u8 := frozen_of_row w1 (w.heap.size + 1) 8 _ _ HZ1.out
      have u9 := frozen_of_row w1 (w.heap.size + 1) 9 _ _ HZ1.out
      have u10 := frozen_of_row w1 (w.heap.size + 1) 10 _ _ HZ1.out
      simp at p0 p1 z0 z1 z2 z3 z4 z5 z6 z7 z8 z9 z10
      have HB1 := hide (HB0.out.trans (hB1.mono HB0.out.size))
      clear hB1
      go_wp2_with (first | (go_at_call 105; refine (isMode_any _ _).mono ?_; rintro _ _ ⟨rfl, rfl⟩; rw [HI.out]) | fail)
      obtain ⟨e1, e2⟩ := st_fill w1 (w.heap.size + 1) ss0 (.slice none 0 0) (.slice none 0 0) (.slice none 0 0) HZ1.out
      refine bodyPost_ret (res_two rfl _ (w.heap.size + 1) rfl ss0 _ _ _ e1) rfl ?_
      exact ⟨rfl, HB1.out.trans (e2.below (fun k e => by omega) HB1.out.size)⟩
  · rw [if_neg h0] at hq
    obtain ⟨rfl, rfl⟩ : ss0 = qx ∧ ck = qe := by simpa using hq
    have h1 : (ck != 0) = true := by simp [h0]
    clear hq
    go_enter Tryz.func26, Tryz.ntmps26
    go_wp2_with fail
    have HB0 := hide ((recv_below w (Obj.cells #[.bool m.rd, .bool m.wr, .bool m.ap, .bool m.cr, .bool m.tr, .bool m.ex, .bool m.bi, .bool m.ma] 69)).trans ((recv_below (w.alloc (Obj.cells #[.bool m.rd, .bool m.wr, .bool m.ap, .bool m.cr, .bool m.tr, .bool m.ex, .bool m.bi, .bool m.ma] 69)) (Obj.cells #[.bool false, .bool false, .int .i64 0, .int .i64 0, .slice none 0 0, .slice none 0 0, .slice none 0 0, .int .i64 0, .bool false, .bool false, .bool false] 58)).mono (recv_below w (Obj.cells #[.bool m.rd, .bool m.wr, .bool m.ap, .bool m.cr, .bool m.tr, .bool m.ex, .bool m.bi, .bool m.ma] 69)).size))
    have HM0 : Hid (((w.alloc (Obj.cells #[.bool m.rd, .bool m.wr, .bool m.ap, .bool m.cr, .bool m.tr, .bool m.ex, .bool m.bi, .bool m.ma] 69)).alloc (Obj.cells #[.bool false, .bool false, .int .i64 0, .int .i64 0, .slice none 0 0, .slice none 0 0, .slice none 0 0, .int .i64 0, .bool false, .bool false, .bool false] 58)).heap[w.heap.size]? = some (Obj.cells #[.bool m.rd, .bool m.wr, .bool m.ap, .bool m.cr, .bool m.tr, .bool m.ex, .bool m.bi, .bool m.ma] 69)) := hide (((recv_below (w.alloc (Obj.cells #[.bool m.rd, .bool m.wr, .bool m.ap, .bool m.cr, .bool m.tr, .bool m.ex, .bool m.bi, .bool m.ma] 69)) (Obj.cells #[.bool false, .bool false, .int .i64 0, .int .i64 0, .slice none 0 0, .slice none 0 0, .slice none 0 0, .int .i64 0, .bool false, .bool false, .bool false] 58)).block w.heap.size (by simp)).trans (heap_alloc_new w (Obj.cells #[.bool m.rd, .bool m.wr, .bool m.ap, .bool m.cr, .bool m.tr, .bool m.ex, .bool m.bi, .bool m.ma] 69)))
    have HZ0 : Hid (((w.alloc (Obj.cells #[.bool m.rd, .bool m.wr, .bool m.ap, .bool m.cr, .bool m.tr, .bool m.ex, .bool m.bi, .bool m.ma] 69)).alloc (Obj.cells #[.bool false, .bool false, .int .i64 0, .int .i64 0, .slice none 0 0, .slice none 0 0, .slice none 0 0, .int .i64 0, .bool false, .bool false, .bool false] 58)).heap[w.heap.size + 1]? = some (Obj.cells #[.bool false, .bool false, .int .i64 0, .int .i64 0, .slice none 0 0, .slice none 0 0, .slice none 0 0, .int .i64 0, .bool false, .bool false, .bool false] 58)) := hide (by have := heap_alloc_new (w.alloc (Obj.cells #[.bool m.rd, .bool m.wr, .bool m.ap, .bool m.cr, .bool m.tr, .bool m.ex, .bool m.bi, .bool m.ma] 69)) (Obj.cells #[.bool false, .bool false, .int .i64 0, .int .i64 0, .slice none 0 0, .slice none 0 0, .slice none 0 0, .int .i64 0, .bool false, .bool false, .bool false] 58); rw [show (w.alloc (Obj.cells #[.bool m.rd, .bool m.wr, .bool m.ap, .bool m.cr, .bool m.tr, .bool m.ex, .bool m.bi, .bool m.ma] 69)).heap.size = w.heap.size + 1 from Array.size_push ..] at this; exact this)
    generalize (w.alloc (Obj.cells #[.bool m.rd, .bool m.wr, .bool m.ap, .bool m.cr, .bool m.tr, .bool m.ex, .bool m.bi, .bool m.ma] 69)).alloc (Obj.cells #[.bool false, .bool false, .int .i64 0, .int .i64 0, .slice none 0 0, .slice none 0 0, .slice none 0 0, .int .i64 0, .bool false, .bool false, .bool false] 58) = w0 at *
    have hz0 : w.heap.size + 1 < w0.heap.size := (Array.getElem?_eq_some_iff.1 HZ0.out).1
    refine (HC.out w0).mono ?_
    rintro _ w1 ⟨rfl, hB1⟩
    have HZ1 := hide ((hB1.block (w.heap.size + 1) hz0).trans HZ0.out)
    have HM1 := hide ((hB1.block w.heap.size (by omega)).trans HM0.out)
    have p0 := cell_of_row w1 w.heap.size 0 _ _ _ HM1.out
    have p1 := cell_of_row w1 w.heap.size 1 _ _ _ HM1.out
    have z0 := cell_of_row w1 (w.heap.size + 1) 0 _ _ _ HZ1.out
    have z1 := cell_of_row w1 (w.heap.size + 1) 1 _ _ _ HZ1.out
    have z2 := cell_of_row w1 (w.heap.size + 1) 2 _ _ _ HZ1.out
    have z3 := cell_of_row w1 (w.heap.size + 1) 3 _ _ _ HZ1.out
    have z4 := cell_of_row w1 (w.heap.size + 1) 4 _ _ _ HZ1.out
    have z5 := cell_of_row w1 (w.heap.size + 1) 5 _ _ _ HZ1.out
    have z6 := cell_of_row w1 (w.heap.size + 1) 6 _ _ _ HZ1.out
    have z7 := cell_of_row w1 (w.heap.size + 1) 7 _ _ _ HZ1.out
    have z8 := cell_of_row w1 (w.heap.size + 1) 8 _ _ _ HZ1.out
    have z9 := cell_of_row w1 (w.heap.size + 1) 9 _ _ _ HZ1.out
    have z10 := cell_of_row w1 (w.heap.size + 1) 10 _ _ _ HZ1.out
    have u0 := frozen_of_row w1 (w.heap.size + 1) 0 _ _ HZ1.out
    have u1 := frozen_of_row w1 (w.heap.size + 1) 1 _ _ HZ1.out
    have u2 := frozen_of_row w1 (w.heap.size + 1) 2 _ _ HZ1.out
    have u3 := frozen_of_row w1 (w.heap.size + 1) 3 _ _ HZ1.out
    have u4 := frozen_of_row w1 (w.heap.size + 1) 4 _ _ HZ1.out
    have u5 := frozen_of_row w1 (w.heap.size + 1) 5 _ _ HZ1.out
    have u6 := frozen_of_row w1 (w.heap.size + 1) 6 _ _ HZ1.out
    have u7 := frozen_of_row w1 (w.heap.size + 1) 7 _ _ HZ1.out
    have u8 := frozen_of_row w1 (w.heap.size + 1) 8 _ _ HZ1.out
    have u9 := frozen_of_row w1 (w.heap.size + 1) 9 _ _ HZ1.out
    have u10 := frozen_of_row w1 (w.heap.size + 1) 10 _ _ HZ1.out
    simp at p0 p1 z0 z1 z2 z3 z4 z5 z6 z7 z8 z9 z10
    have HB1 := hide (HB0.out.trans (hB1.mono HB0.out.size))
    clear hB1
    go_wp2
    obtain ⟨e1, e2⟩ := st_fill w1 (w.heap.size + 1) ss0 (.slice none 0 0) (.slice none 0 0) (.slice none 0 0) HZ1.out
    refine bodyPost_ret (res_two rfl _ (w.heap.size + 1) rfl ss0 _ _ _ e1) rfl ?_
    exact ⟨rfl, HB1.out.trans (e2.below (fun k e => by omega) HB1.out.size)⟩
end Go.Proofs.YtkkommomefmpgaaGreat

/- Position over memory that grows: values. -/
namespace Go.Proofs.YtkkommomefmpgaaGreat
open Go.RowKit

theorem bearsS_true {S : Type} (K : SkV S) : BearsS K (fun _ => True) (fun _ _ => True) := fun _ _ _ _ _ => ⟨trivial, trivial⟩
theorem gro_seek (g : Nat) : RawS MS.seek 77 (.pointer (some ⟨g, 0, none⟩)) 285 (fun _ => True) (fun w O S => MemAt w O g S) where
  mseek w := by kernel_rfl
  cseek a w := by kernel_rfl
  seek o wh h _ _ := gmseek_any _ g _ o wh _ h
  told {w O s} o wh h := by
    have hk := h.ok
    unfold MS.seek
    split
    · exact ⟨Int.le_refl _, by simp only; omega⟩
    split
    · exact ⟨Int.le_refl _, by simp only; omega⟩
    · simp only
      omega
def moRW : Mo := ⟨true, true, false, false, false, false, false, false⟩
theorem chk_moRW : chkM moRW = 0 := by decide
def xRW (mode size : Int) : SS := ⟨true, true, mode, size, [], [], [], 0, false, false, false⟩
theorem new_RW (mode size : Int) : SS.new moRW mode size = if 1 ≤ mode ∧ mode ≤ 3 then (if 1 ≤ size ∧ size ≤ 65536 then (xRW mode size, 0) else (ss0, 4)) else (ss0, 1) := by
  unfold SS.new
  rw [if_pos chk_moRW]
  rfl
end Go.Proofs.YtkkommomefmpgaaGreat

/- Position: the law's num, alive. -/
namespace Go.Proofs.YtkkommomefmpgaaGreat
open Go.RowKit

theorem num14 (e : Int) (w : World) : Calls Tryz.prog 27 #[.int .i64 e] w fun r w' => r = .returned (.int .i64 e) ∧ w = w' := by
  go_enter Tryz.func27, Tryz.ntmps27
  go_wp2
  go_ret
  exact ⟨rfl, rfl⟩
theorem lit_bys14 (w : World) (l : List UInt8) (cs : Array Value) (n : Nat) (fr : Nat × Nat) (hn : n = l.length) (hcs : cs.toList = l.map bv) : Bys (w.alloc (Obj.cells cs 5 fr)) (.slice (some ⟨w.heap.size, 0, none⟩) n n) l := by
  subst hn
  by_cases h0 : l.length = 0
  · exact .inr (.inl ⟨_, _, by rw [h0], List.length_eq_zero_iff.1 h0⟩)
  · refine .inr (.inr ⟨w.heap.size, 0, l.length, rfl, by omega, fun j hj => ?_⟩)
    rw [cell_of_row _ w.heap.size _ cs _ fr (heap_alloc_new w _)]
    have h1 : cs.toList[0 + j]? = (l.map bv)[j]? := by rw [hcs, Nat.zero_add]
    rw [Array.getElem?_toList] at h1
    rw [h1]
    simp [List.getD_eq_getElem?_getD, List.getElem?_eq_getElem hj, bv]
theorem conv_lit14 (w : World) (C : Array Value) (n m : Nat) (hm : C.size = m) : (convert 40 40 (.slice (some ⟨w.heap.size, 0, none⟩) n n)).run Tryz.prog (w.alloc (.cells C 5)) = .ok (.slice (some ⟨w.heap.size, 0, none⟩) n n) (w.alloc (.cells C 5 (m, m + 1))) := by
  subst hm
  exact Lib.run_convert_bytes_const w 40 5 C n n Tryz.underlying40 Tryz.underlying5
def hel : List UInt8 := [104, 101, 108, 108, 111]
def qA : SS := ⟨true, true, 3, 4, [], [101, 108, 108], [], 1, false, false, false⟩
def qB : SS := ⟨true, true, 3, 4, [], [], [], 0, false, false, false⟩
def qC : SS := ⟨true, true, 3, 4, [], [108, 111], [], 1, false, false, false⟩
theorem q_a : (xRW 3 4).get msR ⟨hel, 1048576, 0⟩ = (qA, 104, 0, ⟨hel, 1048576, 4⟩) := by kernel_rfl
theorem q_b : qA.tell msR MS.seek ⟨hel, 1048576, 4⟩ = (qA, 1, 0, ⟨hel, 1048576, 4⟩) := by kernel_rfl
theorem q_c : qA.seek msR MS.seek ⟨hel, 1048576, 4⟩ 1 1 = (qB, 2, 0, ⟨hel, 1048576, 2⟩) := by kernel_rfl
theorem q_d : qB.get msR ⟨hel, 1048576, 2⟩ = (qC, 108, 0, ⟨hel, 1048576, 5⟩) := by kernel_rfl
set_option maxRecDepth 100000 in
set_option maxHeartbeats 8000000 in
theorem alive14 (w : World) : Calls Tryz.prog 25 #[] w fun e w' => e = .returned (.bool true) ∧ Below w.heap.size w w' := by
  have cl := conv_lit14 w #[.int .u8 104, .int .u8 101, .int .u8 108, .int .u8 108, .int .u8 111] 5 5 rfl
  have hb3 := lit_bys14 w hel #[.int .u8 104, .int .u8 101, .int .u8 108, .int .u8 108, .int .u8 111] 5 (5, 6) rfl rfl
  have hBl := (Below.refl _ w).alloc (Nat.le_refl _) (Obj.cells #[.int .u8 104, .int .u8 101, .int .u8 108, .int .u8 108, .int .u8 111] 5 (5, 6))
  have HN1 := hide (newGrowing_good _ hel _ hb3 (by decide))
  have HBl := hide hBl
  have hN := fun W => sNew_any moRW 3 4 W
  rw [new_RW, if_pos (by decide), if_pos (by decide)] at hN
  simp only at hN
  unfold mv at hN
  have HN := hide hN
  clear hN hb3 hBl
  go_enter Tryz.func25, Tryz.ntmps25
  go_wp2_with fail
  generalize w.alloc (Obj.cells #[.int .u8 104, .int .u8 101, .int .u8 108, .int .u8 108, .int .u8 111] 5 (5, 6)) = w0 at *
  refine HN1.out.mono ?_
  rintro _ w1 ⟨g, rfl, hM, hB⟩
  have HM := hide hM
  have HB := hide (HBl.out.trans (hB.mono HBl.out.size))
  have hz0 := HBl.out.size
  clear hM hB HN1 cl
  go_wp2_with fail
  refine (HN.out _).mono ?_
  rintro _ w2 ⟨rfl, hB2⟩
  have HM2 := hide (HM.out.below hB2)
  have HB2 := hide (HB.out.trans (hB2.mono HB.out.size))
  clear hB2 HM HB
  have HS2 := hide (StAt.new w2 (xRW 3 4) (.slice none 0 0) (.slice none 0 0) (.slice none 0 0))
  have HB3 := hide (recv_below w2 (Obj.cells #[.bool (xRW 3 4).rd, .bool (xRW 3 4).wt, .int .i64 (xRW 3 4).mode, .int .i64 (xRW 3 4).size, .slice none 0 0, .slice none 0 0, .slice none 0 0, .int .i64 (xRW 3 4).dir, .bool (xRW 3 4).fin, .bool (xRW 3 4).bad, .bool (xRW 3 4).closed] 58))
  have HLV : Hid (LV (fun w O S => MemAt w O g S) (w2.alloc (Obj.cells #[.bool (xRW 3 4).rd, .bool (xRW 3 4).wt, .int .i64 (xRW 3 4).mode, .int .i64 (xRW 3 4).size, .slice none 0 0, .slice none 0 0, .slice none 0 0, .int .i64 (xRW 3 4).dir, .bool (xRW 3 4).fin, .bool (xRW 3 4).bad, .bool (xRW 3 4).closed] 58)) w.heap.size w2.heap.size (fun k => w0.heap.size ≤ k ∧ k < w2.heap.size) (xRW 3 4) ⟨hel, 1048576, 0⟩ (.slice none 0 0) (.slice none 0 0) (.slice none 0 0)) := hide
    ⟨HS2.out, SIn.nils0 rfl rfl rfl, HM2.out.trim.below HB3.out, fun j e => Nat.lt_of_lt_of_le e.2 HB3.out.size, fun j e => by have := e.1; omega, fun e => by omega, HB2.out.size⟩
  have HTT : Hid (Turned (fun k => w.heap.size ≤ k) w (w2.alloc (Obj.cells #[.bool (xRW 3 4).rd, .bool (xRW 3 4).wt, .int .i64 (xRW 3 4).mode, .int .i64 (xRW 3 4).size, .slice none 0 0, .slice none 0 0, .slice none 0 0, .int .i64 (xRW 3 4).dir, .bool (xRW 3 4).fin, .bool (xRW 3 4).bad, .bool (xRW 3 4).closed] 58))) := hide ((Turned.of_below HB2.out).trans (Turned.of_below (S := fun k => w.heap.size ≤ k) HB3.out) (fun _ _ e => e))
  have hp := sGet_any (gro_raw g) (fun s => gmem_o g s) (bears_true msR) HLV.out.ls HLV.out.raw HLV.out.ol trivial (by decide) (by decide) (by decide)
  rw [q_a] at hp
  simp only at hp
  have HP := hide hp
  clear hp
  go_wp2_with (first | (go_at_call 27; refine (num14 _ _).mono ?_; rintro _ _ ⟨rfl, rfl⟩) | fail)
  generalize w2.alloc (Obj.cells #[.bool (xRW 3 4).rd, .bool (xRW 3 4).wt, .int .i64 (xRW 3 4).mode, .int .i64 (xRW 3 4).size, .slice none 0 0, .slice none 0 0, .slice none 0 0, .int .i64 (xRW 3 4).dir, .bool (xRW 3 4).fin, .bool (xRW 3 4).bad, .bool (xRW 3 4).closed] 58) = w3 at *
  have HSZ := hide HTT.out.size
  clear HS2 HB3 HM2 HN
  generalize w2.heap.size = gv at *
  refine HP.out.mono ?_
  rintro _ w4 ⟨o', i', b', rfl, hS⟩
  obtain ⟨a1, a4, rfl, -⟩ := hS.choose_spec.1.so
  obtain ⟨a2, a5, rfl, -⟩ := hS.choose_spec.1.si
  obtain ⟨a3, a6, rfl, -⟩ := hS.choose_spec.1.sb
  obtain ⟨hst, ⟨O4, hl⟩, ht⟩ := LV.next (fun s => gmem_o g s) HLV.out HSZ.out hS
  have HLn := hide hl
  have HTn := hide (HTT.out.trans ht (fun _ _ e => e))
  obtain ⟨c0, c1, c2, c3, c4, c5, c6, c7, c8, c9, c10⟩ := hst.cs
  have f0 := hst.soft 0
  have f1 := hst.soft 1
  have f2 := hst.soft 2
  have f3 := hst.soft 3
  have f4 := hst.soft 4
  have f5 := hst.soft 5
  have f6 := hst.soft 6
  have f7 := hst.soft 7
  have f8 := hst.soft 8
  have f9 := hst.soft 9
  have f10 := hst.soft 10
  clear hS hst hl ht HP
  unfold filled at HLn HTn
  have hp := ptell_any (gro_raw g) (fun s => gmem_o g s) (bears_true msR) (gro_seek g) (bearsS_true _) HLn.out.ls HLn.out.raw HLn.out.ol trivial (by decide) (by decide) (by decide)
  rw [q_b] at hp
  simp only at hp
  have HP := hide hp
  clear hp
  go_wp2_with (first | (go_at_call 27; refine (num14 _ _).mono ?_; rintro _ _ ⟨rfl, rfl⟩) | fail)
  generalize (((((((((((w4.setCell ⟨gv, 0, none⟩ (.bool qA.rd)).setCell ⟨gv, 1, none⟩ (.bool qA.wt)).setCell ⟨gv, 2, none⟩ (.int .i64 qA.mode)).setCell ⟨gv, 3, none⟩ (.int .i64 qA.size)).setCell ⟨gv, 4, none⟩ (.slice a1 qA.out.length a4)).setCell ⟨gv, 5, none⟩ (.slice a2 qA.inn.length a5)).setCell ⟨gv, 6, none⟩ (.slice a3 qA.back.length a6)).setCell ⟨gv, 7, none⟩ (.int .i64 qA.dir)).setCell ⟨gv, 8, none⟩ (.bool qA.fin)).setCell ⟨gv, 9, none⟩ (.bool qA.bad)).setCell ⟨gv, 10, none⟩ (.bool qA.closed)) = w5 at *
  clear c0 c1 c2 c3 c4 c5 c6 c7 c8 c9 c10 f0 f1 f2 f3 f4 f5 f6 f7 f8 f9 f10 HLV HTT HSZ
  have HLV := HLn
  have HTT := HTn
  have HSZ := hide HTT.out.size
  clear HLn HTn
  refine HP.out.mono ?_
  rintro _ w6 ⟨o', i', b', rfl, hS⟩
  obtain ⟨b1, b4, rfl, -⟩ := hS.choose_spec.1.so
  obtain ⟨b2, b5, rfl, -⟩ := hS.choose_spec.1.si
  obtain ⟨b3, b6, rfl, -⟩ := hS.choose_spec.1.sb
  obtain ⟨hst, ⟨O6, hl⟩, ht⟩ := LV.next (fun s => gmem_o g s) HLV.out HSZ.out hS
  have HLn := hide hl
  have HTn := hide (HTT.out.trans ht (fun _ _ e => e))
  obtain ⟨c0, c1, c2, c3, c4, c5, c6, c7, c8, c9, c10⟩ := hst.cs
  have f0 := hst.soft 0
  have f1 := hst.soft 1
  have f2 := hst.soft 2
  have f3 := hst.soft 3
  have f4 := hst.soft 4
  have f5 := hst.soft 5
  have f6 := hst.soft 6
  have f7 := hst.soft 7
  have f8 := hst.soft 8
  have f9 := hst.soft 9
  have f10 := hst.soft 10
  clear hS hst hl ht HP
  unfold filled at HLn HTn
  have hp := pseek_any (gro_raw g) (fun s => gmem_o g s) (bears_true msR) (gro_seek g) (bearsS_true _) 1 1 HLn.out.ls HLn.out.raw HLn.out.ol trivial (by decide) (by decide) (by decide) (by decide)
  rw [q_c] at hp
  simp only at hp
  have HP := hide hp
  clear hp
  go_wp2_with (first | (go_at_call 27; refine (num14 _ _).mono ?_; rintro _ _ ⟨rfl, rfl⟩) | fail)
  generalize (((((((((((w6.setCell ⟨gv, 0, none⟩ (.bool qA.rd)).setCell ⟨gv, 1, none⟩ (.bool qA.wt)).setCell ⟨gv, 2, none⟩ (.int .i64 qA.mode)).setCell ⟨gv, 3, none⟩ (.int .i64 qA.size)).setCell ⟨gv, 4, none⟩ (.slice b1 qA.out.length b4)).setCell ⟨gv, 5, none⟩ (.slice b2 qA.inn.length b5)).setCell ⟨gv, 6, none⟩ (.slice b3 qA.back.length b6)).setCell ⟨gv, 7, none⟩ (.int .i64 qA.dir)).setCell ⟨gv, 8, none⟩ (.bool qA.fin)).setCell ⟨gv, 9, none⟩ (.bool qA.bad)).setCell ⟨gv, 10, none⟩ (.bool qA.closed)) = w7 at *
  clear c0 c1 c2 c3 c4 c5 c6 c7 c8 c9 c10 f0 f1 f2 f3 f4 f5 f6 f7 f8 f9 f10 HLV HTT HSZ
  have HLV := HLn
  have HTT := HTn
  have HSZ := hide HTT.out.size
  clear HLn HTn
  refine HP.out.mono ?_
  rintro _ w8 ⟨o', i', b', rfl, hS⟩
  obtain ⟨d1, d4, rfl, -⟩ := hS.choose_spec.1.so
  obtain ⟨d2, d5, rfl, -⟩ := hS.choose_spec.1.si
  obtain ⟨d3, d6, rfl, -⟩ := hS.choose_spec.1.sb
  obtain ⟨hst, ⟨O8, hl⟩, ht⟩ := LV.next (fun s => gmem_o g s) HLV.out HSZ.out hS
  have HLn := hide hl
  have HTn := hide (HTT.out.trans ht (fun _ _ e => e))
  obtain ⟨c0, c1, c2, c3, c4, c5, c6, c7, c8, c9, c10⟩ := hst.cs
  have f0 := hst.soft 0
  have f1 := hst.soft 1
  have f2 := hst.soft 2
  have f3 := hst.soft 3
  have f4 := hst.soft 4
  have f5 := hst.soft 5
  have f6 := hst.soft 6
  have f7 := hst.soft 7
  have f8 := hst.soft 8
  have f9 := hst.soft 9
  have f10 := hst.soft 10
  clear hS hst hl ht HP
  unfold filled at HLn HTn
  have hp := sGet_any (gro_raw g) (fun s => gmem_o g s) (bears_true msR) HLn.out.ls HLn.out.raw HLn.out.ol trivial (by decide) (by decide) (by decide)
  rw [q_d] at hp
  simp only at hp
  have HP := hide hp
  clear hp
  go_wp2_with (first | (go_at_call 27; refine (num14 _ _).mono ?_; rintro _ _ ⟨rfl, rfl⟩) | fail)
  generalize (((((((((((w8.setCell ⟨gv, 0, none⟩ (.bool qB.rd)).setCell ⟨gv, 1, none⟩ (.bool qB.wt)).setCell ⟨gv, 2, none⟩ (.int .i64 qB.mode)).setCell ⟨gv, 3, none⟩ (.int .i64 qB.size)).setCell ⟨gv, 4, none⟩ (.slice d1 qB.out.length d4)).setCell ⟨gv, 5, none⟩ (.slice d2 qB.inn.length d5)).setCell ⟨gv, 6, none⟩ (.slice d3 qB.back.length d6)).setCell ⟨gv, 7, none⟩ (.int .i64 qB.dir)).setCell ⟨gv, 8, none⟩ (.bool qB.fin)).setCell ⟨gv, 9, none⟩ (.bool qB.bad)).setCell ⟨gv, 10, none⟩ (.bool qB.closed)) = w9 at *
  clear c0 c1 c2 c3 c4 c5 c6 c7 c8 c9 c10 f0 f1 f2 f3 f4 f5 f6 f7 f8 f9 f10 HLV HTT HSZ
  have HLV := HLn
  have HTT := HTn
  have HSZ := hide HTT.out.size
  clear HLn HTn
  refine HP.out.mono ?_
  rintro _ w10 ⟨o', i', b', rfl, hS⟩
  obtain ⟨e1, e4, rfl, -⟩ := hS.choose_spec.1.so
  obtain ⟨e2, e5, rfl, -⟩ := hS.choose_spec.1.si
  obtain ⟨e3, e6, rfl, -⟩ := hS.choose_spec.1.sb
  have HT10 : Hid (Turned (fun k => w.heap.size ≤ k) w w10) := hide (by
    obtain ⟨_, _, _, _, _, t⟩ := hS
    exact HTT.out.trans (t.mono fun k e => HLV.out.ob k e) (fun _ _ e => e))
  clear hS
  go_wp2_with (first | (go_at_call 27; refine (num14 _ _).mono ?_; rintro _ _ ⟨rfl, rfl⟩) | fail)
  go_ret
  exact ⟨rfl, (HT10.out.below (B := w.heap.size) (fun _ e => e) (Nat.le_refl _)).trans ((recv_below w10 _).mono HT10.out.size)⟩
end Go.Proofs.YtkkommomefmpgaaGreat

/- Lines: why a call is refused. -/
namespace Go.Proofs.YtkkommomefmpgaaGreat
open Go.RowKit

end Go.Proofs.YtkkommomefmpgaaGreat

/- Lines, as values: bytes got one by one, most of what was read apart. -/
namespace Go.Proofs.YtkkommomefmpgaaGreat
open Go.RowKit

def part (n f : List UInt8) : List UInt8 × List UInt8 := if f = [] then (n.take 64, n.drop 64) else if n = [] then (f.take 64, f.drop 64) else (n, f)
end Go.Proofs.YtkkommomefmpgaaGreat

/- Lines: slices.Concat of two. -/
namespace Go.Proofs.YtkkommomefmpgaaGreat
open Go.RowKit

end Go.Proofs.YtkkommomefmpgaaGreat

/- Lines: a copy of a state, its lists apart. -/
namespace Go.Proofs.YtkkommomefmpgaaGreat
open Go.RowKit


end Go.Proofs.YtkkommomefmpgaaGreat

/- Lines: a source: a state on its way, most of what was read apart; in memory. -/
namespace Go.Proofs.YtkkommomefmpgaaGreat
open Go.RowKit

end Go.Proofs.YtkkommomefmpgaaGreat

/- Lines: the next byte of a source. -/
namespace Go.Proofs.YtkkommomefmpgaaGreat
open Go.RowKit


end Go.Proofs.YtkkommomefmpgaaGreat

/- Lines: the whole state of a source. -/
namespace Go.Proofs.YtkkommomefmpgaaGreat
open Go.RowKit
end Go.Proofs.YtkkommomefmpgaaGreat

/- Lines: whether it is enough; a source that other blocks leave alone. -/
namespace Go.Proofs.YtkkommomefmpgaaGreat
open Go.RowKit
end Go.Proofs.YtkkommomefmpgaaGreat

/- Lines: bytes are gathered. -/
namespace Go.Proofs.YtkkommomefmpgaaGreat
open Go.RowKit
theorem lone_bys (w : World) (c : UInt8) : Bys (w.alloc (Obj.cells #[.int .u8 (c.toNat : Int)] 5)) (.slice (some ⟨w.heap.size, 0, none⟩) 1 1) [c] := .inr (.inr ⟨_, _, _, rfl, Nat.zero_lt_one, fun j hj => by
  obtain rfl : j = 0 := by simpa using hj
  exact cell_of_row _ w.heap.size 0 _ _ _ (heap_alloc_new w _)⟩)
end Go.Proofs.YtkkommomefmpgaaGreat

/- Lines: Until, Get. -/
namespace Go.Proofs.YtkkommomefmpgaaGreat
open Go.RowKit
end Go.Proofs.YtkkommomefmpgaaGreat

/- Lines: what was gathered is kept beside the stream. -/
namespace Go.Proofs.YtkkommomefmpgaaGreat
open Go.RowKit
end Go.Proofs.YtkkommomefmpgaaGreat
