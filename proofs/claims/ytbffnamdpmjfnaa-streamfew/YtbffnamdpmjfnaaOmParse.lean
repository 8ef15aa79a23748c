/- Openmode: Parse. -/
import Derived.Test.YtbffnamdpmjfnaaOmSpell
import Derived.Deep.LoopGhost
import Derived.WalkMore
import Derived.Deep.RegionWith
import Derived.BigQuiet
import Derived.Deep.RegionHeld3
namespace Go.Proofs.Ytbffnamdpmjfnaa
open Go.RowKit

/-- May the letter k, where the byte c stands behind bytes that say m? -/
def fits (m : Mo) (c : UInt8) (k : Nat) : Bool := decide (sg.getD k 0 = c) && ((mayI m).getD k false && !(hasI m).getD k false)
/-- What the byte c behind bytes that say m makes of it. -/
def stepM (m : Mo) (c : UInt8) : Option Mo := ((List.range 7).find? (fits m c)).map (layI m)
theorem stepM_some {m : Mo} {c : UInt8} {k : Nat} (hk : k < 7) (h : ∀ j, j < k → fits m c j = false) (hf : fits m c k = true) : stepM m c = some (layI m k) := by
  have : (List.range 7).find? (fits m c) = some k := by
    rw [List.find?_range_eq_some]
    exact ⟨hf, by simpa using hk, fun j hj => by simp [h j hj]⟩
  simp [stepM, this]
theorem stepM_none {m : Mo} {c : UInt8} (h : ∀ j, j < 7 → fits m c j = false) : stepM m c = none := by
  have : (List.range 7).find? (fits m c) = none := by
    rw [List.find?_range_eq_none]
    intro j hj
    simp [h j hj]
  simp [stepM, this]
theorem MoAt.s0 {W : World} {b : Nat} {m : Mo} (h : MoAt W b m) (x : Bool) : MoAt (W.setCell ⟨b, 0, none⟩ (.bool x)) b { m with rd := x } := Go.heap_setCell_same W b 0 _ _ (.bool x) h
theorem MoAt.s1 {W : World} {b : Nat} {m : Mo} (h : MoAt W b m) (x : Bool) : MoAt (W.setCell ⟨b, 1, none⟩ (.bool x)) b { m with wr := x } := Go.heap_setCell_same W b 1 _ _ (.bool x) h
theorem MoAt.s2 {W : World} {b : Nat} {m : Mo} (h : MoAt W b m) (x : Bool) : MoAt (W.setCell ⟨b, 2, none⟩ (.bool x)) b { m with ap := x } := Go.heap_setCell_same W b 2 _ _ (.bool x) h
theorem MoAt.s3 {W : World} {b : Nat} {m : Mo} (h : MoAt W b m) (x : Bool) : MoAt (W.setCell ⟨b, 3, none⟩ (.bool x)) b { m with cr := x } := Go.heap_setCell_same W b 3 _ _ (.bool x) h
theorem MoAt.s4 {W : World} {b : Nat} {m : Mo} (h : MoAt W b m) (x : Bool) : MoAt (W.setCell ⟨b, 4, none⟩ (.bool x)) b { m with tr := x } := Go.heap_setCell_same W b 4 _ _ (.bool x) h
theorem MoAt.s5 {W : World} {b : Nat} {m : Mo} (h : MoAt W b m) (x : Bool) : MoAt (W.setCell ⟨b, 5, none⟩ (.bool x)) b { m with ex := x } := Go.heap_setCell_same W b 5 _ _ (.bool x) h
theorem MoAt.s6 {W : World} {b : Nat} {m : Mo} (h : MoAt W b m) (x : Bool) : MoAt (W.setCell ⟨b, 6, none⟩ (.bool x)) b { m with bi := x } := Go.heap_setCell_same W b 6 _ _ (.bool x) h
theorem MoAt.s7 {W : World} {b : Nat} {m : Mo} (h : MoAt W b m) (x : Bool) : MoAt (W.setCell ⟨b, 7, none⟩ (.bool x)) b { m with ma := x } := Go.heap_setCell_same W b 7 _ _ (.bool x) h
/-- A mode is stored, cell by cell. -/
def putM (W : World) (b : Nat) (m' : Mo) : World := ((((((((W.setCell ⟨b, 0, none⟩ (.bool m'.rd)).setCell ⟨b, 1, none⟩ (.bool m'.wr)).setCell ⟨b, 2, none⟩ (.bool m'.ap)).setCell ⟨b, 3, none⟩ (.bool m'.cr)).setCell ⟨b, 4, none⟩ (.bool m'.tr)).setCell ⟨b, 5, none⟩ (.bool m'.ex)).setCell ⟨b, 6, none⟩ (.bool m'.bi)).setCell ⟨b, 7, none⟩ (.bool m'.ma))
theorem MoAt.put {W : World} {b : Nat} {m : Mo} (h : MoAt W b m) (m' : Mo) : MoAt (putM W b m') b m' ∧ Turned (fun k => k = b) W (putM W b m') :=
  ⟨((((((((h.s0 m'.rd).s1 m'.wr).s2 m'.ap).s3 m'.cr).s4 m'.tr).s5 m'.ex).s6 m'.bi).s7 m'.ma), Turned.set (S := fun k => k = b) (Turned.set (S := fun k => k = b) (Turned.set (S := fun k => k = b) (Turned.set (S := fun k => k = b) (Turned.set (S := fun k => k = b) (Turned.set (S := fun k => k = b) (Turned.set (S := fun k => k = b) (Turned.set (S := fun k => k = b) (Turned.refl _ _) (.inl rfl)) (.inl rfl)) (.inl rfl)) (.inl rfl)) (.inl rfl)) (.inl rfl)) (.inl rfl)) (.inl rfl)⟩
/-- The cells of a mode, for a walk. -/
def Mc (W : World) (b : Nat) (m : Mo) : Prop := W.cell? ⟨b, 0, none⟩ = some (.bool m.rd) ∧ W.cell? ⟨b, 1, none⟩ = some (.bool m.wr) ∧ W.cell? ⟨b, 2, none⟩ = some (.bool m.ap) ∧ W.cell? ⟨b, 3, none⟩ = some (.bool m.cr) ∧ W.cell? ⟨b, 4, none⟩ = some (.bool m.tr) ∧ W.cell? ⟨b, 5, none⟩ = some (.bool m.ex) ∧ W.cell? ⟨b, 6, none⟩ = some (.bool m.bi) ∧ W.cell? ⟨b, 7, none⟩ = some (.bool m.ma)
theorem MoAt.mc {W : World} {b : Nat} {m : Mo} (h : MoAt W b m) : Mc W b m := ⟨h.cell 0, h.cell 1, h.cell 2, h.cell 3, h.cell 4, h.cell 5, h.cell 6, h.cell 7⟩
def Ms (W : World) (b : Nat) : Prop := W.frozen? ⟨b, 0, none⟩ = false ∧ W.frozen? ⟨b, 1, none⟩ = false ∧ W.frozen? ⟨b, 2, none⟩ = false ∧ W.frozen? ⟨b, 3, none⟩ = false ∧ W.frozen? ⟨b, 4, none⟩ = false ∧ W.frozen? ⟨b, 5, none⟩ = false ∧ W.frozen? ⟨b, 6, none⟩ = false ∧ W.frozen? ⟨b, 7, none⟩ = false
theorem MoAt.ms {W : World} {b : Nat} {m : Mo} (h : MoAt W b m) : Ms W b := ⟨h.soft 0, h.soft 1, h.soft 2, h.soft 3, h.soft 4, h.soft 5, h.soft 6, h.soft 7⟩
theorem drop_getD {l : List UInt8} {k : Nat} (hk : k < l.length) : l.drop k = l.getD k 0 :: l.drop (k + 1) := by
  rw [List.drop_eq_getElem_cons hk]
  simp [List.getD_eq_getElem?_getD, List.getElem?_eq_getElem hk]
theorem hM1a {wr wa : World} {b : Nat} {m : Mo} (h : MoAt wr b m) (hB : Below wr.heap.size wr wa) : MoAt wa b m := h.below hB
/-- Parse, from the place i on, behind bytes that say m. -/
def prs (m : Mo) (i : Nat) : List UInt8 → Mo × Int × Nat
  | [] => if isNone m then (mo0, 91, i) else (m, 0, i)
  | c :: r => match stepM m c with
    | none => (mo0, 91, i)
    | some m' => prs m' (i + 1) r
theorem res_mode {fn : Func} {p u v : Tmp} {w : World} (h : fn.results = #[.cell p 34, .tmp u, .tmp v]) (tmps : Array Value) (b : Nat) (hp : tmps.getD p undef = .pointer (some ⟨b, 0, none⟩)) (m : Mo) (hm : MoAt w b m) :
    (results fn tmps).run Try.prog w = .ok (.tuple #[mv m, tmps.getD u undef, tmps.getD v undef]) w := by
  have a60 := Try.isAgg34
  have z60 := Try.sizeOf34
  have c0 : w.cell? ⟨b, 0, none⟩ = some (.bool m.rd) := hm.cell 0
  have c1 : w.cell? ⟨b, 1, none⟩ = some (.bool m.wr) := hm.cell 1
  have c2 : w.cell? ⟨b, 2, none⟩ = some (.bool m.ap) := hm.cell 2
  have c3 : w.cell? ⟨b, 3, none⟩ = some (.bool m.cr) := hm.cell 3
  have c4 : w.cell? ⟨b, 4, none⟩ = some (.bool m.tr) := hm.cell 4
  have c5 : w.cell? ⟨b, 5, none⟩ = some (.bool m.ex) := hm.cell 5
  have c6 : w.cell? ⟨b, 6, none⟩ = some (.bool m.bi) := hm.cell 6
  have c7 : w.cell? ⟨b, 7, none⟩ = some (.bool m.ma) := hm.cell 7
  have u3 := Try.underlying4
  have a3 := Try.isAgg4
  have z3 := Try.sizeOf4
  have hr : (results fn tmps).run Try.prog w = ((asAddr (tmps.getD p undef)).run Try.prog w).andThen fun a w₁ => ((loadVar 34 a).run Try.prog w₁).andThen fun x w₂ => .ok (.tuple #[x, tmps.getD u undef, tmps.getD v undef]) w₂ := by
    simp only [results, h]
    simp [Sem.run_bind, Result.andThen]
  rw [hr, hp]
  simp only [loadVar]
  go_simp
  rfl

set_option maxRecDepth 100000 in
set_option maxHeartbeats 1000000 in
theorem oparse_any (s : ByteArray) (w : World) (hs : s.size ≤ maxLen) : Calls Try.prog 30 #[.string s] w fun e w' => e = .returned (.tuple #[mv (prs mo0 0 s.data.toList).1, .int .i64 (prs mo0 0 s.data.toList).2.1, .int .i64 (prs mo0 0 s.data.toList).2.2]) ∧ Below w.heap.size w w' := by
  have hl := hide fun w => oletters_any w
  have hlen : s.data.toList.length = s.size := by simp
  generalize hR : prs mo0 0 s.data.toList = R
  have HR := hide hR
  clear hR
  unfold maxLen at hs
  go_enter Try.func30, Try.ntmps30
  go_wp2
  go_step3
  go_wp2_with fail
  refine (hl.out _).mono ?_
  rintro e w1 ⟨rfl, hL, hB1⟩
  have hA0 : MoAt (w.alloc (Obj.cells (mc mo0) 34)) w.heap.size mo0 := heap_alloc_new _ _
  have hA1 : MoAt ((w.alloc (Obj.cells (mc mo0) 34)).alloc (Obj.cells (mc mo0) 34)) (w.heap.size + 1) mo0 := by
    have := heap_alloc_new (w.alloc (Obj.cells (mc mo0) 34)) (Obj.cells (mc mo0) 34)
    rwa [show (w.alloc (Obj.cells (mc mo0) 34)).heap.size = w.heap.size + 1 by simp] at this
  have hM0 : MoAt w1 w.heap.size mo0 := (hA0.below ((Below.refl _ _).alloc (Nat.le_refl _) _)).below hB1
  have hM1 : MoAt w1 (w.heap.size + 1) mo0 := hA1.below hB1
  have hB0 : Below w.heap.size w w1 := (((Below.refl w.heap.size w).alloc (Nat.le_refl _) (Obj.cells (mc mo0) 34)).alloc (by simp) (Obj.cells (mc mo0) 34)).trans (hB1.mono (by simp; omega))
  have hL2 : Lt w1 (w.heap.size + 1 + 1) := by simpa using hL
  clear hB1 hl hL hA0 hA1
  go_wp2
  go_step3
  go_wp2
  go_loopg [13] s.size (fun g s13 wx => ∃ (k : Nat) (m : Mo), k + g = s.size ∧ s13 = .int .i64 k ∧ Hid (prs m k (s.data.toList.drop k) = R) ∧ Hid (MoAt wx w.heap.size mo0) ∧ Hid (MoAt wx (w.heap.size + 1) m) ∧ Hid (Lt wx (w.heap.size + 1 + 1)) ∧ Hid (Below w.heap.size w wx))
  case atStart => exact ⟨0, mo0, by omega, rfl, HR, hM0, hM1, hL2, hB0⟩
  case round =>
    clear hM0 hM1 hL2 hB0 HR
    obtain ⟨k, m, hkg, rfl, HP, HM0, HM1, HL, HB⟩ := hrel
    cases gk with
    | zero =>
      have hkz : ¬ ((k : Int) < (s.size : Int)) := by omega
      have hnil : s.data.toList.drop k = [] := List.drop_eq_nil_of_le (by omega)
      have hp := HP.out
      rw [hnil] at hp
      have HN := hide hnil
      have HP2 := hide hp
      clear hnil hp HP
      obtain ⟨c0, c1, c2, c3, c4, c5, c6, c7⟩ := HM1.out.mc
      have hin := isNone_any m
      simp only [mv] at hin
      go_wp2_with fail
      refine (hin _).mono ?_
      rintro e w2 ⟨rfl, hB2⟩
      have HM0' := hide (HM0.out.below hB2)
      have HM1' := hide (HM1.out.below hB2)
      have HB' := hide (HB.out.trans (hB2.mono HB.out.size))
      clear c0 c1 c2 c3 c4 c5 c6 c7 hin HM0 HM1 HB
      obtain ⟨d0, d1, d2, d3, d4, d5, d6, d7⟩ := HM0'.out.mc
      obtain ⟨f0, f1, f2, f3, f4, f5, f6, f7⟩ := HM0'.out.ms
      cases hq : isNone m with
      | true =>
        go_wp2
        try rw [Exit.noGoto_ret]
        obtain ⟨p1, p2⟩ := HM0'.out.put mo0
        refine bodyPost_ret (res_mode rfl _ w.heap.size rfl mo0 p1) rfl ?_
        have hv : R = (mo0, 91, k) := by rw [← HP2.out]; simp [prs, hq]
        subst hv
        exact ⟨by rw [show (s.size : Int) = (k : Int) by omega]; rfl, (HB'.out.trans (p2.below (B := w.heap.size) (by intro k e; omega) HB'.out.size))⟩
      | false =>
        obtain ⟨c0, c1, c2, c3, c4, c5, c6, c7⟩ := HM1'.out.mc
        go_wp2
        try rw [Exit.noGoto_ret]
        obtain ⟨p1, p2⟩ := HM0'.out.put m
        refine bodyPost_ret (res_mode rfl _ w.heap.size rfl m p1) rfl ?_
        have hv : R = (m, 0, k) := by rw [← HP2.out]; simp [prs, hq]
        subst hv
        exact ⟨by rw [show (s.size : Int) = (k : Int) by omega]; rfl, (HB'.out.trans (p2.below (B := w.heap.size) (by intro k e; omega) HB'.out.size))⟩
    | succ g =>
      have hkz : (k : Int) < (s.size : Int) := by omega
      have hk0 : (0 : Int) ≤ (k : Int) := by omega
      go_wp2
      go_loopg [18] 7 (fun g2 s18 wy => ∃ j : Nat, j + g2 = 7 ∧ s18 = .int .i64 j ∧ Hid (∀ i, i < j → fits m (s.data.toList.getD k 0) i = false) ∧ Hid (MoAt wy w.heap.size mo0) ∧ Hid (MoAt wy (w.heap.size + 1) m) ∧ Hid (Lt wy (w.heap.size + 1 + 1)) ∧ Hid (Below w.heap.size w wy))
      case atStart => exact ⟨0, by omega, rfl, fun i hi => absurd hi (by omega), HM0, HM1, HL, HB⟩
      case round =>
        clear HM0 HM1 HL HB
        obtain ⟨j, hjg, rfl, HF, HM0, HM1, HL, HB⟩ := hrel
        cases gk with
        | zero =>
          obtain ⟨d0, d1, d2, d3, d4, d5, d6, d7⟩ := HM0.out.mc
          obtain ⟨f0, f1, f2, f3, f4, f5, f6, f7⟩ := HM0.out.ms
          have hj7 : ¬ (j : Int) < 7 := by omega
          go_wp2
          try rw [Exit.noGoto_ret]
          obtain ⟨p1, p2⟩ := HM0.out.put mo0
          refine bodyPost_ret (res_mode rfl _ w.heap.size rfl mo0 p1) rfl ?_
          have hv : R = (mo0, 91, k) := by
            rw [← HP.out, drop_getD (by omega : k < s.data.toList.length)]
            simp only [prs]
            rw [stepM_none (fun i hi => HF.out i (by omega))]
          subst hv
          exact ⟨rfl, (HB.out.trans (p2.below (B := w.heap.size) (by intro k e; omega) HB.out.size))⟩
        | succ g2 =>
          have hj7 : j < 7 := by omega
          have hj1 : (0 : Int) ≤ (j : Int) := by omega
          have hj2 : (j : Int) < 7 := by omega
          obtain ⟨e0, e1, e2, e3⟩ := ltc_cells HL.out hj7
          have hsf := store_func
          have hen := enter_has hj7
          have hen2 := enter_may hj7
          have hen3 := enter_lay hj7
          have hm0 : ∀ o, (wr.alloc o).cell? ⟨w.heap.size + 1, 0, none⟩ = some (.bool m.rd) := fun o => (HM1.out.below ((Below.refl _ _).alloc (Nat.le_refl _) o)).cell 0
          have hm1 : ∀ o, (wr.alloc o).cell? ⟨w.heap.size + 1, 1, none⟩ = some (.bool m.wr) := fun o => (HM1.out.below ((Below.refl _ _).alloc (Nat.le_refl _) o)).cell 1
          have hm2 : ∀ o, (wr.alloc o).cell? ⟨w.heap.size + 1, 2, none⟩ = some (.bool m.ap) := fun o => (HM1.out.below ((Below.refl _ _).alloc (Nat.le_refl _) o)).cell 2
          have hm3 : ∀ o, (wr.alloc o).cell? ⟨w.heap.size + 1, 3, none⟩ = some (.bool m.cr) := fun o => (HM1.out.below ((Below.refl _ _).alloc (Nat.le_refl _) o)).cell 3
          have hm4 : ∀ o, (wr.alloc o).cell? ⟨w.heap.size + 1, 4, none⟩ = some (.bool m.tr) := fun o => (HM1.out.below ((Below.refl _ _).alloc (Nat.le_refl _) o)).cell 4
          have hm5 : ∀ o, (wr.alloc o).cell? ⟨w.heap.size + 1, 5, none⟩ = some (.bool m.ex) := fun o => (HM1.out.below ((Below.refl _ _).alloc (Nat.le_refl _) o)).cell 5
          have hm6 : ∀ o, (wr.alloc o).cell? ⟨w.heap.size + 1, 6, none⟩ = some (.bool m.bi) := fun o => (HM1.out.below ((Below.refl _ _).alloc (Nat.le_refl _) o)).cell 6
          have hm7 : ∀ o, (wr.alloc o).cell? ⟨w.heap.size + 1, 7, none⟩ = some (.bool m.ma) := fun o => (HM1.out.below ((Below.refl _ _).alloc (Nat.le_refl _) o)).cell 7
          go_wp2_with fail
          have qa := fun i => cell_of_row (wr.alloc _) wr.heap.size i _ _ _ (heap_alloc_new wr (Obj.cells #[.int .u8 (sg[j]?.getD 0).toNat, .func (.func (mayF j)) #[] #[], .func (.func (layF j)) #[] #[], .func (.func (hasF j)) #[] #[]] 88))
          have hBa := (Below.refl wr.heap.size wr).alloc (Nat.le_refl _) (Obj.cells #[.int .u8 (sg[j]?.getD 0).toNat, .func (.func (mayF j)) #[] #[], .func (.func (layF j)) #[] #[], .func (.func (hasF j)) #[] #[]] 88)
          have hMa := hM1a HM1.out hBa
          generalize wr.alloc (Obj.cells #[.int .u8 (sg[j]?.getD 0).toNat, .func (.func (mayF j)) #[] #[], .func (.func (layF j)) #[] #[], .func (.func (hasF j)) #[] #[]] 88) = wa at *
          have q0 : wa.cell? ⟨wr.heap.size, 0, none⟩ = some (.int .u8 (sg[j]?.getD 0).toNat) := qa 0
          have q1 : wa.cell? ⟨wr.heap.size, 1, none⟩ = some (.func (.func (mayF j)) #[] #[]) := qa 1
          have q2 : wa.cell? ⟨wr.heap.size, 2, none⟩ = some (.func (.func (layF j)) #[] #[]) := qa 2
          have q3 : wa.cell? ⟨wr.heap.size, 3, none⟩ = some (.func (.func (hasF j)) #[] #[]) := qa 3
          obtain ⟨c0, c1, c2, c3, c4, c5, c6, c7⟩ := hMa.mc
          have HMa := hide hMa
          have HBa := hide hBa
          clear hMa hBa qa e0 e1 e2 e3 hm0 hm1 hm2 hm3 hm4 hm5 hm6 hm7 hsf
          have hkz' : k < s.size := by omega
          have hidx : s[k]'hkz' = s.data.toList.getD k 0 := by
            rw [List.getD_eq_getElem?_getD, List.getElem?_eq_getElem (by omega)]
            simp [ByteArray.getElem_eq_getElem_data]
          have HF2 := hide (show fits m (s.data.toList.getD k 0) j = (decide (sg[j]?.getD 0 = s.data.toList.getD k 0) && ((mayI m).getD j false && !(hasI m).getD j false)) from rfl)
          by_cases hsg : (sg[j]?.getD 0) = s.data.toList.getD k 0
          · have hgd : (((sg[j]?.getD 0).toNat : Int) == ((s[k]'hkz').toNat : Int)) = true := by rw [hidx, hsg]; simp
            rw [hsg, ← hidx] at q0
            have HI := hide hidx
            have HG := hide hsg
            clear hidx hsg hgd
            have hcm := hide (omay_any m j hj7)
            have hch := hide (ohas_any m j hj7)
            simp only [mv] at hcm hch
            have hwa : wr.heap.size < wa.heap.size := World.block_lt_of_cell? wa _ q1
            have HS : Hid (∀ w', Below wa.heap.size wa w' → (fun w' => w'.cell? ⟨w.heap.size + 1, 0, none⟩ = some (.bool m.rd) ∧ w'.cell? ⟨w.heap.size + 1, 1, none⟩ = some (.bool m.wr) ∧ w'.cell? ⟨w.heap.size + 1, 2, none⟩ = some (.bool m.ap) ∧ w'.cell? ⟨w.heap.size + 1, 3, none⟩ = some (.bool m.cr) ∧ w'.cell? ⟨w.heap.size + 1, 4, none⟩ = some (.bool m.tr) ∧ w'.cell? ⟨w.heap.size + 1, 5, none⟩ = some (.bool m.ex) ∧ w'.cell? ⟨w.heap.size + 1, 6, none⟩ = some (.bool m.bi) ∧ w'.cell? ⟨w.heap.size + 1, 7, none⟩ = some (.bool m.ma) ∧ w'.cell? ⟨wr.heap.size, 0, none⟩ = some (.int .u8 ((s[k]'hkz').toNat : Int)) ∧ w'.cell? ⟨wr.heap.size, 1, none⟩ = some (.func (.func (mayF j)) #[] #[]) ∧ w'.cell? ⟨wr.heap.size, 3, none⟩ = some (.func (.func (hasF j)) #[] #[])) w') := fun w' hb =>
              ⟨(HMa.out.below hb).cell 0, (HMa.out.below hb).cell 1, (HMa.out.below hb).cell 2, (HMa.out.below hb).cell 3, (HMa.out.below hb).cell 4, (HMa.out.below hb).cell 5, (HMa.out.below hb).cell 6, (HMa.out.below hb).cell 7,
                (hb.cell (p := ⟨wr.heap.size, 0, none⟩) hwa).trans q0, (hb.cell (p := ⟨wr.heap.size, 1, none⟩) hwa).trans q1, (hb.cell (p := ⟨wr.heap.size, 3, none⟩) hwa).trans q3⟩
            cases hmy : (mayI m).getD j false with
            | false =>
              rw [hmy] at hcm
              have HY := hide hmy
              clear hmy hch
              first | go_region_with (first | (refine (hcm.out _).mono ?_; rintro e w3 ⟨rfl, hB3⟩; have hb3 : Below wa.heap.size wa w3 := (Below.refl _ _).drew.trans hB3) | fail) | fail
              all_goals
                have hb : Below wr.heap.size wr w3 := HBa.out.trans (hb3.mono HBa.out.size)
                go_wp2
                go_roundg g2
                case measure => omega
                case rel => exact ⟨j + 1, by omega, by go_num, fun i hi => by
                  by_cases hij : i < j
                  · exact HF.out i hij
                  · rw [show i = j by omega, HF2.out, HG.out, HY.out]; simp, HM0.out.below hb, HM1.out.below hb, HL.out.below hb, HB.out.trans (hb.mono HB.out.size)⟩
            | true =>
              rw [hmy] at hcm
              have HY := hide hmy
              clear hmy
              cases hha : (hasI m).getD j false with
              | true =>
                rw [hha] at hch
                have HA := hide hha
                clear hha
                first | go_region_held3 (fun w' => w'.cell? ⟨w.heap.size + 1, 0, none⟩ = some (.bool m.rd) ∧ w'.cell? ⟨w.heap.size + 1, 1, none⟩ = some (.bool m.wr) ∧ w'.cell? ⟨w.heap.size + 1, 2, none⟩ = some (.bool m.ap) ∧ w'.cell? ⟨w.heap.size + 1, 3, none⟩ = some (.bool m.cr) ∧ w'.cell? ⟨w.heap.size + 1, 4, none⟩ = some (.bool m.tr) ∧ w'.cell? ⟨w.heap.size + 1, 5, none⟩ = some (.bool m.ex) ∧ w'.cell? ⟨w.heap.size + 1, 6, none⟩ = some (.bool m.bi) ∧ w'.cell? ⟨w.heap.size + 1, 7, none⟩ = some (.bool m.ma) ∧ w'.cell? ⟨wr.heap.size, 0, none⟩ = some (.int .u8 ((s[k]'hkz').toNat : Int)) ∧ w'.cell? ⟨wr.heap.size, 1, none⟩ = some (.func (.func (mayF j)) #[] #[]) ∧ w'.cell? ⟨wr.heap.size, 3, none⟩ = some (.func (.func (hasF j)) #[] #[]))
                  (first | exact HS.out _ hb4 | exact HS.out _ hb3 | exact HS.out _ (Below.refl _ _).drew | go_keep)
                  (first | (refine (hcm.out _).mono ?_; rintro e w3 ⟨rfl, hB3⟩; have hb3 : Below wa.heap.size wa w3 := (Below.refl _ _).drew.trans hB3) | (refine (hch.out _).mono ?_; rintro e w4 ⟨rfl, hB4⟩; have hb4 := hb3.trans (hB4.mono hb3.size)) | fail) | fail
                all_goals
                  have hb : Below wr.heap.size wr w4 := HBa.out.trans (hb4.mono HBa.out.size)
                  go_wp2
                  go_roundg g2
                  case measure => omega
                  case rel => exact ⟨j + 1, by omega, by go_num, fun i hi => by
                    by_cases hij : i < j
                    · exact HF.out i hij
                    · rw [show i = j by omega, HF2.out, HG.out, HY.out, HA.out]; simp, HM0.out.below hb, HM1.out.below hb, HL.out.below hb, HB.out.trans (hb.mono HB.out.size)⟩
              | false =>
                rw [hha] at hch
                have HA := hide hha
                clear hha
                first | go_region_held3 (fun w' => w'.cell? ⟨w.heap.size + 1, 0, none⟩ = some (.bool m.rd) ∧ w'.cell? ⟨w.heap.size + 1, 1, none⟩ = some (.bool m.wr) ∧ w'.cell? ⟨w.heap.size + 1, 2, none⟩ = some (.bool m.ap) ∧ w'.cell? ⟨w.heap.size + 1, 3, none⟩ = some (.bool m.cr) ∧ w'.cell? ⟨w.heap.size + 1, 4, none⟩ = some (.bool m.tr) ∧ w'.cell? ⟨w.heap.size + 1, 5, none⟩ = some (.bool m.ex) ∧ w'.cell? ⟨w.heap.size + 1, 6, none⟩ = some (.bool m.bi) ∧ w'.cell? ⟨w.heap.size + 1, 7, none⟩ = some (.bool m.ma) ∧ w'.cell? ⟨wr.heap.size, 0, none⟩ = some (.int .u8 ((s[k]'hkz').toNat : Int)) ∧ w'.cell? ⟨wr.heap.size, 1, none⟩ = some (.func (.func (mayF j)) #[] #[]) ∧ w'.cell? ⟨wr.heap.size, 3, none⟩ = some (.func (.func (hasF j)) #[] #[]))
                  (first | exact HS.out _ hb4 | exact HS.out _ hb3 | exact HS.out _ (Below.refl _ _).drew | go_keep)
                  (first | (refine (hcm.out _).mono ?_; rintro e w3 ⟨rfl, hB3⟩; have hb3 : Below wa.heap.size wa w3 := (Below.refl _ _).drew.trans hB3) | (refine (hch.out _).mono ?_; rintro e w4 ⟨rfl, hB4⟩; have hb4 := hb3.trans (hB4.mono hb3.size)) | fail) | fail
                have hb : Below wr.heap.size wr w4 := HBa.out.trans (hb4.mono HBa.out.size)
                have e2 := (hb4.cell (p := ⟨wr.heap.size, 2, none⟩) hwa).trans q2
                have HM1' := HM1.out.below hb
                have HLay := hide (olay_any (w.heap.size + 1) m j hj7 w4 HM1')
                go_wp2_with fail
                refine HLay.out.mono ?_
                rintro e w5 ⟨rfl, hM5, hT5⟩
                have hm5 := hide hM5
                have ht5 := hide hT5
                clear hM5 hT5
                go_wp2
                go_roundg g
                case measure => omega
                case rel =>
                  have hb0 : Below w.heap.size w w4 := HB.out.trans (hb.mono HB.out.size)
                  exact ⟨k + 1, layI m j, by omega, by go_num, by
                    show prs (layI m j) (k + 1) (s.data.toList.drop (k + 1)) = R
                    rw [← HP.out, drop_getD (by omega : k < s.data.toList.length)]
                    simp only [prs]
                    rw [stepM_some hj7 HF.out (by rw [HF2.out, HG.out, HY.out, HA.out]; simp)],
                    (HM0.out.below hb).keep ht5.out (by omega), hm5.out, (HL.out.below hb).keep ht5.out (by omega), hb0.trans (ht5.out.below (B := w.heap.size) (by intro k e; omega) hb0.size)⟩
          · have hgd : (((sg[j]?.getD 0).toNat : Int) == ((s[k]'hkz').toNat : Int)) = false := by
              rw [hidx]
              simp only [beq_eq_false_iff_ne, ne_eq]
              intro e
              exact hsg (UInt8.toNat_inj.1 (by omega))
            have HI := hide hidx
            have HG := hide hsg
            clear hidx hsg
            go_region
            go_wp2
            go_roundg g2
            case measure => omega
            case rel => exact ⟨j + 1, by omega, by go_num, fun i hi => by
              by_cases hij : i < j
              · exact HF.out i hij
              · rw [show i = j by omega, HF2.out, decide_eq_false HG.out, Bool.false_and], HM0.out.below HBa.out.drew, HMa.out.below (Below.refl _ _).drew, HL.out.below HBa.out.drew, (HB.out.trans (HBa.out.mono HB.out.size)).drew⟩
end Go.Proofs.Ytbffnamdpmjfnaa
