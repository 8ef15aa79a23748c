/- Openmode: spell. -/
import Derived.Test.YtbffnamdpmjfnaaOmLet
namespace Go.Proofs.Ytbffnamdpmjfnaa
open Go.RowKit

/-- The letters. -/
def sg : List UInt8 := [114, 119, 97, 43, 98, 120, 101]
def hasI (m : Mo) : List Bool := [m.rd && !m.cr, m.tr, m.ap, m.rd && m.wr, m.bi, m.ex, m.ma]
/-- The letters of a mode, of the first k. -/
def splK (m : Mo) : Nat → List UInt8
  | 0 => []
  | k + 1 => splK m k ++ (if (hasI m).getD k false then [sg.getD k 0] else [])
theorem splK_len (m : Mo) (k : Nat) : (splK m k).length ≤ k := by
  induction k with
  | zero => exact Nat.le_refl _
  | succ k ih => simp only [splK, List.length_append]; split <;> simp <;> omega
def spl (m : Mo) : List UInt8 := splK m 7
/-- The has of the letter k. -/
def hasF : Nat → FuncId
  | 0 => 51
  | 1 => 53
  | 2 => 55
  | 3 => 58
  | 4 => 60
  | 5 => 63
  | _ => 65

/-- The may of the letter k. -/
def mayF : Nat → FuncId
  | 0 => 44
  | 1 => 44
  | 2 => 44
  | 3 => 56
  | 4 => 56
  | 5 => 61
  | _ => 56
/-- The lay of the letter k. -/
def layF : Nat → FuncId
  | 0 => 50
  | 1 => 52
  | 2 => 54
  | 3 => 57
  | 4 => 59
  | 5 => 62
  | _ => 64
def mayI (m : Mo) : List Bool := [isNone m, isNone m, isNone m, !isNone m, !isNone m, m.tr, !isNone m]
def layI (m : Mo) : Nat → Mo
  | 0 => { m with rd := true }
  | 1 => { m with wr := true, cr := true, tr := true }
  | 2 => { m with wr := true, ap := true, cr := true }
  | 3 => { m with rd := true, wr := true }
  | 4 => { m with bi := true }
  | 5 => { m with ex := true }
  | _ => { m with ma := true }
theorem omay_any (m : Mo) (k : Nat) (hk : k < 7) (w : World) : Calls Try.prog (mayF k) #[mv m] w fun e w' => e = .returned (.bool ((mayI m).getD k false)) ∧ Below w.heap.size w w' := by
  match k, hk with
  | 0, _ => exact isNone_any m w
  | 1, _ => exact isNone_any m w
  | 2, _ => exact isNone_any m w
  | 3, _ => exact isBegun_any m w
  | 4, _ => exact isBegun_any m w
  | 5, _ => exact omay_x m w
  | 6, _ => exact isBegun_any m w
theorem olay_any (b : Nat) (m : Mo) (k : Nat) (hk : k < 7) (w : World) (h : MoAt w b m) : Calls Try.prog (layF k) #[.pointer (some ⟨b, 0, none⟩)] w fun e w' => e = .returned (.tuple #[]) ∧ MoAt w' b (layI m k) ∧ Turned (fun k => k = b) w w' := by
  match k, hk with
  | 0, _ => exact olay_r b m w h
  | 1, _ => exact olay_w b m w h
  | 2, _ => exact olay_a b m w h
  | 3, _ => exact olay_p b m w h
  | 4, _ => exact olay_b b m w h
  | 5, _ => exact olay_x b m w h
  | 6, _ => exact olay_e b m w h
theorem ohas_any (m : Mo) (k : Nat) (hk : k < 7) (w : World) : Calls Try.prog (hasF k) #[mv m] w fun e w' => e = .returned (.bool ((hasI m).getD k false)) ∧ Below w.heap.size w w' := by
  match k, hk with
  | 0, _ => exact ohas_r m w
  | 1, _ => exact ohas_w m w
  | 2, _ => exact ohas_a m w
  | 3, _ => exact ohas_p m w
  | 4, _ => exact ohas_b m w
  | 5, _ => exact ohas_x m w
  | 6, _ => exact ohas_e m w
set_option maxRecDepth 100000 in
theorem enter_has {k : Nat} (hk : k < 7) (a : Array Value) (w : World) : (callFunc (hasF k) a).run Try.prog w = .ok (.enter (hasF k) a) w := by
  match k, hk with
  | 0, _ => exact (by kernel_rfl : (callFunc 51 a).run Try.prog w = .ok (.enter 51 a) w)
  | 1, _ => exact (by kernel_rfl : (callFunc 53 a).run Try.prog w = .ok (.enter 53 a) w)
  | 2, _ => exact (by kernel_rfl : (callFunc 55 a).run Try.prog w = .ok (.enter 55 a) w)
  | 3, _ => exact (by kernel_rfl : (callFunc 58 a).run Try.prog w = .ok (.enter 58 a) w)
  | 4, _ => exact (by kernel_rfl : (callFunc 60 a).run Try.prog w = .ok (.enter 60 a) w)
  | 5, _ => exact (by kernel_rfl : (callFunc 63 a).run Try.prog w = .ok (.enter 63 a) w)
  | 6, _ => exact (by kernel_rfl : (callFunc 65 a).run Try.prog w = .ok (.enter 65 a) w)
set_option maxRecDepth 100000 in
theorem enter_may {k : Nat} (hk : k < 7) (a : Array Value) (w : World) : (callFunc (mayF k) a).run Try.prog w = .ok (.enter (mayF k) a) w := by
  match k, hk with
  | 0, _ => exact (by kernel_rfl : (callFunc 44 a).run Try.prog w = .ok (.enter 44 a) w)
  | 1, _ => exact (by kernel_rfl : (callFunc 44 a).run Try.prog w = .ok (.enter 44 a) w)
  | 2, _ => exact (by kernel_rfl : (callFunc 44 a).run Try.prog w = .ok (.enter 44 a) w)
  | 3, _ => exact (by kernel_rfl : (callFunc 56 a).run Try.prog w = .ok (.enter 56 a) w)
  | 4, _ => exact (by kernel_rfl : (callFunc 56 a).run Try.prog w = .ok (.enter 56 a) w)
  | 5, _ => exact (by kernel_rfl : (callFunc 61 a).run Try.prog w = .ok (.enter 61 a) w)
  | 6, _ => exact (by kernel_rfl : (callFunc 56 a).run Try.prog w = .ok (.enter 56 a) w)
set_option maxRecDepth 100000 in
theorem enter_lay {k : Nat} (hk : k < 7) (a : Array Value) (w : World) : (callFunc (layF k) a).run Try.prog w = .ok (.enter (layF k) a) w := by
  match k, hk with
  | 0, _ => exact (by kernel_rfl : (callFunc 50 a).run Try.prog w = .ok (.enter 50 a) w)
  | 1, _ => exact (by kernel_rfl : (callFunc 52 a).run Try.prog w = .ok (.enter 52 a) w)
  | 2, _ => exact (by kernel_rfl : (callFunc 54 a).run Try.prog w = .ok (.enter 54 a) w)
  | 3, _ => exact (by kernel_rfl : (callFunc 57 a).run Try.prog w = .ok (.enter 57 a) w)
  | 4, _ => exact (by kernel_rfl : (callFunc 59 a).run Try.prog w = .ok (.enter 59 a) w)
  | 5, _ => exact (by kernel_rfl : (callFunc 62 a).run Try.prog w = .ok (.enter 62 a) w)
  | 6, _ => exact (by kernel_rfl : (callFunc 64 a).run Try.prog w = .ok (.enter 64 a) w)
theorem oone_cell {w : World} {x : Value} {t : TypeId} {j : Nat} {u : Value} (h : [x][j]? = some u) : (w.alloc (Obj.cells #[x] t)).cell? (Addr.add ⟨w.heap.size, 0, none⟩ j) = some u := by
  match j with
  | 0 => rw [show Addr.add ⟨w.heap.size, 0, none⟩ 0 = ⟨w.heap.size, 0, none⟩ from rfl, cell_of_row _ _ 0 _ _ _ (heap_alloc_new _ _)]; exact h
  | j + 1 => simp at h
theorem store_func (w : World) (a : Addr) (f : FuncId) : (store a (.func (.func f) #[] #[]) .plain).run Try.prog w = stored Try.prog w a (.func (.func f) #[] #[]) .plain := run_store Try.prog w a _ _ rfl
theorem ltc_cells {W : World} {b : Nat} (h : Lt W b) {k : Nat} (hk : k < 7) :
    W.cell? ⟨b, k * 4, none⟩ = some (.int .u8 ((sg.getD k 0).toNat : Int)) ∧ W.cell? ⟨b, k * 4 + 1, none⟩ = some (.func (.func (mayF k)) #[] #[]) ∧ W.cell? ⟨b, k * 4 + 2, none⟩ = some (.func (.func (layF k)) #[] #[]) ∧ W.cell? ⟨b, k * 4 + 3, none⟩ = some (.func (.func (hasF k)) #[] #[]) := by
  match k, hk with
  | 0, _ => exact ⟨h.cell 0, h.cell 1, h.cell 2, h.cell 3⟩
  | 1, _ => exact ⟨h.cell 4, h.cell 5, h.cell 6, h.cell 7⟩
  | 2, _ => exact ⟨h.cell 8, h.cell 9, h.cell 10, h.cell 11⟩
  | 3, _ => exact ⟨h.cell 12, h.cell 13, h.cell 14, h.cell 15⟩
  | 4, _ => exact ⟨h.cell 16, h.cell 17, h.cell 18, h.cell 19⟩
  | 5, _ => exact ⟨h.cell 20, h.cell 21, h.cell 22, h.cell 23⟩
  | 6, _ => exact ⟨h.cell 24, h.cell 25, h.cell 26, h.cell 27⟩
set_option maxRecDepth 100000 in
set_option maxHeartbeats 1000000 in
theorem ospell_any (m : Mo) (w : World) : Calls Try.prog 31 #[mv m] w fun e w' => e = .returned (.string ⟨(spl m).toArray⟩) ∧ Below w.heap.size w w' := by
  obtain ⟨i0, hi, hz0, hz1, hz2⟩ := info_parts Try.infoB
  have hl := hide fun w => oletters_any w
  have hh := hide (ohas_any m)
  generalize hR : spl m = R
  have HR := hide hR
  clear hR
  have hmv : mv m = .agg (mc m) := rfl
  rw [hmv] at hh ⊢
  go_enter Try.func31, Try.ntmps31
  go_wp2_with fail
  refine (hl.out _).mono ?_
  rintro e w1 ⟨rfl, hL, hB1⟩
  have hM : MoAt w1 w.heap.size m := (show MoAt (w.alloc (Obj.cells (mc m) 34)) w.heap.size m from heap_alloc_new _ _).below hB1
  have hB0 := ((Below.refl w.heap.size w).alloc (Nat.le_refl _) (Obj.cells (mc m) 34)).trans (hB1.mono (Nat.le_of_lt (size_new _ _)))
  rw [show (w.alloc (Obj.cells (mc m) 34)).heap.size = w.heap.size + 1 by simp] at hL
  have hs1 : w.heap.size + 2 ≤ w1.heap.size := hL.lt
  clear hB1 hl
  go_wp2
  go_loopw [3, 8] (fun s i wr => ∃ k : Nat, k ≤ 7 ∧ i = .int .i64 k ∧ wr.ownsRow (w.heap.size + 2) 5 1 s (splK m k).length ((splK m k).map bv) ∧ Lt wr (w.heap.size + 1) ∧ MoAt wr w.heap.size m ∧ Below w.heap.size w wr) (fun _ i _ => 7 - (intOf i).toNat)
  case atStart => exact ⟨0, by omega, rfl, ⟨rfl, .inl ⟨rfl, rfl⟩⟩, hL, hM, hB0⟩
  case round =>
    clear hL hM hB0 hs1
    obtain ⟨k, hk, rfl, hown, hL, hM, hB⟩ := hrel
    obtain ⟨a0, n0, rfl⟩ := owns_slice hown
    by_cases hlt : k < 7
    · have hk1 : (0 : Int) ≤ (k : Int) := by omega
      have hk2 : (k : Int) < 7 := by omega
      obtain ⟨e0, e1, e2, e3⟩ := ltc_cells hL hlt
      have hc := hh.out k hlt
      have HL := hide hL
      have HM := hide hM
      have HO := hide hown
      have HB := hide hB
      clear hL hM hown hB hh
      have b0 : (w.heap.size + 1 : Nat) < wr.heap.size := HL.out.lt
      have hm0 : ∀ o, (wr.alloc o).cell? ⟨w.heap.size, 0, none⟩ = some (.bool m.rd) := fun o => (HM.out.below ((Below.refl _ _).alloc (Nat.le_refl _) o)).cell 0
      have hm1 : ∀ o, (wr.alloc o).cell? ⟨w.heap.size, 1, none⟩ = some (.bool m.wr) := fun o => (HM.out.below ((Below.refl _ _).alloc (Nat.le_refl _) o)).cell 1
      have hm2 : ∀ o, (wr.alloc o).cell? ⟨w.heap.size, 2, none⟩ = some (.bool m.ap) := fun o => (HM.out.below ((Below.refl _ _).alloc (Nat.le_refl _) o)).cell 2
      have hm3 : ∀ o, (wr.alloc o).cell? ⟨w.heap.size, 3, none⟩ = some (.bool m.cr) := fun o => (HM.out.below ((Below.refl _ _).alloc (Nat.le_refl _) o)).cell 3
      have hm4 : ∀ o, (wr.alloc o).cell? ⟨w.heap.size, 4, none⟩ = some (.bool m.tr) := fun o => (HM.out.below ((Below.refl _ _).alloc (Nat.le_refl _) o)).cell 4
      have hm5 : ∀ o, (wr.alloc o).cell? ⟨w.heap.size, 5, none⟩ = some (.bool m.ex) := fun o => (HM.out.below ((Below.refl _ _).alloc (Nat.le_refl _) o)).cell 5
      have hm6 : ∀ o, (wr.alloc o).cell? ⟨w.heap.size, 6, none⟩ = some (.bool m.bi) := fun o => (HM.out.below ((Below.refl _ _).alloc (Nat.le_refl _) o)).cell 6
      have hm7 : ∀ o, (wr.alloc o).cell? ⟨w.heap.size, 7, none⟩ = some (.bool m.ma) := fun o => (HM.out.below ((Below.refl _ _).alloc (Nat.le_refl _) o)).cell 7
      have hsf := store_func
      have hen := enter_has hlt
      go_wp2_with fail
      refine (hc _).mono ?_
      rintro e w2 ⟨rfl, hB2⟩
      have hBa := ((Below.refl wr.heap.size wr).alloc (Nat.le_refl _) _).trans (hB2.mono (Nat.le_of_lt (size_new _ _)))
      have q0 := (hB2.cell (p := ⟨wr.heap.size, 0, none⟩) (size_new _ _)).trans (cell_of_row _ _ 0 _ _ _ (heap_alloc_new _ _))
      have hownA := owns_below HO.out hBa
      clear hm0 hm1 hm2 hm3 hm4 hm5 hm6 hm7 e0 e1 e2 e3 hc hsf
      cases hq : (hasI m).getD k false with
      | false =>
        have HQ := hide hq
        go_wp2
        go_roundw
        case rel => exact ⟨k + 1, by omega, by go_num, by simp only [splK]; rw [HQ.out]; simpa using hownA, HL.out.below hBa, HM.out.below hBa, HB.out.trans (hBa.mono HB.out.size)⟩
        case measure => simp [intOf]; omega
      | true =>
        have HQ := hide hq
        have hln := splK_len m k
        have q1 : w2.cell? ⟨wr.heap.size, 0, none⟩ = some (.int .u8 (sg[k]?.getD 0).toNat) := q0
        have hsz : w.heap.size + 2 ≤ w2.heap.size := Nat.le_trans b0 hBa.size
        clear hen q0
        have HBa := hide hBa
        have HOA := hide hownA
        clear hBa hB2 hownA
        go_wp2_with (at_builtin; refine wpList_append_own _ rfl _ _ 28 rfl (w.heap.size + 2) 5 i0 (.int .u8 0) 1 1 Try.underlying28 hi hz0 hz1 hz2 rfl (by decide) _ _ _ rfl (HOA.out.alloc _) ⟨w2.heap.size, 0, none⟩ 1 1 [.int .u8 (sg[k]?.getD 0).toNat] rfl rfl (fun j u hj => oone_cell hj) (by simp [Value.oneCell']) (by unfold maxLen; omega) (by omega) (by simp; omega) ?_; intro v' w4 hown4 hgrow4 hnil4)
        have hBg : Below (w.heap.size + 2) w2 w4 := ((Below.refl _ _).alloc hsz _).grown hgrow4 (by simp; omega) (fun k e => (HOA.out.lt k e).1)
        have hM4 : MoAt w4 w.heap.size m := (hBg.block _ (by omega)).trans (HM.out.below HBa.out)
        have hL4 : Lt w4 (w.heap.size + 1) := (hBg.block _ (by omega)).trans (HL.out.below HBa.out)
        go_roundw
        case rel => exact ⟨k + 1, by omega, by go_num, by simp only [splK]; rw [HQ.out]; simpa [bv] using hown4, hL4, hM4, (HB.out.trans (HBa.out.mono HB.out.size)).trans (hBg.mono (by omega))⟩
        case measure => simp [intOf]; omega
    · obtain rfl : k = 7 := by omega
      have hst := owns_string hown
      have HL := hide hL
      have HM := hide hM
      have HO := hide hown
      have HB := hide hB
      clear hL hM hown hB hh
      go_wp2
      go_ret
      exact ⟨by rw [← HR.out]; rfl, HB.out⟩
end Go.Proofs.Ytbffnamdpmjfnaa
