/- What the proof stands on, part 13: the contracts of the program's calls that it reaches. -/
import Derived.Test.YtkgbhcpeoaefjaaGreatKM12
import Derived.Deep.RegionHeld3
/- Openmode: the reference's Parse. -/
namespace Go.Proofs.YtkgbhcpeoaefjaaGreat
open Go.RowKit

/-- Does c stand behind the first byte, ahead of the place k? -/
def sn (l : List UInt8) (c : UInt8) (k : Nat) : Bool := (List.range k).any fun j => decide (1 ≤ j) && decide (l.getD j 0 = c)
theorem sn_succ (l : List UInt8) (c : UInt8) (k : Nat) (h : 1 ≤ k) : sn l c (k + 1) = (sn l c k || decide (l.getD k 0 = c)) := by
  simp [sn, List.range_succ, h]
theorem sn_one (l : List UInt8) (c : UInt8) : sn l c 1 = false := by simp [sn]
/-- The mode that the first i bytes say, where the first one is number f. -/
def moI (f : Nat) (l : List UInt8) (i : Nat) : Mo := mo f (sn l 43 i) (sn l 98 i) (sn l 101 i) (sn l 120 i)
def lead : Nat → UInt8
  | 0 => 114
  | 1 => 119
  | _ => 97
theorem moI_one (f : Nat) (l : List UInt8) : moI f l 1 = mo f false false false false := by simp only [moI, sn_one]
theorem moI_step {f : Nat} (hf : f < 3) {l : List UInt8} {i : Nat} : stepM (moI f l i) (l.getD i 0) = nextM f (sn l 43 i) (sn l 98 i) (sn l 101 i) (sn l 120 i) (l.getD i 0) := step_next f hf _ _ _ _ _
theorem moI_twice {f : Nat} (hf : f < 3) {l : List UInt8} {i : Nat} (h : sn l (l.getD i 0) i = true) : stepM (moI f l i) (l.getD i 0) = none := by
  rw [moI_step hf]
  generalize l.getD i 0 = c at *
  unfold nextM
  by_cases h1 : c = 43
  · subst h1; simp [h]
  by_cases h2 : c = 98
  · subst h2; simp [h]
  by_cases h3 : c = 101
  · subst h3; simp [h]
  by_cases h4 : c = 120
  · subst h4; simp [h]
  simp [h1, h2, h3, h4]
theorem moI_plus {f : Nat} (hf : f < 3) {l : List UInt8} {i : Nat} (hi : 1 ≤ i) (h : sn l (l.getD i 0) i = false) (hc : l.getD i 0 = 43) : stepM (moI f l i) (l.getD i 0) = some (moI f l (i + 1)) := by
  rw [moI_step hf]
  rw [hc] at h ⊢
  simp only [moI, sn_succ _ _ _ hi, hc, nextM, h]
  simp
theorem moI_b {f : Nat} (hf : f < 3) {l : List UInt8} {i : Nat} (hi : 1 ≤ i) (h : sn l (l.getD i 0) i = false) (hc : l.getD i 0 = 98) : stepM (moI f l i) (l.getD i 0) = some (moI f l (i + 1)) := by
  rw [moI_step hf]
  rw [hc] at h ⊢
  simp only [moI, sn_succ _ _ _ hi, hc, nextM, h]
  simp
theorem moI_e {f : Nat} (hf : f < 3) {l : List UInt8} {i : Nat} (hi : 1 ≤ i) (h : sn l (l.getD i 0) i = false) (hc : l.getD i 0 = 101) : stepM (moI f l i) (l.getD i 0) = some (moI f l (i + 1)) := by
  rw [moI_step hf]
  rw [hc] at h ⊢
  simp only [moI, sn_succ _ _ _ hi, hc, nextM, h]
  simp
theorem moI_x {l : List UInt8} {i : Nat} (hi : 1 ≤ i) (h : sn l (l.getD i 0) i = false) (hc : l.getD i 0 = 120) : stepM (moI 1 l i) (l.getD i 0) = some (moI 1 l (i + 1)) := by
  rw [moI_step (by decide)]
  rw [hc] at h ⊢
  simp only [moI, sn_succ _ _ _ hi, hc, nextM, h]
  simp
theorem moI_nox {f : Nat} (hf : f < 3) (h1 : f ≠ 1) {l : List UInt8} {i : Nat} (hc : l.getD i 0 = 120) : stepM (moI f l i) (l.getD i 0) = none := by
  rw [moI_step hf]
  rw [hc]
  simp [nextM, h1]
theorem moI_other {f : Nat} (hf : f < 3) {l : List UInt8} {i : Nat} (h1 : l.getD i 0 ≠ 43) (h2 : l.getD i 0 ≠ 98) (h3 : l.getD i 0 ≠ 101) (h4 : l.getD i 0 ≠ 120) : stepM (moI f l i) (l.getD i 0) = none := by
  rw [moI_step hf]
  simp only [nextM, h1, h2, h3, h4, if_false]
theorem moI_begun {f : Nat} (hf : f < 3) (l : List UInt8) (i : Nat) : isNone (moI f l i) = false := by
  match f, hf with
  | 0, _ => simp [moI, mo, isNone]
  | 1, _ => simp [moI, mo, isNone]
  | 2, _ => simp [moI, mo, isNone]
theorem prs_next {m : Mo} {i : Nat} {l : List UInt8} (hi : i < l.length) {m' : Mo} (h : stepM m (l.getD i 0) = some m') : prs m i (l.drop i) = prs m' (i + 1) (l.drop (i + 1)) := by
  rw [drop_getD hi]; simp only [prs, h]
theorem prs_stop {m : Mo} {i : Nat} {l : List UInt8} (hi : i < l.length) (h : stepM m (l.getD i 0) = none) : prs m i (l.drop i) = (mo0, 91, i) := by
  rw [drop_getD hi]; simp only [prs, h]
theorem at_getD {s : ByteArray} {k : Nat} (h : k < s.size) : s[k]'h = s.data.toList.getD k 0 := by
  rw [List.getD_eq_getElem?_getD, List.getElem?_eq_getElem (by simpa using h)]
  simp [ByteArray.getElem_eq_getElem_data]
theorem u8_eq (a b : UInt8) : decide (a = b) = ((a.toNat : Int) == (b.toNat : Int)) := by
  by_cases h : a = b
  · subst h; simp
  · rw [decide_eq_false h]
    symm
    simp only [beq_eq_false_iff_ne, ne_eq]
    intro e
    exact h (UInt8.toNat_inj.1 (by omega))
theorem u8_ne {a b : UInt8} (h : a ≠ b) : ((a.toNat : Int) == (b.toNat : Int)) = false := by
  simp only [beq_eq_false_iff_ne, ne_eq]
  intro e
  exact h (UInt8.toNat_inj.1 (by omega))

theorem turned_set (W : World) (b j : Nat) (x : Bool) : Turned (fun k => k = b) W (W.setCell ⟨b, j, none⟩ (.bool x)) := Turned.set (S := fun k => k = b) (Turned.refl _ _) (.inl rfl)
theorem moI_pl {f : Nat} (hf : f < 3) {l : List UInt8} {i : Nat} (hi : 1 ≤ i) (hc : l.getD i 0 = 43) : moI f l (i + 1) = { moI f l i with rd := true, wr := true } := by
  simp only [moI, sn_succ _ _ _ hi, hc]
  match f, hf with
  | 0, _ => simp [mo]
  | 1, _ => simp [mo]
  | 2, _ => simp [mo]
theorem moI_bi {f : Nat} (hf : f < 3) {l : List UInt8} {i : Nat} (hi : 1 ≤ i) (hc : l.getD i 0 = 98) : moI f l (i + 1) = { moI f l i with bi := true } := by
  simp only [moI, sn_succ _ _ _ hi, hc]
  match f, hf with
  | 0, _ => simp [mo]
  | 1, _ => simp [mo]
  | 2, _ => simp [mo]
theorem moI_ma {f : Nat} (hf : f < 3) {l : List UInt8} {i : Nat} (hi : 1 ≤ i) (hc : l.getD i 0 = 101) : moI f l (i + 1) = { moI f l i with ma := true } := by
  simp only [moI, sn_succ _ _ _ hi, hc]
  match f, hf with
  | 0, _ => simp [mo]
  | 1, _ => simp [mo]
  | 2, _ => simp [mo]
theorem moI_ex {f : Nat} (hf : f < 3) {l : List UInt8} {i : Nat} (hi : 1 ≤ i) (hc : l.getD i 0 = 120) : moI f l (i + 1) = { moI f l i with ex := true } := by
  simp only [moI, sn_succ _ _ _ hi, hc]
  match f, hf with
  | 0, _ => simp [mo]
  | 1, _ => simp [mo]
  | 2, _ => simp [mo]

end Go.Proofs.YtkgbhcpeoaefjaaGreat

/- Openmode: Check, Print, Flags of both. -/
namespace Go.Proofs.YtkgbhcpeoaefjaaGreat
open Go.RowKit

theorem spl_len (m : Mo) : (spl m).length ≤ 7 := splK_len m 7
/-- What Check answers. -/
def chkM (m : Mo) : Int := if (prs mo0 0 (spl m)).2.1 = 0 ∧ (prs mo0 0 (spl m)).1 = m then 0 else 91
set_option maxRecDepth 100000 in
set_option maxHeartbeats 1000000 in
theorem ocheck_any (m : Mo) (w : World) : Calls Tryz.prog 48 #[mv m] w fun e w' => e = .returned (.int .i64 (chkM m)) ∧ Below w.heap.size w w' := by
  generalize hR : chkM m = R
  have HR := hide hR
  clear hR
  have hsp := hide (ospell_any m)
  have hpr := hide (fun w => oparse_any ⟨(spl m).toArray⟩ w (by have := spl_len m; unfold maxLen; simp [ByteArray.size]; omega))
  simp only at hpr
  unfold chkM at HR
  generalize hq : prs mo0 0 (spl m) = q at *
  have HQ := hide hq
  clear hq
  obtain ⟨x, e, n⟩ := q
  simp only [mv] at hsp hpr ⊢
  go_enter Tryz.func48, Tryz.ntmps48
  go_wp2_with fail
  refine (hsp.out _).mono ?_
  rintro e1 w1 ⟨rfl, hB1⟩
  go_wp2_with fail
  refine (hpr.out _).mono ?_
  rintro e2 w2 ⟨rfl, hB2⟩
  have hA : MoAt (w.alloc (Obj.cells (mc m) 53)) w.heap.size m := heap_alloc_new _ _
  have hB12 := hB1.trans (hB2.mono hB1.size)
  have hM2 : ∀ o, MoAt (w2.alloc o) w.heap.size m := fun o => (hA.below hB12).below ((Below.refl _ _).alloc (Nat.le_refl _) o)
  have hBB : Below w.heap.size w w2 := ((Below.refl w.heap.size w).alloc (Nat.le_refl _) _).trans (hB12.mono (Nat.le_of_lt (size_new _ _)))
  have c0 := fun o => (hM2 o).mc.1
  have c1 := fun o => (hM2 o).mc.2.1
  have c2 := fun o => (hM2 o).mc.2.2.1
  have c3 := fun o => (hM2 o).mc.2.2.2.1
  have c4 := fun o => (hM2 o).mc.2.2.2.2.1
  have c5 := fun o => (hM2 o).mc.2.2.2.2.2.1
  have c6 := fun o => (hM2 o).mc.2.2.2.2.2.2.1
  have c7 := fun o => (hM2 o).mc.2.2.2.2.2.2.2
  have HBB := hide hBB
  clear hB1 hB2 hB12 hM2 hA hBB hsp hpr
  by_cases he : e = 0
  · subst he
    have hr : R = if x = m then 0 else 91 := by rw [← HR.out]; simp
    have HRR := hide hr
    clear hr
    go_wp2
    all_goals go_ret
    all_goals refine ⟨ret_int ?_, HBB.out.alloc HBB.out.size _⟩
    all_goals rw [HRR.out]
    all_goals
      by_cases hxm : x = m
      · first | (rw [if_pos hxm]; done) | (exfalso; subst hxm; simp_all; done)
      · first | (rw [if_neg hxm]; done) | (exfalso; refine hxm ?_; cases x; cases m; simp_all; done)
  · have hr : R = 91 := by rw [← HR.out]; simp [he]
    subst hr
    go_wp2
    all_goals go_ret
    all_goals exact ⟨rfl, HBB.out.alloc HBB.out.size _⟩
theorem rspl_len (m : Mo) : (rspl m).length ≤ 7 := by
  simp only [rspl, List.length_append]
  repeat' split
  all_goals simp
/-- What the reference's Check answers. -/
def chkR (m : Mo) : Int := if (prs mo0 0 (rspl m)).2.1 = 0 ∧ (prs mo0 0 (rspl m)).1 = m then 0 else 91
theorem chk_same (m : Mo) : chkR m = chkM m := by
  obtain ⟨a, b, c, d, e, f, g, h⟩ := m
  revert a b c d e f g h
  decide +kernel
theorem chk_two (m : Mo) : chkM m = 0 ∨ chkM m = 91 := by unfold chkM; split <;> simp
theorem spl_same (m : Mo) (hm : chkM m = 0) : rspl m = spl m := by
  obtain ⟨a, b, c, d, e, f, g, h⟩ := m
  revert hm
  revert a b c d e f g h
  decide +kernel
end Go.Proofs.YtkgbhcpeoaefjaaGreat

/- Openmode: Print and Flags of both. -/
namespace Go.Proofs.YtkgbhcpeoaefjaaGreat
open Go.RowKit

theorem mode_new {m : Mo} {w w1 : World} (h : Below (w.alloc (Obj.cells (mc m) 53)).heap.size (w.alloc (Obj.cells (mc m) 53)) w1) : Mc w1 w.heap.size m ∧ Below w.heap.size w w1 ∧ MoAt w1 w.heap.size m :=
  ⟨MoAt.mc ((show MoAt (w.alloc (Obj.cells (mc m) 53)) w.heap.size m from heap_alloc_new _ _).below h), ((Below.refl w.heap.size w).alloc (Nat.le_refl _) _).trans (h.mono (Nat.le_of_lt (size_new _ _))), (show MoAt (w.alloc (Obj.cells (mc m) 53)) w.heap.size m from heap_alloc_new _ _).below h⟩
/-- What Print answers. -/
def prt (m : Mo) : List UInt8 := if chkM m = 0 then spl m else []
set_option maxRecDepth 100000 in
set_option maxHeartbeats 1000000 in
theorem oprint_any (m : Mo) (w : World) : Calls Tryz.prog 45 #[mv m] w fun e w' => e = .returned (.tuple #[.string ⟨(prt m).toArray⟩, .int .i64 (chkM m)]) ∧ Below w.heap.size w w' := by
  have hch := hide (ocheck_any m)
  have hsp := hide (ospell_any m)
  simp only [mv] at hch hsp ⊢
  rcases chk_two m with h | h
  · have hp : prt m = spl m := by simp [prt, h]
    rw [hp]
    rw [h] at hch ⊢
    clear hp h
    go_enter Tryz.func45, Tryz.ntmps45
    go_wp2_with fail
    refine (hch.out _).mono ?_
    rintro e1 w1 ⟨rfl, hB1⟩
    obtain ⟨⟨c0, c1, c2, c3, c4, c5, c6, c7⟩, hBB, -⟩ := mode_new (m := m) hB1
    clear hB1
    go_wp2_with fail
    refine (hsp.out _).mono ?_
    rintro e2 w2 ⟨rfl, hB2⟩
    go_wp2
    go_ret2
    exact ⟨rfl, hBB.trans (hB2.mono hBB.size)⟩
  · have hp : prt m = [] := by simp [prt, h]
    rw [hp]
    rw [h] at hch ⊢
    clear hp h
    go_enter Tryz.func45, Tryz.ntmps45
    go_wp2_with fail
    refine (hch.out _).mono ?_
    rintro e1 w1 ⟨rfl, hB1⟩
    obtain ⟨⟨c0, c1, c2, c3, c4, c5, c6, c7⟩, hBB, -⟩ := mode_new (m := m) hB1
    clear hB1
    go_wp2
    go_ret2
    exact ⟨rfl, hBB⟩
/-- The flags of a mode, of the first k. -/
def flI (m : Mo) : List Bool := [m.rd, m.wr, m.ap, m.cr, m.tr, m.ex]
def flK (m : Mo) : Nat → Int
  | 0 => 0
  | k + 1 => flK m k + (if (flI m).getD k false then 2 ^ k else 0)
theorem bool_info : (Tryz.prog.info? 4).map (fun i => i.size) = some 1 := by kernel_rfl
theorem index_flag (m : Mo) (k : Nat) (hk : k < 6) (W : World) : (Instr.index 127 (.agg #[.bool m.rd, .bool m.wr, .bool m.ap, .bool m.cr, .bool m.tr, .bool m.ex]) (.int .i64 (k : Int))).run Tryz.prog W = .ok (.bool ((flI m).getD k false)) W := by
  have hu := Tryz.underlying127
  have hi := bool_info
  cases hq : Tryz.prog.info? 4 with
  | none => rw [hq] at hi; cases hi
  | some i =>
    rw [hq] at hi
    have hs : i.size = 1 := by simpa using hi
    have ha := Tryz.isAgg4
    rcases (show k = 0 ∨ k = 1 ∨ k = 2 ∨ k = 3 ∨ k = 4 ∨ k = 5 by omega) with rfl | rfl | rfl | rfl | rfl | rfl
    all_goals
      unfold Instr.index
      simp [asIntOf, Sem.run_bind, run_underlying hu W, part, sizeOf, typeInfo, hq, hs, flI, ha]
theorem flK_succ (m : Mo) (k : Nat) : flK m (k + 1) = flK m k + (if (flI m).getD k false then 2 ^ k else 0) := rfl
theorem flK_bd (m : Mo) (k : Nat) (hk : k ≤ 6) : 0 ≤ flK m k ∧ flK m k ≤ 63 := by
  have h : ∀ k, k ≤ 6 → 0 ≤ flK m k ∧ flK m k ≤ 2 ^ k - 1 := by
    intro k
    induction k with
    | zero => intro _; exact ⟨Int.le_refl _, by simp [flK]⟩
    | succ k ih =>
      intro hk
      obtain ⟨h1, h2⟩ := ih (by omega)
      rw [flK_succ]
      have h3 : (0 : Int) < 2 ^ k := Int.pow_pos (by decide)
      have h4 : (2 : Int) ^ (k + 1) = 2 ^ k * 2 := Int.pow_succ _ _
      split <;> omega
  obtain ⟨h1, h2⟩ := h k hk
  refine ⟨h1, Int.le_trans h2 ?_⟩
  have : ∀ k, k ≤ 6 → (2 : Int) ^ k - 1 ≤ 63 := by decide
  exact this k hk
/-- What Flags answers. -/
def flg (m : Mo) : Int := if chkM m = 0 then flK m 6 else 0
set_option maxRecDepth 100000 in
set_option maxHeartbeats 1000000 in
theorem oflags_any (m : Mo) (w : World) : Calls Tryz.prog 21 #[mv m] w fun e w' => e = .returned (.tuple #[.int .i64 (flg m), .int .i64 (chkM m)]) ∧ Below w.heap.size w w' := by
  have hch := hide (ocheck_any m)
  simp only [mv] at hch ⊢
  rcases chk_two m with h | h
  · have hp : flg m = flK m 6 := by simp [flg, h]
    rw [hp]
    rw [h] at hch ⊢
    clear hp h
    generalize hR : flK m 6 = R
    have HR := hide hR
    clear hR
    go_enter Tryz.func21, Tryz.ntmps21
    go_wp2_with fail
    refine (hch.out _).mono ?_
    rintro e1 w1 ⟨rfl, hB1⟩
    obtain ⟨⟨c0, c1, c2, c3, c4, c5, c6, c7⟩, hBB, -⟩ := mode_new (m := m) hB1
    clear hB1
    go_wp2
    go_loopg [5, 26] 6 (fun g s5 s26 wx => ∃ k : Nat, k + g = 6 ∧ s26 = .int .i64 k ∧ s5 = .int .i64 (flK m k) ∧ Hid (w1 = wx))
    case atStart => exact ⟨0, by omega, rfl, rfl, rfl⟩
    case round =>
      obtain ⟨k, hkg, rfl, rfl, HW⟩ := hrel
      have hb := flK_bd m k (by omega)
      have hsc := hide (flK_succ m k)
      have hix := hide (fun hk => index_flag m k hk wr)
      rcases (show k = 6 ∨ k = 0 ∨ k = 1 ∨ k = 2 ∨ k = 3 ∨ k = 4 ∨ k = 5 by omega) with rfl | rfl | rfl | rfl | rfl | rfl | rfl
      · clear hix
        rw [show ((6 : Nat) : Int) = 6 from rfl]
        go_wp2
        go_ret2
        exact ⟨ret2 (by rw [← HR.out]; rfl) rfl, by rw [← HW.out]; exact hBB⟩
      · have hi0 := hix.out (by decide)
        rw [show (flI m).getD 0 false = m.rd from rfl, show ((0 : Nat) : Int) = 0 from rfl] at hi0
        clear hix
        rw [show ((0 : Nat) : Int) = 0 from rfl]
        obtain hq | hq : m.rd = true ∨ m.rd = false := by cases m.rd <;> simp
        all_goals
          have HQ := hide hq
          replace hi0 := hi0.trans (congrArg (fun x => Result.ok (Value.bool x) wr) hq)
          clear hq
          go_wp2
          go_roundg 5
          case measure => omega
          case rel => exact ⟨1, by omega, rfl, by rw [hsc.out, show (flI m).getD 0 false = m.rd from rfl, HQ.out]; first | rfl | simp, HW⟩
      · have hi0 := hix.out (by decide)
        rw [show (flI m).getD 1 false = m.wr from rfl, show ((1 : Nat) : Int) = 1 from rfl] at hi0
        clear hix
        rw [show ((1 : Nat) : Int) = 1 from rfl]
        obtain hq | hq : m.wr = true ∨ m.wr = false := by cases m.wr <;> simp
        all_goals
          have HQ := hide hq
          replace hi0 := hi0.trans (congrArg (fun x => Result.ok (Value.bool x) wr) hq)
          clear hq
          go_wp2
          go_roundg 4
          case measure => omega
          case rel => exact ⟨2, by omega, rfl, by rw [hsc.out, show (flI m).getD 1 false = m.wr from rfl, HQ.out]; first | rfl | simp, HW⟩
      · have hi0 := hix.out (by decide)
        rw [show (flI m).getD 2 false = m.ap from rfl, show ((2 : Nat) : Int) = 2 from rfl] at hi0
        clear hix
        rw [show ((2 : Nat) : Int) = 2 from rfl]
        obtain hq | hq : m.ap = true ∨ m.ap = false := by cases m.ap <;> simp
        all_goals
          have HQ := hide hq
          replace hi0 := hi0.trans (congrArg (fun x => Result.ok (Value.bool x) wr) hq)
          clear hq
          go_wp2
          go_roundg 3
          case measure => omega
          case rel => exact ⟨3, by omega, rfl, by rw [hsc.out, show (flI m).getD 2 false = m.ap from rfl, HQ.out]; first | rfl | simp, HW⟩
      · have hi0 := hix.out (by decide)
        rw [show (flI m).getD 3 false = m.cr from rfl, show ((3 : Nat) : Int) = 3 from rfl] at hi0
        clear hix
        rw [show ((3 : Nat) : Int) = 3 from rfl]
        obtain hq | hq : m.cr = true ∨ m.cr = false := by cases m.cr <;> simp
        all_goals
          have HQ := hide hq
          replace hi0 := hi0.trans (congrArg (fun x => Result.ok (Value.bool x) wr) hq)
          clear hq
          go_wp2
          go_roundg 2
          case measure => omega
          case rel => exact ⟨4, by omega, rfl, by rw [hsc.out, show (flI m).getD 3 false = m.cr from rfl, HQ.out]; first | rfl | simp, HW⟩
      · have hi0 := hix.out (by decide)
        rw [show (flI m).getD 4 false = m.tr from rfl, show ((4 : Nat) : Int) = 4 from rfl] at hi0
        clear hix
        rw [show ((4 : Nat) : Int) = 4 from rfl]
        obtain hq | hq : m.tr = true ∨ m.tr = false := by cases m.tr <;> simp
        all_goals
          have HQ := hide hq
          replace hi0 := hi0.trans (congrArg (fun x => Result.ok (Value.bool x) wr) hq)
          clear hq
          go_wp2
          go_roundg 1
          case measure => omega
          case rel => exact ⟨5, by omega, rfl, by rw [hsc.out, show (flI m).getD 4 false = m.tr from rfl, HQ.out]; first | rfl | simp, HW⟩
      · have hi0 := hix.out (by decide)
        rw [show (flI m).getD 5 false = m.ex from rfl, show ((5 : Nat) : Int) = 5 from rfl] at hi0
        clear hix
        rw [show ((5 : Nat) : Int) = 5 from rfl]
        obtain hq | hq : m.ex = true ∨ m.ex = false := by cases m.ex <;> simp
        all_goals
          have HQ := hide hq
          replace hi0 := hi0.trans (congrArg (fun x => Result.ok (Value.bool x) wr) hq)
          clear hq
          go_wp2
          go_roundg 0
          case measure => omega
          case rel => exact ⟨6, by omega, rfl, by rw [hsc.out, show (flI m).getD 5 false = m.ex from rfl, HQ.out]; first | rfl | simp, HW⟩
  · have hp : flg m = 0 := by simp [flg, h]
    rw [hp]
    rw [h] at hch ⊢
    clear hp h
    go_enter Tryz.func21, Tryz.ntmps21
    go_wp2_with fail
    refine (hch.out _).mono ?_
    rintro e1 w1 ⟨rfl, hB1⟩
    obtain ⟨⟨c0, c1, c2, c3, c4, c5, c6, c7⟩, hBB, -⟩ := mode_new (m := m) hB1
    clear hB1
    go_wp2
    go_ret2
    exact ⟨rfl, hBB⟩
end Go.Proofs.YtkgbhcpeoaefjaaGreat

/- Openmode: the page's examples. -/
namespace Go.Proofs.YtkgbhcpeoaefjaaGreat
open Go.RowKit

theorem num_om (e : Int) (w : World) : Calls Tryz.prog 20 #[.int .i64 e] w fun r w' => r = .returned (.int .i64 e) ∧ w' = w := by
  go_enter Tryz.func20, Tryz.ntmps20
  go_wp2
  go_ret
  exact ⟨rfl, rfl⟩
def mo1 : Mo := ⟨true, true, false, false, false, false, true, false⟩
theorem oex1 : prs mo0 0 [114, 98, 43] = (mo1, 0, 3) := by decide +kernel
theorem oex2 : chkM mo1 = 0 ∧ prt mo1 = [114, 43, 98] := by decide +kernel
theorem oex3 : prs mo0 0 [114, 120] = (mo0, 91, 1) := by decide +kernel
set_option maxRecDepth 100000 in
set_option maxHeartbeats 1000000 in
theorem oalive_any (w : World) : Calls Tryz.prog 18 #[] w fun e w' => e = .returned (.bool true) ∧ Below w.heap.size w w' := by
  have h1 := hide (fun w => oparse_any ⟨#[114, 98, 43]⟩ w (by unfold maxLen; decide))
  have h2 := hide (oprint_any mo1)
  have h3 := hide (fun w => oparse_any ⟨#[114, 120]⟩ w (by unfold maxLen; decide))
  simp only [oex1] at h1
  simp only [oex3] at h3
  rw [oex2.1, oex2.2] at h2
  have hn := hide num_om
  simp only [mv, mo1, mo0] at h1 h2 h3
  go_enter Tryz.func18, Tryz.ntmps18
  go_wp2_with fail
  refine (h1.out _).mono ?_
  rintro e1 w1 ⟨rfl, hB1⟩
  go_wp2_with fail
  refine (h2.out _).mono ?_
  rintro e2 w2 ⟨rfl, hB2⟩
  go_wp2_with fail
  refine (h3.out _).mono ?_
  rintro e3 w3 ⟨rfl, hB3⟩
  have hM : ∀ o, MoAt (w3.alloc o) w1.heap.size mo1 := fun o => (((show MoAt (w1.alloc (Obj.cells (mc mo1) 53)) w1.heap.size mo1 from heap_alloc_new _ _).below hB2).below hB3).below ((Below.refl _ _).alloc (Nat.le_refl _) o)
  have c0 : ∀ o, (w3.alloc o).cell? ⟨w1.heap.size, 0, none⟩ = some (.bool true) := fun o => (hM o).cell 0
  have c1 : ∀ o, (w3.alloc o).cell? ⟨w1.heap.size, 1, none⟩ = some (.bool true) := fun o => (hM o).cell 1
  have c6 : ∀ o, (w3.alloc o).cell? ⟨w1.heap.size, 6, none⟩ = some (.bool true) := fun o => (hM o).cell 6
  have hBB : ∀ o, Below w.heap.size w (w3.alloc o) := fun o => by
    have q2 := (hB1.alloc hB1.size (Obj.cells (mc mo1) 53)).trans (hB2.mono (Nat.le_trans hB1.size (Nat.le_of_lt (size_new _ _))))
    have q3 := q2.trans (hB3.mono q2.size)
    exact q3.alloc q3.size o
  have HBB := hide hBB
  clear hM hBB hB1 hB2 hB3 h1 h2 h3
  go_wp2_with (go_at_call 20; refine (hn.out _ _).mono ?_; rintro e w' ⟨rfl, rfl⟩)
  go_ret
  exact ⟨rfl, HBB.out _⟩
end Go.Proofs.YtkgbhcpeoaefjaaGreat

/- Openmode: the laws. -/
namespace Go.Proofs.YtkgbhcpeoaefjaaGreat
open Go.RowKit


end Go.Proofs.YtkgbhcpeoaefjaaGreat

/- Openmode: what a text that is a mode's has, and its mode's text. -/
namespace Go.Proofs.YtkgbhcpeoaefjaaGreat
open Go.RowKit

theorem prs_two (m : Mo) (i : Nat) (l : List UInt8) : (prs m i l).2.1 = 0 ∨ ((prs m i l).2.1 = 91 ∧ (prs m i l).1 = mo0) := by
  induction l generalizing m i with
  | nil => simp only [prs]; split <;> simp
  | cons c r ih =>
    simp only [prs]
    split
    · simp
    · exact ih _ _
theorem prs_len {m : Mo} {i : Nat} {l : List UInt8} (h : (prs m i l).2.1 = 0) : (prs m i l).2.2 = i + l.length := by
  induction l generalizing m i with
  | nil =>
    simp only [prs] at h ⊢
    split at h
    · simp at h
    · rename_i hn; simp [hn]
  | cons c r ih =>
    cases hs : stepM m c with
    | none => simp [prs, hs] at h
    | some m' =>
      simp only [prs, hs] at h ⊢
      rw [ih h, List.length_cons]
      omega
theorem chk_back {m : Mo} (h : chkM m = 0) : prs mo0 0 (spl m) = (m, 0, (spl m).length) ∧ prt m = spl m := by
  have h1 : prt m = spl m := by simp [prt, h]
  unfold chkM at h
  split at h
  · rename_i hc
    refine ⟨?_, h1⟩
    have hl := prs_len hc.1
    obtain ⟨c1, c2⟩ := hc
    generalize prs mo0 0 (spl m) = q at *
    obtain ⟨x, e, n⟩ := q
    simp at c1 c2 hl
    subst c1 c2 hl
    rfl
  · simp at h
/-- How many letters stand behind the first one. -/
def cnt (p b e x : Bool) : Nat := p.toNat + b.toNat + e.toNat + x.toNat
def tl (p b e x : Bool) (c : UInt8) : Bool := (p && decide (c = 43)) || (b && decide (c = 98)) || (e && decide (c = 101)) || (x && decide (c = 120))
theorem tl_p {b e x : Bool} {c : UInt8} : tl false b e x c = true → tl true b e x c = true := by
  unfold tl
  generalize decide (c = 43) = A
  generalize decide (c = 98) = B
  generalize decide (c = 101) = C
  generalize decide (c = 120) = D
  revert b e x A B C D
  decide
theorem tl_b {p e x : Bool} {c : UInt8} : tl p false e x c = true → tl p true e x c = true := by
  unfold tl
  generalize decide (c = 43) = A
  generalize decide (c = 98) = B
  generalize decide (c = 101) = C
  generalize decide (c = 120) = D
  revert p e x A B C D
  decide
theorem tl_e {p b x : Bool} {c : UInt8} : tl p b false x c = true → tl p b true x c = true := by
  unfold tl
  generalize decide (c = 43) = A
  generalize decide (c = 98) = B
  generalize decide (c = 101) = C
  generalize decide (c = 120) = D
  revert p b x A B C D
  decide
theorem tl_x {p b e : Bool} {c : UInt8} : tl p b e false c = true → tl p b e true c = true := by
  unfold tl
  generalize decide (c = 43) = A
  generalize decide (c = 98) = B
  generalize decide (c = 101) = C
  generalize decide (c = 120) = D
  revert p b e A B C D
  decide
theorem prs_back (f : Nat) (hf : f < 3) (l : List UInt8) : ∀ (p b e x : Bool) (i : Nat) (y : Mo) (n : Nat), prs (mo f p b e x) i l = (y, 0, n) → (x = true → f = 1) →
    ∃ p' b' e' x', y = mo f p' b' e' x' ∧ (x' = true → f = 1) ∧ l.length + cnt p b e x = cnt p' b' e' x' ∧ (∀ c, tl p b e x c = true → tl p' b' e' x' c = true) ∧ ∀ c ∈ l, tl p' b' e' x' c = true := by
  induction l with
  | nil =>
    intro p b e x i y n h hx
    simp only [prs] at h
    split at h
    · simp at h
    · simp at h
      exact ⟨p, b, e, x, h.1.symm, hx, by simp, fun _ h => h, by simp⟩
  | cons c r ih =>
    intro p b e x i y n h hx
    simp only [prs] at h
    rw [step_next f hf] at h
    unfold nextM at h
    by_cases h1 : c = 43
    · subst h1
      cases p with
      | true => simp at h
      | false =>
        simp at h
        obtain ⟨p', b', e', x', r1, r2, r3, r4, r5⟩ := ih true b e x _ y n h hx
        refine ⟨p', b', e', x', r1, r2, by simp [cnt] at r3 ⊢; omega, fun c hc => r4 c (tl_p hc), fun c hc => ?_⟩
        rcases List.mem_cons.1 hc with rfl | hc
        · exact r4 _ (by simp [tl])
        · exact r5 c hc
    by_cases h2 : c = 98
    · subst h2
      cases b with
      | true => simp at h
      | false =>
        simp at h
        obtain ⟨p', b', e', x', r1, r2, r3, r4, r5⟩ := ih p true e x _ y n h hx
        refine ⟨p', b', e', x', r1, r2, by simp [cnt] at r3 ⊢; omega, fun c hc => r4 c (tl_b hc), fun c hc => ?_⟩
        rcases List.mem_cons.1 hc with rfl | hc
        · exact r4 _ (by simp [tl])
        · exact r5 c hc
    by_cases h3 : c = 101
    · subst h3
      cases e with
      | true => simp at h
      | false =>
        simp at h
        obtain ⟨p', b', e', x', r1, r2, r3, r4, r5⟩ := ih p b true x _ y n h hx
        refine ⟨p', b', e', x', r1, r2, by simp [cnt] at r3 ⊢; omega, fun c hc => r4 c (tl_e hc), fun c hc => ?_⟩
        rcases List.mem_cons.1 hc with rfl | hc
        · exact r4 _ (by simp [tl])
        · exact r5 c hc
    by_cases h4 : c = 120
    · subst h4
      by_cases hq : f = 1 ∧ x = false
      · obtain ⟨q1, q2⟩ := hq
        subst q2
        simp [q1] at h
        rw [← q1] at h
        obtain ⟨p', b', e', x', r1, r2, r3, r4, r5⟩ := ih p b e true _ y n h (fun _ => q1)
        refine ⟨p', b', e', x', r1, r2, by simp [cnt] at r3 ⊢; omega, fun c hc => r4 c (tl_x hc), fun c hc => ?_⟩
        rcases List.mem_cons.1 hc with rfl | hc
        · exact r4 _ (by simp [tl])
        · exact r5 c hc
      · rw [if_neg h1, if_neg h2, if_neg h3, if_pos rfl, if_neg hq] at h
        simp at h
    simp [h1, h2, h3, h4] at h
/-- Of the text of such a mode. -/
theorem mo_text (f : Nat) (hf : f < 3) (p b e x : Bool) (hx : x = true → f = 1) : chkM (mo f p b e x) = 0 ∧ (spl (mo f p b e x)).length = 1 + cnt p b e x ∧ lead f ∈ spl (mo f p b e x) ∧ (p = true → 43 ∈ spl (mo f p b e x)) ∧ (b = true → 98 ∈ spl (mo f p b e x)) ∧ (e = true → 101 ∈ spl (mo f p b e x)) ∧ (x = true → 120 ∈ spl (mo f p b e x)) := by
  revert p b e x
  match f, hf with
  | 0, _ => decide +kernel
  | 1, _ => decide +kernel
  | 2, _ => decide +kernel
theorem text_back {l : List UInt8} {y : Mo} {n : Nat} (h : prs mo0 0 l = (y, 0, n)) : chkM y = 0 ∧ (spl y).length = l.length ∧ ∀ c ∈ l, c ∈ spl y := by
  cases l with
  | nil => simp [prs, isNone, mo0] at h
  | cons c r =>
    simp only [prs] at h
    rw [step_first] at h
    have key : ∀ f, f < 3 → c = lead f → prs (mo f false false false false) 1 r = (y, 0, n) → chkM y = 0 ∧ (spl y).length = (c :: r).length ∧ ∀ d ∈ c :: r, d ∈ spl y := by
      intro f hf hc hp
      obtain ⟨p', b', e', x', r1, r2, r3, r4, r5⟩ := prs_back f hf r _ _ _ _ _ _ _ hp (by simp)
      obtain ⟨t1, t2, t3, t4, t5, t6, t7⟩ := mo_text f hf p' b' e' x' r2
      subst r1
      refine ⟨t1, by rw [t2, List.length_cons]; simp [cnt] at r3 ⊢; omega, fun d hd => ?_⟩
      rcases List.mem_cons.1 hd with rfl | hd
      · rw [hc]; exact t3
      · have := r5 d hd
        simp only [tl, Bool.or_eq_true, Bool.and_eq_true, decide_eq_true_eq] at this
        rcases this with ((⟨q, rfl⟩ | ⟨q, rfl⟩) | ⟨q, rfl⟩) | ⟨q, rfl⟩
        · exact t4 q
        · exact t5 q
        · exact t6 q
        · exact t7 q
    by_cases h1 : c = 114
    · rw [if_pos h1] at h; exact key 0 (by decide) h1 h
    by_cases h2 : c = 119
    · rw [if_neg h1, if_pos h2] at h; exact key 1 (by decide) h2 h
    by_cases h3 : c = 97
    · rw [if_neg h1, if_neg h2, if_pos h3] at h; exact key 2 (by decide) h3 h
    rw [if_neg h1, if_neg h2, if_neg h3] at h
    simp at h
end Go.Proofs.YtkgbhcpeoaefjaaGreat
