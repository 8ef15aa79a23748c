/- Openmode: Print and Flags of both. -/
import Derived.Test.YtlkohgnapaoegaaOmCheck
namespace Go.Proofs.Ytlkohgnapaoegaa
open Go.RowKit

theorem mode_new {m : Mo} {w w1 : World} (h : Below (w.alloc (Obj.cells (mc m) 23)).heap.size (w.alloc (Obj.cells (mc m) 23)) w1) : Mc w1 w.heap.size m ∧ Below w.heap.size w w1 ∧ MoAt w1 w.heap.size m :=
  ⟨MoAt.mc ((show MoAt (w.alloc (Obj.cells (mc m) 23)) w.heap.size m from heap_alloc_new _ _).below h), ((Below.refl w.heap.size w).alloc (Nat.le_refl _) _).trans (h.mono (Nat.le_of_lt (size_new _ _))), (show MoAt (w.alloc (Obj.cells (mc m) 23)) w.heap.size m from heap_alloc_new _ _).below h⟩
/-- What Print answers. -/
def prt (m : Mo) : List UInt8 := if chkM m = 0 then spl m else []
set_option maxRecDepth 100000 in
set_option maxHeartbeats 1000000 in
theorem print_any (m : Mo) (w : World) : Calls Try.prog 10 #[mv m] w fun e w' => e = .returned (.tuple #[.string ⟨(prt m).toArray⟩, .int .i64 (chkM m)]) ∧ Below w.heap.size w w' := by
  have hch := hide (check_any m)
  have hsp := hide (spell_any m)
  simp only [mv] at hch hsp ⊢
  rcases chk_two m with h | h
  · have hp : prt m = spl m := by simp [prt, h]
    rw [hp]
    rw [h] at hch ⊢
    clear hp h
    go_enter Try.func10, Try.ntmps10
    go_wp2_with fail
    refine (hch.out _).mono ?_
    rintro e1 w1 ⟨rfl, hB1⟩
    obtain ⟨⟨c0, c1, c2, c3, c4, c5, c6, c7⟩, hBB, -⟩ := mode_new (m := m) hB1
    clear hB1
    go_wp2_with fail
    refine (hsp.out _).mono ?_
    rintro e2 w2 ⟨rfl, hB2⟩
    go_wp2
    go_ret2
    exact ⟨rfl, hBB.trans (hB2.mono hBB.size)⟩
  · have hp : prt m = [] := by simp [prt, h]
    rw [hp]
    rw [h] at hch ⊢
    clear hp h
    go_enter Try.func10, Try.ntmps10
    go_wp2_with fail
    refine (hch.out _).mono ?_
    rintro e1 w1 ⟨rfl, hB1⟩
    obtain ⟨⟨c0, c1, c2, c3, c4, c5, c6, c7⟩, hBB, -⟩ := mode_new (m := m) hB1
    clear hB1
    go_wp2
    go_ret2
    exact ⟨rfl, hBB⟩
set_option maxRecDepth 100000 in
set_option maxHeartbeats 1000000 in
theorem rprint_any (m : Mo) (w : World) : Calls Try.prog 11 #[mv m] w fun e w' => e = .returned (.tuple #[.string ⟨(prt m).toArray⟩, .int .i64 (chkM m)]) ∧ Below w.heap.size w w' := by
  have hch := hide (rcheck_any m)
  have hsp := hide (rletters_any m)
  rw [chk_same] at hch
  simp only [mv] at hch hsp ⊢
  rcases chk_two m with h | h
  · have hp : prt m = spl m := by simp [prt, h]
    rw [hp]
    rw [spl_same m h] at hsp
    rw [h] at hch ⊢
    clear hp h
    go_enter Try.func11, Try.ntmps11
    go_wp2_with fail
    refine (hch.out _).mono ?_
    rintro e1 w1 ⟨rfl, hB1⟩
    obtain ⟨⟨c0, c1, c2, c3, c4, c5, c6, c7⟩, hBB, -⟩ := mode_new (m := m) hB1
    clear hB1
    go_wp2_with fail
    refine (hsp.out _).mono ?_
    rintro e2 w2 ⟨rfl, hB2⟩
    go_wp2
    go_ret2
    exact ⟨rfl, hBB.trans (hB2.mono hBB.size)⟩
  · have hp : prt m = [] := by simp [prt, h]
    rw [hp]
    rw [h] at hch ⊢
    clear hp h
    go_enter Try.func11, Try.ntmps11
    go_wp2_with fail
    refine (hch.out _).mono ?_
    rintro e1 w1 ⟨rfl, hB1⟩
    obtain ⟨⟨c0, c1, c2, c3, c4, c5, c6, c7⟩, hBB, -⟩ := mode_new (m := m) hB1
    clear hB1
    go_wp2
    go_ret2
    exact ⟨rfl, hBB⟩
/-- The flags of a mode, of the first k. -/
def flI (m : Mo) : List Bool := [m.rd, m.wr, m.ap, m.cr, m.tr, m.ex]
def flK (m : Mo) : Nat → Int
  | 0 => 0
  | k + 1 => flK m k + (if (flI m).getD k false then 2 ^ k else 0)
theorem bool_info : (Try.prog.info? 4).map (fun i => i.size) = some 1 := by kernel_rfl
theorem index_flag (m : Mo) (k : Nat) (hk : k < 6) (W : World) : (Instr.index 51 (.agg #[.bool m.rd, .bool m.wr, .bool m.ap, .bool m.cr, .bool m.tr, .bool m.ex]) (.int .i64 (k : Int))).run Try.prog W = .ok (.bool ((flI m).getD k false)) W := by
  have hu := Try.underlying51
  have hi := bool_info
  cases hq : Try.prog.info? 4 with
  | none => rw [hq] at hi; cases hi
  | some i =>
    rw [hq] at hi
    have hs : i.size = 1 := by simpa using hi
    have ha := Try.isAgg4
    rcases (show k = 0 ∨ k = 1 ∨ k = 2 ∨ k = 3 ∨ k = 4 ∨ k = 5 by omega) with rfl | rfl | rfl | rfl | rfl | rfl
    all_goals
      unfold Instr.index
      simp [asIntOf, Sem.run_bind, run_underlying hu W, part, sizeOf, typeInfo, hq, hs, flI, ha]
theorem flK_succ (m : Mo) (k : Nat) : flK m (k + 1) = flK m k + (if (flI m).getD k false then 2 ^ k else 0) := rfl
theorem flK_bd (m : Mo) (k : Nat) (hk : k ≤ 6) : 0 ≤ flK m k ∧ flK m k ≤ 63 := by
  have h : ∀ k, k ≤ 6 → 0 ≤ flK m k ∧ flK m k ≤ 2 ^ k - 1 := by
    intro k
    induction k with
    | zero => intro _; exact ⟨Int.le_refl _, by simp [flK]⟩
    | succ k ih =>
      intro hk
      obtain ⟨h1, h2⟩ := ih (by omega)
      rw [flK_succ]
      have h3 : (0 : Int) < 2 ^ k := Int.pow_pos (by decide)
      have h4 : (2 : Int) ^ (k + 1) = 2 ^ k * 2 := Int.pow_succ _ _
      split <;> omega
  obtain ⟨h1, h2⟩ := h k hk
  refine ⟨h1, Int.le_trans h2 ?_⟩
  have : ∀ k, k ≤ 6 → (2 : Int) ^ k - 1 ≤ 63 := by decide
  exact this k hk
/-- What Flags answers. -/
def flg (m : Mo) : Int := if chkM m = 0 then flK m 6 else 0
set_option maxRecDepth 100000 in
set_option maxHeartbeats 1000000 in
theorem rflags_any (m : Mo) (w : World) : Calls Try.prog 13 #[mv m] w fun e w' => e = .returned (.tuple #[.int .i64 (flg m), .int .i64 (chkM m)]) ∧ Below w.heap.size w w' := by
  have hch := hide (rcheck_any m)
  rw [chk_same] at hch
  rcases chk_two m with h | h
  · have hp : flg m = flK m 6 := by simp [flg, h]
    rw [hp]
    rw [h] at hch ⊢
    clear hp h
    generalize hR : flK m 6 = R
    have HR := hide hR
    clear hR
    obtain ⟨a, b, c, d, e, f, g, i⟩ := m
    simp only [mv] at hch ⊢
    go_enter Try.func13, Try.ntmps13
    go_wp2_with fail
    refine (hch.out _).mono ?_
    rintro e1 w1 ⟨rfl, hB1⟩
    obtain ⟨⟨c0, c1, c2, c3, c4, c5, c6, c7⟩, hBB, -⟩ := mode_new (m := ⟨a, b, c, d, e, f, g, i⟩) hB1
    simp only at c0 c1 c2 c3 c4 c5 c6 c7
    clear hB1
    go_wp2
    all_goals go_ret2
    all_goals refine ⟨ret2 ?_ rfl, hBB⟩
    all_goals rw [← HR.out]
    all_goals simp_all [flK, flI]
  · have hp : flg m = 0 := by simp [flg, h]
    rw [hp]
    rw [h] at hch ⊢
    clear hp h
    simp only [mv] at hch ⊢
    go_enter Try.func13, Try.ntmps13
    go_wp2_with fail
    refine (hch.out _).mono ?_
    rintro e1 w1 ⟨rfl, hB1⟩
    obtain ⟨⟨c0, c1, c2, c3, c4, c5, c6, c7⟩, hBB, -⟩ := mode_new (m := m) hB1
    clear hB1
    go_wp2
    go_ret2
    exact ⟨rfl, hBB⟩
set_option maxRecDepth 100000 in
set_option maxHeartbeats 1000000 in
theorem flags_any (m : Mo) (w : World) : Calls Try.prog 12 #[mv m] w fun e w' => e = .returned (.tuple #[.int .i64 (flg m), .int .i64 (chkM m)]) ∧ Below w.heap.size w w' := by
  have hch := hide (check_any m)
  simp only [mv] at hch ⊢
  rcases chk_two m with h | h
  · have hp : flg m = flK m 6 := by simp [flg, h]
    rw [hp]
    rw [h] at hch ⊢
    clear hp h
    generalize hR : flK m 6 = R
    have HR := hide hR
    clear hR
    go_enter Try.func12, Try.ntmps12
    go_wp2_with fail
    refine (hch.out _).mono ?_
    rintro e1 w1 ⟨rfl, hB1⟩
    obtain ⟨⟨c0, c1, c2, c3, c4, c5, c6, c7⟩, hBB, -⟩ := mode_new (m := m) hB1
    clear hB1
    go_wp2
    go_loopg [5, 26] 6 (fun g s5 s26 wx => ∃ k : Nat, k + g = 6 ∧ s26 = .int .i64 k ∧ s5 = .int .i64 (flK m k) ∧ Hid (w1 = wx))
    case atStart => exact ⟨0, by omega, rfl, rfl, rfl⟩
    case round =>
      obtain ⟨k, hkg, rfl, rfl, HW⟩ := hrel
      have hb := flK_bd m k (by omega)
      have hsc := hide (flK_succ m k)
      have hix := hide (fun hk => index_flag m k hk wr)
      rcases (show k = 6 ∨ k = 0 ∨ k = 1 ∨ k = 2 ∨ k = 3 ∨ k = 4 ∨ k = 5 by omega) with rfl | rfl | rfl | rfl | rfl | rfl | rfl
      · clear hix
        rw [show ((6 : Nat) : Int) = 6 from rfl]
        go_wp2
        go_ret2
        exact ⟨ret2 (by rw [← HR.out]; rfl) rfl, by rw [← HW.out]; exact hBB⟩
      · have hi0 := hix.out (by decide)
        rw [show (flI m).getD 0 false = m.rd from rfl, show ((0 : Nat) : Int) = 0 from rfl] at hi0
        clear hix
        rw [show ((0 : Nat) : Int) = 0 from rfl]
        obtain hq | hq : m.rd = true ∨ m.rd = false := by cases m.rd <;> simp
        all_goals
          have HQ := hide hq
          replace hi0 := hi0.trans (congrArg (fun x => Result.ok (Value.bool x) wr) hq)
          clear hq
          go_wp2
          go_roundg 5
          case measure => omega
          case rel => exact ⟨1, by omega, rfl, by rw [hsc.out, show (flI m).getD 0 false = m.rd from rfl, HQ.out]; first | rfl | simp, HW⟩
      · have hi0 := hix.out (by decide)
        rw [show (flI m).getD 1 false = m.wr from rfl, show ((1 : Nat) : Int) = 1 from rfl] at hi0
        clear hix
        rw [show ((1 : Nat) : Int) = 1 from rfl]
        obtain hq | hq : m.wr = true ∨ m.wr = false := by cases m.wr <;> simp
        all_goals
          have HQ := hide hq
          replace hi0 := hi0.trans (congrArg (fun x => Result.ok (Value.bool x) wr) hq)
          clear hq
          go_wp2
          go_roundg 4
          case measure => omega
          case rel => exact ⟨2, by omega, rfl, by rw [hsc.out, show (flI m).getD 1 false = m.wr from rfl, HQ.out]; first | rfl | simp, HW⟩
      · have hi0 := hix.out (by decide)
        rw [show (flI m).getD 2 false = m.ap from rfl, show ((2 : Nat) : Int) = 2 from rfl] at hi0
        clear hix
        rw [show ((2 : Nat) : Int) = 2 from rfl]
        obtain hq | hq : m.ap = true ∨ m.ap = false := by cases m.ap <;> simp
        all_goals
          have HQ := hide hq
          replace hi0 := hi0.trans (congrArg (fun x => Result.ok (Value.bool x) wr) hq)
          clear hq
          go_wp2
          go_roundg 3
          case measure => omega
          case rel => exact ⟨3, by omega, rfl, by rw [hsc.out, show (flI m).getD 2 false = m.ap from rfl, HQ.out]; first | rfl | simp, HW⟩
      · have hi0 := hix.out (by decide)
        rw [show (flI m).getD 3 false = m.cr from rfl, show ((3 : Nat) : Int) = 3 from rfl] at hi0
        clear hix
        rw [show ((3 : Nat) : Int) = 3 from rfl]
        obtain hq | hq : m.cr = true ∨ m.cr = false := by cases m.cr <;> simp
        all_goals
          have HQ := hide hq
          replace hi0 := hi0.trans (congrArg (fun x => Result.ok (Value.bool x) wr) hq)
          clear hq
          go_wp2
          go_roundg 2
          case measure => omega
          case rel => exact ⟨4, by omega, rfl, by rw [hsc.out, show (flI m).getD 3 false = m.cr from rfl, HQ.out]; first | rfl | simp, HW⟩
      · have hi0 := hix.out (by decide)
        rw [show (flI m).getD 4 false = m.tr from rfl, show ((4 : Nat) : Int) = 4 from rfl] at hi0
        clear hix
        rw [show ((4 : Nat) : Int) = 4 from rfl]
        obtain hq | hq : m.tr = true ∨ m.tr = false := by cases m.tr <;> simp
        all_goals
          have HQ := hide hq
          replace hi0 := hi0.trans (congrArg (fun x => Result.ok (Value.bool x) wr) hq)
          clear hq
          go_wp2
          go_roundg 1
          case measure => omega
          case rel => exact ⟨5, by omega, rfl, by rw [hsc.out, show (flI m).getD 4 false = m.tr from rfl, HQ.out]; first | rfl | simp, HW⟩
      · have hi0 := hix.out (by decide)
        rw [show (flI m).getD 5 false = m.ex from rfl, show ((5 : Nat) : Int) = 5 from rfl] at hi0
        clear hix
        rw [show ((5 : Nat) : Int) = 5 from rfl]
        obtain hq | hq : m.ex = true ∨ m.ex = false := by cases m.ex <;> simp
        all_goals
          have HQ := hide hq
          replace hi0 := hi0.trans (congrArg (fun x => Result.ok (Value.bool x) wr) hq)
          clear hq
          go_wp2
          go_roundg 0
          case measure => omega
          case rel => exact ⟨6, by omega, rfl, by rw [hsc.out, show (flI m).getD 5 false = m.ex from rfl, HQ.out]; first | rfl | simp, HW⟩
  · have hp : flg m = 0 := by simp [flg, h]
    rw [hp]
    rw [h] at hch ⊢
    clear hp h
    go_enter Try.func12, Try.ntmps12
    go_wp2_with fail
    refine (hch.out _).mono ?_
    rintro e1 w1 ⟨rfl, hB1⟩
    obtain ⟨⟨c0, c1, c2, c3, c4, c5, c6, c7⟩, hBB, -⟩ := mode_new (m := m) hB1
    clear hB1
    go_wp2
    go_ret2
    exact ⟨rfl, hBB⟩
end Go.Proofs.Ytlkohgnapaoegaa
