/- Where the words of a text begin: wordStarts. -/
import Derived.Test.YtnabnnckhdileaaFWord
namespace Go.Proofs.Ytnabnnckhdileaa
open Go.RowKit

/-- Place i of b is a blank, or behind its end. -/
def bl (b : List UInt8) (i : Nat) : Bool := b.getD i 32 == 32
/-- At place i a word begins. -/
def sp (b : List UInt8) (i : Nat) : Bool := !bl b i && (i == 0 || bl b (i - 1))
/-- The places below k at which words begin. -/
def sts (b : List UInt8) (k : Nat) : List Nat := (List.range k).filter (sp b)
theorem sts_zero (b : List UInt8) : sts b 0 = [] := rfl
theorem sts_yes {b : List UInt8} {k : Nat} (h : sp b k = true) : sts b (k + 1) = sts b k ++ [k] := by
  simp [sts, List.range_succ, List.filter_append, h]
theorem sts_no {b : List UInt8} {k : Nat} (h : sp b k = false) : sts b (k + 1) = sts b k := by
  simp [sts, List.range_succ, List.filter_append, h]
theorem sts_len (b : List UInt8) (k : Nat) : (sts b k).length ≤ k := by
  have := List.length_filter_le (sp b) (List.range k)
  simpa [sts] using this
theorem sts_lt {b : List UInt8} {k a : Nat} (h : a ∈ sts b k) : a < k ∧ sp b a = true := by
  simpa [sts] using h
theorem bl_at (s : ByteArray) (k : Nat) (h : k < s.size) : bl s.data.toList k = ((s[k].toNat : Int) == 32) := by
  have h' : k < s.data.toList.length := by rw [Array.length_toList]; exact h
  unfold bl
  rw [List.getD_eq_getElem?_getD, List.getElem?_eq_getElem h', Option.getD_some, show s.data.toList[k] = s[k] from rfl]
  by_cases hq : s[k] = 32
  · rw [hq]; decide
  · have h2 : ¬ s[k].toNat = 32 := fun e => hq (UInt8.toNat_inj.1 (by simpa using e))
    have h3 : ¬ ((s[k].toNat : Int) = 32) := by omega
    rw [beq_eq_false_iff_ne.2 hq, beq_eq_false_iff_ne.2 h3]
/-- A number as a cell. -/
def iv (a : Nat) : Value := .int .i64 (a : Int)
theorem Try.infoI : (Try.prog.info? 3).map (fun i => (i.zero, i.size, i.bytes)) = some (some (.int .i64 0), 1, 8) := by kernel_rfl
theorem cell_one_new (W : World) (v : Value) (t : TypeId) : ∀ j u, [v][j]? = some u → (W.alloc (.cells #[v] t)).cell? ((⟨W.heap.size, 0, none⟩ : Addr).add j) = some u := by
  intro j u hj
  have : j = 0 := by have := (List.getElem?_eq_some_iff.1 hj).1; simp at this; omega
  subst this
  simp only [List.getElem?_cons_zero, Option.some.injEq] at hj
  subst hj
  have hadd : (⟨W.heap.size, 0, none⟩ : Addr).add 0 = ⟨W.heap.size, 0, none⟩ := by unfold Addr.add; split <;> simp_all
  rw [hadd]
  exact cell_new W v t

set_option maxRecDepth 100000 in
set_option maxHeartbeats 2000000 in
theorem wordStarts_any (s : ByteArray) (hs : s.size ≤ 65536) (w : World) :
    Calls Try.prog 31 #[.string s] w fun e w' => ∃ v', e = .returned v' ∧ w'.ownsRow w.heap.size 3 1 v' (sts s.data.toList s.size).length ((sts s.data.toList s.size).map iv) ∧ Below w.heap.size w w' := by
  obtain ⟨i0, hi, hz0, hz1, hz2⟩ := info_parts Try.infoI
  have HB := hide (bl_at s)
  generalize s.data.toList = b at *
  go_enter Try.func31, Try.ntmps31
  go_wp2
  go_loopw [3, 4, 7] (fun vs _ i wr => ∃ (k : Nat), k ≤ s.size ∧ i = .int .i64 k ∧ wr.ownsRow w.heap.size 3 1 vs (sts b k).length ((sts b k).map iv) ∧ Below w.heap.size w wr) (fun _ _ i _ => s.size - (intOf i).toNat)
  case atStart => exact ⟨0, Nat.zero_le _, rfl, World.ownsRow_nil _ _ _ _, Below.refl _ _⟩
  case round =>
    obtain ⟨k, hk, rfl, hown, hB⟩ := hrel
    have hsl := sts_len b k
    have hsz := hB.size
    by_cases hlt : k < s.size
    · have hb := HB.out k hlt
      have hlt' : (k : Int) < (s.size : Int) := by omega
      have hk1 : (0 : Int) ≤ (k : Int) := by omega
      by_cases h1 : ((s[k].toNat : Int) == 32) = true
      · rw [h1] at hb
        have HO := hide hown
        have HN := hide (sts_no (b := b) (k := k) (by simp [sp, hb]))
        have h1e : (s[k].toNat : Int) = 32 := by simpa using h1
        clear hown hb h1
        go_wp2
        go_roundw
        case rel => exact ⟨k + 1, by omega, by go_num, by rw [HN.out]; exact HO.out, hB⟩
        case measure => simp [intOf]; omega
      · have h1' : ((s[k].toNat : Int) == 32) = false := by simpa using h1
        rw [h1'] at hb
        have hne : ((s[k].toNat : Int) != 32) = true := by simpa [bne] using h1'
        have hne2 : ¬ (s[k].toNat : Int) = 32 := by simpa using h1'
        clear h1 h1'
        rcases Nat.eq_zero_or_pos k with h0 | h0
        · have HN := hide (sts_yes (b := b) (k := k) (by subst h0; simp [sp, hb]))
          have h0' : ((k : Int) == 0) = true := by simp [h0]
          clear hb h0
          go_wp2_with (at_builtin; refine wpList_append_own _ rfl _ _ 41 rfl w.heap.size 3 i0 (.int .i64 0) 1 8 Try.underlying41 hi hz0 hz1 hz2 rfl (by decide) _ _ _ rfl (hown.alloc _) ⟨wr.heap.size, 0, none⟩ 1 1 [.int .i64 k] rfl rfl (cell_one_new _ _ _) (by simp [Value.oneCell']) (by unfold maxLen; omega) (by omega) (by simp; omega) ?_; intro v' w1 hown1 hgrow1 hnil1)
          go_wp2
          go_roundw
          case rel =>
            refine ⟨k + 1, by omega, by go_num, ?_, (hB.alloc hB.size _).grown hgrow1 (by simp; omega) fun j e => (hown.lt j e).1⟩
            rw [HN.out, List.map_append, List.length_append]
            exact hown1
          case measure => simp [intOf]; omega
        · obtain ⟨m, rfl⟩ : ∃ m, k = m + 1 := ⟨k - 1, by omega⟩
          have hm : m < s.size := by omega
          have hm1 : (0 : Int) ≤ (m : Int) := by omega
          have hm2 : (m : Int) < (s.size : Int) := by omega
          have h0' : ((m : Int) + 1 == 0) = false := by simp; omega
          have hbm := HB.out m hm
          by_cases h2 : ((s[m].toNat : Int) == 32) = true
          · rw [h2] at hbm
            have HN := hide (sts_yes (b := b) (k := m + 1) (by simp [sp, hb, hbm]))
            clear hb hbm
            go_wp2_with (at_builtin; refine wpList_append_own _ rfl _ _ 41 rfl w.heap.size 3 i0 (.int .i64 0) 1 8 Try.underlying41 hi hz0 hz1 hz2 rfl (by decide) _ _ _ rfl (hown.alloc _) ⟨wr.heap.size, 0, none⟩ 1 1 [.int .i64 ((m : Int) + 1)] rfl rfl (cell_one_new _ _ _) (by simp [Value.oneCell']) (by unfold maxLen; omega) (by omega) (by simp; omega) ?_; intro v' w1 hown1 hgrow1 hnil1)
            go_wp2
            go_roundw
            case rel =>
              refine ⟨(m + 1) + 1, by omega, by go_num, ?_, (hB.alloc hB.size _).grown hgrow1 (by simp; omega) fun j e => (hown.lt j e).1⟩
              rw [HN.out, List.map_append, List.length_append]
              exact hown1
            case measure => simp [intOf]; omega
          · have h2' : ((s[m].toNat : Int) == 32) = false := by simpa using h2
            rw [h2'] at hbm
            have HO := hide hown
            have HN := hide (sts_no (b := b) (k := m + 1) (by simp [sp, hbm]))
            clear hown hb hbm h2
            go_wp2
            go_roundw
            case rel => exact ⟨m + 1 + 1, by omega, by go_num, by rw [HN.out]; exact HO.out, hB⟩
            case measure => simp [intOf]; omega
    · have hk' : k = s.size := by omega
      subst hk'
      have HO := hide hown
      clear hown
      go_wp2
      go_ret
      exact ⟨_, rfl, HO.out, hB⟩
end Go.Proofs.Ytnabnnckhdileaa
