/- Zeros ahead, and big letters, change no number: what the statement NumZeros asks. -/
import Derived.Test.YtkmkgnabfdeahaaAlive
namespace Go.Proofs.Ytkmkgnabfdeahaa
open Go.RowKit

/-- A small letter made big. -/
def up (c : UInt8) : UInt8 := if 97 ≤ c.toNat then UInt8.ofNat (c.toNat - 32) else c
theorem valI_up (d : Fin 16) : valI ((up (sgn d)).toNat : Int) = valI ((sgn d).toNat : Int) := by revert d; decide
theorem pb_up (b : Int) : ∀ (l : List (Fin 16)) (n i : Int), pb b ((l.map sgn).map up) n i = pb b (l.map sgn) n i
  | [], _, _ => rfl
  | d :: r, n, i => by
    simp only [List.map_cons, pb]
    rw [valI_up d, pb_up b r]
theorem pb_zeros (b : Int) (hb : 2 ≤ b) (l : List UInt8) : ∀ (j : Nat) (i : Int), pb b (List.replicate j 48 ++ l) 0 i = pb b l 0 (i + j)
  | 0, i => by simp
  | j + 1, i => by
    have h48 : valI ((48 : UInt8).toNat : Int) = 0 := by decide
    rw [List.replicate_succ, List.cons_append, pb_cons _ _ _ _ _ (by rw [h48]; omega) (by rw [h48]; have := Int.ediv_nonneg (a := 18446744073709551615 - 0) (b := b) (by omega) (by omega); omega), h48]
    have := pb_zeros b hb l j (i + 1)
    rw [show (0 : Int) * b + 0 = 0 by omega, this]
    rw [show i + 1 + (j : Int) = i + ((j + 1 : Nat) : Int) by omega]
theorem parse_zeros (b n j : Nat) (hb : 2 ≤ b) (hb2 : b ≤ 16) (hn : n < 18446744073709551616) :
    parseB b (List.replicate j 48 ++ (digs b n).map up) = ((n : Int), 0, ((List.replicate j (48 : UInt8) ++ (digs b n).map up).length : Int)) := by
  have hne : List.replicate j 48 ++ (digs b n).map up ≠ [] := by
    intro h
    have := (List.append_eq_nil_iff.1 h).2
    exact digs_ne b n (by simpa using this)
  have h1 := parseB_digs b n hb hb2 hn
  rw [parseB_yes _ _ (by omega) (by omega) (digs_ne b n)] at h1
  have h2 := pb_dl b n hb hb2 (top b n) 0 (0 + (j : Int)) (by obtain ⟨t1, _⟩ := top_spec b n hb hn; rw [Nat.mod_eq_of_lt t1]; omega)
  obtain ⟨t1, _⟩ := top_spec b n hb hn
  rw [Nat.mod_eq_of_lt t1, Nat.zero_mul, Nat.zero_add] at h2
  rw [parseB_yes _ _ (by omega) (by omega) hne, pb_zeros b (by omega), digs, pb_up]
  refine (show pb b ((dl b n (top b n)).map sgn) 0 (0 + (j : Int)) = _ from h2).trans ?_
  simp only [List.length_append, List.length_replicate, List.length_map, dl_length]
  refine Prod.ext rfl (Prod.ext rfl ?_)
  show 0 + (j : Int) + ((top b n + 1 : Nat) : Int) = ((j + (top b n + 1) : Nat) : Int)
  omega

theorem cell_new_at (W : World) (c : Int) (t : TypeId) : ∀ i, i < 1 → (W.alloc (.cells #[.int .u8 c] t)).cell? ⟨W.heap.size, 0 + i, none⟩ = some (.int .u8 ([c].getD i 0)) := by
  intro i hi
  obtain rfl : i = 0 := by omega
  exact (Boxed.new W t (.int .u8 c)).cell
/-- 'string([]byte{c})'. -/
theorem one_str (W : World) (c : Int) : (convert 39 9 (.slice (some ⟨W.heap.size, 0, none⟩) 1 1)).run Try.prog (W.alloc (.cells #[.int .u8 c] 5)) = .ok (.string (strOfNums [c])) (W.alloc (.cells #[.int .u8 c] 5)) :=
  run_convert_bytes_arg _ 39 5 Try.underlying39 Try.underlying5 W.heap.size 0 1 1 [c] rfl (cell_new_at W c _) _ Try.underlying9

/-- The first k bytes of s, made big. -/
def upTo (s : ByteArray) (k : Nat) : ByteArray := ⟨((s.data.toList.take k).map up).toArray⟩
theorem upTo_size (s : ByteArray) (k : Nat) (h : k ≤ s.size) : (upTo s k).size = k := by
  have h2 : s.data.toList.length = s.size := by simp
  show (((s.data.toList.take k).map up).toArray).size = k
  rw [List.size_toArray, List.length_map, List.length_take]; omega
theorem take_snoc (s : ByteArray) (k : Nat) (h : k < s.size) : s.data.toList.take (k + 1) = s.data.toList.take k ++ [s[k]] := by
  rw [List.take_succ_eq_append_getElem (by simpa using h)]; rfl
theorem upTo_big (s : ByteArray) (k : Nat) (h : k < s.size) (hc : 97 ≤ (s[k].toNat : Int)) : upTo s k ++ strOfNums [(s[k].toNat : Int) - 32] = upTo s (k + 1) := by
  have : up s[k] = UInt8.ofNat (((s[k].toNat : Int) - 32).toNat) := by
    rw [up, if_pos (by omega)]; congr 1; omega
  rw [upTo, upTo, take_snoc s k h, List.map_append]
  show (⟨_⟩ : ByteArray) ++ ⟨([UInt8.ofNat (((s[k].toNat : Int) - 32).toNat)] : List UInt8).toArray⟩ = _
  rw [bytes_append, ← this]; rfl
theorem upTo_small (s : ByteArray) (k : Nat) (h : k < s.size) (hc : (s[k].toNat : Int) < 97) : upTo s k ++ strOfNums [(s[k].toNat : Int)] = upTo s (k + 1) := by
  have : up s[k] = UInt8.ofNat ((s[k].toNat : Int).toNat) := by
    rw [up, if_neg (by omega)]; simp
  rw [upTo, upTo, take_snoc s k h, List.map_append]
  show (⟨_⟩ : ByteArray) ++ ⟨([UInt8.ofNat ((s[k].toNat : Int).toNat)] : List UInt8).toArray⟩ = _
  rw [bytes_append, ← this]; rfl
/-- j zeros ahead of l. -/
def zer (l : List UInt8) (j : Nat) : ByteArray := ⟨(List.replicate j 48 ++ l).toArray⟩
theorem zer_size (l : List UInt8) (j : Nat) : (zer l j).size = j + l.length := by simp [zer, ByteArray.size]
theorem zer_succ (l : List UInt8) (j : Nat) : (⟨#[48]⟩ : ByteArray) ++ zer l j = zer l (j + 1) := by
  rw [zer, zer]
  have := bytes_append [48] (List.replicate j 48 ++ l)
  rw [List.replicate_succ, List.cons_append]
  exact this

set_option maxRecDepth 100000 in
set_option maxHeartbeats 2000000 in
theorem zeros_walk (m b z : Int) (h0 : 0 ≤ m) (h1 : m ≤ 18446744073709551615) (w : World) :
    Calls Try.prog 6 #[.int .u64 m, .int .i64 b, .int .i64 z] w fun e w' => e = .returned (.bool true) ∧ Below w.heap.size w w' := by
  by_cases hb : 2 ≤ b ∧ b ≤ 16
  · obtain ⟨hb1, hb2⟩ := hb
    go_enter Try.func6, Try.ntmps6
    go_wp2_with fail
    refine (alive_any _).mono ?_
    rintro e w1 ⟨rfl, hB1⟩
    go_wp2_with fail
    refine (base_yes m b h0 h1 hb1 hb2 _).mono ?_
    rintro e w2 ⟨rfl, hB2⟩
    have hB := hB1.trans (hB2.mono hB1.size)
    clear hB1 hB2
    have hl := digs_len b.toNat m.toNat (by omega) (by omega)
    generalize hS : (⟨(digs b.toNat m.toNat).toArray⟩ : ByteArray) = S
    have hSs : S.size ≤ 64 := by rw [← hS]; simpa [ByteArray.size] using hl
    have HS := hide hS
    clear hS hl
    have hcv := one_str
    go_wp2
    go_loopw [9, 10] (fun t i wr => ∃ k : Nat, k ≤ S.size ∧ i = .int .i64 k ∧ t = .string (upTo S k) ∧ Below w.heap.size w wr) (fun _ i _ => S.size - (intOf i).toNat)
    case atStart => exact ⟨0, Nat.zero_le _, rfl, rfl, hB⟩
    case round =>
      clear hB
      obtain ⟨k, hk, rfl, rfl, hB⟩ := hrel
      by_cases hlt : k < S.size
      · have hsz := upTo_size S k hk
        have hby : ((S[k].toNat : Nat) : Int) ≤ 255 := by have := S[k].toNat_lt; omega
        by_cases h97 : 97 ≤ (S[k].toNat : Int)
        · have HU := hide (upTo_big S k hlt h97)
          have hs1 := strOfNums_size [(S[k].toNat : Int) - 32]
          go_wp2
          go_roundw
          case rel => exact ⟨k + 1, by omega, by go_num, congrArg Value.string HU.out, hB.alloc hB.size _⟩
          case measure => simp [intOf]; omega
        · have HU := hide (upTo_small S k hlt (by omega))
          have hs1 := strOfNums_size [(S[k].toNat : Int)]
          go_wp2
          go_roundw
          case rel => exact ⟨k + 1, by omega, by go_num, congrArg Value.string HU.out, hB.alloc hB.size _⟩
          case measure => simp [intOf]; omega
      · obtain rfl : k = S.size := by omega
        have hU : upTo S S.size = zer (S.data.toList.map up) 0 := by
          rw [upTo, zer, List.take_of_length_le (by simp)]; rfl
        have hUl : (S.data.toList.map up).length ≤ 64 := by rw [List.length_map]; simpa using hSs
        have HP : Hid (S.data.toList = digs b.toNat m.toNat) := by rw [← HS.out]; exact rfl
        generalize hg : S.data.toList.map up = U at *
        have HG := hide hg
        rw [hU]
        clear hU hg HS
        go_wp2
        go_loopw [9, 12] (fun t i wr => ∃ j : Nat, j ≤ 100 ∧ i = .int .i64 j ∧ t = .string (zer U j) ∧ Below w.heap.size w wr) (fun _ i _ => 100 - (intOf i).toNat)
        case atStart => exact ⟨0, by omega, rfl, rfl, hB⟩
        case round =>
          clear hB
          obtain ⟨j, hj, rfl, rfl, hB⟩ := hrel
          have hsz := zer_size U j
          by_cases hlt : (j : Int) < z ∧ j < 100
          · obtain ⟨hl1, hl2⟩ := hlt
            have HZ := hide (zer_succ U j)
            go_wp2
            go_roundw
            case rel => exact ⟨j + 1, by omega, by go_num, congrArg Value.string HZ.out, hB⟩
            case measure => simp [intOf]; omega
          · have fin : parseB b (zer U j).data.toList = (m, 0, ((zer U j).size : Int)) := by
              have := parse_zeros b.toNat m.toNat j (by omega) (by omega) (by omega)
              rw [Int.toNat_of_nonneg (by omega), Int.toNat_of_nonneg h0, ← HP.out, HG.out] at this
              have hl : (List.replicate j (48 : UInt8) ++ U).length = (zer U j).size := by rw [zer_size, List.length_append, List.length_replicate]
              rw [hl] at this
              exact this
            have FIN := hide fin
            clear fin
            rcases (show z ≤ (j : Int) ∨ ((j : Int) < z ∧ 100 ≤ j) by omega) with hl1 | ⟨hl1, hl2⟩
            · have hd : decide ((j : Int) < z) = false := by simpa using hl1
              go_wp2_with fail
              refine (parseBase_any _ b _ (by unfold maxLen; omega)).mono ?_
              rintro e w3 ⟨rfl, rfl⟩
              rw [FIN.out]
              go_wp2
              go_ret
              exact ⟨rfl, hB⟩
            · go_wp2_with fail
              refine (parseBase_any _ b _ (by unfold maxLen; omega)).mono ?_
              rintro e w3 ⟨rfl, rfl⟩
              rw [FIN.out]
              go_wp2
              go_ret
              exact ⟨rfl, hB⟩
  · have hb' : b < 2 ∨ 16 < b := by omega
    go_enter Try.func6, Try.ntmps6
    go_wp2_with fail
    refine (alive_any _).mono ?_
    rintro e w1 ⟨rfl, hB1⟩
    go_wp2_with fail
    refine (base_no m b hb' _).mono ?_
    rintro e w2 ⟨rfl, rfl⟩
    go_wp2
    go_ret
    exact ⟨rfl, hB1⟩
end Go.Proofs.Ytkmkgnabfdeahaa
