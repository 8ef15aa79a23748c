/- What num.Unhex answers, for every text: its octets in memory of the call's own, or the first fault and its place. -/
import Derived.Test.YtkmkgnabfdeahaaParse
import Derived.Test.YtkmkgnabfdeahaaLib
namespace Go.Proofs.Ytkmkgnabfdeahaa
open Go.RowKit

/-- The octet of two hexadecimal digits. -/
def oct (a b : UInt8) : UInt8 := UInt8.ofNat ((valI a.toNat).toNat * 16 + (valI b.toNat).toNat)
/-- The first m octets of a text. -/
def prs (l : List UInt8) (m : Nat) : List UInt8 := (List.range m).map fun i => oct (l.getD (2 * i) 0) (l.getD (2 * i + 1) 0)
def noDigit (c : UInt8) : Bool := valI c.toNat == 16
/-- Unhex, as the page says it. -/
def uh (l : List UInt8) : List UInt8 × Int × Int := match l.findIdx? noDigit with
  | some i => ([], 11, (i : Int))
  | none => if l.length % 2 = 1 then ([], 3, (l.length : Int)) else (prs l (l.length / 2), 0, (l.length : Int))

theorem prs_length (l : List UInt8) (m : Nat) : (prs l m).length = m := by simp [prs]
theorem prs_succ (l : List UInt8) (m : Nat) : prs l (m + 1) = prs l m ++ [oct (l.getD (2 * m) 0) (l.getD (2 * m + 1) 0)] := by simp [prs, List.range_succ]
theorem uh_bad (l : List UInt8) (k : Nat) (hk : k < l.length) (h1 : valI l[k].toNat = 16) (h2 : ∀ j (hj : j < l.length), j < k → valI l[j].toNat ≠ 16) : uh l = ([], 11, (k : Int)) := by
  have : l.findIdx? noDigit = some k := by
    rw [List.findIdx?_eq_some_iff_getElem]
    exact ⟨hk, by simpa [noDigit] using h1, fun j hj => by simpa [noDigit] using h2 j (by omega) hj⟩
  rw [uh, this]
theorem uh_good (l : List UInt8) (h2 : ∀ j (hj : j < l.length), valI l[j].toNat ≠ 16) : uh l = if l.length % 2 = 1 then ([], 3, (l.length : Int)) else (prs l (l.length / 2), 0, (l.length : Int)) := by
  have : l.findIdx? noDigit = none := by
    rw [List.findIdx?_eq_none_iff]
    intro x hx
    obtain ⟨j, hj, rfl⟩ := List.mem_iff_getElem.1 hx
    simpa [noDigit] using h2 j hj
  rw [uh, this]
theorem getD_at (s : ByteArray) (k : Nat) (h : k < s.size) : s.data.toList.getD k 0 = s[k] := by
  rw [List.getD_eq_getElem?_getD, List.getElem?_eq_getElem (by simpa using h)]; rfl
theorem bits_oct (a b : Fin 16) : bits .or .u8 (((a.val : Nat) : Int) * 16) ((b.val : Nat) : Int) = ((a.val * 16 + b.val : Nat) : Int) := by
  revert a b; decide +kernel

theorem oct_cell (a b : UInt8) (x v : Int) (hx1 : 0 ≤ x) (hx2 : x ≤ 15) (hv1 : 0 ≤ v) (hv2 : v ≤ 15) (hx : x = valI a.toNat) (hv : v = valI b.toNat) : Value.int .u8 (bits .or .u8 (x * 16) v) = bv (oct a b) := by
  have h := bits_oct ⟨x.toNat, by omega⟩ ⟨v.toNat, by omega⟩
  simp only [Int.toNat_of_nonneg hx1, Int.toNat_of_nonneg hv1] at h
  rw [h, bv, oct, ← hx, ← hv, UInt8.toNat_ofNat_of_lt' (by show _ < 256; omega)]

set_option maxRecDepth 100000 in
set_option maxHeartbeats 2000000 in
theorem unhex_any (s : ByteArray) (w : World) (hs : s.size ≤ 281474976710656) :
    Calls Try.prog 18 #[.string s] w fun e w' => ∃ v, e = .returned (.tuple #[v, .int .i64 (uh s.data.toList).2.1, .int .i64 (uh s.data.toList).2.2]) ∧ w'.ownsRow w.heap.size 5 1 v (uh s.data.toList).1.length ((uh s.data.toList).1.map bv) ∧ Below w.heap.size w w' := by
  obtain ⟨i0, hi, hz0, hz1, hz2⟩ := info_parts Try.infoB
  go_enter Try.func18, Try.ntmps18
  go_wp2_with (at_make; refine wpList_make_own _ rfl _ _ 39 rfl w.heap.size 5 i0 (.int .u8 0) 1 Try.underlying39 hi hz0 hz1 _ _ _ (s.size / 2) rfl rfl (by omega) (by rw [hz2]; omega) (by unfold maxLen; omega) (Nat.le_refl _) ?_; intro w1 hown1 hgrow1)
  have hB1 : Below w.heap.size w w1 := (Below.refl _ w).grown hgrow1 (Nat.le_refl _) (fun k e => by cases e)
  go_loopw [5, 6, 15] (fun o h i wr => ∃ (k : Nat) (x : Int), k ≤ s.size ∧ i = .int .i64 k ∧ h = .int .u8 x ∧ 0 ≤ x ∧ x ≤ 15 ∧ (k % 2 = 1 → x = valI (s.data.toList.getD (k - 1) 0).toNat) ∧ (∀ j (hj : j < s.data.toList.length), j < k → valI s.data.toList[j].toNat ≠ 16) ∧
      o = .slice (some ⟨w.heap.size, 0, none⟩) (k / 2) (s.size / 2) ∧ wr.ownsRow w.heap.size 5 1 (.slice (some ⟨w.heap.size, 0, none⟩) (k / 2) (s.size / 2)) (k / 2) ((prs s.data.toList (k / 2)).map bv) ∧ Below w.heap.size w wr) (fun _ _ i _ => s.size - (intOf i).toNat)
  case atStart => exact ⟨0, 0, Nat.zero_le _, rfl, rfl, by omega, by omega, fun h => by omega, fun _ _ h => by omega, rfl, hown1, hB1⟩
  case round =>
    clear hown1 hgrow1 hB1
    obtain ⟨k, x, hk, rfl, rfl, hx1, hx2, hx3, hall, rfl, hown, hB⟩ := hrel
    have HX := hide hx3
    have HA := hide hall
    clear hx3 hall
    by_cases hlt : k < s.size
    · have hbv := valI_bd (s[k].toNat : Int)
      have hby : ((s[k].toNat : Nat) : Int) ≤ 255 := by have := s[k].toNat_lt; omega
      generalize hv : valI (s[k].toNat : Int) = v at hbv
      have HV := hide hv
      clear hv
      by_cases h16 : v = 16
      · have hge : 16 ≤ v := by omega
        have HU := hide (uh_bad s.data.toList k (by simpa using hlt) (HV.out.trans h16) (fun j hj hjk => HA.out j hj hjk))
        clear h16
        go_wp2_with (go_at_call 27; refine (value_any _ (by omega) hby _).mono ?_; rintro e w' ⟨rfl, rfl⟩; rw [HV.out])
        go_ret3
        rw [HU.out]
        exact ⟨_, rfl, World.ownsRow_nil _ _ _ _, hB⟩
      · have hlv : v ≤ 15 := by omega
        have hlv' : ¬ 16 ≤ v := by omega
        clear h16
        have HA' : Hid (∀ j (hj : j < s.data.toList.length), j < k + 1 → valI s.data.toList[j].toNat ≠ 16) := by
          intro j hj hjk
          rcases Nat.lt_or_ge j k with h | h
          · exact HA.out j hj h
          · obtain rfl : j = k := by omega
            intro h2
            have : v = 16 := HV.out.symm.trans h2
            omega
        by_cases hpar : k % 2 = 0
        · go_wp2_with (go_at_call 27; refine (value_any _ (by omega) hby _).mono ?_; rintro e w' ⟨rfl, rfl⟩; rw [HV.out])
          go_roundw
          case rel =>
            have hk2 : (k + 1) / 2 = k / 2 := by omega
            refine ⟨k + 1, v, by omega, by go_num, rfl, hbv.1, hlv, fun _ => ?_, HA'.out, by rw [hk2], by rw [hk2]; exact hown, hB⟩
            rw [Nat.add_sub_cancel, getD_at s k hlt, HV.out]
          case measure => simp [intOf]; omega
        · have hsz := hB.size
          have HO : Hid (Value.int .u8 (bits .or .u8 (x * 16) v) = bv (oct (s.data.toList.getD (2 * (k / 2)) 0) (s.data.toList.getD (2 * (k / 2) + 1) 0))) := by
            rw [show 2 * (k / 2) = k - 1 by omega, show k - 1 + 1 = k by omega, getD_at s k hlt]
            exact oct_cell _ _ _ _ hx1 hx2 hbv.1 hlv (HX.out (by omega)) HV.out.symm
          go_wp2_with (first | (go_at_call 27; refine (value_any _ (by omega) hby _).mono ?_; rintro e w' ⟨rfl, rfl⟩; rw [HV.out]) | (at_builtin; refine wpList_append_fits _ rfl (.tmp 30) (.tmp 36) 39 rfl w.heap.size 5 i0 1 Try.underlying39 hi hz1 w.heap.size (k / 2) (s.size / 2) _ rfl (hown.alloc _) ⟨_, 0, none⟩ 1 1 [.int .u8 (bits .or .u8 (x * 16) v)] rfl rfl (cell_one_new _ _ _) (by simp [Value.oneCell']) (by omega) ?_; intro w2 hown2 hgrow2))
          go_roundw
          case rel =>
            have hk2 : (k + 1) / 2 = k / 2 + 1 := by omega
            refine ⟨k + 1, x, by omega, by go_num, rfl, hx1, hx2, fun h => by omega, HA'.out, by rw [hk2], ?_, ?_⟩
            · rw [hk2, prs_succ, List.map_append]
              rw [HO.out] at hown2
              exact hown2
            · exact (hB.alloc hB.size _).grown hgrow2 (by simp; omega) (fun j e => by cases e; exact Nat.le_refl _)
          case measure => simp [intOf]; omega
    · obtain rfl : k = s.size := by omega
      have HU := hide (uh_good s.data.toList (fun j hj => HA.out j hj (by simpa using hj)))
      by_cases hpar : s.size % 2 = 1
      · go_wp2
        go_ret3
        rw [HU.out, if_pos (by simpa using hpar)]
        exact ⟨_, by simp, World.ownsRow_nil _ _ _ _, hB⟩
      · go_wp2
        go_ret3
        rw [HU.out, if_neg (by simpa using hpar)]
        exact ⟨.slice (some ⟨w.heap.size, 0, none⟩) (s.size / 2) (s.size / 2), by simp, by simpa [prs_length] using hown, hB⟩
end Go.Proofs.Ytkmkgnabfdeahaa
