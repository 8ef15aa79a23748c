/- Spoil turns the block of its slice, and no other. -/
import Derived.Test.YtimggonlfkboaaaTeRow
import Derived.Test.YtimggonlfkboaaaTeRow
namespace Go.Proofs.Ytimggonlfkboaaa
open Go.RowKit

set_option maxRecDepth 100000 in
set_option maxHeartbeats 1000000 in
theorem Kp_spoil_turn (base : Nat) (v : Value) (n : Nat) (xs : List Value) (w : World) (h : w.ownsRow base 5 1 v n xs) (hx : ∀ u ∈ xs, ∃ c, u = .int .u8 c) (hs : n ≤ maxLen) :
    Calls Try.prog 31 #[v] w fun e w' => e = .returned (.tuple #[]) ∧ Turned (fun k => v.ownBlock = some k) w w' := by
  unfold maxLen at hs
  rcases h.2 with ⟨rfl, h0⟩ | ⟨g, cap, cur, rfl, hbg, -⟩
  · go_enter Try.func31, Try.ntmps31
    go_wp2
    go_loopw [2] (fun i wr => i = .int .i64 0 ∧ wr = w) (fun _ _ => 0)
    case atStart => exact ⟨rfl, rfl⟩
    case round =>
      obtain ⟨rfl, rfl⟩ := hrel
      go_wp2
      go_end0
      exact ⟨rfl, Turned.refl _ _⟩
  · have HO := hide h
    have HX := hide hx
    have hlen : xs.length = n := by have := h.1; omega
    clear h hx
    go_enter Try.func31, Try.ntmps31
    go_wp2
    go_loopw [2] (fun i wr => ∃ (k : Nat) (ys : List Value), k ≤ n ∧ i = .int .i64 k ∧ ys.length = n ∧ (∀ u ∈ ys, ∃ c, u = .int .u8 c) ∧ wr.ownsRow base 5 1 (.slice (some ⟨g, 0, none⟩) n cap) n ys ∧ Turned (fun k => (Value.slice (some ⟨g, 0, none⟩) n cap).ownBlock = some k) w wr) (fun i _ => n - (intOf i).toNat)
    case atStart => exact ⟨0, xs, Nat.zero_le _, rfl, hlen, HX.out, HO.out, Turned.refl _ _⟩
    case round =>
      clear HO HX hlen
      obtain ⟨k, ys, hk, rfl, hlen, hys, hown, hT⟩ := hrel
      have HT := hide hT
      clear hT
      by_cases hlt : k < n
      · obtain ⟨c, hc⟩ := hys ys[k] (List.getElem_mem _)
        have hcell := hown.cellAt k (by omega)
        rw [List.getElem?_eq_getElem (by omega), hc] at hcell
        have hfr := hown.frozenAt k
        have HY := hide hys
        have HO := hide hown
        have HL := hide hlen
        clear hys hown hc hlen
        go_wp2
        go_roundw
        case rel =>
          obtain ⟨hst, hgr⟩ := HO.out.stored k (Value.int .u8 (bits .xor .u8 c 85))
          refine ⟨k + 1, _, by omega, by go_num, ?_, ?_, hst, HT.out.set (.inl rfl)⟩
          · rw [List.length_set]; exact HL.out
          · intro u hu
            rcases List.mem_or_eq_of_mem_set hu with h | h
            · exact HY.out u h
            · exact ⟨_, h⟩
        case measure => simp [intOf]; omega
      · go_wp2
        go_end0
        exact ⟨rfl, HT.out⟩
theorem Kp_bv_ints (l : List UInt8) : ∀ u ∈ l.map bv, ∃ c, u = .int .u8 c := by
  intro u hu
  obtain ⟨c, _, rfl⟩ := List.mem_map.1 hu
  exact ⟨_, rfl⟩
end Go.Proofs.Ytimggonlfkboaaa
