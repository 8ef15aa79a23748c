/- Parse: first over its closure; Parse. -/
import Derived.Test.YtnabnnckhdileaaFParse1
import Derived.Test.YtnabnnckhdileaaFFrame
namespace Go.Proofs.Ytnabnnckhdileaa
open Go.RowKit

/-- The number of the first word that is none. -/
noncomputable def wb (s : ByteArray) (st : List Nat) : Nat := st.findIdx fun a => !(fat s a).2
theorem wb_le (s : ByteArray) (st : List Nat) : wb s st ≤ st.length := List.findIdx_le_length
theorem wb_at {s : ByteArray} {st : List Nat} {k : Nat} (hk : k < st.length) (ha : ∀ j, j < k → (fat s (st.getD j 0)).2 = true) (hb : (fat s (st.getD k 0)).2 = false) : wb s st = k := by
  unfold wb
  refine (List.findIdx_eq hk).2 ⟨?_, fun j hj => ?_⟩
  · rw [List.getD_eq_getElem?_getD, List.getElem?_eq_getElem hk] at hb
    simpa using hb
  · have := ha j hj
    rw [List.getD_eq_getElem?_getD, List.getElem?_eq_getElem (by omega)] at this
    simpa using this
theorem wb_all {s : ByteArray} {st : List Nat} (ha : ∀ j, j < st.length → (fat s (st.getD j 0)).2 = true) : wb s st = st.length := by
  unfold wb
  refine List.findIdx_eq_length.2 fun x hx => ?_
  obtain ⟨j, hj, rfl⟩ := List.getElem_of_mem hx
  have := ha j hj
  rw [List.getD_eq_getElem?_getD, List.getElem?_eq_getElem hj] at this
  simpa using this
/-- The faults of the first k words, the others still zeros. -/
noncomputable def fls (s : ByteArray) (st : List Nat) (k : Nat) : List Fault := (st.take k).map (fun a => (fat s a).1) ++ List.replicate (st.length - k) (0, 0)
theorem fcs_set (l m : List Fault) (x z : Fault) : ((fcs (l ++ x :: m)).set (l.length * 2) (.int .i64 z.1)).set (l.length * 2 + 1) (.int .i64 z.2) = fcs (l ++ z :: m) := by
  rw [fcs_append, fcs_append]
  have hl := fcs_length l
  rw [List.set_append_right _ _ (by omega), hl, Nat.sub_self, List.set_append_right _ _ (by omega), hl, show l.length * 2 + 1 - l.length * 2 = 1 by omega]
  simp [fcs]
theorem fls_set (s : ByteArray) (st : List Nat) (k : Nat) (hk : k < st.length) :
    ((fcs (fls s st k)).set (k * 2) (.int .i64 (fat s (st.getD k 0)).1.1)).set (k * 2 + 1) (.int .i64 (fat s (st.getD k 0)).1.2) = fcs (fls s st (k + 1)) := by
  have h1 : ((st.take k).map fun a => (fat s a).1).length = k := by rw [List.length_map, List.length_take]; omega
  have h2 : fls s st k = (st.take k).map (fun a => (fat s a).1) ++ (0, 0) :: List.replicate (st.length - (k + 1)) (0, 0) := by
    unfold fls
    rw [show st.length - k = (st.length - (k + 1)) + 1 by omega, List.replicate_succ]
  have h3 : fls s st (k + 1) = (st.take k).map (fun a => (fat s a).1) ++ (fat s (st.getD k 0)).1 :: List.replicate (st.length - (k + 1)) (0, 0) := by
    unfold fls
    rw [List.take_succ_eq_append_getElem hk, List.map_append, List.getD_eq_getElem?_getD, List.getElem?_eq_getElem hk]
    simp only [List.map_cons, List.map_nil, List.append_assoc, List.cons_append, List.nil_append, Option.getD_some]
  rw [h2, h3]
  have := fcs_set ((st.take k).map fun a => (fat s a).1) (List.replicate (st.length - (k + 1)) (0, 0)) (0, 0) (fat s (st.getD k 0)).1
  rw [h1] at this
  exact this

set_option maxRecDepth 100000 in
set_option maxHeartbeats 2000000 in
theorem first_parse (s : ByteArray) (hs : s.size ≤ 65536) (st : List Nat) (hst : ∀ a ∈ st, a ≤ s.size) (c1 c2 c3 b cap base g : Nat) (w : World) (hn : st.length ≤ 4096)
    (h1 : w.cell? ⟨c1, 0, none⟩ = some (.string s)) (h2 : w.cell? ⟨c2, 0, none⟩ = some (.slice (some ⟨b, 0, none⟩) st.length cap)) (h3 : w.cell? ⟨c3, 0, none⟩ = some (.slice (some ⟨g, 0, none⟩) st.length st.length))
    (hc : ∀ j, j < st.length → w.cell? ⟨b, j, none⟩ = some (iv (st.getD j 0))) (hown : w.ownsRow base 60 2 (.slice (some ⟨g, 0, none⟩) st.length st.length) st.length (fcs (fls s st 0)))
    (n1 : c1 ≠ g) (n2 : c2 ≠ g) (n3 : c3 ≠ g) (n4 : b ≠ g) :
    Calls Try.prog 24 #[.int .i64 st.length, .func (.func 32) #[] #[.pointer (some ⟨c1, 0, none⟩), .pointer (some ⟨c2, 0, none⟩), .pointer (some ⟨c3, 0, none⟩)]] w fun e w' =>
      e = .returned (.int .i64 (wb s st)) ∧ (wb s st = st.length → w'.ownsRow base 60 2 (.slice (some ⟨g, 0, none⟩) st.length st.length) st.length (fcs (fls s st st.length))) ∧ w.grownBy w' (some g) := by
  have H1 := hide h1
  have H2 := hide h2
  have H3 := hide h3
  have HC := hide hc
  have HO := hide hown
  have HT := hide hst
  generalize hR : wb s st = R
  have HR := hide hR
  clear hR h1 h2 h3 hc hown hst
  go_enter Try.func24, Try.ntmps24
  go_wp2
  go_loopw [5, 7] (fun _ i wr => ∃ (k : Nat), k ≤ st.length ∧ i = .int .i64 k ∧ (∀ j, j < k → (fat s (st.getD j 0)).2 = true) ∧ wr.ownsRow base 60 2 (.slice (some ⟨g, 0, none⟩) st.length st.length) st.length (fcs (fls s st k)) ∧ w.grownBy wr (some g)) (fun _ i _ => st.length - (intOf i).toNat)
  case atStart => exact ⟨0, Nat.zero_le _, rfl, fun j hj => absurd hj (by omega), HO.out, rfl, rfl, rfl, Nat.le_refl _, fun _ _ _ => rfl⟩
  case round =>
    clear HO
    obtain ⟨k, hk, rfl, ha, hown, hG⟩ := hrel
    have HA := hide ha
    clear ha
    by_cases hlt : k < st.length
    · have hcl := parse1_any s hs c1 c2 c3 b 0 st.length cap k (st.getD k 0) base g _ wr (hG.cell H1.out (by simpa using n1)) (hG.cell H2.out (by simpa using n2)) (hG.cell H3.out (by simpa using n3)) hlt (by rw [Nat.zero_add]; exact hG.cell (HC.out k hlt) (by simpa using n4))
        (HT.out _ (by rw [List.getD_eq_getElem?_getD, List.getElem?_eq_getElem hlt]; exact List.getElem_mem hlt)) hown
      rw [fls_set s st k hlt] at hcl
      have HL := hide hcl
      have hz := hG.size
      obtain ⟨ok, hok⟩ : ∃ ok, (fat s (st.getD k 0)).2 = ok := ⟨_, rfl⟩
      rw [hok] at HL
      have HK := hide hok
      clear hcl hown hok
      go_wp2_with fail
      refine HL.out.mono ?_
      rintro e w1 ⟨rfl, hown1, hG1⟩
      have HO1 := hide hown1
      have hG2 := grown_trans hG hG1
      clear hown1 HL hG1
      cases ok with
      | true =>
        go_wp2
        go_roundw
        case rel =>
          refine ⟨k + 1, by omega, by go_num, fun j hj => ?_, HO1.out, hG2⟩
          by_cases hjk : j < k
          · exact HA.out j hjk
          · rw [show j = k by omega]; exact HK.out
        case measure => simp [intOf]; omega
      | false =>
        go_wp2
        go_ret
        have hfb : wb s st = k := wb_at hlt HA.out HK.out
        rw [← HR.out, hfb]
        exact ⟨rfl, fun e => absurd e (by omega), hG2⟩
    · have hk' : k = st.length := by omega
      subst hk'
      have HO1 := hide hown
      clear hown
      go_wp2
      go_ret
      have hfb : wb s st = st.length := wb_all HA.out
      rw [← HR.out, hfb]
      exact ⟨rfl, fun _ => HO1.out, hG⟩
end Go.Proofs.Ytnabnnckhdileaa
