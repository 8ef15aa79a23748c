/- The reference's Parse, for any text. -/
import Derived.Test.YtnabnnckhdileaaFRWords
import Derived.Test.YtnabnnckhdileaaFParse2
namespace Go.Proofs.Ytnabnnckhdileaa
open Go.RowKit

theorem cell_two_new (W : World) (x y : Value) (t : TypeId) : ∀ j u, [x, y][j]? = some u → (W.alloc (.cells #[x, y] t)).cell? ((⟨W.heap.size, 0, none⟩ : Addr).add j) = some u := by
  intro j u hj
  have hjl : j = 0 ∨ j = 1 := by have := (List.getElem?_eq_some_iff.1 hj).1; simp at this; omega
  have hadd : ∀ k, (⟨W.heap.size, 0, none⟩ : Addr).add k = ⟨W.heap.size, k, none⟩ := fun k => by unfold Addr.add; split <;> simp_all
  rw [hadd]
  rcases hjl with rfl | rfl
  · simp only [List.getElem?_cons_zero, Option.some.injEq] at hj
    subst hj
    simp only [World.cell?, heap_alloc_new]; rfl
  · simp only [List.getElem?_cons_succ, List.getElem?_cons_zero, Option.some.injEq] at hj
    subst hj
    simp only [World.cell?, heap_alloc_new]; rfl
theorem wd_pos {b : List UInt8} {a k : Nat} (h : a ∈ sts b k) : 0 < (wd (b.drop a)).length := by
  have hs := (sts_lt h).2
  have hb : bl b a = false := by
    unfold sp at hs
    simp at hs
    exact hs.1
  unfold bl at hb
  rw [List.getD_eq_getElem?_getD] at hb
  cases hq : b[a]? with
  | none => rw [hq] at hb; exact absurd hb (by decide)
  | some c =>
    rw [hq] at hb
    have hal := (List.getElem?_eq_some_iff.1 hq).1
    have hc : c ≠ 32 := by simpa using hb
    have hc2 : b[a] = c := (List.getElem?_eq_some_iff.1 hq).2
    rw [List.drop_eq_getElem_cons hal, hc2]
    unfold wd
    rw [List.takeWhile_cons, if_pos (by simpa using hc)]
    simp
/-- The faults of the first k words. -/
noncomputable def ffs (s : ByteArray) (st : List Nat) (k : Nat) : List Fault := (st.take k).map fun a => (fat s a).1
theorem ffs_succ (s : ByteArray) (st : List Nat) (k : Nat) (hk : k < st.length) : ffs s st (k + 1) = ffs s st k ++ [(fat s (st.getD k 0)).1] := by
  unfold ffs
  rw [List.take_succ_eq_append_getElem hk, List.map_append, List.getD_eq_getElem?_getD, List.getElem?_eq_getElem hk]
  rfl
theorem ffs_len (s : ByteArray) (st : List Nat) (k : Nat) (hk : k ≤ st.length) : (ffs s st k).length = k := by
  unfold ffs
  rw [List.length_map, List.length_take]
  omega

set_option maxRecDepth 100000 in
set_option maxHeartbeats 1000000 in
theorem rparse_long (s : ByteArray) (hs : 65536 < s.size) (w : World) :
    Calls Try.prog 14 #[.string s] w fun e w' => e = .returned (.tuple #[.slice none 0 0, .int .i64 5, .int .i64 0]) ∧ Below w.heap.size w w' := by
  have hs' : (65536 : Int) < (s.size : Int) := by omega
  clear hs
  go_enter Try.func14, Try.ntmps14
  go_wp2
  go_ret3
  exact ⟨rfl, Below.refl _ _⟩

set_option maxRecDepth 100000 in
set_option maxHeartbeats 4000000 in
theorem rparse_any (s : ByteArray) (w : World) :
    Calls Try.prog 14 #[.string s] w fun e w' => ∃ v, e = .returned (.tuple #[v, .int .i64 (prs s).2.1, .int .i64 (prs s).2.2]) ∧ Flts w' v (prs s).1 ∧ Below w.heap.size w w' := by
  by_cases h1 : 65536 < s.size
  · rw [show prs s = ([], 5, 0) by unfold prs; rw [if_pos h1]]
    refine (rparse_long s h1 w).mono ?_
    rintro e w' ⟨rfl, hB⟩
    exact ⟨_, rfl, .inl ⟨rfl, rfl⟩, hB⟩
  have hs : s.size ≤ 65536 := by omega
  have hs' : (s.size : Int) ≤ 65536 := by omega
  have HS := hide (rwords_any s hs w)
  have hpr : prs s = if 4096 < (sts s.data.toList s.size).length then ([], 3, 0) else if wb s (sts s.data.toList s.size) < (sts s.data.toList s.size).length then (([], 21, (((sts s.data.toList s.size).getD (wb s (sts s.data.toList s.size)) 0 : Nat) : Int)) : List Fault × Int × Int) else ((sts s.data.toList s.size).map (fun a => (fat s a).1), 0, (s.size : Int)) := by
    unfold prs
    rw [if_neg h1]
  have HT : Hid (∀ a ∈ sts s.data.toList s.size, a < s.size ∧ ∀ w, Calls Try.prog 36 #[sv s.data.toList a] w fun e w' => ∃ f : Fault, e = .returned (.tuple #[fv f, .bool (fat s a).2]) ∧ ((fat s a).2 = true → f = (fat s a).1) ∧ Below w.heap.size w w') := fun a ha =>
    ⟨(sts_lt ha).1, fun w => rword_any ⟨(wd (s.data.toList.drop a)).toArray⟩ (by have := wd_pos ha; simpa [ByteArray.size] using this) (by
      have h1 := wd_le (s.data.toList.drop a)
      have h2 : s.data.toList.length = s.size := Array.length_toList
      rw [List.length_drop, h2] at h1
      have h3 : (⟨(wd (s.data.toList.drop a)).toArray⟩ : ByteArray).size = (wd (s.data.toList.drop a)).length := by simp [ByteArray.size]
      omega) w⟩
  have hsl := sts_len s.data.toList s.size
  generalize s.data.toList = b at HS HT hpr hsl
  generalize sts b s.size = st at HS HT hpr hsl
  generalize prs s = R at *
  have HPR := hide hpr
  obtain ⟨i0, hi, hz0, hz1, hz2⟩ := info_parts Try.infoF
  clear hpr h1
  go_enter Try.func14, Try.ntmps14
  go_wp2_with fail
  refine HS.out.mono ?_
  rintro e w2 ⟨v1, v2, rfl, hown1, hown2, hB⟩
  obtain ⟨a1, c1, rfl⟩ := owns_slice hown1
  obtain ⟨a2, c2, rfl⟩ := owns_slice hown2
  clear HS
  by_cases hm : 4096 < st.length
  · have hm' : (4096 : Int) < (st.length : Int) := by omega
    have hR := HPR.out
    rw [if_pos hm] at hR
    have HR := hide hR
    clear hown1 hown2 hR HPR HT
    go_wp2
    go_ret3
    rw [HR.out]
    exact ⟨_, rfl, .inl ⟨rfl, rfl⟩, hB⟩
  have hm' : (st.length : Int) ≤ 4096 := by omega
  have hR := HPR.out
  rw [if_neg hm] at hR
  have HR := hide hR
  have H1 := hide hown1
  have H2 := hide hown2
  clear hown1 hown2 hR HPR
  go_wp2
  go_loopw [7, 8, 9, 10] (fun v7 i _ _ wr => ∃ (k : Nat), k ≤ st.length ∧ i = .int .i64 k ∧ (∀ j, j < k → (fat s (st.getD j 0)).2 = true) ∧ wr.ownsRow w.heap.size 60 2 v7 k (fcs (ffs s st k)) ∧ wr.ownsRow w.heap.size 9 1 (.slice a1 st.length c1) st.length (st.map (sv b)) ∧ wr.ownsRow w.heap.size 3 1 (.slice a2 st.length c2) st.length (st.map iv) ∧ Below w.heap.size w wr) (fun _ i _ _ _ => st.length - (intOf i).toNat)
  case atStart => exact ⟨0, Nat.zero_le _, rfl, fun j hj => absurd hj (by omega), World.ownsRow_nil _ _ _ _, H1.out, H2.out, hB⟩
  case round =>
    clear H1 H2
    obtain ⟨k, hk, rfl, ha, hown7, hown1, hown2, hB⟩ := hrel
    have HA := hide ha
    clear ha
    by_cases hlt : k < st.length
    · have hmem : st.getD k 0 ∈ st := by rw [List.getD_eq_getElem?_getD, List.getElem?_eq_getElem hlt]; exact List.getElem_mem hlt
      obtain ⟨hal, hcall⟩ := HT.out _ hmem
      have hcl := hcall wr
      rcases hown1.2 with ⟨hq, h0⟩ | ⟨g1, cap1, cur1, hq, -⟩
      · omega
      cases hq
      rcases hown2.2 with ⟨hq, h0⟩ | ⟨g2, cap2, cur2, hq, -⟩
      · omega
      cases hq
      have e1 := hown1.cellAt k (by omega)
      rw [List.getElem?_map, List.getElem?_eq_getElem hlt, Option.map_some, show st[k] = st.getD k 0 by rw [List.getD_eq_getElem?_getD, List.getElem?_eq_getElem hlt]; rfl] at e1
      have hfs := ffs_succ s st k hlt
      have hk1 : (0 : Int) ≤ (k : Int) := by omega
      have hk2 : (k : Int) < (st.length : Int) := by omega
      have hic := ints_cells hown2 k hlt
      have hwa : (fat s (st.getD k 0)).2 = false → wb s st = k := fun h => wb_at hlt HA.out h
      simp only [iv] at hic
      generalize hA : st.getD k 0 = a at *
      simp only [sv] at e1 hcl
      generalize (⟨(wd (b.drop a)).toArray⟩ : ByteArray) = T at *
      have HCL := hide hcl
      clear hcall hcl hmem
      go_wp2_with fail
      refine HCL.out.mono ?_
      rintro e w3 ⟨f, rfl, hf, hB3⟩
      obtain ⟨f0, f1⟩ := f
      have hB03 := hB.trans (hB3.mono hB.size)
      have hz3 := hB03.size
      have hown73 := owns_below hown7 hB3
      have hown13 := owns_below hown1 hB3
      have hown23 := owns_below hown2 hB3
      simp only [fv]
      by_cases hok : (fat s a).2 = true
      · have hff := hf hok
        rw [hok]
        rw [← hff] at hfs
        have HFS := hide hfs
        clear hf hwa hfs hic e1 hown7 hown1 hown2 hff
        go_wp2_with (at_builtin; refine wpList_append_own _ rfl _ _ 22 rfl w.heap.size 60 i0 (.agg #[.int .i64 0, .int .i64 0]) 2 16 Try.underlying22 hi hz0 hz1 hz2 rfl (by decide) _ _ _ rfl ((hown73.alloc _).alloc _) ⟨w3.heap.size + 1, 0, none⟩ 1 1 [.int .i64 f0, .int .i64 f1] rfl rfl (fun j u hj => by have := cell_two_new (w3.alloc (Obj.cells #[Value.int .i64 f0, Value.int .i64 f1] 60)) (.int .i64 f0) (.int .i64 f1) 60 j u hj; simpa using this) (by simp [Value.oneCell']) (by unfold maxLen; omega) (by omega) (by simp; omega) ?_; intro v7' w4 hown74 hgrow4 hnil4; have hown14 := append_keeps (hown13.alloc _) (hown73.alloc _) (by decide) hgrow4; have hown24 := append_keeps (hown23.alloc _) (hown73.alloc _) (by decide) hgrow4; have hB4 := append_below (hB03.alloc hB03.size _) hgrow4 (fun j e => (hown73.lt j e).1))
        go_roundw
        case rel =>
          refine ⟨k + 1, by omega, by go_num, fun j hj => ?_, ?_, hown14, hown24, hB4⟩
          · by_cases hjk : j < k
            · exact HA.out j hjk
            · rw [show j = k by omega, hA]; exact hok
          · rw [HFS.out, fcs_append]
            exact hown74
        case measure => simp [intOf]; omega
      · have hok' : (fat s a).2 = false := by simpa using hok
        have hwk := hwa hok'
        rw [hok']
        have hR := HR.out
        rw [if_pos (by omega), hwk, hA] at hR
        have HR2 := hide hR
        have e2 := (hB3.cell (p := ⟨g2, k, none⟩) (World.block_lt_of_cell? wr _ hic)).trans hic
        have e3 : ∀ o, (w3.alloc o).cell? ⟨g2, k, none⟩ = some (.int .i64 a) := fun o => (World.cell?_of_block (w := w3) (Below.heap_alloc w3 o g2 (World.block_lt_of_cell? w3 _ e2))).trans e2
        have hB4 := fun o => hB03.alloc hB03.size o
        have HB4 := hide hB4
        clear hf hwa hfs hic e1 hown7 hown1 hown2 hown73 hown13 hown23 hR hok hwk hB4 e2
        go_wp2
        go_quiet (fail)
        go_wp2
        go_ret3
        rw [HR2.out]
        exact ⟨_, rfl, .inl ⟨rfl, rfl⟩, below_drewN (HB4.out _) _⟩
    · have hk' : k = st.length := by omega
      subst hk'
      have hR := HR.out
      rw [if_neg (by rw [wb_all HA.out]; omega)] at hR
      have HR2 := hide hR
      have H7 := hide hown7
      clear hown7 hown1 hown2 hR
      go_wp2
      go_ret3
      rw [HR2.out]
      refine ⟨_, rfl, ?_, hB⟩
      have hl : (st.map fun a => (fat s a).1).length = st.length := List.length_map _
      have he : ffs s st st.length = st.map fun a => (fat s a).1 := by unfold ffs; rw [List.take_length]
      exact Flts.of_owns (base := w.heap.size) (by rw [hl, ← he]; exact H7.out)
end Go.Proofs.Ytnabnnckhdileaa
