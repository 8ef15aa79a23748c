/- What the proof stands on, part 22: the contracts of the program's calls that it reaches. -/
import Derived.Test.YtanbiinomagdbaaGreatKM21
/- Made.Same over a kernel whose only name is 'f', a file. -/
namespace Go.Proofs.YtanbiinomagdbaaGreat
open Go.RowKit Go.Maps

set_option maxRecDepth 100000 in
set_option maxHeartbeats 40000000 in
theorem same_madeB {kb g rb mb : Nat} {d : Int} {w : World} {K : KS} (hB : Both (fun w O => KAt w O kb K) (fun w O => RwS g rb d w O K) w (fun j => mb < j)) (hM : MkrAt mb kb rb g d w) {i : Nat} (hnm : K.nm = [i]) (hnf : K.nameOf i = ⟨#[102]⟩) (ht : ¬ ∃ ls scr, K.obOf i = .term ls scr) :
    Calls Tryz.prog 28 #[.pointer (some ⟨mb, 0, none⟩)] w fun e w' => e = .returned (.bool true) ∧ Below w.heap.size w w' := by
  obtain ⟨O, P0, hK, ⟨P, c, -, hR, -, -, -⟩, hO, hPj⟩ := hB
  obtain ⟨pb, pv, -, -, m4, m5, -, -⟩ := hR.cells
  unfold MkrAt at hM
  have k2 := cell_of_row w mb 2 _ _ _ hM
  have k3 := cell_of_row w mb 3 _ _ _ hM
  have k4 := cell_of_row w mb 4 _ _ _ hM
  have k5 := cell_of_row w mb 5 _ _ _ hM
  have k6 := cell_of_row w mb 6 _ _ _ hM
  simp at k2 k3 k4 k5 k6
  have hmb : mb < w.heap.size := World.block_lt_of_cell? w _ k2
  have hrb : rb < w.heap.size := World.block_lt_of_cell? w _ m4
  have HMC : Hid (∀ w', Below w.heap.size w w' → MkCells w' mb kb rb K) := fun w' hb => ⟨(hb.cell (p := ⟨mb, 2, none⟩) hmb).trans k2, (hb.cell (p := ⟨mb, 3, none⟩) hmb).trans k3, (hb.cell (p := ⟨mb, 4, none⟩) hmb).trans k4, (hb.cell (p := ⟨mb, 5, none⟩) hmb).trans k5, (hb.cell (p := ⟨mb, 6, none⟩) hmb).trans k6, (hb.cell (p := ⟨rb, 4, none⟩) hrb).trans m4, (hb.cell (p := ⟨rb, 5, none⟩) hrb).trans m5⟩
  have HK := hide hK
  have HR := hide hR
  have HFo := hide (hK.files_ok)
  have HSo := hide (screens_ok hK hR)
  have H1 := hide hK.calls
  clear m4 m5 hK hR hO hPj hM hmb hrb
  have HSc : Hid (K.screens = []) := hide (by
    unfold KS.screens KS.tidx
    rw [hnm]
    cases ho : K.obOf i with
    | term ls scr => exact absurd ⟨ls, scr, ho⟩ ht
    | file b => simp [ho, Ob.kind]
    | pipe q rd wt => simp [ho, Ob.kind])
  go_enter Tryz.func28, Tryz.ntmps28
  go_wp2_with fail
  refine H1.out.mono ?_
  rintro e w1 ⟨rfl, hB1⟩
  have HB1 := hide hB1
  obtain ⟨c2, c3, c4, c5, c6, c7, c8⟩ := HMC.out w1 hB1
  have HSn : Hid (Calls Tryz.prog 76 #[.pointer (some ⟨kb, 0, none⟩), .string ⟨#[102]⟩] w1 fun e w' => e = .returned (.tuple #[.slice none 0 0, .bool false]) ∧ w1 = w') := hide (by
    obtain ⟨ρ, I, h1, rfl, h3⟩ := HK.out.below hB1
    exact kscreen_no ρ I K ⟨#[102]⟩ w1 h1 (by decide) (fun j hj hk => by
      rw [hnm] at hj
      obtain rfl := List.mem_singleton.1 hj
      cases ho : K.obOf j with
      | term ls scr => exact absurd ⟨ls, scr, ho⟩ ht
      | file b => rw [ho] at hk; simp [Ob.kind] at hk
      | pipe q rd wt => rw [ho] at hk; simp [Ob.kind] at hk))
  clear hB1 H1 k2 k3 k4 k5 k6 c2 c3 c4
  go_wp2_with fail
  refine HSn.out.mono ?_
  rintro e w2 ⟨rfl, rfl⟩
  have HSs := hide ((HR.out.below HB1.out).screens)
  clear HSn
  go_wp2_with fail
  refine HSs.out.mono ?_
  rintro e w3 ⟨vL, us, rfl, hOS, hLS, hBS⟩
  have HB3 := hide (HB1.out.trans (hBS.mono HB1.out.size))
  obtain ⟨aS, cS, rfl⟩ := owns_slice hOS
  clear hOS hLS hBS HSs c5 c6 c7 c8
  have hone : K.screens.length = 0 := by rw [HSc.out]; rfl
  rw [hone]
  have HKp : Hid (∀ W, Below w3.heap.size w3 W → W.cell? ⟨mb, 5, none⟩ = some (.pointer (some ⟨kb, 0, none⟩)) ∧ W.cell? ⟨mb, 6, none⟩ = some (.pointer (some ⟨rb, 0, none⟩)) ∧ W.cell? ⟨rb, 4, none⟩ = some (.int .i64 K.reads) ∧ W.cell? ⟨rb, 5, none⟩ = some (.int .i64 K.writes)) := hide fun W hW => by
    obtain ⟨-, -, -, e5, e6, e7, e8⟩ := HMC.out W (HB3.out.trans (hW.mono HB3.out.size))
    exact ⟨e5, e6, e7, e8⟩
  obtain ⟨c2, c3, c4, c5, c6, c7, c8⟩ := HMC.out w3 HB3.out
  clear c2 c3 c4
  go_wp2_with fail
  refine wp_region_noPanic ?_
  refine wp_region_held_drew (S := fun w' => w'.cell? ⟨mb, 5, none⟩ = some (.pointer (some ⟨kb, 0, none⟩)) ∧ w'.cell? ⟨mb, 6, none⟩ = some (.pointer (some ⟨rb, 0, none⟩)) ∧ w'.cell? ⟨rb, 4, none⟩ = some (.int .i64 K.reads) ∧ w'.cell? ⟨rb, 5, none⟩ = some (.int .i64 K.writes)) (by kernel_rfl) (HKp.out _ (Below.refl _ _).drew) (fun hHeld => ?_)
  refine wpAnyH_take (i := 0) (oi := ?oi0) (v := ?v0) ?hi0 (by kernel_rfl) (by kernel_rfl) (by kernel_rfl) (fun _ _ _ h => (h : False).elim) (Or.inl ⟨?hw0, ?hy0⟩) hHeld ?rest0
  case hi0 => (simp only [List.getElem?_toArray, List.getElem?_cons_zero]; rfl)
  case hw0 => rfl
  case hy0 => (intro w hSw; (try dsimp only at hSw); go_simp <;> with_reducible rfl)
  try simp only [Act.put, List.setIfInBounds_toArray, List.set_cons_zero, List.set_cons_succ]
  refine wpAnyH_take (i := 1) (oi := ?oi1) (v := ?v1) ?hi1 (by kernel_rfl) (by kernel_rfl) (by kernel_rfl) (fun _ _ _ h => (h : False).elim) (Or.inl ⟨?hw1, ?hy1⟩) hHeld ?rest1
  case hi1 => (simp only [List.getElem?_toArray, List.getElem?_cons_zero, List.getElem?_cons_succ]; rfl)
  case hw1 => rfl
  case hy1 => (intro w hSw; (try dsimp only at hSw); go_simp <;> with_reducible rfl)
  try simp only [Act.put, List.setIfInBounds_toArray, List.set_cons_zero, List.set_cons_succ]
  refine wpAnyH_take (i := 2) (oi := ?oi2) (v := ?v2) ?hi2 (by kernel_rfl) (by kernel_rfl) (by kernel_rfl) (fun _ _ _ h => (h : False).elim) (Or.inl ⟨?hw2, ?hy2⟩) hHeld ?rest2
  case hi2 => (simp only [List.getElem?_toArray, List.getElem?_cons_zero, List.getElem?_cons_succ]; rfl)
  case hw2 => rfl
  case hy2 => (intro w hSw; (try dsimp only at hSw); go_simp <;> with_reducible rfl)
  try simp only [Act.put, List.setIfInBounds_toArray, List.set_cons_zero, List.set_cons_succ]
  refine wpAnyH_take (i := 3) (oi := ?oi3) (v := ?v3) ?hi3 (by kernel_rfl) (by kernel_rfl) (by kernel_rfl) (fun _ _ _ h => (h : False).elim) (Or.inl ⟨?hw3, ?hy3⟩) hHeld ?rest3
  case hi3 => (simp only [List.getElem?_toArray, List.getElem?_cons_zero, List.getElem?_cons_succ]; rfl)
  case hw3 => rfl
  case hy3 => (intro w hSw; (try dsimp only at hSw); go_simp <;> with_reducible rfl)
  try simp only [Act.put, List.setIfInBounds_toArray, List.set_cons_zero, List.set_cons_succ]
  refine wpAnyH_take (i := 4) (oi := ?oi4) (v := ?v4) ?hi4 (by kernel_rfl) (by kernel_rfl) (by kernel_rfl) (fun _ _ _ h => (h : False).elim) (Or.inl ⟨?hw4, ?hy4⟩) hHeld ?rest4
  case hi4 => (simp only [List.getElem?_toArray, List.getElem?_cons_zero, List.getElem?_cons_succ]; rfl)
  case hw4 => rfl
  case hy4 => (intro w hSw; (try dsimp only at hSw); go_simp <;> with_reducible rfl)
  try simp only [Act.put, List.setIfInBounds_toArray, List.set_cons_zero, List.set_cons_succ]
  refine wpAnyH_take (i := 5) (oi := ?oi5) (v := ?v5) ?hi5 (by kernel_rfl) (by kernel_rfl) (by kernel_rfl) (fun _ _ _ h => (h : False).elim) (Or.inl ⟨?hw5, ?hy5⟩) hHeld ?rest5
  case hi5 => (simp only [List.getElem?_toArray, List.getElem?_cons_zero, List.getElem?_cons_succ]; rfl)
  case hw5 => rfl
  case hy5 => (intro w hSw; (try dsimp only at hSw); go_simp <;> with_reducible rfl)
  try simp only [Act.put, List.setIfInBounds_toArray, List.set_cons_zero, List.set_cons_succ]
  refine wpAnyH_take (i := 6) (oi := ?oi6) (v := ?v6) ?hi6 (by kernel_rfl) (by kernel_rfl) (by kernel_rfl) (fun _ _ _ h => (h : False).elim) (Or.inl ⟨?hw6, ?hy6⟩) hHeld ?rest6
  case hi6 => (simp only [List.getElem?_toArray, List.getElem?_cons_zero, List.getElem?_cons_succ]; rfl)
  case hw6 => rfl
  case hy6 => (intro w hSw; (try dsimp only at hSw); go_simp <;> with_reducible rfl)
  try simp only [Act.put, List.setIfInBounds_toArray, List.set_cons_zero, List.set_cons_succ]
  refine wpAnyH_take (i := 7) (oi := ?oi7) (v := ?v7) ?hi7 (by kernel_rfl) (by kernel_rfl) (by kernel_rfl) (fun _ _ _ h => (h : False).elim) (Or.inl ⟨?hw7, ?hy7⟩) hHeld ?rest7
  case hi7 => (simp only [List.getElem?_toArray, List.getElem?_cons_zero, List.getElem?_cons_succ]; rfl)
  case hw7 => rfl
  case hy7 => (intro w hSw; (try dsimp only at hSw); go_simp <;> with_reducible rfl)
  try simp only [Act.put, List.setIfInBounds_toArray, List.set_cons_zero, List.set_cons_succ]
  refine wpAnyH_take (i := 8) (oi := ?oi8) (v := ?v8) ?hi8 (by kernel_rfl) (by kernel_rfl) (by kernel_rfl) (fun _ _ _ h => (h : False).elim) (Or.inl ⟨?hw8, ?hy8⟩) hHeld ?rest8
  case hi8 => (simp only [List.getElem?_toArray, List.getElem?_cons_zero, List.getElem?_cons_succ]; rfl)
  case hw8 => rfl
  case hy8 => (intro w hSw; (try dsimp only at hSw); go_simp <;> with_reducible rfl)
  try simp only [Act.put, List.setIfInBounds_toArray, List.set_cons_zero, List.set_cons_succ]
  refine wpAnyH_take (i := 9) (oi := ?oi9) (v := ?v9) ?hi9 (by kernel_rfl) (by kernel_rfl) (by kernel_rfl) (fun _ _ _ h => (h : False).elim) (Or.inl ⟨?hw9, ?hy9⟩) hHeld ?rest9
  case hi9 => (simp only [List.getElem?_toArray, List.getElem?_cons_zero, List.getElem?_cons_succ]; rfl)
  case hw9 => rfl
  case hy9 => (intro w hSw; (try dsimp only at hSw); go_simp <;> with_reducible rfl)
  try simp only [Act.put, List.setIfInBounds_toArray, List.set_cons_zero, List.set_cons_succ]
  refine wpAnyH_take (i := 10) (oi := ?oi10) (v := ?v10) ?hi10 (by kernel_rfl) (by kernel_rfl) (by kernel_rfl) (fun _ _ _ h => (h : False).elim) (Or.inl ⟨?hw10, ?hy10⟩) hHeld ?rest10
  case hi10 => (simp only [List.getElem?_toArray, List.getElem?_cons_zero, List.getElem?_cons_succ]; rfl)
  case hw10 => rfl
  case hy10 => (intro w hSw; (try dsimp only at hSw); go_simp <;> with_reducible rfl)
  try simp only [Act.put, List.setIfInBounds_toArray, List.set_cons_zero, List.set_cons_succ]
  refine wpAnyH_take (i := 11) (oi := ?oi11) (v := ?v11) ?hi11 (by kernel_rfl) (by kernel_rfl) (by kernel_rfl) (fun _ _ _ h => (h : False).elim) (Or.inl ⟨?hw11, ?hy11⟩) hHeld ?rest11
  case hi11 => (simp only [List.getElem?_toArray, List.getElem?_cons_zero, List.getElem?_cons_succ]; rfl)
  case hw11 => rfl
  case hy11 => (intro w hSw; (try dsimp only at hSw); go_simp <;> with_reducible rfl)
  try simp only [Act.put, List.setIfInBounds_toArray, List.set_cons_zero, List.set_cons_succ]
  refine wpAnyH_take (i := 12) (oi := ?oi12) (v := ?v12) ?hi12 (by kernel_rfl) (by kernel_rfl) (by kernel_rfl) (fun _ _ _ h => (h : False).elim) (Or.inl ⟨?hw12, ?hy12⟩) hHeld ?rest12
  case hi12 => (simp only [List.getElem?_toArray, List.getElem?_cons_zero, List.getElem?_cons_succ]; rfl)
  case hw12 => rfl
  case hy12 => (intro w hSw; (try dsimp only at hSw); go_simp <;> with_reducible rfl)
  try simp only [Act.put, List.setIfInBounds_toArray, List.set_cons_zero, List.set_cons_succ]
  refine wpAnyH_take (i := 13) (oi := ?oi13) (v := ?v13) ?hi13 (by kernel_rfl) (by kernel_rfl) (by kernel_rfl) (fun _ _ _ h => (h : False).elim) (Or.inl ⟨?hw13, ?hy13⟩) hHeld ?rest13
  case hi13 => (simp only [List.getElem?_toArray, List.getElem?_cons_zero, List.getElem?_cons_succ]; rfl)
  case hw13 => rfl
  case hy13 => (intro w hSw; (try dsimp only at hSw); go_simp <;> with_reducible rfl)
  try simp only [Act.put, List.setIfInBounds_toArray, List.set_cons_zero, List.set_cons_succ]
  refine wpAnyH_take (i := 14) (oi := ?oi14) (v := ?v14) ?hi14 (by kernel_rfl) (by kernel_rfl) (by kernel_rfl) (fun _ _ _ h => (h : False).elim) (Or.inl ⟨?hw14, ?hy14⟩) hHeld ?rest14
  case hi14 => (simp only [List.getElem?_toArray, List.getElem?_cons_zero, List.getElem?_cons_succ]; rfl)
  case hw14 => rfl
  case hy14 => (intro w hSw; (try dsimp only at hSw); go_simp <;> with_reducible rfl)
  try simp only [Act.put, List.setIfInBounds_toArray, List.set_cons_zero, List.set_cons_succ]
  refine wpAnyH_take (i := 15) (oi := ?oi15) (v := ?v15) ?hi15 (by kernel_rfl) (by kernel_rfl) (by kernel_rfl) (fun _ _ _ h => (h : False).elim) (Or.inl ⟨?hw15, ?hy15⟩) hHeld ?rest15
  case hi15 => (simp only [List.getElem?_toArray, List.getElem?_cons_zero, List.getElem?_cons_succ]; rfl)
  case hw15 => rfl
  case hy15 => (intro w hSw; (try dsimp only at hSw); go_simp <;> with_reducible rfl)
  try simp only [Act.put, List.setIfInBounds_toArray, List.set_cons_zero, List.set_cons_succ]
  refine wpAnyH_take (i := 16) (oi := ?oi16) (v := ?v16) ?hi16 (by kernel_rfl) (by kernel_rfl) (by kernel_rfl) (fun _ _ _ h => (h : False).elim) (Or.inl ⟨?hw16, ?hy16⟩) hHeld ?rest16
  case hi16 => (simp only [List.getElem?_toArray, List.getElem?_cons_zero, List.getElem?_cons_succ]; rfl)
  case hw16 => rfl
  case hy16 => (intro w hSw; (try dsimp only at hSw); go_simp <;> with_reducible rfl)
  try simp only [Act.put, List.setIfInBounds_toArray, List.set_cons_zero, List.set_cons_succ]
  refine wpAnyH_take (i := 17) (oi := ?oi17) (v := ?v17) ?hi17 (by kernel_rfl) (by kernel_rfl) (by kernel_rfl) (fun _ _ _ h => (h : False).elim) (Or.inl ⟨?hw17, ?hy17⟩) hHeld ?rest17
  case hi17 => (simp only [List.getElem?_toArray, List.getElem?_cons_zero, List.getElem?_cons_succ]; rfl)
  case hw17 => rfl
  case hy17 => (intro w hSw; (try dsimp only at hSw); go_simp <;> with_reducible rfl)
  try simp only [Act.put, List.setIfInBounds_toArray, List.set_cons_zero, List.set_cons_succ]
  refine wpAnyH_take (i := 18) (oi := ?oi18) (v := ?v18) ?hi18 (by kernel_rfl) (by kernel_rfl) (by kernel_rfl) (fun _ _ _ h => (h : False).elim) (Or.inl ⟨?hw18, ?hy18⟩) hHeld ?rest18
  case hi18 => (simp only [List.getElem?_toArray, List.getElem?_cons_zero, List.getElem?_cons_succ]; rfl)
  case hw18 => rfl
  case hy18 => (intro w hSw; (try dsimp only at hSw); go_simp <;> with_reducible rfl)
  try simp only [Act.put, List.setIfInBounds_toArray, List.set_cons_zero, List.set_cons_succ]
  refine wpAnyH_take (i := 19) (oi := ?oi19) (v := ?v19) ?hi19 (by kernel_rfl) (by kernel_rfl) (by kernel_rfl) (fun _ _ _ h => (h : False).elim) (Or.inl ⟨?hw19, ?hy19⟩) hHeld ?rest19
  case hi19 => (simp only [List.getElem?_toArray, List.getElem?_cons_zero, List.getElem?_cons_succ]; rfl)
  case hw19 => rfl
  case hy19 => (intro w hSw; (try dsimp only at hSw); go_simp <;> with_reducible rfl)
  try simp only [Act.put, List.setIfInBounds_toArray, List.set_cons_zero, List.set_cons_succ]
  refine wpAnyH_take (i := 20) (oi := ?oi20) (v := ?v20) ?hi20 (by kernel_rfl) (by kernel_rfl) (by kernel_rfl) (fun _ _ _ h => (h : False).elim) (Or.inl ⟨?hw20, ?hy20⟩) hHeld ?rest20
  case hi20 => (simp only [List.getElem?_toArray, List.getElem?_cons_zero, List.getElem?_cons_succ]; rfl)
  case hw20 => rfl
  case hy20 => (intro w hSw; (try dsimp only at hSw); go_simp <;> with_reducible rfl)
  try simp only [Act.put, List.setIfInBounds_toArray, List.set_cons_zero, List.set_cons_succ]
  refine wpAnyH_take (i := 21) (oi := ?oi21) (v := ?v21) ?hi21 (by kernel_rfl) (by kernel_rfl) (by kernel_rfl) (fun _ _ _ h => (h : False).elim) (Or.inl ⟨?hw21, ?hy21⟩) hHeld ?rest21
  case hi21 => (simp only [List.getElem?_toArray, List.getElem?_cons_zero, List.getElem?_cons_succ]; rfl)
  case hw21 => rfl
  case hy21 => (intro w hSw; (try dsimp only at hSw); go_simp <;> with_reducible rfl)
  try simp only [Act.put, List.setIfInBounds_toArray, List.set_cons_zero, List.set_cons_succ]
  refine wpAnyH_take (i := 22) (oi := ?oi22) (v := ?v22) ?hi22 (by kernel_rfl) (by kernel_rfl) (by kernel_rfl) (fun _ _ _ h => (h : False).elim) (Or.inl ⟨?hw22, ?hy22⟩) hHeld ?rest22
  case hi22 => (simp only [List.getElem?_toArray, List.getElem?_cons_zero, List.getElem?_cons_succ]; rfl)
  case hw22 => rfl
  case hy22 => (intro w hSw; (try dsimp only at hSw); go_simp <;> with_reducible rfl)
  try simp only [Act.put, List.setIfInBounds_toArray, List.set_cons_zero, List.set_cons_succ]
  refine wpAnyH_take (i := 23) (oi := ?oi23) (v := ?v23) ?hi23 (by kernel_rfl) (by kernel_rfl) (by kernel_rfl) (fun _ _ _ h => (h : False).elim) (Or.inl ⟨?hw23, ?hy23⟩) hHeld ?rest23
  case hi23 => (simp only [List.getElem?_toArray, List.getElem?_cons_zero, List.getElem?_cons_succ]; rfl)
  case hw23 => rfl
  case hy23 => (intro w hSw; (try dsimp only at hSw); go_simp <;> with_reducible rfl)
  try simp only [Act.put, List.setIfInBounds_toArray, List.set_cons_zero, List.set_cons_succ]
  refine wpAnyH_take (i := 24) (oi := ?oi24) (v := ?v24) ?hi24 (by kernel_rfl) (by kernel_rfl) (by kernel_rfl) (fun _ _ _ h => (h : False).elim) (Or.inl ⟨?hw24, ?hy24⟩) hHeld ?rest24
  case hi24 => (simp only [List.getElem?_toArray, List.getElem?_cons_zero, List.getElem?_cons_succ]; rfl)
  case hw24 => rfl
  case hy24 => (intro w hSw; (try dsimp only at hSw); go_simp <;> with_reducible rfl)
  try simp only [Act.put, List.setIfInBounds_toArray, List.set_cons_zero, List.set_cons_succ]
  refine wpAnyH_take (i := 26) (oi := ?oi26) (v := ?v26) ?hi26 (by kernel_rfl) (by kernel_rfl) (by kernel_rfl) (fun _ _ _ h => (h : False).elim) (Or.inl ⟨?hw26, ?hy26⟩) hHeld ?rest26
  case hi26 => (simp only [List.getElem?_toArray, List.getElem?_cons_zero, List.getElem?_cons_succ]; rfl)
  case hw26 => rfl
  case hy26 => (intro w hSw; (try dsimp only at hSw); go_simp <;> with_reducible rfl)
  try simp only [Act.put, List.setIfInBounds_toArray, List.set_cons_zero, List.set_cons_succ]
  refine wpAnyH_take (i := 27) (oi := ?oi27) (v := ?v27) ?hi27 (by kernel_rfl) (by kernel_rfl) (by kernel_rfl) (fun _ _ _ h => (h : False).elim) (Or.inl ⟨?hw27, ?hy27⟩) hHeld ?rest27
  case hi27 => (simp only [List.getElem?_toArray, List.getElem?_cons_zero, List.getElem?_cons_succ]; rfl)
  case hw27 => rfl
  case hy27 => (intro w hSw; (try dsimp only at hSw); go_simp <;> with_reducible rfl)
  try simp only [Act.put, List.setIfInBounds_toArray, List.set_cons_zero, List.set_cons_succ]
  refine wpAnyH_take (i := 28) (oi := ?oi28) (v := ?v28) ?hi28 (by kernel_rfl) (by kernel_rfl) (by kernel_rfl) (fun _ _ _ h => (h : False).elim) (Or.inl ⟨?hw28, ?hy28⟩) hHeld ?rest28
  case hi28 => (simp only [List.getElem?_toArray, List.getElem?_cons_zero, List.getElem?_cons_succ]; rfl)
  case hw28 => rfl
  case hy28 => (intro w hSw; (try dsimp only at hSw); go_simp <;> with_reducible rfl)
  try simp only [Act.put, List.setIfInBounds_toArray, List.set_cons_zero, List.set_cons_succ]
  refine wpAnyH_take (i := 29) (oi := ?oi29) (v := ?v29) ?hi29 (by kernel_rfl) (by kernel_rfl) (by kernel_rfl) (fun _ _ _ h => (h : False).elim) (Or.inl ⟨?hw29, ?hy29⟩) hHeld ?rest29
  case hi29 => (simp only [List.getElem?_toArray, List.getElem?_cons_zero, List.getElem?_cons_succ]; rfl)
  case hw29 => rfl
  case hy29 => (intro w hSw; (try dsimp only at hSw); go_simp <;> with_reducible rfl)
  try simp only [Act.put, List.setIfInBounds_toArray, List.set_cons_zero, List.set_cons_succ]
  refine wpAnyH_ready (rs := [25]) (by kernel_rfl) (by simp) ?_
  refine AllReadyH.cons (o := ?o25) ?ho25 (fun K' hK => ?st25) AllReadyH.nil
  case ho25 => (simp only [List.getElem?_toArray, List.getElem?_cons_zero, List.getElem?_cons_succ]; rfl)
  go_simp
  go_at_call 71
  refine ((HK.out.below (HB3.out.trans ((Below.refl _ _).drew.mono HB3.out.size))).files).mono ?_
  rintro e wF ⟨vF, usF, rfl, hOF, hLF, hBF⟩
  have hbF : Below w3.heap.size w3 wF := (Below.refl _ w3).drew.trans hBF
  have hNF := nms_of_owns hOF hLF (fun j hj => (HFo.out.2 j hj).2)
  obtain ⟨aF, cF, rfl⟩ := owns_slice hOF
  refine hK.out _ _ (HKp.out _ hbF) (fun hHeld2 => ?_)
  clear hK K' hHeld
  have hHeld := hHeld2
  clear hHeld2
  try simp only [Act.put, List.setIfInBounds_toArray, List.set_cons_zero, List.set_cons_succ]
  refine wpAnyH_ready (rs := [30]) (by kernel_rfl) (by simp) ?_
  refine AllReadyH.cons (o := ?o30) ?ho30 (fun K' hK => ?st30) AllReadyH.nil
  case ho30 => (simp only [List.getElem?_toArray, List.getElem?_cons_zero, List.getElem?_cons_succ]; rfl)
  go_simp
  go_at_call 72
  refine ((HR.out.below (HB3.out.trans (hbF.mono HB3.out.size))).files).mono ?_
  rintro e wG ⟨vG, usG, rfl, hOG, hLG, hBG⟩
  have hbG : Below w3.heap.size w3 wG := hbF.trans (hBG.mono hbF.size)
  have hNG := nms_of_owns hOG hLG (fun j hj => (HFo.out.2 j hj).2)
  obtain ⟨aG, cG, rfl⟩ := owns_slice hOG
  refine hK.out _ _ (HKp.out _ hbG) (fun hHeld2 => ?_)
  clear hK K' hHeld
  have hHeld := hHeld2
  clear hHeld2
  try simp only [Act.put, List.setIfInBounds_toArray, List.set_cons_zero, List.set_cons_succ]
  refine wpAnyH_ready (rs := [31]) (by kernel_rfl) (by simp) ?_
  refine AllReadyH.cons (o := ?o31) ?ho31 (fun K' hK => ?st31) AllReadyH.nil
  case ho31 => (simp only [List.getElem?_toArray, List.getElem?_cons_zero, List.getElem?_cons_succ]; rfl)
  go_simp
  go_at_call 70
  refine (sameNamed_any _ _ K.files wG (hNF.below hBG) hNG (by have := HFo.out.1; unfold maxLen; omega) (fun j hj => by have := (HFo.out.2 j hj).1; unfold maxLen; omega)).mono ?_
  rintro e wN ⟨rfl, hBN⟩
  have hbN : Below w3.heap.size w3 wN := hbG.trans (hBN.mono hbG.size)
  refine hK.out _ _ (HKp.out _ hbN) (fun hHeld2 => ?_)
  clear hK K' hHeld
  have hHeld := hHeld2
  clear hHeld2
  try simp only [Act.put, List.setIfInBounds_toArray, List.set_cons_zero, List.set_cons_succ]
  refine wpAnyH_take (i := 32) (oi := ?oi32) (v := ?v32) ?hi32 (by kernel_rfl) (by kernel_rfl) (by kernel_rfl) (fun _ _ _ h => (h : False).elim) (Or.inl ⟨?hw32, ?hy32⟩) hHeld ?rest32
  case hi32 => (simp only [List.getElem?_toArray, List.getElem?_cons_zero, List.getElem?_cons_succ]; rfl)
  case hw32 => rfl
  case hy32 => (intro w hSw; (try dsimp only at hSw); go_simp <;> with_reducible rfl)
  try simp only [Act.put, List.setIfInBounds_toArray, List.set_cons_zero, List.set_cons_succ]
  refine wpAnyH_take (i := 33) (oi := ?oi33) (v := ?v33) ?hi33 (by kernel_rfl) (by kernel_rfl) (by kernel_rfl) (fun _ _ _ h => (h : False).elim) (Or.inl ⟨?hw33, ?hy33⟩) hHeld ?rest33
  case hi33 => (simp only [List.getElem?_toArray, List.getElem?_cons_zero, List.getElem?_cons_succ]; rfl)
  case hw33 => rfl
  case hy33 => (intro w hSw; (try dsimp only at hSw); go_simp <;> with_reducible rfl)
  try simp only [Act.put, List.setIfInBounds_toArray, List.set_cons_zero, List.set_cons_succ]
  refine wpAnyH_take (i := 34) (oi := ?oi34) (v := ?v34) ?hi34 (by kernel_rfl) (by kernel_rfl) (by kernel_rfl) (fun _ _ _ h => (h : False).elim) (Or.inl ⟨?hw34, ?hy34⟩) hHeld ?rest34
  case hi34 => (simp only [List.getElem?_toArray, List.getElem?_cons_zero, List.getElem?_cons_succ]; rfl)
  case hw34 => rfl
  case hy34 => (intro w hSw; (try dsimp only at hSw); go_simp <;> with_reducible rfl)
  try simp only [Act.put, List.setIfInBounds_toArray, List.set_cons_zero, List.set_cons_succ]
  refine wpAnyH_take (i := 35) (oi := ?oi35) (v := ?v35) ?hi35 (by kernel_rfl) (by kernel_rfl) (by kernel_rfl) (fun _ _ _ h => (h : False).elim) (Or.inl ⟨?hw35, ?hy35⟩) hHeld ?rest35
  case hi35 => (simp only [List.getElem?_toArray, List.getElem?_cons_zero, List.getElem?_cons_succ]; rfl)
  case hw35 => rfl
  case hy35 => (intro w hSw; (try dsimp only at hSw); go_simp <;> with_reducible rfl)
  try simp only [Act.put, List.setIfInBounds_toArray, List.set_cons_zero, List.set_cons_succ]
  refine wpAnyH_take (i := 36) (oi := ?oi36) (v := ?v36) ?hi36 (by kernel_rfl) (by kernel_rfl) (by kernel_rfl) (fun _ _ _ h => (h : False).elim) (Or.inl ⟨?hw36, ?hy36⟩) hHeld ?rest36
  case hi36 => (simp only [List.getElem?_toArray, List.getElem?_cons_zero, List.getElem?_cons_succ]; rfl)
  case hw36 => rfl
  case hy36 => (intro w hSw; (try dsimp only at hSw); go_simp <;> with_reducible rfl)
  try simp only [Act.put, List.setIfInBounds_toArray, List.set_cons_zero, List.set_cons_succ]
  refine wpAnyH_take (i := 37) (oi := ?oi37) (v := ?v37) ?hi37 (by kernel_rfl) (by kernel_rfl) (by kernel_rfl) (fun _ _ _ h => (h : False).elim) (Or.inl ⟨?hw37, ?hy37⟩) hHeld ?rest37
  case hi37 => (simp only [List.getElem?_toArray, List.getElem?_cons_zero, List.getElem?_cons_succ]; rfl)
  case hw37 => rfl
  case hy37 => (intro w hSw; (try dsimp only at hSw); go_simp <;> with_reducible rfl)
  try simp only [Act.put, List.setIfInBounds_toArray, List.set_cons_zero, List.set_cons_succ]
  refine wpAnyH_take (i := 38) (oi := ?oi38) (v := ?v38) ?hi38 (by kernel_rfl) (by kernel_rfl) (by kernel_rfl) (fun _ _ _ h => (h : False).elim) (Or.inl ⟨?hw38, ?hy38⟩) hHeld ?rest38
  case hi38 => (simp only [List.getElem?_toArray, List.getElem?_cons_zero, List.getElem?_cons_succ]; rfl)
  case hw38 => rfl
  case hy38 => (intro w hSw; (try dsimp only at hSw); go_simp <;> with_reducible rfl)
  try simp only [Act.put, List.setIfInBounds_toArray, List.set_cons_zero, List.set_cons_succ]
  refine wpAnyH_take (i := 39) (oi := ?oi39) (v := ?v39) ?hi39 (by kernel_rfl) (by kernel_rfl) (by kernel_rfl) (fun _ _ _ h => (h : False).elim) (Or.inl ⟨?hw39, ?hy39⟩) hHeld ?rest39
  case hi39 => (simp only [List.getElem?_toArray, List.getElem?_cons_zero, List.getElem?_cons_succ]; rfl)
  case hw39 => rfl
  case hy39 => (intro w hSw; (try dsimp only at hSw); go_simp <;> with_reducible rfl)
  try simp only [Act.put, List.setIfInBounds_toArray, List.set_cons_zero, List.set_cons_succ]
  refine wpAnyH_take (i := 40) (oi := ?oi40) (v := ?v40) ?hi40 (by kernel_rfl) (by kernel_rfl) (by kernel_rfl) (fun _ _ _ h => (h : False).elim) (Or.inl ⟨?hw40, ?hy40⟩) hHeld ?rest40
  case hi40 => (simp only [List.getElem?_toArray, List.getElem?_cons_zero, List.getElem?_cons_succ]; rfl)
  case hw40 => rfl
  case hy40 => (intro w hSw; (try dsimp only at hSw); go_simp <;> with_reducible rfl)
  try simp only [Act.put, List.setIfInBounds_toArray, List.set_cons_zero, List.set_cons_succ]
  refine wpAnyH_take (i := 41) (oi := ?oi41) (v := ?v41) ?hi41 (by kernel_rfl) (by kernel_rfl) (by kernel_rfl) (fun _ _ _ h => (h : False).elim) (Or.inl ⟨?hw41, ?hy41⟩) hHeld ?rest41
  case hi41 => (simp only [List.getElem?_toArray, List.getElem?_cons_zero, List.getElem?_cons_succ]; rfl)
  case hw41 => rfl
  case hy41 => (intro w hSw; (try dsimp only at hSw); go_simp <;> with_reducible rfl)
  try simp only [Act.put, List.setIfInBounds_toArray, List.set_cons_zero, List.set_cons_succ]
  refine wpAnyH_take (i := 42) (oi := ?oi42) (v := ?v42) ?hi42 (by kernel_rfl) (by kernel_rfl) (by kernel_rfl) (fun _ _ _ h => (h : False).elim) (Or.inl ⟨?hw42, ?hy42⟩) hHeld ?rest42
  case hi42 => (simp only [List.getElem?_toArray, List.getElem?_cons_zero, List.getElem?_cons_succ]; rfl)
  case hw42 => rfl
  case hy42 => (intro w hSw; (try dsimp only at hSw); go_simp <;> with_reducible rfl)
  try simp only [Act.put, List.setIfInBounds_toArray, List.set_cons_zero, List.set_cons_succ]
  refine wpAnyH_take (i := 43) (oi := ?oi43) (v := ?v43) ?hi43 (by kernel_rfl) (by kernel_rfl) (by kernel_rfl) (fun _ _ _ h => (h : False).elim) (Or.inl ⟨?hw43, ?hy43⟩) hHeld ?rest43
  case hi43 => (simp only [List.getElem?_toArray, List.getElem?_cons_zero, List.getElem?_cons_succ]; rfl)
  case hw43 => rfl
  case hy43 => (intro w hSw; (try dsimp only at hSw); go_simp <;> with_reducible rfl)
  try simp only [Act.put, List.setIfInBounds_toArray, List.set_cons_zero, List.set_cons_succ]
  refine wpAnyH_take (i := 44) (oi := ?oi44) (v := undef) ?hi44 (by kernel_rfl) (by kernel_rfl) (by kernel_rfl) (fun _ _ _ h => (h : False).elim) (Or.inr ⟨?hw44, rfl⟩) hHeld ?rest44
  case hi44 => (simp only [List.getElem?_toArray, List.getElem?_cons_zero, List.getElem?_cons_succ]; rfl)
  case hw44 => rfl
  try simp only [Act.put, List.setIfInBounds_toArray, List.set_cons_zero, List.set_cons_succ]
  refine wpAnyH_take (i := 45) (oi := ?oi45) (v := undef) ?hi45 (by kernel_rfl) (by kernel_rfl) (by kernel_rfl) (fun _ _ _ h => (h : False).elim) (Or.inr ⟨?hw45, rfl⟩) hHeld ?rest45
  case hi45 => (simp only [List.getElem?_toArray, List.getElem?_cons_zero, List.getElem?_cons_succ]; rfl)
  case hw45 => rfl
  try simp only [Act.put, List.setIfInBounds_toArray, List.set_cons_zero, List.set_cons_succ]
  refine wpAnyH_take (i := 46) (oi := ?oi46) (v := undef) ?hi46 (by kernel_rfl) (by kernel_rfl) (by kernel_rfl) (fun _ _ _ h => (h : False).elim) (Or.inr ⟨?hw46, rfl⟩) hHeld ?rest46
  case hi46 => (simp only [List.getElem?_toArray, List.getElem?_cons_zero, List.getElem?_cons_succ]; rfl)
  case hw46 => rfl
  try simp only [Act.put, List.setIfInBounds_toArray, List.set_cons_zero, List.set_cons_succ]
  refine wpAnyH_take (i := 47) (oi := ?oi47) (v := undef) ?hi47 (by kernel_rfl) (by kernel_rfl) (by kernel_rfl) (fun _ _ _ h => (h : False).elim) (Or.inr ⟨?hw47, rfl⟩) hHeld ?rest47
  case hi47 => (simp only [List.getElem?_toArray, List.getElem?_cons_zero, List.getElem?_cons_succ]; rfl)
  case hw47 => rfl
  try simp only [Act.put, List.setIfInBounds_toArray, List.set_cons_zero, List.set_cons_succ]
  refine wpAnyH_take (i := 48) (oi := ?oi48) (v := undef) ?hi48 (by kernel_rfl) (by kernel_rfl) (by kernel_rfl) (fun _ _ _ h => (h : False).elim) (Or.inr ⟨?hw48, rfl⟩) hHeld ?rest48
  case hi48 => (simp only [List.getElem?_toArray, List.getElem?_cons_zero, List.getElem?_cons_succ]; rfl)
  case hw48 => rfl
  try simp only [Act.put, List.setIfInBounds_toArray, List.set_cons_zero, List.set_cons_succ]
  refine wpAnyH_ready (rs := [49]) (by kernel_rfl) (by simp) ?_
  refine AllReadyH.cons (o := ?o) ?ho (fun K' hK => ?st) AllReadyH.nil
  case ho => (simp only [List.getElem?_toArray, List.getElem?_cons_zero, List.getElem?_cons_succ]; rfl)
  go_simp
  refine hK.out _ _ hHeld (fun _ => ?_)
  clear hK K'
  try simp only [Act.put, List.setIfInBounds_toArray, List.set_cons_zero, List.set_cons_succ]
  refine wpAnyH_take (i := 50) (oi := ?oi50) (v := ?v50) ?hi50 (by kernel_rfl) (by kernel_rfl) (by kernel_rfl) (fun _ _ _ h => (h : False).elim) (Or.inl ⟨?hw50, ?hy50⟩) hHeld ?rest50
  case hi50 => (simp only [List.getElem?_toArray, List.getElem?_cons_zero, List.getElem?_cons_succ]; rfl)
  case hw50 => rfl
  case hy50 => (intro w hSw; (try dsimp only at hSw); go_simp <;> with_reducible rfl)
  try simp only [Act.put, List.setIfInBounds_toArray, List.set_cons_zero, List.set_cons_succ]
  refine wpAnyH_take (i := 51) (oi := ?oi51) (v := ?v51) ?hi51 (by kernel_rfl) (by kernel_rfl) (by kernel_rfl) (fun _ _ _ h => (h : False).elim) (Or.inl ⟨?hw51, ?hy51⟩) hHeld ?rest51
  case hi51 => (simp only [List.getElem?_toArray, List.getElem?_cons_zero, List.getElem?_cons_succ]; rfl)
  case hw51 => rfl
  case hy51 => (intro w hSw; (try dsimp only at hSw); go_simp <;> with_reducible rfl)
  try simp only [Act.put, List.setIfInBounds_toArray, List.set_cons_zero, List.set_cons_succ]
  refine wpAnyH_take (i := 52) (oi := ?oi52) (v := ?v52) ?hi52 (by kernel_rfl) (by kernel_rfl) (by kernel_rfl) (fun _ _ _ h => (h : False).elim) (Or.inl ⟨?hw52, ?hy52⟩) hHeld ?rest52
  case hi52 => (simp only [List.getElem?_toArray, List.getElem?_cons_zero, List.getElem?_cons_succ]; rfl)
  case hw52 => rfl
  case hy52 => (intro w hSw; (try dsimp only at hSw); go_simp <;> with_reducible rfl)
  try simp only [Act.put, List.setIfInBounds_toArray, List.set_cons_zero, List.set_cons_succ]
  refine wpAnyH_done (by kernel_rfl) ?_ _
  refine NoPanic.normal ?_
  go_wp2
  go_ret
  exact ⟨rfl, HB3.out.trans (hbN.mono HB3.out.size)⟩
theorem same_made {kb g rb mb : Nat} {d : Int} {w : World} {K : KS} (hB : Both (fun w O => KAt w O kb K) (fun w O => RwS g rb d w O K) w (fun j => mb < j)) (hM : MkrAt mb kb rb g d w) (h1 : KSole K) :
    Calls Tryz.prog 28 #[.pointer (some ⟨mb, 0, none⟩)] w fun e w' => e = .returned (.bool true) ∧ Below w.heap.size w w' := by
  obtain ⟨i, hnm, hnf⟩ := h1
  by_cases ht : ∃ ls scr, K.obOf i = .term ls scr
  · obtain ⟨ls, scr, ht⟩ := ht
    exact same_madeA hB hM hnm hnf ht
  · exact same_madeB hB hM hnm hnf ht
end Go.Proofs.YtanbiinomagdbaaGreat

/- Plant.Make, of a fixed memory. -/
namespace Go.Proofs.YtanbiinomagdbaaGreat
open Go.RowKit

set_option maxRecDepth 100000 in
set_option maxHeartbeats 4000000 in
theorem make_fixed (x : Plt) (dv rv wv fv lv : Value) (w : World) (h : PltIn w x dv rv wv fv lv) (hk : x.k6 = 0) (hp : I64 x.place) :
    Calls Tryz.prog 18 #[.agg #[.int .i64 x.kind, .int .i64 x.size, dv, rv, wv, fv, lv, .int .i64 x.place, .bool x.app]] w (MakeOut x w) := by
  have HP := hide h
  obtain ⟨da, dc, rfl, -⟩ := h.d
  obtain ⟨ra, rc, rfl, -⟩ := h.r
  obtain ⟨wa, wc, rfl⟩ := h.w.form
  obtain ⟨fa, fc, rfl, -⟩ := h.f.form
  obtain ⟨la, lc, rfl, -⟩ := RowsR.form h.l
  unfold Plt.k6 at hk
  have HY : Hid (∀ W, Below w.heap.size w W → Bys W (.slice da x.data.length dc) x.data) := hide fun W hW => by
    obtain ⟨va, vc, e, hb, -⟩ := HP.out.d
    cases e
    exact hb.below hW
  clear h
  go_enter Tryz.func18, Tryz.ntmps18
  go_wp2_with fail
  have hz1 : (w.alloc (Obj.cells #[.int .i64 x.kind, .int .i64 x.size, .slice da x.data.length dc, .slice ra x.reads.length rc, .slice wa x.writes.length wc, .slice fa x.fs.length fc, .slice la x.lines.length lc, .int .i64 x.place, .bool x.app] 50)).heap.size = w.heap.size + 1 := Array.size_push _
  have hz0 : ((w.alloc (Obj.cells #[.int .i64 x.kind, .int .i64 x.size, .slice da x.data.length dc, .slice ra x.reads.length rc, .slice wa x.writes.length wc, .slice fa x.fs.length fc, .slice la x.lines.length lc, .int .i64 x.place, .bool x.app] 50)).alloc (Obj.cells #[.nilIface, .pointer none, .pointer none, .pointer none, .pointer none, .pointer none, .pointer none] 65)).heap.size = w.heap.size + 1 + 1 := (Array.size_push _).trans (by rw [show (w.alloc (Obj.cells #[.int .i64 x.kind, .int .i64 x.size, .slice da x.data.length dc, .slice ra x.reads.length rc, .slice wa x.writes.length wc, .slice fa x.fs.length fc, .slice la x.lines.length lc, .int .i64 x.place, .bool x.app] 50)).heap.size = w.heap.size + 1 from hz1])
  have HB0 := hide ((recv4 w (Obj.cells #[.int .i64 x.kind, .int .i64 x.size, .slice da x.data.length dc, .slice ra x.reads.length rc, .slice wa x.writes.length wc, .slice fa x.fs.length fc, .slice la x.lines.length lc, .int .i64 x.place, .bool x.app] 50)).trans ((recv4 (w.alloc (Obj.cells #[.int .i64 x.kind, .int .i64 x.size, .slice da x.data.length dc, .slice ra x.reads.length rc, .slice wa x.writes.length wc, .slice fa x.fs.length fc, .slice la x.lines.length lc, .int .i64 x.place, .bool x.app] 50)) (Obj.cells #[.nilIface, .pointer none, .pointer none, .pointer none, .pointer none, .pointer none, .pointer none] 65)).mono (recv4 w (Obj.cells #[.int .i64 x.kind, .int .i64 x.size, .slice da x.data.length dc, .slice ra x.reads.length rc, .slice wa x.writes.length wc, .slice fa x.fs.length fc, .slice la x.lines.length lc, .int .i64 x.place, .bool x.app] 50)).size))
  have hq : ((w.alloc (Obj.cells #[.int .i64 x.kind, .int .i64 x.size, .slice da x.data.length dc, .slice ra x.reads.length rc, .slice wa x.writes.length wc, .slice fa x.fs.length fc, .slice la x.lines.length lc, .int .i64 x.place, .bool x.app] 50)).alloc (Obj.cells #[.nilIface, .pointer none, .pointer none, .pointer none, .pointer none, .pointer none, .pointer none] 65)).heap[w.heap.size]? = some (Obj.cells #[.int .i64 x.kind, .int .i64 x.size, .slice da x.data.length dc, .slice ra x.reads.length rc, .slice wa x.writes.length wc, .slice fa x.fs.length fc, .slice la x.lines.length lc, .int .i64 x.place, .bool x.app] 50) := ((recv4 (w.alloc (Obj.cells #[.int .i64 x.kind, .int .i64 x.size, .slice da x.data.length dc, .slice ra x.reads.length rc, .slice wa x.writes.length wc, .slice fa x.fs.length fc, .slice la x.lines.length lc, .int .i64 x.place, .bool x.app] 50)) (Obj.cells #[.nilIface, .pointer none, .pointer none, .pointer none, .pointer none, .pointer none, .pointer none] 65)).block w.heap.size (by omega)).trans (heap_alloc_new w (Obj.cells #[.int .i64 x.kind, .int .i64 x.size, .slice da x.data.length dc, .slice ra x.reads.length rc, .slice wa x.writes.length wc, .slice fa x.fs.length fc, .slice la x.lines.length lc, .int .i64 x.place, .bool x.app] 50))
  have hm0 : ((w.alloc (Obj.cells #[.int .i64 x.kind, .int .i64 x.size, .slice da x.data.length dc, .slice ra x.reads.length rc, .slice wa x.writes.length wc, .slice fa x.fs.length fc, .slice la x.lines.length lc, .int .i64 x.place, .bool x.app] 50)).alloc (Obj.cells #[.nilIface, .pointer none, .pointer none, .pointer none, .pointer none, .pointer none, .pointer none] 65)).heap[w.heap.size + 1]? = some (Obj.cells #[.nilIface, .pointer none, .pointer none, .pointer none, .pointer none, .pointer none, .pointer none] 65) := by
    have := heap_alloc_new (w.alloc (Obj.cells #[.int .i64 x.kind, .int .i64 x.size, .slice da x.data.length dc, .slice ra x.reads.length rc, .slice wa x.writes.length wc, .slice fa x.fs.length fc, .slice la x.lines.length lc, .int .i64 x.place, .bool x.app] 50)) (Obj.cells #[.nilIface, .pointer none, .pointer none, .pointer none, .pointer none, .pointer none, .pointer none] 65)
    rwa [hz1] at this
  have HQ := hide (And.intro hq hm0)
  generalize (w.alloc (Obj.cells #[.int .i64 x.kind, .int .i64 x.size, .slice da x.data.length dc, .slice ra x.reads.length rc, .slice wa x.writes.length wc, .slice fa x.fs.length fc, .slice la x.lines.length lc, .int .i64 x.place, .bool x.app] 50)).alloc (Obj.cells #[.nilIface, .pointer none, .pointer none, .pointer none, .pointer none, .pointer none, .pointer none] 65) = W0 at *
  clear hq hm0 hz1
  obtain ⟨mb, hmb⟩ : ∃ mb, mb = w.heap.size + 1 := ⟨_, rfl⟩
  rw [← hmb] at hz0 HQ
  simp only [← hmb]
  have hwm : w.heap.size < mb := by omega
  clear hmb
  refine (rnewFixed_any x.size _ x.data W0 (HY.out _ HB0.out)).mono ?_
  rintro _ w1 ⟨p1, rfl, hB1, hR1⟩
  have r1 := (hB1.block mb (by omega)).trans HQ.out.2
  have l1 := (hB1.block w.heap.size (by omega)).trans HQ.out.1
  have mc := cell_of_row w1 mb 1 _ _ _ r1
  have mf := frozen_of_row w1 mb 1 _ _ r1
  have s1 := Go.heap_setCell_same w1 mb 1 _ _ (.pointer p1) r1
  have t1 := (heap_setCell_other w1 ⟨mb, 1, none⟩ w.heap.size (.pointer p1) (by show w.heap.size ≠ mb; omega)).trans l1
  have pc1 := cell_of_row _ w.heap.size 1 _ _ _ t1
  have pc2 := cell_of_row _ w.heap.size 2 _ _ _ t1
  simp at mc pc1 pc2
  have hzw : W0.heap.size ≤ w1.heap.size := hB1.size
  have HB1 := hide ((HB0.out.trans (hB1.mono HB0.out.size)).setCell (p := ⟨mb, 1, none⟩) (by show w.heap.size ≤ mb; omega) (.pointer p1))
  have HR1 : Hid ((fixE x.size x.data ≠ 0 ∧ p1 = none) ∨ (fixE x.size x.data = 0 ∧ ∃ g, p1 = some ⟨g, 0, none⟩ ∧ RMemAt (w1.setCell ⟨mb, 1, none⟩ (.pointer p1)) (fun k => mb + 1 ≤ k) g 1 ⟨x.data, x.size.toNat, 0⟩)) := hide (by
    rcases hR1 with h | ⟨h1, g, h2, h3⟩
    · exact .inl h
    · exact .inr ⟨h1, g, h2, (h3.mono (fun k e => by rw [hz0] at e; exact e)).keep (fun k e _ => heap_setCell_other _ _ _ _ (by show k ≠ mb; have e2 : mb + 1 ≤ k := e; omega))⟩)
  have HS1 := hide (And.intro s1 t1)
  have hzs : (w1.setCell ⟨mb, 1, none⟩ (.pointer p1)).heap.size = w1.heap.size := by simp [World.setCell]
  clear hB1 hR1 r1 l1 s1 t1 HQ HB0
  go_wp2_with fail
  generalize w1.setCell ⟨mb, 1, none⟩ (.pointer p1) = W1 at *
  refine (newFixed_any x.size _ x.data _ (HY.out _ HB1.out)).mono ?_
  rintro _ w2 ⟨p2, rfl, hB2, hR2⟩
  have r2 := (hB2.block mb (by omega)).trans HS1.out.1
  have l2 := (hB2.block w.heap.size (by omega)).trans HS1.out.2
  have mc2 := cell_of_row w2 mb 2 _ _ _ r2
  have mf2 := frozen_of_row w2 mb 2 _ _ r2
  have s2 := Go.heap_setCell_same w2 mb 2 _ _ (.pointer p2) r2
  have mc3 := cell_of_row _ mb 2 _ _ _ s2
  have mc0 := cell_of_row _ mb 0 _ _ _ s2
  have mf0 := frozen_of_row _ mb 0 _ _ s2
  have s3 := Go.heap_setCell_same _ mb 0 _ _ (.iface 61 (.pointer p2)) s2
  simp at mc2 mc3 mc0
  have HS3 := hide s3
  have HR2 := hide hR2
  have HB2 := hide hB2
  clear hB2 hR2 r2 l2 s2 s3 mc mf pc1 pc2
  by_cases hE : fixE x.size x.data = 0
  · obtain ⟨g, rfl, hM1⟩ : ∃ g, p1 = some ⟨g, 0, none⟩ ∧ RMemAt W1 (fun k => mb + 1 ≤ k) g 1 ⟨x.data, x.size.toNat, 0⟩ := by
      rcases HR1.out with ⟨h, _⟩ | ⟨_, h⟩
      · exact absurd hE h
      · exact h
    obtain ⟨y, rfl, hM2⟩ : ∃ y, p2 = some ⟨y, 0, none⟩ ∧ MemAt w2 (fun k => W1.heap.size ≤ k) y ⟨x.data, x.size.toNat, 0⟩ := by
      rcases HR2.out with ⟨h, _⟩ | ⟨_, h⟩
      · exact absurd hE h
      · exact h
    rw [hE]
    have hB2z := HB2.out.size
    have HPP := hide (Both.turned (Both.make (Q := fun j => mb + 1 ≤ j) (rmem_o _ _ _) (mem_o _ _) hM1 (fun j e _ => e) (fun j e _ => by omega) HB2.out hM2).swap (mem_o _ _) (rmem_o _ _ _) ((((Turned.refl (fun k => k = mb) w2).set (j := 2) (u := .pointer (some ⟨y, 0, none⟩)) (.inl rfl)).set (j := 0) (u := .iface 61 (.pointer (some ⟨y, 0, none⟩))) (.inl rfl))) (fun j e e' => by have e2 : j = mb := e'; have e3 : mb + 1 ≤ j := e; omega))
    have HMd : Hid (MdAt mb 61 (.pointer (some ⟨y, 0, none⟩)) g (some ⟨y, 0, none⟩) none none ((w2.setCell ⟨mb, 2, none⟩ (.pointer (some ⟨y, 0, none⟩))).setCell ⟨mb, 0, none⟩ (.iface 61 (.pointer (some ⟨y, 0, none⟩))))) := HS3
    have HL := hide ((heap_setCell_other (w2.setCell ⟨mb, 2, none⟩ (.pointer (some ⟨y, 0, none⟩))) ⟨mb, 0, none⟩ w.heap.size (.iface 61 (.pointer (some ⟨y, 0, none⟩))) (by show w.heap.size ≠ mb; omega)).trans ((heap_setCell_other w2 ⟨mb, 2, none⟩ w.heap.size (.pointer (some ⟨y, 0, none⟩)) (by show w.heap.size ≠ mb; omega)).trans ((HB2.out.block w.heap.size (by omega)).trans HS1.out.2)))
    have HB3 := hide (((HB1.out.trans (HB2.out.mono HB1.out.size)).setCell (p := ⟨mb, 2, none⟩) (by show w.heap.size ≤ mb; omega) (.pointer (some ⟨y, 0, none⟩))).setCell (p := ⟨mb, 0, none⟩) (by show w.heap.size ≤ mb; omega) (.iface 61 (.pointer (some ⟨y, 0, none⟩))))
    clear hM1 hM2 HR1 HR2 HS3 HS1
    go_wp2_with fail
    generalize (w2.setCell ⟨mb, 2, none⟩ (.pointer (some ⟨y, 0, none⟩))).setCell ⟨mb, 0, none⟩ (.iface 61 (.pointer (some ⟨y, 0, none⟩))) = W3 at *
    have K := pk_fixed y g mb
    have hm3 := K.mseek
    have hc3 := K.cseek
    have m0 : W3.cell? ⟨mb, 0, none⟩ = some (.iface 61 (.pointer (some ⟨y, 0, none⟩))) := cell_of_row W3 mb 0 _ _ _ HMd.out
    have m1 : W3.cell? ⟨mb, 1, none⟩ = some (.pointer (some ⟨g, 0, none⟩)) := cell_of_row W3 mb 1 _ _ _ HMd.out
    have p7 : W3.cell? ⟨w.heap.size, 7, none⟩ = some (.int .i64 x.place) := cell_of_row W3 w.heap.size 7 _ _ _ HL.out
    have hml : mb < W3.heap.size := World.block_lt_of_cell? W3 _ m0
    have HC := hide (pk_num K.oA K.oB (A := fun S w O => MemAt w O y S) (B := fun S w O => RMemAt w O g 1 S) HPP.out (by omega) (s' := (msD.seek ⟨x.data, x.size.toNat, 0⟩ x.place 0).2.2) (fun O wb hA _ _ => K.ps x.place 0 hA trivial hp) (fun O wb hA _ _ => K.qs x.place 0 hA trivial hp))
    have HS := hide (fun (W' : World) (hT : Turned (fun j => mb + 1 ≤ j) W3 W') => (show (W'.cell? ⟨mb, 0, none⟩ = some (.iface 61 (.pointer (some ⟨y, 0, none⟩))) ∧ W'.cell? ⟨mb, 1, none⟩ = some (.pointer (some ⟨g, 0, none⟩)) ∧ W'.cell? ⟨w.heap.size, 7, none⟩ = some (.int .i64 x.place)) ∧ W'.heap[mb]? = W3.heap[mb]? from
      ⟨⟨hT.cell m0 (by show ¬ mb + 1 ≤ mb; omega), hT.cell m1 (by show ¬ mb + 1 ≤ mb; omega), hT.cell p7 (by show ¬ mb + 1 ≤ w.heap.size; omega)⟩, hT.block mb hml (by show ¬ mb + 1 ≤ mb; omega)⟩))
    have HK := hide K
    clear K
    generalize msD.seek ⟨x.data, x.size.toNat, 0⟩ x.place 0 = X at *
    obtain ⟨N, E, s2⟩ := X
    simp only at *
    go_region_held3 (fun w' => w'.cell? ⟨mb, 0, none⟩ = some (.iface 61 (.pointer (some ⟨y, 0, none⟩))) ∧ w'.cell? ⟨w.heap.size, 7, none⟩ = some (.int .i64 x.place))
      (first | exact K4 | exact ⟨m0, p7⟩ | go_keep)
      (first
        | (refine (HC.out _ (Below.refl _ _).drew).mono ?_; rintro _ w4 ⟨rfl, -, hT4, hC4⟩; have K4 : w4.cell? ⟨mb, 0, none⟩ = some (.iface 61 (.pointer (some ⟨y, 0, none⟩))) ∧ w4.cell? ⟨w.heap.size, 7, none⟩ = some (.int .i64 x.place) := ⟨(HS.out w4 hT4).1.1, (HS.out w4 hT4).1.2.2⟩; have HT4 := hide hT4; have HC4 := hide hC4; clear hT4 hC4)
        | fail)
    have n1 := (HS.out w4 HT4.out).1.2.1
    have n2 := K4.2
    clear K4 HC
    go_wp2_with fail
    go_region_held3 (fun w' => w'.cell? ⟨mb, 1, none⟩ = some (.pointer (some ⟨g, 0, none⟩)) ∧ w'.cell? ⟨w.heap.size, 7, none⟩ = some (.int .i64 x.place))
      (first | exact K6 | exact ⟨n1, n2⟩ | go_keep)
      (first
        | (go_at_call 27; refine (HC4.out _ (Below.refl _ _).drew).mono ?_; rintro _ w6 ⟨rfl, HN6, -, hT6⟩; have K6 : w6.cell? ⟨mb, 1, none⟩ = some (.pointer (some ⟨g, 0, none⟩)) ∧ w6.cell? ⟨w.heap.size, 7, none⟩ = some (.int .i64 x.place) := ⟨(HS.out w6 hT6).1.2.1, (HS.out w6 hT6).1.2.2⟩; have HT6 := hide hT6; clear hT6)
        | fail)
    clear K6 n1 n2 HC4
    go_wp2
    go_ret2
    refine ⟨HB3.out.trans (HT6.out.below (fun j e => by have e2 : mb + 1 ≤ j := e; omega) HB3.out.size), .inr ⟨mb, by omega, rfl, MS, msD, 61, _, g, _, _, _, _, _, _, _, s2, HK.out, HN6.out, ?_, fun W W' h e => e.trans h, fun W h => ⟨cell_of_row W mb 0 _ _ _ h, cell_of_row W mb 1 _ _ _ h⟩, fun _ => trivial⟩⟩
    exact (HS.out w6 HT6.out).2.trans HMd.out
  · have hE2 : (fixE x.size x.data != 0) = true := by simpa using hE
    have hE3 : (fixE x.size x.data == 0) = false := by simpa using hE
    go_wp2_with fail
    go_ret2
    exact ⟨((HB1.out.trans (HB2.out.mono HB1.out.size)).setCell (p := ⟨mb, 2, none⟩) (by show w.heap.size ≤ mb; omega) _).setCell (p := ⟨mb, 0, none⟩) (by show w.heap.size ≤ mb; omega) _, .inl ⟨_, rfl⟩⟩
end Go.Proofs.YtanbiinomagdbaaGreat

/- Plant.Make, of a memory that grows. -/
namespace Go.Proofs.YtanbiinomagdbaaGreat
open Go.RowKit

set_option maxRecDepth 100000 in
set_option maxHeartbeats 4000000 in
theorem make_growing (x : Plt) (dv rv wv fv lv : Value) (w : World) (h : PltIn w x dv rv wv fv lv) (hk : x.k6 = 1) (hp : I64 x.place) :
    Calls Tryz.prog 18 #[.agg #[.int .i64 x.kind, .int .i64 x.size, dv, rv, wv, fv, lv, .int .i64 x.place, .bool x.app]] w (MakeOut x w) := by
  have HP := hide h
  obtain ⟨da, dc, rfl, -⟩ := h.d
  obtain ⟨ra, rc, rfl, -⟩ := h.r
  obtain ⟨wa, wc, rfl⟩ := h.w.form
  obtain ⟨fa, fc, rfl, -⟩ := h.f.form
  obtain ⟨la, lc, rfl, -⟩ := RowsR.form h.l
  unfold Plt.k6 at hk
  have HY : Hid (∀ W, Below w.heap.size w W → Bys W (.slice da x.data.length dc) x.data) := hide fun W hW => by
    obtain ⟨va, vc, e, hb, -⟩ := HP.out.d
    cases e
    exact hb.below hW
  clear h
  go_enter Tryz.func18, Tryz.ntmps18
  go_wp2_with fail
  have hz1 : (w.alloc (Obj.cells #[.int .i64 x.kind, .int .i64 x.size, .slice da x.data.length dc, .slice ra x.reads.length rc, .slice wa x.writes.length wc, .slice fa x.fs.length fc, .slice la x.lines.length lc, .int .i64 x.place, .bool x.app] 50)).heap.size = w.heap.size + 1 := Array.size_push _
  have hz0 : ((w.alloc (Obj.cells #[.int .i64 x.kind, .int .i64 x.size, .slice da x.data.length dc, .slice ra x.reads.length rc, .slice wa x.writes.length wc, .slice fa x.fs.length fc, .slice la x.lines.length lc, .int .i64 x.place, .bool x.app] 50)).alloc (Obj.cells #[.nilIface, .pointer none, .pointer none, .pointer none, .pointer none, .pointer none, .pointer none] 65)).heap.size = w.heap.size + 1 + 1 := (Array.size_push _).trans (by rw [show (w.alloc (Obj.cells #[.int .i64 x.kind, .int .i64 x.size, .slice da x.data.length dc, .slice ra x.reads.length rc, .slice wa x.writes.length wc, .slice fa x.fs.length fc, .slice la x.lines.length lc, .int .i64 x.place, .bool x.app] 50)).heap.size = w.heap.size + 1 from hz1])
  have HB0 := hide ((recv4 w (Obj.cells #[.int .i64 x.kind, .int .i64 x.size, .slice da x.data.length dc, .slice ra x.reads.length rc, .slice wa x.writes.length wc, .slice fa x.fs.length fc, .slice la x.lines.length lc, .int .i64 x.place, .bool x.app] 50)).trans ((recv4 (w.alloc (Obj.cells #[.int .i64 x.kind, .int .i64 x.size, .slice da x.data.length dc, .slice ra x.reads.length rc, .slice wa x.writes.length wc, .slice fa x.fs.length fc, .slice la x.lines.length lc, .int .i64 x.place, .bool x.app] 50)) (Obj.cells #[.nilIface, .pointer none, .pointer none, .pointer none, .pointer none, .pointer none, .pointer none] 65)).mono (recv4 w (Obj.cells #[.int .i64 x.kind, .int .i64 x.size, .slice da x.data.length dc, .slice ra x.reads.length rc, .slice wa x.writes.length wc, .slice fa x.fs.length fc, .slice la x.lines.length lc, .int .i64 x.place, .bool x.app] 50)).size))
  have hq : ((w.alloc (Obj.cells #[.int .i64 x.kind, .int .i64 x.size, .slice da x.data.length dc, .slice ra x.reads.length rc, .slice wa x.writes.length wc, .slice fa x.fs.length fc, .slice la x.lines.length lc, .int .i64 x.place, .bool x.app] 50)).alloc (Obj.cells #[.nilIface, .pointer none, .pointer none, .pointer none, .pointer none, .pointer none, .pointer none] 65)).heap[w.heap.size]? = some (Obj.cells #[.int .i64 x.kind, .int .i64 x.size, .slice da x.data.length dc, .slice ra x.reads.length rc, .slice wa x.writes.length wc, .slice fa x.fs.length fc, .slice la x.lines.length lc, .int .i64 x.place, .bool x.app] 50) := ((recv4 (w.alloc (Obj.cells #[.int .i64 x.kind, .int .i64 x.size, .slice da x.data.length dc, .slice ra x.reads.length rc, .slice wa x.writes.length wc, .slice fa x.fs.length fc, .slice la x.lines.length lc, .int .i64 x.place, .bool x.app] 50)) (Obj.cells #[.nilIface, .pointer none, .pointer none, .pointer none, .pointer none, .pointer none, .pointer none] 65)).block w.heap.size (by omega)).trans (heap_alloc_new w (Obj.cells #[.int .i64 x.kind, .int .i64 x.size, .slice da x.data.length dc, .slice ra x.reads.length rc, .slice wa x.writes.length wc, .slice fa x.fs.length fc, .slice la x.lines.length lc, .int .i64 x.place, .bool x.app] 50))
  have hm0 : ((w.alloc (Obj.cells #[.int .i64 x.kind, .int .i64 x.size, .slice da x.data.length dc, .slice ra x.reads.length rc, .slice wa x.writes.length wc, .slice fa x.fs.length fc, .slice la x.lines.length lc, .int .i64 x.place, .bool x.app] 50)).alloc (Obj.cells #[.nilIface, .pointer none, .pointer none, .pointer none, .pointer none, .pointer none, .pointer none] 65)).heap[w.heap.size + 1]? = some (Obj.cells #[.nilIface, .pointer none, .pointer none, .pointer none, .pointer none, .pointer none, .pointer none] 65) := by
    have := heap_alloc_new (w.alloc (Obj.cells #[.int .i64 x.kind, .int .i64 x.size, .slice da x.data.length dc, .slice ra x.reads.length rc, .slice wa x.writes.length wc, .slice fa x.fs.length fc, .slice la x.lines.length lc, .int .i64 x.place, .bool x.app] 50)) (Obj.cells #[.nilIface, .pointer none, .pointer none, .pointer none, .pointer none, .pointer none, .pointer none] 65)
    rwa [hz1] at this
  have HQ := hide (And.intro hq hm0)
  generalize (w.alloc (Obj.cells #[.int .i64 x.kind, .int .i64 x.size, .slice da x.data.length dc, .slice ra x.reads.length rc, .slice wa x.writes.length wc, .slice fa x.fs.length fc, .slice la x.lines.length lc, .int .i64 x.place, .bool x.app] 50)).alloc (Obj.cells #[.nilIface, .pointer none, .pointer none, .pointer none, .pointer none, .pointer none, .pointer none] 65) = W0 at *
  clear hq hm0 hz1
  obtain ⟨mb, hmb⟩ : ∃ mb, mb = w.heap.size + 1 := ⟨_, rfl⟩
  rw [← hmb] at hz0 HQ
  simp only [← hmb]
  have hwm : w.heap.size < mb := by omega
  clear hmb
  refine (rnewGrowing_any _ x.data W0 (HY.out _ HB0.out)).mono ?_
  rintro _ w1 ⟨p1, rfl, hB1, hR1⟩
  have r1 := (hB1.block mb (by omega)).trans HQ.out.2
  have l1 := (hB1.block w.heap.size (by omega)).trans HQ.out.1
  have mc := cell_of_row w1 mb 1 _ _ _ r1
  have mf := frozen_of_row w1 mb 1 _ _ r1
  have s1 := Go.heap_setCell_same w1 mb 1 _ _ (.pointer p1) r1
  have t1 := (heap_setCell_other w1 ⟨mb, 1, none⟩ w.heap.size (.pointer p1) (by show w.heap.size ≠ mb; omega)).trans l1
  have pc1 := cell_of_row _ w.heap.size 1 _ _ _ t1
  have pc2 := cell_of_row _ w.heap.size 2 _ _ _ t1
  simp at mc pc1 pc2
  have hzw : W0.heap.size ≤ w1.heap.size := hB1.size
  have HB1 := hide ((HB0.out.trans (hB1.mono HB0.out.size)).setCell (p := ⟨mb, 1, none⟩) (by show w.heap.size ≤ mb; omega) (.pointer p1))
  have HR1 : Hid ((grE x.data ≠ 0 ∧ p1 = none) ∨ (grE x.data = 0 ∧ ∃ g, p1 = some ⟨g, 0, none⟩ ∧ RMemAt (w1.setCell ⟨mb, 1, none⟩ (.pointer p1)) (fun k => mb + 1 ≤ k) g 2 ⟨x.data, 1048576, 0⟩)) := hide (by
    rcases hR1 with h | ⟨h1, g, h2, h3⟩
    · exact .inl h
    · exact .inr ⟨h1, g, h2, (h3.mono (fun k e => by rw [hz0] at e; exact e)).keep (fun k e _ => heap_setCell_other _ _ _ _ (by show k ≠ mb; have e2 : mb + 1 ≤ k := e; omega))⟩)
  have HS1 := hide (And.intro s1 t1)
  have hzs : (w1.setCell ⟨mb, 1, none⟩ (.pointer p1)).heap.size = w1.heap.size := by simp [World.setCell]
  clear hB1 hR1 r1 l1 s1 t1 HQ HB0
  go_wp2_with fail
  generalize w1.setCell ⟨mb, 1, none⟩ (.pointer p1) = W1 at *
  refine (newGrowing_any _ x.data _ (HY.out _ HB1.out)).mono ?_
  rintro _ w2 ⟨p2, rfl, hB2, hR2⟩
  have r2 := (hB2.block mb (by omega)).trans HS1.out.1
  have l2 := (hB2.block w.heap.size (by omega)).trans HS1.out.2
  have mc2 := cell_of_row w2 mb 3 _ _ _ r2
  have mf2 := frozen_of_row w2 mb 3 _ _ r2
  have s2 := Go.heap_setCell_same w2 mb 3 _ _ (.pointer p2) r2
  have mc3 := cell_of_row _ mb 3 _ _ _ s2
  have mc0 := cell_of_row _ mb 0 _ _ _ s2
  have mf0 := frozen_of_row _ mb 0 _ _ s2
  have s3 := Go.heap_setCell_same _ mb 0 _ _ (.iface 62 (.pointer p2)) s2
  simp at mc2 mc3 mc0
  have HS3 := hide s3
  have HR2 := hide hR2
  have HB2 := hide hB2
  clear hB2 hR2 r2 l2 s2 s3 mc mf pc1 pc2
  by_cases hE : grE x.data = 0
  · obtain ⟨g, rfl, hM1⟩ : ∃ g, p1 = some ⟨g, 0, none⟩ ∧ RMemAt W1 (fun k => mb + 1 ≤ k) g 2 ⟨x.data, 1048576, 0⟩ := by
      rcases HR1.out with ⟨h, _⟩ | ⟨_, h⟩
      · exact absurd hE h
      · exact h
    obtain ⟨y, rfl, hM2⟩ : ∃ y, p2 = some ⟨y, 0, none⟩ ∧ MemAt w2 (fun k => W1.heap.size ≤ k) y ⟨x.data, 1048576, 0⟩ := by
      rcases HR2.out with ⟨h, _⟩ | ⟨_, h⟩
      · exact absurd hE h
      · exact h
    rw [hE]
    have hB2z := HB2.out.size
    have HPP := hide (Both.turned (Both.make (Q := fun j => mb + 1 ≤ j) (rmem_o _ _ _) (mem_o _ _) hM1 (fun j e _ => e) (fun j e _ => by omega) HB2.out hM2).swap (mem_o _ _) (rmem_o _ _ _) ((((Turned.refl (fun k => k = mb) w2).set (j := 3) (u := .pointer (some ⟨y, 0, none⟩)) (.inl rfl)).set (j := 0) (u := .iface 62 (.pointer (some ⟨y, 0, none⟩))) (.inl rfl))) (fun j e e' => by have e2 : j = mb := e'; have e3 : mb + 1 ≤ j := e; omega))
    have HMd : Hid (MdAt mb 62 (.pointer (some ⟨y, 0, none⟩)) g none (some ⟨y, 0, none⟩) none ((w2.setCell ⟨mb, 3, none⟩ (.pointer (some ⟨y, 0, none⟩))).setCell ⟨mb, 0, none⟩ (.iface 62 (.pointer (some ⟨y, 0, none⟩))))) := HS3
    have HL := hide ((heap_setCell_other (w2.setCell ⟨mb, 3, none⟩ (.pointer (some ⟨y, 0, none⟩))) ⟨mb, 0, none⟩ w.heap.size (.iface 62 (.pointer (some ⟨y, 0, none⟩))) (by show w.heap.size ≠ mb; omega)).trans ((heap_setCell_other w2 ⟨mb, 3, none⟩ w.heap.size (.pointer (some ⟨y, 0, none⟩)) (by show w.heap.size ≠ mb; omega)).trans ((HB2.out.block w.heap.size (by omega)).trans HS1.out.2)))
    have HB3 := hide (((HB1.out.trans (HB2.out.mono HB1.out.size)).setCell (p := ⟨mb, 3, none⟩) (by show w.heap.size ≤ mb; omega) (.pointer (some ⟨y, 0, none⟩))).setCell (p := ⟨mb, 0, none⟩) (by show w.heap.size ≤ mb; omega) (.iface 62 (.pointer (some ⟨y, 0, none⟩))))
    clear hM1 hM2 HR1 HR2 HS3 HS1
    go_wp2_with fail
    generalize (w2.setCell ⟨mb, 3, none⟩ (.pointer (some ⟨y, 0, none⟩))).setCell ⟨mb, 0, none⟩ (.iface 62 (.pointer (some ⟨y, 0, none⟩))) = W3 at *
    have K := pk_growing y g mb
    have hm3 := K.mseek
    have hc3 := K.cseek
    have m0 : W3.cell? ⟨mb, 0, none⟩ = some (.iface 62 (.pointer (some ⟨y, 0, none⟩))) := cell_of_row W3 mb 0 _ _ _ HMd.out
    have m1 : W3.cell? ⟨mb, 1, none⟩ = some (.pointer (some ⟨g, 0, none⟩)) := cell_of_row W3 mb 1 _ _ _ HMd.out
    have p7 : W3.cell? ⟨w.heap.size, 7, none⟩ = some (.int .i64 x.place) := cell_of_row W3 w.heap.size 7 _ _ _ HL.out
    have hml : mb < W3.heap.size := World.block_lt_of_cell? W3 _ m0
    have HC := hide (pk_num K.oA K.oB (A := fun S w O => MemAt w O y S) (B := fun S w O => RMemAt w O g 2 S) HPP.out (by omega) (s' := (msD.seek ⟨x.data, 1048576, 0⟩ x.place 0).2.2) (fun O wb hA _ _ => K.ps x.place 0 hA trivial hp) (fun O wb hA _ _ => K.qs x.place 0 hA trivial hp))
    have HS := hide (fun (W' : World) (hT : Turned (fun j => mb + 1 ≤ j) W3 W') => (show (W'.cell? ⟨mb, 0, none⟩ = some (.iface 62 (.pointer (some ⟨y, 0, none⟩))) ∧ W'.cell? ⟨mb, 1, none⟩ = some (.pointer (some ⟨g, 0, none⟩)) ∧ W'.cell? ⟨w.heap.size, 7, none⟩ = some (.int .i64 x.place)) ∧ W'.heap[mb]? = W3.heap[mb]? from
      ⟨⟨hT.cell m0 (by show ¬ mb + 1 ≤ mb; omega), hT.cell m1 (by show ¬ mb + 1 ≤ mb; omega), hT.cell p7 (by show ¬ mb + 1 ≤ w.heap.size; omega)⟩, hT.block mb hml (by show ¬ mb + 1 ≤ mb; omega)⟩))
    have HK := hide K
    clear K
    generalize msD.seek ⟨x.data, 1048576, 0⟩ x.place 0 = X at *
    obtain ⟨N, E, s2⟩ := X
    simp only at *
    go_region_held3 (fun w' => w'.cell? ⟨mb, 0, none⟩ = some (.iface 62 (.pointer (some ⟨y, 0, none⟩))) ∧ w'.cell? ⟨w.heap.size, 7, none⟩ = some (.int .i64 x.place))
      (first | exact K4 | exact ⟨m0, p7⟩ | go_keep)
      (first
        | (refine (HC.out _ (Below.refl _ _).drew).mono ?_; rintro _ w4 ⟨rfl, -, hT4, hC4⟩; have K4 : w4.cell? ⟨mb, 0, none⟩ = some (.iface 62 (.pointer (some ⟨y, 0, none⟩))) ∧ w4.cell? ⟨w.heap.size, 7, none⟩ = some (.int .i64 x.place) := ⟨(HS.out w4 hT4).1.1, (HS.out w4 hT4).1.2.2⟩; have HT4 := hide hT4; have HC4 := hide hC4; clear hT4 hC4)
        | fail)
    have n1 := (HS.out w4 HT4.out).1.2.1
    have n2 := K4.2
    clear K4 HC
    go_wp2_with fail
    go_region_held3 (fun w' => w'.cell? ⟨mb, 1, none⟩ = some (.pointer (some ⟨g, 0, none⟩)) ∧ w'.cell? ⟨w.heap.size, 7, none⟩ = some (.int .i64 x.place))
      (first | exact K6 | exact ⟨n1, n2⟩ | go_keep)
      (first
        | (go_at_call 27; refine (HC4.out _ (Below.refl _ _).drew).mono ?_; rintro _ w6 ⟨rfl, HN6, -, hT6⟩; have K6 : w6.cell? ⟨mb, 1, none⟩ = some (.pointer (some ⟨g, 0, none⟩)) ∧ w6.cell? ⟨w.heap.size, 7, none⟩ = some (.int .i64 x.place) := ⟨(HS.out w6 hT6).1.2.1, (HS.out w6 hT6).1.2.2⟩; have HT6 := hide hT6; clear hT6)
        | fail)
    clear K6 n1 n2 HC4
    go_wp2
    go_ret2
    refine ⟨HB3.out.trans (HT6.out.below (fun j e => by have e2 : mb + 1 ≤ j := e; omega) HB3.out.size), .inr ⟨mb, by omega, rfl, MS, msD, 62, _, g, _, _, _, _, _, _, _, s2, HK.out, HN6.out, ?_, fun W W' h e => e.trans h, fun W h => ⟨cell_of_row W mb 0 _ _ _ h, cell_of_row W mb 1 _ _ _ h⟩, fun _ => trivial⟩⟩
    exact (HS.out w6 HT6.out).2.trans HMd.out
  · have hE2 : (grE x.data != 0) = true := by simpa using hE
    have hE3 : (grE x.data == 0) = false := by simpa using hE
    go_wp2_with fail
    go_ret2
    exact ⟨((HB1.out.trans (HB2.out.mono HB1.out.size)).setCell (p := ⟨mb, 3, none⟩) (by show w.heap.size ≤ mb; omega) _).setCell (p := ⟨mb, 0, none⟩) (by show w.heap.size ≤ mb; omega) _, .inl ⟨_, rfl⟩⟩
end Go.Proofs.YtanbiinomagdbaaGreat
