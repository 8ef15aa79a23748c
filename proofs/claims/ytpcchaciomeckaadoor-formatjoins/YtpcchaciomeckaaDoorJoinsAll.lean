/- FormatJoins: for every two patterns with their Args, both formatted without an error and not too long together, the one pattern behind the other with the Args behind the others is formatted as the one text behind the other. -/
import Derived.Test.YtpcchaciomeckaaDoorKF4
import Derived.Test.YtpcchaciomeckaaDoorTie
import Derived.Test.YtpcchaciomeckaaDoorCards
import Derived.LaidMore
import Derived.Lay
import Derived.SevenTiedAt
import Derived.Stop.Joined
import Derived.ProofKit
import Derived.OpenShut
import Derived.ShutString
import Derived.ChangeOld
import Derived.Below
import Derived.SizedLaws
/- FormatJoins: Args that are copied, Args behind Args; the walk. -/
namespace Go.Proofs.YtpcchaciomeckaaDoor
open Go.RowKit

def FormS (v : Value) : Prop := v = .slice none 0 0 ∨ ∃ q n c, v = .slice (some q) n c
theorem rows_form {α : Type} {W : World} {k : Nat} {Rd : List Value → α → Prop} {v : Value} {l : List α} (h : RowsR W k Rd v l) : FormS v := by
  rcases h with ⟨rfl, _⟩ | ⟨q, cap, rfl, _⟩
  · exact .inl rfl
  · exact .inr ⟨_, _, _, rfl⟩
theorem Tryd.infoA : (Tryd.prog.info? 37).map (fun i => (i.zero, i.size, i.bytes)) = some (some (.agg #[.int .i64 0, .int .i64 0, .int .u64 0, .string ByteArray.empty]), 4, 40) := by kernel_rfl
theorem flat_len : ∀ l : List Ag, (l.flatMap agC).length = l.length * 4
  | [] => rfl
  | x :: l => by
    rw [List.flatMap_cons, List.length_append, flat_len l, List.length_cons]
    show 4 + _ = _
    omega
theorem flat_one : ∀ (l : List Ag), ∀ u ∈ l.flatMap agC, u.oneCell' = true := by
  intro l u hu
  obtain ⟨x, _, hx⟩ := List.mem_flatMap.1 hu
  unfold agC at hx
  simp only [List.mem_cons, List.not_mem_nil, or_false] at hx
  rcases hx with rfl | rfl | rfl | rfl <;> rfl
theorem run_append_args (w : World) (ty : TypeId) (base : Nat) (s x : Value) (m l : List Ag) (hs : w.ownsRow base 37 4 s m.length (m.flatMap agC)) (hx : AgsV w x l) (hf : FormS x) (hn : (m.length + l.length) * 40 ≤ 140737488355328) (hb : base ≤ w.heap.size) :
    ∃ s' w', (Builtin.append_ #[22, 22] ty #[s, x]).run Tryd.prog w = .ok s' w' ∧ w'.ownsRow base 37 4 s' (m ++ l).length ((m ++ l).flatMap agC) ∧ w.grownBy w' s.ownBlock := by
  obtain ⟨i0, hi, hz0, hz1, hz2⟩ := info_parts Tryd.infoA
  rw [List.length_append, List.flatMap_append]
  obtain ⟨a, c, rfl, hc, hd, _⟩ := hx
  rcases hf with he | ⟨q, n, c', he⟩
  · obtain ⟨rfl, h0, rfl⟩ : a = none ∧ l.length = 0 ∧ c = 0 := Value.slice.inj he
    obtain rfl : l = [] := List.length_eq_zero_iff.1 h0
    exact ⟨s, w, run_append_owned_none (P := Tryd.prog) w base _ ty _ i0 4 Tryd.underlying22 hi s _ _ hs, by simpa using hs, ⟨rfl, rfl, rfl, Nat.le_refl _, fun _ _ _ => rfl⟩⟩
  · obtain ⟨rfl, rfl, rfl⟩ : a = some q ∧ l.length = n ∧ c = c' := Value.slice.inj he
    have hcell : ∀ j u, (l.flatMap agC)[j]? = some u → w.cell? (q.add j) = some u := by
      intro j u hj
      have hjl := (List.getElem?_eq_some_iff.1 hj).1
      rw [flat_len] at hjl
      obtain ⟨b, off, hq, hcells⟩ := hd (by omega)
      cases hq
      have hadd : ∀ o k, (⟨b, o, none⟩ : Addr).add k = ⟨b, o + k, none⟩ := fun o k => by unfold Addr.add; split <;> simp_all
      rw [hadd]
      obtain ⟨j', i, rfl, hi4⟩ : ∃ j' i, j = j' * 4 + i ∧ i < 4 := ⟨j / 4, j % 4, by omega, by omega⟩
      have hj' : j' < l.length := by omega
      rw [flat_get l j' hj' i hi4] at hj
      have hh := hcells j' hj'
      rw [← Nat.add_assoc]
      match i, hi4, hj with
      | 0, _, hj => cases hj; exact hh.c0
      | 1, _, hj => cases hj; exact hh.c1
      | 2, _, hj => cases hj; exact hh.c2
      | 3, _, hj => cases hj; exact hh.c3
    obtain ⟨v', w', h1, h2, h3, _⟩ := run_append_own (P := Tryd.prog) w base 22 ty 37 i0 (.agg #[.int .i64 0, .int .i64 0, .int .u64 0, .string ByteArray.empty]) 4 40 Tryd.underlying22 hi hz0 hz1 hz2 rfl (by decide) s _ _ hs q l.length c (l.flatMap agC) (flat_len l) hcell (flat_one l) (by unfold maxLen; omega) hn hb
    exact ⟨v', w', h1, h2, h3⟩
theorem AgsV.of_owns {W : World} {base : Nat} {v : Value} {l : List Ag} (h : W.ownsRow base 37 4 v l.length (l.flatMap agC)) (hb : ∀ x ∈ l, AB x) : AgsV W v l ∧ FormS v := by
  rcases h.2 with ⟨rfl, h0⟩ | ⟨g, cap, cur, rfl, hbg, hg, hnc, _⟩
  · obtain rfl : l = [] := by
      cases l with
      | nil => rfl
      | cons x l => exact absurd h0 (by simp)
    exact ⟨⟨none, 0, rfl, Nat.le_refl _, fun h => absurd h (Nat.lt_irrefl _), hb⟩, .inl rfl⟩
  · refine ⟨⟨some ⟨g, 0, none⟩, cap, rfl, hnc, fun _ => ⟨g, 0, rfl, fun j hj => ?_⟩, hb⟩, .inr ⟨_, _, _, rfl⟩⟩
    have hadd : ∀ o k, (⟨g, o, none⟩ : Addr).add k = ⟨g, o + k, none⟩ := fun o k => by unfold Addr.add; split <;> simp_all
    have key : ∀ i, i < 4 → ∀ u, (agC l[j])[i]? = some u → W.cell? ⟨g, 0 + j * 4 + i, none⟩ = some u := by
      intro i hi u hu
      rw [← flat_get l j hj i hi] at hu
      have := h.cells (g := g) rfl _ _ hu
      rw [hadd] at this
      rw [Nat.add_assoc]
      exact this
    exact ⟨key 0 (by decide) _ rfl, key 1 (by decide) _ rfl, key 2 (by decide) _ rfl, key 3 (by decide) _ rfl⟩
set_option maxHeartbeats 1000000 in
theorem copyArgs_any (va : Value) (l : List Ag) (w : World) (h : AgsV w va l) (hf : FormS va) (hn : l.length * 40 ≤ 140737488355328) :
    Calls Tryd.prog 9 #[va] w fun e w' => ∃ v, e = .returned v ∧ w'.ownsRow w.heap.size 37 4 v l.length (l.flatMap agC) ∧ Below w.heap.size w w' := by
  obtain ⟨v', w', hr, hO, hG⟩ := run_append_args w 22 w.heap.size (.slice none 0 0) va [] l (World.ownsRow_nil _ _ _ _) h hf (by simpa using hn) (Nat.le_refl _)
  have HO := hide hO
  have HB := hide ((Below.refl _ w).grown hG (Nat.le_refl _) (fun k e => by cases e))
  obtain ⟨va1, vc1, rfl, -⟩ := h
  clear hO hG hf
  go_enter Tryd.func9, Tryd.ntmps9
  go_wp2_with (at_builtin; refine Lib.wpList_append_run _ rfl _ _ _ _ rfl _ _ rfl rfl _ _ hr ?_)
  go_ret
  exact ⟨_, rfl, by simpa using HO.out, HB.out⟩
theorem fmtF_args : ∀ (n : Nat) (l : List UInt8) (aa : List Ag) (p : Nat) (out A : List UInt8) (q : Nat), fmtF n l aa p out = (A, 0, q) → aa.length ≤ l.length
  | 0, l, aa, p, out, A, q, h => by
    unfold fmtF at h
    split at h
    · rename_i e; subst e; exact Nat.zero_le _
    · cases h
  | n + 1, [], aa, p, out, A, q, h => by
    unfold fmtF at h
    split at h
    · rename_i e; subst e; exact Nat.zero_le _
    · cases h
  | n + 1, c :: r, aa, p, out, A, q, h => by
    rw [fmtF_step] at h
    obtain ⟨⟨⟨t, k, u⟩, e⟩, hx⟩ : ∃ x, firstV (c :: r) aa = x := ⟨_, rfl⟩
    rw [hx] at h
    simp only at h
    split at h
    · rename_i h0
      exact absurd (congrArg (fun x : List UInt8 × Int × Nat => x.2.1) h) h0
    · rename_i h0
      obtain rfl : e = 0 := Decidable.of_not_not h0
      split at h
      · cases h
      · have h1 := fmtF_args n _ _ _ _ _ _ h
        obtain ⟨k1, k2, k3⟩ := firstV_ok hx
        rw [List.length_drop, List.length_drop] at h1
        rcases firstV_u hx with rfl | ⟨rfl, _⟩ <;> omega
theorem fmtV_args {l : List UInt8} {aa : List Ag} {A : List UInt8} {p : Nat} (h : fmtV l aa = (A, 0, p)) : aa.length ≤ l.length := by
  unfold fmtV at h
  split at h
  · cases h
  · exact fmtF_args _ _ _ _ _ _ _ h
set_option maxRecDepth 100000 in
set_option maxHeartbeats 4000000 in
theorem formatJoins_any (f g : ByteArray) (va vb : Value) (aa bb : List Ag) (w : World) (hf : f.size ≤ maxLen) (hg : g.size ≤ maxLen) (hA : AgsV w va aa) (hB : AgsV w vb bb) (fa : FormS va) (fb : FormS vb) (hz : aa.length * 40 ≤ 140737488355328) :
    Calls Tryd.prog 7 #[.string f, va, .string g, vb] w fun e w' => e = .returned (.bool true) ∧ Below w.heap.size w w' := by
  have hsf : f.data.toList.length = f.size := by rw [Array.length_toList]; rfl
  have hsg : g.data.toList.length = g.size := by rw [Array.length_toList]; rfl
  have hab : ∀ x ∈ aa ++ bb, AB x := by
    obtain ⟨_, _, _, _, _, h1⟩ := hA
    obtain ⟨_, _, _, _, _, h2⟩ := hB
    intro x hx
    rcases List.mem_append.1 hx with h | h
    · exact h1 x h
    · exact h2 x h
  have hFa := fun W (hW : Below w.heap.size w W) => format_any f va aa W hf (hA.below hW)
  have hFb := fun W (hW : Below w.heap.size w W) => format_any g vb bb W hg (hB.below hW)
  have hCo := fun W (hW : Below w.heap.size w W) => copyArgs_any va aa W (hA.below hW) fa hz
  have hSa := @fmtV_short f.data.toList aa
  have hSb := @fmtV_short g.data.toList bb
  have hGa := @fmtV_args f.data.toList aa
  have hGb := @fmtV_args g.data.toList bb
  have hJ := @fmtV_joins f.data.toList g.data.toList aa bb
  have hla := fmtV_len f.data.toList aa
  have hlb := fmtV_len g.data.toList bb
  generalize hXa : fmtV f.data.toList aa = Xa at *
  generalize hXb : fmtV g.data.toList bb = Xb at *
  obtain ⟨A, e1, p1⟩ := Xa
  obtain ⟨B, e2, p2⟩ := Xb
  simp only at hFa hFb hla hlb
  have hSa' : e1 = 0 → f.size ≤ 65536 := fun e => by rw [← hsf]; exact hSa (by rw [e])
  have hSb' : e2 = 0 → g.size ≤ 65536 := fun e => by rw [← hsg]; exact hSb (by rw [e])
  have hGa' : e1 = 0 → aa.length ≤ f.size := fun e => by rw [← hsf]; exact hGa (by rw [e])
  have hGb' : e2 = 0 → bb.length ≤ g.size := fun e => by rw [← hsg]; exact hGb (by rw [e])
  clear hSa hSb hGa hGb
  have HFa := hide hFa
  have HFb := hide hFb
  have HCo := hide hCo
  have HBb := hide (fun W (hW : Below w.heap.size w W) => hB.below hW)
  have HA := hide hA
  obtain ⟨va1, vc1, rfl, -⟩ := hA
  obtain ⟨vb1, vd1, rfl, -⟩ := hB
  have HLA := hide hla
  have HLB := hide hlb
  clear hFa hFb hCo hXa hXb hla hlb
  by_cases h1 : e1 = 0
  case neg =>
    have h1' : (e1 != 0) = true := by simpa using h1
    clear hJ h1 hSa' hSb' hGa' hGb' hsf hsg hab hf hg hz
    go_enter Tryd.func7, Tryd.ntmps7
    go_wp2_with fail
    refine (alive17 _).mono ?_
    rintro _ w1 ⟨rfl, hB1⟩
    have HB1 := hide hB1
    go_wp2_with fail
    refine (HFa.out _ HB1.out).mono ?_
    rintro _ w2 ⟨v1, rfl, -, hB2⟩
    have HB2 := hide (HB1.out.trans (hB2.mono HB1.out.size))
    go_wp2_with fail
    refine (HFb.out _ HB2.out).mono ?_
    rintro _ w3 ⟨v2, rfl, -, hB3⟩
    have HB3 := hide (HB2.out.trans (hB3.mono HB2.out.size))
    clear hB1 hB2 hB3
    go_wp2_with (first | (go_at_call 13; refine (num17 _ _).mono ?_; rintro _ _ ⟨rfl, rfl⟩) | fail)
    go_ret
    exact ⟨rfl, HB3.out⟩
  subst h1
  by_cases h2 : e2 = 0
  case neg =>
    have h2' : (e2 != 0) = true := by simpa using h2
    clear hJ h2 hSa' hSb' hGa' hGb' hsf hsg hab hf hg hz
    go_enter Tryd.func7, Tryd.ntmps7
    go_wp2_with fail
    refine (alive17 _).mono ?_
    rintro _ w1 ⟨rfl, hB1⟩
    have HB1 := hide hB1
    go_wp2_with fail
    refine (HFa.out _ HB1.out).mono ?_
    rintro _ w2 ⟨v1, rfl, -, hB2⟩
    have HB2 := hide (HB1.out.trans (hB2.mono HB1.out.size))
    go_wp2_with fail
    refine (HFb.out _ HB2.out).mono ?_
    rintro _ w3 ⟨v2, rfl, -, hB3⟩
    have HB3 := hide (HB2.out.trans (hB3.mono HB2.out.size))
    clear hB1 hB2 hB3
    go_wp2_with (first | (go_at_call 13; refine (num17 _ _).mono ?_; rintro _ _ ⟨rfl, rfl⟩) | fail)
    go_ret
    exact ⟨rfl, HB3.out⟩
  subst h2
  have hJ' := hJ rfl rfl
  have hf6 := hSa' rfl
  have hg6 := hSb' rfl
  have HZ := hide (show (aa.length + bb.length) * 40 ≤ 140737488355328 by have := hGa' rfl; have := hGb' rfl; omega)
  clear hJ hSa' hSb' hGa' hGb'
  go_enter Tryd.func7, Tryd.ntmps7
  go_wp2_with fail
  refine (alive17 _).mono ?_
  rintro _ w1 ⟨rfl, hB1⟩
  have HB1 := hide hB1
  go_wp2_with fail
  refine (HFa.out _ HB1.out).mono ?_
  rintro _ w2 ⟨v1, rfl, hO1, hB2⟩
  have HO1 := hide hO1
  have HB2 := hide (HB1.out.trans (hB2.mono HB1.out.size))
  go_wp2_with fail
  refine (HFb.out _ HB2.out).mono ?_
  rintro _ w3 ⟨v2, rfl, hO2, hB3⟩
  have HO2 := hide hO2
  have HO1' := hide (owns_below HO1.out hB3)
  have HB3 := hide (HB2.out.trans (hB3.mono HB2.out.size))
  clear hB1 hB2 hB3 hO1 hO2 HO1 HB1 HB2
  obtain ⟨a1, c1, rfl⟩ := owns_slice HO1'.out
  obtain ⟨a2, c2, rfl⟩ := owns_slice HO2.out
  have hla := HLA.out
  have hlb := HLB.out
  by_cases h3 : A.length + B.length ≤ 65536
  case neg =>
    have h3' : (65536 : Int) < (A.length : Int) + (B.length : Int) := by omega
    clear hJ' h3
    go_wp2_with (first | (go_at_call 13; refine (num17 _ _).mono ?_; rintro _ _ ⟨rfl, rfl⟩) | fail)
    go_ret
    exact ⟨rfl, HB3.out⟩
  have h3' : ¬ (65536 : Int) < (A.length : Int) + (B.length : Int) := by omega
  by_cases h4 : f.size + g.size ≤ 65536
  case neg =>
    have h4' : (65536 : Int) < (f.size : Int) + (g.size : Int) := by omega
    clear hJ' h3 h4
    go_wp2_with (first | (go_at_call 13; refine (num17 _ _).mono ?_; rintro _ _ ⟨rfl, rfl⟩) | fail)
    go_ret
    exact ⟨rfl, HB3.out⟩
  have h4' : ¬ (65536 : Int) < (f.size : Int) + (g.size : Int) := by omega
  have h4n : ¬ 9223372036854775807 < f.size + g.size := by omega
  have hj := hJ' h3 (by omega)
  have hfg : (f ++ g).data.toList = f.data.toList ++ g.data.toList := by simp
  rw [hsf, hsg, ← hfg] at hj
  have HJ := hide (fun va W hA => format_is (f ++ g) va (aa ++ bb) (A ++ B) 0 (f.size + g.size) (by rw [ByteArray.size_append]; unfold maxLen; omega) hj W hA)
  have HAB := hide hab
  clear hJ' hj hfg hsf hsg hz hab
  go_wp2_with (first | (go_at_call 13; refine (num17 _ _).mono ?_; rintro _ _ ⟨rfl, rfl⟩) | fail)
  refine (HCo.out _ HB3.out).mono ?_
  rintro _ w4 ⟨v3, rfl, hO4, hB4⟩
  have HB4 := hide (HB3.out.trans (hB4.mono HB3.out.size))
  obtain ⟨v5, w5, hr, hO5, hG5⟩ := run_append_args w4 22 w3.heap.size v3 (.slice vb1 bb.length vd1) aa bb hO4 (HBb.out _ HB4.out) fb HZ.out hB4.size
  have hB5 : Below w3.heap.size w3 w5 := hB4.grown hG5 hB4.size (fun k e => (owns_base hO4 k e).1)
  have HA5 := hide (AgsV.of_owns hO5 HAB.out).1
  have HO1 := hide (owns_below HO1'.out hB5)
  have HO2' := hide (owns_below HO2.out hB5)
  have HB5 := hide (HB3.out.trans (hB5.mono HB3.out.size))
  clear hO4 hB4 HB4 hO5 hG5 hB5 HO1' HO2
  go_wp2_with (at_builtin; refine Lib.wpList_append_run _ rfl _ _ _ _ rfl _ _ rfl rfl _ _ hr ?_)
  refine (HJ.out _ _ HA5.out).mono ?_
  rintro _ w6 ⟨v6, rfl, hO6, hB6⟩
  have hs1 := owns_string (owns_below HO1.out hB6)
  have hs2 := owns_string (owns_below HO2'.out hB6)
  have hs3 := owns_string hO6
  have HB6 := hide (HB5.out.trans (hB6.mono HB5.out.size))
  have g5 : ¬ 9223372036854775807 < A.length + B.length := by omega
  clear hO6 hB6 HB5 hr
  go_wp2_with (first | (go_at_call 13; refine (num17 _ _).mono ?_; rintro _ _ ⟨rfl, rfl⟩) | fail)
  go_ret
  exact ⟨by rw [bytes_append]; simp [ByteArray.toList_eq], HB6.out⟩
theorem formatJoins_fr (f g : ByteArray) (c c' : Option Addr) (cap cap' : Nat) (l l' : List Ag) (W : World) (hf : f.size ≤ 140737488351232) (hg : g.size ≤ 140737488351232) (h : RowsR W 4 ACells (.slice c l.length cap) l) (h' : RowsR W 4 ACells (.slice c' l'.length cap') l') (hz : l.length * 40 ≤ 140737488355328) :
    Calls Tryd.prog 7 #[.string f, .slice c l.length cap, .string g, .slice c' l'.length cap'] W fun e w' => e = .returned (.bool true) ∧ Below W.heap.size W w' :=
  formatJoins_any f g _ _ l l' W (by unfold maxLen; omega) (by unfold maxLen; omega) (AgsV.of_rows h) (AgsV.of_rows h') (rows_form h) (rows_form h') hz
end Go.Proofs.YtpcchaciomeckaaDoor

/- FormatJoins: for every two patterns with their Args, both formatted without an error and not too long together, the one pattern behind the other with the Args behind the others is formatted as the one text behind the other. -/
namespace Go.Proofs.YtpcchaciomeckaaDoor.formatJoins
open Go.ChangeShapes Go.WideShapes Go.ChangeAt Go.RowKit
open Go.ChangeMaps (open_string shut_string)
set_option linter.unusedVariables false

theorem own : ownKnob Tryd.prog.godebug = none := by kernel_rfl
theorem laidOut : laidOutB Tryd.prog = true := by kernel_rfl

set_option maxRecDepth 100000 in
theorem lifted (os : Os) (started : os.Started) (H : Type) (enc : TypeId × Value → H) :
    ReturnsInHanded {} Tryd.checked os 7 .any (fun w args => (Rows.formatJoinsSpec.pre enc Tryd.prog Tryd.f7 Rows.formatJoinsRow.domain false w args ∧ laidMetH Tryd.prog Rows.formatJoinsRow.laid w) ∧ sizedMet enc Tryd.prog Tryd.f7 (OpenSpec.ofChange Rows.formatJoinsSpec) false w args) (Rows.formatJoinsSpec.post enc Tryd.prog Tryd.f7 false true false false) := by
  refine returnsInHanded_of_change_and (C := Tryd.checked) (X := fun w _ => laidMetH Tryd.prog Rows.formatJoinsRow.laid w) (fun _ _ _ hh h => h.of_heap hh) own started (by kernel_rfl) Tryd.func7
    (ChangeSpec.witness_shaped (enc := enc) (C := Tryd.checked) (os := os) (X := fun w _ => laidMetH Tryd.prog Rows.formatJoinsRow.laid w) false (World.laidAll Tryd.prog os Rows.formatJoinsRow.laid) #[.string ByteArray.empty, .slice none 0 0, .string ByteArray.empty, .slice none 0 0] 8 (World.laidAll_os _ _ _)
      (World.shaped_of_ZipB (by kernel_rfl) (by kernel_rfl)) (by kernel_rfl) (by kernel_rfl) (by kernel_rfl)
      (by rw [MakeChecks.laidMetH_plain _ _ _ (by kernel_rfl)]; exact laidMet_laidAll _ (by kernel_rfl) (by kernel_rfl))) ?_
  intro W base args ds gs before hval0 hW hcnd0 hsz0 _ _
  have hsz : (DataW.weightsEach Tryd.prog (Tryd.f7.params.toList ++ Rows.formatJoinsSpec.plain.varTypes Tryd.prog) (ds ++ gs)).all (· ≤ reachBytes) = true := hsz0
  clear hsz0
  have hval : ∀ (j : Nat) t v, Tryd.f7.params[j]? = some t → args[j]? = some v → Value.okWide Tryd.prog W .any base t v := hval0
  have hW' := hW
  obtain ⟨p, q, hA0, hV, rfl, hfz, hnd⟩ := hW
  have hA : DataW.TrodAll enc Tryd.prog W 0 (fun _ => true) true Tryd.f7.params.toList args.toList ds p := hA0
  rw [Tryd.params7] at hA hval hsz
  obtain ⟨v0, vs0, d0, ds0, p0, q0, hargs, rfl, rfl, h0, r0⟩ := trodAll_cons hA
  obtain ⟨v1, vs1, d1, ds1, p1, q1, rfl, rfl, rfl, h1, r1⟩ := trodAll_cons r0
  obtain ⟨v2, vs2, d2, ds2, p2, q2, rfl, rfl, rfl, h2, r2⟩ := trodAll_cons r1
  obtain ⟨v3, vs3, d3, ds3, p3, q3, rfl, rfl, rfl, h3, r3⟩ := trodAll_cons r2
  obtain ⟨rfl, rfl, rfl⟩ := trodAll_nil r3
  obtain rfl : args = #[v0, v1, v2, v3] := by cases args; simp_all
  obtain ⟨rfl, rfl⟩ := trodVars_none hV
  obtain ⟨a0, rfl, rfl, rfl, w0⟩ := open_string Tryd.underlying9 (hval 0 9 v0 rfl rfl) h0
  have z0 : a0.size ≤ 140737488351232 := by have := sized_string hsz (j := 0) (t := 9) rfl rfl; simpa [reachBytes] using this
  obtain ⟨c1, len1, cap1, rfl⟩ := okWide_slice Tryd.underlying22 (hval 1 22 v1 rfl rfl)
  have k1 := h1
  have lt1 : ∀ x ∈ p1, x.block < W.heap.size := by obtain ⟨m, hm⟩ := k1; exact DataW.trod_lt m _ _ _ hm
  obtain ⟨fuel1, hf1⟩ := h1
  obtain ⟨l1, y1, e1⟩ : ∃ l, RowsR W 4 ACells (.slice c1 len1 cap1) l ∧ DatL (fun _ _ => True) d1 l := rows_arg 4 _ (fun _ _ => True) Tryd.underlying22 (by kernel_rfl) (by decide) (fun fuel cs d p h _ => arg_cells Tryd.underlying37 (by kernel_rfl) rfl rfl rfl rfl (by kernel_rfl) (by kernel_rfl) (by kernel_rfl) (by kernel_rfl) Tryd.underlying3 Tryd.underlying3 Tryd.underlying35 Tryd.underlying9 h) hf1
  obtain rfl : len1 = l1.length := by obtain ⟨_, _, e, _⟩ := RowsR.form y1; cases e; rfl
  obtain ⟨z1, zz1⟩ := mrows_small (msmall_arg hsz (j := 1) (t := 22) rfl rfl) Tryd.underlying22 (n := 40) (by kernel_rfl) e1
  obtain ⟨a2, rfl, rfl, rfl, w2⟩ := open_string Tryd.underlying9 (hval 2 9 v2 rfl rfl) h2
  have z2 : a2.size ≤ 140737488351232 := by have := sized_string hsz (j := 2) (t := 9) rfl rfl; simpa [reachBytes] using this
  obtain ⟨c3, len3, cap3, rfl⟩ := okWide_slice Tryd.underlying22 (hval 3 22 v3 rfl rfl)
  have k3 := h3
  have lt3 : ∀ x ∈ p3, x.block < W.heap.size := by obtain ⟨m, hm⟩ := k3; exact DataW.trod_lt m _ _ _ hm
  obtain ⟨fuel3, hf3⟩ := h3
  obtain ⟨l3, y3, e3⟩ : ∃ l, RowsR W 4 ACells (.slice c3 len3 cap3) l ∧ DatL (fun _ _ => True) d3 l := rows_arg 4 _ (fun _ _ => True) Tryd.underlying22 (by kernel_rfl) (by decide) (fun fuel cs d p h _ => arg_cells Tryd.underlying37 (by kernel_rfl) rfl rfl rfl rfl (by kernel_rfl) (by kernel_rfl) (by kernel_rfl) (by kernel_rfl) Tryd.underlying3 Tryd.underlying3 Tryd.underlying35 Tryd.underlying9 h) hf3
  obtain rfl : len3 = l3.length := by obtain ⟨_, _, e, _⟩ := RowsR.form y3; cases e; rfl
  obtain ⟨z3, zz3⟩ := mrows_small (msmall_arg hsz (j := 3) (t := 22) rfl rfl) Tryd.underlying22 (n := 40) (by kernel_rfl) e3
  clear hA0
  refine (formatJoins_fr a0 a2 c1 c3 cap1 cap3 l1 l3 W z0 z2 y1 y3 (by omega)).mono fun e W' ⟨he, bel⟩ => ?_
  subst he
  exact ⟨_, rfl, _, _, _, [], _, [], hW', trodAll_mk1 (shut_bool Tryd.underlying4 _), (trodAll_cons_mk (shut_string Tryd.underlying9 w0) (trodAll_cons_mk (Below.trod laidOut (by kernel_rfl) (of_decide_eq_true (by kernel_rfl)) k1 bel lt1) (trodAll_cons_mk (shut_string Tryd.underlying9 w2) (trodAll_cons_mk (Below.trod laidOut (by kernel_rfl) (of_decide_eq_true (by kernel_rfl)) k3 bel lt3) trodAll_mk0)))), rfl, bel.frame _, fun h => by cases h⟩

theorem over : Rows.FormatJoinsSaid :=
  OpenClaim.holds_of_wide 7 Tryd.f7 rfl rfl rfl rfl rfl rfl rfl ⟨rfl, rfl, rfl, rfl, rfl⟩ rfl rfl rfl rfl rfl (by kernel_rfl) Tryd.func7 (by kernel_rfl)
    (of_decide_eq_true (by kernel_rfl)) (by unfold Func.isWrapper; first | (rw [if_pos (by decide +kernel)]; kernel_rfl) | (rw [if_neg (by decide +kernel)]; exact ⟨rfl, rfl⟩))
    (fun os started H enc _ => lifted os started H enc)
set_option maxRecDepth 100000 in
theorem card : Rows.FormatJoinsCardSaid :=
  Claim7.holds_tied_plain_at .later [] [.data, .pinned, .pinned] true Rows.formatJoinsCard.stood.harness false over (fun _ h => by cases h) (by kernel_rfl) (fun _ h => by cases h) formatJoins_row_tie rfl ⟨rfl, rfl⟩ (by kernel_rfl) rfl
    (fun f fn hf hfn => by
      obtain rfl : f = 7 := Option.some.inj ((show Tryd.prog.funcNamed "millrace/millracelaw17.FormatJoins" = some 7 by kernel_rfl).symm.trans hf) |>.symm
      obtain rfl : fn = Tryd.f7 := (Option.some.inj (Tryd.func7.symm.trans hfn)).symm
      exact ⟨by kernel_rfl, fun j t ht => by
        rw [Tryd.params7] at ht
        have hm : t ∈ [9, 22, 9, 22] := by simpa using Array.mem_of_getElem? ht
        have hall : ([9, 22, 9, 22].all fun u => !Tryd.prog.wantsStandIn u) = true := by kernel_rfl
        exact (show Tryd.prog.wantsStandIn t = false by simpa using List.all_eq_true.1 hall t hm)⟩)
    (by kernel_rfl)
end Go.Proofs.YtpcchaciomeckaaDoor.formatJoins
namespace Go.Proofs.YtpcchaciomeckaaDoor
theorem formatJoins_holds : Rows.FormatJoinsCardSaid := formatJoins.card
#print axioms formatJoins_holds
end Go.Proofs.YtpcchaciomeckaaDoor
