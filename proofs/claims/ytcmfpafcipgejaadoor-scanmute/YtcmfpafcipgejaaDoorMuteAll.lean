/- ScanMute: for every list of directives, of which some are marked as not told, and all bytes: the same bytes are used up and the same error is told with the marks as without them, and the Args told are the others. -/
import Derived.Test.YtcmfpafcipgejaaDoorKM6
import Derived.Deep.Grids
import Derived.Test.YtcmfpafcipgejaaDoorTie
import Derived.Test.YtcmfpafcipgejaaDoorCards
import Derived.LaidMore
import Derived.Lay
import Derived.SevenTiedAt
import Derived.Stop.Joined
import Derived.ProofKit
import Derived.OpenShut
import Derived.ShutString
import Derived.ChangeOld
import Derived.Below
import Derived.SizedLaws
/- ScanMute: patterns with and without stars, as values. -/
namespace Go.Proofs.YtcmfpafcipgejaaDoor
open Go.RowKit
def dux : List UInt8 := [100, 117, 120, 111, 99, 115]
def itF (l : List (UInt8 × Bool)) : List UInt8 := l.flatMap fun x => [37, x.1]
def itG (l : List (UInt8 × Bool)) : List UInt8 := l.flatMap fun x => if x.2 then [37, 42, x.1] else [37, x.1]
def pickA : List Ag → List (UInt8 × Bool) → List Ag
  | a :: x, h :: l => if h.2 then pickA x l else a :: pickA x l
  | _, _ => []
theorem pick_len : ∀ (x : List Ag) (l : List (UInt8 × Bool)), (pickA x l).length ≤ x.length
  | [], l => by cases l <;> exact Nat.le_refl _
  | a :: x, [] => Nat.zero_le _
  | a :: x, (v, false) :: l => by
    have := pick_len x l
    show (a :: pickA x l).length ≤ _
    simp only [List.length_cons]
    omega
  | a :: x, (v, true) :: l => by
    have := pick_len x l
    show (pickA x l).length ≤ _
    simp only [List.length_cons]
    omega
theorem dux_sv {v : UInt8} (h : v ∈ dux) : sv v.toNat = true ∧ v.toNat ≠ 42 ∧ v.toNat ≠ 37 ∧ v.toNat ≠ 32 ∧ ¬ (48 ≤ v.toNat ∧ v.toNat ≤ 57) := by
  unfold dux at h
  simp only [List.mem_cons, List.not_mem_nil, or_false] at h
  rcases h with rfl | rfl | rfl | rfl | rfl | rfl <;> decide
theorem numS_no {v : UInt8} (h : v ∈ dux) (r : List UInt8) : numS (v :: r) = some (0, 0) := by
  unfold numS
  rw [run10_at, if_neg (dux_sv h).2.2.2.2, if_pos rfl]
theorem first_F {v : UInt8} (h : v ∈ dux) (r : List UInt8) : firstS (37 :: v :: r) = some ⟨v, v, false, 0, 2⟩ := by
  have hq : qS (37 :: v :: r) = false := by
    show (v.toNat == 42) = false
    simp [(dux_sv h).2.1]
  have hp : pdirS (37 :: v :: r) = some ⟨v, v, false, 0, 2⟩ := by
    unfold pdirS
    rw [hq]
    simp only [Bool.false_eq_true, ↓reduceIte]
    rw [show (37 :: v :: r).drop 1 = v :: r from rfl, numS_no h]
    simp only
    have : verbS (37 :: v :: r) (1 + 0) = some v := by
      show (if sv v.toNat = true ∨ _ then some v else none) = some v
      rw [if_pos (.inl (dux_sv h).1)]
    rw [this]
    rfl
  exact hp
theorem first_G {v : UInt8} (h : v ∈ dux) (r : List UInt8) : firstS (37 :: 42 :: v :: r) = some ⟨v, v, true, 0, 3⟩ := by
  have hq : qS (37 :: 42 :: v :: r) = true := rfl
  have hp : pdirS (37 :: 42 :: v :: r) = some ⟨v, v, true, 0, 3⟩ := by
    unfold pdirS
    rw [hq]
    simp only [↓reduceIte]
    rw [show (37 :: 42 :: v :: r).drop 2 = v :: r from rfl, numS_no h]
    simp only
    have : verbS (37 :: 42 :: v :: r) (2 + 0) = some v := by
      show (if sv v.toNat = true ∨ _ then some v else none) = some v
      rw [if_pos (.inl (dux_sv h).1)]
    rw [this]
    rfl
  exact hp
theorem tells_F {v : UInt8} (h : v ∈ dux) (q : Bool) (n m : Nat) : (⟨v, v, q, n, m⟩ : Pt).tells = !q := by
  obtain ⟨-, -, h1, h2, -⟩ := dux_sv h
  show (v.toNat != 32 && v.toNat != 37 && !q) = !q
  rw [show (v.toNat != 32) = true by simp [h2], show (v.toNat != 37) = true by simp [h1]]
  rfl
theorem part_quiet {S : Type} (D : SrcD S) (N : Nat) (v : UInt8) (s : S) : partV D N ⟨v, v, true, 0, 3⟩ s = partV D N ⟨v, v, false, 0, 2⟩ s := rfl
theorem mute_read {S : Type} (D : SrcD S) (N : Nat) : ∀ (l : List (UInt8 × Bool)), (∀ x ∈ l, x.1 ∈ dux) → ∀ (s : S) (aa ab : List Ag) (R : (List Ag × Int) × S), readR D N (itF l) s aa = some R → ∃ x, x.length ≤ l.length ∧ R.1.1 = aa ++ x ∧ readR D N (itG l) s ab = some ((ab ++ pickA x l, R.1.2), R.2)
  | [], _, s, aa, ab, R, h => by
    have h : some ((aa, (0 : Int)), s) = some R := h
    cases h
    exact ⟨[], Nat.le_refl _, by simp, by simp [pickA]; rfl⟩
  | (v, q) :: l, hl, s, aa, ab, R, h => by
    have hv : v ∈ dux := hl (v, q) (List.mem_cons_self ..)
    have hr : ∀ x ∈ l, x.1 ∈ dux := fun x hx => hl x (List.mem_cons_of_mem _ hx)
    have hF : itF ((v, q) :: l) = 37 :: v :: itF l := rfl
    rw [hF] at h
    obtain ⟨a, e, s2, hp, hc⟩ := readR_step D N (first_F hv (itF l)) s aa h
    rw [tells_F hv] at hc
    have hg : readR D N (itG ((v, q) :: l)) s ab = if e ≠ 0 then some ((ab, e), s2) else readR D N (itG l) s2 (if q then ab else ab ++ [a]) := by
      cases q
      · have hG : itG ((v, false) :: l) = 37 :: v :: itG l := rfl
        rw [hG, readR_go D N (first_F hv (itG l)) s ab hp, tells_F hv]
        rfl
      · have hG : itG ((v, true) :: l) = 37 :: 42 :: v :: itG l := rfl
        rw [hG, readR_go D N (first_G hv (itG l)) s ab (by rw [part_quiet]; exact hp), tells_F hv]
        rfl
    rw [hg]
    rcases hc with ⟨he, rfl⟩ | ⟨he, hc⟩
    · rw [if_pos he]
      exact ⟨[], Nat.zero_le _, by simp, by simp [pickA]⟩
    · rw [if_neg (by simp [he])]
      obtain ⟨x, h1, h2, h3⟩ := mute_read D N l hr s2 (aa ++ [a]) (if q then ab else ab ++ [a]) R hc
      refine ⟨a :: x, by simp only [List.length_cons]; omega, by rw [h2]; simp, ?_⟩
      rw [h3]
      cases q <;> simp [pickA]
theorem itF_len : ∀ l : List (UInt8 × Bool), (itF l).length = 2 * l.length
  | [] => rfl
  | x :: l => by
    have : (itF (x :: l)).length = (itF l).length + 2 := by show (37 :: x.1 :: itF l).length = _; simp
    rw [this, itF_len l]
    simp only [List.length_cons]
    omega
theorem itG_len : ∀ l : List (UInt8 × Bool), (itG l).length ≤ 3 * l.length
  | [] => Nat.le_refl _
  | (v, q) :: l => by
    have := itG_len l
    cases q
    · show (37 :: v :: itG l).length ≤ _
      simp only [List.length_cons]; omega
    · show (37 :: 42 :: v :: itG l).length ≤ _
      simp only [List.length_cons]; omega
theorem itF_chk : ∀ (l : List (UInt8 × Bool)), (∀ x ∈ l, x.1 ∈ dux) → ∀ p n, (chkR (itF l) p n).1 = 0
  | [], _, _, _ => rfl
  | (v, q) :: l, hl, p, n => by
    rw [show itF ((v, q) :: l) = 37 :: v :: itF l from rfl, chkR_step (first_F (hl (v, q) (List.mem_cons_self ..)) (itF l))]
    exact itF_chk l (fun x hx => hl x (List.mem_cons_of_mem _ hx)) _ _
theorem itG_chk : ∀ (l : List (UInt8 × Bool)), (∀ x ∈ l, x.1 ∈ dux) → ∀ p n, (chkR (itG l) p n).1 = 0
  | [], _, _, _ => rfl
  | (v, false) :: l, hl, p, n => by
    rw [show itG ((v, false) :: l) = 37 :: v :: itG l from rfl, chkR_step (first_F (hl (v, false) (List.mem_cons_self ..)) (itG l))]
    exact itG_chk l (fun x hx => hl x (List.mem_cons_of_mem _ hx)) _ _
  | (v, true) :: l, hl, p, n => by
    rw [show itG ((v, true) :: l) = 37 :: 42 :: v :: itG l from rfl, chkR_step (first_G (hl (v, true) (List.mem_cons_self ..)) (itG l))]
    exact itG_chk l (fun x hx => hl x (List.mem_cons_of_mem _ hx)) _ _
theorem chkV_of {l : List UInt8} (h1 : l.length ≤ 65536) (h : (chkR l 0 0).1 = 0) : (chkV l).1 = 0 := by
  unfold chkV
  rw [if_neg (by omega)]
  exact h
theorem mute_scan (l : List (UInt8 × Bool)) (b : List UInt8) (hl : ∀ x ∈ l, x.1 ∈ dux) (h20 : l.length ≤ 20) : ∃ x n e, x.length ≤ l.length ∧ scanV (itF l) b = ((x, n), e) ∧ scanV (itG l) b = ((pickA x l, n), e) := by
  have c1 : (chkV (itF l)).1 = 0 := chkV_of (by rw [itF_len]; omega) (itF_chk l hl 0 0)
  have c2 : (chkV (itG l)).1 = 0 := chkV_of (by have := itG_len l; omega) (itG_chk l hl 0 0)
  obtain ⟨R, hR⟩ := scan_tot (itF l) b c1
  obtain ⟨x, h1, h2, h3⟩ := mute_read (txtD b) (b.length + 1) l hl 0 [] [] R hR
  rw [List.nil_append] at h2 h3
  refine ⟨x, R.2, R.1.2, h1, ?_, ?_⟩
  · rw [scan_read c1 hR, h2]
  · rw [scan_read c2 h3]
end Go.Proofs.YtcmfpafcipgejaaDoor

/- ScanMute: the walk. -/
namespace Go.Proofs.YtcmfpafcipgejaaDoor
open Go.RowKit
def Bls (W : World) (a : Option Addr) (l : List Bool) : Prop := 0 < l.length → ∃ b off, a = some ⟨b, off, none⟩ ∧ ∀ j, j < l.length → W.cell? ⟨b, off + j, none⟩ = some (.bool (l.getD j false))
theorem Bls.below {W W' : World} {a : Option Addr} {l : List Bool} (h : Bls W a l) (hB : Below W.heap.size W W') : Bls W' a l := fun h0 => by
  obtain ⟨b, off, rfl, hc⟩ := h h0
  exact ⟨b, off, rfl, fun j hj => (hB.cell (p := ⟨b, off + j, none⟩) (World.block_lt_of_cell? W _ (hc j hj))).trans (hc j hj)⟩
def muI (vs : List UInt8) (ms : List Bool) (i : Nat) : UInt8 × Bool := (dux.getD ((vs.getD i 0).toNat % 6) 0, decide (i < ms.length) && ms.getD i false)
def muL (vs : List UInt8) (ms : List Bool) (k : Nat) : List (UInt8 × Bool) := (List.range k).map (muI vs ms)
theorem muL_succ (vs : List UInt8) (ms : List Bool) (k : Nat) : muL vs ms (k + 1) = muL vs ms k ++ [muI vs ms k] := by
  unfold muL
  rw [List.range_succ, List.map_append]
  rfl
theorem muL_len (vs : List UInt8) (ms : List Bool) (k : Nat) : (muL vs ms k).length = k := by
  unfold muL
  rw [List.length_map, List.length_range]
theorem dux_mem (m : Nat) (h : m < 6) : dux.getD m 0 ∈ dux := by
  match m, h with
  | 0, _ => decide
  | 1, _ => decide
  | 2, _ => decide
  | 3, _ => decide
  | 4, _ => decide
  | 5, _ => decide
theorem muL_dux (vs : List UInt8) (ms : List Bool) (k : Nat) : ∀ x ∈ muL vs ms k, x.1 ∈ dux := by
  intro x hx
  unfold muL at hx
  obtain ⟨i, _, rfl⟩ := List.mem_map.1 hx
  exact dux_mem _ (Nat.mod_lt _ (by decide))
theorem dux_cut (m : Nat) (h : m < 6) : ((⟨#[100, 117, 120, 111, 99, 115]⟩ : ByteArray).extract m (m + 1)).data.toList = [dux.getD m 0] := by
  match m, h with
  | 0, _ => rfl
  | 1, _ => rfl
  | 2, _ => rfl
  | 3, _ => rfl
  | 4, _ => rfl
  | 5, _ => rfl
theorem str_app (a b : ByteArray) : (a ++ b).data.toList = a.data.toList ++ b.data.toList := by rw [ByteArray.data_append, Array.toList_append]
theorem Tryd.infoBo : (Tryd.prog.info? 4).map (fun i => (i.zero, i.size, i.bytes)) = some (some (.bool false), 1, 1) := by kernel_rfl
def hdB (x : UInt8 × Bool) : Value := .bool (!x.2)
theorem run_append_bool (w : World) (ty : TypeId) (base : Nat) (s : Value) (m : List (UInt8 × Bool)) (x : UInt8 × Bool) (hs : w.ownsRow base 4 1 s m.length (m.map hdB)) (hn : m.length + 1 ≤ 140737488351232) (hb : base ≤ w.heap.size) :
    ∃ s' w', (Builtin.append_ #[23, 23] ty #[s, .slice (some ⟨w.heap.size, 0, none⟩) 1 1]).run Tryd.prog (w.alloc (Obj.cells #[.bool (!x.2)] 4)) = .ok s' w' ∧ w'.ownsRow base 4 1 s' (m ++ [x]).length ((m ++ [x]).map hdB) ∧ (w.alloc (Obj.cells #[.bool (!x.2)] 4)).grownBy w' s.ownBlock := by
  obtain ⟨i0, hi, hz0, hz1, hz2⟩ := info_parts Tryd.infoBo
  rw [List.length_append, List.map_append]
  have hs' := owns_below hs (fm_below w (Obj.cells #[.bool (!x.2)] 4))
  have hcell : ∀ j u, ([x].map hdB)[j]? = some u → (w.alloc (Obj.cells #[.bool (!x.2)] 4)).cell? ((⟨w.heap.size, 0, none⟩ : Addr).add j) = some u := by
    intro j u hj
    have hjl : j < 1 := (List.getElem?_eq_some_iff.1 hj).1
    obtain rfl : j = 0 := by omega
    cases hj
    exact cell_of_row _ w.heap.size 0 _ _ _ (heap_alloc_new w _)
  have hbz : base ≤ (w.alloc (Obj.cells #[.bool (!x.2)] 4)).heap.size := Nat.le_trans hb (fm_below w _).size
  obtain ⟨v', w', h1, h2, h3, _⟩ := run_append_own (P := Tryd.prog) (w.alloc (Obj.cells #[.bool (!x.2)] 4)) base 23 ty 4 i0 (.bool false) 1 1 Tryd.underlying23 hi hz0 hz1 hz2 rfl (by decide) s _ _ hs' ⟨w.heap.size, 0, none⟩ 1 1 ([x].map hdB) rfl hcell (fun u hu => by obtain ⟨y, _, rfl⟩ := List.mem_map.1 hu; rfl) (by unfold maxLen; omega) (by omega) hbz
  exact ⟨v', w', h1, h2, h3⟩
theorem row_ah {W : World} {base : Nat} {v : Value} {l : List Ag} (h : W.ownsRow base 31 4 v l.length (l.flatMap agC)) (j : Nat) (hj : j < l.length) : ∃ g c, v = .slice (some ⟨g, 0, none⟩) l.length c ∧ AH W g (j * 4) l[j] := by
  rcases h.2 with ⟨rfl, h0⟩ | ⟨g, cap, cur, rfl, hbg, hg, hnc, _⟩
  · omega
  · refine ⟨g, cap, rfl, ?_⟩
    have hadd : ∀ o k, (⟨g, o, none⟩ : Addr).add k = ⟨g, o + k, none⟩ := fun o k => by unfold Addr.add; split <;> simp_all
    have key : ∀ i, i < 4 → ∀ u, (agC l[j])[i]? = some u → W.cell? ⟨g, j * 4 + i, none⟩ = some u := by
      intro i hi u hu
      rw [← flat_get l j hj i hi] at hu
      have := h.cells (g := g) rfl _ _ hu
      rw [hadd, Nat.zero_add] at this
      exact this
    exact ⟨key 0 (by decide) _ rfl, key 1 (by decide) _ rfl, key 2 (by decide) _ rfl, key 3 (by decide) _ rfl⟩
theorem row_bool {W : World} {base : Nat} {v : Value} {l : List (UInt8 × Bool)} {n : Nat} (hn : n = l.length) (h : W.ownsRow base 4 1 v n (l.map hdB)) (j : Nat) (hj : j < l.length) : ∃ g c, v = .slice (some ⟨g, 0, none⟩) n c ∧ W.cell? ⟨g, j, none⟩ = some (.bool (!(l[j]).2)) := by
  rcases h.2 with ⟨rfl, h0⟩ | ⟨g, cap, cur, rfl, hbg, hg, hnc, _⟩
  · omega
  · refine ⟨g, cap, rfl, ?_⟩
    have hadd : ∀ o k, (⟨g, o, none⟩ : Addr).add k = ⟨g, o + k, none⟩ := fun o k => by unfold Addr.add; split <;> simp_all
    have := h.cells (g := g) rfl j (.bool (!(l[j]).2)) (by rw [List.getElem?_map, List.getElem?_eq_getElem hj]; rfl)
    rw [hadd, Nat.zero_add] at this
    exact this
set_option linter.unusedSimpArgs false in
set_option maxRecDepth 100000 in
set_option maxHeartbeats 8000000 in
theorem mute_any (va ma ba : Option Addr) (vc mc bc : Nat) (vs : List UInt8) (ms : List Bool) (bs : List UInt8) (w : World) (hv : Bys w (.slice va vs.length vc) vs) (hm : Bls w ma ms) (hb : Bys w (.slice ba bs.length bc) bs) (zv : vs.length ≤ 140737488351232) (zm : ms.length ≤ 140737488351232) (zb : bs.length ≤ 140737488351232) :
    Calls Tryd.prog 3 #[.slice va vs.length vc, .slice ma ms.length mc, .slice ba bs.length bc] w fun e w' => e = .returned (.bool true) ∧ Below w.heap.size w w' := by
  have HA := hide (alive18 w)
  have HV := hide hv
  have HM := hide hm
  have HBs := hide hb
  clear hv hm hb
  go_enter Tryd.func3, Tryd.ntmps3
  go_wp2_with fail
  refine HA.out.mono ?_
  rintro _ w1 ⟨rfl, hB1⟩
  have HB1 := hide hB1
  have HV1 := hide (HV.out.below hB1)
  have HM1 := hide (HM.out.below hB1)
  have HBs1 := hide (HBs.out.below hB1)
  clear hB1 HA HV HM HBs
  go_wp2_with fail
  go_loopw [7, 8, 9, 10] (fun f g u i wr => ∃ (k : Nat) (F G : ByteArray), k ≤ vs.length ∧ k ≤ 20 ∧ f = .string F ∧ g = .string G ∧ i = .int .i64 k ∧ Hid (F.data.toList = itF (muL vs ms k) ∧ G.data.toList = itG (muL vs ms k)) ∧ Hid (wr.ownsRow w1.heap.size 4 1 u k ((muL vs ms k).map hdB)) ∧ Hid (Below w1.heap.size w1 wr)) (fun _ _ _ i _ => vs.length - (intOf i).toNat)
  case atStart => exact ⟨0, ⟨#[]⟩, ⟨#[]⟩, Nat.zero_le _, Nat.zero_le _, rfl, rfl, rfl, hide ⟨rfl, rfl⟩, hide (World.ownsRow_nil _ _ _ _), hide (Below.refl _ _)⟩
  case round =>
    obtain ⟨k, F, G, hk, hk20, rfl, rfl, rfl, HFG, HU, HB⟩ := hrel
    obtain ⟨ua, uc, rfl⟩ := owns_slice HU.out
    have hFs : F.size ≤ 60 := by
      have h1 : F.data.toList.length = F.size := by rw [Array.length_toList]; rfl
      rw [HFG.out.1, itF_len, muL_len] at h1
      omega
    have hGs : G.size ≤ 60 := by
      have h1 : G.data.toList.length = G.size := by rw [Array.length_toList]; rfl
      rw [HFG.out.2] at h1
      have := itG_len (muL vs ms k)
      rw [muL_len] at this
      omega
    by_cases hlt : k < vs.length ∧ k < 20
    · obtain ⟨hlt, hlt2⟩ := hlt
      have e1 : (k : Int) < (vs.length : Int) := by omega
      have e2 : (k : Int) < 20 := by omega
      have hvr := HV1.out.below HB.out
      obtain ⟨-, qb, qo, rfl, hqb, hc⟩ := bys_block hvr (by omega)
      have hck := hc k hlt
      have hm6 : (vs.getD k 0).toNat % 6 < 6 := Nat.mod_lt _ (by decide)
      obtain ⟨m, hmm⟩ : ∃ m, (vs.getD k 0).toNat % 6 = m := ⟨_, rfl⟩
      have hmi : Hid (muI vs ms k = (dux.getD m 0, decide (k < ms.length) && ms.getD k false)) := hide (by unfold muI; rw [hmm])
      rw [hmm] at hm6
      have h1 : ((vs.getD k 0).toNat : Int).tmod 6 = (m : Int) := by rw [Int.tmod_eq_emod_of_nonneg (by omega)]; omega
      have h2 : IntKind.u8.wrap ((m : Int) + 1) = ((m + 1 : Nat) : Int) := by rw [IntKind.wrap_u8]; omega
      generalize vs.getD k 0 = c at *
      clear hc hvr hmm
      have hX := dux_cut m hm6
      obtain ⟨X, hXX⟩ : ∃ X : ByteArray, (⟨#[100, 117, 120, 111, 99, 115]⟩ : ByteArray).extract m (m + 1) = X := ⟨_, rfl⟩
      rw [hXX] at hX
      have HX := hide hX
      have hXs : X.size = 1 := by
        have := congrArg List.length hX
        rw [Array.length_toList] at this
        exact this
      have hml : m ≤ 6 := by omega
      have hml2 : m + 1 ≤ 6 := by omega
      have hmr := HM1.out.below HB.out
      clear hX
      have hqc : (¬ (k : Int) < (ms.length : Int) ∧ Hid (muI vs ms k = (dux.getD m 0, false))) ∨ (k < ms.length ∧ ∃ mb mo, ma = some ⟨mb, mo, none⟩ ∧ wr.cell? ⟨mb, mo + k, none⟩ = some (.bool (ms.getD k false)) ∧ Hid (muI vs ms k = (dux.getD m 0, ms.getD k false))) := by
        by_cases h : k < ms.length
        · obtain ⟨mb, mo, h3, h4⟩ := hmr (by omega)
          exact .inr ⟨h, mb, mo, h3, h4 k h, hide (by rw [hmi.out, decide_eq_true h]; rfl)⟩
        · exact .inl ⟨by omega, hide (by rw [hmi.out, decide_eq_false h]; rfl)⟩
      clear hmr hmi
      rcases hqc with ⟨hk1, hmi⟩ | ⟨hk1, mb, mo, rfl, hk2, hmi⟩
      · go_wp2
        go_quiet (fail)
        obtain ⟨u', w', hrun, hown, hg⟩ := run_append_bool (wr.drewN nq) 23 w1.heap.size (.slice ua k uc) (muL vs ms k) (dux.getD m 0, false) (by rw [muL_len]; exact owns_below HU.out (drewN_belowT _ _)) (by rw [muL_len]; omega) (Nat.le_trans HB.out.size (drewN_belowT wr nq).size)
        simp only [Bool.not_false, Bool.not_true] at hrun hg
        have hBn := (drewN_belowT wr nq).trans ((fm_below (wr.drewN nq) (Obj.cells #[.bool true] 4)).mono (drewN_belowT wr nq).size)
        have HB2 := hide ((HB.out.trans (hBn.mono HB.out.size)).grown hg (Nat.le_trans HB.out.size hBn.size) (fun j e => (HU.out.lt j e).1))
        have HAp := hide hrun
        have HO2 : Hid (w'.ownsRow w1.heap.size 4 1 u' (k + 1) ((muL vs ms (k + 1)).map hdB)) := hide (by rw [muL_succ, hmi.out]; rw [List.length_append, muL_len] at hown; exact hown)
        obtain ⟨ua', uc', rfl⟩ := owns_slice HO2.out
        have HFG2 : Hid ((F ++ ⟨#[37]⟩ ++ X).data.toList = itF (muL vs ms (k + 1)) ∧ (G ++ ⟨#[37]⟩ ++ X).data.toList = itG (muL vs ms (k + 1))) := hide (by
          rw [muL_succ, hmi.out]
          constructor
          · rw [str_app, str_app, HFG.out.1, HX.out]
            unfold itF
            rw [List.flatMap_append, List.append_assoc]
            rfl
          · rw [str_app, str_app, HFG.out.2, HX.out]
            unfold itG
            rw [List.flatMap_append, List.append_assoc]
            rfl)
        clear hrun hown hg hBn HU HFG HB HX hmi
        go_wp2_with (at_builtin; refine Lib.wpList_append_run _ rfl _ _ _ _ rfl _ _ rfl rfl _ _ HAp.out ?_)
        go_roundw
        case rel => exact ⟨k + 1, _, _, by omega, by omega, rfl, rfl, by go_num, HFG2, HO2, HB2⟩
        case measure => simp [intOf]; omega
      · have hk1' : (k : Int) < (ms.length : Int) := by omega
        generalize ms.getD k false = b at *
        cases b
        · go_wp2
          go_quiet (fail)
          obtain ⟨u', w', hrun, hown, hg⟩ := run_append_bool (wr.drewN nq) 23 w1.heap.size (.slice ua k uc) (muL vs ms k) (dux.getD m 0, false) (by rw [muL_len]; exact owns_below HU.out (drewN_belowT _ _)) (by rw [muL_len]; omega) (Nat.le_trans HB.out.size (drewN_belowT wr nq).size)
          simp only [Bool.not_false, Bool.not_true] at hrun hg
          have hBn := (drewN_belowT wr nq).trans ((fm_below (wr.drewN nq) (Obj.cells #[.bool true] 4)).mono (drewN_belowT wr nq).size)
          have HB2 := hide ((HB.out.trans (hBn.mono HB.out.size)).grown hg (Nat.le_trans HB.out.size hBn.size) (fun j e => (HU.out.lt j e).1))
          have HAp := hide hrun
          have HO2 : Hid (w'.ownsRow w1.heap.size 4 1 u' (k + 1) ((muL vs ms (k + 1)).map hdB)) := hide (by rw [muL_succ, hmi.out]; rw [List.length_append, muL_len] at hown; exact hown)
          obtain ⟨ua', uc', rfl⟩ := owns_slice HO2.out
          have HFG2 : Hid ((F ++ ⟨#[37]⟩ ++ X).data.toList = itF (muL vs ms (k + 1)) ∧ (G ++ ⟨#[37]⟩ ++ X).data.toList = itG (muL vs ms (k + 1))) := hide (by
            rw [muL_succ, hmi.out]
            constructor
            · rw [str_app, str_app, HFG.out.1, HX.out]
              unfold itF
              rw [List.flatMap_append, List.append_assoc]
              rfl
            · rw [str_app, str_app, HFG.out.2, HX.out]
              unfold itG
              rw [List.flatMap_append, List.append_assoc]
              rfl)
          clear hrun hown hg hBn HU HFG HB HX hmi
          go_wp2_with (at_builtin; refine Lib.wpList_append_run _ rfl _ _ _ _ rfl _ _ rfl rfl _ _ HAp.out ?_)
          go_roundw
          case rel => exact ⟨k + 1, _, _, by omega, by omega, rfl, rfl, by go_num, HFG2, HO2, HB2⟩
          case measure => simp [intOf]; omega
        · go_wp2
          go_quiet (fail)
          obtain ⟨u', w', hrun, hown, hg⟩ := run_append_bool (wr.drewN nq) 23 w1.heap.size (.slice ua k uc) (muL vs ms k) (dux.getD m 0, true) (by rw [muL_len]; exact owns_below HU.out (drewN_belowT _ _)) (by rw [muL_len]; omega) (Nat.le_trans HB.out.size (drewN_belowT wr nq).size)
          simp only [Bool.not_false, Bool.not_true] at hrun hg
          have hBn := (drewN_belowT wr nq).trans ((fm_below (wr.drewN nq) (Obj.cells #[.bool false] 4)).mono (drewN_belowT wr nq).size)
          have HB2 := hide ((HB.out.trans (hBn.mono HB.out.size)).grown hg (Nat.le_trans HB.out.size hBn.size) (fun j e => (HU.out.lt j e).1))
          have HAp := hide hrun
          have HO2 : Hid (w'.ownsRow w1.heap.size 4 1 u' (k + 1) ((muL vs ms (k + 1)).map hdB)) := hide (by rw [muL_succ, hmi.out]; rw [List.length_append, muL_len] at hown; exact hown)
          obtain ⟨ua', uc', rfl⟩ := owns_slice HO2.out
          have HFG2 : Hid ((F ++ ⟨#[37]⟩ ++ X).data.toList = itF (muL vs ms (k + 1)) ∧ (G ++ ⟨#[37, 42]⟩ ++ X).data.toList = itG (muL vs ms (k + 1))) := hide (by
            rw [muL_succ, hmi.out]
            constructor
            · rw [str_app, str_app, HFG.out.1, HX.out]
              unfold itF
              rw [List.flatMap_append, List.append_assoc]
              rfl
            · rw [str_app, str_app, HFG.out.2, HX.out]
              unfold itG
              rw [List.flatMap_append, List.append_assoc]
              rfl)
          clear hrun hown hg hBn HU HFG HB HX hmi
          go_wp2_with (at_builtin; refine Lib.wpList_append_run _ rfl _ _ _ _ rfl _ _ rfl rfl _ _ HAp.out ?_)
          go_roundw
          case rel => exact ⟨k + 1, _, _, by omega, by omega, rfl, rfl, by go_num, HFG2, HO2, HB2⟩
          case measure => simp [intOf]; omega
    · have hend : (¬ (k : Int) < (vs.length : Int)) ∨ ((k : Int) < (vs.length : Int) ∧ ¬ (k : Int) < 20) := by omega
      obtain ⟨x, n, e, hxl, hs1, hs2⟩ := mute_scan (muL vs ms k) bs (muL_dux vs ms k) (by rw [muL_len]; exact hk20)
      have hSF := fun W hb => scan_is F ba bc bs (aa := x) (n := n) (e := e) W (by unfold maxLen; omega) hb (by unfold maxLen; omega) (by rw [HFG.out.1]; exact hs1)
      have hSG := fun W hb => scan_is G ba bc bs (aa := pickA x (muL vs ms k)) (n := n) (e := e) W (by unfold maxLen; omega) hb (by unfold maxLen; omega) (by rw [HFG.out.2]; exact hs2)
      have HSF := hide hSF
      have HSG := hide hSG
      clear hSF hSG hs1 hs2
      rcases hend with hend | ⟨hend1, hend⟩
      all_goals
        go_wp2_with fail
        refine (HSF.out wr (HBs1.out.below HB.out)).mono ?_
        rintro _ w2 ⟨u2, rfl, hU2, hB2⟩
        obtain ⟨a2, c2, rfl⟩ := owns_slice hU2
        have HU2 := hide hU2
        have HBw2 := hide (HB.out.trans (hB2.mono HB.out.size))
        have HH2 := hide (owns_below HU.out hB2)
        clear hU2 hB2
        go_wp2_with fail
        refine (HSG.out w2 (HBs1.out.below HBw2.out)).mono ?_
        rintro _ w3 ⟨u3, rfl, hU3, hB3⟩
        obtain ⟨a3, c3, rfl⟩ := owns_slice hU3
        have HU3 := hide hU3
        have HX3 := hide (owns_below HU2.out hB3)
        have HH3 := hide (owns_below HH2.out hB3)
        have HBw3 := hide (HB1.out.trans ((HBw2.out.trans (hB3.mono HBw2.out.size)).mono HB1.out.size))
        rw [muL_len] at hxl
        generalize hL : muL vs ms k = L at *
        have hLl : L.length = k := by rw [← hL, muL_len]
        clear hU3 hB3 HU2 HH2 HBw2 HB HSF HSG HU hL HFG HV1 HM1 HBs1 HB1
        obtain ⟨y, hy⟩ : ∃ y, y = pickA x L := ⟨_, rfl⟩
        rw [← hy] at HU3 ⊢
        have HY := hide hy
        have hyl : y.length ≤ 20 := by have := pick_len x L; rw [← hy] at this; omega
        clear hy
        go_wp2_with fail
        go_loopw [19, 20] (fun kk ii wl => ∃ (i j : Nat), i ≤ x.length ∧ j ≤ y.length ∧ ii = .int .i64 i ∧ kk = .int .i64 j ∧ Hid (pickA (x.drop i) (L.drop i) = y.drop j) ∧ Hid (Below w3.heap.size w3 wl)) (fun _ ii _ => x.length - (intOf ii).toNat)
        case atStart => exact ⟨0, 0, Nat.zero_le _, Nat.zero_le _, rfl, rfl, hide (by rw [List.drop_zero, List.drop_zero, List.drop_zero]; exact HY.out.symm), hide (Below.refl _ _)⟩
        case round =>
          obtain ⟨i, j, hi, hj, rfl, rfl, HP, HBl⟩ := hrel
          by_cases hix : i < x.length
          · have hix' : (i : Int) < (x.length : Int) := by omega
            have hik : (i : Int) < (k : Int) := by omega
            obtain ⟨gh, ch, eh, hbl⟩ := row_bool hLl.symm (owns_below HH3.out HBl.out) i (by omega)
            cases eh
            have hpp := HP.out
            rw [List.drop_eq_getElem_cons hix, List.drop_eq_getElem_cons (show i < L.length by omega)] at hpp
            obtain ⟨⟨v, q⟩, hLi⟩ : ∃ vq, L[i] = vq := ⟨_, rfl⟩
            rw [hLi] at hpp hbl
            simp only at hbl
            cases q
            · have hpp : x[i] :: pickA (x.drop (i + 1)) (L.drop (i + 1)) = y.drop j := hpp
              have hjl : j < y.length := by
                have := congrArg List.length hpp
                rw [List.length_drop] at this
                simp only [List.length_cons] at this
                omega
              have hjl' : ¬ (y.length : Int) ≤ (j : Int) := by omega
              rw [List.drop_eq_getElem_cons hjl] at hpp
              obtain ⟨hxy, hpp⟩ := List.cons.inj hpp
              obtain ⟨gx, cx, ex, hax⟩ := row_ah (owns_below HX3.out HBl.out) i hix
              obtain ⟨gy, cy, ey, hay⟩ := row_ah (owns_below HU3.out HBl.out) j hjl
              cases ex
              cases ey
              rw [← hxy] at hay
              obtain ⟨f0, f1, f2, f3⟩ := hax
              obtain ⟨g0, g1, g2, g3⟩ := hay
              have HP2 := hide hpp
              have hjl2 : (j : Int) < (y.length : Int) := by omega
              generalize x[i] = ax at *
              clear hpp HP hxy hLi HX3 HU3 HH3
              go_wp2
              go_quiet (fail)
              have HB4 := hide (HBl.out.trans ((drewN_belowT wr nq).mono HBl.out.size))
              go_wp2_with fail
              go_roundw
              case rel => exact ⟨i + 1, j + 1, hix, hjl, by go_num, by go_num, HP2, HB4⟩
              case measure => simp [intOf]; omega
            · have HP2 : Hid (pickA (x.drop (i + 1)) (L.drop (i + 1)) = y.drop j) := hide hpp
              clear hpp HP hLi
              go_wp2_with fail
              go_roundw
              case rel => exact ⟨i + 1, j, hix, hj, by go_num, rfl, HP2, HBl⟩
              case measure => simp [intOf]; omega
          · have hix' : ¬ (i : Int) < (x.length : Int) := by omega
            have hjj : j = y.length := by
              have := HP.out
              rw [List.drop_eq_nil_of_le (by omega : x.length ≤ i)] at this
              have h2 := congrArg List.length this
              rw [List.length_drop] at h2
              simp only [pickA, List.length_nil] at h2
              omega
            subst hjj
            go_wp2
            go_ret
            exact ⟨by simp, HBw3.out.trans (HBl.out.mono HBw3.out.size)⟩
end Go.Proofs.YtcmfpafcipgejaaDoor

/- ScanMute: what its arguments come in as. -/
namespace Go.Proofs.YtcmfpafcipgejaaDoor
open Go.ChangeShapes Go.WideShapes Go.ChangeAt Go.RowKit Go.Deep

theorem bools_arg {H : Type} {enc : TypeId × Value → H} {P : Program} {W : World} {base : Nat} {a : Option Addr} {len cap fuel t e : Nat} {d : DataW H} {p : List MemPlace}
    (ht : P.underlying t = some (.slice e)) (he : P.underlying e = some .bool) (hc : P.cellsOf e = 1)
    (hf : DataW.trod enc P W base (fun _ => true) true fuel t (Value.slice a len cap).cells.toList = some (d, p)) :
    ∃ l : List Bool, len = l.length ∧ Bls W a l ∧ ((d = .nil ∧ l = []) ∨ ∃ elems spare : List (DataW H), d = .slice elems spare ∧ l.length = elems.length) := by
  rcases open_bools ht he hc hf with ⟨hcs, hd⟩ | ⟨x, n, c, B, hcs, _, hl, hm, hx, hcell⟩
  · simp [Value.cells] at hcs
    obtain ⟨rfl, rfl, rfl⟩ := hcs
    exact ⟨[], rfl, fun h => absurd h (by decide), .inl ⟨(Prod.mk.inj hd).1, rfl⟩⟩
  · simp [Value.cells] at hcs
    obtain ⟨rfl, rfl, rfl⟩ := hcs
    refine ⟨(List.range len).map B, by simp, fun h0 => ?_, .inr ⟨_, _, (Prod.mk.inj hx).1, by simp⟩⟩
    simp only [List.length_map, List.length_range] at h0
    obtain ⟨b, off, spot⟩ := x
    have hspot : spot = none := by simpa [Addr.add] using World.cell?_spot (hcell 0 (by omega))
    subst hspot
    refine ⟨b, off, rfl, fun j hj => ?_⟩
    simp only [List.length_map, List.length_range] at hj
    have h1 := hcell j (by omega)
    have hadd : (⟨b, off, none⟩ : Addr).add j = ⟨b, off + j, none⟩ := by unfold Addr.add; split <;> simp_all
    rw [hadd] at h1
    rw [h1]
    simp [List.getD_eq_getElem?_getD, hj]
theorem scanMute_fr (va ma ba : Option Addr) (vn bn vc mc bc : Nat) (vs : List UInt8) (ms : List Bool) (bs : List UInt8) (w : World) (hv : Bys w (.slice va vn vc) vs) (hm : Bls w ma ms) (hb : Bys w (.slice ba bn bc) bs) (zv : vs.length * 1 ≤ 140737488351232) (zm : ms.length * 1 ≤ 140737488351232) (zb : bs.length * 1 ≤ 140737488351232) :
    Calls Tryd.prog 3 #[.slice va vn vc, .slice ma ms.length mc, .slice ba bn bc] w fun e w' => e = .returned (.bool true) ∧ Below w.heap.size w w' := by
  obtain rfl : vn = vs.length := by
    obtain ⟨_, _, e, -⟩ := bys_form hv
    cases e
    rfl
  obtain rfl : bn = bs.length := by
    obtain ⟨_, _, e, -⟩ := bys_form hb
    cases e
    rfl
  exact mute_any va ma ba vc mc bc vs ms bs w hv hm hb (by omega) (by omega) (by omega)
end Go.Proofs.YtcmfpafcipgejaaDoor

/- ScanMute: for every list of directives, of which some are marked as not told, and all bytes: the same bytes are used up and the same error is told with the marks as without them, and the Args told are the others. -/
namespace Go.Proofs.YtcmfpafcipgejaaDoor.scanMute
open Go.ChangeShapes Go.WideShapes Go.ChangeAt Go.RowKit
open Go.ChangeMaps (open_string shut_string)
set_option linter.unusedVariables false

theorem own : ownKnob Tryd.prog.godebug = none := by kernel_rfl
theorem laidOut : laidOutB Tryd.prog = true := by kernel_rfl

set_option maxRecDepth 100000 in
theorem lifted (os : Os) (started : os.Started) (H : Type) (enc : TypeId × Value → H) :
    ReturnsInHanded {} Tryd.checked os 3 .any (fun w args => (Rows.scanMuteSpec.pre enc Tryd.prog Tryd.f3 Rows.scanMuteRow.domain false w args ∧ laidMetH Tryd.prog Rows.scanMuteRow.laid w) ∧ sizedMet enc Tryd.prog Tryd.f3 (OpenSpec.ofChange Rows.scanMuteSpec) false w args) (Rows.scanMuteSpec.post enc Tryd.prog Tryd.f3 false true false false) := by
  refine returnsInHanded_of_change_and (C := Tryd.checked) (X := fun w _ => laidMetH Tryd.prog Rows.scanMuteRow.laid w) (fun _ _ _ hh h => h.of_heap hh) own started (by kernel_rfl) Tryd.func3
    (ChangeSpec.witness_shaped (enc := enc) (C := Tryd.checked) (os := os) (X := fun w _ => laidMetH Tryd.prog Rows.scanMuteRow.laid w) false (World.laidAll Tryd.prog os Rows.scanMuteRow.laid) #[.slice none 0 0, .slice none 0 0, .slice none 0 0] 8 (World.laidAll_os _ _ _)
      (World.shaped_of_ZipB (by kernel_rfl) (by kernel_rfl)) (by kernel_rfl) (by kernel_rfl) (by kernel_rfl)
      (by rw [MakeChecks.laidMetH_plain _ _ _ (by kernel_rfl)]; exact laidMet_laidAll _ (by kernel_rfl) (by kernel_rfl))) ?_
  intro W base args ds gs before hval0 hW hcnd0 hsz0 _ _
  have hsz : (DataW.weightsEach Tryd.prog (Tryd.f3.params.toList ++ Rows.scanMuteSpec.plain.varTypes Tryd.prog) (ds ++ gs)).all (· ≤ reachBytes) = true := hsz0
  clear hsz0
  have hval : ∀ (j : Nat) t v, Tryd.f3.params[j]? = some t → args[j]? = some v → Value.okWide Tryd.prog W .any base t v := hval0
  have hW' := hW
  obtain ⟨p, q, hA0, hV, rfl, hfz, hnd⟩ := hW
  have hA : DataW.TrodAll enc Tryd.prog W 0 (fun _ => true) true Tryd.f3.params.toList args.toList ds p := hA0
  rw [Tryd.params3] at hA hval hsz
  obtain ⟨v0, vs0, d0, ds0, p0, q0, hargs, rfl, rfl, h0, r0⟩ := trodAll_cons hA
  obtain ⟨v1, vs1, d1, ds1, p1, q1, rfl, rfl, rfl, h1, r1⟩ := trodAll_cons r0
  obtain ⟨v2, vs2, d2, ds2, p2, q2, rfl, rfl, rfl, h2, r2⟩ := trodAll_cons r1
  obtain ⟨rfl, rfl, rfl⟩ := trodAll_nil r2
  obtain rfl : args = #[v0, v1, v2] := by cases args; simp_all
  obtain ⟨rfl, rfl⟩ := trodVars_none hV
  obtain ⟨c0, len0, cap0, rfl⟩ := okWide_slice Tryd.underlying22 (hval 0 22 v0 rfl rfl)
  have k0 := h0
  have lt0 : ∀ x ∈ p0, x.block < W.heap.size := by obtain ⟨m, hm⟩ := k0; exact DataW.trod_lt m _ _ _ hm
  obtain ⟨fuel0, hf0⟩ := h0
  obtain ⟨l0, y0, e0⟩ := bytes_arg Tryd.underlying22 Tryd.underlying5 (by kernel_rfl) hf0
  have z0 : l0.length * 1 ≤ 140737488351232 := by
    rcases e0 with ⟨_, rfl⟩ | ⟨elems, spare, rfl, hll⟩
    · simp
    · have := sized_slice hsz (j := 0) (t := 22) (e := 5) rfl rfl Tryd.underlying22
      rw [show Tryd.prog.bytesOf 5 = 1 by kernel_rfl] at this; simp only [reachBytes] at this; omega
  obtain ⟨c1, len1, cap1, rfl⟩ := okWide_slice Tryd.underlying23 (hval 1 23 v1 rfl rfl)
  have k1 := h1
  have lt1 : ∀ x ∈ p1, x.block < W.heap.size := by obtain ⟨m, hm⟩ := k1; exact DataW.trod_lt m _ _ _ hm
  obtain ⟨fuel1, hf1⟩ := h1
  obtain ⟨l1, rfl, y1, e1⟩ := bools_arg Tryd.underlying23 Tryd.underlying4 (by kernel_rfl) hf1
  have z1 : l1.length * 1 ≤ 140737488351232 := by
    rcases e1 with ⟨_, rfl⟩ | ⟨elems, spare, rfl, hll⟩
    · simp
    · have := sized_slice hsz (j := 1) (t := 23) (e := 4) rfl rfl Tryd.underlying23
      rw [show Tryd.prog.bytesOf 4 = 1 by kernel_rfl] at this; simp only [reachBytes] at this; omega
  obtain ⟨c2, len2, cap2, rfl⟩ := okWide_slice Tryd.underlying22 (hval 2 22 v2 rfl rfl)
  have k2 := h2
  have lt2 : ∀ x ∈ p2, x.block < W.heap.size := by obtain ⟨m, hm⟩ := k2; exact DataW.trod_lt m _ _ _ hm
  obtain ⟨fuel2, hf2⟩ := h2
  obtain ⟨l2, y2, e2⟩ := bytes_arg Tryd.underlying22 Tryd.underlying5 (by kernel_rfl) hf2
  have z2 : l2.length * 1 ≤ 140737488351232 := by
    rcases e2 with ⟨_, rfl⟩ | ⟨elems, spare, rfl, hll⟩
    · simp
    · have := sized_slice hsz (j := 2) (t := 22) (e := 5) rfl rfl Tryd.underlying22
      rw [show Tryd.prog.bytesOf 5 = 1 by kernel_rfl] at this; simp only [reachBytes] at this; omega
  clear hA0
  refine (scanMute_fr c0 c1 c2 len0 len2 cap0 cap1 cap2 l0 l1 l2 W y0 y1 y2 z0 z1 z2).mono fun e W' ⟨he, bel⟩ => ?_
  subst he
  exact ⟨_, rfl, _, _, _, [], _, [], hW', trodAll_mk1 (shut_bool Tryd.underlying4 _), (trodAll_cons_mk (Below.trod laidOut (by kernel_rfl) (of_decide_eq_true (by kernel_rfl)) k0 bel lt0) (trodAll_cons_mk (Below.trod laidOut (by kernel_rfl) (of_decide_eq_true (by kernel_rfl)) k1 bel lt1) (trodAll_cons_mk (Below.trod laidOut (by kernel_rfl) (of_decide_eq_true (by kernel_rfl)) k2 bel lt2) trodAll_mk0))), rfl, bel.frame _, fun h => by cases h⟩

theorem over : Rows.ScanMuteSaid :=
  OpenClaim.holds_of_wide 3 Tryd.f3 rfl rfl rfl rfl rfl rfl rfl ⟨rfl, rfl, rfl, rfl, rfl⟩ rfl rfl rfl rfl rfl (by kernel_rfl) Tryd.func3 (by kernel_rfl)
    (of_decide_eq_true (by kernel_rfl)) (by unfold Func.isWrapper; first | (rw [if_pos (by decide +kernel)]; kernel_rfl) | (rw [if_neg (by decide +kernel)]; exact ⟨rfl, rfl⟩))
    (fun os started H enc _ => lifted os started H enc)
set_option maxRecDepth 100000 in
theorem card : Rows.ScanMuteCardSaid :=
  Claim7.holds_tied_plain_at .later [] [.data, .pinned] true Rows.scanMuteCard.stood.harness false over (fun _ h => by cases h) (by kernel_rfl) (fun _ h => by cases h) scanMute_row_tie rfl ⟨rfl, rfl⟩ (by kernel_rfl) rfl
    (fun f fn hf hfn => by
      obtain rfl : f = 3 := Option.some.inj ((show Tryd.prog.funcNamed "millrace/millracelaw18.ScanMute" = some 3 by kernel_rfl).symm.trans hf) |>.symm
      obtain rfl : fn = Tryd.f3 := (Option.some.inj (Tryd.func3.symm.trans hfn)).symm
      exact ⟨by kernel_rfl, fun j t ht => by
        rw [Tryd.params3] at ht
        have hm : t ∈ [22, 23, 22] := by simpa using Array.mem_of_getElem? ht
        have hall : ([22, 23, 22].all fun u => !Tryd.prog.wantsStandIn u) = true := by kernel_rfl
        exact (show Tryd.prog.wantsStandIn t = false by simpa using List.all_eq_true.1 hall t hm)⟩)
    (by kernel_rfl)
end Go.Proofs.YtcmfpafcipgejaaDoor.scanMute
namespace Go.Proofs.YtcmfpafcipgejaaDoor
theorem scanMute_holds : Rows.ScanMuteCardSaid := scanMute.card
#print axioms scanMute_holds
end Go.Proofs.YtcmfpafcipgejaaDoor
