/- What the proof stands on, part 17: the contracts of the program's calls that it reaches. -/
import Derived.Test.YtejcfhjhjplcnaaGreatKM16
import Derived.LaidEqlPtr
import Derived.Lib.Builder
import Derived.Deep.RegionHeld3
/- The reference's kernel: Screens. -/
namespace Go.Proofs.YtejcfhjhjplcnaaGreat
open Go.RowKit

def Ob.shown : Ob → List UInt8
  | .term _ s => s
  | _ => []
def KS.screens (K : KS) : List Nm := K.tidx.map fun i => (K.nameOf i, (K.obOf i).shown)
def KS.screensTo (K : KS) (k : Nat) : List Nm := ((K.nm.take k).filter fun i => (K.obOf i).kind == 2).map fun i => (K.nameOf i, (K.obOf i).shown)
theorem screensTo_all (K : KS) : K.screensTo K.nm.length = K.screens := by unfold KS.screensTo KS.screens KS.tidx; rw [List.take_length]
theorem screensTo_next (K : KS) (k : Nat) (hk : k < K.nm.length) : K.screensTo (k + 1) = if (K.obOf K.nm[k]).kind == 2 then K.screensTo k ++ [(K.nameOf K.nm[k], (K.obOf K.nm[k]).shown)] else K.screensTo k := by
  unfold KS.screensTo
  rw [List.take_add_one, List.getElem?_eq_getElem hk, List.filter_append, List.map_append]
  by_cases e : ((K.obOf K.nm[k]).kind == 2) = true
  · rw [if_pos e]; simp [e]
  · rw [if_neg e]; simp [e]
theorem screensTo_few (K : KS) (k : Nat) : (K.screensTo k).length ≤ K.nm.length := by
  unfold KS.screensTo
  rw [List.length_map]
  exact Nat.le_trans (List.length_filter_le _ _) (by rw [List.length_take]; omega)
set_option maxRecDepth 100000 in
set_option maxHeartbeats 8000000 in
theorem rkscreens_any (B : Nat → Prop) (ρ : Nat → Option Tag) (I : RI) (K : KS) (w : World) (h : RK w B ρ I K) :
    Calls Tryz.prog 79 #[.pointer (some ⟨I.kb, 0, none⟩)] w fun e w' => ∃ v us, e = .returned v ∧ w'.ownsRow w.heap.size 119 2 v K.screens.length (ncs K.screens us) ∧ LCells w' w.heap.size (K.screens.map Prod.snd) us ∧ Below w.heap.size w w' := by
  have hb := (h.comp .kern).1
  have hkl : I.kb < w.heap.size := (Array.getElem?_eq_some_iff.1 hb).1
  have c1 : w.cell? ⟨I.kb, 0, none⟩ = some I.vT := by rw [cell_of_row w I.kb 0 _ _ _ hb]; rfl
  have HD := hide (h.comp .trow).1
  have hfew := h.ok.named
  obtain ⟨va, vc, hv⟩ := owns_slice (h.comp .trow).1
  rw [hv] at c1 HD
  have HH := hide h
  clear h hb hv
  go_enter Tryz.func79, Tryz.ntmps79
  go_wp2_with fail
  go_loopw [3, 4] (fun ov iv wr => ∃ (k : Nat) (us : List Value), iv = .int .i64 k ∧ k ≤ K.nm.length ∧ Hid (wr.ownsRow w.heap.size 119 2 ov (K.screensTo k).length (ncs (K.screensTo k) us)) ∧ Hid (LCells wr w.heap.size ((K.screensTo k).map Prod.snd) us) ∧ Hid (Below w.heap.size w wr)) (fun _ iv _ => K.nm.length - (intOf iv).toNat)
  case atStart => exact ⟨0, [], rfl, Nat.zero_le _, hide (World.ownsRow_nil _ _ _ _), hide ⟨rfl, fun j hj => absurd hj (by simp [KS.screensTo]), fun i j vi vj k _ h1 => by simp at h1⟩, hide (Below.refl _ _)⟩
  case round =>
    obtain ⟨k, us, rfl, hk, HO, HL, HB⟩ := hrel
    obtain ⟨oa, oc, rfl⟩ := owns_slice HO.out
    have c0 := (HB.out.cell (p := ⟨I.kb, 0, none⟩) hkl).trans c1
    have hsz := HB.out.size
    by_cases hlt : k < K.nm.length
    · obtain ⟨b, rfl⟩ : ∃ b, va = some ⟨b, 0, none⟩ := by
        rcases HD.out.2 with ⟨h0, _⟩ | ⟨g, cap, cur, h1, _⟩
        · simp only [Value.slice.injEq] at h0; omega
        · simp only [Value.slice.injEq] at h1; exact ⟨g, h1.1⟩
      have hcell := HD.out.cellAt k (by simpa using hlt)
      rw [List.getElem?_map, List.getElem?_eq_getElem hlt] at hcell
      simp only [Option.map_some] at hcell
      have hk1 : (0 : Int) ≤ (k : Int) := by omega
      have hk2 : (k : Int) < (K.nm.length : Int) := by omega
      obtain ⟨x, hx⟩ : ∃ x, x = K.nm[k] := ⟨_, rfl⟩
      have hxt : x < K.th.length := by rw [hx]; exact HH.out.ok.nm _ (List.getElem_mem _)
      have hnext := screensTo_next K k hlt
      rw [← hx] at hcell hnext
      have r0 := (HB.out.cell (p := ⟨b, k, none⟩) (World.block_lt_of_cell? w _ hcell)).trans hcell
      obtain ⟨tn, tk, -, tf⟩ := HH.out.tcell hxt
      have tk' := (HB.out.cell (p := ⟨I.tb x, 1, none⟩) (World.block_lt_of_cell? w _ tk)).trans tk
      have HNx := hide hnext
      have hcw := hcell
      clear hcell hx hnext
      by_cases hkd : (K.obOf x).kind = 2
      · obtain ⟨ls, L, hL⟩ : ∃ ls L, K.obOf x = .term ls L := by
          cases ho : K.obOf x with
          | file _ => rw [ho] at hkd; simp [Ob.kind] at hkd
          | term ls L => exact ⟨ls, L, rfl⟩
          | pipe _ _ _ => rw [ho] at hkd; simp [Ob.kind] at hkd
        rw [hkd] at tk'
        have tn' := (HB.out.cell (p := ⟨I.tb x, 0, none⟩) (World.block_lt_of_cell? w _ tn)).trans tn
        have tf' := (HB.out.cell (p := ⟨I.tb x, 3, none⟩) (World.block_lt_of_cell? w _ (tf ls L hL))).trans (tf ls L hL)
        have hob := (HH.out.comp (.obj x)) hxt
        rw [← KS.obOf_eq hxt, hL] at hob
        obtain ⟨⟨la, lc, u, Bu, O1, hF, -⟩, hLl⟩ := hob
        have hLl' : L.length ≤ 1048576 := hLl.2.2
        obtain ⟨ua, uc, hu⟩ := owns_slice hF.scr
        have d0 : w.cell? ⟨I.ob x, 1, none⟩ = some u := hF.screen
        have hby := Bys.of_owns hF.scr
        rw [hu] at d0 hby
        have d0' := (HB.out.cell (p := ⟨I.ob x, 1, none⟩) (World.block_lt_of_cell? w _ d0)).trans d0
        have HNx2 : Hid (K.screensTo (k + 1) = K.screensTo k ++ [(K.nameOf x, L)]) := hide (by rw [HNx.out, hL]; rfl)
        obtain ⟨nm, hnm⟩ : ∃ nm, nm = K.nameOf x := ⟨_, rfl⟩
        rw [← hnm] at tn' HNx2
        have hS : ∀ w', Below w.heap.size w w' → w'.cell? ⟨I.kb, 0, none⟩ = some (.slice (some ⟨b, 0, none⟩) K.nm.length vc) ∧ w'.cell? ⟨b, k, none⟩ = some (.pointer (some ⟨I.tb x, 0, none⟩)) ∧ w'.cell? ⟨I.tb x, 0, none⟩ = some (.string nm) ∧ w'.cell? ⟨I.tb x, 3, none⟩ = some (.pointer (some ⟨I.ob x, 0, none⟩)) ∧ w'.cell? ⟨I.ob x, 1, none⟩ = some (.slice ua L.length uc) := fun w' hW => ⟨(hW.cell (p := ⟨I.kb, 0, none⟩) hkl).trans c1, (hW.cell (p := ⟨b, k, none⟩) (World.block_lt_of_cell? w _ hcw)).trans hcw, (hW.cell (p := ⟨I.tb x, 0, none⟩) (World.block_lt_of_cell? w _ tn)).trans (by rw [hnm]; exact tn), (hW.cell (p := ⟨I.tb x, 3, none⟩) (World.block_lt_of_cell? w _ (tf ls L hL))).trans (tf ls L hL), (hW.cell (p := ⟨I.ob x, 1, none⟩) (World.block_lt_of_cell? w _ d0)).trans d0⟩
        have hBd : Below w.heap.size w wr.drew := HB.out.drew
        obtain ⟨s1, w5, hrun1, HO5, hg5, -⟩ := run_append_bytes wr.drew 40 wr.heap.size (.slice none 0 0) (.slice ua L.length uc) [] L (World.ownsRow_nil _ _ _ _) (hby.below hBd) (by simp; omega) (Nat.le_refl _)
        obtain ⟨xa, xc, rfl⟩ := owns_slice HO5.out
        rw [List.nil_append] at HO5 hrun1
        have hB5r : Below wr.heap.size wr.drew w5 := (Below.refl _ wr.drew).grown hg5 (Nat.le_refl _) (fun k e => by cases e)
        have hB5 : Below w.heap.size w w5 := hBd.trans (hB5r.mono hsz)
        have hBa := recv_below w5 (Obj.cells #[.string nm, .slice xa L.length xc] 119)
        have hBA : Below w.heap.size w (w5.alloc (Obj.cells #[.string nm, .slice xa L.length xc] 119)) := hB5.trans (hBa.mono hB5.size)
        have hB5a : Below wr.heap.size wr.drew (w5.alloc (Obj.cells #[.string nm, .slice xa L.length xc] 119)) := hB5r.trans (hBa.mono hB5r.size)
        have HOa := hide (owns_below (W := wr.drew) HO.out hB5a)
        have HLa := hide (LCells.below (W := wr.drew) HL.out hB5a)
        have HUa := hide (owns_below HO5.out hBa)
        have hcu0 : (w5.alloc (Obj.cells #[.string nm, .slice xa L.length xc] 119)).cell? ⟨w5.heap.size, 0, none⟩ = some (.string nm) := by simp only [World.cell?, heap_alloc_new]; rfl
        have hcu1 : (w5.alloc (Obj.cells #[.string nm, .slice xa L.length xc] 119)).cell? ⟨w5.heap.size, 1, none⟩ = some (.slice xa L.length xc) := by simp only [World.cell?, heap_alloc_new]; rfl
        have hfe := screensTo_few K k
        obtain ⟨s', w7, hrun2, HO7, hg7, hb7⟩ := run_append_named (w5.alloc (Obj.cells #[.string nm, .slice xa L.length xc] 119)) 22 w.heap.size _ (K.screensTo k).length _ w5.heap.size 1 nm _ HOa.out hcu0 hcu1 rfl (by omega) (by have := hBA.size; omega)
        obtain ⟨sa', sc', rfl⟩ := owns_slice HO7.out
        have hB7 : Below w.heap.size w w7 := hBA.grown hg7 hBA.size (fun j e => (HOa.out.lt j e).1)
        have K0 := hS wr.drew hBd
        have K5 := hS w5 hB5
        have Ka := hS _ hBA
        have K7 := hS w7 hB7
        have HR1 := hide hrun1
        have HR2 := hide hrun2
        have HE : Hid (∃ us', w7.ownsRow w.heap.size 119 2 (.slice sa' ((K.screensTo k).length + 1) sc') (K.screensTo (k + 1)).length (ncs (K.screensTo (k + 1)) us') ∧ LCells w7 w.heap.size ((K.screensTo (k + 1)).map Prod.snd) us') := hide (by
          have hul := HL.out.1
          rw [List.length_map] at hul
          refine ⟨us ++ [.slice xa L.length xc], ?_, ?_⟩
          · rw [HNx2.out, ncs_snoc _ _ _ _ hul, List.length_append]
            exact HO7.out
          · have hLa : LCells w7 w.heap.size ((K.screensTo k).map Prod.snd) us := HLa.out.keep fun j hj v i h1 e => by
              obtain ⟨v', h2, h3⟩ := HLa.out.2.1 j hj
              rw [h1] at h2
              cases h2
              exact hg7.block i (h3.lt i e).2 (fun e' => Te_owns_apart h3 HOa.out (by decide) i e e'.symm)
            have hU7 := owns_keep (W' := w7) HUa.out fun i e => hg7.block i (HUa.out.lt i e).2 (fun e' => Te_owns_apart HUa.out HOa.out (by decide) i e e'.symm)
            have h9 : (K.screensTo k).length < ((K.screensTo (k + 1)).map Prod.snd).length := by rw [HNx2.out]; simp
            have h10 : (K.screensTo (k + 1)).map Prod.snd = ((K.screensTo (k + 1)).map Prod.snd).take ((K.screensTo k).length + 1) := by rw [List.take_of_length_le (by rw [HNx2.out]; simp)]
            have h11 : ((K.screensTo (k + 1)).map Prod.snd).take (K.screensTo k).length = (K.screensTo k).map Prod.snd := by rw [HNx2.out, List.map_append, List.take_append_of_le_length (by simp), List.take_of_length_le (by simp)]
            have h12 : ((K.screensTo (k + 1)).map Prod.snd)[(K.screensTo k).length] = L := by simp [HNx2.out]
            rw [h10]
            refine LCells.snoc h9 (by rw [h11]; exact hLa) _ ?_ (fun j v i h1 e e' => ?_)
            · rw [h12]
              exact owns_mono hU7 hsz
            · obtain ⟨v', h2, h3⟩ := HL.out.2.1 j (by have := (List.getElem?_eq_some_iff.1 h1).1; have := HL.out.1; omega)
              rw [h1] at h2
              cases h2
              have := (h3.lt i e).2
              have : wr.heap.size ≤ i := (HO5.out.lt i e').1
              omega)
        have HB7 := hide hB7
        have H0 := hide hS
        clear hS hBd hrun1 hrun2 hg5 hB5r hB5 hBa hBA hB5a hcu0 hcu1 hg7 hb7 hB7 hby hF d0 tf tn tk hcw hnm
        go_wp2_with fail
        go_region_held3 (fun w' => w'.cell? ⟨I.kb, 0, none⟩ = some (.slice (some ⟨b, 0, none⟩) K.nm.length vc) ∧ w'.cell? ⟨b, k, none⟩ = some (.pointer (some ⟨I.tb x, 0, none⟩)) ∧ w'.cell? ⟨I.tb x, 0, none⟩ = some (.string nm) ∧ w'.cell? ⟨I.tb x, 3, none⟩ = some (.pointer (some ⟨I.ob x, 0, none⟩)) ∧ w'.cell? ⟨I.ob x, 1, none⟩ = some (.slice ua L.length uc))
          (first | exact K7 | exact Ka | exact K5 | exact K0 | go_keep)
          (first
            | (refine step_append_run _ (by rfl) _ _ _ _ (by rfl) _ _ (by rfl) (by rfl) _ _ HR2.out ?_)
            | (refine step_append_run _ (by rfl) _ _ _ _ (by rfl) _ _ (by rfl) (by rfl) _ _ HR1.out ?_)
            | fail)
        all_goals
          go_wp2
          go_roundw
          case rel =>
            obtain ⟨us', h1, h2⟩ := HE.out
            exact ⟨k + 1, us', by go_num, by omega, hide h1, hide h2, HB7⟩
          case measure => simp [intOf]; omega
      · have hkd2 : ((K.obOf x).kind == 2) = false := by simpa using hkd
        have HNx2 : Hid (K.screensTo (k + 1) = K.screensTo k) := hide (by rw [HNx.out, if_neg (by simp [hkd])])
        go_wp2
        go_roundw
        case rel => exact ⟨k + 1, us, by go_num, by omega, by rw [HNx2.out]; exact HO, by rw [HNx2.out]; exact HL, HB⟩
        case measure => simp [intOf]; omega
    · obtain rfl : k = K.nm.length := by omega
      have HA : Hid (K.screensTo K.nm.length = K.screens) := hide (screensTo_all K)
      go_wp2
      go_ret
      rw [← HA.out]
      exact ⟨_, us, rfl, HO.out, HL.out, HB.out⟩
end Go.Proofs.YtejcfhjhjplcnaaGreat

/- The reference's kernel: Drop. -/
namespace Go.Proofs.YtejcfhjhjplcnaaGreat
open Go.RowKit

theorem RK.lose {W W' : World} {B : Nat → Prop} {ρ : Nat → Option Tag} {I : RI} {K : KS} (h : RK W B ρ I K) {x : De} (hx : x ∈ K.de) {v' : Value}
    (h1 : W'.heap[I.kb]? = some (.cells ([I.vT, v', .int .i64 K.next, .pointer (some ⟨I.pb, 0, none⟩), .int .i64 K.reads, .int .i64 K.writes] : List Value).toArray 156 (0, 0)))
    (h2 : W'.ownsRow 0 258 1 v' (K.lose x.n).de.length ((K.lose x.n).de.map (fun d => .pointer (some ⟨I.db d.n, 0, none⟩))))
    (h4 : ∀ k, v'.ownBlock = some k → W.heap.size ≤ k)
    (hk : ∀ k, k < W.heap.size → k ≠ I.kb → k ≠ I.db x.n → W'.heap[k]? = W.heap[k]?) (hs : W.heap.size ≤ W'.heap.size) :
    ∃ ρ', RK W' B ρ' { I with vD := v' } (K.lose x.n) ∧ ∀ k t, ρ k = some t → ρ' k = some t := by
  obtain ⟨ρ', hρ⟩ : ∃ ρ' : Nat → Option Tag, ∀ k, (k < W.heap.size → ρ' k = ρ k) ∧ (¬ k < W.heap.size → (v'.ownBlock = some k → ρ' k = some .drow) ∧ (v'.ownBlock ≠ some k → ρ' k = none)) :=
    ⟨fun k => if k < W.heap.size then ρ k else if v'.ownBlock = some k then some .drow else none, fun k => ⟨fun hk => if_pos hk, fun hk => ⟨fun e => (if_neg hk).trans (if_pos e), fun e => (if_neg hk).trans (if_neg e)⟩⟩⟩
  have old : ∀ k t, ρ k = some t → ρ' k = some t := fun k t e => by rw [(hρ k).1 (h.lt k t e).2]; exact e
  have kr := (h.comp .kern).2
  have xr := (h.comp (.desc x.n) x hx rfl).2
  have keep : ∀ t, t ≠ .kern → t ≠ .desc x.n → RComp W' B ρ I K t := fun t n1 n2 => (h.comp t).keep (fun k e hlt => hk k hlt (fun e' => by subst e'; rw [kr] at e; exact n1 (Option.some.inj e).symm) (fun e' => by subst e'; rw [xr] at e; exact n2 (Option.some.inj e).symm)) hs
  have mem : ∀ d, d ∈ (K.lose x.n).de → d ∈ K.de ∧ d.n ≠ x.n := fun d hd => by
    have := List.mem_filter.1 hd
    exact ⟨this.1, by simpa using this.2⟩
  refine ⟨ρ', ⟨fun t => ?_, fun k t e => ?_, ?_, fun k e => h.up k (Nat.le_trans hs e)⟩, old⟩
  · cases t with
    | kern => exact ⟨h1, old _ _ kr⟩
    | trow => have := keep .trow (by simp) (by simp); exact ⟨this.1, fun k e => old _ _ (this.2 k e)⟩
    | drow => exact ⟨h2, fun k e => ((hρ k).2 (by have := h4 k e; omega)).1 e⟩
    | plan => have := keep .plan (by simp) (by simp); exact ⟨this.1, old _ _ this.2.1, fun k e => old _ _ (this.2.2 k e)⟩
    | thing j => intro hj; have := keep (.thing j) (by simp) (by simp) hj; exact ⟨this.1, old _ _ this.2⟩
    | obj j => intro hj; have := keep (.obj j) (by simp) (by simp) hj; exact ⟨this.1.mono fun k e => old _ _ e, this.2⟩
    | desc n =>
      intro d hd e
      obtain ⟨hd1, hd2⟩ := mem d hd
      have := keep (.desc n) (by simp) (by simpa using fun e' => hd2 (e.trans e')) d hd1 e
      exact ⟨this.1, old _ _ this.2⟩
  · by_cases hlt : k < W.heap.size
    · rw [(hρ k).1 hlt] at e; exact ⟨(h.lt k t e).1, Nat.lt_of_lt_of_le (h.lt k t e).2 hs⟩
    · by_cases hv : v'.ownBlock = some k
      · exact ⟨h.up k (by omega), (h2.lt k hv).2⟩
      · rw [((hρ k).2 hlt).2 hv] at e; cases e
  · exact ⟨Nat.le_trans (List.length_filter_le _ _) h.ok.few, h.ok.named, fun d hd => h.ok.th d (mem d hd).1, h.ok.nm, fun d hd => h.ok.num d (mem d hd).1, fun d hd d' hd' e => h.ok.once d (mem d hd).1 d' (mem d' hd').1 e, fun d hd => h.ok.flags d (mem d hd).1, fun d hd => h.ok.pos d (mem d hd).1, fun d hd => h.ok.held d (mem d hd).1, h.ok.plan⟩
def leftTo (L : List De) (n : Nat) (k : Nat) : List De := (L.take k).filter fun y => decide (y.n ≠ n)
theorem leftTo_next (L : List De) (n k : Nat) (hk : k < L.length) : leftTo L n (k + 1) = if L[k].n = n then leftTo L n k else leftTo L n k ++ [L[k]] := by
  unfold leftTo
  rw [List.take_add_one, List.getElem?_eq_getElem hk, List.filter_append]
  by_cases e : L[k].n = n
  · rw [if_pos e]; simp [e]
  · rw [if_neg e]; simp [e]
theorem leave_ok2 {q : List UInt8} {rd wt : Nat} {b : Bool} (h : (Ob.pipe q rd wt).ok) : (Ob.pipe q (leaveR b rd wt) (leaveW b rd wt)).ok := by
  have h1 := h.2.1
  have h2 := h.2.2
  refine ⟨h.1, ?_, ?_⟩
  · unfold leaveR; repeat' split
    all_goals omega
  · unfold leaveW; repeat' split
    all_goals omega
theorem dinfo : ∃ j, Tryz.prog.info? 261 = some j ∧ j.size ≠ 0 := by
  have h5 : (Tryz.prog.info? 261).map (fun i => i.size) = some 5 := by kernel_rfl
  cases h6 : Tryz.prog.info? 261 with
  | none => rw [h6] at h5; cases h5
  | some j =>
    rw [h6] at h5
    have h7 : j.size = 5 := by simpa using h5
    exact ⟨j, rfl, by omega⟩
theorem dneq_same (a : Addr) (w : World) : (binOp .neq 258 (.pointer (some a)) (.pointer (some a))).run Tryz.prog w = .ok (.bool false) w := by
  obtain ⟨j, hj, -⟩ := dinfo
  exact Go.Lib.run_neq_ptr_same w a Tryz.underlying258 hj
theorem dneq_other {a b : Addr} {ca cb : Array Value} {ta tb : TypeId} (w : World) (hne : a ≠ b) (ha : w.heap[a.block]? = some (.cells ca ta (0, 0))) (hb : w.heap[b.block]? = some (.cells cb tb (0, 0))) : (binOp .neq 258 (.pointer (some a)) (.pointer (some b))).run Tryz.prog w = .ok (.bool true) w := by
  obtain ⟨j, hj, hsz⟩ := dinfo
  have h : ∀ d : Nat, (Op.equalIn (d + 1) 258 (.pointer (some a)) (.pointer (some b))).run Tryz.prog w = .ok false w := fun d => by
    simp [Op.equalIn, run_underlying Tryz.underlying258, sizeOf, typeInfo, hj, hsz, run_sameAddr_other w hne ha hb]
  simp only [binOp]
  simp [Op.equal, Op.maxDepth, h 9999]
def RKErr (w : World) (B : Nat → Prop) (kb : Nat) (E : Int) (K' : KS) (e : Ending) (w' : World) : Prop := ∃ ρ' I', e = .returned (.int .i64 E) ∧ RK w' B ρ' I' K' ∧ I'.kb = kb ∧ Turned B w w'
set_option maxRecDepth 100000 in
set_option maxHeartbeats 8000000 in
theorem rkdrop_any (B : Nat → Prop) (ρ : Nat → Option Tag) (I : RI) (K : KS) (d : Int) (w : World) (h : RK w B ρ I K) :
    Calls Tryz.prog 72 #[.pointer (some ⟨I.kb, 0, none⟩), .int .i64 d] w (RKErr w B I.kb (K.dropE d) (K.dropK d)) := by
  have HF := hide (rfind_any B ρ I K d w h)
  cases hx : K.find d with
  | none =>
    rw [hx] at HF
    rw [show K.dropE d = 64 by unfold KS.dropE; rw [hx], show K.dropK d = K by unfold KS.dropK; rw [hx]]
    have HX : Hid (RKErr w B I.kb 64 K (.returned (.int .i64 64)) w) := hide ⟨ρ, I, rfl, h, rfl, Turned.refl _ _⟩
    clear h
    go_enter Tryz.func72, Tryz.ntmps72
    go_wp2_with fail
    refine HF.out.mono ?_
    rintro e w1 ⟨rfl, rfl⟩
    go_wp2
    go_ret
    exact HX.out
  | some x =>
    rw [hx] at HF
    rw [show K.dropE d = 0 by unfold KS.dropE; rw [hx]]
    have hm := (KS.find_some hx).1
    have hd := h.de hm
    have c1 := hd.t
    have c3 := hd.f
    have c4 := hd.h
    have c4s := hd.soft 4
    have hheld := h.ok.held x hm
    by_cases h1 : 1 < x.held
    · have hK : K.dropK d = K.setDe { x with held := x.held - 1 } := by unfold KS.dropK; rw [hx]; simp only; rw [if_pos h1]
      rw [hK]
      obtain ⟨hK2, hT2⟩ := h.setDe (x := x) (x' := { x with held := x.held - 1 }) hm rfl rfl rfl (h.ok.pos x hm) (by show 1 ≤ x.held - 1 ∧ x.held - 1 ≤ 1024; omega) 4 (.int .i64 ((x.held : Int) - 1)) (by simp; omega)
      have HX : Hid (RKErr w B I.kb 0 (K.setDe { x with held := x.held - 1 }) (.returned (.int .i64 0)) (w.setCell ⟨I.db x.n, 4, none⟩ (.int .i64 ((x.held : Int) - 1)))) := hide ⟨ρ, I, rfl, hK2, rfl, hT2.mono fun k e => (h.lt k _ e).1⟩
      have c5 : (w.setCell ⟨I.db x.n, 4, none⟩ (.int .i64 ((x.held : Int) - 1))).cell? ⟨I.db x.n, 4, none⟩ = some (.int .i64 ((x.held : Int) - 1)) := World.cell?_setCell_same _ _ _ c4
      have hg : (0 : Int) < (x.held : Int) - 1 := by omega
      clear h hd hK2 hT2 hK
      go_enter Tryz.func72, Tryz.ntmps72
      go_wp2_with fail
      refine HF.out.mono ?_
      rintro e w1 ⟨rfl, rfl⟩
      simp only [Option.map_some]
      go_wp2
      go_ret
      exact HX.out
    · have hh1 : x.held = 1 := by omega
      have hK : K.dropK d = (match K.tho x with | .pipe q rd wt => (K.setOb x.th (.pipe q (leaveR (bit x.flags 2) rd wt) (leaveW (bit x.flags 2) rd wt))).lose x.n | _ => K.lose x.n) := by unfold KS.dropK; rw [hx]; simp only; rw [if_neg h1]; first | done | rfl
      rw [hK]
      obtain ⟨Kf, hKf⟩ : ∃ Kf, Kf = K.dropK d := ⟨_, rfl⟩
      rw [← hK, ← hKf]
      rw [hK] at hKf
      have HKf := hide hKf
      clear hKf
      have c4' : w.cell? ⟨I.db x.n, 4, none⟩ = some (.int .i64 1) := by rw [c4, hh1]; rfl
      have hb := (h.comp .kern).1
      have hkr := (h.comp .kern).2
      have hdr := (h.comp .drow).2
      have hxr := (h.comp (.desc x.n) x hm rfl).2
      have hrow := (h.comp .drow).1
      have hdbl : I.db x.n < w.heap.size := World.block_lt_of_cell? w _ c4
      have hkl : I.kb < w.heap.size := (Array.getElem?_eq_some_iff.1 hb).1
      have hkd : I.kb ≠ I.db x.n := fun e => by rw [e, hxr] at hkr; cases hkr
      obtain ⟨va, vc, hv⟩ := owns_slice hrow
      obtain ⟨wA, hwA⟩ : ∃ wA, wA = w.setCell ⟨I.db x.n, 4, none⟩ (.int .i64 0) := ⟨_, rfl⟩
      have hsA : wA.heap.size = w.heap.size := by rw [hwA]; simp [World.setCell]
      have hothA : ∀ k : Nat, k ≠ I.db x.n → wA.heap[k]? = w.heap[k]? := fun k hk => by rw [hwA]; exact Below.heap_setCell _ _ _ _ hk
      have c5 : wA.cell? ⟨I.db x.n, 4, none⟩ = some (.int .i64 0) := by rw [hwA]; exact World.cell?_setCell_same _ _ _ c4
      have c1A : wA.cell? ⟨I.db x.n, 1, none⟩ = some (.pointer (some ⟨I.tb x.th, 0, none⟩)) := by rw [hwA, World.cell?_setCell_other _ _ _ _ (by simp)]; exact c1
      have c3A : wA.cell? ⟨I.db x.n, 2, none⟩ = some (.int .i64 x.flags) := by rw [hwA, World.cell?_setCell_other _ _ _ _ (by simp)]; exact c3
      have hbA : wA.heap[I.kb]? = some (.cells ([I.vT, I.vD, .int .i64 K.next, .pointer (some ⟨I.pb, 0, none⟩), .int .i64 K.reads, .int .i64 K.writes] : List Value).toArray 156 (0, 0)) := (hothA I.kb hkd).trans hb
      have k1A : wA.cell? ⟨I.kb, 1, none⟩ = some (.slice va K.de.length vc) := by rw [cell_of_row wA I.kb 1 _ _ _ hbA, ← hv]; rfl
      have hrowA : wA.ownsRow 0 258 1 (.slice va K.de.length vc) K.de.length (K.de.map fun d => .pointer (some ⟨I.db d.n, 0, none⟩)) := by
        rw [← hv]
        exact owns_keep hrow (fun k e => hothA k (fun e' => by have h9 := hdr k e; rw [e', hxr] at h9; cases h9))
      have tkA : wA.cell? ⟨I.tb x.th, 1, none⟩ = some (.int .i64 (K.tho x).kind) := by
        refine (World.cell?_of_block (w := w) (a := ⟨I.tb x.th, 1, none⟩) (hothA _ (fun e' => ?_))).trans hd.kind
        have h9 := (h.comp (.thing x.th) hd.lt).2
        rw [show I.tb x.th = I.db x.n from e', hxr] at h9
        cases h9
      have HDb : Hid (∀ y ∈ K.de, I.db y.n = I.db x.n → y = x) := hide (fun y hy e => by
        have h9 := (h.comp (.desc y.n) y hy rfl).2
        rw [e, hxr] at h9
        have h8 : x.n = y.n := by simpa using h9
        exact h.ok.once y hy x hm h8.symm)
      have HRw := hide hrowA
      have HXb := hide (by have h5 := heap_setCell_same 4 (.int .i64 0) (h.comp (.desc x.n) x hm rfl).1; rw [← hwA] at h5; exact h5)
      have HH := hide h
      have HBA := hide hbA
      have hfew := h.ok.few
      have HO2 := hide (And.intro hothA (And.intro hkd hkl))
      have HLt := hide (And.intro hd.lt hdbl)
      clear h hd hK hb hkr hdr hxr hrow hbA hrowA hothA c1 c3 c4
      go_enter Tryz.func72, Tryz.ntmps72
      go_wp2_with fail
      refine HF.out.mono ?_
      rintro e w ⟨rfl, rfl⟩
      simp only [Option.map_some]
      go_wp2_with fail
      rw [← hwA]
      go_loopw [6, 7] (fun lv iv wr => ∃ k : Nat, iv = .int .i64 k ∧ k ≤ K.de.length ∧ Hid (wr.ownsRow wA.heap.size 258 1 lv (leftTo K.de x.n k).length ((leftTo K.de x.n k).map fun d => .pointer (some ⟨I.db d.n, 0, none⟩))) ∧ Hid (Below wA.heap.size wA wr)) (fun _ iv _ => K.de.length - (intOf iv).toNat)
      case atStart => exact ⟨0, rfl, Nat.zero_le _, hide (World.ownsRow_nil _ _ _ _), hide (Below.refl _ _)⟩
      case round =>
        obtain ⟨k, rfl, hk, HO, HB⟩ := hrel
        obtain ⟨la, lc, rfl⟩ := owns_slice HO.out
        have hsz := HB.out.size
        have hklA : I.kb < wA.heap.size := by rw [hsA]; exact HO2.out.2.2
        have k1 := (HB.out.cell (p := ⟨I.kb, 1, none⟩) hklA).trans k1A
        by_cases hlt : k < K.de.length
        · obtain ⟨b, rfl⟩ : ∃ b, va = some ⟨b, 0, none⟩ := by
            rcases HRw.out.2 with ⟨h0, _⟩ | ⟨g, cap, cur, h1, _⟩
            · simp only [Value.slice.injEq] at h0; omega
            · simp only [Value.slice.injEq] at h1; exact ⟨g, h1.1⟩
          have hcell := HRw.out.cellAt k (by simpa using hlt)
          rw [List.getElem?_map, List.getElem?_eq_getElem hlt] at hcell
          simp only [Option.map_some] at hcell
          have r0 := (HB.out.cell (p := ⟨b, k, none⟩) (World.block_lt_of_cell? wA _ hcell)).trans hcell
          have hk1 : (0 : Int) ≤ (k : Int) := by omega
          have hk2 : (k : Int) < (K.de.length : Int) := by omega
          obtain ⟨y, hy⟩ : ∃ y, y = K.de[k] := ⟨_, rfl⟩
          have hym : y ∈ K.de := by rw [hy]; exact List.getElem_mem _
          have hnext := leftTo_next K.de x.n k hlt
          rw [← hy] at r0 hnext
          have HNx := hide hnext
          clear hcell hy hnext
          by_cases hyx : y.n = x.n
          · have HNx2 : Hid (leftTo K.de x.n (k + 1) = leftTo K.de x.n k) := hide (by rw [HNx.out, if_pos hyx])
            rw [hyx] at r0
            clear HNx hyx
            have hpe := dneq_same ⟨I.db x.n, 0, none⟩ wr
            go_wp2
            go_roundw
            case rel => exact ⟨k + 1, by go_num, by omega, by rw [HNx2.out]; exact HO, HB⟩
            case measure => simp [intOf]; omega
          · have HNx2 : Hid (leftTo K.de x.n (k + 1) = leftTo K.de x.n k ++ [y]) := hide (by rw [HNx.out, if_neg hyx])
            have hne : ¬ I.db y.n = I.db x.n := fun e => hyx (by rw [HDb.out y hym e])
            have hBa := recv_below wr (Obj.cells #[.pointer (some ⟨I.db y.n, 0, none⟩)] 258)
            have hcu : (wr.alloc (Obj.cells #[.pointer (some ⟨I.db y.n, 0, none⟩)] 258)).cell? ⟨wr.heap.size, 0, none⟩ = some (.pointer (some ⟨I.db y.n, 0, none⟩)) := by simp only [World.cell?, heap_alloc_new]; rfl
            have hlf : (leftTo K.de x.n k).length ≤ K.de.length := Nat.le_trans (List.length_filter_le _ _) (by rw [List.length_take]; omega)
            obtain ⟨s', w5, hrun, HO5, hg5, hb5⟩ := run_append_dptr (wr.alloc (Obj.cells #[.pointer (some ⟨I.db y.n, 0, none⟩)] 258)) 153 wA.heap.size _ (leftTo K.de x.n k).length _ wr.heap.size 1 _ rfl (owns_below HO.out hBa) hcu (by omega) (by have := hBa.size; omega)
            obtain ⟨sa, sc, rfl⟩ := owns_slice HO5.out
            have HR := hide hrun
            have HB5 : Hid (Below wA.heap.size wA w5) := hide ((HB.out.trans (hBa.mono hsz)).grown hg5 (by have := hBa.size; omega) (fun j e => (HO.out.lt j e).1))
            have HO6 : Hid (w5.ownsRow wA.heap.size 258 1 (.slice sa ((leftTo K.de x.n k).length + 1) sc) (leftTo K.de x.n (k + 1)).length ((leftTo K.de x.n (k + 1)).map fun d => .pointer (some ⟨I.db d.n, 0, none⟩))) := hide (by rw [HNx2.out, List.map_append, List.length_append]; exact HO5.out)
            have r1 := (hBa.cell (p := ⟨b, k, none⟩) (World.block_lt_of_cell? wr _ r0)).trans r0
            have hpe : (binOp .neq 258 (.pointer (some ⟨I.db y.n, 0, none⟩)) (.pointer (some ⟨I.db x.n, 0, none⟩))).run Tryz.prog wr = .ok (.bool true) wr := by
              have hy1 := (HH.out.comp (.desc y.n) y hym rfl).1
              have hyl : I.db y.n < w.heap.size := (Array.getElem?_eq_some_iff.1 hy1).1
              have hy2 := (HB.out.block _ (by omega)).trans ((HO2.out.1 _ hne).trans hy1)
              have hx2 := (HB.out.block _ (by have := HLt.out.2; omega)).trans HXb.out
              exact dneq_other wr (fun e => hne (congrArg Addr.block e)) hy2 hx2
            clear HNx hrun hg5 hb5 HO5 hcu hBa
            go_wp2_with (first | (at_builtin; refine Lib.wpList_append_run _ rfl _ _ _ _ rfl _ _ rfl rfl _ _ HR.out ?_) | fail)
            go_roundw
            case rel => exact ⟨k + 1, by go_num, by omega, HO6, HB5⟩
            case measure => simp [intOf]; omega
        · obtain rfl : k = K.de.length := by omega
          have hle : leftTo K.de x.n K.de.length = (K.lose x.n).de := by unfold leftTo KS.lose; rw [List.take_length]
          have hO := HO.out
          have hbr := (HB.out.block I.kb hklA).trans HBA.out
          have fz : wr.frozen? ⟨I.kb, 1, none⟩ = false := frozen_of_row wr I.kb 1 _ _ hbr
          have hb9 := heap_setCell_same 1 (.slice la (leftTo K.de x.n K.de.length).length lc) hbr
          simp only [List.set_cons_succ, List.set_cons_zero] at hb9
          obtain ⟨w9, hw9⟩ : ∃ w9, w9 = wr.setCell ⟨I.kb, 1, none⟩ (.slice la (leftTo K.de x.n K.de.length).length lc) := ⟨_, rfl⟩
          have hs9 : w9.heap.size = wr.heap.size := by rw [hw9]; simp [World.setCell]
          have hoth9 : ∀ k : Nat, k ≠ I.kb → w9.heap[k]? = wr.heap[k]? := fun k hk => by rw [hw9]; exact Below.heap_setCell _ _ _ _ hk
          rw [← hw9] at hb9
          have hlk : ∀ k, (Value.slice la (leftTo K.de x.n K.de.length).length lc).ownBlock = some k → wA.heap.size ≤ k := fun k e => (hO.lt k e).1
          obtain ⟨ρ9, hK9, hold9⟩ := HH.out.lose (W' := w9) hm (v' := .slice la (leftTo K.de x.n K.de.length).length lc) hb9 (by
              rw [← hle]
              exact owns_mono (owns_keep hO (fun k e => hoth9 k (fun e' => by have := hlk k e; omega))) (by omega)) (fun k e => by have := hlk k e; omega) (fun k hk n1 n2 => (hoth9 k n1).trans ((HB.out.block k (by omega)).trans (HO2.out.1 k n2))) (by omega)
          have HT9 : Hid (Turned B w w9) := hide (by
            have hTA : Turned B w wA := by rw [hwA]; exact (Turned.refl _ _).set (.inl (HH.out.lt _ _ (HH.out.comp (.desc x.n) x hm rfl).2).1)
            have hTr : Turned B wA wr := Turned.of_below HB.out
            have hT9 : Turned B wr w9 := by rw [hw9]; exact (Turned.refl _ _).set (.inl (HH.out.lt _ _ (HH.out.comp .kern).2).1)
            exact (hTA.trans hTr (fun _ _ e => e)).trans hT9 (fun _ _ e => e))
          have q1 : w9.cell? ⟨I.db x.n, 1, none⟩ = some (.pointer (some ⟨I.tb x.th, 0, none⟩)) := (World.cell?_of_block (w := wr) (a := ⟨I.db x.n, 1, none⟩) (hoth9 _ (fun e => hkd e.symm))).trans ((HB.out.cell (p := ⟨I.db x.n, 1, none⟩) (World.block_lt_of_cell? wA _ c1A)).trans c1A)
          have q3 : w9.cell? ⟨I.db x.n, 2, none⟩ = some (.int .i64 x.flags) := (World.cell?_of_block (w := wr) (a := ⟨I.db x.n, 2, none⟩) (hoth9 _ (fun e => hkd e.symm))).trans ((HB.out.cell (p := ⟨I.db x.n, 2, none⟩) (World.block_lt_of_cell? wA _ c3A)).trans c3A)
          have hthl := HLt.out.1
          have ht9 := (hK9.comp (.thing x.th)) hthl
          have hto : (K.lose x.n).tho x = K.tho x := rfl
          obtain ⟨-, tk, -, -⟩ := hK9.tcell (i := x.th) hthl
          rw [show (K.lose x.n).obOf x.th = K.tho x from rfl] at tk
          have tk' : w9.cell? ⟨I.tb x.th, 1, none⟩ = some (.int .i64 (K.tho x).kind) := tk
          have hob : RObj w9 (fun k => ρ9 k = some (.obj x.th)) (I.ob x.th) (K.tho x) ∧ (K.tho x).ok := by rw [KS.tho_eq hthl]; exact (hK9.comp (.obj x.th)) hthl
          have HNt : Hid ((¬ ρ9 (I.db x.n) = some (.obj x.th)) ∧ ¬ ρ9 (I.tb x.th) = some (.obj x.th)) := hide (And.intro (fun e => by rw [hold9 _ _ (HH.out.comp (.desc x.n) x hm rfl).2] at e; cases e) (fun e => by rw [hold9 _ _ ((HH.out.comp (.thing x.th)) hthl).2] at e; cases e))
          have HK9 := hide hK9
          have HTh := hide ht9.1
          have HOb := hide hob
          clear hO hbr hb9 hs9 hoth9 hK9 ht9 hob HO HB HRw HBA HXb tk hlk hle
          subst hw9
          cases ho : K.tho x with
          | file f =>
            rw [ho] at tk'
            simp only [Ob.kind] at tk'
            have HX : Hid (RKErr w B I.kb 0 (K.lose x.n) (.returned (.int .i64 0)) (wr.setCell ⟨I.kb, 1, none⟩ (.slice la (leftTo K.de x.n K.de.length).length lc))) := hide ⟨ρ9, _, rfl, HK9.out, rfl, HT9.out⟩
            have HKg : Hid (Kf = K.lose x.n) := hide (by rw [HKf.out, ho])
            go_wp2
            go_ret
            rw [HKg.out]
            exact HX.out
          | term ls scr =>
            rw [ho] at tk'
            simp only [Ob.kind] at tk'
            have HX : Hid (RKErr w B I.kb 0 (K.lose x.n) (.returned (.int .i64 0)) (wr.setCell ⟨I.kb, 1, none⟩ (.slice la (leftTo K.de x.n K.de.length).length lc))) := hide ⟨ρ9, _, rfl, HK9.out, rfl, HT9.out⟩
            have HKg : Hid (Kf = K.lose x.n) := hide (by rw [HKf.out, ho])
            go_wp2
            go_ret
            rw [HKg.out]
            exact HX.out
          | pipe q rd wt =>
            rw [ho] at tk'
            simp only [Ob.kind] at tk'
            have t4 : (wr.setCell ⟨I.kb, 1, none⟩ (.slice la (leftTo K.de x.n K.de.length).length lc)).cell? ⟨I.tb x.th, 4, none⟩ = some (.pointer (some ⟨I.ob x.th, 0, none⟩)) := by
              have h5 := HTh.out
              have h6 : K.th[x.th].ob = .pipe q rd wt := by rw [← KS.tho_eq hthl]; exact ho
              refine (cell_of_row _ _ 4 _ _ _ h5).trans ?_
              show (tcells K.th[x.th] (I.ob x.th)).toArray[4]? = _
              simp [tcells, h6]
            have hOb := HOb.out
            rw [ho] at hOb
            obtain ⟨v2, hv2⟩ : ∃ v2, bits .and .i64 x.flags 2 = v2 := ⟨_, rfl⟩
            have hbt : bit x.flags 2 = !(v2 == 0) := by unfold bit; rw [show fbit x.flags 2 = v2 from hv2]
            have HOd := hide (And.intro (hOb.1.keep (W' := (wr.setCell ⟨I.kb, 1, none⟩ (.slice la (leftTo K.de x.n K.de.length).length lc)).drew) (fun _ _ _ => rfl) (Nat.le_refl _)) hOb.2)
            have HKd := hide (HK9.out.below (Below.refl _ (wr.setCell ⟨I.kb, 1, none⟩ (.slice la (leftTo K.de x.n K.de.length).length lc))).drew)
            have HBt : Hid (bit x.flags 2 = !(v2 == 0)) := hide hbt
            have hthk : ((K.lose x.n).setOb x.th (.pipe q rd wt)).th.length = K.th.length := by rw [setOb_len]; rfl
            have h6 : K.th[x.th].ob = .pipe q rd wt := by rw [← KS.tho_eq hthl]; exact ho
            have H6 := hide h6
            have HKg : Hid (Kf = (K.setOb x.th (.pipe q (leaveR (bit x.flags 2) rd wt) (leaveW (bit x.flags 2) rd wt))).lose x.n) := hide (by rw [HKf.out, ho])
            clear hOb hbt h6 hthk
            have hvc : v2 = 0 ∨ (¬ v2 = 0 ∧ (v2 == 0) = false ∧ (v2 != 0) = true) := by
              by_cases e : v2 = 0
              · exact .inl e
              · exact .inr ⟨e, by simpa using e, by simpa using e⟩
            rcases hvc with rfl | ⟨g1, g2, g3⟩
            all_goals
              go_wp2_with fail
              generalize (wr.setCell ⟨I.kb, 1, none⟩ (.slice la (leftTo K.de x.n K.de.length).length lc)) = w9 at *
              go_region_held3 (fun w' => w'.cell? ⟨I.db x.n, 1, none⟩ = some (.pointer (some ⟨I.tb x.th, 0, none⟩)) ∧ w'.cell? ⟨I.tb x.th, 4, none⟩ = some (.pointer (some ⟨I.ob x.th, 0, none⟩)) ∧ w'.cell? ⟨I.db x.n, 2, none⟩ = some (.int .i64 x.flags))
                (first | exact K5 | go_keep)
                (first
                  | (go_at_call 180; refine (ob_pleave _ _ q rd wt _ _ HOd.out.1).mono ?_; rintro _ wB ⟨rfl, hsB⟩; obtain ⟨O', hB1, hB2, hB3⟩ := hsB; have K5 : wB.cell? ⟨I.db x.n, 1, none⟩ = some (.pointer (some ⟨I.tb x.th, 0, none⟩)) ∧ wB.cell? ⟨I.tb x.th, 4, none⟩ = some (.pointer (some ⟨I.ob x.th, 0, none⟩)) ∧ wB.cell? ⟨I.db x.n, 2, none⟩ = some (.int .i64 x.flags) := ⟨hB3.cell q1 HNt.out.1, hB3.cell t4 HNt.out.2, hB3.cell q3 HNt.out.1⟩)
                  | fail)
              obtain ⟨ρ7, hK7, -, hT7⟩ := HKd.out.setOb (i := x.th) hthl ⟨O', hB1, hB2, hB3⟩ (by show _ = K.th[x.th].ob.kind; rw [H6.out]; rfl) (leave_ok2 HOd.out.2)
              have HX : Hid (RKErr w B I.kb 0 ((K.setOb x.th (.pipe q (leaveR (bit x.flags 2) rd wt) (leaveW (bit x.flags 2) rd wt))).lose x.n) (.returned (.int .i64 0)) wB) := hide (by
                rw [HBt.out]
                first
                  | exact ⟨ρ7, _, rfl, hK7, rfl, HT9.out.trans ((Turned.of_below (S := B) (Below.refl _ w9).drew).trans hT7 (fun _ _ e => e)) (fun _ _ e => e)⟩
                  | (rw [g2]; exact ⟨ρ7, _, rfl, hK7, rfl, HT9.out.trans ((Turned.of_below (S := B) (Below.refl _ w9).drew).trans hT7 (fun _ _ e => e)) (fun _ _ e => e)⟩))
              clear hK7 hT7 hB1 hB2 hB3 K5
              go_wp2
              go_ret
              rw [HKg.out]
              exact HX.out
end Go.Proofs.YtejcfhjhjplcnaaGreat

/- The page's kernel of a setup. -/
namespace Go.Proofs.YtejcfhjhjplcnaaGreat
open Go.RowKit

set_option maxRecDepth 100000 in
set_option maxHeartbeats 4000000 in
theorem page_any (a1 a2 a3 : Option Addr) (c1 c2 c3 : Nat) (fs : List Nm) (ts : List Tp) (l : List Fault) (w : World) (h1 : Nms w (.slice a1 fs.length c1) fs) (h2 : Tps w (.slice a2 ts.length c2) ts) (h3 : Flts w (.slice a3 l.length c3) l)
    (z1 : fs.length * 40 ≤ 140737488351232) (z2 : ts.length * 40 ≤ 140737488351232 ∧ ∀ j (hj : j < ts.length), ts[j].2.length * 24 ≤ 140737488351232) (z3 : l.length * 16 ≤ 140737488351232) :
    Calls Tryz.prog 10 #[.agg #[.slice a1 fs.length c1, .slice a2 ts.length c2, .slice a3 l.length c3]] w fun e w' => Below w.heap.size w w' ∧ ((checkE fs ts l ≠ 0 ∧ e = .returned (.pointer none)) ∨ (checkE fs ts l = 0 ∧ ∃ (B : Nat → Prop) (ρ : Nat → Option Tag) (I : RI), (∀ k, B k → w.heap.size ≤ k) ∧ e = .returned (.pointer (some ⟨I.kb, 0, none⟩)) ∧ RK w' B ρ I (KS.new fs ts l))) := by
  have hB0 := recv_below w (Obj.cells #[.slice a1 fs.length c1, .slice a2 ts.length c2, .slice a3 l.length c3] 26)
  obtain ⟨cc0, cc1, cc2⟩ := trio_cells w (.slice a1 fs.length c1) (.slice a2 ts.length c2) (.slice a3 l.length c3) 26
  have hlt0 : w.heap.size < (w.alloc (Obj.cells #[.slice a1 fs.length c1, .slice a2 ts.length c2, .slice a3 l.length c3] 26)).heap.size := size_new _ _
  have HCk := hide (rkcheck_any _ _ _ fs ts l _ (h1.below hB0) (h2.below hB0) (h3.below hB0) z1 z2.1 z2.2 (by unfold maxLen; omega))
  have H1 := hide (h1.below hB0)
  have H2 := hide (h2.below hB0)
  have H3 := hide (h3.below hB0)
  have HB0 := hide hB0
  clear h1 h2 h3 hB0
  go_enter Tryz.func10, Tryz.ntmps10
  go_wp2_with fail
  generalize w.alloc (Obj.cells #[.slice a1 fs.length c1, .slice a2 ts.length c2, .slice a3 l.length c3] 26) = wa at *
  refine HCk.out.mono ?_
  rintro _ w1 ⟨rfl, hB1⟩
  have hBw1 : Below w.heap.size w w1 := HB0.out.trans (hB1.mono HB0.out.size)
  have d0 := (hB1.cell (p := ⟨w.heap.size, 0, none⟩) hlt0).trans cc0
  have d1 := (hB1.cell (p := ⟨w.heap.size, 1, none⟩) hlt0).trans cc1
  have d2 := (hB1.cell (p := ⟨w.heap.size, 2, none⟩) hlt0).trans cc2
  have hlt1 : w.heap.size < w1.heap.size := Nat.lt_of_lt_of_le hlt0 hB1.size
  have HN1 := hide (H1.out.below hB1)
  have HN2 := hide (H2.out.below hB1)
  have HN3 := hide (H3.out.below hB1)
  obtain ⟨E, hE⟩ : ∃ E, E = checkE fs ts l := ⟨_, rfl⟩
  have HE := hide hE
  rw [← hE]
  clear hE cc0 cc1 cc2 hB1
  by_cases e0 : E = 0
  case neg =>
    have e1 : (E == 0) = false := by simpa using e0
    have e2 : (E != 0) = true := by simpa using e0
    have HX : Hid (Below w.heap.size w w1 ∧ checkE fs ts l ≠ 0) := hide ⟨hBw1, by rw [← HE.out]; exact e0⟩
    clear hBw1
    go_wp2
    go_ret
    exact ⟨HX.out.1, .inl ⟨HX.out.2, rfl⟩⟩
  have hz : checkE fs ts l = 0 := by rw [← HE.out]; exact e0
  have HZ := hide hz
  have HBw := hide hBw1
  have HCp := hide (copyf_any (.slice a3 l.length c3) l w1.drew (HN3.out.below (Below.refl _ w1).drew) z3)
  subst e0
  clear hz hBw1
  have HS : Hid (∀ w', Below w1.heap.size w1 w' → w'.cell? ⟨w.heap.size, 0, none⟩ = some (.slice a1 fs.length c1) ∧ w'.cell? ⟨w.heap.size, 1, none⟩ = some (.slice a2 ts.length c2) ∧ w'.cell? ⟨w.heap.size, 2, none⟩ = some (.slice a3 l.length c3)) := hide (fun w' hW => ⟨(hW.cell (p := ⟨w.heap.size, 0, none⟩) hlt1).trans d0, (hW.cell (p := ⟨w.heap.size, 1, none⟩) hlt1).trans d1, (hW.cell (p := ⟨w.heap.size, 2, none⟩) hlt1).trans d2⟩)
  go_wp2_with fail
  go_region_held3 (fun w' => w'.cell? ⟨w.heap.size, 0, none⟩ = some (.slice a1 fs.length c1) ∧ w'.cell? ⟨w.heap.size, 1, none⟩ = some (.slice a2 ts.length c2) ∧ w'.cell? ⟨w.heap.size, 2, none⟩ = some (.slice a3 l.length c3))
    (first | exact K3 | exact K2 | go_keep)
    (first
      | (go_at_call 52; refine HCp.out.mono ?_; rintro _ w2 ⟨v2, rfl, hown2, hB2⟩; obtain ⟨f2, g2, rfl⟩ := owns_slice hown2; have hB12 : Below w1.heap.size w1 w2 := (Below.refl _ w1).drew.trans hB2; have K2 := HS.out w2 hB12)
      | (go_at_call 60; refine (rknew_any a1 a2 f2 c1 c2 g2 fs ts l w1 w2 hB12 HN1.out HN2.out (Flts.of_owns hown2) (fun k e => (hown2.lt k e)) HZ.out).mono ?_; rintro _ w3 ⟨ρ, I, rfl, hK3, hB3⟩; have K3 := HS.out w3 hB3)
      | fail)
  have HX : Hid (Below w.heap.size w w3 ∧ w.heap.size ≤ w1.heap.size ∧ RK w3 (fun k => w1.heap.size ≤ k) ρ I (KS.new fs ts l)) := hide ⟨HBw.out.trans (hB3.mono HBw.out.size), HBw.out.size, hK3⟩
  clear hK3 hB3 hB12 hown2 hB2 K2 K3
  go_wp2
  go_ret
  exact ⟨HX.out.1, .inr ⟨HZ.out, _, ρ, I, fun k e => Nat.le_trans HX.out.2.1 e, rfl, HX.out.2.2⟩⟩
end Go.Proofs.YtejcfhjhjplcnaaGreat

/- The reference's kernel within a set of blocks: what each call leaves of it, and of all else. -/
namespace Go.Proofs.YtejcfhjhjplcnaaGreat
open Go.RowKit

def RAt (w : World) (O : Nat → Prop) (kb : Nat) (K : KS) : Prop := ∃ (B : Nat → Prop) (ρ : Nat → Option Tag) (I : RI), RK w B ρ I K ∧ I.kb = kb ∧ ∀ k t, ρ k = some t → O k
def RKStep (w : World) (O : Nat → Prop) (kb : Nat) (K' : KS) (w' : World) : Prop := ∃ O', RAt w' O' kb K' ∧ (∀ k, O' k → O k ∨ w.heap.size ≤ k) ∧ Turned O w w'
theorem RAt.keep {w w' : World} {O : Nat → Prop} {kb : Nat} {K : KS} (h : RAt w O kb K) (hk : ∀ k, O k → k < w.heap.size → w'.heap[k]? = w.heap[k]?) (hs : w.heap.size ≤ w'.heap.size) : RAt w' O kb K := by
  obtain ⟨B, ρ, I, h1, h2, h3⟩ := h
  exact ⟨B, ρ, I, ⟨fun t => (h1.comp t).keep (fun k e hlt => hk k (h3 k t e) hlt) hs, fun k t e => ⟨(h1.lt k t e).1, Nat.lt_of_lt_of_le (h1.lt k t e).2 hs⟩, h1.ok, fun k e => h1.up k (Nat.le_trans hs e)⟩, h2, h3⟩
theorem RAt.below {w w' : World} {O : Nat → Prop} {kb : Nat} {K : KS} (h : RAt w O kb K) (hB : Below w.heap.size w w') : RAt w' O kb K := h.keep (fun k _ hlt => hB.block k hlt) hB.size
theorem RAt.mono {w : World} {O O' : Nat → Prop} {kb : Nat} {K : KS} (h : RAt w O kb K) (hO : ∀ k, O k → O' k) : RAt w O' kb K := by
  obtain ⟨B, ρ, I, h1, h2, h3⟩ := h
  exact ⟨B, ρ, I, h1, h2, fun k t e => hO k (h3 k t e)⟩
theorem RK.left {w w' : World} {O : Nat → Prop} {ρ ρ' : Nat → Option Tag} {I' : RI} {K' : KS} {kb : Nat} (hO : ∀ k t, ρ k = some t → O k) (h : RK w' (fun k => (∃ t, ρ k = some t) ∨ w.heap.size ≤ k) ρ' I' K') (hk : I'.kb = kb) (hT : Turned (fun k => (∃ t, ρ k = some t) ∨ w.heap.size ≤ k) w w') : RKStep w O kb K' w' :=
  ⟨fun k => O k ∨ w.heap.size ≤ k, ⟨_, ρ', I', h, hk, fun k t e => by
    rcases (h.lt k t e).1 with ⟨t', h1⟩ | h1
    · exact .inl (hO k t' h1)
    · exact .inr h1⟩, fun _ e => e, ⟨hT.1, hT.2, hT.3, hT.4, fun k hlt hn => hT.5 k hlt (fun e => by
    rcases e with ⟨t', h1⟩ | h1
    · exact hn (hO k t' h1)
    · omega)⟩⟩
theorem RAt.read {w : World} {O : Nat → Prop} {kb : Nat} {K : KS} (h : RAt w O kb K) (d n : Int) (hr : K.reads < 9223372036854775807) :
    Calls Tryz.prog 64 #[.pointer (some ⟨kb, 0, none⟩), .int .i64 d, .int .i64 n] w fun e w' => ∃ v, e = .returned (.tuple #[v, .int .i64 (K.read d n).2.1]) ∧ Bys w' v (K.read d n).1 ∧ RKStep w O kb (K.read d n).2.2 w' := by
  obtain ⟨B, ρ, I, h1, rfl, h3⟩ := h
  refine (rkread_any _ ρ I K d n w h1.own hr).mono ?_
  rintro e w' ⟨v, ρ', I', h4, h5, h6, h7, h8⟩
  exact ⟨v, h4, h5, RK.left h3 h6 h7 h8⟩
theorem RAt.write {w : World} {O : Nat → Prop} {kb : Nat} {K : KS} (h : RAt w O kb K) (d : Int) (b : List UInt8) (a1 : Option Addr) (cx : Nat) (hr : K.writes < 9223372036854775807) (hb : Bys w (.slice a1 b.length cx) b) (hcap : b.length ≤ cx) (hap : ∀ k, (Value.slice a1 b.length cx).ownBlock = some k → k < w.heap.size ∧ ¬ O k) :
    Calls Tryz.prog 66 #[.pointer (some ⟨kb, 0, none⟩), .int .i64 d, .slice a1 b.length cx] w fun e w' => e = .returned (.tuple #[.int .i64 (K.write d b).1, .int .i64 (K.write d b).2.1]) ∧ RKStep w O kb (K.write d b).2.2 w' := by
  obtain ⟨B, ρ, I, h1, rfl, h3⟩ := h
  refine (rkwrite_any _ ρ I K d b a1 cx w h1.own hr hb hcap (fun k e e' => by
    rcases e' with ⟨t', h4⟩ | h4
    · exact (hap k e).2 (h3 k t' h4)
    · have := (hap k e).1; omega)).mono ?_
  rintro e w' ⟨ρ', I', h4, h6, h7, h8⟩
  exact ⟨h4, RK.left h3 h6 h7 h8⟩
theorem RAt.seek {w : World} {O : Nat → Prop} {kb : Nat} {K : KS} (h : RAt w O kb K) (d off wh : Int) :
    Calls Tryz.prog 68 #[.pointer (some ⟨kb, 0, none⟩), .int .i64 d, .int .i64 off, .int .i64 wh] w fun e w' => e = .returned (.tuple #[.int .i64 (K.seek d off wh).1, .int .i64 (K.seek d off wh).2.1]) ∧ RKStep w O kb (K.seek d off wh).2.2 w' := by
  obtain ⟨B, ρ, I, h1, rfl, h3⟩ := h
  refine (rkseek_any _ ρ I K d off wh w h1.own).mono ?_
  rintro e w' ⟨ρ', I', h4, h6, h7, h8⟩
  exact ⟨h4, RK.left h3 h6 h7 h8⟩
theorem RAt.open {w : World} {O : Nat → Prop} {kb : Nat} {K : KS} (h : RAt w O kb K) (s : ByteArray) (flags : Int) (hnm : KNm K) (hs : s.size ≤ maxLen) (hn1 : 1 ≤ K.next) (hn : K.next < 9223372036854775807) :
    Calls Tryz.prog 31 #[.pointer (some ⟨kb, 0, none⟩), .string s, .int .i64 flags] w fun e w' => e = .returned (.tuple #[.int .i64 (K.open s flags).1, .int .i64 (K.open s flags).2.1]) ∧ RKStep w O kb (K.open s flags).2.2 w' := by
  obtain ⟨B, ρ, I, h1, rfl, h3⟩ := h
  refine (rkopen_any _ ρ I K s flags w h1.own hnm hs hn1 hn).mono ?_
  rintro e w' ⟨ρ', I', h4, h6, h7, h8⟩
  exact ⟨h4, RK.left h3 h6 h7 h8⟩
theorem RAt.pipe {w : World} {O : Nat → Prop} {kb : Nat} {K : KS} (h : RAt w O kb K) (hn1 : 1 ≤ K.next) (hn : K.next < 9223372036854775806) :
    Calls Tryz.prog 29 #[.pointer (some ⟨kb, 0, none⟩)] w fun e w' => e = .returned (.tuple #[.int .i64 K.pipe.1, .int .i64 K.pipe.2.1, .int .i64 K.pipe.2.2.1]) ∧ RKStep w O kb K.pipe.2.2.2 w' := by
  obtain ⟨B, ρ, I, h1, rfl, h3⟩ := h
  refine (rkpipe_any _ ρ I K w h1.own hn1 hn).mono ?_
  rintro e w' ⟨ρ', I', h4, h6, h7, h8⟩
  exact ⟨h4, RK.left h3 h6 h7 h8⟩
theorem RAt.keepD {w : World} {O : Nat → Prop} {kb : Nat} {K : KS} (h : RAt w O kb K) (d : Int) :
    Calls Tryz.prog 70 #[.pointer (some ⟨kb, 0, none⟩), .int .i64 d] w fun e w' => e = .returned (.int .i64 (K.keepE d)) ∧ RKStep w O kb (K.keepK d) w' := by
  obtain ⟨B, ρ, I, h1, rfl, h3⟩ := h
  refine (rkkeep_any _ ρ I K d w h1.own).mono ?_
  rintro e w' ⟨h4, h6, h8⟩
  exact ⟨h4, RK.left h3 h6 rfl h8⟩
theorem RAt.drop {w : World} {O : Nat → Prop} {kb : Nat} {K : KS} (h : RAt w O kb K) (d : Int) :
    Calls Tryz.prog 72 #[.pointer (some ⟨kb, 0, none⟩), .int .i64 d] w fun e w' => e = .returned (.int .i64 (K.dropE d)) ∧ RKStep w O kb (K.dropK d) w' := by
  obtain ⟨B, ρ, I, h1, rfl, h3⟩ := h
  refine (rkdrop_any _ ρ I K d w h1.own).mono ?_
  rintro e w' ⟨ρ', I', h4, h6, h7, h8⟩
  exact ⟨h4, RK.left h3 h6 h7 h8⟩
theorem RAt.of_page {w w' : World} {B : Nat → Prop} {ρ : Nat → Option Tag} {I : RI} {K : KS} (hB : ∀ k, B k → w.heap.size ≤ k) (h : RK w' B ρ I K) : RAt w' (fun k => w.heap.size ≤ k) I.kb K := ⟨B, ρ, I, h, rfl, fun k t e => hB k (h.lt k t e).1⟩
theorem RAt.ok {w : World} {O : Nat → Prop} {kb : Nat} {K : KS} (h : RAt w O kb K) : KOk K := by
  obtain ⟨B, ρ, I, h1, -, -⟩ := h
  exact h1.ok
theorem RKStep.same {w : World} {O : Nat → Prop} {kb : Nat} {K : KS} (h : RAt w O kb K) : RKStep w O kb K w := ⟨O, h, fun _ e => .inl e, Turned.refl _ _⟩
theorem RKStep.other {w w' : World} {O : Nat → Prop} {kb : Nat} {K : KS} (h : RKStep w O kb K w') {k : Nat} (hk : ¬ O k) (hl : k < w.heap.size) : w'.heap[k]? = w.heap[k]? := by
  obtain ⟨O', -, -, hT⟩ := h
  exact hT.block k hl hk
end Go.Proofs.YtejcfhjhjplcnaaGreat

/- The program's kernel and the reference's, side by side. -/
namespace Go.Proofs.YtejcfhjhjplcnaaGreat
open Go.RowKit

theorem RAt.trim {w : World} {O : Nat → Prop} {kb : Nat} {K : KS} (h : RAt w O kb K) : RAt w (fun k => O k ∧ k < w.heap.size) kb K := by
  obtain ⟨B, ρ, I, h1, h2, h3⟩ := h
  exact ⟨B, ρ, I, h1, h2, fun k t e => ⟨h3 k t e, (h1.lt k t e).2⟩⟩
def Duo (W : World) (B kb mb : Nat) (K M : KS) : Prop := ∃ O P, KAt W O kb K ∧ RAt W P mb M ∧ (∀ j, O j → B ≤ j ∧ j < W.heap.size ∧ ¬ P j) ∧ ∀ j, P j → B ≤ j ∧ j < W.heap.size
theorem Duo.below {W W' : World} {B kb mb : Nat} {K M : KS} (h : Duo W B kb mb K M) (hB : Below W.heap.size W W') : Duo W' B kb mb K M := by
  obtain ⟨O, P, h1, h2, h3, h4⟩ := h
  exact ⟨O, P, h1.below hB, h2.below hB, fun j e => ⟨(h3 j e).1, Nat.lt_of_lt_of_le (h3 j e).2.1 hB.size, (h3 j e).2.2⟩, fun j e => ⟨(h4 j e).1, Nat.lt_of_lt_of_le (h4 j e).2 hB.size⟩⟩
theorem Duo.both {wr : World} {B kb mb : Nat} {K M : KS} (h : Duo wr B kb mb K M) (hB : B ≤ wr.heap.size) :
    ∃ O P, KAt wr O kb K ∧ RAt wr P mb M ∧ (∀ j, O j → B ≤ j ∧ j < wr.heap.size) ∧ (∀ j, P j → B ≤ j ∧ j < wr.heap.size) ∧
      ∀ wb, Below wr.heap.size wr wb → ∀ K' w5, KStep wb O kb K' w5 → ∀ w6, Below w5.heap.size w5 w6 → RAt w6 P mb M ∧ ∀ M' w7, RKStep w6 P mb M' w7 → Duo w7 B kb mb K' M' ∧ Below B wr w7 := by
  obtain ⟨O, P, h1, h2, h3, h4⟩ := h
  refine ⟨O, P, h1, h2, fun j e => ⟨(h3 j e).1, (h3 j e).2.1⟩, h4, fun wb hb K' w5 hS w6 h56 => ?_⟩
  obtain ⟨O', g1, g2, g3⟩ := hS
  have hsb := hb.size
  have hm : RAt w6 P mb M := ((h2.below hb).keep (fun j e hl => g3.block j hl (fun e' => (h3 j e').2.2 e)) g3.size).below h56
  refine ⟨hm, fun M' w7 hS7 => ?_⟩
  obtain ⟨P', f1, f2, f3⟩ := hS7
  have hz5 := g3.size
  have hz6 := h56.size
  have hz7 := f3.size
  have g1' := g1.trim.below h56
  refine ⟨⟨fun k => O' k ∧ k < w5.heap.size, fun k => P' k ∧ k < w7.heap.size, g1'.keep (fun j e hl => f3.block j hl (fun e' => ?_)) hz7, f1.trim, fun j e => ⟨?_, by have := e.2; omega, fun e' => ?_⟩, fun j e => ⟨?_, e.2⟩⟩, (hb.mono hB).trans ((g3.below (fun j e => (h3 j e).1) (Nat.le_trans hB hsb)).trans ((h56.mono (by omega)).trans (f3.below (fun j e => (h4 j e).1) (by omega))))⟩
  · rcases g2 j e.1 with e1 | e1
    · exact (h3 j e1).2.2 e'
    · have := (h4 j e').2; omega
  · rcases g2 j e.1 with e1 | e1
    · exact (h3 j e1).1
    · omega
  · rcases f2 j e'.1 with e2 | e2
    · rcases g2 j e.1 with e1 | e1
      · exact (h3 j e1).2.2 e2
      · have := (h4 j e2).2; omega
    · have := e.2; omega
  · rcases f2 j e.1 with e2 | e2
    · exact (h4 j e2).1
    · omega
end Go.Proofs.YtejcfhjhjplcnaaGreat

/- What the kernel's Read and Write tell, as values: at most what was asked, and nothing beside an error. -/
namespace Go.Proofs.YtejcfhjhjplcnaaGreat
open Go.RowKit Go.Maps

end Go.Proofs.YtejcfhjhjplcnaaGreat

/- KernPlays: a call by both. -/
namespace Go.Proofs.YtejcfhjhjplcnaaGreat
open Go.RowKit Go.Maps

def KSmall (K : KS) : Prop := 1 ≤ K.next ∧ K.next < 9223372036854775000 ∧ K.reads < 9223372036854775000 ∧ K.writes < 9223372036854775000
def KS.does (K : KS) (x : KSt) : KS :=
  if x.what = 0 then (K.open x.name x.a).2.2 else if x.what = 1 then K.pipe.2.2.2 else if x.what = 2 then (K.read x.a x.b).2.2 else if x.what = 3 then (K.write x.a x.data).2.2
  else if x.what = 4 then (K.seek x.a x.b x.c).2.2 else if x.what = 5 then K.keepK x.a else K.dropK x.a
theorem drew_cell {w : World} {p : Addr} {v : Value} (h : w.cell? p = some v) : w.drew.cell? p = some v := h
end Go.Proofs.YtejcfhjhjplcnaaGreat

/- KernPlays: Read and Write by both. -/
namespace Go.Proofs.YtejcfhjhjplcnaaGreat
open Go.RowKit Go.Maps

theorem rkwrite_any0 (B : Nat → Prop) (ρ : Nat → Option Tag) (I : RI) (K : KS) (d : Int) (b : List UInt8) (a1 : Option Addr) (cx : Nat) (w : World) (h : RK w B ρ I K) (hr : K.writes < 9223372036854775807) (hb : Bys w (.slice a1 b.length cx) b) (hcap : b.length ≤ cx) (hap : 0 < b.length → ∀ k, (Value.slice a1 b.length cx).ownBlock = some k → ¬ B k) :
    Calls Tryz.prog 66 #[.pointer (some ⟨I.kb, 0, none⟩), .int .i64 d, .slice a1 b.length cx] w (RKNum w B I.kb (K.write d b)) := by
  cases hx : K.find d with
  | none => exact rkwrite_head B ρ I K d b a1 cx w h (.inl hx)
  | some x =>
    by_cases hh : fbit x.flags 2 = 0 ∨ 1048576 < b.length ∨ b.length = 0
    · exact rkwrite_head B ρ I K d b a1 cx w h (.inr ⟨x, hx, hh⟩)
    · have h1 : fbit x.flags 2 ≠ 0 := fun e => hh (.inl e)
      have h2 : ¬ 1048576 < b.length := fun e => hh (.inr (.inl e))
      have h3 : ¬ b.length = 0 := fun e => hh (.inr (.inr e))
      exact rkwrite_any B ρ I K d b a1 cx w h hr hb hcap (hap (by omega))
theorem RAt.write0 {w : World} {O : Nat → Prop} {kb : Nat} {K : KS} (h : RAt w O kb K) (d : Int) (b : List UInt8) (a1 : Option Addr) (cx : Nat) (hr : K.writes < 9223372036854775807) (hb : Bys w (.slice a1 b.length cx) b) (hcap : b.length ≤ cx) (hap : 0 < b.length → ∀ k, (Value.slice a1 b.length cx).ownBlock = some k → k < w.heap.size ∧ ¬ O k) :
    Calls Tryz.prog 66 #[.pointer (some ⟨kb, 0, none⟩), .int .i64 d, .slice a1 b.length cx] w fun e w' => e = .returned (.tuple #[.int .i64 (K.write d b).1, .int .i64 (K.write d b).2.1]) ∧ RKStep w O kb (K.write d b).2.2 w' := by
  obtain ⟨B, ρ, I, h1, rfl, h3⟩ := h
  refine (rkwrite_any0 _ ρ I K d b a1 cx w h1.own hr hb hcap (fun h0 k e e' => by
    rcases e' with ⟨t', h4⟩ | h4
    · exact (hap h0 k e).2 (h3 k t' h4)
    · have := (hap h0 k e).1; omega)).mono ?_
  rintro e w' ⟨ρ', I', h4, h6, h7, h8⟩
  exact ⟨h4, RK.left h3 h6 h7 h8⟩
theorem RKStep.turned {w w' : World} {O : Nat → Prop} {kb : Nat} {K : KS} (h : RKStep w O kb K w') : Turned O w w' := by
  obtain ⟨_, _, _, hT⟩ := h
  exact hT
end Go.Proofs.YtejcfhjhjplcnaaGreat
