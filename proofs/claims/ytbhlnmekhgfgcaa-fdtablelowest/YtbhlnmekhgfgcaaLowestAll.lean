/- FdtableLowest answers true for all numbers, within the reach of a machine's memory: whatever was opened and closed, a new descriptor is the lowest one that was free. -/
import Derived.Test.YtbhlnmekhgfgcaaKM10
import Derived.ProofKit
import Derived.OpenShut
import Derived.ShutString
import Derived.ChangeOld
import Derived.Below
import Derived.SizedLaws
/- FdtableLowest: the kernel's states, and the descriptors, as values. -/
namespace Go.Proofs.Ytbhlnmekhgfgcaa
open Go.RowKit Go.Maps

theorem nodup_few {α : Type} [DecidableEq α] : ∀ (l m : List α), l.Nodup → (∀ x ∈ l, x ∈ m) → l.length ≤ m.length
  | [], _, _, _ => Nat.zero_le _
  | a :: r, m, hn, hs => by
    have ha := hs a (by simp)
    have hn' := List.nodup_cons.1 hn
    have := nodup_few r (m.erase a) hn'.2 (fun x hx => (List.mem_erase_of_ne (fun e => hn'.1 (by rw [← e]; exact hx))).2 (hs x (by simp [hx])))
    rw [List.length_erase_of_mem ha] at this
    have := List.length_pos_of_mem ha
    simp only [List.length_cons]
    omega
theorem frees_low {ds : Nat → Int} {x : Nat} (hx : x < 64) (h0 : ds x = 0) (h : ∀ j, j < x → ds j ≠ 0) : (frees ds 64).head? = some x := by
  have e : frees ds x = [] := by
    unfold frees
    rw [List.filter_eq_nil_iff]
    intro a ha
    simpa using h a (List.mem_range.1 ha)
  obtain ⟨r, hr⟩ := frees_prefix ds (show x + 1 ≤ 64 by omega)
  rw [← hr, frees_succ, e, if_pos h0]
  rfl
theorem frees_none {ds : Nat → Int} (h : ∀ j, j < 64 → ds j ≠ 0) : frees ds 64 = [] := by
  unfold frees
  rw [List.filter_eq_nil_iff]
  intro a ha
  simpa using h a (List.mem_range.1 ha)
theorem low_is {S : TS} {x : Nat} (h : S.low = some x) : x < 64 ∧ S.ds x = 0 := by
  unfold TS.low at h
  have : x ∈ frees S.ds 64 := List.mem_of_mem_head? h
  unfold frees at this
  have := List.mem_filter.1 this
  exact ⟨List.mem_range.1 this.1, by simpa using this.2⟩
/-- One file, empty, and descriptions of it. -/
def KLo (de : List De) (n : Nat) : KS := ⟨[⟨nmF, .file []⟩], [0], de, n, [], 0, 0⟩
theorem lo_new : KS.new [(nmF, [])] [] [] = KLo [] 1 := rfl
theorem lo_open (de : List De) (n : Nat) (h : de.length < 256) : (KLo de n).open nmF 1 = ((n : Int), 0, KLo (de ++ [⟨n, 0, 1, 0, 1⟩]) (n + 1)) := by
  unfold KS.open
  rw [if_neg (by rw [show nameOk nmF = true from rfl]; decide), if_neg (by rw [show flagsOk 1 = true from rfl]; decide), if_neg (by show ¬ 256 ≤ de.length; omega)]
  rfl
structure LoI (ds : Nat → Int) (de : List De) (n : Nat) : Prop where
  nd : (de.map fun x => (x.n : Int)).Nodup
  on : ∀ x ∈ de, x.held = 1 ∧ ∃ i, i < 64 ∧ ds i = x.n
  lt : ∀ x ∈ de, 1 ≤ x.n ∧ x.n < n
  one : 1 ≤ n
theorem LoI.few {ds : Nat → Int} {de : List De} {n : Nat} (h : LoI ds de n) : de.length ≤ 64 := by
  have := nodup_few _ ((List.range 64).map ds) h.nd (fun y hy => by
    obtain ⟨x, hx, rfl⟩ := List.mem_map.1 hy
    obtain ⟨_, i, hi, e⟩ := h.on x hx
    exact List.mem_map.2 ⟨i, List.mem_range.2 hi, e⟩)
  simpa using this
theorem LoI.open {ds : Nat → Int} {de : List De} {n x : Nat} (h : LoI ds de n) (hx : x < 64) (h0 : ds x = 0) : LoI (tset ds x n) (de ++ [⟨n, 0, 1, 0, 1⟩]) (n + 1) := by
  refine ⟨?_, fun y hy => ?_, fun y hy => ?_, by omega⟩
  · rw [List.map_append, List.nodup_append]
    refine ⟨h.nd, by simp, fun a ha b hb => ?_⟩
    obtain ⟨y, hy, rfl⟩ := List.mem_map.1 ha
    have := (h.lt y hy).2
    simp only [List.map_cons, List.map_nil, List.mem_singleton] at hb
    omega
  · rcases List.mem_append.1 hy with hy | hy
    · obtain ⟨a, i, hi, e⟩ := h.on y hy
      have := (h.lt y hy).1
      exact ⟨a, i, hi, by rw [tset_other _ _ (fun e' => by subst e'; omega)]; exact e⟩
    · simp only [List.mem_singleton] at hy
      subst hy
      exact ⟨rfl, x, hx, tset_same _ _ _⟩
  · rcases List.mem_append.1 hy with hy | hy
    · have := h.lt y hy
      omega
    · simp only [List.mem_singleton] at hy
      subst hy
      exact ⟨h.one, Nat.lt_succ_self _⟩
theorem lo_tho (de : List De) (n : Nat) (x : De) : (KLo de n).tho x = .file [] := by
  unfold KS.tho KLo
  rcases x with ⟨a, b, c, d, e⟩
  cases b <;> rfl
theorem LoI.drop {ds : Nat → Int} {de : List De} {n i : Nat} (h : LoI ds de n) (_hi : i < 64) : ∃ de', (KLo de n).dropK (ds i) = KLo de' n ∧ LoI (tset ds i 0) de' n := by
  have hsub : ∀ de', (∀ x ∈ de', x ∈ de ∧ (x.n : Int) ≠ ds i) → (de'.map fun x => (x.n : Int)).Nodup → LoI (tset ds i 0) de' n := fun de' hd hn =>
    ⟨hn, fun x hx => by
      obtain ⟨a, j, hj, e⟩ := h.on x (hd x hx).1
      exact ⟨a, j, hj, by rw [tset_other _ _ (fun e' => (hd x hx).2 (by rw [← e', e]))]; exact e⟩, fun x hx => h.lt x (hd x hx).1, h.one⟩
  unfold KS.dropK
  cases hf : (KLo de n).find (ds i) with
  | none =>
    refine ⟨de, rfl, hsub de (fun x hx => ⟨hx, ?_⟩) h.nd⟩
    have := List.find?_eq_none.1 hf x hx
    simpa using this
  | some x =>
    obtain ⟨hx, hn⟩ := KS.find_some hf
    have h1 := (h.on x hx).1
    refine ⟨de.filter fun y => decide (y.n ≠ x.n), ?_, hsub _ (fun y hy => ?_) ?_⟩
    · simp only
      rw [if_neg (by omega), lo_tho]
      rfl
    · have := List.mem_filter.1 hy
      refine ⟨this.1, fun e => ?_⟩
      have h2 : y.n ≠ x.n := by simpa using this.2
      omega
    · exact h.nd.sublist (List.filter_sublist.map _)
end Go.Proofs.Ytbhlnmekhgfgcaa

/- FdtableLowest, walked. -/
namespace Go.Proofs.Ytbhlnmekhgfgcaa
open Go.RowKit Go.Maps

/-- Which descriptors are in use, as the law keeps it. -/
def Us (W : World) (u : Nat) (us : Nat → Bool) : Prop := (∃ cur : List Value, W.heap[u]? = some (.cells cur.toArray 39 (0, 0))) ∧ ∀ i, i < 64 → W.cell? ⟨u, i, none⟩ = some (.bool (us i))
theorem Us.keep {W W' : World} {u : Nat} {us : Nat → Bool} (h : Us W u us) (hB : W'.heap[u]? = W.heap[u]?) : Us W' u us := ⟨by rw [hB]; exact h.1, fun i hi => (tcell_same hB).trans (h.2 i hi)⟩
theorem Us.soft {W : World} {u : Nat} {us : Nat → Bool} (h : Us W u us) (j : Nat) : W.frozen? ⟨u, j, none⟩ = false := by
  obtain ⟨cur, e⟩ := h.1
  exact frozen_of_row W u j _ _ e
theorem Us.lt {W : World} {u : Nat} {us : Nat → Bool} (h : Us W u us) : u < W.heap.size := World.block_lt_of_cell? W _ (h.2 0 (by decide))
theorem Us.set {W : World} {u : Nat} {us : Nat → Bool} (h : Us W u us) {i : Nat} (hi : i < 64) (b : Bool) : Us (W.setCell ⟨u, i, none⟩ (.bool b)) u (tset us i b) := by
  obtain ⟨⟨cur, e⟩, h2⟩ := h
  refine ⟨⟨_, heap_setCell_same _ _ e⟩, fun j hj => ?_⟩
  by_cases hji : j = i
  · subst hji
    rw [toff_same (h2 j hj), tset_same]
  · rw [toff_other (fun e => hji e.symm), tset_other _ _ hji]; exact h2 j hj
theorem us_new (w : World) : Us (w.alloc (.cells (List.replicate 64 (.bool false)).toArray 39 (0, 0))) w.heap.size (fun _ => false) := by
  refine ⟨⟨_, heap_alloc_new w _⟩, fun i hi => ?_⟩
  rw [cell_of_row _ _ _ _ _ _ (heap_alloc_new w _), List.getElem?_toArray, List.getElem?_replicate, if_pos hi]
/-- The descriptors in use, told. -/
def usd (ds : Nat → Int) : Nat → Bool := fun i => !(ds i == 0)
theorem usd_zero {ds : Nat → Int} {i : Nat} (h : ds i = 0) : tset (usd ds) i false = usd ds := by
  funext j
  unfold tset usd
  split
  · rename_i e; subst e; simp [h]
  · rfl
theorem usd_set (ds : Nat → Int) (i : Nat) (d : Int) (b : Bool) (hb : b = !(d == 0)) : tset (usd ds) i b = usd (tset ds i d) := by
  funext j
  unfold usd tset
  split
  · exact hb
  · rfl
/-- What the law's loop keeps. -/
structure LoS (B : Nat) (u t kb : Nat) (de : List De) (n : Nat) (ds : Nat → Int) (ms : Nat → Bool) (W : World) : Prop where
  tm : TM B (fun j => j = u) W kb (KLo de n) [⟨t, ds, ms⟩]
  li : LoI ds de n
  us : Us W u (usd ds)
  bu : B ≤ u
theorem LoS.set {B u t kb : Nat} {de : List De} {n : Nat} {ds : Nat → Int} {ms : Nat → Bool} {W : World} (h : LoS B u t kb de n ds ms W) (i : Nat) (b : Bool) : TM B (fun j => j = u) (W.setCell ⟨u, i, none⟩ (.bool b)) kb (KLo de n) [⟨t, ds, ms⟩] ∧ Below B W (W.setCell ⟨u, i, none⟩ (.bool b)) := by
  have hT : Turned (fun j => j = u) W (W.setCell ⟨u, i, none⟩ (.bool b)) := (Turned.refl (fun j => j = u) W).set (.inl rfl)
  exact ⟨h.tm.turned hT (fun k e => .inl e), hT.below (fun k e => by rw [e]; exact h.bu) h.tm.base⟩
theorem lo_close_no {de : List De} {n : Nat} {ds : Nat → Int} {ms : Nat → Bool} {m : Nat} (h : ds m = 0) : (⟨KLo de n, ds, ms⟩ : TS).close (m : Int) = (71, ⟨KLo de n, ds, ms⟩) := by
  unfold TS.close
  rw [if_neg (by unfold TS.uses; simp [h])]
theorem lo_close_yes {de : List De} {n : Nat} {ds : Nat → Int} {ms : Nat → Bool} {m : Nat} (hm : m < 64) (h : ds m ≠ 0) (hI : LoI ds de n) : ∃ de', (⟨KLo de n, ds, ms⟩ : TS).close (m : Int) = (0, ⟨KLo de' n, tset ds m 0, tset ms m false⟩) ∧ LoI (tset ds m 0) de' n := by
  obtain ⟨de', e, h'⟩ := hI.drop hm
  refine ⟨de', ?_, h'⟩
  unfold TS.close
  rw [if_pos (uses_of hm h)]
  unfold TS.release
  simp only [Int.toNat_natCast]
  rw [if_neg h, e]
theorem lo_open_none {de : List De} {n : Nat} {ds : Nat → Int} {ms : Nat → Bool} (h : ∀ j, j < 64 → ds j ≠ 0) : (⟨KLo de n, ds, ms⟩ : TS).open nmF 1 = (0, 31, ⟨KLo de n, ds, ms⟩) := by
  unfold TS.open
  rw [show (⟨KLo de n, ds, ms⟩ : TS).low = none by unfold TS.low; rw [frees_none h]; rfl]
theorem lo_open_some {de : List De} {n : Nat} {ds : Nat → Int} {ms : Nat → Bool} {x : Nat} (hx : x < 64) (h0 : ds x = 0) (h : ∀ j, j < x → ds j ≠ 0) (hI : LoI ds de n) : (⟨KLo de n, ds, ms⟩ : TS).open nmF 1 = ((x : Int), 0, ⟨KLo (de ++ [⟨n, 0, 1, 0, 1⟩]) (n + 1), tset ds x n, tset ms x false⟩) := by
  unfold TS.open
  rw [show (⟨KLo de n, ds, ms⟩ : TS).low = some x from frees_low hx h0 h]
  simp only [lo_open de n (by have := hI.few; omega), if_true]
set_option maxRecDepth 100000 in
set_option maxHeartbeats 8000000 in
theorem fdtableLowest_any (a1 : Option Addr) (n1 c1 : Nat) (acts : List Int) (w : World) (h1 : Fa_Ints w (.slice a1 n1 c1) acts) (z1 : acts.length ≤ 140737488351232) :
    Calls Try.prog 3 #[.slice a1 n1 c1] w fun e w' => e = .returned (.bool true) ∧ Below w.heap.size w w' := by
  obtain ⟨a1', c1', he1, hac⟩ := h1
  obtain ⟨rfl, rfl, rfl⟩ : a1 = a1' ∧ n1 = acts.length ∧ c1 = c1' := by simpa using he1
  have HAc := hide hac
  have HAl := hide (talive_any w)
  clear he1 hac
  go_enter Try.func3, Try.ntmps3
  go_wp2_with fail
  refine HAl.out.mono ?_
  rintro e w1 ⟨rfl, hB1⟩
  have hBn := recv_below w1 (Obj.cells #[.string ⟨#[102]⟩, .slice none 0 0] 30)
  obtain ⟨p0, p1⟩ := pair_cells w1 (.string ⟨#[102]⟩) (.slice none 0 0) 30
  have hN : Nms (w1.alloc (Obj.cells #[.string ⟨#[102]⟩, .slice none 0 0] 30)) (.slice (some ⟨w1.heap.size, 0, none⟩) 1 1) [(nmF, [])] := one_named p0 p1 (.inl ⟨rfl, rfl⟩) (Nat.le_refl _) (by decide)
  have HN := hide (knew_good (some ⟨w1.heap.size, 0, none⟩) none none 1 0 0 [(nmF, [])] [] [] _ hN (no_typed _) (.inl ⟨rfl, rfl⟩) (by decide) (by decide) (by decide) (by rw [pl_check, if_neg (by decide)]))
  have HB := hide (hB1.trans (hBn.mono hB1.size))
  clear hN p0 p1 hBn hB1
  go_wp2_with fail
  refine HN.out.mono ?_
  rintro e w2 ⟨kb, rfl, hK, hB2⟩
  have HB2 := hide (HB.out.trans (hB2.mono HB.out.size))
  have HNw := hide ((TM.make (B := w.heap.size) hK (fun k e => Nat.le_trans HB.out.size e)).new)
  clear hK hB2
  go_wp2_with fail
  refine HNw.out.mono ?_
  rintro e w3 ⟨t, rfl, hM, hB3, -⟩
  have hB3w := HB2.out.trans hB3
  have hBu := recv_below w3 (.cells (List.replicate 64 (.bool false)).toArray 39 (0, 0))
  have HS0 : Hid (LoS w.heap.size w3.heap.size t kb [] 1 (fun _ => 0) (fun _ => false) (w3.alloc (.cells (List.replicate 64 (.bool false)).toArray 39 (0, 0)))) := hide ⟨hM.claim hBu _ (fun k e => .inr ⟨by omega, by rw [e]; simp⟩), ⟨List.nodup_nil, fun _ h => absurd h List.not_mem_nil, fun _ h => absurd h List.not_mem_nil, Nat.le_refl _⟩, us_new w3, hB3w.size⟩
  have HB4 : Hid (Below w.heap.size w (w3.alloc (.cells (List.replicate 64 (.bool false)).toArray 39 (0, 0)))) := hide (hB3w.trans (hBu.mono hB3w.size))
  clear hM hB3 hB3w hBu
  obtain ⟨u, hu⟩ : ∃ u, u = w3.heap.size := ⟨_, rfl⟩
  go_wp2_with (first | (go_at_call 9; refine (tnum_is _ _).mono ?_; rintro _ _ ⟨rfl, rfl⟩) | fail)
  rw [← hu]
  rw [← hu] at HS0
  clear hu
  go_loopw [7] (fun i wr => ∃ (k n : Nat) (de : List De) (ds : Nat → Int) (ms : Nat → Bool), k ≤ acts.length ∧ i = .int .i64 k ∧ n ≤ k + 1 ∧ Hid (LoS w.heap.size u t kb de n ds ms wr) ∧ Below w.heap.size w wr) (fun i _ => acts.length - (intOf i).toNat)
  case atStart => exact ⟨0, 1, [], _, _, Nat.zero_le _, rfl, Nat.le_refl _, HS0, HB4.out⟩
  case round =>
    obtain ⟨k, n, de, ds, ms, hk, rfl, hn, HS, hB⟩ := hrel
    clear HS0 HB4
    by_cases hlt : k < acts.length
    · obtain ⟨cb, off, rfl, hce⟩ := HAc.out (by omega)
      have hc0 := hce k hlt
      have hcl := World.block_lt_of_cell? w _ hc0
      have hcl' : cb < w.heap.size := hcl
      have hc1 := (hB.cell (p := ⟨cb, off + k, none⟩) hcl).trans hc0
      have hk1 : (0 : Int) ≤ (k : Int) := by omega
      have hk2 : (k : Int) < (acts.length : Int) := by omega
      generalize acts.getD k 0 = y at *
      have HB := hide hB
      clear hce hB
      by_cases hy : 0 ≤ y ∧ y < 64
      · obtain ⟨m, rfl⟩ := Int.eq_ofNat_of_zero_le hy.1
        have hy1 := hy.1
        have hy2 := hy.2
        have hm : m < 64 := by omega
        clear hy
        by_cases hd : ds m = 0
        · have HC := hide (TM.close (L1 := []) (L2 := []) HS.out.tm (m : Int) _ (lo_close_no hd))
          have hb : usd ds m = false := by simp [usd, hd]
          go_wp2_with fail
          refine HC.out.mono ?_
          rintro e w5 ⟨rfl, hM, hB5, hH⟩
          have us5 := HS.out.us.keep (hH u rfl)
          have us5d : Us w5.drew u (usd ds) := us5
          have hu5 := us5d.2 m hm
          have fu5 := us5d.soft m
          rw [hb] at hu5
          have hu5' : w5.cell? ⟨u, m, none⟩ = some (.bool false) := hu5
          have fu5' : w5.frozen? ⟨u, m, none⟩ = false := fu5
          have hBw := HB.out.trans hB5
          have hBd : Below w.heap.size w w5.drew := hBw.trans ((Below.refl _ w5).drew.mono hBw.size)
          have hc5 := (hBd.cell (p := ⟨cb, off + k, none⟩) hcl).trans hc0
          have hc5' : w5.cell? ⟨cb, off + k, none⟩ = some (.int .i64 (m : Int)) := hc5
          have HF : Hid (LoS w.heap.size u t kb de n ds ms (w5.drew.setCell ⟨u, m, none⟩ (.bool false)) ∧ Below w.heap.size w (w5.drew.setCell ⟨u, m, none⟩ (.bool false))) := hide (by
            have h5 : LoS w.heap.size u t kb de n ds ms w5.drew := ⟨hM.below ((Below.refl _ w5).drew), HS.out.li, us5d, HS.out.bu⟩
            have h6 := h5.set m false
            refine ⟨⟨h6.1, h5.li, ?_, h5.bu⟩, hBd.trans h6.2⟩
            have := us5d.set hm false
            rw [usd_zero hd] at this
            exact this)
          clear hM hB5 hH us5 us5d hBw hBd hb hc0 hc1
          have hcl9 := hcl'
          clear hcl hcl'
          go_wp2_with fail
          go_region_held3 (fun w' => w'.cell? ⟨cb, off + k, none⟩ = some (.int .i64 (m : Int)) ∧ w'.cell? ⟨u, m, none⟩ = some (.bool false))
            (first | exact ⟨hc5, hu5⟩ | go_keep)
            (first
              | (go_at_call 9; refine (tnum_is _ _).mono ?_; rintro _ _ ⟨rfl, rfl⟩)
              | fail)
          go_wp2_with fail
          go_roundw
          case rel => exact ⟨k + 1, n, de, ds, ms, by omega, by go_num, by omega, hide HF.out.1, HF.out.2⟩
          case measure => simp [intOf]; omega
        · obtain ⟨de', hcl2, hI'⟩ := lo_close_yes (ms := ms) hm hd HS.out.li
          have HC := hide (TM.close (L1 := []) (L2 := []) HS.out.tm (m : Int) _ hcl2)
          have HI' := hide hI'
          have hb : usd ds m = true := by simp [usd, hd]
          clear hcl2 hI'
          go_wp2_with fail
          refine HC.out.mono ?_
          rintro e w5 ⟨rfl, hM, hB5, hH⟩
          have us5 := HS.out.us.keep (hH u rfl)
          have us5d : Us w5.drew u (usd ds) := us5
          have hu5 := us5d.2 m hm
          have fu5 := us5d.soft m
          rw [hb] at hu5
          have hu5' : w5.cell? ⟨u, m, none⟩ = some (.bool true) := hu5
          have fu5' : w5.frozen? ⟨u, m, none⟩ = false := fu5
          have hBw := HB.out.trans hB5
          have hBd : Below w.heap.size w w5.drew := hBw.trans ((Below.refl _ w5).drew.mono hBw.size)
          have hc5 := (hBd.cell (p := ⟨cb, off + k, none⟩) hcl).trans hc0
          have hc5' : w5.cell? ⟨cb, off + k, none⟩ = some (.int .i64 (m : Int)) := hc5
          have HF : Hid (LoS w.heap.size u t kb de' n (tset ds m 0) (tset ms m false) (w5.drew.setCell ⟨u, m, none⟩ (.bool false)) ∧ Below w.heap.size w (w5.drew.setCell ⟨u, m, none⟩ (.bool false))) := hide (by
            have hT : Turned (fun j => j = u) w5.drew (w5.drew.setCell ⟨u, m, none⟩ (.bool false)) := (Turned.refl (fun j => j = u) w5.drew).set (.inl rfl)
            have hM' := hM.below ((Below.refl _ w5).drew)
            refine ⟨⟨hM'.turned hT (fun k e => .inl e), HI'.out, ?_, HS.out.bu⟩, hBd.trans (hT.below (fun k e => by rw [e]; exact HS.out.bu) hM'.base)⟩
            have := us5d.set hm false
            rw [usd_set ds m 0 false rfl] at this
            exact this)
          clear hM hB5 hH us5 us5d hBw hBd hb hc0 hc1
          have hcl9 := hcl'
          clear hcl hcl'
          go_wp2_with fail
          go_region_held3 (fun w' => w'.cell? ⟨cb, off + k, none⟩ = some (.int .i64 (m : Int)) ∧ w'.cell? ⟨u, m, none⟩ = some (.bool true))
            (first | exact ⟨hc5, hu5⟩ | go_keep)
            (first
              | (go_at_call 9; refine (tnum_is _ _).mono ?_; rintro _ _ ⟨rfl, rfl⟩)
              | fail)
          go_wp2_with fail
          go_roundw
          case rel => exact ⟨k + 1, n, de', _, _, by omega, by go_num, by omega, hide HF.out.1, HF.out.2⟩
          case measure => simp [intOf]; omega
      · generalize wr = W0 at *
        have HU := hide HS.out.us.2
        rcases (show y < 0 ∨ (0 ≤ y ∧ ¬ y < 64) by omega) with hy1 | ⟨hy1, hy2⟩
        all_goals
          clear hy
          go_wp2_with fail
          go_loopw [9] (fun i wr => ∃ x : Nat, x ≤ 64 ∧ i = .int .i64 x ∧ wr = W0 ∧ Hid (∀ j, j < x → ds j ≠ 0)) (fun i _ => 64 - (intOf i).toNat)
          case atStart => exact ⟨0, Nat.zero_le _, rfl, rfl, hide (fun j h => absurd h (Nat.not_lt_zero _))⟩
          case round =>
            obtain ⟨x, hx, rfl, rfl, HJ⟩ := hrel
            by_cases hx64 : x < 64
            · have hx1 : (0 : Int) ≤ (x : Int) := by omega
              have hx2 : (x : Int) < 64 := by omega
              have hux := HU.out x hx64
              by_cases hd : ds x = 0
              · rw [show usd ds x = false by simp [usd, hd]] at hux
                have HO := hide (TM.open (L1 := []) (L2 := []) HS.out.tm nmF 1 (by decide) (by show n < 9223372036854775807; omega) _ (lo_open_some (ms := ms) hx64 hd HJ.out HS.out.li))
                have HI' := hide (HS.out.li.open hx64 hd)
                have hx3 : ((x : Int) == 64) = false := by rw [beq_eq_false_iff_ne]; omega
                have hne : ¬ (x : Int) = 64 := by omega
                go_wp2_with fail
                refine HO.out.mono ?_
                rintro e w5 ⟨rfl, hM, hB5, hH⟩
                have us5 := HS.out.us.keep (hH u rfl)
                have hu5 := us5.2 x hx64
                have fu5 := us5.soft x
                have hBw := HB.out.trans hB5
                have HF : Hid (LoS w.heap.size u t kb (de ++ [⟨n, 0, 1, 0, 1⟩]) (n + 1) (tset ds x n) (tset ms x false) (w5.setCell ⟨u, x, none⟩ (.bool true)) ∧ Below w.heap.size w (w5.setCell ⟨u, x, none⟩ (.bool true))) := hide (by
                  have hT : Turned (fun j => j = u) w5 (w5.setCell ⟨u, x, none⟩ (.bool true)) := (Turned.refl (fun j => j = u) w5).set (.inl rfl)
                  refine ⟨⟨hM.turned hT (fun k e => .inl e), HI'.out, ?_, HS.out.bu⟩, hBw.trans (hT.below (fun k e => by rw [e]; exact HS.out.bu) hM.base)⟩
                  have := us5.set hx64 true
                  rw [usd_set ds x n true (by have := HS.out.li.one; simp; omega)] at this
                  exact this)
                clear hM hB5 hH us5 hBw hux
                generalize usd ds x = ub at *
                go_wp2_with (first | (go_at_call 9; refine (tnum_is _ _).mono ?_; rintro _ _ ⟨rfl, rfl⟩) | fail)
                go_roundw
                case rel => exact ⟨k + 1, n + 1, _, _, _, by omega, by go_num, by omega, hide HF.out.1, HF.out.2⟩
                case measure => simp [intOf]; omega
              · rw [show usd ds x = true by simp [usd, hd]] at hux
                have HJ' : Hid (∀ j, j < x + 1 → ds j ≠ 0) := hide (fun j hj => by
                  by_cases e : j = x
                  · rw [e]; exact hd
                  · exact HJ.out j (by omega))
                go_wp2_with fail
                go_roundw
                case rel => exact ⟨x + 1, by omega, by go_num, by trivial, HJ'⟩
                case measure => simp [intOf]; omega
            · obtain rfl : x = 64 := by omega
              have HO := hide (TM.open (L1 := []) (L2 := []) HS.out.tm nmF 1 (by decide) (by show n < 9223372036854775807; omega) _ (lo_open_none (ms := ms) HJ.out))
              go_wp2_with fail
              refine HO.out.mono ?_
              rintro e w5 ⟨rfl, hM, hB5, hH⟩
              have HBw := hide (HB.out.trans hB5)
              clear hM hB5 hH
              go_wp2_with (first | (go_at_call 9; refine (tnum_is _ _).mono ?_; rintro _ _ ⟨rfl, rfl⟩) | fail)
              go_ret
              exact ⟨rfl, HBw.out⟩
    · obtain rfl : k = acts.length := by omega
      go_wp2
      go_ret
      exact ⟨rfl, hB⟩
end Go.Proofs.Ytbhlnmekhgfgcaa

/- FdtableLowest answers true for all numbers, within the reach of a machine's memory: whatever was opened and closed, a new descriptor is the lowest one that was free. -/
namespace Go.Proofs.Ytbhlnmekhgfgcaa.fdtableLowest
open Go.ChangeShapes Go.WideShapes Go.ChangeAt Go.RowKit
open Go.ChangeMaps (open_string shut_string)
set_option linter.unusedVariables false

theorem own : ownKnob Try.prog.godebug = none := by kernel_rfl
theorem laidOut : laidOutB Try.prog = true := by kernel_rfl

set_option maxRecDepth 100000 in
theorem lifted (os : Os) (started : os.Started) (H : Type) (enc : TypeId × Value → H) :
    ReturnsInHanded {} Try.checked os 3 .any (Rows.fdtableLowestSpec.pre6 enc Try.prog Try.f3 Rows.fdtableLowestRow.domain false) (Rows.fdtableLowestSpec.post enc Try.prog Try.f3 false true false false) := by
  refine returnsInHanded_of_change_sized (C := Try.checked) own started (by kernel_rfl) Try.func3
    (ChangeSpec.witness6 (enc := enc) (C := Try.checked) false ⟨#[], #[.slice none 0 0], []⟩ 8 (by kernel_rfl) (by kernel_rfl) (by kernel_rfl) (by kernel_rfl)) ?_
  intro W base args ds gs before hval0 hW hcnd0 hsz0 _
  have hsz : (DataW.weightsEach Try.prog (Try.f3.params.toList ++ Rows.fdtableLowestSpec.plain.varTypes Try.prog) (ds ++ gs)).all (· ≤ reachBytes) = true := hsz0
  clear hsz0
  have hval : ∀ (j : Nat) t v, Try.f3.params[j]? = some t → args[j]? = some v → Value.okWide Try.prog W .any base t v := hval0
  have hW' := hW
  obtain ⟨p, q, hA0, hV, rfl, hfz, hnd⟩ := hW
  have hA : DataW.TrodAll enc Try.prog W 0 (fun _ => true) true Try.f3.params.toList args.toList ds p := hA0
  rw [Try.params3] at hA hval hsz
  obtain ⟨v0, vs0, d0, ds0, p0, q0, hargs, rfl, rfl, h0, r0⟩ := trodAll_cons hA
  obtain ⟨rfl, rfl, rfl⟩ := trodAll_nil r0
  obtain rfl : args = #[v0] := by cases args; simp_all
  obtain ⟨rfl, rfl⟩ := trodVars_none hV
  obtain ⟨c0, len0, cap0, rfl⟩ := okWide_slice Try.underlying22 (hval 0 22 v0 rfl rfl)
  have k0 := h0
  have lt0 : ∀ x ∈ p0, x.block < W.heap.size := by obtain ⟨m, hm⟩ := k0; exact DataW.trod_lt m _ _ _ hm
  obtain ⟨fuel0, hf0⟩ := h0
  obtain ⟨l0, y0, e0⟩ := ints_arg Try.underlying22 Try.underlying3 (by kernel_rfl) hf0
  have z0 : l0.length * 8 ≤ 140737488351232 := by
    rcases e0 with ⟨_, rfl⟩ | ⟨elems, spare, rfl, hll⟩
    · simp
    · have := sized_slice hsz (j := 0) (t := 22) (e := 3) rfl rfl Try.underlying22
      rw [show Try.prog.bytesOf 3 = 8 by kernel_rfl] at this; simp only [reachBytes] at this; omega
  clear hA0
  refine (fdtableLowest_any _ _ _ l0 W y0 (by omega)).mono fun e W' ⟨he, bel⟩ => ?_
  subst he
  exact ⟨_, rfl, _, _, _, [], _, [], hW', trodAll_mk1 (shut_bool Try.underlying4 _), (trodAll_cons_mk (Below.trod laidOut (by kernel_rfl) (of_decide_eq_true (by kernel_rfl)) k0 bel lt0) trodAll_mk0), rfl, bel.frame _, fun h => by cases h⟩

theorem over : Rows.fdtableLowestRow.holds Try.pinned (OpenSpec.ofChange Rows.fdtableLowestSpec) :=
  OpenClaim.holds_of_wide 3 Try.f3 rfl rfl rfl rfl rfl rfl rfl ⟨rfl, rfl, rfl, rfl, rfl⟩ rfl rfl rfl rfl rfl (by kernel_rfl) Try.func3 (by kernel_rfl)
    (of_decide_eq_true (by kernel_rfl)) (by unfold Func.isWrapper; first | (rw [if_pos (by decide +kernel)]; kernel_rfl) | (rw [if_neg (by decide +kernel)]; exact ⟨rfl, rfl⟩))
    (fun os started H enc _ => lifted os started H enc)
end Go.Proofs.Ytbhlnmekhgfgcaa.fdtableLowest
namespace Go.Proofs.Ytbhlnmekhgfgcaa
theorem fdtableLowest_holds : Rows.FdtableLowestSaid := fdtableLowest.over
#print axioms fdtableLowest_holds
end Go.Proofs.Ytbhlnmekhgfgcaa
