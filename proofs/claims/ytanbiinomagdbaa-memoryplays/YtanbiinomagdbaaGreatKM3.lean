/- What the proof stands on, part 3: the contracts of the program's calls that it reaches. -/
import Derived.Test.YtanbiinomagdbaaGreatKM2
import Derived.Lib.SlBytesConst
import Derived.Deep.RegionLaw
/- New, Left, Screen, Copy of a terminal. -/
namespace Go.Proofs.YtanbiinomagdbaaGreat
open Go.RowKit

def newE (ls : List (List UInt8)) : Int := if 256 < ls.length then 3 else if ls.any (fun l => decide (4096 < l.length)) = true then 5 else 0
theorem newE_long {ls : List (List UInt8)} (k : Nat) (hk : k < ls.length) (h1 : ls.length ≤ 256) (h2 : 4096 < ls[k].length) : newE ls = 5 := by
  unfold newE
  rw [if_neg (by omega), if_pos]
  rw [List.any_eq_true]
  exact ⟨_, List.getElem_mem hk, by simpa using h2⟩
theorem newE_ok {ls : List (List UInt8)} (h1 : ls.length ≤ 256) (h2 : ∀ j (hj : j < ls.length), ls[j].length ≤ 4096) : newE ls = 0 := by
  unfold newE
  rw [if_neg (by omega), if_neg]
  rw [List.any_eq_true]
  rintro ⟨l, hl, h⟩
  obtain ⟨j, hj, rfl⟩ := List.getElem_of_mem hl
  have := h2 j hj
  simp at h
  omega
theorem newE_small {ls : List (List UInt8)} (h : newE ls = 0) : ls.length ≤ 256 ∧ ∀ j (hj : j < ls.length), ls[j].length ≤ 4096 := by
  unfold newE at h
  split at h
  · cases h
  · split at h
    · cases h
    · rename_i h1 h2
      refine ⟨by omega, fun j hj => ?_⟩
      simp only [List.any_eq_true, not_exists, not_and, decide_eq_true_eq] at h2
      have := h2 _ (List.getElem_mem hj)
      omega

structure PTerm (W : World) (B t : Nat) (O : Nat → Prop) (ls : List (List UInt8)) (scr : List UInt8) : Prop where
  made : W.cell? ⟨t, 0, none⟩ = some (.bool true)
  term : ∃ la lc s, Term W B t 1 O la lc s ls scr
  few : ls.length ≤ 256
  short : ∀ j (hj : j < ls.length), ls[j].length ≤ 4096
  room : scr.length ≤ 1048576
theorem PTerm.ot {W : World} {B t : Nat} {O : Nat → Prop} {ls : List (List UInt8)} {scr : List UInt8} (h : PTerm W B t O ls scr) : O t := by
  obtain ⟨_, _, _, h⟩ := h.term
  exact h.ot
theorem PTerm.lt {W : World} {B t : Nat} {O : Nat → Prop} {ls : List (List UInt8)} {scr : List UInt8} (h : PTerm W B t O ls scr) : ∀ k, O k → B ≤ k ∧ k < W.heap.size := by
  obtain ⟨_, _, _, h⟩ := h.term
  exact h.lt
set_option maxRecDepth 100000 in
set_option maxHeartbeats 1000000 in
theorem Te_new_bad (v : Value) (ls : List (List UInt8)) (w : World) (h : Lns w v ls) (hl : newE ls ≠ 0) :
    Calls Tryz.prog 46 #[v] w fun e w' => e = .returned (.tuple #[.pointer none, .int .i64 (newE ls)]) ∧ w' = w := by
  have H0 := hide h
  obtain ⟨a1, c1, rfl⟩ := h.form
  clear h
  by_cases hc : 256 < ls.length
  · have hE : newE ls = 3 := by unfold newE; rw [if_pos hc]
    rw [hE]
    have hd : decide ((256 : Int) < (ls.length : Int)) = true := by simp; omega
    clear hE hl
    go_enter Tryz.func46, Tryz.ntmps46
    go_wp2
    all_goals first
      | (exfalso; omega)
      | (go_ret2; exact ⟨rfl, rfl⟩)
  · have hd : decide ((256 : Int) < (ls.length : Int)) = false := by simp; omega
    have HL := hide hl
    have HN : Hid (∀ k (hk : k < ls.length), 4096 < ls[k].length → newE ls = 5) := hide fun k hk h2 => newE_long k hk (by omega) h2
    have HZ : Hid ((∀ j (hj : j < ls.length), ls[j].length ≤ 4096) → newE ls = 0) := hide fun h2 => newE_ok (by omega) h2
    generalize newE ls = E at *
    clear hl
    go_enter Tryz.func46, Tryz.ntmps46
    go_wp2
    go_loopw [5, 11] (fun _ i wr => ∃ k : Nat, k ≤ ls.length ∧ i = .int .i64 k ∧ wr = w ∧ Hid (∀ j (hj : j < ls.length), j < k → ls[j].length ≤ 4096)) (fun _ i _ => ls.length - (intOf i).toNat)
    case atStart => exact ⟨0, Nat.zero_le _, rfl, rfl, fun j _ hj => by omega⟩
    case round =>
      obtain ⟨k, hk, rfl, rfl, HK⟩ := hrel
      by_cases hlt : k < ls.length
      · obtain ⟨b, off, va, vc, rfl, hcell, _⟩ := H0.out.at k hlt
        have hk1 : (0 : Int) ≤ (k : Int) := by omega
        have hk2 : (k : Int) < (ls.length : Int) := by omega
        by_cases hb : 4096 < ls[k].length
        · have HE := hide (HN.out k hlt hb)
          generalize ls[k].length = n at *
          have hd4 : decide ((4096 : Int) < (n : Int)) = true := by simp; omega
          go_wp2
          all_goals first
            | (exfalso; omega)
            | (go_ret2; exact ⟨by rw [HE.out]; rfl, rfl⟩)
        · have HK' : Hid (∀ j (hj : j < ls.length), j < k + 1 → ls[j].length ≤ 4096) := hide fun j hj hjk => by
            by_cases e : j = k
            · subst e; omega
            · exact HK.out j hj (by omega)
          generalize ls[k].length = n at *
          have hd4 : decide ((4096 : Int) < (n : Int)) = false := by simp; omega
          go_wp2
          all_goals first
            | (exfalso; omega)
            | (go_roundw
               case rel => exact ⟨k + 1, by omega, by go_num, by trivial, HK'⟩
               case measure => simp [intOf]; omega)
      · exact absurd (HZ.out fun j hj => HK.out j hj (by omega)) HL.out

theorem term_new {w w2 : World} {s : Value} {ls : List (List UInt8)} {scr : List UInt8} {cs : Array Value} {T : TypeId} (r : Nat) (hr : w.heap.size ≤ r) (hL : LRow w2 w.heap.size r 0 ls) (hlt : r < w2.heap.size) (hown : w2.ownsRow w.heap.size 5 1 s scr.length (scr.map bv)) (hsr : s.ownBlock ≠ some r) (hsl : ∀ j (hj : j < ls.length) va vc k, w2.cell? ⟨r, j, none⟩ = some (.slice va ls[j].length vc) → (Value.slice va ls[j].length vc).ownBlock = some k → s.ownBlock ≠ some k)
    (hB : Below w.heap.size w w2) (hf : ls.length ≤ 256) (hf2 : ∀ j (hj : j < ls.length), ls[j].length ≤ 4096) (hf3 : scr.length ≤ 1048576)
    (hcs : cs = #[Value.bool true, Value.slice (some ⟨r, 0, none⟩) ls.length ls.length, s]) :
    PTerm (w2.alloc (Obj.cells cs T)) w.heap.size w2.heap.size (fun k => w.heap.size ≤ k ∧ k < w2.heap.size + 1) ls scr ∧ Below w.heap.size w (w2.alloc (Obj.cells cs T)) := by
  subst hcs
  have hBa : Below w2.heap.size w2 (w2.alloc (Obj.cells #[Value.bool true, Value.slice (some ⟨r, 0, none⟩) ls.length ls.length, s] T)) := (Below.refl _ _).alloc (Nat.le_refl _) _
  have hsz := hB.size
  refine ⟨⟨?_, ⟨some ⟨r, 0, none⟩, ls.length, s, ⟨?_, ?_, ?_, ?_, Nat.le_refl _, fun k e => ?_, fun _ => ⟨r, 0, rfl, fun j hj => ?_⟩, owns_below hown hBa, fun k e => ?_, ⟨hsz, by omega⟩, fun k e => ?_⟩⟩, hf, hf2, hf3⟩, hB.alloc hB.size _⟩
  · simp only [World.cell?, heap_alloc_new]; rfl
  · simp only [World.cell?, heap_alloc_new]; rfl
  · simp only [World.cell?, heap_alloc_new]; rfl
  · simp only [World.frozen?, heap_alloc_new]; rfl
  · simp only [World.frozen?, heap_alloc_new]; rfl
  · cases e
    exact ⟨⟨hr, by dsimp only; omega⟩, by dsimp only; omega, hsr⟩
  · obtain ⟨h1, va, vc, h2, h3, h4, h5⟩ := hL j hj
    refine ⟨(hBa.frozen (p := ⟨r, 0 + j, none⟩) hlt).trans h1, va, vc, (hBa.cell (p := ⟨r, 0 + j, none⟩) hlt).trans h2, h3, h4.below hBa, fun k e => ?_⟩
    obtain ⟨q1, q2, q3⟩ := h5 k e
    exact ⟨⟨q1, by omega⟩, by omega, q2, hsl j hj va vc k (by rw [Nat.zero_add] at h2; exact h2) e⟩
  · have := hown.lt k e
    exact ⟨⟨this.1, by omega⟩, by omega⟩
  · have : (w2.alloc (Obj.cells #[Value.bool true, Value.slice (some ⟨r, 0, none⟩) ls.length ls.length, s] T)).heap.size = w2.heap.size + 1 := by simp
    rw [this]
    exact e

set_option maxRecDepth 100000 in
set_option maxHeartbeats 1000000 in
theorem Te_new_good (v : Value) (ls : List (List UInt8)) (w : World) (h : Lns w v ls) (hl : newE ls = 0) :
    Calls Tryz.prog 46 #[v] w fun e w' => ∃ t O, e = .returned (.tuple #[.pointer (some ⟨t, 0, none⟩), .int .i64 0]) ∧ PTerm w' w.heap.size t O ls [] ∧ Below w.heap.size w w' := by
  have H0 := hide h
  obtain ⟨a1, c1, rfl⟩ := h.form
  obtain ⟨hf, hf2⟩ := newE_small hl
  have HF := hide hf2
  clear h hl hf2
  have hd : decide ((256 : Int) < (ls.length : Int)) = false := by simp; omega
  go_enter Tryz.func46, Tryz.ntmps46
  go_wp2
  go_loopw [5, 11] (fun _ i wr => ∃ k : Nat, k ≤ ls.length ∧ i = .int .i64 k ∧ wr = w) (fun _ i _ => ls.length - (intOf i).toNat)
  case atStart => exact ⟨0, Nat.zero_le _, rfl, rfl⟩
  case round =>
    obtain ⟨k, hk, rfl, rfl⟩ := hrel
    by_cases hlt : k < ls.length
    · obtain ⟨b, off, va, vc, rfl, hcell, _⟩ := H0.out.at k hlt
      have hk1 : (0 : Int) ≤ (k : Int) := by omega
      have hk2 : (k : Int) < (ls.length : Int) := by omega
      have hb := HF.out k hlt
      generalize ls[k].length = n at *
      have hd4 : decide ((4096 : Int) < (n : Int)) = false := by simp; omega
      go_wp2
      all_goals first
        | (exfalso; omega)
        | (go_roundw
           case rel => exact ⟨k + 1, by omega, by go_num, by trivial⟩
           case measure => simp [intOf]; omega)
    · go_wp2_with fail
      refine (copiedLines_any _ ls _ H0.out hf HF.out).mono ?_
      rintro e w2 ⟨rfl, hL, hlt2, hB⟩
      have HL := hide hL
      clear hL
      go_wp2
      go_ret2
      obtain ⟨r1, r2⟩ := term_new (w := wr) (s := .slice none 0 0) (scr := []) (T := 218) wr.heap.size (Nat.le_refl _) HL.out hlt2 (World.ownsRow_nil _ _ _ _) (by intro e; cases e) (fun _ _ _ _ _ _ _ e => by cases e) hB hf HF.out (by simp) rfl
      exact ⟨_, _, rfl, r1, r2⟩

set_option maxRecDepth 100000 in
set_option maxHeartbeats 1000000 in
theorem screen_any (B t : Nat) (O : Nat → Prop) (ls : List (List UInt8)) (scr : List UInt8) (w : World) (h : PTerm w B t O ls scr) :
    Calls Tryz.prog 171 #[.pointer (some ⟨t, 0, none⟩)] w fun e w' => e = .returned (.slice (some ⟨w.heap.size, 0, none⟩) scr.length scr.length) ∧ w'.ownsRow w.heap.size 5 1 (.slice (some ⟨w.heap.size, 0, none⟩) scr.length scr.length) scr.length (scr.map bv) ∧ Below w.heap.size w w' := by
  have h1 := h.made
  have h0 := h.room
  obtain ⟨la, lc, s, hT⟩ := h.term
  have h2 := hT.screen
  have h3 := hide hT.scr
  obtain ⟨sa, sc, rfl⟩ := owns_slice hT.scr
  clear h hT
  go_enter Tryz.func171, Tryz.ntmps171
  go_wp2_with fail
  refine (Te_isMade_yes t w h1).mono ?_
  rintro e w1 ⟨rfl, rfl⟩
  go_wp2_with fail
  refine (Te_copied_any _ scr _ (Bys.of_owns h3.out) (by omega)).mono ?_
  rintro e w2 ⟨rfl, hown, hB⟩
  have HO := hide hown
  clear hown
  go_wp2
  go_ret
  exact ⟨rfl, HO.out, hB⟩
end Go.Proofs.YtanbiinomagdbaaGreat

/- Copy of a terminal. -/
namespace Go.Proofs.YtanbiinomagdbaaGreat
open Go.RowKit


end Go.Proofs.YtanbiinomagdbaaGreat

/- Read and Write of a terminal. -/
namespace Go.Proofs.YtanbiinomagdbaaGreat
open Go.RowKit

def restL : List (List UInt8) → Nat → List (List UInt8)
  | [], _ => []
  | l :: ls, n => if n < l.length then l.drop n :: ls else ls
def headL : List (List UInt8) → Nat → List UInt8
  | [], _ => []
  | l :: _, n => l.take n
theorem restL_few {ls : List (List UInt8)} {n : Nat} (h : ls.length ≤ 256) : (restL ls n).length ≤ 256 := by
  cases ls with
  | nil => simp [restL]
  | cons l ls =>
    simp only [List.length_cons] at h
    simp only [restL]
    split
    · simpa using h
    · omega
theorem restL_short {ls : List (List UInt8)} {n : Nat} (h : ∀ j (hj : j < ls.length), ls[j].length ≤ 4096) : ∀ j (hj : j < (restL ls n).length), (restL ls n)[j].length ≤ 4096 := by
  have h' : ∀ l ∈ ls, l.length ≤ 4096 := fun l hl => by
    obtain ⟨j, hj, rfl⟩ := List.getElem_of_mem hl
    exact h j hj
  suffices hh : ∀ l ∈ restL ls n, l.length ≤ 4096 from fun j hj => hh _ (List.getElem_mem hj)
  cases ls with
  | nil => simp [restL]
  | cons l ls =>
    intro x hx
    simp only [restL] at hx
    split at hx
    · rcases List.mem_cons.1 hx with rfl | hx
      · have := h' l (by simp)
        simp; omega
      · exact h' x (by simp [hx])
    · exact h' x (by simp [hx])

set_option maxRecDepth 100000 in
set_option maxHeartbeats 1000000 in
theorem dropFirst_any (B t : Nat) (O : Nat → Prop) (la : Option Addr) (lc : Nat) (s : Value) (l : List UInt8) (ls : List (List UInt8)) (scr : List UInt8) (w : World) (h : Term w B t 1 O la lc s (l :: ls) scr) :
    Calls Tryz.prog 286 #[.pointer (some ⟨t, 0, none⟩)] w fun e w' => e = .returned (.tuple #[]) ∧ (∃ la' lc', Term w' B t 1 O la' lc' s ls scr) ∧ Turned (fun k => k = t ∨ la.map (·.block) = some k) w w' ∧ w'.cell? ⟨t, 0, none⟩ = w.cell? ⟨t, 0, none⟩ := by
  have HT := hide h
  have h2 := h.lines
  have h3 := h.soft1
  obtain ⟨r, off, rfl, hr⟩ := h.row (by simp)
  obtain ⟨hf, va, vc, hc, -⟩ := hr 0 (by simp)
  obtain ⟨ro, rt, rs⟩ := h.lo r rfl
  have hcap := h.cap
  simp only [Nat.add_zero, List.getElem_cons_zero, List.length_cons] at hc hf h2 hcap
  clear hr h
  have q1 : (w.setCell ⟨r, off, none⟩ (.slice none 0 0)).cell? ⟨t, 1, none⟩ = some (.slice (some ⟨r, off, none⟩) (ls.length + 1) lc) := by
    rw [World.cell?_setCell_other _ _ _ _ (by simp)]; exact h2
  have q2 : (w.setCell ⟨r, off, none⟩ (.slice none 0 0)).frozen? ⟨t, 1, none⟩ = false := by
    rw [World.frozen?_setCell]; exact h3
  have HD := hide (fun la n' h5 h6 => HT.out.dropped (w1 := w.setCell ⟨r, off, none⟩ (.slice none 0 0)) (by simp [World.setCell]) rfl rfl rfl (fun k hk => Below.heap_setCell _ _ _ _ hk) (fun j => ⟨by rw [World.frozen?_setCell], by rw [World.cell?_setCell_other _ _ _ _ (by simp)]⟩) la n' h5 h6)
  have q3 : ∀ u, ((w.setCell ⟨r, off, none⟩ (.slice none 0 0)).setCell ⟨t, 1, none⟩ u).cell? ⟨t, 0, none⟩ = w.cell? ⟨t, 0, none⟩ := fun u => by
    rw [World.cell?_setCell_other _ _ _ _ (by simp), World.cell?_setCell_other _ _ _ _ (by simp)]
  have HQ3 := hide q3
  clear q3
  by_cases h1 : lc = 1
  · obtain rfl : ls = [] := List.length_eq_zero_iff.1 (by omega)
    subst h1
    simp only [List.length_nil] at *
    go_enter Tryz.func286, Tryz.ntmps286
    go_wp2
    go_end0
    obtain ⟨r1, r2⟩ := HD.out (some ⟨r, off, none⟩) 0 (.inr ⟨trivial, rfl⟩) rfl
    exact ⟨rfl, ⟨_, _, r1⟩, r2.mono fun k e => e.imp id fun e => by rw [e]; rfl, HQ3.out _⟩
  · have k1 : (1 : Int) < (lc : Int) := by omega
    have k2 : (1 : Int) ≤ (ls.length : Int) + 1 := by omega
    go_enter Tryz.func286, Tryz.ntmps286
    go_wp2
    go_end0
    obtain ⟨r1, r2⟩ := HD.out (some ⟨r, off + 1, none⟩) ls.length (.inl rfl) rfl
    exact ⟨rfl, ⟨_, _, r1⟩, r2.mono fun k e => e.imp id fun e => by rw [e]; rfl, HQ3.out _⟩

theorem take_keep {w w1 w2 : World} {O : Nat → Prop} (hT : Turned O w w1) (hB : Below w1.heap.size w1 w2) : Turned O w w2 :=
  hT.trans (Turned.of_below (S := O) hB) (fun _ _ h => h)

set_option maxRecDepth 100000 in
set_option maxHeartbeats 2000000 in
theorem Te_take_any (B t : Nat) (O : Nat → Prop) (la : Option Addr) (lc : Nat) (s : Value) (l : List UInt8) (ls : List (List UInt8)) (scr : List UInt8) (n : Nat) (w : World) (h : Term w B t 1 O la lc s (l :: ls) scr) (hl : l.length ≤ 4096) (hn1 : 1 ≤ n) (hn : n ≤ 1048576) :
    Calls Tryz.prog 287 #[.pointer (some ⟨t, 0, none⟩), .int .i64 n] w fun e w' => ∃ q, e = .returned (.slice (some ⟨q, 0, none⟩) (l.take n).length (l.take n).length) ∧ w'.ownsRow w.heap.size 5 1 (.slice (some ⟨q, 0, none⟩) (l.take n).length (l.take n).length) (l.take n).length ((l.take n).map bv) ∧ (∃ la' lc', Term w' B t 1 O la' lc' s (restL (l :: ls) n) scr) ∧ Turned O w w' ∧ w'.cell? ⟨t, 0, none⟩ = w.cell? ⟨t, 0, none⟩ := by
  have HT := hide h
  have h2 := h.lines
  have h3 := h.soft1
  have htl := h.lt t h.ot
  obtain ⟨r, off, rfl, hr⟩ := h.row (by simp)
  obtain ⟨hf, va, vc, hc, hvc, hby, hkk⟩ := hr 0 (by simp)
  obtain ⟨ro, rt, rs⟩ := h.lo r rfl
  have hcap := h.cap
  simp only [Nat.add_zero, List.getElem_cons_zero, List.length_cons] at hc hf h2 hcap hvc hby hkk
  have HBy := hide hby
  have HK := hide hkk
  clear hr h hby hkk
  by_cases hlt : n < l.length
  · obtain ⟨_, b, o, rfl, hbl, -⟩ := bys_block HBy.out (by omega)
    have hd : decide ((n : Int) < (l.length : Int)) = true := by simp; omega
    obtain ⟨hC, hTn⟩ := HT.out.cut hc hlt
    have k1 : (n : Int) < (vc : Int) := by omega
    have k2 : (n : Int) ≤ (l.length : Int) := by omega
    have k3 : ¬ vc = n := by omega
    have k4 : (n : Int) ≤ (vc : Int) := by omega
    have hby1 : Bys (w.setCell ⟨r, off, none⟩ (.slice (some ⟨b, o + n, none⟩) (l.length - n) (vc - n))) (.slice (some ⟨b, o, none⟩) n vc) (l.take n) := by
      have h5 := bys_cut HBy.out 0 n vc (by omega)
      rw [List.drop_zero, Nat.add_zero] at h5
      exact h5.keep fun k e _ => Below.heap_setCell _ _ _ _ (HK.out k e).2.2.1
    have HB1 := hide hby1
    have HC := hide hC
    have HTn := hide hTn
    have hq0 : (w.setCell ⟨r, off, none⟩ (.slice (some ⟨b, o + n, none⟩) (l.length - n) (vc - n))).cell? ⟨t, 0, none⟩ = w.cell? ⟨t, 0, none⟩ := World.cell?_of_block (w := w) (Below.heap_setCell _ _ _ _ (Ne.symm rt))
    have HQ0 := hide hq0
    have hre : restL (l :: ls) n = l.drop n :: ls := by rw [restL, if_pos hlt]
    rw [hre]
    have htk : (l.take n).length = n := by simp; omega
    have HTK := hide htk
    clear hby1 hC hTn hq0 hre htk
    go_enter Tryz.func287, Tryz.ntmps287
    go_wp2_with fail
    go_region
    go_wp2_with fail
    generalize w.setCell ⟨r, off, none⟩ (.slice (some ⟨b, o + n, none⟩) (l.length - n) (vc - n)) = w1 at *
    have hBd : Below w1.heap.size w1 w1.drew := (Below.refl _ _).drew
    refine (Te_copied_any _ (l.take n) _ (by have := HB1.out.below hBd; exact this) (by rw [HTK.out]; omega)).mono ?_
    rintro e w2 ⟨rfl, hown, hB2⟩
    have HO := hide hown
    clear hown
    go_wp2
    go_ret
    have hB12 : Below w1.heap.size w1 w2 := hBd.trans hB2
    exact ⟨w1.heap.size, by rw [List.length_take]; rfl, owns_mono HO.out HTn.out.size, ⟨_, _, HC.out.below hB12⟩, take_keep HTn.out hB12, (hB12.cell (p := ⟨t, 0, none⟩) (Nat.lt_of_lt_of_le htl.2 HTn.out.size)).trans HQ0.out⟩
  · have hd : decide ((n : Int) < (l.length : Int)) = false := by simp; omega
    have hre : restL (l :: ls) n = ls := by rw [restL, if_neg hlt]
    have htk : l.take n = l := List.take_of_length_le (by omega)
    rw [hre, htk]
    clear hre htk
    have k4 : (l.length : Int) ≤ (vc : Int) := by omega
    have k5 : (l.length : Int) ≤ (n : Int) := by omega
    have hva : (va = none ∧ l.length = 0 ∧ vc = 0) ∨ ∃ ad, va = some ad := by
      rcases HBy.out with ⟨h5, h6⟩ | ⟨a, c, h5, h6⟩ | ⟨b, o, c, h5, _⟩
      · simp only [Value.slice.injEq] at h5
        exact .inl ⟨h5.1, h5.2.1, h5.2.2⟩
      · simp only [Value.slice.injEq] at h5
        exact .inr ⟨_, h5.1⟩
      · simp only [Value.slice.injEq] at h5
        exact .inr ⟨_, h5.1⟩
    have hva' : (va = none ∧ l.length = 0 ∧ vc = 0) ∨ (∃ ad, va = some ad ∧ l.length < n) ∨ ∃ ad, va = some ad ∧ n = l.length := by
      rcases hva with h | ⟨ad, h⟩
      · exact .inl h
      · rcases Nat.lt_or_ge l.length n with h1 | h1
        · exact .inr (.inl ⟨ad, h, h1⟩)
        · exact .inr (.inr ⟨ad, h, by omega⟩)
    clear hva
    rcases hva' with ⟨rfl, hl0, rfl⟩ | ⟨ad, rfl, hcn⟩ | ⟨ad, rfl, rfl⟩
    case' inr.inr =>
      clear hd k5 hlt
      have hd : decide ((l.length : Int) < (l.length : Int)) = false := by simp
      have hd2 : ¬ l.length < l.length := by omega
    case' inl =>
      rw [hl0] at hc HBy
      obtain rfl : l = [] := List.length_eq_zero_iff.1 hl0
      clear hd k4 k5 hlt hvc hl
      have hd : decide ((n : Int) < 0) = false := by simp
      have k5 : (0 : Int) < (n : Int) := by omega
      have k6 : 0 < n := hn1
    all_goals
      go_enter Tryz.func287, Tryz.ntmps287
      go_wp2_with fail
      refine (dropFirst_any B t O _ lc s _ ls scr _ HT.out).mono ?_
      rintro e w1 ⟨rfl, hC, hT1, hq1⟩
      have HC := hide hC
      clear hC
      have HB1 := hide (HBy.out.keep (W' := w1) fun k e hk => hT1.block k hk (fun e' => by
        obtain ⟨q1, q2, q3, q4⟩ := HK.out k e
        rcases e' with e' | e'
        · exact q2 e'
        · simp only [Option.map_some, Option.some.injEq] at e'
          exact q3 e'.symm))
      have HT1 := hide (hT1.mono (S' := O) fun k e => by
        rcases e with rfl | e
        · exact HT.out.ot
        · simp only [Option.map_some, Option.some.injEq] at e
          rw [← e]; exact ro)
      clear hT1
      go_wp2_with fail
      refine (Te_copied_any _ _ _ HB1.out (by first | omega | simp)).mono ?_
      rintro e w2 ⟨rfl, hown, hB2⟩
      have HO := hide hown
      clear hown
      go_wp2
      go_ret
      obtain ⟨la', lc', hC⟩ := HC.out
      exact ⟨_, rfl, owns_mono HO.out HT1.out.size, ⟨la', lc', hC.below hB2⟩, take_keep HT1.out hB2, (hB2.cell (p := ⟨t, 0, none⟩) (Nat.lt_of_lt_of_le htl.2 HT1.out.size)).trans hq1⟩
end Go.Proofs.YtanbiinomagdbaaGreat

/- Read and Write of a terminal: what they answer, and what they leave. -/
namespace Go.Proofs.YtanbiinomagdbaaGreat
open Go.RowKit

def rOk (n : Int) : Bool := decide (1 ≤ n ∧ n ≤ 1048576)
theorem rOk_yes {n : Int} (h1 : 1 ≤ n) (h2 : n ≤ 1048576) : rOk n = true := by simp [rOk, h1, h2]
theorem rOk_no {n : Int} (h : ¬ (1 ≤ n ∧ n ≤ 1048576)) : rOk n = false := by simp only [rOk, decide_eq_false_iff_not]; exact h
def Te_rdE (n : Int) : Int := if rOk n = true then 0 else 4
def rdH (ls : List (List UInt8)) (n : Int) : List UInt8 := if rOk n = true then headL ls n.toNat else []
def rdR (ls : List (List UInt8)) (n : Int) : List (List UInt8) := if rOk n = true then restL ls n.toNat else ls

set_option maxRecDepth 100000 in
set_option maxHeartbeats 1000000 in
theorem read_bad (B t : Nat) (O : Nat → Prop) (ls : List (List UInt8)) (scr : List UInt8) (n : Int) (w : World) (h : PTerm w B t O ls scr) (hn : ¬ (1 ≤ n ∧ n ≤ 1048576)) :
    Calls Tryz.prog 284 #[.pointer (some ⟨t, 0, none⟩), .int .i64 n] w fun e w' => e = .returned (.tuple #[.slice none 0 0, .int .i64 4]) ∧ w' = w := by
  have h1 := h.made
  clear h
  by_cases hd1 : n < 1
  · have hd : decide (n < 1) = true := by simp; omega
    go_enter Tryz.func284, Tryz.ntmps284
    go_wp2_with fail
    refine (Te_isMade_yes t w h1).mono ?_
    rintro e w1 ⟨rfl, rfl⟩
    go_wp2
    go_ret2
    exact ⟨rfl, rfl⟩
  · have hd : decide (n < 1) = false := by simp; omega
    have hd2 : decide (1048576 < n) = true := by simp; omega
    go_enter Tryz.func284, Tryz.ntmps284
    go_wp2_with fail
    refine (Te_isMade_yes t w h1).mono ?_
    rintro e w1 ⟨rfl, rfl⟩
    go_wp2
    go_ret2
    exact ⟨rfl, rfl⟩

set_option maxRecDepth 100000 in
set_option maxHeartbeats 1000000 in
theorem read_good (B t : Nat) (O : Nat → Prop) (ls : List (List UInt8)) (scr : List UInt8) (n : Nat) (w : World) (h : PTerm w B t O ls scr) (hn1 : 1 ≤ n) (hn : n ≤ 1048576) :
    Calls Tryz.prog 284 #[.pointer (some ⟨t, 0, none⟩), .int .i64 n] w fun e w' => ∃ v, e = .returned (.tuple #[v, .int .i64 0]) ∧ w'.ownsRow w.heap.size 5 1 v (headL ls n).length ((headL ls n).map bv) ∧ PTerm w' B t O (restL ls n) scr ∧ Turned O w w' := by
  have h1 := h.made
  have HP := hide h
  obtain ⟨la, lc, s, hT⟩ := h.term
  have HT := hide hT
  have h2 := hT.lines
  clear h hT
  have hd : decide ((n : Int) < 1) = false := by simp; omega
  have hd2 : decide ((1048576 : Int) < (n : Int)) = false := by simp; omega
  cases ls with
  | nil =>
    simp only [List.length_nil] at h2
    go_enter Tryz.func284, Tryz.ntmps284
    go_wp2_with fail
    refine (Te_isMade_yes t w h1).mono ?_
    rintro e w1 ⟨rfl, rfl⟩
    go_wp2
    go_ret2
    exact ⟨_, rfl, World.ownsRow_nil _ _ _ _, HP.out, Turned.refl _ _⟩
  | cons l ls =>
    have hz : ((ls.length : Int) + 1 == 0) = false := by simp; omega
    have hz2 : ¬ (ls.length : Int) + 1 = 0 := by omega
    have hl := HP.out.short 0 (by simp)
    simp only [List.getElem_cons_zero] at hl
    have HTA := hide (Te_take_any B t O la lc s l ls scr n w HT.out hl hn1 hn)
    rw [show headL (l :: ls) n = l.take n from rfl]
    generalize l.take n = X at HTA ⊢
    go_enter Tryz.func284, Tryz.ntmps284
    go_wp2_with fail
    refine (Te_isMade_yes t w h1).mono ?_
    rintro e w1 ⟨rfl, rfl⟩
    go_wp2_with fail
    refine HTA.out.mono ?_
    rintro e w2 ⟨q, rfl, hown, hC, hT2, hq⟩
    have HO := hide hown
    have HC := hide hC
    clear hown hC
    go_wp2
    go_ret2
    obtain ⟨la', lc', hC⟩ := HC.out
    exact ⟨_, rfl, HO.out, ⟨hq.trans h1, ⟨la', lc', s, hC⟩, restL_few HP.out.few, restL_short HP.out.short, HP.out.room⟩, hT2⟩

theorem Te_read_any (B t : Nat) (O : Nat → Prop) (ls : List (List UInt8)) (scr : List UInt8) (n : Int) (w : World) (h : PTerm w B t O ls scr) :
    Calls Tryz.prog 284 #[.pointer (some ⟨t, 0, none⟩), .int .i64 n] w fun e w' => ∃ v, e = .returned (.tuple #[v, .int .i64 (Te_rdE n)]) ∧ w'.ownsRow w.heap.size 5 1 v (rdH ls n).length ((rdH ls n).map bv) ∧ PTerm w' B t O (rdR ls n) scr ∧ Turned O w w' := by
  by_cases hn : 1 ≤ n ∧ n ≤ 1048576
  · have hr := rOk_yes hn.1 hn.2
    rw [Te_rdE, rdH, rdR, if_pos hr, if_pos hr, if_pos hr]
    obtain ⟨m, rfl⟩ : ∃ m : Nat, n = m := ⟨n.toNat, by omega⟩
    rw [Int.toNat_natCast]
    exact read_good B t O ls scr m w h (by omega) (by omega)
  · have hr : ¬ rOk n = true := by rw [rOk_no hn]; simp
    rw [Te_rdE, rdH, rdR, if_neg hr, if_neg hr, if_neg hr]
    refine (read_bad B t O ls scr n w h hn).mono ?_
    rintro e w' ⟨rfl, rfl⟩
    exact ⟨_, rfl, World.ownsRow_nil _ _ _ _, h, Turned.refl _ _⟩

def Te_wrE (m n : Nat) : Int := if 1048576 < m + n then 31 else 0
def wrS (scr x : List UInt8) : List UInt8 := if 1048576 < scr.length + x.length then scr else scr ++ x

set_option maxRecDepth 100000 in
set_option maxHeartbeats 1000000 in
theorem Te_write_any (B t : Nat) (O : Nat → Prop) (ls : List (List UInt8)) (scr : List UInt8) (vx : Value) (x : List UInt8) (w : World) (h : PTerm w B t O ls scr) (hx : Bys w vx x) :
    Calls Tryz.prog 285 #[.pointer (some ⟨t, 0, none⟩), vx] w fun e w' => e = .returned (.int .i64 (Te_wrE scr.length x.length)) ∧ ∃ O', PTerm w' B t O' ls (wrS scr x) ∧ (∀ k, O' k → O k ∨ w.heap.size ≤ k) ∧ Turned O w w' := by
  have h1 := h.made
  have h0 := h.room
  have HP := hide h
  have hlt := h.lt t h.ot
  obtain ⟨la, lc, s, hT⟩ := h.term
  have HT := hide hT
  obtain ⟨sa, sc, rfl⟩ := owns_slice hT.scr
  have h2 := hT.screen
  have h3 := hT.soft2
  have hst := hT.st t
  have HX := hide hx
  obtain ⟨a1, c1, rfl, -⟩ := bys_form hx
  clear h hT hx
  by_cases hf : 1048576 < scr.length + x.length
  · rw [Te_wrE, wrS, if_pos hf, if_pos hf]
    have hd : decide ((1048576 : Int) - (scr.length : Int) < (x.length : Int)) = true := by simp; omega
    clear hst
    go_enter Tryz.func285, Tryz.ntmps285
    go_wp2_with fail
    refine (Te_isMade_yes t w h1).mono ?_
    rintro e w1 ⟨rfl, rfl⟩
    go_wp2
    all_goals first
      | (exfalso; omega)
      | (go_ret; exact ⟨rfl, O, HP.out, fun k e => .inl e, Turned.refl _ _⟩)
  · rw [Te_wrE, wrS, if_neg hf, if_neg hf]
    have hd : decide ((1048576 : Int) - (scr.length : Int) < (x.length : Int)) = false := by simp; omega
    obtain ⟨s', w1, hrun, HO, hg, hb⟩ := run_append_bytes w 40 B _ _ scr x HT.out.scr HX.out (by omega) (by omega)
    obtain ⟨sa', sc', rfl⟩ := owns_slice HO.out
    have hgt : w1.heap[t]? = w.heap[t]? := hg.block t hlt.2 (fun e => (hst e.symm).2 rfl)
    have q1 : w1.cell? ⟨t, 2, none⟩ = some (.slice sa scr.length sc) := (World.cell?_of_block (w := w) hgt).trans h2
    have q2 : w1.frozen? ⟨t, 2, none⟩ = false := (World.frozen?_of_block (w := w) hgt).trans h3
    obtain ⟨r1, r2⟩ := HT.out.written HO.out hg hb
    simp only [List.length_append] at r1 r2 hrun hb
    have R1 := hide r1
    have R2 := hide r2
    have HQ : Hid (∀ u, (w1.setCell ⟨t, 2, none⟩ u).cell? ⟨t, 0, none⟩ = some (.bool true)) := hide fun u => by
      rw [World.cell?_setCell_other _ _ _ _ (by simp)]
      exact (World.cell?_of_block (w := w) hgt).trans h1
    have HB := hide hb
    have HR := hide hrun
    clear r1 r2 hgt hst hg hb hrun
    go_enter Tryz.func285, Tryz.ntmps285
    go_wp2_with fail
    refine (Te_isMade_yes t w h1).mono ?_
    rintro e w1 ⟨rfl, rfl⟩
    go_wp2_with (at_builtin; refine Lib.wpList_append_run _ rfl _ _ _ _ rfl _ _ rfl rfl _ _ HR.out ?_)
    all_goals first
      | (exfalso; omega)
      | skip
    go_ret
    refine ⟨rfl, _, ⟨HQ.out _, ⟨_, _, _, R1.out⟩, HP.out.few, HP.out.short, by simp; omega⟩, fun k e => ?_, R2.out⟩
    rcases e with e | e
    · exact .inl e
    · rcases HB.out with e' | e'
      · rw [e'] at e; exact .inl (HT.out.st k e).1
      · rw [e'] at e; cases e; exact .inr (Nat.le_refl _)
theorem wrS_room {scr x : List UInt8} (h : scr.length ≤ 1048576) : (wrS scr x).length ≤ 1048576 := by
  unfold wrS
  split
  · exact h
  · simp; omega
end Go.Proofs.YtanbiinomagdbaaGreat

/- The statements' own example holds: alive answers true; terminals that no call made. -/
namespace Go.Proofs.YtanbiinomagdbaaGreat
open Go.RowKit

end Go.Proofs.YtanbiinomagdbaaGreat

/- What CopyLists and Spoil do with any lines. -/
namespace Go.Proofs.YtanbiinomagdbaaGreat
open Go.RowKit

theorem Te_owns_apart {W : World} {B B' e e' s s' n n' : Nat} {v v' : Value} {xs xs' : List Value} (h : W.ownsRow B e s v n xs) (h' : W.ownsRow B' e' s' v' n' xs') (hne : e ≠ e') (k : Nat) (h1 : v.ownBlock = some k) : v'.ownBlock ≠ some k := by
  intro h2
  rcases h.2 with ⟨rfl, _⟩ | ⟨g, cap, cur, rfl, _, h3, _⟩
  · cases h1
  · rcases h'.2 with ⟨rfl, _⟩ | ⟨g', cap', cur', rfl, _, h4, _⟩
    · cases h2
    · simp only [Value.ownBlock, Option.some.injEq] at h1 h2
      subst h1
      subst h2
      rw [h3] at h4
      cases h4
      exact hne rfl
def LCells (W : World) (B : Nat) (ls : List (List UInt8)) (xs : List Value) : Prop :=
  xs.length = ls.length ∧ (∀ j (hj : j < ls.length), ∃ v, xs[j]? = some v ∧ W.ownsRow B 5 1 v ls[j].length (ls[j].map bv)) ∧ ∀ (i j : Nat) (vi vj : Value) (k : Nat), i < j → xs[i]? = some vi → xs[j]? = some vj → vi.ownBlock = some k → vj.ownBlock ≠ some k
theorem LCells.keep {W W' : World} {B : Nat} {ls : List (List UInt8)} {xs : List Value} (h : LCells W B ls xs) (hk : ∀ j, j < ls.length → ∀ v k, xs[j]? = some v → v.ownBlock = some k → W'.heap[k]? = W.heap[k]?) : LCells W' B ls xs :=
  ⟨h.1, fun j hj => by
    obtain ⟨v, h1, h2⟩ := h.2.1 j hj
    exact ⟨v, h1, owns_keep h2 fun k e => hk j hj v k h1 e⟩, h.2.2⟩
theorem LCells.below {W W' : World} {B : Nat} {ls : List (List UInt8)} {xs : List Value} (h : LCells W B ls xs) (hB : Below W.heap.size W W') : LCells W' B ls xs :=
  h.keep fun j hj v k h1 e => by
    obtain ⟨v', h2, h3⟩ := h.2.1 j hj
    rw [h1] at h2
    cases h2
    exact hB.block k (h3.lt k e).2
theorem LCells.snoc {W : World} {B : Nat} {ls : List (List UInt8)} {xs : List Value} {k : Nat} (hk : k < ls.length) (h : LCells W B (ls.take k) xs) (u : Value) (hu : W.ownsRow B 5 1 u ls[k].length (ls[k].map bv)) (hd : ∀ (j : Nat) (v : Value) (i : Nat), xs[j]? = some v → v.ownBlock = some i → u.ownBlock ≠ some i) : LCells W B (ls.take (k + 1)) (xs ++ [u]) := by
  have hl := h.1
  rw [List.length_take, Nat.min_eq_left (by omega)] at hl
  refine ⟨by simp [hl]; omega, fun j hj => ?_, fun i j vi vj m hij h1 h2 h3 => ?_⟩
  · have hj' : j < k + 1 := by simp at hj; omega
    by_cases e : j = k
    · subst e
      refine ⟨u, by rw [List.getElem?_append_right (by omega), hl, Nat.sub_self]; rfl, by simpa using hu⟩
    · obtain ⟨v, h1, h2⟩ := h.2.1 j (by simp; omega)
      refine ⟨v, by rw [List.getElem?_append_left (by omega)]; exact h1, by simpa using h2⟩
  · have hj : j < k + 1 := by have := (List.getElem?_eq_some_iff.1 h2).1; simp [hl] at this; omega
    rw [List.getElem?_append_left (by omega)] at h1
    by_cases e : j = k
    · subst e
      rw [List.getElem?_append_right (by omega), hl, Nat.sub_self] at h2
      obtain rfl : u = vj := by simpa using h2
      exact hd i vi m h1 h3
    · rw [List.getElem?_append_left (by omega)] at h2
      exact h.2.2 i j vi vj m hij h1 h2 h3

end Go.Proofs.YtanbiinomagdbaaGreat

/- The reference's terminal: Check, New. -/
namespace Go.Proofs.YtanbiinomagdbaaGreat
open Go.RowKit

set_option maxRecDepth 100000 in
set_option maxHeartbeats 1000000 in
theorem Te_check_any (v : Value) (ls : List (List UInt8)) (w : World) (h : Lns w v ls) (hs : ls.length * 24 ≤ 140737488351232) :
    Calls Tryz.prog 50 #[v] w fun e w' => e = .returned (.int .i64 (newE ls)) ∧ w' = w := by
  have H0 := hide h
  obtain ⟨a1, c1, rfl⟩ := h.form
  clear h
  by_cases hc : 256 < ls.length
  · have hE : newE ls = 3 := by unfold newE; rw [if_pos hc]
    rw [hE]
    have hd : decide ((256 : Int) < (ls.length : Int)) = true := by simp; omega
    clear hE
    go_enter Tryz.func50, Tryz.ntmps50
    go_wp2
    all_goals first
      | (exfalso; omega)
      | (go_ret; exact ⟨rfl, rfl⟩)
  · have hd : decide ((256 : Int) < (ls.length : Int)) = false := by simp; omega
    have HN : Hid (∀ k (hk : k < ls.length), 4096 < ls[k].length → newE ls = 5) := hide fun k hk h2 => newE_long k hk (by omega) h2
    have HZ : Hid ((∀ j (hj : j < ls.length), ls[j].length ≤ 4096) → newE ls = 0) := hide fun h2 => newE_ok (by omega) h2
    generalize newE ls = E at *
    go_enter Tryz.func50, Tryz.ntmps50
    go_wp2
    go_loopw [3] (fun i wr => ∃ k : Nat, k ≤ ls.length ∧ i = .int .i64 k ∧ wr = w ∧ Hid (∀ j (hj : j < ls.length), j < k → ls[j].length ≤ 4096)) (fun i _ => ls.length - (intOf i).toNat)
    case atStart => exact ⟨0, Nat.zero_le _, rfl, rfl, fun j _ hj => by omega⟩
    case round =>
      obtain ⟨k, hk, rfl, rfl, HK⟩ := hrel
      by_cases hlt : k < ls.length
      · obtain ⟨b, off, va, vc, rfl, hcell, _⟩ := H0.out.at k hlt
        have hk1 : (0 : Int) ≤ (k : Int) := by omega
        have hk2 : (k : Int) < (ls.length : Int) := by omega
        by_cases hb : 4096 < ls[k].length
        · have HE := hide (HN.out k hlt hb)
          generalize ls[k].length = n at *
          have hd4 : decide ((4096 : Int) < (n : Int)) = true := by simp; omega
          go_wp2
          all_goals first
            | (exfalso; omega)
            | (go_ret; exact ⟨by rw [HE.out]; rfl, rfl⟩)
        · have HK' : Hid (∀ j (hj : j < ls.length), j < k + 1 → ls[j].length ≤ 4096) := hide fun j hj hjk => by
            by_cases e : j = k
            · subst e; omega
            · exact HK.out j hj (by omega)
          generalize ls[k].length = n at *
          have hd4 : decide ((4096 : Int) < (n : Int)) = false := by simp; omega
          go_wp2
          all_goals first
            | (exfalso; omega)
            | (go_roundw
               case rel => exact ⟨k + 1, by omega, by go_num, by trivial, HK'⟩
               case measure => simp [intOf]; omega)
      · have HE := hide (HZ.out fun j hj => HK.out j hj (by omega))
        go_wp2
        go_ret
        exact ⟨by rw [HE.out]; rfl, rfl⟩

theorem term_ref {W : World} {t : Nat} {a : Option Addr} {c : Nat} {ls : List (List UInt8)} {xs : List Value} (h1 : W.cell? ⟨t, 0, none⟩ = some (.slice a ls.length c)) (h2 : W.cell? ⟨t, 1, none⟩ = some (.slice none 0 0)) (h3 : W.frozen? ⟨t, 0, none⟩ = false) (h4 : W.frozen? ⟨t, 1, none⟩ = false)
    (hown : W.ownsRow (t + 1) 40 1 (.slice a ls.length c) ls.length xs) (hL : LCells W (t + 1) ls xs) : Term W t t 0 (fun k => t ≤ k ∧ k < W.heap.size) a c (.slice none 0 0) ls [] := by
  have htl := World.block_lt_of_cell? W _ h1
  refine ⟨h1, h2, h3, h4, owns_cap hown, fun k e => ?_, fun h0 => ?_, World.ownsRow_nil _ _ _ _, (fun k e => by cases e), ⟨Nat.le_refl _, htl⟩, (fun k e => e)⟩
  · have := hown.lt k e
    exact ⟨⟨by omega, this.2⟩, by omega, by intro e; cases e⟩
  · obtain ⟨r, cap, he, _, _⟩ := hown.form h0
    cases he
    refine ⟨r, 0, rfl, fun j hj => ?_⟩
    obtain ⟨v, q1, q2⟩ := hL.2.1 j hj
    obtain ⟨va, vc, rfl⟩ := owns_slice q2
    rw [Nat.zero_add]
    refine ⟨hown.frozenAt j, va, vc, (hown.cellAt j (by omega)).trans q1, owns_cap q2, Bys.of_owns q2, fun k e => ?_⟩
    have := q2.lt k e
    refine ⟨⟨by omega, this.2⟩, by omega, fun e' => ?_, by intro e; cases e⟩
    exact Te_owns_apart q2 hown (by decide) k e (by rw [e']; rfl)

set_option maxRecDepth 100000 in
set_option maxHeartbeats 4000000 in
theorem Te_rnew_good (v : Value) (ls : List (List UInt8)) (w : World) (h : Lns w v ls) (hs : ls.length * 24 ≤ 140737488351232) (hl : newE ls = 0) :
    Calls Tryz.prog 137 #[v] w fun e w' => e = .returned (.tuple #[.pointer (some ⟨w.heap.size, 0, none⟩), .int .i64 0]) ∧ (∃ a c, Term w' w.heap.size w.heap.size 0 (fun k => w.heap.size ≤ k ∧ k < w'.heap.size) a c (.slice none 0 0) ls []) ∧ Below w.heap.size w w' := by
  have HC := hide (Te_check_any v ls w h hs)
  have H0 := hide h
  obtain ⟨hfew, hshort⟩ := newE_small hl
  have HSh := hide hshort
  obtain ⟨a1, c1, rfl⟩ := h.form
  rw [hl] at HC
  clear h hshort hl
  go_enter Tryz.func137, Tryz.ntmps137
  go_wp2_with fail
  refine HC.out.mono ?_
  rintro e w1 ⟨rfl, rfl⟩
  clear HC
  go_wp2
  have hBa : Below w1.heap.size w1 (w1.alloc (Obj.cells #[.slice none 0 0, .slice none 0 0] 285)) := (Below.refl _ _).alloc (Nat.le_refl _) _
  have q1 : (w1.alloc (Obj.cells #[.slice none 0 0, .slice none 0 0] 285)).cell? ⟨w1.heap.size, 0, none⟩ = some (.slice none 0 0) := by simp only [World.cell?, heap_alloc_new]; rfl
  have q2 : (w1.alloc (Obj.cells #[.slice none 0 0, .slice none 0 0] 285)).cell? ⟨w1.heap.size, 1, none⟩ = some (.slice none 0 0) := by simp only [World.cell?, heap_alloc_new]; rfl
  have q3 : ∀ j, (w1.alloc (Obj.cells #[.slice none 0 0, .slice none 0 0] 285)).frozen? ⟨w1.heap.size, j, none⟩ = false := fun j => by simp only [World.frozen?, heap_alloc_new]; simp
  have Q1 := hide q1
  have Q2 := hide q2
  have Q3 := hide q3
  clear q1 q2 q3
  go_loopw [6, 7] (fun i _ wr => ∃ (k : Nat) (xs : List Value) (la : Option Addr) (lc : Nat), k ≤ ls.length ∧ i = .int .i64 k ∧ wr.cell? ⟨w1.heap.size, 0, none⟩ = some (.slice la k lc) ∧ Hid (wr.cell? ⟨w1.heap.size, 1, none⟩ = some (.slice none 0 0)) ∧ wr.frozen? ⟨w1.heap.size, 0, none⟩ = false ∧ Hid (wr.frozen? ⟨w1.heap.size, 1, none⟩ = false) ∧ Hid (wr.ownsRow (w1.heap.size + 1) 40 1 (.slice la k lc) k xs) ∧ Hid (LCells wr (w1.heap.size + 1) (ls.take k) xs) ∧ Below w1.heap.size w1 wr) (fun i _ _ => ls.length - (intOf i).toNat)
  case atStart => exact ⟨0, [], none, 0, Nat.zero_le _, rfl, Q1.out, Q2.out, Q3.out 0, Q3.out 1, World.ownsRow_nil _ _ _ _, ⟨rfl, (fun j hj => by simp at hj), (fun i j vi vj m _ h1 => by simp at h1)⟩, hBa⟩
  case round =>
    clear Q1 Q2 Q3 hBa
    obtain ⟨k, xs, la, lc, hk, rfl, t1, T2, t3, T4, HO, HL, hB⟩ := hrel
    by_cases hlt : k < ls.length
    · obtain ⟨b, off, va, vc, rfl, hc, hby⟩ := H0.out.at k hlt
      have hbl := World.block_lt_of_cell? w1 _ hc
      have hc' := (hB.cell (p := ⟨b, off + k, none⟩) hbl).trans hc
      have hk1 : (0 : Int) ≤ (k : Int) := by omega
      have hk2 : (k : Int) < (ls.length : Int) := by omega
      have hl4 := HSh.out k hlt
      have htw : w1.heap.size < wr.heap.size := World.block_lt_of_cell? wr _ t1
      obtain ⟨L, hL⟩ : ∃ L, L = ls[k] := ⟨_, rfl⟩
      rw [← hL] at hc' hby hl4
      have HLk := hide hL
      have hbd : Bys wr.drew (.slice va L.length vc) L := (hby.below hB).below (Below.refl _ _).drew
      obtain ⟨s1, w2, hr1, HO1, hg1, hb1⟩ := run_append_bytes wr.drew 40 wr.heap.size (.slice none 0 0) (.slice va L.length vc) [] L (World.ownsRow_nil _ _ _ _) hbd (by simp; omega) (Nat.le_refl _)
      rw [List.nil_append] at HO1
      obtain ⟨sa, sc, rfl⟩ := owns_slice HO1.out
      have hB2 : Below wr.heap.size wr w2 := (Below.refl _ wr).drew.grown hg1 (Nat.le_refl _) (fun j e => by cases e)
      have hz2 := hB2.size
      have u1 := (hB2.cell (p := ⟨w1.heap.size, 0, none⟩) htw).trans t1
      have hBb : Below w2.heap.size w2 (w2.alloc (Obj.cells #[.slice sa L.length sc] 40)) := (Below.refl _ _).alloc (Nat.le_refl _) _
      have hB2b := hB2.trans (hBb.mono hz2)
      have hcu : (w2.alloc (Obj.cells #[.slice sa L.length sc] 40)).cell? ⟨w2.heap.size, 0, none⟩ = some (.slice sa L.length sc) := by simp only [World.cell?, heap_alloc_new]; rfl
      have u2 := (hB2b.cell (p := ⟨w1.heap.size, 0, none⟩) htw).trans t1
      have HOb := hide (owns_below HO.out hB2b)
      obtain ⟨s2, w3, hr2, HO2, hg2, hb2⟩ := run_append_line (w2.alloc (Obj.cells #[.slice sa L.length sc] 40)) 48 (w1.heap.size + 1) _ k xs w2.heap.size 1 _ HOb.out hcu rfl (by omega) (by have := hB2b.size; omega)
      obtain ⟨ra, rc, rfl⟩ := owns_slice HO2.out
      have hgt : w3.heap[w1.heap.size]? = (w2.alloc (Obj.cells #[.slice sa L.length sc] 40)).heap[w1.heap.size]? := hg2.block _ (by have := hB2b.size; omega) (fun e => by have := (HOb.out.lt _ e.symm).1; omega)
      have u3 : w3.cell? ⟨w1.heap.size, 0, none⟩ = some (.slice la k lc) := (World.cell?_of_block (w := w2.alloc (Obj.cells #[.slice sa L.length sc] 40)) hgt).trans u2
      have u4 : w3.frozen? ⟨w1.heap.size, 0, none⟩ = false := (World.frozen?_of_block (w := w2.alloc (Obj.cells #[.slice sa L.length sc] 40)) hgt).trans ((hB2b.frozen (p := ⟨w1.heap.size, 0, none⟩) htw).trans t3)
      have HR1 := hide hr1
      have HR2 := hide hr2
      have hz2b := hB2b.size
      have hBw := hB.trans (hB2b.mono hB.size)
      have hO : ∀ j, j ≠ w1.heap.size → (w3.setCell ⟨w1.heap.size, 0, none⟩ (.slice ra (k + 1) rc)).heap[j]? = w3.heap[j]? := fun j hj => Below.heap_setCell _ _ _ _ hj
      have hgc := hide (World.cell?_of_block (w := w2.alloc (Obj.cells #[.slice sa L.length sc] 40)) (a := ⟨w1.heap.size, 1, none⟩) hgt)
      have hgf := hide (World.frozen?_of_block (w := w2.alloc (Obj.cells #[.slice sa L.length sc] 40)) (a := ⟨w1.heap.size, 1, none⟩) hgt)
      have G1 := hide (World.cell?_setCell_same w3 ⟨w1.heap.size, 0, none⟩ (.slice ra (k + 1) rc) u3)
      have G2 : Hid ((w3.setCell ⟨w1.heap.size, 0, none⟩ (.slice ra (k + 1) rc)).cell? ⟨w1.heap.size, 1, none⟩ = some (.slice none 0 0)) := hide (by
        rw [World.cell?_setCell_other _ _ _ _ (by simp)]
        exact hgc.out.trans ((hB2b.cell (p := ⟨w1.heap.size, 1, none⟩) htw).trans T2.out))
      have G3 : Hid ((w3.setCell ⟨w1.heap.size, 0, none⟩ (.slice ra (k + 1) rc)).frozen? ⟨w1.heap.size, 0, none⟩ = false) := hide (by rw [World.frozen?_setCell]; exact u4)
      have G4 : Hid ((w3.setCell ⟨w1.heap.size, 0, none⟩ (.slice ra (k + 1) rc)).frozen? ⟨w1.heap.size, 1, none⟩ = false) := hide (by
        rw [World.frozen?_setCell]
        exact hgf.out.trans ((hB2b.frozen (p := ⟨w1.heap.size, 1, none⟩) htw).trans T4.out))
      have G5 : Hid ((w3.setCell ⟨w1.heap.size, 0, none⟩ (.slice ra (k + 1) rc)).ownsRow (w1.heap.size + 1) 40 1 (.slice ra (k + 1) rc) (k + 1) (xs ++ [.slice sa L.length sc])) := hide (owns_keep HO2.out fun j e => hO j (by have := (HO2.out.lt j e).1; omega))
      have G6 : Hid (LCells (w3.setCell ⟨w1.heap.size, 0, none⟩ (.slice ra (k + 1) rc)) (w1.heap.size + 1) (ls.take (k + 1)) (xs ++ [.slice sa L.length sc])) := hide (by
        have hLb := HL.out.below hB2b
        have hUb := owns_below HO1.out hBb
        refine LCells.snoc hlt (hLb.keep fun j hj v i h1 e => ?_) _ ?_ (fun j v i h1 e e' => ?_)
        · obtain ⟨v', h2, h3⟩ := hLb.2.1 j hj
          rw [h1] at h2
          cases h2
          have hi := h3.lt i e
          exact (hO i (by omega)).trans (hg2.block i hi.2 (fun e' => Te_owns_apart h3 HOb.out (by decide) i e e'.symm))
        · rw [← hL]
          refine owns_mono (base := wr.heap.size) (owns_keep hUb fun i e => ?_) (by omega)
          have hi := hUb.lt i e
          exact (hO i (by omega)).trans (hg2.block i hi.2 (fun e' => Te_owns_apart hUb HOb.out (by decide) i e e'.symm))
        · obtain ⟨v', h2, h3⟩ := HL.out.2.1 j (by have := (List.getElem?_eq_some_iff.1 h1).1; have := HL.out.1; omega)
          rw [h1] at h2
          cases h2
          have := (h3.lt i e).2
          have := (HO1.out.lt i e').1
          omega)
      have G7 : Hid (Below w1.heap.size w1 (w3.setCell ⟨w1.heap.size, 0, none⟩ (.slice ra (k + 1) rc))) := hide ((hBw.grown hg2 hBw.size (fun j e => by have := (HOb.out.lt j e).1; omega)).setCell (p := ⟨w1.heap.size, 0, none⟩) (Nat.le_refl _) _)
      clear hr1 hr2 hgt hc hby hL hbd hcu hgc hgf hO hb1 hb2 hg1 hg2 HOb HO1 HO2 hBw hBb
      go_wp2_with fail
      go_region_law (first | (refine step_append_run _ (by rfl) _ _ _ _ (by rfl) _ _ (by rfl) (by rfl) _ _ HR1.out ?_) | (refine step_append_run _ (by rfl) _ _ _ _ (by rfl) _ _ (by rfl) (by rfl) _ _ HR2.out ?_))
      all_goals
        go_wp2
        go_roundw
        case rel => exact ⟨k + 1, _, ra, rc, by omega, by go_num, G1.out, G2, G3.out, G4, G5, G6, G7.out⟩
        case measure => simp [intOf]; omega
    · have hke : k = ls.length := by omega
      subst hke
      go_wp2
      go_ret2
      have hL := HL.out
      rw [List.take_length] at hL
      exact ⟨rfl, ⟨la, lc, term_ref t1 T2.out t3 T4.out HO.out hL⟩, hB⟩
end Go.Proofs.YtanbiinomagdbaaGreat

/- The reference's terminal: Read, Write. -/
namespace Go.Proofs.YtanbiinomagdbaaGreat
open Go.RowKit

set_option maxRecDepth 100000 in
set_option maxHeartbeats 1000000 in
theorem rread_bad (t : Nat) (n : Int) (w : World) (hn : ¬ (1 ≤ n ∧ n ≤ 1048576)) :
    Calls Tryz.prog 155 #[.pointer (some ⟨t, 0, none⟩), .int .i64 n] w fun e w' => e = .returned (.tuple #[.slice none 0 0, .int .i64 4]) ∧ w' = w := by
  by_cases hd1 : n < 1
  · have hd : decide (n < 1) = true := by simp; omega
    go_enter Tryz.func155, Tryz.ntmps155
    go_wp2
    go_ret2
    exact ⟨rfl, rfl⟩
  · have hd : decide (n < 1) = false := by simp; omega
    have hd2 : decide (1048576 < n) = true := by simp; omega
    go_enter Tryz.func155, Tryz.ntmps155
    go_wp2
    go_ret2
    exact ⟨rfl, rfl⟩

set_option maxRecDepth 100000 in
set_option maxHeartbeats 2000000 in
theorem rread_good (B t : Nat) (O : Nat → Prop) (la : Option Addr) (lc : Nat) (s : Value) (ls : List (List UInt8)) (scr : List UInt8) (n : Nat) (w : World) (h : Term w B t 0 O la lc s ls scr) (hn1 : 1 ≤ n) (hn : n ≤ 1048576) (hf : ls.length ≤ 256) (hsh : ∀ j (hj : j < ls.length), ls[j].length ≤ 4096) :
    Calls Tryz.prog 155 #[.pointer (some ⟨t, 0, none⟩), .int .i64 n] w fun e w' => ∃ v, e = .returned (.tuple #[v, .int .i64 0]) ∧ Bys w' v (headL ls n) ∧ (∃ la' lc', Term w' B t 0 O la' lc' s (restL ls n) scr) ∧ Turned O w w' := by
  have HT := hide h
  have h2 := h.lines
  have h3 := h.soft1
  have hd : decide ((n : Int) < 1) = false := by simp; omega
  have hd2 : decide ((1048576 : Int) < (n : Int)) = false := by simp; omega
  cases ls with
  | nil =>
    simp only [List.length_nil] at h2
    clear h
    go_enter Tryz.func155, Tryz.ntmps155
    go_wp2
    go_ret2
    exact ⟨_, rfl, .inl ⟨rfl, rfl⟩, ⟨_, _, HT.out⟩, Turned.refl _ _⟩
  | cons l ls =>
    have hz : ((ls.length : Int) + 1 == 0) = false := by simp; omega
    have hz2 : ¬ (ls.length : Int) + 1 = 0 := by omega
    have hl := hsh 0 (by simp)
    simp only [List.getElem_cons_zero] at hl
    obtain ⟨r, off, rfl, hr⟩ := h.row (by simp)
    obtain ⟨hfz, va, vc, hc, hvc, hby, hkk⟩ := hr 0 (by simp)
    obtain ⟨ro, rt, rs⟩ := h.lo r rfl
    have hcap := h.cap
    simp only [Nat.add_zero, List.getElem_cons_zero, List.length_cons] at hc hfz h2 hcap hvc hby hkk
    have HBy := hide hby
    have HK := hide hkk
    clear hr h hby hkk hsh hf
    by_cases hlt : n < l.length
    · obtain ⟨_, b, o, rfl, hbl, -⟩ := bys_block HBy.out (by omega)
      have hd3 : decide ((n : Int) < (l.length : Int)) = true := by simp; omega
      have hq : ((n : Int) == (l.length : Int)) = false := by simp; omega
      have hq2 : ¬ (n : Int) = (l.length : Int) := by omega
      have hq3 : ¬ n = l.length := by omega
      obtain ⟨hC, hTn⟩ := HT.out.cut hc hlt
      have k1 : (n : Int) < (vc : Int) := by omega
      have k2 : (n : Int) ≤ (l.length : Int) := by omega
      have k3 : ¬ vc = n := by omega
      have k4 : (n : Int) ≤ (vc : Int) := by omega
      have hby1 : Bys (w.setCell ⟨r, off, none⟩ (.slice (some ⟨b, o + n, none⟩) (l.length - n) (vc - n))) (.slice (some ⟨b, o, none⟩) n vc) (l.take n) := by
        have h5 := bys_cut HBy.out 0 n vc (by omega)
        rw [List.drop_zero, Nat.add_zero] at h5
        exact h5.keep fun k e _ => Below.heap_setCell _ _ _ _ (HK.out k e).2.2.1
      have HB1 := hide hby1
      have HC := hide hC
      have HTn := hide hTn
      rw [show restL (l :: ls) n = l.drop n :: ls by rw [restL, if_pos hlt], show headL (l :: ls) n = l.take n from rfl]
      clear hby1 hC hTn
      go_enter Tryz.func155, Tryz.ntmps155
      go_wp2_with fail
      go_region
      go_wp2
      go_ret2
      generalize w.setCell ⟨r, off, none⟩ (.slice (some ⟨b, o + n, none⟩) (l.length - n) (vc - n)) = w1 at *
      have hBd : Below w1.heap.size w1 w1.drew := (Below.refl _ _).drew
      exact ⟨_, rfl, HB1.out.below hBd, ⟨_, _, HC.out.below hBd⟩, HTn.out.trans (Turned.of_below (S := O) hBd) (fun _ _ h => h)⟩
    · have hd3 : decide ((n : Int) < (l.length : Int)) = false := by simp; omega
      rw [show restL (l :: ls) n = ls by rw [restL, if_neg hlt], show headL (l :: ls) n = l from List.take_of_length_le (by omega)]
      have k4 : (l.length : Int) ≤ (vc : Int) := by omega
      have k5 : (l.length : Int) ≤ (n : Int) := by omega
      have hva : (va = none ∧ l.length = 0 ∧ vc = 0) ∨ (∃ ad, va = some ad ∧ l.length < n) ∨ ∃ ad, va = some ad ∧ n = l.length := by
        have hva : (va = none ∧ l.length = 0 ∧ vc = 0) ∨ ∃ ad, va = some ad := by
          rcases HBy.out with ⟨h5, h6⟩ | ⟨a, c, h5, h6⟩ | ⟨b, o, c, h5, _⟩
          · simp only [Value.slice.injEq] at h5
            exact .inl ⟨h5.1, h5.2.1, h5.2.2⟩
          · simp only [Value.slice.injEq] at h5
            exact .inr ⟨_, h5.1⟩
          · simp only [Value.slice.injEq] at h5
            exact .inr ⟨_, h5.1⟩
        rcases hva with h | ⟨ad, h⟩
        · exact .inl h
        · rcases Nat.lt_or_ge l.length n with h1 | h1
          · exact .inr (.inl ⟨ad, h, h1⟩)
          · exact .inr (.inr ⟨ad, h, by omega⟩)
      have HD := hide (fun la n' h5 h6 => HT.out.dropped (w1 := w) rfl rfl rfl rfl (fun k hk => rfl) (fun j => ⟨rfl, rfl⟩) la n' h5 h6)
      have HTo : Hid (∀ W, Turned (fun k => k = t ∨ k = r) w W → Turned O w W) := hide fun W h => h.mono fun k e => by
        rcases e with rfl | rfl
        · exact HT.out.ot
        · exact ro
      have HBk : Hid (∀ u, Bys (w.setCell ⟨t, 0, none⟩ u) (.slice va l.length vc) l) := hide fun u => HBy.out.keep fun k e _ => Below.heap_setCell _ _ _ _ (HK.out k e).2.1
      clear HBy HK
      rcases hva with ⟨rfl, hl0, rfl⟩ | ⟨ad, rfl, hcn⟩ | ⟨ad, rfl, rfl⟩
      case' inr.inr =>
        clear hd3 k5 hlt
        have hd3 : decide ((l.length : Int) < (l.length : Int)) = false := by simp
        have hd4 : ¬ l.length < l.length := by omega
      case' inl =>
        rw [hl0] at hc
        obtain rfl : l = [] := List.length_eq_zero_iff.1 hl0
        clear hd3 k4 k5 hlt hvc hl
        have hd3 : decide ((n : Int) < 0) = false := by simp
        have k5 : (0 : Int) < (n : Int) := by omega
        have k6 : 0 < n := hn1
      all_goals
        by_cases h1 : lc = 1
        · obtain rfl : ls = [] := List.length_eq_zero_iff.1 (by omega)
          subst h1
          simp only [List.length_nil, Nat.zero_add] at h2
          clear hz hz2 hcap
          go_enter Tryz.func155, Tryz.ntmps155
          go_wp2
          go_ret2
          obtain ⟨r1, r2⟩ := HD.out (some ⟨r, off, none⟩) 0 (.inr ⟨trivial, rfl⟩) rfl
          exact ⟨_, rfl, HBk.out _, ⟨_, _, r1⟩, HTo.out _ r2⟩
        · have k7 : (1 : Int) < (lc : Int) := by omega
          have k8 : (1 : Int) ≤ (ls.length : Int) + 1 := by omega
          go_enter Tryz.func155, Tryz.ntmps155
          go_wp2
          go_ret2
          obtain ⟨r1, r2⟩ := HD.out (some ⟨r, off + 1, none⟩) ls.length (.inl rfl) rfl
          exact ⟨_, rfl, HBk.out _, ⟨_, _, r1⟩, HTo.out _ r2⟩

theorem Te_rread_any (B t : Nat) (O : Nat → Prop) (la : Option Addr) (lc : Nat) (s : Value) (ls : List (List UInt8)) (scr : List UInt8) (n : Int) (w : World) (h : Term w B t 0 O la lc s ls scr) (hf : ls.length ≤ 256) (hsh : ∀ j (hj : j < ls.length), ls[j].length ≤ 4096) :
    Calls Tryz.prog 155 #[.pointer (some ⟨t, 0, none⟩), .int .i64 n] w fun e w' => ∃ v, e = .returned (.tuple #[v, .int .i64 (Te_rdE n)]) ∧ Bys w' v (rdH ls n) ∧ (∃ la' lc', Term w' B t 0 O la' lc' s (rdR ls n) scr) ∧ Turned O w w' := by
  by_cases hn : 1 ≤ n ∧ n ≤ 1048576
  · have hr := rOk_yes hn.1 hn.2
    rw [Te_rdE, rdH, rdR, if_pos hr, if_pos hr, if_pos hr]
    obtain ⟨m, rfl⟩ : ∃ m : Nat, n = m := ⟨n.toNat, by omega⟩
    rw [Int.toNat_natCast]
    exact rread_good B t O la lc s ls scr m w h (by omega) (by omega) hf hsh
  · have hr : ¬ rOk n = true := by rw [rOk_no hn]; simp
    rw [Te_rdE, rdH, rdR, if_neg hr, if_neg hr, if_neg hr]
    refine (rread_bad t n w hn).mono ?_
    rintro e w' ⟨rfl, rfl⟩
    exact ⟨_, rfl, .inl ⟨rfl, rfl⟩, ⟨_, _, h⟩, Turned.refl _ _⟩

set_option maxRecDepth 100000 in
set_option maxHeartbeats 1000000 in
theorem Te_rwrite_any (B t : Nat) (O : Nat → Prop) (la : Option Addr) (lc : Nat) (s : Value) (ls : List (List UInt8)) (scr : List UInt8) (vx : Value) (x : List UInt8) (w : World) (h : Term w B t 0 O la lc s ls scr) (hx : Bys w vx x) (h0 : scr.length ≤ 1048576) (hxs : x.length ≤ 140737488351232) :
    Calls Tryz.prog 160 #[.pointer (some ⟨t, 0, none⟩), vx] w fun e w' => e = .returned (.int .i64 (Te_wrE scr.length x.length)) ∧ ∃ O' s', Term w' B t 0 O' la lc s' ls (wrS scr x) ∧ (∀ k, O' k → O k ∨ w.heap.size ≤ k) ∧ Turned O w w' := by
  have HT := hide h
  have hlt := h.lt t h.ot
  obtain ⟨sa, sc, rfl⟩ := owns_slice h.scr
  have h2 := h.screen
  have h3 := h.soft2
  have hst := h.st t
  have HX := hide hx
  obtain ⟨a1, c1, rfl, -⟩ := bys_form hx
  clear h hx
  by_cases hf : 1048576 < scr.length + x.length
  · rw [Te_wrE, wrS, if_pos hf, if_pos hf]
    have hd : decide ((1048576 : Int) < (scr.length : Int) + (x.length : Int)) = true := by simp; omega
    clear hst
    go_enter Tryz.func160, Tryz.ntmps160
    go_wp2
    all_goals first
      | (exfalso; omega)
      | (go_ret; exact ⟨rfl, O, _, HT.out, fun k e => .inl e, Turned.refl _ _⟩)
  · rw [Te_wrE, wrS, if_neg hf, if_neg hf]
    have hd : decide ((1048576 : Int) < (scr.length : Int) + (x.length : Int)) = false := by simp; omega
    obtain ⟨s', w1, hrun, HO, hg, hb⟩ := run_append_bytes w 40 B _ _ scr x HT.out.scr HX.out (by omega) (by omega)
    obtain ⟨sa', sc', rfl⟩ := owns_slice HO.out
    have hgt : w1.heap[t]? = w.heap[t]? := hg.block t hlt.2 (fun e => (hst e.symm).2 rfl)
    have q1 : w1.cell? ⟨t, 1, none⟩ = some (.slice sa scr.length sc) := (World.cell?_of_block (w := w) hgt).trans h2
    have q2 : w1.frozen? ⟨t, 1, none⟩ = false := (World.frozen?_of_block (w := w) hgt).trans h3
    obtain ⟨r1, r2⟩ := HT.out.written HO.out hg hb
    simp only [List.length_append] at r1 r2 hrun hb
    have R1 := hide r1
    have R2 := hide r2
    have HB := hide hb
    have HR := hide hrun
    clear r1 r2 hgt hst hg hb hrun
    go_enter Tryz.func160, Tryz.ntmps160
    go_wp2_with (at_builtin; refine Lib.wpList_append_run _ rfl _ _ _ _ rfl _ _ rfl rfl _ _ HR.out ?_)
    all_goals first
      | (exfalso; omega)
      | skip
    go_ret
    refine ⟨rfl, _, _, R1.out, fun k e => ?_, R2.out⟩
    rcases e with e | e
    · exact .inl e
    · rcases HB.out with e' | e'
      · rw [e'] at e; exact .inl (HT.out.st k e).1
      · rw [e'] at e; cases e; exact .inr (Nat.le_refl _)
end Go.Proofs.YtanbiinomagdbaaGreat

/- A pipe: what its block holds, and what stays of it. -/
namespace Go.Proofs.YtanbiinomagdbaaGreat
open Go.RowKit

def pcells (R : List Value) (f c rd wr : Nat) : List Value := .bool true :: (R ++ [.int .i64 f, .int .i64 c, .int .i64 rd, .int .i64 wr])
theorem pcells_len (R : List Value) (f c rd wr : Nat) (h : R.length = 4096) : (pcells R f c rd wr).length = 4101 := by simp [pcells, h]
theorem pcells_tail (R : List Value) (f c rd wr : Nat) (h : R.length = 4096) (j : Nat) : (pcells R f c rd wr)[4097 + j]? = ([.int .i64 f, .int .i64 c, .int .i64 rd, .int .i64 wr] : List Value)[j]? := by
  unfold pcells
  rw [show 4097 + j = (4096 + j) + 1 by omega, List.getElem?_cons_succ, List.getElem?_append_right (by omega), h, show 4096 + j - 4096 = j by omega]
theorem pcells_place (R : List Value) (f c rd wr : Nat) (h : R.length = 4096) (j : Nat) (hj : j < 4096) : (pcells R f c rd wr)[1 + j]? = R[j]? := by
  unfold pcells
  rw [Nat.add_comm, List.getElem?_cons_succ, List.getElem?_append_left (by omega)]
theorem pcells_set (R : List Value) (f c rd wr : Nat) (h : R.length = 4096) (j : Nat) (v : Value) : (pcells R f c rd wr).set (4097 + j) v = .bool true :: (R ++ ([.int .i64 f, .int .i64 c, .int .i64 rd, .int .i64 wr] : List Value).set j v) := by
  unfold pcells
  rw [show 4097 + j = (4096 + j) + 1 by omega, List.set_cons_succ, List.set_append_right _ _ (by omega), h, show 4096 + j - 4096 = j by omega]
theorem pcells_splice (R : List Value) (f c rd wr : Nat) (h : R.length = 4096) (off : Nat) (cs : List Value) (hf : off + cs.length ≤ 4096) : splice (pcells R f c rd wr) (1 + off) cs = pcells (splice R off cs) f c rd wr := by
  unfold pcells splice
  rw [Nat.add_comm 1 off, List.take_succ_cons, show off + 1 + cs.length = (off + cs.length) + 1 by omega, List.drop_succ_cons, List.take_append_of_le_length (by omega), List.drop_append_of_le_length (by omega)]
  simp

theorem heap_setCell_same {W : World} {g : Nat} (j : Nat) (v : Value) {cur : List Value} {t : TypeId} {fr : Nat × Nat} (h : W.heap[g]? = some (.cells cur.toArray t fr)) : (W.setCell ⟨g, j, none⟩ v).heap[g]? = some (.cells (cur.set j v).toArray t fr) := by
  unfold World.setCell
  simp only [Array.getElem?_modify, h]
  simp

structure Pp (W : World) (g : Nat) (R : List Value) (f c rd wr : Nat) : Prop where
  blk : W.heap[g]? = some (.cells (pcells R f c rd wr).toArray 324 (0, 0))
  len : R.length = 4096
  lf : f < 4096
  lc : c ≤ 4096
  lr : rd ≤ 1024
  lw : wr ≤ 1024
theorem Pp.keep {W W' : World} {g : Nat} {R : List Value} {f c rd wr : Nat} (h : Pp W g R f c rd wr) (hB : W'.heap[g]? = W.heap[g]?) : Pp W' g R f c rd wr := ⟨hB.trans h.blk, h.len, h.lf, h.lc, h.lr, h.lw⟩
theorem Pp.lt {W : World} {g : Nat} {R : List Value} {f c rd wr : Nat} (h : Pp W g R f c rd wr) : g < W.heap.size := (Array.getElem?_eq_some_iff.1 h.blk).1
theorem Pp.soft {W : World} {g : Nat} {R : List Value} {f c rd wr : Nat} (h : Pp W g R f c rd wr) (j : Nat) : W.frozen? ⟨g, j, none⟩ = false := frozen_of_row W g j _ _ h.blk
theorem Pp.c0 {W : World} {g : Nat} {R : List Value} {f c rd wr : Nat} (h : Pp W g R f c rd wr) : W.cell? ⟨g, 0, none⟩ = some (.bool true) := by
  rw [cell_of_row W g 0 _ _ _ h.blk]; simp [pcells]
theorem Pp.cf {W : World} {g : Nat} {R : List Value} {f c rd wr : Nat} (h : Pp W g R f c rd wr) : W.cell? ⟨g, 4097, none⟩ = some (.int .i64 f) := by
  rw [cell_of_row W g 4097 _ _ _ h.blk, List.getElem?_toArray]; exact pcells_tail R f c rd wr h.len 0
theorem Pp.cc {W : World} {g : Nat} {R : List Value} {f c rd wr : Nat} (h : Pp W g R f c rd wr) : W.cell? ⟨g, 4098, none⟩ = some (.int .i64 c) := by
  rw [cell_of_row W g 4098 _ _ _ h.blk, List.getElem?_toArray]; exact pcells_tail R f c rd wr h.len 1
theorem Pp.cr {W : World} {g : Nat} {R : List Value} {f c rd wr : Nat} (h : Pp W g R f c rd wr) : W.cell? ⟨g, 4099, none⟩ = some (.int .i64 rd) := by
  rw [cell_of_row W g 4099 _ _ _ h.blk, List.getElem?_toArray]; exact pcells_tail R f c rd wr h.len 2
theorem Pp.cw {W : World} {g : Nat} {R : List Value} {f c rd wr : Nat} (h : Pp W g R f c rd wr) : W.cell? ⟨g, 4100, none⟩ = some (.int .i64 wr) := by
  rw [cell_of_row W g 4100 _ _ _ h.blk, List.getElem?_toArray]; exact pcells_tail R f c rd wr h.len 3
theorem Pp.place {W : World} {g : Nat} {R : List Value} {f c rd wr : Nat} (h : Pp W g R f c rd wr) (j : Nat) (hj : j < 4096) : W.cell? ⟨g, 1 + j, none⟩ = R[j]? := by
  rw [cell_of_row W g (1 + j) _ _ _ h.blk, List.getElem?_toArray]; exact pcells_place R f c rd wr h.len j hj
theorem Pp.setf {W : World} {g : Nat} {R : List Value} {f c rd wr : Nat} (h : Pp W g R f c rd wr) (f' : Nat) (hf : f' < 4096) : Pp (W.setCell ⟨g, 4097, none⟩ (.int .i64 f')) g R f' c rd wr :=
  ⟨by rw [heap_setCell_same 4097 _ h.blk, pcells_set R f c rd wr h.len 0]; rfl, h.len, hf, h.lc, h.lr, h.lw⟩
theorem Pp.setc {W : World} {g : Nat} {R : List Value} {f c rd wr : Nat} (h : Pp W g R f c rd wr) (c' : Nat) (hc : c' ≤ 4096) : Pp (W.setCell ⟨g, 4098, none⟩ (.int .i64 c')) g R f c' rd wr :=
  ⟨by rw [heap_setCell_same 4098 _ h.blk, pcells_set R f c rd wr h.len 1]; rfl, h.len, h.lf, hc, h.lr, h.lw⟩
theorem run_copy_tag (w : World) (ty : TypeId) (dp sp : Option Addr) (dLen dCap sLen sCap : Nat) (g off : Nat) (tag : TypeId) (cur : List Value) (hg : w.heap[g]? = some (.cells cur.toArray tag (0, 0))) (cs : List Value) (hn : cs.length = Nat.min sLen dLen)
    (hpos : 0 < cs.length → dp = some ⟨g, off, none⟩ ∧ ∃ ad, sp = some ad ∧ ∀ j v, cs[j]? = some v → w.cell? (ad.add j) = some v) (hfit : off + cs.length ≤ cur.length) (h1 : ∀ v ∈ cs, v.oneCell' = true) :
    ∃ w', (Builtin.copy_ #[40, 40] ty #[.slice dp dLen dCap, .slice sp sLen sCap]).run Tryz.prog w = .ok (goInt cs.length) w' ∧ Hid (w'.heap[g]? = some (.cells (splice cur off cs).toArray tag (0, 0))) ∧ w.grownBy w' (some g) := by
  refine (?_ : ∃ w', (Builtin.copy_ #[40, 40] ty #[.slice dp dLen dCap, .slice sp sLen sCap]).run Tryz.prog w = .ok (goInt cs.length) w' ∧ w'.heap[g]? = some (.cells (splice cur off cs).toArray tag (0, 0)) ∧ w.grownBy w' (some g))
  obtain ⟨i0, hi, hz0, hz1, hz2⟩ := info_parts Tryz.infoB
  have hsz : (Tryz.prog.info? 5).map (·.size) = some 1 := by rw [hi]; simp [hz1]
  by_cases h0 : cs.length = 0
  · obtain rfl : cs = [] := List.eq_nil_of_length_eq_zero h0
    exact ⟨w, run_copy_none (P := Tryz.prog) w _ _ ty 5 dp sp dLen dCap sLen sCap Tryz.underlying40 hsz (by simpa using hn.symm), by simpa [splice] using hg, ⟨rfl, rfl, rfl, Nat.le_refl _, fun _ _ _ => rfl⟩⟩
  · obtain ⟨rfl, ad, rfl, hsrc⟩ := hpos (by omega)
    have hrun := run_copy_row (P := Tryz.prog) w 40 40 ty 5 g off dLen dCap ad sLen sCap cur.toArray tag cs Tryz.underlying40 hsz hg hn hsrc (by simpa using hfit) h1
    refine ⟨_, hrun, by simpa [splice] using setRow_heap w g _ _ tag _ hg, ⟨rfl, rfl, rfl, by simp [World.setRow], fun j _ hj => setRow_other w g j _ (fun e => hj (by rw [e]))⟩⟩

end Go.Proofs.YtanbiinomagdbaaGreat
