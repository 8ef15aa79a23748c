/- What the proof stands on, part 17: the contracts of the program's calls that it reaches. -/
import Derived.Test.YtanbiinomagdbaaGreatKM16
import Derived.Deep.LoopGhost
/- The reference's memories: made; which memories may be. -/
namespace Go.Proofs.YtanbiinomagdbaaGreat
open Go.RowKit

set_option maxHeartbeats 1000000 in
theorem rcopied_me (v : Value) (l : List UInt8) (w : World) (h : Bys w v l) (hs : l.length ≤ 140737488351232) :
    Calls Tryz.prog 173 #[v] w fun e w' => ∃ a c, e = .returned (.slice a l.length c) ∧ w'.ownsRow w.heap.size 5 1 (.slice a l.length c) l.length (l.map bv) ∧ Below w.heap.size w w' := by
  obtain ⟨s', w1, hrun, HO, hg, hb⟩ := run_append_bytes w 40 w.heap.size (.slice none 0 0) v [] l (World.ownsRow_nil _ _ _ _) h (by simpa using hs) (Nat.le_refl _)
  have HR := hide hrun
  have HB : Hid (Below w.heap.size w w1) := hide ((Below.refl _ _).grown hg (Nat.le_refl _) (fun j e => by cases e))
  simp only [List.nil_append] at HO
  obtain ⟨a, c, rfl⟩ := owns_slice HO.out
  clear hrun hg hb
  obtain ⟨a1, c1, rfl, -⟩ := bys_form h
  clear h
  go_enter Tryz.func173, Tryz.ntmps173
  go_wp2_with (at_builtin; refine Lib.wpList_append_run _ rfl _ _ _ _ rfl _ _ rfl rfl _ _ HR.out ?_)
  go_ret
  exact ⟨_, _, rfl, HO.out, HB.out⟩
def rmc (kind : Int) (v : Value) (room pl : Int) (rv wv : Value) (m : Int) : Array Value := #[.int .i64 kind, v, .int .i64 room, .int .i64 pl, rv, wv, .pointer none, .int .i64 0, .int .i64 m]
def RMemAt (W : World) (O : Nat → Prop) (g : Nat) (kind : Int) (S : MS) : Prop :=
  ∃ a c m, W.heap[g]? = some (.cells (rmc kind (.slice a S.l.length c) S.room S.pl (.slice none 0 0) (.slice none 0 0) m) 189) ∧
    W.ownsRow 0 5 1 (.slice a S.l.length c) S.l.length (S.l.map bv) ∧ (∀ k, (Value.slice a S.l.length c).ownBlock = some k → O k ∧ k ≠ g) ∧ O g ∧ S.l.length ≤ S.room ∧ S.pl ≤ S.room ∧ S.room ≤ 1048576
theorem RMemAt.keep {W W' : World} {O : Nat → Prop} {g : Nat} {kind : Int} {S : MS} (h : RMemAt W O g kind S) (hk : ∀ j, O j → j < W.heap.size → W'.heap[j]? = W.heap[j]?) : RMemAt W' O g kind S := by
  obtain ⟨a, c, m, h1, hr, hb, og, rest⟩ := h
  exact ⟨a, c, m, (hk g og (Array.getElem?_eq_some_iff.1 h1).1).trans h1, owns_keep hr fun k e => hk k (hb k e).1 (hr.lt k e).2, hb, og, rest⟩
theorem RMemAt.trim {W : World} {O : Nat → Prop} {g : Nat} {kind : Int} {S : MS} (h : RMemAt W O g kind S) : RMemAt W (fun k => O k ∧ k < W.heap.size) g kind S := by
  obtain ⟨a, c, m, h1, hr, hb, og, rest⟩ := h
  exact ⟨a, c, m, h1, hr, fun k e => ⟨⟨(hb k e).1, (hr.lt k e).2⟩, (hb k e).2⟩, ⟨og, (Array.getElem?_eq_some_iff.1 h1).1⟩, rest⟩
theorem RMemAt.mono {W : World} {O O' : Nat → Prop} {g : Nat} {kind : Int} {S : MS} (h : RMemAt W O g kind S) (ho : ∀ j, O j → O' j) : RMemAt W O' g kind S := by
  obtain ⟨a, c, m, h1, hr, hb, og, rest⟩ := h
  exact ⟨a, c, m, h1, hr, fun k e => ⟨ho _ (hb k e).1, (hb k e).2⟩, ho _ og, rest⟩
theorem rmem_new {w0 w1 : World} {l : List UInt8} {a : Option Addr} {c room : Nat} {kind : Int} (hr : w1.ownsRow w0.heap.size 5 1 (.slice a l.length c) l.length (l.map bv)) (hB : Below w0.heap.size w0 w1) (hl : l.length ≤ room) (hm : room ≤ 1048576) :
    RMemAt (w1.alloc (Obj.cells #[.int .i64 kind, .slice a l.length c, .int .i64 (room : Int), .int .i64 0, .slice none 0 0, .slice none 0 0, .pointer none, .int .i64 0, .int .i64 0] 189)) (fun k => w0.heap.size ≤ k) w1.heap.size kind ⟨l, room, 0⟩ ∧ Below w0.heap.size w0 (w1.alloc (Obj.cells #[.int .i64 kind, .slice a l.length c, .int .i64 (room : Int), .int .i64 0, .slice none 0 0, .slice none 0 0, .pointer none, .int .i64 0, .int .i64 0] 189)) := by
  have hb := recv4 w1 (Obj.cells #[.int .i64 kind, .slice a l.length c, .int .i64 (room : Int), .int .i64 0, .slice none 0 0, .slice none 0 0, .pointer none, .int .i64 0, .int .i64 0] 189)
  exact ⟨⟨a, c, 0, heap_alloc_new _ _, owns_mono (owns_below hr hb) (Nat.zero_le _), fun k e => ⟨(hr.lt k e).1, by have := (hr.lt k e).2; omega⟩, hB.size, hl, Nat.zero_le _, hm⟩, hB.alloc hB.size _⟩
def fixE (size : Int) (l : List UInt8) : Int := if size < 0 ∨ 1048576 < size then 4 else if size < (l.length : Int) then 5 else 0
def grE (l : List UInt8) : Int := if 1048576 < l.length then 5 else 0
def PNewM (E : Int) (S : MS) (w : World) (e : Ending) (w' : World) : Prop := ∃ p, e = .returned (.tuple #[.pointer p, .int .i64 E]) ∧ Below w.heap.size w w' ∧ ((E ≠ 0 ∧ p = none) ∨ (E = 0 ∧ ∃ g, p = some ⟨g, 0, none⟩ ∧ MemAt w' (fun k => w.heap.size ≤ k) g S))
def RNewM (E : Int) (kind : Int) (S : MS) (w : World) (e : Ending) (w' : World) : Prop := ∃ p, e = .returned (.tuple #[.pointer p, .int .i64 E]) ∧ Below w.heap.size w w' ∧ ((E ≠ 0 ∧ p = none) ∨ (E = 0 ∧ ∃ g, p = some ⟨g, 0, none⟩ ∧ RMemAt w' (fun k => w.heap.size ≤ k) g kind S))
theorem newFixed_any (size : Int) (v : Value) (l : List UInt8) (w : World) (hb : Bys w v l) : Calls Tryz.prog 87 #[.int .i64 size, v] w (PNewM (fixE size l) ⟨l, size.toNat, 0⟩ w) := by
  obtain ⟨a1, c1, rfl, -⟩ := bys_form hb
  unfold fixE
  by_cases h1 : size < 0 ∨ 1048576 < size
  · rw [if_pos h1]
    refine (newFixed_range size a1 _ c1 w h1).mono ?_
    rintro e w' ⟨rfl, rfl⟩
    exact ⟨_, rfl, Below.refl _ _, .inl ⟨by decide, rfl⟩⟩
  rw [if_neg h1]
  by_cases h2 : size < (l.length : Int)
  · rw [if_pos h2]
    refine (newFixed_long size a1 _ c1 w (by omega) (by omega) h2).mono ?_
    rintro e w' ⟨rfl, hB⟩
    exact ⟨_, rfl, hB, .inl ⟨by decide, rfl⟩⟩
  rw [if_neg h2]
  obtain ⟨R, rfl⟩ : ∃ R : Nat, size = R := ⟨size.toNat, by omega⟩
  refine (newFixed_good R _ l w hb (by omega) (by omega)).mono ?_
  rintro e w' ⟨g, rfl, hM, hB⟩
  exact ⟨_, rfl, hB, .inr ⟨rfl, g, rfl, hM⟩⟩
theorem newGrowing_any (v : Value) (l : List UInt8) (w : World) (hb : Bys w v l) : Calls Tryz.prog 89 #[v] w (PNewM (grE l) ⟨l, 1048576, 0⟩ w) := by
  unfold grE
  by_cases h1 : 1048576 < l.length
  · rw [if_pos h1]
    refine (newGrowing_long v l w hb h1).mono ?_
    rintro e w' ⟨rfl, hB⟩
    exact ⟨_, rfl, hB, .inl ⟨by decide, rfl⟩⟩
  · rw [if_neg h1]
    refine (newGrowing_good v l w hb (by omega)).mono ?_
    rintro e w' ⟨g, rfl, hM, hB⟩
    exact ⟨_, rfl, hB, .inr ⟨rfl, g, rfl, hM⟩⟩
theorem newReader_any (v : Value) (l : List UInt8) (w : World) (hb : Bys w v l) : Calls Tryz.prog 91 #[v] w (PNewM (grE l) ⟨l, l.length, 0⟩ w) := by
  unfold grE
  by_cases h1 : 1048576 < l.length
  · rw [if_pos h1]
    refine (newReader_long v l w hb h1).mono ?_
    rintro e w' ⟨rfl, hB⟩
    exact ⟨_, rfl, hB, .inl ⟨by decide, rfl⟩⟩
  · rw [if_neg h1]
    refine (newReader_good v l w hb (by omega)).mono ?_
    rintro e w' ⟨g, rfl, hM, hB⟩
    exact ⟨_, rfl, hB, .inr ⟨rfl, g, rfl, hM⟩⟩
set_option maxRecDepth 100000 in
set_option maxHeartbeats 1000000 in
theorem rnewFixed_any (size : Int) (v : Value) (l : List UInt8) (w : World) (hb : Bys w v l) : Calls Tryz.prog 86 #[.int .i64 size, v] w (RNewM (fixE size l) 1 ⟨l, size.toNat, 0⟩ w) := by
  have HB := hide hb
  obtain ⟨a1, c1, rfl, -⟩ := bys_form hb
  clear hb
  unfold fixE
  by_cases h1 : size < 0 ∨ 1048576 < size
  · rw [if_pos h1]
    rcases (show size < 0 ∨ (¬ size < 0 ∧ 1048576 < size) by omega) with h2 | ⟨h2, h3⟩
    all_goals
      clear h1
      go_enter Tryz.func86, Tryz.ntmps86
      go_wp2
      go_ret2
      exact ⟨_, rfl, Below.refl _ _, .inl ⟨by decide, rfl⟩⟩
  rw [if_neg h1]
  have h3 : ¬ size < 0 := by omega
  have h4 : ¬ 1048576 < size := by omega
  by_cases h2 : size < (l.length : Int)
  · rw [if_pos h2]
    clear h1
    go_enter Tryz.func86, Tryz.ntmps86
    go_wp2
    go_ret2
    exact ⟨_, rfl, Below.refl _ _, .inl ⟨by decide, rfl⟩⟩
  rw [if_neg h2]
  obtain ⟨R, rfl⟩ : ∃ R : Nat, size = R := ⟨size.toNat, by omega⟩
  clear h1
  go_enter Tryz.func86, Tryz.ntmps86
  go_wp2_with fail
  refine (rcopied_me _ l w HB.out (by omega)).mono ?_
  rintro _ w1 ⟨a, c, rfl, hr, hB⟩
  have HR := hide hr
  clear hr
  go_wp2
  go_ret2
  obtain ⟨q1, q2⟩ := rmem_new (kind := 1) (room := R) HR.out hB (by omega) (by omega)
  exact ⟨_, rfl, q2, .inr ⟨rfl, _, rfl, q1⟩⟩
set_option maxRecDepth 100000 in
set_option maxHeartbeats 1000000 in
theorem rnewGrowing_any (v : Value) (l : List UInt8) (w : World) (hb : Bys w v l) : Calls Tryz.prog 88 #[v] w (RNewM (grE l) 2 ⟨l, 1048576, 0⟩ w) := by
  have HB := hide hb
  obtain ⟨a1, c1, rfl, -⟩ := bys_form hb
  clear hb
  unfold grE
  by_cases h1 : 1048576 < l.length
  · rw [if_pos h1]
    have h2 : (1048576 : Int) < (l.length : Int) := by omega
    go_enter Tryz.func88, Tryz.ntmps88
    go_wp2
    go_ret2
    exact ⟨_, rfl, Below.refl _ _, .inl ⟨by decide, rfl⟩⟩
  rw [if_neg h1]
  have h2 : ¬ (1048576 : Int) < (l.length : Int) := by omega
  go_enter Tryz.func88, Tryz.ntmps88
  go_wp2_with fail
  refine (rcopied_me _ l w HB.out (by omega)).mono ?_
  rintro _ w1 ⟨a, c, rfl, hr, hB⟩
  have HR := hide hr
  clear hr
  go_wp2
  go_ret2
  obtain ⟨q1, q2⟩ := rmem_new (kind := 2) (room := 1048576) HR.out hB (by omega) (by omega)
  exact ⟨_, rfl, q2, .inr ⟨rfl, _, rfl, q1⟩⟩
set_option maxRecDepth 100000 in
set_option maxHeartbeats 1000000 in
theorem rnewReader_any (v : Value) (l : List UInt8) (w : World) (hb : Bys w v l) : Calls Tryz.prog 90 #[v] w (RNewM (grE l) 3 ⟨l, l.length, 0⟩ w) := by
  have HB := hide hb
  obtain ⟨a1, c1, rfl, -⟩ := bys_form hb
  clear hb
  unfold grE
  by_cases h1 : 1048576 < l.length
  · rw [if_pos h1]
    have h2 : (1048576 : Int) < (l.length : Int) := by omega
    go_enter Tryz.func90, Tryz.ntmps90
    go_wp2
    go_ret2
    exact ⟨_, rfl, Below.refl _ _, .inl ⟨by decide, rfl⟩⟩
  rw [if_neg h1]
  have h2 : ¬ (1048576 : Int) < (l.length : Int) := by omega
  go_enter Tryz.func90, Tryz.ntmps90
  go_wp2_with fail
  refine (rcopied_me _ l w HB.out (by omega)).mono ?_
  rintro _ w1 ⟨a, c, rfl, hr, hB⟩
  have HR := hide hr
  clear hr
  go_wp2
  go_ret2
  obtain ⟨q1, q2⟩ := rmem_new (kind := 3) (room := l.length) HR.out hB (by omega) (by omega)
  exact ⟨_, rfl, q2, .inr ⟨rfl, _, rfl, q1⟩⟩
end Go.Proofs.YtanbiinomagdbaaGreat

/- The reference's memories: Read, Write, Seek. -/
namespace Go.Proofs.YtanbiinomagdbaaGreat
open Go.RowKit

def RMStep (w : World) (O : Nat → Prop) (g : Nat) (kind : Int) (S : MS) (w' : World) : Prop := ∃ O', RMemAt w' O' g kind S ∧ (∀ k, O' k → O k ∨ w.heap.size ≤ k) ∧ Turned O w w'
theorem RMemAt.tick {W : World} {O : Nat → Prop} {g : Nat} {kind : Int} {S : MS} {a : Option Addr} {c : Nat} {m : Int} (h1 : W.heap[g]? = some (.cells (rmc kind (.slice a S.l.length c) S.room S.pl (.slice none 0 0) (.slice none 0 0) m) 189))
    (hr : W.ownsRow 0 5 1 (.slice a S.l.length c) S.l.length (S.l.map bv)) (hb : ∀ k, (Value.slice a S.l.length c).ownBlock = some k → O k ∧ k ≠ g) (m' : Int) :
    (W.setCell ⟨g, 8, none⟩ (.int .i64 m')).heap[g]? = some (.cells (rmc kind (.slice a S.l.length c) S.room S.pl (.slice none 0 0) (.slice none 0 0) m') 189) ∧ (W.setCell ⟨g, 8, none⟩ (.int .i64 m')).ownsRow 0 5 1 (.slice a S.l.length c) S.l.length (S.l.map bv) ∧ Turned (fun k => k = g) W (W.setCell ⟨g, 8, none⟩ (.int .i64 m')) :=
  have hT : Turned (fun k => k = g) W (W.setCell ⟨g, 8, none⟩ (.int .i64 m')) := Turned.set (S := fun k => k = g) (Turned.refl _ _) (.inl rfl)
  ⟨Go.heap_setCell_same W g 8 _ _ (.int .i64 m') h1, owns_turned hr hT (fun k e => (hb k e).2), hT⟩
set_option maxRecDepth 100000 in
set_option maxHeartbeats 2000000 in
theorem rrmread_any (O : Nat → Prop) (g : Nat) (kind n : Int) (S : MS) (w : World) (h : RMemAt w O g kind S) (hk : kind = 1 ∨ kind = 2 ∨ kind = 3) :
    Calls Tryz.prog 21 #[.pointer (some ⟨g, 0, none⟩), .int .i64 n] w fun e w' => ∃ v, e = .returned (.tuple #[v, .int .i64 (S.read n).2.1]) ∧ Bys w' v (S.read n).1 ∧ RMemAt w' O g kind (S.read n).2.2 ∧ Turned O w w' := by
  obtain ⟨a, c, m, h1, hr, hb, og, z1, z2, z3⟩ := h
  have hk5 : (kind == 5) = false := by rcases hk with rfl | rfl | rfl <;> rfl
  have hk4 : (kind == 4) = false := by rcases hk with rfl | rfl | rfl <;> rfl
  have q0 : w.cell? ⟨g, 0, none⟩ = some (.int .i64 kind) := cell_of_row w g 0 _ _ _ h1
  have q8 : w.cell? ⟨g, 8, none⟩ = some (.int .i64 m) := cell_of_row w g 8 _ _ _ h1
  have s8 := frozen_of_row w g 8 _ _ h1
  have HT := hide (RMemAt.tick h1 hr hb (wrap64 (m + 1)))
  have r0 : ∀ c', (w.setCell ⟨g, 8, none⟩ (.int .i64 c')).cell? ⟨g, 0, none⟩ = some (.int .i64 kind) := fun c' => cell_of_row _ g 0 _ _ _ (RMemAt.tick h1 hr hb c').1
  have r1 : ∀ c', (w.setCell ⟨g, 8, none⟩ (.int .i64 c')).cell? ⟨g, 1, none⟩ = some (.slice a S.l.length c) := fun c' => cell_of_row _ g 1 _ _ _ (RMemAt.tick h1 hr hb c').1
  have r3 : ∀ c', (w.setCell ⟨g, 8, none⟩ (.int .i64 c')).cell? ⟨g, 3, none⟩ = some (.int .i64 S.pl) := fun c' => cell_of_row _ g 3 _ _ _ (RMemAt.tick h1 hr hb c').1
  have HB := hide hb
  clear h1 hr hb hk
  unfold MS.read
  by_cases hR : inR n = true
  · rw [if_pos hR]
    obtain ⟨N, rfl⟩ : ∃ N : Nat, n = N := ⟨n.toNat, by simp [inR] at hR; omega⟩
    have hN : N ≤ 1048576 := by simp [inR] at hR; omega
    clear hR
    simp only [Int.toNat_natCast]
    rcases Nat.eq_zero_or_pos N with rfl | hp
    · have hp0 : piece S.l S.pl 0 = [] := by simp [piece]
      rw [hp0]
      go_enter Tryz.func21, Tryz.ntmps21
      go_wp2
      go_ret2
      exact ⟨_, rfl, .inl ⟨rfl, rfl⟩, ⟨a, c, _, HT.out.1, HT.out.2.1, HB.out, og, z1, z2, z3⟩, HT.out.2.2.mono (fun k e => by rw [e]; exact og)⟩
    · have e1 : ¬ (N : Int) < 0 := by omega
      have e2 : ¬ 1048576 < (N : Int) := by omega
      have e3 : ((N : Int) == 0) = false := by simp; omega
      have HP := hide (fun W hW => piece_any 0 (.slice a S.l.length c) S.l S.pl N W hW (by omega) (by omega) hN)
      have hpl : S.l.length < S.pl ∨ S.pl + (piece S.l S.pl N).length ≤ S.l.length := by have := piece_len S.l S.pl N; omega
      have hpz : S.pl + (piece S.l S.pl N).length ≤ S.room := by have := piece_len S.l S.pl N; omega
      clear hpl
      generalize piece S.l S.pl N = Y at *
      go_enter Tryz.func21, Tryz.ntmps21
      go_wp2_with fail
      have k1 := r1 (wrap64 (m + 1))
      have k3 := r3 (wrap64 (m + 1))
      clear r0 r1 r3 q0 q8 s8
      generalize w.setCell ⟨g, 8, none⟩ (.int .i64 (wrap64 (m + 1))) = wa at *
      have hgl : g < wa.heap.size := World.block_lt_of_cell? wa _ k1
      have HC := hide (HP.out wa.drew (owns_below HT.out.2.1 (Below.refl _ _).drew))
      go_region_held3 (fun w' => w'.cell? ⟨g, 1, none⟩ = some (.slice a S.l.length c) ∧ w'.cell? ⟨g, 3, none⟩ = some (.int .i64 S.pl))
        (first | exact K2 | exact ⟨k1, k3⟩ | go_keep)
        (first
          | (go_at_call 102; refine HC.out.mono ?_; rintro _ w2 ⟨v, rfl, hown, hB2⟩; obtain ⟨va, vc, rfl⟩ := owns_slice hown; have K2 : w2.cell? ⟨g, 1, none⟩ = some (.slice a S.l.length c) ∧ w2.cell? ⟨g, 3, none⟩ = some (.int .i64 S.pl) := ⟨(hB2.cell (p := ⟨g, 1, none⟩) hgl).trans k1, (hB2.cell (p := ⟨g, 3, none⟩) hgl).trans k3⟩)
          | fail)
      have g2 := (hB2.block g hgl).trans HT.out.1
      have f3 := frozen_of_row w2 g 3 _ _ g2
      obtain ⟨K21, K23⟩ := K2
      have HG2 := hide g2
      have HO := hide hown
      have HB2 := hide hB2
      clear hown hB2 g2 k1 k3
      go_wp2
      go_ret2
      have hT5 : Turned (fun k => k = g) w2 (w2.setCell ⟨g, 3, none⟩ (.int .i64 ((S.pl : Int) + (Y.length : Int)))) := Turned.set (S := fun k => k = g) (Turned.refl _ _) (.inl rfl)
      have hTw : Turned (fun k => k = g) w w2 := HT.out.2.2.trans (Turned.of_below ((Below.refl _ wa).drew.trans HB2.out)) (fun _ _ e => e)
      have h5 := Go.heap_setCell_same w2 g 3 _ _ (.int .i64 ((S.pl : Int) + (Y.length : Int))) HG2.out
      refine ⟨_, rfl, (Bys.of_owns HO.out).turned hT5 (fun k e _ e' => ?_), ⟨a, c, wrap64 (m + 1), ?_, owns_turned (owns_below (owns_below HT.out.2.1 (Below.refl _ _).drew) HB2.out) hT5 (fun k e => (HB.out k e).2), HB.out, og, z1, ?_, z3⟩, (hTw.trans hT5 (fun _ _ e => e)).mono (fun k e => by rw [e]; exact og)⟩
      · have := (HO.out.lt k e).1
        have e2 : k = g := e'
        have : wa.heap.size ≤ k := this
        omega
      · rw [h5]; rfl
      · exact hpz
  · rw [if_neg hR]
    rcases (show n < 0 ∨ (¬ n < 0 ∧ 1048576 < n) by simp [inR] at hR; omega) with e1 | ⟨e1, e2⟩
    all_goals
      clear hR
      go_enter Tryz.func21, Tryz.ntmps21
      go_wp2
      go_ret2
      exact ⟨_, rfl, .inl ⟨rfl, rfl⟩, ⟨a, c, _, HT.out.1, HT.out.2.1, HB.out, og, z1, z2, z3⟩, HT.out.2.2.mono (fun k e => by rw [e]; exact og)⟩
set_option maxRecDepth 100000 in
set_option maxHeartbeats 2000000 in
theorem rrmseek_any (O : Nat → Prop) (g : Nat) (kind off wh : Int) (S : MS) (w : World) (h : RMemAt w O g kind S) (hk : kind = 1 ∨ kind = 2 ∨ kind = 3) :
    Calls Tryz.prog 27 #[.pointer (some ⟨g, 0, none⟩), .int .i64 off, .int .i64 wh] w fun e w' => e = .returned (.tuple #[.int .i64 (S.seek off wh).1, .int .i64 (S.seek off wh).2.1]) ∧ RMemAt w' O g kind (S.seek off wh).2.2 ∧ Turned O w w' := by
  obtain ⟨a, c, m, h1, hr, hb, og, z1, z2, z3⟩ := h
  have hk5 : (kind == 5) = false := by rcases hk with rfl | rfl | rfl <;> rfl
  have hk4 : (kind == 4) = false := by rcases hk with rfl | rfl | rfl <;> rfl
  have q0 : w.cell? ⟨g, 0, none⟩ = some (.int .i64 kind) := cell_of_row w g 0 _ _ _ h1
  have q1 : w.cell? ⟨g, 1, none⟩ = some (.slice a S.l.length c) := cell_of_row w g 1 _ _ _ h1
  have q2 : w.cell? ⟨g, 2, none⟩ = some (.int .i64 S.room) := cell_of_row w g 2 _ _ _ h1
  have q3 : w.cell? ⟨g, 3, none⟩ = some (.int .i64 S.pl) := cell_of_row w g 3 _ _ _ h1
  have s3 := frozen_of_row w g 3 _ _ h1
  have HH := hide (And.intro h1 (And.intro hr hb))
  clear h1 hr hb hk
  unfold MS.seek
  by_cases hwh : wh < 0 ∨ 2 < wh
  · rw [if_pos hwh]
    rcases (show wh < 0 ∨ (¬ wh < 0 ∧ 2 < wh) by omega) with e1 | ⟨e1, e2⟩
    all_goals
      clear hwh
      go_enter Tryz.func27, Tryz.ntmps27
      go_wp2
      go_ret2
      exact ⟨rfl, ⟨a, c, m, HH.out.1, HH.out.2.1, HH.out.2.2, og, z1, z2, z3⟩, Turned.refl _ _⟩
  rw [if_neg hwh]
  have hF : S.from wh ≤ 1048576 := by unfold MS.from; split; omega; split <;> omega
  have HM := hide (fun W => move_any (S.from wh) off S.room W (by omega) (by omega) (by omega) (by omega))
  have HFr : Hid (S.from wh = if wh = 1 then S.pl else if wh = 2 then S.l.length else 0) := hide rfl
  generalize S.from wh = F at *
  by_cases hbad : off < -(F : Int) ∨ (S.room : Int) - (F : Int) < off
  · rw [if_pos hbad]
    rw [if_neg (by omega)] at HM
    clear hbad
    rcases (show wh = 0 ∨ wh = 1 ∨ wh = 2 by omega) with rfl | rfl | rfl
    all_goals
      have hf := HFr.out
      simp at hf
      subst hf
      clear hwh HFr
      try simp only [Int.natCast_zero] at HM
      go_enter Tryz.func27, Tryz.ntmps27
      go_wp2_with fail
      refine (HM.out _).mono ?_
      rintro _ _ ⟨rfl, rfl⟩
      go_wp2
      go_ret2
      exact ⟨rfl, ⟨a, c, m, HH.out.1, HH.out.2.1, HH.out.2.2, og, z1, z2, z3⟩, Turned.refl _ _⟩
  rw [if_neg hbad]
  rw [if_pos (by omega)] at HM
  obtain ⟨T, hT⟩ : ∃ T : Nat, (F : Int) + off = T := ⟨((F : Int) + off).toNat, by omega⟩
  rw [hT] at HM
  simp only [hT, Int.toNat_natCast]
  have hTr : T ≤ S.room := by omega
  clear hbad hT
  have hG : w.heap[g]? = some (.cells (rmc kind (.slice a S.l.length c) S.room S.pl (.slice none 0 0) (.slice none 0 0) m) 189) := HH.out.1
  have h5 := Go.heap_setCell_same w g 3 _ _ (.int .i64 (T : Int)) hG
  have hT5 : Turned (fun k => k = g) w (w.setCell ⟨g, 3, none⟩ (.int .i64 (T : Int))) := Turned.set (S := fun k => k = g) (Turned.refl _ _) (.inl rfl)
  have HR : Hid (RMemAt (w.setCell ⟨g, 3, none⟩ (.int .i64 (T : Int))) O g kind ⟨S.l, S.room, T⟩ ∧ Turned O w (w.setCell ⟨g, 3, none⟩ (.int .i64 (T : Int)))) := hide ⟨⟨a, c, m, h5, owns_turned HH.out.2.1 hT5 (fun k e => (HH.out.2.2 k e).2), HH.out.2.2, og, z1, hTr, z3⟩, hT5.mono (fun k e => by rw [e]; exact og)⟩
  clear hG h5 hT5
  rcases (show wh = 0 ∨ wh = 1 ∨ wh = 2 by omega) with rfl | rfl | rfl
  all_goals
    have hf := HFr.out
    simp at hf
    subst hf
    clear hwh HFr
    try simp only [Int.natCast_zero] at HM
    go_enter Tryz.func27, Tryz.ntmps27
    go_wp2_with fail
    refine (HM.out _).mono ?_
    rintro _ _ ⟨rfl, rfl⟩
    go_wp2
    go_ret2
    exact ⟨rfl, HR.out.1, HR.out.2⟩
end Go.Proofs.YtanbiinomagdbaaGreat

/- The reference's memories: Write. -/
namespace Go.Proofs.YtanbiinomagdbaaGreat
open Go.RowKit

set_option maxRecDepth 100000 in
set_option maxHeartbeats 2000000 in
theorem rrmwrite_reader (O : Nat → Prop) (g : Nat) (ba : Option Addr) (n bc : Nat) (S : MS) (w : World) (h : RMemAt w O g 3 S) :
    Calls Tryz.prog 26 #[.pointer (some ⟨g, 0, none⟩), .slice ba n bc] w fun e w' => e = .returned (.tuple #[.int .i64 0, .int .i64 65]) ∧ RMemAt w' O g 3 S ∧ Turned O w w' := by
  obtain ⟨a, c, m, h1, hr, hb, og, z1, z2, z3⟩ := h
  have q0 : w.cell? ⟨g, 0, none⟩ = some (.int .i64 3) := cell_of_row w g 0 _ _ _ h1
  have q8 : w.cell? ⟨g, 8, none⟩ = some (.int .i64 m) := cell_of_row w g 8 _ _ _ h1
  have s8 := frozen_of_row w g 8 _ _ h1
  have HT := hide (RMemAt.tick h1 hr hb (wrap64 (m + 1)))
  have r0 : ∀ c', (w.setCell ⟨g, 8, none⟩ (.int .i64 c')).cell? ⟨g, 0, none⟩ = some (.int .i64 3) := fun c' => cell_of_row _ g 0 _ _ _ (RMemAt.tick h1 hr hb c').1
  have HB := hide hb
  clear h1 hr hb
  go_enter Tryz.func26, Tryz.ntmps26
  go_wp2
  go_ret2
  exact ⟨rfl, ⟨a, c, _, HT.out.1, HT.out.2.1, HB.out, og, z1, z2, z3⟩, HT.out.2.2.mono (fun k e => by rw [e]; exact og)⟩
theorem rrm_lay (O : Nat → Prop) (g : Nat) (kind : Int) (S : MS) (x : List UInt8) (ba : Option Addr) (bc mm : Nat) (a : Option Addr) (c : Nat) (mc : Int) (w wa : World) (hG : wa.heap[g]? = some (.cells (rmc kind (.slice a S.l.length c) S.room S.pl (.slice none 0 0) (.slice none 0 0) mc) 189))
    (hr : wa.ownsRow 0 5 1 (.slice a S.l.length c) S.l.length (S.l.map bv)) (hb : ∀ k, (Value.slice a S.l.length c).ownBlock = some k → O k ∧ k ≠ g) (og : O g) (hT : Turned (fun k => k = g) w wa) (z1 : S.l.length ≤ S.room) (z3 : S.room ≤ 1048576)
    (hx : Bys w (.slice ba x.length bc) x) (hap : ∀ k, (Value.slice ba x.length bc).ownBlock = some k → ¬ O k) (h0 : 0 < x.length) (hm0 : 0 < mm) (hm1 : mm ≤ x.length) (hm2 : S.pl + mm ≤ S.room) (W : World) (hW : Below wa.heap.size wa W) :
    Calls Tryz.prog 104 #[.slice a S.l.length c, .int .i64 S.pl, .slice ba mm bc] W fun e w2 => ∃ ua uc, e = .returned (.slice ua (lay S.l S.pl (x.take mm)).length uc) ∧ (w2.cell? ⟨g, 1, none⟩ = some (.slice a S.l.length c) ∧ w2.cell? ⟨g, 3, none⟩ = some (.int .i64 S.pl) ∧ w2.frozen? ⟨g, 1, none⟩ = false ∧ (w2.setCell ⟨g, 1, none⟩ (.slice ua (lay S.l S.pl (x.take mm)).length uc)).cell? ⟨g, 3, none⟩ = some (.int .i64 S.pl) ∧ (w2.setCell ⟨g, 1, none⟩ (.slice ua (lay S.l S.pl (x.take mm)).length uc)).frozen? ⟨g, 3, none⟩ = false) ∧
      Hid (RMStep w O g kind ⟨lay S.l S.pl (x.take mm), S.room, S.pl + mm⟩ ((w2.setCell ⟨g, 1, none⟩ (.slice ua (lay S.l S.pl (x.take mm)).length uc)).setCell ⟨g, 3, none⟩ (.int .i64 ((S.pl : Int) + (mm : Int))))) := by
  have hgl : g < wa.heap.size := (Array.getElem?_eq_some_iff.1 hG).1
  have htl : (x.take mm).length = mm := by rw [List.length_take]; omega
  have hap2 : ∀ k, (Value.slice ba mm bc).ownBlock = some k → ¬ O k := fun k e => hap k (by cases ba with | none => cases e | some q => exact e)
  have hne : x.take mm ≠ [] := fun e => by rw [e] at htl; simp at htl; omega
  have hcut : Bys w (.slice ba mm bc) (x.take mm) := by
    obtain ⟨_, xb, xo, rfl, hxl, hcells⟩ := bys_block hx h0
    have := bys_cut hx 0 mm bc (by omega)
    simpa using this
  have hcutW : Bys W (.slice ba mm bc) (x.take mm) := (hcut.turned hT (fun k e _ e' => hap2 k e (by have e2 : k = g := e'; rw [e2]; exact og))).below hW
  refine (lay_any 0 _ (.slice ba mm bc) S.l (x.take mm) S.pl W (owns_below hr hW) hcutW (fun _ k e e' => hap2 k e (hb k e').1) (by omega) (by rw [htl]; omega) (Nat.zero_le _)).mono ?_
  rintro _ w2 ⟨u, rfl, hu, hub, hT2⟩
  rw [← lay_rlay _ _ _ hne] at hu
  have hll : (lay S.l S.pl (x.take mm)).length ≤ S.room := by rw [lay_len, htl]; split <;> omega
  generalize lay S.l S.pl (x.take mm) = Z at *
  obtain ⟨ua, uc, rfl⟩ := owns_slice hu
  have hg2 : w2.heap[g]? = some (.cells (rmc kind (.slice a S.l.length c) S.room S.pl (.slice none 0 0) (.slice none 0 0) mc) 189) := by
    rw [hT2.block g (Nat.lt_of_lt_of_le hgl hW.size) (fun e => (hb g e).2 rfl), hW.block g hgl]
    exact hG
  have h3 := Go.heap_setCell_same w2 g 1 _ _ (.slice ua Z.length uc) hg2
  have h4 := Go.heap_setCell_same _ g 3 _ _ (.int .i64 ((S.pl : Int) + (mm : Int))) h3
  have hTz : Turned (fun k => k = g) w2 ((w2.setCell ⟨g, 1, none⟩ (.slice ua Z.length uc)).setCell ⟨g, 3, none⟩ (.int .i64 ((S.pl : Int) + (mm : Int)))) := ((Turned.refl (fun k => k = g) w2).set (.inl rfl)).set (.inl rfl)
  have hwz : w.heap.size ≤ W.heap.size := Nat.le_trans hT.size hW.size
  have hug : ∀ k, (Value.slice ua Z.length uc).ownBlock = some k → (O k ∨ w.heap.size ≤ k) ∧ k ≠ g := fun k e => by
    rcases hub k e with e1 | e1
    · exact ⟨.inl (hb k e1).1, (hb k e1).2⟩
    · have := hW.size
      exact ⟨.inr (by omega), by omega⟩
  refine ⟨ua, uc, rfl, ⟨cell_of_row _ g 1 _ _ _ hg2, cell_of_row _ g 3 _ _ _ hg2, frozen_of_row _ g 1 _ _ hg2, cell_of_row _ g 3 _ _ _ h3, frozen_of_row _ g 3 _ _ h3⟩, hide ⟨fun k => O k ∨ w.heap.size ≤ k, ⟨ua, uc, mc, ?_, owns_turned hu hTz (fun k e => (hug k e).2), hug, .inl og, hll, hm2, z3⟩, fun _ e => e, ?_⟩⟩
  · rw [h4]; rfl
  · have hTW : Turned O w W := (hT.mono (fun k e => by rw [e]; exact og)).trans (Turned.of_below (S := O) hW) (fun _ _ e => e)
    have hTw2 : Turned O w w2 := hTW.trans hT2 (fun k _ e => (hb k e).1)
    exact hTw2.trans hTz (fun k _ e => by have e2 : k = g := e; rw [e2]; exact og)
set_option maxRecDepth 100000 in
set_option maxHeartbeats 2000000 in
theorem rrmwrite_any (O : Nat → Prop) (g : Nat) (kind : Int) (S : MS) (x : List UInt8) (ba : Option Addr) (bc : Nat) (w : World) (h : RMemAt w O g kind S) (hk : kind = 1 ∨ kind = 2) (hx : Bys w (.slice ba x.length bc) x) (hc : x.length ≤ bc) (hap : 0 < x.length → ∀ k, (Value.slice ba x.length bc).ownBlock = some k → ¬ O k) :
    Calls Tryz.prog 26 #[.pointer (some ⟨g, 0, none⟩), .slice ba x.length bc] w fun e w' => e = .returned (.tuple #[.int .i64 (S.write x).1, .int .i64 (S.write x).2.1]) ∧ RMStep w O g kind (S.write x).2.2 w' := by
  obtain ⟨a, c, m, h1, hr, hb, og, z1, z2, z3⟩ := h
  have hk5 : (kind == 5) = false := by rcases hk with rfl | rfl <;> rfl
  have hk4 : (kind == 4) = false := by rcases hk with rfl | rfl <;> rfl
  have hk3 : (kind == 3) = false := by rcases hk with rfl | rfl <;> rfl
  have q0 : w.cell? ⟨g, 0, none⟩ = some (.int .i64 kind) := cell_of_row w g 0 _ _ _ h1
  have q8 : w.cell? ⟨g, 8, none⟩ = some (.int .i64 m) := cell_of_row w g 8 _ _ _ h1
  have s8 := frozen_of_row w g 8 _ _ h1
  have HT := hide (RMemAt.tick h1 hr hb (wrap64 (m + 1)))
  have r0 : ∀ c', (w.setCell ⟨g, 8, none⟩ (.int .i64 c')).cell? ⟨g, 0, none⟩ = some (.int .i64 kind) := fun c' => cell_of_row _ g 0 _ _ _ (RMemAt.tick h1 hr hb c').1
  have r1 : ∀ c', (w.setCell ⟨g, 8, none⟩ (.int .i64 c')).cell? ⟨g, 1, none⟩ = some (.slice a S.l.length c) := fun c' => cell_of_row _ g 1 _ _ _ (RMemAt.tick h1 hr hb c').1
  have r2 : ∀ c', (w.setCell ⟨g, 8, none⟩ (.int .i64 c')).cell? ⟨g, 2, none⟩ = some (.int .i64 S.room) := fun c' => cell_of_row _ g 2 _ _ _ (RMemAt.tick h1 hr hb c').1
  have r3 : ∀ c', (w.setCell ⟨g, 8, none⟩ (.int .i64 c')).cell? ⟨g, 3, none⟩ = some (.int .i64 S.pl) := fun c' => cell_of_row _ g 3 _ _ _ (RMemAt.tick h1 hr hb c').1
  have HX := hide (And.intro hx hap)
  have HB := hide hb
  clear h1 hr hb hk hx hap
  have HE : Hid (RMStep w O g kind S (w.setCell ⟨g, 8, none⟩ (.int .i64 (wrap64 (m + 1))))) := hide ⟨O, ⟨a, c, _, HT.out.1, HT.out.2.1, HB.out, og, z1, z2, z3⟩, fun _ e => .inl e, HT.out.2.2.mono (fun k e => by rw [e]; exact og)⟩
  unfold MS.write
  by_cases h1 : 1048576 < x.length
  · rw [if_pos h1]
    have e1 : (1048576 : Int) < (x.length : Int) := by omega
    go_enter Tryz.func26, Tryz.ntmps26
    go_wp2
    go_ret2
    exact ⟨rfl, HE.out⟩
  rw [if_neg h1]
  have e1 : ¬ (1048576 : Int) < (x.length : Int) := by omega
  by_cases h2 : x = []
  · rw [if_pos h2]
    subst h2
    clear e1
    simp only [List.length_nil] at *
    go_enter Tryz.func26, Tryz.ntmps26
    go_wp2
    go_ret2
    exact ⟨rfl, HE.out⟩
  rw [if_neg h2]
  have h0 : 0 < x.length := List.length_pos_iff.2 h2
  have e2 : ((x.length : Int) == 0) = false := by simp; omega
  clear h1 h2
  by_cases h3 : S.pl = S.room
  · rw [if_pos h3]
    have e3 : (S.room : Int) ≤ (S.pl : Int) := by omega
    clear h3
    go_enter Tryz.func26, Tryz.ntmps26
    go_wp2_with fail
    have k2 := r2 (wrap64 (m + 1))
    have k3 := r3 (wrap64 (m + 1))
    clear r0 r1 r2 r3 q0 q8 s8
    generalize w.setCell ⟨g, 8, none⟩ (.int .i64 (wrap64 (m + 1))) = wa at *
    go_quiet (fail)
    go_wp2
    go_ret2
    obtain ⟨O', y1, y2, y3⟩ := HE.out
    have hbn := below_drewN (Below.refl wa.heap.size wa) nq
    exact ⟨rfl, O', y1.keep (fun j _ hl => hbn.block j hl), y2, y3.trans (Turned.of_below (S := O) hbn) (fun _ _ e => e)⟩
  rw [if_neg h3]
  have e3 : ¬ (S.room : Int) ≤ (S.pl : Int) := by omega
  obtain ⟨mm, hmm⟩ : ∃ mm, mm = min x.length (S.room - S.pl) := ⟨_, rfl⟩
  rw [← hmm]
  have hm0 : 0 < mm := by omega
  have hm1 : mm ≤ x.length := by omega
  have hm2 : S.pl + mm ≤ S.room := by omega
  have hmi : min (x.length : Int) ((S.room : Int) - (S.pl : Int)) = (mm : Int) := by omega
  have hmc : mm ≤ bc := by omega
  have HL := hide (rrm_lay O g kind S x ba bc mm a c (wrap64 (m + 1)) w _ HT.out.1 HT.out.2.1 HB.out og HT.out.2.2 z1 z3 HX.out.1 (HX.out.2 h0) h0 hm0 hm1 hm2)
  clear h3 HE hmm HX
  generalize lay S.l S.pl (x.take mm) = Z at *
  go_enter Tryz.func26, Tryz.ntmps26
  go_wp2_with fail
  have k1 := r1 (wrap64 (m + 1))
  have k2 := r2 (wrap64 (m + 1))
  have k3 := r3 (wrap64 (m + 1))
  clear r0 r1 r2 r3 q0 q8 s8 HT
  generalize w.setCell ⟨g, 8, none⟩ (.int .i64 (wrap64 (m + 1))) = wa at *
  go_quiet (fail)
  go_wp2_with fail
  go_quiet (fail)
  go_wp2_with fail
  go_region_law (first
      | (go_simp; go_at_call 104; refine (HL.out _ (below_drewN (Below.refl _ _) _)).mono ?_; rintro _ w2 ⟨ua, uc, rfl, ⟨j1, j3, f1, j3', f3⟩, HN⟩)
      | fail)
  all_goals
    go_wp2
    go_ret2
    exact ⟨rfl, HN.out⟩
end Go.Proofs.YtanbiinomagdbaaGreat

/- Answers for the program: the law's answers. -/
namespace Go.Proofs.YtanbiinomagdbaaGreat
open Go.RowKit

def ACl (W : World) (l : List (List UInt8 × Int)) (xs : List Value) : Prop := xs.length = l.length * 2 ∧ ∀ j (hj : j < l.length), ∃ va vc, xs[j * 2]? = some (.slice va l[j].1.length vc) ∧ xs[j * 2 + 1]? = some (.int .i64 l[j].2) ∧ Bys W (.slice va l[j].1.length vc) l[j].1 ∧ l[j].1.length ≤ vc
theorem duo_cells (w : World) (a b : Value) (t : TypeId) : (w.alloc (Obj.cells #[a, b] t)).cell? ⟨w.heap.size, 0, none⟩ = some a ∧ (w.alloc (Obj.cells #[a, b] t)).cell? ⟨w.heap.size, 1, none⟩ = some b := by
  constructor <;> (simp only [World.cell?, heap_alloc_new]; rfl)
theorem ACl.snoc {W : World} {l : List (List UInt8 × Int)} {xs : List Value} (h : ACl W l xs) (x : List UInt8 × Int) (va : Option Addr) (vc : Nat) (hb : Bys W (.slice va x.1.length vc) x.1) (hc : x.1.length ≤ vc) : ACl W (l ++ [x]) (xs ++ [.slice va x.1.length vc, .int .i64 x.2]) := by
  obtain ⟨h1, h2⟩ := h
  refine ⟨by simp; omega, fun j hj => ?_⟩
  by_cases hlt : j < l.length
  · obtain ⟨va', vc', e1, e2, e3⟩ := h2 j hlt
    rw [List.getElem_append_left hlt]
    exact ⟨va', vc', by rw [List.getElem?_append_left (by omega)]; exact e1, by rw [List.getElem?_append_left (by omega)]; exact e2, e3⟩
  · obtain rfl : j = l.length := by simp at hj; omega
    rw [List.getElem_append_right (Nat.le_refl _)]
    refine ⟨va, vc, ?_, ?_, by simpa using hb, by simpa using hc⟩
    · rw [List.getElem?_append_right (by omega), h1, Nat.sub_self]; simp
    · rw [List.getElem?_append_right (by omega), h1, show l.length * 2 + 1 - l.length * 2 = 1 by omega]; simp
theorem acl_ansR {W w : World} {base : Nat} {v : Value} {l : List (List UInt8 × Int)} {xs : List Value} (h1 : w.ownsRow base 187 2 v l.length xs) (h2 : ACl W l xs) (hB : Below W.heap.size W w) : AnsR w v l := by
  rcases h1.2 with ⟨rfl, h0⟩ | ⟨g, cap, cur, rfl, hr⟩
  · obtain rfl : l = [] := List.length_eq_zero_iff.1 h0
    exact ⟨_, _, rfl, fun h => absurd h (by simp)⟩
  · refine ⟨_, cap, rfl, fun _ => ⟨g, 0, rfl, fun j hj => ?_⟩⟩
    obtain ⟨va, vc, e1, e2, e3, e4⟩ := h2.2 j hj
    have hx := h2.1
    have k1 := h1.cellAt (j * 2) (by omega)
    have k2 := h1.cellAt (j * 2 + 1) (by omega)
    rw [e1] at k1
    rw [e2] at k2
    rw [Nat.zero_add]
    exact ⟨va, vc, k1, k2, e3.below hB, e4⟩
theorem AnsR.at {W W' : World} {a : Option Addr} {n c : Nat} {l : List (List UInt8 × Int)} (h : AnsR W (.slice a n c) l) (hB : Below W.heap.size W W') (j : Nat) (hj : j < l.length) :
    ∃ b off va vc, a = some ⟨b, off, none⟩ ∧ b < W.heap.size ∧ W'.cell? ⟨b, off + j * 2, none⟩ = some (.slice va l[j].1.length vc) ∧ W'.cell? ⟨b, off + j * 2 + 1, none⟩ = some (.int .i64 l[j].2) ∧ Bys W (.slice va l[j].1.length vc) l[j].1 ∧ l[j].1.length ≤ vc := by
  obtain ⟨a', c', he, hc⟩ := h
  cases he
  obtain ⟨b, off, rfl, hd⟩ := hc (by omega)
  obtain ⟨va, vc, a1, a2, a3, a4⟩ := hd j hj
  have hl := World.block_lt_of_cell? W _ a1
  exact ⟨b, off, va, vc, rfl, hl, (hB.cell (p := ⟨b, off + j * 2, none⟩) hl).trans a1, (hB.cell (p := ⟨b, off + j * 2 + 1, none⟩) hl).trans a2, a3, a4⟩
theorem run_append_ans (w : World) (t e ty : TypeId) (base : Nat) (s : Value) (n : Nat) (xs : List Value) (g : Nat) (u0 u1 : Value) (ht : Tryz.prog.underlying t = some (.slice e)) (hinf : (Tryz.prog.info? e).map (fun i => (i.zero, i.size, i.bytes)) = some (some (.agg #[.slice none 0 0, .int .i64 0]), 2, 32))
    (hs : w.ownsRow base e 2 s n xs) (c0 : w.cell? ⟨g, 0, none⟩ = some u0) (c1 : w.cell? ⟨g, 1, none⟩ = some u1) (o0 : u0.oneCell' = true) (o1 : u1.oneCell' = true) (hn : (n + 1) * 32 ≤ 140737488355328) (hb : base ≤ w.heap.size) :
    ∃ sa sc w', (Builtin.append_ #[t, t] ty #[s, .slice (some ⟨g, 0, none⟩) 1 1]).run Tryz.prog w = .ok (.slice sa (n + 1) sc) w' ∧ Hid (w'.ownsRow base e 2 (.slice sa (n + 1) sc) (n + 1) (xs ++ [u0, u1])) ∧ w.grownBy w' s.ownBlock ∧ ((Value.slice sa (n + 1) sc).ownBlock = s.ownBlock ∨ (Value.slice sa (n + 1) sc).ownBlock = some w.heap.size) := by
  obtain ⟨i0, hi, hz0, hz1, hz2⟩ := info_parts hinf
  obtain ⟨v', w', r1, r2, r3, _, r5⟩ := run_append_own_at (P := Tryz.prog) w base t ty e i0 (.agg #[.slice none 0 0, .int .i64 0]) 2 32 ht hi hz0 hz1 hz2 rfl (by decide) s _ _ hs ⟨g, 0, none⟩ 1 1 [u0, u1] rfl (fun j u hj => by
    have hadd : (⟨g, 0, none⟩ : Addr).add j = ⟨g, j, none⟩ := by unfold Addr.add; split <;> simp_all
    rw [hadd]
    match j, hj with
    | 0, hj => simp at hj; subst hj; exact c0
    | 1, hj => simp at hj; subst hj; exact c1) (by intro u hu; simp at hu; rcases hu with rfl | rfl; exact o0; exact o1) (by unfold maxLen; omega) (by omega) hb
  obtain ⟨sa, sc, rfl⟩ := owns_slice r2
  exact ⟨sa, sc, w', r1, r2, r3, r5⟩
set_option maxRecDepth 100000 in
set_option maxHeartbeats 4000000 in
theorem answers_any (a : Option Addr) (c : Nat) (l : List (List UInt8 × Int)) (w : World) (h : AnsR w (.slice a l.length c) l) (hs : l.length * 32 ≤ 140737488351232) :
    Calls Tryz.prog 94 #[.slice a l.length c] w fun e w' => ∃ va vc, e = .returned (.slice va l.length vc) ∧ AnsR w' (.slice va l.length vc) l ∧ Below w.heap.size w w' := by
  have H := hide h
  clear h
  go_enter Tryz.func94, Tryz.ntmps94
  go_wp2
  have H0 : Hid (w.ownsRow w.heap.size 187 2 (.slice none 0 0) 0 [] ∧ ACl w (l.take 0) []) := hide ⟨World.ownsRow_nil _ _ _ _, by simp [ACl]⟩
  go_loopg [3, 4] l.length (fun gq s3 s4 wx => ∃ (k : Nat) (xs : List Value), k + gq = l.length ∧ s4 = .int .i64 k ∧ (∃ sa sc, s3 = .slice sa k sc) ∧ Hid (wx.ownsRow w.heap.size 187 2 s3 k xs ∧ ACl w (l.take k) xs) ∧ Hid (Below w.heap.size w wx))
  case atStart => exact ⟨0, [], by omega, rfl, ⟨none, 0, rfl⟩, H0, hide (Below.refl _ _)⟩
  case round =>
    clear H0
    obtain ⟨k, xs, hkg, rfl, ⟨sa, sc, rfl⟩, HI, HB⟩ := hrel
    have hz := HB.out.size
    by_cases hlt : k < l.length
    · obtain ⟨gq, rfl⟩ : ∃ gq, gk = gq + 1 := ⟨gk - 1, by omega⟩
      obtain ⟨b, off, va, vc, rfl, hbl, q0, q1, hby, hcap⟩ := H.out.at HB.out k hlt
      have hk1 : (0 : Int) ≤ (k : Int) := by omega
      have hk2 : (k : Int) < (l.length : Int) := by omega
      have HE : Hid (l.take (k + 1) = l.take k ++ [l[k]]) := hide (List.take_succ_eq_append_getElem hlt)
      have HA := hide (HI.out.2.snoc l[k] va vc hby hcap)
      generalize l[k] = y at *
      obtain ⟨d, e⟩ := y
      simp only at *
      have hBa := recv4 wr.drew (Obj.cells #[.slice va d.length vc, .int .i64 e] 187)
      have c0 : (wr.drew.alloc (Obj.cells #[.slice va d.length vc, .int .i64 e] 187)).cell? ⟨wr.heap.size, 0, none⟩ = some (.slice va d.length vc) := (duo_cells wr.drew _ _ _).1
      have c1 : (wr.drew.alloc (Obj.cells #[.slice va d.length vc, .int .i64 e] 187)).cell? ⟨wr.heap.size, 1, none⟩ = some (.int .i64 e) := (duo_cells wr.drew _ _ _).2
      obtain ⟨sa', sc', w4, hrun, HO, hgr, -⟩ := run_append_ans _ 183 187 183 w.heap.size _ k xs wr.heap.size _ _ Tryz.underlying183 Tryz.infoA (owns_below (owns_below HI.out.1 (Below.refl _ _).drew) hBa) c0 c1 rfl rfl (by omega) (Nat.le_trans hz hBa.size)
      have HR := hide hrun
      have hBw := (HB.out.drew).trans (hBa.mono hz)
      have HB4 := hide (hBw.grown hgr hBw.size (fun j e => (HI.out.1.lt j e).1))
      clear hrun hgr hBa hBw c0 c1 hby HI
      go_wp2_with fail
      go_region_law (first | (refine step_append_run _ (by rfl) _ _ _ _ (by rfl) _ _ (by rfl) (by rfl) _ _ HR.out ?_) | fail)
      all_goals
        go_wp2
        go_roundg gq
        case measure => omega
        case rel => exact ⟨k + 1, _, by omega, by go_num, ⟨sa', sc', rfl⟩, hide ⟨HO.out, by rw [HE.out]; exact HA.out⟩, HB4⟩
    · obtain rfl : k = l.length := by omega
      go_wp2
      go_ret
      have h1 := HI.out
      rw [List.take_of_length_le (Nat.le_refl _)] at h1
      exact ⟨sa, sc, rfl, acl_ansR h1.1 h1.2 HB.out, HB.out⟩
end Go.Proofs.YtanbiinomagdbaaGreat

/- The reference's custom stream: made. -/
namespace Go.Proofs.YtanbiinomagdbaaGreat
open Go.RowKit

theorem Tryz.infoR : (Tryz.prog.info? 295).map (fun i => (i.zero, i.size, i.bytes)) = some (some (.agg #[.slice none 0 0, .int .i64 0]), 2, 32) := by kernel_rfl
def ARw (W : World) (base : Nat) (l : List (List UInt8 × Int)) (xs : List Value) : Prop := xs.length = l.length * 2 ∧ ∀ j (hj : j < l.length), ∃ va vc, xs[j * 2]? = some (.slice va l[j].1.length vc) ∧ xs[j * 2 + 1]? = some (.int .i64 l[j].2) ∧ W.ownsRow base 5 1 (.slice va l[j].1.length vc) l[j].1.length (l[j].1.map bv)
theorem ARw.keep {W W' : World} {base : Nat} {l : List (List UInt8 × Int)} {xs : List Value} (h : ARw W base l xs) (hk : ∀ k va vc n (d : List UInt8), W.ownsRow base 5 1 (.slice va n vc) n (d.map bv) → (Value.slice va n vc).ownBlock = some k → W'.heap[k]? = W.heap[k]?) : ARw W' base l xs := by
  refine ⟨h.1, fun j hj => ?_⟩
  obtain ⟨va, vc, e1, e2, e3⟩ := h.2 j hj
  exact ⟨va, vc, e1, e2, owns_keep e3 fun k hk' => hk k va vc _ _ e3 hk'⟩
theorem ARw.below {W W' : World} {base : Nat} {l : List (List UInt8 × Int)} {xs : List Value} (h : ARw W base l xs) (hB : Below W.heap.size W W') : ARw W' base l xs := h.keep fun k _ _ _ _ h1 h2 => hB.block k (h1.lt k h2).2
theorem ARw.snoc {W : World} {base : Nat} {l : List (List UInt8 × Int)} {xs : List Value} (h : ARw W base l xs) (x : List UInt8 × Int) (va : Option Addr) (vc : Nat) (hb : W.ownsRow base 5 1 (.slice va x.1.length vc) x.1.length (x.1.map bv)) : ARw W base (l ++ [x]) (xs ++ [.slice va x.1.length vc, .int .i64 x.2]) := by
  obtain ⟨h1, h2⟩ := h
  refine ⟨by simp; omega, fun j hj => ?_⟩
  by_cases hlt : j < l.length
  · obtain ⟨va', vc', e1, e2, e3⟩ := h2 j hlt
    rw [List.getElem_append_left hlt]
    exact ⟨va', vc', by rw [List.getElem?_append_left (by omega)]; exact e1, by rw [List.getElem?_append_left (by omega)]; exact e2, e3⟩
  · obtain rfl : j = l.length := by simp at hj; omega
    rw [List.getElem_append_right (Nat.le_refl _)]
    refine ⟨va, vc, ?_, ?_, by simpa using hb⟩
    · rw [List.getElem?_append_right (by omega), h1, Nat.sub_self]; simp
    · rw [List.getElem?_append_right (by omega), h1, show l.length * 2 + 1 - l.length * 2 = 1 by omega]; simp
theorem owns_other {W : World} {b1 b2 e1 e2 s1 s2 n1 n2 : Nat} {v1 v2 : Value} {x1 x2 : List Value} (h1 : W.ownsRow b1 e1 s1 v1 n1 x1) (h2 : W.ownsRow b2 e2 s2 v2 n2 x2) (hne : e1 ≠ e2) (k : Nat) (k1 : v1.ownBlock = some k) (k2 : v2.ownBlock = some k) : False := by
  rcases h1.2 with ⟨rfl, _⟩ | ⟨g, cap, cur, rfl, _, hg, _⟩
  · cases k1
  · rcases h2.2 with ⟨rfl, _⟩ | ⟨g', cap', cur', rfl, _, hg', _⟩
    · cases k2
    · obtain rfl : g = k := by simpa [Value.ownBlock] using k1
      obtain rfl : g' = g := by simpa [Value.ownBlock] using k2
      rw [hg] at hg'
      injection hg' with hg'
      injection hg' with _ h5 _
      exact hne h5
set_option maxHeartbeats 1000000 in
theorem rnewCustom_count (a1 a2 : Option Addr) (n1 n2 c1 c2 : Nat) (w : World) (h : 4096 < n1 ∨ 4096 < n2) :
    Calls Tryz.prog 92 #[.slice a1 n1 c1, .slice a2 n2 c2] w fun e w' => e = .returned (.tuple #[.pointer none, .int .i64 3]) ∧ w = w' := by
  rcases (show (4096 : Int) < (n1 : Int) ∨ (¬ (4096 : Int) < (n1 : Int) ∧ (4096 : Int) < (n2 : Int)) by omega) with h1 | ⟨h1, h2⟩
  all_goals
    clear h
    go_enter Tryz.func92, Tryz.ntmps92
    go_wp2
    go_ret2
    exact ⟨rfl, rfl⟩
structure RBlk (W : World) (g : Nat) (rv wv : Value) : Prop where
  row : W.heap[g]? = some (.cells (rmc 4 (.slice none 0 0) 0 0 rv wv 0) 189)
theorem RBlk.c4 {W : World} {g : Nat} {rv wv : Value} (h : RBlk W g rv wv) : W.cell? ⟨g, 4, none⟩ = some rv := cell_of_row W g 4 _ _ _ h.row
theorem RBlk.c5 {W : World} {g : Nat} {rv wv : Value} (h : RBlk W g rv wv) : W.cell? ⟨g, 5, none⟩ = some wv := cell_of_row W g 5 _ _ _ h.row
theorem RBlk.f4 {W : World} {g : Nat} {rv wv : Value} (h : RBlk W g rv wv) : W.frozen? ⟨g, 4, none⟩ = false := frozen_of_row W g 4 _ _ h.row
theorem RBlk.f5 {W : World} {g : Nat} {rv wv : Value} (h : RBlk W g rv wv) : W.frozen? ⟨g, 5, none⟩ = false := frozen_of_row W g 5 _ _ h.row
theorem RBlk.keep {W W' : World} {g : Nat} {rv wv : Value} (h : RBlk W g rv wv) (hk : W'.heap[g]? = W.heap[g]?) : RBlk W' g rv wv := ⟨hk.trans h.row⟩
theorem RBlk.set4 {W : World} {g : Nat} {rv wv : Value} (h : RBlk W g rv wv) (u : Value) : RBlk (W.setCell ⟨g, 4, none⟩ u) g u wv := ⟨Go.heap_setCell_same W g 4 _ _ u h.row⟩
theorem RBlk.set5 {W : World} {g : Nat} {rv wv : Value} (h : RBlk W g rv wv) (u : Value) : RBlk (W.setCell ⟨g, 5, none⟩ u) g rv u := ⟨Go.heap_setCell_same W g 5 _ _ u h.row⟩
theorem rblk_new (w : World) : RBlk (w.alloc (Obj.cells #[.int .i64 4, .slice none 0 0, .int .i64 0, .int .i64 0, .slice none 0 0, .slice none 0 0, .pointer none, .int .i64 0, .int .i64 0] 189)) w.heap.size (.slice none 0 0) (.slice none 0 0) := ⟨heap_alloc_new _ _⟩
def RIn (W : World) (g k : Nat) (sa : Option Addr) (sc : Nat) (l : List (List UInt8 × Int)) (xs : List Value) : Prop := RBlk W g (.slice sa k sc) (.slice none 0 0) ∧ W.ownsRow (g + 1) 295 2 (.slice sa k sc) k xs ∧ ARw W (g + 1) l xs
def RS (W : World) (b o : Nat) (va : Option Addr) (vc n : Nat) (e : Int) : Prop := W.cell? ⟨b, o, none⟩ = some (.slice va n vc) ∧ W.cell? ⟨b, o + 1, none⟩ = some (.int .i64 e)
set_option maxHeartbeats 1000000 in
theorem rnc_step (w wr : World) (k : Nat) (sa : Option Addr) (sc : Nat) (l : List (List UInt8 × Int)) (xs : List Value) (b o : Nat) (va : Option Addr) (vc : Nat) (d : List UInt8) (e : Int) (hk : k ≤ 4096) (hd : d.length ≤ 1048576) (hI : RIn wr w.heap.size k sa sc l xs) (hB : Below w.heap.size w wr) (hz : w.heap.size + 1 ≤ wr.heap.size) (hb : b < w.heap.size) (hS : RS wr b o va vc d.length e) (hby : Bys wr (.slice va d.length vc) d) :
    Calls Tryz.prog 173 #[.slice va d.length vc] wr.drew fun en w2 => ∃ ua uc sa' sc' w7, en = .returned (.slice ua d.length uc) ∧ Hid ((Builtin.append_ #[46, 46] 46 #[.slice sa k sc, .slice (some ⟨w2.heap.size, 0, none⟩) 1 1]).run Tryz.prog (w2.alloc (Obj.cells #[.slice ua d.length uc, .int .i64 e] 295)) = .ok (.slice sa' (k + 1) sc') w7) ∧
      RS w2 b o va vc d.length e ∧ RS (w2.alloc (Obj.cells #[.slice ua d.length uc, .int .i64 e] 295)) b o va vc d.length e ∧ RS w7 b o va vc d.length e ∧ RS (w7.setCell ⟨w.heap.size, 4, none⟩ (.slice sa' (k + 1) sc')) b o va vc d.length e ∧
      (w2.cell? ⟨w.heap.size, 4, none⟩ = some (.slice sa k sc) ∧ (w2.alloc (Obj.cells #[.slice ua d.length uc, .int .i64 e] 295)).cell? ⟨w.heap.size, 4, none⟩ = some (.slice sa k sc) ∧ w7.cell? ⟨w.heap.size, 4, none⟩ = some (.slice sa k sc) ∧ w7.frozen? ⟨w.heap.size, 4, none⟩ = false) ∧
      Hid (RIn (w7.setCell ⟨w.heap.size, 4, none⟩ (.slice sa' (k + 1) sc')) w.heap.size (k + 1) sa' sc' (l ++ [(d, e)]) (xs ++ [.slice ua d.length uc, .int .i64 e]) ∧ Below w.heap.size w (w7.setCell ⟨w.heap.size, 4, none⟩ (.slice sa' (k + 1) sc')) ∧ w.heap.size + 1 ≤ (w7.setCell ⟨w.heap.size, 4, none⟩ (.slice sa' (k + 1) sc')).heap.size) := by
  have hsd : wr.drew.heap.size = wr.heap.size := rfl
  have hBd : Below wr.heap.size wr wr.drew := (Below.refl _ wr).drew
  refine (rcopied_me _ d _ (hby.below hBd) (by omega)).mono ?_
  rintro _ w2 ⟨ua, uc, rfl, hownu, hB2⟩
  have hB2' : Below wr.heap.size wr w2 := hBd.trans hB2
  have hBa : Below w2.heap.size w2 (w2.alloc (Obj.cells #[.slice ua d.length uc, .int .i64 e] 295)) := recv4 _ _
  have hz2 := hB2'.size
  have hza := hBa.size
  have hBra := hB2'.trans (hBa.mono hz2)
  have hU := owns_below hownu hBa
  have hO := owns_below hI.2.1 hBra
  have hA := hI.2.2.below hBra
  obtain ⟨sa', sc', w7, hrun, HO7, hg7, -⟩ := run_append_ans (w2.alloc (Obj.cells #[.slice ua d.length uc, .int .i64 e] 295)) 46 295 46 (w.heap.size + 1) _ k xs w2.heap.size _ _ Tryz.underlying46 Tryz.infoR hO (duo_cells w2 _ _ _).1 (duo_cells w2 _ _ _).2 rfl rfl (by omega) (by omega)
  refine ⟨ua, uc, sa', sc', w7, rfl, ?_⟩
  generalize w2.alloc (Obj.cells #[.slice ua d.length uc, .int .i64 e] 295) = wa at *
  have hz7 := hg7.size
  have hbk : ∀ j, j < w.heap.size + 1 → w7.heap[j]? = wr.heap[j]? := fun j h1 => (hg7.block j (by omega) (fun e => by have := (hO.lt j e.symm).1; omega)).trans (hBra.block j (by omega))
  have hB7 : Below w.heap.size w w7 := by
    have h1 := hB.trans (hBra.mono hB.size)
    exact h1.grown hg7 h1.size (fun j e => by have := (hO.lt j e).1; omega)
  have hRB : RBlk w7 w.heap.size (.slice sa k sc) (.slice none 0 0) := hI.1.keep (hbk _ (by omega))
  have K7 : RS w7 b o va vc d.length e := ⟨(World.cell?_of_block (w := wr) (a := ⟨b, o, none⟩) (hbk b (by omega))).trans hS.1, (World.cell?_of_block (w := wr) (a := ⟨b, o + 1, none⟩) (hbk b (by omega))).trans hS.2⟩
  have hA7 : ARw w7 (w.heap.size + 1) l xs := hA.keep fun j va vc n d h1 h2 => hg7.block j (h1.lt j h2).2 (fun e => owns_other h1 hO (by decide) j h2 e.symm)
  have hU7 := owns_keep (W' := w7) hU fun j h2 => hg7.block j (hU.lt j h2).2 (fun e => owns_other hU hO (by decide) j h2 e.symm)
  have hA8 := hA7.snoc (d, e) ua uc (owns_mono hU7 (by omega))
  have far : ∀ j, w.heap.size + 1 ≤ j → (w7.setCell ⟨w.heap.size, 4, none⟩ (.slice sa' (k + 1) sc')).heap[j]? = w7.heap[j]? := fun j h1 => heap_setCell_other _ _ _ _ (by show j ≠ w.heap.size; omega)
  refine ⟨hide hrun, ⟨(hB2'.cell (p := ⟨b, o, none⟩) (by show b < _; omega)).trans hS.1, (hB2'.cell (p := ⟨b, o + 1, none⟩) (by show b < _; omega)).trans hS.2⟩, ⟨(hBra.cell (p := ⟨b, o, none⟩) (by show b < _; omega)).trans hS.1, (hBra.cell (p := ⟨b, o + 1, none⟩) (by show b < _; omega)).trans hS.2⟩, K7, ⟨(World.cell?_setCell_far _ _ _ _ (by show w.heap.size ≠ b; omega)).trans K7.1, (World.cell?_setCell_far _ _ _ _ (by show w.heap.size ≠ b; omega)).trans K7.2⟩, ⟨(hB2'.cell (p := ⟨w.heap.size, 4, none⟩) (by show w.heap.size < _; omega)).trans hI.1.c4, (hBra.cell (p := ⟨w.heap.size, 4, none⟩) (by show w.heap.size < _; omega)).trans hI.1.c4, hRB.c4, hRB.f4⟩,
    hide ⟨⟨hRB.set4 _, owns_keep HO7.out fun j h2 => far j (HO7.out.lt j h2).1, hA8.keep fun j va vc n d h1 h2 => far j (h1.lt j h2).1⟩, hB7.setCell (p := ⟨w.heap.size, 4, none⟩) (Nat.le_refl _) _, by simp only [World.setCell, Array.size_modify]; omega⟩⟩
def RCus0 (W : World) (g : Nat) (l : List (List UInt8 × Int)) (ws : List Int) : Prop :=
  ∃ sa sc xs wv, RBlk W g (.slice sa l.length sc) wv ∧ W.ownsRow (g + 1) 295 2 (.slice sa l.length sc) l.length xs ∧ ARw W (g + 1) l xs ∧ W.ownsRow (g + 1) 3 1 wv ws.length (ws.map iv)
set_option maxRecDepth 100000 in
set_option maxHeartbeats 4000000 in
theorem rnewCustom_any (a1 : Option Addr) (c1 : Nat) (v2 : Value) (l : List (List UInt8 × Int)) (ws : List Int) (w : World) (h1 : AnsR w (.slice a1 l.length c1) l) (h2 : IntsR w v2 ws) (z1 : l.length ≤ 4096) (z2 : ws.length ≤ 4096) :
    Calls Tryz.prog 92 #[.slice a1 l.length c1, v2] w fun e w' => Below w.heap.size w w' ∧ (((∃ x ∈ l, 1048576 < x.1.length) ∧ e = .returned (.tuple #[.pointer none, .int .i64 5])) ∨ (∀ x ∈ l, x.1.length ≤ 1048576) ∧ e = .returned (.tuple #[.pointer (some ⟨w.heap.size, 0, none⟩), .int .i64 0]) ∧ RCus0 w' w.heap.size l ws) := by
  have H1 := hide h1
  have H2 := hide h2
  obtain ⟨a2, c2, rfl⟩ := h2.form
  clear h1 h2
  have q1 : ¬ (4096 : Int) < (l.length : Int) := by omega
  have q2 : ¬ (4096 : Int) < (ws.length : Int) := by omega
  go_enter Tryz.func92, Tryz.ntmps92
  go_wp2
  have HK := hide (rblk_new w)
  have hB0 := recv4 w (Obj.cells #[.int .i64 4, .slice none 0 0, .int .i64 0, .int .i64 0, .slice none 0 0, .slice none 0 0, .pointer none, .int .i64 0, .int .i64 0] 189)
  have hz0 : (w.alloc (Obj.cells #[.int .i64 4, .slice none 0 0, .int .i64 0, .int .i64 0, .slice none 0 0, .slice none 0 0, .pointer none, .int .i64 0, .int .i64 0] 189)).heap.size = w.heap.size + 1 := Array.size_push _
  generalize w.alloc (Obj.cells #[.int .i64 4, .slice none 0 0, .int .i64 0, .int .i64 0, .slice none 0 0, .slice none 0 0, .pointer none, .int .i64 0, .int .i64 0] 189) = w0 at *
  have HB0 := hide hB0
  clear hB0
  go_loopg [7] l.length (fun gq s7 wx => ∃ (k : Nat) (sa : Option Addr) (sc : Nat) (xs : List Value), k + gq = l.length ∧ s7 = .int .i64 k ∧ Hid (RIn wx w.heap.size k sa sc (l.take k) xs) ∧ Hid (Below w.heap.size w wx) ∧ w.heap.size + 1 ≤ wx.heap.size ∧ Hid (∀ x ∈ l.take k, x.1.length ≤ 1048576))
  case atStart => exact ⟨0, none, 0, [], by omega, rfl, hide ⟨HK.out, World.ownsRow_nil _ _ _ _, by simp [ARw]⟩, HB0, by omega, hide (by simp)⟩
  case round =>
    clear HK HB0
    obtain ⟨k, sa, sc, xs, hkg, rfl, HI, HB, hz, HM⟩ := hrel
    by_cases hlt : k < l.length
    · obtain ⟨gq, rfl⟩ : ∃ gq, gk = gq + 1 := ⟨gk - 1, by omega⟩
      obtain ⟨b, off, va, vc, rfl, hbl, hc0, hc1, hby, hcap⟩ := H1.out.at HB.out k hlt
      have hk1 : (0 : Int) ≤ (k : Int) := by omega
      have hk2 : (k : Int) < (l.length : Int) := by omega
      have HE : Hid (l.take (k + 1) = l.take k ++ [l[k]]) := hide (List.take_succ_eq_append_getElem hlt)
      have HX : Hid (l[k] ∈ l) := hide (List.getElem_mem hlt)
      generalize l[k] = y at *
      obtain ⟨d, e⟩ := y
      simp only at *
      have HBy := hide (hby.below HB.out)
      clear hby
      by_cases hov : (1048576 : Int) < (d.length : Int)
      · go_wp2
        go_ret2
        exact ⟨HB.out, .inl ⟨⟨_, HX.out, by show _ < d.length; omega⟩, rfl⟩⟩
      · have k4 : wr.cell? ⟨w.heap.size, 4, none⟩ = some (.slice sa k sc) := HI.out.1.c4
        have HC := hide (rnc_step w wr k sa sc (l.take k) xs b (off + k * 2) va vc d e (by omega) (by omega) HI.out HB.out hz hbl ⟨hc0, hc1⟩ HBy.out)
        go_wp2_with fail
        go_region_law (first
            | (refine step_append_run _ (by rfl) _ _ _ _ (by rfl) _ _ (by rfl) (by rfl) _ _ HR.out ?_)
            | (go_simp; go_at_call 173; refine HC.out.mono ?_; rintro _ w2 ⟨ua, uc, sa', sc', w7, rfl, HR, ⟨K2a, K2b⟩, ⟨Kaa, Kab⟩, ⟨K7a, K7b⟩, K8, ⟨k42, k4a, k47, f47⟩, HN⟩)
            | fail)
        all_goals
          go_wp2
          go_roundg gq
          case measure => omega
          case rel =>
            refine ⟨k + 1, sa', sc', _, by omega, by go_num, hide (by rw [HE.out]; exact HN.out.1), hide HN.out.2.1, HN.out.2.2, hide ?_⟩
            intro x hx
            rw [HE.out] at hx
            rcases List.mem_append.1 hx with h | h
            · exact HM.out x h
            · obtain rfl := List.mem_singleton.1 h
              show d.length ≤ _
              omega
    · obtain rfl : k = l.length := by omega
      obtain ⟨s', w7, hrun, HO7, hg7⟩ := run_append_ints wr 47 (.slice a2 ws.length c2) ws (H2.out.below HB.out) (by omega)
      obtain ⟨ya, yc, rfl⟩ := owns_slice HO7.out
      have hB7 : Below wr.heap.size wr w7 := (Below.refl _ wr).grown hg7 (Nat.le_refl _) (fun k e => by cases e)
      have hRB : RBlk w7 w.heap.size (.slice sa l.length sc) (.slice none 0 0) := HI.out.1.keep (hB7.block _ (by omega))
      have k5 := HI.out.1.c5
      have k57 := hRB.c5
      have f57 := hRB.f5
      have HR := hide hrun
      have HRB := hide hRB
      clear hrun hRB
      go_wp2_with (at_builtin; refine Lib.wpList_append_run _ rfl _ _ _ _ rfl _ _ rfl rfl _ _ HR.out ?_)
      go_ret2
      have hm := HM.out
      have hi := HI.out
      rw [List.take_of_length_le (Nat.le_refl _)] at hm hi
      have far : ∀ j, w.heap.size + 1 ≤ j → (w7.setCell ⟨w.heap.size, 5, none⟩ (.slice ya ws.length yc)).heap[j]? = w7.heap[j]? := fun j h1 => heap_setCell_other _ _ _ _ (by show j ≠ w.heap.size; omega)
      refine ⟨(HB.out.trans (hB7.mono HB.out.size)).setCell (p := ⟨w.heap.size, 5, none⟩) (Nat.le_refl _) _, .inr ⟨hm, rfl, _, _, _, _, HRB.out.set5 _, owns_keep (owns_below hi.2.1 hB7) fun j h2 => far j (hi.2.1.lt j h2).1, (hi.2.2.below hB7).keep fun j va vc n d h1 h2 => far j (h1.lt j h2).1, owns_keep (owns_mono HO7.out hz) fun j h2 => far j (by have := (HO7.out.lt j h2).1; omega)⟩⟩
end Go.Proofs.YtanbiinomagdbaaGreat

/- A custom stream: an answer is used up. -/
namespace Go.Proofs.YtanbiinomagdbaaGreat
open Go.RowKit

theorem CusAt.cut {W : World} {O : Nat → Prop} {g n : Nat} {C : CS} {d : List UInt8} {r : List (List UInt8 × Int)} (h : CusAt W O g C) (hr : C.reads = (d, 0) :: r) (hn : n < d.length) :
    ∃ b off cap db doff dc, W.cell? ⟨g, 1, none⟩ = some (.slice (some ⟨b, off, none⟩) (r.length + 1) cap) ∧ W.cell? ⟨b, off, none⟩ = some (.slice (some ⟨db, doff, none⟩) d.length dc) ∧ W.frozen? ⟨b, off, none⟩ = false ∧ d.length ≤ dc ∧
      CusAt (W.setCell ⟨b, off, none⟩ (.slice (some ⟨db, doff + n, none⟩) (d.length - n) (dc - n))) O g ⟨(d.drop n, 0) :: r, C.writes, C.taken⟩ ∧ O b := by
  obtain ⟨rv, wv, tv, R, N, ⟨h0, h1, h2, h3⟩, ⟨f1, f2, f3⟩, hA, hN, hT, ht, hR, hN2, og, l1, l2, l3⟩ := h
  rw [hr] at hA l1 l3
  have hnd : nrm (d, (0 : Int)) = (d, 0) := by simp [nrm]
  rw [List.map_cons, hnd] at hA
  obtain ⟨b, off, cap, rfl, hcap, hb, ⟨va, vc, a1, a2, a3, a4, a5, a6, a7⟩, hrest⟩ := hA.head
  obtain ⟨_, db, doff, rfl, hdl, hdc⟩ := bys_block a5 (by show 0 < d.length; omega)
  have hne : ∀ k, Value.slice (some ⟨db, doff, none⟩) (d, (0 : Int)).1.length vc ≠ .int .u8 k := fun k e => by cases e
  have hbg := (hR b hb).2.1
  rw [List.length_map] at h1 hcap
  refine ⟨b, off, cap, db, doff, vc, h1, a1, a3, a6, ⟨.slice (some ⟨b, off, none⟩) (r.length + 1) cap, wv, tv, R, N, ⟨?_, ?_, ?_, ?_⟩, ⟨?_, ?_, ?_⟩, ?_, hN.set a1 (.inr fun k e e' => (hR b hb).2.2 (by have e2 : k = b := e'; rw [← e2]; exact e)) _, owns_keep hT fun k e => Below.heap_setCell _ _ _ _ (fun e' => (ht k e).2.1 (by have e2 : k = b := e'; rw [e2]; exact hb)), ht, hR, hN2, og, l1, l2, fun x hx => ?_⟩, (hR b hb).1⟩
  · exact (World.cell?_setCell_other _ _ _ _ (fun e => hbg (congrArg Addr.block e))).trans h0
  · exact (World.cell?_setCell_other _ _ _ _ (fun e => hbg (congrArg Addr.block e))).trans h1
  · exact (World.cell?_setCell_other _ _ _ _ (fun e => hbg (congrArg Addr.block e))).trans h2
  · exact (World.cell?_setCell_other _ _ _ _ (fun e => hbg (congrArg Addr.block e))).trans h3
  · exact (World.frozen?_setCell _ _ _ _).trans f1
  · exact (World.frozen?_setCell _ _ _ _).trans f2
  · exact (World.frozen?_setCell _ _ _ _).trans f3
  · have hnd2 : nrm (d.drop n, (0 : Int)) = (d.drop n, 0) := by simp [nrm]
    show Ans _ R _ (((d.drop n, (0 : Int)) :: r).map nrm)
    rw [List.map_cons, hnd2]
    refine ⟨_, cap, by rw [List.length_cons, List.length_map], by rw [List.length_cons, List.length_map]; exact hcap, fun _ => ⟨b, off, rfl, hb, fun j hj => ?_⟩⟩
    cases j with
    | zero =>
      rw [Nat.zero_mul, Nat.add_zero]
      refine ⟨some ⟨db, doff + n, none⟩, vc - n, ?_, (World.cell?_setCell_other _ _ _ _ (by simp)).trans a2, (World.frozen?_setCell _ _ _ _).trans a3, (World.frozen?_setCell _ _ _ _).trans a4, ?_, ?_, fun _ k e => a7 (by show 0 < d.length; omega) k (by simpa [Value.ownBlock] using e)⟩
      · show World.cell? _ _ = some (.slice _ (d.drop n).length _)
        rw [List.length_drop]
        exact World.cell?_setCell_same _ _ _ a1
      · show Bys _ (.slice _ (d.drop n).length _) (d.drop n)
        have := (bys_cut a5 n (d.length - n) (vc - n) (by show n + (d.length - n) ≤ d.length; omega)).set a1 hne (.slice (some ⟨db, doff + n, none⟩) (d.length - n) (vc - n))
        rw [List.length_drop]
        rwa [List.take_of_length_le (by rw [List.length_drop]; exact Nat.le_refl _)] at this
      · show (d.drop n).length ≤ _
        rw [List.length_drop]
        have : d.length ≤ vc := a6
        omega
    | succ j =>
      have hj' : j < (r.map nrm).length := by simpa using hj
      have := (hrest j hj').set a1 hne (by simp <;> omega) (by simp <;> omega) (.slice (some ⟨db, doff + n, none⟩) (d.length - n) (vc - n))
      rw [show off + (j + 1) * 2 = off + 2 + j * 2 by omega]
      simpa using this
  · rcases List.mem_cons.1 hx with rfl | hx
    · show (d.drop n).length ≤ 1048576
      have : d.length ≤ 1048576 := l3 (d, 0) (by simp)
      rw [List.length_drop]; omega
    · exact l3 x (List.mem_cons_of_mem _ hx)
theorem CusAt.pop {W : World} {O : Nat → Prop} {g : Nat} {C : CS} {x : List UInt8 × Int} {r : List (List UInt8 × Int)} (h : CusAt W O g C) (hr : C.reads = x :: r) :
    ∃ b off cap va vc, W.cell? ⟨g, 1, none⟩ = some (.slice (some ⟨b, off, none⟩) (r.length + 1) cap) ∧ W.cell? ⟨b, off, none⟩ = some (.slice va (nrm x).1.length vc) ∧ W.cell? ⟨b, off + 1, none⟩ = some (.int .i64 x.2) ∧ W.frozen? ⟨b, off, none⟩ = false ∧ W.frozen? ⟨b, off + 1, none⟩ = false ∧ W.frozen? ⟨g, 1, none⟩ = false ∧ r.length + 1 ≤ cap ∧ b ≠ g ∧ O b ∧ O g ∧
      (1 < cap → CusAt (((W.setCell ⟨b, off, none⟩ (.slice none 0 0)).setCell ⟨b, off + 1, none⟩ (.int .i64 0)).setCell ⟨g, 1, none⟩ (.slice (some ⟨b, off + 2, none⟩) r.length (cap - 1))) O g ⟨r, C.writes, C.taken⟩) ∧
      (cap = 1 → r = [] ∧ ∀ a, CusAt (((W.setCell ⟨b, off, none⟩ (.slice none 0 0)).setCell ⟨b, off + 1, none⟩ (.int .i64 0)).setCell ⟨g, 1, none⟩ (.slice a 0 0)) O g ⟨r, C.writes, C.taken⟩) := by
  obtain ⟨rv, wv, tv, R, N, ⟨h0, h1, h2, h3⟩, ⟨f1, f2, f3⟩, hA, hN, hT, ht, hR, hN2, og, l1, l2, l3⟩ := h
  rw [hr] at hA l1 l3
  rw [List.map_cons] at hA
  obtain ⟨b, off, cap, rfl, hcap, hb, ⟨va, vc, a1, a2, a3, a4, a5, a6, a7⟩, hrest⟩ := hA.head
  have hnx : (nrm x).2 = x.2 := by unfold nrm; split <;> rfl
  rw [hnx] at a2
  have hbg := (hR b hb).2.1
  rw [List.length_map] at h1 hcap
  have hne : ∀ k, Value.slice va (nrm x).1.length vc ≠ .int .u8 k := fun k e => by cases e
  have hne2 : ∀ k, Value.int .i64 x.2 ≠ .int .u8 k := fun k e => by cases e
  have hne3 : ∀ k, Value.slice (some (⟨b, off, none⟩ : Addr)) (r.length + 1) cap ≠ .int .u8 k := fun k e => by cases e
  have m1 : (W.setCell ⟨b, off, none⟩ (.slice none 0 0)).cell? ⟨b, off + 1, none⟩ = some (.int .i64 x.2) := (World.cell?_setCell_other _ _ _ _ (by simp)).trans a2
  have m2 : ((W.setCell ⟨b, off, none⟩ (.slice none 0 0)).setCell ⟨b, off + 1, none⟩ (.int .i64 0)).cell? ⟨g, 1, none⟩ = some (.slice (some ⟨b, off, none⟩) (r.length + 1) cap) :=
    (World.cell?_setCell_other _ _ _ _ (fun e => hbg (congrArg Addr.block e))).trans ((World.cell?_setCell_other _ _ _ _ (fun e => hbg (congrArg Addr.block e))).trans h1)
  have key : ∀ u, (Ans (((W.setCell ⟨b, off, none⟩ (.slice none 0 0)).setCell ⟨b, off + 1, none⟩ (.int .i64 0)).setCell ⟨g, 1, none⟩ u) R u (r.map nrm)) → CusAt (((W.setCell ⟨b, off, none⟩ (.slice none 0 0)).setCell ⟨b, off + 1, none⟩ (.int .i64 0)).setCell ⟨g, 1, none⟩ u) O g ⟨r, C.writes, C.taken⟩ := by
    intro u hu
    refine ⟨u, wv, tv, R, N, ⟨?_, World.cell?_setCell_same _ _ _ m2, ?_, ?_⟩, ⟨?_, ?_, ?_⟩, hu, ?_, ?_, ht, hR, hN2, og, by simp at l1; show r.length ≤ 4096; omega, l2, fun y hy => l3 y (List.mem_cons_of_mem _ hy)⟩
    · exact (World.cell?_setCell_other _ _ _ _ (by simp)).trans ((World.cell?_setCell_other _ _ _ _ (fun e => hbg (congrArg Addr.block e))).trans ((World.cell?_setCell_other _ _ _ _ (fun e => hbg (congrArg Addr.block e))).trans h0))
    · exact (World.cell?_setCell_other _ _ _ _ (by simp)).trans ((World.cell?_setCell_other _ _ _ _ (fun e => hbg (congrArg Addr.block e))).trans ((World.cell?_setCell_other _ _ _ _ (fun e => hbg (congrArg Addr.block e))).trans h2))
    · exact (World.cell?_setCell_other _ _ _ _ (by simp)).trans ((World.cell?_setCell_other _ _ _ _ (fun e => hbg (congrArg Addr.block e))).trans ((World.cell?_setCell_other _ _ _ _ (fun e => hbg (congrArg Addr.block e))).trans h3))
    · rw [World.frozen?_setCell, World.frozen?_setCell, World.frozen?_setCell]; exact f1
    · rw [World.frozen?_setCell, World.frozen?_setCell, World.frozen?_setCell]; exact f2
    · rw [World.frozen?_setCell, World.frozen?_setCell, World.frozen?_setCell]; exact f3
    · exact ((hN.set a1 (.inr fun k e e' => (hR b hb).2.2 (by have e2 : k = b := e'; rw [← e2]; exact e)) _).set m1 (.inr fun k e e' => (hR b hb).2.2 (by have e2 : k = b := e'; rw [← e2]; exact e)) _).set m2 (.inr fun k e => (hN2 k e).2) _
    · exact owns_keep hT fun k e => (Below.heap_setCell _ _ _ _ (fun e' => (ht k e).2.2.2 e')).trans ((Below.heap_setCell _ _ _ _ (fun e' => (ht k e).2.1 (by have e2 : k = b := e'; rw [e2]; exact hb))).trans (Below.heap_setCell _ _ _ _ (fun e' => (ht k e).2.1 (by have e2 : k = b := e'; rw [e2]; exact hb))))
  refine ⟨b, off, cap, va, vc, h1, a1, a2, a3, a4, f1, hcap, hbg, (hR b hb).1, og, fun hc => key _ ?_, fun hc => ⟨List.length_eq_zero_iff.1 (by omega), fun a => key _ ?_⟩⟩
  · refine ⟨_, _, by rw [List.length_map], by rw [List.length_map]; omega, fun _ => ⟨b, off + 2, rfl, hb, fun j hj => ?_⟩⟩
    exact ((((hrest j hj).set a1 hne (by simp <;> omega) (by simp <;> omega) _).set m1 hne2 (by simp <;> omega) (by simp <;> omega) _).set m2 hne3 (fun e => hbg (congrArg Addr.block e).symm) (fun e => hbg (congrArg Addr.block e).symm) _)
  · obtain rfl : r = [] := List.length_eq_zero_iff.1 (by omega)
    exact ⟨_, _, rfl, Nat.le_refl _, fun h => absurd h (by simp)⟩
end Go.Proofs.YtanbiinomagdbaaGreat
