/- The reference's memories: made; which memories may be. -/
import Derived.Test.YtimggonlfkboaaaMeNew2
namespace Go.Proofs.Ytimggonlfkboaaa
open Go.RowKit

set_option maxHeartbeats 1000000 in
theorem rcopied_me (v : Value) (l : List UInt8) (w : World) (h : Bys w v l) (hs : l.length ≤ 140737488351232) :
    Calls Try.prog 35 #[v] w fun e w' => ∃ a c, e = .returned (.slice a l.length c) ∧ w'.ownsRow w.heap.size 5 1 (.slice a l.length c) l.length (l.map bv) ∧ Below w.heap.size w w' := by
  obtain ⟨s', w1, hrun, HO, hg, hb⟩ := run_append_bytes w 22 w.heap.size (.slice none 0 0) v [] l (World.ownsRow_nil _ _ _ _) h (by simpa using hs) (Nat.le_refl _)
  have HR := hide hrun
  have HB : Hid (Below w.heap.size w w1) := hide ((Below.refl _ _).grown hg (Nat.le_refl _) (fun j e => by cases e))
  simp only [List.nil_append] at HO
  obtain ⟨a, c, rfl⟩ := owns_slice HO.out
  clear hrun hg hb
  obtain ⟨a1, c1, rfl, -⟩ := bys_form h
  clear h
  go_enter Try.func35, Try.ntmps35
  go_wp2_with (at_builtin; refine Lib.wpList_append_run _ rfl _ _ _ _ rfl _ _ rfl rfl _ _ HR.out ?_)
  go_ret
  exact ⟨_, _, rfl, HO.out, HB.out⟩
/-- Block g is the reference's memory of a kind; all that it has lies within O. -/
def RMemAt (W : World) (O : Nat → Prop) (g : Nat) (kind : Int) (S : MS) : Prop :=
  ∃ a c m, (W.cell? ⟨g, 0, none⟩ = some (.int .i64 kind) ∧ W.cell? ⟨g, 1, none⟩ = some (.slice a S.l.length c) ∧ W.cell? ⟨g, 2, none⟩ = some (.int .i64 S.room) ∧ W.cell? ⟨g, 3, none⟩ = some (.int .i64 S.pl) ∧ W.cell? ⟨g, 8, none⟩ = some (.int .i64 m)) ∧
    (W.frozen? ⟨g, 1, none⟩ = false ∧ W.frozen? ⟨g, 3, none⟩ = false ∧ W.frozen? ⟨g, 8, none⟩ = false) ∧
    W.ownsRow 0 5 1 (.slice a S.l.length c) S.l.length (S.l.map bv) ∧ (∀ k, (Value.slice a S.l.length c).ownBlock = some k → O k ∧ k ≠ g) ∧ O g ∧ S.l.length ≤ S.room ∧ S.pl ≤ S.room ∧ S.room ≤ 1048576
theorem RMemAt.keep {W W' : World} {O : Nat → Prop} {g : Nat} {kind : Int} {S : MS} (h : RMemAt W O g kind S) (hk : ∀ j, O j → j < W.heap.size → W'.heap[j]? = W.heap[j]?) : RMemAt W' O g kind S := by
  obtain ⟨a, c, m, ⟨h0, h1, h2, h3, h8⟩, ⟨f1, f3, f8⟩, hr, hb, og, rest⟩ := h
  have kg := hk g og (World.block_lt_of_cell? W _ h0)
  exact ⟨a, c, m, ⟨(World.cell?_of_block (w := W) kg).trans h0, (World.cell?_of_block (w := W) kg).trans h1, (World.cell?_of_block (w := W) kg).trans h2, (World.cell?_of_block (w := W) kg).trans h3, (World.cell?_of_block (w := W) kg).trans h8⟩,
    ⟨(World.frozen?_of_block (w := W) kg).trans f1, (World.frozen?_of_block (w := W) kg).trans f3, (World.frozen?_of_block (w := W) kg).trans f8⟩, owns_keep hr fun k e => hk k (hb k e).1 (hr.lt k e).2, hb, og, rest⟩
theorem RMemAt.trim {W : World} {O : Nat → Prop} {g : Nat} {kind : Int} {S : MS} (h : RMemAt W O g kind S) : RMemAt W (fun k => O k ∧ k < W.heap.size) g kind S := by
  obtain ⟨a, c, m, hc, hf, hr, hb, og, rest⟩ := h
  exact ⟨a, c, m, hc, hf, hr, fun k e => ⟨⟨(hb k e).1, (hr.lt k e).2⟩, (hb k e).2⟩, ⟨og, World.block_lt_of_cell? W _ hc.1⟩, rest⟩
theorem rmem_new {w0 w1 : World} {l : List UInt8} {a : Option Addr} {c room : Nat} {kind : Int} (hr : w1.ownsRow w0.heap.size 5 1 (.slice a l.length c) l.length (l.map bv)) (hB : Below w0.heap.size w0 w1) (hl : l.length ≤ room) (hm : room ≤ 1048576) :
    RMemAt (w1.alloc (Obj.cells #[.int .i64 kind, .slice a l.length c, .int .i64 (room : Int), .int .i64 0, .slice none 0 0, .slice none 0 0, .pointer none, .int .i64 0, .int .i64 0] 84)) (fun k => w0.heap.size ≤ k) w1.heap.size kind ⟨l, room, 0⟩ ∧ Below w0.heap.size w0 (w1.alloc (Obj.cells #[.int .i64 kind, .slice a l.length c, .int .i64 (room : Int), .int .i64 0, .slice none 0 0, .slice none 0 0, .pointer none, .int .i64 0, .int .i64 0] 84)) := by
  have hb := recv4 w1 (Obj.cells #[.int .i64 kind, .slice a l.length c, .int .i64 (room : Int), .int .i64 0, .slice none 0 0, .slice none 0 0, .pointer none, .int .i64 0, .int .i64 0] 84)
  refine ⟨⟨a, c, 0, ⟨?_, ?_, ?_, ?_, ?_⟩, ⟨?_, ?_, ?_⟩, owns_mono (owns_below hr hb) (Nat.zero_le _), fun k e => ⟨(hr.lt k e).1, by have := (hr.lt k e).2; omega⟩, hB.size, hl, Nat.zero_le _, hm⟩, hB.alloc hB.size _⟩
  · simp only [World.cell?, heap_alloc_new]; rfl
  · simp only [World.cell?, heap_alloc_new]; rfl
  · simp only [World.cell?, heap_alloc_new]; rfl
  · simp only [World.cell?, heap_alloc_new]; rfl
  · simp only [World.cell?, heap_alloc_new]; rfl
  · simp only [World.frozen?, heap_alloc_new]; rfl
  · simp only [World.frozen?, heap_alloc_new]; rfl
  · simp only [World.frozen?, heap_alloc_new]; rfl
/-- What a new memory is told. -/
def fixE (size : Int) (l : List UInt8) : Int := if size < 0 ∨ 1048576 < size then 4 else if size < (l.length : Int) then 5 else 0
def grE (l : List UInt8) : Int := if 1048576 < l.length then 5 else 0
def PNewM (E : Int) (S : MS) (w : World) (e : Ending) (w' : World) : Prop := ∃ p, e = .returned (.tuple #[.pointer p, .int .i64 E]) ∧ Below w.heap.size w w' ∧ ((E ≠ 0 ∧ p = none) ∨ (E = 0 ∧ ∃ g, p = some ⟨g, 0, none⟩ ∧ MemAt w' (fun k => w.heap.size ≤ k) g S))
def RNewM (E : Int) (kind : Int) (S : MS) (w : World) (e : Ending) (w' : World) : Prop := ∃ p, e = .returned (.tuple #[.pointer p, .int .i64 E]) ∧ Below w.heap.size w w' ∧ ((E ≠ 0 ∧ p = none) ∨ (E = 0 ∧ ∃ g, p = some ⟨g, 0, none⟩ ∧ RMemAt w' (fun k => w.heap.size ≤ k) g kind S))
theorem newFixed_any (size : Int) (v : Value) (l : List UInt8) (w : World) (hb : Bys w v l) : Calls Try.prog 8 #[.int .i64 size, v] w (PNewM (fixE size l) ⟨l, size.toNat, 0⟩ w) := by
  obtain ⟨a1, c1, rfl, -⟩ := bys_form hb
  unfold fixE
  by_cases h1 : size < 0 ∨ 1048576 < size
  · rw [if_pos h1]
    refine (newFixed_range size a1 _ c1 w h1).mono ?_
    rintro e w' ⟨rfl, rfl⟩
    exact ⟨_, rfl, Below.refl _ _, .inl ⟨by decide, rfl⟩⟩
  rw [if_neg h1]
  by_cases h2 : size < (l.length : Int)
  · rw [if_pos h2]
    refine (newFixed_long size a1 _ c1 w (by omega) (by omega) h2).mono ?_
    rintro e w' ⟨rfl, hB⟩
    exact ⟨_, rfl, hB, .inl ⟨by decide, rfl⟩⟩
  rw [if_neg h2]
  obtain ⟨R, rfl⟩ : ∃ R : Nat, size = R := ⟨size.toNat, by omega⟩
  refine (newFixed_good R _ l w hb (by omega) (by omega)).mono ?_
  rintro e w' ⟨g, rfl, hM, hB⟩
  exact ⟨_, rfl, hB, .inr ⟨rfl, g, rfl, hM⟩⟩
theorem newGrowing_any (v : Value) (l : List UInt8) (w : World) (hb : Bys w v l) : Calls Try.prog 10 #[v] w (PNewM (grE l) ⟨l, 1048576, 0⟩ w) := by
  unfold grE
  by_cases h1 : 1048576 < l.length
  · rw [if_pos h1]
    refine (newGrowing_long v l w hb h1).mono ?_
    rintro e w' ⟨rfl, hB⟩
    exact ⟨_, rfl, hB, .inl ⟨by decide, rfl⟩⟩
  · rw [if_neg h1]
    refine (newGrowing_good v l w hb (by omega)).mono ?_
    rintro e w' ⟨g, rfl, hM, hB⟩
    exact ⟨_, rfl, hB, .inr ⟨rfl, g, rfl, hM⟩⟩
theorem newReader_any (v : Value) (l : List UInt8) (w : World) (hb : Bys w v l) : Calls Try.prog 12 #[v] w (PNewM (grE l) ⟨l, l.length, 0⟩ w) := by
  unfold grE
  by_cases h1 : 1048576 < l.length
  · rw [if_pos h1]
    refine (newReader_long v l w hb h1).mono ?_
    rintro e w' ⟨rfl, hB⟩
    exact ⟨_, rfl, hB, .inl ⟨by decide, rfl⟩⟩
  · rw [if_neg h1]
    refine (newReader_good v l w hb (by omega)).mono ?_
    rintro e w' ⟨g, rfl, hM, hB⟩
    exact ⟨_, rfl, hB, .inr ⟨rfl, g, rfl, hM⟩⟩
set_option maxRecDepth 100000 in
set_option maxHeartbeats 1000000 in
theorem rnewFixed_any (size : Int) (v : Value) (l : List UInt8) (w : World) (hb : Bys w v l) : Calls Try.prog 9 #[.int .i64 size, v] w (RNewM (fixE size l) 1 ⟨l, size.toNat, 0⟩ w) := by
  have HB := hide hb
  obtain ⟨a1, c1, rfl, -⟩ := bys_form hb
  clear hb
  unfold fixE
  by_cases h1 : size < 0 ∨ 1048576 < size
  · rw [if_pos h1]
    rcases (show size < 0 ∨ (¬ size < 0 ∧ 1048576 < size) by omega) with h2 | ⟨h2, h3⟩
    all_goals
      clear h1
      go_enter Try.func9, Try.ntmps9
      go_wp2
      go_ret2
      exact ⟨_, rfl, Below.refl _ _, .inl ⟨by decide, rfl⟩⟩
  rw [if_neg h1]
  have h3 : ¬ size < 0 := by omega
  have h4 : ¬ 1048576 < size := by omega
  by_cases h2 : size < (l.length : Int)
  · rw [if_pos h2]
    clear h1
    go_enter Try.func9, Try.ntmps9
    go_wp2
    go_ret2
    exact ⟨_, rfl, Below.refl _ _, .inl ⟨by decide, rfl⟩⟩
  rw [if_neg h2]
  obtain ⟨R, rfl⟩ : ∃ R : Nat, size = R := ⟨size.toNat, by omega⟩
  clear h1
  go_enter Try.func9, Try.ntmps9
  go_wp2_with fail
  refine (rcopied_me _ l w HB.out (by omega)).mono ?_
  rintro _ w1 ⟨a, c, rfl, hr, hB⟩
  have HR := hide hr
  clear hr
  go_wp2
  go_ret2
  obtain ⟨q1, q2⟩ := rmem_new (kind := 1) (room := R) HR.out hB (by omega) (by omega)
  exact ⟨_, rfl, q2, .inr ⟨rfl, _, rfl, q1⟩⟩
set_option maxRecDepth 100000 in
set_option maxHeartbeats 1000000 in
theorem rnewGrowing_any (v : Value) (l : List UInt8) (w : World) (hb : Bys w v l) : Calls Try.prog 11 #[v] w (RNewM (grE l) 2 ⟨l, 1048576, 0⟩ w) := by
  have HB := hide hb
  obtain ⟨a1, c1, rfl, -⟩ := bys_form hb
  clear hb
  unfold grE
  by_cases h1 : 1048576 < l.length
  · rw [if_pos h1]
    have h2 : (1048576 : Int) < (l.length : Int) := by omega
    go_enter Try.func11, Try.ntmps11
    go_wp2
    go_ret2
    exact ⟨_, rfl, Below.refl _ _, .inl ⟨by decide, rfl⟩⟩
  rw [if_neg h1]
  have h2 : ¬ (1048576 : Int) < (l.length : Int) := by omega
  go_enter Try.func11, Try.ntmps11
  go_wp2_with fail
  refine (rcopied_me _ l w HB.out (by omega)).mono ?_
  rintro _ w1 ⟨a, c, rfl, hr, hB⟩
  have HR := hide hr
  clear hr
  go_wp2
  go_ret2
  obtain ⟨q1, q2⟩ := rmem_new (kind := 2) (room := 1048576) HR.out hB (by omega) (by omega)
  exact ⟨_, rfl, q2, .inr ⟨rfl, _, rfl, q1⟩⟩
set_option maxRecDepth 100000 in
set_option maxHeartbeats 1000000 in
theorem rnewReader_any (v : Value) (l : List UInt8) (w : World) (hb : Bys w v l) : Calls Try.prog 13 #[v] w (RNewM (grE l) 3 ⟨l, l.length, 0⟩ w) := by
  have HB := hide hb
  obtain ⟨a1, c1, rfl, -⟩ := bys_form hb
  clear hb
  unfold grE
  by_cases h1 : 1048576 < l.length
  · rw [if_pos h1]
    have h2 : (1048576 : Int) < (l.length : Int) := by omega
    go_enter Try.func13, Try.ntmps13
    go_wp2
    go_ret2
    exact ⟨_, rfl, Below.refl _ _, .inl ⟨by decide, rfl⟩⟩
  rw [if_neg h1]
  have h2 : ¬ (1048576 : Int) < (l.length : Int) := by omega
  go_enter Try.func13, Try.ntmps13
  go_wp2_with fail
  refine (rcopied_me _ l w HB.out (by omega)).mono ?_
  rintro _ w1 ⟨a, c, rfl, hr, hB⟩
  have HR := hide hr
  clear hr
  go_wp2
  go_ret2
  obtain ⟨q1, q2⟩ := rmem_new (kind := 3) (room := l.length) HR.out hB (by omega) (by omega)
  exact ⟨_, rfl, q2, .inr ⟨rfl, _, rfl, q1⟩⟩
end Go.Proofs.Ytimggonlfkboaaa
