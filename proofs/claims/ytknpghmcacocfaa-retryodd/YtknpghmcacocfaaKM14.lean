/- What the proof stands on, part 14: the contracts of the program's calls that it reaches. -/
import Derived.Test.YtknpghmcacocfaaKM13
/- The law's own Raw: Odd. -/
namespace Go.Proofs.Ytknpghmcacocfaa
open Go.RowKit Go.Maps

/-- A slice that holds these numbers. -/
def IRow (W : World) (v : Value) (l : List Int) : Prop := ∃ a cap, v = .slice a l.length cap ∧ l.length ≤ cap ∧ (0 < l.length → ∃ b off, a = some ⟨b, off, none⟩ ∧ ∀ j (hj : j < l.length), W.cell? ⟨b, off + j, none⟩ = some (.int .i64 l[j]))
theorem IRow.keep {W W' : World} {v : Value} {l : List Int} (h : IRow W v l) (hk : ∀ k, v.ownBlock = some k → k < W.heap.size → W'.heap[k]? = W.heap[k]?) : IRow W' v l := by
  obtain ⟨a, cap, rfl, h1, h2⟩ := h
  refine ⟨a, cap, rfl, h1, fun h0 => ?_⟩
  obtain ⟨b, off, rfl, hc⟩ := h2 h0
  exact ⟨b, off, rfl, fun j hj => (World.cell?_of_block (w := W) (a := ⟨b, off + j, none⟩) (hk b rfl (World.block_lt_of_cell? W _ (hc j hj)))).trans (hc j hj)⟩
theorem IRow.next {W : World} {b off cap : Nat} {k : Int} {r : List Int} (h : IRow W (.slice (some ⟨b, off, none⟩) (k :: r).length cap) (k :: r)) : W.cell? ⟨b, off, none⟩ = some (.int .i64 k) ∧ (1 < cap → IRow W (.slice (some ⟨b, off + 1, none⟩) r.length (cap - 1)) r) ∧ (cap = 1 → r = []) := by
  obtain ⟨a, cap', he, h1, h2⟩ := h
  cases he
  obtain ⟨b', off', he, hc⟩ := h2 (by simp)
  cases he
  refine ⟨hc 0 (by simp), fun hcap => ⟨_, _, rfl, by simp at h1; omega, fun h0 => ⟨b, off + 1, rfl, fun j hj => ?_⟩⟩, fun h3 => ?_⟩
  · have := hc (j + 1) (by simpa using hj)
    rw [show off + (j + 1) = off + 1 + j by omega] at this
    exact this
  · simp at h1
    exact List.length_eq_zero_iff.1 (by omega)
/-- An Odd as a value. -/
structure OddS where
  reads : List Int
  writes : List Int
  err : Int
def oddD : RawD OddS where
  read s _ := match s.reads with
    | [] => ([], s.err, s)
    | k :: r => (List.replicate (min k.toNat 5000) 0, 0, ⟨r, s.writes, s.err⟩)
  write s _ := match s.writes with
    | [] => (0, s.err, s)
    | k :: r => (k, 0, ⟨s.reads, r, s.err⟩)
/-- An Odd in memory. -/
structure OddC (W : World) (g : Nat) (O : Nat → Prop) (rv wv : Value) (s : OddS) : Prop where
  reads : W.cell? ⟨g, 0, none⟩ = some rv
  writes : W.cell? ⟨g, 1, none⟩ = some wv
  err : W.cell? ⟨g, 2, none⟩ = some (.int .i64 s.err)
  soft0 : W.frozen? ⟨g, 0, none⟩ = false
  soft1 : W.frozen? ⟨g, 1, none⟩ = false
  row : IRow W rv s.reads
  wow : IRow W wv s.writes
  own : O g
  rown : ∀ k, rv.ownBlock = some k → O k ∧ k ≠ g
  wown : ∀ k, wv.ownBlock = some k → O k ∧ k ≠ g
def OddAt (g : Nat) (W : World) (O : Nat → Prop) (s : OddS) : Prop := ∃ rv wv, OddC W g O rv wv s
theorem OddC.keep {W W' : World} {g : Nat} {O : Nat → Prop} {rv wv : Value} {s : OddS} (h : OddC W g O rv wv s) (hk : ∀ j, O j → j < W.heap.size → W'.heap[j]? = W.heap[j]?) : OddC W' g O rv wv s := by
  have hg := World.block_lt_of_cell? W _ h.reads
  have hb := hk g h.own hg
  exact ⟨(World.cell?_of_block (w := W) (a := ⟨g, 0, none⟩) hb).trans h.reads, (World.cell?_of_block (w := W) (a := ⟨g, 1, none⟩) hb).trans h.writes, (World.cell?_of_block (w := W) (a := ⟨g, 2, none⟩) hb).trans h.err, (World.frozen?_of_block (w := W) (a := ⟨g, 0, none⟩) hb).trans h.soft0, (World.frozen?_of_block (w := W) (a := ⟨g, 1, none⟩) hb).trans h.soft1,
    h.row.keep (fun k e hl => hk k (h.rown k e).1 hl), h.wow.keep (fun k e hl => hk k (h.wown k e).1 hl), h.own, h.rown, h.wown⟩
/-- Another slice of numbers in the first place. -/
theorem OddC.setr {W : World} {g : Nat} {O : Nat → Prop} {rv wv v' : Value} {s : OddS} {r : List Int} (h : OddC W g O rv wv s) (hb : ∀ k, v'.ownBlock = some k → rv.ownBlock = some k) (hr : IRow W v' r) : OddC (W.setCell ⟨g, 0, none⟩ v') g O v' wv ⟨r, s.writes, s.err⟩ := by
  have ho : ∀ k, k ≠ g → (W.setCell ⟨g, 0, none⟩ v').heap[k]? = W.heap[k]? := fun k hk => Below.heap_setCell _ _ _ _ hk
  exact ⟨World.cell?_setCell_same _ _ _ h.reads, (World.cell?_setCell_other _ _ _ _ (by simp)).trans h.writes, (World.cell?_setCell_other _ _ _ _ (by simp)).trans h.err, (World.frozen?_setCell _ _ _ _).trans h.soft0, (World.frozen?_setCell _ _ _ _).trans h.soft1,
    hr.keep (fun k e _ => ho k (h.rown k (hb k e)).2), h.wow.keep (fun k e _ => ho k (h.wown k e).2), h.own, fun k e => h.rown k (hb k e), h.wown⟩
theorem OddC.setw {W : World} {g : Nat} {O : Nat → Prop} {rv wv v' : Value} {s : OddS} {r : List Int} (h : OddC W g O rv wv s) (hb : ∀ k, v'.ownBlock = some k → wv.ownBlock = some k) (hr : IRow W v' r) : OddC (W.setCell ⟨g, 1, none⟩ v') g O rv v' ⟨s.reads, r, s.err⟩ := by
  have ho : ∀ k, k ≠ g → (W.setCell ⟨g, 1, none⟩ v').heap[k]? = W.heap[k]? := fun k hk => Below.heap_setCell _ _ _ _ hk
  exact ⟨(World.cell?_setCell_other _ _ _ _ (by simp)).trans h.reads, World.cell?_setCell_same _ _ _ h.writes, (World.cell?_setCell_other _ _ _ _ (by simp)).trans h.err, (World.frozen?_setCell _ _ _ _).trans h.soft0, (World.frozen?_setCell _ _ _ _).trans h.soft1,
    h.row.keep (fun k e _ => ho k (h.rown k e).2), hr.keep (fun k e _ => ho k (h.wown k (hb k e)).2), h.own, h.rown, fun k e => h.wown k (hb k e)⟩
theorem set_turned {W : World} {g i : Nat} {O : Nat → Prop} {v' : Value} (h : O g) : Turned O W (W.setCell ⟨g, i, none⟩ v') := (Turned.refl O W).set (.inl h)
theorem irow_none {W : World} {a : Option Addr} {cap : Nat} : IRow W (.slice a 0 cap) [] := ⟨a, cap, rfl, Nat.zero_le _, fun h => absurd h (by simp)⟩
set_option maxRecDepth 100000 in
set_option maxHeartbeats 2000000 in
theorem odd_write {w : World} {O : Nat → Prop} {s : OddS} (g : Nat) (bs : List UInt8) (a : Option Addr) (n c : Nat) (h : OddAt g w O s) :
    Calls Try.prog 122 #[.pointer (some ⟨g, 0, none⟩), .slice a n c] w fun e w' => e = .returned (.tuple #[.int .i64 (oddD.write s bs).1, .int .i64 (oddD.write s bs).2.1]) ∧ OddAt g w' O (oddD.write s bs).2.2 ∧ Turned O w w' := by
  obtain ⟨rv, wv, h⟩ := h
  have c1 := h.writes
  have c2 := h.err
  have c3 := h.soft1
  obtain ⟨reads, writes, err⟩ := s
  have HC := hide h
  obtain ⟨wa, wc, rfl, hcap, hpos⟩ := h.wow
  simp only at c1 c2 hcap hpos HC
  clear h
  cases writes with
  | nil =>
    simp only [List.length_nil] at c1
    go_enter Try.func122, Try.ntmps122
    go_wp2
    go_quiet (fail)
    go_wp2
    go_ret2
    exact ⟨rfl, ⟨_, _, HC.out.keep (fun _ _ _ => rfl)⟩, ⟨rfl, rfl, rfl, Nat.le_refl _, fun _ _ _ => rfl⟩⟩
  | cons k r =>
    obtain ⟨b, off, rfl, -⟩ := hpos (by simp)
    obtain ⟨e0, e1, e2⟩ := HC.out.wow.next
    have HE := hide e1
    simp only [List.length_cons] at c1 hcap
    clear e1 hpos
    by_cases h1 : wc = 1
    · subst h1
      obtain rfl := e2 rfl
      simp only [List.length_nil, Nat.zero_add] at c1 hcap
      go_enter Try.func122, Try.ntmps122
      go_wp2
      go_ret2
      exact ⟨rfl, ⟨_, _, HC.out.setw (r := []) (fun _ e => e) irow_none⟩, set_turned HC.out.own⟩
    · have k1 : (1 : Int) < (wc : Int) := by omega
      have k2 : (1 : Int) ≤ (r.length : Int) + 1 := by omega
      have k3 : (r.length : Int) + 1 ≤ (wc : Int) := by omega
      have k4 : ¬ ((r.length : Int) + 1 = 0) := by omega
      have k5 : (0 : Int) < (r.length : Int) + 1 := by omega
      have k6 : (((r.length : Int) + 1 == 0)) = false := by simp; omega
      have k7 : (1 : Int) ≤ (wc : Int) := by omega
      clear e2
      go_enter Try.func122, Try.ntmps122
      go_wp2
      go_ret2
      exact ⟨rfl, ⟨_, _, HC.out.setw (r := r) (fun _ e => e) (HE.out (by omega))⟩, set_turned HC.out.own⟩
theorem zeros_made {w w1 : World} {n : Nat} (h : w1.ownsRow w.heap.size 5 1 (.slice (some ⟨w.heap.size, 0, none⟩) n n) n (madeCells (Value.int .u8 0).cells (n * 1)).toList) : w1.ownsRow w.heap.size 5 1 (.slice (some ⟨w.heap.size, 0, none⟩) n n) (List.replicate n (0 : UInt8)).length ((List.replicate n (0 : UInt8)).map bv) := by
  rw [List.length_replicate]
  have e : (madeCells (Value.int .u8 0).cells (n * 1)).toList = (List.replicate n (0 : UInt8)).map bv := by
    rw [List.map_replicate]
    exact made_cells n
  rw [← e]
  exact h
set_option maxRecDepth 100000 in
set_option maxHeartbeats 2000000 in
theorem odd_read {w : World} {O : Nat → Prop} {s : OddS} (g : Nat) (n : Nat) (h : OddAt g w O s) :
    Calls Try.prog 120 #[.pointer (some ⟨g, 0, none⟩), .int .i64 n] w fun e w' => ∃ u, e = .returned (.tuple #[u, .int .i64 (oddD.read s n).2.1]) ∧ w'.ownsRow w.heap.size 5 1 u (oddD.read s n).1.length ((oddD.read s n).1.map bv) ∧ OddAt g w' O (oddD.read s n).2.2 ∧ Turned O w w' := by
  obtain ⟨i0, hi, hz0, hz1, hz2⟩ := info_parts Try.infoB
  obtain ⟨rv, wv, h⟩ := h
  have c1 := h.reads
  have c2 := h.err
  have c3 := h.soft0
  obtain ⟨reads, writes, err⟩ := s
  have HC := hide h
  obtain ⟨wa, wc, rfl, hcap, hpos⟩ := h.row
  simp only at c1 c2 hcap hpos HC
  clear h
  cases reads with
  | nil =>
    simp only [List.length_nil] at c1
    go_enter Try.func120, Try.ntmps120
    go_wp2
    go_quiet (fail)
    go_wp2
    go_ret2
    exact ⟨_, rfl, World.ownsRow_nil _ _ _ _, ⟨_, _, HC.out.keep (fun _ _ _ => rfl)⟩, ⟨rfl, rfl, rfl, Nat.le_refl _, fun _ _ _ => rfl⟩⟩
  | cons k r =>
    obtain ⟨b, off, rfl, -⟩ := hpos (by simp)
    obtain ⟨e0, e1, e2⟩ := HC.out.row.next
    have hgl := World.block_lt_of_cell? w _ c1
    obtain ⟨M, hM⟩ : ∃ M : Nat, M = min k.toNat 5000 := ⟨_, rfl⟩
    have HM := hide hM
    have hmm : min (max k 0) 5000 = (M : Int) := by omega
    have hM5 : M ≤ 5000 := by omega
    clear hM
    have HE := hide e1
    simp only [List.length_cons] at c1 hcap
    clear e1 hpos
    by_cases h1 : wc = 1
    · subst h1
      obtain rfl := e2 rfl
      simp only [List.length_nil, Nat.zero_add] at c1 hcap
      have HC2 := hide (HC.out.setr (v' := .slice (some ⟨b, off, none⟩) 0 0) (r := []) (fun _ e => e) irow_none)
      have HT2 := hide (set_turned (W := w) (i := 0) (v' := .slice (some ⟨b, off, none⟩) 0 0) HC.out.own)
      clear e2 HE HC hgl
      go_enter Try.func120, Try.ntmps120
      go_wp2_with (at_make; refine wpList_make_full _ rfl _ _ 22 rfl (w.setCell ⟨g, 0, none⟩ (.slice (some ⟨b, off, none⟩) 0 0)).heap.size 5 i0 (.int .u8 0) 1 Try.underlying22 hi hz0 hz1 _ _ _ _ M rfl rfl rfl rfl (by rw [hz2]; omega) (by unfold maxLen; omega) (Nat.le_refl _) ?_; intro w1 hown1 hgrow1; have hO1 := zeros_made hown1; rw [show (w.setCell ⟨g, 0, none⟩ (.slice (some ⟨b, off, none⟩) 0 0)).heap.size = w.heap.size by simp [World.setCell]] at hO1; have HO1 := hide hO1; clear hO1; have hB1 := (Below.refl _ (w.setCell ⟨g, 0, none⟩ (.slice (some ⟨b, off, none⟩) 0 0))).grown hgrow1 (Nat.le_refl _) (fun k e => by cases e); clear hown1 hgrow1)
      go_ret2
      show ∃ u, _ = Ending.returned (Value.tuple #[u, .int .i64 0]) ∧ World.ownsRow _ w.heap.size 5 1 u (List.replicate (min _ 5000) (0 : UInt8)).length ((List.replicate (min _ 5000) (0 : UInt8)).map bv) ∧ _
      rw [← HM.out]
      exact ⟨_, rfl, HO1.out, ⟨_, _, HC2.out.keep (fun j _ hj => hB1.block j hj)⟩, HT2.out.trans (Turned.of_below hB1) (fun _ _ e => e)⟩
    · have k1 : (1 : Int) < (wc : Int) := by omega
      have k2 : (1 : Int) ≤ (r.length : Int) + 1 := by omega
      have k3 : (r.length : Int) + 1 ≤ (wc : Int) := by omega
      have k4 : ¬ ((r.length : Int) + 1 = 0) := by omega
      have k5 : (0 : Int) < (r.length : Int) + 1 := by omega
      have k6 : (((r.length : Int) + 1 == 0)) = false := by simp; omega
      have k7 : (1 : Int) ≤ (wc : Int) := by omega
      have HC2 := hide (HC.out.setr (v' := .slice (some ⟨b, off + 1, none⟩) r.length (wc - 1)) (r := r) (fun _ e => e) (HE.out (by omega)))
      have HT2 := hide (set_turned (W := w) (i := 0) (v' := .slice (some ⟨b, off + 1, none⟩) r.length (wc - 1)) HC.out.own)
      clear e2 HE HC hgl
      go_enter Try.func120, Try.ntmps120
      go_wp2_with (at_make; refine wpList_make_full _ rfl _ _ 22 rfl (w.setCell ⟨g, 0, none⟩ (.slice (some ⟨b, off + 1, none⟩) r.length (wc - 1))).heap.size 5 i0 (.int .u8 0) 1 Try.underlying22 hi hz0 hz1 _ _ _ _ M rfl rfl rfl rfl (by rw [hz2]; omega) (by unfold maxLen; omega) (Nat.le_refl _) ?_; intro w1 hown1 hgrow1; have hO1 := zeros_made hown1; rw [show (w.setCell ⟨g, 0, none⟩ (.slice (some ⟨b, off + 1, none⟩) r.length (wc - 1))).heap.size = w.heap.size by simp [World.setCell]] at hO1; have HO1 := hide hO1; clear hO1; have hB1 := (Below.refl _ (w.setCell ⟨g, 0, none⟩ (.slice (some ⟨b, off + 1, none⟩) r.length (wc - 1)))).grown hgrow1 (Nat.le_refl _) (fun k e => by cases e); clear hown1 hgrow1)
      go_ret2
      show ∃ u, _ = Ending.returned (Value.tuple #[u, .int .i64 0]) ∧ World.ownsRow _ w.heap.size 5 1 u (List.replicate (min _ 5000) (0 : UInt8)).length ((List.replicate (min _ 5000) (0 : UInt8)).map bv) ∧ _
      rw [← HM.out]
      exact ⟨_, rfl, HO1.out, ⟨_, _, HC2.out.keep (fun j _ hj => hB1.block j hj)⟩, HT2.out.trans (Turned.of_below hB1) (fun _ _ e => e)⟩
/-- An Odd is a Raw. -/
theorem odd_raw (g : Nat) : RawM oddD 64 (.pointer (some ⟨g, 0, none⟩)) 120 122 (fun _ => True) (fun _ => True) (OddAt g) where
  mread w := by kernel_rfl
  mwrite w := by kernel_rfl
  cread a w := by kernel_rfl
  cwrite a w := by kernel_rfl
  keep h hk _ := by
    obtain ⟨rv, wv, h⟩ := h
    exact ⟨rv, wv, h.keep hk⟩
  few {w O s} n _ := by
    unfold oddD
    simp only
    split
    · simp
    · simp; omega
  read n h _ _ _ := odd_read g n h
  write bs a c h _ _ _ _ _ _ := (odd_write g bs a _ c h).mono fun e w' ⟨h1, h2, h3⟩ => ⟨h1, _, h2, fun _ e => .inl e, h3⟩
end Go.Proofs.Ytknpghmcacocfaa
