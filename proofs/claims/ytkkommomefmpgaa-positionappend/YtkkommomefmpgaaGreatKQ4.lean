/- What the proof stands on, part 4: the contracts of the program's calls that it reaches. -/
import Derived.Test.YtkkommomefmpgaaGreatKQ3
import Derived.Laws.AppendOwnNone
import Derived.Laws.OwnMore
import Derived.Lib.BufferMore
import Derived.Deep.QuietTactic
import Derived.BigQuiet
import Derived.Laws.StructEq
import Derived.Deep.RegionLaw
/- Lines, steps, answers and numbers that came in as an argument: what a walk is told of them, and their sizes. -/
namespace Go.Proofs.YtkkommomefmpgaaGreat
open Go.ChangeShapes Go.WideShapes Go.ChangeAt Go.RowKit Go.Deep

def MLns (W : World) (v : Value) (ls : List (List UInt8)) : Prop := RowsR W 1 (fun cs x => ∃ u, cs = [u] ∧ ByC W u x) v ls
theorem mlns_arg {H : Type} {enc : TypeId × Value → H} {P : Program} {W : World} {base : Nat} {a : Option Addr} {len cap fuel t e u : Nat} {d : DataW H} {p : List MemPlace}
    (ht : P.underlying t = some (.slice e)) (he : P.underlying e = some (.slice u)) (ce : P.cellsOf e = 1) (hu : P.underlying u = some (.int .u8)) (cu : P.cellsOf u = 1)
    (hf : DataW.trod enc P W base (fun _ => true) true fuel t (Value.slice a len cap).cells.toList = some (d, p)) : ∃ l, MLns W (.slice a len cap) l ∧ DatL Kp_DataOf d l :=
  rows_arg 1 _ Kp_DataOf ht ce (by decide) (fun fuel cs d p h hl => by
    match cs, hl with
    | [v0], _ =>
      obtain ⟨x, h1, h2⟩ := byc_arg he hu cu h
      exact ⟨x, ⟨v0, rfl, h1⟩, h2⟩) hf
theorem MLns.at {W W' : World} {a : Option Addr} {n c : Nat} {ls : List (List UInt8)} (h : MLns W (.slice a n c) ls) (hB : Below W.heap.size W W') (j : Nat) (hj : j < ls.length) :
    ∃ b off va vc, a = some ⟨b, off, none⟩ ∧ W'.cell? ⟨b, off + j, none⟩ = some (.slice va ls[j].length vc) ∧ Bys W (.slice va ls[j].length vc) ls[j] ∧ ls[j].length ≤ vc ∧ b < W.heap.size := by
  obtain ⟨b, off, cs, rfl, ⟨u, rfl, va, vc, rfl, hb, hc⟩, _, h3⟩ := RowsR.at h j hj
  have h4 := h3 0 _ rfl
  rw [Nat.mul_one, Nat.add_zero] at h4
  have hl := World.block_lt_of_cell? W _ h4
  exact ⟨b, off, va, vc, rfl, (hB.cell (p := ⟨b, off + j, none⟩) hl).trans h4, hb, hc, hl⟩
end Go.Proofs.YtkkommomefmpgaaGreat

/- Names, and lists of named bytes: what holds them; Named, has, CopyNamed. -/
namespace Go.Proofs.YtkkommomefmpgaaGreat
open Go.RowKit

def I64 (d : Int) : Prop := -9223372036854775808 ≤ d ∧ d ≤ 9223372036854775807
theorem I64.wf {d : Int} (h : I64 d) : (Lit.int .i64 d).wf = true := by
  simp only [Lit.wf, Bool.and_eq_true, decide_eq_true_eq]
  exact ⟨h.1, h.2⟩
abbrev Nm := ByteArray × List UInt8
def Nms (W : World) (v : Value) (l : List Nm) : Prop :=
  ∃ a c, v = .slice a l.length c ∧ l.length ≤ c ∧ (0 < l.length → ∃ b off, a = some ⟨b, off, none⟩ ∧ ∀ j (hj : j < l.length), ∃ va vc, W.cell? ⟨b, off + j * 2, none⟩ = some (.string l[j].1) ∧ W.cell? ⟨b, off + j * 2 + 1, none⟩ = some (.slice va l[j].2.length vc) ∧ Bys W (.slice va l[j].2.length vc) l[j].2 ∧ l[j].2.length ≤ vc ∧ l[j].1.size ≤ maxLen)
theorem Nms.form {W : World} {v : Value} {l : List Nm} (h : Nms W v l) : ∃ a c, v = .slice a l.length c := by
  obtain ⟨a, c, rfl, _⟩ := h
  exact ⟨a, c, rfl⟩
theorem Nms.below {W W' : World} {v : Value} {l : List Nm} (h : Nms W v l) (hB : Below W.heap.size W W') : Nms W' v l := by
  obtain ⟨a, c, rfl, hl, hc⟩ := h
  refine ⟨a, c, rfl, hl, fun h0 => ?_⟩
  obtain ⟨b, off, rfl, hd⟩ := hc h0
  refine ⟨b, off, rfl, fun j hj => ?_⟩
  obtain ⟨va, vc, h1, h2, h3, h4⟩ := hd j hj
  have hb := World.block_lt_of_cell? W _ h1
  exact ⟨va, vc, (hB.cell (p := ⟨b, off + j * 2, none⟩) hb).trans h1, (hB.cell (p := ⟨b, off + j * 2 + 1, none⟩) hb).trans h2, h3.below hB, h4⟩
theorem Nms.at {W : World} {a : Option Addr} {n c : Nat} {l : List Nm} (h : Nms W (.slice a n c) l) (j : Nat) (hj : j < l.length) :
    ∃ b off va vc, a = some ⟨b, off, none⟩ ∧ b < W.heap.size ∧ W.cell? ⟨b, off + j * 2, none⟩ = some (.string l[j].1) ∧ W.cell? ⟨b, off + j * 2 + 1, none⟩ = some (.slice va l[j].2.length vc) ∧ Bys W (.slice va l[j].2.length vc) l[j].2 ∧ l[j].2.length ≤ vc ∧ l[j].1.size ≤ maxLen := by
  obtain ⟨a', c', he, _, hc⟩ := h
  cases he
  obtain ⟨b, off, rfl, hd⟩ := hc (by omega)
  obtain ⟨va, vc, h1, h2, h3, h4⟩ := hd j hj
  exact ⟨b, off, va, vc, rfl, World.block_lt_of_cell? W _ h1, h1, h2, h3, h4⟩

def ncs {α : Type} : List (ByteArray × α) → List Value → List Value
  | p :: l, u :: us => .string p.1 :: u :: ncs l us
  | _, _ => []
theorem ncs_snoc {α : Type} : ∀ (l : List (ByteArray × α)) (us : List Value) (p : ByteArray × α) (u : Value), us.length = l.length → ncs (l ++ [p]) (us ++ [u]) = ncs l us ++ [.string p.1, u]
  | [], [], _, _, _ => rfl
  | q :: l, v :: us, p, u, h => by
    show .string q.1 :: v :: ncs (l ++ [p]) (us ++ [u]) = _
    rw [ncs_snoc l us p u (by simpa using h)]
    rfl
theorem ncs_get {α : Type} : ∀ (l : List (ByteArray × α)) (us : List Value) (j : Nat) (hj : j < l.length), us.length = l.length → (ncs l us)[j * 2]? = some (.string l[j].1) ∧ (ncs l us)[j * 2 + 1]? = us[j]?
  | q :: l, v :: us, 0, _, _ => ⟨rfl, rfl⟩
  | q :: l, v :: us, j + 1, hj, h => by
    have := ncs_get l us j (by simpa using hj) (by simpa using h)
    rw [show (j + 1) * 2 = j * 2 + 2 by omega]
    exact this

theorem Tryz.infoN : (Tryz.prog.info? 86).map (fun i => (i.zero, i.size, i.bytes)) = some (some (.agg #[.string ByteArray.empty, .slice none 0 0]), 2, 40) := by kernel_rfl
theorem run_append_named (w : World) (ty : TypeId) (base : Nat) (s : Value) (n : Nat) (xs : List Value) (g c : Nat) (nm : ByteArray) (u : Value) (hs : w.ownsRow base 86 2 s n xs) (hx0 : w.cell? ⟨g, 0, none⟩ = some (.string nm)) (hx1 : w.cell? ⟨g, 1, none⟩ = some u) (hu : u.oneCell' = true) (hn : (n + 1) * 40 ≤ 140737488355328) (hb : base ≤ w.heap.size) :
    ∃ s' w', (Builtin.append_ #[22, 22] ty #[s, .slice (some ⟨g, 0, none⟩) 1 c]).run Tryz.prog w = .ok s' w' ∧ Hid (w'.ownsRow base 86 2 s' (n + 1) (xs ++ [.string nm, u])) ∧ w.grownBy w' s.ownBlock ∧ (s'.ownBlock = s.ownBlock ∨ s'.ownBlock = some w.heap.size) := by
  refine (?_ : ∃ s' w', (Builtin.append_ #[22, 22] ty #[s, .slice (some ⟨g, 0, none⟩) 1 c]).run Tryz.prog w = .ok s' w' ∧ w'.ownsRow base 86 2 s' (n + 1) (xs ++ [.string nm, u]) ∧ w.grownBy w' s.ownBlock ∧ (s'.ownBlock = s.ownBlock ∨ s'.ownBlock = some w.heap.size))
  obtain ⟨i0, hi, hz0, hz1, hz2⟩ := info_parts Tryz.infoN
  obtain ⟨v', w', h1, h2, h3, _, h5⟩ := run_append_own_at (P := Tryz.prog) w base 22 ty 86 i0 (.agg #[.string ByteArray.empty, .slice none 0 0]) 2 40 Tryz.underlying22 hi hz0 hz1 hz2 rfl (by decide) s _ _ hs ⟨g, 0, none⟩ 1 c [.string nm, u] rfl (fun j v hj => by
    match j, hj with
    | 0, hj =>
      obtain rfl : Value.string nm = v := by simpa using hj
      have hadd : (⟨g, 0, none⟩ : Addr).add 0 = ⟨g, 0, none⟩ := by unfold Addr.add; split <;> simp_all
      rw [hadd]; exact hx0
    | 1, hj =>
      obtain rfl : u = v := by simpa using hj
      have hadd : (⟨g, 0, none⟩ : Addr).add 1 = ⟨g, 1, none⟩ := by unfold Addr.add; split <;> simp_all
      rw [hadd]; exact hx1) (by intro v hv; simp at hv; rcases hv with rfl | rfl; rfl; exact hu) (by unfold maxLen; omega) (by omega) hb
  exact ⟨v', w', h1, h2, h3, h5⟩
abbrev Tp := ByteArray × List (List UInt8)
def Tps (W : World) (v : Value) (l : List Tp) : Prop :=
  ∃ a c, v = .slice a l.length c ∧ l.length ≤ c ∧ (0 < l.length → ∃ b off, a = some ⟨b, off, none⟩ ∧ ∀ j (hj : j < l.length), ∃ va vc, W.cell? ⟨b, off + j * 2, none⟩ = some (.string l[j].1) ∧ W.cell? ⟨b, off + j * 2 + 1, none⟩ = some (.slice va l[j].2.length vc) ∧ Lns W (.slice va l[j].2.length vc) l[j].2 ∧ l[j].1.size ≤ maxLen)
theorem Tps.form {W : World} {v : Value} {l : List Tp} (h : Tps W v l) : ∃ a c, v = .slice a l.length c := by
  obtain ⟨a, c, rfl, _⟩ := h
  exact ⟨a, c, rfl⟩
theorem Tps.below {W W' : World} {v : Value} {l : List Tp} (h : Tps W v l) (hB : Below W.heap.size W W') : Tps W' v l := by
  obtain ⟨a, c, rfl, hl, hc⟩ := h
  refine ⟨a, c, rfl, hl, fun h0 => ?_⟩
  obtain ⟨b, off, rfl, hd⟩ := hc h0
  refine ⟨b, off, rfl, fun j hj => ?_⟩
  obtain ⟨va, vc, h1, h2, h3⟩ := hd j hj
  have hb := World.block_lt_of_cell? W _ h1
  exact ⟨va, vc, (hB.cell (p := ⟨b, off + j * 2, none⟩) hb).trans h1, (hB.cell (p := ⟨b, off + j * 2 + 1, none⟩) hb).trans h2, h3.1.below hB, h3.2⟩
theorem Tps.at {W : World} {a : Option Addr} {n c : Nat} {l : List Tp} (h : Tps W (.slice a n c) l) (j : Nat) (hj : j < l.length) :
    ∃ b off va vc, a = some ⟨b, off, none⟩ ∧ b < W.heap.size ∧ W.cell? ⟨b, off + j * 2, none⟩ = some (.string l[j].1) ∧ W.cell? ⟨b, off + j * 2 + 1, none⟩ = some (.slice va l[j].2.length vc) ∧ Lns W (.slice va l[j].2.length vc) l[j].2 ∧ l[j].1.size ≤ maxLen := by
  obtain ⟨a', c', he, _, hc⟩ := h
  cases he
  obtain ⟨b, off, rfl, hd⟩ := hc (by omega)
  obtain ⟨va, vc, h1, h2, h3⟩ := hd j hj
  exact ⟨b, off, va, vc, rfl, World.block_lt_of_cell? W _ h1, h1, h2, h3⟩
end Go.Proofs.YtkkommomefmpgaaGreat

/- Faults: what a fault that may be is, and what mayBe, may answer. -/
namespace Go.Proofs.YtkkommomefmpgaaGreat
open Go.RowKit

def fv (x : Int × Int) : Value := .agg #[.int .i64 x.1, .int .i64 x.2]
def may (x : Int × Int) : Bool := if x.1 = 1 then decide (1 ≤ x.2 ∧ x.2 ≤ 1048576) else decide (0 ≤ x.1 ∧ x.1 ≤ 3 ∧ x.2 = 0)

theorem may_one (n : Int) : may (1, n) = decide (1 ≤ n ∧ n ≤ 1048576) := by simp [may]
theorem may_else {k n : Int} (h : k ≠ 1) : may (k, n) = decide (0 ≤ k ∧ k ≤ 3 ∧ n = 0) := by simp [may, h]

set_option maxHeartbeats 1000000 in
theorem mayBe_any (k n : Int) (w : World) :
    Calls Tryz.prog 132 #[.agg #[.int .i64 k, .int .i64 n]] w fun e w' => e = .returned (.bool (may (k, n))) ∧ Below w.heap.size w w' := by
  by_cases h1 : k = 1
  · subst h1
    rw [may_one]
    go_enter Tryz.func132, Tryz.ntmps132
    go_wp2
    all_goals
      go_ret
      exact ⟨ret_bool (by first | (simp; done) | (simp; omega) | (simp_all; done)), (Below.refl _ _).alloc (Nat.le_refl _) _⟩
  · rw [may_else h1]
    by_cases h2 : 0 ≤ k
    · by_cases h3 : k ≤ 3
      · go_enter Tryz.func132, Tryz.ntmps132
        go_wp2
        all_goals
          go_ret
          exact ⟨ret_bool (by simp [h2, h3]; by_cases hn : n = 0 <;> simp [hn]), (Below.refl _ _).alloc (Nat.le_refl _) _⟩
      · go_enter Tryz.func132, Tryz.ntmps132
        go_wp2
        all_goals
          go_ret
          exact ⟨ret_bool (by simp; omega), (Below.refl _ _).alloc (Nat.le_refl _) _⟩
    · go_enter Tryz.func132, Tryz.ntmps132
      go_wp2
      all_goals
        go_ret
        exact ⟨ret_bool (by simp; omega), (Below.refl _ _).alloc (Nat.le_refl _) _⟩
set_option maxHeartbeats 1000000 in
theorem may_any (k n : Int) (w : World) :
    Calls Tryz.prog 125 #[.agg #[.int .i64 k, .int .i64 n]] w fun e w' => e = .returned (.bool (may (k, n))) ∧ Below w.heap.size w w' := by
  by_cases h1 : k = 1
  · subst h1
    rw [may_one]
    go_enter Tryz.func125, Tryz.ntmps125
    go_wp2
    all_goals
      go_ret
      exact ⟨ret_bool (by first | (simp; done) | (simp; omega) | (simp_all; done)), (Below.refl _ _).alloc (Nat.le_refl _) _⟩
  · rw [may_else h1]
    by_cases h2 : 0 ≤ k
    · by_cases h3 : k ≤ 3
      · go_enter Tryz.func125, Tryz.ntmps125
        go_wp2
        all_goals
          go_ret
          exact ⟨ret_bool (by simp [h2, h3]; by_cases hn : n = 0 <;> simp [hn]), (Below.refl _ _).alloc (Nat.le_refl _) _⟩
      · go_enter Tryz.func125, Tryz.ntmps125
        go_wp2
        all_goals
          go_ret
          exact ⟨ret_bool (by simp; omega), (Below.refl _ _).alloc (Nat.le_refl _) _⟩
    · go_enter Tryz.func125, Tryz.ntmps125
      go_wp2
      all_goals
        go_ret
        exact ⟨ret_bool (by simp; omega), (Below.refl _ _).alloc (Nat.le_refl _) _⟩
end Go.Proofs.YtkkommomefmpgaaGreat

/- Lists of faults in memory; CopyFaults, SameFaults, Clone, Check and the reference's Check, for any faults. -/
namespace Go.Proofs.YtkkommomefmpgaaGreat
open Go.RowKit

abbrev Fault := Int × Int
def fcs (l : List Fault) : List Value := l.flatMap fun x => [.int .i64 x.1, .int .i64 x.2]
def Flts (W : World) (v : Value) (l : List Fault) : Prop :=
  (v = .slice none 0 0 ∧ l = []) ∨ (∃ a cap, v = .slice (some a) 0 cap ∧ l = []) ∨
  ∃ b off cap, v = .slice (some ⟨b, off, none⟩) l.length cap ∧ 0 < l.length ∧ l.length ≤ cap ∧ ∀ j, j < l.length → W.cell? ⟨b, off + j * 2, none⟩ = some (.int .i64 (l.getD j (0, 0)).1) ∧ W.cell? ⟨b, off + j * 2 + 1, none⟩ = some (.int .i64 (l.getD j (0, 0)).2)

theorem fcs_length (l : List Fault) : (fcs l).length = l.length * 2 := by
  induction l with
  | nil => rfl
  | cons x r ih => simp only [fcs, List.flatMap_cons, List.length_append, List.length_cons, List.length_nil] at ih ⊢; omega
theorem fcs_even (l : List Fault) (j : Nat) (h : j < l.length) : (fcs l)[j * 2]? = some (.int .i64 (l.getD j (0, 0)).1) := by
  induction l generalizing j with
  | nil => simp at h
  | cons x r ih =>
    cases j with
    | zero => simp [fcs]
    | succ j =>
      have := ih j (by simpa using h)
      simp only [fcs, List.flatMap_cons] at this ⊢
      rw [show (j + 1) * 2 = j * 2 + 2 by omega]
      simpa using this
theorem fcs_odd (l : List Fault) (j : Nat) (h : j < l.length) : (fcs l)[j * 2 + 1]? = some (.int .i64 (l.getD j (0, 0)).2) := by
  induction l generalizing j with
  | nil => simp at h
  | cons x r ih =>
    cases j with
    | zero => simp [fcs]
    | succ j =>
      have := ih j (by simpa using h)
      simp only [fcs, List.flatMap_cons] at this ⊢
      rw [show (j + 1) * 2 + 1 = j * 2 + 1 + 2 by omega]
      simpa using this
theorem fcs_one (l : List Fault) : ∀ u ∈ fcs l, u.oneCell' = true := by
  intro u hu
  simp only [fcs, List.mem_flatMap, List.mem_cons, List.not_mem_nil, or_false] at hu
  obtain ⟨x, _, rfl | rfl⟩ := hu <;> rfl
theorem Flts.lift {W W' : World} {v : Value} {l : List Fault} (h : Flts W v l) (hB : ∀ k, v.ownBlock = some k → k < W.heap.size → W'.heap[k]? = W.heap[k]?) : Flts W' v l := by
  rcases h with h | h | ⟨b, off, cap, rfl, h0, hcap, hc⟩
  · exact .inl h
  · exact .inr (.inl h)
  · refine .inr (.inr ⟨b, off, cap, rfl, h0, hcap, fun j hj => ?_⟩)
    have h1 := World.block_lt_of_cell? W _ (hc j hj).1
    have h2 := hB b rfl h1
    exact ⟨(World.cell?_of_block (w := W) h2).trans (hc j hj).1, (World.cell?_of_block (w := W) h2).trans (hc j hj).2⟩
theorem Flts.below {W W' : World} {v : Value} {l : List Fault} (h : Flts W v l) (hB : Below W.heap.size W W') : Flts W' v l :=
  h.lift fun k _ hk => hB.block k hk
theorem Flts.of_owns {W : World} {base : Nat} {v : Value} {l : List Fault} (h : W.ownsRow base 211 2 v l.length (fcs l)) : Flts W v l := by
  rcases h.2 with ⟨rfl, h0⟩ | ⟨g, cap, cur, rfl, _, _, hcap, _⟩
  · exact .inl ⟨rfl, by simpa using h0⟩
  · by_cases hl : l.length = 0
    · exact .inr (.inl ⟨_, _, by rw [hl], List.length_eq_zero_iff.1 hl⟩)
    · refine .inr (.inr ⟨g, 0, cap, rfl, by omega, hcap, fun j hj => ?_⟩)
      rw [Nat.zero_add, h.cellAt (j * 2) (by omega), h.cellAt (j * 2 + 1) (by omega), fcs_even l j hj, fcs_odd l j hj]
      exact ⟨rfl, rfl⟩
theorem flts_form {W : World} {v : Value} {l : List Fault} (h : Flts W v l) : ∃ a1 c1, v = .slice a1 l.length c1 ∧ (0 < l.length → ∃ b off, a1 = some ⟨b, off, none⟩ ∧ ∀ j, j < l.length → W.cell? ⟨b, off + j * 2, none⟩ = some (.int .i64 (l.getD j (0, 0)).1) ∧ W.cell? ⟨b, off + j * 2 + 1, none⟩ = some (.int .i64 (l.getD j (0, 0)).2)) := by
  rcases h with ⟨rfl, rfl⟩ | ⟨a, cap, rfl, rfl⟩ | ⟨b, off, cap, rfl, h0, -, hc⟩
  · exact ⟨_, _, rfl, fun h => absurd h (by decide)⟩
  · exact ⟨_, _, rfl, fun h => absurd h (by decide)⟩
  · exact ⟨_, _, rfl, fun _ => ⟨b, off, rfl, hc⟩⟩
theorem flts_news {W : World} {b off : Nat} {l : List Fault} (hc : ∀ j, j < l.length → W.cell? ⟨b, off + j * 2, none⟩ = some (.int .i64 (l.getD j (0, 0)).1) ∧ W.cell? ⟨b, off + j * 2 + 1, none⟩ = some (.int .i64 (l.getD j (0, 0)).2)) :
    ∀ j u, (fcs l)[j]? = some u → W.cell? ((⟨b, off, none⟩ : Addr).add j) = some u := by
  intro j u hj
  have hjl : j < l.length * 2 := by have := (List.getElem?_eq_some_iff.1 hj).1; rwa [fcs_length] at this
  have hadd : (⟨b, off, none⟩ : Addr).add j = ⟨b, off + j, none⟩ := by unfold Addr.add; split <;> simp_all
  rw [hadd, ← hj]
  have hk : j / 2 < l.length := by omega
  rcases Nat.mod_two_eq_zero_or_one j with hm | hm
  · rw [show j = j / 2 * 2 by omega, fcs_even l _ hk, (hc _ hk).1]
  · rw [show j = j / 2 * 2 + 1 by omega, fcs_odd l _ hk, ← Nat.add_assoc, (hc _ hk).2]

theorem Tryz.infoF : (Tryz.prog.info? 211).map (fun i => (i.zero, i.size, i.bytes)) = some (some (.agg #[.int .i64 0, .int .i64 0]), 2, 16) := by kernel_rfl

set_option maxHeartbeats 1000000 in
theorem copyf_any (v : Value) (l : List Fault) (w : World) (h : Flts w v l) (hs : l.length * 16 ≤ 140737488351232) :
    Calls Tryz.prog 36 #[v] w fun e w' => ∃ v', e = .returned v' ∧ w'.ownsRow w.heap.size 211 2 v' l.length (fcs l) ∧ Below w.heap.size w w' := by
  obtain ⟨i0, hi, hz0, hz1, hz2⟩ := info_parts Tryz.infoF
  rcases h with ⟨rfl, rfl⟩ | ⟨a, cap, rfl, rfl⟩ | ⟨b, off, cap, rfl, h0, -, hc⟩
  · go_enter Tryz.func36, Tryz.ntmps36
    go_wp2_with (at_builtin; refine wpList_append_own_none rfl _ _ 24 rfl w.heap.size 211 i0 2 Tryz.underlying24 hi _ _ _ rfl (World.ownsRow_nil _ _ _ _) rfl ?_)
    go_ret
    exact ⟨_, rfl, World.ownsRow_nil _ _ _ _, Below.refl _ _⟩
  · go_enter Tryz.func36, Tryz.ntmps36
    go_wp2_with (at_builtin; refine wpList_append_own _ rfl _ _ 24 rfl w.heap.size 211 i0 (.agg #[.int .i64 0, .int .i64 0]) 2 16 Tryz.underlying24 hi hz0 hz1 hz2 rfl (by decide) _ _ _ rfl (World.ownsRow_nil _ _ _ _) a 0 cap [] rfl rfl (by simp) (by simp) (by decide) (by decide) (Nat.le_refl _) ?_; intro v' w1 hown hgrow hnil)
    go_ret
    exact ⟨v', rfl, hown, (Below.refl _ _).grown hgrow (Nat.le_refl _) (fun j e => by cases e)⟩
  · go_enter Tryz.func36, Tryz.ntmps36
    go_wp2_with (at_builtin; refine wpList_append_own _ rfl _ _ 24 rfl w.heap.size 211 i0 (.agg #[.int .i64 0, .int .i64 0]) 2 16 Tryz.underlying24 hi hz0 hz1 hz2 rfl (by decide) _ _ _ rfl (World.ownsRow_nil _ _ _ _) ⟨b, off, none⟩ l.length cap (fcs l) rfl (fcs_length l) (flts_news hc) (fcs_one l) (by unfold maxLen; omega) (by omega) (Nat.le_refl _) ?_; intro v' w1 hown hgrow hnil)
    go_ret
    exact ⟨v', rfl, by simpa using hown, (Below.refl _ _).grown hgrow (Nat.le_refl _) (fun j e => by cases e)⟩

set_option maxRecDepth 100000 in
set_option maxHeartbeats 1000000 in
theorem clone_any (v : Value) (l : List Fault) (w : World) (h : Flts w v l) (hs : l.length * 16 ≤ 140737488351232) :
    Calls Tryz.prog 124 #[v] w fun e w' => ∃ v', e = .returned v' ∧ w'.ownsRow w.heap.size 211 2 v' l.length (fcs l) ∧ Below w.heap.size w w' := by
  obtain ⟨i0, hi, hz0, hz1, hz2⟩ := info_parts Tryz.infoF
  rcases h with ⟨rfl, rfl⟩ | ⟨a, cap, rfl, rfl⟩ | ⟨b, off, cap, rfl, h0, -, hc⟩
  · have hnil : ∀ W, (binOp .eql 24 (.slice none 0 0) (.slice none 0 0)).run Tryz.prog W = .ok (.bool true) W := fun W => Lib.run_eql_slice_nil_nil W _ _ Tryz.underlying24
    go_enter Tryz.func124, Tryz.ntmps124
    go_wp2
    go_ret
    exact ⟨_, rfl, World.ownsRow_nil _ _ _ _, Below.refl _ _⟩
  · have hnil : ∀ W, (binOp .eql 24 (.slice (some a) 0 cap) (.slice none 0 0)).run Tryz.prog W = .ok (.bool false) W := fun W => Lib.run_eql_slice_some_nil W _ _ _ Tryz.underlying24
    go_enter Tryz.func124, Tryz.ntmps124
    go_wp2_with (at_builtin; refine wpList_append_own _ rfl _ _ 24 rfl w.heap.size 211 i0 (.agg #[.int .i64 0, .int .i64 0]) 2 16 Tryz.underlying24 hi hz0 hz1 hz2 rfl (by decide) _ _ _ rfl (World.ownsRow_made _ _ _ (Nat.le_refl _) (by decide) rfl) a 0 cap [] rfl rfl (by simp) (by simp) (by decide) (by decide) (by simp) ?_; intro v' w1 hown hgrow hnil)
    go_ret
    exact ⟨v', rfl, hown, ((Below.refl _ _).alloc (Nat.le_refl _) _).grown hgrow (by simp) (fun j e => by cases e; exact Nat.le_refl _)⟩
  · have hnil : ∀ W, (binOp .eql 24 (.slice (some ⟨b, off, none⟩) l.length cap) (.slice none 0 0)).run Tryz.prog W = .ok (.bool false) W := fun W => Lib.run_eql_slice_some_nil W _ _ _ Tryz.underlying24
    have hc' := flts_news hc
    have hc2 : ∀ (o : Obj) j u, (fcs l)[j]? = some u → (w.alloc o).cell? ((⟨b, off, none⟩ : Addr).add j) = some u := fun o j u hj => by
      have := hc' j u hj
      exact (World.cell?_of_block (w := w) (Below.heap_alloc w o _ (World.block_lt_of_cell? w _ this))).trans this
    have H2 := hide hc2
    clear hc hc' hc2
    go_enter Tryz.func124, Tryz.ntmps124
    go_wp2_with (at_builtin; refine wpList_append_own _ rfl _ _ 24 rfl w.heap.size 211 i0 (.agg #[.int .i64 0, .int .i64 0]) 2 16 Tryz.underlying24 hi hz0 hz1 hz2 rfl (by decide) _ _ _ rfl (World.ownsRow_made _ _ _ (Nat.le_refl _) (by decide) rfl) ⟨b, off, none⟩ l.length cap (fcs l) rfl (fcs_length l) (H2.out _) (fcs_one l) (by unfold maxLen; omega) (by omega) (by simp) ?_; intro v' w1 hown hgrow hnil)
    go_ret
    exact ⟨v', rfl, by simpa using hown, ((Below.refl _ _).alloc (Nat.le_refl _) _).grown hgrow (by simp) (fun j e => by cases e; exact Nat.le_refl _)⟩
end Go.Proofs.YtkkommomefmpgaaGreat

/- SameFaults and the reference's Check, for any faults. -/
namespace Go.Proofs.YtkkommomefmpgaaGreat
open Go.RowKit

end Go.Proofs.YtkkommomefmpgaaGreat

/- Check and the reference's Check, for any faults. -/
namespace Go.Proofs.YtkkommomefmpgaaGreat
open Go.RowKit

def fb (l : List Fault) : Nat := l.findIdx fun x => !may x
theorem fb_le (l : List Fault) : fb l ≤ l.length := List.findIdx_le_length
theorem fb_at {l : List Fault} {k : Nat} (hk : k < l.length) (ha : ∀ j, j < k → may (l.getD j (0, 0)) = true) (hb : may (l.getD k (0, 0)) = false) : fb l = k := by
  unfold fb
  refine (List.findIdx_eq hk).2 ⟨?_, fun j hj => ?_⟩
  · rw [List.getD_eq_getElem?_getD, List.getElem?_eq_getElem hk] at hb
    simpa using hb
  · have := ha j hj
    rw [List.getD_eq_getElem?_getD, List.getElem?_eq_getElem (by omega)] at this
    simpa using this
theorem fb_all {l : List Fault} (ha : ∀ j, j < l.length → may (l.getD j (0, 0)) = true) : fb l = l.length := by
  unfold fb
  refine List.findIdx_eq_length.2 fun x hx => ?_
  obtain ⟨j, hj, rfl⟩ := List.getElem_of_mem hx
  have := ha j hj
  rw [List.getD_eq_getElem?_getD, List.getElem?_eq_getElem hj] at this
  simpa using this
theorem fb_good {l : List Fault} (h : fb l = l.length) : ∀ j, j < l.length → may (l.getD j (0, 0)) = true := by
  intro j hj
  have := List.findIdx_eq_length.1 h l[j] (List.getElem_mem hj)
  rw [List.getD_eq_getElem?_getD, List.getElem?_eq_getElem hj]
  simpa using this
def chk (l : List Fault) : Int × Int := if 4096 < l.length then (3, 0) else if fb l < l.length then (21, (fb l : Int)) else (0, (l.length : Int))
theorem chk_long {l : List Fault} (h : 4096 < l.length) : chk l = (3, 0) := by simp [chk, h]
theorem chk_bad {l : List Fault} (h : ¬ 4096 < l.length) (hb : fb l < l.length) : chk l = (21, (fb l : Int)) := by simp [chk, h, hb]
theorem chk_good {l : List Fault} (h : ¬ 4096 < l.length) (hb : fb l = l.length) : chk l = (0, (l.length : Int)) := by simp [chk, h, hb]

set_option maxRecDepth 100000 in
set_option maxHeartbeats 1000000 in
theorem rcheck_any (v : Value) (l : List Fault) (w : World) (h : Flts w v l) (hs : l.length ≤ maxLen) :
    Calls Tryz.prog 43 #[v] w fun e w' => e = .returned (.tuple #[.int .i64 (chk l).1, .int .i64 (chk l).2]) ∧ Below w.heap.size w w' := by
  unfold maxLen at hs
  obtain ⟨a1, c1, rfl, hc⟩ := flts_form h
  have HC := hide hc
  clear hc h
  by_cases hlong : 4096 < l.length
  · rw [chk_long hlong]
    go_enter Tryz.func43, Tryz.ntmps43
    go_wp2
    go_ret2
    exact ⟨rfl, Below.refl _ _⟩
  · generalize hR : chk l = R
    have HR := hide hR
    clear hR
    go_enter Tryz.func43, Tryz.ntmps43
    go_wp2
    go_loopw [4] (fun i wr => ∃ (k : Nat), k ≤ l.length ∧ i = .int .i64 k ∧ (∀ j, j < k → may (l.getD j (0, 0)) = true) ∧ Below w.heap.size w wr) (fun i _ => l.length - (intOf i).toNat)
    case atStart => exact ⟨0, Nat.zero_le _, rfl, fun j hj => absurd hj (by omega), Below.refl _ _⟩
    case round =>
      obtain ⟨k, hk, rfl, ha, hB⟩ := hrel
      have HA := hide ha
      clear ha
      by_cases hlt : k < l.length
      · obtain ⟨b1, o1, rfl, hc1⟩ := HC.out (by omega)
        obtain ⟨g1, g2⟩ := hc1 k hlt
        have hb1 := World.block_lt_of_cell? w _ g1
        have e1 := (hB.cell (p := ⟨b1, o1 + k * 2, none⟩) hb1).trans g1
        have e2 := (hB.cell (p := ⟨b1, o1 + k * 2 + 1, none⟩) hb1).trans g2
        clear hc1 HC g1 g2
        have hk1 : (0 : Int) ≤ (k : Int) := by omega
        have hk2 : (k : Int) < (l.length : Int) := by omega
        have hmay : ∃ x y, l.getD k (0, 0) = (x, y) := ⟨_, _, rfl⟩
        obtain ⟨x, y, hxy⟩ := hmay
        rw [hxy] at e1 e2
        simp only at e1 e2
        have HX := hide hxy
        clear hxy
        go_wp2_with fail
        refine (may_any x y _).mono ?_
        rintro e w1 ⟨rfl, hB1⟩
        have hB2 := hB.trans (hB1.mono hB.size)
        by_cases hm : may (x, y) = true
        · rw [hm]
          go_wp2
          go_roundw
          case rel =>
            refine ⟨k + 1, by omega, by go_num, fun j hj => ?_, hB2⟩
            by_cases hjk : j < k
            · exact HA.out j hjk
            · rw [show j = k by omega, HX.out]; exact hm
          case measure => simp [intOf]; omega
        · have hm' : may (x, y) = false := by simpa using hm
          rw [hm']
          clear hm
          go_wp2
          go_ret2
          have hfb : fb l = k := fb_at hlt HA.out (by rw [HX.out]; exact hm')
          rw [← HR.out, chk_bad hlong (by omega), hfb]
          exact ⟨rfl, hB2⟩
      · go_wp2
        go_ret2
        have hfb : fb l = l.length := fb_all fun j hj => HA.out j (by omega)
        rw [← HR.out, chk_good hlong hfb]
        exact ⟨rfl, hB⟩
end Go.Proofs.YtkkommomefmpgaaGreat

/- Check of faults: the closure, first, Check. -/
namespace Go.Proofs.YtkkommomefmpgaaGreat
open Go.RowKit

theorem cell_new (w : World) (x : Value) (t : TypeId) : (w.alloc (Obj.cells #[x] t)).cell? ⟨w.heap.size, 0, none⟩ = some x := by
  simp only [World.cell?, heap_alloc_new]
  rfl
set_option maxRecDepth 100000 in
set_option maxHeartbeats 1000000 in
theorem check1_any (c b off cap len k : Nat) (x y : Int) (w : World) (h1 : w.cell? ⟨c, 0, none⟩ = some (.slice (some ⟨b, off, none⟩) len cap)) (hk : k < len)
    (h2 : w.cell? ⟨b, off + k * 2, none⟩ = some (.int .i64 x)) (h3 : w.cell? ⟨b, off + k * 2 + 1, none⟩ = some (.int .i64 y)) :
    Calls Tryz.prog 131 #[.int .i64 k, .pointer (some ⟨c, 0, none⟩)] w fun e w' => e = .returned (.bool (!may (x, y))) ∧ Below w.heap.size w w' := by
  have hk1 : (0 : Int) ≤ (k : Int) := by omega
  have hk2 : (k : Int) < (len : Int) := by omega
  go_enter Tryz.func131, Tryz.ntmps131
  go_wp2_with fail
  refine (mayBe_any x y _).mono ?_
  rintro e w1 ⟨rfl, hB1⟩
  go_wp2
  go_ret
  exact ⟨rfl, hB1⟩

set_option maxRecDepth 100000 in
set_option maxHeartbeats 1000000 in
theorem first_check (c : Nat) (a1 : Option Addr) (c1 : Nat) (l : List Fault) (w : World) (hs : l.length ≤ 9223372036854775807) (h1 : w.cell? ⟨c, 0, none⟩ = some (.slice a1 l.length c1))
    (HC : Hid (0 < l.length → ∃ b off, a1 = some ⟨b, off, none⟩ ∧ ∀ j, j < l.length → w.cell? ⟨b, off + j * 2, none⟩ = some (.int .i64 (l.getD j (0, 0)).1) ∧ w.cell? ⟨b, off + j * 2 + 1, none⟩ = some (.int .i64 (l.getD j (0, 0)).2))) :
    Calls Tryz.prog 130 #[.int .i64 l.length, .func (.func 131) #[] #[.pointer (some ⟨c, 0, none⟩)]] w fun e w' => e = .returned (.int .i64 (fb l)) ∧ Below w.heap.size w w' := by
  have hcw := World.block_lt_of_cell? w _ h1
  generalize hR : fb l = R
  have HR := hide hR
  clear hR
  go_enter Tryz.func130, Tryz.ntmps130
  go_wp2
  go_loopw [5, 7] (fun u5 i wr => ∃ (k : Nat), k ≤ l.length ∧ i = .int .i64 k ∧ (∀ j, j < k → may (l.getD j (0, 0)) = true) ∧ Below w.heap.size w wr) (fun _ i _ => l.length - (intOf i).toNat)
  case atStart => exact ⟨0, Nat.zero_le _, rfl, fun j hj => absurd hj (by omega), Below.refl _ _⟩
  case round =>
    obtain ⟨k, hk, rfl, ha, hB⟩ := hrel
    have HA := hide ha
    clear ha
    by_cases hlt : k < l.length
    · obtain ⟨b1, o1, rfl, hc1⟩ := HC.out (by omega)
      obtain ⟨g1, g2⟩ := hc1 k hlt
      have hb1 := World.block_lt_of_cell? w _ g1
      have e1 := (hB.cell (p := ⟨b1, o1 + k * 2, none⟩) hb1).trans g1
      have e2 := (hB.cell (p := ⟨b1, o1 + k * 2 + 1, none⟩) hb1).trans g2
      have e0 := (hB.cell (p := ⟨c, 0, none⟩) hcw).trans h1
      clear hc1 HC g1 g2 h1
      obtain ⟨x, y, hxy⟩ : ∃ x y, l.getD k (0, 0) = (x, y) := ⟨_, _, rfl⟩
      rw [hxy] at e1 e2
      simp only at e1 e2
      have HX := hide hxy
      clear hxy
      have hcl := check1_any c b1 o1 c1 l.length k x y _ e0 hlt e1 e2
      have HL := hide hcl
      clear hcl e0 e1 e2
      go_wp2_with fail
      refine HL.out.mono ?_
      rintro e w1 ⟨rfl, hB1⟩
      have hB2 := hB.trans (hB1.mono hB.size)
      by_cases hm : may (x, y) = true
      · rw [hm]
        go_wp2
        go_roundw
        case rel =>
          refine ⟨k + 1, by omega, by go_num, fun j hj => ?_, hB2⟩
          by_cases hjk : j < k
          · exact HA.out j hjk
          · rw [show j = k by omega, HX.out]; exact hm
        case measure => simp [intOf]; omega
      · have hm' : may (x, y) = false := by simpa using hm
        rw [hm']
        clear hm
        go_wp2
        go_ret
        have hfb : fb l = k := fb_at hlt HA.out (by rw [HX.out]; exact hm')
        rw [← HR.out, hfb]
        exact ⟨rfl, hB2⟩
    · go_wp2
      go_ret
      have hfb : fb l = l.length := fb_all fun j hj => HA.out j (by omega)
      rw [← HR.out, hfb]
      exact ⟨rfl, hB⟩

set_option maxRecDepth 100000 in
set_option maxHeartbeats 1000000 in
theorem Fa_check_any (v : Value) (l : List Fault) (w : World) (h : Flts w v l) (hs : l.length ≤ maxLen) :
    Calls Tryz.prog 46 #[v] w fun e w' => e = .returned (.tuple #[.int .i64 (chk l).1, .int .i64 (chk l).2]) ∧ Below w.heap.size w w' := by
  unfold maxLen at hs
  by_cases hlong : 4096 < l.length
  · obtain ⟨a1, c1, rfl, hc⟩ := flts_form h
    rw [chk_long hlong]
    clear hc h
    go_enter Tryz.func46, Tryz.ntmps46
    go_wp2
    go_ret2
    exact ⟨rfl, (Below.refl _ _).alloc (Nat.le_refl _) _⟩
  · obtain ⟨a1, c1, rfl, -⟩ := flts_form h
    have hc2 : ∀ o, Flts (w.alloc o) (.slice a1 l.length c1) l := fun o => h.below ((Below.refl _ _).alloc (Nat.le_refl _) _)
    have HC := hide hc2
    clear hc2 h
    have hle := fb_le l
    generalize hR : chk l = R
    have HR := hide hR
    clear hR
    go_enter Tryz.func46, Tryz.ntmps46
    go_wp2_with fail
    obtain ⟨a2, c2, heq, hf⟩ := flts_form (HC.out (Obj.cells #[Value.slice a1 l.length c1] 24))
    cases heq
    refine (first_check w.heap.size _ _ l _ (by omega) (cell_new _ _ _) (hide hf)).mono ?_
    clear hf HC
    rintro e w1 ⟨rfl, hB1⟩
    have hB2 := ((Below.refl w.heap.size w).alloc (Nat.le_refl _) (Obj.cells #[Value.slice a1 l.length c1] 24)).trans (hB1.mono (Nat.le_of_lt (size_new _ _)))
    have e0 : w1.cell? ⟨w.heap.size, 0, none⟩ = some (.slice a1 l.length c1) := (hB1.cell (p := ⟨w.heap.size, 0, none⟩) (size_new _ _)).trans (cell_new _ _ _)
    by_cases hb : fb l < l.length
    · go_wp2
      go_ret2
      rw [← HR.out, chk_bad hlong hb]
      exact ⟨rfl, hB2⟩
    · have hb' : fb l = l.length := by omega
      rw [hb']
      go_wp2
      go_quiet (fail)
      go_wp2
      go_ret2
      rw [← HR.out, chk_good hlong hb']
      exact ⟨rfl, below_drewN hB2 _⟩
end Go.Proofs.YtkkommomefmpgaaGreat

/- Plans: isMade, New, Next, Rest, Copy, the reference's Next. -/
namespace Go.Proofs.YtkkommomefmpgaaGreat
open Go.RowKit

structure PlanAt (W : World) (g : Nat) (v : Value) (l : List Fault) : Prop where
  made : W.cell? ⟨g, 0, none⟩ = some (.bool true)
  left : W.cell? ⟨g, 1, none⟩ = some v
  soft : W.frozen? ⟨g, 1, none⟩ = false
  list : Flts W v l
  apart : v.ownBlock ≠ some g
structure RPlanAt (W : World) (g : Nat) (v : Value) (l : List Fault) : Prop where
  left : W.cell? ⟨g, 0, none⟩ = some v
  soft : W.frozen? ⟨g, 0, none⟩ = false
  list : Flts W v l
  apart : v.ownBlock ≠ some g

def nxt (l : List Fault) (want : Int) : Int × Int :=
  if want < 1 ∨ 1048576 < want then (0, 4) else match l with
  | [] => (want, 0)
  | f :: _ => if f.1 = 1 then (min want f.2, 0) else if f.1 = 2 then (0, 22) else if f.1 = 3 then (0, 23) else (want, 0)
set_option maxHeartbeats 1000000 in
theorem Fa_isMade_yes (g : Nat) (w : World) (h : w.cell? ⟨g, 0, none⟩ = some (.bool true)) :
    Calls Tryz.prog 201 #[.pointer (some ⟨g, 0, none⟩)] w fun e w' => e = .returned (.bool true) ∧ w' = w := by
  go_enter Tryz.func201, Tryz.ntmps201
  go_wp2
  go_ret
  exact ⟨rfl, rfl⟩
set_option maxRecDepth 100000 in
set_option maxHeartbeats 1000000 in
theorem Fa_new_bad (v : Value) (l : List Fault) (w : World) (h : Flts w v l) (hs : l.length ≤ maxLen) (hc : (chk l).1 ≠ 0) :
    Calls Tryz.prog 39 #[v] w fun e w' => e = .returned (.tuple #[.pointer none, .int .i64 (chk l).1]) ∧ Below w.heap.size w w' := by
  have hk := Fa_check_any v l w h hs
  have HK := hide hk
  have hc' : ((chk l).1 == 0) = false := by simpa using hc
  generalize (chk l).1 = x at *
  generalize (chk l).2 = y at *
  clear hk h hs hc
  go_enter Tryz.func39, Tryz.ntmps39
  go_wp2_with fail
  refine HK.out.mono ?_
  rintro e w1 ⟨rfl, hB⟩
  go_wp2
  go_ret2
  exact ⟨rfl, hB⟩

set_option maxRecDepth 100000 in
set_option maxHeartbeats 1000000 in
theorem Fa_new_good (v : Value) (l : List Fault) (w : World) (h : Flts w v l) (hs : l.length * 16 ≤ 140737488351232) (hc : (chk l).1 = 0) :
    Calls Tryz.prog 39 #[v] w fun e w' => ∃ g v', e = .returned (.tuple #[.pointer (some ⟨g, 0, none⟩), .int .i64 0]) ∧ PlanAt w' g v' l ∧ w.heap.size ≤ g ∧ g < w'.heap.size ∧ (∀ k, v'.ownBlock = some k → w.heap.size ≤ k ∧ k < w'.heap.size) ∧ Below w.heap.size w w' := by
  have hk := Fa_check_any v l w h (by unfold maxLen; omega)
  rw [hc] at hk
  have HK := hide hk
  generalize (chk l).2 = y at *
  clear hk
  go_enter Tryz.func39, Tryz.ntmps39
  go_wp2_with fail
  refine HK.out.mono ?_
  rintro e w1 ⟨rfl, hB⟩
  have HF := hide (h.below hB)
  clear h HK
  go_wp2_with fail
  refine (clone_any v l w1 HF.out hs).mono ?_
  rintro e w2 ⟨v', rfl, hown, hB2⟩
  obtain ⟨a2, c2, rfl⟩ := owns_slice hown
  have HO := hide hown
  clear hown
  go_wp2
  go_ret2
  have hB3 := hB.trans (hB2.mono hB.size)
  have hl := HO.out.lt
  have hz := hB.size
  refine ⟨_, .slice a2 l.length c2, rfl, ⟨?_, ?_, ?_, ?_, ?_⟩, hB3.size, ?_, ?_, hB3.alloc hB3.size _⟩
  · simp only [World.cell?, heap_alloc_new]; rfl
  · simp only [World.cell?, heap_alloc_new]; rfl
  · simp only [World.frozen?, heap_alloc_new]; rfl
  · exact (Flts.of_owns HO.out).below ((Below.refl _ _).alloc (Nat.le_refl _) _)
  · intro he
    have := (hl _ he).2
    omega
  · exact size_new _ _
  · intro k hk
    have := hl k hk
    have := size_new w2 (Obj.cells #[Value.bool true, Value.slice a2 l.length c2] 213)
    omega

theorem PlanAt.form {W : World} {g : Nat} {v : Value} {l : List Fault} (h : PlanAt W g v l) : ∃ a c, v = .slice a l.length c := by
  obtain ⟨a, c, rfl, _⟩ := flts_form h.list
  exact ⟨a, c, rfl⟩
theorem PlanAt.keep {W W' : World} {g : Nat} {v : Value} {l : List Fault} (h : PlanAt W g v l) (hB : ∀ k, k < W.heap.size → k = g ∨ v.ownBlock = some k → W'.heap[k]? = W.heap[k]?) : PlanAt W' g v l := by
  have hg := World.block_lt_of_cell? W _ h.made
  have e := hB g hg (.inl rfl)
  exact ⟨(World.cell?_of_block (w := W) e).trans h.made, (World.cell?_of_block (w := W) e).trans h.left, (World.frozen?_of_block (w := W) e).trans h.soft, h.list.lift fun k hk hl => hB k hl (.inr hk), h.apart⟩
theorem RPlanAt.keep {W W' : World} {g : Nat} {v : Value} {l : List Fault} (h : RPlanAt W g v l) (hB : ∀ k, k < W.heap.size → k = g ∨ v.ownBlock = some k → W'.heap[k]? = W.heap[k]?) : RPlanAt W' g v l := by
  have hg := World.block_lt_of_cell? W _ h.left
  have e := hB g hg (.inl rfl)
  exact ⟨(World.cell?_of_block (w := W) e).trans h.left, (World.frozen?_of_block (w := W) e).trans h.soft, h.list.lift fun k hk hl => hB k hl (.inr hk), h.apart⟩
set_option maxRecDepth 100000 in
set_option maxHeartbeats 1000000 in
theorem next_end (g : Nat) (v : Value) (want : Int) (w : World) (h : PlanAt w g v []) (hw1 : 1 ≤ want) (hw2 : want ≤ 1048576) :
    Calls Tryz.prog 141 #[.pointer (some ⟨g, 0, none⟩), .int .i64 want] w fun e w' => e = .returned (.tuple #[.int .i64 want, .int .i64 0]) ∧ w' = w := by
  obtain ⟨a, c, rfl⟩ := h.form
  have h1 := h.made
  have h2 := h.left
  simp only [List.length_nil] at h2
  clear h
  go_enter Tryz.func141, Tryz.ntmps141
  go_wp2_with fail
  refine (Fa_isMade_yes g w h1).mono ?_
  rintro e w1 ⟨rfl, rfl⟩
  go_wp2
  go_ret2
  exact ⟨rfl, rfl⟩
theorem nxt_in {x y want : Int} {r : List Fault} (h1 : 1 ≤ want) (h2 : want ≤ 1048576) : nxt ((x, y) :: r) want = if x = 1 then (min want y, 0) else if x = 2 then (0, 22) else if x = 3 then (0, 23) else (want, 0) := by
  simp only [nxt]
  rw [if_neg (by omega)]

theorem plan_world {w : World} {g b off cap n : Nat} {f : Fault} {r : List Fault} {o : Obj} {v' : Value} (h : PlanAt w g (.slice (some ⟨b, off, none⟩) n cap) (f :: r)) (hn : n = r.length + 1) (hcap : n ≤ cap)
    (hv : v' = .slice (some ⟨b, off + 2, none⟩) r.length (cap - 1) ∨ v' = .slice (some ⟨b, off, none⟩) r.length 0 ∧ cap = 1) :
    PlanAt ((w.setCell ⟨g, 1, none⟩ v').alloc o) g v' r ∧ v'.ownBlock = some b ∧ w.grownBy ((w.setCell ⟨g, 1, none⟩ v').alloc o) (some g) := by
  have hne : g ≠ b := fun e => h.apart (by rw [e]; rfl)
  have hgl : g < w.heap.size := World.block_lt_of_cell? w _ h.made
  have hsz : (w.setCell ⟨g, 1, none⟩ v').heap.size = w.heap.size := by simp [World.setCell]
  have hal : ∀ k, k < w.heap.size → ((w.setCell ⟨g, 1, none⟩ v').alloc o).heap[k]? = (w.setCell ⟨g, 1, none⟩ v').heap[k]? := fun k hk => Below.heap_alloc _ _ _ (by rw [hsz]; exact hk)
  have hoth : ∀ k, k < w.heap.size → k ≠ g → ((w.setCell ⟨g, 1, none⟩ v').alloc o).heap[k]? = w.heap[k]? := fun k hk hkg => (hal k hk).trans (Below.heap_setCell _ _ _ _ hkg)
  have hob : v'.ownBlock = some b := by rcases hv with rfl | ⟨rfl, _⟩ <;> rfl
  refine ⟨⟨?_, ?_, ?_, ?_, by rw [hob]; intro e; exact hne (Option.some.inj e).symm⟩, hob, ⟨rfl, rfl, rfl, ?_, ?_⟩⟩
  · exact (World.cell?_of_block (hal g hgl)).trans ((World.cell?_setCell_other _ _ _ _ (by simp)).trans h.made)
  · exact (World.cell?_of_block (hal g hgl)).trans (World.cell?_setCell_same _ _ _ h.left)
  · exact (World.frozen?_of_block (hal g hgl)).trans ((World.frozen?_setCell _ _ _ _).trans h.soft)
  · rcases h.list with ⟨h0, _⟩ | ⟨a, c, h0, h1⟩ | ⟨b', off', cap', heq, h0, hc', hc⟩
    · cases h0
    · cases h1
    · cases heq
      rcases hv with rfl | ⟨rfl, h1⟩
      · by_cases hr : r.length = 0
        · exact .inr (.inl ⟨_, _, by rw [hr], List.length_eq_zero_iff.1 hr⟩)
        · refine .inr (.inr ⟨b, off + 2, cap - 1, rfl, by omega, by omega, fun j hj => ?_⟩)
          have hj' : j + 1 < (f :: r).length := by simp only [List.length_cons]; omega
          have hbl : b < w.heap.size := World.block_lt_of_cell? w _ (hc (j + 1) hj').1
          have e := hoth b hbl (Ne.symm hne)
          have e1 := (hc (j + 1) hj').1
          have e2 := (hc (j + 1) hj').2
          rw [List.getD_cons_succ] at e1 e2
          rw [show off + (j + 1) * 2 = off + 2 + j * 2 by omega] at e1 e2
          exact ⟨(World.cell?_of_block (w := w) e).trans e1, (World.cell?_of_block (w := w) e).trans e2⟩
      · have hr : r.length = 0 := by omega
        exact .inr (.inl ⟨_, _, by rw [hr], List.length_eq_zero_iff.1 hr⟩)
  · have := size_new (w.setCell ⟨g, 1, none⟩ v') o
    omega
  · intro k hk hkg
    exact hoth k hk fun e => hkg (by rw [e])

set_option maxRecDepth 100000 in
set_option maxHeartbeats 1000000 in
theorem next_some (g : Nat) (v : Value) (f : Fault) (r : List Fault) (want : Int) (w : World) (h : PlanAt w g v (f :: r)) (hw1 : 1 ≤ want) (hw2 : want ≤ 1048576) (hs : r.length < maxLen) :
    Calls Tryz.prog 141 #[.pointer (some ⟨g, 0, none⟩), .int .i64 want] w fun e w' => e = .returned (.tuple #[.int .i64 (nxt (f :: r) want).1, .int .i64 (nxt (f :: r) want).2]) ∧ ∃ v', PlanAt w' g v' r ∧ v'.ownBlock = v.ownBlock ∧ w.grownBy w' (some g) := by
  unfold maxLen at hs
  have h1 := h.made
  have h2 := h.left
  have h3 := h.soft
  rcases h.list with ⟨rfl, h0⟩ | ⟨a, cap, rfl, h0⟩ | ⟨b, off, cap, rfl, h0, hcap, hc⟩
  · cases h0
  · cases h0
  · have e1 := (hc 0 h0).1
    have e2 := (hc 0 h0).2
    simp only [Nat.zero_mul, Nat.add_zero, List.getD_cons_zero] at e1 e2
    obtain ⟨x, y⟩ := f
    simp only at e1 e2
    have hne : g ≠ b := fun e => h.apart (by rw [e]; rfl)
    simp only [List.length_cons] at h2 hcap
    have HC := hide hc
    have HP := hide h
    have hgl := World.block_lt_of_cell? w _ h1
    have h2' : ∀ o, (w.alloc o).cell? ⟨g, 1, none⟩ = some (.slice (some ⟨b, off, none⟩) (r.length + 1) cap) := fun o => (World.cell?_of_block (w := w) (Below.heap_alloc w o g hgl)).trans h2
    have h3' : ∀ o, (w.alloc o).frozen? ⟨g, 1, none⟩ = false := fun o => (World.frozen?_of_block (w := w) (Below.heap_alloc w o g hgl)).trans h3
    have hgn : w.heap.size ≠ g := by simp only at hgl; omega
    clear hc h h0 h3
    go_enter Tryz.func141, Tryz.ntmps141
    go_wp2_with fail
    refine (Fa_isMade_yes g w h1).mono ?_
    rintro e w1 ⟨rfl, rfl⟩
    go_wp2
    all_goals go_ret2
    all_goals refine ⟨ret2 (congrArg (Value.int .i64) ?_) (congrArg (Value.int .i64) ?_), _, plan_world HP.out (by simp) (by simp only [List.length_cons]; omega) (by first | exact .inl rfl | exact .inr ⟨rfl, by first | rfl | omega⟩)⟩
    all_goals clear HC HP
    all_goals rw [nxt_in hw1 hw2]
    all_goals simp_all
    all_goals omega
end Go.Proofs.YtkkommomefmpgaaGreat

/- A pipe: what its block holds, and what stays of it. -/
namespace Go.Proofs.YtkkommomefmpgaaGreat
open Go.RowKit

def pcells (R : List Value) (f c rd wr : Nat) : List Value := .bool true :: (R ++ [.int .i64 f, .int .i64 c, .int .i64 rd, .int .i64 wr])
theorem pcells_len (R : List Value) (f c rd wr : Nat) (h : R.length = 4096) : (pcells R f c rd wr).length = 4101 := by simp [pcells, h]
theorem pcells_tail (R : List Value) (f c rd wr : Nat) (h : R.length = 4096) (j : Nat) : (pcells R f c rd wr)[4097 + j]? = ([.int .i64 f, .int .i64 c, .int .i64 rd, .int .i64 wr] : List Value)[j]? := by
  unfold pcells
  rw [show 4097 + j = (4096 + j) + 1 by omega, List.getElem?_cons_succ, List.getElem?_append_right (by omega), h, show 4096 + j - 4096 = j by omega]
theorem pcells_place (R : List Value) (f c rd wr : Nat) (h : R.length = 4096) (j : Nat) (hj : j < 4096) : (pcells R f c rd wr)[1 + j]? = R[j]? := by
  unfold pcells
  rw [Nat.add_comm, List.getElem?_cons_succ, List.getElem?_append_left (by omega)]
theorem pcells_set (R : List Value) (f c rd wr : Nat) (h : R.length = 4096) (j : Nat) (v : Value) : (pcells R f c rd wr).set (4097 + j) v = .bool true :: (R ++ ([.int .i64 f, .int .i64 c, .int .i64 rd, .int .i64 wr] : List Value).set j v) := by
  unfold pcells
  rw [show 4097 + j = (4096 + j) + 1 by omega, List.set_cons_succ, List.set_append_right _ _ (by omega), h, show 4096 + j - 4096 = j by omega]
theorem pcells_splice (R : List Value) (f c rd wr : Nat) (h : R.length = 4096) (off : Nat) (cs : List Value) (hf : off + cs.length ≤ 4096) : splice (pcells R f c rd wr) (1 + off) cs = pcells (splice R off cs) f c rd wr := by
  unfold pcells splice
  rw [Nat.add_comm 1 off, List.take_succ_cons, show off + 1 + cs.length = (off + cs.length) + 1 by omega, List.drop_succ_cons, List.take_append_of_le_length (by omega), List.drop_append_of_le_length (by omega)]
  simp

theorem heap_setCell_same {W : World} {g : Nat} (j : Nat) (v : Value) {cur : List Value} {t : TypeId} {fr : Nat × Nat} (h : W.heap[g]? = some (.cells cur.toArray t fr)) : (W.setCell ⟨g, j, none⟩ v).heap[g]? = some (.cells (cur.set j v).toArray t fr) := by
  unfold World.setCell
  simp only [Array.getElem?_modify, h]
  simp

structure Pp (W : World) (g : Nat) (R : List Value) (f c rd wr : Nat) : Prop where
  blk : W.heap[g]? = some (.cells (pcells R f c rd wr).toArray 324 (0, 0))
  len : R.length = 4096
  lf : f < 4096
  lc : c ≤ 4096
  lr : rd ≤ 1024
  lw : wr ≤ 1024
theorem Pp.keep {W W' : World} {g : Nat} {R : List Value} {f c rd wr : Nat} (h : Pp W g R f c rd wr) (hB : W'.heap[g]? = W.heap[g]?) : Pp W' g R f c rd wr := ⟨hB.trans h.blk, h.len, h.lf, h.lc, h.lr, h.lw⟩
theorem Pp.lt {W : World} {g : Nat} {R : List Value} {f c rd wr : Nat} (h : Pp W g R f c rd wr) : g < W.heap.size := (Array.getElem?_eq_some_iff.1 h.blk).1
theorem Pp.soft {W : World} {g : Nat} {R : List Value} {f c rd wr : Nat} (h : Pp W g R f c rd wr) (j : Nat) : W.frozen? ⟨g, j, none⟩ = false := frozen_of_row W g j _ _ h.blk
theorem Pp.c0 {W : World} {g : Nat} {R : List Value} {f c rd wr : Nat} (h : Pp W g R f c rd wr) : W.cell? ⟨g, 0, none⟩ = some (.bool true) := by
  rw [cell_of_row W g 0 _ _ _ h.blk]; simp [pcells]
theorem Pp.cf {W : World} {g : Nat} {R : List Value} {f c rd wr : Nat} (h : Pp W g R f c rd wr) : W.cell? ⟨g, 4097, none⟩ = some (.int .i64 f) := by
  rw [cell_of_row W g 4097 _ _ _ h.blk, List.getElem?_toArray]; exact pcells_tail R f c rd wr h.len 0
theorem Pp.cc {W : World} {g : Nat} {R : List Value} {f c rd wr : Nat} (h : Pp W g R f c rd wr) : W.cell? ⟨g, 4098, none⟩ = some (.int .i64 c) := by
  rw [cell_of_row W g 4098 _ _ _ h.blk, List.getElem?_toArray]; exact pcells_tail R f c rd wr h.len 1
theorem Pp.cr {W : World} {g : Nat} {R : List Value} {f c rd wr : Nat} (h : Pp W g R f c rd wr) : W.cell? ⟨g, 4099, none⟩ = some (.int .i64 rd) := by
  rw [cell_of_row W g 4099 _ _ _ h.blk, List.getElem?_toArray]; exact pcells_tail R f c rd wr h.len 2
theorem Pp.cw {W : World} {g : Nat} {R : List Value} {f c rd wr : Nat} (h : Pp W g R f c rd wr) : W.cell? ⟨g, 4100, none⟩ = some (.int .i64 wr) := by
  rw [cell_of_row W g 4100 _ _ _ h.blk, List.getElem?_toArray]; exact pcells_tail R f c rd wr h.len 3
theorem Pp.place {W : World} {g : Nat} {R : List Value} {f c rd wr : Nat} (h : Pp W g R f c rd wr) (j : Nat) (hj : j < 4096) : W.cell? ⟨g, 1 + j, none⟩ = R[j]? := by
  rw [cell_of_row W g (1 + j) _ _ _ h.blk, List.getElem?_toArray]; exact pcells_place R f c rd wr h.len j hj
theorem Pp.setf {W : World} {g : Nat} {R : List Value} {f c rd wr : Nat} (h : Pp W g R f c rd wr) (f' : Nat) (hf : f' < 4096) : Pp (W.setCell ⟨g, 4097, none⟩ (.int .i64 f')) g R f' c rd wr :=
  ⟨by rw [heap_setCell_same 4097 _ h.blk, pcells_set R f c rd wr h.len 0]; rfl, h.len, hf, h.lc, h.lr, h.lw⟩
theorem Pp.setc {W : World} {g : Nat} {R : List Value} {f c rd wr : Nat} (h : Pp W g R f c rd wr) (c' : Nat) (hc : c' ≤ 4096) : Pp (W.setCell ⟨g, 4098, none⟩ (.int .i64 c')) g R f c' rd wr :=
  ⟨by rw [heap_setCell_same 4098 _ h.blk, pcells_set R f c rd wr h.len 1]; rfl, h.len, h.lf, hc, h.lr, h.lw⟩
theorem run_copy_tag (w : World) (ty : TypeId) (dp sp : Option Addr) (dLen dCap sLen sCap : Nat) (g off : Nat) (tag : TypeId) (cur : List Value) (hg : w.heap[g]? = some (.cells cur.toArray tag (0, 0))) (cs : List Value) (hn : cs.length = Nat.min sLen dLen)
    (hpos : 0 < cs.length → dp = some ⟨g, off, none⟩ ∧ ∃ ad, sp = some ad ∧ ∀ j v, cs[j]? = some v → w.cell? (ad.add j) = some v) (hfit : off + cs.length ≤ cur.length) (h1 : ∀ v ∈ cs, v.oneCell' = true) :
    ∃ w', (Builtin.copy_ #[40, 40] ty #[.slice dp dLen dCap, .slice sp sLen sCap]).run Tryz.prog w = .ok (goInt cs.length) w' ∧ Hid (w'.heap[g]? = some (.cells (splice cur off cs).toArray tag (0, 0))) ∧ w.grownBy w' (some g) := by
  refine (?_ : ∃ w', (Builtin.copy_ #[40, 40] ty #[.slice dp dLen dCap, .slice sp sLen sCap]).run Tryz.prog w = .ok (goInt cs.length) w' ∧ w'.heap[g]? = some (.cells (splice cur off cs).toArray tag (0, 0)) ∧ w.grownBy w' (some g))
  obtain ⟨i0, hi, hz0, hz1, hz2⟩ := info_parts Tryz.infoB
  have hsz : (Tryz.prog.info? 5).map (·.size) = some 1 := by rw [hi]; simp [hz1]
  by_cases h0 : cs.length = 0
  · obtain rfl : cs = [] := List.eq_nil_of_length_eq_zero h0
    exact ⟨w, run_copy_none (P := Tryz.prog) w _ _ ty 5 dp sp dLen dCap sLen sCap Tryz.underlying40 hsz (by simpa using hn.symm), by simpa [splice] using hg, ⟨rfl, rfl, rfl, Nat.le_refl _, fun _ _ _ => rfl⟩⟩
  · obtain ⟨rfl, ad, rfl, hsrc⟩ := hpos (by omega)
    have hrun := run_copy_row (P := Tryz.prog) w 40 40 ty 5 g off dLen dCap ad sLen sCap cur.toArray tag cs Tryz.underlying40 hsz hg hn hsrc (by simpa using hfit) h1
    refine ⟨_, hrun, by simpa [splice] using setRow_heap w g _ _ tag _ hg, ⟨rfl, rfl, rfl, by simp [World.setRow], fun j _ hj => setRow_other w g j _ (fun e => hj (by rw [e]))⟩⟩

end Go.Proofs.YtkkommomefmpgaaGreat

/- What the small functions of a pipe answer: isMade, mayBeAsked, room, place, side, readWaits, refuses, fitting. -/
namespace Go.Proofs.YtkkommomefmpgaaGreat
open Go.RowKit

def inN (n : Int) : Bool := decide (1 ≤ n) && decide (n ≤ 1048576)
theorem inN_true {n : Int} (h : inN n = true) : 1 ≤ n ∧ n ≤ 1048576 := by simpa [inN] using h
theorem inN_nat {n : Int} (h : inN n = true) : ∃ m : Nat, n = (m : Int) ∧ 1 ≤ m ∧ m ≤ 1048576 := by
  have := inN_true h
  exact ⟨n.toNat, by omega, by omega, by omega⟩

theorem isMade_is (g : Nat) (x : Bool) (w : World) (h : w.cell? ⟨g, 0, none⟩ = some (.bool x)) :
    Calls Tryz.prog 204 #[.pointer (some ⟨g, 0, none⟩)] w fun e w' => e = .returned (.bool x) ∧ w' = w := by
  go_enter Tryz.func204, Tryz.ntmps204
  go_wp2
  go_ret
  exact ⟨rfl, rfl⟩
theorem mayBeAsked_any (n : Int) (w : World) :
    Calls Tryz.prog 315 #[.int .i64 n] w fun e w' => e = .returned (.bool (inN n)) ∧ w' = w := by
  unfold inN
  rcases (show n < 1 ∨ (1 ≤ n ∧ n ≤ 1048576) ∨ 1048576 < n by omega) with h | ⟨h, h1⟩ | h
  · rw [show decide (1 ≤ n) = false by simp; omega]
    go_enter Tryz.func315, Tryz.ntmps315
    go_wp2
    go_ret
    exact ⟨rfl, rfl⟩
  · rw [show decide (1 ≤ n) = true by simp; omega, show decide (n ≤ 1048576) = true by simp; omega]
    go_enter Tryz.func315, Tryz.ntmps315
    go_wp2
    go_ret
    exact ⟨rfl, rfl⟩
  · rw [show decide (1 ≤ n) = true by simp; omega, show decide (n ≤ 1048576) = false by simp; omega]
    have h1 : 1 ≤ n := by omega
    go_enter Tryz.func315, Tryz.ntmps315
    go_wp2
    go_ret
    exact ⟨ret_bool (by simp; omega), rfl⟩
theorem room_is (g c : Nat) (w : World) (h : w.cell? ⟨g, 4098, none⟩ = some (.int .i64 c)) (hc : c ≤ 4096) :
    Calls Tryz.prog 321 #[.pointer (some ⟨g, 1, none⟩)] w fun e w' => e = .returned (.int .i64 ((4096 - c : Nat) : Int)) ∧ w' = w := by
  go_enter Tryz.func321, Tryz.ntmps321
  go_wp2
  go_ret
  exact ⟨ret_int (by omega), rfl⟩
theorem place_is (g f n : Nat) (w : World) (h : w.cell? ⟨g, 4097, none⟩ = some (.int .i64 f)) (hf : f < 4096) (hn : n ≤ 4096) :
    Calls Tryz.prog 322 #[.pointer (some ⟨g, 1, none⟩), .int .i64 n] w fun e w' => e = .returned (.int .i64 (((f + n) % 4096 : Nat) : Int)) ∧ w' = w := by
  go_enter Tryz.func322, Tryz.ntmps322
  go_wp2
  go_ret
  exact ⟨ret_int (by omega), rfl⟩
theorem readWaits_is (g : Nat) (R : List Value) (f c rd wr : Nat) (w : World) (h : Pp w g R f c rd wr) :
    Calls Tryz.prog 316 #[.pointer (some ⟨g, 0, none⟩)] w fun e w' => e = .returned (.bool (decide (c = 0 ∧ 0 < wr))) ∧ w' = w := by
  have h1 := h.cc
  have h2 := h.cw
  have h3 := h.lc
  clear h
  rcases (show 0 < c ∨ (c = 0 ∧ 0 < wr) ∨ (c = 0 ∧ wr = 0) by omega) with hc | ⟨rfl, hw⟩ | ⟨rfl, rfl⟩
  · rw [show decide (c = 0 ∧ 0 < wr) = false by simp; omega]
    have k1 : ¬ ((4096 - c : Nat) : Int) = 4096 := by omega
    have k2 : (((4096 - c : Nat) : Int) == 4096) = false := by simp; omega
    go_enter Tryz.func316, Tryz.ntmps316
    go_wp2_with fail
    refine (room_is g c w h1 h3).mono ?_
    rintro e w1 ⟨rfl, rfl⟩
    generalize ((4096 - c : Nat) : Int) = y at *
    go_wp2
    go_ret
    exact ⟨rfl, rfl⟩
  · rw [show decide (0 = 0 ∧ 0 < wr) = true by simp; omega]
    have k2 : (0 : Int) < (wr : Int) := by omega
    go_enter Tryz.func316, Tryz.ntmps316
    go_wp2_with fail
    refine (room_is g 0 w h1 h3).mono ?_
    rintro e w1 ⟨rfl, rfl⟩
    go_wp2
    go_ret
    exact ⟨rfl, rfl⟩
  · go_enter Tryz.func316, Tryz.ntmps316
    go_wp2_with fail
    refine (room_is g 0 w h1 h3).mono ?_
    rintro e w1 ⟨rfl, rfl⟩
    go_wp2
    go_ret
    exact ⟨rfl, rfl⟩

def fitN (n most c : Nat) : Nat := if 512 < n then min n (min most (4096 - c)) else if 4096 - c < n then 0 else n
theorem fitN_le (n most c : Nat) : fitN n most c ≤ n ∧ (c ≤ 4096 → c + fitN n most c ≤ 4096) := by unfold fitN; split <;> (try split) <;> omega

set_option maxHeartbeats 1000000 in
theorem fitting_is (g : Nat) (R : List Value) (f c rd wr n most : Nat) (w : World) (h : Pp w g R f c rd wr) (hn : n ≤ 1048576) :
    Calls Tryz.prog 319 #[.pointer (some ⟨g, 0, none⟩), .int .i64 n, .int .i64 most] w fun e w' => e = .returned (.int .i64 (fitN n most c : Nat)) ∧ w' = w := by
  have h1 := h.cc
  have h3 := h.lc
  clear h
  unfold fitN
  by_cases hb : 512 < n
  · rw [if_pos hb]
    go_enter Tryz.func319, Tryz.ntmps319
    go_wp2_with fail
    refine (room_is g c w h1 h3).mono ?_
    rintro e w1 ⟨rfl, rfl⟩
    generalize hy : 4096 - c = y at *
    go_wp2
    all_goals
      go_ret
      exact ⟨ret_int (by omega), rfl⟩
  · rw [if_neg hb]
    by_cases hr : 4096 - c < n
    · rw [if_pos hr]
      have k1 : ((4096 - c : Nat) : Int) < (n : Int) := by omega
      go_enter Tryz.func319, Tryz.ntmps319
      go_wp2_with fail
      refine (room_is g c w h1 h3).mono ?_
      rintro e w1 ⟨rfl, rfl⟩
      generalize hy : 4096 - c = y at *
      go_wp2
      go_ret
      exact ⟨rfl, rfl⟩
    · rw [if_neg hr]
      have k1 : ¬ ((4096 - c : Nat) : Int) < (n : Int) := by omega
      go_enter Tryz.func319, Tryz.ntmps319
      go_wp2_with fail
      refine (room_is g c w h1 h3).mono ?_
      rintro e w1 ⟨rfl, rfl⟩
      generalize hy : 4096 - c = y at *
      go_wp2
      go_ret
      exact ⟨rfl, rfl⟩

def refE (n : Nat) (most : Int) (rd wr : Nat) : Int := if 1048576 < n then 5 else if inN most = false then 4 else if wr = 0 then 51 else if rd = 0 then 53 else 0

set_option maxHeartbeats 1000000 in
theorem refuses_is (g : Nat) (R : List Value) (f c rd wr : Nat) (a : Option Addr) (n k : Nat) (most : Int) (w : World) (h : Pp w g R f c rd wr) (hn : n ≤ 140737488351232) :
    Calls Tryz.prog 318 #[.pointer (some ⟨g, 0, none⟩), .slice a n k, .int .i64 most] w fun e w' => e = .returned (.int .i64 (refE n most rd wr)) ∧ w' = w := by
  have h1 := h.c0
  have h2 := h.cr
  have h3 := h.cw
  clear h
  unfold refE
  by_cases hb : 1048576 < n
  · rw [if_pos hb]
    have k1 : (1048576 : Int) < (n : Int) := by omega
    go_enter Tryz.func318, Tryz.ntmps318
    go_wp2_with fail
    refine (isMade_is g true w h1).mono ?_
    rintro e w1 ⟨rfl, rfl⟩
    go_wp2
    go_ret
    exact ⟨rfl, rfl⟩
  · rw [if_neg hb]
    have k1 : ¬ (1048576 : Int) < (n : Int) := by omega
    by_cases hi : inN most = false
    · rw [if_pos hi]
      have HI := hide hi
      clear hi
      go_enter Tryz.func318, Tryz.ntmps318
      go_wp2_with fail
      refine (isMade_is g true w h1).mono ?_
      rintro e w1 ⟨rfl, rfl⟩
      go_wp2_with fail
      refine (mayBeAsked_any most _).mono ?_
      rintro e w1 ⟨rfl, rfl⟩
      rw [HI.out]
      go_wp2
      go_ret
      exact ⟨rfl, rfl⟩
    · rw [if_neg hi]
      have HI : Hid (inN most = true) := hide (by simpa using hi)
      clear hi
      rcases (show wr = 0 ∨ (0 < wr ∧ rd = 0) ∨ (0 < wr ∧ 0 < rd) by omega) with rfl | ⟨hw, rfl⟩ | ⟨hw, hr⟩
      · rw [if_pos rfl]
        go_enter Tryz.func318, Tryz.ntmps318
        go_wp2_with fail
        refine (isMade_is g true w h1).mono ?_
        rintro e w1 ⟨rfl, rfl⟩
        go_wp2_with fail
        refine (mayBeAsked_any most _).mono ?_
        rintro e w1 ⟨rfl, rfl⟩
        rw [HI.out]
        go_wp2
        go_ret
        exact ⟨rfl, rfl⟩
      · rw [if_neg (by omega), if_pos rfl]
        have k2 : ¬ (wr : Int) = 0 := by omega
        have k3 : ((wr : Int) == 0) = false := by simp; omega
        go_enter Tryz.func318, Tryz.ntmps318
        go_wp2_with fail
        refine (isMade_is g true w h1).mono ?_
        rintro e w1 ⟨rfl, rfl⟩
        go_wp2_with fail
        refine (mayBeAsked_any most _).mono ?_
        rintro e w1 ⟨rfl, rfl⟩
        rw [HI.out]
        go_wp2
        go_ret
        exact ⟨rfl, rfl⟩
      · rw [if_neg (by omega), if_neg (by omega)]
        have k2 : ¬ (wr : Int) = 0 := by omega
        have k3 : ((wr : Int) == 0) = false := by simp; omega
        have k4 : ¬ (rd : Int) = 0 := by omega
        have k5 : ((rd : Int) == 0) = false := by simp; omega
        go_enter Tryz.func318, Tryz.ntmps318
        go_wp2_with fail
        refine (isMade_is g true w h1).mono ?_
        rintro e w1 ⟨rfl, rfl⟩
        go_wp2_with fail
        refine (mayBeAsked_any most _).mono ?_
        rintro e w1 ⟨rfl, rfl⟩
        rw [HI.out]
        go_wp2
        go_ret
        exact ⟨rfl, rfl⟩
end Go.Proofs.YtkkommomefmpgaaGreat

/- The ring of a pipe: front. -/
namespace Go.Proofs.YtkkommomefmpgaaGreat
open Go.RowKit

theorem Kp_made_row {w w1 : World} {T n : Nat} {xs : List Value} (h : w1.ownsRow w.heap.size T 1 (.slice (some ⟨w.heap.size, 0, none⟩) n n) n xs) (hg : w.grownBy w1 none) :
    ∃ cur : List Value, cur.length = n ∧ Hid (w1.heap[w.heap.size]? = some (.cells cur.toArray T (0, 0))) ∧ Below w.heap.size w w1 := by
  refine (?_ : ∃ cur : List Value, cur.length = n ∧ w1.heap[w.heap.size]? = some (.cells cur.toArray T (0, 0)) ∧ Below w.heap.size w w1)
  rcases h.2 with ⟨h0, _⟩ | ⟨g, c, cur, h1, h2, h3, h4, h5, h6, h7⟩
  · cases h0
  · cases h1
    exact ⟨cur.toList, by rw [Array.length_toList]; omega, by rw [Array.toArray_toList]; exact h3, (Below.refl _ w).grown hg (Nat.le_refl _) (fun k e => by cases e)⟩
theorem Kp_bys_src {w : World} {a1 : Option Addr} {n c1 : Nat} {l : List UInt8} {X : List Value} (h : Bys w (.slice a1 n c1) l) (hX : X = l.map bv) :
    0 < X.length → ∃ ad, a1 = some ad ∧ ∀ j v, X[j]? = some v → w.cell? (ad.add j) = some v := by
  intro h0
  obtain ⟨a, c, he, hc⟩ := bys_form h
  cases he
  obtain ⟨b, off, rfl, hd⟩ := hc (by rw [hX] at h0; simpa using h0)
  exact ⟨_, rfl, fun j v hj => bys_news hd j v (by rw [← hX]; exact hj)⟩

theorem splice_two (cur X : List Value) (k : Nat) (h : cur.length = X.length) (hk : k ≤ X.length) : splice (splice cur 0 (X.take k)) k (X.drop k) = X := by
  have h1 : splice cur 0 (X.take k) = X.take k ++ cur.drop k := by simp [splice, Nat.min_eq_left hk]
  rw [h1]
  unfold splice
  have h2 : (X.take k ++ cur.drop k).drop (k + (X.drop k).length) = [] := List.drop_eq_nil_of_le (by simp only [List.length_append, List.length_take, List.length_drop]; omega)
  rw [h2, List.take_left' (by simp only [List.length_take]; omega), List.append_nil, List.take_append_drop]
theorem ring_src {W : World} {g f c rd wr m : Nat} {R X : List Value} (h : Pp W g R f c rd wr) (hX : (R.drop f ++ R).take m = X) (k : Nat) (hk : k ≤ 4096 - f) :
    ∀ j v, (X.take k)[j]? = some v → W.cell? ((⟨g, 1 + f, none⟩ : Addr).add j) = some v := by
  intro j v hj
  have hjk : j < k := by
    have := (List.getElem?_eq_some_iff.1 hj).1
    simp at this; omega
  rw [List.getElem?_take, if_pos hjk, ← hX, List.getElem?_take] at hj
  split at hj
  · rw [List.getElem?_append_left (by simp [h.len]; omega), List.getElem?_drop] at hj
    rw [show (⟨g, 1 + f, none⟩ : Addr).add j = ⟨g, 1 + (f + j), none⟩ by unfold Addr.add; split <;> simp_all [Nat.add_assoc], h.place (f + j) (by omega)]
    exact hj
  · cases hj
theorem ring_src2 {W : World} {g f c rd wr m : Nat} {R X : List Value} (h : Pp W g R f c rd wr) (hX : (R.drop f ++ R).take m = X) (hm : m ≤ 4096) :
    ∀ j v, (X.drop (4096 - f))[j]? = some v → W.cell? ((⟨g, 1, none⟩ : Addr).add j) = some v := by
  intro j v hj
  have hf := h.lf
  rw [List.getElem?_drop, ← hX, List.getElem?_take] at hj
  split at hj
  · rw [List.getElem?_append_right (by simp [h.len]), List.length_drop, h.len, show 4096 - f + j - (4096 - f) = j by omega] at hj
    rw [show (⟨g, 1, none⟩ : Addr).add j = ⟨g, 1 + j, none⟩ by unfold Addr.add; split <;> simp_all, h.place j (by omega)]
    exact hj
  · cases hj

set_option maxRecDepth 100000 in
set_option maxHeartbeats 2000000 in
theorem front_any (g : Nat) (R : List Value) (f rd wr : Nat) (q : List UInt8) (n : Nat) (w : World) (h : Pp w g R f q.length rd wr) (hq : (R.drop f ++ R).take q.length = q.map bv) (hn : n ≤ 1048576) :
    Calls Tryz.prog 207 #[.pointer (some ⟨g, 1, none⟩), .int .i64 n] w fun e w' => e = .returned (.slice (some ⟨w.heap.size, 0, none⟩) (q.take n).length (q.take n).length) ∧ w'.ownsRow w.heap.size 5 1 (.slice (some ⟨w.heap.size, 0, none⟩) (q.take n).length (q.take n).length) (q.take n).length ((q.take n).map bv) ∧ Below w.heap.size w w' := by
  obtain ⟨i0, hi, hz0, hz1, hz2⟩ := info_parts Tryz.infoB
  have hf := h.lf
  have hc := h.lc
  have hgl := h.lt
  have HP := hide h
  have hcf := h.cf
  have hcc := h.cc
  obtain ⟨m, hm⟩ : ∃ m, m = (q.take n).length := ⟨_, rfl⟩
  have hm' : m = min n q.length := by rw [hm]; simp
  have hX : (R.drop f ++ R).take m = (q.take n).map bv := by
    rw [List.map_take, ← hq, List.take_take, hm']
  have H1 : Hid (∀ v ∈ (q.take n).map bv, v.oneCell' = true) := hide (bys_one _)
  have hXl : ((q.take n).map bv).length = m := by rw [List.length_map, hm]
  rw [← hm]
  generalize (q.take n).map bv = X at *
  generalize q.length = c at *
  have HX := hide hX
  clear h hq hm hX
  obtain ⟨k, hk⟩ : ∃ k, k = min m (4096 - f) := ⟨_, rfl⟩
  have hkl : (X.take k).length = k := by rw [List.length_take, hXl]; omega
  have hkd : (X.drop k).length = m - k := by rw [List.length_drop, hXl]
  have H1a : Hid (∀ v ∈ X.take k, v.oneCell' = true) := hide fun v hv => H1.out v (List.mem_of_mem_take hv)
  have H1b : Hid (∀ v ∈ X.drop k, v.oneCell' = true) := hide fun v hv => H1.out v (List.mem_of_mem_drop hv)
  have hfl : ¬ 4096 = f := by omega
  have hfi : (f : Int) ≤ 4096 := by omega
  have hkc : k = m ∨ (k = 4096 - f ∧ k < m) := by omega
  rcases (show n < c ∨ c < n ∨ n = c by omega) with hnc | hnc | rfl
  case' inl =>
    have hd : ¬ (c : Int) < (n : Int) := by omega
    obtain rfl : m = n := by omega
  case' inr.inl =>
    have hd : (c : Int) < (n : Int) := by omega
    obtain rfl : m = c := by omega
  case' inr.inr =>
    have hd : ¬ (n : Int) < (n : Int) := by omega
    obtain rfl : m = n := by omega
  all_goals
    clear hm'
    have HK := hide hk
    clear hk
    rcases hkc with rfl | ⟨hk1, hk2⟩
    · go_enter Tryz.func207, Tryz.ntmps207
      go_wp2_with (at_make; refine wpList_make_full _ rfl _ _ 40 rfl w.heap.size 5 i0 (.int .u8 0) 1 Tryz.underlying40 hi hz0 hz1 _ _ _ _ k rfl rfl rfl rfl (by rw [hz2]; omega) (by unfold maxLen; omega) (Nat.le_refl _) ?_; intro w1 hown1 hgrow1; obtain ⟨cur, hcl, HR, hB1⟩ := Kp_made_row hown1 hgrow1; clear hown1 hgrow1; obtain ⟨w2, hrun, HG2, hgr2⟩ := run_copy_tag w1.drew 3 (some ⟨w.heap.size, 0, none⟩) (some ⟨g, 1 + f, none⟩) k k (4096 - f) (4096 - f) w.heap.size 0 5 cur HR.out (X.take k) (by rw [hkl]; have := HK.out; show k = min (4096 - f) k; omega) (fun h0 => ⟨rfl, _, rfl, ring_src ((HP.out.keep (hB1.block g hgl)).keep (W' := w1.drew) rfl) HX.out k (by have := HK.out; omega)⟩) (by have := HK.out; omega) H1a.out; have hcf1 := (HP.out.keep (hB1.block g hgl)).cf; have HP2 := hide ((HP.out.keep (hB1.block g hgl)).keep (W' := w2) (hgr2.block g (HP.out.keep (hB1.block g hgl)).lt (by intro e; cases e; omega))); rw [hkl] at hrun; obtain ⟨w3, hrun3, HG3, hgr3⟩ := run_copy_tag w2.drew 3 (some ⟨w.heap.size, 0, none⟩) (some ⟨g, 1, none⟩) 0 0 4096 4096 w.heap.size 0 5 _ HG2.out [] (by simp) (fun h0 => by simp at h0) (by simp) (by simp))
      go_region
      go_wp2_with fail
      go_region
      go_wp2
      go_ret
      have hG : splice (splice cur 0 (X.take k)) 0 [] = X := by
        have := splice_two cur X k (by omega) (by omega)
        have hx0 : X.drop k = [] := List.drop_eq_nil_of_le (by omega)
        rw [hx0] at this
        simpa [splice] using this
      have hG3 := HG3.out
      rw [hG] at hG3
      exact ⟨rfl, ⟨by simp [hXl], .inr ⟨w.heap.size, k, _, rfl, Nat.le_refl _, hG3, Nat.le_refl _, by unfold maxLen; omega, by simp [hXl], by simpa using List.take_of_length_le (Nat.le_of_eq hXl)⟩⟩, (hB1.drew.grown hgr2 hB1.size (fun k e => by cases e; exact Nat.le_refl _)).drew.grown hgr3 (Nat.le_trans hB1.size hgr2.size) (fun k e => by cases e; exact Nat.le_refl _)⟩
    · have hk3 : ¬ m = k := by omega
      have hk4 : (k : Int) ≤ (m : Int) := by omega
      have hk5 : (k : Int) < (m : Int) := by omega
      go_enter Tryz.func207, Tryz.ntmps207
      go_wp2_with (at_make; refine wpList_make_full _ rfl _ _ 40 rfl w.heap.size 5 i0 (.int .u8 0) 1 Tryz.underlying40 hi hz0 hz1 _ _ _ _ m rfl rfl rfl rfl (by rw [hz2]; omega) (by unfold maxLen; omega) (Nat.le_refl _) ?_; intro w1 hown1 hgrow1; obtain ⟨cur, hcl, HR, hB1⟩ := Kp_made_row hown1 hgrow1; clear hown1 hgrow1; obtain ⟨w2, hrun, HG2, hgr2⟩ := run_copy_tag w1.drew 3 (some ⟨w.heap.size, 0, none⟩) (some ⟨g, 1 + f, none⟩) m m (4096 - f) (4096 - f) w.heap.size 0 5 cur HR.out (X.take k) (by rw [hkl]; have := HK.out; show k = min (4096 - f) m; omega) (fun h0 => ⟨rfl, _, rfl, ring_src ((HP.out.keep (hB1.block g hgl)).keep (W' := w1.drew) rfl) HX.out k (by have := HK.out; omega)⟩) (by have := HK.out; omega) H1a.out; have hcf1 := (HP.out.keep (hB1.block g hgl)).cf; have HP2 := hide ((HP.out.keep (hB1.block g hgl)).keep (W' := w2) (hgr2.block g (HP.out.keep (hB1.block g hgl)).lt (by intro e; cases e; omega))); rw [hkl] at hrun; obtain ⟨w3, hrun3, HG3, hgr3⟩ := run_copy_tag w2.drew 3 (some ⟨w.heap.size, k, none⟩) (some ⟨g, 1, none⟩) (m - k) (m - k) 4096 4096 w.heap.size k 5 _ HG2.out (X.drop k) (by rw [hkd]; show m - k = min 4096 (m - k); omega) (fun h0 => ⟨rfl, _, rfl, by rw [hk1]; exact ring_src2 (HP2.out.keep (W' := w2.drew) rfl) HX.out (by omega)⟩) (by rw [length_splice cur 0 _ (by omega)]; omega) H1b.out; rw [hkd] at hrun3; have HK1 := hide hk1; clear hk1)
      go_region
      go_wp2_with fail
      go_region
      go_wp2
      go_ret
      have hG3 := HG3.out
      rw [splice_two cur X k (by omega) (by omega)] at hG3
      exact ⟨rfl, ⟨by simp [hXl], .inr ⟨w.heap.size, m, _, rfl, Nat.le_refl _, hG3, Nat.le_refl _, by unfold maxLen; omega, by simp [hXl], by simpa using List.take_of_length_le (Nat.le_of_eq hXl)⟩⟩, (hB1.drew.grown hgr2 hB1.size (fun k e => by cases e; exact Nat.le_refl _)).drew.grown hgr3 (Nat.le_trans hB1.size hgr2.size) (fun k e => by cases e; exact Nat.le_refl _)⟩
end Go.Proofs.YtkkommomefmpgaaGreat
