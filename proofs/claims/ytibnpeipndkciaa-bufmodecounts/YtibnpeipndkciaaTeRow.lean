/- Terminals: what stays when some blocks turn; lists of lines; appends whose block is told. -/
import Derived.Test.YtibnpeipndkciaaFiRow
import Derived.Lib.AppendZeros
import Derived.Deep.Upon
namespace Go.Proofs.Ytibnpeipndkciaa
open Go.RowKit

theorem owns_slice {W : World} {base e size n : Nat} {v : Value} {xs : List Value} (h : W.ownsRow base e size v n xs) : ∃ a c, v = .slice a n c := by
  rcases h.2 with ⟨rfl, rfl⟩ | ⟨g, cap, cur, rfl, _⟩
  · exact ⟨_, _, rfl⟩
  · exact ⟨_, _, rfl⟩
theorem owns_cap {W : World} {base e size n : Nat} {a : Option Addr} {c : Nat} {xs : List Value} (h : W.ownsRow base e size (.slice a n c) n xs) : n ≤ c := by
  rcases h.2 with ⟨h0, h1⟩ | ⟨g, cap, cur, h1, h2, h3, h4, h5⟩
  · cases h0; exact Nat.le_refl _
  · cases h1; exact h4
theorem size_new (w : World) (o : Obj) : w.heap.size < (w.alloc o).heap.size := by simp
theorem owns_keep {W W' : World} {base e size n : Nat} {v : Value} {xs : List Value} (h : W.ownsRow base e size v n xs) (hB : ∀ k, v.ownBlock = some k → W'.heap[k]? = W.heap[k]?) : W'.ownsRow base e size v n xs := by
  refine ⟨h.1, ?_⟩
  rcases h.2 with h1 | ⟨g, cap, cur, rfl, h2, h3, h4⟩
  · exact .inl h1
  · exact .inr ⟨g, cap, cur, rfl, h2, (hB g rfl).trans h3, h4⟩
theorem owns_below {W W' : World} {base e size n : Nat} {v : Value} {xs : List Value} (h : W.ownsRow base e size v n xs) (hB : Below W.heap.size W W') : W'.ownsRow base e size v n xs :=
  owns_keep h fun k hk => hB.block k (h.lt k hk).2
theorem owns_mono {W : World} {base base' e size n : Nat} {v : Value} {xs : List Value} (h : W.ownsRow base e size v n xs) (hb : base' ≤ base) : W.ownsRow base' e size v n xs := by
  refine ⟨h.1, ?_⟩
  rcases h.2 with h1 | ⟨g, cap, cur, h1, h2, h3⟩
  · exact .inl h1
  · exact .inr ⟨g, cap, cur, h1, Nat.le_trans hb h2, h3⟩
theorem Bys.keep {W W' : World} {v : Value} {l : List UInt8} (h : Bys W v l) (hB : ∀ k, v.ownBlock = some k → k < W.heap.size → W'.heap[k]? = W.heap[k]?) : Bys W' v l := by
  rcases h with h | h | ⟨b, off, cap, rfl, h0, hc⟩
  · exact .inl h
  · exact .inr (.inl h)
  · refine .inr (.inr ⟨b, off, cap, rfl, h0, fun j hj => ?_⟩)
    have h1 := World.block_lt_of_cell? W _ (hc j hj)
    exact (World.cell?_of_block (w := W) (hB b rfl h1)).trans (hc j hj)

/-- All but the blocks S stays. -/
structure Turned (S : Nat → Prop) (w w' : World) : Prop where
  os : w'.os = w.os
  tape : w'.tape = w.tape
  output : w'.output = w.output
  size : w.heap.size ≤ w'.heap.size
  block : ∀ k, k < w.heap.size → ¬ S k → w'.heap[k]? = w.heap[k]?
theorem Turned.refl (S : Nat → Prop) (w : World) : Turned S w w := ⟨rfl, rfl, rfl, Nat.le_refl _, fun _ _ _ => rfl⟩
theorem Turned.trans {S S' : Nat → Prop} {a b c : World} (h : Turned S a b) (h' : Turned S' b c) (hs : ∀ k, k < a.heap.size → S' k → S k) : Turned S a c :=
  ⟨h'.os.trans h.os, h'.tape.trans h.tape, h'.output.trans h.output, Nat.le_trans h.size h'.size, fun k hk hn => (h'.block k (Nat.lt_of_lt_of_le hk h.size) (fun e => hn (hs k hk e))).trans (h.block k hk hn)⟩
theorem Turned.mono {S S' : Nat → Prop} {a b : World} (h : Turned S a b) (hs : ∀ k, S k → S' k) : Turned S' a b :=
  ⟨h.os, h.tape, h.output, h.size, fun k hk hn => h.block k hk (fun e => hn (hs k e))⟩
theorem Turned.below {S : Nat → Prop} {B : Nat} {w w' : World} (h : Turned S w w') (hS : ∀ k, S k → B ≤ k) (hB : B ≤ w.heap.size) : Below B w w' :=
  ⟨h.os, h.tape, h.output, h.size, fun k hk => h.block k (Nat.lt_of_lt_of_le hk hB) (fun e => by have := hS k e; omega)⟩
theorem Turned.of_below {S : Nat → Prop} {w w' : World} (h : Below w.heap.size w w') : Turned S w w' := ⟨h.os, h.tape, h.output, h.size, fun k hk _ => h.block k hk⟩
theorem Turned.cell {S : Nat → Prop} {w w' : World} (h : Turned S w w') {p : Addr} {v : Value} (hp : w.cell? p = some v) (hS : ¬ S p.block) : w'.cell? p = some v :=
  (World.cell?_of_block (w := w) (h.block _ (World.block_lt_of_cell? w _ hp) hS)).trans hp
theorem Turned.set {S : Nat → Prop} {w wr : World} {g j : Nat} {u : Value} (hT : Turned S w wr) (hg : S g ∨ w.heap.size ≤ g) : Turned S w (wr.setCell ⟨g, j, none⟩ u) := by
  refine hT.trans (S' := fun k => k = g) ⟨rfl, rfl, rfl, by simp [World.setCell], fun k hk hn => Below.heap_setCell _ _ _ _ hn⟩ (fun k hk e => by subst e; exact hg.resolve_right (by omega))
theorem Turned.grown {S : Nat → Prop} {w wr w1 : World} {vb : Option Nat} (hT : Turned S w wr) (hg : wr.grownBy w1 vb) (hv : ∀ k, vb = some k → S k ∨ w.heap.size ≤ k) : Turned S w w1 :=
  hT.trans (S' := fun k => vb = some k) ⟨hg.os, hg.tape, hg.output, hg.size, fun k hk hn => hg.block k hk (fun e => hn e.symm)⟩ (fun k hk e => (hv k e).resolve_right (by omega))
theorem Bys.turned {S : Nat → Prop} {W W' : World} {v : Value} {l : List UInt8} (h : Bys W v l) (hT : Turned S W W') (hS : ∀ k, v.ownBlock = some k → k < W.heap.size → ¬ S k) : Bys W' v l :=
  h.keep fun k hk hlt => hT.block k hlt (hS k hk hlt)
theorem owns_turned {S : Nat → Prop} {W W' : World} {base e size n : Nat} {v : Value} {xs : List Value} (h : W.ownsRow base e size v n xs) (hT : Turned S W W') (hS : ∀ k, v.ownBlock = some k → ¬ S k) : W'.ownsRow base e size v n xs :=
  owns_keep h fun k hk => hT.block k (h.lt k hk).2 (hS k hk)

/-- append(s, x...) of bytes: what is owned behind it, and where it lies. -/
theorem run_append_bytes (w : World) (ty : TypeId) (base : Nat) (s x : Value) (m l : List UInt8) (hs : w.ownsRow base 5 1 s m.length (m.map bv)) (hx : Bys w x l) (hn : m.length + l.length ≤ 140737488351232) (hb : base ≤ w.heap.size) :
    ∃ s' w', (Builtin.append_ #[22, 22] ty #[s, x]).run Try.prog w = .ok s' w' ∧ Hid (w'.ownsRow base 5 1 s' (m ++ l).length ((m ++ l).map bv)) ∧ w.grownBy w' s.ownBlock ∧ (s'.ownBlock = s.ownBlock ∨ s'.ownBlock = some w.heap.size) := by
  refine (?_ : ∃ s' w', (Builtin.append_ #[22, 22] ty #[s, x]).run Try.prog w = .ok s' w' ∧ w'.ownsRow base 5 1 s' (m ++ l).length ((m ++ l).map bv) ∧ w.grownBy w' s.ownBlock ∧ (s'.ownBlock = s.ownBlock ∨ s'.ownBlock = some w.heap.size))
  obtain ⟨i0, hi, hz0, hz1, hz2⟩ := info_parts Try.infoB
  rw [List.length_append, List.map_append]
  rcases hx with ⟨rfl, rfl⟩ | ⟨a, cap, rfl, rfl⟩ | ⟨b, off, cap, rfl, h0, hc⟩
  · exact ⟨s, w, run_append_owned_none (P := Try.prog) w base _ ty _ i0 1 Try.underlying22 hi s _ _ hs, by simpa using hs, ⟨rfl, rfl, rfl, Nat.le_refl _, fun _ _ _ => rfl⟩, .inl rfl⟩
  · obtain ⟨v', w', h1, h2, h3, _, h5⟩ := run_append_own_at (P := Try.prog) w base 22 ty 5 i0 (.int .u8 0) 1 1 Try.underlying22 hi hz0 hz1 hz2 rfl (by decide) s _ _ hs a 0 cap [] rfl (by simp) (by simp) (by unfold maxLen; omega) (by omega) hb
    exact ⟨v', w', h1, h2, h3, h5⟩
  · obtain ⟨v', w', h1, h2, h3, _, h5⟩ := run_append_own_at (P := Try.prog) w base 22 ty 5 i0 (.int .u8 0) 1 1 Try.underlying22 hi hz0 hz1 hz2 rfl (by decide) s _ _ hs ⟨b, off, none⟩ l.length cap (l.map bv) (by simp) (bys_news hc) (bys_one l) (by unfold maxLen; omega) (by omega) hb
    exact ⟨v', w', h1, h2, h3, h5⟩

theorem Try.infoL : (Try.prog.info? 22).map (fun i => (i.zero, i.size, i.bytes)) = some (some (.slice none 0 0), 1, 24) := by kernel_rfl
/-- An append whose run is known, at a step of a region that draws its order. -/
theorem step_append_run {P : Program} (w : World) {ops : Array Oper} {o : Oper} {a : Act} {K : Act → World → Prop} {Q : Exit → Act → World → Prop} {E : Prop}
    (hg : o.guard = none) (s x : Operand) (t tn : TypeId) (ho : o.op = Op.call { callee := Callee.builtin Builtin.append, args := #[s, x], argTypes := #[t, tn] }) (vs vx : Value) (hs : a.eval s = vs) (hx : a.eval x = vx)
    (v' : Value) (w' : World) (hr : (Builtin.append_ #[t, tn] o.type #[vs, vx]).run P w = .ok v' w') (h : K (a.put o.dst v') w') :
    if Region.wanted o (yielded ops a.tmps) = true then Oper.wp P o a w K Q else E := by
  have hw : Region.wanted o (yielded ops a.tmps) = true := by simp [Region.wanted, hg]
  rw [if_pos hw]
  exact Lib.wp_append_run w s x t tn ho vs vx hs hx v' w' hr h

/-- The slice value v holds the lines ls. -/
def Lns (W : World) (v : Value) (ls : List (List UInt8)) : Prop :=
  ∃ a c, v = .slice a ls.length c ∧ (0 < ls.length → ∃ b off, a = some ⟨b, off, none⟩ ∧ ∀ j (hj : j < ls.length), ∃ va vc, W.cell? ⟨b, off + j, none⟩ = some (.slice va ls[j].length vc) ∧ Bys W (.slice va ls[j].length vc) ls[j])
theorem Lns.below {W W' : World} {v : Value} {ls : List (List UInt8)} (h : Lns W v ls) (hB : Below W.heap.size W W') : Lns W' v ls := by
  obtain ⟨a, c, rfl, hc⟩ := h
  refine ⟨a, c, rfl, fun h0 => ?_⟩
  obtain ⟨b, off, rfl, hd⟩ := hc h0
  refine ⟨b, off, rfl, fun j hj => ?_⟩
  obtain ⟨va, vc, h1, h2⟩ := hd j hj
  exact ⟨va, vc, (hB.cell (p := ⟨b, off + j, none⟩) (World.block_lt_of_cell? W _ h1)).trans h1, h2.below hB⟩
/-- Line j of the lines ls. -/
theorem Lns.at {W : World} {a : Option Addr} {n c : Nat} {ls : List (List UInt8)} (h : Lns W (.slice a n c) ls) (j : Nat) (hj : j < ls.length) :
    ∃ b off va vc, a = some ⟨b, off, none⟩ ∧ W.cell? ⟨b, off + j, none⟩ = some (.slice va ls[j].length vc) ∧ Bys W (.slice va ls[j].length vc) ls[j] := by
  obtain ⟨a', c', he, hc⟩ := h
  cases he
  obtain ⟨b, off, rfl, hd⟩ := hc (by omega)
  obtain ⟨va, vc, h1, h2⟩ := hd j hj
  exact ⟨b, off, va, vc, rfl, h1, h2⟩
theorem Lns.form {W : World} {v : Value} {ls : List (List UInt8)} (h : Lns W v ls) : ∃ a c, v = .slice a ls.length c := by
  obtain ⟨a, c, rfl, _⟩ := h
  exact ⟨a, c, rfl⟩
/-- A nonempty slice of bytes lies in a block. -/
theorem bys_block {W : World} {a : Option Addr} {n c : Nat} {l : List UInt8} (h : Bys W (.slice a n c) l) (h0 : 0 < l.length) : n = l.length ∧ ∃ b off, a = some ⟨b, off, none⟩ ∧ b < W.heap.size ∧ ∀ j, j < l.length → W.cell? ⟨b, off + j, none⟩ = some (.int .u8 ((l.getD j 0).toNat : Int)) := by
  obtain ⟨a', c', he, hc⟩ := bys_form h
  cases he
  obtain ⟨b, off, rfl, hd⟩ := hc h0
  exact ⟨rfl, b, off, rfl, World.block_lt_of_cell? W _ (hd 0 h0), hd⟩
/-- A cut of bytes. -/
theorem bys_cut {W : World} {b off n c : Nat} {l : List UInt8} (h : Bys W (.slice (some ⟨b, off, none⟩) n c) l) (x m c' : Nat) (hx : x + m ≤ l.length) : Bys W (.slice (some ⟨b, off + x, none⟩) m c') ((l.drop x).take m) := by
  have hlen : ((l.drop x).take m).length = m := by simp; omega
  by_cases hm : m = 0
  · subst hm
    exact .inr (.inl ⟨_, _, rfl, by simp⟩)
  · obtain ⟨_, b', off', he, _, hc⟩ := bys_block h (by omega)
    cases he
    refine .inr (.inr ⟨b, off + x, c', by rw [hlen], by omega, fun j hj => ?_⟩)
    rw [hlen] at hj
    rw [Nat.add_assoc, hc (x + j) (by omega)]
    simp [List.getD_eq_getElem?_getD, List.getElem?_drop, hj]
end Go.Proofs.Ytibnpeipndkciaa
