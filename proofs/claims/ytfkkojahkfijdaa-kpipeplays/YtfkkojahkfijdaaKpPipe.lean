/- A pipe: what its block holds, and what stays of it. -/
import Derived.Test.YtfkkojahkfijdaaTeRow
namespace Go.Proofs.Ytfkkojahkfijdaa
open Go.RowKit

/-- The cells of a pipe that New made: the ring's places R, its first place, how many it holds, the ends. -/
def pcells (R : List Value) (f c rd wr : Nat) : List Value := .bool true :: (R ++ [.int .i64 f, .int .i64 c, .int .i64 rd, .int .i64 wr])
theorem pcells_len (R : List Value) (f c rd wr : Nat) (h : R.length = 4096) : (pcells R f c rd wr).length = 4101 := by simp [pcells, h]
theorem pcells_tail (R : List Value) (f c rd wr : Nat) (h : R.length = 4096) (j : Nat) : (pcells R f c rd wr)[4097 + j]? = ([.int .i64 f, .int .i64 c, .int .i64 rd, .int .i64 wr] : List Value)[j]? := by
  unfold pcells
  rw [show 4097 + j = (4096 + j) + 1 by omega, List.getElem?_cons_succ, List.getElem?_append_right (by omega), h, show 4096 + j - 4096 = j by omega]
theorem pcells_place (R : List Value) (f c rd wr : Nat) (h : R.length = 4096) (j : Nat) (hj : j < 4096) : (pcells R f c rd wr)[1 + j]? = R[j]? := by
  unfold pcells
  rw [Nat.add_comm, List.getElem?_cons_succ, List.getElem?_append_left (by omega)]
theorem pcells_set (R : List Value) (f c rd wr : Nat) (h : R.length = 4096) (j : Nat) (v : Value) : (pcells R f c rd wr).set (4097 + j) v = .bool true :: (R ++ ([.int .i64 f, .int .i64 c, .int .i64 rd, .int .i64 wr] : List Value).set j v) := by
  unfold pcells
  rw [show 4097 + j = (4096 + j) + 1 by omega, List.set_cons_succ, List.set_append_right _ _ (by omega), h, show 4096 + j - 4096 = j by omega]
theorem pcells_splice (R : List Value) (f c rd wr : Nat) (h : R.length = 4096) (off : Nat) (cs : List Value) (hf : off + cs.length ≤ 4096) : splice (pcells R f c rd wr) (1 + off) cs = pcells (splice R off cs) f c rd wr := by
  unfold pcells splice
  rw [Nat.add_comm 1 off, List.take_succ_cons, show off + 1 + cs.length = (off + cs.length) + 1 by omega, List.drop_succ_cons, List.take_append_of_le_length (by omega), List.drop_append_of_le_length (by omega)]
  simp

theorem heap_setCell_same {W : World} {g : Nat} (j : Nat) (v : Value) {cur : List Value} {t : TypeId} {fr : Nat × Nat} (h : W.heap[g]? = some (.cells cur.toArray t fr)) : (W.setCell ⟨g, j, none⟩ v).heap[g]? = some (.cells (cur.set j v).toArray t fr) := by
  unfold World.setCell
  simp only [Array.getElem?_modify, h]
  simp

/-- The block g is a pipe. -/
structure Pp (W : World) (g : Nat) (R : List Value) (f c rd wr : Nat) : Prop where
  blk : W.heap[g]? = some (.cells (pcells R f c rd wr).toArray 58 (0, 0))
  len : R.length = 4096
  lf : f < 4096
  lc : c ≤ 4096
  lr : rd ≤ 1024
  lw : wr ≤ 1024
theorem Pp.keep {W W' : World} {g : Nat} {R : List Value} {f c rd wr : Nat} (h : Pp W g R f c rd wr) (hB : W'.heap[g]? = W.heap[g]?) : Pp W' g R f c rd wr := ⟨hB.trans h.blk, h.len, h.lf, h.lc, h.lr, h.lw⟩
theorem Pp.lt {W : World} {g : Nat} {R : List Value} {f c rd wr : Nat} (h : Pp W g R f c rd wr) : g < W.heap.size := (Array.getElem?_eq_some_iff.1 h.blk).1
theorem Pp.soft {W : World} {g : Nat} {R : List Value} {f c rd wr : Nat} (h : Pp W g R f c rd wr) (j : Nat) : W.frozen? ⟨g, j, none⟩ = false := frozen_of_row W g j _ _ h.blk
theorem Pp.c0 {W : World} {g : Nat} {R : List Value} {f c rd wr : Nat} (h : Pp W g R f c rd wr) : W.cell? ⟨g, 0, none⟩ = some (.bool true) := by
  rw [cell_of_row W g 0 _ _ _ h.blk]; simp [pcells]
theorem Pp.cf {W : World} {g : Nat} {R : List Value} {f c rd wr : Nat} (h : Pp W g R f c rd wr) : W.cell? ⟨g, 4097, none⟩ = some (.int .i64 f) := by
  rw [cell_of_row W g 4097 _ _ _ h.blk, List.getElem?_toArray]; exact pcells_tail R f c rd wr h.len 0
theorem Pp.cc {W : World} {g : Nat} {R : List Value} {f c rd wr : Nat} (h : Pp W g R f c rd wr) : W.cell? ⟨g, 4098, none⟩ = some (.int .i64 c) := by
  rw [cell_of_row W g 4098 _ _ _ h.blk, List.getElem?_toArray]; exact pcells_tail R f c rd wr h.len 1
theorem Pp.cr {W : World} {g : Nat} {R : List Value} {f c rd wr : Nat} (h : Pp W g R f c rd wr) : W.cell? ⟨g, 4099, none⟩ = some (.int .i64 rd) := by
  rw [cell_of_row W g 4099 _ _ _ h.blk, List.getElem?_toArray]; exact pcells_tail R f c rd wr h.len 2
theorem Pp.cw {W : World} {g : Nat} {R : List Value} {f c rd wr : Nat} (h : Pp W g R f c rd wr) : W.cell? ⟨g, 4100, none⟩ = some (.int .i64 wr) := by
  rw [cell_of_row W g 4100 _ _ _ h.blk, List.getElem?_toArray]; exact pcells_tail R f c rd wr h.len 3
theorem Pp.place {W : World} {g : Nat} {R : List Value} {f c rd wr : Nat} (h : Pp W g R f c rd wr) (j : Nat) (hj : j < 4096) : W.cell? ⟨g, 1 + j, none⟩ = R[j]? := by
  rw [cell_of_row W g (1 + j) _ _ _ h.blk, List.getElem?_toArray]; exact pcells_place R f c rd wr h.len j hj
theorem Pp.setf {W : World} {g : Nat} {R : List Value} {f c rd wr : Nat} (h : Pp W g R f c rd wr) (f' : Nat) (hf : f' < 4096) : Pp (W.setCell ⟨g, 4097, none⟩ (.int .i64 f')) g R f' c rd wr :=
  ⟨by rw [heap_setCell_same 4097 _ h.blk, pcells_set R f c rd wr h.len 0]; rfl, h.len, hf, h.lc, h.lr, h.lw⟩
theorem Pp.setc {W : World} {g : Nat} {R : List Value} {f c rd wr : Nat} (h : Pp W g R f c rd wr) (c' : Nat) (hc : c' ≤ 4096) : Pp (W.setCell ⟨g, 4098, none⟩ (.int .i64 c')) g R f c' rd wr :=
  ⟨by rw [heap_setCell_same 4098 _ h.blk, pcells_set R f c rd wr h.len 1]; rfl, h.len, h.lf, hc, h.lr, h.lw⟩
theorem Pp.setr {W : World} {g : Nat} {R : List Value} {f c rd wr : Nat} (h : Pp W g R f c rd wr) (r' : Nat) (hr : r' ≤ 1024) : Pp (W.setCell ⟨g, 4099, none⟩ (.int .i64 r')) g R f c r' wr :=
  ⟨by rw [heap_setCell_same 4099 _ h.blk, pcells_set R f c rd wr h.len 2]; rfl, h.len, h.lf, h.lc, hr, h.lw⟩
theorem Pp.setw {W : World} {g : Nat} {R : List Value} {f c rd wr : Nat} (h : Pp W g R f c rd wr) (w' : Nat) (hw : w' ≤ 1024) : Pp (W.setCell ⟨g, 4100, none⟩ (.int .i64 w')) g R f c rd w' :=
  ⟨by rw [heap_setCell_same 4100 _ h.blk, pcells_set R f c rd wr h.len 3]; rfl, h.len, h.lf, h.lc, h.lr, hw⟩

/-- copy(dst, src): dst in block g, of any tag, from off on; the world behind it. -/
theorem run_copy_tag (w : World) (ty : TypeId) (dp sp : Option Addr) (dLen dCap sLen sCap : Nat) (g off : Nat) (tag : TypeId) (cur : List Value) (hg : w.heap[g]? = some (.cells cur.toArray tag (0, 0))) (cs : List Value) (hn : cs.length = Nat.min sLen dLen)
    (hpos : 0 < cs.length → dp = some ⟨g, off, none⟩ ∧ ∃ ad, sp = some ad ∧ ∀ j v, cs[j]? = some v → w.cell? (ad.add j) = some v) (hfit : off + cs.length ≤ cur.length) (h1 : ∀ v ∈ cs, v.oneCell' = true) :
    ∃ w', (Builtin.copy_ #[26, 26] ty #[.slice dp dLen dCap, .slice sp sLen sCap]).run Try.prog w = .ok (goInt cs.length) w' ∧ Hid (w'.heap[g]? = some (.cells (splice cur off cs).toArray tag (0, 0))) ∧ w.grownBy w' (some g) := by
  refine (?_ : ∃ w', (Builtin.copy_ #[26, 26] ty #[.slice dp dLen dCap, .slice sp sLen sCap]).run Try.prog w = .ok (goInt cs.length) w' ∧ w'.heap[g]? = some (.cells (splice cur off cs).toArray tag (0, 0)) ∧ w.grownBy w' (some g))
  obtain ⟨i0, hi, hz0, hz1, hz2⟩ := info_parts Try.infoB
  have hsz : (Try.prog.info? 5).map (·.size) = some 1 := by rw [hi]; simp [hz1]
  by_cases h0 : cs.length = 0
  · obtain rfl : cs = [] := List.eq_nil_of_length_eq_zero h0
    exact ⟨w, run_copy_none (P := Try.prog) w _ _ ty 5 dp sp dLen dCap sLen sCap Try.underlying26 hsz (by simpa using hn.symm), by simpa [splice] using hg, ⟨rfl, rfl, rfl, Nat.le_refl _, fun _ _ _ => rfl⟩⟩
  · obtain ⟨rfl, ad, rfl, hsrc⟩ := hpos (by omega)
    have hrun := run_copy_row (P := Try.prog) w 26 26 ty 5 g off dLen dCap ad sLen sCap cur.toArray tag cs Try.underlying26 hsz hg hn hsrc (by simpa using hfit) h1
    refine ⟨_, hrun, by simpa [splice] using setRow_heap w g _ _ tag _ hg, ⟨rfl, rfl, rfl, by simp [World.setRow], fun j _ hj => setRow_other w g j _ (fun e => hj (by rw [e]))⟩⟩

/-- A copy whose run is known, at a step of a region that draws its order. -/
theorem step_copy_run {P : Program} (w : World) {ops : Array Oper} {o : Oper} {a : Act} {K : Act → World → Prop} {Q : Exit → Act → World → Prop} {E : Prop}
    (hg : o.guard = none) (s x : Operand) (t tn : TypeId) (ho : o.op = Op.call { callee := Callee.builtin Builtin.copy, args := #[s, x], argTypes := #[t, tn] }) (vs vx : Value) (hs : a.eval s = vs) (hx : a.eval x = vx)
    (v' : Value) (w' : World) (hr : (Builtin.copy_ #[t, tn] o.type #[vs, vx]).run P w = .ok v' w') (h : K (a.put o.dst v') w') :
    if Region.wanted o (yielded ops a.tmps) = true then Oper.wp P o a w K Q else E := by
  have hw : Region.wanted o (yielded ops a.tmps) = true := by simp [Region.wanted, hg]
  rw [if_pos hw]
  unfold Oper.wp
  simp [execOp, ho, resolve, invoke, builtin, hs, hx, hr, Result.andThen]
  exact h
end Go.Proofs.Ytfkkojahkfijdaa
