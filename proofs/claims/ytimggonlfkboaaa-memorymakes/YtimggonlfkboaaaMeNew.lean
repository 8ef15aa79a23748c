/- A custom stream is made: copiedAnswers. -/
import Derived.Test.YtimggonlfkboaaaMeCus
namespace Go.Proofs.Ytimggonlfkboaaa
open Go.RowKit

/-- Answers that came in. -/
def AnsR (W : World) (v : Value) (l : List (List UInt8 × Int)) : Prop :=
  ∃ a cap, v = .slice a l.length cap ∧ (0 < l.length → ∃ b off, a = some ⟨b, off, none⟩ ∧ ∀ j (hj : j < l.length), ∃ va vc, W.cell? ⟨b, off + j * 2, none⟩ = some (.slice va l[j].1.length vc) ∧ W.cell? ⟨b, off + j * 2 + 1, none⟩ = some (.int .i64 l[j].2) ∧ Bys W (.slice va l[j].1.length vc) l[j].1 ∧ l[j].1.length ≤ vc)
theorem AnsR.below {W W' : World} {v : Value} {l : List (List UInt8 × Int)} (h : AnsR W v l) (hB : Below W.heap.size W W') : AnsR W' v l := by
  obtain ⟨a, cap, rfl, h2⟩ := h
  refine ⟨a, cap, rfl, fun h0 => ?_⟩
  obtain ⟨b, off, rfl, hd⟩ := h2 h0
  refine ⟨b, off, rfl, fun j hj => ?_⟩
  obtain ⟨va, vc, a1, a2, a3, a4⟩ := hd j hj
  have hl := World.block_lt_of_cell? W _ a1
  exact ⟨va, vc, (hB.cell (p := ⟨b, off + j * 2, none⟩) hl).trans a1, (hB.cell (p := ⟨b, off + j * 2 + 1, none⟩) hl).trans a2, a3.below hB, a4⟩
theorem Try.infoA : (Try.prog.info? 64).map (fun i => (i.zero, i.size, i.bytes)) = some (some (.agg #[.slice none 0 0, .int .i64 0]), 2, 32) := by kernel_rfl
/-- A place that is not filled yet. -/
def Zer (W : World) (b o : Nat) : Prop := W.cell? ⟨b, o, none⟩ = some (.slice none 0 0) ∧ W.cell? ⟨b, o + 1, none⟩ = some (.int .i64 0) ∧ W.frozen? ⟨b, o, none⟩ = false ∧ W.frozen? ⟨b, o + 1, none⟩ = false
/-- The first k answers are laid, the others are not yet. -/
def AInv (W : World) (R : Nat → Prop) (b k : Nat) (l : List (List UInt8 × Int)) : Prop := ∀ j (hj : j < l.length), (j < k → Ans1 W R b (j * 2) (nrm l[j])) ∧ (k ≤ j → Zer W b (j * 2))
theorem Zer.keep {W W' : World} {b o : Nat} (h : Zer W b o) (hk : W'.heap[b]? = W.heap[b]?) : Zer W' b o :=
  ⟨(World.cell?_of_block (w := W) hk).trans h.1, (World.cell?_of_block (w := W) hk).trans h.2.1, (World.frozen?_of_block (w := W) hk).trans h.2.2.1, (World.frozen?_of_block (w := W) hk).trans h.2.2.2⟩
theorem AInv.below {W W' : World} {R : Nat → Prop} {b k : Nat} {l : List (List UInt8 × Int)} (h : AInv W R b k l) (hb : R b) (hB : Below W.heap.size W W') : AInv W' R b k l := fun j hj =>
  ⟨fun e => ((h j hj).1 e).keep hb (fun x _ hl => hB.block x hl), fun e => ((h j hj).2 e).keep (hB.block b (World.block_lt_of_cell? W _ ((h j hj).2 e).1))⟩
/-- All others. -/
def AOth (W : World) (R : Nat → Prop) (b k : Nat) (l : List (List UInt8 × Int)) : Prop := ∀ j (hj : j < l.length), j ≠ k → (j < k → Ans1 W R b (j * 2) (nrm l[j])) ∧ (k ≤ j → Zer W b (j * 2))
theorem AInv.oth {W : World} {R : Nat → Prop} {b k : Nat} {l : List (List UInt8 × Int)} (h : AInv W R b k l) : AOth W R b k l := fun j hj _ => h j hj
theorem AOth.below {W W' : World} {R : Nat → Prop} {b k : Nat} {l : List (List UInt8 × Int)} (h : AOth W R b k l) (hb : R b) (hB : Below W.heap.size W W') : AOth W' R b k l := fun j hj hn =>
  ⟨fun e => ((h j hj hn).1 e).keep hb (fun x _ hl => hB.block x hl), fun e => ((h j hj hn).2 e).keep (hB.block b (World.block_lt_of_cell? W _ ((h j hj hn).2 e).1))⟩
theorem AOth.set {W : World} {R : Nat → Prop} {b k o : Nat} {l : List (List UInt8 × Int)} {c : Value} (h : AOth W R b k l) (hp : W.cell? ⟨b, o, none⟩ = some c) (hc : ∀ x, c ≠ .int .u8 x) (ho : o = k * 2 ∨ o = k * 2 + 1) (u : Value) : AOth (W.setCell ⟨b, o, none⟩ u) R b k l := fun j hj hn => by
  have e1 : (⟨b, o, none⟩ : Addr) ≠ ⟨b, j * 2, none⟩ := by simp <;> omega
  have e2 : (⟨b, o, none⟩ : Addr) ≠ ⟨b, j * 2 + 1, none⟩ := by simp <;> omega
  refine ⟨fun e => ((h j hj hn).1 e).set hp hc e1 e2 u, fun e => ?_⟩
  obtain ⟨a1, a2, a3, a4⟩ := (h j hj hn).2 e
  exact ⟨(World.cell?_setCell_other _ _ _ _ e1).trans a1, (World.cell?_setCell_other _ _ _ _ e2).trans a2, (World.frozen?_setCell _ _ _ _).trans a3, (World.frozen?_setCell _ _ _ _).trans a4⟩
theorem AOth.next {W : World} {R : Nat → Prop} {b k : Nat} {l : List (List UInt8 × Int)} (h : AOth W R b k l) (hk : k < l.length) (h2 : Ans1 W R b (k * 2) (nrm l[k])) : AInv W R b (k + 1) l := fun j hj => by
  by_cases hjk : j = k
  · subst hjk
    exact ⟨fun _ => h2, fun e => absurd e (by omega)⟩
  · exact ⟨fun e => (h j hj hjk).1 (by omega), fun e => (h j hj hjk).2 (by omega)⟩
theorem made_zer {w w1 : World} {n : Nat} (h : w1.ownsRow w.heap.size 64 2 (.slice (some ⟨w.heap.size, 0, none⟩) n n) n (madeCells (Value.agg #[.slice none 0 0, .int .i64 0]).cells (n * 2)).toList) (j : Nat) (hj : j < n) : Zer w1 w.heap.size (j * 2) := by
  have hm : ∀ i, i < n * 2 → (madeCells (Value.agg #[.slice none 0 0, .int .i64 0]).cells (n * 2)).toList[i]? = some (if i % 2 = 0 then .slice none 0 0 else .int .i64 0) := by
    intro i hi
    have : i % 2 = 0 ∨ i % 2 = 1 := by omega
    rcases this with e | e <;> simp [madeCells, Value.cells, hi, e]
  have c0 := h.cellAt (j * 2) (by omega)
  have c1 := h.cellAt (j * 2 + 1) (by omega)
  rw [hm _ (by omega)] at c0 c1
  rw [if_pos (by omega)] at c0
  rw [if_neg (by omega)] at c1
  exact ⟨c0, c1, h.frozenAt _, h.frozenAt _⟩
set_option maxRecDepth 100000 in
set_option maxHeartbeats 2000000 in
theorem copiedAnswers_any (v : Value) (l : List (List UInt8 × Int)) (w : World) (h : AnsR w v l) (hl : l.length ≤ 4096) (hd : ∀ x ∈ l, x.1.length ≤ 1048576) :
    Calls Try.prog 36 #[v] w fun e w' => ∃ u, e = .returned u ∧ Ans w' (fun k => w.heap.size ≤ k) u (l.map nrm) ∧ Below w.heap.size w w' := by
  obtain ⟨i0, hi, hz0, hz1, hz2⟩ := info_parts Try.infoA
  obtain ⟨a, cap, rfl, hc⟩ := h
  have HC := hide hc
  clear hc
  go_enter Try.func36, Try.ntmps36
  go_wp2_with (at_make; refine wpList_make_full _ rfl _ _ 46 rfl w.heap.size 64 i0 (.agg #[.slice none 0 0, .int .i64 0]) 2 Try.underlying46 hi hz0 hz1 _ _ _ _ l.length rfl rfl rfl rfl (by rw [hz2]; omega) (by unfold maxLen; omega) (Nat.le_refl _) ?_; intro w1 hown1 hgrow1)
  have hB1 : Below w.heap.size w w1 := (Below.refl _ w).grown hgrow1 (Nat.le_refl _) (fun k e => by cases e)
  have HI : Hid (AInv w1 (fun k => w.heap.size ≤ k) w.heap.size 0 l) := hide fun j hj => ⟨fun e => absurd e (by omega), fun _ => made_zer hown1 j hj⟩
  clear hown1 hgrow1
  go_loopw [4, 5, 11] (fun _ _ i wr => ∃ k : Nat, k ≤ l.length ∧ i = .int .i64 k ∧ Hid (AInv wr (fun k => w.heap.size ≤ k) w.heap.size k l) ∧ Hid (Below w.heap.size w wr) ∧ w1.heap.size ≤ wr.heap.size) (fun _ _ i _ => l.length - (intOf i).toNat)
  case atStart => exact ⟨0, Nat.zero_le _, rfl, HI, hB1, Nat.le_refl _⟩
  case round =>
    clear HI
    obtain ⟨k, hk, rfl, HI, HB, hws⟩ := hrel
    by_cases hlt : k < l.length
    · obtain ⟨b, off, rfl, hc⟩ := HC.out (by omega)
      obtain ⟨va, vc, a1, a2, a3, a4⟩ := hc k hlt
      have hbl := World.block_lt_of_cell? w _ a1
      have e1 := (HB.out.cell (p := ⟨b, off + k * 2, none⟩) hbl).trans a1
      have e2 := (HB.out.cell (p := ⟨b, off + k * 2 + 1, none⟩) hbl).trans a2
      have hk1 : (0 : Int) ≤ (k : Int) := by omega
      have hk2 : (k : Int) < (l.length : Int) := by omega
      have hxl : l[k].1.length ≤ 1048576 := hd _ (List.getElem_mem hlt)
      have hcl : w.heap.size < wr.heap.size := World.block_lt_of_cell? wr _ ((HI.out k hlt).2 (Nat.le_refl _)).1
      have HY := hide (And.intro a3 a4)
      have HZ := hide ((HI.out k hlt).2 (Nat.le_refl _))
      clear hc HC a1 a2 a3 a4
      generalize hyd : l[k] = y at *
      obtain ⟨d, e⟩ := y
      simp only at *
      have hBA := recv4 wr (Obj.cells #[Value.slice va d.length vc, Value.int IntKind.i64 e] 64)
      have q1 : (wr.alloc (Obj.cells #[Value.slice va d.length vc, Value.int IntKind.i64 e] 64)).cell? ⟨w.heap.size, k * 2 + 1, none⟩ = some (.int .i64 0) := (hBA.cell (p := ⟨w.heap.size, k * 2 + 1, none⟩) hcl).trans HZ.out.2.1
      have q3 : (wr.alloc (Obj.cells #[Value.slice va d.length vc, Value.int IntKind.i64 e] 64)).frozen? ⟨w.heap.size, k * 2 + 1, none⟩ = false := (hBA.frozen (p := ⟨w.heap.size, k * 2 + 1, none⟩) hcl).trans HZ.out.2.2.2
      have hne : ¬ w.heap.size = wr.heap.size := by omega
      have hne' : ¬ wr.heap.size = w.heap.size := by omega
      have HYd := hide hyd
      have HBA := hide hBA
      clear hyd hBA
      have w1' : (wr.setCell ⟨w.heap.size, k * 2 + 1, none⟩ (.int .i64 e)).cell? ⟨w.heap.size, k * 2 + 1, none⟩ = some (.int .i64 e) := World.cell?_setCell_same _ _ _ HZ.out.2.1
      have w0' : (wr.setCell ⟨w.heap.size, k * 2 + 1, none⟩ (.int .i64 e)).cell? ⟨w.heap.size, k * 2, none⟩ = some (.slice none 0 0) := (World.cell?_setCell_other _ _ _ _ (by simp)).trans HZ.out.1
      have f0' : (wr.setCell ⟨w.heap.size, k * 2 + 1, none⟩ (.int .i64 e)).frozen? ⟨w.heap.size, k * 2, none⟩ = false := (World.frozen?_setCell _ _ _ _).trans HZ.out.2.2.1
      have f1' : (wr.setCell ⟨w.heap.size, k * 2 + 1, none⟩ (.int .i64 e)).frozen? ⟨w.heap.size, k * 2 + 1, none⟩ = false := (World.frozen?_setCell _ _ _ _).trans HZ.out.2.2.2
      have HO := hide (HI.out.oth.set HZ.out.2.1 (fun x e => by cases e) (.inr rfl) (.int .i64 e))
      have HB' := hide (HB.out.setCell (p := ⟨w.heap.size, k * 2 + 1, none⟩) (Nat.le_refl _) (.int .i64 e))
      have hcl' : w.heap.size < (wr.setCell ⟨w.heap.size, k * 2 + 1, none⟩ (.int .i64 e)).heap.size := World.block_lt_of_cell? _ _ w1'
      have hsz : (wr.setCell ⟨w.heap.size, k * 2 + 1, none⟩ (.int .i64 e)).heap.size = wr.heap.size := by simp [World.setCell]
      have HBB := hide (recv4 (wr.setCell ⟨w.heap.size, k * 2 + 1, none⟩ (.int .i64 e)) (Obj.cells #[Value.slice va d.length vc, Value.int IntKind.i64 e] 64))
      have HF := hide (And.intro w0' (And.intro w1' (And.intro f0' f1')))
      clear w0' w1' f0' f1'
      by_cases he : e = 0
      · subst he
        go_wp2_with fail
        generalize wr.setCell ⟨w.heap.size, k * 2 + 1, none⟩ (.int .i64 0) = W1 at *
        have hBw := HB'.out.trans (HBB.out.mono HB'.out.size)
        refine (mclone_any _ d _ (HY.out.1.below hBw) (by omega)).mono ?_
        rintro _ w5 ⟨v, rfl, hown, hB5⟩
        have hB15 : Below W1.heap.size W1 w5 := HBB.out.trans (hB5.mono HBB.out.size)
        obtain ⟨xa, xc, rfl⟩ := owns_slice hown
        have p0 : w5.cell? ⟨w.heap.size, k * 2, none⟩ = some (.slice none 0 0) := (hB15.cell (p := ⟨w.heap.size, k * 2, none⟩) hcl').trans HF.out.1
        have p1 : w5.cell? ⟨w.heap.size, k * 2 + 1, none⟩ = some (.int .i64 0) := (hB15.cell (p := ⟨w.heap.size, k * 2 + 1, none⟩) hcl').trans HF.out.2.1
        have p2 : w5.frozen? ⟨w.heap.size, k * 2, none⟩ = false := (hB15.frozen (p := ⟨w.heap.size, k * 2, none⟩) hcl').trans HF.out.2.2.1
        have p3 : w5.frozen? ⟨w.heap.size, k * 2 + 1, none⟩ = false := (hB15.frozen (p := ⟨w.heap.size, k * 2 + 1, none⟩) hcl').trans HF.out.2.2.2
        have HO5 := hide ((HO.out.below (Nat.le_refl w.heap.size) hB15).set p0 (fun x e => by cases e) (.inl rfl) (.slice xa d.length xc))
        have HA5 : Hid (Ans1 (w5.setCell ⟨w.heap.size, k * 2, none⟩ (.slice xa d.length xc)) (fun k => w.heap.size ≤ k) w.heap.size (k * 2) (nrm l[k])) := hide (by
          rw [HYd.out, show nrm (d, (0 : Int)) = (d, 0) by simp [nrm]]
          exact ⟨xa, xc, World.cell?_setCell_same _ _ _ p0, (World.cell?_setCell_other _ _ _ _ (by simp)).trans p1, (World.frozen?_setCell _ _ _ _).trans p2, (World.frozen?_setCell _ _ _ _).trans p3, (Bys.of_owns hown).set p0 (fun x e => by cases e) _, owns_cap hown, fun _ x hx => Nat.le_trans hBw.size (hown.lt x hx).1⟩)
        have HB5 := hide ((HB'.out.trans (hB15.mono HB'.out.size)).setCell (p := ⟨w.heap.size, k * 2, none⟩) (Nat.le_refl _) (.slice xa d.length xc))
        have hz5 : w1.heap.size ≤ (w5.setCell ⟨w.heap.size, k * 2, none⟩ (.slice xa d.length xc)).heap.size := by
          have h1 := hB15.size
          simp only [World.setCell, Array.size_modify]
          omega
        clear hown hB5 hB15 HO HF HBB HBA hBw p1 p3
        go_wp2
        exact ⟨⟨k + 1, by omega, by go_num, hide (HO5.out.next hlt HA5.out), HB5, hz5⟩, by simp [intOf]; omega⟩
      · have he2 : (e == 0) = false := by simpa using he
        go_wp2
        generalize wr.setCell ⟨w.heap.size, k * 2 + 1, none⟩ (.int .i64 e) = W1 at *
        have hOA := HO.out.below (Nat.le_refl w.heap.size) HBB.out
        have hA1 : Ans1 (W1.alloc (Obj.cells #[Value.slice va d.length vc, Value.int IntKind.i64 e] 64)) (fun k => w.heap.size ≤ k) w.heap.size (k * 2) (nrm l[k]) := by
          rw [HYd.out, show nrm (d, e) = ([], e) by simp [nrm, he]]
          exact ⟨none, 0, (HBB.out.cell (p := ⟨w.heap.size, k * 2, none⟩) hcl').trans HF.out.1, (HBB.out.cell (p := ⟨w.heap.size, k * 2 + 1, none⟩) hcl').trans HF.out.2.1, (HBB.out.frozen (p := ⟨w.heap.size, k * 2, none⟩) hcl').trans HF.out.2.2.1, (HBB.out.frozen (p := ⟨w.heap.size, k * 2 + 1, none⟩) hcl').trans HF.out.2.2.2, .inl ⟨rfl, rfl⟩, Nat.le_refl _, fun h => absurd h (by simp)⟩
        refine ⟨⟨k + 1, by omega, by go_num, hide (hOA.next hlt hA1), hide (HB'.out.trans (HBB.out.mono HB'.out.size)), ?_⟩, ?_⟩
        · have := HBB.out.size; omega
        · simp [intOf]; omega
    · go_wp2
      go_ret
      refine ⟨_, rfl, ⟨some ⟨w.heap.size, 0, none⟩, l.length, by rw [List.length_map]; rfl, by rw [List.length_map]; exact Nat.le_refl _, fun h0 => ⟨w.heap.size, 0, rfl, Nat.le_refl _, fun j hj => ?_⟩⟩, HB.out⟩
      rw [List.length_map] at hj
      rw [Nat.zero_add, List.getElem_map]
      exact (HI.out j hj).1 (by omega)
end Go.Proofs.Ytimggonlfkboaaa
