/- The reference's file: New, ReadAt, WriteAt, Truncate. -/
import Derived.Test.YtdhdbakkhmmpjaaFiRef
namespace Go.Proofs.Ytdhdbakkhmmpjaa
open Go.RowKit

/-- Block r is the reference's file of the bytes l. -/
structure RFileAt (W : World) (base r : Nat) (u : Value) (l : List UInt8) : Prop where
  data : W.cell? ⟨r, 0, none⟩ = some u
  soft : W.frozen? ⟨r, 0, none⟩ = false
  row : W.ownsRow base 5 1 u l.length (l.map bv)
  apart : u.ownBlock ≠ some r
theorem size_new (w : World) (o : Obj) : w.heap.size < (w.alloc o).heap.size := by simp
theorem RFileAt.lt {W : World} {base r : Nat} {u : Value} {l : List UInt8} (h : RFileAt W base r u l) : r < W.heap.size := World.block_lt_of_cell? W _ h.data
theorem owns_keep {W W' : World} {base e size n : Nat} {v : Value} {xs : List Value} (h : W.ownsRow base e size v n xs) (hB : ∀ k, v.ownBlock = some k → W'.heap[k]? = W.heap[k]?) : W'.ownsRow base e size v n xs := by
  refine ⟨h.1, ?_⟩
  rcases h.2 with h1 | ⟨g, cap, cur, rfl, h2, h3, h4⟩
  · exact .inl h1
  · exact .inr ⟨g, cap, cur, rfl, h2, (hB g rfl).trans h3, h4⟩
theorem owns_below {W W' : World} {base e size n : Nat} {v : Value} {xs : List Value} (h : W.ownsRow base e size v n xs) (hB : Below W.heap.size W W') : W'.ownsRow base e size v n xs :=
  owns_keep h fun k hk => hB.block k (h.lt k hk).2
theorem RFileAt.keep {W W' : World} {base r : Nat} {u : Value} {l : List UInt8} (h : RFileAt W base r u l) (hB : ∀ k, k < W.heap.size → k = r ∨ u.ownBlock = some k → W'.heap[k]? = W.heap[k]?) : RFileAt W' base r u l :=
  ⟨(World.cell?_of_block (w := W) (hB r h.lt (.inl rfl))).trans h.data, (World.frozen?_of_block (w := W) (hB r h.lt (.inl rfl))).trans h.soft, owns_keep h.row fun k hk => hB k (h.row.lt k hk).2 (.inr hk), h.apart⟩
theorem RFileAt.below {W W' : World} {base r : Nat} {u : Value} {l : List UInt8} (h : RFileAt W base r u l) (hB : Below W.heap.size W W') : RFileAt W' base r u l :=
  h.keep fun k hk _ => hB.block k hk

set_option maxRecDepth 100000 in
set_option maxHeartbeats 1000000 in
theorem rnew_bad (v : Value) (l : List UInt8) (w : World) (h : Bys w v l) (hl : 1048576 < l.length) :
    Calls Try.prog 9 #[v] w fun e w' => e = .returned (.tuple #[.pointer none, .int .i64 5]) ∧ w' = w := by
  obtain ⟨a1, c1, rfl, -⟩ := bys_form h
  clear h
  have hd : decide ((1048576 : Int) < (l.length : Int)) = true := by simp; omega
  go_enter Try.func9, Try.ntmps9
  go_wp2
  all_goals first
    | (exfalso; omega)
    | (go_ret2; exact ⟨rfl, rfl⟩)

/-- What stands behind 'f.B = append(f.B, b...)'. -/
theorem rnew_file {w w1 : World} {u : Value} {l : List UInt8} (hown : w1.ownsRow (w.heap.size + 1) 5 1 u l.length (l.map bv)) (hg : (w.alloc (Obj.cells #[Value.slice none 0 0] 47)).grownBy w1 none) :
    RFileAt (w1.setCell ⟨w.heap.size, 0, none⟩ u) (w.heap.size + 1) w.heap.size u l ∧ Below w.heap.size w (w1.setCell ⟨w.heap.size, 0, none⟩ u) := by
  have hsz := size_new w (Obj.cells #[Value.slice none 0 0] 47)
  have hgg := hg.block w.heap.size hsz (by simp)
  have hB : Below w.heap.size w w1 := ((Below.refl _ _).alloc (Nat.le_refl _) _).grown hg (Nat.le_of_lt hsz) (fun k e => by cases e)
  have hc : w1.cell? ⟨w.heap.size, 0, none⟩ = some (.slice none 0 0) := by
    rw [World.cell?_of_block (w := w.alloc (Obj.cells #[Value.slice none 0 0] 47)) hgg]
    simp only [World.cell?, heap_alloc_new]; rfl
  have hap : u.ownBlock ≠ some w.heap.size := fun e => by have := (hown.lt _ e).1; omega
  refine ⟨⟨World.cell?_setCell_same _ _ _ hc, ?_, owns_keep hown fun k hk => Below.heap_setCell _ _ _ _ (fun e => hap (by rw [hk, e])), hap⟩, hB.setCell (Nat.le_refl _) _⟩
  rw [World.frozen?_setCell, World.frozen?_of_block (w := w.alloc (Obj.cells #[Value.slice none 0 0] 47)) hgg]
  simp only [World.frozen?, heap_alloc_new]; rfl

set_option maxRecDepth 100000 in
set_option maxHeartbeats 1000000 in
theorem rnew_good (v : Value) (l : List UInt8) (w : World) (h : Bys w v l) (hl : l.length ≤ 1048576) :
    Calls Try.prog 9 #[v] w fun e w' => e = .returned (.tuple #[.pointer (some ⟨w.heap.size, 0, none⟩), .int .i64 0]) ∧ (∃ u, RFileAt w' (w.heap.size + 1) w.heap.size u l) ∧ Below w.heap.size w w' := by
  obtain ⟨i0, hi, hz0, hz1, hz2⟩ := info_parts Try.infoB
  have hd : decide ((1048576 : Int) < (l.length : Int)) = false := by simp; omega
  have hBa : Below w.heap.size w (w.alloc (Obj.cells #[Value.slice none 0 0] 47)) := (Below.refl _ _).alloc (Nat.le_refl _) _
  have hc0 : (w.alloc (Obj.cells #[Value.slice none 0 0] 47)).cell? ⟨w.heap.size, 0, none⟩ = some (.slice none 0 0) := by simp only [World.cell?, heap_alloc_new]; rfl
  have hf0 : (w.alloc (Obj.cells #[Value.slice none 0 0] 47)).frozen? ⟨w.heap.size, 0, none⟩ = false := by simp only [World.frozen?, heap_alloc_new]; rfl
  have hsz := size_new w (Obj.cells #[Value.slice none 0 0] 47)
  rcases h with ⟨rfl, rfl⟩ | ⟨a, cap, rfl, rfl⟩ | ⟨b, off, cap, rfl, h0, hc⟩
  · go_enter Try.func9, Try.ntmps9
    go_wp2_with (at_builtin; refine wpList_append_own_none rfl _ _ 22 rfl w.heap.size 5 i0 1 Try.underlying22 hi _ _ _ rfl (World.ownsRow_nil _ _ _ _) rfl ?_)
    go_ret2
    exact ⟨rfl, ⟨_, hc0, hf0, World.ownsRow_nil _ _ _ _, by simp [Value.ownBlock]⟩, hBa⟩
  · go_enter Try.func9, Try.ntmps9
    go_wp2_with (at_builtin; refine wpList_append_own _ rfl _ _ 22 rfl (w.heap.size + 1) 5 i0 (.int .u8 0) 1 1 Try.underlying22 hi hz0 hz1 hz2 rfl (by decide) _ _ _ rfl (World.ownsRow_nil _ _ _ _) a 0 cap [] rfl rfl (by simp) (by simp) (by decide) (by decide) (by simp) ?_; intro v' w1 hown hgrow hnil; obtain ⟨a', c', rfl⟩ := owns_slice hown; have q1 := (hgrow.cell_far ⟨w.heap.size, 0, none⟩ hsz (by rintro ⟨⟩)).trans hc0; have q2 := (hgrow.frozen_far ⟨w.heap.size, 0, none⟩ hsz (by rintro ⟨⟩)).trans hf0)
    go_ret2
    obtain ⟨h1, h2⟩ := rnew_file (w := w) (l := []) hown hgrow
    exact ⟨rfl, ⟨_, h1⟩, h2⟩
  · have HN := hide (fun j u hj => (hBa.cell (World.block_lt_of_cell? w _ (bys_news hc j u hj))).trans (bys_news hc j u hj))
    clear hc
    go_enter Try.func9, Try.ntmps9
    go_wp2_with (at_builtin; refine wpList_append_own _ rfl _ _ 22 rfl (w.heap.size + 1) 5 i0 (.int .u8 0) 1 1 Try.underlying22 hi hz0 hz1 hz2 rfl (by decide) _ _ _ rfl (World.ownsRow_nil _ _ _ _) ⟨b, off, none⟩ l.length cap (l.map bv) rfl (by simp) HN.out (bys_one l) (by unfold maxLen; omega) (by omega) (by simp) ?_; intro v' w1 hown hgrow hnil; obtain ⟨a', c', rfl⟩ := owns_slice hown; have q1 := (hgrow.cell_far ⟨w.heap.size, 0, none⟩ hsz (by rintro ⟨⟩)).trans hc0; have q2 := (hgrow.frozen_far ⟨w.heap.size, 0, none⟩ hsz (by rintro ⟨⟩)).trans hf0)
    go_ret2
    obtain ⟨h1, h2⟩ := rnew_file (w := w) (l := l) (by simpa using hown) hgrow
    exact ⟨rfl, ⟨_, h1⟩, h2⟩

set_option maxRecDepth 100000 in
set_option maxHeartbeats 1000000 in
theorem rreadAt_any (base r : Nat) (u : Value) (l : List UInt8) (off n : Int) (w : World) (h : RFileAt w base r u l) (hl : l.length ≤ 1048576) :
    Calls Try.prog 12 #[.pointer (some ⟨r, 0, none⟩), .int .i64 off, .int .i64 n] w fun e w' => ∃ v, e = .returned (.tuple #[v, .int .i64 (rdE off n)]) ∧ w'.ownsRow w.heap.size 5 1 v (rdL l off n).length ((rdL l off n).map bv) ∧ Below w.heap.size w w' := by
  have h1 := h.data
  obtain ⟨ua, uc, rfl⟩ := owns_slice h.row
  have HF := hide h
  clear h
  by_cases ho : inR off = true
  · by_cases hn : inR n = true
    · have hr : rdE off n = 0 ∧ rdL l off n = piece l off.toNat n.toNat := by simp [rdE, rdL, ho, hn]
      rw [hr.1, hr.2]
      have ho' := ho
      have hn' := hn
      simp only [inR, decide_eq_true_eq] at ho' hn'
      obtain ⟨o, rfl⟩ : ∃ o : Nat, off = o := ⟨off.toNat, by omega⟩
      obtain ⟨m, rfl⟩ : ∃ m : Nat, n = m := ⟨n.toNat, by omega⟩
      rw [Int.toNat_natCast, Int.toNat_natCast]
      clear hr
      have HO := hide ho
      have HN := hide hn
      clear ho hn
      go_enter Try.func12, Try.ntmps12
      go_wp2_with fail
      refine (within_any _ _).mono ?_
      rintro e w1 ⟨rfl, rfl⟩
      rw [HO.out]
      go_wp2_with fail
      refine (within_any _ _).mono ?_
      rintro e w2 ⟨rfl, rfl⟩
      rw [HN.out]
      go_wp2_with fail
      refine (piece_any base _ l o m _ HF.out.row hl (by omega) (by omega)).mono ?_
      rintro e w3 ⟨v', rfl, hown, hB⟩
      have HO := hide hown
      clear hown
      go_wp2
      go_ret2
      exact ⟨_, rfl, HO.out, hB⟩
    · have hn' : inR n = false := by simpa using hn
      have hr : rdE off n = 4 ∧ rdL l off n = [] := by simp [rdE, rdL, hn']
      rw [hr.1, hr.2]
      have HO := hide ho
      have HN := hide hn'
      clear ho hn hn' hr
      go_enter Try.func12, Try.ntmps12
      go_wp2_with fail
      refine (within_any _ _).mono ?_
      rintro e w1 ⟨rfl, rfl⟩
      rw [HO.out]
      go_wp2_with fail
      refine (within_any _ _).mono ?_
      rintro e w2 ⟨rfl, rfl⟩
      rw [HN.out]
      go_wp2
      go_ret2
      exact ⟨_, rfl, World.ownsRow_nil _ _ _ _, Below.refl _ _⟩
  · have ho' : inR off = false := by simpa using ho
    have hr : rdE off n = 4 ∧ rdL l off n = [] := by simp [rdE, rdL, ho']
    rw [hr.1, hr.2]
    have HO := hide ho'
    clear ho ho' hr
    go_enter Try.func12, Try.ntmps12
    go_wp2_with fail
    refine (within_any _ _).mono ?_
    rintro e w1 ⟨rfl, rfl⟩
    rw [HO.out]
    go_wp2
    go_ret2
    exact ⟨_, rfl, World.ownsRow_nil _ _ _ _, Below.refl _ _⟩

/-- What stands behind a store of a new row into the reference's file. -/
theorem rstore {w w1 : World} {base r : Nat} {u u' : Value} {l l' : List UInt8} (h : RFileAt w base r u l) (hown : w1.ownsRow base 5 1 u' l'.length (l'.map bv)) (hb : ∀ k, u'.ownBlock = some k → u.ownBlock = some k ∨ w.heap.size ≤ k) (hT : Turned (fun k => u.ownBlock = some k) w w1) :
    RFileAt (w1.setCell ⟨r, 0, none⟩ u') base r u' l' ∧ Turned (fun k => k = r ∨ u.ownBlock = some k) w (w1.setCell ⟨r, 0, none⟩ u') := by
  have hrl := h.lt
  have hgg := hT.block r hrl h.apart
  have hap : u'.ownBlock ≠ some r := fun e => by
    rcases hb r e with h1 | h1
    · exact h.apart h1
    · omega
  refine ⟨⟨World.cell?_setCell_same _ _ _ ((World.cell?_of_block (w := w) hgg).trans h.data), ?_, owns_keep hown fun k hk => Below.heap_setCell _ _ _ _ (fun e => hap (by rw [hk, e])), hap⟩, ?_⟩
  · rw [World.frozen?_setCell]
    exact (World.frozen?_of_block (w := w) hgg).trans h.soft
  · refine ⟨hT.os, hT.tape, hT.output, by simpa [World.setCell] using hT.size, fun k hk hn => ?_⟩
    rw [Below.heap_setCell _ _ _ _ (fun e => hn (.inl e))]
    exact hT.block k hk (fun e => hn (.inr e))

set_option maxRecDepth 100000 in
set_option maxHeartbeats 1000000 in
theorem rwriteAt_any (base r : Nat) (u : Value) (l : List UInt8) (off : Int) (vx : Value) (x : List UInt8) (w : World) (h : RFileAt w base r u l) (hx : Bys w vx x) (hux : 0 < x.length → ∀ k, vx.ownBlock = some k → u.ownBlock ≠ some k) (hl : l.length ≤ 1048576) (hb : base ≤ w.heap.size) :
    Calls Try.prog 15 #[.pointer (some ⟨r, 0, none⟩), .int .i64 off, vx] w fun e w' => e = .returned (.int .i64 (wrE off x.length)) ∧ ∃ u', RFileAt w' base r u' (wrL l off x) ∧ (∀ k, u'.ownBlock = some k → u.ownBlock = some k ∨ w.heap.size ≤ k) ∧ Turned (fun k => k = r ∨ u.ownBlock = some k) w w' := by
  have HF := hide h
  have HX := hide hx
  have HU := hide hux
  obtain ⟨a1, c1, rfl, -⟩ := bys_form hx
  have h1 := h.data
  have h2 := h.soft
  obtain ⟨ua, uc, rfl⟩ := owns_slice h.row
  clear h hx hux
  by_cases ho : inR off = false
  · have e1 : wrE off x.length = 4 := by unfold wrE; rw [if_pos ho]
    rw [wrL, e1, if_neg (by decide)]
    have HO := hide ho
    clear ho e1
    go_enter Try.func15, Try.ntmps15
    go_wp2_with fail
    refine (within_any _ _).mono ?_
    rintro e w1 ⟨rfl, rfl⟩
    rw [HO.out]
    go_wp2
    go_ret
    exact ⟨rfl, _, HF.out, fun k hk => .inl hk, Turned.refl _ _⟩
  · have ho1 : inR off = true := by simpa using ho
    have ho' := ho1
    simp only [inR, decide_eq_true_eq] at ho'
    obtain ⟨o, rfl⟩ : ∃ o : Nat, off = o := ⟨off.toNat, by omega⟩
    by_cases h3 : (1048576 : Int) < (o : Int) + (x.length : Nat)
    · have e1 : wrE o x.length = 31 := by unfold wrE; rw [if_neg ho, if_pos h3]
      rw [wrL, e1, if_neg (by decide)]
      have HO := hide ho1
      clear ho e1 ho1
      have hd : decide ((1048576 - (o : Int)) < (x.length : Int)) = true := by simp; omega
      go_enter Try.func15, Try.ntmps15
      go_wp2_with fail
      refine (within_any _ _).mono ?_
      rintro e w1 ⟨rfl, rfl⟩
      rw [HO.out]
      go_wp2
      all_goals first
        | (exfalso; omega)
        | (go_ret; exact ⟨rfl, _, HF.out, fun k hk => .inl hk, Turned.refl _ _⟩)
    · have e1 : wrE o x.length = 0 := by unfold wrE; rw [if_neg ho, if_neg h3]
      rw [wrL, e1, if_pos rfl, Int.toNat_natCast]
      have HO := hide ho1
      clear ho e1 ho1
      have hd : decide ((1048576 - (o : Int)) < (x.length : Int)) = false := by simp; omega
      by_cases h4 : x = []
      · subst h4
        rw [lay, if_pos rfl]
        go_enter Try.func15, Try.ntmps15
        go_wp2_with fail
        refine (within_any _ _).mono ?_
        rintro e w1 ⟨rfl, rfl⟩
        rw [HO.out]
        go_wp2
        all_goals first
          | (exfalso; omega)
          | (go_ret; exact ⟨rfl, _, HF.out, fun k hk => .inl hk, Turned.refl _ _⟩)
      · have hx0 := List.length_pos_iff.2 h4
        rw [lay_rlay _ _ _ h4]
        have hd2 : decide ((0 : Int) < (x.length : Int)) = true := by simp; omega
        clear h4
        go_enter Try.func15, Try.ntmps15
        go_wp2_with fail
        refine (within_any _ _).mono ?_
        rintro e w1 ⟨rfl, rfl⟩
        rw [HO.out]
        go_wp2_with fail
        refine (lay_any base _ _ l x o _ HF.out.row HX.out HU.out hl (by omega) hb).mono ?_
        rintro e w2 ⟨u', rfl, hown, hub, hT⟩
        obtain ⟨a', c', rfl⟩ := owns_slice hown
        have HOw := hide hown
        have HUB := hide hub
        have HT := hide hT
        have hgg := hT.block r HF.out.lt HF.out.apart
        have q1 := (World.cell?_of_block (w := w1) (a := ⟨r, 0, none⟩) hgg).trans HF.out.data
        have q2 := (World.frozen?_of_block (w := w1) (a := ⟨r, 0, none⟩) hgg).trans HF.out.soft
        clear hown hub hT hgg
        go_wp2
        go_ret
        obtain ⟨r1, r2⟩ := rstore HF.out HOw.out HUB.out HT.out
        exact ⟨rfl, _, r1, HUB.out, r2⟩
end Go.Proofs.Ytdhdbakkhmmpjaa
