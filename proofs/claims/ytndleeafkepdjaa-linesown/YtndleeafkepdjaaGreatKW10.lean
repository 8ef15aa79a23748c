/- What the proof stands on, part 10: the contracts of the program's calls that it reaches. -/
import Derived.Test.YtndleeafkepdjaaGreatKW9
/- Lines: the next byte of a source. -/
namespace Go.Proofs.YtndleeafkepdjaaGreat
open Go.RowKit

theorem Src.fill {w : World} {g : Nat} {y : SS} {o0 i0 b0 r f : Value} (h : Src w g y o0 i0 b0 r f) (x : SS) (o i b : Value) : Src (filled w g x o i b) g x o i b r f ∧ Turned (fun k => k = g) w (filled w g x o i b) := by
  have e0 := Go.heap_setCell_same _ g 0 _ _ (.bool x.rd) h
  simp only [List.setIfInBounds_toArray, List.set_cons_zero] at e0
  have e1 := Go.heap_setCell_same _ g 1 _ _ (.bool x.wt) e0
  simp only [List.setIfInBounds_toArray, List.set_cons_zero, List.set_cons_succ] at e1
  have e2 := Go.heap_setCell_same _ g 2 _ _ (.int .i64 x.mode) e1
  simp only [List.setIfInBounds_toArray, List.set_cons_zero, List.set_cons_succ] at e2
  have e3 := Go.heap_setCell_same _ g 3 _ _ (.int .i64 x.size) e2
  simp only [List.setIfInBounds_toArray, List.set_cons_zero, List.set_cons_succ] at e3
  have e4 := Go.heap_setCell_same _ g 4 _ _ (o) e3
  simp only [List.setIfInBounds_toArray, List.set_cons_zero, List.set_cons_succ] at e4
  have e5 := Go.heap_setCell_same _ g 5 _ _ (i) e4
  simp only [List.setIfInBounds_toArray, List.set_cons_zero, List.set_cons_succ] at e5
  have e6 := Go.heap_setCell_same _ g 6 _ _ (b) e5
  simp only [List.setIfInBounds_toArray, List.set_cons_zero, List.set_cons_succ] at e6
  have e7 := Go.heap_setCell_same _ g 7 _ _ (.int .i64 x.dir) e6
  simp only [List.setIfInBounds_toArray, List.set_cons_zero, List.set_cons_succ] at e7
  have e8 := Go.heap_setCell_same _ g 8 _ _ (.bool x.fin) e7
  simp only [List.setIfInBounds_toArray, List.set_cons_zero, List.set_cons_succ] at e8
  have e9 := Go.heap_setCell_same _ g 9 _ _ (.bool x.bad) e8
  simp only [List.setIfInBounds_toArray, List.set_cons_zero, List.set_cons_succ] at e9
  have e10 := Go.heap_setCell_same _ g 10 _ _ (.bool x.closed) e9
  simp only [List.setIfInBounds_toArray, List.set_cons_zero, List.set_cons_succ] at e10
  exact ⟨e10, ((((((((((((Turned.refl (fun k => k = g) w).set (.inl rfl)).set (.inl rfl)).set (.inl rfl)).set (.inl rfl)).set (.inl rfl)).set (.inl rfl)).set (.inl rfl)).set (.inl rfl)).set (.inl rfl)).set (.inl rfl)).set (.inl rfl))⟩
set_option linter.unusedSimpArgs false in
set_option maxRecDepth 100000 in
set_option maxHeartbeats 8000000 in
theorem next_any {S : Type} {D : RawD S} {T : TypeId} {v : Value} {fr fw : FuncId} {rok wok : S → Prop} {At : World → (Nat → Prop) → S → Prop} (R : RawM D T v fr fw rok wok At) (hT : ∀ s, OAt (fun w O => At w O s)) {G : Nat → S → Prop} (hG : Bears D rok wok G) {w : World} {O : Nat → Prop} {s : S} {B g : Nat} {y : SS} {far : List UInt8} {o i b f : Value} (h : SrcOn At w O s B g y far o i b (.iface T v) f) (hB : B ≤ w.heap.size) (hg : G 2 s) (hm : y.may = true) :
    Calls Tryz.prog 185 #[.pointer (some ⟨g, 0, none⟩)] w fun e w' => ∃ O' o' i' b' f', e = .returned (.tuple #[.int .u8 ((y.get D s).2.1.toNat : Int), .int .i64 (y.get D s).2.2.1]) ∧ SrcOn At w' O' (y.get D s).2.2.2 B g ((y.get D s).1.parted far) (part (y.get D s).1.inn far).2 o' i' b' (.iface T v) f' ∧ (∀ k, O' k → O k ∨ w.heap.size ≤ k) ∧ (∀ k, o'.ownBlock = some k ∨ i'.ownBlock = some k ∨ b'.ownBlock = some k ∨ f'.ownBlock = some k → w.heap.size ≤ k ∨ f.ownBlock = some k) ∧ Turned (fun k => O k ∨ k = g ∨ w.heap.size ≤ k) w w' := by
  obtain ⟨oa, oc, rfl, -⟩ := h.ls.so
  obtain ⟨ia, ic, rfl, -⟩ := h.ls.si
  obtain ⟨ba, bc, rfl, -⟩ := h.ls.sb
  obtain ⟨fa, fc, rfl, -⟩ := h.fl
  have HS := hide h
  obtain ⟨m1, m2, m3, m4, m5, m6, m7, m8⟩ := may_buf hm
  have hBZ : Below w.heap.size w (w.alloc (Obj.cells #[.bool false, .bool false, .int .i64 0, .int .i64 0, .slice none 0 0, .slice none 0 0, .slice none 0 0, .int .i64 0, .bool false, .bool false, .bool false] 55)).drew := (recv_below w (Obj.cells #[.bool false, .bool false, .int .i64 0, .int .i64 0, .slice none 0 0, .slice none 0 0, .slice none 0 0, .int .i64 0, .bool false, .bool false, .bool false] 55)).trans (Below.refl _ _).drew
  have hp := sGet_any R hT hG (h.ls.below (Below.refl _ w).drew) ((hT s).keep h.raw (fun j _ hj => (Below.refl w.heap.size w).drew.block j hj) (Nat.le_refl _)) h.ol hg (by omega) (by omega) (by omega)
  have hpz := sGet_any R hT hG (h.ls.below hBZ) ((hT s).keep h.raw (fun j _ hj => hBZ.block j hj) hBZ.size) (fun j e => Nat.lt_of_lt_of_le (h.ol j e) hBZ.size) hg (by omega) (by omega) (by omega)
  have hzZ : (w.alloc (Obj.cells #[.bool false, .bool false, .int .i64 0, .int .i64 0, .slice none 0 0, .slice none 0 0, .slice none 0 0, .int .i64 0, .bool false, .bool false, .bool false] 55)).heap.size = w.heap.size + 1 := Array.size_push ..
  generalize y.get D s = q at *
  obtain ⟨x', ch, e', s'⟩ := q
  simp only at hp hpz ⊢
  have HP := hide hp
  have HPz := hide hpz
  have HSn : Hid (∀ W W', Below w.heap.size w W → Turned O W W' → (fun W => Src W g y (.slice oa y.out.length oc) (.slice ia y.inn.length ic) (.slice ba y.back.length bc) (.iface T v) (.slice fa far.length fc)) W') := hide (fun W W' hW hT2 => (HS.out.src.below hW).turned hT2 HS.out.og)
  have HSt : Hid (∀ W W', (fun W => Src W g y (.slice oa y.out.length oc) (.slice ia y.inn.length ic) (.slice ba y.back.length bc) (.iface T v) (.slice fa far.length fc)) W → Turned (fun k => k = w.heap.size) W W' → (fun W => Src W g y (.slice oa y.out.length oc) (.slice ia y.inn.length ic) (.slice ba y.back.length bc) (.iface T v) (.slice fa far.length fc)) W') := hide (fun W W' h2 hT2 => h2.turned hT2 (fun e => by have := HS.out.src.lt; omega))
  have HSb : Hid (∀ W W', (fun W => Src W g y (.slice oa y.out.length oc) (.slice ia y.inn.length ic) (.slice ba y.back.length bc) (.iface T v) (.slice fa far.length fc)) W → Below W.heap.size W W' → (fun W => Src W g y (.slice oa y.out.length oc) (.slice ia y.inn.length ic) (.slice ba y.back.length bc) (.iface T v) (.slice fa far.length fc)) W') := hide (fun W W' h2 hB2 => h2.below hB2)
  have HZ0 : Hid ((w.alloc (Obj.cells #[.bool false, .bool false, .int .i64 0, .int .i64 0, .slice none 0 0, .slice none 0 0, .slice none 0 0, .int .i64 0, .bool false, .bool false, .bool false] 55)).drew.heap[w.heap.size]? = some (Obj.cells #[.bool false, .bool false, .int .i64 0, .int .i64 0, .slice none 0 0, .slice none 0 0, .slice none 0 0, .int .i64 0, .bool false, .bool false, .bool false] 55)) := hide (heap_alloc_new w (Obj.cells #[.bool false, .bool false, .int .i64 0, .int .i64 0, .slice none 0 0, .slice none 0 0, .slice none 0 0, .int .i64 0, .bool false, .bool false, .bool false] 55))
  have HBs := hide hB
  clear hp hpz h hm m1 m2 m3 m4 m5 m6 m7 m8 hBZ hg hB
  go_enter Tryz.func185, Tryz.ntmps185
  go_upto_region 1 with fail
  go_cut [4, 5, 6] (fun p4 c5 e6 wx => ∃ (gt : Nat) (a1 a2 a3 : Option Addr) (a4 a5 a6 : Nat), p4 = .pointer (some ⟨gt, 0, none⟩) ∧ c5 = .int .u8 (ch.toNat : Int) ∧ e6 = .int .i64 e' ∧ Hid (StAt wx gt x' (.slice a1 x'.out.length a4) (.slice a2 x'.inn.length a5) (.slice a3 x'.back.length a6)) ∧ Hid (SOut At w.drew O x' s' (.slice a1 x'.out.length a4) (.slice a2 x'.inn.length a5) (.slice a3 x'.back.length a6) wx))
  case first =>
    refine wp_region_noPanic ?_
    refine wp_region_held_drew (S := fun W => Src W g y (.slice oa y.out.length oc) (.slice ia y.inn.length ic) (.slice ba y.back.length bc) (.iface T v) (.slice fa far.length fc)) (by kernel_rfl) (HSn.out _ _ (Below.refl _ _).drew (Turned.refl _ _)) (fun hHeld => ?_)
    refine wpAnyH_take (i := 0) (oi := ?_) (v := ?_) ?_ (by kernel_rfl) (by kernel_rfl) (by kernel_rfl) (fun _ _ _ h => (h : False).elim) (Or.inl ⟨?_, ?_⟩) hHeld ?_
    rotate_left 2
    · (simp only [List.getElem?_toArray, List.getElem?_cons_zero]; rfl)
    · rfl
    · (intro W hSw; obtain ⟨m0, m1, m2, m3, m4, m5, m6, m7, m8, m9, m10, m11, m12⟩ := hSw.cs; go_simp <;> with_reducible rfl)
    try simp only [Act.put, List.setIfInBounds_toArray, List.set_cons_zero, List.set_cons_succ]
    refine wpAnyH_take (i := 1) (oi := ?_) (v := ?_) ?_ (by kernel_rfl) (by kernel_rfl) (by kernel_rfl) (fun _ _ _ h => (h : False).elim) (Or.inl ⟨?_, ?_⟩) hHeld ?_
    rotate_left 2
    · (simp only [List.getElem?_toArray, List.getElem?_cons_zero, List.getElem?_cons_succ]; rfl)
    · rfl
    · (intro W hSw; obtain ⟨m0, m1, m2, m3, m4, m5, m6, m7, m8, m9, m10, m11, m12⟩ := hSw.cs; go_simp <;> with_reducible rfl)
    try simp only [Act.put, List.setIfInBounds_toArray, List.set_cons_zero, List.set_cons_succ]
    refine wpAnyH_take (i := 2) (oi := ?_) (v := ?_) ?_ (by kernel_rfl) (by kernel_rfl) (by kernel_rfl) (fun _ _ _ h => (h : False).elim) (Or.inl ⟨?_, ?_⟩) hHeld ?_
    rotate_left 2
    · (simp only [List.getElem?_toArray, List.getElem?_cons_zero, List.getElem?_cons_succ]; rfl)
    · rfl
    · (intro W hSw; obtain ⟨m0, m1, m2, m3, m4, m5, m6, m7, m8, m9, m10, m11, m12⟩ := hSw.cs; go_simp <;> with_reducible rfl)
    try simp only [Act.put, List.setIfInBounds_toArray, List.set_cons_zero, List.set_cons_succ]
    refine wpAnyH_take (i := 3) (oi := ?_) (v := ?_) ?_ (by kernel_rfl) (by kernel_rfl) (by kernel_rfl) (fun _ _ _ h => (h : False).elim) (Or.inl ⟨?_, ?_⟩) hHeld ?_
    rotate_left 2
    · (simp only [List.getElem?_toArray, List.getElem?_cons_zero, List.getElem?_cons_succ]; rfl)
    · rfl
    · (intro W hSw; obtain ⟨m0, m1, m2, m3, m4, m5, m6, m7, m8, m9, m10, m11, m12⟩ := hSw.cs; go_simp <;> with_reducible rfl)
    try simp only [Act.put, List.setIfInBounds_toArray, List.set_cons_zero, List.set_cons_succ]
    refine wpAnyH_take (i := 4) (oi := ?_) (v := ?_) ?_ (by kernel_rfl) (by kernel_rfl) (by kernel_rfl) (fun _ _ _ h => (h : False).elim) (Or.inl ⟨?_, ?_⟩) hHeld ?_
    rotate_left 2
    · (simp only [List.getElem?_toArray, List.getElem?_cons_zero, List.getElem?_cons_succ]; rfl)
    · rfl
    · (intro W hSw; obtain ⟨m0, m1, m2, m3, m4, m5, m6, m7, m8, m9, m10, m11, m12⟩ := hSw.cs; go_simp <;> with_reducible rfl)
    try simp only [Act.put, List.setIfInBounds_toArray, List.set_cons_zero, List.set_cons_succ]
    refine wpAnyH_take (i := 5) (oi := ?_) (v := ?_) ?_ (by kernel_rfl) (by kernel_rfl) (by kernel_rfl) (fun _ _ _ h => (h : False).elim) (Or.inl ⟨?_, ?_⟩) hHeld ?_
    rotate_left 2
    · (simp only [List.getElem?_toArray, List.getElem?_cons_zero, List.getElem?_cons_succ]; rfl)
    · rfl
    · (intro W hSw; obtain ⟨m0, m1, m2, m3, m4, m5, m6, m7, m8, m9, m10, m11, m12⟩ := hSw.cs; go_simp <;> with_reducible rfl)
    try simp only [Act.put, List.setIfInBounds_toArray, List.set_cons_zero, List.set_cons_succ]
    refine wpAnyH_take (i := 6) (oi := ?_) (v := ?_) ?_ (by kernel_rfl) (by kernel_rfl) (by kernel_rfl) (fun _ _ _ h => (h : False).elim) (Or.inl ⟨?_, ?_⟩) hHeld ?_
    rotate_left 2
    · (simp only [List.getElem?_toArray, List.getElem?_cons_zero, List.getElem?_cons_succ]; rfl)
    · rfl
    · (intro W hSw; obtain ⟨m0, m1, m2, m3, m4, m5, m6, m7, m8, m9, m10, m11, m12⟩ := hSw.cs; go_simp <;> with_reducible rfl)
    try simp only [Act.put, List.setIfInBounds_toArray, List.set_cons_zero, List.set_cons_succ]
    refine wpAnyH_take (i := 7) (oi := ?_) (v := ?_) ?_ (by kernel_rfl) (by kernel_rfl) (by kernel_rfl) (fun _ _ _ h => (h : False).elim) (Or.inl ⟨?_, ?_⟩) hHeld ?_
    rotate_left 2
    · (simp only [List.getElem?_toArray, List.getElem?_cons_zero, List.getElem?_cons_succ]; rfl)
    · rfl
    · (intro W hSw; obtain ⟨m0, m1, m2, m3, m4, m5, m6, m7, m8, m9, m10, m11, m12⟩ := hSw.cs; go_simp <;> with_reducible rfl)
    try simp only [Act.put, List.setIfInBounds_toArray, List.set_cons_zero, List.set_cons_succ]
    refine wpAnyH_ready (rs := [8, 13]) (by kernel_rfl) (by simp) ?_
    refine AllReadyH.cons (o := ?_) ?_ (fun K' hK => ?_) (AllReadyH.cons (o := ?_) ?_ (fun K' hK => ?_) AllReadyH.nil)
    rotate_left 1
    · (simp only [List.getElem?_toArray, List.getElem?_cons_zero, List.getElem?_cons_succ]; rfl)
    · go_simp
      go_at_call 78
      refine HP.out.mono ?_
      rintro _ w5' ⟨o', i', b'', rfl, hS⟩
      obtain ⟨a1, a4, rfl, -⟩ := hS.choose_spec.1.so
      obtain ⟨a2, a5, rfl, -⟩ := hS.choose_spec.1.si
      obtain ⟨a3, a6, rfl, -⟩ := hS.choose_spec.1.sb
      have hT5 : Turned O w.drew w5' := (by obtain ⟨_, _, _, _, _, t⟩ := hS; exact t)
      have HS5 := hide hS
      clear hS
      have h9 := HSn.out _ w5' ((Below.refl _ _).drew) hT5
      refine hK.out _ _ (h9) (fun hHeld2 => ?_)
      clear hK K' hHeld
      have hHeld := hHeld2
      clear hHeld2
      try simp only [Act.put, List.setIfInBounds_toArray, List.set_cons_zero, List.set_cons_succ]
      refine wpAnyH_take (i := 9) (oi := ?_) (v := ?_) ?_ (by kernel_rfl) (by kernel_rfl) (by kernel_rfl) (fun _ _ _ h => (h : False).elim) (Or.inl ⟨?_, ?_⟩) hHeld ?_
      rotate_left 2
      · (simp only [List.getElem?_toArray, List.getElem?_cons_zero, List.getElem?_cons_succ]; rfl)
      · rfl
      · (intro W hSw; obtain ⟨m0, m1, m2, m3, m4, m5, m6, m7, m8, m9, m10, m11, m12⟩ := hSw.cs; go_simp <;> with_reducible rfl)
      try simp only [Act.put, List.setIfInBounds_toArray, List.set_cons_zero, List.set_cons_succ]
      refine wpAnyH_take (i := 10) (oi := ?_) (v := ?_) ?_ (by kernel_rfl) (by kernel_rfl) (by kernel_rfl) (fun _ _ _ h => (h : False).elim) (Or.inl ⟨?_, ?_⟩) hHeld ?_
      rotate_left 2
      · (simp only [List.getElem?_toArray, List.getElem?_cons_zero, List.getElem?_cons_succ]; rfl)
      · rfl
      · (intro W hSw; obtain ⟨m0, m1, m2, m3, m4, m5, m6, m7, m8, m9, m10, m11, m12⟩ := hSw.cs; go_simp <;> with_reducible rfl)
      try simp only [Act.put, List.setIfInBounds_toArray, List.set_cons_zero, List.set_cons_succ]
      refine wpAnyH_take (i := 11) (oi := ?_) (v := ?_) ?_ (by kernel_rfl) (by kernel_rfl) (by kernel_rfl) (fun _ _ _ h => (h : False).elim) (Or.inl ⟨?_, ?_⟩) hHeld ?_
      rotate_left 2
      · (simp only [List.getElem?_toArray, List.getElem?_cons_zero, List.getElem?_cons_succ]; rfl)
      · rfl
      · (intro W hSw; obtain ⟨m0, m1, m2, m3, m4, m5, m6, m7, m8, m9, m10, m11, m12⟩ := hSw.cs; go_simp <;> with_reducible rfl)
      try simp only [Act.put, List.setIfInBounds_toArray, List.set_cons_zero, List.set_cons_succ]
      refine wpAnyH_take (i := 12) (oi := ?_) (v := ?_) ?_ (by kernel_rfl) (by kernel_rfl) (by kernel_rfl) (fun _ _ _ h => (h : False).elim) (Or.inl ⟨?_, ?_⟩) hHeld ?_
      rotate_left 2
      · (simp only [List.getElem?_toArray, List.getElem?_cons_zero, List.getElem?_cons_succ]; rfl)
      · rfl
      · (intro W hSw; obtain ⟨m0, m1, m2, m3, m4, m5, m6, m7, m8, m9, m10, m11, m12⟩ := hSw.cs; go_simp <;> with_reducible rfl)
      try simp only [Act.put, List.setIfInBounds_toArray, List.set_cons_zero, List.set_cons_succ]
      refine wpAnyH_ready (rs := [13]) (by kernel_rfl) (by simp) ?_
      refine AllReadyH.cons (o := ?_) ?_ (fun K' hK => ?_) AllReadyH.nil
      rotate_left 1
      · (simp only [List.getElem?_toArray, List.getElem?_cons_zero, List.getElem?_cons_succ]; rfl)
      go_simp
      refine hK.out _ _ (HSb.out _ _ h9 (recv_below w5' (Obj.cells #[.bool false, .bool false, .int .i64 0, .int .i64 0, .slice none 0 0, .slice none 0 0, .slice none 0 0, .int .i64 0, .bool false, .bool false, .bool false] 55))) (fun hHeld2 => ?_)
      clear hK K' hHeld
      have hHeld := hHeld2
      clear hHeld2
      try simp only [Act.put, List.setIfInBounds_toArray, List.set_cons_zero, List.set_cons_succ]
      refine wpAnyH_ready (rs := [14]) (by kernel_rfl) (by simp) ?_
      refine AllReadyH.cons (o := ?_) ?_ (fun K' hK => ?_) AllReadyH.nil
      rotate_left 1
      · (simp only [List.getElem?_toArray, List.getElem?_cons_zero, List.getElem?_cons_succ]; rfl)
      go_simp
      refine hK.out _ _ (HSb.out _ _ h9 (recv_below w5' (Obj.cells #[.bool x'.rd, .bool x'.wt, .int .i64 x'.mode, .int .i64 x'.size, .slice a1 x'.out.length a4, .slice a2 x'.inn.length a5, .slice a3 x'.back.length a6, .int .i64 x'.dir, .bool x'.fin, .bool x'.bad, .bool x'.closed] 55))) (fun hHeld2 => ?_)
      clear hK K' hHeld
      have hHeld := hHeld2
      clear hHeld2
      try simp only [Act.put, List.setIfInBounds_toArray, List.set_cons_zero, List.set_cons_succ]
      refine wpAnyH_take (i := 15) (oi := ?_) (v := ?_) ?_ (by kernel_rfl) (by kernel_rfl) (by kernel_rfl) (fun _ _ _ h => (h : False).elim) (Or.inl ⟨?_, ?_⟩) hHeld ?_
      rotate_left 2
      · (simp only [List.getElem?_toArray, List.getElem?_cons_zero, List.getElem?_cons_succ]; rfl)
      · rfl
      · (intro W hSw; obtain ⟨m0, m1, m2, m3, m4, m5, m6, m7, m8, m9, m10, m11, m12⟩ := hSw.cs; go_simp <;> with_reducible rfl)
      try simp only [Act.put, List.setIfInBounds_toArray, List.set_cons_zero, List.set_cons_succ]
      refine wpAnyH_take (i := 16) (oi := ?_) (v := ?_) ?_ (by kernel_rfl) (by kernel_rfl) (by kernel_rfl) (fun _ _ _ h => (h : False).elim) (Or.inl ⟨?_, ?_⟩) hHeld ?_
      rotate_left 2
      · (simp only [List.getElem?_toArray, List.getElem?_cons_zero, List.getElem?_cons_succ]; rfl)
      · rfl
      · (intro W hSw; obtain ⟨m0, m1, m2, m3, m4, m5, m6, m7, m8, m9, m10, m11, m12⟩ := hSw.cs; go_simp <;> with_reducible rfl)
      try simp only [Act.put, List.setIfInBounds_toArray, List.set_cons_zero, List.set_cons_succ]
      refine wpAnyH_done (by kernel_rfl) ?_ _
      refine NoPanic.normal ?_
      clear hHeld h9 hT5
      go_wp2
      go_meet
      exact ⟨_, _, _, _, _, _, _, rfl, rfl, rfl, hide (StAt.new w5' x' (.slice a1 x'.out.length a4) (.slice a2 x'.inn.length a5) (.slice a3 x'.back.length a6)), hide (SOut.below hT HS5.out (recv_below w5' (Obj.cells #[.bool x'.rd, .bool x'.wt, .int .i64 x'.mode, .int .i64 x'.size, .slice a1 x'.out.length a4, .slice a2 x'.inn.length a5, .slice a3 x'.back.length a6, .int .i64 x'.dir, .bool x'.fin, .bool x'.bad, .bool x'.closed] 55)) rfl rfl rfl)⟩
    rotate_left 1
    · (simp only [List.getElem?_toArray, List.getElem?_cons_zero, List.getElem?_cons_succ]; rfl)
    · go_simp
      refine hK.out _ _ (HSn.out _ _ ((Below.refl _ w).alloc (Nat.le_refl _) (Obj.cells #[.bool false, .bool false, .int .i64 0, .int .i64 0, .slice none 0 0, .slice none 0 0, .slice none 0 0, .int .i64 0, .bool false, .bool false, .bool false] 55)).drew (Turned.refl _ _)) (fun hHeld2 => ?_)
      clear hK K' hHeld
      have hHeld := hHeld2
      clear hHeld2
      try simp only [Act.put, List.setIfInBounds_toArray, List.set_cons_zero, List.set_cons_succ]
      refine wpAnyH_ready (rs := [8]) (by kernel_rfl) (by simp) ?_
      refine AllReadyH.cons (o := ?_) ?_ (fun K' hK => ?_) AllReadyH.nil
      rotate_left 1
      · (simp only [List.getElem?_toArray, List.getElem?_cons_zero, List.getElem?_cons_succ]; rfl)
      go_simp
      go_at_call 78
      refine HPz.out.mono ?_
      rintro _ w5' ⟨o', i', b'', rfl, hS⟩
      obtain ⟨a1, a4, rfl, -⟩ := hS.choose_spec.1.so
      obtain ⟨a2, a5, rfl, -⟩ := hS.choose_spec.1.si
      obtain ⟨a3, a6, rfl, -⟩ := hS.choose_spec.1.sb
      have hT5 : Turned O (w.alloc (Obj.cells #[.bool false, .bool false, .int .i64 0, .int .i64 0, .slice none 0 0, .slice none 0 0, .slice none 0 0, .int .i64 0, .bool false, .bool false, .bool false] 55)).drew w5' := (by obtain ⟨_, _, _, _, _, t⟩ := hS; exact t)
      have HS5 := hide hS
      clear hS
      have h9 := HSn.out _ w5' (((Below.refl _ w).alloc (Nat.le_refl _) (Obj.cells #[.bool false, .bool false, .int .i64 0, .int .i64 0, .slice none 0 0, .slice none 0 0, .slice none 0 0, .int .i64 0, .bool false, .bool false, .bool false] 55)).drew) hT5
      refine hK.out _ _ (h9) (fun hHeld2 => ?_)
      clear hK K' hHeld
      have hHeld := hHeld2
      clear hHeld2
      try simp only [Act.put, List.setIfInBounds_toArray, List.set_cons_zero, List.set_cons_succ]
      refine wpAnyH_take (i := 9) (oi := ?_) (v := ?_) ?_ (by kernel_rfl) (by kernel_rfl) (by kernel_rfl) (fun _ _ _ h => (h : False).elim) (Or.inl ⟨?_, ?_⟩) hHeld ?_
      rotate_left 2
      · (simp only [List.getElem?_toArray, List.getElem?_cons_zero, List.getElem?_cons_succ]; rfl)
      · rfl
      · (intro W hSw; obtain ⟨m0, m1, m2, m3, m4, m5, m6, m7, m8, m9, m10, m11, m12⟩ := hSw.cs; go_simp <;> with_reducible rfl)
      try simp only [Act.put, List.setIfInBounds_toArray, List.set_cons_zero, List.set_cons_succ]
      refine wpAnyH_take (i := 10) (oi := ?_) (v := ?_) ?_ (by kernel_rfl) (by kernel_rfl) (by kernel_rfl) (fun _ _ _ h => (h : False).elim) (Or.inl ⟨?_, ?_⟩) hHeld ?_
      rotate_left 2
      · (simp only [List.getElem?_toArray, List.getElem?_cons_zero, List.getElem?_cons_succ]; rfl)
      · rfl
      · (intro W hSw; obtain ⟨m0, m1, m2, m3, m4, m5, m6, m7, m8, m9, m10, m11, m12⟩ := hSw.cs; go_simp <;> with_reducible rfl)
      try simp only [Act.put, List.setIfInBounds_toArray, List.set_cons_zero, List.set_cons_succ]
      refine wpAnyH_take (i := 11) (oi := ?_) (v := ?_) ?_ (by kernel_rfl) (by kernel_rfl) (by kernel_rfl) (fun _ _ _ h => (h : False).elim) (Or.inl ⟨?_, ?_⟩) hHeld ?_
      rotate_left 2
      · (simp only [List.getElem?_toArray, List.getElem?_cons_zero, List.getElem?_cons_succ]; rfl)
      · rfl
      · (intro W hSw; obtain ⟨m0, m1, m2, m3, m4, m5, m6, m7, m8, m9, m10, m11, m12⟩ := hSw.cs; go_simp <;> with_reducible rfl)
      try simp only [Act.put, List.setIfInBounds_toArray, List.set_cons_zero, List.set_cons_succ]
      refine wpAnyH_take (i := 12) (oi := ?_) (v := ?_) ?_ (by kernel_rfl) (by kernel_rfl) (by kernel_rfl) (fun _ _ _ h => (h : False).elim) (Or.inl ⟨?_, ?_⟩) hHeld ?_
      rotate_left 2
      · (simp only [List.getElem?_toArray, List.getElem?_cons_zero, List.getElem?_cons_succ]; rfl)
      · rfl
      · (intro W hSw; obtain ⟨m0, m1, m2, m3, m4, m5, m6, m7, m8, m9, m10, m11, m12⟩ := hSw.cs; go_simp <;> with_reducible rfl)
      try simp only [Act.put, List.setIfInBounds_toArray, List.set_cons_zero, List.set_cons_succ]
      have hz9 : w5'.heap[w.heap.size]? = some (Obj.cells #[.bool false, .bool false, .int .i64 0, .int .i64 0, .slice none 0 0, .slice none 0 0, .slice none 0 0, .int .i64 0, .bool false, .bool false, .bool false] 55) := (hT5.block w.heap.size (by show _ < (w.alloc (Obj.cells #[.bool false, .bool false, .int .i64 0, .int .i64 0, .slice none 0 0, .slice none 0 0, .slice none 0 0, .int .i64 0, .bool false, .bool false, .bool false] 55)).heap.size; have := hzZ; omega) (fun e => by have := HS.out.ol _ e; omega)).trans HZ0.out
      obtain ⟨e1, e2⟩ := st_fill w5' w.heap.size x' (.slice a1 x'.out.length a4) (.slice a2 x'.inn.length a5) (.slice a3 x'.back.length a6) hz9
      have HS9 := hide (HSt.out _ _ h9 e2)
      have HE1 := hide e1
      have HE2x := hide e2
      have u0' := frozen_of_row w5' w.heap.size 0 _ _ hz9
      have u1' := frozen_of_row w5' w.heap.size 1 _ _ hz9
      have u2' := frozen_of_row w5' w.heap.size 2 _ _ hz9
      have u3' := frozen_of_row w5' w.heap.size 3 _ _ hz9
      have u4' := frozen_of_row w5' w.heap.size 4 _ _ hz9
      have u5' := frozen_of_row w5' w.heap.size 5 _ _ hz9
      have u6' := frozen_of_row w5' w.heap.size 6 _ _ hz9
      have u7' := frozen_of_row w5' w.heap.size 7 _ _ hz9
      have u8' := frozen_of_row w5' w.heap.size 8 _ _ hz9
      have u9' := frozen_of_row w5' w.heap.size 9 _ _ hz9
      have u10' := frozen_of_row w5' w.heap.size 10 _ _ hz9
      have z0' := cell_of_row w5' w.heap.size 0 _ _ _ hz9
      have z1' := cell_of_row w5' w.heap.size 1 _ _ _ hz9
      have z2' := cell_of_row w5' w.heap.size 2 _ _ _ hz9
      have z3' := cell_of_row w5' w.heap.size 3 _ _ _ hz9
      have z4' := cell_of_row w5' w.heap.size 4 _ _ _ hz9
      have z5' := cell_of_row w5' w.heap.size 5 _ _ _ hz9
      have z6' := cell_of_row w5' w.heap.size 6 _ _ _ hz9
      have z7' := cell_of_row w5' w.heap.size 7 _ _ _ hz9
      have z8' := cell_of_row w5' w.heap.size 8 _ _ _ hz9
      have z9' := cell_of_row w5' w.heap.size 9 _ _ _ hz9
      have z10' := cell_of_row w5' w.heap.size 10 _ _ _ hz9
      simp at z0' z1' z2' z3' z4' z5' z6' z7' z8' z9' z10'
      clear e1 e2 hz9 hT5
      refine wpAnyH_ready (rs := [14]) (by kernel_rfl) (by simp) ?_
      refine AllReadyH.cons (o := ?_) ?_ (fun K' hK => ?_) AllReadyH.nil
      rotate_left 1
      · (simp only [List.getElem?_toArray, List.getElem?_cons_zero, List.getElem?_cons_succ]; rfl)
      go_simp
      refine hK.out _ _ (HS9.out) (fun hHeld2 => ?_)
      clear hK K' hHeld
      have hHeld := hHeld2
      clear hHeld2
      try simp only [Act.put, List.setIfInBounds_toArray, List.set_cons_zero, List.set_cons_succ]
      clear u0' z0' u1' z1' u2' z2' u3' z3' u4' z4' u5' z5' u6' z6' u7' z7' u8' z8' u9' z9' u10' z10'
      refine wpAnyH_take (i := 15) (oi := ?_) (v := ?_) ?_ (by kernel_rfl) (by kernel_rfl) (by kernel_rfl) (fun _ _ _ h => (h : False).elim) (Or.inl ⟨?_, ?_⟩) hHeld ?_
      rotate_left 2
      · (simp only [List.getElem?_toArray, List.getElem?_cons_zero, List.getElem?_cons_succ]; rfl)
      · rfl
      · (intro W hSw; obtain ⟨m0, m1, m2, m3, m4, m5, m6, m7, m8, m9, m10, m11, m12⟩ := hSw.cs; go_simp <;> with_reducible rfl)
      try simp only [Act.put, List.setIfInBounds_toArray, List.set_cons_zero, List.set_cons_succ]
      refine wpAnyH_take (i := 16) (oi := ?_) (v := ?_) ?_ (by kernel_rfl) (by kernel_rfl) (by kernel_rfl) (fun _ _ _ h => (h : False).elim) (Or.inl ⟨?_, ?_⟩) hHeld ?_
      rotate_left 2
      · (simp only [List.getElem?_toArray, List.getElem?_cons_zero, List.getElem?_cons_succ]; rfl)
      · rfl
      · (intro W hSw; obtain ⟨m0, m1, m2, m3, m4, m5, m6, m7, m8, m9, m10, m11, m12⟩ := hSw.cs; go_simp <;> with_reducible rfl)
      try simp only [Act.put, List.setIfInBounds_toArray, List.set_cons_zero, List.set_cons_succ]
      refine wpAnyH_done (by kernel_rfl) ?_ _
      refine NoPanic.normal ?_
      clear hHeld h9
      go_wp2
      go_meet
      exact ⟨_, _, _, _, _, _, _, rfl, rfl, rfl, HE1, hide (SOut.fin hT HS5.out (show Below w.heap.size w.drew (w.alloc (Obj.cells #[.bool false, .bool false, .int .i64 0, .int .i64 0, .slice none 0 0, .slice none 0 0, .slice none 0 0, .int .i64 0, .bool false, .bool false, .bool false] 55)).drew from recv_below w.drew (Obj.cells #[.bool false, .bool false, .int .i64 0, .int .i64 0, .slice none 0 0, .slice none 0 0, .slice none 0 0, .int .i64 0, .bool false, .bool false, .bool false] 55)) (by show w.heap.size < (w.alloc (Obj.cells #[.bool false, .bool false, .int .i64 0, .int .i64 0, .slice none 0 0, .slice none 0 0, .slice none 0 0, .int .i64 0, .bool false, .bool false, .bool false] 55)).heap.size; have := hzZ; omega) (Nat.le_refl _) HS.out.ol HE2x.out)⟩
  case rest =>
    obtain ⟨gt, a1, a2, a3, a4, a5, a6, rfl, rfl, rfl, HTb, HSo⟩ := hcut
    clear HP HPz HSt HSb HZ0
    obtain ⟨O', h1, h2, h3, h4, h5⟩ := HSo.out
    have hsrc := HSn.out _ _ (Below.refl _ w).drew h5
    have hz5 : w.heap.size ≤ wc.heap.size := h5.size
    obtain ⟨e1, e2⟩ := Src.fill hsrc x' (.slice a1 x'.out.length a4) (.slice a2 x'.inn.length a5) (.slice a3 x'.back.length a6)
    have hgl := HS.out.src.lt
    have hog' : ¬ O' g := fun e => by
      rcases h4 g e with e | e
      · exact HS.out.og e
      · have : w.heap.size ≤ g := e; omega
    have hI : SIn (filled wc g x' (.slice a1 x'.out.length a4) (.slice a2 x'.inn.length a5) (.slice a3 x'.back.length a6)) (fun k => w.heap.size ≤ k ∧ ¬ O' k ∧ k < wc.heap.size) x' (.slice a1 x'.out.length a4) (.slice a2 x'.inn.length a5) (.slice a3 x'.back.length a6) := h1.turned e2 (fun k e _ e3 => by have h6 : k = g := e3; have h7 : w.heap.size ≤ k := e.1; omega)
    have hF : Sl (filled wc g x' (.slice a1 x'.out.length a4) (.slice a2 x'.inn.length a5) (.slice a3 x'.back.length a6)) (.slice fa far.length fc) far := (HS.out.fl.turned ((Turned.of_below (S := O) (Below.refl _ w).drew).trans h5 (fun _ _ e => e)) (fun k e _ => (HS.out.fp k e).2.1)).turned e2 (fun k e _ => (HS.out.fp k e).2.2.1)
    have HPi := hide (partIn_any x' far g _ _ _ _ _ _ e1 hI.si hF (fun k e e3 => by have h7 : w.heap.size ≤ k := (hI.pi k e).1; omega) (fun k e => (HS.out.fp k e).2.2.1))
    have HI := hide hI
    have HE2 := hide e2
    have HA : Hid (At wc O' s' ∧ (∀ j, O' j → j < wc.heap.size) ∧ (∀ k, O' k → O k ∨ w.heap.size ≤ k) ∧ Turned O w wc ∧ ¬ O' g ∧ w.heap.size ≤ wc.heap.size ∧ g < w.heap.size) := hide ⟨h2, h3, h4, (Turned.of_below (S := O) (Below.refl _ w).drew).trans h5 (fun _ _ e => e), hog', hz5, hgl⟩
    obtain ⟨c0, c1, c2, c3, c4, c5, c6, c7, c8, c9, c10, c11, c12⟩ := hsrc.cs
    have f0 := hsrc.soft 0
    have f1 := hsrc.soft 1
    have f2 := hsrc.soft 2
    have f3 := hsrc.soft 3
    have f4 := hsrc.soft 4
    have f5 := hsrc.soft 5
    have f6 := hsrc.soft 6
    have f7 := hsrc.soft 7
    have f8 := hsrc.soft 8
    have f9 := hsrc.soft 9
    have f10 := hsrc.soft 10
    obtain ⟨t0, t1, t2, t3, t4, t5, t6, t7, t8, t9, t10⟩ := HTb.out.cs
    clear h1 h2 h3 h4 h5 e1 e2 hsrc hI hF hog' HSn HSo hz5 hgl
    unfold filled at HPi HI HE2
    go_wp2_with fail
    clear c0 c1 c2 c3 c4 c5 c6 c7 c8 c9 c10 c11 c12 f0 f1 f2 f3 f4 f5 f6 f7 f8 f9 f10 t0 t1 t2 t3 t4 t5 t6 t7 t8 t9 t10
    generalize (((((((((((wc.setCell ⟨g, 0, none⟩ (.bool x'.rd)).setCell ⟨g, 1, none⟩ (.bool x'.wt)).setCell ⟨g, 2, none⟩ (.int .i64 x'.mode)).setCell ⟨g, 3, none⟩ (.int .i64 x'.size)).setCell ⟨g, 4, none⟩ (.slice a1 x'.out.length a4)).setCell ⟨g, 5, none⟩ (.slice a2 x'.inn.length a5)).setCell ⟨g, 6, none⟩ (.slice a3 x'.back.length a6)).setCell ⟨g, 7, none⟩ (.int .i64 x'.dir)).setCell ⟨g, 8, none⟩ (.bool x'.fin)).setCell ⟨g, 9, none⟩ (.bool x'.bad)).setCell ⟨g, 10, none⟩ (.bool x'.closed)) = w4 at *
    refine HPi.out.mono ?_
    rintro _ w5 ⟨i2, f2, rfl, s1, s2, s3, s4, s5⟩
    have HR := hide (And.intro s1 (And.intro s2 (And.intro s3 (And.intro s4 s5))))
    clear s1 s2 s3 s4 s5 HPi
    go_wp2
    go_ret2
    obtain ⟨s1, s2, s3, s4, s5⟩ := HR.out
    obtain ⟨b1, b2, b3, b4, b5, b6, b7⟩ := HA.out
    have z1 := HE2.out.size
    have z2 := s5.size
    have hBs := HBs.out
    have inn : ∀ k, w.heap.size ≤ k ∧ ¬ O' k ∧ k < wc.heap.size → (B ≤ k ∧ ¬ O' k ∧ k ≠ g ∧ k < w5.heap.size) := fun k e => ⟨by omega, e.2.1, by omega, by omega⟩
    have fin' : ∀ k, (Value.slice fa far.length fc).ownBlock = some k → (B ≤ k ∧ ¬ O' k ∧ k ≠ g ∧ k < w5.heap.size) := fun k e => by
      have := HS.out.fp k e
      exact ⟨this.1, fun e2 => by rcases b3 k e2 with e3 | e3; exact this.2.1 e3; have := this.2.2.2; omega, this.2.2.1, by have := this.2.2.2; omega⟩
    have bk : ∀ k, i2.ownBlock = some k ∨ f2.ownBlock = some k → (B ≤ k ∧ ¬ O' k ∧ k ≠ g ∧ k < w5.heap.size) := fun k e => by
      rcases s4 k e with e | e
      · exact inn k (HI.out.pi k e)
      · exact fin' k e
    have tr : ∀ {u : Value} {l : List UInt8}, Sl w4 u l → (∀ k, u.ownBlock = some k → k ≠ g) → Sl w5 u l := fun q e => q.turned s5 (fun k e2 _ => e k e2)
    refine ⟨O', _, _, _, _, rfl, ⟨s1, ⟨tr HI.out.so (fun k e => (inn k (HI.out.po k e)).2.2.1), s2, tr HI.out.sb (fun k e => (inn k (HI.out.pb k e)).2.2.1), fun k e => inn k (HI.out.po k e), fun k e => bk k (.inl e), fun k e => inn k (HI.out.pb k e)⟩, s3, fun k e => bk k (.inr e), (hT s').keep b1 (fun j e hj => (s5.block j (by omega) (fun e2 => b5 (e2 ▸ e))).trans (HE2.out.block j hj (fun e2 => b5 (e2 ▸ e)))) (by omega), b5, HS.out.gB, fun j e => by have := b2 j e; omega, parted_none x' far⟩, b3, ?_, ?_⟩
    · intro k e
      have bi : i2.ownBlock = some k ∨ f2.ownBlock = some k → w.heap.size ≤ k ∨ (Value.slice fa far.length fc).ownBlock = some k := fun e => (s4 k e).imp (fun e => (HI.out.pi k e).1) id
      rcases e with e | e | e | e
      · exact .inl (HI.out.po k e).1
      · exact bi (.inl e)
      · exact .inl (HI.out.pb k e).1
      · exact bi (.inr e)
    exact ((b4.mono (fun k e => (.inl e : O k ∨ k = g ∨ w.heap.size ≤ k))).trans (HE2.out.mono (fun k e => (.inr (.inl e) : O k ∨ k = g ∨ w.heap.size ≤ k))) (fun _ _ e => e)).trans (s5.mono (fun k e => (.inr (.inl e) : O k ∨ k = g ∨ w.heap.size ≤ k))) (fun _ _ e => e)
end Go.Proofs.YtndleeafkepdjaaGreat

/- Lines: the whole state of a source. -/
namespace Go.Proofs.YtndleeafkepdjaaGreat
open Go.RowKit
set_option linter.unusedSimpArgs false in
set_option maxRecDepth 100000 in
set_option maxHeartbeats 8000000 in
theorem whole_any (y : SS) (far : List UInt8) (g : Nat) (o i b f : Value) (T : TypeId) (v : Value) (P : Nat → Prop) (w : World) (h : Src w g y o i b (.iface T v) f) (hs : SIn w P y o i b) (hf : Sl w f far) (hl : y.inn.length + far.length ≤ 1099511627776) :
    Calls Tryz.prog 186 #[.pointer (some ⟨g, 0, none⟩)] w fun e w' => ∃ i', e = .returned (.agg #[.bool (y.wh far).rd, .bool (y.wh far).wt, .int .i64 (y.wh far).mode, .int .i64 (y.wh far).size, o, i', b, .int .i64 (y.wh far).dir, .bool (y.wh far).fin, .bool (y.wh far).bad, .bool (y.wh far).closed]) ∧ w'.ownsRow w.heap.size 5 1 i' (y.inn.length + far.length) ((y.inn ++ far).map bv) ∧ Below w.heap.size w w' := by
  obtain ⟨oa, oc, rfl, -⟩ := hs.so
  obtain ⟨ia, ic, rfl, -⟩ := hs.si
  obtain ⟨ba, bc, rfl, -⟩ := hs.sb
  have hf' := hf
  obtain ⟨fa, fc, rfl, -⟩ := hf'
  have HS := hide h
  have hB0 := (recv_below w (Obj.cells #[.bool false, .bool false, .int .i64 0, .int .i64 0, .slice none 0 0, .slice none 0 0, .slice none 0 0, .int .i64 0, .bool false, .bool false, .bool false] 55)).trans ((recv_below (w.alloc (Obj.cells #[.bool false, .bool false, .int .i64 0, .int .i64 0, .slice none 0 0, .slice none 0 0, .slice none 0 0, .int .i64 0, .bool false, .bool false, .bool false] 55)) (Obj.cells #[.bool y.rd, .bool y.wt, .int .i64 y.mode, .int .i64 y.size, .slice oa y.out.length oc, .slice ia y.inn.length ic, .slice ba y.back.length bc, .int .i64 y.dir, .bool y.fin, .bool y.bad, .bool y.closed] 55)).mono (recv_below w (Obj.cells #[.bool false, .bool false, .int .i64 0, .int .i64 0, .slice none 0 0, .slice none 0 0, .slice none 0 0, .int .i64 0, .bool false, .bool false, .bool false] 55)).size)
  have hst : StAt ((w.alloc (Obj.cells #[.bool false, .bool false, .int .i64 0, .int .i64 0, .slice none 0 0, .slice none 0 0, .slice none 0 0, .int .i64 0, .bool false, .bool false, .bool false] 55)).alloc (Obj.cells #[.bool y.rd, .bool y.wt, .int .i64 y.mode, .int .i64 y.size, .slice oa y.out.length oc, .slice ia y.inn.length ic, .slice ba y.back.length bc, .int .i64 y.dir, .bool y.fin, .bool y.bad, .bool y.closed] 55)) (w.heap.size + 1) y (.slice oa y.out.length oc) (.slice ia y.inn.length ic) (.slice ba y.back.length bc) := by
    have := StAt.new (w.alloc (Obj.cells #[.bool false, .bool false, .int .i64 0, .int .i64 0, .slice none 0 0, .slice none 0 0, .slice none 0 0, .int .i64 0, .bool false, .bool false, .bool false] 55)) y (.slice oa y.out.length oc) (.slice ia y.inn.length ic) (.slice ba y.back.length bc)
    rw [show (w.alloc (Obj.cells #[.bool false, .bool false, .int .i64 0, .int .i64 0, .slice none 0 0, .slice none 0 0, .slice none 0 0, .int .i64 0, .bool false, .bool false, .bool false] 55)).heap.size = w.heap.size + 1 from Array.size_push ..] at this
    exact this
  have hz0 : ((w.alloc (Obj.cells #[.bool false, .bool false, .int .i64 0, .int .i64 0, .slice none 0 0, .slice none 0 0, .slice none 0 0, .int .i64 0, .bool false, .bool false, .bool false] 55)).alloc (Obj.cells #[.bool y.rd, .bool y.wt, .int .i64 y.mode, .int .i64 y.size, .slice oa y.out.length oc, .slice ia y.inn.length ic, .slice ba y.back.length bc, .int .i64 y.dir, .bool y.fin, .bool y.bad, .bool y.closed] 55)).heap[w.heap.size]? = some (Obj.cells #[.bool false, .bool false, .int .i64 0, .int .i64 0, .slice none 0 0, .slice none 0 0, .slice none 0 0, .int .i64 0, .bool false, .bool false, .bool false] 55) := by
    rw [(recv_below (w.alloc (Obj.cells #[.bool false, .bool false, .int .i64 0, .int .i64 0, .slice none 0 0, .slice none 0 0, .slice none 0 0, .int .i64 0, .bool false, .bool false, .bool false] 55)) (Obj.cells #[.bool y.rd, .bool y.wt, .int .i64 y.mode, .int .i64 y.size, .slice oa y.out.length oc, .slice ia y.inn.length ic, .slice ba y.back.length bc, .int .i64 y.dir, .bool y.fin, .bool y.bad, .bool y.closed] 55)).block w.heap.size (by rw [show (w.alloc (Obj.cells #[.bool false, .bool false, .int .i64 0, .int .i64 0, .slice none 0 0, .slice none 0 0, .slice none 0 0, .int .i64 0, .bool false, .bool false, .bool false] 55)).heap.size = w.heap.size + 1 from Array.size_push ..]; omega)]
    exact heap_alloc_new w (Obj.cells #[.bool false, .bool false, .int .i64 0, .int .i64 0, .slice none 0 0, .slice none 0 0, .slice none 0 0, .int .i64 0, .bool false, .bool false, .bool false] 55)
  obtain ⟨c0, c1, c2, c3, c4, c5, c6, c7, c8, c9, c10, c11, c12⟩ := (h.below (recv_below w (Obj.cells #[.bool false, .bool false, .int .i64 0, .int .i64 0, .slice none 0 0, .slice none 0 0, .slice none 0 0, .int .i64 0, .bool false, .bool false, .bool false] 55))).cs
  have HSi := hide hs
  have HFl := hide hf
  have HL := hide hl
  have HZ0 := hide hz0
  have HSt := hide hst
  have HB0 := hide hB0
  clear h hs hf hl hz0 hst hB0
  go_enter Tryz.func186, Tryz.ntmps186
  go_upto_region 2 with fail
  clear c0 c1 c2 c3 c4 c5 c6 c7 c8 c9 c10 c11 c12
  generalize (w.alloc (Obj.cells #[.bool false, .bool false, .int .i64 0, .int .i64 0, .slice none 0 0, .slice none 0 0, .slice none 0 0, .int .i64 0, .bool false, .bool false, .bool false] 55)).alloc (Obj.cells #[.bool y.rd, .bool y.wt, .int .i64 y.mode, .int .i64 y.size, .slice oa y.out.length oc, .slice ia y.inn.length ic, .slice ba y.back.length bc, .int .i64 y.dir, .bool y.fin, .bool y.bad, .bool y.closed] 55) = w0 at *
  have hz0 := HB0.out.size
  have hsl := HSt.out.lt
  have hgl := HS.out.lt
  obtain ⟨gs, hgs⟩ : ∃ gs, gs = w.heap.size + 1 := ⟨_, rfl⟩
  rw [← hgs] at HSt hsl ⊢
  have HGs : Hid (¬ g = gs) := hide (by omega)
  have HG1 : Hid (gs = w.heap.size + 1 ∧ gs < w0.heap.size) := hide ⟨hgs, hsl⟩
  have HSn : Hid (∀ W, Below w0.heap.size w0 W → (fun W => Src W g y (.slice oa y.out.length oc) (.slice ia y.inn.length ic) (.slice ba y.back.length bc) (.iface T v) (.slice fa far.length fc)) W) := hide (fun W hW => (HS.out.below HB0.out).below hW)
  have HC := hide (lconcat_any (.slice ia y.inn.length ic) (.slice fa far.length fc) y.inn far w0.heap.size (w0.drew.alloc (Obj.cells #[.slice ia y.inn.length ic, .slice fa far.length fc] 40)) (cell_of_row _ w0.heap.size 0 _ _ _ (heap_alloc_new w0.drew (Obj.cells #[.slice ia y.inn.length ic, .slice fa far.length fc] 40))) (cell_of_row _ w0.heap.size 1 _ _ _ (heap_alloc_new w0.drew (Obj.cells #[.slice ia y.inn.length ic, .slice fa far.length fc] 40))) (HSi.out.si.turned (Turned.of_below (S := fun _ => False) (HB0.out.trans (((Below.refl _ w0).drew.trans (recv_below w0.drew (Obj.cells #[.slice ia y.inn.length ic, .slice fa far.length fc] 40))).mono hz0))) (fun _ _ _ => id)) (HFl.out.turned (Turned.of_below (S := fun _ => False) (HB0.out.trans (((Below.refl _ w0).drew.trans (recv_below w0.drew (Obj.cells #[.slice ia y.inn.length ic, .slice fa far.length fc] 40))).mono hz0))) (fun _ _ _ => id)) HL.out)
  clear hgs hsl hgl
  go_cut [] (fun wx => ∃ (ua : Option Addr) (uc : Nat), Hid (∃ w5 : World, w5.ownsRow (w0.drew.alloc (Obj.cells #[.slice ia y.inn.length ic, .slice fa far.length fc] 40)).heap.size 5 1 (.slice ua (y.inn.length + far.length) uc) (y.inn.length + far.length) ((y.inn ++ far).map bv) ∧ Below w0.heap.size w0 w5 ∧ StAt wx gs (y.wh far) (.slice oa y.out.length oc) (.slice ua (y.inn.length + far.length) uc) (.slice ba y.back.length bc) ∧ Turned (fun k => k = gs) w5 wx))
  case first =>
    refine wp_region_noPanic ?_
    refine wp_region_held_drew (S := fun W => Src W g y (.slice oa y.out.length oc) (.slice ia y.inn.length ic) (.slice ba y.back.length bc) (.iface T v) (.slice fa far.length fc)) (by kernel_rfl) (HSn.out _ (Below.refl _ _).drew) (fun hHeld => ?_)
    refine wpAnyH_take (i := 0) (oi := ?_) (v := ?_) ?_ (by kernel_rfl) (by kernel_rfl) (by kernel_rfl) (fun _ _ _ h => (h : False).elim) (Or.inl ⟨?_, ?_⟩) hHeld ?_
    rotate_left 2
    · (simp only [List.getElem?_toArray, List.getElem?_cons_zero]; rfl)
    · rfl
    · (intro W hSw; obtain ⟨m0, m1, m2, m3, m4, m5, m6, m7, m8, m9, m10, m11, m12⟩ := hSw.cs; go_simp <;> with_reducible rfl)
    try simp only [Act.put, List.setIfInBounds_toArray, List.set_cons_zero, List.set_cons_succ]
    refine wpAnyH_take (i := 1) (oi := ?_) (v := ?_) ?_ (by kernel_rfl) (by kernel_rfl) (by kernel_rfl) (fun _ _ _ h => (h : False).elim) (Or.inl ⟨?_, ?_⟩) hHeld ?_
    rotate_left 2
    · (simp only [List.getElem?_toArray, List.getElem?_cons_zero, List.getElem?_cons_succ]; rfl)
    · rfl
    · (intro W hSw; obtain ⟨m0, m1, m2, m3, m4, m5, m6, m7, m8, m9, m10, m11, m12⟩ := hSw.cs; go_simp <;> with_reducible rfl)
    try simp only [Act.put, List.setIfInBounds_toArray, List.set_cons_zero, List.set_cons_succ]
    refine wpAnyH_take (i := 2) (oi := ?_) (v := ?_) ?_ (by kernel_rfl) (by kernel_rfl) (by kernel_rfl) (fun _ _ _ h => (h : False).elim) (Or.inl ⟨?_, ?_⟩) hHeld ?_
    rotate_left 2
    · (simp only [List.getElem?_toArray, List.getElem?_cons_zero, List.getElem?_cons_succ]; rfl)
    · rfl
    · (intro W hSw; obtain ⟨m0, m1, m2, m3, m4, m5, m6, m7, m8, m9, m10, m11, m12⟩ := hSw.cs; go_simp <;> with_reducible rfl)
    try simp only [Act.put, List.setIfInBounds_toArray, List.set_cons_zero, List.set_cons_succ]
    refine wpAnyH_take (i := 3) (oi := ?_) (v := ?_) ?_ (by kernel_rfl) (by kernel_rfl) (by kernel_rfl) (fun _ _ _ h => (h : False).elim) (Or.inl ⟨?_, ?_⟩) hHeld ?_
    rotate_left 2
    · (simp only [List.getElem?_toArray, List.getElem?_cons_zero, List.getElem?_cons_succ]; rfl)
    · rfl
    · (intro W hSw; obtain ⟨m0, m1, m2, m3, m4, m5, m6, m7, m8, m9, m10, m11, m12⟩ := hSw.cs; go_simp <;> with_reducible rfl)
    try simp only [Act.put, List.setIfInBounds_toArray, List.set_cons_zero, List.set_cons_succ]
    refine wpAnyH_take (i := 4) (oi := ?_) (v := ?_) ?_ (by kernel_rfl) (by kernel_rfl) (by kernel_rfl) (fun _ _ _ h => (h : False).elim) (Or.inl ⟨?_, ?_⟩) hHeld ?_
    rotate_left 2
    · (simp only [List.getElem?_toArray, List.getElem?_cons_zero, List.getElem?_cons_succ]; rfl)
    · rfl
    · (intro W hSw; obtain ⟨m0, m1, m2, m3, m4, m5, m6, m7, m8, m9, m10, m11, m12⟩ := hSw.cs; go_simp <;> with_reducible rfl)
    try simp only [Act.put, List.setIfInBounds_toArray, List.set_cons_zero, List.set_cons_succ]
    refine wpAnyH_take (i := 5) (oi := ?_) (v := ?_) ?_ (by kernel_rfl) (by kernel_rfl) (by kernel_rfl) (fun _ _ _ h => (h : False).elim) (Or.inl ⟨?_, ?_⟩) hHeld ?_
    rotate_left 2
    · (simp only [List.getElem?_toArray, List.getElem?_cons_zero, List.getElem?_cons_succ]; rfl)
    · rfl
    · (intro W hSw; obtain ⟨m0, m1, m2, m3, m4, m5, m6, m7, m8, m9, m10, m11, m12⟩ := hSw.cs; go_simp <;> with_reducible rfl)
    try simp only [Act.put, List.setIfInBounds_toArray, List.set_cons_zero, List.set_cons_succ]
    refine wpAnyH_take (i := 6) (oi := ?_) (v := ?_) ?_ (by kernel_rfl) (by kernel_rfl) (by kernel_rfl) (fun _ _ _ h => (h : False).elim) (Or.inl ⟨?_, ?_⟩) hHeld ?_
    rotate_left 2
    · (simp only [List.getElem?_toArray, List.getElem?_cons_zero, List.getElem?_cons_succ]; rfl)
    · rfl
    · (intro W hSw; obtain ⟨m0, m1, m2, m3, m4, m5, m6, m7, m8, m9, m10, m11, m12⟩ := hSw.cs; go_simp <;> with_reducible rfl)
    try simp only [Act.put, List.setIfInBounds_toArray, List.set_cons_zero, List.set_cons_succ]
    refine wpAnyH_take (i := 7) (oi := ?_) (v := ?_) ?_ (by kernel_rfl) (by kernel_rfl) (by kernel_rfl) (fun _ _ _ h => (h : False).elim) (Or.inl ⟨?_, ?_⟩) hHeld ?_
    rotate_left 2
    · (simp only [List.getElem?_toArray, List.getElem?_cons_zero, List.getElem?_cons_succ]; rfl)
    · rfl
    · (intro W hSw; obtain ⟨m0, m1, m2, m3, m4, m5, m6, m7, m8, m9, m10, m11, m12⟩ := hSw.cs; go_simp <;> with_reducible rfl)
    try simp only [Act.put, List.setIfInBounds_toArray, List.set_cons_zero, List.set_cons_succ]
    refine wpAnyH_take (i := 8) (oi := ?_) (v := ?_) ?_ (by kernel_rfl) (by kernel_rfl) (by kernel_rfl) (fun _ _ _ h => (h : False).elim) (Or.inl ⟨?_, ?_⟩) hHeld ?_
    rotate_left 2
    · (simp only [List.getElem?_toArray, List.getElem?_cons_zero, List.getElem?_cons_succ]; rfl)
    · rfl
    · (intro W hSw; obtain ⟨m0, m1, m2, m3, m4, m5, m6, m7, m8, m9, m10, m11, m12⟩ := hSw.cs; go_simp <;> with_reducible rfl)
    try simp only [Act.put, List.setIfInBounds_toArray, List.set_cons_zero, List.set_cons_succ]
    refine wpAnyH_ready (rs := [9]) (by kernel_rfl) (by simp) ?_
    refine AllReadyH.cons (o := ?_) ?_ (fun K' hK => ?_) AllReadyH.nil
    rotate_left 1
    · (simp only [List.getElem?_toArray, List.getElem?_cons_zero, List.getElem?_cons_succ]; rfl)
    go_simp
    refine hK.out _ _ (HSn.out _ ((Below.refl _ w0).drew.trans (recv_below w0.drew (Obj.cells #[.slice ia y.inn.length ic, .slice fa far.length fc] 40)))) (fun hHeld2 => ?_)
    clear hK K' hHeld
    have hHeld := hHeld2
    clear hHeld2
    try simp only [Act.put, List.setIfInBounds_toArray, List.set_cons_zero, List.set_cons_succ]
    refine wpAnyH_ready (rs := [10]) (by kernel_rfl) (by simp) ?_
    refine AllReadyH.cons (o := ?_) ?_ (fun K' hK => ?_) AllReadyH.nil
    rotate_left 1
    · (simp only [List.getElem?_toArray, List.getElem?_cons_zero, List.getElem?_cons_succ]; rfl)
    go_simp
    go_at_call 214
    refine HC.out.mono ?_
    rintro _ w5' ⟨u, rfl, hO5, hB5⟩
    obtain ⟨ua, uc, rfl⟩ := owns_slice hO5
    have hB05 := ((Below.refl _ w0).drew.trans (recv_below w0.drew (Obj.cells #[.slice ia y.inn.length ic, .slice fa far.length fc] 40))).trans (hB5.mono (recv_below w0.drew (Obj.cells #[.slice ia y.inn.length ic, .slice fa far.length fc] 40)).size)
    have h9 := HSn.out w5' hB05
    refine hK.out _ _ (h9) (fun hHeld2 => ?_)
    clear hK K' hHeld
    have hHeld := hHeld2
    clear hHeld2
    try simp only [Act.put, List.setIfInBounds_toArray, List.set_cons_zero, List.set_cons_succ]
    have hst5 := HSt.out.below hB05
    obtain ⟨z0', z1', z2', z3', z4', z5', z6', z7', z8', z9', z10'⟩ := hst5.cs
    have y5' := hst5.soft 5
    have HU := hide hO5
    have HB5 := hide hB05
    have HS5 := hide hst5
    clear hst5 hO5 hB5 hB05
    refine wpAnyH_take (i := 11) (oi := ?_) (v := ?_) ?_ (by kernel_rfl) (by kernel_rfl) (by kernel_rfl) (fun _ _ _ h => (h : False).elim) (Or.inl ⟨?_, ?_⟩) hHeld ?_
    rotate_left 2
    · (simp only [List.getElem?_toArray, List.getElem?_cons_zero, List.getElem?_cons_succ]; rfl)
    · rfl
    · (intro W hSw; obtain ⟨m0, m1, m2, m3, m4, m5, m6, m7, m8, m9, m10, m11, m12⟩ := hSw.cs; go_simp <;> with_reducible rfl)
    try simp only [Act.put, List.setIfInBounds_toArray, List.set_cons_zero, List.set_cons_succ]
    refine wpAnyH_ready (rs := [12]) (by kernel_rfl) (by simp) ?_
    refine AllReadyH.cons (o := ?_) ?_ (fun K' hK => ?_) AllReadyH.nil
    rotate_left 1
    · (simp only [List.getElem?_toArray, List.getElem?_cons_zero, List.getElem?_cons_succ]; rfl)
    go_simp
    refine hK.out _ _ (h9.turned ((Turned.refl (fun k => k = gs) w5').set (.inl rfl)) HGs.out) (fun hHeld2 => ?_)
    clear hK K' hHeld
    have hHeld := hHeld2
    clear hHeld2
    try simp only [Act.put, List.setIfInBounds_toArray, List.set_cons_zero, List.set_cons_succ]
    refine wpAnyH_done (by kernel_rfl) ?_ _
    refine NoPanic.normal ?_
    clear hHeld h9 z0' z1' z2' z3' z4' z5' z6' z7' z8' z9' z10' y5'
    go_wp2
    go_meet
    exact ⟨ua, uc, hide ⟨_, HU.out, HB5.out, (by have e := Go.heap_setCell_same w5' gs 5 _ _ (.slice ua (y.inn.length + far.length) uc) HS5.out; simp only [List.setIfInBounds_toArray, List.set_cons_zero, List.set_cons_succ] at e; exact e), (Turned.refl (fun k => k = gs) w5').set (.inl rfl)⟩⟩
  case rest =>
    obtain ⟨ua, uc, HX⟩ := hcut
    clear HC HSn
    obtain ⟨w5, x1, x2, x3, x4⟩ := HX.out
    have hz5 := x2.size
    have HZ5 : Hid (wc.heap[w.heap.size]? = some (Obj.cells #[.bool false, .bool false, .int .i64 0, .int .i64 0, .slice none 0 0, .slice none 0 0, .slice none 0 0, .int .i64 0, .bool false, .bool false, .bool false] 55)) := hide ((x4.block w.heap.size (by have := HG1.out; omega) (fun e => by have : w.heap.size = gs := e; have := HG1.out; omega)).trans ((x2.block w.heap.size (by have := HG1.out; omega)).trans HZ0.out))
    obtain ⟨c0, c1, c2, c3, c4, c5, c6, c7, c8, c9, c10⟩ := x3.cs
    have z0 := cell_of_row wc w.heap.size 0 _ _ _ HZ5.out
    have f0 := frozen_of_row wc w.heap.size 0 _ _ HZ5.out
    have z1 := cell_of_row wc w.heap.size 1 _ _ _ HZ5.out
    have f1 := frozen_of_row wc w.heap.size 1 _ _ HZ5.out
    have z2 := cell_of_row wc w.heap.size 2 _ _ _ HZ5.out
    have f2 := frozen_of_row wc w.heap.size 2 _ _ HZ5.out
    have z3 := cell_of_row wc w.heap.size 3 _ _ _ HZ5.out
    have f3 := frozen_of_row wc w.heap.size 3 _ _ HZ5.out
    have z4 := cell_of_row wc w.heap.size 4 _ _ _ HZ5.out
    have f4 := frozen_of_row wc w.heap.size 4 _ _ HZ5.out
    have z5 := cell_of_row wc w.heap.size 5 _ _ _ HZ5.out
    have f5 := frozen_of_row wc w.heap.size 5 _ _ HZ5.out
    have z6 := cell_of_row wc w.heap.size 6 _ _ _ HZ5.out
    have f6 := frozen_of_row wc w.heap.size 6 _ _ HZ5.out
    have z7 := cell_of_row wc w.heap.size 7 _ _ _ HZ5.out
    have f7 := frozen_of_row wc w.heap.size 7 _ _ HZ5.out
    have z8 := cell_of_row wc w.heap.size 8 _ _ _ HZ5.out
    have f8 := frozen_of_row wc w.heap.size 8 _ _ HZ5.out
    have z9 := cell_of_row wc w.heap.size 9 _ _ _ HZ5.out
    have f9 := frozen_of_row wc w.heap.size 9 _ _ HZ5.out
    have z10 := cell_of_row wc w.heap.size 10 _ _ _ HZ5.out
    have f10 := frozen_of_row wc w.heap.size 10 _ _ HZ5.out
    simp at z0 z1 z2 z3 z4 z5 z6 z7 z8 z9 z10
    clear x1 x2 x3 x4 hz5
    go_wp2
    obtain ⟨e1, e2⟩ := st_fill wc w.heap.size (y.wh far) (.slice oa y.out.length oc) (.slice ua (y.inn.length + far.length) uc) (.slice ba y.back.length bc) HZ5.out
    refine bodyPost_ret (results_cell_row rfl _ _ w.heap.size _ _ _ _ rfl e1 Tryz.underlying55 rfl (by kernel_rfl)) rfl ?_
    obtain ⟨w5, x1, x2, x3, x4⟩ := HX.out
    have g1 := HG1.out
    have hz1 : w0.heap.size < (w0.drew.alloc (Obj.cells #[.slice ia y.inn.length ic, .slice fa far.length fc] 40)).heap.size := (Array.getElem?_eq_some_iff.1 (heap_alloc_new w0.drew (Obj.cells #[.slice ia y.inn.length ic, .slice fa far.length fc] 40))).1
    have hz5 := x2.size
    have hT2 : Turned (fun k => w.heap.size ≤ k ∧ k < w0.heap.size) w5 _ := (x4.mono (fun k e => (by have : k = gs := e; omega : w.heap.size ≤ k ∧ k < w0.heap.size))).trans (e2.mono (fun k e => (by have : k = w.heap.size := e; omega : w.heap.size ≤ k ∧ k < w0.heap.size))) (fun _ _ e => e)
    refine ⟨_, rfl, owns_mono (owns_turned x1 hT2 (fun k e e3 => by have := (x1.lt k e).1; omega)) (by omega), (HB0.out.trans (x2.mono hz0)).trans (hT2.below (B := w.heap.size) (fun k e => e.1) (by omega))⟩
end Go.Proofs.YtndleeafkepdjaaGreat

/- Lines: whether it is enough; a source that other blocks leave alone. -/
namespace Go.Proofs.YtndleeafkepdjaaGreat
open Go.RowKit
theorem lu8_eq (a b : UInt8) : ((a.toNat : Int) == (b.toNat : Int)) = decide (a = b) := by
  by_cases h : a = b
  · subst h; simp
  · have : ¬ a.toNat = b.toNat := fun e => h (UInt8.toNat_inj.1 e)
    rw [decide_eq_false h, beq_eq_false_iff_ne]
    omega
set_option maxRecDepth 100000 in
set_option maxHeartbeats 4000000 in
theorem enough_any (acc : List UInt8) (a : Option Addr) (c q1 q2 : Nat) (limit : Int) (d : UInt8) (w : World) (hb : Bys w (.slice a acc.length c) acc) (hl : acc.length ≤ 1048576) (h1 : w.cell? ⟨q1, 0, none⟩ = some (.int .i64 limit)) (h2 : w.cell? ⟨q2, 0, none⟩ = some (.int .u8 (d.toNat : Int))) :
    Calls Tryz.prog 182 #[.slice a acc.length c, .pointer (some ⟨q1, 0, none⟩), .pointer (some ⟨q2, 0, none⟩)] w fun e w' => e = .returned (.bool (stopU d limit acc)) ∧ Below w.heap.size w w' := by
  generalize hr : stopU d limit acc = r
  unfold stopU at hr
  by_cases h0 : (acc.length : Int) = limit
  · have HR : Hid (true = r) := hide (by rw [← hr, decide_eq_true h0]; rfl)
    have e1 : ((acc.length : Int) == limit) = true := by simp [h0]
    clear hr h0 hb
    go_enter Tryz.func182, Tryz.ntmps182
    go_wp2
    go_quiet (fail)
    go_wp2
    go_ret
    exact ⟨by rw [← HR.out]; rfl, drewN_below _ _⟩
  have e1 : ((acc.length : Int) == limit) = false := by simp [h0]
  rw [decide_eq_false h0, Bool.false_or] at hr
  by_cases h3 : 0 < acc.length
  · obtain ⟨-, qb, qo, rfl, hqb, hc⟩ := bys_block hb h3
    have d1 := hc (acc.length - 1) (by omega)
    have e2 : decide (0 < acc.length) = true := decide_eq_true h3
    have e3 : wrap64 ((acc.length : Int) - 1) = ((acc.length - 1 : Nat) : Int) := by unfold wrap64; omega
    have e3' : IntKind.i64.wrap ((acc.length : Int) - 1) = ((acc.length - 1 : Nat) : Int) := by rw [IntKind.wrap_i64]; omega
    have e4 : ((acc.length - 1 : Nat) : Int) < (acc.length : Int) := by omega
    have e4' : acc.length - 1 < acc.length := by omega
    have e5 := lu8_eq (acc.getD (acc.length - 1) 0) d
    have HR : Hid (decide (acc.getD (acc.length - 1) 0 = d) = r) := hide (by rw [← hr, decide_eq_true h3, Bool.true_and])
    rw [HR.out] at e5
    generalize acc.getD (acc.length - 1) 0 = z at *
    generalize hk : acc.length - 1 = k at *
    clear hr h0 hb hc h3 HR hk
    go_enter Tryz.func182, Tryz.ntmps182
    go_wp2
    go_quiet (fail)
    go_wp2
    go_ret
    exact ⟨by rw [← e5]; rfl, drewN_below _ _⟩
  · have HR : Hid (false = r) := hide (by rw [← hr, decide_eq_false h3]; rfl)
    have e2 : decide (0 < acc.length) = false := decide_eq_false h3
    clear hr h0 hb h3
    go_enter Tryz.func182, Tryz.ntmps182
    go_wp2
    go_quiet (fail)
    go_wp2
    go_ret
    exact ⟨by rw [← HR.out]; rfl, drewN_below _ _⟩
def OffS (k : Nat) (O : Nat → Prop) (g : Nat) (o i b f : Value) : Prop := ¬ O k ∧ k ≠ g ∧ o.ownBlock ≠ some k ∧ i.ownBlock ≠ some k ∧ b.ownBlock ≠ some k ∧ f.ownBlock ≠ some k
theorem SrcOn.turned {S : Type} {At : World → (Nat → Prop) → S → Prop} (hT : ∀ s, OAt (fun w O => At w O s)) {W W' : World} {Q O : Nat → Prop} {s : S} {B g : Nat} {y : SS} {far : List UInt8} {o i b r f : Value} (h : SrcOn At W O s B g y far o i b r f) (t : Turned Q W W') (hQ : ∀ k, k < W.heap.size → Q k → OffS k O g o i b f) : SrcOn At W' O s B g y far o i b r f := by
  have hz := t.size
  refine ⟨h.src.turned t (fun e => (hQ g h.src.lt e).2.1 rfl), ?_, h.fl.turned t (fun k e hk e2 => (hQ k hk e2).2.2.2.2.2 e), fun k e => ?_, (hT s).keep h.raw (fun j e hj => t.block j hj (fun e2 => (hQ j hj e2).1 e)) hz, h.og, h.gB, fun j e => Nat.lt_of_lt_of_le (h.ol j e) hz, h.nr⟩
  · exact ⟨h.ls.so.turned t (fun k e hk e2 => (hQ k hk e2).2.2.1 e), h.ls.si.turned t (fun k e hk e2 => (hQ k hk e2).2.2.2.1 e), h.ls.sb.turned t (fun k e hk e2 => (hQ k hk e2).2.2.2.2.1 e), fun k e => ⟨(h.ls.po k e).1, (h.ls.po k e).2.1, (h.ls.po k e).2.2.1, Nat.lt_of_lt_of_le (h.ls.po k e).2.2.2 hz⟩, fun k e => ⟨(h.ls.pi k e).1, (h.ls.pi k e).2.1, (h.ls.pi k e).2.2.1, Nat.lt_of_lt_of_le (h.ls.pi k e).2.2.2 hz⟩, fun k e => ⟨(h.ls.pb k e).1, (h.ls.pb k e).2.1, (h.ls.pb k e).2.2.1, Nat.lt_of_lt_of_le (h.ls.pb k e).2.2.2 hz⟩⟩
  · exact ⟨(h.fp k e).1, (h.fp k e).2.1, (h.fp k e).2.2.1, Nat.lt_of_lt_of_le (h.fp k e).2.2.2 hz⟩
theorem SrcOn.below {S : Type} {At : World → (Nat → Prop) → S → Prop} (hT : ∀ s, OAt (fun w O => At w O s)) {W W' : World} {O : Nat → Prop} {s : S} {B g : Nat} {y : SS} {far : List UInt8} {o i b r f : Value} (h : SrcOn At W O s B g y far o i b r f) (hB : Below W.heap.size W W') : SrcOn At W' O s B g y far o i b r f := h.turned hT (Turned.of_below (S := fun _ => False) hB) (fun _ _ e => e.elim)
theorem bear_down {S : Type} {D : RawD S} {rok wok : S → Prop} {G : Nat → S → Prop} (hG : Bears D rok wok G) : ∀ a b s, G (a + b) s → G b s
  | 0, b, s, h => by rwa [Nat.zero_add] at h
  | a + 1, b, s, h => bear_down hG a b s (hG.less _ s (by rwa [show a + 1 + b = a + b + 1 by omega] at h))
end Go.Proofs.YtndleeafkepdjaaGreat
