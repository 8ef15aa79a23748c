/- What the proof stands on, part 8: the contracts of the program's calls that it reaches. -/
import Derived.Test.YtcmfpafcipgejaaGreatDoorKB7
import Derived.KernelRfl
import Derived.Lib.SlBytesConst
/- Scan: a pattern is read from a source. -/
namespace Go.Proofs.YtcmfpafcipgejaaGreatDoor
open Go.RowKit
theorem run_append_arg1 (w : World) (ty : TypeId) (base : Nat) (s : Value) (m : List Ag) (a : Ag) (hs : w.ownsRow base 42 4 s m.length (m.flatMap agC)) (hn : (m.length + 1) * 40 ≤ 140737488355328) (hb : base ≤ w.heap.size) :
    ∃ s' w', (Builtin.append_ #[24, 24] ty #[s, .slice (some ⟨w.heap.size, 0, none⟩) 1 1]).run Tryz.prog (w.alloc (Obj.cells #[.int .i64 a.kind, .int .i64 a.int, .int .u64 a.uint, .string a.text] 42)) = .ok s' w' ∧ w'.ownsRow base 42 4 s' (m ++ [a]).length ((m ++ [a]).flatMap agC) ∧ (w.alloc (Obj.cells #[.int .i64 a.kind, .int .i64 a.int, .int .u64 a.uint, .string a.text] 42)).grownBy w' s.ownBlock ∧ (s'.ownBlock = s.ownBlock ∨ s'.ownBlock = some (w.alloc (Obj.cells #[.int .i64 a.kind, .int .i64 a.int, .int .u64 a.uint, .string a.text] 42)).heap.size) := by
  obtain ⟨i0, hi, hz0, hz1, hz2⟩ := info_parts Tryz.infoA
  rw [List.length_append, List.flatMap_append]
  have hs' := owns_below hs (fm_below w (Obj.cells #[.int .i64 a.kind, .int .i64 a.int, .int .u64 a.uint, .string a.text] 42))
  have hcell : ∀ j u, ([a].flatMap agC)[j]? = some u → (w.alloc (Obj.cells #[.int .i64 a.kind, .int .i64 a.int, .int .u64 a.uint, .string a.text] 42)).cell? ((⟨w.heap.size, 0, none⟩ : Addr).add j) = some u := by
    intro j u hj
    have hjl : j < 4 := (List.getElem?_eq_some_iff.1 hj).1
    have hadd : ∀ o k, (⟨w.heap.size, o, none⟩ : Addr).add k = ⟨w.heap.size, o + k, none⟩ := fun o k => by unfold Addr.add; split <;> simp_all
    rw [hadd, Nat.zero_add]
    have h0 := cell_of_row (w.alloc (Obj.cells #[.int .i64 a.kind, .int .i64 a.int, .int .u64 a.uint, .string a.text] 42)) w.heap.size j _ _ _ (heap_alloc_new w (Obj.cells #[.int .i64 a.kind, .int .i64 a.int, .int .u64 a.uint, .string a.text] 42))
    rw [h0]
    match j, hjl, hj with
    | 0, _, hj => cases hj; rfl
    | 1, _, hj => cases hj; rfl
    | 2, _, hj => cases hj; rfl
    | 3, _, hj => cases hj; rfl
  have hbz : base ≤ (w.alloc (Obj.cells #[.int .i64 a.kind, .int .i64 a.int, .int .u64 a.uint, .string a.text] 42)).heap.size := by have : (w.alloc (Obj.cells #[.int .i64 a.kind, .int .i64 a.int, .int .u64 a.uint, .string a.text] 42)).heap.size = w.heap.size + 1 := Array.size_push ..; omega
  obtain ⟨v', w', h1, h2, h3, _, h5⟩ := run_append_own_at (P := Tryz.prog) (w.alloc (Obj.cells #[.int .i64 a.kind, .int .i64 a.int, .int .u64 a.uint, .string a.text] 42)) base 24 ty 42 i0 (.agg #[.int .i64 0, .int .i64 0, .int .u64 0, .string ByteArray.empty]) 4 40 Tryz.underlying24 hi hz0 hz1 hz2 rfl (by decide) s _ _ hs' ⟨w.heap.size, 0, none⟩ 1 1 ([a].flatMap agC) rfl hcell (flat_one [a]) (by unfold maxLen; omega) (by omega) hbz
  exact ⟨v', w', h1, h2, h3, h5⟩
theorem readF_two {S : Type} (D : SrcD S) (N : Nat) : ∀ (k k2 : Nat) (l : List UInt8) (s : S) (aa : List Ag), l.length ≤ k → l.length ≤ k2 → readF D N k l s aa = readF D N k2 l s aa
  | 0, k2, l, s, aa, h, _ => by
    have : l = [] := List.length_eq_zero_iff.1 (by omega)
    subst this
    cases k2 <;> rfl
  | k + 1, k2, [], s, aa, _, _ => by cases k2 <;> rfl
  | k + 1, 0, c :: r, s, aa, _, h2 => absurd h2 (by simp)
  | k + 1, k2 + 1, c :: r, s, aa, h, h2 => by
    unfold readF
    split
    · rfl
    · rename_i q hq
      have hl := firstS_len hq
      have e : ((c :: r).drop q.len).length = r.length + 1 - q.len := by rw [List.length_drop]; rfl
      have g1 : r.length + 1 ≤ k + 1 := h
      have g2 : r.length + 1 ≤ k2 + 1 := h2
      split
      · rfl
      · split
        · rfl
        · exact readF_two D N k k2 _ _ _ (by omega) (by omega)
def readR {S : Type} (D : SrcD S) (N : Nat) (l : List UInt8) (s : S) (aa : List Ag) : Option ((List Ag × Int) × S) := readF D N l.length l s aa
theorem readR_step {S : Type} (D : SrcD S) (N : Nat) {l : List UInt8} {q : Pt} (h : firstS l = some q) (s : S) (aa : List Ag) {R : (List Ag × Int) × S} (hr : readR D N l s aa = some R) : ∃ a e s2, partV D N q s = some ((a, e), s2) ∧ ((e ≠ 0 ∧ R = ((aa, e), s2)) ∨ (e = 0 ∧ readR D N (l.drop q.len) s2 (if q.tells then aa ++ [a] else aa) = some R)) := by
  cases l with
  | nil => cases h
  | cons c r =>
    have hl := firstS_len h
    unfold readR at hr
    rw [List.length_cons] at hr
    unfold readF at hr
    rw [h] at hr
    simp only at hr
    cases hp : partV D N q s with
    | none => rw [hp] at hr; cases hr
    | some x =>
      obtain ⟨⟨a, e⟩, s2⟩ := x
      rw [hp] at hr
      simp only at hr
      refine ⟨a, e, s2, rfl, ?_⟩
      by_cases he : e = 0
      · rw [if_neg (by simp [he])] at hr
        refine .inr ⟨he, ?_⟩
        rw [← hr]
        exact readF_two D N _ _ _ _ _ (Nat.le_refl _) (by rw [List.length_drop]; simp only [List.length_cons]; omega)
      · rw [if_pos he] at hr
        exact .inl ⟨he, (Option.some.inj hr).symm⟩
theorem readR_none {S : Type} (D : SrcD S) (N : Nat) {l : List UInt8} (h0 : l ≠ []) (h : firstS l = none) (s : S) (aa : List Ag) : readR D N l s aa = none := by
  cases l with
  | nil => exact absurd rfl h0
  | cons c r =>
    unfold readR
    rw [List.length_cons]
    unfold readF
    rw [h]
def AStep {S : Type} (At : World → (Nat → Prop) → S → Prop) (w : World) (O : Nat → Prop) (s : S) (u : Value) (aa : List Ag) (w' : World) : Prop := ∃ O', (At w' O' s ∧ (∀ k, O' k → k < w'.heap.size) ∧ (∀ k, O' k → O k ∨ w.heap.size ≤ k) ∧ Turned O w w') ∧ w'.ownsRow w.heap.size 42 4 u aa.length (aa.flatMap agC) ∧ ∀ k, u.ownBlock = some k → ¬ O' k
def Rdg {S : Type} (At : World → (Nat → Prop) → S → Prop) (w0 : World) (O : Nat → Prop) (wr : World) (u : Value) (aa : List Ag) (s1 : S) (O1 : Nat → Prop) : Prop := wr.ownsRow w0.heap.size 42 4 u aa.length (aa.flatMap agC) ∧ At wr O1 s1 ∧ (∀ j, O1 j → j < wr.heap.size) ∧ Turned (fun j => O j ∨ w0.heap.size ≤ j) w0 wr ∧ (∀ j, O1 j → O j ∨ w0.heap.size ≤ j) ∧ ∀ k, u.ownBlock = some k → ¬ O1 k
theorem Rdg.below {S : Type} {D : SrcD S} {T : TypeId} {v : Value} {fn fb : FuncId} {K : Nat → Prop} {At : World → (Nat → Prop) → S → Prop} (R : SrcM D T v fn fb K At) {w0 wr W : World} {O O1 : Nat → Prop} {u : Value} {aa : List Ag} {s1 : S} (h : Rdg At w0 O wr u aa s1 O1) (hB : Below wr.heap.size wr W) : Rdg At w0 O W u aa s1 O1 := by
  obtain ⟨h1, h2, h3, h4, h5, h6⟩ := h
  exact ⟨owns_below h1 hB, R.keep h2 (fun j _ hl => hB.block j hl) hB.size, fun j e => Nat.lt_of_lt_of_le (h3 j e) hB.size, h4.trans (Turned.of_below (S := fun _ => False) hB) (fun _ _ e => e.elim), h5, h6⟩
theorem Rdg.part {S : Type} {At : World → (Nat → Prop) → S → Prop} {w0 wr W : World} {O O1 : Nat → Prop} {u : Value} {aa : List Ag} {s1 s2 : S} (h : Rdg At w0 O wr u aa s1 O1) (hS : SStep At none_ wr O1 s2 W) : ∃ O2, Rdg At w0 O W u aa s2 O2 := by
  obtain ⟨h1, h2, h3, h4, h5, h6⟩ := h
  obtain ⟨O2, g1, g2, g3, g4⟩ := hS
  have g4 : Turned O1 wr W := g4.mono (fun k e => e.elim id (fun e => e.elim))
  have hz := h4.size
  refine ⟨O2, owns_turned h1 g4 h6, g1, g2, h4.trans g4 (fun k _ e => h5 k e), fun j e => (g3 j e).elim (h5 j) (fun e => .inr (by omega)), fun k e e2 => (g3 k e2).elim (h6 k e) (fun e3 => by have := (h1.lt k e).2; omega)⟩
theorem Rdg.app {S : Type} {D : SrcD S} {T : TypeId} {v : Value} {fn fb : FuncId} {K : Nat → Prop} {At : World → (Nat → Prop) → S → Prop} (R : SrcM D T v fn fb K At) {w0 wr W : World} {O O1 : Nat → Prop} {u u' : Value} {aa : List Ag} {a : Ag} {s1 : S} (hK : ∀ j, K j → j < w0.heap.size) (h : Rdg At w0 O wr u aa s1 O1) (h2 : W.ownsRow w0.heap.size 42 4 u' (aa ++ [a]).length ((aa ++ [a]).flatMap agC)) (hg : (wr.alloc (Obj.cells #[.int .i64 a.kind, .int .i64 a.int, .int .u64 a.uint, .string a.text] 42)).grownBy W u.ownBlock) (hw : u'.ownBlock = u.ownBlock ∨ u'.ownBlock = some (wr.alloc (Obj.cells #[.int .i64 a.kind, .int .i64 a.int, .int .u64 a.uint, .string a.text] 42)).heap.size) : Rdg At w0 O W u' (aa ++ [a]) s1 O1 := by
  have hb := h.below R (fm_below wr (Obj.cells #[.int .i64 a.kind, .int .i64 a.int, .int .u64 a.uint, .string a.text] 42))
  obtain ⟨g1, g2, g3, g4, g5, g6⟩ := hb
  have hz := hg.size
  refine ⟨h2, R.keep g2 (fun j e hl => hg.block j hl (fun e2 => ?_)) hz, fun j e => Nat.lt_of_lt_of_le (g3 j e) hz, g4.grown hg (fun k e => .inl (.inr (g1.lt k e).1)), g5, fun k e e2 => ?_⟩
  · have e2 := e2.symm
    rcases e with e | e
    · exact g6 j e2 e
    · have := hK j e; have := (g1.lt j e2).1; omega
  · rcases hw with hw | hw
    · exact g6 k (hw ▸ e) e2
    · rw [hw] at e
      have := g3 k e2
      have := Option.some.inj e
      omega
theorem Rdg.end {S : Type} {At : World → (Nat → Prop) → S → Prop} {w w0 wr : World} {O O1 : Nat → Prop} {u : Value} {aa : List Ag} {s1 : S} (hB0 : Below w.heap.size w w0) (h : Rdg At w0 O wr u aa s1 O1) : AStep At w O s1 u aa wr := by
  obtain ⟨h1, h2, h3, h4, h5, h6⟩ := h
  have hz := hB0.size
  exact ⟨O1, ⟨h2, h3, fun k e => (h5 k e).imp id (fun e => by omega), (Turned.of_below (S := O) hB0).trans h4 (fun k hk e => e.resolve_right (by omega))⟩, owns_mono h1 hz, h6⟩
set_option maxRecDepth 100000 in
set_option maxHeartbeats 8000000 in
theorem sread_any {S : Type} {D : SrcD S} {T : TypeId} {v : Value} {fn fb : FuncId} {K : Nat → Prop} {At : World → (Nat → Prop) → S → Prop} (R : SrcM D T v fn fb K At) {w : World} {O : Nat → Prop} {s0 : S} (s : ByteArray) (N : Nat) {RR : (List Ag × Int) × S} (hs : s.size ≤ 65536) (hK : ∀ j, K j → j < w.heap.size) (h : At w O s0) (hO : ∀ j, O j → j < w.heap.size) (hr : readR D N s.data.toList s0 [] = some RR) :
    Calls Tryz.prog 24 #[.agg #[.iface T v], .string s] w fun e w' => ∃ u, e = .returned (.tuple #[u, .int .i64 RR.1.2]) ∧ AStep At w O RR.2 u RR.1.1 w' := by
  have HB0 := hide (fm_below w (Obj.cells #[.iface T v] 70))
  have hz0 : (w.alloc (Obj.cells #[.iface T v] 70)).heap.size = w.heap.size + 1 := Array.size_push ..
  have HZ0 := hide hz0
  have HW0 := hide (heap_alloc_new w (Obj.cells #[.iface T v] 70))
  have HA0 := hide (R.keep h (fun j _ hl => HB0.out.block j hl) HB0.out.size)
  have HO := hide (And.intro hO hK)
  have HR : Hid (readR D N (s.data.toList.drop 0) s0 [] = some RR) := hide (by rw [List.drop_zero]; exact hr)
  clear h hO hK hr hz0
  go_enter Tryz.func24, Tryz.ntmps24
  go_wp2_with fail
  generalize w.alloc (Obj.cells #[.iface T v] 70) = w0 at *
  have HG0 : Hid (Rdg At w0 O w0 (.slice none 0 0) [] s0 O) := hide ⟨World.ownsRow_nil _ _ _ _, HA0.out, fun j e => Nat.lt_of_lt_of_le (HO.out.1 j e) HB0.out.size, Turned.refl _ _, fun _ e => .inl e, fun k e => by simp [Value.ownBlock] at e⟩
  go_loopw [6, 7] (fun u i wr => ∃ (p : Nat) (aa : List Ag) (s1 : S) (O1 : Nat → Prop), p ≤ s.size ∧ aa.length ≤ p ∧ i = .int .i64 p ∧ Hid (readR D N (s.data.toList.drop p) s1 aa = some RR) ∧ Hid (Rdg At w0 O wr u aa s1 O1)) (fun _ i _ => s.size - (intOf i).toNat)
  case atStart => exact ⟨0, [], s0, O, Nat.zero_le _, Nat.le_refl _, rfl, HR, HG0⟩
  case round =>
    clear HA0 HR HG0
    obtain ⟨p, aa, s1, O1, hp, hal, rfl, HP, HG⟩ := hrel
    obtain ⟨ua, uc, rfl⟩ := owns_slice HG.out.1
    have HRd : Hid (∀ (W : World) (u : Value) (aa : List Ag) (s1 : S) (O1 : Nat → Prop), Rdg At w0 O W u aa s1 O1 → W.heap[w.heap.size]? = some (Obj.cells #[.iface T v] 70)) := hide (fun W u aa s1 O1 h => (h.2.2.2.1.block w.heap.size (by rw [HZ0.out]; omega) (fun e => by
      rcases e with e | e
      · have := HO.out.1 _ e; omega
      · rw [HZ0.out] at e; omega)).trans HW0.out)
    by_cases hlt : p < s.size
    · have hlt' : (p : Int) < (s.size : Int) := by omega
      have hel := str_dropE s p
      have hes := ext_size s p s.size (Nat.le_refl _)
      have HF := hide (fun W => sfirst_any (s.extract p s.size) W (by unfold maxLen; rw [hes]; omega) (by rw [hes]; omega))
      rw [hel] at HF
      have hne : s.data.toList.drop p ≠ [] := by rw [drop_at s p hlt]; simp
      cases hq : firstS (s.data.toList.drop p) with
      | none =>
        have := HP.out
        rw [readR_none D N hne hq] at this
        cases this
      | some q =>
        obtain ⟨a, e, s2, hpv, hpp⟩ := readR_step D N hq s1 aa HP.out
        have hl := firstS_len hq
        have hm := firstS_most hq
        rw [List.length_drop, show s.data.toList.length = s.size by rw [Array.length_toList]; rfl] at hl
        rw [hq] at HF
        unfold optP at HF
        simp only [Option.getD_some, Option.isSome_some] at HF
        obtain ⟨e1, e1'⟩ := wrap_sum p q.len (by omega)
        have hl1 := hl.1
        have hl2 : p + q.len ≤ s.size := by omega
        rw [List.drop_drop] at hpp
        have HQ := hide hpp
        have HPv := hide hpv
        have HT2 := hide (fun W => tells_any q W)
        unfold ptV at HF HT2
        clear hel hes hne hq hl hpp hpv HP
        go_wp2_with fail
        refine (HF.out _).mono ?_
        rintro _ w1 ⟨rfl, hB⟩
        have HUl := hide (fun k (e : (Value.slice ua aa.length uc).ownBlock = some k) => (by have := (HG.out.1.lt k e).2; have := hB.size; omega : k < w1.heap.size))
        have HOl := hide (fun (e : O1 w1.heap.size) => (by have := HG.out.2.2.1 _ e; have := hB.size; omega : False))
        have HGp := hide ((HG.out.below R hB).below R (fm_below w1 (Obj.cells #[.int .u8 (q.verb.toNat : Int), .int .u8 (q.want.toNat : Int), .bool q.quiet, .int .i64 (q.wd : Int), .int .i64 (q.len : Int)] 80)))
        have HPt := hide (show PtB (w1.alloc (Obj.cells #[.int .u8 (q.verb.toNat : Int), .int .u8 (q.want.toNat : Int), .bool q.quiet, .int .i64 (q.wd : Int), .int .i64 (q.len : Int)] 80)) w1.heap.size q from heap_alloc_new w1 _)
        have HX := hide (part_any R q N (fun j e => by have := HO.out.2 j e; have := HB0.out.size; have := HGp.out.2.2.2.1.size; omega) HGp.out.2.1 HGp.out.2.2.1 HPv.out hm)
        obtain ⟨x0, x1, x2, x3, x4⟩ := HPt.out.cs
        have y0 := cell_of_row _ w.heap.size 0 _ _ _ (HRd.out _ _ _ _ _ HGp.out)
        simp only [List.getElem?_toArray, List.getElem?_cons_zero] at y0
        unfold ptV at HX
        clear hB HG HF HPv hm
        go_wp2_with fail
        refine HX.out.mono ?_
        rintro _ w2 ⟨rfl, hS⟩
        have HP2 : Hid (PtB w2 w1.heap.size q) := hide ((hS.choose_spec.2.2.2.block w1.heap.size HPt.out.lt (fun e => e.elim HOl.out (fun e => e.elim))).trans HPt.out)
        obtain ⟨O2, hG2⟩ := HGp.out.part hS
        have HG2 := hide (hG2.below R (fm_below w2 (Obj.cells #[.int .i64 a.kind, .int .i64 a.int, .int .u64 a.uint, .string a.text] 42)))
        have HP3 := hide (HP2.out.below (fm_below w2 (Obj.cells #[.int .i64 a.kind, .int .i64 a.int, .int .u64 a.uint, .string a.text] 42)))
        have HA3 := hide (show ArgB (w2.alloc (Obj.cells #[.int .i64 a.kind, .int .i64 a.int, .int .u64 a.uint, .string a.text] 42)) w2.heap.size a from heap_alloc_new w2 _)
        clear hS hG2 HP2 HGp HX x0 x1 x2 x3 x4 y0 HPt
        obtain ⟨x0, x1, x2, x3, x4⟩ := HP3.out.cs
        unfold pairV agV
        rcases HQ.out with ⟨he, hre⟩ | ⟨he, hrr⟩
        · subst hre
          have he' : (e != 0) = true := by simp [he]
          clear HQ
          go_wp2
          go_ret2
          exact ⟨_, rfl, HG2.out.end HB0.out⟩
        · subst he
          have HQ3 := hide hrr
          clear hrr HQ
          generalize hb : q.tells = b at *
          clear hb
          cases b
          · go_wp2_with fail
            refine (HT2.out _).mono ?_
            rintro _ w3 ⟨rfl, hw3⟩
            have hB3 : Below (w2.alloc (Obj.cells #[.int .i64 a.kind, .int .i64 a.int, .int .u64 a.uint, .string a.text] 42)).heap.size (w2.alloc (Obj.cells #[.int .i64 a.kind, .int .i64 a.int, .int .u64 a.uint, .string a.text] 42)) w3 := by rw [hw3]; exact fm_below _ _
            have HG3 := hide (HG2.out.below R hB3)
            obtain ⟨z0, z1, z2, z3, z4⟩ := (HP3.out.below hB3).cs
            clear hB3 hw3 HT2 x0 x1 x2 x3 x4 HP3 HG2 HA3
            go_wp2_with fail
            go_roundw
            case rel => exact ⟨p + q.len, aa, s2, O2, hl2, by omega, rfl, hide (by have := HQ3.out; simpa using this), HG3⟩
            case measure => simp [intOf]; omega
          · go_wp2_with fail
            refine (HT2.out _).mono ?_
            rintro _ w3 ⟨rfl, hw3⟩
            have hB3 : Below (w2.alloc (Obj.cells #[.int .i64 a.kind, .int .i64 a.int, .int .u64 a.uint, .string a.text] 42)).heap.size (w2.alloc (Obj.cells #[.int .i64 a.kind, .int .i64 a.int, .int .u64 a.uint, .string a.text] 42)) w3 := by rw [hw3]; exact fm_below _ _
            have hG3 := HG2.out.below R hB3
            obtain ⟨k0, k1, k2, k3⟩ := (HA3.out.below hB3).ah
            have hP3 := HP3.out.below hB3
            have hz3 := hG3.2.2.2.1.size
            obtain ⟨u', w', hrun, hown, hg, hwh⟩ := run_append_arg1 w3 24 w0.heap.size _ aa a hG3.1 (by omega) hz3
            have HG4 := hide (hG3.app R (fun j e => by have := HO.out.2 j e; have := HB0.out.size; omega) hown hg hwh)
            have hP4 : PtB w' w1.heap.size q := (hg.block _ (by have := hP3.lt; have : (w3.alloc (Obj.cells #[.int .i64 a.kind, .int .i64 a.int, .int .u64 a.uint, .string a.text] 42)).heap.size = w3.heap.size + 1 := Array.size_push ..; omega) (fun e => by have := HUl.out _ e.symm; omega)).trans (hP3.below (fm_below w3 (Obj.cells #[.int .i64 a.kind, .int .i64 a.int, .int .u64 a.uint, .string a.text] 42)))
            obtain ⟨z0, z1, z2, z3, z4⟩ := hP4.cs
            have HAp := hide hrun
            obtain ⟨ua', uc', rfl⟩ := owns_slice hown
            obtain ⟨n', hn'⟩ : ∃ n', n' = (aa ++ [a]).length := ⟨_, rfl⟩
            rw [← hn'] at HAp HG4
            clear hn'
            clear hB3 hw3 HT2 x0 x1 x2 x3 x4 HP3 HG2 HA3 hG3 hP3 hP4 hz3 hrun hown hg hwh
            go_wp2_with (at_builtin; refine Lib.wpList_append_run _ rfl _ _ _ _ rfl _ _ rfl rfl _ _ HAp.out ?_)
            go_roundw
            case rel => exact ⟨p + q.len, aa ++ [a], s2, O2, hl2, by rw [List.length_append]; simp only [List.length_cons, List.length_nil]; omega, rfl, hide (by have := HQ3.out; simpa using this), HG4⟩
            case measure => simp [intOf]; omega
    · have hlt' : ¬ (p : Int) < (s.size : Int) := by omega
      have hpp := HP.out
      rw [drop_end s p (by omega)] at hpp
      have hpp : some ((aa, (0 : Int)), s1) = some RR := hpp
      cases hpp
      clear HP
      go_wp2
      go_ret2
      exact ⟨_, rfl, HG.out.end HB0.out⟩
end Go.Proofs.YtcmfpafcipgejaaGreatDoor

/- Scan: bytes that stand there, as a source. -/
namespace Go.Proofs.YtcmfpafcipgejaaGreatDoor
open Go.RowKit
theorem Bys.keep0 {W W' : World} {v : Value} {l : List UInt8} (h : Bys W v l) (hB : 0 < l.length → ∀ k, v.ownBlock = some k → k < W.heap.size → W'.heap[k]? = W.heap[k]?) : Bys W' v l := by
  by_cases h0 : 0 < l.length
  · exact h.keep (hB h0)
  · rcases h with h | h | ⟨q, off, cap, _, h3, _⟩
    · exact .inl h
    · exact .inr (.inl h)
    · exact absurd h3 h0
structure TAt (b : List UInt8) (g : Nat) (a : Option Addr) (c : Nat) (w : World) (O : Nat → Prop) (n : Nat) : Prop where
  blk : w.heap[g]? = some (.cells #[.slice a b.length c, .int .i64 (n : Int)] 65)
  bys : Bys w (.slice a b.length c) b
  le : n ≤ b.length
  og : O g
  ap : 0 < b.length → (Value.slice a b.length c).ownBlock ≠ some g
  few : b.length ≤ maxLen
theorem drewN_belowT (w : World) (n : Nat) : Below w.heap.size w (w.drewN n) := ⟨rfl, rfl, rfl, Nat.le_refl _, fun _ _ => rfl⟩
theorem TAt.lt {b : List UInt8} {g : Nat} {a : Option Addr} {c : Nat} {w : World} {O : Nat → Prop} {n : Nat} (h : TAt b g a c w O n) : g < w.heap.size := (Array.getElem?_eq_some_iff.1 h.blk).1
theorem TAt.dn {b : List UInt8} {g : Nat} {a : Option Addr} {c : Nat} {w : World} {O : Nat → Prop} {n : Nat} (h : TAt b g a c w O n) (k : Nat) : TAt b g a c (w.drewN k) O n := ⟨h.blk, h.bys.below (drewN_belowT _ _), h.le, h.og, h.ap, h.few⟩
theorem TAt.keep {b : List UInt8} {g : Nat} {a : Option Addr} {c : Nat} {w w' : World} {O : Nat → Prop} {n : Nat} (h : TAt b g a c w O n) (hk : ∀ j, O j ∨ (0 < b.length ∧ (Value.slice a b.length c).ownBlock = some j) → j < w.heap.size → w'.heap[j]? = w.heap[j]?) : TAt b g a c w' O n := ⟨(hk g (.inl h.og) h.lt).trans h.blk, h.bys.keep0 (fun h0 k e hl => hk k (.inr ⟨h0, e⟩) hl), h.le, h.og, h.ap, h.few⟩
theorem TAt.set {b : List UInt8} {g : Nat} {a : Option Addr} {c : Nat} {w : World} {O : Nat → Prop} {n : Nat} (h : TAt b g a c w O n) (m : Nat) (hm : m ≤ b.length) : TAt b g a c (w.setCell ⟨g, 1, none⟩ (.int .i64 (m : Int))) O m := by
  refine ⟨?_, h.bys.keep0 (fun h0 k e hl => ((Turned.refl (fun j => j = g) w).set (j := 1) (u := .int .i64 (m : Int)) (.inl rfl)).block k hl (fun e2 => h.ap h0 (e2 ▸ e))), hm, h.og, h.ap, h.few⟩
  rw [Go.heap_setCell_same w g 1 _ _ _ h.blk]
  rfl
set_option maxRecDepth 100000 in
set_option maxHeartbeats 4000000 in
theorem tnext_any {b : List UInt8} {g : Nat} {a : Option Addr} {c : Nat} {w : World} {O : Nat → Prop} {n : Nat} (h : TAt b g a c w O n) :
    Calls Tryz.prog 240 #[.pointer (some ⟨g, 0, none⟩)] w fun e w' => e = .returned (.tuple #[.int .u8 (((txtD b).next n).1.toNat : Int), .int .i64 ((txtD b).next n).2.1]) ∧ TAt b g a c w' O ((txtD b).next n).2.2 ∧ Turned O w w' := by
  have HH := hide h
  have c0 := cell_of_row w g 0 _ _ _ h.blk
  have c1 := cell_of_row w g 1 _ _ _ h.blk
  have f1 := frozen_of_row w g 1 _ _ h.blk
  simp only [List.getElem?_toArray, List.getElem?_cons_zero, List.getElem?_cons_succ] at c0 c1
  have hn := h.le
  have hf := h.few
  unfold maxLen at hf
  by_cases hlt : n < b.length
  · have hq : (txtD b).next n = (b.getD n 0, 0, n + 1) := by show (if n < b.length then _ else _) = _; rw [if_pos hlt]
    rw [hq]
    have he : ((n : Int) == (b.length : Int)) = false := by simp; omega
    obtain ⟨-, qb, qo, rfl, hqb, hc⟩ := bys_block h.bys (by omega)
    have hcn := hc n hlt
    have hap : qb ≠ g := fun e => h.ap (by omega) (by rw [e]; rfl)
    have hD : ∀ k, TAt b g (some ⟨qb, qo, none⟩) c (w.drewN k) O n := fun k => ⟨h.blk, h.bys.below (drewN_belowT _ _), h.le, h.og, h.ap, h.few⟩
    have HS := hide (fun k => (hD k).set (n + 1) hlt)
    have HT := hide (fun k => (Turned.of_below (drewN_belowT w k)).trans ((Turned.refl O (w.drewN k)).set (g := g) (j := 1) (u := .int .i64 ((n + 1 : Nat) : Int)) (.inl h.og)) (fun _ _ e => e))
    have e1 : wrap64 ((n : Int) + 1) = ((n + 1 : Nat) : Int) := by unfold wrap64; omega
    have e1' : IntKind.i64.wrap ((n : Int) + 1) = ((n + 1 : Nat) : Int) := by rw [IntKind.wrap_i64]; omega
    have d0 := fun k => cell_of_row _ g 0 _ _ _ (HS.out k).blk
    have d1 := fun k => cell_of_row _ g 1 _ _ _ (HS.out k).blk
    simp only [List.getElem?_toArray, List.getElem?_cons_zero, List.getElem?_cons_succ] at d0 d1
    have d2 : ∀ k, ((w.drewN k).setCell ⟨g, 1, none⟩ (.int .i64 ((n + 1 : Nat) : Int))).cell? ⟨qb, qo + n, none⟩ = some (.int .u8 ((b.getD n 0).toNat : Int)) := fun k => by rw [World.cell?_setCell_other _ _ _ _ (fun e => hap (congrArg Addr.block e).symm)]; exact hcn
    have e2 : wrap64 (((n + 1 : Nat) : Int) - 1) = (n : Int) := by unfold wrap64; omega
    have e2' : IntKind.i64.wrap (((n + 1 : Nat) : Int) - 1) = (n : Int) := by rw [IntKind.wrap_i64]; omega
    have e3 : (n : Int) < (b.length : Int) := by omega
    generalize (b.getD n 0) = ch at *
    clear h hq hc hcn hqb hD
    obtain ⟨m, hm⟩ : ∃ m : Int, ((n + 1 : Nat) : Int) = m := ⟨_, rfl⟩
    rw [hm] at HS HT e1 e1' d0 d1 d2 e2 e2'
    clear hm
    go_enter Tryz.func240, Tryz.ntmps240
    go_wp2
    go_quiet (fail)
    go_wp2
    go_quiet (fail)
    go_wp2
    go_ret2
    exact ⟨rfl, (HS.out _).dn _, (HT.out _).trans (Turned.of_below (S := fun _ => False) (drewN_belowT _ _)) (fun _ _ e => e.elim)⟩
  · have hq : (txtD b).next n = (0, 111, n) := by show (if n < b.length then _ else _) = _; rw [if_neg hlt]
    rw [hq]
    obtain rfl : n = b.length := by omega
    have he : ((b.length : Int) == (b.length : Int)) = true := by simp
    go_enter Tryz.func240, Tryz.ntmps240
    go_wp2
    go_quiet (fail)
    go_wp2
    go_ret2
    exact ⟨rfl, HH.out.dn _, Turned.of_below (drewN_belowT _ _)⟩
set_option maxRecDepth 100000 in
set_option maxHeartbeats 4000000 in
theorem tback_any {b : List UInt8} {g : Nat} {a : Option Addr} {c : Nat} {w : World} {O : Nat → Prop} {n : Nat} (ch : UInt8) (h : TAt b g a c w O n) (h1 : 1 ≤ n) :
    Calls Tryz.prog 239 #[.pointer (some ⟨g, 0, none⟩), .int .u8 (ch.toNat : Int)] w fun e w' => e = .returned (.tuple #[]) ∧ TAt b g a c w' O (n - 1) ∧ Turned O w w' := by
  have hn := h.le
  have hf := h.few
  unfold maxLen at hf
  have c1 := cell_of_row w g 1 _ _ _ h.blk
  have f1 := frozen_of_row w g 1 _ _ h.blk
  simp only [List.getElem?_toArray, List.getElem?_cons_zero, List.getElem?_cons_succ] at c1
  have HS := hide (h.set (n - 1) (by omega))
  have HT := hide ((Turned.refl O w).set (g := g) (j := 1) (u := .int .i64 ((n - 1 : Nat) : Int)) (.inl h.og))
  have e1 : wrap64 ((n : Int) - 1) = ((n - 1 : Nat) : Int) := by unfold wrap64; omega
  have e1' : IntKind.i64.wrap ((n : Int) - 1) = ((n - 1 : Nat) : Int) := by rw [IntKind.wrap_i64]; omega
  generalize n - 1 = m at *
  clear h hn hf h1
  go_enter Tryz.func239, Tryz.ntmps239
  go_wp2
  go_end0
  exact ⟨rfl, HS.out, HT.out⟩
theorem txt_src (b : List UInt8) (g : Nat) (a : Option Addr) (c : Nat) : SrcM (txtD b) 63 (.pointer (some ⟨g, 0, none⟩)) 240 239 (fun j => 0 < b.length ∧ (Value.slice a b.length c).ownBlock = some j) (fun w O n => TAt b g a c w O n) where
  mnext w := by kernel_rfl
  mback w := by kernel_rfl
  cnext a w := by kernel_rfl
  cback a w := by kernel_rfl
  keep h hk _ := h.keep hk
  trim h := ⟨h.blk, h.bys, h.le, ⟨h.og, h.lt⟩, h.ap, h.few⟩
  next {w O s} h := (tnext_any h).mono fun _ _ ⟨e1, e2, e3⟩ => ⟨e1, O, e2, fun _ e => .inl e, e3⟩
  back {w O s} ch h hx := by
    obtain ⟨w0, O0, s0, h0, hn⟩ := hx
    have h1 : 1 ≤ s := by
      change (if s0 < b.length then (b.getD s0 0, (0 : Int), s0 + 1) else (0, 111, s0)) = (ch, 0, s) at hn
      by_cases hl : s0 < b.length
      · rw [if_pos hl] at hn
        cases hn
        omega
      · rw [if_neg hl] at hn
        cases hn
    exact (tback_any ch h h1).mono fun _ _ ⟨e1, e2, e3⟩ => ⟨e1, O, e2, fun _ e => .inl e, e3⟩
end Go.Proofs.YtcmfpafcipgejaaGreatDoor

/- Scan: the Args that a pattern reads in bytes. -/
namespace Go.Proofs.YtcmfpafcipgejaaGreatDoor
open Go.RowKit
def ArgsNew (w w' : World) (u : Value) (aa : List Ag) : Prop := w'.ownsRow w.heap.size 42 4 u aa.length (aa.flatMap agC) ∧ Below w.heap.size w w'
theorem scan_read {f b : List UInt8} {R : (List Ag × Int) × Nat} (hc : (chkV f).1 = 0) (h : readR (txtD b) (b.length + 1) f 0 [] = some R) : scanV f b = ((R.1.1, R.2), R.1.2) := by
  unfold scanV
  rw [if_neg (by simp [hc])]
  have : readF (txtD b) (b.length + 1) f.length f 0 [] = some R := h
  rw [this]
theorem scan_err {f b : List UInt8} (hc : (chkV f).1 ≠ 0) : scanV f b = (([], 0), (chkV f).1) := by
  unfold scanV
  rw [if_pos hc]
set_option maxRecDepth 100000 in
set_option maxHeartbeats 8000000 in
theorem scan_any (s : ByteArray) (va : Option Addr) (vc : Nat) (b : List UInt8) (w : World) (hs : s.size ≤ maxLen) (hb : Bys w (.slice va b.length vc) b) (hbl : b.length ≤ maxLen) (hr : (chkV s.data.toList).1 = 0 → ∃ R, readR (txtD b) (b.length + 1) s.data.toList 0 [] = some R) :
    Calls Tryz.prog 7 #[.string s, .slice va b.length vc] w fun e w' => ∃ u, e = .returned (.tuple #[u, .int .i64 ((scanV s.data.toList b).1.2 : Int), .int .i64 (scanV s.data.toList b).2]) ∧ ArgsNew w w' u (scanV s.data.toList b).1.1 := by
  have HC := hide (check_any s w hs)
  have hsm : (chkV s.data.toList).1 = 0 → s.size ≤ 65536 := fun h => by
    unfold chkV at h
    rw [show s.data.toList.length = s.size by rw [Array.length_toList]; rfl] at h
    split at h
    · exact absurd h (by decide)
    · omega
  obtain ⟨SV, hSV⟩ : ∃ SV, SV = scanV s.data.toList b := ⟨_, rfl⟩
  rw [← hSV]
  have HSV := hide hSV
  clear hSV
  by_cases hc : (chkV s.data.toList).1 = 0
  · obtain ⟨RR, hRR⟩ := hr hc
    have hsv := HSV.out.trans (scan_read hc hRR)
    have HSm := hide (hsm hc)
    have HRR := hide hRR
    have HBy := hide (And.intro hb hbl)
    rw [hc] at HC
    generalize (chkV s.data.toList).2 = m at *
    clear hr hc hsm hRR hb hbl HSV
    subst hsv
    go_enter Tryz.func7, Tryz.ntmps7
    go_wp2_with fail
    refine HC.out.mono ?_
    rintro _ w1 ⟨rfl, hB1⟩
    have HB1 := hide hB1
    have hKb : ∀ j, (0 < b.length ∧ (Value.slice va b.length vc).ownBlock = some j) → j < w.heap.size := fun j e => by
      obtain ⟨-, qb, qo, rfl, hqb, -⟩ := bys_block HBy.out.1 e.1
      have : some qb = some j := e.2
      cases this
      exact hqb
    have hz1 := hB1.size
    have HT : Hid (TAt b w1.heap.size va vc (w1.alloc (Obj.cells #[.slice va b.length vc, .int .i64 0] 65)) (fun j => j = w1.heap.size) 0) := hide ⟨heap_alloc_new w1 _, (HBy.out.1.below hB1).below (fm_below _ _), Nat.zero_le _, rfl, fun h0 e => by have := hKb _ ⟨h0, e⟩; omega, HBy.out.2⟩
    have hzz : (w1.alloc (Obj.cells #[.slice va b.length vc, .int .i64 0] 65)).heap.size = w1.heap.size + 1 := Array.size_push ..
    have HX := hide (sread_any (txt_src b w1.heap.size va vc) s (b.length + 1) HSm.out (fun j e => by have := hKb j e; omega) HT.out (fun j (e : j = w1.heap.size) => by omega) HRR.out)
    have HZ := hide (And.intro hz1 hzz)
    have hB2 := hide (fm_below w1 (Obj.cells #[.slice va b.length vc, .int .i64 0] 65))
    clear hB1 hKb hz1 hzz HC
    go_wp2_with fail
    refine HX.out.mono ?_
    rintro _ w2 ⟨u, rfl, O2, ⟨a1, a2, a3, a4⟩, a5, a6⟩
    have c1 := cell_of_row w2 w1.heap.size 1 _ _ _ a1.blk
    simp only [List.getElem?_toArray, List.getElem?_cons_zero, List.getElem?_cons_succ] at c1
    have HB : Hid (Below w.heap.size w w2) := hide ((HB1.out.trans (hB2.out.mono HZ.out.1)).trans (a4.below (B := w.heap.size) (fun k e => by have e : k = w1.heap.size := e; have := HZ.out.1; omega) (by have := HZ.out.1; have := HZ.out.2; omega)))
    have HU := hide (owns_mono a5 (by have := HZ.out.1; have := HZ.out.2; omega : w.heap.size ≤ (w1.alloc (Obj.cells #[.slice va b.length vc, .int .i64 0] 65)).heap.size))
    obtain ⟨ua, uc, rfl⟩ := owns_slice a5
    clear a1 a2 a3 a4 a5 a6 HX HT HRR HBy HB1 hB2 HZ
    go_wp2
    go_quiet (fail)
    go_wp2
    go_ret3
    exact ⟨_, rfl, owns_below HU.out (drewN_belowT _ _), HB.out.trans ((drewN_belowT w2 _).mono HB.out.size)⟩
  · have hsv := HSV.out.trans (scan_err hc)
    subst hsv
    generalize (chkV s.data.toList) = C at *
    obtain ⟨c1, c2⟩ := C
    have hc' : (c1 != 0) = true := by simpa using hc
    clear hr hsm HSV hc hb
    go_enter Tryz.func7, Tryz.ntmps7
    go_wp2_with fail
    refine HC.out.mono ?_
    rintro _ w1 ⟨rfl, hB1⟩
    have HB1 := hide hB1
    clear hB1 HC
    go_wp2
    go_ret3
    exact ⟨_, rfl, World.ownsRow_nil _ _ _ _, HB1.out⟩
end Go.Proofs.YtcmfpafcipgejaaGreatDoor

/- Scan: of bytes that stand there a pattern always reads something, or tells why not. -/
namespace Go.Proofs.YtcmfpafcipgejaaGreatDoor
open Go.RowKit
theorem txt_next (b : List UInt8) (n : Nat) : (txtD b).next n = if n < b.length then (b.getD n 0, 0, n + 1) else (0, 111, n) := rfl
theorem one_end (b : List UInt8) (f : Bool → UInt8 → Bool × Bool) (n : Nat) (q : Bool) (h : ¬ n < b.length) : oneV (txtD b) f n q = ((0, false, 111), n, q) := by
  unfold oneV
  rw [txt_next, if_neg h]
  rfl
theorem one_yes (b : List UInt8) (f : Bool → UInt8 → Bool × Bool) (n : Nat) (q : Bool) (h : n < b.length) (hf : (f q (b.getD n 0)).1 = true) : oneV (txtD b) f n q = ((b.getD n 0, true, 0), n + 1, (f q (b.getD n 0)).2) := by
  unfold oneV
  rw [txt_next, if_pos h]
  simp only [↓reduceIte]
  rw [if_pos hf]
theorem one_no (b : List UInt8) (f : Bool → UInt8 → Bool × Bool) (n : Nat) (q : Bool) (h : n < b.length) (hf : (f q (b.getD n 0)).1 = false) : oneV (txtD b) f n q = ((0, false, 0), n, (f q (b.getD n 0)).2) := by
  unfold oneV
  rw [txt_next, if_pos h]
  simp only [↓reduceIte]
  rw [if_neg (by simp only [hf]; decide)]
  rfl
theorem onet_le (b : List UInt8) (f : Bool → UInt8 → Bool × Bool) (n : Nat) (q : Bool) (h : n ≤ b.length) : n ≤ (oneV (txtD b) f n q).2.1 ∧ (oneV (txtD b) f n q).2.1 ≤ b.length := by
  by_cases hl : n < b.length
  · cases hf : (f q (b.getD n 0)).1
    · rw [one_no b f n q hl hf]; exact ⟨Nat.le_refl _, h⟩
    · rw [one_yes b f n q hl hf]; exact ⟨Nat.le_succ _, hl⟩
  · rw [one_end b f n q hl]; exact ⟨Nat.le_refl _, h⟩
theorem gat_le (b : List UInt8) (f : Bool → UInt8 → Bool × Bool) : ∀ (k n : Nat) (q : Bool) (acc : List UInt8), n ≤ b.length → (gatV (txtD b) f k n q acc).2 ≤ b.length
  | 0, _, _, _, h => h
  | k + 1, n, q, acc, h => by
    have h1 := onet_le b f n q h
    unfold gatV
    split
    · exact gat_le b f k _ _ _ h1.2
    · exact h1.2
theorem pass_tot (b : List UInt8) : ∀ (N n : Nat), n ≤ b.length → b.length - n < N → ∃ x n', passV (txtD b) N n = some (x, n') ∧ n' ≤ b.length
  | 0, _, _, h => absurd h (Nat.not_lt_zero _)
  | N + 1, n, h, hN => by
    by_cases hl : n < b.length
    · cases hf : (fBl false (b.getD n 0)).1
      · rw [passV_end (txtD b) N n (one_no b fBl n false hl hf)]; exact ⟨_, _, rfl, h⟩
      · rw [passV_more (txtD b) N n (one_yes b fBl n false hl hf)]; exact pass_tot b N (n + 1) hl (by omega)
    · rw [passV_end (txtD b) N n (one_end b fBl n false hl)]; exact ⟨_, _, rfl, h⟩
theorem part_tot (b : List UInt8) (p : Pt) (n : Nat) (h : n ≤ b.length) : ∃ r n', partV (txtD b) (b.length + 1) p n = some (r, n') ∧ n' ≤ b.length := by
  obtain ⟨x, n1, hp, hn1⟩ := pass_tot b (b.length + 1) n h (by omega)
  unfold partV
  split
  · rw [hp]; exact ⟨_, _, rfl, hn1⟩
  · split
    · exact ⟨_, _, rfl, gat_le b _ _ _ _ _ h⟩
    · split
      · simp only
        split
        · exact ⟨_, _, rfl, gat_le b _ _ _ _ _ h⟩
        · split
          · exact ⟨_, _, rfl, gat_le b _ _ _ _ _ h⟩
          · exact ⟨_, _, rfl, gat_le b _ _ _ _ _ h⟩
      · rw [hp]
        simp only
        split
        · exact ⟨_, _, rfl, hn1⟩
        · unfold wordV
          simp only
          split
          · exact ⟨_, _, rfl, gat_le b _ _ _ _ _ hn1⟩
          · split
            · exact ⟨_, _, rfl, gat_le b _ _ _ _ _ hn1⟩
            · exact ⟨_, _, rfl, gat_le b _ _ _ _ _ hn1⟩
theorem readR_go {S : Type} (D : SrcD S) (N : Nat) {l : List UInt8} {q : Pt} (h : firstS l = some q) (s : S) (aa : List Ag) {a : Ag} {e : Int} {s2 : S} (hp : partV D N q s = some ((a, e), s2)) : readR D N l s aa = if e ≠ 0 then some ((aa, e), s2) else readR D N (l.drop q.len) s2 (if q.tells then aa ++ [a] else aa) := by
  cases l with
  | nil => cases h
  | cons c r =>
    have hl := firstS_len h
    unfold readR
    rw [List.length_cons]
    conv => lhs; unfold readF
    rw [h]
    simp only
    rw [hp]
    simp only
    split
    · rfl
    · exact readF_two D N _ _ _ _ _ (by rw [List.length_drop]; simp only [List.length_cons]; omega) (Nat.le_refl _)
theorem read_tot (b : List UInt8) : ∀ (k : Nat) (l : List UInt8) (p m n : Nat) (aa : List Ag), l.length ≤ k → (chkR l p m).1 = 0 → n ≤ b.length → ∃ R, readR (txtD b) (b.length + 1) l n aa = some R ∧ R.2 ≤ b.length
  | k, [], p, m, n, aa, _, _, hn => ⟨_, rfl, hn⟩
  | 0, c :: r, _, _, _, _, h, _, _ => absurd h (by simp)
  | k + 1, c :: r, p, m, n, aa, h, hc, hn => by
    cases hq : firstS (c :: r) with
    | none => rw [chkR_bad (by simp) hq] at hc; cases hc
    | some q =>
      have hl := firstS_len hq
      rw [chkR_step hq] at hc
      obtain ⟨⟨a, e⟩, n', hp, hn'⟩ := part_tot b q n hn
      rw [readR_go _ _ hq n aa hp]
      split
      · exact ⟨_, rfl, hn'⟩
      · exact read_tot b k _ _ _ _ _ (by rw [List.length_drop]; simp only [List.length_cons] at h ⊢; omega) hc hn'
theorem chk_R (l : List UInt8) (h : (chkV l).1 = 0) : (chkR l 0 0).1 = 0 := by
  unfold chkV at h
  split at h
  · exact absurd h (by decide)
  · exact h
theorem scan_tot (f b : List UInt8) (h : (chkV f).1 = 0) : ∃ R, readR (txtD b) (b.length + 1) f 0 [] = some R := by
  obtain ⟨R, h1, _⟩ := read_tot b f.length f 0 0 0 [] (Nat.le_refl _) (chk_R f h) (Nat.zero_le _)
  exact ⟨R, h1⟩
theorem scan_is (s : ByteArray) (va : Option Addr) (vc : Nat) (b : List UInt8) {aa : List Ag} {n : Nat} {e : Int} (w : World) (hs : s.size ≤ maxLen) (hb : Bys w (.slice va b.length vc) b) (hbl : b.length ≤ maxLen) (hv : scanV s.data.toList b = ((aa, n), e)) :
    Calls Tryz.prog 7 #[.string s, .slice va b.length vc] w fun r w' => ∃ u, r = .returned (.tuple #[u, .int .i64 (n : Int), .int .i64 e]) ∧ ArgsNew w w' u aa := by
  have := scan_any s va vc b w hs hb hbl (scan_tot _ _)
  rw [hv] at this
  exact this
end Go.Proofs.YtcmfpafcipgejaaGreatDoor

/- Scan: the law's num; alive. -/
namespace Go.Proofs.YtcmfpafcipgejaaGreatDoor
open Go.RowKit
theorem num18 (e : Int) (w : World) : Calls Tryz.prog 12 #[.int .i64 e] w fun r w' => r = .returned (.int .i64 e) ∧ w' = w := by
  go_enter Tryz.func12, Tryz.ntmps12
  go_wp2
  go_ret
  exact ⟨rfl, rfl⟩
def sA1 : Ag := ⟨1, -5, 0, ⟨#[]⟩⟩
def sA2 : Ag := ⟨4, 0, 0, ⟨#[97, 98]⟩⟩
def sA3 : Ag := ⟨1, 12, 0, ⟨#[]⟩⟩
def sA4 : Ag := ⟨1, 34, 0, ⟨#[]⟩⟩
theorem sex_1 : scanV [37, 100, 32, 37, 115] [32, 45, 53, 32, 97, 98, 32, 99] = (([sA1, sA2], 6), 0) := by kernel_rfl
theorem sex_2 : scanV [37, 50, 100, 37, 100] [49, 50, 51, 52] = (([sA3, sA4], 4), 0) := by kernel_rfl
theorem sex_3 : scanV [120, 37, 100] [121, 49] = (([], 0), 181) := by kernel_rfl
theorem sex_4 : scanV [37, 100] [43] = (([], 1), 111) := by kernel_rfl
theorem sab_1 : ∀ x ∈ [sA1, sA2], AB x := by
  intro x hx
  simp only [List.mem_cons, List.not_mem_nil, or_false] at hx
  rcases hx with rfl | rfl
  · exact ⟨⟨by decide, by decide⟩, ⟨by decide, by decide⟩, by decide, by decide, by decide⟩
  · exact ⟨⟨by decide, by decide⟩, ⟨by decide, by decide⟩, by decide, by decide, by decide⟩
theorem sab_2 : ∀ x ∈ [sA3, sA4], AB x := by
  intro x hx
  simp only [List.mem_cons, List.not_mem_nil, or_false] at hx
  rcases hx with rfl | rfl
  · exact ⟨⟨by decide, by decide⟩, ⟨by decide, by decide⟩, by decide, by decide, by decide⟩
  · exact ⟨⟨by decide, by decide⟩, ⟨by decide, by decide⟩, by decide, by decide, by decide⟩
theorem lit_bys (W : World) (l : List UInt8) (cs : Array Value) (fr : Nat × Nat) (n : Nat) (hn : n = l.length) (h0 : 0 < l.length) (hc : cs = (l.map bv).toArray) : Bys (W.alloc (Obj.cells cs 5 fr)) (.slice (some ⟨W.heap.size, 0, none⟩) n n) l := by
  subst hn
  refine .inr (.inr ⟨_, _, _, rfl, h0, fun j hj => ?_⟩)
  have := cell_of_row (W.alloc (Obj.cells cs 5 fr)) W.heap.size j _ _ _ (heap_alloc_new W _)
  rw [Nat.zero_add, this, hc]
  simp [bv, hj, List.getD_eq_getElem?_getD]
theorem conv_lit18 (w : World) (C : Array Value) (n m : Nat) (hm : C.size = m) : (convert 22 22 (.slice (some ⟨w.heap.size, 0, none⟩) n n)).run Tryz.prog (w.alloc (.cells C 5)) = .ok (.slice (some ⟨w.heap.size, 0, none⟩) n n) (w.alloc (.cells C 5 (m, m + 1))) := by
  subst hm
  exact Lib.run_convert_bytes_const w 22 5 C n n Tryz.underlying22 Tryz.underlying5
set_option maxRecDepth 100000 in
set_option maxHeartbeats 4000000 in
theorem alive18 (w : World) : Calls Tryz.prog 14 #[] w fun e w' => e = .returned (.bool true) ∧ Below w.heap.size w w' := by
  have HX1 := hide (fun W => scan_is ⟨#[37, 100, 32, 37, 115]⟩ (some ⟨W.heap.size, 0, none⟩) 8 [32, 45, 53, 32, 97, 98, 32, 99] (W.alloc (Obj.cells #[.int .u8 32, .int .u8 45, .int .u8 53, .int .u8 32, .int .u8 97, .int .u8 98, .int .u8 32, .int .u8 99] 5 (8, 9))) (by decide) (lit_bys W _ _ _ _ rfl (by decide) rfl) (by decide) sex_1)
  have HX2 := hide (fun W => scan_is ⟨#[37, 50, 100, 37, 100]⟩ (some ⟨W.heap.size, 0, none⟩) 4 [49, 50, 51, 52] (W.alloc (Obj.cells #[.int .u8 49, .int .u8 50, .int .u8 51, .int .u8 52] 5 (4, 5))) (by decide) (lit_bys W _ _ _ _ rfl (by decide) rfl) (by decide) sex_2)
  have HX3 := hide (fun W => scan_is ⟨#[120, 37, 100]⟩ (some ⟨W.heap.size, 0, none⟩) 2 [121, 49] (W.alloc (Obj.cells #[.int .u8 121, .int .u8 49] 5 (2, 3))) (by decide) (lit_bys W _ _ _ _ rfl (by decide) rfl) (by decide) sex_3)
  have HX4 := hide (fun W => scan_is ⟨#[37, 100]⟩ (some ⟨W.heap.size, 0, none⟩) 1 [43] (W.alloc (Obj.cells #[.int .u8 43] 5 (1, 2))) (by decide) (lit_bys W _ _ _ _ rfl (by decide) rfl) (by decide) sex_4)
  simp only [List.length_cons, List.length_nil, Nat.zero_add, Nat.reduceAdd] at HX1 HX2 HX3 HX4
  go_enter Tryz.func14, Tryz.ntmps14
  have cl := conv_lit18 w #[.int .u8 32, .int .u8 45, .int .u8 53, .int .u8 32, .int .u8 97, .int .u8 98, .int .u8 32, .int .u8 99] 8 8 rfl
  go_wp2_with fail
  refine (HX1.out _).mono ?_
  rintro _ w1 ⟨u1, rfl, hu, hB⟩
  have HB1 := hide ((fm_below w (Obj.cells #[.int .u8 32, .int .u8 45, .int .u8 53, .int .u8 32, .int .u8 97, .int .u8 98, .int .u8 32, .int .u8 99] 5 (8, 9))).trans (hB.mono (fm_below w (Obj.cells #[.int .u8 32, .int .u8 45, .int .u8 53, .int .u8 32, .int .u8 97, .int .u8 98, .int .u8 32, .int .u8 99] 5 (8, 9))).size))
  have HU1 := hide hu
  obtain ⟨a1, c1, rfl⟩ := owns_slice hu
  clear hu hB HX1
  have cl := conv_lit18 w1 #[.int .u8 49, .int .u8 50, .int .u8 51, .int .u8 52] 4 4 rfl
  go_wp2_with fail
  refine (HX2.out _).mono ?_
  rintro _ w2 ⟨u2, rfl, hu, hB⟩
  have HB2 := hide (HB1.out.trans (((fm_below w1 (Obj.cells #[.int .u8 49, .int .u8 50, .int .u8 51, .int .u8 52] 5 (4, 5))).trans (hB.mono (fm_below w1 (Obj.cells #[.int .u8 49, .int .u8 50, .int .u8 51, .int .u8 52] 5 (4, 5))).size)).mono HB1.out.size))
  have HU12 := hide (owns_below HU1.out ((fm_below w1 (Obj.cells #[.int .u8 49, .int .u8 50, .int .u8 51, .int .u8 52] 5 (4, 5))).trans (hB.mono (fm_below w1 (Obj.cells #[.int .u8 49, .int .u8 50, .int .u8 51, .int .u8 52] 5 (4, 5))).size)))
  have HU2 := hide hu
  obtain ⟨a2, c2, rfl⟩ := owns_slice hu
  clear hu hB HX2 HU1 HB1
  have cl := conv_lit18 w2 #[.int .u8 121, .int .u8 49] 2 2 rfl
  go_wp2_with fail
  refine (HX3.out _).mono ?_
  rintro _ w3 ⟨u3, rfl, hu, hB⟩
  have HB3 := hide (HB2.out.trans (((fm_below w2 (Obj.cells #[.int .u8 121, .int .u8 49] 5 (2, 3))).trans (hB.mono (fm_below w2 (Obj.cells #[.int .u8 121, .int .u8 49] 5 (2, 3))).size)).mono HB2.out.size))
  have HU13 := hide (owns_below HU12.out ((fm_below w2 (Obj.cells #[.int .u8 121, .int .u8 49] 5 (2, 3))).trans (hB.mono (fm_below w2 (Obj.cells #[.int .u8 121, .int .u8 49] 5 (2, 3))).size)))
  have HU23 := hide (owns_below HU2.out ((fm_below w2 (Obj.cells #[.int .u8 121, .int .u8 49] 5 (2, 3))).trans (hB.mono (fm_below w2 (Obj.cells #[.int .u8 121, .int .u8 49] 5 (2, 3))).size)))
  obtain ⟨a3, c3, rfl⟩ := owns_slice hu
  clear hu hB HX3 HU12 HU2 HB2
  have cl := conv_lit18 w3 #[.int .u8 43] 1 1 rfl
  go_wp2_with fail
  refine (HX4.out _).mono ?_
  rintro _ w4 ⟨u4, rfl, hu, hB⟩
  have HB4 := hide (HB3.out.trans (((fm_below w3 (Obj.cells #[.int .u8 43] 5 (1, 2))).trans (hB.mono (fm_below w3 (Obj.cells #[.int .u8 43] 5 (1, 2))).size)).mono HB3.out.size))
  have hU1 := (AgsV.of_owns (owns_below HU13.out ((fm_below w3 (Obj.cells #[.int .u8 43] 5 (1, 2))).trans (hB.mono (fm_below w3 (Obj.cells #[.int .u8 43] 5 (1, 2))).size))) sab_1).1
  have hU2 := (AgsV.of_owns (owns_below HU23.out ((fm_below w3 (Obj.cells #[.int .u8 43] 5 (1, 2))).trans (hB.mono (fm_below w3 (Obj.cells #[.int .u8 43] 5 (1, 2))).size))) sab_2).1
  obtain ⟨a4, c4, rfl⟩ := owns_slice hu
  clear hu hB HX4 HU13 HU23 HB3
  obtain ⟨_, _, e1, -, hd1, -⟩ := hU1
  obtain ⟨_, _, e2, -, hd2, -⟩ := hU2
  cases e1
  cases e2
  obtain ⟨g1, o1, rfl, hc1⟩ := hd1 (by decide)
  obtain ⟨g2, o2, rfl, hc2⟩ := hd2 (by decide)
  have k1 := (hc1 0 (by decide)).c1
  have k2 := (hc1 1 (by decide)).c3
  have k3 := (hc2 1 (by decide)).c1
  simp only [List.getElem_cons_zero, List.getElem_cons_succ, sA1, sA2, sA4, Nat.zero_mul, Nat.add_zero, Nat.one_mul] at k1 k2 k3
  clear hd1 hd2 hc1 hc2
  go_wp2
  go_ret
  exact ⟨rfl, HB4.out⟩
end Go.Proofs.YtcmfpafcipgejaaGreatDoor
