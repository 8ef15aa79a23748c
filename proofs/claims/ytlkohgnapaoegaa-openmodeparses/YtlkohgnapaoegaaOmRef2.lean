/- Openmode: the reference's Parse. -/
import Derived.Test.YtlkohgnapaoegaaOmRef
namespace Go.Proofs.Ytlkohgnapaoegaa
open Go.RowKit

/-- Does c stand behind the first byte, ahead of the place k? -/
def sn (l : List UInt8) (c : UInt8) (k : Nat) : Bool := (List.range k).any fun j => decide (1 ≤ j) && decide (l.getD j 0 = c)
theorem sn_succ (l : List UInt8) (c : UInt8) (k : Nat) (h : 1 ≤ k) : sn l c (k + 1) = (sn l c k || decide (l.getD k 0 = c)) := by
  simp [sn, List.range_succ, h]
theorem sn_one (l : List UInt8) (c : UInt8) : sn l c 1 = false := by simp [sn]
/-- The mode that the first i bytes say, where the first one is number f. -/
def moI (f : Nat) (l : List UInt8) (i : Nat) : Mo := mo f (sn l 43 i) (sn l 98 i) (sn l 101 i) (sn l 120 i)
def lead : Nat → UInt8
  | 0 => 114
  | 1 => 119
  | _ => 97
theorem moI_one (f : Nat) (l : List UInt8) : moI f l 1 = mo f false false false false := by simp only [moI, sn_one]
theorem moI_step {f : Nat} (hf : f < 3) {l : List UInt8} {i : Nat} : stepM (moI f l i) (l.getD i 0) = nextM f (sn l 43 i) (sn l 98 i) (sn l 101 i) (sn l 120 i) (l.getD i 0) := step_next f hf _ _ _ _ _
theorem moI_twice {f : Nat} (hf : f < 3) {l : List UInt8} {i : Nat} (h : sn l (l.getD i 0) i = true) : stepM (moI f l i) (l.getD i 0) = none := by
  rw [moI_step hf]
  generalize l.getD i 0 = c at *
  unfold nextM
  by_cases h1 : c = 43
  · subst h1; simp [h]
  by_cases h2 : c = 98
  · subst h2; simp [h]
  by_cases h3 : c = 101
  · subst h3; simp [h]
  by_cases h4 : c = 120
  · subst h4; simp [h]
  simp [h1, h2, h3, h4]
theorem moI_plus {f : Nat} (hf : f < 3) {l : List UInt8} {i : Nat} (hi : 1 ≤ i) (h : sn l (l.getD i 0) i = false) (hc : l.getD i 0 = 43) : stepM (moI f l i) (l.getD i 0) = some (moI f l (i + 1)) := by
  rw [moI_step hf]
  rw [hc] at h ⊢
  simp only [moI, sn_succ _ _ _ hi, hc, nextM, h]
  simp
theorem moI_b {f : Nat} (hf : f < 3) {l : List UInt8} {i : Nat} (hi : 1 ≤ i) (h : sn l (l.getD i 0) i = false) (hc : l.getD i 0 = 98) : stepM (moI f l i) (l.getD i 0) = some (moI f l (i + 1)) := by
  rw [moI_step hf]
  rw [hc] at h ⊢
  simp only [moI, sn_succ _ _ _ hi, hc, nextM, h]
  simp
theorem moI_e {f : Nat} (hf : f < 3) {l : List UInt8} {i : Nat} (hi : 1 ≤ i) (h : sn l (l.getD i 0) i = false) (hc : l.getD i 0 = 101) : stepM (moI f l i) (l.getD i 0) = some (moI f l (i + 1)) := by
  rw [moI_step hf]
  rw [hc] at h ⊢
  simp only [moI, sn_succ _ _ _ hi, hc, nextM, h]
  simp
theorem moI_x {l : List UInt8} {i : Nat} (hi : 1 ≤ i) (h : sn l (l.getD i 0) i = false) (hc : l.getD i 0 = 120) : stepM (moI 1 l i) (l.getD i 0) = some (moI 1 l (i + 1)) := by
  rw [moI_step (by decide)]
  rw [hc] at h ⊢
  simp only [moI, sn_succ _ _ _ hi, hc, nextM, h]
  simp
theorem moI_nox {f : Nat} (hf : f < 3) (h1 : f ≠ 1) {l : List UInt8} {i : Nat} (hc : l.getD i 0 = 120) : stepM (moI f l i) (l.getD i 0) = none := by
  rw [moI_step hf]
  rw [hc]
  simp [nextM, h1]
theorem moI_other {f : Nat} (hf : f < 3) {l : List UInt8} {i : Nat} (h1 : l.getD i 0 ≠ 43) (h2 : l.getD i 0 ≠ 98) (h3 : l.getD i 0 ≠ 101) (h4 : l.getD i 0 ≠ 120) : stepM (moI f l i) (l.getD i 0) = none := by
  rw [moI_step hf]
  simp only [nextM, h1, h2, h3, h4, if_false]
theorem moI_begun {f : Nat} (hf : f < 3) (l : List UInt8) (i : Nat) : isNone (moI f l i) = false := by
  match f, hf with
  | 0, _ => simp [moI, mo, isNone]
  | 1, _ => simp [moI, mo, isNone]
  | 2, _ => simp [moI, mo, isNone]
theorem prs_next {m : Mo} {i : Nat} {l : List UInt8} (hi : i < l.length) {m' : Mo} (h : stepM m (l.getD i 0) = some m') : prs m i (l.drop i) = prs m' (i + 1) (l.drop (i + 1)) := by
  rw [drop_getD hi]; simp only [prs, h]
theorem prs_stop {m : Mo} {i : Nat} {l : List UInt8} (hi : i < l.length) (h : stepM m (l.getD i 0) = none) : prs m i (l.drop i) = (mo0, 91, i) := by
  rw [drop_getD hi]; simp only [prs, h]
theorem at_getD {s : ByteArray} {k : Nat} (h : k < s.size) : s[k]'h = s.data.toList.getD k 0 := by
  rw [List.getD_eq_getElem?_getD, List.getElem?_eq_getElem (by simpa using h)]
  simp [ByteArray.getElem_eq_getElem_data]
theorem u8_eq (a b : UInt8) : decide (a = b) = ((a.toNat : Int) == (b.toNat : Int)) := by
  by_cases h : a = b
  · subst h; simp
  · rw [decide_eq_false h]
    symm
    simp only [beq_eq_false_iff_ne, ne_eq]
    intro e
    exact h (UInt8.toNat_inj.1 (by omega))
theorem u8_ne {a b : UInt8} (h : a ≠ b) : ((a.toNat : Int) == (b.toNat : Int)) = false := by
  simp only [beq_eq_false_iff_ne, ne_eq]
  intro e
  exact h (UInt8.toNat_inj.1 (by omega))

theorem turned_set (W : World) (b j : Nat) (x : Bool) : Turned (fun k => k = b) W (W.setCell ⟨b, j, none⟩ (.bool x)) := Turned.set (S := fun k => k = b) (Turned.refl _ _) (.inl rfl)
theorem moI_pl {f : Nat} (hf : f < 3) {l : List UInt8} {i : Nat} (hi : 1 ≤ i) (hc : l.getD i 0 = 43) : moI f l (i + 1) = { moI f l i with rd := true, wr := true } := by
  simp only [moI, sn_succ _ _ _ hi, hc]
  match f, hf with
  | 0, _ => simp [mo]
  | 1, _ => simp [mo]
  | 2, _ => simp [mo]
theorem moI_bi {f : Nat} (hf : f < 3) {l : List UInt8} {i : Nat} (hi : 1 ≤ i) (hc : l.getD i 0 = 98) : moI f l (i + 1) = { moI f l i with bi := true } := by
  simp only [moI, sn_succ _ _ _ hi, hc]
  match f, hf with
  | 0, _ => simp [mo]
  | 1, _ => simp [mo]
  | 2, _ => simp [mo]
theorem moI_ma {f : Nat} (hf : f < 3) {l : List UInt8} {i : Nat} (hi : 1 ≤ i) (hc : l.getD i 0 = 101) : moI f l (i + 1) = { moI f l i with ma := true } := by
  simp only [moI, sn_succ _ _ _ hi, hc]
  match f, hf with
  | 0, _ => simp [mo]
  | 1, _ => simp [mo]
  | 2, _ => simp [mo]
theorem moI_ex {f : Nat} (hf : f < 3) {l : List UInt8} {i : Nat} (hi : 1 ≤ i) (hc : l.getD i 0 = 120) : moI f l (i + 1) = { moI f l i with ex := true } := by
  simp only [moI, sn_succ _ _ _ hi, hc]
  match f, hf with
  | 0, _ => simp [mo]
  | 1, _ => simp [mo]
  | 2, _ => simp [mo]
set_option maxRecDepth 100000 in
set_option maxHeartbeats 4000000 in
theorem rparse_good (f : Nat) (hf : f < 3) (s : ByteArray) (w : World) (hs : s.size ≤ maxLen) (h0 : 0 < s.size) (hb : s.data.toList.getD 0 0 = lead f) : Calls Try.prog 7 #[.string s] w fun e w' => e = .returned (.tuple #[mv (prs mo0 0 s.data.toList).1, .int .i64 (prs mo0 0 s.data.toList).2.1, .int .i64 (prs mo0 0 s.data.toList).2.2]) ∧ Below w.heap.size w w' := by
  unfold maxLen at hs
  have hlen : s.data.toList.length = s.size := by simp
  have he : s.toList.isEmpty = false := by
    rw [ByteArray.toList_eq]
    cases hq : s.data.toList with
    | nil => rw [hq] at hlen; simp at hlen; omega
    | cons _ _ => rfl
  have hR : prs mo0 0 s.data.toList = prs (moI f s.data.toList 1) 1 (s.data.toList.drop 1) := by
    have := prs_next (m := mo0) (i := 0) (l := s.data.toList) (by omega) (m' := mo f false false false false) (by
      rw [hb, step_first]
      match f, hf with
      | 0, _ => rfl
      | 1, _ => rfl
      | 2, _ => rfl)
    rw [moI_one]
    simpa using this
  rw [hR]
  generalize hRR : prs (moI f s.data.toList 1) 1 (s.data.toList.drop 1) = R
  have HR := hide hRR
  clear hR hRR
  have hA0 : MoAt (w.alloc (Obj.cells (mc mo0) 23)) w.heap.size mo0 := heap_alloc_new _ _
  have hA1 : ∀ m, MoAt ((w.alloc (Obj.cells (mc mo0) 23)).alloc (Obj.cells (mc m) 23)) (w.heap.size + 1) m := fun m => by
    have := heap_alloc_new (w.alloc (Obj.cells (mc mo0) 23)) (Obj.cells (mc m) 23)
    rwa [show (w.alloc (Obj.cells (mc mo0) 23)).heap.size = w.heap.size + 1 by simp] at this
  have hA2 : ∀ m, MoAt ((w.alloc (Obj.cells (mc mo0) 23)).alloc (Obj.cells (mc m) 23)) w.heap.size mo0 := fun m => hA0.below ((Below.refl _ _).alloc (Nat.le_refl _) _)
  have hAB : ∀ m, Below w.heap.size w ((w.alloc (Obj.cells (mc mo0) 23)).alloc (Obj.cells (mc m) 23)) := fun m => ((Below.refl w.heap.size w).alloc (Nat.le_refl _) (Obj.cells (mc mo0) 23)).alloc (by simp) (Obj.cells (mc m) 23)
  have H1 := hide hA1
  have H2 := hide hA2
  have H3 := hide hAB
  clear hA0 hA1 hA2 hAB
  have hc : ((s[0]'h0).toNat : Int) = (lead f).toNat := by rw [at_getD, hb]
  have h0i : (0 : Int) < (s.size : Int) := by omega
  match f, hf with
  | 0, hf =>
    simp only [lead] at hc hb
    have HB0 := hide hb
    clear hb
    go_enter Try.func7, Try.ntmps7
    go_wp2
    go_loopg [6] (s.size - 1) (fun g s6 wx => ∃ i : Nat, 1 ≤ i ∧ i + g = s.size ∧ s6 = .int .i64 i ∧ Hid (prs (moI 0 s.data.toList i) i (s.data.toList.drop i) = R) ∧ Hid (MoAt wx w.heap.size mo0) ∧ Hid (MoAt wx (w.heap.size + 1) (moI 0 s.data.toList i)) ∧ Hid (Below w.heap.size w wx))
    case atStart => exact ⟨1, by omega, by omega, rfl, HR, H2.out (mo 0 false false false false), by rw [moI_one]; exact H1.out (mo 0 false false false false), H3.out (mo 0 false false false false)⟩
    case round =>
      clear H1 H2 H3 HR
      obtain ⟨i, hi1, hig, rfl, HP, HM0, HM1, HB⟩ := hrel
      by_cases hlt : i < s.size
      · have hl1 : (i : Int) < (s.size : Int) := by omega
        have hl0 : (0 : Int) ≤ (i : Int) := by omega
        obtain ⟨g, rfl⟩ : ∃ g, gk = g + 1 := ⟨gk - 1, by omega⟩
        go_wp2
        go_loopg [7, 8] (i - 1) (fun g2 s7 s8 wy => ∃ k : Nat, 1 ≤ k ∧ k + g2 = i ∧ s8 = .int .i64 k ∧ s7 = .bool (sn s.data.toList (s.data.toList.getD i 0) k) ∧ Hid (Below wr.heap.size wr wy))
        case atStart => exact ⟨1, by omega, by omega, rfl, by rw [sn_one], Below.refl _ _⟩
        case round =>
          obtain ⟨k, hk1, hkg, rfl, rfl, HBy⟩ := hrel
          have HM0' := hide (HM0.out.below HBy.out)
          have HM1' := hide (HM1.out.below HBy.out)
          have HB' := hide (HB.out.trans (HBy.out.mono HB.out.size))
          by_cases hki : k < i
          · have hk3 : (k : Int) < (i : Int) := by omega
            have hk4 : (0 : Int) ≤ (k : Int) := by omega
            have hk5 : (k : Int) < (s.size : Int) := by omega
            obtain ⟨g2, rfl⟩ : ∃ g2, gk = g2 + 1 := ⟨gk - 1, by omega⟩
            have hks : k < s.size := by omega
            have HS := hide (sn_succ s.data.toList (s.data.toList.getD i 0) k hk1)
            have HX := hide (at_getD hks)
            have HY := hide (at_getD hlt)
            cases ht : sn s.data.toList (s.data.toList.getD i 0) k with
            | true =>
              have HT := hide ht
              clear ht
              go_wp2
              go_quiet (fail)
              go_wp2
              go_roundg g2
              case measure => omega
              case rel => exact ⟨k + 1, by omega, by omega, by go_num, by rw [HS.out, HT.out]; rfl, below_drewN HBy.out _⟩
            | false =>
              have HT := hide ht
              clear ht
              go_wp2
              go_quiet (fail)
              go_wp2
              go_roundg g2
              case measure => omega
              case rel => exact ⟨k + 1, by omega, by omega, by go_num, by rw [HS.out, HT.out, ← HX.out, ← HY.out, Bool.false_or, u8_eq], below_drewN HBy.out _⟩
          · obtain rfl : k = i := by omega
            have HY := hide (at_getD hlt)
            have hlk : k < s.data.toList.length := by omega
            cases ht : sn s.data.toList (s.data.toList.getD k 0) k with
            | true =>
              have HT := hide ht
              clear ht
              obtain ⟨d0, d1, d2, d3, d4, d5, d6, d7⟩ := HM0'.out.mc
              obtain ⟨f0, f1, f2, f3, f4, f5, f6, f7⟩ := HM0'.out.ms
              go_wp2
              obtain ⟨p1, p2⟩ := HM0'.out.put mo0
              refine bodyPost_ret (res_mode rfl _ w.heap.size rfl mo0 p1) rfl ?_
              have hv : R = (mo0, 91, k) := by rw [← HP.out]; exact prs_stop (by omega) (moI_twice hf HT.out)
              subst hv
              exact ⟨rfl, (HB'.out.trans (p2.below (B := w.heap.size) (by intro k e; omega) HB'.out.size))⟩
            | false =>
              have HT := hide ht
              clear ht
              by_cases b1 : s.data.toList.getD k 0 = 43
              · have hbv : ((s[k]'hlt).toNat : Int) = 43 := by rw [HY.out, b1]; rfl
                have HB1 := hide b1
                clear b1
                have c0 := HM1'.out.mc.1
                have q0 := HM1'.out.soft 0
                have c1 := HM1'.out.mc.2.1
                have q1 := HM1'.out.soft 1
                have hS := moI_plus hf hk1 HT.out HB1.out
                have HS := hide hS
                clear hS
                go_wp2
                have hT := (turned_set wr (w.heap.size + 1) 0 true).trans (turned_set _ (w.heap.size + 1) 1 true) (fun _ _ e => e)
                have hM := ((HM1'.out.s0 true).s1 true)
                go_roundg g
                case measure => omega
                case rel => exact ⟨k + 1, by omega, by omega, by go_num, (prs_next (by omega) HS.out).symm.trans HP.out, HM0'.out.keep hT (by omega), by show MoAt _ _ _; rw [moI_pl hf hk1 HB1.out]; exact hM, HB'.out.trans (hT.below (B := w.heap.size) (by intro k e; omega) HB'.out.size)⟩
              have g1 : ((s[k]'hlt).toNat : Int) ≠ 43 := by rw [HY.out]; exact fun e => b1 (UInt8.toNat_inj.1 (show _ = 43 by omega))
              by_cases b2 : s.data.toList.getD k 0 = 98
              · have hbv : ((s[k]'hlt).toNat : Int) = 98 := by rw [HY.out, b2]; rfl
                have HB1 := hide b2
                clear b1 b2 g1
                have c6 := HM1'.out.mc.2.2.2.2.2.2.1
                have q6 := HM1'.out.soft 6
                have hS := moI_b hf hk1 HT.out HB1.out
                have HS := hide hS
                clear hS
                go_wp2
                have hT := turned_set wr (w.heap.size + 1) 6 true
                have hM := (HM1'.out.s6 true)
                go_roundg g
                case measure => omega
                case rel => exact ⟨k + 1, by omega, by omega, by go_num, (prs_next (by omega) HS.out).symm.trans HP.out, HM0'.out.keep hT (by omega), by show MoAt _ _ _; rw [moI_bi hf hk1 HB1.out]; exact hM, HB'.out.trans (hT.below (B := w.heap.size) (by intro k e; omega) HB'.out.size)⟩
              have g2 : ((s[k]'hlt).toNat : Int) ≠ 98 := by rw [HY.out]; exact fun e => b2 (UInt8.toNat_inj.1 (show _ = 98 by omega))
              by_cases b3 : s.data.toList.getD k 0 = 101
              · have hbv : ((s[k]'hlt).toNat : Int) = 101 := by rw [HY.out, b3]; rfl
                have HB1 := hide b3
                clear b1 b2 b3 g1 g2
                have c7 := HM1'.out.mc.2.2.2.2.2.2.2
                have q7 := HM1'.out.soft 7
                have hS := moI_e hf hk1 HT.out HB1.out
                have HS := hide hS
                clear hS
                go_wp2
                have hT := turned_set wr (w.heap.size + 1) 7 true
                have hM := (HM1'.out.s7 true)
                go_roundg g
                case measure => omega
                case rel => exact ⟨k + 1, by omega, by omega, by go_num, (prs_next (by omega) HS.out).symm.trans HP.out, HM0'.out.keep hT (by omega), by show MoAt _ _ _; rw [moI_ma hf hk1 HB1.out]; exact hM, HB'.out.trans (hT.below (B := w.heap.size) (by intro k e; omega) HB'.out.size)⟩
              have g3 : ((s[k]'hlt).toNat : Int) ≠ 101 := by rw [HY.out]; exact fun e => b3 (UInt8.toNat_inj.1 (show _ = 101 by omega))
              by_cases b4 : s.data.toList.getD k 0 = 120
              · have hbv : ((s[k]'hlt).toNat : Int) = 120 := by rw [HY.out, b4]; rfl
                have HB1 := hide b4
                clear b1 b2 b3 b4 g1 g2 g3
                obtain ⟨d0, d1, d2, d3, d4, d5, d6, d7⟩ := HM0'.out.mc
                obtain ⟨f0, f1, f2, f3, f4, f5, f6, f7⟩ := HM0'.out.ms
                go_wp2
                obtain ⟨p1, p2⟩ := HM0'.out.put mo0
                refine bodyPost_ret (res_mode rfl _ w.heap.size rfl mo0 p1) rfl ?_
                have hv : R = (mo0, 91, k) := by rw [← HP.out]; exact prs_stop (by omega) (moI_nox (f := 0) hf (by decide) HB1.out)
                subst hv
                exact ⟨rfl, (HB'.out.trans (p2.below (B := w.heap.size) (by intro k e; omega) HB'.out.size))⟩
              have g4 : ((s[k]'hlt).toNat : Int) ≠ 120 := by rw [HY.out]; exact fun e => b4 (UInt8.toNat_inj.1 (show _ = 120 by omega))
              have HO := hide (moI_other (f := 0) hf b1 b2 b3 b4)
              clear b1 b2 b3 b4
              obtain ⟨d0, d1, d2, d3, d4, d5, d6, d7⟩ := HM0'.out.mc
              obtain ⟨f0, f1, f2, f3, f4, f5, f6, f7⟩ := HM0'.out.ms
              go_wp2
              obtain ⟨p1, p2⟩ := HM0'.out.put mo0
              refine bodyPost_ret (res_mode rfl _ w.heap.size rfl mo0 p1) rfl ?_
              have hv : R = (mo0, 91, k) := by rw [← HP.out]; exact prs_stop (by omega) (HO.out)
              subst hv
              exact ⟨rfl, (HB'.out.trans (p2.below (B := w.heap.size) (by intro k e; omega) HB'.out.size))⟩
      · have hl1 : ¬ (i : Int) < (s.size : Int) := by omega
        have hnil : s.data.toList.drop i = [] := List.drop_eq_nil_of_le (by omega)
        have hp := HP.out
        rw [hnil] at hp
        have HP2 := hide hp
        clear hnil hp HP
        obtain ⟨c0, c1, c2, c3, c4, c5, c6, c7⟩ := HM1.out.mc
        obtain ⟨d0, d1, d2, d3, d4, d5, d6, d7⟩ := HM0.out.mc
        obtain ⟨f0, f1, f2, f3, f4, f5, f6, f7⟩ := HM0.out.ms
        go_wp2
        obtain ⟨p1, p2⟩ := HM0.out.put (moI 0 s.data.toList i)
        refine bodyPost_ret (res_mode rfl _ w.heap.size rfl (moI 0 s.data.toList i) p1) rfl ?_
        have hv : R = (moI 0 s.data.toList i, 0, i) := by rw [← HP2.out]; simp [prs, moI_begun hf]
        subst hv
        exact ⟨by rw [show (s.size : Int) = (i : Int) by omega]; rfl, (HB.out.trans (p2.below (B := w.heap.size) (by intro k e; omega) HB.out.size))⟩
  | 1, hf =>
    simp only [lead] at hc hb
    have HB0 := hide hb
    clear hb
    go_enter Try.func7, Try.ntmps7
    go_wp2
    go_loopg [6] (s.size - 1) (fun g s6 wx => ∃ i : Nat, 1 ≤ i ∧ i + g = s.size ∧ s6 = .int .i64 i ∧ Hid (prs (moI 1 s.data.toList i) i (s.data.toList.drop i) = R) ∧ Hid (MoAt wx w.heap.size mo0) ∧ Hid (MoAt wx (w.heap.size + 1) (moI 1 s.data.toList i)) ∧ Hid (Below w.heap.size w wx))
    case atStart => exact ⟨1, by omega, by omega, rfl, HR, H2.out (mo 1 false false false false), by rw [moI_one]; exact H1.out (mo 1 false false false false), H3.out (mo 1 false false false false)⟩
    case round =>
      clear H1 H2 H3 HR
      obtain ⟨i, hi1, hig, rfl, HP, HM0, HM1, HB⟩ := hrel
      by_cases hlt : i < s.size
      · have hl1 : (i : Int) < (s.size : Int) := by omega
        have hl0 : (0 : Int) ≤ (i : Int) := by omega
        obtain ⟨g, rfl⟩ : ∃ g, gk = g + 1 := ⟨gk - 1, by omega⟩
        go_wp2
        go_loopg [7, 8] (i - 1) (fun g2 s7 s8 wy => ∃ k : Nat, 1 ≤ k ∧ k + g2 = i ∧ s8 = .int .i64 k ∧ s7 = .bool (sn s.data.toList (s.data.toList.getD i 0) k) ∧ Hid (Below wr.heap.size wr wy))
        case atStart => exact ⟨1, by omega, by omega, rfl, by rw [sn_one], Below.refl _ _⟩
        case round =>
          obtain ⟨k, hk1, hkg, rfl, rfl, HBy⟩ := hrel
          have HM0' := hide (HM0.out.below HBy.out)
          have HM1' := hide (HM1.out.below HBy.out)
          have HB' := hide (HB.out.trans (HBy.out.mono HB.out.size))
          by_cases hki : k < i
          · have hk3 : (k : Int) < (i : Int) := by omega
            have hk4 : (0 : Int) ≤ (k : Int) := by omega
            have hk5 : (k : Int) < (s.size : Int) := by omega
            obtain ⟨g2, rfl⟩ : ∃ g2, gk = g2 + 1 := ⟨gk - 1, by omega⟩
            have hks : k < s.size := by omega
            have HS := hide (sn_succ s.data.toList (s.data.toList.getD i 0) k hk1)
            have HX := hide (at_getD hks)
            have HY := hide (at_getD hlt)
            cases ht : sn s.data.toList (s.data.toList.getD i 0) k with
            | true =>
              have HT := hide ht
              clear ht
              go_wp2
              go_quiet (fail)
              go_wp2
              go_roundg g2
              case measure => omega
              case rel => exact ⟨k + 1, by omega, by omega, by go_num, by rw [HS.out, HT.out]; rfl, below_drewN HBy.out _⟩
            | false =>
              have HT := hide ht
              clear ht
              go_wp2
              go_quiet (fail)
              go_wp2
              go_roundg g2
              case measure => omega
              case rel => exact ⟨k + 1, by omega, by omega, by go_num, by rw [HS.out, HT.out, ← HX.out, ← HY.out, Bool.false_or, u8_eq], below_drewN HBy.out _⟩
          · obtain rfl : k = i := by omega
            have HY := hide (at_getD hlt)
            have hlk : k < s.data.toList.length := by omega
            cases ht : sn s.data.toList (s.data.toList.getD k 0) k with
            | true =>
              have HT := hide ht
              clear ht
              obtain ⟨d0, d1, d2, d3, d4, d5, d6, d7⟩ := HM0'.out.mc
              obtain ⟨f0, f1, f2, f3, f4, f5, f6, f7⟩ := HM0'.out.ms
              go_wp2
              obtain ⟨p1, p2⟩ := HM0'.out.put mo0
              refine bodyPost_ret (res_mode rfl _ w.heap.size rfl mo0 p1) rfl ?_
              have hv : R = (mo0, 91, k) := by rw [← HP.out]; exact prs_stop (by omega) (moI_twice hf HT.out)
              subst hv
              exact ⟨rfl, (HB'.out.trans (p2.below (B := w.heap.size) (by intro k e; omega) HB'.out.size))⟩
            | false =>
              have HT := hide ht
              clear ht
              by_cases b1 : s.data.toList.getD k 0 = 43
              · have hbv : ((s[k]'hlt).toNat : Int) = 43 := by rw [HY.out, b1]; rfl
                have HB1 := hide b1
                clear b1
                have c0 := HM1'.out.mc.1
                have q0 := HM1'.out.soft 0
                have c1 := HM1'.out.mc.2.1
                have q1 := HM1'.out.soft 1
                have hS := moI_plus hf hk1 HT.out HB1.out
                have HS := hide hS
                clear hS
                go_wp2
                have hT := (turned_set wr (w.heap.size + 1) 0 true).trans (turned_set _ (w.heap.size + 1) 1 true) (fun _ _ e => e)
                have hM := ((HM1'.out.s0 true).s1 true)
                go_roundg g
                case measure => omega
                case rel => exact ⟨k + 1, by omega, by omega, by go_num, (prs_next (by omega) HS.out).symm.trans HP.out, HM0'.out.keep hT (by omega), by show MoAt _ _ _; rw [moI_pl hf hk1 HB1.out]; exact hM, HB'.out.trans (hT.below (B := w.heap.size) (by intro k e; omega) HB'.out.size)⟩
              have g1 : ((s[k]'hlt).toNat : Int) ≠ 43 := by rw [HY.out]; exact fun e => b1 (UInt8.toNat_inj.1 (show _ = 43 by omega))
              by_cases b2 : s.data.toList.getD k 0 = 98
              · have hbv : ((s[k]'hlt).toNat : Int) = 98 := by rw [HY.out, b2]; rfl
                have HB1 := hide b2
                clear b1 b2 g1
                have c6 := HM1'.out.mc.2.2.2.2.2.2.1
                have q6 := HM1'.out.soft 6
                have hS := moI_b hf hk1 HT.out HB1.out
                have HS := hide hS
                clear hS
                go_wp2
                have hT := turned_set wr (w.heap.size + 1) 6 true
                have hM := (HM1'.out.s6 true)
                go_roundg g
                case measure => omega
                case rel => exact ⟨k + 1, by omega, by omega, by go_num, (prs_next (by omega) HS.out).symm.trans HP.out, HM0'.out.keep hT (by omega), by show MoAt _ _ _; rw [moI_bi hf hk1 HB1.out]; exact hM, HB'.out.trans (hT.below (B := w.heap.size) (by intro k e; omega) HB'.out.size)⟩
              have g2 : ((s[k]'hlt).toNat : Int) ≠ 98 := by rw [HY.out]; exact fun e => b2 (UInt8.toNat_inj.1 (show _ = 98 by omega))
              by_cases b3 : s.data.toList.getD k 0 = 101
              · have hbv : ((s[k]'hlt).toNat : Int) = 101 := by rw [HY.out, b3]; rfl
                have HB1 := hide b3
                clear b1 b2 b3 g1 g2
                have c7 := HM1'.out.mc.2.2.2.2.2.2.2
                have q7 := HM1'.out.soft 7
                have hS := moI_e hf hk1 HT.out HB1.out
                have HS := hide hS
                clear hS
                go_wp2
                have hT := turned_set wr (w.heap.size + 1) 7 true
                have hM := (HM1'.out.s7 true)
                go_roundg g
                case measure => omega
                case rel => exact ⟨k + 1, by omega, by omega, by go_num, (prs_next (by omega) HS.out).symm.trans HP.out, HM0'.out.keep hT (by omega), by show MoAt _ _ _; rw [moI_ma hf hk1 HB1.out]; exact hM, HB'.out.trans (hT.below (B := w.heap.size) (by intro k e; omega) HB'.out.size)⟩
              have g3 : ((s[k]'hlt).toNat : Int) ≠ 101 := by rw [HY.out]; exact fun e => b3 (UInt8.toNat_inj.1 (show _ = 101 by omega))
              by_cases b4 : s.data.toList.getD k 0 = 120
              · have hbv : ((s[k]'hlt).toNat : Int) = 120 := by rw [HY.out, b4]; rfl
                have HB1 := hide b4
                clear b1 b2 b3 b4 g1 g2 g3
                have c5 := HM1'.out.mc.2.2.2.2.2.1
                have q5 := HM1'.out.soft 5
                have hS := moI_x hk1 HT.out HB1.out
                have HS := hide hS
                clear hS
                go_wp2
                have hT := turned_set wr (w.heap.size + 1) 5 true
                have hM := (HM1'.out.s5 true)
                go_roundg g
                case measure => omega
                case rel => exact ⟨k + 1, by omega, by omega, by go_num, (prs_next (by omega) HS.out).symm.trans HP.out, HM0'.out.keep hT (by omega), by show MoAt _ _ _; rw [moI_ex hf hk1 HB1.out]; exact hM, HB'.out.trans (hT.below (B := w.heap.size) (by intro k e; omega) HB'.out.size)⟩
              have g4 : ((s[k]'hlt).toNat : Int) ≠ 120 := by rw [HY.out]; exact fun e => b4 (UInt8.toNat_inj.1 (show _ = 120 by omega))
              have HO := hide (moI_other (f := 1) hf b1 b2 b3 b4)
              clear b1 b2 b3 b4
              obtain ⟨d0, d1, d2, d3, d4, d5, d6, d7⟩ := HM0'.out.mc
              obtain ⟨f0, f1, f2, f3, f4, f5, f6, f7⟩ := HM0'.out.ms
              go_wp2
              obtain ⟨p1, p2⟩ := HM0'.out.put mo0
              refine bodyPost_ret (res_mode rfl _ w.heap.size rfl mo0 p1) rfl ?_
              have hv : R = (mo0, 91, k) := by rw [← HP.out]; exact prs_stop (by omega) (HO.out)
              subst hv
              exact ⟨rfl, (HB'.out.trans (p2.below (B := w.heap.size) (by intro k e; omega) HB'.out.size))⟩
      · have hl1 : ¬ (i : Int) < (s.size : Int) := by omega
        have hnil : s.data.toList.drop i = [] := List.drop_eq_nil_of_le (by omega)
        have hp := HP.out
        rw [hnil] at hp
        have HP2 := hide hp
        clear hnil hp HP
        obtain ⟨c0, c1, c2, c3, c4, c5, c6, c7⟩ := HM1.out.mc
        obtain ⟨d0, d1, d2, d3, d4, d5, d6, d7⟩ := HM0.out.mc
        obtain ⟨f0, f1, f2, f3, f4, f5, f6, f7⟩ := HM0.out.ms
        go_wp2
        obtain ⟨p1, p2⟩ := HM0.out.put (moI 1 s.data.toList i)
        refine bodyPost_ret (res_mode rfl _ w.heap.size rfl (moI 1 s.data.toList i) p1) rfl ?_
        have hv : R = (moI 1 s.data.toList i, 0, i) := by rw [← HP2.out]; simp [prs, moI_begun hf]
        subst hv
        exact ⟨by rw [show (s.size : Int) = (i : Int) by omega]; rfl, (HB.out.trans (p2.below (B := w.heap.size) (by intro k e; omega) HB.out.size))⟩
  | 2, hf =>
    simp only [lead] at hc hb
    have HB0 := hide hb
    clear hb
    go_enter Try.func7, Try.ntmps7
    go_wp2
    go_loopg [6] (s.size - 1) (fun g s6 wx => ∃ i : Nat, 1 ≤ i ∧ i + g = s.size ∧ s6 = .int .i64 i ∧ Hid (prs (moI 2 s.data.toList i) i (s.data.toList.drop i) = R) ∧ Hid (MoAt wx w.heap.size mo0) ∧ Hid (MoAt wx (w.heap.size + 1) (moI 2 s.data.toList i)) ∧ Hid (Below w.heap.size w wx))
    case atStart => exact ⟨1, by omega, by omega, rfl, HR, H2.out (mo 2 false false false false), by rw [moI_one]; exact H1.out (mo 2 false false false false), H3.out (mo 2 false false false false)⟩
    case round =>
      clear H1 H2 H3 HR
      obtain ⟨i, hi1, hig, rfl, HP, HM0, HM1, HB⟩ := hrel
      by_cases hlt : i < s.size
      · have hl1 : (i : Int) < (s.size : Int) := by omega
        have hl0 : (0 : Int) ≤ (i : Int) := by omega
        obtain ⟨g, rfl⟩ : ∃ g, gk = g + 1 := ⟨gk - 1, by omega⟩
        go_wp2
        go_loopg [7, 8] (i - 1) (fun g2 s7 s8 wy => ∃ k : Nat, 1 ≤ k ∧ k + g2 = i ∧ s8 = .int .i64 k ∧ s7 = .bool (sn s.data.toList (s.data.toList.getD i 0) k) ∧ Hid (Below wr.heap.size wr wy))
        case atStart => exact ⟨1, by omega, by omega, rfl, by rw [sn_one], Below.refl _ _⟩
        case round =>
          obtain ⟨k, hk1, hkg, rfl, rfl, HBy⟩ := hrel
          have HM0' := hide (HM0.out.below HBy.out)
          have HM1' := hide (HM1.out.below HBy.out)
          have HB' := hide (HB.out.trans (HBy.out.mono HB.out.size))
          by_cases hki : k < i
          · have hk3 : (k : Int) < (i : Int) := by omega
            have hk4 : (0 : Int) ≤ (k : Int) := by omega
            have hk5 : (k : Int) < (s.size : Int) := by omega
            obtain ⟨g2, rfl⟩ : ∃ g2, gk = g2 + 1 := ⟨gk - 1, by omega⟩
            have hks : k < s.size := by omega
            have HS := hide (sn_succ s.data.toList (s.data.toList.getD i 0) k hk1)
            have HX := hide (at_getD hks)
            have HY := hide (at_getD hlt)
            cases ht : sn s.data.toList (s.data.toList.getD i 0) k with
            | true =>
              have HT := hide ht
              clear ht
              go_wp2
              go_quiet (fail)
              go_wp2
              go_roundg g2
              case measure => omega
              case rel => exact ⟨k + 1, by omega, by omega, by go_num, by rw [HS.out, HT.out]; rfl, below_drewN HBy.out _⟩
            | false =>
              have HT := hide ht
              clear ht
              go_wp2
              go_quiet (fail)
              go_wp2
              go_roundg g2
              case measure => omega
              case rel => exact ⟨k + 1, by omega, by omega, by go_num, by rw [HS.out, HT.out, ← HX.out, ← HY.out, Bool.false_or, u8_eq], below_drewN HBy.out _⟩
          · obtain rfl : k = i := by omega
            have HY := hide (at_getD hlt)
            have hlk : k < s.data.toList.length := by omega
            cases ht : sn s.data.toList (s.data.toList.getD k 0) k with
            | true =>
              have HT := hide ht
              clear ht
              obtain ⟨d0, d1, d2, d3, d4, d5, d6, d7⟩ := HM0'.out.mc
              obtain ⟨f0, f1, f2, f3, f4, f5, f6, f7⟩ := HM0'.out.ms
              go_wp2
              obtain ⟨p1, p2⟩ := HM0'.out.put mo0
              refine bodyPost_ret (res_mode rfl _ w.heap.size rfl mo0 p1) rfl ?_
              have hv : R = (mo0, 91, k) := by rw [← HP.out]; exact prs_stop (by omega) (moI_twice hf HT.out)
              subst hv
              exact ⟨rfl, (HB'.out.trans (p2.below (B := w.heap.size) (by intro k e; omega) HB'.out.size))⟩
            | false =>
              have HT := hide ht
              clear ht
              by_cases b1 : s.data.toList.getD k 0 = 43
              · have hbv : ((s[k]'hlt).toNat : Int) = 43 := by rw [HY.out, b1]; rfl
                have HB1 := hide b1
                clear b1
                have c0 := HM1'.out.mc.1
                have q0 := HM1'.out.soft 0
                have c1 := HM1'.out.mc.2.1
                have q1 := HM1'.out.soft 1
                have hS := moI_plus hf hk1 HT.out HB1.out
                have HS := hide hS
                clear hS
                go_wp2
                have hT := (turned_set wr (w.heap.size + 1) 0 true).trans (turned_set _ (w.heap.size + 1) 1 true) (fun _ _ e => e)
                have hM := ((HM1'.out.s0 true).s1 true)
                go_roundg g
                case measure => omega
                case rel => exact ⟨k + 1, by omega, by omega, by go_num, (prs_next (by omega) HS.out).symm.trans HP.out, HM0'.out.keep hT (by omega), by show MoAt _ _ _; rw [moI_pl hf hk1 HB1.out]; exact hM, HB'.out.trans (hT.below (B := w.heap.size) (by intro k e; omega) HB'.out.size)⟩
              have g1 : ((s[k]'hlt).toNat : Int) ≠ 43 := by rw [HY.out]; exact fun e => b1 (UInt8.toNat_inj.1 (show _ = 43 by omega))
              by_cases b2 : s.data.toList.getD k 0 = 98
              · have hbv : ((s[k]'hlt).toNat : Int) = 98 := by rw [HY.out, b2]; rfl
                have HB1 := hide b2
                clear b1 b2 g1
                have c6 := HM1'.out.mc.2.2.2.2.2.2.1
                have q6 := HM1'.out.soft 6
                have hS := moI_b hf hk1 HT.out HB1.out
                have HS := hide hS
                clear hS
                go_wp2
                have hT := turned_set wr (w.heap.size + 1) 6 true
                have hM := (HM1'.out.s6 true)
                go_roundg g
                case measure => omega
                case rel => exact ⟨k + 1, by omega, by omega, by go_num, (prs_next (by omega) HS.out).symm.trans HP.out, HM0'.out.keep hT (by omega), by show MoAt _ _ _; rw [moI_bi hf hk1 HB1.out]; exact hM, HB'.out.trans (hT.below (B := w.heap.size) (by intro k e; omega) HB'.out.size)⟩
              have g2 : ((s[k]'hlt).toNat : Int) ≠ 98 := by rw [HY.out]; exact fun e => b2 (UInt8.toNat_inj.1 (show _ = 98 by omega))
              by_cases b3 : s.data.toList.getD k 0 = 101
              · have hbv : ((s[k]'hlt).toNat : Int) = 101 := by rw [HY.out, b3]; rfl
                have HB1 := hide b3
                clear b1 b2 b3 g1 g2
                have c7 := HM1'.out.mc.2.2.2.2.2.2.2
                have q7 := HM1'.out.soft 7
                have hS := moI_e hf hk1 HT.out HB1.out
                have HS := hide hS
                clear hS
                go_wp2
                have hT := turned_set wr (w.heap.size + 1) 7 true
                have hM := (HM1'.out.s7 true)
                go_roundg g
                case measure => omega
                case rel => exact ⟨k + 1, by omega, by omega, by go_num, (prs_next (by omega) HS.out).symm.trans HP.out, HM0'.out.keep hT (by omega), by show MoAt _ _ _; rw [moI_ma hf hk1 HB1.out]; exact hM, HB'.out.trans (hT.below (B := w.heap.size) (by intro k e; omega) HB'.out.size)⟩
              have g3 : ((s[k]'hlt).toNat : Int) ≠ 101 := by rw [HY.out]; exact fun e => b3 (UInt8.toNat_inj.1 (show _ = 101 by omega))
              by_cases b4 : s.data.toList.getD k 0 = 120
              · have hbv : ((s[k]'hlt).toNat : Int) = 120 := by rw [HY.out, b4]; rfl
                have HB1 := hide b4
                clear b1 b2 b3 b4 g1 g2 g3
                obtain ⟨d0, d1, d2, d3, d4, d5, d6, d7⟩ := HM0'.out.mc
                obtain ⟨f0, f1, f2, f3, f4, f5, f6, f7⟩ := HM0'.out.ms
                go_wp2
                obtain ⟨p1, p2⟩ := HM0'.out.put mo0
                refine bodyPost_ret (res_mode rfl _ w.heap.size rfl mo0 p1) rfl ?_
                have hv : R = (mo0, 91, k) := by rw [← HP.out]; exact prs_stop (by omega) (moI_nox (f := 2) hf (by decide) HB1.out)
                subst hv
                exact ⟨rfl, (HB'.out.trans (p2.below (B := w.heap.size) (by intro k e; omega) HB'.out.size))⟩
              have g4 : ((s[k]'hlt).toNat : Int) ≠ 120 := by rw [HY.out]; exact fun e => b4 (UInt8.toNat_inj.1 (show _ = 120 by omega))
              have HO := hide (moI_other (f := 2) hf b1 b2 b3 b4)
              clear b1 b2 b3 b4
              obtain ⟨d0, d1, d2, d3, d4, d5, d6, d7⟩ := HM0'.out.mc
              obtain ⟨f0, f1, f2, f3, f4, f5, f6, f7⟩ := HM0'.out.ms
              go_wp2
              obtain ⟨p1, p2⟩ := HM0'.out.put mo0
              refine bodyPost_ret (res_mode rfl _ w.heap.size rfl mo0 p1) rfl ?_
              have hv : R = (mo0, 91, k) := by rw [← HP.out]; exact prs_stop (by omega) (HO.out)
              subst hv
              exact ⟨rfl, (HB'.out.trans (p2.below (B := w.heap.size) (by intro k e; omega) HB'.out.size))⟩
      · have hl1 : ¬ (i : Int) < (s.size : Int) := by omega
        have hnil : s.data.toList.drop i = [] := List.drop_eq_nil_of_le (by omega)
        have hp := HP.out
        rw [hnil] at hp
        have HP2 := hide hp
        clear hnil hp HP
        obtain ⟨c0, c1, c2, c3, c4, c5, c6, c7⟩ := HM1.out.mc
        obtain ⟨d0, d1, d2, d3, d4, d5, d6, d7⟩ := HM0.out.mc
        obtain ⟨f0, f1, f2, f3, f4, f5, f6, f7⟩ := HM0.out.ms
        go_wp2
        obtain ⟨p1, p2⟩ := HM0.out.put (moI 2 s.data.toList i)
        refine bodyPost_ret (res_mode rfl _ w.heap.size rfl (moI 2 s.data.toList i) p1) rfl ?_
        have hv : R = (moI 2 s.data.toList i, 0, i) := by rw [← HP2.out]; simp [prs, moI_begun hf]
        subst hv
        exact ⟨by rw [show (s.size : Int) = (i : Int) by omega]; rfl, (HB.out.trans (p2.below (B := w.heap.size) (by intro k e; omega) HB.out.size))⟩
end Go.Proofs.Ytlkohgnapaoegaa
