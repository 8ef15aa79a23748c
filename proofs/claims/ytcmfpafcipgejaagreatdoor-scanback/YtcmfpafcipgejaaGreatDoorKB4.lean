/- What the proof stands on, part 4: the contracts of the program's calls that it reaches. -/
import Derived.Test.YtcmfpafcipgejaaGreatDoorKB3
import Derived.Lib.AppendStr
import Derived.KernelRfl
import Derived.Deep.RegionHeld3
import Derived.Deep.AppendLies
/- Format: first: what a pattern's first bytes say. -/
namespace Go.Proofs.YtcmfpafcipgejaaGreatDoor
open Go.RowKit

structure AH (W : World) (b o : Nat) (x : Ag) : Prop where
  c0 : W.cell? ⟨b, o, none⟩ = some (.int .i64 x.kind)
  c1 : W.cell? ⟨b, o + 1, none⟩ = some (.int .i64 x.int)
  c2 : W.cell? ⟨b, o + 2, none⟩ = some (.int .u64 x.uint)
  c3 : W.cell? ⟨b, o + 3, none⟩ = some (.string x.text)
theorem AH.lt {W : World} {b o : Nat} {x : Ag} (h : AH W b o x) : b < W.heap.size := World.block_lt_of_cell? W _ h.c0
theorem AH.below {W W' : World} {b o : Nat} {x : Ag} (h : AH W b o x) (hB : Below W.heap.size W W') : AH W' b o x :=
  ⟨(hB.cell (p := ⟨b, o, none⟩) h.lt).trans h.c0, (hB.cell (p := ⟨b, o + 1, none⟩) h.lt).trans h.c1, (hB.cell (p := ⟨b, o + 2, none⟩) h.lt).trans h.c2, (hB.cell (p := ⟨b, o + 3, none⟩) h.lt).trans h.c3⟩
theorem AH.set {W : World} {b o k j : Nat} {x : Ag} {u : Value} (h : AH W b o x) (hne : b ≠ k) : AH (W.setCell ⟨k, j, none⟩ u) b o x :=
  ⟨(World.cell?_setCell_other _ _ _ _ (fun e => hne (congrArg Addr.block e).symm)).trans h.c0, (World.cell?_setCell_other _ _ _ _ (fun e => hne (congrArg Addr.block e).symm)).trans h.c1, (World.cell?_setCell_other _ _ _ _ (fun e => hne (congrArg Addr.block e).symm)).trans h.c2, (World.cell?_setCell_other _ _ _ _ (fun e => hne (congrArg Addr.block e).symm)).trans h.c3⟩
theorem DC.set {W : World} {g k j : Nat} {fl : Int} {wd pr : Nat} {c : Int} {pt : Bool} {u : Value} (h : DC W g fl wd pr c pt) (hne : g ≠ k) : DC (W.setCell ⟨k, j, none⟩ u) g fl wd pr c pt :=
  ⟨(World.cell?_setCell_other _ _ _ _ (fun e => hne (congrArg Addr.block e).symm)).trans h.c0, (World.cell?_setCell_other _ _ _ _ (fun e => hne (congrArg Addr.block e).symm)).trans h.c1, (World.cell?_setCell_other _ _ _ _ (fun e => hne (congrArg Addr.block e).symm)).trans h.c2, (World.cell?_setCell_other _ _ _ _ (fun e => hne (congrArg Addr.block e).symm)).trans h.c3, (World.cell?_setCell_other _ _ _ _ (fun e => hne (congrArg Addr.block e).symm)).trans h.c4⟩
structure AB (x : Ag) : Prop where
  kind : N64 x.kind
  int : N64 x.int
  lo : 0 ≤ x.uint
  hi : x.uint ≤ 18446744073709551615
  text : x.text.size ≤ maxLen
def AgsV (W : World) (v : Value) (l : List Ag) : Prop :=
  ∃ a c, v = .slice a l.length c ∧ l.length ≤ c ∧ (0 < l.length → ∃ b off, a = some ⟨b, off, none⟩ ∧ ∀ j (hj : j < l.length), AH W b (off + j * 4) l[j]) ∧ ∀ x ∈ l, AB x
theorem AgsV.below {W W' : World} {v : Value} {l : List Ag} (h : AgsV W v l) (hB : Below W.heap.size W W') : AgsV W' v l := by
  obtain ⟨a, c, rfl, hc, hd, hb⟩ := h
  refine ⟨a, c, rfl, hc, fun h0 => ?_, hb⟩
  obtain ⟨b, off, rfl, he⟩ := hd h0
  exact ⟨b, off, rfl, fun j hj => (he j hj).below hB⟩
structure PC (W : World) (g : Nat) (x : ByteArray) (n k : Int) : Prop where
  c0 : W.cell? ⟨g, 0, none⟩ = some (.string x)
  c1 : W.cell? ⟨g, 1, none⟩ = some (.int .i64 n)
  c2 : W.cell? ⟨g, 2, none⟩ = some (.int .i64 k)
  f0 : W.frozen? ⟨g, 0, none⟩ = false
  f1 : W.frozen? ⟨g, 1, none⟩ = false
  f2 : W.frozen? ⟨g, 2, none⟩ = false
theorem PC.lt {W : World} {g : Nat} {x : ByteArray} {n k : Int} (h : PC W g x n k) : g < W.heap.size := World.block_lt_of_cell? W _ h.c0
theorem PC.below {W W' : World} {g : Nat} {x : ByteArray} {n k : Int} (h : PC W g x n k) (hB : Below W.heap.size W W') : PC W' g x n k :=
  ⟨(hB.cell (p := ⟨g, 0, none⟩) h.lt).trans h.c0, (hB.cell (p := ⟨g, 1, none⟩) h.lt).trans h.c1, (hB.cell (p := ⟨g, 2, none⟩) h.lt).trans h.c2, (hB.frozen (p := ⟨g, 0, none⟩) h.lt).trans h.f0, (hB.frozen (p := ⟨g, 1, none⟩) h.lt).trans h.f1, (hB.frozen (p := ⟨g, 2, none⟩) h.lt).trans h.f2⟩
theorem PC.new (w : World) (x : ByteArray) (n k : Int) : PC (w.alloc (.cells #[.string x, .int .i64 n, .int .i64 k] 88)) w.heap.size x n k := by
  refine ⟨?_, ?_, ?_, ?_, ?_, ?_⟩
  · rw [cell_of_row _ w.heap.size _ _ _ _ (heap_alloc_new w _)]; rfl
  · rw [cell_of_row _ w.heap.size _ _ _ _ (heap_alloc_new w _)]; rfl
  · rw [cell_of_row _ w.heap.size _ _ _ _ (heap_alloc_new w _)]; rfl
  · exact frozen_of_row _ w.heap.size _ _ _ (heap_alloc_new w _)
  · exact frozen_of_row _ w.heap.size _ _ _ (heap_alloc_new w _)
  · exact frozen_of_row _ w.heap.size _ _ _ (heap_alloc_new w _)
theorem pc_fill {W : World} {g : Nat} {x0 : ByteArray} {n0 k0 : Int} (h : PC W g x0 n0 k0) (x : ByteArray) (n k : Int) :
    (((W.setCell ⟨g, 0, none⟩ (.string x)).setCell ⟨g, 1, none⟩ (.int .i64 n)).setCell ⟨g, 2, none⟩ (.int .i64 k)).cell? ⟨g, 0, none⟩ = some (.string x) ∧ (((W.setCell ⟨g, 0, none⟩ (.string x)).setCell ⟨g, 1, none⟩ (.int .i64 n)).setCell ⟨g, 2, none⟩ (.int .i64 k)).cell? ⟨g, 1, none⟩ = some (.int .i64 n) ∧ (((W.setCell ⟨g, 0, none⟩ (.string x)).setCell ⟨g, 1, none⟩ (.int .i64 n)).setCell ⟨g, 2, none⟩ (.int .i64 k)).cell? ⟨g, 2, none⟩ = some (.int .i64 k) := by
  refine ⟨?_, ?_, ?_⟩
  · rw [World.cell?_setCell_other _ _ _ _ (by simp), World.cell?_setCell_other _ _ _ _ (by simp)]; exact World.cell?_setCell_same _ _ _ h.c0
  · rw [World.cell?_setCell_other _ _ _ _ (by simp)]; exact World.cell?_setCell_same _ _ _ ((World.cell?_setCell_other _ _ _ _ (by simp)).trans h.c1)
  · exact World.cell?_setCell_same _ _ _ ((World.cell?_setCell_other _ _ _ _ (by simp)).trans ((World.cell?_setCell_other _ _ _ _ (by simp)).trans h.c2))
theorem res_pc {fn : Func} {p u : Tmp} {w : World} (h : fn.results = #[.cell p 88, .tmp u]) (tmps : Array Value) (g : Nat) (hp : tmps.getD p undef = .pointer (some ⟨g, 0, none⟩)) {x : ByteArray} {n k : Int} (hg : w.cell? ⟨g, 0, none⟩ = some (.string x) ∧ w.cell? ⟨g, 1, none⟩ = some (.int .i64 n) ∧ w.cell? ⟨g, 2, none⟩ = some (.int .i64 k)) :
    (results fn tmps).run Tryz.prog w = .ok (.tuple #[.agg #[.string x, .int .i64 n, .int .i64 k], tmps.getD u undef]) w := by
  obtain ⟨h0, h1, h2⟩ := hg
  have hp' : tmps[p]?.getD undef = .pointer (some ⟨g, 0, none⟩) := by simpa using hp
  have a := Tryz.isAgg88
  have b := Tryz.sizeOf88
  have c0 := Tryz.isAgg3
  have c1 := Tryz.sizeOf3
  have c2 := Tryz.underlying3
  have d0 := Tryz.isAgg9
  have d1 := Tryz.sizeOf9
  have d2 := Tryz.underlying9
  simp only [results, h]
  simp only [loadVar]
  go_simp
theorem three_below {w0 W : World} (h : Below w0.heap.size w0 W) {g : Nat} (hg : w0.heap.size ≤ g) (a b c : Value) : Below w0.heap.size w0 (((W.setCell ⟨g, 0, none⟩ a).setCell ⟨g, 1, none⟩ b).setCell ⟨g, 2, none⟩ c) :=
  ((h.setCell (p := ⟨g, 0, none⟩) hg _).setCell (p := ⟨g, 1, none⟩) hg _).setCell (p := ⟨g, 2, none⟩) hg _
def pcV (x : (List UInt8 × Nat × Nat) × Int) : Value := .tuple #[.agg #[.string ⟨x.1.1.toArray⟩, .int .i64 (x.1.2.1 : Int), .int .i64 (x.1.2.2 : Int)], .int .i64 x.2]
theorem pcV_eq {x : (List UInt8 × Nat × Nat) × Int} {t : ByteArray} {n k e : Int} (h0 : t.data.toList = x.1.1) (h1 : n = (x.1.2.1 : Int)) (h2 : k = (x.1.2.2 : Int)) (h3 : e = x.2) : Ending.returned (.tuple #[.agg #[.string t, .int .i64 n, .int .i64 k], .int .i64 e]) = .returned (pcV x) := by
  unfold pcV
  rw [h1, h2, h3, bstr (x := t) (y := ⟨x.1.1.toArray⟩) h0]
theorem firstV_cons (c : UInt8) (r : List UInt8) (aa : List Ag) : firstV (c :: r) aa = if c.toNat ≠ 37 then (([c], 1, 0), (0 : Int)) else match pdir (c :: r) with
      | none => (([], 0, 0), 171)
      | some (d, n) => if kOf d.verb.toNat = 0 then (([37], n, 0), 0) else match aa with
        | [] => (([], 0, 0), 3)
        | a :: _ => if a.isOf d.verb then ((d.shown a, n, 1), 0) else (([], 0, 0), 1) := rfl
set_option maxRecDepth 100000 in
set_option maxHeartbeats 4000000 in
theorem first_any (s : ByteArray) (va : Value) (aa : List Ag) (w : World) (hs : s.size ≤ maxLen) (h1 : 1 ≤ s.size) (hA : AgsV w va aa) :
    Calls Tryz.prog 29 #[.string s, va] w fun e w' => e = .returned (pcV (firstV s.data.toList aa)) ∧ Below w.heap.size w w' := by
  have hpa := fun W => parse_any s W hs h1
  have hpl := @pdir_len s.data.toList
  have hl : s.data.toList = s[0] :: s.data.toList.drop 1 := by have := drop_at s 0 (by omega); simpa using this
  have hfv : firstV s.data.toList aa = if s[0].toNat ≠ 37 then (([s[0]], 1, 0), (0 : Int)) else match pdir s.data.toList with
      | none => (([], 0, 0), 171)
      | some (d, n) => if kOf d.verb.toNat = 0 then (([37], n, 0), 0) else match aa with
        | [] => (([], 0, 0), 3)
        | a :: _ => if a.isOf d.verb then ((d.shown a, n, 1), 0) else (([], 0, 0), 1) := by
    have q := firstV_cons s[0] (s.data.toList.drop 1) aa
    rw [← hl] at q
    exact q
  have hx1 : (s.extract 0 1).data.toList = [s[0]] := by rw [ext_list, hl]; rfl
  generalize firstV s.data.toList aa = R at *
  have HX1 := hide hx1
  have HZ := hide (PC.new w ⟨#[]⟩ 0 0)
  have HB0 := hide (fm_below w (.cells #[.string ⟨#[]⟩, .int .i64 0, .int .i64 0] 88))
  have hlt : (0 : Int) < (s.size : Int) := by omega
  have hlt2 : 0 < s.size := by omega
  clear hx1 hl
  have hs2 := hs
  unfold maxLen at hs
  by_cases h37 : s[0].toNat ≠ 37
  · have h37' : ((s[0].toNat : Int) != 37) = true := by simp only [bne_iff_ne, ne_eq]; omega
    rw [if_pos h37] at hfv
    subst hfv
    obtain ⟨va1, vc1, rfl, -⟩ := hA
    clear hpa hpl h37
    go_enter Tryz.func29, Tryz.ntmps29
    go_wp2
    have q := PC.new w (s.extract 0 1) 1 0
    refine bodyPost_ret (res_pc rfl _ w.heap.size rfl ⟨q.c0, q.c1, q.c2⟩) rfl ?_
    exact ⟨pcV_eq HX1.out rfl rfl rfl, fm_below _ _⟩
  have h37' : ((s[0].toNat : Int) != 37) = false := by simp only [bne_eq_false_iff_eq]; omega
  rw [if_neg h37] at hfv
  clear h37 HX1
  generalize pdir s.data.toList = D at *
  cases D with
  | none =>
    simp only at hfv
    subst hfv
    obtain ⟨va1, vc1, rfl, -⟩ := hA
    unfold parV at hpa
    simp only at hpa
    have HP := hide hpa
    clear hpl hpa
    go_enter Tryz.func29, Tryz.ntmps29
    go_wp2_with fail
    generalize w.alloc (.cells #[.string ⟨#[]⟩, .int .i64 0, .int .i64 0] 88) = w1 at *
    refine (HP.out _).mono ?_
    rintro _ w2 ⟨rfl, hB2⟩
    have HD2 := hide (fm_below w2 (.cells #[.int .i64 0, .int .i64 0, .bool false, .int .i64 0, .int .u8 0] 116))
    have hZ3 := (HZ.out.below hB2).below HD2.out
    have HZ3 := hide hZ3
    obtain ⟨z0, z1, z2, y0, y1, y2⟩ := hZ3
    have HB2 := hide ((HB0.out.trans (hB2.mono HB0.out.size)).trans (HD2.out.mono (HB0.out.trans (hB2.mono HB0.out.size)).size))
    clear hB2
    go_wp2
    refine bodyPost_ret (res_pc rfl _ w.heap.size rfl (pc_fill HZ3.out ⟨#[]⟩ 0 0)) rfl ?_
    exact ⟨pcV_eq rfl rfl rfl rfl, three_below HB2.out (Nat.le_refl _) _ _ _⟩
  | some p =>
    obtain ⟨d, n⟩ := p
    obtain ⟨hn1, hn2, hwd, hpr, -⟩ := hpl rfl
    simp only at hfv
    unfold parV dirV at hpa
    simp only at hpa
    have HP := hide hpa
    have HKd := hide (fun W => kindOf_any (d.verb.toNat : Int) W)
    clear hpl hpa
    by_cases hk : kOf d.verb.toNat = 0
    · rw [if_pos hk] at hfv
      subst hfv
      obtain ⟨va1, vc1, rfl, -⟩ := hA
      rw [hk] at HKd
      clear hk
      go_enter Tryz.func29, Tryz.ntmps29
      go_wp2_with fail
      generalize w.alloc (.cells #[.string ⟨#[]⟩, .int .i64 0, .int .i64 0] 88) = w1 at *
      refine (HP.out _).mono ?_
      rintro _ w2 ⟨rfl, hB2⟩
      have HD2 := hide (fm_below w2 (.cells #[.int .i64 d.fl, .int .i64 (d.wd : Int), .bool d.pt, .int .i64 (d.pr : Int), .int .u8 (d.verb.toNat : Int)] 116))
      have hZ3 := (HZ.out.below hB2).below HD2.out
      have HZ3 := hide hZ3
      obtain ⟨z0, z1, z2, y0, y1, y2⟩ := hZ3
      have HB2 := hide ((HB0.out.trans (hB2.mono HB0.out.size)).trans (HD2.out.mono (HB0.out.trans (hB2.mono HB0.out.size)).size))
      clear hB2
      go_wp2_with (first | (go_at_call 47; refine (HKd.out _).mono ?_; rintro _ _ ⟨rfl, rfl⟩) | fail)
      refine bodyPost_ret (res_pc rfl _ w.heap.size rfl (pc_fill HZ3.out ⟨#[37]⟩ (n : Int) 0)) rfl ?_
      exact ⟨pcV_eq rfl rfl rfl rfl, three_below HB2.out (Nat.le_refl _) _ _ _⟩
    · rw [if_neg hk] at hfv
      obtain ⟨kv, hkv⟩ : ∃ kv, kOf (d.verb.toNat : Int) = kv := ⟨_, rfl⟩
      have hk' : (kv == 0) = false := by rw [← hkv]; simpa using hk
      rw [hkv] at HKd
      clear hk hkv
      obtain ⟨va1, vc1, rfl, hvc, hvd, hvb⟩ := hA
      cases aa with
      | nil =>
        simp only at hfv
        subst hfv
        clear hvd hvb
        go_enter Tryz.func29, Tryz.ntmps29
        go_wp2_with fail
        generalize w.alloc (.cells #[.string ⟨#[]⟩, .int .i64 0, .int .i64 0] 88) = w1 at *
        refine (HP.out _).mono ?_
        rintro _ w2 ⟨rfl, hB2⟩
        have HD2 := hide (fm_below w2 (.cells #[.int .i64 d.fl, .int .i64 (d.wd : Int), .bool d.pt, .int .i64 (d.pr : Int), .int .u8 (d.verb.toNat : Int)] 116))
        have hZ3 := (HZ.out.below hB2).below HD2.out
        have HZ3 := hide hZ3
        obtain ⟨z0, z1, z2, y0, y1, y2⟩ := hZ3
        have HB2 := hide ((HB0.out.trans (hB2.mono HB0.out.size)).trans (HD2.out.mono (HB0.out.trans (hB2.mono HB0.out.size)).size))
        clear hB2
        go_wp2_with (first | (go_at_call 47; refine (HKd.out _).mono ?_; rintro _ _ ⟨rfl, rfl⟩) | fail)
        refine bodyPost_ret (res_pc rfl _ w.heap.size rfl (pc_fill HZ3.out ⟨#[]⟩ 0 0)) rfl ?_
        exact ⟨pcV_eq rfl rfl rfl rfl, three_below HB2.out (Nat.le_refl _) _ _ _⟩
      | cons x r =>
        simp only at hfv
        obtain ⟨b, off, rfl, hcells⟩ := hvd (by simp)
        have hA0 := hcells 0 (by simp)
        simp only [Nat.zero_mul, Nat.add_zero, List.getElem_cons_zero] at hA0
        have HA0 := hide hA0
        have hbx := hvb x (by simp)
        obtain ⟨L, hL⟩ : ∃ L, (x :: r).length = L := ⟨_, rfl⟩
        have hL1 : 1 ≤ L := by rw [← hL]; simp
        have hL0 : ((L : Int) == 0) = false := by simp only [beq_eq_false_iff_ne, ne_eq]; omega
        have hL2 : (0 : Int) < (L : Int) := by omega
        have hL3 : 0 < L := hL1
        rw [hL] at hvc ⊢
        clear hvb hcells hL
        have hIs := fun W => isOf_any x d.verb W
        have hSh := fun h3 W => shown_any d x W hwd hpr hbx.int hbx.lo hbx.hi hbx.text h3
        unfold dirV agV at hSh
        unfold agV at hIs
        have h3 : x.isOf d.verb = true → d.verb = 99 → x.uint ≤ 255 := by
          intro e1 e2
          unfold Ag.isOf at e1
          rw [e2] at e1
          simp only [Bool.and_eq_true, beq_iff_eq, Bool.or_eq_true, bne_iff_ne, ne_eq, decide_eq_true_eq] at e1
          obtain ⟨e3, e4⟩ := e1
          have : x.kind = 3 := e3
          rcases e4 with e4 | e4
          · exact absurd this e4
          · exact e4
        cases hio : x.isOf d.verb with
        | false =>
          rw [hio] at hfv hIs
          rw [if_neg (by decide)] at hfv
          subst hfv
          have HI := hide hIs
          clear hIs hSh h3 hio hA0 hbx
          go_enter Tryz.func29, Tryz.ntmps29
          go_wp2_with fail
          have HA1 := hide (HA0.out.below HB0.out)
          generalize w.alloc (.cells #[.string ⟨#[]⟩, .int .i64 0, .int .i64 0] 88) = w1 at *
          refine (HP.out _).mono ?_
          rintro _ w2 ⟨rfl, hB2⟩
          have HD2 := hide (fm_below w2 (.cells #[.int .i64 d.fl, .int .i64 (d.wd : Int), .bool d.pt, .int .i64 (d.pr : Int), .int .u8 (d.verb.toNat : Int)] 116))
          have HZ3 := hide ((HZ.out.below hB2).below HD2.out)
          have HA := hide ((HA1.out.below hB2).below HD2.out)
          have HD := hide (DC.new w2 d.fl d.wd d.pr (d.verb.toNat : Int) d.pt)
          have HB2 := hide ((HB0.out.trans (hB2.mono HB0.out.size)).trans (HD2.out.mono (HB0.out.trans (hB2.mono HB0.out.size)).size))
          clear hB2 HD2 HA1 HA0 HZ HB0
          go_upto_region 10 with (first | (go_at_call 47; refine (HKd.out _).mono ?_; rintro _ _ ⟨rfl, rfl⟩) | fail)
          generalize w2.alloc (.cells #[.int .i64 d.fl, .int .i64 (d.wd : Int), .bool d.pt, .int .i64 (d.pr : Int), .int .u8 (d.verb.toNat : Int)] 116) = w3 at *
          refine wp_region_noPanic ?_
          refine wp_region_held_drew (S := fun W => DC W w2.heap.size d.fl d.wd d.pr (d.verb.toNat : Int) d.pt ∧ AH W b off x) (by kernel_rfl) (⟨HD.out.below (Below.refl _ _).drew, HA.out.below (Below.refl _ _).drew⟩) (fun hHeld => ?_)
          refine wpAnyH_take (i := 0) (oi := ?_) (v := ?_) ?_ (by kernel_rfl) (by kernel_rfl) (by kernel_rfl) (fun _ _ _ h => (h : False).elim) (Or.inl ⟨?_, ?_⟩) hHeld ?_
          rotate_left 2
          · (simp only [List.getElem?_toArray, List.getElem?_cons_zero]; rfl)
          · rfl
          · (intro W hSw; obtain ⟨⟨m0, m1, m2, m3, m4⟩, n0, n1, n2, n3⟩ := hSw; go_simp <;> with_reducible rfl)
          try simp only [Act.put, List.setIfInBounds_toArray, List.set_cons_zero, List.set_cons_succ]
          refine wpAnyH_take (i := 1) (oi := ?_) (v := ?_) ?_ (by kernel_rfl) (by kernel_rfl) (by kernel_rfl) (fun _ _ _ h => (h : False).elim) (Or.inl ⟨?_, ?_⟩) hHeld ?_
          rotate_left 2
          · (simp only [List.getElem?_toArray, List.getElem?_cons_zero, List.getElem?_cons_succ]; rfl)
          · rfl
          · (intro W hSw; obtain ⟨⟨m0, m1, m2, m3, m4⟩, n0, n1, n2, n3⟩ := hSw; go_simp <;> with_reducible rfl)
          try simp only [Act.put, List.setIfInBounds_toArray, List.set_cons_zero, List.set_cons_succ]
          refine wpAnyH_take (i := 2) (oi := ?_) (v := ?_) ?_ (by kernel_rfl) (by kernel_rfl) (by kernel_rfl) (fun _ _ _ h => (h : False).elim) (Or.inl ⟨?_, ?_⟩) hHeld ?_
          rotate_left 2
          · (simp only [List.getElem?_toArray, List.getElem?_cons_zero, List.getElem?_cons_succ]; rfl)
          · rfl
          · (intro W hSw; obtain ⟨⟨m0, m1, m2, m3, m4⟩, n0, n1, n2, n3⟩ := hSw; go_simp <;> with_reducible rfl)
          try simp only [Act.put, List.setIfInBounds_toArray, List.set_cons_zero, List.set_cons_succ]
          refine wpAnyH_take (i := 3) (oi := ?_) (v := ?_) ?_ (by kernel_rfl) (by kernel_rfl) (by kernel_rfl) (fun _ _ _ h => (h : False).elim) (Or.inl ⟨?_, ?_⟩) hHeld ?_
          rotate_left 2
          · (simp only [List.getElem?_toArray, List.getElem?_cons_zero, List.getElem?_cons_succ]; rfl)
          · rfl
          · (intro W hSw; obtain ⟨⟨m0, m1, m2, m3, m4⟩, n0, n1, n2, n3⟩ := hSw; go_simp <;> with_reducible rfl)
          try simp only [Act.put, List.setIfInBounds_toArray, List.set_cons_zero, List.set_cons_succ]
          refine wpAnyH_take (i := 4) (oi := ?_) (v := ?_) ?_ (by kernel_rfl) (by kernel_rfl) (by kernel_rfl) (fun _ _ _ h => (h : False).elim) (Or.inl ⟨?_, ?_⟩) hHeld ?_
          rotate_left 2
          · (simp only [List.getElem?_toArray, List.getElem?_cons_zero, List.getElem?_cons_succ]; rfl)
          · rfl
          · (intro W hSw; obtain ⟨⟨m0, m1, m2, m3, m4⟩, n0, n1, n2, n3⟩ := hSw; go_simp <;> with_reducible rfl)
          try simp only [Act.put, List.setIfInBounds_toArray, List.set_cons_zero, List.set_cons_succ]
          refine wpAnyH_ready (rs := [5]) (by kernel_rfl) (by simp) ?_
          refine AllReadyH.cons (o := ?_) ?_ (fun K' hK => ?_) AllReadyH.nil
          rotate_left 1
          · (simp only [List.getElem?_toArray, List.getElem?_cons_zero, List.getElem?_cons_succ]; rfl)
          go_simp
          refine (HI.out _).mono ?_; rintro _ w4 ⟨rfl, hB4⟩; have HB4 := hide ((Below.refl _ w3).drew.trans hB4); clear hB4
          refine hK.out _ _ (⟨HD.out.below HB4.out, HA.out.below HB4.out⟩) (fun hHeld2 => ?_)
          clear hK K' hHeld
          have hHeld := hHeld2
          clear hHeld2
          try simp only [Act.put, List.setIfInBounds_toArray, List.set_cons_zero, List.set_cons_succ]
          refine wpAnyH_take (i := 6) (oi := ?_) (v := ?_) ?_ (by kernel_rfl) (by kernel_rfl) (by kernel_rfl) (fun _ _ _ h => (h : False).elim) (Or.inl ⟨?_, ?_⟩) hHeld ?_
          rotate_left 2
          · (simp only [List.getElem?_toArray, List.getElem?_cons_zero, List.getElem?_cons_succ]; rfl)
          · rfl
          · (intro W hSw; obtain ⟨⟨m0, m1, m2, m3, m4⟩, n0, n1, n2, n3⟩ := hSw; go_simp <;> with_reducible rfl)
          try simp only [Act.put, List.setIfInBounds_toArray, List.set_cons_zero, List.set_cons_succ]
          refine wpAnyH_done (by kernel_rfl) ?_ _
          refine NoPanic.normal ?_

          have hZ4 := HZ3.out.below HB4.out
          have HZ4 := hide hZ4
          obtain ⟨z0, z1, z2, y0, y1, y2⟩ := hZ4
          go_wp2
          refine bodyPost_ret (res_pc rfl _ w.heap.size rfl (pc_fill HZ4.out ⟨#[]⟩ 0 0)) rfl ?_
          exact ⟨pcV_eq rfl rfl rfl rfl, three_below (HB2.out.trans (HB4.out.mono HB2.out.size)) (Nat.le_refl _) _ _ _⟩
        | true =>
          rw [hio] at hfv hIs
          rw [if_pos rfl] at hfv
          subst hfv
          have HI := hide hIs
          have HSh := hide (hSh (h3 hio))
          clear hIs hSh h3 hio hA0 hbx
          go_enter Tryz.func29, Tryz.ntmps29
          go_wp2_with fail
          have HA1 := hide (HA0.out.below HB0.out)
          have HNA : Hid (b < w.heap.size) := hide HA0.out.lt
          generalize w.alloc (.cells #[.string ⟨#[]⟩, .int .i64 0, .int .i64 0] 88) = w1 at *
          refine (HP.out _).mono ?_
          rintro _ w2 ⟨rfl, hB2⟩
          have HD2 := hide (fm_below w2 (.cells #[.int .i64 d.fl, .int .i64 (d.wd : Int), .bool d.pt, .int .i64 (d.pr : Int), .int .u8 (d.verb.toNat : Int)] 116))
          have HNE : Hid (w2.heap.size ≠ w.heap.size ∧ b ≠ w.heap.size) := hide (by have h1 := HZ.out.lt; have h2 := hB2.size; have h3 := HNA.out; constructor <;> omega)
          have HZ3 := hide ((HZ.out.below hB2).below HD2.out)
          have HA := hide ((HA1.out.below hB2).below HD2.out)
          have HD := hide (DC.new w2 d.fl d.wd d.pr (d.verb.toNat : Int) d.pt)
          have HB2 := hide ((HB0.out.trans (hB2.mono HB0.out.size)).trans (HD2.out.mono (HB0.out.trans (hB2.mono HB0.out.size)).size))
          clear hB2 HD2 HA1 HA0 HZ HB0 HNA
          go_upto_region 10 with (first | (go_at_call 47; refine (HKd.out _).mono ?_; rintro _ _ ⟨rfl, rfl⟩) | fail)
          generalize w2.alloc (.cells #[.int .i64 d.fl, .int .i64 (d.wd : Int), .bool d.pt, .int .i64 (d.pr : Int), .int .u8 (d.verb.toNat : Int)] 116) = w3 at *
          refine wp_region_noPanic ?_
          refine wp_region_held_drew (S := fun W => DC W w2.heap.size d.fl d.wd d.pr (d.verb.toNat : Int) d.pt ∧ AH W b off x) (by kernel_rfl) (⟨HD.out.below (Below.refl _ _).drew, HA.out.below (Below.refl _ _).drew⟩) (fun hHeld => ?_)
          refine wpAnyH_take (i := 0) (oi := ?_) (v := ?_) ?_ (by kernel_rfl) (by kernel_rfl) (by kernel_rfl) (fun _ _ _ h => (h : False).elim) (Or.inl ⟨?_, ?_⟩) hHeld ?_
          rotate_left 2
          · (simp only [List.getElem?_toArray, List.getElem?_cons_zero]; rfl)
          · rfl
          · (intro W hSw; obtain ⟨⟨m0, m1, m2, m3, m4⟩, n0, n1, n2, n3⟩ := hSw; go_simp <;> with_reducible rfl)
          try simp only [Act.put, List.setIfInBounds_toArray, List.set_cons_zero, List.set_cons_succ]
          refine wpAnyH_take (i := 1) (oi := ?_) (v := ?_) ?_ (by kernel_rfl) (by kernel_rfl) (by kernel_rfl) (fun _ _ _ h => (h : False).elim) (Or.inl ⟨?_, ?_⟩) hHeld ?_
          rotate_left 2
          · (simp only [List.getElem?_toArray, List.getElem?_cons_zero, List.getElem?_cons_succ]; rfl)
          · rfl
          · (intro W hSw; obtain ⟨⟨m0, m1, m2, m3, m4⟩, n0, n1, n2, n3⟩ := hSw; go_simp <;> with_reducible rfl)
          try simp only [Act.put, List.setIfInBounds_toArray, List.set_cons_zero, List.set_cons_succ]
          refine wpAnyH_take (i := 2) (oi := ?_) (v := ?_) ?_ (by kernel_rfl) (by kernel_rfl) (by kernel_rfl) (fun _ _ _ h => (h : False).elim) (Or.inl ⟨?_, ?_⟩) hHeld ?_
          rotate_left 2
          · (simp only [List.getElem?_toArray, List.getElem?_cons_zero, List.getElem?_cons_succ]; rfl)
          · rfl
          · (intro W hSw; obtain ⟨⟨m0, m1, m2, m3, m4⟩, n0, n1, n2, n3⟩ := hSw; go_simp <;> with_reducible rfl)
          try simp only [Act.put, List.setIfInBounds_toArray, List.set_cons_zero, List.set_cons_succ]
          refine wpAnyH_take (i := 3) (oi := ?_) (v := ?_) ?_ (by kernel_rfl) (by kernel_rfl) (by kernel_rfl) (fun _ _ _ h => (h : False).elim) (Or.inl ⟨?_, ?_⟩) hHeld ?_
          rotate_left 2
          · (simp only [List.getElem?_toArray, List.getElem?_cons_zero, List.getElem?_cons_succ]; rfl)
          · rfl
          · (intro W hSw; obtain ⟨⟨m0, m1, m2, m3, m4⟩, n0, n1, n2, n3⟩ := hSw; go_simp <;> with_reducible rfl)
          try simp only [Act.put, List.setIfInBounds_toArray, List.set_cons_zero, List.set_cons_succ]
          refine wpAnyH_take (i := 4) (oi := ?_) (v := ?_) ?_ (by kernel_rfl) (by kernel_rfl) (by kernel_rfl) (fun _ _ _ h => (h : False).elim) (Or.inl ⟨?_, ?_⟩) hHeld ?_
          rotate_left 2
          · (simp only [List.getElem?_toArray, List.getElem?_cons_zero, List.getElem?_cons_succ]; rfl)
          · rfl
          · (intro W hSw; obtain ⟨⟨m0, m1, m2, m3, m4⟩, n0, n1, n2, n3⟩ := hSw; go_simp <;> with_reducible rfl)
          try simp only [Act.put, List.setIfInBounds_toArray, List.set_cons_zero, List.set_cons_succ]
          refine wpAnyH_ready (rs := [5]) (by kernel_rfl) (by simp) ?_
          refine AllReadyH.cons (o := ?_) ?_ (fun K' hK => ?_) AllReadyH.nil
          rotate_left 1
          · (simp only [List.getElem?_toArray, List.getElem?_cons_zero, List.getElem?_cons_succ]; rfl)
          go_simp
          refine (HI.out _).mono ?_; rintro _ w4 ⟨rfl, hB4⟩; have HB4 := hide ((Below.refl _ w3).drew.trans hB4); clear hB4
          refine hK.out _ _ (⟨HD.out.below HB4.out, HA.out.below HB4.out⟩) (fun hHeld2 => ?_)
          clear hK K' hHeld
          have hHeld := hHeld2
          clear hHeld2
          try simp only [Act.put, List.setIfInBounds_toArray, List.set_cons_zero, List.set_cons_succ]
          refine wpAnyH_take (i := 6) (oi := ?_) (v := ?_) ?_ (by kernel_rfl) (by kernel_rfl) (by kernel_rfl) (fun _ _ _ h => (h : False).elim) (Or.inl ⟨?_, ?_⟩) hHeld ?_
          rotate_left 2
          · (simp only [List.getElem?_toArray, List.getElem?_cons_zero, List.getElem?_cons_succ]; rfl)
          · rfl
          · (intro W hSw; obtain ⟨⟨m0, m1, m2, m3, m4⟩, n0, n1, n2, n3⟩ := hSw; go_simp <;> with_reducible rfl)
          try simp only [Act.put, List.setIfInBounds_toArray, List.set_cons_zero, List.set_cons_succ]
          refine wpAnyH_done (by kernel_rfl) ?_ _
          refine NoPanic.normal ?_

          have HD4 := hide (HD.out.below HB4.out)
          have HA4 := hide (HA.out.below HB4.out)
          have HZ4 := hide (HZ3.out.below HB4.out)
          clear hHeld
          go_wp2_with fail
          refine wp_region_noPanic ?_
          refine wp_region_held_drew (S := fun W => DC W w2.heap.size d.fl d.wd d.pr (d.verb.toNat : Int) d.pt ∧ AH W b off x) (by kernel_rfl) (⟨HD4.out.below (Below.refl _ _).drew, HA4.out.below (Below.refl _ _).drew⟩) (fun hHeld => ?_)
          refine wpAnyH_take (i := 0) (oi := ?_) (v := ?_) ?_ (by kernel_rfl) (by kernel_rfl) (by kernel_rfl) (fun _ _ _ h => (h : False).elim) (Or.inl ⟨?_, ?_⟩) hHeld ?_
          rotate_left 2
          · (simp only [List.getElem?_toArray, List.getElem?_cons_zero]; rfl)
          · rfl
          · (intro W hSw; obtain ⟨⟨m0, m1, m2, m3, m4⟩, n0, n1, n2, n3⟩ := hSw; go_simp <;> with_reducible rfl)
          try simp only [Act.put, List.setIfInBounds_toArray, List.set_cons_zero, List.set_cons_succ]
          refine wpAnyH_take (i := 1) (oi := ?_) (v := ?_) ?_ (by kernel_rfl) (by kernel_rfl) (by kernel_rfl) (fun _ _ _ h => (h : False).elim) (Or.inl ⟨?_, ?_⟩) hHeld ?_
          rotate_left 2
          · (simp only [List.getElem?_toArray, List.getElem?_cons_zero, List.getElem?_cons_succ]; rfl)
          · rfl
          · (intro W hSw; obtain ⟨⟨m0, m1, m2, m3, m4⟩, n0, n1, n2, n3⟩ := hSw; go_simp <;> with_reducible rfl)
          try simp only [Act.put, List.setIfInBounds_toArray, List.set_cons_zero, List.set_cons_succ]
          refine wpAnyH_take (i := 2) (oi := ?_) (v := ?_) ?_ (by kernel_rfl) (by kernel_rfl) (by kernel_rfl) (fun _ _ _ h => (h : False).elim) (Or.inl ⟨?_, ?_⟩) hHeld ?_
          rotate_left 2
          · (simp only [List.getElem?_toArray, List.getElem?_cons_zero, List.getElem?_cons_succ]; rfl)
          · rfl
          · (intro W hSw; obtain ⟨⟨m0, m1, m2, m3, m4⟩, n0, n1, n2, n3⟩ := hSw; go_simp <;> with_reducible rfl)
          try simp only [Act.put, List.setIfInBounds_toArray, List.set_cons_zero, List.set_cons_succ]
          refine wpAnyH_take (i := 3) (oi := ?_) (v := ?_) ?_ (by kernel_rfl) (by kernel_rfl) (by kernel_rfl) (fun _ _ _ h => (h : False).elim) (Or.inl ⟨?_, ?_⟩) hHeld ?_
          rotate_left 2
          · (simp only [List.getElem?_toArray, List.getElem?_cons_zero, List.getElem?_cons_succ]; rfl)
          · rfl
          · (intro W hSw; obtain ⟨⟨m0, m1, m2, m3, m4⟩, n0, n1, n2, n3⟩ := hSw; go_simp <;> with_reducible rfl)
          try simp only [Act.put, List.setIfInBounds_toArray, List.set_cons_zero, List.set_cons_succ]
          refine wpAnyH_take (i := 5) (oi := ?_) (v := ?_) ?_ (by kernel_rfl) (by kernel_rfl) (by kernel_rfl) (fun _ _ _ h => (h : False).elim) (Or.inl ⟨?_, ?_⟩) hHeld ?_
          rotate_left 2
          · (simp only [List.getElem?_toArray, List.getElem?_cons_zero, List.getElem?_cons_succ]; rfl)
          · rfl
          · (intro W hSw; obtain ⟨⟨m0, m1, m2, m3, m4⟩, n0, n1, n2, n3⟩ := hSw; go_simp <;> with_reducible rfl)
          try simp only [Act.put, List.setIfInBounds_toArray, List.set_cons_zero, List.set_cons_succ]
          refine wpAnyH_ready (rs := [4]) (by kernel_rfl) (by simp) ?_
          refine AllReadyH.cons (o := ?_) ?_ (fun K' hK => ?_) AllReadyH.nil
          rotate_left 1
          · (simp only [List.getElem?_toArray, List.getElem?_cons_zero, List.getElem?_cons_succ]; rfl)
          go_simp
          refine (HSh.out _).mono ?_; rintro _ w5 ⟨rfl, hB5⟩; have HB5 := hide ((Below.refl _ w4).drew.trans hB5); clear hB5
          obtain ⟨z0, z1, z2, y0, y1, y2⟩ := HZ4.out.below HB5.out
          have hz5 := HZ4.out.below HB5.out
          have HZ5 := hide hz5
          clear hz5
          refine hK.out _ _ (⟨HD4.out.below HB5.out, HA4.out.below HB5.out⟩) (fun hHeld2 => ?_)
          clear hK K' hHeld
          have hHeld := hHeld2
          clear hHeld2
          try simp only [Act.put, List.setIfInBounds_toArray, List.set_cons_zero, List.set_cons_succ]
          refine wpAnyH_take (i := 6) (oi := ?_) (v := ?_) ?_ (by kernel_rfl) (by kernel_rfl) (by kernel_rfl) (fun _ _ _ h => (h : False).elim) (Or.inl ⟨?_, ?_⟩) hHeld ?_
          rotate_left 2
          · (simp only [List.getElem?_toArray, List.getElem?_cons_zero, List.getElem?_cons_succ]; rfl)
          · rfl
          · (intro W hSw; obtain ⟨⟨m0, m1, m2, m3, m4⟩, n0, n1, n2, n3⟩ := hSw; go_simp <;> with_reducible rfl)
          try simp only [Act.put, List.setIfInBounds_toArray, List.set_cons_zero, List.set_cons_succ]
          refine wpAnyH_ready (rs := [7]) (by kernel_rfl) (by simp) ?_
          refine AllReadyH.cons (o := ?_) ?_ (fun K' hK => ?_) AllReadyH.nil
          rotate_left 1
          · (simp only [List.getElem?_toArray, List.getElem?_cons_zero, List.getElem?_cons_succ]; rfl)
          go_simp
          refine hK.out _ _ (⟨((HD4.out.below HB5.out).set HNE.out.1).set HNE.out.1 |>.set HNE.out.1, ((HA4.out.below HB5.out).set HNE.out.2).set HNE.out.2 |>.set HNE.out.2⟩) (fun hHeld2 => ?_)
          clear hK K' hHeld
          have hHeld := hHeld2
          clear hHeld2
          try simp only [Act.put, List.setIfInBounds_toArray, List.set_cons_zero, List.set_cons_succ]
          refine wpAnyH_take (i := 8) (oi := ?_) (v := ?_) ?_ (by kernel_rfl) (by kernel_rfl) (by kernel_rfl) (fun _ _ _ h => (h : False).elim) (Or.inl ⟨?_, ?_⟩) hHeld ?_
          rotate_left 2
          · (simp only [List.getElem?_toArray, List.getElem?_cons_zero, List.getElem?_cons_succ]; rfl)
          · rfl
          · (intro W hSw; obtain ⟨⟨m0, m1, m2, m3, m4⟩, n0, n1, n2, n3⟩ := hSw; go_simp <;> with_reducible rfl)
          try simp only [Act.put, List.setIfInBounds_toArray, List.set_cons_zero, List.set_cons_succ]
          refine wpAnyH_done (by kernel_rfl) ?_ _
          refine NoPanic.normal ?_

          go_wp2
          refine bodyPost_ret (res_pc rfl _ w.heap.size rfl (pc_fill HZ5.out ⟨(d.shown x).toArray⟩ (n : Int) 1)) rfl ?_
          exact ⟨pcV_eq rfl rfl rfl rfl, three_below ((HB2.out.trans (HB4.out.mono HB2.out.size)).trans (HB5.out.mono (HB2.out.trans (HB4.out.mono HB2.out.size)).size)) (Nat.le_refl _) _ _ _⟩
end Go.Proofs.YtcmfpafcipgejaaGreatDoor

/- Format: a pattern behind another one: what its first bytes say stays. -/
namespace Go.Proofs.YtcmfpafcipgejaaGreatDoor
open Go.RowKit

theorem flg_app : ∀ (l m : List UInt8) (F : Int) (o : Bool), (flg l F o).2.2 < l.length → flg (l ++ m) F o = flg l F o
  | [], _, _, _, h => absurd h (Nat.lt_irrefl _)
  | c :: l, m, F, o, h => by
    unfold flg at h
    rw [List.cons_append]
    unfold flg
    split
    · rfl
    · rename_i hc
      rw [if_neg hc] at h
      rw [flg_app l m _ _ (Nat.lt_of_succ_lt_succ h)]
theorem run10_app : ∀ (l m : List UInt8), run10 l < l.length → run10 (l ++ m) = run10 l
  | [], _, h => absurd h (Nat.lt_irrefl _)
  | c :: l, m, h => by
    unfold run10 at h
    rw [List.cons_append]
    unfold run10
    split
    · rename_i hc
      rw [if_pos hc] at h
      rw [run10_app l m (Nat.lt_of_succ_lt_succ h)]
    · rfl
theorem numAt_app (l m : List UInt8) (h : (numAt l).2.1 < l.length) : numAt (l ++ m) = numAt l := by
  rw [numAt_run] at h
  unfold numAt
  rw [run10_app l m h, List.take_append_of_le_length (Nat.le_of_lt h)]
theorem drop_app {α : Type} (l m : List α) (k : Nat) (h : k ≤ l.length) : (l ++ m).drop k = l.drop k ++ m := List.drop_append_of_le_length h
theorem isPt_app (l m : List UInt8) (h : 0 < l.length) : isPt (l ++ m) = isPt l := by
  cases l with
  | nil => cases h
  | cons c l => rfl
theorem verbAt_app {l : List UInt8} {p : Nat} {v : UInt8} (m : List UInt8) (h : verbAt l p = some v) : verbAt (l ++ m) p = some v := by
  have hp := verbAt_lt h
  unfold verbAt at h ⊢
  rw [drop_app l m p (Nat.le_of_lt hp)]
  cases hd : l.drop p with
  | nil => rw [hd] at h; cases h
  | cons c r => rw [hd] at h; exact h
theorem pdir_app {l : List UInt8} {d : Dir} {n : Nat} (m : List UInt8) (h : pdir l = some (d, n)) : pdir (l ++ m) = some (d, n) := by
  unfold pdir at h
  simp only at h
  generalize ha : flg (l.drop 1) 0 true = a at h
  generalize hb : numAt (l.drop (1 + a.2.2)) = b at h
  have key : 1 + a.2.2 + b.2.1 < l.length → flg ((l ++ m).drop 1) 0 true = a ∧ numAt ((l ++ m).drop (1 + a.2.2)) = b ∧ (l ++ m).drop (1 + a.2.2 + b.2.1) = l.drop (1 + a.2.2 + b.2.1) ++ m := by
    intro hp
    refine ⟨?_, ?_, drop_app l m _ (Nat.le_of_lt hp)⟩
    · rw [drop_app l m 1 (by omega), flg_app _ _ _ _ (by rw [ha, drop_len]; omega), ha]
    · rw [drop_app l m _ (by omega), numAt_app _ _ (by rw [hb, drop_len]; omega), hb]
  split at h
  · cases h
  rename_i hok
  split at h
  · rename_i hpt
    generalize hc : numAt (l.drop (1 + a.2.2 + b.2.1 + 1)) = c at h
    split at h
    · cases h
    rename_i hok2
    simp only [Option.map_eq_some_iff, Prod.mk.injEq] at h
    obtain ⟨v, hv, hd, hn⟩ := h
    have hl := verbAt_lt hv
    obtain ⟨k1, k2, k3⟩ := key (by omega)
    unfold pdir
    simp only
    rw [k1, k2, if_neg hok, k3, isPt_app _ _ (by rw [drop_len]; omega), if_pos hpt, drop_app l m (1 + a.2.2 + b.2.1 + 1) (by omega), numAt_app _ _ (by rw [hc, drop_len]; omega), hc, if_neg hok2, verbAt_app m hv, Option.map_some, hd, hn]
  · rename_i hpt
    simp only [Option.map_eq_some_iff, Prod.mk.injEq] at h
    obtain ⟨v, hv, hd, hn⟩ := h
    have hl := verbAt_lt hv
    obtain ⟨k1, k2, k3⟩ := key hl
    unfold pdir
    simp only
    rw [k1, k2, if_neg hok, k3, isPt_app _ _ (by rw [drop_len]; omega), if_neg hpt, verbAt_app m hv, Option.map_some, hd, hn]
theorem firstV_app {l : List UInt8} {aa : List Ag} {x : List UInt8 × Nat × Nat} (m : List UInt8) (bs : List Ag) (h : firstV l aa = (x, 0)) : firstV (l ++ m) (aa ++ bs) = (x, 0) := by
  unfold firstV at h
  split at h
  · cases h
  rename_i c r
  rw [List.cons_append]
  unfold firstV
  split at h
  · rename_i hc
    simp only
    rw [if_pos hc]
    exact h
  rename_i hc
  simp only
  rw [if_neg hc]
  split at h
  · cases h
  rename_i d n hd
  have hd' := pdir_app m hd
  rw [List.cons_append] at hd'
  rw [hd']
  simp only
  split at h
  · rename_i hk
    rw [if_pos hk]
    exact h
  rename_i hk
  rw [if_neg hk]
  split at h
  · cases h
  · exact h
theorem fmtF_nil (n : Nat) (aa : List Ag) (p : Nat) (out : List UInt8) : fmtF n [] aa p out = if aa = [] then (out, 0, p) else ([], 3, p) := by
  cases n <;> rfl
theorem fmtF_fuel : ∀ (n n' : Nat) (l : List UInt8) (aa : List Ag) (p : Nat) (out : List UInt8), l.length ≤ n → l.length ≤ n' → fmtF n l aa p out = fmtF n' l aa p out := by
  intro n
  induction n with
  | zero =>
    intro n' l aa p out h _
    obtain rfl : l = [] := List.length_eq_zero_iff.1 (by omega)
    rw [fmtF_nil, fmtF_nil]
  | succ n ih =>
    intro n' l aa p out h h'
    cases l with
    | nil => rw [fmtF_nil, fmtF_nil]
    | cons c r =>
      cases n' with
      | zero => simp at h'
      | succ n' =>
        unfold fmtF
        simp only
        split
        · rfl
        rename_i h0
        split
        · rfl
        have h0' : (firstV (c :: r) aa).2 = 0 := Decidable.of_not_not h0
        obtain ⟨⟨⟨t, k, u⟩, e⟩, hx⟩ : ∃ x, firstV (c :: r) aa = x := ⟨_, rfl⟩
        rw [hx] at h0' ⊢
        simp only at h0' ⊢
        subst h0'
        obtain ⟨k1, k2, k3⟩ := firstV_ok hx
        exact ih n' _ _ _ _ (by rw [drop_len]; omega) (by rw [drop_len]; omega)
theorem fmtF_on : ∀ (n : Nat) (l : List UInt8) (aa : List Ag) (p : Nat) (out R : List UInt8) (q : Nat), l.length ≤ n → fmtF n l aa p out = (R, 0, q) →
    ∃ T, R = out ++ T ∧ q = p + l.length ∧ ∀ n' m bs p' out', m.length ≤ n' → out'.length + T.length ≤ 65536 → fmtF (n + n') (l ++ m) (aa ++ bs) p' out' = fmtF n' m bs (p' + l.length) (out' ++ T) := by
  intro n
  induction n with
  | zero =>
    intro l aa p out R q hl h
    obtain rfl : l = [] := List.length_eq_zero_iff.1 (by omega)
    rw [fmtF_nil] at h
    split at h
    · rename_i ha
      cases h
      subst ha
      exact ⟨[], by simp, by simp, fun n' m bs p' out' _ _ => by simp⟩
    · cases h
  | succ n ih =>
    intro l aa p out R q hl h
    cases l with
    | nil =>
      rw [fmtF_nil] at h
      split at h
      · rename_i ha
        cases h
        subst ha
        refine ⟨[], by simp, by simp, fun n' m bs p' out' hm _ => ?_⟩
        simp only [List.nil_append, List.length_nil, Nat.add_zero, List.append_nil]
        exact fmtF_fuel _ _ _ _ _ _ (by omega) hm
      · cases h
    | cons c r =>
      unfold fmtF at h
      simp only at h
      split at h
      · rename_i h0
        exact absurd (congrArg (fun x : List UInt8 × Int × Nat => x.2.1) h) h0
      rename_i h0
      split at h
      · cases h
      rename_i h1
      have h0' : (firstV (c :: r) aa).2 = 0 := Decidable.of_not_not h0
      obtain ⟨⟨⟨t, k, u⟩, e⟩, hx⟩ : ∃ x, firstV (c :: r) aa = x := ⟨_, rfl⟩
      rw [hx] at h h0' h1
      simp only at h h0' h1
      subst h0'
      obtain ⟨k1, k2, k3⟩ := firstV_ok hx
      obtain ⟨T, hR, hq, hT⟩ := ih _ _ _ _ _ _ (by rw [drop_len]; omega) h
      refine ⟨t ++ T, by rw [hR, List.append_assoc], by rw [hq, drop_len]; omega, fun n' m bs p' out' hm ho => ?_⟩
      have hx2 := firstV_app m bs hx
      rw [List.length_append] at ho
      rw [Nat.add_right_comm, List.cons_append]
      rw [List.cons_append] at hx2
      conv => lhs; unfold fmtF
      simp only
      rw [hx2]
      simp only
      rw [if_neg (by decide), if_neg (by omega), ← List.cons_append, drop_app (c :: r) m k k2, drop_app aa bs u k3, hT n' m bs _ _ hm (by rw [List.length_append]; omega), drop_len, List.append_assoc, Nat.add_assoc, Nat.add_sub_cancel' k2]
theorem fmtF_shift {n : Nat} {l : List UInt8} {aa : List Ag} {R : List UInt8} {q : Nat} (hl : l.length ≤ n) (h : fmtF n l aa 0 [] = (R, 0, q)) (p' : Nat) (out' : List UInt8) (ho : out'.length + R.length ≤ 65536) : fmtF n l aa p' out' = (out' ++ R, 0, p' + l.length) := by
  obtain ⟨T, hR, _, hT⟩ := fmtF_on n l aa 0 [] R q hl h
  have := hT 0 [] [] p' out' (Nat.le_refl _) (by rw [hR] at ho; simpa using ho)
  rw [Nat.add_zero, List.append_nil, List.append_nil, fmtF_nil, if_pos rfl] at this
  rw [this, hR, List.nil_append]
theorem fmtV_joins {f g : List UInt8} {aa bs : List Ag} {a b : List UInt8} {p q : Nat} (h1 : fmtV f aa = (a, 0, p)) (h2 : fmtV g bs = (b, 0, q)) (hl : a.length + b.length ≤ 65536) (hf : f.length + g.length ≤ 65536) : fmtV (f ++ g) (aa ++ bs) = (a ++ b, 0, f.length + g.length) := by
  unfold fmtV at h1 h2 ⊢
  rw [if_neg (by omega)] at h1 h2
  rw [List.length_append, if_neg (by omega)]
  obtain ⟨T, hR, hq, hT⟩ := fmtF_on _ _ _ _ _ _ _ (Nat.le_refl _) h1
  rw [List.nil_append] at hR
  subst hR
  rw [hT _ _ _ _ _ (Nat.le_refl _) (by simp; omega), List.nil_append, fmtF_shift (Nat.le_refl _) h2 _ _ hl, Nat.zero_add]
end Go.Proofs.YtcmfpafcipgejaaGreatDoor

/- Format: the text that a pattern makes of its Args. -/
namespace Go.Proofs.YtcmfpafcipgejaaGreatDoor
open Go.RowKit

theorem strCells_bv (s : ByteArray) : Lib.strCells s = s.data.toList.map bv := rfl
theorem str_dropE (s : ByteArray) (a : Nat) : (s.extract a s.size).data.toList = s.data.toList.drop a := by
  have hsz : s.data.toList.length = s.size := by rw [Array.length_toList]; rfl
  rw [ext_list, List.take_of_length_le (by rw [List.length_drop, hsz]; exact Nat.le_refl _)]
theorem fmtF_step (n : Nat) (c : UInt8) (r : List UInt8) (aa : List Ag) (p : Nat) (out : List UInt8) : fmtF (n + 1) (c :: r) aa p out = if (firstV (c :: r) aa).2 ≠ 0 then ([], (firstV (c :: r) aa).2, p) else if 65536 < out.length + (firstV (c :: r) aa).1.1.length then ([], 5, p) else fmtF n ((c :: r).drop (firstV (c :: r) aa).1.2.1) (aa.drop (firstV (c :: r) aa).1.2.2) (p + (firstV (c :: r) aa).1.2.1) (out ++ (firstV (c :: r) aa).1.1) := rfl
theorem firstV_u {l : List UInt8} {aa : List Ag} {t : List UInt8} {k u : Nat} (h : firstV l aa = ((t, k, u), 0)) : u = 0 ∨ (u = 1 ∧ 1 ≤ aa.length) := by
  unfold firstV at h
  split at h
  · cases h
  split at h
  · cases h
    exact .inl rfl
  split at h
  · cases h
  split at h
  · cases h
    exact .inl rfl
  split at h
  · cases h
  split at h
  · cases h
    exact .inr ⟨rfl, by simp⟩
  · cases h
theorem AgsV.tail {W : World} {a : Option Addr} {c : Nat} {l : List Ag} (h : AgsV W (.slice a l.length c) l) (h1 : 1 ≤ l.length) : AgsV W (.slice (if c = 1 then a else Option.map (fun x => { block := x.block, off := x.off + 4 }) a) (l.length - 1) (c - 1)) (l.drop 1) := by
  obtain ⟨a', c', he, hc, hd, hb⟩ := h
  obtain ⟨rfl, rfl⟩ : a = a' ∧ c = c' := by cases he; exact ⟨rfl, rfl⟩
  obtain ⟨b', off', rfl, hcells⟩ := hd h1
  refine ⟨_, _, by rw [List.length_drop], by rw [List.length_drop]; omega, fun h0 => ?_, fun x hx => hb x (List.mem_of_mem_drop hx)⟩
  rw [List.length_drop] at h0
  rw [if_neg (by omega)]
  refine ⟨b', off' + 4, rfl, fun j hj => ?_⟩
  rw [List.length_drop] at hj
  have := hcells (j + 1) (by omega)
  rw [show off' + 4 + j * 4 = off' + (j + 1) * 4 by omega, List.getElem_drop]
  simpa [Nat.add_comm] using this
theorem owns_base {W : World} {base e size n : Nat} {v : Value} {xs : List Value} (h : W.ownsRow base e size v n xs) : ∀ k, v.ownBlock = some k → base ≤ k ∧ k < W.heap.size := by
  intro k hk
  rcases h.2 with ⟨rfl, _⟩ | ⟨g, cap, cur, rfl, hbg, hg, _⟩
  · cases hk
  · cases hk
    exact ⟨hbg, (Array.getElem?_eq_some_iff.1 hg).1⟩
set_option maxRecDepth 100000 in
set_option maxHeartbeats 4000000 in
theorem format_any (s : ByteArray) (va : Value) (aa : List Ag) (w : World) (hs : s.size ≤ maxLen) (hA : AgsV w va aa) :
    Calls Tryz.prog 19 #[.string s, va] w fun e w' => ∃ v, e = .returned (.tuple #[v, .int .i64 (fmtV s.data.toList aa).2.1, .int .i64 ((fmtV s.data.toList aa).2.2 : Int)]) ∧ w'.ownsRow w.heap.size 5 1 v (fmtV s.data.toList aa).1.length ((fmtV s.data.toList aa).1.map bv) ∧ Below w.heap.size w w' := by
  obtain ⟨i0, hi, hz0, hz1, hz2⟩ := info_parts Tryz.infoB
  have hsz : s.data.toList.length = s.size := by rw [Array.length_toList]; rfl
  obtain ⟨R, hR⟩ : ∃ R, fmtV s.data.toList aa = R := ⟨_, rfl⟩
  rw [hR]
  unfold fmtV at hR
  rw [hsz] at hR
  have hs2 := hs
  unfold maxLen at hs
  by_cases hlong : 65536 < s.size
  · rw [if_pos hlong] at hR
    subst hR
    have hl : (65536 : Int) < (s.size : Int) := by omega
    obtain ⟨va1, vc1, rfl, -⟩ := hA
    go_enter Tryz.func19, Tryz.ntmps19
    go_wp2
    go_ret3
    exact ⟨_, rfl, World.ownsRow_nil _ _ _ _, Below.refl _ _⟩
  rw [if_neg hlong] at hR
  have hl : ¬ (65536 : Int) < (s.size : Int) := by omega
  have HR := hide hR
  have HA := hide hA
  obtain ⟨va1, vc1, rfl, hvc, -⟩ := hA
  clear hR hsz
  go_enter Tryz.func19, Tryz.ntmps19
  go_wp2
  go_loopw [1, 7, 8] (fun va' t i wr => ∃ (k : Nat) (bb : List Ag) (out : List UInt8) (va2 ta : Option Addr) (vc2 tc : Nat), k ≤ s.size ∧ i = .int .i64 k ∧ va' = .slice va2 bb.length vc2 ∧ t = .slice ta out.length tc ∧ bb.length ≤ vc2 ∧ Hid (AgsV w (.slice va2 bb.length vc2) bb) ∧ Hid (wr.ownsRow w.heap.size 5 1 (.slice ta out.length tc) out.length (out.map bv)) ∧ out.length ≤ 65536 ∧ Hid (Below w.heap.size w wr) ∧ Hid (fmtF (s.size - k) (s.data.toList.drop k) bb k out = R)) (fun _ _ i _ => s.size - (intOf i).toNat)
  case atStart => exact ⟨0, aa, [], va1, none, vc1, 0, Nat.zero_le _, rfl, rfl, rfl, hvc, HA, World.ownsRow_nil _ _ _ _, Nat.zero_le _, Below.refl _ _, HR⟩
  case round =>
    clear HR HA hvc
    obtain ⟨k, bb, out, va2, ta, vc2, tc, hk, rfl, rfl, rfl, hvc, HAg, HO, ho, HB, HF⟩ := hrel
    by_cases hlt : k < s.size
    · have hlt' : ((k : Nat) : Int) < (s.size : Int) := by omega
      have hF := HF.out
      rw [drop_at s k hlt, show s.size - k = (s.size - (k + 1)) + 1 by omega, fmtF_step, ← drop_at s k hlt] at hF
      have HFi := first_any (s.extract k s.size) _ bb wr (by rw [ext_size s k _ (Nat.le_refl _)]; omega) (by rw [ext_size s k _ (Nat.le_refl _)]; omega) (HAg.out.below HB.out)
      rw [str_dropE] at HFi
      obtain ⟨x, hx⟩ : ∃ x, firstV (s.data.toList.drop k) bb = x := ⟨_, rfl⟩
      rw [hx] at hF HFi
      obtain ⟨⟨T, n, u⟩, e⟩ := x
      unfold pcV at HFi
      simp only at hF HFi
      obtain ⟨X, hX⟩ : ∃ X : ByteArray, (⟨T.toArray⟩ : ByteArray) = X := ⟨_, rfl⟩
      have hXd : X.data.toList = T := by rw [← hX]
      have hXs : X.size = T.length := by rw [← hX]; rfl
      rw [hX] at HFi
      have HF2 := hide hF
      have HFi2 := hide HFi
      have HX := hide hx
      clear hF HFi hx hX HF
      by_cases he : e = 0
      case neg =>
        have he1 : (e == 0) = false := by simpa using he
        have he2 : (e != 0) = true := by simpa using he
        have hr := HF2.out
        rw [if_pos he] at hr
        subst hr
        clear he HX hXd hXs HF2
        go_wp2_with (first | (go_at_call 29; refine HFi2.out.mono ?_; rintro _ w2 ⟨rfl, hB2⟩; have HB2 := hide (HB.out.trans (hB2.mono HB.out.size)); clear hB2) | fail)
        go_ret3
        exact ⟨_, rfl, World.ownsRow_nil _ _ _ _, HB2.out.trans ((fm_below _ _).mono HB2.out.size)⟩
      subst he
      obtain ⟨n1, n2, -⟩ := firstV_ok HX.out
      rw [drop_len, show s.data.toList.length = s.size by rw [Array.length_toList]; rfl] at n2
      have hr := HF2.out
      rw [if_neg (by decide)] at hr
      clear HF2
      by_cases hlg : 65536 < out.length + T.length
      · rw [if_pos hlg] at hr
        subst hr
        have hl2 : (65536 : Int) - (out.length : Int) < (X.size : Int) := by omega
        clear HX hXd hXs hlg
        go_wp2_with (first | (go_at_call 29; refine HFi2.out.mono ?_; rintro _ w2 ⟨rfl, hB2⟩; have HB2 := hide (HB.out.trans (hB2.mono HB.out.size)); clear hB2) | fail)
        go_ret3
        exact ⟨_, rfl, World.ownsRow_nil _ _ _ _, HB2.out.trans ((fm_below _ _).mono HB2.out.size)⟩
      · rw [if_neg hlg] at hr
        have HR2 := hide hr
        have hl2 : ¬ ((65536 : Int) - (out.length : Int) < (X.size : Int)) := by omega
        have hu := firstV_u HX.out
        clear HX hr
        go_upto_region 11 with (first | (go_at_call 29; refine HFi2.out.mono ?_; rintro _ w2 ⟨rfl, hB2⟩) | fail)
        have hB3 := hB2.trans ((fm_below w2 (.cells #[.string X, .int .i64 (n : Int), .int .i64 (u : Int)] 88)).mono hB2.size)
        have HB3 := hide (HB.out.trans (hB3.mono HB.out.size))
        have hO3 := owns_below HO.out hB3
        have HP3 := hide (PC.new w2 X n u)
        have hzp : w2.heap.size < (w2.alloc (.cells #[.string X, .int .i64 (n : Int), .int .i64 (u : Int)] 88)).heap.size := size_new _ _
        have hne : some w2.heap.size ≠ (Value.slice ta out.length tc).ownBlock := fun e => by have h1 := (owns_base HO.out _ e.symm).2; have h2 := hB2.size; omega
        have hbase := HB3.out.size
        generalize w2.alloc (.cells #[.string X, .int .i64 (n : Int), .int .i64 (u : Int)] 88) = w3 at *
        clear hB2 hB3
        have q0 := HP3.out.c0
        go_upto_region 12 with (at_builtin; refine Lib.wpList_append_own_string _ rfl _ _ _ _ rfl w.heap.size 5 i0 Tryz.underlying22 Tryz.underlying9 hi hz0 hz1 hz2 _ out.length _ rfl hO3 X rfl (by unfold maxLen; omega) (by omega) hbase ?_; intro v4 w4 hO4 hG4 hI4)
        have p0 := (hG4.cell_far ⟨w2.heap.size, 0, none⟩ hzp hne).trans HP3.out.c0
        have p1 := (hG4.cell_far ⟨w2.heap.size, 1, none⟩ hzp hne).trans HP3.out.c1
        have p2 := (hG4.cell_far ⟨w2.heap.size, 2, none⟩ hzp hne).trans HP3.out.c2
        obtain ⟨a4, c4, rfl⟩ := owns_slice hO4
        have HB4 := hide (HB3.out.grown hG4 hbase (fun j e => (owns_base hO3 j e).1))
        have hlen : out.length + X.size = (out ++ T).length := by rw [List.length_append, hXs]
        have hO5 : w4.ownsRow w.heap.size 5 1 (.slice a4 (out ++ T).length c4) (out ++ T).length ((out ++ T).map bv) := by
          have q := hO4
          rw [strCells_bv, hXd, ← List.map_append, hlen] at q
          exact q
        have HO5 := hide hO5
        have hR3 := HR2.out
        rw [List.drop_drop] at hR3
        have HR3 : Hid (fmtF (s.size - (k + n)) (s.data.toList.drop (k + n)) (bb.drop u) (k + n) (out ++ T) = R) := by
          refine Eq.trans ?_ hR3
          have hq : (s.data.toList.drop (k + n)).length = s.size - (k + n) := by rw [drop_len]; rw [show s.data.toList.length = s.size by rw [Array.length_toList]; rfl]
          exact fmtF_fuel _ _ _ _ _ _ (by omega) (by omega)
        have hlen2 : (out ++ T).length ≤ 65536 := by rw [List.length_append]; omega
        have HLE := hide hlen
        have HLE2 := hide hlen2
        clear hO4 hO5 hR3 HR2 hlen hlen2 hI4
        rcases hu with rfl | ⟨rfl, hu⟩
        · go_wp2
          refine ⟨⟨k + n, bb, out ++ T, va2, a4, vc2, c4, by omega, rfl, rfl, by rw [← HLE.out, hXs], hvc, HAg, HO5, HLE2.out, HB4, HR3⟩, ?_⟩
          simp [intOf]; omega
        · go_wp2
          refine ⟨⟨k + n, bb.drop 1, out ++ T, _, a4, _, c4, by omega, rfl, by rw [List.length_drop], by rw [← HLE.out, hXs], by rw [List.length_drop]; omega, ?_, HO5, HLE2.out, HB4, HR3⟩, ?_⟩
          · have q := AgsV.tail HAg.out hu
            rw [← List.length_drop] at q
            exact q
          · simp [intOf]; omega
    · have hlt' : ¬ ((k : Nat) : Int) < (s.size : Int) := by omega
      have hr := HF.out
      rw [drop_end s k (by omega), fmtF_nil] at hr
      cases bb with
      | nil =>
        rw [if_pos rfl] at hr
        subst hr
        obtain rfl : k = s.size := by omega
        clear HF
        go_wp2
        go_ret3
        exact ⟨_, rfl, HO.out, HB.out⟩
      | cons x r =>
        rw [if_neg (by simp)] at hr
        subst hr
        obtain rfl : k = s.size := by omega
        obtain ⟨L, hL⟩ : ∃ L, (x :: r).length = L := ⟨_, rfl⟩
        have hL0 : (0 : Int) < (L : Int) := by rw [← hL]; exact Int.natCast_pos.2 (by simp)
        have hL1 : 0 < L := by rw [← hL]; simp
        rw [hL]
        clear HF HAg hvc hL
        go_wp2
        go_ret3
        exact ⟨_, rfl, World.ownsRow_nil _ _ _ _, HB.out⟩
end Go.Proofs.YtcmfpafcipgejaaGreatDoor

/- Format: the law's num; the Args that are made of values; alive. -/
namespace Go.Proofs.YtcmfpafcipgejaaGreatDoor
open Go.RowKit

theorem res_ag {fn : Func} {p : Tmp} {w : World} (h : fn.results = #[.cell p 42]) (tmps : Array Value) (g : Nat) (hp : tmps.getD p undef = .pointer (some ⟨g, 0, none⟩)) {x : Ag} (hg : AH w g 0 x) :
    (results fn tmps).run Tryz.prog w = .ok (agV x) w := by
  obtain ⟨h0, h1, h2, h3⟩ := hg
  have hp' : tmps[p]?.getD undef = .pointer (some ⟨g, 0, none⟩) := by simpa using hp
  have a := Tryz.isAgg42
  have b := Tryz.sizeOf42
  have c0 := Tryz.isAgg3
  have c1 := Tryz.sizeOf3
  have c2 := Tryz.underlying3
  have d0 := Tryz.isAgg9
  have d1 := Tryz.sizeOf9
  have d2 := Tryz.underlying9
  have e0 := Tryz.isAgg39
  have e1 := Tryz.sizeOf39
  have e2 := Tryz.underlying39
  unfold agV
  simp only [results, h]
  simp only [loadVar]
  go_simp
theorem AgAt.ah {W : World} {g : Nat} {x : Ag} (h : AgAt W g x) : AH W g 0 x := ⟨h.c0, h.c1, h.c2, h.c3⟩
theorem fint_any (n : Int) (w : World) : Calls Tryz.prog 16 #[.int .i64 n] w fun e w' => e = .returned (agV ⟨1, n, 0, ⟨#[]⟩⟩) ∧ Below w.heap.size w w' := by
  go_enter Tryz.func16, Tryz.ntmps16
  go_wp2
  refine bodyPost_ret (res_ag rfl _ w.heap.size rfl (AgAt.new w ⟨1, n, 0, ⟨#[]⟩⟩).ah) rfl ?_
  exact ⟨rfl, fm_below _ _⟩
theorem fuint_any (n : Int) (w : World) : Calls Tryz.prog 17 #[.int .u64 n] w fun e w' => e = .returned (agV ⟨2, 0, n, ⟨#[]⟩⟩) ∧ Below w.heap.size w w' := by
  go_enter Tryz.func17, Tryz.ntmps17
  go_wp2
  refine bodyPost_ret (res_ag rfl _ w.heap.size rfl (AgAt.new w ⟨2, 0, n, ⟨#[]⟩⟩).ah) rfl ?_
  exact ⟨rfl, fm_below _ _⟩
theorem fbyte_any (n : Int) (h0 : 0 ≤ n) (h1 : n ≤ 255) (w : World) : Calls Tryz.prog 99 #[.int .u8 n] w fun e w' => e = .returned (agV ⟨3, 0, n, ⟨#[]⟩⟩) ∧ Below w.heap.size w w' := by
  have hw : IntKind.u64.wrap n = n := by rw [IntKind.wrap_u64]; omega
  go_enter Tryz.func99, Tryz.ntmps99
  go_wp2
  refine bodyPost_ret (res_ag rfl _ w.heap.size rfl (AgAt.new w ⟨3, 0, n, ⟨#[]⟩⟩).ah) rfl ?_
  exact ⟨rfl, fm_below _ _⟩
theorem ftext_any (s : ByteArray) (w : World) : Calls Tryz.prog 18 #[.string s] w fun e w' => e = .returned (agV ⟨4, 0, 0, s⟩) ∧ Below w.heap.size w w' := by
  go_enter Tryz.func18, Tryz.ntmps18
  go_wp2
  refine bodyPost_ret (res_ag rfl _ w.heap.size rfl (AgAt.new w ⟨4, 0, 0, s⟩).ah) rfl ?_
  exact ⟨rfl, fm_below _ _⟩
def agC (x : Ag) : List Value := [.int .i64 x.kind, .int .i64 x.int, .int .u64 x.uint, .string x.text]
theorem flat_get : ∀ (l : List Ag) (j : Nat) (hj : j < l.length) (i : Nat), i < 4 → (l.flatMap agC)[j * 4 + i]? = (agC l[j])[i]?
  | [], j, hj, _, _ => absurd hj (Nat.not_lt_zero j)
  | x :: l, 0, _, i, hi => by
    rw [List.flatMap_cons, List.getElem?_append_left (by show 0 * 4 + i < 4; omega), Nat.zero_mul, Nat.zero_add]
    rfl
  | x :: l, j + 1, hj, i, hi => by
    rw [List.flatMap_cons, List.getElem?_append_right (by show 4 ≤ _; omega), show (j + 1) * 4 + i - (agC x).length = j * 4 + i by show _ - 4 = _; omega]
    exact flat_get l j (Nat.lt_of_succ_lt_succ hj) i hi
theorem ags_lit (w : World) (l : List Ag) (cs : Array Value) (t : TypeId) (fr : Nat × Nat) (n : Nat) (hn : n = l.length) (hcs : cs.toList = l.flatMap agC) (hb : ∀ x ∈ l, AB x) : AgsV (w.alloc (.cells cs t fr)) (.slice (some ⟨w.heap.size, 0, none⟩) n n) l := by
  subst hn
  refine ⟨_, _, rfl, Nat.le_refl _, fun _ => ⟨_, _, rfl, fun j hj => ?_⟩, hb⟩
  have key : ∀ i, i < 4 → (w.alloc (.cells cs t fr)).cell? ⟨w.heap.size, 0 + j * 4 + i, none⟩ = (agC l[j])[i]? := by
    intro i hi
    rw [cell_of_row _ w.heap.size _ cs _ fr (heap_alloc_new w _), ← Array.getElem?_toList, hcs, Nat.zero_add, flat_get l j hj i hi]
  exact ⟨key 0 (by decide), key 1 (by decide), key 2 (by decide), key 3 (by decide)⟩
theorem format_is (s : ByteArray) (va : Value) (aa : List Ag) (t : List UInt8) (e : Int) (p : Nat) (hs : s.size ≤ maxLen) (h : fmtV s.data.toList aa = (t, e, p)) (w : World) (hA : AgsV w va aa) :
    Calls Tryz.prog 19 #[.string s, va] w fun r w' => ∃ v, r = .returned (.tuple #[v, .int .i64 e, .int .i64 (p : Int)]) ∧ w'.ownsRow w.heap.size 5 1 v t.length (t.map bv) ∧ Below w.heap.size w w' := by
  have q := format_any s va aa w hs hA
  rw [h] at q
  exact q

end Go.Proofs.YtcmfpafcipgejaaGreatDoor

/- FormatJoins: Args that are copied, Args behind Args; the walk. -/
namespace Go.Proofs.YtcmfpafcipgejaaGreatDoor
open Go.RowKit

def FormS (v : Value) : Prop := v = .slice none 0 0 ∨ ∃ q n c, v = .slice (some q) n c
theorem Tryz.infoA : (Tryz.prog.info? 42).map (fun i => (i.zero, i.size, i.bytes)) = some (some (.agg #[.int .i64 0, .int .i64 0, .int .u64 0, .string ByteArray.empty]), 4, 40) := by kernel_rfl
theorem flat_one : ∀ (l : List Ag), ∀ u ∈ l.flatMap agC, u.oneCell' = true := by
  intro l u hu
  obtain ⟨x, _, hx⟩ := List.mem_flatMap.1 hu
  unfold agC at hx
  simp only [List.mem_cons, List.not_mem_nil, or_false] at hx
  rcases hx with rfl | rfl | rfl | rfl <;> rfl
theorem AgsV.of_owns {W : World} {base : Nat} {v : Value} {l : List Ag} (h : W.ownsRow base 42 4 v l.length (l.flatMap agC)) (hb : ∀ x ∈ l, AB x) : AgsV W v l ∧ FormS v := by
  rcases h.2 with ⟨rfl, h0⟩ | ⟨g, cap, cur, rfl, hbg, hg, hnc, _⟩
  · obtain rfl : l = [] := by
      cases l with
      | nil => rfl
      | cons x l => exact absurd h0 (by simp)
    exact ⟨⟨none, 0, rfl, Nat.le_refl _, fun h => absurd h (Nat.lt_irrefl _), hb⟩, .inl rfl⟩
  · refine ⟨⟨some ⟨g, 0, none⟩, cap, rfl, hnc, fun _ => ⟨g, 0, rfl, fun j hj => ?_⟩, hb⟩, .inr ⟨_, _, _, rfl⟩⟩
    have hadd : ∀ o k, (⟨g, o, none⟩ : Addr).add k = ⟨g, o + k, none⟩ := fun o k => by unfold Addr.add; split <;> simp_all
    have key : ∀ i, i < 4 → ∀ u, (agC l[j])[i]? = some u → W.cell? ⟨g, 0 + j * 4 + i, none⟩ = some u := by
      intro i hi u hu
      rw [← flat_get l j hj i hi] at hu
      have := h.cells (g := g) rfl _ _ hu
      rw [hadd] at this
      rw [Nat.add_assoc]
      exact this
    exact ⟨key 0 (by decide) _ rfl, key 1 (by decide) _ rfl, key 2 (by decide) _ rfl, key 3 (by decide) _ rfl⟩
end Go.Proofs.YtcmfpafcipgejaaGreatDoor

/- Scan: what a pattern says, and what it reads, as values. -/
namespace Go.Proofs.YtcmfpafcipgejaaGreatDoor
open Go.RowKit

structure Pt where
  verb : UInt8
  want : UInt8
  quiet : Bool
  wd : Nat
  len : Nat
def Pt.tells (p : Pt) : Bool := p.verb.toNat != 32 && p.verb.toNat != 37 && !p.quiet
def Pt.most (p : Pt) : Nat := if 0 < p.wd then p.wd else if p.verb.toNat = 99 then 1 else 4096
def sv (c : Nat) : Bool := c == 100 || c == 117 || c == 120 || c == 111 || c == 99 || c == 115
def numS (l : List UInt8) : Option (Nat × Nat) :=
  if run10 l = 0 then some (0, 0) else if 4 < run10 l ∨ 4096 < val10 (l.take (run10 l)) 0 ∨ (l.getD 0 0).toNat = 48 then none else some (val10 (l.take (run10 l)) 0, run10 l)
def qS (l : List UInt8) : Bool := match l.drop 1 with | [] => false | c :: _ => c.toNat == 42
def verbS (l : List UInt8) (at_ : Nat) : Option UInt8 :=
  match l.drop at_ with
  | [] => none
  | c :: _ => if sv c.toNat = true ∨ (c.toNat = 37 ∧ at_ = 1) then some c else none
def pdirS (l : List UInt8) : Option Pt :=
  let a := if qS l then 2 else 1
  match numS (l.drop a) with
  | none => none
  | some (n, k) => (verbS l (a + k)).map fun v => ⟨v, v, qS l, n, a + k + 1⟩
def firstS (l : List UInt8) : Option Pt :=
  match l with
  | [] => none
  | c :: r => if c.toNat = 37 then pdirS (c :: r) else if c.toNat = 32 ∨ c.toNat = 10 then some ⟨32, 0, false, 0, 1⟩ else some ⟨37, c, false, 0, 1⟩
def chkF : Nat → List UInt8 → Nat → Nat → Int × Nat
  | 0, _, _, n => (0, n)
  | _ + 1, [], _, n => (0, n)
  | k + 1, c :: r, p, n =>
    match firstS (c :: r) with
    | none => (171, p)
    | some q => chkF k ((c :: r).drop q.len) (p + q.len) (if q.tells then n + 1 else n)
def chkV (l : List UInt8) : Int × Nat := if 65536 < l.length then (5, 0) else chkF l.length l 0 0

structure SrcD (S : Type) where
  next : S → UInt8 × Int × S
  back : S → UInt8 → S
def isBl (c : UInt8) : Bool := c.toNat == 32 || c.toNat == 10 || c.toNat == 9
def isSg (c : UInt8) : Bool := c.toNat == 43 || c.toNat == 45
def digB (b : Nat) (c : UInt8) : Bool := decide (valI c.toNat < b)
def baseS (v : UInt8) : Nat := if v.toNat = 120 then 16 else if v.toNat = 111 then 8 else 10
def oneV {S : Type} (D : SrcD S) (f : Bool → UInt8 → Bool × Bool) (s : S) (q : Bool) : (UInt8 × Bool × Int) × S × Bool :=
  if (D.next s).2.1 = 0 then
    (if (f q (D.next s).1).1 then (((D.next s).1, true, 0), (D.next s).2.2, (f q (D.next s).1).2)
     else ((0, false, 0), D.back (D.next s).2.2 (D.next s).1, (f q (D.next s).1).2))
  else ((0, false, (D.next s).2.1), (D.next s).2.2, q)
def gatV {S : Type} (D : SrcD S) (f : Bool → UInt8 → Bool × Bool) : Nat → S → Bool → List UInt8 → (List UInt8 × Int) × S
  | 0, s, _, acc => ((acc, 0), s)
  | n + 1, s, q, acc => if (oneV D f s q).1.2.1 then gatV D f n (oneV D f s q).2.1 (oneV D f s q).2.2 (acc ++ [(oneV D f s q).1.1]) else ((acc, (oneV D f s q).1.2.2), (oneV D f s q).2.1)
def filV {S : Type} (D : SrcD S) (f : Bool → UInt8 → Bool × Bool) (n : Nat) (s : S) : (List UInt8 × Int) × S :=
  (((gatV D f n s false []).1.1, if (gatV D f n s false []).1.2 = 0 ∧ (gatV D f n s false []).1.1.length < n then 181 else (gatV D f n s false []).1.2), (gatV D f n s false []).2)
def fBl (q : Bool) (c : UInt8) : Bool × Bool := (isBl c, q)
def fAll (q : Bool) (_ : UInt8) : Bool × Bool := (true, q)
def fIs (x : UInt8) (q : Bool) (c : UInt8) : Bool × Bool := (c == x, q)
def fitV (v : UInt8) (q : Bool) (c : UInt8) : Bool × Bool :=
  if v.toNat = 115 then (!isBl c, q) else if v.toNat = 100 then ((!q && isSg c) || digB 10 c, true) else (digB (baseS v) c, q)
def passV {S : Type} (D : SrcD S) : Nat → S → Option (Int × S)
  | 0, _ => none
  | n + 1, s => if (oneV D fBl s false).1.2.1 then passV D n (oneV D fBl s false).2.1 else some ((oneV D fBl s false).1.2.2, (oneV D fBl s false).2.1)
def leastV (l : List UInt8) (v : UInt8) : Bool := if v.toNat = 100 ∧ l.length = 1 then !isSg (l.getD 0 0) else decide (0 < l.length)
def intV (l : List UInt8) : Option Int :=
  let d := if isSg (l.getD 0 0) then l.drop 1 else l
  if (parseB 10 d).2.1 ≠ 0 then none
  else if (l.getD 0 0).toNat = 45 then (if (parseB 10 d).1 ≤ 9223372036854775808 then some (-(parseB 10 d).1) else none)
  else if (parseB 10 d).1 < 9223372036854775808 then some (parseB 10 d).1 else none
def ag0 : Ag := ⟨0, 0, 0, ⟨#[]⟩⟩
def intA (o : Option Int) : Ag × Int := match o with | none => (ag0, 181) | some n => (⟨1, n, 0, ⟨#[]⟩⟩, 0)
def worthV (l : List UInt8) (v : UInt8) : Ag × Int :=
  if v.toNat = 115 then (⟨4, 0, 0, ⟨l.toArray⟩⟩, 0)
  else if v.toNat = 100 then intA (intV l)
  else if (parseB (baseS v) l).2.1 ≠ 0 then (ag0, 181) else (⟨2, 0, (parseB (baseS v) l).1, ⟨#[]⟩⟩, 0)
def wordV {S : Type} (D : SrcD S) (p : Pt) (s : S) : (Ag × Int) × S :=
  let g := gatV D (fitV p.verb) p.most s false []
  if g.1.2 ≠ 0 ∧ g.1.2 ≠ 111 then ((ag0, g.1.2), g.2)
  else if leastV g.1.1 p.verb then (worthV g.1.1 p.verb, g.2)
  else ((ag0, if g.1.2 = 0 then 181 else g.1.2), g.2)
def partV {S : Type} (D : SrcD S) (N : Nat) (p : Pt) (s : S) : Option ((Ag × Int) × S) :=
  if p.verb.toNat = 32 then (passV D N s).map fun r => ((ag0, if r.1 = 111 then 0 else r.1), r.2)
  else if p.verb.toNat = 37 then some ((ag0, (filV D (fIs p.want) 1 s).1.2), (filV D (fIs p.want) 1 s).2)
  else if p.verb.toNat = 99 then
    let g := filV D fAll p.most s
    some (if g.1.2 ≠ 0 then ((ag0, g.1.2), g.2) else if p.wd = 0 then ((⟨3, 0, ((g.1.1.getD 0 0).toNat : Int), ⟨#[]⟩⟩, 0), g.2) else ((⟨4, 0, 0, ⟨g.1.1.toArray⟩⟩, 0), g.2))
  else match passV D N s with
    | none => none
    | some r => some (if r.1 ≠ 0 then ((ag0, r.1), r.2) else wordV D p r.2)
def readF {S : Type} (D : SrcD S) (N : Nat) : Nat → List UInt8 → S → List Ag → Option ((List Ag × Int) × S)
  | 0, _, s, aa => some ((aa, 0), s)
  | _ + 1, [], s, aa => some ((aa, 0), s)
  | k + 1, c :: r, s, aa =>
    match firstS (c :: r) with
    | none => none
    | some p => match partV D N p s with
      | none => none
      | some x => if x.1.2 ≠ 0 then some ((aa, x.1.2), x.2) else readF D N k ((c :: r).drop p.len) x.2 (if p.tells then aa ++ [x.1.1] else aa)
def txtD (b : List UInt8) : SrcD Nat := ⟨fun n => if n < b.length then (b.getD n 0, 0, n + 1) else (0, 111, n), fun n _ => n - 1⟩
def scanV (f b : List UInt8) : (List Ag × Nat) × Int :=
  if (chkV f).1 ≠ 0 then (([], 0), (chkV f).1) else match readF (txtD b) (b.length + 1) f.length f 0 [] with
    | none => (([], 0), 0)
    | some r => ((r.1.1, r.2), r.1.2)
end Go.Proofs.YtcmfpafcipgejaaGreatDoor

/- The statements' own example holds: alive answers true, and nothing that lay has turned. -/
namespace Go.Proofs.YtcmfpafcipgejaaGreatDoor
open Go.RowKit

end Go.Proofs.YtcmfpafcipgejaaGreatDoor

/- What num.Unhex answers, for every text: its octets in memory of the call's own, or the first fault and its place. -/
namespace Go.Proofs.YtcmfpafcipgejaaGreatDoor
open Go.RowKit

end Go.Proofs.YtcmfpafcipgejaaGreatDoor

/- What num.Hex answers, for every octets: two digits each. -/
namespace Go.Proofs.YtcmfpafcipgejaaGreatDoor
open Go.RowKit

end Go.Proofs.YtcmfpafcipgejaaGreatDoor

/- Numbers and octets are read back from their digits: what the statement NumBack asks. -/
namespace Go.Proofs.YtcmfpafcipgejaaGreatDoor
open Go.RowKit

theorem dec_len (n : Int) (h0 : -9223372036854775808 ≤ n) (h1 : n ≤ 9223372036854775807) : (dec n).length ≤ 65 := by
  have := digs_len 10 n.natAbs (by omega) (by omega)
  unfold dec
  split
  · rw [List.length_cons]; omega
  · omega


end Go.Proofs.YtcmfpafcipgejaaGreatDoor
