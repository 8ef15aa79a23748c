/- What the proof stands on, part 4: the contracts of the program's calls that it reaches. -/
import Derived.Test.YtpcchaciomeckaaDoorKT3
import Derived.Lib.AppendStr
import Derived.KernelRfl
/- Format: first: what a pattern's first bytes say. -/
namespace Go.Proofs.YtpcchaciomeckaaDoor
open Go.RowKit

structure AH (W : World) (b o : Nat) (x : Ag) : Prop where
  c0 : W.cell? ⟨b, o, none⟩ = some (.int .i64 x.kind)
  c1 : W.cell? ⟨b, o + 1, none⟩ = some (.int .i64 x.int)
  c2 : W.cell? ⟨b, o + 2, none⟩ = some (.int .u64 x.uint)
  c3 : W.cell? ⟨b, o + 3, none⟩ = some (.string x.text)
theorem AH.lt {W : World} {b o : Nat} {x : Ag} (h : AH W b o x) : b < W.heap.size := World.block_lt_of_cell? W _ h.c0
theorem AH.below {W W' : World} {b o : Nat} {x : Ag} (h : AH W b o x) (hB : Below W.heap.size W W') : AH W' b o x :=
  ⟨(hB.cell (p := ⟨b, o, none⟩) h.lt).trans h.c0, (hB.cell (p := ⟨b, o + 1, none⟩) h.lt).trans h.c1, (hB.cell (p := ⟨b, o + 2, none⟩) h.lt).trans h.c2, (hB.cell (p := ⟨b, o + 3, none⟩) h.lt).trans h.c3⟩
theorem AH.set {W : World} {b o k j : Nat} {x : Ag} {u : Value} (h : AH W b o x) (hne : b ≠ k) : AH (W.setCell ⟨k, j, none⟩ u) b o x :=
  ⟨(World.cell?_setCell_other _ _ _ _ (fun e => hne (congrArg Addr.block e).symm)).trans h.c0, (World.cell?_setCell_other _ _ _ _ (fun e => hne (congrArg Addr.block e).symm)).trans h.c1, (World.cell?_setCell_other _ _ _ _ (fun e => hne (congrArg Addr.block e).symm)).trans h.c2, (World.cell?_setCell_other _ _ _ _ (fun e => hne (congrArg Addr.block e).symm)).trans h.c3⟩
theorem DC.set {W : World} {g k j : Nat} {fl : Int} {wd pr : Nat} {c : Int} {pt : Bool} {u : Value} (h : DC W g fl wd pr c pt) (hne : g ≠ k) : DC (W.setCell ⟨k, j, none⟩ u) g fl wd pr c pt :=
  ⟨(World.cell?_setCell_other _ _ _ _ (fun e => hne (congrArg Addr.block e).symm)).trans h.c0, (World.cell?_setCell_other _ _ _ _ (fun e => hne (congrArg Addr.block e).symm)).trans h.c1, (World.cell?_setCell_other _ _ _ _ (fun e => hne (congrArg Addr.block e).symm)).trans h.c2, (World.cell?_setCell_other _ _ _ _ (fun e => hne (congrArg Addr.block e).symm)).trans h.c3, (World.cell?_setCell_other _ _ _ _ (fun e => hne (congrArg Addr.block e).symm)).trans h.c4⟩
structure AB (x : Ag) : Prop where
  kind : N64 x.kind
  int : N64 x.int
  lo : 0 ≤ x.uint
  hi : x.uint ≤ 18446744073709551615
  text : x.text.size ≤ maxLen
def AgsV (W : World) (v : Value) (l : List Ag) : Prop :=
  ∃ a c, v = .slice a l.length c ∧ l.length ≤ c ∧ (0 < l.length → ∃ b off, a = some ⟨b, off, none⟩ ∧ ∀ j (hj : j < l.length), AH W b (off + j * 4) l[j]) ∧ ∀ x ∈ l, AB x
theorem AgsV.below {W W' : World} {v : Value} {l : List Ag} (h : AgsV W v l) (hB : Below W.heap.size W W') : AgsV W' v l := by
  obtain ⟨a, c, rfl, hc, hd, hb⟩ := h
  refine ⟨a, c, rfl, hc, fun h0 => ?_, hb⟩
  obtain ⟨b, off, rfl, he⟩ := hd h0
  exact ⟨b, off, rfl, fun j hj => (he j hj).below hB⟩
theorem AgsV.of_rows {W : World} {v : Value} {l : List Ag} (h : Ags W v l) : AgsV W v l := by
  obtain ⟨a, c, rfl, hc⟩ := RowsR.form h
  refine ⟨a, c, rfl, hc, fun h0 => ?_, fun x hx => ?_⟩
  · rcases h with ⟨_, rfl⟩ | ⟨q, cap, he, _, hd⟩
    · exact absurd h0 (Nat.lt_irrefl 0)
    · obtain ⟨b, off, rfl, hr⟩ := hd h0
      cases he
      refine ⟨b, off, rfl, fun j hj => ?_⟩
      obtain ⟨cs, ⟨rfl, _⟩, _, hcell⟩ := hr j hj
      exact ⟨hcell 0 _ rfl, hcell 1 _ rfl, hcell 2 _ rfl, hcell 3 _ rfl⟩
  · obtain ⟨j, hj, rfl⟩ := List.getElem_of_mem hx
    obtain ⟨b, off, cs, _, ⟨_, r1, r2, r3, r4, r5⟩, _⟩ := RowsR.at h j hj
    exact ⟨r1, r2, r3, r4, r5⟩
structure PC (W : World) (g : Nat) (x : ByteArray) (n k : Int) : Prop where
  c0 : W.cell? ⟨g, 0, none⟩ = some (.string x)
  c1 : W.cell? ⟨g, 1, none⟩ = some (.int .i64 n)
  c2 : W.cell? ⟨g, 2, none⟩ = some (.int .i64 k)
  f0 : W.frozen? ⟨g, 0, none⟩ = false
  f1 : W.frozen? ⟨g, 1, none⟩ = false
  f2 : W.frozen? ⟨g, 2, none⟩ = false
theorem PC.lt {W : World} {g : Nat} {x : ByteArray} {n k : Int} (h : PC W g x n k) : g < W.heap.size := World.block_lt_of_cell? W _ h.c0
theorem PC.below {W W' : World} {g : Nat} {x : ByteArray} {n k : Int} (h : PC W g x n k) (hB : Below W.heap.size W W') : PC W' g x n k :=
  ⟨(hB.cell (p := ⟨g, 0, none⟩) h.lt).trans h.c0, (hB.cell (p := ⟨g, 1, none⟩) h.lt).trans h.c1, (hB.cell (p := ⟨g, 2, none⟩) h.lt).trans h.c2, (hB.frozen (p := ⟨g, 0, none⟩) h.lt).trans h.f0, (hB.frozen (p := ⟨g, 1, none⟩) h.lt).trans h.f1, (hB.frozen (p := ⟨g, 2, none⟩) h.lt).trans h.f2⟩
theorem PC.new (w : World) (x : ByteArray) (n k : Int) : PC (w.alloc (.cells #[.string x, .int .i64 n, .int .i64 k] 51)) w.heap.size x n k := by
  refine ⟨?_, ?_, ?_, ?_, ?_, ?_⟩
  · rw [cell_of_row _ w.heap.size _ _ _ _ (heap_alloc_new w _)]; rfl
  · rw [cell_of_row _ w.heap.size _ _ _ _ (heap_alloc_new w _)]; rfl
  · rw [cell_of_row _ w.heap.size _ _ _ _ (heap_alloc_new w _)]; rfl
  · exact frozen_of_row _ w.heap.size _ _ _ (heap_alloc_new w _)
  · exact frozen_of_row _ w.heap.size _ _ _ (heap_alloc_new w _)
  · exact frozen_of_row _ w.heap.size _ _ _ (heap_alloc_new w _)
theorem pc_fill {W : World} {g : Nat} {x0 : ByteArray} {n0 k0 : Int} (h : PC W g x0 n0 k0) (x : ByteArray) (n k : Int) :
    (((W.setCell ⟨g, 0, none⟩ (.string x)).setCell ⟨g, 1, none⟩ (.int .i64 n)).setCell ⟨g, 2, none⟩ (.int .i64 k)).cell? ⟨g, 0, none⟩ = some (.string x) ∧ (((W.setCell ⟨g, 0, none⟩ (.string x)).setCell ⟨g, 1, none⟩ (.int .i64 n)).setCell ⟨g, 2, none⟩ (.int .i64 k)).cell? ⟨g, 1, none⟩ = some (.int .i64 n) ∧ (((W.setCell ⟨g, 0, none⟩ (.string x)).setCell ⟨g, 1, none⟩ (.int .i64 n)).setCell ⟨g, 2, none⟩ (.int .i64 k)).cell? ⟨g, 2, none⟩ = some (.int .i64 k) := by
  refine ⟨?_, ?_, ?_⟩
  · rw [World.cell?_setCell_other _ _ _ _ (by simp), World.cell?_setCell_other _ _ _ _ (by simp)]; exact World.cell?_setCell_same _ _ _ h.c0
  · rw [World.cell?_setCell_other _ _ _ _ (by simp)]; exact World.cell?_setCell_same _ _ _ ((World.cell?_setCell_other _ _ _ _ (by simp)).trans h.c1)
  · exact World.cell?_setCell_same _ _ _ ((World.cell?_setCell_other _ _ _ _ (by simp)).trans ((World.cell?_setCell_other _ _ _ _ (by simp)).trans h.c2))
theorem res_pc {fn : Func} {p u : Tmp} {w : World} (h : fn.results = #[.cell p 51, .tmp u]) (tmps : Array Value) (g : Nat) (hp : tmps.getD p undef = .pointer (some ⟨g, 0, none⟩)) {x : ByteArray} {n k : Int} (hg : w.cell? ⟨g, 0, none⟩ = some (.string x) ∧ w.cell? ⟨g, 1, none⟩ = some (.int .i64 n) ∧ w.cell? ⟨g, 2, none⟩ = some (.int .i64 k)) :
    (results fn tmps).run Tryd.prog w = .ok (.tuple #[.agg #[.string x, .int .i64 n, .int .i64 k], tmps.getD u undef]) w := by
  obtain ⟨h0, h1, h2⟩ := hg
  have hp' : tmps[p]?.getD undef = .pointer (some ⟨g, 0, none⟩) := by simpa using hp
  have a := Tryd.isAgg51
  have b := Tryd.sizeOf51
  have c0 := Tryd.isAgg3
  have c1 := Tryd.sizeOf3
  have c2 := Tryd.underlying3
  have d0 := Tryd.isAgg9
  have d1 := Tryd.sizeOf9
  have d2 := Tryd.underlying9
  simp only [results, h]
  simp only [loadVar]
  go_simp
theorem three_below {w0 W : World} (h : Below w0.heap.size w0 W) {g : Nat} (hg : w0.heap.size ≤ g) (a b c : Value) : Below w0.heap.size w0 (((W.setCell ⟨g, 0, none⟩ a).setCell ⟨g, 1, none⟩ b).setCell ⟨g, 2, none⟩ c) :=
  ((h.setCell (p := ⟨g, 0, none⟩) hg _).setCell (p := ⟨g, 1, none⟩) hg _).setCell (p := ⟨g, 2, none⟩) hg _
def pcV (x : (List UInt8 × Nat × Nat) × Int) : Value := .tuple #[.agg #[.string ⟨x.1.1.toArray⟩, .int .i64 (x.1.2.1 : Int), .int .i64 (x.1.2.2 : Int)], .int .i64 x.2]
theorem pcV_eq {x : (List UInt8 × Nat × Nat) × Int} {t : ByteArray} {n k e : Int} (h0 : t.data.toList = x.1.1) (h1 : n = (x.1.2.1 : Int)) (h2 : k = (x.1.2.2 : Int)) (h3 : e = x.2) : Ending.returned (.tuple #[.agg #[.string t, .int .i64 n, .int .i64 k], .int .i64 e]) = .returned (pcV x) := by
  unfold pcV
  rw [h1, h2, h3, bstr (x := t) (y := ⟨x.1.1.toArray⟩) h0]
theorem firstV_cons (c : UInt8) (r : List UInt8) (aa : List Ag) : firstV (c :: r) aa = if c.toNat ≠ 37 then (([c], 1, 0), (0 : Int)) else match pdir (c :: r) with
      | none => (([], 0, 0), 171)
      | some (d, n) => if kOf d.verb.toNat = 0 then (([37], n, 0), 0) else match aa with
        | [] => (([], 0, 0), 3)
        | a :: _ => if a.isOf d.verb then ((d.shown a, n, 1), 0) else (([], 0, 0), 1) := rfl
set_option maxRecDepth 100000 in
set_option maxHeartbeats 4000000 in
theorem first_any (s : ByteArray) (va : Value) (aa : List Ag) (w : World) (hs : s.size ≤ maxLen) (h1 : 1 ≤ s.size) (hA : AgsV w va aa) :
    Calls Tryd.prog 24 #[.string s, va] w fun e w' => e = .returned (pcV (firstV s.data.toList aa)) ∧ Below w.heap.size w w' := by
  have hpa := fun W => parse_any s W hs h1
  have hpl := @pdir_len s.data.toList
  have hl : s.data.toList = s[0] :: s.data.toList.drop 1 := by have := drop_at s 0 (by omega); simpa using this
  have hfv : firstV s.data.toList aa = if s[0].toNat ≠ 37 then (([s[0]], 1, 0), (0 : Int)) else match pdir s.data.toList with
      | none => (([], 0, 0), 171)
      | some (d, n) => if kOf d.verb.toNat = 0 then (([37], n, 0), 0) else match aa with
        | [] => (([], 0, 0), 3)
        | a :: _ => if a.isOf d.verb then ((d.shown a, n, 1), 0) else (([], 0, 0), 1) := by
    have q := firstV_cons s[0] (s.data.toList.drop 1) aa
    rw [← hl] at q
    exact q
  have hx1 : (s.extract 0 1).data.toList = [s[0]] := by rw [ext_list, hl]; rfl
  generalize firstV s.data.toList aa = R at *
  have HX1 := hide hx1
  have HZ := hide (PC.new w ⟨#[]⟩ 0 0)
  have HB0 := hide (fm_below w (.cells #[.string ⟨#[]⟩, .int .i64 0, .int .i64 0] 51))
  have hlt : (0 : Int) < (s.size : Int) := by omega
  have hlt2 : 0 < s.size := by omega
  clear hx1 hl
  have hs2 := hs
  unfold maxLen at hs
  by_cases h37 : s[0].toNat ≠ 37
  · have h37' : ((s[0].toNat : Int) != 37) = true := by simp only [bne_iff_ne, ne_eq]; omega
    rw [if_pos h37] at hfv
    subst hfv
    obtain ⟨va1, vc1, rfl, -⟩ := hA
    clear hpa hpl h37
    go_enter Tryd.func24, Tryd.ntmps24
    go_wp2
    have q := PC.new w (s.extract 0 1) 1 0
    refine bodyPost_ret (res_pc rfl _ w.heap.size rfl ⟨q.c0, q.c1, q.c2⟩) rfl ?_
    exact ⟨pcV_eq HX1.out rfl rfl rfl, fm_below _ _⟩
  have h37' : ((s[0].toNat : Int) != 37) = false := by simp only [bne_eq_false_iff_eq]; omega
  rw [if_neg h37] at hfv
  clear h37 HX1
  generalize pdir s.data.toList = D at *
  cases D with
  | none =>
    simp only at hfv
    subst hfv
    obtain ⟨va1, vc1, rfl, -⟩ := hA
    unfold parV at hpa
    simp only at hpa
    have HP := hide hpa
    clear hpl hpa
    go_enter Tryd.func24, Tryd.ntmps24
    go_wp2_with fail
    generalize w.alloc (.cells #[.string ⟨#[]⟩, .int .i64 0, .int .i64 0] 51) = w1 at *
    refine (HP.out _).mono ?_
    rintro _ w2 ⟨rfl, hB2⟩
    have HD2 := hide (fm_below w2 (.cells #[.int .i64 0, .int .i64 0, .bool false, .int .i64 0, .int .u8 0] 61))
    have hZ3 := (HZ.out.below hB2).below HD2.out
    have HZ3 := hide hZ3
    obtain ⟨z0, z1, z2, y0, y1, y2⟩ := hZ3
    have HB2 := hide ((HB0.out.trans (hB2.mono HB0.out.size)).trans (HD2.out.mono (HB0.out.trans (hB2.mono HB0.out.size)).size))
    clear hB2
    go_wp2
    refine bodyPost_ret (res_pc rfl _ w.heap.size rfl (pc_fill HZ3.out ⟨#[]⟩ 0 0)) rfl ?_
    exact ⟨pcV_eq rfl rfl rfl rfl, three_below HB2.out (Nat.le_refl _) _ _ _⟩
  | some p =>
    obtain ⟨d, n⟩ := p
    obtain ⟨hn1, hn2, hwd, hpr, -⟩ := hpl rfl
    simp only at hfv
    unfold parV dirV at hpa
    simp only at hpa
    have HP := hide hpa
    have HKd := hide (fun W => kindOf_any (d.verb.toNat : Int) W)
    clear hpl hpa
    by_cases hk : kOf d.verb.toNat = 0
    · rw [if_pos hk] at hfv
      subst hfv
      obtain ⟨va1, vc1, rfl, -⟩ := hA
      rw [hk] at HKd
      clear hk
      go_enter Tryd.func24, Tryd.ntmps24
      go_wp2_with fail
      generalize w.alloc (.cells #[.string ⟨#[]⟩, .int .i64 0, .int .i64 0] 51) = w1 at *
      refine (HP.out _).mono ?_
      rintro _ w2 ⟨rfl, hB2⟩
      have HD2 := hide (fm_below w2 (.cells #[.int .i64 d.fl, .int .i64 (d.wd : Int), .bool d.pt, .int .i64 (d.pr : Int), .int .u8 (d.verb.toNat : Int)] 61))
      have hZ3 := (HZ.out.below hB2).below HD2.out
      have HZ3 := hide hZ3
      obtain ⟨z0, z1, z2, y0, y1, y2⟩ := hZ3
      have HB2 := hide ((HB0.out.trans (hB2.mono HB0.out.size)).trans (HD2.out.mono (HB0.out.trans (hB2.mono HB0.out.size)).size))
      clear hB2
      go_wp2_with (first | (go_at_call 29; refine (HKd.out _).mono ?_; rintro _ _ ⟨rfl, rfl⟩) | fail)
      refine bodyPost_ret (res_pc rfl _ w.heap.size rfl (pc_fill HZ3.out ⟨#[37]⟩ (n : Int) 0)) rfl ?_
      exact ⟨pcV_eq rfl rfl rfl rfl, three_below HB2.out (Nat.le_refl _) _ _ _⟩
    · rw [if_neg hk] at hfv
      obtain ⟨kv, hkv⟩ : ∃ kv, kOf (d.verb.toNat : Int) = kv := ⟨_, rfl⟩
      have hk' : (kv == 0) = false := by rw [← hkv]; simpa using hk
      rw [hkv] at HKd
      clear hk hkv
      obtain ⟨va1, vc1, rfl, hvc, hvd, hvb⟩ := hA
      cases aa with
      | nil =>
        simp only at hfv
        subst hfv
        clear hvd hvb
        go_enter Tryd.func24, Tryd.ntmps24
        go_wp2_with fail
        generalize w.alloc (.cells #[.string ⟨#[]⟩, .int .i64 0, .int .i64 0] 51) = w1 at *
        refine (HP.out _).mono ?_
        rintro _ w2 ⟨rfl, hB2⟩
        have HD2 := hide (fm_below w2 (.cells #[.int .i64 d.fl, .int .i64 (d.wd : Int), .bool d.pt, .int .i64 (d.pr : Int), .int .u8 (d.verb.toNat : Int)] 61))
        have hZ3 := (HZ.out.below hB2).below HD2.out
        have HZ3 := hide hZ3
        obtain ⟨z0, z1, z2, y0, y1, y2⟩ := hZ3
        have HB2 := hide ((HB0.out.trans (hB2.mono HB0.out.size)).trans (HD2.out.mono (HB0.out.trans (hB2.mono HB0.out.size)).size))
        clear hB2
        go_wp2_with (first | (go_at_call 29; refine (HKd.out _).mono ?_; rintro _ _ ⟨rfl, rfl⟩) | fail)
        refine bodyPost_ret (res_pc rfl _ w.heap.size rfl (pc_fill HZ3.out ⟨#[]⟩ 0 0)) rfl ?_
        exact ⟨pcV_eq rfl rfl rfl rfl, three_below HB2.out (Nat.le_refl _) _ _ _⟩
      | cons x r =>
        simp only at hfv
        obtain ⟨b, off, rfl, hcells⟩ := hvd (by simp)
        have hA0 := hcells 0 (by simp)
        simp only [Nat.zero_mul, Nat.add_zero, List.getElem_cons_zero] at hA0
        have HA0 := hide hA0
        have hbx := hvb x (by simp)
        obtain ⟨L, hL⟩ : ∃ L, (x :: r).length = L := ⟨_, rfl⟩
        have hL1 : 1 ≤ L := by rw [← hL]; simp
        have hL0 : ((L : Int) == 0) = false := by simp only [beq_eq_false_iff_ne, ne_eq]; omega
        have hL2 : (0 : Int) < (L : Int) := by omega
        have hL3 : 0 < L := hL1
        rw [hL] at hvc ⊢
        clear hvb hcells hL
        have hIs := fun W => isOf_any x d.verb W
        have hSh := fun h3 W => shown_any d x W hwd hpr hbx.int hbx.lo hbx.hi hbx.text h3
        unfold dirV agV at hSh
        unfold agV at hIs
        have h3 : x.isOf d.verb = true → d.verb = 99 → x.uint ≤ 255 := by
          intro e1 e2
          unfold Ag.isOf at e1
          rw [e2] at e1
          simp only [Bool.and_eq_true, beq_iff_eq, Bool.or_eq_true, bne_iff_ne, ne_eq, decide_eq_true_eq] at e1
          obtain ⟨e3, e4⟩ := e1
          have : x.kind = 3 := e3
          rcases e4 with e4 | e4
          · exact absurd this e4
          · exact e4
        cases hio : x.isOf d.verb with
        | false =>
          rw [hio] at hfv hIs
          rw [if_neg (by decide)] at hfv
          subst hfv
          have HI := hide hIs
          clear hIs hSh h3 hio hA0 hbx
          go_enter Tryd.func24, Tryd.ntmps24
          go_wp2_with fail
          have HA1 := hide (HA0.out.below HB0.out)
          generalize w.alloc (.cells #[.string ⟨#[]⟩, .int .i64 0, .int .i64 0] 51) = w1 at *
          refine (HP.out _).mono ?_
          rintro _ w2 ⟨rfl, hB2⟩
          have HD2 := hide (fm_below w2 (.cells #[.int .i64 d.fl, .int .i64 (d.wd : Int), .bool d.pt, .int .i64 (d.pr : Int), .int .u8 (d.verb.toNat : Int)] 61))
          have HZ3 := hide ((HZ.out.below hB2).below HD2.out)
          have HA := hide ((HA1.out.below hB2).below HD2.out)
          have HD := hide (DC.new w2 d.fl d.wd d.pr (d.verb.toNat : Int) d.pt)
          have HB2 := hide ((HB0.out.trans (hB2.mono HB0.out.size)).trans (HD2.out.mono (HB0.out.trans (hB2.mono HB0.out.size)).size))
          clear hB2 HD2 HA1 HA0 HZ HB0
          go_upto_region 10 with (first | (go_at_call 29; refine (HKd.out _).mono ?_; rintro _ _ ⟨rfl, rfl⟩) | fail)
          generalize w2.alloc (.cells #[.int .i64 d.fl, .int .i64 (d.wd : Int), .bool d.pt, .int .i64 (d.pr : Int), .int .u8 (d.verb.toNat : Int)] 61) = w3 at *
          refine wp_region_noPanic ?_
          refine wp_region_held_drew (S := fun W => DC W w2.heap.size d.fl d.wd d.pr (d.verb.toNat : Int) d.pt ∧ AH W b off x) (by kernel_rfl) (⟨HD.out.below (Below.refl _ _).drew, HA.out.below (Below.refl _ _).drew⟩) (fun hHeld => ?_)
          refine wpAnyH_take (i := 0) (oi := ?_) (v := ?_) ?_ (by kernel_rfl) (by kernel_rfl) (by kernel_rfl) (fun _ _ _ h => (h : False).elim) (Or.inl ⟨?_, ?_⟩) hHeld ?_
          rotate_left 2
          · (simp only [List.getElem?_toArray, List.getElem?_cons_zero]; rfl)
          · rfl
          · (intro W hSw; obtain ⟨⟨m0, m1, m2, m3, m4⟩, n0, n1, n2, n3⟩ := hSw; go_simp <;> with_reducible rfl)
          try simp only [Act.put, List.setIfInBounds_toArray, List.set_cons_zero, List.set_cons_succ]
          refine wpAnyH_take (i := 1) (oi := ?_) (v := ?_) ?_ (by kernel_rfl) (by kernel_rfl) (by kernel_rfl) (fun _ _ _ h => (h : False).elim) (Or.inl ⟨?_, ?_⟩) hHeld ?_
          rotate_left 2
          · (simp only [List.getElem?_toArray, List.getElem?_cons_zero, List.getElem?_cons_succ]; rfl)
          · rfl
          · (intro W hSw; obtain ⟨⟨m0, m1, m2, m3, m4⟩, n0, n1, n2, n3⟩ := hSw; go_simp <;> with_reducible rfl)
          try simp only [Act.put, List.setIfInBounds_toArray, List.set_cons_zero, List.set_cons_succ]
          refine wpAnyH_take (i := 2) (oi := ?_) (v := ?_) ?_ (by kernel_rfl) (by kernel_rfl) (by kernel_rfl) (fun _ _ _ h => (h : False).elim) (Or.inl ⟨?_, ?_⟩) hHeld ?_
          rotate_left 2
          · (simp only [List.getElem?_toArray, List.getElem?_cons_zero, List.getElem?_cons_succ]; rfl)
          · rfl
          · (intro W hSw; obtain ⟨⟨m0, m1, m2, m3, m4⟩, n0, n1, n2, n3⟩ := hSw; go_simp <;> with_reducible rfl)
          try simp only [Act.put, List.setIfInBounds_toArray, List.set_cons_zero, List.set_cons_succ]
          refine wpAnyH_take (i := 3) (oi := ?_) (v := ?_) ?_ (by kernel_rfl) (by kernel_rfl) (by kernel_rfl) (fun _ _ _ h => (h : False).elim) (Or.inl ⟨?_, ?_⟩) hHeld ?_
          rotate_left 2
          · (simp only [List.getElem?_toArray, List.getElem?_cons_zero, List.getElem?_cons_succ]; rfl)
          · rfl
          · (intro W hSw; obtain ⟨⟨m0, m1, m2, m3, m4⟩, n0, n1, n2, n3⟩ := hSw; go_simp <;> with_reducible rfl)
          try simp only [Act.put, List.setIfInBounds_toArray, List.set_cons_zero, List.set_cons_succ]
          refine wpAnyH_take (i := 4) (oi := ?_) (v := ?_) ?_ (by kernel_rfl) (by kernel_rfl) (by kernel_rfl) (fun _ _ _ h => (h : False).elim) (Or.inl ⟨?_, ?_⟩) hHeld ?_
          rotate_left 2
          · (simp only [List.getElem?_toArray, List.getElem?_cons_zero, List.getElem?_cons_succ]; rfl)
          · rfl
          · (intro W hSw; obtain ⟨⟨m0, m1, m2, m3, m4⟩, n0, n1, n2, n3⟩ := hSw; go_simp <;> with_reducible rfl)
          try simp only [Act.put, List.setIfInBounds_toArray, List.set_cons_zero, List.set_cons_succ]
          refine wpAnyH_ready (rs := [5]) (by kernel_rfl) (by simp) ?_
          refine AllReadyH.cons (o := ?_) ?_ (fun K' hK => ?_) AllReadyH.nil
          rotate_left 1
          · (simp only [List.getElem?_toArray, List.getElem?_cons_zero, List.getElem?_cons_succ]; rfl)
          go_simp
          refine (HI.out _).mono ?_; rintro _ w4 ⟨rfl, hB4⟩; have HB4 := hide ((Below.refl _ w3).drew.trans hB4); clear hB4
          refine hK.out _ _ (⟨HD.out.below HB4.out, HA.out.below HB4.out⟩) (fun hHeld2 => ?_)
          clear hK K' hHeld
          have hHeld := hHeld2
          clear hHeld2
          try simp only [Act.put, List.setIfInBounds_toArray, List.set_cons_zero, List.set_cons_succ]
          refine wpAnyH_take (i := 6) (oi := ?_) (v := ?_) ?_ (by kernel_rfl) (by kernel_rfl) (by kernel_rfl) (fun _ _ _ h => (h : False).elim) (Or.inl ⟨?_, ?_⟩) hHeld ?_
          rotate_left 2
          · (simp only [List.getElem?_toArray, List.getElem?_cons_zero, List.getElem?_cons_succ]; rfl)
          · rfl
          · (intro W hSw; obtain ⟨⟨m0, m1, m2, m3, m4⟩, n0, n1, n2, n3⟩ := hSw; go_simp <;> with_reducible rfl)
          try simp only [Act.put, List.setIfInBounds_toArray, List.set_cons_zero, List.set_cons_succ]
          refine wpAnyH_done (by kernel_rfl) ?_ _
          refine NoPanic.normal ?_

          have hZ4 := HZ3.out.below HB4.out
          have HZ4 := hide hZ4
          obtain ⟨z0, z1, z2, y0, y1, y2⟩ := hZ4
          go_wp2
          refine bodyPost_ret (res_pc rfl _ w.heap.size rfl (pc_fill HZ4.out ⟨#[]⟩ 0 0)) rfl ?_
          exact ⟨pcV_eq rfl rfl rfl rfl, three_below (HB2.out.trans (HB4.out.mono HB2.out.size)) (Nat.le_refl _) _ _ _⟩
        | true =>
          rw [hio] at hfv hIs
          rw [if_pos rfl] at hfv
          subst hfv
          have HI := hide hIs
          have HSh := hide (hSh (h3 hio))
          clear hIs hSh h3 hio hA0 hbx
          go_enter Tryd.func24, Tryd.ntmps24
          go_wp2_with fail
          have HA1 := hide (HA0.out.below HB0.out)
          have HNA : Hid (b < w.heap.size) := hide HA0.out.lt
          generalize w.alloc (.cells #[.string ⟨#[]⟩, .int .i64 0, .int .i64 0] 51) = w1 at *
          refine (HP.out _).mono ?_
          rintro _ w2 ⟨rfl, hB2⟩
          have HD2 := hide (fm_below w2 (.cells #[.int .i64 d.fl, .int .i64 (d.wd : Int), .bool d.pt, .int .i64 (d.pr : Int), .int .u8 (d.verb.toNat : Int)] 61))
          have HNE : Hid (w2.heap.size ≠ w.heap.size ∧ b ≠ w.heap.size) := hide (by have h1 := HZ.out.lt; have h2 := hB2.size; have h3 := HNA.out; constructor <;> omega)
          have HZ3 := hide ((HZ.out.below hB2).below HD2.out)
          have HA := hide ((HA1.out.below hB2).below HD2.out)
          have HD := hide (DC.new w2 d.fl d.wd d.pr (d.verb.toNat : Int) d.pt)
          have HB2 := hide ((HB0.out.trans (hB2.mono HB0.out.size)).trans (HD2.out.mono (HB0.out.trans (hB2.mono HB0.out.size)).size))
          clear hB2 HD2 HA1 HA0 HZ HB0 HNA
          go_upto_region 10 with (first | (go_at_call 29; refine (HKd.out _).mono ?_; rintro _ _ ⟨rfl, rfl⟩) | fail)
          generalize w2.alloc (.cells #[.int .i64 d.fl, .int .i64 (d.wd : Int), .bool d.pt, .int .i64 (d.pr : Int), .int .u8 (d.verb.toNat : Int)] 61) = w3 at *
          refine wp_region_noPanic ?_
          refine wp_region_held_drew (S := fun W => DC W w2.heap.size d.fl d.wd d.pr (d.verb.toNat : Int) d.pt ∧ AH W b off x) (by kernel_rfl) (⟨HD.out.below (Below.refl _ _).drew, HA.out.below (Below.refl _ _).drew⟩) (fun hHeld => ?_)
          refine wpAnyH_take (i := 0) (oi := ?_) (v := ?_) ?_ (by kernel_rfl) (by kernel_rfl) (by kernel_rfl) (fun _ _ _ h => (h : False).elim) (Or.inl ⟨?_, ?_⟩) hHeld ?_
          rotate_left 2
          · (simp only [List.getElem?_toArray, List.getElem?_cons_zero]; rfl)
          · rfl
          · (intro W hSw; obtain ⟨⟨m0, m1, m2, m3, m4⟩, n0, n1, n2, n3⟩ := hSw; go_simp <;> with_reducible rfl)
          try simp only [Act.put, List.setIfInBounds_toArray, List.set_cons_zero, List.set_cons_succ]
          refine wpAnyH_take (i := 1) (oi := ?_) (v := ?_) ?_ (by kernel_rfl) (by kernel_rfl) (by kernel_rfl) (fun _ _ _ h => (h : False).elim) (Or.inl ⟨?_, ?_⟩) hHeld ?_
          rotate_left 2
          · (simp only [List.getElem?_toArray, List.getElem?_cons_zero, List.getElem?_cons_succ]; rfl)
          · rfl
          · (intro W hSw; obtain ⟨⟨m0, m1, m2, m3, m4⟩, n0, n1, n2, n3⟩ := hSw; go_simp <;> with_reducible rfl)
          try simp only [Act.put, List.setIfInBounds_toArray, List.set_cons_zero, List.set_cons_succ]
          refine wpAnyH_take (i := 2) (oi := ?_) (v := ?_) ?_ (by kernel_rfl) (by kernel_rfl) (by kernel_rfl) (fun _ _ _ h => (h : False).elim) (Or.inl ⟨?_, ?_⟩) hHeld ?_
          rotate_left 2
          · (simp only [List.getElem?_toArray, List.getElem?_cons_zero, List.getElem?_cons_succ]; rfl)
          · rfl
          · (intro W hSw; obtain ⟨⟨m0, m1, m2, m3, m4⟩, n0, n1, n2, n3⟩ := hSw; go_simp <;> with_reducible rfl)
          try simp only [Act.put, List.setIfInBounds_toArray, List.set_cons_zero, List.set_cons_succ]
          refine wpAnyH_take (i := 3) (oi := ?_) (v := ?_) ?_ (by kernel_rfl) (by kernel_rfl) (by kernel_rfl) (fun _ _ _ h => (h : False).elim) (Or.inl ⟨?_, ?_⟩) hHeld ?_
          rotate_left 2
          · (simp only [List.getElem?_toArray, List.getElem?_cons_zero, List.getElem?_cons_succ]; rfl)
          · rfl
          · (intro W hSw; obtain ⟨⟨m0, m1, m2, m3, m4⟩, n0, n1, n2, n3⟩ := hSw; go_simp <;> with_reducible rfl)
          try simp only [Act.put, List.setIfInBounds_toArray, List.set_cons_zero, List.set_cons_succ]
          refine wpAnyH_take (i := 4) (oi := ?_) (v := ?_) ?_ (by kernel_rfl) (by kernel_rfl) (by kernel_rfl) (fun _ _ _ h => (h : False).elim) (Or.inl ⟨?_, ?_⟩) hHeld ?_
          rotate_left 2
          · (simp only [List.getElem?_toArray, List.getElem?_cons_zero, List.getElem?_cons_succ]; rfl)
          · rfl
          · (intro W hSw; obtain ⟨⟨m0, m1, m2, m3, m4⟩, n0, n1, n2, n3⟩ := hSw; go_simp <;> with_reducible rfl)
          try simp only [Act.put, List.setIfInBounds_toArray, List.set_cons_zero, List.set_cons_succ]
          refine wpAnyH_ready (rs := [5]) (by kernel_rfl) (by simp) ?_
          refine AllReadyH.cons (o := ?_) ?_ (fun K' hK => ?_) AllReadyH.nil
          rotate_left 1
          · (simp only [List.getElem?_toArray, List.getElem?_cons_zero, List.getElem?_cons_succ]; rfl)
          go_simp
          refine (HI.out _).mono ?_; rintro _ w4 ⟨rfl, hB4⟩; have HB4 := hide ((Below.refl _ w3).drew.trans hB4); clear hB4
          refine hK.out _ _ (⟨HD.out.below HB4.out, HA.out.below HB4.out⟩) (fun hHeld2 => ?_)
          clear hK K' hHeld
          have hHeld := hHeld2
          clear hHeld2
          try simp only [Act.put, List.setIfInBounds_toArray, List.set_cons_zero, List.set_cons_succ]
          refine wpAnyH_take (i := 6) (oi := ?_) (v := ?_) ?_ (by kernel_rfl) (by kernel_rfl) (by kernel_rfl) (fun _ _ _ h => (h : False).elim) (Or.inl ⟨?_, ?_⟩) hHeld ?_
          rotate_left 2
          · (simp only [List.getElem?_toArray, List.getElem?_cons_zero, List.getElem?_cons_succ]; rfl)
          · rfl
          · (intro W hSw; obtain ⟨⟨m0, m1, m2, m3, m4⟩, n0, n1, n2, n3⟩ := hSw; go_simp <;> with_reducible rfl)
          try simp only [Act.put, List.setIfInBounds_toArray, List.set_cons_zero, List.set_cons_succ]
          refine wpAnyH_done (by kernel_rfl) ?_ _
          refine NoPanic.normal ?_

          have HD4 := hide (HD.out.below HB4.out)
          have HA4 := hide (HA.out.below HB4.out)
          have HZ4 := hide (HZ3.out.below HB4.out)
          clear hHeld
          go_wp2_with fail
          refine wp_region_noPanic ?_
          refine wp_region_held_drew (S := fun W => DC W w2.heap.size d.fl d.wd d.pr (d.verb.toNat : Int) d.pt ∧ AH W b off x) (by kernel_rfl) (⟨HD4.out.below (Below.refl _ _).drew, HA4.out.below (Below.refl _ _).drew⟩) (fun hHeld => ?_)
          refine wpAnyH_take (i := 0) (oi := ?_) (v := ?_) ?_ (by kernel_rfl) (by kernel_rfl) (by kernel_rfl) (fun _ _ _ h => (h : False).elim) (Or.inl ⟨?_, ?_⟩) hHeld ?_
          rotate_left 2
          · (simp only [List.getElem?_toArray, List.getElem?_cons_zero]; rfl)
          · rfl
          · (intro W hSw; obtain ⟨⟨m0, m1, m2, m3, m4⟩, n0, n1, n2, n3⟩ := hSw; go_simp <;> with_reducible rfl)
          try simp only [Act.put, List.setIfInBounds_toArray, List.set_cons_zero, List.set_cons_succ]
          refine wpAnyH_take (i := 1) (oi := ?_) (v := ?_) ?_ (by kernel_rfl) (by kernel_rfl) (by kernel_rfl) (fun _ _ _ h => (h : False).elim) (Or.inl ⟨?_, ?_⟩) hHeld ?_
          rotate_left 2
          · (simp only [List.getElem?_toArray, List.getElem?_cons_zero, List.getElem?_cons_succ]; rfl)
          · rfl
          · (intro W hSw; obtain ⟨⟨m0, m1, m2, m3, m4⟩, n0, n1, n2, n3⟩ := hSw; go_simp <;> with_reducible rfl)
          try simp only [Act.put, List.setIfInBounds_toArray, List.set_cons_zero, List.set_cons_succ]
          refine wpAnyH_take (i := 2) (oi := ?_) (v := ?_) ?_ (by kernel_rfl) (by kernel_rfl) (by kernel_rfl) (fun _ _ _ h => (h : False).elim) (Or.inl ⟨?_, ?_⟩) hHeld ?_
          rotate_left 2
          · (simp only [List.getElem?_toArray, List.getElem?_cons_zero, List.getElem?_cons_succ]; rfl)
          · rfl
          · (intro W hSw; obtain ⟨⟨m0, m1, m2, m3, m4⟩, n0, n1, n2, n3⟩ := hSw; go_simp <;> with_reducible rfl)
          try simp only [Act.put, List.setIfInBounds_toArray, List.set_cons_zero, List.set_cons_succ]
          refine wpAnyH_take (i := 3) (oi := ?_) (v := ?_) ?_ (by kernel_rfl) (by kernel_rfl) (by kernel_rfl) (fun _ _ _ h => (h : False).elim) (Or.inl ⟨?_, ?_⟩) hHeld ?_
          rotate_left 2
          · (simp only [List.getElem?_toArray, List.getElem?_cons_zero, List.getElem?_cons_succ]; rfl)
          · rfl
          · (intro W hSw; obtain ⟨⟨m0, m1, m2, m3, m4⟩, n0, n1, n2, n3⟩ := hSw; go_simp <;> with_reducible rfl)
          try simp only [Act.put, List.setIfInBounds_toArray, List.set_cons_zero, List.set_cons_succ]
          refine wpAnyH_take (i := 5) (oi := ?_) (v := ?_) ?_ (by kernel_rfl) (by kernel_rfl) (by kernel_rfl) (fun _ _ _ h => (h : False).elim) (Or.inl ⟨?_, ?_⟩) hHeld ?_
          rotate_left 2
          · (simp only [List.getElem?_toArray, List.getElem?_cons_zero, List.getElem?_cons_succ]; rfl)
          · rfl
          · (intro W hSw; obtain ⟨⟨m0, m1, m2, m3, m4⟩, n0, n1, n2, n3⟩ := hSw; go_simp <;> with_reducible rfl)
          try simp only [Act.put, List.setIfInBounds_toArray, List.set_cons_zero, List.set_cons_succ]
          refine wpAnyH_ready (rs := [4]) (by kernel_rfl) (by simp) ?_
          refine AllReadyH.cons (o := ?_) ?_ (fun K' hK => ?_) AllReadyH.nil
          rotate_left 1
          · (simp only [List.getElem?_toArray, List.getElem?_cons_zero, List.getElem?_cons_succ]; rfl)
          go_simp
          refine (HSh.out _).mono ?_; rintro _ w5 ⟨rfl, hB5⟩; have HB5 := hide ((Below.refl _ w4).drew.trans hB5); clear hB5
          obtain ⟨z0, z1, z2, y0, y1, y2⟩ := HZ4.out.below HB5.out
          have hz5 := HZ4.out.below HB5.out
          have HZ5 := hide hz5
          clear hz5
          refine hK.out _ _ (⟨HD4.out.below HB5.out, HA4.out.below HB5.out⟩) (fun hHeld2 => ?_)
          clear hK K' hHeld
          have hHeld := hHeld2
          clear hHeld2
          try simp only [Act.put, List.setIfInBounds_toArray, List.set_cons_zero, List.set_cons_succ]
          refine wpAnyH_take (i := 6) (oi := ?_) (v := ?_) ?_ (by kernel_rfl) (by kernel_rfl) (by kernel_rfl) (fun _ _ _ h => (h : False).elim) (Or.inl ⟨?_, ?_⟩) hHeld ?_
          rotate_left 2
          · (simp only [List.getElem?_toArray, List.getElem?_cons_zero, List.getElem?_cons_succ]; rfl)
          · rfl
          · (intro W hSw; obtain ⟨⟨m0, m1, m2, m3, m4⟩, n0, n1, n2, n3⟩ := hSw; go_simp <;> with_reducible rfl)
          try simp only [Act.put, List.setIfInBounds_toArray, List.set_cons_zero, List.set_cons_succ]
          refine wpAnyH_ready (rs := [7]) (by kernel_rfl) (by simp) ?_
          refine AllReadyH.cons (o := ?_) ?_ (fun K' hK => ?_) AllReadyH.nil
          rotate_left 1
          · (simp only [List.getElem?_toArray, List.getElem?_cons_zero, List.getElem?_cons_succ]; rfl)
          go_simp
          refine hK.out _ _ (⟨((HD4.out.below HB5.out).set HNE.out.1).set HNE.out.1 |>.set HNE.out.1, ((HA4.out.below HB5.out).set HNE.out.2).set HNE.out.2 |>.set HNE.out.2⟩) (fun hHeld2 => ?_)
          clear hK K' hHeld
          have hHeld := hHeld2
          clear hHeld2
          try simp only [Act.put, List.setIfInBounds_toArray, List.set_cons_zero, List.set_cons_succ]
          refine wpAnyH_take (i := 8) (oi := ?_) (v := ?_) ?_ (by kernel_rfl) (by kernel_rfl) (by kernel_rfl) (fun _ _ _ h => (h : False).elim) (Or.inl ⟨?_, ?_⟩) hHeld ?_
          rotate_left 2
          · (simp only [List.getElem?_toArray, List.getElem?_cons_zero, List.getElem?_cons_succ]; rfl)
          · rfl
          · (intro W hSw; obtain ⟨⟨m0, m1, m2, m3, m4⟩, n0, n1, n2, n3⟩ := hSw; go_simp <;> with_reducible rfl)
          try simp only [Act.put, List.setIfInBounds_toArray, List.set_cons_zero, List.set_cons_succ]
          refine wpAnyH_done (by kernel_rfl) ?_ _
          refine NoPanic.normal ?_

          go_wp2
          refine bodyPost_ret (res_pc rfl _ w.heap.size rfl (pc_fill HZ5.out ⟨(d.shown x).toArray⟩ (n : Int) 1)) rfl ?_
          exact ⟨pcV_eq rfl rfl rfl rfl, three_below ((HB2.out.trans (HB4.out.mono HB2.out.size)).trans (HB5.out.mono (HB2.out.trans (HB4.out.mono HB2.out.size)).size)) (Nat.le_refl _) _ _ _⟩
end Go.Proofs.YtpcchaciomeckaaDoor

/- Format: the text that a pattern makes of its Args. -/
namespace Go.Proofs.YtpcchaciomeckaaDoor
open Go.RowKit

theorem strCells_bv (s : ByteArray) : Lib.strCells s = s.data.toList.map bv := rfl
theorem str_dropE (s : ByteArray) (a : Nat) : (s.extract a s.size).data.toList = s.data.toList.drop a := by
  have hsz : s.data.toList.length = s.size := by rw [Array.length_toList]; rfl
  rw [ext_list, List.take_of_length_le (by rw [List.length_drop, hsz]; exact Nat.le_refl _)]
theorem fmtF_step (n : Nat) (c : UInt8) (r : List UInt8) (aa : List Ag) (p : Nat) (out : List UInt8) : fmtF (n + 1) (c :: r) aa p out = if (firstV (c :: r) aa).2 ≠ 0 then ([], (firstV (c :: r) aa).2, p) else if 65536 < out.length + (firstV (c :: r) aa).1.1.length then ([], 5, p) else fmtF n ((c :: r).drop (firstV (c :: r) aa).1.2.1) (aa.drop (firstV (c :: r) aa).1.2.2) (p + (firstV (c :: r) aa).1.2.1) (out ++ (firstV (c :: r) aa).1.1) := rfl
theorem firstV_u {l : List UInt8} {aa : List Ag} {t : List UInt8} {k u : Nat} (h : firstV l aa = ((t, k, u), 0)) : u = 0 ∨ (u = 1 ∧ 1 ≤ aa.length) := by
  unfold firstV at h
  split at h
  · cases h
  split at h
  · cases h
    exact .inl rfl
  split at h
  · cases h
  split at h
  · cases h
    exact .inl rfl
  split at h
  · cases h
  split at h
  · cases h
    exact .inr ⟨rfl, by simp⟩
  · cases h
theorem AgsV.tail {W : World} {a : Option Addr} {c : Nat} {l : List Ag} (h : AgsV W (.slice a l.length c) l) (h1 : 1 ≤ l.length) : AgsV W (.slice (if c = 1 then a else Option.map (fun x => { block := x.block, off := x.off + 4 }) a) (l.length - 1) (c - 1)) (l.drop 1) := by
  obtain ⟨a', c', he, hc, hd, hb⟩ := h
  obtain ⟨rfl, rfl⟩ : a = a' ∧ c = c' := by cases he; exact ⟨rfl, rfl⟩
  obtain ⟨b', off', rfl, hcells⟩ := hd h1
  refine ⟨_, _, by rw [List.length_drop], by rw [List.length_drop]; omega, fun h0 => ?_, fun x hx => hb x (List.mem_of_mem_drop hx)⟩
  rw [List.length_drop] at h0
  rw [if_neg (by omega)]
  refine ⟨b', off' + 4, rfl, fun j hj => ?_⟩
  rw [List.length_drop] at hj
  have := hcells (j + 1) (by omega)
  rw [show off' + 4 + j * 4 = off' + (j + 1) * 4 by omega, List.getElem_drop]
  simpa [Nat.add_comm] using this
theorem owns_base {W : World} {base e size n : Nat} {v : Value} {xs : List Value} (h : W.ownsRow base e size v n xs) : ∀ k, v.ownBlock = some k → base ≤ k ∧ k < W.heap.size := by
  intro k hk
  rcases h.2 with ⟨rfl, _⟩ | ⟨g, cap, cur, rfl, hbg, hg, _⟩
  · cases hk
  · cases hk
    exact ⟨hbg, (Array.getElem?_eq_some_iff.1 hg).1⟩
set_option maxRecDepth 100000 in
set_option maxHeartbeats 4000000 in
theorem format_any (s : ByteArray) (va : Value) (aa : List Ag) (w : World) (hs : s.size ≤ maxLen) (hA : AgsV w va aa) :
    Calls Tryd.prog 10 #[.string s, va] w fun e w' => ∃ v, e = .returned (.tuple #[v, .int .i64 (fmtV s.data.toList aa).2.1, .int .i64 ((fmtV s.data.toList aa).2.2 : Int)]) ∧ w'.ownsRow w.heap.size 5 1 v (fmtV s.data.toList aa).1.length ((fmtV s.data.toList aa).1.map bv) ∧ Below w.heap.size w w' := by
  obtain ⟨i0, hi, hz0, hz1, hz2⟩ := info_parts Tryd.infoB
  have hsz : s.data.toList.length = s.size := by rw [Array.length_toList]; rfl
  obtain ⟨R, hR⟩ : ∃ R, fmtV s.data.toList aa = R := ⟨_, rfl⟩
  rw [hR]
  unfold fmtV at hR
  rw [hsz] at hR
  have hs2 := hs
  unfold maxLen at hs
  by_cases hlong : 65536 < s.size
  · rw [if_pos hlong] at hR
    subst hR
    have hl : (65536 : Int) < (s.size : Int) := by omega
    obtain ⟨va1, vc1, rfl, -⟩ := hA
    go_enter Tryd.func10, Tryd.ntmps10
    go_wp2
    go_ret3
    exact ⟨_, rfl, World.ownsRow_nil _ _ _ _, Below.refl _ _⟩
  rw [if_neg hlong] at hR
  have hl : ¬ (65536 : Int) < (s.size : Int) := by omega
  have HR := hide hR
  have HA := hide hA
  obtain ⟨va1, vc1, rfl, hvc, -⟩ := hA
  clear hR hsz
  go_enter Tryd.func10, Tryd.ntmps10
  go_wp2
  go_loopw [1, 7, 8] (fun va' t i wr => ∃ (k : Nat) (bb : List Ag) (out : List UInt8) (va2 ta : Option Addr) (vc2 tc : Nat), k ≤ s.size ∧ i = .int .i64 k ∧ va' = .slice va2 bb.length vc2 ∧ t = .slice ta out.length tc ∧ bb.length ≤ vc2 ∧ Hid (AgsV w (.slice va2 bb.length vc2) bb) ∧ Hid (wr.ownsRow w.heap.size 5 1 (.slice ta out.length tc) out.length (out.map bv)) ∧ out.length ≤ 65536 ∧ Hid (Below w.heap.size w wr) ∧ Hid (fmtF (s.size - k) (s.data.toList.drop k) bb k out = R)) (fun _ _ i _ => s.size - (intOf i).toNat)
  case atStart => exact ⟨0, aa, [], va1, none, vc1, 0, Nat.zero_le _, rfl, rfl, rfl, hvc, HA, World.ownsRow_nil _ _ _ _, Nat.zero_le _, Below.refl _ _, HR⟩
  case round =>
    clear HR HA hvc
    obtain ⟨k, bb, out, va2, ta, vc2, tc, hk, rfl, rfl, rfl, hvc, HAg, HO, ho, HB, HF⟩ := hrel
    by_cases hlt : k < s.size
    · have hlt' : ((k : Nat) : Int) < (s.size : Int) := by omega
      have hF := HF.out
      rw [drop_at s k hlt, show s.size - k = (s.size - (k + 1)) + 1 by omega, fmtF_step, ← drop_at s k hlt] at hF
      have HFi := first_any (s.extract k s.size) _ bb wr (by rw [ext_size s k _ (Nat.le_refl _)]; omega) (by rw [ext_size s k _ (Nat.le_refl _)]; omega) (HAg.out.below HB.out)
      rw [str_dropE] at HFi
      obtain ⟨x, hx⟩ : ∃ x, firstV (s.data.toList.drop k) bb = x := ⟨_, rfl⟩
      rw [hx] at hF HFi
      obtain ⟨⟨T, n, u⟩, e⟩ := x
      unfold pcV at HFi
      simp only at hF HFi
      obtain ⟨X, hX⟩ : ∃ X : ByteArray, (⟨T.toArray⟩ : ByteArray) = X := ⟨_, rfl⟩
      have hXd : X.data.toList = T := by rw [← hX]
      have hXs : X.size = T.length := by rw [← hX]; rfl
      rw [hX] at HFi
      have HF2 := hide hF
      have HFi2 := hide HFi
      have HX := hide hx
      clear hF HFi hx hX HF
      by_cases he : e = 0
      case neg =>
        have he1 : (e == 0) = false := by simpa using he
        have he2 : (e != 0) = true := by simpa using he
        have hr := HF2.out
        rw [if_pos he] at hr
        subst hr
        clear he HX hXd hXs HF2
        go_wp2_with (first | (go_at_call 24; refine HFi2.out.mono ?_; rintro _ w2 ⟨rfl, hB2⟩; have HB2 := hide (HB.out.trans (hB2.mono HB.out.size)); clear hB2) | fail)
        go_ret3
        exact ⟨_, rfl, World.ownsRow_nil _ _ _ _, HB2.out.trans ((fm_below _ _).mono HB2.out.size)⟩
      subst he
      obtain ⟨n1, n2, -⟩ := firstV_ok HX.out
      rw [drop_len, show s.data.toList.length = s.size by rw [Array.length_toList]; rfl] at n2
      have hr := HF2.out
      rw [if_neg (by decide)] at hr
      clear HF2
      by_cases hlg : 65536 < out.length + T.length
      · rw [if_pos hlg] at hr
        subst hr
        have hl2 : (65536 : Int) - (out.length : Int) < (X.size : Int) := by omega
        clear HX hXd hXs hlg
        go_wp2_with (first | (go_at_call 24; refine HFi2.out.mono ?_; rintro _ w2 ⟨rfl, hB2⟩; have HB2 := hide (HB.out.trans (hB2.mono HB.out.size)); clear hB2) | fail)
        go_ret3
        exact ⟨_, rfl, World.ownsRow_nil _ _ _ _, HB2.out.trans ((fm_below _ _).mono HB2.out.size)⟩
      · rw [if_neg hlg] at hr
        have HR2 := hide hr
        have hl2 : ¬ ((65536 : Int) - (out.length : Int) < (X.size : Int)) := by omega
        have hu := firstV_u HX.out
        clear HX hr
        go_upto_region 11 with (first | (go_at_call 24; refine HFi2.out.mono ?_; rintro _ w2 ⟨rfl, hB2⟩) | fail)
        have hB3 := hB2.trans ((fm_below w2 (.cells #[.string X, .int .i64 (n : Int), .int .i64 (u : Int)] 51)).mono hB2.size)
        have HB3 := hide (HB.out.trans (hB3.mono HB.out.size))
        have hO3 := owns_below HO.out hB3
        have HP3 := hide (PC.new w2 X n u)
        have hzp : w2.heap.size < (w2.alloc (.cells #[.string X, .int .i64 (n : Int), .int .i64 (u : Int)] 51)).heap.size := size_new _ _
        have hne : some w2.heap.size ≠ (Value.slice ta out.length tc).ownBlock := fun e => by have h1 := (owns_base HO.out _ e.symm).2; have h2 := hB2.size; omega
        have hbase := HB3.out.size
        generalize w2.alloc (.cells #[.string X, .int .i64 (n : Int), .int .i64 (u : Int)] 51) = w3 at *
        clear hB2 hB3
        have q0 := HP3.out.c0
        go_upto_region 12 with (at_builtin; refine Lib.wpList_append_own_string _ rfl _ _ _ _ rfl w.heap.size 5 i0 Tryd.underlying24 Tryd.underlying9 hi hz0 hz1 hz2 _ out.length _ rfl hO3 X rfl (by unfold maxLen; omega) (by omega) hbase ?_; intro v4 w4 hO4 hG4 hI4)
        have p0 := (hG4.cell_far ⟨w2.heap.size, 0, none⟩ hzp hne).trans HP3.out.c0
        have p1 := (hG4.cell_far ⟨w2.heap.size, 1, none⟩ hzp hne).trans HP3.out.c1
        have p2 := (hG4.cell_far ⟨w2.heap.size, 2, none⟩ hzp hne).trans HP3.out.c2
        obtain ⟨a4, c4, rfl⟩ := owns_slice hO4
        have HB4 := hide (HB3.out.grown hG4 hbase (fun j e => (owns_base hO3 j e).1))
        have hlen : out.length + X.size = (out ++ T).length := by rw [List.length_append, hXs]
        have hO5 : w4.ownsRow w.heap.size 5 1 (.slice a4 (out ++ T).length c4) (out ++ T).length ((out ++ T).map bv) := by
          have q := hO4
          rw [strCells_bv, hXd, ← List.map_append, hlen] at q
          exact q
        have HO5 := hide hO5
        have hR3 := HR2.out
        rw [List.drop_drop] at hR3
        have HR3 : Hid (fmtF (s.size - (k + n)) (s.data.toList.drop (k + n)) (bb.drop u) (k + n) (out ++ T) = R) := by
          refine Eq.trans ?_ hR3
          have hq : (s.data.toList.drop (k + n)).length = s.size - (k + n) := by rw [drop_len]; rw [show s.data.toList.length = s.size by rw [Array.length_toList]; rfl]
          exact fmtF_fuel _ _ _ _ _ _ (by omega) (by omega)
        have hlen2 : (out ++ T).length ≤ 65536 := by rw [List.length_append]; omega
        have HLE := hide hlen
        have HLE2 := hide hlen2
        clear hO4 hO5 hR3 HR2 hlen hlen2 hI4
        rcases hu with rfl | ⟨rfl, hu⟩
        · go_wp2
          refine ⟨⟨k + n, bb, out ++ T, va2, a4, vc2, c4, by omega, rfl, rfl, by rw [← HLE.out, hXs], hvc, HAg, HO5, HLE2.out, HB4, HR3⟩, ?_⟩
          simp [intOf]; omega
        · go_wp2
          refine ⟨⟨k + n, bb.drop 1, out ++ T, _, a4, _, c4, by omega, rfl, by rw [List.length_drop], by rw [← HLE.out, hXs], by rw [List.length_drop]; omega, ?_, HO5, HLE2.out, HB4, HR3⟩, ?_⟩
          · have q := AgsV.tail HAg.out hu
            rw [← List.length_drop] at q
            exact q
          · simp [intOf]; omega
    · have hlt' : ¬ ((k : Nat) : Int) < (s.size : Int) := by omega
      have hr := HF.out
      rw [drop_end s k (by omega), fmtF_nil] at hr
      cases bb with
      | nil =>
        rw [if_pos rfl] at hr
        subst hr
        obtain rfl : k = s.size := by omega
        clear HF
        go_wp2
        go_ret3
        exact ⟨_, rfl, HO.out, HB.out⟩
      | cons x r =>
        rw [if_neg (by simp)] at hr
        subst hr
        obtain rfl : k = s.size := by omega
        obtain ⟨L, hL⟩ : ∃ L, (x :: r).length = L := ⟨_, rfl⟩
        have hL0 : (0 : Int) < (L : Int) := by rw [← hL]; exact Int.natCast_pos.2 (by simp)
        have hL1 : 0 < L := by rw [← hL]; simp
        rw [hL]
        clear HF HAg hvc hL
        go_wp2
        go_ret3
        exact ⟨_, rfl, World.ownsRow_nil _ _ _ _, HB.out⟩
end Go.Proofs.YtpcchaciomeckaaDoor

/- Format: the law's num; the Args that are made of values; alive. -/
namespace Go.Proofs.YtpcchaciomeckaaDoor
open Go.RowKit

theorem num17 (e : Int) (w : World) : Calls Tryd.prog 13 #[.int .i64 e] w fun r w' => r = .returned (.int .i64 e) ∧ w = w' := by
  go_enter Tryd.func13, Tryd.ntmps13
  go_wp2
  go_ret
  exact ⟨rfl, rfl⟩
theorem res_ag {fn : Func} {p : Tmp} {w : World} (h : fn.results = #[.cell p 37]) (tmps : Array Value) (g : Nat) (hp : tmps.getD p undef = .pointer (some ⟨g, 0, none⟩)) {x : Ag} (hg : AH w g 0 x) :
    (results fn tmps).run Tryd.prog w = .ok (agV x) w := by
  obtain ⟨h0, h1, h2, h3⟩ := hg
  have hp' : tmps[p]?.getD undef = .pointer (some ⟨g, 0, none⟩) := by simpa using hp
  have a := Tryd.isAgg37
  have b := Tryd.sizeOf37
  have c0 := Tryd.isAgg3
  have c1 := Tryd.sizeOf3
  have c2 := Tryd.underlying3
  have d0 := Tryd.isAgg9
  have d1 := Tryd.sizeOf9
  have d2 := Tryd.underlying9
  have e0 := Tryd.isAgg35
  have e1 := Tryd.sizeOf35
  have e2 := Tryd.underlying35
  unfold agV
  simp only [results, h]
  simp only [loadVar]
  go_simp
theorem AgAt.ah {W : World} {g : Nat} {x : Ag} (h : AgAt W g x) : AH W g 0 x := ⟨h.c0, h.c1, h.c2, h.c3⟩
theorem fint_any (n : Int) (w : World) : Calls Tryd.prog 16 #[.int .i64 n] w fun e w' => e = .returned (agV ⟨1, n, 0, ⟨#[]⟩⟩) ∧ Below w.heap.size w w' := by
  go_enter Tryd.func16, Tryd.ntmps16
  go_wp2
  refine bodyPost_ret (res_ag rfl _ w.heap.size rfl (AgAt.new w ⟨1, n, 0, ⟨#[]⟩⟩).ah) rfl ?_
  exact ⟨rfl, fm_below _ _⟩
theorem fuint_any (n : Int) (w : World) : Calls Tryd.prog 17 #[.int .u64 n] w fun e w' => e = .returned (agV ⟨2, 0, n, ⟨#[]⟩⟩) ∧ Below w.heap.size w w' := by
  go_enter Tryd.func17, Tryd.ntmps17
  go_wp2
  refine bodyPost_ret (res_ag rfl _ w.heap.size rfl (AgAt.new w ⟨2, 0, n, ⟨#[]⟩⟩).ah) rfl ?_
  exact ⟨rfl, fm_below _ _⟩
theorem ftext_any (s : ByteArray) (w : World) : Calls Tryd.prog 19 #[.string s] w fun e w' => e = .returned (agV ⟨4, 0, 0, s⟩) ∧ Below w.heap.size w w' := by
  go_enter Tryd.func19, Tryd.ntmps19
  go_wp2
  refine bodyPost_ret (res_ag rfl _ w.heap.size rfl (AgAt.new w ⟨4, 0, 0, s⟩).ah) rfl ?_
  exact ⟨rfl, fm_below _ _⟩
def agC (x : Ag) : List Value := [.int .i64 x.kind, .int .i64 x.int, .int .u64 x.uint, .string x.text]
theorem flat_get : ∀ (l : List Ag) (j : Nat) (hj : j < l.length) (i : Nat), i < 4 → (l.flatMap agC)[j * 4 + i]? = (agC l[j])[i]?
  | [], j, hj, _, _ => absurd hj (Nat.not_lt_zero j)
  | x :: l, 0, _, i, hi => by
    rw [List.flatMap_cons, List.getElem?_append_left (by show 0 * 4 + i < 4; omega), Nat.zero_mul, Nat.zero_add]
    rfl
  | x :: l, j + 1, hj, i, hi => by
    rw [List.flatMap_cons, List.getElem?_append_right (by show 4 ≤ _; omega), show (j + 1) * 4 + i - (agC x).length = j * 4 + i by show _ - 4 = _; omega]
    exact flat_get l j (Nat.lt_of_succ_lt_succ hj) i hi
theorem ags_lit (w : World) (l : List Ag) (cs : Array Value) (t : TypeId) (fr : Nat × Nat) (n : Nat) (hn : n = l.length) (hcs : cs.toList = l.flatMap agC) (hb : ∀ x ∈ l, AB x) : AgsV (w.alloc (.cells cs t fr)) (.slice (some ⟨w.heap.size, 0, none⟩) n n) l := by
  subst hn
  refine ⟨_, _, rfl, Nat.le_refl _, fun _ => ⟨_, _, rfl, fun j hj => ?_⟩, hb⟩
  have key : ∀ i, i < 4 → (w.alloc (.cells cs t fr)).cell? ⟨w.heap.size, 0 + j * 4 + i, none⟩ = (agC l[j])[i]? := by
    intro i hi
    rw [cell_of_row _ w.heap.size _ cs _ fr (heap_alloc_new w _), ← Array.getElem?_toList, hcs, Nat.zero_add, flat_get l j hj i hi]
  exact ⟨key 0 (by decide), key 1 (by decide), key 2 (by decide), key 3 (by decide)⟩
def a42 : Ag := ⟨1, 42, 0, ⟨#[]⟩⟩
def a10 : Ag := ⟨2, 0, 10, ⟨#[]⟩⟩
def aHello : Ag := ⟨4, 0, 0, ⟨#[104, 101, 108, 108, 111]⟩⟩
def exP1 : ByteArray := ⟨#[37, 53, 100, 124, 37, 45, 53, 100, 124, 37, 48, 53, 100, 124, 37, 43, 100]⟩
def exP2 : ByteArray := ⟨#[37, 46, 51, 120, 37, 56, 46, 51, 115, 124]⟩
def exP3 : ByteArray := ⟨#[37, 100, 37, 37]⟩
def exT1 : List UInt8 := [32, 32, 32, 52, 50, 124, 52, 50, 32, 32, 32, 124, 48, 48, 48, 52, 50, 124, 43, 52, 50]
def exT2 : List UInt8 := [48, 48, 97, 32, 32, 32, 32, 32, 104, 101, 108, 124]
theorem ex_1 : fmtV exP1.data.toList [a42, a42, a42, a42] = (exT1, 0, 17) := by kernel_rfl
theorem ex_2 : fmtV exP2.data.toList [a10, aHello] = (exT2, 0, 10) := by kernel_rfl
theorem ex_3 : fmtV exP3.data.toList [a42, a42] = ([], 3, 4) := by kernel_rfl
theorem ab_42 : AB a42 := ⟨⟨by decide, by decide⟩, ⟨by decide, by decide⟩, by decide, by decide, by decide⟩
theorem ab_10 : AB a10 := ⟨⟨by decide, by decide⟩, ⟨by decide, by decide⟩, by decide, by decide, by decide⟩
theorem ab_hello : AB aHello := ⟨⟨by decide, by decide⟩, ⟨by decide, by decide⟩, by decide, by decide, by decide⟩
theorem all_42 : ∀ n, ∀ x ∈ List.replicate n a42, AB x := by
  intro n x hx
  rw [(List.mem_replicate.1 hx).2]
  exact ab_42
theorem all_10 : ∀ x ∈ [a10, aHello], AB x := by
  intro x hx
  simp only [List.mem_cons, List.not_mem_nil, or_false] at hx
  rcases hx with rfl | rfl
  · exact ab_10
  · exact ab_hello
theorem format_is (s : ByteArray) (va : Value) (aa : List Ag) (t : List UInt8) (e : Int) (p : Nat) (hs : s.size ≤ maxLen) (h : fmtV s.data.toList aa = (t, e, p)) (w : World) (hA : AgsV w va aa) :
    Calls Tryd.prog 10 #[.string s, va] w fun r w' => ∃ v, r = .returned (.tuple #[v, .int .i64 e, .int .i64 (p : Int)]) ∧ w'.ownsRow w.heap.size 5 1 v t.length (t.map bv) ∧ Below w.heap.size w w' := by
  have q := format_any s va aa w hs hA
  rw [h] at q
  exact q
set_option maxRecDepth 100000 in
set_option maxHeartbeats 4000000 in
theorem alive17 (w : World) : Calls Tryd.prog 15 #[] w fun e w' => e = .returned (.bool true) ∧ Below w.heap.size w w' := by
  have HI := hide (fun W => fint_any 42 W)
  have HU := hide (fun W => fuint_any 10 W)
  have HT := hide (fun W => ftext_any ⟨#[104, 101, 108, 108, 111]⟩ W)
  unfold agV at HI HU HT
  simp only at HI HU HT
  go_enter Tryd.func15, Tryd.ntmps15
  go_wp2_with fail
  refine (HI.out _).mono ?_
  rintro _ w1 ⟨rfl, hB1⟩
  have HB1 := hide hB1
  clear hB1
  go_wp2_with fail
  have hA1 := ags_lit (w1.alloc (.cells #[.int .i64 1, .int .i64 42, .int .u64 0, .string ⟨#[]⟩] 37)) [a42, a42, a42, a42] #[.int .i64 1, .int .i64 42, .int .u64 0, .string ⟨#[]⟩, .int .i64 1, .int .i64 42, .int .u64 0, .string ⟨#[]⟩, .int .i64 1, .int .i64 42, .int .u64 0, .string ⟨#[]⟩, .int .i64 1, .int .i64 42, .int .u64 0, .string ⟨#[]⟩] 37 (0, 0) 4 rfl rfl (all_42 4)
  rw [size_push1] at hA1
  have HN2 : Hid (AgAt ((w1.alloc (.cells #[.int .i64 1, .int .i64 42, .int .u64 0, .string ⟨#[]⟩] 37)).alloc (.cells #[.int .i64 1, .int .i64 42, .int .u64 0, .string ⟨#[]⟩, .int .i64 1, .int .i64 42, .int .u64 0, .string ⟨#[]⟩, .int .i64 1, .int .i64 42, .int .u64 0, .string ⟨#[]⟩, .int .i64 1, .int .i64 42, .int .u64 0, .string ⟨#[]⟩] 37)) w1.heap.size a42) := hide ((AgAt.new w1 a42).below (fm_below _ (.cells #[.int .i64 1, .int .i64 42, .int .u64 0, .string ⟨#[]⟩, .int .i64 1, .int .i64 42, .int .u64 0, .string ⟨#[]⟩, .int .i64 1, .int .i64 42, .int .u64 0, .string ⟨#[]⟩, .int .i64 1, .int .i64 42, .int .u64 0, .string ⟨#[]⟩] 37)))
  have HB2 := hide (HB1.out.trans ((recv2 w1 (.cells #[.int .i64 1, .int .i64 42, .int .u64 0, .string ⟨#[]⟩] 37) (.cells #[.int .i64 1, .int .i64 42, .int .u64 0, .string ⟨#[]⟩, .int .i64 1, .int .i64 42, .int .u64 0, .string ⟨#[]⟩, .int .i64 1, .int .i64 42, .int .u64 0, .string ⟨#[]⟩, .int .i64 1, .int .i64 42, .int .u64 0, .string ⟨#[]⟩] 37)).mono HB1.out.size))
  generalize (w1.alloc (.cells #[.int .i64 1, .int .i64 42, .int .u64 0, .string ⟨#[]⟩] 37)).alloc (.cells #[.int .i64 1, .int .i64 42, .int .u64 0, .string ⟨#[]⟩, .int .i64 1, .int .i64 42, .int .u64 0, .string ⟨#[]⟩, .int .i64 1, .int .i64 42, .int .u64 0, .string ⟨#[]⟩, .int .i64 1, .int .i64 42, .int .u64 0, .string ⟨#[]⟩] 37) = w2 at *
  refine (format_is exP1 _ _ exT1 0 17 (by decide) ex_1 _ hA1).mono ?_
  rintro _ w3 ⟨v1, rfl, hO1, hB3⟩
  have HN3 := hide (HN2.out.below hB3)
  have HO3 := hide hO1
  have HB3 := hide (HB2.out.trans (hB3.mono HB2.out.size))
  clear hA1 hO1 hB3 HN2 HB2 HB1
  go_wp2_with fail
  refine (HU.out _).mono ?_
  rintro _ w4 ⟨rfl, hB4⟩
  have HN4 := hide (HN3.out.below hB4)
  have HO4 := hide (owns_below HO3.out hB4)
  have HB4 := hide (HB3.out.trans (hB4.mono HB3.out.size))
  clear hB4 HN3 HO3 HB3 HU
  go_wp2_with fail
  refine (HT.out _).mono ?_
  rintro _ w5 ⟨rfl, hB5⟩
  have HN5 := hide (HN4.out.below hB5)
  have HO5 := hide (owns_below HO4.out hB5)
  have HB5 := hide (HB4.out.trans (hB5.mono HB4.out.size))
  clear hB5 HN4 HO4 HB4 HT
  go_wp2_with fail
  have hA2 := ags_lit w5 [a10, aHello] #[.int .i64 2, .int .i64 0, .int .u64 10, .string ⟨#[]⟩, .int .i64 4, .int .i64 0, .int .u64 0, .string ⟨#[104, 101, 108, 108, 111]⟩] 37 (0, 0) 2 rfl rfl all_10
  have hB6 := fm_below w5 (.cells #[.int .i64 2, .int .i64 0, .int .u64 10, .string ⟨#[]⟩, .int .i64 4, .int .i64 0, .int .u64 0, .string ⟨#[104, 101, 108, 108, 111]⟩] 37)
  have HN6 := hide (HN5.out.below hB6)
  have HO6 := hide (owns_below HO5.out hB6)
  have HB6 := hide (HB5.out.trans (hB6.mono HB5.out.size))
  generalize w5.alloc (.cells #[.int .i64 2, .int .i64 0, .int .u64 10, .string ⟨#[]⟩, .int .i64 4, .int .i64 0, .int .u64 0, .string ⟨#[104, 101, 108, 108, 111]⟩] 37) = w6 at *
  clear hB6 HN5 HO5 HB5
  refine (format_is exP2 _ _ exT2 0 10 (by decide) ex_2 _ hA2).mono ?_
  rintro _ w7 ⟨v2, rfl, hO2, hB7⟩
  have hN7 := HN6.out.below hB7
  have HN7 := hide hN7
  obtain ⟨c0, c1, c2, c3⟩ := hN7
  have HO7 := hide (owns_below HO6.out hB7)
  have HP7 := hide hO2
  have HB7 := hide (HB6.out.trans (hB7.mono HB6.out.size))
  unfold a42 at c0 c1 c2 c3
  simp only at c0 c1 c2 c3
  clear hA2 hO2 hB7 HN6 HO6 HB6
  go_wp2_with fail
  have hA3 := ags_lit w7 [a42, a42] #[.int .i64 1, .int .i64 42, .int .u64 0, .string ⟨#[]⟩, .int .i64 1, .int .i64 42, .int .u64 0, .string ⟨#[]⟩] 37 (0, 0) 2 rfl rfl (all_42 2)
  have hB8 := fm_below w7 (.cells #[.int .i64 1, .int .i64 42, .int .u64 0, .string ⟨#[]⟩, .int .i64 1, .int .i64 42, .int .u64 0, .string ⟨#[]⟩] 37)
  have HO8 := hide (owns_below HO7.out hB8)
  have HP8 := hide (owns_below HP7.out hB8)
  have HB8 := hide (HB7.out.trans (hB8.mono HB7.out.size))
  generalize w7.alloc (.cells #[.int .i64 1, .int .i64 42, .int .u64 0, .string ⟨#[]⟩, .int .i64 1, .int .i64 42, .int .u64 0, .string ⟨#[]⟩] 37) = w8 at *
  clear hB8 HN7 HO7 HP7 HB7 c0 c1 c2 c3
  refine (format_is exP3 _ _ [] 3 4 (by decide) ex_3 _ hA3).mono ?_
  rintro _ w9 ⟨v3, rfl, -, hB9⟩
  have hs1 := owns_string (owns_below HO8.out hB9)
  have hs2 := owns_string (owns_below HP8.out hB9)
  have HB9 := hide (HB8.out.trans (hB9.mono HB8.out.size))
  clear hB9 HO8 HP8 HB8 hA3
  go_wp2_with (first | (go_at_call 13; refine (num17 _ _).mono ?_; rintro _ _ ⟨rfl, rfl⟩) | fail)
  go_ret
  exact ⟨rfl, HB9.out⟩
end Go.Proofs.YtpcchaciomeckaaDoor
