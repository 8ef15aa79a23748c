/- What the proof stands on, part 20: the contracts of the program's calls that it reaches. -/
import Derived.Test.YtkkicbhmcjbmbaaGreatKM19
/- KernPlays: Read and Write by both. -/
namespace Go.Proofs.YtkkicbhmcjbmbaaGreat
open Go.RowKit Go.Maps

theorem rkwrite_any0 (B : Nat → Prop) (ρ : Nat → Option Tag) (I : RI) (K : KS) (d : Int) (b : List UInt8) (a1 : Option Addr) (cx : Nat) (w : World) (h : RK w B ρ I K) (hr : K.writes < 9223372036854775807) (hb : Bys w (.slice a1 b.length cx) b) (hcap : b.length ≤ cx) (hap : 0 < b.length → ∀ k, (Value.slice a1 b.length cx).ownBlock = some k → ¬ B k) :
    Calls Tryz.prog 56 #[.pointer (some ⟨I.kb, 0, none⟩), .int .i64 d, .slice a1 b.length cx] w (RKNum w B I.kb (K.write d b)) := by
  cases hx : K.find d with
  | none => exact rkwrite_head B ρ I K d b a1 cx w h (.inl hx)
  | some x =>
    by_cases hh : fbit x.flags 2 = 0 ∨ 1048576 < b.length ∨ b.length = 0
    · exact rkwrite_head B ρ I K d b a1 cx w h (.inr ⟨x, hx, hh⟩)
    · have h1 : fbit x.flags 2 ≠ 0 := fun e => hh (.inl e)
      have h2 : ¬ 1048576 < b.length := fun e => hh (.inr (.inl e))
      have h3 : ¬ b.length = 0 := fun e => hh (.inr (.inr e))
      exact rkwrite_any B ρ I K d b a1 cx w h hr hb hcap (hap (by omega))
theorem RAt.write0 {w : World} {O : Nat → Prop} {kb : Nat} {K : KS} (h : RAt w O kb K) (d : Int) (b : List UInt8) (a1 : Option Addr) (cx : Nat) (hr : K.writes < 9223372036854775807) (hb : Bys w (.slice a1 b.length cx) b) (hcap : b.length ≤ cx) (hap : 0 < b.length → ∀ k, (Value.slice a1 b.length cx).ownBlock = some k → k < w.heap.size ∧ ¬ O k) :
    Calls Tryz.prog 56 #[.pointer (some ⟨kb, 0, none⟩), .int .i64 d, .slice a1 b.length cx] w fun e w' => e = .returned (.tuple #[.int .i64 (K.write d b).1, .int .i64 (K.write d b).2.1]) ∧ RKStep w O kb (K.write d b).2.2 w' := by
  obtain ⟨B, ρ, I, h1, rfl, h3⟩ := h
  refine (rkwrite_any0 _ ρ I K d b a1 cx w h1.own hr hb hcap (fun h0 k e e' => by
    rcases e' with ⟨t', h4⟩ | h4
    · exact (hap h0 k e).2 (h3 k t' h4)
    · have := (hap h0 k e).1; omega)).mono ?_
  rintro e w' ⟨ρ', I', h4, h6, h7, h8⟩
  exact ⟨h4, RK.left h3 h6 h7 h8⟩
theorem RKStep.turned {w w' : World} {O : Nat → Prop} {kb : Nat} {K : KS} (h : RKStep w O kb K w') : Turned O w w' := by
  obtain ⟨_, _, _, hT⟩ := h
  exact hT
/-- As Duo.both; and blocks that were made between may turn behind. -/
theorem Duo.both2 {wr : World} {B kb mb : Nat} {K M : KS} (h : Duo wr B kb mb K M) (hB : B ≤ wr.heap.size) :
    ∃ O P, KAt wr O kb K ∧ RAt wr P mb M ∧ (∀ j, O j → B ≤ j ∧ j < wr.heap.size) ∧ (∀ j, P j → B ≤ j ∧ j < wr.heap.size) ∧
      ∀ wb, Below wr.heap.size wr wb → ∀ K' w5, KStep wb O kb K' w5 → ∀ w6, Below w5.heap.size w5 w6 → RAt w6 P mb M ∧ ∀ M' w7, RKStep w6 P mb M' w7 → ∀ S w8, Turned S w7 w8 → (∀ k, S k → wr.heap.size ≤ k ∧ k < wb.heap.size) → Duo w8 B kb mb K' M' ∧ Below B wr w8 := by
  obtain ⟨O, P, h1, h2, h3, h4⟩ := h
  refine ⟨O, P, h1, h2, fun j e => ⟨(h3 j e).1, (h3 j e).2.1⟩, h4, fun wb hb K' w5 hS w6 h56 => ?_⟩
  obtain ⟨O', g1, g2, g3⟩ := hS
  have hsb := hb.size
  have hm : RAt w6 P mb M := ((h2.below hb).keep (fun j e hl => g3.block j hl (fun e' => (h3 j e').2.2 e)) g3.size).below h56
  refine ⟨hm, fun M' w7 hS7 S w8 hT8 hS8 => ?_⟩
  obtain ⟨P', f1, f2, f3⟩ := hS7
  have hz5 := g3.size
  have hz6 := h56.size
  have hz7 := f3.size
  have hz8 := hT8.size
  have g1' := g1.trim.below h56
  have g7 : KAt w7 (fun k => O' k ∧ k < w5.heap.size) kb K' := g1'.keep (fun j e hl => f3.block j hl (fun e' => by
    rcases g2 j e.1 with e1 | e1
    · exact (h3 j e1).2.2 e'
    · have := (h4 j e').2; omega)) hz7
  have hO8 : ∀ j, O' j → ¬ S j := fun j e e' => by
    have := hS8 j e'
    rcases g2 j e with e1 | e1
    · have := (h3 j e1).2.1; omega
    · omega
  have hP8 : ∀ j, P' j → ¬ S j := fun j e e' => by
    have := hS8 j e'
    rcases f2 j e with e1 | e1
    · have := (h4 j e1).2; omega
    · omega
  refine ⟨⟨fun k => O' k ∧ k < w5.heap.size, fun k => P' k ∧ k < w7.heap.size, g7.keep (fun j e hl => hT8.block j hl (hO8 j e.1)) hz8, f1.trim.keep (fun j e hl => hT8.block j hl (hP8 j e.1)) hz8, fun j e => ⟨?_, by have := e.2; omega, fun e' => ?_⟩, fun j e => ⟨?_, by have := e.2; omega⟩⟩,
    (hb.mono hB).trans ((g3.below (fun j e => (h3 j e).1) (Nat.le_trans hB hsb)).trans ((h56.mono (by omega)).trans ((f3.below (fun j e => (h4 j e).1) (by omega)).trans (hT8.below (fun j e => by have := (hS8 j e).1; omega) (by omega)))))⟩
  · rcases g2 j e.1 with e1 | e1
    · exact (h3 j e1).1
    · omega
  · rcases f2 j e'.1 with e2 | e2
    · rcases g2 j e.1 with e1 | e1
      · exact (h3 j e1).2.2 e2
      · have := (h4 j e2).2; omega
    · have := e.2; omega
  · rcases f2 j e.1 with e2 | e2
    · exact (h4 j e2).1
    · omega
set_option maxRecDepth 100000 in
set_option maxHeartbeats 2000000 in
theorem does_read (B kb mb : Nat) (K : KS) (x : KSt) (va : Option Addr) (vc : Nat) (w : World) (hD : Duo w B kb mb K K) (hB : B ≤ w.heap.size) (hx : StIn B w x va vc) (hk : KSmall K) (h0 : x.what = 2) :
    Calls Tryz.prog 12 #[.pointer (some ⟨kb, 0, none⟩), .pointer (some ⟨mb, 0, none⟩), .agg #[.int .i64 x.what, .string x.name, .int .i64 x.a, .int .i64 x.b, .int .i64 x.c, .slice va x.data.length vc]] w (Did B kb mb (K.read x.a x.b).2.2 w) := by
  obtain ⟨O, P, hK, hM, hO, hP, hboth⟩ := hD.both hB
  rw [h0]
  obtain ⟨what, name, xa, xb, xc, data⟩ := x
  simp only at *
  have hb := recv_below w (Obj.cells #[.int .i64 2, .string name, .int .i64 xa, .int .i64 xb, .int .i64 xc, .slice va data.length vc] 42)
  obtain ⟨x1, x2, x3, x4, x5⟩ := six_cells w (.int .i64 2) (.string name) (.int .i64 xa) (.int .i64 xb) (.int .i64 xc) (.slice va data.length vc) 42
  have H1 := hide ((hK.below hb).read xa xb hx.a (by have := hk; unfold KSmall at this; omega))
  have hbo := hboth _ hb
  have HBo := hide hbo
  have HX := hide (And.intro x2 x3)
  have HO := hide hO
  have HP := hide hP
  have HKs := hide hk
  have hfew := read_few hK xa xb
  have hsw : w.heap.size ≤ (w.alloc (Obj.cells #[.int .i64 2, .string name, .int .i64 xa, .int .i64 xb, .int .i64 xc, .slice va data.length vc] 42)).heap.size := hb.size
  have HSw := hide hsw
  clear hbo x1 x2 x3 x4 x5 hO hP hk hx hK hM hboth hb hD hsw
  generalize hR : K.read xa xb = R at *
  obtain ⟨l, r2, K'⟩ := R
  have HR := hide hR
  clear hR
  simp only at H1 hfew ⊢
  go_enter Tryz.func12, Tryz.ntmps12
  go_wp2_with fail
  refine H1.out.mono ?_
  rintro e w5 ⟨v, rfl, hown, hKa, hT⟩
  have hS := hKa.rstep hT
  have c1 := cell_keep hT HX.out.1 (fun e => by have := (HO.out _ e).2; omega)
  have c2 := cell_keep hT HX.out.2 (fun e => by have := (HO.out _ e).2; omega)
  obtain ⟨hm, hbk⟩ := HBo.out K' w5 hS w5 (Below.refl _ _)
  have H2 := hide (hm.read xa xb (by have := HKs.out; unfold KSmall at this; omega))
  rw [HR.out] at H2
  simp only at H2
  have HBk := hide hbk
  have HOw := hide hown
  obtain ⟨a0, n0, rfl⟩ := owns_slice hown
  clear hbk hm hT hS hown hKa
  go_wp2_with fail
  refine H2.out.mono ?_
  rintro e w7 ⟨u, rfl, hby, hS7⟩
  obtain ⟨hD7, hB7⟩ := HBk.out K' w7 hS7
  have hby1 : Bys w7 (.slice a0 l.length n0) l := by
    obtain ⟨_, _, _, hT7⟩ := hS7
    exact (Bys.of_owns HOw.out).turned hT7 (fun k hk _ e => by
      have h1 := (HOw.out.lt k hk).1
      have h2 := (HP.out _ e).2
      have h3 := HSw.out
      omega)
  have HSm := hide (same_any _ _ l w7 hby1 hby (by unfold maxLen; omega))
  obtain ⟨ua, un, uc, rfl⟩ : ∃ ua un uc, u = .slice ua un uc := by
    obtain ⟨ua, uc, e, -⟩ := bys_form hby
    exact ⟨_, _, _, e⟩
  have HD7 := hide hD7
  have HB7 := hide hB7
  clear hD7 hB7 hS7 hby hby1
  go_wp2_with (first | (go_at_call 10; refine (num_kp _ _).mono ?_; rintro _ _ ⟨rfl, rfl⟩) | (go_at_call 38; refine HSm.out.mono ?_; rintro _ w8 ⟨rfl, hB8⟩) | fail)
  go_ret
  exact ⟨rfl, HD7.out.below hB8, HB7.out.trans (hB8.mono (Nat.le_trans hB HB7.out.size))⟩
set_option maxRecDepth 100000 in
set_option maxHeartbeats 2000000 in
theorem does_write (B kb mb : Nat) (K : KS) (x : KSt) (va : Option Addr) (vc : Nat) (w : World) (hD : Duo w B kb mb K K) (hB : B ≤ w.heap.size) (hx : StIn B w x va vc) (hk : KSmall K) (h0 : x.what = 3) :
    Calls Tryz.prog 12 #[.pointer (some ⟨kb, 0, none⟩), .pointer (some ⟨mb, 0, none⟩), .agg #[.int .i64 x.what, .string x.name, .int .i64 x.a, .int .i64 x.b, .int .i64 x.c, .slice va x.data.length vc]] w (Did B kb mb (K.write x.a x.data).2.2 w) := by
  obtain ⟨O, P, hK, hM, hO, hP, hboth⟩ := hD.both2 hB
  rw [h0]
  obtain ⟨what, name, xa, xb, xc, data⟩ := x
  simp only at *
  have hb := recv_below w (Obj.cells #[.int .i64 3, .string name, .int .i64 xa, .int .i64 xb, .int .i64 xc, .slice va data.length vc] 42)
  obtain ⟨x1, x2, x3, x4, x5⟩ := six_cells w (.int .i64 3) (.string name) (.int .i64 xa) (.int .i64 xb) (.int .i64 xc) (.slice va data.length vc) 42
  have hby0 := hx.by'.below hb
  have HC := hide (copy_any _ data _ hby0 hx.few)
  have hsw := hb.size
  have hfw : data.length ≤ 140737488351232 := hx.few
  have hls := size_new w (Obj.cells #[.int .i64 3, .string name, .int .i64 xa, .int .i64 xb, .int .i64 xc, .slice va data.length vc] 42)
  generalize hR : K.write xa data = R at *
  obtain ⟨r1, r2, K'⟩ := R
  have HR := hide hR
  clear hR
  simp only
  have HX := hide (And.intro x2 x5)
  have HO := hide hO
  have HP := hide hP
  have HKs := hide hk
  have HI := hide hx
  have HK := hide hK
  have HBt := hide hboth
  have HB := hide hb
  have HY := hide hby0
  clear x1 x2 x3 x4 x5 hO hP hk hx hK hM hboth hb hD hby0
  go_enter Tryz.func12, Tryz.ntmps12
  go_wp2_with fail
  generalize w.alloc (Obj.cells #[.int .i64 3, .string name, .int .i64 xa, .int .i64 xb, .int .i64 xc, .slice va data.length vc] 42) = wb at *
  refine HC.out.mono ?_
  rintro e wc ⟨v, rfl, hown, hBc⟩
  obtain ⟨a0, n0, rfl⟩ := owns_slice hown
  have hcap := owns_cap hown
  have hbc : Below w.heap.size w wc := HB.out.trans (hBc.mono hsw)
  have H1 := hide ((HK.out.below hbc).write xa data a0 n0 HI.out.a (by have := HKs.out; unfold KSmall at this; omega) (Bys.of_owns hown) hcap (by omega) (fun _ k hk e => by have := (hown.lt k hk).1; have := (HO.out _ e).2; omega))
  rw [HR.out] at H1
  simp only at H1
  have c2 := (hBc.cell (p := ⟨w.heap.size, 2, none⟩) hls).trans HX.out.1
  have c5 := (hBc.cell (p := ⟨w.heap.size, 5, none⟩) hls).trans HX.out.2
  have hlc : w.heap.size < wc.heap.size := Nat.lt_of_lt_of_le hls hBc.size
  have HOw := hide hown
  have HBc := hide hBc
  have HBw := hide hbc
  clear hown hBc hbc hcap HC
  go_wp2_with fail
  refine H1.out.mono ?_
  rintro e w5 ⟨rfl, hS⟩
  have hT := hS.turned
  have d2 := cell_keep hT c2 (fun e => by have := (HO.out _ e).2; omega)
  have d5 := cell_keep hT c5 (fun e => by have := (HO.out _ e).2; omega)
  obtain ⟨hm, hbk⟩ := HBt.out wc HBw.out K' w5 hS w5 (Below.refl _ _)
  have hyd : Bys w5 (.slice va data.length vc) data := by
    by_cases hz : 0 < data.length
    · exact (HY.out.below HBc.out).turned hT (fun k hk _ e => by have := HI.out.low hz k hk; have := (HO.out _ e).1; omega)
    · exact bys_none HY.out hz
  have hz5 := hT.size
  have H2 := hide (hm.write0 xa data va vc (by have := HKs.out; unfold KSmall at this; omega) hyd HI.out.cap (fun hz k hk => by have := HI.out.low hz k hk; exact ⟨by omega, fun e => by have := (HP.out _ e).1; omega⟩))
  rw [HR.out] at H2
  simp only at H2
  have HBk := hide hbk
  have HO5 := hide (owns_turned HOw.out hT (fun k hk e => by have := (HOw.out.lt k hk).1; have := (HO.out _ e).2; omega))
  clear hbk hm hT hS hyd c2 c5
  go_wp2_with fail
  refine H2.out.mono ?_
  rintro e w7 ⟨rfl, hS7⟩
  have HO7 := hide (owns_turned HO5.out (RKStep.turned hS7) (fun k hk e => by have := (HOw.out.lt k hk).1; have := (HP.out _ e).2; omega))
  have HSp := hide (Kp_spoil_turn _ _ _ _ w7 HO7.out (Kp_bv_ints data) (by unfold maxLen; omega))
  have HBq := hide (HBk.out K' w7 hS7)
  clear hS7 d2 d5
  go_wp2_with fail
  refine HSp.out.mono ?_
  rintro e w8 ⟨rfl, hT8⟩
  obtain ⟨hD8, hB8⟩ := HBq.out _ w8 hT8 (fun k hk => ⟨by have := (HOw.out.lt k hk).1; omega, by have := (HOw.out.lt k hk).2; omega⟩)
  have HD8 := hide hD8
  have HB8 := hide hB8
  clear hD8 hB8 hT8
  go_wp2_with (first | (go_at_call 10; refine (num_kp _ _).mono ?_; rintro _ _ ⟨rfl, rfl⟩) | fail)
  go_ret
  exact ⟨rfl, HD8.out, HB8.out⟩
theorem does_any (B kb mb : Nat) (K : KS) (x : KSt) (va : Option Addr) (vc : Nat) (w : World) (hD : Duo w B kb mb K K) (hB : B ≤ w.heap.size) (hx : StIn B w x va vc) (hk : KSmall K) :
    Calls Tryz.prog 12 #[.pointer (some ⟨kb, 0, none⟩), .pointer (some ⟨mb, 0, none⟩), .agg #[.int .i64 x.what, .string x.name, .int .i64 x.a, .int .i64 x.b, .int .i64 x.c, .slice va x.data.length vc]] w (Did B kb mb (K.does x) w) := by
  unfold KS.does
  by_cases h0 : x.what = 0
  · rw [if_pos h0]; exact does_open B kb mb K x va vc w hD hB hx hk h0
  by_cases h1 : x.what = 1
  · rw [if_neg h0, if_pos h1]; exact does_pipe B kb mb K x va vc w hD hB hx hk h1
  by_cases h2 : x.what = 2
  · rw [if_neg h0, if_neg h1, if_pos h2]; exact does_read B kb mb K x va vc w hD hB hx hk h2
  by_cases h3 : x.what = 3
  · rw [if_neg h0, if_neg h1, if_neg h2, if_pos h3]; exact does_write B kb mb K x va vc w hD hB hx hk h3
  by_cases h4 : x.what = 4
  · rw [if_neg h0, if_neg h1, if_neg h2, if_neg h3, if_pos h4]; exact does_seek B kb mb K x va vc w hD hB hx hk h4
  by_cases h5 : x.what = 5
  · rw [if_neg h0, if_neg h1, if_neg h2, if_neg h3, if_neg h4, if_pos h5]; exact does_keep B kb mb K x va vc w hD hB hx hk h5
  rw [if_neg h0, if_neg h1, if_neg h2, if_neg h3, if_neg h4, if_neg h5]
  exact does_drop B kb mb K x va vc w hD hB hx hk h0 h1 h2 h3 h4 h5
theorem kle_does (K : KS) (x : KSt) : KLe K (K.does x) := by
  unfold KS.does
  split
  · exact kle_open K _ _
  split
  · exact kle_pipe K
  split
  · exact kle_read K _ _
  split
  · exact kle_write K _ _
  split
  · exact kle_seek K _ _ _
  split
  · exact kle_keep K _
  · exact kle_drop K _
end Go.Proofs.YtkkicbhmcjbmbaaGreat

/- Kernels as values: a pipe on which a description writes has a writer, and no other one writes on it. -/
namespace Go.Proofs.YtkkicbhmcjbmbaaGreat
open Go.RowKit Go.Maps

def Ob.wts : Ob → Option Nat
  | .pipe _ _ wt => some wt
  | _ => none
/-- How many write on the pipe that is thing i. -/
def KS.pw (K : KS) (i : Nat) : Option Nat := (K.obOf i).wts
def PInv (K : KS) : Prop := ∀ x ∈ K.de, bit x.flags 2 = true → ∀ wt, K.pw x.th = some wt → 1 ≤ wt ∧ ∀ y ∈ K.de, y.th = x.th → bit y.flags 2 = true → y.n = x.n
theorem PInv.sub {K K' : KS} (h : PInv K) (hd : ∀ x ∈ K'.de, ∃ y ∈ K.de, y.n = x.n ∧ y.th = x.th ∧ y.flags = x.flags) (hw : ∀ i, K'.pw i = K.pw i) : PInv K' := by
  intro x hx hb wt hwt
  obtain ⟨y, hy, e1, e2, e3⟩ := hd x hx
  rw [hw, ← e2] at hwt
  obtain ⟨h1, h2⟩ := h y hy (by rw [e3]; exact hb) wt hwt
  refine ⟨h1, fun z hz hzt hzb => ?_⟩
  obtain ⟨u, hu, f1, f2, f3⟩ := hd z hz
  rw [← f1, ← e1]
  exact h2 u hu (by rw [f2, hzt, e2]) (by rw [f3]; exact hzb)
theorem pw_setOb {K : KS} {i : Nat} {ob : Ob} (h : ob.wts = K.pw i) (j : Nat) : (K.setOb i ob).pw j = K.pw j := by
  unfold KS.pw KS.obOf KS.setOb at *
  simp only [List.getElem?_modify]
  by_cases e : i = j
  · subst e
    cases hq : K.th[i]? with
    | none => simp
    | some t => simp [hq] at h ⊢; exact h
  · simp [e]
theorem PInv.setDe {K : KS} {d : Int} {x x' : De} (h : PInv K) (hx : K.find d = some x) (e1 : x'.n = x.n) (e2 : x'.th = x.th) (e3 : x'.flags = x.flags) : PInv (K.setDe x') := by
  refine h.sub (fun y hy => ?_) (fun i => rfl)
  rcases mem_setDe hy with rfl | ⟨hy, _⟩
  · exact ⟨x, (KS.find_some hx).1, e1.symm, e2.symm, e3.symm⟩
  · exact ⟨y, hy, rfl, rfl, rfl⟩
theorem PInv.setOb {K : KS} {i : Nat} {ob : Ob} (h : PInv K) (hw : ob.wts = K.pw i) : PInv (K.setOb i ob) := h.sub (fun y hy => ⟨y, hy, rfl, rfl, rfl⟩) (pw_setOb hw)
theorem PInv.readUp {K : KS} (h : PInv K) : PInv K.readUp := h.sub (fun y hy => ⟨y, hy, rfl, rfl, rfl⟩) (fun _ => rfl)
theorem PInv.writeUp {K : KS} (h : PInv K) : PInv K.writeUp := h.sub (fun y hy => ⟨y, hy, rfl, rfl, rfl⟩) (fun _ => rfl)
theorem find_readUp {K : KS} {d : Int} : K.readUp.find d = K.find d := rfl
theorem pinv_read {K : KS} (h : PInv K) (d n : Int) : PInv (K.read d n).2.2 := by
  unfold KS.read
  cases hx : K.find d with
  | none => exact h
  | some x =>
    simp only
    split
    · exact h
    split
    · exact h
    split
    · exact h
    split
    · exact h
    split
    · cases ho : K.tho x with
      | file b => exact h.readUp.setDe (d := d) (x := x) hx rfl rfl rfl
      | term ls scr => exact h.readUp.setOb (by show none = (K.obOf x.th).wts; rw [show K.obOf x.th = K.tho x from rfl, ho]; rfl)
      | pipe q rd wt => exact h.readUp.setOb (by show some wt = (K.obOf x.th).wts; rw [show K.obOf x.th = K.tho x from rfl, ho]; rfl)
    · exact h.readUp
theorem pinv_write {K : KS} (h : PInv K) (d : Int) (b : List UInt8) : PInv (K.write d b).2.2 := by
  unfold KS.write
  cases hx : K.find d with
  | none => exact h
  | some x =>
    simp only
    split
    · exact h
    split
    · exact h
    split
    · exact h
    split
    · split
      · cases ho : K.tho x with
        | file f =>
          have h1 : PInv (K.writeUp.setOb x.th (.file (wrL f (placeOf f x.flags x.pos) (b.take (min (nxt K.plan b.length).1.toNat (1048576 - placeOf f x.flags x.pos)))))) := h.writeUp.setOb (by show none = (K.obOf x.th).wts; rw [show K.obOf x.th = K.tho x from rfl, ho]; rfl)
          exact h1.setDe (d := d) (x := x) hx rfl rfl rfl
        | term ls scr => exact h.writeUp.setOb (by show none = (K.obOf x.th).wts; rw [show K.obOf x.th = K.tho x from rfl, ho]; rfl)
        | pipe q rd wt => exact h.writeUp.setOb (by show some wt = (K.obOf x.th).wts; rw [show K.obOf x.th = K.tho x from rfl, ho]; rfl)
      · exact h.writeUp
    · exact h
theorem pinv_seek {K : KS} (h : PInv K) (d o wh : Int) : PInv (K.seek d o wh).2.2 := by
  unfold KS.seek
  cases hx : K.find d with
  | none => exact h
  | some x =>
    simp only
    cases ho : K.tho x with
    | file b =>
      simp only
      generalize (if wh = 1 then (x.pos : Int) else if wh = 2 then (b.length : Int) else 0) = z
      split
      · exact h
      split
      · exact h.setDe (d := d) (x := x) hx rfl rfl rfl
      · exact h
    | term ls scr => exact h
    | pipe q rd wt => exact h
theorem pinv_keep {K : KS} (h : PInv K) (d : Int) : PInv (K.keepK d) := by
  unfold KS.keepK
  cases hx : K.find d with
  | none => exact h
  | some x =>
    simp only
    split
    · exact h
    · exact h.setDe (d := d) (x := x) hx rfl rfl rfl
theorem pinv_drop {K : KS} (h : PInv K) (d : Int) : PInv (K.dropK d) := by
  unfold KS.dropK
  cases hx : K.find d with
  | none => exact h
  | some x =>
    simp only
    split
    · exact h.setDe (d := d) (x := x) hx rfl rfl rfl
    · have hlose : ∀ {K' : KS}, PInv K' → PInv (K'.lose x.n) := fun {K'} h' => h'.sub (fun y hy => ⟨y, (List.mem_filter.1 hy).1, rfl, rfl, rfl⟩) (fun _ => rfl)
      cases ho : K.tho x with
      | file b => exact hlose h
      | term ls scr => exact hlose h
      | pipe q rd wt =>
        simp only
        by_cases hb : bit x.flags 2 = true
        · intro y hy hyb wt' hwt'
          obtain ⟨hy1, hy2⟩ := List.mem_filter.1 hy
          have hy1' : y ∈ K.de := hy1
          have hyn : y.n ≠ x.n := by simpa using hy2
          have hxm := (KS.find_some hx).1
          by_cases hth : y.th = x.th
          · obtain ⟨_, h2⟩ := h x hxm hb wt (by show (K.obOf x.th).wts = some wt; rw [show K.obOf x.th = K.tho x from rfl, ho]; rfl)
            exact absurd (h2 y hy1' hth hyb) hyn
          · have hpw : K.pw y.th = some wt' := by
              rw [← hwt']
              show K.pw y.th = (K.setOb x.th _).pw y.th
              unfold KS.pw KS.obOf KS.setOb
              simp only [List.getElem?_modify]
              simp [Ne.symm hth]
            obtain ⟨g1, g2⟩ := h y hy1' hyb wt' hpw
            exact ⟨g1, fun z hz hzt hzb => g2 z (List.mem_filter.1 hz).1 hzt hzb⟩
        · have hb' : bit x.flags 2 = false := by simpa using hb
          exact hlose (h.setOb (by rw [hb']; show some (leaveW false rd wt) = (K.obOf x.th).wts; rw [show K.obOf x.th = K.tho x from rfl, ho]; rfl))
theorem obOf_app {K : KS} {i : Nat} (h : i < K.th.length) {t : Th} : ((K.th ++ [t])[i]?.map Th.ob).getD (.file []) = K.obOf i := by
  unfold KS.obOf
  rw [List.getElem?_append_left h]
theorem pinv_newDe {K : KS} (h : PInv K) (i : Nat) (fl : Int) (hi : K.pw i = none) : PInv (K.newDe i fl) := by
  intro x hx hb wt hwt
  have hpw : K.pw x.th = some wt := hwt
  rcases List.mem_append.1 (show x ∈ K.de ++ [⟨K.next, i, fl, 0, 1⟩] from hx) with hx | hx
  · obtain ⟨g1, g2⟩ := h x hx hb wt hpw
    refine ⟨g1, fun y hy hyt hyb => ?_⟩
    rcases List.mem_append.1 (show y ∈ K.de ++ [⟨K.next, i, fl, 0, 1⟩] from hy) with hy | hy
    · exact g2 y hy hyt hyb
    · have : y = ⟨K.next, i, fl, 0, 1⟩ := by simpa using hy
      subst this
      rw [← hyt] at hpw
      rw [hi] at hpw
      cases hpw
  · have : x = ⟨K.next, i, fl, 0, 1⟩ := by simpa using hx
    subst this
    rw [hi] at hpw
    cases hpw
theorem pinv_open {K : KS} (h : PInv K) (hk : KOk K) (hn : KNm K) (s : ByteArray) (fl : Int) : PInv (K.open s fl).2.2 := by
  unfold KS.open
  split
  · exact h
  split
  · exact h
  split
  · exact h
  cases hq : K.byName s with
  | some i =>
    simp only
    have him : i ∈ K.nm := List.mem_of_find?_eq_some hq
    have hki := hn.kind i him
    split
    · have hpi : K.pw i = none := by
        unfold KS.pw
        cases ho : K.obOf i with
        | file b => rfl
        | term ls scr => rfl
        | pipe q rd wt => rw [ho] at hki; rcases hki with e | e <;> simp [Ob.kind] at e
      have hcut : PInv (K.cut i fl) ∧ (K.cut i fl).pw i = none := by
        unfold KS.cut
        split
        · cases ho : K.obOf i with
          | file b =>
            have hw : (Ob.file []).wts = K.pw i := by rw [hpi]; rfl
            exact ⟨h.setOb hw, by rw [pw_setOb hw]; exact hpi⟩
          | term ls scr => exact ⟨h, hpi⟩
          | pipe q rd wt => exact ⟨h, hpi⟩
        · exact ⟨h, hpi⟩
      exact pinv_newDe hcut.1 i fl hcut.2
    · exact h
  | none =>
    simp only
    split
    · exact h
    split
    · exact h
    · have hadd : PInv (K.addTh ⟨s, .file []⟩) := by
        intro x hx hb wt hwt
        have hx' : x ∈ K.de := hx
        have hlt := hk.th x hx'
        have hpw : K.pw x.th = some wt := by
          rw [← hwt]
          show (K.obOf x.th).wts = ((((K.th ++ [⟨s, .file []⟩])[x.th]?.map Th.ob).getD (.file []))).wts
          rw [obOf_app hlt]
        exact h x hx' hb wt hpw
      refine pinv_newDe hadd _ fl ?_
      show ((((K.th ++ [⟨s, .file []⟩])[K.th.length]?.map Th.ob).getD (.file []))).wts = none
      simp [Ob.wts]
theorem pinv_pipe {K : KS} (h : PInv K) (hk : KOk K) : PInv K.pipe.2.2.2 := by
  unfold KS.pipe
  split
  · exact h
  · simp only
    have hnew : ∀ i, i < K.th.length → (((K.addP (.pipe [] 1 1)).newDe K.th.length 1).newDe K.th.length 2).pw i = K.pw i := fun i hi => by
      show ((((K.th ++ [⟨ByteArray.empty, .pipe [] 1 1⟩])[i]?.map Th.ob).getD (.file []))).wts = (K.obOf i).wts
      rw [obOf_app hi]
    intro x hx hb wt hwt
    have hx0 : x ∈ (K.de ++ [⟨K.next, K.th.length, 1, 0, 1⟩]) ++ [⟨K.next + 1, K.th.length, 2, 0, 1⟩] := hx
    rcases List.mem_append.1 hx0 with hx1 | hx1
    · rcases List.mem_append.1 hx1 with hx2 | hx2
      · have hlt := hk.th x hx2
        rw [hnew _ hlt] at hwt
        obtain ⟨g1, g2⟩ := h x hx2 hb wt hwt
        refine ⟨g1, fun y hy hyt hyb => ?_⟩
        have hy0 : y ∈ (K.de ++ [⟨K.next, K.th.length, 1, 0, 1⟩]) ++ [⟨K.next + 1, K.th.length, 2, 0, 1⟩] := hy
        rcases List.mem_append.1 hy0 with hy1 | hy1
        · rcases List.mem_append.1 hy1 with hy2 | hy2
          · exact g2 y hy2 hyt hyb
          · have : y = ⟨K.next, K.th.length, 1, 0, 1⟩ := by simpa using hy2
            subst this
            simp at hyt
            omega
        · have : y = ⟨K.next + 1, K.th.length, 2, 0, 1⟩ := by simpa using hy1
          subst this
          simp at hyt
          omega
      · have : x = ⟨K.next, K.th.length, 1, 0, 1⟩ := by simpa using hx2
        subst this
        exact absurd (show bit 1 2 = true from hb) (by decide)
    · have : x = ⟨K.next + 1, K.th.length, 2, 0, 1⟩ := by simpa using hx1
      subst this
      have hw1 : wt = 1 := by
        have e : ((((K.th ++ [⟨ByteArray.empty, .pipe [] 1 1⟩])[K.th.length]?.map Th.ob).getD (.file []))).wts = some wt := hwt
        simp [Ob.wts] at e
        exact e.symm
      refine ⟨by omega, fun y hy hyt hyb => ?_⟩
      have hy0 : y ∈ (K.de ++ [⟨K.next, K.th.length, 1, 0, 1⟩]) ++ [⟨K.next + 1, K.th.length, 2, 0, 1⟩] := hy
      rcases List.mem_append.1 hy0 with hy1 | hy1
      · rcases List.mem_append.1 hy1 with hy2 | hy2
        · have := hk.th y hy2
          have e : y.th = K.th.length := hyt
          omega
        · have : y = ⟨K.next, K.th.length, 1, 0, 1⟩ := by simpa using hy2
          subst this
          exact absurd (show bit 1 2 = true from hyb) (by decide)
      · have : y = ⟨K.next + 1, K.th.length, 2, 0, 1⟩ := by simpa using hy1
        subst this
        rfl
theorem pinv_does {K : KS} (h : PInv K) (hk : KOk K) (hn : KNm K) (x : KSt) : PInv (K.does x) := by
  unfold KS.does
  split
  · exact pinv_open h hk hn _ _
  split
  · exact pinv_pipe h hk
  split
  · exact pinv_read h _ _
  split
  · exact pinv_write h _ _
  split
  · exact pinv_seek h _ _ _
  split
  · exact pinv_keep h _
  · exact pinv_drop h _
/-- Both ways to say whether a write would wait are one. -/
theorem pinv_can {K : KS} (h : PInv K) (d n : Int) : K.canWriteP d n = K.canWrite d n := by
  unfold KS.canWriteP KS.canWrite
  cases hx : K.find d with
  | none => rfl
  | some x =>
    simp only
    show (bit x.flags 2 && _) = (bit x.flags 2 && _)
    cases hb : bit x.flags 2 with
    | false => rfl
    | true =>
      simp only [Bool.true_and]
      cases hi : inN n with
      | false => rfl
      | true =>
        simp only [Bool.true_and]
        cases ho : K.tho x with
        | file b => simp only [refusal]; split <;> rfl
        | term ls scr => simp only [refusal]; split <;> rfl
        | pipe q rd wt =>
          obtain ⟨g1, -⟩ := h x (KS.find_some hx).1 hb wt (by show (K.obOf x.th).wts = some wt; rw [show K.obOf x.th = K.tho x from rfl, ho]; rfl)
          simp only [refusal]
          by_cases hr : rd = 0
          · rw [if_pos hr]
            unfold canW
            rw [hi, hr, decide_eq_true (show 0 < wt from g1)]
            rfl
          · rw [if_neg hr]
            cases hc : canW n q.length rd wt with
            | true => rfl
            | false => rfl
theorem pinv_new (fs : List Nm) (ts : List Tp) (l : List Fault) (h : (KS.new fs ts l).de = []) : PInv (KS.new fs ts l) := by
  intro x hx
  rw [h] at hx
  cases hx
theorem new_de (fs : List Nm) (ts : List Tp) (l : List Fault) : (KS.new fs ts l).de = [] := by
  unfold KS.new
  have h1 : ∀ (ts : List Tp) (K : KS), (ts.foldl (fun K t => K.addTh ⟨t.1, .term t.2 []⟩) K).de = K.de := fun ts => by
    induction ts with
    | nil => intro K; rfl
    | cons t r ih => intro K; rw [List.foldl_cons, ih]; rfl
  have h2 : ∀ (fs : List Nm) (K : KS), (fs.foldl (fun K f => K.addTh ⟨f.1, .file f.2⟩) K).de = K.de := fun fs => by
    induction fs with
    | nil => intro K; rfl
    | cons t r ih => intro K; rw [List.foldl_cons, ih]; rfl
  rw [h1, h2]
  rfl
/-- The next number never falls. -/
theorem next_does (K : KS) (x : KSt) : K.next ≤ (K.does x).next := by
  unfold KS.does
  split
  · unfold KS.open
    split
    · exact Nat.le_refl _
    split
    · exact Nat.le_refl _
    split
    · exact Nat.le_refl _
    cases hq : K.byName x.name with
    | some i =>
      simp only
      split
      · show K.next ≤ (K.cut i x.a).next + 1
        rw [(cut_same K i x.a).1]
        omega
      · exact Nat.le_refl _
    | none =>
      simp only
      split
      · exact Nat.le_refl _
      split
      · exact Nat.le_refl _
      · show K.next ≤ K.next + 1
        omega
  split
  · unfold KS.pipe
    split
    · exact Nat.le_refl _
    · show K.next ≤ K.next + 1 + 1
      omega
  split
  · unfold KS.read
    cases hx : K.find x.a with
    | none => exact Nat.le_refl _
    | some y =>
      simp only
      split
      · exact Nat.le_refl _
      split
      · exact Nat.le_refl _
      split
      · exact Nat.le_refl _
      split
      · exact Nat.le_refl _
      split
      · cases ho : K.tho y <;> exact Nat.le_refl _
      · exact Nat.le_refl _
  split
  · unfold KS.write
    cases hx : K.find x.a with
    | none => exact Nat.le_refl _
    | some y =>
      simp only
      split
      · exact Nat.le_refl _
      split
      · exact Nat.le_refl _
      split
      · exact Nat.le_refl _
      split
      · split
        · cases ho : K.tho y <;> exact Nat.le_refl _
        · exact Nat.le_refl _
      · exact Nat.le_refl _
  split
  · unfold KS.seek
    cases hx : K.find x.a with
    | none => exact Nat.le_refl _
    | some y =>
      simp only
      cases ho : K.tho y with
      | file b =>
        simp only
        generalize (if x.c = 1 then (y.pos : Int) else if x.c = 2 then (b.length : Int) else 0) = z
        split
        · exact Nat.le_refl _
        split
        · exact Nat.le_refl _
        · exact Nat.le_refl _
      | term ls scr => exact Nat.le_refl _
      | pipe q rd wt => exact Nat.le_refl _
  split
  · unfold KS.keepK
    cases hx : K.find x.a with
    | none => exact Nat.le_refl _
    | some y => simp only; split <;> exact Nat.le_refl _
  · unfold KS.dropK
    cases hx : K.find x.a with
    | none => exact Nat.le_refl _
    | some y =>
      simp only
      split
      · exact Nat.le_refl _
      · cases ho : K.tho y <;> exact Nat.le_refl _
end Go.Proofs.YtkkicbhmcjbmbaaGreat

/- KernPlays: are both kernels alike? -/
namespace Go.Proofs.YtkkicbhmcjbmbaaGreat
open Go.RowKit Go.Maps

theorem RAt.cells {w : World} {O : Nat → Prop} {kb : Nat} {K : KS} (h : RAt w O kb K) : ∃ pb pv, w.cell? ⟨kb, 2, none⟩ = some (.int .i64 K.next) ∧ w.cell? ⟨kb, 3, none⟩ = some (.pointer (some ⟨pb, 0, none⟩)) ∧ w.cell? ⟨kb, 4, none⟩ = some (.int .i64 K.reads) ∧ w.cell? ⟨kb, 5, none⟩ = some (.int .i64 K.writes) ∧ w.cell? ⟨pb, 0, none⟩ = some pv ∧ Flts w pv K.plan := by
  obtain ⟨B, ρ, I, h1, rfl, h3⟩ := h
  have hb := (h1.comp .kern).1
  have hp := (h1.comp .plan).1
  exact ⟨I.pb, I.pv, by rw [cell_of_row w I.kb 2 _ _ _ hb]; rfl, by rw [cell_of_row w I.kb 3 _ _ _ hb]; rfl, by rw [cell_of_row w I.kb 4 _ _ _ hb]; rfl, by rw [cell_of_row w I.kb 5 _ _ _ hb]; rfl, hp.left, hp.list⟩
theorem RAt.files {w : World} {O : Nat → Prop} {kb : Nat} {K : KS} (h : RAt w O kb K) :
    Calls Tryz.prog 67 #[.pointer (some ⟨kb, 0, none⟩)] w fun e w' => ∃ v us, e = .returned v ∧ w'.ownsRow w.heap.size 93 2 v K.files.length (ncs K.files us) ∧ LCells w' w.heap.size (K.files.map Prod.snd) us ∧ Below w.heap.size w w' := by
  obtain ⟨B, ρ, I, h1, rfl, h3⟩ := h
  exact rkfiles_any B ρ I K w h1
theorem RAt.screens {w : World} {O : Nat → Prop} {kb : Nat} {K : KS} (h : RAt w O kb K) :
    Calls Tryz.prog 70 #[.pointer (some ⟨kb, 0, none⟩)] w fun e w' => ∃ v us, e = .returned v ∧ w'.ownsRow w.heap.size 93 2 v K.screens.length (ncs K.screens us) ∧ LCells w' w.heap.size (K.screens.map Prod.snd) us ∧ Below w.heap.size w w' := by
  obtain ⟨B, ρ, I, h1, rfl, h3⟩ := h
  exact rkscreens_any B ρ I K w h1
theorem RAt.kinds {w : World} {O : Nat → Prop} {kb : Nat} {K : KS} (h : RAt w O kb K) (d : Int) :
    Calls Tryz.prog 73 #[.pointer (some ⟨kb, 0, none⟩), .int .i64 d] w fun e w' => e = .returned (.int .i64 (K.kindOf d)) ∧ w' = w := by
  obtain ⟨B, ρ, I, h1, rfl, h3⟩ := h
  exact rkind_any B ρ I K d w h1
theorem RAt.canRead {w : World} {O : Nat → Prop} {kb : Nat} {K : KS} (h : RAt w O kb K) (d : Int) :
    Calls Tryz.prog 75 #[.pointer (some ⟨kb, 0, none⟩), .int .i64 d] w fun e w' => e = .returned (.bool (K.canRead d)) ∧ w' = w := by
  obtain ⟨B, ρ, I, h1, rfl, h3⟩ := h
  exact rkcanRead_any B ρ I K d w h1
theorem RAt.canWrite {w : World} {O : Nat → Prop} {kb : Nat} {K : KS} (h : RAt w O kb K) (d n : Int) :
    Calls Tryz.prog 77 #[.pointer (some ⟨kb, 0, none⟩), .int .i64 d, .int .i64 n] w fun e w' => e = .returned (.bool (K.canWrite d n)) ∧ w' = w := by
  obtain ⟨B, ρ, I, h1, rfl, h3⟩ := h
  exact rkcanWrite_any B ρ I K d n w h1
theorem RAt.held {w : World} {O : Nat → Prop} {kb : Nat} {K : KS} (h : RAt w O kb K) (d : Int) :
    Calls Tryz.prog 79 #[.pointer (some ⟨kb, 0, none⟩), .int .i64 d] w fun e w' => ∃ a c, e = .returned (.slice a (K.heldOf d).length c) ∧ Bys w (.slice a (K.heldOf d).length c) (K.heldOf d) ∧ w' = w := by
  obtain ⟨B, ρ, I, h1, rfl, h3⟩ := h
  exact rkheld_any B ρ I K d w h1
theorem screens_ok {w : World} {O P : Nat → Prop} {kb mb : Nat} {K : KS} (h : KAt w O kb K) (h2 : RAt w P mb K) : K.screens.length ≤ 256 ∧ ∀ j (hj : j < K.screens.length), ∃ i ∈ K.nm, K.nameOf i = K.screens[j].1 ∧ (∃ ls, K.obOf i = .term ls K.screens[j].2) ∧ K.screens[j].1.size ≤ maxLen ∧ K.screens[j].2.length ≤ 1048576 := by
  have hok := h.ok
  refine ⟨?_, fun j hj => ?_⟩
  · have h1 : K.screens.length ≤ K.nm.length := by
      unfold KS.screens KS.tidx
      rw [List.length_map]
      exact List.length_filter_le _ _
    have := hok.1.named
    omega
  · have hm : K.screens[j] ∈ K.screens := List.getElem_mem hj
    obtain ⟨i, hi, he⟩ := List.mem_map.1 hm
    obtain ⟨hi1, hi2⟩ := List.mem_filter.1 hi
    refine ⟨i, hi1, by rw [← he], ?_, ?_, ?_⟩
    · cases ho : K.obOf i with
      | file b => rw [ho] at hi2; simp [Ob.kind] at hi2
      | term ls scr => exact ⟨ls, by rw [← he]; simp only [ho]; rfl⟩
      | pipe q rd wt => rw [ho] at hi2; simp [Ob.kind] at hi2
    · rw [← he]
      have := name_few (hok.2.ok i hi1)
      show (K.nameOf i).size ≤ maxLen
      unfold maxLen
      omega
    · obtain ⟨_, ρ, I, h1, -, -⟩ := h2
      have hlt := hok.1.nm i hi1
      have ht := (h1.comp (.obj i) hlt).2
      rw [← KS.obOf_eq hlt] at ht
      rw [← he]
      show (K.obOf i).shown.length ≤ 1048576
      cases ho : K.obOf i with
      | file b => simp [Ob.shown]
      | term ls scr => rw [ho] at ht; exact ht.2.2
      | pipe q rd wt => simp [Ob.shown]
theorem held_few {w : World} {P : Nat → Prop} {mb : Nat} {K : KS} (h : RAt w P mb K) (d : Int) : (K.heldOf d).length ≤ 4096 := by
  obtain ⟨_, ρ, I, h1, -, -⟩ := h
  unfold KS.heldOf
  cases hx : K.find d with
  | none => simp
  | some x =>
    simp only
    have hlt := h1.ok.th x (KS.find_some hx).1
    have ht := (h1.comp (.obj x.th) hlt).2
    rw [← KS.tho_eq hlt] at ht
    cases ho : K.tho x with
    | file b => simp
    | term ls scr => simp
    | pipe q rd wt => rw [ho] at ht; exact ht.1
/-- The cells of the reference's kernel. -/
def MCells (W : World) (mb pb : Nat) (K : KS) (pa : Option Addr) (pn pc : Nat) : Prop := W.cell? ⟨mb, 2, none⟩ = some (.int .i64 K.next) ∧ W.cell? ⟨mb, 3, none⟩ = some (.pointer (some ⟨pb, 0, none⟩)) ∧ W.cell? ⟨mb, 4, none⟩ = some (.int .i64 K.reads) ∧ W.cell? ⟨mb, 5, none⟩ = some (.int .i64 K.writes) ∧ W.cell? ⟨pb, 0, none⟩ = some (.slice pa pn pc)
set_option maxRecDepth 100000 in
set_option maxHeartbeats 4000000 in
theorem same_kern (B kb mb : Nat) (K : KS) (w : World) (hD : Duo w B kb mb K K) (hP : PInv K) (hk : KSmall K) :
    Calls Tryz.prog 13 #[.pointer (some ⟨kb, 0, none⟩), .pointer (some ⟨mb, 0, none⟩)] w fun e w' => e = .returned (.bool true) ∧ Below w.heap.size w w' := by
  obtain ⟨O, P, hK, hM, hO, hPj⟩ := hD
  obtain ⟨pb, pv, m2, m3, m4, m5, mp, hF⟩ := hM.cells
  obtain ⟨pa, pc, hpv, -⟩ := flts_form hF
  subst hpv
  have hmb : mb < w.heap.size := World.block_lt_of_cell? w _ m2
  have hpb : pb < w.heap.size := World.block_lt_of_cell? w _ mp
  have HMC : Hid (∀ w', Below w.heap.size w w' → MCells w' mb pb K pa K.plan.length pc) := fun w' hb => ⟨(hb.cell (p := ⟨mb, 2, none⟩) hmb).trans m2, (hb.cell (p := ⟨mb, 3, none⟩) hmb).trans m3, (hb.cell (p := ⟨mb, 4, none⟩) hmb).trans m4, (hb.cell (p := ⟨mb, 5, none⟩) hmb).trans m5, (hb.cell (p := ⟨pb, 0, none⟩) hpb).trans mp⟩
  have HK := hide hK
  have HM := hide hM
  have HF := hide hF
  have HPI := hide hP
  have HKs := hide hk
  have HFo := hide (hK.files_ok)
  have HSo := hide (screens_ok hK hM)
  have HPl := hide (hK.ok.1.plan)
  have H1 := hide hK.calls
  clear m2 m3 m4 m5 mp hF hK hM hP hk hmb hpb
  go_enter Tryz.func13, Tryz.ntmps13
  go_wp2_with fail
  refine H1.out.mono ?_
  rintro e w1 ⟨rfl, hB1⟩
  have HB1 := hide hB1
  obtain ⟨m2, m3, m4, m5, mp⟩ := HMC.out w1 hB1
  clear hB1 H1
  go_wp2_with fail
  go_region_held3 (fun w' => w'.cell? ⟨mb, 2, none⟩ = some (.int .i64 K.next) ∧ w'.cell? ⟨mb, 3, none⟩ = some (.pointer (some ⟨pb, 0, none⟩)) ∧ w'.cell? ⟨mb, 4, none⟩ = some (.int .i64 K.reads) ∧ w'.cell? ⟨mb, 5, none⟩ = some (.int .i64 K.writes) ∧ w'.cell? ⟨pb, 0, none⟩ = some (.slice pa K.plan.length pc))
    (first | exact HMC.out _ hbU | exact HMC.out _ hbR | exact HMC.out _ hbN | exact HMC.out _ hbG | exact HMC.out _ hbF | exact HMC.out _ HB1.out.drew | go_keep)
    (first
      | (go_at_call 66; refine ((HK.out.below HB1.out.drew).files).mono ?_; rintro e wF ⟨vF, usF, rfl, hOF, hLF, hBF⟩; have hbF : Below w.heap.size w wF := HB1.out.drew.trans (hBF.mono HB1.out.size); have hNF := nms_of_owns hOF hLF (fun j hj => (HFo.out.2 j hj).2); obtain ⟨aF, cF, rfl⟩ := owns_slice hOF)
      | (go_at_call 67; refine ((HM.out.below hbF).files).mono ?_; rintro e wG ⟨vG, usG, rfl, hOG, hLG, hBG⟩; have hbG : Below w.heap.size w wG := hbF.trans (hBG.mono hbF.size); have hNG := nms_of_owns hOG hLG (fun j hj => (HFo.out.2 j hj).2); obtain ⟨aG, cG, rfl⟩ := owns_slice hOG)
      | (go_at_call 65; refine (sameNamed_any _ _ K.files wG (hNF.below hBG) hNG (by have := HFo.out.1; unfold maxLen; omega) (fun j hj => by have := (HFo.out.2 j hj).1; unfold maxLen; omega)).mono ?_; rintro e wN ⟨rfl, hBN⟩; have hbN : Below w.heap.size w wN := hbG.trans (hBN.mono hbG.size))
      | (go_at_call 69; refine ((HK.out.below hbN).rest).mono ?_; rintro e wR ⟨vR, rfl, hOR, hBR⟩; have hbR : Below w.heap.size w wR := hbN.trans (hBR.mono hbN.size); have hFR := Flts.of_owns hOR; obtain ⟨aR, cR, rfl⟩ := owns_slice hOR)
      | (go_at_call 68; refine (samef_any _ _ K.plan wR hFR (HF.out.below hbR) (by have := HPl.out.1; unfold maxLen; omega)).mono ?_; rintro e wU ⟨rfl, hBU⟩; have hbU : Below w.heap.size w wU := hbR.trans (hBU.mono hbR.size))
      | fail)
  have HbU := hide hbU
  have HSc := hide ((HM.out.below hbU).screens)
  clear hOF hLF hBF hbF hNF hOG hLG hBG hbG hNG hBN hbN hOR hBR hbR hFR hBU hbU
  go_wp2_with fail
  refine HSc.out.mono ?_
  rintro e wS ⟨vS, us, rfl, hOS, hLS, hBS⟩
  have HbS := hide (HbU.out.trans (hBS.mono HbU.out.size))
  obtain ⟨aS, cS, rfl⟩ := owns_slice hOS
  have HOS := hide hOS
  have HLS := hide hLS
  clear hOS hLS hBS HSc
  have hsl := HSo.out.1
  have HNS := hide (nms_of_owns HOS.out HLS.out (fun j hj => by obtain ⟨_, _, _, _, h, _⟩ := HSo.out.2 j hj; exact h))
  clear HOS HLS
  go_wp2
  go_loopg [8] K.screens.length (fun g s8 wx => ∃ i : Nat, i + g = K.screens.length ∧ s8 = .int .i64 i ∧ Hid (Below wS.heap.size wS wx))
  case atStart => exact ⟨0, by omega, rfl, Below.refl _ _⟩
  case round =>
    obtain ⟨i, hig, rfl, HBx⟩ := hrel
    have HBw := hide (HbS.out.trans (HBx.out.mono HbS.out.size))
    by_cases hlt : i < K.screens.length
    · obtain ⟨g, rfl⟩ : ∃ g, gk = g + 1 := ⟨gk - 1, by omega⟩
      have hl1 : (i : Int) < (K.screens.length : Int) := by omega
      have hl0 : (0 : Int) ≤ (i : Int) := by omega
      obtain ⟨b, off, va, vc, rfl, hbl, q0, q1, hby, hcap, hnz⟩ := (HNS.out.below HBx.out).at i hlt
      obtain ⟨ix, hix, hnx, ⟨ls, hox⟩, hsz, hfw⟩ := HSo.out.2 i hlt
      have HSn := hide ((HK.out.below HBw.out).screen K.screens[i].1 hsz ix hix hnx ls K.screens[i].2 hox)
      have HY := hide hby
      have hcb := World.block_lt_of_cell? wr _ q1
      have HQ1 := hide q1
      clear hby hcap hnz hix hnx hox
      generalize K.screens[i] = y at *
      obtain ⟨yn, yd⟩ := y
      simp only at *
      go_wp2_with fail
      refine HSn.out.mono ?_
      rintro e wT ⟨vT, rfl, hOT, hBT⟩
      have c1 := (hBT.cell (p := ⟨b, off + i * 2 + 1, none⟩) hcb).trans HQ1.out
      have HSm := hide (same_any _ _ yd wT (Bys.of_owns hOT) (HY.out.below hBT) (by unfold maxLen; omega))
      obtain ⟨aT, cT, rfl⟩ := owns_slice hOT
      have HBT := hide (HBx.out.trans (hBT.mono HBx.out.size))
      clear hOT hBT q0 q1
      go_wp2_with (first | (go_at_call 38; refine HSm.out.mono ?_; rintro _ wV ⟨rfl, hBV⟩) | fail)
      go_roundg g
      case measure => omega
      case rel => exact ⟨i + 1, by omega, by go_num, HBT.out.trans (hBV.mono HBT.out.size)⟩
    · have hl1 : ¬ (i : Int) < (K.screens.length : Int) := by omega
      clear HBx HbS HbU HB1 m2 m3 m4 m5 mp
      obtain ⟨m2, m3, m4, m5, mp⟩ := HMC.out wr HBw.out
      have hkn := HKs.out.2.1
      go_wp2
      go_loopg [11] (K.next + 1) (fun g s11 wx => ∃ d : Nat, d + g = K.next + 1 ∧ s11 = .int .i64 d ∧ Hid (Below w.heap.size w wx))
      case atStart => exact ⟨0, by omega, rfl, HBw⟩
      case round =>
        obtain ⟨d, hdg, rfl, HBx⟩ := hrel
        clear m2 m3 m4 m5 mp HBw
        obtain ⟨m2, m3, m4, m5, mp⟩ := HMC.out _ HBx.out
        clear m3 m4 m5 mp
        have hw1 : wrap64 ((K.next : Int) + 1) = (K.next : Int) + 1 := by unfold wrap64; omega
        by_cases hlt2 : d < K.next + 1
        · obtain ⟨g, rfl⟩ : ∃ g, gk = g + 1 := ⟨gk - 1, by omega⟩
          have hl3 : (d : Int) < (K.next : Int) + 1 := by omega
          have hd64 : I64 (d : Int) := ⟨by omega, by omega⟩
          have hK0 := HK.out.below HBx.out
          have hM0 := HM.out.below HBx.out
          have hfew := held_few hM0 (d : Int)
          have HK0 := hide hK0
          have HM0 := hide hM0
          have Hd := hide hd64
          clear hK0 hM0 hd64
          generalize hkd : K.kindOf (d : Int) = kd at *
          generalize hcr : K.canRead (d : Int) = cr at *
          generalize hcw : K.canWrite (d : Int) 600 = cw at *
          generalize hhl : K.heldOf (d : Int) = hl at *
          have HD := hide (And.intro hkd (And.intro hcr (And.intro hcw hhl)))
          clear hkd hcr hcw hhl
          go_wp2_with (first
            | (go_at_call 72; have hq := HK0.out.kinds (d : Int) Hd.out; rw [HD.out.1] at hq; refine hq.mono ?_; clear hq; rintro e wA ⟨rfl, hBA⟩; have HBA := hide hBA; clear hBA)
            | (go_at_call 73; have hq := (HM0.out.below HBA.out).kinds (d : Int); rw [HD.out.1] at hq; refine hq.mono ?_; clear hq; rintro _ _ ⟨rfl, rfl⟩)
            | (go_at_call 74; have hq := (HK0.out.below HBA.out).canRead (d : Int) Hd.out; rw [HD.out.2.1] at hq; refine hq.mono ?_; clear hq; rintro e wC ⟨rfl, hBC⟩; have HBC := hide (HBA.out.trans (hBC.mono HBA.out.size)); clear hBC)
            | (go_at_call 75; have hq := (HM0.out.below HBC.out).canRead (d : Int); rw [HD.out.2.1] at hq; refine hq.mono ?_; clear hq; rintro _ _ ⟨rfl, rfl⟩)
            | (go_at_call 76; have hq := (HK0.out.below HBC.out).canWrite (d : Int) 600 Hd.out; rw [pinv_can HPI.out, HD.out.2.2.1] at hq; refine hq.mono ?_; clear hq; rintro e wD ⟨rfl, hBD⟩; have HBD := hide (HBC.out.trans (hBD.mono HBC.out.size)); clear hBD)
            | (go_at_call 77; have hq := (HM0.out.below HBD.out).canWrite (d : Int) 600; rw [HD.out.2.2.1] at hq; refine hq.mono ?_; clear hq; rintro _ _ ⟨rfl, rfl⟩)
            | (go_at_call 78; have hq := (HK0.out.below HBD.out).held (d : Int) Hd.out; rw [HD.out.2.2.2] at hq; refine hq.mono ?_; clear hq; rintro e wE ⟨vE, rfl, hOE, hBE⟩; have HBE := hide (HBD.out.trans (hBE.mono HBD.out.size)); have HYE := hide (Bys.of_owns hOE); obtain ⟨aE, cE, rfl⟩ := owns_slice hOE; clear hBE hOE)
            | (go_at_call 79; have hq := (HM0.out.below HBE.out).held (d : Int); rw [HD.out.2.2.2] at hq; refine hq.mono ?_; clear hq; rintro e _ ⟨aG, cG, rfl, hYG, rfl⟩; have HYG := hide hYG; clear hYG)
            | (go_at_call 38; refine (same_any _ _ hl _ HYE.out HYG.out (by unfold maxLen; omega)).mono ?_; rintro e wH ⟨rfl, hBH⟩; have HBH := hide (HBE.out.trans (hBH.mono HBE.out.size)); clear hBH)
            | fail)
          go_roundg g
          case measure => omega
          case rel => exact ⟨d + 1, by omega, by go_num, HBx.out.trans (HBH.out.mono HBx.out.size)⟩
        · have hl3 : ¬ (d : Int) < (K.next : Int) + 1 := by omega
          go_wp2
          go_ret
          exact ⟨rfl, HBx.out⟩
end Go.Proofs.YtkkicbhmcjbmbaaGreat

/- Raws, as values and in memory; retry's small functions. -/
namespace Go.Proofs.YtkkicbhmcjbmbaaGreat
open Go.RowKit Go.Maps

/-- A Raw as a value: what its calls answer, and its state behind them. -/
structure RawD (S : Type) where
  read : S → Nat → List UInt8 × Int × S
  write : S → List UInt8 → Int × Int × S
/-- A Raw in memory: what lies behind the interface, the functions that its calls go to, and where its state is. -/
structure RawM {S : Type} (D : RawD S) (T : TypeId) (v : Value) (fr fw : FuncId) (rok wok : S → Prop) (At : World → (Nat → Prop) → S → Prop) : Prop where
  mread : ∀ w, (method 422 T v "Read").run Tryz.prog w = .ok (fr, v) w
  mwrite : ∀ w, (method 422 T v "Write").run Tryz.prog w = .ok (fw, v) w
  cread : ∀ a w, (callFunc fr a).run Tryz.prog w = .ok (.enter fr a) w
  cwrite : ∀ a w, (callFunc fw a).run Tryz.prog w = .ok (.enter fw a) w
  keep : ∀ {w w' : World} {O : Nat → Prop} {s : S}, At w O s → (∀ j, O j → j < w.heap.size → w'.heap[j]? = w.heap[j]?) → w.heap.size ≤ w'.heap.size → At w' O s
  few : ∀ {w : World} {O : Nat → Prop} {s : S} (n : Nat), At w O s → (D.read s n).1.length ≤ 1073741824
  read : ∀ {w : World} {O : Nat → Prop} {s : S} (n : Nat), At w O s → rok s → 1 ≤ n → n ≤ 1048576 → Calls Tryz.prog fr #[v, .int .i64 n] w fun e w' => ∃ u, e = .returned (.tuple #[u, .int .i64 (D.read s n).2.1]) ∧ w'.ownsRow w.heap.size 5 1 u (D.read s n).1.length ((D.read s n).1.map bv) ∧ At w' O (D.read s n).2.2 ∧ Turned O w w'
  write : ∀ {w : World} {O : Nat → Prop} {s : S} (bs : List UInt8) (a : Option Addr) (c : Nat), At w O s → wok s → Bys w (.slice a bs.length c) bs → bs.length ≤ c → 1 ≤ bs.length → bs.length ≤ 1048576 → (∀ k, (Value.slice a bs.length c).ownBlock = some k → ¬ O k) →
    Calls Tryz.prog fw #[v, .slice a bs.length c] w fun e w' => e = .returned (.tuple #[.int .i64 (D.write s bs).1, .int .i64 (D.write s bs).2.1]) ∧ ∃ O', At w' O' (D.write s bs).2.2 ∧ (∀ k, O' k → O k ∨ w.heap.size ≤ k) ∧ Turned O w w'
/-- What a call leaves of a Raw. -/
def RStep {S : Type} (At : World → (Nat → Prop) → S → Prop) (w : World) (O : Nat → Prop) (s : S) (w' : World) : Prop := ∃ O', At w' O' s ∧ (∀ k, O' k → O k ∨ w.heap.size ≤ k) ∧ Turned O w w'
/-- Some, as a value: so many tries are left. -/
def someV {S : Type} (D : RawD S) (n : Nat) : Nat → S → List UInt8 × Int × S
  | 0, s => ([], 81, s)
  | k + 1, s => if (D.read s n).2.1 = 22 ∨ (D.read s n).2.1 = 23 then someV D n k (D.read s n).2.2
      else if n < (D.read s n).1.length then ([], 82, (D.read s n).2.2)
      else if (D.read s n).2.1 = 0 then ((D.read s n).1, 0, (D.read s n).2.2)
      else ([], (D.read s n).2.1, (D.read s n).2.2)
theorem someV_next {S : Type} (D : RawD S) (n k : Nat) (s : S) {b : List UInt8} {e : Int} {s2 : S} (h : D.read s n = (b, e, s2)) : someV D n (k + 1) s = if e = 22 ∨ e = 23 then someV D n k s2 else if n < b.length then ([], 82, s2) else if e = 0 then (b, 0, s2) else ([], e, s2) := by
  show (if (D.read s n).2.1 = 22 ∨ (D.read s n).2.1 = 23 then someV D n k (D.read s n).2.2 else if n < (D.read s n).1.length then ([], 82, (D.read s n).2.2) else if (D.read s n).2.1 = 0 then ((D.read s n).1, 0, (D.read s n).2.2) else ([], (D.read s n).2.1, (D.read s n).2.2)) = _
  rw [h]
def someOk {S : Type} (D : RawD S) (ok : S → Prop) (n : Nat) : Nat → S → Prop
  | 0, _ => True
  | k + 1, s => ok s ∧ ((D.read s n).2.1 = 22 ∨ (D.read s n).2.1 = 23 → someOk D ok n k (D.read s n).2.2)
/-- All, as a value. -/
def allV {S : Type} (D : RawD S) (n : Nat) : Nat → S → List UInt8 → List UInt8 × Int × S
  | 0, s, l => (l, 0, s)
  | k + 1, s, l => if l.length < n then
      (if (someV D (n - l.length) 8192 s).2.1 = 0 ∧ (someV D (n - l.length) 8192 s).1 ≠ [] then allV D n k (someV D (n - l.length) 8192 s).2.2 (l ++ (someV D (n - l.length) 8192 s).1)
       else (l, (someV D (n - l.length) 8192 s).2.1, (someV D (n - l.length) 8192 s).2.2))
      else (l, 0, s)
def allOk {S : Type} (D : RawD S) (ok : S → Prop) (n : Nat) : Nat → S → List UInt8 → Prop
  | 0, _, _ => True
  | k + 1, s, l => l.length < n → someOk D ok (n - l.length) 8192 s ∧
      ((someV D (n - l.length) 8192 s).2.1 = 0 ∧ (someV D (n - l.length) 8192 s).1 ≠ [] → allOk D ok n k (someV D (n - l.length) 8192 s).2.2 (l ++ (someV D (n - l.length) 8192 s).1))
/-- Put, as a value: so many bytes are taken, so many tries were made. -/
def putV {S : Type} (D : RawD S) (bs : List UInt8) : Nat → S → Nat → Nat → Nat × Int × S
  | 0, s, d, _ => (d, 0, s)
  | k + 1, s, d, t => if d < bs.length then
      (if ((D.write s (bs.drop d)).2.1 = 22 ∨ (D.write s (bs.drop d)).2.1 = 23) ∨ ((D.write s (bs.drop d)).1 = 0 ∧ (D.write s (bs.drop d)).2.1 = 0) then
        (if t + 1 = 8192 then (d, 81, (D.write s (bs.drop d)).2.2) else putV D bs k (D.write s (bs.drop d)).2.2 d (t + 1))
       else if (D.write s (bs.drop d)).1 < 0 ∨ ((bs.length - d : Nat) : Int) < (D.write s (bs.drop d)).1 then (d, 82, (D.write s (bs.drop d)).2.2)
       else if (D.write s (bs.drop d)).2.1 = 0 then putV D bs k (D.write s (bs.drop d)).2.2 (d + (D.write s (bs.drop d)).1.toNat) 0
       else (d, (D.write s (bs.drop d)).2.1, (D.write s (bs.drop d)).2.2))
      else (d, 0, s)
def putOk {S : Type} (D : RawD S) (ok : S → Prop) (bs : List UInt8) : Nat → S → Nat → Nat → Prop
  | 0, _, _, _ => True
  | k + 1, s, d, t => d < bs.length → ok s ∧
      (((D.write s (bs.drop d)).2.1 = 22 ∨ (D.write s (bs.drop d)).2.1 = 23) ∨ ((D.write s (bs.drop d)).1 = 0 ∧ (D.write s (bs.drop d)).2.1 = 0) → t + 1 ≠ 8192 → putOk D ok bs k (D.write s (bs.drop d)).2.2 d (t + 1)) ∧
      ((D.write s (bs.drop d)).2.1 = 0 → 1 ≤ (D.write s (bs.drop d)).1 → (D.write s (bs.drop d)).1 ≤ ((bs.length - d : Nat) : Int) → putOk D ok bs k (D.write s (bs.drop d)).2.2 (d + (D.write s (bs.drop d)).1.toNat) 0)
theorem allV_next {S : Type} (D : RawD S) (n k : Nat) (s : S) (l : List UInt8) {b : List UInt8} {e : Int} {s2 : S} (h : someV D (n - l.length) 8192 s = (b, e, s2)) : allV D n (k + 1) s l = if l.length < n then (if e = 0 ∧ b ≠ [] then allV D n k s2 (l ++ b) else (l, e, s2)) else (l, 0, s) := by
  show (if l.length < n then (if (someV D (n - l.length) 8192 s).2.1 = 0 ∧ (someV D (n - l.length) 8192 s).1 ≠ [] then allV D n k (someV D (n - l.length) 8192 s).2.2 (l ++ (someV D (n - l.length) 8192 s).1) else (l, (someV D (n - l.length) 8192 s).2.1, (someV D (n - l.length) 8192 s).2.2)) else (l, 0, s)) = _
  rw [h]
theorem allV_done {S : Type} (D : RawD S) (n k : Nat) (s : S) (l : List UInt8) (h : ¬ l.length < n) : allV D n k s l = (l, 0, s) := by
  cases k with
  | zero => rfl
  | succ k => unfold allV; rw [if_neg h]
theorem someV_len {S : Type} (D : RawD S) (n : Nat) : ∀ k s, (someV D n k s).1.length ≤ n
  | 0, _ => Nat.zero_le _
  | k + 1, s => by
    rw [someV_next D n k s (b := (D.read s n).1) (e := (D.read s n).2.1) (s2 := (D.read s n).2.2) rfl]
    split
    · exact someV_len D n k _
    · split
      · exact Nat.zero_le _
      · split
        · show (D.read s n).1.length ≤ n; omega
        · exact Nat.zero_le _
theorem putV_next {S : Type} (D : RawD S) (bs : List UInt8) (k : Nat) (s : S) (d t : Nat) {m e : Int} {s2 : S} (h : D.write s (bs.drop d) = (m, e, s2)) : putV D bs (k + 1) s d t = if d < bs.length then
      (if (e = 22 ∨ e = 23) ∨ (m = 0 ∧ e = 0) then (if t + 1 = 8192 then (d, 81, s2) else putV D bs k s2 d (t + 1))
       else if m < 0 ∨ ((bs.length - d : Nat) : Int) < m then (d, 82, s2)
       else if e = 0 then putV D bs k s2 (d + m.toNat) 0
       else (d, e, s2))
      else (d, 0, s) := by
  show (if d < bs.length then
      (if ((D.write s (bs.drop d)).2.1 = 22 ∨ (D.write s (bs.drop d)).2.1 = 23) ∨ ((D.write s (bs.drop d)).1 = 0 ∧ (D.write s (bs.drop d)).2.1 = 0) then
        (if t + 1 = 8192 then (d, 81, (D.write s (bs.drop d)).2.2) else putV D bs k (D.write s (bs.drop d)).2.2 d (t + 1))
       else if (D.write s (bs.drop d)).1 < 0 ∨ ((bs.length - d : Nat) : Int) < (D.write s (bs.drop d)).1 then (d, 82, (D.write s (bs.drop d)).2.2)
       else if (D.write s (bs.drop d)).2.1 = 0 then putV D bs k (D.write s (bs.drop d)).2.2 (d + (D.write s (bs.drop d)).1.toNat) 0
       else (d, (D.write s (bs.drop d)).2.1, (D.write s (bs.drop d)).2.2))
      else (d, 0, s)) = _
  rw [h]
theorem putV_done {S : Type} (D : RawD S) (bs : List UInt8) (k : Nat) (s : S) (d t : Nat) (h : ¬ d < bs.length) : putV D bs k s d t = (d, 0, s) := by
  cases k with
  | zero => rfl
  | succ k => unfold putV; rw [if_neg h]
theorem putOk_next {S : Type} (D : RawD S) (ok : S → Prop) (bs : List UInt8) (k : Nat) (s : S) (d t : Nat) {m e : Int} {s2 : S} (h : D.write s (bs.drop d) = (m, e, s2)) (hd : d < bs.length) (hp : putOk D ok bs (k + 1) s d t) : ok s ∧ ((e = 22 ∨ e = 23) ∨ (m = 0 ∧ e = 0) → t + 1 ≠ 8192 → putOk D ok bs k s2 d (t + 1)) ∧ (e = 0 → 1 ≤ m → m ≤ ((bs.length - d : Nat) : Int) → putOk D ok bs k s2 (d + m.toNat) 0) := by
  have h2 := hp hd
  rw [h] at h2
  exact h2
/-- How many rounds a Put may take. -/
def putF (bs : List UInt8) : Nat := bs.length * 8192 + 8192
theorem RStep.refl {S : Type} {At : World → (Nat → Prop) → S → Prop} {w : World} {O : Nat → Prop} {s : S} (h : At w O s) : RStep At w O s w := ⟨O, h, fun _ e => .inl e, Turned.of_below (Below.refl _ _)⟩
theorem isTry_yes (e : Int) (w : World) (h : e = 22 ∨ e = 23) : Calls Tryz.prog 120 #[.int .i64 e] w fun r w' => r = .returned (.bool true) ∧ w = w' := by
  rcases h with rfl | rfl
  all_goals
    go_enter Tryz.func120, Tryz.ntmps120
    go_wp2
    go_ret
    exact ⟨rfl, rfl⟩
theorem isTry_no (e : Int) (w : World) (h : ¬ (e = 22 ∨ e = 23)) : Calls Tryz.prog 120 #[.int .i64 e] w fun r w' => r = .returned (.bool false) ∧ w = w' := by
  have h1 : ¬ e = 22 := fun x => h (.inl x)
  have h2 : ¬ e = 23 := fun x => h (.inr x)
  have h3 : (e == 22) = false := by simp [h1]
  have h4 : (e == 23) = false := by simp [h2]
  go_enter Tryz.func120, Tryz.ntmps120
  go_wp2
  go_ret
  exact ⟨rfl, rfl⟩
theorem readable_nil (n : Int) (w : World) : Calls Tryz.prog 119 #[.nilIface, .int .i64 n] w fun r w' => r = .returned (.int .i64 2) ∧ w = w' := by
  go_enter Tryz.func119, Tryz.ntmps119
  go_wp2
  go_ret
  exact ⟨rfl, rfl⟩
theorem readable_yes (T : TypeId) (v : Value) (n : Int) (w : World) (h1 : 1 ≤ n) (h2 : n ≤ 1048576) : Calls Tryz.prog 119 #[.iface T v, .int .i64 n] w fun r w' => r = .returned (.int .i64 0) ∧ w = w' := by
  have h3 : ¬ n < 1 := by omega
  have h4 : ¬ 1048576 < n := by omega
  go_enter Tryz.func119, Tryz.ntmps119
  go_wp2
  go_ret
  exact ⟨rfl, rfl⟩
theorem readable_no (T : TypeId) (v : Value) (n : Int) (w : World) (h : n < 1 ∨ 1048576 < n) : Calls Tryz.prog 119 #[.iface T v, .int .i64 n] w fun r w' => r = .returned (.int .i64 4) ∧ w = w' := by
  by_cases h3 : n < 1
  all_goals
    have h4 : n < 1 ∨ (¬ n < 1 ∧ 1048576 < n) := by omega
    rcases h4 with h4 | ⟨h4, h5⟩
    all_goals first | (exfalso; omega) | skip
    all_goals
      clear h
      go_enter Tryz.func119, Tryz.ntmps119
      go_wp2
      go_ret
      exact ⟨rfl, rfl⟩
set_option maxRecDepth 100000 in
set_option maxHeartbeats 1000000 in
theorem bclone_any (v : Value) (l : List UInt8) (w : World) (h : Bys w v l) (hs : l.length ≤ 140737488351232) :
    Calls Tryz.prog 121 #[v] w fun e w' => ∃ u, e = .returned u ∧ w'.ownsRow w.heap.size 5 1 u l.length (l.map bv) ∧ Below w.heap.size w w' := by
  have hmade : (w.alloc (Obj.cells #[] 5)).ownsRow w.heap.size 5 1 (.slice (some ⟨w.heap.size, 0, none⟩) 0 0) ([] : List UInt8).length (([] : List UInt8).map bv) := World.ownsRow_made _ _ _ (Nat.le_refl _) (by decide) rfl
  have hB := recv_below w (Obj.cells #[] 5)
  obtain ⟨s', w1, hrun, HO, hg, hb⟩ := run_append_bytes (w.alloc (Obj.cells #[] 5)) 40 w.heap.size _ v [] l hmade (h.below hB) (by simpa using hs) hB.size
  have HR := hide hrun
  have HB : Hid (Below w.heap.size w w1) := hide (hB.grown hg hB.size (fun j e => by
    have : w.heap.size = j := by simpa [Value.ownBlock] using e
    omega))
  rcases h with ⟨rfl, rfl⟩ | ⟨a, cap, rfl, rfl⟩ | ⟨b, off, cap, rfl, h0, -⟩
  · have hnil : ∀ W, (binOp .eql 40 (.slice none 0 0) (.slice none 0 0)).run Tryz.prog W = .ok (.bool true) W := fun W => Lib.run_eql_slice_nil_nil W _ _ Tryz.underlying40
    go_enter Tryz.func121, Tryz.ntmps121
    go_wp2
    go_ret
    exact ⟨_, rfl, World.ownsRow_nil _ _ _ _, Below.refl _ _⟩
  · have hnil : ∀ W, (binOp .eql 40 (.slice (some a) 0 cap) (.slice none 0 0)).run Tryz.prog W = .ok (.bool false) W := fun W => Lib.run_eql_slice_some_nil W _ _ _ Tryz.underlying40
    clear hrun hg hb hmade hB
    go_enter Tryz.func121, Tryz.ntmps121
    go_wp2_with (at_builtin; refine Lib.wpList_append_run _ rfl _ _ _ _ rfl _ _ rfl rfl _ _ HR.out ?_)
    go_ret
    exact ⟨_, rfl, HO.out, HB.out⟩
  · have hnil : ∀ W, (binOp .eql 40 (.slice (some ⟨b, off, none⟩) l.length cap) (.slice none 0 0)).run Tryz.prog W = .ok (.bool false) W := fun W => Lib.run_eql_slice_some_nil W _ _ _ Tryz.underlying40
    clear hrun hg hb hmade hB
    go_enter Tryz.func121, Tryz.ntmps121
    go_wp2_with (at_builtin; refine Lib.wpList_append_run _ rfl _ _ _ _ rfl _ _ rfl rfl _ _ HR.out ?_)
    go_ret
    exact ⟨_, rfl, HO.out, HB.out⟩
end Go.Proofs.YtkkicbhmcjbmbaaGreat

/- Some, over any Raw. -/
namespace Go.Proofs.YtkkicbhmcjbmbaaGreat
open Go.RowKit Go.Maps

set_option maxRecDepth 100000 in
set_option maxHeartbeats 4000000 in
theorem some_any {S : Type} {D : RawD S} {T : TypeId} {v : Value} {fr fw : FuncId} {rok wok : S → Prop} {At : World → (Nat → Prop) → S → Prop} (R : RawM D T v fr fw rok wok At) {w : World} {O : Nat → Prop} {s : S} (n : Nat) (h : At w O s) (h1 : 1 ≤ n) (h2 : n ≤ 1048576) (hok : someOk D rok n 8192 s) :
    Calls Tryz.prog 32 #[.iface T v, .int .i64 n] w fun e w' => ∃ u, e = .returned (.tuple #[u, .int .i64 (someV D n 8192 s).2.1]) ∧ w'.ownsRow w.heap.size 5 1 u (someV D n 8192 s).1.length ((someV D n 8192 s).1.map bv) ∧ At w' O (someV D n 8192 s).2.2 ∧ Turned O w w' := by
  have hm := R.mread
  have hcr := R.cread
  have HA := hide h
  have HOk := hide hok
  have HR := hide R
  clear h hok R
  go_enter Tryz.func32, Tryz.ntmps32
  go_wp2_with (first | (go_at_call 119; refine (readable_yes T v n _ (by omega) (by omega)).mono ?_; rintro _ _ ⟨rfl, rfl⟩) | fail)
  obtain ⟨tr, htr⟩ : ∃ tr, tr = 8192 := ⟨_, rfl⟩
  have HTr := hide htr
  clear htr
  go_loopw [15] (fun i wr => ∃ (k : Nat) (s' : S), i = .int .i64 k ∧ k ≤ 8192 ∧ Hid (At wr O s') ∧ Hid (someOk D rok n (tr - k) s' ∧ someV D n (tr - k) s' = someV D n 8192 s) ∧ Hid (Turned O w wr) ∧ w.heap.size ≤ wr.heap.size) (fun i _ => 8192 - (intOf i).toNat)
  case atStart => exact ⟨0, s, rfl, Nat.zero_le _, HA, hide (by rw [HTr.out]; exact ⟨HOk.out, rfl⟩), hide (Turned.of_below (Below.refl _ _)), Nat.le_refl _⟩
  case round =>
    obtain ⟨k, s', rfl, hk, HAt, HV, HT, hsz⟩ := hrel
    clear HA HOk
    by_cases hlt : k < 8192
    case neg =>
      have hke : k = 8192 := by omega
      have HE : Hid (someV D n 8192 s = ([], 81, s')) := hide (by
        have := HV.out.2
        rw [show tr - k = 0 by have := HTr.out; omega] at this
        exact this.symm)
      have hlt' : ¬ (k : Int) < 8192 := by omega
      clear HV hke hlt
      go_wp2_with fail
      go_ret2
      rw [HE.out]
      exact ⟨_, rfl, World.ownsRow_nil _ _ _ _, HAt.out, HT.out⟩
    have hlt' : (k : Int) < 8192 := by omega
    obtain ⟨j, hj⟩ : ∃ j, tr - k = j + 1 := ⟨tr - k - 1, by have := HTr.out; omega⟩
    rw [hj] at HV
    have HRd := hide (HR.out.read n HAt.out HV.out.1.1 h1 h2)
    have hfew := HR.out.few n HAt.out
    obtain ⟨b, e, s2, hd⟩ : ∃ b e s2, D.read s' n = (b, e, s2) := ⟨_, _, _, rfl⟩
    rw [hd] at HRd hfew
    simp only at HRd hfew
    have hV1 : e = 22 ∨ e = 23 → someOk D rok n j s2 := by have := HV.out.1.2; rw [hd] at this; exact this
    have hV2 := HV.out.2
    rw [someV_next D n j s' hd] at hV2
    have HV1 := hide hV1
    have HJ := hide hj
    clear HV hd hj hV1
    by_cases ht : e = 22 ∨ e = 23
    · rw [if_pos ht] at hV2
      have HV2 := hide hV2
      have HV3 := hide (HV1.out ht)
      have HTt := hide ht
      clear hV2 ht
      go_wp2_with fail
      refine HRd.out.mono ?_
      rintro _ w1 ⟨u, rfl, hO1, hA1, hT1⟩
      obtain ⟨ua, uc, rfl⟩ := owns_slice hO1
      have HA1 := hide hA1
      have HT1 := hide (HT.out.trans hT1 (fun _ _ e => e))
      have hs1 : w.heap.size ≤ w1.heap.size := Nat.le_trans hsz hT1.size
      clear hO1 hA1 hT1
      go_wp2_with (first | (go_at_call 120; refine (isTry_yes _ _ HTt.out).mono ?_; rintro _ _ ⟨rfl, rfl⟩) | fail)
      go_roundw
      case rel => exact ⟨k + 1, s2, by go_num, by omega, HA1, hide (by rw [show tr - (k + 1) = j by have := HJ.out; omega]; exact ⟨HV3.out, HV2.out⟩), HT1, hs1⟩
      case measure => simp [intOf]; omega
    · rw [if_neg ht] at hV2
      have HTt := hide ht
      clear ht HV1
      by_cases hn : n < b.length
      · rw [if_pos hn] at hV2
        have HV2 := hide hV2
        have hn' : (n : Int) < (b.length : Int) := by omega
        clear hV2 hn
        go_wp2_with fail
        refine HRd.out.mono ?_
        rintro _ w1 ⟨u, rfl, hO1, hA1, hT1⟩
        obtain ⟨ua, uc, rfl⟩ := owns_slice hO1
        have HA1 := hide hA1
        have HT1 := hide (HT.out.trans hT1 (fun _ _ e => e))
        clear hO1 hA1 hT1
        go_wp2_with (first | (go_at_call 120; refine (isTry_no _ _ HTt.out).mono ?_; rintro _ _ ⟨rfl, rfl⟩) | fail)
        go_ret2
        rw [← HV2.out]
        exact ⟨_, rfl, World.ownsRow_nil _ _ _ _, HA1.out, HT1.out⟩
      rw [if_neg hn] at hV2
      have hn' : ¬ (n : Int) < (b.length : Int) := by omega
      by_cases he : e = 0
      · subst he
        rw [if_pos rfl] at hV2
        have HV2 := hide hV2
        clear hV2 hn
        go_wp2_with fail
        refine HRd.out.mono ?_
        rintro _ w1 ⟨u, rfl, hO1, hA1, hT1⟩
        obtain ⟨ua, uc, rfl⟩ := owns_slice hO1
        have HC := hide (bclone_any (.slice ua b.length uc) b w1 (Bys.of_owns hO1) (by omega))
        have HA1 := hide hA1
        have HT1 := hide (HT.out.trans hT1 (fun _ _ e => e))
        clear hO1 hA1 hT1
        go_wp2_with (first | (go_at_call 120; refine (isTry_no _ _ HTt.out).mono ?_; rintro _ _ ⟨rfl, rfl⟩) | fail)
        refine HC.out.mono ?_
        rintro _ w2 ⟨u2, rfl, hO2, hB2⟩
        have HA2 := hide (HR.out.keep HA1.out (fun j _ hj => hB2.block j hj) hB2.size)
        have HT2 := hide (HT1.out.trans (Turned.of_below hB2) (fun _ _ e => e))
        have HO2 := hide (owns_mono hO2 HT1.out.size)
        clear hO2 hB2
        go_wp2
        go_ret2
        rw [← HV2.out]
        exact ⟨_, rfl, HO2.out, HA2.out, HT2.out⟩
      · rw [if_neg he] at hV2
        have HV2 := hide hV2
        have he2 : (e != 0) = true := by simp [he]
        have he3 : (e == 0) = false := by simp [he]
        clear hV2 hn
        go_wp2_with fail
        refine HRd.out.mono ?_
        rintro _ w1 ⟨u, rfl, hO1, hA1, hT1⟩
        obtain ⟨ua, uc, rfl⟩ := owns_slice hO1
        have HA1 := hide hA1
        have HT1 := hide (HT.out.trans hT1 (fun _ _ e => e))
        clear hO1 hA1 hT1
        go_wp2_with (first | (go_at_call 120; refine (isTry_no _ _ HTt.out).mono ?_; rintro _ _ ⟨rfl, rfl⟩) | fail)
        go_ret2
        rw [← HV2.out]
        exact ⟨_, rfl, World.ownsRow_nil _ _ _ _, HA1.out, HT1.out⟩
end Go.Proofs.YtkkicbhmcjbmbaaGreat
