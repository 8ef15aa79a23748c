/- KernPlays answers true for all setups and calls, within the reach of a machine's memory: a kernel of any files, terminals and faults answers any raw calls as the page's does, and is like it behind each. -/
import Derived.Test.YtkkicbhmcjbmbaaGreatKM19
import Derived.Deep.RegionHeld3
import Derived.Deep.LoopGhost
import Derived.ProofKit
import Derived.OpenShut
import Derived.ShutString
import Derived.ChangeOld
import Derived.Below
import Derived.SizedLaws
/- KernPlays: a call by both. -/
namespace Go.Proofs.YtkkicbhmcjbmbaaGreat
open Go.RowKit Go.Maps

/-- What comes in of a step. -/
structure StIn (B : Nat) (W : World) (x : KSt) (va : Option Addr) (vc : Nat) : Prop where
  by' : Bys W (.slice va x.data.length vc) x.data
  cap : x.data.length ≤ vc
  name : x.name.size ≤ maxLen
  a : I64 x.a
  b : I64 x.b
  c : I64 x.c
  few : x.data.length ≤ 140737488351232
  low : 0 < x.data.length → ∀ k, (Value.slice va x.data.length vc).ownBlock = some k → k < B
/-- The numbers of a kernel are not too great. -/
def KSmall (K : KS) : Prop := 1 ≤ K.next ∧ K.next < 9223372036854775000 ∧ K.reads < 9223372036854775000 ∧ K.writes < 9223372036854775000
/-- What a step makes of a kernel. -/
def KS.does (K : KS) (x : KSt) : KS :=
  if x.what = 0 then (K.open x.name x.a).2.2 else if x.what = 1 then K.pipe.2.2.2 else if x.what = 2 then (K.read x.a x.b).2.2 else if x.what = 3 then (K.write x.a x.data).2.2
  else if x.what = 4 then (K.seek x.a x.b x.c).2.2 else if x.what = 5 then K.keepK x.a else K.dropK x.a
/-- What a call by both leaves. -/
def Did (B kb mb : Nat) (K' : KS) (w : World) (e : Ending) (w' : World) : Prop := e = .returned (.bool true) ∧ Duo w' B kb mb K' K' ∧ Below B w w'

theorem drew_cell {w : World} {p : Addr} {v : Value} (h : w.cell? p = some v) : w.drew.cell? p = some v := h
theorem rk_cell {w w' : World} {O : Nat → Prop} {kb : Nat} {K : KS} {g j : Nat} {v : Value} (h : RKStep w O kb K w') (hc : w.cell? ⟨g, j, none⟩ = some v) (hO : ¬ O g) : w'.cell? ⟨g, j, none⟩ = some v := by
  obtain ⟨_, _, _, hT⟩ := h
  exact cell_keep hT hc hO
set_option maxRecDepth 100000 in
set_option maxHeartbeats 2000000 in
theorem does_open (B kb mb : Nat) (K : KS) (x : KSt) (va : Option Addr) (vc : Nat) (w : World) (hD : Duo w B kb mb K K) (hB : B ≤ w.heap.size) (hx : StIn B w x va vc) (hk : KSmall K) (h0 : x.what = 0) :
    Calls Tryz.prog 12 #[.pointer (some ⟨kb, 0, none⟩), .pointer (some ⟨mb, 0, none⟩), .agg #[.int .i64 x.what, .string x.name, .int .i64 x.a, .int .i64 x.b, .int .i64 x.c, .slice va x.data.length vc]] w (Did B kb mb (K.open x.name x.a).2.2 w) := by
  obtain ⟨O, P, hK, hM, hO, hP, hboth⟩ := hD.both hB
  rw [h0]
  obtain ⟨what, name, xa, xb, xc, data⟩ := x
  simp only at *
  have hb := recv_below w (Obj.cells #[.int .i64 0, .string name, .int .i64 xa, .int .i64 xb, .int .i64 xc, .slice va data.length vc] 42)
  obtain ⟨x1, x2, x3, x4, x5⟩ := six_cells w (.int .i64 0) (.string name) (.int .i64 xa) (.int .i64 xb) (.int .i64 xc) (.slice va data.length vc) 42
  have H1 := hide ((hK.below hb).open name xa hx.name (by have := hk; unfold KSmall at this; omega))
  have hbo := hboth _ hb
  have HBo := hide hbo
  have hnm := hK.ok.2
  have HNm := hide hnm
  have HX := hide (And.intro x1 x2)
  have HO := hide hO
  have HKs := hide hk
  have HI := hide hx
  clear hbo hnm x1 x2 x3 x4 x5 hO hk hx hK hM hboth hb hD
  generalize hR : K.open name xa = R at *
  obtain ⟨r1, r2, K'⟩ := R
  have HR := hide hR
  clear hR
  simp only at H1 ⊢
  go_enter Tryz.func12, Tryz.ntmps12
  go_wp2_with fail
  refine H1.out.mono ?_
  rintro e w5 ⟨rfl, hS⟩
  have hT := hS.turned
  have c1 := cell_keep hT HX.out.1 (fun e => by have := (HO.out _ e).2; omega)
  have c2 := cell_keep hT HX.out.2 (fun e => by have := (HO.out _ e).2; omega)
  obtain ⟨hm, hbk⟩ := HBo.out K' w5 hS w5 (Below.refl _ _)
  have H2 := hide (hm.open name xa HNm.out HI.out.name HKs.out.1 (by have := HKs.out; unfold KSmall at this; omega))
  rw [HR.out] at H2
  simp only at H2
  have HBk := hide hbk
  clear hbk hm hT hS
  go_wp2_with fail
  refine H2.out.mono ?_
  rintro e w7 ⟨rfl, hS7⟩
  obtain ⟨hD7, hB7⟩ := HBk.out K' w7 hS7
  have HD7 := hide hD7
  have HB7 := hide hB7
  clear hD7 hB7 hS7
  go_wp2_with (first | (go_at_call 10; refine (num_kp _ _).mono ?_; rintro _ _ ⟨rfl, rfl⟩) | fail)
  go_ret
  exact ⟨rfl, HD7.out, HB7.out⟩
set_option maxRecDepth 100000 in
set_option maxHeartbeats 2000000 in
theorem does_pipe (B kb mb : Nat) (K : KS) (x : KSt) (va : Option Addr) (vc : Nat) (w : World) (hD : Duo w B kb mb K K) (hB : B ≤ w.heap.size) (hx : StIn B w x va vc) (hk : KSmall K) (h0 : x.what = 1) :
    Calls Tryz.prog 12 #[.pointer (some ⟨kb, 0, none⟩), .pointer (some ⟨mb, 0, none⟩), .agg #[.int .i64 x.what, .string x.name, .int .i64 x.a, .int .i64 x.b, .int .i64 x.c, .slice va x.data.length vc]] w (Did B kb mb K.pipe.2.2.2 w) := by
  obtain ⟨O, P, hK, hM, hO, hP, hboth⟩ := hD.both hB
  rw [h0]
  obtain ⟨what, name, xa, xb, xc, data⟩ := x
  simp only at *
  have hb := recv_below w (Obj.cells #[.int .i64 1, .string name, .int .i64 xa, .int .i64 xb, .int .i64 xc, .slice va data.length vc] 42)
  obtain ⟨x1, x2, x3, x4, x5⟩ := six_cells w (.int .i64 1) (.string name) (.int .i64 xa) (.int .i64 xb) (.int .i64 xc) (.slice va data.length vc) 42
  have H1 := hide ((hK.below hb).pipe (by have := hk; unfold KSmall at this; omega))
  have hbo := hboth _ hb
  have HBo := hide hbo
  have hnm := hK.ok.2
  have HNm := hide hnm
  have HX := hide (And.intro x1 x2)
  have HO := hide hO
  have HKs := hide hk
  have HI := hide hx
  clear hbo hnm x1 x2 x3 x4 x5 hO hk hx hK hM hboth hb hD
  generalize hR : K.pipe = R at *
  obtain ⟨r1, r2, r3, K'⟩ := R
  have HR := hide hR
  clear hR
  simp only at H1 ⊢
  go_enter Tryz.func12, Tryz.ntmps12
  go_wp2_with fail
  refine H1.out.mono ?_
  rintro e w5 ⟨rfl, hS⟩
  have hT := hS.turned
  have c1 := cell_keep hT HX.out.1 (fun e => by have := (HO.out _ e).2; omega)
  have c2 := cell_keep hT HX.out.2 (fun e => by have := (HO.out _ e).2; omega)
  obtain ⟨hm, hbk⟩ := HBo.out K' w5 hS w5 (Below.refl _ _)
  have H2 := hide (hm.pipe HKs.out.1 (by have := HKs.out; unfold KSmall at this; omega))
  rw [HR.out] at H2
  simp only at H2
  have HBk := hide hbk
  clear hbk hm hT hS
  go_wp2_with fail
  refine H2.out.mono ?_
  rintro e w7 ⟨rfl, hS7⟩
  obtain ⟨hD7, hB7⟩ := HBk.out K' w7 hS7
  have HD7 := hide hD7
  have HB7 := hide hB7
  clear hD7 hB7 hS7
  go_wp2_with (first | (go_at_call 10; refine (num_kp _ _).mono ?_; rintro _ _ ⟨rfl, rfl⟩) | fail)
  go_ret
  exact ⟨rfl, HD7.out, HB7.out⟩
set_option maxRecDepth 100000 in
set_option maxHeartbeats 2000000 in
theorem does_seek (B kb mb : Nat) (K : KS) (x : KSt) (va : Option Addr) (vc : Nat) (w : World) (hD : Duo w B kb mb K K) (hB : B ≤ w.heap.size) (hx : StIn B w x va vc) (hk : KSmall K) (h0 : x.what = 4) :
    Calls Tryz.prog 12 #[.pointer (some ⟨kb, 0, none⟩), .pointer (some ⟨mb, 0, none⟩), .agg #[.int .i64 x.what, .string x.name, .int .i64 x.a, .int .i64 x.b, .int .i64 x.c, .slice va x.data.length vc]] w (Did B kb mb (K.seek x.a x.b x.c).2.2 w) := by
  obtain ⟨O, P, hK, hM, hO, hP, hboth⟩ := hD.both hB
  rw [h0]
  obtain ⟨what, name, xa, xb, xc, data⟩ := x
  simp only at *
  have hb := recv_below w (Obj.cells #[.int .i64 4, .string name, .int .i64 xa, .int .i64 xb, .int .i64 xc, .slice va data.length vc] 42)
  obtain ⟨x1, x2, x3, x4, x5⟩ := six_cells w (.int .i64 4) (.string name) (.int .i64 xa) (.int .i64 xb) (.int .i64 xc) (.slice va data.length vc) 42
  have H1 := hide ((hK.below hb).seek xa xb xc hx.a hx.b)
  have hbo := hboth _ hb
  have HBo := hide hbo
  have hnm := hK.ok.2
  have HNm := hide hnm
  have HX := hide (And.intro x2 (And.intro x3 x4))
  have HO := hide hO
  have HKs := hide hk
  have HI := hide hx
  clear hbo hnm x1 x2 x3 x4 x5 hO hk hx hK hM hboth hb hD
  generalize hR : K.seek xa xb xc = R at *
  obtain ⟨r1, r2, K'⟩ := R
  have HR := hide hR
  clear hR
  simp only at H1 ⊢
  go_enter Tryz.func12, Tryz.ntmps12
  go_wp2_with fail
  refine H1.out.mono ?_
  rintro e w5 ⟨rfl, hS⟩
  have hT := hS.turned
  have c1 := cell_keep hT HX.out.1 (fun e => by have := (HO.out _ e).2; omega)
  have c2 := cell_keep hT HX.out.2.1 (fun e => by have := (HO.out _ e).2; omega)
  have c3 := cell_keep hT HX.out.2.2 (fun e => by have := (HO.out _ e).2; omega)
  obtain ⟨hm, hbk⟩ := HBo.out K' w5 hS w5 (Below.refl _ _)
  have H2 := hide (hm.seek xa xb xc)
  rw [HR.out] at H2
  simp only at H2
  have HBk := hide hbk
  clear hbk hm hT hS
  go_wp2_with fail
  refine H2.out.mono ?_
  rintro e w7 ⟨rfl, hS7⟩
  obtain ⟨hD7, hB7⟩ := HBk.out K' w7 hS7
  have HD7 := hide hD7
  have HB7 := hide hB7
  clear hD7 hB7 hS7
  go_wp2_with (first | (go_at_call 10; refine (num_kp _ _).mono ?_; rintro _ _ ⟨rfl, rfl⟩) | fail)
  go_ret
  exact ⟨rfl, HD7.out, HB7.out⟩
set_option maxRecDepth 100000 in
set_option maxHeartbeats 2000000 in
theorem does_keep (B kb mb : Nat) (K : KS) (x : KSt) (va : Option Addr) (vc : Nat) (w : World) (hD : Duo w B kb mb K K) (hB : B ≤ w.heap.size) (hx : StIn B w x va vc) (hk : KSmall K) (h0 : x.what = 5) :
    Calls Tryz.prog 12 #[.pointer (some ⟨kb, 0, none⟩), .pointer (some ⟨mb, 0, none⟩), .agg #[.int .i64 x.what, .string x.name, .int .i64 x.a, .int .i64 x.b, .int .i64 x.c, .slice va x.data.length vc]] w (Did B kb mb (K.keepK x.a) w) := by
  obtain ⟨O, P, hK, hM, hO, hP, hboth⟩ := hD.both hB
  rw [h0]
  obtain ⟨what, name, xa, xb, xc, data⟩ := x
  simp only at *
  have hb := recv_below w (Obj.cells #[.int .i64 5, .string name, .int .i64 xa, .int .i64 xb, .int .i64 xc, .slice va data.length vc] 42)
  obtain ⟨x1, x2, x3, x4, x5⟩ := six_cells w (.int .i64 5) (.string name) (.int .i64 xa) (.int .i64 xb) (.int .i64 xc) (.slice va data.length vc) 42
  have H1 := hide ((hK.below hb.drew).keeps xa hx.a)
  have hbo := hboth _ hb.drew
  have HRf := hide (fun w6 (hm : RAt w6 P mb K) => hm.keepD xa)
  have HP := hide hP
  have HBo := hide hbo
  have hnm := hK.ok.2
  have HNm := hide hnm
  have HX := hide (And.intro x1 x2)
  have HXd := hide (drew_cell x2)
  have HO := hide hO
  have HKs := hide hk
  have HI := hide hx
  clear hbo hnm x1 x2 x3 x4 x5 hO hk hx hK hM hboth hb hD hP
  generalize hR : K.keepE xa = r at *
  generalize hR2 : K.keepK xa = K' at *
  have HR := hide hR
  have HR2 := hide hR2
  clear hR hR2
  go_enter Tryz.func12, Tryz.ntmps12
  go_wp2_with fail
  go_region_held3 (fun w' => w'.cell? ⟨w.heap.size, 2, none⟩ = some (.int .i64 xa))
    (first | exact HX7 | exact HX5 | exact HXd.out | go_keep)
    (first
      | (go_at_call 10; refine (num_kp _ _).mono ?_; rintro _ _ ⟨rfl, rfl⟩)
      | (go_at_call 60; refine H1.out.mono ?_; rintro e w5 ⟨rfl, hS⟩; have HX5 := cell_keep hS.turned HXd.out (fun e => by have := (HO.out _ e).2; omega); have HQ := HBo.out K' w5 hS w5 (Below.refl _ _); have HM := HQ.1)
      | (go_at_call 61; refine (HRf.out _ HM).mono ?_; rintro e w7 ⟨rfl, hS7⟩; have HD7 := HQ.2 K' w7 hS7; have HX7 : w7.cell? ⟨w.heap.size, 2, none⟩ = some (.int .i64 xa) := rk_cell hS7 HX5 (fun e => by have := (HP.out _ e).2; omega))
      | fail)
  all_goals go_wp2
  all_goals go_ret
  all_goals exact ⟨rfl, HD7.1, HD7.2⟩
set_option maxRecDepth 100000 in
set_option maxHeartbeats 2000000 in
theorem does_drop (B kb mb : Nat) (K : KS) (x : KSt) (va : Option Addr) (vc : Nat) (w : World) (hD : Duo w B kb mb K K) (hB : B ≤ w.heap.size) (hx : StIn B w x va vc) (hk : KSmall K) (g0 : x.what ≠ 0) (g1 : x.what ≠ 1) (g2 : x.what ≠ 2) (g3 : x.what ≠ 3) (g4 : x.what ≠ 4) (g5 : x.what ≠ 5) :
    Calls Tryz.prog 12 #[.pointer (some ⟨kb, 0, none⟩), .pointer (some ⟨mb, 0, none⟩), .agg #[.int .i64 x.what, .string x.name, .int .i64 x.a, .int .i64 x.b, .int .i64 x.c, .slice va x.data.length vc]] w (Did B kb mb (K.dropK x.a) w) := by
  obtain ⟨O, P, hK, hM, hO, hP, hboth⟩ := hD.both hB
  obtain ⟨what, name, xa, xb, xc, data⟩ := x
  simp only at *
  have hb := recv_below w (Obj.cells #[.int .i64 what, .string name, .int .i64 xa, .int .i64 xb, .int .i64 xc, .slice va data.length vc] 42)
  obtain ⟨x1, x2, x3, x4, x5⟩ := six_cells w (.int .i64 what) (.string name) (.int .i64 xa) (.int .i64 xb) (.int .i64 xc) (.slice va data.length vc) 42
  have H1 := hide ((hK.below hb.drew).drops xa hx.a)
  have hbo := hboth _ hb.drew
  have HRf := hide (fun w6 (hm : RAt w6 P mb K) => hm.drop xa)
  have HP := hide hP
  have HBo := hide hbo
  have hnm := hK.ok.2
  have HNm := hide hnm
  have HX := hide (And.intro x1 x2)
  have HXd := hide (drew_cell x2)
  have HO := hide hO
  have HKs := hide hk
  have HI := hide hx
  clear hbo hnm x1 x2 x3 x4 x5 hO hk hx hK hM hboth hb hD hP
  generalize hR : K.dropE xa = r at *
  generalize hR2 : K.dropK xa = K' at *
  have HR := hide hR
  have HR2 := hide hR2
  clear hR hR2
  go_enter Tryz.func12, Tryz.ntmps12
  go_wp2_with fail
  go_region_held3 (fun w' => w'.cell? ⟨w.heap.size, 2, none⟩ = some (.int .i64 xa))
    (first | exact HX7 | exact HX5 | exact HXd.out | go_keep)
    (first
      | (go_at_call 10; refine (num_kp _ _).mono ?_; rintro _ _ ⟨rfl, rfl⟩)
      | (go_at_call 62; refine H1.out.mono ?_; rintro e w5 ⟨rfl, hS⟩; have HX5 := cell_keep hS.turned HXd.out (fun e => by have := (HO.out _ e).2; omega); have HQ := HBo.out K' w5 hS w5 (Below.refl _ _); have HM := HQ.1)
      | (go_at_call 63; refine (HRf.out _ HM).mono ?_; rintro e w7 ⟨rfl, hS7⟩; have HD7 := HQ.2 K' w7 hS7; have HX7 : w7.cell? ⟨w.heap.size, 2, none⟩ = some (.int .i64 xa) := rk_cell hS7 HX5 (fun e => by have := (HP.out _ e).2; omega))
      | fail)
  all_goals go_wp2
  all_goals go_ret
  all_goals exact ⟨rfl, HD7.1, HD7.2⟩
end Go.Proofs.YtkkicbhmcjbmbaaGreat

/- KernPlays: Read and Write by both. -/
namespace Go.Proofs.YtkkicbhmcjbmbaaGreat
open Go.RowKit Go.Maps

theorem rkwrite_any0 (B : Nat → Prop) (ρ : Nat → Option Tag) (I : RI) (K : KS) (d : Int) (b : List UInt8) (a1 : Option Addr) (cx : Nat) (w : World) (h : RK w B ρ I K) (hr : K.writes < 9223372036854775807) (hb : Bys w (.slice a1 b.length cx) b) (hcap : b.length ≤ cx) (hap : 0 < b.length → ∀ k, (Value.slice a1 b.length cx).ownBlock = some k → ¬ B k) :
    Calls Tryz.prog 56 #[.pointer (some ⟨I.kb, 0, none⟩), .int .i64 d, .slice a1 b.length cx] w (RKNum w B I.kb (K.write d b)) := by
  cases hx : K.find d with
  | none => exact rkwrite_head B ρ I K d b a1 cx w h (.inl hx)
  | some x =>
    by_cases hh : fbit x.flags 2 = 0 ∨ 1048576 < b.length ∨ b.length = 0
    · exact rkwrite_head B ρ I K d b a1 cx w h (.inr ⟨x, hx, hh⟩)
    · have h1 : fbit x.flags 2 ≠ 0 := fun e => hh (.inl e)
      have h2 : ¬ 1048576 < b.length := fun e => hh (.inr (.inl e))
      have h3 : ¬ b.length = 0 := fun e => hh (.inr (.inr e))
      exact rkwrite_any B ρ I K d b a1 cx w h hr hb hcap (hap (by omega))
theorem RAt.write0 {w : World} {O : Nat → Prop} {kb : Nat} {K : KS} (h : RAt w O kb K) (d : Int) (b : List UInt8) (a1 : Option Addr) (cx : Nat) (hr : K.writes < 9223372036854775807) (hb : Bys w (.slice a1 b.length cx) b) (hcap : b.length ≤ cx) (hap : 0 < b.length → ∀ k, (Value.slice a1 b.length cx).ownBlock = some k → k < w.heap.size ∧ ¬ O k) :
    Calls Tryz.prog 56 #[.pointer (some ⟨kb, 0, none⟩), .int .i64 d, .slice a1 b.length cx] w fun e w' => e = .returned (.tuple #[.int .i64 (K.write d b).1, .int .i64 (K.write d b).2.1]) ∧ RKStep w O kb (K.write d b).2.2 w' := by
  obtain ⟨B, ρ, I, h1, rfl, h3⟩ := h
  refine (rkwrite_any0 _ ρ I K d b a1 cx w h1.own hr hb hcap (fun h0 k e e' => by
    rcases e' with ⟨t', h4⟩ | h4
    · exact (hap h0 k e).2 (h3 k t' h4)
    · have := (hap h0 k e).1; omega)).mono ?_
  rintro e w' ⟨ρ', I', h4, h6, h7, h8⟩
  exact ⟨h4, RK.left h3 h6 h7 h8⟩
theorem RKStep.turned {w w' : World} {O : Nat → Prop} {kb : Nat} {K : KS} (h : RKStep w O kb K w') : Turned O w w' := by
  obtain ⟨_, _, _, hT⟩ := h
  exact hT
/-- As Duo.both; and blocks that were made between may turn behind. -/
theorem Duo.both2 {wr : World} {B kb mb : Nat} {K M : KS} (h : Duo wr B kb mb K M) (hB : B ≤ wr.heap.size) :
    ∃ O P, KAt wr O kb K ∧ RAt wr P mb M ∧ (∀ j, O j → B ≤ j ∧ j < wr.heap.size) ∧ (∀ j, P j → B ≤ j ∧ j < wr.heap.size) ∧
      ∀ wb, Below wr.heap.size wr wb → ∀ K' w5, KStep wb O kb K' w5 → ∀ w6, Below w5.heap.size w5 w6 → RAt w6 P mb M ∧ ∀ M' w7, RKStep w6 P mb M' w7 → ∀ S w8, Turned S w7 w8 → (∀ k, S k → wr.heap.size ≤ k ∧ k < wb.heap.size) → Duo w8 B kb mb K' M' ∧ Below B wr w8 := by
  obtain ⟨O, P, h1, h2, h3, h4⟩ := h
  refine ⟨O, P, h1, h2, fun j e => ⟨(h3 j e).1, (h3 j e).2.1⟩, h4, fun wb hb K' w5 hS w6 h56 => ?_⟩
  obtain ⟨O', g1, g2, g3⟩ := hS
  have hsb := hb.size
  have hm : RAt w6 P mb M := ((h2.below hb).keep (fun j e hl => g3.block j hl (fun e' => (h3 j e').2.2 e)) g3.size).below h56
  refine ⟨hm, fun M' w7 hS7 S w8 hT8 hS8 => ?_⟩
  obtain ⟨P', f1, f2, f3⟩ := hS7
  have hz5 := g3.size
  have hz6 := h56.size
  have hz7 := f3.size
  have hz8 := hT8.size
  have g1' := g1.trim.below h56
  have g7 : KAt w7 (fun k => O' k ∧ k < w5.heap.size) kb K' := g1'.keep (fun j e hl => f3.block j hl (fun e' => by
    rcases g2 j e.1 with e1 | e1
    · exact (h3 j e1).2.2 e'
    · have := (h4 j e').2; omega)) hz7
  have hO8 : ∀ j, O' j → ¬ S j := fun j e e' => by
    have := hS8 j e'
    rcases g2 j e with e1 | e1
    · have := (h3 j e1).2.1; omega
    · omega
  have hP8 : ∀ j, P' j → ¬ S j := fun j e e' => by
    have := hS8 j e'
    rcases f2 j e with e1 | e1
    · have := (h4 j e1).2; omega
    · omega
  refine ⟨⟨fun k => O' k ∧ k < w5.heap.size, fun k => P' k ∧ k < w7.heap.size, g7.keep (fun j e hl => hT8.block j hl (hO8 j e.1)) hz8, f1.trim.keep (fun j e hl => hT8.block j hl (hP8 j e.1)) hz8, fun j e => ⟨?_, by have := e.2; omega, fun e' => ?_⟩, fun j e => ⟨?_, by have := e.2; omega⟩⟩,
    (hb.mono hB).trans ((g3.below (fun j e => (h3 j e).1) (Nat.le_trans hB hsb)).trans ((h56.mono (by omega)).trans ((f3.below (fun j e => (h4 j e).1) (by omega)).trans (hT8.below (fun j e => by have := (hS8 j e).1; omega) (by omega)))))⟩
  · rcases g2 j e.1 with e1 | e1
    · exact (h3 j e1).1
    · omega
  · rcases f2 j e'.1 with e2 | e2
    · rcases g2 j e.1 with e1 | e1
      · exact (h3 j e1).2.2 e2
      · have := (h4 j e2).2; omega
    · have := e.2; omega
  · rcases f2 j e.1 with e2 | e2
    · exact (h4 j e2).1
    · omega
set_option maxRecDepth 100000 in
set_option maxHeartbeats 2000000 in
theorem does_read (B kb mb : Nat) (K : KS) (x : KSt) (va : Option Addr) (vc : Nat) (w : World) (hD : Duo w B kb mb K K) (hB : B ≤ w.heap.size) (hx : StIn B w x va vc) (hk : KSmall K) (h0 : x.what = 2) :
    Calls Tryz.prog 12 #[.pointer (some ⟨kb, 0, none⟩), .pointer (some ⟨mb, 0, none⟩), .agg #[.int .i64 x.what, .string x.name, .int .i64 x.a, .int .i64 x.b, .int .i64 x.c, .slice va x.data.length vc]] w (Did B kb mb (K.read x.a x.b).2.2 w) := by
  obtain ⟨O, P, hK, hM, hO, hP, hboth⟩ := hD.both hB
  rw [h0]
  obtain ⟨what, name, xa, xb, xc, data⟩ := x
  simp only at *
  have hb := recv_below w (Obj.cells #[.int .i64 2, .string name, .int .i64 xa, .int .i64 xb, .int .i64 xc, .slice va data.length vc] 42)
  obtain ⟨x1, x2, x3, x4, x5⟩ := six_cells w (.int .i64 2) (.string name) (.int .i64 xa) (.int .i64 xb) (.int .i64 xc) (.slice va data.length vc) 42
  have H1 := hide ((hK.below hb).read xa xb hx.a (by have := hk; unfold KSmall at this; omega))
  have hbo := hboth _ hb
  have HBo := hide hbo
  have HX := hide (And.intro x2 x3)
  have HO := hide hO
  have HP := hide hP
  have HKs := hide hk
  have hfew := read_few hK xa xb
  have hsw : w.heap.size ≤ (w.alloc (Obj.cells #[.int .i64 2, .string name, .int .i64 xa, .int .i64 xb, .int .i64 xc, .slice va data.length vc] 42)).heap.size := hb.size
  have HSw := hide hsw
  clear hbo x1 x2 x3 x4 x5 hO hP hk hx hK hM hboth hb hD hsw
  generalize hR : K.read xa xb = R at *
  obtain ⟨l, r2, K'⟩ := R
  have HR := hide hR
  clear hR
  simp only at H1 hfew ⊢
  go_enter Tryz.func12, Tryz.ntmps12
  go_wp2_with fail
  refine H1.out.mono ?_
  rintro e w5 ⟨v, rfl, hown, hKa, hT⟩
  have hS := hKa.rstep hT
  have c1 := cell_keep hT HX.out.1 (fun e => by have := (HO.out _ e).2; omega)
  have c2 := cell_keep hT HX.out.2 (fun e => by have := (HO.out _ e).2; omega)
  obtain ⟨hm, hbk⟩ := HBo.out K' w5 hS w5 (Below.refl _ _)
  have H2 := hide (hm.read xa xb (by have := HKs.out; unfold KSmall at this; omega))
  rw [HR.out] at H2
  simp only at H2
  have HBk := hide hbk
  have HOw := hide hown
  obtain ⟨a0, n0, rfl⟩ := owns_slice hown
  clear hbk hm hT hS hown hKa
  go_wp2_with fail
  refine H2.out.mono ?_
  rintro e w7 ⟨u, rfl, hby, hS7⟩
  obtain ⟨hD7, hB7⟩ := HBk.out K' w7 hS7
  have hby1 : Bys w7 (.slice a0 l.length n0) l := by
    obtain ⟨_, _, _, hT7⟩ := hS7
    exact (Bys.of_owns HOw.out).turned hT7 (fun k hk _ e => by
      have h1 := (HOw.out.lt k hk).1
      have h2 := (HP.out _ e).2
      have h3 := HSw.out
      omega)
  have HSm := hide (same_any _ _ l w7 hby1 hby (by unfold maxLen; omega))
  obtain ⟨ua, un, uc, rfl⟩ : ∃ ua un uc, u = .slice ua un uc := by
    obtain ⟨ua, uc, e, -⟩ := bys_form hby
    exact ⟨_, _, _, e⟩
  have HD7 := hide hD7
  have HB7 := hide hB7
  clear hD7 hB7 hS7 hby hby1
  go_wp2_with (first | (go_at_call 10; refine (num_kp _ _).mono ?_; rintro _ _ ⟨rfl, rfl⟩) | (go_at_call 38; refine HSm.out.mono ?_; rintro _ w8 ⟨rfl, hB8⟩) | fail)
  go_ret
  exact ⟨rfl, HD7.out.below hB8, HB7.out.trans (hB8.mono (Nat.le_trans hB HB7.out.size))⟩
set_option maxRecDepth 100000 in
set_option maxHeartbeats 2000000 in
theorem does_write (B kb mb : Nat) (K : KS) (x : KSt) (va : Option Addr) (vc : Nat) (w : World) (hD : Duo w B kb mb K K) (hB : B ≤ w.heap.size) (hx : StIn B w x va vc) (hk : KSmall K) (h0 : x.what = 3) :
    Calls Tryz.prog 12 #[.pointer (some ⟨kb, 0, none⟩), .pointer (some ⟨mb, 0, none⟩), .agg #[.int .i64 x.what, .string x.name, .int .i64 x.a, .int .i64 x.b, .int .i64 x.c, .slice va x.data.length vc]] w (Did B kb mb (K.write x.a x.data).2.2 w) := by
  obtain ⟨O, P, hK, hM, hO, hP, hboth⟩ := hD.both2 hB
  rw [h0]
  obtain ⟨what, name, xa, xb, xc, data⟩ := x
  simp only at *
  have hb := recv_below w (Obj.cells #[.int .i64 3, .string name, .int .i64 xa, .int .i64 xb, .int .i64 xc, .slice va data.length vc] 42)
  obtain ⟨x1, x2, x3, x4, x5⟩ := six_cells w (.int .i64 3) (.string name) (.int .i64 xa) (.int .i64 xb) (.int .i64 xc) (.slice va data.length vc) 42
  have hby0 := hx.by'.below hb
  have HC := hide (copy_any _ data _ hby0 hx.few)
  have hsw := hb.size
  have hfw : data.length ≤ 140737488351232 := hx.few
  have hls := size_new w (Obj.cells #[.int .i64 3, .string name, .int .i64 xa, .int .i64 xb, .int .i64 xc, .slice va data.length vc] 42)
  generalize hR : K.write xa data = R at *
  obtain ⟨r1, r2, K'⟩ := R
  have HR := hide hR
  clear hR
  simp only
  have HX := hide (And.intro x2 x5)
  have HO := hide hO
  have HP := hide hP
  have HKs := hide hk
  have HI := hide hx
  have HK := hide hK
  have HBt := hide hboth
  have HB := hide hb
  have HY := hide hby0
  clear x1 x2 x3 x4 x5 hO hP hk hx hK hM hboth hb hD hby0
  go_enter Tryz.func12, Tryz.ntmps12
  go_wp2_with fail
  generalize w.alloc (Obj.cells #[.int .i64 3, .string name, .int .i64 xa, .int .i64 xb, .int .i64 xc, .slice va data.length vc] 42) = wb at *
  refine HC.out.mono ?_
  rintro e wc ⟨v, rfl, hown, hBc⟩
  obtain ⟨a0, n0, rfl⟩ := owns_slice hown
  have hcap := owns_cap hown
  have hbc : Below w.heap.size w wc := HB.out.trans (hBc.mono hsw)
  have H1 := hide ((HK.out.below hbc).write xa data a0 n0 HI.out.a (by have := HKs.out; unfold KSmall at this; omega) (Bys.of_owns hown) hcap (by omega) (fun _ k hk e => by have := (hown.lt k hk).1; have := (HO.out _ e).2; omega))
  rw [HR.out] at H1
  simp only at H1
  have c2 := (hBc.cell (p := ⟨w.heap.size, 2, none⟩) hls).trans HX.out.1
  have c5 := (hBc.cell (p := ⟨w.heap.size, 5, none⟩) hls).trans HX.out.2
  have hlc : w.heap.size < wc.heap.size := Nat.lt_of_lt_of_le hls hBc.size
  have HOw := hide hown
  have HBc := hide hBc
  have HBw := hide hbc
  clear hown hBc hbc hcap HC
  go_wp2_with fail
  refine H1.out.mono ?_
  rintro e w5 ⟨rfl, hS⟩
  have hT := hS.turned
  have d2 := cell_keep hT c2 (fun e => by have := (HO.out _ e).2; omega)
  have d5 := cell_keep hT c5 (fun e => by have := (HO.out _ e).2; omega)
  obtain ⟨hm, hbk⟩ := HBt.out wc HBw.out K' w5 hS w5 (Below.refl _ _)
  have hyd : Bys w5 (.slice va data.length vc) data := by
    by_cases hz : 0 < data.length
    · exact (HY.out.below HBc.out).turned hT (fun k hk _ e => by have := HI.out.low hz k hk; have := (HO.out _ e).1; omega)
    · exact bys_none HY.out hz
  have hz5 := hT.size
  have H2 := hide (hm.write0 xa data va vc (by have := HKs.out; unfold KSmall at this; omega) hyd HI.out.cap (fun hz k hk => by have := HI.out.low hz k hk; exact ⟨by omega, fun e => by have := (HP.out _ e).1; omega⟩))
  rw [HR.out] at H2
  simp only at H2
  have HBk := hide hbk
  have HO5 := hide (owns_turned HOw.out hT (fun k hk e => by have := (HOw.out.lt k hk).1; have := (HO.out _ e).2; omega))
  clear hbk hm hT hS hyd c2 c5
  go_wp2_with fail
  refine H2.out.mono ?_
  rintro e w7 ⟨rfl, hS7⟩
  have HO7 := hide (owns_turned HO5.out (RKStep.turned hS7) (fun k hk e => by have := (HOw.out.lt k hk).1; have := (HP.out _ e).2; omega))
  have HSp := hide (Kp_spoil_turn _ _ _ _ w7 HO7.out (Kp_bv_ints data) (by unfold maxLen; omega))
  have HBq := hide (HBk.out K' w7 hS7)
  clear hS7 d2 d5
  go_wp2_with fail
  refine HSp.out.mono ?_
  rintro e w8 ⟨rfl, hT8⟩
  obtain ⟨hD8, hB8⟩ := HBq.out _ w8 hT8 (fun k hk => ⟨by have := (HOw.out.lt k hk).1; omega, by have := (HOw.out.lt k hk).2; omega⟩)
  have HD8 := hide hD8
  have HB8 := hide hB8
  clear hD8 hB8 hT8
  go_wp2_with (first | (go_at_call 10; refine (num_kp _ _).mono ?_; rintro _ _ ⟨rfl, rfl⟩) | fail)
  go_ret
  exact ⟨rfl, HD8.out, HB8.out⟩
theorem does_any (B kb mb : Nat) (K : KS) (x : KSt) (va : Option Addr) (vc : Nat) (w : World) (hD : Duo w B kb mb K K) (hB : B ≤ w.heap.size) (hx : StIn B w x va vc) (hk : KSmall K) :
    Calls Tryz.prog 12 #[.pointer (some ⟨kb, 0, none⟩), .pointer (some ⟨mb, 0, none⟩), .agg #[.int .i64 x.what, .string x.name, .int .i64 x.a, .int .i64 x.b, .int .i64 x.c, .slice va x.data.length vc]] w (Did B kb mb (K.does x) w) := by
  unfold KS.does
  by_cases h0 : x.what = 0
  · rw [if_pos h0]; exact does_open B kb mb K x va vc w hD hB hx hk h0
  by_cases h1 : x.what = 1
  · rw [if_neg h0, if_pos h1]; exact does_pipe B kb mb K x va vc w hD hB hx hk h1
  by_cases h2 : x.what = 2
  · rw [if_neg h0, if_neg h1, if_pos h2]; exact does_read B kb mb K x va vc w hD hB hx hk h2
  by_cases h3 : x.what = 3
  · rw [if_neg h0, if_neg h1, if_neg h2, if_pos h3]; exact does_write B kb mb K x va vc w hD hB hx hk h3
  by_cases h4 : x.what = 4
  · rw [if_neg h0, if_neg h1, if_neg h2, if_neg h3, if_pos h4]; exact does_seek B kb mb K x va vc w hD hB hx hk h4
  by_cases h5 : x.what = 5
  · rw [if_neg h0, if_neg h1, if_neg h2, if_neg h3, if_neg h4, if_pos h5]; exact does_keep B kb mb K x va vc w hD hB hx hk h5
  rw [if_neg h0, if_neg h1, if_neg h2, if_neg h3, if_neg h4, if_neg h5]
  exact does_drop B kb mb K x va vc w hD hB hx hk h0 h1 h2 h3 h4 h5
theorem kle_does (K : KS) (x : KSt) : KLe K (K.does x) := by
  unfold KS.does
  split
  · exact kle_open K _ _
  split
  · exact kle_pipe K
  split
  · exact kle_read K _ _
  split
  · exact kle_write K _ _
  split
  · exact kle_seek K _ _ _
  split
  · exact kle_keep K _
  · exact kle_drop K _
end Go.Proofs.YtkkicbhmcjbmbaaGreat

/- Kernels as values: a pipe on which a description writes has a writer, and no other one writes on it. -/
namespace Go.Proofs.YtkkicbhmcjbmbaaGreat
open Go.RowKit Go.Maps

def Ob.wts : Ob → Option Nat
  | .pipe _ _ wt => some wt
  | _ => none
/-- How many write on the pipe that is thing i. -/
def KS.pw (K : KS) (i : Nat) : Option Nat := (K.obOf i).wts
def PInv (K : KS) : Prop := ∀ x ∈ K.de, bit x.flags 2 = true → ∀ wt, K.pw x.th = some wt → 1 ≤ wt ∧ ∀ y ∈ K.de, y.th = x.th → bit y.flags 2 = true → y.n = x.n
theorem PInv.sub {K K' : KS} (h : PInv K) (hd : ∀ x ∈ K'.de, ∃ y ∈ K.de, y.n = x.n ∧ y.th = x.th ∧ y.flags = x.flags) (hw : ∀ i, K'.pw i = K.pw i) : PInv K' := by
  intro x hx hb wt hwt
  obtain ⟨y, hy, e1, e2, e3⟩ := hd x hx
  rw [hw, ← e2] at hwt
  obtain ⟨h1, h2⟩ := h y hy (by rw [e3]; exact hb) wt hwt
  refine ⟨h1, fun z hz hzt hzb => ?_⟩
  obtain ⟨u, hu, f1, f2, f3⟩ := hd z hz
  rw [← f1, ← e1]
  exact h2 u hu (by rw [f2, hzt, e2]) (by rw [f3]; exact hzb)
theorem pw_setOb {K : KS} {i : Nat} {ob : Ob} (h : ob.wts = K.pw i) (j : Nat) : (K.setOb i ob).pw j = K.pw j := by
  unfold KS.pw KS.obOf KS.setOb at *
  simp only [List.getElem?_modify]
  by_cases e : i = j
  · subst e
    cases hq : K.th[i]? with
    | none => simp
    | some t => simp [hq] at h ⊢; exact h
  · simp [e]
theorem PInv.setDe {K : KS} {d : Int} {x x' : De} (h : PInv K) (hx : K.find d = some x) (e1 : x'.n = x.n) (e2 : x'.th = x.th) (e3 : x'.flags = x.flags) : PInv (K.setDe x') := by
  refine h.sub (fun y hy => ?_) (fun i => rfl)
  rcases mem_setDe hy with rfl | ⟨hy, _⟩
  · exact ⟨x, (KS.find_some hx).1, e1.symm, e2.symm, e3.symm⟩
  · exact ⟨y, hy, rfl, rfl, rfl⟩
theorem PInv.setOb {K : KS} {i : Nat} {ob : Ob} (h : PInv K) (hw : ob.wts = K.pw i) : PInv (K.setOb i ob) := h.sub (fun y hy => ⟨y, hy, rfl, rfl, rfl⟩) (pw_setOb hw)
theorem PInv.readUp {K : KS} (h : PInv K) : PInv K.readUp := h.sub (fun y hy => ⟨y, hy, rfl, rfl, rfl⟩) (fun _ => rfl)
theorem PInv.writeUp {K : KS} (h : PInv K) : PInv K.writeUp := h.sub (fun y hy => ⟨y, hy, rfl, rfl, rfl⟩) (fun _ => rfl)
theorem find_readUp {K : KS} {d : Int} : K.readUp.find d = K.find d := rfl
theorem pinv_read {K : KS} (h : PInv K) (d n : Int) : PInv (K.read d n).2.2 := by
  unfold KS.read
  cases hx : K.find d with
  | none => exact h
  | some x =>
    simp only
    split
    · exact h
    split
    · exact h
    split
    · exact h
    split
    · exact h
    split
    · cases ho : K.tho x with
      | file b => exact h.readUp.setDe (d := d) (x := x) hx rfl rfl rfl
      | term ls scr => exact h.readUp.setOb (by show none = (K.obOf x.th).wts; rw [show K.obOf x.th = K.tho x from rfl, ho]; rfl)
      | pipe q rd wt => exact h.readUp.setOb (by show some wt = (K.obOf x.th).wts; rw [show K.obOf x.th = K.tho x from rfl, ho]; rfl)
    · exact h.readUp
theorem pinv_write {K : KS} (h : PInv K) (d : Int) (b : List UInt8) : PInv (K.write d b).2.2 := by
  unfold KS.write
  cases hx : K.find d with
  | none => exact h
  | some x =>
    simp only
    split
    · exact h
    split
    · exact h
    split
    · exact h
    split
    · split
      · cases ho : K.tho x with
        | file f =>
          have h1 : PInv (K.writeUp.setOb x.th (.file (wrL f (placeOf f x.flags x.pos) (b.take (min (nxt K.plan b.length).1.toNat (1048576 - placeOf f x.flags x.pos)))))) := h.writeUp.setOb (by show none = (K.obOf x.th).wts; rw [show K.obOf x.th = K.tho x from rfl, ho]; rfl)
          exact h1.setDe (d := d) (x := x) hx rfl rfl rfl
        | term ls scr => exact h.writeUp.setOb (by show none = (K.obOf x.th).wts; rw [show K.obOf x.th = K.tho x from rfl, ho]; rfl)
        | pipe q rd wt => exact h.writeUp.setOb (by show some wt = (K.obOf x.th).wts; rw [show K.obOf x.th = K.tho x from rfl, ho]; rfl)
      · exact h.writeUp
    · exact h
theorem pinv_seek {K : KS} (h : PInv K) (d o wh : Int) : PInv (K.seek d o wh).2.2 := by
  unfold KS.seek
  cases hx : K.find d with
  | none => exact h
  | some x =>
    simp only
    cases ho : K.tho x with
    | file b =>
      simp only
      generalize (if wh = 1 then (x.pos : Int) else if wh = 2 then (b.length : Int) else 0) = z
      split
      · exact h
      split
      · exact h.setDe (d := d) (x := x) hx rfl rfl rfl
      · exact h
    | term ls scr => exact h
    | pipe q rd wt => exact h
theorem pinv_keep {K : KS} (h : PInv K) (d : Int) : PInv (K.keepK d) := by
  unfold KS.keepK
  cases hx : K.find d with
  | none => exact h
  | some x =>
    simp only
    split
    · exact h
    · exact h.setDe (d := d) (x := x) hx rfl rfl rfl
theorem pinv_drop {K : KS} (h : PInv K) (d : Int) : PInv (K.dropK d) := by
  unfold KS.dropK
  cases hx : K.find d with
  | none => exact h
  | some x =>
    simp only
    split
    · exact h.setDe (d := d) (x := x) hx rfl rfl rfl
    · have hlose : ∀ {K' : KS}, PInv K' → PInv (K'.lose x.n) := fun {K'} h' => h'.sub (fun y hy => ⟨y, (List.mem_filter.1 hy).1, rfl, rfl, rfl⟩) (fun _ => rfl)
      cases ho : K.tho x with
      | file b => exact hlose h
      | term ls scr => exact hlose h
      | pipe q rd wt =>
        simp only
        by_cases hb : bit x.flags 2 = true
        · intro y hy hyb wt' hwt'
          obtain ⟨hy1, hy2⟩ := List.mem_filter.1 hy
          have hy1' : y ∈ K.de := hy1
          have hyn : y.n ≠ x.n := by simpa using hy2
          have hxm := (KS.find_some hx).1
          by_cases hth : y.th = x.th
          · obtain ⟨_, h2⟩ := h x hxm hb wt (by show (K.obOf x.th).wts = some wt; rw [show K.obOf x.th = K.tho x from rfl, ho]; rfl)
            exact absurd (h2 y hy1' hth hyb) hyn
          · have hpw : K.pw y.th = some wt' := by
              rw [← hwt']
              show K.pw y.th = (K.setOb x.th _).pw y.th
              unfold KS.pw KS.obOf KS.setOb
              simp only [List.getElem?_modify]
              simp [Ne.symm hth]
            obtain ⟨g1, g2⟩ := h y hy1' hyb wt' hpw
            exact ⟨g1, fun z hz hzt hzb => g2 z (List.mem_filter.1 hz).1 hzt hzb⟩
        · have hb' : bit x.flags 2 = false := by simpa using hb
          exact hlose (h.setOb (by rw [hb']; show some (leaveW false rd wt) = (K.obOf x.th).wts; rw [show K.obOf x.th = K.tho x from rfl, ho]; rfl))
theorem obOf_app {K : KS} {i : Nat} (h : i < K.th.length) {t : Th} : ((K.th ++ [t])[i]?.map Th.ob).getD (.file []) = K.obOf i := by
  unfold KS.obOf
  rw [List.getElem?_append_left h]
theorem pinv_newDe {K : KS} (h : PInv K) (i : Nat) (fl : Int) (hi : K.pw i = none) : PInv (K.newDe i fl) := by
  intro x hx hb wt hwt
  have hpw : K.pw x.th = some wt := hwt
  rcases List.mem_append.1 (show x ∈ K.de ++ [⟨K.next, i, fl, 0, 1⟩] from hx) with hx | hx
  · obtain ⟨g1, g2⟩ := h x hx hb wt hpw
    refine ⟨g1, fun y hy hyt hyb => ?_⟩
    rcases List.mem_append.1 (show y ∈ K.de ++ [⟨K.next, i, fl, 0, 1⟩] from hy) with hy | hy
    · exact g2 y hy hyt hyb
    · have : y = ⟨K.next, i, fl, 0, 1⟩ := by simpa using hy
      subst this
      rw [← hyt] at hpw
      rw [hi] at hpw
      cases hpw
  · have : x = ⟨K.next, i, fl, 0, 1⟩ := by simpa using hx
    subst this
    rw [hi] at hpw
    cases hpw
theorem pinv_open {K : KS} (h : PInv K) (hk : KOk K) (hn : KNm K) (s : ByteArray) (fl : Int) : PInv (K.open s fl).2.2 := by
  unfold KS.open
  split
  · exact h
  split
  · exact h
  split
  · exact h
  cases hq : K.byName s with
  | some i =>
    simp only
    have him : i ∈ K.nm := List.mem_of_find?_eq_some hq
    have hki := hn.kind i him
    split
    · have hpi : K.pw i = none := by
        unfold KS.pw
        cases ho : K.obOf i with
        | file b => rfl
        | term ls scr => rfl
        | pipe q rd wt => rw [ho] at hki; rcases hki with e | e <;> simp [Ob.kind] at e
      have hcut : PInv (K.cut i fl) ∧ (K.cut i fl).pw i = none := by
        unfold KS.cut
        split
        · cases ho : K.obOf i with
          | file b =>
            have hw : (Ob.file []).wts = K.pw i := by rw [hpi]; rfl
            exact ⟨h.setOb hw, by rw [pw_setOb hw]; exact hpi⟩
          | term ls scr => exact ⟨h, hpi⟩
          | pipe q rd wt => exact ⟨h, hpi⟩
        · exact ⟨h, hpi⟩
      exact pinv_newDe hcut.1 i fl hcut.2
    · exact h
  | none =>
    simp only
    split
    · exact h
    split
    · exact h
    · have hadd : PInv (K.addTh ⟨s, .file []⟩) := by
        intro x hx hb wt hwt
        have hx' : x ∈ K.de := hx
        have hlt := hk.th x hx'
        have hpw : K.pw x.th = some wt := by
          rw [← hwt]
          show (K.obOf x.th).wts = ((((K.th ++ [⟨s, .file []⟩])[x.th]?.map Th.ob).getD (.file []))).wts
          rw [obOf_app hlt]
        exact h x hx' hb wt hpw
      refine pinv_newDe hadd _ fl ?_
      show ((((K.th ++ [⟨s, .file []⟩])[K.th.length]?.map Th.ob).getD (.file []))).wts = none
      simp [Ob.wts]
theorem pinv_pipe {K : KS} (h : PInv K) (hk : KOk K) : PInv K.pipe.2.2.2 := by
  unfold KS.pipe
  split
  · exact h
  · simp only
    have hnew : ∀ i, i < K.th.length → (((K.addP (.pipe [] 1 1)).newDe K.th.length 1).newDe K.th.length 2).pw i = K.pw i := fun i hi => by
      show ((((K.th ++ [⟨ByteArray.empty, .pipe [] 1 1⟩])[i]?.map Th.ob).getD (.file []))).wts = (K.obOf i).wts
      rw [obOf_app hi]
    intro x hx hb wt hwt
    have hx0 : x ∈ (K.de ++ [⟨K.next, K.th.length, 1, 0, 1⟩]) ++ [⟨K.next + 1, K.th.length, 2, 0, 1⟩] := hx
    rcases List.mem_append.1 hx0 with hx1 | hx1
    · rcases List.mem_append.1 hx1 with hx2 | hx2
      · have hlt := hk.th x hx2
        rw [hnew _ hlt] at hwt
        obtain ⟨g1, g2⟩ := h x hx2 hb wt hwt
        refine ⟨g1, fun y hy hyt hyb => ?_⟩
        have hy0 : y ∈ (K.de ++ [⟨K.next, K.th.length, 1, 0, 1⟩]) ++ [⟨K.next + 1, K.th.length, 2, 0, 1⟩] := hy
        rcases List.mem_append.1 hy0 with hy1 | hy1
        · rcases List.mem_append.1 hy1 with hy2 | hy2
          · exact g2 y hy2 hyt hyb
          · have : y = ⟨K.next, K.th.length, 1, 0, 1⟩ := by simpa using hy2
            subst this
            simp at hyt
            omega
        · have : y = ⟨K.next + 1, K.th.length, 2, 0, 1⟩ := by simpa using hy1
          subst this
          simp at hyt
          omega
      · have : x = ⟨K.next, K.th.length, 1, 0, 1⟩ := by simpa using hx2
        subst this
        exact absurd (show bit 1 2 = true from hb) (by decide)
    · have : x = ⟨K.next + 1, K.th.length, 2, 0, 1⟩ := by simpa using hx1
      subst this
      have hw1 : wt = 1 := by
        have e : ((((K.th ++ [⟨ByteArray.empty, .pipe [] 1 1⟩])[K.th.length]?.map Th.ob).getD (.file []))).wts = some wt := hwt
        simp [Ob.wts] at e
        exact e.symm
      refine ⟨by omega, fun y hy hyt hyb => ?_⟩
      have hy0 : y ∈ (K.de ++ [⟨K.next, K.th.length, 1, 0, 1⟩]) ++ [⟨K.next + 1, K.th.length, 2, 0, 1⟩] := hy
      rcases List.mem_append.1 hy0 with hy1 | hy1
      · rcases List.mem_append.1 hy1 with hy2 | hy2
        · have := hk.th y hy2
          have e : y.th = K.th.length := hyt
          omega
        · have : y = ⟨K.next, K.th.length, 1, 0, 1⟩ := by simpa using hy2
          subst this
          exact absurd (show bit 1 2 = true from hyb) (by decide)
      · have : y = ⟨K.next + 1, K.th.length, 2, 0, 1⟩ := by simpa using hy1
        subst this
        rfl
theorem pinv_does {K : KS} (h : PInv K) (hk : KOk K) (hn : KNm K) (x : KSt) : PInv (K.does x) := by
  unfold KS.does
  split
  · exact pinv_open h hk hn _ _
  split
  · exact pinv_pipe h hk
  split
  · exact pinv_read h _ _
  split
  · exact pinv_write h _ _
  split
  · exact pinv_seek h _ _ _
  split
  · exact pinv_keep h _
  · exact pinv_drop h _
/-- Both ways to say whether a write would wait are one. -/
theorem pinv_can {K : KS} (h : PInv K) (d n : Int) : K.canWriteP d n = K.canWrite d n := by
  unfold KS.canWriteP KS.canWrite
  cases hx : K.find d with
  | none => rfl
  | some x =>
    simp only
    show (bit x.flags 2 && _) = (bit x.flags 2 && _)
    cases hb : bit x.flags 2 with
    | false => rfl
    | true =>
      simp only [Bool.true_and]
      cases hi : inN n with
      | false => rfl
      | true =>
        simp only [Bool.true_and]
        cases ho : K.tho x with
        | file b => simp only [refusal]; split <;> rfl
        | term ls scr => simp only [refusal]; split <;> rfl
        | pipe q rd wt =>
          obtain ⟨g1, -⟩ := h x (KS.find_some hx).1 hb wt (by show (K.obOf x.th).wts = some wt; rw [show K.obOf x.th = K.tho x from rfl, ho]; rfl)
          simp only [refusal]
          by_cases hr : rd = 0
          · rw [if_pos hr]
            unfold canW
            rw [hi, hr, decide_eq_true (show 0 < wt from g1)]
            rfl
          · rw [if_neg hr]
            cases hc : canW n q.length rd wt with
            | true => rfl
            | false => rfl
theorem pinv_new (fs : List Nm) (ts : List Tp) (l : List Fault) (h : (KS.new fs ts l).de = []) : PInv (KS.new fs ts l) := by
  intro x hx
  rw [h] at hx
  cases hx
theorem new_de (fs : List Nm) (ts : List Tp) (l : List Fault) : (KS.new fs ts l).de = [] := by
  unfold KS.new
  have h1 : ∀ (ts : List Tp) (K : KS), (ts.foldl (fun K t => K.addTh ⟨t.1, .term t.2 []⟩) K).de = K.de := fun ts => by
    induction ts with
    | nil => intro K; rfl
    | cons t r ih => intro K; rw [List.foldl_cons, ih]; rfl
  have h2 : ∀ (fs : List Nm) (K : KS), (fs.foldl (fun K f => K.addTh ⟨f.1, .file f.2⟩) K).de = K.de := fun fs => by
    induction fs with
    | nil => intro K; rfl
    | cons t r ih => intro K; rw [List.foldl_cons, ih]; rfl
  rw [h1, h2]
  rfl
/-- The next number never falls. -/
theorem next_does (K : KS) (x : KSt) : K.next ≤ (K.does x).next := by
  unfold KS.does
  split
  · unfold KS.open
    split
    · exact Nat.le_refl _
    split
    · exact Nat.le_refl _
    split
    · exact Nat.le_refl _
    cases hq : K.byName x.name with
    | some i =>
      simp only
      split
      · show K.next ≤ (K.cut i x.a).next + 1
        rw [(cut_same K i x.a).1]
        omega
      · exact Nat.le_refl _
    | none =>
      simp only
      split
      · exact Nat.le_refl _
      split
      · exact Nat.le_refl _
      · show K.next ≤ K.next + 1
        omega
  split
  · unfold KS.pipe
    split
    · exact Nat.le_refl _
    · show K.next ≤ K.next + 1 + 1
      omega
  split
  · unfold KS.read
    cases hx : K.find x.a with
    | none => exact Nat.le_refl _
    | some y =>
      simp only
      split
      · exact Nat.le_refl _
      split
      · exact Nat.le_refl _
      split
      · exact Nat.le_refl _
      split
      · exact Nat.le_refl _
      split
      · cases ho : K.tho y <;> exact Nat.le_refl _
      · exact Nat.le_refl _
  split
  · unfold KS.write
    cases hx : K.find x.a with
    | none => exact Nat.le_refl _
    | some y =>
      simp only
      split
      · exact Nat.le_refl _
      split
      · exact Nat.le_refl _
      split
      · exact Nat.le_refl _
      split
      · split
        · cases ho : K.tho y <;> exact Nat.le_refl _
        · exact Nat.le_refl _
      · exact Nat.le_refl _
  split
  · unfold KS.seek
    cases hx : K.find x.a with
    | none => exact Nat.le_refl _
    | some y =>
      simp only
      cases ho : K.tho y with
      | file b =>
        simp only
        generalize (if x.c = 1 then (y.pos : Int) else if x.c = 2 then (b.length : Int) else 0) = z
        split
        · exact Nat.le_refl _
        split
        · exact Nat.le_refl _
        · exact Nat.le_refl _
      | term ls scr => exact Nat.le_refl _
      | pipe q rd wt => exact Nat.le_refl _
  split
  · unfold KS.keepK
    cases hx : K.find x.a with
    | none => exact Nat.le_refl _
    | some y => simp only; split <;> exact Nat.le_refl _
  · unfold KS.dropK
    cases hx : K.find x.a with
    | none => exact Nat.le_refl _
    | some y =>
      simp only
      split
      · exact Nat.le_refl _
      · cases ho : K.tho y <;> exact Nat.le_refl _
end Go.Proofs.YtkkicbhmcjbmbaaGreat

/- KernPlays: are both kernels alike? -/
namespace Go.Proofs.YtkkicbhmcjbmbaaGreat
open Go.RowKit Go.Maps

theorem RAt.cells {w : World} {O : Nat → Prop} {kb : Nat} {K : KS} (h : RAt w O kb K) : ∃ pb pv, w.cell? ⟨kb, 2, none⟩ = some (.int .i64 K.next) ∧ w.cell? ⟨kb, 3, none⟩ = some (.pointer (some ⟨pb, 0, none⟩)) ∧ w.cell? ⟨kb, 4, none⟩ = some (.int .i64 K.reads) ∧ w.cell? ⟨kb, 5, none⟩ = some (.int .i64 K.writes) ∧ w.cell? ⟨pb, 0, none⟩ = some pv ∧ Flts w pv K.plan := by
  obtain ⟨B, ρ, I, h1, rfl, h3⟩ := h
  have hb := (h1.comp .kern).1
  have hp := (h1.comp .plan).1
  exact ⟨I.pb, I.pv, by rw [cell_of_row w I.kb 2 _ _ _ hb]; rfl, by rw [cell_of_row w I.kb 3 _ _ _ hb]; rfl, by rw [cell_of_row w I.kb 4 _ _ _ hb]; rfl, by rw [cell_of_row w I.kb 5 _ _ _ hb]; rfl, hp.left, hp.list⟩
theorem RAt.files {w : World} {O : Nat → Prop} {kb : Nat} {K : KS} (h : RAt w O kb K) :
    Calls Tryz.prog 67 #[.pointer (some ⟨kb, 0, none⟩)] w fun e w' => ∃ v us, e = .returned v ∧ w'.ownsRow w.heap.size 93 2 v K.files.length (ncs K.files us) ∧ LCells w' w.heap.size (K.files.map Prod.snd) us ∧ Below w.heap.size w w' := by
  obtain ⟨B, ρ, I, h1, rfl, h3⟩ := h
  exact rkfiles_any B ρ I K w h1
theorem RAt.screens {w : World} {O : Nat → Prop} {kb : Nat} {K : KS} (h : RAt w O kb K) :
    Calls Tryz.prog 70 #[.pointer (some ⟨kb, 0, none⟩)] w fun e w' => ∃ v us, e = .returned v ∧ w'.ownsRow w.heap.size 93 2 v K.screens.length (ncs K.screens us) ∧ LCells w' w.heap.size (K.screens.map Prod.snd) us ∧ Below w.heap.size w w' := by
  obtain ⟨B, ρ, I, h1, rfl, h3⟩ := h
  exact rkscreens_any B ρ I K w h1
theorem RAt.kinds {w : World} {O : Nat → Prop} {kb : Nat} {K : KS} (h : RAt w O kb K) (d : Int) :
    Calls Tryz.prog 73 #[.pointer (some ⟨kb, 0, none⟩), .int .i64 d] w fun e w' => e = .returned (.int .i64 (K.kindOf d)) ∧ w' = w := by
  obtain ⟨B, ρ, I, h1, rfl, h3⟩ := h
  exact rkind_any B ρ I K d w h1
theorem RAt.canRead {w : World} {O : Nat → Prop} {kb : Nat} {K : KS} (h : RAt w O kb K) (d : Int) :
    Calls Tryz.prog 75 #[.pointer (some ⟨kb, 0, none⟩), .int .i64 d] w fun e w' => e = .returned (.bool (K.canRead d)) ∧ w' = w := by
  obtain ⟨B, ρ, I, h1, rfl, h3⟩ := h
  exact rkcanRead_any B ρ I K d w h1
theorem RAt.canWrite {w : World} {O : Nat → Prop} {kb : Nat} {K : KS} (h : RAt w O kb K) (d n : Int) :
    Calls Tryz.prog 77 #[.pointer (some ⟨kb, 0, none⟩), .int .i64 d, .int .i64 n] w fun e w' => e = .returned (.bool (K.canWrite d n)) ∧ w' = w := by
  obtain ⟨B, ρ, I, h1, rfl, h3⟩ := h
  exact rkcanWrite_any B ρ I K d n w h1
theorem RAt.held {w : World} {O : Nat → Prop} {kb : Nat} {K : KS} (h : RAt w O kb K) (d : Int) :
    Calls Tryz.prog 79 #[.pointer (some ⟨kb, 0, none⟩), .int .i64 d] w fun e w' => ∃ a c, e = .returned (.slice a (K.heldOf d).length c) ∧ Bys w (.slice a (K.heldOf d).length c) (K.heldOf d) ∧ w' = w := by
  obtain ⟨B, ρ, I, h1, rfl, h3⟩ := h
  exact rkheld_any B ρ I K d w h1
theorem screens_ok {w : World} {O P : Nat → Prop} {kb mb : Nat} {K : KS} (h : KAt w O kb K) (h2 : RAt w P mb K) : K.screens.length ≤ 256 ∧ ∀ j (hj : j < K.screens.length), ∃ i ∈ K.nm, K.nameOf i = K.screens[j].1 ∧ (∃ ls, K.obOf i = .term ls K.screens[j].2) ∧ K.screens[j].1.size ≤ maxLen ∧ K.screens[j].2.length ≤ 1048576 := by
  have hok := h.ok
  refine ⟨?_, fun j hj => ?_⟩
  · have h1 : K.screens.length ≤ K.nm.length := by
      unfold KS.screens KS.tidx
      rw [List.length_map]
      exact List.length_filter_le _ _
    have := hok.1.named
    omega
  · have hm : K.screens[j] ∈ K.screens := List.getElem_mem hj
    obtain ⟨i, hi, he⟩ := List.mem_map.1 hm
    obtain ⟨hi1, hi2⟩ := List.mem_filter.1 hi
    refine ⟨i, hi1, by rw [← he], ?_, ?_, ?_⟩
    · cases ho : K.obOf i with
      | file b => rw [ho] at hi2; simp [Ob.kind] at hi2
      | term ls scr => exact ⟨ls, by rw [← he]; simp only [ho]; rfl⟩
      | pipe q rd wt => rw [ho] at hi2; simp [Ob.kind] at hi2
    · rw [← he]
      have := name_few (hok.2.ok i hi1)
      show (K.nameOf i).size ≤ maxLen
      unfold maxLen
      omega
    · obtain ⟨_, ρ, I, h1, -, -⟩ := h2
      have hlt := hok.1.nm i hi1
      have ht := (h1.comp (.obj i) hlt).2
      rw [← KS.obOf_eq hlt] at ht
      rw [← he]
      show (K.obOf i).shown.length ≤ 1048576
      cases ho : K.obOf i with
      | file b => simp [Ob.shown]
      | term ls scr => rw [ho] at ht; exact ht.2.2
      | pipe q rd wt => simp [Ob.shown]
theorem held_few {w : World} {P : Nat → Prop} {mb : Nat} {K : KS} (h : RAt w P mb K) (d : Int) : (K.heldOf d).length ≤ 4096 := by
  obtain ⟨_, ρ, I, h1, -, -⟩ := h
  unfold KS.heldOf
  cases hx : K.find d with
  | none => simp
  | some x =>
    simp only
    have hlt := h1.ok.th x (KS.find_some hx).1
    have ht := (h1.comp (.obj x.th) hlt).2
    rw [← KS.tho_eq hlt] at ht
    cases ho : K.tho x with
    | file b => simp
    | term ls scr => simp
    | pipe q rd wt => rw [ho] at ht; exact ht.1
/-- The cells of the reference's kernel. -/
def MCells (W : World) (mb pb : Nat) (K : KS) (pa : Option Addr) (pn pc : Nat) : Prop := W.cell? ⟨mb, 2, none⟩ = some (.int .i64 K.next) ∧ W.cell? ⟨mb, 3, none⟩ = some (.pointer (some ⟨pb, 0, none⟩)) ∧ W.cell? ⟨mb, 4, none⟩ = some (.int .i64 K.reads) ∧ W.cell? ⟨mb, 5, none⟩ = some (.int .i64 K.writes) ∧ W.cell? ⟨pb, 0, none⟩ = some (.slice pa pn pc)
set_option maxRecDepth 100000 in
set_option maxHeartbeats 4000000 in
theorem same_kern (B kb mb : Nat) (K : KS) (w : World) (hD : Duo w B kb mb K K) (hP : PInv K) (hk : KSmall K) :
    Calls Tryz.prog 13 #[.pointer (some ⟨kb, 0, none⟩), .pointer (some ⟨mb, 0, none⟩)] w fun e w' => e = .returned (.bool true) ∧ Below w.heap.size w w' := by
  obtain ⟨O, P, hK, hM, hO, hPj⟩ := hD
  obtain ⟨pb, pv, m2, m3, m4, m5, mp, hF⟩ := hM.cells
  obtain ⟨pa, pc, hpv, -⟩ := flts_form hF
  subst hpv
  have hmb : mb < w.heap.size := World.block_lt_of_cell? w _ m2
  have hpb : pb < w.heap.size := World.block_lt_of_cell? w _ mp
  have HMC : Hid (∀ w', Below w.heap.size w w' → MCells w' mb pb K pa K.plan.length pc) := fun w' hb => ⟨(hb.cell (p := ⟨mb, 2, none⟩) hmb).trans m2, (hb.cell (p := ⟨mb, 3, none⟩) hmb).trans m3, (hb.cell (p := ⟨mb, 4, none⟩) hmb).trans m4, (hb.cell (p := ⟨mb, 5, none⟩) hmb).trans m5, (hb.cell (p := ⟨pb, 0, none⟩) hpb).trans mp⟩
  have HK := hide hK
  have HM := hide hM
  have HF := hide hF
  have HPI := hide hP
  have HKs := hide hk
  have HFo := hide (hK.files_ok)
  have HSo := hide (screens_ok hK hM)
  have HPl := hide (hK.ok.1.plan)
  have H1 := hide hK.calls
  clear m2 m3 m4 m5 mp hF hK hM hP hk hmb hpb
  go_enter Tryz.func13, Tryz.ntmps13
  go_wp2_with fail
  refine H1.out.mono ?_
  rintro e w1 ⟨rfl, hB1⟩
  have HB1 := hide hB1
  obtain ⟨m2, m3, m4, m5, mp⟩ := HMC.out w1 hB1
  clear hB1 H1
  go_wp2_with fail
  go_region_held3 (fun w' => w'.cell? ⟨mb, 2, none⟩ = some (.int .i64 K.next) ∧ w'.cell? ⟨mb, 3, none⟩ = some (.pointer (some ⟨pb, 0, none⟩)) ∧ w'.cell? ⟨mb, 4, none⟩ = some (.int .i64 K.reads) ∧ w'.cell? ⟨mb, 5, none⟩ = some (.int .i64 K.writes) ∧ w'.cell? ⟨pb, 0, none⟩ = some (.slice pa K.plan.length pc))
    (first | exact HMC.out _ hbU | exact HMC.out _ hbR | exact HMC.out _ hbN | exact HMC.out _ hbG | exact HMC.out _ hbF | exact HMC.out _ HB1.out.drew | go_keep)
    (first
      | (go_at_call 66; refine ((HK.out.below HB1.out.drew).files).mono ?_; rintro e wF ⟨vF, usF, rfl, hOF, hLF, hBF⟩; have hbF : Below w.heap.size w wF := HB1.out.drew.trans (hBF.mono HB1.out.size); have hNF := nms_of_owns hOF hLF (fun j hj => (HFo.out.2 j hj).2); obtain ⟨aF, cF, rfl⟩ := owns_slice hOF)
      | (go_at_call 67; refine ((HM.out.below hbF).files).mono ?_; rintro e wG ⟨vG, usG, rfl, hOG, hLG, hBG⟩; have hbG : Below w.heap.size w wG := hbF.trans (hBG.mono hbF.size); have hNG := nms_of_owns hOG hLG (fun j hj => (HFo.out.2 j hj).2); obtain ⟨aG, cG, rfl⟩ := owns_slice hOG)
      | (go_at_call 65; refine (sameNamed_any _ _ K.files wG (hNF.below hBG) hNG (by have := HFo.out.1; unfold maxLen; omega) (fun j hj => by have := (HFo.out.2 j hj).1; unfold maxLen; omega)).mono ?_; rintro e wN ⟨rfl, hBN⟩; have hbN : Below w.heap.size w wN := hbG.trans (hBN.mono hbG.size))
      | (go_at_call 69; refine ((HK.out.below hbN).rest).mono ?_; rintro e wR ⟨vR, rfl, hOR, hBR⟩; have hbR : Below w.heap.size w wR := hbN.trans (hBR.mono hbN.size); have hFR := Flts.of_owns hOR; obtain ⟨aR, cR, rfl⟩ := owns_slice hOR)
      | (go_at_call 68; refine (samef_any _ _ K.plan wR hFR (HF.out.below hbR) (by have := HPl.out.1; unfold maxLen; omega)).mono ?_; rintro e wU ⟨rfl, hBU⟩; have hbU : Below w.heap.size w wU := hbR.trans (hBU.mono hbR.size))
      | fail)
  have HbU := hide hbU
  have HSc := hide ((HM.out.below hbU).screens)
  clear hOF hLF hBF hbF hNF hOG hLG hBG hbG hNG hBN hbN hOR hBR hbR hFR hBU hbU
  go_wp2_with fail
  refine HSc.out.mono ?_
  rintro e wS ⟨vS, us, rfl, hOS, hLS, hBS⟩
  have HbS := hide (HbU.out.trans (hBS.mono HbU.out.size))
  obtain ⟨aS, cS, rfl⟩ := owns_slice hOS
  have HOS := hide hOS
  have HLS := hide hLS
  clear hOS hLS hBS HSc
  have hsl := HSo.out.1
  have HNS := hide (nms_of_owns HOS.out HLS.out (fun j hj => by obtain ⟨_, _, _, _, h, _⟩ := HSo.out.2 j hj; exact h))
  clear HOS HLS
  go_wp2
  go_loopg [8] K.screens.length (fun g s8 wx => ∃ i : Nat, i + g = K.screens.length ∧ s8 = .int .i64 i ∧ Hid (Below wS.heap.size wS wx))
  case atStart => exact ⟨0, by omega, rfl, Below.refl _ _⟩
  case round =>
    obtain ⟨i, hig, rfl, HBx⟩ := hrel
    have HBw := hide (HbS.out.trans (HBx.out.mono HbS.out.size))
    by_cases hlt : i < K.screens.length
    · obtain ⟨g, rfl⟩ : ∃ g, gk = g + 1 := ⟨gk - 1, by omega⟩
      have hl1 : (i : Int) < (K.screens.length : Int) := by omega
      have hl0 : (0 : Int) ≤ (i : Int) := by omega
      obtain ⟨b, off, va, vc, rfl, hbl, q0, q1, hby, hcap, hnz⟩ := (HNS.out.below HBx.out).at i hlt
      obtain ⟨ix, hix, hnx, ⟨ls, hox⟩, hsz, hfw⟩ := HSo.out.2 i hlt
      have HSn := hide ((HK.out.below HBw.out).screen K.screens[i].1 hsz ix hix hnx ls K.screens[i].2 hox)
      have HY := hide hby
      have hcb := World.block_lt_of_cell? wr _ q1
      have HQ1 := hide q1
      clear hby hcap hnz hix hnx hox
      generalize K.screens[i] = y at *
      obtain ⟨yn, yd⟩ := y
      simp only at *
      go_wp2_with fail
      refine HSn.out.mono ?_
      rintro e wT ⟨vT, rfl, hOT, hBT⟩
      have c1 := (hBT.cell (p := ⟨b, off + i * 2 + 1, none⟩) hcb).trans HQ1.out
      have HSm := hide (same_any _ _ yd wT (Bys.of_owns hOT) (HY.out.below hBT) (by unfold maxLen; omega))
      obtain ⟨aT, cT, rfl⟩ := owns_slice hOT
      have HBT := hide (HBx.out.trans (hBT.mono HBx.out.size))
      clear hOT hBT q0 q1
      go_wp2_with (first | (go_at_call 38; refine HSm.out.mono ?_; rintro _ wV ⟨rfl, hBV⟩) | fail)
      go_roundg g
      case measure => omega
      case rel => exact ⟨i + 1, by omega, by go_num, HBT.out.trans (hBV.mono HBT.out.size)⟩
    · have hl1 : ¬ (i : Int) < (K.screens.length : Int) := by omega
      clear HBx HbS HbU HB1 m2 m3 m4 m5 mp
      obtain ⟨m2, m3, m4, m5, mp⟩ := HMC.out wr HBw.out
      have hkn := HKs.out.2.1
      go_wp2
      go_loopg [11] (K.next + 1) (fun g s11 wx => ∃ d : Nat, d + g = K.next + 1 ∧ s11 = .int .i64 d ∧ Hid (Below w.heap.size w wx))
      case atStart => exact ⟨0, by omega, rfl, HBw⟩
      case round =>
        obtain ⟨d, hdg, rfl, HBx⟩ := hrel
        clear m2 m3 m4 m5 mp HBw
        obtain ⟨m2, m3, m4, m5, mp⟩ := HMC.out _ HBx.out
        clear m3 m4 m5 mp
        have hw1 : wrap64 ((K.next : Int) + 1) = (K.next : Int) + 1 := by unfold wrap64; omega
        by_cases hlt2 : d < K.next + 1
        · obtain ⟨g, rfl⟩ : ∃ g, gk = g + 1 := ⟨gk - 1, by omega⟩
          have hl3 : (d : Int) < (K.next : Int) + 1 := by omega
          have hd64 : I64 (d : Int) := ⟨by omega, by omega⟩
          have hK0 := HK.out.below HBx.out
          have hM0 := HM.out.below HBx.out
          have hfew := held_few hM0 (d : Int)
          have HK0 := hide hK0
          have HM0 := hide hM0
          have Hd := hide hd64
          clear hK0 hM0 hd64
          generalize hkd : K.kindOf (d : Int) = kd at *
          generalize hcr : K.canRead (d : Int) = cr at *
          generalize hcw : K.canWrite (d : Int) 600 = cw at *
          generalize hhl : K.heldOf (d : Int) = hl at *
          have HD := hide (And.intro hkd (And.intro hcr (And.intro hcw hhl)))
          clear hkd hcr hcw hhl
          go_wp2_with (first
            | (go_at_call 72; have hq := HK0.out.kinds (d : Int) Hd.out; rw [HD.out.1] at hq; refine hq.mono ?_; clear hq; rintro e wA ⟨rfl, hBA⟩; have HBA := hide hBA; clear hBA)
            | (go_at_call 73; have hq := (HM0.out.below HBA.out).kinds (d : Int); rw [HD.out.1] at hq; refine hq.mono ?_; clear hq; rintro _ _ ⟨rfl, rfl⟩)
            | (go_at_call 74; have hq := (HK0.out.below HBA.out).canRead (d : Int) Hd.out; rw [HD.out.2.1] at hq; refine hq.mono ?_; clear hq; rintro e wC ⟨rfl, hBC⟩; have HBC := hide (HBA.out.trans (hBC.mono HBA.out.size)); clear hBC)
            | (go_at_call 75; have hq := (HM0.out.below HBC.out).canRead (d : Int); rw [HD.out.2.1] at hq; refine hq.mono ?_; clear hq; rintro _ _ ⟨rfl, rfl⟩)
            | (go_at_call 76; have hq := (HK0.out.below HBC.out).canWrite (d : Int) 600 Hd.out; rw [pinv_can HPI.out, HD.out.2.2.1] at hq; refine hq.mono ?_; clear hq; rintro e wD ⟨rfl, hBD⟩; have HBD := hide (HBC.out.trans (hBD.mono HBC.out.size)); clear hBD)
            | (go_at_call 77; have hq := (HM0.out.below HBD.out).canWrite (d : Int) 600; rw [HD.out.2.2.1] at hq; refine hq.mono ?_; clear hq; rintro _ _ ⟨rfl, rfl⟩)
            | (go_at_call 78; have hq := (HK0.out.below HBD.out).held (d : Int) Hd.out; rw [HD.out.2.2.2] at hq; refine hq.mono ?_; clear hq; rintro e wE ⟨vE, rfl, hOE, hBE⟩; have HBE := hide (HBD.out.trans (hBE.mono HBD.out.size)); have HYE := hide (Bys.of_owns hOE); obtain ⟨aE, cE, rfl⟩ := owns_slice hOE; clear hBE hOE)
            | (go_at_call 79; have hq := (HM0.out.below HBE.out).held (d : Int); rw [HD.out.2.2.2] at hq; refine hq.mono ?_; clear hq; rintro e _ ⟨aG, cG, rfl, hYG, rfl⟩; have HYG := hide hYG; clear hYG)
            | (go_at_call 38; refine (same_any _ _ hl _ HYE.out HYG.out (by unfold maxLen; omega)).mono ?_; rintro e wH ⟨rfl, hBH⟩; have HBH := hide (HBE.out.trans (hBH.mono HBE.out.size)); clear hBH)
            | fail)
          go_roundg g
          case measure => omega
          case rel => exact ⟨d + 1, by omega, by go_num, HBx.out.trans (HBH.out.mono HBx.out.size)⟩
        · have hl3 : ¬ (d : Int) < (K.next : Int) + 1 := by omega
          go_wp2
          go_ret
          exact ⟨rfl, HBx.out⟩
end Go.Proofs.YtkkicbhmcjbmbaaGreat

/- KernPlays, walked. -/
namespace Go.Proofs.YtkkicbhmcjbmbaaGreat
open Go.RowKit Go.Maps

theorem rem4 (k : Nat) : (k : Int).tmod 4 = ((k % 4 : Nat) : Int) := by
  rw [Int.tmod_eq_emod_of_nonneg (by omega)]; omega
set_option maxRecDepth 100000 in
set_option maxHeartbeats 8000000 in
theorem kernPlays_any (a1 a2 a3 a4 : Option Addr) (c1 c2 c3 c4 : Nat) (fs : List Nm) (ts : List Tp) (g : List Fault) (l : List KSt) (w : World) (h1 : Nms w (.slice a1 fs.length c1) fs) (h2 : Tps w (.slice a2 ts.length c2) ts) (h3 : Flts w (.slice a3 g.length c3) g) (h4 : KSts w (.slice a4 l.length c4) l)
    (z1 : fs.length * 40 ≤ 140737488351232 ∧ ∀ j (hj : j < fs.length), fs[j].2.length ≤ 140737488351232) (z2 : ts.length * 40 ≤ 140737488351232 ∧ ∀ j (hj : j < ts.length), ts[j].2.length * 24 ≤ 140737488351232 ∧ ∀ i (hi : i < ts[j].2.length), ts[j].2[i].length ≤ 140737488351232) (z3 : g.length * 16 ≤ 140737488351232) (z4 : l.length * 72 ≤ 140737488351232 ∧ ∀ i (hi : i < l.length), l[i].data.length ≤ 140737488351232) :
    Calls Tryz.prog 3 #[.agg #[.slice a1 fs.length c1, .slice a2 ts.length c2, .slice a3 g.length c3], .slice a4 l.length c4] w fun e w' => e = .returned (.bool true) ∧ Below w.heap.size w w' := by
  have hb0 := recv_below w (Obj.cells #[Value.slice a1 fs.length c1, Value.slice a2 ts.length c2, Value.slice a3 g.length c3] 26)
  obtain ⟨q0, q1, q2⟩ := trio_cells w (.slice a1 fs.length c1) (.slice a2 ts.length c2) (.slice a3 g.length c3) 26
  have HQ0 := hide (And.intro q0 (And.intro q1 q2))
  have H4 := hide h4
  have Z4 := hide z4
  have HCf := hide fun w1 (hB1 : Below w.heap.size w w1) => config_any a1 a2 a3 c1 c2 c3 fs ts g w1 (h1.below hB1) (h2.below hB1) (h3.below hB1) z1 z2 z3
  have HCk := hide fun w1 (hB1 : Below w.heap.size w w1) => rkcheck_any (.slice a1 fs.length c1) (.slice a2 ts.length c2) (.slice a3 g.length c3) fs ts g w1 (h1.below hB1) (h2.below hB1) (h3.below hB1) z1.1 z2.1 (fun j hj => (z2.2 j hj).1) (by unfold maxLen; omega)
  have HPg := hide fun w1 (hB1 : Below w.heap.size w w1) => page_any a1 a2 a3 c1 c2 c3 fs ts g w1 (h1.below hB1) (h2.below hB1) (h3.below hB1) z1.1 ⟨z2.1, fun j hj => (z2.2 j hj).1⟩ z3
  have HZ := hide (And.intro z1.1 (And.intro z2.1 z3))
  have HB0 := hide hb0
  have hls : w.heap.size < (w.alloc (Obj.cells #[Value.slice a1 fs.length c1, Value.slice a2 ts.length c2, Value.slice a3 g.length c3] 26)).heap.size := size_new _ _
  clear h1 h2 h3 h4 z1 z2 z3 z4 hb0 q0 q1 q2
  go_enter Tryz.func3, Tryz.ntmps3
  go_wp2_with fail
  generalize w.alloc (Obj.cells #[Value.slice a1 fs.length c1, Value.slice a2 ts.length c2, Value.slice a3 g.length c3] 26) = w0 at *
  refine (HCf.out w0 HB0.out).mono ?_
  rintro e w1 ⟨b1, d1, b2, d2, b3, d3, rfl, hN, hT, hF, hB1⟩
  have HB1 := hide (HB0.out.trans (hB1.mono HB0.out.size))
  have q0 := (hB1.cell (p := ⟨w.heap.size, 0, none⟩) hls).trans HQ0.out.1
  have q1 := (hB1.cell (p := ⟨w.heap.size, 1, none⟩) hls).trans HQ0.out.2.1
  have q2 := (hB1.cell (p := ⟨w.heap.size, 2, none⟩) hls).trans HQ0.out.2.2
  have hbc := recv_below w1 (Obj.cells #[.slice b1 fs.length d1, .slice b2 ts.length d2, .slice b3 g.length d3] 28)
  obtain ⟨p0, p1, p2⟩ := trio_cells w1 (.slice b1 fs.length d1) (.slice b2 ts.length d2) (.slice b3 g.length d3) 28
  have hls1 : w.heap.size < w1.heap.size := Nat.lt_of_lt_of_le hls hB1.size
  have q0 := (hbc.cell (p := ⟨w.heap.size, 0, none⟩) hls1).trans q0
  have q1 := (hbc.cell (p := ⟨w.heap.size, 1, none⟩) hls1).trans q1
  have q2 := (hbc.cell (p := ⟨w.heap.size, 2, none⟩) hls1).trans q2
  have hlc : w1.heap.size < (w1.alloc (Obj.cells #[.slice b1 fs.length d1, .slice b2 ts.length d2, .slice b3 g.length d3] 28)).heap.size := size_new _ _
  have HQ := hide (And.intro q0 (And.intro q1 q2))
  have HP := hide (And.intro p0 (And.intro p1 p2))
  have HBc := hide (HB1.out.trans (hbc.mono HB1.out.size))
  have HN3 := hide (And.intro (hN.below hbc) (And.intro (hT.below hbc) (hF.below hbc)))
  clear hN hT hF hB1 hbc q0 q1 q2 p0 p1 p2 HQ0 HB0 HCf hls HB1
  go_wp2_with fail
  generalize w1.alloc (Obj.cells #[.slice b1 fs.length d1, .slice b2 ts.length d2, .slice b3 g.length d3] 28) = wc at *
  have hlw : w.heap.size < wc.heap.size := Nat.lt_trans hls1 hlc
  have HKc := hide fun w2 (hB2 : Below wc.heap.size wc w2) => kcheck_any b1 b2 b3 d1 d2 d3 fs ts g w2 (HN3.out.1.below hB2) (HN3.out.2.1.below hB2) (HN3.out.2.2.below hB2) (by have := HZ.out.2.2; unfold maxLen; omega) (by have := HZ.out.1; omega) (by have := HZ.out.2.1; omega)
  by_cases hE : checkE fs ts g = 0
  case neg =>
    have HN := hide (knew_bad b1 b2 b3 d1 d2 d3 fs ts g wc HN3.out.1 HN3.out.2.1 HN3.out.2.2 HZ.out.2.2 (by have := HZ.out.1; omega) (by have := HZ.out.2.1; omega) hE)
    clear HN3
    have HE := hide hE
    clear hE
    generalize checkE fs ts g = E at *
    refine HN.out.mono ?_
    rintro e w2 ⟨rfl, hB2⟩
    have q0 := (hB2.cell (p := ⟨w.heap.size, 0, none⟩) hlw).trans HQ.out.1
    have q1 := (hB2.cell (p := ⟨w.heap.size, 1, none⟩) hlw).trans HQ.out.2.1
    have q2 := (hB2.cell (p := ⟨w.heap.size, 2, none⟩) hlw).trans HQ.out.2.2
    have HB2 := hide hB2
    have HBw2 := hide (HBc.out.trans (hB2.mono HBc.out.size))
    clear hB2
    go_wp2_with fail
    refine (HCk.out w2 HBw2.out).mono ?_
    rintro e w3 ⟨rfl, hB3⟩
    have r0 := (hB3.cell (p := ⟨w.heap.size, 0, none⟩) (Nat.lt_of_lt_of_le hlw HB2.out.size)).trans q0
    have r1 := (hB3.cell (p := ⟨w.heap.size, 1, none⟩) (Nat.lt_of_lt_of_le hlw HB2.out.size)).trans q1
    have r2 := (hB3.cell (p := ⟨w.heap.size, 2, none⟩) (Nat.lt_of_lt_of_le hlw HB2.out.size)).trans q2
    have HB3 := hide (HB2.out.trans (hB3.mono HB2.out.size))
    have HBw3 := hide (HBc.out.trans (HB3.out.mono HBc.out.size))
    clear hB3 q0 q1 q2
    go_wp2_with fail
    refine (HPg.out w3 HBw3.out).mono ?_
    rintro e w4 ⟨hB4, hor⟩
    rcases hor with ⟨hne, rfl⟩ | ⟨he0, _⟩
    case inr => exact absurd he0 HE.out
    have HB4 := hide (HB3.out.trans (hB4.mono HB3.out.size))
    have p0 := (HB4.out.cell (p := ⟨w1.heap.size, 0, none⟩) hlc).trans HP.out.1
    have p1 := (HB4.out.cell (p := ⟨w1.heap.size, 1, none⟩) hlc).trans HP.out.2.1
    have p2 := (HB4.out.cell (p := ⟨w1.heap.size, 2, none⟩) hlc).trans HP.out.2.2
    have HBw4 := hide (HBc.out.trans (HB4.out.mono HBc.out.size))
    clear hB4 r0 r1 r2 hne
    go_wp2_with (first | (go_at_call 10; refine (num_kp _ _).mono ?_; rintro _ _ ⟨rfl, rfl⟩) | (go_at_call 11; refine (HKc.out w4 HB4.out).mono ?_; rintro e w5 ⟨rfl, hB5⟩; have HB5 := hide hB5; clear hB5) | fail)
    have HB5w := hide (HBw4.out.trans (HB5.out.mono HBw4.out.size))
    go_loopg [10] 0 (fun gq s10 wx => s10 = .int .i64 0 ∧ Hid (Below w.heap.size w wx))
    case atStart => exact ⟨rfl, HB5w⟩
    case round =>
      obtain ⟨rfl, HBx⟩ := hrel
      go_wp2_with (first | (go_at_call 14; refine (alive_any _).mono ?_; rintro e w6 ⟨rfl, hB6⟩) | fail)
      go_ret
      exact ⟨rfl, HBx.out.trans (hB6.mono HBx.out.size)⟩
  have HN := hide (knew_good b1 b2 b3 d1 d2 d3 fs ts g wc HN3.out.1 HN3.out.2.1 HN3.out.2.2 HZ.out.2.2 (by have := HZ.out.1; omega) (by have := HZ.out.2.1; omega) hE)
  clear HN3
  rw [hE] at HCk HKc
  have HE := hide hE
  clear hE
  refine HN.out.mono ?_
  rintro e w2 ⟨kb, rfl, hK, hB2⟩
  have q0 := (hB2.cell (p := ⟨w.heap.size, 0, none⟩) hlw).trans HQ.out.1
  have q1 := (hB2.cell (p := ⟨w.heap.size, 1, none⟩) hlw).trans HQ.out.2.1
  have q2 := (hB2.cell (p := ⟨w.heap.size, 2, none⟩) hlw).trans HQ.out.2.2
  have HK := hide hK.trim
  have HB2 := hide hB2
  have HBw2 := hide (HBc.out.trans (hB2.mono HBc.out.size))
  have HNn := hide (new_nums fs ts g)
  have HPi := hide (pinv_new fs ts g (new_de fs ts g))
  clear hB2 hK HN
  go_wp2_with fail
  refine (HCk.out w2 HBw2.out).mono ?_
  rintro e w3 ⟨rfl, hB3⟩
  have r0 := (hB3.cell (p := ⟨w.heap.size, 0, none⟩) (Nat.lt_of_lt_of_le hlw HB2.out.size)).trans q0
  have r1 := (hB3.cell (p := ⟨w.heap.size, 1, none⟩) (Nat.lt_of_lt_of_le hlw HB2.out.size)).trans q1
  have r2 := (hB3.cell (p := ⟨w.heap.size, 2, none⟩) (Nat.lt_of_lt_of_le hlw HB2.out.size)).trans q2
  have HB23 := hide hB3
  have HB3 := hide (HB2.out.trans (hB3.mono HB2.out.size))
  have HBw3 := hide (HBc.out.trans (HB3.out.mono HBc.out.size))
  clear hB3 q0 q1 q2
  go_wp2_with fail
  refine (HPg.out w3 HBw3.out).mono ?_
  rintro e w4 ⟨hB4, hor⟩
  rcases hor with ⟨hne, _⟩ | ⟨_, B, ρ, I, hBk, rfl, hRK⟩
  case inl => exact absurd HE.out hne
  have hM := RAt.of_page hBk hRK
  have HB4 := hide (HB3.out.trans (hB4.mono HB3.out.size))
  have hz2 := HB2.out.size
  have hz23 := HB23.out.size
  have hz4 := hB4.size
  have hD : Duo w4 wc.heap.size kb I.kb (KS.new fs ts g) (KS.new fs ts g) := ⟨_, _, (HK.out.below HB23.out).below hB4, hM.trim, fun j e => ⟨e.1, by have := e.2; omega, fun e' => by have := e.2; have := e'.1; omega⟩, fun j e => ⟨by have := e.1; omega, e.2⟩⟩
  have HD := hide hD
  have p0 := (HB4.out.cell (p := ⟨w1.heap.size, 0, none⟩) hlc).trans HP.out.1
  have p1 := (HB4.out.cell (p := ⟨w1.heap.size, 1, none⟩) hlc).trans HP.out.2.1
  have p2 := (HB4.out.cell (p := ⟨w1.heap.size, 2, none⟩) hlc).trans HP.out.2.2
  have HBw4 := hide (HBc.out.trans (HB4.out.mono HBc.out.size))
  generalize I.kb = mb at *
  clear hB4 r0 r1 r2 hM hRK hBk hD HK HPg HCk
  generalize KS.new fs ts g = K0 at *
  go_wp2_with (first | (go_at_call 10; refine (num_kp _ _).mono ?_; rintro _ _ ⟨rfl, rfl⟩) | (go_at_call 11; refine (HKc.out w4 HB4.out).mono ?_; rintro e w5 ⟨rfl, hB5⟩; have HB5 := hide hB5; clear hB5) | fail)
  have HB5w := hide (HBw4.out.trans (HB5.out.mono HBw4.out.size))
  have HD5 := hide (HD.out.below HB5.out)
  have HB5c := hide (HB4.out.trans (HB5.out.mono HB4.out.size))
  have hcw := HBc.out.size
  clear HB5 HB4 HD p0 p1 p2 HBw4 HKc HP HQ HB2 HB3 HBw2 HBw3 HB23
  go_loopg [10] l.length (fun gq s10 wx => ∃ (k : Nat) (K : KS), k + gq = l.length ∧ s10 = .int .i64 k ∧ Hid (Duo wx wc.heap.size kb mb K K) ∧ Hid (PInv K) ∧ Hid (1 ≤ K.next ∧ K.next ≤ 1 + 2 * k ∧ K.reads ≤ k ∧ K.writes ≤ k) ∧ Hid (Below wc.heap.size wc wx))
  case atStart => exact ⟨0, K0, by omega, rfl, HD5, HPi, hide (by have := HNn.out; omega), HB5c⟩
  case round =>
    clear HD5 HPi HNn HB5c HB5w
    obtain ⟨k, K, hkg, rfl, HD, HPi, HNum, HBx⟩ := hrel
    have HBw := hide (HBc.out.trans (HBx.out.mono HBc.out.size))
    have hz4 := Z4.out.1
    have HKs : Hid (KSmall K) := hide (by have := HNum.out; unfold KSmall; omega)
    have hBz := HBx.out.size
    by_cases hlt : k < l.length
    · obtain ⟨gq, rfl⟩ : ∃ gq, gk = gq + 1 := ⟨gk - 1, by omega⟩
      obtain ⟨b, off, ya, yc, rfl, hb, q0, q1, q2, q3, q4, q5, hby, hcap, hsz, i1, i2, i3⟩ := ksts_at H4.out HBw.out k hlt
      have hdata := Z4.out.2 k hlt
      have hk1 : (0 : Int) ≤ (k : Int) := by omega
      have hk2 : (k : Int) < (l.length : Int) := by omega
      have hst : StIn wc.heap.size wr l[k] ya yc := ⟨hby.below HBw.out, hcap, hsz, i1, i2, i3, hdata, fun h0 j hj => by
        obtain ⟨_, yb, yo, e2, e3, _⟩ := bys_block hby h0
        rw [e2] at hj
        cases hj
        exact Nat.lt_of_lt_of_le e3 hcw⟩
      have HDo := hide (does_any wc.heap.size kb mb K l[k] ya yc wr HD.out hBz hst HKs.out)
      have HLe := hide (And.intro (kle_does K l[k]) (next_does K l[k]))
      have HPn : Hid (PInv (K.does l[k])) := hide (by
        obtain ⟨O, P, hK1, _, _, _⟩ := HD.out
        exact pinv_does HPi.out hK1.ok.1 hK1.ok.2 l[k])
      generalize hK' : K.does l[k] = K' at *
      clear hK'
      have HKs' : Hid (KSmall K') := hide (by have := HNum.out; have h := HLe.out; unfold KLe at h; unfold KSmall; omega)
      generalize l[k] = y at *
      obtain ⟨what, name, xa, xb, xc, data⟩ := y
      simp only at *
      clear hby hcap hsz i1 i2 i3 hdata hb hst
      by_cases h3 : k % 4 = 3
      · have hr4 : (k : Int).tmod 4 = 3 := by rw [rem4]; omega
        have hB6z : ∀ w6, Below wc.heap.size wr w6 → wc.heap.size ≤ w6.heap.size := fun w6 h => Nat.le_trans hBz h.size
        go_wp2_with (first | (go_at_call 12; refine HDo.out.mono ?_; rintro e w6 ⟨rfl, hD6, hB6⟩; have HD6 := hide hD6; have HB6 := hide hB6; clear hD6 hB6) | (go_at_call 13; refine (same_kern wc.heap.size kb mb K' w6 HD6.out HPn.out HKs'.out).mono ?_; rintro e w7 ⟨rfl, hB7⟩) | fail)
        go_roundg gq
        case measure => omega
        case rel => exact ⟨k + 1, K', by omega, by go_num, HD6.out.below hB7, HPn, hide (by have := HNum.out; have h := HLe.out; unfold KLe at h; omega), HBx.out.trans (HB6.out.trans (hB7.mono (hB6z w6 HB6.out)))⟩
      · have hr4 : (k : Int).tmod 4 ≠ 3 := by rw [rem4]; omega
        go_wp2_with (first | (go_at_call 12; refine HDo.out.mono ?_; rintro e w6 ⟨rfl, hD6, hB6⟩) | fail)
        go_roundg gq
        case measure => omega
        case rel => exact ⟨k + 1, K', by omega, by go_num, hD6, HPn, hide (by have := HNum.out; have h := HLe.out; unfold KLe at h; omega), HBx.out.trans hB6⟩
    · have hk2 : ¬ (k : Int) < (l.length : Int) := by omega
      go_wp2_with (first | (go_at_call 13; refine (same_kern wc.heap.size kb mb K wr HD.out HPi.out HKs.out).mono ?_; rintro e w7 ⟨rfl, hB7⟩; have HB7 := hide (HBw.out.trans (hB7.mono HBw.out.size)); clear hB7) | (go_at_call 14; refine (alive_any _).mono ?_; rintro e w8 ⟨rfl, hB8⟩) | fail)
      go_ret
      exact ⟨rfl, HB7.out.trans (hB8.mono HB7.out.size)⟩
end Go.Proofs.YtkkicbhmcjbmbaaGreat

/- KernPlays answers true for all setups and calls, within the reach of a machine's memory: a kernel of any files, terminals and faults answers any raw calls as the page's does, and is like it behind each. -/
namespace Go.Proofs.YtkkicbhmcjbmbaaGreat.kernPlays
open Go.ChangeShapes Go.WideShapes Go.ChangeAt Go.RowKit
open Go.ChangeMaps (open_string shut_string)
set_option linter.unusedVariables false

theorem own : ownKnob Tryz.prog.godebug = none := by kernel_rfl
theorem laidOut : laidOutB Tryz.prog = true := by kernel_rfl

set_option maxRecDepth 100000 in
theorem lifted (os : Os) (started : os.Started) (H : Type) (enc : TypeId × Value → H) :
    ReturnsInHanded {} Tryz.checked os 3 .any (Rows.kernPlaysSpec.pre6 enc Tryz.prog Tryz.f3 Rows.kernPlaysRow.domain false) (Rows.kernPlaysSpec.post enc Tryz.prog Tryz.f3 false true false false) := by
  refine returnsInHanded_of_change_sized (C := Tryz.checked) own started (by kernel_rfl) Tryz.func3
    (ChangeSpec.witness6 (enc := enc) (C := Tryz.checked) false ⟨#[], #[.agg #[.slice none 0 0, .slice none 0 0, .slice none 0 0], .slice none 0 0], []⟩ 8 (by kernel_rfl) (by kernel_rfl) (by kernel_rfl) (by kernel_rfl)) ?_
  intro W base args ds gs before hval0 hW hcnd0 hsz0 _
  have hsz : (DataW.weightsEach Tryz.prog (Tryz.f3.params.toList ++ Rows.kernPlaysSpec.plain.varTypes Tryz.prog) (ds ++ gs)).all (· ≤ reachBytes) = true := hsz0
  clear hsz0
  have hval : ∀ (j : Nat) t v, Tryz.f3.params[j]? = some t → args[j]? = some v → Value.okWide Tryz.prog W .any base t v := hval0
  have hW' := hW
  obtain ⟨p, q, hA0, hV, rfl, hfz, hnd⟩ := hW
  have hA : DataW.TrodAll enc Tryz.prog W 0 (fun _ => true) true Tryz.f3.params.toList args.toList ds p := hA0
  rw [Tryz.params3] at hA hval hsz
  obtain ⟨v0, vs0, d0, ds0, p0, q0, hargs, rfl, rfl, h0, r0⟩ := trodAll_cons hA
  obtain ⟨v1, vs1, d1, ds1, p1, q1, rfl, rfl, rfl, h1, r1⟩ := trodAll_cons r0
  obtain ⟨rfl, rfl, rfl⟩ := trodAll_nil r1
  obtain rfl : args = #[v0, v1] := by cases args; simp_all
  obtain ⟨rfl, rfl⟩ := trodVars_none hV
  obtain ⟨c0, rfl, hc0⟩ := okWide_struct Tryz.underlying26 (hval 0 26 v0 rfl rfl)
  have k0 := h0
  have lt0 : ∀ x ∈ p0, x.block < W.heap.size := by obtain ⟨m, hm⟩ := k0; exact DataW.trod_lt m _ _ _ hm
  obtain ⟨fuel0, hf0⟩ := h0
  obtain ⟨fa0, fl0, fc0, ta0, tl0, tc0, ga0, gl0, gc0, dn0, dt0, dg0, sf0, qn0, qt0, qg0, hcl0, rfl, hfn0, hft0, hfg0⟩ := setup_cells Tryz.underlying26 (by kernel_rfl) rfl rfl rfl (by kernel_rfl) (by kernel_rfl) (by kernel_rfl) Tryz.underlying22 Tryz.underlying23 Tryz.underlying24 hf0
  obtain rfl : c0 = #[.slice fa0 fl0 fc0, .slice ta0 tl0 tc0, .slice ga0 gl0 gc0] := by cases c0; simpa [Value.cells] using hcl0
  obtain ⟨fs0, yf0, ef0⟩ := nms_arg Tryz.underlying22 Tryz.underlying93 (by kernel_rfl) rfl rfl (by kernel_rfl) (by kernel_rfl) Tryz.underlying9 Tryz.underlying40 Tryz.underlying5 (by kernel_rfl) hfn0
  obtain ⟨ts0, yt0, et0⟩ := tps_arg Tryz.underlying23 Tryz.underlying98 (by kernel_rfl) rfl rfl (by kernel_rfl) (by kernel_rfl) Tryz.underlying9 Tryz.underlying96 Tryz.underlying40 (by kernel_rfl) Tryz.underlying5 (by kernel_rfl) hft0
  obtain ⟨gg0, yg0, eg0⟩ := faults_arg Tryz.underlying24 Tryz.underlying167 (by kernel_rfl) rfl rfl (by kernel_rfl) (by kernel_rfl) Tryz.underlying3 Tryz.underlying3 hfg0
  obtain rfl : fl0 = fs0.length := by obtain ⟨_, _, e, _⟩ := yf0; cases e; rfl
  obtain rfl : tl0 = ts0.length := by obtain ⟨_, _, e, _⟩ := yt0; cases e; rfl
  obtain rfl : gl0 = gg0.length := by obtain ⟨_, _, e, _⟩ := flts_form yg0; cases e; rfl
  have sm0 : Small Tryz.prog 26 (.agg [dn0, dt0, dg0]) := small_arg hsz (j := 0) rfl rfl
  have zf0 := named_small (sm0.fields Tryz.underlying26 0 _ _ rfl rfl) Tryz.underlying22 (by kernel_rfl) Tryz.underlying93 Tryz.underlying40 (by kernel_rfl) ef0
  have zt0 := typed_small (sm0.fields Tryz.underlying26 1 _ _ rfl rfl) Tryz.underlying23 (by kernel_rfl) Tryz.underlying98 Tryz.underlying96 Tryz.underlying40 (by kernel_rfl) (by kernel_rfl) et0
  have zg0 := faults_small (sm0.fields Tryz.underlying26 2 _ _ rfl rfl) Tryz.underlying24 (by kernel_rfl) eg0
  obtain ⟨c1, len1, cap1, rfl⟩ := okWide_slice Tryz.underlying27 (hval 1 27 v1 rfl rfl)
  have k1 := h1
  have lt1 : ∀ x ∈ p1, x.block < W.heap.size := by obtain ⟨m, hm⟩ := k1; exact DataW.trod_lt m _ _ _ hm
  obtain ⟨fuel1, hf1⟩ := h1
  obtain ⟨l1, y1, e1⟩ := ksts_arg Tryz.underlying27 Tryz.underlying42 (by kernel_rfl) rfl rfl rfl rfl rfl rfl (by kernel_rfl) (by kernel_rfl) (by kernel_rfl) (by kernel_rfl) (by kernel_rfl) (by kernel_rfl) Tryz.underlying3 Tryz.underlying9 Tryz.underlying3 Tryz.underlying3 Tryz.underlying3 Tryz.underlying40 Tryz.underlying5 (by kernel_rfl) hf1
  obtain rfl : len1 = l1.length := by obtain ⟨_, _, e, _⟩ := y1; cases e; rfl
  have z1 := ksteps_small (small_arg hsz (j := 1) (t := 27) rfl rfl) Tryz.underlying27 (by kernel_rfl) Tryz.underlying42 Tryz.underlying40 (by kernel_rfl) e1
  clear hA0
  refine (kernPlays_any _ _ _ _ _ _ _ _ fs0 ts0 gg0 l1 W yf0 yt0 yg0 y1 zf0 zt0 zg0 z1).mono fun e W' ⟨he, bel⟩ => ?_
  subst he
  exact ⟨_, rfl, _, _, _, [], _, [], hW', trodAll_mk1 (shut_bool Tryz.underlying4 _), (trodAll_cons_mk (Below.trod laidOut (by kernel_rfl) (of_decide_eq_true (by kernel_rfl)) k0 bel lt0) (trodAll_cons_mk (Below.trod laidOut (by kernel_rfl) (of_decide_eq_true (by kernel_rfl)) k1 bel lt1) trodAll_mk0)), rfl, bel.frame _, fun h => by cases h⟩

theorem over : Rows.kernPlaysRow.holds Tryz.pinned (OpenSpec.ofChange Rows.kernPlaysSpec) :=
  OpenClaim.holds_of_wide 3 Tryz.f3 rfl rfl rfl rfl rfl rfl rfl ⟨rfl, rfl, rfl, rfl, rfl⟩ rfl rfl rfl rfl rfl (by kernel_rfl) Tryz.func3 (by kernel_rfl)
    (of_decide_eq_true (by kernel_rfl)) (by unfold Func.isWrapper; first | (rw [if_pos (by decide +kernel)]; kernel_rfl) | (rw [if_neg (by decide +kernel)]; exact ⟨rfl, rfl⟩))
    (fun os started H enc _ => lifted os started H enc)
end Go.Proofs.YtkkicbhmcjbmbaaGreat.kernPlays
namespace Go.Proofs.YtkkicbhmcjbmbaaGreat
theorem kernPlays_holds : Rows.KernPlaysSaid := kernPlays.over
#print axioms kernPlays_holds
end Go.Proofs.YtkkicbhmcjbmbaaGreat
