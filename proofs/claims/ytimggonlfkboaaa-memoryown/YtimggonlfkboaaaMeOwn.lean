/- MemoryOwn, walked: memories that no call made; what was handed in is not kept. -/
import Derived.Test.YtimggonlfkboaaaMeAlive
namespace Go.Proofs.Ytimggonlfkboaaa
open Go.RowKit

set_option maxHeartbeats 1000000 in
theorem fMade_nil (w : World) : Calls Try.prog 57 #[.pointer none] w fun e w' => e = .returned (.bool false) ∧ w = w' := by
  go_enter Try.func57, Try.ntmps57
  go_wp2
  go_ret
  exact ⟨rfl, rfl⟩
set_option maxHeartbeats 1000000 in
theorem fread_nil (x y : Int) (w : World) : Calls Try.prog 51 #[.pointer none, .int .i64 x, .int .i64 y] w fun e w' => e = .returned (.tuple #[.slice none 0 0, .int .i64 2]) ∧ w = w' := by
  go_enter Try.func51, Try.ntmps51
  go_wp2_with (first | (go_at_call 57; refine (fMade_nil _).mono ?_; rintro _ _ ⟨rfl, rfl⟩) | fail)
  go_ret2
  exact ⟨rfl, rfl⟩
set_option maxHeartbeats 1000000 in
theorem fbytes_nil (w : World) : Calls Try.prog 54 #[.pointer none] w fun e w' => e = .returned (.slice none 0 0) ∧ w = w' := by
  go_enter Try.func54, Try.ntmps54
  go_wp2_with (first | (go_at_call 57; refine (fMade_nil _).mono ?_; rintro _ _ ⟨rfl, rfl⟩) | fail)
  go_ret
  exact ⟨rfl, rfl⟩
/-- A store that no call made lies at g. -/
structure Void (w : World) (g : Nat) : Prop where
  c0 : w.cell? ⟨g, 0, none⟩ = some (.pointer none)
  c2 : w.cell? ⟨g, 2, none⟩ = some (.int .i64 0)
  f2 : w.frozen? ⟨g, 2, none⟩ = false
theorem Void.other {w w' : World} {g : Nat} (h : Void w g) (hk : w'.heap[g]? = w.heap[g]?) : Void w' g :=
  ⟨(World.cell?_of_block (w := w) hk).trans h.c0, (World.cell?_of_block (w := w) hk).trans h.c2, (World.frozen?_of_block (w := w) hk).trans h.f2⟩
theorem Void.set {w : World} {g : Nat} (h : Void w g) : Void (w.setCell ⟨g, 2, none⟩ (.int .i64 0)) g :=
  ⟨(World.cell?_setCell_other _ _ _ _ (by simp)).trans h.c0, World.cell?_setCell_same _ _ _ h.c2, (World.frozen?_setCell _ _ _ _).trans h.f2⟩
set_option maxRecDepth 100000 in
set_option maxHeartbeats 1000000 in
theorem vread (g : Nat) (n : Int) (w : World) (h : Void w g) : Calls Try.prog 38 #[.pointer (some ⟨g, 0, none⟩), .int .i64 n] w fun e w' => e = .returned (.tuple #[.slice none 0 0, .int .i64 2]) ∧ Void w' g ∧ Turned (fun k => k = g) w w' := by
  have h0 := h.c0
  have h2 := h.c2
  have HV := hide h
  have HF := hide (fread_nil 0 n w.drew)
  clear h
  go_enter Try.func38, Try.ntmps38
  go_wp2_with fail
  go_region_held3 (fun w' => w'.cell? ⟨g, 0, none⟩ = some (.pointer none) ∧ w'.cell? ⟨g, 2, none⟩ = some (.int .i64 0))
    (first | exact hx5 | exact ⟨h0, h2⟩ | go_keep)
    (first
      | (go_at_call 51; refine HF.out.mono ?_; rintro e w2 ⟨rfl, rfl⟩; have hx5 : w.drew.cell? ⟨g, 0, none⟩ = some (.pointer none) ∧ w.drew.cell? ⟨g, 2, none⟩ = some (.int .i64 0) := ⟨HV.out.c0, HV.out.c2⟩)
      | fail)
  have k3 : w.drew.frozen? ⟨g, 2, none⟩ = false := HV.out.f2
  have hT : Turned (fun k => k = g) w w.drew := Turned.of_below (Below.refl _ _).drew
  have hV : Void w.drew g := ⟨HV.out.c0, HV.out.c2, HV.out.f2⟩
  have HVT := hide (And.intro hV hT)
  obtain ⟨x0, x2⟩ := hx5
  clear hV hT
  generalize w.drew = w2 at *
  go_wp2
  go_ret2
  exact ⟨rfl, HVT.out.1.set, HVT.out.2.set (.inl rfl)⟩
set_option maxHeartbeats 1000000 in
theorem vwrite (g : Nat) (a : Option Addr) (n c : Nat) (w : World) (h : Void w g) : Calls Try.prog 39 #[.pointer (some ⟨g, 0, none⟩), .slice a n c] w fun e w' => e = .returned (.tuple #[.int .i64 0, .int .i64 2]) ∧ w = w' := by
  have h0 := h.c0
  go_enter Try.func39, Try.ntmps39
  go_wp2_with (first | (go_at_call 48; refine (sMade_no g _ h0).mono ?_; rintro _ _ ⟨rfl, rfl⟩) | fail)
  go_ret2
  exact ⟨rfl, rfl⟩
set_option maxHeartbeats 1000000 in
theorem vseek (g : Nat) (o wh : Int) (w : World) (h : Void w g) : Calls Try.prog 40 #[.pointer (some ⟨g, 0, none⟩), .int .i64 o, .int .i64 wh] w fun e w' => e = .returned (.tuple #[.int .i64 0, .int .i64 2]) ∧ w = w' := by
  have h0 := h.c0
  go_enter Try.func40, Try.ntmps40
  go_wp2_with (first | (go_at_call 48; refine (sMade_no g _ h0).mono ?_; rintro _ _ ⟨rfl, rfl⟩) | fail)
  go_ret2
  exact ⟨rfl, rfl⟩
set_option maxHeartbeats 1000000 in
theorem vall (g : Nat) (w : World) (h : Void w g) : Calls Try.prog 41 #[.pointer (some ⟨g, 0, none⟩)] w fun e w' => e = .returned (.slice none 0 0) ∧ w = w' := by
  have h0 := h.c0
  go_enter Try.func41, Try.ntmps41
  go_wp2_with (first | (go_at_call 54; refine (fbytes_nil _).mono ?_; rintro _ _ ⟨rfl, rfl⟩) | fail)
  go_ret
  exact ⟨rfl, rfl⟩
set_option maxHeartbeats 1000000 in
theorem nfread (w : World) : Calls Try.prog 19 #[.pointer none, .int .i64 1] w fun e w' => e = .returned (.tuple #[.slice none 0 0, .int .i64 2]) ∧ w = w' := by
  go_enter Try.func19, Try.ntmps19
  go_wp2
  go_ret2
  exact ⟨rfl, rfl⟩
set_option maxHeartbeats 1000000 in
theorem vfread (g : Nat) (w : World) (h : Void w g) : Calls Try.prog 19 #[.pointer (some ⟨g, 0, none⟩), .int .i64 1] w fun e w' => e = .returned (.tuple #[.slice none 0 0, .int .i64 2]) ∧ Void w' g ∧ Turned (fun k => k = g) w w' := by
  go_enter Try.func19, Try.ntmps19
  go_wp2_with (first | (go_at_call 38; refine (vread g 1 _ h).mono ?_; rintro e w2 ⟨rfl, k1, k2⟩) | fail)
  go_ret2
  exact ⟨rfl, k1, k2⟩
set_option maxHeartbeats 1000000 in
theorem nfwrite (w : World) : Calls Try.prog 22 #[.pointer none, .slice none 0 0] w fun e w' => e = .returned (.tuple #[.int .i64 0, .int .i64 2]) ∧ w = w' := by
  go_enter Try.func22, Try.ntmps22
  go_wp2
  go_ret2
  exact ⟨rfl, rfl⟩
set_option maxHeartbeats 1000000 in
theorem vfwrite (g : Nat) (w : World) (h : Void w g) : Calls Try.prog 22 #[.pointer (some ⟨g, 0, none⟩), .slice none 0 0] w fun e w' => e = .returned (.tuple #[.int .i64 0, .int .i64 2]) ∧ w = w' := by
  go_enter Try.func22, Try.ntmps22
  go_wp2_with (first | (go_at_call 39; refine (vwrite g none 0 0 _ h).mono ?_; rintro _ _ ⟨rfl, rfl⟩) | fail)
  go_ret2
  exact ⟨rfl, rfl⟩
set_option maxHeartbeats 1000000 in
theorem nfseek (w : World) : Calls Try.prog 24 #[.pointer none, .int .i64 0, .int .i64 0] w fun e w' => e = .returned (.tuple #[.int .i64 0, .int .i64 2]) ∧ w = w' := by
  go_enter Try.func24, Try.ntmps24
  go_wp2
  go_ret2
  exact ⟨rfl, rfl⟩
set_option maxHeartbeats 1000000 in
theorem vfseek (g : Nat) (w : World) (h : Void w g) : Calls Try.prog 24 #[.pointer (some ⟨g, 0, none⟩), .int .i64 0, .int .i64 0] w fun e w' => e = .returned (.tuple #[.int .i64 0, .int .i64 2]) ∧ w = w' := by
  go_enter Try.func24, Try.ntmps24
  go_wp2_with (first | (go_at_call 40; refine (vseek g 0 0 _ h).mono ?_; rintro _ _ ⟨rfl, rfl⟩) | fail)
  go_ret2
  exact ⟨rfl, rfl⟩
set_option maxHeartbeats 1000000 in
theorem nfbytes (w : World) : Calls Try.prog 26 #[.pointer none] w fun e w' => e = .returned (.slice none 0 0) ∧ w = w' := by
  go_enter Try.func26, Try.ntmps26
  go_wp2
  go_ret
  exact ⟨rfl, rfl⟩
set_option maxHeartbeats 1000000 in
theorem vfbytes (g : Nat) (w : World) (h : Void w g) : Calls Try.prog 26 #[.pointer (some ⟨g, 0, none⟩)] w fun e w' => e = .returned (.slice none 0 0) ∧ w = w' := by
  go_enter Try.func26, Try.ntmps26
  go_wp2_with (first | (go_at_call 41; refine (vall g _ h).mono ?_; rintro _ _ ⟨rfl, rfl⟩) | fail)
  go_ret
  exact ⟨rfl, rfl⟩
set_option maxHeartbeats 1000000 in
theorem ngread (w : World) : Calls Try.prog 20 #[.pointer none, .int .i64 1] w fun e w' => e = .returned (.tuple #[.slice none 0 0, .int .i64 2]) ∧ w = w' := by
  go_enter Try.func20, Try.ntmps20
  go_wp2
  go_ret2
  exact ⟨rfl, rfl⟩
set_option maxHeartbeats 1000000 in
theorem vgread (g : Nat) (w : World) (h : Void w g) : Calls Try.prog 20 #[.pointer (some ⟨g, 0, none⟩), .int .i64 1] w fun e w' => e = .returned (.tuple #[.slice none 0 0, .int .i64 2]) ∧ Void w' g ∧ Turned (fun k => k = g) w w' := by
  go_enter Try.func20, Try.ntmps20
  go_wp2_with (first | (go_at_call 38; refine (vread g 1 _ h).mono ?_; rintro e w2 ⟨rfl, k1, k2⟩) | fail)
  go_ret2
  exact ⟨rfl, k1, k2⟩
set_option maxHeartbeats 1000000 in
theorem ngwrite (w : World) : Calls Try.prog 23 #[.pointer none, .slice none 0 0] w fun e w' => e = .returned (.tuple #[.int .i64 0, .int .i64 2]) ∧ w = w' := by
  go_enter Try.func23, Try.ntmps23
  go_wp2
  go_ret2
  exact ⟨rfl, rfl⟩
set_option maxHeartbeats 1000000 in
theorem vgwrite (g : Nat) (w : World) (h : Void w g) : Calls Try.prog 23 #[.pointer (some ⟨g, 0, none⟩), .slice none 0 0] w fun e w' => e = .returned (.tuple #[.int .i64 0, .int .i64 2]) ∧ w = w' := by
  go_enter Try.func23, Try.ntmps23
  go_wp2_with (first | (go_at_call 39; refine (vwrite g none 0 0 _ h).mono ?_; rintro _ _ ⟨rfl, rfl⟩) | fail)
  go_ret2
  exact ⟨rfl, rfl⟩
set_option maxHeartbeats 1000000 in
theorem ngseek (w : World) : Calls Try.prog 25 #[.pointer none, .int .i64 0, .int .i64 0] w fun e w' => e = .returned (.tuple #[.int .i64 0, .int .i64 2]) ∧ w = w' := by
  go_enter Try.func25, Try.ntmps25
  go_wp2
  go_ret2
  exact ⟨rfl, rfl⟩
set_option maxHeartbeats 1000000 in
theorem vgseek (g : Nat) (w : World) (h : Void w g) : Calls Try.prog 25 #[.pointer (some ⟨g, 0, none⟩), .int .i64 0, .int .i64 0] w fun e w' => e = .returned (.tuple #[.int .i64 0, .int .i64 2]) ∧ w = w' := by
  go_enter Try.func25, Try.ntmps25
  go_wp2_with (first | (go_at_call 40; refine (vseek g 0 0 _ h).mono ?_; rintro _ _ ⟨rfl, rfl⟩) | fail)
  go_ret2
  exact ⟨rfl, rfl⟩
set_option maxHeartbeats 1000000 in
theorem ngbytes (w : World) : Calls Try.prog 27 #[.pointer none] w fun e w' => e = .returned (.slice none 0 0) ∧ w = w' := by
  go_enter Try.func27, Try.ntmps27
  go_wp2
  go_ret
  exact ⟨rfl, rfl⟩
set_option maxHeartbeats 1000000 in
theorem vgbytes (g : Nat) (w : World) (h : Void w g) : Calls Try.prog 27 #[.pointer (some ⟨g, 0, none⟩)] w fun e w' => e = .returned (.slice none 0 0) ∧ w = w' := by
  go_enter Try.func27, Try.ntmps27
  go_wp2_with (first | (go_at_call 41; refine (vall g _ h).mono ?_; rintro _ _ ⟨rfl, rfl⟩) | fail)
  go_ret
  exact ⟨rfl, rfl⟩
set_option maxHeartbeats 1000000 in
theorem nrread (w : World) : Calls Try.prog 32 #[.pointer none, .int .i64 1] w fun e w' => e = .returned (.tuple #[.slice none 0 0, .int .i64 2]) ∧ w = w' := by
  go_enter Try.func32, Try.ntmps32
  go_wp2
  go_ret2
  exact ⟨rfl, rfl⟩
set_option maxHeartbeats 1000000 in
theorem vrread (g : Nat) (w : World) (h : Void w g) : Calls Try.prog 32 #[.pointer (some ⟨g, 0, none⟩), .int .i64 1] w fun e w' => e = .returned (.tuple #[.slice none 0 0, .int .i64 2]) ∧ Void w' g ∧ Turned (fun k => k = g) w w' := by
  go_enter Try.func32, Try.ntmps32
  go_wp2_with (first | (go_at_call 38; refine (vread g 1 _ h).mono ?_; rintro e w2 ⟨rfl, k1, k2⟩) | fail)
  go_ret2
  exact ⟨rfl, k1, k2⟩
set_option maxHeartbeats 1000000 in
theorem nrwrite (w : World) : Calls Try.prog 33 #[.pointer none, .slice none 0 0] w fun e w' => e = .returned (.tuple #[.int .i64 0, .int .i64 2]) ∧ w = w' := by
  go_enter Try.func33, Try.ntmps33
  go_wp2
  go_ret2
  exact ⟨rfl, rfl⟩
set_option maxHeartbeats 1000000 in
theorem vrwrite (g : Nat) (w : World) (h : Void w g) : Calls Try.prog 33 #[.pointer (some ⟨g, 0, none⟩), .slice none 0 0] w fun e w' => e = .returned (.tuple #[.int .i64 0, .int .i64 2]) ∧ w = w' := by
  have h0 := h.c0
  go_enter Try.func33, Try.ntmps33
  go_wp2_with (first | (go_at_call 48; refine (sMade_no g _ h0).mono ?_; rintro _ _ ⟨rfl, rfl⟩) | fail)
  go_ret2
  exact ⟨rfl, rfl⟩
set_option maxHeartbeats 1000000 in
theorem nrseek (w : World) : Calls Try.prog 45 #[.pointer none, .int .i64 0, .int .i64 0] w fun e w' => e = .returned (.tuple #[.int .i64 0, .int .i64 2]) ∧ w = w' := by
  go_enter Try.func45, Try.ntmps45
  go_wp2
  go_ret2
  exact ⟨rfl, rfl⟩
set_option maxHeartbeats 1000000 in
theorem vrseek (g : Nat) (w : World) (h : Void w g) : Calls Try.prog 45 #[.pointer (some ⟨g, 0, none⟩), .int .i64 0, .int .i64 0] w fun e w' => e = .returned (.tuple #[.int .i64 0, .int .i64 2]) ∧ w = w' := by
  go_enter Try.func45, Try.ntmps45
  go_wp2_with (first | (go_at_call 40; refine (vseek g 0 0 _ h).mono ?_; rintro _ _ ⟨rfl, rfl⟩) | fail)
  go_ret2
  exact ⟨rfl, rfl⟩
set_option maxHeartbeats 1000000 in
theorem ncread (w : World) : Calls Try.prog 28 #[.pointer none, .int .i64 1] w fun e w' => e = .returned (.tuple #[.slice none 0 0, .int .i64 2]) ∧ w = w' := by
  go_enter_defers Try.func28, Try.ntmps28
  go_wp2_with (first | (go_at_call 42; refine (cMade_nil _).mono ?_; rintro _ _ ⟨rfl, rfl⟩) | fail)
  exact ⟨_, results_tmp2 rfl _ _ _, rfl, rfl⟩
set_option maxHeartbeats 1000000 in
theorem vcread (g : Nat) (w : World) (h : w.cell? ⟨g, 0, none⟩ = some (.bool false)) : Calls Try.prog 28 #[.pointer (some ⟨g, 0, none⟩), .int .i64 1] w fun e w' => e = .returned (.tuple #[.slice none 0 0, .int .i64 2]) ∧ w = w' := by
  go_enter_defers Try.func28, Try.ntmps28
  go_wp2_with (first | (go_at_call 42; refine (cMade_no g _ h).mono ?_; rintro _ _ ⟨rfl, rfl⟩) | fail)
  exact ⟨_, results_tmp2 rfl _ _ _, rfl, rfl⟩
set_option maxHeartbeats 1000000 in
theorem ncwrite (w : World) : Calls Try.prog 37 #[.pointer none, .slice none 0 0] w fun e w' => e = .returned (.tuple #[.int .i64 0, .int .i64 2]) ∧ w = w' := by
  go_enter Try.func37, Try.ntmps37
  go_wp2_with (first | (go_at_call 42; refine (cMade_nil _).mono ?_; rintro _ _ ⟨rfl, rfl⟩) | fail)
  go_ret2
  exact ⟨rfl, rfl⟩
set_option maxHeartbeats 1000000 in
theorem vcwrite (g : Nat) (w : World) (h : w.cell? ⟨g, 0, none⟩ = some (.bool false)) : Calls Try.prog 37 #[.pointer (some ⟨g, 0, none⟩), .slice none 0 0] w fun e w' => e = .returned (.tuple #[.int .i64 0, .int .i64 2]) ∧ w = w' := by
  go_enter Try.func37, Try.ntmps37
  go_wp2_with (first | (go_at_call 42; refine (cMade_no g _ h).mono ?_; rintro _ _ ⟨rfl, rfl⟩) | fail)
  go_ret2
  exact ⟨rfl, rfl⟩
set_option maxHeartbeats 1000000 in
theorem ncseek (w : World) : Calls Try.prog 46 #[.pointer none, .int .i64 0, .int .i64 0] w fun e w' => e = .returned (.tuple #[.int .i64 0, .int .i64 2]) ∧ w = w' := by
  go_enter Try.func46, Try.ntmps46
  go_wp2_with (first | (go_at_call 42; refine (cMade_nil _).mono ?_; rintro _ _ ⟨rfl, rfl⟩) | fail)
  go_ret2
  exact ⟨rfl, rfl⟩
set_option maxHeartbeats 1000000 in
theorem vcseek (g : Nat) (w : World) (h : w.cell? ⟨g, 0, none⟩ = some (.bool false)) : Calls Try.prog 46 #[.pointer (some ⟨g, 0, none⟩), .int .i64 0, .int .i64 0] w fun e w' => e = .returned (.tuple #[.int .i64 0, .int .i64 2]) ∧ w = w' := by
  go_enter Try.func46, Try.ntmps46
  go_wp2_with (first | (go_at_call 42; refine (cMade_no g _ h).mono ?_; rintro _ _ ⟨rfl, rfl⟩) | fail)
  go_ret2
  exact ⟨rfl, rfl⟩
set_option maxHeartbeats 1000000 in
theorem nctaken (w : World) : Calls Try.prog 47 #[.pointer none] w fun e w' => e = .returned (.slice none 0 0) ∧ w = w' := by
  go_enter Try.func47, Try.ntmps47
  go_wp2_with (first | (go_at_call 42; refine (cMade_nil _).mono ?_; rintro _ _ ⟨rfl, rfl⟩) | fail)
  go_ret
  exact ⟨rfl, rfl⟩
set_option maxHeartbeats 1000000 in
theorem vctaken (g : Nat) (w : World) (h : w.cell? ⟨g, 0, none⟩ = some (.bool false)) : Calls Try.prog 47 #[.pointer (some ⟨g, 0, none⟩)] w fun e w' => e = .returned (.slice none 0 0) ∧ w = w' := by
  go_enter Try.func47, Try.ntmps47
  go_wp2_with (first | (go_at_call 42; refine (cMade_no g _ h).mono ?_; rintro _ _ ⟨rfl, rfl⟩) | fail)
  go_ret
  exact ⟨rfl, rfl⟩
set_option maxRecDepth 100000 in
set_option maxHeartbeats 4000000 in
theorem nothing_nil (w : World) : Calls Try.prog 29 #[.pointer none, .pointer none, .pointer none, .pointer none] w fun e w' => e = .returned (.bool true) ∧ w = w' := by
  go_enter Try.func29, Try.ntmps29
  go_wp2_with (first | (go_at_call 19; refine (nfread _).mono ?_; rintro _ _ ⟨rfl, rfl⟩) | (go_at_call 22; refine (nfwrite _).mono ?_; rintro _ _ ⟨rfl, rfl⟩) | (go_at_call 24; refine (nfseek _).mono ?_; rintro _ _ ⟨rfl, rfl⟩) | (go_at_call 26; refine (nfbytes _).mono ?_; rintro _ _ ⟨rfl, rfl⟩) | (go_at_call 20; refine (ngread _).mono ?_; rintro _ _ ⟨rfl, rfl⟩) | (go_at_call 23; refine (ngwrite _).mono ?_; rintro _ _ ⟨rfl, rfl⟩) | (go_at_call 25; refine (ngseek _).mono ?_; rintro _ _ ⟨rfl, rfl⟩) | (go_at_call 27; refine (ngbytes _).mono ?_; rintro _ _ ⟨rfl, rfl⟩) | (go_at_call 32; refine (nrread _).mono ?_; rintro _ _ ⟨rfl, rfl⟩) | (go_at_call 33; refine (nrwrite _).mono ?_; rintro _ _ ⟨rfl, rfl⟩) | (go_at_call 45; refine (nrseek _).mono ?_; rintro _ _ ⟨rfl, rfl⟩) | (go_at_call 28; refine (ncread _).mono ?_; rintro _ _ ⟨rfl, rfl⟩) | (go_at_call 37; refine (ncwrite _).mono ?_; rintro _ _ ⟨rfl, rfl⟩) | (go_at_call 46; refine (ncseek _).mono ?_; rintro _ _ ⟨rfl, rfl⟩) | (go_at_call 47; refine (nctaken _).mono ?_; rintro _ _ ⟨rfl, rfl⟩) | (go_at_call 17; refine (num_me _ _).mono ?_; rintro _ _ ⟨rfl, rfl⟩) | fail)
  go_ret
  exact ⟨rfl, rfl⟩
set_option maxRecDepth 100000 in
set_option maxHeartbeats 4000000 in
theorem nothing_void (lo f g r c : Nat) (w : World) (vf : Void w f) (vg : Void w g) (vr : Void w r) (vc : w.cell? ⟨c, 0, none⟩ = some (.bool false)) (d1 : f ≠ g) (d2 : f ≠ r) (d3 : f ≠ c) (d4 : g ≠ r) (d5 : g ≠ c) (d6 : r ≠ c) (lf : lo ≤ f) (lg : lo ≤ g) (lr : lo ≤ r) : Calls Try.prog 29 #[.pointer (some ⟨f, 0, none⟩), .pointer (some ⟨g, 0, none⟩), .pointer (some ⟨r, 0, none⟩), .pointer (some ⟨c, 0, none⟩)] w fun e w' => e = .returned (.bool true) ∧ Turned (fun k => lo ≤ k) w w' := by
  have fl : f < w.heap.size := World.block_lt_of_cell? w _ vf.c0
  have gl : g < w.heap.size := World.block_lt_of_cell? w _ vg.c0
  have rl : r < w.heap.size := World.block_lt_of_cell? w _ vr.c0
  have Vf := hide vf
  have Vg := hide vg
  have Vr := hide vr
  have Vc := hide vc
  clear vf vg vr vc
  go_enter Try.func29, Try.ntmps29
  go_wp2_with (first | (go_at_call 19; refine (vfread _ _ Vf.out).mono ?_; rintro _ w2f ⟨rfl, k1, k2⟩; have Vg := hide (Vg.out.other (k2.block _ gl (by omega))); have Vr := hide (Vr.out.other (k2.block _ rl (by omega))); have Vc := hide (k2.cell Vc.out (by show ¬ c = _; omega)); have Vf := hide k1; have Bf := hide k2; have fl := Nat.lt_of_lt_of_le fl k2.size; have gl := Nat.lt_of_lt_of_le gl k2.size; have rl := Nat.lt_of_lt_of_le rl k2.size; clear k1 k2) | (go_at_call 20; refine (vgread _ _ Vg.out).mono ?_; rintro _ w2g ⟨rfl, k1, k2⟩; have Vf := hide (Vf.out.other (k2.block _ fl (by omega))); have Vr := hide (Vr.out.other (k2.block _ rl (by omega))); have Vc := hide (k2.cell Vc.out (by show ¬ c = _; omega)); have Vg := hide k1; have Bg := hide k2; have fl := Nat.lt_of_lt_of_le fl k2.size; have gl := Nat.lt_of_lt_of_le gl k2.size; have rl := Nat.lt_of_lt_of_le rl k2.size; clear k1 k2) | (go_at_call 32; refine (vrread _ _ Vr.out).mono ?_; rintro _ w2r ⟨rfl, k1, k2⟩; have Vf := hide (Vf.out.other (k2.block _ fl (by omega))); have Vg := hide (Vg.out.other (k2.block _ gl (by omega))); have Vc := hide (k2.cell Vc.out (by show ¬ c = _; omega)); have Vr := hide k1; have Br := hide k2; have fl := Nat.lt_of_lt_of_le fl k2.size; have gl := Nat.lt_of_lt_of_le gl k2.size; have rl := Nat.lt_of_lt_of_le rl k2.size; clear k1 k2) | (go_at_call 22; refine (vfwrite _ _ Vf.out).mono ?_; rintro _ _ ⟨rfl, rfl⟩) | (go_at_call 24; refine (vfseek _ _ Vf.out).mono ?_; rintro _ _ ⟨rfl, rfl⟩) | (go_at_call 26; refine (vfbytes _ _ Vf.out).mono ?_; rintro _ _ ⟨rfl, rfl⟩) | (go_at_call 23; refine (vgwrite _ _ Vg.out).mono ?_; rintro _ _ ⟨rfl, rfl⟩) | (go_at_call 25; refine (vgseek _ _ Vg.out).mono ?_; rintro _ _ ⟨rfl, rfl⟩) | (go_at_call 27; refine (vgbytes _ _ Vg.out).mono ?_; rintro _ _ ⟨rfl, rfl⟩) | (go_at_call 33; refine (vrwrite _ _ Vr.out).mono ?_; rintro _ _ ⟨rfl, rfl⟩) | (go_at_call 45; refine (vrseek _ _ Vr.out).mono ?_; rintro _ _ ⟨rfl, rfl⟩) | (go_at_call 28; refine (vcread _ _ Vc.out).mono ?_; rintro _ _ ⟨rfl, rfl⟩) | (go_at_call 37; refine (vcwrite _ _ Vc.out).mono ?_; rintro _ _ ⟨rfl, rfl⟩) | (go_at_call 46; refine (vcseek _ _ Vc.out).mono ?_; rintro _ _ ⟨rfl, rfl⟩) | (go_at_call 47; refine (vctaken _ _ Vc.out).mono ?_; rintro _ _ ⟨rfl, rfl⟩) | (go_at_call 17; refine (num_me _ _).mono ?_; rintro _ _ ⟨rfl, rfl⟩) | fail)
  go_ret
  exact ⟨rfl, ((Bf.out.mono (S' := fun k => lo ≤ k) (fun k e => by omega)).trans Bg.out (fun k _ e => by omega)).trans Br.out (fun k _ e => by omega)⟩
end Go.Proofs.Ytimggonlfkboaaa
