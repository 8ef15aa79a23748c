/- Copy of a terminal. -/
import Derived.Test.YtoihblhhifcpnaaTeNew
namespace Go.Proofs.Ytoihblhhifcpnaa
open Go.RowKit

set_option maxRecDepth 100000 in
set_option maxHeartbeats 2000000 in
theorem copy_term (B t : Nat) (O : Nat → Prop) (ls : List (List UInt8)) (scr : List UInt8) (w : World) (h : PTerm w B t O ls scr) :
    Calls Try.prog 17 #[.pointer (some ⟨t, 0, none⟩)] w fun e w' => ∃ t' O', e = .returned (.pointer (some ⟨t', 0, none⟩)) ∧ PTerm w' w.heap.size t' O' ls scr ∧ Below w.heap.size w w' := by
  have h1 := h.made
  have h0 := h.room
  have hf := h.few
  have HF2 := hide h.short
  have htw := (h.lt t h.ot).2
  obtain ⟨la, lc, s, hT⟩ := h.term
  have h2 := hT.lines
  have h3 := hT.screen
  have HL := hide hT.lns
  have HS := hide hT.scr
  obtain ⟨sa, sc, rfl⟩ := owns_slice hT.scr
  clear h hT
  go_enter Try.func17, Try.ntmps17
  go_wp2_with fail
  refine (isMade_yes t w h1).mono ?_
  rintro e w1 ⟨rfl, rfl⟩
  go_wp2_with fail
  go_region_held3 (fun w' => w'.cell? ⟨t, 1, none⟩ = some (.slice la ls.length lc) ∧ w'.cell? ⟨t, 2, none⟩ = some (.slice sa scr.length sc))
    (first | exact Kc | exact Kd | go_keep)
    (first
      | (go_at_call 23; refine (copiedLines_any _ ls _ (HL.out.below (Below.refl _ _).drew) hf HF2.out).mono ?_; rintro e wc ⟨rfl, hLc, hltc, hBc⟩; have Kc : wc.cell? ⟨t, 1, none⟩ = some (.slice la ls.length lc) ∧ wc.cell? ⟨t, 2, none⟩ = some (.slice sa scr.length sc) := ⟨(hBc.cell (p := ⟨t, 1, none⟩) htw).trans h2, (hBc.cell (p := ⟨t, 2, none⟩) htw).trans h3⟩; have HLc := hide hLc; have HSc := hide (owns_below HS.out ((Below.refl _ _).drew.trans hBc)); clear hLc)
      | (go_at_call 27; refine (copied_any _ scr _ (Bys.of_owns HSc.out) (by omega)).mono ?_; rintro e wd ⟨rfl, hownd, hBd⟩; have Kd : wd.cell? ⟨t, 1, none⟩ = some (.slice la ls.length lc) ∧ wd.cell? ⟨t, 2, none⟩ = some (.slice sa scr.length sc) := ⟨(hBd.cell (p := ⟨t, 1, none⟩) (Nat.lt_of_lt_of_le htw hBc.size)).trans Kc.1, (hBd.cell (p := ⟨t, 2, none⟩) (Nat.lt_of_lt_of_le htw hBc.size)).trans Kc.2⟩; have HOd := hide hownd; clear hownd))
  all_goals
    go_wp2
    go_ret
    have hB0 : Below w1.heap.size w1 wc := (Below.refl _ w1).drew.trans hBc
    have hz : w1.drew.heap.size = w1.heap.size := rfl
    rw [hz] at hltc HLc
    have hB1 : Below w1.heap.size w1 wd := hB0.trans (hBd.mono hB0.size)
    obtain ⟨r1, r2⟩ := term_new (w := w1) (scr := scr) (T := 54) w1.heap.size (Nat.le_refl _) (HLc.out.below hBd) (Nat.lt_of_lt_of_le hltc hBd.size) (owns_mono HOd.out (Nat.le_of_lt hltc)) (by intro e; simp only [Value.ownBlock, Option.some.injEq] at e; omega) (fun j hj va vc k h5 e e' => by
      obtain ⟨_, va', vc', q2, _, _, q5⟩ := HLc.out j hj
      rw [Nat.zero_add] at q2
      have q6 := (hBd.cell (p := ⟨w1.heap.size, j, none⟩) hltc).trans q2
      rw [h5] at q6
      cases q6
      have := (q5 k e).2.2
      simp only [Value.ownBlock, Option.some.injEq] at e'
      omega) hB1 hf HF2.out h0 rfl
    exact ⟨_, _, rfl, r1, r2⟩
end Go.Proofs.Ytoihblhhifcpnaa
