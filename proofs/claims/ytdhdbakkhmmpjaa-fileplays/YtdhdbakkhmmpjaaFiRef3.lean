/- The reference's Truncate. -/
import Derived.Test.YtdhdbakkhmmpjaaFiRef2
namespace Go.Proofs.Ytdhdbakkhmmpjaa
open Go.RowKit

theorem owns_take {W : World} {base e b cap k n : Nat} {xs : List Value} (h : W.ownsRow base e 1 (.slice (some ⟨b, 0, none⟩) k cap) k xs) (hn : n ≤ k) : W.ownsRow base e 1 (.slice (some ⟨b, 0, none⟩) n cap) n (xs.take n) := by
  have h0 := h.1
  refine ⟨by rw [List.length_take]; omega, .inr ?_⟩
  rcases h.2 with ⟨h1, _⟩ | ⟨g, c, cur, h1, h2, h3, h4, h5, h6, h7⟩
  · cases h1
  · cases h1
    refine ⟨b, cap, cur, rfl, h2, h3, by omega, h5, h6, ?_⟩
    rw [← h7, List.take_take, Nat.mul_one, Nat.mul_one, Nat.min_eq_left hn]
theorem rcut {w : World} {base r b cap n : Nat} {l : List UInt8} (h : RFileAt w base r (.slice (some ⟨b, 0, none⟩) l.length cap) l) (hn : n ≤ l.length) :
    RFileAt (w.setCell ⟨r, 0, none⟩ (.slice (some ⟨b, 0, none⟩) n cap)) base r (.slice (some ⟨b, 0, none⟩) n cap) (l.take n) ∧ Turned (fun k => k = r ∨ b = k) w (w.setCell ⟨r, 0, none⟩ (.slice (some ⟨b, 0, none⟩) n cap)) := by
  have hap : b ≠ r := fun e => h.apart (by rw [e]; rfl)
  have hl : (l.take n).length = n := by simp; omega
  refine ⟨⟨World.cell?_setCell_same _ _ _ h.data, ?_, ?_, fun e => h.apart e⟩, ⟨rfl, rfl, rfl, by simp [World.setCell], fun k hk hn => Below.heap_setCell _ _ _ _ (fun e => hn (.inl e))⟩⟩
  · rw [World.frozen?_setCell]; exact h.soft
  · rw [hl, List.map_take]
    exact owns_keep (owns_take h.row hn) fun k hk => Below.heap_setCell _ _ _ _ (fun e => hap (by cases hk; exact e))

set_option maxRecDepth 100000 in
set_option maxHeartbeats 1000000 in
theorem rtruncate_any (base r : Nat) (u : Value) (l : List UInt8) (n : Int) (w : World) (h : RFileAt w base r u l) (hl : l.length ≤ 1048576) (hb : base ≤ w.heap.size) :
    Calls Try.prog 17 #[.pointer (some ⟨r, 0, none⟩), .int .i64 n] w fun e w' => e = .returned (.int .i64 (trE n)) ∧ ∃ u', RFileAt w' base r u' (trL l n) ∧ (∀ k, u'.ownBlock = some k → u.ownBlock = some k ∨ w.heap.size ≤ k) ∧ Turned (fun k => k = r ∨ u.ownBlock = some k) w w' := by
  have HF := hide h
  have h1 := h.data
  have h2 := h.soft
  by_cases ho : inR n = false
  · obtain ⟨ua, uc, rfl⟩ := owns_slice h.row
    clear h
    rw [trE, trL, if_pos ho, if_pos ho]
    have HO := hide ho
    clear ho
    go_enter Try.func17, Try.ntmps17
    go_wp2_with fail
    refine (within_any _ _).mono ?_
    rintro e w1 ⟨rfl, rfl⟩
    rw [HO.out]
    go_wp2
    go_ret
    exact ⟨rfl, _, HF.out, fun k hk => .inl hk, Turned.refl _ _⟩
  · have ho1 : inR n = true := by simpa using ho
    have ho' := ho1
    simp only [inR, decide_eq_true_eq] at ho'
    obtain ⟨o, rfl⟩ : ∃ o : Nat, n = o := ⟨n.toNat, by omega⟩
    rw [trE, trL, if_neg ho, if_neg ho, Int.toNat_natCast, trunc_rlay]
    have HO := hide ho1
    clear ho ho1
    by_cases hc : o < l.length
    · obtain ⟨b, cap, rfl, hbb, hbl⟩ := h.row.form (by omega)
      have hcap : l.length ≤ cap := by
        rcases h.row.2 with ⟨h0, _⟩ | ⟨g, c, cur, h0, _, _, h4, _⟩
        · cases h0
        · cases h0; exact h4
      clear h
      have hd : decide ((o : Int) < (l.length : Int)) = true := by simp; omega
      obtain ⟨hR, hT1⟩ := rcut HF.out (n := o) (by omega)
      have HR := hide hR
      have q1 := hR.data
      have q2 := hR.soft
      have hs1 := hT1.size
      clear hR
      go_enter Try.func17, Try.ntmps17
      go_wp2_with fail
      refine (within_any _ _).mono ?_
      rintro e w1 ⟨rfl, rfl⟩
      rw [HO.out]
      go_wp2_with fail
      generalize w1.setCell ⟨r, 0, none⟩ (.slice (some ⟨b, 0, none⟩) o cap) = w2 at *
      refine (lay_any base _ _ (l.take o) [] o _ HR.out.row (.inl ⟨rfl, rfl⟩) (fun _ k e => by cases e) (by simp; omega) (by simp; omega) (by omega)).mono ?_
      rintro e w3 ⟨u', rfl, hown, hub, hT⟩
      obtain ⟨a', c', rfl⟩ := owns_slice hown
      have HOw := hide hown
      have HUB := hide hub
      have HT := hide hT
      have hgg := hT.block r HR.out.lt HR.out.apart
      have q3 := (World.cell?_of_block (w := w2) (a := ⟨r, 0, none⟩) hgg).trans HR.out.data
      have q4 := (World.frozen?_of_block (w := w2) (a := ⟨r, 0, none⟩) hgg).trans HR.out.soft
      clear hown hub hT hgg
      go_wp2
      go_ret
      obtain ⟨r1, r2⟩ := rstore HR.out HOw.out HUB.out HT.out
      refine ⟨rfl, _, r1, fun k hk => ?_, ?_⟩
      · rcases HUB.out k hk with h5 | h5
        · left; exact h5
        · right; omega
      · have hT1' : Turned (fun k => k = r ∨ (Value.slice (some ⟨b, 0, none⟩) l.length cap).ownBlock = some k) w1 w2 := ⟨hT1.os, hT1.tape, hT1.output, hT1.size, fun k hk hn => hT1.block k hk (fun e => hn (e.imp id (fun e => by rw [e]; rfl)))⟩
        exact hT1'.trans r2 (fun k hk e => e)
    · obtain ⟨ua, uc, rfl⟩ := owns_slice h.row
      clear h
      have hd : decide ((o : Int) < (l.length : Int)) = false := by simp; omega
      rw [List.take_of_length_le (by omega)]
      go_enter Try.func17, Try.ntmps17
      go_wp2_with fail
      refine (within_any _ _).mono ?_
      rintro e w1 ⟨rfl, rfl⟩
      rw [HO.out]
      go_wp2_with fail
      refine (lay_any base _ _ l [] o _ HF.out.row (.inl ⟨rfl, rfl⟩) (fun _ k e => by cases e) hl (by simp; omega) hb).mono ?_
      rintro e w3 ⟨u', rfl, hown, hub, hT⟩
      obtain ⟨a', c', rfl⟩ := owns_slice hown
      have HOw := hide hown
      have HUB := hide hub
      have HT := hide hT
      have hgg := hT.block r HF.out.lt HF.out.apart
      have q3 := (World.cell?_of_block (w := w1) (a := ⟨r, 0, none⟩) hgg).trans HF.out.data
      have q4 := (World.frozen?_of_block (w := w1) (a := ⟨r, 0, none⟩) hgg).trans HF.out.soft
      clear hown hub hT hgg
      go_wp2
      go_ret
      obtain ⟨r1, r2⟩ := rstore HF.out HOw.out HUB.out HT.out
      exact ⟨rfl, _, r1, HUB.out, r2⟩
end Go.Proofs.Ytdhdbakkhmmpjaa
