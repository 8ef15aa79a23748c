/- MemoryAlike, walked. -/
import Derived.Test.YtimggonlfkboaaaMeAlive
import Derived.Test.YtimggonlfkboaaaMeFrame
import Derived.Deep.LoopGhost
namespace Go.Proofs.Ytimggonlfkboaaa
open Go.RowKit

theorem MS.read_few (S : MS) (n : Int) : (S.read n).1.length ≤ S.l.length := by
  unfold MS.read
  split
  · show (piece S.l S.pl n.toNat).length ≤ _; rw [piece_len]; omega
  · exact Nat.zero_le _
abbrev MM (x y : Nat) (S : MS) (w : World) (Q : Nat → Prop) : Prop := Both (fun w O => MemAt w O x S) (fun w O => MemAt w O y S) w Q
/-- Both read the same. -/
theorem mm_read {x y lo : Nat} {S : MS} {w : World} (n : Int) (h : MM x y S w (fun j => lo ≤ j)) :
    ∀ wb, Below w.heap.size w wb → Calls Try.prog 19 #[.pointer (some ⟨x, 0, none⟩), .int .i64 n] wb fun e w1 => ∃ a c, e = .returned (.tuple #[.slice a (S.read n).1.length c, .int .i64 (S.read n).2.1]) ∧ Turned (fun j => lo ≤ j) w w1 ∧
      ∀ w2, Below w1.heap.size w1 w2 → Calls Try.prog 20 #[.pointer (some ⟨y, 0, none⟩), .int .i64 n] w2 fun e w3 => ∃ a' c', e = .returned (.tuple #[.slice a' (S.read n).1.length c', .int .i64 (S.read n).2.1]) ∧ Bys w3 (.slice a (S.read n).1.length c) (S.read n).1 ∧ Bys w3 (.slice a' (S.read n).1.length c') (S.read n).1 ∧ Hid (MM x y (S.read n).2.2 w3 (fun j => lo ≤ j)) ∧ Turned (fun j => lo ≤ j) w w3 := by
  intro wb hb
  have hbb := h.below (mem_o _ _) (mem_o _ _) hb
  have hzb := hb.size
  obtain ⟨O, h1, h2, -, h3⟩ := hbb.one (mem_o _ _)
  refine (fmread_any O x S n wb h1).mono ?_
  rintro e w1 ⟨v, rfl, ho, hM, hT⟩
  obtain ⟨a, c, rfl⟩ := owns_slice ho
  obtain ⟨q1, q2⟩ := h3 (fun w O => MemAt w O x (S.read n).2.2) w1 hM hT
  have hz1 := hT.size
  have hT1 : Turned (fun j => lo ≤ j) w w1 := (Turned.of_below (S := fun j => lo ≤ j) hb).trans (q2.mono fun _ e => e.1) (fun _ _ e => e)
  refine ⟨a, c, rfl, hT1, fun w2 hb2 => ?_⟩
  have hz2 := hb2.size
  have q3 := q1.below (mem_o _ _) (mem_o _ _) hb2
  obtain ⟨P, p1, p2, -, p3⟩ := q3.two (mem_o _ _)
  refine (gmread_any P y S n w2 p1).mono ?_
  rintro e w3 ⟨v', rfl, ho', hM', hT'⟩
  obtain ⟨a', c', rfl⟩ := owns_slice ho'
  obtain ⟨r1, r2⟩ := p3 (fun w O => MemAt w O y (S.read n).2.2) w3 hM' hT'
  refine ⟨a', c', rfl, (Bys.of_owns ho).below hb2 |>.turned hT' (fun k hk _ e => ?_), Bys.of_owns ho', hide (r1.mono fun j e => e.1.1.1.1), (hT1.trans (Turned.of_below (S := fun j => lo ≤ j) hb2) (fun _ _ e => e)).trans (r2.mono fun _ e => e.1.1.1) (fun _ _ e => e)⟩
  have h5 := ho.lt k hk
  have h6 := (p2 k e).1
  omega
theorem mm_num {x y lo : Nat} {S S' : MS} {w : World} {F G : FuncId} {A A' : Array Value} {N E : Int} (h : MM x y S w (fun j => lo ≤ j)) (hlo : lo ≤ w.heap.size)
    (hF : ∀ O wb, MemAt wb O x S → (∀ j, O j → lo ≤ j) → Turned (fun j => lo ≤ j) w wb → Calls Try.prog F A wb fun e w' => e = .returned (.tuple #[.int .i64 N, .int .i64 E]) ∧ MStep wb O x S' w')
    (hG : ∀ O wb, MemAt wb O y S → (∀ j, O j → lo ≤ j) → Turned (fun j => lo ≤ j) w wb → Calls Try.prog G A' wb fun e w' => e = .returned (.tuple #[.int .i64 N, .int .i64 E]) ∧ MStep wb O y S' w') :
    ∀ wb, Below w.heap.size w wb → Calls Try.prog F A wb fun e w1 => e = .returned (.tuple #[.int .i64 N, .int .i64 E]) ∧ Turned (fun j => lo ≤ j) w w1 ∧
      ∀ w2, Below w1.heap.size w1 w2 → Calls Try.prog G A' w2 fun e w3 => e = .returned (.tuple #[.int .i64 N, .int .i64 E]) ∧ Hid (MM x y S' w3 (fun j => lo ≤ j)) ∧ Turned (fun j => lo ≤ j) w w3 := by
  intro wb hb
  have hbb := (h.below (mem_o _ _) (mem_o _ _) hb).mono (fun j e => e.1)
  have hzb := hb.size
  obtain ⟨O, h1, h2, h3, -⟩ := hbb.one (mem_o _ _)
  refine (hF O wb h1 (fun j e => (h2 j e).1) (Turned.of_below hb)).mono ?_
  rintro e w1 ⟨rfl, hS⟩
  obtain ⟨q1, q2⟩ := h3 (fun w O => MemAt w O x S') wb w1 (Below.refl _ _) (mem_o _ _) hS
  have hT1 : Turned (fun j => lo ≤ j) w w1 := (Turned.of_below (S := fun j => lo ≤ j) hb).trans q2 (fun _ _ e => e)
  refine ⟨rfl, hT1, fun w2 hb2 => ?_⟩
  have hz1 := hT1.size
  have hz2 := hb2.size
  have q3 : Both (fun w O => MemAt w O x S') (fun w O => MemAt w O y S) w2 (fun j => lo ≤ j) := (q1.below (mem_o _ _) (mem_o _ _) hb2).mono (fun j e => by rcases e.1 with e | e; exact e; exact Nat.le_trans (Nat.le_trans hlo hzb) e)
  obtain ⟨P, p1, p2, p3, -⟩ := q3.two (mem_o _ _)
  have hT2 := hT1.trans (Turned.of_below (S := fun j => lo ≤ j) hb2) (fun _ _ e => e)
  refine (hG P w2 p1 (fun j e => (p2 j e).1) hT2).mono ?_
  rintro e w3 ⟨rfl, hS3⟩
  obtain ⟨r1, r2⟩ := p3 (fun w O => MemAt w O y S') w2 w3 (Below.refl _ _) (mem_o _ _) hS3
  exact ⟨rfl, hide (r1.mono fun j e => by rcases e with e | e; exact e; show lo ≤ j; omega), hT2.trans r2 (fun _ _ e => e)⟩
set_option maxRecDepth 100000 in
set_option maxHeartbeats 8000000 in
theorem malike_any (v : Value) (bs : List UInt8) (a : Option Addr) (c : Nat) (l : List MSt) (w : World) (h : Bys w v bs) (h2 : MSts w (.slice a l.length c) l) (z1 : l.length * 48 ≤ 140737488351232) :
    Calls Try.prog 4 #[v, .slice a l.length c] w fun e w' => e = .returned (.bool true) ∧ Below w.heap.size w w' := by
  have H0 := hide h
  have H2 := hide h2
  obtain ⟨a1, c1, rfl, -⟩ := bys_form h
  clear h h2
  go_enter Try.func4, Try.ntmps4
  go_wp2_with fail
  refine (malive_any _).mono ?_
  rintro _ w1 ⟨rfl, hB1⟩
  have HB1 := hide hB1
  have hz1 := hB1.size
  clear hB1
  by_cases hl : 1048576 < bs.length
  · go_wp2_with fail
    refine (newFixed_long 1048576 _ bs.length _ w1 (by decide) (by decide) (by omega)).mono ?_
    rintro _ w2 ⟨rfl, hB2⟩
    have HB2 := hide (HB1.out.trans (hB2.mono HB1.out.size))
    clear hB2
    go_wp2_with fail
    refine (newGrowing_long _ bs w2 (H0.out.below HB2.out) hl).mono ?_
    rintro _ w3 ⟨rfl, hB3⟩
    have HB3 := hide (HB2.out.trans (hB3.mono HB2.out.size))
    clear hB3
    go_wp2
    go_loopg [9, 10, 11, 12, 13, 14, 15, 16, 17, 18, 19, 20, 21] 0 (fun gq s9 _ _ _ _ _ _ _ _ _ _ _ _ wx => s9 = .int .i64 0 ∧ Hid (Below w.heap.size w wx))
    case atStart => exact ⟨rfl, HB3⟩
    case round =>
      obtain ⟨rfl, HBx⟩ := hrel
      go_wp2
      go_ret
      exact ⟨rfl, HBx.out⟩
  go_wp2_with fail
  refine (newFixed_good 1048576 _ bs w1 (H0.out.below HB1.out) (by decide) (by omega)).mono ?_
  rintro _ w2 ⟨x, rfl, hX, hB2⟩
  have HX := hide hX
  have HB2 := hide (HB1.out.trans (hB2.mono HB1.out.size))
  have hz2 := hB2.size
  have HB12 := hide hB2
  clear hB2 hX
  go_wp2_with fail
  refine (newGrowing_good _ bs w2 (H0.out.below HB2.out) (by omega)).mono ?_
  rintro _ w3 ⟨y, rfl, hY, hB3⟩
  have HP : Hid (MM x y ⟨bs, 1048576, 0⟩ w3 (fun j => w1.heap.size ≤ j)) := hide (Both.make (mem_o _ _) (mem_o _ _) HX.out (fun j e _ => e) (fun j e _ => by show w1.heap.size ≤ j; omega) hB3 hY)
  have HB13 := hide (HB12.out.trans (hB3.mono HB12.out.size))
  clear hB3 hY HX HB12 HB2
  go_wp2
  go_loopg [9, 10, 11, 12, 13, 14, 15, 16, 17, 18, 19, 20, 21] l.length (fun gq s9 _ _ _ _ _ _ _ _ _ _ _ _ wx => ∃ (k : Nat) (S : MS), k + gq = l.length ∧ s9 = .int .i64 k ∧ Hid (MM x y S wx (fun j => w1.heap.size ≤ j)) ∧ Hid (Below w1.heap.size w1 wx))
  case atStart => exact ⟨0, _, by omega, rfl, HP, HB13⟩
  case round =>
    clear HP HB13
    obtain ⟨k, S, hkg, rfl, HP, HBx⟩ := hrel
    have HBw := hide (HB1.out.trans (HBx.out.mono HB1.out.size))
    have hBz := HBx.out.size
    by_cases hlt : k < l.length
    · obtain ⟨gq, rfl⟩ : ∃ gq, gk = gq + 1 := ⟨gk - 1, by omega⟩
      obtain ⟨b, off, ya, yc, rfl, hb, ⟨q0, q1, q2, q3⟩, hby, hcap⟩ := MSts.at H2.out HBw.out k hlt
      have hk1 : (0 : Int) ≤ (k : Int) := by omega
      have hk2 : (k : Int) < (l.length : Int) := by omega
      have hlow : 0 < l[k].data.length → ∀ j, (Value.slice ya l[k].data.length yc).ownBlock = some j → j < w.heap.size := fun h0 j hj => by
        obtain ⟨_, yb, yo, e2, e3, _⟩ := bys_block hby h0
        rw [e2] at hj
        cases hj
        exact e3
      have HBy := hide (hby.below HBw.out)
      have HQ := hide (And.intro q1 (And.intro q2 q3))
      have HLow := hide hlow
      have hkeep : ∀ W, Turned (fun j => w1.heap.size ≤ j) wr W → ∀ i v, wr.cell? ⟨b, i, none⟩ = some v → W.cell? ⟨b, i, none⟩ = some v := fun W hT i v hv => hT.cell hv (fun e => by have e' : w1.heap.size ≤ b := e; omega)
      have HKp := hide hkeep
      have HByT : Hid (∀ w4, Turned (fun j => w1.heap.size ≤ j) wr w4 → Bys w4 (.slice ya l[k].data.length yc) l[k].data) := hide fun w4 hT => by
        by_cases h0 : 0 < l[k].data.length
        · exact HBy.out.turned hT (fun j hj _ e => by have := HLow.out h0 j hj; have e' : w1.heap.size ≤ j := e; omega)
        · exact bys_void2 HBy.out h0
      generalize l[k] = s at *
      obtain ⟨what, n, m, data⟩ := s
      simp only at *
      clear hby hlow hkeep
      by_cases h0 : what = 0
      · subst h0
        have HC := hide (mm_read n HP.out)
        have hY : (S.read n).1.length ≤ maxLen := by have h1 := S.read_few n; obtain ⟨O, P, p1, _⟩ := HP.out; have h2 := p1.ok; unfold maxLen; omega
        generalize hR : S.read n = R at *
        obtain ⟨Y, E, S'⟩ := R
        simp only at HC hY
        clear hR
        go_wp2_with (first
          | (go_at_call 19; refine (HC.out wr (Below.refl _ _)).mono ?_; rintro _ w5 ⟨a5, c5, rfl, hT5, h6⟩; have x1 := HKp.out w5 hT5 _ _ HQ.out.1; have H6 := hide h6; clear h6)
          | (go_at_call 20; refine (H6.out _ (Below.refl _ _)).mono ?_; rintro _ w7 ⟨a7, c7, rfl, hy1, hy2, HP7, hT7⟩; have HS := hide (same_any _ _ Y w7 hy1 hy2 hY); have HT7 := hide hT7; clear hy1 hy2 hT7)
          | (go_at_call 21; refine HS.out.mono ?_; rintro _ w8 ⟨rfl, hB8⟩; have HB8 := hide hB8; clear hB8)
          | fail)
        go_roundg gq
        case measure => omega
        case rel => exact ⟨k + 1, S', by omega, by go_num, hide ((HP7.out.below (mem_o _ _) (mem_o _ _) HB8.out).mono (fun j e => e.1)), hide (HBx.out.trans ((HT7.out.trans (Turned.of_below (S := fun j => w1.heap.size ≤ j) HB8.out) (fun _ _ e => e)).below (fun _ e => e) hBz))⟩
      have h0' : (what == 0) = false := by simpa using h0
      by_cases h1 : what = 1
      · subst h1
        have HC := hide (mm_num (S' := (S.write data).2.2) (N := (S.write data).1) (E := (S.write data).2.1) (F := 22) (G := 23) (A := #[.pointer (some ⟨x, 0, none⟩), .slice ya data.length yc]) (A' := #[.pointer (some ⟨y, 0, none⟩), .slice ya data.length yc]) HP.out hBz
          (fun O wb hM hO hT => fmwrite_any O x S data ya yc wb hM (HByT.out wb hT) hcap (fun h0 j hj e => by have := HLow.out h0 j hj; have := hO j e; omega))
          (fun O wb hM hO hT => gmwrite_any O y S data ya yc wb hM (HByT.out wb hT) hcap (fun h0 j hj e => by have := HLow.out h0 j hj; have := hO j e; omega)))
        generalize hR : S.write data = R at *
        obtain ⟨N, E, S'⟩ := R
        simp only at HC
        clear hR
        go_wp2_with (first
          | (go_at_call 22; refine (HC.out wr (Below.refl _ _)).mono ?_; rintro _ w5 ⟨rfl, hT5, h6⟩; have x1 := HKp.out w5 hT5 _ _ HQ.out.2.2; have H6 := hide h6; clear h6)
          | (go_at_call 23; refine (H6.out _ (Below.refl _ _)).mono ?_; rintro _ w7 ⟨rfl, HP7, hT7⟩; have HT7 := hide hT7; clear hT7)
          | fail)
        go_roundg gq
        case measure => omega
        case rel => exact ⟨k + 1, S', by omega, by go_num, HP7, hide (HBx.out.trans ((HT7.out.trans (Turned.of_below (S := fun j => w1.heap.size ≤ j) (Below.refl _ _)) (fun _ _ e => e)).below (fun _ e => e) hBz))⟩
      have h1' : (what == 1) = false := by simpa using h1
      by_cases h2 : what = 2
      · subst h2
        have HC := hide (mm_num (S' := (S.seek n m).2.2) (N := (S.seek n m).1) (E := (S.seek n m).2.1) (F := 24) (G := 25) (A := #[.pointer (some ⟨x, 0, none⟩), .int .i64 n, .int .i64 m]) (A' := #[.pointer (some ⟨y, 0, none⟩), .int .i64 n, .int .i64 m]) HP.out hBz
          (fun O wb hM _ _ => fmseek_any O x S n m wb hM) (fun O wb hM _ _ => gmseek_any O y S n m wb hM))
        generalize hR : S.seek n m = R at *
        obtain ⟨N, E, S'⟩ := R
        simp only at HC
        clear hR
        go_wp2_with fail
        go_region_held3 (fun w' => w'.cell? ⟨b, off + k * 4 + 1, none⟩ = some (.int .i64 n) ∧ w'.cell? ⟨b, off + k * 4 + 2, none⟩ = some (.int .i64 m))
          (first | exact hx5 | exact ⟨q1, q2⟩ | go_keep)
          (first
            | (go_at_call 24; refine (HC.out wr.drew (Below.refl _ _).drew).mono ?_; rintro _ w5 ⟨rfl, hT5, h6⟩; have hx5 : w5.cell? ⟨b, off + k * 4 + 1, none⟩ = some (.int .i64 n) ∧ w5.cell? ⟨b, off + k * 4 + 2, none⟩ = some (.int .i64 m) := ⟨HKp.out w5 hT5 _ _ HQ.out.1, HKp.out w5 hT5 _ _ HQ.out.2.1⟩; have H6 := hide h6; clear h6)
            | fail)
        obtain ⟨x1, x2⟩ := hx5
        clear q1 q2
        go_wp2_with fail
        go_region_held3 (fun w' => w'.cell? ⟨b, off + k * 4 + 1, none⟩ = some (.int .i64 n) ∧ w'.cell? ⟨b, off + k * 4 + 2, none⟩ = some (.int .i64 m))
          (first | exact hx7 | exact ⟨x1, x2⟩ | go_keep)
          (first
            | (go_at_call 25; refine (H6.out w5.drew (Below.refl _ _).drew).mono ?_; rintro _ w7 ⟨rfl, HP7, hT7⟩; have hx7 : w7.cell? ⟨b, off + k * 4 + 1, none⟩ = some (.int .i64 n) ∧ w7.cell? ⟨b, off + k * 4 + 2, none⟩ = some (.int .i64 m) := ⟨HKp.out w7 hT7 _ _ HQ.out.1, HKp.out w7 hT7 _ _ HQ.out.2.1⟩; have HT7 := hide hT7; clear hT7)
            | fail)
        clear hx7 x1 x2
        go_wp2
        go_roundg gq
        case measure => omega
        case rel => exact ⟨k + 1, S', by omega, by go_num, HP7, hide (HBx.out.trans ((HT7.out.trans (Turned.of_below (S := fun j => w1.heap.size ≤ j) (Below.refl _ _)) (fun _ _ e => e)).below (fun _ e => e) hBz))⟩
      have h2' : (what == 2) = false := by simpa using h2
      go_wp2
      go_roundg gq
      case measure => omega
      case rel => exact ⟨k + 1, S, by omega, by go_num, HP, HBx⟩
    · have hk2 : ¬ (k : Int) < (l.length : Int) := by omega
      obtain ⟨O, P, p1, p2, -⟩ := HP.out
      have h3 := p1.ok
      have hY : S.l.length ≤ maxLen := by unfold maxLen; omega
      have HA := hide (fmbytes_any O x S wr p1)
      have Hp2 := hide p2
      clear p1 p2
      go_wp2_with fail
      refine HA.out.mono ?_
      rintro _ w4 ⟨v4, rfl, ho4, hB4⟩
      have HO4 := hide ho4
      have HB4 := hide hB4
      clear ho4 hB4
      go_wp2_with fail
      refine (gmbytes_any P y S w4 (Hp2.out.below HB4.out)).mono ?_
      rintro _ w5 ⟨v5, rfl, ho5, hB5⟩
      have HS := hide (same_any _ _ S.l w5 ((Bys.of_owns HO4.out).below hB5) (Bys.of_owns ho5) hY)
      have HB5 := hide (HBw.out.trans ((HB4.out.trans (hB5.mono HB4.out.size)).mono HBw.out.size))
      clear ho5 hB5
      go_wp2_with (first | (go_at_call 21; refine HS.out.mono ?_; rintro _ w8 ⟨rfl, hB8⟩) | fail)
      go_ret
      exact ⟨rfl, HB5.out.trans (hB8.mono HB5.out.size)⟩
end Go.Proofs.Ytimggonlfkboaaa
