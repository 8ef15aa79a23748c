/- RetryWhole answers true for all bytes, faults and numbers, within the reach of a machine's memory: whatever the faults are, all that is asked for is read, and all that is given is written, as without them. -/
import Derived.Test.YtknpghmcacocfaaKM14
import Derived.ProofKit
import Derived.OpenShut
import Derived.ShutString
import Derived.ChangeOld
import Derived.Below
import Derived.SizedLaws
/- RetryWhole, walked. -/
namespace Go.Proofs.Ytknpghmcacocfaa
open Go.RowKit Go.Maps

theorem rw_files {W : World} {B : Nat} {v : Value} {us : List Value} {f g : ByteArray} {b x : List UInt8} (h : W.ownsRow B 30 2 v [(f, b), (g, x)].length (ncs [(f, b), (g, x)] us)) (hL : LCells W B ([(f, b), (g, x)].map Prod.snd) us) :
    ∃ fb fc va vc, v = .slice (some ⟨fb, 0, none⟩) 2 fc ∧ W.cell? ⟨fb, 3, none⟩ = some (.slice va x.length vc) ∧ Bys W (.slice va x.length vc) x := by
  have hul : us.length = 2 := hL.1
  obtain ⟨u, h1, h2⟩ := hL.2.1 1 (by simp)
  have h2' : W.ownsRow B 5 1 u x.length (x.map bv) := h2
  obtain ⟨va, vc, rfl⟩ := owns_slice h2'
  have hx := h
  rcases h.2 with ⟨_, e⟩ | ⟨fb, fc, cur, rfl, _⟩
  · simp at e
  · refine ⟨fb, fc, va, vc, rfl, ?_, Bys.of_owns h2'⟩
    rw [hx.cellAt 3 (by simp)]
    exact (ncs_get [(f, b), (g, x)] us 1 (by simp) hul).2.trans h1
theorem pcr (b : List UInt8) : RdV (kerD 1) b (fun p L rd => KPc b [] p 0 L rd 0) where
  read p L rd n hp hL h1 h2 := by
    have hx : (KPc b [] p 0 L rd 0).find 1 = some ⟨1, 0, 1, p, 1⟩ := rfl
    have n1 : (1 : Int) ≤ (n : Int) := by omega
    have n2 : (n : Int) ≤ 1048576 := by omega
    show ∃ Y E, (KPc b [] p 0 L rd 0).read 1 (n : Int) = _ ∧ _
    rw [read_is hx (by show fbit 1 1 ≠ 0; decide) n1 n2 rfl]
    rw [show (KPc b [] p 0 L rd 0).plan = L from rfl]
    rcases nxt_err (l := L) n1 n2 with e | e | e
    · rw [if_pos e]
      have hg := nxt_good hL n1 n2 e
      refine ⟨piece b p (nxt L n).1.toNat, 0, rfl, take_piece hp, ?_, ?_, .inl ⟨rfl, fun hlt h0 => ?_⟩⟩
      · rw [piece_len]; omega
      · rw [piece_len]; omega
      · have := congrArg List.length h0
        rw [piece_len] at this
        simp at this
        omega
    · rw [if_neg (by omega), e]
      refine ⟨[], 22, rfl, by simp, by simpa using hp, by simp, .inr ⟨.inl rfl, rfl, fun hn => ?_⟩⟩
      subst hn
      rw [nxt_nil n1 n2] at e
      cases e
    · rw [if_neg (by omega), e]
      refine ⟨[], 23, rfl, by simp, by simpa using hp, by simp, .inr ⟨.inr rfl, rfl, fun hn => ?_⟩⟩
      subst hn
      rw [nxt_nil n1 n2] at e
      cases e
theorem pcw (b x : List UInt8) (p rd : Nat) (h2 : x.length ≤ 1048576) : WrV (kerD 2) x (fun q L wr => KPc b (x.take q) p q L rd wr) where
  write q L wr hq hL := by
    have hx : (KPc b (x.take q) p q L rd wr).find 2 = some ⟨2, 1, 10, q, 1⟩ := rfl
    have hdl : (x.drop q).length = x.length - q := List.length_drop
    have hpl : placeOf (x.take q) 10 q = q := rfl
    have hr : refusal ((KPc b (x.take q) p q L rd wr).tho ⟨2, 1, 10, q, 1⟩) 10 q (x.drop q).length = 0 := by
      show (if placeOf (x.take q) 10 q = 1048576 then (31 : Int) else 0) = 0
      rw [hpl, if_neg (by omega)]
    have n1 : (1 : Int) ≤ ((x.drop q).length : Int) := by omega
    have n2 : ((x.drop q).length : Int) ≤ 1048576 := by omega
    show ∃ (m : Nat) (E : Int), (KPc b (x.take q) p q L rd wr).write 2 (x.drop q) = _ ∧ _
    rw [write_is hx (by show fbit 10 2 ≠ 0; decide) (by omega) (by omega) hr]
    rw [show (KPc b (x.take q) p q L rd wr).plan = L from rfl]
    rcases nxt_err (l := L) n1 n2 with e | e | e
    · rw [if_pos e]
      have hg := nxt_good hL n1 n2 e
      obtain ⟨m, hm⟩ : ∃ m : Nat, (nxt L (x.drop q).length).1 = (m : Int) := ⟨(nxt L (x.drop q).length).1.toNat, by omega⟩
      rw [hm] at hg ⊢
      have hmin : min ((m : Int)).toNat (1048576 - placeOf (x.take q) 10 q) = m := by rw [hpl]; omega
      refine ⟨m, 0, ?_, by omega, .inl ⟨rfl, by omega⟩⟩
      show (KPc b (x.take q) p q L rd wr).writeUp.wrx ⟨2, 1, 10, q, 1⟩ (x.drop q) m = _
      rw [show (KPc b (x.take q) p q L rd wr).writeUp.wrx ⟨2, 1, 10, q, 1⟩ (x.drop q) m = (((min ((m : Int)).toNat (1048576 - placeOf (x.take q) 10 q) : Nat) : Int), 0, ((KPc b (x.take q) p q L rd wr).writeUp.setOb 1 (.file (wrL (x.take q) (placeOf (x.take q) 10 q) ((x.drop q).take (min ((m : Int)).toNat (1048576 - placeOf (x.take q) 10 q)))))).setDe ⟨2, 1, 10, placeOf (x.take q) 10 q + min ((m : Int)).toNat (1048576 - placeOf (x.take q) 10 q), 1⟩) from rfl]
      rw [hmin, hpl, wrL_more x q m (by omega) (by omega) h2]
      rfl
    · rw [if_neg (by omega), e]
      refine ⟨0, 22, rfl, by omega, .inr ⟨.inl rfl, rfl, fun hn => ?_⟩⟩
      subst hn
      rw [nxt_nil n1 n2] at e
      cases e
    · rw [if_neg (by omega), e]
      refine ⟨0, 23, rfl, by omega, .inr ⟨.inr rfl, rfl, fun hn => ?_⟩⟩
      subst hn
      rw [nxt_nil n1 n2] at e
      cases e
theorem pcr_ok (b : List UInt8) : ∀ p L r, r < 9223372036854775807 → kerR ((fun p L rd => KPc b [] p 0 L rd 0) p L r) := fun _ _ _ h => h
theorem pcw_ok (b x : List UInt8) (p rd : Nat) : ∀ q L r, r < 9223372036854775807 → kerW ((fun q L wr => KPc b (x.take q) p q L rd wr) q L r) := fun _ _ _ h => h
theorem whole_all (b : List UInt8) (l : List Fault) (M : Nat) (hl : planOk l) (h2 : M ≤ 300) : allOk (kerD 1) kerR M M (KPc b [] 0 0 l 0 0) [] ∧ ∃ Y L' rd', allV (kerD 1) M M (KPc b [] 0 0 l 0 0) [] = (Y, 0, KPc b [] Y.length 0 L' rd' 0) ∧ Y = b.take Y.length ∧ Y.length ≤ b.length ∧ Y.length ≤ M ∧ (Y.length = M ∨ Y.length = b.length) ∧ planOk L' := by
  have h3 : 0 + l.length + (M - ([] : List UInt8).length) + 1 ≤ 9223372036854775807 := by
    have h4 := hl.1
    rw [List.length_nil]
    omega
  have h5 : M - ([] : List UInt8).length ≤ M := Nat.sub_le _ _
  obtain ⟨g1, Y, L', rd', g2, g3, g4, g5, g6, g7⟩ := RdV.all (pcr b) (pcr_ok b) M (Nat.le_trans h2 (by decide)) M 0 [] l 0 (Nat.zero_le _) h5 (Nat.zero_le _) hl h3
  rw [List.nil_append, Nat.zero_add] at g2
  rw [List.take_zero, List.nil_append, Nat.zero_add] at g3
  rw [Nat.zero_add] at g4
  rw [List.length_nil, Nat.zero_add] at g5 g6
  exact ⟨g1, Y, L', rd', g2, g3, g4, g5, g6, g7⟩
theorem whole_put (b x : List UInt8) (L : List Fault) (p rd : Nat) (hl : planOk L) (h2 : x.length ≤ 1048576) : putOk (kerD 2) kerW x (putF x) (KPc b [] p 0 L rd 0) 0 0 ∧ ∃ L' wr', putV (kerD 2) x (putF x) (KPc b [] p 0 L rd 0) 0 0 = (x.length, 0, KPc b x p x.length L' rd wr') := by
  have h3 : 0 + L.length + (x.length - 0) ≤ 9223372036854775807 := by
    have h4 := hl.1
    omega
  have h5 : (x.length - 0) * 8192 + (8192 - 0) ≤ putF x := by unfold putF; omega
  have h6 : 0 + L.length ≤ 4096 := by have := hl.1; omega
  obtain ⟨g1, L', wr', g2, -⟩ := WrV.put (pcw b x p rd h2) (pcw_ok b x p rd) (putF x) 0 0 L 0 (Nat.zero_le _) h5 h6 hl h3
  simp only [List.take_zero, List.take_length] at g1 g2
  exact ⟨g1, L', wr', g2⟩
set_option maxRecDepth 100000 in
set_option maxHeartbeats 8000000 in
theorem retryWhole_any (a1 a2 a3 : Option Addr) (n1 n2 n3 c1 c2 c3 : Nat) (b x : List UInt8) (l : List Fault) (n : Int) (w : World) (h1 : Bys w (.slice a1 n1 c1) b) (m1 : b.length ≤ c1) (h2 : Bys w (.slice a2 n2 c2) x) (m2 : x.length ≤ c2) (h3 : Flts w (.slice a3 n3 c3) l) (z1 : b.length ≤ 140737488351232) (z2 : x.length ≤ 140737488351232) (z3 : l.length * 16 ≤ 140737488351232) :
    Calls Try.prog 5 #[.slice a1 n1 c1, .slice a2 n2 c2, .slice a3 n3 c3, .int .i64 n] w fun e w' => e = .returned (.bool true) ∧ Below w.heap.size w w' := by
  obtain rfl := Kp_bys_len h1
  obtain rfl := Kp_bys_len h2
  obtain rfl : n3 = l.length := by obtain ⟨_, _, e, _⟩ := flts_form h3; cases e; rfl
  have H1 := hide h1
  have H2 := hide h2
  have H3 := hide h3
  have HAl := hide (ralive_any w)
  clear h1 h2 h3
  go_enter Try.func5, Try.ntmps5
  go_wp2_with fail
  refine HAl.out.mono ?_
  rintro e w1 ⟨rfl, hB1⟩
  have hsz1 := hB1.size
  have hBn := recv_below w1 (Obj.cells #[.string ⟨#[102]⟩, .slice a1 b.length c1] 30)
  obtain ⟨p0, p1⟩ := pair_cells w1 (.string ⟨#[102]⟩) (.slice a1 b.length c1) 30
  have hN : Nms (w1.alloc (Obj.cells #[.string ⟨#[102]⟩, .slice a1 b.length c1] 30)) (.slice (some ⟨w1.heap.size, 0, none⟩) 1 1) [(nmF, b)] := one_named p0 p1 ((H1.out.below hB1).below hBn) m1 (by decide)
  have hF0 := (H3.out.below hB1).below hBn
  have hBw : Below w.heap.size w (w1.alloc (Obj.cells #[.string ⟨#[102]⟩, .slice a1 b.length c1] 30)) := hB1.trans (hBn.mono hsz1)
  by_cases hE : checkE [(nmF, b)] [] l = 0
  case neg =>
    have HN := hide (knew_bad (some ⟨w1.heap.size, 0, none⟩) none a3 1 0 c3 [(nmF, b)] [] l _ hN (no_typed _) hF0 z3 (by simp) (by decide) hE)
    have HB := hide hBw
    clear hN hF0 p0 p1 hBn hBw
    generalize checkE [(nmF, b)] [] l = E at *
    go_wp2_with fail
    refine HN.out.mono ?_
    rintro e w2 ⟨rfl, hB2⟩
    have HB2 := hide (HB.out.trans (hB2.mono HB.out.size))
    clear hB2
    go_wp2_with (first | (go_at_call 25; refine (num_re _ _).mono ?_; rintro _ _ ⟨rfl, rfl⟩) | fail)
    go_ret
    exact ⟨rfl, HB2.out⟩
  have HN := hide (knew_good (some ⟨w1.heap.size, 0, none⟩) none a3 1 0 c3 [(nmF, b)] [] l _ hN (no_typed _) hF0 z3 (by simp) (by decide) hE)
  have HB := hide hBw
  clear hN hF0 p0 p1 hBn hBw hE
  go_wp2_with fail
  refine HN.out.mono ?_
  rintro e w2 ⟨kb, rfl, hK, hB2⟩
  have hB2w := HB.out.trans (hB2.mono HB.out.size)
  have HB2 := hide hB2w
  have hs2 := hB2w.size
  have HPl : Hid (planOk l) := hide hK.ok.1.plan
  have HO := hide ((hK.mono (fun k e => Nat.le_trans HB.out.size e)).open nmF 1 (by decide) (by show (1 : Nat) < 9223372036854775807; decide))
  rw [pc_open1] at HO
  clear hK hB2 hB2w HN HB
  go_wp2_with (first | (go_at_call 25; refine (num_re _ _).mono ?_; rintro _ _ ⟨rfl, rfl⟩) | fail)
  refine HO.out.mono ?_
  rintro e w3 ⟨rfl, hS⟩
  obtain ⟨hK, hB⟩ := hS.at (B := w.heap.size) (fun _ e => e) hs2
  have HB3 := hide (HB2.out.trans hB)
  have hs3 := HB3.out.size
  have HO2 := hide (hK.open nmG 10 (by decide) (by show (2 : Nat) < 9223372036854775807; decide))
  rw [pc_open2] at HO2
  clear hK hB hS HO HB2 hs2
  go_wp2_with (first | (go_at_call 25; refine (num_re _ _).mono ?_; rintro _ _ ⟨rfl, rfl⟩) | fail)
  refine HO2.out.mono ?_
  rintro e w4 ⟨rfl, hS⟩
  obtain ⟨hK, hB⟩ := hS.at (B := w.heap.size) (fun _ e => e.1) hs3
  have HB4 := hide (HB3.out.trans hB)
  have hs4 := HB4.out.size
  by_cases hx9 : x.length ≤ 1048576
  case neg =>
    have hx9' : (1048576 : Int) < (x.length : Int) := by omega
    clear hK hB hS HO2 HB3 hs3
    go_wp2_with (first | (go_at_call 25; refine (num_re _ _).mono ?_; rintro _ _ ⟨rfl, rfl⟩) | fail)
    go_ret
    exact ⟨rfl, HB4.out⟩
  have hx9' : ¬ (1048576 : Int) < (x.length : Int) := by omega
  obtain ⟨m, hm, hm9⟩ := krem_twice n 300 (by decide) (by decide)
  have Hm := hide hm
  clear hm
  obtain ⟨M, hM⟩ : ∃ M, M = 1 + m := ⟨_, rfl⟩
  have hMv : (1 : Int) + (m : Int) = (M : Int) := by omega
  have HM : Hid (1 ≤ M ∧ M ≤ 300) := hide (by omega)
  have hwM : wrap64 (M : Int) = (M : Int) := by unfold wrap64; omega
  obtain ⟨g1, Y, L', rd', g2, g3, g4, g5, g6, g7⟩ := whole_all b l M HPl.out HM.out.2
  have hM6 : M ≤ 1048576 := Nat.le_trans HM.out.2 (by decide)
  have hK' : KAt w4 (fun k => w.heap.size ≤ k ∧ k < w4.heap.size) kb (KPc b [] 0 0 l 0 0) := hK
  have HA := hide (all_any (ker_raw kb 1 ⟨by decide, by decide⟩) (O := fun k => w.heap.size ≤ k ∧ k < w4.heap.size) (s := KPc b [] 0 0 l 0 0) M hK' (fun j e => e.2) HM.out.1 hM6 g1)
  rw [g2] at HA
  simp only at HA
  have HY := hide (And.intro g3 (And.intro g4 (And.intro g5 g6)))
  have HL' := hide g7
  clear hM6 hM hm9 hK hK' hB hS HO2 HB3 hs3 g1 g2 g3 g4 g5 g6 g7
  have hm := Hm.out
  clear Hm
  go_wp2_with (first | (go_at_call 25; refine (num_re _ _).mono ?_; rintro _ _ ⟨rfl, rfl⟩) | fail)
  simp only [hwM]
  clear hm hMv hwM
  refine HA.out.mono ?_
  rintro _ w5 ⟨u, rfl, hO5, hK5, hT5⟩
  obtain ⟨ya, yc, rfl⟩ := owns_slice hO5
  have HB5 := hide (HB4.out.trans (hT5.below (fun j e => e.1) hs4))
  have hs5 := hT5.size
  have HO5 := hide hO5
  obtain ⟨k1, L2, wr', k2⟩ := whole_put b x L' Y.length rd' HL'.out hx9
  have HP := hide (rput_any (ker_raw kb 2 ⟨by decide, by decide⟩) x a2 c2 hK5 (fun j e => by have := e.2; omega) (H2.out.below HB5.out) m2 hx9 (fun h0 k hk e => by
    obtain ⟨-, xb, xo, rfl, hxb, -⟩ := bys_block H2.out h0
    have : xb = k := by simpa [Value.ownBlock] using hk
    have := e.1
    omega) k1)
  rw [k2] at HP
  clear hO5 hK5 hT5 k1 k2
  go_wp2_with fail
  refine HP.out.mono ?_
  rintro _ w6 ⟨rfl, O6, hK6, hO6, hT6⟩
  have HB6 := hide (HB5.out.trans (hT6.below (fun j e => e.1) HB5.out.size))
  have HO6 := hide (owns_turned HO5.out hT6 (fun j hj e => by have := (HO5.out.lt j hj).1; have := e.2; omega))
  have HFi := hide hK6.files
  rw [pc_files] at HFi
  clear hK6 hO6 hT6
  go_wp2_with fail
  refine HFi.out.mono ?_
  rintro e w8 ⟨v, us, rfl, hO8, hL8, hB8⟩
  obtain ⟨fb, fc, va, vc, rfl, hc3, hbx⟩ := rw_files hO8 hL8
  have hfb := World.block_lt_of_cell? w8 _ hc3
  have HBX := hide hbx
  have HB8 := hide (HB6.out.trans (hB8.mono HB6.out.size))
  have HBY := hide ((Bys.of_owns HO6.out).below hB8)
  clear hO8 hL8 hB8 hbx
  obtain ⟨Yn, hYn⟩ : ∃ Yn, Yn = Y.length := ⟨_, rfl⟩
  have hmin : min (M : Int) (b.length : Int) = (Yn : Int) := by have := HY.out.2.1; have := HY.out.2.2.1; have := HY.out.2.2.2; omega
  have hYc : (Yn : Int) ≤ (c1 : Int) := by have := HY.out.2.1; omega
  have hY0 : (0 : Int) ≤ (Yn : Int) := by omega
  by_cases hb0 : b = []
  · have HS8 : Hid (Calls Try.prog 15 #[.slice ya Yn yc, .slice a1 Yn c1] w8 fun e w' => e = .returned (.bool true) ∧ Below w8.heap.size w8 w') := hide (by
      have h0 : Y = [] := List.length_eq_zero_iff.1 (by have := HY.out.2.1; subst hb0; simpa using this)
      rw [hYn]
      subst h0
      subst hb0
      exact same_any _ _ [] w8 HBY.out (H1.out.below HB8.out) (by decide))
    clear HBY
    rw [← hYn]
    clear hYn hb0
    go_wp2_with (first | (go_at_call 25; refine (num_re _ _).mono ?_; rintro _ _ ⟨rfl, rfl⟩) | fail)
    refine HS8.out.mono ?_
    rintro e w9 ⟨rfl, hB9⟩
    have hc4 := (hB9.cell (p := ⟨fb, 3, none⟩) hfb).trans hc3
    have HB9 := hide (HB8.out.trans (hB9.mono HB8.out.size))
    have HS9 := hide (same_any (.slice va x.length vc) (.slice a2 x.length c2) x w9 (HBX.out.below hB9) (H2.out.below HB9.out) (by unfold maxLen; omega))
    clear hB9 hc3
    go_wp2_with fail
    refine HS9.out.mono ?_
    rintro e w10 ⟨rfl, hB10⟩
    have HB10 := hide (HB9.out.trans (hB10.mono HB9.out.size))
    clear hB10
    go_wp2
    go_ret
    exact ⟨rfl, HB10.out⟩
  · obtain ⟨-, xb, xo, rfl, -, -⟩ := bys_block H1.out (List.length_pos_iff.2 hb0)
    have HS8 : Hid (Calls Try.prog 15 #[.slice ya Yn yc, .slice (some ⟨xb, xo, none⟩) Yn c1] w8 fun e w' => e = .returned (.bool true) ∧ Below w8.heap.size w8 w') := hide (by
      have h0 := bys_cut (H1.out.below HB8.out) 0 Y.length c1 (by have := HY.out.2.1; omega)
      rw [List.drop_zero, ← HY.out.1, Nat.add_zero] at h0
      rw [hYn]
      exact same_any _ _ Y w8 HBY.out h0 (by have := HY.out.2.1; unfold maxLen; omega))
    clear HBY
    rw [← hYn]
    clear hYn hb0
    go_wp2_with (first | (go_at_call 25; refine (num_re _ _).mono ?_; rintro _ _ ⟨rfl, rfl⟩) | fail)
    refine HS8.out.mono ?_
    rintro e w9 ⟨rfl, hB9⟩
    have hc4 := (hB9.cell (p := ⟨fb, 3, none⟩) hfb).trans hc3
    have HB9 := hide (HB8.out.trans (hB9.mono HB8.out.size))
    have HS9 := hide (same_any (.slice va x.length vc) (.slice a2 x.length c2) x w9 (HBX.out.below hB9) (H2.out.below HB9.out) (by unfold maxLen; omega))
    clear hB9 hc3
    go_wp2_with fail
    refine HS9.out.mono ?_
    rintro e w10 ⟨rfl, hB10⟩
    have HB10 := hide (HB9.out.trans (hB10.mono HB9.out.size))
    clear hB10
    go_wp2
    go_ret
    exact ⟨rfl, HB10.out⟩
end Go.Proofs.Ytknpghmcacocfaa

/- RetryWhole answers true for all bytes, faults and numbers, within the reach of a machine's memory: whatever the faults are, all that is asked for is read, and all that is given is written, as without them. -/
namespace Go.Proofs.Ytknpghmcacocfaa.retryWhole
open Go.ChangeShapes Go.WideShapes Go.ChangeAt Go.RowKit
open Go.ChangeMaps (open_string shut_string)
set_option linter.unusedVariables false

theorem own : ownKnob Try.prog.godebug = none := by kernel_rfl
theorem laidOut : laidOutB Try.prog = true := by kernel_rfl

set_option maxRecDepth 100000 in
theorem lifted (os : Os) (started : os.Started) (H : Type) (enc : TypeId × Value → H) :
    ReturnsInHanded {} Try.checked os 5 .any (Rows.retryWholeSpec.pre6 enc Try.prog Try.f5 Rows.retryWholeRow.domain false) (Rows.retryWholeSpec.post enc Try.prog Try.f5 false true false false) := by
  refine returnsInHanded_of_change_sized (C := Try.checked) own started (by kernel_rfl) Try.func5
    (ChangeSpec.witness6 (enc := enc) (C := Try.checked) false ⟨#[], #[.slice none 0 0, .slice none 0 0, .slice none 0 0, .int .i64 0], []⟩ 8 (by kernel_rfl) (by kernel_rfl) (by kernel_rfl) (by kernel_rfl)) ?_
  intro W base args ds gs before hval0 hW hcnd0 hsz0 _
  have hsz : (DataW.weightsEach Try.prog (Try.f5.params.toList ++ Rows.retryWholeSpec.plain.varTypes Try.prog) (ds ++ gs)).all (· ≤ reachBytes) = true := hsz0
  clear hsz0
  have hval : ∀ (j : Nat) t v, Try.f5.params[j]? = some t → args[j]? = some v → Value.okWide Try.prog W .any base t v := hval0
  have hW' := hW
  obtain ⟨p, q, hA0, hV, rfl, hfz, hnd⟩ := hW
  have hA : DataW.TrodAll enc Try.prog W 0 (fun _ => true) true Try.f5.params.toList args.toList ds p := hA0
  rw [Try.params5] at hA hval hsz
  obtain ⟨v0, vs0, d0, ds0, p0, q0, hargs, rfl, rfl, h0, r0⟩ := trodAll_cons hA
  obtain ⟨v1, vs1, d1, ds1, p1, q1, rfl, rfl, rfl, h1, r1⟩ := trodAll_cons r0
  obtain ⟨v2, vs2, d2, ds2, p2, q2, rfl, rfl, rfl, h2, r2⟩ := trodAll_cons r1
  obtain ⟨v3, vs3, d3, ds3, p3, q3, rfl, rfl, rfl, h3, r3⟩ := trodAll_cons r2
  obtain ⟨rfl, rfl, rfl⟩ := trodAll_nil r3
  obtain rfl : args = #[v0, v1, v2, v3] := by cases args; simp_all
  obtain ⟨rfl, rfl⟩ := trodVars_none hV
  obtain ⟨c0, len0, cap0, rfl⟩ := okWide_slice Try.underlying22 (hval 0 22 v0 rfl rfl)
  have k0 := h0
  have lt0 : ∀ x ∈ p0, x.block < W.heap.size := by obtain ⟨m, hm⟩ := k0; exact DataW.trod_lt m _ _ _ hm
  obtain ⟨fuel0, hf0⟩ := h0
  obtain ⟨l0, y0, m0, e0⟩ := bytes_arg2 Try.underlying22 Try.underlying5 (by kernel_rfl) hf0
  have z0 : l0.length ≤ 140737488351232 := by
    rcases e0 with ⟨_, rfl⟩ | ⟨elems, spare, rfl, hll⟩
    · simp
    · have := sized_slice hsz (j := 0) (t := 22) (e := 5) rfl rfl Try.underlying22
      rw [show Try.prog.bytesOf 5 = 1 by kernel_rfl] at this; simp only [reachBytes] at this; omega
  obtain ⟨c1, len1, cap1, rfl⟩ := okWide_slice Try.underlying22 (hval 1 22 v1 rfl rfl)
  have k1 := h1
  have lt1 : ∀ x ∈ p1, x.block < W.heap.size := by obtain ⟨m, hm⟩ := k1; exact DataW.trod_lt m _ _ _ hm
  obtain ⟨fuel1, hf1⟩ := h1
  obtain ⟨l1, y1, m1, e1⟩ := bytes_arg2 Try.underlying22 Try.underlying5 (by kernel_rfl) hf1
  have z1 : l1.length ≤ 140737488351232 := by
    rcases e1 with ⟨_, rfl⟩ | ⟨elems, spare, rfl, hll⟩
    · simp
    · have := sized_slice hsz (j := 1) (t := 22) (e := 5) rfl rfl Try.underlying22
      rw [show Try.prog.bytesOf 5 = 1 by kernel_rfl] at this; simp only [reachBytes] at this; omega
  obtain ⟨c2, len2, cap2, rfl⟩ := okWide_slice Try.underlying33 (hval 2 33 v2 rfl rfl)
  have k2 := h2
  have lt2 : ∀ x ∈ p2, x.block < W.heap.size := by obtain ⟨m, hm⟩ := k2; exact DataW.trod_lt m _ _ _ hm
  obtain ⟨fuel2, hf2⟩ := h2
  obtain ⟨l2, y2, e2⟩ := faults_arg Try.underlying33 Try.underlying123 (by kernel_rfl) rfl rfl (by kernel_rfl) (by kernel_rfl) Try.underlying3 Try.underlying3 hf2
  have z2 : l2.length * 16 ≤ 140737488351232 := by
    rcases e2 with ⟨_, rfl⟩ | ⟨elems, spare, rfl, hll⟩
    · simp
    · have := sized_slice hsz (j := 2) (t := 33) (e := 123) rfl rfl Try.underlying33
      rw [show Try.prog.bytesOf 123 = 16 by kernel_rfl] at this; simp only [reachBytes] at this; omega
  obtain ⟨a3, rfl, rfl, rfl, w3⟩ := open_int Try.underlying3 (hval 3 3 v3 rfl rfl) h3
  have b3 := bounds_i64 w3
  clear hA0
  refine ((retryWhole_any _ _ _ _ _ _ _ _ _ l0 l1 l2 a3 W y0 m0 y1 m1 y2 z0 z1 z2)).mono fun e W' ⟨he, bel⟩ => ?_
  subst he
  exact ⟨_, rfl, _, _, _, [], _, [], hW', trodAll_mk1 (shut_bool Try.underlying4 _), (trodAll_cons_mk (Below.trod laidOut (by kernel_rfl) (of_decide_eq_true (by kernel_rfl)) k0 bel lt0) (trodAll_cons_mk (Below.trod laidOut (by kernel_rfl) (of_decide_eq_true (by kernel_rfl)) k1 bel lt1) (trodAll_cons_mk (Below.trod laidOut (by kernel_rfl) (of_decide_eq_true (by kernel_rfl)) k2 bel lt2) (trodAll_cons_mk (shut_int Try.underlying3 w3) trodAll_mk0)))), rfl, bel.frame _, fun h => by cases h⟩

theorem over : Rows.retryWholeRow.holds Try.pinned (OpenSpec.ofChange Rows.retryWholeSpec) :=
  OpenClaim.holds_of_wide 5 Try.f5 rfl rfl rfl rfl rfl rfl rfl ⟨rfl, rfl, rfl, rfl, rfl⟩ rfl rfl rfl rfl rfl (by kernel_rfl) Try.func5 (by kernel_rfl)
    (of_decide_eq_true (by kernel_rfl)) (by unfold Func.isWrapper; first | (rw [if_pos (by decide +kernel)]; kernel_rfl) | (rw [if_neg (by decide +kernel)]; exact ⟨rfl, rfl⟩))
    (fun os started H enc _ => lifted os started H enc)
end Go.Proofs.Ytknpghmcacocfaa.retryWhole
namespace Go.Proofs.Ytknpghmcacocfaa
theorem retryWhole_holds : Rows.RetryWholeSaid := retryWhole.over
#print axioms retryWhole_holds
end Go.Proofs.Ytknpghmcacocfaa
