/- OpenmodeOpens answers true for every text, every file and none: a mode's flags are such as the kernel takes, and do what the mode says; the text and the bytes read afterwards as they read before; no condition. -/
import Derived.Test.YtkgbhcpeoaefjaaGreatKM13
import Derived.ProofKit
import Derived.OpenShut
import Derived.ShutString
import Derived.ChangeOld
import Derived.Below
import Derived.SizedLaws
/- OpenmodeOpens: modes' flags, the kernel's answers, as values. -/
namespace Go.Proofs.YtkgbhcpeoaefjaaGreat
open Go.RowKit Go.Maps

theorem num_op (e : Int) (w : World) : Calls Tryz.prog 20 #[.int .i64 e] w fun r w' => r = .returned (.int .i64 e) ∧ w = w' := (num_om e w).mono fun _ _ ⟨a, b⟩ => ⟨a, b.symm⟩
/-- The modes that may be: their flags, and what they say. -/
def ModeIs (m : Mo) : Prop :=
  (flK m 6 = 1 ∧ m.rd = true ∧ m.wr = false ∧ m.cr = false ∧ m.tr = false ∧ m.ex = false) ∨ (flK m 6 = 3 ∧ m.rd = true ∧ m.wr = true ∧ m.cr = false ∧ m.tr = false ∧ m.ex = false) ∨
  (flK m 6 = 26 ∧ m.rd = false ∧ m.wr = true ∧ m.cr = true ∧ m.tr = true ∧ m.ex = false) ∨ (flK m 6 = 27 ∧ m.rd = true ∧ m.wr = true ∧ m.cr = true ∧ m.tr = true ∧ m.ex = false) ∨
  (flK m 6 = 58 ∧ m.rd = false ∧ m.wr = true ∧ m.cr = true ∧ m.tr = true ∧ m.ex = true) ∨ (flK m 6 = 59 ∧ m.rd = true ∧ m.wr = true ∧ m.cr = true ∧ m.tr = true ∧ m.ex = true) ∨
  (flK m 6 = 14 ∧ m.rd = false ∧ m.wr = true ∧ m.cr = true ∧ m.tr = false ∧ m.ex = false) ∨ (flK m 6 = 15 ∧ m.rd = true ∧ m.wr = true ∧ m.cr = true ∧ m.tr = false ∧ m.ex = false)
instance (m : Mo) : Decidable (ModeIs m) := by unfold ModeIs; infer_instance
theorem mode_is (m : Mo) (hm : chkM m = 0) : ModeIs m := by
  obtain ⟨a, b, c, d, e, f, g, h⟩ := m
  revert hm
  revert a b c d e f g h
  decide +kernel
/-- One file, one description of it. -/
def KO (b : List UInt8) (fl : Int) (p rd : Nat) : KS := ⟨[⟨nmF, .file b⟩], [0], [⟨1, 0, fl, p, 1⟩], 2, [], rd, 0⟩
theorem ko_files (b : List UInt8) (fl : Int) (p rd : Nat) : (KO b fl p rd).files = [(nmF, b)] := rfl
theorem ko_read (b : List UInt8) (fl : Int) (h : fbit fl 1 ≠ 0) : (KO b fl 0 0).read 1 5 = (piece b 0 5, 0, KO b fl (piece b 0 5).length 1) := by
  have hx : (KO b fl 0 0).find 1 = some ⟨1, 0, fl, 0, 1⟩ := rfl
  rw [read_is hx h (by decide) (by decide) rfl]
  have e : nxt (KO b fl 0 0).plan 5 = (5, 0) := nxt_nil (by decide) (by decide)
  rw [e, if_pos rfl]
  show (piece b 0 5, (0 : Int), KO b fl (0 + (piece b 0 5).length) 1) = _
  rw [Nat.zero_add]
theorem ko_noread (b : List UInt8) (fl : Int) (h : fbit fl 1 = 0) : (KO b fl 0 0).read 1 5 = ([], 65, KO b fl 0 0) := by
  have hx : (KO b fl 0 0).find 1 = some ⟨1, 0, fl, 0, 1⟩ := rfl
  unfold KS.read
  rw [hx]
  simp only
  rw [if_pos h]
theorem ko_write (b : List UInt8) (fl : Int) (p rd : Nat) (h : fbit fl 2 ≠ 0) (hb : b.length ≤ 1000) (hp : p ≤ 1000) : ((KO b fl p rd).write 1 [1]).1 = 1 ∧ ((KO b fl p rd).write 1 [1]).2.1 = 0 := by
  have hx : (KO b fl p rd).find 1 = some ⟨1, 0, fl, p, 1⟩ := rfl
  have hpl : placeOf b fl p ≤ 1000 := by unfold placeOf; split <;> omega
  have hr : refusal ((KO b fl p rd).tho ⟨1, 0, fl, p, 1⟩) fl p ([1] : List UInt8).length = 0 := by
    show (if placeOf b fl p = 1048576 then (31 : Int) else 0) = 0
    rw [if_neg (by omega)]
  rw [write_is hx h (by decide) (by decide) hr]
  have e : nxt (KO b fl p rd).plan ([1] : List UInt8).length = (1, 0) := rfl
  rw [e, if_pos rfl]
  show ((min (1 : Int).toNat (1048576 - placeOf b fl p) : Nat) : Int) = 1 ∧ (0 : Int) = 0
  refine ⟨?_, rfl⟩
  rw [show (1 : Int).toNat = 1 from rfl]
  omega
theorem ko_nowrite (b : List UInt8) (fl : Int) (p rd : Nat) (h : fbit fl 2 = 0) : ((KO b fl p rd).write 1 [1]).1 = 0 ∧ ((KO b fl p rd).write 1 [1]).2.1 = 65 := by
  have hx : (KO b fl p rd).find 1 = some ⟨1, 0, fl, p, 1⟩ := rfl
  unfold KS.write
  rw [hx]
  simp only
  rw [if_pos h]
  exact ⟨rfl, rfl⟩
theorem th_1 (b : List UInt8) : (KS.new [(nmF, b)] [] []).open nmF 1 = (1, 0, KO b 1 0 0) := rfl
theorem th_3 (b : List UInt8) : (KS.new [(nmF, b)] [] []).open nmF 3 = (1, 0, KO b 3 0 0) := rfl
theorem th_26 (b : List UInt8) : (KS.new [(nmF, b)] [] []).open nmF 26 = (1, 0, KO [] 26 0 0) := rfl
theorem th_27 (b : List UInt8) : (KS.new [(nmF, b)] [] []).open nmF 27 = (1, 0, KO [] 27 0 0) := rfl
theorem th_58 (b : List UInt8) : (KS.new [(nmF, b)] [] []).open nmF 58 = (0, 63, KS.new [(nmF, b)] [] []) := rfl
theorem th_59 (b : List UInt8) : (KS.new [(nmF, b)] [] []).open nmF 59 = (0, 63, KS.new [(nmF, b)] [] []) := rfl
theorem th_14 (b : List UInt8) : (KS.new [(nmF, b)] [] []).open nmF 14 = (1, 0, KO b 14 0 0) := rfl
theorem th_15 (b : List UInt8) : (KS.new [(nmF, b)] [] []).open nmF 15 = (1, 0, KO b 15 0 0) := rfl
theorem no_1 : (KS.new [] [] []).open nmF 1 = (0, 62, KS.new [] [] []) := rfl
theorem no_3 : (KS.new [] [] []).open nmF 3 = (0, 62, KS.new [] [] []) := rfl
theorem no_26 : (KS.new [] [] []).open nmF 26 = (1, 0, KO [] 26 0 0) := rfl
theorem no_27 : (KS.new [] [] []).open nmF 27 = (1, 0, KO [] 27 0 0) := rfl
theorem no_58 : (KS.new [] [] []).open nmF 58 = (1, 0, KO [] 58 0 0) := rfl
theorem no_59 : (KS.new [] [] []).open nmF 59 = (1, 0, KO [] 59 0 0) := rfl
theorem no_14 : (KS.new [] [] []).open nmF 14 = (1, 0, KO [] 14 0 0) := rfl
theorem no_15 : (KS.new [] [] []).open nmF 15 = (1, 0, KO [] 15 0 0) := rfl
end Go.Proofs.YtkgbhcpeoaefjaaGreat

/- OpenmodeOpens, walked: a file is there. -/
namespace Go.Proofs.YtkgbhcpeoaefjaaGreat
open Go.RowKit Go.Maps

set_option maxRecDepth 100000 in
set_option maxHeartbeats 4000000 in
theorem opens_t1 (s : ByteArray) (a1 : Option Addr) (c1 : Nat) (b : List UInt8) (y : Mo) (n : Nat) (w : World) (hs : s.size ≤ maxLen) (h1 : Bys w (.slice a1 b.length c1) b) (m1 : b.length ≤ c1) (hb : b.length ≤ 1000) (hp : prs mo0 0 s.data.toList = (y, 0, n)) (hc : chkM y = 0) (hf : flK y 6 = 1) (hrd : y.rd = true) (hwr : y.wr = false) (hcr : y.cr = false) (htr : y.tr = false) (hex : y.ex = false) :
    Calls Tryz.prog 4 #[.string s, .bool true, .slice a1 b.length c1] w fun e w' => e = .returned (.bool true) ∧ Below w.heap.size w w' := by
  have HPr := hide (fun w => oparse_any s w hs)
  rw [hp] at HPr
  have HFl := hide (oflags_any y)
  rw [hc, show flg y = flK y 6 by simp [flg, hc], hf] at HFl
  simp only [mv, hrd, hwr, hcr, htr, hex] at HPr HFl
  have H1 := hide h1
  have hn := hide num_op
  clear hp hc hf hrd hwr hcr htr hex h1
  generalize y.ap = ap at *
  generalize y.bi = bi at *
  generalize y.ma = ma at *
  go_enter Tryz.func4, Tryz.ntmps4
  go_wp2_with fail
  refine (oalive_any _).mono ?_
  rintro e0 w0 ⟨rfl, hB0⟩
  go_wp2_with fail
  refine (HPr.out _).mono ?_
  rintro e1 w1 ⟨rfl, hB1⟩
  have hA : MoAt (w1.alloc (Obj.cells (mc ⟨true, false, ap, false, false, false, bi, ma⟩) 53)) w1.heap.size ⟨true, false, ap, false, false, false, bi, ma⟩ := heap_alloc_new _ _
  have hBB := hB0.trans (hB1.mono hB0.size)
  have hBA := hBB.alloc hBB.size (Obj.cells (mc ⟨true, false, ap, false, false, false, bi, ma⟩) 53)
  have HA := hide hA
  have HBA := hide hBA
  clear hA hBA hBB hB0 hB1 HPr
  have hb' : ¬ (1000 : Int) < (b.length : Int) := by omega
  go_wp2_with (first | (go_at_call 20; refine (hn.out _ _).mono ?_; rintro e w' ⟨rfl, rfl⟩) | (go_at_call 21; refine (HFl.out _).mono ?_; rintro e2 w2 ⟨rfl, hB2⟩) | fail)
  have hB2' : Below w.heap.size w w2 := HBA.out.trans (hB2.mono HBA.out.size)
  have hA2 : MoAt w2 w1.heap.size ⟨true, false, ap, false, false, false, bi, ma⟩ := HA.out.below hB2
  have hBc := recv_below w2 (Obj.cells #[.slice (some ⟨w2.heap.size + 1, 0, none⟩) 1 1, .slice none 0 0, .slice none 0 0] 36)
  have hz : (w2.alloc (Obj.cells #[.slice (some ⟨w2.heap.size + 1, 0, none⟩) 1 1, .slice none 0 0, .slice none 0 0] 36)).heap.size = w2.heap.size + 1 := by simp
  have hBn := recv_below (w2.alloc (Obj.cells #[.slice (some ⟨w2.heap.size + 1, 0, none⟩) 1 1, .slice none 0 0, .slice none 0 0] 36)) (Obj.cells #[.string ⟨#[102]⟩, .slice a1 b.length c1] 58)
  obtain ⟨p0, p1⟩ := pair_cells (w2.alloc (Obj.cells #[.slice (some ⟨w2.heap.size + 1, 0, none⟩) 1 1, .slice none 0 0, .slice none 0 0] 36)) (.string ⟨#[102]⟩) (.slice a1 b.length c1) 58
  rw [hz] at p0 p1
  have hB2n := hBc.trans (hBn.mono hBc.size)
  generalize (w2.alloc (Obj.cells #[.slice (some ⟨w2.heap.size + 1, 0, none⟩) 1 1, .slice none 0 0, .slice none 0 0] 36)).alloc (Obj.cells #[.string ⟨#[102]⟩, .slice a1 b.length c1] 58) = wN at *
  have hBN : Below w.heap.size w wN := hB2'.trans (hB2n.mono hB2'.size)
  have hN : Nms wN (.slice (some ⟨w2.heap.size + 1, 0, none⟩) 1 1) [(nmF, b)] := one_named p0 p1 (H1.out.below hBN) m1 (by decide)
  have HN := hide (knew_good (some ⟨w2.heap.size + 1, 0, none⟩) none none 1 0 0 [(nmF, b)] [] [] wN hN (no_typed _) (.inl ⟨rfl, rfl⟩) (by decide) (by simp) (by decide) (by rw [pl_check, if_neg (by omega)]))
  clear p0 p1 hN hBn hz hBc
  have HBN := hide hBN
  have HAN := hide (hA2.below hB2n)
  clear hBN hA2 hB2n hB2' hB2 HBA HA HFl
  refine HN.out.mono ?_
  rintro e w3 ⟨kb, rfl, hK, hB3⟩
  have HO := hide (hK.open nmF 1 (by decide) (by show (1 : Nat) < 9223372036854775807; decide))
  rw [th_1 b] at HO
  have HB3 := hide hB3
  clear hK hB3 HN
  go_wp2_with (first | (go_at_call 20; refine (hn.out _ _).mono ?_; rintro e w' ⟨rfl, rfl⟩) | fail)
  refine HO.out.mono ?_
  rintro e w4 ⟨rfl, hS⟩
  obtain ⟨hK, hB⟩ := hS.at (B := wN.heap.size) (fun _ e => e) HB3.out.size
  have HB4 := hide (HB3.out.trans hB)
  have HK := hide hK
  have HBw4 := hide (HBN.out.trans (HB4.out.mono HBN.out.size))
  obtain ⟨c0, c1', c2, c3, c4, c5, c6, c7⟩ := (HAN.out.below HB4.out).mc
  clear hK hB hS HO HB3
  have hlen : ((b : List UInt8)).length ≤ 1000 := by first | exact hb | decide
  have HFi := hide HK.out.files
  rw [ko_files] at HFi
  go_wp2_with (first | (go_at_call 20; refine (hn.out _ _).mono ?_; rintro e w' ⟨rfl, rfl⟩) | fail)
  refine HFi.out.mono ?_
  rintro e w5 ⟨v5, us, rfl, hO5, hL5, hB5⟩
  have hN5 := nms_of_owns hO5 hL5 (fun j hj => by
    have : j = 0 := by simpa using hj
    subst this
    show nmF.size ≤ maxLen
    decide)
  obtain ⟨a5, c5', rfl⟩ := owns_slice hO5
  obtain ⟨lb, lo, va, vc, rfl, hlb, l0, l1, hly, -, -⟩ := hN5.at 0 (by simp)
  have HL1 := hide l1
  have hK5 := HK.out.below hB5
  have HB5 := hide (HB4.out.trans (hB5.mono HB4.out.size))
  have HRd := hide (hK5.read 1 5 ⟨by decide, by decide⟩ (by show (0 : Nat) < 9223372036854775807; decide))
  rw [ko_read b 1 (by decide)] at HRd
  simp only at HRd
  have HO5 := hide (fun j e => (show wN.heap.size ≤ j ∧ j < w4.heap.size from e))
  have hlz : w4.heap.size ≤ lb := (hO5.lt lb rfl).1
  clear hO5 hL5 hB5 hN5 hly hK5 HFi l0 l1 c0 c1' c2 c3 c4 c5 c6 c7
  go_wp2_with fail
  refine HRd.out.mono ?_
  rintro e w6 ⟨v6, rfl, hO6, hK6, hT6⟩
  obtain ⟨a6, c6', rfl⟩ := owns_slice hO6
  have hpl : (piece b 0 5).length ≤ 5 := by have := piece_len b 0 5; omega
  have hB6 : Below wN.heap.size wN w6 := HB5.out.trans (hT6.below (fun j e => e.1) HB5.out.size)
  have l6 := cell_keep hT6 HL1.out (fun e => by have := (show wN.heap.size ≤ lb ∧ lb < w4.heap.size from e).2; omega)
  have HL6 := hide l6
  have hlb6 := World.block_lt_of_cell? w6 _ l6
  have hKa := hK6.below ((Below.refl w6.heap.size w6).alloc (Nat.le_refl _) (Obj.cells #[.int .u8 1] 5))
  have hya : Bys (w6.alloc (Obj.cells #[.int .u8 1] 5)) (.slice (some ⟨w6.heap.size, 0, none⟩) 1 1) [1] := .inr (.inr ⟨w6.heap.size, 0, 1, rfl, by decide, fun j hj => by
    have : j = 0 := by simpa using hj
    subst this
    rw [cell_of_row _ _ 0 _ _ _ (heap_alloc_new _ _)]
    rfl⟩)
  have hz6 := hT6.size
  have hz4 := HB4.out.size
  have HWr := hide (hKa.write 1 [1] (some ⟨w6.heap.size, 0, none⟩) 1 ⟨by decide, by decide⟩ (by show (0 : Nat) < 9223372036854775807; decide) hya (by decide) (by decide) (fun _ k hk e => by
    cases hk
    have h9 := (show wN.heap.size ≤ w6.heap.size ∧ w6.heap.size < w4.heap.size from e).2
    have := HB5.out.size
    omega))
  have hwv := ko_nowrite b 1 (piece b 0 5).length 1 (by decide)
  rw [hwv.1, hwv.2] at HWr
  have HB6 := hide hB6
  have Hpl := hide hpl
  clear hwv hya hKa hK6 hT6 l6 hB6 hO6 HRd
  go_wp2_with fail
  refine HWr.out.mono ?_
  rintro e w7 ⟨rfl, hS7⟩
  have hT7 := hS7.turned
  have hBa : Below wN.heap.size wN (w6.alloc (Obj.cells #[.int .u8 1] 5)) := HB6.out.alloc HB6.out.size _
  have hB7 : Below wN.heap.size wN w7 := hBa.trans (hT7.below (fun j e => e.1) hBa.size)
  have l7 := cell_keep hT7 ((((Below.refl w6.heap.size w6).alloc (Nat.le_refl _) (Obj.cells #[.int .u8 1] 5)).cell (p := ⟨lb, lo + 0 * 2 + 1, none⟩) hlb6).trans HL6.out) (fun e => by have := (show wN.heap.size ≤ lb ∧ lb < w4.heap.size from e).2; omega)
  obtain ⟨c0, c1', c2, c3, c4, c5, c6, c7⟩ := (HAN.out.below hB7).mc
  have HB7 := hide (HBN.out.trans (hB7.mono HBN.out.size))
  have hpi : ((piece b 0 5).length : Int) ≤ 5 := by have := Hpl.out; omega
  clear hT7 hB7 hBa hS7 HWr
  simp only [Nat.zero_mul, Nat.add_zero] at l7
  go_wp2_with (first | (go_at_call 20; refine (hn.out _ _).mono ?_; rintro e w' ⟨rfl, rfl⟩) | fail)
  go_quiet ((go_at_call 20; exact Calls.quiet_of_same ((hn.out _ _).mono fun _ _ ⟨a, b⟩ => ⟨a, b.symm⟩)))
  go_wp2
  go_ret
  exact ⟨rfl, below_drewN HB7.out _⟩
set_option maxRecDepth 100000 in
set_option maxHeartbeats 4000000 in
theorem opens_t3 (s : ByteArray) (a1 : Option Addr) (c1 : Nat) (b : List UInt8) (y : Mo) (n : Nat) (w : World) (hs : s.size ≤ maxLen) (h1 : Bys w (.slice a1 b.length c1) b) (m1 : b.length ≤ c1) (hb : b.length ≤ 1000) (hp : prs mo0 0 s.data.toList = (y, 0, n)) (hc : chkM y = 0) (hf : flK y 6 = 3) (hrd : y.rd = true) (hwr : y.wr = true) (hcr : y.cr = false) (htr : y.tr = false) (hex : y.ex = false) :
    Calls Tryz.prog 4 #[.string s, .bool true, .slice a1 b.length c1] w fun e w' => e = .returned (.bool true) ∧ Below w.heap.size w w' := by
  have HPr := hide (fun w => oparse_any s w hs)
  rw [hp] at HPr
  have HFl := hide (oflags_any y)
  rw [hc, show flg y = flK y 6 by simp [flg, hc], hf] at HFl
  simp only [mv, hrd, hwr, hcr, htr, hex] at HPr HFl
  have H1 := hide h1
  have hn := hide num_op
  clear hp hc hf hrd hwr hcr htr hex h1
  generalize y.ap = ap at *
  generalize y.bi = bi at *
  generalize y.ma = ma at *
  go_enter Tryz.func4, Tryz.ntmps4
  go_wp2_with fail
  refine (oalive_any _).mono ?_
  rintro e0 w0 ⟨rfl, hB0⟩
  go_wp2_with fail
  refine (HPr.out _).mono ?_
  rintro e1 w1 ⟨rfl, hB1⟩
  have hA : MoAt (w1.alloc (Obj.cells (mc ⟨true, true, ap, false, false, false, bi, ma⟩) 53)) w1.heap.size ⟨true, true, ap, false, false, false, bi, ma⟩ := heap_alloc_new _ _
  have hBB := hB0.trans (hB1.mono hB0.size)
  have hBA := hBB.alloc hBB.size (Obj.cells (mc ⟨true, true, ap, false, false, false, bi, ma⟩) 53)
  have HA := hide hA
  have HBA := hide hBA
  clear hA hBA hBB hB0 hB1 HPr
  have hb' : ¬ (1000 : Int) < (b.length : Int) := by omega
  go_wp2_with (first | (go_at_call 20; refine (hn.out _ _).mono ?_; rintro e w' ⟨rfl, rfl⟩) | (go_at_call 21; refine (HFl.out _).mono ?_; rintro e2 w2 ⟨rfl, hB2⟩) | fail)
  have hB2' : Below w.heap.size w w2 := HBA.out.trans (hB2.mono HBA.out.size)
  have hA2 : MoAt w2 w1.heap.size ⟨true, true, ap, false, false, false, bi, ma⟩ := HA.out.below hB2
  have hBc := recv_below w2 (Obj.cells #[.slice (some ⟨w2.heap.size + 1, 0, none⟩) 1 1, .slice none 0 0, .slice none 0 0] 36)
  have hz : (w2.alloc (Obj.cells #[.slice (some ⟨w2.heap.size + 1, 0, none⟩) 1 1, .slice none 0 0, .slice none 0 0] 36)).heap.size = w2.heap.size + 1 := by simp
  have hBn := recv_below (w2.alloc (Obj.cells #[.slice (some ⟨w2.heap.size + 1, 0, none⟩) 1 1, .slice none 0 0, .slice none 0 0] 36)) (Obj.cells #[.string ⟨#[102]⟩, .slice a1 b.length c1] 58)
  obtain ⟨p0, p1⟩ := pair_cells (w2.alloc (Obj.cells #[.slice (some ⟨w2.heap.size + 1, 0, none⟩) 1 1, .slice none 0 0, .slice none 0 0] 36)) (.string ⟨#[102]⟩) (.slice a1 b.length c1) 58
  rw [hz] at p0 p1
  have hB2n := hBc.trans (hBn.mono hBc.size)
  generalize (w2.alloc (Obj.cells #[.slice (some ⟨w2.heap.size + 1, 0, none⟩) 1 1, .slice none 0 0, .slice none 0 0] 36)).alloc (Obj.cells #[.string ⟨#[102]⟩, .slice a1 b.length c1] 58) = wN at *
  have hBN : Below w.heap.size w wN := hB2'.trans (hB2n.mono hB2'.size)
  have hN : Nms wN (.slice (some ⟨w2.heap.size + 1, 0, none⟩) 1 1) [(nmF, b)] := one_named p0 p1 (H1.out.below hBN) m1 (by decide)
  have HN := hide (knew_good (some ⟨w2.heap.size + 1, 0, none⟩) none none 1 0 0 [(nmF, b)] [] [] wN hN (no_typed _) (.inl ⟨rfl, rfl⟩) (by decide) (by simp) (by decide) (by rw [pl_check, if_neg (by omega)]))
  clear p0 p1 hN hBn hz hBc
  have HBN := hide hBN
  have HAN := hide (hA2.below hB2n)
  clear hBN hA2 hB2n hB2' hB2 HBA HA HFl
  refine HN.out.mono ?_
  rintro e w3 ⟨kb, rfl, hK, hB3⟩
  have HO := hide (hK.open nmF 3 (by decide) (by show (1 : Nat) < 9223372036854775807; decide))
  rw [th_3 b] at HO
  have HB3 := hide hB3
  clear hK hB3 HN
  go_wp2_with (first | (go_at_call 20; refine (hn.out _ _).mono ?_; rintro e w' ⟨rfl, rfl⟩) | fail)
  refine HO.out.mono ?_
  rintro e w4 ⟨rfl, hS⟩
  obtain ⟨hK, hB⟩ := hS.at (B := wN.heap.size) (fun _ e => e) HB3.out.size
  have HB4 := hide (HB3.out.trans hB)
  have HK := hide hK
  have HBw4 := hide (HBN.out.trans (HB4.out.mono HBN.out.size))
  obtain ⟨c0, c1', c2, c3, c4, c5, c6, c7⟩ := (HAN.out.below HB4.out).mc
  clear hK hB hS HO HB3
  have hlen : ((b : List UInt8)).length ≤ 1000 := by first | exact hb | decide
  have HFi := hide HK.out.files
  rw [ko_files] at HFi
  go_wp2_with (first | (go_at_call 20; refine (hn.out _ _).mono ?_; rintro e w' ⟨rfl, rfl⟩) | fail)
  refine HFi.out.mono ?_
  rintro e w5 ⟨v5, us, rfl, hO5, hL5, hB5⟩
  have hN5 := nms_of_owns hO5 hL5 (fun j hj => by
    have : j = 0 := by simpa using hj
    subst this
    show nmF.size ≤ maxLen
    decide)
  obtain ⟨a5, c5', rfl⟩ := owns_slice hO5
  obtain ⟨lb, lo, va, vc, rfl, hlb, l0, l1, hly, -, -⟩ := hN5.at 0 (by simp)
  have HL1 := hide l1
  have hK5 := HK.out.below hB5
  have HB5 := hide (HB4.out.trans (hB5.mono HB4.out.size))
  have HRd := hide (hK5.read 1 5 ⟨by decide, by decide⟩ (by show (0 : Nat) < 9223372036854775807; decide))
  rw [ko_read b 3 (by decide)] at HRd
  simp only at HRd
  have HO5 := hide (fun j e => (show wN.heap.size ≤ j ∧ j < w4.heap.size from e))
  have hlz : w4.heap.size ≤ lb := (hO5.lt lb rfl).1
  clear hO5 hL5 hB5 hN5 hly hK5 HFi l0 l1 c0 c1' c2 c3 c4 c5 c6 c7
  go_wp2_with fail
  refine HRd.out.mono ?_
  rintro e w6 ⟨v6, rfl, hO6, hK6, hT6⟩
  obtain ⟨a6, c6', rfl⟩ := owns_slice hO6
  have hpl : (piece b 0 5).length ≤ 5 := by have := piece_len b 0 5; omega
  have hB6 : Below wN.heap.size wN w6 := HB5.out.trans (hT6.below (fun j e => e.1) HB5.out.size)
  have l6 := cell_keep hT6 HL1.out (fun e => by have := (show wN.heap.size ≤ lb ∧ lb < w4.heap.size from e).2; omega)
  have HL6 := hide l6
  have hlb6 := World.block_lt_of_cell? w6 _ l6
  have hKa := hK6.below ((Below.refl w6.heap.size w6).alloc (Nat.le_refl _) (Obj.cells #[.int .u8 1] 5))
  have hya : Bys (w6.alloc (Obj.cells #[.int .u8 1] 5)) (.slice (some ⟨w6.heap.size, 0, none⟩) 1 1) [1] := .inr (.inr ⟨w6.heap.size, 0, 1, rfl, by decide, fun j hj => by
    have : j = 0 := by simpa using hj
    subst this
    rw [cell_of_row _ _ 0 _ _ _ (heap_alloc_new _ _)]
    rfl⟩)
  have hz6 := hT6.size
  have hz4 := HB4.out.size
  have HWr := hide (hKa.write 1 [1] (some ⟨w6.heap.size, 0, none⟩) 1 ⟨by decide, by decide⟩ (by show (0 : Nat) < 9223372036854775807; decide) hya (by decide) (by decide) (fun _ k hk e => by
    cases hk
    have h9 := (show wN.heap.size ≤ w6.heap.size ∧ w6.heap.size < w4.heap.size from e).2
    have := HB5.out.size
    omega))
  have hwv := ko_write b 3 (piece b 0 5).length 1 (by decide) hlen (by omega)
  rw [hwv.1, hwv.2] at HWr
  have HB6 := hide hB6
  have Hpl := hide hpl
  clear hwv hya hKa hK6 hT6 l6 hB6 hO6 HRd
  go_wp2_with fail
  refine HWr.out.mono ?_
  rintro e w7 ⟨rfl, hS7⟩
  have hT7 := hS7.turned
  have hBa : Below wN.heap.size wN (w6.alloc (Obj.cells #[.int .u8 1] 5)) := HB6.out.alloc HB6.out.size _
  have hB7 : Below wN.heap.size wN w7 := hBa.trans (hT7.below (fun j e => e.1) hBa.size)
  have l7 := cell_keep hT7 ((((Below.refl w6.heap.size w6).alloc (Nat.le_refl _) (Obj.cells #[.int .u8 1] 5)).cell (p := ⟨lb, lo + 0 * 2 + 1, none⟩) hlb6).trans HL6.out) (fun e => by have := (show wN.heap.size ≤ lb ∧ lb < w4.heap.size from e).2; omega)
  obtain ⟨c0, c1', c2, c3, c4, c5, c6, c7⟩ := (HAN.out.below hB7).mc
  have HB7 := hide (HBN.out.trans (hB7.mono HBN.out.size))
  have hpi : ((piece b 0 5).length : Int) ≤ 5 := by have := Hpl.out; omega
  clear hT7 hB7 hBa hS7 HWr
  simp only [Nat.zero_mul, Nat.add_zero] at l7
  go_wp2_with (first | (go_at_call 20; refine (hn.out _ _).mono ?_; rintro e w' ⟨rfl, rfl⟩) | fail)
  go_quiet ((go_at_call 20; exact Calls.quiet_of_same ((hn.out _ _).mono fun _ _ ⟨a, b⟩ => ⟨a, b.symm⟩)))
  go_wp2
  go_ret
  exact ⟨rfl, below_drewN HB7.out _⟩
set_option maxRecDepth 100000 in
set_option maxHeartbeats 4000000 in
theorem opens_t26 (s : ByteArray) (a1 : Option Addr) (c1 : Nat) (b : List UInt8) (y : Mo) (n : Nat) (w : World) (hs : s.size ≤ maxLen) (h1 : Bys w (.slice a1 b.length c1) b) (m1 : b.length ≤ c1) (hb : b.length ≤ 1000) (hp : prs mo0 0 s.data.toList = (y, 0, n)) (hc : chkM y = 0) (hf : flK y 6 = 26) (hrd : y.rd = false) (hwr : y.wr = true) (hcr : y.cr = true) (htr : y.tr = true) (hex : y.ex = false) :
    Calls Tryz.prog 4 #[.string s, .bool true, .slice a1 b.length c1] w fun e w' => e = .returned (.bool true) ∧ Below w.heap.size w w' := by
  have HPr := hide (fun w => oparse_any s w hs)
  rw [hp] at HPr
  have HFl := hide (oflags_any y)
  rw [hc, show flg y = flK y 6 by simp [flg, hc], hf] at HFl
  simp only [mv, hrd, hwr, hcr, htr, hex] at HPr HFl
  have H1 := hide h1
  have hn := hide num_op
  clear hp hc hf hrd hwr hcr htr hex h1
  generalize y.ap = ap at *
  generalize y.bi = bi at *
  generalize y.ma = ma at *
  go_enter Tryz.func4, Tryz.ntmps4
  go_wp2_with fail
  refine (oalive_any _).mono ?_
  rintro e0 w0 ⟨rfl, hB0⟩
  go_wp2_with fail
  refine (HPr.out _).mono ?_
  rintro e1 w1 ⟨rfl, hB1⟩
  have hA : MoAt (w1.alloc (Obj.cells (mc ⟨false, true, ap, true, true, false, bi, ma⟩) 53)) w1.heap.size ⟨false, true, ap, true, true, false, bi, ma⟩ := heap_alloc_new _ _
  have hBB := hB0.trans (hB1.mono hB0.size)
  have hBA := hBB.alloc hBB.size (Obj.cells (mc ⟨false, true, ap, true, true, false, bi, ma⟩) 53)
  have HA := hide hA
  have HBA := hide hBA
  clear hA hBA hBB hB0 hB1 HPr
  have hb' : ¬ (1000 : Int) < (b.length : Int) := by omega
  go_wp2_with (first | (go_at_call 20; refine (hn.out _ _).mono ?_; rintro e w' ⟨rfl, rfl⟩) | (go_at_call 21; refine (HFl.out _).mono ?_; rintro e2 w2 ⟨rfl, hB2⟩) | fail)
  have hB2' : Below w.heap.size w w2 := HBA.out.trans (hB2.mono HBA.out.size)
  have hA2 : MoAt w2 w1.heap.size ⟨false, true, ap, true, true, false, bi, ma⟩ := HA.out.below hB2
  have hBc := recv_below w2 (Obj.cells #[.slice (some ⟨w2.heap.size + 1, 0, none⟩) 1 1, .slice none 0 0, .slice none 0 0] 36)
  have hz : (w2.alloc (Obj.cells #[.slice (some ⟨w2.heap.size + 1, 0, none⟩) 1 1, .slice none 0 0, .slice none 0 0] 36)).heap.size = w2.heap.size + 1 := by simp
  have hBn := recv_below (w2.alloc (Obj.cells #[.slice (some ⟨w2.heap.size + 1, 0, none⟩) 1 1, .slice none 0 0, .slice none 0 0] 36)) (Obj.cells #[.string ⟨#[102]⟩, .slice a1 b.length c1] 58)
  obtain ⟨p0, p1⟩ := pair_cells (w2.alloc (Obj.cells #[.slice (some ⟨w2.heap.size + 1, 0, none⟩) 1 1, .slice none 0 0, .slice none 0 0] 36)) (.string ⟨#[102]⟩) (.slice a1 b.length c1) 58
  rw [hz] at p0 p1
  have hB2n := hBc.trans (hBn.mono hBc.size)
  generalize (w2.alloc (Obj.cells #[.slice (some ⟨w2.heap.size + 1, 0, none⟩) 1 1, .slice none 0 0, .slice none 0 0] 36)).alloc (Obj.cells #[.string ⟨#[102]⟩, .slice a1 b.length c1] 58) = wN at *
  have hBN : Below w.heap.size w wN := hB2'.trans (hB2n.mono hB2'.size)
  have hN : Nms wN (.slice (some ⟨w2.heap.size + 1, 0, none⟩) 1 1) [(nmF, b)] := one_named p0 p1 (H1.out.below hBN) m1 (by decide)
  have HN := hide (knew_good (some ⟨w2.heap.size + 1, 0, none⟩) none none 1 0 0 [(nmF, b)] [] [] wN hN (no_typed _) (.inl ⟨rfl, rfl⟩) (by decide) (by simp) (by decide) (by rw [pl_check, if_neg (by omega)]))
  clear p0 p1 hN hBn hz hBc
  have HBN := hide hBN
  have HAN := hide (hA2.below hB2n)
  clear hBN hA2 hB2n hB2' hB2 HBA HA HFl
  refine HN.out.mono ?_
  rintro e w3 ⟨kb, rfl, hK, hB3⟩
  have HO := hide (hK.open nmF 26 (by decide) (by show (1 : Nat) < 9223372036854775807; decide))
  rw [th_26 b] at HO
  have HB3 := hide hB3
  clear hK hB3 HN
  go_wp2_with (first | (go_at_call 20; refine (hn.out _ _).mono ?_; rintro e w' ⟨rfl, rfl⟩) | fail)
  refine HO.out.mono ?_
  rintro e w4 ⟨rfl, hS⟩
  obtain ⟨hK, hB⟩ := hS.at (B := wN.heap.size) (fun _ e => e) HB3.out.size
  have HB4 := hide (HB3.out.trans hB)
  have HK := hide hK
  have HBw4 := hide (HBN.out.trans (HB4.out.mono HBN.out.size))
  obtain ⟨c0, c1', c2, c3, c4, c5, c6, c7⟩ := (HAN.out.below HB4.out).mc
  clear hK hB hS HO HB3
  have hlen : (([] : List UInt8)).length ≤ 1000 := by first | exact hb | decide
  have HFi := hide HK.out.files
  rw [ko_files] at HFi
  go_wp2_with (first | (go_at_call 20; refine (hn.out _ _).mono ?_; rintro e w' ⟨rfl, rfl⟩) | fail)
  refine HFi.out.mono ?_
  rintro e w5 ⟨v5, us, rfl, hO5, hL5, hB5⟩
  have hN5 := nms_of_owns hO5 hL5 (fun j hj => by
    have : j = 0 := by simpa using hj
    subst this
    show nmF.size ≤ maxLen
    decide)
  obtain ⟨a5, c5', rfl⟩ := owns_slice hO5
  obtain ⟨lb, lo, va, vc, rfl, hlb, l0, l1, hly, -, -⟩ := hN5.at 0 (by simp)
  have HL1 := hide l1
  have hK5 := HK.out.below hB5
  have HB5 := hide (HB4.out.trans (hB5.mono HB4.out.size))
  have HRd := hide (hK5.read 1 5 ⟨by decide, by decide⟩ (by show (0 : Nat) < 9223372036854775807; decide))
  rw [ko_noread [] 26 (by decide)] at HRd
  simp only at HRd
  have HO5 := hide (fun j e => (show wN.heap.size ≤ j ∧ j < w4.heap.size from e))
  have hlz : w4.heap.size ≤ lb := (hO5.lt lb rfl).1
  clear hO5 hL5 hB5 hN5 hly hK5 HFi l0 l1 c0 c1' c2 c3 c4 c5 c6 c7
  go_wp2_with fail
  refine HRd.out.mono ?_
  rintro e w6 ⟨v6, rfl, hO6, hK6, hT6⟩
  obtain ⟨a6, c6', rfl⟩ := owns_slice hO6
  have hpl : (([] : List UInt8)).length ≤ 5 := by simp
  have hB6 : Below wN.heap.size wN w6 := HB5.out.trans (hT6.below (fun j e => e.1) HB5.out.size)
  have l6 := cell_keep hT6 HL1.out (fun e => by have := (show wN.heap.size ≤ lb ∧ lb < w4.heap.size from e).2; omega)
  have HL6 := hide l6
  have hlb6 := World.block_lt_of_cell? w6 _ l6
  have hKa := hK6.below ((Below.refl w6.heap.size w6).alloc (Nat.le_refl _) (Obj.cells #[.int .u8 1] 5))
  have hya : Bys (w6.alloc (Obj.cells #[.int .u8 1] 5)) (.slice (some ⟨w6.heap.size, 0, none⟩) 1 1) [1] := .inr (.inr ⟨w6.heap.size, 0, 1, rfl, by decide, fun j hj => by
    have : j = 0 := by simpa using hj
    subst this
    rw [cell_of_row _ _ 0 _ _ _ (heap_alloc_new _ _)]
    rfl⟩)
  have hz6 := hT6.size
  have hz4 := HB4.out.size
  have HWr := hide (hKa.write 1 [1] (some ⟨w6.heap.size, 0, none⟩) 1 ⟨by decide, by decide⟩ (by show (0 : Nat) < 9223372036854775807; decide) hya (by decide) (by decide) (fun _ k hk e => by
    cases hk
    have h9 := (show wN.heap.size ≤ w6.heap.size ∧ w6.heap.size < w4.heap.size from e).2
    have := HB5.out.size
    omega))
  have hwv := ko_write [] 26 0 0 (by decide) hlen (by omega)
  rw [hwv.1, hwv.2] at HWr
  have HB6 := hide hB6
  have Hpl := hide hpl
  clear hwv hya hKa hK6 hT6 l6 hB6 hO6 HRd
  go_wp2_with fail
  refine HWr.out.mono ?_
  rintro e w7 ⟨rfl, hS7⟩
  have hT7 := hS7.turned
  have hBa : Below wN.heap.size wN (w6.alloc (Obj.cells #[.int .u8 1] 5)) := HB6.out.alloc HB6.out.size _
  have hB7 : Below wN.heap.size wN w7 := hBa.trans (hT7.below (fun j e => e.1) hBa.size)
  have l7 := cell_keep hT7 ((((Below.refl w6.heap.size w6).alloc (Nat.le_refl _) (Obj.cells #[.int .u8 1] 5)).cell (p := ⟨lb, lo + 0 * 2 + 1, none⟩) hlb6).trans HL6.out) (fun e => by have := (show wN.heap.size ≤ lb ∧ lb < w4.heap.size from e).2; omega)
  obtain ⟨c0, c1', c2, c3, c4, c5, c6, c7⟩ := (HAN.out.below hB7).mc
  have HB7 := hide (HBN.out.trans (hB7.mono HBN.out.size))
  have hpi : ((([] : List UInt8)).length : Int) ≤ 5 := by have := Hpl.out; omega
  clear hT7 hB7 hBa hS7 HWr
  simp only [Nat.zero_mul, Nat.add_zero] at l7
  go_wp2_with (first | (go_at_call 20; refine (hn.out _ _).mono ?_; rintro e w' ⟨rfl, rfl⟩) | fail)
  go_quiet ((go_at_call 20; exact Calls.quiet_of_same ((hn.out _ _).mono fun _ _ ⟨a, b⟩ => ⟨a, b.symm⟩)))
  go_wp2
  go_ret
  exact ⟨rfl, below_drewN HB7.out _⟩
set_option maxRecDepth 100000 in
set_option maxHeartbeats 4000000 in
theorem opens_t27 (s : ByteArray) (a1 : Option Addr) (c1 : Nat) (b : List UInt8) (y : Mo) (n : Nat) (w : World) (hs : s.size ≤ maxLen) (h1 : Bys w (.slice a1 b.length c1) b) (m1 : b.length ≤ c1) (hb : b.length ≤ 1000) (hp : prs mo0 0 s.data.toList = (y, 0, n)) (hc : chkM y = 0) (hf : flK y 6 = 27) (hrd : y.rd = true) (hwr : y.wr = true) (hcr : y.cr = true) (htr : y.tr = true) (hex : y.ex = false) :
    Calls Tryz.prog 4 #[.string s, .bool true, .slice a1 b.length c1] w fun e w' => e = .returned (.bool true) ∧ Below w.heap.size w w' := by
  have HPr := hide (fun w => oparse_any s w hs)
  rw [hp] at HPr
  have HFl := hide (oflags_any y)
  rw [hc, show flg y = flK y 6 by simp [flg, hc], hf] at HFl
  simp only [mv, hrd, hwr, hcr, htr, hex] at HPr HFl
  have H1 := hide h1
  have hn := hide num_op
  clear hp hc hf hrd hwr hcr htr hex h1
  generalize y.ap = ap at *
  generalize y.bi = bi at *
  generalize y.ma = ma at *
  go_enter Tryz.func4, Tryz.ntmps4
  go_wp2_with fail
  refine (oalive_any _).mono ?_
  rintro e0 w0 ⟨rfl, hB0⟩
  go_wp2_with fail
  refine (HPr.out _).mono ?_
  rintro e1 w1 ⟨rfl, hB1⟩
  have hA : MoAt (w1.alloc (Obj.cells (mc ⟨true, true, ap, true, true, false, bi, ma⟩) 53)) w1.heap.size ⟨true, true, ap, true, true, false, bi, ma⟩ := heap_alloc_new _ _
  have hBB := hB0.trans (hB1.mono hB0.size)
  have hBA := hBB.alloc hBB.size (Obj.cells (mc ⟨true, true, ap, true, true, false, bi, ma⟩) 53)
  have HA := hide hA
  have HBA := hide hBA
  clear hA hBA hBB hB0 hB1 HPr
  have hb' : ¬ (1000 : Int) < (b.length : Int) := by omega
  go_wp2_with (first | (go_at_call 20; refine (hn.out _ _).mono ?_; rintro e w' ⟨rfl, rfl⟩) | (go_at_call 21; refine (HFl.out _).mono ?_; rintro e2 w2 ⟨rfl, hB2⟩) | fail)
  have hB2' : Below w.heap.size w w2 := HBA.out.trans (hB2.mono HBA.out.size)
  have hA2 : MoAt w2 w1.heap.size ⟨true, true, ap, true, true, false, bi, ma⟩ := HA.out.below hB2
  have hBc := recv_below w2 (Obj.cells #[.slice (some ⟨w2.heap.size + 1, 0, none⟩) 1 1, .slice none 0 0, .slice none 0 0] 36)
  have hz : (w2.alloc (Obj.cells #[.slice (some ⟨w2.heap.size + 1, 0, none⟩) 1 1, .slice none 0 0, .slice none 0 0] 36)).heap.size = w2.heap.size + 1 := by simp
  have hBn := recv_below (w2.alloc (Obj.cells #[.slice (some ⟨w2.heap.size + 1, 0, none⟩) 1 1, .slice none 0 0, .slice none 0 0] 36)) (Obj.cells #[.string ⟨#[102]⟩, .slice a1 b.length c1] 58)
  obtain ⟨p0, p1⟩ := pair_cells (w2.alloc (Obj.cells #[.slice (some ⟨w2.heap.size + 1, 0, none⟩) 1 1, .slice none 0 0, .slice none 0 0] 36)) (.string ⟨#[102]⟩) (.slice a1 b.length c1) 58
  rw [hz] at p0 p1
  have hB2n := hBc.trans (hBn.mono hBc.size)
  generalize (w2.alloc (Obj.cells #[.slice (some ⟨w2.heap.size + 1, 0, none⟩) 1 1, .slice none 0 0, .slice none 0 0] 36)).alloc (Obj.cells #[.string ⟨#[102]⟩, .slice a1 b.length c1] 58) = wN at *
  have hBN : Below w.heap.size w wN := hB2'.trans (hB2n.mono hB2'.size)
  have hN : Nms wN (.slice (some ⟨w2.heap.size + 1, 0, none⟩) 1 1) [(nmF, b)] := one_named p0 p1 (H1.out.below hBN) m1 (by decide)
  have HN := hide (knew_good (some ⟨w2.heap.size + 1, 0, none⟩) none none 1 0 0 [(nmF, b)] [] [] wN hN (no_typed _) (.inl ⟨rfl, rfl⟩) (by decide) (by simp) (by decide) (by rw [pl_check, if_neg (by omega)]))
  clear p0 p1 hN hBn hz hBc
  have HBN := hide hBN
  have HAN := hide (hA2.below hB2n)
  clear hBN hA2 hB2n hB2' hB2 HBA HA HFl
  refine HN.out.mono ?_
  rintro e w3 ⟨kb, rfl, hK, hB3⟩
  have HO := hide (hK.open nmF 27 (by decide) (by show (1 : Nat) < 9223372036854775807; decide))
  rw [th_27 b] at HO
  have HB3 := hide hB3
  clear hK hB3 HN
  go_wp2_with (first | (go_at_call 20; refine (hn.out _ _).mono ?_; rintro e w' ⟨rfl, rfl⟩) | fail)
  refine HO.out.mono ?_
  rintro e w4 ⟨rfl, hS⟩
  obtain ⟨hK, hB⟩ := hS.at (B := wN.heap.size) (fun _ e => e) HB3.out.size
  have HB4 := hide (HB3.out.trans hB)
  have HK := hide hK
  have HBw4 := hide (HBN.out.trans (HB4.out.mono HBN.out.size))
  obtain ⟨c0, c1', c2, c3, c4, c5, c6, c7⟩ := (HAN.out.below HB4.out).mc
  clear hK hB hS HO HB3
  have hlen : (([] : List UInt8)).length ≤ 1000 := by first | exact hb | decide
  have HFi := hide HK.out.files
  rw [ko_files] at HFi
  go_wp2_with (first | (go_at_call 20; refine (hn.out _ _).mono ?_; rintro e w' ⟨rfl, rfl⟩) | fail)
  refine HFi.out.mono ?_
  rintro e w5 ⟨v5, us, rfl, hO5, hL5, hB5⟩
  have hN5 := nms_of_owns hO5 hL5 (fun j hj => by
    have : j = 0 := by simpa using hj
    subst this
    show nmF.size ≤ maxLen
    decide)
  obtain ⟨a5, c5', rfl⟩ := owns_slice hO5
  obtain ⟨lb, lo, va, vc, rfl, hlb, l0, l1, hly, -, -⟩ := hN5.at 0 (by simp)
  have HL1 := hide l1
  have hK5 := HK.out.below hB5
  have HB5 := hide (HB4.out.trans (hB5.mono HB4.out.size))
  have HRd := hide (hK5.read 1 5 ⟨by decide, by decide⟩ (by show (0 : Nat) < 9223372036854775807; decide))
  rw [ko_read [] 27 (by decide)] at HRd
  simp only at HRd
  have HO5 := hide (fun j e => (show wN.heap.size ≤ j ∧ j < w4.heap.size from e))
  have hlz : w4.heap.size ≤ lb := (hO5.lt lb rfl).1
  clear hO5 hL5 hB5 hN5 hly hK5 HFi l0 l1 c0 c1' c2 c3 c4 c5 c6 c7
  go_wp2_with fail
  refine HRd.out.mono ?_
  rintro e w6 ⟨v6, rfl, hO6, hK6, hT6⟩
  obtain ⟨a6, c6', rfl⟩ := owns_slice hO6
  have hpl : (piece [] 0 5).length ≤ 5 := by have := piece_len [] 0 5; omega
  have hB6 : Below wN.heap.size wN w6 := HB5.out.trans (hT6.below (fun j e => e.1) HB5.out.size)
  have l6 := cell_keep hT6 HL1.out (fun e => by have := (show wN.heap.size ≤ lb ∧ lb < w4.heap.size from e).2; omega)
  have HL6 := hide l6
  have hlb6 := World.block_lt_of_cell? w6 _ l6
  have hKa := hK6.below ((Below.refl w6.heap.size w6).alloc (Nat.le_refl _) (Obj.cells #[.int .u8 1] 5))
  have hya : Bys (w6.alloc (Obj.cells #[.int .u8 1] 5)) (.slice (some ⟨w6.heap.size, 0, none⟩) 1 1) [1] := .inr (.inr ⟨w6.heap.size, 0, 1, rfl, by decide, fun j hj => by
    have : j = 0 := by simpa using hj
    subst this
    rw [cell_of_row _ _ 0 _ _ _ (heap_alloc_new _ _)]
    rfl⟩)
  have hz6 := hT6.size
  have hz4 := HB4.out.size
  have HWr := hide (hKa.write 1 [1] (some ⟨w6.heap.size, 0, none⟩) 1 ⟨by decide, by decide⟩ (by show (0 : Nat) < 9223372036854775807; decide) hya (by decide) (by decide) (fun _ k hk e => by
    cases hk
    have h9 := (show wN.heap.size ≤ w6.heap.size ∧ w6.heap.size < w4.heap.size from e).2
    have := HB5.out.size
    omega))
  have hwv := ko_write [] 27 (piece [] 0 5).length 1 (by decide) hlen (by omega)
  rw [hwv.1, hwv.2] at HWr
  have HB6 := hide hB6
  have Hpl := hide hpl
  clear hwv hya hKa hK6 hT6 l6 hB6 hO6 HRd
  go_wp2_with fail
  refine HWr.out.mono ?_
  rintro e w7 ⟨rfl, hS7⟩
  have hT7 := hS7.turned
  have hBa : Below wN.heap.size wN (w6.alloc (Obj.cells #[.int .u8 1] 5)) := HB6.out.alloc HB6.out.size _
  have hB7 : Below wN.heap.size wN w7 := hBa.trans (hT7.below (fun j e => e.1) hBa.size)
  have l7 := cell_keep hT7 ((((Below.refl w6.heap.size w6).alloc (Nat.le_refl _) (Obj.cells #[.int .u8 1] 5)).cell (p := ⟨lb, lo + 0 * 2 + 1, none⟩) hlb6).trans HL6.out) (fun e => by have := (show wN.heap.size ≤ lb ∧ lb < w4.heap.size from e).2; omega)
  obtain ⟨c0, c1', c2, c3, c4, c5, c6, c7⟩ := (HAN.out.below hB7).mc
  have HB7 := hide (HBN.out.trans (hB7.mono HBN.out.size))
  have hpi : ((piece [] 0 5).length : Int) ≤ 5 := by have := Hpl.out; omega
  clear hT7 hB7 hBa hS7 HWr
  simp only [Nat.zero_mul, Nat.add_zero] at l7
  go_wp2_with (first | (go_at_call 20; refine (hn.out _ _).mono ?_; rintro e w' ⟨rfl, rfl⟩) | fail)
  go_quiet ((go_at_call 20; exact Calls.quiet_of_same ((hn.out _ _).mono fun _ _ ⟨a, b⟩ => ⟨a, b.symm⟩)))
  go_wp2
  go_ret
  exact ⟨rfl, below_drewN HB7.out _⟩
set_option maxRecDepth 100000 in
set_option maxHeartbeats 4000000 in
theorem opens_t58 (s : ByteArray) (a1 : Option Addr) (c1 : Nat) (b : List UInt8) (y : Mo) (n : Nat) (w : World) (hs : s.size ≤ maxLen) (h1 : Bys w (.slice a1 b.length c1) b) (m1 : b.length ≤ c1) (hb : b.length ≤ 1000) (hp : prs mo0 0 s.data.toList = (y, 0, n)) (hc : chkM y = 0) (hf : flK y 6 = 58) (hrd : y.rd = false) (hwr : y.wr = true) (hcr : y.cr = true) (htr : y.tr = true) (hex : y.ex = true) :
    Calls Tryz.prog 4 #[.string s, .bool true, .slice a1 b.length c1] w fun e w' => e = .returned (.bool true) ∧ Below w.heap.size w w' := by
  have HPr := hide (fun w => oparse_any s w hs)
  rw [hp] at HPr
  have HFl := hide (oflags_any y)
  rw [hc, show flg y = flK y 6 by simp [flg, hc], hf] at HFl
  simp only [mv, hrd, hwr, hcr, htr, hex] at HPr HFl
  have H1 := hide h1
  have hn := hide num_op
  clear hp hc hf hrd hwr hcr htr hex h1
  generalize y.ap = ap at *
  generalize y.bi = bi at *
  generalize y.ma = ma at *
  go_enter Tryz.func4, Tryz.ntmps4
  go_wp2_with fail
  refine (oalive_any _).mono ?_
  rintro e0 w0 ⟨rfl, hB0⟩
  go_wp2_with fail
  refine (HPr.out _).mono ?_
  rintro e1 w1 ⟨rfl, hB1⟩
  have hA : MoAt (w1.alloc (Obj.cells (mc ⟨false, true, ap, true, true, true, bi, ma⟩) 53)) w1.heap.size ⟨false, true, ap, true, true, true, bi, ma⟩ := heap_alloc_new _ _
  have hBB := hB0.trans (hB1.mono hB0.size)
  have hBA := hBB.alloc hBB.size (Obj.cells (mc ⟨false, true, ap, true, true, true, bi, ma⟩) 53)
  have HA := hide hA
  have HBA := hide hBA
  clear hA hBA hBB hB0 hB1 HPr
  have hb' : ¬ (1000 : Int) < (b.length : Int) := by omega
  go_wp2_with (first | (go_at_call 20; refine (hn.out _ _).mono ?_; rintro e w' ⟨rfl, rfl⟩) | (go_at_call 21; refine (HFl.out _).mono ?_; rintro e2 w2 ⟨rfl, hB2⟩) | fail)
  have hB2' : Below w.heap.size w w2 := HBA.out.trans (hB2.mono HBA.out.size)
  have hA2 : MoAt w2 w1.heap.size ⟨false, true, ap, true, true, true, bi, ma⟩ := HA.out.below hB2
  have hBc := recv_below w2 (Obj.cells #[.slice (some ⟨w2.heap.size + 1, 0, none⟩) 1 1, .slice none 0 0, .slice none 0 0] 36)
  have hz : (w2.alloc (Obj.cells #[.slice (some ⟨w2.heap.size + 1, 0, none⟩) 1 1, .slice none 0 0, .slice none 0 0] 36)).heap.size = w2.heap.size + 1 := by simp
  have hBn := recv_below (w2.alloc (Obj.cells #[.slice (some ⟨w2.heap.size + 1, 0, none⟩) 1 1, .slice none 0 0, .slice none 0 0] 36)) (Obj.cells #[.string ⟨#[102]⟩, .slice a1 b.length c1] 58)
  obtain ⟨p0, p1⟩ := pair_cells (w2.alloc (Obj.cells #[.slice (some ⟨w2.heap.size + 1, 0, none⟩) 1 1, .slice none 0 0, .slice none 0 0] 36)) (.string ⟨#[102]⟩) (.slice a1 b.length c1) 58
  rw [hz] at p0 p1
  have hB2n := hBc.trans (hBn.mono hBc.size)
  generalize (w2.alloc (Obj.cells #[.slice (some ⟨w2.heap.size + 1, 0, none⟩) 1 1, .slice none 0 0, .slice none 0 0] 36)).alloc (Obj.cells #[.string ⟨#[102]⟩, .slice a1 b.length c1] 58) = wN at *
  have hBN : Below w.heap.size w wN := hB2'.trans (hB2n.mono hB2'.size)
  have hN : Nms wN (.slice (some ⟨w2.heap.size + 1, 0, none⟩) 1 1) [(nmF, b)] := one_named p0 p1 (H1.out.below hBN) m1 (by decide)
  have HN := hide (knew_good (some ⟨w2.heap.size + 1, 0, none⟩) none none 1 0 0 [(nmF, b)] [] [] wN hN (no_typed _) (.inl ⟨rfl, rfl⟩) (by decide) (by simp) (by decide) (by rw [pl_check, if_neg (by omega)]))
  clear p0 p1 hN hBn hz hBc
  have HBN := hide hBN
  have HAN := hide (hA2.below hB2n)
  clear hBN hA2 hB2n hB2' hB2 HBA HA HFl
  refine HN.out.mono ?_
  rintro e w3 ⟨kb, rfl, hK, hB3⟩
  have HO := hide (hK.open nmF 58 (by decide) (by show (1 : Nat) < 9223372036854775807; decide))
  rw [th_58 b] at HO
  have HB3 := hide hB3
  clear hK hB3 HN
  go_wp2_with (first | (go_at_call 20; refine (hn.out _ _).mono ?_; rintro e w' ⟨rfl, rfl⟩) | fail)
  refine HO.out.mono ?_
  rintro e w4 ⟨rfl, hS⟩
  obtain ⟨hK, hB⟩ := hS.at (B := wN.heap.size) (fun _ e => e) HB3.out.size
  have HB4 := hide (HB3.out.trans hB)
  have HK := hide hK
  have HBw4 := hide (HBN.out.trans (HB4.out.mono HBN.out.size))
  obtain ⟨c0, c1', c2, c3, c4, c5, c6, c7⟩ := (HAN.out.below HB4.out).mc
  clear hK hB hS HO HB3
  go_wp2_with (first | (go_at_call 20; refine (hn.out _ _).mono ?_; rintro e w' ⟨rfl, rfl⟩) | fail)
  go_ret
  exact ⟨rfl, HBw4.out⟩
set_option maxRecDepth 100000 in
set_option maxHeartbeats 4000000 in
theorem opens_t59 (s : ByteArray) (a1 : Option Addr) (c1 : Nat) (b : List UInt8) (y : Mo) (n : Nat) (w : World) (hs : s.size ≤ maxLen) (h1 : Bys w (.slice a1 b.length c1) b) (m1 : b.length ≤ c1) (hb : b.length ≤ 1000) (hp : prs mo0 0 s.data.toList = (y, 0, n)) (hc : chkM y = 0) (hf : flK y 6 = 59) (hrd : y.rd = true) (hwr : y.wr = true) (hcr : y.cr = true) (htr : y.tr = true) (hex : y.ex = true) :
    Calls Tryz.prog 4 #[.string s, .bool true, .slice a1 b.length c1] w fun e w' => e = .returned (.bool true) ∧ Below w.heap.size w w' := by
  have HPr := hide (fun w => oparse_any s w hs)
  rw [hp] at HPr
  have HFl := hide (oflags_any y)
  rw [hc, show flg y = flK y 6 by simp [flg, hc], hf] at HFl
  simp only [mv, hrd, hwr, hcr, htr, hex] at HPr HFl
  have H1 := hide h1
  have hn := hide num_op
  clear hp hc hf hrd hwr hcr htr hex h1
  generalize y.ap = ap at *
  generalize y.bi = bi at *
  generalize y.ma = ma at *
  go_enter Tryz.func4, Tryz.ntmps4
  go_wp2_with fail
  refine (oalive_any _).mono ?_
  rintro e0 w0 ⟨rfl, hB0⟩
  go_wp2_with fail
  refine (HPr.out _).mono ?_
  rintro e1 w1 ⟨rfl, hB1⟩
  have hA : MoAt (w1.alloc (Obj.cells (mc ⟨true, true, ap, true, true, true, bi, ma⟩) 53)) w1.heap.size ⟨true, true, ap, true, true, true, bi, ma⟩ := heap_alloc_new _ _
  have hBB := hB0.trans (hB1.mono hB0.size)
  have hBA := hBB.alloc hBB.size (Obj.cells (mc ⟨true, true, ap, true, true, true, bi, ma⟩) 53)
  have HA := hide hA
  have HBA := hide hBA
  clear hA hBA hBB hB0 hB1 HPr
  have hb' : ¬ (1000 : Int) < (b.length : Int) := by omega
  go_wp2_with (first | (go_at_call 20; refine (hn.out _ _).mono ?_; rintro e w' ⟨rfl, rfl⟩) | (go_at_call 21; refine (HFl.out _).mono ?_; rintro e2 w2 ⟨rfl, hB2⟩) | fail)
  have hB2' : Below w.heap.size w w2 := HBA.out.trans (hB2.mono HBA.out.size)
  have hA2 : MoAt w2 w1.heap.size ⟨true, true, ap, true, true, true, bi, ma⟩ := HA.out.below hB2
  have hBc := recv_below w2 (Obj.cells #[.slice (some ⟨w2.heap.size + 1, 0, none⟩) 1 1, .slice none 0 0, .slice none 0 0] 36)
  have hz : (w2.alloc (Obj.cells #[.slice (some ⟨w2.heap.size + 1, 0, none⟩) 1 1, .slice none 0 0, .slice none 0 0] 36)).heap.size = w2.heap.size + 1 := by simp
  have hBn := recv_below (w2.alloc (Obj.cells #[.slice (some ⟨w2.heap.size + 1, 0, none⟩) 1 1, .slice none 0 0, .slice none 0 0] 36)) (Obj.cells #[.string ⟨#[102]⟩, .slice a1 b.length c1] 58)
  obtain ⟨p0, p1⟩ := pair_cells (w2.alloc (Obj.cells #[.slice (some ⟨w2.heap.size + 1, 0, none⟩) 1 1, .slice none 0 0, .slice none 0 0] 36)) (.string ⟨#[102]⟩) (.slice a1 b.length c1) 58
  rw [hz] at p0 p1
  have hB2n := hBc.trans (hBn.mono hBc.size)
  generalize (w2.alloc (Obj.cells #[.slice (some ⟨w2.heap.size + 1, 0, none⟩) 1 1, .slice none 0 0, .slice none 0 0] 36)).alloc (Obj.cells #[.string ⟨#[102]⟩, .slice a1 b.length c1] 58) = wN at *
  have hBN : Below w.heap.size w wN := hB2'.trans (hB2n.mono hB2'.size)
  have hN : Nms wN (.slice (some ⟨w2.heap.size + 1, 0, none⟩) 1 1) [(nmF, b)] := one_named p0 p1 (H1.out.below hBN) m1 (by decide)
  have HN := hide (knew_good (some ⟨w2.heap.size + 1, 0, none⟩) none none 1 0 0 [(nmF, b)] [] [] wN hN (no_typed _) (.inl ⟨rfl, rfl⟩) (by decide) (by simp) (by decide) (by rw [pl_check, if_neg (by omega)]))
  clear p0 p1 hN hBn hz hBc
  have HBN := hide hBN
  have HAN := hide (hA2.below hB2n)
  clear hBN hA2 hB2n hB2' hB2 HBA HA HFl
  refine HN.out.mono ?_
  rintro e w3 ⟨kb, rfl, hK, hB3⟩
  have HO := hide (hK.open nmF 59 (by decide) (by show (1 : Nat) < 9223372036854775807; decide))
  rw [th_59 b] at HO
  have HB3 := hide hB3
  clear hK hB3 HN
  go_wp2_with (first | (go_at_call 20; refine (hn.out _ _).mono ?_; rintro e w' ⟨rfl, rfl⟩) | fail)
  refine HO.out.mono ?_
  rintro e w4 ⟨rfl, hS⟩
  obtain ⟨hK, hB⟩ := hS.at (B := wN.heap.size) (fun _ e => e) HB3.out.size
  have HB4 := hide (HB3.out.trans hB)
  have HK := hide hK
  have HBw4 := hide (HBN.out.trans (HB4.out.mono HBN.out.size))
  obtain ⟨c0, c1', c2, c3, c4, c5, c6, c7⟩ := (HAN.out.below HB4.out).mc
  clear hK hB hS HO HB3
  go_wp2_with (first | (go_at_call 20; refine (hn.out _ _).mono ?_; rintro e w' ⟨rfl, rfl⟩) | fail)
  go_ret
  exact ⟨rfl, HBw4.out⟩
set_option maxRecDepth 100000 in
set_option maxHeartbeats 4000000 in
theorem opens_t14 (s : ByteArray) (a1 : Option Addr) (c1 : Nat) (b : List UInt8) (y : Mo) (n : Nat) (w : World) (hs : s.size ≤ maxLen) (h1 : Bys w (.slice a1 b.length c1) b) (m1 : b.length ≤ c1) (hb : b.length ≤ 1000) (hp : prs mo0 0 s.data.toList = (y, 0, n)) (hc : chkM y = 0) (hf : flK y 6 = 14) (hrd : y.rd = false) (hwr : y.wr = true) (hcr : y.cr = true) (htr : y.tr = false) (hex : y.ex = false) :
    Calls Tryz.prog 4 #[.string s, .bool true, .slice a1 b.length c1] w fun e w' => e = .returned (.bool true) ∧ Below w.heap.size w w' := by
  have HPr := hide (fun w => oparse_any s w hs)
  rw [hp] at HPr
  have HFl := hide (oflags_any y)
  rw [hc, show flg y = flK y 6 by simp [flg, hc], hf] at HFl
  simp only [mv, hrd, hwr, hcr, htr, hex] at HPr HFl
  have H1 := hide h1
  have hn := hide num_op
  clear hp hc hf hrd hwr hcr htr hex h1
  generalize y.ap = ap at *
  generalize y.bi = bi at *
  generalize y.ma = ma at *
  go_enter Tryz.func4, Tryz.ntmps4
  go_wp2_with fail
  refine (oalive_any _).mono ?_
  rintro e0 w0 ⟨rfl, hB0⟩
  go_wp2_with fail
  refine (HPr.out _).mono ?_
  rintro e1 w1 ⟨rfl, hB1⟩
  have hA : MoAt (w1.alloc (Obj.cells (mc ⟨false, true, ap, true, false, false, bi, ma⟩) 53)) w1.heap.size ⟨false, true, ap, true, false, false, bi, ma⟩ := heap_alloc_new _ _
  have hBB := hB0.trans (hB1.mono hB0.size)
  have hBA := hBB.alloc hBB.size (Obj.cells (mc ⟨false, true, ap, true, false, false, bi, ma⟩) 53)
  have HA := hide hA
  have HBA := hide hBA
  clear hA hBA hBB hB0 hB1 HPr
  have hb' : ¬ (1000 : Int) < (b.length : Int) := by omega
  go_wp2_with (first | (go_at_call 20; refine (hn.out _ _).mono ?_; rintro e w' ⟨rfl, rfl⟩) | (go_at_call 21; refine (HFl.out _).mono ?_; rintro e2 w2 ⟨rfl, hB2⟩) | fail)
  have hB2' : Below w.heap.size w w2 := HBA.out.trans (hB2.mono HBA.out.size)
  have hA2 : MoAt w2 w1.heap.size ⟨false, true, ap, true, false, false, bi, ma⟩ := HA.out.below hB2
  have hBc := recv_below w2 (Obj.cells #[.slice (some ⟨w2.heap.size + 1, 0, none⟩) 1 1, .slice none 0 0, .slice none 0 0] 36)
  have hz : (w2.alloc (Obj.cells #[.slice (some ⟨w2.heap.size + 1, 0, none⟩) 1 1, .slice none 0 0, .slice none 0 0] 36)).heap.size = w2.heap.size + 1 := by simp
  have hBn := recv_below (w2.alloc (Obj.cells #[.slice (some ⟨w2.heap.size + 1, 0, none⟩) 1 1, .slice none 0 0, .slice none 0 0] 36)) (Obj.cells #[.string ⟨#[102]⟩, .slice a1 b.length c1] 58)
  obtain ⟨p0, p1⟩ := pair_cells (w2.alloc (Obj.cells #[.slice (some ⟨w2.heap.size + 1, 0, none⟩) 1 1, .slice none 0 0, .slice none 0 0] 36)) (.string ⟨#[102]⟩) (.slice a1 b.length c1) 58
  rw [hz] at p0 p1
  have hB2n := hBc.trans (hBn.mono hBc.size)
  generalize (w2.alloc (Obj.cells #[.slice (some ⟨w2.heap.size + 1, 0, none⟩) 1 1, .slice none 0 0, .slice none 0 0] 36)).alloc (Obj.cells #[.string ⟨#[102]⟩, .slice a1 b.length c1] 58) = wN at *
  have hBN : Below w.heap.size w wN := hB2'.trans (hB2n.mono hB2'.size)
  have hN : Nms wN (.slice (some ⟨w2.heap.size + 1, 0, none⟩) 1 1) [(nmF, b)] := one_named p0 p1 (H1.out.below hBN) m1 (by decide)
  have HN := hide (knew_good (some ⟨w2.heap.size + 1, 0, none⟩) none none 1 0 0 [(nmF, b)] [] [] wN hN (no_typed _) (.inl ⟨rfl, rfl⟩) (by decide) (by simp) (by decide) (by rw [pl_check, if_neg (by omega)]))
  clear p0 p1 hN hBn hz hBc
  have HBN := hide hBN
  have HAN := hide (hA2.below hB2n)
  clear hBN hA2 hB2n hB2' hB2 HBA HA HFl
  refine HN.out.mono ?_
  rintro e w3 ⟨kb, rfl, hK, hB3⟩
  have HO := hide (hK.open nmF 14 (by decide) (by show (1 : Nat) < 9223372036854775807; decide))
  rw [th_14 b] at HO
  have HB3 := hide hB3
  clear hK hB3 HN
  go_wp2_with (first | (go_at_call 20; refine (hn.out _ _).mono ?_; rintro e w' ⟨rfl, rfl⟩) | fail)
  refine HO.out.mono ?_
  rintro e w4 ⟨rfl, hS⟩
  obtain ⟨hK, hB⟩ := hS.at (B := wN.heap.size) (fun _ e => e) HB3.out.size
  have HB4 := hide (HB3.out.trans hB)
  have HK := hide hK
  have HBw4 := hide (HBN.out.trans (HB4.out.mono HBN.out.size))
  obtain ⟨c0, c1', c2, c3, c4, c5, c6, c7⟩ := (HAN.out.below HB4.out).mc
  clear hK hB hS HO HB3
  have hlen : ((b : List UInt8)).length ≤ 1000 := by first | exact hb | decide
  have HFi := hide HK.out.files
  rw [ko_files] at HFi
  go_wp2_with (first | (go_at_call 20; refine (hn.out _ _).mono ?_; rintro e w' ⟨rfl, rfl⟩) | fail)
  refine HFi.out.mono ?_
  rintro e w5 ⟨v5, us, rfl, hO5, hL5, hB5⟩
  have hN5 := nms_of_owns hO5 hL5 (fun j hj => by
    have : j = 0 := by simpa using hj
    subst this
    show nmF.size ≤ maxLen
    decide)
  obtain ⟨a5, c5', rfl⟩ := owns_slice hO5
  obtain ⟨lb, lo, va, vc, rfl, hlb, l0, l1, hly, -, -⟩ := hN5.at 0 (by simp)
  have HL1 := hide l1
  have hK5 := HK.out.below hB5
  have HB5 := hide (HB4.out.trans (hB5.mono HB4.out.size))
  have HRd := hide (hK5.read 1 5 ⟨by decide, by decide⟩ (by show (0 : Nat) < 9223372036854775807; decide))
  rw [ko_noread b 14 (by decide)] at HRd
  simp only at HRd
  have HO5 := hide (fun j e => (show wN.heap.size ≤ j ∧ j < w4.heap.size from e))
  have hlz : w4.heap.size ≤ lb := (hO5.lt lb rfl).1
  clear hO5 hL5 hB5 hN5 hly hK5 HFi l0 l1 c0 c1' c2 c3 c4 c5 c6 c7
  go_wp2_with fail
  refine HRd.out.mono ?_
  rintro e w6 ⟨v6, rfl, hO6, hK6, hT6⟩
  obtain ⟨a6, c6', rfl⟩ := owns_slice hO6
  have hpl : (([] : List UInt8)).length ≤ 5 := by simp
  have hB6 : Below wN.heap.size wN w6 := HB5.out.trans (hT6.below (fun j e => e.1) HB5.out.size)
  have l6 := cell_keep hT6 HL1.out (fun e => by have := (show wN.heap.size ≤ lb ∧ lb < w4.heap.size from e).2; omega)
  have HL6 := hide l6
  have hlb6 := World.block_lt_of_cell? w6 _ l6
  have hKa := hK6.below ((Below.refl w6.heap.size w6).alloc (Nat.le_refl _) (Obj.cells #[.int .u8 1] 5))
  have hya : Bys (w6.alloc (Obj.cells #[.int .u8 1] 5)) (.slice (some ⟨w6.heap.size, 0, none⟩) 1 1) [1] := .inr (.inr ⟨w6.heap.size, 0, 1, rfl, by decide, fun j hj => by
    have : j = 0 := by simpa using hj
    subst this
    rw [cell_of_row _ _ 0 _ _ _ (heap_alloc_new _ _)]
    rfl⟩)
  have hz6 := hT6.size
  have hz4 := HB4.out.size
  have HWr := hide (hKa.write 1 [1] (some ⟨w6.heap.size, 0, none⟩) 1 ⟨by decide, by decide⟩ (by show (0 : Nat) < 9223372036854775807; decide) hya (by decide) (by decide) (fun _ k hk e => by
    cases hk
    have h9 := (show wN.heap.size ≤ w6.heap.size ∧ w6.heap.size < w4.heap.size from e).2
    have := HB5.out.size
    omega))
  have hwv := ko_write b 14 0 0 (by decide) hlen (by omega)
  rw [hwv.1, hwv.2] at HWr
  have HB6 := hide hB6
  have Hpl := hide hpl
  clear hwv hya hKa hK6 hT6 l6 hB6 hO6 HRd
  go_wp2_with fail
  refine HWr.out.mono ?_
  rintro e w7 ⟨rfl, hS7⟩
  have hT7 := hS7.turned
  have hBa : Below wN.heap.size wN (w6.alloc (Obj.cells #[.int .u8 1] 5)) := HB6.out.alloc HB6.out.size _
  have hB7 : Below wN.heap.size wN w7 := hBa.trans (hT7.below (fun j e => e.1) hBa.size)
  have l7 := cell_keep hT7 ((((Below.refl w6.heap.size w6).alloc (Nat.le_refl _) (Obj.cells #[.int .u8 1] 5)).cell (p := ⟨lb, lo + 0 * 2 + 1, none⟩) hlb6).trans HL6.out) (fun e => by have := (show wN.heap.size ≤ lb ∧ lb < w4.heap.size from e).2; omega)
  obtain ⟨c0, c1', c2, c3, c4, c5, c6, c7⟩ := (HAN.out.below hB7).mc
  have HB7 := hide (HBN.out.trans (hB7.mono HBN.out.size))
  have hpi : ((([] : List UInt8)).length : Int) ≤ 5 := by have := Hpl.out; omega
  clear hT7 hB7 hBa hS7 HWr
  simp only [Nat.zero_mul, Nat.add_zero] at l7
  go_wp2_with (first | (go_at_call 20; refine (hn.out _ _).mono ?_; rintro e w' ⟨rfl, rfl⟩) | fail)
  go_quiet ((go_at_call 20; exact Calls.quiet_of_same ((hn.out _ _).mono fun _ _ ⟨a, b⟩ => ⟨a, b.symm⟩)))
  go_wp2
  go_ret
  exact ⟨rfl, below_drewN HB7.out _⟩
set_option maxRecDepth 100000 in
set_option maxHeartbeats 4000000 in
theorem opens_t15 (s : ByteArray) (a1 : Option Addr) (c1 : Nat) (b : List UInt8) (y : Mo) (n : Nat) (w : World) (hs : s.size ≤ maxLen) (h1 : Bys w (.slice a1 b.length c1) b) (m1 : b.length ≤ c1) (hb : b.length ≤ 1000) (hp : prs mo0 0 s.data.toList = (y, 0, n)) (hc : chkM y = 0) (hf : flK y 6 = 15) (hrd : y.rd = true) (hwr : y.wr = true) (hcr : y.cr = true) (htr : y.tr = false) (hex : y.ex = false) :
    Calls Tryz.prog 4 #[.string s, .bool true, .slice a1 b.length c1] w fun e w' => e = .returned (.bool true) ∧ Below w.heap.size w w' := by
  have HPr := hide (fun w => oparse_any s w hs)
  rw [hp] at HPr
  have HFl := hide (oflags_any y)
  rw [hc, show flg y = flK y 6 by simp [flg, hc], hf] at HFl
  simp only [mv, hrd, hwr, hcr, htr, hex] at HPr HFl
  have H1 := hide h1
  have hn := hide num_op
  clear hp hc hf hrd hwr hcr htr hex h1
  generalize y.ap = ap at *
  generalize y.bi = bi at *
  generalize y.ma = ma at *
  go_enter Tryz.func4, Tryz.ntmps4
  go_wp2_with fail
  refine (oalive_any _).mono ?_
  rintro e0 w0 ⟨rfl, hB0⟩
  go_wp2_with fail
  refine (HPr.out _).mono ?_
  rintro e1 w1 ⟨rfl, hB1⟩
  have hA : MoAt (w1.alloc (Obj.cells (mc ⟨true, true, ap, true, false, false, bi, ma⟩) 53)) w1.heap.size ⟨true, true, ap, true, false, false, bi, ma⟩ := heap_alloc_new _ _
  have hBB := hB0.trans (hB1.mono hB0.size)
  have hBA := hBB.alloc hBB.size (Obj.cells (mc ⟨true, true, ap, true, false, false, bi, ma⟩) 53)
  have HA := hide hA
  have HBA := hide hBA
  clear hA hBA hBB hB0 hB1 HPr
  have hb' : ¬ (1000 : Int) < (b.length : Int) := by omega
  go_wp2_with (first | (go_at_call 20; refine (hn.out _ _).mono ?_; rintro e w' ⟨rfl, rfl⟩) | (go_at_call 21; refine (HFl.out _).mono ?_; rintro e2 w2 ⟨rfl, hB2⟩) | fail)
  have hB2' : Below w.heap.size w w2 := HBA.out.trans (hB2.mono HBA.out.size)
  have hA2 : MoAt w2 w1.heap.size ⟨true, true, ap, true, false, false, bi, ma⟩ := HA.out.below hB2
  have hBc := recv_below w2 (Obj.cells #[.slice (some ⟨w2.heap.size + 1, 0, none⟩) 1 1, .slice none 0 0, .slice none 0 0] 36)
  have hz : (w2.alloc (Obj.cells #[.slice (some ⟨w2.heap.size + 1, 0, none⟩) 1 1, .slice none 0 0, .slice none 0 0] 36)).heap.size = w2.heap.size + 1 := by simp
  have hBn := recv_below (w2.alloc (Obj.cells #[.slice (some ⟨w2.heap.size + 1, 0, none⟩) 1 1, .slice none 0 0, .slice none 0 0] 36)) (Obj.cells #[.string ⟨#[102]⟩, .slice a1 b.length c1] 58)
  obtain ⟨p0, p1⟩ := pair_cells (w2.alloc (Obj.cells #[.slice (some ⟨w2.heap.size + 1, 0, none⟩) 1 1, .slice none 0 0, .slice none 0 0] 36)) (.string ⟨#[102]⟩) (.slice a1 b.length c1) 58
  rw [hz] at p0 p1
  have hB2n := hBc.trans (hBn.mono hBc.size)
  generalize (w2.alloc (Obj.cells #[.slice (some ⟨w2.heap.size + 1, 0, none⟩) 1 1, .slice none 0 0, .slice none 0 0] 36)).alloc (Obj.cells #[.string ⟨#[102]⟩, .slice a1 b.length c1] 58) = wN at *
  have hBN : Below w.heap.size w wN := hB2'.trans (hB2n.mono hB2'.size)
  have hN : Nms wN (.slice (some ⟨w2.heap.size + 1, 0, none⟩) 1 1) [(nmF, b)] := one_named p0 p1 (H1.out.below hBN) m1 (by decide)
  have HN := hide (knew_good (some ⟨w2.heap.size + 1, 0, none⟩) none none 1 0 0 [(nmF, b)] [] [] wN hN (no_typed _) (.inl ⟨rfl, rfl⟩) (by decide) (by simp) (by decide) (by rw [pl_check, if_neg (by omega)]))
  clear p0 p1 hN hBn hz hBc
  have HBN := hide hBN
  have HAN := hide (hA2.below hB2n)
  clear hBN hA2 hB2n hB2' hB2 HBA HA HFl
  refine HN.out.mono ?_
  rintro e w3 ⟨kb, rfl, hK, hB3⟩
  have HO := hide (hK.open nmF 15 (by decide) (by show (1 : Nat) < 9223372036854775807; decide))
  rw [th_15 b] at HO
  have HB3 := hide hB3
  clear hK hB3 HN
  go_wp2_with (first | (go_at_call 20; refine (hn.out _ _).mono ?_; rintro e w' ⟨rfl, rfl⟩) | fail)
  refine HO.out.mono ?_
  rintro e w4 ⟨rfl, hS⟩
  obtain ⟨hK, hB⟩ := hS.at (B := wN.heap.size) (fun _ e => e) HB3.out.size
  have HB4 := hide (HB3.out.trans hB)
  have HK := hide hK
  have HBw4 := hide (HBN.out.trans (HB4.out.mono HBN.out.size))
  obtain ⟨c0, c1', c2, c3, c4, c5, c6, c7⟩ := (HAN.out.below HB4.out).mc
  clear hK hB hS HO HB3
  have hlen : ((b : List UInt8)).length ≤ 1000 := by first | exact hb | decide
  have HFi := hide HK.out.files
  rw [ko_files] at HFi
  go_wp2_with (first | (go_at_call 20; refine (hn.out _ _).mono ?_; rintro e w' ⟨rfl, rfl⟩) | fail)
  refine HFi.out.mono ?_
  rintro e w5 ⟨v5, us, rfl, hO5, hL5, hB5⟩
  have hN5 := nms_of_owns hO5 hL5 (fun j hj => by
    have : j = 0 := by simpa using hj
    subst this
    show nmF.size ≤ maxLen
    decide)
  obtain ⟨a5, c5', rfl⟩ := owns_slice hO5
  obtain ⟨lb, lo, va, vc, rfl, hlb, l0, l1, hly, -, -⟩ := hN5.at 0 (by simp)
  have HL1 := hide l1
  have hK5 := HK.out.below hB5
  have HB5 := hide (HB4.out.trans (hB5.mono HB4.out.size))
  have HRd := hide (hK5.read 1 5 ⟨by decide, by decide⟩ (by show (0 : Nat) < 9223372036854775807; decide))
  rw [ko_read b 15 (by decide)] at HRd
  simp only at HRd
  have HO5 := hide (fun j e => (show wN.heap.size ≤ j ∧ j < w4.heap.size from e))
  have hlz : w4.heap.size ≤ lb := (hO5.lt lb rfl).1
  clear hO5 hL5 hB5 hN5 hly hK5 HFi l0 l1 c0 c1' c2 c3 c4 c5 c6 c7
  go_wp2_with fail
  refine HRd.out.mono ?_
  rintro e w6 ⟨v6, rfl, hO6, hK6, hT6⟩
  obtain ⟨a6, c6', rfl⟩ := owns_slice hO6
  have hpl : (piece b 0 5).length ≤ 5 := by have := piece_len b 0 5; omega
  have hB6 : Below wN.heap.size wN w6 := HB5.out.trans (hT6.below (fun j e => e.1) HB5.out.size)
  have l6 := cell_keep hT6 HL1.out (fun e => by have := (show wN.heap.size ≤ lb ∧ lb < w4.heap.size from e).2; omega)
  have HL6 := hide l6
  have hlb6 := World.block_lt_of_cell? w6 _ l6
  have hKa := hK6.below ((Below.refl w6.heap.size w6).alloc (Nat.le_refl _) (Obj.cells #[.int .u8 1] 5))
  have hya : Bys (w6.alloc (Obj.cells #[.int .u8 1] 5)) (.slice (some ⟨w6.heap.size, 0, none⟩) 1 1) [1] := .inr (.inr ⟨w6.heap.size, 0, 1, rfl, by decide, fun j hj => by
    have : j = 0 := by simpa using hj
    subst this
    rw [cell_of_row _ _ 0 _ _ _ (heap_alloc_new _ _)]
    rfl⟩)
  have hz6 := hT6.size
  have hz4 := HB4.out.size
  have HWr := hide (hKa.write 1 [1] (some ⟨w6.heap.size, 0, none⟩) 1 ⟨by decide, by decide⟩ (by show (0 : Nat) < 9223372036854775807; decide) hya (by decide) (by decide) (fun _ k hk e => by
    cases hk
    have h9 := (show wN.heap.size ≤ w6.heap.size ∧ w6.heap.size < w4.heap.size from e).2
    have := HB5.out.size
    omega))
  have hwv := ko_write b 15 (piece b 0 5).length 1 (by decide) hlen (by omega)
  rw [hwv.1, hwv.2] at HWr
  have HB6 := hide hB6
  have Hpl := hide hpl
  clear hwv hya hKa hK6 hT6 l6 hB6 hO6 HRd
  go_wp2_with fail
  refine HWr.out.mono ?_
  rintro e w7 ⟨rfl, hS7⟩
  have hT7 := hS7.turned
  have hBa : Below wN.heap.size wN (w6.alloc (Obj.cells #[.int .u8 1] 5)) := HB6.out.alloc HB6.out.size _
  have hB7 : Below wN.heap.size wN w7 := hBa.trans (hT7.below (fun j e => e.1) hBa.size)
  have l7 := cell_keep hT7 ((((Below.refl w6.heap.size w6).alloc (Nat.le_refl _) (Obj.cells #[.int .u8 1] 5)).cell (p := ⟨lb, lo + 0 * 2 + 1, none⟩) hlb6).trans HL6.out) (fun e => by have := (show wN.heap.size ≤ lb ∧ lb < w4.heap.size from e).2; omega)
  obtain ⟨c0, c1', c2, c3, c4, c5, c6, c7⟩ := (HAN.out.below hB7).mc
  have HB7 := hide (HBN.out.trans (hB7.mono HBN.out.size))
  have hpi : ((piece b 0 5).length : Int) ≤ 5 := by have := Hpl.out; omega
  clear hT7 hB7 hBa hS7 HWr
  simp only [Nat.zero_mul, Nat.add_zero] at l7
  go_wp2_with (first | (go_at_call 20; refine (hn.out _ _).mono ?_; rintro e w' ⟨rfl, rfl⟩) | fail)
  go_quiet ((go_at_call 20; exact Calls.quiet_of_same ((hn.out _ _).mono fun _ _ ⟨a, b⟩ => ⟨a, b.symm⟩)))
  go_wp2
  go_ret
  exact ⟨rfl, below_drewN HB7.out _⟩
end Go.Proofs.YtkgbhcpeoaefjaaGreat

/- OpenmodeOpens, walked: none is there. -/
namespace Go.Proofs.YtkgbhcpeoaefjaaGreat
open Go.RowKit Go.Maps

set_option maxRecDepth 100000 in
set_option maxHeartbeats 4000000 in
theorem opens_n1 (s : ByteArray) (a1 : Option Addr) (c1 : Nat) (b : List UInt8) (y : Mo) (n : Nat) (w : World) (hs : s.size ≤ maxLen) (h1 : Bys w (.slice a1 b.length c1) b) (_m1 : b.length ≤ c1) (hb : b.length ≤ 1000) (hp : prs mo0 0 s.data.toList = (y, 0, n)) (hc : chkM y = 0) (hf : flK y 6 = 1) (hrd : y.rd = true) (hwr : y.wr = false) (hcr : y.cr = false) (htr : y.tr = false) (hex : y.ex = false) :
    Calls Tryz.prog 4 #[.string s, .bool false, .slice a1 b.length c1] w fun e w' => e = .returned (.bool true) ∧ Below w.heap.size w w' := by
  have HPr := hide (fun w => oparse_any s w hs)
  rw [hp] at HPr
  have HFl := hide (oflags_any y)
  rw [hc, show flg y = flK y 6 by simp [flg, hc], hf] at HFl
  simp only [mv, hrd, hwr, hcr, htr, hex] at HPr HFl
  have H1 := hide h1
  have hn := hide num_op
  clear hp hc hf hrd hwr hcr htr hex h1
  generalize y.ap = ap at *
  generalize y.bi = bi at *
  generalize y.ma = ma at *
  go_enter Tryz.func4, Tryz.ntmps4
  go_wp2_with fail
  refine (oalive_any _).mono ?_
  rintro e0 w0 ⟨rfl, hB0⟩
  go_wp2_with fail
  refine (HPr.out _).mono ?_
  rintro e1 w1 ⟨rfl, hB1⟩
  have hA : MoAt (w1.alloc (Obj.cells (mc ⟨true, false, ap, false, false, false, bi, ma⟩) 53)) w1.heap.size ⟨true, false, ap, false, false, false, bi, ma⟩ := heap_alloc_new _ _
  have hBB := hB0.trans (hB1.mono hB0.size)
  have hBA := hBB.alloc hBB.size (Obj.cells (mc ⟨true, false, ap, false, false, false, bi, ma⟩) 53)
  have HA := hide hA
  have HBA := hide hBA
  clear hA hBA hBB hB0 hB1 HPr
  have hb' : ¬ (1000 : Int) < (b.length : Int) := by omega
  go_wp2_with (first | (go_at_call 20; refine (hn.out _ _).mono ?_; rintro e w' ⟨rfl, rfl⟩) | (go_at_call 21; refine (HFl.out _).mono ?_; rintro e2 w2 ⟨rfl, hB2⟩) | fail)
  have hB2' : Below w.heap.size w w2 := HBA.out.trans (hB2.mono HBA.out.size)
  have hA2 : MoAt w2 w1.heap.size ⟨true, false, ap, false, false, false, bi, ma⟩ := HA.out.below hB2
  have hB2n := recv_below w2 (Obj.cells #[.slice none 0 0, .slice none 0 0, .slice none 0 0] 36)
  generalize w2.alloc (Obj.cells #[.slice none 0 0, .slice none 0 0, .slice none 0 0] 36) = wN at *
  have hBN : Below w.heap.size w wN := hB2'.trans (hB2n.mono hB2'.size)
  have HN := hide (knew_good none none none 0 0 0 [] [] [] wN ⟨none, 0, rfl, by simp, fun h => absurd h (by simp)⟩ (no_typed _) (.inl ⟨rfl, rfl⟩) (by decide) (by simp) (by decide) rfl)
  have HBN := hide hBN
  have HAN := hide (hA2.below hB2n)
  clear hBN hA2 hB2n hB2' hB2 HBA HA HFl
  refine HN.out.mono ?_
  rintro e w3 ⟨kb, rfl, hK, hB3⟩
  have HO := hide (hK.open nmF 1 (by decide) (by show (1 : Nat) < 9223372036854775807; decide))
  rw [no_1] at HO
  have HB3 := hide hB3
  clear hK hB3 HN
  go_wp2_with (first | (go_at_call 20; refine (hn.out _ _).mono ?_; rintro e w' ⟨rfl, rfl⟩) | fail)
  refine HO.out.mono ?_
  rintro e w4 ⟨rfl, hS⟩
  obtain ⟨hK, hB⟩ := hS.at (B := wN.heap.size) (fun _ e => e) HB3.out.size
  have HB4 := hide (HB3.out.trans hB)
  have HK := hide hK
  have HBw4 := hide (HBN.out.trans (HB4.out.mono HBN.out.size))
  obtain ⟨c0, c1', c2, c3, c4, c5, c6, c7⟩ := (HAN.out.below HB4.out).mc
  clear hK hB hS HO HB3
  go_wp2_with (first | (go_at_call 20; refine (hn.out _ _).mono ?_; rintro e w' ⟨rfl, rfl⟩) | fail)
  go_ret
  exact ⟨rfl, HBw4.out⟩
set_option maxRecDepth 100000 in
set_option maxHeartbeats 4000000 in
theorem opens_n3 (s : ByteArray) (a1 : Option Addr) (c1 : Nat) (b : List UInt8) (y : Mo) (n : Nat) (w : World) (hs : s.size ≤ maxLen) (h1 : Bys w (.slice a1 b.length c1) b) (_m1 : b.length ≤ c1) (hb : b.length ≤ 1000) (hp : prs mo0 0 s.data.toList = (y, 0, n)) (hc : chkM y = 0) (hf : flK y 6 = 3) (hrd : y.rd = true) (hwr : y.wr = true) (hcr : y.cr = false) (htr : y.tr = false) (hex : y.ex = false) :
    Calls Tryz.prog 4 #[.string s, .bool false, .slice a1 b.length c1] w fun e w' => e = .returned (.bool true) ∧ Below w.heap.size w w' := by
  have HPr := hide (fun w => oparse_any s w hs)
  rw [hp] at HPr
  have HFl := hide (oflags_any y)
  rw [hc, show flg y = flK y 6 by simp [flg, hc], hf] at HFl
  simp only [mv, hrd, hwr, hcr, htr, hex] at HPr HFl
  have H1 := hide h1
  have hn := hide num_op
  clear hp hc hf hrd hwr hcr htr hex h1
  generalize y.ap = ap at *
  generalize y.bi = bi at *
  generalize y.ma = ma at *
  go_enter Tryz.func4, Tryz.ntmps4
  go_wp2_with fail
  refine (oalive_any _).mono ?_
  rintro e0 w0 ⟨rfl, hB0⟩
  go_wp2_with fail
  refine (HPr.out _).mono ?_
  rintro e1 w1 ⟨rfl, hB1⟩
  have hA : MoAt (w1.alloc (Obj.cells (mc ⟨true, true, ap, false, false, false, bi, ma⟩) 53)) w1.heap.size ⟨true, true, ap, false, false, false, bi, ma⟩ := heap_alloc_new _ _
  have hBB := hB0.trans (hB1.mono hB0.size)
  have hBA := hBB.alloc hBB.size (Obj.cells (mc ⟨true, true, ap, false, false, false, bi, ma⟩) 53)
  have HA := hide hA
  have HBA := hide hBA
  clear hA hBA hBB hB0 hB1 HPr
  have hb' : ¬ (1000 : Int) < (b.length : Int) := by omega
  go_wp2_with (first | (go_at_call 20; refine (hn.out _ _).mono ?_; rintro e w' ⟨rfl, rfl⟩) | (go_at_call 21; refine (HFl.out _).mono ?_; rintro e2 w2 ⟨rfl, hB2⟩) | fail)
  have hB2' : Below w.heap.size w w2 := HBA.out.trans (hB2.mono HBA.out.size)
  have hA2 : MoAt w2 w1.heap.size ⟨true, true, ap, false, false, false, bi, ma⟩ := HA.out.below hB2
  have hB2n := recv_below w2 (Obj.cells #[.slice none 0 0, .slice none 0 0, .slice none 0 0] 36)
  generalize w2.alloc (Obj.cells #[.slice none 0 0, .slice none 0 0, .slice none 0 0] 36) = wN at *
  have hBN : Below w.heap.size w wN := hB2'.trans (hB2n.mono hB2'.size)
  have HN := hide (knew_good none none none 0 0 0 [] [] [] wN ⟨none, 0, rfl, by simp, fun h => absurd h (by simp)⟩ (no_typed _) (.inl ⟨rfl, rfl⟩) (by decide) (by simp) (by decide) rfl)
  have HBN := hide hBN
  have HAN := hide (hA2.below hB2n)
  clear hBN hA2 hB2n hB2' hB2 HBA HA HFl
  refine HN.out.mono ?_
  rintro e w3 ⟨kb, rfl, hK, hB3⟩
  have HO := hide (hK.open nmF 3 (by decide) (by show (1 : Nat) < 9223372036854775807; decide))
  rw [no_3] at HO
  have HB3 := hide hB3
  clear hK hB3 HN
  go_wp2_with (first | (go_at_call 20; refine (hn.out _ _).mono ?_; rintro e w' ⟨rfl, rfl⟩) | fail)
  refine HO.out.mono ?_
  rintro e w4 ⟨rfl, hS⟩
  obtain ⟨hK, hB⟩ := hS.at (B := wN.heap.size) (fun _ e => e) HB3.out.size
  have HB4 := hide (HB3.out.trans hB)
  have HK := hide hK
  have HBw4 := hide (HBN.out.trans (HB4.out.mono HBN.out.size))
  obtain ⟨c0, c1', c2, c3, c4, c5, c6, c7⟩ := (HAN.out.below HB4.out).mc
  clear hK hB hS HO HB3
  go_wp2_with (first | (go_at_call 20; refine (hn.out _ _).mono ?_; rintro e w' ⟨rfl, rfl⟩) | fail)
  go_ret
  exact ⟨rfl, HBw4.out⟩
set_option maxRecDepth 100000 in
set_option maxHeartbeats 4000000 in
theorem opens_n26 (s : ByteArray) (a1 : Option Addr) (c1 : Nat) (b : List UInt8) (y : Mo) (n : Nat) (w : World) (hs : s.size ≤ maxLen) (h1 : Bys w (.slice a1 b.length c1) b) (_m1 : b.length ≤ c1) (hb : b.length ≤ 1000) (hp : prs mo0 0 s.data.toList = (y, 0, n)) (hc : chkM y = 0) (hf : flK y 6 = 26) (hrd : y.rd = false) (hwr : y.wr = true) (hcr : y.cr = true) (htr : y.tr = true) (hex : y.ex = false) :
    Calls Tryz.prog 4 #[.string s, .bool false, .slice a1 b.length c1] w fun e w' => e = .returned (.bool true) ∧ Below w.heap.size w w' := by
  have HPr := hide (fun w => oparse_any s w hs)
  rw [hp] at HPr
  have HFl := hide (oflags_any y)
  rw [hc, show flg y = flK y 6 by simp [flg, hc], hf] at HFl
  simp only [mv, hrd, hwr, hcr, htr, hex] at HPr HFl
  have H1 := hide h1
  have hn := hide num_op
  clear hp hc hf hrd hwr hcr htr hex h1
  generalize y.ap = ap at *
  generalize y.bi = bi at *
  generalize y.ma = ma at *
  go_enter Tryz.func4, Tryz.ntmps4
  go_wp2_with fail
  refine (oalive_any _).mono ?_
  rintro e0 w0 ⟨rfl, hB0⟩
  go_wp2_with fail
  refine (HPr.out _).mono ?_
  rintro e1 w1 ⟨rfl, hB1⟩
  have hA : MoAt (w1.alloc (Obj.cells (mc ⟨false, true, ap, true, true, false, bi, ma⟩) 53)) w1.heap.size ⟨false, true, ap, true, true, false, bi, ma⟩ := heap_alloc_new _ _
  have hBB := hB0.trans (hB1.mono hB0.size)
  have hBA := hBB.alloc hBB.size (Obj.cells (mc ⟨false, true, ap, true, true, false, bi, ma⟩) 53)
  have HA := hide hA
  have HBA := hide hBA
  clear hA hBA hBB hB0 hB1 HPr
  have hb' : ¬ (1000 : Int) < (b.length : Int) := by omega
  go_wp2_with (first | (go_at_call 20; refine (hn.out _ _).mono ?_; rintro e w' ⟨rfl, rfl⟩) | (go_at_call 21; refine (HFl.out _).mono ?_; rintro e2 w2 ⟨rfl, hB2⟩) | fail)
  have hB2' : Below w.heap.size w w2 := HBA.out.trans (hB2.mono HBA.out.size)
  have hA2 : MoAt w2 w1.heap.size ⟨false, true, ap, true, true, false, bi, ma⟩ := HA.out.below hB2
  have hB2n := recv_below w2 (Obj.cells #[.slice none 0 0, .slice none 0 0, .slice none 0 0] 36)
  generalize w2.alloc (Obj.cells #[.slice none 0 0, .slice none 0 0, .slice none 0 0] 36) = wN at *
  have hBN : Below w.heap.size w wN := hB2'.trans (hB2n.mono hB2'.size)
  have HN := hide (knew_good none none none 0 0 0 [] [] [] wN ⟨none, 0, rfl, by simp, fun h => absurd h (by simp)⟩ (no_typed _) (.inl ⟨rfl, rfl⟩) (by decide) (by simp) (by decide) rfl)
  have HBN := hide hBN
  have HAN := hide (hA2.below hB2n)
  clear hBN hA2 hB2n hB2' hB2 HBA HA HFl
  refine HN.out.mono ?_
  rintro e w3 ⟨kb, rfl, hK, hB3⟩
  have HO := hide (hK.open nmF 26 (by decide) (by show (1 : Nat) < 9223372036854775807; decide))
  rw [no_26] at HO
  have HB3 := hide hB3
  clear hK hB3 HN
  go_wp2_with (first | (go_at_call 20; refine (hn.out _ _).mono ?_; rintro e w' ⟨rfl, rfl⟩) | fail)
  refine HO.out.mono ?_
  rintro e w4 ⟨rfl, hS⟩
  obtain ⟨hK, hB⟩ := hS.at (B := wN.heap.size) (fun _ e => e) HB3.out.size
  have HB4 := hide (HB3.out.trans hB)
  have HK := hide hK
  have HBw4 := hide (HBN.out.trans (HB4.out.mono HBN.out.size))
  obtain ⟨c0, c1', c2, c3, c4, c5, c6, c7⟩ := (HAN.out.below HB4.out).mc
  clear hK hB hS HO HB3
  have hlen : (([] : List UInt8)).length ≤ 1000 := by first | exact hb | decide
  have HFi := hide HK.out.files
  rw [ko_files] at HFi
  go_wp2_with (first | (go_at_call 20; refine (hn.out _ _).mono ?_; rintro e w' ⟨rfl, rfl⟩) | fail)
  refine HFi.out.mono ?_
  rintro e w5 ⟨v5, us, rfl, hO5, hL5, hB5⟩
  have hN5 := nms_of_owns hO5 hL5 (fun j hj => by
    have : j = 0 := by simpa using hj
    subst this
    show nmF.size ≤ maxLen
    decide)
  obtain ⟨a5, c5', rfl⟩ := owns_slice hO5
  obtain ⟨lb, lo, va, vc, rfl, hlb, l0, l1, hly, -, -⟩ := hN5.at 0 (by simp)
  have HL1 := hide l1
  have hK5 := HK.out.below hB5
  have HB5 := hide (HB4.out.trans (hB5.mono HB4.out.size))
  have HRd := hide (hK5.read 1 5 ⟨by decide, by decide⟩ (by show (0 : Nat) < 9223372036854775807; decide))
  rw [ko_noread [] 26 (by decide)] at HRd
  simp only at HRd
  have HO5 := hide (fun j e => (show wN.heap.size ≤ j ∧ j < w4.heap.size from e))
  have hlz : w4.heap.size ≤ lb := (hO5.lt lb rfl).1
  clear hO5 hL5 hB5 hN5 hly hK5 HFi l0 l1 c0 c1' c2 c3 c4 c5 c6 c7
  go_wp2_with fail
  refine HRd.out.mono ?_
  rintro e w6 ⟨v6, rfl, hO6, hK6, hT6⟩
  obtain ⟨a6, c6', rfl⟩ := owns_slice hO6
  have hpl : (([] : List UInt8)).length ≤ 5 := by simp
  have hB6 : Below wN.heap.size wN w6 := HB5.out.trans (hT6.below (fun j e => e.1) HB5.out.size)
  have l6 := cell_keep hT6 HL1.out (fun e => by have := (show wN.heap.size ≤ lb ∧ lb < w4.heap.size from e).2; omega)
  have HL6 := hide l6
  have hlb6 := World.block_lt_of_cell? w6 _ l6
  have hKa := hK6.below ((Below.refl w6.heap.size w6).alloc (Nat.le_refl _) (Obj.cells #[.int .u8 1] 5))
  have hya : Bys (w6.alloc (Obj.cells #[.int .u8 1] 5)) (.slice (some ⟨w6.heap.size, 0, none⟩) 1 1) [1] := .inr (.inr ⟨w6.heap.size, 0, 1, rfl, by decide, fun j hj => by
    have : j = 0 := by simpa using hj
    subst this
    rw [cell_of_row _ _ 0 _ _ _ (heap_alloc_new _ _)]
    rfl⟩)
  have hz6 := hT6.size
  have hz4 := HB4.out.size
  have HWr := hide (hKa.write 1 [1] (some ⟨w6.heap.size, 0, none⟩) 1 ⟨by decide, by decide⟩ (by show (0 : Nat) < 9223372036854775807; decide) hya (by decide) (by decide) (fun _ k hk e => by
    cases hk
    have h9 := (show wN.heap.size ≤ w6.heap.size ∧ w6.heap.size < w4.heap.size from e).2
    have := HB5.out.size
    omega))
  have hwv := ko_write [] 26 0 0 (by decide) hlen (by omega)
  rw [hwv.1, hwv.2] at HWr
  have HB6 := hide hB6
  have Hpl := hide hpl
  clear hwv hya hKa hK6 hT6 l6 hB6 hO6 HRd
  go_wp2_with fail
  refine HWr.out.mono ?_
  rintro e w7 ⟨rfl, hS7⟩
  have hT7 := hS7.turned
  have hBa : Below wN.heap.size wN (w6.alloc (Obj.cells #[.int .u8 1] 5)) := HB6.out.alloc HB6.out.size _
  have hB7 : Below wN.heap.size wN w7 := hBa.trans (hT7.below (fun j e => e.1) hBa.size)
  have l7 := cell_keep hT7 ((((Below.refl w6.heap.size w6).alloc (Nat.le_refl _) (Obj.cells #[.int .u8 1] 5)).cell (p := ⟨lb, lo + 0 * 2 + 1, none⟩) hlb6).trans HL6.out) (fun e => by have := (show wN.heap.size ≤ lb ∧ lb < w4.heap.size from e).2; omega)
  obtain ⟨c0, c1', c2, c3, c4, c5, c6, c7⟩ := (HAN.out.below hB7).mc
  have HB7 := hide (HBN.out.trans (hB7.mono HBN.out.size))
  have hpi : ((([] : List UInt8)).length : Int) ≤ 5 := by have := Hpl.out; omega
  clear hT7 hB7 hBa hS7 HWr
  simp only [Nat.zero_mul, Nat.add_zero] at l7
  go_wp2_with (first | (go_at_call 20; refine (hn.out _ _).mono ?_; rintro e w' ⟨rfl, rfl⟩) | fail)
  go_quiet ((go_at_call 20; exact Calls.quiet_of_same ((hn.out _ _).mono fun _ _ ⟨a, b⟩ => ⟨a, b.symm⟩)))
  go_wp2
  go_ret
  exact ⟨rfl, below_drewN HB7.out _⟩
set_option maxRecDepth 100000 in
set_option maxHeartbeats 4000000 in
theorem opens_n27 (s : ByteArray) (a1 : Option Addr) (c1 : Nat) (b : List UInt8) (y : Mo) (n : Nat) (w : World) (hs : s.size ≤ maxLen) (h1 : Bys w (.slice a1 b.length c1) b) (_m1 : b.length ≤ c1) (hb : b.length ≤ 1000) (hp : prs mo0 0 s.data.toList = (y, 0, n)) (hc : chkM y = 0) (hf : flK y 6 = 27) (hrd : y.rd = true) (hwr : y.wr = true) (hcr : y.cr = true) (htr : y.tr = true) (hex : y.ex = false) :
    Calls Tryz.prog 4 #[.string s, .bool false, .slice a1 b.length c1] w fun e w' => e = .returned (.bool true) ∧ Below w.heap.size w w' := by
  have HPr := hide (fun w => oparse_any s w hs)
  rw [hp] at HPr
  have HFl := hide (oflags_any y)
  rw [hc, show flg y = flK y 6 by simp [flg, hc], hf] at HFl
  simp only [mv, hrd, hwr, hcr, htr, hex] at HPr HFl
  have H1 := hide h1
  have hn := hide num_op
  clear hp hc hf hrd hwr hcr htr hex h1
  generalize y.ap = ap at *
  generalize y.bi = bi at *
  generalize y.ma = ma at *
  go_enter Tryz.func4, Tryz.ntmps4
  go_wp2_with fail
  refine (oalive_any _).mono ?_
  rintro e0 w0 ⟨rfl, hB0⟩
  go_wp2_with fail
  refine (HPr.out _).mono ?_
  rintro e1 w1 ⟨rfl, hB1⟩
  have hA : MoAt (w1.alloc (Obj.cells (mc ⟨true, true, ap, true, true, false, bi, ma⟩) 53)) w1.heap.size ⟨true, true, ap, true, true, false, bi, ma⟩ := heap_alloc_new _ _
  have hBB := hB0.trans (hB1.mono hB0.size)
  have hBA := hBB.alloc hBB.size (Obj.cells (mc ⟨true, true, ap, true, true, false, bi, ma⟩) 53)
  have HA := hide hA
  have HBA := hide hBA
  clear hA hBA hBB hB0 hB1 HPr
  have hb' : ¬ (1000 : Int) < (b.length : Int) := by omega
  go_wp2_with (first | (go_at_call 20; refine (hn.out _ _).mono ?_; rintro e w' ⟨rfl, rfl⟩) | (go_at_call 21; refine (HFl.out _).mono ?_; rintro e2 w2 ⟨rfl, hB2⟩) | fail)
  have hB2' : Below w.heap.size w w2 := HBA.out.trans (hB2.mono HBA.out.size)
  have hA2 : MoAt w2 w1.heap.size ⟨true, true, ap, true, true, false, bi, ma⟩ := HA.out.below hB2
  have hB2n := recv_below w2 (Obj.cells #[.slice none 0 0, .slice none 0 0, .slice none 0 0] 36)
  generalize w2.alloc (Obj.cells #[.slice none 0 0, .slice none 0 0, .slice none 0 0] 36) = wN at *
  have hBN : Below w.heap.size w wN := hB2'.trans (hB2n.mono hB2'.size)
  have HN := hide (knew_good none none none 0 0 0 [] [] [] wN ⟨none, 0, rfl, by simp, fun h => absurd h (by simp)⟩ (no_typed _) (.inl ⟨rfl, rfl⟩) (by decide) (by simp) (by decide) rfl)
  have HBN := hide hBN
  have HAN := hide (hA2.below hB2n)
  clear hBN hA2 hB2n hB2' hB2 HBA HA HFl
  refine HN.out.mono ?_
  rintro e w3 ⟨kb, rfl, hK, hB3⟩
  have HO := hide (hK.open nmF 27 (by decide) (by show (1 : Nat) < 9223372036854775807; decide))
  rw [no_27] at HO
  have HB3 := hide hB3
  clear hK hB3 HN
  go_wp2_with (first | (go_at_call 20; refine (hn.out _ _).mono ?_; rintro e w' ⟨rfl, rfl⟩) | fail)
  refine HO.out.mono ?_
  rintro e w4 ⟨rfl, hS⟩
  obtain ⟨hK, hB⟩ := hS.at (B := wN.heap.size) (fun _ e => e) HB3.out.size
  have HB4 := hide (HB3.out.trans hB)
  have HK := hide hK
  have HBw4 := hide (HBN.out.trans (HB4.out.mono HBN.out.size))
  obtain ⟨c0, c1', c2, c3, c4, c5, c6, c7⟩ := (HAN.out.below HB4.out).mc
  clear hK hB hS HO HB3
  have hlen : (([] : List UInt8)).length ≤ 1000 := by first | exact hb | decide
  have HFi := hide HK.out.files
  rw [ko_files] at HFi
  go_wp2_with (first | (go_at_call 20; refine (hn.out _ _).mono ?_; rintro e w' ⟨rfl, rfl⟩) | fail)
  refine HFi.out.mono ?_
  rintro e w5 ⟨v5, us, rfl, hO5, hL5, hB5⟩
  have hN5 := nms_of_owns hO5 hL5 (fun j hj => by
    have : j = 0 := by simpa using hj
    subst this
    show nmF.size ≤ maxLen
    decide)
  obtain ⟨a5, c5', rfl⟩ := owns_slice hO5
  obtain ⟨lb, lo, va, vc, rfl, hlb, l0, l1, hly, -, -⟩ := hN5.at 0 (by simp)
  have HL1 := hide l1
  have hK5 := HK.out.below hB5
  have HB5 := hide (HB4.out.trans (hB5.mono HB4.out.size))
  have HRd := hide (hK5.read 1 5 ⟨by decide, by decide⟩ (by show (0 : Nat) < 9223372036854775807; decide))
  rw [ko_read [] 27 (by decide)] at HRd
  simp only at HRd
  have HO5 := hide (fun j e => (show wN.heap.size ≤ j ∧ j < w4.heap.size from e))
  have hlz : w4.heap.size ≤ lb := (hO5.lt lb rfl).1
  clear hO5 hL5 hB5 hN5 hly hK5 HFi l0 l1 c0 c1' c2 c3 c4 c5 c6 c7
  go_wp2_with fail
  refine HRd.out.mono ?_
  rintro e w6 ⟨v6, rfl, hO6, hK6, hT6⟩
  obtain ⟨a6, c6', rfl⟩ := owns_slice hO6
  have hpl : (piece [] 0 5).length ≤ 5 := by have := piece_len [] 0 5; omega
  have hB6 : Below wN.heap.size wN w6 := HB5.out.trans (hT6.below (fun j e => e.1) HB5.out.size)
  have l6 := cell_keep hT6 HL1.out (fun e => by have := (show wN.heap.size ≤ lb ∧ lb < w4.heap.size from e).2; omega)
  have HL6 := hide l6
  have hlb6 := World.block_lt_of_cell? w6 _ l6
  have hKa := hK6.below ((Below.refl w6.heap.size w6).alloc (Nat.le_refl _) (Obj.cells #[.int .u8 1] 5))
  have hya : Bys (w6.alloc (Obj.cells #[.int .u8 1] 5)) (.slice (some ⟨w6.heap.size, 0, none⟩) 1 1) [1] := .inr (.inr ⟨w6.heap.size, 0, 1, rfl, by decide, fun j hj => by
    have : j = 0 := by simpa using hj
    subst this
    rw [cell_of_row _ _ 0 _ _ _ (heap_alloc_new _ _)]
    rfl⟩)
  have hz6 := hT6.size
  have hz4 := HB4.out.size
  have HWr := hide (hKa.write 1 [1] (some ⟨w6.heap.size, 0, none⟩) 1 ⟨by decide, by decide⟩ (by show (0 : Nat) < 9223372036854775807; decide) hya (by decide) (by decide) (fun _ k hk e => by
    cases hk
    have h9 := (show wN.heap.size ≤ w6.heap.size ∧ w6.heap.size < w4.heap.size from e).2
    have := HB5.out.size
    omega))
  have hwv := ko_write [] 27 (piece [] 0 5).length 1 (by decide) hlen (by omega)
  rw [hwv.1, hwv.2] at HWr
  have HB6 := hide hB6
  have Hpl := hide hpl
  clear hwv hya hKa hK6 hT6 l6 hB6 hO6 HRd
  go_wp2_with fail
  refine HWr.out.mono ?_
  rintro e w7 ⟨rfl, hS7⟩
  have hT7 := hS7.turned
  have hBa : Below wN.heap.size wN (w6.alloc (Obj.cells #[.int .u8 1] 5)) := HB6.out.alloc HB6.out.size _
  have hB7 : Below wN.heap.size wN w7 := hBa.trans (hT7.below (fun j e => e.1) hBa.size)
  have l7 := cell_keep hT7 ((((Below.refl w6.heap.size w6).alloc (Nat.le_refl _) (Obj.cells #[.int .u8 1] 5)).cell (p := ⟨lb, lo + 0 * 2 + 1, none⟩) hlb6).trans HL6.out) (fun e => by have := (show wN.heap.size ≤ lb ∧ lb < w4.heap.size from e).2; omega)
  obtain ⟨c0, c1', c2, c3, c4, c5, c6, c7⟩ := (HAN.out.below hB7).mc
  have HB7 := hide (HBN.out.trans (hB7.mono HBN.out.size))
  have hpi : ((piece [] 0 5).length : Int) ≤ 5 := by have := Hpl.out; omega
  clear hT7 hB7 hBa hS7 HWr
  simp only [Nat.zero_mul, Nat.add_zero] at l7
  go_wp2_with (first | (go_at_call 20; refine (hn.out _ _).mono ?_; rintro e w' ⟨rfl, rfl⟩) | fail)
  go_quiet ((go_at_call 20; exact Calls.quiet_of_same ((hn.out _ _).mono fun _ _ ⟨a, b⟩ => ⟨a, b.symm⟩)))
  go_wp2
  go_ret
  exact ⟨rfl, below_drewN HB7.out _⟩
set_option maxRecDepth 100000 in
set_option maxHeartbeats 4000000 in
theorem opens_n58 (s : ByteArray) (a1 : Option Addr) (c1 : Nat) (b : List UInt8) (y : Mo) (n : Nat) (w : World) (hs : s.size ≤ maxLen) (h1 : Bys w (.slice a1 b.length c1) b) (_m1 : b.length ≤ c1) (hb : b.length ≤ 1000) (hp : prs mo0 0 s.data.toList = (y, 0, n)) (hc : chkM y = 0) (hf : flK y 6 = 58) (hrd : y.rd = false) (hwr : y.wr = true) (hcr : y.cr = true) (htr : y.tr = true) (hex : y.ex = true) :
    Calls Tryz.prog 4 #[.string s, .bool false, .slice a1 b.length c1] w fun e w' => e = .returned (.bool true) ∧ Below w.heap.size w w' := by
  have HPr := hide (fun w => oparse_any s w hs)
  rw [hp] at HPr
  have HFl := hide (oflags_any y)
  rw [hc, show flg y = flK y 6 by simp [flg, hc], hf] at HFl
  simp only [mv, hrd, hwr, hcr, htr, hex] at HPr HFl
  have H1 := hide h1
  have hn := hide num_op
  clear hp hc hf hrd hwr hcr htr hex h1
  generalize y.ap = ap at *
  generalize y.bi = bi at *
  generalize y.ma = ma at *
  go_enter Tryz.func4, Tryz.ntmps4
  go_wp2_with fail
  refine (oalive_any _).mono ?_
  rintro e0 w0 ⟨rfl, hB0⟩
  go_wp2_with fail
  refine (HPr.out _).mono ?_
  rintro e1 w1 ⟨rfl, hB1⟩
  have hA : MoAt (w1.alloc (Obj.cells (mc ⟨false, true, ap, true, true, true, bi, ma⟩) 53)) w1.heap.size ⟨false, true, ap, true, true, true, bi, ma⟩ := heap_alloc_new _ _
  have hBB := hB0.trans (hB1.mono hB0.size)
  have hBA := hBB.alloc hBB.size (Obj.cells (mc ⟨false, true, ap, true, true, true, bi, ma⟩) 53)
  have HA := hide hA
  have HBA := hide hBA
  clear hA hBA hBB hB0 hB1 HPr
  have hb' : ¬ (1000 : Int) < (b.length : Int) := by omega
  go_wp2_with (first | (go_at_call 20; refine (hn.out _ _).mono ?_; rintro e w' ⟨rfl, rfl⟩) | (go_at_call 21; refine (HFl.out _).mono ?_; rintro e2 w2 ⟨rfl, hB2⟩) | fail)
  have hB2' : Below w.heap.size w w2 := HBA.out.trans (hB2.mono HBA.out.size)
  have hA2 : MoAt w2 w1.heap.size ⟨false, true, ap, true, true, true, bi, ma⟩ := HA.out.below hB2
  have hB2n := recv_below w2 (Obj.cells #[.slice none 0 0, .slice none 0 0, .slice none 0 0] 36)
  generalize w2.alloc (Obj.cells #[.slice none 0 0, .slice none 0 0, .slice none 0 0] 36) = wN at *
  have hBN : Below w.heap.size w wN := hB2'.trans (hB2n.mono hB2'.size)
  have HN := hide (knew_good none none none 0 0 0 [] [] [] wN ⟨none, 0, rfl, by simp, fun h => absurd h (by simp)⟩ (no_typed _) (.inl ⟨rfl, rfl⟩) (by decide) (by simp) (by decide) rfl)
  have HBN := hide hBN
  have HAN := hide (hA2.below hB2n)
  clear hBN hA2 hB2n hB2' hB2 HBA HA HFl
  refine HN.out.mono ?_
  rintro e w3 ⟨kb, rfl, hK, hB3⟩
  have HO := hide (hK.open nmF 58 (by decide) (by show (1 : Nat) < 9223372036854775807; decide))
  rw [no_58] at HO
  have HB3 := hide hB3
  clear hK hB3 HN
  go_wp2_with (first | (go_at_call 20; refine (hn.out _ _).mono ?_; rintro e w' ⟨rfl, rfl⟩) | fail)
  refine HO.out.mono ?_
  rintro e w4 ⟨rfl, hS⟩
  obtain ⟨hK, hB⟩ := hS.at (B := wN.heap.size) (fun _ e => e) HB3.out.size
  have HB4 := hide (HB3.out.trans hB)
  have HK := hide hK
  have HBw4 := hide (HBN.out.trans (HB4.out.mono HBN.out.size))
  obtain ⟨c0, c1', c2, c3, c4, c5, c6, c7⟩ := (HAN.out.below HB4.out).mc
  clear hK hB hS HO HB3
  have hlen : (([] : List UInt8)).length ≤ 1000 := by first | exact hb | decide
  have HFi := hide HK.out.files
  rw [ko_files] at HFi
  go_wp2_with (first | (go_at_call 20; refine (hn.out _ _).mono ?_; rintro e w' ⟨rfl, rfl⟩) | fail)
  refine HFi.out.mono ?_
  rintro e w5 ⟨v5, us, rfl, hO5, hL5, hB5⟩
  have hN5 := nms_of_owns hO5 hL5 (fun j hj => by
    have : j = 0 := by simpa using hj
    subst this
    show nmF.size ≤ maxLen
    decide)
  obtain ⟨a5, c5', rfl⟩ := owns_slice hO5
  obtain ⟨lb, lo, va, vc, rfl, hlb, l0, l1, hly, -, -⟩ := hN5.at 0 (by simp)
  have HL1 := hide l1
  have hK5 := HK.out.below hB5
  have HB5 := hide (HB4.out.trans (hB5.mono HB4.out.size))
  have HRd := hide (hK5.read 1 5 ⟨by decide, by decide⟩ (by show (0 : Nat) < 9223372036854775807; decide))
  rw [ko_noread [] 58 (by decide)] at HRd
  simp only at HRd
  have HO5 := hide (fun j e => (show wN.heap.size ≤ j ∧ j < w4.heap.size from e))
  have hlz : w4.heap.size ≤ lb := (hO5.lt lb rfl).1
  clear hO5 hL5 hB5 hN5 hly hK5 HFi l0 l1 c0 c1' c2 c3 c4 c5 c6 c7
  go_wp2_with fail
  refine HRd.out.mono ?_
  rintro e w6 ⟨v6, rfl, hO6, hK6, hT6⟩
  obtain ⟨a6, c6', rfl⟩ := owns_slice hO6
  have hpl : (([] : List UInt8)).length ≤ 5 := by simp
  have hB6 : Below wN.heap.size wN w6 := HB5.out.trans (hT6.below (fun j e => e.1) HB5.out.size)
  have l6 := cell_keep hT6 HL1.out (fun e => by have := (show wN.heap.size ≤ lb ∧ lb < w4.heap.size from e).2; omega)
  have HL6 := hide l6
  have hlb6 := World.block_lt_of_cell? w6 _ l6
  have hKa := hK6.below ((Below.refl w6.heap.size w6).alloc (Nat.le_refl _) (Obj.cells #[.int .u8 1] 5))
  have hya : Bys (w6.alloc (Obj.cells #[.int .u8 1] 5)) (.slice (some ⟨w6.heap.size, 0, none⟩) 1 1) [1] := .inr (.inr ⟨w6.heap.size, 0, 1, rfl, by decide, fun j hj => by
    have : j = 0 := by simpa using hj
    subst this
    rw [cell_of_row _ _ 0 _ _ _ (heap_alloc_new _ _)]
    rfl⟩)
  have hz6 := hT6.size
  have hz4 := HB4.out.size
  have HWr := hide (hKa.write 1 [1] (some ⟨w6.heap.size, 0, none⟩) 1 ⟨by decide, by decide⟩ (by show (0 : Nat) < 9223372036854775807; decide) hya (by decide) (by decide) (fun _ k hk e => by
    cases hk
    have h9 := (show wN.heap.size ≤ w6.heap.size ∧ w6.heap.size < w4.heap.size from e).2
    have := HB5.out.size
    omega))
  have hwv := ko_write [] 58 0 0 (by decide) hlen (by omega)
  rw [hwv.1, hwv.2] at HWr
  have HB6 := hide hB6
  have Hpl := hide hpl
  clear hwv hya hKa hK6 hT6 l6 hB6 hO6 HRd
  go_wp2_with fail
  refine HWr.out.mono ?_
  rintro e w7 ⟨rfl, hS7⟩
  have hT7 := hS7.turned
  have hBa : Below wN.heap.size wN (w6.alloc (Obj.cells #[.int .u8 1] 5)) := HB6.out.alloc HB6.out.size _
  have hB7 : Below wN.heap.size wN w7 := hBa.trans (hT7.below (fun j e => e.1) hBa.size)
  have l7 := cell_keep hT7 ((((Below.refl w6.heap.size w6).alloc (Nat.le_refl _) (Obj.cells #[.int .u8 1] 5)).cell (p := ⟨lb, lo + 0 * 2 + 1, none⟩) hlb6).trans HL6.out) (fun e => by have := (show wN.heap.size ≤ lb ∧ lb < w4.heap.size from e).2; omega)
  obtain ⟨c0, c1', c2, c3, c4, c5, c6, c7⟩ := (HAN.out.below hB7).mc
  have HB7 := hide (HBN.out.trans (hB7.mono HBN.out.size))
  have hpi : ((([] : List UInt8)).length : Int) ≤ 5 := by have := Hpl.out; omega
  clear hT7 hB7 hBa hS7 HWr
  simp only [Nat.zero_mul, Nat.add_zero] at l7
  go_wp2_with (first | (go_at_call 20; refine (hn.out _ _).mono ?_; rintro e w' ⟨rfl, rfl⟩) | fail)
  go_quiet ((go_at_call 20; exact Calls.quiet_of_same ((hn.out _ _).mono fun _ _ ⟨a, b⟩ => ⟨a, b.symm⟩)))
  go_wp2
  go_ret
  exact ⟨rfl, below_drewN HB7.out _⟩
set_option maxRecDepth 100000 in
set_option maxHeartbeats 4000000 in
theorem opens_n59 (s : ByteArray) (a1 : Option Addr) (c1 : Nat) (b : List UInt8) (y : Mo) (n : Nat) (w : World) (hs : s.size ≤ maxLen) (h1 : Bys w (.slice a1 b.length c1) b) (_m1 : b.length ≤ c1) (hb : b.length ≤ 1000) (hp : prs mo0 0 s.data.toList = (y, 0, n)) (hc : chkM y = 0) (hf : flK y 6 = 59) (hrd : y.rd = true) (hwr : y.wr = true) (hcr : y.cr = true) (htr : y.tr = true) (hex : y.ex = true) :
    Calls Tryz.prog 4 #[.string s, .bool false, .slice a1 b.length c1] w fun e w' => e = .returned (.bool true) ∧ Below w.heap.size w w' := by
  have HPr := hide (fun w => oparse_any s w hs)
  rw [hp] at HPr
  have HFl := hide (oflags_any y)
  rw [hc, show flg y = flK y 6 by simp [flg, hc], hf] at HFl
  simp only [mv, hrd, hwr, hcr, htr, hex] at HPr HFl
  have H1 := hide h1
  have hn := hide num_op
  clear hp hc hf hrd hwr hcr htr hex h1
  generalize y.ap = ap at *
  generalize y.bi = bi at *
  generalize y.ma = ma at *
  go_enter Tryz.func4, Tryz.ntmps4
  go_wp2_with fail
  refine (oalive_any _).mono ?_
  rintro e0 w0 ⟨rfl, hB0⟩
  go_wp2_with fail
  refine (HPr.out _).mono ?_
  rintro e1 w1 ⟨rfl, hB1⟩
  have hA : MoAt (w1.alloc (Obj.cells (mc ⟨true, true, ap, true, true, true, bi, ma⟩) 53)) w1.heap.size ⟨true, true, ap, true, true, true, bi, ma⟩ := heap_alloc_new _ _
  have hBB := hB0.trans (hB1.mono hB0.size)
  have hBA := hBB.alloc hBB.size (Obj.cells (mc ⟨true, true, ap, true, true, true, bi, ma⟩) 53)
  have HA := hide hA
  have HBA := hide hBA
  clear hA hBA hBB hB0 hB1 HPr
  have hb' : ¬ (1000 : Int) < (b.length : Int) := by omega
  go_wp2_with (first | (go_at_call 20; refine (hn.out _ _).mono ?_; rintro e w' ⟨rfl, rfl⟩) | (go_at_call 21; refine (HFl.out _).mono ?_; rintro e2 w2 ⟨rfl, hB2⟩) | fail)
  have hB2' : Below w.heap.size w w2 := HBA.out.trans (hB2.mono HBA.out.size)
  have hA2 : MoAt w2 w1.heap.size ⟨true, true, ap, true, true, true, bi, ma⟩ := HA.out.below hB2
  have hB2n := recv_below w2 (Obj.cells #[.slice none 0 0, .slice none 0 0, .slice none 0 0] 36)
  generalize w2.alloc (Obj.cells #[.slice none 0 0, .slice none 0 0, .slice none 0 0] 36) = wN at *
  have hBN : Below w.heap.size w wN := hB2'.trans (hB2n.mono hB2'.size)
  have HN := hide (knew_good none none none 0 0 0 [] [] [] wN ⟨none, 0, rfl, by simp, fun h => absurd h (by simp)⟩ (no_typed _) (.inl ⟨rfl, rfl⟩) (by decide) (by simp) (by decide) rfl)
  have HBN := hide hBN
  have HAN := hide (hA2.below hB2n)
  clear hBN hA2 hB2n hB2' hB2 HBA HA HFl
  refine HN.out.mono ?_
  rintro e w3 ⟨kb, rfl, hK, hB3⟩
  have HO := hide (hK.open nmF 59 (by decide) (by show (1 : Nat) < 9223372036854775807; decide))
  rw [no_59] at HO
  have HB3 := hide hB3
  clear hK hB3 HN
  go_wp2_with (first | (go_at_call 20; refine (hn.out _ _).mono ?_; rintro e w' ⟨rfl, rfl⟩) | fail)
  refine HO.out.mono ?_
  rintro e w4 ⟨rfl, hS⟩
  obtain ⟨hK, hB⟩ := hS.at (B := wN.heap.size) (fun _ e => e) HB3.out.size
  have HB4 := hide (HB3.out.trans hB)
  have HK := hide hK
  have HBw4 := hide (HBN.out.trans (HB4.out.mono HBN.out.size))
  obtain ⟨c0, c1', c2, c3, c4, c5, c6, c7⟩ := (HAN.out.below HB4.out).mc
  clear hK hB hS HO HB3
  have hlen : (([] : List UInt8)).length ≤ 1000 := by first | exact hb | decide
  have HFi := hide HK.out.files
  rw [ko_files] at HFi
  go_wp2_with (first | (go_at_call 20; refine (hn.out _ _).mono ?_; rintro e w' ⟨rfl, rfl⟩) | fail)
  refine HFi.out.mono ?_
  rintro e w5 ⟨v5, us, rfl, hO5, hL5, hB5⟩
  have hN5 := nms_of_owns hO5 hL5 (fun j hj => by
    have : j = 0 := by simpa using hj
    subst this
    show nmF.size ≤ maxLen
    decide)
  obtain ⟨a5, c5', rfl⟩ := owns_slice hO5
  obtain ⟨lb, lo, va, vc, rfl, hlb, l0, l1, hly, -, -⟩ := hN5.at 0 (by simp)
  have HL1 := hide l1
  have hK5 := HK.out.below hB5
  have HB5 := hide (HB4.out.trans (hB5.mono HB4.out.size))
  have HRd := hide (hK5.read 1 5 ⟨by decide, by decide⟩ (by show (0 : Nat) < 9223372036854775807; decide))
  rw [ko_read [] 59 (by decide)] at HRd
  simp only at HRd
  have HO5 := hide (fun j e => (show wN.heap.size ≤ j ∧ j < w4.heap.size from e))
  have hlz : w4.heap.size ≤ lb := (hO5.lt lb rfl).1
  clear hO5 hL5 hB5 hN5 hly hK5 HFi l0 l1 c0 c1' c2 c3 c4 c5 c6 c7
  go_wp2_with fail
  refine HRd.out.mono ?_
  rintro e w6 ⟨v6, rfl, hO6, hK6, hT6⟩
  obtain ⟨a6, c6', rfl⟩ := owns_slice hO6
  have hpl : (piece [] 0 5).length ≤ 5 := by have := piece_len [] 0 5; omega
  have hB6 : Below wN.heap.size wN w6 := HB5.out.trans (hT6.below (fun j e => e.1) HB5.out.size)
  have l6 := cell_keep hT6 HL1.out (fun e => by have := (show wN.heap.size ≤ lb ∧ lb < w4.heap.size from e).2; omega)
  have HL6 := hide l6
  have hlb6 := World.block_lt_of_cell? w6 _ l6
  have hKa := hK6.below ((Below.refl w6.heap.size w6).alloc (Nat.le_refl _) (Obj.cells #[.int .u8 1] 5))
  have hya : Bys (w6.alloc (Obj.cells #[.int .u8 1] 5)) (.slice (some ⟨w6.heap.size, 0, none⟩) 1 1) [1] := .inr (.inr ⟨w6.heap.size, 0, 1, rfl, by decide, fun j hj => by
    have : j = 0 := by simpa using hj
    subst this
    rw [cell_of_row _ _ 0 _ _ _ (heap_alloc_new _ _)]
    rfl⟩)
  have hz6 := hT6.size
  have hz4 := HB4.out.size
  have HWr := hide (hKa.write 1 [1] (some ⟨w6.heap.size, 0, none⟩) 1 ⟨by decide, by decide⟩ (by show (0 : Nat) < 9223372036854775807; decide) hya (by decide) (by decide) (fun _ k hk e => by
    cases hk
    have h9 := (show wN.heap.size ≤ w6.heap.size ∧ w6.heap.size < w4.heap.size from e).2
    have := HB5.out.size
    omega))
  have hwv := ko_write [] 59 (piece [] 0 5).length 1 (by decide) hlen (by omega)
  rw [hwv.1, hwv.2] at HWr
  have HB6 := hide hB6
  have Hpl := hide hpl
  clear hwv hya hKa hK6 hT6 l6 hB6 hO6 HRd
  go_wp2_with fail
  refine HWr.out.mono ?_
  rintro e w7 ⟨rfl, hS7⟩
  have hT7 := hS7.turned
  have hBa : Below wN.heap.size wN (w6.alloc (Obj.cells #[.int .u8 1] 5)) := HB6.out.alloc HB6.out.size _
  have hB7 : Below wN.heap.size wN w7 := hBa.trans (hT7.below (fun j e => e.1) hBa.size)
  have l7 := cell_keep hT7 ((((Below.refl w6.heap.size w6).alloc (Nat.le_refl _) (Obj.cells #[.int .u8 1] 5)).cell (p := ⟨lb, lo + 0 * 2 + 1, none⟩) hlb6).trans HL6.out) (fun e => by have := (show wN.heap.size ≤ lb ∧ lb < w4.heap.size from e).2; omega)
  obtain ⟨c0, c1', c2, c3, c4, c5, c6, c7⟩ := (HAN.out.below hB7).mc
  have HB7 := hide (HBN.out.trans (hB7.mono HBN.out.size))
  have hpi : ((piece [] 0 5).length : Int) ≤ 5 := by have := Hpl.out; omega
  clear hT7 hB7 hBa hS7 HWr
  simp only [Nat.zero_mul, Nat.add_zero] at l7
  go_wp2_with (first | (go_at_call 20; refine (hn.out _ _).mono ?_; rintro e w' ⟨rfl, rfl⟩) | fail)
  go_quiet ((go_at_call 20; exact Calls.quiet_of_same ((hn.out _ _).mono fun _ _ ⟨a, b⟩ => ⟨a, b.symm⟩)))
  go_wp2
  go_ret
  exact ⟨rfl, below_drewN HB7.out _⟩
set_option maxRecDepth 100000 in
set_option maxHeartbeats 4000000 in
theorem opens_n14 (s : ByteArray) (a1 : Option Addr) (c1 : Nat) (b : List UInt8) (y : Mo) (n : Nat) (w : World) (hs : s.size ≤ maxLen) (h1 : Bys w (.slice a1 b.length c1) b) (_m1 : b.length ≤ c1) (hb : b.length ≤ 1000) (hp : prs mo0 0 s.data.toList = (y, 0, n)) (hc : chkM y = 0) (hf : flK y 6 = 14) (hrd : y.rd = false) (hwr : y.wr = true) (hcr : y.cr = true) (htr : y.tr = false) (hex : y.ex = false) :
    Calls Tryz.prog 4 #[.string s, .bool false, .slice a1 b.length c1] w fun e w' => e = .returned (.bool true) ∧ Below w.heap.size w w' := by
  have HPr := hide (fun w => oparse_any s w hs)
  rw [hp] at HPr
  have HFl := hide (oflags_any y)
  rw [hc, show flg y = flK y 6 by simp [flg, hc], hf] at HFl
  simp only [mv, hrd, hwr, hcr, htr, hex] at HPr HFl
  have H1 := hide h1
  have hn := hide num_op
  clear hp hc hf hrd hwr hcr htr hex h1
  generalize y.ap = ap at *
  generalize y.bi = bi at *
  generalize y.ma = ma at *
  go_enter Tryz.func4, Tryz.ntmps4
  go_wp2_with fail
  refine (oalive_any _).mono ?_
  rintro e0 w0 ⟨rfl, hB0⟩
  go_wp2_with fail
  refine (HPr.out _).mono ?_
  rintro e1 w1 ⟨rfl, hB1⟩
  have hA : MoAt (w1.alloc (Obj.cells (mc ⟨false, true, ap, true, false, false, bi, ma⟩) 53)) w1.heap.size ⟨false, true, ap, true, false, false, bi, ma⟩ := heap_alloc_new _ _
  have hBB := hB0.trans (hB1.mono hB0.size)
  have hBA := hBB.alloc hBB.size (Obj.cells (mc ⟨false, true, ap, true, false, false, bi, ma⟩) 53)
  have HA := hide hA
  have HBA := hide hBA
  clear hA hBA hBB hB0 hB1 HPr
  have hb' : ¬ (1000 : Int) < (b.length : Int) := by omega
  go_wp2_with (first | (go_at_call 20; refine (hn.out _ _).mono ?_; rintro e w' ⟨rfl, rfl⟩) | (go_at_call 21; refine (HFl.out _).mono ?_; rintro e2 w2 ⟨rfl, hB2⟩) | fail)
  have hB2' : Below w.heap.size w w2 := HBA.out.trans (hB2.mono HBA.out.size)
  have hA2 : MoAt w2 w1.heap.size ⟨false, true, ap, true, false, false, bi, ma⟩ := HA.out.below hB2
  have hB2n := recv_below w2 (Obj.cells #[.slice none 0 0, .slice none 0 0, .slice none 0 0] 36)
  generalize w2.alloc (Obj.cells #[.slice none 0 0, .slice none 0 0, .slice none 0 0] 36) = wN at *
  have hBN : Below w.heap.size w wN := hB2'.trans (hB2n.mono hB2'.size)
  have HN := hide (knew_good none none none 0 0 0 [] [] [] wN ⟨none, 0, rfl, by simp, fun h => absurd h (by simp)⟩ (no_typed _) (.inl ⟨rfl, rfl⟩) (by decide) (by simp) (by decide) rfl)
  have HBN := hide hBN
  have HAN := hide (hA2.below hB2n)
  clear hBN hA2 hB2n hB2' hB2 HBA HA HFl
  refine HN.out.mono ?_
  rintro e w3 ⟨kb, rfl, hK, hB3⟩
  have HO := hide (hK.open nmF 14 (by decide) (by show (1 : Nat) < 9223372036854775807; decide))
  rw [no_14] at HO
  have HB3 := hide hB3
  clear hK hB3 HN
  go_wp2_with (first | (go_at_call 20; refine (hn.out _ _).mono ?_; rintro e w' ⟨rfl, rfl⟩) | fail)
  refine HO.out.mono ?_
  rintro e w4 ⟨rfl, hS⟩
  obtain ⟨hK, hB⟩ := hS.at (B := wN.heap.size) (fun _ e => e) HB3.out.size
  have HB4 := hide (HB3.out.trans hB)
  have HK := hide hK
  have HBw4 := hide (HBN.out.trans (HB4.out.mono HBN.out.size))
  obtain ⟨c0, c1', c2, c3, c4, c5, c6, c7⟩ := (HAN.out.below HB4.out).mc
  clear hK hB hS HO HB3
  have hlen : (([] : List UInt8)).length ≤ 1000 := by first | exact hb | decide
  have HFi := hide HK.out.files
  rw [ko_files] at HFi
  go_wp2_with (first | (go_at_call 20; refine (hn.out _ _).mono ?_; rintro e w' ⟨rfl, rfl⟩) | fail)
  refine HFi.out.mono ?_
  rintro e w5 ⟨v5, us, rfl, hO5, hL5, hB5⟩
  have hN5 := nms_of_owns hO5 hL5 (fun j hj => by
    have : j = 0 := by simpa using hj
    subst this
    show nmF.size ≤ maxLen
    decide)
  obtain ⟨a5, c5', rfl⟩ := owns_slice hO5
  obtain ⟨lb, lo, va, vc, rfl, hlb, l0, l1, hly, -, -⟩ := hN5.at 0 (by simp)
  have HL1 := hide l1
  have hK5 := HK.out.below hB5
  have HB5 := hide (HB4.out.trans (hB5.mono HB4.out.size))
  have HRd := hide (hK5.read 1 5 ⟨by decide, by decide⟩ (by show (0 : Nat) < 9223372036854775807; decide))
  rw [ko_noread [] 14 (by decide)] at HRd
  simp only at HRd
  have HO5 := hide (fun j e => (show wN.heap.size ≤ j ∧ j < w4.heap.size from e))
  have hlz : w4.heap.size ≤ lb := (hO5.lt lb rfl).1
  clear hO5 hL5 hB5 hN5 hly hK5 HFi l0 l1 c0 c1' c2 c3 c4 c5 c6 c7
  go_wp2_with fail
  refine HRd.out.mono ?_
  rintro e w6 ⟨v6, rfl, hO6, hK6, hT6⟩
  obtain ⟨a6, c6', rfl⟩ := owns_slice hO6
  have hpl : (([] : List UInt8)).length ≤ 5 := by simp
  have hB6 : Below wN.heap.size wN w6 := HB5.out.trans (hT6.below (fun j e => e.1) HB5.out.size)
  have l6 := cell_keep hT6 HL1.out (fun e => by have := (show wN.heap.size ≤ lb ∧ lb < w4.heap.size from e).2; omega)
  have HL6 := hide l6
  have hlb6 := World.block_lt_of_cell? w6 _ l6
  have hKa := hK6.below ((Below.refl w6.heap.size w6).alloc (Nat.le_refl _) (Obj.cells #[.int .u8 1] 5))
  have hya : Bys (w6.alloc (Obj.cells #[.int .u8 1] 5)) (.slice (some ⟨w6.heap.size, 0, none⟩) 1 1) [1] := .inr (.inr ⟨w6.heap.size, 0, 1, rfl, by decide, fun j hj => by
    have : j = 0 := by simpa using hj
    subst this
    rw [cell_of_row _ _ 0 _ _ _ (heap_alloc_new _ _)]
    rfl⟩)
  have hz6 := hT6.size
  have hz4 := HB4.out.size
  have HWr := hide (hKa.write 1 [1] (some ⟨w6.heap.size, 0, none⟩) 1 ⟨by decide, by decide⟩ (by show (0 : Nat) < 9223372036854775807; decide) hya (by decide) (by decide) (fun _ k hk e => by
    cases hk
    have h9 := (show wN.heap.size ≤ w6.heap.size ∧ w6.heap.size < w4.heap.size from e).2
    have := HB5.out.size
    omega))
  have hwv := ko_write [] 14 0 0 (by decide) hlen (by omega)
  rw [hwv.1, hwv.2] at HWr
  have HB6 := hide hB6
  have Hpl := hide hpl
  clear hwv hya hKa hK6 hT6 l6 hB6 hO6 HRd
  go_wp2_with fail
  refine HWr.out.mono ?_
  rintro e w7 ⟨rfl, hS7⟩
  have hT7 := hS7.turned
  have hBa : Below wN.heap.size wN (w6.alloc (Obj.cells #[.int .u8 1] 5)) := HB6.out.alloc HB6.out.size _
  have hB7 : Below wN.heap.size wN w7 := hBa.trans (hT7.below (fun j e => e.1) hBa.size)
  have l7 := cell_keep hT7 ((((Below.refl w6.heap.size w6).alloc (Nat.le_refl _) (Obj.cells #[.int .u8 1] 5)).cell (p := ⟨lb, lo + 0 * 2 + 1, none⟩) hlb6).trans HL6.out) (fun e => by have := (show wN.heap.size ≤ lb ∧ lb < w4.heap.size from e).2; omega)
  obtain ⟨c0, c1', c2, c3, c4, c5, c6, c7⟩ := (HAN.out.below hB7).mc
  have HB7 := hide (HBN.out.trans (hB7.mono HBN.out.size))
  have hpi : ((([] : List UInt8)).length : Int) ≤ 5 := by have := Hpl.out; omega
  clear hT7 hB7 hBa hS7 HWr
  simp only [Nat.zero_mul, Nat.add_zero] at l7
  go_wp2_with (first | (go_at_call 20; refine (hn.out _ _).mono ?_; rintro e w' ⟨rfl, rfl⟩) | fail)
  go_quiet ((go_at_call 20; exact Calls.quiet_of_same ((hn.out _ _).mono fun _ _ ⟨a, b⟩ => ⟨a, b.symm⟩)))
  go_wp2
  go_ret
  exact ⟨rfl, below_drewN HB7.out _⟩
set_option maxRecDepth 100000 in
set_option maxHeartbeats 4000000 in
theorem opens_n15 (s : ByteArray) (a1 : Option Addr) (c1 : Nat) (b : List UInt8) (y : Mo) (n : Nat) (w : World) (hs : s.size ≤ maxLen) (h1 : Bys w (.slice a1 b.length c1) b) (_m1 : b.length ≤ c1) (hb : b.length ≤ 1000) (hp : prs mo0 0 s.data.toList = (y, 0, n)) (hc : chkM y = 0) (hf : flK y 6 = 15) (hrd : y.rd = true) (hwr : y.wr = true) (hcr : y.cr = true) (htr : y.tr = false) (hex : y.ex = false) :
    Calls Tryz.prog 4 #[.string s, .bool false, .slice a1 b.length c1] w fun e w' => e = .returned (.bool true) ∧ Below w.heap.size w w' := by
  have HPr := hide (fun w => oparse_any s w hs)
  rw [hp] at HPr
  have HFl := hide (oflags_any y)
  rw [hc, show flg y = flK y 6 by simp [flg, hc], hf] at HFl
  simp only [mv, hrd, hwr, hcr, htr, hex] at HPr HFl
  have H1 := hide h1
  have hn := hide num_op
  clear hp hc hf hrd hwr hcr htr hex h1
  generalize y.ap = ap at *
  generalize y.bi = bi at *
  generalize y.ma = ma at *
  go_enter Tryz.func4, Tryz.ntmps4
  go_wp2_with fail
  refine (oalive_any _).mono ?_
  rintro e0 w0 ⟨rfl, hB0⟩
  go_wp2_with fail
  refine (HPr.out _).mono ?_
  rintro e1 w1 ⟨rfl, hB1⟩
  have hA : MoAt (w1.alloc (Obj.cells (mc ⟨true, true, ap, true, false, false, bi, ma⟩) 53)) w1.heap.size ⟨true, true, ap, true, false, false, bi, ma⟩ := heap_alloc_new _ _
  have hBB := hB0.trans (hB1.mono hB0.size)
  have hBA := hBB.alloc hBB.size (Obj.cells (mc ⟨true, true, ap, true, false, false, bi, ma⟩) 53)
  have HA := hide hA
  have HBA := hide hBA
  clear hA hBA hBB hB0 hB1 HPr
  have hb' : ¬ (1000 : Int) < (b.length : Int) := by omega
  go_wp2_with (first | (go_at_call 20; refine (hn.out _ _).mono ?_; rintro e w' ⟨rfl, rfl⟩) | (go_at_call 21; refine (HFl.out _).mono ?_; rintro e2 w2 ⟨rfl, hB2⟩) | fail)
  have hB2' : Below w.heap.size w w2 := HBA.out.trans (hB2.mono HBA.out.size)
  have hA2 : MoAt w2 w1.heap.size ⟨true, true, ap, true, false, false, bi, ma⟩ := HA.out.below hB2
  have hB2n := recv_below w2 (Obj.cells #[.slice none 0 0, .slice none 0 0, .slice none 0 0] 36)
  generalize w2.alloc (Obj.cells #[.slice none 0 0, .slice none 0 0, .slice none 0 0] 36) = wN at *
  have hBN : Below w.heap.size w wN := hB2'.trans (hB2n.mono hB2'.size)
  have HN := hide (knew_good none none none 0 0 0 [] [] [] wN ⟨none, 0, rfl, by simp, fun h => absurd h (by simp)⟩ (no_typed _) (.inl ⟨rfl, rfl⟩) (by decide) (by simp) (by decide) rfl)
  have HBN := hide hBN
  have HAN := hide (hA2.below hB2n)
  clear hBN hA2 hB2n hB2' hB2 HBA HA HFl
  refine HN.out.mono ?_
  rintro e w3 ⟨kb, rfl, hK, hB3⟩
  have HO := hide (hK.open nmF 15 (by decide) (by show (1 : Nat) < 9223372036854775807; decide))
  rw [no_15] at HO
  have HB3 := hide hB3
  clear hK hB3 HN
  go_wp2_with (first | (go_at_call 20; refine (hn.out _ _).mono ?_; rintro e w' ⟨rfl, rfl⟩) | fail)
  refine HO.out.mono ?_
  rintro e w4 ⟨rfl, hS⟩
  obtain ⟨hK, hB⟩ := hS.at (B := wN.heap.size) (fun _ e => e) HB3.out.size
  have HB4 := hide (HB3.out.trans hB)
  have HK := hide hK
  have HBw4 := hide (HBN.out.trans (HB4.out.mono HBN.out.size))
  obtain ⟨c0, c1', c2, c3, c4, c5, c6, c7⟩ := (HAN.out.below HB4.out).mc
  clear hK hB hS HO HB3
  have hlen : (([] : List UInt8)).length ≤ 1000 := by first | exact hb | decide
  have HFi := hide HK.out.files
  rw [ko_files] at HFi
  go_wp2_with (first | (go_at_call 20; refine (hn.out _ _).mono ?_; rintro e w' ⟨rfl, rfl⟩) | fail)
  refine HFi.out.mono ?_
  rintro e w5 ⟨v5, us, rfl, hO5, hL5, hB5⟩
  have hN5 := nms_of_owns hO5 hL5 (fun j hj => by
    have : j = 0 := by simpa using hj
    subst this
    show nmF.size ≤ maxLen
    decide)
  obtain ⟨a5, c5', rfl⟩ := owns_slice hO5
  obtain ⟨lb, lo, va, vc, rfl, hlb, l0, l1, hly, -, -⟩ := hN5.at 0 (by simp)
  have HL1 := hide l1
  have hK5 := HK.out.below hB5
  have HB5 := hide (HB4.out.trans (hB5.mono HB4.out.size))
  have HRd := hide (hK5.read 1 5 ⟨by decide, by decide⟩ (by show (0 : Nat) < 9223372036854775807; decide))
  rw [ko_read [] 15 (by decide)] at HRd
  simp only at HRd
  have HO5 := hide (fun j e => (show wN.heap.size ≤ j ∧ j < w4.heap.size from e))
  have hlz : w4.heap.size ≤ lb := (hO5.lt lb rfl).1
  clear hO5 hL5 hB5 hN5 hly hK5 HFi l0 l1 c0 c1' c2 c3 c4 c5 c6 c7
  go_wp2_with fail
  refine HRd.out.mono ?_
  rintro e w6 ⟨v6, rfl, hO6, hK6, hT6⟩
  obtain ⟨a6, c6', rfl⟩ := owns_slice hO6
  have hpl : (piece [] 0 5).length ≤ 5 := by have := piece_len [] 0 5; omega
  have hB6 : Below wN.heap.size wN w6 := HB5.out.trans (hT6.below (fun j e => e.1) HB5.out.size)
  have l6 := cell_keep hT6 HL1.out (fun e => by have := (show wN.heap.size ≤ lb ∧ lb < w4.heap.size from e).2; omega)
  have HL6 := hide l6
  have hlb6 := World.block_lt_of_cell? w6 _ l6
  have hKa := hK6.below ((Below.refl w6.heap.size w6).alloc (Nat.le_refl _) (Obj.cells #[.int .u8 1] 5))
  have hya : Bys (w6.alloc (Obj.cells #[.int .u8 1] 5)) (.slice (some ⟨w6.heap.size, 0, none⟩) 1 1) [1] := .inr (.inr ⟨w6.heap.size, 0, 1, rfl, by decide, fun j hj => by
    have : j = 0 := by simpa using hj
    subst this
    rw [cell_of_row _ _ 0 _ _ _ (heap_alloc_new _ _)]
    rfl⟩)
  have hz6 := hT6.size
  have hz4 := HB4.out.size
  have HWr := hide (hKa.write 1 [1] (some ⟨w6.heap.size, 0, none⟩) 1 ⟨by decide, by decide⟩ (by show (0 : Nat) < 9223372036854775807; decide) hya (by decide) (by decide) (fun _ k hk e => by
    cases hk
    have h9 := (show wN.heap.size ≤ w6.heap.size ∧ w6.heap.size < w4.heap.size from e).2
    have := HB5.out.size
    omega))
  have hwv := ko_write [] 15 (piece [] 0 5).length 1 (by decide) hlen (by omega)
  rw [hwv.1, hwv.2] at HWr
  have HB6 := hide hB6
  have Hpl := hide hpl
  clear hwv hya hKa hK6 hT6 l6 hB6 hO6 HRd
  go_wp2_with fail
  refine HWr.out.mono ?_
  rintro e w7 ⟨rfl, hS7⟩
  have hT7 := hS7.turned
  have hBa : Below wN.heap.size wN (w6.alloc (Obj.cells #[.int .u8 1] 5)) := HB6.out.alloc HB6.out.size _
  have hB7 : Below wN.heap.size wN w7 := hBa.trans (hT7.below (fun j e => e.1) hBa.size)
  have l7 := cell_keep hT7 ((((Below.refl w6.heap.size w6).alloc (Nat.le_refl _) (Obj.cells #[.int .u8 1] 5)).cell (p := ⟨lb, lo + 0 * 2 + 1, none⟩) hlb6).trans HL6.out) (fun e => by have := (show wN.heap.size ≤ lb ∧ lb < w4.heap.size from e).2; omega)
  obtain ⟨c0, c1', c2, c3, c4, c5, c6, c7⟩ := (HAN.out.below hB7).mc
  have HB7 := hide (HBN.out.trans (hB7.mono HBN.out.size))
  have hpi : ((piece [] 0 5).length : Int) ≤ 5 := by have := Hpl.out; omega
  clear hT7 hB7 hBa hS7 HWr
  simp only [Nat.zero_mul, Nat.add_zero] at l7
  go_wp2_with (first | (go_at_call 20; refine (hn.out _ _).mono ?_; rintro e w' ⟨rfl, rfl⟩) | fail)
  go_quiet ((go_at_call 20; exact Calls.quiet_of_same ((hn.out _ _).mono fun _ _ ⟨a, b⟩ => ⟨a, b.symm⟩)))
  go_wp2
  go_ret
  exact ⟨rfl, below_drewN HB7.out _⟩
end Go.Proofs.YtkgbhcpeoaefjaaGreat

/- OpenmodeOpens, walked. -/
namespace Go.Proofs.YtkgbhcpeoaefjaaGreat
open Go.RowKit Go.Maps

set_option maxRecDepth 100000 in
set_option maxHeartbeats 2000000 in
theorem opens_bad (s : ByteArray) (th : Bool) (a1 : Option Addr) (n1 c1 : Nat) (y : Mo) (e : Int) (n : Nat) (w : World) (hs : s.size ≤ maxLen) (hp : prs mo0 0 s.data.toList = (y, e, n)) (he : e ≠ 0 ∨ 1000 < n1) :
    Calls Tryz.prog 4 #[.string s, .bool th, .slice a1 n1 c1] w fun e w' => e = .returned (.bool true) ∧ Below w.heap.size w w' := by
  have HPr := hide (fun w => oparse_any s w hs)
  rw [hp] at HPr
  simp only [mv] at HPr
  have hn := hide num_op
  clear hp
  by_cases h0 : e = 0
  · subst h0
    have hl : (1000 : Int) < (n1 : Int) := by omega
    clear he
    go_enter Tryz.func4, Tryz.ntmps4
    go_wp2_with fail
    refine (oalive_any _).mono ?_
    rintro e0 w0 ⟨rfl, hB0⟩
    go_wp2_with fail
    refine (HPr.out _).mono ?_
    rintro e1 w1 ⟨rfl, hB1⟩
    have hBB := hB0.trans (hB1.mono hB0.size)
    have HB := hide hBB
    clear hBB hB0 hB1
    go_wp2_with (first | (go_at_call 20; refine (hn.out _ _).mono ?_; rintro e w' ⟨rfl, rfl⟩) | fail)
    go_ret
    exact ⟨rfl, HB.out.alloc HB.out.size _⟩
  · clear he
    go_enter Tryz.func4, Tryz.ntmps4
    go_wp2_with fail
    refine (oalive_any _).mono ?_
    rintro e0 w0 ⟨rfl, hB0⟩
    go_wp2_with fail
    refine (HPr.out _).mono ?_
    rintro e1 w1 ⟨rfl, hB1⟩
    have hBB := hB0.trans (hB1.mono hB0.size)
    have HB := hide hBB
    clear hBB hB0 hB1
    go_wp2_with (first | (go_at_call 20; refine (hn.out _ _).mono ?_; rintro e w' ⟨rfl, rfl⟩) | fail)
    go_ret
    exact ⟨rfl, HB.out.alloc HB.out.size _⟩
theorem opens_any (s : ByteArray) (th : Bool) (a1 : Option Addr) (n1 c1 : Nat) (b : List UInt8) (w : World) (hs : s.size ≤ maxLen) (h1 : Bys w (.slice a1 n1 c1) b) (m1 : b.length ≤ c1) :
    Calls Tryz.prog 4 #[.string s, .bool th, .slice a1 n1 c1] w fun e w' => e = .returned (.bool true) ∧ Below w.heap.size w w' := by
  obtain rfl := Kp_bys_len h1
  generalize hp : prs mo0 0 s.data.toList = q
  obtain ⟨y, e, n⟩ := q
  by_cases he : e ≠ 0 ∨ 1000 < b.length
  · exact opens_bad s th a1 _ c1 y e n w hs hp he
  have e0 : e = 0 := Classical.byContradiction fun h => he (.inl h)
  subst e0
  have hb : b.length ≤ 1000 := by
    have : ¬ 1000 < b.length := fun h => he (.inr h)
    omega
  have hc := (text_back hp).1
  cases th with
  | true =>
    rcases mode_is y hc with ⟨hf, a, b', c, d, e⟩ | ⟨hf, a, b', c, d, e⟩ | ⟨hf, a, b', c, d, e⟩ | ⟨hf, a, b', c, d, e⟩ | ⟨hf, a, b', c, d, e⟩ | ⟨hf, a, b', c, d, e⟩ | ⟨hf, a, b', c, d, e⟩ | ⟨hf, a, b', c, d, e⟩
    · exact opens_t1 s a1 c1 b y n w hs h1 m1 hb hp hc hf a b' c d e
    · exact opens_t3 s a1 c1 b y n w hs h1 m1 hb hp hc hf a b' c d e
    · exact opens_t26 s a1 c1 b y n w hs h1 m1 hb hp hc hf a b' c d e
    · exact opens_t27 s a1 c1 b y n w hs h1 m1 hb hp hc hf a b' c d e
    · exact opens_t58 s a1 c1 b y n w hs h1 m1 hb hp hc hf a b' c d e
    · exact opens_t59 s a1 c1 b y n w hs h1 m1 hb hp hc hf a b' c d e
    · exact opens_t14 s a1 c1 b y n w hs h1 m1 hb hp hc hf a b' c d e
    · exact opens_t15 s a1 c1 b y n w hs h1 m1 hb hp hc hf a b' c d e
  | false =>
    rcases mode_is y hc with ⟨hf, a, b', c, d, e⟩ | ⟨hf, a, b', c, d, e⟩ | ⟨hf, a, b', c, d, e⟩ | ⟨hf, a, b', c, d, e⟩ | ⟨hf, a, b', c, d, e⟩ | ⟨hf, a, b', c, d, e⟩ | ⟨hf, a, b', c, d, e⟩ | ⟨hf, a, b', c, d, e⟩
    · exact opens_n1 s a1 c1 b y n w hs h1 m1 hb hp hc hf a b' c d e
    · exact opens_n3 s a1 c1 b y n w hs h1 m1 hb hp hc hf a b' c d e
    · exact opens_n26 s a1 c1 b y n w hs h1 m1 hb hp hc hf a b' c d e
    · exact opens_n27 s a1 c1 b y n w hs h1 m1 hb hp hc hf a b' c d e
    · exact opens_n58 s a1 c1 b y n w hs h1 m1 hb hp hc hf a b' c d e
    · exact opens_n59 s a1 c1 b y n w hs h1 m1 hb hp hc hf a b' c d e
    · exact opens_n14 s a1 c1 b y n w hs h1 m1 hb hp hc hf a b' c d e
    · exact opens_n15 s a1 c1 b y n w hs h1 m1 hb hp hc hf a b' c d e
end Go.Proofs.YtkgbhcpeoaefjaaGreat

/- OpenmodeOpens answers true for every text, every file and none: a mode's flags are such as the kernel takes, and do what the mode says; the text and the bytes read afterwards as they read before; no condition. -/
namespace Go.Proofs.YtkgbhcpeoaefjaaGreat.openmodeOpens
open Go.ChangeShapes Go.WideShapes Go.ChangeAt Go.RowKit
open Go.ChangeMaps (open_string shut_string)
set_option linter.unusedVariables false

theorem own : ownKnob Tryz.prog.godebug = none := by kernel_rfl
theorem laidOut : laidOutB Tryz.prog = true := by kernel_rfl

set_option maxRecDepth 100000 in
theorem lifted (os : Os) (started : os.Started) (H : Type) (enc : TypeId × Value → H) :
    ReturnsInHanded {} Tryz.checked os 4 .any (Rows.openmodeOpensSpec.pre6 enc Tryz.prog Tryz.f4 Rows.openmodeOpensRow.domain false) (Rows.openmodeOpensSpec.post enc Tryz.prog Tryz.f4 false true false false) := by
  refine returnsInHanded_of_change_sized (C := Tryz.checked) own started (by kernel_rfl) Tryz.func4
    (ChangeSpec.witness6 (enc := enc) (C := Tryz.checked) false ⟨#[], #[.string ByteArray.empty, .bool false, .slice none 0 0], []⟩ 8 (by kernel_rfl) (by kernel_rfl) (by kernel_rfl) (by kernel_rfl)) ?_
  intro W base args ds gs before hval0 hW hcnd0 hsz0 _
  have hsz : (DataW.weightsEach Tryz.prog (Tryz.f4.params.toList ++ Rows.openmodeOpensSpec.plain.varTypes Tryz.prog) (ds ++ gs)).all (· ≤ reachBytes) = true := hsz0
  clear hsz0
  have hval : ∀ (j : Nat) t v, Tryz.f4.params[j]? = some t → args[j]? = some v → Value.okWide Tryz.prog W .any base t v := hval0
  have hW' := hW
  obtain ⟨p, q, hA0, hV, rfl, hfz, hnd⟩ := hW
  have hA : DataW.TrodAll enc Tryz.prog W 0 (fun _ => true) true Tryz.f4.params.toList args.toList ds p := hA0
  rw [Tryz.params4] at hA hval hsz
  obtain ⟨v0, vs0, d0, ds0, p0, q0, hargs, rfl, rfl, h0, r0⟩ := trodAll_cons hA
  obtain ⟨v1, vs1, d1, ds1, p1, q1, rfl, rfl, rfl, h1, r1⟩ := trodAll_cons r0
  obtain ⟨v2, vs2, d2, ds2, p2, q2, rfl, rfl, rfl, h2, r2⟩ := trodAll_cons r1
  obtain ⟨rfl, rfl, rfl⟩ := trodAll_nil r2
  obtain rfl : args = #[v0, v1, v2] := by cases args; simp_all
  obtain ⟨rfl, rfl⟩ := trodVars_none hV
  obtain ⟨a0, rfl, rfl, rfl, w0⟩ := open_string Tryz.underlying9 (hval 0 9 v0 rfl rfl) h0
  have z0 : a0.size ≤ 140737488351232 := by have := sized_string hsz (j := 0) (t := 9) rfl rfl; simpa [reachBytes] using this
  obtain ⟨a1, rfl, rfl, rfl⟩ := open_bool Tryz.underlying4 (hval 1 4 v1 rfl rfl) h1
  obtain ⟨c2, len2, cap2, rfl⟩ := okWide_slice Tryz.underlying28 (hval 2 28 v2 rfl rfl)
  have k2 := h2
  have lt2 : ∀ x ∈ p2, x.block < W.heap.size := by obtain ⟨m, hm⟩ := k2; exact DataW.trod_lt m _ _ _ hm
  obtain ⟨fuel2, hf2⟩ := h2
  obtain ⟨l2, y2, m2, e2⟩ := bytes_arg2 Tryz.underlying28 Tryz.underlying5 (by kernel_rfl) hf2
  have z2 : l2.length ≤ 140737488351232 := by
    rcases e2 with ⟨_, rfl⟩ | ⟨elems, spare, rfl, hll⟩
    · simp
    · have := sized_slice hsz (j := 2) (t := 28) (e := 5) rfl rfl Tryz.underlying28
      rw [show Tryz.prog.bytesOf 5 = 1 by kernel_rfl] at this; simp only [reachBytes] at this; omega
  clear hA0
  refine (opens_any a0 a1 _ _ _ l2 W (by unfold maxLen; omega) y2 m2).mono fun e W' ⟨he, bel⟩ => ?_
  subst he
  exact ⟨_, rfl, _, _, _, [], _, [], hW', trodAll_mk1 (shut_bool Tryz.underlying4 _), (trodAll_cons_mk (shut_string Tryz.underlying9 w0) (trodAll_cons_mk (shut_bool Tryz.underlying4 a1) (trodAll_cons_mk (Below.trod laidOut (by kernel_rfl) (of_decide_eq_true (by kernel_rfl)) k2 bel lt2) trodAll_mk0))), rfl, bel.frame _, fun h => by cases h⟩

theorem over : Rows.openmodeOpensRow.holds Tryz.pinned (OpenSpec.ofChange Rows.openmodeOpensSpec) :=
  OpenClaim.holds_of_wide 4 Tryz.f4 rfl rfl rfl rfl rfl rfl rfl ⟨rfl, rfl, rfl, rfl, rfl⟩ rfl rfl rfl rfl rfl (by kernel_rfl) Tryz.func4 (by kernel_rfl)
    (of_decide_eq_true (by kernel_rfl)) (by unfold Func.isWrapper; first | (rw [if_pos (by decide +kernel)]; kernel_rfl) | (rw [if_neg (by decide +kernel)]; exact ⟨rfl, rfl⟩))
    (fun os started H enc _ => lifted os started H enc)
end Go.Proofs.YtkgbhcpeoaefjaaGreat.openmodeOpens
namespace Go.Proofs.YtkgbhcpeoaefjaaGreat
theorem openmodeOpens_holds : Rows.OpenmodeOpensSaid := openmodeOpens.over
#print axioms openmodeOpens_holds
end Go.Proofs.YtkgbhcpeoaefjaaGreat
