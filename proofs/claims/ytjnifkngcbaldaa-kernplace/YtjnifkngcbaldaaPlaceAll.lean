/- KernPlace answers true for all bytes and numbers, within the reach of a machine's memory: what two holders of one description read, by turns, is the file, once; two descriptions of it read it each for itself, and see what the other one writes at once. -/
import Derived.Test.YtjnifkngcbaldaaKM11
import Derived.ProofKit
import Derived.OpenShut
import Derived.ShutString
import Derived.ChangeOld
import Derived.Below
import Derived.SizedLaws
/- KernPlace: the kernel's states, as values. -/
namespace Go.Proofs.Ytjnifkngcbaldaa
open Go.RowKit Go.Maps

def nmF : ByteArray := ⟨#[102]⟩
/-- One file, two descriptions of it: one read by two, one written. -/
def KPl (b : List UInt8) (p1 p2 rd wr : Nat) : KS := ⟨[⟨nmF, .file b⟩], [0], [⟨1, 0, 1, p1, 2⟩, ⟨2, 0, 3, p2, 1⟩], 3, [], rd, wr⟩
theorem pl_check (b : List UInt8) : checkE [(nmF, b)] [] [] = if 1048576 < b.length then 5 else 0 := by
  unfold checkE
  rw [if_neg (by simp)]
  rw [show kfiles [] [(nmF, b)] = if 1048576 < b.length then (5, []) else (0, [nmF]) from rfl]
  split
  · rw [if_neg (by decide)]
  · rw [if_pos rfl]; rfl
theorem pl_open1 (b : List UInt8) : (KS.new [(nmF, b)] [] []).open nmF 1 = (1, 0, ⟨[⟨nmF, .file b⟩], [0], [⟨1, 0, 1, 0, 1⟩], 2, [], 0, 0⟩) := rfl
theorem pl_open2 (b : List UInt8) : (⟨[⟨nmF, .file b⟩], [0], [⟨1, 0, 1, 0, 1⟩], 2, [], 0, 0⟩ : KS).open nmF 3 = (2, 0, ⟨[⟨nmF, .file b⟩], [0], [⟨1, 0, 1, 0, 1⟩, ⟨2, 0, 3, 0, 1⟩], 3, [], 0, 0⟩) := rfl
theorem pl_keep (b : List UInt8) : (⟨[⟨nmF, .file b⟩], [0], [⟨1, 0, 1, 0, 1⟩, ⟨2, 0, 3, 0, 1⟩], 3, [], 0, 0⟩ : KS).keepE 1 = 0 ∧ (⟨[⟨nmF, .file b⟩], [0], [⟨1, 0, 1, 0, 1⟩, ⟨2, 0, 3, 0, 1⟩], 3, [], 0, 0⟩ : KS).keepK 1 = KPl b 0 0 0 0 := ⟨rfl, rfl⟩
theorem nxt_nil {n : Int} (h1 : 1 ≤ n) (h2 : n ≤ 1048576) : nxt [] n = (n, 0) := by simp [nxt]; omega
theorem pl_read (b : List UInt8) (p1 p2 rd wr : Nat) (n : Int) (h1 : 1 ≤ n) (h2 : n ≤ 1048576) : (KPl b p1 p2 rd wr).read 1 n = (piece b p1 n.toNat, 0, KPl b (p1 + (piece b p1 n.toNat).length) p2 (rd + 1) wr) := by
  have hx : (KPl b p1 p2 rd wr).find 1 = some ⟨1, 0, 1, p1, 2⟩ := rfl
  rw [read_is hx (by show fbit 1 1 ≠ 0; decide) h1 h2 rfl]
  have e : nxt (KPl b p1 p2 rd wr).plan n = (n, 0) := nxt_nil h1 h2
  rw [e, if_pos rfl]
  rfl
theorem pl_write (b x : List UInt8) (p1 rd wr : Nat) (h1 : 1 ≤ x.length) (h2 : x.length ≤ 1048576) : (KPl b p1 0 rd wr).write 2 x = ((x.length : Int), 0, KPl (wrL b 0 x) p1 x.length rd (wr + 1)) := by
  have hx : (KPl b p1 0 rd wr).find 2 = some ⟨2, 0, 3, 0, 1⟩ := rfl
  have hr : refusal ((KPl b p1 0 rd wr).tho ⟨2, 0, 3, 0, 1⟩) 3 0 x.length = 0 := rfl
  rw [write_is hx (by show fbit 3 2 ≠ 0; decide) h1 h2 hr]
  have e : nxt (KPl b p1 0 rd wr).plan x.length = ((x.length : Int), 0) := nxt_nil (by omega) (by omega)
  rw [e, if_pos rfl]
  have hm : min x.length (1048576 - placeOf b 3 0) = x.length := by
    rw [show placeOf b 3 0 = 0 from rfl]; omega
  show (KPl b p1 0 rd wr).writeUp.wrx ⟨2, 0, 3, 0, 1⟩ x x.length = _
  rw [show (KPl b p1 0 rd wr).writeUp.wrx ⟨2, 0, 3, 0, 1⟩ x x.length = (((min x.length (1048576 - placeOf b 3 0) : Nat) : Int), 0, ((KPl b p1 0 rd wr).writeUp.setOb 0 (.file (wrL b (placeOf b 3 0) (x.take (min x.length (1048576 - placeOf b 3 0)))))).setDe ⟨2, 0, 3, placeOf b 3 0 + min x.length (1048576 - placeOf b 3 0), 1⟩) from rfl]
  rw [hm, show placeOf b 3 0 = 0 from rfl, List.take_length, Nat.zero_add]
  rfl
theorem pl_writeN (b x : List UInt8) (p1 rd wr : Nat) (h : x.length = 0 ∨ 1048576 < x.length) : ((KPl b p1 0 rd wr).write 2 x).1 = 0 := by
  have hx : (KPl b p1 0 rd wr).find 2 = some ⟨2, 0, 3, 0, 1⟩ := rfl
  unfold KS.write
  rw [hx]
  simp only
  rw [if_neg (by decide)]
  rcases h with h | h
  · rw [if_neg (by omega), if_pos h]
  · rw [if_pos h]
theorem pl_seek (b : List UInt8) (p1 p2 rd wr : Nat) : (KPl b p1 p2 rd wr).seek 1 0 0 = (0, 0, KPl b 0 p2 rd wr) := rfl
theorem pl_back (b x : List UInt8) (h2 : x.length ≤ 1048576) : piece (wrL b 0 x) 0 x.length = x := by
  unfold wrL
  have : Fi_wrE 0 x.length = 0 := wr_fits (at' := 0) (by omega)
  rw [if_pos this]
  by_cases hx : x = []
  · subst hx; simp [piece]
  · simp [piece, lay, hx]
theorem ktmod_bound (x k : Int) (hk : 0 < k) : -k < x.tmod k ∧ x.tmod k < k := by
  have h2 : ∀ y : Int, 0 ≤ y → 0 ≤ y.tmod k ∧ y.tmod k < k := fun y h => by
    rw [Int.tmod_eq_emod_of_nonneg h]
    exact ⟨Int.emod_nonneg _ (by omega), Int.emod_lt_of_pos _ hk⟩
  rcases Int.le_total 0 x with h | h
  · have := h2 x h; omega
  · have h3 := h2 (-x) (by omega)
    rw [Int.neg_tmod] at h3
    omega
theorem krem_twice (full k : Int) (hk : 0 < k) (hk2 : k ≤ 1048576) : ∃ m : Nat, (wrap64 (full.tmod k + k)).tmod k = (m : Int) ∧ (m : Int) < k := by
  have h1 := ktmod_bound full k hk
  have h2 : wrap64 (full.tmod k + k) = full.tmod k + k := by unfold wrap64; omega
  rw [h2, Int.tmod_eq_emod_of_nonneg (by omega)]
  have h3 := Int.emod_nonneg (full.tmod k + k) (b := k) (by omega)
  have h4 := Int.emod_lt_of_pos (full.tmod k + k) hk
  exact ⟨((full.tmod k + k) % k).toNat, by omega, by omega⟩
theorem take_piece {b : List UInt8} {p n : Nat} (hp : p ≤ b.length) : b.take p ++ piece b p n = b.take (p + (piece b p n).length) := by
  rw [piece_len]
  unfold piece
  rw [← List.take_add]
  by_cases h : n ≤ b.length - p
  · rw [Nat.min_eq_left h]
  · rw [Nat.min_eq_right (by omega), List.take_of_length_le (by omega), List.take_of_length_le (by omega)]
end Go.Proofs.Ytjnifkngcbaldaa

/- KernPlace, walked. -/
namespace Go.Proofs.Ytjnifkngcbaldaa
open Go.RowKit Go.Maps


/-- What Write answers of no bytes, or of too many. -/
theorem pl_puts_none {w : World} {B kb p k c3 : Nat} {O : Nat → Prop} {b x : List UInt8} {a3 : Option Addr} (h : KAt w O kb (KPl b p 0 k 0)) (hO : ∀ j, O j → B ≤ j) (hB : B ≤ w.heap.size) (h3 : Bys w (.slice a3 x.length c3) x) (m3 : x.length ≤ c3) (z3 : x.length ≤ 140737488351232) (hap : 0 < x.length → ∀ j, (Value.slice a3 x.length c3).ownBlock = some j → ¬ O j) (hx : x.length = 0 ∨ 1048576 < x.length) :
    Calls Try.prog 14 #[.pointer (some ⟨kb, 0, none⟩), .int .i64 2, .slice a3 x.length c3] w fun e w' => ∃ E, e = .returned (.tuple #[.int .i64 0, .int .i64 E]) ∧ Below B w w' := by
  refine (h.write 2 x a3 c3 ⟨by decide, by decide⟩ (by show (0 : Nat) < 9223372036854775807; decide) h3 m3 (by omega) hap).mono fun e w' ⟨h1, h2⟩ => ?_
  rw [pl_writeN b x p k 0 hx] at h1
  exact ⟨_, h1, (h2.at (B := B) hO hB).2⟩
/-- What Write answers of others. -/
theorem pl_puts_some {w : World} {B kb p k c3 : Nat} {O : Nat → Prop} {b x : List UInt8} {a3 : Option Addr} (h : KAt w O kb (KPl b p 0 k 0)) (hO : ∀ j, O j → B ≤ j) (hB : B ≤ w.heap.size) (h3 : Bys w (.slice a3 x.length c3) x) (m3 : x.length ≤ c3) (hap : 0 < x.length → ∀ j, (Value.slice a3 x.length c3).ownBlock = some j → ¬ O j) (hx1 : 1 ≤ x.length) (hx2 : x.length ≤ 1048576) :
    Calls Try.prog 14 #[.pointer (some ⟨kb, 0, none⟩), .int .i64 2, .slice a3 x.length c3] w fun e w' => e = .returned (.tuple #[.int .i64 (x.length : Int), .int .i64 0]) ∧ KAt w' (fun j => B ≤ j ∧ j < w'.heap.size) kb (KPl (wrL b 0 x) p x.length k 1) ∧ Below B w w' := by
  refine (h.write 2 x a3 c3 ⟨by decide, by decide⟩ (by show (0 : Nat) < 9223372036854775807; decide) h3 m3 (by omega) hap).mono fun e w' ⟨h1, h2⟩ => ?_
  rw [pl_write b x p k 0 hx1 hx2] at h1 h2
  exact ⟨h1, h2.at (B := B) hO hB⟩
set_option maxRecDepth 100000 in
set_option maxHeartbeats 8000000 in
theorem kernPlace_any (a1 a2 a3 : Option Addr) (n1 n2 n3 c1 c2 c3 : Nat) (b x : List UInt8) (cuts : List Int) (w : World) (h1 : Bys w (.slice a1 n1 c1) b) (m1 : b.length ≤ c1) (h2 : Fa_Ints w (.slice a2 n2 c2) cuts) (h3 : Bys w (.slice a3 n3 c3) x) (m3 : x.length ≤ c3) (z1 : b.length ≤ 140737488351232) (z2 : cuts.length ≤ 140737488351232) (z3 : x.length ≤ 140737488351232) :
    Calls Try.prog 3 #[.slice a1 n1 c1, .slice a2 n2 c2, .slice a3 n3 c3] w fun e w' => e = .returned (.bool true) ∧ Below w.heap.size w w' := by
  obtain rfl := Kp_bys_len h1
  obtain rfl := Kp_bys_len h3
  obtain ⟨a2', c2', he2, hcu⟩ := h2
  obtain ⟨rfl, rfl, rfl⟩ : a2 = a2' ∧ n2 = cuts.length ∧ c2 = c2' := by simpa using he2
  have HCu := hide hcu
  have H1 := hide h1
  have H3 := hide h3
  clear hcu he2
  have HAl := hide (alive_any w)
  clear h1 h3
  go_enter Try.func3, Try.ntmps3
  go_wp2_with fail
  refine HAl.out.mono ?_
  rintro e w1 ⟨rfl, hB1⟩
  have hsz1 := hB1.size
  have hBn := recv_below w1 (Obj.cells #[.string ⟨#[102]⟩, .slice a1 b.length c1] 30)
  obtain ⟨p0, p1⟩ := pair_cells w1 (.string ⟨#[102]⟩) (.slice a1 b.length c1) 30
  have hN : Nms (w1.alloc (Obj.cells #[.string ⟨#[102]⟩, .slice a1 b.length c1] 30)) (.slice (some ⟨w1.heap.size, 0, none⟩) 1 1) [(nmF, b)] := one_named p0 p1 ((H1.out.below hB1).below hBn) m1 (by decide)
  have hF0 : Flts (w1.alloc (Obj.cells #[.string ⟨#[102]⟩, .slice a1 b.length c1] 30)) (.slice none 0 0) [] := .inl ⟨rfl, rfl⟩
  have hBw : Below w.heap.size w (w1.alloc (Obj.cells #[.string ⟨#[102]⟩, .slice a1 b.length c1] 30)) := hB1.trans (hBn.mono hsz1)
  by_cases hb : 1048576 < b.length
  · have HN := hide (knew_bad (some ⟨w1.heap.size, 0, none⟩) none none 1 0 0 [(nmF, b)] [] [] _ hN (no_typed _) hF0 (by decide) (by simp) (by decide) (by rw [pl_check, if_pos hb]; decide))
    rw [pl_check, if_pos hb] at HN
    have hb' : (1048576 : Int) < (b.length : Int) := by omega
    have HB := hide hBw
    clear hN hF0 p0 p1 hBn hBw
    go_wp2_with fail
    refine HN.out.mono ?_
    rintro e w2 ⟨rfl, hB2⟩
    go_wp2
    go_ret
    exact ⟨rfl, HB.out.trans (hB2.mono HB.out.size)⟩
  · have HN := hide (knew_good (some ⟨w1.heap.size, 0, none⟩) none none 1 0 0 [(nmF, b)] [] [] _ hN (no_typed _) hF0 (by decide) (by simp) (by decide) (by rw [pl_check, if_neg hb]))
    have HB := hide hBw
    clear hN hF0 p0 p1 hBn hBw
    go_wp2_with fail
    refine HN.out.mono ?_
    rintro e w2 ⟨kb, rfl, hK, hB2⟩
    have hB2w := HB.out.trans (hB2.mono HB.out.size)
    have HB2 := hide hB2w
    have hs2 := hB2w.size
    have HO := hide ((hK.mono (fun k e => Nat.le_trans HB.out.size e)).open nmF 1 (by decide) (by show (1 : Nat) < 9223372036854775807; decide))
    rw [pl_open1] at HO
    clear hK hB2 hB2w
    go_wp2_with (first | (go_at_call 9; refine (num_is _ _).mono ?_; rintro _ _ ⟨rfl, rfl⟩) | fail)
    refine HO.out.mono ?_
    rintro e w3 ⟨rfl, hS⟩
    obtain ⟨hK, hB⟩ := hS.at (B := w.heap.size) (fun _ e => e) hs2
    have HB3 := hide (HB2.out.trans hB)
    have hs3 := HB3.out.size
    have HO2 := hide (hK.open nmF 3 (by decide) (by show (2 : Nat) < 9223372036854775807; decide))
    rw [pl_open2] at HO2
    clear hK hB hS
    go_wp2_with (first | (go_at_call 9; refine (num_is _ _).mono ?_; rintro _ _ ⟨rfl, rfl⟩) | fail)
    refine HO2.out.mono ?_
    rintro e w4 ⟨rfl, hS⟩
    obtain ⟨hK, hB⟩ := hS.at (B := w.heap.size) (fun _ e => e.1) hs3
    have HB4 := hide (HB3.out.trans hB)
    have hs4 := HB4.out.size
    have HKp := hide (hK.keeps 1 ⟨by decide, by decide⟩)
    rw [(pl_keep b).1, (pl_keep b).2] at HKp
    clear hK hB hS
    go_wp2_with (first | (go_at_call 9; refine (num_is _ _).mono ?_; rintro _ _ ⟨rfl, rfl⟩) | fail)
    refine HKp.out.mono ?_
    rintro e w5 ⟨rfl, hS⟩
    obtain ⟨hK, hB⟩ := hS.at (B := w.heap.size) (fun _ e => e.1) hs4
    have HB5 := hide (HB4.out.trans hB)
    have hs5 := HB5.out.size
    have HK5 := hide hK
    clear hK hB hS
    obtain ⟨S5, hS5⟩ : ∃ S5, S5 = w5.heap.size := ⟨_, rfl⟩
    rw [← hS5] at HK5
    have HS5 := hide hS5
    have HLe0 : Hid (w.heap.size ≤ S5) := hide (by omega)
    clear hS5
    go_wp2_with (first | (go_at_call 9; refine (num_is _ _).mono ?_; rintro _ _ ⟨rfl, rfl⟩) | fail)
    go_loopw [13, 14] (fun gv i wr => ∃ (k p : Nat) (G : List UInt8), k ≤ cuts.length ∧ i = .int .i64 k ∧ Hid (wr.ownsRow S5 5 1 gv G.length (G.map bv)) ∧ Hid (KAt wr (fun j => w.heap.size ≤ j ∧ j < S5) kb (KPl b p 0 k 0)) ∧ Hid (G = b.take p) ∧ p ≤ b.length ∧ (k ≤ p ∨ p = b.length) ∧ S5 ≤ wr.heap.size ∧ Below w.heap.size w wr) (fun _ i _ => cuts.length - (intOf i).toNat)
    case atStart => exact ⟨0, 0, [], Nat.zero_le _, rfl, hide (World.ownsRow_nil _ _ _ _), HK5, hide rfl, Nat.zero_le _, .inl (Nat.le_refl _), by rw [HS5.out]; exact Nat.le_refl _, HB5.out⟩
    case round =>
      obtain ⟨k, p, G, hk, rfl, HO, HK, HG, hp, hkp, hs6, hB6⟩ := hrel
      have HLe := HLe0
      clear HK5 HB5 HS5
      obtain ⟨ga, gc, rfl⟩ := owns_slice HO.out
      by_cases hlt : k < cuts.length
      · obtain ⟨cb, off, rfl, hce⟩ := HCu.out (by omega)
        have hc0 := hce k hlt
        have hcl := World.block_lt_of_cell? w _ hc0
        have hc1 := (hB6.cell (p := ⟨cb, off + k, none⟩) hcl).trans hc0
        have hk1 : (0 : Int) ≤ (k : Int) := by omega
        have hk2 : (k : Int) < (cuts.length : Int) := by omega
        generalize cuts.getD k 0 = y at *
        obtain ⟨m, hm, hm9⟩ := krem_twice y 9 (by decide) (by decide)
        have HR := hide (HK.out.read 1 (1 + (m : Int)) ⟨by decide, by decide⟩ (by show k < 9223372036854775807; omega))
        rw [pl_read b p 0 k 0 (1 + (m : Int)) (by omega) (by omega)] at HR
        simp only at HR
        have hpl := piece_len b p (1 + (m : Int)).toNat
        have HTk := hide (take_piece (b := b) (n := (1 + (m : Int)).toNat) hp)
        have htn : (1 + (m : Int)).toNat = 1 + m := by omega
        rw [htn] at hpl
        have hpl2 : (piece b p (1 + (m : Int)).toNat).length = min (1 + m) (b.length - p) := by rw [htn]; exact hpl
        have HPl := hide hpl2
        clear hpl htn hc0 hce hpl2
        generalize piece b p (1 + (m : Int)).toNat = Y at *
        have HKp2 := hide hkp
        clear hkp
        go_wp2_with (first | (go_at_call 9; refine (num_is _ _).mono ?_; rintro _ _ ⟨rfl, rfl⟩) | fail)
        refine HR.out.mono ?_
        rintro e w6 ⟨v, rfl, hO6, hK6, hT6⟩
        obtain ⟨ya, yc, rfl⟩ := owns_slice hO6
        have hs7 := hT6.size
        have HO6 := hide (owns_turned HO.out hT6 (fun j hj hj2 => by have := (HO.out.lt j hj).1; omega))
        obtain ⟨s', w7, hrun, HO7, hg7, hb7⟩ := run_append_bytes w6 22 S5 _ (.slice ya Y.length yc) G Y HO6.out (Bys.of_owns hO6) (by have := HG.out; have := HPl.out; rw [HG.out, List.length_take]; omega) (by omega)
        have HRun := hide hrun
        have HK7 := hide (hK6.keep (W' := w7) (fun j hj _ => hg7.block j (by omega) (fun e => by have := (HO6.out.lt j e.symm).1; omega)) hg7.size)
        have hB7 : Below w.heap.size w w7 := (hB6.trans (hT6.below (fun j e => e.1) hB6.size)).grown hg7 (by have := HLe.out; omega) (fun j e => by have := (HO6.out.lt j e).1; have := HLe.out; omega)
        have hs8 := hg7.size
        have HG7 : Hid (G ++ Y = b.take (p + Y.length)) := hide (by rw [HG.out]; exact HTk.out)
        clear hrun hO6 hK6 hT6 hb7 hg7
        go_wp2_with (first | (go_at_call 9; refine (num_is _ _).mono ?_; rintro _ _ ⟨rfl, rfl⟩) | (at_builtin; refine Lib.wpList_append_run _ rfl _ _ _ _ rfl _ _ rfl rfl _ _ HRun.out ?_) | fail)
        all_goals
          go_roundw
          case rel => exact ⟨k + 1, p + Y.length, G ++ Y, by omega, by go_num, HO7, HK7, HG7, by have := HPl.out; omega, by have := HPl.out; have := HKp2.out; omega, by omega, hB7⟩
          case measure => simp [intOf]; omega
      · have HEnd : Hid (G.length = p ∧ ¬ (b.length : Int) < (G.length : Int) ∧ (¬ (b.length : Int) < (cuts.length : Int) ∨ ((b.length : Int) < (cuts.length : Int) ∧ ¬ (G.length : Int) < (b.length : Int)))) := hide (by
          have : G.length = p := by rw [HG.out, List.length_take]; omega
          refine ⟨this, by omega, by omega⟩)
        have d1 := HEnd.out.2.1
        have hgl : G.length ≤ b.length := by omega
        have hgc : (G.length : Int) ≤ (c1 : Int) := by omega
        have HSm := hide fun W (hW : Below wr.heap.size wr W) => same_any (.slice ga G.length gc) (.slice a1 G.length c1) G W ((Bys.of_owns HO.out).below hW) (by
          have := bys_front ((H1.out.below hB6).below hW) G.length hgl
          rw [HEnd.out.1] at this
          rw [← HG.out] at this
          rw [HEnd.out.1]
          exact this) (by unfold maxLen; omega)
        clear hkp
        have HApart : Hid (0 < x.length → ∀ j, (Value.slice a3 x.length c3).ownBlock = some j → ¬ (w.heap.size ≤ j ∧ j < S5)) := hide (fun h0 j hj e => by
          obtain ⟨_, xb, xo, e2, e3, _⟩ := bys_block H3.out h0
          rw [e2] at hj
          cases hj
          have e' : w.heap.size ≤ xb := e.1
          omega)
        have HPuts : Hid (∀ w9, Below wr.heap.size wr w9 → (x.length = 0 ∨ 1048576 < x.length) → Calls Try.prog 14 #[.pointer (some ⟨kb, 0, none⟩), .int .i64 2, .slice a3 x.length c3] w9 fun e w' => ∃ E, e = .returned (.tuple #[.int .i64 0, .int .i64 E]) ∧ Below w.heap.size w9 w') := hide (fun w9 hB9 hx =>
          pl_puts_none (HK.out.below hB9) (fun j e => e.1) (hB6.trans (hB9.mono hB6.size)).size ((H3.out.below hB6).below hB9) m3 z3 HApart.out hx)
        have HPuts2 : Hid (∀ w9, Below wr.heap.size wr w9 → 1 ≤ x.length → x.length ≤ 1048576 → Calls Try.prog 14 #[.pointer (some ⟨kb, 0, none⟩), .int .i64 2, .slice a3 x.length c3] w9 fun e w' => e = .returned (.tuple #[.int .i64 (x.length : Int), .int .i64 0]) ∧ KAt w' (fun j => w.heap.size ≤ j ∧ j < w'.heap.size) kb (KPl (wrL b 0 x) p x.length k 1) ∧ Below w.heap.size w9 w') := hide (fun w9 hB9 hx1 hx2 =>
          pl_puts_some (HK.out.below hB9) (fun j e => e.1) (hB6.trans (hB9.mono hB6.size)).size ((H3.out.below hB6).below hB9) m3 HApart.out hx1 hx2)
        have HB6 := hide hB6
        have HKb : Hid (k < 9223372036854775807) := hide (by omega)
        have HHx : Hid (x.length = 0 ∨ 1048576 < x.length ∨ (1 ≤ x.length ∧ x.length ≤ 1048576)) := hide (by omega)
        clear hB6 hs6 HApart HK HLe0
        rcases HEnd.out.2.2 with d2 | ⟨d2, d3⟩
        all_goals
          go_wp2_with (first | (go_at_call 9; refine (num_is _ _).mono ?_; rintro _ _ ⟨rfl, rfl⟩) | (go_at_call 13; refine (HSm.out _ (Below.refl _ _)).mono ?_; rintro _ w9 ⟨rfl, hB9⟩) | fail)
          have HB9w : Hid (Below w.heap.size w w9) := hide (HB6.out.trans (hB9.mono HB6.out.size))
          rcases HHx.out with hx | hx | hx
          · have HW := hide (HPuts.out w9 hB9 (.inl hx))
            obtain rfl := List.length_eq_zero_iff.1 hx
            clear hB9 hx HPuts HPuts2 HHx HSm HEnd d1 d2 hgl hgc
            simp only [List.length_nil] at *
            go_wp2_with fail
            refine HW.out.mono ?_
            rintro e w10 ⟨E, rfl, hB10⟩
            have HB10 := hide hB10
            clear hB10
            go_wp2
            go_ret
            exact ⟨rfl, HB9w.out.trans HB10.out⟩
          · have HW := hide (HPuts.out w9 hB9 (.inr hx))
            have hx1 : (1048576 : Int) < (x.length : Int) := by omega
            have hx3 : ¬ x = [] := fun e => by rw [e] at hx; simp at hx
            clear hB9 hx HPuts HPuts2 HHx HSm HEnd d1 d2 hgl hgc
            go_wp2_with fail
            refine HW.out.mono ?_
            rintro e w10 ⟨E, rfl, hB10⟩
            have HB10 := hide hB10
            clear hB10
            go_wp2
            go_ret
            exact ⟨rfl, HB9w.out.trans HB10.out⟩
          · have HW := hide (HPuts2.out w9 hB9 hx.1 hx.2)
            have HX := hide hx
            have hx1 : ¬ (1048576 : Int) < (x.length : Int) := by omega
            have hx4 : ¬ 1048576 < x.length := by omega
            have hx5 : x.length ≤ 1048576 := by omega
            have hx6 : ((x.length : Int) == 0) = false := by rw [beq_eq_false_iff_ne]; omega
            have hx3 : ¬ x = [] := fun e => by rw [e] at hx; simp at hx
            clear hB9 hx HPuts HPuts2 HHx HSm HEnd d1 d2 hgl hgc
            go_wp2_with fail
            refine HW.out.mono ?_
            rintro e w10 ⟨rfl, hK10, hB10⟩
            have HB10 := hide (HB9w.out.trans hB10)
            have HSk := hide (hK10.seek 1 0 0 ⟨by decide, by decide⟩ ⟨by decide, by decide⟩)
            rw [pl_seek] at HSk
            simp only at HSk
            clear hK10 hB10
            go_wp2_with fail
            refine HSk.out.mono ?_
            rintro e w11 ⟨rfl, hS⟩
            obtain ⟨hK11, hB11⟩ := hS.at (B := w.heap.size) (fun _ e => e.1) HB10.out.size
            have HB11 := hide (HB10.out.trans hB11)
            have HRd := hide (hK11.read 1 x.length ⟨by decide, by decide⟩ HKb.out)
            rw [pl_read _ 0 x.length k 1 x.length (by have := HX.out; omega) (by have := HX.out; omega)] at HRd
            simp only [Int.toNat_natCast, pl_back b x HX.out.2] at HRd
            clear hK11 hB11 hS
            go_wp2_with fail
            refine HRd.out.mono ?_
            rintro e w12 ⟨v, rfl, hO12, -, hT12⟩
            obtain ⟨va, vc, rfl⟩ := owns_slice hO12
            have hB12 := HB11.out.trans (hT12.below (fun j e => e.1) HB11.out.size)
            have HSm2 := hide (same_any (.slice va x.length vc) (.slice a3 x.length c3) x w12 (Bys.of_owns hO12) (H3.out.below hB12) (by have := HX.out; unfold maxLen; omega))
            have HB12 := hide hB12
            clear hO12 hT12 hB12
            go_wp2_with (first | (go_at_call 9; refine (num_is _ _).mono ?_; rintro _ _ ⟨rfl, rfl⟩) | (go_at_call 13; refine HSm2.out.mono ?_; rintro _ w13 ⟨rfl, hB13⟩) | fail)
            go_ret
            exact ⟨rfl, HB12.out.trans (hB13.mono HB12.out.size)⟩
end Go.Proofs.Ytjnifkngcbaldaa

/- KernPlace answers true for all bytes and numbers, within the reach of a machine's memory: what two holders of one description read, by turns, is the file, once; two descriptions of it read it each for itself, and see what the other one writes at once. -/
namespace Go.Proofs.Ytjnifkngcbaldaa.kernPlace
open Go.ChangeShapes Go.WideShapes Go.ChangeAt Go.RowKit
open Go.ChangeMaps (open_string shut_string)
set_option linter.unusedVariables false

theorem own : ownKnob Try.prog.godebug = none := by kernel_rfl
theorem laidOut : laidOutB Try.prog = true := by kernel_rfl

set_option maxRecDepth 100000 in
theorem lifted (os : Os) (started : os.Started) (H : Type) (enc : TypeId × Value → H) :
    ReturnsInHanded {} Try.checked os 3 .any (Rows.kernPlaceSpec.pre6 enc Try.prog Try.f3 Rows.kernPlaceRow.domain false) (Rows.kernPlaceSpec.post enc Try.prog Try.f3 false true false false) := by
  refine returnsInHanded_of_change_sized (C := Try.checked) own started (by kernel_rfl) Try.func3
    (ChangeSpec.witness6 (enc := enc) (C := Try.checked) false ⟨#[], #[.slice none 0 0, .slice none 0 0, .slice none 0 0], []⟩ 8 (by kernel_rfl) (by kernel_rfl) (by kernel_rfl) (by kernel_rfl)) ?_
  intro W base args ds gs before hval0 hW hcnd0 hsz0 _
  have hsz : (DataW.weightsEach Try.prog (Try.f3.params.toList ++ Rows.kernPlaceSpec.plain.varTypes Try.prog) (ds ++ gs)).all (· ≤ reachBytes) = true := hsz0
  clear hsz0
  have hval : ∀ (j : Nat) t v, Try.f3.params[j]? = some t → args[j]? = some v → Value.okWide Try.prog W .any base t v := hval0
  have hW' := hW
  obtain ⟨p, q, hA0, hV, rfl, hfz, hnd⟩ := hW
  have hA : DataW.TrodAll enc Try.prog W 0 (fun _ => true) true Try.f3.params.toList args.toList ds p := hA0
  rw [Try.params3] at hA hval hsz
  obtain ⟨v0, vs0, d0, ds0, p0, q0, hargs, rfl, rfl, h0, r0⟩ := trodAll_cons hA
  obtain ⟨v1, vs1, d1, ds1, p1, q1, rfl, rfl, rfl, h1, r1⟩ := trodAll_cons r0
  obtain ⟨v2, vs2, d2, ds2, p2, q2, rfl, rfl, rfl, h2, r2⟩ := trodAll_cons r1
  obtain ⟨rfl, rfl, rfl⟩ := trodAll_nil r2
  obtain rfl : args = #[v0, v1, v2] := by cases args; simp_all
  obtain ⟨rfl, rfl⟩ := trodVars_none hV
  obtain ⟨c0, len0, cap0, rfl⟩ := okWide_slice Try.underlying22 (hval 0 22 v0 rfl rfl)
  have k0 := h0
  have lt0 : ∀ x ∈ p0, x.block < W.heap.size := by obtain ⟨m, hm⟩ := k0; exact DataW.trod_lt m _ _ _ hm
  obtain ⟨fuel0, hf0⟩ := h0
  obtain ⟨l0, y0, m0, e0⟩ := bytes_arg2 Try.underlying22 Try.underlying5 (by kernel_rfl) hf0
  have z0 : l0.length ≤ 140737488351232 := by
    rcases e0 with ⟨_, rfl⟩ | ⟨elems, spare, rfl, hll⟩
    · simp
    · have := sized_slice hsz (j := 0) (t := 22) (e := 5) rfl rfl Try.underlying22
      rw [show Try.prog.bytesOf 5 = 1 by kernel_rfl] at this; simp only [reachBytes] at this; omega
  obtain ⟨c1, len1, cap1, rfl⟩ := okWide_slice Try.underlying23 (hval 1 23 v1 rfl rfl)
  have k1 := h1
  have lt1 : ∀ x ∈ p1, x.block < W.heap.size := by obtain ⟨m, hm⟩ := k1; exact DataW.trod_lt m _ _ _ hm
  obtain ⟨fuel1, hf1⟩ := h1
  obtain ⟨l1, y1, e1⟩ := ints_arg Try.underlying23 Try.underlying3 (by kernel_rfl) hf1
  have z1 : l1.length * 8 ≤ 140737488351232 := by
    rcases e1 with ⟨_, rfl⟩ | ⟨elems, spare, rfl, hll⟩
    · simp
    · have := sized_slice hsz (j := 1) (t := 23) (e := 3) rfl rfl Try.underlying23
      rw [show Try.prog.bytesOf 3 = 8 by kernel_rfl] at this; simp only [reachBytes] at this; omega
  obtain ⟨c2, len2, cap2, rfl⟩ := okWide_slice Try.underlying22 (hval 2 22 v2 rfl rfl)
  have k2 := h2
  have lt2 : ∀ x ∈ p2, x.block < W.heap.size := by obtain ⟨m, hm⟩ := k2; exact DataW.trod_lt m _ _ _ hm
  obtain ⟨fuel2, hf2⟩ := h2
  obtain ⟨l2, y2, m2, e2⟩ := bytes_arg2 Try.underlying22 Try.underlying5 (by kernel_rfl) hf2
  have z2 : l2.length ≤ 140737488351232 := by
    rcases e2 with ⟨_, rfl⟩ | ⟨elems, spare, rfl, hll⟩
    · simp
    · have := sized_slice hsz (j := 2) (t := 22) (e := 5) rfl rfl Try.underlying22
      rw [show Try.prog.bytesOf 5 = 1 by kernel_rfl] at this; simp only [reachBytes] at this; omega
  clear hA0
  refine (kernPlace_any _ _ _ _ _ _ _ _ _ l0 l2 l1 W y0 m0 y1 y2 m2 z0 (by omega) z2).mono fun e W' ⟨he, bel⟩ => ?_
  subst he
  exact ⟨_, rfl, _, _, _, [], _, [], hW', trodAll_mk1 (shut_bool Try.underlying4 _), (trodAll_cons_mk (Below.trod laidOut (by kernel_rfl) (of_decide_eq_true (by kernel_rfl)) k0 bel lt0) (trodAll_cons_mk (Below.trod laidOut (by kernel_rfl) (of_decide_eq_true (by kernel_rfl)) k1 bel lt1) (trodAll_cons_mk (Below.trod laidOut (by kernel_rfl) (of_decide_eq_true (by kernel_rfl)) k2 bel lt2) trodAll_mk0))), rfl, bel.frame _, fun h => by cases h⟩

theorem over : Rows.kernPlaceRow.holds Try.pinned (OpenSpec.ofChange Rows.kernPlaceSpec) :=
  OpenClaim.holds_of_wide 3 Try.f3 rfl rfl rfl rfl rfl rfl rfl ⟨rfl, rfl, rfl, rfl, rfl⟩ rfl rfl rfl rfl rfl (by kernel_rfl) Try.func3 (by kernel_rfl)
    (of_decide_eq_true (by kernel_rfl)) (by unfold Func.isWrapper; first | (rw [if_pos (by decide +kernel)]; kernel_rfl) | (rw [if_neg (by decide +kernel)]; exact ⟨rfl, rfl⟩))
    (fun os started H enc _ => lifted os started H enc)
end Go.Proofs.Ytjnifkngcbaldaa.kernPlace
namespace Go.Proofs.Ytjnifkngcbaldaa
theorem kernPlace_holds : Rows.KernPlaceSaid := kernPlace.over
#print axioms kernPlace_holds
end Go.Proofs.Ytjnifkngcbaldaa
