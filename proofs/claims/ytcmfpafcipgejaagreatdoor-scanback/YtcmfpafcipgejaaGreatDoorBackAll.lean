/- ScanBack: for every int, two numbers of 64 bits and a word (without blanks, of 1 to 4096 bytes): formatted by one directive each, with a blank between, they are read again as they were. -/
import Derived.Test.YtcmfpafcipgejaaGreatDoorKB8
import Derived.Test.YtcmfpafcipgejaaGreatDoorTie
import Derived.Test.YtcmfpafcipgejaaGreatDoorCards
import Derived.LaidMore
import Derived.Lay
import Derived.SevenTiedAt
import Derived.Stop.Joined
import Derived.ProofKit
import Derived.OpenShut
import Derived.ShutString
import Derived.ChangeOld
import Derived.Below
import Derived.SizedLaws
/- FormatWide: digits, all; what a directive with a width becomes. -/
namespace Go.Proofs.YtcmfpafcipgejaaGreatDoor
open Go.RowKit

theorem fmtV_one {c : UInt8} {r : List UInt8} {d : Dir} {a : Ag} (hc : c.toNat = 37) (hp : pdir (c :: r) = some (d, (c :: r).length)) (hk : kOf d.verb.toNat ≠ 0) (hi : a.isOf d.verb = true) (hl : (c :: r).length ≤ 65536) (hs : (d.shown a).length ≤ 65536) : fmtV (c :: r) [a] = (d.shown a, 0, (c :: r).length) := by
  have hf : firstV (c :: r) [a] = ((d.shown a, (c :: r).length, 1), 0) := by
    rw [firstV_cons, if_neg (by omega), hp]
    simp only
    rw [if_neg hk, if_pos hi]
  unfold fmtV
  rw [if_neg (by omega)]
  show fmtF (r.length + 1) (c :: r) [a] 0 [] = _
  rw [fmtF_step, hf]
  simp only
  rw [if_neg (by decide), if_neg (by simpa using hs), List.drop_length]
  show fmtF r.length [] [] _ _ = _
  rw [fmtF_nil, if_pos rfl]
  simp
end Go.Proofs.YtcmfpafcipgejaaGreatDoor

/- ScanBack: what is formatted is read again, as values. -/
namespace Go.Proofs.YtcmfpafcipgejaaGreatDoor
open Go.RowKit
def runS (f : Bool → UInt8 → Bool × Bool) : Bool → List UInt8 → Bool × Bool
  | q, [] => (true, q)
  | q, c :: t => if (f q c).1 then runS f (f q c).2 t else (false, q)
theorem drop_one {b : List UInt8} {n : Nat} {c : UInt8} {r : List UInt8} (h : b.drop n = c :: r) : n < b.length ∧ b.getD n 0 = c ∧ b.drop (n + 1) = r := by
  have hl : n < b.length := by
    have := congrArg List.length h
    rw [List.length_drop] at this
    simp only [List.length_cons] at this
    omega
  rw [List.drop_eq_getElem_cons hl] at h
  obtain ⟨h1, h2⟩ := List.cons.inj h
  exact ⟨hl, by rw [List.getD_eq_getElem?_getD, List.getElem?_eq_getElem hl]; exact h1, h2⟩
theorem gat_run (b : List UInt8) (f : Bool → UInt8 → Bool × Bool) : ∀ (t : List UInt8) (n k : Nat) (q q' : Bool) (acc rest : List UInt8), b.drop n = t ++ rest → t.length ≤ k → runS f q t = (true, q') → (∀ c r, rest = c :: r → (f q' c).1 = false) → ∃ e, (e = 0 ∨ e = 111) ∧ gatV (txtD b) f k n q acc = ((acc ++ t, e), n + t.length)
  | [], n, 0, q, q', acc, rest, _, _, _, _ => ⟨0, .inl rfl, by simp [gatV]⟩
  | [], n, k + 1, q, q', acc, rest, hd, _, hr, hn => by
    have hq : q = q' := by cases hr; rfl
    subst hq
    cases rest with
    | nil =>
      have hl : ¬ n < b.length := fun h => by
        have := congrArg List.length hd
        rw [List.length_drop] at this
        simp at this
        omega
      exact ⟨111, .inr rfl, by rw [gatV_no _ f k n q acc (one_end b f n q hl)]; simp⟩
    | cons c r =>
      obtain ⟨h1, h2, _⟩ := drop_one (show b.drop n = c :: r from hd)
      exact ⟨0, .inl rfl, by rw [gatV_no _ f k n q acc (one_no b f n q h1 (by rw [h2]; exact hn c r rfl))]; simp⟩
  | c :: t, n, 0, _, _, _, _, _, h, _, _ => absurd h (by simp)
  | c :: t, n, k + 1, q, q', acc, rest, hd, hk, hr, hn => by
    obtain ⟨h1, h2, h3⟩ := drop_one (show b.drop n = c :: (t ++ rest) from hd)
    unfold runS at hr
    split at hr
    · rename_i hf
      rw [gatV_yes _ f k n q acc (one_yes b f n q h1 (by rw [h2]; exact hf)), h2]
      obtain ⟨e, he, hg⟩ := gat_run b f t (n + 1) k (f q c).2 q' (acc ++ [c]) rest h3 (by simp only [List.length_cons] at hk; omega) hr hn
      refine ⟨e, he, ?_⟩
      rw [hg]
      simp only [List.append_assoc, List.cons_append, List.nil_append, List.length_cons]
      rw [show n + 1 + t.length = n + (t.length + 1) by omega]
    · cases hr
theorem pass_non (b : List UInt8) (N n : Nat) {c : UInt8} {r : List UInt8} (hd : b.drop n = c :: r) (hc : isBl c = false) : passV (txtD b) (N + 1) n = some (0, n) := by
  obtain ⟨h1, h2, _⟩ := drop_one hd
  exact passV_end _ N n (one_no b fBl n false h1 (by show isBl _ = false; rw [h2]; exact hc))
theorem pass_blank (b : List UInt8) (N n : Nat) {c : UInt8} {r : List UInt8} (hd : b.drop n = 32 :: c :: r) (hc : isBl c = false) : passV (txtD b) (N + 1 + 1) n = some (0, n + 1) := by
  obtain ⟨h1, h2, h3⟩ := drop_one hd
  rw [passV_more _ (N + 1) n (one_yes b fBl n false h1 (by show isBl _ = true; rw [h2]; rfl))]
  exact pass_non b N (n + 1) h3 hc
theorem word_part (b : List UInt8) (n : Nat) (v : UInt8) (t rest : List UInt8) (a : Ag) (q' : Bool) (hv1 : v.toNat ≠ 32) (hv2 : v.toNat ≠ 37) (hv3 : v.toNat ≠ 99) (hd : b.drop n = t ++ rest) {c : UInt8} {r : List UInt8} (ht : t = c :: r) (hc : isBl c = false) (hlen : t.length ≤ 4096) (hrun : runS (fitV v) false t = (true, q')) (hrest : ∀ c r, rest = c :: r → (fitV v q' c).1 = false) (hl : leastV t v = true) (hw : worthV t v = (a, 0)) : partV (txtD b) (b.length + 1) ⟨v, v, false, 0, 2⟩ n = some ((a, 0), n + t.length) := by
  have hp := pass_non b b.length n (show b.drop n = c :: (r ++ rest) by rw [hd, ht]; rfl) hc
  rw [partV_other _ _ _ _ hv1 hv2 hv3 hp, if_neg (by simp)]
  obtain ⟨e, he, hg⟩ := gat_run b (fitV v) t n 4096 false q' [] rest hd hlen hrun hrest
  rw [List.nil_append] at hg
  unfold wordV
  rw [show (⟨v, v, false, 0, 2⟩ : Pt).most = 4096 by unfold Pt.most; rw [if_neg (Nat.lt_irrefl 0), if_neg hv3]]
  simp only
  rw [hg]
  simp only
  rw [if_neg (by rcases he with rfl | rfl <;> simp), if_pos hl, hw]
theorem blank_part (b : List UInt8) (n : Nat) {c : UInt8} {r : List UInt8} (hd : b.drop n = 32 :: c :: r) (hc : isBl c = false) : partV (txtD b) (b.length + 1) ⟨32, 0, false, 0, 1⟩ n = some ((ag0, 0), n + 1) := by
  obtain ⟨h1, _, _⟩ := drop_one hd
  obtain ⟨N, hN⟩ : ∃ N, b.length + 1 = N + 1 + 1 := ⟨b.length - 1, by omega⟩
  unfold partV
  rw [if_pos (by decide), hN, pass_blank b N n hd hc]
  rfl
theorem runS_dig (v : UInt8) (k : Nat) (hv : ∀ q c, fitV v q c = (digB k c, q)) : ∀ (t : List UInt8) (q : Bool), (∀ c ∈ t, digB k c = true) → runS (fitV v) q t = (true, q)
  | [], _, _ => rfl
  | c :: t, q, h => by
    unfold runS
    rw [hv, if_pos (h c (List.mem_cons_self ..))]
    exact runS_dig v k hv t q (fun x hx => h x (List.mem_cons_of_mem _ hx))
theorem runS_d : ∀ (t : List UInt8) (q : Bool), (∀ c ∈ t, digB 10 c = true) → t ≠ [] → runS (fitV 100) q t = (true, true)
  | [], _, _, h => absurd rfl h
  | [c], q, h, _ => by
    unfold runS
    rw [fit_d (v := 100) rfl]
    simp only [h c (List.mem_cons_self ..), Bool.or_true, ↓reduceIte]
    rfl
  | c :: d :: t, q, h, _ => by
    have := runS_d (d :: t) true (fun x hx => h x (List.mem_cons_of_mem _ hx)) (by simp)
    unfold runS
    rw [show fitV 100 q c = (true, true) by rw [fit_d (v := 100) rfl]; simp [h c (List.mem_cons_self ..)]]
    exact this
theorem runS_s : ∀ (t : List UInt8) (q : Bool), (∀ c ∈ t, isBl c = false) → runS (fitV 115) q t = (true, q)
  | [], _, _ => rfl
  | c :: t, q, h => by
    have := runS_s t q (fun x hx => h x (List.mem_cons_of_mem _ hx))
    unfold runS
    rw [show fitV 115 q c = (true, q) by rw [fit_s (v := 115) rfl]; simp [h c (List.mem_cons_self ..)]]
    exact this
theorem dl_dig (b n : Nat) (hb : 2 ≤ b) (hb2 : b ≤ 16) : ∀ k, ∀ c ∈ (dl b n k).map sgn, digB b c = true := by
  have key : ∀ j, digB b (sgn (dg b n j)) = true := fun j => by
    unfold digB
    rw [valI_sgn, decide_eq_true_iff, dg_val b n j hb hb2]
    have : n / b ^ j % b < b := Nat.mod_lt _ (by omega)
    omega
  intro k
  induction k with
  | zero =>
    intro c hc
    obtain rfl : c = sgn (dg b n 0) := by simpa [dl] using hc
    exact key 0
  | succ k ih =>
    intro c hc
    have hc : c ∈ sgn (dg b n (k + 1)) :: (dl b n k).map sgn := hc
    rcases List.mem_cons.1 hc with rfl | h
    · exact key _
    · exact ih c h
theorem digs_dig (b n : Nat) (hb : 2 ≤ b) (hb2 : b ≤ 16) : ∀ c ∈ digs b n, digB b c = true := dl_dig b n hb hb2 _
theorem dig_nb {b : Nat} {c : UInt8} (hb2 : b ≤ 16) (h : digB b c = true) : isBl c = false ∧ isSg c = false := by
  unfold digB valI at h
  rw [decide_eq_true_iff] at h
  unfold isBl isSg
  have h1 : 48 ≤ c.toNat := by
    by_cases h1 : 48 ≤ c.toNat
    · exact h1
    · rw [if_neg (by omega), if_neg (by omega), if_neg (by omega)] at h
      omega
  constructor
  · simp; omega
  · simp; omega
theorem least_ok {t : List UInt8} {v : UInt8} (h0 : t ≠ []) (h1 : v.toNat = 100 → isSg (t.getD 0 0) = false ∨ 2 ≤ t.length) : leastV t v = true := by
  have hl : 0 < t.length := List.length_pos_iff.2 h0
  unfold leastV
  split
  · rename_i h
    rcases h1 h.1 with h2 | h2
    · rw [h2]; rfl
    · omega
  · exact decide_eq_true hl
end Go.Proofs.YtcmfpafcipgejaaGreatDoor

/- ScanBack: five values, formatted and read again. -/
namespace Go.Proofs.YtcmfpafcipgejaaGreatDoor
open Go.RowKit
def pat5 : List UInt8 := [37, 100, 32, 37, 120, 32, 37, 115, 32, 37, 117, 32, 37, 111]
def dirP (v : UInt8) : Dir := ⟨0, 0, false, 0, v⟩
theorem has1_P (v : UInt8) : (dirP v).has 1 = false := by show (bits .and .i64 0 1 != 0) = false; decide
theorem has2_P (v : UInt8) : (dirP v).has 2 = false := by show (bits .and .i64 0 2 != 0) = false; decide
theorem has4_P (v : UInt8) : (dirP v).has 4 = false := by show (bits .and .i64 0 4 != 0) = false; decide
theorem has8_P (v : UInt8) : (dirP v).has 8 = false := by show (bits .and .i64 0 8 != 0) = false; decide
theorem wide_P (v : UInt8) (s l : List UInt8) : (dirP v).wide s l = s ++ l := by
  unfold Dir.wide
  rw [has1_P, has4_P]
  simp only [Bool.false_eq_true, ↓reduceIte, Bool.false_and]
  rw [show (dirP v).wd - s.length - l.length = 0 by show 0 - _ - _ = 0; omega]
  rfl
theorem prec_P (v : UInt8) (l : List UInt8) : (dirP v).precise l = l := by
  unfold Dir.precise
  rw [if_neg (by show ¬ (false = true ∧ _); simp), show (dirP v).pr - l.length = 0 by show 0 - _ = 0; omega]
  rfl
theorem cut_P (v : UInt8) (l : List UInt8) : (dirP v).cut l = l := by
  unfold Dir.cut
  rw [if_neg (by show ¬ (false = true ∧ _); simp)]
theorem shown_Pd (n : Int) (u : Int) (x : ByteArray) : (dirP 100).shown ⟨1, n, u, x⟩ = dec n := by
  unfold Dir.shown
  rw [if_pos (show (dirP 100).verb = 100 from rfl), wide_P, prec_P]
  unfold Dir.sign dec
  rw [has2_P, has8_P]
  by_cases h : n < 0
  · simp [h]
  · simp [h]
theorem shown_Ps (x : ByteArray) : (dirP 115).shown ⟨4, 0, 0, x⟩ = x.data.toList := by
  unfold Dir.shown
  rw [if_neg (by decide), if_neg (by decide), if_pos (show (dirP 115).verb = 115 from rfl), wide_P, cut_P]
  rfl
theorem shown_Px (m : Int) : (dirP 120).shown ⟨2, 0, m, ⟨#[]⟩⟩ = digs 16 m.toNat := by
  unfold Dir.shown
  rw [if_neg (by decide), if_neg (by decide), if_neg (by decide), wide_P, prec_P]
  rfl
theorem shown_Pu (m : Int) : (dirP 117).shown ⟨2, 0, m, ⟨#[]⟩⟩ = digs 10 m.toNat := by
  unfold Dir.shown
  rw [if_neg (by decide), if_neg (by decide), if_neg (by decide), wide_P, prec_P]
  rfl
theorem shown_Po (m : Int) : (dirP 111).shown ⟨2, 0, m, ⟨#[]⟩⟩ = digs 8 m.toNat := by
  unfold Dir.shown
  rw [if_neg (by decide), if_neg (by decide), if_neg (by decide), wide_P, prec_P]
  rfl
theorem fmt_P (v : UInt8) (a : Ag) (hp : pdir [37, v] = some (dirP v, 2)) (hk : kOf v.toNat ≠ 0) (hi : a.isOf v = true) (hs : ((dirP v).shown a).length ≤ 65536) : fmtV [37, v] [a] = ((dirP v).shown a, 0, 2) := fmtV_one (c := 37) (r := [v]) rfl hp hk hi (by show 2 ≤ 65536; decide) hs
theorem fmt_bl : fmtV [32] [] = ([32], 0, 1) := rfl
def txt5 (n m k : Int) (s : ByteArray) : List UInt8 := dec n ++ ([32] ++ (digs 16 m.toNat ++ ([32] ++ (s.data.toList ++ ([32] ++ (digs 10 k.toNat ++ ([32] ++ digs 8 m.toNat)))))))
def ags5 (n m k : Int) (s : ByteArray) : List Ag := [⟨1, n, 0, ⟨#[]⟩⟩, ⟨2, 0, m, ⟨#[]⟩⟩, ⟨4, 0, 0, s⟩, ⟨2, 0, k, ⟨#[]⟩⟩, ⟨2, 0, m, ⟨#[]⟩⟩]
theorem len5 {n m k : Int} {s : ByteArray} (n0 : -9223372036854775808 ≤ n) (n1 : n ≤ 9223372036854775807) (m0 : 0 ≤ m) (m1 : m ≤ 18446744073709551615) (k0 : 0 ≤ k) (k1 : k ≤ 18446744073709551615) (hs : s.size ≤ 4096) : (dec n).length ≤ 65 ∧ (digs 16 m.toNat).length ≤ 64 ∧ (digs 10 k.toNat).length ≤ 64 ∧ (digs 8 m.toNat).length ≤ 64 ∧ s.data.toList.length ≤ 4096 :=
  by
  have h1 : m.toNat < 18446744073709551616 := by omega
  have h2 : k.toNat < 18446744073709551616 := by omega
  have h3 : s.data.toList.length = s.size := by rw [Array.length_toList]; rfl
  refine ⟨dec_len n n0 n1, digs_len 16 _ (by decide) h1, digs_len 10 _ (by decide) h2, digs_len 8 _ (by decide) h1, ?_⟩
  rw [h3]
  exact hs
set_option maxHeartbeats 2000000 in
theorem fmt5 {n m k : Int} {s : ByteArray} (n0 : -9223372036854775808 ≤ n) (n1 : n ≤ 9223372036854775807) (m0 : 0 ≤ m) (m1 : m ≤ 18446744073709551615) (k0 : 0 ≤ k) (k1 : k ≤ 18446744073709551615) (hs : s.size ≤ 4096) : fmtV pat5 (ags5 n m k s) = (txt5 n m k s, 0, 14) := by
  obtain ⟨l1, l2, l3, l4, l5⟩ := len5 n0 n1 m0 m1 k0 k1 hs
  have f1 := fmt_P 100 ⟨1, n, 0, ⟨#[]⟩⟩ rfl (by decide) rfl (by rw [shown_Pd]; omega)
  have f2 := fmt_P 120 ⟨2, 0, m, ⟨#[]⟩⟩ rfl (by decide) rfl (by rw [shown_Px]; omega)
  have f3 := fmt_P 115 ⟨4, 0, 0, s⟩ rfl (by decide) rfl (by rw [shown_Ps]; omega)
  have f4 := fmt_P 117 ⟨2, 0, k, ⟨#[]⟩⟩ rfl (by decide) rfl (by rw [shown_Pu]; omega)
  have f5 := fmt_P 111 ⟨2, 0, m, ⟨#[]⟩⟩ rfl (by decide) rfl (by rw [shown_Po]; omega)
  rw [shown_Pd] at f1
  rw [shown_Px] at f2
  rw [shown_Ps] at f3
  rw [shown_Pu] at f4
  rw [shown_Po] at f5
  have g1 := fmtV_joins fmt_bl f5 (by simp only [List.length_cons, List.length_nil]; omega) (by decide)
  have g2 := fmtV_joins f4 g1 (by simp only [List.length_append, List.length_cons, List.length_nil]; omega) (by decide)
  have g3 := fmtV_joins fmt_bl g2 (by simp only [List.length_append, List.length_cons, List.length_nil]; omega) (by decide)
  have g4 := fmtV_joins f3 g3 (by simp only [List.length_append, List.length_cons, List.length_nil]; omega) (by decide)
  have g5 := fmtV_joins fmt_bl g4 (by simp only [List.length_append, List.length_cons, List.length_nil]; omega) (by decide)
  have g6 := fmtV_joins f2 g5 (by simp only [List.length_append, List.length_cons, List.length_nil]; omega) (by decide)
  have g7 := fmtV_joins fmt_bl g6 (by simp only [List.length_append, List.length_cons, List.length_nil]; omega) (by decide)
  have h := fmtV_joins f1 g7 (by simp only [List.length_append, List.length_cons, List.length_nil]; omega) (by decide)
  have e1 : pat5 = [37, 100] ++ ([32] ++ ([37, 120] ++ ([32] ++ ([37, 115] ++ ([32] ++ ([37, 117] ++ ([32] ++ [37, 111]))))))) := rfl
  have e2 : ags5 n m k s = [(⟨1, n, 0, ⟨#[]⟩⟩ : Ag)] ++ ([] ++ ([⟨2, 0, m, ⟨#[]⟩⟩] ++ ([] ++ ([⟨4, 0, 0, s⟩] ++ ([] ++ ([⟨2, 0, k, ⟨#[]⟩⟩] ++ ([] ++ [⟨2, 0, m, ⟨#[]⟩⟩]))))))) := rfl
  rw [e1, e2, h]
  rfl
theorem fit_x (q : Bool) (c : UInt8) : fitV 120 q c = (digB 16 c, q) := by rw [fit_o (v := 120) (by decide) (by decide)]; rfl
theorem fit_u (q : Bool) (c : UInt8) : fitV 117 q c = (digB 10 c, q) := by rw [fit_o (v := 117) (by decide) (by decide)]; rfl
theorem fit_oct (q : Bool) (c : UInt8) : fitV 111 q c = (digB 8 c, q) := by rw [fit_o (v := 111) (by decide) (by decide)]; rfl
theorem worth_u (v : UInt8) (b : Nat) (m : Int) (hb : 2 ≤ b) (hb2 : b ≤ 16) (h1 : v.toNat ≠ 115) (h2 : v.toNat ≠ 100) (hbs : baseS v = b) (m0 : 0 ≤ m) (m1 : m ≤ 18446744073709551615) : worthV (digs b m.toNat) v = (⟨2, 0, m, ⟨#[]⟩⟩, 0) := by
  unfold worthV
  rw [if_neg h1, if_neg h2, hbs, parseB_digs b m.toNat hb hb2 (by omega), if_neg (by simp)]
  simp only
  rw [show ((m.toNat : Nat) : Int) = m by omega]
theorem worth_d (n : Int) (n0 : -9223372036854775808 ≤ n) (n1 : n ≤ 9223372036854775807) : worthV (dec n) 100 = (⟨1, n, 0, ⟨#[]⟩⟩, 0) := by
  have hd : Dgs (digs 10 n.natAbs) := fun c hc => (dig10 c).1 (digs_dig 10 _ (by decide) (by decide) c hc)
  have hp := parseB_digs 10 n.natAbs (by decide) (by decide) (by omega)
  rw [show ((10 : Nat) : Int) = 10 from rfl] at hp
  have hv : intV (dec n) = some n := by
    unfold dec
    by_cases h : n < 0
    · rw [if_pos h, show (45 : UInt8) :: digs 10 n.natAbs = [45] ++ digs 10 n.natAbs from rfl, intV_of (.inr ⟨45, rfl, rfl⟩) hd (digs_ne 10 _), hp]
      simp only [ne_eq, not_true_eq_false, ↓reduceIte]
      rw [if_pos (by omega)]
      congr 1
      omega
    · rw [if_neg h, show digs 10 n.natAbs = [] ++ digs 10 n.natAbs from rfl, intV_of (.inl rfl) hd (digs_ne 10 _), hp]
      simp only [ne_eq, not_true_eq_false, ↓reduceIte]
      rw [if_neg (by simp), if_pos (by omega)]
      congr 1
      omega
  unfold worthV
  rw [if_neg (by decide), if_pos (show (100 : UInt8).toNat = 100 from rfl), hv]
  rfl
end Go.Proofs.YtcmfpafcipgejaaGreatDoor

/- ScanMute: patterns with and without stars, as values. -/
namespace Go.Proofs.YtcmfpafcipgejaaGreatDoor
open Go.RowKit
def dux : List UInt8 := [100, 117, 120, 111, 99, 115]
theorem dux_sv {v : UInt8} (h : v ∈ dux) : sv v.toNat = true ∧ v.toNat ≠ 42 ∧ v.toNat ≠ 37 ∧ v.toNat ≠ 32 ∧ ¬ (48 ≤ v.toNat ∧ v.toNat ≤ 57) := by
  unfold dux at h
  simp only [List.mem_cons, List.not_mem_nil, or_false] at h
  rcases h with rfl | rfl | rfl | rfl | rfl | rfl <;> decide
theorem numS_no {v : UInt8} (h : v ∈ dux) (r : List UInt8) : numS (v :: r) = some (0, 0) := by
  unfold numS
  rw [run10_at, if_neg (dux_sv h).2.2.2.2, if_pos rfl]
theorem first_F {v : UInt8} (h : v ∈ dux) (r : List UInt8) : firstS (37 :: v :: r) = some ⟨v, v, false, 0, 2⟩ := by
  have hq : qS (37 :: v :: r) = false := by
    show (v.toNat == 42) = false
    simp [(dux_sv h).2.1]
  have hp : pdirS (37 :: v :: r) = some ⟨v, v, false, 0, 2⟩ := by
    unfold pdirS
    rw [hq]
    simp only [Bool.false_eq_true, ↓reduceIte]
    rw [show (37 :: v :: r).drop 1 = v :: r from rfl, numS_no h]
    simp only
    have : verbS (37 :: v :: r) (1 + 0) = some v := by
      show (if sv v.toNat = true ∨ _ then some v else none) = some v
      rw [if_pos (.inl (dux_sv h).1)]
    rw [this]
    rfl
  exact hp
theorem tells_F {v : UInt8} (h : v ∈ dux) (q : Bool) (n m : Nat) : (⟨v, v, q, n, m⟩ : Pt).tells = !q := by
  obtain ⟨-, -, h1, h2, -⟩ := dux_sv h
  show (v.toNat != 32 && v.toNat != 37 && !q) = !q
  rw [show (v.toNat != 32) = true by simp [h2], show (v.toNat != 37) = true by simp [h1]]
  rfl
end Go.Proofs.YtcmfpafcipgejaaGreatDoor

/- ScanBack: what was formatted is read again. -/
namespace Go.Proofs.YtcmfpafcipgejaaGreatDoor
open Go.RowKit
theorem drop_nxt {b t rest : List UInt8} {n : Nat} (h : b.drop n = t ++ rest) : b.drop (n + t.length) = rest := by
  rw [← List.drop_drop, h, List.drop_left]
structure Wd (v : UInt8) (t : List UInt8) (a : Ag) : Prop where
  hv : v ∈ dux
  hc : v.toNat ≠ 99
  ne : ∃ c r, t = c :: r ∧ isBl c = false
  len : t.length ≤ 4096
  run : ∃ q', runS (fitV v) false t = (true, q') ∧ (fitV v q' 32).1 = false
  least : leastV t v = true
  worth : worthV t v = (a, 0)
theorem step_w {b : List UInt8} {n : Nat} {v : UInt8} {t rest r : List UInt8} {a : Ag} {aa : List Ag} (h : Wd v t a) (hd : b.drop n = t ++ rest) (hr : rest = [] ∨ ∃ r2, rest = 32 :: r2) : readR (txtD b) (b.length + 1) (37 :: v :: r) n aa = readR (txtD b) (b.length + 1) r (n + t.length) (aa ++ [a]) := by
  obtain ⟨c, r2, ht, hb⟩ := h.ne
  obtain ⟨q', h1, h2⟩ := h.run
  obtain ⟨d1, d2, d3, d4, d5⟩ := dux_sv h.hv
  have hp := word_part b n v t rest a q' d4 d3 h.hc hd ht hb h.len h1 (fun c r3 e => by
    rcases hr with hr | ⟨r4, hr⟩
    · rw [hr] at e; cases e
    · rw [hr] at e; cases e; exact h2) h.least h.worth
  rw [readR_go _ _ (first_F h.hv r) n aa hp, tells_F h.hv, if_neg (by simp)]
  rfl
theorem step_b {b : List UInt8} {n : Nat} {t rest r : List UInt8} {aa : List Ag} (hd : b.drop n = [32] ++ (t ++ rest)) (ht : ∃ c r, t = c :: r ∧ isBl c = false) : readR (txtD b) (b.length + 1) (32 :: r) n aa = readR (txtD b) (b.length + 1) r (n + 1) aa := by
  obtain ⟨c, r2, rfl, hb⟩ := ht
  have hp := blank_part b n (c := c) (r := r2 ++ rest) hd hb
  have hf : firstS (32 :: r) = some ⟨32, 0, false, 0, 1⟩ := rfl
  rw [readR_go _ _ hf n aa hp, if_neg (by simp)]
  rfl
theorem wd_u (v : UInt8) (b : Nat) (m : Int) (hb : 2 ≤ b) (hb2 : b ≤ 16) (hv : v ∈ dux) (h1 : v.toNat ≠ 115) (h2 : v.toNat ≠ 100) (h3 : v.toNat ≠ 99) (hbs : baseS v = b) (hf : ∀ q c, fitV v q c = (digB b c, q)) (m0 : 0 ≤ m) (m1 : m ≤ 18446744073709551615) : Wd v (digs b m.toNat) ⟨2, 0, m, ⟨#[]⟩⟩ := by
  have hd := digs_dig b m.toNat hb hb2
  have hne := digs_ne b m.toNat
  have hl := digs_len b m.toNat hb (by omega)
  refine ⟨hv, h3, ?_, by omega, ⟨false, runS_dig v b hf _ _ hd, ?_⟩, least_ok hne (fun e => absurd e h2), worth_u v b m hb hb2 h1 h2 hbs m0 m1⟩
  · cases ht : digs b m.toNat with
    | nil => exact absurd ht hne
    | cons c r => exact ⟨c, r, rfl, (dig_nb hb2 (hd c (by rw [ht]; exact List.mem_cons_self ..))).1⟩
  · rw [hf]
    show decide (valI 32 < (b : Int)) = false
    rw [decide_eq_false]
    have : valI 32 = 16 := by decide
    omega
theorem wd_d (n : Int) (n0 : -9223372036854775808 ≤ n) (n1 : n ≤ 9223372036854775807) : Wd 100 (dec n) ⟨1, n, 0, ⟨#[]⟩⟩ := by
  have hd := digs_dig 10 n.natAbs (by decide) (by decide)
  have hne := digs_ne 10 n.natAbs
  have hl := dec_len n n0 n1
  have hnf : (fitV 100 true 32).1 = false := by rw [fit_d (v := 100) rfl]; decide
  obtain ⟨c, r, hcr⟩ : ∃ c r, digs 10 n.natAbs = c :: r := by
    cases ht : digs 10 n.natAbs with
    | nil => exact absurd ht hne
    | cons c r => exact ⟨c, r, rfl⟩
  have hcc := dig_nb (by decide : 10 ≤ 16) (hd c (by rw [hcr]; exact List.mem_cons_self ..))
  by_cases h : n < 0
  · have hdec : dec n = 45 :: digs 10 n.natAbs := by unfold dec; rw [if_pos h]
    refine ⟨by decide, by decide, ⟨45, _, hdec, rfl⟩, by omega, ⟨true, ?_, hnf⟩, ?_, worth_d n n0 n1⟩
    · rw [hdec]
      unfold runS
      rw [show fitV 100 false 45 = (true, true) by rw [fit_d (v := 100) rfl]; rfl]
      exact runS_d _ true hd hne
    · refine least_ok (by rw [hdec]; simp) (fun _ => .inr ?_)
      rw [hdec, hcr]
      simp
  · have hdec : dec n = digs 10 n.natAbs := by unfold dec; rw [if_neg h]
    refine ⟨by decide, by decide, ⟨c, r, by rw [hdec, hcr], hcc.1⟩, by omega, ⟨true, ?_, hnf⟩, ?_, worth_d n n0 n1⟩
    · rw [hdec]
      exact runS_d _ false hd hne
    · refine least_ok (by rw [hdec]; exact hne) (fun _ => .inl ?_)
      rw [hdec, hcr]
      exact hcc.2
theorem wd_s (s : ByteArray) (hs : s.size ≤ 4096) (h0 : s.data.toList ≠ []) (hb : ∀ c ∈ s.data.toList, isBl c = false) : Wd 115 s.data.toList ⟨4, 0, 0, s⟩ := by
  refine ⟨by decide, by decide, ?_, by rw [Array.length_toList]; exact hs, ⟨false, runS_s _ _ hb, by rw [fit_s (v := 115) rfl]; decide⟩, least_ok h0 (fun e => absurd e (by decide)), ?_⟩
  · cases ht : s.data.toList with
    | nil => exact absurd ht h0
    | cons c r => exact ⟨c, r, rfl, hb c (by rw [ht]; exact List.mem_cons_self ..)⟩
  · unfold worthV
    rw [if_pos (show (115 : UInt8).toNat = 115 from rfl)]
theorem back5 {n m k : Int} {s : ByteArray} (n0 : -9223372036854775808 ≤ n) (n1 : n ≤ 9223372036854775807) (m0 : 0 ≤ m) (m1 : m ≤ 18446744073709551615) (k0 : 0 ≤ k) (k1 : k ≤ 18446744073709551615) (hs : s.size ≤ 4096) (hs0 : s.data.toList ≠ []) (hb : ∀ c ∈ s.data.toList, isBl c = false) : scanV pat5 (txt5 n m k s) = ((ags5 n m k s, (txt5 n m k s).length), 0) := by
  have w0 := wd_d n n0 n1
  have w1 := wd_u 120 16 m (by decide) (by decide) (by decide) (by decide) (by decide) (by decide) rfl fit_x m0 m1
  have w2 := wd_s s hs hs0 hb
  have w3 := wd_u 117 10 k (by decide) (by decide) (by decide) (by decide) (by decide) (by decide) rfl fit_u k0 k1
  have w4 := wd_u 111 8 m (by decide) (by decide) (by decide) (by decide) (by decide) (by decide) rfl fit_oct m0 m1
  obtain ⟨T, hT⟩ : ∃ T, T = txt5 n m k s := ⟨_, rfl⟩
  rw [← hT]
  have hl : T.length = (dec n).length + (1 + ((digs 16 m.toNat).length + (1 + (s.data.toList.length + (1 + ((digs 10 k.toNat).length + (1 + (digs 8 m.toNat).length))))))) := by
    rw [hT]; unfold txt5
    simp only [List.length_append, List.length_cons, List.length_nil, Nat.zero_add]
  unfold ags5
  unfold txt5 at hT
  generalize dec n = t0 at *
  generalize digs 16 m.toNat = t1 at *
  generalize s.data.toList = t2 at *
  generalize digs 10 k.toNat = t3 at *
  generalize digs 8 m.toNat = t4 at *
  have d0 : T.drop 0 = t0 ++ ([32] ++ (t1 ++ ([32] ++ (t2 ++ ([32] ++ (t3 ++ ([32] ++ t4))))))) := by rw [List.drop_zero]; exact hT
  have d1 := drop_nxt d0
  have d2 := drop_nxt d1
  have d3 := drop_nxt d2
  have d4 := drop_nxt d3
  have d5 := drop_nxt d4
  have d6 := drop_nxt d5
  have d7 := drop_nxt d6
  have d8 := drop_nxt d7
  rw [show ([32] : List UInt8).length = 1 from rfl] at d2 d3 d4 d5 d6 d7 d8
  have hread : readR (txtD T) (T.length + 1) pat5 0 [] = some (([] ++ [(⟨1, n, 0, ⟨#[]⟩⟩ : Ag)] ++ [⟨2, 0, m, ⟨#[]⟩⟩] ++ [⟨4, 0, 0, s⟩] ++ [⟨2, 0, k, ⟨#[]⟩⟩] ++ [⟨2, 0, m, ⟨#[]⟩⟩], 0), T.length) := by
    unfold pat5
    rw [step_w w0 d0 (.inr ⟨_, rfl⟩), step_b d1 w1.ne, step_w w1 d2 (.inr ⟨_, rfl⟩), step_b d3 w2.ne, step_w w2 d4 (.inr ⟨_, rfl⟩), step_b d5 w3.ne, step_w w3 d6 (.inr ⟨_, rfl⟩), step_b (rest := []) (by rw [List.append_nil]; exact d7) w4.ne, step_w w4 (by rw [List.append_nil]; exact d8) (.inl rfl)]
    show some ((_, (0 : Int)), _) = _
    congr 2
    omega
  exact scan_read (by decide +kernel) hread
end Go.Proofs.YtcmfpafcipgejaaGreatDoor

/- SameArgs: Args beside themselves. -/
namespace Go.Proofs.YtcmfpafcipgejaaGreatDoor
open Go.RowKit

set_option maxRecDepth 100000 in
set_option maxHeartbeats 4000000 in
theorem sameArgs_any (v1 v2 : Value) (l : List Ag) (w : World) (h1 : AgsV w v1 l) (h2 : AgsV w v2 l) (hl : l.length ≤ maxLen) :
    Calls Tryz.prog 11 #[v1, v2] w fun e w' => e = .returned (.bool true) ∧ Below w.heap.size w w' := by
  unfold maxLen at hl
  obtain ⟨a1, c1, rfl, -, hd1, -⟩ := h1
  obtain ⟨a2, c2, rfl, -, hd2, -⟩ := h2
  have HD1 := hide hd1
  have HD2 := hide hd2
  clear hd1 hd2
  go_enter Tryz.func11, Tryz.ntmps11
  go_wp2
  go_loopw [5] (fun i wr => ∃ k : Nat, k ≤ l.length ∧ i = .int .i64 k ∧ Hid (Below w.heap.size w wr)) (fun i _ => l.length - (intOf i).toNat)
  case atStart => exact ⟨0, Nat.zero_le _, rfl, Below.refl _ _⟩
  case round =>
    obtain ⟨k, hk, rfl, HB⟩ := hrel
    by_cases hlt : k < l.length
    · have hlt' : (k : Int) < (l.length : Int) := by omega
      obtain ⟨b1, o1, rfl, hc1⟩ := HD1.out (by omega)
      obtain ⟨b2, o2, rfl, hc2⟩ := HD2.out (by omega)
      obtain ⟨p0, p1, p2, p3⟩ := (hc1 k hlt).below HB.out
      obtain ⟨q0, q1, q2, q3⟩ := (hc2 k hlt).below HB.out
      generalize l[k] = x at *
      obtain ⟨x0, x1, x2, x3⟩ := x
      simp only at p0 p1 p2 p3 q0 q1 q2 q3
      clear hc1 hc2
      go_upto_region 6 with fail
      go_big_region
      go_wp2
      exact ⟨⟨k + 1, by omega, by go_num, HB.out.drew⟩, by simp [intOf]; omega⟩
    · have hlt' : ¬ (k : Int) < (l.length : Int) := by omega
      go_wp2
      go_ret
      exact ⟨rfl, HB.out⟩
end Go.Proofs.YtcmfpafcipgejaaGreatDoor

/- ScanBack: the walk. -/
namespace Go.Proofs.YtcmfpafcipgejaaGreatDoor
open Go.RowKit
def WordR (s : ByteArray) (e : Ending) : Prop := ∃ b, e = .returned (.bool b) ∧ (b = true → (∀ c ∈ s.data.toList, isBl c = false) ∧ s.data.toList ≠ [] ∧ s.size ≤ 4096)
set_option maxHeartbeats 2000000 in
theorem word18 (s : ByteArray) (w : World) (hs : s.size ≤ maxLen) :
    Calls Tryz.prog 15 #[.string s] w fun e w' => WordR s e ∧ w' = w := by
  unfold maxLen at hs
  have hsz : s.data.toList.length = s.size := by rw [Array.length_toList]; rfl
  have HSz := hide hsz
  clear hsz
  go_enter Tryz.func15, Tryz.ntmps15
  go_wp2_with fail
  go_loopw [3] (fun i wr => ∃ k : Nat, k ≤ s.size ∧ i = .int .i64 k ∧ Hid (∀ c ∈ s.data.toList.take k, isBl c = false) ∧ wr = w) (fun i _ => s.size - (intOf i).toNat)
  case atStart => exact ⟨0, Nat.zero_le _, rfl, hide (fun c hc => by simp at hc), rfl⟩
  case round =>
    obtain ⟨k, hk, rfl, HP, rfl⟩ := hrel
    by_cases hlt : k < s.size
    · have hlt' : (k : Int) < (s.size : Int) := by omega
      by_cases h32 : s[k].toNat = 32
      · have g1 : ((s[k].toNat : Int) == 32) = true := by simp; omega
        go_wp2
        go_ret
        exact ⟨⟨false, rfl, fun h => by cases h⟩, rfl⟩
      · have g1 : ((s[k].toNat : Int) == 32) = false := by simp; omega
        by_cases h9 : s[k].toNat = 9
        · have g2 : ((s[k].toNat : Int) == 9) = true := by simp; omega
          go_wp2
          go_ret
          exact ⟨⟨false, rfl, fun h => by cases h⟩, rfl⟩
        · have g2 : ((s[k].toNat : Int) == 9) = false := by simp; omega
          by_cases h10 : s[k].toNat = 10
          · have g3 : ((s[k].toNat : Int) == 10) = true := by simp; omega
            go_wp2
            go_ret
            exact ⟨⟨false, rfl, fun h => by cases h⟩, rfl⟩
          · have g3 : ((s[k].toNat : Int) == 10) = false := by simp; omega
            have hP2 : Hid (∀ c ∈ s.data.toList.take (k + 1), isBl c = false) := hide (fun c hc => by
              rw [List.take_succ_eq_append_getElem (by rw [HSz.out]; exact hlt)] at hc
              rcases List.mem_append.1 hc with h | h
              · exact HP.out c h
              · obtain rfl : c = s[k] := List.mem_singleton.1 h
                unfold isBl
                simp [h32, h9, h10])
            clear HP h32 h9 h10
            go_wp2_with fail
            go_roundw
            case rel => exact ⟨k + 1, by omega, by go_num, hP2, trivial⟩
            case measure => simp [intOf]; omega
    · have hlt' : ¬ (k : Int) < (s.size : Int) := by omega
      have hall : Hid (∀ c ∈ s.data.toList, isBl c = false) := hide (fun c hc => HP.out c (by rw [List.take_of_length_le (by rw [HSz.out]; omega)]; exact hc))
      clear HP
      by_cases h0 : s.size = 0
      · have he := empty_yes s h0
        go_wp2
        go_ret
        exact ⟨⟨false, rfl, fun h => by cases h⟩, rfl⟩
      · have he := empty_no s h0
        by_cases h4 : s.size ≤ 4096
        · have h4' : (s.size : Int) ≤ 4096 := by omega
          have hn := hide (nil_no s h0)
          go_wp2
          go_ret
          exact ⟨⟨true, rfl, fun _ => ⟨hall.out, hn.out, h4⟩⟩, rfl⟩
        · have h4' : ¬ (s.size : Int) ≤ 4096 := by omega
          go_wp2
          go_ret
          exact ⟨⟨false, rfl, fun h => by cases h⟩, rfl⟩
theorem ags5_AB {n m k : Int} {s : ByteArray} (n0 : -9223372036854775808 ≤ n) (n1 : n ≤ 9223372036854775807) (m0 : 0 ≤ m) (m1 : m ≤ 18446744073709551615) (k0 : 0 ≤ k) (k1 : k ≤ 18446744073709551615) (hs : s.size ≤ maxLen) : ∀ x ∈ ags5 n m k s, AB x := by
  intro x hx
  unfold ags5 at hx
  simp only [List.mem_cons, List.not_mem_nil, or_false] at hx
  have h1 : N64 1 := ⟨by decide, by decide⟩
  have h2 : N64 2 := ⟨by decide, by decide⟩
  have h4 : N64 4 := ⟨by decide, by decide⟩
  have h0 : N64 0 := ⟨by decide, by decide⟩
  have h00 : (0 : Int) ≤ 0 := Int.le_refl _
  have h01 : (0 : Int) ≤ 18446744073709551615 := by decide
  have ht : (⟨#[]⟩ : ByteArray).size ≤ maxLen := by decide
  rcases hx with rfl | rfl | rfl | rfl | rfl
  · exact ⟨h1, ⟨n0, n1⟩, h00, h01, ht⟩
  · exact ⟨h2, h0, m0, m1, ht⟩
  · exact ⟨h4, h0, h00, h01, hs⟩
  · exact ⟨h2, h0, k0, k1, ht⟩
  · exact ⟨h2, h0, m0, m1, ht⟩
set_option maxRecDepth 100000 in
set_option maxHeartbeats 8000000 in
theorem back_any (n m k : Int) (s : ByteArray) (w : World) (n0 : -9223372036854775808 ≤ n) (n1 : n ≤ 9223372036854775807) (m0 : 0 ≤ m) (m1 : m ≤ 18446744073709551615) (k0 : 0 ≤ k) (k1 : k ≤ 18446744073709551615) (hs : s.size ≤ maxLen) :
    Calls Tryz.prog 4 #[.int .i64 n, .int .u64 m, .string s, .int .u64 k] w fun e w' => e = .returned (.bool true) ∧ Below w.heap.size w w' := by
  have HA := hide (alive18 w)
  have HI := hide (fun W => fint_any n W)
  have HUm := hide (fun W => fuint_any m W)
  have HUk := hide (fun W => fuint_any k W)
  have HT := hide (fun W => ftext_any s W)
  have HWd := hide (fun W => word18 s W hs)
  have HAB := hide (ags5_AB n0 n1 m0 m1 k0 k1 hs)
  have HFm := hide (fun (h : s.size ≤ 4096) => fmt5 n0 n1 m0 m1 k0 k1 h)
  have HBk := hide (fun (h : s.size ≤ 4096) h0 hb => back5 n0 n1 m0 m1 k0 k1 h h0 hb)
  have HLn := hide (fun (h : s.size ≤ 4096) => len5 n0 n1 m0 m1 k0 k1 h)
  unfold agV at HI HUm HUk HT
  simp only at HI HUm HUk HT
  clear n0 n1 m0 m1 k0 k1 hs
  go_enter Tryz.func4, Tryz.ntmps4
  go_wp2_with fail
  refine HA.out.mono ?_
  rintro _ w1 ⟨rfl, hB1⟩
  have HB1 := hide hB1
  clear hB1 HA
  go_wp2_with fail
  refine (HWd.out _).mono ?_
  rintro _ _ ⟨⟨b, rfl, hb⟩, rfl⟩
  have HB := hide hb
  clear hb
  cases b
  · go_wp2
    go_ret
    exact ⟨rfl, HB1.out⟩
  · obtain ⟨hbl, hne, h4⟩ := HB.out rfl
    have HBk2 := hide (HBk.out h4 hne hbl)
    have HFm2 := hide (HFm.out h4)
    have HLn2 := hide (HLn.out h4)
    clear hbl hne h4 HBk HFm HLn HB HWd
    go_wp2_with fail
    refine (HI.out _).mono ?_
    rintro _ w2 ⟨rfl, hB⟩
    have HB2 := hide (HB1.out.trans (hB.mono HB1.out.size))
    clear hB HB1
    go_wp2_with fail
    refine (HUm.out _).mono ?_
    rintro _ w3 ⟨rfl, hB⟩
    have HB3 := hide (HB2.out.trans (hB.mono HB2.out.size))
    clear hB HB2
    go_wp2_with fail
    refine (HT.out _).mono ?_
    rintro _ w4 ⟨rfl, hB⟩
    have HB4 := hide (HB3.out.trans (hB.mono HB3.out.size))
    clear hB HB3
    go_wp2_with fail
    refine (HUk.out _).mono ?_
    rintro _ w5 ⟨rfl, hB⟩
    have HB5 := hide (HB4.out.trans (hB.mono HB4.out.size))
    clear hB HB4
    go_wp2_with fail
    refine (HUm.out _).mono ?_
    rintro _ w6 ⟨rfl, hB⟩
    have HB6 := hide (HB5.out.trans (hB.mono HB5.out.size))
    clear hB HB5
    have HAg := hide (ags_lit w6 (ags5 n m k s) #[.int .i64 1, .int .i64 n, .int .u64 0, .string ⟨#[]⟩, .int .i64 2, .int .i64 0, .int .u64 m, .string ⟨#[]⟩, .int .i64 4, .int .i64 0, .int .u64 0, .string s, .int .i64 2, .int .i64 0, .int .u64 k, .string ⟨#[]⟩, .int .i64 2, .int .i64 0, .int .u64 m, .string ⟨#[]⟩] 42 (0, 0) 5 rfl rfl HAB.out)
    have HB7 := hide (HB6.out.trans ((fm_below w6 (Obj.cells #[.int .i64 1, .int .i64 n, .int .u64 0, .string ⟨#[]⟩, .int .i64 2, .int .i64 0, .int .u64 m, .string ⟨#[]⟩, .int .i64 4, .int .i64 0, .int .u64 0, .string s, .int .i64 2, .int .i64 0, .int .u64 k, .string ⟨#[]⟩, .int .i64 2, .int .i64 0, .int .u64 m, .string ⟨#[]⟩] 42)).mono HB6.out.size))
    go_wp2_with fail
    generalize w6.alloc (Obj.cells #[.int .i64 1, .int .i64 n, .int .u64 0, .string ⟨#[]⟩, .int .i64 2, .int .i64 0, .int .u64 m, .string ⟨#[]⟩, .int .i64 4, .int .i64 0, .int .u64 0, .string s, .int .i64 2, .int .i64 0, .int .u64 k, .string ⟨#[]⟩, .int .i64 2, .int .i64 0, .int .u64 m, .string ⟨#[]⟩] 42) = w7 at *
    refine (format_is ⟨#[37, 100, 32, 37, 120, 32, 37, 115, 32, 37, 117, 32, 37, 111]⟩ _ (ags5 n m k s) (txt5 n m k s) 0 14 (by decide) HFm2.out w7 HAg.out).mono ?_
    rintro _ w8 ⟨v8, rfl, hO8, hB8⟩
    obtain ⟨a8, c8, rfl⟩ := owns_slice hO8
    have HO8 := hide (Bys.of_owns hO8)
    have HB8 := hide (HB7.out.trans (hB8.mono HB7.out.size))
    have HAg8 := hide (HAg.out.below hB8)
    have HS := hide (scan_is ⟨#[37, 100, 32, 37, 120, 32, 37, 115, 32, 37, 117, 32, 37, 111]⟩ a8 c8 (txt5 n m k s) (aa := ags5 n m k s) (n := (txt5 n m k s).length) (e := 0) w8 (by decide) HO8.out (by
      obtain ⟨l1, l2, l3, l4, l5⟩ := HLn2.out
      unfold txt5 maxLen
      simp only [List.length_append, List.length_cons, List.length_nil]
      omega) HBk2.out)
    clear hO8 hB8 HAg HB7 HB6
    generalize (txt5 n m k s).length = L at *
    go_wp2_with fail
    refine HS.out.mono ?_
    rintro _ w9 ⟨u9, rfl, hU9, hB9⟩
    obtain ⟨a9, c9, rfl⟩ := owns_slice hU9
    have HU9 := hide (AgsV.of_owns hU9 HAB.out).1
    have HB9 := hide (HB8.out.trans (hB9.mono HB8.out.size))
    have HAg9 := hide (HAg8.out.below hB9)
    have HSm := hide (sameArgs_any _ _ (ags5 n m k s) w9 HU9.out HAg9.out (by show 5 ≤ maxLen; decide))
    clear hU9 hB9 HS HB8 HAg8 HO8
    go_wp2_with (first | (go_at_call 12; refine (num18 _ _).mono ?_; rintro _ _ ⟨rfl, rfl⟩) | (go_at_call 11; refine HSm.out.mono ?_; rintro _ w10 ⟨rfl, hB10⟩) | fail)
    go_ret
    exact ⟨rfl, HB9.out.trans (hB10.mono HB9.out.size)⟩
end Go.Proofs.YtcmfpafcipgejaaGreatDoor

/- ScanBack: for every int, two numbers of 64 bits and a word (without blanks, of 1 to 4096 bytes): formatted by one directive each, with a blank between, they are read again as they were. -/
namespace Go.Proofs.YtcmfpafcipgejaaGreatDoor.scanBack
open Go.ChangeShapes Go.WideShapes Go.ChangeAt Go.RowKit
open Go.ChangeMaps (open_string shut_string)
set_option linter.unusedVariables false

theorem own : ownKnob Tryz.prog.godebug = none := by kernel_rfl
theorem laidOut : laidOutB Tryz.prog = true := by kernel_rfl

set_option maxRecDepth 100000 in
theorem lifted (os : Os) (started : os.Started) (H : Type) (enc : TypeId × Value → H) :
    ReturnsInHanded {} Tryz.checked os 4 .any (fun w args => (Rows.scanBackSpec.pre enc Tryz.prog Tryz.f4 Rows.scanBackRow.domain false w args ∧ laidMetH Tryz.prog Rows.scanBackRow.laid w) ∧ sizedMet enc Tryz.prog Tryz.f4 (OpenSpec.ofChange Rows.scanBackSpec) false w args) (Rows.scanBackSpec.post enc Tryz.prog Tryz.f4 false true false false) := by
  refine returnsInHanded_of_change_and (C := Tryz.checked) (X := fun w _ => laidMetH Tryz.prog Rows.scanBackRow.laid w) (fun _ _ _ hh h => h.of_heap hh) own started (by kernel_rfl) Tryz.func4
    (ChangeSpec.witness_shaped (enc := enc) (C := Tryz.checked) (os := os) (X := fun w _ => laidMetH Tryz.prog Rows.scanBackRow.laid w) false (World.laidAll Tryz.prog os Rows.scanBackRow.laid) #[.int .i64 0, .int .u64 0, .string ByteArray.empty, .int .u64 0] 8 (World.laidAll_os _ _ _)
      (World.shaped_of_ZipB (by kernel_rfl) (by kernel_rfl)) (by kernel_rfl) (by kernel_rfl) (by kernel_rfl)
      (by rw [MakeChecks.laidMetH_plain _ _ _ (by kernel_rfl)]; exact laidMet_laidAll _ (by kernel_rfl) (by kernel_rfl))) ?_
  intro W base args ds gs before hval0 hW hcnd0 hsz0 _ _
  have hsz : (DataW.weightsEach Tryz.prog (Tryz.f4.params.toList ++ Rows.scanBackSpec.plain.varTypes Tryz.prog) (ds ++ gs)).all (· ≤ reachBytes) = true := hsz0
  clear hsz0
  have hval : ∀ (j : Nat) t v, Tryz.f4.params[j]? = some t → args[j]? = some v → Value.okWide Tryz.prog W .any base t v := hval0
  have hW' := hW
  obtain ⟨p, q, hA0, hV, rfl, hfz, hnd⟩ := hW
  have hA : DataW.TrodAll enc Tryz.prog W 0 (fun _ => true) true Tryz.f4.params.toList args.toList ds p := hA0
  rw [Tryz.params4] at hA hval hsz
  obtain ⟨v0, vs0, d0, ds0, p0, q0, hargs, rfl, rfl, h0, r0⟩ := trodAll_cons hA
  obtain ⟨v1, vs1, d1, ds1, p1, q1, rfl, rfl, rfl, h1, r1⟩ := trodAll_cons r0
  obtain ⟨v2, vs2, d2, ds2, p2, q2, rfl, rfl, rfl, h2, r2⟩ := trodAll_cons r1
  obtain ⟨v3, vs3, d3, ds3, p3, q3, rfl, rfl, rfl, h3, r3⟩ := trodAll_cons r2
  obtain ⟨rfl, rfl, rfl⟩ := trodAll_nil r3
  obtain rfl : args = #[v0, v1, v2, v3] := by cases args; simp_all
  obtain ⟨rfl, rfl⟩ := trodVars_none hV
  obtain ⟨a0, rfl, rfl, rfl, w0⟩ := open_int Tryz.underlying3 (hval 0 3 v0 rfl rfl) h0
  have b0 := bounds_i64 w0
  obtain ⟨a1, rfl, rfl, rfl, w1⟩ := open_int Tryz.underlying39 (hval 1 39 v1 rfl rfl) h1
  have b1 := bounds_u64 w1
  obtain ⟨a2, rfl, rfl, rfl, w2⟩ := open_string Tryz.underlying9 (hval 2 9 v2 rfl rfl) h2
  have z2 : a2.size ≤ 140737488351232 := by have := sized_string hsz (j := 2) (t := 9) rfl rfl; simpa [reachBytes] using this
  obtain ⟨a3, rfl, rfl, rfl, w3⟩ := open_int Tryz.underlying39 (hval 3 39 v3 rfl rfl) h3
  have b3 := bounds_u64 w3
  clear hA0
  refine (back_any a0 a1 a3 a2 W b0.1 (by omega) b1.1 (by omega) b3.1 (by omega) (by unfold maxLen; omega)).mono fun e W' ⟨he, bel⟩ => ?_
  subst he
  exact ⟨_, rfl, _, _, _, [], _, [], hW', trodAll_mk1 (shut_bool Tryz.underlying4 _), (trodAll_cons_mk (shut_int Tryz.underlying3 w0) (trodAll_cons_mk (shut_int Tryz.underlying39 w1) (trodAll_cons_mk (shut_string Tryz.underlying9 w2) (trodAll_cons_mk (shut_int Tryz.underlying39 w3) trodAll_mk0)))), rfl, bel.frame _, fun h => by cases h⟩

theorem over : Rows.ScanBackSaid :=
  OpenClaim.holds_of_wide 4 Tryz.f4 rfl rfl rfl rfl rfl rfl rfl ⟨rfl, rfl, rfl, rfl, rfl⟩ rfl rfl rfl rfl rfl (by kernel_rfl) Tryz.func4 (by kernel_rfl)
    (of_decide_eq_true (by kernel_rfl)) (by unfold Func.isWrapper; first | (rw [if_pos (by decide +kernel)]; kernel_rfl) | (rw [if_neg (by decide +kernel)]; exact ⟨rfl, rfl⟩))
    (fun os started H enc _ => lifted os started H enc)
set_option maxRecDepth 100000 in
theorem card : Rows.ScanBackCardSaid :=
  Claim7.holds_tied_plain_at .later [] [.data, .pinned, .pinned] true Rows.scanBackCard.stood.harness false over (fun _ h => by cases h) (by kernel_rfl) (fun _ h => by cases h) scanBack_row_tie rfl ⟨rfl, rfl⟩ (by kernel_rfl) rfl
    (fun f fn hf hfn => by
      obtain rfl : f = 4 := Option.some.inj ((show Tryz.prog.funcNamed "millrace/millracelaw18.ScanBack" = some 4 by kernel_rfl).symm.trans hf) |>.symm
      obtain rfl : fn = Tryz.f4 := (Option.some.inj (Tryz.func4.symm.trans hfn)).symm
      exact ⟨by kernel_rfl, fun j t ht => by
        rw [Tryz.params4] at ht
        have hm : t ∈ [3, 39, 9, 39] := by simpa using Array.mem_of_getElem? ht
        have hall : ([3, 39, 9, 39].all fun u => !Tryz.prog.wantsStandIn u) = true := by kernel_rfl
        exact (show Tryz.prog.wantsStandIn t = false by simpa using List.all_eq_true.1 hall t hm)⟩)
    (by kernel_rfl)
end Go.Proofs.YtcmfpafcipgejaaGreatDoor.scanBack
namespace Go.Proofs.YtcmfpafcipgejaaGreatDoor
theorem scanBack_holds : Rows.ScanBackCardSaid := scanBack.card
#print axioms scanBack_holds
end Go.Proofs.YtcmfpafcipgejaaGreatDoor
