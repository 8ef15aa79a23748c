/- What the proof stands on, part 5: the contracts of the program's calls that it reaches. -/
import Derived.Test.YtcmfpafcipgejaaGreatDoorKB4
import Derived.KernelRfl
/- Scan: digits and what they are worth, as values. -/
namespace Go.Proofs.YtcmfpafcipgejaaGreatDoor
open Go.RowKit
def Dgs (l : List UInt8) : Prop := ∀ c ∈ l, 48 ≤ c.toNat ∧ c.toNat ≤ 57
theorem dig10 (c : UInt8) : digB 10 c = true ↔ 48 ≤ c.toNat ∧ c.toNat ≤ 57 := by
  unfold digB valI
  rw [decide_eq_true_iff]
  split
  · omega
  · split
    · omega
    · split <;> omega
theorem valI_dig {c : UInt8} (h : 48 ≤ c.toNat ∧ c.toNat ≤ 57) : valI (c.toNat : Int) = ((c.toNat - 48 : Nat) : Int) := by
  unfold valI
  rw [if_pos (by omega)]
  omega
theorem val10_add : ∀ (r : List UInt8) (y : Nat), val10 r y = y * 10 ^ r.length + val10 r 0
  | [], y => by simp [val10]
  | c :: r, y => by
    show val10 r (y * 10 + (c.toNat - 48)) = y * 10 ^ (r.length + 1) + val10 r (0 * 10 + (c.toNat - 48))
    rw [val10_add r (y * 10 + (c.toNat - 48)), val10_add r (0 * 10 + (c.toNat - 48)), Nat.pow_succ, Nat.add_mul, Nat.add_mul]
    have : y * 10 * 10 ^ r.length = y * (10 ^ r.length * 10) := by rw [Nat.mul_assoc, Nat.mul_comm 10]
    omega
theorem val10_bd {r : List UInt8} (h : Dgs r) : val10 r 0 < 10 ^ r.length := by
  have := val10_lt r 0 h
  simpa using this
theorem sgn_dig (d : Fin 16) : d.val < 10 → (sgn d).toNat = 48 + d.val := by revert d; decide
theorem dl_val : ∀ (r : List UInt8), Dgs r → r ≠ [] → ∀ x, (dl 10 (val10 r x) (r.length - 1)).map sgn = r
  | [], _, h, _ => absurd rfl h
  | c :: r, hd, _, x => by
    have hc := hd c (List.mem_cons_self ..)
    have hr : Dgs r := fun a ha => hd a (List.mem_cons_of_mem _ ha)
    have hv : val10 (c :: r) x = val10 r (x * 10 + (c.toNat - 48)) := rfl
    have hdg : ∀ n, n / 10 ^ r.length = x * 10 + (c.toNat - 48) → sgn (dg 10 n r.length) = c := fun n hn => by
      have h1 := dg_val 10 n r.length (by decide) (by decide)
      have h2 : (dg 10 n r.length).val = c.toNat - 48 := by rw [h1, hn]; omega
      apply UInt8.toNat_inj.1
      rw [sgn_dig _ (by omega), h2]
      omega
    have hdiv : val10 (c :: r) x / 10 ^ r.length = x * 10 + (c.toNat - 48) := by
      rw [hv, val10_add]
      have hb := val10_bd hr
      have hp : 0 < 10 ^ r.length := Nat.pos_of_ne_zero (by intro e; omega)
      rw [Nat.mul_comm, Nat.mul_add_div hp, Nat.div_eq_of_lt hb, Nat.add_zero]
    cases hr0 : r with
    | nil =>
      have := hdg (val10 (c :: r) x) hdiv
      rw [hr0] at this
      show [sgn (dg 10 _ 0)] = [c]
      simpa using this
    | cons a r2 =>
      rw [← hr0]
      have hne : r ≠ [] := by rw [hr0]; simp
      have ih := dl_val r hr hne (x * 10 + (c.toNat - 48))
      have hl : (c :: r).length - 1 = (r.length - 1) + 1 := by rw [hr0]; simp
      rw [hl]
      show sgn (dg 10 _ (r.length - 1 + 1)) :: (dl 10 (val10 (c :: r) x) (r.length - 1)).map sgn = c :: r
      rw [hv, ih, show r.length - 1 + 1 = r.length by rw [hr0]; simp, ← hv, hdg _ hdiv]
theorem digs_val {c : UInt8} {r : List UInt8} (h : Dgs (c :: r)) (h0 : c.toNat ≠ 48) (hm : val10 (c :: r) 0 < 18446744073709551616) : digs 10 (val10 (c :: r) 0) = c :: r := by
  have hb := val10_bd h
  have hc := h c (List.mem_cons_self ..)
  have ht : top 10 (val10 (c :: r) 0) = r.length := by
    refine top_unique 10 _ _ (by decide) hm hb (.inr ?_)
    show 10 ^ r.length ≤ val10 r (0 * 10 + (c.toNat - 48))
    rw [val10_add]
    have : 1 * 10 ^ r.length ≤ (0 * 10 + (c.toNat - 48)) * 10 ^ r.length := Nat.mul_le_mul_right _ (by omega)
    omega
  unfold digs
  rw [ht]
  exact dl_val (c :: r) h (by simp) 0
theorem pb_ix (b : Int) : ∀ (l : List UInt8) (n i j : Int), (pb b l n i).1 = (pb b l n j).1 ∧ (pb b l n i).2.1 = (pb b l n j).2.1
  | [], _, _, _ => ⟨rfl, rfl⟩
  | c :: r, n, i, j => by
    rw [pb, pb]
    split
    · exact ⟨rfl, rfl⟩
    · split
      · exact ⟨rfl, rfl⟩
      · exact pb_ix b r _ _ _
theorem pb_zer : ∀ (j : Nat) (l : List UInt8) (i : Int), pb 10 (List.replicate j 48 ++ l) 0 i = pb 10 l 0 (i + j)
  | 0, l, i => by simp
  | j + 1, l, i => by
    rw [List.replicate_succ, List.cons_append, pb, if_neg (by decide), if_neg (by decide)]
    show pb 10 (List.replicate j 48 ++ l) (0 * 10 + valI ((48 : UInt8).toNat : Int)) (i + 1) = _
    rw [show (0 : Int) * 10 + valI ((48 : UInt8).toNat : Int) = 0 from by decide, pb_zer j l (i + 1)]
    congr 1
    omega
theorem pb_val : ∀ (r : List UInt8), Dgs r → ∀ (n : Nat) (i : Int), (pb 10 r n i).2.1 = 0 → (pb 10 r n i).1 = (val10 r n : Int)
  | [], _, n, i, _ => rfl
  | c :: r, h, n, i, he => by
    have hc := h c (List.mem_cons_self ..)
    have hv := valI_dig hc
    have hr : Dgs r := fun a ha => h a (List.mem_cons_of_mem _ ha)
    rw [pb] at he ⊢
    rw [if_neg (by omega)] at he ⊢
    split at he
    · exact absurd he (by show (4 : Int) ≠ 0; decide)
    · rename_i h2
      rw [if_neg h2]
      have e : (n : Int) * 10 + valI (c.toNat : Int) = ((n * 10 + (c.toNat - 48) : Nat) : Int) := by rw [hv]; omega
      rw [e] at he ⊢
      exact pb_val r hr _ _ he
theorem pb_lim : ∀ (r : List UInt8) (n i : Int), 0 ≤ n → n ≤ 18446744073709551615 → (pb 10 r n i).1 ≤ 18446744073709551615 ∧ 0 ≤ (pb 10 r n i).1
  | [], n, i, h0, h1 => ⟨h1, h0⟩
  | c :: r, n, i, h0, h1 => by
    rw [pb]
    split
    · exact ⟨by show (0 : Int) ≤ _; decide, Int.le_refl _⟩
    · split
      · exact ⟨by show (0 : Int) ≤ _; decide, Int.le_refl _⟩
      · rename_i h2 h3
        have hv := valI_bd (c.toNat : Int)
        have := step_fits (by decide : (0 : Int) < 10) h3
        exact pb_lim r _ _ (by omega) this
theorem intV_of {sg ds : List UInt8} (hs : sg = [] ∨ ∃ c, isSg c = true ∧ sg = [c]) (hd : Dgs ds) (hn : ds ≠ []) : intV (sg ++ ds) = if (parseB 10 ds).2.1 ≠ 0 then none
  else if sg = [45] then (if (parseB 10 ds).1 ≤ 9223372036854775808 then some (-(parseB 10 ds).1) else none)
  else if (parseB 10 ds).1 < 9223372036854775808 then some (parseB 10 ds).1 else none := by
  unfold intV
  rcases hs with rfl | ⟨c, hc, rfl⟩
  · cases ds with
    | nil => exact absurd rfl hn
    | cons d r =>
      have h1 := hd d (List.mem_cons_self ..)
      have h2 : isSg d = false := by unfold isSg; simp; omega
      have h3 : ¬ d.toNat = 45 := by omega
      simp only [List.nil_append, List.getD_cons_zero, h2, Bool.false_eq_true, ↓reduceIte, h3]
      simp
  · simp only [List.cons_append, List.nil_append, List.getD_cons_zero, hc, ↓reduceIte, List.drop_succ_cons, List.drop_zero]
    have : (c.toNat = 45) ↔ ([c] = [(45 : UInt8)]) := ⟨fun e => by rw [show c = 45 from UInt8.toNat_inj.1 e], fun e => by cases e; rfl⟩
    simp only [this]
theorem parse_zer (z : Nat) (t : List UInt8) (hn : List.replicate z (48 : UInt8) ++ t ≠ []) : (parseB 10 (List.replicate z 48 ++ t)).1 = (pb 10 t 0 0).1 ∧ (parseB 10 (List.replicate z 48 ++ t)).2.1 = (pb 10 t 0 0).2.1 := by
  rw [parseB_yes _ _ (by decide) (by decide) hn, pb_zer]
  exact pb_ix 10 t 0 _ 0
theorem zer_split : ∀ ds : List UInt8, ∃ z t, ds = List.replicate z 48 ++ t ∧ t.head? ≠ some 48
  | [] => ⟨0, [], rfl, by simp⟩
  | c :: r => by
    by_cases h : c = 48
    · obtain ⟨z, t, h1, h2⟩ := zer_split r
      exact ⟨z + 1, t, by rw [h, h1]; rfl, h2⟩
    · exact ⟨0, c :: r, rfl, by simpa using h⟩
theorem int_zero {sg : List UInt8} {z : Nat} (hs : sg = [] ∨ ∃ c, isSg c = true ∧ sg = [c]) (hn : List.replicate z (48 : UInt8) ++ [] ≠ []) : intV (sg ++ (List.replicate z 48 ++ [])) = some 0 := by
  have hd : Dgs (List.replicate z (48 : UInt8) ++ []) := fun c hc => by
    rw [List.append_nil, List.mem_replicate] at hc
    rw [hc.2]; decide
  rw [intV_of hs hd hn, (parse_zer z [] hn).1, (parse_zer z [] hn).2]
  show (if (0 : Int) ≠ 0 then none else if sg = [45] then (if (0 : Int) ≤ 9223372036854775808 then some (-(0 : Int)) else none) else if (0 : Int) < 9223372036854775808 then some (0 : Int) else none) = _
  split
  · contradiction
  · split <;> rfl
theorem int_parse {sg t : List UInt8} {z : Nat} (hs : sg = [] ∨ ∃ c, isSg c = true ∧ sg = [c]) (hd : Dgs t) (hn : t ≠ []) (h0 : t.head? ≠ some 48) {v e : Int} (hp : PI (if sg = [45] then 45 :: t else t) v e) : (e = 0 ∧ intV (sg ++ (List.replicate z 48 ++ t)) = some v) ∨ (e = 11 ∧ intV (sg ++ (List.replicate z 48 ++ t)) = none) := by
  have hd2 : Dgs (List.replicate z (48 : UInt8) ++ t) := fun c hc => by
    rcases List.mem_append.1 hc with h | h
    · rw [List.mem_replicate] at h; rw [h.2]; decide
    · exact hd c h
  have hn2 : List.replicate z (48 : UInt8) ++ t ≠ [] := fun e => hn (List.append_eq_nil_iff.1 e).2
  rw [intV_of hs hd2 hn2, (parse_zer z t hn2).1, (parse_zer z t hn2).2]
  obtain ⟨c, r, rfl⟩ : ∃ c r, t = c :: r := by
    cases t with
    | nil => exact absurd rfl hn
    | cons c r => exact ⟨c, r, rfl⟩
  have hc := hd c (List.mem_cons_self ..)
  have hc0 : c.toNat ≠ 48 := fun e => h0 (by rw [show c = 48 from UInt8.toNat_inj.1 e]; rfl)
  have hpy : ∀ l : List UInt8, l ≠ [] → parseB 10 l = pb 10 l 0 0 := fun l hl => parseB_yes _ _ (by decide) (by decide) hl
  rcases hp with ⟨n, n0, n1, hdn, rfl, rfl⟩ | ⟨hno, rfl, rfl⟩
  · refine .inl ⟨rfl, ?_⟩
    by_cases hm : sg = [45]
    · rw [if_pos hm] at hdn
      obtain ⟨g1, g2⟩ := parse_neg n0 n1 hdn
      rw [hpy _ (by simp)] at g2
      rw [g2, if_neg (by simp), if_pos hm, if_pos (by show -v ≤ _; omega)]
      show some (- -v) = some v
      rw [Int.neg_neg]
    · rw [if_neg hm] at hdn
      obtain ⟨g1, g2⟩ := parse_pos n0 n1 hdn (by simp; intro e; rw [e] at hc; revert hc; decide)
      rw [hpy _ (by simp)] at g2
      rw [g2, if_neg (by simp), if_neg hm, if_pos (by show v < _; omega)]
  · refine .inr ⟨rfl, ?_⟩
    by_cases he : (pb 10 (c :: r) 0 0).2.1 = 0
    · have hv := pb_val (c :: r) hd 0 0 he
      have hl := (pb_lim (c :: r) 0 0 (by decide) (by decide)).1
      rw [show ((0 : Nat) : Int) = 0 from rfl] at hv
      rw [hv] at hl
      have hg := digs_val hd hc0 (by omega)
      have hpos : 0 < val10 (c :: r) 0 := by
        show 0 < val10 r (0 * 10 + (c.toNat - 48))
        rw [val10_add]
        have : 1 * 10 ^ r.length ≤ (0 * 10 + (c.toNat - 48)) * 10 ^ r.length := Nat.mul_le_mul_right _ (by omega)
        have : 0 < 10 ^ r.length := Nat.pow_pos (by decide)
        omega
      rw [hv, if_neg (by rw [he]; simp)]
      generalize val10 (c :: r) 0 = m at *
      by_cases hm : sg = [45]
      · rw [if_pos hm] at hno ⊢
        rw [if_neg]
        intro hle
        refine hno (-(m : Int)) (by omega) (by omega) ?_
        unfold dec
        rw [if_pos (by omega), show (-(m : Int)).natAbs = m by omega, hg]
      · rw [if_neg hm] at hno ⊢
        rw [if_neg]
        intro hle
        refine hno (m : Int) (by omega) (by omega) ?_
        unfold dec
        rw [if_neg (by omega), show ((m : Int)).natAbs = m by omega, hg]
    · rw [if_pos he]
end Go.Proofs.YtcmfpafcipgejaaGreatDoor

/- Two objects in memory that share nothing. -/
namespace Go.Proofs.YtcmfpafcipgejaaGreatDoor
open Go.RowKit

end Go.Proofs.YtcmfpafcipgejaaGreatDoor

/- Scan: sources and what fits, in memory; the next byte, if it fits. -/
namespace Go.Proofs.YtcmfpafcipgejaaGreatDoor
open Go.RowKit

structure SrcM {S : Type} (D : SrcD S) (T : TypeId) (v : Value) (fn fb : FuncId) (K : Nat → Prop) (At : World → (Nat → Prop) → S → Prop) : Prop where
  mnext : ∀ w, (method 436 T v "millrace/scan.next").run Tryz.prog w = .ok (fn, v) w
  mback : ∀ w, (method 436 T v "millrace/scan.back").run Tryz.prog w = .ok (fb, v) w
  cnext : ∀ a w, (callFunc fn a).run Tryz.prog w = .ok (.enter fn a) w
  cback : ∀ a w, (callFunc fb a).run Tryz.prog w = .ok (.enter fb a) w
  keep : ∀ {w w' : World} {O : Nat → Prop} {s : S}, At w O s → (∀ j, O j ∨ K j → j < w.heap.size → w'.heap[j]? = w.heap[j]?) → w.heap.size ≤ w'.heap.size → At w' O s
  trim : ∀ {w : World} {O : Nat → Prop} {s : S}, At w O s → At w (fun k => O k ∧ k < w.heap.size) s
  next : ∀ {w : World} {O : Nat → Prop} {s : S}, At w O s → Calls Tryz.prog fn #[v] w fun e w' => e = .returned (.tuple #[.int .u8 ((D.next s).1.toNat : Int), .int .i64 (D.next s).2.1]) ∧ ∃ O', At w' O' (D.next s).2.2 ∧ (∀ k, O' k → O k ∨ w.heap.size ≤ k) ∧ Turned O w w'
  back : ∀ {w : World} {O : Nat → Prop} {s : S} (c : UInt8), At w O s → (∃ w0 O0 s0, At w0 O0 s0 ∧ D.next s0 = (c, 0, s)) → Calls Tryz.prog fb #[v, .int .u8 (c.toNat : Int)] w fun e w' => e = .returned (.tuple #[]) ∧ ∃ O', At w' O' (D.back s c) ∧ (∀ k, O' k → O k ∨ w.heap.size ≤ k) ∧ Turned O w w'
structure FitM (f : Bool → UInt8 → Bool × Bool) (ff : FuncId) (caps : Array Value) (F FK : Nat → Prop) (FAt : World → Bool → Prop) : Prop where
  enter : ∀ a w, (callFunc ff a).run Tryz.prog w = .ok (.enter ff a) w
  keep : ∀ {w w' : World} {q : Bool}, FAt w q → (∀ j, F j ∨ FK j → j < w.heap.size → w'.heap[j]? = w.heap[j]?) → w.heap.size ≤ w'.heap.size → FAt w' q
  call : ∀ {w : World} {q : Bool} (c : UInt8), FAt w q → Calls Tryz.prog ff (#[.int .u8 (c.toNat : Int)] ++ caps) w fun e w' => e = .returned (.bool (f q c).1) ∧ FAt w' (f q c).2 ∧ Turned F w w'
structure JAt {S : Type} (At : World → (Nat → Prop) → S → Prop) (K : Nat → Prop) (FAt : World → Bool → Prop) (F FK : Nat → Prop) (w : World) (O : Nat → Prop) (s : S) (q : Bool) : Prop where
  src : At w O s
  fit : FAt w q
  fo : ∀ j, F j → j < w.heap.size ∧ ¬ O j ∧ ¬ K j
  ko : ∀ j, FK j → j < w.heap.size ∧ ¬ O j
  kf : ∀ j, FK j → ¬ F j
  os : ∀ j, O j → j < w.heap.size
theorem JAt.keep {S : Type} {D : SrcD S} {T : TypeId} {v : Value} {fn fb : FuncId} {K : Nat → Prop} {At : World → (Nat → Prop) → S → Prop} (R : SrcM D T v fn fb K At) {f : Bool → UInt8 → Bool × Bool} {ff : FuncId} {caps : Array Value} {F FK : Nat → Prop} {FAt : World → Bool → Prop} (M : FitM f ff caps F FK FAt) {w w' : World} {O : Nat → Prop} {s : S} {q : Bool} (h : JAt At K FAt F FK w O s q) (hk : ∀ j, j < w.heap.size → O j ∨ K j ∨ F j ∨ FK j → w'.heap[j]? = w.heap[j]?) (hz : w.heap.size ≤ w'.heap.size) : JAt At K FAt F FK w' O s q :=
  ⟨R.keep h.src (fun j e hl => hk j hl (e.elim .inl (fun e => .inr (.inl e)))) hz, M.keep h.fit (fun j e hl => hk j hl (.inr (.inr e))) hz, fun j e => ⟨Nat.lt_of_lt_of_le (h.fo j e).1 hz, (h.fo j e).2⟩, fun j e => ⟨Nat.lt_of_lt_of_le (h.ko j e).1 hz, (h.ko j e).2⟩, h.kf, fun j e => Nat.lt_of_lt_of_le (h.os j e) hz⟩
theorem JAt.below {S : Type} {D : SrcD S} {T : TypeId} {v : Value} {fn fb : FuncId} {K : Nat → Prop} {At : World → (Nat → Prop) → S → Prop} (R : SrcM D T v fn fb K At) {f : Bool → UInt8 → Bool × Bool} {ff : FuncId} {caps : Array Value} {F FK : Nat → Prop} {FAt : World → Bool → Prop} (M : FitM f ff caps F FK FAt) {w w' : World} {O : Nat → Prop} {s : S} {q : Bool} (h : JAt At K FAt F FK w O s q) (hB : Below w.heap.size w w') : JAt At K FAt F FK w' O s q := h.keep R M (fun j hl _ => hB.block j hl) hB.size
def JStep {S : Type} (At : World → (Nat → Prop) → S → Prop) (K : Nat → Prop) (FAt : World → Bool → Prop) (F FK : Nat → Prop) (w : World) (O : Nat → Prop) (s : S) (q : Bool) (w' : World) : Prop := ∃ O', JAt At K FAt F FK w' O' s q ∧ (∀ k, O' k → O k ∨ w.heap.size ≤ k) ∧ Turned (fun k => O k ∨ F k) w w'
theorem JAt.byS {S : Type} {D : SrcD S} {T : TypeId} {v : Value} {fn fb : FuncId} {K : Nat → Prop} {At : World → (Nat → Prop) → S → Prop} (R : SrcM D T v fn fb K At) {f : Bool → UInt8 → Bool × Bool} {ff : FuncId} {caps : Array Value} {F FK : Nat → Prop} {FAt : World → Bool → Prop} (M : FitM f ff caps F FK FAt) {w w' : World} {O : Nat → Prop} {s s' : S} {q : Bool} (h : JAt At K FAt F FK w O s q) (hs : ∃ O', At w' O' s' ∧ (∀ k, O' k → O k ∨ w.heap.size ≤ k) ∧ Turned O w w') : JStep At K FAt F FK w O s' q w' := by
  obtain ⟨O', h1, h2, h3⟩ := hs
  have hz := h3.size
  refine ⟨fun k => O' k ∧ k < w'.heap.size, ⟨?_, M.keep h.fit (fun j e hl => h3.block j hl (e.elim (fun e => (h.fo j e).2.1) (fun e => (h.ko j e).2))) hz, fun j e => ?_, fun j e => ?_, h.kf, fun j e => e.2⟩, fun k e => h2 k e.1, h3.mono (fun _ e => .inl e)⟩
  · exact R.trim h1
  · have := h.fo j e
    exact ⟨Nat.lt_of_lt_of_le this.1 hz, fun e2 => (h2 j e2.1).elim this.2.1 (fun e3 => by omega), this.2.2⟩
  · have := h.ko j e
    exact ⟨Nat.lt_of_lt_of_le this.1 hz, fun e2 => (h2 j e2.1).elim this.2 (fun e3 => by omega)⟩
theorem JAt.byF {S : Type} {D : SrcD S} {T : TypeId} {v : Value} {fn fb : FuncId} {K : Nat → Prop} {At : World → (Nat → Prop) → S → Prop} (R : SrcM D T v fn fb K At) {F FK : Nat → Prop} {FAt : World → Bool → Prop} {w w' : World} {O : Nat → Prop} {s : S} {q q' : Bool} (h : JAt At K FAt F FK w O s q) (hf : FAt w' q' ∧ Turned F w w') : JAt At K FAt F FK w' O s q' :=
  have hz := hf.2.size
  ⟨R.keep h.src (fun j e hl => hf.2.block j hl (fun e2 => e.elim (h.fo j e2).2.1 (h.fo j e2).2.2)) hz, hf.1, fun j e => ⟨Nat.lt_of_lt_of_le (h.fo j e).1 hz, (h.fo j e).2⟩, fun j e => ⟨Nat.lt_of_lt_of_le (h.ko j e).1 hz, (h.ko j e).2⟩, h.kf, fun j e => Nat.lt_of_lt_of_le (h.os j e) hz⟩
theorem JStep.ahead {S : Type} {At : World → (Nat → Prop) → S → Prop} {K : Nat → Prop} {FAt : World → Bool → Prop} {F FK : Nat → Prop} {w w0 w' : World} {O : Nat → Prop} {s : S} {q : Bool} (h : JStep At K FAt F FK w0 O s q w') (hB : Below w.heap.size w w0) : JStep At K FAt F FK w O s q w' := by
  obtain ⟨O', h1, h2, h3⟩ := h
  have := hB.size
  exact ⟨O', h1, fun k e => (h2 k e).imp id (fun e => by omega), (Turned.of_below hB).trans h3 (fun _ _ e => e)⟩
theorem JStep.then {S : Type} {At : World → (Nat → Prop) → S → Prop} {K : Nat → Prop} {FAt : World → Bool → Prop} {F FK : Nat → Prop} {w w1 w2 : World} {O O1 : Nat → Prop} {s2 : S} {q2 : Bool} (h2 : ∀ k, O1 k → O k ∨ w.heap.size ≤ k) (h3 : Turned (fun k => O k ∨ F k) w w1) (h : JStep At K FAt F FK w1 O1 s2 q2 w2) : JStep At K FAt F FK w O s2 q2 w2 := by
  obtain ⟨O', g1, g2, g3⟩ := h
  have := h3.size
  exact ⟨O', g1, fun k e => (g2 k e).elim (h2 k) (fun e => .inr (by omega)), h3.trans g3 (fun k hk e => e.elim (fun e => (h2 k e).elim .inl (fun e => by omega)) .inr)⟩
def oneT (x : UInt8 × Bool × Int) : Value := .tuple #[.int .u8 (x.1.toNat : Int), .bool x.2.1, .int .i64 x.2.2]
set_option maxRecDepth 100000 in
set_option maxHeartbeats 4000000 in
theorem one_any {S : Type} {D : SrcD S} {T : TypeId} {v : Value} {fn fb : FuncId} {K : Nat → Prop} {At : World → (Nat → Prop) → S → Prop} (R : SrcM D T v fn fb K At) {f : Bool → UInt8 → Bool × Bool} {ff : FuncId} {caps : Array Value} {F FK : Nat → Prop} {FAt : World → Bool → Prop} (M : FitM f ff caps F FK FAt) {w : World} {O : Nat → Prop} {s : S} {q : Bool} (h : JAt At K FAt F FK w O s q) :
    Calls Tryz.prog 94 #[.agg #[.iface T v], .func (.func ff) #[] caps] w fun e w' => e = .returned (oneT (oneV D f s q).1) ∧ JStep At K FAt F FK w O (oneV D f s q).2.1 (oneV D f s q).2.2 w' := by
  have m1 := R.mnext
  have m2 := R.mback
  have m3 := R.cnext
  have m4 := R.cback
  have m5 := M.enter
  have HB0 := hide (fm_below w (Obj.cells #[.iface T v] 70))
  have HJ0 := hide (h.below R M (fm_below w (Obj.cells #[.iface T v] 70)))
  have c0 := cell_of_row (w.alloc (Obj.cells #[.iface T v] 70)) w.heap.size 0 _ _ _ (heap_alloc_new w (Obj.cells #[.iface T v] 70))
  simp only [List.getElem?_toArray, List.getElem?_cons_zero] at c0
  have HW0 := hide (heap_alloc_new w (Obj.cells #[.iface T v] 70))
  have HR0 := hide (And.intro (fun j (e : O j) => h.os j e) (fun j (e : F j) => (h.fo j e).1))
  clear h
  obtain ⟨c, e, s1, hn⟩ : ∃ c e s1, D.next s = (c, e, s1) := ⟨_, _, _, rfl⟩
  have HN := hide hn
  have HX := hide (R.next HJ0.out.src)
  unfold oneV
  rw [hn] at HX ⊢
  clear hn
  simp only at HX ⊢
  by_cases he : e = 0
  · subst he
    rw [if_pos rfl]
    obtain ⟨b, q2, hfq⟩ : ∃ b q2, f q c = (b, q2) := ⟨_, _, rfl⟩
    have HYF := hide (fun (W : World) (h : FAt W q) => M.call c h)
    rw [hfq] at HYF ⊢
    clear hfq
    simp only at HYF ⊢
    obtain ⟨B, hB⟩ : ∃ B, B = b := ⟨_, rfl⟩
    cases b
    all_goals
      simp only [↓reduceIte, Bool.false_eq_true]
      subst hB
    all_goals
     go_enter Tryz.func94, Tryz.ntmps94
     go_wp2_with fail
     refine HX.out.mono ?_
     rintro _ w1 ⟨rfl, hS1⟩
     obtain ⟨O1, hJ1, hO1, hT1⟩ := HJ0.out.byS R M hS1
     have HW1 := hide ((hT1.block _ (by have : w.heap.size < (w.alloc (Obj.cells #[.iface T v] 70)).heap.size := by rw [show (w.alloc (Obj.cells #[.iface T v] 70)).heap.size = w.heap.size + 1 from Array.size_push ..]; omega
                                        exact this) (fun e => e.elim (fun e => by have := HR0.out.1 _ e; omega) (fun e => by have := HR0.out.2 _ e; omega))).trans HW0.out)
     have HJ1 := hide hJ1
     have HO1 := hide hO1
     have HT1 := hide hT1
     clear hS1 hJ1 hO1 hT1 HX
     have c1 := cell_of_row w1 w.heap.size 0 _ _ _ HW1.out
     simp only [List.getElem?_toArray, List.getElem?_cons_zero] at c1
     have HY := hide (HYF.out _ HJ1.out.fit)
     go_wp2_with fail
     refine HY.out.mono ?_
     rintro _ w2 ⟨rfl, hf2, hT2⟩
     have HJ2 := hide (HJ1.out.byF R ⟨hf2, hT2⟩)
     have HS2 := hide (And.intro HO1.out (HT1.out.trans hT2 (fun _ _ e => .inr e)))
     have HW2 := hide ((hT2.block _ (World.block_lt_of_cell? w1 _ c1) (fun e => by have := HR0.out.2 _ e; simp only at this; omega)).trans HW1.out)
     clear hf2 hT2 HY c1 HW1 HJ1
     have c2 := cell_of_row w2 w.heap.size 0 _ _ _ HW2.out
     simp only [List.getElem?_toArray, List.getElem?_cons_zero] at c2
    · have HZ := hide (R.back c HJ2.out.src ⟨_, _, s, HJ0.out.src, HN.out⟩)
      go_wp2_with fail
      refine HZ.out.mono ?_
      rintro _ w3 ⟨rfl, hS3⟩
      have HJ3 := hide (JStep.then HS2.out.1 HS2.out.2 (HJ2.out.byS R M hS3))
      clear hS3 HZ
      go_wp2
      go_ret3
      exact ⟨rfl, HJ3.out.ahead HB0.out⟩
    · go_wp2
      go_ret3
      exact ⟨rfl, JStep.ahead ⟨_, HJ2.out, HS2.out.1, HS2.out.2⟩ HB0.out⟩
  · rw [if_neg he]
    have hne : (e != 0) = true := by simp [he]
    go_enter Tryz.func94, Tryz.ntmps94
    go_wp2_with fail
    refine HX.out.mono ?_
    rintro _ w1 ⟨rfl, hS1⟩
    have HJ1 := hide ((HJ0.out.byS R M hS1).ahead HB0.out)
    clear hS1
    go_wp2
    go_ret3
    exact ⟨rfl, HJ1.out⟩
end Go.Proofs.YtcmfpafcipgejaaGreatDoor

/- Scan: bytes are gathered as long as they fit; blanks are passed. -/
namespace Go.Proofs.YtcmfpafcipgejaaGreatDoor
open Go.RowKit
def lenS : Value → Nat
  | .slice _ n _ => n
  | _ => 0
theorem sone_bys (w : World) (c : UInt8) : Bys (w.alloc (Obj.cells #[.int .u8 (c.toNat : Int)] 5)) (.slice (some ⟨w.heap.size, 0, none⟩) 1 1) [c] := .inr (.inr ⟨_, _, _, rfl, Nat.zero_lt_one, fun j hj => by
  obtain rfl : j = 0 := by simpa using hj
  exact cell_of_row _ w.heap.size 0 _ _ _ (heap_alloc_new w _)⟩)
def SStep {S : Type} (At : World → (Nat → Prop) → S → Prop) (F : Nat → Prop) (w : World) (O : Nat → Prop) (s : S) (w' : World) : Prop := ∃ O', At w' O' s ∧ (∀ k, O' k → k < w'.heap.size) ∧ (∀ k, O' k → O k ∨ w.heap.size ≤ k) ∧ Turned (fun k => O k ∨ F k) w w'
def GStep {S : Type} (At : World → (Nat → Prop) → S → Prop) (F : Nat → Prop) (w : World) (O : Nat → Prop) (s : S) (u : Value) (l : List UInt8) (w' : World) : Prop := ∃ O', (At w' O' s ∧ (∀ k, O' k → k < w'.heap.size) ∧ (∀ k, O' k → O k ∨ w.heap.size ≤ k) ∧ Turned (fun k => O k ∨ F k) w w') ∧ w'.ownsRow w.heap.size 5 1 u l.length (l.map bv) ∧ ∀ k, u.ownBlock = some k → ¬ O' k
theorem gatV_len {S : Type} (D : SrcD S) (f : Bool → UInt8 → Bool × Bool) : ∀ (n : Nat) (s : S) (q : Bool) (acc : List UInt8), (gatV D f n s q acc).1.1.length ≤ acc.length + n
  | 0, _, _, _ => Nat.le_refl _
  | n + 1, s, q, acc => by
    unfold gatV
    split
    · have := gatV_len D f n (oneV D f s q).2.1 (oneV D f s q).2.2 (acc ++ [(oneV D f s q).1.1])
      rw [List.length_append] at this
      simp only [List.length_cons, List.length_nil] at this
      omega
    · show acc.length ≤ _
      omega
theorem gatV_yes {S : Type} (D : SrcD S) (f : Bool → UInt8 → Bool × Bool) (n : Nat) (s : S) (q : Bool) (acc : List UInt8) {c : UInt8} {e : Int} {s' : S} {q' : Bool} (h : oneV D f s q = ((c, true, e), s', q')) : gatV D f (n + 1) s q acc = gatV D f n s' q' (acc ++ [c]) := by
  conv => lhs; unfold gatV
  rw [h]
  rfl
theorem gatV_no {S : Type} (D : SrcD S) (f : Bool → UInt8 → Bool × Bool) (n : Nat) (s : S) (q : Bool) (acc : List UInt8) {c : UInt8} {e : Int} {s' : S} {q' : Bool} (h : oneV D f s q = ((c, false, e), s', q')) : gatV D f (n + 1) s q acc = ((acc, e), s') := by
  conv => lhs; unfold gatV
  rw [h]
  rfl
theorem gstep_end {S : Type} {At : World → (Nat → Prop) → S → Prop} {F : Nat → Prop} {w w0 wr w2 : World} {O O1 O2 : Nat → Prop} {s2 : S} {u : Value} {acc : List UInt8} (hB0 : Below w.heap.size w w0) (hz : w0.heap.size = w.heap.size + 1) (hF : ∀ j, F j → j < w.heap.size) (hT : Turned (fun j => (O j ∨ F j) ∨ w0.heap.size ≤ j) w0 wr ∧ (∀ j, O1 j → O j ∨ w0.heap.size ≤ j)) (hU : wr.ownsRow w0.heap.size 5 1 u acc.length (acc.map bv)) (hOf : ∀ k, u.ownBlock = some k → ¬ O1 k) (h2 : At w2 O2 s2) (os : ∀ j, O2 j → j < w2.heap.size) (hO2 : ∀ k, O2 k → O1 k ∨ wr.heap.size ≤ k) (hT2 : Turned (fun k => O1 k ∨ F k) wr w2) : GStep At F w O s2 u acc w2 := by
  have hz1 := hT.1.size
  refine ⟨O2, ⟨h2, os, fun k e => ?_, ?_⟩, owns_mono (owns_turned hU hT2 (fun k e e2 => ?_)) (by omega), fun k e e2 => ?_⟩
  · rcases hO2 k e with e | e
    · rcases hT.2 k e with e | e
      · exact .inl e
      · exact .inr (by omega)
    · exact .inr (by omega)
  · refine ((Turned.of_below (S := fun k => O k ∨ F k) hB0).trans (hT.1.trans (S' := fun k => O1 k ∨ F k) hT2 (fun k hk e => ?_)) (fun k hk e => ?_))
    · rcases e with e | e
      · exact (hT.2 k e).imp .inl id
      · exact .inl (.inr e)
    · rcases e with e | e
      · exact e
      · omega
  · have := (hU.lt k e).1
    rcases e2 with e2 | e2
    · exact hOf k e e2
    · have := hF k e2; omega
  · have := (hU.lt k e).2
    rcases hO2 k e2 with e2 | e2
    · exact hOf k e e2
    · omega
set_option maxRecDepth 100000 in
set_option maxHeartbeats 8000000 in
theorem sgather_any {S : Type} {D : SrcD S} {T : TypeId} {v : Value} {fn fb : FuncId} {K : Nat → Prop} {At : World → (Nat → Prop) → S → Prop} (R : SrcM D T v fn fb K At) {f : Bool → UInt8 → Bool × Bool} {ff : FuncId} {caps : Array Value} {F FK : Nat → Prop} {FAt : World → Bool → Prop} (M : FitM f ff caps F FK FAt) {w : World} {O : Nat → Prop} {s : S} {q : Bool} (n : Nat) (hn : n ≤ 4096) (hK : ∀ j, K j → j < w.heap.size) (h : JAt At K FAt F FK w O s q) :
    Calls Tryz.prog 96 #[.agg #[.iface T v], .int .i64 (n : Int), .func (.func ff) #[] caps] w fun e w' => ∃ u, e = .returned (.tuple #[u, .int .i64 (gatV D f n s q []).1.2]) ∧ GStep At F w O (gatV D f n s q []).2 u (gatV D f n s q []).1.1 w' := by
  obtain ⟨Q, hR⟩ : ∃ Q, Q = gatV D f n s q [] := ⟨_, rfl⟩
  rw [← hR]
  have HR := hide hR
  have HB0 := hide (fm_below w (Obj.cells #[.iface T v] 70))
  have HJ0 := hide (h.below R M (fm_below w (Obj.cells #[.iface T v] 70)))
  have HW0 := hide (heap_alloc_new w (Obj.cells #[.iface T v] 70))
  have hz0 : (w.alloc (Obj.cells #[.iface T v] 70)).heap.size = w.heap.size + 1 := Array.size_push ..
  have HZ0 := hide hz0
  have HO := hide (And.intro (fun j (e : O j) => h.os j e) (And.intro (fun j (e : F j) => (h.fo j e).1) (And.intro (fun j (e : FK j) => (h.ko j e).1) hK)))
  clear h hK hR hz0
  go_enter Tryz.func96, Tryz.ntmps96
  go_wp2_with fail
  generalize w.alloc (Obj.cells #[.iface T v] 70) = w0 at *
  go_loopw [8] (fun u wr => ∃ (acc : List UInt8) (s1 : S) (q1 : Bool) (O1 : Nat → Prop), acc.length ≤ n ∧ Hid (wr.ownsRow w0.heap.size 5 1 u acc.length (acc.map bv)) ∧ Hid (JAt At K FAt F FK wr O1 s1 q1) ∧ Hid (gatV D f (n - acc.length) s1 q1 acc = Q) ∧ Hid (Turned (fun j => (O j ∨ F j) ∨ w0.heap.size ≤ j) w0 wr ∧ (∀ j, O1 j → O j ∨ w0.heap.size ≤ j)) ∧ Hid (∀ k, u.ownBlock = some k → ¬ O1 k)) (fun u _ => n - lenS u)
  case atStart => exact ⟨[], s, q, O, Nat.zero_le _, hide (World.ownsRow_nil _ _ _ _), HJ0, hide HR.out.symm, hide ⟨Turned.refl _ _, fun _ e => .inl e⟩, hide (fun k e => by simp [Value.ownBlock] at e)⟩
  case round =>
    clear HJ0 HR
    obtain ⟨acc, s1, q1, O1, hk, HU, HJ, HG, HT, HOf⟩ := hrel
    obtain ⟨ua, uc, rfl⟩ := owns_slice HU.out
    have HW1 := hide ((HT.out.1.block w.heap.size (by rw [HZ0.out]; omega) (fun e => by
      rcases e with (e | e) | e
      · have := HO.out.1 _ e; omega
      · have := HO.out.2.1 _ e; omega
      · rw [HZ0.out] at e; omega)).trans HW0.out)
    have c1 := cell_of_row wr w.heap.size 0 _ _ _ HW1.out
    simp only [List.getElem?_toArray, List.getElem?_cons_zero] at c1
    by_cases hlt : acc.length < n
    · have hlt' : (acc.length : Int) < (n : Int) := by omega
      obtain ⟨m, hm⟩ : ∃ m, n - acc.length = m + 1 := ⟨n - acc.length - 1, by omega⟩
      obtain ⟨ch, b, e, s2, q2, hx⟩ : ∃ ch b e s2 q2, oneV D f s1 q1 = ((ch, b, e), s2, q2) := ⟨_, _, _, _, _, rfl⟩
      have HX := hide (one_any R M HJ.out)
      rw [hx] at HX
      have hg := HG.out
      rw [hm] at hg
      cases b
      · rw [gatV_no D f m s1 q1 acc hx] at hg
        subst hg
        clear hx
        go_wp2_with fail
        refine HX.out.mono ?_
        rintro _ w2 ⟨rfl, O2, hJ2, hO2, hT2⟩
        have HJ2 := hide hJ2
        have HO2 := hide hO2
        have HT2 := hide hT2
        clear hJ2 hO2 hT2 HX HJ
        unfold oneT
        go_wp2
        go_ret2
        exact ⟨_, rfl, gstep_end HB0.out HZ0.out HO.out.2.1 HT.out HU.out HOf.out HJ2.out.src HJ2.out.os HO2.out HT2.out⟩
      · rw [gatV_yes D f m s1 q1 acc hx] at hg
        clear hx
        have HG2 := hide hg
        clear hg
        go_wp2_with fail
        refine HX.out.mono ?_
        rintro _ w2 ⟨rfl, O2, hJ2, hO2, hT2⟩
        have hUl := fun k e => (HU.out.lt k e)
        have hz2 := hT2.size
        have hz1 := HT.out.1.size
        have hU2 := owns_turned HU.out hT2 (fun k e e2 => e2.elim (HOf.out k e) (fun e3 => by have := HO.out.2.1 k e3; have := (HU.out.lt k e).1; have := HZ0.out; omega))
        have hB3 := fm_below w2 (Obj.cells #[.int .u8 (ch.toNat : Int)] 5)
        have hUA := owns_below hU2 hB3
        have hzA : (w2.alloc (Obj.cells #[.int .u8 (ch.toNat : Int)] 5)).heap.size = w2.heap.size + 1 := Array.size_push ..
        obtain ⟨u', w', hr, HO', hg', hwhere⟩ := run_append_bytes (w2.alloc (Obj.cells #[.int .u8 (ch.toNat : Int)] 5)) 22 w0.heap.size _ _ acc [ch] hUA (sone_bys w2 ch) (by simp only [List.length_cons, List.length_nil]; omega) (by omega)
        have hz3 := hg'.size
        have hoff2 : ∀ k, (Value.slice ua acc.length uc).ownBlock = some k → ¬ O2 k := fun k e e2 => (hO2 k e2).elim (HOf.out k e) (fun e3 => by have := (HU.out.lt k e).2; omega)
        have hJA := (hJ2.below R M hB3).keep R M (w' := w') (fun j hl e => hg'.block j hl (fun e2 => by
          have e2 := e2.symm
          have h1 := (HU.out.lt j e2).1
          have := HZ0.out
          rcases e with e | e | e | e
          · exact hoff2 j e2 e
          · have := HO.out.2.2.2 j e; omega
          · have := HO.out.2.1 j e; omega
          · have := HO.out.2.2.1 j e; omega)) hz3
        have HTA := hide (And.intro ((((HT.out.1.trans (S' := fun k => O1 k ∨ F k) hT2 (fun k _ e => e.elim (fun e => (HT.out.2 k e).imp .inl id) (fun e => .inl (.inr e)))).trans (Turned.of_below (S := fun _ => False) hB3) (fun _ _ e => e.elim)).grown hg' (fun k e => .inl (.inr (HU.out.lt k e).1)))) (fun j (e : O2 j) => (hO2 j e).elim (HT.out.2 j) (fun e => .inr (by omega))))
        have HOfA := hide (fun k (e : u'.ownBlock = some k) => (by
          rcases hwhere with e2 | e2
          · exact hoff2 k (e2 ▸ e)
          · have hk : k = w2.heap.size + 1 := by rw [e2, hzA] at e; exact (Option.some.inj e).symm
            exact fun e3 => by have := hJ2.os k e3; omega : ¬ O2 k))
        have HJA := hide hJA
        have HAp := hide hr
        obtain ⟨ua', uc', rfl⟩ := owns_slice HO'
        obtain ⟨n', hn'⟩ : ∃ n', n' = (acc ++ [ch]).length := ⟨_, rfl⟩
        have HN' := hide hn'
        have HO2' := hide HO'
        rw [← hn'] at HAp HO2' HOfA
        clear hr HO' hg' hwhere hJA hoff2 hz3 hzA hUA hB3 hU2 hz1 hz2 hUl hJ2 hO2 hT2 hn' HX HJ HU HT HOf HG
        unfold oneT
        go_wp2_with (at_builtin; refine Lib.wpList_append_run _ rfl _ _ _ _ rfl _ _ rfl rfl _ _ HAp.out ?_)
        go_roundw
        case rel => exact ⟨acc ++ [ch], s2, q2, O2, by rw [List.length_append]; simp only [List.length_cons, List.length_nil]; omega, by rw [← HN'.out]; exact HO2', HJA, hide (by rw [List.length_append]; simp only [List.length_cons, List.length_nil]; rw [show n - (acc.length + 1) = m by omega]; exact HG2.out), HTA, by exact HOfA⟩
        case measure => have := HN'.out; rw [List.length_append] at this; simp only [List.length_cons, List.length_nil] at this; simp [lenS]; omega
    · have hlt' : ¬ (acc.length : Int) < (n : Int) := by omega
      have hg := HG.out
      rw [show n - acc.length = 0 by omega] at hg
      change ((acc, 0), s1) = Q at hg
      subst hg
      go_wp2
      go_ret2
      exact ⟨_, rfl, gstep_end HB0.out HZ0.out HO.out.2.1 HT.out HU.out HOf.out HJ.out.src HJ.out.os (fun _ e => .inl e) (Turned.refl _ _)⟩
end Go.Proofs.YtcmfpafcipgejaaGreatDoor

/- Scan: blanks are passed; just so many bytes. -/
namespace Go.Proofs.YtcmfpafcipgejaaGreatDoor
open Go.RowKit
theorem least_of {P : Nat → Prop} : ∀ k, P k → ∃ m, P m ∧ ∀ j, j < m → ¬ P j := by
  intro k
  induction k using Nat.strongRecOn with
  | _ k ih =>
    intro hk
    by_cases h : ∃ j, j < k ∧ P j
    · obtain ⟨j, hj, hp⟩ := h
      exact ih j hj hp
    · exact ⟨k, hk, fun j hj hp => h ⟨j, hj, hp⟩⟩
open Classical in
noncomputable def Pm {α : Type} (P : Nat → α → Prop) (a : α) : Nat := if h : ∃ m, P m a ∧ ∀ j, j < m → ¬ P j a then h.choose else 0
theorem Pm_spec {α : Type} {P : Nat → α → Prop} {a : α} (h : ∃ k, P k a) : P (Pm P a) a ∧ ∀ k, P k a → Pm P a ≤ k := by
  have h2 : ∃ m, P m a ∧ ∀ j, j < m → ¬ P j a := by
    obtain ⟨k, hk⟩ := h
    exact least_of (P := fun m => P m a) k hk
  unfold Pm
  rw [dif_pos h2]
  exact ⟨h2.choose_spec.1, fun k hk => Nat.le_of_not_lt fun hl => h2.choose_spec.2 k hl hk⟩
def none_ (_ : Nat) : Prop := False
def calm (_ : World) (_ : Bool) : Prop := True
theorem isBl_eq (c : UInt8) : (((c.toNat : Int) == 32 || (c.toNat : Int) == 10) || (c.toNat : Int) == 9) = isBl c := by
  unfold isBl
  have h : ∀ k : Nat, ((c.toNat : Int) == (k : Int)) = (c.toNat == k) := fun k => by
    rw [Bool.eq_iff_iff, beq_iff_eq, beq_iff_eq]; omega
  rw [← h 32, ← h 10, ← h 9]
  rfl
theorem isBlank_any (c : UInt8) (w : World) : Calls Tryz.prog 95 #[.int .u8 (c.toNat : Int)] w fun e w' => e = .returned (.bool (isBl c)) ∧ w = w' := by
  rw [← isBl_eq]
  generalize (c.toNat : Int) = x
  by_cases h1 : (x == 32) = true
  · go_enter Tryz.func95, Tryz.ntmps95
    go_wp2
    go_ret
    exact ⟨by simp_all, rfl⟩
  · have h1 : (x == 32) = false := by simpa using h1
    by_cases h2 : (x == 10) = true
    · go_enter Tryz.func95, Tryz.ntmps95
      go_wp2
      go_ret
      exact ⟨by simp_all, rfl⟩
    · have h2 : (x == 10) = false := by simpa using h2
      go_enter Tryz.func95, Tryz.ntmps95
      go_wp2
      go_ret
      exact ⟨by simp_all, rfl⟩
theorem fitBl : FitM fBl 95 #[] none_ none_ calm := ⟨fun a w => by kernel_rfl, fun h _ _ => h, fun {w q} c _ => (isBlank_any c w).mono fun e w' ⟨h1, h2⟩ => ⟨h1, trivial, h2 ▸ Turned.refl _ _⟩⟩
theorem calmJ {S : Type} {At : World → (Nat → Prop) → S → Prop} {K : Nat → Prop} {w : World} {O : Nat → Prop} {s : S} (q : Bool) (h : At w O s) (hO : ∀ j, O j → j < w.heap.size) : JAt At K calm none_ none_ w O s q := ⟨h, trivial, fun _ e => e.elim, fun _ e => e.elim, fun _ e => e.elim, hO⟩
theorem passV_more {S : Type} (D : SrcD S) (n : Nat) (s : S) {c : UInt8} {e : Int} {s' : S} {q' : Bool} (h : oneV D fBl s false = ((c, true, e), s', q')) : passV D (n + 1) s = passV D n s' := by
  conv => lhs; unfold passV
  rw [h]
  rfl
theorem passV_end {S : Type} (D : SrcD S) (n : Nat) (s : S) {c : UInt8} {e : Int} {s' : S} {q' : Bool} (h : oneV D fBl s false = ((c, false, e), s', q')) : passV D (n + 1) s = some (e, s') := by
  conv => lhs; unfold passV
  rw [h]
  rfl
set_option maxRecDepth 100000 in
set_option maxHeartbeats 8000000 in
theorem spass_any {S : Type} {D : SrcD S} {T : TypeId} {v : Value} {fn fb : FuncId} {K : Nat → Prop} {At : World → (Nat → Prop) → S → Prop} (R : SrcM D T v fn fb K At) {w : World} {O : Nat → Prop} {s : S} (N : Nat) {x : Int} {s' : S} (h : At w O s) (hO : ∀ j, O j → j < w.heap.size) (hp : passV D N s = some (x, s')) :
    Calls Tryz.prog 60 #[.agg #[.iface T v]] w fun e w' => e = .returned (.int .i64 x) ∧ SStep At none_ w O s' w' := by
  have HB0 := hide (fm_below w (Obj.cells #[.iface T v] 70))
  have HJ0 := hide ((calmJ (K := K) false h hO).below R fitBl (fm_below w (Obj.cells #[.iface T v] 70)))
  have HW0 := hide (heap_alloc_new w (Obj.cells #[.iface T v] 70))
  have hz0 : (w.alloc (Obj.cells #[.iface T v] 70)).heap.size = w.heap.size + 1 := Array.size_push ..
  have HZ0 := hide hz0
  have HO := hide hO
  have HP := hide hp
  clear h hp hz0 hO
  go_enter Tryz.func60, Tryz.ntmps60
  go_wp2_with fail
  generalize w.alloc (Obj.cells #[.iface T v] 70) = w0 at *
  obtain ⟨Re, hRe⟩ : ∃ Re : Nat → World → Prop, Re = fun k wr => ∃ (s1 : S) (O1 : Nat → Prop), JAt At K calm none_ none_ wr O1 s1 false ∧ passV D k s1 = some (x, s') ∧ Turned (fun j => O j ∨ w0.heap.size ≤ j) w0 wr ∧ (∀ j, O1 j → O j ∨ w0.heap.size ≤ j) := ⟨_, rfl⟩
  go_loopw [3] (fun u wr => Hid (∃ k, Re k wr)) (fun u wr => Pm Re wr)
  case atStart => exact hide ⟨N, by rw [hRe]; exact ⟨s, O, HJ0.out, HP.out, Turned.refl _ _, fun _ e => .inl e⟩⟩
  case round =>
    clear HP HJ0
    have hm := Pm_spec hrel.out
    generalize hk : Pm Re wr = k at hm
    have HM := hide hm
    have HK := hide hk
    clear hm hk hrel
    obtain ⟨s1, O1, hJ, hp, hT, hO1⟩ : ∃ (s1 : S) (O1 : Nat → Prop), JAt At K calm none_ none_ wr O1 s1 false ∧ passV D k s1 = some (x, s') ∧ Turned (fun j => O j ∨ w0.heap.size ≤ j) w0 wr ∧ (∀ j, O1 j → O j ∨ w0.heap.size ≤ j) := by
      have := HM.out.1
      rw [hRe] at this
      exact this
    have HRe := hide hRe
    clear hRe
    have HW1 := hide ((hT.block w.heap.size (by rw [HZ0.out]; omega) (fun e => by
      rcases e with e | e
      · have := HO.out _ e; omega
      · rw [HZ0.out] at e; omega)).trans HW0.out)
    have c1 := cell_of_row wr w.heap.size 0 _ _ _ HW1.out
    simp only [List.getElem?_toArray, List.getElem?_cons_zero] at c1
    obtain ⟨ch, b, e, s2, q2, hx⟩ : ∃ ch b e s2 q2, oneV D fBl s1 false = ((ch, b, e), s2, q2) := ⟨_, _, _, _, _, rfl⟩
    have HX := hide (one_any R fitBl hJ)
    rw [hx] at HX
    have HT := hide (And.intro hT hO1)
    clear hT hO1 hJ
    obtain ⟨m, rfl⟩ : ∃ m, k = m + 1 := by
      cases k with
      | zero => exact absurd hp (by simp [passV])
      | succ m => exact ⟨m, rfl⟩
    cases b
    · rw [passV_end D m s1 hx] at hp
      obtain ⟨rfl, rfl⟩ : e = x ∧ s2 = s' := by cases hp; exact ⟨rfl, rfl⟩
      clear hx hp
      go_wp2_with fail
      refine HX.out.mono ?_
      rintro _ w2 ⟨rfl, O2, hJ2, hO2, hT2⟩
      have HJ2 := hide (And.intro hJ2 (And.intro hO2 hT2))
      clear hJ2 hO2 hT2 HX
      unfold oneT
      go_wp2
      go_ret
      refine ⟨rfl, O2, HJ2.out.1.src, HJ2.out.1.os, fun k e => ?_, ?_⟩
      · have hz := HZ0.out
        have hz1 := HT.out.1.size
        rcases HJ2.out.2.1 k e with e | e
        · exact (HT.out.2 k e).imp id (fun e => by omega)
        · exact .inr (by omega)
      · have hz := HZ0.out
        refine (Turned.of_below (S := fun k => O k ∨ none_ k) HB0.out).trans ((HT.out.1.trans HJ2.out.2.2 (fun k hk e => ?_))) (fun k hk e => ?_)
        · rcases e with e | e
          · exact HT.out.2 k e
          · exact e.elim
        · rcases e with e | e
          · exact .inl e
          · omega
    · rw [passV_more D m s1 hx] at hp
      have HPm := hide hp
      clear hx hp
      go_wp2_with fail
      refine HX.out.mono ?_
      rintro _ w2 ⟨rfl, O2, hJ2, hO2, hT2⟩
      have hre : Re m w2 := by
        rw [HRe.out]
        have hz := HZ0.out
        have hz1 := HT.out.1.size
        refine ⟨s2, O2, calmJ false hJ2.src hJ2.os, HPm.out, HT.out.1.trans hT2 (fun k hk e => ?_), fun k e => ?_⟩
        · rcases e with e | e
          · exact HT.out.2 k e
          · exact e.elim
        · rcases hO2 k e with e | e
          · exact HT.out.2 k e
          · exact .inr (by omega)
      have HR2 := hide hre
      have hle : Pm Re w2 ≤ m := (Pm_spec ⟨m, hre⟩).2 m hre
      have HLe := hide hle
      clear hJ2 hO2 hT2 hre hle HX
      unfold oneT
      go_wp2_with fail
      go_roundw
      case rel => exact hide ⟨m, HR2.out⟩
      case measure => have := HLe.out; have := HK.out; omega
set_option maxRecDepth 100000 in
set_option maxHeartbeats 8000000 in
theorem sfilled_any {S : Type} {D : SrcD S} {T : TypeId} {v : Value} {fn fb : FuncId} {K : Nat → Prop} {At : World → (Nat → Prop) → S → Prop} (R : SrcM D T v fn fb K At) {f : Bool → UInt8 → Bool × Bool} {ff : FuncId} {caps : Array Value} {F FK : Nat → Prop} {FAt : World → Bool → Prop} (M : FitM f ff caps F FK FAt) {w : World} {O : Nat → Prop} {s : S} (n : Nat) (hn : n ≤ 4096) (hK : ∀ j, K j → j < w.heap.size) (h : JAt At K FAt F FK w O s false) :
    Calls Tryz.prog 61 #[.agg #[.iface T v], .int .i64 (n : Int), .func (.func ff) #[] caps] w fun e w' => ∃ u, e = .returned (.tuple #[u, .int .i64 (filV D f n s).1.2]) ∧ GStep At F w O (filV D f n s).2 u (filV D f n s).1.1 w' := by
  have HB0 := hide (fm_below w (Obj.cells #[.iface T v] 70))
  have hJ0 := h.below R M (fm_below w (Obj.cells #[.iface T v] 70))
  have hz0 : (w.alloc (Obj.cells #[.iface T v] 70)).heap.size = w.heap.size + 1 := Array.size_push ..
  have HX := hide (sgather_any R M n hn (fun j e => by have := hK j e; omega) hJ0)
  have c0 := cell_of_row (w.alloc (Obj.cells #[.iface T v] 70)) w.heap.size 0 _ _ _ (heap_alloc_new w (Obj.cells #[.iface T v] 70))
  simp only [List.getElem?_toArray, List.getElem?_cons_zero] at c0
  unfold filV
  obtain ⟨⟨⟨l, e⟩, s'⟩, hQ⟩ : ∃ Q, gatV D f n s false [] = Q := ⟨_, rfl⟩
  have hl := gatV_len D f n s false []
  rw [hQ] at HX hl ⊢
  simp only [List.length_nil, Nat.zero_add] at HX hl ⊢
  have HL := hide hl
  clear h hJ0 hK hQ hl
  have HZ0 := hide hz0
  clear hz0
  obtain ⟨E, hE⟩ : ∃ E, E = if e = 0 ∧ l.length < n then 181 else e := ⟨_, rfl⟩
  rw [← hE]
  have hfin : ∀ u w2, GStep At F (w.alloc (Obj.cells #[.iface T v] 70)) O s' u l w2 → GStep At F w O s' u l w2 := by
    rintro u w2 ⟨O', ⟨a1, a2, a3, a4⟩, a5, a6⟩
    have hz := HZ0.out
    exact ⟨O', ⟨a1, a2, fun k e => (a3 k e).imp id (fun e => by omega), (Turned.of_below HB0.out).trans a4 (fun _ _ e => e)⟩, owns_mono a5 (by omega), a6⟩
  have HFin := hide hfin
  have HE := hide hE
  clear hfin hE
  rcases (show e ≠ 0 ∨ (e = 0 ∧ l.length < n) ∨ (e = 0 ∧ ¬ l.length < n) by omega) with h1 | ⟨h1, h2⟩ | ⟨h1, h2⟩
  · have h1' : (e == 0) = false := by simp [h1]
    have hE := HE.out
    rw [if_neg (fun h => h1 h.1)] at hE
    subst hE
    clear HE
    go_enter Tryz.func61, Tryz.ntmps61
    go_wp2_with fail
    refine HX.out.mono ?_
    rintro _ w2 ⟨u, rfl, hS⟩
    have HS := hide hS
    obtain ⟨ua, uc, rfl⟩ := owns_slice hS.choose_spec.2.1
    clear hS HX
    go_wp2
    go_ret2
    exact ⟨_, rfl, HFin.out _ _ HS.out⟩
  · subst h1
    have hE := HE.out
    rw [if_pos ⟨rfl, h2⟩] at hE
    subst hE
    have h2' : (l.length : Int) < (n : Int) := by omega
    clear HE
    go_enter Tryz.func61, Tryz.ntmps61
    go_wp2_with fail
    refine HX.out.mono ?_
    rintro _ w2 ⟨u, rfl, hS⟩
    have HS := hide hS
    obtain ⟨ua, uc, rfl⟩ := owns_slice hS.choose_spec.2.1
    clear hS HX
    go_wp2
    go_ret2
    exact ⟨_, rfl, HFin.out _ _ HS.out⟩
  · subst h1
    have hE := HE.out
    rw [if_neg (fun h => h2 h.2)] at hE
    subst hE
    have h2' : ¬ (l.length : Int) < (n : Int) := by omega
    clear HE
    go_enter Tryz.func61, Tryz.ntmps61
    go_wp2_with fail
    refine HX.out.mono ?_
    rintro _ w2 ⟨u, rfl, hS⟩
    have HS := hide hS
    obtain ⟨ua, uc, rfl⟩ := owns_slice hS.choose_spec.2.1
    clear hS HX
    go_wp2
    go_ret2
    exact ⟨_, rfl, HFin.out _ _ HS.out⟩
end Go.Proofs.YtcmfpafcipgejaaGreatDoor

/- Scan: what fits, told by closures. -/
namespace Go.Proofs.YtcmfpafcipgejaaGreatDoor
open Go.RowKit
theorem isSg_eq (c : UInt8) : ((c.toNat : Int) == 43 || (c.toNat : Int) == 45) = isSg c := by
  unfold isSg
  have h : ∀ k : Nat, ((c.toNat : Int) == (k : Int)) = (c.toNat == k) := fun k => by
    rw [Bool.eq_iff_iff, beq_iff_eq, beq_iff_eq]; omega
  rw [← h 43, ← h 45]
  rfl
theorem isSign_any (c : UInt8) (w : World) : Calls Tryz.prog 141 #[.int .u8 (c.toNat : Int)] w fun e w' => e = .returned (.bool (isSg c)) ∧ w = w' := by
  rw [← isSg_eq]
  generalize (c.toNat : Int) = x
  by_cases h1 : (x == 43) = true
  · go_enter Tryz.func141, Tryz.ntmps141
    go_wp2
    go_ret
    exact ⟨by simp_all, rfl⟩
  · have h1 : (x == 43) = false := by simpa using h1
    go_enter Tryz.func141, Tryz.ntmps141
    go_wp2
    go_ret
    exact ⟨by simp_all, rfl⟩
theorem baseOf_any (v : UInt8) (w : World) : Calls Tryz.prog 140 #[.int .u8 (v.toNat : Int)] w fun e w' => e = .returned (.int .i64 (baseS v : Int)) ∧ w = w' := by
  have hb : (baseS v : Int) = if (v.toNat : Int) = 120 then 16 else if (v.toNat : Int) = 111 then 8 else 10 := by
    unfold baseS
    by_cases h1 : v.toNat = 120
    · have e1 : (v.toNat : Int) = 120 := by omega
      rw [if_pos h1, if_pos e1]; rfl
    · have e1 : ¬ (v.toNat : Int) = 120 := by omega
      rw [if_neg h1, if_neg e1]
      by_cases h2 : v.toNat = 111
      · have e2 : (v.toNat : Int) = 111 := by omega
        rw [if_pos h2, if_pos e2]; rfl
      · have e2 : ¬ (v.toNat : Int) = 111 := by omega
        rw [if_neg h2, if_neg e2]; rfl
  rw [hb]
  clear hb
  generalize (v.toNat : Int) = x
  by_cases h1 : x = 120
  · subst h1
    go_enter Tryz.func140, Tryz.ntmps140
    go_wp2
    go_ret
    exact ⟨rfl, rfl⟩
  · have h1' : (x == 120) = false := by simpa using h1
    rw [if_neg h1]
    by_cases h2 : x = 111
    · subst h2
      go_enter Tryz.func140, Tryz.ntmps140
      go_wp2
      go_ret
      exact ⟨rfl, rfl⟩
    · have h2' : (x == 111) = false := by simpa using h2
      rw [if_neg h2]
      go_enter Tryz.func140, Tryz.ntmps140
      go_wp2
      go_ret
      exact ⟨rfl, rfl⟩
theorem parse_one (b : Nat) (c : UInt8) (h2 : 2 ≤ b) (h3 : b ≤ 16) : ((parseB b [c]).2.1 == 0) = digB b c := by
  rw [parseB_yes _ _ (by omega) (by omega) (by simp), pb]
  unfold digB
  by_cases h : (b : Int) ≤ valI (c.toNat : Int)
  · rw [if_pos h, decide_eq_false (by omega)]; rfl
  · rw [if_neg h]
    have h0 := (valI_bd (c.toNat : Int)).1
    rw [if_neg (by
      have : 0 ≤ (18446744073709551615 - valI (c.toNat : Int)) / (b : Int) := Int.ediv_nonneg (by omega) (by omega)
      omega), decide_eq_true (by omega)]
    rfl
set_option maxRecDepth 100000 in
set_option maxHeartbeats 2000000 in
theorem digits1_any (b : Nat) (h2 : 2 ≤ b) (h3 : b ≤ 16) (c : UInt8) (q1 : Nat) (w : World) (hq : w.cell? ⟨q1, 0, none⟩ = some (.int .i64 (b : Int))) :
    Calls Tryz.prog 149 #[.int .u8 (c.toNat : Int), .pointer (some ⟨q1, 0, none⟩)] w fun e w' => e = .returned (.bool (digB b c)) ∧ Below w.heap.size w w' := by
  have hB := fm_below w (Obj.cells #[.int .u8 (c.toNat : Int)] 5)
  have hq1 := (hB.cell (World.block_lt_of_cell? w _ hq)).trans hq
  have h1 := one_str w (c.toNat : Int)
  have hs : (strOfNums [(c.toNat : Int)]).data.toList = [c] := by
    show [UInt8.ofNat ((c.toNat : Int)).toNat] = _
    simp
  have HP := hide (fun W => parseBase_any (strOfNums [(c.toNat : Int)]) b W (by show 1 ≤ _; decide))
  rw [hs] at HP
  have ho := parse_one b c h2 h3
  generalize parseB b [c] = P at ho HP
  have HO := hide ho
  have HB := hide hB
  generalize strOfNums [(c.toNat : Int)] = st at *
  clear hs ho hB hq
  go_enter Tryz.func149, Tryz.ntmps149
  go_wp2_with fail
  refine (HP.out _).mono ?_
  rintro _ _ ⟨rfl, rfl⟩
  go_wp2
  go_ret
  exact ⟨by rw [← HO.out]; rfl, HB.out⟩
theorem fitDig (b : Nat) (h2 : 2 ≤ b) (h3 : b ≤ 16) (q1 : Nat) : FitM (fun q c => (digB b c, q)) 149 #[.pointer (some ⟨q1, 0, none⟩)] none_ (fun j => j = q1) (fun w _ => w.cell? ⟨q1, 0, none⟩ = some (.int .i64 (b : Int))) :=
  ⟨fun a w => by kernel_rfl, fun {w w' q} h hk hz => (World.cell?_of_block (w := w) (hk q1 (.inr rfl) (World.block_lt_of_cell? w _ h))).trans h, fun {w q} c h => (digits1_any b h2 h3 c q1 w h).mono fun e w' ⟨a1, a2⟩ => ⟨a1, (a2.cell (World.block_lt_of_cell? w _ h)).trans h, Turned.of_below a2⟩⟩
def SgAt (qb qf q1 : Nat) (w : World) (q : Bool) : Prop := w.cell? ⟨qb, 0, none⟩ = some (.bool q) ∧ w.frozen? ⟨qb, 0, none⟩ = false ∧ w.cell? ⟨qf, 0, none⟩ = some (.func (.func 149) #[] #[.pointer (some ⟨q1, 0, none⟩)]) ∧ w.cell? ⟨q1, 0, none⟩ = some (.int .i64 10)
set_option maxRecDepth 100000 in
set_option maxHeartbeats 4000000 in
theorem signed1_any (qb qf q1 : Nat) (h1 : qb ≠ qf) (h2 : qb ≠ q1) (q : Bool) (c : UInt8) (w : World) (h : SgAt qb qf q1 w q) :
    Calls Tryz.prog 165 #[.int .u8 (c.toNat : Int), .pointer (some ⟨qb, 0, none⟩), .pointer (some ⟨qf, 0, none⟩)] w fun e w' => e = .returned (.bool ((!q && isSg c) || digB 10 c)) ∧ SgAt qb qf q1 w' true ∧ Turned (fun j => j = qb) w w' := by
  obtain ⟨c1, c2, c3, c4⟩ := h
  have hb1 := World.block_lt_of_cell? w _ c1
  have HG := hide (isSign_any c w)
  have d1 : (w.setCell ⟨qb, 0, none⟩ (.bool true)).cell? ⟨qb, 0, none⟩ = some (.bool true) := World.cell?_setCell_same _ _ _ c1
  have d2 : (w.setCell ⟨qb, 0, none⟩ (.bool true)).frozen? ⟨qb, 0, none⟩ = false := by rw [World.frozen?_setCell]; exact c2
  have d3 : (w.setCell ⟨qb, 0, none⟩ (.bool true)).cell? ⟨qf, 0, none⟩ = some (.func (.func 149) #[] #[.pointer (some ⟨q1, 0, none⟩)]) := by rw [World.cell?_setCell_other _ _ _ _ (fun e => h1 (by cases e; rfl))]; exact c3
  have d4 : (w.setCell ⟨qb, 0, none⟩ (.bool true)).cell? ⟨q1, 0, none⟩ = some (.int .i64 10) := by rw [World.cell?_setCell_other _ _ _ _ (fun e => h2 (by cases e; rfl))]; exact c4
  have HT := hide ((Turned.refl (fun j => j = qb) w).set (g := qb) (j := 0) (u := .bool true) (.inl rfl))
  have HD := hide (digits1_any 10 (by decide) (by decide) c q1 _ d4)
  have HS : Hid (SgAt qb qf q1 (w.setCell ⟨qb, 0, none⟩ (.bool true)) true) := hide ⟨d1, d2, d3, d4⟩
  clear d1 d2 d4 c3 c4 hb1
  generalize isSg c = sg at *
  generalize digB 10 c = dg at *
  have hfin : ∀ w', Below (w.setCell ⟨qb, 0, none⟩ (.bool true)).heap.size (w.setCell ⟨qb, 0, none⟩ (.bool true)) w' → SgAt qb qf q1 w' true ∧ Turned (fun j => j = qb) w w' := by
    intro w' hB
    obtain ⟨a1, a2, a3, a4⟩ := HS.out
    exact ⟨⟨(hB.cell (World.block_lt_of_cell? _ _ a1)).trans a1, (hB.frozen (World.block_lt_of_cell? _ _ a1)).trans a2, (hB.cell (World.block_lt_of_cell? _ _ a3)).trans a3, (hB.cell (World.block_lt_of_cell? _ _ a4)).trans a4⟩, HT.out.trans (Turned.of_below (S := fun _ => False) hB) (fun _ _ e => e.elim)⟩
  have HF := hide hfin
  clear hfin
  cases q
  · cases sg
    · go_enter Tryz.func165, Tryz.ntmps165
      go_wp2_with fail
      refine HG.out.mono ?_
      rintro _ _ ⟨rfl, rfl⟩
      go_wp2_with fail
      refine HD.out.mono ?_
      rintro _ w2 ⟨rfl, hB⟩
      have HB := hide hB
      clear hB
      go_wp2
      go_ret
      exact ⟨by simp, HF.out _ HB.out⟩
    · go_enter Tryz.func165, Tryz.ntmps165
      go_wp2_with fail
      refine HG.out.mono ?_
      rintro _ _ ⟨rfl, rfl⟩
      go_wp2
      go_ret
      exact ⟨by simp, HS.out, HT.out⟩
  · go_enter Tryz.func165, Tryz.ntmps165
    go_wp2_with fail
    refine HD.out.mono ?_
    rintro _ w2 ⟨rfl, hB⟩
    have HB := hide hB
    clear hB
    go_wp2
    go_ret
    exact ⟨by simp, HF.out _ HB.out⟩
theorem fitSgn (qb qf q1 : Nat) (h1 : qb ≠ qf) (h2 : qb ≠ q1) : FitM (fun q c => ((!q && isSg c) || digB 10 c, true)) 165 #[.pointer (some ⟨qb, 0, none⟩), .pointer (some ⟨qf, 0, none⟩)] (fun j => j = qb) (fun j => j = qf ∨ j = q1) (SgAt qb qf q1) :=
  ⟨fun a w => by kernel_rfl, fun {w w' q} h hk hz => by
    obtain ⟨a1, a2, a3, a4⟩ := h
    have k1 := hk qb (.inl rfl) (World.block_lt_of_cell? w _ a1)
    exact ⟨(World.cell?_of_block (w := w) k1).trans a1, (World.frozen?_of_block (w := w) k1).trans a2, (World.cell?_of_block (w := w) (hk qf (.inr (.inl rfl)) (World.block_lt_of_cell? w _ a3))).trans a3, (World.cell?_of_block (w := w) (hk q1 (.inr (.inr rfl)) (World.block_lt_of_cell? w _ a4))).trans a4⟩, fun {w q} c h => signed1_any qb qf q1 h1 h2 q c w h⟩
theorem notBl_any (c : UInt8) (w : World) : Calls Tryz.prog 138 #[.int .u8 (c.toNat : Int)] w fun e w' => e = .returned (.bool (!isBl c)) ∧ w = w' := by
  have HX := hide (isBlank_any c w)
  generalize isBl c = b at *
  cases b
  all_goals
    go_enter Tryz.func138, Tryz.ntmps138
    go_wp2_with fail
    refine HX.out.mono ?_
    rintro _ _ ⟨rfl, rfl⟩
    go_wp2
    go_ret
    exact ⟨rfl, rfl⟩
theorem fitNotBl : FitM (fun q c => (!isBl c, q)) 138 #[] none_ none_ calm := ⟨fun a w => by kernel_rfl, fun h _ _ => h, fun {w q} c _ => (notBl_any c w).mono fun e w' ⟨h1, h2⟩ => ⟨h1, trivial, h2 ▸ Turned.refl _ _⟩⟩
theorem fitAll : FitM fAll 98 #[] none_ none_ calm := ⟨fun a w => by kernel_rfl, fun h _ _ => h, fun {w q} c _ => by
  show Calls Tryz.prog 98 #[.int .u8 (c.toNat : Int)] w _
  go_enter Tryz.func98, Tryz.ntmps98
  go_wp2
  go_ret
  exact ⟨rfl, trivial, Turned.refl _ _⟩⟩
theorem u8_beq (a b : UInt8) : ((a.toNat : Int) == (b.toNat : Int)) = (a == b) := by
  rw [Bool.eq_iff_iff, beq_iff_eq, beq_iff_eq]
  exact ⟨fun h => UInt8.toNat_inj.1 (by omega), fun h => by rw [h]⟩
theorem fitIs (x : UInt8) (g : Nat) : FitM (fIs x) 62 #[.pointer (some ⟨g, 0, none⟩)] none_ (fun j => j = g) (fun w _ => w.cell? ⟨g, 1, none⟩ = some (.int .u8 (x.toNat : Int))) :=
  ⟨fun a w => by kernel_rfl, fun {w w' q} h hk hz => (World.cell?_of_block (w := w) (hk g (.inr rfl) (World.block_lt_of_cell? w _ h))).trans h, fun {w q} c h => by
    show Calls Tryz.prog 62 #[.int .u8 (c.toNat : Int), .pointer (some ⟨g, 0, none⟩)] w _
    have hx := u8_beq c x
    have HX := hide hx
    go_enter Tryz.func62, Tryz.ntmps62
    go_wp2
    go_ret
    exact ⟨by show Ending.returned (.bool _) = .returned (.bool (c == x)); rw [← HX.out], h, Turned.refl _ _⟩⟩
end Go.Proofs.YtcmfpafcipgejaaGreatDoor

/- Scan: what bytes that fit are worth. -/
namespace Go.Proofs.YtcmfpafcipgejaaGreatDoor
open Go.RowKit
theorem trimLeft_any (s c : ByteArray) (w : World) (hc : c.size < 4294967281) (ha : ∀ (j : Nat) b, c.data.toList[j]? = some b → b.toNat < 128) :
    Calls Tryz.prog 166 #[.string s, .string c] w fun e w' => e = .returned (.string ⟨(Lib.trimLeftS s.data.toList c.data.toList).toArray⟩) ∧ Below w.heap.size w w' :=
  Any.strings_TrimLeft_laid Tryz.lays161 (by kernel_rfl) s c w hc ha
theorem drop_dig : ∀ t : List UInt8, Dgs t → t.head? ≠ some 48 → Lib.trimLeftS t [43, 45, 48] = t
  | [], _, _ => rfl
  | c :: r, h, h0 => by
    have hc := h c (List.mem_cons_self ..)
    have h1 : c ≠ 48 := by simpa using h0
    have h2 : c ≠ 43 := fun e => by rw [e] at hc; revert hc; decide
    have h3 : c ≠ 45 := fun e => by rw [e] at hc; revert hc; decide
    unfold Lib.trimLeftS
    rw [List.dropWhile_cons_of_neg]
    simp [h1, h2, h3]
theorem drop_zer (t : List UInt8) (h : Lib.trimLeftS t [43, 45, 48] = t) : ∀ z, Lib.trimLeftS (List.replicate z 48 ++ t) [43, 45, 48] = t
  | 0 => by simpa using h
  | z + 1 => by
    rw [List.replicate_succ, List.cons_append]
    unfold Lib.trimLeftS
    rw [List.dropWhile_cons_of_pos (by decide)]
    exact drop_zer t h z
theorem drop_sg {sg l t : List UInt8} (hs : sg = [] ∨ ∃ c, isSg c = true ∧ sg = [c]) (h : Lib.trimLeftS l [43, 45, 48] = t) : Lib.trimLeftS (sg ++ l) [43, 45, 48] = t := by
  rcases hs with rfl | ⟨c, hc, rfl⟩
  · exact h
  · unfold Lib.trimLeftS
    rw [List.cons_append, List.nil_append, List.dropWhile_cons_of_pos]
    · exact h
    · unfold isSg at hc
      have : c = 43 ∨ c = 45 := by
        rw [Bool.or_eq_true] at hc
        rcases hc with h | h
        · exact .inl (UInt8.toNat_inj.1 (by simpa using h))
        · exact .inr (UInt8.toNat_inj.1 (by simpa using h))
      rcases this with rfl | rfl <;> decide
def ArgB (W : World) (g : Nat) (x : Ag) : Prop := W.heap[g]? = some (.cells #[.int .i64 x.kind, .int .i64 x.int, .int .u64 x.uint, .string x.text] 42)
theorem ArgB.lt {W : World} {g : Nat} {x : Ag} (h : ArgB W g x) : g < W.heap.size := (Array.getElem?_eq_some_iff.1 h).1
theorem ArgB.soft {W : World} {g : Nat} {x : Ag} (h : ArgB W g x) (j : Nat) : W.frozen? ⟨g, j, none⟩ = false := frozen_of_row W g j _ _ h
theorem ArgB.ah {W : World} {g : Nat} {x : Ag} (h : ArgB W g x) : AH W g 0 x := ⟨cell_of_row W g 0 _ _ _ h, cell_of_row W g 1 _ _ _ h, cell_of_row W g 2 _ _ _ h, cell_of_row W g 3 _ _ _ h⟩
theorem ArgB.below {W W' : World} {g : Nat} {x : Ag} (h : ArgB W g x) (hB : Below W.heap.size W W') : ArgB W' g x := (hB.block g h.lt).trans h
theorem ArgB.new (w : World) : ArgB (w.alloc (Obj.cells #[.int .i64 0, .int .i64 0, .int .u64 0, .string ByteArray.empty] 42)) w.heap.size ag0 := heap_alloc_new w _
theorem ArgB.fill {w : World} {g : Nat} {y : Ag} (h : ArgB w g y) (k i u : Int) (t : ByteArray) : ArgB ((((w.setCell ⟨g, 0, none⟩ (.int .i64 k)).setCell ⟨g, 1, none⟩ (.int .i64 i)).setCell ⟨g, 2, none⟩ (.int .u64 u)).setCell ⟨g, 3, none⟩ (.string t)) g ⟨k, i, u, t⟩ := by
  have e0 := Go.heap_setCell_same _ g 0 _ _ (.int .i64 k) h
  simp only [List.setIfInBounds_toArray, List.set_cons_zero] at e0
  have e1 := Go.heap_setCell_same _ g 1 _ _ (.int .i64 i) e0
  simp only [List.setIfInBounds_toArray, List.set_cons_zero, List.set_cons_succ] at e1
  have e2 := Go.heap_setCell_same _ g 2 _ _ (.int .u64 u) e1
  simp only [List.setIfInBounds_toArray, List.set_cons_zero, List.set_cons_succ] at e2
  have e3 := Go.heap_setCell_same _ g 3 _ _ (.string t) e2
  simp only [List.setIfInBounds_toArray, List.set_cons_zero, List.set_cons_succ] at e3
  exact e3
theorem four_set {S : Nat → Prop} {w0 w : World} {g : Nat} (h : Turned S w0 w) (hg : S g ∨ w0.heap.size ≤ g) (a b c d : Value) : Turned S w0 ((((w.setCell ⟨g, 0, none⟩ a).setCell ⟨g, 1, none⟩ b).setCell ⟨g, 2, none⟩ c).setCell ⟨g, 3, none⟩ d) := (((h.set hg).set hg).set hg).set hg
theorem four_below {w0 W : World} (h : Below w0.heap.size w0 W) {g : Nat} (hg : w0.heap.size ≤ g) (a b c d : Value) : Below w0.heap.size w0 ((((W.setCell ⟨g, 0, none⟩ a).setCell ⟨g, 1, none⟩ b).setCell ⟨g, 2, none⟩ c).setCell ⟨g, 3, none⟩ d) :=
  (((h.setCell (p := ⟨g, 0, none⟩) hg _).setCell (p := ⟨g, 1, none⟩) hg _).setCell (p := ⟨g, 2, none⟩) hg _).setCell (p := ⟨g, 3, none⟩) hg _
theorem res_agp {fn : Func} {p u : Tmp} {w : World} (h : fn.results = #[.cell p 42, .tmp u]) (tmps : Array Value) (g : Nat) (hp : tmps.getD p undef = .pointer (some ⟨g, 0, none⟩)) {x : Ag} (hg : ArgB w g x) :
    (results fn tmps).run Tryz.prog w = .ok (.tuple #[agV x, tmps.getD u undef]) w := by
  obtain ⟨h0, h1, h2, h3⟩ := hg.ah
  have hp' : tmps[p]?.getD undef = .pointer (some ⟨g, 0, none⟩) := by simpa using hp
  have a := Tryz.isAgg42
  have b := Tryz.sizeOf42
  have c0 := Tryz.isAgg3
  have c1 := Tryz.sizeOf3
  have c2 := Tryz.underlying3
  have d0 := Tryz.isAgg9
  have d1 := Tryz.sizeOf9
  have d2 := Tryz.underlying9
  have e0 := Tryz.isAgg39
  have e1 := Tryz.sizeOf39
  have e2 := Tryz.underlying39
  unfold agV
  simp only [results, h]
  simp only [loadVar]
  go_simp
def pairV (x : Ag × Int) : Value := .tuple #[agV x.1, .int .i64 x.2]
set_option maxRecDepth 100000 in
set_option maxHeartbeats 4000000 in
theorem valuedInt_any (s : ByteArray) (w : World) (hs : s.size ≤ 4096) {sg ds : List UInt8} (hl : s.data.toList = sg ++ ds) (hsg : sg = [] ∨ ∃ c, isSg c = true ∧ sg = [c]) (hd : Dgs ds) (hn : ds ≠ []) :
    Calls Tryz.prog 142 #[.string s] w fun e w' => e = .returned (pairV (intA (intV s.data.toList))) ∧ Below w.heap.size w w' := by
  obtain ⟨z, t, ht, h0⟩ := zer_split ds
  have hdt : Dgs t := fun c hc => hd c (by rw [ht]; exact List.mem_append_right _ hc)
  have htr : Lib.trimLeftS s.data.toList [43, 45, 48] = t := by rw [hl, ht]; exact drop_sg hsg (drop_zer t (drop_dig t hdt h0) z)
  have HT := hide (fun W => trimLeft_any s ⟨#[43, 45, 48]⟩ W (by decide) (fun j b hb => by have := List.mem_of_getElem? hb; revert this; show b ∈ [43, 45, 48] → _; intro h; simp at h; rcases h with rfl | rfl | rfl <;> decide))
  have HA := ArgB.new w
  have HB0 := hide (fm_below w (Obj.cells #[.int .i64 0, .int .i64 0, .int .u64 0, .string ByteArray.empty] 42))
  rw [show (⟨#[43, 45, 48]⟩ : ByteArray).data.toList = [43, 45, 48] from rfl, htr] at HT
  rw [hl]
  rw [ht] at hn ⊢
  by_cases hte : t = []
  · subst hte
    rw [int_zero hsg hn]
    unfold pairV intA
    go_enter Tryz.func142, Tryz.ntmps142
    go_wp2_with fail
    refine (HT.out _).mono ?_
    rintro _ w1 ⟨rfl, hB⟩
    have HA1 := hide (HA.below hB)
    have HB1 := hide (HB0.out.trans (hB.mono HB0.out.size))
    clear hB HA
    go_wp2_with fail
    refine (fint_any 0 _).mono ?_
    rintro _ w2 ⟨rfl, hB⟩
    have HA2 := HA1.out.below hB
    have HB2 := hide (HB1.out.trans (hB.mono HB1.out.size))
    have HA2' := hide HA2
    have k0 := HA2.ah.c0
    have k1 := HA2.ah.c1
    have k2 := HA2.ah.c2
    have k3 := HA2.ah.c3
    have f0 := HA2.soft
    clear hB HA2
    unfold agV
    go_wp2
    refine bodyPost_ret (res_agp rfl _ w.heap.size rfl (HA2'.out.fill 1 0 0 ⟨#[]⟩)) rfl ?_
    exact ⟨rfl, four_below HB2.out (Nat.le_refl _) _ _ _ _⟩
  · have hs0 : 0 < s.size := by
      have : s.data.toList.length = s.size := by rw [Array.length_toList]; rfl
      rw [hl, List.length_append] at this
      have : 0 < ds.length := List.length_pos_iff.2 (by rw [ht]; exact hn)
      omega
    obtain ⟨X, hX⟩ : ∃ X : ByteArray, (⟨t.toArray⟩ : ByteArray) = X := ⟨_, rfl⟩
    have hXl : X.data.toList = t := by rw [← hX]
    rw [hX] at HT
    have hXs : X.size ≤ 4096 ∧ X.size ≠ 0 := by
      have h1 : X.data.toList.length = X.size := by rw [Array.length_toList]; rfl
      have h2 : s.data.toList.length = s.size := by rw [Array.length_toList]; rfl
      rw [hl, ht, List.length_append, List.length_append] at h2
      rw [hXl] at h1
      have : 0 < t.length := List.length_pos_iff.2 hte
      omega
    have hem := empty_no X hXs.2
    have hi : ((s[0].toNat : Int) == 45) = decide (sg = [45]) := by
      have h1 : s.data.toList[0]? = some s[0] := by
        rw [show s.data.toList[0]? = s.data[0]? from by simp, show s.data[0]? = s[0]? from rfl, getElem?_pos s 0 hs0]
      rw [hl] at h1
      rcases hsg with rfl | ⟨c, hc, rfl⟩
      · have h2 : s[0] ∈ ds := by
          rw [List.nil_append] at h1
          exact List.mem_of_getElem? h1
        have := hd _ h2
        rw [decide_eq_false (by simp)]
        simp
        omega
      · have h3 : s[0] = c := by
          have : some c = some s[0] := h1
          exact (Option.some.inj this).symm
        rw [h3, Bool.eq_iff_iff, beq_iff_eq, decide_eq_true_iff]
        exact ⟨fun e => by rw [show c = 45 from UInt8.toNat_inj.1 (show c.toNat = 45 by omega)], fun e => by cases e; rfl⟩
    have hne0 : (0 : Int) < (s.size : Int) := by omega
    have hfin : ∀ v e, PI (if sg = [45] then 45 :: t else t) v e → (e = 0 ∧ intV (sg ++ (List.replicate z 48 ++ t)) = some v) ∨ (e = 11 ∧ intV (sg ++ (List.replicate z 48 ++ t)) = none) := fun v e h => int_parse hsg hdt hte h0 h
    have HFin := hide hfin
    have HX := hide hXl
    have HHi := hide hi
    generalize intV (sg ++ (List.replicate z 48 ++ t)) = I at *
    have hxs := hXs.1
    clear hl hsg hd hn ht h0 hdt htr hte hX hXl hXs hfin
    have tail : ∀ (S : ByteArray) (w1 : World), S.size ≤ maxLen → S.data.toList = (if sg = [45] then 45 :: t else t) → True := fun _ _ _ _ => trivial
    clear tail
    by_cases hm : sg = [45]
    · subst hm
      rw [decide_eq_true rfl] at hi
      have HP := hide (fun W => parseInt_any (⟨#[45]⟩ ++ X) W (by unfold maxLen; rw [ByteArray.size_append]; show 1 + X.size ≤ _; omega))
      have hpl : (⟨#[45]⟩ ++ X : ByteArray).data.toList = 45 :: t := by rw [ByteArray.data_append, Array.toList_append, HX.out]; rfl
      rw [hpl] at HP
      have hsz : (⟨#[45]⟩ : ByteArray).size + X.size ≤ 9223372036854775807 := by show 1 + X.size ≤ _; omega
      have hsz2 : ¬ 9223372036854775807 < (⟨#[45]⟩ : ByteArray).size + X.size := by omega
      rw [if_pos rfl] at HFin
      clear hpl HHi
      go_enter Tryz.func142, Tryz.ntmps142
      go_wp2_with fail
      refine (HT.out _).mono ?_
      rintro _ w1 ⟨rfl, hB⟩
      have HA1 := hide (HA.below hB)
      have HB1 := hide (HB0.out.trans (hB.mono HB0.out.size))
      clear hB HA
      go_wp2_with fail
      refine (HP.out _).mono ?_
      rintro _ w2 ⟨⟨v, x, hp, rfl⟩, hB⟩
      have HA2 := hide (HA1.out.below hB)
      have HB2 := hide (HB1.out.trans (hB.mono HB1.out.size))
      have hI := HFin.out v x hp
      clear hB hp HP HT HFin
      rcases hI with ⟨rfl, hI⟩ | ⟨rfl, hI⟩
      · subst hI
        go_wp2_with fail
        refine (fint_any v _).mono ?_
        rintro _ w3 ⟨rfl, hB⟩
        have HA3 := HA2.out.below hB
        have HB3 := hide (HB2.out.trans (hB.mono HB2.out.size))
        have HA3' := hide HA3
        have k0 := HA3.ah.c0
        have k1 := HA3.ah.c1
        have k2 := HA3.ah.c2
        have k3 := HA3.ah.c3
        have f0 := HA3.soft
        clear hB HA3
        unfold agV
        go_wp2
        refine bodyPost_ret (res_agp rfl _ w.heap.size rfl (HA3'.out.fill 1 v 0 ⟨#[]⟩)) rfl ?_
        exact ⟨rfl, four_below HB3.out (Nat.le_refl _) _ _ _ _⟩
      · subst hI
        have k0 := HA2.out.ah.c0
        have k1 := HA2.out.ah.c1
        have k2 := HA2.out.ah.c2
        have k3 := HA2.out.ah.c3
        have f0 := HA2.out.soft
        go_wp2
        refine bodyPost_ret (res_agp rfl _ w.heap.size rfl (HA2.out.fill 0 0 0 ByteArray.empty)) rfl ?_
        exact ⟨rfl, four_below HB2.out (Nat.le_refl _) _ _ _ _⟩
    · rw [decide_eq_false hm] at hi
      have HP := hide (fun W => parseInt_any X W (by unfold maxLen; omega))
      rw [HX.out] at HP
      rw [if_neg hm] at HFin
      clear HHi
      go_enter Tryz.func142, Tryz.ntmps142
      go_wp2_with fail
      refine (HT.out _).mono ?_
      rintro _ w1 ⟨rfl, hB⟩
      have HA1 := hide (HA.below hB)
      have HB1 := hide (HB0.out.trans (hB.mono HB0.out.size))
      clear hB HA
      go_wp2_with fail
      refine (HP.out _).mono ?_
      rintro _ w2 ⟨⟨v, x, hp, rfl⟩, hB⟩
      have HA2 := hide (HA1.out.below hB)
      have HB2 := hide (HB1.out.trans (hB.mono HB1.out.size))
      have hI := HFin.out v x hp
      clear hB hp HP HT HFin
      rcases hI with ⟨rfl, hI⟩ | ⟨rfl, hI⟩
      · subst hI
        go_wp2_with fail
        refine (fint_any v _).mono ?_
        rintro _ w3 ⟨rfl, hB⟩
        have HA3 := HA2.out.below hB
        have HB3 := hide (HB2.out.trans (hB.mono HB2.out.size))
        have HA3' := hide HA3
        have k0 := HA3.ah.c0
        have k1 := HA3.ah.c1
        have k2 := HA3.ah.c2
        have k3 := HA3.ah.c3
        have f0 := HA3.soft
        clear hB HA3
        unfold agV
        go_wp2
        refine bodyPost_ret (res_agp rfl _ w.heap.size rfl (HA3'.out.fill 1 v 0 ⟨#[]⟩)) rfl ?_
        exact ⟨rfl, four_below HB3.out (Nat.le_refl _) _ _ _ _⟩
      · subst hI
        have k0 := HA2.out.ah.c0
        have k1 := HA2.out.ah.c1
        have k2 := HA2.out.ah.c2
        have k3 := HA2.out.ah.c3
        have f0 := HA2.out.soft
        go_wp2
        refine bodyPost_ret (res_agp rfl _ w.heap.size rfl (HA2.out.fill 0 0 0 ByteArray.empty)) rfl ?_
        exact ⟨rfl, four_below HB2.out (Nat.le_refl _) _ _ _ _⟩
end Go.Proofs.YtcmfpafcipgejaaGreatDoor
