/- What the proof stands on, part 2: the contracts of the program's calls that it reaches. -/
import Derived.Test.YtpcchaciomeckaaDoorKT1
import Derived.Test.YtpcchaciomeckaaDoorRows
import Derived.Shelf.Strings.OnBuilder
import Derived.Shelf.Small.Wraps
import Derived.Shelf.Strings.Repeat
import Derived.Lib.MinMax
import Derived.ProofKit
import Derived.OpenShut
import Derived.ChangeArms
import Derived.ChangeSlices
import Derived.SizedLaws
import Derived.Deep.Slices
/- Format: what the small functions on a pattern's bytes answer: kindOf, isVerb, flagOf; has, showsDigits. -/
namespace Go.Proofs.YtpcchaciomeckaaDoor
open Go.RowKit

theorem kOf_no {c : Int} (h1 : (c == 100) = false) (h2 : (c == 117) = false) (h3 : (c == 120) = false) (h4 : (c == 88) = false) (h5 : (c == 111) = false) (h6 : (c == 99) = false) (h7 : (c == 115) = false) : kOf c = 0 := by
  simp only [beq_eq_false_iff_ne, ne_eq] at h1 h2 h3 h4 h5 h6 h7
  unfold kOf
  rw [if_neg h1, if_neg (by rintro (h | h | h | h) <;> contradiction), if_neg h6, if_neg h7]
set_option maxHeartbeats 400000 in
theorem kindOf_any (c : Int) (w : World) : Calls Tryd.prog 29 #[.int .u8 c] w fun e w' => e = .returned (.int .i64 (kOf c)) ∧ w = w' := by
  rcases (show c = 100 ∨ c = 117 ∨ c = 120 ∨ c = 88 ∨ c = 111 ∨ c = 99 ∨ c = 115 ∨ ((c == 100) = false ∧ (c == 117) = false ∧ (c == 120) = false ∧ (c == 88) = false ∧ (c == 111) = false ∧ (c == 99) = false ∧ (c == 115) = false) by
    simp only [beq_eq_false_iff_ne, ne_eq]; omega) with rfl | rfl | rfl | rfl | rfl | rfl | rfl | ⟨h1, h2, h3, h4, h5, h6, h7⟩
  case _ | _ | _ | _ | _ | _ | _ =>
    go_enter Tryd.func29, Tryd.ntmps29
    go_wp2
    go_ret
    exact ⟨rfl, rfl⟩
  rw [kOf_no h1 h2 h3 h4 h5 h6 h7]
  go_enter Tryd.func29, Tryd.ntmps29
  go_wp2
  go_ret
  exact ⟨rfl, rfl⟩
set_option maxHeartbeats 400000 in
theorem flagOf_any (c : Int) (w : World) : Calls Tryd.prog 50 #[.int .u8 c] w fun e w' => e = .returned (.int .i64 (fOf c)) ∧ w = w' := by
  rcases (show c = 45 ∨ c = 43 ∨ c = 48 ∨ c = 32 ∨ ((c == 45) = false ∧ (c == 43) = false ∧ (c == 48) = false ∧ (c == 32) = false) by
    simp only [beq_eq_false_iff_ne, ne_eq]; omega) with rfl | rfl | rfl | rfl | ⟨h1, h2, h3, h4⟩
  case _ | _ | _ | _ =>
    go_enter Tryd.func50, Tryd.ntmps50
    go_wp2
    go_ret
    exact ⟨rfl, rfl⟩
  have hv : fOf c = 0 := by
    simp only [beq_eq_false_iff_ne, ne_eq] at h1 h2 h3 h4
    unfold fOf
    rw [if_neg h1, if_neg h2, if_neg h3, if_neg h4]
  rw [hv]
  clear hv
  go_enter Tryd.func50, Tryd.ntmps50
  go_wp2
  go_ret
  exact ⟨rfl, rfl⟩
def isV (c a : Int) : Bool := (c == 37 && a == 1) || kOf c != 0
set_option maxHeartbeats 400000 in
theorem isVerb_any (c a : Int) (w : World) : Calls Tryd.prog 39 #[.int .u8 c, .int .i64 a] w fun e w' => e = .returned (.bool (isV c a)) ∧ w = w' := by
  obtain ⟨k, hk⟩ : ∃ k, kOf c = k := ⟨_, rfl⟩
  have HK := hide hk
  unfold isV
  rw [hk]
  clear hk
  by_cases h1 : c = 37
  · subst h1
    by_cases h2 : a = 1
    · subst h2
      go_enter Tryd.func39, Tryd.ntmps39
      go_wp2
      go_ret
      exact ⟨rfl, rfl⟩
    · have h2' : (a == 1) = false := by simpa using h2
      go_enter Tryd.func39, Tryd.ntmps39
      go_wp2_with fail
      refine (kindOf_any _ _).mono ?_
      rintro _ _ ⟨rfl, rfl⟩
      rw [HK.out]
      go_wp2
      go_ret
      exact ⟨by simp [h2'], rfl⟩
  · have h1' : (c == 37) = false := by simpa using h1
    go_enter Tryd.func39, Tryd.ntmps39
    go_wp2_with fail
    refine (kindOf_any _ _).mono ?_
    rintro _ _ ⟨rfl, rfl⟩
    rw [HK.out]
    go_wp2
    go_ret
    exact ⟨by simp [h1'], rfl⟩
theorem fm_below (w : World) (o : Obj) : Below w.heap.size w (w.alloc o) := (Below.refl _ _).alloc (Nat.le_refl _) _
def dirV (d : Dir) : Value := .agg #[.int .i64 d.fl, .int .i64 (d.wd : Int), .bool d.pt, .int .i64 (d.pr : Int), .int .u8 (d.verb.toNat : Int)]
set_option maxHeartbeats 400000 in
theorem has_any (d : Dir) (f : Int) (w : World) : Calls Tryd.prog 54 #[dirV d, .int .i64 f] w fun e w' => e = .returned (.bool (d.has f)) ∧ Below w.heap.size w w' := by
  unfold dirV Dir.has
  go_enter Tryd.func54, Tryd.ntmps54
  go_wp2
  go_ret
  exact ⟨rfl, fm_below _ _⟩
set_option maxHeartbeats 400000 in
theorem showsDigits_any (d : Dir) (w : World) : Calls Tryd.prog 56 #[dirV d] w fun e w' => e = .returned (.bool d.num) ∧ Below w.heap.size w w' := by
  obtain ⟨k, hk⟩ : ∃ k, kOf (d.verb.toNat : Int) = k := ⟨_, rfl⟩
  have HK := hide hk
  unfold dirV Dir.num
  rw [hk]
  clear hk
  by_cases h1 : k = 1
  · subst h1
    go_enter Tryd.func56, Tryd.ntmps56
    go_wp2_with fail
    refine (kindOf_any _ _).mono ?_
    rintro _ _ ⟨rfl, rfl⟩
    rw [HK.out]
    go_wp2
    go_ret
    exact ⟨rfl, fm_below _ _⟩
  · have h1' : (k == 1) = false := by simpa using h1
    go_enter Tryd.func56, Tryd.ntmps56
    go_wp2_with fail
    refine (kindOf_any _ _).mono ?_
    rintro _ _ ⟨rfl, rfl⟩
    rw [HK.out]
    go_wp2
    go_ret
    exact ⟨by simp [h1'], fm_below _ _⟩
end Go.Proofs.YtpcchaciomeckaaDoor

/- Format: flags and numbers of a pattern: flagsAt, numberAt. -/
namespace Go.Proofs.YtpcchaciomeckaaDoor
open Go.RowKit

theorem flg_stop (c : UInt8) (l : List UInt8) (F : Int) (o : Bool) (h : fOf c.toNat = 0) : flg (c :: l) F o = (F, o, 0) := by
  unfold flg
  rw [if_pos h]
theorem flg_go (c : UInt8) (l : List UInt8) (F : Int) (o : Bool) (h : fOf c.toNat ≠ 0) : flg (c :: l) F o = ((flg l (bits .or .i64 F (fOf c.toNat)) (o && (bits .and .i64 F (fOf c.toNat) == 0))).1, (flg l (bits .or .i64 F (fOf c.toNat)) (o && (bits .and .i64 F (fOf c.toNat) == 0))).2.1, (flg l (bits .or .i64 F (fOf c.toNat)) (o && (bits .and .i64 F (fOf c.toNat) == 0))).2.2 + 1) := by
  conv => lhs; unfold flg
  rw [if_neg h]
theorem ret3' {a b c a' b' c' : Value} (h1 : a = a') (h2 : b = b') (h3 : c = c') : Ending.returned (.tuple #[a, b, c]) = .returned (.tuple #[a', b', c']) := by rw [h1, h2, h3]
set_option maxHeartbeats 1000000 in
theorem flagsAt_any (s : ByteArray) (a : Nat) (w : World) (hs : s.size ≤ maxLen) (ha : a ≤ s.size) :
    Calls Tryd.prog 37 #[.string s, .int .i64 (a : Int)] w fun e w' =>
      e = .returned (.tuple #[.int .i64 (flg (s.data.toList.drop a) 0 true).1, .int .i64 ((a + (flg (s.data.toList.drop a) 0 true).2.2 : Nat) : Int), .bool (flg (s.data.toList.drop a) 0 true).2.1]) ∧ w = w' := by
  unfold maxLen at hs
  obtain ⟨R, hR⟩ : ∃ R, flg (s.data.toList.drop a) 0 true = R := ⟨_, rfl⟩
  have HR : Hid ((flg (s.data.toList.drop a) 0 true).1 = R.1 ∧ (flg (s.data.toList.drop a) 0 true).2.1 = R.2.1 ∧ (flg (s.data.toList.drop a) 0 true).2.2 + a = R.2.2 + a) := by rw [hR]; exact ⟨rfl, rfl, rfl⟩
  rw [hR]
  clear hR
  go_enter Tryd.func37, Tryd.ntmps37
  go_wp2
  go_loop [1, 7, 8] (fun i f o => ∃ (k : Nat) (F : Int) (O : Bool), k ≤ s.size ∧ i = .int .i64 k ∧ f = .int .i64 F ∧ o = .bool O ∧ Hid ((flg (s.data.toList.drop k) F O).1 = R.1 ∧ (flg (s.data.toList.drop k) F O).2.1 = R.2.1 ∧ (flg (s.data.toList.drop k) F O).2.2 + k = R.2.2 + a)) (fun i _ _ => s.size - (intOf i).toNat)
  case atStart => exact ⟨a, 0, true, ha, rfl, rfl, rfl, HR⟩
  case round =>
    clear HR
    obtain ⟨k, F, O, hk, rfl, rfl, rfl, HP⟩ := hrel
    by_cases hlt : k < s.size
    · have hd := drop_at s k hlt
      have HQ : Hid ((flg (s[k] :: s.data.toList.drop (k + 1)) F O).1 = R.1 ∧ (flg (s[k] :: s.data.toList.drop (k + 1)) F O).2.1 = R.2.1 ∧ (flg (s[k] :: s.data.toList.drop (k + 1)) F O).2.2 + k = R.2.2 + a) := by rw [← hd]; exact HP.out
      clear hd HP
      obtain ⟨v, hv⟩ : ∃ v, fOf (s[k].toNat : Int) = v := ⟨_, rfl⟩
      have HV := hide hv
      clear hv
      by_cases h0 : v = 0
      · subst h0
        go_wp2_with (go_at_call 50; refine (flagOf_any _ _).mono ?_; rintro _ _ ⟨rfl, rfl⟩; rw [HV.out])
        go_ret3
        have hq := HQ.out
        rw [flg_stop _ _ _ _ HV.out] at hq
        obtain ⟨q1, q2, q3⟩ := hq
        simp only at q1 q2 q3
        exact ⟨ret3' (congrArg (Value.int .i64) q1) (congrArg (fun n : Nat => Value.int .i64 (n : Int)) (show k = a + R.2.2 by omega)) (congrArg Value.bool q2), rfl⟩
      · have h0' : (v != 0) = true := by simpa using h0
        have HQ2 := HQ.out
        rw [flg_go _ _ _ _ (by rw [HV.out]; exact h0), HV.out] at HQ2
        have HQ3 := hide HQ2
        clear HQ HQ2
        cases O with
        | false =>
          go_wp2_with (go_at_call 50; refine (flagOf_any _ _).mono ?_; rintro _ _ ⟨rfl, rfl⟩; rw [HV.out])
          go_round
          case rel =>
            refine ⟨k + 1, bits .or .i64 F v, false, by omega, by go_num, rfl, rfl, ?_⟩
            obtain ⟨q1, q2, q3⟩ := HQ3.out
            exact ⟨q1, q2, by rw [← q3, Bool.false_and]; omega⟩
          case measure => simp [intOf]; omega
        | true =>
          obtain ⟨z, hz⟩ : ∃ z, (bits .and .i64 F v == 0) = z := ⟨_, rfl⟩
          rw [hz] at HQ3
          go_wp2_with (go_at_call 50; refine (flagOf_any _ _).mono ?_; rintro _ _ ⟨rfl, rfl⟩; rw [HV.out])
          go_round
          case rel =>
            refine ⟨k + 1, bits .or .i64 F v, z, by omega, by go_num, rfl, by first | rfl | rw [hz], ?_⟩
            obtain ⟨q1, q2, q3⟩ := HQ3.out
            exact ⟨q1, q2, by rw [← q3, Bool.true_and]; omega⟩
          case measure => simp [intOf]; omega
    · have hq := HP.out
      rw [drop_end s k (by omega)] at hq
      have HP2 := hide hq
      clear HP hq
      go_wp2
      go_ret3
      obtain ⟨q1, q2, q3⟩ := HP2.out
      unfold flg at q1 q2 q3
      simp only at q1 q2 q3
      exact ⟨ret3' (congrArg (Value.int .i64) q1) (congrArg (fun n : Nat => Value.int .i64 (n : Int)) (show k = a + R.2.2 by omega)) (congrArg Value.bool q2), rfl⟩

def isDg (c : UInt8) : Prop := 48 ≤ c.toNat ∧ c.toNat ≤ 57
theorem run10_all : ∀ l : List UInt8, ∀ c ∈ l.take (run10 l), isDg c
  | [], c, h => by cases h
  | x :: l, c, h => by
    unfold run10 at h
    split at h
    · rename_i hx
      rw [List.take_succ_cons, List.mem_cons] at h
      rcases h with rfl | h
      · exact hx
      · exact run10_all l c h
    · cases h
theorem val10_lt : ∀ (d : List UInt8) (m : Nat), (∀ c ∈ d, isDg c) → val10 d m < (m + 1) * 10 ^ d.length
  | [], m, _ => by simp [val10]
  | c :: d, m, h => by
    have hc := h c (List.mem_cons_self ..)
    unfold isDg at hc
    have := val10_lt d (m * 10 + (c.toNat - 48)) (fun x hx => h x (List.mem_cons_of_mem _ hx))
    unfold val10
    refine Nat.lt_of_lt_of_le this ?_
    rw [List.length_cons, Nat.pow_succ', ← Nat.mul_assoc]
    exact Nat.mul_le_mul_right _ (by omega)
theorem val10_pb : ∀ (d : List UInt8) (m : Nat) (i : Int), (∀ c ∈ d, isDg c) → (m + 1) * 10 ^ d.length ≤ 1000000 → pb 10 d m i = ((val10 d m : Int), 0, i + (d.length : Int))
  | [], m, i, _, _ => by
    unfold pb val10
    simp
  | c :: d, m, i, h, hm => by
    have hc := h c (List.mem_cons_self ..)
    unfold isDg at hc
    have hp : 1 ≤ 10 ^ d.length := Nat.one_le_pow _ _ (by decide)
    rw [List.length_cons, Nat.pow_succ', ← Nat.mul_assoc] at hm
    have hmm : (m + 1) * 10 ≤ 1000000 := Nat.le_trans (Nat.le_mul_of_pos_right _ hp) hm
    have hv : valI (c.toNat : Int) = (c.toNat : Int) - 48 := by unfold valI; rw [if_pos (by omega)]
    rw [pb_cons _ _ _ _ _ (by rw [hv]; omega) (by rw [hv]; omega), hv, show (m : Int) * 10 + ((c.toNat : Int) - 48) = ((m * 10 + (c.toNat - 48) : Nat) : Int) by omega,
      val10_pb d _ _ (fun x hx => h x (List.mem_cons_of_mem _ hx)) (Nat.le_trans (Nat.mul_le_mul_right _ (by omega)) hm), List.length_cons]
    conv => rhs; unfold val10
    refine Prod.ext rfl (Prod.ext rfl ?_)
    show i + 1 + (d.length : Int) = i + ((d.length + 1 : Nat) : Int)
    omega
theorem ext_list (s : ByteArray) (a b : Nat) : (s.extract a b).data.toList = (s.data.toList.drop a).take (b - a) := by
  rw [ByteArray.data_extract, Array.toList_extract, List.extract_eq_take_drop]
theorem ext_size (s : ByteArray) (a b : Nat) (hb : b ≤ s.size) : (s.extract a b).size = b - a := by
  rw [ByteArray.size_extract]
  omega
theorem run10_at (c : UInt8) (l : List UInt8) : run10 (c :: l) = if 48 ≤ c.toNat ∧ c.toNat ≤ 57 then run10 l + 1 else 0 := by
  conv => lhs; unfold run10
set_option maxHeartbeats 2000000 in
theorem numberAt_any (s : ByteArray) (a : Nat) (w : World) (hs : s.size ≤ maxLen) (ha : a ≤ s.size) :
    Calls Tryd.prog 38 #[.string s, .int .i64 (a : Int)] w fun e w' =>
      e = .returned (.tuple #[.int .i64 ((numAt (s.data.toList.drop a)).1 : Int), .int .i64 ((a + (numAt (s.data.toList.drop a)).2.1 : Nat) : Int), .bool (numAt (s.data.toList.drop a)).2.2]) ∧ w = w' := by
  have hsm := hs
  unfold maxLen at hs
  obtain ⟨r, hr⟩ : ∃ r, run10 (s.data.toList.drop a) = r := ⟨_, rfl⟩
  have hrl := run10_len (s.data.toList.drop a)
  rw [drop_len, hr] at hrl
  have hsz : s.data.toList.length = s.size := by rw [Array.length_toList]; rfl
  rw [hsz] at hrl
  have har : a + r ≤ s.size := by omega
  obtain ⟨N, hN⟩ : ∃ N, numAt (s.data.toList.drop a) = N := ⟨_, rfl⟩
  have hall := run10_all (s.data.toList.drop a)
  rw [hr] at hall
  have hx := ext_list s a (a + r)
  rw [show a + r - a = r by omega] at hx
  have hxs : (s.extract a (a + r)).size ≤ maxLen := by rw [ext_size s a _ har]; omega
  have HPB := hide (fun W => parseBase_any (s.extract a (a + r)) 10 W hxs)
  have hpv : 0 < r → r ≤ 4 → parseB 10 (s.extract a (a + r)).data.toList = ((val10 ((s.data.toList.drop a).take r) 0 : Int), 0, (r : Int)) := by
    intro h1 h4
    have hl : ((s.data.toList.drop a).take r).length = r := by rw [List.length_take, drop_len, hsz]; omega
    rw [hx, parseB_yes 10 _ (by decide) (by decide) (by intro e; rw [e] at hl; simp at hl; omega)]
    have := val10_pb _ 0 0 hall (by rw [hl, Nat.zero_add, Nat.one_mul]; exact Nat.le_trans (Nat.pow_le_pow_right (by decide) h4) (by decide))
    rw [hl] at this
    refine Eq.trans this ?_
    simp
  have hnv : N = if r = 0 then (0, 0, true) else if 4 < r ∨ 4096 < val10 ((s.data.toList.drop a).take r) 0 then (0, r, false) else (val10 ((s.data.toList.drop a).take r) 0, r, true) := by
    rw [← hN]
    unfold numAt
    rw [hr]
  generalize val10 ((s.data.toList.drop a).take r) 0 = V at hpv hnv
  generalize parseB 10 (s.extract a (a + r)).data.toList = P at hpv HPB
  have HPV := hide hpv
  have HNV := hide hnv
  have HRUN : Hid (run10 (s.data.toList.drop a) + a = r + a) := by rw [hr]; rfl
  rw [hN]
  obtain ⟨M, hM⟩ : ∃ M : Int, ((a + N.2.1 : Nat) : Int) = M := ⟨_, rfl⟩
  rw [hM]
  have HM := hide hM
  clear hM
  obtain ⟨N1, N2, N3⟩ := N
  clear hN hnv hpv hall hx hxs hr hrl hsz
  go_enter Tryd.func38, Tryd.ntmps38
  go_wp2
  go_loop [1] (fun i => ∃ (k : Nat), a ≤ k ∧ k ≤ s.size ∧ i = .int .i64 k ∧ Hid (run10 (s.data.toList.drop k) + k = r + a)) (fun i => s.size - (intOf i).toNat)
  case atStart => exact ⟨a, Nat.le_refl _, ha, rfl, HRUN⟩
  case round =>
    clear HRUN
    obtain ⟨k, hak, hk, rfl, HP⟩ := hrel
    have key : (k < s.size ∧ ∃ c : UInt8, Hid (s[k]? = some c) ∧ (48 : Int) ≤ (c.toNat : Int) ∧ (c.toNat : Int) ≤ 57 ∧ Hid (run10 (s.data.toList.drop (k + 1)) + (k + 1) = r + a)) ∨ (Hid (k = a + r) ∧ (¬ ((k : Int) < (s.size : Int)) ∨ ∃ hlt : k < s.size, ¬ (48 : Int) ≤ (s[k].toNat : Int) ∨ ((48 : Int) ≤ (s[k].toNat : Int) ∧ ¬ (s[k].toNat : Int) ≤ 57))) := by
      by_cases hlt : k < s.size
      · have hd := drop_at s k hlt
        have hp := HP.out
        rw [hd, run10_at] at hp
        by_cases hc : 48 ≤ s[k].toNat ∧ s[k].toNat ≤ 57
        · rw [if_pos hc] at hp
          exact .inl ⟨hlt, s[k], by rw [getElem?_pos s k hlt]; rfl, by omega, by omega, by show run10 (s.data.toList.drop (k + 1)) + (k + 1) = r + a; omega⟩
        · rw [if_neg hc] at hp
          exact .inr ⟨(by omega : k = a + r), .inr ⟨hlt, by omega⟩⟩
      · have hp := HP.out
        rw [drop_end s k (by omega)] at hp
        unfold run10 at hp
        exact .inr ⟨(by omega : k = a + r), .inl (by omega)⟩
    clear HP
    rcases key with ⟨hlt, c, hc, h1, h2, HP⟩ | ⟨HK, hE⟩
    · obtain hc' : s[k] = c := by have := hc.out; rw [getElem?_pos s k hlt] at this; exact Option.some.inj this
      have h1' : (48 : Int) ≤ (s[k].toNat : Int) := by rw [hc']; exact h1
      have h2' : (s[k].toNat : Int) ≤ 57 := by rw [hc']; exact h2
      clear hc hc' h1 h2
      go_wp2
      go_round
      case rel => exact ⟨k + 1, by omega, by omega, by go_num, HP⟩
      case measure => simp [intOf]; omega
    · have HPB2 := HPB
      rw [← HK.out] at HPB2
      clear HPB
      by_cases h0 : r = 0
      · have hka : ((k : Int) == (a : Int)) = true := by have := HK.out; simp only [beq_iff_eq]; omega
        rcases hE with hE | ⟨hlt, h1 | ⟨h1, h2⟩⟩
        all_goals
          go_wp2
          go_ret3
          have hn := HNV.out
          rw [if_pos h0] at hn
          cases hn
          have := HK.out
          exact ⟨ret3' rfl (congrArg (Value.int .i64) (by have q1 : ((a + 0 : Nat) : Int) = M := HM.out; omega)) rfl, rfl⟩
      · have e1' : ((k : Int) == (a : Int)) = false := by have := HK.out; simp only [beq_eq_false_iff_ne, ne_eq]; omega
        by_cases h4 : 4 < r
        · have hn := HNV.out
          rw [if_neg h0, if_pos (.inl h4)] at hn
          cases hn
          have e3 : (4 : Int) < (k : Int) - (a : Int) := by have := HK.out; omega
          by_cases he : P.2.1 = 0
          · obtain ⟨p1, p2, p3⟩ := P
            simp only at he
            subst he
            rcases hE with hE | ⟨hlt, h1 | ⟨h1, h2⟩⟩
            all_goals
              go_wp2_with (go_at_call 51; refine (HPB2.out _).mono ?_; rintro _ _ ⟨rfl, rfl⟩)
              go_ret3
              exact ⟨ret3' rfl (congrArg (Value.int .i64) (by have q1 : ((a + r : Nat) : Int) = M := HM.out; have := HK.out; omega)) rfl, rfl⟩
          · have he' : (P.2.1 != 0) = true := by simpa using he
            rcases hE with hE | ⟨hlt, h1 | ⟨h1, h2⟩⟩
            all_goals
              go_wp2_with (go_at_call 51; refine (HPB2.out _).mono ?_; rintro _ _ ⟨rfl, rfl⟩)
              go_ret3
              exact ⟨ret3' rfl (congrArg (Value.int .i64) (by have q1 : ((a + r : Nat) : Int) = M := HM.out; have := HK.out; omega)) rfl, rfl⟩
        · have hp := HPV.out (by omega) (by omega)
          subst hp
          have e3 : ¬ (4 : Int) < (k : Int) - (a : Int) := by have := HK.out; omega
          by_cases hV : 4096 < V
          · have hn := HNV.out
            rw [if_neg h0, if_pos (.inr hV)] at hn
            cases hn
            have e4 : (4096 : Int) < (V : Int) := by omega
            rcases hE with hE | ⟨hlt, h1 | ⟨h1, h2⟩⟩
            all_goals
              go_wp2_with (go_at_call 51; refine (HPB2.out _).mono ?_; rintro _ _ ⟨rfl, rfl⟩)
              go_ret3
              exact ⟨ret3' rfl (congrArg (Value.int .i64) (by have q1 : ((a + r : Nat) : Int) = M := HM.out; have := HK.out; omega)) rfl, rfl⟩
          · have hn := HNV.out
            rw [if_neg h0, if_neg (by omega)] at hn
            cases hn
            have e4 : ¬ (4096 : Int) < (V : Int) := by omega
            rcases hE with hE | ⟨hlt, h1 | ⟨h1, h2⟩⟩
            all_goals
              go_wp2_with (go_at_call 51; refine (HPB2.out _).mono ?_; rintro _ _ ⟨rfl, rfl⟩)
              go_ret3
              exact ⟨ret3' rfl (congrArg (Value.int .i64) (by have q1 : ((a + r : Nat) : Int) = M := HM.out; have := HK.out; omega)) rfl, rfl⟩
end Go.Proofs.YtpcchaciomeckaaDoor

/- Contracts of Go's library at this dump, laid by the kit's own command. -/
namespace Go.Proofs
open Go.Shelf Go.RowKit Go.Lib
def Tryd.lays158_ren : Go.Shelf.Ren := ⟨fun | 158 => 58 | 165 => 64 | 166 => 65 | 167 => 66 | 169 => 67 | 230 => 68 | 203 => 69 | 240 => 74 | 241 => 75 | 197 => 76 | 118 => 77 | 168 => 78 | 270 => 79 | 262 => 80 | 276 => 83 | 277 => 84 | 260 => 85 | 242 => 86 | 313 => 87 | 278 => 88 | 274 => 89 | 275 => 90 | n => n, fun | 9 => 9 | 4 => 4 | 3 => 3 | 5 => 5 | 72 => 97 | 0 => 0 | 76 => 101 | 75 => 100 | 107 => 106 | 70 => 95 | 20 => 20 | 37 => 24 | 127 => 112 | 21 => 21 | 105 => 113 | 164 => 123 | 162 => 129 | 203 => 127 | 119 => 130 | 46 => 108 | 139 => 133 | 138 => 132 | 51 => 118 | 160 => 134 | 208 => 140 | 206 => 138 | 80 => 104 | n => n, fun | 13 => 0 | 3 => 2 | 4 => 3 | n => n⟩
theorem Tryd.lays158 : Go.Proofs.Lays.n158 Tryd.prog Tryd.lays158_ren := {
  mixed := by kernel_rfl
  f118 := Tryd.func77.trans (congrArg some (by kernel_rfl))
  f158 := Tryd.func58.trans (congrArg some (by kernel_rfl))
  f165 := Tryd.func64.trans (congrArg some (by kernel_rfl))
  f166 := Tryd.func65.trans (congrArg some (by kernel_rfl))
  f167 := Tryd.func66.trans (congrArg some (by kernel_rfl))
  f168 := Tryd.func78.trans (congrArg some (by kernel_rfl))
  f169 := Tryd.func67.trans (congrArg some (by kernel_rfl))
  f197 := Tryd.func76.trans (congrArg some (by kernel_rfl))
  f203 := Tryd.func69.trans (congrArg some (by kernel_rfl))
  f230 := Tryd.func68.trans (congrArg some (by kernel_rfl))
  f240 := Tryd.func74.trans (congrArg some (by kernel_rfl))
  f241 := Tryd.func75.trans (congrArg some (by kernel_rfl))
  f242 := Tryd.func86.trans (congrArg some (by kernel_rfl))
  f260 := Tryd.func85.trans (congrArg some (by kernel_rfl))
  f262 := Tryd.func80.trans (congrArg some (by kernel_rfl))
  f270 := Tryd.func79.trans (congrArg some (by kernel_rfl))
  f274 := Tryd.func89.trans (congrArg some (by kernel_rfl))
  f275 := Tryd.func90.trans (congrArg some (by kernel_rfl))
  f276 := Tryd.func83.trans (congrArg some (by kernel_rfl))
  f277 := Tryd.func84.trans (congrArg some (by kernel_rfl))
  f278 := Tryd.func88.trans (congrArg some (by kernel_rfl))
  f313 := Tryd.func87.trans (congrArg some (by kernel_rfl))
  t0 := Tryd.underlying0
  a0 := Tryd.isAgg0
  z0 := Tryd.sizeOf0
  v0 := Tryd.zeroValue0
  t3 := Tryd.underlying3
  a3 := Tryd.isAgg3
  z3 := Tryd.sizeOf3
  v3 := Tryd.zeroValue3
  t4 := Tryd.underlying4
  a4 := Tryd.isAgg4
  z4 := Tryd.sizeOf4
  v4 := Tryd.zeroValue4
  t5 := Tryd.underlying5
  a5 := Tryd.isAgg5
  z5 := Tryd.sizeOf5
  v5 := Tryd.zeroValue5
  t9 := Tryd.underlying9
  a9 := Tryd.isAgg9
  z9 := Tryd.sizeOf9
  v9 := Tryd.zeroValue9
  t20 := Tryd.underlying20
  a20 := Tryd.isAgg20
  z20 := Tryd.sizeOf20
  v20 := Tryd.zeroValue20
  t21 := Tryd.underlying21
  a21 := Tryd.isAgg21
  z21 := Tryd.sizeOf21
  v21 := Tryd.zeroValue21
  t37 := Tryd.underlying24
  a37 := Tryd.isAgg24
  z37 := Tryd.sizeOf24
  v37 := Tryd.zeroValue24
  t46 := Tryd.underlying108
  a46 := Tryd.isAgg108
  z46 := Tryd.sizeOf108
  v46 := Tryd.zeroValue108
  t51 := Tryd.underlying118
  a51 := Tryd.isAgg118
  z51 := Tryd.sizeOf118
  v51 := Tryd.zeroValue118
  t70 := Tryd.underlying95
  a70 := Tryd.isAgg95
  z70 := Tryd.sizeOf95
  v70 := Tryd.zeroValue95
  t72 := Tryd.underlying97
  a72 := Tryd.isAgg97
  z72 := Tryd.sizeOf97
  v72 := Tryd.zeroValue97
  t75 := Tryd.underlying100
  a75 := Tryd.isAgg100
  z75 := Tryd.sizeOf100
  v75 := Tryd.zeroValue100
  t76 := Tryd.underlying101
  a76 := Tryd.isAgg101
  z76 := Tryd.sizeOf101
  v76 := Tryd.zeroValue101
  t105 := Tryd.underlying113
  a105 := Tryd.isAgg113
  z105 := Tryd.sizeOf113
  v105 := Tryd.zeroValue113
  t107 := Tryd.underlying106
  a107 := Tryd.isAgg106
  z107 := Tryd.sizeOf106
  v107 := Tryd.zeroValue106
  t119 := Tryd.underlying130
  a119 := Tryd.isAgg130
  z119 := Tryd.sizeOf130
  t127 := Tryd.underlying112
  a127 := Tryd.isAgg112
  z127 := Tryd.sizeOf112
  v127 := Tryd.zeroValue112
  t138 := Tryd.underlying132
  a138 := Tryd.isAgg132
  z138 := Tryd.sizeOf132
  v138 := Tryd.zeroValue132
  t139 := Tryd.underlying133
  a139 := Tryd.isAgg133
  z139 := Tryd.sizeOf133
  v139 := Tryd.zeroValue133
  t160 := Tryd.underlying134
  a160 := Tryd.isAgg134
  z160 := Tryd.sizeOf134
  v160 := Tryd.zeroValue134
  t162 := Tryd.underlying129
  a162 := Tryd.isAgg129
  z162 := Tryd.sizeOf129
  v162 := Tryd.zeroValue129
  t164 := Tryd.underlying123
  a164 := Tryd.isAgg123
  z164 := Tryd.sizeOf123
  v164 := Tryd.zeroValue123
  t203 := Tryd.underlying127
  a203 := Tryd.isAgg127
  z203 := Tryd.sizeOf127
  v203 := Tryd.zeroValue127
  t206 := Tryd.underlying138
  a206 := Tryd.isAgg138
  z206 := Tryd.sizeOf138
  v206 := Tryd.zeroValue138
  t208 := Tryd.underlying140
  a208 := Tryd.isAgg140
  z208 := Tryd.sizeOf140
  v208 := Tryd.zeroValue140
  g3 := by kernel_rfl
  g4 := by kernel_rfl
  g13 := by kernel_rfl }
theorem Tryd.Builder_Extra_158 : Builder.Extra Tryd.prog Tryd.lays158_ren := {
  sizeBuilder := by kernel_rfl
  liesBuilder := by kernel_rfl
  t5 := Tryd.underlying5
  a5 := Tryd.isAgg5
  z5 := Tryd.sizeOf5
  v5 := Tryd.zeroValue5
  infoByte := by kernel_rfl
  cellsByte := by kernel_rfl
  sizeByte := by kernel_rfl
  neB5 := by decide }
theorem Tryd.strings_ToUpper_ascii (s : ByteArray) (w : World) (hs : s.size ≤ 140737488355328) (hascii : ∀ (j : Nat) (b : UInt8), s.data.toList[j]? = some b → b.toNat < 128) :
    Calls Tryd.prog 58 #[.string s] w fun e w' => e = .returned (.string ⟨(Lib.toUpperA s.data.toList).toArray⟩) ∧ Below w.heap.size w w' := Any.strings_ToUpper_ascii Tryd.lays158 Tryd.Builder_Extra_158 s w hs hascii
def Tryd.lays103_ren : Go.Shelf.Ren := ⟨fun | 103 => 40 | 210 => 52 | 206 => 61 | n => n, fun | 9 => 9 | 4 => 4 | 24 => 75 | 3 => 3 | n => n, fun | n => n⟩
theorem Tryd.lays103 : Go.Proofs.Lays.n103 Tryd.prog Tryd.lays103_ren := {
  mixed := by kernel_rfl
  f103 := Tryd.func40.trans (congrArg some (by kernel_rfl))
  f206 := Tryd.func61.trans (congrArg some (by kernel_rfl))
  f210 := Tryd.func52.trans (congrArg some (by kernel_rfl))
  t3 := Tryd.underlying3
  a3 := Tryd.isAgg3
  z3 := Tryd.sizeOf3
  v3 := Tryd.zeroValue3
  t4 := Tryd.underlying4
  a4 := Tryd.isAgg4
  z4 := Tryd.sizeOf4
  v4 := Tryd.zeroValue4
  t9 := Tryd.underlying9
  a9 := Tryd.isAgg9
  z9 := Tryd.sizeOf9
  v9 := Tryd.zeroValue9
  t24 := Tryd.underlying75
  a24 := Tryd.isAgg75
  z24 := Tryd.sizeOf75
  v24 := Tryd.zeroValue75 }
theorem Tryd.strings_CutPrefix (s p : ByteArray) (w : World) :
    Calls Tryd.prog 40 #[.string s, .string p] w fun e w' => e = .returned (.tuple #[.string ⟨(Lib.trimPrefix s.data.toList p.data.toList).toArray⟩, .bool (Lib.hasPrefix s.data.toList p.data.toList)]) ∧ w' = w := Any.strings_CutPrefix Tryd.lays103 s p w
def Tryd.lays105_ren : Go.Shelf.Ren := ⟨fun | 105 => 63 | 212 => 71 | 99 => 72 | 165 => 64 | 166 => 65 | 170 => 73 | 169 => 67 | 263 => 81 | 264 => 82 | 206 => 61 | 240 => 74 | 241 => 75 | 276 => 83 | 277 => 84 | n => n, fun | 9 => 9 | 3 => 3 | 4 => 4 | 20 => 20 | 0 => 0 | 46 => 108 | 109 => 109 | 5 => 5 | 72 => 97 | 76 => 101 | 51 => 118 | 146 => 119 | 53 => 35 | 148 => 121 | 70 => 95 | 37 => 24 | 75 => 100 | 127 => 112 | 164 => 123 | 80 => 104 | n => n, fun | n => n⟩
theorem Tryd.lays105 : Go.Proofs.Lays.n105 Tryd.prog Tryd.lays105_ren := {
  mixed := by kernel_rfl
  f99 := Tryd.func72.trans (congrArg some (by kernel_rfl))
  f105 := Tryd.func63.trans (congrArg some (by kernel_rfl))
  f165 := Tryd.func64.trans (congrArg some (by kernel_rfl))
  f166 := Tryd.func65.trans (congrArg some (by kernel_rfl))
  f169 := Tryd.func67.trans (congrArg some (by kernel_rfl))
  f170 := Tryd.func73.trans (congrArg some (by kernel_rfl))
  f206 := Tryd.func61.trans (congrArg some (by kernel_rfl))
  f212 := Tryd.func71.trans (congrArg some (by kernel_rfl))
  f240 := Tryd.func74.trans (congrArg some (by kernel_rfl))
  f241 := Tryd.func75.trans (congrArg some (by kernel_rfl))
  f263 := Tryd.func81.trans (congrArg some (by kernel_rfl))
  f264 := Tryd.func82.trans (congrArg some (by kernel_rfl))
  f276 := Tryd.func83.trans (congrArg some (by kernel_rfl))
  f277 := Tryd.func84.trans (congrArg some (by kernel_rfl))
  t0 := Tryd.underlying0
  a0 := Tryd.isAgg0
  z0 := Tryd.sizeOf0
  v0 := Tryd.zeroValue0
  t3 := Tryd.underlying3
  a3 := Tryd.isAgg3
  z3 := Tryd.sizeOf3
  v3 := Tryd.zeroValue3
  t4 := Tryd.underlying4
  a4 := Tryd.isAgg4
  z4 := Tryd.sizeOf4
  v4 := Tryd.zeroValue4
  t5 := Tryd.underlying5
  a5 := Tryd.isAgg5
  z5 := Tryd.sizeOf5
  v5 := Tryd.zeroValue5
  t9 := Tryd.underlying9
  a9 := Tryd.isAgg9
  z9 := Tryd.sizeOf9
  v9 := Tryd.zeroValue9
  t20 := Tryd.underlying20
  a20 := Tryd.isAgg20
  z20 := Tryd.sizeOf20
  v20 := Tryd.zeroValue20
  t37 := Tryd.underlying24
  a37 := Tryd.isAgg24
  z37 := Tryd.sizeOf24
  v37 := Tryd.zeroValue24
  t46 := Tryd.underlying108
  a46 := Tryd.isAgg108
  z46 := Tryd.sizeOf108
  v46 := Tryd.zeroValue108
  t51 := Tryd.underlying118
  a51 := Tryd.isAgg118
  z51 := Tryd.sizeOf118
  v51 := Tryd.zeroValue118
  t53 := Tryd.underlying35
  a53 := Tryd.isAgg35
  z53 := Tryd.sizeOf35
  v53 := Tryd.zeroValue35
  t70 := Tryd.underlying95
  a70 := Tryd.isAgg95
  z70 := Tryd.sizeOf95
  v70 := Tryd.zeroValue95
  t72 := Tryd.underlying97
  a72 := Tryd.isAgg97
  z72 := Tryd.sizeOf97
  v72 := Tryd.zeroValue97
  t75 := Tryd.underlying100
  a75 := Tryd.isAgg100
  z75 := Tryd.sizeOf100
  v75 := Tryd.zeroValue100
  t76 := Tryd.underlying101
  a76 := Tryd.isAgg101
  z76 := Tryd.sizeOf101
  v76 := Tryd.zeroValue101
  t109 := Tryd.underlying109
  a109 := Tryd.isAgg109
  z109 := Tryd.sizeOf109
  v109 := Tryd.zeroValue109
  t127 := Tryd.underlying112
  a127 := Tryd.isAgg112
  z127 := Tryd.sizeOf112
  v127 := Tryd.zeroValue112
  t146 := Tryd.underlying119
  a146 := Tryd.isAgg119
  z146 := Tryd.sizeOf119
  v146 := Tryd.zeroValue119
  t148 := Tryd.underlying121
  a148 := Tryd.isAgg121
  z148 := Tryd.sizeOf121
  v148 := Tryd.zeroValue121
  t164 := Tryd.underlying123
  a164 := Tryd.isAgg123
  z164 := Tryd.sizeOf123
  v164 := Tryd.zeroValue123 }
theorem Tryd.Builder_Extra_105 : Builder.Extra Tryd.prog Tryd.lays105_ren := {
  sizeBuilder := by kernel_rfl
  liesBuilder := by kernel_rfl
  t5 := Tryd.underlying5
  a5 := Tryd.isAgg5
  z5 := Tryd.sizeOf5
  v5 := Tryd.zeroValue5
  infoByte := by kernel_rfl
  cellsByte := by kernel_rfl
  sizeByte := by kernel_rfl
  neB5 := by decide }
theorem Tryd.strings_Repeat (s : ByteArray) (c : Nat) (w : World) (hc : c ≤ 9223372036854775807) (hlen : s.size * c ≤ 140737488355328) :
    Calls Tryd.prog 63 #[.string s, .int .i64 c] w fun e w' => e = .returned (.string ⟨(Lib.repeatL s.data.toList c).toArray⟩) ∧ Below w.heap.size w w' := Any.strings_Repeat Tryd.lays105 Tryd.Builder_Extra_105 s c w hc hlen
end Go.Proofs

/- Format: what a directive makes of strings: repeated, sign, precise, cut, wide, digits. -/
namespace Go.Proofs.YtpcchaciomeckaaDoor
open Go.RowKit

theorem bstr {x y : ByteArray} (h : x.data.toList = y.data.toList) : x = y := ByteArray.ext (Array.ext' h)
theorem ret_str {x y : ByteArray} (h : x.data.toList = y.data.toList) : Ending.returned (.string x) = .returned (.string y) := by rw [bstr h]
theorem repeatL_one' (c : UInt8) : ∀ n, Lib.repeatL [c] n = List.replicate n c := by
  intro n
  have := Lib.repeatL_replicate c 1 n
  rw [Nat.mul_one] at this
  exact this
set_option maxHeartbeats 400000 in
theorem repeated_any (c : UInt8) (n : Int) (w : World) (h0 : -9223372036854775808 ≤ n) (h1 : n ≤ 65536) :
    Calls Tryd.prog 55 #[.string ⟨#[c]⟩, .int .i64 n] w fun e w' => e = .returned (.string ⟨(List.replicate n.toNat c).toArray⟩) ∧ Below w.heap.size w w' := by
  have HR := hide (fun W => Tryd.strings_Repeat ⟨#[c]⟩ n.toNat W (by omega) (by show 1 * n.toNat ≤ _; omega))
  have hm : max n 0 = ((n.toNat : Nat) : Int) := by omega
  have hl : Lib.repeatL (⟨#[c]⟩ : ByteArray).data.toList n.toNat = List.replicate n.toNat c := repeatL_one' c _
  rw [hl] at HR
  clear hl
  by_cases hn : n < 0
  · obtain ⟨k, hk⟩ : ∃ k, n.toNat = k := ⟨_, rfl⟩
    have hk0 : k = 0 := by omega
    rw [hk] at HR ⊢
    subst hk0
    have hm0 : max n 0 = 0 := by omega
    clear hm hk
    go_enter Tryd.func55, Tryd.ntmps55
    go_wp2_with fail
    refine (HR.out _).mono ?_
    rintro _ w2 ⟨rfl, hB⟩
    go_wp2
    go_ret
    exact ⟨rfl, hB⟩
  · obtain ⟨k, rfl⟩ : ∃ k : Nat, n = k := ⟨n.toNat, by omega⟩
    rw [Int.toNat_natCast] at HR ⊢
    clear hm
    go_enter Tryd.func55, Tryd.ntmps55
    go_wp2_with fail
    refine (HR.out _).mono ?_
    rintro _ w2 ⟨rfl, hB⟩
    go_wp2
    go_ret
    exact ⟨rfl, hB⟩

structure DirAt (W : World) (b : Nat) (d : Dir) : Prop where
  c0 : W.cell? ⟨b, 0, none⟩ = some (.int .i64 d.fl)
  c1 : W.cell? ⟨b, 1, none⟩ = some (.int .i64 (d.wd : Int))
  c2 : W.cell? ⟨b, 2, none⟩ = some (.bool d.pt)
  c3 : W.cell? ⟨b, 3, none⟩ = some (.int .i64 (d.pr : Int))
  c4 : W.cell? ⟨b, 4, none⟩ = some (.int .u8 (d.verb.toNat : Int))
theorem DirAt.new (w : World) (d : Dir) : DirAt (w.alloc (.cells #[.int .i64 d.fl, .int .i64 (d.wd : Int), .bool d.pt, .int .i64 (d.pr : Int), .int .u8 (d.verb.toNat : Int)] 61)) w.heap.size d := by
  refine ⟨?_, ?_, ?_, ?_, ?_⟩ <;> (rw [cell_of_row _ w.heap.size _ _ _ _ (heap_alloc_new w _)]; rfl)
theorem DirAt.lt {W : World} {b : Nat} {d : Dir} (h : DirAt W b d) : b < W.heap.size := World.block_lt_of_cell? W _ h.c0
theorem DirAt.below {W W' : World} {b : Nat} {d : Dir} (h : DirAt W b d) (hB : Below W.heap.size W W') : DirAt W' b d :=
  ⟨(hB.cell (p := ⟨b, 0, none⟩) h.lt).trans h.c0, (hB.cell (p := ⟨b, 1, none⟩) h.lt).trans h.c1, (hB.cell (p := ⟨b, 2, none⟩) h.lt).trans h.c2, (hB.cell (p := ⟨b, 3, none⟩) h.lt).trans h.c3, (hB.cell (p := ⟨b, 4, none⟩) h.lt).trans h.c4⟩
theorem has_is (d : Dir) (f : Int) (x : Bool) (h : d.has f = x) (w : World) : Calls Tryd.prog 54 #[dirV d, .int .i64 f] w fun e w' => e = .returned (.bool x) ∧ Below w.heap.size w w' := by
  rw [← h]
  exact has_any d f w
theorem num_is (d : Dir) (x : Bool) (h : d.num = x) (w : World) : Calls Tryd.prog 56 #[dirV d] w fun e w' => e = .returned (.bool x) ∧ Below w.heap.size w w' := by
  rw [← h]
  exact showsDigits_any d w
set_option maxHeartbeats 1000000 in
theorem sign_any (d : Dir) (b : Bool) (w : World) : Calls Tryd.prog 43 #[dirV d, .bool b] w fun e w' => e = .returned (.string ⟨(d.sign b).toArray⟩) ∧ Below w.heap.size w w' := by
  have hN := DirAt.new w d
  have hB0 := fm_below w (.cells #[.int .i64 d.fl, .int .i64 (d.wd : Int), .bool d.pt, .int .i64 (d.pr : Int), .int .u8 (d.verb.toNat : Int)] 61)
  have HN := hide hN
  have HB0 := hide hB0
  clear hN hB0
  obtain ⟨x2, h2⟩ : ∃ x, d.has 2 = x := ⟨_, rfl⟩
  obtain ⟨x8, h8⟩ : ∃ x, d.has 8 = x := ⟨_, rfl⟩
  have HS : Hid (d.sign b = if b then [45] else if x2 then [43] else if x8 then [32] else []) := by unfold Dir.sign; rw [h2, h8]; rfl
  generalize d.sign b = R at *
  have H2 := hide (has_is d 2 _ h2)
  have H8 := hide (has_is d 8 _ h8)
  clear h2 h8
  unfold dirV
  cases b with
  | true =>
    go_enter Tryd.func43, Tryd.ntmps43
    go_wp2
    go_ret
    have := HS.out
    subst this
    exact ⟨rfl, HB0.out⟩
  | false =>
    go_enter Tryd.func43, Tryd.ntmps43
    go_wp2_with fail
    generalize w.alloc (.cells #[.int .i64 d.fl, .int .i64 (d.wd : Int), .bool d.pt, .int .i64 (d.pr : Int), .int .u8 (d.verb.toNat : Int)] 61) = w1 at *
    refine (H2.out _).mono ?_
    rintro _ w2 ⟨rfl, hB2⟩
    have HB2 := hide (HB0.out.trans (hB2.mono HB0.out.size))
    obtain ⟨c0, c1, c2, c3, c4⟩ := HN.out.below hB2
    have HN2 := hide (HN.out.below hB2)
    clear hB2 HB0 HN
    cases x2 with
    | true =>
      go_wp2
      go_ret
      have := HS.out
      subst this
      exact ⟨rfl, HB2.out⟩
    | false =>
      go_wp2_with fail
      refine (H8.out _).mono ?_
      rintro _ w3 ⟨rfl, hB3⟩
      have HB3 := hide (HB2.out.trans (hB3.mono HB2.out.size))
      cases x8 with
      | true =>
        go_wp2
        go_ret
        have := HS.out
        subst this
        exact ⟨rfl, HB3.out⟩
      | false =>
        go_wp2
        go_ret
        have := HS.out
        subst this
        exact ⟨rfl, HB3.out⟩
set_option maxHeartbeats 1000000 in
theorem cut_any (d : Dir) (s : ByteArray) (w : World) (hp : d.pr ≤ 4096) : Calls Tryd.prog 45 #[dirV d, .string s] w fun e w' => e = .returned (.string ⟨(d.cut s.data.toList).toArray⟩) ∧ Below w.heap.size w w' := by
  have hsz : s.data.toList.length = s.size := by rw [Array.length_toList]; rfl
  have HS : Hid (d.cut s.data.toList = if d.pt = true ∧ d.pr < s.size then s.data.toList.take d.pr else s.data.toList) := by unfold Dir.cut; rw [hsz]; rfl
  generalize d.cut s.data.toList = R at *
  obtain ⟨fl, wd, pt, pr, vb⟩ := d
  have HB0 := hide (fm_below w (.cells #[.int .i64 fl, .int .i64 (wd : Int), .bool pt, .int .i64 (pr : Int), .int .u8 (vb.toNat : Int)] 61))
  unfold dirV
  cases pt with
  | false =>
    go_enter Tryd.func45, Tryd.ntmps45
    go_wp2
    go_ret
    have := HS.out
    rw [if_neg (by simp)] at this
    subst this
    exact ⟨rfl, HB0.out⟩
  | true =>
    by_cases hlt : pr < s.size
    · have hlt' : ((pr : Nat) : Int) < (s.size : Int) := by omega
      go_enter Tryd.func45, Tryd.ntmps45
      go_wp2
      go_ret
      have := HS.out
      rw [if_pos ⟨by trivial, hlt⟩] at this
      subst this
      exact ⟨ret_str (by rw [ByteArray.data_extract, Array.toList_extract, List.extract_eq_take_drop]; rfl), HB0.out⟩
    · have hlt' : ¬ ((pr : Nat) : Int) < (s.size : Int) := by omega
      go_enter Tryd.func45, Tryd.ntmps45
      go_wp2
      go_ret
      have := HS.out
      rw [if_neg (by rintro ⟨_, h⟩; exact hlt h)] at this
      subst this
      exact ⟨rfl, HB0.out⟩
theorem str_eq0 (s : ByteArray) : (s.toList == [48]) = decide (s.data.toList = [48]) := by
  rw [ByteArray.toList_eq]
  exact Bool.beq_eq_decide_eq _ _
set_option maxHeartbeats 1000000 in
theorem precise_any (d : Dir) (s : ByteArray) (w : World) (hs : s.size ≤ maxLen) (hp : d.pr ≤ 4096) : Calls Tryd.prog 44 #[dirV d, .string s] w fun e w' => e = .returned (.string ⟨(d.precise s.data.toList).toArray⟩) ∧ Below w.heap.size w w' := by
  unfold maxLen at hs
  have hsz : s.data.toList.length = s.size := by rw [Array.length_toList]; rfl
  have HS : Hid (d.precise s.data.toList = if d.pt = true ∧ d.pr = 0 ∧ s.data.toList = [48] then [] else zer (d.pr - s.size) ++ s.data.toList) := by unfold Dir.precise; rw [hsz]; rfl
  generalize d.precise s.data.toList = R at *
  have HRep := hide (fun W => repeated_any 48 ((d.pr : Int) - (s.size : Int)) W (by omega) (by omega))
  have HT : Hid (((d.pr : Int) - (s.size : Int)).toNat = d.pr - s.size) := by show _ = _; omega
  rw [HT.out] at HRep
  have hE := str_eq0 s
  obtain ⟨fl, wd, pt, pr, vb⟩ := d
  simp only at HRep hp
  have hB0 := fm_below w (.cells #[.int .i64 fl, .int .i64 (wd : Int), .bool pt, .int .i64 (pr : Int), .int .u8 (vb.toNat : Int)] 61)
  have HB0 := hide hB0
  clear hB0
  unfold dirV
  cases pt with
  | false =>
    clear hE
    go_enter Tryd.func44, Tryd.ntmps44
    go_wp2_with fail
    generalize w.alloc (.cells #[.int .i64 fl, .int .i64 (wd : Int), .bool false, .int .i64 (pr : Int), .int .u8 (vb.toNat : Int)] 61) = w1 at *
    refine (HRep.out _).mono ?_
    rintro _ w2 ⟨rfl, hB2⟩
    have HB2 := hide (HB0.out.trans (hB2.mono HB0.out.size))
    go_wp2
    go_ret
    have := HS.out
    rw [if_neg (by simp)] at this
    subst this
    exact ⟨ret_str (by simp [zer]), HB2.out⟩
  | true =>
    by_cases h0 : pr = 0
    · subst h0
      have HB1 := hide (fm_below w (.cells #[.int .i64 fl, .int .i64 (wd : Int), .bool true, .int .i64 0, .int .u8 (vb.toNat : Int)] 61))
      have HRz := hide (fun W => repeated_any 48 (-(s.size : Int)) W (by omega) (by omega))
      rw [show (-(s.size : Int)).toNat = 0 by omega] at HRz
      clear HB0 HT HRep
      by_cases h48 : s.data.toList = [48]
      · have hE' : (s.toList == [48]) = true := by rw [hE]; exact decide_eq_true h48
        clear hE
        go_enter Tryd.func44, Tryd.ntmps44
        go_wp2
        go_ret
        have := HS.out
        rw [if_pos (by first | exact ⟨trivial, rfl, h48⟩ | exact ⟨trivial, trivial, h48⟩)] at this
        subst this
        exact ⟨rfl, HB1.out⟩
      · have hE' : (s.toList == [48]) = false := by rw [hE]; exact decide_eq_false h48
        clear hE
        go_enter Tryd.func44, Tryd.ntmps44
        go_wp2_with fail
        generalize w.alloc (.cells #[.int .i64 fl, .int .i64 (wd : Int), .bool true, .int .i64 0, .int .u8 (vb.toNat : Int)] 61) = w1 at *
        refine (HRz.out _).mono ?_
        rintro _ w2 ⟨rfl, hB2⟩
        have HB2 := hide (HB1.out.trans (hB2.mono HB1.out.size))
        go_wp2
        go_ret
        have := HS.out
        rw [if_neg (by rintro ⟨_, _, h⟩; exact h48 h)] at this
        subst this
        exact ⟨ret_str (by simp [zer]), HB2.out⟩
    · have h0' : (((pr : Nat) : Int) == 0) = false := by simp only [beq_eq_false_iff_ne, ne_eq]; omega
      clear hE
      go_enter Tryd.func44, Tryd.ntmps44
      go_wp2_with fail
      generalize w.alloc (.cells #[.int .i64 fl, .int .i64 (wd : Int), .bool true, .int .i64 (pr : Int), .int .u8 (vb.toNat : Int)] 61) = w1 at *
      refine (HRep.out _).mono ?_
      rintro _ w2 ⟨rfl, hB2⟩
      have HB2 := hide (HB0.out.trans (hB2.mono HB0.out.size))
      go_wp2
      go_ret
      have := HS.out
      rw [if_neg (by rintro ⟨_, h, _⟩; exact h0 h)] at this
      subst this
      exact ⟨ret_str (by simp [zer]), HB2.out⟩
set_option maxHeartbeats 1000000 in
theorem wide_any (d : Dir) (s b : ByteArray) (w : World) (hs : s.size ≤ 1) (hb : s.size + b.size ≤ maxLen) (hp : d.wd ≤ 4096) : Calls Tryd.prog 42 #[dirV d, .string s, .string b] w fun e w' => e = .returned (.string ⟨(d.wide s.data.toList b.data.toList).toArray⟩) ∧ Below w.heap.size w w' := by
  unfold maxLen at hb
  have hsz : s.data.toList.length = s.size := by rw [Array.length_toList]; rfl
  have hbz : b.data.toList.length = b.size := by rw [Array.length_toList]; rfl
  obtain ⟨x1, h1⟩ : ∃ x, d.has 1 = x := ⟨_, rfl⟩
  obtain ⟨x4, h4⟩ : ∃ x, d.has 4 = x := ⟨_, rfl⟩
  obtain ⟨xn, hn⟩ : ∃ x, d.num = x := ⟨_, rfl⟩
  have HS : Hid (d.wide s.data.toList b.data.toList = if x1 = true then s.data.toList ++ b.data.toList ++ bla (d.wd - s.size - b.size) else if (x4 && !d.pt && xn) = true then s.data.toList ++ zer (d.wd - s.size - b.size) ++ b.data.toList else bla (d.wd - s.size - b.size) ++ s.data.toList ++ b.data.toList) := by unfold Dir.wide; rw [hsz, hbz, h1, h4, hn]; rfl
  have H1 := hide (has_is d 1 _ h1)
  have H4 := hide (has_is d 4 _ h4)
  have H5 := hide (num_is d _ hn)
  clear h1 h4 hn
  generalize d.wide s.data.toList b.data.toList = R at *
  have HR0 := hide (fun W => repeated_any 48 ((d.wd : Int) - (s.size : Int) - (b.size : Int)) W (by omega) (by omega))
  have HR1 := hide (fun W => repeated_any 32 ((d.wd : Int) - (s.size : Int) - (b.size : Int)) W (by omega) (by omega))
  have HT : Hid (((d.wd : Int) - (s.size : Int) - (b.size : Int)).toNat = d.wd - s.size - b.size) := by show _ = _; omega
  rw [HT.out] at HR0 HR1
  have hN := DirAt.new w d
  have HN := hide hN
  have HB0 := hide (fm_below w (.cells #[.int .i64 d.fl, .int .i64 (d.wd : Int), .bool d.pt, .int .i64 (d.pr : Int), .int .u8 (d.verb.toNat : Int)] 61))
  clear hN hsz hbz
  obtain ⟨fl, wd, pt, pr, vb⟩ := d
  simp only at HR0 HR1 HN hp HB0
  unfold dirV
  go_enter Tryd.func42, Tryd.ntmps42
  go_wp2_with fail
  generalize w.alloc (.cells #[.int .i64 fl, .int .i64 (wd : Int), .bool pt, .int .i64 (pr : Int), .int .u8 (vb.toNat : Int)] 61) = w1 at *
  refine (H1.out _).mono ?_
  rintro _ w2 ⟨rfl, hB2⟩
  have HB2 := hide (HB0.out.trans (hB2.mono HB0.out.size))
  obtain ⟨c0, c1, c2, c3, c4⟩ := HN.out.below hB2
  have HN2 := hide (HN.out.below hB2)
  simp only at c0 c1 c2 c3 c4
  clear hB2 HB0 HN
  cases x1 with
  | true =>
    go_wp2_with fail
    refine (HR1.out _).mono ?_
    rintro _ w3 ⟨rfl, hB3⟩
    have HB3 := hide (HB2.out.trans (hB3.mono HB2.out.size))
    go_wp2
    go_ret
    have := HS.out
    rw [if_pos (by trivial)] at this
    subst this
    exact ⟨ret_str (by simp [bla]), HB3.out⟩
  | false =>
    go_wp2_with fail
    refine (H4.out _).mono ?_
    rintro _ w3 ⟨rfl, hB3⟩
    have HB3 := hide (HB2.out.trans (hB3.mono HB2.out.size))
    obtain ⟨c0', c1', c2', c3', c4'⟩ := HN2.out.below hB3
    have HN3 := hide (HN2.out.below hB3)
    simp only at c0' c1' c2' c3' c4'
    clear c0 c1 c2 c3 c4 hB3 HB2 HN2
    cases x4 with
    | false =>
      go_wp2_with fail
      refine (HR1.out _).mono ?_
      rintro _ w4 ⟨rfl, hB4⟩
      have HB4 := hide (HB3.out.trans (hB4.mono HB3.out.size))
      go_wp2
      go_ret
      have := HS.out
      rw [if_neg (by simp), if_neg (by simp)] at this
      subst this
      exact ⟨ret_str (by simp [bla]), HB4.out⟩
    | true =>
      cases pt with
      | true =>
        go_wp2_with fail
        refine (HR1.out _).mono ?_
        rintro _ w4 ⟨rfl, hB4⟩
        have HB4 := hide (HB3.out.trans (hB4.mono HB3.out.size))
        go_wp2
        go_ret
        have := HS.out
        rw [if_neg (by simp), if_neg (by simp)] at this
        subst this
        exact ⟨ret_str (by simp [bla]), HB4.out⟩
      | false =>
        go_wp2_with fail
        refine (H5.out _).mono ?_
        rintro _ w4 ⟨rfl, hB4⟩
        have HB4 := hide (HB3.out.trans (hB4.mono HB3.out.size))
        cases xn with
        | true =>
          go_wp2_with fail
          refine (HR0.out _).mono ?_
          rintro _ w5 ⟨rfl, hB5⟩
          have HB5 := hide (HB4.out.trans (hB5.mono HB4.out.size))
          go_wp2
          go_ret
          have := HS.out
          rw [if_neg (by simp), if_pos (by simp)] at this
          subst this
          exact ⟨ret_str (by simp [zer]), HB5.out⟩
        | false =>
          go_wp2_with fail
          refine (HR1.out _).mono ?_
          rintro _ w5 ⟨rfl, hB5⟩
          have HB5 := hide (HB4.out.trans (hB5.mono HB4.out.size))
          go_wp2
          go_ret
          have := HS.out
          rw [if_neg (by simp), if_neg (by simp)] at this
          subst this
          exact ⟨ret_str (by simp [bla]), HB5.out⟩
end Go.Proofs.YtpcchaciomeckaaDoor

/- Bytes that came in as an argument: what a walk is told of them. -/
namespace Go.Proofs.YtpcchaciomeckaaDoor
open Go.ChangeShapes Go.WideShapes Go.ChangeAt Go.RowKit

end Go.Proofs.YtpcchaciomeckaaDoor

/- Bytes, and steps, that came in as an argument: what a walk is told of them. -/
namespace Go.Proofs.YtpcchaciomeckaaDoor
open Go.ChangeShapes Go.WideShapes Go.ChangeAt Go.RowKit Go.Deep

theorem Kp_weightsAll_mem {H : Type} {P : Program} {e : TypeId} : ∀ {l : List (DataW H)} {d : DataW H}, d ∈ l → ∀ n ∈ d.weights P e, n ∈ DataW.weightsAll P e l
  | d' :: r, d, hd, n, hn => by
    simp only [DataW.weightsAll, List.mem_append]
    rcases List.mem_cons.1 hd with rfl | h
    · exact Or.inl hn
    · exact Or.inr (Kp_weightsAll_mem h n hn)
end Go.Proofs.YtpcchaciomeckaaDoor

/- Slices of anything that came in as an argument: what a walk is told of them, and their sizes. -/
namespace Go.Proofs.YtpcchaciomeckaaDoor
open Go.ChangeShapes Go.WideShapes Go.ChangeAt Go.RowKit Go.Deep

def DatL {H : Type} {α : Type} (Dt : DataW H → α → Prop) (d : DataW H) (l : List α) : Prop := (d = .nil ∧ l = []) ∨ ∃ elems spare : List (DataW H), d = .slice elems spare ∧ l.length = elems.length ∧ ∀ i (hi : i < l.length), ∃ di, di ∈ elems ∧ Dt di l[i]
def RowsR {α : Type} (W : World) (k : Nat) (Rd : List Value → α → Prop) (v : Value) (l : List α) : Prop :=
  (v = .slice none 0 0 ∧ l = []) ∨ ∃ q cap, v = .slice (some q) l.length cap ∧ l.length ≤ cap ∧ (0 < l.length → ∃ b off, q = ⟨b, off, none⟩ ∧ ∀ j (hj : j < l.length), ∃ cs, Rd cs l[j] ∧ cs.length = k ∧ ∀ i v, cs[i]? = some v → W.cell? ⟨b, off + j * k + i, none⟩ = some v)
theorem rows_arg {H : Type} {enc : TypeId × Value → H} {P : Program} {W : World} {base : Nat} {a : Option Addr} {len cap fuel t e : Nat} {d : DataW H} {p : List MemPlace} {α : Type} (k : Nat) (Rd : List Value → α → Prop) (Dt : DataW H → α → Prop)
    (ht : P.underlying t = some (.slice e)) (ce : P.cellsOf e = k) (hk : 0 < k)
    (each : ∀ fuel cs d p, DataW.trod enc P W base (fun _ => true) true fuel e cs = some (d, p) → cs.length = k → ∃ x, Rd cs x ∧ Dt d x)
    (hf : DataW.trod enc P W base (fun _ => true) true fuel t (Value.slice a len cap).cells.toList = some (d, p)) :
    ∃ l : List α, RowsR W k Rd (.slice a len cap) l ∧ DatL Dt d l := by
  rcases open_slice ht hf with ⟨hcs, hd⟩ | ⟨x, n, c, m, kk, D, Pl, hcs, _, hl, hm, hmm, hx, hel⟩
  · simp [Value.cells] at hcs
    obtain ⟨rfl, rfl, rfl⟩ := hcs
    exact ⟨[], .inl ⟨rfl, rfl⟩, .inl ⟨(Prod.mk.inj hd).1, rfl⟩⟩
  · simp [Value.cells] at hcs
    obtain ⟨rfl, rfl, rfl⟩ := hcs
    simp only [if_true] at hmm
    subst hmm
    have ea : ∀ i, i < len → ∃ s : α, Dt (D i) s ∧ ∃ cs, Rd cs s ∧ cs.length = k ∧ ∀ j v, cs[j]? = some v → W.cell? ((x.add (i * k)).add j) = some v := by
      intro i hi
      obtain ⟨cs', h1, h2⟩ := hel i (by omega)
      rw [ce] at h1
      obtain ⟨_, hlen, hcell⟩ := World.cells?_some h1
      obtain ⟨s, hs, hD⟩ := each _ _ _ _ h2 hlen
      refine ⟨s, hD, cs', hs, hlen, fun j v hj => ?_⟩
      have hjl := (List.getElem?_eq_some_iff.1 hj).1
      rw [hcell j (by omega)]
      exact hj
    by_cases hα : 0 < len
    case neg =>
      obtain rfl : len = 0 := by omega
      exact ⟨[], .inr ⟨x, _, rfl, Nat.zero_le _, fun h => absurd h (by simp)⟩, .inr ⟨_, _, (Prod.mk.inj hx).1, by simp, fun i hi => absurd hi (by simp)⟩⟩
    obtain ⟨s, hs⟩ : ∃ s : Nat → α, ∀ i, i < len → Dt (D i) (s i) ∧ ∃ cs, Rd cs (s i) ∧ cs.length = k ∧ ∀ j v, cs[j]? = some v → W.cell? ((x.add (i * k)).add j) = some v := by
      exact ⟨fun i => if h : i < len then (ea i h).choose else (ea 0 hα).choose, fun i hi => by simp only [dif_pos hi]; exact (ea i hi).choose_spec⟩
    refine ⟨(List.range len).map s, .inr ⟨x, m, by simp, by simpa using hl, fun h0 => ?_⟩, .inr ⟨_, _, (Prod.mk.inj hx).1, by simp, fun i hi => ?_⟩⟩
    · obtain ⟨b, off, spot⟩ := x
      obtain ⟨_, cs0, _, hc0, q0⟩ := hs 0 hα
      have hspot : spot = none := by
        have h1 := q0 0 (cs0[0]'(by omega)) (List.getElem?_eq_getElem (by omega))
        simpa [Addr.add] using World.cell?_spot h1
      subst hspot
      refine ⟨b, off, rfl, fun j hj => ?_⟩
      have hj' : j < len := by simpa using hj
      obtain ⟨_, cs, h1, h2, h3⟩ := hs j hj'
      have hadd : ∀ o k, (⟨b, o, none⟩ : Addr).add k = ⟨b, o + k, none⟩ := fun o k => by unfold Addr.add; split <;> simp_all
      simp only [List.getElem_map, List.getElem_range]
      exact ⟨cs, h1, h2, fun i v hv => by have := h3 i v hv; rwa [hadd, hadd] at this⟩
    · have hi' : i < len := by simpa using hi
      exact ⟨D i, List.mem_map.2 ⟨i, by simpa using hi', rfl⟩, by simpa using (hs i hi').1⟩
theorem RowsR.form {α : Type} {W : World} {k : Nat} {Rd : List Value → α → Prop} {v : Value} {l : List α} (h : RowsR W k Rd v l) : ∃ a c, v = .slice a l.length c ∧ l.length ≤ c := by
  rcases h with ⟨rfl, rfl⟩ | ⟨q, cap, rfl, h1, _⟩
  · exact ⟨_, _, rfl, Nat.le_refl _⟩
  · exact ⟨_, _, rfl, h1⟩
theorem RowsR.at {α : Type} {W : World} {k : Nat} {Rd : List Value → α → Prop} {a : Option Addr} {n c : Nat} {l : List α} (h : RowsR W k Rd (.slice a n c) l) (j : Nat) (hj : j < l.length) :
    ∃ b off cs, a = some ⟨b, off, none⟩ ∧ Rd cs l[j] ∧ cs.length = k ∧ ∀ i v, cs[i]? = some v → W.cell? ⟨b, off + j * k + i, none⟩ = some v := by
  rcases h with ⟨_, rfl⟩ | ⟨q, cap, he, h1, h2⟩
  · simp at hj
  · cases he
    obtain ⟨b, off, rfl, hd⟩ := h2 (by omega)
    obtain ⟨cs, h3, h4, h5⟩ := hd j hj
    exact ⟨b, off, cs, rfl, h3, h4, h5⟩
def MSmall {H : Type} (P : Program) (t : TypeId) (d : DataW H) : Prop := ∀ n ∈ d.weights P t, n ≤ reachBytes
theorem msmall_arg {H : Type} {P : Program} {ts : List TypeId} {ds : List (DataW H)} (h : (DataW.weightsEach P ts ds).all (· ≤ reachBytes) = true) {j : Nat} {t : TypeId} {d : DataW H} (ht : ts[j]? = some t) (hd : ds[j]? = some d) : MSmall P t d :=
  fun n hn => of_decide_eq_true (List.all_eq_true.1 h _ (DataW.weights_mem_each ht hd n hn))
theorem MSmall.slice {H : Type} {P : Program} {t e : TypeId} {es sp : List (DataW H)} (h : MSmall P t (.slice es sp)) (hu : P.underlying t = some (.slice e)) : (es.length + sp.length) * P.bytesOf e ≤ reachBytes ∧ ∀ d ∈ es, MSmall P e d :=
  ⟨h _ (by simp [DataW.weights, hu]), fun d hd n hn => h n (by
    simp only [DataW.weights, hu, List.mem_cons, List.mem_append]
    exact Or.inr (Or.inl (Kp_weightsAll_mem hd n hn)))⟩
theorem MSmall.fields {H : Type} {P : Program} {t : TypeId} {fs : Array Field} {ds : List (DataW H)} (h : MSmall P t (.agg ds)) (hu : P.underlying t = some (.struct fs)) (j : Nat) (f : Field) (d : DataW H) (hf : fs[j]? = some f) (hd : ds[j]? = some d) : MSmall P f.type d := fun n hn => h n (by
    simp only [DataW.weights, hu]
    exact DataW.weights_mem_each (by rw [List.getElem?_map, Array.getElem?_toList, hf]; rfl) hd n hn)
theorem mrows_small {H : Type} {P : Program} {t e : TypeId} {d : DataW H} {α : Type} {Dt : DataW H → α → Prop} {l : List α} {n : Nat} (h : MSmall P t d) (hu : P.underlying t = some (.slice e)) (be : P.bytesOf e = n) (hO : DatL Dt d l) : l.length * n ≤ 140737488351232 ∧ ∀ i (hi : i < l.length), ∃ di, MSmall P e di ∧ Dt di l[i] := by
  rcases hO with ⟨_, rfl⟩ | ⟨es, sp, rfl, hl, hel⟩
  · exact ⟨by simp, fun i hi => absurd hi (by simp)⟩
  · obtain ⟨h1, h2⟩ := h.slice hu
    rw [be] at h1
    simp only [reachBytes] at h1
    refine ⟨Nat.le_trans (Nat.mul_le_mul_right _ (by omega)) h1, fun i hi => ?_⟩
    obtain ⟨di, hm, hO⟩ := hel i hi
    exact ⟨di, h2 di hm, hO⟩
end Go.Proofs.YtpcchaciomeckaaDoor

/- Format: a slice of Args, as it comes in as an argument and as it is cut. -/
namespace Go.Proofs.YtpcchaciomeckaaDoor
open Go.ChangeShapes Go.WideShapes Go.ChangeAt Go.RowKit

def N64 (d : Int) : Prop := -9223372036854775808 ≤ d ∧ d ≤ 9223372036854775807
theorem N64.of {d : Int} (h : (Lit.int .i64 d).wf = true) : N64 d := by
  have := bounds_i64 h
  exact ⟨this.1, by have := this.2; omega⟩
def ACells (cs : List Value) (x : Ag) : Prop :=
  cs = [.int .i64 x.kind, .int .i64 x.int, .int .u64 x.uint, .string x.text] ∧ N64 x.kind ∧ N64 x.int ∧ 0 ≤ x.uint ∧ x.uint ≤ 18446744073709551615 ∧ x.text.size ≤ maxLen
def Ags (W : World) (v : Value) (l : List Ag) : Prop := RowsR W 4 ACells v l
end Go.Proofs.YtpcchaciomeckaaDoor

/- A string of one byte. -/
namespace Go.Proofs.YtpcchaciomeckaaDoor
open Go.RowKit

theorem cell_new_at (W : World) (c : Int) (t : TypeId) : ∀ i, i < 1 → (W.alloc (.cells #[.int .u8 c] t)).cell? ⟨W.heap.size, 0 + i, none⟩ = some (.int .u8 ([c].getD i 0)) := by
  intro i hi
  obtain rfl : i = 0 := by omega
  exact (Boxed.new W t (.int .u8 c)).cell
theorem one_str (W : World) (c : Int) : (convert 24 9 (.slice (some ⟨W.heap.size, 0, none⟩) 1 1)).run Tryd.prog (W.alloc (.cells #[.int .u8 c] 5)) = .ok (.string (strOfNums [c])) (W.alloc (.cells #[.int .u8 c] 5)) :=
  run_convert_bytes_arg _ 24 5 Tryd.underlying24 Tryd.underlying5 W.heap.size 0 1 1 [c] rfl (cell_new_at W c _) _ Tryd.underlying9
end Go.Proofs.YtpcchaciomeckaaDoor

/- Format: what a directive makes of an Arg: digits, isOf, shown. -/
namespace Go.Proofs.YtpcchaciomeckaaDoor
open Go.RowKit

theorem sgn_small : ∀ x : Fin 16, (sgn x).toNat < 128 := by decide
theorem digs_small (b n : Nat) : ∀ c ∈ digs b n, c.toNat < 128 := by
  intro c hc
  unfold digs at hc
  obtain ⟨x, _, rfl⟩ := List.mem_map.1 hc
  exact sgn_small x
theorem toUpper_up (l : List UInt8) : Lib.toUpperA l = l.map upB := by
  unfold Lib.toUpperA
  refine List.map_congr_left fun c _ => ?_
  unfold Lib.upperB upB Lib.isLowerB
  simp only [Bool.and_eq_true, decide_eq_true_eq, UInt8.le_iff_toNat_le]
  rfl
set_option maxHeartbeats 1000000 in
theorem digits_fm (d : Dir) (n : Int) (h0 : 0 ≤ n) (h1 : n ≤ 18446744073709551615) (w : World) : Calls Tryd.prog 46 #[dirV d, .int .u64 n] w fun e w' => e = .returned (.string ⟨(d.digits n.toNat).toArray⟩) ∧ Below w.heap.size w w' := by
  have hN := DirAt.new w d
  have HB0 := hide (fm_below w (.cells #[.int .i64 d.fl, .int .i64 (d.wd : Int), .bool d.pt, .int .i64 (d.pr : Int), .int .u8 (d.verb.toNat : Int)] 61))
  have HN := hide hN
  clear hN
  have HD16 := hide (fun W => base_yes n 16 h0 h1 (by decide) (by decide) W)
  have HD8 := hide (fun W => base_yes n 8 h0 h1 (by decide) (by decide) W)
  have HD10 := hide (fun W => base_yes n 10 h0 h1 (by decide) (by decide) W)
  have hl := digs_len 16 n.toNat (by decide) (by omega)
  have HU := hide (fun W => Tryd.strings_ToUpper_ascii ⟨(digs 16 n.toNat).toArray⟩ W (by show (digs 16 n.toNat).toArray.size ≤ _; rw [List.size_toArray]; omega) (fun j b hj => digs_small 16 n.toNat b (List.mem_of_getElem? hj)))
  have HV : Hid (d.digits n.toNat = if d.verb = 88 then Lib.toUpperA (digs 16 n.toNat) else digs (if d.verb = 120 then 16 else if d.verb = 111 then 8 else 10) n.toNat) := by unfold Dir.digits; rw [toUpper_up]; rfl
  generalize d.digits n.toNat = R at *
  obtain ⟨fl, wd, pt, pr, vb⟩ := d
  simp only at HN HB0 HV
  clear hl
  unfold dirV
  simp only
  have key : ∀ k : UInt8, ((vb.toNat : Int) == (k.toNat : Int)) = decide (vb = k) := by
    intro k
    by_cases e : vb = k
    · subst e; simp
    · have : (vb.toNat : Int) ≠ (k.toNat : Int) := fun h => e (UInt8.toNat_inj.1 (Int.ofNat.inj h))
      rw [decide_eq_false e]
      simpa using this
  by_cases e120 : vb = 120
  · have hv : (vb.toNat : Int) = 120 := by rw [e120]; rfl
    rw [hv] at HB0 HN ⊢
    have HVv := hide hv
    have HE := hide e120
    clear hv key e120
    go_enter Tryd.func46, Tryd.ntmps46
    go_wp2_with fail
    generalize w.alloc (.cells #[.int .i64 fl, .int .i64 (wd : Int), .bool pt, .int .i64 (pr : Int), .int .u8 120] 61) = w1 at *
    refine (HD16.out _).mono ?_
    rintro _ w2 ⟨rfl, hB2⟩
    have HB2 := hide (HB0.out.trans (hB2.mono HB0.out.size))
    obtain ⟨c0, c1, c2, c3, c4⟩ := HN.out.below hB2
    simp only at c0 c1 c2 c3 c4
    rw [HVv.out] at c4
    go_wp2
    go_ret
    have := HV.out
    rw [HE.out] at this
    subst this
    exact ⟨rfl, HB2.out⟩
  by_cases e88 : vb = 88
  · have hv : (vb.toNat : Int) = 88 := by rw [e88]; rfl
    rw [hv] at HB0 HN ⊢
    have HVv := hide hv
    have HE := hide e88
    clear hv key e88 e120
    go_enter Tryd.func46, Tryd.ntmps46
    go_wp2_with fail
    generalize w.alloc (.cells #[.int .i64 fl, .int .i64 (wd : Int), .bool pt, .int .i64 (pr : Int), .int .u8 88] 61) = w1 at *
    refine (HD16.out _).mono ?_
    rintro _ w2 ⟨rfl, hB2⟩
    have HB2 := hide (HB0.out.trans (hB2.mono HB0.out.size))
    obtain ⟨c0, c1, c2, c3, c4⟩ := HN.out.below hB2
    simp only at c0 c1 c2 c3 c4
    rw [HVv.out] at c4
    go_wp2_with fail
    refine (HU.out _).mono ?_
    rintro _ w3 ⟨rfl, hB3⟩
    have HB3 := hide (HB2.out.trans (hB3.mono HB2.out.size))
    go_wp2
    go_ret
    have := HV.out
    rw [if_pos HE.out] at this
    subst this
    exact ⟨rfl, HB3.out⟩
  by_cases e111 : vb = 111
  · have hv : (vb.toNat : Int) = 111 := by rw [e111]; rfl
    rw [hv] at HB0 HN ⊢
    have HVv := hide hv
    have HE := hide e111
    clear hv key e111 e88 e120
    go_enter Tryd.func46, Tryd.ntmps46
    go_wp2_with fail
    generalize w.alloc (.cells #[.int .i64 fl, .int .i64 (wd : Int), .bool pt, .int .i64 (pr : Int), .int .u8 111] 61) = w1 at *
    refine (HD8.out _).mono ?_
    rintro _ w2 ⟨rfl, hB2⟩
    have HB2 := hide (HB0.out.trans (hB2.mono HB0.out.size))
    obtain ⟨c0, c1, c2, c3, c4⟩ := HN.out.below hB2
    simp only at c0 c1 c2 c3 c4
    rw [HVv.out] at c4
    go_wp2
    go_ret
    have := HV.out
    rw [HE.out] at this
    subst this
    exact ⟨rfl, HB2.out⟩
  · have t1 : ((vb.toNat : Int) == 120) = false := by rw [show (120 : Int) = ((120 : UInt8).toNat : Int) from rfl, key]; exact decide_eq_false e120
    have t2 : ((vb.toNat : Int) == 88) = false := by rw [show (88 : Int) = ((88 : UInt8).toNat : Int) from rfl, key]; exact decide_eq_false e88
    have t3 : ((vb.toNat : Int) == 111) = false := by rw [show (111 : Int) = ((111 : UInt8).toNat : Int) from rfl, key]; exact decide_eq_false e111
    go_enter Tryd.func46, Tryd.ntmps46
    go_wp2_with fail
    generalize w.alloc (.cells #[.int .i64 fl, .int .i64 (wd : Int), .bool pt, .int .i64 (pr : Int), .int .u8 (vb.toNat : Int)] 61) = w1 at *
    refine (HD10.out _).mono ?_
    rintro _ w2 ⟨rfl, hB2⟩
    have HB2 := hide (HB0.out.trans (hB2.mono HB0.out.size))
    obtain ⟨c0, c1, c2, c3, c4⟩ := HN.out.below hB2
    simp only at c0 c1 c2 c3 c4
    go_wp2
    go_ret
    have := HV.out
    rw [if_neg e88, if_neg e120, if_neg e111] at this
    subst this
    exact ⟨rfl, HB2.out⟩

def agV (a : Ag) : Value := .agg #[.int .i64 a.kind, .int .i64 a.int, .int .u64 a.uint, .string a.text]
structure AgAt (W : World) (b : Nat) (a : Ag) : Prop where
  c0 : W.cell? ⟨b, 0, none⟩ = some (.int .i64 a.kind)
  c1 : W.cell? ⟨b, 1, none⟩ = some (.int .i64 a.int)
  c2 : W.cell? ⟨b, 2, none⟩ = some (.int .u64 a.uint)
  c3 : W.cell? ⟨b, 3, none⟩ = some (.string a.text)
theorem AgAt.new (w : World) (a : Ag) : AgAt (w.alloc (.cells #[.int .i64 a.kind, .int .i64 a.int, .int .u64 a.uint, .string a.text] 37)) w.heap.size a := by
  refine ⟨?_, ?_, ?_, ?_⟩ <;> (rw [cell_of_row _ w.heap.size _ _ _ _ (heap_alloc_new w _)]; rfl)
theorem AgAt.lt {W : World} {b : Nat} {d : Ag} (h : AgAt W b d) : b < W.heap.size := World.block_lt_of_cell? W _ h.c0
theorem AgAt.below {W W' : World} {b : Nat} {d : Ag} (h : AgAt W b d) (hB : Below W.heap.size W W') : AgAt W' b d :=
  ⟨(hB.cell (p := ⟨b, 0, none⟩) h.lt).trans h.c0, (hB.cell (p := ⟨b, 1, none⟩) h.lt).trans h.c1, (hB.cell (p := ⟨b, 2, none⟩) h.lt).trans h.c2, (hB.cell (p := ⟨b, 3, none⟩) h.lt).trans h.c3⟩
end Go.Proofs.YtpcchaciomeckaaDoor
