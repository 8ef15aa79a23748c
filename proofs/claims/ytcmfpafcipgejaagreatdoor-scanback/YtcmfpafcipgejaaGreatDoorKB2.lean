/- What the proof stands on, part 2: the contracts of the program's calls that it reaches. -/
import Derived.Test.YtcmfpafcipgejaaGreatDoorKB1
import Derived.Test.YtcmfpafcipgejaaGreatDoorRows
import Derived.Shelf.Strings.OnBuilder
import Derived.Shelf.Small.Wraps
import Derived.Shelf.Strings.Repeat
import Derived.Shelf.Strings.SlTrimAscii
import Derived.Lib.MinMax
/- Format: what a pattern says, and what it becomes, as values. -/
namespace Go.Proofs.YtcmfpafcipgejaaGreatDoor
open Go.RowKit

structure Ag where
  kind : Int
  int : Int
  uint : Int
  text : ByteArray
structure Dir where
  fl : Int
  wd : Nat
  pt : Bool
  pr : Nat
  verb : UInt8
def fOf (c : Int) : Int := if c = 45 then 1 else if c = 43 then 2 else if c = 48 then 4 else if c = 32 then 8 else 0
def kOf (c : Int) : Int := if c = 100 then 1 else if c = 117 ∨ c = 120 ∨ c = 88 ∨ c = 111 then 2 else if c = 99 then 3 else if c = 115 then 4 else 0
def flg : List UInt8 → Int → Bool → Int × Bool × Nat
  | [], F, o => (F, o, 0)
  | c :: l, F, o => if fOf c.toNat = 0 then (F, o, 0) else
    ((flg l (bits .or .i64 F (fOf c.toNat)) (o && (bits .and .i64 F (fOf c.toNat) == 0))).1, (flg l (bits .or .i64 F (fOf c.toNat)) (o && (bits .and .i64 F (fOf c.toNat) == 0))).2.1, (flg l (bits .or .i64 F (fOf c.toNat)) (o && (bits .and .i64 F (fOf c.toNat) == 0))).2.2 + 1)
def run10 : List UInt8 → Nat
  | [] => 0
  | c :: l => if 48 ≤ c.toNat ∧ c.toNat ≤ 57 then run10 l + 1 else 0
def val10 : List UInt8 → Nat → Nat
  | [], n => n
  | c :: l, n => val10 l (n * 10 + (c.toNat - 48))
def numAt (l : List UInt8) : Nat × Nat × Bool :=
  if run10 l = 0 then (0, 0, true) else if 4 < run10 l ∨ 4096 < val10 (l.take (run10 l)) 0 then (0, run10 l, false) else (val10 (l.take (run10 l)) 0, run10 l, true)
def verbAt (l : List UInt8) (at_ : Nat) : Option UInt8 :=
  match l.drop at_ with
  | [] => none
  | c :: _ => if (c.toNat = 37 ∧ at_ = 1) ∨ kOf c.toNat ≠ 0 then some c else none
def isPt (l : List UInt8) : Bool := match l with | [] => false | c :: _ => c.toNat == 46
def pdir (l : List UInt8) : Option (Dir × Nat) :=
  let a := flg (l.drop 1) 0 true
  let b := numAt (l.drop (1 + a.2.2))
  let p := 1 + a.2.2 + b.2.1
  if a.2.1 = false ∨ b.2.2 = false then none else
  if isPt (l.drop p) = true then
    let c := numAt (l.drop (p + 1))
    if c.2.2 = false then none else (verbAt l (p + 1 + c.2.1)).map fun v => (⟨a.1, b.1, true, c.1, v⟩, p + 1 + c.2.1 + 1)
  else (verbAt l p).map fun v => (⟨a.1, b.1, false, 0, v⟩, p + 1)
def Dir.has (d : Dir) (f : Int) : Bool := bits .and .i64 d.fl f != 0
def zer (n : Nat) : List UInt8 := List.replicate n 48
def bla (n : Nat) : List UInt8 := List.replicate n 32
def Dir.precise (d : Dir) (l : List UInt8) : List UInt8 := if d.pt = true ∧ d.pr = 0 ∧ l = [48] then [] else zer (d.pr - l.length) ++ l
def Dir.sign (d : Dir) (below : Bool) : List UInt8 := if below then [45] else if d.has 2 then [43] else if d.has 8 then [32] else []
def Dir.cut (d : Dir) (l : List UInt8) : List UInt8 := if d.pt = true ∧ d.pr < l.length then l.take d.pr else l
def Dir.num (d : Dir) : Bool := kOf d.verb.toNat == 1 || kOf d.verb.toNat == 2
def Dir.wide (d : Dir) (s l : List UInt8) : List UInt8 :=
  if d.has 1 then s ++ l ++ bla (d.wd - s.length - l.length) else if d.has 4 && !d.pt && d.num then s ++ zer (d.wd - s.length - l.length) ++ l else bla (d.wd - s.length - l.length) ++ s ++ l
def upB (c : UInt8) : UInt8 := if 97 ≤ c.toNat ∧ c.toNat ≤ 122 then c - 32 else c
def Dir.digits (d : Dir) (n : Nat) : List UInt8 :=
  if d.verb = 88 then (digs 16 n).map upB else digs (if d.verb = 120 then 16 else if d.verb = 111 then 8 else 10) n
def Dir.shown (d : Dir) (a : Ag) : List UInt8 :=
  if d.verb = 100 then d.wide (d.sign (decide (a.int < 0))) (d.precise (digs 10 a.int.natAbs))
  else if d.verb = 99 then d.wide [] [UInt8.ofNat a.uint.toNat]
  else if d.verb = 115 then d.wide [] (d.cut a.text.data.toList)
  else d.wide [] (d.precise (d.digits a.uint.toNat))
def Ag.isOf (a : Ag) (v : UInt8) : Bool := a.kind == kOf v.toNat && (a.kind != 3 || decide (a.uint ≤ 255))
def firstV (l : List UInt8) (aa : List Ag) : (List UInt8 × Nat × Nat) × Int :=
  match l with
  | [] => (([], 0, 0), 171)
  | c :: r =>
    if c.toNat ≠ 37 then (([c], 1, 0), 0) else
    match pdir (c :: r) with
    | none => (([], 0, 0), 171)
    | some (d, n) =>
      if kOf d.verb.toNat = 0 then (([37], n, 0), 0) else
      match aa with
      | [] => (([], 0, 0), 3)
      | a :: _ => if a.isOf d.verb then ((d.shown a, n, 1), 0) else (([], 0, 0), 1)
def fmtF : Nat → List UInt8 → List Ag → Nat → List UInt8 → List UInt8 × Int × Nat
  | 0, _, aa, p, out => if aa = [] then (out, 0, p) else ([], 3, p)
  | _ + 1, [], aa, p, out => if aa = [] then (out, 0, p) else ([], 3, p)
  | n + 1, c :: r, aa, p, out =>
    let x := firstV (c :: r) aa
    if x.2 ≠ 0 then ([], x.2, p) else if 65536 < out.length + x.1.1.length then ([], 5, p) else fmtF n ((c :: r).drop x.1.2.1) (aa.drop x.1.2.2) (p + x.1.2.1) (out ++ x.1.1)
def fmtV (l : List UInt8) (aa : List Ag) : List UInt8 × Int × Nat := if 65536 < l.length then ([], 5, 0) else fmtF l.length l aa 0 []

theorem drop_len {α : Type} (l : List α) (n : Nat) : (l.drop n).length = l.length - n := List.length_drop
theorem flg_len : ∀ (l : List UInt8) (F : Int) (o : Bool), (flg l F o).2.2 ≤ l.length
  | [], _, _ => Nat.le_refl _
  | c :: l, F, o => by
    unfold flg
    split
    · exact Nat.zero_le _
    · exact Nat.succ_le_succ (flg_len l _ _)
theorem run10_len : ∀ l : List UInt8, run10 l ≤ l.length
  | [] => Nat.le_refl _
  | c :: l => by
    unfold run10
    split
    · exact Nat.succ_le_succ (run10_len l)
    · exact Nat.zero_le _
theorem numAt_run (l : List UInt8) : (numAt l).2.1 = run10 l := by
  unfold numAt
  by_cases h : run10 l = 0
  · rw [if_pos h, h]
  · rw [if_neg h]
    split <;> rfl
theorem numAt_len (l : List UInt8) : (numAt l).2.1 ≤ l.length := by
  rw [numAt_run]
  exact run10_len l
theorem numAt_small (l : List UInt8) : (numAt l).1 ≤ 4096 := by
  unfold numAt
  split
  · exact Nat.zero_le _
  · split
    · exact Nat.zero_le _
    · simp only; omega
theorem verbAt_lt {l : List UInt8} {p : Nat} {v : UInt8} (h : verbAt l p = some v) : p < l.length := by
  unfold verbAt at h
  cases hd : l.drop p with
  | nil => rw [hd] at h; cases h
  | cons c r =>
    have := congrArg List.length hd
    rw [drop_len] at this
    simp only [List.length_cons] at this
    omega
theorem pdir_len {l : List UInt8} {d : Dir} {n : Nat} (h : pdir l = some (d, n)) : 1 ≤ n ∧ n ≤ l.length ∧ d.wd ≤ 4096 ∧ d.pr ≤ 4096 ∧ (d.pt = false → d.pr = 0) := by
  unfold pdir at h
  simp only at h
  split at h
  · cases h
  split at h
  · split at h
    · cases h
    · simp only [Option.map_eq_some_iff, Prod.mk.injEq] at h
      obtain ⟨v, hv, rfl, rfl⟩ := h
      have := verbAt_lt hv
      exact ⟨by omega, by omega, numAt_small _, numAt_small _, fun e => by cases e⟩
  · simp only [Option.map_eq_some_iff, Prod.mk.injEq] at h
    obtain ⟨v, hv, rfl, rfl⟩ := h
    have := verbAt_lt hv
    exact ⟨by omega, by omega, numAt_small _, Nat.zero_le _, fun _ => rfl⟩
theorem firstV_ok {l : List UInt8} {aa : List Ag} {t : List UInt8} {k u : Nat} (h : firstV l aa = ((t, k, u), 0)) : 1 ≤ k ∧ k ≤ l.length ∧ u ≤ aa.length := by
  unfold firstV at h
  split at h
  · cases h
  rename_i c r
  split at h
  · cases h
    exact ⟨Nat.le_refl _, by simp, Nat.zero_le _⟩
  split at h
  · cases h
  rename_i d n hd
  have hp := pdir_len hd
  split at h
  · cases h
    exact ⟨hp.1, hp.2.1, Nat.zero_le _⟩
  split at h
  · cases h
  rename_i a q
  split at h
  · cases h
    exact ⟨hp.1, hp.2.1, by simp⟩
  · cases h
end Go.Proofs.YtcmfpafcipgejaaGreatDoor

/- Format: what the small functions on a pattern's bytes answer: kindOf, isVerb, flagOf; has, showsDigits. -/
namespace Go.Proofs.YtcmfpafcipgejaaGreatDoor
open Go.RowKit

theorem kOf_no {c : Int} (h1 : (c == 100) = false) (h2 : (c == 117) = false) (h3 : (c == 120) = false) (h4 : (c == 88) = false) (h5 : (c == 111) = false) (h6 : (c == 99) = false) (h7 : (c == 115) = false) : kOf c = 0 := by
  simp only [beq_eq_false_iff_ne, ne_eq] at h1 h2 h3 h4 h5 h6 h7
  unfold kOf
  rw [if_neg h1, if_neg (by rintro (h | h | h | h) <;> contradiction), if_neg h6, if_neg h7]
set_option maxHeartbeats 400000 in
theorem kindOf_any (c : Int) (w : World) : Calls Tryz.prog 47 #[.int .u8 c] w fun e w' => e = .returned (.int .i64 (kOf c)) ∧ w = w' := by
  rcases (show c = 100 ∨ c = 117 ∨ c = 120 ∨ c = 88 ∨ c = 111 ∨ c = 99 ∨ c = 115 ∨ ((c == 100) = false ∧ (c == 117) = false ∧ (c == 120) = false ∧ (c == 88) = false ∧ (c == 111) = false ∧ (c == 99) = false ∧ (c == 115) = false) by
    simp only [beq_eq_false_iff_ne, ne_eq]; omega) with rfl | rfl | rfl | rfl | rfl | rfl | rfl | ⟨h1, h2, h3, h4, h5, h6, h7⟩
  case _ | _ | _ | _ | _ | _ | _ =>
    go_enter Tryz.func47, Tryz.ntmps47
    go_wp2
    go_ret
    exact ⟨rfl, rfl⟩
  rw [kOf_no h1 h2 h3 h4 h5 h6 h7]
  go_enter Tryz.func47, Tryz.ntmps47
  go_wp2
  go_ret
  exact ⟨rfl, rfl⟩
set_option maxHeartbeats 400000 in
theorem flagOf_any (c : Int) (w : World) : Calls Tryz.prog 110 #[.int .u8 c] w fun e w' => e = .returned (.int .i64 (fOf c)) ∧ w = w' := by
  rcases (show c = 45 ∨ c = 43 ∨ c = 48 ∨ c = 32 ∨ ((c == 45) = false ∧ (c == 43) = false ∧ (c == 48) = false ∧ (c == 32) = false) by
    simp only [beq_eq_false_iff_ne, ne_eq]; omega) with rfl | rfl | rfl | rfl | ⟨h1, h2, h3, h4⟩
  case _ | _ | _ | _ =>
    go_enter Tryz.func110, Tryz.ntmps110
    go_wp2
    go_ret
    exact ⟨rfl, rfl⟩
  have hv : fOf c = 0 := by
    simp only [beq_eq_false_iff_ne, ne_eq] at h1 h2 h3 h4
    unfold fOf
    rw [if_neg h1, if_neg h2, if_neg h3, if_neg h4]
  rw [hv]
  clear hv
  go_enter Tryz.func110, Tryz.ntmps110
  go_wp2
  go_ret
  exact ⟨rfl, rfl⟩
def isV (c a : Int) : Bool := (c == 37 && a == 1) || kOf c != 0
set_option maxHeartbeats 400000 in
theorem isVerb_any (c a : Int) (w : World) : Calls Tryz.prog 78 #[.int .u8 c, .int .i64 a] w fun e w' => e = .returned (.bool (isV c a)) ∧ w = w' := by
  obtain ⟨k, hk⟩ : ∃ k, kOf c = k := ⟨_, rfl⟩
  have HK := hide hk
  unfold isV
  rw [hk]
  clear hk
  by_cases h1 : c = 37
  · subst h1
    by_cases h2 : a = 1
    · subst h2
      go_enter Tryz.func78, Tryz.ntmps78
      go_wp2
      go_ret
      exact ⟨rfl, rfl⟩
    · have h2' : (a == 1) = false := by simpa using h2
      go_enter Tryz.func78, Tryz.ntmps78
      go_wp2_with fail
      refine (kindOf_any _ _).mono ?_
      rintro _ _ ⟨rfl, rfl⟩
      rw [HK.out]
      go_wp2
      go_ret
      exact ⟨by simp [h2'], rfl⟩
  · have h1' : (c == 37) = false := by simpa using h1
    go_enter Tryz.func78, Tryz.ntmps78
    go_wp2_with fail
    refine (kindOf_any _ _).mono ?_
    rintro _ _ ⟨rfl, rfl⟩
    rw [HK.out]
    go_wp2
    go_ret
    exact ⟨by simp [h1'], rfl⟩
theorem fm_below (w : World) (o : Obj) : Below w.heap.size w (w.alloc o) := (Below.refl _ _).alloc (Nat.le_refl _) _
def dirV (d : Dir) : Value := .agg #[.int .i64 d.fl, .int .i64 (d.wd : Int), .bool d.pt, .int .i64 (d.pr : Int), .int .u8 (d.verb.toNat : Int)]
set_option maxHeartbeats 400000 in
theorem has_any (d : Dir) (f : Int) (w : World) : Calls Tryz.prog 113 #[dirV d, .int .i64 f] w fun e w' => e = .returned (.bool (d.has f)) ∧ Below w.heap.size w w' := by
  unfold dirV Dir.has
  go_enter Tryz.func113, Tryz.ntmps113
  go_wp2
  go_ret
  exact ⟨rfl, fm_below _ _⟩
set_option maxHeartbeats 400000 in
theorem showsDigits_any (d : Dir) (w : World) : Calls Tryz.prog 115 #[dirV d] w fun e w' => e = .returned (.bool d.num) ∧ Below w.heap.size w w' := by
  obtain ⟨k, hk⟩ : ∃ k, kOf (d.verb.toNat : Int) = k := ⟨_, rfl⟩
  have HK := hide hk
  unfold dirV Dir.num
  rw [hk]
  clear hk
  by_cases h1 : k = 1
  · subst h1
    go_enter Tryz.func115, Tryz.ntmps115
    go_wp2_with fail
    refine (kindOf_any _ _).mono ?_
    rintro _ _ ⟨rfl, rfl⟩
    rw [HK.out]
    go_wp2
    go_ret
    exact ⟨rfl, fm_below _ _⟩
  · have h1' : (k == 1) = false := by simpa using h1
    go_enter Tryz.func115, Tryz.ntmps115
    go_wp2_with fail
    refine (kindOf_any _ _).mono ?_
    rintro _ _ ⟨rfl, rfl⟩
    rw [HK.out]
    go_wp2
    go_ret
    exact ⟨by simp [h1'], fm_below _ _⟩
end Go.Proofs.YtcmfpafcipgejaaGreatDoor

/- Format: flags and numbers of a pattern: flagsAt, numberAt. -/
namespace Go.Proofs.YtcmfpafcipgejaaGreatDoor
open Go.RowKit

theorem flg_stop (c : UInt8) (l : List UInt8) (F : Int) (o : Bool) (h : fOf c.toNat = 0) : flg (c :: l) F o = (F, o, 0) := by
  unfold flg
  rw [if_pos h]
theorem flg_go (c : UInt8) (l : List UInt8) (F : Int) (o : Bool) (h : fOf c.toNat ≠ 0) : flg (c :: l) F o = ((flg l (bits .or .i64 F (fOf c.toNat)) (o && (bits .and .i64 F (fOf c.toNat) == 0))).1, (flg l (bits .or .i64 F (fOf c.toNat)) (o && (bits .and .i64 F (fOf c.toNat) == 0))).2.1, (flg l (bits .or .i64 F (fOf c.toNat)) (o && (bits .and .i64 F (fOf c.toNat) == 0))).2.2 + 1) := by
  conv => lhs; unfold flg
  rw [if_neg h]
theorem ret3' {a b c a' b' c' : Value} (h1 : a = a') (h2 : b = b') (h3 : c = c') : Ending.returned (.tuple #[a, b, c]) = .returned (.tuple #[a', b', c']) := by rw [h1, h2, h3]
set_option maxHeartbeats 1000000 in
theorem flagsAt_any (s : ByteArray) (a : Nat) (w : World) (hs : s.size ≤ maxLen) (ha : a ≤ s.size) :
    Calls Tryz.prog 76 #[.string s, .int .i64 (a : Int)] w fun e w' =>
      e = .returned (.tuple #[.int .i64 (flg (s.data.toList.drop a) 0 true).1, .int .i64 ((a + (flg (s.data.toList.drop a) 0 true).2.2 : Nat) : Int), .bool (flg (s.data.toList.drop a) 0 true).2.1]) ∧ w = w' := by
  unfold maxLen at hs
  obtain ⟨R, hR⟩ : ∃ R, flg (s.data.toList.drop a) 0 true = R := ⟨_, rfl⟩
  have HR : Hid ((flg (s.data.toList.drop a) 0 true).1 = R.1 ∧ (flg (s.data.toList.drop a) 0 true).2.1 = R.2.1 ∧ (flg (s.data.toList.drop a) 0 true).2.2 + a = R.2.2 + a) := by rw [hR]; exact ⟨rfl, rfl, rfl⟩
  rw [hR]
  clear hR
  go_enter Tryz.func76, Tryz.ntmps76
  go_wp2
  go_loop [1, 7, 8] (fun i f o => ∃ (k : Nat) (F : Int) (O : Bool), k ≤ s.size ∧ i = .int .i64 k ∧ f = .int .i64 F ∧ o = .bool O ∧ Hid ((flg (s.data.toList.drop k) F O).1 = R.1 ∧ (flg (s.data.toList.drop k) F O).2.1 = R.2.1 ∧ (flg (s.data.toList.drop k) F O).2.2 + k = R.2.2 + a)) (fun i _ _ => s.size - (intOf i).toNat)
  case atStart => exact ⟨a, 0, true, ha, rfl, rfl, rfl, HR⟩
  case round =>
    clear HR
    obtain ⟨k, F, O, hk, rfl, rfl, rfl, HP⟩ := hrel
    by_cases hlt : k < s.size
    · have hd := drop_at s k hlt
      have HQ : Hid ((flg (s[k] :: s.data.toList.drop (k + 1)) F O).1 = R.1 ∧ (flg (s[k] :: s.data.toList.drop (k + 1)) F O).2.1 = R.2.1 ∧ (flg (s[k] :: s.data.toList.drop (k + 1)) F O).2.2 + k = R.2.2 + a) := by rw [← hd]; exact HP.out
      clear hd HP
      obtain ⟨v, hv⟩ : ∃ v, fOf (s[k].toNat : Int) = v := ⟨_, rfl⟩
      have HV := hide hv
      clear hv
      by_cases h0 : v = 0
      · subst h0
        go_wp2_with (go_at_call 110; refine (flagOf_any _ _).mono ?_; rintro _ _ ⟨rfl, rfl⟩; rw [HV.out])
        go_ret3
        have hq := HQ.out
        rw [flg_stop _ _ _ _ HV.out] at hq
        obtain ⟨q1, q2, q3⟩ := hq
        simp only at q1 q2 q3
        exact ⟨ret3' (congrArg (Value.int .i64) q1) (congrArg (fun n : Nat => Value.int .i64 (n : Int)) (show k = a + R.2.2 by omega)) (congrArg Value.bool q2), rfl⟩
      · have h0' : (v != 0) = true := by simpa using h0
        have HQ2 := HQ.out
        rw [flg_go _ _ _ _ (by rw [HV.out]; exact h0), HV.out] at HQ2
        have HQ3 := hide HQ2
        clear HQ HQ2
        cases O with
        | false =>
          go_wp2_with (go_at_call 110; refine (flagOf_any _ _).mono ?_; rintro _ _ ⟨rfl, rfl⟩; rw [HV.out])
          go_round
          case rel =>
            refine ⟨k + 1, bits .or .i64 F v, false, by omega, by go_num, rfl, rfl, ?_⟩
            obtain ⟨q1, q2, q3⟩ := HQ3.out
            exact ⟨q1, q2, by rw [← q3, Bool.false_and]; omega⟩
          case measure => simp [intOf]; omega
        | true =>
          obtain ⟨z, hz⟩ : ∃ z, (bits .and .i64 F v == 0) = z := ⟨_, rfl⟩
          rw [hz] at HQ3
          go_wp2_with (go_at_call 110; refine (flagOf_any _ _).mono ?_; rintro _ _ ⟨rfl, rfl⟩; rw [HV.out])
          go_round
          case rel =>
            refine ⟨k + 1, bits .or .i64 F v, z, by omega, by go_num, rfl, by first | rfl | rw [hz], ?_⟩
            obtain ⟨q1, q2, q3⟩ := HQ3.out
            exact ⟨q1, q2, by rw [← q3, Bool.true_and]; omega⟩
          case measure => simp [intOf]; omega
    · have hq := HP.out
      rw [drop_end s k (by omega)] at hq
      have HP2 := hide hq
      clear HP hq
      go_wp2
      go_ret3
      obtain ⟨q1, q2, q3⟩ := HP2.out
      unfold flg at q1 q2 q3
      simp only at q1 q2 q3
      exact ⟨ret3' (congrArg (Value.int .i64) q1) (congrArg (fun n : Nat => Value.int .i64 (n : Int)) (show k = a + R.2.2 by omega)) (congrArg Value.bool q2), rfl⟩

def isDg (c : UInt8) : Prop := 48 ≤ c.toNat ∧ c.toNat ≤ 57
theorem run10_all : ∀ l : List UInt8, ∀ c ∈ l.take (run10 l), isDg c
  | [], c, h => by cases h
  | x :: l, c, h => by
    unfold run10 at h
    split at h
    · rename_i hx
      rw [List.take_succ_cons, List.mem_cons] at h
      rcases h with rfl | h
      · exact hx
      · exact run10_all l c h
    · cases h
theorem val10_lt : ∀ (d : List UInt8) (m : Nat), (∀ c ∈ d, isDg c) → val10 d m < (m + 1) * 10 ^ d.length
  | [], m, _ => by simp [val10]
  | c :: d, m, h => by
    have hc := h c (List.mem_cons_self ..)
    unfold isDg at hc
    have := val10_lt d (m * 10 + (c.toNat - 48)) (fun x hx => h x (List.mem_cons_of_mem _ hx))
    unfold val10
    refine Nat.lt_of_lt_of_le this ?_
    rw [List.length_cons, Nat.pow_succ', ← Nat.mul_assoc]
    exact Nat.mul_le_mul_right _ (by omega)
theorem val10_pb : ∀ (d : List UInt8) (m : Nat) (i : Int), (∀ c ∈ d, isDg c) → (m + 1) * 10 ^ d.length ≤ 1000000 → pb 10 d m i = ((val10 d m : Int), 0, i + (d.length : Int))
  | [], m, i, _, _ => by
    unfold pb val10
    simp
  | c :: d, m, i, h, hm => by
    have hc := h c (List.mem_cons_self ..)
    unfold isDg at hc
    have hp : 1 ≤ 10 ^ d.length := Nat.one_le_pow _ _ (by decide)
    rw [List.length_cons, Nat.pow_succ', ← Nat.mul_assoc] at hm
    have hmm : (m + 1) * 10 ≤ 1000000 := Nat.le_trans (Nat.le_mul_of_pos_right _ hp) hm
    have hv : valI (c.toNat : Int) = (c.toNat : Int) - 48 := by unfold valI; rw [if_pos (by omega)]
    rw [pb_cons _ _ _ _ _ (by rw [hv]; omega) (by rw [hv]; omega), hv, show (m : Int) * 10 + ((c.toNat : Int) - 48) = ((m * 10 + (c.toNat - 48) : Nat) : Int) by omega,
      val10_pb d _ _ (fun x hx => h x (List.mem_cons_of_mem _ hx)) (Nat.le_trans (Nat.mul_le_mul_right _ (by omega)) hm), List.length_cons]
    conv => rhs; unfold val10
    refine Prod.ext rfl (Prod.ext rfl ?_)
    show i + 1 + (d.length : Int) = i + ((d.length + 1 : Nat) : Int)
    omega
theorem ext_list (s : ByteArray) (a b : Nat) : (s.extract a b).data.toList = (s.data.toList.drop a).take (b - a) := by
  rw [ByteArray.data_extract, Array.toList_extract, List.extract_eq_take_drop]
theorem ext_size (s : ByteArray) (a b : Nat) (hb : b ≤ s.size) : (s.extract a b).size = b - a := by
  rw [ByteArray.size_extract]
  omega
theorem run10_at (c : UInt8) (l : List UInt8) : run10 (c :: l) = if 48 ≤ c.toNat ∧ c.toNat ≤ 57 then run10 l + 1 else 0 := by
  conv => lhs; unfold run10
set_option maxHeartbeats 2000000 in
theorem numberAt_any (s : ByteArray) (a : Nat) (w : World) (hs : s.size ≤ maxLen) (ha : a ≤ s.size) :
    Calls Tryz.prog 77 #[.string s, .int .i64 (a : Int)] w fun e w' =>
      e = .returned (.tuple #[.int .i64 ((numAt (s.data.toList.drop a)).1 : Int), .int .i64 ((a + (numAt (s.data.toList.drop a)).2.1 : Nat) : Int), .bool (numAt (s.data.toList.drop a)).2.2]) ∧ w = w' := by
  have hsm := hs
  unfold maxLen at hs
  obtain ⟨r, hr⟩ : ∃ r, run10 (s.data.toList.drop a) = r := ⟨_, rfl⟩
  have hrl := run10_len (s.data.toList.drop a)
  rw [drop_len, hr] at hrl
  have hsz : s.data.toList.length = s.size := by rw [Array.length_toList]; rfl
  rw [hsz] at hrl
  have har : a + r ≤ s.size := by omega
  obtain ⟨N, hN⟩ : ∃ N, numAt (s.data.toList.drop a) = N := ⟨_, rfl⟩
  have hall := run10_all (s.data.toList.drop a)
  rw [hr] at hall
  have hx := ext_list s a (a + r)
  rw [show a + r - a = r by omega] at hx
  have hxs : (s.extract a (a + r)).size ≤ maxLen := by rw [ext_size s a _ har]; omega
  have HPB := hide (fun W => parseBase_any (s.extract a (a + r)) 10 W hxs)
  have hpv : 0 < r → r ≤ 4 → parseB 10 (s.extract a (a + r)).data.toList = ((val10 ((s.data.toList.drop a).take r) 0 : Int), 0, (r : Int)) := by
    intro h1 h4
    have hl : ((s.data.toList.drop a).take r).length = r := by rw [List.length_take, drop_len, hsz]; omega
    rw [hx, parseB_yes 10 _ (by decide) (by decide) (by intro e; rw [e] at hl; simp at hl; omega)]
    have := val10_pb _ 0 0 hall (by rw [hl, Nat.zero_add, Nat.one_mul]; exact Nat.le_trans (Nat.pow_le_pow_right (by decide) h4) (by decide))
    rw [hl] at this
    refine Eq.trans this ?_
    simp
  have hnv : N = if r = 0 then (0, 0, true) else if 4 < r ∨ 4096 < val10 ((s.data.toList.drop a).take r) 0 then (0, r, false) else (val10 ((s.data.toList.drop a).take r) 0, r, true) := by
    rw [← hN]
    unfold numAt
    rw [hr]
  generalize val10 ((s.data.toList.drop a).take r) 0 = V at hpv hnv
  generalize parseB 10 (s.extract a (a + r)).data.toList = P at hpv HPB
  have HPV := hide hpv
  have HNV := hide hnv
  have HRUN : Hid (run10 (s.data.toList.drop a) + a = r + a) := by rw [hr]; rfl
  rw [hN]
  obtain ⟨M, hM⟩ : ∃ M : Int, ((a + N.2.1 : Nat) : Int) = M := ⟨_, rfl⟩
  rw [hM]
  have HM := hide hM
  clear hM
  obtain ⟨N1, N2, N3⟩ := N
  clear hN hnv hpv hall hx hxs hr hrl hsz
  go_enter Tryz.func77, Tryz.ntmps77
  go_wp2
  go_loop [1] (fun i => ∃ (k : Nat), a ≤ k ∧ k ≤ s.size ∧ i = .int .i64 k ∧ Hid (run10 (s.data.toList.drop k) + k = r + a)) (fun i => s.size - (intOf i).toNat)
  case atStart => exact ⟨a, Nat.le_refl _, ha, rfl, HRUN⟩
  case round =>
    clear HRUN
    obtain ⟨k, hak, hk, rfl, HP⟩ := hrel
    have key : (k < s.size ∧ ∃ c : UInt8, Hid (s[k]? = some c) ∧ (48 : Int) ≤ (c.toNat : Int) ∧ (c.toNat : Int) ≤ 57 ∧ Hid (run10 (s.data.toList.drop (k + 1)) + (k + 1) = r + a)) ∨ (Hid (k = a + r) ∧ (¬ ((k : Int) < (s.size : Int)) ∨ ∃ hlt : k < s.size, ¬ (48 : Int) ≤ (s[k].toNat : Int) ∨ ((48 : Int) ≤ (s[k].toNat : Int) ∧ ¬ (s[k].toNat : Int) ≤ 57))) := by
      by_cases hlt : k < s.size
      · have hd := drop_at s k hlt
        have hp := HP.out
        rw [hd, run10_at] at hp
        by_cases hc : 48 ≤ s[k].toNat ∧ s[k].toNat ≤ 57
        · rw [if_pos hc] at hp
          exact .inl ⟨hlt, s[k], by rw [getElem?_pos s k hlt]; rfl, by omega, by omega, by show run10 (s.data.toList.drop (k + 1)) + (k + 1) = r + a; omega⟩
        · rw [if_neg hc] at hp
          exact .inr ⟨(by omega : k = a + r), .inr ⟨hlt, by omega⟩⟩
      · have hp := HP.out
        rw [drop_end s k (by omega)] at hp
        unfold run10 at hp
        exact .inr ⟨(by omega : k = a + r), .inl (by omega)⟩
    clear HP
    rcases key with ⟨hlt, c, hc, h1, h2, HP⟩ | ⟨HK, hE⟩
    · obtain hc' : s[k] = c := by have := hc.out; rw [getElem?_pos s k hlt] at this; exact Option.some.inj this
      have h1' : (48 : Int) ≤ (s[k].toNat : Int) := by rw [hc']; exact h1
      have h2' : (s[k].toNat : Int) ≤ 57 := by rw [hc']; exact h2
      clear hc hc' h1 h2
      go_wp2
      go_round
      case rel => exact ⟨k + 1, by omega, by omega, by go_num, HP⟩
      case measure => simp [intOf]; omega
    · have HPB2 := HPB
      rw [← HK.out] at HPB2
      clear HPB
      by_cases h0 : r = 0
      · have hka : ((k : Int) == (a : Int)) = true := by have := HK.out; simp only [beq_iff_eq]; omega
        rcases hE with hE | ⟨hlt, h1 | ⟨h1, h2⟩⟩
        all_goals
          go_wp2
          go_ret3
          have hn := HNV.out
          rw [if_pos h0] at hn
          cases hn
          have := HK.out
          exact ⟨ret3' rfl (congrArg (Value.int .i64) (by have q1 : ((a + 0 : Nat) : Int) = M := HM.out; omega)) rfl, rfl⟩
      · have e1' : ((k : Int) == (a : Int)) = false := by have := HK.out; simp only [beq_eq_false_iff_ne, ne_eq]; omega
        by_cases h4 : 4 < r
        · have hn := HNV.out
          rw [if_neg h0, if_pos (.inl h4)] at hn
          cases hn
          have e3 : (4 : Int) < (k : Int) - (a : Int) := by have := HK.out; omega
          by_cases he : P.2.1 = 0
          · obtain ⟨p1, p2, p3⟩ := P
            simp only at he
            subst he
            rcases hE with hE | ⟨hlt, h1 | ⟨h1, h2⟩⟩
            all_goals
              go_wp2_with (go_at_call 109; refine (HPB2.out _).mono ?_; rintro _ _ ⟨rfl, rfl⟩)
              go_ret3
              exact ⟨ret3' rfl (congrArg (Value.int .i64) (by have q1 : ((a + r : Nat) : Int) = M := HM.out; have := HK.out; omega)) rfl, rfl⟩
          · have he' : (P.2.1 != 0) = true := by simpa using he
            rcases hE with hE | ⟨hlt, h1 | ⟨h1, h2⟩⟩
            all_goals
              go_wp2_with (go_at_call 109; refine (HPB2.out _).mono ?_; rintro _ _ ⟨rfl, rfl⟩)
              go_ret3
              exact ⟨ret3' rfl (congrArg (Value.int .i64) (by have q1 : ((a + r : Nat) : Int) = M := HM.out; have := HK.out; omega)) rfl, rfl⟩
        · have hp := HPV.out (by omega) (by omega)
          subst hp
          have e3 : ¬ (4 : Int) < (k : Int) - (a : Int) := by have := HK.out; omega
          by_cases hV : 4096 < V
          · have hn := HNV.out
            rw [if_neg h0, if_pos (.inr hV)] at hn
            cases hn
            have e4 : (4096 : Int) < (V : Int) := by omega
            rcases hE with hE | ⟨hlt, h1 | ⟨h1, h2⟩⟩
            all_goals
              go_wp2_with (go_at_call 109; refine (HPB2.out _).mono ?_; rintro _ _ ⟨rfl, rfl⟩)
              go_ret3
              exact ⟨ret3' rfl (congrArg (Value.int .i64) (by have q1 : ((a + r : Nat) : Int) = M := HM.out; have := HK.out; omega)) rfl, rfl⟩
          · have hn := HNV.out
            rw [if_neg h0, if_neg (by omega)] at hn
            cases hn
            have e4 : ¬ (4096 : Int) < (V : Int) := by omega
            rcases hE with hE | ⟨hlt, h1 | ⟨h1, h2⟩⟩
            all_goals
              go_wp2_with (go_at_call 109; refine (HPB2.out _).mono ?_; rintro _ _ ⟨rfl, rfl⟩)
              go_ret3
              exact ⟨ret3' rfl (congrArg (Value.int .i64) (by have q1 : ((a + r : Nat) : Int) = M := HM.out; have := HK.out; omega)) rfl, rfl⟩
end Go.Proofs.YtcmfpafcipgejaaGreatDoor

/- Contracts of Go's library at this dump, laid by the kit's own command. -/
namespace Go.Proofs
open Go.Shelf Go.RowKit Go.Lib
def Tryz.lays158_ren : Go.Shelf.Ren := ⟨fun | 158 => 117 | 165 => 155 | 166 => 156 | 167 => 157 | 169 => 158 | 230 => 159 | 203 => 160 | 240 => 175 | 241 => 176 | 197 => 177 | 118 => 178 | 168 => 179 | 270 => 180 | 262 => 181 | 276 => 194 | 277 => 195 | 260 => 196 | 242 => 197 | 313 => 198 | 278 => 208 | 274 => 209 | 275 => 210 | n => n, fun | 9 => 9 | 4 => 4 | 3 => 3 | 5 => 5 | 72 => 210 | 0 => 0 | 76 => 214 | 75 => 213 | 107 => 219 | 70 => 208 | 20 => 20 | 37 => 22 | 127 => 227 | 21 => 21 | 105 => 228 | 164 => 255 | 162 => 261 | 203 => 259 | 119 => 286 | 46 => 224 | 139 => 289 | 138 => 288 | 51 => 250 | 160 => 290 | 208 => 306 | 206 => 304 | 80 => 217 | n => n, fun | 13 => 0 | 3 => 2 | 4 => 3 | n => n⟩
theorem Tryz.lays158 : Go.Proofs.Lays.n158 Tryz.prog Tryz.lays158_ren := {
  mixed := by kernel_rfl
  f118 := Tryz.func178.trans (congrArg some (by kernel_rfl))
  f158 := Tryz.func117.trans (congrArg some (by kernel_rfl))
  f165 := Tryz.func155.trans (congrArg some (by kernel_rfl))
  f166 := Tryz.func156.trans (congrArg some (by kernel_rfl))
  f167 := Tryz.func157.trans (congrArg some (by kernel_rfl))
  f168 := Tryz.func179.trans (congrArg some (by kernel_rfl))
  f169 := Tryz.func158.trans (congrArg some (by kernel_rfl))
  f197 := Tryz.func177.trans (congrArg some (by kernel_rfl))
  f203 := Tryz.func160.trans (congrArg some (by kernel_rfl))
  f230 := Tryz.func159.trans (congrArg some (by kernel_rfl))
  f240 := Tryz.func175.trans (congrArg some (by kernel_rfl))
  f241 := Tryz.func176.trans (congrArg some (by kernel_rfl))
  f242 := Tryz.func197.trans (congrArg some (by kernel_rfl))
  f260 := Tryz.func196.trans (congrArg some (by kernel_rfl))
  f262 := Tryz.func181.trans (congrArg some (by kernel_rfl))
  f270 := Tryz.func180.trans (congrArg some (by kernel_rfl))
  f274 := Tryz.func209.trans (congrArg some (by kernel_rfl))
  f275 := Tryz.func210.trans (congrArg some (by kernel_rfl))
  f276 := Tryz.func194.trans (congrArg some (by kernel_rfl))
  f277 := Tryz.func195.trans (congrArg some (by kernel_rfl))
  f278 := Tryz.func208.trans (congrArg some (by kernel_rfl))
  f313 := Tryz.func198.trans (congrArg some (by kernel_rfl))
  t0 := Tryz.underlying0
  a0 := Tryz.isAgg0
  z0 := Tryz.sizeOf0
  v0 := Tryz.zeroValue0
  t3 := Tryz.underlying3
  a3 := Tryz.isAgg3
  z3 := Tryz.sizeOf3
  v3 := Tryz.zeroValue3
  t4 := Tryz.underlying4
  a4 := Tryz.isAgg4
  z4 := Tryz.sizeOf4
  v4 := Tryz.zeroValue4
  t5 := Tryz.underlying5
  a5 := Tryz.isAgg5
  z5 := Tryz.sizeOf5
  v5 := Tryz.zeroValue5
  t9 := Tryz.underlying9
  a9 := Tryz.isAgg9
  z9 := Tryz.sizeOf9
  v9 := Tryz.zeroValue9
  t20 := Tryz.underlying20
  a20 := Tryz.isAgg20
  z20 := Tryz.sizeOf20
  v20 := Tryz.zeroValue20
  t21 := Tryz.underlying21
  a21 := Tryz.isAgg21
  z21 := Tryz.sizeOf21
  v21 := Tryz.zeroValue21
  t37 := Tryz.underlying22
  a37 := Tryz.isAgg22
  z37 := Tryz.sizeOf22
  v37 := Tryz.zeroValue22
  t46 := Tryz.underlying224
  a46 := Tryz.isAgg224
  z46 := Tryz.sizeOf224
  v46 := Tryz.zeroValue224
  t51 := Tryz.underlying250
  a51 := Tryz.isAgg250
  z51 := Tryz.sizeOf250
  v51 := Tryz.zeroValue250
  t70 := Tryz.underlying208
  a70 := Tryz.isAgg208
  z70 := Tryz.sizeOf208
  v70 := Tryz.zeroValue208
  t72 := Tryz.underlying210
  a72 := Tryz.isAgg210
  z72 := Tryz.sizeOf210
  v72 := Tryz.zeroValue210
  t75 := Tryz.underlying213
  a75 := Tryz.isAgg213
  z75 := Tryz.sizeOf213
  v75 := Tryz.zeroValue213
  t76 := Tryz.underlying214
  a76 := Tryz.isAgg214
  z76 := Tryz.sizeOf214
  v76 := Tryz.zeroValue214
  t105 := Tryz.underlying228
  a105 := Tryz.isAgg228
  z105 := Tryz.sizeOf228
  v105 := Tryz.zeroValue228
  t107 := Tryz.underlying219
  a107 := Tryz.isAgg219
  z107 := Tryz.sizeOf219
  v107 := Tryz.zeroValue219
  t119 := Tryz.underlying286
  a119 := Tryz.isAgg286
  z119 := Tryz.sizeOf286
  t127 := Tryz.underlying227
  a127 := Tryz.isAgg227
  z127 := Tryz.sizeOf227
  v127 := Tryz.zeroValue227
  t138 := Tryz.underlying288
  a138 := Tryz.isAgg288
  z138 := Tryz.sizeOf288
  v138 := Tryz.zeroValue288
  t139 := Tryz.underlying289
  a139 := Tryz.isAgg289
  z139 := Tryz.sizeOf289
  v139 := Tryz.zeroValue289
  t160 := Tryz.underlying290
  a160 := Tryz.isAgg290
  z160 := Tryz.sizeOf290
  v160 := Tryz.zeroValue290
  t162 := Tryz.underlying261
  a162 := Tryz.isAgg261
  z162 := Tryz.sizeOf261
  v162 := Tryz.zeroValue261
  t164 := Tryz.underlying255
  a164 := Tryz.isAgg255
  z164 := Tryz.sizeOf255
  v164 := Tryz.zeroValue255
  t203 := Tryz.underlying259
  a203 := Tryz.isAgg259
  z203 := Tryz.sizeOf259
  v203 := Tryz.zeroValue259
  t206 := Tryz.underlying304
  a206 := Tryz.isAgg304
  z206 := Tryz.sizeOf304
  v206 := Tryz.zeroValue304
  t208 := Tryz.underlying306
  a208 := Tryz.isAgg306
  z208 := Tryz.sizeOf306
  v208 := Tryz.zeroValue306
  g3 := by kernel_rfl
  g4 := by kernel_rfl
  g13 := by kernel_rfl }
theorem Tryz.Builder_Extra_158 : Builder.Extra Tryz.prog Tryz.lays158_ren := {
  sizeBuilder := by kernel_rfl
  liesBuilder := by kernel_rfl
  t5 := Tryz.underlying5
  a5 := Tryz.isAgg5
  z5 := Tryz.sizeOf5
  v5 := Tryz.zeroValue5
  infoByte := by kernel_rfl
  cellsByte := by kernel_rfl
  sizeByte := by kernel_rfl
  neB5 := by decide }
theorem Tryz.strings_ToUpper_ascii (s : ByteArray) (w : World) (hs : s.size ≤ 140737488355328) (hascii : ∀ (j : Nat) (b : UInt8), s.data.toList[j]? = some b → b.toNat < 128) :
    Calls Tryz.prog 117 #[.string s] w fun e w' => e = .returned (.string ⟨(Lib.toUpperA s.data.toList).toArray⟩) ∧ Below w.heap.size w w' := Any.strings_ToUpper_ascii Tryz.lays158 Tryz.Builder_Extra_158 s w hs hascii
def Tryz.lays161_ren : Go.Shelf.Ren := ⟨fun | 161 => 166 | 231 => 185 | 227 => 186 | 233 => 187 | 235 => 188 | 228 => 201 | 197 => 177 | 151 => 202 | 260 => 196 | 152 => 211 | 137 => 212 | 119 => 213 | 224 => 214 | 225 => 215 | 217 => 216 | 266 => 217 | n => n, fun | 9 => 9 | 4 => 4 | 3 => 3 | 5 => 5 | 117 => 239 | 116 => 238 | 0 => 0 | 124 => 242 | 105 => 228 | 21 => 21 | 119 => 286 | 46 => 224 | 139 => 289 | 138 => 288 | n => n, fun | 3 => 2 | 4 => 3 | n => n⟩
theorem Tryz.lays161 : Go.Proofs.Lays.n161 Tryz.prog Tryz.lays161_ren := {
  mixed := by kernel_rfl
  f119 := Tryz.func213.trans (congrArg some (by kernel_rfl))
  f137 := Tryz.func212.trans (congrArg some (by kernel_rfl))
  f151 := Tryz.func202.trans (congrArg some (by kernel_rfl))
  f152 := Tryz.func211.trans (congrArg some (by kernel_rfl))
  f161 := Tryz.func166.trans (congrArg some (by kernel_rfl))
  f197 := Tryz.func177.trans (congrArg some (by kernel_rfl))
  f217 := Tryz.func216.trans (congrArg some (by kernel_rfl))
  f224 := Tryz.func214.trans (congrArg some (by kernel_rfl))
  f225 := Tryz.func215.trans (congrArg some (by kernel_rfl))
  f227 := Tryz.func186.trans (congrArg some (by kernel_rfl))
  f228 := Tryz.func201.trans (congrArg some (by kernel_rfl))
  f231 := Tryz.func185.trans (congrArg some (by kernel_rfl))
  f233 := Tryz.func187.trans (congrArg some (by kernel_rfl))
  f235 := Tryz.func188.trans (congrArg some (by kernel_rfl))
  f260 := Tryz.func196.trans (congrArg some (by kernel_rfl))
  f266 := Tryz.func217.trans (congrArg some (by kernel_rfl))
  t0 := Tryz.underlying0
  a0 := Tryz.isAgg0
  z0 := Tryz.sizeOf0
  v0 := Tryz.zeroValue0
  t3 := Tryz.underlying3
  a3 := Tryz.isAgg3
  z3 := Tryz.sizeOf3
  v3 := Tryz.zeroValue3
  t4 := Tryz.underlying4
  a4 := Tryz.isAgg4
  z4 := Tryz.sizeOf4
  v4 := Tryz.zeroValue4
  t5 := Tryz.underlying5
  a5 := Tryz.isAgg5
  z5 := Tryz.sizeOf5
  v5 := Tryz.zeroValue5
  t9 := Tryz.underlying9
  a9 := Tryz.isAgg9
  z9 := Tryz.sizeOf9
  v9 := Tryz.zeroValue9
  t21 := Tryz.underlying21
  a21 := Tryz.isAgg21
  z21 := Tryz.sizeOf21
  v21 := Tryz.zeroValue21
  t46 := Tryz.underlying224
  a46 := Tryz.isAgg224
  z46 := Tryz.sizeOf224
  v46 := Tryz.zeroValue224
  t105 := Tryz.underlying228
  a105 := Tryz.isAgg228
  z105 := Tryz.sizeOf228
  v105 := Tryz.zeroValue228
  t116 := Tryz.underlying238
  a116 := Tryz.isAgg238
  z116 := Tryz.sizeOf238
  t117 := Tryz.underlying239
  a117 := Tryz.isAgg239
  z117 := Tryz.sizeOf239
  v117 := Tryz.zeroValue239
  t119 := Tryz.underlying286
  a119 := Tryz.isAgg286
  z119 := Tryz.sizeOf286
  t124 := Tryz.underlying242
  a124 := Tryz.isAgg242
  z124 := Tryz.sizeOf242
  v124 := Tryz.zeroValue242
  t138 := Tryz.underlying288
  a138 := Tryz.isAgg288
  z138 := Tryz.sizeOf288
  v138 := Tryz.zeroValue288
  t139 := Tryz.underlying289
  a139 := Tryz.isAgg289
  z139 := Tryz.sizeOf289
  v139 := Tryz.zeroValue289
  g3 := by kernel_rfl
  g4 := by kernel_rfl }
def Tryz.lays103_ren : Go.Shelf.Ren := ⟨fun | 103 => 79 | 210 => 111 | 206 => 152 | n => n, fun | 9 => 9 | 4 => 4 | 24 => 147 | 3 => 3 | n => n, fun | n => n⟩
theorem Tryz.lays103 : Go.Proofs.Lays.n103 Tryz.prog Tryz.lays103_ren := {
  mixed := by kernel_rfl
  f103 := Tryz.func79.trans (congrArg some (by kernel_rfl))
  f206 := Tryz.func152.trans (congrArg some (by kernel_rfl))
  f210 := Tryz.func111.trans (congrArg some (by kernel_rfl))
  t3 := Tryz.underlying3
  a3 := Tryz.isAgg3
  z3 := Tryz.sizeOf3
  v3 := Tryz.zeroValue3
  t4 := Tryz.underlying4
  a4 := Tryz.isAgg4
  z4 := Tryz.sizeOf4
  v4 := Tryz.zeroValue4
  t9 := Tryz.underlying9
  a9 := Tryz.isAgg9
  z9 := Tryz.sizeOf9
  v9 := Tryz.zeroValue9
  t24 := Tryz.underlying147
  a24 := Tryz.isAgg147
  z24 := Tryz.sizeOf147
  v24 := Tryz.zeroValue147 }
theorem Tryz.strings_CutPrefix (s p : ByteArray) (w : World) :
    Calls Tryz.prog 79 #[.string s, .string p] w fun e w' => e = .returned (.tuple #[.string ⟨(Lib.trimPrefix s.data.toList p.data.toList).toArray⟩, .bool (Lib.hasPrefix s.data.toList p.data.toList)]) ∧ w' = w := Any.strings_CutPrefix Tryz.lays103 s p w
def Tryz.lays105_ren : Go.Shelf.Ren := ⟨fun | 105 => 154 | 212 => 172 | 99 => 173 | 165 => 155 | 166 => 156 | 170 => 174 | 169 => 158 | 263 => 192 | 264 => 193 | 206 => 152 | 240 => 175 | 241 => 176 | 276 => 194 | 277 => 195 | n => n, fun | 9 => 9 | 3 => 3 | 4 => 4 | 20 => 20 | 0 => 0 | 46 => 224 | 109 => 225 | 5 => 5 | 72 => 210 | 76 => 214 | 51 => 250 | 146 => 251 | 53 => 39 | 148 => 253 | 70 => 208 | 37 => 22 | 75 => 213 | 127 => 227 | 164 => 255 | 80 => 217 | n => n, fun | n => n⟩
theorem Tryz.lays105 : Go.Proofs.Lays.n105 Tryz.prog Tryz.lays105_ren := {
  mixed := by kernel_rfl
  f99 := Tryz.func173.trans (congrArg some (by kernel_rfl))
  f105 := Tryz.func154.trans (congrArg some (by kernel_rfl))
  f165 := Tryz.func155.trans (congrArg some (by kernel_rfl))
  f166 := Tryz.func156.trans (congrArg some (by kernel_rfl))
  f169 := Tryz.func158.trans (congrArg some (by kernel_rfl))
  f170 := Tryz.func174.trans (congrArg some (by kernel_rfl))
  f206 := Tryz.func152.trans (congrArg some (by kernel_rfl))
  f212 := Tryz.func172.trans (congrArg some (by kernel_rfl))
  f240 := Tryz.func175.trans (congrArg some (by kernel_rfl))
  f241 := Tryz.func176.trans (congrArg some (by kernel_rfl))
  f263 := Tryz.func192.trans (congrArg some (by kernel_rfl))
  f264 := Tryz.func193.trans (congrArg some (by kernel_rfl))
  f276 := Tryz.func194.trans (congrArg some (by kernel_rfl))
  f277 := Tryz.func195.trans (congrArg some (by kernel_rfl))
  t0 := Tryz.underlying0
  a0 := Tryz.isAgg0
  z0 := Tryz.sizeOf0
  v0 := Tryz.zeroValue0
  t3 := Tryz.underlying3
  a3 := Tryz.isAgg3
  z3 := Tryz.sizeOf3
  v3 := Tryz.zeroValue3
  t4 := Tryz.underlying4
  a4 := Tryz.isAgg4
  z4 := Tryz.sizeOf4
  v4 := Tryz.zeroValue4
  t5 := Tryz.underlying5
  a5 := Tryz.isAgg5
  z5 := Tryz.sizeOf5
  v5 := Tryz.zeroValue5
  t9 := Tryz.underlying9
  a9 := Tryz.isAgg9
  z9 := Tryz.sizeOf9
  v9 := Tryz.zeroValue9
  t20 := Tryz.underlying20
  a20 := Tryz.isAgg20
  z20 := Tryz.sizeOf20
  v20 := Tryz.zeroValue20
  t37 := Tryz.underlying22
  a37 := Tryz.isAgg22
  z37 := Tryz.sizeOf22
  v37 := Tryz.zeroValue22
  t46 := Tryz.underlying224
  a46 := Tryz.isAgg224
  z46 := Tryz.sizeOf224
  v46 := Tryz.zeroValue224
  t51 := Tryz.underlying250
  a51 := Tryz.isAgg250
  z51 := Tryz.sizeOf250
  v51 := Tryz.zeroValue250
  t53 := Tryz.underlying39
  a53 := Tryz.isAgg39
  z53 := Tryz.sizeOf39
  v53 := Tryz.zeroValue39
  t70 := Tryz.underlying208
  a70 := Tryz.isAgg208
  z70 := Tryz.sizeOf208
  v70 := Tryz.zeroValue208
  t72 := Tryz.underlying210
  a72 := Tryz.isAgg210
  z72 := Tryz.sizeOf210
  v72 := Tryz.zeroValue210
  t75 := Tryz.underlying213
  a75 := Tryz.isAgg213
  z75 := Tryz.sizeOf213
  v75 := Tryz.zeroValue213
  t76 := Tryz.underlying214
  a76 := Tryz.isAgg214
  z76 := Tryz.sizeOf214
  v76 := Tryz.zeroValue214
  t109 := Tryz.underlying225
  a109 := Tryz.isAgg225
  z109 := Tryz.sizeOf225
  v109 := Tryz.zeroValue225
  t127 := Tryz.underlying227
  a127 := Tryz.isAgg227
  z127 := Tryz.sizeOf227
  v127 := Tryz.zeroValue227
  t146 := Tryz.underlying251
  a146 := Tryz.isAgg251
  z146 := Tryz.sizeOf251
  v146 := Tryz.zeroValue251
  t148 := Tryz.underlying253
  a148 := Tryz.isAgg253
  z148 := Tryz.sizeOf253
  v148 := Tryz.zeroValue253
  t164 := Tryz.underlying255
  a164 := Tryz.isAgg255
  z164 := Tryz.sizeOf255
  v164 := Tryz.zeroValue255 }
theorem Tryz.Builder_Extra_105 : Builder.Extra Tryz.prog Tryz.lays105_ren := {
  sizeBuilder := by kernel_rfl
  liesBuilder := by kernel_rfl
  t5 := Tryz.underlying5
  a5 := Tryz.isAgg5
  z5 := Tryz.sizeOf5
  v5 := Tryz.zeroValue5
  infoByte := by kernel_rfl
  cellsByte := by kernel_rfl
  sizeByte := by kernel_rfl
  neB5 := by decide }
theorem Tryz.strings_Repeat (s : ByteArray) (c : Nat) (w : World) (hc : c ≤ 9223372036854775807) (hlen : s.size * c ≤ 140737488355328) :
    Calls Tryz.prog 154 #[.string s, .int .i64 c] w fun e w' => e = .returned (.string ⟨(Lib.repeatL s.data.toList c).toArray⟩) ∧ Below w.heap.size w w' := Any.strings_Repeat Tryz.lays105 Tryz.Builder_Extra_105 s c w hc hlen
end Go.Proofs

/- Format: what a directive makes of strings: repeated, sign, precise, cut, wide, digits. -/
namespace Go.Proofs.YtcmfpafcipgejaaGreatDoor
open Go.RowKit

theorem bstr {x y : ByteArray} (h : x.data.toList = y.data.toList) : x = y := ByteArray.ext (Array.ext' h)
theorem ret_str {x y : ByteArray} (h : x.data.toList = y.data.toList) : Ending.returned (.string x) = .returned (.string y) := by rw [bstr h]
theorem repeatL_one' (c : UInt8) : ∀ n, Lib.repeatL [c] n = List.replicate n c := by
  intro n
  have := Lib.repeatL_replicate c 1 n
  rw [Nat.mul_one] at this
  exact this
set_option maxHeartbeats 400000 in
theorem repeated_any (c : UInt8) (n : Int) (w : World) (h0 : -9223372036854775808 ≤ n) (h1 : n ≤ 65536) :
    Calls Tryz.prog 114 #[.string ⟨#[c]⟩, .int .i64 n] w fun e w' => e = .returned (.string ⟨(List.replicate n.toNat c).toArray⟩) ∧ Below w.heap.size w w' := by
  have HR := hide (fun W => Tryz.strings_Repeat ⟨#[c]⟩ n.toNat W (by omega) (by show 1 * n.toNat ≤ _; omega))
  have hm : max n 0 = ((n.toNat : Nat) : Int) := by omega
  have hl : Lib.repeatL (⟨#[c]⟩ : ByteArray).data.toList n.toNat = List.replicate n.toNat c := repeatL_one' c _
  rw [hl] at HR
  clear hl
  by_cases hn : n < 0
  · obtain ⟨k, hk⟩ : ∃ k, n.toNat = k := ⟨_, rfl⟩
    have hk0 : k = 0 := by omega
    rw [hk] at HR ⊢
    subst hk0
    have hm0 : max n 0 = 0 := by omega
    clear hm hk
    go_enter Tryz.func114, Tryz.ntmps114
    go_wp2_with fail
    refine (HR.out _).mono ?_
    rintro _ w2 ⟨rfl, hB⟩
    go_wp2
    go_ret
    exact ⟨rfl, hB⟩
  · obtain ⟨k, rfl⟩ : ∃ k : Nat, n = k := ⟨n.toNat, by omega⟩
    rw [Int.toNat_natCast] at HR ⊢
    clear hm
    go_enter Tryz.func114, Tryz.ntmps114
    go_wp2_with fail
    refine (HR.out _).mono ?_
    rintro _ w2 ⟨rfl, hB⟩
    go_wp2
    go_ret
    exact ⟨rfl, hB⟩

structure DirAt (W : World) (b : Nat) (d : Dir) : Prop where
  c0 : W.cell? ⟨b, 0, none⟩ = some (.int .i64 d.fl)
  c1 : W.cell? ⟨b, 1, none⟩ = some (.int .i64 (d.wd : Int))
  c2 : W.cell? ⟨b, 2, none⟩ = some (.bool d.pt)
  c3 : W.cell? ⟨b, 3, none⟩ = some (.int .i64 (d.pr : Int))
  c4 : W.cell? ⟨b, 4, none⟩ = some (.int .u8 (d.verb.toNat : Int))
theorem DirAt.new (w : World) (d : Dir) : DirAt (w.alloc (.cells #[.int .i64 d.fl, .int .i64 (d.wd : Int), .bool d.pt, .int .i64 (d.pr : Int), .int .u8 (d.verb.toNat : Int)] 116)) w.heap.size d := by
  refine ⟨?_, ?_, ?_, ?_, ?_⟩ <;> (rw [cell_of_row _ w.heap.size _ _ _ _ (heap_alloc_new w _)]; rfl)
theorem DirAt.lt {W : World} {b : Nat} {d : Dir} (h : DirAt W b d) : b < W.heap.size := World.block_lt_of_cell? W _ h.c0
theorem DirAt.below {W W' : World} {b : Nat} {d : Dir} (h : DirAt W b d) (hB : Below W.heap.size W W') : DirAt W' b d :=
  ⟨(hB.cell (p := ⟨b, 0, none⟩) h.lt).trans h.c0, (hB.cell (p := ⟨b, 1, none⟩) h.lt).trans h.c1, (hB.cell (p := ⟨b, 2, none⟩) h.lt).trans h.c2, (hB.cell (p := ⟨b, 3, none⟩) h.lt).trans h.c3, (hB.cell (p := ⟨b, 4, none⟩) h.lt).trans h.c4⟩
theorem has_is (d : Dir) (f : Int) (x : Bool) (h : d.has f = x) (w : World) : Calls Tryz.prog 113 #[dirV d, .int .i64 f] w fun e w' => e = .returned (.bool x) ∧ Below w.heap.size w w' := by
  rw [← h]
  exact has_any d f w
theorem num_is (d : Dir) (x : Bool) (h : d.num = x) (w : World) : Calls Tryz.prog 115 #[dirV d] w fun e w' => e = .returned (.bool x) ∧ Below w.heap.size w w' := by
  rw [← h]
  exact showsDigits_any d w
set_option maxHeartbeats 1000000 in
theorem sign_any (d : Dir) (b : Bool) (w : World) : Calls Tryz.prog 82 #[dirV d, .bool b] w fun e w' => e = .returned (.string ⟨(d.sign b).toArray⟩) ∧ Below w.heap.size w w' := by
  have hN := DirAt.new w d
  have hB0 := fm_below w (.cells #[.int .i64 d.fl, .int .i64 (d.wd : Int), .bool d.pt, .int .i64 (d.pr : Int), .int .u8 (d.verb.toNat : Int)] 116)
  have HN := hide hN
  have HB0 := hide hB0
  clear hN hB0
  obtain ⟨x2, h2⟩ : ∃ x, d.has 2 = x := ⟨_, rfl⟩
  obtain ⟨x8, h8⟩ : ∃ x, d.has 8 = x := ⟨_, rfl⟩
  have HS : Hid (d.sign b = if b then [45] else if x2 then [43] else if x8 then [32] else []) := by unfold Dir.sign; rw [h2, h8]; rfl
  generalize d.sign b = R at *
  have H2 := hide (has_is d 2 _ h2)
  have H8 := hide (has_is d 8 _ h8)
  clear h2 h8
  unfold dirV
  cases b with
  | true =>
    go_enter Tryz.func82, Tryz.ntmps82
    go_wp2
    go_ret
    have := HS.out
    subst this
    exact ⟨rfl, HB0.out⟩
  | false =>
    go_enter Tryz.func82, Tryz.ntmps82
    go_wp2_with fail
    generalize w.alloc (.cells #[.int .i64 d.fl, .int .i64 (d.wd : Int), .bool d.pt, .int .i64 (d.pr : Int), .int .u8 (d.verb.toNat : Int)] 116) = w1 at *
    refine (H2.out _).mono ?_
    rintro _ w2 ⟨rfl, hB2⟩
    have HB2 := hide (HB0.out.trans (hB2.mono HB0.out.size))
    obtain ⟨c0, c1, c2, c3, c4⟩ := HN.out.below hB2
    have HN2 := hide (HN.out.below hB2)
    clear hB2 HB0 HN
    cases x2 with
    | true =>
      go_wp2
      go_ret
      have := HS.out
      subst this
      exact ⟨rfl, HB2.out⟩
    | false =>
      go_wp2_with fail
      refine (H8.out _).mono ?_
      rintro _ w3 ⟨rfl, hB3⟩
      have HB3 := hide (HB2.out.trans (hB3.mono HB2.out.size))
      cases x8 with
      | true =>
        go_wp2
        go_ret
        have := HS.out
        subst this
        exact ⟨rfl, HB3.out⟩
      | false =>
        go_wp2
        go_ret
        have := HS.out
        subst this
        exact ⟨rfl, HB3.out⟩
set_option maxHeartbeats 1000000 in
theorem cut_any (d : Dir) (s : ByteArray) (w : World) (hp : d.pr ≤ 4096) : Calls Tryz.prog 84 #[dirV d, .string s] w fun e w' => e = .returned (.string ⟨(d.cut s.data.toList).toArray⟩) ∧ Below w.heap.size w w' := by
  have hsz : s.data.toList.length = s.size := by rw [Array.length_toList]; rfl
  have HS : Hid (d.cut s.data.toList = if d.pt = true ∧ d.pr < s.size then s.data.toList.take d.pr else s.data.toList) := by unfold Dir.cut; rw [hsz]; rfl
  generalize d.cut s.data.toList = R at *
  obtain ⟨fl, wd, pt, pr, vb⟩ := d
  have HB0 := hide (fm_below w (.cells #[.int .i64 fl, .int .i64 (wd : Int), .bool pt, .int .i64 (pr : Int), .int .u8 (vb.toNat : Int)] 116))
  unfold dirV
  cases pt with
  | false =>
    go_enter Tryz.func84, Tryz.ntmps84
    go_wp2
    go_ret
    have := HS.out
    rw [if_neg (by simp)] at this
    subst this
    exact ⟨rfl, HB0.out⟩
  | true =>
    by_cases hlt : pr < s.size
    · have hlt' : ((pr : Nat) : Int) < (s.size : Int) := by omega
      go_enter Tryz.func84, Tryz.ntmps84
      go_wp2
      go_ret
      have := HS.out
      rw [if_pos ⟨by trivial, hlt⟩] at this
      subst this
      exact ⟨ret_str (by rw [ByteArray.data_extract, Array.toList_extract, List.extract_eq_take_drop]; rfl), HB0.out⟩
    · have hlt' : ¬ ((pr : Nat) : Int) < (s.size : Int) := by omega
      go_enter Tryz.func84, Tryz.ntmps84
      go_wp2
      go_ret
      have := HS.out
      rw [if_neg (by rintro ⟨_, h⟩; exact hlt h)] at this
      subst this
      exact ⟨rfl, HB0.out⟩
theorem str_eq0 (s : ByteArray) : (s.toList == [48]) = decide (s.data.toList = [48]) := by
  rw [ByteArray.toList_eq]
  exact Bool.beq_eq_decide_eq _ _
set_option maxHeartbeats 1000000 in
theorem precise_any (d : Dir) (s : ByteArray) (w : World) (hs : s.size ≤ maxLen) (hp : d.pr ≤ 4096) : Calls Tryz.prog 83 #[dirV d, .string s] w fun e w' => e = .returned (.string ⟨(d.precise s.data.toList).toArray⟩) ∧ Below w.heap.size w w' := by
  unfold maxLen at hs
  have hsz : s.data.toList.length = s.size := by rw [Array.length_toList]; rfl
  have HS : Hid (d.precise s.data.toList = if d.pt = true ∧ d.pr = 0 ∧ s.data.toList = [48] then [] else zer (d.pr - s.size) ++ s.data.toList) := by unfold Dir.precise; rw [hsz]; rfl
  generalize d.precise s.data.toList = R at *
  have HRep := hide (fun W => repeated_any 48 ((d.pr : Int) - (s.size : Int)) W (by omega) (by omega))
  have HT : Hid (((d.pr : Int) - (s.size : Int)).toNat = d.pr - s.size) := by show _ = _; omega
  rw [HT.out] at HRep
  have hE := str_eq0 s
  obtain ⟨fl, wd, pt, pr, vb⟩ := d
  simp only at HRep hp
  have hB0 := fm_below w (.cells #[.int .i64 fl, .int .i64 (wd : Int), .bool pt, .int .i64 (pr : Int), .int .u8 (vb.toNat : Int)] 116)
  have HB0 := hide hB0
  clear hB0
  unfold dirV
  cases pt with
  | false =>
    clear hE
    go_enter Tryz.func83, Tryz.ntmps83
    go_wp2_with fail
    generalize w.alloc (.cells #[.int .i64 fl, .int .i64 (wd : Int), .bool false, .int .i64 (pr : Int), .int .u8 (vb.toNat : Int)] 116) = w1 at *
    refine (HRep.out _).mono ?_
    rintro _ w2 ⟨rfl, hB2⟩
    have HB2 := hide (HB0.out.trans (hB2.mono HB0.out.size))
    go_wp2
    go_ret
    have := HS.out
    rw [if_neg (by simp)] at this
    subst this
    exact ⟨ret_str (by simp [zer]), HB2.out⟩
  | true =>
    by_cases h0 : pr = 0
    · subst h0
      have HB1 := hide (fm_below w (.cells #[.int .i64 fl, .int .i64 (wd : Int), .bool true, .int .i64 0, .int .u8 (vb.toNat : Int)] 116))
      have HRz := hide (fun W => repeated_any 48 (-(s.size : Int)) W (by omega) (by omega))
      rw [show (-(s.size : Int)).toNat = 0 by omega] at HRz
      clear HB0 HT HRep
      by_cases h48 : s.data.toList = [48]
      · have hE' : (s.toList == [48]) = true := by rw [hE]; exact decide_eq_true h48
        clear hE
        go_enter Tryz.func83, Tryz.ntmps83
        go_wp2
        go_ret
        have := HS.out
        rw [if_pos (by first | exact ⟨trivial, rfl, h48⟩ | exact ⟨trivial, trivial, h48⟩)] at this
        subst this
        exact ⟨rfl, HB1.out⟩
      · have hE' : (s.toList == [48]) = false := by rw [hE]; exact decide_eq_false h48
        clear hE
        go_enter Tryz.func83, Tryz.ntmps83
        go_wp2_with fail
        generalize w.alloc (.cells #[.int .i64 fl, .int .i64 (wd : Int), .bool true, .int .i64 0, .int .u8 (vb.toNat : Int)] 116) = w1 at *
        refine (HRz.out _).mono ?_
        rintro _ w2 ⟨rfl, hB2⟩
        have HB2 := hide (HB1.out.trans (hB2.mono HB1.out.size))
        go_wp2
        go_ret
        have := HS.out
        rw [if_neg (by rintro ⟨_, _, h⟩; exact h48 h)] at this
        subst this
        exact ⟨ret_str (by simp [zer]), HB2.out⟩
    · have h0' : (((pr : Nat) : Int) == 0) = false := by simp only [beq_eq_false_iff_ne, ne_eq]; omega
      clear hE
      go_enter Tryz.func83, Tryz.ntmps83
      go_wp2_with fail
      generalize w.alloc (.cells #[.int .i64 fl, .int .i64 (wd : Int), .bool true, .int .i64 (pr : Int), .int .u8 (vb.toNat : Int)] 116) = w1 at *
      refine (HRep.out _).mono ?_
      rintro _ w2 ⟨rfl, hB2⟩
      have HB2 := hide (HB0.out.trans (hB2.mono HB0.out.size))
      go_wp2
      go_ret
      have := HS.out
      rw [if_neg (by rintro ⟨_, h, _⟩; exact h0 h)] at this
      subst this
      exact ⟨ret_str (by simp [zer]), HB2.out⟩
set_option maxHeartbeats 1000000 in
theorem wide_any (d : Dir) (s b : ByteArray) (w : World) (hs : s.size ≤ 1) (hb : s.size + b.size ≤ maxLen) (hp : d.wd ≤ 4096) : Calls Tryz.prog 81 #[dirV d, .string s, .string b] w fun e w' => e = .returned (.string ⟨(d.wide s.data.toList b.data.toList).toArray⟩) ∧ Below w.heap.size w w' := by
  unfold maxLen at hb
  have hsz : s.data.toList.length = s.size := by rw [Array.length_toList]; rfl
  have hbz : b.data.toList.length = b.size := by rw [Array.length_toList]; rfl
  obtain ⟨x1, h1⟩ : ∃ x, d.has 1 = x := ⟨_, rfl⟩
  obtain ⟨x4, h4⟩ : ∃ x, d.has 4 = x := ⟨_, rfl⟩
  obtain ⟨xn, hn⟩ : ∃ x, d.num = x := ⟨_, rfl⟩
  have HS : Hid (d.wide s.data.toList b.data.toList = if x1 = true then s.data.toList ++ b.data.toList ++ bla (d.wd - s.size - b.size) else if (x4 && !d.pt && xn) = true then s.data.toList ++ zer (d.wd - s.size - b.size) ++ b.data.toList else bla (d.wd - s.size - b.size) ++ s.data.toList ++ b.data.toList) := by unfold Dir.wide; rw [hsz, hbz, h1, h4, hn]; rfl
  have H1 := hide (has_is d 1 _ h1)
  have H4 := hide (has_is d 4 _ h4)
  have H5 := hide (num_is d _ hn)
  clear h1 h4 hn
  generalize d.wide s.data.toList b.data.toList = R at *
  have HR0 := hide (fun W => repeated_any 48 ((d.wd : Int) - (s.size : Int) - (b.size : Int)) W (by omega) (by omega))
  have HR1 := hide (fun W => repeated_any 32 ((d.wd : Int) - (s.size : Int) - (b.size : Int)) W (by omega) (by omega))
  have HT : Hid (((d.wd : Int) - (s.size : Int) - (b.size : Int)).toNat = d.wd - s.size - b.size) := by show _ = _; omega
  rw [HT.out] at HR0 HR1
  have hN := DirAt.new w d
  have HN := hide hN
  have HB0 := hide (fm_below w (.cells #[.int .i64 d.fl, .int .i64 (d.wd : Int), .bool d.pt, .int .i64 (d.pr : Int), .int .u8 (d.verb.toNat : Int)] 116))
  clear hN hsz hbz
  obtain ⟨fl, wd, pt, pr, vb⟩ := d
  simp only at HR0 HR1 HN hp HB0
  unfold dirV
  go_enter Tryz.func81, Tryz.ntmps81
  go_wp2_with fail
  generalize w.alloc (.cells #[.int .i64 fl, .int .i64 (wd : Int), .bool pt, .int .i64 (pr : Int), .int .u8 (vb.toNat : Int)] 116) = w1 at *
  refine (H1.out _).mono ?_
  rintro _ w2 ⟨rfl, hB2⟩
  have HB2 := hide (HB0.out.trans (hB2.mono HB0.out.size))
  obtain ⟨c0, c1, c2, c3, c4⟩ := HN.out.below hB2
  have HN2 := hide (HN.out.below hB2)
  simp only at c0 c1 c2 c3 c4
  clear hB2 HB0 HN
  cases x1 with
  | true =>
    go_wp2_with fail
    refine (HR1.out _).mono ?_
    rintro _ w3 ⟨rfl, hB3⟩
    have HB3 := hide (HB2.out.trans (hB3.mono HB2.out.size))
    go_wp2
    go_ret
    have := HS.out
    rw [if_pos (by trivial)] at this
    subst this
    exact ⟨ret_str (by simp [bla]), HB3.out⟩
  | false =>
    go_wp2_with fail
    refine (H4.out _).mono ?_
    rintro _ w3 ⟨rfl, hB3⟩
    have HB3 := hide (HB2.out.trans (hB3.mono HB2.out.size))
    obtain ⟨c0', c1', c2', c3', c4'⟩ := HN2.out.below hB3
    have HN3 := hide (HN2.out.below hB3)
    simp only at c0' c1' c2' c3' c4'
    clear c0 c1 c2 c3 c4 hB3 HB2 HN2
    cases x4 with
    | false =>
      go_wp2_with fail
      refine (HR1.out _).mono ?_
      rintro _ w4 ⟨rfl, hB4⟩
      have HB4 := hide (HB3.out.trans (hB4.mono HB3.out.size))
      go_wp2
      go_ret
      have := HS.out
      rw [if_neg (by simp), if_neg (by simp)] at this
      subst this
      exact ⟨ret_str (by simp [bla]), HB4.out⟩
    | true =>
      cases pt with
      | true =>
        go_wp2_with fail
        refine (HR1.out _).mono ?_
        rintro _ w4 ⟨rfl, hB4⟩
        have HB4 := hide (HB3.out.trans (hB4.mono HB3.out.size))
        go_wp2
        go_ret
        have := HS.out
        rw [if_neg (by simp), if_neg (by simp)] at this
        subst this
        exact ⟨ret_str (by simp [bla]), HB4.out⟩
      | false =>
        go_wp2_with fail
        refine (H5.out _).mono ?_
        rintro _ w4 ⟨rfl, hB4⟩
        have HB4 := hide (HB3.out.trans (hB4.mono HB3.out.size))
        cases xn with
        | true =>
          go_wp2_with fail
          refine (HR0.out _).mono ?_
          rintro _ w5 ⟨rfl, hB5⟩
          have HB5 := hide (HB4.out.trans (hB5.mono HB4.out.size))
          go_wp2
          go_ret
          have := HS.out
          rw [if_neg (by simp), if_pos (by simp)] at this
          subst this
          exact ⟨ret_str (by simp [zer]), HB5.out⟩
        | false =>
          go_wp2_with fail
          refine (HR1.out _).mono ?_
          rintro _ w5 ⟨rfl, hB5⟩
          have HB5 := hide (HB4.out.trans (hB5.mono HB4.out.size))
          go_wp2
          go_ret
          have := HS.out
          rw [if_neg (by simp), if_neg (by simp)] at this
          subst this
          exact ⟨ret_str (by simp [bla]), HB5.out⟩
end Go.Proofs.YtcmfpafcipgejaaGreatDoor

/- Slices of anything that came in as an argument: what a walk is told of them, and their sizes. -/
namespace Go.Proofs.YtcmfpafcipgejaaGreatDoor
open Go.ChangeShapes Go.WideShapes Go.ChangeAt Go.RowKit Go.Deep

end Go.Proofs.YtcmfpafcipgejaaGreatDoor

/- Format: a slice of Args, as it comes in as an argument and as it is cut. -/
namespace Go.Proofs.YtcmfpafcipgejaaGreatDoor
open Go.ChangeShapes Go.WideShapes Go.ChangeAt Go.RowKit

def N64 (d : Int) : Prop := -9223372036854775808 ≤ d ∧ d ≤ 9223372036854775807
end Go.Proofs.YtcmfpafcipgejaaGreatDoor

/- A string of one byte. -/
namespace Go.Proofs.YtcmfpafcipgejaaGreatDoor
open Go.RowKit

theorem cell_new_at (W : World) (c : Int) (t : TypeId) : ∀ i, i < 1 → (W.alloc (.cells #[.int .u8 c] t)).cell? ⟨W.heap.size, 0 + i, none⟩ = some (.int .u8 ([c].getD i 0)) := by
  intro i hi
  obtain rfl : i = 0 := by omega
  exact (Boxed.new W t (.int .u8 c)).cell
theorem one_str (W : World) (c : Int) : (convert 22 9 (.slice (some ⟨W.heap.size, 0, none⟩) 1 1)).run Tryz.prog (W.alloc (.cells #[.int .u8 c] 5)) = .ok (.string (strOfNums [c])) (W.alloc (.cells #[.int .u8 c] 5)) :=
  run_convert_bytes_arg _ 22 5 Tryz.underlying22 Tryz.underlying5 W.heap.size 0 1 1 [c] rfl (cell_new_at W c _) _ Tryz.underlying9
end Go.Proofs.YtcmfpafcipgejaaGreatDoor

/- Format: what a directive makes of an Arg: digits, isOf, shown. -/
namespace Go.Proofs.YtcmfpafcipgejaaGreatDoor
open Go.RowKit

theorem sgn_small : ∀ x : Fin 16, (sgn x).toNat < 128 := by decide
theorem digs_small (b n : Nat) : ∀ c ∈ digs b n, c.toNat < 128 := by
  intro c hc
  unfold digs at hc
  obtain ⟨x, _, rfl⟩ := List.mem_map.1 hc
  exact sgn_small x
theorem toUpper_up (l : List UInt8) : Lib.toUpperA l = l.map upB := by
  unfold Lib.toUpperA
  refine List.map_congr_left fun c _ => ?_
  unfold Lib.upperB upB Lib.isLowerB
  simp only [Bool.and_eq_true, decide_eq_true_eq, UInt8.le_iff_toNat_le]
  rfl
set_option maxHeartbeats 1000000 in
theorem digits_fm (d : Dir) (n : Int) (h0 : 0 ≤ n) (h1 : n ≤ 18446744073709551615) (w : World) : Calls Tryz.prog 85 #[dirV d, .int .u64 n] w fun e w' => e = .returned (.string ⟨(d.digits n.toNat).toArray⟩) ∧ Below w.heap.size w w' := by
  have hN := DirAt.new w d
  have HB0 := hide (fm_below w (.cells #[.int .i64 d.fl, .int .i64 (d.wd : Int), .bool d.pt, .int .i64 (d.pr : Int), .int .u8 (d.verb.toNat : Int)] 116))
  have HN := hide hN
  clear hN
  have HD16 := hide (fun W => base_yes n 16 h0 h1 (by decide) (by decide) W)
  have HD8 := hide (fun W => base_yes n 8 h0 h1 (by decide) (by decide) W)
  have HD10 := hide (fun W => base_yes n 10 h0 h1 (by decide) (by decide) W)
  have hl := digs_len 16 n.toNat (by decide) (by omega)
  have HU := hide (fun W => Tryz.strings_ToUpper_ascii ⟨(digs 16 n.toNat).toArray⟩ W (by show (digs 16 n.toNat).toArray.size ≤ _; rw [List.size_toArray]; omega) (fun j b hj => digs_small 16 n.toNat b (List.mem_of_getElem? hj)))
  have HV : Hid (d.digits n.toNat = if d.verb = 88 then Lib.toUpperA (digs 16 n.toNat) else digs (if d.verb = 120 then 16 else if d.verb = 111 then 8 else 10) n.toNat) := by unfold Dir.digits; rw [toUpper_up]; rfl
  generalize d.digits n.toNat = R at *
  obtain ⟨fl, wd, pt, pr, vb⟩ := d
  simp only at HN HB0 HV
  clear hl
  unfold dirV
  simp only
  have key : ∀ k : UInt8, ((vb.toNat : Int) == (k.toNat : Int)) = decide (vb = k) := by
    intro k
    by_cases e : vb = k
    · subst e; simp
    · have : (vb.toNat : Int) ≠ (k.toNat : Int) := fun h => e (UInt8.toNat_inj.1 (Int.ofNat.inj h))
      rw [decide_eq_false e]
      simpa using this
  by_cases e120 : vb = 120
  · have hv : (vb.toNat : Int) = 120 := by rw [e120]; rfl
    rw [hv] at HB0 HN ⊢
    have HVv := hide hv
    have HE := hide e120
    clear hv key e120
    go_enter Tryz.func85, Tryz.ntmps85
    go_wp2_with fail
    generalize w.alloc (.cells #[.int .i64 fl, .int .i64 (wd : Int), .bool pt, .int .i64 (pr : Int), .int .u8 120] 116) = w1 at *
    refine (HD16.out _).mono ?_
    rintro _ w2 ⟨rfl, hB2⟩
    have HB2 := hide (HB0.out.trans (hB2.mono HB0.out.size))
    obtain ⟨c0, c1, c2, c3, c4⟩ := HN.out.below hB2
    simp only at c0 c1 c2 c3 c4
    rw [HVv.out] at c4
    go_wp2
    go_ret
    have := HV.out
    rw [HE.out] at this
    subst this
    exact ⟨rfl, HB2.out⟩
  by_cases e88 : vb = 88
  · have hv : (vb.toNat : Int) = 88 := by rw [e88]; rfl
    rw [hv] at HB0 HN ⊢
    have HVv := hide hv
    have HE := hide e88
    clear hv key e88 e120
    go_enter Tryz.func85, Tryz.ntmps85
    go_wp2_with fail
    generalize w.alloc (.cells #[.int .i64 fl, .int .i64 (wd : Int), .bool pt, .int .i64 (pr : Int), .int .u8 88] 116) = w1 at *
    refine (HD16.out _).mono ?_
    rintro _ w2 ⟨rfl, hB2⟩
    have HB2 := hide (HB0.out.trans (hB2.mono HB0.out.size))
    obtain ⟨c0, c1, c2, c3, c4⟩ := HN.out.below hB2
    simp only at c0 c1 c2 c3 c4
    rw [HVv.out] at c4
    go_wp2_with fail
    refine (HU.out _).mono ?_
    rintro _ w3 ⟨rfl, hB3⟩
    have HB3 := hide (HB2.out.trans (hB3.mono HB2.out.size))
    go_wp2
    go_ret
    have := HV.out
    rw [if_pos HE.out] at this
    subst this
    exact ⟨rfl, HB3.out⟩
  by_cases e111 : vb = 111
  · have hv : (vb.toNat : Int) = 111 := by rw [e111]; rfl
    rw [hv] at HB0 HN ⊢
    have HVv := hide hv
    have HE := hide e111
    clear hv key e111 e88 e120
    go_enter Tryz.func85, Tryz.ntmps85
    go_wp2_with fail
    generalize w.alloc (.cells #[.int .i64 fl, .int .i64 (wd : Int), .bool pt, .int .i64 (pr : Int), .int .u8 111] 116) = w1 at *
    refine (HD8.out _).mono ?_
    rintro _ w2 ⟨rfl, hB2⟩
    have HB2 := hide (HB0.out.trans (hB2.mono HB0.out.size))
    obtain ⟨c0, c1, c2, c3, c4⟩ := HN.out.below hB2
    simp only at c0 c1 c2 c3 c4
    rw [HVv.out] at c4
    go_wp2
    go_ret
    have := HV.out
    rw [HE.out] at this
    subst this
    exact ⟨rfl, HB2.out⟩
  · have t1 : ((vb.toNat : Int) == 120) = false := by rw [show (120 : Int) = ((120 : UInt8).toNat : Int) from rfl, key]; exact decide_eq_false e120
    have t2 : ((vb.toNat : Int) == 88) = false := by rw [show (88 : Int) = ((88 : UInt8).toNat : Int) from rfl, key]; exact decide_eq_false e88
    have t3 : ((vb.toNat : Int) == 111) = false := by rw [show (111 : Int) = ((111 : UInt8).toNat : Int) from rfl, key]; exact decide_eq_false e111
    go_enter Tryz.func85, Tryz.ntmps85
    go_wp2_with fail
    generalize w.alloc (.cells #[.int .i64 fl, .int .i64 (wd : Int), .bool pt, .int .i64 (pr : Int), .int .u8 (vb.toNat : Int)] 116) = w1 at *
    refine (HD10.out _).mono ?_
    rintro _ w2 ⟨rfl, hB2⟩
    have HB2 := hide (HB0.out.trans (hB2.mono HB0.out.size))
    obtain ⟨c0, c1, c2, c3, c4⟩ := HN.out.below hB2
    simp only at c0 c1 c2 c3 c4
    go_wp2
    go_ret
    have := HV.out
    rw [if_neg e88, if_neg e120, if_neg e111] at this
    subst this
    exact ⟨rfl, HB2.out⟩

def agV (a : Ag) : Value := .agg #[.int .i64 a.kind, .int .i64 a.int, .int .u64 a.uint, .string a.text]
structure AgAt (W : World) (b : Nat) (a : Ag) : Prop where
  c0 : W.cell? ⟨b, 0, none⟩ = some (.int .i64 a.kind)
  c1 : W.cell? ⟨b, 1, none⟩ = some (.int .i64 a.int)
  c2 : W.cell? ⟨b, 2, none⟩ = some (.int .u64 a.uint)
  c3 : W.cell? ⟨b, 3, none⟩ = some (.string a.text)
theorem AgAt.new (w : World) (a : Ag) : AgAt (w.alloc (.cells #[.int .i64 a.kind, .int .i64 a.int, .int .u64 a.uint, .string a.text] 42)) w.heap.size a := by
  refine ⟨?_, ?_, ?_, ?_⟩ <;> (rw [cell_of_row _ w.heap.size _ _ _ _ (heap_alloc_new w _)]; rfl)
theorem AgAt.lt {W : World} {b : Nat} {d : Ag} (h : AgAt W b d) : b < W.heap.size := World.block_lt_of_cell? W _ h.c0
theorem AgAt.below {W W' : World} {b : Nat} {d : Ag} (h : AgAt W b d) (hB : Below W.heap.size W W') : AgAt W' b d :=
  ⟨(hB.cell (p := ⟨b, 0, none⟩) h.lt).trans h.c0, (hB.cell (p := ⟨b, 1, none⟩) h.lt).trans h.c1, (hB.cell (p := ⟨b, 2, none⟩) h.lt).trans h.c2, (hB.cell (p := ⟨b, 3, none⟩) h.lt).trans h.c3⟩
end Go.Proofs.YtcmfpafcipgejaaGreatDoor
