/- What the proof stands on, part 6: the contracts of the program's calls that it reaches. -/
import Derived.Test.YtcmfpafcipgejaaGreatDoorKB5
import Derived.Deep.RegionHeld3
/- Scan: the closure that a verb's bytes fit. -/
namespace Go.Proofs.YtcmfpafcipgejaaGreatDoor
open Go.RowKit
theorem digits_any (b : Nat) (w : World) : Calls Tryz.prog 108 #[.int .i64 (b : Int)] w fun e w' => e = .returned (.func (.func 149) #[] #[.pointer (some ⟨w.heap.size, 0, none⟩)]) ∧ w' = w.alloc (Obj.cells #[.int .i64 (b : Int)] 3) := by
  go_enter Tryz.func108, Tryz.ntmps108
  go_wp2
  go_ret
  exact ⟨rfl, rfl⟩
theorem signed_any (k : FuncId) (cs : Array Value) (w : World) : Calls Tryz.prog 139 #[.func (.func k) #[] cs] w fun e w' => e = .returned (.func (.func 165) #[] #[.pointer (some ⟨w.heap.size + 1, 0, none⟩), .pointer (some ⟨w.heap.size, 0, none⟩)]) ∧ w' = (w.alloc (Obj.cells #[.func (.func k) #[] cs] 138)).alloc (Obj.cells #[.bool false] 4) := by
  go_enter Tryz.func139, Tryz.ntmps139
  go_wp2
  go_ret
  exact ⟨rfl, rfl⟩
def FitOf (v : UInt8) (w : World) (x : Value) (w' : World) : Prop := Below w.heap.size w w' ∧ ∃ ff caps F FK FAt, x = .func (.func ff) #[] caps ∧ FitM (fitV v) ff caps F FK FAt ∧ FAt w' false ∧ (∀ j, F j ∨ FK j → w.heap.size ≤ j ∧ j < w'.heap.size) ∧ ∀ j, FK j → ¬ F j
theorem fit_s {v : UInt8} (h : v.toNat = 115) : fitV v = fun q c => (!isBl c, q) := by
  funext q c
  unfold fitV
  rw [if_pos h]
theorem fit_d {v : UInt8} (h : v.toNat = 100) : fitV v = fun q c => ((!q && isSg c) || digB 10 c, true) := by
  funext q c
  unfold fitV
  rw [if_neg (by omega), if_pos h]
theorem fit_o {v : UInt8} (h : v.toNat ≠ 115) (h2 : v.toNat ≠ 100) : fitV v = fun q c => (digB (baseS v) c, q) := by
  funext q c
  unfold fitV
  rw [if_neg h, if_neg h2]
theorem baseS_bd (v : UInt8) : 2 ≤ baseS v ∧ baseS v ≤ 16 := by
  unfold baseS
  split
  · omega
  · split <;> omega
theorem sgn_new (w : World) : Below w.heap.size w (((w.alloc (Obj.cells #[.int .i64 10] 3)).alloc (Obj.cells #[.func (.func 149) #[] #[.pointer (some ⟨w.heap.size, 0, none⟩)]] 138)).alloc (Obj.cells #[.bool false] 4)) ∧ (((w.alloc (Obj.cells #[.int .i64 10] 3)).alloc (Obj.cells #[.func (.func 149) #[] #[.pointer (some ⟨w.heap.size, 0, none⟩)]] 138)).alloc (Obj.cells #[.bool false] 4)).heap.size = w.heap.size + 3 ∧ SgAt (w.heap.size + 1 + 1) (w.heap.size + 1) w.heap.size (((w.alloc (Obj.cells #[.int .i64 10] 3)).alloc (Obj.cells #[.func (.func 149) #[] #[.pointer (some ⟨w.heap.size, 0, none⟩)]] 138)).alloc (Obj.cells #[.bool false] 4)) false := by
  have z1 : (w.alloc (Obj.cells #[.int .i64 10] 3)).heap.size = w.heap.size + 1 := Array.size_push ..
  have z2 : ((w.alloc (Obj.cells #[.int .i64 10] 3)).alloc (Obj.cells #[.func (.func 149) #[] #[.pointer (some ⟨w.heap.size, 0, none⟩)]] 138)).heap.size = w.heap.size + 1 + 1 := by rw [← z1]; exact Array.size_push ..
  have z3 : (((w.alloc (Obj.cells #[.int .i64 10] 3)).alloc (Obj.cells #[.func (.func 149) #[] #[.pointer (some ⟨w.heap.size, 0, none⟩)]] 138)).alloc (Obj.cells #[.bool false] 4)).heap.size = w.heap.size + 1 + 1 + 1 := by rw [← z2]; exact Array.size_push ..
  have b1 := fm_below w (Obj.cells #[.int .i64 10] 3)
  have b2 := fm_below (w.alloc (Obj.cells #[.int .i64 10] 3)) (Obj.cells #[.func (.func 149) #[] #[.pointer (some ⟨w.heap.size, 0, none⟩)]] 138)
  have b3 := fm_below ((w.alloc (Obj.cells #[.int .i64 10] 3)).alloc (Obj.cells #[.func (.func 149) #[] #[.pointer (some ⟨w.heap.size, 0, none⟩)]] 138)) (Obj.cells #[.bool false] 4)
  have k1 := heap_alloc_new w (Obj.cells #[.int .i64 10] 3)
  have k2 := heap_alloc_new (w.alloc (Obj.cells #[.int .i64 10] 3)) (Obj.cells #[.func (.func 149) #[] #[.pointer (some ⟨w.heap.size, 0, none⟩)]] 138)
  have k3 := heap_alloc_new ((w.alloc (Obj.cells #[.int .i64 10] 3)).alloc (Obj.cells #[.func (.func 149) #[] #[.pointer (some ⟨w.heap.size, 0, none⟩)]] 138)) (Obj.cells #[.bool false] 4)
  rw [z1] at k2
  rw [z2] at k3
  have m1 := (b3.block w.heap.size (by omega)).trans ((b2.block w.heap.size (by omega)).trans k1)
  have m2 := (b3.block (w.heap.size + 1) (by omega)).trans k2
  refine ⟨(b1.trans (b2.mono (by omega))).trans (b3.mono (by omega)), z3, ?_, ?_, ?_, ?_⟩
  · exact cell_of_row _ (w.heap.size + 1 + 1) 0 _ _ _ k3
  · exact frozen_of_row _ (w.heap.size + 1 + 1) 0 _ _ k3
  · exact cell_of_row _ (w.heap.size + 1) 0 _ _ _ m2
  · exact cell_of_row _ w.heap.size 0 _ _ _ m1
set_option maxRecDepth 100000 in
set_option maxHeartbeats 2000000 in
theorem fitting_any (v : UInt8) (w : World) : Calls Tryz.prog 100 #[.int .u8 (v.toNat : Int)] w fun e w' => ∃ x, e = .returned x ∧ FitOf v w x w' := by
  by_cases h1 : v.toNat = 115
  · have h1' : (v.toNat : Int) = 115 := by omega
    have HF := hide (fit_s h1)
    rw [h1']
    clear h1 h1'
    go_enter Tryz.func100, Tryz.ntmps100
    go_wp2
    go_ret
    exact ⟨_, rfl, Below.refl _ _, _, _, none_, none_, calm, rfl, by rw [HF.out]; exact fitNotBl, trivial, fun _ e => e.elim False.elim False.elim, fun _ e => e.elim⟩
  · by_cases h2 : v.toNat = 100
    · have h2' : (v.toNat : Int) = 100 := by omega
      have HF := hide (fit_d h2)
      have HB := hide (baseOf_any v w)
      have hb : baseS v = 10 := by unfold baseS; rw [if_neg (by omega), if_neg (by omega)]
      rw [hb] at HB
      rw [h2'] at HB ⊢
      clear h1 h2 h2' hb
      go_enter Tryz.func100, Tryz.ntmps100
      go_wp2_with fail
      refine HB.out.mono ?_
      rintro _ _ ⟨rfl, rfl⟩
      go_wp2_with fail
      refine (digits_any 10 _).mono ?_
      rintro _ _ ⟨rfl, rfl⟩
      go_wp2_with fail
      refine (signed_any _ _ _).mono ?_
      rintro _ _ ⟨rfl, rfl⟩
      go_wp2
      go_ret
      obtain ⟨a1, a2, a3⟩ := sgn_new w
      exact ⟨_, rfl, a1, _, _, (fun j => j = w.heap.size + 1 + 1), (fun j => j = w.heap.size + 1 ∨ j = w.heap.size), _, rfl, by rw [HF.out]; exact fitSgn _ _ _ (by omega) (by omega), a3, fun j e => by
        rw [a2]
        rcases e with rfl | rfl | rfl <;> omega, fun j e e2 => by rcases e with e | e <;> omega⟩
    · have HF := hide (fit_o h1 h2)
      have h1' : ((v.toNat : Int) == 115) = false := by simp; omega
      have h2' : ((v.toNat : Int) == 100) = false := by simp; omega
      have HB := hide (baseOf_any v w)
      have hbd := hide (baseS_bd v)
      clear h1 h2
      go_enter Tryz.func100, Tryz.ntmps100
      go_wp2_with fail
      refine HB.out.mono ?_
      rintro _ _ ⟨rfl, rfl⟩
      go_wp2_with fail
      refine (digits_any _ _).mono ?_
      rintro _ _ ⟨rfl, rfl⟩
      go_wp2
      go_ret
      exact ⟨_, rfl, fm_below _ _, _, _, none_, (fun j => j = w.heap.size), _, rfl, by rw [HF.out]; exact fitDig _ hbd.out.1 hbd.out.2 w.heap.size, cell_of_row _ w.heap.size 0 _ _ _ (heap_alloc_new w _), fun j e => by
        rcases e with e | rfl
        · exact e.elim
        · exact ⟨Nat.le_refl _, size_new _ _⟩, fun _ _ e => e⟩
end Go.Proofs.YtcmfpafcipgejaaGreatDoor

/- Scan: a pattern's parts. -/
namespace Go.Proofs.YtcmfpafcipgejaaGreatDoor
open Go.RowKit
def ptV (p : Pt) : Value := .agg #[.int .u8 (p.verb.toNat : Int), .int .u8 (p.want.toNat : Int), .bool p.quiet, .int .i64 (p.wd : Int), .int .i64 (p.len : Int)]
theorem u8_int (c : UInt8) (k : Nat) : ((c.toNat : Int) == (k : Int)) = (c.toNat == k) := by
  rw [Bool.eq_iff_iff, beq_iff_eq, beq_iff_eq]; omega
set_option maxHeartbeats 2000000 in
theorem tells_any (p : Pt) (w : World) : Calls Tryz.prog 27 #[ptV p] w fun e w' => e = .returned (.bool p.tells) ∧ w' = w.alloc (Obj.cells #[.int .u8 (p.verb.toNat : Int), .int .u8 (p.want.toNat : Int), .bool p.quiet, .int .i64 (p.wd : Int), .int .i64 (p.len : Int)] 80) := by
  have h1 : ((p.verb.toNat : Int) != 32) = (p.verb.toNat != 32) := congrArg Bool.not (u8_int p.verb 32)
  have h2 : ((p.verb.toNat : Int) != 37) = (p.verb.toNat != 37) := congrArg Bool.not (u8_int p.verb 37)
  unfold Pt.tells ptV
  rw [← h1, ← h2]
  clear h1 h2
  cases hq : p.quiet
  all_goals
    by_cases h1 : ((p.verb.toNat : Int) != 32) = true
    · by_cases h2 : ((p.verb.toNat : Int) != 37) = true
      · go_enter Tryz.func27, Tryz.ntmps27
        go_wp2
        go_ret
        exact ⟨by simp_all, rfl⟩
      · have h2 : ((p.verb.toNat : Int) != 37) = false := by simpa using h2
        go_enter Tryz.func27, Tryz.ntmps27
        go_wp2
        go_ret
        exact ⟨by simp_all, rfl⟩
    · have h1 : ((p.verb.toNat : Int) != 32) = false := by simpa using h1
      go_enter Tryz.func27, Tryz.ntmps27
      go_wp2
      go_ret
      exact ⟨by simp_all, rfl⟩
set_option maxHeartbeats 2000000 in
theorem most_any (p : Pt) (w : World) : Calls Tryz.prog 97 #[ptV p] w fun e w' => e = .returned (.int .i64 (p.most : Int)) ∧ w' = w.alloc (Obj.cells #[.int .u8 (p.verb.toNat : Int), .int .u8 (p.want.toNat : Int), .bool p.quiet, .int .i64 (p.wd : Int), .int .i64 (p.len : Int)] 80) := by
  have e1 := u8_int p.verb 99
  unfold ptV
  by_cases h1 : 0 < p.wd
  · have h1' : (0 : Int) < (p.wd : Int) := by omega
    have hm : p.most = p.wd := by unfold Pt.most; rw [if_pos h1]
    rw [hm]
    clear e1 hm
    go_enter Tryz.func97, Tryz.ntmps97
    go_wp2
    go_ret
    exact ⟨rfl, rfl⟩
  · have h1' : ¬ (0 : Int) < (p.wd : Int) := by omega
    by_cases h2 : p.verb.toNat = 99
    · have hm : p.most = 1 := by unfold Pt.most; rw [if_neg h1, if_pos h2]
      have h3 : ((p.verb.toNat : Int) == 99) = true := by rw [show ((99 : Int)) = ((99 : Nat) : Int) from rfl, e1]; simp [h2]
      rw [hm]
      clear e1 hm h2
      go_enter Tryz.func97, Tryz.ntmps97
      go_wp2
      go_ret
      exact ⟨rfl, rfl⟩
    · have hm : p.most = 4096 := by unfold Pt.most; rw [if_neg h1, if_neg h2]
      have h3 : ((p.verb.toNat : Int) == 99) = false := by rw [show ((99 : Int)) = ((99 : Nat) : Int) from rfl, e1]; simp [h2]
      rw [hm]
      clear e1 hm h2
      go_enter Tryz.func97, Tryz.ntmps97
      go_wp2
      go_ret
      exact ⟨rfl, rfl⟩
theorem sIsVerb_any (c : UInt8) (a : Int) (w : World) : Calls Tryz.prog 74 #[.int .u8 (c.toNat : Int), .int .i64 a] w fun e w' => e = .returned (.bool (sv c.toNat || (c.toNat == 37 && a == 1))) ∧ w = w' := by
  have h : (sv c.toNat || (c.toNat == 37 && a == 1)) = (((((((c.toNat : Int) == 100 || (c.toNat : Int) == 117) || (c.toNat : Int) == 120) || (c.toNat : Int) == 111) || (c.toNat : Int) == 99) || (c.toNat : Int) == 115) || ((c.toNat : Int) == 37 && a == 1)) := by
    unfold sv
    rw [← u8_int c 100, ← u8_int c 117, ← u8_int c 120, ← u8_int c 111, ← u8_int c 99, ← u8_int c 115, ← u8_int c 37]
    rfl
  rw [h]
  clear h
  generalize (c.toNat : Int) = x
  rcases (show (x = 100 ∨ x = 117 ∨ x = 120 ∨ x = 111 ∨ x = 99 ∨ x = 115) ∨ (x ≠ 100 ∧ x ≠ 117 ∧ x ≠ 120 ∧ x ≠ 111 ∧ x ≠ 99 ∧ x ≠ 115) by omega) with h | ⟨h1, h2, h3, h4, h5, h6⟩
  · rcases h with rfl | rfl | rfl | rfl | rfl | rfl
    all_goals
      go_enter Tryz.func74, Tryz.ntmps74
      go_wp2
      go_ret
      exact ⟨rfl, rfl⟩
  · have h1' : (x == 100) = false := by simpa using h1
    have h2' : (x == 117) = false := by simpa using h2
    have h3' : (x == 120) = false := by simpa using h3
    have h4' : (x == 111) = false := by simpa using h4
    have h5' : (x == 99) = false := by simpa using h5
    have h6' : (x == 115) = false := by simpa using h6
    by_cases h7 : x = 37
    · subst h7
      go_enter Tryz.func74, Tryz.ntmps74
      go_wp2
      go_ret
      exact ⟨by simp, rfl⟩
    · have h7' : (x == 37) = false := by simpa using h7
      go_enter Tryz.func74, Tryz.ntmps74
      go_wp2
      go_ret
      exact ⟨by simp [h1', h2', h3', h4', h5', h6', h7'], rfl⟩
end Go.Proofs.YtcmfpafcipgejaaGreatDoor

/- Scan: whether bytes are as many as must be; what they become. -/
namespace Go.Proofs.YtcmfpafcipgejaaGreatDoor
open Go.RowKit
set_option maxHeartbeats 1000000 in
theorem hasLeast_any (a : Option Addr) (cp : Nat) (l : List UInt8) (v : UInt8) (w : World) (h : Bys w (.slice a l.length cp) l) :
    Calls Tryz.prog 101 #[.slice a l.length cp, .int .u8 (v.toNat : Int)] w fun e w' => e = .returned (.bool (leastV l v)) ∧ w = w' := by
  by_cases h1 : v.toNat = 100 ∧ l.length = 1
  · have hm : leastV l v = !isSg (l.getD 0 0) := by unfold leastV; rw [if_pos h1]
    rw [hm]
    obtain ⟨h1, h2⟩ := h1
    have ev : ((v.toNat : Int) == 100) = true := by simp; omega
    obtain ⟨-, qb, qo, rfl, hqb, hc⟩ := bys_block h (by omega)
    have hc0 := hc 0 (by omega)
    rw [Nat.add_zero] at hc0
    have e2 : ((l.length : Int) == 1) = true := by simp [h2]
    have e3 : (0 : Int) < (l.length : Int) := by omega
    have e3' : 0 < l.length := by omega
    have HS := hide (isSign_any (l.getD 0 0) w)
    generalize l.getD 0 0 = ch at *
    generalize isSg ch = sg at *
    clear h hc hm h1 h2
    cases sg
    all_goals
      go_enter Tryz.func101, Tryz.ntmps101
      go_wp2_with fail
      refine HS.out.mono ?_
      rintro _ _ ⟨rfl, rfl⟩
      go_wp2
      go_ret
      exact ⟨rfl, rfl⟩
  · have hm : leastV l v = decide (0 < l.length) := by unfold leastV; rw [if_neg h1]
    rw [hm]
    by_cases h2 : v.toNat = 100
    · have h3 : ¬ l.length = 1 := fun e => h1 ⟨h2, e⟩
      have e2 : ((l.length : Int) == 1) = false := by simp; omega
      have ev : ((v.toNat : Int) == 100) = true := by simp; omega
      clear h hm h1 h2
      go_enter Tryz.func101, Tryz.ntmps101
      go_wp2
      go_ret
      exact ⟨rfl, rfl⟩
    · have ev : ((v.toNat : Int) == 100) = false := by simp; omega
      clear h hm h1 h2
      go_enter Tryz.func101, Tryz.ntmps101
      go_wp2
      go_ret
      exact ⟨rfl, rfl⟩
def IntL (l : List UInt8) : Prop := ∃ sg ds, (sg = [] ∨ ∃ c, isSg c = true ∧ sg = [c]) ∧ l = sg ++ ds ∧ Dgs ds ∧ ds ≠ []
set_option maxRecDepth 100000 in
set_option maxHeartbeats 4000000 in
theorem valued_any (s : ByteArray) (v : UInt8) (w : World) (hs : s.size ≤ 4096) (hi : v.toNat = 100 → IntL s.data.toList) :
    Calls Tryz.prog 102 #[.string s, .int .u8 (v.toNat : Int)] w fun e w' => e = .returned (pairV (worthV s.data.toList v)) ∧ Below w.heap.size w w' := by
  have HA := ArgB.new w
  have HB0 := hide (fm_below w (Obj.cells #[.int .i64 0, .int .i64 0, .int .u64 0, .string ByteArray.empty] 42))
  by_cases h1 : v.toNat = 115
  · have e1 : (v.toNat : Int) = 115 := by omega
    have hw : worthV s.data.toList v = (⟨4, 0, 0, s⟩, 0) := by unfold worthV; rw [if_pos h1]
    rw [hw, e1]
    have HA1 := hide HA
    clear h1 e1 hw hi HA
    go_enter Tryz.func102, Tryz.ntmps102
    go_wp2_with fail
    refine (ftext_any s _).mono ?_
    rintro _ w2 ⟨rfl, hB⟩
    have HA2 := HA1.out.below hB
    have HB2 := hide (HB0.out.trans (hB.mono HB0.out.size))
    have HA2' := hide HA2
    have k0 := HA2.ah.c0
    have k1 := HA2.ah.c1
    have k2 := HA2.ah.c2
    have k3 := HA2.ah.c3
    have f0 := HA2.soft
    clear hB HA2
    unfold agV
    go_wp2
    refine bodyPost_ret (res_agp rfl _ w.heap.size rfl (HA2'.out.fill 4 0 0 s)) rfl ?_
    exact ⟨rfl, four_below HB2.out (Nat.le_refl _) _ _ _ _⟩
  · have n1 : ((v.toNat : Int) == 115) = false := by simp; omega
    by_cases h2 : v.toNat = 100
    · have e1 : (v.toNat : Int) = 100 := by omega
      obtain ⟨sg, ds, i1, i2, i3, i4⟩ := hi h2
      have HV := hide (fun W => valuedInt_any s W hs i2 i1 i3 i4)
      have hw : worthV s.data.toList v = intA (intV s.data.toList) := by unfold worthV; rw [if_neg h1, if_pos h2]
      rw [hw, e1]
      generalize intA (intV s.data.toList) = A at *
      obtain ⟨⟨ka, ia, ua, ta⟩, ea⟩ := A
      have HA1 := hide HA
      clear h1 h2 n1 e1 hw hi HA i1 i2 i3 i4
      go_enter Tryz.func102, Tryz.ntmps102
      go_wp2_with fail
      refine (HV.out _).mono ?_
      rintro _ w2 ⟨rfl, hB⟩
      have HA2 := HA1.out.below hB
      have HB2 := hide (HB0.out.trans (hB.mono HB0.out.size))
      have HA2' := hide HA2
      have k0 := HA2.ah.c0
      have k1 := HA2.ah.c1
      have k2 := HA2.ah.c2
      have k3 := HA2.ah.c3
      have f0 := HA2.soft
      clear hB HA2
      unfold pairV agV
      go_wp2
      refine bodyPost_ret (res_agp rfl _ w.heap.size rfl (HA2'.out.fill ka ia ua ta)) rfl ?_
      exact ⟨rfl, four_below HB2.out (Nat.le_refl _) _ _ _ _⟩
    · have n2 : ((v.toNat : Int) == 100) = false := by simp; omega
      have HBo := hide (fun W => baseOf_any v W)
      have HP := hide (fun W => parseBase_any s (baseS v : Int) W (by unfold maxLen; omega))
      have hw : worthV s.data.toList v = if (parseB (baseS v) s.data.toList).2.1 ≠ 0 then (ag0, 181) else (⟨2, 0, (parseB (baseS v) s.data.toList).1, ⟨#[]⟩⟩, 0) := by unfold worthV; rw [if_neg h1, if_neg h2]
      rw [hw]
      generalize parseB (baseS v) s.data.toList = P at *
      obtain ⟨p1, p2, p3⟩ := P
      have HA1 := hide HA
      simp only at HP ⊢
      clear h1 h2 hw hi HA
      by_cases he : p2 = 0
      · subst he
        rw [if_neg (by simp)]
        go_enter Tryz.func102, Tryz.ntmps102
        go_wp2_with fail
        refine (HBo.out _).mono ?_
        rintro _ _ ⟨rfl, rfl⟩
        go_wp2_with fail
        refine (HP.out _).mono ?_
        rintro _ _ ⟨rfl, rfl⟩
        go_wp2_with fail
        refine (fuint_any p1 _).mono ?_
        rintro _ w2 ⟨rfl, hB⟩
        have HA2 := HA1.out.below hB
        have HB2 := hide (HB0.out.trans (hB.mono HB0.out.size))
        have HA2' := hide HA2
        have k0 := HA2.ah.c0
        have k1 := HA2.ah.c1
        have k2 := HA2.ah.c2
        have k3 := HA2.ah.c3
        have f0 := HA2.soft
        clear hB HA2
        unfold agV
        go_wp2
        refine bodyPost_ret (res_agp rfl _ w.heap.size rfl (HA2'.out.fill 2 0 p1 ⟨#[]⟩)) rfl ?_
        exact ⟨rfl, four_below HB2.out (Nat.le_refl _) _ _ _ _⟩
      · rw [if_pos he]
        have he' : (p2 == 0) = false := by simp [he]
        have he2 : (p2 != 0) = true := by simp [he]
        have k0 := HA1.out.ah.c0
        have k1 := HA1.out.ah.c1
        have k2 := HA1.out.ah.c2
        have k3 := HA1.out.ah.c3
        have f0 := HA1.out.soft
        go_enter Tryz.func102, Tryz.ntmps102
        go_wp2_with fail
        refine (HBo.out _).mono ?_
        rintro _ _ ⟨rfl, rfl⟩
        go_wp2_with fail
        refine (HP.out _).mono ?_
        rintro _ _ ⟨rfl, rfl⟩
        go_wp2
        refine bodyPost_ret (res_agp rfl _ w.heap.size rfl HA1.out) rfl ?_
        exact ⟨rfl, HB0.out⟩
end Go.Proofs.YtcmfpafcipgejaaGreatDoor

/- Scan: a word or number, and bytes, as they are read. -/
namespace Go.Proofs.YtcmfpafcipgejaaGreatDoor
open Go.RowKit
theorem tri (w : World) (a b c : Obj) : Below w.heap.size w (((w.alloc a).alloc b).alloc c) ∧ (((w.alloc a).alloc b).alloc c).heap.size = w.heap.size + 1 + 1 + 1 ∧ (((w.alloc a).alloc b).alloc c).heap[w.heap.size]? = some a ∧ (((w.alloc a).alloc b).alloc c).heap[w.heap.size + 1]? = some b ∧ (((w.alloc a).alloc b).alloc c).heap[w.heap.size + 1 + 1]? = some c := by
  have z1 : (w.alloc a).heap.size = w.heap.size + 1 := Array.size_push ..
  have z2 : ((w.alloc a).alloc b).heap.size = w.heap.size + 1 + 1 := by rw [← z1]; exact Array.size_push ..
  have z3 : (((w.alloc a).alloc b).alloc c).heap.size = w.heap.size + 1 + 1 + 1 := by rw [← z2]; exact Array.size_push ..
  have b1 := fm_below w a
  have b2 := fm_below (w.alloc a) b
  have b3 := fm_below ((w.alloc a).alloc b) c
  have k1 := heap_alloc_new w a
  have k2 := heap_alloc_new (w.alloc a) b
  have k3 := heap_alloc_new ((w.alloc a).alloc b) c
  rw [z1] at k2
  rw [z2] at k3
  exact ⟨(b1.trans (b2.mono (by omega))).trans (b3.mono (by omega)), z3, (b3.block w.heap.size (by omega)).trans ((b2.block w.heap.size (by omega)).trans k1), (b3.block (w.heap.size + 1) (by omega)).trans k2, k3⟩
structure RPc (W : World) (g : Nat) (T : TypeId) (v : Value) (p : Pt) : Prop where
  c0 : W.cell? ⟨g, 0, none⟩ = some (.iface T v)
  p0 : W.cell? ⟨g + 1, 0, none⟩ = some (.int .u8 (p.verb.toNat : Int))
  p1 : W.cell? ⟨g + 1, 1, none⟩ = some (.int .u8 (p.want.toNat : Int))
  p2 : W.cell? ⟨g + 1, 2, none⟩ = some (.bool p.quiet)
  p3 : W.cell? ⟨g + 1, 3, none⟩ = some (.int .i64 (p.wd : Int))
  p4 : W.cell? ⟨g + 1, 4, none⟩ = some (.int .i64 (p.len : Int))
structure RPb (W : World) (g : Nat) (T : TypeId) (v : Value) (p : Pt) : Prop where
  b0 : W.heap[g]? = some (Obj.cells #[.iface T v] 70)
  b1 : W.heap[g + 1]? = some (Obj.cells #[.int .u8 (p.verb.toNat : Int), .int .u8 (p.want.toNat : Int), .bool p.quiet, .int .i64 (p.wd : Int), .int .i64 (p.len : Int)] 80)
theorem RPb.cs {W : World} {g : Nat} {T : TypeId} {v : Value} {p : Pt} (h : RPb W g T v p) : RPc W g T v p := ⟨cell_of_row W g 0 _ _ _ h.b0, cell_of_row W (g + 1) 0 _ _ _ h.b1, cell_of_row W (g + 1) 1 _ _ _ h.b1, cell_of_row W (g + 1) 2 _ _ _ h.b1, cell_of_row W (g + 1) 3 _ _ _ h.b1, cell_of_row W (g + 1) 4 _ _ _ h.b1⟩
theorem RPb.keep {W W' : World} {g : Nat} {T : TypeId} {v : Value} {p : Pt} (h : RPb W g T v p) (hB : Below W.heap.size W W') : RPb W' g T v p := ⟨(hB.block g (Array.getElem?_eq_some_iff.1 h.b0).1).trans h.b0, (hB.block (g + 1) (Array.getElem?_eq_some_iff.1 h.b1).1).trans h.b1⟩
theorem rp_keep {w w0 W : World} {T : TypeId} {v : Value} {p : Pt} {O : Nat → Prop} (hz : w0.heap.size = w.heap.size + 1 + 1 + 1) (hO : ∀ j, O j → j < w.heap.size) (h : RPb w0 w.heap.size T v p) (hT : Turned (fun k => O k ∨ w0.heap.size ≤ k) w0 W) : RPb W w.heap.size T v p :=
  ⟨(hT.block _ (by omega) (fun e => e.elim (fun e => by have := hO _ e; omega) (fun e => by omega))).trans h.b0, (hT.block _ (by omega) (fun e => e.elim (fun e => by have := hO _ e; omega) (fun e => by omega))).trans h.b1⟩
theorem arg_keep {w w0 W : World} {O : Nat → Prop} (hz : w0.heap.size = w.heap.size + 1 + 1 + 1) (hO : ∀ j, O j → j < w.heap.size) (h : ArgB w0 (w.heap.size + 1 + 1) ag0) (hT : Turned (fun k => O k ∨ w0.heap.size ≤ k) w0 W) : ArgB W (w.heap.size + 1 + 1) ag0 :=
  (hT.block _ (by omega) (fun e => e.elim (fun e => by have := hO _ e; omega) (fun e => by omega))).trans h
theorem sstep_over {S : Type} {At : World → (Nat → Prop) → S → Prop} {w0 w1 : World} {O : Nat → Prop} {s1 : S} (h : SStep At none_ w0 O s1 w1) : ∃ O1, At w1 O1 s1 ∧ (∀ j, O1 j → j < w1.heap.size) ∧ (∀ k, O1 k → O k ∨ w0.heap.size ≤ k) ∧ Turned (fun k => O k ∨ w0.heap.size ≤ k) w0 w1 := by
  obtain ⟨O1, a, b, c, d⟩ := h
  exact ⟨O1, a, b, c, d.mono (fun k e => e.elim .inl (fun e => e.elim))⟩
theorem fit_in {S : Type} {K : Nat → Prop} {At : World → (Nat → Prop) → S → Prop} {f : Bool → UInt8 → Bool × Bool} {ff : FuncId} {caps : Array Value} {F FK : Nat → Prop} {FAt : World → Bool → Prop} (_M : FitM f ff caps F FK FAt) {w5 w6 : World} {O : Nat → Prop} {s : S} (hFz : ∀ j, F j ∨ FK j → w5.heap.size ≤ j ∧ j < w6.heap.size) (hFK : ∀ j, FK j → ¬ F j) (hF : FAt w6 false) (h : At w6 O s) (hO : ∀ j, O j → j < w5.heap.size) (hK : ∀ j, K j → j < w5.heap.size) (hz : w5.heap.size ≤ w6.heap.size) : JAt At K FAt F FK w6 O s false :=
  ⟨h, hF, fun j e => ⟨(hFz j (.inl e)).2, fun e2 => by have := (hFz j (.inl e)).1; have := hO j e2; omega, fun e2 => by have := (hFz j (.inl e)).1; have := hK j e2; omega⟩, fun j e => ⟨(hFz j (.inr e)).2, fun e2 => by have := (hFz j (.inr e)).1; have := hO j e2; omega⟩, hFK, fun j e => Nat.lt_of_lt_of_le (hO j e) hz⟩
theorem gstep_over {S : Type} {At : World → (Nat → Prop) → S → Prop} {F : Nat → Prop} {w0 w1 w6 w7 : World} {O O1 : Nat → Prop} {s2 : S} {u : Value} {l : List UInt8} (h01 : w0.heap.size ≤ w1.heap.size) (hO1 : ∀ k, O1 k → O k ∨ w0.heap.size ≤ k) (hT : Turned (fun k => O k ∨ w0.heap.size ≤ k) w0 w1) (hB : Below w1.heap.size w1 w6) (hF : ∀ j, F j → w1.heap.size ≤ j) (h : GStep At F w6 O1 s2 u l w7) : (∃ O2, At w7 O2 s2 ∧ (∀ j, O2 j → j < w7.heap.size) ∧ (∀ k, O2 k → O k ∨ w0.heap.size ≤ k) ∧ Bys w7 u l) ∧ Turned (fun k => O k ∨ w0.heap.size ≤ k) w0 w7 := by
  obtain ⟨O2, ⟨a, b, c, d⟩, e, f⟩ := h
  have hz := hB.size
  refine ⟨⟨O2, a, b, fun k e => (c k e).elim (hO1 k) (fun e => .inr (by omega)), Bys.of_owns e⟩, (hT.trans (Turned.of_below (S := fun _ => False) hB) (fun _ _ e => e.elim)).trans d (fun k hk e => e.elim (hO1 k) (fun e => by have := hF k e; exact .inr (by omega)))⟩
theorem fin_set {S : Type} {D : SrcD S} {T : TypeId} {v : Value} {fn fb : FuncId} {K : Nat → Prop} {At : World → (Nat → Prop) → S → Prop} (R : SrcM D T v fn fb K At) {w w0 W : World} {O O2 : Nat → Prop} {s2 : S} (hB0 : Below w.heap.size w w0) (hz : w0.heap.size = w.heap.size + 1 + 1 + 1) (hO : ∀ j, O j → j < w.heap.size) (hK : ∀ j, K j → j < w.heap.size) (hA : At W O2 s2) (os : ∀ j, O2 j → j < W.heap.size) (ho : ∀ k, O2 k → O k ∨ w0.heap.size ≤ k) (hT : Turned (fun k => O k ∨ w0.heap.size ≤ k) w0 W) (a b c d : Value) : SStep At none_ w O s2 ((((W.setCell ⟨w.heap.size + 1 + 1, 0, none⟩ a).setCell ⟨w.heap.size + 1 + 1, 1, none⟩ b).setCell ⟨w.heap.size + 1 + 1, 2, none⟩ c).setCell ⟨w.heap.size + 1 + 1, 3, none⟩ d) := by
  have t1 := four_set (Turned.refl (fun k => k = w.heap.size + 1 + 1) W) (.inl rfl) a b c d
  have hne : ∀ j, O2 j ∨ K j → ¬ j = w.heap.size + 1 + 1 := fun j e e2 => e.elim (fun e => (ho j e).elim (fun e => by have := hO j e; omega) (fun e => by omega)) (fun e => by have := hK j e; omega)
  refine ⟨O2, R.keep hA (fun j e hl => t1.block j hl (hne j e)) t1.size, fun j e => Nat.lt_of_lt_of_le (os j e) t1.size, fun k e => (ho k e).imp id (fun e => by omega), ?_⟩
  refine ((Turned.of_below (S := fun k => O k ∨ none_ k) hB0).trans hT (fun k hk e => e.elim .inl (fun e => by have := hB0.size; omega))).trans t1 (fun k hk e => by omega)
theorem sbys_string {W : World} {v : Value} {l : List UInt8} (h : Bys W v l) : (convert 22 9 v).run Tryz.prog W = .ok (.string ⟨l.toArray⟩) W := by
  rcases h with ⟨rfl, rfl⟩ | ⟨a, cap, rfl, rfl⟩ | ⟨b, off, cap, rfl, h0, hc⟩
  · exact run_convert_bytes_nil W 22 5 Tryz.underlying22 Tryz.underlying5 0 0 _ Tryz.underlying9
  · exact run_convert_bytes_back W 22 9 5 a cap [] Tryz.underlying22 Tryz.underlying5 Tryz.underlying9 fun j hj => absurd hj (Nat.not_lt_zero j)
  · refine run_convert_bytes_back W 22 9 5 ⟨b, off, none⟩ cap l Tryz.underlying22 Tryz.underlying5 Tryz.underlying9 fun j hj => ?_
    have hadd : (⟨b, off, none⟩ : Addr).add j = ⟨b, off + j, none⟩ := by unfold Addr.add; split <;> simp_all
    rw [hadd, hc j hj, List.getD_eq_getElem?_getD, List.getElem?_eq_getElem hj]
    rfl
theorem sgather_is {S : Type} {D : SrcD S} {T : TypeId} {v : Value} {fn fb : FuncId} {K : Nat → Prop} {At : World → (Nat → Prop) → S → Prop} (R : SrcM D T v fn fb K At) {f : Bool → UInt8 → Bool × Bool} {ff : FuncId} {caps : Array Value} {F FK : Nat → Prop} {FAt : World → Bool → Prop} (M : FitM f ff caps F FK FAt) {w : World} {O : Nat → Prop} {s : S} {q : Bool} (n : Nat) (hn : n ≤ 4096) (hK : ∀ j, K j → j < w.heap.size) (h : JAt At K FAt F FK w O s q) {l : List UInt8} {e0 : Int} {s2 : S} (hQ : gatV D f n s q [] = ((l, e0), s2)) :
    Calls Tryz.prog 96 #[.agg #[.iface T v], .int .i64 (n : Int), .func (.func ff) #[] caps] w fun e w' => ∃ u, e = .returned (.tuple #[u, .int .i64 e0]) ∧ GStep At F w O s2 u l w' := by
  have := sgather_any R M n hn hK h
  rw [hQ] at this
  exact this
theorem sfilled_is {S : Type} {D : SrcD S} {T : TypeId} {v : Value} {fn fb : FuncId} {K : Nat → Prop} {At : World → (Nat → Prop) → S → Prop} (R : SrcM D T v fn fb K At) {f : Bool → UInt8 → Bool × Bool} {ff : FuncId} {caps : Array Value} {F FK : Nat → Prop} {FAt : World → Bool → Prop} (M : FitM f ff caps F FK FAt) {w : World} {O : Nat → Prop} {s : S} (n : Nat) (hn : n ≤ 4096) (hK : ∀ j, K j → j < w.heap.size) (h : JAt At K FAt F FK w O s false) {l : List UInt8} {e0 : Int} {s2 : S} (hQ : filV D f n s = ((l, e0), s2)) :
    Calls Tryz.prog 61 #[.agg #[.iface T v], .int .i64 (n : Int), .func (.func ff) #[] caps] w fun e w' => ∃ u, e = .returned (.tuple #[u, .int .i64 e0]) ∧ GStep At F w O s2 u l w' := by
  have := sfilled_any R M n hn hK h
  rw [hQ] at this
  exact this
theorem gat_int {S : Type} (D : SrcD S) {vb : UInt8} (hv : vb.toNat = 100) : ∀ (n : Nat) (s : S) (q : Bool) (acc : List UInt8), (q = false → acc = []) → (∃ sg ds, (sg = [] ∨ ∃ c, isSg c = true ∧ sg = [c]) ∧ acc = sg ++ ds ∧ Dgs ds) → ∃ sg ds, (sg = [] ∨ ∃ c, isSg c = true ∧ sg = [c]) ∧ (gatV D (fitV vb) n s q acc).1.1 = sg ++ ds ∧ Dgs ds
  | 0, _, _, _, _, h => h
  | n + 1, s, q, acc, hq, h => by
    obtain ⟨c, b, e, s', q', hx⟩ : ∃ c b e s' q', oneV D (fitV vb) s q = ((c, b, e), s', q') := ⟨_, _, _, _, _, rfl⟩
    cases b
    · rw [gatV_no D _ n s q acc hx]; exact h
    · rw [gatV_yes D _ n s q acc hx]
      unfold oneV at hx
      split at hx
      · split at hx
        · rename_i h1 h2
          rw [fit_d hv] at h2 hx
          cases hx
          refine gat_int D hv n _ _ _ (fun e => by cases e) ?_
          generalize (D.next s).1 = ch at *
          simp only [Bool.or_eq_true, Bool.and_eq_true, Bool.not_eq_true'] at h2
          rcases h2 with ⟨h3, h4⟩ | h3
          · rw [hq h3]
            exact ⟨[ch], [], .inr ⟨ch, h4, rfl⟩, rfl, fun _ e => by cases e⟩
          · obtain ⟨sg, ds, g1, g2, g3⟩ := h
            exact ⟨sg, ds ++ [ch], g1, by rw [g2, List.append_assoc], fun a ha => (List.mem_append.1 ha).elim (g3 a) (fun e => by rw [List.mem_singleton.1 e]; exact (dig10 ch).1 h3)⟩
        · cases hx
      · cases hx
theorem least_int {l : List UInt8} {vb : UInt8} (hv : vb.toNat = 100) (h : ∃ sg ds, (sg = [] ∨ ∃ c, isSg c = true ∧ sg = [c]) ∧ l = sg ++ ds ∧ Dgs ds) (hl : leastV l vb = true) : IntL l := by
  obtain ⟨sg, ds, h1, h2, h3⟩ := h
  refine ⟨sg, ds, h1, h2, h3, fun e => ?_⟩
  subst e
  rw [List.append_nil] at h2
  subst h2
  unfold leastV at hl
  rcases h1 with rfl | ⟨c, hc, rfl⟩
  · simp at hl
  · rw [if_pos ⟨hv, rfl⟩] at hl
    rw [show ([c] : List UInt8).getD 0 0 = c from rfl, hc] at hl
    cases hl
set_option linter.unusedSimpArgs false in
set_option maxRecDepth 100000 in
set_option maxHeartbeats 8000000 in
theorem word_any {S : Type} {D : SrcD S} {T : TypeId} {v : Value} {fn fb : FuncId} {K : Nat → Prop} {At : World → (Nat → Prop) → S → Prop} (R : SrcM D T v fn fb K At) {w : World} {O : Nat → Prop} {s : S} (p : Pt) (N : Nat) {e0 : Int} {s1 : S} (hK : ∀ j, K j → j < w.heap.size) (h : At w O s) (hO : ∀ j, O j → j < w.heap.size) (hp : passV D N s = some (e0, s1)) (hm : p.most ≤ 4096) :
    Calls Tryz.prog 64 #[.agg #[.iface T v], ptV p] w fun e w' => e = .returned (pairV (if e0 ≠ 0 then ((ag0, e0), s1) else wordV D p s1).1) ∧ SStep At none_ w O (if e0 ≠ 0 then ((ag0, e0), s1) else wordV D p s1).2 w' := by
  obtain ⟨RR, hR⟩ : ∃ RR, RR = if e0 ≠ 0 then ((ag0, e0), s1) else wordV D p s1 := ⟨_, rfl⟩
  rw [← hR]
  have HR := hide hR
  obtain ⟨t1, t2, t3, t4, t5⟩ := tri w (Obj.cells #[.iface T v] 70) (Obj.cells #[.int .u8 (p.verb.toNat : Int), .int .u8 (p.want.toNat : Int), .bool p.quiet, .int .i64 (p.wd : Int), .int .i64 (p.len : Int)] 80) (Obj.cells #[.int .i64 0, .int .i64 0, .int .u64 0, .string (⟨#[]⟩ : ByteArray)] 42)
  have HX := hide (spass_any R N (R.keep h (fun j _ hl => t1.block j hl) t1.size) (fun j e => Nat.lt_of_lt_of_le (hO j e) t1.size) hp)
  have c0 := cell_of_row (((w.alloc (Obj.cells #[.iface T v] 70)).alloc (Obj.cells #[.int .u8 (p.verb.toNat : Int), .int .u8 (p.want.toNat : Int), .bool p.quiet, .int .i64 (p.wd : Int), .int .i64 (p.len : Int)] 80)).alloc (Obj.cells #[.int .i64 0, .int .i64 0, .int .u64 0, .string (⟨#[]⟩ : ByteArray)] 42)) w.heap.size 0 _ _ _ t3
  simp only [List.getElem?_toArray, List.getElem?_cons_zero] at c0
  have HO := hide hO
  have HK0 := hide hK
  unfold ptV
  have HW := hide (And.intro t1 (And.intro t2 (And.intro (RPb.mk (T := T) (v := v) (p := p) t3 t4) (show ArgB (((w.alloc (Obj.cells #[.iface T v] 70)).alloc (Obj.cells #[.int .u8 (p.verb.toNat : Int), .int .u8 (p.want.toNat : Int), .bool p.quiet, .int .i64 (p.wd : Int), .int .i64 (p.len : Int)] 80)).alloc (Obj.cells #[.int .i64 0, .int .i64 0, .int .u64 0, .string (⟨#[]⟩ : ByteArray)] 42)) (w.heap.size + 1 + 1) ag0 from t5))))
  clear h hK hO hp t1 t2 t3 t4 t5 hR
  go_enter Tryz.func64, Tryz.ntmps64
  go_wp2_with fail
  generalize (((w.alloc (Obj.cells #[.iface T v] 70)).alloc (Obj.cells #[.int .u8 (p.verb.toNat : Int), .int .u8 (p.want.toNat : Int), .bool p.quiet, .int .i64 (p.wd : Int), .int .i64 (p.len : Int)] 80)).alloc (Obj.cells #[.int .i64 0, .int .i64 0, .int .u64 0, .string (⟨#[]⟩ : ByteArray)] 42)) = w0 at *
  refine HX.out.mono ?_
  rintro _ w1 ⟨rfl, hS⟩
  obtain ⟨O1, hS1⟩ := sstep_over hS
  have HS1 := hide hS1
  have HBl := hide (And.intro (rp_keep HW.out.2.1 HO.out HW.out.2.2.1 HS1.out.2.2.2) (And.intro HS1.out.2.2.2.size (And.intro HW.out.2.1 HW.out.2.2.1)))
  have HA1 := hide (arg_keep HW.out.2.1 HO.out HW.out.2.2.2 HS1.out.2.2.2)
  have HKs := hide (fun j (e : K j) => (by have := HK0.out j e; have := HW.out.2.1; have := HBl.out.2.1; omega : j < w1.heap.size))
  clear hS hS1 HX c0
  by_cases he : e0 = 0
  · subst he
    obtain ⟨l, e, s2, hQ⟩ : ∃ l e s2, gatV D (fitV p.verb) p.most s1 false [] = ((l, e), s2) := ⟨_, _, _, rfl⟩
    have hre : RR = wordV D p s1 := HR.out.trans (if_neg (by simp))
    unfold wordV at hre
    rw [hQ] at hre
    simp only at hre
    have hlen := gatV_len D (fitV p.verb) p.most s1 false []
    rw [hQ] at hlen
    simp only [List.length_nil, Nat.zero_add] at hlen
    have hint : p.verb.toNat = 100 → leastV l p.verb = true → IntL l := fun hv hl => by
      have := gat_int D hv p.most s1 false [] (fun _ => rfl) ⟨[], [], .inl rfl, rfl, fun _ e => by cases e⟩
      rw [hQ] at this
      exact least_int hv this hl
    have HInt := hide hint
    have HRe := hide hre
    have HLen := hide hlen
    have HQ := hide hQ
    clear HR hQ hre hlen hint
    go_wp2_with fail
    refine wp_region_noPanic ?_
    refine wp_region_held_drew (S := fun W => RPc W w.heap.size T v p) (by kernel_rfl) ((HBl.out.1.keep (Below.refl _ _).drew).cs) (fun hHeld => ?_)
    refine wpAnyH_take (i := 0) (oi := ?_) (v := ?_) ?_ (by kernel_rfl) (by kernel_rfl) (by kernel_rfl) (fun _ _ _ h => (h : False).elim) (Or.inl ⟨?_, ?_⟩) hHeld ?_
    rotate_left 2
    · (simp only [List.getElem?_toArray, List.getElem?_cons_zero]; rfl)
    · rfl
    · (intro W hSw; obtain ⟨m0, m1, m2, m3, m4, m5⟩ := hSw; go_simp <;> with_reducible rfl)
    try simp only [Act.put, List.setIfInBounds_toArray, List.set_cons_zero, List.set_cons_succ]
    refine wpAnyH_take (i := 1) (oi := ?_) (v := ?_) ?_ (by kernel_rfl) (by kernel_rfl) (by kernel_rfl) (fun _ _ _ h => (h : False).elim) (Or.inl ⟨?_, ?_⟩) hHeld ?_
    rotate_left 2
    · (simp only [List.getElem?_toArray, List.getElem?_cons_zero, List.getElem?_cons_succ]; rfl)
    · rfl
    · (intro W hSw; obtain ⟨m0, m1, m2, m3, m4, m5⟩ := hSw; go_simp <;> with_reducible rfl)
    try simp only [Act.put, List.setIfInBounds_toArray, List.set_cons_zero, List.set_cons_succ]
    refine wpAnyH_take (i := 3) (oi := ?_) (v := ?_) ?_ (by kernel_rfl) (by kernel_rfl) (by kernel_rfl) (fun _ _ _ h => (h : False).elim) (Or.inl ⟨?_, ?_⟩) hHeld ?_
    rotate_left 2
    · (simp only [List.getElem?_toArray, List.getElem?_cons_zero, List.getElem?_cons_succ]; rfl)
    · rfl
    · (intro W hSw; obtain ⟨m0, m1, m2, m3, m4, m5⟩ := hSw; go_simp <;> with_reducible rfl)
    try simp only [Act.put, List.setIfInBounds_toArray, List.set_cons_zero, List.set_cons_succ]
    refine wpAnyH_take (i := 4) (oi := ?_) (v := ?_) ?_ (by kernel_rfl) (by kernel_rfl) (by kernel_rfl) (fun _ _ _ h => (h : False).elim) (Or.inl ⟨?_, ?_⟩) hHeld ?_
    rotate_left 2
    · (simp only [List.getElem?_toArray, List.getElem?_cons_zero, List.getElem?_cons_succ]; rfl)
    · rfl
    · (intro W hSw; obtain ⟨m0, m1, m2, m3, m4, m5⟩ := hSw; go_simp <;> with_reducible rfl)
    try simp only [Act.put, List.setIfInBounds_toArray, List.set_cons_zero, List.set_cons_succ]
    refine wpAnyH_ready (rs := [2]) (by kernel_rfl) (by simp) ?_
    refine AllReadyH.cons (o := ?_) ?_ (fun K' hK => ?_) AllReadyH.nil
    rotate_left 1
    · (simp only [List.getElem?_toArray, List.getElem?_cons_zero, List.getElem?_cons_succ]; rfl)
    go_simp
    refine (most_any p _).mono ?_; rintro _ w5 ⟨rfl, hw5⟩; have hB5 : Below w1.heap.size w1.drew w5 := by { rw [hw5]; exact fm_below w1.drew _ }; have HB5 := hide ((Below.refl _ w1).drew.trans hB5); clear hw5 hB5
    refine hK.out _ _ ((HBl.out.1.keep HB5.out).cs) (fun hHeld2 => ?_)
    clear hK K' hHeld
    have hHeld := hHeld2
    clear hHeld2
    try simp only [Act.put, List.setIfInBounds_toArray, List.set_cons_zero, List.set_cons_succ]
    refine wpAnyH_ready (rs := [5]) (by kernel_rfl) (by simp) ?_
    refine AllReadyH.cons (o := ?_) ?_ (fun K' hK => ?_) AllReadyH.nil
    rotate_left 1
    · (simp only [List.getElem?_toArray, List.getElem?_cons_zero, List.getElem?_cons_succ]; rfl)
    go_simp
    refine (fitting_any p.verb _).mono ?_; rintro _ w6 ⟨_, rfl, hB6, ff, caps, F, FK, FAt, rfl, hM, hF, hFz, hFK⟩; have HB6 := hide (HB5.out.trans (hB6.mono HB5.out.size))
    have HJ6 := hide (fit_in hM hFz hFK hF (R.keep HS1.out.1 (fun j _ hl => HB6.out.block j hl) HB6.out.size) (fun j e => Nat.lt_of_lt_of_le (HS1.out.2.1 j e) HB5.out.size) (fun j e => Nat.lt_of_lt_of_le (HKs.out j e) HB5.out.size) hB6.size)
    have HM6 := hide hM
    have HFz := hide (fun j (e : F j) => Nat.le_trans HB5.out.size (hFz j (.inl e)).1)
    have HKs6 := hide (fun j (e : K j) => Nat.lt_of_lt_of_le (HKs.out j e) HB6.out.size)
    clear hM hFz hFK hF hB6
    refine hK.out _ _ ((HBl.out.1.keep HB6.out).cs) (fun hHeld2 => ?_)
    clear hK K' hHeld
    have hHeld := hHeld2
    clear hHeld2
    try simp only [Act.put, List.setIfInBounds_toArray, List.set_cons_zero, List.set_cons_succ]
    refine wpAnyH_ready (rs := [6]) (by kernel_rfl) (by simp) ?_
    refine AllReadyH.cons (o := ?_) ?_ (fun K' hK => ?_) AllReadyH.nil
    rotate_left 1
    · (simp only [List.getElem?_toArray, List.getElem?_cons_zero, List.getElem?_cons_succ]; rfl)
    go_simp
    refine (sgather_is R HM6.out p.most hm HKs6.out HJ6.out HQ.out).mono ?_; rintro _ w7 ⟨u, rfl, hG⟩
    have HG7 := hide (gstep_over HBl.out.2.1 HS1.out.2.2.1 HS1.out.2.2.2 HB6.out HFz.out hG)
    clear hG HM6 HJ6
    refine hK.out _ _ ((rp_keep HBl.out.2.2.1 HO.out HBl.out.2.2.2 HG7.out.2).cs) (fun hHeld2 => ?_)
    clear hK K' hHeld
    have hHeld := hHeld2
    clear hHeld2
    try simp only [Act.put, List.setIfInBounds_toArray, List.set_cons_zero, List.set_cons_succ]
    refine wpAnyH_take (i := 7) (oi := ?_) (v := ?_) ?_ (by kernel_rfl) (by kernel_rfl) (by kernel_rfl) (fun _ _ _ h => (h : False).elim) (Or.inl ⟨?_, ?_⟩) hHeld ?_
    rotate_left 2
    · (simp only [List.getElem?_toArray, List.getElem?_cons_zero, List.getElem?_cons_succ]; rfl)
    · rfl
    · (intro W hSw; obtain ⟨m0, m1, m2, m3, m4, m5⟩ := hSw; go_simp <;> with_reducible rfl)
    try simp only [Act.put, List.setIfInBounds_toArray, List.set_cons_zero, List.set_cons_succ]
    refine wpAnyH_take (i := 8) (oi := ?_) (v := ?_) ?_ (by kernel_rfl) (by kernel_rfl) (by kernel_rfl) (fun _ _ _ h => (h : False).elim) (Or.inl ⟨?_, ?_⟩) hHeld ?_
    rotate_left 2
    · (simp only [List.getElem?_toArray, List.getElem?_cons_zero, List.getElem?_cons_succ]; rfl)
    · rfl
    · (intro W hSw; obtain ⟨m0, m1, m2, m3, m4, m5⟩ := hSw; go_simp <;> with_reducible rfl)
    try simp only [Act.put, List.setIfInBounds_toArray, List.set_cons_zero, List.set_cons_succ]
    refine wpAnyH_take (i := 9) (oi := ?_) (v := ?_) ?_ (by kernel_rfl) (by kernel_rfl) (by kernel_rfl) (fun _ _ _ h => (h : False).elim) (Or.inl ⟨?_, ?_⟩) hHeld ?_
    rotate_left 2
    · (simp only [List.getElem?_toArray, List.getElem?_cons_zero, List.getElem?_cons_succ]; rfl)
    · rfl
    · (intro W hSw; obtain ⟨m0, m1, m2, m3, m4, m5⟩ := hSw; go_simp <;> with_reducible rfl)
    try simp only [Act.put, List.setIfInBounds_toArray, List.set_cons_zero, List.set_cons_succ]
    refine wpAnyH_take (i := 10) (oi := ?_) (v := ?_) ?_ (by kernel_rfl) (by kernel_rfl) (by kernel_rfl) (fun _ _ _ h => (h : False).elim) (Or.inl ⟨?_, ?_⟩) hHeld ?_
    rotate_left 2
    · (simp only [List.getElem?_toArray, List.getElem?_cons_zero, List.getElem?_cons_succ]; rfl)
    · rfl
    · (intro W hSw; obtain ⟨m0, m1, m2, m3, m4, m5⟩ := hSw; go_simp <;> with_reducible rfl)
    try simp only [Act.put, List.setIfInBounds_toArray, List.set_cons_zero, List.set_cons_succ]
    refine wpAnyH_take (i := 11) (oi := ?_) (v := ?_) ?_ (by kernel_rfl) (by kernel_rfl) (by kernel_rfl) (fun _ _ _ h => (h : False).elim) (Or.inl ⟨?_, ?_⟩) hHeld ?_
    rotate_left 2
    · (simp only [List.getElem?_toArray, List.getElem?_cons_zero, List.getElem?_cons_succ]; rfl)
    · rfl
    · (intro W hSw; obtain ⟨m0, m1, m2, m3, m4, m5⟩ := hSw; go_simp <;> with_reducible rfl)
    try simp only [Act.put, List.setIfInBounds_toArray, List.set_cons_zero, List.set_cons_succ]
    refine wpAnyH_done (by kernel_rfl) ?_ _
    refine NoPanic.normal ?_
    obtain ⟨O7, hO7⟩ := HG7.out.1
    have HO7 := hide hO7
    have HB7 := hide (rp_keep HW.out.2.1 HO.out HW.out.2.2.1 HG7.out.2)
    have HA7 := hide (arg_keep HW.out.2.1 HO.out HW.out.2.2.2 HG7.out.2)
    have HFin := hide (fun (W : World) (hB : Below w7.heap.size w7 W) (a b c d : Value) => fin_set R HW.out.1 HW.out.2.1 HO.out HK0.out (R.keep HO7.out.1 (fun j _ hl => hB.block j hl) hB.size) (fun j e => Nat.lt_of_lt_of_le (HO7.out.2.1 j e) hB.size) HO7.out.2.2.1 (HG7.out.2.trans (Turned.of_below (S := fun _ => False) hB) (fun _ _ e => e.elim)) a b c d)
    have HY7 := hide HO7.out.2.2.2
    obtain ⟨ua, uc, hu, -⟩ := bys_form HY7.out
    subst hu
    clear hO7 HG7 HO7 HS1 HBl HA1 HB5 HB6 HKs HKs6 HFz hHeld
    obtain ⟨y0, y1, y2, y3, y4, y5⟩ := HB7.out.cs
    by_cases h1 : e ≠ 0 ∧ e ≠ 111
    · have hre := HRe.out
      rw [if_pos h1] at hre
      subst hre
      have g1 : (e != 0) = true := by simp [h1.1]
      have g2 : (e != 111) = true := by simp [h1.2]
      have k0 := HA7.out.ah.c0
      have k1 := HA7.out.ah.c1
      have k2 := HA7.out.ah.c2
      have k3 := HA7.out.ah.c3
      have f0 := HA7.out.soft
      go_wp2
      refine bodyPost_ret (res_agp rfl _ (w.heap.size + 1 + 1) rfl (HA7.out.fill 0 0 0 ByteArray.empty)) rfl ?_
      exact ⟨rfl, HFin.out _ (Below.refl _ _) _ _ _ _⟩
    · have hre := HRe.out
      rw [if_neg h1] at hre
      have HLs := hide (hasLeast_any ua uc l p.verb w7 HY7.out)
      have hstr := sbys_string HY7.out
      have HVd := hide (fun (hl : leastV l p.verb = true) W => valued_any ⟨l.toArray⟩ p.verb W (by show l.toArray.size ≤ _; have := HLen.out; simp; omega) (fun hv => HInt.out hv hl))
      have h01 : (e = 0 ∧ (e != 0) = false) ∨ (e = 111 ∧ (e != 0) = true ∧ (e != 111) = false) := by
        by_cases h0 : e = 0
        · exact .inl ⟨h0, by simp [h0]⟩
        · have h2 : e = 111 := by
            by_cases h2 : e = 111
            · exact h2
            · exact absurd ⟨h0, h2⟩ h1
          exact .inr ⟨h2, by simp [h2], by simp [h2]⟩
      clear h1 HRe HInt HLen
      by_cases hls : leastV l p.verb = true
      · rw [if_pos hls] at hre
        have HVd := hide (HVd.out hls)
        rw [hls] at HLs
        obtain ⟨⟨⟨ka, ia, ua', ta⟩, ea⟩, hA⟩ : ∃ A, worthV l p.verb = A := ⟨_, rfl⟩
        rw [show (⟨l.toArray⟩ : ByteArray).data.toList = l from rfl, hA] at HVd
        rw [hA] at hre
        subst hre
        clear hA hls
        rcases h01 with ⟨rfl, g1⟩ | ⟨rfl, g1, g2⟩
        all_goals
          go_wp2_with fail
          refine HLs.out.mono ?_
          rintro _ _ ⟨rfl, rfl⟩
          go_wp2_with fail
          refine (HVd.out _).mono ?_
          rintro _ w8 ⟨rfl, hB8⟩
          have hA8 := HA7.out.below hB8
          have HA8 := hide hA8
          have HB8 := hide hB8
          have k0 := hA8.ah.c0
          have k1 := hA8.ah.c1
          have k2 := hA8.ah.c2
          have k3 := hA8.ah.c3
          have f0 := hA8.soft
          clear hA8 hB8 y0 y1 y2 y3 y4 y5
          unfold pairV agV
          go_wp2
          refine bodyPost_ret (res_agp rfl _ (w.heap.size + 1 + 1) rfl (HA8.out.fill ka ia ua' ta)) rfl ?_
          exact ⟨rfl, HFin.out _ HB8.out _ _ _ _⟩
      · rw [if_neg hls] at hre
        have hls : leastV l p.verb = false := by simpa using hls
        rw [hls] at HLs
        have k0 := HA7.out.ah.c0
        have k1 := HA7.out.ah.c1
        have k2 := HA7.out.ah.c2
        have k3 := HA7.out.ah.c3
        have f0 := HA7.out.soft
        clear hls hstr HVd
        rcases h01 with ⟨rfl, g1⟩ | ⟨rfl, g1, g2⟩
        · rw [if_pos rfl] at hre
          subst hre
          go_wp2_with fail
          refine HLs.out.mono ?_
          rintro _ _ ⟨rfl, rfl⟩
          go_wp2
          refine bodyPost_ret (res_agp rfl _ (w.heap.size + 1 + 1) rfl (HA7.out.fill 0 0 0 ByteArray.empty)) rfl ?_
          exact ⟨rfl, HFin.out _ (Below.refl _ _) _ _ _ _⟩
        · rw [if_neg (by decide)] at hre
          subst hre
          go_wp2_with fail
          refine HLs.out.mono ?_
          rintro _ _ ⟨rfl, rfl⟩
          go_wp2
          refine bodyPost_ret (res_agp rfl _ (w.heap.size + 1 + 1) rfl (HA7.out.fill 0 0 0 ByteArray.empty)) rfl ?_
          exact ⟨rfl, HFin.out _ (Below.refl _ _) _ _ _ _⟩
  · have he' : (e0 != 0) = true := by simp [he]
    have k0 := HA1.out.ah.c0
    have k1 := HA1.out.ah.c1
    have k2 := HA1.out.ah.c2
    have k3 := HA1.out.ah.c3
    have f0 := HA1.out.soft
    go_wp2
    refine bodyPost_ret (res_agp rfl _ (w.heap.size + 1 + 1) rfl (HA1.out.fill 0 0 0 ByteArray.empty)) rfl ?_
    rw [HR.out, if_pos he]
    exact ⟨rfl, fin_set R HW.out.1 HW.out.2.1 HO.out HK0.out HS1.out.1 HS1.out.2.1 HS1.out.2.2.1 HS1.out.2.2.2 _ _ _ _⟩
end Go.Proofs.YtcmfpafcipgejaaGreatDoor

/- Scan: bytes, as they are read. -/
namespace Go.Proofs.YtcmfpafcipgejaaGreatDoor
open Go.RowKit
def bytV {S : Type} (D : SrcD S) (p : Pt) (s : S) : (Ag × Int) × S :=
  let g := filV D fAll p.most s
  if g.1.2 ≠ 0 then ((ag0, g.1.2), g.2) else if p.wd = 0 then ((⟨3, 0, ((g.1.1.getD 0 0).toNat : Int), ⟨#[]⟩⟩, 0), g.2) else ((⟨4, 0, 0, ⟨g.1.1.toArray⟩⟩, 0), g.2)
theorem filV_len {S : Type} (D : SrcD S) (f : Bool → UInt8 → Bool × Bool) (n : Nat) (s : S) (h : (filV D f n s).1.2 = 0) : n ≤ (filV D f n s).1.1.length := by
  unfold filV at h ⊢
  simp only at h ⊢
  split at h
  · exact absurd h (by decide)
  · rename_i h2
    have : ¬ (gatV D f n s false []).1.1.length < n := fun e => h2 ⟨h, e⟩
    omega
set_option linter.unusedSimpArgs false in
set_option maxRecDepth 100000 in
set_option maxHeartbeats 8000000 in
theorem bytes_any {S : Type} {D : SrcD S} {T : TypeId} {v : Value} {fn fb : FuncId} {K : Nat → Prop} {At : World → (Nat → Prop) → S → Prop} (R : SrcM D T v fn fb K At) {w : World} {O : Nat → Prop} {s : S} (p : Pt) (hv : p.verb.toNat = 99) (hK : ∀ j, K j → j < w.heap.size) (h : At w O s) (hO : ∀ j, O j → j < w.heap.size) (hm : p.most ≤ 4096) :
    Calls Tryz.prog 63 #[.agg #[.iface T v], ptV p] w fun e w' => e = .returned (pairV (bytV D p s).1) ∧ SStep At none_ w O (bytV D p s).2 w' := by
  obtain ⟨RR, hR⟩ : ∃ RR, RR = bytV D p s := ⟨_, rfl⟩
  rw [← hR]
  obtain ⟨t1, t2, t3, t4, t5⟩ := tri w (Obj.cells #[.iface T v] 70) (Obj.cells #[.int .u8 (p.verb.toNat : Int), .int .u8 (p.want.toNat : Int), .bool p.quiet, .int .i64 (p.wd : Int), .int .i64 (p.len : Int)] 80) (Obj.cells #[.int .i64 0, .int .i64 0, .int .u64 0, .string (⟨#[]⟩ : ByteArray)] 42)
  obtain ⟨l, e, s2, hQ⟩ : ∃ l e s2, filV D fAll p.most s = ((l, e), s2) := ⟨_, _, _, rfl⟩
  unfold bytV at hR
  have hlen := filV_len D fAll p.most s
  rw [hQ] at hR hlen
  simp only at hR hlen
  have h1len : e = 0 → p.wd = 0 → 1 ≤ l.length := fun he hw => by
    have := hlen he
    unfold Pt.most at this
    rw [if_neg (by omega), if_pos hv] at this
    exact this
  have HS1 := hide (And.intro (R.keep h (fun j _ hl => t1.block j hl) t1.size) (And.intro (fun j e => Nat.lt_of_lt_of_le (hO j e) t1.size) (And.intro (fun k (e : O k) => (.inl e : O k ∨ (((w.alloc (Obj.cells #[.iface T v] 70)).alloc (Obj.cells #[.int .u8 (p.verb.toNat : Int), .int .u8 (p.want.toNat : Int), .bool p.quiet, .int .i64 (p.wd : Int), .int .i64 (p.len : Int)] 80)).alloc (Obj.cells #[.int .i64 0, .int .i64 0, .int .u64 0, .string (⟨#[]⟩ : ByteArray)] 42)).heap.size ≤ k)) (Turned.refl (fun k => O k ∨ (((w.alloc (Obj.cells #[.iface T v] 70)).alloc (Obj.cells #[.int .u8 (p.verb.toNat : Int), .int .u8 (p.want.toNat : Int), .bool p.quiet, .int .i64 (p.wd : Int), .int .i64 (p.len : Int)] 80)).alloc (Obj.cells #[.int .i64 0, .int .i64 0, .int .u64 0, .string (⟨#[]⟩ : ByteArray)] 42)).heap.size ≤ k) (((w.alloc (Obj.cells #[.iface T v] 70)).alloc (Obj.cells #[.int .u8 (p.verb.toNat : Int), .int .u8 (p.want.toNat : Int), .bool p.quiet, .int .i64 (p.wd : Int), .int .i64 (p.len : Int)] 80)).alloc (Obj.cells #[.int .i64 0, .int .i64 0, .int .u64 0, .string (⟨#[]⟩ : ByteArray)] 42))))))
  have HRe := hide hR
  have HLen := hide h1len
  have HQ := hide hQ
  have HO := hide hO
  have HK0 := hide hK
  unfold ptV
  have HW := hide (And.intro t1 (And.intro t2 (And.intro (RPb.mk (T := T) (v := v) (p := p) t3 t4) (show ArgB (((w.alloc (Obj.cells #[.iface T v] 70)).alloc (Obj.cells #[.int .u8 (p.verb.toNat : Int), .int .u8 (p.want.toNat : Int), .bool p.quiet, .int .i64 (p.wd : Int), .int .i64 (p.len : Int)] 80)).alloc (Obj.cells #[.int .i64 0, .int .i64 0, .int .u64 0, .string (⟨#[]⟩ : ByteArray)] 42)) (w.heap.size + 1 + 1) ag0 from t5))))
  have HBl := hide (And.intro HW.out.2.2.1 (And.intro (Nat.le_refl (((w.alloc (Obj.cells #[.iface T v] 70)).alloc (Obj.cells #[.int .u8 (p.verb.toNat : Int), .int .u8 (p.want.toNat : Int), .bool p.quiet, .int .i64 (p.wd : Int), .int .i64 (p.len : Int)] 80)).alloc (Obj.cells #[.int .i64 0, .int .i64 0, .int .u64 0, .string (⟨#[]⟩ : ByteArray)] 42)).heap.size) (And.intro t2 HW.out.2.2.1)))
  have HKs := hide (fun j (e : K j) => Nat.lt_of_lt_of_le (hK j e) t1.size)
  clear h hK hO hR hQ hlen h1len t1 t2 t3 t4 t5 hv
  go_enter Tryz.func63, Tryz.ntmps63
  go_wp2_with fail
  generalize (((w.alloc (Obj.cells #[.iface T v] 70)).alloc (Obj.cells #[.int .u8 (p.verb.toNat : Int), .int .u8 (p.want.toNat : Int), .bool p.quiet, .int .i64 (p.wd : Int), .int .i64 (p.len : Int)] 80)).alloc (Obj.cells #[.int .i64 0, .int .i64 0, .int .u64 0, .string (⟨#[]⟩ : ByteArray)] 42)) = w0 at *
  refine wp_region_noPanic ?_
  refine wp_region_held_drew (S := fun W => RPc W w.heap.size T v p) (by kernel_rfl) ((HBl.out.1.keep (Below.refl _ _).drew).cs) (fun hHeld => ?_)
  refine wpAnyH_take (i := 0) (oi := ?_) (v := ?_) ?_ (by kernel_rfl) (by kernel_rfl) (by kernel_rfl) (fun _ _ _ h => (h : False).elim) (Or.inl ⟨?_, ?_⟩) hHeld ?_
  rotate_left 2
  · (simp only [List.getElem?_toArray, List.getElem?_cons_zero]; rfl)
  · rfl
  · (intro W hSw; obtain ⟨m0, m1, m2, m3, m4, m5⟩ := hSw; go_simp <;> with_reducible rfl)
  try simp only [Act.put, List.setIfInBounds_toArray, List.set_cons_zero, List.set_cons_succ]
  refine wpAnyH_take (i := 1) (oi := ?_) (v := ?_) ?_ (by kernel_rfl) (by kernel_rfl) (by kernel_rfl) (fun _ _ _ h => (h : False).elim) (Or.inl ⟨?_, ?_⟩) hHeld ?_
  rotate_left 2
  · (simp only [List.getElem?_toArray, List.getElem?_cons_zero, List.getElem?_cons_succ]; rfl)
  · rfl
  · (intro W hSw; obtain ⟨m0, m1, m2, m3, m4, m5⟩ := hSw; go_simp <;> with_reducible rfl)
  try simp only [Act.put, List.setIfInBounds_toArray, List.set_cons_zero, List.set_cons_succ]
  refine wpAnyH_ready (rs := [2]) (by kernel_rfl) (by simp) ?_
  refine AllReadyH.cons (o := ?_) ?_ (fun K' hK => ?_) AllReadyH.nil
  rotate_left 1
  · (simp only [List.getElem?_toArray, List.getElem?_cons_zero, List.getElem?_cons_succ]; rfl)
  go_simp
  refine (most_any p _).mono ?_; rintro _ w5 ⟨rfl, hw5⟩; have hB5 : Below w0.heap.size w0.drew w5 := by { rw [hw5]; exact fm_below w0.drew _ }; have HB5 := hide ((Below.refl _ w0).drew.trans hB5); clear hw5 hB5
  refine hK.out _ _ ((HBl.out.1.keep HB5.out).cs) (fun hHeld2 => ?_)
  clear hK K' hHeld
  have hHeld := hHeld2
  clear hHeld2
  try simp only [Act.put, List.setIfInBounds_toArray, List.set_cons_zero, List.set_cons_succ]
  refine wpAnyH_ready (rs := [3]) (by kernel_rfl) (by simp) ?_
  refine AllReadyH.cons (o := ?_) ?_ (fun K' hK => ?_) AllReadyH.nil
  rotate_left 1
  · (simp only [List.getElem?_toArray, List.getElem?_cons_zero, List.getElem?_cons_succ]; rfl)
  go_simp
  refine (sfilled_is R fitAll p.most hm (fun j e => Nat.lt_of_lt_of_le (HKs.out j e) HB5.out.size) (calmJ false (R.keep HS1.out.1 (fun j _ hl => HB5.out.block j hl) HB5.out.size) (fun j e => Nat.lt_of_lt_of_le (HS1.out.2.1 j e) HB5.out.size)) HQ.out).mono ?_; rintro _ w7 ⟨u, rfl, hG⟩
  have HG7 := hide (gstep_over HBl.out.2.1 HS1.out.2.2.1 HS1.out.2.2.2 HB5.out (fun _ e => e.elim) hG)
  clear hG
  refine hK.out _ _ ((rp_keep HBl.out.2.2.1 HO.out HBl.out.2.2.2 HG7.out.2).cs) (fun hHeld2 => ?_)
  clear hK K' hHeld
  have hHeld := hHeld2
  clear hHeld2
  try simp only [Act.put, List.setIfInBounds_toArray, List.set_cons_zero, List.set_cons_succ]
  refine wpAnyH_take (i := 4) (oi := ?_) (v := ?_) ?_ (by kernel_rfl) (by kernel_rfl) (by kernel_rfl) (fun _ _ _ h => (h : False).elim) (Or.inl ⟨?_, ?_⟩) hHeld ?_
  rotate_left 2
  · (simp only [List.getElem?_toArray, List.getElem?_cons_zero, List.getElem?_cons_succ]; rfl)
  · rfl
  · (intro W hSw; obtain ⟨m0, m1, m2, m3, m4, m5⟩ := hSw; go_simp <;> with_reducible rfl)
  try simp only [Act.put, List.setIfInBounds_toArray, List.set_cons_zero, List.set_cons_succ]
  refine wpAnyH_take (i := 5) (oi := ?_) (v := ?_) ?_ (by kernel_rfl) (by kernel_rfl) (by kernel_rfl) (fun _ _ _ h => (h : False).elim) (Or.inl ⟨?_, ?_⟩) hHeld ?_
  rotate_left 2
  · (simp only [List.getElem?_toArray, List.getElem?_cons_zero, List.getElem?_cons_succ]; rfl)
  · rfl
  · (intro W hSw; obtain ⟨m0, m1, m2, m3, m4, m5⟩ := hSw; go_simp <;> with_reducible rfl)
  try simp only [Act.put, List.setIfInBounds_toArray, List.set_cons_zero, List.set_cons_succ]
  refine wpAnyH_take (i := 6) (oi := ?_) (v := ?_) ?_ (by kernel_rfl) (by kernel_rfl) (by kernel_rfl) (fun _ _ _ h => (h : False).elim) (Or.inl ⟨?_, ?_⟩) hHeld ?_
  rotate_left 2
  · (simp only [List.getElem?_toArray, List.getElem?_cons_zero, List.getElem?_cons_succ]; rfl)
  · rfl
  · (intro W hSw; obtain ⟨m0, m1, m2, m3, m4, m5⟩ := hSw; go_simp <;> with_reducible rfl)
  try simp only [Act.put, List.setIfInBounds_toArray, List.set_cons_zero, List.set_cons_succ]
  refine wpAnyH_take (i := 7) (oi := ?_) (v := ?_) ?_ (by kernel_rfl) (by kernel_rfl) (by kernel_rfl) (fun _ _ _ h => (h : False).elim) (Or.inl ⟨?_, ?_⟩) hHeld ?_
  rotate_left 2
  · (simp only [List.getElem?_toArray, List.getElem?_cons_zero, List.getElem?_cons_succ]; rfl)
  · rfl
  · (intro W hSw; obtain ⟨m0, m1, m2, m3, m4, m5⟩ := hSw; go_simp <;> with_reducible rfl)
  try simp only [Act.put, List.setIfInBounds_toArray, List.set_cons_zero, List.set_cons_succ]
  refine wpAnyH_take (i := 8) (oi := ?_) (v := ?_) ?_ (by kernel_rfl) (by kernel_rfl) (by kernel_rfl) (fun _ _ _ h => (h : False).elim) (Or.inl ⟨?_, ?_⟩) hHeld ?_
  rotate_left 2
  · (simp only [List.getElem?_toArray, List.getElem?_cons_zero, List.getElem?_cons_succ]; rfl)
  · rfl
  · (intro W hSw; obtain ⟨m0, m1, m2, m3, m4, m5⟩ := hSw; go_simp <;> with_reducible rfl)
  try simp only [Act.put, List.setIfInBounds_toArray, List.set_cons_zero, List.set_cons_succ]
  refine wpAnyH_done (by kernel_rfl) ?_ _
  refine NoPanic.normal ?_
  obtain ⟨O7, hO7⟩ := HG7.out.1
  have HO7 := hide hO7
  have HB7 := hide (rp_keep HW.out.2.1 HO.out HW.out.2.2.1 HG7.out.2)
  have HA7 := hide (arg_keep HW.out.2.1 HO.out HW.out.2.2.2 HG7.out.2)
  have HFin := hide (fun (W : World) (hB : Below w7.heap.size w7 W) (a b c d : Value) => fin_set R HW.out.1 HW.out.2.1 HO.out HK0.out (R.keep HO7.out.1 (fun j _ hl => hB.block j hl) hB.size) (fun j e => Nat.lt_of_lt_of_le (HO7.out.2.1 j e) hB.size) HO7.out.2.2.1 (HG7.out.2.trans (Turned.of_below (S := fun _ => False) hB) (fun _ _ e => e.elim)) a b c d)
  have HY7 := hide HO7.out.2.2.2
  obtain ⟨ua, uc, hu, -⟩ := bys_form HY7.out
  subst hu
  clear hO7 HG7 HO7 HS1 HBl HB5 HKs hHeld
  obtain ⟨y0, y1, y2, y3, y4, y5⟩ := HB7.out.cs
  by_cases h1 : e ≠ 0
  · have hre := HRe.out
    rw [if_pos h1] at hre
    subst hre
    have g1 : (e != 0) = true := by simp [h1]
    have k0 := HA7.out.ah.c0
    have k1 := HA7.out.ah.c1
    have k2 := HA7.out.ah.c2
    have k3 := HA7.out.ah.c3
    have f0 := HA7.out.soft
    go_wp2
    refine bodyPost_ret (res_agp rfl _ (w.heap.size + 1 + 1) rfl (HA7.out.fill 0 0 0 ByteArray.empty)) rfl ?_
    exact ⟨rfl, HFin.out _ (Below.refl _ _) _ _ _ _⟩
  · have hre := HRe.out
    rw [if_neg h1] at hre
    have h1 : e = 0 := by
      by_cases h2 : e = 0
      · exact h2
      · exact absurd h2 h1
    subst h1
    by_cases hw : p.wd = 0
    · rw [if_pos hw] at hre
      obtain ⟨ch, hch⟩ : ∃ ch, l.getD 0 0 = ch := ⟨_, rfl⟩
      rw [hch] at hre
      subst hre
      have hl1 := HLen.out rfl hw
      rw [hw] at y4
      obtain ⟨-, qb, qo, rfl, hqb, hc⟩ := bys_block HY7.out (by omega)
      have hc0 := hc 0 (by omega)
      rw [Nat.add_zero, hch] at hc0
      have e3 : (0 : Int) < (l.length : Int) := by omega
      have e3' : 0 < l.length := by omega
      clear hch
      have HBy := hide (fun W => fbyte_any (ch.toNat : Int) (by omega) (by have := UInt8.toNat_lt ch; omega) W)
      clear hc hw HRe HLen
      go_wp2_with fail
      refine (HBy.out _).mono ?_
      rintro _ w8 ⟨rfl, hB8⟩
      have hA8 := HA7.out.below hB8
      have HA8 := hide hA8
      have HB8 := hide hB8
      have k0 := hA8.ah.c0
      have k1 := hA8.ah.c1
      have k2 := hA8.ah.c2
      have k3 := hA8.ah.c3
      have f0 := hA8.soft
      clear hA8 hB8 y0 y1 y2 y3 y4 y5
      unfold agV
      go_wp2
      refine bodyPost_ret (res_agp rfl _ (w.heap.size + 1 + 1) rfl (HA8.out.fill 3 0 (ch.toNat : Int) ⟨#[]⟩)) rfl ?_
      exact ⟨rfl, HFin.out _ HB8.out _ _ _ _⟩
    · rw [if_neg hw] at hre
      subst hre
      have g4 : ((p.wd : Int) == 0) = false := by simp [hw]
      have hstr := sbys_string HY7.out
      clear hw HRe HLen
      go_wp2_with fail
      refine (ftext_any _ _).mono ?_
      rintro _ w8 ⟨rfl, hB8⟩
      have hA8 := HA7.out.below hB8
      have HA8 := hide hA8
      have HB8 := hide hB8
      have k0 := hA8.ah.c0
      have k1 := hA8.ah.c1
      have k2 := hA8.ah.c2
      have k3 := hA8.ah.c3
      have f0 := hA8.soft
      clear hA8 hB8 y0 y1 y2 y3 y4 y5
      unfold agV
      go_wp2
      refine bodyPost_ret (res_agp rfl _ (w.heap.size + 1 + 1) rfl (HA8.out.fill 4 0 0 ⟨l.toArray⟩)) rfl ?_
      exact ⟨rfl, HFin.out _ HB8.out _ _ _ _⟩
end Go.Proofs.YtcmfpafcipgejaaGreatDoor
