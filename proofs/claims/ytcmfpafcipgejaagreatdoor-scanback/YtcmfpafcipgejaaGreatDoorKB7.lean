/- What the proof stands on, part 7: the contracts of the program's calls that it reaches. -/
import Derived.Test.YtcmfpafcipgejaaGreatDoorKB6
import Derived.Deep.RegionHeld3
/- Scan: a part of a pattern is read. -/
namespace Go.Proofs.YtcmfpafcipgejaaGreatDoor
open Go.RowKit
def Left {S : Type} (At : World → (Nat → Prop) → S → Prop) (w : World) (O : Nat → Prop) (s : S) (W : World) : Prop := ArgB W (w.heap.size + 1 + 1) ag0 ∧ ∀ W', Below W.heap.size W W' → ∀ a b c d, SStep At none_ w O s ((((W'.setCell ⟨w.heap.size + 1 + 1, 0, none⟩ a).setCell ⟨w.heap.size + 1 + 1, 1, none⟩ b).setCell ⟨w.heap.size + 1 + 1, 2, none⟩ c).setCell ⟨w.heap.size + 1 + 1, 3, none⟩ d)
theorem left_of {S : Type} {D : SrcD S} {T : TypeId} {v : Value} {fn fb : FuncId} {K : Nat → Prop} {At : World → (Nat → Prop) → S → Prop} (R : SrcM D T v fn fb K At) {w w0 W : World} {O : Nat → Prop} {s2 : S} (hB0 : Below w.heap.size w w0) (hz : w0.heap.size = w.heap.size + 1 + 1 + 1) (hA0 : ArgB w0 (w.heap.size + 1 + 1) ag0) (hO : ∀ j, O j → j < w.heap.size) (hK : ∀ j, K j → j < w.heap.size) (h : ∃ O2, At W O2 s2 ∧ (∀ j, O2 j → j < W.heap.size) ∧ (∀ k, O2 k → O k ∨ w0.heap.size ≤ k)) (hT : Turned (fun k => O k ∨ w0.heap.size ≤ k) w0 W) : Left At w O s2 W := by
  obtain ⟨O2, h1, h2, h3⟩ := h
  exact ⟨arg_keep hz hO hA0 hT, fun W' hB a b c d => fin_set R hB0 hz hO hK (R.keep h1 (fun j _ hl => hB.block j hl) hB.size) (fun j e => Nat.lt_of_lt_of_le (h2 j e) hB.size) h3 (hT.trans (Turned.of_below (S := fun _ => False) hB) (fun _ _ e => e.elim)) a b c d⟩
theorem left_step {S : Type} {D : SrcD S} {T : TypeId} {v : Value} {fn fb : FuncId} {K : Nat → Prop} {At : World → (Nat → Prop) → S → Prop} (R : SrcM D T v fn fb K At) {w w0 W : World} {O : Nat → Prop} {s2 : S} (hB0 : Below w.heap.size w w0) (hz : w0.heap.size = w.heap.size + 1 + 1 + 1) (hA0 : ArgB w0 (w.heap.size + 1 + 1) ag0) (hO : ∀ j, O j → j < w.heap.size) (hK : ∀ j, K j → j < w.heap.size) (h : SStep At none_ w0 O s2 W) : Left At w O s2 W := by
  obtain ⟨O2, h1, h2, h3, h4⟩ := sstep_over h
  exact left_of R hB0 hz hA0 hO hK ⟨O2, h1, h2, h3⟩ h4
theorem left_gath {S : Type} {D : SrcD S} {T : TypeId} {v : Value} {fn fb : FuncId} {K : Nat → Prop} {At : World → (Nat → Prop) → S → Prop} (R : SrcM D T v fn fb K At) {w w0 W : World} {O : Nat → Prop} {s2 : S} {u : Value} {l : List UInt8} (hB0 : Below w.heap.size w w0) (hz : w0.heap.size = w.heap.size + 1 + 1 + 1) (hA0 : ArgB w0 (w.heap.size + 1 + 1) ag0) (hO : ∀ j, O j → j < w.heap.size) (hK : ∀ j, K j → j < w.heap.size) (h : GStep At none_ w0 O s2 u l W) : Left At w O s2 W := by
  obtain ⟨⟨O2, h1, h2, h3, _⟩, h4⟩ := gstep_over (w0 := w0) (w1 := w0) (O := O) (Nat.le_refl _) (fun k e => .inl e) (Turned.refl _ _) (Below.refl _ _) (fun _ e => e.elim) h
  exact left_of R hB0 hz hA0 hO hK ⟨O2, h1, h2, h3⟩ h4
theorem partV_other {S : Type} (D : SrcD S) (N : Nat) (p : Pt) (s : S) (h1 : p.verb.toNat ≠ 32) (h2 : p.verb.toNat ≠ 37) (h3 : p.verb.toNat ≠ 99) {e0 : Int} {s1 : S} (h : passV D N s = some (e0, s1)) : partV D N p s = some (if e0 ≠ 0 then ((ag0, e0), s1) else wordV D p s1) := by
  unfold partV
  rw [if_neg h1, if_neg h2, if_neg h3, h]
theorem partV_c {S : Type} (D : SrcD S) (N : Nat) (p : Pt) (s : S) (h3 : p.verb.toNat = 99) : partV D N p s = some (bytV D p s) := by
  unfold partV bytV
  rw [if_neg (by omega), if_neg (by omega), if_pos h3]
set_option maxRecDepth 100000 in
set_option maxHeartbeats 8000000 in
theorem part_any {S : Type} {D : SrcD S} {T : TypeId} {v : Value} {fn fb : FuncId} {K : Nat → Prop} {At : World → (Nat → Prop) → S → Prop} (R : SrcM D T v fn fb K At) {w : World} {O : Nat → Prop} {s : S} (p : Pt) (N : Nat) {A : Ag} {e : Int} {s' : S} (hK : ∀ j, K j → j < w.heap.size) (h : At w O s) (hO : ∀ j, O j → j < w.heap.size) (hp : partV D N p s = some ((A, e), s')) (hm : p.most ≤ 4096) :
    Calls Tryz.prog 42 #[.agg #[.iface T v], ptV p] w fun x w' => x = .returned (pairV (A, e)) ∧ SStep At none_ w O s' w' := by
  obtain ⟨t1, t2, t3, t4, t5⟩ := tri w (Obj.cells #[.iface T v] 70) (Obj.cells #[.int .u8 (p.verb.toNat : Int), .int .u8 (p.want.toNat : Int), .bool p.quiet, .int .i64 (p.wd : Int), .int .i64 (p.len : Int)] 80) (Obj.cells #[.int .i64 0, .int .i64 0, .int .u64 0, .string (⟨#[]⟩ : ByteArray)] 42)
  have hRP : RPb (((w.alloc (Obj.cells #[.iface T v] 70)).alloc (Obj.cells #[.int .u8 (p.verb.toNat : Int), .int .u8 (p.want.toNat : Int), .bool p.quiet, .int .i64 (p.wd : Int), .int .i64 (p.len : Int)] 80)).alloc (Obj.cells #[.int .i64 0, .int .i64 0, .int .u64 0, .string (⟨#[]⟩ : ByteArray)] 42)) w.heap.size T v p := ⟨t3, t4⟩
  have hA0 : ArgB (((w.alloc (Obj.cells #[.iface T v] 70)).alloc (Obj.cells #[.int .u8 (p.verb.toNat : Int), .int .u8 (p.want.toNat : Int), .bool p.quiet, .int .i64 (p.wd : Int), .int .i64 (p.len : Int)] 80)).alloc (Obj.cells #[.int .i64 0, .int .i64 0, .int .u64 0, .string (⟨#[]⟩ : ByteArray)] 42)) (w.heap.size + 1 + 1) ag0 := t5
  have hAt := R.keep h (fun j _ hl => t1.block j hl) t1.size
  have hO0 : ∀ j, O j → j < (((w.alloc (Obj.cells #[.iface T v] 70)).alloc (Obj.cells #[.int .u8 (p.verb.toNat : Int), .int .u8 (p.want.toNat : Int), .bool p.quiet, .int .i64 (p.wd : Int), .int .i64 (p.len : Int)] 80)).alloc (Obj.cells #[.int .i64 0, .int .i64 0, .int .u64 0, .string (⟨#[]⟩ : ByteArray)] 42)).heap.size := fun j e => Nat.lt_of_lt_of_le (hO j e) t1.size
  have hK0 : ∀ j, K j → j < (((w.alloc (Obj.cells #[.iface T v] 70)).alloc (Obj.cells #[.int .u8 (p.verb.toNat : Int), .int .u8 (p.want.toNat : Int), .bool p.quiet, .int .i64 (p.wd : Int), .int .i64 (p.len : Int)] 80)).alloc (Obj.cells #[.int .i64 0, .int .i64 0, .int .u64 0, .string (⟨#[]⟩ : ByteArray)] 42)).heap.size := fun j e => Nat.lt_of_lt_of_le (hK j e) t1.size
  have HLs := hide (fun W (s2 : S) (h : SStep At none_ (((w.alloc (Obj.cells #[.iface T v] 70)).alloc (Obj.cells #[.int .u8 (p.verb.toNat : Int), .int .u8 (p.want.toNat : Int), .bool p.quiet, .int .i64 (p.wd : Int), .int .i64 (p.len : Int)] 80)).alloc (Obj.cells #[.int .i64 0, .int .i64 0, .int .u64 0, .string (⟨#[]⟩ : ByteArray)] 42)) O s2 W) => left_step R t1 t2 hA0 hO hK h)
  have HLg := hide (fun W (s2 : S) (u : Value) (l : List UInt8) (h : GStep At none_ (((w.alloc (Obj.cells #[.iface T v] 70)).alloc (Obj.cells #[.int .u8 (p.verb.toNat : Int), .int .u8 (p.want.toNat : Int), .bool p.quiet, .int .i64 (p.wd : Int), .int .i64 (p.len : Int)] 80)).alloc (Obj.cells #[.int .i64 0, .int .i64 0, .int .u64 0, .string (⟨#[]⟩ : ByteArray)] 42)) O s2 u l W) => left_gath R t1 t2 hA0 hO hK h)
  have HOw := hide hO
  have HW0 := hide (And.intro hAt (And.intro hO0 hK0))
  clear h hK hO hA0 hAt hO0 hK0 t1 t2 t3 t4 t5
  obtain ⟨y0, y1, y2, y3, y4, y5⟩ := hRP.cs
  have HRP := hide hRP
  clear hRP
  by_cases h1 : p.verb.toNat = 32
  · obtain ⟨⟨e0, s1⟩, hps, hr⟩ : ∃ r, passV D N s = some r ∧ (((ag0, if r.1 = 111 then 0 else r.1), r.2) : (Ag × Int) × S) = ((A, e), s') := by
      unfold partV at hp
      rw [if_pos h1] at hp
      cases hq : passV D N s with
      | none => rw [hq] at hp; cases hp
      | some r => rw [hq] at hp; exact ⟨r, rfl, Option.some.inj hp⟩
    have HX := hide (spass_any R N HW0.out.1 HW0.out.2.1 hps)
    have v1 : ((p.verb.toNat : Int) == 32) = true := by simp; omega
    simp only at hr
    obtain ⟨rfl, he, rfl⟩ : ag0 = A ∧ (if e0 = 111 then 0 else e0) = e ∧ s1 = s' := by cases hr; exact ⟨rfl, rfl, rfl⟩
    unfold ptV
    clear hp hps hr h1 HLg HW0
    by_cases h2 : e0 = 111
    · rw [if_pos h2] at he
      subst h2 he
      go_enter Tryz.func42, Tryz.ntmps42
      go_wp2_with fail
      refine HX.out.mono ?_
      rintro _ w1 ⟨rfl, hS⟩
      obtain ⟨hA1, hF1⟩ := HLs.out _ _ hS
      have HA1 := hide hA1
      have HF1 := hide hF1
      have k0 := hA1.ah.c0
      have k1 := hA1.ah.c1
      have k2 := hA1.ah.c2
      have k3 := hA1.ah.c3
      have f0 := hA1.soft
      clear hA1
      clear hS hF1 HX HLs y0 y1 y2 y3 y4 y5
      go_wp2
      refine bodyPost_ret (res_agp rfl _ (w.heap.size + 1 + 1) rfl (HA1.out.fill 0 0 0 ByteArray.empty)) rfl ?_
      exact ⟨rfl, HF1.out _ (Below.refl _ _) _ _ _ _⟩
    · rw [if_neg h2] at he
      subst he
      have g2 : (e0 == 111) = false := by simp [h2]
      go_enter Tryz.func42, Tryz.ntmps42
      go_wp2_with fail
      refine HX.out.mono ?_
      rintro _ w1 ⟨rfl, hS⟩
      obtain ⟨hA1, hF1⟩ := HLs.out _ _ hS
      have HA1 := hide hA1
      have HF1 := hide hF1
      have k0 := hA1.ah.c0
      have k1 := hA1.ah.c1
      have k2 := hA1.ah.c2
      have k3 := hA1.ah.c3
      have f0 := hA1.soft
      clear hA1
      clear hS hF1 HX HLs y0 y1 y2 y3 y4 y5
      go_wp2
      refine bodyPost_ret (res_agp rfl _ (w.heap.size + 1 + 1) rfl (HA1.out.fill 0 0 0 ByteArray.empty)) rfl ?_
      exact ⟨rfl, HF1.out _ (Below.refl _ _) _ _ _ _⟩
  have v1 : ((p.verb.toNat : Int) == 32) = false := by simp; omega
  by_cases h2 : p.verb.toNat = 37
  · have v2 : ((p.verb.toNat : Int) == 37) = true := by simp; omega
    obtain ⟨l, e0, s2, hQ⟩ : ∃ l e0 s2, filV D (fIs p.want) 1 s = ((l, e0), s2) := ⟨_, _, _, rfl⟩
    obtain ⟨rfl, rfl, rfl⟩ : ag0 = A ∧ e0 = e ∧ s2 = s' := by
      unfold partV at hp
      rw [if_neg h1, if_pos h2, hQ] at hp
      cases hp
      exact ⟨rfl, rfl, rfl⟩
    have HX := hide (sfilled_is R (fitIs p.want (w.heap.size + 1)) 1 (by decide) HW0.out.2.2 (⟨HW0.out.1, y2, fun _ e => e.elim, fun j e => ⟨by rw [e]; exact (Array.getElem?_eq_some_iff.1 HRP.out.b1).1, fun e2 => by rw [e] at e2; have := HOw.out _ e2; omega⟩, fun _ _ e => e, HW0.out.2.1⟩ : JAt At K _ none_ (fun j => j = w.heap.size + 1) _ O s false) hQ)
    unfold ptV
    clear hp hQ h1 h2 HLs HW0
    go_enter Tryz.func42, Tryz.ntmps42
    go_wp2_with fail
    refine HX.out.mono ?_
    rintro _ w1 ⟨u, rfl, hG⟩
    obtain ⟨hA1, hF1⟩ := HLg.out _ _ _ _ hG
    have HA1 := hide hA1
    have HF1 := hide hF1
    have k0 := hA1.ah.c0
    have k1 := hA1.ah.c1
    have k2 := hA1.ah.c2
    have k3 := hA1.ah.c3
    have f0 := hA1.soft
    clear hA1
    obtain ⟨ua, uc, rfl⟩ := owns_slice hG.choose_spec.2.1
    clear hG hF1 HX HLg y0 y1 y2 y3 y4 y5
    go_wp2
    refine bodyPost_ret (res_agp rfl _ (w.heap.size + 1 + 1) rfl (HA1.out.fill 0 0 0 ByteArray.empty)) rfl ?_
    exact ⟨rfl, HF1.out _ (Below.refl _ _) _ _ _ _⟩
  have v2 : ((p.verb.toNat : Int) == 37) = false := by simp; omega
  by_cases h3 : p.verb.toNat = 99
  · have v3 : ((p.verb.toNat : Int) == 99) = true := by simp; omega
    rw [partV_c D N p s h3] at hp
    have HX := hide (bytes_any R p h3 HW0.out.2.2 HW0.out.1 HW0.out.2.1 hm)
    rw [Option.some.inj hp] at HX
    clear hp h1 h2 h3 HLg HW0
    unfold ptV at HX ⊢
    go_enter Tryz.func42, Tryz.ntmps42
    go_wp2_with fail
    refine HX.out.mono ?_
    rintro _ w1 ⟨rfl, hS⟩
    obtain ⟨hA1, hF1⟩ := HLs.out _ _ hS
    have HA1 := hide hA1
    have HF1 := hide hF1
    have k0 := hA1.ah.c0
    have k1 := hA1.ah.c1
    have k2 := hA1.ah.c2
    have k3 := hA1.ah.c3
    have f0 := hA1.soft
    clear hA1
    obtain ⟨ka, ia, ua, ta⟩ := A
    clear hS hF1 HX HLs y0 y1 y2 y3 y4 y5
    unfold pairV agV
    go_wp2
    refine bodyPost_ret (res_agp rfl _ (w.heap.size + 1 + 1) rfl (HA1.out.fill ka ia ua ta)) rfl ?_
    exact ⟨rfl, HF1.out _ (Below.refl _ _) _ _ _ _⟩
  · have v3 : ((p.verb.toNat : Int) == 99) = false := by simp; omega
    obtain ⟨⟨e0, s1⟩, hps⟩ : ∃ r, passV D N s = some r := by
      unfold partV at hp
      rw [if_neg h1, if_neg h2, if_neg h3] at hp
      cases hq : passV D N s with
      | none => rw [hq] at hp; cases hp
      | some r => exact ⟨r, rfl⟩
    rw [partV_other D N p s h1 h2 h3 hps] at hp
    have HX := hide (word_any R p N HW0.out.2.2 HW0.out.1 HW0.out.2.1 hps hm)
    rw [Option.some.inj hp] at HX
    clear hp hps h1 h2 h3 HLg HW0
    unfold ptV at HX ⊢
    go_enter Tryz.func42, Tryz.ntmps42
    go_wp2_with fail
    refine HX.out.mono ?_
    rintro _ w1 ⟨rfl, hS⟩
    obtain ⟨hA1, hF1⟩ := HLs.out _ _ hS
    have HA1 := hide hA1
    have HF1 := hide hF1
    have k0 := hA1.ah.c0
    have k1 := hA1.ah.c1
    have k2 := hA1.ah.c2
    have k3 := hA1.ah.c3
    have f0 := hA1.soft
    clear hA1
    obtain ⟨ka, ia, ua, ta⟩ := A
    clear hS hF1 HX HLs y0 y1 y2 y3 y4 y5
    unfold pairV agV
    go_wp2
    refine bodyPost_ret (res_agp rfl _ (w.heap.size + 1 + 1) rfl (HA1.out.fill ka ia ua ta)) rfl ?_
    exact ⟨rfl, HF1.out _ (Below.refl _ _) _ _ _ _⟩
end Go.Proofs.YtcmfpafcipgejaaGreatDoor

/- Scan: the width that a directive has. -/
namespace Go.Proofs.YtcmfpafcipgejaaGreatDoor
open Go.RowKit
theorem width_ok (l : List UInt8) (r : Nat) (hr : run10 l = r) (h0 : 0 < r) (c : UInt8) (hc : l[0]? = some c) : (((parseB 10 (l.take r)).2.1 == 0) && (((c.toNat : Int) != 48) && decide ((parseB 10 (l.take r)).1 ≤ 4096))) = (numS l).isSome ∧ ∀ m k, numS l = some (m, k) → (parseB 10 (l.take r)).1 = (m : Int) ∧ m ≤ 4096 ∧ k = r := by
  have hall : Dgs (l.take r) := by rw [← hr]; exact run10_all l
  have hrl : r ≤ l.length := by rw [← hr]; exact run10_len l
  have hl : (l.take r).length = r := by rw [List.length_take]; omega
  have hne : l.take r ≠ [] := fun e => by rw [e] at hl; simp at hl; omega
  have hp : parseB 10 (l.take r) = pb 10 (l.take r) 0 0 := parseB_yes _ _ (by decide) (by decide) hne
  have hv := pb_val (l.take r) hall 0 0
  rw [show ((0 : Nat) : Int) = 0 from rfl] at hv
  have hget : l.getD 0 0 = c := by rw [List.getD_eq_getElem?_getD, hc]; rfl
  have hns : numS l = if 4 < r ∨ 4096 < val10 (l.take r) 0 ∨ c.toNat = 48 then none else some (val10 (l.take r) 0, r) := by
    unfold numS
    rw [hr, if_neg (by omega), hget]
  obtain ⟨d, t, hdt⟩ : ∃ d t, l.take r = d :: t := by
    cases hq : l.take r with
    | nil => exact absurd hq hne
    | cons d t => exact ⟨d, t, rfl⟩
  have hdc : d = c := by
    have : (l.take r)[0]? = some c := by rw [List.getElem?_take_of_lt h0]; exact hc
    rw [hdt] at this
    exact Option.some.inj this
  subst hdc
  have hdd := hall d (by rw [hdt]; exact List.mem_cons_self ..)
  have hlow : d.toNat ≠ 48 → 10 ^ (r - 1) ≤ val10 (l.take r) 0 := fun h48 => by
    rw [hdt]
    show 10 ^ (r - 1) ≤ val10 t (0 * 10 + (d.toNat - 48))
    rw [val10_add]
    have ht : t.length = r - 1 := by rw [hdt] at hl; simp at hl; omega
    have : 1 * 10 ^ t.length ≤ (0 * 10 + (d.toNat - 48)) * 10 ^ t.length := Nat.mul_le_mul_right _ (by omega)
    rw [← ht]
    omega
  rw [hns]
  have hb48 : ((d.toNat : Int) != 48) = decide (d.toNat ≠ 48) := by
    rw [Bool.eq_iff_iff, bne_iff_ne, decide_eq_true_iff]; omega
  rw [hb48]
  by_cases h4 : r ≤ 4
  · have h4v := val10_pb (l.take r) 0 0 hall (by rw [hl, Nat.zero_add, Nat.one_mul]; exact Nat.le_trans (Nat.pow_le_pow_right (by decide) h4) (by decide))
    rw [show ((0 : Nat) : Int) = 0 from rfl] at h4v
    rw [hp, h4v]
    generalize val10 (l.take r) 0 = V at *
    by_cases hn : 4096 < V ∨ d.toNat = 48
    · rw [if_pos (.inr hn)]
      refine ⟨?_, fun m k e => by cases e⟩
      rcases hn with hn | hn
      · rw [show decide ((V : Int) ≤ 4096) = false from decide_eq_false (by omega)]; simp
      · rw [show decide (d.toNat ≠ 48) = false from decide_eq_false (by simp [hn])]; simp
    · have hn1 : ¬ 4096 < V := fun e => hn (.inl e)
      have hn2 : ¬ d.toNat = 48 := fun e => hn (.inr e)
      rw [if_neg (by omega)]
      refine ⟨?_, fun m k e => by cases e; exact ⟨rfl, by omega, rfl⟩⟩
      rw [show decide ((V : Int) ≤ 4096) = true from decide_eq_true (by omega), show decide (d.toNat ≠ 48) = true from decide_eq_true hn2]
      rfl
  · rw [if_pos (.inl (by omega))]
    refine ⟨?_, fun m k e => by cases e⟩
    by_cases he : (parseB 10 (l.take r)).2.1 = 0
    · by_cases h48 : d.toNat = 48
      · rw [show decide (d.toNat ≠ 48) = false from decide_eq_false (by simp [h48])]; simp
      · have h1 := hlow h48
        have h2 : 10 ^ 4 ≤ 10 ^ (r - 1) := Nat.pow_le_pow_right (by decide) (by omega)
        rw [hp] at he ⊢
        rw [hv he, show decide (((val10 (l.take r) 0 : Nat) : Int) ≤ 4096) = false from decide_eq_false (by omega)]
        simp
    · rw [show ((parseB 10 (l.take r)).2.1 == 0) = false by simp [he]]
      rfl
def WidthR (l : List UInt8) (a : Nat) (e : Ending) : Prop := ∃ n : Int, e = .returned (.tuple #[.int .i64 n, .int .i64 ((a + run10 l : Nat) : Int), .bool (numS l).isSome]) ∧ ∀ m k, numS l = some (m, k) → n = (m : Int) ∧ m ≤ 4096 ∧ k = run10 l
theorem width_r {l : List UInt8} {a r : Nat} (hr : run10 l = r) {v1 v2 v3 : Value} (n : Int) (h1 : v1 = .int .i64 n) (h2 : v2 = .int .i64 ((a + r : Nat) : Int)) (h3 : v3 = .bool (numS l).isSome) (h : ∀ m k, numS l = some (m, k) → n = (m : Int) ∧ m ≤ 4096 ∧ k = r) : WidthR l a (.returned (.tuple #[v1, v2, v3])) := by
  subst hr
  exact ⟨n, ret3' h1 h2 h3, h⟩
set_option maxRecDepth 100000 in
set_option maxHeartbeats 4000000 in
theorem widthAt_any (s : ByteArray) (a : Nat) (w : World) (hs : s.size ≤ maxLen) (ha : a ≤ s.size) :
    Calls Tryz.prog 73 #[.string s, .int .i64 (a : Int)] w fun e w' => WidthR (s.data.toList.drop a) a e ∧ Below w.heap.size w w' := by
  have hsm := hs
  unfold maxLen at hs
  obtain ⟨r, hr⟩ : ∃ r, run10 (s.data.toList.drop a) = r := ⟨_, rfl⟩
  have hrl := run10_len (s.data.toList.drop a)
  rw [drop_len, hr] at hrl
  have hsz : s.data.toList.length = s.size := by rw [Array.length_toList]; rfl
  rw [hsz] at hrl
  have har : a + r ≤ s.size := by omega
  have hx := ext_list s a (a + r)
  rw [show a + r - a = r by omega] at hx
  have hxs : (s.extract a (a + r)).size ≤ maxLen := by rw [ext_size s a _ har]; omega
  have HPB := hide (fun W => parseBase_any (s.extract a (a + r)) 10 W hxs)
  rw [hx] at HPB
  have HRUN : Hid (run10 (s.data.toList.drop a) + a = r + a) := by rw [hr]; rfl
  have HWD := hide (fun (h0 : 0 < r) (c : UInt8) (hc : (s.data.toList.drop a)[0]? = some c) => width_ok _ r hr h0 c hc)
  have HZ0 : Hid (r = 0 → numS (s.data.toList.drop a) = some (0, 0)) := hide (fun h => by unfold numS; rw [hr, if_pos h])
  have HB0 := hide (fm_below w (Obj.cells #[.int .i64 10] 3))
  have HC0 := hide (cell_of_row (w.alloc (Obj.cells #[.int .i64 10] 3)) w.heap.size 0 _ _ _ (heap_alloc_new w (Obj.cells #[.int .i64 10] 3)))
  have HRr := hide hr
  generalize parseB 10 ((s.data.toList.drop a).take r) = P at *
  clear hx hr hsz
  go_enter Tryz.func73, Tryz.ntmps73
  go_wp2_with fail
  refine (digits_any 10 _).mono ?_
  rintro _ _ ⟨rfl, rfl⟩
  go_wp2_with fail
  generalize w.alloc (Obj.cells #[.int .i64 10] 3) = w0 at *
  go_loopw [1] (fun i wr => ∃ (k : Nat), a ≤ k ∧ k ≤ s.size ∧ i = .int .i64 k ∧ Hid (run10 (s.data.toList.drop k) + k = r + a) ∧ Hid (Below w0.heap.size w0 wr)) (fun i _ => s.size - (intOf i).toNat)
  case atStart => exact ⟨a, Nat.le_refl _, ha, rfl, HRUN, hide (Below.refl _ _)⟩
  case round =>
    clear HRUN
    obtain ⟨k, hak, hk, rfl, HP, HBw⟩ := hrel
    have c1 := (HBw.out.cell (p := ⟨w.heap.size, 0, none⟩) (World.block_lt_of_cell? _ _ HC0.out)).trans HC0.out
    simp only [List.getElem?_toArray, List.getElem?_cons_zero] at c1
    have HD := hide (fun (ch : UInt8) => digits1_any 10 (by decide) (by decide) ch w.heap.size wr c1)
    clear c1
    have key : (k < s.size ∧ ∃ c : UInt8, Hid (s[k]? = some c) ∧ digB 10 c = true ∧ Hid (run10 (s.data.toList.drop (k + 1)) + (k + 1) = r + a)) ∨ (Hid (k = a + r) ∧ (¬ ((k : Int) < (s.size : Int)) ∨ ∃ (hlt : k < s.size) (c : UInt8), Hid (s[k]? = some c) ∧ digB 10 c = false)) := by
      by_cases hlt : k < s.size
      · have hd := drop_at s k hlt
        have hp := HP.out
        rw [hd, run10_at] at hp
        by_cases hc : 48 ≤ s[k].toNat ∧ s[k].toNat ≤ 57
        · rw [if_pos hc] at hp
          exact .inl ⟨hlt, s[k], by rw [getElem?_pos s k hlt]; rfl, (dig10 _).2 hc, by show run10 (s.data.toList.drop (k + 1)) + (k + 1) = r + a; omega⟩
        · rw [if_neg hc] at hp
          refine .inr ⟨(by omega : k = a + r), .inr ⟨hlt, s[k], by rw [getElem?_pos s k hlt]; rfl, ?_⟩⟩
          cases hq : digB 10 s[k] with
          | false => rfl
          | true => exact absurd ((dig10 _).1 hq) hc
      · have hp := HP.out
        rw [drop_end s k (by omega)] at hp
        unfold run10 at hp
        exact .inr ⟨(by omega : k = a + r), .inl (by omega)⟩
    clear HP
    rcases key with ⟨hlt, c, hc, h1, HP⟩ | ⟨HK, hE⟩
    · have hc' : s[k] = c := by have := hc.out; rw [getElem?_pos s k hlt] at this; exact Option.some.inj this
      have HD2 := hide (HD.out s[k])
      rw [show digB 10 s[k] = _ from (congrArg (digB 10) hc').trans h1] at HD2
      clear hc hc' h1 HD
      go_wp2_with fail
      refine HD2.out.mono ?_
      rintro _ w2 ⟨rfl, hB⟩
      have HB2 := hide (HBw.out.trans (hB.mono HBw.out.size))
      clear hB HD2 HBw
      go_wp2_with fail
      go_roundw
      case rel => exact ⟨k + 1, by omega, by omega, by go_num, HP, HB2⟩
      case measure => simp [intOf]; omega
    · have hfin : ∀ w2, Below w0.heap.size w0 w2 → Below w.heap.size w w2 := fun w2 h => HB0.out.trans (h.mono HB0.out.size)
      have HFin := hide hfin
      have HPB2 := HPB
      rw [← HK.out] at HPB2
      clear HPB hfin
      by_cases h0 : r = 0
      · have hka : ((k : Int) == (a : Int)) = true := by have := HK.out; simp only [beq_iff_eq]; omega
        have HN0 := hide (HZ0.out h0)
        have hM : Hid (((a + r : Nat) : Int) = (k : Int)) := hide (by rw [HK.out])
        have hfw : ∀ v1 v2 v3 : Value, v1 = .int .i64 0 → v2 = .int .i64 (k : Int) → v3 = .bool true → WidthR (s.data.toList.drop a) a (.returned (.tuple #[v1, v2, v3])) := fun v1 v2 v3 h1 h2 h3 => width_r HRr.out 0 h1 (by rw [h2, hM.out]) (by rw [h3, HN0.out]; rfl) (fun m k e => by rw [HN0.out] at e; cases e; exact ⟨rfl, by omega, h0.symm⟩)
        have HFw := hide hfw
        clear hfw HN0 hM
        rcases hE with hE | ⟨hlt, c, hc, h1⟩
        · clear HD
          go_wp2
          go_ret3
          exact ⟨HFw.out _ _ _ rfl rfl rfl, HFin.out _ HBw.out⟩
        · have hc' : s[k] = c := by have := hc.out; rw [getElem?_pos s k hlt] at this; exact Option.some.inj this
          have HD2 := hide (HD.out s[k])
          rw [show digB 10 s[k] = _ from (congrArg (digB 10) hc').trans h1] at HD2
          clear hc hc' h1 HD
          go_wp2_with fail
          refine HD2.out.mono ?_
          rintro _ w2 ⟨rfl, hB⟩
          have HB2 := hide (HBw.out.trans (hB.mono HBw.out.size))
          clear hB HD2 HBw
          go_wp2
          go_ret3
          exact ⟨HFw.out _ _ _ rfl rfl rfl, HFin.out _ HB2.out⟩
      · have hka : ((k : Int) == (a : Int)) = false := by have := HK.out; simp only [beq_eq_false_iff_ne, ne_eq]; omega
        have hlt0 : a < s.size := by omega
        have hw0 := HWD.out (by omega) s[a] (by rw [drop_at s a hlt0]; rfl)
        have hM : Hid (((a + r : Nat) : Int) = (k : Int)) := hide (by rw [HK.out])
        have hak' : (a : Int) ≤ (k : Int) := by omega
        obtain ⟨p1, p2, p3⟩ := P
        simp only at hw0 HPB2
        have hfw : ∀ (v1 v2 v3 : Value), v1 = .int .i64 (wrap64 p1) → v2 = .int .i64 (k : Int) → v3 = .bool (p2 == 0 && (((s[a].toNat : Int) != 48) && decide (p1 ≤ 4096))) → WidthR (s.data.toList.drop a) a (.returned (.tuple #[v1, v2, v3])) := fun v1 v2 v3 h1 h2 h3 => width_r HRr.out _ h1 (by rw [h2, hM.out]) (by rw [h3, hw0.1]) (fun m k e => by
          obtain ⟨g1, g2, g3⟩ := hw0.2 m k e
          exact ⟨by unfold wrap64; rw [g1]; omega, g2, g3⟩)
        have HFw := hide hfw
        have hlt0' : (a : Int) < (s.size : Int) := by omega
        have hcase : (p2 == 0) = false ∨ ((p2 == 0) = true ∧ ((s[a].toNat : Int) != 48) = false) ∨ ((p2 == 0) = true ∧ ((s[a].toNat : Int) != 48) = true) := by
          cases h1 : (p2 == 0) <;> cases h2 : ((s[a].toNat : Int) != 48) <;> simp
        clear hw0 HWD HZ0 hfw hM
        rcases hE with hE | ⟨hlt, c, hc, h1⟩
        · clear HD
          rcases hcase with g1 | ⟨g1, g2⟩ | ⟨g1, g2⟩
          all_goals
            go_wp2_with fail
            refine (HPB2.out _).mono ?_
            rintro _ _ ⟨rfl, rfl⟩
            go_wp2
            go_ret3
            exact ⟨HFw.out _ _ _ rfl rfl (by first | (rw [g1, g2]; rfl) | (rw [g1]; rfl)), HFin.out _ HBw.out⟩
        · have hc' : s[k] = c := by have := hc.out; rw [getElem?_pos s k hlt] at this; exact Option.some.inj this
          have HD2 := hide (HD.out s[k])
          rw [show digB 10 s[k] = _ from (congrArg (digB 10) hc').trans h1] at HD2
          clear hc hc' h1 HD
          rcases hcase with g1 | ⟨g1, g2⟩ | ⟨g1, g2⟩
          all_goals
            go_wp2_with fail
            refine HD2.out.mono ?_
            rintro _ w2 ⟨rfl, hB⟩
            have HB2 := hide (HBw.out.trans (hB.mono HBw.out.size))
            clear hB HBw
            go_wp2_with fail
            refine (HPB2.out _).mono ?_
            rintro _ _ ⟨rfl, rfl⟩
            go_wp2
            go_ret3
            exact ⟨HFw.out _ _ _ rfl rfl (by first | (rw [g1, g2]; rfl) | (rw [g1]; rfl)), HFin.out _ HB2.out⟩
end Go.Proofs.YtcmfpafcipgejaaGreatDoor

/- Scan: directives, what a pattern begins with, Check. -/
namespace Go.Proofs.YtcmfpafcipgejaaGreatDoor
open Go.RowKit
def pt0 : Pt := ⟨0, 0, false, 0, 0⟩
def PtB (W : World) (g : Nat) (p : Pt) : Prop := W.heap[g]? = some (.cells #[.int .u8 (p.verb.toNat : Int), .int .u8 (p.want.toNat : Int), .bool p.quiet, .int .i64 (p.wd : Int), .int .i64 (p.len : Int)] 80)
theorem PtB.lt {W : World} {g : Nat} {p : Pt} (h : PtB W g p) : g < W.heap.size := (Array.getElem?_eq_some_iff.1 h).1
theorem PtB.soft {W : World} {g : Nat} {p : Pt} (h : PtB W g p) (j : Nat) : W.frozen? ⟨g, j, none⟩ = false := frozen_of_row W g j _ _ h
theorem PtB.below {W W' : World} {g : Nat} {p : Pt} (h : PtB W g p) (hB : Below W.heap.size W W') : PtB W' g p := (hB.block g h.lt).trans h
theorem PtB.new (w : World) : PtB (w.alloc (Obj.cells #[.int .u8 0, .int .u8 0, .bool false, .int .i64 0, .int .i64 0] 80)) w.heap.size pt0 := heap_alloc_new w _
theorem PtB.cs {W : World} {g : Nat} {p : Pt} (h : PtB W g p) : W.cell? ⟨g, 0, none⟩ = some (.int .u8 (p.verb.toNat : Int)) ∧ W.cell? ⟨g, 1, none⟩ = some (.int .u8 (p.want.toNat : Int)) ∧ W.cell? ⟨g, 2, none⟩ = some (.bool p.quiet) ∧ W.cell? ⟨g, 3, none⟩ = some (.int .i64 (p.wd : Int)) ∧ W.cell? ⟨g, 4, none⟩ = some (.int .i64 (p.len : Int)) := ⟨cell_of_row W g 0 _ _ _ h, cell_of_row W g 1 _ _ _ h, cell_of_row W g 2 _ _ _ h, cell_of_row W g 3 _ _ _ h, cell_of_row W g 4 _ _ _ h⟩
theorem PtB.fill {w : World} {g : Nat} {y : Pt} (h : PtB w g y) (p : Pt) : PtB (((((w.setCell ⟨g, 0, none⟩ (.int .u8 (p.verb.toNat : Int))).setCell ⟨g, 1, none⟩ (.int .u8 (p.want.toNat : Int))).setCell ⟨g, 2, none⟩ (.bool p.quiet)).setCell ⟨g, 3, none⟩ (.int .i64 (p.wd : Int))).setCell ⟨g, 4, none⟩ (.int .i64 (p.len : Int))) g p := by
  have e0 := Go.heap_setCell_same _ g 0 _ _ (.int .u8 (p.verb.toNat : Int)) h
  simp only [List.setIfInBounds_toArray, List.set_cons_zero] at e0
  have e1 := Go.heap_setCell_same _ g 1 _ _ (.int .u8 (p.want.toNat : Int)) e0
  simp only [List.setIfInBounds_toArray, List.set_cons_zero, List.set_cons_succ] at e1
  have e2 := Go.heap_setCell_same _ g 2 _ _ (.bool p.quiet) e1
  simp only [List.setIfInBounds_toArray, List.set_cons_zero, List.set_cons_succ] at e2
  have e3 := Go.heap_setCell_same _ g 3 _ _ (.int .i64 (p.wd : Int)) e2
  simp only [List.setIfInBounds_toArray, List.set_cons_zero, List.set_cons_succ] at e3
  have e4 := Go.heap_setCell_same _ g 4 _ _ (.int .i64 (p.len : Int)) e3
  simp only [List.setIfInBounds_toArray, List.set_cons_zero, List.set_cons_succ] at e4
  exact e4
theorem five_below {w0 W : World} (h : Below w0.heap.size w0 W) {g : Nat} (hg : w0.heap.size ≤ g) (a b c d e : Value) : Below w0.heap.size w0 (((((W.setCell ⟨g, 0, none⟩ a).setCell ⟨g, 1, none⟩ b).setCell ⟨g, 2, none⟩ c).setCell ⟨g, 3, none⟩ d).setCell ⟨g, 4, none⟩ e) :=
  ((((h.setCell (p := ⟨g, 0, none⟩) hg _).setCell (p := ⟨g, 1, none⟩) hg _).setCell (p := ⟨g, 2, none⟩) hg _).setCell (p := ⟨g, 3, none⟩) hg _).setCell (p := ⟨g, 4, none⟩) hg _
theorem res_ptp {fn : Func} {p u : Tmp} {w : World} (h : fn.results = #[.cell p 80, .tmp u]) (tmps : Array Value) (g : Nat) (hp : tmps.getD p undef = .pointer (some ⟨g, 0, none⟩)) {x : Pt} (hg : PtB w g x) :
    (results fn tmps).run Tryz.prog w = .ok (.tuple #[ptV x, tmps.getD u undef]) w := by
  obtain ⟨h0, h1, h2, h3, h4⟩ := hg.cs
  have hp' : tmps[p]?.getD undef = .pointer (some ⟨g, 0, none⟩) := by simpa using hp
  have a := Tryz.isAgg80
  have b := Tryz.sizeOf80
  have c0 := Tryz.isAgg3
  have c1 := Tryz.sizeOf3
  have c2 := Tryz.underlying3
  have d0 := Tryz.isAgg5
  have d1 := Tryz.sizeOf5
  have d2 := Tryz.underlying5
  have e0 := Tryz.isAgg4
  have e1 := Tryz.sizeOf4
  have e2 := Tryz.underlying4
  unfold ptV
  simp only [results, h]
  simp only [loadVar]
  go_simp
def optP (r : Option Pt) : Value := .tuple #[ptV (r.getD pt0), .bool r.isSome]
theorem qS_at (s : ByteArray) (h : 1 < s.size) : qS s.data.toList = ((s[1].toNat : Int) == 42) := by
  unfold qS
  rw [drop_at s 1 h]
  exact (u8_int s[1] 42).symm
theorem qS_end (s : ByteArray) (h : ¬ 1 < s.size) : qS s.data.toList = false := by
  unfold qS
  rw [drop_end s 1 (by omega)]
theorem verbS_at (s : ByteArray) (k : Nat) (h : k < s.size) : verbS s.data.toList k = if (sv s[k].toNat || (s[k].toNat == 37 && ((k : Int) == 1))) = true then some s[k] else none := by
  unfold verbS
  rw [drop_at s k h]
  have e : (sv s[k].toNat = true ∨ s[k].toNat = 37 ∧ k = 1) ↔ (sv s[k].toNat || (s[k].toNat == 37 && ((k : Int) == 1))) = true := by
    simp only [Bool.or_eq_true, Bool.and_eq_true, beq_iff_eq]
    constructor
    · rintro (h1 | ⟨h1, h2⟩)
      · exact .inl h1
      · exact .inr ⟨h1, by omega⟩
    · rintro (h1 | ⟨h1, h2⟩)
      · exact .inl h1
      · exact .inr ⟨h1, by omega⟩
  by_cases h1 : (sv s[k].toNat || (s[k].toNat == 37 && ((k : Int) == 1))) = true
  · rw [if_pos h1]; exact if_pos (e.2 h1)
  · rw [if_neg h1]; exact if_neg (fun x => h1 (e.1 x))
theorem verbS_end (s : ByteArray) (k : Nat) (h : s.size ≤ k) : verbS s.data.toList k = none := by
  unfold verbS
  rw [drop_end s k h]
set_option linter.unusedSimpArgs false in
set_option maxRecDepth 100000 in
set_option maxHeartbeats 8000000 in
theorem directive_any (s : ByteArray) (w : World) (hs : s.size ≤ maxLen) (h1 : 1 ≤ s.size) :
    Calls Tryz.prog 44 #[.string s] w fun e w' => e = .returned (optP (pdirS s.data.toList)) ∧ Below w.heap.size w w' := by
  have hsm := hs
  unfold maxLen at hs
  obtain ⟨RR, hR⟩ : ∃ RR, RR = pdirS s.data.toList := ⟨_, rfl⟩
  rw [← hR]
  have hcase : ∃ (q : Bool) (a : Nat), qS s.data.toList = q ∧ a = (if q then 2 else 1) ∧ a ≤ s.size ∧ ((q = false ∧ ¬ 1 < s.size) ∨ ∃ h : 1 < s.size, ((s[1].toNat : Int) == 42) = q) := by
    by_cases h : 1 < s.size
    · have hq := qS_at s h
      cases hb : ((s[1].toNat : Int) == 42)
      · exact ⟨false, 1, hq.trans hb, rfl, by omega, .inr ⟨h, hb⟩⟩
      · exact ⟨true, 2, hq.trans hb, rfl, by omega, .inr ⟨h, hb⟩⟩
    · exact ⟨false, 1, qS_end s h, rfl, by omega, .inl ⟨rfl, h⟩⟩
  obtain ⟨q, a, hq, hqa, ha, hc⟩ := hcase
  have hR2 : RR = match numS (s.data.toList.drop a) with
      | none => none
      | some (n, k) => (verbS s.data.toList (a + k)).map fun v => ⟨v, v, q, n, a + k + 1⟩ := by
    rw [hR]
    unfold pdirS
    rw [hq, ← hqa]
    rfl
  have HWA := hide (widthAt_any s a · hsm ha)
  have hrl := run10_len (s.data.toList.drop a)
  rw [drop_len, show s.data.toList.length = s.size by rw [Array.length_toList]; rfl] at hrl
  generalize hr : run10 (s.data.toList.drop a) = r at hrl
  have HRr := hide hr
  obtain ⟨QQ, hQQ⟩ : ∃ QQ, QQ = q := ⟨_, rfl⟩
  rw [← hQQ] at hR2
  have HQQ := hide hQQ
  clear hQQ
  have HR2 := hide hR2
  have HA := hide (PtB.new w)
  have HB0 := hide (fm_below w (Obj.cells #[.int .u8 0, .int .u8 0, .bool false, .int .i64 0, .int .i64 0] 80))
  obtain ⟨k, hk⟩ : ∃ k, k = a + r := ⟨_, rfl⟩
  have hks : k ≤ s.size := by omega
  have HK := hide hk
  clear hR hR2 hr hq hrl hk
  have hcase : (q = false ∧ a = 1 ∧ ¬ (1 : Int) < (s.size : Int)) ∨ (∃ h : 1 < s.size, q = false ∧ a = 1 ∧ (1 : Int) < (s.size : Int) ∧ ((s[1].toNat : Int) == 42) = false) ∨ (∃ h : 1 < s.size, q = true ∧ a = 2 ∧ (1 : Int) < (s.size : Int) ∧ ((s[1].toNat : Int) == 42) = true) := by
    rcases hc with ⟨rfl, h⟩ | ⟨h, hb⟩
    · exact .inl ⟨rfl, hqa, by omega⟩
    · cases q
      · exact .inr (.inl ⟨h, rfl, hqa, by omega, hb⟩)
      · exact .inr (.inr ⟨h, rfl, hqa, by omega, hb⟩)
  clear hc hqa
  have hva : ∃ A : Int, (a : Int) = A := ⟨_, rfl⟩
  rcases hcase with ⟨rfl, rfl, g1⟩ | ⟨hlt1, rfl, rfl, g1, g2⟩ | ⟨hlt1, rfl, rfl, g1, g2⟩
  all_goals
    go_enter Tryz.func44, Tryz.ntmps44
    go_wp2_with fail
    refine (HWA.out _).mono ?_
    rintro _ w1 ⟨⟨n, rfl, hn⟩, hB1⟩
    rw [HRr.out] at hn ⊢
    rw [← HK.out]
    have HA1 := hide (HA.out.below hB1)
    have HB1 := hide (HB0.out.trans (hB1.mono HB0.out.size))
    clear hB1 HWA HA HB0
    generalize hN : numS (s.data.toList.drop _) = N at *
    have HNn := hide hn
    clear hn hN
    cases N with
    | none =>
      have hre : RR = none := HR2.out
      subst hre
      obtain ⟨x0, x1, x2, x3, x4⟩ := HA1.out.cs
      have f0 := HA1.out.soft
      go_wp2
      refine bodyPost_ret (res_ptp rfl _ w.heap.size rfl (HA1.out.fill pt0)) rfl ?_
      exact ⟨rfl, five_below HB1.out (Nat.le_refl _) _ _ _ _ _⟩
    | some mk =>
      obtain ⟨m, k2⟩ := mk
      obtain ⟨n1, n2, n3⟩ := HNn.out m k2 rfl
      subst n1
      subst n3
      have hre : RR = (verbS s.data.toList k).map fun v => ⟨v, v, QQ, m, k + 1⟩ := by
        have := HR2.out
        rw [HK.out]
        exact this
      by_cases hkl : k < s.size
      · have hkl' : ((k : Int) == (s.size : Int)) = false := by simp; omega
        have hkl2 : (k : Int) < (s.size : Int) := by omega
        rw [verbS_at s k hkl] at hre
        have HV := hide (sIsVerb_any s[k] (k : Int) · )
        generalize hb : (sv s[k].toNat || (s[k].toNat == 37 && ((k : Int) == 1))) = b at *
        clear hb
        have HRe := hide hre
        clear hre HR2 HK HNn
        cases b
        · have hre : RR = none := HRe.out.trans (by simp)
          subst hre
          obtain ⟨x0, x1, x2, x3, x4⟩ := HA1.out.cs
          have f0 := HA1.out.soft
          go_wp2_with fail
          refine (HV.out _).mono ?_
          rintro _ _ ⟨rfl, rfl⟩
          go_wp2
          refine bodyPost_ret (res_ptp rfl _ w.heap.size rfl (HA1.out.fill pt0)) rfl ?_
          exact ⟨rfl, five_below HB1.out (Nat.le_refl _) _ _ _ _ _⟩
        · have hre : RR = some ⟨s[k], s[k], QQ, m, k + 1⟩ := HRe.out.trans (by simp)
          subst hre
          obtain ⟨x0, x1, x2, x3, x4⟩ := HA1.out.cs
          have f0 := HA1.out.soft
          have e1 : wrap64 ((k : Int) + 1) = ((k + 1 : Nat) : Int) := by unfold wrap64; omega
          have e1' : IntKind.i64.wrap ((k : Int) + 1) = ((k + 1 : Nat) : Int) := by rw [IntKind.wrap_i64]; omega
          go_wp2_with fail
          refine (HV.out _).mono ?_
          rintro _ _ ⟨rfl, rfl⟩
          go_wp2
          refine wp_region_noPanic ?_
          refine wp_region_held_drew (S := fun _ => True) (by kernel_rfl) (trivial) (fun hHeld => ?_)
          refine wpAnyH_take (i := 0) (oi := ?_) (v := ?_) ?_ (by kernel_rfl) (by kernel_rfl) (by kernel_rfl) (fun _ _ _ h => (h : False).elim) (Or.inl ⟨?_, ?_⟩) hHeld ?_
          rotate_left 2
          · (simp only [List.getElem?_toArray, List.getElem?_cons_zero]; rfl)
          · rfl
          · (intro w hSw; (try dsimp only at hSw); go_simp <;> with_reducible rfl)
          try simp only [Act.put, List.setIfInBounds_toArray, List.set_cons_zero, List.set_cons_succ]
          refine wpAnyH_take (i := 1) (oi := ?_) (v := ?_) ?_ (by kernel_rfl) (by kernel_rfl) (by kernel_rfl) (fun _ _ _ h => (h : False).elim) (Or.inl ⟨?_, ?_⟩) hHeld ?_
          rotate_left 2
          · (simp only [List.getElem?_toArray, List.getElem?_cons_zero, List.getElem?_cons_succ]; rfl)
          · rfl
          · (intro w hSw; (try dsimp only at hSw); go_simp <;> with_reducible rfl)
          try simp only [Act.put, List.setIfInBounds_toArray, List.set_cons_zero, List.set_cons_succ]
          refine wpAnyH_take (i := 2) (oi := ?_) (v := ?_) ?_ (by kernel_rfl) (by kernel_rfl) (by kernel_rfl) (fun _ _ _ h => (h : False).elim) (Or.inl ⟨?_, ?_⟩) hHeld ?_
          rotate_left 2
          · (simp only [List.getElem?_toArray, List.getElem?_cons_zero, List.getElem?_cons_succ]; rfl)
          · rfl
          · (intro w hSw; (try dsimp only at hSw); go_simp <;> with_reducible rfl)
          try simp only [Act.put, List.setIfInBounds_toArray, List.set_cons_zero, List.set_cons_succ]
          refine wpAnyH_take (i := 3) (oi := ?_) (v := ?_) ?_ (by kernel_rfl) (by kernel_rfl) (by kernel_rfl) (fun _ _ _ h => (h : False).elim) (Or.inl ⟨?_, ?_⟩) hHeld ?_
          rotate_left 2
          · (simp only [List.getElem?_toArray, List.getElem?_cons_zero, List.getElem?_cons_succ]; rfl)
          · rfl
          · (intro w hSw; (try dsimp only at hSw); go_simp <;> with_reducible rfl)
          try simp only [Act.put, List.setIfInBounds_toArray, List.set_cons_zero, List.set_cons_succ]
          refine wpAnyH_take (i := 4) (oi := ?_) (v := ?_) ?_ (by kernel_rfl) (by kernel_rfl) (by kernel_rfl) (fun _ _ _ h => (h : False).elim) (Or.inl ⟨?_, ?_⟩) hHeld ?_
          rotate_left 2
          · (simp only [List.getElem?_toArray, List.getElem?_cons_zero, List.getElem?_cons_succ]; rfl)
          · rfl
          · (intro w hSw; (try dsimp only at hSw); go_simp <;> with_reducible rfl)
          try simp only [Act.put, List.setIfInBounds_toArray, List.set_cons_zero, List.set_cons_succ]
          refine wpAnyH_take (i := 5) (oi := ?_) (v := ?_) ?_ (by kernel_rfl) (by kernel_rfl) (by kernel_rfl) (fun _ _ _ h => (h : False).elim) (Or.inl ⟨?_, ?_⟩) hHeld ?_
          rotate_left 2
          · (simp only [List.getElem?_toArray, List.getElem?_cons_zero, List.getElem?_cons_succ]; rfl)
          · rfl
          · (intro w hSw; (try dsimp only at hSw); go_simp <;> with_reducible rfl)
          try simp only [Act.put, List.setIfInBounds_toArray, List.set_cons_zero, List.set_cons_succ]
          refine wpAnyH_take (i := 6) (oi := ?_) (v := ?_) ?_ (by kernel_rfl) (by kernel_rfl) (by kernel_rfl) (fun _ _ _ h => (h : False).elim) (Or.inl ⟨?_, ?_⟩) hHeld ?_
          rotate_left 2
          · (simp only [List.getElem?_toArray, List.getElem?_cons_zero, List.getElem?_cons_succ]; rfl)
          · rfl
          · (intro w hSw; (try dsimp only at hSw); go_simp <;> with_reducible rfl)
          try simp only [Act.put, List.setIfInBounds_toArray, List.set_cons_zero, List.set_cons_succ]
          refine wpAnyH_take (i := 7) (oi := ?_) (v := ?_) ?_ (by kernel_rfl) (by kernel_rfl) (by kernel_rfl) (fun _ _ _ h => (h : False).elim) (Or.inl ⟨?_, ?_⟩) hHeld ?_
          rotate_left 2
          · (simp only [List.getElem?_toArray, List.getElem?_cons_zero, List.getElem?_cons_succ]; rfl)
          · rfl
          · (intro w hSw; (try dsimp only at hSw); go_simp <;> with_reducible rfl)
          try simp only [Act.put, List.setIfInBounds_toArray, List.set_cons_zero, List.set_cons_succ]
          refine wpAnyH_take (i := 8) (oi := ?_) (v := ?_) ?_ (by kernel_rfl) (by kernel_rfl) (by kernel_rfl) (fun _ _ _ h => (h : False).elim) (Or.inl ⟨?_, ?_⟩) hHeld ?_
          rotate_left 2
          · (simp only [List.getElem?_toArray, List.getElem?_cons_zero, List.getElem?_cons_succ]; rfl)
          · rfl
          · (intro w hSw; (try dsimp only at hSw); go_simp <;> with_reducible rfl)
          try simp only [Act.put, List.setIfInBounds_toArray, List.set_cons_zero, List.set_cons_succ]
          refine wpAnyH_take (i := 9) (oi := ?_) (v := ?_) ?_ (by kernel_rfl) (by kernel_rfl) (by kernel_rfl) (fun _ _ _ h => (h : False).elim) (Or.inl ⟨?_, ?_⟩) hHeld ?_
          rotate_left 2
          · (simp only [List.getElem?_toArray, List.getElem?_cons_zero, List.getElem?_cons_succ]; rfl)
          · rfl
          · (intro w hSw; (try dsimp only at hSw); go_simp <;> with_reducible rfl)
          try simp only [Act.put, List.setIfInBounds_toArray, List.set_cons_zero, List.set_cons_succ]
          refine wpAnyH_take (i := 10) (oi := ?_) (v := ?_) ?_ (by kernel_rfl) (by kernel_rfl) (by kernel_rfl) (fun _ _ _ h => (h : False).elim) (Or.inl ⟨?_, ?_⟩) hHeld ?_
          rotate_left 2
          · (simp only [List.getElem?_toArray, List.getElem?_cons_zero, List.getElem?_cons_succ]; rfl)
          · rfl
          · (intro w hSw; (try dsimp only at hSw); go_simp <;> with_reducible rfl)
          try simp only [Act.put, List.setIfInBounds_toArray, List.set_cons_zero, List.set_cons_succ]
          refine wpAnyH_ready (rs := [11]) (by kernel_rfl) (by simp) ?_
          refine AllReadyH.cons (o := ?_) ?_ (fun K' hK => ?_) AllReadyH.nil
          rotate_left 1
          · (simp only [List.getElem?_toArray, List.getElem?_cons_zero, List.getElem?_cons_succ]; rfl)
          go_simp
          refine hK.out _ _ (trivial) (fun hHeld2 => ?_)
          clear hK K' hHeld
          have hHeld := hHeld2
          clear hHeld2
          try simp only [Act.put, List.setIfInBounds_toArray, List.set_cons_zero, List.set_cons_succ]
          refine wpAnyH_take (i := 12) (oi := ?_) (v := ?_) ?_ (by kernel_rfl) (by kernel_rfl) (by kernel_rfl) (fun _ _ _ h => (h : False).elim) (Or.inl ⟨?_, ?_⟩) hHeld ?_
          rotate_left 2
          · (simp only [List.getElem?_toArray, List.getElem?_cons_zero, List.getElem?_cons_succ]; rfl)
          · rfl
          · (intro w hSw; (try dsimp only at hSw); go_simp <;> with_reducible rfl)
          try simp only [Act.put, List.setIfInBounds_toArray, List.set_cons_zero, List.set_cons_succ]
          refine wpAnyH_done (by kernel_rfl) ?_ _
          refine NoPanic.normal ?_
          have hq := HQQ.out
          subst hq
          go_wp2
          rw [show ((k : Int) + 1) = ((k + 1 : Nat) : Int) from rfl]
          refine bodyPost_ret (res_ptp rfl _ w.heap.size rfl ((HA1.out.fill ⟨s[k], s[k], _, m, k + 1⟩).below (Below.refl _ _).drew)) rfl ?_
          exact ⟨rfl, (five_below HB1.out (Nat.le_refl _) _ _ _ _ _).drew⟩
      · have hkl' : ((k : Int) == (s.size : Int)) = true := by simp; omega
        have hre : RR = none := by rw [hre, verbS_end s k (by omega)]; rfl
        subst hre
        obtain ⟨x0, x1, x2, x3, x4⟩ := HA1.out.cs
        have f0 := HA1.out.soft
        clear HR2 HK HNn
        go_wp2
        refine bodyPost_ret (res_ptp rfl _ w.heap.size rfl (HA1.out.fill pt0)) rfl ?_
        exact ⟨rfl, five_below HB1.out (Nat.le_refl _) _ _ _ _ _⟩
set_option maxRecDepth 100000 in
set_option maxHeartbeats 4000000 in
theorem sfirst_any (s : ByteArray) (w : World) (hs : s.size ≤ maxLen) (h1 : 1 ≤ s.size) :
    Calls Tryz.prog 26 #[.string s] w fun e w' => e = .returned (optP (firstS s.data.toList)) ∧ Below w.heap.size w w' := by
  have hsm := hs
  unfold maxLen at hs
  have hd : s.data.toList = s[0] :: s.data.toList.drop 1 := by
    have := drop_at s 0 (by omega)
    simpa using this
  have hf : firstS s.data.toList = if s[0].toNat = 37 then pdirS s.data.toList else if s[0].toNat = 32 ∨ s[0].toNat = 10 then some ⟨32, 0, false, 0, 1⟩ else some ⟨37, s[0], false, 0, 1⟩ := by
    rw [hd]
    rfl
  have HD := hide (directive_any s · hsm h1)
  have HA := hide (PtB.new w)
  have HB0 := hide (fm_below w (Obj.cells #[.int .u8 0, .int .u8 0, .bool false, .int .i64 0, .int .i64 0] 80))
  have e0 : (0 : Int) < (s.size : Int) := by omega
  have e0' : 0 < s.size := by omega
  rw [hf]
  clear hf hd
  by_cases g1 : s[0].toNat = 37
  · rw [if_pos g1]
    have g1' : ((s[0].toNat : Int) == 37) = true := by simp; omega
    generalize hR : pdirS s.data.toList = R at *
    clear hR g1
    obtain ⟨x, hx⟩ : ∃ x, x = R.getD pt0 := ⟨_, rfl⟩
    obtain ⟨b, hb⟩ : ∃ b, b = R.isSome := ⟨_, rfl⟩
    unfold optP at HD ⊢
    rw [← hx, ← hb] at HD ⊢
    clear hx hb
    go_enter Tryz.func26, Tryz.ntmps26
    go_wp2_with fail
    refine (HD.out _).mono ?_
    rintro _ w1 ⟨rfl, hB1⟩
    have HA1 := hide (HA.out.below hB1)
    have HB1 := hide (HB0.out.trans (hB1.mono HB0.out.size))
    obtain ⟨x0, x1, x2, x3, x4⟩ := HA1.out.cs
    have f0 := HA1.out.soft
    clear hB1
    unfold ptV
    go_wp2
    refine bodyPost_ret (res_ptp rfl _ w.heap.size rfl (HA1.out.fill x)) rfl ?_
    exact ⟨rfl, five_below HB1.out (Nat.le_refl _) _ _ _ _ _⟩
  · rw [if_neg g1]
    have g1' : ((s[0].toNat : Int) == 37) = false := by simp; omega
    have y0 := HA.out.cs
    by_cases g2 : s[0].toNat = 32 ∨ s[0].toNat = 10
    · rw [if_pos g2]
      rcases (show ((s[0].toNat : Int) == 32) = true ∨ (((s[0].toNat : Int) == 32) = false ∧ ((s[0].toNat : Int) == 10) = true) by
        by_cases h : s[0].toNat = 32
        · exact .inl (by simp; omega)
        · exact .inr ⟨by simp; omega, by simp; omega⟩) with g3 | ⟨g3, g4⟩
      all_goals
        clear g1 g2 HD
        go_enter Tryz.func26, Tryz.ntmps26
        go_wp2
        refine bodyPost_ret (res_ptp rfl _ w.heap.size rfl (show PtB _ w.heap.size ⟨32, 0, false, 0, 1⟩ from heap_alloc_new w _)) rfl ?_
        exact ⟨rfl, fm_below _ _⟩
    · rw [if_neg g2]
      have g3 : ((s[0].toNat : Int) == 32) = false := by simp; omega
      have g4 : ((s[0].toNat : Int) == 10) = false := by simp; omega
      clear g1 g2 HD
      go_enter Tryz.func26, Tryz.ntmps26
      go_wp2
      refine bodyPost_ret (res_ptp rfl _ w.heap.size rfl (show PtB _ w.heap.size ⟨37, s[0], false, 0, 1⟩ from heap_alloc_new w _)) rfl ?_
      exact ⟨rfl, fm_below _ _⟩
theorem numS_bd {l : List UInt8} {n k : Nat} (h : numS l = some (n, k)) : n ≤ 4096 := by
  unfold numS at h
  split at h
  · cases h; decide
  · split at h
    · cases h
    · rename_i h1 h2
      cases h
      omega
theorem verbS_lt {l : List UInt8} {k : Nat} {v : UInt8} (h : verbS l k = some v) : k < l.length := by
  unfold verbS at h
  split at h
  · cases h
  · rename_i c2 r2 hd
    have := congrArg List.length hd
    rw [List.length_drop] at this
    simp only [List.length_cons] at this
    omega
theorem firstS_len {l : List UInt8} {q : Pt} (h : firstS l = some q) : 1 ≤ q.len ∧ q.len ≤ l.length ∧ q.wd ≤ 4096 := by
  unfold firstS at h
  split at h
  · cases h
  · rename_i c r
    split at h
    · unfold pdirS at h
      simp only at h
      generalize (if qS (c :: r) = true then 2 else 1) = a at h
      split at h
      · cases h
      · rename_i n k hn
        have hb := numS_bd hn
        obtain ⟨v, hv, rfl⟩ := Option.map_eq_some_iff.1 h
        have := verbS_lt hv
        refine ⟨?_, ?_, hb⟩
        · show 1 ≤ a + k + 1
          omega
        · show a + k + 1 ≤ _
          omega
    · split at h
      · cases h
        exact ⟨Nat.le_refl 1, by show 1 ≤ r.length + 1; omega, Nat.zero_le _⟩
      · cases h
        exact ⟨Nat.le_refl 1, by show 1 ≤ r.length + 1; omega, Nat.zero_le _⟩
theorem firstS_most {l : List UInt8} {q : Pt} (h : firstS l = some q) : q.most ≤ 4096 := by
  have := (firstS_len h).2.2
  unfold Pt.most
  split
  · omega
  · split <;> omega
theorem chkF_two : ∀ (k k2 : Nat) (l : List UInt8) (p n : Nat), l.length ≤ k → l.length ≤ k2 → chkF k l p n = chkF k2 l p n
  | 0, k2, l, p, n, h, _ => by
    have : l = [] := List.length_eq_zero_iff.1 (by omega)
    subst this
    cases k2 <;> rfl
  | k + 1, k2, [], p, n, _, _ => by cases k2 <;> rfl
  | k + 1, 0, c :: r, p, n, _, h2 => absurd h2 (by simp)
  | k + 1, k2 + 1, c :: r, p, n, h, h2 => by
    unfold chkF
    split
    · rfl
    · rename_i q hq
      have hl := firstS_len hq
      have e : ((c :: r).drop q.len).length = r.length + 1 - q.len := by rw [List.length_drop]; rfl
      have g1 : r.length + 1 ≤ k + 1 := h
      have g2 : r.length + 1 ≤ k2 + 1 := h2
      exact chkF_two k k2 _ _ _ (by omega) (by omega)
theorem chkF_fuel (k : Nat) (l : List UInt8) (p n : Nat) (h : l.length ≤ k) : chkF k l p n = chkF l.length l p n := chkF_two k l.length l p n h (Nat.le_refl _)
def chkR (l : List UInt8) (p n : Nat) : Int × Nat := chkF l.length l p n
theorem chkR_nil (p n : Nat) : chkR [] p n = (0, n) := rfl
theorem chkR_bad {l : List UInt8} (h0 : l ≠ []) (h : firstS l = none) (p n : Nat) : chkR l p n = (171, p) := by
  cases l with
  | nil => exact absurd rfl h0
  | cons c r =>
    unfold chkR
    rw [List.length_cons]
    unfold chkF
    rw [h]
theorem chkR_step {l : List UInt8} {q : Pt} (h : firstS l = some q) (p n : Nat) : chkR l p n = chkR (l.drop q.len) (p + q.len) (if q.tells then n + 1 else n) := by
  cases l with
  | nil => cases h
  | cons c r =>
    have hl := firstS_len h
    unfold chkR
    rw [List.length_cons]
    conv => lhs; unfold chkF
    rw [h]
    exact chkF_fuel r.length _ _ _ (by rw [List.length_drop]; simp only [List.length_cons]; omega)
end Go.Proofs.YtcmfpafcipgejaaGreatDoor

/- Scan: Check. -/
namespace Go.Proofs.YtcmfpafcipgejaaGreatDoor
open Go.RowKit
theorem wrap_small (x : Nat) (h : x ≤ 4611686018427387904) : wrap64 (x : Int) = (x : Int) ∧ IntKind.i64.wrap (x : Int) = (x : Int) := by
  rw [IntKind.wrap_i64]
  unfold wrap64
  constructor <;> omega
theorem wrap_sum (x y : Nat) (h : x + y ≤ 4611686018427387904) : wrap64 ((x : Int) + (y : Int)) = ((x + y : Nat) : Int) ∧ IntKind.i64.wrap ((x : Int) + (y : Int)) = ((x + y : Nat) : Int) := wrap_small (x + y) h
set_option maxRecDepth 100000 in
set_option maxHeartbeats 8000000 in
theorem check_any (s : ByteArray) (w : World) (hs : s.size ≤ maxLen) :
    Calls Tryz.prog 9 #[.string s] w fun e w' => e = .returned (.tuple #[.int .i64 (chkV s.data.toList).1, .int .i64 ((chkV s.data.toList).2 : Int)]) ∧ Below w.heap.size w w' := by
  have hsm := hs
  unfold maxLen at hs
  have hsz : s.data.toList.length = s.size := by rw [Array.length_toList]; rfl
  unfold chkV
  rw [hsz]
  by_cases h1 : 65536 < s.size
  · rw [if_pos h1]
    have h1' : (65536 : Int) < (s.size : Int) := by omega
    go_enter Tryz.func9, Tryz.ntmps9
    go_wp2
    go_ret2
    exact ⟨rfl, Below.refl _ _⟩
  · rw [if_neg h1]
    have h1' : ¬ (65536 : Int) < (s.size : Int) := by omega
    obtain ⟨R, hR⟩ : ∃ R, R = chkF s.size s.data.toList 0 0 := ⟨_, rfl⟩
    have hR2 : chkR (s.data.toList.drop 0) 0 0 = R := by rw [hR, List.drop_zero]; unfold chkR; rw [hsz]
    rw [← hR]
    have HR := hide hR2
    clear hR hR2 hsz
    go_enter Tryz.func9, Tryz.ntmps9
    go_wp2_with fail
    go_loopw [4, 5] (fun n i wr => ∃ (p m : Nat), p ≤ s.size ∧ m ≤ p ∧ n = .int .i64 m ∧ i = .int .i64 p ∧ Hid (chkR (s.data.toList.drop p) p m = R) ∧ Hid (Below w.heap.size w wr)) (fun _ i _ => s.size - (intOf i).toNat)
    case atStart => exact ⟨0, 0, Nat.zero_le _, Nat.le_refl _, rfl, rfl, HR, hide (Below.refl _ _)⟩
    case round =>
      clear HR
      obtain ⟨p, m, hp, hm, rfl, rfl, HP, HB⟩ := hrel
      by_cases hlt : p < s.size
      · have hlt' : (p : Int) < (s.size : Int) := by omega
        have hel := str_dropE s p
        have hes := ext_size s p s.size (Nat.le_refl _)
        have HF := hide (fun W => sfirst_any (s.extract p s.size) W (by unfold maxLen; rw [hes]; omega) (by rw [hes]; omega))
        rw [hel] at HF
        have hne : s.data.toList.drop p ≠ [] := by rw [drop_at s p hlt]; simp
        cases hq : firstS (s.data.toList.drop p) with
        | none =>
          have hpp := HP.out
          rw [chkR_bad hne hq] at hpp
          subst hpp
          rw [hq] at HF
          unfold optP at HF
          clear hel hes hne hq
          go_wp2_with fail
          refine (HF.out _).mono ?_
          rintro _ w1 ⟨rfl, hB⟩
          have HB1 := hide (HB.out.trans (hB.mono HB.out.size))
          clear hB HB HF
          unfold ptV
          go_wp2
          go_ret2
          exact ⟨rfl, HB1.out.trans ((fm_below w1 _).mono HB1.out.size)⟩
        | some q =>
          have hpp := HP.out
          rw [chkR_step hq, List.drop_drop] at hpp
          have hl := firstS_len hq
          rw [List.length_drop, show s.data.toList.length = s.size by rw [Array.length_toList]; rfl] at hl
          rw [hq] at HF
          unfold optP at HF
          simp only [Option.getD_some, Option.isSome_some] at HF
          have HT := hide (fun W => tells_any q W)
          unfold ptV at HF HT
          obtain ⟨e1, e1'⟩ := wrap_sum p q.len (by omega)
          obtain ⟨e2, e2'⟩ := wrap_sum m 1 (by omega)
          rw [show ((1 : Nat) : Int) = 1 from rfl] at e2 e2'
          have hl1 := hl.1
          have hl2 : p + q.len ≤ s.size := by omega
          have HQ := hide hpp
          clear hel hes hne hq hl hpp HP
          generalize hb : q.tells = b at *
          clear hb
          cases b
          all_goals
            go_wp2_with fail
            refine (HF.out _).mono ?_
            rintro _ w1 ⟨rfl, hB⟩
            have HB1 := hide (HB.out.trans (hB.mono HB.out.size))
            have HPt := hide (show PtB (w1.alloc (Obj.cells #[.int .u8 (q.verb.toNat : Int), .int .u8 (q.want.toNat : Int), .bool q.quiet, .int .i64 (q.wd : Int), .int .i64 (q.len : Int)] 80)) w1.heap.size q from heap_alloc_new w1 _)
            obtain ⟨x0, x1, x2, x3, x4⟩ := HPt.out.cs
            clear hB HB HF
            go_wp2_with fail
            refine (HT.out _).mono ?_
            rintro _ w2 ⟨rfl, hw2⟩
            have hB2 : Below (w1.alloc (Obj.cells #[.int .u8 (q.verb.toNat : Int), .int .u8 (q.want.toNat : Int), .bool q.quiet, .int .i64 (q.wd : Int), .int .i64 (q.len : Int)] 80)).heap.size (w1.alloc (Obj.cells #[.int .u8 (q.verb.toNat : Int), .int .u8 (q.want.toNat : Int), .bool q.quiet, .int .i64 (q.wd : Int), .int .i64 (q.len : Int)] 80)) w2 := by rw [hw2]; exact fm_below _ _
            obtain ⟨y0, y1, y2, y3, y4⟩ := (HPt.out.below hB2).cs
            have HB2 := hide ((HB1.out.trans ((fm_below w1 (Obj.cells #[.int .u8 (q.verb.toNat : Int), .int .u8 (q.want.toNat : Int), .bool q.quiet, .int .i64 (q.wd : Int), .int .i64 (q.len : Int)] 80)).mono HB1.out.size)).trans (hB2.mono (HB1.out.trans ((fm_below w1 (Obj.cells #[.int .u8 (q.verb.toNat : Int), .int .u8 (q.want.toNat : Int), .bool q.quiet, .int .i64 (q.wd : Int), .int .i64 (q.len : Int)] 80)).mono HB1.out.size)).size))
            clear hB2 hw2 HT x0 x1 x2 x3 x4 HPt HB1
            go_wp2_with fail
            go_roundw
            case rel => first | exact ⟨p + q.len, m, hl2, by omega, rfl, rfl, HQ, HB2⟩ | exact ⟨p + q.len, m + 1, hl2, by omega, rfl, rfl, HQ, HB2⟩
            case measure => simp [intOf]; omega
      · have hlt' : ¬ (p : Int) < (s.size : Int) := by omega
        have hpp := HP.out
        rw [drop_end s p (by omega), chkR_nil] at hpp
        subst hpp
        clear HP
        go_wp2
        go_ret2
        exact ⟨rfl, HB.out⟩
end Go.Proofs.YtcmfpafcipgejaaGreatDoor
