/- What the proof stands on, part 11: the contracts of the program's calls that it reaches. -/
import Derived.Test.YtndleeafkepdjaaGreatKW10
/- Lines: bytes are gathered. -/
namespace Go.Proofs.YtndleeafkepdjaaGreat
open Go.RowKit
def lenV : Value → Nat
  | .slice _ n _ => n
  | _ => 0
theorem lone_bys (w : World) (c : UInt8) : Bys (w.alloc (Obj.cells #[.int .u8 (c.toNat : Int)] 5)) (.slice (some ⟨w.heap.size, 0, none⟩) 1 1) [c] := .inr (.inr ⟨_, _, _, rfl, Nat.zero_lt_one, fun j hj => by
  obtain rfl : j = 0 := by simpa using hj
  exact cell_of_row _ w.heap.size 0 _ _ _ (heap_alloc_new w _)⟩)
def GOut {S : Type} (At : World → (Nat → Prop) → S → Prop) (w : World) (O : Nat → Prop) (R : SS × List UInt8 × Int × S) (o i b u : Value) (w' : World) : Prop := ∃ O', (SIn w' (fun k => w.heap.size ≤ k ∧ ¬ O' k ∧ k < w'.heap.size) R.1 o i b ∧ At w' O' R.2.2.2 ∧ (∀ j, O' j → j < w'.heap.size) ∧ (∀ k, O' k → O k ∨ w.heap.size ≤ k) ∧ Turned O w w') ∧ w'.ownsRow w.heap.size 5 1 u R.2.1.length (R.2.1.map bv) ∧ ∀ k, u.ownBlock = some k → ¬ O' k ∧ o.ownBlock ≠ some k ∧ i.ownBlock ≠ some k ∧ b.ownBlock ≠ some k
theorem gather_end {S : Type} {At : World → (Nat → Prop) → S → Prop} (hT : ∀ s, OAt (fun w O => At w O s)) {w w0 w2 w3 w4 : World} {O O1 : Nat → Prop} {s1 : S} {g : Nat} {y : SS} {far acc : List UInt8} {e : Int} {o i b r f u i3 : Value} (hB0 : Below w.heap.size w w0) (hO : ∀ j, O j → j < w.heap.size) (hz : w.heap.size + 1 < w0.heap.size ∧ w0.heap.size ≤ w2.heap.size ∧ w2.heap.size ≤ w3.heap.size) (hT2 : Turned (fun j => O j ∨ w0.heap.size ≤ j) w0 w2) (hO1 : ∀ j, O1 j → O j ∨ w0.heap.size ≤ j) (hS : SrcOn At w2 O1 s1 w0.heap.size g y far o i b r f) (hU : w2.ownsRow w0.heap.size 5 1 u acc.length (acc.map bv)) (hOf : ∀ k, u.ownBlock = some k → OffS k O1 g o i b f) (hI : w3.ownsRow w2.heap.size 5 1 i3 (y.inn.length + far.length) ((y.inn ++ far).map bv)) (hB3 : Below w2.heap.size w2 w3) (e2 : Turned (fun k => k = w.heap.size + 1) w3 w4) : GOut At w O (y.wh far, acc, e, s1) o i3 b u w4 := by
  obtain ⟨z1, z2, z3⟩ := hz
  have z4 := e2.size
  have z0 := hB0.size
  have hS4 := (hS.below hT hB3).turned hT e2 (fun k _ ek => by
    have ek : k = w.heap.size + 1 := ek
    refine ⟨fun e3 => ?_, by have := hS.gB; omega, fun e3 => by have := (hS.ls.po k e3).1; omega, fun e3 => by have := (hS.ls.pi k e3).1; omega, fun e3 => by have := (hS.ls.pb k e3).1; omega, fun e3 => by have := (hS.fp k e3).1; omega⟩
    rcases hO1 k e3 with e4 | e4
    · have := hO k e4; omega
    · omega)
  have hIl : Sl w4 i3 (y.inn ++ far) := Sl.turned (Sl.own (base := w2.heap.size) (by rw [List.length_append]; exact hI)) e2 (fun k ek _ ek2 => by have := (hI.lt k ek).1; have ek2 : k = w.heap.size + 1 := ek2; omega)
  refine ⟨O1, ⟨⟨hS4.ls.so, hIl, hS4.ls.sb, fun k ek => ⟨by have := (hS4.ls.po k ek).1; omega, (hS4.ls.po k ek).2.1, (hS4.ls.po k ek).2.2.2⟩, fun k ek => ⟨by have := (hI.lt k ek).1; omega, fun ek2 => by have := hS.ol k ek2; have := (hI.lt k ek).1; omega, by have := (hI.lt k ek).2; omega⟩, fun k ek => ⟨by have := (hS4.ls.pb k ek).1; omega, (hS4.ls.pb k ek).2.1, (hS4.ls.pb k ek).2.2.2⟩⟩, hS4.raw, hS4.ol, fun k ek => (hO1 k ek).imp id (fun e3 => by omega), ?_⟩, owns_mono (owns_turned (owns_below hU hB3) e2 (fun k ek ek2 => by have := (hU.lt k ek).1; have ek2 : k = w.heap.size + 1 := ek2; omega)) (by omega), fun k ek => ⟨(hOf k ek).1, (hOf k ek).2.2.1, fun e3 => by have := (hI.lt k e3).1; have := (hU.lt k ek).2; omega, (hOf k ek).2.2.2.2.1⟩⟩
  exact (((Turned.of_below (S := O) hB0).trans hT2 (fun k hk e3 => e3.resolve_right (by omega))).trans (Turned.of_below (S := O) hB3) (fun _ _ e3 => e3)).trans e2 (fun k hk e3 => by have e3 : k = w.heap.size + 1 := e3; omega)
set_option maxRecDepth 100000 in
set_option maxHeartbeats 8000000 in
theorem gather_any {S : Type} {D : RawD S} {T : TypeId} {v : Value} {fr fw : FuncId} {rok wok : S → Prop} {At : World → (Nat → Prop) → S → Prop} (R : RawM D T v fr fw rok wok At) (hT : ∀ s, OAt (fun w O => At w O s)) {G : Nat → S → Prop} (hG : Bears D rok wok G) {w : World} {O P : Nat → Prop} {s : S} {x : SS} (oa ia ba : Option Addr) (oc ic bc : Nat) (d : UInt8) (limit : Int) (q1 q2 N : Nat) (h : SIn w P x (.slice oa x.out.length oc) (.slice ia x.inn.length ic) (.slice ba x.back.length bc)) (hA : At w O s) (hO : ∀ j, O j → j < w.heap.size) (hm : x.may = true) (hN : limit = (N : Int)) (hN2 : N ≤ 65536) (hg : G (2 * N + 2) s) (c1 : w.cell? ⟨q1, 0, none⟩ = some (.int .i64 limit)) (c2 : w.cell? ⟨q2, 0, none⟩ = some (.int .u8 (d.toNat : Int))) (hq : ¬ O q1 ∧ ¬ O q2) :
    Calls Tryz.prog 110 #[.agg #[.bool x.rd, .bool x.wt, .int .i64 x.mode, .int .i64 x.size, .slice oa x.out.length oc, .slice ia x.inn.length ic, .slice ba x.back.length bc, .int .i64 x.dir, .bool x.fin, .bool x.bad, .bool x.closed], .iface T v, .func (.func 182) #[] #[.pointer (some ⟨q1, 0, none⟩), .pointer (some ⟨q2, 0, none⟩)]] w fun e w' => ∃ o' i' b' u, e = .returned (.tuple #[.agg #[.bool (gat D (stopU d limit) (N + 1) x s []).1.rd, .bool (gat D (stopU d limit) (N + 1) x s []).1.wt, .int .i64 (gat D (stopU d limit) (N + 1) x s []).1.mode, .int .i64 (gat D (stopU d limit) (N + 1) x s []).1.size, o', i', b', .int .i64 (gat D (stopU d limit) (N + 1) x s []).1.dir, .bool (gat D (stopU d limit) (N + 1) x s []).1.fin, .bool (gat D (stopU d limit) (N + 1) x s []).1.bad, .bool (gat D (stopU d limit) (N + 1) x s []).1.closed], u, .int .i64 (gat D (stopU d limit) (N + 1) x s []).2.2.1]) ∧ GOut At w O (gat D (stopU d limit) (N + 1) x s []) o' i' b' u w' := by
  obtain ⟨m1, m2, m3, m4, m5, m6, m7, m8⟩ := may_buf hm
  have HC := hide (fun (W : World) (hW : Below w.heap.size w W) => sourceOf_any (P := P) hT T v (h.below hW) ((hT s).keep hA (fun j _ hj => hW.block j hj) hW.size) (fun j e => Nat.lt_of_lt_of_le (hO j e) hW.size) (by omega) (by omega) (by omega))
  obtain ⟨Q, hR⟩ : ∃ Q, Q = gat D (stopU d limit) (N + 1) x s [] := ⟨_, rfl⟩
  rw [← hR]
  have HR := hide hR
  have HM0 := hide hm
  have HG0 := hide hg
  have HO := hide hO
  have HCe := hide (And.intro c1 c2)
  have hB0 := (recv_below w (Obj.cells #[.bool x.rd, .bool x.wt, .int .i64 x.mode, .int .i64 x.size, .slice oa x.out.length oc, .slice ia x.inn.length ic, .slice ba x.back.length bc, .int .i64 x.dir, .bool x.fin, .bool x.bad, .bool x.closed] 55)).trans ((recv_below (w.alloc (Obj.cells #[.bool x.rd, .bool x.wt, .int .i64 x.mode, .int .i64 x.size, .slice oa x.out.length oc, .slice ia x.inn.length ic, .slice ba x.back.length bc, .int .i64 x.dir, .bool x.fin, .bool x.bad, .bool x.closed] 55)) (Obj.cells #[.bool false, .bool false, .int .i64 0, .int .i64 0, .slice none 0 0, .slice none 0 0, .slice none 0 0, .int .i64 0, .bool false, .bool false, .bool false] 55)).mono (recv_below w (Obj.cells #[.bool x.rd, .bool x.wt, .int .i64 x.mode, .int .i64 x.size, .slice oa x.out.length oc, .slice ia x.inn.length ic, .slice ba x.back.length bc, .int .i64 x.dir, .bool x.fin, .bool x.bad, .bool x.closed] 55)).size)
  have hz0 : ((w.alloc (Obj.cells #[.bool x.rd, .bool x.wt, .int .i64 x.mode, .int .i64 x.size, .slice oa x.out.length oc, .slice ia x.inn.length ic, .slice ba x.back.length bc, .int .i64 x.dir, .bool x.fin, .bool x.bad, .bool x.closed] 55)).alloc (Obj.cells #[.bool false, .bool false, .int .i64 0, .int .i64 0, .slice none 0 0, .slice none 0 0, .slice none 0 0, .int .i64 0, .bool false, .bool false, .bool false] 55)).heap[w.heap.size + 1]? = some (Obj.cells #[.bool false, .bool false, .int .i64 0, .int .i64 0, .slice none 0 0, .slice none 0 0, .slice none 0 0, .int .i64 0, .bool false, .bool false, .bool false] 55) := by
    have := heap_alloc_new (w.alloc (Obj.cells #[.bool x.rd, .bool x.wt, .int .i64 x.mode, .int .i64 x.size, .slice oa x.out.length oc, .slice ia x.inn.length ic, .slice ba x.back.length bc, .int .i64 x.dir, .bool x.fin, .bool x.bad, .bool x.closed] 55)) (Obj.cells #[.bool false, .bool false, .int .i64 0, .int .i64 0, .slice none 0 0, .slice none 0 0, .slice none 0 0, .int .i64 0, .bool false, .bool false, .bool false] 55)
    rw [show (w.alloc (Obj.cells #[.bool x.rd, .bool x.wt, .int .i64 x.mode, .int .i64 x.size, .slice oa x.out.length oc, .slice ia x.inn.length ic, .slice ba x.back.length bc, .int .i64 x.dir, .bool x.fin, .bool x.bad, .bool x.closed] 55)).heap.size = w.heap.size + 1 from Array.size_push ..] at this
    exact this
  have HB0 := hide hB0
  have HZ0 := hide hz0
  clear h hm hg hO c1 c2 hB0 hz0 hR m1 m2 m3 m4 m5 m6 m7 m8 hA
  go_enter Tryz.func110, Tryz.ntmps110
  go_wp2_with fail
  generalize (w.alloc (Obj.cells #[.bool x.rd, .bool x.wt, .int .i64 x.mode, .int .i64 x.size, .slice oa x.out.length oc, .slice ia x.inn.length ic, .slice ba x.back.length bc, .int .i64 x.dir, .bool x.fin, .bool x.bad, .bool x.closed] 55)).alloc (Obj.cells #[.bool false, .bool false, .int .i64 0, .int .i64 0, .slice none 0 0, .slice none 0 0, .slice none 0 0, .int .i64 0, .bool false, .bool false, .bool false] 55) = w0 at *
  refine (HC.out _ HB0.out).mono ?_
  rintro _ w1 ⟨g, y0, far0, o1, i1, b1, f1, rfl, hwh, hS1, hB1⟩
  have HS1 := hide hS1
  have HB1 := hide hB1
  have HWh0 := hide hwh
  clear hS1 hB1 hwh HC
  go_wp2_with fail
  go_loopw [10] (fun u wr => ∃ (acc : List UInt8) (y : SS) (far : List UInt8) (s1 : S) (O1 : Nat → Prop) (o1 i1 b1 f1 : Value), acc.length ≤ N ∧ Hid (wr.ownsRow w0.heap.size 5 1 u acc.length (acc.map bv)) ∧ Hid (SrcOn At wr O1 s1 w0.heap.size g y far o1 i1 b1 (.iface T v) f1) ∧ Hid ((y.wh far).may = true) ∧ Hid (G (2 * (N - acc.length) + 2) s1 ∧ gat D (stopU d limit) (N + 1 - acc.length) (y.wh far) s1 acc = Q) ∧ Hid (Turned (fun j => O j ∨ w0.heap.size ≤ j) w0 wr ∧ (∀ j, O1 j → O j ∨ w0.heap.size ≤ j)) ∧ Hid (∀ k, u.ownBlock = some k → OffS k O1 g o1 i1 b1 f1)) (fun u _ => N - lenV u)
  case atStart => exact ⟨[], y0, far0, s, O, _, _, _, _, Nat.zero_le _, hide (World.ownsRow_nil _ _ _ _), HS1, hide (by rw [HWh0.out]; exact HM0.out), hide ⟨HG0.out, by rw [HWh0.out]; exact HR.out.symm⟩, hide ⟨Turned.of_below HB1.out, fun _ e => .inl e⟩, hide (fun k e => by simp [Value.ownBlock] at e)⟩
  case round =>
    clear HS1 HB1 HWh0
    obtain ⟨acc, y, far, s1, O1, o1, i1, b1, f1, hk, HU, HS, HM, HGa, HT, HOf⟩ := hrel
    obtain ⟨ua, uc, rfl⟩ := owns_slice HU.out
    obtain ⟨oa1, oc1, rfl, -⟩ := HS.out.ls.so
    obtain ⟨ia1, ic1, rfl, -⟩ := HS.out.ls.si
    obtain ⟨ba1, bc1, rfl, -⟩ := HS.out.ls.sb
    have hfl := HS.out.fl
    obtain ⟨fa1, fc1, rfl, -⟩ := hfl
    have hz := HT.out.1.size
    have hq1 := World.block_lt_of_cell? w _ HCe.out.1
    have hq2 := World.block_lt_of_cell? w _ HCe.out.2
    have hz0 := HB0.out.size
    simp only at hq1 hq2
    have d1 := HT.out.1.cell ((HB0.out.cell (World.block_lt_of_cell? w _ HCe.out.1)).trans HCe.out.1) (fun e => by rcases e with e | e; exact hq.1 e; simp only at e; omega)
    have d2 := HT.out.1.cell ((HB0.out.cell (World.block_lt_of_cell? w _ HCe.out.2)).trans HCe.out.2) (fun e => by rcases e with e | e; exact hq.2 e; simp only at e; omega)
    have HE := hide (enough_any acc ua uc q1 q2 limit d wr (Bys.of_owns HU.out) (by omega) d1 d2)
    have hkl : ¬ stopU d limit acc = true → acc.length < N := fun e => by
      refine Nat.lt_of_le_of_ne hk (fun e2 => e ?_)
      unfold stopU
      rw [decide_eq_true (by rw [e2, hN])]
      rfl
    have HKl := hide hkl
    have hkN := hide hk
    clear d1 d2 hz hq1 hq2 hz0 hkl hk
    go_wp2_with fail
    refine HE.out.mono ?_
    rintro _ w2 ⟨rfl, hB2⟩
    have HU2 := hide (owns_below HU.out hB2)
    have HSS := hide (HS.out.below hT hB2)
    have HT2 := hide (HT.out.1.trans (Turned.of_below (S := fun j => O j ∨ w0.heap.size ≤ j) hB2) (fun _ _ e => e))
    clear hB2 HE HU HS
    have hin : y.inn.length + far.length ≤ 65536 := by have := (may_buf HM.out).2.2.2.2.2.2.1; simp only [SS.wh, List.length_append] at this; exact this
    by_cases hst : stopU d limit acc = true
    · rw [hst]
      have HWh := hide (whole_any y far g _ _ _ _ T v _ w2 HSS.out.src HSS.out.ls HSS.out.fl (by omega))
      clear hin
      have hQ := HGa.out.2
      rw [gat_stop _ _ _ _ _ _ hst] at hQ
      subst hQ
      go_wp2_with fail
      refine HWh.out.mono ?_
      rintro _ w3 ⟨i3, rfl, hO3, hB3⟩
      obtain ⟨ia3, ic3, rfl⟩ := owns_slice hO3
      have hzz : w.heap.size + 1 < w0.heap.size := (Array.getElem?_eq_some_iff.1 HZ0.out).1
      have hz02 := HT2.out.size
      have hz23 := hB3.size
      have HZ3 : Hid (w3.heap[w.heap.size + 1]? = some (Obj.cells #[.bool false, .bool false, .int .i64 0, .int .i64 0, .slice none 0 0, .slice none 0 0, .slice none 0 0, .int .i64 0, .bool false, .bool false, .bool false] 55)) := hide ((hB3.block _ (by omega)).trans ((HT2.out.block _ hzz (fun e => by rcases e with e | e; have := HO.out _ e; omega; omega)).trans HZ0.out))
      have HB3 := hide hB3
      have HO3 := hide hO3
      have HSz := hide (And.intro hzz (And.intro hz02 hz23))
      have z0 := cell_of_row w3 (w.heap.size + 1) 0 _ _ _ HZ3.out
      have t0 := frozen_of_row w3 (w.heap.size + 1) 0 _ _ HZ3.out
      have z1 := cell_of_row w3 (w.heap.size + 1) 1 _ _ _ HZ3.out
      have t1 := frozen_of_row w3 (w.heap.size + 1) 1 _ _ HZ3.out
      have z2 := cell_of_row w3 (w.heap.size + 1) 2 _ _ _ HZ3.out
      have t2 := frozen_of_row w3 (w.heap.size + 1) 2 _ _ HZ3.out
      have z3 := cell_of_row w3 (w.heap.size + 1) 3 _ _ _ HZ3.out
      have t3 := frozen_of_row w3 (w.heap.size + 1) 3 _ _ HZ3.out
      have z4 := cell_of_row w3 (w.heap.size + 1) 4 _ _ _ HZ3.out
      have t4 := frozen_of_row w3 (w.heap.size + 1) 4 _ _ HZ3.out
      have z5 := cell_of_row w3 (w.heap.size + 1) 5 _ _ _ HZ3.out
      have t5 := frozen_of_row w3 (w.heap.size + 1) 5 _ _ HZ3.out
      have z6 := cell_of_row w3 (w.heap.size + 1) 6 _ _ _ HZ3.out
      have t6 := frozen_of_row w3 (w.heap.size + 1) 6 _ _ HZ3.out
      have z7 := cell_of_row w3 (w.heap.size + 1) 7 _ _ _ HZ3.out
      have t7 := frozen_of_row w3 (w.heap.size + 1) 7 _ _ HZ3.out
      have z8 := cell_of_row w3 (w.heap.size + 1) 8 _ _ _ HZ3.out
      have t8 := frozen_of_row w3 (w.heap.size + 1) 8 _ _ HZ3.out
      have z9 := cell_of_row w3 (w.heap.size + 1) 9 _ _ _ HZ3.out
      have t9 := frozen_of_row w3 (w.heap.size + 1) 9 _ _ HZ3.out
      have z10 := cell_of_row w3 (w.heap.size + 1) 10 _ _ _ HZ3.out
      have t10 := frozen_of_row w3 (w.heap.size + 1) 10 _ _ HZ3.out
      simp at z0 z1 z2 z3 z4 z5 z6 z7 z8 z9 z10
      clear hO3 hB3 hzz hz02 hz23 HWh
      go_wp2
      obtain ⟨e1, e2⟩ := st_fill w3 (w.heap.size + 1) (y.wh far) (.slice oa1 y.out.length oc1) (.slice ia3 (y.inn.length + far.length) ic3) (.slice ba1 y.back.length bc1) HZ3.out
      refine bodyPost_ret (res_three rfl _ (w.heap.size + 1) rfl (y.wh far) _ _ _ e1) rfl ?_
      exact ⟨_, _, _, _, rfl, gather_end hT HB0.out HO.out HSz.out HT2.out HT.out.2 HSS.out HU2.out HOf.out HO3.out HB3.out e2⟩
    · have hst2 : stopU d limit acc = false := by simpa using hst
      rw [hst2]
      have hkN2 := HKl.out hst
      have HNx := hide (next_any R hT hG HSS.out HT2.out.size (bear_down hG (2 * (N - acc.length)) 2 s1 HGa.out.1) (may_near HM.out))
      have hgw := get_wh D y far s1 HSS.out.nr HM.out
      have hgm := (get_may D s1 HM.out).1
      have hgb := get_bear hG (n := 2 * (N - (acc.length + 1)) + 2) (s := s1) y (by rw [show 2 * (N - (acc.length + 1)) + 2 + 2 = 2 * (N - acc.length) + 2 by omega]; exact HGa.out.1)
      have hQ := HGa.out.2
      rw [show N + 1 - acc.length = N + 1 - (acc.length + 1) + 1 by omega] at hQ
      clear hin
      go_wp2_with fail
      refine HNx.out.mono ?_
      rintro _ w3 ⟨O3, o3, i3, b3, f3, rfl, hS3, hO3, hL3, hT3⟩
      have HU3 := hide (owns_turned HU2.out hT3 (fun k e e2 => by
        have h1 := HOf.out k e
        have h2 := (HU2.out.lt k e).2
        rcases e2 with e2 | e2 | e2
        · exact h1.1 e2
        · exact h1.2.1 e2
        · omega))
      have HOf3 := hide (fun k (e : (Value.slice ua acc.length uc).ownBlock = some k) => (by
        have h1 := HOf.out k e
        have h2 := (HU2.out.lt k e).2
        have h3 : ∀ z : Prop, (z → w2.heap.size ≤ k ∨ (Value.slice fa1 far.length fc1).ownBlock = some k) → ¬ z := fun z hz e2 => by
          rcases hz e2 with e3 | e3
          · omega
          · exact h1.2.2.2.2.2 e3
        exact ⟨fun e2 => by rcases hO3 k e2 with e3 | e3; exact h1.1 e3; omega, h1.2.1, h3 _ (fun e2 => hL3 k (.inl e2)), h3 _ (fun e2 => hL3 k (.inr (.inl e2))), h3 _ (fun e2 => hL3 k (.inr (.inr (.inl e2)))), h3 _ (fun e2 => hL3 k (.inr (.inr (.inr e2))))⟩ : OffS k O3 g o3 i3 b3 f3))
      have HT3 := hide (HT2.out.trans hT3 (fun k hk e => by
        rcases e with e | e | e
        · exact HT.out.2 k e
        · exact .inr (by have := HSS.out.gB; omega)
        · exact .inr (Nat.le_trans HT2.out.size e)))
      have HOs3 := hide (fun k (e : O3 k) => (by
        rcases hO3 k e with e2 | e2
        · exact HT.out.2 k e2
        · exact .inr (Nat.le_trans HT2.out.size e2) : O k ∨ w0.heap.size ≤ k))
      have HS3 := hide hS3
      clear hS3 hO3 hL3 hT3 HNx HU2 HOf HT2
      by_cases he : (y.get D s1).2.2.1 = 0
      · rw [gat_next _ _ _ _ _ _ hst2 (by rw [hgw]; exact he), hgw] at hQ
        rw [hgw] at hgm
        generalize y.get D s1 = q at *
        obtain ⟨x', ch, e', s'⟩ := q
        simp only at he hQ hgm hgb HS3
        subst he
        have HUA := hide (owns_below HU3.out (recv_below w3 (Obj.cells #[.int .u8 (ch.toNat : Int)] 5)))
        have hzA : (w3.alloc (Obj.cells #[.int .u8 (ch.toNat : Int)] 5)).heap.size = w3.heap.size + 1 := Array.size_push ..
        obtain ⟨u', w', hr, HO', hg', hwhere⟩ := run_append_bytes (w3.alloc (Obj.cells #[.int .u8 (ch.toNat : Int)] 5)) 40 w0.heap.size _ _ acc [ch] HUA.out (lone_bys w3 ch) (by simp only [List.length_cons, List.length_nil]; omega) (by have := HT3.out.size; omega)
        obtain ⟨ua', uc', rfl⟩ := owns_slice HO'.out
        have HTA := hide (((HT3.out.trans (Turned.of_below (S := fun j => O j ∨ w0.heap.size ≤ j) (recv_below w3 (Obj.cells #[.int .u8 (ch.toNat : Int)] 5))) (fun _ _ e => e)).grown hg' (fun k e => .inl (.inr (HU3.out.lt k e).1))))
        have tA : Turned (fun k => (Value.slice ua acc.length uc).ownBlock = some k) (w3.alloc (Obj.cells #[.int .u8 (ch.toNat : Int)] 5)) w' := (Turned.refl _ _).grown hg' (fun k e => .inl e)
        have HSA := hide ((HS3.out.below hT (recv_below w3 (Obj.cells #[.int .u8 (ch.toNat : Int)] 5))).turned hT tA (fun k _ e => HOf3.out k e))
        have HOfA := hide (fun k (e : (Value.slice ua' (acc ++ [ch]).length uc').ownBlock = some k) => (by
          rcases hwhere with e2 | e2
          · exact HOf3.out k (e2 ▸ e)
          · have hk : k = w3.heap.size + 1 := by rw [e2, hzA] at e; exact (Option.some.inj e).symm
            have hS := HS3.out
            exact ⟨fun e3 => by have := hS.ol k e3; omega, by have := hS.src.lt; omega, fun e3 => by have := (hS.ls.po k e3).2.2.2; omega, fun e3 => by have := (hS.ls.pi k e3).2.2.2; omega, fun e3 => by have := (hS.ls.pb k e3).2.2.2; omega, fun e3 => by have := (hS.fp k e3).2.2.2; omega⟩ : OffS k O3 g o3 i3 b3 f3))
        have HAp := hide hr
        have HQn := hide hQ
        have HMn := hide hgm
        have HGn := hide hgb
        obtain ⟨n', hn'⟩ : ∃ n', n' = (acc ++ [ch]).length := ⟨_, rfl⟩
        have HN' := hide hn'
        rw [← hn'] at HAp HO' HOfA
        clear hr hg' hwhere tA hQ hgm hgb hgw hn' hzA HUA HU3 HT3 HS3 HOf3
        go_wp2_with (at_builtin; refine Lib.wpList_append_run _ rfl _ _ _ _ rfl _ _ rfl rfl _ _ HAp.out ?_)
        go_roundw
        case rel => exact ⟨acc ++ [ch], x'.parted far, (part x'.inn far).2, s', O3, _, _, _, _, by rw [List.length_append]; simp only [List.length_cons, List.length_nil]; omega, by rw [← HN'.out]; exact HO', HSA, hide (by rw [wh_parted]; exact HMn.out), hide ⟨by rw [List.length_append]; exact HGn.out, by rw [List.length_append, wh_parted]; exact HQn.out⟩, hide ⟨HTA.out, HOs3.out⟩, HOfA⟩
        case measure => have := HN'.out; rw [List.length_append] at this; simp only [List.length_cons, List.length_nil] at this; simp [lenV]; omega
      · rw [gat_err _ _ _ _ _ _ hst2 (by rw [hgw]; exact he), hgw] at hQ
        rw [hgw] at hgm
        generalize y.get D s1 = q at *
        obtain ⟨x', ch, e', s'⟩ := q
        simp only at he hQ hgm hgb HS3
        obtain ⟨y2, hy2⟩ : ∃ y2, y2 = x'.parted far := ⟨_, rfl⟩
        obtain ⟨far2, hf2⟩ : ∃ f2, f2 = (part x'.inn far).2 := ⟨_, rfl⟩
        have hw2 : y2.wh far2 = x'.wh far := by rw [hy2, hf2, wh_parted]
        rw [← hy2, ← hf2] at HS3
        rw [← hw2] at hgm hQ
        subst hQ
        have hin : y2.inn.length + far2.length ≤ 65536 := by have := (may_buf hgm).2.2.2.2.2.2.1; simp only [SS.wh, List.length_append] at this; exact this
        obtain ⟨oa3, oc3, rfl, -⟩ := HS3.out.ls.so
        obtain ⟨ia4, ic4, rfl, -⟩ := HS3.out.ls.si
        obtain ⟨ba3, bc3, rfl, -⟩ := HS3.out.ls.sb
        have HWh := hide (whole_any y2 far2 g _ _ _ _ T v _ w3 HS3.out.src HS3.out.ls HS3.out.fl (by omega))
        have hb1 : (e' == 0) = false := by simp [he]
        have hb2 : (e' != 0) = true := by simp [he]
        clear hgw hgm hgb hw2 hf2 hy2 hin he
        go_wp2_with fail
        refine HWh.out.mono ?_
        rintro _ w4 ⟨i3, rfl, hO3, hB3⟩
        obtain ⟨ia3, ic3, rfl⟩ := owns_slice hO3
        have hzz : w.heap.size + 1 < w0.heap.size := (Array.getElem?_eq_some_iff.1 HZ0.out).1
        have hz02 := HT3.out.size
        have hz23 := hB3.size
        have HZ3 : Hid (w4.heap[w.heap.size + 1]? = some (Obj.cells #[.bool false, .bool false, .int .i64 0, .int .i64 0, .slice none 0 0, .slice none 0 0, .slice none 0 0, .int .i64 0, .bool false, .bool false, .bool false] 55)) := hide ((hB3.block _ (by omega)).trans ((HT3.out.block _ hzz (fun e => by rcases e with e | e; have := HO.out _ e; omega; omega)).trans HZ0.out))
        have HB3 := hide hB3
        have HO3 := hide hO3
        have HSz := hide (And.intro hzz (And.intro hz02 hz23))
        have z0 := cell_of_row w4 (w.heap.size + 1) 0 _ _ _ HZ3.out
        have t0 := frozen_of_row w4 (w.heap.size + 1) 0 _ _ HZ3.out
        have z1 := cell_of_row w4 (w.heap.size + 1) 1 _ _ _ HZ3.out
        have t1 := frozen_of_row w4 (w.heap.size + 1) 1 _ _ HZ3.out
        have z2 := cell_of_row w4 (w.heap.size + 1) 2 _ _ _ HZ3.out
        have t2 := frozen_of_row w4 (w.heap.size + 1) 2 _ _ HZ3.out
        have z3 := cell_of_row w4 (w.heap.size + 1) 3 _ _ _ HZ3.out
        have t3 := frozen_of_row w4 (w.heap.size + 1) 3 _ _ HZ3.out
        have z4 := cell_of_row w4 (w.heap.size + 1) 4 _ _ _ HZ3.out
        have t4 := frozen_of_row w4 (w.heap.size + 1) 4 _ _ HZ3.out
        have z5 := cell_of_row w4 (w.heap.size + 1) 5 _ _ _ HZ3.out
        have t5 := frozen_of_row w4 (w.heap.size + 1) 5 _ _ HZ3.out
        have z6 := cell_of_row w4 (w.heap.size + 1) 6 _ _ _ HZ3.out
        have t6 := frozen_of_row w4 (w.heap.size + 1) 6 _ _ HZ3.out
        have z7 := cell_of_row w4 (w.heap.size + 1) 7 _ _ _ HZ3.out
        have t7 := frozen_of_row w4 (w.heap.size + 1) 7 _ _ HZ3.out
        have z8 := cell_of_row w4 (w.heap.size + 1) 8 _ _ _ HZ3.out
        have t8 := frozen_of_row w4 (w.heap.size + 1) 8 _ _ HZ3.out
        have z9 := cell_of_row w4 (w.heap.size + 1) 9 _ _ _ HZ3.out
        have t9 := frozen_of_row w4 (w.heap.size + 1) 9 _ _ HZ3.out
        have z10 := cell_of_row w4 (w.heap.size + 1) 10 _ _ _ HZ3.out
        have t10 := frozen_of_row w4 (w.heap.size + 1) 10 _ _ HZ3.out
        simp at z0 z1 z2 z3 z4 z5 z6 z7 z8 z9 z10
        clear hO3 hB3 hzz hz02 hz23 HWh
        go_wp2
        obtain ⟨e1, e2⟩ := st_fill w4 (w.heap.size + 1) (y2.wh far2) (.slice oa3 y2.out.length oc3) (.slice ia3 (y2.inn.length + far2.length) ic3) (.slice ba3 y2.back.length bc3) HZ3.out
        refine bodyPost_ret (res_three rfl _ (w.heap.size + 1) rfl (y2.wh far2) _ _ _ e1) rfl ?_
        exact ⟨_, _, _, _, rfl, gather_end hT HB0.out HO.out HSz.out HT3.out HOs3.out HS3.out HU3.out HOf3.out HO3.out HB3.out e2⟩
end Go.Proofs.YtndleeafkepdjaaGreat

/- Lines: Until, Get. -/
namespace Go.Proofs.YtndleeafkepdjaaGreat
open Go.RowKit
theorem four_allocs (w : World) (A B C E : Obj) : Below w.heap.size w ((((w.alloc A).alloc B).alloc C).alloc E) ∧ ((((w.alloc A).alloc B).alloc C).alloc E).heap[w.heap.size]? = some A ∧ ((((w.alloc A).alloc B).alloc C).alloc E).heap[w.heap.size + 1]? = some B ∧ ((((w.alloc A).alloc B).alloc C).alloc E).heap[w.heap.size + 1 + 1]? = some C ∧ ((((w.alloc A).alloc B).alloc C).alloc E).heap[w.heap.size + 1 + 1 + 1]? = some E ∧ w.heap.size + 1 + 1 + 1 < ((((w.alloc A).alloc B).alloc C).alloc E).heap.size := by
  have s1 : (w.alloc A).heap.size = w.heap.size + 1 := Array.size_push ..
  have s2 : ((w.alloc A).alloc B).heap.size = w.heap.size + 1 + 1 := (Array.size_push ..).trans (by rw [s1])
  have s3 : (((w.alloc A).alloc B).alloc C).heap.size = w.heap.size + 1 + 1 + 1 := (Array.size_push ..).trans (by rw [s2])
  have s4 : ((((w.alloc A).alloc B).alloc C).alloc E).heap.size = w.heap.size + 1 + 1 + 1 + 1 := (Array.size_push ..).trans (by rw [s3])
  have b1 := (Below.refl _ w).alloc (Nat.le_refl _) A
  have b2 := (Below.refl _ (w.alloc A)).alloc (Nat.le_refl _) B
  have b3 := (Below.refl _ ((w.alloc A).alloc B)).alloc (Nat.le_refl _) C
  have b4 := (Below.refl _ (((w.alloc A).alloc B).alloc C)).alloc (Nat.le_refl _) E
  have h1 := heap_alloc_new w A
  have h2 := heap_alloc_new (w.alloc A) B
  have h3 := heap_alloc_new ((w.alloc A).alloc B) C
  have h4 := heap_alloc_new (((w.alloc A).alloc B).alloc C) E
  rw [s1] at h2
  rw [s2] at h3
  rw [s3] at h4
  exact ⟨((b1.trans (b2.mono b1.size)).trans (b3.mono (by omega))).trans (b4.mono (by omega)), (b4.block _ (by omega)).trans ((b3.block _ (by omega)).trans ((b2.block _ (by omega)).trans h1)), (b4.block _ (by omega)).trans ((b3.block _ (by omega)).trans h2), (b4.block _ (by omega)).trans h3, h4, by omega⟩
theorem GOut.fin {S : Type} {At : World → (Nat → Prop) → S → Prop} (hT : ∀ s, OAt (fun w O => At w O s)) {w w1 w2 w4 : World} {O : Nat → Prop} {R : SS × List UInt8 × Int × S} {o i b u : Value} (h : GOut At w1 O R o i b u w2) (hB : Below w.heap.size w w1) (hO : ∀ j, O j → j < w.heap.size) (t : Turned (fun k => w.heap.size ≤ k ∧ k < w1.heap.size) w2 w4) : GOut At w O R o i b u w4 := by
  obtain ⟨O', ⟨h1, h2, h3, h4, h5⟩, h6, h7⟩ := h
  have z1 := hB.size
  have z2 := h5.size
  have z3 := t.size
  have hno : ∀ j, O' j → ¬ (w.heap.size ≤ j ∧ j < w1.heap.size) := fun j e e2 => by
    rcases h4 j e with e3 | e3
    · have := hO j e3; omega
    · omega
  refine ⟨O', ⟨(h1.turned t fun k e _ e' => by have := e.1; omega).mono fun k e => ⟨by have := e.1; omega, e.2.1, by have := e.2.2; omega⟩, (hT _).keep h2 (fun j e hj => t.block j hj (hno j e)) z3, fun j e => Nat.lt_of_lt_of_le (h3 j e) z3, fun k e => (h4 k e).imp id (fun e => by omega), ?_⟩, owns_mono (owns_turned h6 t (fun k e e2 => by have := (h6.lt k e).1; omega)) z1, h7⟩
  exact ((Turned.of_below (S := O) hB).trans h5 (fun _ _ e => e)).trans t (fun k hk e => by omega)
set_option maxRecDepth 100000 in
set_option maxHeartbeats 8000000 in
theorem until_any {S : Type} {D : RawD S} {T : TypeId} {v : Value} {fr fw : FuncId} {rok wok : S → Prop} {At : World → (Nat → Prop) → S → Prop} (R : RawM D T v fr fw rok wok At) (hT : ∀ s, OAt (fun w O => At w O s)) {G : Nat → S → Prop} (hG : Bears D rok wok G) {w : World} {O P : Nat → Prop} {s : S} {x : SS} (oa ia ba : Option Addr) (oc ic bc : Nat) (d : UInt8) (limit : Int) (h : SIn w P x (.slice oa x.out.length oc) (.slice ia x.inn.length ic) (.slice ba x.back.length bc)) (hA : At w O s) (hO : ∀ j, O j → j < w.heap.size) (hg : G 131074 s) (ho : x.out.length ≤ 140737488351232) (hi : x.inn.length ≤ 140737488351232) (hb : x.back.length ≤ 140737488351232) :
    Calls Tryz.prog 107 #[.agg #[.bool x.rd, .bool x.wt, .int .i64 x.mode, .int .i64 x.size, .slice oa x.out.length oc, .slice ia x.inn.length ic, .slice ba x.back.length bc, .int .i64 x.dir, .bool x.fin, .bool x.bad, .bool x.closed], .iface T v, .int .u8 (d.toNat : Int), .int .i64 limit] w fun e w' => ∃ o' i' b' u, e = .returned (.tuple #[.agg #[.bool (x.until D s d limit).1.rd, .bool (x.until D s d limit).1.wt, .int .i64 (x.until D s d limit).1.mode, .int .i64 (x.until D s d limit).1.size, o', i', b', .int .i64 (x.until D s d limit).1.dir, .bool (x.until D s d limit).1.fin, .bool (x.until D s d limit).1.bad, .bool (x.until D s d limit).1.closed], u, .int .i64 (x.until D s d limit).2.2.1]) ∧ GOut At w O (x.until D s d limit) o' i' b' u w' := by
  obtain ⟨f1, f2, f3, f4, f5, f6⟩ := four_allocs w (Obj.cells #[.bool x.rd, .bool x.wt, .int .i64 x.mode, .int .i64 x.size, .slice oa x.out.length oc, .slice ia x.inn.length ic, .slice ba x.back.length bc, .int .i64 x.dir, .bool x.fin, .bool x.bad, .bool x.closed] 55) (Obj.cells #[.int .u8 (d.toNat : Int)] 5) (Obj.cells #[.int .i64 limit] 3) (Obj.cells #[.bool false, .bool false, .int .i64 0, .int .i64 0, .slice none 0 0, .slice none 0 0, .slice none 0 0, .int .i64 0, .bool false, .bool false, .bool false] 55)
  have HF := hide (And.intro f1 (And.intro f2 (And.intro f3 (And.intro f4 (And.intro f5 f6)))))
  have HRf := fun W => getRefusal_any x oa ia ba oc ic bc T v limit 1 65536 W hi hb
  have HR1 := hide HRf
  have HO := hide hO
  have HIn := hide h
  have HA := hide hA
  have HGs := hide hg
  have HLn := hide (And.intro ho (And.intro hi hb))
  clear f1 f2 f3 f4 f5 f6 HRf hO h hA hg ho hi hb
  have e0 := cell_of_row _ w.heap.size 0 _ _ _ HF.out.2.1
  have hd := cell_of_row _ (w.heap.size + 1) 0 _ _ _ HF.out.2.2.1
  have hl := cell_of_row _ (w.heap.size + 1 + 1) 0 _ _ _ HF.out.2.2.2.1
  clear e0
  by_cases hr : x.grefuse true limit 1 65536 = 0
  case neg =>
    have hun : x.until D s d limit = (x, [], x.grefuse true limit 1 65536, s) := by unfold SS.until; rw [if_pos hr]
    rw [hun]
    simp only
    clear hun
    generalize x.grefuse true limit 1 65536 = r at *
    go_enter Tryz.func107, Tryz.ntmps107
    go_wp2_with fail
    generalize ((((w.alloc (Obj.cells #[.bool x.rd, .bool x.wt, .int .i64 x.mode, .int .i64 x.size, .slice oa x.out.length oc, .slice ia x.inn.length ic, .slice ba x.back.length bc, .int .i64 x.dir, .bool x.fin, .bool x.bad, .bool x.closed] 55)).alloc (Obj.cells #[.int .u8 (d.toNat : Int)] 5)).alloc (Obj.cells #[.int .i64 limit] 3)).alloc (Obj.cells #[.bool false, .bool false, .int .i64 0, .int .i64 0, .slice none 0 0, .slice none 0 0, .slice none 0 0, .int .i64 0, .bool false, .bool false, .bool false] 55)) = w0 at *
    refine (HR1.out w0).mono ?_
    rintro _ w1 ⟨rfl, hB1⟩
    have HB1 := hide (HF.out.1.trans (hB1.mono HF.out.1.size))
    have z0 := HF.out.1.size
    have z6 := HF.out.2.2.2.2.2
    have z7 := hB1.size
    have HX1 : Hid (StAt w1 w.heap.size x (.slice oa x.out.length oc) (.slice ia x.inn.length ic) (.slice ba x.back.length bc)) := hide ((hB1.block _ (by omega)).trans HF.out.2.1)
    have hd1 := (hB1.cell (World.block_lt_of_cell? _ _ hd)).trans hd
    have hl1 := (hB1.cell (World.block_lt_of_cell? _ _ hl)).trans hl
    have HZ1 : Hid (w1.heap[w.heap.size + 1 + 1 + 1]? = some (Obj.cells #[.bool false, .bool false, .int .i64 0, .int .i64 0, .slice none 0 0, .slice none 0 0, .slice none 0 0, .int .i64 0, .bool false, .bool false, .bool false] 55)) := hide ((hB1.block _ (by omega)).trans HF.out.2.2.2.2.1)
    have HZs : Hid (w.heap.size + 1 + 1 + 1 < w1.heap.size) := hide (by omega)
    obtain ⟨c0, c1, c2, c3, c4, c5, c6, c7, c8, c9, c10⟩ := HX1.out.cs
    clear hB1 HF HR1 hd hl z0 z6 z7
    have hb1 : (r == 0) = false := by simp [hr]
    have hb2 : (r != 0) = true := by simp [hr]
    have HC := hide (lcopied_any x _ _ _ P w1 (HIn.out.below HB1.out) HLn.out.1 HLn.out.2.1 HLn.out.2.2)
    clear hr hd1 hl1
    go_wp2_with fail
    refine HC.out.mono ?_
    rintro _ w3 ⟨o3, i3, b3, rfl, h1, h2, h3, hB3, -⟩
    obtain ⟨oa3, oc3, rfl⟩ := owns_slice h1
    obtain ⟨ia3, ic3, rfl⟩ := owns_slice h2
    obtain ⟨ba3, bc3, rfl⟩ := owns_slice h3
    have HZ3 : Hid (w3.heap[w.heap.size + 1 + 1 + 1]? = some (Obj.cells #[.bool false, .bool false, .int .i64 0, .int .i64 0, .slice none 0 0, .slice none 0 0, .slice none 0 0, .int .i64 0, .bool false, .bool false, .bool false] 55)) := hide ((hB3.block _ HZs.out).trans HZ1.out)
    have H1 := hide h1
    have H2 := hide h2
    have H3 := hide h3
    have HB3 := hide hB3
    clear h1 h2 h3 hB3 HC c0 c1 c2 c3 c4 c5 c6 c7 c8 c9 c10
    have z0 := cell_of_row w3 (w.heap.size + 1 + 1 + 1) 0 _ _ _ HZ3.out
    have t0 := frozen_of_row w3 (w.heap.size + 1 + 1 + 1) 0 _ _ HZ3.out
    have z1 := cell_of_row w3 (w.heap.size + 1 + 1 + 1) 1 _ _ _ HZ3.out
    have t1 := frozen_of_row w3 (w.heap.size + 1 + 1 + 1) 1 _ _ HZ3.out
    have z2 := cell_of_row w3 (w.heap.size + 1 + 1 + 1) 2 _ _ _ HZ3.out
    have t2 := frozen_of_row w3 (w.heap.size + 1 + 1 + 1) 2 _ _ HZ3.out
    have z3 := cell_of_row w3 (w.heap.size + 1 + 1 + 1) 3 _ _ _ HZ3.out
    have t3 := frozen_of_row w3 (w.heap.size + 1 + 1 + 1) 3 _ _ HZ3.out
    have z4 := cell_of_row w3 (w.heap.size + 1 + 1 + 1) 4 _ _ _ HZ3.out
    have t4 := frozen_of_row w3 (w.heap.size + 1 + 1 + 1) 4 _ _ HZ3.out
    have z5 := cell_of_row w3 (w.heap.size + 1 + 1 + 1) 5 _ _ _ HZ3.out
    have t5 := frozen_of_row w3 (w.heap.size + 1 + 1 + 1) 5 _ _ HZ3.out
    have z6 := cell_of_row w3 (w.heap.size + 1 + 1 + 1) 6 _ _ _ HZ3.out
    have t6 := frozen_of_row w3 (w.heap.size + 1 + 1 + 1) 6 _ _ HZ3.out
    have z7 := cell_of_row w3 (w.heap.size + 1 + 1 + 1) 7 _ _ _ HZ3.out
    have t7 := frozen_of_row w3 (w.heap.size + 1 + 1 + 1) 7 _ _ HZ3.out
    have z8 := cell_of_row w3 (w.heap.size + 1 + 1 + 1) 8 _ _ _ HZ3.out
    have t8 := frozen_of_row w3 (w.heap.size + 1 + 1 + 1) 8 _ _ HZ3.out
    have z9 := cell_of_row w3 (w.heap.size + 1 + 1 + 1) 9 _ _ _ HZ3.out
    have t9 := frozen_of_row w3 (w.heap.size + 1 + 1 + 1) 9 _ _ HZ3.out
    have z10 := cell_of_row w3 (w.heap.size + 1 + 1 + 1) 10 _ _ _ HZ3.out
    have t10 := frozen_of_row w3 (w.heap.size + 1 + 1 + 1) 10 _ _ HZ3.out
    simp at z0 z1 z2 z3 z4 z5 z6 z7 z8 z9 z10
    go_wp2
    obtain ⟨e1, e2⟩ := st_fill w3 (w.heap.size + 1 + 1 + 1) x (.slice oa3 x.out.length oc3) (.slice ia3 x.inn.length ic3) (.slice ba3 x.back.length bc3) HZ3.out
    refine bodyPost_ret (res_three rfl _ (w.heap.size + 1 + 1 + 1) rfl x _ _ _ e1) rfl ?_
    refine ⟨_, _, _, _, rfl, ?_⟩
    have hz := HZs.out
    have hz2 := HB3.out.size
    have g0 : GOut At w1 O (x, [], r, s) (.slice oa3 x.out.length oc3) (.slice ia3 x.inn.length ic3) (.slice ba3 x.back.length bc3) (.slice none 0 0) w3 :=
      ⟨O, ⟨⟨Sl.own H1.out, Sl.own H2.out, Sl.own H3.out, fun k e => ⟨(H1.out.lt k e).1, fun e2 => by have := HO.out k e2; have := (H1.out.lt k e).1; omega, (H1.out.lt k e).2⟩, fun k e => ⟨(H2.out.lt k e).1, fun e2 => by have := HO.out k e2; have := (H2.out.lt k e).1; omega, (H2.out.lt k e).2⟩, fun k e => ⟨(H3.out.lt k e).1, fun e2 => by have := HO.out k e2; have := (H3.out.lt k e).1; omega, (H3.out.lt k e).2⟩⟩, (hT s).keep HA.out (fun j e hj => (HB3.out.block j (by omega)).trans (HB1.out.block j hj)) (by have := HB1.out.size; omega), fun j e => by have := HO.out j e; omega, fun _ e => .inl e, Turned.of_below HB3.out⟩, World.ownsRow_nil _ _ _ _, fun k e => by simp [Value.ownBlock] at e⟩
    exact g0.fin hT HB1.out HO.out (e2.mono fun k e => (by have e : k = w.heap.size + 1 + 1 + 1 := e; omega : w.heap.size ≤ k ∧ k < w1.heap.size))
  case pos =>
    have hrf : x.refuse true = 0 ∧ 1 ≤ limit ∧ limit ≤ 65536 := by
      unfold SS.grefuse at hr
      by_cases h0 : x.refuse true = 0
      · rw [if_neg (by simp [h0])] at hr
        by_cases h1 : limit < 1 ∨ 65536 < limit
        · rw [if_pos h1] at hr; omega
        · exact ⟨h0, by omega, by omega⟩
      · rw [if_pos h0] at hr; exact absurd hr h0
    have hmay : x.may = true := by
      have := hrf.1
      unfold SS.refuse at this
      by_cases h0 : x.may = true
      · exact h0
      · rw [if_pos (by simpa using h0)] at this; omega
    obtain ⟨N, hN⟩ : ∃ N : Nat, limit = (N : Int) := ⟨limit.toNat, by omega⟩
    have hNt : limit.toNat = N := by omega
    obtain ⟨Q, hQ⟩ : ∃ Q, Q = gat D (stopU d limit) (N + 1) x s [] := ⟨_, rfl⟩
    have hun : x.until D s d limit = (Q.1, Q.2.1, endV Q.2.2.1 Q.2.1, Q.2.2.2) := by
      unfold SS.until
      rw [if_neg (by simp [hr]), hNt, ← hQ]
    rw [hun]
    clear hun hNt
    obtain ⟨x', acc, E, s'⟩ := Q
    simp only
    have HVs := hide (And.intro hr (And.intro hrf (And.intro hmay (And.intro hN hQ))))
    clear hr hrf hmay hN hQ
    go_enter Tryz.func107, Tryz.ntmps107
    go_wp2_with fail
    generalize ((((w.alloc (Obj.cells #[.bool x.rd, .bool x.wt, .int .i64 x.mode, .int .i64 x.size, .slice oa x.out.length oc, .slice ia x.inn.length ic, .slice ba x.back.length bc, .int .i64 x.dir, .bool x.fin, .bool x.bad, .bool x.closed] 55)).alloc (Obj.cells #[.int .u8 (d.toNat : Int)] 5)).alloc (Obj.cells #[.int .i64 limit] 3)).alloc (Obj.cells #[.bool false, .bool false, .int .i64 0, .int .i64 0, .slice none 0 0, .slice none 0 0, .slice none 0 0, .int .i64 0, .bool false, .bool false, .bool false] 55)) = w0 at *
    refine (HR1.out w0).mono ?_
    rintro _ w1 ⟨rfl, hB1⟩
    have HB1 := hide (HF.out.1.trans (hB1.mono HF.out.1.size))
    have z0 := HF.out.1.size
    have z6 := HF.out.2.2.2.2.2
    have z7 := hB1.size
    have HX1 : Hid (StAt w1 w.heap.size x (.slice oa x.out.length oc) (.slice ia x.inn.length ic) (.slice ba x.back.length bc)) := hide ((hB1.block _ (by omega)).trans HF.out.2.1)
    have hd1 := (hB1.cell (World.block_lt_of_cell? _ _ hd)).trans hd
    have hl1 := (hB1.cell (World.block_lt_of_cell? _ _ hl)).trans hl
    have HZ1 : Hid (w1.heap[w.heap.size + 1 + 1 + 1]? = some (Obj.cells #[.bool false, .bool false, .int .i64 0, .int .i64 0, .slice none 0 0, .slice none 0 0, .slice none 0 0, .int .i64 0, .bool false, .bool false, .bool false] 55)) := hide ((hB1.block _ (by omega)).trans HF.out.2.2.2.2.1)
    have HZs : Hid (w.heap.size + 1 + 1 + 1 < w1.heap.size) := hide (by omega)
    obtain ⟨c0, c1, c2, c3, c4, c5, c6, c7, c8, c9, c10⟩ := HX1.out.cs
    clear hB1 HF HR1 hd hl z0 z6 z7
    obtain ⟨hr, hrf, hmay, hN, hQ⟩ := HVs.out
    have z1 := HB1.out.size
    have hz := HZs.out
    have HGa := gather_any R hT hG (w := w1) (O := O) oa ia ba oc ic bc d limit (w.heap.size + 1 + 1) (w.heap.size + 1) N (HIn.out.below HB1.out) ((hT s).keep HA.out (fun j _ hj => HB1.out.block j hj) z1) (fun j e => Nat.lt_of_lt_of_le (HO.out j e) z1) hmay hN (by omega) (bear_down hG (131072 - 2 * N) (2 * N + 2) s (by rw [show 131072 - 2 * N + (2 * N + 2) = 131074 by omega]; exact HGs.out)) hl1 hd1 ⟨fun e => by have := HO.out _ e; omega, fun e => by have := HO.out _ e; omega⟩
    rw [← hQ] at HGa
    simp only at HGa
    have HG1 := hide HGa
    rw [hr]
    clear hr hrf hmay hN z1 hz HGa hd1 hl1 hQ HVs
    go_wp2_with fail
    refine HG1.out.mono ?_
    rintro _ w2 ⟨o', i', b', u, rfl, hG2⟩
    obtain ⟨o2, oc2, rfl, -⟩ := hG2.choose_spec.1.1.so
    obtain ⟨i2, ic2, rfl, -⟩ := hG2.choose_spec.1.1.si
    obtain ⟨b2, bc2, rfl, -⟩ := hG2.choose_spec.1.1.sb
    obtain ⟨ua, uc, rfl⟩ := owns_slice hG2.choose_spec.2.1
    have hT2 : Turned O w1 w2 := by obtain ⟨_, ⟨_, _, _, _, t⟩, _⟩ := hG2; exact t
    have HX2 : StAt w2 w.heap.size x _ _ _ := (hT2.block _ HX1.out.lt (fun e => by have := HO.out _ e; omega)).trans HX1.out
    have HZ2 : Hid (w2.heap[w.heap.size + 1 + 1 + 1]? = some (Obj.cells #[.bool false, .bool false, .int .i64 0, .int .i64 0, .slice none 0 0, .slice none 0 0, .slice none 0 0, .int .i64 0, .bool false, .bool false, .bool false] 55)) := hide ((hT2.block _ HZs.out (fun e => by have := HO.out _ e; omega)).trans HZ1.out)
    obtain ⟨k1, k2⟩ := st_fill2 w2 w.heap.size x x' _ _ _ (.slice o2 x'.out.length oc2) (.slice i2 x'.inn.length ic2) (.slice b2 x'.back.length bc2) HX2
    have HF1 := hide k1
    have HF2 := hide k2
    clear c0 c1 c2 c3 c4 c5 c6 c7 c8 c9 c10
    obtain ⟨c0, c1, c2, c3, c4, c5, c6, c7, c8, c9, c10⟩ := HX2.cs
    have f0 := HX2.soft 0
    have f1 := HX2.soft 1
    have f2 := HX2.soft 2
    have f3 := HX2.soft 3
    have f4 := HX2.soft 4
    have f5 := HX2.soft 5
    have f6 := HX2.soft 6
    have f7 := HX2.soft 7
    have f8 := HX2.soft 8
    have f9 := HX2.soft 9
    have f10 := HX2.soft 10
    have HG2 := hide hG2
    clear hG2 hT2 HX2 k1 k2 HG1
    unfold filled at HF1 HF2
    go_upto_region 5 with fail
    have HZ3 : Hid ((((((((((((w2.setCell ⟨w.heap.size, 0, none⟩ (.bool x'.rd)).setCell ⟨w.heap.size, 1, none⟩ (.bool x'.wt)).setCell ⟨w.heap.size, 2, none⟩ (.int .i64 x'.mode)).setCell ⟨w.heap.size, 3, none⟩ (.int .i64 x'.size)).setCell ⟨w.heap.size, 4, none⟩ (.slice o2 x'.out.length oc2)).setCell ⟨w.heap.size, 5, none⟩ (.slice i2 x'.inn.length ic2)).setCell ⟨w.heap.size, 6, none⟩ (.slice b2 x'.back.length bc2)).setCell ⟨w.heap.size, 7, none⟩ (.int .i64 x'.dir)).setCell ⟨w.heap.size, 8, none⟩ (.bool x'.fin)).setCell ⟨w.heap.size, 9, none⟩ (.bool x'.bad)).setCell ⟨w.heap.size, 10, none⟩ (.bool x'.closed)).heap[w.heap.size + 1 + 1 + 1]? = some (Obj.cells #[.bool false, .bool false, .int .i64 0, .int .i64 0, .slice none 0 0, .slice none 0 0, .slice none 0 0, .int .i64 0, .bool false, .bool false, .bool false] 55)) := hide ((HF2.out.block _ (Array.getElem?_eq_some_iff.1 HZ2.out).1 (by omega)).trans HZ2.out)
    generalize (((((((((((w2.setCell ⟨w.heap.size, 0, none⟩ (.bool x'.rd)).setCell ⟨w.heap.size, 1, none⟩ (.bool x'.wt)).setCell ⟨w.heap.size, 2, none⟩ (.int .i64 x'.mode)).setCell ⟨w.heap.size, 3, none⟩ (.int .i64 x'.size)).setCell ⟨w.heap.size, 4, none⟩ (.slice o2 x'.out.length oc2)).setCell ⟨w.heap.size, 5, none⟩ (.slice i2 x'.inn.length ic2)).setCell ⟨w.heap.size, 6, none⟩ (.slice b2 x'.back.length bc2)).setCell ⟨w.heap.size, 7, none⟩ (.int .i64 x'.dir)).setCell ⟨w.heap.size, 8, none⟩ (.bool x'.fin)).setCell ⟨w.heap.size, 9, none⟩ (.bool x'.bad)).setCell ⟨w.heap.size, 10, none⟩ (.bool x'.closed)) = w3 at *
    clear c0 c1 c2 c3 c4 c5 c6 c7 c8 c9 c10 f0 f1 f2 f3 f4 f5 f6 f7 f8 f9 f10
    obtain ⟨c0, c1, c2, c3, c4, c5, c6, c7, c8, c9, c10⟩ := HF1.out.cs
    have z0 := cell_of_row w3 (w.heap.size + 1 + 1 + 1) 0 _ _ _ HZ3.out
    have t0 := frozen_of_row w3 (w.heap.size + 1 + 1 + 1) 0 _ _ HZ3.out
    have z1 := cell_of_row w3 (w.heap.size + 1 + 1 + 1) 1 _ _ _ HZ3.out
    have t1 := frozen_of_row w3 (w.heap.size + 1 + 1 + 1) 1 _ _ HZ3.out
    have z2 := cell_of_row w3 (w.heap.size + 1 + 1 + 1) 2 _ _ _ HZ3.out
    have t2 := frozen_of_row w3 (w.heap.size + 1 + 1 + 1) 2 _ _ HZ3.out
    have z3 := cell_of_row w3 (w.heap.size + 1 + 1 + 1) 3 _ _ _ HZ3.out
    have t3 := frozen_of_row w3 (w.heap.size + 1 + 1 + 1) 3 _ _ HZ3.out
    have z4 := cell_of_row w3 (w.heap.size + 1 + 1 + 1) 4 _ _ _ HZ3.out
    have t4 := frozen_of_row w3 (w.heap.size + 1 + 1 + 1) 4 _ _ HZ3.out
    have z5 := cell_of_row w3 (w.heap.size + 1 + 1 + 1) 5 _ _ _ HZ3.out
    have t5 := frozen_of_row w3 (w.heap.size + 1 + 1 + 1) 5 _ _ HZ3.out
    have z6 := cell_of_row w3 (w.heap.size + 1 + 1 + 1) 6 _ _ _ HZ3.out
    have t6 := frozen_of_row w3 (w.heap.size + 1 + 1 + 1) 6 _ _ HZ3.out
    have z7 := cell_of_row w3 (w.heap.size + 1 + 1 + 1) 7 _ _ _ HZ3.out
    have t7 := frozen_of_row w3 (w.heap.size + 1 + 1 + 1) 7 _ _ HZ3.out
    have z8 := cell_of_row w3 (w.heap.size + 1 + 1 + 1) 8 _ _ _ HZ3.out
    have t8 := frozen_of_row w3 (w.heap.size + 1 + 1 + 1) 8 _ _ HZ3.out
    have z9 := cell_of_row w3 (w.heap.size + 1 + 1 + 1) 9 _ _ _ HZ3.out
    have t9 := frozen_of_row w3 (w.heap.size + 1 + 1 + 1) 9 _ _ HZ3.out
    have z10 := cell_of_row w3 (w.heap.size + 1 + 1 + 1) 10 _ _ _ HZ3.out
    have t10 := frozen_of_row w3 (w.heap.size + 1 + 1 + 1) 10 _ _ HZ3.out
    simp at z0 z1 z2 z3 z4 z5 z6 z7 z8 z9 z10
    have HEnd : ∀ (E' : Int), endV E acc = E' → ∃ o' i' b' u, Ending.returned (.tuple #[.agg #[.bool x'.rd, .bool x'.wt, .int .i64 x'.mode, .int .i64 x'.size, .slice o2 x'.out.length oc2, .slice i2 x'.inn.length ic2, .slice b2 x'.back.length bc2, .int .i64 x'.dir, .bool x'.fin, .bool x'.bad, .bool x'.closed], .slice ua acc.length uc, .int .i64 E']) = .returned (.tuple #[.agg #[.bool x'.rd, .bool x'.wt, .int .i64 x'.mode, .int .i64 x'.size, o', i', b', .int .i64 x'.dir, .bool x'.fin, .bool x'.bad, .bool x'.closed], u, .int .i64 (endV E acc)]) ∧ True := fun E' e => ⟨_, _, _, _, by rw [e], trivial⟩
    clear HEnd
    have HFin : Hid (∀ w4, Turned (fun k => k = w.heap.size + 1 + 1 + 1) w3 w4 → GOut At w O (x', acc, endV E acc, s') (.slice o2 x'.out.length oc2) (.slice i2 x'.inn.length ic2) (.slice b2 x'.back.length bc2) (.slice ua acc.length uc) w4) := hide (fun w4 t => by
      have hz := HZs.out
      exact GOut.fin (R := (x', acc, endV E acc, s')) hT HG2.out HB1.out HO.out ((HF2.out.mono fun k e => (by have e : k = w.heap.size := e; omega : w.heap.size ≤ k ∧ k < w1.heap.size)).trans (t.mono fun k e => (by have e : k = w.heap.size + 1 + 1 + 1 := e; omega : w.heap.size ≤ k ∧ k < w1.heap.size)) (fun _ _ e => e)))
    obtain ⟨k1, k2⟩ := st_fill w3 (w.heap.size + 1 + 1 + 1) x' (.slice o2 x'.out.length oc2) (.slice i2 x'.inn.length ic2) (.slice b2 x'.back.length bc2) HZ3.out
    have HK1 := hide k1
    have HK2 := hide k2
    clear k1 k2
    by_cases h1 : E = 111
    · by_cases h2 : 0 < acc.length
      · have he : endV E acc = 0 := by unfold endV; rw [if_pos ⟨h1, h2⟩]
        have HE := hide he
        have d1 : (E == 111) = true := by simp [h1]
        have d2 : decide (0 < acc.length) = true := decide_eq_true h2
        clear h1 h2 he HF1 HF2 HG2 HZ1 HZ2 HX1
        go_wp2
        refine bodyPost_ret (res_three rfl _ (w.heap.size + 1 + 1 + 1) rfl x' _ _ _ HK1.out) rfl ?_
        exact ⟨_, _, _, _, by rw [HE.out]; rfl, HFin.out _ HK2.out⟩
      · have he : endV E acc = E := by unfold endV; rw [if_neg (fun e => h2 e.2)]
        have HE := hide he
        have d1 : (E == 111) = true := by simp [h1]
        have d2 : decide (0 < acc.length) = false := decide_eq_false h2
        clear h1 h2 he HF1 HF2 HG2 HZ1 HZ2 HX1
        go_wp2
        refine bodyPost_ret (res_three rfl _ (w.heap.size + 1 + 1 + 1) rfl x' _ _ _ HK1.out) rfl ?_
        exact ⟨_, _, _, _, by rw [HE.out]; rfl, HFin.out _ HK2.out⟩
    · have he : endV E acc = E := by unfold endV; rw [if_neg (fun e => h1 e.1)]
      have HE := hide he
      have d1 : (E == 111) = false := by simp [h1]
      clear h1 he HF1 HF2 HG2 HZ1 HZ2 HX1
      go_wp2
      refine bodyPost_ret (res_three rfl _ (w.heap.size + 1 + 1 + 1) rfl x' _ _ _ HK1.out) rfl ?_
      exact ⟨_, _, _, _, by rw [HE.out]; rfl, HFin.out _ HK2.out⟩
set_option maxRecDepth 100000 in
set_option maxHeartbeats 8000000 in
theorem lget_any {S : Type} {D : RawD S} {T : TypeId} {v : Value} {fr fw : FuncId} {rok wok : S → Prop} {At : World → (Nat → Prop) → S → Prop} (R : RawM D T v fr fw rok wok At) (hT : ∀ s, OAt (fun w O => At w O s)) {G : Nat → S → Prop} (hG : Bears D rok wok G) {w : World} {O P : Nat → Prop} {s : S} {x : SS} (oa ia ba : Option Addr) (oc ic bc : Nat) (limit : Int) (h : SIn w P x (.slice oa x.out.length oc) (.slice ia x.inn.length ic) (.slice ba x.back.length bc)) (hA : At w O s) (hO : ∀ j, O j → j < w.heap.size) (hg : G 131074 s) (ho : x.out.length ≤ 140737488351232) (hi : x.inn.length ≤ 140737488351232) (hb : x.back.length ≤ 140737488351232) :
    Calls Tryz.prog 27 #[.agg #[.bool x.rd, .bool x.wt, .int .i64 x.mode, .int .i64 x.size, .slice oa x.out.length oc, .slice ia x.inn.length ic, .slice ba x.back.length bc, .int .i64 x.dir, .bool x.fin, .bool x.bad, .bool x.closed], .iface T v, .int .i64 limit] w fun e w' => ∃ o' i' b' u, e = .returned (.tuple #[.agg #[.bool (x.until D s 10 limit).1.rd, .bool (x.until D s 10 limit).1.wt, .int .i64 (x.until D s 10 limit).1.mode, .int .i64 (x.until D s 10 limit).1.size, o', i', b', .int .i64 (x.until D s 10 limit).1.dir, .bool (x.until D s 10 limit).1.fin, .bool (x.until D s 10 limit).1.bad, .bool (x.until D s 10 limit).1.closed], u, .int .i64 (x.until D s 10 limit).2.2.1]) ∧ GOut At w O (x.until D s 10 limit) o' i' b' u w' := by
  have HU := hide (fun (W : World) (hW : Below w.heap.size w W) => until_any R hT hG (w := W) (O := O) oa ia ba oc ic bc 10 limit (h.below hW) ((hT s).keep hA (fun j _ hj => hW.block j hj) hW.size) (fun j e => Nat.lt_of_lt_of_le (hO j e) hW.size) hg ho hi hb)
  have HO := hide hO
  clear h hA hO hg ho hi hb
  generalize x.until D s 10 limit = Q at *
  obtain ⟨x', acc, E, s'⟩ := Q
  simp only at HU ⊢
  have hB0 := (recv_below w (Obj.cells #[.bool x.rd, .bool x.wt, .int .i64 x.mode, .int .i64 x.size, .slice oa x.out.length oc, .slice ia x.inn.length ic, .slice ba x.back.length bc, .int .i64 x.dir, .bool x.fin, .bool x.bad, .bool x.closed] 55)).trans ((recv_below (w.alloc (Obj.cells #[.bool x.rd, .bool x.wt, .int .i64 x.mode, .int .i64 x.size, .slice oa x.out.length oc, .slice ia x.inn.length ic, .slice ba x.back.length bc, .int .i64 x.dir, .bool x.fin, .bool x.bad, .bool x.closed] 55)) (Obj.cells #[.bool false, .bool false, .int .i64 0, .int .i64 0, .slice none 0 0, .slice none 0 0, .slice none 0 0, .int .i64 0, .bool false, .bool false, .bool false] 55)).mono (recv_below w (Obj.cells #[.bool x.rd, .bool x.wt, .int .i64 x.mode, .int .i64 x.size, .slice oa x.out.length oc, .slice ia x.inn.length ic, .slice ba x.back.length bc, .int .i64 x.dir, .bool x.fin, .bool x.bad, .bool x.closed] 55)).size)
  have hz0 : ((w.alloc (Obj.cells #[.bool x.rd, .bool x.wt, .int .i64 x.mode, .int .i64 x.size, .slice oa x.out.length oc, .slice ia x.inn.length ic, .slice ba x.back.length bc, .int .i64 x.dir, .bool x.fin, .bool x.bad, .bool x.closed] 55)).alloc (Obj.cells #[.bool false, .bool false, .int .i64 0, .int .i64 0, .slice none 0 0, .slice none 0 0, .slice none 0 0, .int .i64 0, .bool false, .bool false, .bool false] 55)).heap[w.heap.size + 1]? = some (Obj.cells #[.bool false, .bool false, .int .i64 0, .int .i64 0, .slice none 0 0, .slice none 0 0, .slice none 0 0, .int .i64 0, .bool false, .bool false, .bool false] 55) := by
    have := heap_alloc_new (w.alloc (Obj.cells #[.bool x.rd, .bool x.wt, .int .i64 x.mode, .int .i64 x.size, .slice oa x.out.length oc, .slice ia x.inn.length ic, .slice ba x.back.length bc, .int .i64 x.dir, .bool x.fin, .bool x.bad, .bool x.closed] 55)) (Obj.cells #[.bool false, .bool false, .int .i64 0, .int .i64 0, .slice none 0 0, .slice none 0 0, .slice none 0 0, .int .i64 0, .bool false, .bool false, .bool false] 55)
    rw [show (w.alloc (Obj.cells #[.bool x.rd, .bool x.wt, .int .i64 x.mode, .int .i64 x.size, .slice oa x.out.length oc, .slice ia x.inn.length ic, .slice ba x.back.length bc, .int .i64 x.dir, .bool x.fin, .bool x.bad, .bool x.closed] 55)).heap.size = w.heap.size + 1 from Array.size_push ..] at this
    exact this
  have HB0 := hide hB0
  have HZ0 := hide hz0
  have hU := HU.out _ hB0
  rw [show (((10 : UInt8).toNat : Nat) : Int) = 10 from rfl] at hU
  have HU1 := hide hU
  clear hB0 hz0 hU HU
  go_enter Tryz.func27, Tryz.ntmps27
  go_wp2_with fail
  generalize (w.alloc (Obj.cells #[.bool x.rd, .bool x.wt, .int .i64 x.mode, .int .i64 x.size, .slice oa x.out.length oc, .slice ia x.inn.length ic, .slice ba x.back.length bc, .int .i64 x.dir, .bool x.fin, .bool x.bad, .bool x.closed] 55)).alloc (Obj.cells #[.bool false, .bool false, .int .i64 0, .int .i64 0, .slice none 0 0, .slice none 0 0, .slice none 0 0, .int .i64 0, .bool false, .bool false, .bool false] 55) = w0 at *
  refine HU1.out.mono ?_
  rintro _ w3 ⟨o', i', b', u, rfl, hG2⟩
  obtain ⟨o2, oc2, rfl, -⟩ := hG2.choose_spec.1.1.so
  obtain ⟨i2, ic2, rfl, -⟩ := hG2.choose_spec.1.1.si
  obtain ⟨b2, bc2, rfl, -⟩ := hG2.choose_spec.1.1.sb
  obtain ⟨ua, uc, rfl⟩ := owns_slice hG2.choose_spec.2.1
  have hzz : w.heap.size + 1 < w0.heap.size := (Array.getElem?_eq_some_iff.1 HZ0.out).1
  have hT2 : Turned O w0 w3 := by obtain ⟨_, ⟨_, _, _, _, t⟩, _⟩ := hG2; exact t
  have HZ3 : Hid (w3.heap[w.heap.size + 1]? = some (Obj.cells #[.bool false, .bool false, .int .i64 0, .int .i64 0, .slice none 0 0, .slice none 0 0, .slice none 0 0, .int .i64 0, .bool false, .bool false, .bool false] 55)) := hide ((hT2.block _ hzz (fun e => by have := HO.out _ e; omega)).trans HZ0.out)
  have HG2 := hide hG2
  have HSz := hide hzz
  clear hG2 hT2 hzz HU1
  have z0 := cell_of_row w3 (w.heap.size + 1) 0 _ _ _ HZ3.out
  have t0 := frozen_of_row w3 (w.heap.size + 1) 0 _ _ HZ3.out
  have z1 := cell_of_row w3 (w.heap.size + 1) 1 _ _ _ HZ3.out
  have t1 := frozen_of_row w3 (w.heap.size + 1) 1 _ _ HZ3.out
  have z2 := cell_of_row w3 (w.heap.size + 1) 2 _ _ _ HZ3.out
  have t2 := frozen_of_row w3 (w.heap.size + 1) 2 _ _ HZ3.out
  have z3 := cell_of_row w3 (w.heap.size + 1) 3 _ _ _ HZ3.out
  have t3 := frozen_of_row w3 (w.heap.size + 1) 3 _ _ HZ3.out
  have z4 := cell_of_row w3 (w.heap.size + 1) 4 _ _ _ HZ3.out
  have t4 := frozen_of_row w3 (w.heap.size + 1) 4 _ _ HZ3.out
  have z5 := cell_of_row w3 (w.heap.size + 1) 5 _ _ _ HZ3.out
  have t5 := frozen_of_row w3 (w.heap.size + 1) 5 _ _ HZ3.out
  have z6 := cell_of_row w3 (w.heap.size + 1) 6 _ _ _ HZ3.out
  have t6 := frozen_of_row w3 (w.heap.size + 1) 6 _ _ HZ3.out
  have z7 := cell_of_row w3 (w.heap.size + 1) 7 _ _ _ HZ3.out
  have t7 := frozen_of_row w3 (w.heap.size + 1) 7 _ _ HZ3.out
  have z8 := cell_of_row w3 (w.heap.size + 1) 8 _ _ _ HZ3.out
  have t8 := frozen_of_row w3 (w.heap.size + 1) 8 _ _ HZ3.out
  have z9 := cell_of_row w3 (w.heap.size + 1) 9 _ _ _ HZ3.out
  have t9 := frozen_of_row w3 (w.heap.size + 1) 9 _ _ HZ3.out
  have z10 := cell_of_row w3 (w.heap.size + 1) 10 _ _ _ HZ3.out
  have t10 := frozen_of_row w3 (w.heap.size + 1) 10 _ _ HZ3.out
  simp at z0 z1 z2 z3 z4 z5 z6 z7 z8 z9 z10
  go_wp2
  obtain ⟨e1, e2⟩ := st_fill w3 (w.heap.size + 1) x' (.slice o2 x'.out.length oc2) (.slice i2 x'.inn.length ic2) (.slice b2 x'.back.length bc2) HZ3.out
  refine bodyPost_ret (res_three rfl _ (w.heap.size + 1) rfl x' _ _ _ e1) rfl ?_
  have hzz := HSz.out
  exact ⟨_, _, _, _, rfl, GOut.fin hT HG2.out HB0.out HO.out (e2.mono fun k e => (by have e : k = w.heap.size + 1 := e; omega : w.heap.size ≤ k ∧ k < w0.heap.size))⟩
end Go.Proofs.YtndleeafkepdjaaGreat

/- Lines: what was gathered is kept beside the stream. -/
namespace Go.Proofs.YtndleeafkepdjaaGreat
open Go.RowKit
structure Hel (W : World) (B : Nat) (O : Nat → Prop) (g : Nat) (o i b v : Value) (l : List UInt8) : Prop where
  own : W.ownsRow B 5 1 v l.length (l.map bv)
  off : ∀ k, v.ownBlock = some k → ¬ O k ∧ k ≠ g ∧ o.ownBlock ≠ some k ∧ i.ownBlock ≠ some k ∧ b.ownBlock ≠ some k
theorem LV.nextG {S : Type} {At : World → (Nat → Prop) → S → Prop} (hT : ∀ s, OAt (fun w O => At w O s)) {w w1 : World} {B g : Nat} {O : Nat → Prop} {x : SS} {s : S} {R : SS × List UInt8 × Int × S} {o i b o' i' b' u : Value} (h : LV At w B g O x s o i b) (hB : B ≤ w.heap.size) (hS : GOut At w O R o' i' b' u w1) :
    StAt w1 g x o i b ∧ Turned (fun k => B ≤ k) w (filled w1 g R.1 o' i' b') ∧ ∃ O', LV At (filled w1 g R.1 o' i' b') B g O' R.1 R.2.2.2 o' i' b' ∧ Hel (filled w1 g R.1 o' i' b') B O' g o' i' b' u R.2.1 ∧ ∀ v l, Hel w B O g o i b v l → Hel (filled w1 g R.1 o' i' b') B O' g o' i' b' v l ∧ ∀ k, v.ownBlock = some k → u.ownBlock ≠ some k := by
  obtain ⟨O', ⟨h1, h2, h3, h4, h5⟩, h6, h7⟩ := hS
  have hg := h.st.lt
  have hz := h5.size
  have hst : StAt w1 g x o i b := (h5.block g hg h.og).trans h.st
  obtain ⟨-, e2⟩ := st_fill2 w1 g x R.1 o i b o' i' b' hst
  have hl := LV.next1 hT h hB O' h1 h2 h3 h4 h5
  refine ⟨hst, (h5.mono fun k e => h.ob k e).trans (e2.mono fun k e => (by have := h.gB; omega : B ≤ k)) (fun _ _ e => e), O', hl, ⟨owns_mono (owns_turned h6 e2 (fun k e e' => by have := (h6.lt k e).1; have e' : k = g := e'; omega)) hB, fun k e => ⟨(h7 k e).1, by have := (h6.lt k e).1; omega, (h7 k e).2⟩⟩, fun v l hv => ?_⟩
  have hv1 := hv.own
  refine ⟨?_, fun k e e2 => by have := (h6.lt k e2).1; have := (hv1.lt k e).2; omega⟩
  refine ⟨owns_turned (owns_turned hv1 h5 (fun k e e' => (hv.off k e).1 e')) e2 (fun k e e' => (hv.off k e).2.1 e'), fun k e => ?_⟩
  have hk := (hv1.lt k e).2
  refine ⟨fun e2 => ?_, (hv.off k e).2.1, fun e2 => by have := (h1.po k e2).1; omega, fun e2 => by have := (h1.pi k e2).1; omega, fun e2 => by have := (h1.pb k e2).1; omega⟩
  rcases h4 k e2 with e3 | e3
  · exact (hv.off k e).1 e3
  · omega
end Go.Proofs.YtndleeafkepdjaaGreat

/- Lines over a memory that is read: values, and the memory as a Raw. -/
namespace Go.Proofs.YtndleeafkepdjaaGreat
open Go.RowKit

def rdRm : RawD MS := ⟨fun S n => S.read n, fun S _ => (0, 65, S)⟩
theorem rdr_rawP (g : Nat) : RawP rdRm 163 (.pointer (some ⟨g, 0, none⟩)) 305 307 (fun _ => True) (fun _ => True) (fun w O S => MemAt w O g S) where
  mread w := by kernel_rfl
  mwrite w := by kernel_rfl
  cread a w := by kernel_rfl
  cwrite a w := by kernel_rfl
  keep h hk _ := h.keep hk
  few {w O s} n h := by
    have := h.ok
    show (s.read n).1.length ≤ _
    unfold MS.read
    split
    · have := piece_le s.l s.pl (n : Int).toNat
      simp only
      omega
    · simp
  read n h _ _ _ := (rmread_any _ g _ n _ h).mono fun _ _ e => view_own e
  write bs a c h _ hb hc _ _ hap := (rmwrite_any _ g _ _ _ h).mono fun _ w' e => ⟨e.1, _, e.2 ▸ h, fun _ e => .inl e, e.2 ▸ Turned.refl _ _⟩
theorem rdr_raw (g : Nat) : RawM rdRm 163 (.pointer (some ⟨g, 0, none⟩)) 305 307 (fun _ => True) (fun _ => True) (fun w O S => MemAt w O g S) := (rdr_rawP g).gen
end Go.Proofs.YtndleeafkepdjaaGreat
