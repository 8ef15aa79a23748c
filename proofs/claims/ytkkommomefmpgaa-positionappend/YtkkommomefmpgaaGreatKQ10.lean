/- What the proof stands on, part 10: the contracts of the program's calls that it reaches. -/
import Derived.Test.YtkkommomefmpgaaGreatKQ9
import Derived.Lib.MinMax
import Derived.BigRegion
import Derived.Sort.Walk0
/- The reference's kernel: room, Seek. -/
namespace Go.Proofs.YtkkommomefmpgaaGreat
open Go.RowKit

def RKNum (w : World) (B : Nat → Prop) (kb : Nat) (r : Int × Int × KS) (e : Ending) (w' : World) : Prop :=
  ∃ ρ' I', e = .returned (.tuple #[.int .i64 r.1, .int .i64 r.2.1]) ∧ RK w' B ρ' I' r.2.2 ∧ I'.kb = kb ∧ Turned B w w'
theorem RKNum.refused {w : World} {B : Nat → Prop} {ρ : Nat → Option Tag} {I : RI} {K : KS} (h : RK w B ρ I K) (a E : Int) : RKNum w B I.kb (a, E, K) (.returned (.tuple #[.int .i64 a, .int .i64 E])) w :=
  ⟨ρ, I, rfl, h, rfl, Turned.refl _ _⟩
set_option maxRecDepth 100000 in
set_option maxHeartbeats 4000000 in
theorem rkseek_any (B : Nat → Prop) (ρ : Nat → Option Tag) (I : RI) (K : KS) (d off wh : Int) (w : World) (h : RK w B ρ I K) :
    Calls Tryz.prog 57 #[.pointer (some ⟨I.kb, 0, none⟩), .int .i64 d, .int .i64 off, .int .i64 wh] w (RKNum w B I.kb (K.seek d off wh)) := by
  have HF := hide (rfind_any B ρ I K d w h)
  have HX := hide fun a E => RKNum.refused h a E
  cases hx : K.find d with
  | none =>
    rw [hx] at HF
    rw [show K.seek d off wh = (0, 64, K) by unfold KS.seek; rw [hx]]
    clear h
    go_enter Tryz.func57, Tryz.ntmps57
    go_wp2_with fail
    refine HF.out.mono ?_
    rintro e w1 ⟨rfl, rfl⟩
    go_wp2
    go_ret2
    exact HX.out 0 64
  | some x =>
    rw [hx] at HF
    have hm := (KS.find_some hx).1
    have hd := h.de hm
    have c1 := hd.t
    have c2 := hd.kind
    have c3 := hd.p
    have c3s := hd.soft 3
    have hpos := h.ok.pos x hm
    have hp := h.ptr hm
    have hO := h.robj hm
    cases ho : K.tho x with
    | pipe q rd wt =>
      rw [show K.seek d off wh = (0, 66, K) by unfold KS.seek; rw [hx]; simp only; rw [ho]]
      rw [ho] at c2
      simp only [Ob.kind] at c2
      clear h hd hp hO
      go_enter Tryz.func57, Tryz.ntmps57
      go_wp2_with fail
      refine HF.out.mono ?_
      rintro e w1 ⟨rfl, rfl⟩
      simp only [Option.map_some]
      go_wp2
      go_ret2
      exact HX.out 0 66
    | term ls scr =>
      rw [show K.seek d off wh = (0, 66, K) by unfold KS.seek; rw [hx]; simp only; rw [ho]]
      rw [ho] at c2
      simp only [Ob.kind] at c2
      clear h hd hp hO
      go_enter Tryz.func57, Tryz.ntmps57
      go_wp2_with fail
      refine HF.out.mono ?_
      rintro e w1 ⟨rfl, rfl⟩
      simp only [Option.map_some]
      go_wp2
      go_ret2
      exact HX.out 0 66
    | file b =>
      have hR : K.seek d off wh = if wh < 0 ∨ 2 < wh then (0, 1, K) else
        if 0 ≤ (if wh = 1 then (x.pos : Int) else if wh = 2 then (b.length : Int) else 0) + off ∧ (if wh = 1 then (x.pos : Int) else if wh = 2 then (b.length : Int) else 0) + off ≤ 1048576 then
          ((if wh = 1 then (x.pos : Int) else if wh = 2 then (b.length : Int) else 0) + off, 0, K.setDe { x with pos := ((if wh = 1 then (x.pos : Int) else if wh = 2 then (b.length : Int) else 0) + off).toNat })
        else (0, 4, K) := by unfold KS.seek; rw [hx]; simp only; rw [ho]
      rw [ho] at c2 hO
      simp only [Ob.kind] at c2
      have c5 := hp.1 b ho
      obtain ⟨⟨u, B', hF, -⟩, hbl⟩ := hO
      have hbl' : b.length ≤ 1048576 := hbl
      have c6 := hF.data
      obtain ⟨ua, uc, hu⟩ := owns_slice hF.row
      rw [hu] at c6
      clear hp hF hbl hu
      rcases (show wh < 0 ∨ (¬ wh < 0 ∧ 2 < wh) ∨ wh = 0 ∨ wh = 1 ∨ wh = 2 by omega) with k1 | ⟨k1, k2⟩ | rfl | rfl | rfl
      · rw [if_pos (.inl k1)] at hR
        rw [hR]
        clear h hd hR
        go_enter Tryz.func57, Tryz.ntmps57
        go_wp2_with fail
        refine HF.out.mono ?_
        rintro e w1 ⟨rfl, rfl⟩
        simp only [Option.map_some]
        go_wp2
        go_ret2
        exact HX.out 0 1
      · rw [if_pos (.inr k2)] at hR
        rw [hR]
        clear h hd hR
        go_enter Tryz.func57, Tryz.ntmps57
        go_wp2_with fail
        refine HF.out.mono ?_
        rintro e w1 ⟨rfl, rfl⟩
        simp only [Option.map_some]
        go_wp2
        go_ret2
        exact HX.out 0 1
      · rw [if_neg (by omega)] at hR
        have HM := hide (move_any 0 off 1048576 w (by omega) (by omega) (by omega) (by omega))
        simp only [show ¬ ((0 : Int) = 1) by decide, show ¬ ((0 : Int) = 2) by decide, if_false] at hR
        by_cases k3 : 0 ≤ (0 : Int) + off ∧ (0 : Int) + off ≤ 1048576
        · rw [if_pos k3] at hR HM
          obtain ⟨p, hp⟩ : ∃ p : Nat, (0 : Int) + off = (p : Int) := ⟨((0 : Int) + off).toNat, by omega⟩
          rw [hp] at hR HM
          simp only [Int.toNat_natCast] at hR
          rw [hR]
          obtain ⟨hK2, hT2⟩ := h.setDe (x := x) (x' := { x with pos := p }) hm rfl rfl rfl (by show p ≤ 1048576; omega) (h.ok.held x hm) 3 (.int .i64 (p : Int)) (by simp)
          have HK2 := hide hK2
          have HT2 := hide (hT2.mono (S' := B) fun k e => (h.lt k _ e).1)
          clear h hd hR hK2 hT2
          go_enter Tryz.func57, Tryz.ntmps57
          go_wp2_with fail
          refine HF.out.mono ?_
          rintro e w1 ⟨rfl, rfl⟩
          simp only [Option.map_some]
          go_wp2_with fail
          refine HM.out.mono ?_
          rintro e w1 ⟨rfl, rfl⟩
          go_wp2
          go_ret2
          exact ⟨_, _, rfl, HK2.out, rfl, HT2.out⟩
        · rw [if_neg k3] at hR HM
          rw [hR]
          clear h hd hR
          go_enter Tryz.func57, Tryz.ntmps57
          go_wp2_with fail
          refine HF.out.mono ?_
          rintro e w1 ⟨rfl, rfl⟩
          simp only [Option.map_some]
          go_wp2_with fail
          refine HM.out.mono ?_
          rintro e w1 ⟨rfl, rfl⟩
          go_wp2
          go_ret2
          exact HX.out 0 4
      · rw [if_neg (by omega)] at hR
        have HM := hide (move_any x.pos off 1048576 w (by omega) (by omega) (by omega) (by omega))
        simp only [if_true] at hR
        by_cases k3 : 0 ≤ (x.pos : Int) + off ∧ (x.pos : Int) + off ≤ 1048576
        · rw [if_pos k3] at hR HM
          obtain ⟨p, hp⟩ : ∃ p : Nat, (x.pos : Int) + off = (p : Int) := ⟨((x.pos : Int) + off).toNat, by omega⟩
          rw [hp] at hR HM
          simp only [Int.toNat_natCast] at hR
          rw [hR]
          obtain ⟨hK2, hT2⟩ := h.setDe (x := x) (x' := { x with pos := p }) hm rfl rfl rfl (by show p ≤ 1048576; omega) (h.ok.held x hm) 3 (.int .i64 (p : Int)) (by simp)
          have HK2 := hide hK2
          have HT2 := hide (hT2.mono (S' := B) fun k e => (h.lt k _ e).1)
          clear h hd hR hK2 hT2
          go_enter Tryz.func57, Tryz.ntmps57
          go_wp2_with fail
          refine HF.out.mono ?_
          rintro e w1 ⟨rfl, rfl⟩
          simp only [Option.map_some]
          go_wp2_with fail
          refine HM.out.mono ?_
          rintro e w1 ⟨rfl, rfl⟩
          go_wp2
          go_ret2
          exact ⟨_, _, rfl, HK2.out, rfl, HT2.out⟩
        · rw [if_neg k3] at hR HM
          rw [hR]
          clear h hd hR
          go_enter Tryz.func57, Tryz.ntmps57
          go_wp2_with fail
          refine HF.out.mono ?_
          rintro e w1 ⟨rfl, rfl⟩
          simp only [Option.map_some]
          go_wp2_with fail
          refine HM.out.mono ?_
          rintro e w1 ⟨rfl, rfl⟩
          go_wp2
          go_ret2
          exact HX.out 0 4
      · rw [if_neg (by omega)] at hR
        have HM := hide (move_any b.length off 1048576 w (by omega) (by omega) (by omega) (by omega))
        simp only [show ¬ ((2 : Int) = 1) by decide, if_false, if_true] at hR
        by_cases k3 : 0 ≤ (b.length : Int) + off ∧ (b.length : Int) + off ≤ 1048576
        · rw [if_pos k3] at hR HM
          obtain ⟨p, hp⟩ : ∃ p : Nat, (b.length : Int) + off = (p : Int) := ⟨((b.length : Int) + off).toNat, by omega⟩
          rw [hp] at hR HM
          simp only [Int.toNat_natCast] at hR
          rw [hR]
          obtain ⟨hK2, hT2⟩ := h.setDe (x := x) (x' := { x with pos := p }) hm rfl rfl rfl (by show p ≤ 1048576; omega) (h.ok.held x hm) 3 (.int .i64 (p : Int)) (by simp)
          have HK2 := hide hK2
          have HT2 := hide (hT2.mono (S' := B) fun k e => (h.lt k _ e).1)
          clear h hd hR hK2 hT2
          go_enter Tryz.func57, Tryz.ntmps57
          go_wp2_with fail
          refine HF.out.mono ?_
          rintro e w1 ⟨rfl, rfl⟩
          simp only [Option.map_some]
          go_wp2_with fail
          refine HM.out.mono ?_
          rintro e w1 ⟨rfl, rfl⟩
          go_wp2
          go_ret2
          exact ⟨_, _, rfl, HK2.out, rfl, HT2.out⟩
        · rw [if_neg k3] at hR HM
          rw [hR]
          clear h hd hR
          go_enter Tryz.func57, Tryz.ntmps57
          go_wp2_with fail
          refine HF.out.mono ?_
          rintro e w1 ⟨rfl, rfl⟩
          simp only [Option.map_some]
          go_wp2_with fail
          refine HM.out.mono ?_
          rintro e w1 ⟨rfl, rfl⟩
          go_wp2
          go_ret2
          exact HX.out 0 4
end Go.Proofs.YtkkommomefmpgaaGreat

/- The reference's kernel: Write. -/
namespace Go.Proofs.YtkkommomefmpgaaGreat
open Go.RowKit

end Go.Proofs.YtkkommomefmpgaaGreat

/- The reference's kernel: Write, to a terminal and to a pipe. -/
namespace Go.Proofs.YtkkommomefmpgaaGreat
open Go.RowKit

end Go.Proofs.YtkkommomefmpgaaGreat

/- The reference's kernel: Write, to a terminal. -/
namespace Go.Proofs.YtkkommomefmpgaaGreat
open Go.RowKit

end Go.Proofs.YtkkommomefmpgaaGreat

/- The reference's kernel: Write, to a file. -/
namespace Go.Proofs.YtkkommomefmpgaaGreat
open Go.RowKit

end Go.Proofs.YtkkommomefmpgaaGreat

/- The reference's kernel: a new description. -/
namespace Go.Proofs.YtkkommomefmpgaaGreat
open Go.RowKit

theorem Tryz.infoDp : (Tryz.prog.info? 249).map (fun i => (i.zero, i.size, i.bytes)) = some (some (.pointer none), 1, 8) := by kernel_rfl
theorem Tryz.infoTp : (Tryz.prog.info? 219).map (fun i => (i.zero, i.size, i.bytes)) = some (some (.pointer none), 1, 8) := by kernel_rfl
theorem run_append_dptr (w : World) (ty : TypeId) (base : Nat) (s : Value) (n : Nat) (xs : List Value) (g c : Nat) (p : Value) (hp : p.oneCell' = true) (hs : w.ownsRow base 249 1 s n xs) (hx : w.cell? ⟨g, 0, none⟩ = some p) (hn : (n + 1) * 8 ≤ 140737488355328) (hb : base ≤ w.heap.size) :
    ∃ s' w', (Builtin.append_ #[141, 141] ty #[s, .slice (some ⟨g, 0, none⟩) 1 c]).run Tryz.prog w = .ok s' w' ∧ Hid (w'.ownsRow base 249 1 s' (n + 1) (xs ++ [p])) ∧ w.grownBy w' s.ownBlock ∧ (s'.ownBlock = s.ownBlock ∨ s'.ownBlock = some w.heap.size) := by
  refine (?_ : ∃ s' w', (Builtin.append_ #[141, 141] ty #[s, .slice (some ⟨g, 0, none⟩) 1 c]).run Tryz.prog w = .ok s' w' ∧ w'.ownsRow base 249 1 s' (n + 1) (xs ++ [p]) ∧ w.grownBy w' s.ownBlock ∧ (s'.ownBlock = s.ownBlock ∨ s'.ownBlock = some w.heap.size))
  obtain ⟨i0, hi, hz0, hz1, hz2⟩ := info_parts Tryz.infoDp
  obtain ⟨v', w', h1, h2, h3, _, h5⟩ := run_append_own_at (P := Tryz.prog) w base 141 ty 249 i0 (.pointer none) 1 8 Tryz.underlying141 hi hz0 hz1 hz2 rfl (by decide) s _ _ hs ⟨g, 0, none⟩ 1 c [p] rfl (fun j v hj => by
    match j, hj with
    | 0, hj =>
      obtain rfl : p = v := by simpa using hj
      have hadd : (⟨g, 0, none⟩ : Addr).add 0 = ⟨g, 0, none⟩ := by unfold Addr.add; split <;> simp_all
      rw [hadd]; exact hx) (by intro v hv; simp at hv; subst hv; exact hp) (by unfold maxLen; omega) (by omega) hb
  exact ⟨v', w', h1, h2, h3, h5⟩
theorem run_append_tptr (w : World) (ty : TypeId) (base : Nat) (s : Value) (n : Nat) (xs : List Value) (g c : Nat) (p : Value) (hp : p.oneCell' = true) (hs : w.ownsRow base 219 1 s n xs) (hx : w.cell? ⟨g, 0, none⟩ = some p) (hn : (n + 1) * 8 ≤ 140737488355328) (hb : base ≤ w.heap.size) :
    ∃ s' w', (Builtin.append_ #[140, 140] ty #[s, .slice (some ⟨g, 0, none⟩) 1 c]).run Tryz.prog w = .ok s' w' ∧ Hid (w'.ownsRow base 219 1 s' (n + 1) (xs ++ [p])) ∧ w.grownBy w' s.ownBlock ∧ (s'.ownBlock = s.ownBlock ∨ s'.ownBlock = some w.heap.size) := by
  refine (?_ : ∃ s' w', (Builtin.append_ #[140, 140] ty #[s, .slice (some ⟨g, 0, none⟩) 1 c]).run Tryz.prog w = .ok s' w' ∧ w'.ownsRow base 219 1 s' (n + 1) (xs ++ [p]) ∧ w.grownBy w' s.ownBlock ∧ (s'.ownBlock = s.ownBlock ∨ s'.ownBlock = some w.heap.size))
  obtain ⟨i0, hi, hz0, hz1, hz2⟩ := info_parts Tryz.infoTp
  obtain ⟨v', w', h1, h2, h3, _, h5⟩ := run_append_own_at (P := Tryz.prog) w base 140 ty 219 i0 (.pointer none) 1 8 Tryz.underlying140 hi hz0 hz1 hz2 rfl (by decide) s _ _ hs ⟨g, 0, none⟩ 1 c [p] rfl (fun j v hj => by
    match j, hj with
    | 0, hj =>
      obtain rfl : p = v := by simpa using hj
      have hadd : (⟨g, 0, none⟩ : Addr).add 0 = ⟨g, 0, none⟩ := by unfold Addr.add; split <;> simp_all
      rw [hadd]; exact hx) (by intro v hv; simp at hv; subst hv; exact hp) (by unfold maxLen; omega) (by omega) hb
  exact ⟨v', w', h1, h2, h3, h5⟩
theorem KOk.newDe2 {K : KS} (h : KOk K) {i : Nat} (hi : i < K.th.length) {flags : Int} (hf : flagsOk flags = true) (hd : K.de.length < 256) (hn : 1 ≤ K.next) : KOk (K.newDe i flags) := by
  have el : ∀ d ∈ (K.newDe i flags).de, d ∈ K.de ∨ d = ⟨K.next, i, flags, 0, 1⟩ := fun d hd => by
    rcases List.mem_append.1 hd with e | e
    · exact .inl e
    · exact .inr (by simpa using e)
  refine ⟨?_, h.named, fun d hd => ?_, h.nm, fun d hd => ?_, fun d hd d' hd' e => ?_, fun d hd => ?_, fun d hd => ?_, fun d hd => ?_, h.plan⟩
  · show (K.de ++ [_]).length ≤ 256
    rw [List.length_append]; simp; omega
  · rcases el d hd with e | rfl
    · exact h.th d e
    · exact hi
  · rcases el d hd with e | rfl
    · have := h.num d e; exact ⟨this.1, Nat.lt_succ_of_lt this.2⟩
    · exact ⟨hn, Nat.lt_succ_self _⟩
  · rcases el d hd with e1 | rfl
    · rcases el d' hd' with e2 | rfl
      · exact h.once d e1 d' e2 e
      · have h9 := (h.num d e1).2; have h8 : d.n = K.next := e; omega
    · rcases el d' hd' with e2 | rfl
      · have h9 := (h.num d' e2).2; have h8 : K.next = d'.n := e; omega
      · rfl
  · rcases el d hd with e | rfl
    · exact h.flags d e
    · exact hf
  · rcases el d hd with e | rfl
    · exact h.pos d e
    · exact Nat.zero_le _
  · rcases el d hd with e | rfl
    · exact h.held d e
    · exact ⟨Nat.le_refl _, show (1 : Nat) ≤ 1024 by decide⟩
theorem RK.newDe {W W' : World} {B : Nat → Prop} {ρ : Nat → Option Tag} {I : RI} {K : KS} (h : RK W B ρ I K) {i : Nat} (hi : i < K.th.length) {flags : Int} (hf : flagsOk flags = true) (hd : K.de.length < 256) (hn1 : 1 ≤ K.next) {nb : Nat} {v' : Value}
    (h1 : W'.heap[I.kb]? = some (.cells ([I.vT, v', .int .i64 ((K.next + 1 : Nat) : Int), .pointer (some ⟨I.pb, 0, none⟩), .int .i64 K.reads, .int .i64 K.writes] : List Value).toArray 144 (0, 0)))
    (h2 : W'.ownsRow 0 249 1 v' (K.de.length + 1) (K.de.map (fun d => .pointer (some ⟨I.db d.n, 0, none⟩)) ++ [.pointer (some ⟨nb, 0, none⟩)]))
    (h3 : W'.heap[nb]? = some (.cells ([.int .i64 K.next, .pointer (some ⟨I.tb i, 0, none⟩), .int .i64 flags, .int .i64 0, .int .i64 1] : List Value).toArray 252 (0, 0)))
    (h4 : ∀ k, v'.ownBlock = some k → I.vD.ownBlock = some k ∨ (W.heap.size ≤ k ∧ k ≠ nb)) (h5 : W.heap.size ≤ nb)
    (hk : ∀ k, k < W.heap.size → k ≠ I.kb → I.vD.ownBlock ≠ some k → W'.heap[k]? = W.heap[k]?) (hs : W.heap.size ≤ W'.heap.size) :
    ∃ ρ', RK W' B ρ' { I with vD := v', db := fun n => if n = K.next then nb else I.db n } (K.newDe i flags) := by
  have hnb : nb < W'.heap.size := (Array.getElem?_eq_some_iff.1 h3).1
  obtain ⟨ρ', hρ⟩ : ∃ ρ' : Nat → Option Tag, ∀ k, (k < W.heap.size → ρ' k = ρ k) ∧ (¬ k < W.heap.size → (k = nb → ρ' k = some (.desc K.next)) ∧ (k ≠ nb → (v'.ownBlock = some k → ρ' k = some .drow) ∧ (v'.ownBlock ≠ some k → ρ' k = none))) :=
    ⟨fun k => if k < W.heap.size then ρ k else if k = nb then some (.desc K.next) else if v'.ownBlock = some k then some .drow else none, fun k => ⟨fun hk => if_pos hk, fun hk => ⟨fun e => (if_neg hk).trans (if_pos e), fun e => ⟨fun e' => (if_neg hk).trans ((if_neg e).trans (if_pos e')), fun e' => (if_neg hk).trans ((if_neg e).trans (if_neg e'))⟩⟩⟩⟩
  have old : ∀ k t, ρ k = some t → ρ' k = some t := fun k t e => by rw [(hρ k).1 (h.lt k t e).2]; exact e
  have kr := (h.comp .kern).2
  have dr := (h.comp .drow).2
  have keep : ∀ t, t ≠ .kern → t ≠ .drow → RComp W' B ρ I K t := fun t n1 n2 => (h.comp t).keep (fun k e hlt => hk k hlt (fun e' => by subst e'; rw [kr] at e; exact n1 (Option.some.inj e).symm) (fun e' => by have := dr k e'; rw [e] at this; exact n2 (Option.some.inj this))) hs
  refine ⟨ρ', ⟨fun t => ?_, fun k t e => ?_, ?_, fun k e => h.up k (Nat.le_trans hs e)⟩⟩
  · cases t with
    | kern => exact ⟨h1, old _ _ kr⟩
    | trow => have := keep .trow (by simp) (by simp); exact ⟨this.1, fun k e => old _ _ (this.2 k e)⟩
    | drow =>
      refine ⟨?_, fun k e => ?_⟩
      · have e : (K.newDe i flags).de.map (fun d => Value.pointer (some ⟨(if d.n = K.next then nb else I.db d.n), 0, none⟩)) = K.de.map (fun d => Value.pointer (some ⟨I.db d.n, 0, none⟩)) ++ [.pointer (some ⟨nb, 0, none⟩)] := by
          show (K.de ++ [(⟨K.next, i, flags, 0, 1⟩ : De)]).map _ = _
          rw [List.map_append]
          congr 1
          · apply List.map_congr_left
            intro d hd
            have := (h.ok.num d hd).2
            rw [if_neg (by omega)]
          · simp
        show W'.ownsRow 0 _ 1 v' (K.de ++ [(⟨K.next, i, flags, 0, 1⟩ : De)]).length ((K.newDe i flags).de.map _)
        rw [e, List.length_append]
        exact h2
      · rcases h4 k e with h6 | ⟨h6, h7⟩
        · exact old _ _ (dr k h6)
        · exact (((hρ k).2 (by omega)).2 h7).1 e
    | plan => have := keep .plan (by simp) (by simp); exact ⟨this.1, old _ _ this.2.1, fun k e => old _ _ (this.2.2 k e)⟩
    | thing j => intro hj; have := keep (.thing j) (by simp) (by simp) hj; exact ⟨this.1, old _ _ this.2⟩
    | obj j => intro hj; have := keep (.obj j) (by simp) (by simp) hj; exact ⟨this.1.mono fun k e => old _ _ e, this.2⟩
    | desc n =>
      intro d hd' e
      rcases List.mem_append.1 hd' with hm | hm
      · have hlt := (h.ok.num d hm).2
        have := keep (.desc n) (by simp) (by simp) d hm e
        have hne : ¬ n = K.next := by omega
        refine ⟨?_, ?_⟩
        · show W'.heap[if n = K.next then nb else I.db n]? = _
          rw [if_neg hne]; exact this.1
        · show ρ' (if n = K.next then nb else I.db n) = _
          rw [if_neg hne]; exact old _ _ this.2
      · obtain rfl : d = ⟨K.next, i, flags, 0, 1⟩ := by simpa using hm
        obtain rfl : K.next = n := e
        refine ⟨?_, ?_⟩
        · show W'.heap[if K.next = K.next then nb else I.db K.next]? = _
          rw [if_pos rfl]; exact h3
        · show ρ' (if K.next = K.next then nb else I.db K.next) = _
          rw [if_pos rfl]; exact ((hρ nb).2 (by omega)).1 rfl
  · by_cases hlt : k < W.heap.size
    · rw [(hρ k).1 hlt] at e; exact ⟨(h.lt k t e).1, Nat.lt_of_lt_of_le (h.lt k t e).2 hs⟩
    · by_cases hn : k = nb
      · exact ⟨h.up k (by omega), by omega⟩
      · by_cases hv : v'.ownBlock = some k
        · exact ⟨h.up k (by omega), (h2.lt k hv).2⟩
        · rw [(((hρ k).2 hlt).2 hn).2 hv] at e; cases e
  · exact KOk.newDe2 h.ok hi hf hd hn1
end Go.Proofs.YtkkommomefmpgaaGreat

/- The reference's kernel: desc. -/
namespace Go.Proofs.YtkkommomefmpgaaGreat
open Go.RowKit

def RKAdd (w : World) (B : Nat → Prop) (I : RI) (n : Nat) (K' : KS) (w' : World) : Prop := ∃ ρ' I', RK w' B ρ' I' K' ∧ I'.kb = I.kb ∧ (∀ j, j < n → I'.tb j = I.tb j ∧ I'.ob j = I.ob j) ∧ Turned B w w'
set_option maxRecDepth 100000 in
set_option maxHeartbeats 4000000 in
theorem rdesc_any (B : Nat → Prop) (ρ : Nat → Option Tag) (I : RI) (K : KS) (i : Nat) (flags : Int) (w : World) (h : RK w B ρ I K) (hi : i < K.th.length) (hf : flagsOk flags = true) (hd : K.de.length < 256) (hn1 : 1 ≤ K.next) (hn : K.next < 9223372036854775807) :
    Calls Tryz.prog 138 #[.pointer (some ⟨I.kb, 0, none⟩), .pointer (some ⟨I.tb i, 0, none⟩), .int .i64 flags] w fun e w' => e = .returned (.int .i64 K.next) ∧ RKAdd w B I K.th.length (K.newDe i flags) w' := by
  have hb := (h.comp .kern).1
  have hkl : I.kb < w.heap.size := (Array.getElem?_eq_some_iff.1 hb).1
  have hrow := (h.comp .drow).1
  have hdr := (h.comp .drow).2
  have hkr := (h.comp .kern).2
  have c1 : w.cell? ⟨I.kb, 1, none⟩ = some I.vD := by rw [cell_of_row w I.kb 1 _ _ _ hb]; rfl
  have c2 : w.cell? ⟨I.kb, 2, none⟩ = some (.int .i64 K.next) := by rw [cell_of_row w I.kb 2 _ _ _ hb]; rfl
  obtain ⟨da, dc, hdv⟩ := owns_slice hrow
  rw [hdv] at c1
  obtain ⟨o1, ho1⟩ : ∃ o1, o1 = Obj.cells #[.int .i64 K.next, .pointer (some ⟨I.tb i, 0, none⟩), .int .i64 flags, .int .i64 0, .int .i64 1] 252 := ⟨_, rfl⟩
  obtain ⟨o2, ho2⟩ : ∃ o2, o2 = Obj.cells #[.pointer (some ⟨w.heap.size, 0, none⟩)] 249 := ⟨_, rfl⟩
  have hB1 := recv_below w o1
  have hB2 := recv_below (w.alloc o1) o2
  have hs1 : (w.alloc o1).heap.size = w.heap.size + 1 := by simp
  have hs2 : ((w.alloc o1).alloc o2).heap.size = w.heap.size + 2 := by simp
  have hB12 : Below w.heap.size w ((w.alloc o1).alloc o2).drew := (hB1.trans (hB2.mono (by omega))).drew
  have hx2 : ((w.alloc o1).alloc o2).drew.cell? ⟨w.heap.size + 1, 0, none⟩ = some (.pointer (some ⟨w.heap.size, 0, none⟩)) := by
    have := heap_alloc_new (w.alloc o1) o2
    rw [hs1] at this
    show ((w.alloc o1).alloc o2).cell? ⟨w.heap.size + 1, 0, none⟩ = _
    rw [World.cell?, this, ho2]
    rfl
  obtain ⟨s', w3, hrun, HO3, hg3, hb3⟩ := run_append_dptr ((w.alloc o1).alloc o2).drew 141 0 I.vD K.de.length _ (w.heap.size + 1) 1 (.pointer (some ⟨w.heap.size, 0, none⟩)) rfl (owns_keep hrow (fun k e => hB12.block k (hrow.lt k e).2)) hx2 (by omega) (by have := hB12.size; omega)
  rw [hdv] at hrun
  have HR := hide hrun
  have d1 : ∀ W, Below w.heap.size w W → W.cell? ⟨I.kb, 1, none⟩ = some (.slice da K.de.length dc) ∧ W.cell? ⟨I.kb, 2, none⟩ = some (.int .i64 K.next) := fun W hW => ⟨(hW.cell (p := ⟨I.kb, 1, none⟩) hkl).trans c1, (hW.cell (p := ⟨I.kb, 2, none⟩) hkl).trans c2⟩
  have e0 := d1 w.drew (Below.refl _ w).drew
  have e1 := d1 (w.alloc o1).drew hB1.drew
  have e2 := d1 ((w.alloc o1).alloc o2).drew hB12
  obtain ⟨sa, sc, rfl⟩ := owns_slice HO3.out
  -- where the kernel is behind it
  have hkb3 : w3.heap[I.kb]? = w.heap[I.kb]? := (hg3.block I.kb (by show I.kb < ((w.alloc o1).alloc o2).heap.size; omega) (fun e => by
    have h9 := hdr I.kb e.symm
    rw [hkr] at h9
    cases h9)).trans (hB12.block I.kb hkl)
  have hb3' : w3.heap[I.kb]? = some (.cells ([I.vT, I.vD, .int .i64 K.next, .pointer (some ⟨I.pb, 0, none⟩), .int .i64 K.reads, .int .i64 K.writes] : List Value).toArray 144 (0, 0)) := hkb3.trans hb
  have f1 : w3.frozen? ⟨I.kb, 1, none⟩ = false := frozen_of_row w3 I.kb 1 _ _ hb3'
  have f1c : w3.cell? ⟨I.kb, 1, none⟩ = some (.slice da K.de.length dc) := by rw [cell_of_row w3 I.kb 1 _ _ _ hb3', ← hdv]; rfl
  have hb4 := heap_setCell_same 1 (.slice sa (K.de.length + 1) sc) hb3'
  simp only [List.set_cons_succ, List.set_cons_zero] at hb4
  have f2 : (w3.setCell ⟨I.kb, 1, none⟩ (.slice sa (K.de.length + 1) sc)).frozen? ⟨I.kb, 2, none⟩ = false := frozen_of_row _ I.kb 2 _ _ hb4
  have f2c : (w3.setCell ⟨I.kb, 1, none⟩ (.slice sa (K.de.length + 1) sc)).cell? ⟨I.kb, 2, none⟩ = some (.int .i64 K.next) := by rw [cell_of_row _ I.kb 2 _ _ _ hb4]; rfl
  have hb5 := heap_setCell_same 2 (.int .i64 ((K.next : Int) + 1)) hb4
  simp only [List.set_cons_succ, List.set_cons_zero] at hb5
  have f5c : ((w3.setCell ⟨I.kb, 1, none⟩ (.slice sa (K.de.length + 1) sc)).setCell ⟨I.kb, 2, none⟩ (.int .i64 ((K.next : Int) + 1))).cell? ⟨I.kb, 2, none⟩ = some (.int .i64 ((K.next : Int) + 1)) := by rw [cell_of_row _ I.kb 2 _ _ _ hb5]; rfl
  have HE : Hid (RKAdd w B I K.th.length (K.newDe i flags) ((w3.setCell ⟨I.kb, 1, none⟩ (.slice sa (K.de.length + 1) sc)).setCell ⟨I.kb, 2, none⟩ (.int .i64 ((K.next : Int) + 1)))) := hide (by
    have hlt3 : ((w.alloc o1).alloc o2).drew.heap.size ≤ w3.heap.size := hg3.size
    have hs2' : ((w.alloc o1).alloc o2).drew.heap.size = w.heap.size + 2 := hs2
    have hne : ∀ k, k < w.heap.size → I.vD.ownBlock ≠ some k → w3.heap[k]? = w.heap[k]? := fun k hk hv => (hg3.block k (by omega) (fun e => hv e.symm)).trans (hB12.block k hk)
    have hsz : ((w3.setCell ⟨I.kb, 1, none⟩ (.slice sa (K.de.length + 1) sc)).setCell ⟨I.kb, 2, none⟩ (.int .i64 ((K.next : Int) + 1))).heap.size = w3.heap.size := by simp [World.setCell]
    have hoth : ∀ k, k ≠ I.kb → ((w3.setCell ⟨I.kb, 1, none⟩ (.slice sa (K.de.length + 1) sc)).setCell ⟨I.kb, 2, none⟩ (.int .i64 ((K.next : Int) + 1))).heap[k]? = w3.heap[k]? := fun k hk => (Below.heap_setCell _ _ _ _ hk).trans (Below.heap_setCell _ _ _ _ hk)
    have hsl : ∀ k, (Value.slice sa (K.de.length + 1) sc).ownBlock = some k → k ≠ I.kb ∧ (I.vD.ownBlock = some k ∨ (w.heap.size ≤ k ∧ k ≠ w.heap.size)) := fun k hk => by
      rcases hb3 with e | e
      · rw [e] at hk
        refine ⟨fun e' => ?_, .inl hk⟩
        have h9 := hdr k hk
        rw [e', hkr] at h9
        cases h9
      · rw [e] at hk
        have h7 := Option.some.inj hk
        exact ⟨by omega, .inr ⟨by omega, by omega⟩⟩
    obtain ⟨ρ', hK'⟩ := h.newDe (W' := (w3.setCell ⟨I.kb, 1, none⟩ (.slice sa (K.de.length + 1) sc)).setCell ⟨I.kb, 2, none⟩ (.int .i64 ((K.next : Int) + 1))) hi hf hd hn1 (nb := w.heap.size) (v' := .slice sa (K.de.length + 1) sc)
      (by rw [show ((K.next + 1 : Nat) : Int) = (K.next : Int) + 1 by omega]; exact hb5)
      (owns_keep HO3.out (fun k e => hoth k (hsl k e).1))
      (by
        rw [hoth _ (by omega), hg3.block w.heap.size (by omega) (fun e => by have := (hrow.lt _ e.symm).2; omega)]
        show ((w.alloc o1).alloc o2).heap[w.heap.size]? = _
        rw [Below.heap_alloc (w.alloc o1) o2 w.heap.size (by omega), heap_alloc_new, ho1])
      (fun k e => (hsl k e).2) (Nat.le_refl _)
      (fun k hk n1 n2 => (hoth k n1).trans (hne k hk n2)) (by omega)
    exact ⟨ρ', _, hK', rfl, fun j _ => ⟨rfl, rfl⟩, ⟨hg3.os.trans hB12.os, hg3.tape.trans hB12.tape, hg3.output.trans hB12.output, by omega, fun k hk hnb => (hoth k (fun e => hnb (e ▸ (h.lt _ _ hkr).1))).trans (hne k hk (fun e => hnb (h.lt _ _ ((h.comp .drow).2 k e)).1))⟩⟩)
  subst ho1
  subst ho2
  have HX := hide (And.intro hB1 (And.intro hB2 (And.intro hB12 hx2)))
  clear h hb hrow hdr hkr hB1 hB2 hB12 hx2 hrun HO3 hg3 hb3 hkb3 hb3' hb4 hb5 hdv d1 HX hs1 hs2
  obtain ⟨e01, e02⟩ := e0
  obtain ⟨e11, e12⟩ := e1
  obtain ⟨e21, e22⟩ := e2
  go_enter Tryz.func138, Tryz.ntmps138
  go_wp2_with fail
  go_region_law (first | (refine step_append_run _ (by rfl) _ _ _ _ (by rfl) _ _ (by rfl) (by rfl) _ _ HR.out ?_) | fail)
  all_goals
    go_wp2
    go_ret
    exact ⟨ret_int (by omega), HE.out⟩
end Go.Proofs.YtkkommomefmpgaaGreat

/- The reference's kernel: one thing more; Pipe. -/
namespace Go.Proofs.YtkkommomefmpgaaGreat
open Go.RowKit

def KS.more (K : KS) (t : Th) : KS := { K with th := K.th ++ [t] }
def updT (f : Nat → Nat) (n v : Nat) : Nat → Nat := fun j => if j = n then v else f j
theorem updT_old {f : Nat → Nat} {n v j : Nat} (h : j < n) : updT f n v j = f j := by unfold updT; rw [if_neg (by omega)]
theorem updT_new {f : Nat → Nat} {n v : Nat} : updT f n v n = v := by unfold updT; rw [if_pos rfl]
theorem RK.more {W W' : World} {B : Nat → Prop} {ρ : Nat → Option Tag} {I : RI} {K : KS} (h : RK W B ρ I K) (t : Th) {nb ob : Nat} {O : Nat → Prop} (hk : ∀ k, k < W.heap.size → W'.heap[k]? = W.heap[k]?) (hs : W.heap.size ≤ W'.heap.size) (hnb : W.heap.size ≤ nb)
    (hth : W'.heap[nb]? = some (.cells (tcells t ob).toArray 223 (0, 0))) (hO : RObj W' O ob t.ob) (hOn : ∀ k, O k → W.heap.size ≤ k ∧ k ≠ nb) (hok : t.ob.ok) :
    ∃ ρ', RK W' B ρ' { I with tb := updT I.tb K.th.length nb, ob := updT I.ob K.th.length ob } (K.more t) := by
  have hnl : nb < W'.heap.size := (Array.getElem?_eq_some_iff.1 hth).1
  have hOt := hO.trim
  obtain ⟨ρ', hρ⟩ : ∃ ρ' : Nat → Option Tag, ∀ k, (k < W.heap.size → ρ' k = ρ k) ∧ (¬ k < W.heap.size → (k = nb → ρ' k = some (.thing K.th.length)) ∧ (k ≠ nb → (O k ∧ k < W'.heap.size → ρ' k = some (.obj K.th.length)) ∧ (¬ (O k ∧ k < W'.heap.size) → ρ' k = none))) :=
    ⟨fun k => if k < W.heap.size then ρ k else if k = nb then some (.thing K.th.length) else @ite _ (O k ∧ k < W'.heap.size) (Classical.propDecidable _) (some (.obj K.th.length)) none, fun k => ⟨fun hk => if_pos hk, fun hk => ⟨fun e => (if_neg hk).trans (if_pos e), fun e => ⟨fun e' => (if_neg hk).trans ((if_neg e).trans (@if_pos _ (Classical.propDecidable _) e' _ _ _)), fun e' => (if_neg hk).trans ((if_neg e).trans (@if_neg _ (Classical.propDecidable _) e' _ _ _))⟩⟩⟩⟩
  have old : ∀ k t, ρ k = some t → ρ' k = some t := fun k t e => by rw [(hρ k).1 (h.lt k t e).2]; exact e
  have keep : ∀ t, RComp W' B ρ I K t := fun t => (h.comp t).keep (fun k _ hlt => hk k hlt) hs
  have hlen : (K.more t).th.length = K.th.length + 1 := by show (K.th ++ [t]).length = _; simp
  have hget : ∀ j (hj : j < K.th.length) (hj' : j < (K.more t).th.length), (K.more t).th[j] = K.th[j] := fun j hj hj' => by simp [KS.more, hj]
  have hgetn : ∀ (hj' : K.th.length < (K.more t).th.length), (K.more t).th[K.th.length] = t := fun hj' => by simp [KS.more]
  refine ⟨ρ', ⟨fun t' => ?_, fun k t' e => ?_, ?_, fun k e => h.up k (Nat.le_trans hs e)⟩⟩
  · cases t' with
    | kern => have := keep .kern; exact ⟨this.1, old _ _ this.2⟩
    | trow =>
      have := keep .trow
      refine ⟨?_, fun k e => old _ _ (this.2 k e)⟩
      show W'.ownsRow 0 _ 1 I.vT K.nm.length (K.nm.map fun i => Value.pointer (some ⟨updT I.tb K.th.length nb i, 0, none⟩))
      rw [show (K.nm.map fun i => Value.pointer (some ⟨updT I.tb K.th.length nb i, 0, none⟩)) = K.nm.map fun i => Value.pointer (some ⟨I.tb i, 0, none⟩) from List.map_congr_left fun i hi => by rw [updT_old (h.ok.nm i hi)]]
      exact this.1
    | drow => have := keep .drow; exact ⟨this.1, fun k e => old _ _ (this.2 k e)⟩
    | plan => have := keep .plan; exact ⟨this.1, old _ _ this.2.1, fun k e => old _ _ (this.2.2 k e)⟩
    | thing j =>
      intro hj
      by_cases e : j < K.th.length
      · have := keep (.thing j) e
        show W'.heap[updT I.tb K.th.length nb j]? = some (.cells (tcells (K.more t).th[j] (updT I.ob K.th.length ob j)).toArray _ _) ∧ ρ' (updT I.tb K.th.length nb j) = _
        rw [updT_old e, updT_old e, hget j e hj]
        exact ⟨this.1, old _ _ this.2⟩
      · obtain rfl : j = K.th.length := by omega
        show W'.heap[updT I.tb K.th.length nb K.th.length]? = some (.cells (tcells (K.more t).th[K.th.length] (updT I.ob K.th.length ob K.th.length)).toArray _ _) ∧ ρ' (updT I.tb K.th.length nb K.th.length) = _
        rw [updT_new, updT_new, hgetn hj]
        exact ⟨hth, ((hρ nb).2 (by omega)).1 rfl⟩
    | obj j =>
      intro hj
      by_cases e : j < K.th.length
      · have := keep (.obj j) e
        show RObj W' _ (updT I.ob K.th.length ob j) (K.more t).th[j].ob ∧ (K.more t).th[j].ob.ok
        rw [updT_old e, hget j e hj]
        exact ⟨this.1.mono fun k e => old _ _ e, this.2⟩
      · obtain rfl : j = K.th.length := by omega
        show RObj W' _ (updT I.ob K.th.length ob K.th.length) (K.more t).th[K.th.length].ob ∧ (K.more t).th[K.th.length].ob.ok
        rw [updT_new, hgetn hj]
        refine ⟨hOt.mono fun k e => ?_, hok⟩
        have := hOn k e.1
        exact (((hρ k).2 (by omega)).2 this.2).1 e
    | desc n =>
      intro d hd e
      have := keep (.desc n) d hd e
      show W'.heap[I.db n]? = some (.cells ([.int .i64 n, .pointer (some ⟨updT I.tb K.th.length nb d.th, 0, none⟩), .int .i64 d.flags, .int .i64 d.pos, .int .i64 d.held] : List Value).toArray _ _) ∧ _
      rw [updT_old (h.ok.th d hd)]
      exact ⟨this.1, old _ _ this.2⟩
  · by_cases hlt : k < W.heap.size
    · rw [(hρ k).1 hlt] at e; exact ⟨(h.lt k t' e).1, Nat.lt_of_lt_of_le (h.lt k t' e).2 hs⟩
    · by_cases hn : k = nb
      · exact ⟨h.up k (by omega), by omega⟩
      · by_cases ho : O k ∧ k < W'.heap.size
        · exact ⟨h.up k (by omega), ho.2⟩
        · rw [(((hρ k).2 hlt).2 hn).2 ho] at e; cases e
  · exact ⟨h.ok.few, h.ok.named, fun d hd => by rw [hlen]; exact Nat.lt_succ_of_lt (h.ok.th d hd), fun i hi => by rw [hlen]; exact Nat.lt_succ_of_lt (h.ok.nm i hi), h.ok.num, h.ok.once, h.ok.flags, h.ok.pos, h.ok.held, h.ok.plan⟩
end Go.Proofs.YtkkommomefmpgaaGreat

/- The reference's kernel: a thing by its name. -/
namespace Go.Proofs.YtkkommomefmpgaaGreat
open Go.RowKit

theorem RK.tcell {W : World} {B : Nat → Prop} {ρ : Nat → Option Tag} {I : RI} {K : KS} (h : RK W B ρ I K) {i : Nat} (hi : i < K.th.length) : W.cell? ⟨I.tb i, 0, none⟩ = some (.string (K.nameOf i)) ∧ W.cell? ⟨I.tb i, 1, none⟩ = some (.int .i64 (K.obOf i).kind) ∧
    (∀ b, K.obOf i = .file b → W.cell? ⟨I.tb i, 2, none⟩ = some (.pointer (some ⟨I.ob i, 0, none⟩))) ∧ (∀ ls scr, K.obOf i = .term ls scr → W.cell? ⟨I.tb i, 3, none⟩ = some (.pointer (some ⟨I.ob i, 0, none⟩))) := by
  have h2 := (h.comp (.thing i) hi).1
  have hn : K.nameOf i = K.th[i].name := by simp [KS.nameOf, hi]
  rw [KS.obOf_eq hi, hn]
  refine ⟨?_, ?_, fun b e => ?_, fun ls scr e => ?_⟩
  · rw [cell_of_row W _ 0 _ _ _ h2]
    cases h3 : K.th[i].ob <;> simp [tcells, h3]
  · rw [cell_of_row W _ 1 _ _ _ h2]
    cases h3 : K.th[i].ob <;> simp [tcells, h3, Ob.kind]
  · rw [cell_of_row W _ 2 _ _ _ h2]; simp [tcells, e]
  · rw [cell_of_row W _ 3 _ _ _ h2]; simp [tcells, e]
set_option maxRecDepth 100000 in
set_option maxHeartbeats 2000000 in
theorem rthing_any (B : Nat → Prop) (ρ : Nat → Option Tag) (I : RI) (K : KS) (s : ByteArray) (w : World) (h : RK w B ρ I K) :
    Calls Tryz.prog 137 #[.pointer (some ⟨I.kb, 0, none⟩), .string s] w fun e w' => e = .returned (.pointer ((K.byName s).map fun i => ⟨I.tb i, 0, none⟩)) ∧ w' = w := by
  have hb := (h.comp .kern).1
  have c1 : w.cell? ⟨I.kb, 0, none⟩ = some I.vT := by rw [cell_of_row w I.kb 0 _ _ _ hb]; rfl
  have HD := hide (h.comp .trow).1
  have HC := hide fun i (hi : i ∈ K.nm) => (h.tcell (h.ok.nm i hi)).1
  have hfew := h.ok.named
  obtain ⟨va, vc, hv⟩ := owns_slice (h.comp .trow).1
  rw [hv] at c1 HD
  clear h hb hv
  obtain ⟨R, hR⟩ : ∃ R, R = (K.byName s).map fun i => (⟨I.tb i, 0, none⟩ : Addr) := ⟨_, rfl⟩
  rw [← hR]
  have HR := hide hR
  clear hR
  go_enter Tryz.func137, Tryz.ntmps137
  go_wp2
  go_loop [5] (fun i => ∃ k : Nat, k ≤ K.nm.length ∧ i = .int .i64 k ∧ Hid (∀ j (hj : j < K.nm.length), j < k → K.nameOf K.nm[j] ≠ s)) (fun i => K.nm.length - (intOf i).toNat)
  case atStart => exact ⟨0, Nat.zero_le _, rfl, fun _ _ h => by omega⟩
  case round =>
    obtain ⟨k, hk, rfl, HA⟩ := hrel
    by_cases hlt : k < K.nm.length
    · obtain ⟨b, rfl⟩ : ∃ b, va = some ⟨b, 0, none⟩ := by
        rcases HD.out.2 with ⟨h0, _⟩ | ⟨g, cap, cur, h1, _⟩
        · simp only [Value.slice.injEq] at h0; omega
        · simp only [Value.slice.injEq] at h1; exact ⟨g, h1.1⟩
      have hcell := HD.out.cellAt k (by simpa using hlt)
      rw [List.getElem?_map, List.getElem?_eq_getElem hlt] at hcell
      simp only [Option.map_some] at hcell
      have hn := HC.out K.nm[k] (List.getElem_mem _)
      have hk1 : (0 : Int) ≤ (k : Int) := by omega
      have hk2 : (k : Int) < (K.nm.length : Int) := by omega
      obtain ⟨x, hx⟩ : ∃ x, x = K.nm[k] := ⟨_, rfl⟩
      rw [← hx] at hcell hn
      have HX := hide hx
      clear hx
      obtain ⟨nx, hnx⟩ : ∃ nx, nx = K.nameOf x := ⟨_, rfl⟩
      rw [← hnx] at hn
      have HNx := hide hnx
      clear hnx
      by_cases he : nx = s
      · have HF : Hid (R = some ⟨I.tb x, 0, none⟩) := hide (by
          rw [HR.out, show K.byName s = some x by
            unfold KS.byName
            rw [List.find?_eq_some_iff_getElem]
            exact ⟨by rw [← HNx.out]; simpa using he, k, hlt, HX.out.symm, fun j hj => by simpa using HA.out j (by omega) hj⟩]
          rfl)
        subst he
        go_wp2
        go_ret
        exact ⟨by rw [HF.out]; rfl, rfl⟩
      · have he2 : (nx.toList == s.toList) = false := by rw [ByteArray.toList_eq, ByteArray.toList_eq, beq_eq_false_iff_ne]; exact bytes_ne he
        have he3 : ¬ nx.toList = s.toList := by rw [ByteArray.toList_eq, ByteArray.toList_eq]; exact bytes_ne he
        go_wp2
        all_goals
          go_round
          case rel =>
            refine ⟨k + 1, by omega, by go_num, fun j hj hjk => ?_⟩
            rcases Nat.lt_or_ge j k with h | h
            · exact HA.out j hj h
            · obtain rfl : j = k := by omega
              rw [← HX.out, ← HNx.out]
              exact he
          case measure => simp [intOf]; omega
    · have HF : Hid (R = none) := hide (by
        rw [HR.out, show K.byName s = none by
          unfold KS.byName
          rw [List.find?_eq_none]
          intro x hx
          obtain ⟨j, hj, rfl⟩ := List.getElem_of_mem hx
          simpa using HA.out j hj (by omega)]
        rfl)
      go_wp2
      go_ret
      exact ⟨by rw [HF.out]; rfl, rfl⟩
end Go.Proofs.YtkkommomefmpgaaGreat

/- The reference's kernel: a thing is put among the names. -/
namespace Go.Proofs.YtkkommomefmpgaaGreat
open Go.RowKit

theorem insN_at (f : Nat → ByteArray) (i0 : Nat) : ∀ (L : List Nat) (k : Nat), k ≤ L.length → (∀ j (hj : j < L.length), j < k → ¬ nlt (f i0) (f L[j])) → (∀ j (hj : j < L.length), k ≤ j → nlt (f i0) (f L[j])) → insN f i0 L = L.take k ++ i0 :: L.drop k
  | [], k, hk, _, _ => by
    obtain rfl : k = 0 := by simpa using hk
    rfl
  | a :: r, 0, _, _, h2 => by
    have := h2 0 (by simp) (Nat.le_refl _)
    simp only [List.getElem_cons_zero] at this
    show (if nlt (f i0) (f a) then i0 :: a :: r else a :: insN f i0 r) = _
    rw [if_pos this]
    rfl
  | a :: r, k + 1, hk, h1, h2 => by
    have := h1 0 (by simp) (by omega)
    simp only [List.getElem_cons_zero] at this
    show (if nlt (f i0) (f a) then i0 :: a :: r else a :: insN f i0 r) = _
    rw [if_neg this, insN_at f i0 r k (by simpa using hk) (fun j hj hjk => by have := h1 (j + 1) (by simpa using hj) (by omega); simpa using this) (fun j hj hjk => by have := h2 (j + 1) (by simpa using hj) (by omega); simpa using this)]
    rfl
theorem RK.names {W W' : World} {B : Nat → Prop} {ρ : Nat → Option Tag} {I : RI} {K : KS} (h : RK W B ρ I K) (L : List Nat) (hL : L.length ≤ 256) (hLi : ∀ i ∈ L, i < K.th.length) {v' : Value}
    (h1 : W'.heap[I.kb]? = some (.cells ([v', I.vD, .int .i64 K.next, .pointer (some ⟨I.pb, 0, none⟩), .int .i64 K.reads, .int .i64 K.writes] : List Value).toArray 144 (0, 0)))
    (h2 : W'.ownsRow 0 219 1 v' L.length (L.map fun i => .pointer (some ⟨I.tb i, 0, none⟩)))
    (h4 : ∀ k, v'.ownBlock = some k → I.vT.ownBlock = some k ∨ W.heap.size ≤ k)
    (hk : ∀ k, k < W.heap.size → k ≠ I.kb → I.vT.ownBlock ≠ some k → W'.heap[k]? = W.heap[k]?) (hs : W.heap.size ≤ W'.heap.size) :
    ∃ ρ', RK W' B ρ' { I with vT := v' } { K with nm := L } := by
  obtain ⟨ρ', hρ⟩ : ∃ ρ' : Nat → Option Tag, ∀ k, (k < W.heap.size → ρ' k = ρ k) ∧ (¬ k < W.heap.size → (v'.ownBlock = some k → ρ' k = some .trow) ∧ (v'.ownBlock ≠ some k → ρ' k = none)) :=
    ⟨fun k => if k < W.heap.size then ρ k else if v'.ownBlock = some k then some .trow else none, fun k => ⟨fun hk => if_pos hk, fun hk => ⟨fun e => (if_neg hk).trans (if_pos e), fun e => (if_neg hk).trans (if_neg e)⟩⟩⟩
  have old : ∀ k t, ρ k = some t → ρ' k = some t := fun k t e => by rw [(hρ k).1 (h.lt k t e).2]; exact e
  have kr := (h.comp .kern).2
  have dr := (h.comp .trow).2
  have keep : ∀ t, t ≠ .kern → t ≠ .trow → RComp W' B ρ I K t := fun t n1 n2 => (h.comp t).keep (fun k e hlt => hk k hlt (fun e' => by subst e'; rw [kr] at e; exact n1 (Option.some.inj e).symm) (fun e' => by have := dr k e'; rw [e] at this; exact n2 (Option.some.inj this))) hs
  refine ⟨ρ', ⟨fun t => ?_, fun k t e => ?_, ?_, fun k e => h.up k (Nat.le_trans hs e)⟩⟩
  · cases t with
    | kern => exact ⟨h1, old _ _ kr⟩
    | trow =>
      refine ⟨h2, fun k e => ?_⟩
      rcases h4 k e with h6 | h6
      · exact old _ _ (dr k h6)
      · exact ((hρ k).2 (by omega)).1 e
    | drow => have := keep .drow (by simp) (by simp); exact ⟨this.1, fun k e => old _ _ (this.2 k e)⟩
    | plan => have := keep .plan (by simp) (by simp); exact ⟨this.1, old _ _ this.2.1, fun k e => old _ _ (this.2.2 k e)⟩
    | thing j => intro hj; have := keep (.thing j) (by simp) (by simp) hj; exact ⟨this.1, old _ _ this.2⟩
    | obj j => intro hj; have := keep (.obj j) (by simp) (by simp) hj; exact ⟨this.1.mono fun k e => old _ _ e, this.2⟩
    | desc n => intro d hd e; have := keep (.desc n) (by simp) (by simp) d hd e; exact ⟨this.1, old _ _ this.2⟩
  · by_cases hlt : k < W.heap.size
    · rw [(hρ k).1 hlt] at e; exact ⟨(h.lt k t e).1, Nat.lt_of_lt_of_le (h.lt k t e).2 hs⟩
    · by_cases hv : v'.ownBlock = some k
      · exact ⟨h.up k (by omega), (h2.lt k hv).2⟩
      · rw [((hρ k).2 hlt).2 hv] at e; cases e
  · exact ⟨h.ok.few, hL, h.ok.th, hLi, h.ok.num, h.ok.once, h.ok.flags, h.ok.pos, h.ok.held, h.ok.plan⟩
theorem swap_list {α β : Type} (f : α → β) (L : List α) (q : Nat) (n : α) (hq : q < L.length) {u v : β} (hu : u = f L[q]) (hv : v = f n) : (((L.take (q + 1) ++ n :: L.drop (q + 1)).map f).set (q + 1) u).set q v = (L.take q ++ n :: L.drop q).map f := by
  subst hu hv
  have h1 : L.take (q + 1) = L.take q ++ [L[q]] := by rw [List.take_add_one, List.getElem?_eq_getElem hq]; rfl
  have h2 : L.drop q = L[q] :: L.drop (q + 1) := List.drop_eq_getElem_cons hq
  have hl : (L.take q).length = q := by rw [List.length_take]; omega
  rw [h1, h2]
  simp only [List.map_append, List.map_cons, List.append_assoc, List.cons_append, List.nil_append]
  have hlm : ((L.take q).map f).length = q := by rw [List.length_map]; exact hl
  rw [List.set_append_right _ _ (by omega), hlm, show q + 1 - q = 1 by omega, List.set_append_right _ _ (by omega), hlm, Nat.sub_self]
  rfl
theorem gtr_yes {nn nx : ByteArray} (h : nlt nn nx) : Op.bytesLess nx.toList nn.toList = false ∧ (nx.toList == nn.toList) = false := by
  rw [bytesLess_eq, ByteArray.toList_eq, ByteArray.toList_eq]
  refine ⟨decide_eq_false (fun e => List.lt_irrefl _ (List.lt_trans h e)), ?_⟩
  rw [beq_eq_false_iff_ne]
  intro e
  have h' : nn.data.toList < nx.data.toList := h
  rw [e] at h'
  exact List.lt_irrefl _ h'
theorem gtr_no {nn nx : ByteArray} (h : ¬ nlt nn nx) : Op.bytesLess nx.toList nn.toList = true ∨ (Op.bytesLess nx.toList nn.toList = false ∧ (nx.toList == nn.toList) = true) := by
  by_cases e : nn = nx
  · subst e
    refine .inr ⟨?_, by simp⟩
    rw [bytesLess_eq]
    exact decide_eq_false (List.lt_irrefl _)
  · refine .inl ?_
    rw [bytesLess_eq, ByteArray.toList_eq, ByteArray.toList_eq]
    exact decide_eq_true (nlt_total h e)
theorem added_drew {w wr : World} {B : Nat → Prop} {I : RI} {K : KS} (h : ∃ ρ' I', RK wr B ρ' I' K ∧ I'.kb = I.kb ∧ I'.tb = I.tb ∧ I'.ob = I.ob ∧ Turned B w wr) (nq : Nat) : ∃ ρ' I', RK (wr.drewN nq) B ρ' I' K ∧ I'.kb = I.kb ∧ I'.tb = I.tb ∧ I'.ob = I.ob ∧ Turned B w (wr.drewN nq) := by
  obtain ⟨ρ', I', h1, h2, h3, h4, h5⟩ := h
  have hB := below_drewN (Below.refl wr.heap.size wr) nq
  exact ⟨ρ', I', h1.below hB, h2, h3, h4, h5.trans (Turned.of_below hB) (fun _ _ e => e)⟩
def tptr (I : RI) (i : Nat) : Value := .pointer (some ⟨I.tb i, 0, none⟩)
set_option maxRecDepth 100000 in
set_option maxHeartbeats 8000000 in
theorem radd_any (B : Nat → Prop) (ρ : Nat → Option Tag) (I : RI) (K : KS) (n : Nat) (w : World) (h : RK w B ρ I K) (hn : n < K.th.length) (hs : K.nm.Pairwise fun i j => nlt (K.nameOf i) (K.nameOf j)) (hl : K.nm.length < 256) :
    Calls Tryz.prog 127 #[.pointer (some ⟨I.kb, 0, none⟩), .pointer (some ⟨I.tb n, 0, none⟩)] w fun e w' => e = .returned (.tuple #[]) ∧ ∃ ρ' I', RK w' B ρ' I' { K with nm := insN K.nameOf n K.nm } ∧ I'.kb = I.kb ∧ I'.tb = I.tb ∧ I'.ob = I.ob ∧ Turned B w w' := by
  have hb := (h.comp .kern).1
  have hkl : I.kb < w.heap.size := (Array.getElem?_eq_some_iff.1 hb).1
  have hrow := (h.comp .trow).1
  have hdr := (h.comp .trow).2
  have hkr := (h.comp .kern).2
  have c1 : w.cell? ⟨I.kb, 0, none⟩ = some I.vT := by rw [cell_of_row w I.kb 0 _ _ _ hb]; rfl
  obtain ⟨da, dc, hdv⟩ := owns_slice hrow
  rw [hdv] at c1
  obtain ⟨o2, ho2⟩ : ∃ o2, o2 = Obj.cells #[.pointer (some ⟨I.tb n, 0, none⟩)] 219 := ⟨_, rfl⟩
  have hB1 := recv_below w o2
  have hs1 : (w.alloc o2).heap.size = w.heap.size + 1 := by simp
  have hB12 : Below w.heap.size w (w.alloc o2) := hB1
  have hx2 : (w.alloc o2).cell? ⟨w.heap.size, 0, none⟩ = some (.pointer (some ⟨I.tb n, 0, none⟩)) := by
    have := heap_alloc_new w o2
    show (w.alloc o2).cell? ⟨w.heap.size, 0, none⟩ = _
    rw [World.cell?, this, ho2]
    rfl
  obtain ⟨s', w3, hrun, HO3, hg3, hb3⟩ := run_append_tptr (w.alloc o2) 140 0 I.vT K.nm.length _ w.heap.size 1 (.pointer (some ⟨I.tb n, 0, none⟩)) rfl (owns_keep hrow (fun k e => hB12.block k (hrow.lt k e).2)) hx2 (by omega) (by have := hB12.size; omega)
  rw [hdv] at hrun
  have HR := hide hrun
  have e1 : (w.alloc o2).cell? ⟨I.kb, 0, none⟩ = some (.slice da K.nm.length dc) := (hB12.cell (p := ⟨I.kb, 0, none⟩) hkl).trans c1
  obtain ⟨sa, sc, rfl⟩ := owns_slice HO3.out
  have hkb3 : w3.heap[I.kb]? = w.heap[I.kb]? := (hg3.block I.kb (by show I.kb < (w.alloc o2).heap.size; omega) (fun e => by
    have h9 := hdr I.kb e.symm
    rw [hkr] at h9
    cases h9)).trans (hB12.block I.kb hkl)
  have hb3' : w3.heap[I.kb]? = some (.cells ([I.vT, I.vD, .int .i64 K.next, .pointer (some ⟨I.pb, 0, none⟩), .int .i64 K.reads, .int .i64 K.writes] : List Value).toArray 144 (0, 0)) := hkb3.trans hb
  have f1 : w3.frozen? ⟨I.kb, 0, none⟩ = false := frozen_of_row w3 I.kb 0 _ _ hb3'
  have f1c : w3.cell? ⟨I.kb, 0, none⟩ = some (.slice da K.nm.length dc) := by rw [cell_of_row w3 I.kb 0 _ _ _ hb3', ← hdv]; rfl
  have hb4 := heap_setCell_same 0 (.slice sa (K.nm.length + 1) sc) hb3'
  simp only [List.set_cons_zero] at hb4
  have f2c : (w3.setCell ⟨I.kb, 0, none⟩ (.slice sa (K.nm.length + 1) sc)).cell? ⟨I.kb, 0, none⟩ = some (.slice sa (K.nm.length + 1) sc) := by rw [cell_of_row _ I.kb 0 _ _ _ hb4]; rfl
  obtain ⟨rb, rfl⟩ : ∃ rb, sa = some ⟨rb, 0, none⟩ := by
    rcases HO3.out.2 with ⟨h0, _⟩ | ⟨g, cap, cur, h1, _⟩
    · simp at h0
    · simp only [Value.slice.injEq] at h1; exact ⟨g, h1.1⟩
  have hlt3 : (w.alloc o2).heap.size ≤ w3.heap.size := hg3.size
  have hrk : rb ≠ I.kb ∧ (I.vT.ownBlock = some rb ∨ w.heap.size ≤ rb) := by
    rcases hb3 with e | e
    · have e2 : I.vT.ownBlock = some rb := e.symm
      refine ⟨fun e' => ?_, .inl e2⟩
      have h9 := hdr rb e2
      rw [e', hkr] at h9
      cases h9
    · have h7 : rb = (w.alloc o2).heap.size := Option.some.inj e
      exact ⟨by omega, .inr (by omega)⟩
  have HRk := hide hrk
  obtain ⟨w4, hw4⟩ : ∃ w4, w4 = w3.setCell ⟨I.kb, 0, none⟩ (.slice (some ⟨rb, 0, none⟩) (K.nm.length + 1) sc) := ⟨_, rfl⟩
  have hsz4 : w4.heap.size = w3.heap.size := by rw [hw4]; simp [World.setCell]
  have hoth4 : ∀ k, k ≠ I.kb → w4.heap[k]? = w3.heap[k]? := fun k hk => by rw [hw4]; exact Below.heap_setCell _ _ _ _ hk
  have HK4 : Hid (w4.heap[I.kb]? = some (.cells ([.slice (some ⟨rb, 0, none⟩) (K.nm.length + 1) sc, I.vD, .int .i64 K.next, .pointer (some ⟨I.pb, 0, none⟩), .int .i64 K.reads, .int .i64 K.writes] : List Value).toArray 144 (0, 0))) := hide (by rw [hw4]; exact hb4)
  have HO4 : Hid (w4.ownsRow 0 219 1 (.slice (some ⟨rb, 0, none⟩) (K.nm.length + 1) sc) (K.nm.length + 1) ((K.nm.take K.nm.length ++ n :: K.nm.drop K.nm.length).map (tptr I))) := hide (by
    have h8 := owns_keep HO3.out (W' := w4) (fun k e => hoth4 k (by have : rb = k := by simpa [Value.ownBlock] using e
                                                                    rw [← this]; exact hrk.1))
    rw [List.take_length, List.drop_length, List.map_append]
    exact h8)
  have HN4 : Hid (∀ k, k < w.heap.size → k ≠ I.kb → I.vT.ownBlock ≠ some k → w4.heap[k]? = w.heap[k]?) := hide (fun k hk n1 n2 => (hoth4 k n1).trans ((hg3.block k (by omega) (fun e => n2 e.symm)).trans (hB12.block k hk)))
  have HT4 : Hid (w4.os = w.os ∧ w4.tape = w.tape ∧ w4.output = w.output) := hide (by rw [hw4]; exact ⟨hg3.os.trans hB12.os, hg3.tape.trans hB12.tape, hg3.output.trans hB12.output⟩)
  have hs4 : w.heap.size ≤ w4.heap.size := by omega
  have f2c4 : w4.cell? ⟨I.kb, 0, none⟩ = some (.slice (some ⟨rb, 0, none⟩) (K.nm.length + 1) sc) := by rw [hw4]; exact f2c
  have HTc := hide fun i (hi : i < K.th.length) => (h.tcell hi).1
  have HTb := hide fun i (hi : i < K.th.length) => (h.comp (.thing i) hi).2
  have HH := hide h
  have HS := hide hs
  have HDr := hide (And.intro hdr hkr)
  subst ho2
  clear hrun HO3 hg3 hb3 hkb3 hb3' hb4 hB1 hB12 hx2 hs1 hb hrow hlt3 hrk hoth4 hsz4 h hs hdr hkr
  go_enter Tryz.func127, Tryz.ntmps127
  go_wp2_with (first | (at_builtin; refine Lib.wpList_append_run _ rfl _ _ _ _ rfl _ _ rfl rfl _ _ HR.out ?_) | fail)
  rw [← hw4]
  clear hw4 f1 f1c f2c c1 e1 HR
  go_loopw [4] (fun iv wr => ∃ i : Nat, iv = .int .i64 i ∧ i ≤ K.nm.length ∧ Hid (wr.ownsRow 0 219 1 (.slice (some ⟨rb, 0, none⟩) (K.nm.length + 1) sc) (K.nm.length + 1) ((K.nm.take i ++ n :: K.nm.drop i).map (tptr I))) ∧ Hid (wr.heap[I.kb]? = some (.cells ([.slice (some ⟨rb, 0, none⟩) (K.nm.length + 1) sc, I.vD, .int .i64 K.next, .pointer (some ⟨I.pb, 0, none⟩), .int .i64 K.reads, .int .i64 K.writes] : List Value).toArray 144 (0, 0))) ∧ Hid (∀ j (hj : j < K.nm.length), i ≤ j → nlt (K.nameOf n) (K.nameOf K.nm[j])) ∧ Hid (∀ k, k < w.heap.size → k ≠ I.kb → I.vT.ownBlock ≠ some k → wr.heap[k]? = w.heap[k]?) ∧ w.heap.size ≤ wr.heap.size ∧ Hid (wr.os = w.os ∧ wr.tape = w.tape ∧ wr.output = w.output)) (fun iv _ => (intOf iv).toNat)
  case atStart => exact ⟨K.nm.length, rfl, Nat.le_refl _, HO4, HK4, hide (fun j hj h => by omega), HN4, hs4, HT4⟩
  case round =>
    obtain ⟨i, rfl, hi, HOr, HKr, HLt, HNr, hsr, HTr⟩ := hrel
    clear HO4 HK4 HN4 hs4 HT4 f2c4
    have c0 : wr.cell? ⟨I.kb, 0, none⟩ = some (.slice (some ⟨rb, 0, none⟩) (K.nm.length + 1) sc) := by rw [cell_of_row wr I.kb 0 _ _ _ HKr.out]; rfl
    have HEnd : Hid ((∀ j (hj : j < K.nm.length), j < i → ¬ nlt (K.nameOf n) (K.nameOf K.nm[j])) → ∃ ρ' I', RK wr B ρ' I' { K with nm := insN K.nameOf n K.nm } ∧ I'.kb = I.kb ∧ I'.tb = I.tb ∧ I'.ob = I.ob ∧ Turned B w wr) := hide (fun hle => by
      have hL := insN_at K.nameOf n K.nm i hi hle HLt.out
      have hlen : (insN K.nameOf n K.nm).length = K.nm.length + 1 := by rw [hL, List.length_append, List.length_take, List.length_cons, List.length_drop]; omega
      have h := HH.out
      obtain ⟨ρ', hR⟩ := h.names (W' := wr) (insN K.nameOf n K.nm) (by omega) (fun j hj => by
        have := (insN_perm K.nameOf n K.nm).mem_iff.1 hj
        rcases List.mem_cons.1 this with rfl | e
        · exact hn
        · exact h.ok.nm j e) HKr.out (by rw [hlen, hL]; exact HOr.out) (fun k e => by
        have : rb = k := by simpa [Value.ownBlock] using e
        rw [← this]; exact HRk.out.2) HNr.out hsr
      exact ⟨ρ', _, hR, rfl, rfl, rfl, HTr.out.1, HTr.out.2.1, HTr.out.2.2, hsr, fun k hk hnb => HNr.out k hk (fun e => hnb (by rw [e]; exact (h.lt _ _ HDr.out.2).1)) (fun e => hnb (h.lt _ _ ((h.comp .trow).2 k e)).1)⟩)
    by_cases hi0 : i = 0
    · subst hi0
      have hE := HEnd.out (fun j hj hj0 => absurd hj0 (by omega))
      have HE := hide hE
      clear hE HEnd HOr HKr HLt HNr
      go_wp2_with fail
      go_quiet (fail)
      go_wp2
      go_end0
      exact ⟨rfl, added_drew HE.out _⟩
    · obtain ⟨q, rfl⟩ : ∃ q, i = q + 1 := ⟨i - 1, by omega⟩
      have hql : q < K.nm.length := by omega
      obtain ⟨x, hx⟩ : ∃ x, x = K.nm[q] := ⟨_, rfl⟩
      have hxt : x < K.th.length := by rw [hx]; exact HH.out.ok.nm _ (List.getElem_mem _)
      have hr0 : wr.cell? ⟨rb, q, none⟩ = some (.pointer (some ⟨I.tb x, 0, none⟩)) := by
        have := HOr.out.cellAt q (by omega)
        rw [this, List.getElem?_map, List.getElem?_append_left (by rw [List.length_take]; omega), List.getElem?_take_of_lt (by omega), List.getElem?_eq_getElem hql, ← hx]
        rfl
      have hr1 : wr.cell? ⟨rb, q + 1, none⟩ = some (.pointer (some ⟨I.tb n, 0, none⟩)) := by
        have := HOr.out.cellAt (q + 1) (by omega)
        rw [this, List.getElem?_map, List.getElem?_append_right (by rw [List.length_take]; omega), List.length_take, show q + 1 - min (q + 1) K.nm.length = 0 by omega]
        rfl
      have hname : ∀ j, j < K.th.length → wr.cell? ⟨I.tb j, 0, none⟩ = some (.string (K.nameOf j)) := fun j hj => by
        have h1 := HTc.out j hj
        have h2 := World.block_lt_of_cell? w _ h1
        refine (World.cell?_of_block (w := w) (a := ⟨I.tb j, 0, none⟩) (HNr.out _ h2 (fun e => ?_) (fun e => ?_))).trans h1
        · have h9 := HTb.out j hj
          rw [show I.tb j = I.kb from e, HDr.out.2] at h9
          cases h9
        · have h9 := HDr.out.1 _ e
          rw [HTb.out j hj] at h9
          cases h9
      have hnx := hname x hxt
      have hnn := hname n hn
      have HX := hide hx
      obtain ⟨nx, hnx'⟩ : ∃ nx, nx = K.nameOf x := ⟨_, rfl⟩
      obtain ⟨nn, hnn'⟩ : ∃ nn, nn = K.nameOf n := ⟨_, rfl⟩
      rw [← hnx'] at hnx
      rw [← hnn'] at hnn
      have HNm := hide (And.intro hnx' hnn')
      have p0 : (0 : Int) < (q : Int) + 1 := by omega
      have p1 : (0 : Int) ≤ (q : Int) := by omega
      have p2 : (q : Int) < (K.nm.length : Int) + 1 := by omega
      have p3 : (q : Int) + 1 < (K.nm.length : Int) + 1 := by omega
      have p4 : (0 : Int) ≤ (q : Int) + 1 := by omega
      clear hx hname hnx' hnn' hi0
      by_cases hgt : nlt nn nx
      · obtain ⟨b1, b2⟩ := gtr_yes hgt
        obtain ⟨rc, hrc⟩ : ∃ rc : List Value, wr.heap[rb]? = some (.cells rc.toArray 219 (0, 0)) := by
          rcases HOr.out.2 with ⟨h0, _⟩ | ⟨g, cap, cur, h1, _, h3, _⟩
          · simp at h0
          · simp only [Value.slice.injEq, Option.some.injEq, Addr.mk.injEq, and_true, true_and] at h1
            obtain ⟨rfl, rfl⟩ := h1
            exact ⟨cur.toList, by simpa using h3⟩
        have fz : ∀ j, wr.frozen? ⟨rb, j, none⟩ = false := fun j => frozen_of_row wr rb j _ _ hrc
        have fz0 := fz q
        have fz1 := fz (q + 1)
        have HQ := hide (And.intro HOr (And.intro HKr (And.intro HLt (And.intro HNr HTr))))
        clear fz hrc HOr HKr HLt HNr HTr HEnd
        go_wp2_with fail
        go_quiet (fail)
        go_wp2_with fail
        have c0q : (wr.drewN nq).drew.cell? ⟨I.kb, 0, none⟩ = some (.slice (some ⟨rb, 0, none⟩) (K.nm.length + 1) sc) := c0
        have r0q : (wr.drewN nq).drew.cell? ⟨rb, q, none⟩ = some (.pointer (some ⟨I.tb x, 0, none⟩)) := hr0
        have r1q : (wr.drewN nq).drew.cell? ⟨rb, q + 1, none⟩ = some (.pointer (some ⟨I.tb n, 0, none⟩)) := hr1
        have z0q : (wr.drewN nq).drew.frozen? ⟨rb, q, none⟩ = false := fz0
        have z1q : (wr.drewN nq).drew.frozen? ⟨rb, q + 1, none⟩ = false := fz1
        generalize hwq : (wr.drewN nq).drew = wq at *
        go_big_region
        have hwq1 : ∀ k : Nat, wq.heap[k]? = wr.heap[k]? := fun k => by rw [← hwq]; rfl
        have hwq2 : wq.heap.size = wr.heap.size := by rw [← hwq]; rfl
        have hwq3 : wq.os = wr.os ∧ wq.tape = wr.tape ∧ wq.output = wr.output := by rw [← hwq]; exact ⟨rfl, rfl, rfl⟩
        obtain ⟨HOr, HKr, HLt, HNr, HTr⟩ := HQ.out
        have hOq : wq.ownsRow 0 219 1 (.slice (some ⟨rb, 0, none⟩) (K.nm.length + 1) sc) (K.nm.length + 1) ((K.nm.take (q + 1) ++ n :: K.nm.drop (q + 1)).map (tptr I)) := owns_keep HOr.out (fun k _ => hwq1 k)
        obtain ⟨s1, g1⟩ := hOq.stored (q + 1) (.pointer (some ⟨I.tb x, 0, none⟩))
        obtain ⟨s2, g2⟩ := s1.stored q (.pointer (some ⟨I.tb n, 0, none⟩))
        have hlist : (((K.nm.take (q + 1) ++ n :: K.nm.drop (q + 1)).map (tptr I)).set (q + 1) (.pointer (some ⟨I.tb x, 0, none⟩))).set q (.pointer (some ⟨I.tb n, 0, none⟩)) = (K.nm.take q ++ n :: K.nm.drop q).map (tptr I) := swap_list (tptr I) K.nm q n hql (by rw [HX.out]; rfl) rfl
        rw [hlist] at s2
        generalize ((wq.setCell ⟨rb, q + 1, none⟩ (.pointer (some ⟨I.tb x, 0, none⟩))).setCell ⟨rb, q, none⟩ (.pointer (some ⟨I.tb n, 0, none⟩))) = w9 at *
        generalize wq.setCell ⟨rb, q + 1, none⟩ (.pointer (some ⟨I.tb x, 0, none⟩)) = w8 at *
        have hblk : ∀ k : Nat, k < wr.heap.size → k ≠ rb → w9.heap[k]? = wr.heap[k]? := fun k hk hne => by
          have z1 := g1.size
          rw [g2.block k (by omega) (fun e => hne (Option.some.inj e)), g1.block k (by omega) (fun e => hne (Option.some.inj e)), hwq1]
        have HO9 := hide s2
        have hkbl : I.kb < wr.heap.size := (Array.getElem?_eq_some_iff.1 HKr.out).1
        have HK9 := hide ((hblk I.kb hkbl (fun e => HRk.out.1 e.symm)).trans HKr.out)
        have HN9 : Hid (∀ k, k < w.heap.size → k ≠ I.kb → I.vT.ownBlock ≠ some k → w9.heap[k]? = w.heap[k]?) := hide (fun k hk n1 n2 => (hblk k (by omega) (fun e => by
          subst e
          rcases HRk.out.2 with e2 | e2
          · exact n2 e2
          · omega)).trans (HNr.out k hk n1 n2))
        have hs9 : w.heap.size ≤ w9.heap.size := by have := g1.size; have := g2.size; omega
        have HT9 : Hid (w9.os = w.os ∧ w9.tape = w.tape ∧ w9.output = w.output) := hide ⟨g2.os.trans (g1.os.trans (hwq3.1.trans HTr.out.1)), g2.tape.trans (g1.tape.trans (hwq3.2.1.trans HTr.out.2.1)), g2.output.trans (g1.output.trans (hwq3.2.2.trans HTr.out.2.2))⟩
        have HL9 : Hid (∀ j (hj : j < K.nm.length), q ≤ j → nlt (K.nameOf n) (K.nameOf K.nm[j])) := hide (fun j hj hqj => by
          by_cases e : j = q
          · subst e
            rw [← HX.out, ← HNm.out.1, ← HNm.out.2]
            exact hgt
          · exact HLt.out j hj (by omega))
        clear hOq s1 s2 g1 g2 hlist hblk hwq1 hwq2 hwq3 hwq c0q r0q r1q z0q z1q HOr HKr HLt HNr HTr HQ c0 hr0 hr1 hnx hnn fz0 fz1
        go_wp2
        go_roundw
        case rel => exact ⟨q, by go_num, by omega, HO9, HK9, HL9, HN9, hs9, HT9⟩
        case measure => simp [intOf]
      · have b1 := gtr_no hgt
        have HE := hide (HEnd.out (fun j hj hjq hlt => by
          have hle : nlt (K.nameOf n) (K.nameOf K.nm[q]) := by
            by_cases e : j = q
            · subst e; exact hlt
            · exact nlt_trans hlt (List.pairwise_iff_getElem.1 HS.out j q hj hql (by omega))
          rw [← HX.out, ← HNm.out.1, ← HNm.out.2] at hle
          exact hgt hle))
        clear HEnd HOr HKr HLt HNr
        rcases b1 with b1 | ⟨b1, b2⟩
        all_goals
          go_wp2_with fail
          go_quiet (fail)
          go_wp2
          go_end0
          exact ⟨rfl, added_drew HE.out _⟩
end Go.Proofs.YtkkommomefmpgaaGreat

/- The reference's kernel: Open. -/
namespace Go.Proofs.YtkkommomefmpgaaGreat
open Go.RowKit

theorem more_names {K : KS} {t : Th} {i : Nat} (h : i < K.th.length) : (K.more t).nameOf i = K.nameOf i := by simp [KS.nameOf, KS.more, List.getElem?_append_left h]
theorem more_sorted {K : KS} (hok : KOk K) (hnm : KNm K) (t : Th) : (K.more t).nm.Pairwise fun i j => nlt ((K.more t).nameOf i) ((K.more t).nameOf j) := by
  refine List.Pairwise.imp_of_mem (fun {a b} ha hb hlt => ?_) hnm.sorted
  rw [more_names (hok.nm a ha), more_names (hok.nm b hb)]
  exact hlt
set_option maxRecDepth 100000 in
set_option maxHeartbeats 2000000 in
theorem rkopen_no (B : Nat → Prop) (ρ : Nat → Option Tag) (I : RI) (K : KS) (s : ByteArray) (flags : Int) (w : World) (h : RK w B ρ I K) (hs : s.size ≤ maxLen) (hno : nameOk s = false ∨ flagsOk flags = false ∨ 256 ≤ K.de.length) :
    Calls Tryz.prog 48 #[.pointer (some ⟨I.kb, 0, none⟩), .string s, .int .i64 flags] w (RKNum w B I.kb (K.open s flags)) := by
  have HX := hide fun E => RKNum.refused h 0 E
  have hb := (h.comp .kern).1
  have c1 : w.cell? ⟨I.kb, 1, none⟩ = some I.vD := by rw [cell_of_row w I.kb 1 _ _ _ hb]; rfl
  obtain ⟨da, dc, hdv⟩ := owns_slice (h.comp .drow).1
  rw [hdv] at c1
  have HN := hide (named_any s w hs)
  have HF := hide (flagged_any flags w)
  clear h hb hdv
  by_cases k0 : nameOk s = false
  · rw [show K.open s flags = (0, 61, K) by unfold KS.open; rw [if_pos k0]]
    rw [k0] at HN
    go_enter Tryz.func48, Tryz.ntmps48
    go_wp2_with fail
    refine HN.out.mono ?_
    rintro e w ⟨rfl, rfl⟩
    go_wp2
    go_ret2
    exact HX.out 61
  · have k0' : nameOk s = true := by simpa using k0
    rw [k0'] at HN
    by_cases k1 : flagsOk flags = false
    · rw [show K.open s flags = (0, 65, K) by unfold KS.open; rw [if_neg k0, if_pos k1]]
      rw [k1] at HF
      go_enter Tryz.func48, Tryz.ntmps48
      go_wp2_with fail
      refine HN.out.mono ?_
      rintro e w ⟨rfl, rfl⟩
      go_wp2_with fail
      refine HF.out.mono ?_
      rintro e w ⟨rfl, rfl⟩
      go_wp2
      go_ret2
      exact HX.out 65
    · have k1' : flagsOk flags = true := by simpa using k1
      rw [k1'] at HF
      have k2 : 256 ≤ K.de.length := by rcases hno with e | e | e; exact absurd e k0; exact absurd e k1; exact e
      rw [show K.open s flags = (0, 3, K) by unfold KS.open; rw [if_neg k0, if_neg k1, if_pos k2]]
      have k3 : (256 : Int) ≤ (K.de.length : Int) := by omega
      go_enter Tryz.func48, Tryz.ntmps48
      go_wp2_with fail
      refine HN.out.mono ?_
      rintro e w ⟨rfl, rfl⟩
      go_wp2_with fail
      refine HF.out.mono ?_
      rintro e w ⟨rfl, rfl⟩
      go_wp2
      go_ret2
      exact HX.out 3
set_option maxRecDepth 100000 in
set_option maxHeartbeats 4000000 in
theorem rkopen_new (B : Nat → Prop) (ρ : Nat → Option Tag) (I : RI) (K : KS) (s : ByteArray) (flags : Int) (w : World) (h : RK w B ρ I K) (hnm : KNm K) (hs : s.size ≤ maxLen) (hn1 : 1 ≤ K.next) (hn : K.next < 9223372036854775807) (k0 : nameOk s = true) (k1 : flagsOk flags = true) (k2 : ¬ 256 ≤ K.de.length) (hby : K.byName s = none) :
    Calls Tryz.prog 48 #[.pointer (some ⟨I.kb, 0, none⟩), .string s, .int .i64 flags] w (RKNum w B I.kb (K.open s flags)) := by
  have HX := hide fun E => RKNum.refused h 0 E
  have hb := (h.comp .kern).1
  have c1 : w.cell? ⟨I.kb, 1, none⟩ = some I.vD := by rw [cell_of_row w I.kb 1 _ _ _ hb]; rfl
  have c2 : w.cell? ⟨I.kb, 0, none⟩ = some I.vT := by rw [cell_of_row w I.kb 0 _ _ _ hb]; rfl
  obtain ⟨da, dc, hdv⟩ := owns_slice (h.comp .drow).1
  obtain ⟨ta, tc, htv⟩ := owns_slice (h.comp .trow).1
  rw [hdv] at c1
  rw [htv] at c2
  have HN := hide (named_any s w hs)
  have HF := hide (flagged_any flags w)
  have HT := hide (rthing_any B ρ I K s w h)
  rw [k0] at HN
  rw [k1] at HF
  rw [hby] at HT
  have k3 : ¬ (256 : Int) ≤ (K.de.length : Int) := by omega
  have hO : K.open s flags = if fbit flags 8 = 0 then (0, 62, K) else if 256 ≤ K.nm.length then (0, 3, K) else ((K.next : Int), 0, (K.addTh ⟨s, .file []⟩).newDe K.th.length flags) := by
    unfold KS.open
    rw [if_neg (by simp [k0]), if_neg (by simp [k1]), if_neg k2, hby]
  obtain ⟨v8, hv8⟩ : ∃ v8, bits .and .i64 flags 8 = v8 := ⟨_, rfl⟩
  rw [show fbit flags 8 = v8 from hv8] at hO
  have HH := hide (And.intro h hnm)
  clear h hb hdv htv
  by_cases e8 : v8 = 0
  · subst e8
    rw [if_pos rfl] at hO
    rw [hO]
    go_enter Tryz.func48, Tryz.ntmps48
    go_wp2_with fail
    refine HN.out.mono ?_
    rintro e w ⟨rfl, rfl⟩
    go_wp2_with fail
    refine HF.out.mono ?_
    rintro e w ⟨rfl, rfl⟩
    go_wp2_with fail
    refine HT.out.mono ?_
    rintro e w ⟨rfl, rfl⟩
    simp only [Option.map_none]
    go_wp2
    go_ret2
    exact HX.out 62
  have m8 : (v8 == 0) = false := by simpa using e8
  have m8' : (v8 != 0) = true := by simpa using e8
  rw [if_neg e8] at hO
  by_cases hfull : 256 ≤ K.nm.length
  · rw [if_pos hfull] at hO
    rw [hO]
    have hf' : (256 : Int) ≤ (K.nm.length : Int) := by omega
    go_enter Tryz.func48, Tryz.ntmps48
    go_wp2_with fail
    refine HN.out.mono ?_
    rintro e w ⟨rfl, rfl⟩
    go_wp2_with fail
    refine HF.out.mono ?_
    rintro e w ⟨rfl, rfl⟩
    go_wp2_with fail
    refine HT.out.mono ?_
    rintro e w ⟨rfl, rfl⟩
    simp only [Option.map_none]
    go_wp2
    go_ret2
    exact HX.out 3
  rw [if_neg hfull] at hO
  rw [hO]
  have hf' : ¬ (256 : Int) ≤ (K.nm.length : Int) := by omega
  have HNw := hide (Fi_rnew_good (.slice none 0 0) [] w (.inl ⟨rfl, rfl⟩) (by decide))
  go_enter Tryz.func48, Tryz.ntmps48
  go_wp2_with fail
  refine HN.out.mono ?_
  rintro e w ⟨rfl, rfl⟩
  go_wp2_with fail
  refine HF.out.mono ?_
  rintro e w ⟨rfl, rfl⟩
  go_wp2_with fail
  refine HT.out.mono ?_
  rintro e w ⟨rfl, rfl⟩
  simp only [Option.map_none]
  go_wp2_with fail
  refine HNw.out.mono ?_
  rintro e w1 ⟨rfl, ⟨u, hF1⟩, hB1⟩
  obtain ⟨h, hnm⟩ := HH.out
  have hs1 := hB1.size
  have hfl : w.heap.size < w1.heap.size := hF1.lt
  obtain ⟨o2, ho2⟩ : ∃ o2, o2 = Obj.cells #[.string s, .int .i64 1, .pointer (some ⟨w.heap.size, 0, none⟩), .pointer none, .pointer none] 223 := ⟨_, rfl⟩
  have hB2 := recv_below w1 o2
  have hs2 : (w1.alloc o2).heap.size = w1.heap.size + 1 := by simp
  have hn2 := heap_alloc_new w1 o2
  have hB12 : Below w.heap.size w (w1.alloc o2) := hB1.trans (hB2.mono hs1)
  have hO1 : RObj w1 (fun k => k = w.heap.size ∨ u.ownBlock = some k) w.heap.size (.file []) := ⟨u, w.heap.size + 1, hF1, by omega, .inl rfl, fun k e => .inr e⟩
  obtain ⟨ρ2, hK2⟩ := h.more (W' := w1.alloc o2) ⟨s, .file []⟩ (nb := w1.heap.size) (ob := w.heap.size) (O := fun k => k = w.heap.size ∨ u.ownBlock = some k) (fun k hk => hB12.block k hk) hB12.size hs1 (by rw [hn2, ho2]; rfl)
    (hO1.keep (fun k _ hl => hB2.block k hl) hB2.size) (fun k e => by
      rcases e with rfl | e
      · exact ⟨Nat.le_refl _, by omega⟩
      · have := hF1.row.lt k e; omega) (by show ([] : List UInt8).length ≤ 1048576; simp)
  have hth2 : (K.more ⟨s, .file []⟩).th.length = K.th.length + 1 := by simp [KS.more]
  have hA := radd_any B ρ2 _ _ K.th.length _ hK2 (by rw [hth2]; omega) (more_sorted h.ok hnm _) (by show K.nm.length < 256; omega)
  simp only [updT_new] at hA
  have HA := hide hA
  have HB12 := hide hB12
  subst ho2
  clear h hnm hF1 hB1 hB2 hs2 hn2 hB12 hO1 hK2 hth2 hA hs1 hfl
  go_wp2_with fail
  refine HA.out.mono ?_
  rintro e w3 ⟨rfl, ρ3, I3, hK3, hkb3, htb3, -, hT3⟩
  have hD := rdesc_any B ρ3 I3 _ K.th.length flags _ hK3 (by show K.th.length < (K.th ++ [_]).length; simp) k1 (by show K.de.length < 256; omega) hn1 hn
  rw [hkb3, htb3] at hD
  simp only [updT_new] at hD
  have HD := hide hD
  have HT3 := hide ((Turned.of_below (S := B) HB12.out).trans hT3 (fun _ _ e => e))
  have HKb : Hid (I3.kb = I.kb) := hide hkb3
  clear hK3 hkb3 htb3 hT3 hD
  go_wp2_with fail
  refine HD.out.mono ?_
  rintro e w4 ⟨rfl, ρ4, I4, hK4, hkb4, -, hT4⟩
  have HE : Hid (RKNum w B I.kb ((K.next : Int), 0, (K.addTh ⟨s, .file []⟩).newDe K.th.length flags) (.returned (.tuple #[.int .i64 K.next, .int .i64 0])) w4) := hide ⟨ρ4, I4, rfl, hK4, hkb4.trans HKb.out, HT3.out.trans hT4 (fun _ _ e => e)⟩
  clear hK4 hkb4 hT4
  go_wp2
  go_ret2
  exact HE.out
end Go.Proofs.YtkkommomefmpgaaGreat
