/- What the proof stands on, part 7: the contracts of the program's calls that it reaches. -/
import Derived.Test.YtkkommomefmpgaaGreatKQ6
/- The program's kernel: what is written to a thing. -/
namespace Go.Proofs.YtkkommomefmpgaaGreat
open Go.RowKit Go.Maps

def KS.wrx (K : KS) (x : De) (b : List UInt8) (m : Int) : Int × Int × KS := match K.tho x with
  | .file f => ((min m.toNat (1048576 - placeOf f x.flags x.pos) : Nat), 0, (K.setOb x.th (.file (wrL f (placeOf f x.flags x.pos) (b.take (min m.toNat (1048576 - placeOf f x.flags x.pos)))))).setDe { x with pos := placeOf f x.flags x.pos + min m.toNat (1048576 - placeOf f x.flags x.pos) })
  | .term ls scr => ((min m.toNat (1048576 - scr.length) : Nat), 0, K.setOb x.th (.term ls (scr ++ b.take (min m.toNat (1048576 - scr.length)))))
  | .pipe q rd wt => ((wrN b.length m q.length rd wt : Nat), Kp_wrE b.length m q.length rd wt, K.setOb x.th (.pipe (q ++ b.take (wrN b.length m q.length rd wt)) rd wt))
def PNum (ρ : Nat → Option PTag) (I : PI) (w : World) (r : Int × Int × KS) (e : Ending) (w' : World) : Prop :=
  e = .returned (.tuple #[.int .i64 r.1, .int .i64 r.2.1]) ∧ PNext ρ I w r.2.2 w'
theorem PNum.refused {w : World} {ρ : Nat → Option PTag} {I : PI} {K : KS} {w' : World} (h : PK w ρ I K) (hB : Below w.heap.size w w') (E : Int) : PNum ρ I w (0, E, K) (.returned (.tuple #[.int .i64 0, .int .i64 E])) w' :=
  ⟨rfl, PNext.of (h.under hB) rfl (Turned.of_below hB)⟩
theorem plc_place (b : List UInt8) (f : Int) (pos : Nat) : plc b (bit f 4) pos = placeOf b f pos := rfl
theorem xwrite_file (ρ : Nat → Option PTag) (I : PI) (K : KS) (x : De) (b bs : List UInt8) (m : Nat) (a1 : Option Addr) (cx : Nat) (w : World) (h : PK w ρ I K) (hx : x ∈ K.de) (ho : K.tho x = .file b)
    (hb : Bys w (.slice a1 bs.length cx) bs) (hcap : bs.length ≤ cx) (h1 : 1 ≤ m) (h2 : m ≤ bs.length) (h3 : bs.length ≤ 1048576) (hd : ∀ k, (Value.slice a1 bs.length cx).ownBlock = some k → ¬ Own ρ k) :
    Calls Tryz.prog 310 #[.pointer (some ⟨I.xb x.n, 0, none⟩), .slice a1 bs.length cx, .int .i64 m] w (PNum ρ I w (K.wrx x bs m)) := by
  have hO := h.pobj hx
  have hi := h.ok.th x hx
  have hth := KS.tho_eq (K := K) (x := x) hi
  rw [ho] at hO hth
  obtain ⟨hxb, ht⟩ := h.comp (.ofile x.n) x hx rfl b ho
  have hdc := h.comp (.desc x.n) x hx rfl
  have hpos := h.ok.pos x hx
  have hxO : ¬ ρ (I.xb x.n) = some (.obj x.th) := fun e => by rw [ht] at e; cases e
  refine (of_write (I.xb x.n) (I.ob x.th) b bs x.pos (bit x.flags 4) m a1 cx _ w hxb hO hxO hpos hb hcap h1 h2 h3 (fun k e => ⟨fun e' => hd k e ⟨_, e'⟩, fun e' => hd k e ⟨.ofile x.n, by rw [e']; exact ht⟩⟩)).mono ?_
  rintro e w' ⟨rfl, hS⟩
  rw [plc_place] at hS
  have hat : placeOf b x.flags x.pos ≤ 1048576 := by
    unfold placeOf; split
    · exact hO.1
    · exact hpos
  rw [show K.wrx x bs m = (((min m (1048576 - placeOf b x.flags x.pos) : Nat) : Int), 0, (K.setOb x.th (.file (wrL b (placeOf b x.flags x.pos) (bs.take (min m (1048576 - placeOf b x.flags x.pos)))))).setDe { x with pos := placeOf b x.flags x.pos + min m (1048576 - placeOf b x.flags x.pos) }) by unfold KS.wrx; rw [ho]; rfl]
  rw [plc_place]
  generalize placeOf b x.flags x.pos = A at *
  have hz : (bs.take (min m (1048576 - A))).length = min m (1048576 - A) := by simp; omega
  rw [hz] at hS ⊢
  have hN : A + min m (1048576 - A) ≤ 1048576 := by omega
  generalize min m (1048576 - A) = N at *
  have hT1 := (Turned.refl (fun k => k = I.xb x.n) w).set (g := I.xb x.n) (j := 1) (u := .int .i64 ((A : Int) + (N : Int))) (.inl rfl)
  have hP1 : PK (w.setCell ⟨I.xb x.n, 1, none⟩ (.int .i64 ((A : Int) + (N : Int)))) ρ I (K.setDe { x with pos := A + N }) := by
    refine h.setDe hx (x' := { x with pos := A + N }) rfl rfl rfl hN (h.ok.held x hx) (hT1.mono fun k e => by rw [e]; exact .inr ht) ?_ ?_
    · exact (hT1.block _ (h.lt _ _ hdc.2) (fun e => by rw [e, ht] at hdc; cases hdc.2)).trans hdc.1
    · intro b' _
      rw [heap_setCell_same 1 _ hxb]
      rfl
  refine ⟨rfl, PNext.after (hT1.mono fun k e => ⟨.ofile x.n, by rw [e]; exact ht⟩) rfl (hP1.objStep (ob' := .file (wrL b A (bs.take N))) hi (by show (1 : Int) = (K.th[x.th].ob).kind; rw [← hth]; rfl) hS (fun ls scr e => by cases e))⟩
theorem xwrite_term (ρ : Nat → Option PTag) (I : PI) (K : KS) (x : De) (ls : List (List UInt8)) (scr bs : List UInt8) (m : Nat) (a1 : Option Addr) (cx : Nat) (w : World) (h : PK w ρ I K) (hx : x ∈ K.de) (ho : K.tho x = .term ls scr)
    (hb : Bys w (.slice a1 bs.length cx) bs) (hcap : bs.length ≤ cx) (h1 : 1 ≤ m) (h2 : m ≤ bs.length) (h3 : bs.length ≤ 1048576) (hd : ∀ k, (Value.slice a1 bs.length cx).ownBlock = some k → ¬ Own ρ k) :
    Calls Tryz.prog 301 #[.pointer (some ⟨I.cb x.th, 0, none⟩), .slice a1 bs.length cx, .int .i64 m] w (PNum ρ I w (K.wrx x bs m)) := by
  have hO := h.pobj hx
  have hi := h.ok.th x hx
  have hth := KS.tho_eq (K := K) (x := x) hi
  rw [ho] at hO hth
  obtain ⟨hcb, ht⟩ := h.comp (.cons x.th) hi ls scr hth.symm
  have hxO : ¬ ρ (I.cb x.th) = some (.obj x.th) := fun e => by rw [ht] at e; cases e
  have hat : scr.length ≤ 1048576 := hO.ok.2.2
  refine (co_write (I.cb x.th) (I.ob x.th) ls scr bs m a1 cx _ w hcb hO hxO hb hcap h1 h2 h3 (fun k e e' => hd k e ⟨.cons x.th, by rw [e']; exact ht⟩)).mono ?_
  rintro e w' ⟨rfl, hC, ⟨O', hO1, hO2⟩, hT⟩
  rw [show K.wrx x bs m = (((min m (1048576 - scr.length) : Nat) : Int), 0, K.setOb x.th (.term ls (scr ++ bs.take (min m (1048576 - scr.length))))) by unfold KS.wrx; rw [ho]; rfl]
  have hz : (bs.take (min m (1048576 - scr.length))).length = min m (1048576 - scr.length) := by simp; omega
  rw [hz]
  obtain ⟨ρ', a1, a2, a3⟩ := h.setOb hi (ob' := .term ls (scr ++ bs.take (min m (1048576 - scr.length)))) (by rw [← hth]; rfl) (hT.mono fun k e => e.imp id (fun e => by rw [e]; exact ht)) hO1 hO2 (fun ls' scr' e => by cases e; exact hC)
  exact ⟨rfl, ρ', I, a1, rfl, a2, hT.mono fun k e => by
    rcases e with e | e
    · exact ⟨_, e⟩
    · exact ⟨.cons x.th, by rw [e]; exact ht⟩⟩
theorem xwrite_pipe (ρ : Nat → Option PTag) (I : PI) (K : KS) (x : De) (q : List UInt8) (rd wt : Nat) (bs : List UInt8) (m : Int) (a1 : Option Addr) (cx : Nat) (w : World) (h : PK w ρ I K) (hx : x ∈ K.de) (ho : K.tho x = .pipe q rd wt)
    (hb : Bys w (.slice a1 bs.length cx) bs) (hcap : bs.length ≤ cx) (h3 : bs.length ≤ 1048576) (hd : ∀ k, (Value.slice a1 bs.length cx).ownBlock = some k → ¬ Own ρ k) :
    Calls Tryz.prog 327 #[.agg #[.pointer (some ⟨I.ob x.th, 0, none⟩)], .slice a1 bs.length cx, .int .i64 m] w (PNum ρ I w (K.wrx x bs m)) := by
  have hO := h.pobj hx
  have hi := h.ok.th x hx
  have hth := KS.tho_eq (K := K) (x := x) hi
  rw [ho] at hO hth
  refine (pp_write (I.ob x.th) q bs rd wt m a1 cx _ w hO hb hcap h3 (fun k e e' => hd k e ⟨_, e'⟩)).mono ?_
  rintro e w' ⟨rfl, hS⟩
  rw [show K.wrx x bs m = (((wrN bs.length m q.length rd wt : Nat) : Int), Kp_wrE bs.length m q.length rd wt, K.setOb x.th (.pipe (q ++ bs.take (wrN bs.length m q.length rd wt)) rd wt)) by unfold KS.wrx; rw [ho]]
  exact ⟨rfl, h.objStep hi (by rw [← hth]; rfl) hS (fun ls' scr' e => by cases e)⟩
theorem write_is {K : KS} {d : Int} {b : List UInt8} {x : De} (hx : K.find d = some x) (h1 : fbit x.flags 2 ≠ 0) (h2 : 1 ≤ b.length) (h3 : b.length ≤ 1048576) (h4 : refusal (K.tho x) x.flags x.pos b.length = 0) :
    K.write d b = if (nxt K.plan b.length).2 = 0 then K.writeUp.wrx x b (nxt K.plan b.length).1 else (0, (nxt K.plan b.length).2, K.writeUp) := by
  unfold KS.write KS.wrx
  rw [hx]
  simp only
  rw [if_neg h1, if_neg (by omega), if_neg (by omega), if_pos h4]
  show _ = if _ then (match K.tho x with | .file b => _ | .term ls scr => _ | .pipe q rd wt => _) else _
  split
  · cases K.tho x <;> rfl
  · rfl
end Go.Proofs.YtkkommomefmpgaaGreat

/- The program's kernel: Seek, Keep. -/
namespace Go.Proofs.YtkkommomefmpgaaGreat
open Go.RowKit Go.Maps

theorem as_openFile_openFile (x : Nat) (w : World) : (Instr.typeAssert (.iface 261 (.pointer (some ⟨x, 0, none⟩))) 230 261 true).run Tryz.prog w = .ok (.tuple #[(.pointer (some ⟨x, 0, none⟩)), .bool true]) w := by kernel_rfl
theorem as_openFile_console (x : Nat) (w : World) : (Instr.typeAssert (.iface 104 (.pointer (some ⟨x, 0, none⟩))) 230 261 true).run Tryz.prog w = .ok (.tuple #[.pointer none, .bool false]) w := by kernel_rfl
theorem as_openFile_pipeEnd (x : Nat) (w : World) : (Instr.typeAssert (.iface 271 (.agg #[.pointer (some ⟨x, 0, none⟩)])) 230 261 true).run Tryz.prog w = .ok (.tuple #[.pointer none, .bool false]) w := by kernel_rfl
set_option maxRecDepth 100000 in
theorem fileOf_yes (x : Nat) (w : World) : Calls Tryz.prog 153 #[.iface 261 (.pointer (some ⟨x, 0, none⟩))] w fun e w' => e = .returned (.tuple #[.pointer (some ⟨x, 0, none⟩), .bool true]) ∧ w' = w := by
  have ha := as_openFile_openFile x
  go_enter Tryz.func153, Tryz.ntmps153
  go_wp2
  go_ret2
  exact ⟨rfl, rfl⟩
set_option maxRecDepth 100000 in
theorem fileOf_term (x : Nat) (w : World) : Calls Tryz.prog 153 #[.iface 104 (.pointer (some ⟨x, 0, none⟩))] w fun e w' => e = .returned (.tuple #[.pointer none, .bool false]) ∧ w' = w := by
  have ha := as_openFile_console x
  go_enter Tryz.func153, Tryz.ntmps153
  go_wp2
  go_ret2
  exact ⟨rfl, rfl⟩
set_option maxRecDepth 100000 in
theorem fileOf_pipe (x : Nat) (w : World) : Calls Tryz.prog 153 #[.iface 271 (.agg #[.pointer (some ⟨x, 0, none⟩)])] w fun e w' => e = .returned (.tuple #[.pointer none, .bool false]) ∧ w' = w := by
  have ha := as_openFile_pipeEnd x
  go_enter Tryz.func153, Tryz.ntmps153
  go_wp2
  go_ret2
  exact ⟨rfl, rfl⟩
theorem PK.seekTo {W : World} {ρ : Nat → Option PTag} {I : PI} {K : KS} (h : PK W ρ I K) {x : De} (hx : x ∈ K.de) {b : List UInt8} (ho : K.tho x = .file b) (p : Nat) (hp : p ≤ 1048576) (v : Int) (hv : v = (p : Int)) :
    PNext ρ I W (K.setDe { x with pos := p }) (W.setCell ⟨I.xb x.n, 1, none⟩ (.int .i64 v)) := by
  subst hv
  obtain ⟨hxb, ht⟩ := h.comp (.ofile x.n) x hx rfl b ho
  have hdc := h.comp (.desc x.n) x hx rfl
  have hT1 := (Turned.refl (fun k => k = I.xb x.n) W).set (g := I.xb x.n) (j := 1) (u := .int .i64 (p : Int)) (.inl rfl)
  refine PNext.of (h.setDe hx (x' := { x with pos := p }) rfl rfl rfl hp (h.ok.held x hx) (hT1.mono fun k e => by rw [e]; exact .inr ht) ?_ ?_) rfl (hT1.mono fun k e => ⟨.ofile x.n, by rw [e]; exact ht⟩)
  · exact (hT1.block _ (h.lt _ _ hdc.2) (fun e => by rw [e, ht] at hdc; cases hdc.2)).trans hdc.1
  · intro b' _
    rw [heap_setCell_same 1 _ hxb]
    rfl
set_option maxRecDepth 100000 in
set_option maxHeartbeats 4000000 in
theorem kseek_any (ρ : Nat → Option PTag) (I : PI) (K : KS) (d off wh : Int) (w : World) (h : PK w ρ I K) (hd : I64 d) (hoff : I64 off) :
    Calls Tryz.prog 56 #[.pointer (some ⟨I.kb, 0, none⟩), .int .i64 d, .int .i64 off, .int .i64 wh] w (PNum ρ I w (K.seek d off wh)) := by
  have HF := hide (described_any ρ I K d w h hd)
  have HX := hide fun E => PNum.refused h (Below.refl _ w) E
  cases hx : K.find d with
  | none =>
    rw [hx] at HF
    rw [show K.seek d off wh = (0, 64, K) by unfold KS.seek; rw [hx]]
    clear h
    go_enter Tryz.func56, Tryz.ntmps56
    go_wp2_with fail
    refine HF.out.mono ?_
    rintro e w1 ⟨rfl, rfl⟩
    unfold descV
    go_wp2
    go_ret2
    exact HX.out 64
  | some x =>
    rw [hx] at HF
    have hm := (KS.find_some hx).1
    have c0 := (h.desc hm).thing
    have hpos := h.ok.pos x hm
    have HO := hide (h.pobj hm)
    cases ho : K.tho x with
    | term ls scr =>
      rw [show K.seek d off wh = (0, 66, K) by unfold KS.seek; rw [hx]; simp only; rw [ho]]
      rw [thing_term ho] at c0
      clear h
      go_enter Tryz.func56, Tryz.ntmps56
      go_wp2_with fail
      refine HF.out.mono ?_
      rintro e w1 ⟨rfl, rfl⟩
      unfold descV
      go_wp2_with fail
      refine (fileOf_term (I.cb x.th) _).mono ?_
      rintro e w2 ⟨rfl, rfl⟩
      go_wp2
      go_ret2
      exact HX.out 66
    | pipe q rd wt =>
      rw [show K.seek d off wh = (0, 66, K) by unfold KS.seek; rw [hx]; simp only; rw [ho]]
      rw [thing_pipe ho] at c0
      clear h
      go_enter Tryz.func56, Tryz.ntmps56
      go_wp2_with fail
      refine HF.out.mono ?_
      rintro e w1 ⟨rfl, rfl⟩
      unfold descV
      go_wp2_with fail
      refine (fileOf_pipe (I.ob x.th) _).mono ?_
      rintro e w2 ⟨rfl, rfl⟩
      go_wp2
      go_ret2
      exact HX.out 66
    | file b =>
      rw [thing_file ho] at c0
      rw [ho] at HO
      have hbl := HO.out.1
      obtain ⟨c1, c2, c3, c4⟩ := OFc.cells (h.comp (.ofile x.n) x hm rfl b ho).1
      have HSz := hide (po_fsize _ (I.ob x.th) b w HO.out)
      have HT := hide fun p hp v hv => h.seekTo hm ho p hp v hv
      have hR : ∀ base : Int, base = (if wh = 1 then (x.pos : Int) else if wh = 2 then (b.length : Int) else 0) → 0 ≤ wh → wh ≤ 2 → K.seek d off wh = if 0 ≤ base + off ∧ base + off ≤ 1048576 then (base + off, 0, K.setDe { x with pos := (base + off).toNat }) else (0, 4, K) := by
        intro base hb h1 h2
        subst hb
        unfold KS.seek
        rw [hx]
        simp only
        rw [ho]
        simp only
        rw [if_neg (by omega)]
      by_cases hw : wh < 0 ∨ 2 < wh
      · rw [show K.seek d off wh = (0, 1, K) by unfold KS.seek; rw [hx]; simp only; rw [ho]; simp only; rw [if_pos hw]]
        have q0 : ¬ wh = 0 := by omega
        have q1 : ¬ wh = 1 := by omega
        have q2 : ¬ wh = 2 := by omega
        have r0 : (wh == 0) = false := by simpa using q0
        have r1 : (wh == 1) = false := by simpa using q1
        have r2 : (wh == 2) = false := by simpa using q2
        have s0 : ((0 : Int) == wh) = false := by simp; omega
        have s1 : ((1 : Int) == wh) = false := by simp; omega
        have s2 : ((2 : Int) == wh) = false := by simp; omega
        clear h hR HT
        go_enter Tryz.func56, Tryz.ntmps56
        go_wp2_with fail
        refine HF.out.mono ?_
        rintro e w1 ⟨rfl, rfl⟩
        unfold descV
        go_wp2_with fail
        refine (fileOf_yes (I.xb x.n) _).mono ?_
        rintro e w2 ⟨rfl, rfl⟩
        go_wp2
        go_ret2
        exact HX.out 1
      · obtain ⟨o1, o2⟩ := hoff
        rcases (show wh = 0 ∨ wh = 1 ∨ wh = 2 by omega) with rfl | rfl | rfl
        · have hK := hR (0 : Int) (by simp) (by omega) (by omega)
          by_cases hin : 0 ≤ (0 : Int) + off ∧ (0 : Int) + off ≤ 1048576
          · rw [if_pos hin] at hK
            rw [hK]
            have HD := hide (HT.out ((0 : Int) + off).toNat (by omega) (off) (by omega))
            have t1 : ¬ off < -(0 : Int) := by omega
            have t2 : ¬ 1048576 - (0 : Int) < off := by omega
            have HI := hide hin
            clear h hR HT hK hin
            go_enter Tryz.func56, Tryz.ntmps56
            go_wp2_with fail
            refine HF.out.mono ?_
            rintro e w1 ⟨rfl, rfl⟩
            unfold descV
            go_wp2_with fail
            refine (fileOf_yes (I.xb x.n) _).mono ?_
            rintro e w2 ⟨rfl, rfl⟩
            go_wp2
            go_ret2
            refine ⟨?_, HD.out⟩
            first | rfl | (simp only [Int.zero_add]; rfl)
          · rw [if_neg hin] at hK
            rw [hK]
            clear h hR HT hK
            by_cases t1 : off < -(0 : Int)
            · go_enter Tryz.func56, Tryz.ntmps56
              go_wp2_with fail
              refine HF.out.mono ?_
              rintro e w1 ⟨rfl, rfl⟩
              unfold descV
              go_wp2_with fail
              refine (fileOf_yes (I.xb x.n) _).mono ?_
              rintro e w2 ⟨rfl, rfl⟩
              go_wp2
              go_ret2
              exact HX.out 4
            · have t2 : 1048576 - (0 : Int) < off := by omega
              go_enter Tryz.func56, Tryz.ntmps56
              go_wp2_with fail
              refine HF.out.mono ?_
              rintro e w1 ⟨rfl, rfl⟩
              unfold descV
              go_wp2_with fail
              refine (fileOf_yes (I.xb x.n) _).mono ?_
              rintro e w2 ⟨rfl, rfl⟩
              go_wp2
              go_ret2
              exact HX.out 4
        · have hK := hR (x.pos : Int) (by simp) (by omega) (by omega)
          by_cases hin : 0 ≤ (x.pos : Int) + off ∧ (x.pos : Int) + off ≤ 1048576
          · rw [if_pos hin] at hK
            rw [hK]
            have HD := hide (HT.out ((x.pos : Int) + off).toNat (by omega) ((x.pos : Int) + off) (by omega))
            have t1 : ¬ off < -(x.pos : Int) := by omega
            have t2 : ¬ 1048576 - (x.pos : Int) < off := by omega
            have HI := hide hin
            clear h hR HT hK hin
            go_enter Tryz.func56, Tryz.ntmps56
            go_wp2_with fail
            refine HF.out.mono ?_
            rintro e w1 ⟨rfl, rfl⟩
            unfold descV
            go_wp2_with fail
            refine (fileOf_yes (I.xb x.n) _).mono ?_
            rintro e w2 ⟨rfl, rfl⟩
            go_wp2
            go_ret2
            refine ⟨?_, HD.out⟩
            first | rfl | (simp only [Int.zero_add]; rfl)
          · rw [if_neg hin] at hK
            rw [hK]
            clear h hR HT hK
            by_cases t1 : off < -(x.pos : Int)
            · go_enter Tryz.func56, Tryz.ntmps56
              go_wp2_with fail
              refine HF.out.mono ?_
              rintro e w1 ⟨rfl, rfl⟩
              unfold descV
              go_wp2_with fail
              refine (fileOf_yes (I.xb x.n) _).mono ?_
              rintro e w2 ⟨rfl, rfl⟩
              go_wp2
              go_ret2
              exact HX.out 4
            · have t2 : 1048576 - (x.pos : Int) < off := by omega
              go_enter Tryz.func56, Tryz.ntmps56
              go_wp2_with fail
              refine HF.out.mono ?_
              rintro e w1 ⟨rfl, rfl⟩
              unfold descV
              go_wp2_with fail
              refine (fileOf_yes (I.xb x.n) _).mono ?_
              rintro e w2 ⟨rfl, rfl⟩
              go_wp2
              go_ret2
              exact HX.out 4
        · have hK := hR (b.length : Int) (by simp) (by omega) (by omega)
          by_cases hin : 0 ≤ (b.length : Int) + off ∧ (b.length : Int) + off ≤ 1048576
          · rw [if_pos hin] at hK
            rw [hK]
            have HD := hide (HT.out ((b.length : Int) + off).toNat (by omega) ((b.length : Int) + off) (by omega))
            have t1 : ¬ off < -(b.length : Int) := by omega
            have t2 : ¬ 1048576 - (b.length : Int) < off := by omega
            have HI := hide hin
            clear h hR HT hK hin
            go_enter Tryz.func56, Tryz.ntmps56
            go_wp2_with fail
            refine HF.out.mono ?_
            rintro e w1 ⟨rfl, rfl⟩
            unfold descV
            go_wp2_with fail
            refine (fileOf_yes (I.xb x.n) _).mono ?_
            rintro e w2 ⟨rfl, rfl⟩
            go_wp2_with fail
            refine HSz.out.mono ?_
            rintro e w3 ⟨rfl, rfl⟩
            go_wp2
            go_ret2
            refine ⟨?_, HD.out⟩
            first | rfl | (simp only [Int.zero_add]; rfl)
          · rw [if_neg hin] at hK
            rw [hK]
            clear h hR HT hK
            by_cases t1 : off < -(b.length : Int)
            · go_enter Tryz.func56, Tryz.ntmps56
              go_wp2_with fail
              refine HF.out.mono ?_
              rintro e w1 ⟨rfl, rfl⟩
              unfold descV
              go_wp2_with fail
              refine (fileOf_yes (I.xb x.n) _).mono ?_
              rintro e w2 ⟨rfl, rfl⟩
              go_wp2_with fail
              refine HSz.out.mono ?_
              rintro e w3 ⟨rfl, rfl⟩
              go_wp2
              go_ret2
              exact HX.out 4
            · have t2 : 1048576 - (b.length : Int) < off := by omega
              go_enter Tryz.func56, Tryz.ntmps56
              go_wp2_with fail
              refine HF.out.mono ?_
              rintro e w1 ⟨rfl, rfl⟩
              unfold descV
              go_wp2_with fail
              refine (fileOf_yes (I.xb x.n) _).mono ?_
              rintro e w2 ⟨rfl, rfl⟩
              go_wp2_with fail
              refine HSz.out.mono ?_
              rintro e w3 ⟨rfl, rfl⟩
              go_wp2
              go_ret2
              exact HX.out 4
end Go.Proofs.YtkkommomefmpgaaGreat

/- The program's kernel: Keep, Drop. -/
namespace Go.Proofs.YtkkommomefmpgaaGreat
open Go.RowKit Go.Maps

end Go.Proofs.YtkkommomefmpgaaGreat

/- The program's kernel: Drop, CanRead, CanWrite. -/
namespace Go.Proofs.YtkkommomefmpgaaGreat
open Go.RowKit Go.Maps

end Go.Proofs.YtkkommomefmpgaaGreat

/- The program's kernel: new things and new descriptions. -/
namespace Go.Proofs.YtkkommomefmpgaaGreat
open Go.RowKit Go.Maps

def upd (f : Nat → Nat) (i v : Nat) : Nat → Nat := fun j => if j = i then v else f j
theorem upd_same (f : Nat → Nat) (i v : Nat) : upd f i v i = v := by simp [upd]
theorem upd_other {f : Nat → Nat} {i v j : Nat} (h : j ≠ i) : upd f i v j = f j := by simp [upd, h]
structure More (K K' : KS) (t : Th) : Prop where
  th : K'.th = K.th ++ [t]
  de : K'.de = K.de
  next : K'.next = K.next
  plan : K'.plan = K.plan
  reads : K'.reads = K.reads
  writes : K'.writes = K.writes
theorem More.obOf {K K' : KS} {t : Th} (h : More K K' t) {j : Nat} (hj : j < K.th.length) : K'.obOf j = K.obOf j := by simp [KS.obOf, h.th, List.getElem?_append_left hj]
theorem More.nameOf {K K' : KS} {t : Th} (h : More K K' t) {j : Nat} (hj : j < K.th.length) : K'.nameOf j = K.nameOf j := by simp [KS.nameOf, h.th, List.getElem?_append_left hj]
theorem More.obNew {K K' : KS} {t : Th} (h : More K K' t) : K'.obOf K.th.length = t.ob := by simp [KS.obOf, h.th]
theorem More.nameNew {K K' : KS} {t : Th} (h : More K K' t) : K'.nameOf K.th.length = t.name := by simp [KS.nameOf, h.th]
theorem More.at {K K' : KS} {t : Th} (h : More K K' t) {j : Nat} (hj : j < K.th.length) (hj' : j < K'.th.length) : K'.th[j] = K.th[j] := by simp [h.th, List.getElem_append_left hj]
theorem More.atNew {K K' : KS} {t : Th} (h : More K K' t) (hj' : K.th.length < K'.th.length) : K'.th[K.th.length] = t := by simp [h.th]
theorem PK.more {W W' : World} {ρ : Nat → Option PTag} {I : PI} {K K' : KS} {t : Th} (h : PK W ρ I K) (hM : More K K' t) (p c : Nat) {O' : Nat → Prop} (hO : PObj W' O' p t.ob) (hO' : ∀ k, O' k → W.heap.size ≤ k ∧ k ≠ c)
    (hc : ∀ ls scr, t.ob = .term ls scr → COc W' c p scr.length ∧ W.heap.size ≤ c) (hT : Turned (fun k => ρ k = some .fmap ∨ ρ k = some .tmap) W W') (hok : KOk K') (hnm : KNm K')
    (hf : PMap W' Tryz.prog 9 I.fm (K'.fl { I with ob := upd I.ob K.th.length p, cb := upd I.cb K.th.length c })) (ht : PMap W' Tryz.prog 9 I.tm (K'.tl { I with ob := upd I.ob K.th.length p, cb := upd I.cb K.th.length c })) :
    ∃ ρ', PK W' ρ' { I with ob := upd I.ob K.th.length p, cb := upd I.cb K.th.length c } K' ∧ newTags ρ ρ' W ∧ ∀ k, k < W.heap.size → ρ' k = ρ k := by
  classical
  obtain ⟨ρ', hρ⟩ : ∃ ρ' : Nat → Option PTag, ρ' = fun k => if k < W.heap.size then ρ k else if k < W'.heap.size then (if k = c then some (.cons K.th.length) else if O' k then some (.obj K.th.length) else none) else none := ⟨_, rfl⟩
  have low : ∀ k, k < W.heap.size → ρ' k = ρ k := fun k hlt => by rw [hρ]; simp [hlt]
  have fit : ∀ {k t}, ρ k = some t → ρ' k = some t := fun {k t} e => (low k (h.lt k t e)).trans e
  have back : ∀ {k t}, ρ' k = some t → ρ k = some t ∨ (W.heap.size ≤ k ∧ k < W'.heap.size) := by
    intro k t e
    by_cases hlt : k < W.heap.size
    · rw [low k hlt] at e; exact .inl e
    · rw [hρ] at e
      simp only [if_neg hlt] at e
      split at e
      · exact .inr ⟨by omega, by assumption⟩
      · cases e
  have key : ∀ t, t ≠ .fmap → t ≠ .tmap → PComp W' ρ I K t := fun t h1 h2 => (h.comp t).keep (fun k e hlt => hT.block k hlt (fun e' => by
    rcases e' with e' | e'
    · rw [e'] at e; exact h1 (Option.some.inj e).symm
    · rw [e'] at e; exact h2 (Option.some.inj e).symm)) hT.size
  have hlen : K'.th.length = K.th.length + 1 := by rw [hM.th]; simp
  have hthv : ∀ d ∈ K.de, thingV { I with ob := upd I.ob K.th.length p, cb := upd I.cb K.th.length c } K' d = thingV I K d := by
    intro d hd
    have hlt := h.ok.th d hd
    unfold thingV
    rw [KS.tho_obOf, KS.tho_obOf, hM.obOf hlt]
    simp only [upd_other (Nat.ne_of_lt hlt)]
  refine ⟨ρ', ⟨fun t' => ?_, fun k t e => ?_, hok, hnm⟩, fun k t e => (back e).imp (fun e' => ⟨t, e'⟩) (fun e' => e'.1), low⟩
  · cases t' with
    | kern =>
      obtain ⟨a1, a2, a3⟩ := key .kern (by simp) (by simp)
      refine ⟨?_, fit a2, by rw [hM.next]; exact a3⟩
      rw [hM.reads, hM.writes]
      exact a1
    | fmap => exact ⟨hf, fit (h.comp .fmap).2⟩
    | tmap => exact ⟨ht, fit (h.comp .tmap).2⟩
    | omap =>
      obtain ⟨a1, a2⟩ := key .omap (by simp) (by simp)
      refine ⟨?_, fit a2⟩
      unfold KS.dl at a1 ⊢
      rw [hM.de]
      exact a1
    | plan =>
      obtain ⟨a1, a2, a3⟩ := key .plan (by simp) (by simp)
      refine ⟨?_, fit a2, fun k e => fit (a3 k e)⟩
      rw [hM.plan]
      exact a1
    | obj j =>
      intro hj
      by_cases e : j = K.th.length
      · subst e
        rw [hM.atNew hj]
        simp only [upd_same]
        refine hO.trim.mono fun k ⟨e1, e2⟩ => ?_
        have := hO' k e1
        rw [hρ]
        simp [Nat.not_lt.2 this.1, e2, this.2, e1]
      · have hj' : j < K.th.length := by omega
        rw [hM.at hj' hj]
        simp only [upd_other e]
        exact (key (.obj j) (by simp) (by simp) hj').mono fun k e => fit e
    | cons j =>
      intro hj ls scr e1
      by_cases e : j = K.th.length
      · subst e
        rw [hM.atNew hj] at e1
        obtain ⟨a1, a2⟩ := hc ls scr e1
        simp only [upd_same]
        have hlt : c < W'.heap.size := (Array.getElem?_eq_some_iff.1 a1).1
        exact ⟨a1, by rw [hρ]; simp [Nat.not_lt.2 a2, hlt]⟩
      · have hj' : j < K.th.length := by omega
        rw [hM.at hj' hj] at e1
        simp only [upd_other e]
        obtain ⟨a1, a2⟩ := key (.cons j) (by simp) (by simp) hj' ls scr e1
        exact ⟨a1, fit a2⟩
    | desc n =>
      intro d hd e
      rw [hM.de] at hd
      obtain ⟨a1, a2⟩ := key (.desc n) (by simp) (by simp) d hd e
      exact ⟨by rw [hthv d hd]; exact a1, fit a2⟩
    | ofile n =>
      intro d hd e b hb
      rw [hM.de] at hd
      have hlt := h.ok.th d hd
      rw [KS.tho_obOf, hM.obOf hlt] at hb
      simp only [upd_other (Nat.ne_of_lt hlt)]
      obtain ⟨a1, a2⟩ := key (.ofile n) (by simp) (by simp) d hd e b hb
      exact ⟨a1, fit a2⟩
  · rcases back e with e' | e'
    · exact Nat.lt_of_lt_of_le (h.lt k t e') hT.size
    · exact e'.2
structure Described (w : World) (I : PI) (K : KS) (tv : Value) (flags : Int) (nb : Nat) (w' : World) : Prop where
  new : w.heap.size ≤ nb
  desc : w'.heap[nb]? = some (.cells ([tv, .bool (bit flags 1), .bool (bit flags 2), .int .i64 (1 : Nat)] : List Value).toArray 246 (0, 0))
  kern : w'.heap[I.kb]? = some (.cells ([.bool true, .map (some I.fm), .map (some I.tm), .map (some I.om), .int .i64 ((I.last + 1 : Nat) : Int), .pointer (some ⟨I.pb, 0, none⟩), .int .i64 K.reads, .int .i64 K.writes] : List Value).toArray 96 (0, 0))
  map : PMap w' Tryz.prog 3 I.om ((dkey (I.last + 1), nb) :: K.dl I)
  turned : Turned (fun k => k = I.kb ∨ k = I.om) w w'
theorem PK.newDe {w w' : World} {ρ : Nat → Option PTag} {I : PI} {K : KS} (h : PK w ρ I K) {i : Nat} (hi : i < K.th.length) {flags : Int} (hf : flagsOk flags = true) (hfew : K.de.length < 256) {tv : Value} {nb xb : Nat} (hD : Described w I K tv flags nb w')
    (hx : ∀ b, K.obOf i = .file b → tv = .iface 261 (.pointer (some ⟨xb, 0, none⟩)) ∧ OFc w xb (I.ob i) 0 (bit flags 4) ∧ ρ xb = none)
    (hy : ∀ ls scr, K.obOf i = .term ls scr → tv = .iface 104 (.pointer (some ⟨I.cb i, 0, none⟩)))
    (hz : ∀ q rd wt, K.obOf i = .pipe q rd wt → tv = .iface 271 (.agg #[.pointer (some ⟨I.ob i, 0, none⟩)])) :
    ∃ ρ', PK w' ρ' { I with db := upd I.db K.next nb, xb := upd I.xb K.next xb, last := I.last + 1 } (K.newDe i flags) ∧ (∀ k t, ρ' k = some t → ρ k = some t ∨ k = nb ∨ ((∃ b, K.obOf i = .file b) ∧ k = xb)) ∧ (∀ k t, ρ k = some t → ρ' k = some t) := by
  classical
  have hnx := (h.comp .kern).2.2
  have hkb := (h.comp .kern).2.1
  have hom := (h.comp .omap).2
  obtain ⟨ρ', hρ⟩ : ∃ ρ' : Nat → Option PTag, ρ' = fun k => if k = nb then some (.desc K.next) else if (∃ b, K.obOf i = .file b) ∧ k = xb then some (.ofile K.next) else ρ k := ⟨_, rfl⟩
  have hnb : ∀ {k t}, ρ k = some t → k ≠ nb := fun {k t} e e' => by have := h.lt k t e; have := hD.new; omega
  have fit : ∀ {k t}, ρ k = some t → ρ' k = some t := fun {k t} e => by
    rw [hρ]
    simp only [if_neg (hnb e)]
    rw [if_neg (fun hh => by obtain ⟨⟨b, hb⟩, e'⟩ := hh; rw [e', (hx b hb).2.2] at e; cases e)]
    exact e
  have back : ∀ {k t}, ρ' k = some t → ρ k = some t ∨ k = nb ∨ ((∃ b, K.obOf i = .file b) ∧ k = xb) := fun {k t} e => by
    rw [hρ] at e
    simp only at e
    split at e
    · rename_i hh; exact .inr (.inl hh)
    · split at e
      · rename_i hh; exact .inr (.inr hh)
      · exact .inl e
  have hT := hD.turned
  have key : ∀ t, t ≠ .kern → t ≠ .omap → PComp w' ρ I K t := fun t h1 h2 => (h.comp t).keep (fun k e hlt => hT.block k hlt (fun e' => by
    rcases e' with e' | e'
    · rw [e', hkb] at e; exact h1 (Option.some.inj e).symm
    · rw [e', hom] at e; exact h2 (Option.some.inj e).symm)) hT.size
  have hmem : ∀ d, d ∈ (K.newDe i flags).de → d ∈ K.de ∨ d = ⟨K.next, i, flags, 0, 1⟩ := fun d hd => by
    have : d ∈ K.de ++ [(⟨K.next, i, flags, 0, 1⟩ : De)] := hd
    simpa using this
  have hold : ∀ d ∈ K.de, d.n ≠ K.next := fun d hd => by have := (h.ok.num d hd).2; omega
  have hthv : ∀ d ∈ K.de, thingV { I with db := upd I.db K.next nb, xb := upd I.xb K.next xb, last := I.last + 1 } (K.newDe i flags) d = thingV I K d := by
    intro d hd
    unfold thingV
    rw [show (K.newDe i flags).tho d = K.tho d from rfl]
    simp only [upd_other (hold d hd)]
  have h1n : 1 ≤ K.next := by omega
  refine ⟨ρ', ⟨fun t' => ?_, fun k t e => ?_, ?_, h.nm.same rfl rfl⟩, fun k t e => back e, fun k t e => fit e⟩
  · cases t' with
    | kern => exact ⟨hD.kern, fit hkb, by show K.next + 1 = _; rw [hnx]⟩
    | fmap => obtain ⟨a1, a2⟩ := key .fmap (by simp) (by simp); exact ⟨a1, fit a2⟩
    | tmap => obtain ⟨a1, a2⟩ := key .tmap (by simp) (by simp); exact ⟨a1, fit a2⟩
    | omap =>
      refine ⟨hD.map.perm ?_, fit hom⟩
      unfold KS.dl
      show List.Perm _ (List.map _ (K.de ++ [_]))
      rw [List.map_append]
      simp only [List.map_cons, List.map_nil, upd_same]
      rw [show K.de.map (fun d => (dkey d.n, upd I.db K.next nb d.n)) = K.de.map (fun d => (dkey d.n, I.db d.n)) from List.map_congr_left fun d hd => by rw [upd_other (hold d hd)], hnx]
      exact (List.perm_append_comm (l₁ := [_]) (l₂ := _))
    | plan => obtain ⟨a1, a2, a3⟩ := key .plan (by simp) (by simp); exact ⟨a1, fit a2, fun k e => fit (a3 k e)⟩
    | obj j => exact fun hj => (key (.obj j) (by simp) (by simp) hj).mono fun k e => fit e
    | cons j => exact fun hj ls scr e => by obtain ⟨a1, a2⟩ := key (.cons j) (by simp) (by simp) hj ls scr e; exact ⟨a1, fit a2⟩
    | desc n =>
      intro d hd e
      subst e
      rcases hmem d hd with hd | rfl
      · obtain ⟨a1, a2⟩ := key (.desc d.n) (by simp) (by simp) d hd rfl
        simp only [upd_other (hold d hd)]
        exact ⟨by rw [hthv d hd]; exact a1, fit a2⟩
      · simp only [upd_same]
        refine ⟨?_, by rw [hρ]; simp⟩
        rw [hD.desc]
        have : thingV { I with db := upd I.db K.next nb, xb := upd I.xb K.next xb, last := I.last + 1 } (K.newDe i flags) ⟨K.next, i, flags, 0, 1⟩ = tv := by
          unfold thingV
          rw [show (K.newDe i flags).tho ⟨K.next, i, flags, 0, 1⟩ = K.obOf i from rfl]
          cases ho : K.obOf i with
          | file b => simp only [upd_same]; exact (hx b ho).1.symm
          | term ls scr => exact (hy ls scr ho).symm
          | pipe q rd wt => exact (hz q rd wt ho).symm
        rw [this]
    | ofile n =>
      intro d hd e b hb
      subst e
      rcases hmem d hd with hd | rfl
      · obtain ⟨a1, a2⟩ := key (.ofile d.n) (by simp) (by simp) d hd rfl b hb
        simp only [upd_other (hold d hd)]
        exact ⟨a1, fit a2⟩
      · simp only [upd_same]
        have hb' : K.obOf i = .file b := hb
        obtain ⟨a1, a2, a3⟩ := hx b hb'
        have hlt : xb < w.heap.size := (Array.getElem?_eq_some_iff.1 a2).1
        refine ⟨(hT.block xb hlt (fun e => ?_)).trans a2, ?_⟩
        · rcases e with e | e
          · rw [e, hkb] at a3; cases a3
          · rw [e, hom] at a3; cases a3
        · rw [hρ]
          have : xb ≠ nb := by have := hD.new; omega
          simp [this, hb']
  · rcases back e with e' | rfl | ⟨⟨b, hb⟩, rfl⟩
    · exact Nat.lt_of_lt_of_le (h.lt k t e') hT.size
    · exact (Array.getElem?_eq_some_iff.1 hD.desc).1
    · exact Nat.lt_of_lt_of_le (Array.getElem?_eq_some_iff.1 (hx b hb).2.1).1 hT.size
  · refine ⟨by show (K.de ++ [_]).length ≤ 256; simp; omega, h.ok.named, fun d hd => ?_, h.ok.nm, fun d hd => ?_, fun d hd d' hd' e => ?_, fun d hd => ?_, fun d hd => ?_, fun d hd => ?_, h.ok.plan⟩
    · rcases hmem d hd with hd | rfl
      · exact h.ok.th d hd
      · exact hi
    · rcases hmem d hd with hd | rfl
      · have := h.ok.num d hd; exact ⟨this.1, by show d.n < K.next + 1; omega⟩
      · exact ⟨h1n, by show K.next < K.next + 1; omega⟩
    · rcases hmem d hd with hd | rfl <;> rcases hmem d' hd' with hd' | rfl
      · exact h.ok.once d hd d' hd' e
      · exact absurd e (hold d hd)
      · exact absurd e.symm (hold d' hd')
      · rfl
    · rcases hmem d hd with hd | rfl
      · exact h.ok.flags d hd
      · exact hf
    · rcases hmem d hd with hd | rfl
      · exact h.ok.pos d hd
      · exact Nat.zero_le _
    · rcases hmem d hd with hd | rfl
      · exact h.ok.held d hd
      · exact ⟨Nat.le_refl _, by show (1 : Nat) ≤ 1024; omega⟩
end Go.Proofs.YtkkommomefmpgaaGreat

/- The program's kernel: describe. -/
namespace Go.Proofs.YtkkommomefmpgaaGreat
open Go.RowKit Go.Maps

set_option maxRecDepth 100000 in
set_option maxHeartbeats 2000000 in
theorem describe_any (ρ : Nat → Option PTag) (I : PI) (K : KS) (tT : TypeId) (tu : Value) (flags : Int) (w : World) (h : PK w ρ I K) (hl : I.last + 1 < 9223372036854775807) :
    Calls Tryz.prog 135 #[.pointer (some ⟨I.kb, 0, none⟩), .iface tT tu, .int .i64 flags] w fun e w' => e = .returned (.int .i64 ((I.last + 1 : Nat) : Int)) ∧ ∃ nb, Described w I K (.iface tT tu) flags nb w' := by
  have c3 := h.cells.opens
  have c4 := h.cells.last
  have c4s : w.frozen? ⟨I.kb, 4, none⟩ = false := frozen_of_row w I.kb 4 _ _ (h.comp .kern).1
  have hb := (h.comp .kern).1
  have hT1 := (Turned.refl (fun k => k = I.kb) w).set (g := I.kb) (j := 4) (u := .int .i64 ((I.last : Int) + 1)) (.inl rfl)
  have b1 : (w.setCell ⟨I.kb, 4, none⟩ (.int .i64 ((I.last : Int) + 1))).heap[I.kb]? = some (.cells ([.bool true, .map (some I.fm), .map (some I.tm), .map (some I.om), .int .i64 ((I.last + 1 : Nat) : Int), .pointer (some ⟨I.pb, 0, none⟩), .int .i64 K.reads, .int .i64 K.writes] : List Value).toArray 96 (0, 0)) := by
    rw [heap_setCell_same 4 _ hb]; rfl
  have d3 : (w.setCell ⟨I.kb, 4, none⟩ (.int .i64 ((I.last : Int) + 1))).cell? ⟨I.kb, 3, none⟩ = some (.map (some I.om)) := by rw [cell_of_row _ I.kb _ _ _ _ b1]; rfl
  have d4 : (w.setCell ⟨I.kb, 4, none⟩ (.int .i64 ((I.last : Int) + 1))).cell? ⟨I.kb, 4, none⟩ = some (.int .i64 ((I.last : Int) + 1)) := by rw [cell_of_row _ I.kb _ _ _ _ b1]; rfl
  have hsz : (w.setCell ⟨I.kb, 4, none⟩ (.int .i64 ((I.last : Int) + 1))).heap.size = w.heap.size := heap_set_size _ _ _ _
  have hkb := h.lt _ _ (h.comp .kern).2.1
  have hom := h.lt _ _ (h.comp .omap).2
  have hne : I.om ≠ I.kb := fun e => by have := (h.comp .omap).2; rw [e, (h.comp .kern).2.1] at this; cases this
  have hfew := h.ok.few
  have hmap : PMap ((w.setCell ⟨I.kb, 4, none⟩ (.int .i64 ((I.last : Int) + 1))).drew.alloc (Obj.cells #[.iface tT tu, .bool (bit flags 1), .bool (bit flags 2), .int .i64 1] 246)) Tryz.prog 3 I.om (K.dl I) := by
    refine (h.comp .omap).1.keep ?_
    rw [Below.heap_alloc _ _ I.om (by show I.om < (w.setCell ⟨I.kb, 4, none⟩ (.int .i64 ((I.last : Int) + 1))).heap.size; omega)]
    exact hT1.block _ hom hne
  have hnew : ∀ p ∈ K.dl I, p.1 ≠ dkey (I.last + 1) := fun p hp e => by
    obtain ⟨d, hd, rfl⟩ := List.mem_map.1 hp
    have := (h.ok.num d hd).2
    have := (h.comp .kern).2.2
    simp only [dkey, Lit.int.injEq] at e
    omega
  obtain ⟨w', hrun, hm', hmt⟩ := hmap.store ikeyed Tryz.underlying93 (by show (K.dl I).length < maxLen; unfold KS.dl maxLen; simp; omega) (key := .int .i64 ((I.last : Int) + 1)) (kl := dkey (I.last + 1)) w.heap.size (by rw [show (dkey (I.last + 1)) = Lit.int .i64 ((I.last : Int) + 1) by simp [dkey]]; exact int_key _ (I64.wf ⟨by omega, by omega⟩)) hnew
  have hB2 : Below w.heap.size (w.setCell ⟨I.kb, 4, none⟩ (.int .i64 ((I.last : Int) + 1))) ((w.setCell ⟨I.kb, 4, none⟩ (.int .i64 ((I.last : Int) + 1))).drew.alloc (Obj.cells #[.iface tT tu, .bool (bit flags 1), .bool (bit flags 2), .int .i64 1] 246)) := (Below.refl _ _).drew.trans ((recv_below _ _).mono (by show w.heap.size ≤ (w.setCell ⟨I.kb, 4, none⟩ (.int .i64 ((I.last : Int) + 1))).heap.size; omega))
  have hT2 := mapTurned_turned hmt
  have HD : Hid (Described w I K (.iface tT tu) flags w.heap.size w') := hide (by
    have hlt2 : w.heap.size < ((w.setCell ⟨I.kb, 4, none⟩ (.int .i64 ((I.last : Int) + 1))).drew.alloc (Obj.cells #[.iface tT tu, .bool (bit flags 1), .bool (bit flags 2), .int .i64 1] 246)).heap.size := by
      have := size_new (w.setCell ⟨I.kb, 4, none⟩ (.int .i64 ((I.last : Int) + 1))).drew (Obj.cells #[.iface tT tu, .bool (bit flags 1), .bool (bit flags 2), .int .i64 1] 246)
      rw [← hsz]; exact this
    refine ⟨Nat.le_refl _, ?_, ?_, hm', ?_⟩
    · rw [hT2.block _ hlt2 (by omega)]
      have := heap_alloc_new (w.setCell ⟨I.kb, 4, none⟩ (.int .i64 ((I.last : Int) + 1))).drew (Obj.cells #[.iface tT tu, .bool (bit flags 1), .bool (bit flags 2), .int .i64 1] 246)
      rw [show (w.setCell ⟨I.kb, 4, none⟩ (.int .i64 ((I.last : Int) + 1))).drew.heap.size = w.heap.size from hsz] at this
      exact this
    · rw [hT2.block _ (by omega) (Ne.symm hne), hB2.block _ hkb]
      exact b1
    · exact ((hT1.mono fun k e => Or.inl e).trans (Turned.of_below (S := fun k => k = I.kb ∨ k = I.om) (hB2.mono (by omega))) (fun _ _ e => e)).trans (hT2.mono fun k e => Or.inr e) (fun _ _ e => e))
  have e3 := (hB2.cell (p := ⟨I.kb, 3, none⟩) hkb).trans d3
  have e4 := (hB2.cell (p := ⟨I.kb, 4, none⟩) hkb).trans d4
  have HF : Hid (w'.cell? ⟨I.kb, 4, none⟩ = some (.int .i64 ((I.last : Int) + 1))) := hide (hT2.cell e4 (Ne.symm hne))
  have hrun' : (Instr.mapUpdate 93 (.map (some I.om)) (.int .i64 ((I.last : Int) + 1)) (.pointer (some ⟨w.heap.size, 0, none⟩))).run Tryz.prog (((w.setCell ⟨I.kb, 4, none⟩ (.int .i64 ((I.last : Int) + 1))).alloc (Obj.cells #[.iface tT tu, .bool (bits .and .i64 flags 1 != 0), .bool (bits .and .i64 flags 2 != 0), .int .i64 1] 246)).drew) = .ok () w' := hrun
  have hF := HF.out
  clear hrun e3 e4 HF
  clear hB2 hT2 hmt hm' hmap hT1 h hb b1
  go_enter Tryz.func135, Tryz.ntmps135
  go_wp2_with fail
  go_region
  go_wp2
  go_ret
  exact ⟨by go_num, _, HD.out⟩
end Go.Proofs.YtkkommomefmpgaaGreat

/- The program's kernel: new files. -/
namespace Go.Proofs.YtkkommomefmpgaaGreat
open Go.RowKit Go.Maps

theorem more_addTh (K : KS) (t : Th) : More K (K.addTh t) t := ⟨rfl, rfl, rfl, rfl, rfl, rfl⟩
theorem addTh_nm (K : KS) (t : Th) : (K.addTh t).nm = insN (K.addTh t).nameOf K.th.length K.nm := rfl
theorem KOk.addTh {K : KS} (h : KOk K) (t : Th) (hl : K.nm.length < 256) : KOk (K.addTh t) := by
  have hlen : (K.addTh t).th.length = K.th.length + 1 := by show (K.th ++ [t]).length = _; simp
  refine ⟨h.few, ?_, fun d hd => by have := h.th d hd; omega, fun i hi => ?_, h.num, h.once, h.flags, h.pos, h.held, h.plan⟩
  · rw [addTh_nm, (insN_perm _ _ _).length_eq]; simp; omega
  · rw [addTh_nm] at hi
    rcases mem_insN.1 hi with rfl | hi
    · omega
    · have := h.nm i hi; omega
theorem KNm.addTh {K : KS} (h : KNm K) (hok : KOk K) (t : Th) (hk : t.ob.kind = 1 ∨ t.ob.kind = 2) (hn : nameOk t.name = true) (hnew : ∀ i ∈ K.nm, K.nameOf i ≠ t.name) : KNm (K.addTh t) := by
  have hM := more_addTh K t
  refine ⟨?_, fun i hi => ?_, fun i hi e => ?_, fun i hi => ?_⟩
  · rw [addTh_nm]
    refine insN_sorted ?_ fun j hj => ?_
    · refine h.sorted.imp_of_mem fun {a b} ha hb hab => ?_
      rw [hM.nameOf (hok.nm a ha), hM.nameOf (hok.nm b hb)]
      exact hab
    · rw [hM.nameOf (hok.nm j hj), hM.nameNew]
      exact hnew j hj
  · rw [addTh_nm] at hi
    rcases mem_insN.1 hi with rfl | hi
    · rw [hM.obNew]; exact hk
    · rw [hM.obOf (hok.nm i hi)]; exact h.kind i hi
  · rw [addTh_nm]
    rw [show (K.addTh t).th.length = K.th.length + 1 by show (K.th ++ [t]).length = _; simp] at hi
    by_cases e' : i = K.th.length
    · exact mem_insN.2 (.inl e')
    · have hlt : i < K.th.length := by omega
      rw [hM.obOf hlt] at e
      exact mem_insN.2 (.inr (h.all i hlt e))
  · rw [addTh_nm] at hi
    rcases mem_insN.1 hi with rfl | hi
    · rw [hM.nameNew]; exact hn
    · rw [hM.nameOf (hok.nm i hi)]; exact h.ok i hi
theorem idx_addTh (K : KS) (hok : KOk K) (t : Th) (c : Int) : ((K.addTh t).nm.filter fun i => ((K.addTh t).obOf i).kind == c).Perm (if t.ob.kind == c then K.th.length :: K.nm.filter (fun i => (K.obOf i).kind == c) else K.nm.filter fun i => (K.obOf i).kind == c) := by
  have hM := more_addTh K t
  rw [addTh_nm]
  refine ((insN_perm _ _ _).filter _).trans ?_
  have e1 : K.nm.filter (fun i => ((K.addTh t).obOf i).kind == c) = K.nm.filter fun i => (K.obOf i).kind == c := List.filter_congr fun i hi => by rw [hM.obOf (hok.nm i hi)]
  rw [List.filter_cons, hM.obNew, e1]
theorem map_old {K : KS} (hok : KOk K) {K' : KS} {t : Th} (hM : More K K' t) (f : Nat → Nat) (v : Nat) (q : Nat → Bool) : (K.nm.filter q).map (fun i => (nkey (K'.nameOf i), upd f K.th.length v i)) = (K.nm.filter q).map fun i => (nkey (K.nameOf i), f i) := by
  refine List.map_congr_left fun i hi => ?_
  have hlt := hok.nm i (List.mem_filter.1 hi).1
  rw [hM.nameOf hlt, upd_other (Nat.ne_of_lt hlt)]
theorem fl_addFile (K : KS) (hok : KOk K) (I : PI) (s : ByteArray) (b : List UInt8) (p c : Nat) : ((K.addTh ⟨s, .file b⟩).fl { I with ob := upd I.ob K.th.length p, cb := upd I.cb K.th.length c }).Perm ((nkey s, p) :: K.fl I) ∧ ((K.addTh ⟨s, .file b⟩).tl { I with ob := upd I.ob K.th.length p, cb := upd I.cb K.th.length c }).Perm (K.tl I) := by
  have hM := more_addTh K ⟨s, .file b⟩
  constructor
  · refine ((idx_addTh K hok ⟨s, .file b⟩ 1).map _).trans ?_
    rw [if_pos (by rfl), List.map_cons, hM.nameNew]
    simp only [upd_same]
    rw [map_old hok hM]
    exact List.Perm.refl _
  · refine ((idx_addTh K hok ⟨s, .file b⟩ 2).map _).trans ?_
    rw [if_neg (by show ¬ (((1 : Int) == 2) = true); decide)]
    simp only
    rw [map_old hok hM]
    exact List.Perm.refl _
theorem fl_addTerm (K : KS) (hok : KOk K) (I : PI) (s : ByteArray) (ls : List (List UInt8)) (scr : List UInt8) (p c : Nat) : ((K.addTh ⟨s, .term ls scr⟩).fl { I with ob := upd I.ob K.th.length p, cb := upd I.cb K.th.length c }).Perm (K.fl I) ∧ ((K.addTh ⟨s, .term ls scr⟩).tl { I with ob := upd I.ob K.th.length p, cb := upd I.cb K.th.length c }).Perm ((nkey s, c) :: K.tl I) := by
  have hM := more_addTh K ⟨s, .term ls scr⟩
  constructor
  · refine ((idx_addTh K hok ⟨s, .term ls scr⟩ 1).map _).trans ?_
    rw [if_neg (by show ¬ (((2 : Int) == 1) = true); decide)]
    simp only
    rw [map_old hok hM]
    exact List.Perm.refl _
  · refine ((idx_addTh K hok ⟨s, .term ls scr⟩ 2).map _).trans ?_
    rw [if_pos (by rfl), List.map_cons, hM.nameNew]
    simp only [upd_same]
    rw [map_old hok hM]
    exact List.Perm.refl _
theorem name_size {s : ByteArray} (h : nameOk s = true) : s.size ≤ 64 := by
  unfold nameOk at h
  simp at h
  exact h.2.1
def Added (ρ : Nat → Option PTag) (I : PI) (K' : KS) (w : World) (n p c : Nat) (w' : World) : Prop :=
  ∃ ρ', PK w' ρ' { I with ob := upd I.ob n p, cb := upd I.cb n c } K' ∧ newTags ρ ρ' w ∧ (∀ k, k < w.heap.size → ρ' k = ρ k) ∧ Turned (Own ρ) w w'
theorem nkey_inj {a b : ByteArray} (h : nkey a = nkey b) : a = b := Go.WideShapes.bytes_inj (by simpa [nkey] using h)
theorem mem_names {K : KS} {I : PI} {s : ByteArray} (hnew : ∀ i ∈ K.nm, K.nameOf i ≠ s) : (∀ q ∈ K.fl I, q.1 ≠ nkey s) ∧ ∀ q ∈ K.tl I, q.1 ≠ nkey s := by
  constructor
  · intro q hq e
    obtain ⟨i, hi, rfl⟩ := List.mem_map.1 hq
    exact hnew i (List.mem_filter.1 hi).1 (nkey_inj e)
  · intro q hq e
    obtain ⟨i, hi, rfl⟩ := List.mem_map.1 hq
    exact hnew i (List.mem_filter.1 hi).1 (nkey_inj e)
theorem fl_len {K : KS} {I : PI} (hok : KOk K) : (K.fl I).length ≤ 256 ∧ (K.tl I).length ≤ 256 := by
  have := hok.named
  constructor
  · have := List.length_filter_le (fun i => (K.obOf i).kind == 1) K.nm
    unfold KS.fl KS.fidx; simp; omega
  · have := List.length_filter_le (fun i => (K.obOf i).kind == 2) K.nm
    unfold KS.tl KS.tidx; simp; omega
set_option maxRecDepth 100000 in
set_option maxHeartbeats 2000000 in
theorem newFile_any (ρ : Nat → Option PTag) (I : PI) (K : KS) (s : ByteArray) (v : Value) (b : List UInt8) (w : World) (h : PK w ρ I K) (hv : Bys w v b) (hb : b.length ≤ 1048576) (hs : nameOk s = true) (hnew : ∀ i ∈ K.nm, K.nameOf i ≠ s) (hl : K.nm.length < 256) :
    Calls Tryz.prog 37 #[.pointer (some ⟨I.kb, 0, none⟩), .string s, v] w fun e w' => ∃ p, e = .returned (.pointer (some ⟨p, 0, none⟩)) ∧ Added ρ I (K.addTh ⟨s, .file b⟩) w K.th.length p I.fm w' := by
  have HN := hide (po_new_file v b w hv hb)
  have HK := hide h
  clear h hv
  go_enter Tryz.func37, Tryz.ntmps37
  go_wp2_with fail
  refine HN.out.mono ?_
  rintro e w1 ⟨p, rfl, hO, hB⟩
  have hP1 := HK.out.under hB
  have c1 := hP1.cells.files
  have hfm := (hP1.comp .fmap)
  obtain ⟨w2, hrun, hm2, hmt⟩ := hfm.1.store skeyed Tryz.underlying91 (by have := (fl_len (I := I) HK.out.ok).1; unfold maxLen; omega) (key := .string s) p (string_key s (by have := name_size hs; unfold maxLen; omega)) (mem_names hnew).1
  have HA : Hid (Added ρ I (K.addTh ⟨s, .file b⟩) w K.th.length p I.fm w2) := hide (by
    have hT2 := mapTurned_turned hmt
    have hfl := fl_addFile K HK.out.ok I s b p I.fm
    have hfmlt := HK.out.lt _ _ (HK.out.comp .fmap).2
    have htm : I.tm ≠ I.fm := fun e => by have := (HK.out.comp .tmap).2; rw [e, (HK.out.comp .fmap).2] at this; cases this
    have hTw : Turned (fun k => ρ k = some .fmap ∨ ρ k = some .tmap) w w2 := (Turned.of_below hB).trans (hT2.mono fun k e => by rw [e]; exact .inl (HK.out.comp .fmap).2) (fun _ _ e => e)
    obtain ⟨ρ', a1, a2, a3⟩ := HK.out.more (more_addTh K ⟨s, .file b⟩) p I.fm (W' := w2) (O' := fun k => w.heap.size ≤ k ∧ k < w1.heap.size) (hO.keep (fun k e hlt => hT2.block k hlt (by omega)) hT2.size) (fun k e => ⟨e.1, by omega⟩) (fun ls scr e => by cases e) hTw
      (HK.out.ok.addTh _ hl) (HK.out.nm.addTh HK.out.ok _ (.inl rfl) hs hnew) (hm2.perm hfl.1.symm)
      (((hP1.comp .tmap).1.keep (hT2.block _ (hP1.lt _ _ (hP1.comp .tmap).2) htm)).perm hfl.2.symm)
    exact ⟨ρ', a1, a2, a3, hTw.mono fun k e => by
      rcases e with e | e
      · exact ⟨_, e⟩
      · exact ⟨_, e⟩⟩)
  clear hP1 hfm hm2 hmt hO
  go_wp2
  go_ret
  exact ⟨p, rfl, HA.out⟩
end Go.Proofs.YtkkommomefmpgaaGreat

/- The program's kernel: thingFor. -/
namespace Go.Proofs.YtkkommomefmpgaaGreat
open Go.RowKit Go.Maps

theorem byName_some {K : KS} {s : ByteArray} {i : Nat} (h : K.byName s = some i) : i ∈ K.nm ∧ K.nameOf i = s := by
  unfold KS.byName at h
  exact ⟨List.mem_of_find?_eq_some h, by simpa using List.find?_some h⟩
theorem byName_none {K : KS} {s : ByteArray} (h : K.byName s = none) : ∀ i ∈ K.nm, K.nameOf i ≠ s := by
  unfold KS.byName at h
  intro i hi
  simpa using List.find?_eq_none.1 h i hi
theorem KNm.inj {K : KS} (h : KNm K) {i j : Nat} (hi : i ∈ K.nm) (hj : j ∈ K.nm) (e : K.nameOf i = K.nameOf j) : i = j := by
  obtain ⟨a, ha, rfl⟩ := List.getElem_of_mem hi
  obtain ⟨b, hb, rfl⟩ := List.getElem_of_mem hj
  have hp := List.pairwise_iff_getElem.1 h.sorted
  rcases Nat.lt_trichotomy a b with hab | hab | hab
  · exact absurd e (nlt_ne (hp a b ha hb hab))
  · subst hab; rfl
  · exact absurd e.symm (nlt_ne (hp b a hb ha hab))
theorem zero_file (w : World) : (zeroValue 97).run Tryz.prog w = .ok (.pointer none) w := by kernel_rfl
theorem zero_cons (w : World) : (zeroValue 104).run Tryz.prog w = .ok (.pointer none) w := by kernel_rfl
theorem look_file {w : World} {ρ : Nat → Option PTag} {I : PI} {K : KS} (h : PK w ρ I K) {s : ByteArray} (hs : s.size ≤ maxLen) {i : Nat} (hi : i ∈ K.nm) (hn : K.nameOf i = s) (hk : (K.obOf i).kind = 1) (c : Bool) :
    (Instr.lookup 91 (.map (some I.fm)) (.string s) c).run Tryz.prog w = .ok (if c then .tuple #[.pointer (some ⟨I.ob i, 0, none⟩), .bool true] else .pointer (some ⟨I.ob i, 0, none⟩)) w :=
  (h.comp .fmap).1.hit skeyed Tryz.underlying91 (zero_file w) (string_key s hs) (g := I.ob i) (List.mem_map.2 ⟨i, List.mem_filter.2 ⟨hi, by simp [hk]⟩, by rw [hn]⟩) c
theorem look_term {w : World} {ρ : Nat → Option PTag} {I : PI} {K : KS} (h : PK w ρ I K) {s : ByteArray} (hs : s.size ≤ maxLen) {i : Nat} (hi : i ∈ K.nm) (hn : K.nameOf i = s) (hk : (K.obOf i).kind = 2) (c : Bool) :
    (Instr.lookup 92 (.map (some I.tm)) (.string s) c).run Tryz.prog w = .ok (if c then .tuple #[.pointer (some ⟨I.cb i, 0, none⟩), .bool true] else .pointer (some ⟨I.cb i, 0, none⟩)) w :=
  (h.comp .tmap).1.hit skeyed Tryz.underlying92 (zero_cons w) (string_key s hs) (g := I.cb i) (List.mem_map.2 ⟨i, List.mem_filter.2 ⟨hi, by simp [hk]⟩, by rw [hn]⟩) c
theorem miss_file {w : World} {ρ : Nat → Option PTag} {I : PI} {K : KS} (h : PK w ρ I K) {s : ByteArray} (hs : s.size ≤ maxLen) (hn : ∀ i ∈ K.nm, (K.obOf i).kind = 1 → K.nameOf i ≠ s) (c : Bool) :
    (Instr.lookup 91 (.map (some I.fm)) (.string s) c).run Tryz.prog w = .ok (if c then .tuple #[.pointer none, .bool false] else .pointer none) w :=
  (h.comp .fmap).1.miss skeyed Tryz.underlying91 (zero_file w) (string_key s hs) (fun p hp e => by
    obtain ⟨i, hi, rfl⟩ := List.mem_map.1 hp
    have := List.mem_filter.1 hi
    exact hn i this.1 (by simpa using this.2) (nkey_inj e)) c
theorem miss_term {w : World} {ρ : Nat → Option PTag} {I : PI} {K : KS} (h : PK w ρ I K) {s : ByteArray} (hs : s.size ≤ maxLen) (hn : ∀ i ∈ K.nm, (K.obOf i).kind = 2 → K.nameOf i ≠ s) (c : Bool) :
    (Instr.lookup 92 (.map (some I.tm)) (.string s) c).run Tryz.prog w = .ok (if c then .tuple #[.pointer none, .bool false] else .pointer none) w :=
  (h.comp .tmap).1.miss skeyed Tryz.underlying92 (zero_cons w) (string_key s hs) (fun p hp e => by
    obtain ⟨i, hi, rfl⟩ := List.mem_map.1 hp
    have := List.mem_filter.1 hi
    exact hn i this.1 (by simpa using this.2) (nkey_inj e)) c
theorem split_len (f : Nat → Int) : ∀ l : List Nat, (∀ i ∈ l, f i = 1 ∨ f i = 2) → (l.filter fun i => f i == 1).length + (l.filter fun i => f i == 2).length = l.length
  | [], _ => rfl
  | a :: r, h => by
    have ih := split_len f r fun i hi => h i (by simp [hi])
    rcases h a (by simp) with e | e
    · rw [List.filter_cons_of_pos (by simp [e]), List.filter_cons_of_neg (by simp [e])]; simp; omega
    · rw [List.filter_cons_of_neg (by simp [e]), List.filter_cons_of_pos (by simp [e])]; simp; omega
theorem names_len {K : KS} (I : PI) (h : KNm K) : (K.fl I).length + (K.tl I).length = K.nm.length := by
  have := split_len (fun i => (K.obOf i).kind) K.nm h.kind
  unfold KS.fl KS.tl KS.fidx KS.tidx
  simpa using this
structure Fits (w : World) (ρ : Nat → Option PTag) (I : PI) (K : KS) (i : Nat) (flags : Int) (tv : Value) (xb : Nat) : Prop where
  lt : i < K.th.length
  file : ∀ b, K.obOf i = .file b → tv = .iface 261 (.pointer (some ⟨xb, 0, none⟩)) ∧ OFc w xb (I.ob i) 0 (bit flags 4) ∧ ρ xb = none
  term : ∀ ls scr, K.obOf i = .term ls scr → tv = .iface 104 (.pointer (some ⟨I.cb i, 0, none⟩))
  pipe : ∀ q rd wt, K.obOf i = .pipe q rd wt → tv = .iface 271 (.agg #[.pointer (some ⟨I.ob i, 0, none⟩)])
def TFor (ρ : Nat → Option PTag) (I : PI) (w : World) (K' : KS) (i : Nat) (flags : Int) (e : Ending) (w' : World) : Prop :=
  ∃ tT tu xb ρ' I', e = .returned (.tuple #[.iface tT tu, .int .i64 0]) ∧ PK w' ρ' I' K' ∧ I'.kb = I.kb ∧ I'.last = I.last ∧ newTags ρ ρ' w ∧ Turned (Own ρ) w w' ∧ Fits w' ρ' I' K' i flags (.iface tT tu) xb ∧ ((∃ b, K'.obOf i = .file b) → w.heap.size ≤ xb)
theorem TFor.term {ρ : Nat → Option PTag} {I : PI} {w : World} {K : KS} {i : Nat} {flags : Int} {ls : List (List UInt8)} {scr : List UInt8} (h : PK w ρ I K) (hi : i < K.th.length) (ho : K.obOf i = .term ls scr) : TFor ρ I w (K.cut i flags) i flags (.returned (.tuple #[.iface 104 (.pointer (some ⟨I.cb i, 0, none⟩)), .int .i64 0])) w := by
  have : K.cut i flags = K := by unfold KS.cut; rw [ho]; split <;> rfl
  rw [this]
  exact ⟨_, _, 0, ρ, I, rfl, h, rfl, rfl, newTags.refl _ _, Turned.refl _ _, ⟨hi, fun b e => (by rw [ho] at e; cases e), fun _ _ _ => rfl, fun q rd wt e => (by rw [ho] at e; cases e)⟩, fun ⟨b, e⟩ => (by rw [ho] at e; cases e)⟩
theorem TFor.file {ρ ρ' : Nat → Option PTag} {I I' : PI} {w w1 : World} {K' : KS} {i : Nat} {flags : Int} {b : List UInt8} (h : PK w1 ρ' I' K') (hk : I'.kb = I.kb) (hl : I'.last = I.last) (hn : newTags ρ ρ' w) (hT : Turned (Own ρ) w w1) (hi : i < K'.th.length) (ho : K'.obOf i = .file b) {w2 : World}
    (hw : w2 = w1.alloc (Obj.cells #[.pointer (some ⟨I'.ob i, 0, none⟩), .int .i64 0, .bool (bit flags 4)] 265)) :
    TFor ρ I w K' i flags (.returned (.tuple #[.iface 261 (.pointer (some ⟨w1.heap.size, 0, none⟩)), .int .i64 0])) w2 := by
  subst hw
  have hB := recv_below w1 (Obj.cells #[.pointer (some ⟨I'.ob i, 0, none⟩), .int .i64 0, .bool (bit flags 4)] 265)
  refine ⟨_, _, w1.heap.size, ρ', I', rfl, h.under hB, hk, hl, hn, hT.trans (Turned.of_below (S := Own ρ) hB) (fun _ _ e => e), ⟨hi, fun b' _ => ⟨rfl, heap_alloc_new _ _, ?_⟩, fun ls scr e => (by rw [ho] at e; cases e), fun q rd wt e => (by rw [ho] at e; cases e)⟩, fun _ => hT.size⟩
  cases hr : ρ' w1.heap.size with
  | none => rfl
  | some t => have := h.lt _ _ hr; omega
end Go.Proofs.YtkkommomefmpgaaGreat

/- The program's kernel: thingFor, walked. -/
namespace Go.Proofs.YtkkommomefmpgaaGreat
open Go.RowKit Go.Maps

def TNo (w : World) (E : Int) (e : Ending) (w' : World) : Prop := ∃ v, e = .returned (.tuple #[v, .int .i64 E]) ∧ Below w.heap.size w w'
set_option maxRecDepth 100000 in
set_option maxHeartbeats 2000000 in
theorem for_exist (ρ : Nat → Option PTag) (I : PI) (K : KS) (s : ByteArray) (flags : Int) (i : Nat) (w : World) (h : PK w ρ I K) (hs : s.size ≤ maxLen) (hN : K.byName s = some i) (hx : fbit flags 32 ≠ 0) :
    Calls Tryz.prog 134 #[.pointer (some ⟨I.kb, 0, none⟩), .string s, .int .i64 flags] w (TNo w 63) := by
  obtain ⟨hi, hn⟩ := byName_some hN
  have c1 := h.cells.files
  have c2 := h.cells.terms
  have x1 : (fbit flags 32 == 0) = false := by simpa using hx
  have x2 : (fbit flags 32 != 0) = true := by simpa using hx
  rcases h.nm.kind i hi with hk | hk
  · have l1 := look_file h hs hi hn hk true
    have l2 := miss_term h hs (fun j hj hkj e => by have := h.nm.inj hj hi (e.trans hn.symm); rw [this, hk] at hkj; cases hkj) true
    simp only [if_true] at l1 l2
    clear h
    go_enter Tryz.func134, Tryz.ntmps134
    go_wp2
    go_ret2
    exact ⟨_, rfl, Below.refl _ _⟩
  · have l1 := look_term h hs hi hn hk true
    have l2 := miss_file h hs (fun j hj hkj e => by have := h.nm.inj hj hi (e.trans hn.symm); rw [this, hk] at hkj; cases hkj) true
    simp only [if_true] at l1 l2
    clear h
    go_enter Tryz.func134, Tryz.ntmps134
    go_wp2
    go_ret2
    exact ⟨_, rfl, Below.refl _ _⟩
set_option maxRecDepth 100000 in
set_option maxHeartbeats 2000000 in
theorem for_none (ρ : Nat → Option PTag) (I : PI) (K : KS) (s : ByteArray) (flags : Int) (w : World) (h : PK w ρ I K) (hs : s.size ≤ maxLen) (hN : K.byName s = none) (hx : fbit flags 8 = 0) :
    Calls Tryz.prog 134 #[.pointer (some ⟨I.kb, 0, none⟩), .string s, .int .i64 flags] w (TNo w 62) := by
  have hn := byName_none hN
  have c1 := h.cells.files
  have c2 := h.cells.terms
  have x1 : (fbit flags 8 == 0) = true := by simpa using hx
  have l1 := miss_file h hs (fun j hj _ => hn j hj) true
  have l2 := miss_term h hs (fun j hj _ => hn j hj) true
  simp only [if_true] at l1 l2
  clear h
  go_enter Tryz.func134, Tryz.ntmps134
  go_wp2
  go_ret2
  exact ⟨_, rfl, Below.refl _ _⟩
set_option maxRecDepth 100000 in
set_option maxHeartbeats 2000000 in
theorem for_full (ρ : Nat → Option PTag) (I : PI) (K : KS) (s : ByteArray) (flags : Int) (w : World) (h : PK w ρ I K) (hs : s.size ≤ maxLen) (hN : K.byName s = none) (hx : fbit flags 8 ≠ 0) (hl : 256 ≤ K.nm.length) :
    Calls Tryz.prog 134 #[.pointer (some ⟨I.kb, 0, none⟩), .string s, .int .i64 flags] w (TNo w 3) := by
  have hn := byName_none hN
  have c1 := h.cells.files
  have c2 := h.cells.terms
  have x1 : (fbit flags 8 == 0) = false := by simpa using hx
  have x2 : ¬ fbit flags 8 = 0 := hx
  have l1 := miss_file h hs (fun j hj _ => hn j hj) true
  have l2 := miss_term h hs (fun j hj _ => hn j hj) true
  simp only [if_true] at l1 l2
  have s1 := (PMap.keep (W' := w.drew) (h.comp .fmap).1 rfl).len Tryz.underlying91
  have s2 := (PMap.keep (W' := w.drew) (h.comp .tmap).1 rfl).len Tryz.underlying92
  have hsum := names_len I h.nm
  have hfl := fl_len (I := I) h.ok
  generalize (K.fl I).length = A at *
  generalize (K.tl I).length = B at *
  have y1 : (256 : Int) ≤ (A : Int) + (B : Int) := by omega
  clear h hsum
  go_enter Tryz.func134, Tryz.ntmps134
  go_wp2_with fail
  go_region
  go_wp2
  go_ret2
  exact ⟨_, rfl, (Below.refl _ _).drew⟩
set_option maxRecDepth 100000 in
set_option maxHeartbeats 2000000 in
theorem for_term (ρ : Nat → Option PTag) (I : PI) (K : KS) (s : ByteArray) (flags : Int) (i : Nat) (ls : List (List UInt8)) (scr : List UInt8) (w : World) (h : PK w ρ I K) (hs : s.size ≤ maxLen) (hN : K.byName s = some i) (hx : fbit flags 32 = 0) (ho : K.obOf i = .term ls scr) :
    Calls Tryz.prog 134 #[.pointer (some ⟨I.kb, 0, none⟩), .string s, .int .i64 flags] w (TFor ρ I w (K.cut i flags) i flags) := by
  obtain ⟨hi, hn⟩ := byName_some hN
  have c1 := h.cells.files
  have c2 := h.cells.terms
  have x1 : (fbit flags 32 == 0) = true := by simpa using hx
  have x2 : (fbit flags 32 != 0) = false := by simpa using hx
  have hk : (K.obOf i).kind = 2 := by rw [ho]; rfl
  have l1 := look_term h hs hi hn hk true
  have l2 := miss_file h hs (fun j hj hkj e => by have := h.nm.inj hj hi (e.trans hn.symm); rw [this, hk] at hkj; cases hkj) true
  simp only [if_true] at l1 l2
  have HR := hide (TFor.term (flags := flags) h (h.ok.nm i hi) ho)
  clear h
  go_enter Tryz.func134, Tryz.ntmps134
  go_wp2
  go_ret2
  exact HR.out
theorem trL_zero (b : List UInt8) : trL b 0 = [] := by
  unfold trL
  rw [if_neg (by decide)]
  simp [trunc, grow]
theorem cut_no {K : KS} {i : Nat} {flags : Int} (h : fbit flags 16 = 0) : K.cut i flags = K := by unfold KS.cut; rw [bit_no h]; rfl
theorem cut_yes {K : KS} {i : Nat} {flags : Int} {b : List UInt8} (h : fbit flags 16 ≠ 0) (ho : K.obOf i = .file b) : K.cut i flags = K.setOb i (.file []) := by unfold KS.cut; rw [bit_yes h, ho]; rfl
set_option maxRecDepth 100000 in
set_option maxHeartbeats 2000000 in
theorem for_file (ρ : Nat → Option PTag) (I : PI) (K : KS) (s : ByteArray) (flags : Int) (i : Nat) (b : List UInt8) (w : World) (h : PK w ρ I K) (hs : s.size ≤ maxLen) (hN : K.byName s = some i) (hx : fbit flags 32 = 0) (ho : K.obOf i = .file b) :
    Calls Tryz.prog 134 #[.pointer (some ⟨I.kb, 0, none⟩), .string s, .int .i64 flags] w (TFor ρ I w (K.cut i flags) i flags) := by
  obtain ⟨hi, hn⟩ := byName_some hN
  have c1 := h.cells.files
  have c2 := h.cells.terms
  have x1 : (fbit flags 32 == 0) = true := by simpa using hx
  have x2 : (fbit flags 32 != 0) = false := by simpa using hx
  have hk : (K.obOf i).kind = 1 := by rw [ho]; rfl
  have l1 := look_file h hs hi hn hk true
  have l2 := miss_term h hs (fun j hj hkj e => by have := h.nm.inj hj hi (e.trans hn.symm); rw [this, hk] at hkj; cases hkj) true
  simp only [if_true] at l1 l2
  have hlt := h.ok.nm i hi
  by_cases ht : fbit flags 16 = 0
  · rw [cut_no ht]
    have t1 : (fbit flags 16 == 0) = true := by simpa using ht
    have t2 : (fbit flags 16 != 0) = false := by simpa using ht
    have HR := hide fun w2 => TFor.file (I := I) (flags := flags) h rfl rfl (newTags.refl ρ w) (Turned.refl (Own ρ) w) hlt ho (w2 := w2)
    clear h
    go_enter Tryz.func134, Tryz.ntmps134
    go_wp2
    go_ret2
    exact HR.out _ rfl
  · rw [cut_yes ht ho]
    have t1 : (fbit flags 16 == 0) = false := by simpa using ht
    have t2 : (fbit flags 16 != 0) = true := by simpa using ht
    have hO := h.comp (.obj i) hlt
    rw [← KS.obOf_eq hlt, ho] at hO
    have HT := hide (po_ftrunc _ (I.ob i) b 0 w hO (by rw [trL_zero]; exact Nat.zero_le _))
    rw [trL_zero] at HT
    have HS : Hid (∀ w1, PStep w (fun k => ρ k = some (.obj i)) (I.ob i) (.file []) w1 → ∃ ρ', PK w1 ρ' I (K.setOb i (.file [])) ∧ newTags ρ ρ' w) := hide fun w1 hS => by
      obtain ⟨O', h1, h2, h3⟩ := hS
      obtain ⟨ρ', g1, g2, _⟩ := h.setOb hlt (ob' := .file []) (by rw [← KS.obOf_eq hlt, ho]; rfl) (h3.mono fun k e => Or.inl e) h1 h2 (fun ls scr e => by cases e)
      exact ⟨ρ', g1, g2⟩
    clear h
    go_enter Tryz.func134, Tryz.ntmps134
    go_wp2_with fail
    refine HT.out.mono ?_
    rintro e w1 ⟨rfl, hS⟩
    obtain ⟨ρ', h1, h2⟩ := HS.out w1 hS
    have hTu : Turned (Own ρ) w w1 := by obtain ⟨O', a1, a2, a3⟩ := hS; exact a3.mono fun k e => ⟨_, e⟩
    have HR := hide fun w2 => TFor.file (I := I) (flags := flags) h1 rfl rfl h2 hTu (by rw [setOb_len]; exact hlt) (KS.obOf_setOb_same (.file []) hlt) (w2 := w2)
    clear h1 h2 hS hTu
    go_wp2
    go_ret2
    exact HR.out _ rfl
end Go.Proofs.YtkkommomefmpgaaGreat

/- The program's kernel: thingFor, where a file is made. -/
namespace Go.Proofs.YtkkommomefmpgaaGreat
open Go.RowKit Go.Maps

theorem setOb_id {K : KS} {i : Nat} {ob : Ob} (hi : i < K.th.length) (h : K.obOf i = ob) : K.setOb i ob = K := by
  unfold KS.setOb
  have : K.th.modify i (fun t => { t with ob := ob }) = K.th := by
    apply List.ext_getElem
    · simp
    · intro j h1 h2
      rw [List.getElem_modify]
      split
      · rename_i e
        subst e
        rw [KS.obOf_eq hi] at h
        subst h
        rfl
      · rfl
  rw [this]
theorem PK.drew {w : World} {ρ : Nat → Option PTag} {I : PI} {K : KS} (h : PK w ρ I K) : PK w.drew ρ I K := h.keep (fun _ _ _ => rfl) (Nat.le_refl _)
set_option maxRecDepth 100000 in
set_option maxHeartbeats 2000000 in
theorem for_new (ρ : Nat → Option PTag) (I : PI) (K : KS) (s : ByteArray) (flags : Int) (w : World) (h : PK w ρ I K) (hs : nameOk s = true) (hN : K.byName s = none) (hx : fbit flags 8 ≠ 0) (hl : K.nm.length < 256) :
    Calls Tryz.prog 134 #[.pointer (some ⟨I.kb, 0, none⟩), .string s, .int .i64 flags] w (TFor ρ I w (K.addTh ⟨s, .file []⟩) K.th.length flags) := by
  have hn := byName_none hN
  have hsz : s.size ≤ maxLen := by have := name_size hs; unfold maxLen; omega
  have c1 := h.cells.files
  have c2 := h.cells.terms
  have x1 : (fbit flags 8 == 0) = false := by simpa using hx
  have x2 : ¬ fbit flags 8 = 0 := hx
  have l1 := miss_file h hsz (fun j hj _ => hn j hj) true
  have l2 := miss_term h hsz (fun j hj _ => hn j hj) true
  simp only [if_true] at l1 l2
  have s1 := (PMap.keep (W' := w.drew) (h.comp .fmap).1 rfl).len Tryz.underlying91
  have s2 := (PMap.keep (W' := w.drew) (h.comp .tmap).1 rfl).len Tryz.underlying92
  have hsum := names_len I h.nm
  have hfl := fl_len (I := I) h.ok
  generalize (K.fl I).length = A at *
  generalize (K.tl I).length = B at *
  have y1 : ¬ (256 : Int) ≤ (A : Int) + (B : Int) := by omega
  have HNew := hide (newFile_any ρ I K s (.slice none 0 0) [] w.drew h.drew (.inl ⟨rfl, rfl⟩) (Nat.zero_le _) hs hn hl)
  have hM := more_addTh K ⟨s, .file []⟩
  have hlen : (K.addTh ⟨s, .file []⟩).th.length = K.th.length + 1 := by rw [hM.th]; simp
  have HM := hide (And.intro hM.obNew hlen)
  clear h hsum hM hlen
  by_cases ht : fbit flags 16 = 0
  · have t1 : (fbit flags 16 == 0) = true := by simpa using ht
    have t2 : (fbit flags 16 != 0) = false := by simpa using ht
    go_enter Tryz.func134, Tryz.ntmps134
    go_wp2_with fail
    go_region
    go_wp2_with fail
    refine HNew.out.mono ?_
    rintro e w1 ⟨p, rfl, ρ', h1, h2, h3, h4⟩
    have HR := hide fun w2 => TFor.file (w := w) (I := I) (flags := flags) h1 rfl rfl h2 ((Turned.of_below (S := Own ρ) (Below.refl _ _).drew).trans h4 (fun _ _ e => e)) (by have := HM.out.2; omega) HM.out.1 (w2 := w2)
    simp only [upd_same] at HR
    clear h1 h2 h3 h4
    go_wp2
    go_ret2
    exact HR.out _ rfl
  · have t1 : (fbit flags 16 == 0) = false := by simpa using ht
    have t2 : (fbit flags 16 != 0) = true := by simpa using ht
    go_enter Tryz.func134, Tryz.ntmps134
    go_wp2_with fail
    go_region
    go_wp2_with fail
    refine HNew.out.mono ?_
    rintro e w1 ⟨p, rfl, ρ', h1, h2, h3, h4⟩
    have hlt : K.th.length < (K.addTh ⟨s, .file []⟩).th.length := by have := HM.out.2; omega
    have hO := h1.comp (.obj K.th.length) hlt
    rw [← KS.obOf_eq hlt, HM.out.1] at hO
    simp only [upd_same] at hO
    have HT := hide (po_ftrunc _ p [] 0 w1 hO (by rw [trL_zero]; exact Nat.zero_le _))
    rw [trL_zero] at HT
    have HP1 := hide (And.intro h1 (And.intro h2 h4))
    clear h1 h2 h3 h4 hO
    go_wp2_with fail
    refine HT.out.mono ?_
    rintro e w2 ⟨rfl, O', hS1, hS2, hS3⟩
    obtain ⟨h1, h2, h4⟩ := HP1.out
    obtain ⟨ρ2, g1, g2, g3⟩ := h1.setOb hlt (ob' := .file []) (W' := w2) (O' := O') (by rw [← KS.obOf_eq hlt, HM.out.1]) (hS3.mono fun k e => Or.inl e) (by simp only [upd_same]; exact hS1) hS2 (fun ls scr e => by cases e)
    rw [setOb_id hlt HM.out.1] at g1
    have hT2 : Turned (Own ρ) w w2 := ((Turned.of_below (S := Own ρ) (Below.refl _ _).drew).trans h4 (fun _ _ e => e)).trans hS3 (fun k hk e => by
      rcases h2 k _ e with h | h
      · exact h
      · exact absurd hk (Nat.not_lt.2 h))
    have HR := hide fun w3 => TFor.file (w := w) (I := I) (flags := flags) g1 rfl rfl (fun k t e => by
      rcases g2 k t e with ⟨t', e'⟩ | e'
      · exact h2 k t' e'
      · exact .inr (Nat.le_trans h4.size e')) hT2 hlt HM.out.1 (w2 := w3)
    simp only [upd_same] at HR
    clear h1 h2 h4 g1 g2 g3 hS1 hS2 hS3 hT2
    go_wp2
    go_ret2
    exact HR.out _ rfl
end Go.Proofs.YtkkommomefmpgaaGreat
