/- What the proof stands on, part 8: the contracts of the program's calls that it reaches. -/
import Derived.Test.YtejcfhjhjplcnaaGreatKM7
/- The program's kernel: Seek, Keep. -/
namespace Go.Proofs.YtejcfhjhjplcnaaGreat
open Go.RowKit Go.Maps

theorem as_openFile_openFile (x : Nat) (w : World) : (Instr.typeAssert (.iface 267 (.pointer (some ⟨x, 0, none⟩))) 192 267 true).run Tryz.prog w = .ok (.tuple #[(.pointer (some ⟨x, 0, none⟩)), .bool true]) w := by kernel_rfl
theorem as_openFile_console (x : Nat) (w : World) : (Instr.typeAssert (.iface 127 (.pointer (some ⟨x, 0, none⟩))) 192 267 true).run Tryz.prog w = .ok (.tuple #[.pointer none, .bool false]) w := by kernel_rfl
theorem as_openFile_pipeEnd (x : Nat) (w : World) : (Instr.typeAssert (.iface 275 (.agg #[.pointer (some ⟨x, 0, none⟩)])) 192 267 true).run Tryz.prog w = .ok (.tuple #[.pointer none, .bool false]) w := by kernel_rfl
theorem as_pipeEnd_openFile (x : Nat) (w : World) : (Instr.typeAssert (.iface 267 (.pointer (some ⟨x, 0, none⟩))) 192 275 true).run Tryz.prog w = .ok (.tuple #[.agg #[.pointer none], .bool false]) w := by kernel_rfl
theorem as_pipeEnd_console (x : Nat) (w : World) : (Instr.typeAssert (.iface 127 (.pointer (some ⟨x, 0, none⟩))) 192 275 true).run Tryz.prog w = .ok (.tuple #[.agg #[.pointer none], .bool false]) w := by kernel_rfl
theorem as_pipeEnd_pipeEnd (x : Nat) (w : World) : (Instr.typeAssert (.iface 275 (.agg #[.pointer (some ⟨x, 0, none⟩)])) 192 275 true).run Tryz.prog w = .ok (.tuple #[(.agg #[.pointer (some ⟨x, 0, none⟩)]), .bool true]) w := by kernel_rfl
set_option maxRecDepth 100000 in
theorem fileOf_yes (x : Nat) (w : World) : Calls Tryz.prog 176 #[.iface 267 (.pointer (some ⟨x, 0, none⟩))] w fun e w' => e = .returned (.tuple #[.pointer (some ⟨x, 0, none⟩), .bool true]) ∧ w' = w := by
  have ha := as_openFile_openFile x
  go_enter Tryz.func176, Tryz.ntmps176
  go_wp2
  go_ret2
  exact ⟨rfl, rfl⟩
set_option maxRecDepth 100000 in
theorem fileOf_term (x : Nat) (w : World) : Calls Tryz.prog 176 #[.iface 127 (.pointer (some ⟨x, 0, none⟩))] w fun e w' => e = .returned (.tuple #[.pointer none, .bool false]) ∧ w' = w := by
  have ha := as_openFile_console x
  go_enter Tryz.func176, Tryz.ntmps176
  go_wp2
  go_ret2
  exact ⟨rfl, rfl⟩
set_option maxRecDepth 100000 in
theorem fileOf_pipe (x : Nat) (w : World) : Calls Tryz.prog 176 #[.iface 275 (.agg #[.pointer (some ⟨x, 0, none⟩)])] w fun e w' => e = .returned (.tuple #[.pointer none, .bool false]) ∧ w' = w := by
  have ha := as_openFile_pipeEnd x
  go_enter Tryz.func176, Tryz.ntmps176
  go_wp2
  go_ret2
  exact ⟨rfl, rfl⟩
theorem res_pipe {fn : Func} {p u : Tmp} {w : World} (h : fn.results = #[.cell p 275, .tmp u]) (tmps : Array Value) (b : Nat) (hp : tmps.getD p undef = .pointer (some ⟨b, 0, none⟩)) (v : Option Addr) (h1 : w.cell? ⟨b, 0, none⟩ = some (.pointer v)) :
    (results fn tmps).run Tryz.prog w = .ok (.tuple #[.agg #[.pointer v], tmps.getD u undef]) w := by
  have a60 := Tryz.isAgg275
  have z60 := Tryz.sizeOf275
  have u3 := Tryz.underlying273
  have a3 := Tryz.isAgg273
  have z3 := Tryz.sizeOf273
  rw [results_cell_tmp h, hp]
  simp only [loadVar]
  go_simp
theorem recv2 (w : World) (v : Value) (t t' : TypeId) (o' : Value) : ((w.alloc (Obj.cells #[v] t)).alloc (Obj.cells #[o'] t')).cell? ⟨w.heap.size, 0, none⟩ = some v := by
  have := recv_below (w.alloc (Obj.cells #[v] t)) (Obj.cells #[o'] t')
  rw [this.cell (p := ⟨w.heap.size, 0, none⟩) (size_new _ _)]
  exact recv_cell w v t
theorem recv2b (w : World) (o o' : Obj) : Below w.heap.size w ((w.alloc o).alloc o') := (recv_below w o).trans ((recv_below _ o').mono (Nat.le_of_lt (size_new _ _)))
set_option maxRecDepth 100000 in
theorem pipeOf_file (x : Nat) (w : World) : Calls Tryz.prog 178 #[.iface 267 (.pointer (some ⟨x, 0, none⟩))] w fun e w' => e = .returned (.tuple #[.agg #[.pointer none], .bool false]) ∧ Below w.heap.size w w' := by
  have ha := as_pipeEnd_openFile x
  go_enter Tryz.func178, Tryz.ntmps178
  go_wp2
  refine bodyPost_ret (res_pipe rfl _ w.heap.size rfl none (recv2 _ _ _ _ _)) rfl ?_
  exact ⟨rfl, recv2b _ _ _⟩
set_option maxRecDepth 100000 in
theorem pipeOf_term (x : Nat) (w : World) : Calls Tryz.prog 178 #[.iface 127 (.pointer (some ⟨x, 0, none⟩))] w fun e w' => e = .returned (.tuple #[.agg #[.pointer none], .bool false]) ∧ Below w.heap.size w w' := by
  have ha := as_pipeEnd_console x
  go_enter Tryz.func178, Tryz.ntmps178
  go_wp2
  refine bodyPost_ret (res_pipe rfl _ w.heap.size rfl none (recv2 _ _ _ _ _)) rfl ?_
  exact ⟨rfl, recv2b _ _ _⟩
set_option maxRecDepth 100000 in
theorem pipeOf_yes (x : Nat) (w : World) : Calls Tryz.prog 178 #[.iface 275 (.agg #[.pointer (some ⟨x, 0, none⟩)])] w fun e w' => e = .returned (.tuple #[(.agg #[.pointer (some ⟨x, 0, none⟩)]), .bool true]) ∧ Below w.heap.size w w' := by
  have ha := as_pipeEnd_pipeEnd x
  go_enter Tryz.func178, Tryz.ntmps178
  go_wp2
  refine bodyPost_ret (res_pipe rfl _ w.heap.size rfl (some ⟨x, 0, none⟩) (recv2 _ _ _ _ _)) rfl ?_
  exact ⟨rfl, recv2b _ _ _⟩
theorem PK.seekTo {W : World} {ρ : Nat → Option PTag} {I : PI} {K : KS} (h : PK W ρ I K) {x : De} (hx : x ∈ K.de) {b : List UInt8} (ho : K.tho x = .file b) (p : Nat) (hp : p ≤ 1048576) (v : Int) (hv : v = (p : Int)) :
    PNext ρ I W (K.setDe { x with pos := p }) (W.setCell ⟨I.xb x.n, 1, none⟩ (.int .i64 v)) := by
  subst hv
  obtain ⟨hxb, ht⟩ := h.comp (.ofile x.n) x hx rfl b ho
  have hdc := h.comp (.desc x.n) x hx rfl
  have hT1 := (Turned.refl (fun k => k = I.xb x.n) W).set (g := I.xb x.n) (j := 1) (u := .int .i64 (p : Int)) (.inl rfl)
  refine PNext.of (h.setDe hx (x' := { x with pos := p }) rfl rfl rfl hp (h.ok.held x hx) (hT1.mono fun k e => by rw [e]; exact .inr ht) ?_ ?_) rfl (hT1.mono fun k e => ⟨.ofile x.n, by rw [e]; exact ht⟩)
  · exact (hT1.block _ (h.lt _ _ hdc.2) (fun e => by rw [e, ht] at hdc; cases hdc.2)).trans hdc.1
  · intro b' _
    rw [heap_setCell_same 1 _ hxb]
    rfl
set_option maxRecDepth 100000 in
set_option maxHeartbeats 4000000 in
theorem kseek_any (ρ : Nat → Option PTag) (I : PI) (K : KS) (d off wh : Int) (w : World) (h : PK w ρ I K) (hd : I64 d) (hoff : I64 off) :
    Calls Tryz.prog 67 #[.pointer (some ⟨I.kb, 0, none⟩), .int .i64 d, .int .i64 off, .int .i64 wh] w (PNum ρ I w (K.seek d off wh)) := by
  have HF := hide (described_any ρ I K d w h hd)
  have HX := hide fun E => PNum.refused h (Below.refl _ w) E
  cases hx : K.find d with
  | none =>
    rw [hx] at HF
    rw [show K.seek d off wh = (0, 64, K) by unfold KS.seek; rw [hx]]
    clear h
    go_enter Tryz.func67, Tryz.ntmps67
    go_wp2_with fail
    refine HF.out.mono ?_
    rintro e w1 ⟨rfl, rfl⟩
    unfold descV
    go_wp2
    go_ret2
    exact HX.out 64
  | some x =>
    rw [hx] at HF
    have hm := (KS.find_some hx).1
    have c0 := (h.desc hm).thing
    have hpos := h.ok.pos x hm
    have HO := hide (h.pobj hm)
    cases ho : K.tho x with
    | term ls scr =>
      rw [show K.seek d off wh = (0, 66, K) by unfold KS.seek; rw [hx]; simp only; rw [ho]]
      rw [thing_term ho] at c0
      clear h
      go_enter Tryz.func67, Tryz.ntmps67
      go_wp2_with fail
      refine HF.out.mono ?_
      rintro e w1 ⟨rfl, rfl⟩
      unfold descV
      go_wp2_with fail
      refine (fileOf_term (I.cb x.th) _).mono ?_
      rintro e w2 ⟨rfl, rfl⟩
      go_wp2
      go_ret2
      exact HX.out 66
    | pipe q rd wt =>
      rw [show K.seek d off wh = (0, 66, K) by unfold KS.seek; rw [hx]; simp only; rw [ho]]
      rw [thing_pipe ho] at c0
      clear h
      go_enter Tryz.func67, Tryz.ntmps67
      go_wp2_with fail
      refine HF.out.mono ?_
      rintro e w1 ⟨rfl, rfl⟩
      unfold descV
      go_wp2_with fail
      refine (fileOf_pipe (I.ob x.th) _).mono ?_
      rintro e w2 ⟨rfl, rfl⟩
      go_wp2
      go_ret2
      exact HX.out 66
    | file b =>
      rw [thing_file ho] at c0
      rw [ho] at HO
      have hbl := HO.out.1
      obtain ⟨c1, c2, c3, c4⟩ := OFc.cells (h.comp (.ofile x.n) x hm rfl b ho).1
      have HSz := hide (po_fsize _ (I.ob x.th) b w HO.out)
      have HT := hide fun p hp v hv => h.seekTo hm ho p hp v hv
      have hR : ∀ base : Int, base = (if wh = 1 then (x.pos : Int) else if wh = 2 then (b.length : Int) else 0) → 0 ≤ wh → wh ≤ 2 → K.seek d off wh = if 0 ≤ base + off ∧ base + off ≤ 1048576 then (base + off, 0, K.setDe { x with pos := (base + off).toNat }) else (0, 4, K) := by
        intro base hb h1 h2
        subst hb
        unfold KS.seek
        rw [hx]
        simp only
        rw [ho]
        simp only
        rw [if_neg (by omega)]
      by_cases hw : wh < 0 ∨ 2 < wh
      · rw [show K.seek d off wh = (0, 1, K) by unfold KS.seek; rw [hx]; simp only; rw [ho]; simp only; rw [if_pos hw]]
        have q0 : ¬ wh = 0 := by omega
        have q1 : ¬ wh = 1 := by omega
        have q2 : ¬ wh = 2 := by omega
        have r0 : (wh == 0) = false := by simpa using q0
        have r1 : (wh == 1) = false := by simpa using q1
        have r2 : (wh == 2) = false := by simpa using q2
        have s0 : ((0 : Int) == wh) = false := by simp; omega
        have s1 : ((1 : Int) == wh) = false := by simp; omega
        have s2 : ((2 : Int) == wh) = false := by simp; omega
        clear h hR HT
        go_enter Tryz.func67, Tryz.ntmps67
        go_wp2_with fail
        refine HF.out.mono ?_
        rintro e w1 ⟨rfl, rfl⟩
        unfold descV
        go_wp2_with fail
        refine (fileOf_yes (I.xb x.n) _).mono ?_
        rintro e w2 ⟨rfl, rfl⟩
        go_wp2
        go_ret2
        exact HX.out 1
      · obtain ⟨o1, o2⟩ := hoff
        rcases (show wh = 0 ∨ wh = 1 ∨ wh = 2 by omega) with rfl | rfl | rfl
        · have hK := hR (0 : Int) (by simp) (by omega) (by omega)
          by_cases hin : 0 ≤ (0 : Int) + off ∧ (0 : Int) + off ≤ 1048576
          · rw [if_pos hin] at hK
            rw [hK]
            have HD := hide (HT.out ((0 : Int) + off).toNat (by omega) (off) (by omega))
            have t1 : ¬ off < -(0 : Int) := by omega
            have t2 : ¬ 1048576 - (0 : Int) < off := by omega
            have HI := hide hin
            clear h hR HT hK hin
            go_enter Tryz.func67, Tryz.ntmps67
            go_wp2_with fail
            refine HF.out.mono ?_
            rintro e w1 ⟨rfl, rfl⟩
            unfold descV
            go_wp2_with fail
            refine (fileOf_yes (I.xb x.n) _).mono ?_
            rintro e w2 ⟨rfl, rfl⟩
            go_wp2
            go_ret2
            refine ⟨?_, HD.out⟩
            first | rfl | (simp only [Int.zero_add]; rfl)
          · rw [if_neg hin] at hK
            rw [hK]
            clear h hR HT hK
            by_cases t1 : off < -(0 : Int)
            · go_enter Tryz.func67, Tryz.ntmps67
              go_wp2_with fail
              refine HF.out.mono ?_
              rintro e w1 ⟨rfl, rfl⟩
              unfold descV
              go_wp2_with fail
              refine (fileOf_yes (I.xb x.n) _).mono ?_
              rintro e w2 ⟨rfl, rfl⟩
              go_wp2
              go_ret2
              exact HX.out 4
            · have t2 : 1048576 - (0 : Int) < off := by omega
              go_enter Tryz.func67, Tryz.ntmps67
              go_wp2_with fail
              refine HF.out.mono ?_
              rintro e w1 ⟨rfl, rfl⟩
              unfold descV
              go_wp2_with fail
              refine (fileOf_yes (I.xb x.n) _).mono ?_
              rintro e w2 ⟨rfl, rfl⟩
              go_wp2
              go_ret2
              exact HX.out 4
        · have hK := hR (x.pos : Int) (by simp) (by omega) (by omega)
          by_cases hin : 0 ≤ (x.pos : Int) + off ∧ (x.pos : Int) + off ≤ 1048576
          · rw [if_pos hin] at hK
            rw [hK]
            have HD := hide (HT.out ((x.pos : Int) + off).toNat (by omega) ((x.pos : Int) + off) (by omega))
            have t1 : ¬ off < -(x.pos : Int) := by omega
            have t2 : ¬ 1048576 - (x.pos : Int) < off := by omega
            have HI := hide hin
            clear h hR HT hK hin
            go_enter Tryz.func67, Tryz.ntmps67
            go_wp2_with fail
            refine HF.out.mono ?_
            rintro e w1 ⟨rfl, rfl⟩
            unfold descV
            go_wp2_with fail
            refine (fileOf_yes (I.xb x.n) _).mono ?_
            rintro e w2 ⟨rfl, rfl⟩
            go_wp2
            go_ret2
            refine ⟨?_, HD.out⟩
            first | rfl | (simp only [Int.zero_add]; rfl)
          · rw [if_neg hin] at hK
            rw [hK]
            clear h hR HT hK
            by_cases t1 : off < -(x.pos : Int)
            · go_enter Tryz.func67, Tryz.ntmps67
              go_wp2_with fail
              refine HF.out.mono ?_
              rintro e w1 ⟨rfl, rfl⟩
              unfold descV
              go_wp2_with fail
              refine (fileOf_yes (I.xb x.n) _).mono ?_
              rintro e w2 ⟨rfl, rfl⟩
              go_wp2
              go_ret2
              exact HX.out 4
            · have t2 : 1048576 - (x.pos : Int) < off := by omega
              go_enter Tryz.func67, Tryz.ntmps67
              go_wp2_with fail
              refine HF.out.mono ?_
              rintro e w1 ⟨rfl, rfl⟩
              unfold descV
              go_wp2_with fail
              refine (fileOf_yes (I.xb x.n) _).mono ?_
              rintro e w2 ⟨rfl, rfl⟩
              go_wp2
              go_ret2
              exact HX.out 4
        · have hK := hR (b.length : Int) (by simp) (by omega) (by omega)
          by_cases hin : 0 ≤ (b.length : Int) + off ∧ (b.length : Int) + off ≤ 1048576
          · rw [if_pos hin] at hK
            rw [hK]
            have HD := hide (HT.out ((b.length : Int) + off).toNat (by omega) ((b.length : Int) + off) (by omega))
            have t1 : ¬ off < -(b.length : Int) := by omega
            have t2 : ¬ 1048576 - (b.length : Int) < off := by omega
            have HI := hide hin
            clear h hR HT hK hin
            go_enter Tryz.func67, Tryz.ntmps67
            go_wp2_with fail
            refine HF.out.mono ?_
            rintro e w1 ⟨rfl, rfl⟩
            unfold descV
            go_wp2_with fail
            refine (fileOf_yes (I.xb x.n) _).mono ?_
            rintro e w2 ⟨rfl, rfl⟩
            go_wp2_with fail
            refine HSz.out.mono ?_
            rintro e w3 ⟨rfl, rfl⟩
            go_wp2
            go_ret2
            refine ⟨?_, HD.out⟩
            first | rfl | (simp only [Int.zero_add]; rfl)
          · rw [if_neg hin] at hK
            rw [hK]
            clear h hR HT hK
            by_cases t1 : off < -(b.length : Int)
            · go_enter Tryz.func67, Tryz.ntmps67
              go_wp2_with fail
              refine HF.out.mono ?_
              rintro e w1 ⟨rfl, rfl⟩
              unfold descV
              go_wp2_with fail
              refine (fileOf_yes (I.xb x.n) _).mono ?_
              rintro e w2 ⟨rfl, rfl⟩
              go_wp2_with fail
              refine HSz.out.mono ?_
              rintro e w3 ⟨rfl, rfl⟩
              go_wp2
              go_ret2
              exact HX.out 4
            · have t2 : 1048576 - (b.length : Int) < off := by omega
              go_enter Tryz.func67, Tryz.ntmps67
              go_wp2_with fail
              refine HF.out.mono ?_
              rintro e w1 ⟨rfl, rfl⟩
              unfold descV
              go_wp2_with fail
              refine (fileOf_yes (I.xb x.n) _).mono ?_
              rintro e w2 ⟨rfl, rfl⟩
              go_wp2_with fail
              refine HSz.out.mono ?_
              rintro e w3 ⟨rfl, rfl⟩
              go_wp2
              go_ret2
              exact HX.out 4
end Go.Proofs.YtejcfhjhjplcnaaGreat

/- The program's kernel: Keep, Drop. -/
namespace Go.Proofs.YtejcfhjhjplcnaaGreat
open Go.RowKit Go.Maps

def PErr (ρ : Nat → Option PTag) (I : PI) (w : World) (r : Int × KS) (e : Ending) (w' : World) : Prop :=
  e = .returned (.int .i64 r.1) ∧ PNext ρ I w r.2 w'
theorem PErr.refused {w : World} {ρ : Nat → Option PTag} {I : PI} {K : KS} {w' : World} (h : PK w ρ I K) (hB : Below w.heap.size w w') (E : Int) : PErr ρ I w (E, K) (.returned (.int .i64 E)) w' :=
  ⟨rfl, PNext.of (h.under hB) rfl (Turned.of_below hB)⟩
theorem PK.holdTo {W : World} {ρ : Nat → Option PTag} {I : PI} {K : KS} (h : PK W ρ I K) {x : De} (hx : x ∈ K.de) (n : Nat) (h1 : 1 ≤ n) (h2 : n ≤ 1024) (v : Int) (hv : v = (n : Int)) :
    PNext ρ I W (K.setDe { x with held := n }) (W.setCell ⟨I.db x.n, 3, none⟩ (.int .i64 v)) := by
  subst hv
  obtain ⟨hb, ht⟩ := h.comp (.desc x.n) x hx rfl
  have hT1 := (Turned.refl (fun k => k = I.db x.n) W).set (g := I.db x.n) (j := 3) (u := .int .i64 (n : Int)) (.inl rfl)
  refine PNext.of (h.setDe hx (x' := { x with held := n }) rfl rfl rfl (h.ok.pos x hx) ⟨h1, h2⟩ (hT1.mono fun k e => by rw [e]; exact .inl ht) ?_ ?_) rfl (hT1.mono fun k e => ⟨.desc x.n, by rw [e]; exact ht⟩)
  · rw [heap_setCell_same 3 _ hb]
    rfl
  · intro b' hb'
    obtain ⟨a1, a2⟩ := h.comp (.ofile x.n) x hx rfl b' hb'
    exact (hT1.block _ (h.lt _ _ a2) (fun e => by rw [e, ht] at a2; cases a2)).trans a1
set_option maxRecDepth 100000 in
set_option maxHeartbeats 2000000 in
theorem kkeep_any (ρ : Nat → Option PTag) (I : PI) (K : KS) (d : Int) (w : World) (h : PK w ρ I K) (hd : I64 d) :
    Calls Tryz.prog 69 #[.pointer (some ⟨I.kb, 0, none⟩), .int .i64 d] w (PErr ρ I w (K.keepE d, K.keepK d)) := by
  have HF := hide (described_any ρ I K d w h hd)
  have HX := hide fun E => PErr.refused h (Below.refl _ w) E
  cases hx : K.find d with
  | none =>
    rw [hx] at HF
    rw [show K.keepE d = 64 by unfold KS.keepE; rw [hx], show K.keepK d = K by unfold KS.keepK; rw [hx]]
    clear h
    go_enter Tryz.func69, Tryz.ntmps69
    go_wp2_with fail
    refine HF.out.mono ?_
    rintro e w1 ⟨rfl, rfl⟩
    unfold descV
    go_wp2
    go_ret
    exact HX.out 64
  | some x =>
    rw [hx] at HF
    have hm := (KS.find_some hx).1
    have c3 := (h.desc hm).held
    have c3s : w.frozen? ⟨I.db x.n, 3, none⟩ = false := frozen_of_row w (I.db x.n) 3 _ _ (h.comp (.desc x.n) x hm rfl).1
    have hh := h.ok.held x hm
    by_cases hc : 1024 ≤ x.held
    · rw [show K.keepE d = 3 by unfold KS.keepE; rw [hx]; simp only; rw [if_pos hc], show K.keepK d = K by unfold KS.keepK; rw [hx]; simp only; rw [if_pos hc]]
      have h1 : x.held = 1024 := by omega
      rw [h1] at c3
      clear h
      go_enter Tryz.func69, Tryz.ntmps69
      go_wp2_with fail
      refine HF.out.mono ?_
      rintro e w1 ⟨rfl, rfl⟩
      unfold descV
      go_wp2
      go_ret
      exact HX.out 3
    · rw [show K.keepE d = 0 by unfold KS.keepE; rw [hx]; simp only; rw [if_neg hc], show K.keepK d = K.setDe { x with held := x.held + 1 } by unfold KS.keepK; rw [hx]; simp only; rw [if_neg hc]]
      have h1 : ¬ (x.held : Int) = 1024 := by omega
      have h2 : ((x.held : Int) == 1024) = false := by simpa using h1
      have HD := hide (h.holdTo hm (x.held + 1) (by omega) (by omega) ((x.held : Int) + 1) (by omega))
      clear h HX
      go_enter Tryz.func69, Tryz.ntmps69
      go_wp2_with fail
      refine HF.out.mono ?_
      rintro e w1 ⟨rfl, rfl⟩
      unfold descV
      go_wp2
      go_ret
      exact ⟨rfl, HD.out⟩
theorem perm_lose {x : De} : ∀ {l : List De}, l.Pairwise (fun a b => a.n ≠ b.n) → x ∈ l → l.Perm (x :: l.filter fun y => decide (y.n ≠ x.n))
  | [], _, h => by simp at h
  | a :: r, hp, h => by
    obtain ⟨h1, h2⟩ := List.pairwise_cons.1 hp
    by_cases e : a = x
    · subst e
      have : r.filter (fun y => decide (y.n ≠ a.n)) = r := List.filter_eq_self.2 fun y hy => by simpa using Ne.symm (h1 y hy)
      rw [List.filter_cons_of_neg (by simp), this]
    · have hx : x ∈ r := by simpa [Ne.symm e] using h
      rw [List.filter_cons_of_pos (by simpa using h1 x hx)]
      exact ((perm_lose h2 hx).cons a).trans (List.Perm.swap x a _)
theorem PK.apart {W : World} {ρ : Nat → Option PTag} {I : PI} {K : KS} (h : PK W ρ I K) : K.de.Pairwise fun a b => a.n ≠ b.n := by
  have := (h.comp .omap).1.nodup
  unfold KS.dl at this
  rw [List.pairwise_map] at this
  exact this.imp fun {a b} hab e => hab (by rw [e])
theorem PK.lose {W W' : World} {ρ : Nat → Option PTag} {I : PI} {K : KS} (h : PK W ρ I K) {x : De} (hm : PMap W' Tryz.prog 3 I.om ((K.lose x.n).dl I)) (hT : Turned (fun k => ρ k = some (.desc x.n) ∨ ρ k = some .omap) W W') : PK W' ρ I (K.lose x.n) := by
  have key : ∀ t, t ≠ .desc x.n → t ≠ .omap → PComp W' ρ I K t := fun t h1 h2 => (h.comp t).keep (fun k e hlt => hT.block k hlt (fun e' => by
    rcases e' with e' | e'
    · rw [e'] at e; exact h1 (Option.some.inj e).symm
    · rw [e'] at e; exact h2 (Option.some.inj e).symm)) hT.size
  have sub : ∀ d, d ∈ (K.lose x.n).de → d ∈ K.de ∧ d.n ≠ x.n := fun d hd => by
    have := List.mem_filter.1 hd
    exact ⟨this.1, by simpa using this.2⟩
  refine ⟨fun t => ?_, fun k t e => Nat.lt_of_lt_of_le (h.lt k t e) hT.size, ⟨Nat.le_trans (List.length_filter_le _ _) h.ok.few, h.ok.named, fun d hd => h.ok.th d (sub d hd).1, h.ok.nm, fun d hd => h.ok.num d (sub d hd).1, fun d hd d' hd' => h.ok.once d (sub d hd).1 d' (sub d' hd').1, fun d hd => h.ok.flags d (sub d hd).1, fun d hd => h.ok.pos d (sub d hd).1, fun d hd => h.ok.held d (sub d hd).1, h.ok.plan⟩, h.nm.same rfl rfl⟩
  cases t with
  | kern => exact key .kern (by simp) (by simp)
  | fmap => exact key .fmap (by simp) (by simp)
  | tmap => exact key .tmap (by simp) (by simp)
  | omap => exact ⟨hm, (h.comp .omap).2⟩
  | plan => exact key .plan (by simp) (by simp)
  | obj i => exact key (.obj i) (by simp) (by simp)
  | cons i => exact key (.cons i) (by simp) (by simp)
  | desc n =>
    intro d hd e
    subst e
    exact key (.desc d.n) (by simpa using (sub d hd).2) (by simp) d (sub d hd).1 rfl
  | ofile n => exact fun d hd e b hb => key (.ofile n) (by simp) (by simp) d (sub d hd).1 e b hb
theorem lose_run {W W1 : World} {ρ : Nat → Option PTag} {I : PI} {K : KS} (h : PK W ρ I K) {x : De} (hx : x ∈ K.de) (d : Int) (hd : I64 d) (hn : (x.n : Int) = d) (hW : W1.heap[I.om]? = W.heap[I.om]?) (hT : Turned (fun k => ρ k = some (.desc x.n) ∨ ρ k = some .omap) W W1) (ty : TypeId) :
    ∃ w', (Builtin.delete_ #[114, 3] ty #[.map (some I.om), .int .i64 d]).run Tryz.prog W1 = .ok (.tuple #[]) w' ∧ Hid (PNext ρ I W (K.lose x.n) w') := by
  have hpm : (K.dl I).Perm ((dkey x.n, I.db x.n) :: (K.lose x.n).dl I) := (perm_lose h.apart hx).map fun d : De => (dkey d.n, I.db d.n)
  have hm := ((h.comp .omap).1.perm hpm).keep hW
  obtain ⟨w', h1, h2, h3⟩ := PMap.drop (kl := dkey x.n) hm ikeyed Tryz.underlying114 (key := .int .i64 d) (by rw [dkey, hn]; exact int_key d hd.wf) ty
  refine ⟨w', h1, hide ?_⟩
  have hT2 : Turned (fun k => ρ k = some (.desc x.n) ∨ ρ k = some .omap) W w' := hT.trans (mapTurned_turned h3) (fun k _ e => by rw [e]; exact .inr (h.comp .omap).2)
  exact PNext.of (h.lose h2 hT2) rfl (hT2.mono fun k e => by
    rcases e with e | e
    · exact ⟨_, e⟩
    · exact ⟨_, e⟩)
end Go.Proofs.YtejcfhjhjplcnaaGreat

/- The program's kernel: Drop, CanRead, CanWrite. -/
namespace Go.Proofs.YtejcfhjhjplcnaaGreat
open Go.RowKit Go.Maps

def putBlock (w : World) (b : Nat) (o : Obj) : World := { w with heap := w.heap.setIfInBounds b o }
theorem restored {W W1 W2 : World} {O : Nat → Prop} {g : Nat} {p : Nat} {ob : Ob} (hg : g < W.heap.size) (hO : ¬ O g) (hT : Turned (fun k => k = g) W W1) (hS : PStep W1 O p ob W2) : ∃ V, PStep W O p ob V ∧ Turned (fun k => k = g) V W2 ∧ V.heap.size = W2.heap.size ∧ ∀ k, k ≠ g → V.heap[k]? = W2.heap[k]? := by
  obtain ⟨O', h1, h2, h3⟩ := hS
  have hO' : ∀ k, O' k → k ≠ g := fun k e e' => by
    subst e'
    rcases h2 k e with h | h
    · exact hO h
    · have := hT.size; omega
  have hs2 : g < W2.heap.size := Nat.lt_of_lt_of_le hg (Nat.le_trans hT.size h3.size)
  obtain ⟨o, ho⟩ : ∃ o, W.heap[g]? = some o := ⟨W.heap[g], Array.getElem?_eq_getElem hg⟩
  have hV : ∀ k, k ≠ g → (putBlock W2 g o).heap[k]? = W2.heap[k]? := fun k hk => by
    unfold putBlock
    simp [Ne.symm hk]
  have hVg : (putBlock W2 g o).heap[g]? = some o := by
    unfold putBlock
    simp [hs2]
  have hVs : (putBlock W2 g o).heap.size = W2.heap.size := by unfold putBlock; simp
  refine ⟨putBlock W2 g o, ⟨O', h1.keep (fun k e _ => hV k (hO' k e)) (by rw [hVs]; exact Nat.le_refl _), fun k e => (h2 k e).imp id (fun e => Nat.le_trans hT.size e), ?_⟩, ?_, hVs, hV⟩
  · refine ⟨h3.os.trans hT.os, h3.tape.trans hT.tape, h3.output.trans hT.output, by rw [hVs]; exact Nat.le_trans hT.size h3.size, fun k hk hn => ?_⟩
    by_cases e : k = g
    · subst e; rw [hVg, ho]
    · rw [hV k e, h3.block k (Nat.lt_of_lt_of_le hk hT.size) hn, hT.block k hk e]
  · exact ⟨rfl, rfl, rfl, by rw [hVs]; exact Nat.le_refl _, fun k _ hn => (hV k hn).symm⟩
theorem PNext.join {w w1 w2 : World} {ρ ρ' : Nat → Option PTag} {I I' : PI} {K2 : KS} (hn : newTags ρ ρ' w) (hT : Turned (Own ρ) w w1) (hk : I'.kb = I.kb) (h : PNext ρ' I' w1 K2 w2) : PNext ρ I w K2 w2 := by
  obtain ⟨ρ2, I2, b1, b2, b3, b4⟩ := h
  refine ⟨ρ2, I2, b1, b2.trans hk, fun k t e => ?_, hT.trans b4 (fun k hk ⟨t, e⟩ => ?_)⟩
  · rcases b3 k t e with ⟨t', e'⟩ | e'
    · exact hn k t' e'
    · exact .inr (Nat.le_trans hT.size e')
  · rcases hn k t e with h | h
    · exact h
    · omega
set_option maxRecDepth 100000 in
set_option maxHeartbeats 2000000 in
theorem kdrop_any (ρ : Nat → Option PTag) (I : PI) (K : KS) (d : Int) (w : World) (h : PK w ρ I K) (hd : I64 d) :
    Calls Tryz.prog 71 #[.pointer (some ⟨I.kb, 0, none⟩), .int .i64 d] w (PErr ρ I w (K.dropE d, K.dropK d)) := by
  have HF := hide (described_any ρ I K d w h hd)
  have HX := hide fun E => PErr.refused h (Below.refl _ w) E
  cases hx : K.find d with
  | none =>
    rw [hx] at HF
    rw [show K.dropE d = 64 by unfold KS.dropE; rw [hx], show K.dropK d = K by unfold KS.dropK; rw [hx]]
    clear h
    go_enter Tryz.func71, Tryz.ntmps71
    go_wp2_with fail
    refine HF.out.mono ?_
    rintro e w1 ⟨rfl, rfl⟩
    unfold descV
    go_wp2
    go_ret
    exact HX.out 64
  | some x =>
    rw [hx] at HF
    have hm := (KS.find_some hx).1
    have hnd := (KS.find_some hx).2
    have c0 := (h.desc hm).thing
    have c2 := (h.desc hm).writes
    have c3 := (h.desc hm).held
    obtain ⟨hb, ht⟩ := h.comp (.desc x.n) x hm rfl
    have c3s : w.frozen? ⟨I.db x.n, 3, none⟩ = false := frozen_of_row w (I.db x.n) 3 _ _ hb
    have hh := h.ok.held x hm
    rw [show K.dropE d = 0 by unfold KS.dropE; rw [hx]]
    by_cases hc : 1 < x.held
    · rw [show K.dropK d = K.setDe { x with held := x.held - 1 } by unfold KS.dropK; rw [hx]; simp only; rw [if_pos hc]]
      have HD := hide (h.holdTo hm (x.held - 1) (by omega) (by omega) ((x.held : Int) - 1) (by omega))
      have h1 : 0 < (x.held : Int) - 1 := by omega
      clear h HX hb
      go_enter Tryz.func71, Tryz.ntmps71
      go_wp2_with fail
      refine HF.out.mono ?_
      rintro e w1 ⟨rfl, rfl⟩
      unfold descV
      go_wp2
      go_ret
      exact ⟨rfl, HD.out⟩
    · have h1 : x.held = 1 := by omega
      rw [h1] at c3
      have hT1 := (Turned.refl (fun k => k = I.db x.n) w).set (g := I.db x.n) (j := 3) (u := .int .i64 (0 : Int)) (.inl rfl)
      have hlt : I.db x.n < w.heap.size := h.lt _ _ ht
      have hne : ∀ k t, ρ k = some t → t ≠ .desc x.n → k ≠ I.db x.n := fun k t e e' e2 => by rw [e2, ht] at e; exact e' (Option.some.inj e).symm
      have k3 : (w.setCell ⟨I.db x.n, 3, none⟩ (.int .i64 (0 : Int))).cell? ⟨I.kb, 3, none⟩ = some (.map (some I.om)) := hT1.cell h.cells.opens (hne _ _ (h.comp .kern).2.1 (by simp))
      have k0 : (w.setCell ⟨I.db x.n, 3, none⟩ (.int .i64 (0 : Int))).cell? ⟨I.db x.n, 0, none⟩ = some (thingV I K x) := by
        rw [World.cell?_setCell_other]
        · exact c0
        · simp
      have k2 : (w.setCell ⟨I.db x.n, 3, none⟩ (.int .i64 (0 : Int))).cell? ⟨I.db x.n, 2, none⟩ = some (.bool (bit x.flags 2)) := by
        rw [World.cell?_setCell_other]
        · exact c2
        · simp
      have HK := hide h
      have HT1 := hide hT1
      cases ho : K.tho x with
      | file b =>
        rw [show K.dropK d = K.lose x.n by unfold KS.dropK; rw [hx]; simp only; rw [if_neg hc, ho]]
        rw [thing_file ho] at k0
        clear h hb HX hT1
        go_enter Tryz.func71, Tryz.ntmps71
        go_wp2_with fail
        refine HF.out.mono ?_
        rintro e w1 ⟨rfl, rfl⟩
        unfold descV
        go_wp2_with fail
        generalize w1.setCell ⟨I.db x.n, 3, none⟩ (.int .i64 (0 : Int)) = w2 at *
        refine (pipeOf_file (I.xb x.n) _).mono ?_
        rintro e w3' ⟨rfl, hB'⟩
        have hB : Below w2.heap.size w2 (w3'.alloc (Obj.cells #[.pointer none] 275)) := hB'.trans ((recv_below _ _).mono hB'.size)
        have k3' := (hB.cell (p := ⟨I.kb, 3, none⟩) (World.block_lt_of_cell? w2 _ k3)).trans k3
        have hT3 : Turned (fun k => k = I.db x.n) w1 (w3'.alloc (Obj.cells #[.pointer none] 275)) := HT1.out.trans (Turned.of_below hB) (fun _ _ e => e)
        obtain ⟨w4, hr4, HN4⟩ := lose_run HK.out hm d hd hnd (hT3.block _ (HK.out.lt _ _ (HK.out.comp .omap).2) (hne _ _ (HK.out.comp .omap).2 (by simp))) (hT3.mono fun k e => by rw [e]; exact .inl ht) 0
        go_wp2
        go_ret
        exact ⟨rfl, HN4.out⟩
      | term ls scr =>
        rw [show K.dropK d = K.lose x.n by unfold KS.dropK; rw [hx]; simp only; rw [if_neg hc, ho]]
        rw [thing_term ho] at k0
        clear h hb HX hT1
        go_enter Tryz.func71, Tryz.ntmps71
        go_wp2_with fail
        refine HF.out.mono ?_
        rintro e w1 ⟨rfl, rfl⟩
        unfold descV
        go_wp2_with fail
        generalize w1.setCell ⟨I.db x.n, 3, none⟩ (.int .i64 (0 : Int)) = w2 at *
        refine (pipeOf_term (I.cb x.th) _).mono ?_
        rintro e w3' ⟨rfl, hB'⟩
        have hB : Below w2.heap.size w2 (w3'.alloc (Obj.cells #[.pointer none] 275)) := hB'.trans ((recv_below _ _).mono hB'.size)
        have k3' := (hB.cell (p := ⟨I.kb, 3, none⟩) (World.block_lt_of_cell? w2 _ k3)).trans k3
        have hT3 : Turned (fun k => k = I.db x.n) w1 (w3'.alloc (Obj.cells #[.pointer none] 275)) := HT1.out.trans (Turned.of_below hB) (fun _ _ e => e)
        obtain ⟨w4, hr4, HN4⟩ := lose_run HK.out hm d hd hnd (hT3.block _ (HK.out.lt _ _ (HK.out.comp .omap).2) (hne _ _ (HK.out.comp .omap).2 (by simp))) (hT3.mono fun k e => by rw [e]; exact .inl ht) 0
        go_wp2
        go_ret
        exact ⟨rfl, HN4.out⟩
      | pipe q rd wt =>
        rw [show K.dropK d = (K.setOb x.th (.pipe q (leaveR (bit x.flags 2) rd wt) (leaveW (bit x.flags 2) rd wt))).lose x.n by unfold KS.dropK; rw [hx]; simp only; rw [if_neg hc, ho]]
        rw [thing_pipe ho] at k0
        have hO := h.pobj hm
        have hi := h.ok.th x hm
        have hth := KS.tho_eq (K := K) (x := x) hi
        rw [ho] at hO hth
        have hOg : ¬ ρ (I.db x.n) = some (.obj x.th) := fun e => by rw [ht] at e; cases e
        have HL := hide fun W (hB : Turned (fun k => k = I.db x.n) w W) => po_pleave (fun k => ρ k = some (.obj x.th)) (I.ob x.th) q rd wt (bit x.flags 2) W (hO.keep (fun k e hlt => hB.block k hlt (fun e' => hOg (by rw [← e']; exact e))) hB.size)
        clear hb HX hT1
        have HE : Hid (∀ W2, Turned (fun k => k = I.db x.n) w W2 → ∀ W3, PStep W2 (fun k => ρ k = some (.obj x.th)) (I.ob x.th) (.pipe q (leaveR (bit x.flags 2) rd wt) (leaveW (bit x.flags 2) rd wt)) W3 → ∀ ty, ∃ w', (Builtin.delete_ #[114, 3] ty #[.map (some I.om), .int .i64 d]).run Tryz.prog W3 = .ok (.tuple #[]) w' ∧ Hid (PNext ρ I w ((K.setOb x.th (.pipe q (leaveR (bit x.flags 2) rd wt) (leaveW (bit x.flags 2) rd wt))).lose x.n) w')) := hide (by
          intro W2 hT W3 hS ty
          obtain ⟨V, hV1, hV2, hV3, hV4⟩ := restored hlt hOg hT hS
          obtain ⟨ρ', h1', h2', h3'⟩ := h.setOb (O' := hV1.choose) hi (ob' := .pipe q (leaveR (bit x.flags 2) rd wt) (leaveW (bit x.flags 2) rd wt)) (by rw [← hth]; rfl) (hV1.choose_spec.2.2.mono fun k e => Or.inl e) hV1.choose_spec.1 hV1.choose_spec.2.1 (fun ls' scr' e => by cases e)
          have om' := h3'.1 I.om (h.lt _ _ (h.comp .omap).2)
          have db' := h3'.1 (I.db x.n) hlt
          obtain ⟨w', a1, a2⟩ := lose_run h1' (x := x) hm d hd hnd (hV4 I.om (hne _ _ (h.comp .omap).2 (by simp))).symm (hV2.mono fun k e => by rw [e, db']; exact .inl ht) ty
          exact ⟨w', a1, hide (PNext.join h2' (hV1.choose_spec.2.2.mono fun k e => ⟨_, e⟩) rfl a2.out)⟩)
        clear c2
        generalize bit x.flags 2 = wb at *
        cases wb
        · clear h hO
          go_enter Tryz.func71, Tryz.ntmps71
          go_wp2_with fail
          refine HF.out.mono ?_
          rintro e w1 ⟨rfl, rfl⟩
          unfold descV
          go_wp2_with fail
          generalize w1.setCell ⟨I.db x.n, 3, none⟩ (.int .i64 (0 : Int)) = w2 at *
          refine (pipeOf_yes (I.ob x.th) _).mono ?_
          rintro e w3 ⟨rfl, hB'⟩
          have kp := recv_cell w3 (.pointer (some ⟨I.ob x.th, 0, none⟩)) 275
          have hB : Below w2.heap.size w2 (w3.alloc (Obj.cells #[.pointer (some ⟨I.ob x.th, 0, none⟩)] 275)) := hB'.trans ((recv_below _ _).mono hB'.size)
          have k3' := (hB.cell (p := ⟨I.kb, 3, none⟩) (World.block_lt_of_cell? w2 _ k3)).trans k3
          have k2' := (hB.cell (p := ⟨I.db x.n, 2, none⟩) (World.block_lt_of_cell? w2 _ k2)).trans k2
          have hlt2 := World.block_lt_of_cell? w2 _ k2
          have hlt3 := World.block_lt_of_cell? w2 _ k3
          have hsz := hB'.size
          have hT3 : Turned (fun k => k = I.db x.n) w1 (w3.alloc (Obj.cells #[.pointer (some ⟨I.ob x.th, 0, none⟩)] 275)).drew := HT1.out.trans (Turned.of_below (hB.trans ((Below.refl _ _).drew.mono hB.size))) (fun _ _ e => e)
          have HL3 := hide (HL.out _ hT3)
          have HE3 := hide (HE.out _ hT3)
          have hkO : ¬ ρ I.kb = some (.obj x.th) := fun e => by rw [(HK.out.comp .kern).2.1] at e; cases e
          have hnO : ¬ ρ w3.heap.size = some (.obj x.th) := fun e => by have := HK.out.lt _ _ e; have := HT1.out.size; omega
          clear hB HT1 hT3
          go_wp2_with fail
          go_region_held3 (fun w' => w'.cell? ⟨w3.heap.size, 0, none⟩ = some (.pointer (some ⟨I.ob x.th, 0, none⟩)) ∧ w'.cell? ⟨I.db x.n, 2, none⟩ = some (.bool false) ∧ w'.cell? ⟨I.kb, 3, none⟩ = some (.map (some I.om)))
            (first | exact K5 | go_keep)
            (first
              | (go_at_call 179; refine HL3.out.mono ?_; rintro e w5 ⟨rfl, hS5⟩; have K5 : w5.cell? ⟨w3.heap.size, 0, none⟩ = some (.pointer (some ⟨I.ob x.th, 0, none⟩)) ∧ w5.cell? ⟨I.db x.n, 2, none⟩ = some (.bool false) ∧ w5.cell? ⟨I.kb, 3, none⟩ = some (.map (some I.om)) := by obtain ⟨O', hs1, hs2, hs3⟩ := hS5; exact ⟨hs3.cell kp hnO, hs3.cell k2' hOg, hs3.cell k3' hkO⟩)
              | fail)
          obtain ⟨w6, hr6, HN6⟩ := HE3.out w5 hS5 0
          have k35 := K5.2.2
          go_wp2
          go_ret
          exact ⟨rfl, HN6.out⟩
        · clear h hO
          go_enter Tryz.func71, Tryz.ntmps71
          go_wp2_with fail
          refine HF.out.mono ?_
          rintro e w1 ⟨rfl, rfl⟩
          unfold descV
          go_wp2_with fail
          generalize w1.setCell ⟨I.db x.n, 3, none⟩ (.int .i64 (0 : Int)) = w2 at *
          refine (pipeOf_yes (I.ob x.th) _).mono ?_
          rintro e w3 ⟨rfl, hB'⟩
          have kp := recv_cell w3 (.pointer (some ⟨I.ob x.th, 0, none⟩)) 275
          have hB : Below w2.heap.size w2 (w3.alloc (Obj.cells #[.pointer (some ⟨I.ob x.th, 0, none⟩)] 275)) := hB'.trans ((recv_below _ _).mono hB'.size)
          have k3' := (hB.cell (p := ⟨I.kb, 3, none⟩) (World.block_lt_of_cell? w2 _ k3)).trans k3
          have k2' := (hB.cell (p := ⟨I.db x.n, 2, none⟩) (World.block_lt_of_cell? w2 _ k2)).trans k2
          have hlt2 := World.block_lt_of_cell? w2 _ k2
          have hlt3 := World.block_lt_of_cell? w2 _ k3
          have hsz := hB'.size
          have hT3 : Turned (fun k => k = I.db x.n) w1 (w3.alloc (Obj.cells #[.pointer (some ⟨I.ob x.th, 0, none⟩)] 275)).drew := HT1.out.trans (Turned.of_below (hB.trans ((Below.refl _ _).drew.mono hB.size))) (fun _ _ e => e)
          have HL3 := hide (HL.out _ hT3)
          have HE3 := hide (HE.out _ hT3)
          have hkO : ¬ ρ I.kb = some (.obj x.th) := fun e => by rw [(HK.out.comp .kern).2.1] at e; cases e
          have hnO : ¬ ρ w3.heap.size = some (.obj x.th) := fun e => by have := HK.out.lt _ _ e; have := HT1.out.size; omega
          clear hB HT1 hT3
          go_wp2_with fail
          go_region_held3 (fun w' => w'.cell? ⟨w3.heap.size, 0, none⟩ = some (.pointer (some ⟨I.ob x.th, 0, none⟩)) ∧ w'.cell? ⟨I.db x.n, 2, none⟩ = some (.bool true) ∧ w'.cell? ⟨I.kb, 3, none⟩ = some (.map (some I.om)))
            (first | exact K5 | go_keep)
            (first
              | (go_at_call 179; refine HL3.out.mono ?_; rintro e w5 ⟨rfl, hS5⟩; have K5 : w5.cell? ⟨w3.heap.size, 0, none⟩ = some (.pointer (some ⟨I.ob x.th, 0, none⟩)) ∧ w5.cell? ⟨I.db x.n, 2, none⟩ = some (.bool true) ∧ w5.cell? ⟨I.kb, 3, none⟩ = some (.map (some I.om)) := by obtain ⟨O', hs1, hs2, hs3⟩ := hS5; exact ⟨hs3.cell kp hnO, hs3.cell k2' hOg, hs3.cell k3' hkO⟩)
              | fail)
          obtain ⟨w6, hr6, HN6⟩ := HE3.out w5 hS5 0
          have k35 := K5.2.2
          go_wp2
          go_ret
          exact ⟨rfl, HN6.out⟩
end Go.Proofs.YtejcfhjhjplcnaaGreat

/- The program's kernel: new things and new descriptions. -/
namespace Go.Proofs.YtejcfhjhjplcnaaGreat
open Go.RowKit Go.Maps

def upd (f : Nat → Nat) (i v : Nat) : Nat → Nat := fun j => if j = i then v else f j
theorem upd_same (f : Nat → Nat) (i v : Nat) : upd f i v i = v := by simp [upd]
theorem upd_other {f : Nat → Nat} {i v j : Nat} (h : j ≠ i) : upd f i v j = f j := by simp [upd, h]
structure More (K K' : KS) (t : Th) : Prop where
  th : K'.th = K.th ++ [t]
  de : K'.de = K.de
  next : K'.next = K.next
  plan : K'.plan = K.plan
  reads : K'.reads = K.reads
  writes : K'.writes = K.writes
theorem More.obOf {K K' : KS} {t : Th} (h : More K K' t) {j : Nat} (hj : j < K.th.length) : K'.obOf j = K.obOf j := by simp [KS.obOf, h.th, List.getElem?_append_left hj]
theorem More.nameOf {K K' : KS} {t : Th} (h : More K K' t) {j : Nat} (hj : j < K.th.length) : K'.nameOf j = K.nameOf j := by simp [KS.nameOf, h.th, List.getElem?_append_left hj]
theorem More.obNew {K K' : KS} {t : Th} (h : More K K' t) : K'.obOf K.th.length = t.ob := by simp [KS.obOf, h.th]
theorem More.nameNew {K K' : KS} {t : Th} (h : More K K' t) : K'.nameOf K.th.length = t.name := by simp [KS.nameOf, h.th]
theorem More.at {K K' : KS} {t : Th} (h : More K K' t) {j : Nat} (hj : j < K.th.length) (hj' : j < K'.th.length) : K'.th[j] = K.th[j] := by simp [h.th, List.getElem_append_left hj]
theorem More.atNew {K K' : KS} {t : Th} (h : More K K' t) (hj' : K.th.length < K'.th.length) : K'.th[K.th.length] = t := by simp [h.th]
theorem PK.more {W W' : World} {ρ : Nat → Option PTag} {I : PI} {K K' : KS} {t : Th} (h : PK W ρ I K) (hM : More K K' t) (p c : Nat) {O' : Nat → Prop} (hO : PObj W' O' p t.ob) (hO' : ∀ k, O' k → W.heap.size ≤ k ∧ k ≠ c)
    (hc : ∀ ls scr, t.ob = .term ls scr → COc W' c p scr.length ∧ W.heap.size ≤ c) (hT : Turned (fun k => ρ k = some .fmap ∨ ρ k = some .tmap) W W') (hok : KOk K') (hnm : KNm K')
    (hf : PMap W' Tryz.prog 9 I.fm (K'.fl { I with ob := upd I.ob K.th.length p, cb := upd I.cb K.th.length c })) (ht : PMap W' Tryz.prog 9 I.tm (K'.tl { I with ob := upd I.ob K.th.length p, cb := upd I.cb K.th.length c })) :
    ∃ ρ', PK W' ρ' { I with ob := upd I.ob K.th.length p, cb := upd I.cb K.th.length c } K' ∧ newTags ρ ρ' W ∧ ∀ k, k < W.heap.size → ρ' k = ρ k := by
  classical
  obtain ⟨ρ', hρ⟩ : ∃ ρ' : Nat → Option PTag, ρ' = fun k => if k < W.heap.size then ρ k else if k < W'.heap.size then (if k = c then some (.cons K.th.length) else if O' k then some (.obj K.th.length) else none) else none := ⟨_, rfl⟩
  have low : ∀ k, k < W.heap.size → ρ' k = ρ k := fun k hlt => by rw [hρ]; simp [hlt]
  have fit : ∀ {k t}, ρ k = some t → ρ' k = some t := fun {k t} e => (low k (h.lt k t e)).trans e
  have back : ∀ {k t}, ρ' k = some t → ρ k = some t ∨ (W.heap.size ≤ k ∧ k < W'.heap.size) := by
    intro k t e
    by_cases hlt : k < W.heap.size
    · rw [low k hlt] at e; exact .inl e
    · rw [hρ] at e
      simp only [if_neg hlt] at e
      split at e
      · exact .inr ⟨by omega, by assumption⟩
      · cases e
  have key : ∀ t, t ≠ .fmap → t ≠ .tmap → PComp W' ρ I K t := fun t h1 h2 => (h.comp t).keep (fun k e hlt => hT.block k hlt (fun e' => by
    rcases e' with e' | e'
    · rw [e'] at e; exact h1 (Option.some.inj e).symm
    · rw [e'] at e; exact h2 (Option.some.inj e).symm)) hT.size
  have hlen : K'.th.length = K.th.length + 1 := by rw [hM.th]; simp
  have hthv : ∀ d ∈ K.de, thingV { I with ob := upd I.ob K.th.length p, cb := upd I.cb K.th.length c } K' d = thingV I K d := by
    intro d hd
    have hlt := h.ok.th d hd
    unfold thingV
    rw [KS.tho_obOf, KS.tho_obOf, hM.obOf hlt]
    simp only [upd_other (Nat.ne_of_lt hlt)]
  refine ⟨ρ', ⟨fun t' => ?_, fun k t e => ?_, hok, hnm⟩, fun k t e => (back e).imp (fun e' => ⟨t, e'⟩) (fun e' => e'.1), low⟩
  · cases t' with
    | kern =>
      obtain ⟨a1, a2, a3⟩ := key .kern (by simp) (by simp)
      refine ⟨?_, fit a2, by rw [hM.next]; exact a3⟩
      rw [hM.reads, hM.writes]
      exact a1
    | fmap => exact ⟨hf, fit (h.comp .fmap).2⟩
    | tmap => exact ⟨ht, fit (h.comp .tmap).2⟩
    | omap =>
      obtain ⟨a1, a2⟩ := key .omap (by simp) (by simp)
      refine ⟨?_, fit a2⟩
      unfold KS.dl at a1 ⊢
      rw [hM.de]
      exact a1
    | plan =>
      obtain ⟨a1, a2, a3⟩ := key .plan (by simp) (by simp)
      refine ⟨?_, fit a2, fun k e => fit (a3 k e)⟩
      rw [hM.plan]
      exact a1
    | obj j =>
      intro hj
      by_cases e : j = K.th.length
      · subst e
        rw [hM.atNew hj]
        simp only [upd_same]
        refine hO.trim.mono fun k ⟨e1, e2⟩ => ?_
        have := hO' k e1
        rw [hρ]
        simp [Nat.not_lt.2 this.1, e2, this.2, e1]
      · have hj' : j < K.th.length := by omega
        rw [hM.at hj' hj]
        simp only [upd_other e]
        exact (key (.obj j) (by simp) (by simp) hj').mono fun k e => fit e
    | cons j =>
      intro hj ls scr e1
      by_cases e : j = K.th.length
      · subst e
        rw [hM.atNew hj] at e1
        obtain ⟨a1, a2⟩ := hc ls scr e1
        simp only [upd_same]
        have hlt : c < W'.heap.size := (Array.getElem?_eq_some_iff.1 a1).1
        exact ⟨a1, by rw [hρ]; simp [Nat.not_lt.2 a2, hlt]⟩
      · have hj' : j < K.th.length := by omega
        rw [hM.at hj' hj] at e1
        simp only [upd_other e]
        obtain ⟨a1, a2⟩ := key (.cons j) (by simp) (by simp) hj' ls scr e1
        exact ⟨a1, fit a2⟩
    | desc n =>
      intro d hd e
      rw [hM.de] at hd
      obtain ⟨a1, a2⟩ := key (.desc n) (by simp) (by simp) d hd e
      exact ⟨by rw [hthv d hd]; exact a1, fit a2⟩
    | ofile n =>
      intro d hd e b hb
      rw [hM.de] at hd
      have hlt := h.ok.th d hd
      rw [KS.tho_obOf, hM.obOf hlt] at hb
      simp only [upd_other (Nat.ne_of_lt hlt)]
      obtain ⟨a1, a2⟩ := key (.ofile n) (by simp) (by simp) d hd e b hb
      exact ⟨a1, fit a2⟩
  · rcases back e with e' | e'
    · exact Nat.lt_of_lt_of_le (h.lt k t e') hT.size
    · exact e'.2
structure Described (w : World) (I : PI) (K : KS) (tv : Value) (flags : Int) (nb : Nat) (w' : World) : Prop where
  new : w.heap.size ≤ nb
  desc : w'.heap[nb]? = some (.cells ([tv, .bool (bit flags 1), .bool (bit flags 2), .int .i64 (1 : Nat)] : List Value).toArray 257 (0, 0))
  kern : w'.heap[I.kb]? = some (.cells ([.bool true, .map (some I.fm), .map (some I.tm), .map (some I.om), .int .i64 ((I.last + 1 : Nat) : Int), .pointer (some ⟨I.pb, 0, none⟩), .int .i64 K.reads, .int .i64 K.writes] : List Value).toArray 117 (0, 0))
  map : PMap w' Tryz.prog 3 I.om ((dkey (I.last + 1), nb) :: K.dl I)
  turned : Turned (fun k => k = I.kb ∨ k = I.om) w w'
theorem flags_ok1 : flagsOk 1 = true ∧ flagsOk 2 = true := by constructor <;> rfl
theorem PK.newDe {w w' : World} {ρ : Nat → Option PTag} {I : PI} {K : KS} (h : PK w ρ I K) {i : Nat} (hi : i < K.th.length) {flags : Int} (hf : flagsOk flags = true) (hfew : K.de.length < 256) {tv : Value} {nb xb : Nat} (hD : Described w I K tv flags nb w')
    (hx : ∀ b, K.obOf i = .file b → tv = .iface 267 (.pointer (some ⟨xb, 0, none⟩)) ∧ OFc w xb (I.ob i) 0 (bit flags 4) ∧ ρ xb = none)
    (hy : ∀ ls scr, K.obOf i = .term ls scr → tv = .iface 127 (.pointer (some ⟨I.cb i, 0, none⟩)))
    (hz : ∀ q rd wt, K.obOf i = .pipe q rd wt → tv = .iface 275 (.agg #[.pointer (some ⟨I.ob i, 0, none⟩)])) :
    ∃ ρ', PK w' ρ' { I with db := upd I.db K.next nb, xb := upd I.xb K.next xb, last := I.last + 1 } (K.newDe i flags) ∧ (∀ k t, ρ' k = some t → ρ k = some t ∨ k = nb ∨ ((∃ b, K.obOf i = .file b) ∧ k = xb)) ∧ (∀ k t, ρ k = some t → ρ' k = some t) := by
  classical
  have hnx := (h.comp .kern).2.2
  have hkb := (h.comp .kern).2.1
  have hom := (h.comp .omap).2
  obtain ⟨ρ', hρ⟩ : ∃ ρ' : Nat → Option PTag, ρ' = fun k => if k = nb then some (.desc K.next) else if (∃ b, K.obOf i = .file b) ∧ k = xb then some (.ofile K.next) else ρ k := ⟨_, rfl⟩
  have hnb : ∀ {k t}, ρ k = some t → k ≠ nb := fun {k t} e e' => by have := h.lt k t e; have := hD.new; omega
  have fit : ∀ {k t}, ρ k = some t → ρ' k = some t := fun {k t} e => by
    rw [hρ]
    simp only [if_neg (hnb e)]
    rw [if_neg (fun hh => by obtain ⟨⟨b, hb⟩, e'⟩ := hh; rw [e', (hx b hb).2.2] at e; cases e)]
    exact e
  have back : ∀ {k t}, ρ' k = some t → ρ k = some t ∨ k = nb ∨ ((∃ b, K.obOf i = .file b) ∧ k = xb) := fun {k t} e => by
    rw [hρ] at e
    simp only at e
    split at e
    · rename_i hh; exact .inr (.inl hh)
    · split at e
      · rename_i hh; exact .inr (.inr hh)
      · exact .inl e
  have hT := hD.turned
  have key : ∀ t, t ≠ .kern → t ≠ .omap → PComp w' ρ I K t := fun t h1 h2 => (h.comp t).keep (fun k e hlt => hT.block k hlt (fun e' => by
    rcases e' with e' | e'
    · rw [e', hkb] at e; exact h1 (Option.some.inj e).symm
    · rw [e', hom] at e; exact h2 (Option.some.inj e).symm)) hT.size
  have hmem : ∀ d, d ∈ (K.newDe i flags).de → d ∈ K.de ∨ d = ⟨K.next, i, flags, 0, 1⟩ := fun d hd => by
    have : d ∈ K.de ++ [(⟨K.next, i, flags, 0, 1⟩ : De)] := hd
    simpa using this
  have hold : ∀ d ∈ K.de, d.n ≠ K.next := fun d hd => by have := (h.ok.num d hd).2; omega
  have hthv : ∀ d ∈ K.de, thingV { I with db := upd I.db K.next nb, xb := upd I.xb K.next xb, last := I.last + 1 } (K.newDe i flags) d = thingV I K d := by
    intro d hd
    unfold thingV
    rw [show (K.newDe i flags).tho d = K.tho d from rfl]
    simp only [upd_other (hold d hd)]
  have h1n : 1 ≤ K.next := by omega
  refine ⟨ρ', ⟨fun t' => ?_, fun k t e => ?_, ?_, h.nm.same rfl rfl⟩, fun k t e => back e, fun k t e => fit e⟩
  · cases t' with
    | kern => exact ⟨hD.kern, fit hkb, by show K.next + 1 = _; rw [hnx]⟩
    | fmap => obtain ⟨a1, a2⟩ := key .fmap (by simp) (by simp); exact ⟨a1, fit a2⟩
    | tmap => obtain ⟨a1, a2⟩ := key .tmap (by simp) (by simp); exact ⟨a1, fit a2⟩
    | omap =>
      refine ⟨hD.map.perm ?_, fit hom⟩
      unfold KS.dl
      show List.Perm _ (List.map _ (K.de ++ [_]))
      rw [List.map_append]
      simp only [List.map_cons, List.map_nil, upd_same]
      rw [show K.de.map (fun d => (dkey d.n, upd I.db K.next nb d.n)) = K.de.map (fun d => (dkey d.n, I.db d.n)) from List.map_congr_left fun d hd => by rw [upd_other (hold d hd)], hnx]
      exact (List.perm_append_comm (l₁ := [_]) (l₂ := _))
    | plan => obtain ⟨a1, a2, a3⟩ := key .plan (by simp) (by simp); exact ⟨a1, fit a2, fun k e => fit (a3 k e)⟩
    | obj j => exact fun hj => (key (.obj j) (by simp) (by simp) hj).mono fun k e => fit e
    | cons j => exact fun hj ls scr e => by obtain ⟨a1, a2⟩ := key (.cons j) (by simp) (by simp) hj ls scr e; exact ⟨a1, fit a2⟩
    | desc n =>
      intro d hd e
      subst e
      rcases hmem d hd with hd | rfl
      · obtain ⟨a1, a2⟩ := key (.desc d.n) (by simp) (by simp) d hd rfl
        simp only [upd_other (hold d hd)]
        exact ⟨by rw [hthv d hd]; exact a1, fit a2⟩
      · simp only [upd_same]
        refine ⟨?_, by rw [hρ]; simp⟩
        rw [hD.desc]
        have : thingV { I with db := upd I.db K.next nb, xb := upd I.xb K.next xb, last := I.last + 1 } (K.newDe i flags) ⟨K.next, i, flags, 0, 1⟩ = tv := by
          unfold thingV
          rw [show (K.newDe i flags).tho ⟨K.next, i, flags, 0, 1⟩ = K.obOf i from rfl]
          cases ho : K.obOf i with
          | file b => simp only [upd_same]; exact (hx b ho).1.symm
          | term ls scr => exact (hy ls scr ho).symm
          | pipe q rd wt => exact (hz q rd wt ho).symm
        rw [this]
    | ofile n =>
      intro d hd e b hb
      subst e
      rcases hmem d hd with hd | rfl
      · obtain ⟨a1, a2⟩ := key (.ofile d.n) (by simp) (by simp) d hd rfl b hb
        simp only [upd_other (hold d hd)]
        exact ⟨a1, fit a2⟩
      · simp only [upd_same]
        have hb' : K.obOf i = .file b := hb
        obtain ⟨a1, a2, a3⟩ := hx b hb'
        have hlt : xb < w.heap.size := (Array.getElem?_eq_some_iff.1 a2).1
        refine ⟨(hT.block xb hlt (fun e => ?_)).trans a2, ?_⟩
        · rcases e with e | e
          · rw [e, hkb] at a3; cases a3
          · rw [e, hom] at a3; cases a3
        · rw [hρ]
          have : xb ≠ nb := by have := hD.new; omega
          simp [this, hb']
  · rcases back e with e' | rfl | ⟨⟨b, hb⟩, rfl⟩
    · exact Nat.lt_of_lt_of_le (h.lt k t e') hT.size
    · exact (Array.getElem?_eq_some_iff.1 hD.desc).1
    · exact Nat.lt_of_lt_of_le (Array.getElem?_eq_some_iff.1 (hx b hb).2.1).1 hT.size
  · refine ⟨by show (K.de ++ [_]).length ≤ 256; simp; omega, h.ok.named, fun d hd => ?_, h.ok.nm, fun d hd => ?_, fun d hd d' hd' e => ?_, fun d hd => ?_, fun d hd => ?_, fun d hd => ?_, h.ok.plan⟩
    · rcases hmem d hd with hd | rfl
      · exact h.ok.th d hd
      · exact hi
    · rcases hmem d hd with hd | rfl
      · have := h.ok.num d hd; exact ⟨this.1, by show d.n < K.next + 1; omega⟩
      · exact ⟨h1n, by show K.next < K.next + 1; omega⟩
    · rcases hmem d hd with hd | rfl <;> rcases hmem d' hd' with hd' | rfl
      · exact h.ok.once d hd d' hd' e
      · exact absurd e (hold d hd)
      · exact absurd e.symm (hold d' hd')
      · rfl
    · rcases hmem d hd with hd | rfl
      · exact h.ok.flags d hd
      · exact hf
    · rcases hmem d hd with hd | rfl
      · exact h.ok.pos d hd
      · exact Nat.zero_le _
    · rcases hmem d hd with hd | rfl
      · exact h.ok.held d hd
      · exact ⟨Nat.le_refl _, by show (1 : Nat) ≤ 1024; omega⟩
end Go.Proofs.YtejcfhjhjplcnaaGreat

/- The program's kernel: describe. -/
namespace Go.Proofs.YtejcfhjhjplcnaaGreat
open Go.RowKit Go.Maps

set_option maxRecDepth 100000 in
set_option maxHeartbeats 2000000 in
theorem describe_any (ρ : Nat → Option PTag) (I : PI) (K : KS) (tT : TypeId) (tu : Value) (flags : Int) (w : World) (h : PK w ρ I K) (hl : I.last + 1 < 9223372036854775807) :
    Calls Tryz.prog 119 #[.pointer (some ⟨I.kb, 0, none⟩), .iface tT tu, .int .i64 flags] w fun e w' => e = .returned (.int .i64 ((I.last + 1 : Nat) : Int)) ∧ ∃ nb, Described w I K (.iface tT tu) flags nb w' := by
  have c3 := h.cells.opens
  have c4 := h.cells.last
  have c4s : w.frozen? ⟨I.kb, 4, none⟩ = false := frozen_of_row w I.kb 4 _ _ (h.comp .kern).1
  have hb := (h.comp .kern).1
  have hT1 := (Turned.refl (fun k => k = I.kb) w).set (g := I.kb) (j := 4) (u := .int .i64 ((I.last : Int) + 1)) (.inl rfl)
  have b1 : (w.setCell ⟨I.kb, 4, none⟩ (.int .i64 ((I.last : Int) + 1))).heap[I.kb]? = some (.cells ([.bool true, .map (some I.fm), .map (some I.tm), .map (some I.om), .int .i64 ((I.last + 1 : Nat) : Int), .pointer (some ⟨I.pb, 0, none⟩), .int .i64 K.reads, .int .i64 K.writes] : List Value).toArray 117 (0, 0)) := by
    rw [heap_setCell_same 4 _ hb]; rfl
  have d3 : (w.setCell ⟨I.kb, 4, none⟩ (.int .i64 ((I.last : Int) + 1))).cell? ⟨I.kb, 3, none⟩ = some (.map (some I.om)) := by rw [cell_of_row _ I.kb _ _ _ _ b1]; rfl
  have d4 : (w.setCell ⟨I.kb, 4, none⟩ (.int .i64 ((I.last : Int) + 1))).cell? ⟨I.kb, 4, none⟩ = some (.int .i64 ((I.last : Int) + 1)) := by rw [cell_of_row _ I.kb _ _ _ _ b1]; rfl
  have hsz : (w.setCell ⟨I.kb, 4, none⟩ (.int .i64 ((I.last : Int) + 1))).heap.size = w.heap.size := heap_set_size _ _ _ _
  have hkb := h.lt _ _ (h.comp .kern).2.1
  have hom := h.lt _ _ (h.comp .omap).2
  have hne : I.om ≠ I.kb := fun e => by have := (h.comp .omap).2; rw [e, (h.comp .kern).2.1] at this; cases this
  have hfew := h.ok.few
  have hmap : PMap ((w.setCell ⟨I.kb, 4, none⟩ (.int .i64 ((I.last : Int) + 1))).drew.alloc (Obj.cells #[.iface tT tu, .bool (bit flags 1), .bool (bit flags 2), .int .i64 1] 257)) Tryz.prog 3 I.om (K.dl I) := by
    refine (h.comp .omap).1.keep ?_
    rw [Below.heap_alloc _ _ I.om (by show I.om < (w.setCell ⟨I.kb, 4, none⟩ (.int .i64 ((I.last : Int) + 1))).heap.size; omega)]
    exact hT1.block _ hom hne
  have hnew : ∀ p ∈ K.dl I, p.1 ≠ dkey (I.last + 1) := fun p hp e => by
    obtain ⟨d, hd, rfl⟩ := List.mem_map.1 hp
    have := (h.ok.num d hd).2
    have := (h.comp .kern).2.2
    simp only [dkey, Lit.int.injEq] at e
    omega
  obtain ⟨w', hrun, hm', hmt⟩ := hmap.store ikeyed Tryz.underlying114 (by show (K.dl I).length < maxLen; unfold KS.dl maxLen; simp; omega) (key := .int .i64 ((I.last : Int) + 1)) (kl := dkey (I.last + 1)) w.heap.size (by rw [show (dkey (I.last + 1)) = Lit.int .i64 ((I.last : Int) + 1) by simp [dkey]]; exact int_key _ (I64.wf ⟨by omega, by omega⟩)) hnew
  have hB2 : Below w.heap.size (w.setCell ⟨I.kb, 4, none⟩ (.int .i64 ((I.last : Int) + 1))) ((w.setCell ⟨I.kb, 4, none⟩ (.int .i64 ((I.last : Int) + 1))).drew.alloc (Obj.cells #[.iface tT tu, .bool (bit flags 1), .bool (bit flags 2), .int .i64 1] 257)) := (Below.refl _ _).drew.trans ((recv_below _ _).mono (by show w.heap.size ≤ (w.setCell ⟨I.kb, 4, none⟩ (.int .i64 ((I.last : Int) + 1))).heap.size; omega))
  have hT2 := mapTurned_turned hmt
  have HD : Hid (Described w I K (.iface tT tu) flags w.heap.size w') := hide (by
    have hlt2 : w.heap.size < ((w.setCell ⟨I.kb, 4, none⟩ (.int .i64 ((I.last : Int) + 1))).drew.alloc (Obj.cells #[.iface tT tu, .bool (bit flags 1), .bool (bit flags 2), .int .i64 1] 257)).heap.size := by
      have := size_new (w.setCell ⟨I.kb, 4, none⟩ (.int .i64 ((I.last : Int) + 1))).drew (Obj.cells #[.iface tT tu, .bool (bit flags 1), .bool (bit flags 2), .int .i64 1] 257)
      rw [← hsz]; exact this
    refine ⟨Nat.le_refl _, ?_, ?_, hm', ?_⟩
    · rw [hT2.block _ hlt2 (by omega)]
      have := heap_alloc_new (w.setCell ⟨I.kb, 4, none⟩ (.int .i64 ((I.last : Int) + 1))).drew (Obj.cells #[.iface tT tu, .bool (bit flags 1), .bool (bit flags 2), .int .i64 1] 257)
      rw [show (w.setCell ⟨I.kb, 4, none⟩ (.int .i64 ((I.last : Int) + 1))).drew.heap.size = w.heap.size from hsz] at this
      exact this
    · rw [hT2.block _ (by omega) (Ne.symm hne), hB2.block _ hkb]
      exact b1
    · exact ((hT1.mono fun k e => Or.inl e).trans (Turned.of_below (S := fun k => k = I.kb ∨ k = I.om) (hB2.mono (by omega))) (fun _ _ e => e)).trans (hT2.mono fun k e => Or.inr e) (fun _ _ e => e))
  have e3 := (hB2.cell (p := ⟨I.kb, 3, none⟩) hkb).trans d3
  have e4 := (hB2.cell (p := ⟨I.kb, 4, none⟩) hkb).trans d4
  have HF : Hid (w'.cell? ⟨I.kb, 4, none⟩ = some (.int .i64 ((I.last : Int) + 1))) := hide (hT2.cell e4 (Ne.symm hne))
  have hrun' : (Instr.mapUpdate 114 (.map (some I.om)) (.int .i64 ((I.last : Int) + 1)) (.pointer (some ⟨w.heap.size, 0, none⟩))).run Tryz.prog (((w.setCell ⟨I.kb, 4, none⟩ (.int .i64 ((I.last : Int) + 1))).alloc (Obj.cells #[.iface tT tu, .bool (bits .and .i64 flags 1 != 0), .bool (bits .and .i64 flags 2 != 0), .int .i64 1] 257)).drew) = .ok () w' := hrun
  have hF := HF.out
  clear hrun e3 e4 HF
  clear hB2 hT2 hmt hm' hmap hT1 h hb b1
  go_enter Tryz.func119, Tryz.ntmps119
  go_wp2_with fail
  go_region
  go_wp2
  go_ret
  exact ⟨by go_num, _, HD.out⟩
end Go.Proofs.YtejcfhjhjplcnaaGreat

/- The program's kernel: new files. -/
namespace Go.Proofs.YtejcfhjhjplcnaaGreat
open Go.RowKit Go.Maps

theorem more_addTh (K : KS) (t : Th) : More K (K.addTh t) t := ⟨rfl, rfl, rfl, rfl, rfl, rfl⟩
theorem more_addP (K : KS) (ob : Ob) : More K (K.addP ob) ⟨ByteArray.empty, ob⟩ := ⟨rfl, rfl, rfl, rfl, rfl, rfl⟩
theorem addTh_nm (K : KS) (t : Th) : (K.addTh t).nm = insN (K.addTh t).nameOf K.th.length K.nm := rfl
theorem KOk.addTh {K : KS} (h : KOk K) (t : Th) (hl : K.nm.length < 256) : KOk (K.addTh t) := by
  have hlen : (K.addTh t).th.length = K.th.length + 1 := by show (K.th ++ [t]).length = _; simp
  refine ⟨h.few, ?_, fun d hd => by have := h.th d hd; omega, fun i hi => ?_, h.num, h.once, h.flags, h.pos, h.held, h.plan⟩
  · rw [addTh_nm, (insN_perm _ _ _).length_eq]; simp; omega
  · rw [addTh_nm] at hi
    rcases mem_insN.1 hi with rfl | hi
    · omega
    · have := h.nm i hi; omega
theorem KNm.addTh {K : KS} (h : KNm K) (hok : KOk K) (t : Th) (hk : t.ob.kind = 1 ∨ t.ob.kind = 2) (hn : nameOk t.name = true) (hnew : ∀ i ∈ K.nm, K.nameOf i ≠ t.name) : KNm (K.addTh t) := by
  have hM := more_addTh K t
  refine ⟨?_, fun i hi => ?_, fun i hi e => ?_, fun i hi => ?_⟩
  · rw [addTh_nm]
    refine insN_sorted ?_ fun j hj => ?_
    · refine h.sorted.imp_of_mem fun {a b} ha hb hab => ?_
      rw [hM.nameOf (hok.nm a ha), hM.nameOf (hok.nm b hb)]
      exact hab
    · rw [hM.nameOf (hok.nm j hj), hM.nameNew]
      exact hnew j hj
  · rw [addTh_nm] at hi
    rcases mem_insN.1 hi with rfl | hi
    · rw [hM.obNew]; exact hk
    · rw [hM.obOf (hok.nm i hi)]; exact h.kind i hi
  · rw [addTh_nm]
    rw [show (K.addTh t).th.length = K.th.length + 1 by show (K.th ++ [t]).length = _; simp] at hi
    by_cases e' : i = K.th.length
    · exact mem_insN.2 (.inl e')
    · have hlt : i < K.th.length := by omega
      rw [hM.obOf hlt] at e
      exact mem_insN.2 (.inr (h.all i hlt e))
  · rw [addTh_nm] at hi
    rcases mem_insN.1 hi with rfl | hi
    · rw [hM.nameNew]; exact hn
    · rw [hM.nameOf (hok.nm i hi)]; exact h.ok i hi
theorem idx_addTh (K : KS) (hok : KOk K) (t : Th) (c : Int) : ((K.addTh t).nm.filter fun i => ((K.addTh t).obOf i).kind == c).Perm (if t.ob.kind == c then K.th.length :: K.nm.filter (fun i => (K.obOf i).kind == c) else K.nm.filter fun i => (K.obOf i).kind == c) := by
  have hM := more_addTh K t
  rw [addTh_nm]
  refine ((insN_perm _ _ _).filter _).trans ?_
  have e1 : K.nm.filter (fun i => ((K.addTh t).obOf i).kind == c) = K.nm.filter fun i => (K.obOf i).kind == c := List.filter_congr fun i hi => by rw [hM.obOf (hok.nm i hi)]
  rw [List.filter_cons, hM.obNew, e1]
theorem map_old {K : KS} (hok : KOk K) {K' : KS} {t : Th} (hM : More K K' t) (f : Nat → Nat) (v : Nat) (q : Nat → Bool) : (K.nm.filter q).map (fun i => (nkey (K'.nameOf i), upd f K.th.length v i)) = (K.nm.filter q).map fun i => (nkey (K.nameOf i), f i) := by
  refine List.map_congr_left fun i hi => ?_
  have hlt := hok.nm i (List.mem_filter.1 hi).1
  rw [hM.nameOf hlt, upd_other (Nat.ne_of_lt hlt)]
theorem fl_addFile (K : KS) (hok : KOk K) (I : PI) (s : ByteArray) (b : List UInt8) (p c : Nat) : ((K.addTh ⟨s, .file b⟩).fl { I with ob := upd I.ob K.th.length p, cb := upd I.cb K.th.length c }).Perm ((nkey s, p) :: K.fl I) ∧ ((K.addTh ⟨s, .file b⟩).tl { I with ob := upd I.ob K.th.length p, cb := upd I.cb K.th.length c }).Perm (K.tl I) := by
  have hM := more_addTh K ⟨s, .file b⟩
  constructor
  · refine ((idx_addTh K hok ⟨s, .file b⟩ 1).map _).trans ?_
    rw [if_pos (by rfl), List.map_cons, hM.nameNew]
    simp only [upd_same]
    rw [map_old hok hM]
    exact List.Perm.refl _
  · refine ((idx_addTh K hok ⟨s, .file b⟩ 2).map _).trans ?_
    rw [if_neg (by show ¬ (((1 : Int) == 2) = true); decide)]
    simp only
    rw [map_old hok hM]
    exact List.Perm.refl _
theorem fl_addTerm (K : KS) (hok : KOk K) (I : PI) (s : ByteArray) (ls : List (List UInt8)) (scr : List UInt8) (p c : Nat) : ((K.addTh ⟨s, .term ls scr⟩).fl { I with ob := upd I.ob K.th.length p, cb := upd I.cb K.th.length c }).Perm (K.fl I) ∧ ((K.addTh ⟨s, .term ls scr⟩).tl { I with ob := upd I.ob K.th.length p, cb := upd I.cb K.th.length c }).Perm ((nkey s, c) :: K.tl I) := by
  have hM := more_addTh K ⟨s, .term ls scr⟩
  constructor
  · refine ((idx_addTh K hok ⟨s, .term ls scr⟩ 1).map _).trans ?_
    rw [if_neg (by show ¬ (((2 : Int) == 1) = true); decide)]
    simp only
    rw [map_old hok hM]
    exact List.Perm.refl _
  · refine ((idx_addTh K hok ⟨s, .term ls scr⟩ 2).map _).trans ?_
    rw [if_pos (by rfl), List.map_cons, hM.nameNew]
    simp only [upd_same]
    rw [map_old hok hM]
    exact List.Perm.refl _
theorem name_size {s : ByteArray} (h : nameOk s = true) : s.size ≤ 64 := by
  unfold nameOk at h
  simp at h
  exact h.2.1
def Added (ρ : Nat → Option PTag) (I : PI) (K' : KS) (w : World) (n p c : Nat) (w' : World) : Prop :=
  ∃ ρ', PK w' ρ' { I with ob := upd I.ob n p, cb := upd I.cb n c } K' ∧ newTags ρ ρ' w ∧ (∀ k, k < w.heap.size → ρ' k = ρ k) ∧ Turned (Own ρ) w w'
theorem nkey_inj {a b : ByteArray} (h : nkey a = nkey b) : a = b := Go.WideShapes.bytes_inj (by simpa [nkey] using h)
theorem mem_names {K : KS} {I : PI} {s : ByteArray} (hnew : ∀ i ∈ K.nm, K.nameOf i ≠ s) : (∀ q ∈ K.fl I, q.1 ≠ nkey s) ∧ ∀ q ∈ K.tl I, q.1 ≠ nkey s := by
  constructor
  · intro q hq e
    obtain ⟨i, hi, rfl⟩ := List.mem_map.1 hq
    exact hnew i (List.mem_filter.1 hi).1 (nkey_inj e)
  · intro q hq e
    obtain ⟨i, hi, rfl⟩ := List.mem_map.1 hq
    exact hnew i (List.mem_filter.1 hi).1 (nkey_inj e)
theorem fl_len {K : KS} {I : PI} (hok : KOk K) : (K.fl I).length ≤ 256 ∧ (K.tl I).length ≤ 256 := by
  have := hok.named
  constructor
  · have := List.length_filter_le (fun i => (K.obOf i).kind == 1) K.nm
    unfold KS.fl KS.fidx; simp; omega
  · have := List.length_filter_le (fun i => (K.obOf i).kind == 2) K.nm
    unfold KS.tl KS.tidx; simp; omega
set_option maxRecDepth 100000 in
set_option maxHeartbeats 2000000 in
theorem newFile_any (ρ : Nat → Option PTag) (I : PI) (K : KS) (s : ByteArray) (v : Value) (b : List UInt8) (w : World) (h : PK w ρ I K) (hv : Bys w v b) (hb : b.length ≤ 1048576) (hs : nameOk s = true) (hnew : ∀ i ∈ K.nm, K.nameOf i ≠ s) (hl : K.nm.length < 256) :
    Calls Tryz.prog 53 #[.pointer (some ⟨I.kb, 0, none⟩), .string s, v] w fun e w' => ∃ p, e = .returned (.pointer (some ⟨p, 0, none⟩)) ∧ Added ρ I (K.addTh ⟨s, .file b⟩) w K.th.length p I.fm w' := by
  have HN := hide (po_new_file v b w hv hb)
  have HK := hide h
  clear h hv
  go_enter Tryz.func53, Tryz.ntmps53
  go_wp2_with fail
  refine HN.out.mono ?_
  rintro e w1 ⟨p, rfl, hO, hB⟩
  have hP1 := HK.out.under hB
  have c1 := hP1.cells.files
  have hfm := (hP1.comp .fmap)
  obtain ⟨w2, hrun, hm2, hmt⟩ := hfm.1.store skeyed Tryz.underlying112 (by have := (fl_len (I := I) HK.out.ok).1; unfold maxLen; omega) (key := .string s) p (string_key s (by have := name_size hs; unfold maxLen; omega)) (mem_names hnew).1
  have HA : Hid (Added ρ I (K.addTh ⟨s, .file b⟩) w K.th.length p I.fm w2) := hide (by
    have hT2 := mapTurned_turned hmt
    have hfl := fl_addFile K HK.out.ok I s b p I.fm
    have hfmlt := HK.out.lt _ _ (HK.out.comp .fmap).2
    have htm : I.tm ≠ I.fm := fun e => by have := (HK.out.comp .tmap).2; rw [e, (HK.out.comp .fmap).2] at this; cases this
    have hTw : Turned (fun k => ρ k = some .fmap ∨ ρ k = some .tmap) w w2 := (Turned.of_below hB).trans (hT2.mono fun k e => by rw [e]; exact .inl (HK.out.comp .fmap).2) (fun _ _ e => e)
    obtain ⟨ρ', a1, a2, a3⟩ := HK.out.more (more_addTh K ⟨s, .file b⟩) p I.fm (W' := w2) (O' := fun k => w.heap.size ≤ k ∧ k < w1.heap.size) (hO.keep (fun k e hlt => hT2.block k hlt (by omega)) hT2.size) (fun k e => ⟨e.1, by omega⟩) (fun ls scr e => by cases e) hTw
      (HK.out.ok.addTh _ hl) (HK.out.nm.addTh HK.out.ok _ (.inl rfl) hs hnew) (hm2.perm hfl.1.symm)
      (((hP1.comp .tmap).1.keep (hT2.block _ (hP1.lt _ _ (hP1.comp .tmap).2) htm)).perm hfl.2.symm)
    exact ⟨ρ', a1, a2, a3, hTw.mono fun k e => by
      rcases e with e | e
      · exact ⟨_, e⟩
      · exact ⟨_, e⟩⟩)
  clear hP1 hfm hm2 hmt hO
  go_wp2
  go_ret
  exact ⟨p, rfl, HA.out⟩
end Go.Proofs.YtejcfhjhjplcnaaGreat
