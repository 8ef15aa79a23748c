/- What the proof stands on, part 22: the contracts of the program's calls that it reaches. -/
import Derived.Test.YtkkommomefmpgaaGreatKQ21
import Derived.Deep.DeepCutAuto
/- PositionAppend: the walk. -/
namespace Go.Proofs.YtkkommomefmpgaaGreat
open Go.RowKit Go.Maps

def Rw (B : Nat) (W : World) (P : Nat → Prop) (s : Value × List UInt8) : Prop := W.ownsRow B 5 1 s.1 s.2.length (s.2.map bv) ∧ ∀ k, s.1.ownBlock = some k → P k
theorem rw_o (B : Nat) (s : Value × List UInt8) : OAt (fun W P => Rw B W P s) := ⟨fun h hk _ => ⟨owns_keep h.1 (fun k e => hk k (h.2 k e) (h.1.lt k e).2), h.2⟩, fun h => ⟨h.1, fun k e => ⟨h.2 k e, (h.1.lt k e).2⟩⟩⟩
theorem Rw.more {S : Type} {At : World → (Nat → Prop) → S → Prop} (hT : ∀ s, OAt (fun w O => At w O s)) {W : World} {B g : Nat} {x : SS} {P O : Nat → Prop} {v o i b : Value} {l : List UInt8} {s : S} (h : Rw B W P (v, l)) (hL : LV At W B g O x s o i b) (hd : ∀ k, Us g O o i b k → ¬ P k) (hP : ∀ k, P k → k < W.heap.size) (hB : B ≤ W.heap.size) (ch : UInt8) (hn : l.length ≤ 1000000) :
    ∃ a c w2 P', (Builtin.append_ #[40, 40] 40 #[v, .slice (some ⟨W.heap.size, 0, none⟩) 1 1]).run Tryz.prog (W.alloc (Obj.cells #[.int .u8 (ch.toNat : Int)] 5)) = .ok (.slice a (l ++ [ch]).length c) w2 ∧ LV At w2 B g O x s o i b ∧ Rw B w2 P' (.slice a (l ++ [ch]).length c, l ++ [ch]) ∧ (∀ k, Us g O o i b k → ¬ P' k) ∧ (∀ k, P' k → k < w2.heap.size) ∧ Turned (fun k => B ≤ k) W w2 := by
  obtain ⟨hr, ho⟩ := h
  simp only at hr ho
  have hBa := recv_below W (Obj.cells #[.int .u8 (ch.toNat : Int)] 5)
  have hz : (W.alloc (Obj.cells #[.int .u8 (ch.toNat : Int)] 5)).heap.size = W.heap.size + 1 := Array.size_push ..
  obtain ⟨s', w2, hrun, HO, hgr, hbl⟩ := run_append_bytes (W.alloc (Obj.cells #[.int .u8 (ch.toNat : Int)] 5)) 40 B v _ l [ch] (owns_below hr hBa) (lone_bys W ch) (by simp only [List.length_cons, List.length_nil]; omega) (by omega)
  have hT2 : Turned (fun k => v.ownBlock = some k) W w2 := (Turned.of_below hBa).grown hgr (fun k e => .inl e)
  have hz2 := hT2.size
  obtain ⟨a, c, rfl⟩ := owns_slice HO.out
  have hwh : ∀ k, (Value.slice a (l ++ [ch]).length c).ownBlock = some k → v.ownBlock = some k ∨ k = W.heap.size + 1 := fun k e => by
    rcases hbl with e2 | e2
    · exact .inl (by rw [← e2]; exact e)
    · rw [hz] at e2
      rw [e2] at e
      exact .inr (Option.some.inj e).symm
  have hus : ∀ k, Us g O o i b k → k < W.heap.size := fun k e => by
    rcases e with e | e | e | e | e
    · rw [e]; exact hL.st.lt
    · exact hL.ol k e
    · exact (hL.ls.po k e).2.2.2
    · exact (hL.ls.pi k e).2.2.2
    · exact (hL.ls.pb k e).2.2.2
  refine ⟨a, c, w2, fun k => P k ∨ (Value.slice a (l ++ [ch]).length c).ownBlock = some k, hrun, hL.turned hT hT2 (fun k e e' => hd k e (ho k e')), ⟨HO.out, fun k e => .inr e⟩, fun k e e' => ?_, fun k e => ?_, hT2.mono fun k e => (hr.lt k e).1⟩
  · rcases e' with e' | e'
    · exact hd k e e'
    · rcases hwh k e' with e2 | e2
      · exact hd k e (ho k e2)
      · have := hus k e; omega
  · rcases e with e | e
    · have := hP k e; omega
    · exact (HO.out.lt k e).2
def IntsB (W : World) (a : Option Addr) (l : List Int) : Prop := (0 < l.length → ∃ b off, a = some ⟨b, off, none⟩ ∧ ∀ j, j < l.length → W.cell? ⟨b, off + j, none⟩ = some (.int .i64 (l.getD j 0))) ∧ ∀ j, j < l.length → -9223372036854775808 ≤ l.getD j 0 ∧ l.getD j 0 ≤ 9223372036854775807
theorem one_file {W : World} {B : Nat} {v : Value} {us : List Value} {f : ByteArray} {b : List UInt8} (h : W.ownsRow B 86 2 v [(f, b)].length (ncs [(f, b)] us)) (hL : LCells W B ([(f, b)].map Prod.snd) us) :
    ∃ fb fc va vc, v = .slice (some ⟨fb, 0, none⟩) 1 fc ∧ W.cell? ⟨fb, 1, none⟩ = some (.slice va b.length vc) ∧ Bys W (.slice va b.length vc) b := by
  have hul : us.length = 1 := hL.1
  obtain ⟨u, h1, h2⟩ := hL.2.1 0 (by simp)
  have h2' : W.ownsRow B 5 1 u b.length (b.map bv) := h2
  obtain ⟨va, vc, rfl⟩ := owns_slice h2'
  have hx := h
  rcases h.2 with ⟨_, e⟩ | ⟨fb, fc, cur, rfl, _⟩
  · simp at e
  · refine ⟨fb, fc, va, vc, rfl, ?_, Bys.of_owns h2'⟩
    rw [hx.cellAt 1 (by simp)]
    exact (ncs_get [(f, b)] us 0 (by simp) hul).2.trans h1
theorem take_onemore (l : List UInt8) (k : Nat) (h : k < l.length) : l.take (k + 1) = l.take k ++ [l.getD k 0] := by
  rw [List.take_add_one, List.getElem?_eq_getElem h]
  simp [List.getD, h]
def apP (b : List UInt8) (fs : List (Int × Int)) : Plt := ⟨4, 0, b, [], [], fs, [], 0, true⟩
set_option linter.unusedSimpArgs false in
set_option maxRecDepth 100000 in
set_option maxHeartbeats 16000000 in
theorem pappend_any (va : Option Addr) (vc : Nat) (b : List UInt8) (fa : Option Addr) (fc : Nat) (fs : List (Int × Int)) (mode size : Int) (pa : Option Addr) (pc : Nat) (ps : List (List UInt8)) (oa : Option Addr) (oc : Nat) (os : List Int) (w : World) (hb : Bys w (.slice va b.length vc) b) (hc : b.length ≤ vc) (hf : RowsR w 2 FCells (.slice fa fs.length fc) fs) (zf : fs.length * 16 ≤ 140737488351232) (hl : b.length ≤ 140737488351232) (hp : Lns w (.slice pa ps.length pc) ps) (ho : IntsB w oa os) :
    Calls Tryz.prog 5 #[.slice va b.length vc, .slice fa fs.length fc, .int .i64 mode, .int .i64 size, .slice pa ps.length pc, .slice oa os.length oc] w fun e w' => e = .returned (.bool true) ∧ Below w.heap.size w w' := by
  have hP : PltIn w (apP b fs) (.slice va b.length vc) (.slice none 0 0) (.slice none 0 0) (.slice fa fs.length fc) (.slice none 0 0) := ⟨⟨va, vc, rfl, hb, hc⟩, rows_ans (.inl ⟨rfl, rfl⟩), rows_ints (.inl ⟨rfl, rfl⟩), hf, .inl ⟨rfl, rfl⟩⟩
  have HP := hide (pl_new w (apP b fs) _ _ _ _ _ hP)
  have HBy := hide hb
  have HPu := hide hp
  have HOf := hide ho
  clear hb hf hP hp ho
  go_enter Tryz.func5, Tryz.ntmps5
  go_wp2_with fail
  refine (alive14 _).mono ?_
  rintro _ w1 ⟨rfl, hB1⟩
  have HB1 := hide hB1
  have hM := make_kernel (apP b fs) _ _ _ _ _ w1 false (HP.out _ hB1) (show (wrap64 ((4 : Int).tmod 6 + 6)).tmod 6 = 4 by kernel_rfl) zf (Nat.zero_le _) (show I64 0 from ⟨by decide, by decide⟩)
  have HM := hide hM
  clear hB1 hM
  go_wp2_with fail
  refine HM.out.mono ?_
  rintro _ w2 ⟨hB2, h2⟩
  have HB2 := hide (HB1.out.trans (hB2.mono HB1.out.size))
  have hN := fun W => sNew_any moAp mode size W
  unfold mv at hN
  clear hB2 HM
  rcases h2 with ⟨p, rfl⟩ | ⟨mb, kb, rb, g, hmb, rfl, -, -, hMd, hPP⟩
  · have HN := hide hN
    clear hN
    generalize SS.new moAp mode size = q at *
    go_wp2_with fail
    refine (HN.out _).mono ?_
    rintro _ w3 ⟨rfl, hB3⟩
    have HB3 := hide (HB2.out.trans (hB3.mono HB2.out.size))
    clear hB3 HN
    go_wp2_with (first | (go_at_call 27; refine (num14 _ _).mono ?_; rintro _ _ ⟨rfl, rfl⟩) | fail)
    go_ret
    exact ⟨rfl, HB3.out.trans ((recv_below w3 _).mono HB3.out.size)⟩
  rw [new_Ap] at hN
  by_cases hok : (1 ≤ mode ∧ mode ≤ 3) ∧ (1 ≤ size ∧ size ≤ 65536)
  case neg =>
    obtain ⟨q, hq, hq0⟩ : ∃ q : SS × Int, (if 1 ≤ mode ∧ mode ≤ 3 then (if 1 ≤ size ∧ size ≤ 65536 then (xRW mode size, 0) else (ss0, 4)) else (ss0, 1)) = q ∧ q.2 ≠ 0 := by
      refine ⟨_, rfl, ?_⟩
      by_cases h1 : 1 ≤ mode ∧ mode ≤ 3
      · rw [if_pos h1, if_neg (fun h2 => hok ⟨h1, h2⟩)]; decide
      · rw [if_neg h1]; decide
    rw [hq] at hN
    obtain ⟨qx, qe⟩ := q
    simp only at hN hq0
    have HN := hide hN
    have hb1 : (qe == 0) = false := by simp [hq0]
    have hb2 : (qe != 0) = true := by simp [hq0]
    clear hN hq hq0 hok
    go_wp2_with fail
    refine (HN.out _).mono ?_
    rintro _ w3 ⟨rfl, hB3⟩
    have HB3 := hide (HB2.out.trans (hB3.mono HB2.out.size))
    clear hB3 HN
    go_wp2_with (first | (go_at_call 27; refine (num14 _ _).mono ?_; rintro _ _ ⟨rfl, rfl⟩) | fail)
    go_ret
    exact ⟨rfl, HB3.out.trans ((recv_below w3 _).mono HB3.out.size)⟩
  rw [if_pos hok.1, if_pos hok.2] at hN
  simp only at hN
  have HN := hide hN
  obtain ⟨t1, t2⟩ := ap_made b fs
  have HMd : Hid (MkrAt mb kb rb g 1 w2) := hide (by rw [← t1]; exact hMd)
  have HPP : Hid (PP (fun K w O => KAt w O kb K) (fun K w O => RwS g rb 1 w O K) (KAp b 0 fs 0 0) (mb + 1) w2) := hide (by
    have h := hPP
    unfold apP at h
    rw [t1, t2] at h
    simp only at h
    rw [ap_seek0] at h
    exact h)
  clear hN hMd hPP t1 t2
  go_wp2_with fail
  refine (HN.out _).mono ?_
  rintro _ w3 ⟨rfl, hB3⟩
  have HB3 := hide (HB2.out.trans (hB3.mono HB2.out.size))
  have HB23 := hide hB3
  clear hB3 HN
  by_cases h5 : 5000 < b.length
  case pos =>
    have q5 : (5000 : Int) < (b.length : Int) := by omega
    go_wp2_with (first | (go_at_call 27; refine (num14 _ _).mono ?_; rintro _ _ ⟨rfl, rfl⟩) | fail)
    go_ret
    exact ⟨rfl, HB3.out.trans ((recv_below w3 _).mono HB3.out.size)⟩
  have q5 : ¬ (5000 : Int) < (b.length : Int) := by omega
  go_upto_region 7 with (first | (go_at_call 27; refine (num14 _ _).mono ?_; rintro _ _ ⟨rfl, rfl⟩) | fail)
  clear q5
  have HB5 : Hid (b.length ≤ 5000) := hide (by omega)
  clear h5
  have hBn := recv_below w3 (Obj.cells #[.bool (xRW mode size).rd, .bool (xRW mode size).wt, .int .i64 (xRW mode size).mode, .int .i64 (xRW mode size).size, .slice none 0 0, .slice none 0 0, .slice none 0 0, .int .i64 (xRW mode size).dir, .bool (xRW mode size).fin, .bool (xRW mode size).bad, .bool (xRW mode size).closed] 58)
  have HV : Hid (∃ O, LV (fun w O K => KAt w O kb K) (w3.alloc (Obj.cells #[.bool (xRW mode size).rd, .bool (xRW mode size).wt, .int .i64 (xRW mode size).mode, .int .i64 (xRW mode size).size, .slice none 0 0, .slice none 0 0, .slice none 0 0, .int .i64 (xRW mode size).dir, .bool (xRW mode size).fin, .bool (xRW mode size).bad, .bool (xRW mode size).closed] 58)) (mb + 1) w3.heap.size O (xRW mode size) (KAp b 0 fs 0 0) (.slice none 0 0) (.slice none 0 0) (.slice none 0 0)) := hide (by
    obtain ⟨O, P, hA, -, hO, -⟩ := HPP.out
    have hA3 := (kat_o kb (KAp b 0 fs 0 0)).keep hA (fun j _ hl => HB23.out.block j hl) HB23.out.size
    have hz := HB23.out.size
    refine ⟨O, heap_alloc_new w3 _, SIn.nils0 rfl rfl rfl, (kat_o kb (KAp b 0 fs 0 0)).keep hA3 (fun j _ hl => hBn.block j hl) hBn.size, fun j e => ?_, fun j e => (hO j e).1, fun e => ?_, ?_⟩
    · have := (hO j e).2.1; have := hBn.size; omega
    · have := (hO _ e).2.1; omega
    · have h9 := World.block_lt_of_cell? w2 _ (cell_of_row w2 mb 0 _ _ _ HMd.out); show mb + 1 ≤ w3.heap.size; have h10 : mb < w2.heap.size := h9; omega)
  have HPl : Hid (planOk fs) := hide (by
    obtain ⟨O, P, hA, -⟩ := HPP.out
    exact hA.ok.1.plan)
  have HAp : Hid (Ap False (xRW mode size) (KAp b 0 fs 0 0) b ∧ (xRW mode size).out = []) := hide ⟨⟨rfl, hok.1.1, hok.1.2, hok.2.1, hok.2.2, by show (0 : Int) < size; omega, fun _ => rfl, rfl, rfl, rfl, .inr ⟨rfl, rfl⟩, ⟨b, 0, fs, 0, 0, rfl, HPl.out, by show b ++ [] = b; simp, Nat.zero_le _, fun e => e.elim⟩, by have := HB5.out; omega⟩, rfl⟩
  have HKb : Hid (kB 1000000 (KAp b 0 fs 0 0)) := hide ⟨by show 0 + 1000000 * 8192 ≤ _; decide, by show 0 + 1000000 * 536879104 ≤ _; decide⟩
  have hmb2 : mb < w2.heap.size := World.block_lt_of_cell? w2 _ (cell_of_row w2 mb 0 _ _ _ HMd.out)
  have HMn : Hid (MkrAt mb kb rb g 1 (w3.alloc (Obj.cells #[.bool (xRW mode size).rd, .bool (xRW mode size).wt, .int .i64 (xRW mode size).mode, .int .i64 (xRW mode size).size, .slice none 0 0, .slice none 0 0, .slice none 0 0, .int .i64 (xRW mode size).dir, .bool (xRW mode size).fin, .bool (xRW mode size).bad, .bool (xRW mode size).closed] 58))) := hide (((hBn.block mb (by have := HB23.out.size; omega)).trans (HB23.out.block mb hmb2)).trans HMd.out)
  have HBw := hide (HB3.out.trans (hBn.mono HB3.out.size))
  have hBw : mb + 1 ≤ (w3.alloc (Obj.cells #[.bool (xRW mode size).rd, .bool (xRW mode size).wt, .int .i64 (xRW mode size).mode, .int .i64 (xRW mode size).size, .slice none 0 0, .slice none 0 0, .slice none 0 0, .int .i64 (xRW mode size).dir, .bool (xRW mode size).fin, .bool (xRW mode size).bad, .bool (xRW mode size).closed] 58)).heap.size := by have := HB23.out.size; have := hBn.size; omega
  have HWm : Hid (w.heap.size ≤ mb) := hide (by have := HB1.out.size; omega)
  obtain ⟨gs, hgs⟩ : ∃ gs, gs = w3.heap.size := ⟨_, rfl⟩
  rw [← hgs] at HV
  simp only [← hgs]
  generalize w3.alloc (Obj.cells #[.bool (xRW mode size).rd, .bool (xRW mode size).wt, .int .i64 (xRW mode size).mode, .int .i64 (xRW mode size).size, .slice none 0 0, .slice none 0 0, .slice none 0 0, .int .i64 (xRW mode size).dir, .bool (xRW mode size).fin, .bool (xRW mode size).bad, .bool (xRW mode size).closed] 58) = w4 at *
  clear hBn HPP HMd HPl hmb2 HB3 HB23 hgs hok hmb HP HB1 HB2
  go_wp2_with fail
  refine (copy_any _ b w4 (HBy.out.below HBw.out) hl).mono ?_
  rintro _ w5 ⟨vv, rfl, hO5, hB5⟩
  obtain ⟨wa, wc0, rfl⟩ := owns_slice hO5
  have HV5 : Hid (∃ O, LV (fun w O K => KAt w O kb K) w5 (mb + 1) gs O (xRW mode size) (KAp b 0 fs 0 0) (.slice none 0 0) (.slice none 0 0) (.slice none 0 0) ∧ (Rw (mb + 1) w5 (fun k => (Value.slice wa b.length wc0).ownBlock = some k) (.slice wa b.length wc0, b) ∧ (∀ k, Us gs O (.slice none 0 0) (.slice none 0 0) (.slice none 0 0) k → ¬ (Value.slice wa b.length wc0).ownBlock = some k) ∧ ∀ k, (Value.slice wa b.length wc0).ownBlock = some k → k < w5.heap.size)) := hide (by
    obtain ⟨O, hV⟩ := HV.out
    have hno : ∀ k, (Value.slice none 0 0).ownBlock = some k → False := fun k e => by simp [Value.ownBlock] at e
    refine ⟨O, hV.below (fun s => kat_o kb s) hB5, ⟨owns_mono hO5 hBw, fun k e => e⟩, fun k e e2 => ?_, fun k e => (hO5.lt k e).2⟩
    have h1 := (hO5.lt k e2).1
    rcases e with e | e | e | e | e
    · have := hV.st.lt; omega
    · have := hV.ol k e; omega
    · exact hno k e
    · exact hno k e
    · exact hno k e)
  have HM5 : Hid (MkrAt mb kb rb g 1 w5) := hide ((hB5.block mb (by omega)).trans HMn.out)
  have HT5 : Hid (Below w.heap.size w w5 ∧ mb + 1 ≤ w5.heap.size) := hide ⟨HBw.out.trans (hB5.mono HBw.out.size), by have := hB5.size; omega⟩
  clear hO5 hB5 HV HMn HBw hBw
  go_wp2_with fail
  go_loopw [17, 18] (fun s17 s18 wr => ∃ (i : Nat) (x : SS) (K : KS) (W : List UInt8) (o' i' b' : Value) (O P : Nat → Prop), i ≤ 30 ∧ i ≤ ps.length ∧ s18 = .int .i64 i ∧ W.length ≤ 5000 + 100 * i ∧ Hid (Ap False x K W ∧ x.out = []) ∧ Hid (kB (1000000 - 1000 * i) K) ∧ Hid (LV (fun w O K => KAt w O kb K) wr (mb + 1) gs O x K o' i' b') ∧ Hid (Rw (mb + 1) wr P (s17, W) ∧ (∀ k, Us gs O o' i' b' k → ¬ P k) ∧ ∀ k, P k → k < wr.heap.size) ∧ Hid (Turned (fun k => mb + 1 ≤ k) w5 wr)) (fun _ s18 _ => 30 - (intOf s18).toNat)
  case atStart => exact ⟨0, _, _, b, _, _, _, _, _, Nat.zero_le _, Nat.zero_le _, rfl, by have := HB5.out; omega, HAp, HKb, hide HV5.out.choose_spec.1, hide HV5.out.choose_spec.2, hide (Turned.refl _ _)⟩
  case round =>
    clear HV5 HAp HKb
    obtain ⟨i, x, K, Wt, o', i', b', O, P, hi1, hi2, rfl, hWl, HAp, HKb, HLV, HRw, HTT⟩ := hrel
    obtain ⟨y1, y4, rfl, -⟩ := HLV.out.ls.so
    obtain ⟨y2, y5, rfl, -⟩ := HLV.out.ls.si
    obtain ⟨y3, y6, rfl, -⟩ := HLV.out.ls.sb
    obtain ⟨wq, hwq⟩ : ∃ W, W = wr := ⟨_, rfl⟩
    subst hwq
    have HSZ : Hid (mb + 1 ≤ wq.heap.size) := hide (Nat.le_trans HT5.out.2 HTT.out.size)
    obtain ⟨wa1, wc1, hwa⟩ := owns_slice HRw.out.1.1
    simp only at hwa
    subst hwa
    by_cases hlt : i < ps.length ∧ i < 30
    case neg =>
      have d5 : wq.cell? ⟨mb, 5, none⟩ = some (.pointer (some ⟨kb, 0, none⟩)) := (HTT.out.cell (cell_of_row w5 mb 5 _ _ _ HM5.out) (fun e => by simp only at e; omega))
      obtain ⟨F, p, L, rd, wr0, hK, -, hW, -⟩ := HAp.out.1.st
      rw [HAp.out.2, List.append_nil] at hW
      have HFi := hide HLV.out.raw.files
      rw [hK, ap_files, hW] at HFi
      have HBq := hide (HT5.out.1.trans ((HTT.out.below (B := w.heap.size) (fun k e => by have := HWm.out; omega) HT5.out.1.size)))
      have HWr := hide (Bys.of_owns HRw.out.1.1)
      have HSq := hide HBq.out.size
      clear hK hW
      by_cases h1 : i < ps.length
      case' pos =>
        have b1 : (i : Int) < (ps.length : Int) := by omega
        have b2 : ¬ (i : Int) < 30 := by omega
        clear hlt h1
      case' neg =>
        have b1 : ¬ (i : Int) < (ps.length : Int) := by omega
        clear hlt h1
      all_goals
        go_wp2_with fail
        refine HFi.out.mono ?_
        rintro e w8 ⟨v, us, rfl, hO8, hL8, hB8⟩
        obtain ⟨fb, fc, va9, vc9, rfl, hc3, hbx⟩ := one_file hO8 hL8
        have HS9 := hide (same_any (.slice va9 Wt.length vc9) (.slice wa1 Wt.length wc1) Wt w8 hbx (HWr.out.below hB8) (by unfold maxLen; omega))
        have HB8 := hide (HBq.out.trans (hB8.mono HSq.out))
        clear hO8 hL8 hB8 hbx
        go_wp2_with (first | (go_at_call 33; refine HS9.out.mono ?_; rintro _ wz ⟨rfl, hBz⟩) | fail)
        go_ret
        exact ⟨rfl, HB8.out.trans (hBz.mono HB8.out.size)⟩
    case pos =>
      obtain ⟨tb, tq, qa, qc, rfl, hcell, hby⟩ := HPu.out.at i hlt.1
      generalize ps[i]'hlt.1 = t at *
      have hb1 : (i : Int) < (ps.length : Int) := by omega
      have hb2 : (i : Int) < 30 := by omega
      have hb3 : (0 : Int) ≤ (i : Int) := by omega
      have htbl : tb < w.heap.size := World.block_lt_of_cell? w _ hcell
      have HTB := hide ((HT5.out.1.cell htbl).trans hcell)
      have HBt := hide hby
      have HTl : Hid (tb < w.heap.size) := hide htbl
      clear hcell hby htbl
      go_upto_if 72 with fail
      go_cut [] (fun wx => ∃ (x : SS) (K : KS) (o' i' b' : Value) (O P : Nat → Prop), Hid (Ap False x K Wt) ∧ Hid (kB (1000000 - 1000 * i - 2) K) ∧ Hid (LV (fun w O K => KAt w O kb K) wx (mb + 1) gs O x K o' i' b') ∧ Hid (Rw (mb + 1) wx P (.slice wa1 Wt.length wc1, Wt) ∧ (∀ k, Us gs O o' i' b' k → ¬ P k) ∧ ∀ k, P k → k < wx.heap.size) ∧ Hid (Turned (fun k => mb + 1 ≤ k) w5 wx))
      case first =>
        by_cases hof : i < os.length
        case neg =>
          have q9 : ¬ (i : Int) < (os.length : Int) := by omega
          go_wp2
          go_meet
          exact ⟨x, K, _, _, _, O, P, hide HAp.out.1, hide (kB_le (by omega) HKb.out), HLV, HRw, HTT⟩
        case pos =>
          have q9 : (i : Int) < (os.length : Int) := by omega
          obtain ⟨ob, oo, hoa, hoc⟩ := HOf.out.1 (by omega)
          have hd := hoc i hof
          have hob := HOf.out.2 i hof
          subst hoa
          have hobl : ob < w.heap.size := World.block_lt_of_cell? w _ hd
          have hwm := HWm.out
          have d0 : wq.cell? ⟨mb, 0, none⟩ = some (.iface 294 (.agg #[.pointer (some ⟨kb, 0, none⟩), .int .i64 1])) := HTT.out.cell (cell_of_row w5 mb 0 _ _ _ HM5.out) (fun e => by simp only at e; omega)
          have d1 : wq.cell? ⟨ob, oo + i, none⟩ = some (.int .i64 (os.getD i 0)) := HTT.out.cell ((HT5.out.1.cell hobl).trans hd) (fun e => by simp only at e; omega)
          generalize os.getD i 0 = off at *
          have HLow : Hid (mb < wq.heap.size ∧ ob ≤ mb ∧ ob < wq.heap.size) := hide (by have := HSZ.out; omega)
          have HK4 : Hid (kB 4 K) := hide (kB_le (by omega) HKb.out)
          have hBZ : Below wq.heap.size wq (wq.alloc (Obj.cells #[.bool false, .bool false, .int .i64 0, .int .i64 0, .slice none 0 0, .slice none 0 0, .slice none 0 0, .int .i64 0, .bool false, .bool false, .bool false] 58)).drew := (recv_below wq (Obj.cells #[.bool false, .bool false, .int .i64 0, .int .i64 0, .slice none 0 0, .slice none 0 0, .slice none 0 0, .int .i64 0, .bool false, .bool false, .bool false] 58)).trans (Below.refl _ _).drew
          have HVd := hide (HLV.out.below (fun s => kat_o kb s) (Below.refl _ wq).drew)
          have HVz := hide (HLV.out.below (fun s => kat_o kb s) hBZ)
          have hp := pseek_any (K := kSk) (ker_raw kb 1 ⟨by decide, by decide⟩) (fun s => kat_o kb s) (ker_bears 1) (ker_seek kb 1 ⟨by decide, by decide⟩) (ker_bearsS 1) off 0 HVd.out.ls HVd.out.raw HVd.out.ol HK4.out HAp.out.1.lens.1 HAp.out.1.lens.2.1 HAp.out.1.lens.2.2 hob
          have hpz := pseek_any (K := kSk) (ker_raw kb 1 ⟨by decide, by decide⟩) (fun s => kat_o kb s) (ker_bears 1) (ker_seek kb 1 ⟨by decide, by decide⟩) (ker_bearsS 1) off 0 HVz.out.ls HVz.out.raw HVz.out.ol HK4.out HAp.out.1.lens.1 HAp.out.1.lens.2.1 HAp.out.1.lens.2.2 hob
          have HApN := hide (HAp.out.1.seek HKb.out off)
          have HKbN := hide (seek_bear (n := 1000000 - 1000 * i - 2) (x := x) off (kB_le (by omega) HKb.out) (by rw [HAp.out.2]; simp))
          generalize x.seek (kerD 1) kSk K off 0 = X at *
          obtain ⟨x', nn, ee, K'⟩ := X
          simp only at hp hpz HApN HKbN
          have HP := hide hp
          have HPz := hide hpz
          have HSn : Hid (∀ W W', Below wq.heap.size wq W → Turned O W W' → (fun W => StAt W gs x (.slice y1 x.out.length y4) (.slice y2 x.inn.length y5) (.slice y3 x.back.length y6) ∧ W.cell? ⟨mb, 0, none⟩ = some (.iface 294 (.agg #[.pointer (some ⟨kb, 0, none⟩), .int .i64 1])) ∧ W.cell? ⟨ob, oo + i, none⟩ = some (.int .i64 off)) W') := hide (fun W W' hW hT => ⟨(hT.block gs (Nat.lt_of_lt_of_le HLV.out.st.lt hW.size) HLV.out.og).trans (HLV.out.st.below hW), hT.cell ((hW.cell (World.block_lt_of_cell? wq _ d0)).trans d0) (fun e => by have h1 := HLV.out.ob _ e; have h2 := HLow.out; simp only at h1; omega), hT.cell ((hW.cell (World.block_lt_of_cell? wq _ d1)).trans d1) (fun e => by have h1 := HLV.out.ob _ e; have h2 := HLow.out; simp only at h1; omega)⟩)
          have HSt : Hid (∀ W W', (fun W => StAt W gs x (.slice y1 x.out.length y4) (.slice y2 x.inn.length y5) (.slice y3 x.back.length y6) ∧ W.cell? ⟨mb, 0, none⟩ = some (.iface 294 (.agg #[.pointer (some ⟨kb, 0, none⟩), .int .i64 1])) ∧ W.cell? ⟨ob, oo + i, none⟩ = some (.int .i64 off)) W → Turned (fun k => k = wq.heap.size) W W' → (fun W => StAt W gs x (.slice y1 x.out.length y4) (.slice y2 x.inn.length y5) (.slice y3 x.back.length y6) ∧ W.cell? ⟨mb, 0, none⟩ = some (.iface 294 (.agg #[.pointer (some ⟨kb, 0, none⟩), .int .i64 1])) ∧ W.cell? ⟨ob, oo + i, none⟩ = some (.int .i64 off)) W') := hide (fun W W' h hT => ⟨(hT.block gs h.1.lt (by have := HLV.out.st.lt; omega)).trans h.1, hT.cell h.2.1 (fun e => by have h1 : _ = wq.heap.size := e; have h2 := HLow.out; simp only at h1; omega), hT.cell h.2.2 (fun e => by have h1 : _ = wq.heap.size := e; have h2 := HLow.out; simp only at h1; omega)⟩)
          have HSb : Hid (∀ W W', (fun W => StAt W gs x (.slice y1 x.out.length y4) (.slice y2 x.inn.length y5) (.slice y3 x.back.length y6) ∧ W.cell? ⟨mb, 0, none⟩ = some (.iface 294 (.agg #[.pointer (some ⟨kb, 0, none⟩), .int .i64 1])) ∧ W.cell? ⟨ob, oo + i, none⟩ = some (.int .i64 off)) W → Below W.heap.size W W' → (fun W => StAt W gs x (.slice y1 x.out.length y4) (.slice y2 x.inn.length y5) (.slice y3 x.back.length y6) ∧ W.cell? ⟨mb, 0, none⟩ = some (.iface 294 (.agg #[.pointer (some ⟨kb, 0, none⟩), .int .i64 1])) ∧ W.cell? ⟨ob, oo + i, none⟩ = some (.int .i64 off)) W') := hide (fun W W' h hB => ⟨h.1.below hB, (hB.cell (World.block_lt_of_cell? W _ h.2.1)).trans h.2.1, (hB.cell (World.block_lt_of_cell? W _ h.2.2)).trans h.2.2⟩)
          have HZ0 : Hid ((wq.alloc (Obj.cells #[.bool false, .bool false, .int .i64 0, .int .i64 0, .slice none 0 0, .slice none 0 0, .slice none 0 0, .int .i64 0, .bool false, .bool false, .bool false] 58)).drew.heap[wq.heap.size]? = some (Obj.cells #[.bool false, .bool false, .int .i64 0, .int .i64 0, .slice none 0 0, .slice none 0 0, .slice none 0 0, .int .i64 0, .bool false, .bool false, .bool false] 58)) := hide (heap_alloc_new wq (Obj.cells #[.bool false, .bool false, .int .i64 0, .int .i64 0, .slice none 0 0, .slice none 0 0, .slice none 0 0, .int .i64 0, .bool false, .bool false, .bool false] 58))
          clear hp hpz hBZ hoc hd hob hobl hwm
          go_upto_region 12 with fail
          go_cut [19] (fun p wx => ∃ (gt : Nat) (a1 a2 a3 : Option Addr) (a4 a5 a6 : Nat), p = .pointer (some ⟨gt, 0, none⟩) ∧ Hid (StAt wx gt x' (.slice a1 x'.out.length a4) (.slice a2 x'.inn.length a5) (.slice a3 x'.back.length a6)) ∧ Hid (SOut (fun w O K => KAt w O kb K) wq.drew O x' K' (.slice a1 x'.out.length a4) (.slice a2 x'.inn.length a5) (.slice a3 x'.back.length a6) wx))
          case first =>
            refine wp_region_noPanic ?_
            refine wp_region_held_drew (S := fun W => StAt W gs x (.slice y1 x.out.length y4) (.slice y2 x.inn.length y5) (.slice y3 x.back.length y6) ∧ W.cell? ⟨mb, 0, none⟩ = some (.iface 294 (.agg #[.pointer (some ⟨kb, 0, none⟩), .int .i64 1])) ∧ W.cell? ⟨ob, oo + i, none⟩ = some (.int .i64 off)) (by kernel_rfl) (HSn.out _ _ (Below.refl _ _).drew (Turned.refl _ _)) (fun hHeld => ?_)
            refine wpAnyH_take (i := 0) (oi := ?_) (v := ?_) ?_ (by kernel_rfl) (by kernel_rfl) (by kernel_rfl) (fun _ _ _ h => (h : False).elim) (Or.inl ⟨?_, ?_⟩) hHeld ?_
            rotate_left 2
            · (simp only [List.getElem?_toArray, List.getElem?_cons_zero]; rfl)
            · rfl
            · (intro W hSw; obtain ⟨hq1, hq2, hq3⟩ := hSw; obtain ⟨m0, m1, m2, m3, m4, m5, m6, m7, m8, m9, m10⟩ := hq1.cs; go_simp <;> with_reducible rfl)
            try simp only [Act.put, List.setIfInBounds_toArray, List.set_cons_zero, List.set_cons_succ]
            refine wpAnyH_take (i := 1) (oi := ?_) (v := ?_) ?_ (by kernel_rfl) (by kernel_rfl) (by kernel_rfl) (fun _ _ _ h => (h : False).elim) (Or.inl ⟨?_, ?_⟩) hHeld ?_
            rotate_left 2
            · (simp only [List.getElem?_toArray, List.getElem?_cons_zero, List.getElem?_cons_succ]; rfl)
            · rfl
            · (intro W hSw; obtain ⟨hq1, hq2, hq3⟩ := hSw; obtain ⟨m0, m1, m2, m3, m4, m5, m6, m7, m8, m9, m10⟩ := hq1.cs; go_simp <;> with_reducible rfl)
            try simp only [Act.put, List.setIfInBounds_toArray, List.set_cons_zero, List.set_cons_succ]
            refine wpAnyH_take (i := 2) (oi := ?_) (v := ?_) ?_ (by kernel_rfl) (by kernel_rfl) (by kernel_rfl) (fun _ _ _ h => (h : False).elim) (Or.inl ⟨?_, ?_⟩) hHeld ?_
            rotate_left 2
            · (simp only [List.getElem?_toArray, List.getElem?_cons_zero, List.getElem?_cons_succ]; rfl)
            · rfl
            · (intro W hSw; obtain ⟨hq1, hq2, hq3⟩ := hSw; obtain ⟨m0, m1, m2, m3, m4, m5, m6, m7, m8, m9, m10⟩ := hq1.cs; go_simp <;> with_reducible rfl)
            try simp only [Act.put, List.setIfInBounds_toArray, List.set_cons_zero, List.set_cons_succ]
            refine wpAnyH_take (i := 3) (oi := ?_) (v := ?_) ?_ (by kernel_rfl) (by kernel_rfl) (by kernel_rfl) (fun _ _ _ h => (h : False).elim) (Or.inl ⟨?_, ?_⟩) hHeld ?_
            rotate_left 2
            · (simp only [List.getElem?_toArray, List.getElem?_cons_zero, List.getElem?_cons_succ]; rfl)
            · rfl
            · (intro W hSw; obtain ⟨hq1, hq2, hq3⟩ := hSw; obtain ⟨m0, m1, m2, m3, m4, m5, m6, m7, m8, m9, m10⟩ := hq1.cs; go_simp <;> with_reducible rfl)
            try simp only [Act.put, List.setIfInBounds_toArray, List.set_cons_zero, List.set_cons_succ]
            refine wpAnyH_take (i := 4) (oi := ?_) (v := ?_) ?_ (by kernel_rfl) (by kernel_rfl) (by kernel_rfl) (fun _ _ _ h => (h : False).elim) (Or.inl ⟨?_, ?_⟩) hHeld ?_
            rotate_left 2
            · (simp only [List.getElem?_toArray, List.getElem?_cons_zero, List.getElem?_cons_succ]; rfl)
            · rfl
            · (intro W hSw; obtain ⟨hq1, hq2, hq3⟩ := hSw; obtain ⟨m0, m1, m2, m3, m4, m5, m6, m7, m8, m9, m10⟩ := hq1.cs; go_simp <;> with_reducible rfl)
            try simp only [Act.put, List.setIfInBounds_toArray, List.set_cons_zero, List.set_cons_succ]
            refine wpAnyH_take (i := 5) (oi := ?_) (v := ?_) ?_ (by kernel_rfl) (by kernel_rfl) (by kernel_rfl) (fun _ _ _ h => (h : False).elim) (Or.inl ⟨?_, ?_⟩) hHeld ?_
            rotate_left 2
            · (simp only [List.getElem?_toArray, List.getElem?_cons_zero, List.getElem?_cons_succ]; rfl)
            · rfl
            · (intro W hSw; obtain ⟨hq1, hq2, hq3⟩ := hSw; obtain ⟨m0, m1, m2, m3, m4, m5, m6, m7, m8, m9, m10⟩ := hq1.cs; go_simp <;> with_reducible rfl)
            try simp only [Act.put, List.setIfInBounds_toArray, List.set_cons_zero, List.set_cons_succ]
            refine wpAnyH_take (i := 6) (oi := ?_) (v := ?_) ?_ (by kernel_rfl) (by kernel_rfl) (by kernel_rfl) (fun _ _ _ h => (h : False).elim) (Or.inl ⟨?_, ?_⟩) hHeld ?_
            rotate_left 2
            · (simp only [List.getElem?_toArray, List.getElem?_cons_zero, List.getElem?_cons_succ]; rfl)
            · rfl
            · (intro W hSw; obtain ⟨hq1, hq2, hq3⟩ := hSw; obtain ⟨m0, m1, m2, m3, m4, m5, m6, m7, m8, m9, m10⟩ := hq1.cs; go_simp <;> with_reducible rfl)
            try simp only [Act.put, List.setIfInBounds_toArray, List.set_cons_zero, List.set_cons_succ]
            refine wpAnyH_take (i := 7) (oi := ?_) (v := ?_) ?_ (by kernel_rfl) (by kernel_rfl) (by kernel_rfl) (fun _ _ _ h => (h : False).elim) (Or.inl ⟨?_, ?_⟩) hHeld ?_
            rotate_left 2
            · (simp only [List.getElem?_toArray, List.getElem?_cons_zero, List.getElem?_cons_succ]; rfl)
            · rfl
            · (intro W hSw; obtain ⟨hq1, hq2, hq3⟩ := hSw; obtain ⟨m0, m1, m2, m3, m4, m5, m6, m7, m8, m9, m10⟩ := hq1.cs; go_simp <;> with_reducible rfl)
            try simp only [Act.put, List.setIfInBounds_toArray, List.set_cons_zero, List.set_cons_succ]
            refine wpAnyH_take (i := 8) (oi := ?_) (v := ?_) ?_ (by kernel_rfl) (by kernel_rfl) (by kernel_rfl) (fun _ _ _ h => (h : False).elim) (Or.inl ⟨?_, ?_⟩) hHeld ?_
            rotate_left 2
            · (simp only [List.getElem?_toArray, List.getElem?_cons_zero, List.getElem?_cons_succ]; rfl)
            · rfl
            · (intro W hSw; obtain ⟨hq1, hq2, hq3⟩ := hSw; obtain ⟨m0, m1, m2, m3, m4, m5, m6, m7, m8, m9, m10⟩ := hq1.cs; go_simp <;> with_reducible rfl)
            try simp only [Act.put, List.setIfInBounds_toArray, List.set_cons_zero, List.set_cons_succ]
            refine wpAnyH_ready (rs := [9, 14]) (by kernel_rfl) (by simp) ?_
            refine AllReadyH.cons (o := ?_) ?_ (fun K' hK => ?_) (AllReadyH.cons (o := ?_) ?_ (fun K' hK => ?_) AllReadyH.nil)
            rotate_left 1
            · (simp only [List.getElem?_toArray, List.getElem?_cons_zero, List.getElem?_cons_succ]; rfl)
            · go_simp
              go_at_call 29
              refine HP.out.mono ?_
              rintro _ w5' ⟨o', i', b'', rfl, hS⟩
              obtain ⟨a1, a4, rfl, -⟩ := hS.choose_spec.1.so
              obtain ⟨a2, a5, rfl, -⟩ := hS.choose_spec.1.si
              obtain ⟨a3, a6, rfl, -⟩ := hS.choose_spec.1.sb
              have hT5 : Turned O wq.drew w5' := hS.choose_spec.2.2.2.2
              have HS5 := hide hS
              clear hS
              have h9 := HSn.out _ w5' ((Below.refl _ _).drew) hT5
              refine hK.out _ _ (h9) (fun hHeld2 => ?_)
              clear hK K' hHeld
              have hHeld := hHeld2
              clear hHeld2
              try simp only [Act.put, List.setIfInBounds_toArray, List.set_cons_zero, List.set_cons_succ]
              refine wpAnyH_take (i := 10) (oi := ?_) (v := ?_) ?_ (by kernel_rfl) (by kernel_rfl) (by kernel_rfl) (fun _ _ _ h => (h : False).elim) (Or.inl ⟨?_, ?_⟩) hHeld ?_
              rotate_left 2
              · (simp only [List.getElem?_toArray, List.getElem?_cons_zero, List.getElem?_cons_succ]; rfl)
              · rfl
              · (intro W hSw; obtain ⟨hq1, hq2, hq3⟩ := hSw; obtain ⟨m0, m1, m2, m3, m4, m5, m6, m7, m8, m9, m10⟩ := hq1.cs; go_simp <;> with_reducible rfl)
              try simp only [Act.put, List.setIfInBounds_toArray, List.set_cons_zero, List.set_cons_succ]
              refine wpAnyH_take (i := 11) (oi := ?_) (v := ?_) ?_ (by kernel_rfl) (by kernel_rfl) (by kernel_rfl) (fun _ _ _ h => (h : False).elim) (Or.inl ⟨?_, ?_⟩) hHeld ?_
              rotate_left 2
              · (simp only [List.getElem?_toArray, List.getElem?_cons_zero, List.getElem?_cons_succ]; rfl)
              · rfl
              · (intro W hSw; obtain ⟨hq1, hq2, hq3⟩ := hSw; obtain ⟨m0, m1, m2, m3, m4, m5, m6, m7, m8, m9, m10⟩ := hq1.cs; go_simp <;> with_reducible rfl)
              try simp only [Act.put, List.setIfInBounds_toArray, List.set_cons_zero, List.set_cons_succ]
              refine wpAnyH_take (i := 12) (oi := ?_) (v := ?_) ?_ (by kernel_rfl) (by kernel_rfl) (by kernel_rfl) (fun _ _ _ h => (h : False).elim) (Or.inl ⟨?_, ?_⟩) hHeld ?_
              rotate_left 2
              · (simp only [List.getElem?_toArray, List.getElem?_cons_zero, List.getElem?_cons_succ]; rfl)
              · rfl
              · (intro W hSw; obtain ⟨hq1, hq2, hq3⟩ := hSw; obtain ⟨m0, m1, m2, m3, m4, m5, m6, m7, m8, m9, m10⟩ := hq1.cs; go_simp <;> with_reducible rfl)
              try simp only [Act.put, List.setIfInBounds_toArray, List.set_cons_zero, List.set_cons_succ]
              refine wpAnyH_take (i := 13) (oi := ?_) (v := ?_) ?_ (by kernel_rfl) (by kernel_rfl) (by kernel_rfl) (fun _ _ _ h => (h : False).elim) (Or.inl ⟨?_, ?_⟩) hHeld ?_
              rotate_left 2
              · (simp only [List.getElem?_toArray, List.getElem?_cons_zero, List.getElem?_cons_succ]; rfl)
              · rfl
              · (intro W hSw; obtain ⟨hq1, hq2, hq3⟩ := hSw; obtain ⟨m0, m1, m2, m3, m4, m5, m6, m7, m8, m9, m10⟩ := hq1.cs; go_simp <;> with_reducible rfl)
              try simp only [Act.put, List.setIfInBounds_toArray, List.set_cons_zero, List.set_cons_succ]
              refine wpAnyH_ready (rs := [14]) (by kernel_rfl) (by simp) ?_
              refine AllReadyH.cons (o := ?_) ?_ (fun K' hK => ?_) AllReadyH.nil
              rotate_left 1
              · (simp only [List.getElem?_toArray, List.getElem?_cons_zero, List.getElem?_cons_succ]; rfl)
              go_simp
              refine hK.out _ _ (HSb.out _ _ h9 (recv_below w5' (Obj.cells #[.bool false, .bool false, .int .i64 0, .int .i64 0, .slice none 0 0, .slice none 0 0, .slice none 0 0, .int .i64 0, .bool false, .bool false, .bool false] 58))) (fun hHeld2 => ?_)
              clear hK K' hHeld
              have hHeld := hHeld2
              clear hHeld2
              try simp only [Act.put, List.setIfInBounds_toArray, List.set_cons_zero, List.set_cons_succ]
              refine wpAnyH_ready (rs := [15]) (by kernel_rfl) (by simp) ?_
              refine AllReadyH.cons (o := ?_) ?_ (fun K' hK => ?_) AllReadyH.nil
              rotate_left 1
              · (simp only [List.getElem?_toArray, List.getElem?_cons_zero, List.getElem?_cons_succ]; rfl)
              go_simp
              refine hK.out _ _ (HSb.out _ _ h9 (recv_below w5' (Obj.cells #[.bool x'.rd, .bool x'.wt, .int .i64 x'.mode, .int .i64 x'.size, .slice a1 x'.out.length a4, .slice a2 x'.inn.length a5, .slice a3 x'.back.length a6, .int .i64 x'.dir, .bool x'.fin, .bool x'.bad, .bool x'.closed] 58))) (fun hHeld2 => ?_)
              clear hK K' hHeld
              have hHeld := hHeld2
              clear hHeld2
              try simp only [Act.put, List.setIfInBounds_toArray, List.set_cons_zero, List.set_cons_succ]
              refine wpAnyH_take (i := 16) (oi := ?_) (v := ?_) ?_ (by kernel_rfl) (by kernel_rfl) (by kernel_rfl) (fun _ _ _ h => (h : False).elim) (Or.inl ⟨?_, ?_⟩) hHeld ?_
              rotate_left 2
              · (simp only [List.getElem?_toArray, List.getElem?_cons_zero, List.getElem?_cons_succ]; rfl)
              · rfl
              · (intro W hSw; obtain ⟨hq1, hq2, hq3⟩ := hSw; obtain ⟨m0, m1, m2, m3, m4, m5, m6, m7, m8, m9, m10⟩ := hq1.cs; go_simp <;> with_reducible rfl)
              try simp only [Act.put, List.setIfInBounds_toArray, List.set_cons_zero, List.set_cons_succ]
              refine wpAnyH_take (i := 17) (oi := ?_) (v := ?_) ?_ (by kernel_rfl) (by kernel_rfl) (by kernel_rfl) (fun _ _ _ h => (h : False).elim) (Or.inl ⟨?_, ?_⟩) hHeld ?_
              rotate_left 2
              · (simp only [List.getElem?_toArray, List.getElem?_cons_zero, List.getElem?_cons_succ]; rfl)
              · rfl
              · (intro W hSw; obtain ⟨hq1, hq2, hq3⟩ := hSw; obtain ⟨m0, m1, m2, m3, m4, m5, m6, m7, m8, m9, m10⟩ := hq1.cs; go_simp <;> with_reducible rfl)
              try simp only [Act.put, List.setIfInBounds_toArray, List.set_cons_zero, List.set_cons_succ]
              refine wpAnyH_done (by kernel_rfl) ?_ _
              refine NoPanic.normal ?_
              clear hHeld h9 hT5
              go_wp2
              go_meet
              exact ⟨_, _, _, _, _, _, _, rfl, hide (StAt.new w5' x' (.slice a1 x'.out.length a4) (.slice a2 x'.inn.length a5) (.slice a3 x'.back.length a6)), hide (SOut.below (fun s => kat_o kb s) HS5.out (recv_below w5' (Obj.cells #[.bool x'.rd, .bool x'.wt, .int .i64 x'.mode, .int .i64 x'.size, .slice a1 x'.out.length a4, .slice a2 x'.inn.length a5, .slice a3 x'.back.length a6, .int .i64 x'.dir, .bool x'.fin, .bool x'.bad, .bool x'.closed] 58)) rfl rfl rfl)⟩
            rotate_left 1
            · (simp only [List.getElem?_toArray, List.getElem?_cons_zero, List.getElem?_cons_succ]; rfl)
            · go_simp
              refine hK.out _ _ (HSn.out _ _ ((Below.refl _ wq).alloc (Nat.le_refl _) (Obj.cells #[.bool false, .bool false, .int .i64 0, .int .i64 0, .slice none 0 0, .slice none 0 0, .slice none 0 0, .int .i64 0, .bool false, .bool false, .bool false] 58)).drew (Turned.refl _ _)) (fun hHeld2 => ?_)
              clear hK K' hHeld
              have hHeld := hHeld2
              clear hHeld2
              try simp only [Act.put, List.setIfInBounds_toArray, List.set_cons_zero, List.set_cons_succ]
              refine wpAnyH_ready (rs := [9]) (by kernel_rfl) (by simp) ?_
              refine AllReadyH.cons (o := ?_) ?_ (fun K' hK => ?_) AllReadyH.nil
              rotate_left 1
              · (simp only [List.getElem?_toArray, List.getElem?_cons_zero, List.getElem?_cons_succ]; rfl)
              go_simp
              go_at_call 29
              refine HPz.out.mono ?_
              rintro _ w5' ⟨o', i', b'', rfl, hS⟩
              obtain ⟨a1, a4, rfl, -⟩ := hS.choose_spec.1.so
              obtain ⟨a2, a5, rfl, -⟩ := hS.choose_spec.1.si
              obtain ⟨a3, a6, rfl, -⟩ := hS.choose_spec.1.sb
              have hT5 : Turned O (wq.alloc (Obj.cells #[.bool false, .bool false, .int .i64 0, .int .i64 0, .slice none 0 0, .slice none 0 0, .slice none 0 0, .int .i64 0, .bool false, .bool false, .bool false] 58)).drew w5' := hS.choose_spec.2.2.2.2
              have HS5 := hide hS
              clear hS
              have h9 := HSn.out _ w5' (((Below.refl _ wq).alloc (Nat.le_refl _) (Obj.cells #[.bool false, .bool false, .int .i64 0, .int .i64 0, .slice none 0 0, .slice none 0 0, .slice none 0 0, .int .i64 0, .bool false, .bool false, .bool false] 58)).drew) hT5
              refine hK.out _ _ (h9) (fun hHeld2 => ?_)
              clear hK K' hHeld
              have hHeld := hHeld2
              clear hHeld2
              try simp only [Act.put, List.setIfInBounds_toArray, List.set_cons_zero, List.set_cons_succ]
              refine wpAnyH_take (i := 10) (oi := ?_) (v := ?_) ?_ (by kernel_rfl) (by kernel_rfl) (by kernel_rfl) (fun _ _ _ h => (h : False).elim) (Or.inl ⟨?_, ?_⟩) hHeld ?_
              rotate_left 2
              · (simp only [List.getElem?_toArray, List.getElem?_cons_zero, List.getElem?_cons_succ]; rfl)
              · rfl
              · (intro W hSw; obtain ⟨hq1, hq2, hq3⟩ := hSw; obtain ⟨m0, m1, m2, m3, m4, m5, m6, m7, m8, m9, m10⟩ := hq1.cs; go_simp <;> with_reducible rfl)
              try simp only [Act.put, List.setIfInBounds_toArray, List.set_cons_zero, List.set_cons_succ]
              refine wpAnyH_take (i := 11) (oi := ?_) (v := ?_) ?_ (by kernel_rfl) (by kernel_rfl) (by kernel_rfl) (fun _ _ _ h => (h : False).elim) (Or.inl ⟨?_, ?_⟩) hHeld ?_
              rotate_left 2
              · (simp only [List.getElem?_toArray, List.getElem?_cons_zero, List.getElem?_cons_succ]; rfl)
              · rfl
              · (intro W hSw; obtain ⟨hq1, hq2, hq3⟩ := hSw; obtain ⟨m0, m1, m2, m3, m4, m5, m6, m7, m8, m9, m10⟩ := hq1.cs; go_simp <;> with_reducible rfl)
              try simp only [Act.put, List.setIfInBounds_toArray, List.set_cons_zero, List.set_cons_succ]
              refine wpAnyH_take (i := 12) (oi := ?_) (v := ?_) ?_ (by kernel_rfl) (by kernel_rfl) (by kernel_rfl) (fun _ _ _ h => (h : False).elim) (Or.inl ⟨?_, ?_⟩) hHeld ?_
              rotate_left 2
              · (simp only [List.getElem?_toArray, List.getElem?_cons_zero, List.getElem?_cons_succ]; rfl)
              · rfl
              · (intro W hSw; obtain ⟨hq1, hq2, hq3⟩ := hSw; obtain ⟨m0, m1, m2, m3, m4, m5, m6, m7, m8, m9, m10⟩ := hq1.cs; go_simp <;> with_reducible rfl)
              try simp only [Act.put, List.setIfInBounds_toArray, List.set_cons_zero, List.set_cons_succ]
              refine wpAnyH_take (i := 13) (oi := ?_) (v := ?_) ?_ (by kernel_rfl) (by kernel_rfl) (by kernel_rfl) (fun _ _ _ h => (h : False).elim) (Or.inl ⟨?_, ?_⟩) hHeld ?_
              rotate_left 2
              · (simp only [List.getElem?_toArray, List.getElem?_cons_zero, List.getElem?_cons_succ]; rfl)
              · rfl
              · (intro W hSw; obtain ⟨hq1, hq2, hq3⟩ := hSw; obtain ⟨m0, m1, m2, m3, m4, m5, m6, m7, m8, m9, m10⟩ := hq1.cs; go_simp <;> with_reducible rfl)
              try simp only [Act.put, List.setIfInBounds_toArray, List.set_cons_zero, List.set_cons_succ]
              have hz9 : w5'.heap[wq.heap.size]? = some (Obj.cells #[.bool false, .bool false, .int .i64 0, .int .i64 0, .slice none 0 0, .slice none 0 0, .slice none 0 0, .int .i64 0, .bool false, .bool false, .bool false] 58) := (hT5.block wq.heap.size (by show _ < (wq.alloc (Obj.cells #[.bool false, .bool false, .int .i64 0, .int .i64 0, .slice none 0 0, .slice none 0 0, .slice none 0 0, .int .i64 0, .bool false, .bool false, .bool false] 58)).heap.size; rw [World.size_alloc]; omega) (fun e => by have := HLV.out.ol _ e; omega)).trans HZ0.out
              obtain ⟨e1, e2⟩ := st_fill w5' wq.heap.size x' (.slice a1 x'.out.length a4) (.slice a2 x'.inn.length a5) (.slice a3 x'.back.length a6) hz9
              have HS9 := hide (HSt.out _ _ h9 e2)
              have HE1 := hide e1
              have HE2x := hide e2
              have u0' := frozen_of_row w5' wq.heap.size 0 _ _ hz9
              have u1' := frozen_of_row w5' wq.heap.size 1 _ _ hz9
              have u2' := frozen_of_row w5' wq.heap.size 2 _ _ hz9
              have u3' := frozen_of_row w5' wq.heap.size 3 _ _ hz9
              have u4' := frozen_of_row w5' wq.heap.size 4 _ _ hz9
              have u5' := frozen_of_row w5' wq.heap.size 5 _ _ hz9
              have u6' := frozen_of_row w5' wq.heap.size 6 _ _ hz9
              have u7' := frozen_of_row w5' wq.heap.size 7 _ _ hz9
              have u8' := frozen_of_row w5' wq.heap.size 8 _ _ hz9
              have u9' := frozen_of_row w5' wq.heap.size 9 _ _ hz9
              have u10' := frozen_of_row w5' wq.heap.size 10 _ _ hz9
              have z0' := cell_of_row w5' wq.heap.size 0 _ _ _ hz9
              have z1' := cell_of_row w5' wq.heap.size 1 _ _ _ hz9
              have z2' := cell_of_row w5' wq.heap.size 2 _ _ _ hz9
              have z3' := cell_of_row w5' wq.heap.size 3 _ _ _ hz9
              have z4' := cell_of_row w5' wq.heap.size 4 _ _ _ hz9
              have z5' := cell_of_row w5' wq.heap.size 5 _ _ _ hz9
              have z6' := cell_of_row w5' wq.heap.size 6 _ _ _ hz9
              have z7' := cell_of_row w5' wq.heap.size 7 _ _ _ hz9
              have z8' := cell_of_row w5' wq.heap.size 8 _ _ _ hz9
              have z9' := cell_of_row w5' wq.heap.size 9 _ _ _ hz9
              have z10' := cell_of_row w5' wq.heap.size 10 _ _ _ hz9
              simp at z0' z1' z2' z3' z4' z5' z6' z7' z8' z9' z10'
              clear e1 e2 hz9 hT5
              refine wpAnyH_ready (rs := [15]) (by kernel_rfl) (by simp) ?_
              refine AllReadyH.cons (o := ?_) ?_ (fun K' hK => ?_) AllReadyH.nil
              rotate_left 1
              · (simp only [List.getElem?_toArray, List.getElem?_cons_zero, List.getElem?_cons_succ]; rfl)
              go_simp
              refine hK.out _ _ (HS9.out) (fun hHeld2 => ?_)
              clear hK K' hHeld
              have hHeld := hHeld2
              clear hHeld2
              try simp only [Act.put, List.setIfInBounds_toArray, List.set_cons_zero, List.set_cons_succ]
              clear u0' z0' u1' z1' u2' z2' u3' z3' u4' z4' u5' z5' u6' z6' u7' z7' u8' z8' u9' z9' u10' z10'
              refine wpAnyH_take (i := 16) (oi := ?_) (v := ?_) ?_ (by kernel_rfl) (by kernel_rfl) (by kernel_rfl) (fun _ _ _ h => (h : False).elim) (Or.inl ⟨?_, ?_⟩) hHeld ?_
              rotate_left 2
              · (simp only [List.getElem?_toArray, List.getElem?_cons_zero, List.getElem?_cons_succ]; rfl)
              · rfl
              · (intro W hSw; obtain ⟨hq1, hq2, hq3⟩ := hSw; obtain ⟨m0, m1, m2, m3, m4, m5, m6, m7, m8, m9, m10⟩ := hq1.cs; go_simp <;> with_reducible rfl)
              try simp only [Act.put, List.setIfInBounds_toArray, List.set_cons_zero, List.set_cons_succ]
              refine wpAnyH_take (i := 17) (oi := ?_) (v := ?_) ?_ (by kernel_rfl) (by kernel_rfl) (by kernel_rfl) (fun _ _ _ h => (h : False).elim) (Or.inl ⟨?_, ?_⟩) hHeld ?_
              rotate_left 2
              · (simp only [List.getElem?_toArray, List.getElem?_cons_zero, List.getElem?_cons_succ]; rfl)
              · rfl
              · (intro W hSw; obtain ⟨hq1, hq2, hq3⟩ := hSw; obtain ⟨m0, m1, m2, m3, m4, m5, m6, m7, m8, m9, m10⟩ := hq1.cs; go_simp <;> with_reducible rfl)
              try simp only [Act.put, List.setIfInBounds_toArray, List.set_cons_zero, List.set_cons_succ]
              refine wpAnyH_done (by kernel_rfl) ?_ _
              refine NoPanic.normal ?_
              clear hHeld h9
              go_wp2
              go_meet
              exact ⟨_, _, _, _, _, _, _, rfl, HE1, hide (SOut.fin (fun s => kat_o kb s) HS5.out (show Below wq.heap.size wq.drew (wq.alloc (Obj.cells #[.bool false, .bool false, .int .i64 0, .int .i64 0, .slice none 0 0, .slice none 0 0, .slice none 0 0, .int .i64 0, .bool false, .bool false, .bool false] 58)).drew from recv_below wq.drew (Obj.cells #[.bool false, .bool false, .int .i64 0, .int .i64 0, .slice none 0 0, .slice none 0 0, .slice none 0 0, .int .i64 0, .bool false, .bool false, .bool false] 58)) (by show wq.heap.size < (wq.alloc (Obj.cells #[.bool false, .bool false, .int .i64 0, .int .i64 0, .slice none 0 0, .slice none 0 0, .slice none 0 0, .int .i64 0, .bool false, .bool false, .bool false] 58)).heap.size; rw [World.size_alloc]; omega) (Nat.le_refl _) HLV.out.ol HE2x.out)⟩
          case rest =>
            obtain ⟨gt, a1, a2, a3, a4, a5, a6, rfl, HTb, HSo⟩ := hcut
            clear d0 d1 HP HPz HSn HSt HSb HZ0 HLow HVz
            obtain ⟨t0, t1, t2, t3, t4, t5, t6, t7, t8, t9, t10⟩ := HTb.out.cs
            obtain ⟨hst, ⟨O2, s1, s2, s3, s4⟩, s5⟩ := LV.by14 (rw_o (mb + 1)) (fun s => kat_o kb s) HVd.out ((rw_o (mb + 1) _).keep HRw.out.1 (fun _ _ _ => rfl) (Nat.le_refl _)) HRw.out.2.1 HRw.out.2.2 HSZ.out HSo.out
            have HL2 := hide s1
            have HR2 := hide (And.intro s2 (And.intro s3 s4))
            have HT2 := hide ((HTT.out.trans (Turned.of_below (S := fun k => mb + 1 ≤ k) (Below.refl _ wq).drew) (fun _ _ e => e)).trans s5 (fun _ _ e => e))
            obtain ⟨c0, c1, c2, c3, c4, c5, c6, c7, c8, c9, c10⟩ := hst.cs
            have f0 := hst.soft 0
            have f1 := hst.soft 1
            have f2 := hst.soft 2
            have f3 := hst.soft 3
            have f4 := hst.soft 4
            have f5 := hst.soft 5
            have f6 := hst.soft 6
            have f7 := hst.soft 7
            have f8 := hst.soft 8
            have f9 := hst.soft 9
            have f10 := hst.soft 10
            clear hst s1 s2 s3 s4 s5
            unfold filled at HL2 HR2 HT2
            go_wp2
            go_meet
            exact ⟨x', K', _, _, _, O2, P, HApN, HKbN, HL2, HR2, HT2⟩
      case rest =>
        clear HAp HKb HLV HRw HTT
        obtain ⟨x, K, o', i', b', O, P, HAp, HKb, HLV, HRw, HTT⟩ := hcut
        obtain ⟨wd, hwd⟩ : ∃ W, W = wc := ⟨_, rfl⟩
        subst hwd
        go_wp2_with fail
        go_loopw [17, 22] (fun s17 s22 wr => ∃ (k : Nat) (x : SS) (K : KS) (o' i' b' : Value) (O P : Nat → Prop), k ≤ 100 ∧ k ≤ t.length ∧ s22 = .int .i64 k ∧ Hid (Ap (0 < k) x K (Wt ++ t.take k)) ∧ Hid (kB (1000000 - 1000 * i - 2 - 2 * k) K) ∧ Hid (LV (fun w O K => KAt w O kb K) wr (mb + 1) gs O x K o' i' b') ∧ Hid (Rw (mb + 1) wr P (s17, Wt ++ t.take k) ∧ (∀ k, Us gs O o' i' b' k → ¬ P k) ∧ ∀ k, P k → k < wr.heap.size) ∧ Hid (Turned (fun k => mb + 1 ≤ k) w5 wr)) (fun _ s22 _ => 100 - (intOf s22).toNat)
        case atStart => exact ⟨0, x, K, _, _, _, _, _, Nat.zero_le _, Nat.zero_le _, rfl, hide (by rw [List.take_zero, List.append_nil]; exact HAp.out.weak (fun e => absurd e (Nat.lt_irrefl _))), hide (kB_le (by omega) HKb.out), HLV, hide (by rw [List.take_zero, List.append_nil]; exact HRw.out), HTT⟩
        case round =>
          clear HAp HKb HLV HRw HTT
          obtain ⟨k, x, K, o', i', b', O, P, hk1, hk2, rfl, HAp, HKb, HLV, HRw, HTT⟩ := hrel
          obtain ⟨y1, y4, rfl, -⟩ := HLV.out.ls.so
          obtain ⟨y2, y5, rfl, -⟩ := HLV.out.ls.si
          obtain ⟨y3, y6, rfl, -⟩ := HLV.out.ls.sb
          have HSZ : Hid (mb + 1 ≤ wr.heap.size) := hide (Nat.le_trans HT5.out.2 HTT.out.size)
          obtain ⟨wa2, wc2, hwa⟩ := owns_slice HRw.out.1.1
          simp only at hwa
          subst hwa
          have hwm := HWm.out
          have htl := HTl.out
          have d0 : wr.cell? ⟨mb, 0, none⟩ = some (.iface 294 (.agg #[.pointer (some ⟨kb, 0, none⟩), .int .i64 1])) := HTT.out.cell (cell_of_row w5 mb 0 _ _ _ HM5.out) (fun e => by simp only at e; omega)
          have d2 : wr.cell? ⟨tb, tq + i, none⟩ = some (.slice qa t.length qc) := HTT.out.cell HTB.out (fun e => by simp only at e; omega)
          have HWk : Hid ((Wt ++ t.take k).length = Wt.length + k) := hide (by rw [List.length_append, List.length_take, Nat.min_eq_left hk2])
          obtain ⟨nW, hnW⟩ : ∃ n, n = (Wt ++ t.take k).length := ⟨_, rfl⟩
          rw [← hnW] at HRw
          simp only [← hnW]
          have HnW := hide hnW
          clear hnW
          by_cases hlt2 : k < t.length ∧ k < 100
          case pos =>
            obtain ⟨hl1, hl2⟩ := hlt2
            obtain ⟨-, qb, qo, rfl, hqb, hcl⟩ := bys_block HBt.out (by omega)
            have hd3 := hcl k hl1
            have hch : (Wt ++ t.take k) ++ [t.getD k 0] = Wt ++ t.take (k + 1) := by rw [List.append_assoc, ← take_onemore t k hl1]
            have hqbl : qb < w.heap.size := World.block_lt_of_cell? w _ hd3
            have HQ5 := hide ((HT5.out.1.cell hqbl).trans hd3)
            have d3 : wr.cell? ⟨qb, qo + k, none⟩ = some (.int .u8 ((t.getD k 0).toNat : Int)) := HTT.out.cell HQ5.out (fun e => by simp only at e; omega)
            have HCh := hide hch
            clear hch
            generalize t.getD k 0 = ch at *
            have d1 := d2
            have d2' := d3
            clear d2
            have d2 := d2'
            clear d2' d3
            have HLow : Hid (mb < wr.heap.size ∧ tb ≤ mb ∧ tb < wr.heap.size ∧ qb ≤ mb ∧ qb < wr.heap.size) := hide (by have := HSZ.out; omega)
            have HK4 : Hid (kB 2 K) := hide (kB_le (by omega) HKb.out)
            have hBZ : Below wr.heap.size wr (wr.alloc (Obj.cells #[.bool false, .bool false, .int .i64 0, .int .i64 0, .slice none 0 0, .slice none 0 0, .slice none 0 0, .int .i64 0, .bool false, .bool false, .bool false] 58)).drew := (recv_below wr (Obj.cells #[.bool false, .bool false, .int .i64 0, .int .i64 0, .slice none 0 0, .slice none 0 0, .slice none 0 0, .int .i64 0, .bool false, .bool false, .bool false] 58)).trans (Below.refl _ _).drew
            have HVd := hide (HLV.out.below (fun s => kat_o kb s) (Below.refl _ wr).drew)
            have HVz := hide (HLV.out.below (fun s => kat_o kb s) hBZ)
            have hp := sPut_any (ker_raw kb 1 ⟨by decide, by decide⟩) (fun s => kat_o kb s) (ker_bears 1) ch HVd.out.ls HVd.out.raw HVd.out.ol HK4.out HAp.out.lens.1 HAp.out.lens.2.1 HAp.out.lens.2.2
            have hpz := sPut_any (ker_raw kb 1 ⟨by decide, by decide⟩) (fun s => kat_o kb s) (ker_bears 1) ch HVz.out.ls HVz.out.raw HVz.out.ol HK4.out HAp.out.lens.1 HAp.out.lens.2.1 HAp.out.lens.2.2
            have hpt := HAp.out.put HKb.out ch (by have := HWk.out; omega)
            have HKbN := hide (put_bear (ker_bears 1) (n := 1000000 - 1000 * i - 2 - 2 * (k + 1)) x ch (kB_le (by omega) HKb.out))
            generalize x.put (kerD 1) K ch = X at *
            obtain ⟨x', ee, K'⟩ := X
            simp only at hp hpz hpt HKbN
            obtain ⟨h1, h2⟩ := hpt
            subst h1
            rw [HCh.out] at h2
            have HApN := hide h2
            have HP := hide hp
            have HPz := hide hpz
            have HSn : Hid (∀ W W', Below wr.heap.size wr W → Turned O W W' → (fun W => StAt W gs x (.slice y1 x.out.length y4) (.slice y2 x.inn.length y5) (.slice y3 x.back.length y6) ∧ W.cell? ⟨mb, 0, none⟩ = some (.iface 294 (.agg #[.pointer (some ⟨kb, 0, none⟩), .int .i64 1])) ∧ W.cell? ⟨tb, tq + i, none⟩ = some (.slice (some ⟨qb, qo, none⟩) t.length qc) ∧ W.cell? ⟨qb, qo + k, none⟩ = some (.int .u8 (ch.toNat : Int))) W') := hide (fun W W' hW hT => ⟨(hT.block gs (Nat.lt_of_lt_of_le HLV.out.st.lt hW.size) HLV.out.og).trans (HLV.out.st.below hW), hT.cell ((hW.cell (World.block_lt_of_cell? wr _ d0)).trans d0) (fun e => by have h1 := HLV.out.ob _ e; have h2 := HLow.out; simp only at h1; omega), hT.cell ((hW.cell (World.block_lt_of_cell? wr _ d1)).trans d1) (fun e => by have h1 := HLV.out.ob _ e; have h2 := HLow.out; simp only at h1; omega), hT.cell ((hW.cell (World.block_lt_of_cell? wr _ d2)).trans d2) (fun e => by have h1 := HLV.out.ob _ e; have h2 := HLow.out; simp only at h1; omega)⟩)
            have HSt : Hid (∀ W W', (fun W => StAt W gs x (.slice y1 x.out.length y4) (.slice y2 x.inn.length y5) (.slice y3 x.back.length y6) ∧ W.cell? ⟨mb, 0, none⟩ = some (.iface 294 (.agg #[.pointer (some ⟨kb, 0, none⟩), .int .i64 1])) ∧ W.cell? ⟨tb, tq + i, none⟩ = some (.slice (some ⟨qb, qo, none⟩) t.length qc) ∧ W.cell? ⟨qb, qo + k, none⟩ = some (.int .u8 (ch.toNat : Int))) W → Turned (fun k => k = wr.heap.size) W W' → (fun W => StAt W gs x (.slice y1 x.out.length y4) (.slice y2 x.inn.length y5) (.slice y3 x.back.length y6) ∧ W.cell? ⟨mb, 0, none⟩ = some (.iface 294 (.agg #[.pointer (some ⟨kb, 0, none⟩), .int .i64 1])) ∧ W.cell? ⟨tb, tq + i, none⟩ = some (.slice (some ⟨qb, qo, none⟩) t.length qc) ∧ W.cell? ⟨qb, qo + k, none⟩ = some (.int .u8 (ch.toNat : Int))) W') := hide (fun W W' h hT => ⟨(hT.block gs h.1.lt (by have := HLV.out.st.lt; omega)).trans h.1, hT.cell h.2.1 (fun e => by have h1 : _ = wr.heap.size := e; have h2 := HLow.out; simp only at h1; omega), hT.cell h.2.2.1 (fun e => by have h1 : _ = wr.heap.size := e; have h2 := HLow.out; simp only at h1; omega), hT.cell h.2.2.2 (fun e => by have h1 : _ = wr.heap.size := e; have h2 := HLow.out; simp only at h1; omega)⟩)
            have HSb : Hid (∀ W W', (fun W => StAt W gs x (.slice y1 x.out.length y4) (.slice y2 x.inn.length y5) (.slice y3 x.back.length y6) ∧ W.cell? ⟨mb, 0, none⟩ = some (.iface 294 (.agg #[.pointer (some ⟨kb, 0, none⟩), .int .i64 1])) ∧ W.cell? ⟨tb, tq + i, none⟩ = some (.slice (some ⟨qb, qo, none⟩) t.length qc) ∧ W.cell? ⟨qb, qo + k, none⟩ = some (.int .u8 (ch.toNat : Int))) W → Below W.heap.size W W' → (fun W => StAt W gs x (.slice y1 x.out.length y4) (.slice y2 x.inn.length y5) (.slice y3 x.back.length y6) ∧ W.cell? ⟨mb, 0, none⟩ = some (.iface 294 (.agg #[.pointer (some ⟨kb, 0, none⟩), .int .i64 1])) ∧ W.cell? ⟨tb, tq + i, none⟩ = some (.slice (some ⟨qb, qo, none⟩) t.length qc) ∧ W.cell? ⟨qb, qo + k, none⟩ = some (.int .u8 (ch.toNat : Int))) W') := hide (fun W W' h hB => ⟨h.1.below hB, (hB.cell (World.block_lt_of_cell? W _ h.2.1)).trans h.2.1, (hB.cell (World.block_lt_of_cell? W _ h.2.2.1)).trans h.2.2.1, (hB.cell (World.block_lt_of_cell? W _ h.2.2.2)).trans h.2.2.2⟩)
            have HZ0 : Hid ((wr.alloc (Obj.cells #[.bool false, .bool false, .int .i64 0, .int .i64 0, .slice none 0 0, .slice none 0 0, .slice none 0 0, .int .i64 0, .bool false, .bool false, .bool false] 58)).drew.heap[wr.heap.size]? = some (Obj.cells #[.bool false, .bool false, .int .i64 0, .int .i64 0, .slice none 0 0, .slice none 0 0, .slice none 0 0, .int .i64 0, .bool false, .bool false, .bool false] 58)) := hide (heap_alloc_new wr (Obj.cells #[.bool false, .bool false, .int .i64 0, .int .i64 0, .slice none 0 0, .slice none 0 0, .slice none 0 0, .int .i64 0, .bool false, .bool false, .bool false] 58))
            have b1 : (k : Int) < (t.length : Int) := by omega
            have b2 : (k : Int) < 100 := by omega
            have b3 : (0 : Int) ≤ (k : Int) := by omega
            clear hp hpz hBZ hcl hd3 hqb h2 hwm htl
            go_upto_region 17 with fail
            go_cut [23, 24] (fun p v0 wx => ∃ (gt : Nat) (a1 a2 a3 : Option Addr) (a4 a5 a6 : Nat), p = .pointer (some ⟨gt, 0, none⟩) ∧ v0 = .int .i64 0 ∧ Hid (StAt wx gt x' (.slice a1 x'.out.length a4) (.slice a2 x'.inn.length a5) (.slice a3 x'.back.length a6)) ∧ Hid (SOut (fun w O K => KAt w O kb K) wr.drew O x' K' (.slice a1 x'.out.length a4) (.slice a2 x'.inn.length a5) (.slice a3 x'.back.length a6) wx))
            case first =>
              refine wp_region_noPanic ?_
              refine wp_region_held_drew (S := fun W => StAt W gs x (.slice y1 x.out.length y4) (.slice y2 x.inn.length y5) (.slice y3 x.back.length y6) ∧ W.cell? ⟨mb, 0, none⟩ = some (.iface 294 (.agg #[.pointer (some ⟨kb, 0, none⟩), .int .i64 1])) ∧ W.cell? ⟨tb, tq + i, none⟩ = some (.slice (some ⟨qb, qo, none⟩) t.length qc) ∧ W.cell? ⟨qb, qo + k, none⟩ = some (.int .u8 (ch.toNat : Int))) (by kernel_rfl) (HSn.out _ _ (Below.refl _ _).drew (Turned.refl _ _)) (fun hHeld => ?_)
              refine wpAnyH_take (i := 0) (oi := ?_) (v := ?_) ?_ (by kernel_rfl) (by kernel_rfl) (by kernel_rfl) (fun _ _ _ h => (h : False).elim) (Or.inl ⟨?_, ?_⟩) hHeld ?_
              rotate_left 2
              · (simp only [List.getElem?_toArray, List.getElem?_cons_zero]; rfl)
              · rfl
              · (intro W hSw; obtain ⟨hq1, hq2, hq3, hq4⟩ := hSw; obtain ⟨m0, m1, m2, m3, m4, m5, m6, m7, m8, m9, m10⟩ := hq1.cs; go_simp <;> with_reducible rfl)
              try simp only [Act.put, List.setIfInBounds_toArray, List.set_cons_zero, List.set_cons_succ]
              refine wpAnyH_take (i := 1) (oi := ?_) (v := ?_) ?_ (by kernel_rfl) (by kernel_rfl) (by kernel_rfl) (fun _ _ _ h => (h : False).elim) (Or.inl ⟨?_, ?_⟩) hHeld ?_
              rotate_left 2
              · (simp only [List.getElem?_toArray, List.getElem?_cons_zero, List.getElem?_cons_succ]; rfl)
              · rfl
              · (intro W hSw; obtain ⟨hq1, hq2, hq3, hq4⟩ := hSw; obtain ⟨m0, m1, m2, m3, m4, m5, m6, m7, m8, m9, m10⟩ := hq1.cs; go_simp <;> with_reducible rfl)
              try simp only [Act.put, List.setIfInBounds_toArray, List.set_cons_zero, List.set_cons_succ]
              refine wpAnyH_take (i := 2) (oi := ?_) (v := ?_) ?_ (by kernel_rfl) (by kernel_rfl) (by kernel_rfl) (fun _ _ _ h => (h : False).elim) (Or.inl ⟨?_, ?_⟩) hHeld ?_
              rotate_left 2
              · (simp only [List.getElem?_toArray, List.getElem?_cons_zero, List.getElem?_cons_succ]; rfl)
              · rfl
              · (intro W hSw; obtain ⟨hq1, hq2, hq3, hq4⟩ := hSw; obtain ⟨m0, m1, m2, m3, m4, m5, m6, m7, m8, m9, m10⟩ := hq1.cs; go_simp <;> with_reducible rfl)
              try simp only [Act.put, List.setIfInBounds_toArray, List.set_cons_zero, List.set_cons_succ]
              refine wpAnyH_take (i := 3) (oi := ?_) (v := ?_) ?_ (by kernel_rfl) (by kernel_rfl) (by kernel_rfl) (fun _ _ _ h => (h : False).elim) (Or.inl ⟨?_, ?_⟩) hHeld ?_
              rotate_left 2
              · (simp only [List.getElem?_toArray, List.getElem?_cons_zero, List.getElem?_cons_succ]; rfl)
              · rfl
              · (intro W hSw; obtain ⟨hq1, hq2, hq3, hq4⟩ := hSw; obtain ⟨m0, m1, m2, m3, m4, m5, m6, m7, m8, m9, m10⟩ := hq1.cs; go_simp <;> with_reducible rfl)
              try simp only [Act.put, List.setIfInBounds_toArray, List.set_cons_zero, List.set_cons_succ]
              refine wpAnyH_take (i := 4) (oi := ?_) (v := ?_) ?_ (by kernel_rfl) (by kernel_rfl) (by kernel_rfl) (fun _ _ _ h => (h : False).elim) (Or.inl ⟨?_, ?_⟩) hHeld ?_
              rotate_left 2
              · (simp only [List.getElem?_toArray, List.getElem?_cons_zero, List.getElem?_cons_succ]; rfl)
              · rfl
              · (intro W hSw; obtain ⟨hq1, hq2, hq3, hq4⟩ := hSw; obtain ⟨m0, m1, m2, m3, m4, m5, m6, m7, m8, m9, m10⟩ := hq1.cs; go_simp <;> with_reducible rfl)
              try simp only [Act.put, List.setIfInBounds_toArray, List.set_cons_zero, List.set_cons_succ]
              refine wpAnyH_take (i := 5) (oi := ?_) (v := ?_) ?_ (by kernel_rfl) (by kernel_rfl) (by kernel_rfl) (fun _ _ _ h => (h : False).elim) (Or.inl ⟨?_, ?_⟩) hHeld ?_
              rotate_left 2
              · (simp only [List.getElem?_toArray, List.getElem?_cons_zero, List.getElem?_cons_succ]; rfl)
              · rfl
              · (intro W hSw; obtain ⟨hq1, hq2, hq3, hq4⟩ := hSw; obtain ⟨m0, m1, m2, m3, m4, m5, m6, m7, m8, m9, m10⟩ := hq1.cs; go_simp <;> with_reducible rfl)
              try simp only [Act.put, List.setIfInBounds_toArray, List.set_cons_zero, List.set_cons_succ]
              refine wpAnyH_take (i := 6) (oi := ?_) (v := ?_) ?_ (by kernel_rfl) (by kernel_rfl) (by kernel_rfl) (fun _ _ _ h => (h : False).elim) (Or.inl ⟨?_, ?_⟩) hHeld ?_
              rotate_left 2
              · (simp only [List.getElem?_toArray, List.getElem?_cons_zero, List.getElem?_cons_succ]; rfl)
              · rfl
              · (intro W hSw; obtain ⟨hq1, hq2, hq3, hq4⟩ := hSw; obtain ⟨m0, m1, m2, m3, m4, m5, m6, m7, m8, m9, m10⟩ := hq1.cs; go_simp <;> with_reducible rfl)
              try simp only [Act.put, List.setIfInBounds_toArray, List.set_cons_zero, List.set_cons_succ]
              refine wpAnyH_take (i := 7) (oi := ?_) (v := ?_) ?_ (by kernel_rfl) (by kernel_rfl) (by kernel_rfl) (fun _ _ _ h => (h : False).elim) (Or.inl ⟨?_, ?_⟩) hHeld ?_
              rotate_left 2
              · (simp only [List.getElem?_toArray, List.getElem?_cons_zero, List.getElem?_cons_succ]; rfl)
              · rfl
              · (intro W hSw; obtain ⟨hq1, hq2, hq3, hq4⟩ := hSw; obtain ⟨m0, m1, m2, m3, m4, m5, m6, m7, m8, m9, m10⟩ := hq1.cs; go_simp <;> with_reducible rfl)
              try simp only [Act.put, List.setIfInBounds_toArray, List.set_cons_zero, List.set_cons_succ]
              refine wpAnyH_take (i := 8) (oi := ?_) (v := ?_) ?_ (by kernel_rfl) (by kernel_rfl) (by kernel_rfl) (fun _ _ _ h => (h : False).elim) (Or.inl ⟨?_, ?_⟩) hHeld ?_
              rotate_left 2
              · (simp only [List.getElem?_toArray, List.getElem?_cons_zero, List.getElem?_cons_succ]; rfl)
              · rfl
              · (intro W hSw; obtain ⟨hq1, hq2, hq3, hq4⟩ := hSw; obtain ⟨m0, m1, m2, m3, m4, m5, m6, m7, m8, m9, m10⟩ := hq1.cs; go_simp <;> with_reducible rfl)
              try simp only [Act.put, List.setIfInBounds_toArray, List.set_cons_zero, List.set_cons_succ]
              refine wpAnyH_take (i := 9) (oi := ?_) (v := ?_) ?_ (by kernel_rfl) (by kernel_rfl) (by kernel_rfl) (fun _ _ _ h => (h : False).elim) (Or.inl ⟨?_, ?_⟩) hHeld ?_
              rotate_left 2
              · (simp only [List.getElem?_toArray, List.getElem?_cons_zero, List.getElem?_cons_succ]; rfl)
              · rfl
              · (intro W hSw; obtain ⟨hq1, hq2, hq3, hq4⟩ := hSw; obtain ⟨m0, m1, m2, m3, m4, m5, m6, m7, m8, m9, m10⟩ := hq1.cs; go_simp <;> with_reducible rfl)
              try simp only [Act.put, List.setIfInBounds_toArray, List.set_cons_zero, List.set_cons_succ]
              refine wpAnyH_take (i := 10) (oi := ?_) (v := ?_) ?_ (by kernel_rfl) (by kernel_rfl) (by kernel_rfl) (fun _ _ _ h => (h : False).elim) (Or.inl ⟨?_, ?_⟩) hHeld ?_
              rotate_left 2
              · (simp only [List.getElem?_toArray, List.getElem?_cons_zero, List.getElem?_cons_succ]; rfl)
              · rfl
              · (intro W hSw; obtain ⟨hq1, hq2, hq3, hq4⟩ := hSw; obtain ⟨m0, m1, m2, m3, m4, m5, m6, m7, m8, m9, m10⟩ := hq1.cs; go_simp <;> with_reducible rfl)
              try simp only [Act.put, List.setIfInBounds_toArray, List.set_cons_zero, List.set_cons_succ]
              refine wpAnyH_take (i := 11) (oi := ?_) (v := ?_) ?_ (by kernel_rfl) (by kernel_rfl) (by kernel_rfl) (fun _ _ _ h => (h : False).elim) (Or.inl ⟨?_, ?_⟩) hHeld ?_
              rotate_left 2
              · (simp only [List.getElem?_toArray, List.getElem?_cons_zero, List.getElem?_cons_succ]; rfl)
              · rfl
              · (intro W hSw; obtain ⟨hq1, hq2, hq3, hq4⟩ := hSw; obtain ⟨m0, m1, m2, m3, m4, m5, m6, m7, m8, m9, m10⟩ := hq1.cs; go_simp <;> with_reducible rfl)
              try simp only [Act.put, List.setIfInBounds_toArray, List.set_cons_zero, List.set_cons_succ]
              refine wpAnyH_ready (rs := [12, 16]) (by kernel_rfl) (by simp) ?_
              refine AllReadyH.cons (o := ?_) ?_ (fun K' hK => ?_) (AllReadyH.cons (o := ?_) ?_ (fun K' hK => ?_) AllReadyH.nil)
              rotate_left 1
              · (simp only [List.getElem?_toArray, List.getElem?_cons_zero, List.getElem?_cons_succ]; rfl)
              · go_simp
                go_at_call 30
                refine HP.out.mono ?_
                rintro _ w5' ⟨o', i', b'', rfl, hS⟩
                obtain ⟨a1, a4, rfl, -⟩ := hS.choose_spec.1.so
                obtain ⟨a2, a5, rfl, -⟩ := hS.choose_spec.1.si
                obtain ⟨a3, a6, rfl, -⟩ := hS.choose_spec.1.sb
                have hT5 : Turned O wr.drew w5' := hS.choose_spec.2.2.2.2
                have HS5 := hide hS
                clear hS
                have h9 := HSn.out _ w5' ((Below.refl _ _).drew) hT5
                refine hK.out _ _ (h9) (fun hHeld2 => ?_)
                clear hK K' hHeld
                have hHeld := hHeld2
                clear hHeld2
                try simp only [Act.put, List.setIfInBounds_toArray, List.set_cons_zero, List.set_cons_succ]
                refine wpAnyH_take (i := 13) (oi := ?_) (v := ?_) ?_ (by kernel_rfl) (by kernel_rfl) (by kernel_rfl) (fun _ _ _ h => (h : False).elim) (Or.inl ⟨?_, ?_⟩) hHeld ?_
                rotate_left 2
                · (simp only [List.getElem?_toArray, List.getElem?_cons_zero, List.getElem?_cons_succ]; rfl)
                · rfl
                · (intro W hSw; obtain ⟨hq1, hq2, hq3, hq4⟩ := hSw; obtain ⟨m0, m1, m2, m3, m4, m5, m6, m7, m8, m9, m10⟩ := hq1.cs; go_simp <;> with_reducible rfl)
                try simp only [Act.put, List.setIfInBounds_toArray, List.set_cons_zero, List.set_cons_succ]
                refine wpAnyH_take (i := 14) (oi := ?_) (v := ?_) ?_ (by kernel_rfl) (by kernel_rfl) (by kernel_rfl) (fun _ _ _ h => (h : False).elim) (Or.inl ⟨?_, ?_⟩) hHeld ?_
                rotate_left 2
                · (simp only [List.getElem?_toArray, List.getElem?_cons_zero, List.getElem?_cons_succ]; rfl)
                · rfl
                · (intro W hSw; obtain ⟨hq1, hq2, hq3, hq4⟩ := hSw; obtain ⟨m0, m1, m2, m3, m4, m5, m6, m7, m8, m9, m10⟩ := hq1.cs; go_simp <;> with_reducible rfl)
                try simp only [Act.put, List.setIfInBounds_toArray, List.set_cons_zero, List.set_cons_succ]
                refine wpAnyH_take (i := 15) (oi := ?_) (v := ?_) ?_ (by kernel_rfl) (by kernel_rfl) (by kernel_rfl) (fun _ _ _ h => (h : False).elim) (Or.inl ⟨?_, ?_⟩) hHeld ?_
                rotate_left 2
                · (simp only [List.getElem?_toArray, List.getElem?_cons_zero, List.getElem?_cons_succ]; rfl)
                · rfl
                · (intro W hSw; obtain ⟨hq1, hq2, hq3, hq4⟩ := hSw; obtain ⟨m0, m1, m2, m3, m4, m5, m6, m7, m8, m9, m10⟩ := hq1.cs; go_simp <;> with_reducible rfl)
                try simp only [Act.put, List.setIfInBounds_toArray, List.set_cons_zero, List.set_cons_succ]
                refine wpAnyH_ready (rs := [16]) (by kernel_rfl) (by simp) ?_
                refine AllReadyH.cons (o := ?_) ?_ (fun K' hK => ?_) AllReadyH.nil
                rotate_left 1
                · (simp only [List.getElem?_toArray, List.getElem?_cons_zero, List.getElem?_cons_succ]; rfl)
                go_simp
                refine hK.out _ _ (HSb.out _ _ h9 (recv_below w5' (Obj.cells #[.bool false, .bool false, .int .i64 0, .int .i64 0, .slice none 0 0, .slice none 0 0, .slice none 0 0, .int .i64 0, .bool false, .bool false, .bool false] 58))) (fun hHeld2 => ?_)
                clear hK K' hHeld
                have hHeld := hHeld2
                clear hHeld2
                try simp only [Act.put, List.setIfInBounds_toArray, List.set_cons_zero, List.set_cons_succ]
                refine wpAnyH_ready (rs := [17]) (by kernel_rfl) (by simp) ?_
                refine AllReadyH.cons (o := ?_) ?_ (fun K' hK => ?_) AllReadyH.nil
                rotate_left 1
                · (simp only [List.getElem?_toArray, List.getElem?_cons_zero, List.getElem?_cons_succ]; rfl)
                go_simp
                refine hK.out _ _ (HSb.out _ _ h9 (recv_below w5' (Obj.cells #[.bool x'.rd, .bool x'.wt, .int .i64 x'.mode, .int .i64 x'.size, .slice a1 x'.out.length a4, .slice a2 x'.inn.length a5, .slice a3 x'.back.length a6, .int .i64 x'.dir, .bool x'.fin, .bool x'.bad, .bool x'.closed] 58))) (fun hHeld2 => ?_)
                clear hK K' hHeld
                have hHeld := hHeld2
                clear hHeld2
                try simp only [Act.put, List.setIfInBounds_toArray, List.set_cons_zero, List.set_cons_succ]
                refine wpAnyH_take (i := 18) (oi := ?_) (v := ?_) ?_ (by kernel_rfl) (by kernel_rfl) (by kernel_rfl) (fun _ _ _ h => (h : False).elim) (Or.inl ⟨?_, ?_⟩) hHeld ?_
                rotate_left 2
                · (simp only [List.getElem?_toArray, List.getElem?_cons_zero, List.getElem?_cons_succ]; rfl)
                · rfl
                · (intro W hSw; obtain ⟨hq1, hq2, hq3, hq4⟩ := hSw; obtain ⟨m0, m1, m2, m3, m4, m5, m6, m7, m8, m9, m10⟩ := hq1.cs; go_simp <;> with_reducible rfl)
                try simp only [Act.put, List.setIfInBounds_toArray, List.set_cons_zero, List.set_cons_succ]
                refine wpAnyH_done (by kernel_rfl) ?_ _
                refine NoPanic.normal ?_
                clear hHeld h9 hT5
                go_wp2
                go_meet
                exact ⟨_, _, _, _, _, _, _, rfl, rfl, hide (StAt.new w5' x' (.slice a1 x'.out.length a4) (.slice a2 x'.inn.length a5) (.slice a3 x'.back.length a6)), hide (SOut.below (fun s => kat_o kb s) HS5.out (recv_below w5' (Obj.cells #[.bool x'.rd, .bool x'.wt, .int .i64 x'.mode, .int .i64 x'.size, .slice a1 x'.out.length a4, .slice a2 x'.inn.length a5, .slice a3 x'.back.length a6, .int .i64 x'.dir, .bool x'.fin, .bool x'.bad, .bool x'.closed] 58)) rfl rfl rfl)⟩
              rotate_left 1
              · (simp only [List.getElem?_toArray, List.getElem?_cons_zero, List.getElem?_cons_succ]; rfl)
              · go_simp
                refine hK.out _ _ (HSn.out _ _ ((Below.refl _ wr).alloc (Nat.le_refl _) (Obj.cells #[.bool false, .bool false, .int .i64 0, .int .i64 0, .slice none 0 0, .slice none 0 0, .slice none 0 0, .int .i64 0, .bool false, .bool false, .bool false] 58)).drew (Turned.refl _ _)) (fun hHeld2 => ?_)
                clear hK K' hHeld
                have hHeld := hHeld2
                clear hHeld2
                try simp only [Act.put, List.setIfInBounds_toArray, List.set_cons_zero, List.set_cons_succ]
                refine wpAnyH_ready (rs := [12]) (by kernel_rfl) (by simp) ?_
                refine AllReadyH.cons (o := ?_) ?_ (fun K' hK => ?_) AllReadyH.nil
                rotate_left 1
                · (simp only [List.getElem?_toArray, List.getElem?_cons_zero, List.getElem?_cons_succ]; rfl)
                go_simp
                go_at_call 30
                refine HPz.out.mono ?_
                rintro _ w5' ⟨o', i', b'', rfl, hS⟩
                obtain ⟨a1, a4, rfl, -⟩ := hS.choose_spec.1.so
                obtain ⟨a2, a5, rfl, -⟩ := hS.choose_spec.1.si
                obtain ⟨a3, a6, rfl, -⟩ := hS.choose_spec.1.sb
                have hT5 : Turned O (wr.alloc (Obj.cells #[.bool false, .bool false, .int .i64 0, .int .i64 0, .slice none 0 0, .slice none 0 0, .slice none 0 0, .int .i64 0, .bool false, .bool false, .bool false] 58)).drew w5' := hS.choose_spec.2.2.2.2
                have HS5 := hide hS
                clear hS
                have h9 := HSn.out _ w5' (((Below.refl _ wr).alloc (Nat.le_refl _) (Obj.cells #[.bool false, .bool false, .int .i64 0, .int .i64 0, .slice none 0 0, .slice none 0 0, .slice none 0 0, .int .i64 0, .bool false, .bool false, .bool false] 58)).drew) hT5
                refine hK.out _ _ (h9) (fun hHeld2 => ?_)
                clear hK K' hHeld
                have hHeld := hHeld2
                clear hHeld2
                try simp only [Act.put, List.setIfInBounds_toArray, List.set_cons_zero, List.set_cons_succ]
                refine wpAnyH_take (i := 13) (oi := ?_) (v := ?_) ?_ (by kernel_rfl) (by kernel_rfl) (by kernel_rfl) (fun _ _ _ h => (h : False).elim) (Or.inl ⟨?_, ?_⟩) hHeld ?_
                rotate_left 2
                · (simp only [List.getElem?_toArray, List.getElem?_cons_zero, List.getElem?_cons_succ]; rfl)
                · rfl
                · (intro W hSw; obtain ⟨hq1, hq2, hq3, hq4⟩ := hSw; obtain ⟨m0, m1, m2, m3, m4, m5, m6, m7, m8, m9, m10⟩ := hq1.cs; go_simp <;> with_reducible rfl)
                try simp only [Act.put, List.setIfInBounds_toArray, List.set_cons_zero, List.set_cons_succ]
                refine wpAnyH_take (i := 14) (oi := ?_) (v := ?_) ?_ (by kernel_rfl) (by kernel_rfl) (by kernel_rfl) (fun _ _ _ h => (h : False).elim) (Or.inl ⟨?_, ?_⟩) hHeld ?_
                rotate_left 2
                · (simp only [List.getElem?_toArray, List.getElem?_cons_zero, List.getElem?_cons_succ]; rfl)
                · rfl
                · (intro W hSw; obtain ⟨hq1, hq2, hq3, hq4⟩ := hSw; obtain ⟨m0, m1, m2, m3, m4, m5, m6, m7, m8, m9, m10⟩ := hq1.cs; go_simp <;> with_reducible rfl)
                try simp only [Act.put, List.setIfInBounds_toArray, List.set_cons_zero, List.set_cons_succ]
                refine wpAnyH_take (i := 15) (oi := ?_) (v := ?_) ?_ (by kernel_rfl) (by kernel_rfl) (by kernel_rfl) (fun _ _ _ h => (h : False).elim) (Or.inl ⟨?_, ?_⟩) hHeld ?_
                rotate_left 2
                · (simp only [List.getElem?_toArray, List.getElem?_cons_zero, List.getElem?_cons_succ]; rfl)
                · rfl
                · (intro W hSw; obtain ⟨hq1, hq2, hq3, hq4⟩ := hSw; obtain ⟨m0, m1, m2, m3, m4, m5, m6, m7, m8, m9, m10⟩ := hq1.cs; go_simp <;> with_reducible rfl)
                try simp only [Act.put, List.setIfInBounds_toArray, List.set_cons_zero, List.set_cons_succ]
                have hz9 : w5'.heap[wr.heap.size]? = some (Obj.cells #[.bool false, .bool false, .int .i64 0, .int .i64 0, .slice none 0 0, .slice none 0 0, .slice none 0 0, .int .i64 0, .bool false, .bool false, .bool false] 58) := (hT5.block wr.heap.size (by show _ < (wr.alloc (Obj.cells #[.bool false, .bool false, .int .i64 0, .int .i64 0, .slice none 0 0, .slice none 0 0, .slice none 0 0, .int .i64 0, .bool false, .bool false, .bool false] 58)).heap.size; rw [World.size_alloc]; omega) (fun e => by have := HLV.out.ol _ e; omega)).trans HZ0.out
                obtain ⟨e1, e2⟩ := st_fill w5' wr.heap.size x' (.slice a1 x'.out.length a4) (.slice a2 x'.inn.length a5) (.slice a3 x'.back.length a6) hz9
                have HS9 := hide (HSt.out _ _ h9 e2)
                have HE1 := hide e1
                have HE2x := hide e2
                have u0' := frozen_of_row w5' wr.heap.size 0 _ _ hz9
                have u1' := frozen_of_row w5' wr.heap.size 1 _ _ hz9
                have u2' := frozen_of_row w5' wr.heap.size 2 _ _ hz9
                have u3' := frozen_of_row w5' wr.heap.size 3 _ _ hz9
                have u4' := frozen_of_row w5' wr.heap.size 4 _ _ hz9
                have u5' := frozen_of_row w5' wr.heap.size 5 _ _ hz9
                have u6' := frozen_of_row w5' wr.heap.size 6 _ _ hz9
                have u7' := frozen_of_row w5' wr.heap.size 7 _ _ hz9
                have u8' := frozen_of_row w5' wr.heap.size 8 _ _ hz9
                have u9' := frozen_of_row w5' wr.heap.size 9 _ _ hz9
                have u10' := frozen_of_row w5' wr.heap.size 10 _ _ hz9
                have z0' := cell_of_row w5' wr.heap.size 0 _ _ _ hz9
                have z1' := cell_of_row w5' wr.heap.size 1 _ _ _ hz9
                have z2' := cell_of_row w5' wr.heap.size 2 _ _ _ hz9
                have z3' := cell_of_row w5' wr.heap.size 3 _ _ _ hz9
                have z4' := cell_of_row w5' wr.heap.size 4 _ _ _ hz9
                have z5' := cell_of_row w5' wr.heap.size 5 _ _ _ hz9
                have z6' := cell_of_row w5' wr.heap.size 6 _ _ _ hz9
                have z7' := cell_of_row w5' wr.heap.size 7 _ _ _ hz9
                have z8' := cell_of_row w5' wr.heap.size 8 _ _ _ hz9
                have z9' := cell_of_row w5' wr.heap.size 9 _ _ _ hz9
                have z10' := cell_of_row w5' wr.heap.size 10 _ _ _ hz9
                simp at z0' z1' z2' z3' z4' z5' z6' z7' z8' z9' z10'
                clear e1 e2 hz9 hT5
                refine wpAnyH_ready (rs := [17]) (by kernel_rfl) (by simp) ?_
                refine AllReadyH.cons (o := ?_) ?_ (fun K' hK => ?_) AllReadyH.nil
                rotate_left 1
                · (simp only [List.getElem?_toArray, List.getElem?_cons_zero, List.getElem?_cons_succ]; rfl)
                go_simp
                refine hK.out _ _ (HS9.out) (fun hHeld2 => ?_)
                clear hK K' hHeld
                have hHeld := hHeld2
                clear hHeld2
                try simp only [Act.put, List.setIfInBounds_toArray, List.set_cons_zero, List.set_cons_succ]
                clear u0' z0' u1' z1' u2' z2' u3' z3' u4' z4' u5' z5' u6' z6' u7' z7' u8' z8' u9' z9' u10' z10'
                refine wpAnyH_take (i := 18) (oi := ?_) (v := ?_) ?_ (by kernel_rfl) (by kernel_rfl) (by kernel_rfl) (fun _ _ _ h => (h : False).elim) (Or.inl ⟨?_, ?_⟩) hHeld ?_
                rotate_left 2
                · (simp only [List.getElem?_toArray, List.getElem?_cons_zero, List.getElem?_cons_succ]; rfl)
                · rfl
                · (intro W hSw; obtain ⟨hq1, hq2, hq3, hq4⟩ := hSw; obtain ⟨m0, m1, m2, m3, m4, m5, m6, m7, m8, m9, m10⟩ := hq1.cs; go_simp <;> with_reducible rfl)
                try simp only [Act.put, List.setIfInBounds_toArray, List.set_cons_zero, List.set_cons_succ]
                refine wpAnyH_done (by kernel_rfl) ?_ _
                refine NoPanic.normal ?_
                clear hHeld h9
                go_wp2
                go_meet
                exact ⟨_, _, _, _, _, _, _, rfl, rfl, HE1, hide (SOut.fin (fun s => kat_o kb s) HS5.out (show Below wr.heap.size wr.drew (wr.alloc (Obj.cells #[.bool false, .bool false, .int .i64 0, .int .i64 0, .slice none 0 0, .slice none 0 0, .slice none 0 0, .int .i64 0, .bool false, .bool false, .bool false] 58)).drew from recv_below wr.drew (Obj.cells #[.bool false, .bool false, .int .i64 0, .int .i64 0, .slice none 0 0, .slice none 0 0, .slice none 0 0, .int .i64 0, .bool false, .bool false, .bool false] 58)) (by show wr.heap.size < (wr.alloc (Obj.cells #[.bool false, .bool false, .int .i64 0, .int .i64 0, .slice none 0 0, .slice none 0 0, .slice none 0 0, .int .i64 0, .bool false, .bool false, .bool false] 58)).heap.size; rw [World.size_alloc]; omega) (Nat.le_refl _) HLV.out.ol HE2x.out)⟩
            case rest =>
              obtain ⟨gt, a1, a2, a3, a4, a5, a6, rfl, rfl, HTb, HSo⟩ := hcut
              clear HP HPz HSn HSt HSb HZ0 HVz d0
              obtain ⟨t0, t1, t2, t3, t4, t5, t6, t7, t8, t9, t10⟩ := HTb.out.cs
              obtain ⟨hst, ⟨O2, s1, s2, s3, s4⟩, s5⟩ := LV.by14 (rw_o (mb + 1)) (fun s => kat_o kb s) HVd.out ((rw_o (mb + 1) _).keep HRw.out.1 (fun _ _ _ => rfl) (Nat.le_refl _)) HRw.out.2.1 HRw.out.2.2 HSZ.out HSo.out
              have HL2 := hide s1
              have HR2 := hide (And.intro s2 (And.intro s3 s4))
              have HT2 := hide ((HTT.out.trans (Turned.of_below (S := fun k => mb + 1 ≤ k) (Below.refl _ wr).drew) (fun _ _ e => e)).trans s5 (fun _ _ e => e))
              obtain ⟨c0, c1, c2, c3, c4, c5, c6, c7, c8, c9, c10⟩ := hst.cs
              have f0 := hst.soft 0
              have f1 := hst.soft 1
              have f2 := hst.soft 2
              have f3 := hst.soft 3
              have f4 := hst.soft 4
              have f5 := hst.soft 5
              have f6 := hst.soft 6
              have f7 := hst.soft 7
              have f8 := hst.soft 8
              have f9 := hst.soft 9
              have f10 := hst.soft 10
              clear hst s1 s2 s3 s4 s5
              unfold filled at HL2 HR2 HT2
              have HD1 : Hid (∀ W, Turned (fun k => mb + 1 ≤ k) w5 W → W.cell? ⟨tb, tq + i, none⟩ = some (.slice (some ⟨qb, qo, none⟩) t.length qc) ∧ W.cell? ⟨qb, qo + k, none⟩ = some (.int .u8 (ch.toNat : Int))) := hide (fun W hT => ⟨hT.cell HTB.out (fun e => by have := HLow.out; simp only at e; omega), hT.cell HQ5.out (fun e => by have := HLow.out; simp only at e; omega)⟩)
              go_upto_region 21 with (first | (go_at_call 27; refine (num14 _ _).mono ?_; rintro _ _ ⟨rfl, rfl⟩) | fail)
              clear c0 c1 c2 c3 c4 c5 c6 c7 c8 c9 c10 f0 f1 f2 f3 f4 f5 f6 f7 f8 f9 f10 t0 t1 t2 t3 t4 t5 t6 t7 t8 t9 t10 d1 d2
              generalize (((((((((((wc.setCell ⟨gs, 0, none⟩ (.bool x'.rd)).setCell ⟨gs, 1, none⟩ (.bool x'.wt)).setCell ⟨gs, 2, none⟩ (.int .i64 x'.mode)).setCell ⟨gs, 3, none⟩ (.int .i64 x'.size)).setCell ⟨gs, 4, none⟩ (.slice a1 x'.out.length a4)).setCell ⟨gs, 5, none⟩ (.slice a2 x'.inn.length a5)).setCell ⟨gs, 6, none⟩ (.slice a3 x'.back.length a6)).setCell ⟨gs, 7, none⟩ (.int .i64 x'.dir)).setCell ⟨gs, 8, none⟩ (.bool x'.fin)).setCell ⟨gs, 9, none⟩ (.bool x'.bad)).setCell ⟨gs, 10, none⟩ (.bool x'.closed)) = w8 at *
              obtain ⟨e1, e2⟩ := HD1.out w8 HT2.out
              obtain ⟨na, nc, w9, P9, hrun, m1, m2, m3, m4, m5⟩ := Rw.more (fun s => kat_o kb s) HR2.out.1 HL2.out HR2.out.2.1 HR2.out.2.2 (Nat.le_trans HT5.out.2 HT2.out.size) ch (by have := HWk.out; omega)
              rw [HCh.out] at hrun m2
              obtain ⟨n9, hn9⟩ : ∃ n9, n9 = (Wt ++ t.take (k + 1)).length := ⟨_, rfl⟩
              rw [← hn9] at hrun m2
              have HAp9 := hide hrun
              have HL9 := hide m1
              have HR9 := hide (And.intro m2 (And.intro m3 m4))
              have HT9 := hide (HT2.out.trans m5 (fun _ _ e => e))
              clear hrun m1 m2 m3 m4 m5 hn9 HL2 HR2 HT2 HTb HSo HTB HBt HQ5 HLow HK4 HVd HLV HRw HAp HKb HTT
              go_wp2_with (at_builtin; refine Lib.wpList_append_run _ rfl _ _ _ _ rfl _ _ rfl rfl _ _ HAp9.out ?_)
              first | go_roundw | refine ⟨?rel, ?measure⟩
              case rel => exact ⟨k + 1, x', K', _, _, _, O2, P9, by omega, by omega, by first | rfl | go_num, hide (HApN.out.weak (fun _ => trivial)), HKbN, HL9, HR9, HT9⟩
              case measure => simp [intOf]; omega
          case neg =>
            have hpos : t.length ≠ 0 → 0 < k := by omega
            have HK4 : Hid (kB 4 K) := hide (kB_le (by omega) HKb.out)
            have HLow : Hid (mb < wr.heap.size) := hide (by have := HSZ.out; omega)
            have hBZ : Below wr.heap.size wr (wr.alloc (Obj.cells #[.bool false, .bool false, .int .i64 0, .int .i64 0, .slice none 0 0, .slice none 0 0, .slice none 0 0, .int .i64 0, .bool false, .bool false, .bool false] 58)).drew := (recv_below wr (Obj.cells #[.bool false, .bool false, .int .i64 0, .int .i64 0, .slice none 0 0, .slice none 0 0, .slice none 0 0, .int .i64 0, .bool false, .bool false, .bool false] 58)).trans (Below.refl _ _).drew
            have HVd := hide (HLV.out.below (fun s => kat_o kb s) (Below.refl _ wr).drew)
            have HVz := hide (HLV.out.below (fun s => kat_o kb s) hBZ)
            have hp := ptell_any (K := kSk) (ker_raw kb 1 ⟨by decide, by decide⟩) (fun s => kat_o kb s) (ker_bears 1) (ker_seek kb 1 ⟨by decide, by decide⟩) (ker_bearsS 1) HVd.out.ls HVd.out.raw HVd.out.ol HK4.out HAp.out.lens.1 HAp.out.lens.2.1 HAp.out.lens.2.2
            have hpz := ptell_any (K := kSk) (ker_raw kb 1 ⟨by decide, by decide⟩) (fun s => kat_o kb s) (ker_bears 1) (ker_seek kb 1 ⟨by decide, by decide⟩) (ker_bearsS 1) HVz.out.ls HVz.out.raw HVz.out.ol HK4.out HAp.out.lens.1 HAp.out.lens.2.1 HAp.out.lens.2.2
            have hpt := HAp.out.tell HKb.out
            have HKbN := hide (tell_bear (n := 1000000 - 1000 * (i + 1)) (x := x) (kB_le (by omega) HKb.out) (by have h1 := HAp.out.ol; have h2 := HAp.out.s2; omega))
            generalize x.tell (kerD 1) kSk K = X at *
            obtain ⟨x', N, ee, K'⟩ := X
            simp only at hp hpz hpt HKbN
            obtain ⟨h1, h2, h3, h4⟩ := hpt
            subst h1
            rw [← HnW.out] at h2
            have HN := hide h2
            have HApN := hide (And.intro h4 h3)
            have HP := hide hp
            have HPz := hide hpz
            have HSn : Hid (∀ W W', Below wr.heap.size wr W → Turned O W W' → (fun W => StAt W gs x (.slice y1 x.out.length y4) (.slice y2 x.inn.length y5) (.slice y3 x.back.length y6) ∧ W.cell? ⟨mb, 0, none⟩ = some (.iface 294 (.agg #[.pointer (some ⟨kb, 0, none⟩), .int .i64 1]))) W') := hide (fun W W' hW hT => ⟨(hT.block gs (Nat.lt_of_lt_of_le HLV.out.st.lt hW.size) HLV.out.og).trans (HLV.out.st.below hW), hT.cell ((hW.cell (World.block_lt_of_cell? wr _ d0)).trans d0) (fun e => by have h1 := HLV.out.ob _ e; have h2 := HLow.out; simp only at h1; omega)⟩)
            have HSt : Hid (∀ W W', (fun W => StAt W gs x (.slice y1 x.out.length y4) (.slice y2 x.inn.length y5) (.slice y3 x.back.length y6) ∧ W.cell? ⟨mb, 0, none⟩ = some (.iface 294 (.agg #[.pointer (some ⟨kb, 0, none⟩), .int .i64 1]))) W → Turned (fun k => k = wr.heap.size) W W' → (fun W => StAt W gs x (.slice y1 x.out.length y4) (.slice y2 x.inn.length y5) (.slice y3 x.back.length y6) ∧ W.cell? ⟨mb, 0, none⟩ = some (.iface 294 (.agg #[.pointer (some ⟨kb, 0, none⟩), .int .i64 1]))) W') := hide (fun W W' h hT => ⟨(hT.block gs h.1.lt (by have := HLV.out.st.lt; omega)).trans h.1, hT.cell h.2 (fun e => by have h1 : _ = wr.heap.size := e; have h2 := HLow.out; simp only at h1; omega)⟩)
            have HSb : Hid (∀ W W', (fun W => StAt W gs x (.slice y1 x.out.length y4) (.slice y2 x.inn.length y5) (.slice y3 x.back.length y6) ∧ W.cell? ⟨mb, 0, none⟩ = some (.iface 294 (.agg #[.pointer (some ⟨kb, 0, none⟩), .int .i64 1]))) W → Below W.heap.size W W' → (fun W => StAt W gs x (.slice y1 x.out.length y4) (.slice y2 x.inn.length y5) (.slice y3 x.back.length y6) ∧ W.cell? ⟨mb, 0, none⟩ = some (.iface 294 (.agg #[.pointer (some ⟨kb, 0, none⟩), .int .i64 1]))) W') := hide (fun W W' h hB => ⟨h.1.below hB, (hB.cell (World.block_lt_of_cell? W _ h.2)).trans h.2⟩)
            have HZ0 : Hid ((wr.alloc (Obj.cells #[.bool false, .bool false, .int .i64 0, .int .i64 0, .slice none 0 0, .slice none 0 0, .slice none 0 0, .int .i64 0, .bool false, .bool false, .bool false] 58)).drew.heap[wr.heap.size]? = some (Obj.cells #[.bool false, .bool false, .int .i64 0, .int .i64 0, .slice none 0 0, .slice none 0 0, .slice none 0 0, .int .i64 0, .bool false, .bool false, .bool false] 58)) := hide (heap_alloc_new wr (Obj.cells #[.bool false, .bool false, .int .i64 0, .int .i64 0, .slice none 0 0, .slice none 0 0, .slice none 0 0, .int .i64 0, .bool false, .bool false, .bool false] 58))
            clear hp hpz hBZ h2 h3 h4
            by_cases h9 : k < t.length
            case' pos =>
              have b1 : (k : Int) < (t.length : Int) := by omega
              have b2 : ¬ (k : Int) < 100 := by omega
            case' neg =>
              have b1 : ¬ (k : Int) < (t.length : Int) := by omega
            all_goals
              go_upto_region 22 with fail
              go_cut [25, 26, 27] (fun p v0 v1 wx => ∃ (gt : Nat) (a1 a2 a3 : Option Addr) (a4 a5 a6 : Nat), p = .pointer (some ⟨gt, 0, none⟩) ∧ v0 = .int .i64 N ∧ v1 = .int .i64 0 ∧ Hid (StAt wx gt x' (.slice a1 x'.out.length a4) (.slice a2 x'.inn.length a5) (.slice a3 x'.back.length a6)) ∧ Hid (SOut (fun w O K => KAt w O kb K) wr.drew O x' K' (.slice a1 x'.out.length a4) (.slice a2 x'.inn.length a5) (.slice a3 x'.back.length a6) wx))
              case first =>
                refine wp_region_noPanic ?_
                refine wp_region_held_drew (S := fun W => StAt W gs x (.slice y1 x.out.length y4) (.slice y2 x.inn.length y5) (.slice y3 x.back.length y6) ∧ W.cell? ⟨mb, 0, none⟩ = some (.iface 294 (.agg #[.pointer (some ⟨kb, 0, none⟩), .int .i64 1]))) (by kernel_rfl) (HSn.out _ _ (Below.refl _ _).drew (Turned.refl _ _)) (fun hHeld => ?_)
                refine wpAnyH_take (i := 0) (oi := ?_) (v := ?_) ?_ (by kernel_rfl) (by kernel_rfl) (by kernel_rfl) (fun _ _ _ h => (h : False).elim) (Or.inl ⟨?_, ?_⟩) hHeld ?_
                rotate_left 2
                · (simp only [List.getElem?_toArray, List.getElem?_cons_zero]; rfl)
                · rfl
                · (intro W hSw; obtain ⟨hq1, hq2⟩ := hSw; obtain ⟨m0, m1, m2, m3, m4, m5, m6, m7, m8, m9, m10⟩ := hq1.cs; go_simp <;> with_reducible rfl)
                try simp only [Act.put, List.setIfInBounds_toArray, List.set_cons_zero, List.set_cons_succ]
                refine wpAnyH_take (i := 1) (oi := ?_) (v := ?_) ?_ (by kernel_rfl) (by kernel_rfl) (by kernel_rfl) (fun _ _ _ h => (h : False).elim) (Or.inl ⟨?_, ?_⟩) hHeld ?_
                rotate_left 2
                · (simp only [List.getElem?_toArray, List.getElem?_cons_zero, List.getElem?_cons_succ]; rfl)
                · rfl
                · (intro W hSw; obtain ⟨hq1, hq2⟩ := hSw; obtain ⟨m0, m1, m2, m3, m4, m5, m6, m7, m8, m9, m10⟩ := hq1.cs; go_simp <;> with_reducible rfl)
                try simp only [Act.put, List.setIfInBounds_toArray, List.set_cons_zero, List.set_cons_succ]
                refine wpAnyH_take (i := 2) (oi := ?_) (v := ?_) ?_ (by kernel_rfl) (by kernel_rfl) (by kernel_rfl) (fun _ _ _ h => (h : False).elim) (Or.inl ⟨?_, ?_⟩) hHeld ?_
                rotate_left 2
                · (simp only [List.getElem?_toArray, List.getElem?_cons_zero, List.getElem?_cons_succ]; rfl)
                · rfl
                · (intro W hSw; obtain ⟨hq1, hq2⟩ := hSw; obtain ⟨m0, m1, m2, m3, m4, m5, m6, m7, m8, m9, m10⟩ := hq1.cs; go_simp <;> with_reducible rfl)
                try simp only [Act.put, List.setIfInBounds_toArray, List.set_cons_zero, List.set_cons_succ]
                refine wpAnyH_take (i := 3) (oi := ?_) (v := ?_) ?_ (by kernel_rfl) (by kernel_rfl) (by kernel_rfl) (fun _ _ _ h => (h : False).elim) (Or.inl ⟨?_, ?_⟩) hHeld ?_
                rotate_left 2
                · (simp only [List.getElem?_toArray, List.getElem?_cons_zero, List.getElem?_cons_succ]; rfl)
                · rfl
                · (intro W hSw; obtain ⟨hq1, hq2⟩ := hSw; obtain ⟨m0, m1, m2, m3, m4, m5, m6, m7, m8, m9, m10⟩ := hq1.cs; go_simp <;> with_reducible rfl)
                try simp only [Act.put, List.setIfInBounds_toArray, List.set_cons_zero, List.set_cons_succ]
                refine wpAnyH_take (i := 4) (oi := ?_) (v := ?_) ?_ (by kernel_rfl) (by kernel_rfl) (by kernel_rfl) (fun _ _ _ h => (h : False).elim) (Or.inl ⟨?_, ?_⟩) hHeld ?_
                rotate_left 2
                · (simp only [List.getElem?_toArray, List.getElem?_cons_zero, List.getElem?_cons_succ]; rfl)
                · rfl
                · (intro W hSw; obtain ⟨hq1, hq2⟩ := hSw; obtain ⟨m0, m1, m2, m3, m4, m5, m6, m7, m8, m9, m10⟩ := hq1.cs; go_simp <;> with_reducible rfl)
                try simp only [Act.put, List.setIfInBounds_toArray, List.set_cons_zero, List.set_cons_succ]
                refine wpAnyH_ready (rs := [5, 10]) (by kernel_rfl) (by simp) ?_
                refine AllReadyH.cons (o := ?_) ?_ (fun K' hK => ?_) (AllReadyH.cons (o := ?_) ?_ (fun K' hK => ?_) AllReadyH.nil)
                rotate_left 1
                · (simp only [List.getElem?_toArray, List.getElem?_cons_zero, List.getElem?_cons_succ]; rfl)
                · go_simp
                  go_at_call 31
                  refine HP.out.mono ?_
                  rintro _ w5' ⟨o', i', b'', rfl, hS⟩
                  obtain ⟨a1, a4, rfl, -⟩ := hS.choose_spec.1.so
                  obtain ⟨a2, a5, rfl, -⟩ := hS.choose_spec.1.si
                  obtain ⟨a3, a6, rfl, -⟩ := hS.choose_spec.1.sb
                  have hT5 : Turned O wr.drew w5' := hS.choose_spec.2.2.2.2
                  have HS5 := hide hS
                  clear hS
                  have h9 := HSn.out _ w5' ((Below.refl _ _).drew) hT5
                  refine hK.out _ _ (h9) (fun hHeld2 => ?_)
                  clear hK K' hHeld
                  have hHeld := hHeld2
                  clear hHeld2
                  try simp only [Act.put, List.setIfInBounds_toArray, List.set_cons_zero, List.set_cons_succ]
                  refine wpAnyH_take (i := 6) (oi := ?_) (v := ?_) ?_ (by kernel_rfl) (by kernel_rfl) (by kernel_rfl) (fun _ _ _ h => (h : False).elim) (Or.inl ⟨?_, ?_⟩) hHeld ?_
                  rotate_left 2
                  · (simp only [List.getElem?_toArray, List.getElem?_cons_zero, List.getElem?_cons_succ]; rfl)
                  · rfl
                  · (intro W hSw; obtain ⟨hq1, hq2⟩ := hSw; obtain ⟨m0, m1, m2, m3, m4, m5, m6, m7, m8, m9, m10⟩ := hq1.cs; go_simp <;> with_reducible rfl)
                  try simp only [Act.put, List.setIfInBounds_toArray, List.set_cons_zero, List.set_cons_succ]
                  refine wpAnyH_take (i := 7) (oi := ?_) (v := ?_) ?_ (by kernel_rfl) (by kernel_rfl) (by kernel_rfl) (fun _ _ _ h => (h : False).elim) (Or.inl ⟨?_, ?_⟩) hHeld ?_
                  rotate_left 2
                  · (simp only [List.getElem?_toArray, List.getElem?_cons_zero, List.getElem?_cons_succ]; rfl)
                  · rfl
                  · (intro W hSw; obtain ⟨hq1, hq2⟩ := hSw; obtain ⟨m0, m1, m2, m3, m4, m5, m6, m7, m8, m9, m10⟩ := hq1.cs; go_simp <;> with_reducible rfl)
                  try simp only [Act.put, List.setIfInBounds_toArray, List.set_cons_zero, List.set_cons_succ]
                  refine wpAnyH_take (i := 8) (oi := ?_) (v := ?_) ?_ (by kernel_rfl) (by kernel_rfl) (by kernel_rfl) (fun _ _ _ h => (h : False).elim) (Or.inl ⟨?_, ?_⟩) hHeld ?_
                  rotate_left 2
                  · (simp only [List.getElem?_toArray, List.getElem?_cons_zero, List.getElem?_cons_succ]; rfl)
                  · rfl
                  · (intro W hSw; obtain ⟨hq1, hq2⟩ := hSw; obtain ⟨m0, m1, m2, m3, m4, m5, m6, m7, m8, m9, m10⟩ := hq1.cs; go_simp <;> with_reducible rfl)
                  try simp only [Act.put, List.setIfInBounds_toArray, List.set_cons_zero, List.set_cons_succ]
                  refine wpAnyH_take (i := 9) (oi := ?_) (v := ?_) ?_ (by kernel_rfl) (by kernel_rfl) (by kernel_rfl) (fun _ _ _ h => (h : False).elim) (Or.inl ⟨?_, ?_⟩) hHeld ?_
                  rotate_left 2
                  · (simp only [List.getElem?_toArray, List.getElem?_cons_zero, List.getElem?_cons_succ]; rfl)
                  · rfl
                  · (intro W hSw; obtain ⟨hq1, hq2⟩ := hSw; obtain ⟨m0, m1, m2, m3, m4, m5, m6, m7, m8, m9, m10⟩ := hq1.cs; go_simp <;> with_reducible rfl)
                  try simp only [Act.put, List.setIfInBounds_toArray, List.set_cons_zero, List.set_cons_succ]
                  refine wpAnyH_ready (rs := [10]) (by kernel_rfl) (by simp) ?_
                  refine AllReadyH.cons (o := ?_) ?_ (fun K' hK => ?_) AllReadyH.nil
                  rotate_left 1
                  · (simp only [List.getElem?_toArray, List.getElem?_cons_zero, List.getElem?_cons_succ]; rfl)
                  go_simp
                  refine hK.out _ _ (HSb.out _ _ h9 (recv_below w5' (Obj.cells #[.bool false, .bool false, .int .i64 0, .int .i64 0, .slice none 0 0, .slice none 0 0, .slice none 0 0, .int .i64 0, .bool false, .bool false, .bool false] 58))) (fun hHeld2 => ?_)
                  clear hK K' hHeld
                  have hHeld := hHeld2
                  clear hHeld2
                  try simp only [Act.put, List.setIfInBounds_toArray, List.set_cons_zero, List.set_cons_succ]
                  refine wpAnyH_ready (rs := [11]) (by kernel_rfl) (by simp) ?_
                  refine AllReadyH.cons (o := ?_) ?_ (fun K' hK => ?_) AllReadyH.nil
                  rotate_left 1
                  · (simp only [List.getElem?_toArray, List.getElem?_cons_zero, List.getElem?_cons_succ]; rfl)
                  go_simp
                  refine hK.out _ _ (HSb.out _ _ h9 (recv_below w5' (Obj.cells #[.bool x'.rd, .bool x'.wt, .int .i64 x'.mode, .int .i64 x'.size, .slice a1 x'.out.length a4, .slice a2 x'.inn.length a5, .slice a3 x'.back.length a6, .int .i64 x'.dir, .bool x'.fin, .bool x'.bad, .bool x'.closed] 58))) (fun hHeld2 => ?_)
                  clear hK K' hHeld
                  have hHeld := hHeld2
                  clear hHeld2
                  try simp only [Act.put, List.setIfInBounds_toArray, List.set_cons_zero, List.set_cons_succ]
                  refine wpAnyH_take (i := 12) (oi := ?_) (v := ?_) ?_ (by kernel_rfl) (by kernel_rfl) (by kernel_rfl) (fun _ _ _ h => (h : False).elim) (Or.inl ⟨?_, ?_⟩) hHeld ?_
                  rotate_left 2
                  · (simp only [List.getElem?_toArray, List.getElem?_cons_zero, List.getElem?_cons_succ]; rfl)
                  · rfl
                  · (intro W hSw; obtain ⟨hq1, hq2⟩ := hSw; obtain ⟨m0, m1, m2, m3, m4, m5, m6, m7, m8, m9, m10⟩ := hq1.cs; go_simp <;> with_reducible rfl)
                  try simp only [Act.put, List.setIfInBounds_toArray, List.set_cons_zero, List.set_cons_succ]
                  refine wpAnyH_take (i := 13) (oi := ?_) (v := ?_) ?_ (by kernel_rfl) (by kernel_rfl) (by kernel_rfl) (fun _ _ _ h => (h : False).elim) (Or.inl ⟨?_, ?_⟩) hHeld ?_
                  rotate_left 2
                  · (simp only [List.getElem?_toArray, List.getElem?_cons_zero, List.getElem?_cons_succ]; rfl)
                  · rfl
                  · (intro W hSw; obtain ⟨hq1, hq2⟩ := hSw; obtain ⟨m0, m1, m2, m3, m4, m5, m6, m7, m8, m9, m10⟩ := hq1.cs; go_simp <;> with_reducible rfl)
                  try simp only [Act.put, List.setIfInBounds_toArray, List.set_cons_zero, List.set_cons_succ]
                  refine wpAnyH_done (by kernel_rfl) ?_ _
                  refine NoPanic.normal ?_
                  clear hHeld h9 hT5
                  go_wp2
                  go_meet
                  exact ⟨_, _, _, _, _, _, _, rfl, rfl, rfl, hide (StAt.new w5' x' (.slice a1 x'.out.length a4) (.slice a2 x'.inn.length a5) (.slice a3 x'.back.length a6)), hide (SOut.below (fun s => kat_o kb s) HS5.out (recv_below w5' (Obj.cells #[.bool x'.rd, .bool x'.wt, .int .i64 x'.mode, .int .i64 x'.size, .slice a1 x'.out.length a4, .slice a2 x'.inn.length a5, .slice a3 x'.back.length a6, .int .i64 x'.dir, .bool x'.fin, .bool x'.bad, .bool x'.closed] 58)) rfl rfl rfl)⟩
                rotate_left 1
                · (simp only [List.getElem?_toArray, List.getElem?_cons_zero, List.getElem?_cons_succ]; rfl)
                · go_simp
                  refine hK.out _ _ (HSn.out _ _ ((Below.refl _ wr).alloc (Nat.le_refl _) (Obj.cells #[.bool false, .bool false, .int .i64 0, .int .i64 0, .slice none 0 0, .slice none 0 0, .slice none 0 0, .int .i64 0, .bool false, .bool false, .bool false] 58)).drew (Turned.refl _ _)) (fun hHeld2 => ?_)
                  clear hK K' hHeld
                  have hHeld := hHeld2
                  clear hHeld2
                  try simp only [Act.put, List.setIfInBounds_toArray, List.set_cons_zero, List.set_cons_succ]
                  refine wpAnyH_ready (rs := [5]) (by kernel_rfl) (by simp) ?_
                  refine AllReadyH.cons (o := ?_) ?_ (fun K' hK => ?_) AllReadyH.nil
                  rotate_left 1
                  · (simp only [List.getElem?_toArray, List.getElem?_cons_zero, List.getElem?_cons_succ]; rfl)
                  go_simp
                  go_at_call 31
                  refine HPz.out.mono ?_
                  rintro _ w5' ⟨o', i', b'', rfl, hS⟩
                  obtain ⟨a1, a4, rfl, -⟩ := hS.choose_spec.1.so
                  obtain ⟨a2, a5, rfl, -⟩ := hS.choose_spec.1.si
                  obtain ⟨a3, a6, rfl, -⟩ := hS.choose_spec.1.sb
                  have hT5 : Turned O (wr.alloc (Obj.cells #[.bool false, .bool false, .int .i64 0, .int .i64 0, .slice none 0 0, .slice none 0 0, .slice none 0 0, .int .i64 0, .bool false, .bool false, .bool false] 58)).drew w5' := hS.choose_spec.2.2.2.2
                  have HS5 := hide hS
                  clear hS
                  have h9 := HSn.out _ w5' (((Below.refl _ wr).alloc (Nat.le_refl _) (Obj.cells #[.bool false, .bool false, .int .i64 0, .int .i64 0, .slice none 0 0, .slice none 0 0, .slice none 0 0, .int .i64 0, .bool false, .bool false, .bool false] 58)).drew) hT5
                  refine hK.out _ _ (h9) (fun hHeld2 => ?_)
                  clear hK K' hHeld
                  have hHeld := hHeld2
                  clear hHeld2
                  try simp only [Act.put, List.setIfInBounds_toArray, List.set_cons_zero, List.set_cons_succ]
                  refine wpAnyH_take (i := 6) (oi := ?_) (v := ?_) ?_ (by kernel_rfl) (by kernel_rfl) (by kernel_rfl) (fun _ _ _ h => (h : False).elim) (Or.inl ⟨?_, ?_⟩) hHeld ?_
                  rotate_left 2
                  · (simp only [List.getElem?_toArray, List.getElem?_cons_zero, List.getElem?_cons_succ]; rfl)
                  · rfl
                  · (intro W hSw; obtain ⟨hq1, hq2⟩ := hSw; obtain ⟨m0, m1, m2, m3, m4, m5, m6, m7, m8, m9, m10⟩ := hq1.cs; go_simp <;> with_reducible rfl)
                  try simp only [Act.put, List.setIfInBounds_toArray, List.set_cons_zero, List.set_cons_succ]
                  refine wpAnyH_take (i := 7) (oi := ?_) (v := ?_) ?_ (by kernel_rfl) (by kernel_rfl) (by kernel_rfl) (fun _ _ _ h => (h : False).elim) (Or.inl ⟨?_, ?_⟩) hHeld ?_
                  rotate_left 2
                  · (simp only [List.getElem?_toArray, List.getElem?_cons_zero, List.getElem?_cons_succ]; rfl)
                  · rfl
                  · (intro W hSw; obtain ⟨hq1, hq2⟩ := hSw; obtain ⟨m0, m1, m2, m3, m4, m5, m6, m7, m8, m9, m10⟩ := hq1.cs; go_simp <;> with_reducible rfl)
                  try simp only [Act.put, List.setIfInBounds_toArray, List.set_cons_zero, List.set_cons_succ]
                  refine wpAnyH_take (i := 8) (oi := ?_) (v := ?_) ?_ (by kernel_rfl) (by kernel_rfl) (by kernel_rfl) (fun _ _ _ h => (h : False).elim) (Or.inl ⟨?_, ?_⟩) hHeld ?_
                  rotate_left 2
                  · (simp only [List.getElem?_toArray, List.getElem?_cons_zero, List.getElem?_cons_succ]; rfl)
                  · rfl
                  · (intro W hSw; obtain ⟨hq1, hq2⟩ := hSw; obtain ⟨m0, m1, m2, m3, m4, m5, m6, m7, m8, m9, m10⟩ := hq1.cs; go_simp <;> with_reducible rfl)
                  try simp only [Act.put, List.setIfInBounds_toArray, List.set_cons_zero, List.set_cons_succ]
                  refine wpAnyH_take (i := 9) (oi := ?_) (v := ?_) ?_ (by kernel_rfl) (by kernel_rfl) (by kernel_rfl) (fun _ _ _ h => (h : False).elim) (Or.inl ⟨?_, ?_⟩) hHeld ?_
                  rotate_left 2
                  · (simp only [List.getElem?_toArray, List.getElem?_cons_zero, List.getElem?_cons_succ]; rfl)
                  · rfl
                  · (intro W hSw; obtain ⟨hq1, hq2⟩ := hSw; obtain ⟨m0, m1, m2, m3, m4, m5, m6, m7, m8, m9, m10⟩ := hq1.cs; go_simp <;> with_reducible rfl)
                  try simp only [Act.put, List.setIfInBounds_toArray, List.set_cons_zero, List.set_cons_succ]
                  have hz9 : w5'.heap[wr.heap.size]? = some (Obj.cells #[.bool false, .bool false, .int .i64 0, .int .i64 0, .slice none 0 0, .slice none 0 0, .slice none 0 0, .int .i64 0, .bool false, .bool false, .bool false] 58) := (hT5.block wr.heap.size (by show _ < (wr.alloc (Obj.cells #[.bool false, .bool false, .int .i64 0, .int .i64 0, .slice none 0 0, .slice none 0 0, .slice none 0 0, .int .i64 0, .bool false, .bool false, .bool false] 58)).heap.size; rw [World.size_alloc]; omega) (fun e => by have := HLV.out.ol _ e; omega)).trans HZ0.out
                  obtain ⟨e1, e2⟩ := st_fill w5' wr.heap.size x' (.slice a1 x'.out.length a4) (.slice a2 x'.inn.length a5) (.slice a3 x'.back.length a6) hz9
                  have HS9 := hide (HSt.out _ _ h9 e2)
                  have HE1 := hide e1
                  have HE2x := hide e2
                  have u0' := frozen_of_row w5' wr.heap.size 0 _ _ hz9
                  have u1' := frozen_of_row w5' wr.heap.size 1 _ _ hz9
                  have u2' := frozen_of_row w5' wr.heap.size 2 _ _ hz9
                  have u3' := frozen_of_row w5' wr.heap.size 3 _ _ hz9
                  have u4' := frozen_of_row w5' wr.heap.size 4 _ _ hz9
                  have u5' := frozen_of_row w5' wr.heap.size 5 _ _ hz9
                  have u6' := frozen_of_row w5' wr.heap.size 6 _ _ hz9
                  have u7' := frozen_of_row w5' wr.heap.size 7 _ _ hz9
                  have u8' := frozen_of_row w5' wr.heap.size 8 _ _ hz9
                  have u9' := frozen_of_row w5' wr.heap.size 9 _ _ hz9
                  have u10' := frozen_of_row w5' wr.heap.size 10 _ _ hz9
                  have z0' := cell_of_row w5' wr.heap.size 0 _ _ _ hz9
                  have z1' := cell_of_row w5' wr.heap.size 1 _ _ _ hz9
                  have z2' := cell_of_row w5' wr.heap.size 2 _ _ _ hz9
                  have z3' := cell_of_row w5' wr.heap.size 3 _ _ _ hz9
                  have z4' := cell_of_row w5' wr.heap.size 4 _ _ _ hz9
                  have z5' := cell_of_row w5' wr.heap.size 5 _ _ _ hz9
                  have z6' := cell_of_row w5' wr.heap.size 6 _ _ _ hz9
                  have z7' := cell_of_row w5' wr.heap.size 7 _ _ _ hz9
                  have z8' := cell_of_row w5' wr.heap.size 8 _ _ _ hz9
                  have z9' := cell_of_row w5' wr.heap.size 9 _ _ _ hz9
                  have z10' := cell_of_row w5' wr.heap.size 10 _ _ _ hz9
                  simp at z0' z1' z2' z3' z4' z5' z6' z7' z8' z9' z10'
                  clear e1 e2 hz9 hT5
                  refine wpAnyH_ready (rs := [11]) (by kernel_rfl) (by simp) ?_
                  refine AllReadyH.cons (o := ?_) ?_ (fun K' hK => ?_) AllReadyH.nil
                  rotate_left 1
                  · (simp only [List.getElem?_toArray, List.getElem?_cons_zero, List.getElem?_cons_succ]; rfl)
                  go_simp
                  refine hK.out _ _ (HS9.out) (fun hHeld2 => ?_)
                  clear hK K' hHeld
                  have hHeld := hHeld2
                  clear hHeld2
                  try simp only [Act.put, List.setIfInBounds_toArray, List.set_cons_zero, List.set_cons_succ]
                  clear u0' z0' u1' z1' u2' z2' u3' z3' u4' z4' u5' z5' u6' z6' u7' z7' u8' z8' u9' z9' u10' z10'
                  refine wpAnyH_take (i := 12) (oi := ?_) (v := ?_) ?_ (by kernel_rfl) (by kernel_rfl) (by kernel_rfl) (fun _ _ _ h => (h : False).elim) (Or.inl ⟨?_, ?_⟩) hHeld ?_
                  rotate_left 2
                  · (simp only [List.getElem?_toArray, List.getElem?_cons_zero, List.getElem?_cons_succ]; rfl)
                  · rfl
                  · (intro W hSw; obtain ⟨hq1, hq2⟩ := hSw; obtain ⟨m0, m1, m2, m3, m4, m5, m6, m7, m8, m9, m10⟩ := hq1.cs; go_simp <;> with_reducible rfl)
                  try simp only [Act.put, List.setIfInBounds_toArray, List.set_cons_zero, List.set_cons_succ]
                  refine wpAnyH_take (i := 13) (oi := ?_) (v := ?_) ?_ (by kernel_rfl) (by kernel_rfl) (by kernel_rfl) (fun _ _ _ h => (h : False).elim) (Or.inl ⟨?_, ?_⟩) hHeld ?_
                  rotate_left 2
                  · (simp only [List.getElem?_toArray, List.getElem?_cons_zero, List.getElem?_cons_succ]; rfl)
                  · rfl
                  · (intro W hSw; obtain ⟨hq1, hq2⟩ := hSw; obtain ⟨m0, m1, m2, m3, m4, m5, m6, m7, m8, m9, m10⟩ := hq1.cs; go_simp <;> with_reducible rfl)
                  try simp only [Act.put, List.setIfInBounds_toArray, List.set_cons_zero, List.set_cons_succ]
                  refine wpAnyH_done (by kernel_rfl) ?_ _
                  refine NoPanic.normal ?_
                  clear hHeld h9
                  go_wp2
                  go_meet
                  exact ⟨_, _, _, _, _, _, _, rfl, rfl, rfl, HE1, hide (SOut.fin (fun s => kat_o kb s) HS5.out (show Below wr.heap.size wr.drew (wr.alloc (Obj.cells #[.bool false, .bool false, .int .i64 0, .int .i64 0, .slice none 0 0, .slice none 0 0, .slice none 0 0, .int .i64 0, .bool false, .bool false, .bool false] 58)).drew from recv_below wr.drew (Obj.cells #[.bool false, .bool false, .int .i64 0, .int .i64 0, .slice none 0 0, .slice none 0 0, .slice none 0 0, .int .i64 0, .bool false, .bool false, .bool false] 58)) (by show wr.heap.size < (wr.alloc (Obj.cells #[.bool false, .bool false, .int .i64 0, .int .i64 0, .slice none 0 0, .slice none 0 0, .slice none 0 0, .int .i64 0, .bool false, .bool false, .bool false] 58)).heap.size; rw [World.size_alloc]; omega) (Nat.le_refl _) HLV.out.ol HE2x.out)⟩
              case rest =>
                obtain ⟨gt, a1, a2, a3, a4, a5, a6, rfl, rfl, rfl, HTb, HSo⟩ := hcut
                clear HP HPz HSn HSt HSb HZ0 HVz d0
                have d9 : wc.cell? ⟨tb, tq + i, none⟩ = some (.slice qa t.length qc) := HSo.out.choose_spec.2.2.2.2.cell (show wr.drew.cell? _ = _ from d2) (fun e => by have h1 := HLV.out.ob _ e; simp only at h1; omega)
                obtain ⟨t0, t1, t2, t3, t4, t5, t6, t7, t8, t9, t10⟩ := HTb.out.cs
                obtain ⟨hst, ⟨O2, s1, s2, s3, s4⟩, s5⟩ := LV.by14 (rw_o (mb + 1)) (fun s => kat_o kb s) HVd.out ((rw_o (mb + 1) _).keep HRw.out.1 (fun _ _ _ => rfl) (Nat.le_refl _)) HRw.out.2.1 HRw.out.2.2 HSZ.out HSo.out
                have HL2 := hide s1
                have HR2 := hide (And.intro s2 (And.intro s3 s4))
                have HT2 := hide ((HTT.out.trans (Turned.of_below (S := fun k => mb + 1 ≤ k) (Below.refl _ wr).drew) (fun _ _ e => e)).trans s5 (fun _ _ e => e))
                obtain ⟨c0, c1, c2, c3, c4, c5, c6, c7, c8, c9, c10⟩ := hst.cs
                have f0 := hst.soft 0
                have f1 := hst.soft 1
                have f2 := hst.soft 2
                have f3 := hst.soft 3
                have f4 := hst.soft 4
                have f5 := hst.soft 5
                have f6 := hst.soft 6
                have f7 := hst.soft 7
                have f8 := hst.soft 8
                have f9 := hst.soft 9
                have f10 := hst.soft 10
                clear hst s1 s2 s3 s4 s5
                unfold filled at HL2 HR2 HT2
                clear HTb HSo HTB HBt HLow HK4 HVd HLV HRw HAp HKb HTT d2
                by_cases hz : t.length = 0
                case' pos =>
                  have z1 : ¬ (0 : Int) < (t.length : Int) := by omega
                case' neg =>
                  have z1 : (0 : Int) < (t.length : Int) := by omega
                  have hN : N = (nW : Int) := HN.out (hpos hz)
                  subst hN
                all_goals
                  go_wp2_with (first | (go_at_call 27; refine (num14 _ _).mono ?_; rintro _ _ ⟨rfl, rfl⟩) | fail)
                  first
                    | (exfalso; omega)
                    | ((first | go_roundw | refine ⟨?rel, ?measure⟩)
                       case rel => exact ⟨i + 1, x', K', Wt ++ t.take k, _, _, _, O2, P, by omega, by omega, by first | rfl | go_num, by have := HWk.out; omega, hide ⟨HApN.out.1.weak (fun e => e.elim), HApN.out.2⟩, HKbN, HL2, HR2, HT2⟩
                       case measure => simp [intOf]; omega)
end Go.Proofs.YtkkommomefmpgaaGreat
