/- What the proof stands on, part 11: the contracts of the program's calls that it reaches. -/
import Derived.Test.YtmlfcbbgelkbbaaGreatKW10
import Derived.KernelRfl
/- Blocks: the law's num, alive. -/
namespace Go.Proofs.YtmlfcbbgelkbbaaGreat
open Go.RowKit

theorem num16 (e : Int) (w : World) : Calls Tryz.prog 39 #[.int .i64 e] w fun r w' => r = .returned (.int .i64 e) ∧ w = w' := by
  go_enter Tryz.func39, Tryz.ntmps39
  go_wp2
  go_ret
  exact ⟨rfl, rfl⟩
def hello : List UInt8 := [104, 101, 108, 108, 111]
def qhX : SS := ⟨true, false, 3, 4, [], [], [], 1, true, false, false⟩
theorem qh_a : (xR 3 4).bread rdRm ⟨hello, hello.length, 0⟩ 2 3 = (qhX, [104, 101, 108, 108, 111], 2, 111, ⟨hello, hello.length, 5⟩) := by kernel_rfl
theorem by_big : bytesV 1099511627776 1099511627776 = (0, 4) := by kernel_rfl
set_option maxRecDepth 100000 in
set_option maxHeartbeats 8000000 in
theorem alive16 (w : World) : Calls Tryz.prog 35 #[] w fun e w' => e = .returned (.bool true) ∧ Below w.heap.size w w' := by
  have cl := conv_lit15 w #[.int .u8 104, .int .u8 101, .int .u8 108, .int .u8 108, .int .u8 111] 5 5 rfl
  have hb3 := lit_bys15 w hello #[.int .u8 104, .int .u8 101, .int .u8 108, .int .u8 108, .int .u8 111] 5 (5, 6) rfl rfl
  have hBl := (Below.refl _ w).alloc (Nat.le_refl _) (Obj.cells #[.int .u8 104, .int .u8 101, .int .u8 108, .int .u8 108, .int .u8 111] 5 (5, 6))
  have HN1 := hide (newReader_good _ hello _ hb3 (by decide))
  have HBl := hide hBl
  have hN := fun W => sNew_any moR 3 4 W
  rw [new_R, if_pos (by decide), if_pos (by decide)] at hN
  simp only at hN
  unfold mv at hN
  have HN := hide hN
  have hY := fun W => bbytes_any 1099511627776 1099511627776 W
  rw [by_big] at hY
  simp only at hY
  have HY := hide hY
  clear hN hb3 hBl hY
  go_enter Tryz.func35, Tryz.ntmps35
  go_wp2_with fail
  generalize w.alloc (Obj.cells #[.int .u8 104, .int .u8 101, .int .u8 108, .int .u8 108, .int .u8 111] 5 (5, 6)) = w0 at *
  refine HN1.out.mono ?_
  rintro _ w1 ⟨g, rfl, hM, hB⟩
  have HM := hide hM
  have HB := hide (HBl.out.trans (hB.mono HBl.out.size))
  have hz0 := HBl.out.size
  clear hM hB HN1 cl
  go_wp2_with fail
  refine (HN.out _).mono ?_
  rintro _ w2 ⟨rfl, hB2⟩
  have HM2 := hide (HM.out.below hB2)
  have HB2 := hide (HB.out.trans (hB2.mono HB.out.size))
  clear hB2 HM HB
  have HS2 := hide (StAt.new w2 (xR 3 4) (.slice none 0 0) (.slice none 0 0) (.slice none 0 0))
  have HB3 := hide (recv_below w2 (Obj.cells #[.bool (xR 3 4).rd, .bool (xR 3 4).wt, .int .i64 (xR 3 4).mode, .int .i64 (xR 3 4).size, .slice none 0 0, .slice none 0 0, .slice none 0 0, .int .i64 (xR 3 4).dir, .bool (xR 3 4).fin, .bool (xR 3 4).bad, .bool (xR 3 4).closed] 58))
  have HLV : Hid (LV (fun w O S => MemAt w O g S) (w2.alloc (Obj.cells #[.bool (xR 3 4).rd, .bool (xR 3 4).wt, .int .i64 (xR 3 4).mode, .int .i64 (xR 3 4).size, .slice none 0 0, .slice none 0 0, .slice none 0 0, .int .i64 (xR 3 4).dir, .bool (xR 3 4).fin, .bool (xR 3 4).bad, .bool (xR 3 4).closed] 58)) w.heap.size w2.heap.size (fun k => w0.heap.size ≤ k ∧ k < w2.heap.size) (xR 3 4) ⟨hello, hello.length, 0⟩ (.slice none (xR 3 4).out.length 0) (.slice none (xR 3 4).inn.length 0) (.slice none (xR 3 4).back.length 0)) := hide
    ⟨HS2.out, SIn.nils0 rfl rfl rfl, HM2.out.trim.below HB3.out, fun j e => Nat.lt_of_lt_of_le e.2 HB3.out.size, fun j e => by have := e.1; omega, fun e => by omega, HB2.out.size⟩
  have HTT : Hid (Turned (fun k => w.heap.size ≤ k) w (w2.alloc (Obj.cells #[.bool (xR 3 4).rd, .bool (xR 3 4).wt, .int .i64 (xR 3 4).mode, .int .i64 (xR 3 4).size, .slice none 0 0, .slice none 0 0, .slice none 0 0, .int .i64 (xR 3 4).dir, .bool (xR 3 4).fin, .bool (xR 3 4).bad, .bool (xR 3 4).closed] 58))) := hide ((Turned.of_below HB2.out).trans (Turned.of_below (S := fun k => w.heap.size ≤ k) HB3.out) (fun _ _ e => e))
  have hp := bread_any (rdr_raw g) (fun s => gmem_o g s) (bears_true rdRm) _ _ _ _ _ _ 2 3 HLV.out.ls HLV.out.raw HLV.out.ol trivial (by decide) (by decide) (by decide)
  rw [qh_a] at hp
  simp only at hp
  have HP := hide hp
  clear hp
  go_wp2_with (first | (go_at_call 39; refine (num16 _ _).mono ?_; rintro _ _ ⟨rfl, rfl⟩) | fail)
  generalize w2.alloc (Obj.cells #[.bool (xR 3 4).rd, .bool (xR 3 4).wt, .int .i64 (xR 3 4).mode, .int .i64 (xR 3 4).size, .slice none 0 0, .slice none 0 0, .slice none 0 0, .int .i64 (xR 3 4).dir, .bool (xR 3 4).fin, .bool (xR 3 4).bad, .bool (xR 3 4).closed] 58) = w3 at *
  have HSZ := hide HTT.out.size
  clear HS2 HB3 HM2 HN
  generalize w2.heap.size = gv at *
  refine HP.out.mono ?_
  rintro _ w10 ⟨o', i', b', uu, rfl, hS⟩
  obtain ⟨e1, e4, rfl, -⟩ := hS.choose_spec.1.1.so
  obtain ⟨e2, e5, rfl, -⟩ := hS.choose_spec.1.1.si
  obtain ⟨e3, e6, rfl, -⟩ := hS.choose_spec.1.1.sb
  obtain ⟨r1, r2, hu0⟩ := owns_slice hS.choose_spec.2.1
  have hu1 : uu = .slice r1 5 r2 := hu0
  subst hu1
  have ht : Turned _ w3 w10 := hS.choose_spec.1.2.2.2.2
  have HT10 : Hid (Turned (fun k => w.heap.size ≤ k) w w10) := hide (HTT.out.trans (ht.mono fun k e => HLV.out.ob k e) (fun _ _ e => e))
  have HB11 := recv_below w10 (Obj.cells #[.bool qhX.rd, .bool qhX.wt, .int .i64 qhX.mode, .int .i64 qhX.size, .slice e1 qhX.out.length e4, .slice e2 qhX.inn.length e5, .slice e3 qhX.back.length e6, .int .i64 qhX.dir, .bool qhX.fin, .bool qhX.bad, .bool qhX.closed] 58)
  have m1 : (convert 40 9 (.slice r1 5 r2)).run Tryz.prog (w10.alloc (Obj.cells #[.bool qhX.rd, .bool qhX.wt, .int .i64 qhX.mode, .int .i64 qhX.size, .slice e1 qhX.out.length e4, .slice e2 qhX.inn.length e5, .slice e3 qhX.back.length e6, .int .i64 qhX.dir, .bool qhX.fin, .bool qhX.bad, .bool qhX.closed] 58)) = .ok (.string ⟨#[104, 101, 108, 108, 111]⟩) (w10.alloc (Obj.cells #[.bool qhX.rd, .bool qhX.wt, .int .i64 qhX.mode, .int .i64 qhX.size, .slice e1 qhX.out.length e4, .slice e2 qhX.inn.length e5, .slice e3 qhX.back.length e6, .int .i64 qhX.dir, .bool qhX.fin, .bool qhX.bad, .bool qhX.closed] 58)) := owns_string (l := [104, 101, 108, 108, 111]) (owns_below hS.choose_spec.2.1 HB11)
  have HB12 := hide HB11
  clear hS ht hu0 HLV HTT HSZ HP HB11
  go_wp2_with fail
  refine (HY.out _).mono ?_
  rintro _ _ ⟨rfl, rfl⟩
  go_wp2_with (first | (go_at_call 39; refine (num16 _ _).mono ?_; rintro _ _ ⟨rfl, rfl⟩) | fail)
  go_ret
  exact ⟨rfl, (HT10.out.below (B := w.heap.size) (fun _ e => e) (Nat.le_refl _)).trans (HB12.out.mono HT10.out.size)⟩
end Go.Proofs.YtmlfcbbgelkbbaaGreat

/- Lines: Until, Get, All, Put over a nil Raw. -/
namespace Go.Proofs.YtmlfcbbgelkbbaaGreat
open Go.RowKit

theorem refuse_nil (x : SS) : x.refuse false ≠ 0 := by
  unfold SS.refuse
  split
  · decide
  · rw [if_pos rfl]
    decide
end Go.Proofs.YtmlfcbbgelkbbaaGreat

/- LinesOwn: what a call that tells bytes gave, in a new variable; how long the lists are that follow. -/
namespace Go.Proofs.YtmlfcbbgelkbbaaGreat
open Go.RowKit

theorem gat_may {S : Type} (D : RawD S) (stop : List UInt8 → Bool) : ∀ (n : Nat) (x : SS) (s : S) (acc : List UInt8), x.may = true → (gat D stop n x s acc).1.may = true ∧ (gat D stop n x s acc).2.1.length ≤ acc.length + n
  | 0, x, s, acc, h => ⟨h, by show acc.length ≤ _; omega⟩
  | n + 1, x, s, acc, h => by
    have hg := (get_may D s h).1
    have ih := gat_may D stop n (x.get D s).1 (x.get D s).2.2.2 (acc ++ [(x.get D s).2.1]) hg
    unfold gat
    split
    · exact ⟨h, by show acc.length ≤ _; omega⟩
    · split
      · exact ⟨hg, by show acc.length ≤ _; omega⟩
      · exact ⟨ih.1, by have := ih.2; simp only [List.length_append, List.length_cons, List.length_nil] at this; omega⟩
structure GotG {S : Type} (At : World → (Nat → Prop) → S → Prop) (W0 : World) (O O' : Nat → Prop) (W : World) (g : Nat) (R : SS × List UInt8 × Int × S) (o i b u : Value) : Prop where
  got : Got At W0 O O' W g R.1 R.2.2.2 o i b
  row : W.ownsRow W0.heap.size 5 1 u R.2.1.length (R.2.1.map bv)
  off : ∀ k, u.ownBlock = some k → k ≠ g ∧ o.ownBlock ≠ some k ∧ i.ownBlock ≠ some k ∧ b.ownBlock ≠ some k
theorem GOut.sout {S : Type} {At : World → (Nat → Prop) → S → Prop} {w w' : World} {O : Nat → Prop} {R : SS × List UInt8 × Int × S} {o i b u : Value} (h : GOut At w O R o i b u w') : SOut At w O R.1 R.2.2.2 o i b w' := ⟨h.choose, h.choose_spec.1⟩
theorem GotG.behind {S : Type} {At : World → (Nat → Prop) → S → Prop} (hT : ∀ s, OAt (fun w O => At w O s)) {W0 W1 : World} {O : Nat → Prop} {R : SS × List UInt8 × Int × S} {o i b u : Value} (h : GOut At W0 O R o i b u W1) : ∃ O', GotG At W0 O O' (W1.alloc (Obj.cells #[.bool R.1.rd, .bool R.1.wt, .int .i64 R.1.mode, .int .i64 R.1.size, o, i, b, .int .i64 R.1.dir, .bool R.1.fin, .bool R.1.bad, .bool R.1.closed] 58)) W1.heap.size R o i b u := by
  obtain ⟨O', hg⟩ := Got.behind hT h.sout
  have h6 := h.choose_spec.2.1
  exact ⟨O', hg, owns_below h6 (recv_below W1 _), fun k e => ⟨by have := (h6.lt k e).2; omega, (h.choose_spec.2.2 k e).2⟩⟩
theorem GotG.ahead {S : Type} {At : World → (Nat → Prop) → S → Prop} (hT : ∀ s, OAt (fun w O => At w O s)) {W0 W1 : World} {O : Nat → Prop} {R : SS × List UInt8 × Int × S} {o i b u : Value} (h : GOut At (W0.alloc (Obj.cells #[.bool false, .bool false, .int .i64 0, .int .i64 0, .slice none 0 0, .slice none 0 0, .slice none 0 0, .int .i64 0, .bool false, .bool false, .bool false] 58)) O R o i b u W1) (hO : ∀ j, O j → j < W0.heap.size) : ∃ O', GotG At W0 O O' ((((((((((((W1.setCell ⟨W0.heap.size, 0, none⟩ (.bool R.1.rd)).setCell ⟨W0.heap.size, 1, none⟩ (.bool R.1.wt)).setCell ⟨W0.heap.size, 2, none⟩ (.int .i64 R.1.mode)).setCell ⟨W0.heap.size, 3, none⟩ (.int .i64 R.1.size)).setCell ⟨W0.heap.size, 4, none⟩ (o)).setCell ⟨W0.heap.size, 5, none⟩ (i)).setCell ⟨W0.heap.size, 6, none⟩ (b)).setCell ⟨W0.heap.size, 7, none⟩ (.int .i64 R.1.dir)).setCell ⟨W0.heap.size, 8, none⟩ (.bool R.1.fin)).setCell ⟨W0.heap.size, 9, none⟩ (.bool R.1.bad)).setCell ⟨W0.heap.size, 10, none⟩ (.bool R.1.closed))) W0.heap.size R o i b u := by
  obtain ⟨O', hg⟩ := Got.ahead hT h.sout hO
  have h6 := h.choose_spec.2.1
  have hzs : (W0.alloc (Obj.cells #[.bool false, .bool false, .int .i64 0, .int .i64 0, .slice none 0 0, .slice none 0 0, .slice none 0 0, .int .i64 0, .bool false, .bool false, .bool false] 58)).heap.size = W0.heap.size + 1 := World.size_alloc ..
  have ht : Turned O (W0.alloc (Obj.cells #[.bool false, .bool false, .int .i64 0, .int .i64 0, .slice none 0 0, .slice none 0 0, .slice none 0 0, .int .i64 0, .bool false, .bool false, .bool false] 58)) W1 := h.choose_spec.1.2.2.2.2
  have hz9 : W1.heap[W0.heap.size]? = some (Obj.cells #[.bool false, .bool false, .int .i64 0, .int .i64 0, .slice none 0 0, .slice none 0 0, .slice none 0 0, .int .i64 0, .bool false, .bool false, .bool false] 58) := (ht.block W0.heap.size (by omega) (fun e => by have := hO _ e; omega)).trans (heap_alloc_new W0 _)
  obtain ⟨-, e2⟩ := st_fill W1 W0.heap.size R.1 o i b hz9
  exact ⟨O', hg, owns_mono (owns_turned h6 e2 (fun k e e' => by have e3 : k = W0.heap.size := e'; have := (h6.lt k e).1; omega)) (by omega), fun k e => ⟨by have := (h6.lt k e).1; omega, (h.choose_spec.2.2 k e).2⟩⟩
end Go.Proofs.YtmlfcbbgelkbbaaGreat

/- Blocks: Read, Write over a nil Raw; how long the lists are that follow. -/
namespace Go.Proofs.YtmlfcbbgelkbbaaGreat
open Go.RowKit

theorem bwant_nil (x : SS) (size count : Int) : x.bwant false size count = (0, x.refuse false) := by
  unfold SS.bwant
  rw [if_pos (refuse_nil x)]
theorem bread_lens {S : Type} (D : RawD S) (x : SS) (s : S) (size count : Int) {L : Nat} (hL : 65536 ≤ L) (ho : x.out.length ≤ L) (hi : x.inn.length ≤ L) (hb : x.back.length ≤ L) : (x.bread D s size count).1.out.length ≤ L ∧ (x.bread D s size count).1.inn.length ≤ L ∧ (x.bread D s size count).1.back.length ≤ L := by
  unfold SS.bread
  by_cases hr : (x.bwant true size count).2 ≠ 0
  · rw [if_pos hr]
    exact ⟨ho, hi, hb⟩
  · rw [if_neg hr]
    have hr0 : (x.bwant true size count).2 = 0 := by simpa using hr
    have hm := (refuse_may (bwant_may hr0).1).1
    obtain ⟨m1, m2, m3, m4, m5, m6, m7, m8⟩ := may_buf (gat_may D (stopN (x.bwant true size count).1.toNat) ((x.bwant true size count).1.toNat + 1) x s [] hm).1
    simp only
    exact ⟨by omega, by omega, by omega⟩
set_option maxRecDepth 100000 in
set_option maxHeartbeats 8000000 in
theorem bread_nil (x : SS) (oa ia ba : Option Addr) (oc ic bc : Nat) {P : Nat → Prop} (size count : Int) (w : World) (h : SIn w P x (.slice oa x.out.length oc) (.slice ia x.inn.length ic) (.slice ba x.back.length bc)) (ho : x.out.length ≤ 140737488351232) (hi : x.inn.length ≤ 140737488351232) (hb : x.back.length ≤ 140737488351232) :
    Calls Tryz.prog 36 #[.agg #[.bool x.rd, .bool x.wt, .int .i64 x.mode, .int .i64 x.size, .slice oa x.out.length oc, .slice ia x.inn.length ic, .slice ba x.back.length bc, .int .i64 x.dir, .bool x.fin, .bool x.bad, .bool x.closed], .nilIface, .int .i64 size, .int .i64 count] w fun e w' => ∃ (a1 a2 a3 : Option Addr) (k1 k2 k3 : Nat), e = .returned (.tuple #[.agg #[.bool x.rd, .bool x.wt, .int .i64 x.mode, .int .i64 x.size, .slice a1 x.out.length k1, .slice a2 x.inn.length k2, .slice a3 x.back.length k3, .int .i64 x.dir, .bool x.fin, .bool x.bad, .bool x.closed], .slice none 0 0, .int .i64 0, .int .i64 (x.refuse false)]) ∧ Below w.heap.size w w' := by
  have hF2 : ((w.alloc (Obj.cells #[.bool x.rd, .bool x.wt, .int .i64 x.mode, .int .i64 x.size, .slice oa x.out.length oc, .slice ia x.inn.length ic, .slice ba x.back.length bc, .int .i64 x.dir, .bool x.fin, .bool x.bad, .bool x.closed] 58)).alloc (Obj.cells #[.bool false, .bool false, .int .i64 0, .int .i64 0, .slice none 0 0, .slice none 0 0, .slice none 0 0, .int .i64 0, .bool false, .bool false, .bool false] 58)).heap[w.heap.size]? = some (Obj.cells #[.bool x.rd, .bool x.wt, .int .i64 x.mode, .int .i64 x.size, .slice oa x.out.length oc, .slice ia x.inn.length ic, .slice ba x.back.length bc, .int .i64 x.dir, .bool x.fin, .bool x.bad, .bool x.closed] 58) ∧ ((w.alloc (Obj.cells #[.bool x.rd, .bool x.wt, .int .i64 x.mode, .int .i64 x.size, .slice oa x.out.length oc, .slice ia x.inn.length ic, .slice ba x.back.length bc, .int .i64 x.dir, .bool x.fin, .bool x.bad, .bool x.closed] 58)).alloc (Obj.cells #[.bool false, .bool false, .int .i64 0, .int .i64 0, .slice none 0 0, .slice none 0 0, .slice none 0 0, .int .i64 0, .bool false, .bool false, .bool false] 58)).heap[w.heap.size + 1]? = some (Obj.cells #[.bool false, .bool false, .int .i64 0, .int .i64 0, .slice none 0 0, .slice none 0 0, .slice none 0 0, .int .i64 0, .bool false, .bool false, .bool false] 58) ∧ Below w.heap.size w ((w.alloc (Obj.cells #[.bool x.rd, .bool x.wt, .int .i64 x.mode, .int .i64 x.size, .slice oa x.out.length oc, .slice ia x.inn.length ic, .slice ba x.back.length bc, .int .i64 x.dir, .bool x.fin, .bool x.bad, .bool x.closed] 58)).alloc (Obj.cells #[.bool false, .bool false, .int .i64 0, .int .i64 0, .slice none 0 0, .slice none 0 0, .slice none 0 0, .int .i64 0, .bool false, .bool false, .bool false] 58)) ∧ w.heap.size + 1 < ((w.alloc (Obj.cells #[.bool x.rd, .bool x.wt, .int .i64 x.mode, .int .i64 x.size, .slice oa x.out.length oc, .slice ia x.inn.length ic, .slice ba x.back.length bc, .int .i64 x.dir, .bool x.fin, .bool x.bad, .bool x.closed] 58)).alloc (Obj.cells #[.bool false, .bool false, .int .i64 0, .int .i64 0, .slice none 0 0, .slice none 0 0, .slice none 0 0, .int .i64 0, .bool false, .bool false, .bool false] 58)).heap.size := by
    have s1 : (w.alloc (Obj.cells #[.bool x.rd, .bool x.wt, .int .i64 x.mode, .int .i64 x.size, .slice oa x.out.length oc, .slice ia x.inn.length ic, .slice ba x.back.length bc, .int .i64 x.dir, .bool x.fin, .bool x.bad, .bool x.closed] 58)).heap.size = w.heap.size + 1 := Array.size_push ..
    have h2 := heap_alloc_new (w.alloc (Obj.cells #[.bool x.rd, .bool x.wt, .int .i64 x.mode, .int .i64 x.size, .slice oa x.out.length oc, .slice ia x.inn.length ic, .slice ba x.back.length bc, .int .i64 x.dir, .bool x.fin, .bool x.bad, .bool x.closed] 58)) (Obj.cells #[.bool false, .bool false, .int .i64 0, .int .i64 0, .slice none 0 0, .slice none 0 0, .slice none 0 0, .int .i64 0, .bool false, .bool false, .bool false] 58)
    rw [s1] at h2
    exact ⟨((recv_below (w.alloc (Obj.cells #[.bool x.rd, .bool x.wt, .int .i64 x.mode, .int .i64 x.size, .slice oa x.out.length oc, .slice ia x.inn.length ic, .slice ba x.back.length bc, .int .i64 x.dir, .bool x.fin, .bool x.bad, .bool x.closed] 58)) (Obj.cells #[.bool false, .bool false, .int .i64 0, .int .i64 0, .slice none 0 0, .slice none 0 0, .slice none 0 0, .int .i64 0, .bool false, .bool false, .bool false] 58)).block _ (by omega)).trans (heap_alloc_new w (Obj.cells #[.bool x.rd, .bool x.wt, .int .i64 x.mode, .int .i64 x.size, .slice oa x.out.length oc, .slice ia x.inn.length ic, .slice ba x.back.length bc, .int .i64 x.dir, .bool x.fin, .bool x.bad, .bool x.closed] 58)), h2, (recv_below w (Obj.cells #[.bool x.rd, .bool x.wt, .int .i64 x.mode, .int .i64 x.size, .slice oa x.out.length oc, .slice ia x.inn.length ic, .slice ba x.back.length bc, .int .i64 x.dir, .bool x.fin, .bool x.bad, .bool x.closed] 58)).trans ((recv_below (w.alloc (Obj.cells #[.bool x.rd, .bool x.wt, .int .i64 x.mode, .int .i64 x.size, .slice oa x.out.length oc, .slice ia x.inn.length ic, .slice ba x.back.length bc, .int .i64 x.dir, .bool x.fin, .bool x.bad, .bool x.closed] 58)) (Obj.cells #[.bool false, .bool false, .int .i64 0, .int .i64 0, .slice none 0 0, .slice none 0 0, .slice none 0 0, .int .i64 0, .bool false, .bool false, .bool false] 58)).mono (recv_below w (Obj.cells #[.bool x.rd, .bool x.wt, .int .i64 x.mode, .int .i64 x.size, .slice oa x.out.length oc, .slice ia x.inn.length ic, .slice ba x.back.length bc, .int .i64 x.dir, .bool x.fin, .bool x.bad, .bool x.closed] 58)).size), (Array.getElem?_eq_some_iff.1 h2).1⟩
  have HF := hide hF2
  have HR1 := hide (fun W => bwanted_nil x oa ia ba oc ic bc size count W hi hb)
  rw [bwant_nil] at HR1
  simp only at HR1
  have HIn := hide h
  have HLn := hide (And.intro ho (And.intro hi hb))
  clear h ho hi hb hF2
  have hr := refuse_nil x
  generalize x.refuse false = q2 at *
  go_enter Tryz.func36, Tryz.ntmps36
  go_wp2_with fail
  generalize ((w.alloc (Obj.cells #[.bool x.rd, .bool x.wt, .int .i64 x.mode, .int .i64 x.size, .slice oa x.out.length oc, .slice ia x.inn.length ic, .slice ba x.back.length bc, .int .i64 x.dir, .bool x.fin, .bool x.bad, .bool x.closed] 58)).alloc (Obj.cells #[.bool false, .bool false, .int .i64 0, .int .i64 0, .slice none 0 0, .slice none 0 0, .slice none 0 0, .int .i64 0, .bool false, .bool false, .bool false] 58)) = w0 at *
  refine (HR1.out w0).mono ?_
  rintro _ w1 ⟨rfl, hB1⟩
  have HB1 := hide (HF.out.2.2.1.trans (hB1.mono HF.out.2.2.1.size))
  have HX1 : Hid (StAt w1 w.heap.size x (.slice oa x.out.length oc) (.slice ia x.inn.length ic) (.slice ba x.back.length bc)) := hide ((hB1.block _ (by have := HF.out.2.2.2; omega)).trans HF.out.1)
  have HZ1 : Hid (w1.heap[w.heap.size + 1]? = some (Obj.cells #[.bool false, .bool false, .int .i64 0, .int .i64 0, .slice none 0 0, .slice none 0 0, .slice none 0 0, .int .i64 0, .bool false, .bool false, .bool false] 58)) := hide ((hB1.block _ HF.out.2.2.2).trans HF.out.2.1)
  have HZs : Hid (w.heap.size + 1 < w1.heap.size) := hide (Nat.lt_of_lt_of_le HF.out.2.2.2 hB1.size)
  obtain ⟨c0, c1, c2, c3, c4, c5, c6, c7, c8, c9, c10⟩ := HX1.out.cs
  clear hB1 HF HR1
  have hb1 : (q2 == 0) = false := by simp [hr]
  have hb2 : (q2 != 0) = true := by simp [hr]
  clear hr
  have HC := hide (kcopied_any x _ _ _ P w1 (HIn.out.below HB1.out) HLn.out.1 HLn.out.2.1 HLn.out.2.2)
  go_wp2_with fail
  refine HC.out.mono ?_
  rintro _ w3 ⟨o3, i3, b3, rfl, h1, h2, h3, hB3, -⟩
  obtain ⟨oa3, oc3, rfl⟩ := owns_slice h1
  obtain ⟨ia3, ic3, rfl⟩ := owns_slice h2
  obtain ⟨ba3, bc3, rfl⟩ := owns_slice h3
  have HZ3 : Hid (w3.heap[w.heap.size + 1]? = some (Obj.cells #[.bool false, .bool false, .int .i64 0, .int .i64 0, .slice none 0 0, .slice none 0 0, .slice none 0 0, .int .i64 0, .bool false, .bool false, .bool false] 58)) := hide ((hB3.block _ HZs.out).trans HZ1.out)
  have H1 := hide h1
  have H2 := hide h2
  have H3 := hide h3
  have HB3 := hide hB3
  clear h1 h2 h3 hB3 HC c0 c1 c2 c3 c4 c5 c6 c7 c8 c9 c10
  have z0 := cell_of_row w3 (w.heap.size + 1) 0 _ _ _ HZ3.out
  have t0 := frozen_of_row w3 (w.heap.size + 1) 0 _ _ HZ3.out
  have z1 := cell_of_row w3 (w.heap.size + 1) 1 _ _ _ HZ3.out
  have t1 := frozen_of_row w3 (w.heap.size + 1) 1 _ _ HZ3.out
  have z2 := cell_of_row w3 (w.heap.size + 1) 2 _ _ _ HZ3.out
  have t2 := frozen_of_row w3 (w.heap.size + 1) 2 _ _ HZ3.out
  have z3 := cell_of_row w3 (w.heap.size + 1) 3 _ _ _ HZ3.out
  have t3 := frozen_of_row w3 (w.heap.size + 1) 3 _ _ HZ3.out
  have z4 := cell_of_row w3 (w.heap.size + 1) 4 _ _ _ HZ3.out
  have t4 := frozen_of_row w3 (w.heap.size + 1) 4 _ _ HZ3.out
  have z5 := cell_of_row w3 (w.heap.size + 1) 5 _ _ _ HZ3.out
  have t5 := frozen_of_row w3 (w.heap.size + 1) 5 _ _ HZ3.out
  have z6 := cell_of_row w3 (w.heap.size + 1) 6 _ _ _ HZ3.out
  have t6 := frozen_of_row w3 (w.heap.size + 1) 6 _ _ HZ3.out
  have z7 := cell_of_row w3 (w.heap.size + 1) 7 _ _ _ HZ3.out
  have t7 := frozen_of_row w3 (w.heap.size + 1) 7 _ _ HZ3.out
  have z8 := cell_of_row w3 (w.heap.size + 1) 8 _ _ _ HZ3.out
  have t8 := frozen_of_row w3 (w.heap.size + 1) 8 _ _ HZ3.out
  have z9 := cell_of_row w3 (w.heap.size + 1) 9 _ _ _ HZ3.out
  have t9 := frozen_of_row w3 (w.heap.size + 1) 9 _ _ HZ3.out
  have z10 := cell_of_row w3 (w.heap.size + 1) 10 _ _ _ HZ3.out
  have t10 := frozen_of_row w3 (w.heap.size + 1) 10 _ _ HZ3.out
  simp at z0 z1 z2 z3 z4 z5 z6 z7 z8 z9 z10
  go_wp2
  obtain ⟨e1, e2⟩ := st_fill w3 (w.heap.size + 1) x (.slice oa3 x.out.length oc3) (.slice ia3 x.inn.length ic3) (.slice ba3 x.back.length bc3) HZ3.out
  refine bodyPost_ret (res_four rfl _ (w.heap.size + 1) rfl x _ _ _ e1) rfl ?_
  exact ⟨_, _, _, _, _, _, rfl, (HB1.out.trans (HB3.out.mono HB1.out.size)).trans (e2.below (B := w.heap.size) (fun k e => by have e : k = w.heap.size + 1 := e; omega) (Nat.le_trans HB1.out.size HB3.out.size))⟩
set_option maxRecDepth 100000 in
set_option maxHeartbeats 8000000 in
theorem bwrite_nil (x : SS) (oa ia ba : Option Addr) (oc ic bc : Nat) {P : Nat → Prop} (size count : Int) (w : World) (h : SIn w P x (.slice oa x.out.length oc) (.slice ia x.inn.length ic) (.slice ba x.back.length bc)) (ho : x.out.length ≤ 140737488351232) (hi : x.inn.length ≤ 140737488351232) (hb : x.back.length ≤ 140737488351232) :
    Calls Tryz.prog 37 #[.agg #[.bool x.rd, .bool x.wt, .int .i64 x.mode, .int .i64 x.size, .slice oa x.out.length oc, .slice ia x.inn.length ic, .slice ba x.back.length bc, .int .i64 x.dir, .bool x.fin, .bool x.bad, .bool x.closed], .nilIface, .slice none 0 0, .int .i64 size, .int .i64 count] w fun e w' => ∃ (a1 a2 a3 : Option Addr) (k1 k2 k3 : Nat), e = .returned (.tuple #[.agg #[.bool x.rd, .bool x.wt, .int .i64 x.mode, .int .i64 x.size, .slice a1 x.out.length k1, .slice a2 x.inn.length k2, .slice a3 x.back.length k3, .int .i64 x.dir, .bool x.fin, .bool x.bad, .bool x.closed], .int .i64 0, .int .i64 (x.refuse false)]) ∧ Below w.heap.size w w' := by
  have hF2 : ((w.alloc (Obj.cells #[.bool x.rd, .bool x.wt, .int .i64 x.mode, .int .i64 x.size, .slice oa x.out.length oc, .slice ia x.inn.length ic, .slice ba x.back.length bc, .int .i64 x.dir, .bool x.fin, .bool x.bad, .bool x.closed] 58)).alloc (Obj.cells #[.bool false, .bool false, .int .i64 0, .int .i64 0, .slice none 0 0, .slice none 0 0, .slice none 0 0, .int .i64 0, .bool false, .bool false, .bool false] 58)).heap[w.heap.size]? = some (Obj.cells #[.bool x.rd, .bool x.wt, .int .i64 x.mode, .int .i64 x.size, .slice oa x.out.length oc, .slice ia x.inn.length ic, .slice ba x.back.length bc, .int .i64 x.dir, .bool x.fin, .bool x.bad, .bool x.closed] 58) ∧ ((w.alloc (Obj.cells #[.bool x.rd, .bool x.wt, .int .i64 x.mode, .int .i64 x.size, .slice oa x.out.length oc, .slice ia x.inn.length ic, .slice ba x.back.length bc, .int .i64 x.dir, .bool x.fin, .bool x.bad, .bool x.closed] 58)).alloc (Obj.cells #[.bool false, .bool false, .int .i64 0, .int .i64 0, .slice none 0 0, .slice none 0 0, .slice none 0 0, .int .i64 0, .bool false, .bool false, .bool false] 58)).heap[w.heap.size + 1]? = some (Obj.cells #[.bool false, .bool false, .int .i64 0, .int .i64 0, .slice none 0 0, .slice none 0 0, .slice none 0 0, .int .i64 0, .bool false, .bool false, .bool false] 58) ∧ Below w.heap.size w ((w.alloc (Obj.cells #[.bool x.rd, .bool x.wt, .int .i64 x.mode, .int .i64 x.size, .slice oa x.out.length oc, .slice ia x.inn.length ic, .slice ba x.back.length bc, .int .i64 x.dir, .bool x.fin, .bool x.bad, .bool x.closed] 58)).alloc (Obj.cells #[.bool false, .bool false, .int .i64 0, .int .i64 0, .slice none 0 0, .slice none 0 0, .slice none 0 0, .int .i64 0, .bool false, .bool false, .bool false] 58)) ∧ w.heap.size + 1 < ((w.alloc (Obj.cells #[.bool x.rd, .bool x.wt, .int .i64 x.mode, .int .i64 x.size, .slice oa x.out.length oc, .slice ia x.inn.length ic, .slice ba x.back.length bc, .int .i64 x.dir, .bool x.fin, .bool x.bad, .bool x.closed] 58)).alloc (Obj.cells #[.bool false, .bool false, .int .i64 0, .int .i64 0, .slice none 0 0, .slice none 0 0, .slice none 0 0, .int .i64 0, .bool false, .bool false, .bool false] 58)).heap.size := by
    have s1 : (w.alloc (Obj.cells #[.bool x.rd, .bool x.wt, .int .i64 x.mode, .int .i64 x.size, .slice oa x.out.length oc, .slice ia x.inn.length ic, .slice ba x.back.length bc, .int .i64 x.dir, .bool x.fin, .bool x.bad, .bool x.closed] 58)).heap.size = w.heap.size + 1 := Array.size_push ..
    have h2 := heap_alloc_new (w.alloc (Obj.cells #[.bool x.rd, .bool x.wt, .int .i64 x.mode, .int .i64 x.size, .slice oa x.out.length oc, .slice ia x.inn.length ic, .slice ba x.back.length bc, .int .i64 x.dir, .bool x.fin, .bool x.bad, .bool x.closed] 58)) (Obj.cells #[.bool false, .bool false, .int .i64 0, .int .i64 0, .slice none 0 0, .slice none 0 0, .slice none 0 0, .int .i64 0, .bool false, .bool false, .bool false] 58)
    rw [s1] at h2
    exact ⟨((recv_below (w.alloc (Obj.cells #[.bool x.rd, .bool x.wt, .int .i64 x.mode, .int .i64 x.size, .slice oa x.out.length oc, .slice ia x.inn.length ic, .slice ba x.back.length bc, .int .i64 x.dir, .bool x.fin, .bool x.bad, .bool x.closed] 58)) (Obj.cells #[.bool false, .bool false, .int .i64 0, .int .i64 0, .slice none 0 0, .slice none 0 0, .slice none 0 0, .int .i64 0, .bool false, .bool false, .bool false] 58)).block _ (by omega)).trans (heap_alloc_new w (Obj.cells #[.bool x.rd, .bool x.wt, .int .i64 x.mode, .int .i64 x.size, .slice oa x.out.length oc, .slice ia x.inn.length ic, .slice ba x.back.length bc, .int .i64 x.dir, .bool x.fin, .bool x.bad, .bool x.closed] 58)), h2, (recv_below w (Obj.cells #[.bool x.rd, .bool x.wt, .int .i64 x.mode, .int .i64 x.size, .slice oa x.out.length oc, .slice ia x.inn.length ic, .slice ba x.back.length bc, .int .i64 x.dir, .bool x.fin, .bool x.bad, .bool x.closed] 58)).trans ((recv_below (w.alloc (Obj.cells #[.bool x.rd, .bool x.wt, .int .i64 x.mode, .int .i64 x.size, .slice oa x.out.length oc, .slice ia x.inn.length ic, .slice ba x.back.length bc, .int .i64 x.dir, .bool x.fin, .bool x.bad, .bool x.closed] 58)) (Obj.cells #[.bool false, .bool false, .int .i64 0, .int .i64 0, .slice none 0 0, .slice none 0 0, .slice none 0 0, .int .i64 0, .bool false, .bool false, .bool false] 58)).mono (recv_below w (Obj.cells #[.bool x.rd, .bool x.wt, .int .i64 x.mode, .int .i64 x.size, .slice oa x.out.length oc, .slice ia x.inn.length ic, .slice ba x.back.length bc, .int .i64 x.dir, .bool x.fin, .bool x.bad, .bool x.closed] 58)).size), (Array.getElem?_eq_some_iff.1 h2).1⟩
  have HF := hide hF2
  have HR1 := hide (fun W => bwanted_nil x oa ia ba oc ic bc size count W hi hb)
  rw [bwant_nil] at HR1
  simp only at HR1
  have HIn := hide h
  have HLn := hide (And.intro ho (And.intro hi hb))
  clear h ho hi hb hF2
  have hr := refuse_nil x
  generalize x.refuse false = q2 at *
  go_enter Tryz.func37, Tryz.ntmps37
  go_wp2_with fail
  generalize ((w.alloc (Obj.cells #[.bool x.rd, .bool x.wt, .int .i64 x.mode, .int .i64 x.size, .slice oa x.out.length oc, .slice ia x.inn.length ic, .slice ba x.back.length bc, .int .i64 x.dir, .bool x.fin, .bool x.bad, .bool x.closed] 58)).alloc (Obj.cells #[.bool false, .bool false, .int .i64 0, .int .i64 0, .slice none 0 0, .slice none 0 0, .slice none 0 0, .int .i64 0, .bool false, .bool false, .bool false] 58)) = w0 at *
  refine (HR1.out w0).mono ?_
  rintro _ w1 ⟨rfl, hB1⟩
  have HB1 := hide (HF.out.2.2.1.trans (hB1.mono HF.out.2.2.1.size))
  have HX1 : Hid (StAt w1 w.heap.size x (.slice oa x.out.length oc) (.slice ia x.inn.length ic) (.slice ba x.back.length bc)) := hide ((hB1.block _ (by have := HF.out.2.2.2; omega)).trans HF.out.1)
  have HZ1 : Hid (w1.heap[w.heap.size + 1]? = some (Obj.cells #[.bool false, .bool false, .int .i64 0, .int .i64 0, .slice none 0 0, .slice none 0 0, .slice none 0 0, .int .i64 0, .bool false, .bool false, .bool false] 58)) := hide ((hB1.block _ HF.out.2.2.2).trans HF.out.2.1)
  have HZs : Hid (w.heap.size + 1 < w1.heap.size) := hide (Nat.lt_of_lt_of_le HF.out.2.2.2 hB1.size)
  obtain ⟨c0, c1, c2, c3, c4, c5, c6, c7, c8, c9, c10⟩ := HX1.out.cs
  clear hB1 HF HR1
  have hb1 : (q2 == 0) = false := by simp [hr]
  have hb2 : (q2 != 0) = true := by simp [hr]
  clear hr
  have HC := hide (kcopied_any x _ _ _ P w1 (HIn.out.below HB1.out) HLn.out.1 HLn.out.2.1 HLn.out.2.2)
  go_wp2_with fail
  refine HC.out.mono ?_
  rintro _ w3 ⟨o3, i3, b3, rfl, h1, h2, h3, hB3, -⟩
  obtain ⟨oa3, oc3, rfl⟩ := owns_slice h1
  obtain ⟨ia3, ic3, rfl⟩ := owns_slice h2
  obtain ⟨ba3, bc3, rfl⟩ := owns_slice h3
  have HZ3 : Hid (w3.heap[w.heap.size + 1]? = some (Obj.cells #[.bool false, .bool false, .int .i64 0, .int .i64 0, .slice none 0 0, .slice none 0 0, .slice none 0 0, .int .i64 0, .bool false, .bool false, .bool false] 58)) := hide ((hB3.block _ HZs.out).trans HZ1.out)
  have H1 := hide h1
  have H2 := hide h2
  have H3 := hide h3
  have HB3 := hide hB3
  clear h1 h2 h3 hB3 HC c0 c1 c2 c3 c4 c5 c6 c7 c8 c9 c10
  have z0 := cell_of_row w3 (w.heap.size + 1) 0 _ _ _ HZ3.out
  have t0 := frozen_of_row w3 (w.heap.size + 1) 0 _ _ HZ3.out
  have z1 := cell_of_row w3 (w.heap.size + 1) 1 _ _ _ HZ3.out
  have t1 := frozen_of_row w3 (w.heap.size + 1) 1 _ _ HZ3.out
  have z2 := cell_of_row w3 (w.heap.size + 1) 2 _ _ _ HZ3.out
  have t2 := frozen_of_row w3 (w.heap.size + 1) 2 _ _ HZ3.out
  have z3 := cell_of_row w3 (w.heap.size + 1) 3 _ _ _ HZ3.out
  have t3 := frozen_of_row w3 (w.heap.size + 1) 3 _ _ HZ3.out
  have z4 := cell_of_row w3 (w.heap.size + 1) 4 _ _ _ HZ3.out
  have t4 := frozen_of_row w3 (w.heap.size + 1) 4 _ _ HZ3.out
  have z5 := cell_of_row w3 (w.heap.size + 1) 5 _ _ _ HZ3.out
  have t5 := frozen_of_row w3 (w.heap.size + 1) 5 _ _ HZ3.out
  have z6 := cell_of_row w3 (w.heap.size + 1) 6 _ _ _ HZ3.out
  have t6 := frozen_of_row w3 (w.heap.size + 1) 6 _ _ HZ3.out
  have z7 := cell_of_row w3 (w.heap.size + 1) 7 _ _ _ HZ3.out
  have t7 := frozen_of_row w3 (w.heap.size + 1) 7 _ _ HZ3.out
  have z8 := cell_of_row w3 (w.heap.size + 1) 8 _ _ _ HZ3.out
  have t8 := frozen_of_row w3 (w.heap.size + 1) 8 _ _ HZ3.out
  have z9 := cell_of_row w3 (w.heap.size + 1) 9 _ _ _ HZ3.out
  have t9 := frozen_of_row w3 (w.heap.size + 1) 9 _ _ HZ3.out
  have z10 := cell_of_row w3 (w.heap.size + 1) 10 _ _ _ HZ3.out
  have t10 := frozen_of_row w3 (w.heap.size + 1) 10 _ _ HZ3.out
  simp at z0 z1 z2 z3 z4 z5 z6 z7 z8 z9 z10
  go_wp2
  obtain ⟨e1, e2⟩ := st_fill w3 (w.heap.size + 1) x (.slice oa3 x.out.length oc3) (.slice ia3 x.inn.length ic3) (.slice ba3 x.back.length bc3) HZ3.out
  refine bodyPost_ret (res_three rfl _ (w.heap.size + 1) rfl x _ _ _ e1) rfl ?_
  exact ⟨_, _, _, _, _, _, rfl, (HB1.out.trans (HB3.out.mono HB1.out.size)).trans (e2.below (B := w.heap.size) (fun k e => by have e : k = w.heap.size + 1 := e; omega) (Nat.le_trans HB1.out.size HB3.out.size))⟩
end Go.Proofs.YtmlfcbbgelkbbaaGreat

/- A pipe with both ends, the page's example, and a pipe that no call made. -/
namespace Go.Proofs.YtmlfcbbgelkbbaaGreat
open Go.RowKit

end Go.Proofs.YtmlfcbbgelkbbaaGreat
