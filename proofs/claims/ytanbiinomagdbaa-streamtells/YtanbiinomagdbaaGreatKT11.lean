/- What the proof stands on, part 11: the contracts of the program's calls that it reaches. -/
import Derived.Test.YtanbiinomagdbaaGreatKT10
import Derived.ProofKit
import Derived.OpenShut
import Derived.ChangeArms
import Derived.ChangeSlices
import Derived.SizedLaws
import Derived.Deep.Slices
import Derived.Deep.SlicePairs
import Derived.Test.YtanbiinomagdbaaGreatRows
import Derived.Shelf.SlIter.Nil
import Derived.Shelf.SortM.Plain
import Derived.Shelf.SortM.SortNone
import Derived.Ground.GgzProg
import Derived.Ground.SlgmProg
import Derived.Test.YtanbiinomagdbaaGreatProg
import Derived.LaidEqlPtr
import Derived.Lib.Builder
import Derived.Deep.RegionHeld3
/- The reference's kernel: New. -/
namespace Go.Proofs.YtanbiinomagdbaaGreat
open Go.RowKit

theorem rk_start {W : World} {B : Nat → Prop} {kb pb : Nat} {v : Value} {l : List Fault} (hup : ∀ k, W.heap.size ≤ k → B k) (hB : B pb) (hne : kb ≠ pb) (hkb : B kb) (hk : W.heap[kb]? = some (.cells ([.slice none 0 0, .slice none 0 0, .int .i64 ((1 : Nat) : Int), .pointer (some ⟨pb, 0, none⟩), .int .i64 ((0 : Nat) : Int), .int .i64 ((0 : Nat) : Int)] : List Value).toArray 157 (0, 0)))
    (hp : RPlanAt W pb v l) (hv : ∀ k, v.ownBlock = some k → B k ∧ k < W.heap.size ∧ k ≠ kb) (hl : planOk l) : ∃ ρ, RK W B ρ ⟨kb, .slice none 0 0, .slice none 0 0, pb, v, id, id, id⟩ (KS.nought l) := by
  have hkl : kb < W.heap.size := (Array.getElem?_eq_some_iff.1 hk).1
  have hpl : pb < W.heap.size := World.block_lt_of_cell? W _ hp.left
  refine ⟨fun k => if k = kb then some .kern else if k = pb then some .plan else if v.ownBlock = some k then some .plan else none, fun t => ?_, fun k t e => ?_, ?_, hup⟩
  · cases t with
    | kern => exact ⟨hk, if_pos rfl⟩
    | trow => exact ⟨World.ownsRow_nil _ _ _ _, fun k e => by cases e⟩
    | drow => exact ⟨World.ownsRow_nil _ _ _ _, fun k e => by cases e⟩
    | plan =>
      refine ⟨hp, (if_neg (fun e => hne e.symm)).trans (if_pos rfl), fun k e => ?_⟩
      show (if k = kb then some Tag.kern else if k = pb then some .plan else if v.ownBlock = some k then some .plan else none) = _
      rw [if_neg (hv k e).2.2, if_pos e]
      split <;> rfl
    | thing i => exact fun hi => absurd hi (by show ¬ i < 0; omega)
    | obj i => exact fun hi => absurd hi (by show ¬ i < 0; omega)
    | desc n => exact fun d hd => absurd hd (by show d ∉ ([] : List De); simp)
  · split at e
    · rename_i e1; subst e1; exact ⟨hkb, hkl⟩
    · split at e
      · rename_i e2; subst e2; exact ⟨hB, hpl⟩
      · split at e
        · rename_i e3; exact ⟨(hv k e3).1, (hv k e3).2.1⟩
        · cases e
  · exact ⟨by show 0 ≤ 256; decide, by show 0 ≤ 256; decide, fun d hd => (by cases hd), fun i hi => (by cases hi), fun d hd => (by cases hd), fun d hd => (by cases hd), fun d hd => (by cases hd), fun d hd => (by cases hd), fun d hd => (by cases hd), hl⟩
theorem knm_nought (l : List Fault) : KNm (KS.nought l) := ⟨List.Pairwise.nil, fun i hi => (by cases hi), fun i hi => absurd hi (by show ¬ i < 0; omega), fun i hi => (by cases hi)⟩
theorem radd_named {wr w1 : World} {B : Nat → Prop} {ρ : Nat → Option Tag} {I : RI} {K : KS} (h : RK wr B ρ I K) (hnm : KNm K) (hl : K.nm.length < 256) (t : Th) {ob : Nat} {O : Nat → Prop} (hB1 : Below wr.heap.size wr w1) (hO : RObj w1 O ob t.ob) (hOn : ∀ k, O k → wr.heap.size ≤ k ∧ k < w1.heap.size) (hok : t.ob.ok) {cs : Array Value} (hcs : cs = (tcells t ob).toArray) :
    Calls Tryz.prog 136 #[.pointer (some ⟨I.kb, 0, none⟩), .pointer (some ⟨w1.heap.size, 0, none⟩)] (w1.alloc (Obj.cells cs 232)) fun e w' => e = .returned (.tuple #[]) ∧ ∃ ρ' I', RK w' B ρ' I' (K.addTh t) ∧ I'.kb = I.kb ∧ Turned B wr w' := by
  subst hcs
  have hs1 := hB1.size
  have hB2 := recv_below w1 (Obj.cells (tcells t ob).toArray 232)
  have hn2 := heap_alloc_new w1 (Obj.cells (tcells t ob).toArray 232)
  have hB12 : Below wr.heap.size wr (w1.alloc (Obj.cells (tcells t ob).toArray 232)) := hB1.trans (hB2.mono hs1)
  obtain ⟨ρ2, hK2⟩ := h.more (W' := w1.alloc (Obj.cells (tcells t ob).toArray 232)) t (nb := w1.heap.size) (ob := ob) (O := O) (fun k hk => hB12.block k hk) hB12.size hs1 hn2 (hO.keep (fun k _ hl => hB2.block k hl) hB2.size) (fun k e => by have := hOn k e; omega) hok
  have hth2 : (K.more t).th.length = K.th.length + 1 := by simp [KS.more]
  have hA := radd_any B ρ2 _ _ K.th.length _ hK2 (by rw [hth2]; omega) (more_sorted h.ok hnm _) hl
  simp only [updT_new] at hA
  refine hA.mono ?_
  rintro e w3 ⟨rfl, ρ3, I3, hK3, hkb3, -, -, hT3⟩
  exact ⟨rfl, ρ3, I3, hK3, hkb3, (Turned.of_below hB12).trans hT3 (fun _ _ e => e)⟩
set_option maxRecDepth 100000 in
set_option maxHeartbeats 8000000 in
theorem rknew_any (a1 a2 a3 : Option Addr) (c1 c2 c3 : Nat) (fs : List Nm) (ts : List Tp) (l : List Fault) (w0 w : World) (hB0 : Below w0.heap.size w0 w) (h1 : Nms w0 (.slice a1 fs.length c1) fs) (h2 : Tps w0 (.slice a2 ts.length c2) ts) (h3 : Flts w (.slice a3 l.length c3) l) (hb3 : ∀ k, (Value.slice a3 l.length c3).ownBlock = some k → w0.heap.size ≤ k ∧ k < w.heap.size) (hE : checkE fs ts l = 0) :
    Calls Tryz.prog 52 #[.slice a1 fs.length c1, .slice a2 ts.length c2, .slice a3 l.length c3] w fun e w' => ∃ ρ I, e = .returned (.pointer (some ⟨I.kb, 0, none⟩)) ∧ RK w' (fun k => w0.heap.size ≤ k) ρ I (KS.new fs ts l) ∧ Below w0.heap.size w0 w' := by
  have hEs : ¬ 256 < fs.length + ts.length ∧ (kfiles [] fs).1 = 0 ∧ kterms (kfiles [] fs).2 ts = 0 ∧ (chk l).1 = 0 := by
    unfold checkE at hE
    by_cases e1 : 256 < fs.length + ts.length
    · rw [if_pos e1] at hE; cases hE
    · rw [if_neg e1] at hE
      by_cases e2 : (kfiles [] fs).1 = 0
      · rw [if_pos e2] at hE
        by_cases e3 : kterms (kfiles [] fs).2 ts = 0
        · rw [if_pos e3] at hE; exact ⟨e1, e2, e3, hE⟩
        · rw [if_neg e3] at hE; exact absurd hE e3
      · rw [if_neg e2] at hE; exact absurd hE e2
  obtain ⟨hc, hE1, hE2, hE3⟩ := hEs
  obtain ⟨o1, ho1⟩ : ∃ o1, o1 = Obj.cells #[.slice a3 l.length c3] 163 := ⟨_, rfl⟩
  obtain ⟨o2, ho2⟩ : ∃ o2, o2 = Obj.cells #[.slice none 0 0, .slice none 0 0, .int .i64 1, .pointer (some ⟨w.heap.size, 0, none⟩), .int .i64 0, .int .i64 0] 157 := ⟨_, rfl⟩
  have hs0 := hB0.size
  have hB1 := recv_below w o1
  have hB2 := recv_below (w.alloc o1) o2
  have hs1 : (w.alloc o1).heap.size = w.heap.size + 1 := by simp
  have hs2 : ((w.alloc o1).alloc o2).heap.size = w.heap.size + 2 := by simp
  have hB12 : Below w.heap.size w ((w.alloc o1).alloc o2) := hB1.trans (hB2.mono (by omega))
  have hn1' := heap_alloc_new w o1
  have hn2' := heap_alloc_new (w.alloc o1) o2
  rw [hs1] at hn2'
  have hn1'' : ((w.alloc o1).alloc o2).heap[w.heap.size]? = some o1 := (hB2.block _ (by omega)).trans hn1'
  have hpl : RPlanAt ((w.alloc o1).alloc o2) w.heap.size (.slice a3 l.length c3) l := ⟨by rw [World.cell?, hn1'', ho1]; rfl, by rw [World.frozen?, hn1'', ho1]; rfl, h3.below hB12, fun e => by have := (hb3 _ e).2; omega⟩
  obtain ⟨ρ, hK⟩ := rk_start (W := (w.alloc o1).alloc o2) (B := fun k => w0.heap.size ≤ k) (kb := w.heap.size + 1) (pb := w.heap.size) (fun k e => by omega) (by omega) (by omega) (by omega) (by rw [hn2', ho2]; rfl) hpl (fun k e => by have := hb3 k e; omega) (check_plan hE3)
  have HK0 : Hid (∃ ρ I, RK ((w.alloc o1).alloc o2) (fun k => w0.heap.size ≤ k) ρ I (KS.nought l) ∧ I.kb = w.heap.size + 1) := hide ⟨ρ, _, hK, rfl⟩
  have HB0 : Hid (Below w0.heap.size w0 ((w.alloc o1).alloc o2)) := hide (hB0.trans (hB12.mono hs0))
  have H1 := hide h1
  have H2 := hide h2
  have HKf : Hid ((kfiles [] fs).1 = 0 ∧ kterms (kfiles [] fs).2 ts = 0) := hide ⟨hE1, hE2⟩
  have hfl : fs.length ≤ 256 := by omega
  have htl : ts.length ≤ 256 := by omega
  subst ho1
  subst ho2
  clear h1 h2 h3 hE1 hE2 hE3 hE hB1 hB2 hs1 hs2 hB12 hn1' hn2' hn1'' hpl hK hb3 hB0
  go_enter Tryz.func52, Tryz.ntmps52
  go_wp2_with fail
  generalize hkb : w.heap.size + 1 = kb0 at *
  generalize hw2 : (w.alloc _).alloc _ = w2 at *
  clear hw2 hkb
  go_loopw [8] (fun i wr => ∃ (k : Nat) (K : KS) (ns : List ByteArray), k ≤ fs.length ∧ i = .int .i64 k ∧ Hid (∃ ρ I, RK wr (fun k => w0.heap.size ≤ k) ρ I K ∧ I.kb = kb0) ∧ Hid (KNm K) ∧ Hid (Seen K ns k ∧ (kfiles ns (fs.drop k)).1 = 0 ∧ kterms (kfiles ns (fs.drop k)).2 ts = 0 ∧ K = (fs.take k).foldl addF (KS.nought l)) ∧ Hid (Below w0.heap.size w0 wr)) (fun i _ => fs.length - (intOf i).toNat)
  case atStart => exact ⟨0, KS.nought l, [], Nat.zero_le _, rfl, HK0, hide (knm_nought l), hide ⟨⟨fun i hi => (by cases hi), rfl, rfl, rfl, rfl⟩, HKf.out.1, HKf.out.2, rfl⟩, HB0⟩
  case round =>
    clear HK0 HB0
    obtain ⟨k, K, ns, hk, rfl, HK, HNm, HS, HB⟩ := hrel
    by_cases hlt : k < fs.length
    · obtain ⟨b, off, va, vc, rfl, hbl, q0, q1, hby, -, hnm⟩ := H1.out.at k hlt
      have hc0 := (HB.out.cell (p := ⟨b, off + k * 2, none⟩) hbl).trans q0
      have hc1 := (HB.out.cell (p := ⟨b, off + k * 2 + 1, none⟩) hbl).trans q1
      have hk1 : (0 : Int) ≤ (k : Int) := by omega
      have hk2 : (k : Int) < (fs.length : Int) := by omega
      obtain ⟨hS, hF, hF2, hKe⟩ := HS.out
      rw [drop_at fs k hlt] at hF hF2
      have hKe2 := foldl_take addF (KS.nought l) fs k hlt
      rw [← hKe] at hKe2
      clear q0 q1
      generalize fs[k] = p at hc0 hc1 hnm hF hF2 hby hKe2
      obtain ⟨nm, L⟩ := p
      simp only at hc0 hc1 hnm hby
      rw [kfiles_cons] at hF hF2
      have hg : giveE ns nm = 0 := by
        by_cases hg : giveE ns nm = 0
        · exact hg
        · rw [if_neg hg] at hF; exact absurd hF hg
      rw [if_pos hg] at hF hF2
      have hL : ¬ 1048576 < L.length := fun e => by rw [if_pos e] at hF; cases hF
      rw [if_neg hL] at hF hF2
      obtain ⟨hno, hnn⟩ := giveE_zero hg
      have hnew : ∀ i ∈ K.nm, K.nameOf i ≠ nm := fun i hi e => hnn (e ▸ hS.names i hi)
      have hlenK : K.nm.length < 256 := by have := hS.len; omega
      obtain ⟨ρ, I, hK, hkb⟩ := HK.out
      have HNw := hide (Fi_rnew_good (.slice va L.length vc) L wr (hby.below HB.out) (by omega))
      have HNx : Hid (Seen (addF K (nm, L)) (ns ++ [nm]) (k + 1) ∧ (kfiles (ns ++ [nm]) (fs.drop (k + 1))).1 = 0 ∧ kterms (kfiles (ns ++ [nm]) (fs.drop (k + 1))).2 ts = 0 ∧ addF K (nm, L) = (fs.take (k + 1)).foldl addF (KS.nought l)) := hide ⟨hS.add hK.ok ⟨nm, .file L⟩, hF, hF2, hKe2.symm⟩
      have HNn : Hid (KNm (addF K (nm, L))) := hide (HNm.out.addTh hK.ok ⟨nm, .file L⟩ (.inl rfl) hno hnew)
      have HHh := hide (And.intro hK hkb)
      clear hS hF hF2 hKe hKe2 hg hno hnn hnew HS hby hK hkb
      go_wp2_with fail
      refine HNw.out.mono ?_
      rintro _ w1 ⟨rfl, ⟨u, hF1⟩, hB1⟩
      obtain ⟨hK, rfl⟩ := HHh.out
      have hO1 : RObj w1 (fun k => wr.heap.size ≤ k ∧ k < w1.heap.size) wr.heap.size (.file L) := ⟨u, wr.heap.size + 1, hF1, hF1.lt, ⟨Nat.le_refl _, hF1.lt⟩, fun k e => by have := hF1.row.lt k e; omega⟩
      have HA := hide (radd_named hK HNm.out hlenK ⟨nm, .file L⟩ hB1 hO1 (fun k e => e) (by show L.length ≤ 1048576; omega) (cs := #[.string nm, .int .i64 1, .pointer (some ⟨wr.heap.size, 0, none⟩), .pointer none, .pointer none]) rfl)
      have hc0' := (hB1.cell (p := ⟨b, off + k * 2, none⟩) (Nat.lt_of_lt_of_le hbl HB.out.size)).trans hc0
      clear hO1 hF1 hc0 hc1 hK
      go_wp2_with fail
      refine HA.out.mono ?_
      rintro _ w3 ⟨rfl, ρ3, I3, hK3, hkb3, hT3⟩
      have HK3 : Hid (∃ ρ I', RK w3 (fun k => w0.heap.size ≤ k) ρ I' (addF K (nm, L)) ∧ I'.kb = I.kb) := hide ⟨ρ3, I3, hK3, hkb3⟩
      have HB3 : Hid (Below w0.heap.size w0 w3) := hide (HB.out.trans (hT3.below (fun _ e => e) HB.out.size))
      clear hK3 hkb3 hT3 hc0'
      go_wp2
      go_roundw
      case rel => exact ⟨k + 1, addF K (nm, L), ns ++ [nm], by omega, by go_num, HK3, HNn, HNx, HB3⟩
      case measure => simp [intOf]; omega
    · obtain rfl : k = fs.length := by omega
      obtain ⟨hS, -, hF2, hKe⟩ := HS.out
      rw [List.drop_length] at hF2
      rw [List.take_length] at hKe
      have hF3 : kterms ns ts = 0 := hF2
      have HS2 : Hid (Seen K ns fs.length ∧ kterms ns ts = 0 ∧ K = fs.foldl addF (KS.nought l)) := hide ⟨hS, hF3, hKe⟩
      have hlt' : ¬ (fs.length : Int) < (fs.length : Int) := by omega
      clear HS hS hF2 hF3 hKe
      go_wp2_with fail
      go_loopw [11] (fun i wq => ∃ (k2 : Nat) (K2 : KS) (ms : List ByteArray), k2 ≤ ts.length ∧ i = .int .i64 k2 ∧ Hid (∃ ρ I, RK wq (fun k => w0.heap.size ≤ k) ρ I K2 ∧ I.kb = kb0) ∧ Hid (KNm K2) ∧ Hid (Seen K2 ms (fs.length + k2) ∧ kterms ms (ts.drop k2) = 0 ∧ K2 = (ts.take k2).foldl addT (fs.foldl addF (KS.nought l))) ∧ Hid (Below w0.heap.size w0 wq)) (fun i _ => ts.length - (intOf i).toNat)
      case atStart => exact ⟨0, K, ns, Nat.zero_le _, rfl, HK, HNm, hide ⟨HS2.out.1, HS2.out.2.1, HS2.out.2.2⟩, HB⟩
      case round =>
        clear HK HNm HB HS2
        obtain ⟨k, K, ms, hk, rfl, HK, HNm, HS, HB⟩ := hrel
        by_cases hlt2 : k < ts.length
        · obtain ⟨b, off, va, vc, rfl, hbl, q0, q1, hby, hnm⟩ := H2.out.at k hlt2
          have hc0 := (HB.out.cell (p := ⟨b, off + k * 2, none⟩) hbl).trans q0
          have hc1 := (HB.out.cell (p := ⟨b, off + k * 2 + 1, none⟩) hbl).trans q1
          have hk1 : (0 : Int) ≤ (k : Int) := by omega
          have hk2 : (k : Int) < (ts.length : Int) := by omega
          obtain ⟨hS, hF, hKe⟩ := HS.out
          rw [drop_at ts k hlt2] at hF
          have hKe2 := foldl_take addT (fs.foldl addF (KS.nought l)) ts k hlt2
          rw [← hKe] at hKe2
          clear q0 q1
          generalize ts[k] = pp at hc0 hc1 hnm hF hby hKe2
          obtain ⟨nm, ls⟩ := pp
          simp only at hc0 hc1 hnm hby
          rw [kterms_cons] at hF
          have hg : giveE ms nm = 0 := by
            by_cases hg : giveE ms nm = 0
            · exact hg
            · rw [if_neg hg] at hF; exact absurd hF hg
          rw [if_pos hg] at hF
          have hL : newE ls = 0 := by
            by_cases e : newE ls = 0
            · exact e
            · rw [if_neg e] at hF; exact absurd hF e
          rw [if_pos hL] at hF
          obtain ⟨hno, hnn⟩ := giveE_zero hg
          have hnew : ∀ i ∈ K.nm, K.nameOf i ≠ nm := fun i hi e => hnn (e ▸ hS.names i hi)
          have hlenK : K.nm.length < 256 := by have := hS.len; omega
          have hlok := newE_small hL
          obtain ⟨ρ, I, hK, hkb⟩ := HK.out
          have HNw := hide (Te_rnew_good (.slice va ls.length vc) ls wr (hby.below HB.out) (by have := hlok.1; omega) hL)
          have HNx : Hid (Seen (addT K (nm, ls)) (ms ++ [nm]) (fs.length + (k + 1)) ∧ kterms (ms ++ [nm]) (ts.drop (k + 1)) = 0 ∧ addT K (nm, ls) = (ts.take (k + 1)).foldl addT (fs.foldl addF (KS.nought l))) := hide ⟨hS.add hK.ok ⟨nm, .term ls []⟩, hF, hKe2.symm⟩
          have HNn : Hid (KNm (addT K (nm, ls))) := hide (HNm.out.addTh hK.ok ⟨nm, .term ls []⟩ (.inr rfl) hno hnew)
          have HHh := hide (And.intro hK hkb)
          clear hS hF hKe hKe2 hg hno hnn hnew HS hby hK hkb
          go_wp2_with fail
          refine HNw.out.mono ?_
          rintro _ w1 ⟨rfl, ⟨ta, tc, hT1⟩, hB1⟩
          obtain ⟨hK, rfl⟩ := HHh.out
          have hO1 : RObj w1 (fun k => wr.heap.size ≤ k ∧ k < w1.heap.size) wr.heap.size (.term ls []) := ⟨ta, tc, _, _, _, hT1, fun k e => e⟩
          have HA := hide (radd_named hK HNm.out hlenK ⟨nm, .term ls []⟩ hB1 hO1 (fun k e => e) ⟨hlok.1, hlok.2, by simp⟩ (cs := #[.string nm, .int .i64 2, .pointer none, .pointer (some ⟨wr.heap.size, 0, none⟩), .pointer none]) rfl)
          have hc0' := (hB1.cell (p := ⟨b, off + k * 2, none⟩) (Nat.lt_of_lt_of_le hbl HB.out.size)).trans hc0
          clear hO1 hT1 hc0 hc1 hK
          go_wp2_with fail
          refine HA.out.mono ?_
          rintro _ w3 ⟨rfl, ρ3, I3, hK3, hkb3, hT3⟩
          have HK3 : Hid (∃ ρ I', RK w3 (fun k => w0.heap.size ≤ k) ρ I' (addT K (nm, ls)) ∧ I'.kb = I.kb) := hide ⟨ρ3, I3, hK3, hkb3⟩
          have HB3 : Hid (Below w0.heap.size w0 w3) := hide (HB.out.trans (hT3.below (fun _ e => e) HB.out.size))
          clear hK3 hkb3 hT3 hc0'
          go_wp2
          go_roundw
          case rel => exact ⟨k + 1, addT K (nm, ls), ms ++ [nm], by omega, by go_num, HK3, HNn, HNx, HB3⟩
          case measure => simp [intOf]; omega
        · obtain rfl : k = ts.length := by omega
          obtain ⟨-, -, hKe⟩ := HS.out
          rw [List.take_length] at hKe
          have HKe : Hid (K = KS.new fs ts l) := hide hKe
          have hlt' : ¬ (ts.length : Int) < (ts.length : Int) := by omega
          clear HS hKe
          go_wp2
          go_ret
          obtain ⟨ρ, I, hK, rfl⟩ := HK.out
          rw [HKe.out] at hK
          exact ⟨ρ, I, rfl, hK, HB.out⟩
end Go.Proofs.YtanbiinomagdbaaGreat

/- Held: the bytes within a description's pipe. -/
namespace Go.Proofs.YtanbiinomagdbaaGreat
open Go.RowKit Go.Maps

end Go.Proofs.YtanbiinomagdbaaGreat

/- KernSays: what a read, a write and the questions ahead of them say, as values. No program. -/
namespace Go.Proofs.YtanbiinomagdbaaGreat
open Go.RowKit

theorem nxt_err {l : List Fault} {want : Int} (h1 : 1 ≤ want) (h2 : want ≤ 1048576) : (nxt l want).2 = 0 ∨ (nxt l want).2 = 22 ∨ (nxt l want).2 = 23 := by
  unfold nxt
  rw [if_neg (by omega)]
  cases l with
  | nil => exact .inl rfl
  | cons f r =>
    simp only
    split
    · exact .inl rfl
    · split
      · exact .inr (.inl rfl)
      · split
        · exact .inr (.inr rfl)
        · exact .inl rfl
end Go.Proofs.YtanbiinomagdbaaGreat

/- Calls of a kernel that no New made: nil, or an empty one. -/
namespace Go.Proofs.YtanbiinomagdbaaGreat
open Go.RowKit Go.Maps

end Go.Proofs.YtanbiinomagdbaaGreat

/- The law's examples. -/
namespace Go.Proofs.YtanbiinomagdbaaGreat
open Go.RowKit Go.Maps

end Go.Proofs.YtanbiinomagdbaaGreat

/- KernPlace: the kernel's states, as values. -/
namespace Go.Proofs.YtanbiinomagdbaaGreat
open Go.RowKit Go.Maps

theorem nxt_nil {n : Int} (h1 : 1 ≤ n) (h2 : n ≤ 1048576) : nxt [] n = (n, 0) := by simp [nxt]; omega
theorem take_piece {b : List UInt8} {p n : Nat} (hp : p ≤ b.length) : b.take p ++ piece b p n = b.take (p + (piece b p n).length) := by
  rw [piece_len]
  unfold piece
  rw [← List.take_add]
  by_cases h : n ≤ b.length - p
  · rw [Nat.min_eq_left h]
  · rw [Nat.min_eq_right (by omega), List.take_of_length_le (by omega), List.take_of_length_le (by omega)]
end Go.Proofs.YtanbiinomagdbaaGreat

/- Bytes that came in as an argument: what a walk is told of them. -/
namespace Go.Proofs.YtanbiinomagdbaaGreat
open Go.ChangeShapes Go.WideShapes Go.ChangeAt Go.RowKit

end Go.Proofs.YtanbiinomagdbaaGreat

/- Bytes, and steps, that came in as an argument: what a walk is told of them. -/
namespace Go.Proofs.YtanbiinomagdbaaGreat
open Go.ChangeShapes Go.WideShapes Go.ChangeAt Go.RowKit Go.Deep

theorem Kp_bys_len {W : World} {a : Option Addr} {n c : Nat} {l : List UInt8} (h : Bys W (.slice a n c) l) : n = l.length := by
  obtain ⟨a', c', he, _⟩ := bys_form h
  cases he
  rfl
theorem bytes_arg2 {H : Type} {enc : TypeId × Value → H} {P : Program} {W : World} {base : Nat} {a : Option Addr} {len cap fuel t e : Nat} {d : DataW H} {p : List MemPlace}
    (ht : P.underlying t = some (.slice e)) (he : P.underlying e = some (.int .u8)) (hc : P.cellsOf e = 1)
    (hf : DataW.trod enc P W base (fun _ => true) true fuel t (Value.slice a len cap).cells.toList = some (d, p)) :
    ∃ l : List UInt8, Bys W (.slice a len cap) l ∧ l.length ≤ cap ∧ ((d = .nil ∧ l = []) ∨ ∃ elems spare : List (DataW H), d = .slice elems spare ∧ l.length = elems.length) := by
  rcases open_ints ht he hc hf with ⟨hcs, hd⟩ | ⟨x, n, c, zs, hcs, _, hl, hm, hz, hx, hcell, hwz⟩
  · simp [Value.cells] at hcs
    obtain ⟨rfl, rfl, rfl⟩ := hcs
    exact ⟨[], .inl ⟨rfl, rfl⟩, by simp, .inl ⟨(Prod.mk.inj hd).1, rfl⟩⟩
  · simp [Value.cells] at hcs
    obtain ⟨rfl, rfl, rfl⟩ := hcs
    simp only [if_true] at hz
    have hlen : ((zs.take len).map fun n => UInt8.ofNat n.toNat).length = len := by rw [List.length_map, List.length_take]; omega
    refine ⟨(zs.take len).map fun n => UInt8.ofNat n.toNat, ?_, by rw [hlen]; exact hl, .inr ⟨_, _, (Prod.mk.inj hx).1, by simp [lits]⟩⟩
    by_cases h0 : len = 0
    · subst h0
      exact .inr (.inl ⟨x, cap, rfl, by simp⟩)
    · obtain ⟨b, off, spot⟩ := x
      have hspot : spot = none := by simpa [Addr.add] using World.cell?_spot (hcell 0 (by omega))
      subst hspot
      refine .inr (.inr ⟨b, off, cap, by rw [hlen], by rw [hlen]; omega, fun j hj => ?_⟩)
      rw [hlen] at hj
      have h1 := hcell j (by omega)
      have hadd : (⟨b, off, none⟩ : Addr).add j = ⟨b, off + j, none⟩ := by unfold Addr.add; split <;> simp_all
      rw [hadd] at h1
      rw [h1]
      have hjz : j < zs.length := by omega
      have hb := bounds_u8 (hwz zs[j] (List.getElem_mem hjz))
      simp only [List.getD_eq_getElem?_getD, List.getElem?_map, List.getElem?_take, if_pos hj, List.getElem?_eq_getElem hjz, Option.map_some, Option.getD_some]
      rw [UInt8.toNat_ofNat_of_lt' (by show _ < 256; omega), Int.toNat_of_nonneg hb.1]



def Kp_DataOf {H : Type} (d : DataW H) (x : List UInt8) : Prop := (d = .nil ∧ x = []) ∨ ∃ elems spare : List (DataW H), d = .slice elems spare ∧ x.length = elems.length

theorem Kp_weightsAll_mem {H : Type} {P : Program} {e : TypeId} : ∀ {l : List (DataW H)} {d : DataW H}, d ∈ l → ∀ n ∈ d.weights P e, n ∈ DataW.weightsAll P e l
  | d' :: r, d, hd, n, hn => by
    simp only [DataW.weightsAll, List.mem_append]
    rcases List.mem_cons.1 hd with rfl | h
    · exact Or.inl hn
    · exact Or.inr (Kp_weightsAll_mem h n hn)
end Go.Proofs.YtanbiinomagdbaaGreat

/- Lines, and steps, that came in as an argument: what a walk is told of them. -/
namespace Go.Proofs.YtanbiinomagdbaaGreat
open Go.ChangeShapes Go.WideShapes Go.ChangeAt Go.RowKit Go.Deep

end Go.Proofs.YtanbiinomagdbaaGreat

/- Faults, and ints, that came in as an argument: what a walk is told of them. -/
namespace Go.Proofs.YtanbiinomagdbaaGreat
open Go.ChangeShapes Go.WideShapes Go.ChangeAt Go.RowKit Go.Deep

end Go.Proofs.YtanbiinomagdbaaGreat

/- Files, terminals, steps and setups that came in as an argument: what a walk is told of them, and their sizes. -/
namespace Go.Proofs.YtanbiinomagdbaaGreat
open Go.ChangeShapes Go.WideShapes Go.ChangeAt Go.RowKit Go.Deep

structure KSt where
  what : Int
  name : ByteArray
  a : Int
  b : Int
  c : Int
  data : List UInt8
  deriving Inhabited
end Go.Proofs.YtanbiinomagdbaaGreat

/- A law's setup, copied for the program; how far a kernel's numbers go up by a call. -/
namespace Go.Proofs.YtanbiinomagdbaaGreat
open Go.RowKit Go.Maps

theorem new_nums (fs : List Nm) (ts : List Tp) (l : List Fault) : (KS.new fs ts l).next = 1 ∧ (KS.new fs ts l).reads = 0 ∧ (KS.new fs ts l).writes = 0 := by
  unfold KS.new
  have h1 : ∀ (fs : List Nm) (K : KS), (fs.foldl (fun K f => K.addTh ⟨f.1, .file f.2⟩) K).next = K.next ∧ (fs.foldl (fun K f => K.addTh ⟨f.1, .file f.2⟩) K).reads = K.reads ∧ (fs.foldl (fun K f => K.addTh ⟨f.1, .file f.2⟩) K).writes = K.writes := by
    intro fs
    induction fs with
    | nil => exact fun K => ⟨rfl, rfl, rfl⟩
    | cons f r ih => exact fun K => ih (K.addTh ⟨f.1, .file f.2⟩)
  have h2 : ∀ (ts : List Tp) (K : KS), (ts.foldl (fun K t => K.addTh ⟨t.1, .term t.2 []⟩) K).next = K.next ∧ (ts.foldl (fun K t => K.addTh ⟨t.1, .term t.2 []⟩) K).reads = K.reads ∧ (ts.foldl (fun K t => K.addTh ⟨t.1, .term t.2 []⟩) K).writes = K.writes := by
    intro ts
    induction ts with
    | nil => exact fun K => ⟨rfl, rfl, rfl⟩
    | cons f r ih => exact fun K => ih (K.addTh ⟨f.1, .term f.2 []⟩)
  obtain ⟨a1, a2, a3⟩ := h2 ts (fs.foldl (fun K f => K.addTh ⟨f.1, .file f.2⟩) (KS.nought l))
  obtain ⟨b1, b2, b3⟩ := h1 fs (KS.nought l)
  exact ⟨a1.trans b1, a2.trans b2, a3.trans b3⟩

end Go.Proofs.YtanbiinomagdbaaGreat

/- Contracts of Go's library on the keys of a map, sorted, at this dump, laid by the kit's own command. -/
namespace Go.Proofs
open Go.RowKit Go.Maps Go.Sort Go.Shelf
def Tryz.keys168_ren : Go.Shelf.Ren := ⟨fun | 7 => 168 | 10 => 213 | n => n, fun | 23 => 107 | 26 => 9 | 3 => 115 | 28 => 282 | 0 => 0 | 27 => 281 | 33 => 128 | 4 => 4 | n => n, fun | n => n⟩
theorem Tryz.keys168 : Go.Proofs.SlLaysZ.n7 Tryz.prog Tryz.keys168_ren := {
  mixed := by kernel_rfl
  f7 := ⟨Tryz.f168.name, by decide, Tryz.func168.trans (congrArg some (by kernel_rfl))⟩
  f10 := ⟨Tryz.f213.name, by decide, Tryz.func213.trans (congrArg some (by kernel_rfl))⟩
  t0 := Tryz.underlying0
  a0 := Tryz.isAgg0
  z0 := Tryz.sizeOf0
  v0 := Tryz.zeroValue0
  t4 := Tryz.underlying4
  a4 := Tryz.isAgg4
  z4 := Tryz.sizeOf4
  v4 := Tryz.zeroValue4
  t23 := Tryz.underlying107
  a23 := Tryz.isAgg107
  z23 := Tryz.sizeOf107
  v23 := Tryz.zeroValue107
  t26 := Tryz.underlying9
  a26 := Tryz.isAgg9
  z26 := Tryz.sizeOf9
  v26 := Tryz.zeroValue9
  t27 := Tryz.underlying281
  a27 := Tryz.isAgg281
  z27 := Tryz.sizeOf281
  v27 := Tryz.zeroValue281
  t28 := Tryz.underlying282
  a28 := Tryz.isAgg282
  z28 := Tryz.sizeOf282
  v28 := Tryz.zeroValue282
  t33 := Tryz.underlying128
  a33 := Tryz.isAgg128
  z33 := Tryz.sizeOf128
  v33 := Tryz.zeroValue128 }
def Tryz.sorted167_ren : Go.Shelf.Ren := ⟨fun | 6 => 167 | 8 => 211 | 9 => 212 | 11 => 227 | 13 => 229 | 12 => 228 | 23 => 256 | 24 => 257 | 14 => 247 | 15 => 248 | 16 => 249 | 17 => 250 | 18 => 251 | 19 => 252 | 20 => 253 | 21 => 254 | 22 => 255 | 25 => 258 | 26 => 259 | 27 => 260 | 28 => 261 | 29 => 262 | 30 => 263 | 31 => 264 | n => n, fun | 26 => 9 | 28 => 282 | 24 => 127 | 0 => 0 | 3 => 3 | 37 => 340 | 48 => 352 | 50 => 354 | 4 => 4 | 40 => 345 | 39 => 344 | 45 => 192 | 5 => 5 | 9 => 9 | 51 => 355 | 55 => 317 | 57 => 360 | 58 => 74 | 33 => 128 | n => n, fun | n => n⟩
theorem Tryz.sorted167 : Go.Proofs.SlLaysZ.n6 Tryz.prog Tryz.sorted167_ren := {
  mixed := by kernel_rfl
  f6 := ⟨Tryz.f167.name, by decide, Tryz.func167.trans (congrArg some (by kernel_rfl))⟩
  f8 := ⟨Tryz.f211.name, by decide, Tryz.func211.trans (congrArg some (by kernel_rfl))⟩
  f11 := ⟨Tryz.f227.name, by decide, Tryz.func227.trans (congrArg some (by kernel_rfl))⟩
  t0 := Tryz.underlying0
  a0 := Tryz.isAgg0
  z0 := Tryz.sizeOf0
  v0 := Tryz.zeroValue0
  t24 := Tryz.underlying127
  a24 := Tryz.isAgg127
  z24 := Tryz.sizeOf127
  v24 := Tryz.zeroValue127
  t26 := Tryz.underlying9
  a26 := Tryz.isAgg9
  z26 := Tryz.sizeOf9
  v26 := Tryz.zeroValue9
  t28 := Tryz.underlying282
  a28 := Tryz.isAgg282
  z28 := Tryz.sizeOf282
  v28 := Tryz.zeroValue282
  i26 := by kernel_rfl }
def Tryz.sort212_ren : Go.Shelf.Ren := ⟨fun | 6 => 212 | 8 => 229 | 9 => 228 | 19 => 256 | 20 => 257 | 21 => 247 | 22 => 248 | 23 => 249 | 24 => 250 | 25 => 251 | 26 => 252 | 27 => 253 | 28 => 254 | 29 => 255 | 36 => 258 | 31 => 259 | 32 => 260 | 37 => 261 | 38 => 262 | 39 => 263 | 41 => 264 | n => n, fun | 27 => 127 | 29 => 9 | 3 => 3 | 32 => 340 | 26 => 127 | 0 => 0 | 44 => 352 | 46 => 354 | 4 => 4 | 36 => 345 | 35 => 344 | 41 => 192 | 5 => 5 | 9 => 9 | 53 => 355 | 57 => 317 | 63 => 360 | 64 => 74 | n => n, fun | n => n⟩
theorem Tryz.sort212 : Go.Proofs.SlLaysM.n6 Tryz.prog Tryz.sort212_ren := {
  mixed := by kernel_rfl
  f6 := ⟨Tryz.f212.name, by decide, Tryz.func212.trans (congrArg some (by kernel_rfl))⟩
  f8 := Tryz.func229.trans (congrArg some (by kernel_rfl))
  f9 := ⟨Tryz.f228.name, by decide, Tryz.func228.trans (congrArg some (by kernel_rfl))⟩
  f19 := Tryz.func256.trans (congrArg some (by kernel_rfl))
  f20 := Tryz.func257.trans (congrArg some (by kernel_rfl))
  f21 := ⟨Tryz.f247.name, by decide, Tryz.func247.trans (congrArg some (by kernel_rfl))⟩
  f22 := ⟨Tryz.f248.name, by decide, Tryz.func248.trans (congrArg some (by kernel_rfl))⟩
  f23 := ⟨Tryz.f249.name, by decide, Tryz.func249.trans (congrArg some (by kernel_rfl))⟩
  f24 := ⟨Tryz.f250.name, by decide, Tryz.func250.trans (congrArg some (by kernel_rfl))⟩
  f25 := ⟨Tryz.f251.name, by decide, Tryz.func251.trans (congrArg some (by kernel_rfl))⟩
  f26 := ⟨Tryz.f252.name, by decide, Tryz.func252.trans (congrArg some (by kernel_rfl))⟩
  f27 := ⟨Tryz.f253.name, by decide, Tryz.func253.trans (congrArg some (by kernel_rfl))⟩
  f28 := ⟨Tryz.f254.name, by decide, Tryz.func254.trans (congrArg some (by kernel_rfl))⟩
  f29 := ⟨Tryz.f255.name, by decide, Tryz.func255.trans (congrArg some (by kernel_rfl))⟩
  f31 := Tryz.func259.trans (congrArg some (by kernel_rfl))
  f32 := Tryz.func260.trans (congrArg some (by kernel_rfl))
  f36 := ⟨Tryz.f258.name, by decide, Tryz.func258.trans (congrArg some (by kernel_rfl))⟩
  f37 := ⟨Tryz.f261.name, by decide, Tryz.func261.trans (congrArg some (by kernel_rfl))⟩
  f38 := ⟨Tryz.f262.name, by decide, Tryz.func262.trans (congrArg some (by kernel_rfl))⟩
  f39 := ⟨Tryz.f263.name, by decide, Tryz.func263.trans (congrArg some (by kernel_rfl))⟩
  f41 := ⟨Tryz.f264.name, by decide, Tryz.func264.trans (congrArg some (by kernel_rfl))⟩
  t0 := Tryz.underlying0
  a0 := Tryz.isAgg0
  z0 := Tryz.sizeOf0
  v0 := Tryz.zeroValue0
  t3 := Tryz.underlying3
  a3 := Tryz.isAgg3
  z3 := Tryz.sizeOf3
  v3 := Tryz.zeroValue3
  t4 := Tryz.underlying4
  a4 := Tryz.isAgg4
  z4 := Tryz.sizeOf4
  v4 := Tryz.zeroValue4
  t5 := Tryz.underlying5
  a5 := Tryz.isAgg5
  z5 := Tryz.sizeOf5
  v5 := Tryz.zeroValue5
  t9 := Tryz.underlying9
  a9 := Tryz.isAgg9
  z9 := Tryz.sizeOf9
  v9 := Tryz.zeroValue9
  t26 := Tryz.underlying127
  a26 := Tryz.isAgg127
  z26 := Tryz.sizeOf127
  v26 := Tryz.zeroValue127
  t27 := Tryz.underlying127
  a27 := Tryz.isAgg127
  z27 := Tryz.sizeOf127
  v27 := Tryz.zeroValue127
  t29 := Tryz.underlying9
  a29 := Tryz.isAgg9
  z29 := Tryz.sizeOf9
  v29 := Tryz.zeroValue9
  t32 := Tryz.underlying340
  a32 := Tryz.isAgg340
  z32 := Tryz.sizeOf340
  v32 := Tryz.zeroValue340
  t35 := Tryz.underlying344
  a35 := Tryz.isAgg344
  z35 := Tryz.sizeOf344
  v35 := Tryz.zeroValue344
  t36 := Tryz.underlying345
  a36 := Tryz.isAgg345
  z36 := Tryz.sizeOf345
  v36 := Tryz.zeroValue345
  t41 := Tryz.underlying192
  a41 := Tryz.isAgg192
  z41 := Tryz.sizeOf192
  v41 := Tryz.zeroValue192
  t44 := Tryz.underlying352
  a44 := Tryz.isAgg352
  z44 := Tryz.sizeOf352
  v44 := Tryz.zeroValue352
  t46 := Tryz.underlying354
  a46 := Tryz.isAgg354
  z46 := Tryz.sizeOf354
  v46 := Tryz.zeroValue354
  t53 := Tryz.underlying355
  a53 := Tryz.isAgg355
  z53 := Tryz.sizeOf355
  v53 := Tryz.zeroValue355
  t57 := Tryz.underlying317
  a57 := Tryz.isAgg317
  z57 := Tryz.sizeOf317
  v57 := Tryz.zeroValue317
  t63 := Tryz.underlying360
  a63 := Tryz.isAgg360
  z63 := Tryz.sizeOf360
  v63 := Tryz.zeroValue360
  t64 := Tryz.underlying74
  a64 := Tryz.isAgg74
  z64 := Tryz.sizeOf74
  v64 := Tryz.zeroValue74 }

theorem Tryz.sorts167 (m : Nat) : AnyZ.SortsIn Tryz.prog Tryz.sorted167_ren Fence.wide m :=
  ⟨fun blk off cap ss W hH hblk hsz => callsIn_wide.2 (AnyM.slices_Sort_string Tryz.sort212 blk off cap ss W hH hblk hsz),
   fun p cap W => callsIn_wide.2 (AnyM.slices_Sort_string_none Tryz.sort212 p cap W)⟩
theorem Tryz.maps_Keys_168 (mb : Option Nat) (W : World) : CallsIn Fence.wide 5 Tryz.prog 168 #[.map mb] W fun e w' => e = .returned (.func (.func 213) #[] #[.pointer (some ⟨W.heap.size, 0, none⟩)]) ∧ w' = W.alloc (.cells #[.map mb] 107) :=
  AnyZ.keys_in Tryz.keys168 Fence.wide 5 trivial rfl mb W
set_option maxHeartbeats 1000000 in
theorem Tryz.slices_Sorted_keys_167_168 {H : Type} (b nn : Nat) (D0 : DataW H) (R : Value → Option (DataW H × List MemPlace)) (w : World) (hown : w.ownsMap Tryz.prog 9 R b nn D0) (hmax : Maps.size D0 ≤ maxLen) (hbytes : Maps.size D0 * 16 ≤ 140737488355328) :
    CallsIn Fence.wide 5 Tryz.prog 167 #[.func (.func 213) #[] #[.pointer (some ⟨w.heap.size, 0, none⟩)]] (w.alloc (.cells #[.map (some b)] 107)) fun e w' => ∃ (v : Value) (ss : List (List UInt8)), e = .returned v ∧ ss.Perm (strKeys D0) ∧
      w'.ownsRow (w.alloc (.cells #[.map (some b)] 107)).heap.size 9 1 v ss.length ((ss.mergeSort (fun x y => decide (x ≤ y))).map encStr) ∧ (v = .slice none 0 0 ↔ ss = []) ∧ Below (w.alloc (.cells #[.map (some b)] 107)).heap.size (w.alloc (.cells #[.map (some b)] 107)) w' := by
  have hbl := hown.lt
  have hseq : SeqGives Fence.wide 2 Tryz.prog 213 #[.pointer (some ⟨w.heap.size, 0, none⟩)] encStr (fun ss => ss.Perm (strKeys D0)) (Maps.size D0) (w.alloc (.cells #[.map (some b)] 107)) :=
    AnyZ.keys_gives (ρ := Tryz.keys168_ren) { Tryz.keys168 with } Fence.wide _ trivial rfl (by omega) w.heap.size b nn D0 _ (by simp) (by simp) (by
      obtain ⟨es, clock, hb, Ft, hs, hD⟩ := hown
      exact ⟨es, clock, (Below.heap_alloc _ _ b hbl).trans hb, Ft, hs, hD⟩)
  exact AnyZ.sorted_in Tryz.sorted167 Fence.wide 5 trivial trivial trivial trivial rfl (by omega) (Tryz.sorts167 _) (enters_of Tryz.func212 (by kernel_rfl) rfl) 213 #[.pointer (some ⟨w.heap.size, 0, none⟩)] trivial (enters_of Tryz.func213 (by kernel_rfl) rfl) _ _ hmax hbytes _ hseq
set_option maxHeartbeats 1000000 in
theorem Tryz.slices_Sorted_keys_nil_167_168 (w : World) :
    CallsIn Fence.wide 5 Tryz.prog 167 #[.func (.func 213) #[] #[.pointer (some ⟨w.heap.size, 0, none⟩)]] (w.alloc (.cells #[.map none] 107)) fun e w' => ∃ (v : Value) (ss : List (List UInt8)), e = .returned v ∧ ss = [] ∧
      w'.ownsRow (w.alloc (.cells #[.map none] 107)).heap.size 9 1 v ss.length ((ss.mergeSort (fun x y => decide (x ≤ y))).map encStr) ∧ (v = .slice none 0 0 ↔ ss = []) ∧ Below (w.alloc (.cells #[.map none] 107)).heap.size (w.alloc (.cells #[.map none] 107)) w' := by
  have hseq : SeqGives Fence.wide 2 Tryz.prog 213 #[.pointer (some ⟨w.heap.size, 0, none⟩)] encStr (fun ss : List (List UInt8) => ss = []) 0 (w.alloc (.cells #[.map none] 107)) :=
    AnyZ.keys_gives_nil (ρ := Tryz.keys168_ren) { Tryz.keys168 with } Fence.wide _ trivial rfl w.heap.size _ (by simp) (by simp)
  exact AnyZ.sorted_in Tryz.sorted167 Fence.wide 5 trivial trivial trivial trivial rfl (by omega) (Tryz.sorts167 _) (enters_of Tryz.func212 (by kernel_rfl) rfl) 213 #[.pointer (some ⟨w.heap.size, 0, none⟩)] trivial (enters_of Tryz.func213 (by kernel_rfl) rfl) _ 0 (Nat.zero_le _) (by omega) _ hseq
end Go.Proofs

/- Files: all files by name. -/
namespace Go.Proofs.YtanbiinomagdbaaGreat
open Go.RowKit Go.Maps

end Go.Proofs.YtanbiinomagdbaaGreat

/- KernPieces: the kernel's states, as values. -/
namespace Go.Proofs.YtanbiinomagdbaaGreat
open Go.RowKit Go.Maps

end Go.Proofs.YtanbiinomagdbaaGreat

/- Rest and Calls of a kernel; what a refused call leaves, as values. -/
namespace Go.Proofs.YtanbiinomagdbaaGreat
open Go.RowKit Go.Maps

end Go.Proofs.YtanbiinomagdbaaGreat

/- Handles: their calls, those of no kernel, and two kernels side by side. -/
namespace Go.Proofs.YtanbiinomagdbaaGreat
open Go.RowKit Go.Maps

theorem KStep.behind {w w1 w' : World} {O : Nat → Prop} {kb : Nat} {K : KS} (h : KStep w1 O kb K w') (hB : Below w.heap.size w w1) : KStep w O kb K w' := by
  obtain ⟨O', h1, h2, h3⟩ := h
  exact ⟨O', h1, fun k e => (h2 k e).imp id (fun e => Nat.le_trans hB.size e), (Turned.of_below hB).trans h3 (fun _ _ e => e)⟩
set_option maxRecDepth 100000 in
theorem KAt.hwrite {w : World} {O : Nat → Prop} {kb : Nat} {K : KS} (h : KAt w O kb K) (d : Int) (bs : List UInt8) (a1 : Option Addr) (cx : Nat) (hd : I64 d) (hr : K.writes < 9223372036854775807)
    (hb : Bys w (.slice a1 bs.length cx) bs) (hcap : bs.length ≤ cx) (hbig : bs.length ≤ 9223372036854775807) (hap : 0 < bs.length → ∀ k, (Value.slice a1 bs.length cx).ownBlock = some k → ¬ O k) :
    Calls Tryz.prog 323 #[.agg #[.pointer (some ⟨kb, 0, none⟩), .int .i64 d], .slice a1 bs.length cx] w fun e w' => e = .returned (.tuple #[.int .i64 (K.write d bs).1, .int .i64 (K.write d bs).2.1]) ∧ KStep w O kb (K.write d bs).2.2 w' := by
  have hB := recv_below w (Obj.cells #[.pointer (some ⟨kb, 0, none⟩), .int .i64 d] 300)
  have HR := hide ((h.below hB).write d bs a1 cx hd hr (hb.below hB) hcap hbig hap)
  have HB := hide hB
  clear h hB hb hap
  go_enter Tryz.func323, Tryz.ntmps323
  go_wp2_with fail
  refine HR.out.mono ?_
  rintro e w1 ⟨rfl, h1⟩
  have HS := hide (h1.behind HB.out)
  clear h1
  go_wp2
  go_ret2
  exact ⟨rfl, HS.out⟩
set_option maxRecDepth 100000 in
theorem KAt.hseek {w : World} {O : Nat → Prop} {kb : Nat} {K : KS} (h : KAt w O kb K) (d off wh : Int) (hd : I64 d) (ho : I64 off) :
    Calls Tryz.prog 322 #[.agg #[.pointer (some ⟨kb, 0, none⟩), .int .i64 d], .int .i64 off, .int .i64 wh] w fun e w' => e = .returned (.tuple #[.int .i64 (K.seek d off wh).1, .int .i64 (K.seek d off wh).2.1]) ∧ KStep w O kb (K.seek d off wh).2.2 w' := by
  have hB := recv_below w (Obj.cells #[.pointer (some ⟨kb, 0, none⟩), .int .i64 d] 300)
  have HR := hide ((h.below hB).seek d off wh hd ho)
  have HB := hide hB
  clear h hB
  go_enter Tryz.func322, Tryz.ntmps322
  go_wp2_with fail
  refine HR.out.mono ?_
  rintro e w1 ⟨rfl, h1⟩
  have HS := hide (h1.behind HB.out)
  clear h1
  go_wp2
  go_ret2
  exact ⟨rfl, HS.out⟩
def Two (W : World) (B kb mb : Nat) (K M : KS) : Prop := ∃ O P, KAt W O kb K ∧ KAt W P mb M ∧ (∀ j, O j → B ≤ j ∧ j < W.heap.size ∧ ¬ P j) ∧ ∀ j, P j → B ≤ j ∧ j < W.heap.size
theorem cell_keep {O : Nat → Prop} {w w' : World} {g j : Nat} {v : Value} (hT : Turned O w w') (h : w.cell? ⟨g, j, none⟩ = some v) (hO : ¬ O g) : w'.cell? ⟨g, j, none⟩ = some v :=
  (World.cell?_of_block (w := w) (a := ⟨g, j, none⟩) (hT.block g (World.block_lt_of_cell? w _ h) hO)).trans h
theorem read_few {w : World} {O : Nat → Prop} {kb : Nat} {K : KS} (h : KAt w O kb K) (d n : Int) : (K.read d n).1.length ≤ 1048576 := by
  obtain ⟨ρ, I, h1, _, _⟩ := h
  have ok : ∀ x, K.find d = some x → (K.tho x).ok := fun x hx => by
    have hi := h1.ok.th x (KS.find_some hx).1
    have := (h1.comp (.obj x.th) hi).ok
    rw [KS.tho_eq hi]
    exact this
  unfold KS.read
  split
  · simp
  · rename_i x hx
    have hk := ok x hx
    split
    · simp
    split
    · simp
    split
    · simp
    split
    · simp
    split
    · revert hk
      cases K.tho x with
      | file b => intro hk; simp only [piece_len]; have : b.length ≤ 1048576 := hk; omega
      | term ls scr =>
        intro hk
        simp only [rdH]
        split
        · cases ls with
          | nil => simp [headL]
          | cons l r =>
            have := hk.2.1 0 (by simp)
            simp only [List.getElem_cons_zero] at this
            simp only [headL, List.length_take]
            omega
        · simp
      | pipe q rd wt => intro hk; have : q.length ≤ 4096 := hk.1; simp only [rdB]; split <;> simp <;> omega
    · simp
end Go.Proofs.YtanbiinomagdbaaGreat

/- The reference's kernel: Files. -/
namespace Go.Proofs.YtanbiinomagdbaaGreat
open Go.RowKit

end Go.Proofs.YtanbiinomagdbaaGreat

/- The reference's kernel: Screens. -/
namespace Go.Proofs.YtanbiinomagdbaaGreat
open Go.RowKit

end Go.Proofs.YtanbiinomagdbaaGreat

/- The reference's kernel: Drop. -/
namespace Go.Proofs.YtanbiinomagdbaaGreat
open Go.RowKit

end Go.Proofs.YtanbiinomagdbaaGreat

/- The page's kernel of a setup. -/
namespace Go.Proofs.YtanbiinomagdbaaGreat
open Go.RowKit

end Go.Proofs.YtanbiinomagdbaaGreat

/- The reference's kernel within a set of blocks: what each call leaves of it, and of all else. -/
namespace Go.Proofs.YtanbiinomagdbaaGreat
open Go.RowKit

def RAt (w : World) (O : Nat → Prop) (kb : Nat) (K : KS) : Prop := ∃ (B : Nat → Prop) (ρ : Nat → Option Tag) (I : RI), RK w B ρ I K ∧ I.kb = kb ∧ ∀ k t, ρ k = some t → O k
def RKStep (w : World) (O : Nat → Prop) (kb : Nat) (K' : KS) (w' : World) : Prop := ∃ O', RAt w' O' kb K' ∧ (∀ k, O' k → O k ∨ w.heap.size ≤ k) ∧ Turned O w w'
theorem RAt.keep {w w' : World} {O : Nat → Prop} {kb : Nat} {K : KS} (h : RAt w O kb K) (hk : ∀ k, O k → k < w.heap.size → w'.heap[k]? = w.heap[k]?) (hs : w.heap.size ≤ w'.heap.size) : RAt w' O kb K := by
  obtain ⟨B, ρ, I, h1, h2, h3⟩ := h
  exact ⟨B, ρ, I, ⟨fun t => (h1.comp t).keep (fun k e hlt => hk k (h3 k t e) hlt) hs, fun k t e => ⟨(h1.lt k t e).1, Nat.lt_of_lt_of_le (h1.lt k t e).2 hs⟩, h1.ok, fun k e => h1.up k (Nat.le_trans hs e)⟩, h2, h3⟩
theorem RAt.below {w w' : World} {O : Nat → Prop} {kb : Nat} {K : KS} (h : RAt w O kb K) (hB : Below w.heap.size w w') : RAt w' O kb K := h.keep (fun k _ hlt => hB.block k hlt) hB.size
theorem RK.left {w w' : World} {O : Nat → Prop} {ρ ρ' : Nat → Option Tag} {I' : RI} {K' : KS} {kb : Nat} (hO : ∀ k t, ρ k = some t → O k) (h : RK w' (fun k => (∃ t, ρ k = some t) ∨ w.heap.size ≤ k) ρ' I' K') (hk : I'.kb = kb) (hT : Turned (fun k => (∃ t, ρ k = some t) ∨ w.heap.size ≤ k) w w') : RKStep w O kb K' w' :=
  ⟨fun k => O k ∨ w.heap.size ≤ k, ⟨_, ρ', I', h, hk, fun k t e => by
    rcases (h.lt k t e).1 with ⟨t', h1⟩ | h1
    · exact .inl (hO k t' h1)
    · exact .inr h1⟩, fun _ e => e, ⟨hT.1, hT.2, hT.3, hT.4, fun k hlt hn => hT.5 k hlt (fun e => by
    rcases e with ⟨t', h1⟩ | h1
    · exact hn (hO k t' h1)
    · omega)⟩⟩
theorem RAt.seek {w : World} {O : Nat → Prop} {kb : Nat} {K : KS} (h : RAt w O kb K) (d off wh : Int) :
    Calls Tryz.prog 64 #[.pointer (some ⟨kb, 0, none⟩), .int .i64 d, .int .i64 off, .int .i64 wh] w fun e w' => e = .returned (.tuple #[.int .i64 (K.seek d off wh).1, .int .i64 (K.seek d off wh).2.1]) ∧ RKStep w O kb (K.seek d off wh).2.2 w' := by
  obtain ⟨B, ρ, I, h1, rfl, h3⟩ := h
  refine (rkseek_any _ ρ I K d off wh w h1.own).mono ?_
  rintro e w' ⟨ρ', I', h4, h6, h7, h8⟩
  exact ⟨h4, RK.left h3 h6 h7 h8⟩
theorem RAt.open {w : World} {O : Nat → Prop} {kb : Nat} {K : KS} (h : RAt w O kb K) (s : ByteArray) (flags : Int) (hnm : KNm K) (hs : s.size ≤ maxLen) (hn1 : 1 ≤ K.next) (hn : K.next < 9223372036854775807) :
    Calls Tryz.prog 56 #[.pointer (some ⟨kb, 0, none⟩), .string s, .int .i64 flags] w fun e w' => e = .returned (.tuple #[.int .i64 (K.open s flags).1, .int .i64 (K.open s flags).2.1]) ∧ RKStep w O kb (K.open s flags).2.2 w' := by
  obtain ⟨B, ρ, I, h1, rfl, h3⟩ := h
  refine (rkopen_any _ ρ I K s flags w h1.own hnm hs hn1 hn).mono ?_
  rintro e w' ⟨ρ', I', h4, h6, h7, h8⟩
  exact ⟨h4, RK.left h3 h6 h7 h8⟩
theorem RAt.of_page {w w' : World} {B : Nat → Prop} {ρ : Nat → Option Tag} {I : RI} {K : KS} (hB : ∀ k, B k → w.heap.size ≤ k) (h : RK w' B ρ I K) : RAt w' (fun k => w.heap.size ≤ k) I.kb K := ⟨B, ρ, I, h, rfl, fun k t e => hB k (h.lt k t e).1⟩
end Go.Proofs.YtanbiinomagdbaaGreat

/- The program's kernel and the reference's, side by side. -/
namespace Go.Proofs.YtanbiinomagdbaaGreat
open Go.RowKit

theorem RAt.trim {w : World} {O : Nat → Prop} {kb : Nat} {K : KS} (h : RAt w O kb K) : RAt w (fun k => O k ∧ k < w.heap.size) kb K := by
  obtain ⟨B, ρ, I, h1, h2, h3⟩ := h
  exact ⟨B, ρ, I, h1, h2, fun k t e => ⟨h3 k t e, (h1.lt k t e).2⟩⟩
end Go.Proofs.YtanbiinomagdbaaGreat

/- What the kernel's Read and Write tell, as values: at most what was asked, and nothing beside an error. -/
namespace Go.Proofs.YtanbiinomagdbaaGreat
open Go.RowKit Go.Maps

end Go.Proofs.YtanbiinomagdbaaGreat

/- KernPlays: a call by both. -/
namespace Go.Proofs.YtanbiinomagdbaaGreat
open Go.RowKit Go.Maps

structure StIn (B : Nat) (W : World) (x : KSt) (va : Option Addr) (vc : Nat) : Prop where
  by' : Bys W (.slice va x.data.length vc) x.data
  cap : x.data.length ≤ vc
  name : x.name.size ≤ maxLen
  a : I64 x.a
  b : I64 x.b
  c : I64 x.c
  few : x.data.length ≤ 140737488351232
  low : 0 < x.data.length → ∀ k, (Value.slice va x.data.length vc).ownBlock = some k → k < B
theorem drew_cell {w : World} {p : Addr} {v : Value} (h : w.cell? p = some v) : w.drew.cell? p = some v := h
theorem rk_cell {w w' : World} {O : Nat → Prop} {kb : Nat} {K : KS} {g j : Nat} {v : Value} (h : RKStep w O kb K w') (hc : w.cell? ⟨g, j, none⟩ = some v) (hO : ¬ O g) : w'.cell? ⟨g, j, none⟩ = some v := by
  obtain ⟨_, _, _, hT⟩ := h
  exact cell_keep hT hc hO
end Go.Proofs.YtanbiinomagdbaaGreat

/- KernPlays: Read and Write by both. -/
namespace Go.Proofs.YtanbiinomagdbaaGreat
open Go.RowKit Go.Maps

end Go.Proofs.YtanbiinomagdbaaGreat

/- Kernels as values: a pipe on which a description writes has a writer, and no other one writes on it. -/
namespace Go.Proofs.YtanbiinomagdbaaGreat
open Go.RowKit Go.Maps

def Ob.wts : Ob → Option Nat
  | .pipe _ _ wt => some wt
  | _ => none
def KS.pw (K : KS) (i : Nat) : Option Nat := (K.obOf i).wts
def PInv (K : KS) : Prop := ∀ x ∈ K.de, bit x.flags 2 = true → ∀ wt, K.pw x.th = some wt → 1 ≤ wt ∧ ∀ y ∈ K.de, y.th = x.th → bit y.flags 2 = true → y.n = x.n
theorem PInv.sub {K K' : KS} (h : PInv K) (hd : ∀ x ∈ K'.de, ∃ y ∈ K.de, y.n = x.n ∧ y.th = x.th ∧ y.flags = x.flags) (hw : ∀ i, K'.pw i = K.pw i) : PInv K' := by
  intro x hx hb wt hwt
  obtain ⟨y, hy, e1, e2, e3⟩ := hd x hx
  rw [hw, ← e2] at hwt
  obtain ⟨h1, h2⟩ := h y hy (by rw [e3]; exact hb) wt hwt
  refine ⟨h1, fun z hz hzt hzb => ?_⟩
  obtain ⟨u, hu, f1, f2, f3⟩ := hd z hz
  rw [← f1, ← e1]
  exact h2 u hu (by rw [f2, hzt, e2]) (by rw [f3]; exact hzb)
theorem pw_setOb {K : KS} {i : Nat} {ob : Ob} (h : ob.wts = K.pw i) (j : Nat) : (K.setOb i ob).pw j = K.pw j := by
  unfold KS.pw KS.obOf KS.setOb at *
  simp only [List.getElem?_modify]
  by_cases e : i = j
  · subst e
    cases hq : K.th[i]? with
    | none => simp
    | some t => simp [hq] at h ⊢; exact h
  · simp [e]
theorem PInv.setOb {K : KS} {i : Nat} {ob : Ob} (h : PInv K) (hw : ob.wts = K.pw i) : PInv (K.setOb i ob) := h.sub (fun y hy => ⟨y, hy, rfl, rfl, rfl⟩) (pw_setOb hw)
theorem obOf_app {K : KS} {i : Nat} (h : i < K.th.length) {t : Th} : ((K.th ++ [t])[i]?.map Th.ob).getD (.file []) = K.obOf i := by
  unfold KS.obOf
  rw [List.getElem?_append_left h]
theorem pinv_newDe {K : KS} (h : PInv K) (i : Nat) (fl : Int) (hi : K.pw i = none) : PInv (K.newDe i fl) := by
  intro x hx hb wt hwt
  have hpw : K.pw x.th = some wt := hwt
  rcases List.mem_append.1 (show x ∈ K.de ++ [⟨K.next, i, fl, 0, 1⟩] from hx) with hx | hx
  · obtain ⟨g1, g2⟩ := h x hx hb wt hpw
    refine ⟨g1, fun y hy hyt hyb => ?_⟩
    rcases List.mem_append.1 (show y ∈ K.de ++ [⟨K.next, i, fl, 0, 1⟩] from hy) with hy | hy
    · exact g2 y hy hyt hyb
    · have : y = ⟨K.next, i, fl, 0, 1⟩ := by simpa using hy
      subst this
      rw [← hyt] at hpw
      rw [hi] at hpw
      cases hpw
  · have : x = ⟨K.next, i, fl, 0, 1⟩ := by simpa using hx
    subst this
    rw [hi] at hpw
    cases hpw
theorem pinv_open {K : KS} (h : PInv K) (hk : KOk K) (hn : KNm K) (s : ByteArray) (fl : Int) : PInv (K.open s fl).2.2 := by
  unfold KS.open
  split
  · exact h
  split
  · exact h
  split
  · exact h
  cases hq : K.byName s with
  | some i =>
    simp only
    have him : i ∈ K.nm := List.mem_of_find?_eq_some hq
    have hki := hn.kind i him
    split
    · have hpi : K.pw i = none := by
        unfold KS.pw
        cases ho : K.obOf i with
        | file b => rfl
        | term ls scr => rfl
        | pipe q rd wt => rw [ho] at hki; rcases hki with e | e <;> simp [Ob.kind] at e
      have hcut : PInv (K.cut i fl) ∧ (K.cut i fl).pw i = none := by
        unfold KS.cut
        split
        · cases ho : K.obOf i with
          | file b =>
            have hw : (Ob.file []).wts = K.pw i := by rw [hpi]; rfl
            exact ⟨h.setOb hw, by rw [pw_setOb hw]; exact hpi⟩
          | term ls scr => exact ⟨h, hpi⟩
          | pipe q rd wt => exact ⟨h, hpi⟩
        · exact ⟨h, hpi⟩
      exact pinv_newDe hcut.1 i fl hcut.2
    · exact h
  | none =>
    simp only
    split
    · exact h
    split
    · exact h
    · have hadd : PInv (K.addTh ⟨s, .file []⟩) := by
        intro x hx hb wt hwt
        have hx' : x ∈ K.de := hx
        have hlt := hk.th x hx'
        have hpw : K.pw x.th = some wt := by
          rw [← hwt]
          show (K.obOf x.th).wts = ((((K.th ++ [⟨s, .file []⟩])[x.th]?.map Th.ob).getD (.file []))).wts
          rw [obOf_app hlt]
        exact h x hx' hb wt hpw
      refine pinv_newDe hadd _ fl ?_
      show ((((K.th ++ [⟨s, .file []⟩])[K.th.length]?.map Th.ob).getD (.file []))).wts = none
      simp [Ob.wts]
theorem pinv_new (fs : List Nm) (ts : List Tp) (l : List Fault) (h : (KS.new fs ts l).de = []) : PInv (KS.new fs ts l) := by
  intro x hx
  rw [h] at hx
  cases hx
theorem new_de (fs : List Nm) (ts : List Tp) (l : List Fault) : (KS.new fs ts l).de = [] := by
  unfold KS.new
  have h1 : ∀ (ts : List Tp) (K : KS), (ts.foldl (fun K t => K.addTh ⟨t.1, .term t.2 []⟩) K).de = K.de := fun ts => by
    induction ts with
    | nil => intro K; rfl
    | cons t r ih => intro K; rw [List.foldl_cons, ih]; rfl
  have h2 : ∀ (fs : List Nm) (K : KS), (fs.foldl (fun K f => K.addTh ⟨f.1, .file f.2⟩) K).de = K.de := fun fs => by
    induction fs with
    | nil => intro K; rfl
    | cons t r ih => intro K; rw [List.foldl_cons, ih]; rfl
  rw [h1, h2]
  rfl
end Go.Proofs.YtanbiinomagdbaaGreat

/- KernPlays: are both kernels alike? -/
namespace Go.Proofs.YtanbiinomagdbaaGreat
open Go.RowKit Go.Maps

end Go.Proofs.YtanbiinomagdbaaGreat

/- Raws, as values and in memory; retry's small functions. -/
namespace Go.Proofs.YtanbiinomagdbaaGreat
open Go.RowKit Go.Maps

structure RawD (S : Type) where
  read : S → Nat → List UInt8 × Int × S
  write : S → List UInt8 → Int × Int × S
structure RawM {S : Type} (D : RawD S) (T : TypeId) (v : Value) (fr fw : FuncId) (rok wok : S → Prop) (At : World → (Nat → Prop) → S → Prop) : Prop where
  mread : ∀ w, (method 480 T v "Read").run Tryz.prog w = .ok (fr, v) w
  mwrite : ∀ w, (method 480 T v "Write").run Tryz.prog w = .ok (fw, v) w
  cread : ∀ a w, (callFunc fr a).run Tryz.prog w = .ok (.enter fr a) w
  cwrite : ∀ a w, (callFunc fw a).run Tryz.prog w = .ok (.enter fw a) w
  keep : ∀ {w w' : World} {O : Nat → Prop} {s : S}, At w O s → (∀ j, O j → j < w.heap.size → w'.heap[j]? = w.heap[j]?) → w.heap.size ≤ w'.heap.size → At w' O s
  few : ∀ {w : World} {O : Nat → Prop} {s : S} (n : Nat), At w O s → (D.read s n).1.length ≤ 1073741824
  read : ∀ {w : World} {O : Nat → Prop} {s : S} (n : Nat), At w O s → rok s → 1 ≤ n → n ≤ 1048576 → Calls Tryz.prog fr #[v, .int .i64 n] w fun e w' => ∃ ua uc, e = .returned (.tuple #[.slice ua (D.read s n).1.length uc, .int .i64 (D.read s n).2.1]) ∧ Bys w' (.slice ua (D.read s n).1.length uc) (D.read s n).1 ∧ At w' O (D.read s n).2.2 ∧ Turned O w w'
  write : ∀ {w : World} {O : Nat → Prop} {s : S} (bs : List UInt8) (a : Option Addr) (c : Nat), At w O s → wok s → Bys w (.slice a bs.length c) bs → bs.length ≤ c → 1 ≤ bs.length → bs.length ≤ 1048576 → (∀ k, (Value.slice a bs.length c).ownBlock = some k → ¬ O k) →
    Calls Tryz.prog fw #[v, .slice a bs.length c] w fun e w' => e = .returned (.tuple #[.int .i64 (D.write s bs).1, .int .i64 (D.write s bs).2.1]) ∧ ∃ O', At w' O' (D.write s bs).2.2 ∧ (∀ k, O' k → O k ∨ w.heap.size ≤ k) ∧ Turned O w w'
theorem view_own {P : Prop} {w : World} {E : Int} {l : List UInt8} {e : Ending} {w' : World} (h : ∃ u, e = .returned (.tuple #[u, .int .i64 E]) ∧ w'.ownsRow w.heap.size 5 1 u l.length (l.map bv) ∧ P) : ∃ ua uc, e = .returned (.tuple #[.slice ua l.length uc, .int .i64 E]) ∧ Bys w' (.slice ua l.length uc) l ∧ P := by
  obtain ⟨u, rfl, ho, hp⟩ := h
  obtain ⟨ua, uc, rfl⟩ := owns_slice ho
  exact ⟨ua, uc, rfl, Bys.of_owns ho, hp⟩
def RStep {S : Type} (At : World → (Nat → Prop) → S → Prop) (w : World) (O : Nat → Prop) (s : S) (w' : World) : Prop := ∃ O', At w' O' s ∧ (∀ k, O' k → O k ∨ w.heap.size ≤ k) ∧ Turned O w w'
def someV {S : Type} (D : RawD S) (n : Nat) : Nat → S → List UInt8 × Int × S
  | 0, s => ([], 81, s)
  | k + 1, s => if (D.read s n).2.1 = 22 ∨ (D.read s n).2.1 = 23 then someV D n k (D.read s n).2.2
      else if n < (D.read s n).1.length then ([], 82, (D.read s n).2.2)
      else if (D.read s n).2.1 = 0 then ((D.read s n).1, 0, (D.read s n).2.2)
      else ([], (D.read s n).2.1, (D.read s n).2.2)
theorem someV_next {S : Type} (D : RawD S) (n k : Nat) (s : S) {b : List UInt8} {e : Int} {s2 : S} (h : D.read s n = (b, e, s2)) : someV D n (k + 1) s = if e = 22 ∨ e = 23 then someV D n k s2 else if n < b.length then ([], 82, s2) else if e = 0 then (b, 0, s2) else ([], e, s2) := by
  show (if (D.read s n).2.1 = 22 ∨ (D.read s n).2.1 = 23 then someV D n k (D.read s n).2.2 else if n < (D.read s n).1.length then ([], 82, (D.read s n).2.2) else if (D.read s n).2.1 = 0 then ((D.read s n).1, 0, (D.read s n).2.2) else ([], (D.read s n).2.1, (D.read s n).2.2)) = _
  rw [h]
def someOk {S : Type} (D : RawD S) (ok : S → Prop) (n : Nat) : Nat → S → Prop
  | 0, _ => True
  | k + 1, s => ok s ∧ ((D.read s n).2.1 = 22 ∨ (D.read s n).2.1 = 23 → someOk D ok n k (D.read s n).2.2)
def putV {S : Type} (D : RawD S) (bs : List UInt8) : Nat → S → Nat → Nat → Nat × Int × S
  | 0, s, d, _ => (d, 0, s)
  | k + 1, s, d, t => if d < bs.length then
      (if ((D.write s (bs.drop d)).2.1 = 22 ∨ (D.write s (bs.drop d)).2.1 = 23) ∨ ((D.write s (bs.drop d)).1 = 0 ∧ (D.write s (bs.drop d)).2.1 = 0) then
        (if t + 1 = 8192 then (d, 81, (D.write s (bs.drop d)).2.2) else putV D bs k (D.write s (bs.drop d)).2.2 d (t + 1))
       else if (D.write s (bs.drop d)).1 < 0 ∨ ((bs.length - d : Nat) : Int) < (D.write s (bs.drop d)).1 then (d, 82, (D.write s (bs.drop d)).2.2)
       else if (D.write s (bs.drop d)).2.1 = 0 then putV D bs k (D.write s (bs.drop d)).2.2 (d + (D.write s (bs.drop d)).1.toNat) 0
       else (d, (D.write s (bs.drop d)).2.1, (D.write s (bs.drop d)).2.2))
      else (d, 0, s)
def putOk {S : Type} (D : RawD S) (ok : S → Prop) (bs : List UInt8) : Nat → S → Nat → Nat → Prop
  | 0, _, _, _ => True
  | k + 1, s, d, t => d < bs.length → ok s ∧
      (((D.write s (bs.drop d)).2.1 = 22 ∨ (D.write s (bs.drop d)).2.1 = 23) ∨ ((D.write s (bs.drop d)).1 = 0 ∧ (D.write s (bs.drop d)).2.1 = 0) → t + 1 ≠ 8192 → putOk D ok bs k (D.write s (bs.drop d)).2.2 d (t + 1)) ∧
      ((D.write s (bs.drop d)).2.1 = 0 → 1 ≤ (D.write s (bs.drop d)).1 → (D.write s (bs.drop d)).1 ≤ ((bs.length - d : Nat) : Int) → putOk D ok bs k (D.write s (bs.drop d)).2.2 (d + (D.write s (bs.drop d)).1.toNat) 0)
theorem putV_next {S : Type} (D : RawD S) (bs : List UInt8) (k : Nat) (s : S) (d t : Nat) {m e : Int} {s2 : S} (h : D.write s (bs.drop d) = (m, e, s2)) : putV D bs (k + 1) s d t = if d < bs.length then
      (if (e = 22 ∨ e = 23) ∨ (m = 0 ∧ e = 0) then (if t + 1 = 8192 then (d, 81, s2) else putV D bs k s2 d (t + 1))
       else if m < 0 ∨ ((bs.length - d : Nat) : Int) < m then (d, 82, s2)
       else if e = 0 then putV D bs k s2 (d + m.toNat) 0
       else (d, e, s2))
      else (d, 0, s) := by
  show (if d < bs.length then
      (if ((D.write s (bs.drop d)).2.1 = 22 ∨ (D.write s (bs.drop d)).2.1 = 23) ∨ ((D.write s (bs.drop d)).1 = 0 ∧ (D.write s (bs.drop d)).2.1 = 0) then
        (if t + 1 = 8192 then (d, 81, (D.write s (bs.drop d)).2.2) else putV D bs k (D.write s (bs.drop d)).2.2 d (t + 1))
       else if (D.write s (bs.drop d)).1 < 0 ∨ ((bs.length - d : Nat) : Int) < (D.write s (bs.drop d)).1 then (d, 82, (D.write s (bs.drop d)).2.2)
       else if (D.write s (bs.drop d)).2.1 = 0 then putV D bs k (D.write s (bs.drop d)).2.2 (d + (D.write s (bs.drop d)).1.toNat) 0
       else (d, (D.write s (bs.drop d)).2.1, (D.write s (bs.drop d)).2.2))
      else (d, 0, s)) = _
  rw [h]
theorem putV_done {S : Type} (D : RawD S) (bs : List UInt8) (k : Nat) (s : S) (d t : Nat) (h : ¬ d < bs.length) : putV D bs k s d t = (d, 0, s) := by
  cases k with
  | zero => rfl
  | succ k => unfold putV; rw [if_neg h]
theorem putOk_next {S : Type} (D : RawD S) (ok : S → Prop) (bs : List UInt8) (k : Nat) (s : S) (d t : Nat) {m e : Int} {s2 : S} (h : D.write s (bs.drop d) = (m, e, s2)) (hd : d < bs.length) (hp : putOk D ok bs (k + 1) s d t) : ok s ∧ ((e = 22 ∨ e = 23) ∨ (m = 0 ∧ e = 0) → t + 1 ≠ 8192 → putOk D ok bs k s2 d (t + 1)) ∧ (e = 0 → 1 ≤ m → m ≤ ((bs.length - d : Nat) : Int) → putOk D ok bs k s2 (d + m.toNat) 0) := by
  have h2 := hp hd
  rw [h] at h2
  exact h2
def putF (bs : List UInt8) : Nat := bs.length * 8192 + 8192
theorem isTry_yes (e : Int) (w : World) (h : e = 22 ∨ e = 23) : Calls Tryz.prog 223 #[.int .i64 e] w fun r w' => r = .returned (.bool true) ∧ w = w' := by
  rcases h with rfl | rfl
  all_goals
    go_enter Tryz.func223, Tryz.ntmps223
    go_wp2
    go_ret
    exact ⟨rfl, rfl⟩
theorem isTry_no (e : Int) (w : World) (h : ¬ (e = 22 ∨ e = 23)) : Calls Tryz.prog 223 #[.int .i64 e] w fun r w' => r = .returned (.bool false) ∧ w = w' := by
  have h1 : ¬ e = 22 := fun x => h (.inl x)
  have h2 : ¬ e = 23 := fun x => h (.inr x)
  have h3 : (e == 22) = false := by simp [h1]
  have h4 : (e == 23) = false := by simp [h2]
  go_enter Tryz.func223, Tryz.ntmps223
  go_wp2
  go_ret
  exact ⟨rfl, rfl⟩
theorem readable_yes (T : TypeId) (v : Value) (n : Int) (w : World) (h1 : 1 ≤ n) (h2 : n ≤ 1048576) : Calls Tryz.prog 246 #[.iface T v, .int .i64 n] w fun r w' => r = .returned (.int .i64 0) ∧ w = w' := by
  have h3 : ¬ n < 1 := by omega
  have h4 : ¬ 1048576 < n := by omega
  go_enter Tryz.func246, Tryz.ntmps246
  go_wp2
  go_ret
  exact ⟨rfl, rfl⟩
set_option maxRecDepth 100000 in
set_option maxHeartbeats 1000000 in
theorem bclone_any (v : Value) (l : List UInt8) (w : World) (h : Bys w v l) (hs : l.length ≤ 140737488351232) :
    Calls Tryz.prog 182 #[v] w fun e w' => ∃ u, e = .returned u ∧ w'.ownsRow w.heap.size 5 1 u l.length (l.map bv) ∧ Below w.heap.size w w' := by
  have hmade : (w.alloc (Obj.cells #[] 5)).ownsRow w.heap.size 5 1 (.slice (some ⟨w.heap.size, 0, none⟩) 0 0) ([] : List UInt8).length (([] : List UInt8).map bv) := World.ownsRow_made _ _ _ (Nat.le_refl _) (by decide) rfl
  have hB := recv_below w (Obj.cells #[] 5)
  obtain ⟨s', w1, hrun, HO, hg, hb⟩ := run_append_bytes (w.alloc (Obj.cells #[] 5)) 40 w.heap.size _ v [] l hmade (h.below hB) (by simpa using hs) hB.size
  have HR := hide hrun
  have HB : Hid (Below w.heap.size w w1) := hide (hB.grown hg hB.size (fun j e => by
    have : w.heap.size = j := by simpa [Value.ownBlock] using e
    omega))
  rcases h with ⟨rfl, rfl⟩ | ⟨a, cap, rfl, rfl⟩ | ⟨b, off, cap, rfl, h0, -⟩
  · have hnil : ∀ W, (binOp .eql 40 (.slice none 0 0) (.slice none 0 0)).run Tryz.prog W = .ok (.bool true) W := fun W => Lib.run_eql_slice_nil_nil W _ _ Tryz.underlying40
    go_enter Tryz.func182, Tryz.ntmps182
    go_wp2
    go_ret
    exact ⟨_, rfl, World.ownsRow_nil _ _ _ _, Below.refl _ _⟩
  · have hnil : ∀ W, (binOp .eql 40 (.slice (some a) 0 cap) (.slice none 0 0)).run Tryz.prog W = .ok (.bool false) W := fun W => Lib.run_eql_slice_some_nil W _ _ _ Tryz.underlying40
    clear hrun hg hb hmade hB
    go_enter Tryz.func182, Tryz.ntmps182
    go_wp2_with (at_builtin; refine Lib.wpList_append_run _ rfl _ _ _ _ rfl _ _ rfl rfl _ _ HR.out ?_)
    go_ret
    exact ⟨_, rfl, HO.out, HB.out⟩
  · have hnil : ∀ W, (binOp .eql 40 (.slice (some ⟨b, off, none⟩) l.length cap) (.slice none 0 0)).run Tryz.prog W = .ok (.bool false) W := fun W => Lib.run_eql_slice_some_nil W _ _ _ Tryz.underlying40
    clear hrun hg hb hmade hB
    go_enter Tryz.func182, Tryz.ntmps182
    go_wp2_with (at_builtin; refine Lib.wpList_append_run _ rfl _ _ _ _ rfl _ _ rfl rfl _ _ HR.out ?_)
    go_ret
    exact ⟨_, rfl, HO.out, HB.out⟩
end Go.Proofs.YtanbiinomagdbaaGreat

/- Some, over any Raw. -/
namespace Go.Proofs.YtanbiinomagdbaaGreat
open Go.RowKit Go.Maps

set_option maxRecDepth 100000 in
set_option maxHeartbeats 4000000 in
theorem some_any {S : Type} {D : RawD S} {T : TypeId} {v : Value} {fr fw : FuncId} {rok wok : S → Prop} {At : World → (Nat → Prop) → S → Prop} (R : RawM D T v fr fw rok wok At) {w : World} {O : Nat → Prop} {s : S} (n : Nat) (h : At w O s) (h1 : 1 ≤ n) (h2 : n ≤ 1048576) (hok : someOk D rok n 8192 s) :
    Calls Tryz.prog 222 #[.iface T v, .int .i64 n] w fun e w' => ∃ u, e = .returned (.tuple #[u, .int .i64 (someV D n 8192 s).2.1]) ∧ w'.ownsRow w.heap.size 5 1 u (someV D n 8192 s).1.length ((someV D n 8192 s).1.map bv) ∧ At w' O (someV D n 8192 s).2.2 ∧ Turned O w w' := by
  have hm := R.mread
  have hcr := R.cread
  have HA := hide h
  have HOk := hide hok
  have HR := hide R
  clear h hok R
  go_enter Tryz.func222, Tryz.ntmps222
  go_wp2_with (first | (go_at_call 246; refine (readable_yes T v n _ (by omega) (by omega)).mono ?_; rintro _ _ ⟨rfl, rfl⟩) | fail)
  obtain ⟨tr, htr⟩ : ∃ tr, tr = 8192 := ⟨_, rfl⟩
  have HTr := hide htr
  clear htr
  go_loopw [15] (fun i wr => ∃ (k : Nat) (s' : S), i = .int .i64 k ∧ k ≤ 8192 ∧ Hid (At wr O s') ∧ Hid (someOk D rok n (tr - k) s' ∧ someV D n (tr - k) s' = someV D n 8192 s) ∧ Hid (Turned O w wr) ∧ w.heap.size ≤ wr.heap.size) (fun i _ => 8192 - (intOf i).toNat)
  case atStart => exact ⟨0, s, rfl, Nat.zero_le _, HA, hide (by rw [HTr.out]; exact ⟨HOk.out, rfl⟩), hide (Turned.of_below (Below.refl _ _)), Nat.le_refl _⟩
  case round =>
    obtain ⟨k, s', rfl, hk, HAt, HV, HT, hsz⟩ := hrel
    clear HA HOk
    by_cases hlt : k < 8192
    case neg =>
      have hke : k = 8192 := by omega
      have HE : Hid (someV D n 8192 s = ([], 81, s')) := hide (by
        have := HV.out.2
        rw [show tr - k = 0 by have := HTr.out; omega] at this
        exact this.symm)
      have hlt' : ¬ (k : Int) < 8192 := by omega
      clear HV hke hlt
      go_wp2_with fail
      go_ret2
      rw [HE.out]
      exact ⟨_, rfl, World.ownsRow_nil _ _ _ _, HAt.out, HT.out⟩
    have hlt' : (k : Int) < 8192 := by omega
    obtain ⟨j, hj⟩ : ∃ j, tr - k = j + 1 := ⟨tr - k - 1, by have := HTr.out; omega⟩
    rw [hj] at HV
    have HRd := hide (HR.out.read n HAt.out HV.out.1.1 h1 h2)
    have hfew := HR.out.few n HAt.out
    obtain ⟨b, e, s2, hd⟩ : ∃ b e s2, D.read s' n = (b, e, s2) := ⟨_, _, _, rfl⟩
    rw [hd] at HRd hfew
    simp only at HRd hfew
    have hV1 : e = 22 ∨ e = 23 → someOk D rok n j s2 := by have := HV.out.1.2; rw [hd] at this; exact this
    have hV2 := HV.out.2
    rw [someV_next D n j s' hd] at hV2
    have HV1 := hide hV1
    have HJ := hide hj
    clear HV hd hj hV1
    by_cases ht : e = 22 ∨ e = 23
    · rw [if_pos ht] at hV2
      have HV2 := hide hV2
      have HV3 := hide (HV1.out ht)
      have HTt := hide ht
      clear hV2 ht
      go_wp2_with fail
      refine HRd.out.mono ?_
      rintro _ w1 ⟨ua, uc, rfl, hO1, hA1, hT1⟩
      have HA1 := hide hA1
      have HT1 := hide (HT.out.trans hT1 (fun _ _ e => e))
      have hs1 : w.heap.size ≤ w1.heap.size := Nat.le_trans hsz hT1.size
      clear hO1 hA1 hT1
      go_wp2_with (first | (go_at_call 223; refine (isTry_yes _ _ HTt.out).mono ?_; rintro _ _ ⟨rfl, rfl⟩) | fail)
      go_roundw
      case rel => exact ⟨k + 1, s2, by go_num, by omega, HA1, hide (by rw [show tr - (k + 1) = j by have := HJ.out; omega]; exact ⟨HV3.out, HV2.out⟩), HT1, hs1⟩
      case measure => simp [intOf]; omega
    · rw [if_neg ht] at hV2
      have HTt := hide ht
      clear ht HV1
      by_cases hn : n < b.length
      · rw [if_pos hn] at hV2
        have HV2 := hide hV2
        have hn' : (n : Int) < (b.length : Int) := by omega
        clear hV2 hn
        go_wp2_with fail
        refine HRd.out.mono ?_
        rintro _ w1 ⟨ua, uc, rfl, hO1, hA1, hT1⟩
        have HA1 := hide hA1
        have HT1 := hide (HT.out.trans hT1 (fun _ _ e => e))
        clear hO1 hA1 hT1
        go_wp2_with (first | (go_at_call 223; refine (isTry_no _ _ HTt.out).mono ?_; rintro _ _ ⟨rfl, rfl⟩) | fail)
        go_ret2
        rw [← HV2.out]
        exact ⟨_, rfl, World.ownsRow_nil _ _ _ _, HA1.out, HT1.out⟩
      rw [if_neg hn] at hV2
      have hn' : ¬ (n : Int) < (b.length : Int) := by omega
      by_cases he : e = 0
      · subst he
        rw [if_pos rfl] at hV2
        have HV2 := hide hV2
        clear hV2 hn
        go_wp2_with fail
        refine HRd.out.mono ?_
        rintro _ w1 ⟨ua, uc, rfl, hO1, hA1, hT1⟩
        have HC := hide (bclone_any (.slice ua b.length uc) b w1 hO1 (by omega))
        have HA1 := hide hA1
        have HT1 := hide (HT.out.trans hT1 (fun _ _ e => e))
        clear hO1 hA1 hT1
        go_wp2_with (first | (go_at_call 223; refine (isTry_no _ _ HTt.out).mono ?_; rintro _ _ ⟨rfl, rfl⟩) | fail)
        refine HC.out.mono ?_
        rintro _ w2 ⟨u2, rfl, hO2, hB2⟩
        have HA2 := hide (HR.out.keep HA1.out (fun j _ hj => hB2.block j hj) hB2.size)
        have HT2 := hide (HT1.out.trans (Turned.of_below hB2) (fun _ _ e => e))
        have HO2 := hide (owns_mono hO2 HT1.out.size)
        clear hO2 hB2
        go_wp2
        go_ret2
        rw [← HV2.out]
        exact ⟨_, rfl, HO2.out, HA2.out, HT2.out⟩
      · rw [if_neg he] at hV2
        have HV2 := hide hV2
        have he2 : (e != 0) = true := by simp [he]
        have he3 : (e == 0) = false := by simp [he]
        clear hV2 hn
        go_wp2_with fail
        refine HRd.out.mono ?_
        rintro _ w1 ⟨ua, uc, rfl, hO1, hA1, hT1⟩
        have HA1 := hide hA1
        have HT1 := hide (HT.out.trans hT1 (fun _ _ e => e))
        clear hO1 hA1 hT1
        go_wp2_with (first | (go_at_call 223; refine (isTry_no _ _ HTt.out).mono ?_; rintro _ _ ⟨rfl, rfl⟩) | fail)
        go_ret2
        rw [← HV2.out]
        exact ⟨_, rfl, World.ownsRow_nil _ _ _ _, HA1.out, HT1.out⟩
end Go.Proofs.YtanbiinomagdbaaGreat

/- All, over any Raw. -/
namespace Go.Proofs.YtanbiinomagdbaaGreat
open Go.RowKit Go.Maps


end Go.Proofs.YtanbiinomagdbaaGreat
