/- What the proof stands on, part 11: the contracts of the program's calls that it reaches. -/
import Derived.Test.YtkkommomefmpgaaGreatKQ10
import Derived.ProofKit
import Derived.OpenShut
import Derived.ChangeArms
import Derived.ChangeSlices
import Derived.SizedLaws
import Derived.Deep.Slices
import Derived.Deep.SlicePairs
import Derived.Test.YtkkommomefmpgaaGreatRows
import Derived.Shelf.SlIter.Nil
import Derived.Shelf.SortM.Plain
import Derived.Shelf.SortM.SortNone
import Derived.Ground.GgzProg
import Derived.Ground.SlgmProg
import Derived.Test.YtkkommomefmpgaaGreatProg
import Derived.LaidEqlPtr
import Derived.Lib.Builder
import Derived.Deep.RegionHeld3
/- The reference's kernel: Open, of a name that is there. -/
namespace Go.Proofs.YtkkommomefmpgaaGreat
open Go.RowKit

set_option maxRecDepth 100000 in
set_option maxHeartbeats 4000000 in
theorem rkopen_old (B : Nat → Prop) (ρ : Nat → Option Tag) (I : RI) (K : KS) (s : ByteArray) (flags : Int) (w : World) (h : RK w B ρ I K) (hs : s.size ≤ maxLen) (hn1 : 1 ≤ K.next) (hn : K.next < 9223372036854775807) (k0 : nameOk s = true) (k1 : flagsOk flags = true) (k2 : ¬ 256 ≤ K.de.length) {i : Nat} (hby : K.byName s = some i) :
    Calls Tryz.prog 48 #[.pointer (some ⟨I.kb, 0, none⟩), .string s, .int .i64 flags] w (RKNum w B I.kb (K.open s flags)) := by
  have HX := hide fun E => RKNum.refused h 0 E
  have hi : i < K.th.length := h.ok.nm i (List.mem_of_find?_eq_some hby)
  have hb := (h.comp .kern).1
  have c1 : w.cell? ⟨I.kb, 1, none⟩ = some I.vD := by rw [cell_of_row w I.kb 1 _ _ _ hb]; rfl
  obtain ⟨da, dc, hdv⟩ := owns_slice (h.comp .drow).1
  rw [hdv] at c1
  have HN := hide (named_any s w hs)
  have HF := hide (flagged_any flags w)
  have HT := hide (rthing_any B ρ I K s w h)
  rw [k0] at HN
  rw [k1] at HF
  rw [hby] at HT
  obtain ⟨-, t1, t2, t3⟩ := h.tcell hi
  have k3 : ¬ (256 : Int) ≤ (K.de.length : Int) := by omega
  have hO : K.open s flags = if fbit flags 32 = 0 then ((K.next : Int), 0, (K.cut i flags).newDe i flags) else (0, 63, K) := by
    unfold KS.open
    rw [if_neg (by simp [k0]), if_neg (by simp [k1]), if_neg k2, hby]
  obtain ⟨v5, hv5⟩ : ∃ v5, bits .and .i64 flags 32 = v5 := ⟨_, rfl⟩
  rw [show fbit flags 32 = v5 from hv5] at hO
  have HH := hide h
  have HO := hide ((h.comp (.obj i)) hi)
  clear h hb hdv
  by_cases e5 : v5 = 0
  case neg =>
    have m5 : (v5 == 0) = false := by simpa using e5
    have m5' : (v5 != 0) = true := by simpa using e5
    rw [if_neg e5] at hO
    rw [hO]
    clear t1 t2 t3
    go_enter Tryz.func48, Tryz.ntmps48
    go_wp2_with fail
    refine HN.out.mono ?_
    rintro e w ⟨rfl, rfl⟩
    go_wp2_with fail
    refine HF.out.mono ?_
    rintro e w ⟨rfl, rfl⟩
    go_wp2_with fail
    refine HT.out.mono ?_
    rintro e w ⟨rfl, rfl⟩
    simp only [Option.map_some]
    go_wp2
    go_ret2
    exact HX.out 63
  subst e5
  rw [if_pos rfl] at hO
  rw [hO]
  obtain ⟨v16, hv16⟩ : ∃ v16, bits .and .i64 flags 16 = v16 := ⟨_, rfl⟩
  have hcut : K.cut i flags = if v16 = 0 then K else (match K.obOf i with | .file _ => K.setOb i (.file []) | _ => K) := by
    unfold KS.cut bit
    rw [show fbit flags 16 = v16 from hv16]
    by_cases e : v16 = 0
    · rw [if_pos e, e]; rfl
    · rw [if_neg e, if_pos (by simpa using e)]
      first | done | rfl
  have HCut := hide hcut
  by_cases hfile : (∃ f, K.obOf i = .file f) ∧ ¬ v16 = 0
  case neg =>
    -- nothing is emptied
    have hsame : K.cut i flags = K := by
      rw [hcut]
      split
      · rfl
      · rename_i e
        cases ho : K.obOf i with
        | file f => exact absurd ⟨⟨f, ho⟩, e⟩ hfile
        | term _ _ => rfl
        | pipe _ _ _ => rfl
    rw [hsame]
    have hD := rdesc_any B ρ I K i flags w HH.out hi k1 (by omega) hn1 hn
    have HD := hide hD
    have hk : ((K.obOf i).kind = 1 ∧ v16 = 0) ∨ (¬ (K.obOf i).kind = 1 ∧ ((K.obOf i).kind == 1) = false) := by
      cases ho : K.obOf i with
      | file f => exact .inl ⟨rfl, by by_cases e : v16 = 0; exact e; exact absurd ⟨⟨f, ho⟩, e⟩ hfile⟩
      | term _ _ => exact .inr ⟨by simp [Ob.kind], by simp [Ob.kind]⟩
      | pipe _ _ _ => exact .inr ⟨by simp [Ob.kind], by simp [Ob.kind]⟩
    generalize (K.obOf i).kind = kd at *
    clear hsame hcut HCut t2 t3 hfile hD hO
    rcases hk with ⟨rfl, rfl⟩ | ⟨g1, g2⟩
    all_goals
      go_enter Tryz.func48, Tryz.ntmps48
      go_wp2_with fail
      refine HN.out.mono ?_
      rintro e w ⟨rfl, rfl⟩
      go_wp2_with fail
      refine HF.out.mono ?_
      rintro e w ⟨rfl, rfl⟩
      go_wp2_with fail
      refine HT.out.mono ?_
      rintro e w ⟨rfl, rfl⟩
      simp only [Option.map_some]
      go_wp2_with fail
      refine HD.out.mono ?_
      rintro e w4 ⟨rfl, ρ4, I4, hK4, hkb4, -, hT4⟩
      have HE : Hid (RKNum w B I.kb ((K.next : Int), 0, K.newDe i flags) (.returned (.tuple #[.int .i64 K.next, .int .i64 0])) w4) := hide ⟨ρ4, I4, rfl, hK4, hkb4, hT4⟩
      clear hK4 hkb4 hT4
      go_wp2
      go_ret2
      exact HE.out
  obtain ⟨⟨f, ho⟩, e16⟩ := hfile
  have m16 : (v16 == 0) = false := by simpa using e16
  have m16' : (v16 != 0) = true := by simpa using e16
  rw [if_neg e16, ho] at hcut
  simp only at hcut
  rw [hcut]
  rw [ho] at t1
  simp only [Ob.kind] at t1
  have t4 := t2 f ho
  have hO1 := HO.out
  rw [← KS.obOf_eq hi, ho] at hO1
  obtain ⟨⟨u, Bu, hF, hBu, hOp, hOu⟩, -⟩ := hO1
  have d1 := hF.data
  have d2 := hF.soft
  have hst : ObjStep w (fun k => ρ k = some (.obj i)) (I.ob i) (.file []) (w.setCell ⟨I.ob i, 0, none⟩ (.slice none 0 0)) := by
    refine ⟨fun k => ρ k = some (.obj i), ⟨.slice none 0 0, Bu, ⟨World.cell?_setCell_same _ _ _ hF.data, (World.frozen?_setCell _ _ _ _).trans hF.soft, World.ownsRow_nil _ _ _ _, by simp [Value.ownBlock]⟩, by simp [World.setCell]; exact hBu, hOp, fun k e => by cases e⟩, fun _ e => .inl e, (Turned.refl _ _).set (.inl hOp)⟩
  obtain ⟨ρ2, hK2, -, hT2⟩ := HH.out.setOb hi hst (by rw [← KS.obOf_eq hi, ho]; rfl) (by show ([] : List UInt8).length ≤ 1048576; simp)
  have hD := rdesc_any B ρ2 I _ i flags _ hK2 (by rw [setOb_len]; exact hi) k1 (by show K.de.length < 256; omega) hn1 hn
  have HD := hide hD
  have HT2 := hide hT2
  clear hcut HCut t2 t3 hF hBu hOp hOu hst hK2 hT2 hD HO hO
  go_enter Tryz.func48, Tryz.ntmps48
  go_wp2_with fail
  refine HN.out.mono ?_
  rintro e w ⟨rfl, rfl⟩
  go_wp2_with fail
  refine HF.out.mono ?_
  rintro e w ⟨rfl, rfl⟩
  go_wp2_with fail
  refine HT.out.mono ?_
  rintro e w ⟨rfl, rfl⟩
  simp only [Option.map_some]
  go_wp2_with fail
  refine HD.out.mono ?_
  rintro e w4 ⟨rfl, ρ4, I4, hK4, hkb4, -, hT4⟩
  have HE : Hid (RKNum w B I.kb ((K.next : Int), 0, (K.setOb i (.file [])).newDe i flags) (.returned (.tuple #[.int .i64 K.next, .int .i64 0])) w4) := hide ⟨ρ4, I4, rfl, hK4, hkb4, HT2.out.trans hT4 (fun _ _ e => e)⟩
  clear hK4 hkb4 hT4
  go_wp2
  go_ret2
  exact HE.out
theorem rkopen_any (B : Nat → Prop) (ρ : Nat → Option Tag) (I : RI) (K : KS) (s : ByteArray) (flags : Int) (w : World) (h : RK w B ρ I K) (hnm : KNm K) (hs : s.size ≤ maxLen) (hn1 : 1 ≤ K.next) (hn : K.next < 9223372036854775807) :
    Calls Tryz.prog 48 #[.pointer (some ⟨I.kb, 0, none⟩), .string s, .int .i64 flags] w (RKNum w B I.kb (K.open s flags)) := by
  by_cases hno : nameOk s = false ∨ flagsOk flags = false ∨ 256 ≤ K.de.length
  · exact rkopen_no B ρ I K s flags w h hs hno
  · have k0 : nameOk s = true := by simpa using fun e => hno (.inl e)
    have k1 : flagsOk flags = true := by simpa using fun e => hno (.inr (.inl e))
    have k2 : ¬ 256 ≤ K.de.length := fun e => hno (.inr (.inr e))
    cases hby : K.byName s with
    | none => exact rkopen_new B ρ I K s flags w h hnm hs hn1 hn k0 k1 k2 hby
    | some i => exact rkopen_old B ρ I K s flags w h hs hn1 hn k0 k1 k2 hby
end Go.Proofs.YtkkommomefmpgaaGreat

/- The reference's kernel: New. -/
namespace Go.Proofs.YtkkommomefmpgaaGreat
open Go.RowKit

theorem rk_start {W : World} {B : Nat → Prop} {kb pb : Nat} {v : Value} {l : List Fault} (hup : ∀ k, W.heap.size ≤ k → B k) (hB : B pb) (hne : kb ≠ pb) (hkb : B kb) (hk : W.heap[kb]? = some (.cells ([.slice none 0 0, .slice none 0 0, .int .i64 ((1 : Nat) : Int), .pointer (some ⟨pb, 0, none⟩), .int .i64 ((0 : Nat) : Int), .int .i64 ((0 : Nat) : Int)] : List Value).toArray 144 (0, 0)))
    (hp : RPlanAt W pb v l) (hv : ∀ k, v.ownBlock = some k → B k ∧ k < W.heap.size ∧ k ≠ kb) (hl : planOk l) : ∃ ρ, RK W B ρ ⟨kb, .slice none 0 0, .slice none 0 0, pb, v, id, id, id⟩ (KS.nought l) := by
  have hkl : kb < W.heap.size := (Array.getElem?_eq_some_iff.1 hk).1
  have hpl : pb < W.heap.size := World.block_lt_of_cell? W _ hp.left
  refine ⟨fun k => if k = kb then some .kern else if k = pb then some .plan else if v.ownBlock = some k then some .plan else none, fun t => ?_, fun k t e => ?_, ?_, hup⟩
  · cases t with
    | kern => exact ⟨hk, if_pos rfl⟩
    | trow => exact ⟨World.ownsRow_nil _ _ _ _, fun k e => by cases e⟩
    | drow => exact ⟨World.ownsRow_nil _ _ _ _, fun k e => by cases e⟩
    | plan =>
      refine ⟨hp, (if_neg (fun e => hne e.symm)).trans (if_pos rfl), fun k e => ?_⟩
      show (if k = kb then some Tag.kern else if k = pb then some .plan else if v.ownBlock = some k then some .plan else none) = _
      rw [if_neg (hv k e).2.2, if_pos e]
      split <;> rfl
    | thing i => exact fun hi => absurd hi (by show ¬ i < 0; omega)
    | obj i => exact fun hi => absurd hi (by show ¬ i < 0; omega)
    | desc n => exact fun d hd => absurd hd (by show d ∉ ([] : List De); simp)
  · split at e
    · rename_i e1; subst e1; exact ⟨hkb, hkl⟩
    · split at e
      · rename_i e2; subst e2; exact ⟨hB, hpl⟩
      · split at e
        · rename_i e3; exact ⟨(hv k e3).1, (hv k e3).2.1⟩
        · cases e
  · exact ⟨by show 0 ≤ 256; decide, by show 0 ≤ 256; decide, fun d hd => (by cases hd), fun i hi => (by cases hi), fun d hd => (by cases hd), fun d hd => (by cases hd), fun d hd => (by cases hd), fun d hd => (by cases hd), fun d hd => (by cases hd), hl⟩
theorem knm_nought (l : List Fault) : KNm (KS.nought l) := ⟨List.Pairwise.nil, fun i hi => (by cases hi), fun i hi => absurd hi (by show ¬ i < 0; omega), fun i hi => (by cases hi)⟩
theorem radd_named {wr w1 : World} {B : Nat → Prop} {ρ : Nat → Option Tag} {I : RI} {K : KS} (h : RK wr B ρ I K) (hnm : KNm K) (hl : K.nm.length < 256) (t : Th) {ob : Nat} {O : Nat → Prop} (hB1 : Below wr.heap.size wr w1) (hO : RObj w1 O ob t.ob) (hOn : ∀ k, O k → wr.heap.size ≤ k ∧ k < w1.heap.size) (hok : t.ob.ok) {cs : Array Value} (hcs : cs = (tcells t ob).toArray) :
    Calls Tryz.prog 127 #[.pointer (some ⟨I.kb, 0, none⟩), .pointer (some ⟨w1.heap.size, 0, none⟩)] (w1.alloc (Obj.cells cs 223)) fun e w' => e = .returned (.tuple #[]) ∧ ∃ ρ' I', RK w' B ρ' I' (K.addTh t) ∧ I'.kb = I.kb ∧ Turned B wr w' := by
  subst hcs
  have hs1 := hB1.size
  have hB2 := recv_below w1 (Obj.cells (tcells t ob).toArray 223)
  have hn2 := heap_alloc_new w1 (Obj.cells (tcells t ob).toArray 223)
  have hB12 : Below wr.heap.size wr (w1.alloc (Obj.cells (tcells t ob).toArray 223)) := hB1.trans (hB2.mono hs1)
  obtain ⟨ρ2, hK2⟩ := h.more (W' := w1.alloc (Obj.cells (tcells t ob).toArray 223)) t (nb := w1.heap.size) (ob := ob) (O := O) (fun k hk => hB12.block k hk) hB12.size hs1 hn2 (hO.keep (fun k _ hl => hB2.block k hl) hB2.size) (fun k e => by have := hOn k e; omega) hok
  have hth2 : (K.more t).th.length = K.th.length + 1 := by simp [KS.more]
  have hA := radd_any B ρ2 _ _ K.th.length _ hK2 (by rw [hth2]; omega) (more_sorted h.ok hnm _) hl
  simp only [updT_new] at hA
  refine hA.mono ?_
  rintro e w3 ⟨rfl, ρ3, I3, hK3, hkb3, -, -, hT3⟩
  exact ⟨rfl, ρ3, I3, hK3, hkb3, (Turned.of_below hB12).trans hT3 (fun _ _ e => e)⟩
set_option maxRecDepth 100000 in
set_option maxHeartbeats 8000000 in
theorem rknew_any (a1 a2 a3 : Option Addr) (c1 c2 c3 : Nat) (fs : List Nm) (ts : List Tp) (l : List Fault) (w0 w : World) (hB0 : Below w0.heap.size w0 w) (h1 : Nms w0 (.slice a1 fs.length c1) fs) (h2 : Tps w0 (.slice a2 ts.length c2) ts) (h3 : Flts w (.slice a3 l.length c3) l) (hb3 : ∀ k, (Value.slice a3 l.length c3).ownBlock = some k → w0.heap.size ≤ k ∧ k < w.heap.size) (hE : checkE fs ts l = 0) :
    Calls Tryz.prog 44 #[.slice a1 fs.length c1, .slice a2 ts.length c2, .slice a3 l.length c3] w fun e w' => ∃ ρ I, e = .returned (.pointer (some ⟨I.kb, 0, none⟩)) ∧ RK w' (fun k => w0.heap.size ≤ k) ρ I (KS.new fs ts l) ∧ Below w0.heap.size w0 w' := by
  have hEs : ¬ 256 < fs.length + ts.length ∧ (kfiles [] fs).1 = 0 ∧ kterms (kfiles [] fs).2 ts = 0 ∧ (chk l).1 = 0 := by
    unfold checkE at hE
    by_cases e1 : 256 < fs.length + ts.length
    · rw [if_pos e1] at hE; cases hE
    · rw [if_neg e1] at hE
      by_cases e2 : (kfiles [] fs).1 = 0
      · rw [if_pos e2] at hE
        by_cases e3 : kterms (kfiles [] fs).2 ts = 0
        · rw [if_pos e3] at hE; exact ⟨e1, e2, e3, hE⟩
        · rw [if_neg e3] at hE; exact absurd hE e3
      · rw [if_neg e2] at hE; exact absurd hE e2
  obtain ⟨hc, hE1, hE2, hE3⟩ := hEs
  obtain ⟨o1, ho1⟩ : ∃ o1, o1 = Obj.cells #[.slice a3 l.length c3] 149 := ⟨_, rfl⟩
  obtain ⟨o2, ho2⟩ : ∃ o2, o2 = Obj.cells #[.slice none 0 0, .slice none 0 0, .int .i64 1, .pointer (some ⟨w.heap.size, 0, none⟩), .int .i64 0, .int .i64 0] 144 := ⟨_, rfl⟩
  have hs0 := hB0.size
  have hB1 := recv_below w o1
  have hB2 := recv_below (w.alloc o1) o2
  have hs1 : (w.alloc o1).heap.size = w.heap.size + 1 := by simp
  have hs2 : ((w.alloc o1).alloc o2).heap.size = w.heap.size + 2 := by simp
  have hB12 : Below w.heap.size w ((w.alloc o1).alloc o2) := hB1.trans (hB2.mono (by omega))
  have hn1' := heap_alloc_new w o1
  have hn2' := heap_alloc_new (w.alloc o1) o2
  rw [hs1] at hn2'
  have hn1'' : ((w.alloc o1).alloc o2).heap[w.heap.size]? = some o1 := (hB2.block _ (by omega)).trans hn1'
  have hpl : RPlanAt ((w.alloc o1).alloc o2) w.heap.size (.slice a3 l.length c3) l := ⟨by rw [World.cell?, hn1'', ho1]; rfl, by rw [World.frozen?, hn1'', ho1]; rfl, h3.below hB12, fun e => by have := (hb3 _ e).2; omega⟩
  obtain ⟨ρ, hK⟩ := rk_start (W := (w.alloc o1).alloc o2) (B := fun k => w0.heap.size ≤ k) (kb := w.heap.size + 1) (pb := w.heap.size) (fun k e => by omega) (by omega) (by omega) (by omega) (by rw [hn2', ho2]; rfl) hpl (fun k e => by have := hb3 k e; omega) (check_plan hE3)
  have HK0 : Hid (∃ ρ I, RK ((w.alloc o1).alloc o2) (fun k => w0.heap.size ≤ k) ρ I (KS.nought l) ∧ I.kb = w.heap.size + 1) := hide ⟨ρ, _, hK, rfl⟩
  have HB0 : Hid (Below w0.heap.size w0 ((w.alloc o1).alloc o2)) := hide (hB0.trans (hB12.mono hs0))
  have H1 := hide h1
  have H2 := hide h2
  have HKf : Hid ((kfiles [] fs).1 = 0 ∧ kterms (kfiles [] fs).2 ts = 0) := hide ⟨hE1, hE2⟩
  have hfl : fs.length ≤ 256 := by omega
  have htl : ts.length ≤ 256 := by omega
  subst ho1
  subst ho2
  clear h1 h2 h3 hE1 hE2 hE3 hE hB1 hB2 hs1 hs2 hB12 hn1' hn2' hn1'' hpl hK hb3 hB0
  go_enter Tryz.func44, Tryz.ntmps44
  go_wp2_with fail
  generalize hkb : w.heap.size + 1 = kb0 at *
  generalize hw2 : (w.alloc _).alloc _ = w2 at *
  clear hw2 hkb
  go_loopw [8] (fun i wr => ∃ (k : Nat) (K : KS) (ns : List ByteArray), k ≤ fs.length ∧ i = .int .i64 k ∧ Hid (∃ ρ I, RK wr (fun k => w0.heap.size ≤ k) ρ I K ∧ I.kb = kb0) ∧ Hid (KNm K) ∧ Hid (Seen K ns k ∧ (kfiles ns (fs.drop k)).1 = 0 ∧ kterms (kfiles ns (fs.drop k)).2 ts = 0 ∧ K = (fs.take k).foldl addF (KS.nought l)) ∧ Hid (Below w0.heap.size w0 wr)) (fun i _ => fs.length - (intOf i).toNat)
  case atStart => exact ⟨0, KS.nought l, [], Nat.zero_le _, rfl, HK0, hide (knm_nought l), hide ⟨⟨fun i hi => (by cases hi), rfl, rfl, rfl, rfl⟩, HKf.out.1, HKf.out.2, rfl⟩, HB0⟩
  case round =>
    clear HK0 HB0
    obtain ⟨k, K, ns, hk, rfl, HK, HNm, HS, HB⟩ := hrel
    by_cases hlt : k < fs.length
    · obtain ⟨b, off, va, vc, rfl, hbl, q0, q1, hby, -, hnm⟩ := H1.out.at k hlt
      have hc0 := (HB.out.cell (p := ⟨b, off + k * 2, none⟩) hbl).trans q0
      have hc1 := (HB.out.cell (p := ⟨b, off + k * 2 + 1, none⟩) hbl).trans q1
      have hk1 : (0 : Int) ≤ (k : Int) := by omega
      have hk2 : (k : Int) < (fs.length : Int) := by omega
      obtain ⟨hS, hF, hF2, hKe⟩ := HS.out
      rw [drop_at fs k hlt] at hF hF2
      have hKe2 := foldl_take addF (KS.nought l) fs k hlt
      rw [← hKe] at hKe2
      clear q0 q1
      generalize fs[k] = p at hc0 hc1 hnm hF hF2 hby hKe2
      obtain ⟨nm, L⟩ := p
      simp only at hc0 hc1 hnm hby
      rw [kfiles_cons] at hF hF2
      have hg : giveE ns nm = 0 := by
        by_cases hg : giveE ns nm = 0
        · exact hg
        · rw [if_neg hg] at hF; exact absurd hF hg
      rw [if_pos hg] at hF hF2
      have hL : ¬ 1048576 < L.length := fun e => by rw [if_pos e] at hF; cases hF
      rw [if_neg hL] at hF hF2
      obtain ⟨hno, hnn⟩ := giveE_zero hg
      have hnew : ∀ i ∈ K.nm, K.nameOf i ≠ nm := fun i hi e => hnn (e ▸ hS.names i hi)
      have hlenK : K.nm.length < 256 := by have := hS.len; omega
      obtain ⟨ρ, I, hK, hkb⟩ := HK.out
      have HNw := hide (Fi_rnew_good (.slice va L.length vc) L wr (hby.below HB.out) (by omega))
      have HNx : Hid (Seen (addF K (nm, L)) (ns ++ [nm]) (k + 1) ∧ (kfiles (ns ++ [nm]) (fs.drop (k + 1))).1 = 0 ∧ kterms (kfiles (ns ++ [nm]) (fs.drop (k + 1))).2 ts = 0 ∧ addF K (nm, L) = (fs.take (k + 1)).foldl addF (KS.nought l)) := hide ⟨hS.add hK.ok ⟨nm, .file L⟩, hF, hF2, hKe2.symm⟩
      have HNn : Hid (KNm (addF K (nm, L))) := hide (HNm.out.addTh hK.ok ⟨nm, .file L⟩ (.inl rfl) hno hnew)
      have HHh := hide (And.intro hK hkb)
      clear hS hF hF2 hKe hKe2 hg hno hnn hnew HS hby hK hkb
      go_wp2_with fail
      refine HNw.out.mono ?_
      rintro _ w1 ⟨rfl, ⟨u, hF1⟩, hB1⟩
      obtain ⟨hK, rfl⟩ := HHh.out
      have hO1 : RObj w1 (fun k => wr.heap.size ≤ k ∧ k < w1.heap.size) wr.heap.size (.file L) := ⟨u, wr.heap.size + 1, hF1, hF1.lt, ⟨Nat.le_refl _, hF1.lt⟩, fun k e => by have := hF1.row.lt k e; omega⟩
      have HA := hide (radd_named hK HNm.out hlenK ⟨nm, .file L⟩ hB1 hO1 (fun k e => e) (by show L.length ≤ 1048576; omega) (cs := #[.string nm, .int .i64 1, .pointer (some ⟨wr.heap.size, 0, none⟩), .pointer none, .pointer none]) rfl)
      have hc0' := (hB1.cell (p := ⟨b, off + k * 2, none⟩) (Nat.lt_of_lt_of_le hbl HB.out.size)).trans hc0
      clear hO1 hF1 hc0 hc1 hK
      go_wp2_with fail
      refine HA.out.mono ?_
      rintro _ w3 ⟨rfl, ρ3, I3, hK3, hkb3, hT3⟩
      have HK3 : Hid (∃ ρ I', RK w3 (fun k => w0.heap.size ≤ k) ρ I' (addF K (nm, L)) ∧ I'.kb = I.kb) := hide ⟨ρ3, I3, hK3, hkb3⟩
      have HB3 : Hid (Below w0.heap.size w0 w3) := hide (HB.out.trans (hT3.below (fun _ e => e) HB.out.size))
      clear hK3 hkb3 hT3 hc0'
      go_wp2
      go_roundw
      case rel => exact ⟨k + 1, addF K (nm, L), ns ++ [nm], by omega, by go_num, HK3, HNn, HNx, HB3⟩
      case measure => simp [intOf]; omega
    · obtain rfl : k = fs.length := by omega
      obtain ⟨hS, -, hF2, hKe⟩ := HS.out
      rw [List.drop_length] at hF2
      rw [List.take_length] at hKe
      have hF3 : kterms ns ts = 0 := hF2
      have HS2 : Hid (Seen K ns fs.length ∧ kterms ns ts = 0 ∧ K = fs.foldl addF (KS.nought l)) := hide ⟨hS, hF3, hKe⟩
      have hlt' : ¬ (fs.length : Int) < (fs.length : Int) := by omega
      clear HS hS hF2 hF3 hKe
      go_wp2_with fail
      go_loopw [11] (fun i wq => ∃ (k2 : Nat) (K2 : KS) (ms : List ByteArray), k2 ≤ ts.length ∧ i = .int .i64 k2 ∧ Hid (∃ ρ I, RK wq (fun k => w0.heap.size ≤ k) ρ I K2 ∧ I.kb = kb0) ∧ Hid (KNm K2) ∧ Hid (Seen K2 ms (fs.length + k2) ∧ kterms ms (ts.drop k2) = 0 ∧ K2 = (ts.take k2).foldl addT (fs.foldl addF (KS.nought l))) ∧ Hid (Below w0.heap.size w0 wq)) (fun i _ => ts.length - (intOf i).toNat)
      case atStart => exact ⟨0, K, ns, Nat.zero_le _, rfl, HK, HNm, hide ⟨HS2.out.1, HS2.out.2.1, HS2.out.2.2⟩, HB⟩
      case round =>
        clear HK HNm HB HS2
        obtain ⟨k, K, ms, hk, rfl, HK, HNm, HS, HB⟩ := hrel
        by_cases hlt2 : k < ts.length
        · obtain ⟨b, off, va, vc, rfl, hbl, q0, q1, hby, hnm⟩ := H2.out.at k hlt2
          have hc0 := (HB.out.cell (p := ⟨b, off + k * 2, none⟩) hbl).trans q0
          have hc1 := (HB.out.cell (p := ⟨b, off + k * 2 + 1, none⟩) hbl).trans q1
          have hk1 : (0 : Int) ≤ (k : Int) := by omega
          have hk2 : (k : Int) < (ts.length : Int) := by omega
          obtain ⟨hS, hF, hKe⟩ := HS.out
          rw [drop_at ts k hlt2] at hF
          have hKe2 := foldl_take addT (fs.foldl addF (KS.nought l)) ts k hlt2
          rw [← hKe] at hKe2
          clear q0 q1
          generalize ts[k] = pp at hc0 hc1 hnm hF hby hKe2
          obtain ⟨nm, ls⟩ := pp
          simp only at hc0 hc1 hnm hby
          rw [kterms_cons] at hF
          have hg : giveE ms nm = 0 := by
            by_cases hg : giveE ms nm = 0
            · exact hg
            · rw [if_neg hg] at hF; exact absurd hF hg
          rw [if_pos hg] at hF
          have hL : newE ls = 0 := by
            by_cases e : newE ls = 0
            · exact e
            · rw [if_neg e] at hF; exact absurd hF e
          rw [if_pos hL] at hF
          obtain ⟨hno, hnn⟩ := giveE_zero hg
          have hnew : ∀ i ∈ K.nm, K.nameOf i ≠ nm := fun i hi e => hnn (e ▸ hS.names i hi)
          have hlenK : K.nm.length < 256 := by have := hS.len; omega
          have hlok := newE_small hL
          obtain ⟨ρ, I, hK, hkb⟩ := HK.out
          have HNw := hide (Te_rnew_good (.slice va ls.length vc) ls wr (hby.below HB.out) (by have := hlok.1; omega) hL)
          have HNx : Hid (Seen (addT K (nm, ls)) (ms ++ [nm]) (fs.length + (k + 1)) ∧ kterms (ms ++ [nm]) (ts.drop (k + 1)) = 0 ∧ addT K (nm, ls) = (ts.take (k + 1)).foldl addT (fs.foldl addF (KS.nought l))) := hide ⟨hS.add hK.ok ⟨nm, .term ls []⟩, hF, hKe2.symm⟩
          have HNn : Hid (KNm (addT K (nm, ls))) := hide (HNm.out.addTh hK.ok ⟨nm, .term ls []⟩ (.inr rfl) hno hnew)
          have HHh := hide (And.intro hK hkb)
          clear hS hF hKe hKe2 hg hno hnn hnew HS hby hK hkb
          go_wp2_with fail
          refine HNw.out.mono ?_
          rintro _ w1 ⟨rfl, ⟨ta, tc, hT1⟩, hB1⟩
          obtain ⟨hK, rfl⟩ := HHh.out
          have hO1 : RObj w1 (fun k => wr.heap.size ≤ k ∧ k < w1.heap.size) wr.heap.size (.term ls []) := ⟨ta, tc, _, _, _, hT1, fun k e => e⟩
          have HA := hide (radd_named hK HNm.out hlenK ⟨nm, .term ls []⟩ hB1 hO1 (fun k e => e) ⟨hlok.1, hlok.2, by simp⟩ (cs := #[.string nm, .int .i64 2, .pointer none, .pointer (some ⟨wr.heap.size, 0, none⟩), .pointer none]) rfl)
          have hc0' := (hB1.cell (p := ⟨b, off + k * 2, none⟩) (Nat.lt_of_lt_of_le hbl HB.out.size)).trans hc0
          clear hO1 hT1 hc0 hc1 hK
          go_wp2_with fail
          refine HA.out.mono ?_
          rintro _ w3 ⟨rfl, ρ3, I3, hK3, hkb3, hT3⟩
          have HK3 : Hid (∃ ρ I', RK w3 (fun k => w0.heap.size ≤ k) ρ I' (addT K (nm, ls)) ∧ I'.kb = I.kb) := hide ⟨ρ3, I3, hK3, hkb3⟩
          have HB3 : Hid (Below w0.heap.size w0 w3) := hide (HB.out.trans (hT3.below (fun _ e => e) HB.out.size))
          clear hK3 hkb3 hT3 hc0'
          go_wp2
          go_roundw
          case rel => exact ⟨k + 1, addT K (nm, ls), ms ++ [nm], by omega, by go_num, HK3, HNn, HNx, HB3⟩
          case measure => simp [intOf]; omega
        · obtain rfl : k = ts.length := by omega
          obtain ⟨-, -, hKe⟩ := HS.out
          rw [List.take_length] at hKe
          have HKe : Hid (K = KS.new fs ts l) := hide hKe
          have hlt' : ¬ (ts.length : Int) < (ts.length : Int) := by omega
          clear HS hKe
          go_wp2
          go_ret
          obtain ⟨ρ, I, hK, rfl⟩ := HK.out
          rw [HKe.out] at hK
          exact ⟨ρ, I, rfl, hK, HB.out⟩
end Go.Proofs.YtkkommomefmpgaaGreat

/- Bytes that came in as an argument: what a walk is told of them. -/
namespace Go.Proofs.YtkkommomefmpgaaGreat
open Go.ChangeShapes Go.WideShapes Go.ChangeAt Go.RowKit

end Go.Proofs.YtkkommomefmpgaaGreat

/- Bytes, and steps, that came in as an argument: what a walk is told of them. -/
namespace Go.Proofs.YtkkommomefmpgaaGreat
open Go.ChangeShapes Go.WideShapes Go.ChangeAt Go.RowKit Go.Deep

theorem Kp_bys_len {W : World} {a : Option Addr} {n c : Nat} {l : List UInt8} (h : Bys W (.slice a n c) l) : n = l.length := by
  obtain ⟨a', c', he, _⟩ := bys_form h
  cases he
  rfl
theorem bytes_arg2 {H : Type} {enc : TypeId × Value → H} {P : Program} {W : World} {base : Nat} {a : Option Addr} {len cap fuel t e : Nat} {d : DataW H} {p : List MemPlace}
    (ht : P.underlying t = some (.slice e)) (he : P.underlying e = some (.int .u8)) (hc : P.cellsOf e = 1)
    (hf : DataW.trod enc P W base (fun _ => true) true fuel t (Value.slice a len cap).cells.toList = some (d, p)) :
    ∃ l : List UInt8, Bys W (.slice a len cap) l ∧ l.length ≤ cap ∧ ((d = .nil ∧ l = []) ∨ ∃ elems spare : List (DataW H), d = .slice elems spare ∧ l.length = elems.length) := by
  rcases open_ints ht he hc hf with ⟨hcs, hd⟩ | ⟨x, n, c, zs, hcs, _, hl, hm, hz, hx, hcell, hwz⟩
  · simp [Value.cells] at hcs
    obtain ⟨rfl, rfl, rfl⟩ := hcs
    exact ⟨[], .inl ⟨rfl, rfl⟩, by simp, .inl ⟨(Prod.mk.inj hd).1, rfl⟩⟩
  · simp [Value.cells] at hcs
    obtain ⟨rfl, rfl, rfl⟩ := hcs
    simp only [if_true] at hz
    have hlen : ((zs.take len).map fun n => UInt8.ofNat n.toNat).length = len := by rw [List.length_map, List.length_take]; omega
    refine ⟨(zs.take len).map fun n => UInt8.ofNat n.toNat, ?_, by rw [hlen]; exact hl, .inr ⟨_, _, (Prod.mk.inj hx).1, by simp [lits]⟩⟩
    by_cases h0 : len = 0
    · subst h0
      exact .inr (.inl ⟨x, cap, rfl, by simp⟩)
    · obtain ⟨b, off, spot⟩ := x
      have hspot : spot = none := by simpa [Addr.add] using World.cell?_spot (hcell 0 (by omega))
      subst hspot
      refine .inr (.inr ⟨b, off, cap, by rw [hlen], by rw [hlen]; omega, fun j hj => ?_⟩)
      rw [hlen] at hj
      have h1 := hcell j (by omega)
      have hadd : (⟨b, off, none⟩ : Addr).add j = ⟨b, off + j, none⟩ := by unfold Addr.add; split <;> simp_all
      rw [hadd] at h1
      rw [h1]
      have hjz : j < zs.length := by omega
      have hb := bounds_u8 (hwz zs[j] (List.getElem_mem hjz))
      simp only [List.getD_eq_getElem?_getD, List.getElem?_map, List.getElem?_take, if_pos hj, List.getElem?_eq_getElem hjz, Option.map_some, Option.getD_some]
      rw [UInt8.toNat_ofNat_of_lt' (by show _ < 256; omega), Int.toNat_of_nonneg hb.1]



def Kp_DataOf {H : Type} (d : DataW H) (x : List UInt8) : Prop := (d = .nil ∧ x = []) ∨ ∃ elems spare : List (DataW H), d = .slice elems spare ∧ x.length = elems.length

theorem Kp_weightsAll_mem {H : Type} {P : Program} {e : TypeId} : ∀ {l : List (DataW H)} {d : DataW H}, d ∈ l → ∀ n ∈ d.weights P e, n ∈ DataW.weightsAll P e l
  | d' :: r, d, hd, n, hn => by
    simp only [DataW.weightsAll, List.mem_append]
    rcases List.mem_cons.1 hd with rfl | h
    · exact Or.inl hn
    · exact Or.inr (Kp_weightsAll_mem h n hn)
end Go.Proofs.YtkkommomefmpgaaGreat

/- Lines, and steps, that came in as an argument: what a walk is told of them. -/
namespace Go.Proofs.YtkkommomefmpgaaGreat
open Go.ChangeShapes Go.WideShapes Go.ChangeAt Go.RowKit Go.Deep

end Go.Proofs.YtkkommomefmpgaaGreat

/- Faults, and ints, that came in as an argument: what a walk is told of them. -/
namespace Go.Proofs.YtkkommomefmpgaaGreat
open Go.ChangeShapes Go.WideShapes Go.ChangeAt Go.RowKit Go.Deep

end Go.Proofs.YtkkommomefmpgaaGreat

/- Files, terminals, steps and setups that came in as an argument: what a walk is told of them, and their sizes. -/
namespace Go.Proofs.YtkkommomefmpgaaGreat
open Go.ChangeShapes Go.WideShapes Go.ChangeAt Go.RowKit Go.Deep

end Go.Proofs.YtkkommomefmpgaaGreat

/- A law's setup, copied for the program; how far a kernel's numbers go up by a call. -/
namespace Go.Proofs.YtkkommomefmpgaaGreat
open Go.RowKit Go.Maps

theorem new_nums (fs : List Nm) (ts : List Tp) (l : List Fault) : (KS.new fs ts l).next = 1 ∧ (KS.new fs ts l).reads = 0 ∧ (KS.new fs ts l).writes = 0 := by
  unfold KS.new
  have h1 : ∀ (fs : List Nm) (K : KS), (fs.foldl (fun K f => K.addTh ⟨f.1, .file f.2⟩) K).next = K.next ∧ (fs.foldl (fun K f => K.addTh ⟨f.1, .file f.2⟩) K).reads = K.reads ∧ (fs.foldl (fun K f => K.addTh ⟨f.1, .file f.2⟩) K).writes = K.writes := by
    intro fs
    induction fs with
    | nil => exact fun K => ⟨rfl, rfl, rfl⟩
    | cons f r ih => exact fun K => ih (K.addTh ⟨f.1, .file f.2⟩)
  have h2 : ∀ (ts : List Tp) (K : KS), (ts.foldl (fun K t => K.addTh ⟨t.1, .term t.2 []⟩) K).next = K.next ∧ (ts.foldl (fun K t => K.addTh ⟨t.1, .term t.2 []⟩) K).reads = K.reads ∧ (ts.foldl (fun K t => K.addTh ⟨t.1, .term t.2 []⟩) K).writes = K.writes := by
    intro ts
    induction ts with
    | nil => exact fun K => ⟨rfl, rfl, rfl⟩
    | cons f r ih => exact fun K => ih (K.addTh ⟨f.1, .term f.2 []⟩)
  obtain ⟨a1, a2, a3⟩ := h2 ts (fs.foldl (fun K f => K.addTh ⟨f.1, .file f.2⟩) (KS.nought l))
  obtain ⟨b1, b2, b3⟩ := h1 fs (KS.nought l)
  exact ⟨a1.trans b1, a2.trans b2, a3.trans b3⟩

end Go.Proofs.YtkkommomefmpgaaGreat

/- Contracts of Go's library on the keys of a map, sorted, at this dump, laid by the kit's own command. -/
namespace Go.Proofs
open Go.RowKit Go.Maps Go.Sort Go.Shelf
def Tryz.keys119_ren : Go.Shelf.Ren := ⟨fun | 7 => 119 | 10 => 194 | n => n, fun | 23 => 91 | 26 => 9 | 3 => 97 | 28 => 203 | 0 => 0 | 27 => 202 | 33 => 110 | 4 => 4 | n => n, fun | n => n⟩
theorem Tryz.keys119 : Go.Proofs.SlLaysZ.n7 Tryz.prog Tryz.keys119_ren := {
  mixed := by kernel_rfl
  f7 := ⟨Tryz.f119.name, by decide, Tryz.func119.trans (congrArg some (by kernel_rfl))⟩
  f10 := ⟨Tryz.f194.name, by decide, Tryz.func194.trans (congrArg some (by kernel_rfl))⟩
  t0 := Tryz.underlying0
  a0 := Tryz.isAgg0
  z0 := Tryz.sizeOf0
  v0 := Tryz.zeroValue0
  t4 := Tryz.underlying4
  a4 := Tryz.isAgg4
  z4 := Tryz.sizeOf4
  v4 := Tryz.zeroValue4
  t23 := Tryz.underlying91
  a23 := Tryz.isAgg91
  z23 := Tryz.sizeOf91
  v23 := Tryz.zeroValue91
  t26 := Tryz.underlying9
  a26 := Tryz.isAgg9
  z26 := Tryz.sizeOf9
  v26 := Tryz.zeroValue9
  t27 := Tryz.underlying202
  a27 := Tryz.isAgg202
  z27 := Tryz.sizeOf202
  v27 := Tryz.zeroValue202
  t28 := Tryz.underlying203
  a28 := Tryz.isAgg203
  z28 := Tryz.sizeOf203
  v28 := Tryz.zeroValue203
  t33 := Tryz.underlying110
  a33 := Tryz.isAgg110
  z33 := Tryz.sizeOf110
  v33 := Tryz.zeroValue110 }
def Tryz.sorted118_ren : Go.Shelf.Ren := ⟨fun | 6 => 118 | 8 => 192 | 9 => 193 | 11 => 217 | 13 => 219 | 12 => 218 | 23 => 250 | 24 => 251 | 14 => 241 | 15 => 242 | 16 => 243 | 17 => 244 | 18 => 245 | 19 => 246 | 20 => 247 | 21 => 248 | 22 => 249 | 25 => 253 | 26 => 254 | 27 => 255 | 28 => 256 | 29 => 257 | 30 => 258 | 31 => 259 | n => n, fun | 26 => 9 | 28 => 203 | 24 => 109 | 0 => 0 | 3 => 3 | 37 => 341 | 48 => 355 | 50 => 357 | 4 => 4 | 40 => 348 | 39 => 347 | 45 => 267 | 5 => 5 | 9 => 9 | 51 => 359 | 55 => 318 | 57 => 364 | 58 => 113 | 33 => 110 | n => n, fun | n => n⟩
theorem Tryz.sorted118 : Go.Proofs.SlLaysZ.n6 Tryz.prog Tryz.sorted118_ren := {
  mixed := by kernel_rfl
  f6 := ⟨Tryz.f118.name, by decide, Tryz.func118.trans (congrArg some (by kernel_rfl))⟩
  f8 := ⟨Tryz.f192.name, by decide, Tryz.func192.trans (congrArg some (by kernel_rfl))⟩
  f11 := ⟨Tryz.f217.name, by decide, Tryz.func217.trans (congrArg some (by kernel_rfl))⟩
  t0 := Tryz.underlying0
  a0 := Tryz.isAgg0
  z0 := Tryz.sizeOf0
  v0 := Tryz.zeroValue0
  t24 := Tryz.underlying109
  a24 := Tryz.isAgg109
  z24 := Tryz.sizeOf109
  v24 := Tryz.zeroValue109
  t26 := Tryz.underlying9
  a26 := Tryz.isAgg9
  z26 := Tryz.sizeOf9
  v26 := Tryz.zeroValue9
  t28 := Tryz.underlying203
  a28 := Tryz.isAgg203
  z28 := Tryz.sizeOf203
  v28 := Tryz.zeroValue203
  i26 := by kernel_rfl }
def Tryz.sort193_ren : Go.Shelf.Ren := ⟨fun | 6 => 193 | 8 => 219 | 9 => 218 | 19 => 250 | 20 => 251 | 21 => 241 | 22 => 242 | 23 => 243 | 24 => 244 | 25 => 245 | 26 => 246 | 27 => 247 | 28 => 248 | 29 => 249 | 36 => 253 | 31 => 254 | 32 => 255 | 37 => 256 | 38 => 257 | 39 => 258 | 41 => 259 | n => n, fun | 27 => 109 | 29 => 9 | 3 => 3 | 32 => 341 | 26 => 109 | 0 => 0 | 44 => 355 | 46 => 357 | 4 => 4 | 36 => 348 | 35 => 347 | 41 => 267 | 5 => 5 | 9 => 9 | 53 => 359 | 57 => 318 | 63 => 364 | 64 => 113 | n => n, fun | n => n⟩
theorem Tryz.sort193 : Go.Proofs.SlLaysM.n6 Tryz.prog Tryz.sort193_ren := {
  mixed := by kernel_rfl
  f6 := ⟨Tryz.f193.name, by decide, Tryz.func193.trans (congrArg some (by kernel_rfl))⟩
  f8 := Tryz.func219.trans (congrArg some (by kernel_rfl))
  f9 := ⟨Tryz.f218.name, by decide, Tryz.func218.trans (congrArg some (by kernel_rfl))⟩
  f19 := Tryz.func250.trans (congrArg some (by kernel_rfl))
  f20 := Tryz.func251.trans (congrArg some (by kernel_rfl))
  f21 := ⟨Tryz.f241.name, by decide, Tryz.func241.trans (congrArg some (by kernel_rfl))⟩
  f22 := ⟨Tryz.f242.name, by decide, Tryz.func242.trans (congrArg some (by kernel_rfl))⟩
  f23 := ⟨Tryz.f243.name, by decide, Tryz.func243.trans (congrArg some (by kernel_rfl))⟩
  f24 := ⟨Tryz.f244.name, by decide, Tryz.func244.trans (congrArg some (by kernel_rfl))⟩
  f25 := ⟨Tryz.f245.name, by decide, Tryz.func245.trans (congrArg some (by kernel_rfl))⟩
  f26 := ⟨Tryz.f246.name, by decide, Tryz.func246.trans (congrArg some (by kernel_rfl))⟩
  f27 := ⟨Tryz.f247.name, by decide, Tryz.func247.trans (congrArg some (by kernel_rfl))⟩
  f28 := ⟨Tryz.f248.name, by decide, Tryz.func248.trans (congrArg some (by kernel_rfl))⟩
  f29 := ⟨Tryz.f249.name, by decide, Tryz.func249.trans (congrArg some (by kernel_rfl))⟩
  f31 := Tryz.func254.trans (congrArg some (by kernel_rfl))
  f32 := Tryz.func255.trans (congrArg some (by kernel_rfl))
  f36 := ⟨Tryz.f253.name, by decide, Tryz.func253.trans (congrArg some (by kernel_rfl))⟩
  f37 := ⟨Tryz.f256.name, by decide, Tryz.func256.trans (congrArg some (by kernel_rfl))⟩
  f38 := ⟨Tryz.f257.name, by decide, Tryz.func257.trans (congrArg some (by kernel_rfl))⟩
  f39 := ⟨Tryz.f258.name, by decide, Tryz.func258.trans (congrArg some (by kernel_rfl))⟩
  f41 := ⟨Tryz.f259.name, by decide, Tryz.func259.trans (congrArg some (by kernel_rfl))⟩
  t0 := Tryz.underlying0
  a0 := Tryz.isAgg0
  z0 := Tryz.sizeOf0
  v0 := Tryz.zeroValue0
  t3 := Tryz.underlying3
  a3 := Tryz.isAgg3
  z3 := Tryz.sizeOf3
  v3 := Tryz.zeroValue3
  t4 := Tryz.underlying4
  a4 := Tryz.isAgg4
  z4 := Tryz.sizeOf4
  v4 := Tryz.zeroValue4
  t5 := Tryz.underlying5
  a5 := Tryz.isAgg5
  z5 := Tryz.sizeOf5
  v5 := Tryz.zeroValue5
  t9 := Tryz.underlying9
  a9 := Tryz.isAgg9
  z9 := Tryz.sizeOf9
  v9 := Tryz.zeroValue9
  t26 := Tryz.underlying109
  a26 := Tryz.isAgg109
  z26 := Tryz.sizeOf109
  v26 := Tryz.zeroValue109
  t27 := Tryz.underlying109
  a27 := Tryz.isAgg109
  z27 := Tryz.sizeOf109
  v27 := Tryz.zeroValue109
  t29 := Tryz.underlying9
  a29 := Tryz.isAgg9
  z29 := Tryz.sizeOf9
  v29 := Tryz.zeroValue9
  t32 := Tryz.underlying341
  a32 := Tryz.isAgg341
  z32 := Tryz.sizeOf341
  v32 := Tryz.zeroValue341
  t35 := Tryz.underlying347
  a35 := Tryz.isAgg347
  z35 := Tryz.sizeOf347
  v35 := Tryz.zeroValue347
  t36 := Tryz.underlying348
  a36 := Tryz.isAgg348
  z36 := Tryz.sizeOf348
  v36 := Tryz.zeroValue348
  t41 := Tryz.underlying267
  a41 := Tryz.isAgg267
  z41 := Tryz.sizeOf267
  v41 := Tryz.zeroValue267
  t44 := Tryz.underlying355
  a44 := Tryz.isAgg355
  z44 := Tryz.sizeOf355
  v44 := Tryz.zeroValue355
  t46 := Tryz.underlying357
  a46 := Tryz.isAgg357
  z46 := Tryz.sizeOf357
  v46 := Tryz.zeroValue357
  t53 := Tryz.underlying359
  a53 := Tryz.isAgg359
  z53 := Tryz.sizeOf359
  v53 := Tryz.zeroValue359
  t57 := Tryz.underlying318
  a57 := Tryz.isAgg318
  z57 := Tryz.sizeOf318
  v57 := Tryz.zeroValue318
  t63 := Tryz.underlying364
  a63 := Tryz.isAgg364
  z63 := Tryz.sizeOf364
  v63 := Tryz.zeroValue364
  t64 := Tryz.underlying113
  a64 := Tryz.isAgg113
  z64 := Tryz.sizeOf113
  v64 := Tryz.zeroValue113 }

theorem Tryz.sorts118 (m : Nat) : AnyZ.SortsIn Tryz.prog Tryz.sorted118_ren Fence.wide m :=
  ⟨fun blk off cap ss W hH hblk hsz => callsIn_wide.2 (AnyM.slices_Sort_string Tryz.sort193 blk off cap ss W hH hblk hsz),
   fun p cap W => callsIn_wide.2 (AnyM.slices_Sort_string_none Tryz.sort193 p cap W)⟩
theorem Tryz.maps_Keys_119 (mb : Option Nat) (W : World) : CallsIn Fence.wide 5 Tryz.prog 119 #[.map mb] W fun e w' => e = .returned (.func (.func 194) #[] #[.pointer (some ⟨W.heap.size, 0, none⟩)]) ∧ w' = W.alloc (.cells #[.map mb] 91) :=
  AnyZ.keys_in Tryz.keys119 Fence.wide 5 trivial rfl mb W
set_option maxHeartbeats 1000000 in
theorem Tryz.slices_Sorted_keys_118_119 {H : Type} (b nn : Nat) (D0 : DataW H) (R : Value → Option (DataW H × List MemPlace)) (w : World) (hown : w.ownsMap Tryz.prog 9 R b nn D0) (hmax : Maps.size D0 ≤ maxLen) (hbytes : Maps.size D0 * 16 ≤ 140737488355328) :
    CallsIn Fence.wide 5 Tryz.prog 118 #[.func (.func 194) #[] #[.pointer (some ⟨w.heap.size, 0, none⟩)]] (w.alloc (.cells #[.map (some b)] 91)) fun e w' => ∃ (v : Value) (ss : List (List UInt8)), e = .returned v ∧ ss.Perm (strKeys D0) ∧
      w'.ownsRow (w.alloc (.cells #[.map (some b)] 91)).heap.size 9 1 v ss.length ((ss.mergeSort (fun x y => decide (x ≤ y))).map encStr) ∧ (v = .slice none 0 0 ↔ ss = []) ∧ Below (w.alloc (.cells #[.map (some b)] 91)).heap.size (w.alloc (.cells #[.map (some b)] 91)) w' := by
  have hbl := hown.lt
  have hseq : SeqGives Fence.wide 2 Tryz.prog 194 #[.pointer (some ⟨w.heap.size, 0, none⟩)] encStr (fun ss => ss.Perm (strKeys D0)) (Maps.size D0) (w.alloc (.cells #[.map (some b)] 91)) :=
    AnyZ.keys_gives (ρ := Tryz.keys119_ren) { Tryz.keys119 with } Fence.wide _ trivial rfl (by omega) w.heap.size b nn D0 _ (by simp) (by simp) (by
      obtain ⟨es, clock, hb, Ft, hs, hD⟩ := hown
      exact ⟨es, clock, (Below.heap_alloc _ _ b hbl).trans hb, Ft, hs, hD⟩)
  exact AnyZ.sorted_in Tryz.sorted118 Fence.wide 5 trivial trivial trivial trivial rfl (by omega) (Tryz.sorts118 _) (enters_of Tryz.func193 (by kernel_rfl) rfl) 194 #[.pointer (some ⟨w.heap.size, 0, none⟩)] trivial (enters_of Tryz.func194 (by kernel_rfl) rfl) _ _ hmax hbytes _ hseq
set_option maxHeartbeats 1000000 in
theorem Tryz.slices_Sorted_keys_nil_118_119 (w : World) :
    CallsIn Fence.wide 5 Tryz.prog 118 #[.func (.func 194) #[] #[.pointer (some ⟨w.heap.size, 0, none⟩)]] (w.alloc (.cells #[.map none] 91)) fun e w' => ∃ (v : Value) (ss : List (List UInt8)), e = .returned v ∧ ss = [] ∧
      w'.ownsRow (w.alloc (.cells #[.map none] 91)).heap.size 9 1 v ss.length ((ss.mergeSort (fun x y => decide (x ≤ y))).map encStr) ∧ (v = .slice none 0 0 ↔ ss = []) ∧ Below (w.alloc (.cells #[.map none] 91)).heap.size (w.alloc (.cells #[.map none] 91)) w' := by
  have hseq : SeqGives Fence.wide 2 Tryz.prog 194 #[.pointer (some ⟨w.heap.size, 0, none⟩)] encStr (fun ss : List (List UInt8) => ss = []) 0 (w.alloc (.cells #[.map none] 91)) :=
    AnyZ.keys_gives_nil (ρ := Tryz.keys119_ren) { Tryz.keys119 with } Fence.wide _ trivial rfl w.heap.size _ (by simp) (by simp)
  exact AnyZ.sorted_in Tryz.sorted118 Fence.wide 5 trivial trivial trivial trivial rfl (by omega) (Tryz.sorts118 _) (enters_of Tryz.func193 (by kernel_rfl) rfl) 194 #[.pointer (some ⟨w.heap.size, 0, none⟩)] trivial (enters_of Tryz.func194 (by kernel_rfl) rfl) _ 0 (Nat.zero_le _) (by omega) _ hseq
end Go.Proofs

/- Files: all files by name. -/
namespace Go.Proofs.YtkkommomefmpgaaGreat
open Go.RowKit Go.Maps

def Ob.bytes : Ob → List UInt8
  | .file b => b
  | _ => []
def KS.files (K : KS) : List Nm := K.fidx.map fun i => (K.nameOf i, (K.obOf i).bytes)
def fnames (K : KS) : List (List UInt8) := K.fidx.map fun i => (K.nameOf i).data.toList
theorem fnames_sorted {K : KS} (h : KNm K) : (fnames K).Pairwise (fun a b => leB a b = true) := by
  unfold fnames KS.fidx
  refine List.pairwise_map.2 ?_
  refine ((h.sorted.filter _).imp fun {a b} hab => ?_)
  exact decide_eq_true (List.le_of_lt hab)
theorem keys_are {K : KS} (h : KNm K) {ss : List (List UInt8)} (hp : ss.Perm (fnames K)) : ss.mergeSort (fun x y => decide (x ≤ y)) = fnames K := by
  show ss.mergeSort leB = _
  rw [mergeSort_of_perm hp]
  exact List.mergeSort_of_pairwise (fnames_sorted h)
theorem fl_strs (K : KS) (I : PI) : ((K.fl I).map fun p => strOf p.1) = fnames K := by
  unfold KS.fl fnames
  rw [List.map_map]
  rfl
theorem sorted_any {w : World} {ρ : Nat → Option PTag} {I : PI} {K : KS} (h : PK w ρ I K) :
    Calls Tryz.prog 118 #[.func (.func 194) #[] #[.pointer (some ⟨w.heap.size, 0, none⟩)]] (w.alloc (.cells #[.map (some I.fm)] 91)) fun e w' => ∃ v, e = .returned v ∧ w'.ownsRow (w.alloc (.cells #[.map (some I.fm)] 91)).heap.size 9 1 v (fnames K).length ((fnames K).map encStr) ∧ Below (w.alloc (.cells #[.map (some I.fm)] 91)).heap.size (w.alloc (.cells #[.map (some I.fm)] 91)) w' := by
  obtain ⟨D, h1, h2, h3⟩ := (h.comp .fmap).1.keys skeyed Tryz.underlying9
  have hfew : (K.fl I).length ≤ 256 := by
    have := h.ok.named
    have h4 : (K.fl I).length ≤ K.nm.length := by unfold KS.fl KS.fidx; simpa using List.length_filter_le _ _
    omega
  rw [fl_strs] at h3
  refine (callsIn_wide.1 (Tryz.slices_Sorted_keys_118_119 I.fm _ D ptrElem w h1 (by unfold maxLen; omega) (by omega))).mono ?_
  rintro e w' ⟨v, ss, rfl, hS, hrow, -, hb⟩
  have hp := hS.trans h3
  rw [keys_are h.nm hp, hp.length_eq] at hrow
  exact ⟨v, rfl, hrow, hb⟩
theorem kbytes_any (O : Nat → Prop) (p : Nat) (b : List UInt8) (w : World) (h : PObj w O p (.file b)) :
    Calls Tryz.prog 120 #[.pointer (some ⟨p, 0, none⟩)] w fun e w' => ∃ v, e = .returned v ∧ w'.ownsRow w.heap.size 5 1 v b.length (b.map bv) ∧ Below w.heap.size w w' :=
  (po_fbytes O p b w h).mono fun _ _ ⟨a, b, c⟩ => ⟨_, a, b, c⟩
theorem name_few {s : ByteArray} (h : nameOk s = true) : s.size ≤ 64 := by
  unfold nameOk at h
  simp only [Bool.and_eq_true, decide_eq_true_eq] at h
  exact h.2.1
theorem file_at {K : KS} (h : KOk K) {k : Nat} (hk : k < (fnames K).length) : ∃ i L, i ∈ K.nm ∧ i < K.th.length ∧ K.obOf i = .file L ∧ (fnames K)[k]? = some (K.nameOf i).data.toList ∧ K.files[k]? = some (K.nameOf i, L) := by
  have hk' : k < K.fidx.length := by simpa [fnames] using hk
  have hm := List.mem_filter.1 (List.getElem_mem hk')
  have hkind : (K.obOf K.fidx[k]).kind = 1 := by simpa using hm.2
  cases ho : K.obOf K.fidx[k] with
  | file L =>
    refine ⟨K.fidx[k], L, hm.1, h.nm _ hm.1, ho, ?_, ?_⟩
    · simp [fnames, hk']
    · simp [KS.files, hk', ho, Ob.bytes]
  | term ls scr => rw [ho] at hkind; cases hkind
  | pipe q rd wt => rw [ho] at hkind; cases hkind
theorem names_cell {W : World} {va : Option Addr} {vc N k : Nat} {ns : List (List UInt8)} {s : ByteArray} (h : W.ownsRow 0 9 1 (.slice va N vc) N (ns.map encStr)) (hk : k < N) (hs : ns[k]? = some s.data.toList) : ∃ vb, va = some ⟨vb, 0, none⟩ ∧ W.cell? ⟨vb, k, none⟩ = some (.string s) := by
  have hx := h
  rcases h.2 with ⟨e, _⟩ | ⟨g, cap, cur, e, _⟩
  · simp only [Value.slice.injEq] at e; omega
  · simp only [Value.slice.injEq] at e
    obtain ⟨rfl, _, rfl⟩ := e
    refine ⟨g, rfl, ?_⟩
    rw [hx.cellAt k (by omega), List.getElem?_map, hs]
    simp [encStr]
theorem kkeys_any (mb : Option Nat) (W : World) : Calls Tryz.prog 119 #[.map mb] W fun e w' => e = .returned (.func (.func 194) #[] #[.pointer (some ⟨W.heap.size, 0, none⟩)]) ∧ w' = W.alloc (.cells #[.map mb] 91) := callsIn_wide.1 (Tryz.maps_Keys_119 mb W)
set_option maxRecDepth 100000 in
set_option maxHeartbeats 4000000 in
theorem kfiles_any (ρ : Nat → Option PTag) (I : PI) (K : KS) (w : World) (h : PK w ρ I K) :
    Calls Tryz.prog 32 #[.pointer (some ⟨I.kb, 0, none⟩)] w fun e w' => ∃ v us, e = .returned v ∧ w'.ownsRow w.heap.size 86 2 v K.files.length (ncs K.files us) ∧ LCells w' w.heap.size (K.files.map Prod.snd) us ∧ Below w.heap.size w w' := by
  have H := hide h
  have c0 := h.cells.made
  have c1 := h.cells.files
  have sl := (h.comp .fmap).1.len Tryz.underlying91
  have hflen : (K.fl I).length = (fnames K).length := by simp [KS.fl, fnames]
  obtain ⟨N, hN⟩ : ∃ N, N = (fnames K).length := ⟨_, rfl⟩
  rw [hflen, ← hN] at sl
  have HN := hide hN
  have HN9 : Hid (N ≤ 256) := hide (by
    have := h.ok.named
    have h4 : (K.fl I).length ≤ K.nm.length := by unfold KS.fl KS.fidx; simpa using List.length_filter_le _ _
    omega)
  obtain ⟨i0, hi, hz0, hz1, hz2⟩ := info_parts Tryz.infoN
  clear h hflen hN
  go_enter Tryz.func32, Tryz.ntmps32
  go_wp2_with fail
  refine (kmade_any I.kb w c0).mono ?_
  rintro e w1 ⟨rfl, rfl⟩
  go_wp2_with (at_make; refine wpList_make_own _ rfl _ _ 22 rfl w1.heap.size 86 i0 (.agg #[.string ByteArray.empty, .slice none 0 0]) 2 Tryz.underlying22 hi hz0 hz1 _ _ _ N rfl rfl rfl (by rw [hz2]; have := HN9.out; omega) (by have := HN9.out; unfold maxLen; omega) (Nat.le_refl _) ?_; intro w2 hown2 hgrow2; have HO2 := hide hown2; have HB2 : Hid (Below w1.heap.size w1 w2) := hide ((Below.refl _ w1).grown hgrow2 (Nat.le_refl _) (fun k e => by cases e)); have H2 := hide (H.out.under HB2.out); have c2 := H2.out.cells.files; clear hown2 hgrow2 c0 c1 sl)
  refine (kkeys_any _ _).mono ?_
  rintro _ _ ⟨rfl, rfl⟩
  go_wp2_with fail
  refine (sorted_any H2.out).mono ?_
  rintro e w3 ⟨v, rfl, hrow, hB3⟩
  obtain ⟨va, vc, rfl⟩ := owns_slice hrow
  have HRow := hide (owns_mono hrow (Nat.zero_le _))
  rw [← HN.out] at HRow ⊢
  have HB3 : Hid (Below w1.heap.size w1 w3) := hide (HB2.out.trans (((recv_below w2 _).trans (hB3.mono (recv_below w2 _).size)).mono HB2.out.size))
  have HO3 := hide (owns_below HO2.out ((recv_below w2 _).trans (hB3.mono (recv_below w2 _).size)))
  clear hrow hB3 c2
  go_wp2_with fail
  go_loopw [3, 22] (fun ov i wr => ∃ (k : Nat) (us : List Value), k ≤ N ∧ i = .int .i64 k ∧ Hid (wr.ownsRow w1.heap.size 86 2 ov k (ncs (K.files.take k) us)) ∧ Hid (LCells wr w1.heap.size ((K.files.take k).map Prod.snd) us) ∧ Hid (wr.ownsRow 0 9 1 (.slice va N vc) N ((fnames K).map encStr)) ∧ Hid (Below w1.heap.size w1 wr)) (fun _ i _ => N - (intOf i).toNat)
  case atStart => exact ⟨0, [], Nat.zero_le _, rfl, HO3, hide ⟨rfl, (fun j hj => by simp at hj), (fun i j vi vj m _ h1 => by simp at h1)⟩, HRow, HB3⟩
  case round =>
    obtain ⟨k, us, hk, rfl, HO, HL, HRw, HB⟩ := hrel
    obtain ⟨oa, oc, rfl⟩ := owns_slice HO.out
    clear HO3 HRow HB3 HO2 HB2 H2
    by_cases hlt : k < N
    · obtain ⟨i, L, hmem, hith, hobi, hfn, hfile⟩ := file_at H.out.ok (k := k) (by rw [← HN.out]; exact hlt)
      have hH := H.out.under HB.out
      have hHd := hH
      have hsz : (K.nameOf i).size ≤ maxLen := by have := name_few (H.out.nm.ok i hmem); unfold maxLen; omega
      have hlk := look_file hHd hsz hmem rfl (by rw [hobi]; rfl) false
      simp only [Bool.false_eq_true, if_false] at hlk
      have HOb : Hid (PObj wr (fun k => ρ k = some (.obj i)) (I.ob i) (.file L)) := hide (by have := hHd.comp (.obj i) hith; rw [← KS.obOf_eq hith, hobi] at this; exact this)
      have hc1 := hH.cells.files
      have hkb : I.kb < wr.heap.size := World.block_lt_of_cell? wr _ hc1
      have hkw : I.kb < w1.heap.size := World.block_lt_of_cell? w1 _ H.out.cells.files
      obtain ⟨vb, rfl, hcell⟩ := names_cell HRw.out hlt hfn
      have hk1 : (0 : Int) ≤ (k : Int) := by omega
      have hk2 : (k : Int) < (N : Int) := by omega
      have hNs := HN9.out
      have hBs := HB.out.size
      have hul := HL.out.1
      simp only [List.length_map, List.length_take] at hul
      have hkf : k < K.files.length := (List.getElem?_eq_some_iff.1 hfile).1
      rw [Nat.min_eq_left (by omega)] at hul
      have hl4 : L.length ≤ 1048576 := HOb.out.1
      have HPk := hide hfile
      generalize K.nameOf i = nm at *
      clear hfn hobi hH hHd hfile hsz
      go_wp2_with fail
      refine (kbytes_any _ (I.ob i) L _ HOb.out).mono ?_
      rintro e w4 ⟨u, rfl, hownu, hB4⟩
      obtain ⟨ua, uc, rfl⟩ := owns_slice hownu
      have hz4 : wr.heap.size ≤ w4.heap.size := hB4.size
      have hB04 : Below w1.heap.size w1 w4 := HB.out.trans (hB4.mono HB.out.size)
      have K4 : w4.cell? ⟨I.kb, 1, none⟩ = some (.map (some I.fm)) := (hB4.cell (p := ⟨I.kb, 1, none⟩) hkb).trans hc1
      have hBa : Below w4.heap.size w4 (w4.alloc (Obj.cells #[.string nm, .slice ua L.length uc] 86)) := (Below.refl _ _).alloc (Nat.le_refl _) _
      have Ka : (w4.alloc (Obj.cells #[.string nm, .slice ua L.length uc] 86)).cell? ⟨I.kb, 1, none⟩ = some (.map (some I.fm)) := (hBa.cell (p := ⟨I.kb, 1, none⟩) (Nat.lt_of_lt_of_le hkb hz4)).trans K4
      have hB0a := hB04.trans (hBa.mono hB04.size)
      have hB4a := hB4.trans (hBa.mono hB4.size)
      have HOa := hide (owns_below (W := wr) HO.out hB4a)
      have HLa := hide (LCells.below (W := wr) HL.out hB4a)
      have HUa := hide (owns_below hownu hBa)
      have hcu0 : (w4.alloc (Obj.cells #[.string nm, .slice ua L.length uc] 86)).cell? ⟨w4.heap.size, 0, none⟩ = some (.string nm) := (by simp only [World.cell?, heap_alloc_new]; rfl)
      have hcu1 : (w4.alloc (Obj.cells #[.string nm, .slice ua L.length uc] 86)).cell? ⟨w4.heap.size, 1, none⟩ = some (.slice ua L.length uc) := (by simp only [World.cell?, heap_alloc_new]; rfl)
      have hza := size_new w4 (Obj.cells #[.string nm, .slice ua L.length uc] 86)
      obtain ⟨s', w7, hrun, HO7, hg7, hb7⟩ := run_append_named (w4.alloc (Obj.cells #[.string nm, .slice ua L.length uc] 86)) 22 w1.heap.size _ k _ w4.heap.size 1 nm _ HOa.out hcu0 hcu1 rfl (by omega) (by omega)
      have HR := hide hrun
      have HX := hide hownu
      have K7 : w7.cell? ⟨I.kb, 1, none⟩ = some (.map (some I.fm)) := (World.cell?_of_block (w := w4.alloc (Obj.cells #[.string nm, .slice ua L.length uc] 86)) (a := ⟨I.kb, 1, none⟩) (hg7.block I.kb (by show I.kb < _; omega) (fun e => by have := (HOa.out.lt I.kb e.symm).1; omega))).trans Ka
      clear hrun hownu hcu0 hcu1
      go_wp2_with (first | (at_builtin; refine Lib.wpList_append_run _ rfl _ _ _ _ rfl _ _ rfl rfl _ _ HR.out ?_) | fail)
      all_goals
        go_roundw
        case rel =>
          have hLa : LCells w7 w1.heap.size ((K.files.take k).map Prod.snd) us := HLa.out.keep fun j hj v i h1 e => by
            obtain ⟨v', h2, h3⟩ := HLa.out.2.1 j hj
            rw [h1] at h2
            cases h2
            exact hg7.block i (h3.lt i e).2 (fun e' => Te_owns_apart h3 HOa.out (by decide) i e e'.symm)
          have hU7 := owns_keep (W' := w7) HUa.out fun i e => hg7.block i (HUa.out.lt i e).2 (fun e' => Te_owns_apart HUa.out HOa.out (by decide) i e e'.symm)
          refine ⟨k + 1, us ++ [.slice ua L.length uc], by omega, by go_num, ?_, ?_, hide ?_, hide (hB0a.grown hg7 hB0a.size (fun j e => (HOa.out.lt j e).1))⟩
          · have h8 := HO7.out
            rw [← ncs_snoc (K.files.take k) us (nm, L) _ (by simp; omega)] at h8
            rw [show K.files.take (k + 1) = K.files.take k ++ [(nm, L)] by rw [List.take_add_one, HPk.out]; rfl]
            exact h8
          · have h9 : k < (K.files.map Prod.snd).length := by rw [List.length_map]; exact (List.getElem?_eq_some_iff.1 HPk.out).1
            rw [List.map_take] at hLa ⊢
            refine LCells.snoc h9 hLa _ ?_ (fun j v i h1 e e' => ?_)
            · rw [List.getElem_map, (List.getElem?_eq_some_iff.1 HPk.out).2]
              exact owns_mono hU7 (by omega)
            · obtain ⟨v', h2, h3⟩ := HL.out.2.1 j (by have := (List.getElem?_eq_some_iff.1 h1).1; have := HL.out.1; omega)
              rw [h1] at h2
              cases h2
              have := (h3.lt i e).2
              have : wr.heap.size ≤ i := (HX.out.lt i e').1
              omega
          · exact owns_keep (owns_below HRw.out hB4a) fun i e => hg7.block i (Nat.lt_of_lt_of_le (HRw.out.lt i e).2 hB4a.size) (fun e' => Te_owns_apart (owns_below HRw.out hB4a) HOa.out (by decide) i e e'.symm)
        case measure => simp [intOf]; omega
    · have hke : k = K.files.length := by have := HN.out; simp only [fnames, KS.files, List.length_map] at *; omega
      go_wp2
      go_ret
      have h1 := HL.out
      have h2 := HO.out
      subst hke
      rw [List.take_length] at h1 h2
      exact ⟨_, us, rfl, h2, h1, HB.out⟩
end Go.Proofs.YtkkommomefmpgaaGreat

/- The reference's kernel: Files. -/
namespace Go.Proofs.YtkkommomefmpgaaGreat
open Go.RowKit

end Go.Proofs.YtkkommomefmpgaaGreat

/- The reference's kernel: Screens. -/
namespace Go.Proofs.YtkkommomefmpgaaGreat
open Go.RowKit

end Go.Proofs.YtkkommomefmpgaaGreat

/- The reference's kernel: Drop. -/
namespace Go.Proofs.YtkkommomefmpgaaGreat
open Go.RowKit

end Go.Proofs.YtkkommomefmpgaaGreat

/- The page's kernel of a setup. -/
namespace Go.Proofs.YtkkommomefmpgaaGreat
open Go.RowKit

end Go.Proofs.YtkkommomefmpgaaGreat

/- The reference's kernel within a set of blocks: what each call leaves of it, and of all else. -/
namespace Go.Proofs.YtkkommomefmpgaaGreat
open Go.RowKit

def RAt (w : World) (O : Nat → Prop) (kb : Nat) (K : KS) : Prop := ∃ (B : Nat → Prop) (ρ : Nat → Option Tag) (I : RI), RK w B ρ I K ∧ I.kb = kb ∧ ∀ k t, ρ k = some t → O k
def RKStep (w : World) (O : Nat → Prop) (kb : Nat) (K' : KS) (w' : World) : Prop := ∃ O', RAt w' O' kb K' ∧ (∀ k, O' k → O k ∨ w.heap.size ≤ k) ∧ Turned O w w'
theorem RAt.keep {w w' : World} {O : Nat → Prop} {kb : Nat} {K : KS} (h : RAt w O kb K) (hk : ∀ k, O k → k < w.heap.size → w'.heap[k]? = w.heap[k]?) (hs : w.heap.size ≤ w'.heap.size) : RAt w' O kb K := by
  obtain ⟨B, ρ, I, h1, h2, h3⟩ := h
  exact ⟨B, ρ, I, ⟨fun t => (h1.comp t).keep (fun k e hlt => hk k (h3 k t e) hlt) hs, fun k t e => ⟨(h1.lt k t e).1, Nat.lt_of_lt_of_le (h1.lt k t e).2 hs⟩, h1.ok, fun k e => h1.up k (Nat.le_trans hs e)⟩, h2, h3⟩
theorem RAt.below {w w' : World} {O : Nat → Prop} {kb : Nat} {K : KS} (h : RAt w O kb K) (hB : Below w.heap.size w w') : RAt w' O kb K := h.keep (fun k _ hlt => hB.block k hlt) hB.size
theorem RK.left {w w' : World} {O : Nat → Prop} {ρ ρ' : Nat → Option Tag} {I' : RI} {K' : KS} {kb : Nat} (hO : ∀ k t, ρ k = some t → O k) (h : RK w' (fun k => (∃ t, ρ k = some t) ∨ w.heap.size ≤ k) ρ' I' K') (hk : I'.kb = kb) (hT : Turned (fun k => (∃ t, ρ k = some t) ∨ w.heap.size ≤ k) w w') : RKStep w O kb K' w' :=
  ⟨fun k => O k ∨ w.heap.size ≤ k, ⟨_, ρ', I', h, hk, fun k t e => by
    rcases (h.lt k t e).1 with ⟨t', h1⟩ | h1
    · exact .inl (hO k t' h1)
    · exact .inr h1⟩, fun _ e => e, ⟨hT.1, hT.2, hT.3, hT.4, fun k hlt hn => hT.5 k hlt (fun e => by
    rcases e with ⟨t', h1⟩ | h1
    · exact hn (hO k t' h1)
    · omega)⟩⟩
theorem RAt.seek {w : World} {O : Nat → Prop} {kb : Nat} {K : KS} (h : RAt w O kb K) (d off wh : Int) :
    Calls Tryz.prog 57 #[.pointer (some ⟨kb, 0, none⟩), .int .i64 d, .int .i64 off, .int .i64 wh] w fun e w' => e = .returned (.tuple #[.int .i64 (K.seek d off wh).1, .int .i64 (K.seek d off wh).2.1]) ∧ RKStep w O kb (K.seek d off wh).2.2 w' := by
  obtain ⟨B, ρ, I, h1, rfl, h3⟩ := h
  refine (rkseek_any _ ρ I K d off wh w h1.own).mono ?_
  rintro e w' ⟨ρ', I', h4, h6, h7, h8⟩
  exact ⟨h4, RK.left h3 h6 h7 h8⟩
theorem RAt.open {w : World} {O : Nat → Prop} {kb : Nat} {K : KS} (h : RAt w O kb K) (s : ByteArray) (flags : Int) (hnm : KNm K) (hs : s.size ≤ maxLen) (hn1 : 1 ≤ K.next) (hn : K.next < 9223372036854775807) :
    Calls Tryz.prog 48 #[.pointer (some ⟨kb, 0, none⟩), .string s, .int .i64 flags] w fun e w' => e = .returned (.tuple #[.int .i64 (K.open s flags).1, .int .i64 (K.open s flags).2.1]) ∧ RKStep w O kb (K.open s flags).2.2 w' := by
  obtain ⟨B, ρ, I, h1, rfl, h3⟩ := h
  refine (rkopen_any _ ρ I K s flags w h1.own hnm hs hn1 hn).mono ?_
  rintro e w' ⟨ρ', I', h4, h6, h7, h8⟩
  exact ⟨h4, RK.left h3 h6 h7 h8⟩
theorem RAt.of_page {w w' : World} {B : Nat → Prop} {ρ : Nat → Option Tag} {I : RI} {K : KS} (hB : ∀ k, B k → w.heap.size ≤ k) (h : RK w' B ρ I K) : RAt w' (fun k => w.heap.size ≤ k) I.kb K := ⟨B, ρ, I, h, rfl, fun k t e => hB k (h.lt k t e).1⟩
end Go.Proofs.YtkkommomefmpgaaGreat

/- The law's examples. -/
namespace Go.Proofs.YtkkommomefmpgaaGreat
open Go.RowKit Go.Maps

end Go.Proofs.YtkkommomefmpgaaGreat

/- KernPlace: the kernel's states, as values. -/
namespace Go.Proofs.YtkkommomefmpgaaGreat
open Go.RowKit Go.Maps

theorem nxt_nil {n : Int} (h1 : 1 ≤ n) (h2 : n ≤ 1048576) : nxt [] n = (n, 0) := by simp [nxt]; omega
end Go.Proofs.YtkkommomefmpgaaGreat

/- KernSays: what a read, a write and the questions ahead of them say, as values. No program. -/
namespace Go.Proofs.YtkkommomefmpgaaGreat
open Go.RowKit

theorem nxt_err {l : List Fault} {want : Int} (h1 : 1 ≤ want) (h2 : want ≤ 1048576) : (nxt l want).2 = 0 ∨ (nxt l want).2 = 22 ∨ (nxt l want).2 = 23 := by
  unfold nxt
  rw [if_neg (by omega)]
  cases l with
  | nil => exact .inl rfl
  | cons f r =>
    simp only
    split
    · exact .inl rfl
    · split
      · exact .inr (.inl rfl)
      · split
        · exact .inr (.inr rfl)
        · exact .inl rfl
end Go.Proofs.YtkkommomefmpgaaGreat

/- KernPieces: the kernel's states, as values. -/
namespace Go.Proofs.YtkkommomefmpgaaGreat
open Go.RowKit Go.Maps

theorem wrL_more (x : List UInt8) (q m : Nat) (hq : q + m ≤ x.length) (hm : 1 ≤ m) (h2 : x.length ≤ 1048576) : wrL (x.take q) q ((x.drop q).take m) = x.take (q + m) := by
  unfold wrL
  have hl : ((x.drop q).take m).length = m := by rw [List.length_take, List.length_drop]; omega
  have hf : Fi_wrE q ((x.drop q).take m).length = 0 := wr_fits (at' := q) (by omega)
  rw [if_pos hf]
  have hne : (x.drop q).take m ≠ [] := by intro e; rw [e] at hl; simp at hl; omega
  have htl : (x.take q).length = q := by rw [List.length_take]; omega
  unfold lay grow
  simp only [hl, htl]
  have hd : (List.take q x ++ List.replicate (q + m - q) (0 : UInt8)).drop (q + m) = [] := List.drop_of_length_le (by rw [List.length_append, htl, List.length_replicate]; omega)
  rw [if_neg hne, Int.toNat_natCast, List.take_append_of_le_length (by omega), List.take_of_length_le (by omega), hd, List.append_nil, List.take_add]
theorem KAt.files {w : World} {O : Nat → Prop} {kb : Nat} {K : KS} (h : KAt w O kb K) :
    Calls Tryz.prog 32 #[.pointer (some ⟨kb, 0, none⟩)] w fun e w' => ∃ v us, e = .returned v ∧ w'.ownsRow w.heap.size 86 2 v K.files.length (ncs K.files us) ∧ LCells w' w.heap.size (K.files.map Prod.snd) us ∧ Below w.heap.size w w' := by
  obtain ⟨ρ, I, h1, rfl, h3⟩ := h
  exact kfiles_any ρ I K w h1
end Go.Proofs.YtkkommomefmpgaaGreat

/- Handles: their calls, those of no kernel, and two kernels side by side. -/
namespace Go.Proofs.YtkkommomefmpgaaGreat
open Go.RowKit Go.Maps

theorem KStep.behind {w w1 w' : World} {O : Nat → Prop} {kb : Nat} {K : KS} (h : KStep w1 O kb K w') (hB : Below w.heap.size w w1) : KStep w O kb K w' := by
  obtain ⟨O', h1, h2, h3⟩ := h
  exact ⟨O', h1, fun k e => (h2 k e).imp id (fun e => Nat.le_trans hB.size e), (Turned.of_below hB).trans h3 (fun _ _ e => e)⟩
set_option maxRecDepth 100000 in
theorem KAt.hwrite {w : World} {O : Nat → Prop} {kb : Nat} {K : KS} (h : KAt w O kb K) (d : Int) (bs : List UInt8) (a1 : Option Addr) (cx : Nat) (hd : I64 d) (hr : K.writes < 9223372036854775807)
    (hb : Bys w (.slice a1 bs.length cx) bs) (hcap : bs.length ≤ cx) (hbig : bs.length ≤ 9223372036854775807) (hap : 0 < bs.length → ∀ k, (Value.slice a1 bs.length cx).ownBlock = some k → ¬ O k) :
    Calls Tryz.prog 332 #[.agg #[.pointer (some ⟨kb, 0, none⟩), .int .i64 d], .slice a1 bs.length cx] w fun e w' => e = .returned (.tuple #[.int .i64 (K.write d bs).1, .int .i64 (K.write d bs).2.1]) ∧ KStep w O kb (K.write d bs).2.2 w' := by
  have hB := recv_below w (Obj.cells #[.pointer (some ⟨kb, 0, none⟩), .int .i64 d] 294)
  have HR := hide ((h.below hB).write d bs a1 cx hd hr (hb.below hB) hcap hbig hap)
  have HB := hide hB
  clear h hB hb hap
  go_enter Tryz.func332, Tryz.ntmps332
  go_wp2_with fail
  refine HR.out.mono ?_
  rintro e w1 ⟨rfl, h1⟩
  have HS := hide (h1.behind HB.out)
  clear h1
  go_wp2
  go_ret2
  exact ⟨rfl, HS.out⟩
set_option maxRecDepth 100000 in
theorem KAt.hseek {w : World} {O : Nat → Prop} {kb : Nat} {K : KS} (h : KAt w O kb K) (d off wh : Int) (hd : I64 d) (ho : I64 off) :
    Calls Tryz.prog 331 #[.agg #[.pointer (some ⟨kb, 0, none⟩), .int .i64 d], .int .i64 off, .int .i64 wh] w fun e w' => e = .returned (.tuple #[.int .i64 (K.seek d off wh).1, .int .i64 (K.seek d off wh).2.1]) ∧ KStep w O kb (K.seek d off wh).2.2 w' := by
  have hB := recv_below w (Obj.cells #[.pointer (some ⟨kb, 0, none⟩), .int .i64 d] 294)
  have HR := hide ((h.below hB).seek d off wh hd ho)
  have HB := hide hB
  clear h hB
  go_enter Tryz.func331, Tryz.ntmps331
  go_wp2_with fail
  refine HR.out.mono ?_
  rintro e w1 ⟨rfl, h1⟩
  have HS := hide (h1.behind HB.out)
  clear h1
  go_wp2
  go_ret2
  exact ⟨rfl, HS.out⟩
theorem cell_keep {O : Nat → Prop} {w w' : World} {g j : Nat} {v : Value} (hT : Turned O w w') (h : w.cell? ⟨g, j, none⟩ = some v) (hO : ¬ O g) : w'.cell? ⟨g, j, none⟩ = some v :=
  (World.cell?_of_block (w := w) (a := ⟨g, j, none⟩) (hT.block g (World.block_lt_of_cell? w _ h) hO)).trans h
theorem read_few {w : World} {O : Nat → Prop} {kb : Nat} {K : KS} (h : KAt w O kb K) (d n : Int) : (K.read d n).1.length ≤ 1048576 := by
  obtain ⟨ρ, I, h1, _, _⟩ := h
  have ok : ∀ x, K.find d = some x → (K.tho x).ok := fun x hx => by
    have hi := h1.ok.th x (KS.find_some hx).1
    have := (h1.comp (.obj x.th) hi).ok
    rw [KS.tho_eq hi]
    exact this
  unfold KS.read
  split
  · simp
  · rename_i x hx
    have hk := ok x hx
    split
    · simp
    split
    · simp
    split
    · simp
    split
    · simp
    split
    · revert hk
      cases K.tho x with
      | file b => intro hk; simp only [piece_len]; have : b.length ≤ 1048576 := hk; omega
      | term ls scr =>
        intro hk
        simp only [rdH]
        split
        · cases ls with
          | nil => simp [headL]
          | cons l r =>
            have := hk.2.1 0 (by simp)
            simp only [List.getElem_cons_zero] at this
            simp only [headL, List.length_take]
            omega
        · simp
      | pipe q rd wt => intro hk; have : q.length ≤ 4096 := hk.1; simp only [rdB]; split <;> simp <;> omega
    · simp
end Go.Proofs.YtkkommomefmpgaaGreat

/- The program's kernel and the reference's, side by side. -/
namespace Go.Proofs.YtkkommomefmpgaaGreat
open Go.RowKit

theorem RAt.trim {w : World} {O : Nat → Prop} {kb : Nat} {K : KS} (h : RAt w O kb K) : RAt w (fun k => O k ∧ k < w.heap.size) kb K := by
  obtain ⟨B, ρ, I, h1, h2, h3⟩ := h
  exact ⟨B, ρ, I, h1, h2, fun k t e => ⟨h3 k t e, (h1.lt k t e).2⟩⟩
end Go.Proofs.YtkkommomefmpgaaGreat

/- What the kernel's Read and Write tell, as values: at most what was asked, and nothing beside an error. -/
namespace Go.Proofs.YtkkommomefmpgaaGreat
open Go.RowKit Go.Maps

end Go.Proofs.YtkkommomefmpgaaGreat

/- KernPlays: a call by both. -/
namespace Go.Proofs.YtkkommomefmpgaaGreat
open Go.RowKit Go.Maps

theorem drew_cell {w : World} {p : Addr} {v : Value} (h : w.cell? p = some v) : w.drew.cell? p = some v := h
theorem rk_cell {w w' : World} {O : Nat → Prop} {kb : Nat} {K : KS} {g j : Nat} {v : Value} (h : RKStep w O kb K w') (hc : w.cell? ⟨g, j, none⟩ = some v) (hO : ¬ O g) : w'.cell? ⟨g, j, none⟩ = some v := by
  obtain ⟨_, _, _, hT⟩ := h
  exact cell_keep hT hc hO
end Go.Proofs.YtkkommomefmpgaaGreat

/- KernPlays: Read and Write by both. -/
namespace Go.Proofs.YtkkommomefmpgaaGreat
open Go.RowKit Go.Maps

end Go.Proofs.YtkkommomefmpgaaGreat
