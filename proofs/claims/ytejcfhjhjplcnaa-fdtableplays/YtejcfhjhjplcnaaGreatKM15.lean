/- What the proof stands on, part 15: the contracts of the program's calls that it reaches. -/
import Derived.Test.YtejcfhjhjplcnaaGreatKM14
import Derived.ProofKit
import Derived.OpenShut
import Derived.ChangeArms
import Derived.ChangeSlices
import Derived.SizedLaws
import Derived.Deep.Slices
import Derived.Deep.SlicePairs
/- The reference's kernel: Open, of a name that is there. -/
namespace Go.Proofs.YtejcfhjhjplcnaaGreat
open Go.RowKit

set_option maxRecDepth 100000 in
set_option maxHeartbeats 4000000 in
theorem rkopen_old (B : Nat → Prop) (ρ : Nat → Option Tag) (I : RI) (K : KS) (s : ByteArray) (flags : Int) (w : World) (h : RK w B ρ I K) (hs : s.size ≤ maxLen) (hn1 : 1 ≤ K.next) (hn : K.next < 9223372036854775807) (k0 : nameOk s = true) (k1 : flagsOk flags = true) (k2 : ¬ 256 ≤ K.de.length) {i : Nat} (hby : K.byName s = some i) :
    Calls Tryz.prog 31 #[.pointer (some ⟨I.kb, 0, none⟩), .string s, .int .i64 flags] w (RKNum w B I.kb (K.open s flags)) := by
  have HX := hide fun E => RKNum.refused h 0 E
  have hi : i < K.th.length := h.ok.nm i (List.mem_of_find?_eq_some hby)
  have hb := (h.comp .kern).1
  have c1 : w.cell? ⟨I.kb, 1, none⟩ = some I.vD := by rw [cell_of_row w I.kb 1 _ _ _ hb]; rfl
  obtain ⟨da, dc, hdv⟩ := owns_slice (h.comp .drow).1
  rw [hdv] at c1
  have HN := hide (named_any s w hs)
  have HF := hide (flagged_any flags w)
  have HT := hide (rthing_any B ρ I K s w h)
  rw [k0] at HN
  rw [k1] at HF
  rw [hby] at HT
  obtain ⟨-, t1, t2, t3⟩ := h.tcell hi
  have k3 : ¬ (256 : Int) ≤ (K.de.length : Int) := by omega
  have hO : K.open s flags = if fbit flags 32 = 0 then ((K.next : Int), 0, (K.cut i flags).newDe i flags) else (0, 63, K) := by
    unfold KS.open
    rw [if_neg (by simp [k0]), if_neg (by simp [k1]), if_neg k2, hby]
  obtain ⟨v5, hv5⟩ : ∃ v5, bits .and .i64 flags 32 = v5 := ⟨_, rfl⟩
  rw [show fbit flags 32 = v5 from hv5] at hO
  have HH := hide h
  have HO := hide ((h.comp (.obj i)) hi)
  clear h hb hdv
  by_cases e5 : v5 = 0
  case neg =>
    have m5 : (v5 == 0) = false := by simpa using e5
    have m5' : (v5 != 0) = true := by simpa using e5
    rw [if_neg e5] at hO
    rw [hO]
    clear t1 t2 t3
    go_enter Tryz.func31, Tryz.ntmps31
    go_wp2_with fail
    refine HN.out.mono ?_
    rintro e w ⟨rfl, rfl⟩
    go_wp2_with fail
    refine HF.out.mono ?_
    rintro e w ⟨rfl, rfl⟩
    go_wp2_with fail
    refine HT.out.mono ?_
    rintro e w ⟨rfl, rfl⟩
    simp only [Option.map_some]
    go_wp2
    go_ret2
    exact HX.out 63
  subst e5
  rw [if_pos rfl] at hO
  rw [hO]
  obtain ⟨v16, hv16⟩ : ∃ v16, bits .and .i64 flags 16 = v16 := ⟨_, rfl⟩
  have hcut : K.cut i flags = if v16 = 0 then K else (match K.obOf i with | .file _ => K.setOb i (.file []) | _ => K) := by
    unfold KS.cut bit
    rw [show fbit flags 16 = v16 from hv16]
    by_cases e : v16 = 0
    · rw [if_pos e, e]; rfl
    · rw [if_neg e, if_pos (by simpa using e)]
      first | done | rfl
  have HCut := hide hcut
  by_cases hfile : (∃ f, K.obOf i = .file f) ∧ ¬ v16 = 0
  case neg =>
    -- nothing is emptied
    have hsame : K.cut i flags = K := by
      rw [hcut]
      split
      · rfl
      · rename_i e
        cases ho : K.obOf i with
        | file f => exact absurd ⟨⟨f, ho⟩, e⟩ hfile
        | term _ _ => rfl
        | pipe _ _ _ => rfl
    rw [hsame]
    have hD := rdesc_any B ρ I K i flags w HH.out hi k1 (by omega) hn1 hn
    have HD := hide hD
    have hk : ((K.obOf i).kind = 1 ∧ v16 = 0) ∨ (¬ (K.obOf i).kind = 1 ∧ ((K.obOf i).kind == 1) = false) := by
      cases ho : K.obOf i with
      | file f => exact .inl ⟨rfl, by by_cases e : v16 = 0; exact e; exact absurd ⟨⟨f, ho⟩, e⟩ hfile⟩
      | term _ _ => exact .inr ⟨by simp [Ob.kind], by simp [Ob.kind]⟩
      | pipe _ _ _ => exact .inr ⟨by simp [Ob.kind], by simp [Ob.kind]⟩
    generalize (K.obOf i).kind = kd at *
    clear hsame hcut HCut t2 t3 hfile hD hO
    rcases hk with ⟨rfl, rfl⟩ | ⟨g1, g2⟩
    all_goals
      go_enter Tryz.func31, Tryz.ntmps31
      go_wp2_with fail
      refine HN.out.mono ?_
      rintro e w ⟨rfl, rfl⟩
      go_wp2_with fail
      refine HF.out.mono ?_
      rintro e w ⟨rfl, rfl⟩
      go_wp2_with fail
      refine HT.out.mono ?_
      rintro e w ⟨rfl, rfl⟩
      simp only [Option.map_some]
      go_wp2_with fail
      refine HD.out.mono ?_
      rintro e w4 ⟨rfl, ρ4, I4, hK4, hkb4, -, hT4⟩
      have HE : Hid (RKNum w B I.kb ((K.next : Int), 0, K.newDe i flags) (.returned (.tuple #[.int .i64 K.next, .int .i64 0])) w4) := hide ⟨ρ4, I4, rfl, hK4, hkb4, hT4⟩
      clear hK4 hkb4 hT4
      go_wp2
      go_ret2
      exact HE.out
  obtain ⟨⟨f, ho⟩, e16⟩ := hfile
  have m16 : (v16 == 0) = false := by simpa using e16
  have m16' : (v16 != 0) = true := by simpa using e16
  rw [if_neg e16, ho] at hcut
  simp only at hcut
  rw [hcut]
  rw [ho] at t1
  simp only [Ob.kind] at t1
  have t4 := t2 f ho
  have hO1 := HO.out
  rw [← KS.obOf_eq hi, ho] at hO1
  obtain ⟨⟨u, Bu, hF, hBu, hOp, hOu⟩, -⟩ := hO1
  have d1 := hF.data
  have d2 := hF.soft
  have hst : ObjStep w (fun k => ρ k = some (.obj i)) (I.ob i) (.file []) (w.setCell ⟨I.ob i, 0, none⟩ (.slice none 0 0)) := by
    refine ⟨fun k => ρ k = some (.obj i), ⟨.slice none 0 0, Bu, ⟨World.cell?_setCell_same _ _ _ hF.data, (World.frozen?_setCell _ _ _ _).trans hF.soft, World.ownsRow_nil _ _ _ _, by simp [Value.ownBlock]⟩, by simp [World.setCell]; exact hBu, hOp, fun k e => by cases e⟩, fun _ e => .inl e, (Turned.refl _ _).set (.inl hOp)⟩
  obtain ⟨ρ2, hK2, -, hT2⟩ := HH.out.setOb hi hst (by rw [← KS.obOf_eq hi, ho]; rfl) (by show ([] : List UInt8).length ≤ 1048576; simp)
  have hD := rdesc_any B ρ2 I _ i flags _ hK2 (by rw [setOb_len]; exact hi) k1 (by show K.de.length < 256; omega) hn1 hn
  have HD := hide hD
  have HT2 := hide hT2
  clear hcut HCut t2 t3 hF hBu hOp hOu hst hK2 hT2 hD HO hO
  go_enter Tryz.func31, Tryz.ntmps31
  go_wp2_with fail
  refine HN.out.mono ?_
  rintro e w ⟨rfl, rfl⟩
  go_wp2_with fail
  refine HF.out.mono ?_
  rintro e w ⟨rfl, rfl⟩
  go_wp2_with fail
  refine HT.out.mono ?_
  rintro e w ⟨rfl, rfl⟩
  simp only [Option.map_some]
  go_wp2_with fail
  refine HD.out.mono ?_
  rintro e w4 ⟨rfl, ρ4, I4, hK4, hkb4, -, hT4⟩
  have HE : Hid (RKNum w B I.kb ((K.next : Int), 0, (K.setOb i (.file [])).newDe i flags) (.returned (.tuple #[.int .i64 K.next, .int .i64 0])) w4) := hide ⟨ρ4, I4, rfl, hK4, hkb4, HT2.out.trans hT4 (fun _ _ e => e)⟩
  clear hK4 hkb4 hT4
  go_wp2
  go_ret2
  exact HE.out
theorem rkopen_any (B : Nat → Prop) (ρ : Nat → Option Tag) (I : RI) (K : KS) (s : ByteArray) (flags : Int) (w : World) (h : RK w B ρ I K) (hnm : KNm K) (hs : s.size ≤ maxLen) (hn1 : 1 ≤ K.next) (hn : K.next < 9223372036854775807) :
    Calls Tryz.prog 31 #[.pointer (some ⟨I.kb, 0, none⟩), .string s, .int .i64 flags] w (RKNum w B I.kb (K.open s flags)) := by
  by_cases hno : nameOk s = false ∨ flagsOk flags = false ∨ 256 ≤ K.de.length
  · exact rkopen_no B ρ I K s flags w h hs hno
  · have k0 : nameOk s = true := by simpa using fun e => hno (.inl e)
    have k1 : flagsOk flags = true := by simpa using fun e => hno (.inr (.inl e))
    have k2 : ¬ 256 ≤ K.de.length := fun e => hno (.inr (.inr e))
    cases hby : K.byName s with
    | none => exact rkopen_new B ρ I K s flags w h hnm hs hn1 hn k0 k1 k2 hby
    | some i => exact rkopen_old B ρ I K s flags w h hs hn1 hn k0 k1 k2 hby
end Go.Proofs.YtejcfhjhjplcnaaGreat

/- The reference's kernel: New. -/
namespace Go.Proofs.YtejcfhjhjplcnaaGreat
open Go.RowKit

theorem rk_start {W : World} {B : Nat → Prop} {kb pb : Nat} {v : Value} {l : List Fault} (hup : ∀ k, W.heap.size ≤ k → B k) (hB : B pb) (hne : kb ≠ pb) (hkb : B kb) (hk : W.heap[kb]? = some (.cells ([.slice none 0 0, .slice none 0 0, .int .i64 ((1 : Nat) : Int), .pointer (some ⟨pb, 0, none⟩), .int .i64 ((0 : Nat) : Int), .int .i64 ((0 : Nat) : Int)] : List Value).toArray 156 (0, 0)))
    (hp : RPlanAt W pb v l) (hv : ∀ k, v.ownBlock = some k → B k ∧ k < W.heap.size ∧ k ≠ kb) (hl : planOk l) : ∃ ρ, RK W B ρ ⟨kb, .slice none 0 0, .slice none 0 0, pb, v, id, id, id⟩ (KS.nought l) := by
  have hkl : kb < W.heap.size := (Array.getElem?_eq_some_iff.1 hk).1
  have hpl : pb < W.heap.size := World.block_lt_of_cell? W _ hp.left
  refine ⟨fun k => if k = kb then some .kern else if k = pb then some .plan else if v.ownBlock = some k then some .plan else none, fun t => ?_, fun k t e => ?_, ?_, hup⟩
  · cases t with
    | kern => exact ⟨hk, if_pos rfl⟩
    | trow => exact ⟨World.ownsRow_nil _ _ _ _, fun k e => by cases e⟩
    | drow => exact ⟨World.ownsRow_nil _ _ _ _, fun k e => by cases e⟩
    | plan =>
      refine ⟨hp, (if_neg (fun e => hne e.symm)).trans (if_pos rfl), fun k e => ?_⟩
      show (if k = kb then some Tag.kern else if k = pb then some .plan else if v.ownBlock = some k then some .plan else none) = _
      rw [if_neg (hv k e).2.2, if_pos e]
      split <;> rfl
    | thing i => exact fun hi => absurd hi (by show ¬ i < 0; omega)
    | obj i => exact fun hi => absurd hi (by show ¬ i < 0; omega)
    | desc n => exact fun d hd => absurd hd (by show d ∉ ([] : List De); simp)
  · split at e
    · rename_i e1; subst e1; exact ⟨hkb, hkl⟩
    · split at e
      · rename_i e2; subst e2; exact ⟨hB, hpl⟩
      · split at e
        · rename_i e3; exact ⟨(hv k e3).1, (hv k e3).2.1⟩
        · cases e
  · exact ⟨by show 0 ≤ 256; decide, by show 0 ≤ 256; decide, fun d hd => (by cases hd), fun i hi => (by cases hi), fun d hd => (by cases hd), fun d hd => (by cases hd), fun d hd => (by cases hd), fun d hd => (by cases hd), fun d hd => (by cases hd), hl⟩
theorem knm_nought (l : List Fault) : KNm (KS.nought l) := ⟨List.Pairwise.nil, fun i hi => (by cases hi), fun i hi => absurd hi (by show ¬ i < 0; omega), fun i hi => (by cases hi)⟩
theorem radd_named {wr w1 : World} {B : Nat → Prop} {ρ : Nat → Option Tag} {I : RI} {K : KS} (h : RK wr B ρ I K) (hnm : KNm K) (hl : K.nm.length < 256) (t : Th) {ob : Nat} {O : Nat → Prop} (hB1 : Below wr.heap.size wr w1) (hO : RObj w1 O ob t.ob) (hOn : ∀ k, O k → wr.heap.size ≤ k ∧ k < w1.heap.size) (hok : t.ob.ok) {cs : Array Value} (hcs : cs = (tcells t ob).toArray) :
    Calls Tryz.prog 127 #[.pointer (some ⟨I.kb, 0, none⟩), .pointer (some ⟨w1.heap.size, 0, none⟩)] (w1.alloc (Obj.cells cs 203)) fun e w' => e = .returned (.tuple #[]) ∧ ∃ ρ' I', RK w' B ρ' I' (K.addTh t) ∧ I'.kb = I.kb ∧ Turned B wr w' := by
  subst hcs
  have hs1 := hB1.size
  have hB2 := recv_below w1 (Obj.cells (tcells t ob).toArray 203)
  have hn2 := heap_alloc_new w1 (Obj.cells (tcells t ob).toArray 203)
  have hB12 : Below wr.heap.size wr (w1.alloc (Obj.cells (tcells t ob).toArray 203)) := hB1.trans (hB2.mono hs1)
  obtain ⟨ρ2, hK2⟩ := h.more (W' := w1.alloc (Obj.cells (tcells t ob).toArray 203)) t (nb := w1.heap.size) (ob := ob) (O := O) (fun k hk => hB12.block k hk) hB12.size hs1 hn2 (hO.keep (fun k _ hl => hB2.block k hl) hB2.size) (fun k e => by have := hOn k e; omega) hok
  have hth2 : (K.more t).th.length = K.th.length + 1 := by simp [KS.more]
  have hA := radd_any B ρ2 _ _ K.th.length _ hK2 (by rw [hth2]; omega) (more_sorted h.ok hnm _) hl
  simp only [updT_new] at hA
  refine hA.mono ?_
  rintro e w3 ⟨rfl, ρ3, I3, hK3, hkb3, -, -, hT3⟩
  exact ⟨rfl, ρ3, I3, hK3, hkb3, (Turned.of_below hB12).trans hT3 (fun _ _ e => e)⟩
set_option maxRecDepth 100000 in
set_option maxHeartbeats 8000000 in
theorem rknew_any (a1 a2 a3 : Option Addr) (c1 c2 c3 : Nat) (fs : List Nm) (ts : List Tp) (l : List Fault) (w0 w : World) (hB0 : Below w0.heap.size w0 w) (h1 : Nms w0 (.slice a1 fs.length c1) fs) (h2 : Tps w0 (.slice a2 ts.length c2) ts) (h3 : Flts w (.slice a3 l.length c3) l) (hb3 : ∀ k, (Value.slice a3 l.length c3).ownBlock = some k → w0.heap.size ≤ k ∧ k < w.heap.size) (hE : checkE fs ts l = 0) :
    Calls Tryz.prog 60 #[.slice a1 fs.length c1, .slice a2 ts.length c2, .slice a3 l.length c3] w fun e w' => ∃ ρ I, e = .returned (.pointer (some ⟨I.kb, 0, none⟩)) ∧ RK w' (fun k => w0.heap.size ≤ k) ρ I (KS.new fs ts l) ∧ Below w0.heap.size w0 w' := by
  have hEs : ¬ 256 < fs.length + ts.length ∧ (kfiles [] fs).1 = 0 ∧ kterms (kfiles [] fs).2 ts = 0 ∧ (chk l).1 = 0 := by
    unfold checkE at hE
    by_cases e1 : 256 < fs.length + ts.length
    · rw [if_pos e1] at hE; cases hE
    · rw [if_neg e1] at hE
      by_cases e2 : (kfiles [] fs).1 = 0
      · rw [if_pos e2] at hE
        by_cases e3 : kterms (kfiles [] fs).2 ts = 0
        · rw [if_pos e3] at hE; exact ⟨e1, e2, e3, hE⟩
        · rw [if_neg e3] at hE; exact absurd hE e3
      · rw [if_neg e2] at hE; exact absurd hE e2
  obtain ⟨hc, hE1, hE2, hE3⟩ := hEs
  obtain ⟨o1, ho1⟩ : ∃ o1, o1 = Obj.cells #[.slice a3 l.length c3] 162 := ⟨_, rfl⟩
  obtain ⟨o2, ho2⟩ : ∃ o2, o2 = Obj.cells #[.slice none 0 0, .slice none 0 0, .int .i64 1, .pointer (some ⟨w.heap.size, 0, none⟩), .int .i64 0, .int .i64 0] 156 := ⟨_, rfl⟩
  have hs0 := hB0.size
  have hB1 := recv_below w o1
  have hB2 := recv_below (w.alloc o1) o2
  have hs1 : (w.alloc o1).heap.size = w.heap.size + 1 := by simp
  have hs2 : ((w.alloc o1).alloc o2).heap.size = w.heap.size + 2 := by simp
  have hB12 : Below w.heap.size w ((w.alloc o1).alloc o2) := hB1.trans (hB2.mono (by omega))
  have hn1' := heap_alloc_new w o1
  have hn2' := heap_alloc_new (w.alloc o1) o2
  rw [hs1] at hn2'
  have hn1'' : ((w.alloc o1).alloc o2).heap[w.heap.size]? = some o1 := (hB2.block _ (by omega)).trans hn1'
  have hpl : RPlanAt ((w.alloc o1).alloc o2) w.heap.size (.slice a3 l.length c3) l := ⟨by rw [World.cell?, hn1'', ho1]; rfl, by rw [World.frozen?, hn1'', ho1]; rfl, h3.below hB12, fun e => by have := (hb3 _ e).2; omega⟩
  obtain ⟨ρ, hK⟩ := rk_start (W := (w.alloc o1).alloc o2) (B := fun k => w0.heap.size ≤ k) (kb := w.heap.size + 1) (pb := w.heap.size) (fun k e => by omega) (by omega) (by omega) (by omega) (by rw [hn2', ho2]; rfl) hpl (fun k e => by have := hb3 k e; omega) (check_plan hE3)
  have HK0 : Hid (∃ ρ I, RK ((w.alloc o1).alloc o2) (fun k => w0.heap.size ≤ k) ρ I (KS.nought l) ∧ I.kb = w.heap.size + 1) := hide ⟨ρ, _, hK, rfl⟩
  have HB0 : Hid (Below w0.heap.size w0 ((w.alloc o1).alloc o2)) := hide (hB0.trans (hB12.mono hs0))
  have H1 := hide h1
  have H2 := hide h2
  have HKf : Hid ((kfiles [] fs).1 = 0 ∧ kterms (kfiles [] fs).2 ts = 0) := hide ⟨hE1, hE2⟩
  have hfl : fs.length ≤ 256 := by omega
  have htl : ts.length ≤ 256 := by omega
  subst ho1
  subst ho2
  clear h1 h2 h3 hE1 hE2 hE3 hE hB1 hB2 hs1 hs2 hB12 hn1' hn2' hn1'' hpl hK hb3 hB0
  go_enter Tryz.func60, Tryz.ntmps60
  go_wp2_with fail
  generalize hkb : w.heap.size + 1 = kb0 at *
  generalize hw2 : (w.alloc _).alloc _ = w2 at *
  clear hw2 hkb
  go_loopw [8] (fun i wr => ∃ (k : Nat) (K : KS) (ns : List ByteArray), k ≤ fs.length ∧ i = .int .i64 k ∧ Hid (∃ ρ I, RK wr (fun k => w0.heap.size ≤ k) ρ I K ∧ I.kb = kb0) ∧ Hid (KNm K) ∧ Hid (Seen K ns k ∧ (kfiles ns (fs.drop k)).1 = 0 ∧ kterms (kfiles ns (fs.drop k)).2 ts = 0 ∧ K = (fs.take k).foldl addF (KS.nought l)) ∧ Hid (Below w0.heap.size w0 wr)) (fun i _ => fs.length - (intOf i).toNat)
  case atStart => exact ⟨0, KS.nought l, [], Nat.zero_le _, rfl, HK0, hide (knm_nought l), hide ⟨⟨fun i hi => (by cases hi), rfl, rfl, rfl, rfl⟩, HKf.out.1, HKf.out.2, rfl⟩, HB0⟩
  case round =>
    clear HK0 HB0
    obtain ⟨k, K, ns, hk, rfl, HK, HNm, HS, HB⟩ := hrel
    by_cases hlt : k < fs.length
    · obtain ⟨b, off, va, vc, rfl, hbl, q0, q1, hby, -, hnm⟩ := H1.out.at k hlt
      have hc0 := (HB.out.cell (p := ⟨b, off + k * 2, none⟩) hbl).trans q0
      have hc1 := (HB.out.cell (p := ⟨b, off + k * 2 + 1, none⟩) hbl).trans q1
      have hk1 : (0 : Int) ≤ (k : Int) := by omega
      have hk2 : (k : Int) < (fs.length : Int) := by omega
      obtain ⟨hS, hF, hF2, hKe⟩ := HS.out
      rw [drop_at fs k hlt] at hF hF2
      have hKe2 := foldl_take addF (KS.nought l) fs k hlt
      rw [← hKe] at hKe2
      clear q0 q1
      generalize fs[k] = p at hc0 hc1 hnm hF hF2 hby hKe2
      obtain ⟨nm, L⟩ := p
      simp only at hc0 hc1 hnm hby
      rw [kfiles_cons] at hF hF2
      have hg : giveE ns nm = 0 := by
        by_cases hg : giveE ns nm = 0
        · exact hg
        · rw [if_neg hg] at hF; exact absurd hF hg
      rw [if_pos hg] at hF hF2
      have hL : ¬ 1048576 < L.length := fun e => by rw [if_pos e] at hF; cases hF
      rw [if_neg hL] at hF hF2
      obtain ⟨hno, hnn⟩ := giveE_zero hg
      have hnew : ∀ i ∈ K.nm, K.nameOf i ≠ nm := fun i hi e => hnn (e ▸ hS.names i hi)
      have hlenK : K.nm.length < 256 := by have := hS.len; omega
      obtain ⟨ρ, I, hK, hkb⟩ := HK.out
      have HNw := hide (Fi_rnew_good (.slice va L.length vc) L wr (hby.below HB.out) (by omega))
      have HNx : Hid (Seen (addF K (nm, L)) (ns ++ [nm]) (k + 1) ∧ (kfiles (ns ++ [nm]) (fs.drop (k + 1))).1 = 0 ∧ kterms (kfiles (ns ++ [nm]) (fs.drop (k + 1))).2 ts = 0 ∧ addF K (nm, L) = (fs.take (k + 1)).foldl addF (KS.nought l)) := hide ⟨hS.add hK.ok ⟨nm, .file L⟩, hF, hF2, hKe2.symm⟩
      have HNn : Hid (KNm (addF K (nm, L))) := hide (HNm.out.addTh hK.ok ⟨nm, .file L⟩ (.inl rfl) hno hnew)
      have HHh := hide (And.intro hK hkb)
      clear hS hF hF2 hKe hKe2 hg hno hnn hnew HS hby hK hkb
      go_wp2_with fail
      refine HNw.out.mono ?_
      rintro _ w1 ⟨rfl, ⟨u, hF1⟩, hB1⟩
      obtain ⟨hK, rfl⟩ := HHh.out
      have hO1 : RObj w1 (fun k => wr.heap.size ≤ k ∧ k < w1.heap.size) wr.heap.size (.file L) := ⟨u, wr.heap.size + 1, hF1, hF1.lt, ⟨Nat.le_refl _, hF1.lt⟩, fun k e => by have := hF1.row.lt k e; omega⟩
      have HA := hide (radd_named hK HNm.out hlenK ⟨nm, .file L⟩ hB1 hO1 (fun k e => e) (by show L.length ≤ 1048576; omega) (cs := #[.string nm, .int .i64 1, .pointer (some ⟨wr.heap.size, 0, none⟩), .pointer none, .pointer none]) rfl)
      have hc0' := (hB1.cell (p := ⟨b, off + k * 2, none⟩) (Nat.lt_of_lt_of_le hbl HB.out.size)).trans hc0
      clear hO1 hF1 hc0 hc1 hK
      go_wp2_with fail
      refine HA.out.mono ?_
      rintro _ w3 ⟨rfl, ρ3, I3, hK3, hkb3, hT3⟩
      have HK3 : Hid (∃ ρ I', RK w3 (fun k => w0.heap.size ≤ k) ρ I' (addF K (nm, L)) ∧ I'.kb = I.kb) := hide ⟨ρ3, I3, hK3, hkb3⟩
      have HB3 : Hid (Below w0.heap.size w0 w3) := hide (HB.out.trans (hT3.below (fun _ e => e) HB.out.size))
      clear hK3 hkb3 hT3 hc0'
      go_wp2
      go_roundw
      case rel => exact ⟨k + 1, addF K (nm, L), ns ++ [nm], by omega, by go_num, HK3, HNn, HNx, HB3⟩
      case measure => simp [intOf]; omega
    · obtain rfl : k = fs.length := by omega
      obtain ⟨hS, -, hF2, hKe⟩ := HS.out
      rw [List.drop_length] at hF2
      rw [List.take_length] at hKe
      have hF3 : kterms ns ts = 0 := hF2
      have HS2 : Hid (Seen K ns fs.length ∧ kterms ns ts = 0 ∧ K = fs.foldl addF (KS.nought l)) := hide ⟨hS, hF3, hKe⟩
      have hlt' : ¬ (fs.length : Int) < (fs.length : Int) := by omega
      clear HS hS hF2 hF3 hKe
      go_wp2_with fail
      go_loopw [11] (fun i wq => ∃ (k2 : Nat) (K2 : KS) (ms : List ByteArray), k2 ≤ ts.length ∧ i = .int .i64 k2 ∧ Hid (∃ ρ I, RK wq (fun k => w0.heap.size ≤ k) ρ I K2 ∧ I.kb = kb0) ∧ Hid (KNm K2) ∧ Hid (Seen K2 ms (fs.length + k2) ∧ kterms ms (ts.drop k2) = 0 ∧ K2 = (ts.take k2).foldl addT (fs.foldl addF (KS.nought l))) ∧ Hid (Below w0.heap.size w0 wq)) (fun i _ => ts.length - (intOf i).toNat)
      case atStart => exact ⟨0, K, ns, Nat.zero_le _, rfl, HK, HNm, hide ⟨HS2.out.1, HS2.out.2.1, HS2.out.2.2⟩, HB⟩
      case round =>
        clear HK HNm HB HS2
        obtain ⟨k, K, ms, hk, rfl, HK, HNm, HS, HB⟩ := hrel
        by_cases hlt2 : k < ts.length
        · obtain ⟨b, off, va, vc, rfl, hbl, q0, q1, hby, hnm⟩ := H2.out.at k hlt2
          have hc0 := (HB.out.cell (p := ⟨b, off + k * 2, none⟩) hbl).trans q0
          have hc1 := (HB.out.cell (p := ⟨b, off + k * 2 + 1, none⟩) hbl).trans q1
          have hk1 : (0 : Int) ≤ (k : Int) := by omega
          have hk2 : (k : Int) < (ts.length : Int) := by omega
          obtain ⟨hS, hF, hKe⟩ := HS.out
          rw [drop_at ts k hlt2] at hF
          have hKe2 := foldl_take addT (fs.foldl addF (KS.nought l)) ts k hlt2
          rw [← hKe] at hKe2
          clear q0 q1
          generalize ts[k] = pp at hc0 hc1 hnm hF hby hKe2
          obtain ⟨nm, ls⟩ := pp
          simp only at hc0 hc1 hnm hby
          rw [kterms_cons] at hF
          have hg : giveE ms nm = 0 := by
            by_cases hg : giveE ms nm = 0
            · exact hg
            · rw [if_neg hg] at hF; exact absurd hF hg
          rw [if_pos hg] at hF
          have hL : newE ls = 0 := by
            by_cases e : newE ls = 0
            · exact e
            · rw [if_neg e] at hF; exact absurd hF e
          rw [if_pos hL] at hF
          obtain ⟨hno, hnn⟩ := giveE_zero hg
          have hnew : ∀ i ∈ K.nm, K.nameOf i ≠ nm := fun i hi e => hnn (e ▸ hS.names i hi)
          have hlenK : K.nm.length < 256 := by have := hS.len; omega
          have hlok := newE_small hL
          obtain ⟨ρ, I, hK, hkb⟩ := HK.out
          have HNw := hide (Te_rnew_good (.slice va ls.length vc) ls wr (hby.below HB.out) (by have := hlok.1; omega) hL)
          have HNx : Hid (Seen (addT K (nm, ls)) (ms ++ [nm]) (fs.length + (k + 1)) ∧ kterms (ms ++ [nm]) (ts.drop (k + 1)) = 0 ∧ addT K (nm, ls) = (ts.take (k + 1)).foldl addT (fs.foldl addF (KS.nought l))) := hide ⟨hS.add hK.ok ⟨nm, .term ls []⟩, hF, hKe2.symm⟩
          have HNn : Hid (KNm (addT K (nm, ls))) := hide (HNm.out.addTh hK.ok ⟨nm, .term ls []⟩ (.inr rfl) hno hnew)
          have HHh := hide (And.intro hK hkb)
          clear hS hF hKe hKe2 hg hno hnn hnew HS hby hK hkb
          go_wp2_with fail
          refine HNw.out.mono ?_
          rintro _ w1 ⟨rfl, ⟨ta, tc, hT1⟩, hB1⟩
          obtain ⟨hK, rfl⟩ := HHh.out
          have hO1 : RObj w1 (fun k => wr.heap.size ≤ k ∧ k < w1.heap.size) wr.heap.size (.term ls []) := ⟨ta, tc, _, _, _, hT1, fun k e => e⟩
          have HA := hide (radd_named hK HNm.out hlenK ⟨nm, .term ls []⟩ hB1 hO1 (fun k e => e) ⟨hlok.1, hlok.2, by simp⟩ (cs := #[.string nm, .int .i64 2, .pointer none, .pointer (some ⟨wr.heap.size, 0, none⟩), .pointer none]) rfl)
          have hc0' := (hB1.cell (p := ⟨b, off + k * 2, none⟩) (Nat.lt_of_lt_of_le hbl HB.out.size)).trans hc0
          clear hO1 hT1 hc0 hc1 hK
          go_wp2_with fail
          refine HA.out.mono ?_
          rintro _ w3 ⟨rfl, ρ3, I3, hK3, hkb3, hT3⟩
          have HK3 : Hid (∃ ρ I', RK w3 (fun k => w0.heap.size ≤ k) ρ I' (addT K (nm, ls)) ∧ I'.kb = I.kb) := hide ⟨ρ3, I3, hK3, hkb3⟩
          have HB3 : Hid (Below w0.heap.size w0 w3) := hide (HB.out.trans (hT3.below (fun _ e => e) HB.out.size))
          clear hK3 hkb3 hT3 hc0'
          go_wp2
          go_roundw
          case rel => exact ⟨k + 1, addT K (nm, ls), ms ++ [nm], by omega, by go_num, HK3, HNn, HNx, HB3⟩
          case measure => simp [intOf]; omega
        · obtain rfl : k = ts.length := by omega
          obtain ⟨-, -, hKe⟩ := HS.out
          rw [List.take_length] at hKe
          have HKe : Hid (K = KS.new fs ts l) := hide hKe
          have hlt' : ¬ (ts.length : Int) < (ts.length : Int) := by omega
          clear HS hKe
          go_wp2
          go_ret
          obtain ⟨ρ, I, hK, rfl⟩ := HK.out
          rw [HKe.out] at hK
          exact ⟨ρ, I, rfl, hK, HB.out⟩
end Go.Proofs.YtejcfhjhjplcnaaGreat

/- Held: the bytes within a description's pipe. -/
namespace Go.Proofs.YtejcfhjhjplcnaaGreat
open Go.RowKit Go.Maps

theorem pheld_any (O : Nat → Prop) (p : Nat) (q : List UInt8) (rd wt : Nat) (w : World) (h : PObj w O p (.pipe q rd wt)) :
    Calls Tryz.prog 186 #[.pointer (some ⟨p, 0, none⟩)] w fun e w' => ∃ v, e = .returned v ∧ w'.ownsRow w.heap.size 5 1 v q.length (q.map bv) ∧ Below w.heap.size w w' :=
  (held_any p q rd wt w h.1).mono fun _ _ ⟨a, b, c⟩ => ⟨_, a, b, c⟩
set_option maxRecDepth 100000 in
set_option maxHeartbeats 2000000 in
theorem kheld_any (ρ : Nat → Option PTag) (I : PI) (K : KS) (d : Int) (w : World) (h : PK w ρ I K) (hd : I64 d) :
    Calls Tryz.prog 87 #[.pointer (some ⟨I.kb, 0, none⟩), .int .i64 d] w fun e w' => ∃ v, e = .returned v ∧ w'.ownsRow w.heap.size 5 1 v (K.heldOf d).length ((K.heldOf d).map bv) ∧ Below w.heap.size w w' := by
  have HF := hide (described_any ρ I K d w h hd)
  cases hx : K.find d with
  | none =>
    rw [hx] at HF
    rw [KS.heldOf_none hx]
    clear h
    go_enter Tryz.func87, Tryz.ntmps87
    go_wp2_with fail
    refine HF.out.mono ?_
    rintro e w1 ⟨rfl, rfl⟩
    unfold descV
    go_wp2
    go_ret
    exact ⟨_, rfl, World.ownsRow_nil _ _ _ _, Below.refl _ _⟩
  | some x =>
    rw [hx] at HF
    rw [KS.heldOf_some hx]
    have hm := (KS.find_some hx).1
    have c0 := (h.desc hm).thing
    have HO := hide (h.pobj hm)
    unfold descV at HF
    cases ho : K.tho x with
    | file b =>
      rw [show thingV I K x = .iface 267 (.pointer (some ⟨I.xb x.n, 0, none⟩)) by unfold thingV; rw [ho]] at c0
      clear h HO
      go_enter Tryz.func87, Tryz.ntmps87
      go_wp2_with fail
      refine HF.out.mono ?_
      rintro e w1 ⟨rfl, rfl⟩
      go_wp2_with fail
      refine (pipeOf_file _ _).mono ?_
      rintro e w2 ⟨rfl, hB2⟩
      go_wp2
      go_ret
      exact ⟨_, rfl, World.ownsRow_nil _ _ _ _, hB2.alloc hB2.size _⟩
    | term ls scr =>
      rw [show thingV I K x = .iface 127 (.pointer (some ⟨I.cb x.th, 0, none⟩)) by unfold thingV; rw [ho]] at c0
      clear h HO
      go_enter Tryz.func87, Tryz.ntmps87
      go_wp2_with fail
      refine HF.out.mono ?_
      rintro e w1 ⟨rfl, rfl⟩
      go_wp2_with fail
      refine (pipeOf_term _ _).mono ?_
      rintro e w2 ⟨rfl, hB2⟩
      go_wp2
      go_ret
      exact ⟨_, rfl, World.ownsRow_nil _ _ _ _, hB2.alloc hB2.size _⟩
    | pipe q rd wt =>
      rw [show thingV I K x = .iface 275 (.agg #[.pointer (some ⟨I.ob x.th, 0, none⟩)]) by unfold thingV; rw [ho]] at c0
      rw [ho] at HO
      clear h
      go_enter Tryz.func87, Tryz.ntmps87
      go_wp2_with fail
      refine HF.out.mono ?_
      rintro e w1 ⟨rfl, rfl⟩
      go_wp2_with fail
      refine (pipeOf_yes _ _).mono ?_
      rintro e w2 ⟨rfl, hB2⟩
      have hs2 := hB2.size
      have HB2 := hide hB2
      have hB3 := hB2.alloc hB2.size (Obj.cells #[.pointer (some ⟨I.ob x.th, 0, none⟩)] 275)
      have HB3 := hide hB3
      have HO3 := hide (HO.out.keep (fun k _ hlt => hB3.block k hlt) hB3.size)
      clear hB2 hB3
      go_wp2_with fail
      refine (pheld_any _ (I.ob x.th) q rd wt _ HO3.out).mono ?_
      rintro e w4 ⟨v, rfl, hO4, hB4⟩
      have HO4 := hide (owns_mono hO4 HB3.out.size)
      have HB4 := hide (HB3.out.trans (hB4.mono HB3.out.size))
      clear hO4 hB4
      go_wp2
      go_ret
      exact ⟨v, rfl, HO4.out, HB4.out⟩
theorem KAt.held {w : World} {O : Nat → Prop} {kb : Nat} {K : KS} (h : KAt w O kb K) (d : Int) (hd : I64 d) :
    Calls Tryz.prog 87 #[.pointer (some ⟨kb, 0, none⟩), .int .i64 d] w fun e w' => ∃ v, e = .returned v ∧ w'.ownsRow w.heap.size 5 1 v (K.heldOf d).length ((K.heldOf d).map bv) ∧ Below w.heap.size w w' := by
  obtain ⟨ρ, I, h1, rfl, h3⟩ := h
  exact kheld_any ρ I K d w h1 hd
end Go.Proofs.YtejcfhjhjplcnaaGreat

/- KernSays: what a read, a write and the questions ahead of them say, as values. No program. -/
namespace Go.Proofs.YtejcfhjhjplcnaaGreat
open Go.RowKit

end Go.Proofs.YtejcfhjhjplcnaaGreat

/- Calls of a kernel that no New made: nil, or an empty one. -/
namespace Go.Proofs.YtejcfhjhjplcnaaGreat
open Go.RowKit Go.Maps

def Unmade (p : Option Addr) (w : World) : Prop := p = none ∨ ∃ g, p = some ⟨g, 0, none⟩ ∧ w.cell? ⟨g, 0, none⟩ = some (.bool false)
theorem Unmade.below {p : Option Addr} {w w' : World} (h : Unmade p w) (hB : Below w.heap.size w w') : Unmade p w' := by
  rcases h with h | ⟨g, h1, h2⟩
  · exact .inl h
  · exact .inr ⟨g, h1, (hB.cell (p := ⟨g, 0, none⟩) (World.block_lt_of_cell? w _ h2)).trans h2⟩
set_option maxRecDepth 100000 in
theorem kcalls_any (ρ : Nat → Option PTag) (I : PI) (K : KS) (w : World) (h : PK w ρ I K) :
    Calls Tryz.prog 73 #[.pointer (some ⟨I.kb, 0, none⟩)] w fun e w' => e = .returned (.tuple #[.int .i64 K.reads, .int .i64 K.writes]) ∧ Below w.heap.size w w' := by
  have c6 := h.cells.reads
  have c7 := h.cells.writes
  have HM := hide (kmade_any I.kb w h.cells.made)
  clear h
  go_enter Tryz.func73, Tryz.ntmps73
  go_wp2_with fail
  refine HM.out.mono ?_
  rintro e w1 ⟨rfl, rfl⟩
  go_wp2_with fail
  go_quiet (fail)
  go_wp2
  go_ret2
  exact ⟨rfl, below_drewN (Below.refl _ _) _⟩
theorem tscreen_any (O : Nat → Prop) (p : Nat) (ls : List (List UInt8)) (scr : List UInt8) (w : World) (h : PObj w O p (.term ls scr)) :
    Calls Tryz.prog 185 #[.pointer (some ⟨p, 0, none⟩)] w fun e w' => ∃ v, e = .returned v ∧ w'.ownsRow w.heap.size 5 1 v scr.length (scr.map bv) ∧ Below w.heap.size w w' :=
  (po_tscreen O p ls scr w h).mono fun _ _ ⟨a, b, c⟩ => ⟨_, a, b, c⟩
set_option maxRecDepth 100000 in
set_option maxHeartbeats 1000000 in
theorem kscreen_yes (ρ : Nat → Option PTag) (I : PI) (K : KS) (s : ByteArray) (w : World) (h : PK w ρ I K) (hs : s.size ≤ maxLen) (i : Nat) (hi : i ∈ K.nm) (hn : K.nameOf i = s) (ls : List (List UInt8)) (scr : List UInt8) (ho : K.obOf i = .term ls scr) :
    Calls Tryz.prog 80 #[.pointer (some ⟨I.kb, 0, none⟩), .string s] w fun e w' => ∃ v, e = .returned (.tuple #[v, .bool true]) ∧ w'.ownsRow w.heap.size 5 1 v scr.length (scr.map bv) ∧ Below w.heap.size w w' := by
  have hith := h.ok.nm i hi
  have c2 := h.cells.terms
  have hl := look_term h hs hi hn (by rw [ho]; rfl) true
  simp only [if_true] at hl
  have hob := h.comp (.obj i) hith
  have hoe : K.th[i].ob = .term ls scr := by rw [← KS.obOf_eq hith, ho]
  rw [hoe] at hob
  have HS := hide (tscreen_any _ _ ls scr w hob)
  have hcb := (h.comp (.cons i) hith ls scr hoe).1
  have c0 : w.cell? ⟨I.cb i, 0, none⟩ = some (.pointer (some ⟨I.ob i, 0, none⟩)) := by rw [cell_of_row _ _ _ _ _ _ hcb]; rfl
  have HM := hide (kmade_any I.kb w h.cells.made)
  clear h hob hcb
  go_enter Tryz.func80, Tryz.ntmps80
  go_wp2_with fail
  refine HM.out.mono ?_
  rintro e w1 ⟨rfl, rfl⟩
  go_wp2_with fail
  refine HS.out.mono ?_
  rintro e w2 ⟨v, rfl, hO, hB⟩
  have HO := hide hO
  have HB := hide hB
  clear hO hB
  go_wp2
  go_ret2
  exact ⟨v, rfl, HO.out, HB.out⟩
theorem KAt.calls {w : World} {O : Nat → Prop} {kb : Nat} {K : KS} (h : KAt w O kb K) : Calls Tryz.prog 73 #[.pointer (some ⟨kb, 0, none⟩)] w fun e w' => e = .returned (.tuple #[.int .i64 K.reads, .int .i64 K.writes]) ∧ Below w.heap.size w w' := by
  obtain ⟨ρ, I, h1, rfl, h3⟩ := h
  exact kcalls_any ρ I K w h1
theorem KAt.screen {w : World} {O : Nat → Prop} {kb : Nat} {K : KS} (h : KAt w O kb K) (s : ByteArray) (hs : s.size ≤ maxLen) (i : Nat) (hi : i ∈ K.nm) (hn : K.nameOf i = s) (ls : List (List UInt8)) (scr : List UInt8) (ho : K.obOf i = .term ls scr) :
    Calls Tryz.prog 80 #[.pointer (some ⟨kb, 0, none⟩), .string s] w fun e w' => ∃ v, e = .returned (.tuple #[v, .bool true]) ∧ w'.ownsRow w.heap.size 5 1 v scr.length (scr.map bv) ∧ Below w.heap.size w w' := by
  obtain ⟨ρ, I, h1, rfl, h3⟩ := h
  exact kscreen_yes ρ I K s w h1 hs i hi hn ls scr ho
end Go.Proofs.YtejcfhjhjplcnaaGreat

/- The law's examples. -/
namespace Go.Proofs.YtejcfhjhjplcnaaGreat
open Go.RowKit Go.Maps

theorem no_typed (W : World) : Tps W (.slice none 0 0) [] := ⟨_, _, rfl, Nat.le_refl _, fun h => absurd h (Nat.lt_irrefl _)⟩
end Go.Proofs.YtejcfhjhjplcnaaGreat

/- KernPlace: the kernel's states, as values. -/
namespace Go.Proofs.YtejcfhjhjplcnaaGreat
open Go.RowKit Go.Maps

def nmF : ByteArray := ⟨#[102]⟩
end Go.Proofs.YtejcfhjhjplcnaaGreat

/- Bytes that came in as an argument: what a walk is told of them. -/
namespace Go.Proofs.YtejcfhjhjplcnaaGreat
open Go.ChangeShapes Go.WideShapes Go.ChangeAt Go.RowKit

theorem bytes_arg {H : Type} {enc : TypeId × Value → H} {P : Program} {W : World} {base : Nat} {a : Option Addr} {len cap fuel t e : Nat} {d : DataW H} {p : List MemPlace}
    (ht : P.underlying t = some (.slice e)) (he : P.underlying e = some (.int .u8)) (hc : P.cellsOf e = 1)
    (hf : DataW.trod enc P W base (fun _ => true) true fuel t (Value.slice a len cap).cells.toList = some (d, p)) :
    ∃ l : List UInt8, Bys W (.slice a len cap) l ∧ ((d = .nil ∧ l = []) ∨ ∃ elems spare : List (DataW H), d = .slice elems spare ∧ l.length = elems.length) := by
  rcases open_ints ht he hc hf with ⟨hcs, hd⟩ | ⟨x, n, c, zs, hcs, _, hl, hm, hz, hx, hcell, hwz⟩
  · simp [Value.cells] at hcs
    obtain ⟨rfl, rfl, rfl⟩ := hcs
    exact ⟨[], .inl ⟨rfl, rfl⟩, .inl ⟨(Prod.mk.inj hd).1, rfl⟩⟩
  · simp [Value.cells] at hcs
    obtain ⟨rfl, rfl, rfl⟩ := hcs
    simp only [if_true] at hz
    have hlen : ((zs.take len).map fun n => UInt8.ofNat n.toNat).length = len := by rw [List.length_map, List.length_take]; omega
    refine ⟨(zs.take len).map fun n => UInt8.ofNat n.toNat, ?_, .inr ⟨_, _, (Prod.mk.inj hx).1, by simp [lits]⟩⟩
    by_cases h0 : len = 0
    · subst h0
      exact .inr (.inl ⟨x, cap, rfl, by simp⟩)
    · obtain ⟨b, off, spot⟩ := x
      have hspot : spot = none := by simpa [Addr.add] using World.cell?_spot (hcell 0 (by omega))
      subst hspot
      refine .inr (.inr ⟨b, off, cap, by rw [hlen], by rw [hlen]; omega, fun j hj => ?_⟩)
      rw [hlen] at hj
      have h1 := hcell j (by omega)
      have hadd : (⟨b, off, none⟩ : Addr).add j = ⟨b, off + j, none⟩ := by unfold Addr.add; split <;> simp_all
      rw [hadd] at h1
      rw [h1]
      have hjz : j < zs.length := by omega
      have hb := bounds_u8 (hwz zs[j] (List.getElem_mem hjz))
      simp only [List.getD_eq_getElem?_getD, List.getElem?_map, List.getElem?_take, if_pos hj, List.getElem?_eq_getElem hjz, Option.map_some, Option.getD_some]
      rw [UInt8.toNat_ofNat_of_lt' (by show _ < 256; omega), Int.toNat_of_nonneg hb.1]

end Go.Proofs.YtejcfhjhjplcnaaGreat

/- Bytes, and steps, that came in as an argument: what a walk is told of them. -/
namespace Go.Proofs.YtejcfhjhjplcnaaGreat
open Go.ChangeShapes Go.WideShapes Go.ChangeAt Go.RowKit Go.Deep

theorem Kp_bys_len {W : World} {a : Option Addr} {n c : Nat} {l : List UInt8} (h : Bys W (.slice a n c) l) : n = l.length := by
  obtain ⟨a', c', he, _⟩ := bys_form h
  cases he
  rfl
theorem bytes_arg2 {H : Type} {enc : TypeId × Value → H} {P : Program} {W : World} {base : Nat} {a : Option Addr} {len cap fuel t e : Nat} {d : DataW H} {p : List MemPlace}
    (ht : P.underlying t = some (.slice e)) (he : P.underlying e = some (.int .u8)) (hc : P.cellsOf e = 1)
    (hf : DataW.trod enc P W base (fun _ => true) true fuel t (Value.slice a len cap).cells.toList = some (d, p)) :
    ∃ l : List UInt8, Bys W (.slice a len cap) l ∧ l.length ≤ cap ∧ ((d = .nil ∧ l = []) ∨ ∃ elems spare : List (DataW H), d = .slice elems spare ∧ l.length = elems.length) := by
  rcases open_ints ht he hc hf with ⟨hcs, hd⟩ | ⟨x, n, c, zs, hcs, _, hl, hm, hz, hx, hcell, hwz⟩
  · simp [Value.cells] at hcs
    obtain ⟨rfl, rfl, rfl⟩ := hcs
    exact ⟨[], .inl ⟨rfl, rfl⟩, by simp, .inl ⟨(Prod.mk.inj hd).1, rfl⟩⟩
  · simp [Value.cells] at hcs
    obtain ⟨rfl, rfl, rfl⟩ := hcs
    simp only [if_true] at hz
    have hlen : ((zs.take len).map fun n => UInt8.ofNat n.toNat).length = len := by rw [List.length_map, List.length_take]; omega
    refine ⟨(zs.take len).map fun n => UInt8.ofNat n.toNat, ?_, by rw [hlen]; exact hl, .inr ⟨_, _, (Prod.mk.inj hx).1, by simp [lits]⟩⟩
    by_cases h0 : len = 0
    · subst h0
      exact .inr (.inl ⟨x, cap, rfl, by simp⟩)
    · obtain ⟨b, off, spot⟩ := x
      have hspot : spot = none := by simpa [Addr.add] using World.cell?_spot (hcell 0 (by omega))
      subst hspot
      refine .inr (.inr ⟨b, off, cap, by rw [hlen], by rw [hlen]; omega, fun j hj => ?_⟩)
      rw [hlen] at hj
      have h1 := hcell j (by omega)
      have hadd : (⟨b, off, none⟩ : Addr).add j = ⟨b, off + j, none⟩ := by unfold Addr.add; split <;> simp_all
      rw [hadd] at h1
      rw [h1]
      have hjz : j < zs.length := by omega
      have hb := bounds_u8 (hwz zs[j] (List.getElem_mem hjz))
      simp only [List.getD_eq_getElem?_getD, List.getElem?_map, List.getElem?_take, if_pos hj, List.getElem?_eq_getElem hjz, Option.map_some, Option.getD_some]
      rw [UInt8.toNat_ofNat_of_lt' (by show _ < 256; omega), Int.toNat_of_nonneg hb.1]



def Kp_DataOf {H : Type} (d : DataW H) (x : List UInt8) : Prop := (d = .nil ∧ x = []) ∨ ∃ elems spare : List (DataW H), d = .slice elems spare ∧ x.length = elems.length

theorem Kp_weightsAll_mem {H : Type} {P : Program} {e : TypeId} : ∀ {l : List (DataW H)} {d : DataW H}, d ∈ l → ∀ n ∈ d.weights P e, n ∈ DataW.weightsAll P e l
  | d' :: r, d, hd, n, hn => by
    simp only [DataW.weightsAll, List.mem_append]
    rcases List.mem_cons.1 hd with rfl | h
    · exact Or.inl hn
    · exact Or.inr (Kp_weightsAll_mem h n hn)
end Go.Proofs.YtejcfhjhjplcnaaGreat

/- Lines, and steps, that came in as an argument: what a walk is told of them. -/
namespace Go.Proofs.YtejcfhjhjplcnaaGreat
open Go.ChangeShapes Go.WideShapes Go.ChangeAt Go.RowKit Go.Deep

def Te_DataOf {H : Type} (d : DataW H) (x : List UInt8) : Prop := (d = .nil ∧ x = []) ∨ ∃ elems spare : List (DataW H), d = .slice elems spare ∧ x.length = elems.length

theorem Te_bys_len {W : World} {a : Option Addr} {n c : Nat} {l : List UInt8} (h : Bys W (.slice a n c) l) : n = l.length := by
  obtain ⟨a', c', he, _⟩ := bys_form h
  cases he
  rfl

theorem lns_arg {H : Type} {enc : TypeId × Value → H} {P : Program} {W : World} {base : Nat} {a : Option Addr} {len cap fuel t e u : Nat} {d : DataW H} {p : List MemPlace}
    (ht : P.underlying t = some (.slice e)) (he : P.underlying e = some (.slice u)) (ce : P.cellsOf e = 1) (hu : P.underlying u = some (.int .u8)) (cu : P.cellsOf u = 1)
    (hf : DataW.trod enc P W base (fun _ => true) true fuel t (Value.slice a len cap).cells.toList = some (d, p)) :
    ∃ l : List (List UInt8), Lns W (.slice a len cap) l ∧ ((d = .nil ∧ l = []) ∨ ∃ elems spare : List (DataW H), d = .slice elems spare ∧ l.length = elems.length ∧ ∀ i (hi : i < l.length), ∃ di, di ∈ elems ∧ Te_DataOf di l[i]) := by
  rcases open_slice ht hf with ⟨hcs, hd⟩ | ⟨x, n, c, m, k, D, Pl, hcs, _, hl, hm, hmm, hx, hel⟩
  · simp [Value.cells] at hcs
    obtain ⟨rfl, rfl, rfl⟩ := hcs
    exact ⟨[], ⟨_, _, rfl, fun h => absurd h (by decide)⟩, .inl ⟨(Prod.mk.inj hd).1, rfl⟩⟩
  · simp [Value.cells] at hcs
    obtain ⟨rfl, rfl, rfl⟩ := hcs
    simp only [if_true] at hmm
    subst hmm
    have each : ∀ i, i < len → ∃ s : List UInt8, ∃ va vc, Te_DataOf (D i) s ∧ W.cell? ((x.add (i * 1)).add 0) = some (.slice va s.length vc) ∧ Bys W (.slice va s.length vc) s := by
      intro i hi
      obtain ⟨cs', h1, h2⟩ := hel i (by omega)
      rw [ce] at h1
      obtain ⟨_, hlen, hcell⟩ := World.cells?_some h1
      match cs', hlen with
      | [v0], _ =>
        obtain ⟨va, vl, vc, rfl⟩ : ∃ va vl vc, v0 = .slice va vl vc := by
          rcases DataW.trod_slice he h2 with ⟨h0, _⟩ | ⟨x, len, cap, _, _, _, _, h0, _⟩
          · exact ⟨_, _, _, by simpa using h0⟩
          · exact ⟨_, _, _, by simpa using h0⟩
        obtain ⟨s, hs, hO⟩ := bytes_arg he hu cu (by simpa [Value.cells] using h2)
        obtain rfl := Te_bys_len hs
        exact ⟨s, va, vc, hO, by simpa using hcell 0 (by simp), hs⟩
    obtain ⟨s, hs⟩ := choose_lt each
    refine ⟨(List.range len).map s, ⟨some x, m, by simp, fun h0 => ?_⟩, .inr ⟨_, _, (Prod.mk.inj hx).1, by simp, fun i hi => ?_⟩⟩
    · have h0' : 0 < len := by simpa using h0
      obtain ⟨b, off, spot⟩ := x
      obtain ⟨_, _, _, q0, _⟩ := hs 0 h0'
      have hspot : spot = none := by simpa [Addr.add] using World.cell?_spot q0
      subst hspot
      refine ⟨b, off, rfl, fun j hj => ?_⟩
      have hj' : j < len := by simpa using hj
      obtain ⟨va, vc, _, q0, hb⟩ := hs j hj'
      have hadd : ∀ o k, (⟨b, o, none⟩ : Addr).add k = ⟨b, o + k, none⟩ := fun o k => by unfold Addr.add; split <;> simp_all
      rw [hadd, hadd] at q0
      simp only [List.getElem_map, List.getElem_range]
      exact ⟨va, vc, by simpa using q0, hb⟩
    · have hi' : i < len := by simpa using hi
      obtain ⟨va, vc, hO, _⟩ := hs i hi'
      exact ⟨D i, List.mem_map.2 ⟨i, by simpa using hi', rfl⟩, by simpa using hO⟩

end Go.Proofs.YtejcfhjhjplcnaaGreat

/- Faults, and ints, that came in as an argument: what a walk is told of them. -/
namespace Go.Proofs.YtejcfhjhjplcnaaGreat
open Go.ChangeShapes Go.WideShapes Go.ChangeAt Go.RowKit Go.Deep

theorem faults_arg {H : Type} {enc : TypeId × Value → H} {P : Program} {W : World} {base : Nat} {a : Option Addr} {len cap fuel t e : Nat} {f0 f1 : Field} {d : DataW H} {p : List MemPlace}
    (ht : P.underlying t = some (.slice e)) (he : P.underlying e = some (.struct #[f0, f1])) (ce : P.cellsOf e = 2) (o0 : f0.offset = 0) (o1 : f1.offset = 1) (c0 : P.cellsOf f0.type = 1) (c1 : P.cellsOf f1.type = 1)
    (t0 : P.underlying f0.type = some (.int .i64)) (t1 : P.underlying f1.type = some (.int .i64))
    (hf : DataW.trod enc P W base (fun _ => true) true fuel t (Value.slice a len cap).cells.toList = some (d, p)) :
    ∃ l : List Fault, Flts W (.slice a len cap) l ∧ ((d = .nil ∧ l = []) ∨ ∃ elems spare : List (DataW H), d = .slice elems spare ∧ l.length = elems.length) := by
  rcases open_slice_pairs ht he ce o0 o1 c0 c1 hf with ⟨hcs, hd⟩ | ⟨x, n, c, m, q, V0, V1, D0, D1, P0, P1, hcs, _, hl, hm, hmm, hx, hcell⟩
  · simp [Value.cells] at hcs
    obtain ⟨rfl, rfl, rfl⟩ := hcs
    exact ⟨[], .inl ⟨rfl, rfl⟩, .inl ⟨(Prod.mk.inj hd).1, rfl⟩⟩
  · simp [Value.cells] at hcs
    obtain ⟨rfl, rfl, rfl⟩ := hcs
    simp only [if_true] at hmm
    subst hmm
    have hz : ∀ i, i < m → ∃ y z, V0 i = .int .i64 y ∧ V1 i = .int .i64 z := fun i hi => by
      obtain ⟨_, _, h0, h1⟩ := hcell i hi
      obtain ⟨y, hy, _⟩ := DataW.trod_int t0 h0
      obtain ⟨z, hz, _⟩ := DataW.trod_int t1 h1
      exact ⟨y, z, by simpa using hy, by simpa using hz⟩
    let val : Value → Int := fun | .int _ z => z | _ => 0
    refine ⟨(List.range len).map fun i => (val (V0 i), val (V1 i)), ?_, .inr ⟨_, _, (Prod.mk.inj hx).1, by simp⟩⟩
    by_cases h0 : len = 0
    · subst h0
      exact .inr (.inl ⟨x, m, rfl, by simp⟩)
    · obtain ⟨b, off, spot⟩ := x
      have hspot : spot = none := by simpa [Addr.add] using World.cell?_spot (hcell 0 (by omega)).1
      subst hspot
      refine .inr (.inr ⟨b, off, m, by simp, by simp; omega, by simpa using hl, fun j hj => ?_⟩)
      have hj' : j < len := by simpa using hj
      obtain ⟨h1, h2, _⟩ := hcell j (by omega)
      obtain ⟨y, z, hy, hz⟩ := hz j (by omega)
      have hadd : ∀ k, (⟨b, off, none⟩ : Addr).add k = ⟨b, off + k, none⟩ := fun k => by unfold Addr.add; split <;> simp_all
      rw [hadd] at h1 h2
      rw [h1, Nat.add_assoc, h2, hy, hz]
      simp [List.getD_eq_getElem?_getD, hj', hy, hz, val]

def Fa_Ints (W : World) (v : Value) (l : List Int) : Prop :=
  ∃ a c, v = .slice a l.length c ∧ (0 < l.length → ∃ b off, a = some ⟨b, off, none⟩ ∧ ∀ j, j < l.length → W.cell? ⟨b, off + j, none⟩ = some (.int .i64 (l.getD j 0)))
theorem Fa_Ints.below {W W' : World} {v : Value} {l : List Int} (h : Fa_Ints W v l) (hB : Below W.heap.size W W') : Fa_Ints W' v l := by
  obtain ⟨a, c, rfl, h⟩ := h
  refine ⟨a, c, rfl, fun h0 => ?_⟩
  obtain ⟨b, off, rfl, hc⟩ := h h0
  refine ⟨b, off, rfl, fun j hj => ?_⟩
  have := World.block_lt_of_cell? W _ (hc j hj)
  exact (hB.cell (p := ⟨b, off + j, none⟩) this).trans (hc j hj)

end Go.Proofs.YtejcfhjhjplcnaaGreat

/- Files, terminals, steps and setups that came in as an argument: what a walk is told of them, and their sizes. -/
namespace Go.Proofs.YtejcfhjhjplcnaaGreat
open Go.ChangeShapes Go.WideShapes Go.ChangeAt Go.RowKit Go.Deep

def Small {H : Type} (P : Program) (t : TypeId) (d : DataW H) : Prop := ∀ n ∈ d.weights P t, n ≤ reachBytes
theorem small_arg {H : Type} {P : Program} {ts : List TypeId} {ds : List (DataW H)} (h : (DataW.weightsEach P ts ds).all (· ≤ reachBytes) = true) {j : Nat} {t : TypeId} {d : DataW H} (ht : ts[j]? = some t) (hd : ds[j]? = some d) : Small P t d :=
  fun n hn => of_decide_eq_true (List.all_eq_true.1 h _ (DataW.weights_mem_each ht hd n hn))
theorem Small.slice {H : Type} {P : Program} {t e : TypeId} {es sp : List (DataW H)} (h : Small P t (.slice es sp)) (hu : P.underlying t = some (.slice e)) : (es.length + sp.length) * P.bytesOf e ≤ reachBytes ∧ ∀ d ∈ es, Small P e d :=
  ⟨h _ (by simp [DataW.weights, hu]), fun d hd n hn => h n (by
    simp only [DataW.weights, hu, List.mem_cons, List.mem_append]
    exact Or.inr (Or.inl (Kp_weightsAll_mem hd n hn)))⟩
theorem Small.fields {H : Type} {P : Program} {t : TypeId} {fs : Array Field} {ds : List (DataW H)} (h : Small P t (.agg ds)) (hu : P.underlying t = some (.struct fs)) (j : Nat) (f : Field) (d : DataW H) (hf : fs[j]? = some f) (hd : ds[j]? = some d) : Small P f.type d := fun n hn => h n (by
    simp only [DataW.weights, hu]
    exact DataW.weights_mem_each (by rw [List.getElem?_map, Array.getElem?_toList, hf]; rfl) hd n hn)

def LnD {H : Type} (d : DataW H) (ls : List (List UInt8)) : Prop := (d = .nil ∧ ls = []) ∨ ∃ elems spare : List (DataW H), d = .slice elems spare ∧ ls.length = elems.length ∧ ∀ i (hi : i < ls.length), ∃ di, di ∈ elems ∧ Te_DataOf di ls[i]
def NmD {H : Type} (d : DataW H) (l : List Nm) : Prop := (d = .nil ∧ l = []) ∨ ∃ elems spare : List (DataW H), d = .slice elems spare ∧ l.length = elems.length ∧ ∀ i (hi : i < l.length), ∃ x0 d1, DataW.agg [x0, d1] ∈ elems ∧ Kp_DataOf d1 l[i].2
def TpD {H : Type} (d : DataW H) (l : List Tp) : Prop := (d = .nil ∧ l = []) ∨ ∃ elems spare : List (DataW H), d = .slice elems spare ∧ l.length = elems.length ∧ ∀ i (hi : i < l.length), ∃ x0 d1, DataW.agg [x0, d1] ∈ elems ∧ LnD d1 l[i].2
theorem bytes_small {H : Type} {P : Program} {t e : TypeId} {d : DataW H} {x : List UInt8} (h : Small P t d) (hu : P.underlying t = some (.slice e)) (be : P.bytesOf e = 1) (hO : Kp_DataOf d x) : x.length ≤ 140737488351232 := by
  rcases hO with ⟨_, rfl⟩ | ⟨es, sp, rfl, hl⟩
  · simp
  · have := (h.slice hu).1
    rw [be] at this
    simp only [reachBytes] at this
    omega
theorem lines_small {H : Type} {P : Program} {t e u : TypeId} {d : DataW H} {ls : List (List UInt8)} (h : Small P t d) (hu : P.underlying t = some (.slice e)) (he : P.underlying e = some (.slice u)) (be : P.bytesOf e = 24) (bu : P.bytesOf u = 1) (hO : LnD d ls) : ls.length * 24 ≤ 140737488351232 ∧ ∀ i (hi : i < ls.length), ls[i].length ≤ 140737488351232 := by
  rcases hO with ⟨_, rfl⟩ | ⟨es, sp, rfl, hl, hel⟩
  · exact ⟨by simp, fun i hi => absurd hi (by simp)⟩
  · obtain ⟨h1, h2⟩ := h.slice hu
    rw [be] at h1
    simp only [reachBytes] at h1
    refine ⟨by omega, fun i hi => ?_⟩
    obtain ⟨di, hm, hO⟩ := hel i hi
    exact bytes_small (h2 di hm) he bu hO
theorem named_small {H : Type} {P : Program} {t e u : TypeId} {f0 f1 : Field} {d : DataW H} {l : List Nm} (h : Small P t d) (hu : P.underlying t = some (.slice e)) (be : P.bytesOf e = 40) (he : P.underlying e = some (.struct #[f0, f1])) (t1 : P.underlying f1.type = some (.slice u)) (bu : P.bytesOf u = 1) (hO : NmD d l) : l.length * 40 ≤ 140737488351232 ∧ ∀ i (hi : i < l.length), l[i].2.length ≤ 140737488351232 := by
  rcases hO with ⟨_, rfl⟩ | ⟨es, sp, rfl, hl, hel⟩
  · exact ⟨by simp, fun i hi => absurd hi (by simp)⟩
  · obtain ⟨h1, h2⟩ := h.slice hu
    rw [be] at h1
    simp only [reachBytes] at h1
    refine ⟨by omega, fun i hi => ?_⟩
    obtain ⟨x0, d1, hm, hO⟩ := hel i hi
    exact bytes_small ((h2 _ hm).fields he 1 f1 d1 rfl rfl) t1 bu hO
theorem typed_small {H : Type} {P : Program} {t e u v : TypeId} {f0 f1 : Field} {d : DataW H} {l : List Tp} (h : Small P t d) (hu : P.underlying t = some (.slice e)) (be : P.bytesOf e = 40) (he : P.underlying e = some (.struct #[f0, f1])) (t1 : P.underlying f1.type = some (.slice u)) (tu : P.underlying u = some (.slice v)) (bu : P.bytesOf u = 24) (bv : P.bytesOf v = 1) (hO : TpD d l) :
    l.length * 40 ≤ 140737488351232 ∧ ∀ i (hi : i < l.length), l[i].2.length * 24 ≤ 140737488351232 ∧ ∀ k (hk : k < l[i].2.length), l[i].2[k].length ≤ 140737488351232 := by
  rcases hO with ⟨_, rfl⟩ | ⟨es, sp, rfl, hl, hel⟩
  · exact ⟨by simp, fun i hi => absurd hi (by simp)⟩
  · obtain ⟨h1, h2⟩ := h.slice hu
    rw [be] at h1
    simp only [reachBytes] at h1
    refine ⟨by omega, fun i hi => ?_⟩
    obtain ⟨x0, d1, hm, hO⟩ := hel i hi
    exact lines_small ((h2 _ hm).fields he 1 f1 d1 rfl rfl) t1 tu bu bv hO

theorem named_cells {H : Type} {enc : TypeId × Value → H} {P : Program} {W : World} {base : Nat} {fuel e u : Nat} {f0 f1 : Field} {cs : List Value} {d : DataW H} {p : List MemPlace}
    (he : P.underlying e = some (.struct #[f0, f1])) (ce : P.cellsOf e = 2) (o0 : f0.offset = 0) (o1 : f1.offset = 1) (c0 : P.cellsOf f0.type = 1) (c1 : P.cellsOf f1.type = 1)
    (t0 : P.underlying f0.type = some .string) (t1 : P.underlying f1.type = some (.slice u)) (tu : P.underlying u = some (.int .u8)) (cu : P.cellsOf u = 1)
    (h : DataW.trod enc P W base (fun _ => true) true fuel e cs = some (d, p)) :
    ∃ (x : Nm) (va : Option Addr) (vc : Nat) (d1 : DataW H), cs = [.string x.1, .slice va x.2.length vc] ∧ (Bys W (.slice va x.2.length vc) x.2 ∧ x.2.length ≤ vc ∧ x.1.size ≤ maxLen) ∧ (∃ x0, d = .agg [x0, d1]) ∧ Kp_DataOf d1 x.2 := by
  obtain ⟨xs, k, hk, hxy, hcl, hxl, hf⟩ := DataW.trod_struct he h
  rw [ce] at hcl
  match xs, hxl, cs, hcl with
  | [y0, y1], _, [v0, v1], _ =>
    have g0 := hf 0 f0 rfl
    have g1 := hf 1 f1 rfl
    simp [o0, c0] at g0
    simp [o1, c1] at g1
    obtain ⟨a, ha, _, hsz⟩ := DataW.trod_string t0 g0
    obtain rfl : v0 = .string a := by simpa using ha
    obtain ⟨va, vl, vc, rfl⟩ : ∃ va vl vc, v1 = .slice va vl vc := by
      rcases DataW.trod_slice t1 g1 with ⟨h0, _⟩ | ⟨x, len, cap, _, _, _, _, h0, _⟩
      · exact ⟨_, _, _, by simpa using h0⟩
      · exact ⟨_, _, _, by simpa using h0⟩
    obtain ⟨y1a, y1b⟩ := y1
    obtain ⟨l, hl, hlc, hd⟩ := bytes_arg2 t1 tu cu (by simpa [Value.cells] using g1)
    obtain rfl := Kp_bys_len hl
    simp only [Prod.mk.injEq] at hxy
    exact ⟨(a, l), va, vc, y1a, rfl, ⟨hl, hlc, hsz⟩, ⟨_, by simpa using hxy.1⟩, hd⟩
theorem nms_arg {H : Type} {enc : TypeId × Value → H} {P : Program} {W : World} {base : Nat} {a : Option Addr} {len cap fuel t e u : Nat} {f0 f1 : Field} {d : DataW H} {p : List MemPlace}
    (ht : P.underlying t = some (.slice e)) (he : P.underlying e = some (.struct #[f0, f1])) (ce : P.cellsOf e = 2) (o0 : f0.offset = 0) (o1 : f1.offset = 1) (c0 : P.cellsOf f0.type = 1) (c1 : P.cellsOf f1.type = 1)
    (t0 : P.underlying f0.type = some .string) (t1 : P.underlying f1.type = some (.slice u)) (tu : P.underlying u = some (.int .u8)) (cu : P.cellsOf u = 1)
    (hf : DataW.trod enc P W base (fun _ => true) true fuel t (Value.slice a len cap).cells.toList = some (d, p)) : ∃ l : List Nm, Nms W (.slice a len cap) l ∧ NmD d l := by
  rcases open_slice ht hf with ⟨hcs, hd⟩ | ⟨x, n, c, m, k, D, Pl, hcs, _, hl, hm, hmm, hx, hel⟩
  · simp [Value.cells] at hcs
    obtain ⟨rfl, rfl, rfl⟩ := hcs
    exact ⟨[], ⟨_, _, rfl, Nat.le_refl _, fun h => absurd h (by decide)⟩, .inl ⟨(Prod.mk.inj hd).1, rfl⟩⟩
  · simp [Value.cells] at hcs
    obtain ⟨rfl, rfl, rfl⟩ := hcs
    simp only [if_true] at hmm
    subst hmm
    have each : ∀ i, i < len → ∃ s : Nm, ∃ va vc, (∃ x0 d1, D i = .agg [x0, d1] ∧ Kp_DataOf d1 s.2) ∧
        W.cell? ((x.add (i * 2)).add 0) = some (.string s.1) ∧ W.cell? ((x.add (i * 2)).add 1) = some (.slice va s.2.length vc) ∧ Bys W (.slice va s.2.length vc) s.2 ∧ s.2.length ≤ vc ∧ s.1.size ≤ maxLen := by
      intro i hi
      obtain ⟨cs', h1, h2⟩ := hel i (by omega)
      rw [ce] at h1
      obtain ⟨_, hlen, hcell⟩ := World.cells?_some h1
      obtain ⟨s, va, vc, d1, rfl, hb, ⟨x0, hD⟩, hO⟩ := named_cells he ce o0 o1 c0 c1 t0 t1 tu cu h2
      exact ⟨s, va, vc, ⟨x0, d1, hD, hO⟩, by simpa using hcell 0 (by omega), by simpa using hcell 1 (by omega), hb⟩
    obtain ⟨s, hs⟩ := choose_lt each
    refine ⟨(List.range len).map s, ⟨some x, m, by simp, by simpa using hl, fun h0 => ?_⟩, .inr ⟨_, _, (Prod.mk.inj hx).1, by simp, fun i hi => ?_⟩⟩
    · have h0' : 0 < len := by simpa using h0
      obtain ⟨b, off, spot⟩ := x
      obtain ⟨_, _, _, q0, _⟩ := hs 0 h0'
      have hspot : spot = none := by simpa [Addr.add] using World.cell?_spot q0
      subst hspot
      refine ⟨b, off, rfl, fun j hj => ?_⟩
      have hj' : j < len := by simpa using hj
      obtain ⟨va, vc, _, q0, q1, hb⟩ := hs j hj'
      have hadd : ∀ o k, (⟨b, o, none⟩ : Addr).add k = ⟨b, o + k, none⟩ := fun o k => by unfold Addr.add; split <;> simp_all
      rw [hadd, hadd] at q0 q1
      simp only [List.getElem_map, List.getElem_range]
      exact ⟨va, vc, by simpa using q0, q1, hb⟩
    · have hi' : i < len := by simpa using hi
      obtain ⟨va, vc, ⟨x0, d1, hD, hO⟩, _⟩ := hs i hi'
      refine ⟨x0, d1, ?_, by simpa using hO⟩
      rw [← hD]
      exact List.mem_map.2 ⟨i, by simpa using hi', rfl⟩
theorem typed_cells {H : Type} {enc : TypeId × Value → H} {P : Program} {W : World} {base : Nat} {fuel e u v : Nat} {f0 f1 : Field} {cs : List Value} {d : DataW H} {p : List MemPlace}
    (he : P.underlying e = some (.struct #[f0, f1])) (ce : P.cellsOf e = 2) (o0 : f0.offset = 0) (o1 : f1.offset = 1) (c0 : P.cellsOf f0.type = 1) (c1 : P.cellsOf f1.type = 1)
    (t0 : P.underlying f0.type = some .string) (t1 : P.underlying f1.type = some (.slice u)) (tu : P.underlying u = some (.slice v)) (cu : P.cellsOf u = 1) (tv : P.underlying v = some (.int .u8)) (cv : P.cellsOf v = 1)
    (h : DataW.trod enc P W base (fun _ => true) true fuel e cs = some (d, p)) :
    ∃ (x : Tp) (va : Option Addr) (vc : Nat) (d1 : DataW H), cs = [.string x.1, .slice va x.2.length vc] ∧ (Lns W (.slice va x.2.length vc) x.2 ∧ x.1.size ≤ maxLen) ∧ (∃ x0, d = .agg [x0, d1]) ∧ LnD d1 x.2 := by
  obtain ⟨xs, k, hk, hxy, hcl, hxl, hf⟩ := DataW.trod_struct he h
  rw [ce] at hcl
  match xs, hxl, cs, hcl with
  | [y0, y1], _, [v0, v1], _ =>
    have g0 := hf 0 f0 rfl
    have g1 := hf 1 f1 rfl
    simp [o0, c0] at g0
    simp [o1, c1] at g1
    obtain ⟨a, ha, _, hsz⟩ := DataW.trod_string t0 g0
    obtain rfl : v0 = .string a := by simpa using ha
    obtain ⟨va, vl, vc, rfl⟩ : ∃ va vl vc, v1 = .slice va vl vc := by
      rcases DataW.trod_slice t1 g1 with ⟨h0, _⟩ | ⟨x, len, cap, _, _, _, _, h0, _⟩
      · exact ⟨_, _, _, by simpa using h0⟩
      · exact ⟨_, _, _, by simpa using h0⟩
    obtain ⟨y1a, y1b⟩ := y1
    obtain ⟨l, hl, hd⟩ := lns_arg t1 tu cu tv cv (by simpa [Value.cells] using g1)
    obtain rfl : vl = l.length := by
      obtain ⟨a', c', he, _⟩ := hl
      cases he
      rfl
    simp only [Prod.mk.injEq] at hxy
    exact ⟨(a, l), va, vc, y1a, rfl, ⟨hl, hsz⟩, ⟨_, by simpa using hxy.1⟩, hd⟩
theorem tps_arg {H : Type} {enc : TypeId × Value → H} {P : Program} {W : World} {base : Nat} {a : Option Addr} {len cap fuel t e u v : Nat} {f0 f1 : Field} {d : DataW H} {p : List MemPlace}
    (ht : P.underlying t = some (.slice e)) (he : P.underlying e = some (.struct #[f0, f1])) (ce : P.cellsOf e = 2) (o0 : f0.offset = 0) (o1 : f1.offset = 1) (c0 : P.cellsOf f0.type = 1) (c1 : P.cellsOf f1.type = 1)
    (t0 : P.underlying f0.type = some .string) (t1 : P.underlying f1.type = some (.slice u)) (tu : P.underlying u = some (.slice v)) (cu : P.cellsOf u = 1) (tv : P.underlying v = some (.int .u8)) (cv : P.cellsOf v = 1)
    (hf : DataW.trod enc P W base (fun _ => true) true fuel t (Value.slice a len cap).cells.toList = some (d, p)) : ∃ l : List Tp, Tps W (.slice a len cap) l ∧ TpD d l := by
  rcases open_slice ht hf with ⟨hcs, hd⟩ | ⟨x, n, c, m, k, D, Pl, hcs, _, hl, hm, hmm, hx, hel⟩
  · simp [Value.cells] at hcs
    obtain ⟨rfl, rfl, rfl⟩ := hcs
    exact ⟨[], ⟨_, _, rfl, Nat.le_refl _, fun h => absurd h (by decide)⟩, .inl ⟨(Prod.mk.inj hd).1, rfl⟩⟩
  · simp [Value.cells] at hcs
    obtain ⟨rfl, rfl, rfl⟩ := hcs
    simp only [if_true] at hmm
    subst hmm
    have each : ∀ i, i < len → ∃ s : Tp, ∃ va vc, (∃ x0 d1, D i = .agg [x0, d1] ∧ LnD d1 s.2) ∧
        W.cell? ((x.add (i * 2)).add 0) = some (.string s.1) ∧ W.cell? ((x.add (i * 2)).add 1) = some (.slice va s.2.length vc) ∧ Lns W (.slice va s.2.length vc) s.2 ∧ s.1.size ≤ maxLen := by
      intro i hi
      obtain ⟨cs', h1, h2⟩ := hel i (by omega)
      rw [ce] at h1
      obtain ⟨_, hlen, hcell⟩ := World.cells?_some h1
      obtain ⟨s, va, vc, d1, rfl, hb, ⟨x0, hD⟩, hO⟩ := typed_cells he ce o0 o1 c0 c1 t0 t1 tu cu tv cv h2
      exact ⟨s, va, vc, ⟨x0, d1, hD, hO⟩, by simpa using hcell 0 (by omega), by simpa using hcell 1 (by omega), hb⟩
    obtain ⟨s, hs⟩ := choose_lt each
    refine ⟨(List.range len).map s, ⟨some x, m, by simp, by simpa using hl, fun h0 => ?_⟩, .inr ⟨_, _, (Prod.mk.inj hx).1, by simp, fun i hi => ?_⟩⟩
    · have h0' : 0 < len := by simpa using h0
      obtain ⟨b, off, spot⟩ := x
      obtain ⟨_, _, _, q0, _⟩ := hs 0 h0'
      have hspot : spot = none := by simpa [Addr.add] using World.cell?_spot q0
      subst hspot
      refine ⟨b, off, rfl, fun j hj => ?_⟩
      have hj' : j < len := by simpa using hj
      obtain ⟨va, vc, _, q0, q1, hb⟩ := hs j hj'
      have hadd : ∀ o k, (⟨b, o, none⟩ : Addr).add k = ⟨b, o + k, none⟩ := fun o k => by unfold Addr.add; split <;> simp_all
      rw [hadd, hadd] at q0 q1
      simp only [List.getElem_map, List.getElem_range]
      exact ⟨va, vc, by simpa using q0, q1, hb⟩
    · have hi' : i < len := by simpa using hi
      obtain ⟨va, vc, ⟨x0, d1, hD, hO⟩, _⟩ := hs i hi'
      refine ⟨x0, d1, ?_, by simpa using hO⟩
      rw [← hD]
      exact List.mem_map.2 ⟨i, by simpa using hi', rfl⟩

def FlD {H : Type} (d : DataW H) (l : List Fault) : Prop := (d = .nil ∧ l = []) ∨ ∃ elems spare : List (DataW H), d = .slice elems spare ∧ l.length = elems.length
theorem faults_small {H : Type} {P : Program} {t e : TypeId} {d : DataW H} {l : List Fault} (h : Small P t d) (hu : P.underlying t = some (.slice e)) (be : P.bytesOf e = 16) (hO : FlD d l) : l.length * 16 ≤ 140737488351232 := by
  rcases hO with ⟨_, rfl⟩ | ⟨es, sp, rfl, hl⟩
  · simp
  · have := (h.slice hu).1
    rw [be] at this
    simp only [reachBytes] at this
    omega

theorem setup_cells {H : Type} {enc : TypeId × Value → H} {P : Program} {W : World} {base : Nat} {fuel e : Nat} {f0 f1 f2 : Field} {cs : List Value} {d : DataW H} {p : List MemPlace}
    (he : P.underlying e = some (.struct #[f0, f1, f2])) (ce : P.cellsOf e = 3) (o0 : f0.offset = 0) (o1 : f1.offset = 1) (o2 : f2.offset = 2) (c0 : P.cellsOf f0.type = 1) (c1 : P.cellsOf f1.type = 1) (c2 : P.cellsOf f2.type = 1)
    {n0 n1 n2 : Nat} (t0 : P.underlying f0.type = some (.slice n0)) (t1 : P.underlying f1.type = some (.slice n1)) (t2 : P.underlying f2.type = some (.slice n2))
    (h : DataW.trod enc P W base (fun _ => true) true fuel e cs = some (d, p)) :
    ∃ a0 l0 k0 a1 l1 k1 a2 l2 k2 d0 d1 d2 fl q0 q1 q2, cs = [.slice a0 l0 k0, .slice a1 l1 k1, .slice a2 l2 k2] ∧ d = .agg [d0, d1, d2] ∧
      DataW.trod enc P W base (fun _ => true) true fl f0.type (Value.slice a0 l0 k0).cells.toList = some (d0, q0) ∧ DataW.trod enc P W base (fun _ => true) true fl f1.type (Value.slice a1 l1 k1).cells.toList = some (d1, q1) ∧ DataW.trod enc P W base (fun _ => true) true fl f2.type (Value.slice a2 l2 k2).cells.toList = some (d2, q2) := by
  obtain ⟨xs, k, hk, hxy, hcl, hxl, hf⟩ := DataW.trod_struct he h
  rw [ce] at hcl
  match xs, hxl, cs, hcl with
  | [(d0, q0), (d1, q1), (d2, q2)], _, [v0, v1, v2], _ =>
    have g0 := hf 0 f0 rfl
    have g1 := hf 1 f1 rfl
    have g2 := hf 2 f2 rfl
    simp [o0, c0] at g0
    simp [o1, c1] at g1
    simp [o2, c2] at g2
    have sl : ∀ {t n v x}, P.underlying t = some (.slice n) → DataW.trod enc P W base (fun _ => true) true k t [v] = some x → ∃ va vl vc, v = .slice va vl vc := fun ht hg => by
      rcases DataW.trod_slice ht hg with ⟨h0, _⟩ | ⟨x, len, cap, _, _, _, _, h0, _⟩
      · exact ⟨_, _, _, by simpa using h0⟩
      · exact ⟨_, _, _, by simpa using h0⟩
    obtain ⟨a0, l0, k0, rfl⟩ := sl t0 g0
    obtain ⟨a1, l1, k1, rfl⟩ := sl t1 g1
    obtain ⟨a2, l2, k2, rfl⟩ := sl t2 g2
    simp only [Prod.mk.injEq] at hxy
    exact ⟨a0, l0, k0, a1, l1, k1, a2, l2, k2, d0, d1, d2, k, q0, q1, q2, rfl, by simpa using hxy.1, by simpa [Value.cells] using g0, by simpa [Value.cells] using g1, by simpa [Value.cells] using g2⟩

structure KSt where
  what : Int
  name : ByteArray
  a : Int
  b : Int
  c : Int
  data : List UInt8
  deriving Inhabited
end Go.Proofs.YtejcfhjhjplcnaaGreat
