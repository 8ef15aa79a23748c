/- What the proof stands on, part 18: the contracts of the program's calls that it reaches. -/
import Derived.Test.YtkkicbhmcjbmbaaGreatKM17
/- The reference's kernel: Open, of a name that is there. -/
namespace Go.Proofs.YtkkicbhmcjbmbaaGreat
open Go.RowKit

set_option maxRecDepth 100000 in
set_option maxHeartbeats 4000000 in
theorem rkopen_old (B : Nat → Prop) (ρ : Nat → Option Tag) (I : RI) (K : KS) (s : ByteArray) (flags : Int) (w : World) (h : RK w B ρ I K) (hs : s.size ≤ maxLen) (hn1 : 1 ≤ K.next) (hn : K.next < 9223372036854775807) (k0 : nameOk s = true) (k1 : flagsOk flags = true) (k2 : ¬ 256 ≤ K.de.length) {i : Nat} (hby : K.byName s = some i) :
    Calls Tryz.prog 30 #[.pointer (some ⟨I.kb, 0, none⟩), .string s, .int .i64 flags] w (RKNum w B I.kb (K.open s flags)) := by
  have HX := hide fun E => RKNum.refused h 0 E
  have hi : i < K.th.length := h.ok.nm i (List.mem_of_find?_eq_some hby)
  have hb := (h.comp .kern).1
  have c1 : w.cell? ⟨I.kb, 1, none⟩ = some I.vD := by rw [cell_of_row w I.kb 1 _ _ _ hb]; rfl
  obtain ⟨da, dc, hdv⟩ := owns_slice (h.comp .drow).1
  rw [hdv] at c1
  have HN := hide (named_any s w hs)
  have HF := hide (flagged_any flags w)
  have HT := hide (rthing_any B ρ I K s w h)
  rw [k0] at HN
  rw [k1] at HF
  rw [hby] at HT
  obtain ⟨-, t1, t2, t3⟩ := h.tcell hi
  have k3 : ¬ (256 : Int) ≤ (K.de.length : Int) := by omega
  have hO : K.open s flags = if fbit flags 32 = 0 then ((K.next : Int), 0, (K.cut i flags).newDe i flags) else (0, 63, K) := by
    unfold KS.open
    rw [if_neg (by simp [k0]), if_neg (by simp [k1]), if_neg k2, hby]
  obtain ⟨v5, hv5⟩ : ∃ v5, bits .and .i64 flags 32 = v5 := ⟨_, rfl⟩
  rw [show fbit flags 32 = v5 from hv5] at hO
  have HH := hide h
  have HO := hide ((h.comp (.obj i)) hi)
  clear h hb hdv
  by_cases e5 : v5 = 0
  case neg =>
    have m5 : (v5 == 0) = false := by simpa using e5
    have m5' : (v5 != 0) = true := by simpa using e5
    rw [if_neg e5] at hO
    rw [hO]
    clear t1 t2 t3
    go_enter Tryz.func30, Tryz.ntmps30
    go_wp2_with fail
    refine HN.out.mono ?_
    rintro e w ⟨rfl, rfl⟩
    go_wp2_with fail
    refine HF.out.mono ?_
    rintro e w ⟨rfl, rfl⟩
    go_wp2_with fail
    refine HT.out.mono ?_
    rintro e w ⟨rfl, rfl⟩
    simp only [Option.map_some]
    go_wp2
    go_ret2
    exact HX.out 63
  subst e5
  rw [if_pos rfl] at hO
  rw [hO]
  obtain ⟨v16, hv16⟩ : ∃ v16, bits .and .i64 flags 16 = v16 := ⟨_, rfl⟩
  have hcut : K.cut i flags = if v16 = 0 then K else (match K.obOf i with | .file _ => K.setOb i (.file []) | _ => K) := by
    unfold KS.cut bit
    rw [show fbit flags 16 = v16 from hv16]
    by_cases e : v16 = 0
    · rw [if_pos e, e]; rfl
    · rw [if_neg e, if_pos (by simpa using e)]
      first | done | rfl
  have HCut := hide hcut
  by_cases hfile : (∃ f, K.obOf i = .file f) ∧ ¬ v16 = 0
  case neg =>
    -- nothing is emptied
    have hsame : K.cut i flags = K := by
      rw [hcut]
      split
      · rfl
      · rename_i e
        cases ho : K.obOf i with
        | file f => exact absurd ⟨⟨f, ho⟩, e⟩ hfile
        | term _ _ => rfl
        | pipe _ _ _ => rfl
    rw [hsame]
    have hD := rdesc_any B ρ I K i flags w HH.out hi k1 (by omega) hn1 hn
    have HD := hide hD
    have hk : ((K.obOf i).kind = 1 ∧ v16 = 0) ∨ (¬ (K.obOf i).kind = 1 ∧ ((K.obOf i).kind == 1) = false) := by
      cases ho : K.obOf i with
      | file f => exact .inl ⟨rfl, by by_cases e : v16 = 0; exact e; exact absurd ⟨⟨f, ho⟩, e⟩ hfile⟩
      | term _ _ => exact .inr ⟨by simp [Ob.kind], by simp [Ob.kind]⟩
      | pipe _ _ _ => exact .inr ⟨by simp [Ob.kind], by simp [Ob.kind]⟩
    generalize (K.obOf i).kind = kd at *
    clear hsame hcut HCut t2 t3 hfile hD hO
    rcases hk with ⟨rfl, rfl⟩ | ⟨g1, g2⟩
    all_goals
      go_enter Tryz.func30, Tryz.ntmps30
      go_wp2_with fail
      refine HN.out.mono ?_
      rintro e w ⟨rfl, rfl⟩
      go_wp2_with fail
      refine HF.out.mono ?_
      rintro e w ⟨rfl, rfl⟩
      go_wp2_with fail
      refine HT.out.mono ?_
      rintro e w ⟨rfl, rfl⟩
      simp only [Option.map_some]
      go_wp2_with fail
      refine HD.out.mono ?_
      rintro e w4 ⟨rfl, ρ4, I4, hK4, hkb4, -, hT4⟩
      have HE : Hid (RKNum w B I.kb ((K.next : Int), 0, K.newDe i flags) (.returned (.tuple #[.int .i64 K.next, .int .i64 0])) w4) := hide ⟨ρ4, I4, rfl, hK4, hkb4, hT4⟩
      clear hK4 hkb4 hT4
      go_wp2
      go_ret2
      exact HE.out
  obtain ⟨⟨f, ho⟩, e16⟩ := hfile
  have m16 : (v16 == 0) = false := by simpa using e16
  have m16' : (v16 != 0) = true := by simpa using e16
  rw [if_neg e16, ho] at hcut
  simp only at hcut
  rw [hcut]
  rw [ho] at t1
  simp only [Ob.kind] at t1
  have t4 := t2 f ho
  have hO1 := HO.out
  rw [← KS.obOf_eq hi, ho] at hO1
  obtain ⟨⟨u, Bu, hF, hBu, hOp, hOu⟩, -⟩ := hO1
  have d1 := hF.data
  have d2 := hF.soft
  have hst : ObjStep w (fun k => ρ k = some (.obj i)) (I.ob i) (.file []) (w.setCell ⟨I.ob i, 0, none⟩ (.slice none 0 0)) := by
    refine ⟨fun k => ρ k = some (.obj i), ⟨.slice none 0 0, Bu, ⟨World.cell?_setCell_same _ _ _ hF.data, (World.frozen?_setCell _ _ _ _).trans hF.soft, World.ownsRow_nil _ _ _ _, by simp [Value.ownBlock]⟩, by simp [World.setCell]; exact hBu, hOp, fun k e => by cases e⟩, fun _ e => .inl e, (Turned.refl _ _).set (.inl hOp)⟩
  obtain ⟨ρ2, hK2, -, hT2⟩ := HH.out.setOb hi hst (by rw [← KS.obOf_eq hi, ho]; rfl) (by show ([] : List UInt8).length ≤ 1048576; simp)
  have hD := rdesc_any B ρ2 I _ i flags _ hK2 (by rw [setOb_len]; exact hi) k1 (by show K.de.length < 256; omega) hn1 hn
  have HD := hide hD
  have HT2 := hide hT2
  clear hcut HCut t2 t3 hF hBu hOp hOu hst hK2 hT2 hD HO hO
  go_enter Tryz.func30, Tryz.ntmps30
  go_wp2_with fail
  refine HN.out.mono ?_
  rintro e w ⟨rfl, rfl⟩
  go_wp2_with fail
  refine HF.out.mono ?_
  rintro e w ⟨rfl, rfl⟩
  go_wp2_with fail
  refine HT.out.mono ?_
  rintro e w ⟨rfl, rfl⟩
  simp only [Option.map_some]
  go_wp2_with fail
  refine HD.out.mono ?_
  rintro e w4 ⟨rfl, ρ4, I4, hK4, hkb4, -, hT4⟩
  have HE : Hid (RKNum w B I.kb ((K.next : Int), 0, (K.setOb i (.file [])).newDe i flags) (.returned (.tuple #[.int .i64 K.next, .int .i64 0])) w4) := hide ⟨ρ4, I4, rfl, hK4, hkb4, HT2.out.trans hT4 (fun _ _ e => e)⟩
  clear hK4 hkb4 hT4
  go_wp2
  go_ret2
  exact HE.out
theorem rkopen_any (B : Nat → Prop) (ρ : Nat → Option Tag) (I : RI) (K : KS) (s : ByteArray) (flags : Int) (w : World) (h : RK w B ρ I K) (hnm : KNm K) (hs : s.size ≤ maxLen) (hn1 : 1 ≤ K.next) (hn : K.next < 9223372036854775807) :
    Calls Tryz.prog 30 #[.pointer (some ⟨I.kb, 0, none⟩), .string s, .int .i64 flags] w (RKNum w B I.kb (K.open s flags)) := by
  by_cases hno : nameOk s = false ∨ flagsOk flags = false ∨ 256 ≤ K.de.length
  · exact rkopen_no B ρ I K s flags w h hs hno
  · have k0 : nameOk s = true := by simpa using fun e => hno (.inl e)
    have k1 : flagsOk flags = true := by simpa using fun e => hno (.inr (.inl e))
    have k2 : ¬ 256 ≤ K.de.length := fun e => hno (.inr (.inr e))
    cases hby : K.byName s with
    | none => exact rkopen_new B ρ I K s flags w h hnm hs hn1 hn k0 k1 k2 hby
    | some i => exact rkopen_old B ρ I K s flags w h hs hn1 hn k0 k1 k2 hby
end Go.Proofs.YtkkicbhmcjbmbaaGreat

/- The reference's kernel: New. -/
namespace Go.Proofs.YtkkicbhmcjbmbaaGreat
open Go.RowKit

/-- A kernel without a thing. -/
theorem rk_start {W : World} {B : Nat → Prop} {kb pb : Nat} {v : Value} {l : List Fault} (hup : ∀ k, W.heap.size ≤ k → B k) (hB : B pb) (hne : kb ≠ pb) (hkb : B kb) (hk : W.heap[kb]? = some (.cells ([.slice none 0 0, .slice none 0 0, .int .i64 ((1 : Nat) : Int), .pointer (some ⟨pb, 0, none⟩), .int .i64 ((0 : Nat) : Int), .int .i64 ((0 : Nat) : Int)] : List Value).toArray 133 (0, 0)))
    (hp : RPlanAt W pb v l) (hv : ∀ k, v.ownBlock = some k → B k ∧ k < W.heap.size ∧ k ≠ kb) (hl : planOk l) : ∃ ρ, RK W B ρ ⟨kb, .slice none 0 0, .slice none 0 0, pb, v, id, id, id⟩ (KS.nought l) := by
  have hkl : kb < W.heap.size := (Array.getElem?_eq_some_iff.1 hk).1
  have hpl : pb < W.heap.size := World.block_lt_of_cell? W _ hp.left
  refine ⟨fun k => if k = kb then some .kern else if k = pb then some .plan else if v.ownBlock = some k then some .plan else none, fun t => ?_, fun k t e => ?_, ?_, hup⟩
  · cases t with
    | kern => exact ⟨hk, if_pos rfl⟩
    | trow => exact ⟨World.ownsRow_nil _ _ _ _, fun k e => by cases e⟩
    | drow => exact ⟨World.ownsRow_nil _ _ _ _, fun k e => by cases e⟩
    | plan =>
      refine ⟨hp, (if_neg (fun e => hne e.symm)).trans (if_pos rfl), fun k e => ?_⟩
      show (if k = kb then some Tag.kern else if k = pb then some .plan else if v.ownBlock = some k then some .plan else none) = _
      rw [if_neg (hv k e).2.2, if_pos e]
      split <;> rfl
    | thing i => exact fun hi => absurd hi (by show ¬ i < 0; omega)
    | obj i => exact fun hi => absurd hi (by show ¬ i < 0; omega)
    | desc n => exact fun d hd => absurd hd (by show d ∉ ([] : List De); simp)
  · split at e
    · rename_i e1; subst e1; exact ⟨hkb, hkl⟩
    · split at e
      · rename_i e2; subst e2; exact ⟨hB, hpl⟩
      · split at e
        · rename_i e3; exact ⟨(hv k e3).1, (hv k e3).2.1⟩
        · cases e
  · exact ⟨by show 0 ≤ 256; decide, by show 0 ≤ 256; decide, fun d hd => (by cases hd), fun i hi => (by cases hi), fun d hd => (by cases hd), fun d hd => (by cases hd), fun d hd => (by cases hd), fun d hd => (by cases hd), fun d hd => (by cases hd), hl⟩
theorem knm_nought (l : List Fault) : KNm (KS.nought l) := ⟨List.Pairwise.nil, fun i hi => (by cases hi), fun i hi => absurd hi (by show ¬ i < 0; omega), fun i hi => (by cases hi)⟩
/-- A thing that is made is put among the names. -/
theorem radd_named {wr w1 : World} {B : Nat → Prop} {ρ : Nat → Option Tag} {I : RI} {K : KS} (h : RK wr B ρ I K) (hnm : KNm K) (hl : K.nm.length < 256) (t : Th) {ob : Nat} {O : Nat → Prop} (hB1 : Below wr.heap.size wr w1) (hO : RObj w1 O ob t.ob) (hOn : ∀ k, O k → wr.heap.size ≤ k ∧ k < w1.heap.size) (hok : t.ob.ok) {cs : Array Value} (hcs : cs = (tcells t ob).toArray) :
    Calls Tryz.prog 118 #[.pointer (some ⟨I.kb, 0, none⟩), .pointer (some ⟨w1.heap.size, 0, none⟩)] (w1.alloc (Obj.cells cs 180)) fun e w' => e = .returned (.tuple #[]) ∧ ∃ ρ' I', RK w' B ρ' I' (K.addTh t) ∧ I'.kb = I.kb ∧ Turned B wr w' := by
  subst hcs
  have hs1 := hB1.size
  have hB2 := recv_below w1 (Obj.cells (tcells t ob).toArray 180)
  have hn2 := heap_alloc_new w1 (Obj.cells (tcells t ob).toArray 180)
  have hB12 : Below wr.heap.size wr (w1.alloc (Obj.cells (tcells t ob).toArray 180)) := hB1.trans (hB2.mono hs1)
  obtain ⟨ρ2, hK2⟩ := h.more (W' := w1.alloc (Obj.cells (tcells t ob).toArray 180)) t (nb := w1.heap.size) (ob := ob) (O := O) (fun k hk => hB12.block k hk) hB12.size hs1 hn2 (hO.keep (fun k _ hl => hB2.block k hl) hB2.size) (fun k e => by have := hOn k e; omega) hok
  have hth2 : (K.more t).th.length = K.th.length + 1 := by simp [KS.more]
  have hA := radd_any B ρ2 _ _ K.th.length _ hK2 (by rw [hth2]; omega) (more_sorted h.ok hnm _) hl
  simp only [updT_new] at hA
  refine hA.mono ?_
  rintro e w3 ⟨rfl, ρ3, I3, hK3, hkb3, -, -, hT3⟩
  exact ⟨rfl, ρ3, I3, hK3, hkb3, (Turned.of_below hB12).trans hT3 (fun _ _ e => e)⟩
set_option maxRecDepth 100000 in
set_option maxHeartbeats 8000000 in
theorem rknew_any (a1 a2 a3 : Option Addr) (c1 c2 c3 : Nat) (fs : List Nm) (ts : List Tp) (l : List Fault) (w0 w : World) (hB0 : Below w0.heap.size w0 w) (h1 : Nms w0 (.slice a1 fs.length c1) fs) (h2 : Tps w0 (.slice a2 ts.length c2) ts) (h3 : Flts w (.slice a3 l.length c3) l) (hb3 : ∀ k, (Value.slice a3 l.length c3).ownBlock = some k → w0.heap.size ≤ k ∧ k < w.heap.size) (hE : checkE fs ts l = 0) :
    Calls Tryz.prog 49 #[.slice a1 fs.length c1, .slice a2 ts.length c2, .slice a3 l.length c3] w fun e w' => ∃ ρ I, e = .returned (.pointer (some ⟨I.kb, 0, none⟩)) ∧ RK w' (fun k => w0.heap.size ≤ k) ρ I (KS.new fs ts l) ∧ Below w0.heap.size w0 w' := by
  have hEs : ¬ 256 < fs.length + ts.length ∧ (kfiles [] fs).1 = 0 ∧ kterms (kfiles [] fs).2 ts = 0 ∧ (chk l).1 = 0 := by
    unfold checkE at hE
    by_cases e1 : 256 < fs.length + ts.length
    · rw [if_pos e1] at hE; cases hE
    · rw [if_neg e1] at hE
      by_cases e2 : (kfiles [] fs).1 = 0
      · rw [if_pos e2] at hE
        by_cases e3 : kterms (kfiles [] fs).2 ts = 0
        · rw [if_pos e3] at hE; exact ⟨e1, e2, e3, hE⟩
        · rw [if_neg e3] at hE; exact absurd hE e3
      · rw [if_neg e2] at hE; exact absurd hE e2
  obtain ⟨hc, hE1, hE2, hE3⟩ := hEs
  obtain ⟨o1, ho1⟩ : ∃ o1, o1 = Obj.cells #[.slice a3 l.length c3] 139 := ⟨_, rfl⟩
  obtain ⟨o2, ho2⟩ : ∃ o2, o2 = Obj.cells #[.slice none 0 0, .slice none 0 0, .int .i64 1, .pointer (some ⟨w.heap.size, 0, none⟩), .int .i64 0, .int .i64 0] 133 := ⟨_, rfl⟩
  have hs0 := hB0.size
  have hB1 := recv_below w o1
  have hB2 := recv_below (w.alloc o1) o2
  have hs1 : (w.alloc o1).heap.size = w.heap.size + 1 := by simp
  have hs2 : ((w.alloc o1).alloc o2).heap.size = w.heap.size + 2 := by simp
  have hB12 : Below w.heap.size w ((w.alloc o1).alloc o2) := hB1.trans (hB2.mono (by omega))
  have hn1' := heap_alloc_new w o1
  have hn2' := heap_alloc_new (w.alloc o1) o2
  rw [hs1] at hn2'
  have hn1'' : ((w.alloc o1).alloc o2).heap[w.heap.size]? = some o1 := (hB2.block _ (by omega)).trans hn1'
  have hpl : RPlanAt ((w.alloc o1).alloc o2) w.heap.size (.slice a3 l.length c3) l := ⟨by rw [World.cell?, hn1'', ho1]; rfl, by rw [World.frozen?, hn1'', ho1]; rfl, h3.below hB12, fun e => by have := (hb3 _ e).2; omega⟩
  obtain ⟨ρ, hK⟩ := rk_start (W := (w.alloc o1).alloc o2) (B := fun k => w0.heap.size ≤ k) (kb := w.heap.size + 1) (pb := w.heap.size) (fun k e => by omega) (by omega) (by omega) (by omega) (by rw [hn2', ho2]; rfl) hpl (fun k e => by have := hb3 k e; omega) (check_plan hE3)
  have HK0 : Hid (∃ ρ I, RK ((w.alloc o1).alloc o2) (fun k => w0.heap.size ≤ k) ρ I (KS.nought l) ∧ I.kb = w.heap.size + 1) := hide ⟨ρ, _, hK, rfl⟩
  have HB0 : Hid (Below w0.heap.size w0 ((w.alloc o1).alloc o2)) := hide (hB0.trans (hB12.mono hs0))
  have H1 := hide h1
  have H2 := hide h2
  have HKf : Hid ((kfiles [] fs).1 = 0 ∧ kterms (kfiles [] fs).2 ts = 0) := hide ⟨hE1, hE2⟩
  have hfl : fs.length ≤ 256 := by omega
  have htl : ts.length ≤ 256 := by omega
  subst ho1
  subst ho2
  clear h1 h2 h3 hE1 hE2 hE3 hE hB1 hB2 hs1 hs2 hB12 hn1' hn2' hn1'' hpl hK hb3 hB0
  go_enter Tryz.func49, Tryz.ntmps49
  go_wp2_with fail
  generalize hkb : w.heap.size + 1 = kb0 at *
  generalize hw2 : (w.alloc _).alloc _ = w2 at *
  clear hw2 hkb
  go_loopw [8] (fun i wr => ∃ (k : Nat) (K : KS) (ns : List ByteArray), k ≤ fs.length ∧ i = .int .i64 k ∧ Hid (∃ ρ I, RK wr (fun k => w0.heap.size ≤ k) ρ I K ∧ I.kb = kb0) ∧ Hid (KNm K) ∧ Hid (Seen K ns k ∧ (kfiles ns (fs.drop k)).1 = 0 ∧ kterms (kfiles ns (fs.drop k)).2 ts = 0 ∧ K = (fs.take k).foldl addF (KS.nought l)) ∧ Hid (Below w0.heap.size w0 wr)) (fun i _ => fs.length - (intOf i).toNat)
  case atStart => exact ⟨0, KS.nought l, [], Nat.zero_le _, rfl, HK0, hide (knm_nought l), hide ⟨⟨fun i hi => (by cases hi), rfl, rfl, rfl, rfl⟩, HKf.out.1, HKf.out.2, rfl⟩, HB0⟩
  case round =>
    clear HK0 HB0
    obtain ⟨k, K, ns, hk, rfl, HK, HNm, HS, HB⟩ := hrel
    by_cases hlt : k < fs.length
    · obtain ⟨b, off, va, vc, rfl, hbl, q0, q1, hby, -, hnm⟩ := H1.out.at k hlt
      have hc0 := (HB.out.cell (p := ⟨b, off + k * 2, none⟩) hbl).trans q0
      have hc1 := (HB.out.cell (p := ⟨b, off + k * 2 + 1, none⟩) hbl).trans q1
      have hk1 : (0 : Int) ≤ (k : Int) := by omega
      have hk2 : (k : Int) < (fs.length : Int) := by omega
      obtain ⟨hS, hF, hF2, hKe⟩ := HS.out
      rw [drop_at fs k hlt] at hF hF2
      have hKe2 := foldl_take addF (KS.nought l) fs k hlt
      rw [← hKe] at hKe2
      clear q0 q1
      generalize fs[k] = p at hc0 hc1 hnm hF hF2 hby hKe2
      obtain ⟨nm, L⟩ := p
      simp only at hc0 hc1 hnm hby
      rw [kfiles_cons] at hF hF2
      have hg : giveE ns nm = 0 := by
        by_cases hg : giveE ns nm = 0
        · exact hg
        · rw [if_neg hg] at hF; exact absurd hF hg
      rw [if_pos hg] at hF hF2
      have hL : ¬ 1048576 < L.length := fun e => by rw [if_pos e] at hF; cases hF
      rw [if_neg hL] at hF hF2
      obtain ⟨hno, hnn⟩ := giveE_zero hg
      have hnew : ∀ i ∈ K.nm, K.nameOf i ≠ nm := fun i hi e => hnn (e ▸ hS.names i hi)
      have hlenK : K.nm.length < 256 := by have := hS.len; omega
      obtain ⟨ρ, I, hK, hkb⟩ := HK.out
      have HNw := hide (Fi_rnew_good (.slice va L.length vc) L wr (hby.below HB.out) (by omega))
      have HNx : Hid (Seen (addF K (nm, L)) (ns ++ [nm]) (k + 1) ∧ (kfiles (ns ++ [nm]) (fs.drop (k + 1))).1 = 0 ∧ kterms (kfiles (ns ++ [nm]) (fs.drop (k + 1))).2 ts = 0 ∧ addF K (nm, L) = (fs.take (k + 1)).foldl addF (KS.nought l)) := hide ⟨hS.add hK.ok ⟨nm, .file L⟩, hF, hF2, hKe2.symm⟩
      have HNn : Hid (KNm (addF K (nm, L))) := hide (HNm.out.addTh hK.ok ⟨nm, .file L⟩ (.inl rfl) hno hnew)
      have HHh := hide (And.intro hK hkb)
      clear hS hF hF2 hKe hKe2 hg hno hnn hnew HS hby hK hkb
      go_wp2_with fail
      refine HNw.out.mono ?_
      rintro _ w1 ⟨rfl, ⟨u, hF1⟩, hB1⟩
      obtain ⟨hK, rfl⟩ := HHh.out
      have hO1 : RObj w1 (fun k => wr.heap.size ≤ k ∧ k < w1.heap.size) wr.heap.size (.file L) := ⟨u, wr.heap.size + 1, hF1, hF1.lt, ⟨Nat.le_refl _, hF1.lt⟩, fun k e => by have := hF1.row.lt k e; omega⟩
      have HA := hide (radd_named hK HNm.out hlenK ⟨nm, .file L⟩ hB1 hO1 (fun k e => e) (by show L.length ≤ 1048576; omega) (cs := #[.string nm, .int .i64 1, .pointer (some ⟨wr.heap.size, 0, none⟩), .pointer none, .pointer none]) rfl)
      have hc0' := (hB1.cell (p := ⟨b, off + k * 2, none⟩) (Nat.lt_of_lt_of_le hbl HB.out.size)).trans hc0
      clear hO1 hF1 hc0 hc1 hK
      go_wp2_with fail
      refine HA.out.mono ?_
      rintro _ w3 ⟨rfl, ρ3, I3, hK3, hkb3, hT3⟩
      have HK3 : Hid (∃ ρ I', RK w3 (fun k => w0.heap.size ≤ k) ρ I' (addF K (nm, L)) ∧ I'.kb = I.kb) := hide ⟨ρ3, I3, hK3, hkb3⟩
      have HB3 : Hid (Below w0.heap.size w0 w3) := hide (HB.out.trans (hT3.below (fun _ e => e) HB.out.size))
      clear hK3 hkb3 hT3 hc0'
      go_wp2
      go_roundw
      case rel => exact ⟨k + 1, addF K (nm, L), ns ++ [nm], by omega, by go_num, HK3, HNn, HNx, HB3⟩
      case measure => simp [intOf]; omega
    · obtain rfl : k = fs.length := by omega
      obtain ⟨hS, -, hF2, hKe⟩ := HS.out
      rw [List.drop_length] at hF2
      rw [List.take_length] at hKe
      have hF3 : kterms ns ts = 0 := hF2
      have HS2 : Hid (Seen K ns fs.length ∧ kterms ns ts = 0 ∧ K = fs.foldl addF (KS.nought l)) := hide ⟨hS, hF3, hKe⟩
      have hlt' : ¬ (fs.length : Int) < (fs.length : Int) := by omega
      clear HS hS hF2 hF3 hKe
      go_wp2_with fail
      go_loopw [11] (fun i wq => ∃ (k2 : Nat) (K2 : KS) (ms : List ByteArray), k2 ≤ ts.length ∧ i = .int .i64 k2 ∧ Hid (∃ ρ I, RK wq (fun k => w0.heap.size ≤ k) ρ I K2 ∧ I.kb = kb0) ∧ Hid (KNm K2) ∧ Hid (Seen K2 ms (fs.length + k2) ∧ kterms ms (ts.drop k2) = 0 ∧ K2 = (ts.take k2).foldl addT (fs.foldl addF (KS.nought l))) ∧ Hid (Below w0.heap.size w0 wq)) (fun i _ => ts.length - (intOf i).toNat)
      case atStart => exact ⟨0, K, ns, Nat.zero_le _, rfl, HK, HNm, hide ⟨HS2.out.1, HS2.out.2.1, HS2.out.2.2⟩, HB⟩
      case round =>
        clear HK HNm HB HS2
        obtain ⟨k, K, ms, hk, rfl, HK, HNm, HS, HB⟩ := hrel
        by_cases hlt2 : k < ts.length
        · obtain ⟨b, off, va, vc, rfl, hbl, q0, q1, hby, hnm⟩ := H2.out.at k hlt2
          have hc0 := (HB.out.cell (p := ⟨b, off + k * 2, none⟩) hbl).trans q0
          have hc1 := (HB.out.cell (p := ⟨b, off + k * 2 + 1, none⟩) hbl).trans q1
          have hk1 : (0 : Int) ≤ (k : Int) := by omega
          have hk2 : (k : Int) < (ts.length : Int) := by omega
          obtain ⟨hS, hF, hKe⟩ := HS.out
          rw [drop_at ts k hlt2] at hF
          have hKe2 := foldl_take addT (fs.foldl addF (KS.nought l)) ts k hlt2
          rw [← hKe] at hKe2
          clear q0 q1
          generalize ts[k] = pp at hc0 hc1 hnm hF hby hKe2
          obtain ⟨nm, ls⟩ := pp
          simp only at hc0 hc1 hnm hby
          rw [kterms_cons] at hF
          have hg : giveE ms nm = 0 := by
            by_cases hg : giveE ms nm = 0
            · exact hg
            · rw [if_neg hg] at hF; exact absurd hF hg
          rw [if_pos hg] at hF
          have hL : newE ls = 0 := by
            by_cases e : newE ls = 0
            · exact e
            · rw [if_neg e] at hF; exact absurd hF e
          rw [if_pos hL] at hF
          obtain ⟨hno, hnn⟩ := giveE_zero hg
          have hnew : ∀ i ∈ K.nm, K.nameOf i ≠ nm := fun i hi e => hnn (e ▸ hS.names i hi)
          have hlenK : K.nm.length < 256 := by have := hS.len; omega
          have hlok := newE_small hL
          obtain ⟨ρ, I, hK, hkb⟩ := HK.out
          have HNw := hide (Te_rnew_good (.slice va ls.length vc) ls wr (hby.below HB.out) (by have := hlok.1; omega) hL)
          have HNx : Hid (Seen (addT K (nm, ls)) (ms ++ [nm]) (fs.length + (k + 1)) ∧ kterms (ms ++ [nm]) (ts.drop (k + 1)) = 0 ∧ addT K (nm, ls) = (ts.take (k + 1)).foldl addT (fs.foldl addF (KS.nought l))) := hide ⟨hS.add hK.ok ⟨nm, .term ls []⟩, hF, hKe2.symm⟩
          have HNn : Hid (KNm (addT K (nm, ls))) := hide (HNm.out.addTh hK.ok ⟨nm, .term ls []⟩ (.inr rfl) hno hnew)
          have HHh := hide (And.intro hK hkb)
          clear hS hF hKe hKe2 hg hno hnn hnew HS hby hK hkb
          go_wp2_with fail
          refine HNw.out.mono ?_
          rintro _ w1 ⟨rfl, ⟨ta, tc, hT1⟩, hB1⟩
          obtain ⟨hK, rfl⟩ := HHh.out
          have hO1 : RObj w1 (fun k => wr.heap.size ≤ k ∧ k < w1.heap.size) wr.heap.size (.term ls []) := ⟨ta, tc, _, _, _, hT1, fun k e => e⟩
          have HA := hide (radd_named hK HNm.out hlenK ⟨nm, .term ls []⟩ hB1 hO1 (fun k e => e) ⟨hlok.1, hlok.2, by simp⟩ (cs := #[.string nm, .int .i64 2, .pointer none, .pointer (some ⟨wr.heap.size, 0, none⟩), .pointer none]) rfl)
          have hc0' := (hB1.cell (p := ⟨b, off + k * 2, none⟩) (Nat.lt_of_lt_of_le hbl HB.out.size)).trans hc0
          clear hO1 hT1 hc0 hc1 hK
          go_wp2_with fail
          refine HA.out.mono ?_
          rintro _ w3 ⟨rfl, ρ3, I3, hK3, hkb3, hT3⟩
          have HK3 : Hid (∃ ρ I', RK w3 (fun k => w0.heap.size ≤ k) ρ I' (addT K (nm, ls)) ∧ I'.kb = I.kb) := hide ⟨ρ3, I3, hK3, hkb3⟩
          have HB3 : Hid (Below w0.heap.size w0 w3) := hide (HB.out.trans (hT3.below (fun _ e => e) HB.out.size))
          clear hK3 hkb3 hT3 hc0'
          go_wp2
          go_roundw
          case rel => exact ⟨k + 1, addT K (nm, ls), ms ++ [nm], by omega, by go_num, HK3, HNn, HNx, HB3⟩
          case measure => simp [intOf]; omega
        · obtain rfl : k = ts.length := by omega
          obtain ⟨-, -, hKe⟩ := HS.out
          rw [List.take_length] at hKe
          have HKe : Hid (K = KS.new fs ts l) := hide hKe
          have hlt' : ¬ (ts.length : Int) < (ts.length : Int) := by omega
          clear HS hKe
          go_wp2
          go_ret
          obtain ⟨ρ, I, hK, rfl⟩ := HK.out
          rw [HKe.out] at hK
          exact ⟨ρ, I, rfl, hK, HB.out⟩
end Go.Proofs.YtkkicbhmcjbmbaaGreat

/- The reference's kernel: Files. -/
namespace Go.Proofs.YtkkicbhmcjbmbaaGreat
open Go.RowKit

/-- The files among the first k names. -/
def KS.filesTo (K : KS) (k : Nat) : List Nm := ((K.nm.take k).filter fun i => (K.obOf i).kind == 1).map fun i => (K.nameOf i, (K.obOf i).bytes)
theorem filesTo_all (K : KS) : K.filesTo K.nm.length = K.files := by unfold KS.filesTo KS.files KS.fidx; rw [List.take_length]
theorem filesTo_next (K : KS) (k : Nat) (hk : k < K.nm.length) : K.filesTo (k + 1) = if (K.obOf K.nm[k]).kind == 1 then K.filesTo k ++ [(K.nameOf K.nm[k], (K.obOf K.nm[k]).bytes)] else K.filesTo k := by
  unfold KS.filesTo
  rw [List.take_add_one, List.getElem?_eq_getElem hk, List.filter_append, List.map_append]
  by_cases e : ((K.obOf K.nm[k]).kind == 1) = true
  · rw [if_pos e]; simp [e]
  · rw [if_neg e]; simp [e]
theorem filesTo_few (K : KS) (k : Nat) : (K.filesTo k).length ≤ K.nm.length := by
  unfold KS.filesTo
  rw [List.length_map]
  exact Nat.le_trans (List.length_filter_le _ _) (by rw [List.length_take]; omega)
set_option maxRecDepth 100000 in
set_option maxHeartbeats 8000000 in
theorem rkfiles_any (B : Nat → Prop) (ρ : Nat → Option Tag) (I : RI) (K : KS) (w : World) (h : RK w B ρ I K) :
    Calls Tryz.prog 67 #[.pointer (some ⟨I.kb, 0, none⟩)] w fun e w' => ∃ v us, e = .returned v ∧ w'.ownsRow w.heap.size 93 2 v K.files.length (ncs K.files us) ∧ LCells w' w.heap.size (K.files.map Prod.snd) us ∧ Below w.heap.size w w' := by
  have hb := (h.comp .kern).1
  have hkl : I.kb < w.heap.size := (Array.getElem?_eq_some_iff.1 hb).1
  have c1 : w.cell? ⟨I.kb, 0, none⟩ = some I.vT := by rw [cell_of_row w I.kb 0 _ _ _ hb]; rfl
  have HD := hide (h.comp .trow).1
  have hfew := h.ok.named
  obtain ⟨va, vc, hv⟩ := owns_slice (h.comp .trow).1
  rw [hv] at c1 HD
  have HH := hide h
  clear h hb hv
  go_enter Tryz.func67, Tryz.ntmps67
  go_wp2_with fail
  go_loopw [3, 4] (fun ov iv wr => ∃ (k : Nat) (us : List Value), iv = .int .i64 k ∧ k ≤ K.nm.length ∧ Hid (wr.ownsRow w.heap.size 93 2 ov (K.filesTo k).length (ncs (K.filesTo k) us)) ∧ Hid (LCells wr w.heap.size ((K.filesTo k).map Prod.snd) us) ∧ Hid (Below w.heap.size w wr)) (fun _ iv _ => K.nm.length - (intOf iv).toNat)
  case atStart => exact ⟨0, [], rfl, Nat.zero_le _, hide (World.ownsRow_nil _ _ _ _), hide ⟨rfl, fun j hj => absurd hj (by simp [KS.filesTo]), fun i j vi vj k _ h1 => by simp at h1⟩, hide (Below.refl _ _)⟩
  case round =>
    obtain ⟨k, us, rfl, hk, HO, HL, HB⟩ := hrel
    obtain ⟨oa, oc, rfl⟩ := owns_slice HO.out
    have c0 := (HB.out.cell (p := ⟨I.kb, 0, none⟩) hkl).trans c1
    have hsz := HB.out.size
    by_cases hlt : k < K.nm.length
    · obtain ⟨b, rfl⟩ : ∃ b, va = some ⟨b, 0, none⟩ := by
        rcases HD.out.2 with ⟨h0, _⟩ | ⟨g, cap, cur, h1, _⟩
        · simp only [Value.slice.injEq] at h0; omega
        · simp only [Value.slice.injEq] at h1; exact ⟨g, h1.1⟩
      have hcell := HD.out.cellAt k (by simpa using hlt)
      rw [List.getElem?_map, List.getElem?_eq_getElem hlt] at hcell
      simp only [Option.map_some] at hcell
      have hk1 : (0 : Int) ≤ (k : Int) := by omega
      have hk2 : (k : Int) < (K.nm.length : Int) := by omega
      obtain ⟨x, hx⟩ : ∃ x, x = K.nm[k] := ⟨_, rfl⟩
      have hxt : x < K.th.length := by rw [hx]; exact HH.out.ok.nm _ (List.getElem_mem _)
      have hnext := filesTo_next K k hlt
      rw [← hx] at hcell hnext
      have r0 := (HB.out.cell (p := ⟨b, k, none⟩) (World.block_lt_of_cell? w _ hcell)).trans hcell
      obtain ⟨tn, tk, tf, -⟩ := HH.out.tcell hxt
      have tk' := (HB.out.cell (p := ⟨I.tb x, 1, none⟩) (World.block_lt_of_cell? w _ tk)).trans tk
      have HNx := hide hnext
      have hcw := hcell
      clear hcell hx hnext
      by_cases hkd : (K.obOf x).kind = 1
      · obtain ⟨L, hL⟩ : ∃ L, K.obOf x = .file L := by
          cases ho : K.obOf x with
          | file L => exact ⟨L, rfl⟩
          | term _ _ => rw [ho] at hkd; simp [Ob.kind] at hkd
          | pipe _ _ _ => rw [ho] at hkd; simp [Ob.kind] at hkd
        rw [hkd] at tk'
        have tn' := (HB.out.cell (p := ⟨I.tb x, 0, none⟩) (World.block_lt_of_cell? w _ tn)).trans tn
        have tf' := (HB.out.cell (p := ⟨I.tb x, 2, none⟩) (World.block_lt_of_cell? w _ (tf L hL))).trans (tf L hL)
        have hob := (HH.out.comp (.obj x)) hxt
        rw [← KS.obOf_eq hxt, hL] at hob
        obtain ⟨⟨u, Bu, hF, -⟩, hLl⟩ := hob
        have hLl' : L.length ≤ 1048576 := hLl
        obtain ⟨ua, uc, hu⟩ := owns_slice hF.row
        have d0 := hF.data
        have hby := Bys.of_owns hF.row
        rw [hu] at d0 hby
        have d0' := (HB.out.cell (p := ⟨I.ob x, 0, none⟩) (World.block_lt_of_cell? w _ d0)).trans d0
        have HNx2 : Hid (K.filesTo (k + 1) = K.filesTo k ++ [(K.nameOf x, L)]) := hide (by rw [HNx.out, hL]; rfl)
        obtain ⟨nm, hnm⟩ : ∃ nm, nm = K.nameOf x := ⟨_, rfl⟩
        rw [← hnm] at tn' HNx2
        have hS : ∀ w', Below w.heap.size w w' → w'.cell? ⟨I.kb, 0, none⟩ = some (.slice (some ⟨b, 0, none⟩) K.nm.length vc) ∧ w'.cell? ⟨b, k, none⟩ = some (.pointer (some ⟨I.tb x, 0, none⟩)) ∧ w'.cell? ⟨I.tb x, 0, none⟩ = some (.string nm) ∧ w'.cell? ⟨I.tb x, 2, none⟩ = some (.pointer (some ⟨I.ob x, 0, none⟩)) ∧ w'.cell? ⟨I.ob x, 0, none⟩ = some (.slice ua L.length uc) := fun w' hW => ⟨(hW.cell (p := ⟨I.kb, 0, none⟩) hkl).trans c1, (hW.cell (p := ⟨b, k, none⟩) (World.block_lt_of_cell? w _ hcw)).trans hcw, (hW.cell (p := ⟨I.tb x, 0, none⟩) (World.block_lt_of_cell? w _ tn)).trans (by rw [hnm]; exact tn), (hW.cell (p := ⟨I.tb x, 2, none⟩) (World.block_lt_of_cell? w _ (tf L hL))).trans (tf L hL), (hW.cell (p := ⟨I.ob x, 0, none⟩) (World.block_lt_of_cell? w _ d0)).trans d0⟩
        have hBd : Below w.heap.size w wr.drew := HB.out.drew
        obtain ⟨s1, w5, hrun1, HO5, hg5, -⟩ := run_append_bytes wr.drew 40 wr.heap.size (.slice none 0 0) (.slice ua L.length uc) [] L (World.ownsRow_nil _ _ _ _) (hby.below hBd) (by simp; omega) (Nat.le_refl _)
        obtain ⟨xa, xc, rfl⟩ := owns_slice HO5.out
        rw [List.nil_append] at HO5 hrun1
        have hB5r : Below wr.heap.size wr.drew w5 := (Below.refl _ wr.drew).grown hg5 (Nat.le_refl _) (fun k e => by cases e)
        have hB5 : Below w.heap.size w w5 := hBd.trans (hB5r.mono hsz)
        have hBa := recv_below w5 (Obj.cells #[.string nm, .slice xa L.length xc] 93)
        have hBA : Below w.heap.size w (w5.alloc (Obj.cells #[.string nm, .slice xa L.length xc] 93)) := hB5.trans (hBa.mono hB5.size)
        have hB5a : Below wr.heap.size wr.drew (w5.alloc (Obj.cells #[.string nm, .slice xa L.length xc] 93)) := hB5r.trans (hBa.mono hB5r.size)
        have HOa := hide (owns_below (W := wr.drew) HO.out hB5a)
        have HLa := hide (LCells.below (W := wr.drew) HL.out hB5a)
        have HUa := hide (owns_below HO5.out hBa)
        have hcu0 : (w5.alloc (Obj.cells #[.string nm, .slice xa L.length xc] 93)).cell? ⟨w5.heap.size, 0, none⟩ = some (.string nm) := by simp only [World.cell?, heap_alloc_new]; rfl
        have hcu1 : (w5.alloc (Obj.cells #[.string nm, .slice xa L.length xc] 93)).cell? ⟨w5.heap.size, 1, none⟩ = some (.slice xa L.length xc) := by simp only [World.cell?, heap_alloc_new]; rfl
        have hfe := filesTo_few K k
        obtain ⟨s', w7, hrun2, HO7, hg7, hb7⟩ := run_append_named (w5.alloc (Obj.cells #[.string nm, .slice xa L.length xc] 93)) 22 w.heap.size _ (K.filesTo k).length _ w5.heap.size 1 nm _ HOa.out hcu0 hcu1 rfl (by omega) (by have := hBA.size; omega)
        obtain ⟨sa', sc', rfl⟩ := owns_slice HO7.out
        have hB7 : Below w.heap.size w w7 := hBA.grown hg7 hBA.size (fun j e => (HOa.out.lt j e).1)
        have K0 := hS wr.drew hBd
        have K5 := hS w5 hB5
        have Ka := hS _ hBA
        have K7 := hS w7 hB7
        have HR1 := hide hrun1
        have HR2 := hide hrun2
        have HE : Hid (∃ us', w7.ownsRow w.heap.size 93 2 (.slice sa' ((K.filesTo k).length + 1) sc') (K.filesTo (k + 1)).length (ncs (K.filesTo (k + 1)) us') ∧ LCells w7 w.heap.size ((K.filesTo (k + 1)).map Prod.snd) us') := hide (by
          have hul := HL.out.1
          rw [List.length_map] at hul
          refine ⟨us ++ [.slice xa L.length xc], ?_, ?_⟩
          · rw [HNx2.out, ncs_snoc _ _ _ _ hul, List.length_append]
            exact HO7.out
          · have hLa : LCells w7 w.heap.size ((K.filesTo k).map Prod.snd) us := HLa.out.keep fun j hj v i h1 e => by
              obtain ⟨v', h2, h3⟩ := HLa.out.2.1 j hj
              rw [h1] at h2
              cases h2
              exact hg7.block i (h3.lt i e).2 (fun e' => Te_owns_apart h3 HOa.out (by decide) i e e'.symm)
            have hU7 := owns_keep (W' := w7) HUa.out fun i e => hg7.block i (HUa.out.lt i e).2 (fun e' => Te_owns_apart HUa.out HOa.out (by decide) i e e'.symm)
            have h9 : (K.filesTo k).length < ((K.filesTo (k + 1)).map Prod.snd).length := by rw [HNx2.out]; simp
            have h10 : (K.filesTo (k + 1)).map Prod.snd = ((K.filesTo (k + 1)).map Prod.snd).take ((K.filesTo k).length + 1) := by rw [List.take_of_length_le (by rw [HNx2.out]; simp)]
            have h11 : ((K.filesTo (k + 1)).map Prod.snd).take (K.filesTo k).length = (K.filesTo k).map Prod.snd := by rw [HNx2.out, List.map_append, List.take_append_of_le_length (by simp), List.take_of_length_le (by simp)]
            have h12 : ((K.filesTo (k + 1)).map Prod.snd)[(K.filesTo k).length] = L := by simp [HNx2.out]
            rw [h10]
            refine LCells.snoc h9 (by rw [h11]; exact hLa) _ ?_ (fun j v i h1 e e' => ?_)
            · rw [h12]
              exact owns_mono hU7 hsz
            · obtain ⟨v', h2, h3⟩ := HL.out.2.1 j (by have := (List.getElem?_eq_some_iff.1 h1).1; have := HL.out.1; omega)
              rw [h1] at h2
              cases h2
              have := (h3.lt i e).2
              have : wr.heap.size ≤ i := (HO5.out.lt i e').1
              omega)
        have HB7 := hide hB7
        have H0 := hide hS
        clear hS hBd hrun1 hrun2 hg5 hB5r hB5 hBa hBA hB5a hcu0 hcu1 hg7 hb7 hB7 hby hF d0 tf tn tk hcw hnm
        go_wp2_with fail
        go_region_held3 (fun w' => w'.cell? ⟨I.kb, 0, none⟩ = some (.slice (some ⟨b, 0, none⟩) K.nm.length vc) ∧ w'.cell? ⟨b, k, none⟩ = some (.pointer (some ⟨I.tb x, 0, none⟩)) ∧ w'.cell? ⟨I.tb x, 0, none⟩ = some (.string nm) ∧ w'.cell? ⟨I.tb x, 2, none⟩ = some (.pointer (some ⟨I.ob x, 0, none⟩)) ∧ w'.cell? ⟨I.ob x, 0, none⟩ = some (.slice ua L.length uc))
          (first | exact K7 | exact Ka | exact K5 | exact K0 | go_keep)
          (first
            | (refine step_append_run _ (by rfl) _ _ _ _ (by rfl) _ _ (by rfl) (by rfl) _ _ HR2.out ?_)
            | (refine step_append_run _ (by rfl) _ _ _ _ (by rfl) _ _ (by rfl) (by rfl) _ _ HR1.out ?_)
            | fail)
        all_goals
          go_wp2
          go_roundw
          case rel =>
            obtain ⟨us', h1, h2⟩ := HE.out
            exact ⟨k + 1, us', by go_num, by omega, hide h1, hide h2, HB7⟩
          case measure => simp [intOf]; omega
      · have hkd2 : ((K.obOf x).kind == 1) = false := by simpa using hkd
        have HNx2 : Hid (K.filesTo (k + 1) = K.filesTo k) := hide (by rw [HNx.out, if_neg (by simp [hkd])])
        go_wp2
        go_roundw
        case rel => exact ⟨k + 1, us, by go_num, by omega, by rw [HNx2.out]; exact HO, by rw [HNx2.out]; exact HL, HB⟩
        case measure => simp [intOf]; omega
    · obtain rfl : k = K.nm.length := by omega
      have HA : Hid (K.filesTo K.nm.length = K.files) := hide (filesTo_all K)
      go_wp2
      go_ret
      rw [← HA.out]
      exact ⟨_, us, rfl, HO.out, HL.out, HB.out⟩
end Go.Proofs.YtkkicbhmcjbmbaaGreat

/- The reference's kernel: Screens. -/
namespace Go.Proofs.YtkkicbhmcjbmbaaGreat
open Go.RowKit

/-- A terminal's screen. -/
def Ob.shown : Ob → List UInt8
  | .term _ s => s
  | _ => []
/-- All screens, by name. -/
def KS.screens (K : KS) : List Nm := K.tidx.map fun i => (K.nameOf i, (K.obOf i).shown)
/-- The screens among the first k names. -/
def KS.screensTo (K : KS) (k : Nat) : List Nm := ((K.nm.take k).filter fun i => (K.obOf i).kind == 2).map fun i => (K.nameOf i, (K.obOf i).shown)
theorem screensTo_all (K : KS) : K.screensTo K.nm.length = K.screens := by unfold KS.screensTo KS.screens KS.tidx; rw [List.take_length]
theorem screensTo_next (K : KS) (k : Nat) (hk : k < K.nm.length) : K.screensTo (k + 1) = if (K.obOf K.nm[k]).kind == 2 then K.screensTo k ++ [(K.nameOf K.nm[k], (K.obOf K.nm[k]).shown)] else K.screensTo k := by
  unfold KS.screensTo
  rw [List.take_add_one, List.getElem?_eq_getElem hk, List.filter_append, List.map_append]
  by_cases e : ((K.obOf K.nm[k]).kind == 2) = true
  · rw [if_pos e]; simp [e]
  · rw [if_neg e]; simp [e]
theorem screensTo_few (K : KS) (k : Nat) : (K.screensTo k).length ≤ K.nm.length := by
  unfold KS.screensTo
  rw [List.length_map]
  exact Nat.le_trans (List.length_filter_le _ _) (by rw [List.length_take]; omega)
set_option maxRecDepth 100000 in
set_option maxHeartbeats 8000000 in
theorem rkscreens_any (B : Nat → Prop) (ρ : Nat → Option Tag) (I : RI) (K : KS) (w : World) (h : RK w B ρ I K) :
    Calls Tryz.prog 70 #[.pointer (some ⟨I.kb, 0, none⟩)] w fun e w' => ∃ v us, e = .returned v ∧ w'.ownsRow w.heap.size 93 2 v K.screens.length (ncs K.screens us) ∧ LCells w' w.heap.size (K.screens.map Prod.snd) us ∧ Below w.heap.size w w' := by
  have hb := (h.comp .kern).1
  have hkl : I.kb < w.heap.size := (Array.getElem?_eq_some_iff.1 hb).1
  have c1 : w.cell? ⟨I.kb, 0, none⟩ = some I.vT := by rw [cell_of_row w I.kb 0 _ _ _ hb]; rfl
  have HD := hide (h.comp .trow).1
  have hfew := h.ok.named
  obtain ⟨va, vc, hv⟩ := owns_slice (h.comp .trow).1
  rw [hv] at c1 HD
  have HH := hide h
  clear h hb hv
  go_enter Tryz.func70, Tryz.ntmps70
  go_wp2_with fail
  go_loopw [3, 4] (fun ov iv wr => ∃ (k : Nat) (us : List Value), iv = .int .i64 k ∧ k ≤ K.nm.length ∧ Hid (wr.ownsRow w.heap.size 93 2 ov (K.screensTo k).length (ncs (K.screensTo k) us)) ∧ Hid (LCells wr w.heap.size ((K.screensTo k).map Prod.snd) us) ∧ Hid (Below w.heap.size w wr)) (fun _ iv _ => K.nm.length - (intOf iv).toNat)
  case atStart => exact ⟨0, [], rfl, Nat.zero_le _, hide (World.ownsRow_nil _ _ _ _), hide ⟨rfl, fun j hj => absurd hj (by simp [KS.screensTo]), fun i j vi vj k _ h1 => by simp at h1⟩, hide (Below.refl _ _)⟩
  case round =>
    obtain ⟨k, us, rfl, hk, HO, HL, HB⟩ := hrel
    obtain ⟨oa, oc, rfl⟩ := owns_slice HO.out
    have c0 := (HB.out.cell (p := ⟨I.kb, 0, none⟩) hkl).trans c1
    have hsz := HB.out.size
    by_cases hlt : k < K.nm.length
    · obtain ⟨b, rfl⟩ : ∃ b, va = some ⟨b, 0, none⟩ := by
        rcases HD.out.2 with ⟨h0, _⟩ | ⟨g, cap, cur, h1, _⟩
        · simp only [Value.slice.injEq] at h0; omega
        · simp only [Value.slice.injEq] at h1; exact ⟨g, h1.1⟩
      have hcell := HD.out.cellAt k (by simpa using hlt)
      rw [List.getElem?_map, List.getElem?_eq_getElem hlt] at hcell
      simp only [Option.map_some] at hcell
      have hk1 : (0 : Int) ≤ (k : Int) := by omega
      have hk2 : (k : Int) < (K.nm.length : Int) := by omega
      obtain ⟨x, hx⟩ : ∃ x, x = K.nm[k] := ⟨_, rfl⟩
      have hxt : x < K.th.length := by rw [hx]; exact HH.out.ok.nm _ (List.getElem_mem _)
      have hnext := screensTo_next K k hlt
      rw [← hx] at hcell hnext
      have r0 := (HB.out.cell (p := ⟨b, k, none⟩) (World.block_lt_of_cell? w _ hcell)).trans hcell
      obtain ⟨tn, tk, -, tf⟩ := HH.out.tcell hxt
      have tk' := (HB.out.cell (p := ⟨I.tb x, 1, none⟩) (World.block_lt_of_cell? w _ tk)).trans tk
      have HNx := hide hnext
      have hcw := hcell
      clear hcell hx hnext
      by_cases hkd : (K.obOf x).kind = 2
      · obtain ⟨ls, L, hL⟩ : ∃ ls L, K.obOf x = .term ls L := by
          cases ho : K.obOf x with
          | file _ => rw [ho] at hkd; simp [Ob.kind] at hkd
          | term ls L => exact ⟨ls, L, rfl⟩
          | pipe _ _ _ => rw [ho] at hkd; simp [Ob.kind] at hkd
        rw [hkd] at tk'
        have tn' := (HB.out.cell (p := ⟨I.tb x, 0, none⟩) (World.block_lt_of_cell? w _ tn)).trans tn
        have tf' := (HB.out.cell (p := ⟨I.tb x, 3, none⟩) (World.block_lt_of_cell? w _ (tf ls L hL))).trans (tf ls L hL)
        have hob := (HH.out.comp (.obj x)) hxt
        rw [← KS.obOf_eq hxt, hL] at hob
        obtain ⟨⟨la, lc, u, Bu, O1, hF, -⟩, hLl⟩ := hob
        have hLl' : L.length ≤ 1048576 := hLl.2.2
        obtain ⟨ua, uc, hu⟩ := owns_slice hF.scr
        have d0 : w.cell? ⟨I.ob x, 1, none⟩ = some u := hF.screen
        have hby := Bys.of_owns hF.scr
        rw [hu] at d0 hby
        have d0' := (HB.out.cell (p := ⟨I.ob x, 1, none⟩) (World.block_lt_of_cell? w _ d0)).trans d0
        have HNx2 : Hid (K.screensTo (k + 1) = K.screensTo k ++ [(K.nameOf x, L)]) := hide (by rw [HNx.out, hL]; rfl)
        obtain ⟨nm, hnm⟩ : ∃ nm, nm = K.nameOf x := ⟨_, rfl⟩
        rw [← hnm] at tn' HNx2
        have hS : ∀ w', Below w.heap.size w w' → w'.cell? ⟨I.kb, 0, none⟩ = some (.slice (some ⟨b, 0, none⟩) K.nm.length vc) ∧ w'.cell? ⟨b, k, none⟩ = some (.pointer (some ⟨I.tb x, 0, none⟩)) ∧ w'.cell? ⟨I.tb x, 0, none⟩ = some (.string nm) ∧ w'.cell? ⟨I.tb x, 3, none⟩ = some (.pointer (some ⟨I.ob x, 0, none⟩)) ∧ w'.cell? ⟨I.ob x, 1, none⟩ = some (.slice ua L.length uc) := fun w' hW => ⟨(hW.cell (p := ⟨I.kb, 0, none⟩) hkl).trans c1, (hW.cell (p := ⟨b, k, none⟩) (World.block_lt_of_cell? w _ hcw)).trans hcw, (hW.cell (p := ⟨I.tb x, 0, none⟩) (World.block_lt_of_cell? w _ tn)).trans (by rw [hnm]; exact tn), (hW.cell (p := ⟨I.tb x, 3, none⟩) (World.block_lt_of_cell? w _ (tf ls L hL))).trans (tf ls L hL), (hW.cell (p := ⟨I.ob x, 1, none⟩) (World.block_lt_of_cell? w _ d0)).trans d0⟩
        have hBd : Below w.heap.size w wr.drew := HB.out.drew
        obtain ⟨s1, w5, hrun1, HO5, hg5, -⟩ := run_append_bytes wr.drew 40 wr.heap.size (.slice none 0 0) (.slice ua L.length uc) [] L (World.ownsRow_nil _ _ _ _) (hby.below hBd) (by simp; omega) (Nat.le_refl _)
        obtain ⟨xa, xc, rfl⟩ := owns_slice HO5.out
        rw [List.nil_append] at HO5 hrun1
        have hB5r : Below wr.heap.size wr.drew w5 := (Below.refl _ wr.drew).grown hg5 (Nat.le_refl _) (fun k e => by cases e)
        have hB5 : Below w.heap.size w w5 := hBd.trans (hB5r.mono hsz)
        have hBa := recv_below w5 (Obj.cells #[.string nm, .slice xa L.length xc] 93)
        have hBA : Below w.heap.size w (w5.alloc (Obj.cells #[.string nm, .slice xa L.length xc] 93)) := hB5.trans (hBa.mono hB5.size)
        have hB5a : Below wr.heap.size wr.drew (w5.alloc (Obj.cells #[.string nm, .slice xa L.length xc] 93)) := hB5r.trans (hBa.mono hB5r.size)
        have HOa := hide (owns_below (W := wr.drew) HO.out hB5a)
        have HLa := hide (LCells.below (W := wr.drew) HL.out hB5a)
        have HUa := hide (owns_below HO5.out hBa)
        have hcu0 : (w5.alloc (Obj.cells #[.string nm, .slice xa L.length xc] 93)).cell? ⟨w5.heap.size, 0, none⟩ = some (.string nm) := by simp only [World.cell?, heap_alloc_new]; rfl
        have hcu1 : (w5.alloc (Obj.cells #[.string nm, .slice xa L.length xc] 93)).cell? ⟨w5.heap.size, 1, none⟩ = some (.slice xa L.length xc) := by simp only [World.cell?, heap_alloc_new]; rfl
        have hfe := screensTo_few K k
        obtain ⟨s', w7, hrun2, HO7, hg7, hb7⟩ := run_append_named (w5.alloc (Obj.cells #[.string nm, .slice xa L.length xc] 93)) 22 w.heap.size _ (K.screensTo k).length _ w5.heap.size 1 nm _ HOa.out hcu0 hcu1 rfl (by omega) (by have := hBA.size; omega)
        obtain ⟨sa', sc', rfl⟩ := owns_slice HO7.out
        have hB7 : Below w.heap.size w w7 := hBA.grown hg7 hBA.size (fun j e => (HOa.out.lt j e).1)
        have K0 := hS wr.drew hBd
        have K5 := hS w5 hB5
        have Ka := hS _ hBA
        have K7 := hS w7 hB7
        have HR1 := hide hrun1
        have HR2 := hide hrun2
        have HE : Hid (∃ us', w7.ownsRow w.heap.size 93 2 (.slice sa' ((K.screensTo k).length + 1) sc') (K.screensTo (k + 1)).length (ncs (K.screensTo (k + 1)) us') ∧ LCells w7 w.heap.size ((K.screensTo (k + 1)).map Prod.snd) us') := hide (by
          have hul := HL.out.1
          rw [List.length_map] at hul
          refine ⟨us ++ [.slice xa L.length xc], ?_, ?_⟩
          · rw [HNx2.out, ncs_snoc _ _ _ _ hul, List.length_append]
            exact HO7.out
          · have hLa : LCells w7 w.heap.size ((K.screensTo k).map Prod.snd) us := HLa.out.keep fun j hj v i h1 e => by
              obtain ⟨v', h2, h3⟩ := HLa.out.2.1 j hj
              rw [h1] at h2
              cases h2
              exact hg7.block i (h3.lt i e).2 (fun e' => Te_owns_apart h3 HOa.out (by decide) i e e'.symm)
            have hU7 := owns_keep (W' := w7) HUa.out fun i e => hg7.block i (HUa.out.lt i e).2 (fun e' => Te_owns_apart HUa.out HOa.out (by decide) i e e'.symm)
            have h9 : (K.screensTo k).length < ((K.screensTo (k + 1)).map Prod.snd).length := by rw [HNx2.out]; simp
            have h10 : (K.screensTo (k + 1)).map Prod.snd = ((K.screensTo (k + 1)).map Prod.snd).take ((K.screensTo k).length + 1) := by rw [List.take_of_length_le (by rw [HNx2.out]; simp)]
            have h11 : ((K.screensTo (k + 1)).map Prod.snd).take (K.screensTo k).length = (K.screensTo k).map Prod.snd := by rw [HNx2.out, List.map_append, List.take_append_of_le_length (by simp), List.take_of_length_le (by simp)]
            have h12 : ((K.screensTo (k + 1)).map Prod.snd)[(K.screensTo k).length] = L := by simp [HNx2.out]
            rw [h10]
            refine LCells.snoc h9 (by rw [h11]; exact hLa) _ ?_ (fun j v i h1 e e' => ?_)
            · rw [h12]
              exact owns_mono hU7 hsz
            · obtain ⟨v', h2, h3⟩ := HL.out.2.1 j (by have := (List.getElem?_eq_some_iff.1 h1).1; have := HL.out.1; omega)
              rw [h1] at h2
              cases h2
              have := (h3.lt i e).2
              have : wr.heap.size ≤ i := (HO5.out.lt i e').1
              omega)
        have HB7 := hide hB7
        have H0 := hide hS
        clear hS hBd hrun1 hrun2 hg5 hB5r hB5 hBa hBA hB5a hcu0 hcu1 hg7 hb7 hB7 hby hF d0 tf tn tk hcw hnm
        go_wp2_with fail
        go_region_held3 (fun w' => w'.cell? ⟨I.kb, 0, none⟩ = some (.slice (some ⟨b, 0, none⟩) K.nm.length vc) ∧ w'.cell? ⟨b, k, none⟩ = some (.pointer (some ⟨I.tb x, 0, none⟩)) ∧ w'.cell? ⟨I.tb x, 0, none⟩ = some (.string nm) ∧ w'.cell? ⟨I.tb x, 3, none⟩ = some (.pointer (some ⟨I.ob x, 0, none⟩)) ∧ w'.cell? ⟨I.ob x, 1, none⟩ = some (.slice ua L.length uc))
          (first | exact K7 | exact Ka | exact K5 | exact K0 | go_keep)
          (first
            | (refine step_append_run _ (by rfl) _ _ _ _ (by rfl) _ _ (by rfl) (by rfl) _ _ HR2.out ?_)
            | (refine step_append_run _ (by rfl) _ _ _ _ (by rfl) _ _ (by rfl) (by rfl) _ _ HR1.out ?_)
            | fail)
        all_goals
          go_wp2
          go_roundw
          case rel =>
            obtain ⟨us', h1, h2⟩ := HE.out
            exact ⟨k + 1, us', by go_num, by omega, hide h1, hide h2, HB7⟩
          case measure => simp [intOf]; omega
      · have hkd2 : ((K.obOf x).kind == 2) = false := by simpa using hkd
        have HNx2 : Hid (K.screensTo (k + 1) = K.screensTo k) := hide (by rw [HNx.out, if_neg (by simp [hkd])])
        go_wp2
        go_roundw
        case rel => exact ⟨k + 1, us, by go_num, by omega, by rw [HNx2.out]; exact HO, by rw [HNx2.out]; exact HL, HB⟩
        case measure => simp [intOf]; omega
    · obtain rfl : k = K.nm.length := by omega
      have HA : Hid (K.screensTo K.nm.length = K.screens) := hide (screensTo_all K)
      go_wp2
      go_ret
      rw [← HA.out]
      exact ⟨_, us, rfl, HO.out, HL.out, HB.out⟩
end Go.Proofs.YtkkicbhmcjbmbaaGreat
