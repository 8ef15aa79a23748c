/- What the proof stands on, part 6: the contracts of the program's calls that it reaches. -/
import Derived.Test.YtkkommomefmpgaaGreatKQ5
/- The program's kernel: what lies in memory for it; isMade, described. -/
namespace Go.Proofs.YtkkommomefmpgaaGreat
open Go.RowKit Go.Maps

inductive PTag where
  | kern
  | fmap
  | tmap
  | omap
  | plan
  | obj (i : Nat)
  | cons (i : Nat)
  | desc (n : Nat)
  | ofile (n : Nat)
structure PI where
  kb : Nat
  fm : Nat
  tm : Nat
  om : Nat
  pb : Nat
  pv : Value
  ob : Nat → Nat
  cb : Nat → Nat
  db : Nat → Nat
  xb : Nat → Nat
  last : Nat
def nkey (s : ByteArray) : Lit := .string s.data.toList
def dkey (n : Nat) : Lit := .int .i64 n
def KS.fidx (K : KS) : List Nat := K.nm.filter fun i => (K.obOf i).kind == 1
def KS.tidx (K : KS) : List Nat := K.nm.filter fun i => (K.obOf i).kind == 2
def KS.fl (K : KS) (I : PI) : List (Lit × Nat) := K.fidx.map fun i => (nkey (K.nameOf i), I.ob i)
def KS.tl (K : KS) (I : PI) : List (Lit × Nat) := K.tidx.map fun i => (nkey (K.nameOf i), I.cb i)
def KS.dl (K : KS) (I : PI) : List (Lit × Nat) := K.de.map fun d => (dkey d.n, I.db d.n)
def thingV (I : PI) (K : KS) (d : De) : Value := match K.tho d with
  | .file _ => .iface 261 (.pointer (some ⟨I.xb d.n, 0, none⟩))
  | .term _ _ => .iface 104 (.pointer (some ⟨I.cb d.th, 0, none⟩))
  | .pipe _ _ _ => .iface 271 (.agg #[.pointer (some ⟨I.ob d.th, 0, none⟩)])
def PComp (W : World) (ρ : Nat → Option PTag) (I : PI) (K : KS) : PTag → Prop
  | .kern => W.heap[I.kb]? = some (.cells ([.bool true, .map (some I.fm), .map (some I.tm), .map (some I.om), .int .i64 I.last, .pointer (some ⟨I.pb, 0, none⟩), .int .i64 K.reads, .int .i64 K.writes] : List Value).toArray 96 (0, 0)) ∧ ρ I.kb = some .kern ∧ K.next = I.last + 1
  | .fmap => PMap W Tryz.prog 9 I.fm (K.fl I) ∧ ρ I.fm = some .fmap
  | .tmap => PMap W Tryz.prog 9 I.tm (K.tl I) ∧ ρ I.tm = some .tmap
  | .omap => PMap W Tryz.prog 3 I.om (K.dl I) ∧ ρ I.om = some .omap
  | .plan => PlanAt W I.pb I.pv K.plan ∧ ρ I.pb = some .plan ∧ ∀ k, I.pv.ownBlock = some k → ρ k = some .plan
  | .obj i => ∀ (h : i < K.th.length), PObj W (fun k => ρ k = some (.obj i)) (I.ob i) K.th[i].ob
  | .cons i => ∀ (h : i < K.th.length), ∀ ls scr, K.th[i].ob = .term ls scr → W.heap[I.cb i]? = some (.cells ([.pointer (some ⟨I.ob i, 0, none⟩), .int .i64 scr.length] : List Value).toArray 106 (0, 0)) ∧ ρ (I.cb i) = some (.cons i)
  | .desc n => ∀ d ∈ K.de, d.n = n → W.heap[I.db n]? = some (.cells ([thingV I K d, .bool (bit d.flags 1), .bool (bit d.flags 2), .int .i64 d.held] : List Value).toArray 246 (0, 0)) ∧ ρ (I.db n) = some (.desc n)
  | .ofile n => ∀ d ∈ K.de, d.n = n → ∀ b, K.tho d = .file b → W.heap[I.xb n]? = some (.cells ([.pointer (some ⟨I.ob d.th, 0, none⟩), .int .i64 d.pos, .bool (bit d.flags 4)] : List Value).toArray 265 (0, 0)) ∧ ρ (I.xb n) = some (.ofile n)
theorem PComp.keep {W W' : World} {ρ : Nat → Option PTag} {I : PI} {K : KS} {t : PTag} (h : PComp W ρ I K t) (hk : ∀ k, ρ k = some t → k < W.heap.size → W'.heap[k]? = W.heap[k]?) (hs : W.heap.size ≤ W'.heap.size) : PComp W' ρ I K t := by
  have lt : ∀ {k o}, W.heap[k]? = some o → k < W.heap.size := fun e => (Array.getElem?_eq_some_iff.1 e).1
  cases t with
  | kern => exact ⟨(hk _ h.2.1 (lt h.1)).trans h.1, h.2⟩
  | fmap => exact ⟨h.1.keep (hk _ h.2 h.1.lt), h.2⟩
  | tmap => exact ⟨h.1.keep (hk _ h.2 h.1.lt), h.2⟩
  | omap => exact ⟨h.1.keep (hk _ h.2 h.1.lt), h.2⟩
  | plan => exact ⟨h.1.keep fun k hlt e => by
      rcases e with rfl | e
      · exact hk _ h.2.1 hlt
      · exact hk k (h.2.2 k e) hlt, h.2⟩
  | obj i => exact fun hi => (h hi).keep (fun k e hlt => hk k e hlt) hs
  | cons i => exact fun hi ls scr e => ⟨(hk _ (h hi ls scr e).2 (lt (h hi ls scr e).1)).trans (h hi ls scr e).1, (h hi ls scr e).2⟩
  | desc n => exact fun d hd e => ⟨(hk _ (h d hd e).2 (lt (h d hd e).1)).trans (h d hd e).1, (h d hd e).2⟩
  | ofile n => exact fun d hd e b eb => ⟨(hk _ (h d hd e b eb).2 (lt (h d hd e b eb).1)).trans (h d hd e b eb).1, (h d hd e b eb).2⟩
structure PK (W : World) (ρ : Nat → Option PTag) (I : PI) (K : KS) : Prop where
  comp : ∀ t, PComp W ρ I K t
  lt : ∀ k t, ρ k = some t → k < W.heap.size
  ok : KOk K
  nm : KNm K
theorem PK.keep {W W' : World} {ρ : Nat → Option PTag} {I : PI} {K : KS} (h : PK W ρ I K) (hk : ∀ k t, ρ k = some t → W'.heap[k]? = W.heap[k]?) (hs : W.heap.size ≤ W'.heap.size) : PK W' ρ I K :=
  ⟨fun t => (h.comp t).keep (fun k e _ => hk k t e) hs, fun k t e => Nat.lt_of_lt_of_le (h.lt k t e) hs, h.ok, h.nm⟩
def KAt (W : World) (O : Nat → Prop) (kb : Nat) (K : KS) : Prop := ∃ ρ I, PK W ρ I K ∧ I.kb = kb ∧ ∀ k t, ρ k = some t → O k
theorem KAt.keep {W W' : World} {O : Nat → Prop} {kb : Nat} {K : KS} (h : KAt W O kb K) (hk : ∀ k, O k → k < W.heap.size → W'.heap[k]? = W.heap[k]?) (hs : W.heap.size ≤ W'.heap.size) : KAt W' O kb K := by
  obtain ⟨ρ, I, h1, h2, h3⟩ := h
  exact ⟨ρ, I, h1.keep (fun k t e => hk k (h3 k t e) (h1.lt k t e)) hs, h2, h3⟩
theorem KAt.below {W W' : World} {O : Nat → Prop} {kb : Nat} {K : KS} (h : KAt W O kb K) (hB : Below W.heap.size W W') : KAt W' O kb K := h.keep (fun k _ hlt => hB.block k hlt) hB.size
theorem KAt.ok {W : World} {O : Nat → Prop} {kb : Nat} {K : KS} (h : KAt W O kb K) : KOk K ∧ KNm K := by
  obtain ⟨ρ, I, h1, h2, h3⟩ := h
  exact ⟨h1.ok, h1.nm⟩
def KStep (w : World) (O : Nat → Prop) (kb : Nat) (K' : KS) (w' : World) : Prop := ∃ O', KAt w' O' kb K' ∧ (∀ k, O' k → O k ∨ w.heap.size ≤ k) ∧ Turned O w w'
theorem string_key (s : ByteArray) (hs : s.size ≤ maxLen) : keyOf Tryz.prog 9 (.string s) = some (nkey s) := by
  have hu := Tryz.underlying9
  simp [keyOf, hu, mapKey, nkey, hs]
theorem int_key (d : Int) (hd : (Lit.int .i64 d).wf = true) : keyOf Tryz.prog 3 (.int .i64 d) = some (.int .i64 d) := keyOf_int_mk Tryz.underlying3 hd
theorem skeyed : Keyed Tryz.prog 9 := string_keyed Tryz.underlying9
theorem ikeyed : Keyed Tryz.prog 3 := int_keyed Tryz.underlying3

structure KCells (W : World) (ρ : Nat → Option PTag) (I : PI) (K : KS) : Prop where
  made : W.cell? ⟨I.kb, 0, none⟩ = some (.bool true)
  files : W.cell? ⟨I.kb, 1, none⟩ = some (.map (some I.fm))
  terms : W.cell? ⟨I.kb, 2, none⟩ = some (.map (some I.tm))
  opens : W.cell? ⟨I.kb, 3, none⟩ = some (.map (some I.om))
  last : W.cell? ⟨I.kb, 4, none⟩ = some (.int .i64 I.last)
  plan : W.cell? ⟨I.kb, 5, none⟩ = some (.pointer (some ⟨I.pb, 0, none⟩))
  reads : W.cell? ⟨I.kb, 6, none⟩ = some (.int .i64 K.reads)
  writes : W.cell? ⟨I.kb, 7, none⟩ = some (.int .i64 K.writes)
theorem PK.cells {W : World} {ρ : Nat → Option PTag} {I : PI} {K : KS} (h : PK W ρ I K) : KCells W ρ I K := by
  have hb := (h.comp .kern).1
  constructor <;> (rw [cell_of_row W I.kb _ _ _ _ hb]; rfl)
set_option maxRecDepth 100000 in
theorem kmade_any (kb : Nat) (w : World) (h : w.cell? ⟨kb, 0, none⟩ = some (.bool true)) :
    Calls Tryz.prog 117 #[.pointer (some ⟨kb, 0, none⟩)] w fun e w' => e = .returned (.bool true) ∧ w' = w := by
  go_enter Tryz.func117, Tryz.ntmps117
  go_wp2
  go_ret
  exact ⟨rfl, rfl⟩
end Go.Proofs.YtkkommomefmpgaaGreat

/- The program's kernel: described, Kind. -/
namespace Go.Proofs.YtkkommomefmpgaaGreat
open Go.RowKit Go.Maps

theorem zero_desc (w : World) : (zeroValue 242).run Tryz.prog w = .ok (.pointer none) w := by kernel_rfl
def descV (I : PI) : Option De → Value
  | none => .tuple #[.pointer none, .int .i64 64]
  | some x => .tuple #[.pointer (some ⟨I.db x.n, 0, none⟩), .int .i64 0]
theorem look_desc {w : World} {ρ : Nat → Option PTag} {I : PI} {K : KS} (h : PK w ρ I K) {d : Int} (hd : I64 d) :
    (Instr.lookup 93 (.map (some I.om)) (.int .i64 d) true).run Tryz.prog w = .ok (.tuple #[.pointer ((K.find d).map fun x => ⟨I.db x.n, 0, none⟩), .bool (K.find d).isSome]) w := by
  have hm := (h.comp .omap).1
  cases hx : K.find d with
  | none =>
    rw [hm.miss ikeyed Tryz.underlying93 (zero_desc w) (int_key d hd.wf) (fun p hp e => ?_) true]
    · rfl
    · obtain ⟨x, hx1, rfl⟩ := List.mem_map.1 hp
      have := List.find?_eq_none.1 hx x hx1
      simp only [dkey, Lit.int.injEq] at e
      simp [e.2] at this
  | some x =>
    obtain ⟨h1, h2⟩ := KS.find_some hx
    rw [hm.hit ikeyed Tryz.underlying93 (zero_desc w) (int_key d hd.wf) (g := I.db x.n) (List.mem_map.2 ⟨x, h1, by simp [dkey, h2]⟩) true]
    rfl
set_option maxRecDepth 100000 in
set_option maxHeartbeats 1000000 in
theorem described_any (ρ : Nat → Option PTag) (I : PI) (K : KS) (d : Int) (w : World) (h : PK w ρ I K) (hd : I64 d) :
    Calls Tryz.prog 140 #[.pointer (some ⟨I.kb, 0, none⟩), .int .i64 d] w fun e w' => e = .returned (descV I (K.find d)) ∧ w' = w := by
  have hm := hide (kmade_any I.kb w h.cells.made)
  have c3 := h.cells.opens
  have hl := look_desc h hd
  cases hx : K.find d with
  | none =>
    rw [hx] at hl
    simp only [Option.map_none, Option.isSome_none] at hl
    clear h
    go_enter Tryz.func140, Tryz.ntmps140
    go_wp2_with fail
    refine hm.out.mono ?_
    rintro e w1 ⟨rfl, rfl⟩
    go_wp2
    go_ret2
    exact ⟨rfl, rfl⟩
  | some x =>
    rw [hx] at hl
    simp only [Option.map_some, Option.isSome_some] at hl
    clear h
    go_enter Tryz.func140, Tryz.ntmps140
    go_wp2_with fail
    refine hm.out.mono ?_
    rintro e w1 ⟨rfl, rfl⟩
    go_wp2
    go_ret2
    exact ⟨rfl, rfl⟩
structure DCells (W : World) (I : PI) (K : KS) (x : De) : Prop where
  thing : W.cell? ⟨I.db x.n, 0, none⟩ = some (thingV I K x)
  reads : W.cell? ⟨I.db x.n, 1, none⟩ = some (.bool (bit x.flags 1))
  writes : W.cell? ⟨I.db x.n, 2, none⟩ = some (.bool (bit x.flags 2))
  held : W.cell? ⟨I.db x.n, 3, none⟩ = some (.int .i64 x.held)
theorem PK.desc {W : World} {ρ : Nat → Option PTag} {I : PI} {K : KS} (h : PK W ρ I K) {x : De} (hx : x ∈ K.de) : DCells W I K x := by
  have hb := (h.comp (.desc x.n) x hx rfl).1
  constructor <;> (rw [cell_of_row W _ _ _ _ _ hb]; rfl)
theorem thing_file {I : PI} {K : KS} {x : De} {b : List UInt8} (h : K.tho x = .file b) : thingV I K x = .iface 261 (.pointer (some ⟨I.xb x.n, 0, none⟩)) := by unfold thingV; rw [h]
theorem thing_term {I : PI} {K : KS} {x : De} {ls : List (List UInt8)} {scr : List UInt8} (h : K.tho x = .term ls scr) : thingV I K x = .iface 104 (.pointer (some ⟨I.cb x.th, 0, none⟩)) := by unfold thingV; rw [h]
theorem thing_pipe {I : PI} {K : KS} {x : De} {q : List UInt8} {rd wt : Nat} (h : K.tho x = .pipe q rd wt) : thingV I K x = .iface 271 (.agg #[.pointer (some ⟨I.ob x.th, 0, none⟩)]) := by unfold thingV; rw [h]
theorem mf_readWaits (p : Nat) (w : World) : (method 485 261 (.pointer (some ⟨p, 0, none⟩)) "millrace/kern.readWaits").run Tryz.prog w = .ok (308, .pointer (some ⟨p, 0, none⟩)) w := by kernel_rfl
theorem mt_readWaits (p : Nat) (w : World) : (method 485 104 (.pointer (some ⟨p, 0, none⟩)) "millrace/kern.readWaits").run Tryz.prog w = .ok (299, .pointer (some ⟨p, 0, none⟩)) w := by kernel_rfl
theorem mp_readWaits (p : Nat) (w : World) : (method 485 271 (.agg #[.pointer (some ⟨p, 0, none⟩)]) "millrace/kern.readWaits").run Tryz.prog w = .ok (325, .agg #[.pointer (some ⟨p, 0, none⟩)]) w := by kernel_rfl
theorem mf_refuses (p : Nat) (w : World) : (method 485 261 (.pointer (some ⟨p, 0, none⟩)) "millrace/kern.refuses").run Tryz.prog w = .ok (309, .pointer (some ⟨p, 0, none⟩)) w := by kernel_rfl
theorem mt_refuses (p : Nat) (w : World) : (method 485 104 (.pointer (some ⟨p, 0, none⟩)) "millrace/kern.refuses").run Tryz.prog w = .ok (300, .pointer (some ⟨p, 0, none⟩)) w := by kernel_rfl
theorem mp_refuses (p : Nat) (w : World) : (method 485 271 (.agg #[.pointer (some ⟨p, 0, none⟩)]) "millrace/kern.refuses").run Tryz.prog w = .ok (326, .agg #[.pointer (some ⟨p, 0, none⟩)]) w := by kernel_rfl
theorem mf_read (p : Nat) (w : World) : (method 485 261 (.pointer (some ⟨p, 0, none⟩)) "millrace/kern.read").run Tryz.prog w = .ok (307, .pointer (some ⟨p, 0, none⟩)) w := by kernel_rfl
theorem mt_read (p : Nat) (w : World) : (method 485 104 (.pointer (some ⟨p, 0, none⟩)) "millrace/kern.read").run Tryz.prog w = .ok (298, .pointer (some ⟨p, 0, none⟩)) w := by kernel_rfl
theorem mp_read (p : Nat) (w : World) : (method 485 271 (.agg #[.pointer (some ⟨p, 0, none⟩)]) "millrace/kern.read").run Tryz.prog w = .ok (324, .agg #[.pointer (some ⟨p, 0, none⟩)]) w := by kernel_rfl
theorem mf_write (p : Nat) (w : World) : (method 485 261 (.pointer (some ⟨p, 0, none⟩)) "millrace/kern.write").run Tryz.prog w = .ok (310, .pointer (some ⟨p, 0, none⟩)) w := by kernel_rfl
theorem mt_write (p : Nat) (w : World) : (method 485 104 (.pointer (some ⟨p, 0, none⟩)) "millrace/kern.write").run Tryz.prog w = .ok (301, .pointer (some ⟨p, 0, none⟩)) w := by kernel_rfl
theorem mp_write (p : Nat) (w : World) : (method 485 271 (.agg #[.pointer (some ⟨p, 0, none⟩)]) "millrace/kern.write").run Tryz.prog w = .ok (327, .agg #[.pointer (some ⟨p, 0, none⟩)]) w := by kernel_rfl
end Go.Proofs.YtkkommomefmpgaaGreat

/- The program's kernel: how what lies in memory turns. -/
namespace Go.Proofs.YtkkommomefmpgaaGreat
open Go.RowKit Go.Maps

def newTags (ρ ρ' : Nat → Option PTag) (w : World) : Prop := ∀ k t, ρ' k = some t → (∃ t', ρ k = some t') ∨ w.heap.size ≤ k
theorem PK.step {w w' : World} {O : Nat → Prop} {ρ ρ' : Nat → Option PTag} {I I' : PI} {K' : KS} (hO : ∀ k t, ρ k = some t → O k) (h' : PK w' ρ' I' K') (hkb : I'.kb = I.kb) (hn : newTags ρ ρ' w) (hT : Turned (fun k => ∃ t, ρ k = some t) w w') : KStep w O I.kb K' w' := by
  refine ⟨fun k => O k ∨ w.heap.size ≤ k, ⟨ρ', I', h', hkb, fun k t e => ?_⟩, fun k e => e, hT.mono fun k ⟨t, e⟩ => hO k t e⟩
  rcases hn k t e with ⟨t', e'⟩ | e'
  · exact .inl (hO k t' e')
  · exact .inr e'
theorem PK.kernel {W W' : World} {ρ : Nat → Option PTag} {I : PI} {K : KS} (h : PK W ρ I K) (r wt l : Nat) (hb : W'.heap[I.kb]? = some (.cells ([.bool true, .map (some I.fm), .map (some I.tm), .map (some I.om), .int .i64 l, .pointer (some ⟨I.pb, 0, none⟩), .int .i64 r, .int .i64 wt] : List Value).toArray 96 (0, 0)))
    (hT : Turned (fun k => k = I.kb) W W') (hl : I.last ≤ l) : PK W' ρ { I with last := l } { K with reads := r, writes := wt, next := l + 1 } := by
  have hkb := (h.comp .kern).2.1
  have hnx := (h.comp .kern).2.2
  have key : ∀ t, t ≠ .kern → PComp W' ρ I K t := fun t ht => (h.comp t).keep (fun k e hlt => hT.block k hlt (fun e' => by rw [e', hkb] at e; exact ht (Option.some.inj e).symm)) hT.size
  refine ⟨fun t => ?_, fun k t e => Nat.lt_of_lt_of_le (h.lt k t e) hT.size, ⟨h.ok.few, h.ok.named, h.ok.th, h.ok.nm, fun d hd => ⟨(h.ok.num d hd).1, by have := (h.ok.num d hd).2; show d.n < l + 1; omega⟩, h.ok.once, h.ok.flags, h.ok.pos, h.ok.held, h.ok.plan⟩, h.nm.same rfl rfl⟩
  cases t with
  | kern => exact ⟨hb, hkb, rfl⟩
  | fmap => exact key .fmap (by simp)
  | tmap => exact key .tmap (by simp)
  | omap => exact key .omap (by simp)
  | plan => exact key .plan (by simp)
  | obj i => exact key (.obj i) (by simp)
  | cons i => exact key (.cons i) (by simp)
  | desc n => exact key (.desc n) (by simp)
  | ofile n => exact key (.ofile n) (by simp)
theorem PK.used {W W' : World} {ρ : Nat → Option PTag} {I : PI} {K : KS} (h : PK W ρ I K) {r : List Fault} {v' : Value} (hR : PlanAt W' I.pb v' r) (hv : ∀ k, v'.ownBlock = some k → I.pv.ownBlock = some k) (hT : Turned (fun k => k = I.pb) W W') (hok : planOk r) : PK W' ρ { I with pv := v' } { K with plan := r } := by
  have hpb := (h.comp .plan).2
  have key : ∀ t, t ≠ .plan → PComp W' ρ I K t := fun t ht => (h.comp t).keep (fun k e hlt => hT.block k hlt (fun e' => by rw [e', hpb.1] at e; exact ht (Option.some.inj e).symm)) hT.size
  refine ⟨fun t => ?_, fun k t e => Nat.lt_of_lt_of_le (h.lt k t e) hT.size, ⟨h.ok.few, h.ok.named, h.ok.th, h.ok.nm, h.ok.num, h.ok.once, h.ok.flags, h.ok.pos, h.ok.held, hok⟩, h.nm.same rfl rfl⟩
  cases t with
  | plan => exact ⟨hR, hpb.1, fun k e => hpb.2 k (hv k e)⟩
  | kern => exact key .kern (by simp)
  | fmap => exact key .fmap (by simp)
  | tmap => exact key .tmap (by simp)
  | omap => exact key .omap (by simp)
  | obj i => exact key (.obj i) (by simp)
  | cons i => exact key (.cons i) (by simp)
  | desc n => exact key (.desc n) (by simp)
  | ofile n => exact key (.ofile n) (by simp)
theorem tho_setDe (K : KS) (x y : De) : (K.setDe x).tho y = K.tho y := rfl
theorem setDe_dl {K : KS} {x : De} (I : PI) : (K.setDe x).dl I = K.dl I := by
  unfold KS.dl KS.setDe
  simp only [List.map_map]
  refine List.map_congr_left fun y _ => ?_
  simp only [Function.comp]
  split
  · rename_i e; rw [e]
  · rfl
theorem PK.setDe {W W' : World} {ρ : Nat → Option PTag} {I : PI} {K : KS} (h : PK W ρ I K) {x x' : De} (hx : x ∈ K.de) (hn : x'.n = x.n) (ht : x'.th = x.th) (hf : x'.flags = x.flags) (hp : x'.pos ≤ 1048576) (hh : 1 ≤ x'.held ∧ x'.held ≤ 1024)
    (hT : Turned (fun k => ρ k = some (.desc x.n) ∨ ρ k = some (.ofile x.n)) W W')
    (hd : W'.heap[I.db x.n]? = some (.cells ([thingV I K x, .bool (bit x.flags 1), .bool (bit x.flags 2), .int .i64 x'.held] : List Value).toArray 246 (0, 0)))
    (hx2 : ∀ b, K.tho x = .file b → W'.heap[I.xb x.n]? = some (.cells ([.pointer (some ⟨I.ob x.th, 0, none⟩), .int .i64 x'.pos, .bool (bit x.flags 4)] : List Value).toArray 265 (0, 0))) : PK W' ρ I (K.setDe x') := by
  have key : ∀ t, t ≠ .desc x.n → t ≠ .ofile x.n → PComp W' ρ I K t := fun t h1 h2 => (h.comp t).keep (fun k e hlt => hT.block k hlt (fun e' => by
    rcases e' with e' | e'
    · rw [e'] at e; exact h1 (Option.some.inj e).symm
    · rw [e'] at e; exact h2 (Option.some.inj e).symm)) hT.size
  refine ⟨fun t => ?_, fun k t e => Nat.lt_of_lt_of_le (h.lt k t e) hT.size, h.ok.setDe hx hn ht hf hp hh, h.nm.same rfl rfl⟩
  cases t with
  | kern => exact key .kern (by simp) (by simp)
  | fmap => exact key .fmap (by simp) (by simp)
  | tmap => exact key .tmap (by simp) (by simp)
  | omap =>
    refine ⟨?_, (h.comp .omap).2⟩
    rw [setDe_dl]
    exact (key .omap (by simp) (by simp)).1
  | plan => exact key .plan (by simp) (by simp)
  | obj i => exact key (.obj i) (by simp) (by simp)
  | cons i => exact key (.cons i) (by simp) (by simp)
  | desc n =>
    intro y hy e
    subst e
    rcases mem_setDe hy with rfl | ⟨hy, hne⟩
    · rw [hn]
      refine ⟨?_, (h.comp (.desc x.n) x hx rfl).2⟩
      rw [hd, hf]
      have : thingV I (K.setDe y) y = thingV I K x := by
        unfold thingV
        rw [tho_setDe, show K.tho y = K.tho x by unfold KS.tho; rw [ht], hn, ht]
      rw [this]
    · exact key (.desc y.n) (by rw [hn] at hne; simpa using hne) (by simp) y hy rfl
  | ofile n =>
    intro y hy e b hb
    subst e
    rcases mem_setDe hy with rfl | ⟨hy, hne⟩
    · rw [tho_setDe, show K.tho y = K.tho x by unfold KS.tho; rw [ht]] at hb
      rw [hn, ht, hf]
      exact ⟨hx2 b hb, (h.comp (.ofile x.n) x hx rfl b hb).2⟩
    · exact key (.ofile y.n) (by simp) (by rw [hn] at hne; simpa using hne) y hy rfl b hb
theorem thing_setOb {I : PI} {K : KS} {i : Nat} {ob : Ob} (hi : i < K.th.length) (hk : ob.kind = K.th[i].ob.kind) (x : De) : thingV I (K.setOb i ob) x = thingV I K x := by
  have := KS.kind_setOb hi hk x.th
  unfold thingV
  rw [KS.tho_obOf, KS.tho_obOf]
  cases h1 : (K.setOb i ob).obOf x.th <;> cases h2 : K.obOf x.th <;> rw [h1, h2] at this <;> simp [Ob.kind] at this <;> rfl
theorem fidx_setOb {K : KS} {i : Nat} {ob : Ob} (hi : i < K.th.length) (hk : ob.kind = K.th[i].ob.kind) : (K.setOb i ob).fidx = K.fidx ∧ (K.setOb i ob).tidx = K.tidx := by
  constructor
  · unfold KS.fidx
    refine List.filter_congr fun j _ => ?_
    rw [KS.kind_setOb hi hk]
  · unfold KS.tidx
    refine List.filter_congr fun j _ => ?_
    rw [KS.kind_setOb hi hk]
theorem PObj.trim {W : World} {O : Nat → Prop} {p : Nat} {ob : Ob} (h : PObj W O p ob) : PObj W (fun k => O k ∧ k < W.heap.size) p ob := by
  cases ob with
  | file b => obtain ⟨h0, r, cap, h1, h2, h3⟩ := h; exact ⟨h0, r, cap, h1, ⟨h2, h1.lt⟩, ⟨h3, h1.row.lt⟩⟩
  | term ls scr =>
    obtain ⟨B, O1, h1, h2⟩ := h
    obtain ⟨la, lc, s, h3⟩ := h1.term
    exact ⟨B, O1, h1, fun k e => ⟨h2 k e, (h3.lt k e).2⟩⟩
  | pipe q rd wt => exact ⟨h.1, h.2, h.1.lt⟩
theorem PK.setOb {W W' : World} {ρ : Nat → Option PTag} {I : PI} {K : KS} (h : PK W ρ I K) {i : Nat} (hi : i < K.th.length) {ob' : Ob} (hk : ob'.kind = K.th[i].ob.kind) {O' : Nat → Prop}
    (hT : Turned (fun k => ρ k = some (.obj i) ∨ ρ k = some (.cons i)) W W') (hO : PObj W' O' (I.ob i) ob') (hO' : ∀ k, O' k → ρ k = some (.obj i) ∨ W.heap.size ≤ k)
    (hc : ∀ ls scr, ob' = .term ls scr → W'.heap[I.cb i]? = some (.cells ([.pointer (some ⟨I.ob i, 0, none⟩), .int .i64 scr.length] : List Value).toArray 106 (0, 0))) :
    ∃ ρ', PK W' ρ' I (K.setOb i ob') ∧ newTags ρ ρ' W ∧ (∀ k, k < W.heap.size → ρ' k = ρ k) ∧ ∀ k t, ρ' k = some t → (∃ t', ρ k = some t') ∨ O' k := by
  classical
  obtain ⟨ρ', hρ⟩ : ∃ ρ' : Nat → Option PTag, ρ' = fun k => if k < W.heap.size then ρ k else if O' k ∧ k < W'.heap.size then some (.obj i) else none := ⟨_, rfl⟩
  have low : ∀ k, k < W.heap.size → ρ' k = ρ k := fun k hlt => by rw [hρ]; simp [hlt]
  have fit : ∀ {k t}, ρ k = some t → ρ' k = some t := fun {k t} e => (low k (h.lt k t e)).trans e
  have back : ∀ {k t}, ρ' k = some t → ρ k = some t ∨ (W.heap.size ≤ k ∧ k < W'.heap.size ∧ O' k) := by
    intro k t e
    by_cases hlt : k < W.heap.size
    · rw [low k hlt] at e; exact .inl e
    · rw [hρ] at e
      simp only [if_neg hlt] at e
      split at e
      · rename_i hh; exact .inr ⟨by omega, hh.2, hh.1⟩
      · cases e
  have key : ∀ t, t ≠ .obj i → t ≠ .cons i → PComp W' ρ I K t := fun t h1 h2 => (h.comp t).keep (fun k e hlt => hT.block k hlt (fun e' => by
    rcases e' with e' | e'
    · rw [e'] at e; exact h1 (Option.some.inj e).symm
    · rw [e'] at e; exact h2 (Option.some.inj e).symm)) hT.size
  refine ⟨ρ', ⟨fun t => ?_, fun k t e => ?_, h.ok.setOb i ob', h.nm.setOb hi hk⟩, fun k t e => (back e).imp (fun e' => ⟨t, e'⟩) (fun e' => e'.1), low, fun k t e => (back e).imp (fun e' => ⟨t, e'⟩) (fun e' => e'.2.2)⟩
  · cases t with
    | kern => obtain ⟨a1, a2, a3⟩ := key .kern (by simp) (by simp); exact ⟨a1, fit a2, a3⟩
    | fmap =>
      obtain ⟨a1, a2⟩ := key .fmap (by simp) (by simp)
      refine ⟨?_, fit a2⟩
      unfold KS.fl at a1 ⊢
      rw [(fidx_setOb hi hk).1]
      simp only [KS.nameOf_setOb]
      exact a1
    | tmap =>
      obtain ⟨a1, a2⟩ := key .tmap (by simp) (by simp)
      refine ⟨?_, fit a2⟩
      unfold KS.tl at a1 ⊢
      rw [(fidx_setOb hi hk).2]
      simp only [KS.nameOf_setOb]
      exact a1
    | omap => obtain ⟨a1, a2⟩ := key .omap (by simp) (by simp); exact ⟨a1, fit a2⟩
    | plan => obtain ⟨a1, a2, a3⟩ := key .plan (by simp) (by simp); exact ⟨a1, fit a2, fun k e => fit (a3 k e)⟩
    | obj j =>
      intro hj
      have hj' : j < K.th.length := by rw [setOb_len] at hj; exact hj
      by_cases e : j = i
      · subst e
        rw [setOb_same hj hj']
        refine hO.trim.mono fun k ⟨e1, e2⟩ => ?_
        by_cases hlt : k < W.heap.size
        · rcases hO' k e1 with e3 | e3
          · exact fit e3
          · omega
        · rw [hρ]; simp [hlt, e1, e2]
      · rw [setOb_other e hj hj']
        exact (key (.obj j) (by simpa using e) (by simp) hj').mono fun k e => fit e
    | cons j =>
      intro hj ls scr e1
      have hj' : j < K.th.length := by rw [setOb_len] at hj; exact hj
      by_cases e : j = i
      · subst e
        rw [setOb_same hj hj'] at e1
        simp only at e1
        have : ∃ ls0 scr0, K.th[j].ob = .term ls0 scr0 := by
          rw [e1] at hk
          cases h2 : K.th[j].ob <;> rw [h2] at hk <;> simp [Ob.kind] at hk
          exact ⟨_, _, rfl⟩
        obtain ⟨ls0, scr0, h2⟩ := this
        exact ⟨hc ls scr e1, fit (h.comp (.cons j) hj' ls0 scr0 h2).2⟩
      · rw [setOb_other e hj hj'] at e1
        obtain ⟨a1, a2⟩ := key (.cons j) (by simp) (by simpa using e) hj' ls scr e1
        exact ⟨a1, fit a2⟩
    | desc n =>
      intro d hd e
      obtain ⟨a1, a2⟩ := key (.desc n) (by simp) (by simp) d hd e
      exact ⟨by rw [thing_setOb hi hk]; exact a1, fit a2⟩
    | ofile n =>
      intro d hd e b hb
      have : ∃ b0, K.tho d = .file b0 := by
        have hkk := KS.kind_setOb hi hk d.th
        rw [KS.tho_obOf] at hb
        rw [hb] at hkk
        rw [KS.tho_obOf]
        cases h2 : K.obOf d.th <;> rw [h2] at hkk <;> simp [Ob.kind] at hkk
        exact ⟨_, rfl⟩
      obtain ⟨b0, hb0⟩ := this
      obtain ⟨a1, a2⟩ := key (.ofile n) (by simp) (by simp) d hd e b0 hb0
      exact ⟨a1, fit a2⟩
  · rcases back e with e' | e'
    · exact Nat.lt_of_lt_of_le (h.lt k t e') hT.size
    · exact e'.2.1
end Go.Proofs.YtkkommomefmpgaaGreat

/- The program's kernel: what is done with an open file, a console, a pipe's end. -/
namespace Go.Proofs.YtkkommomefmpgaaGreat
open Go.RowKit Go.Maps

def OFc (W : World) (x p pos : Nat) (ap : Bool) : Prop := W.heap[x]? = some (.cells ([.pointer (some ⟨p, 0, none⟩), .int .i64 pos, .bool ap] : List Value).toArray 265 (0, 0))
def COc (W : World) (x p n : Nat) : Prop := W.heap[x]? = some (.cells ([.pointer (some ⟨p, 0, none⟩), .int .i64 n] : List Value).toArray 106 (0, 0))
theorem OFc.cells {W : World} {x p pos : Nat} {ap : Bool} (h : OFc W x p pos ap) : W.cell? ⟨x, 0, none⟩ = some (.pointer (some ⟨p, 0, none⟩)) ∧ W.cell? ⟨x, 1, none⟩ = some (.int .i64 pos) ∧ W.cell? ⟨x, 2, none⟩ = some (.bool ap) ∧ W.frozen? ⟨x, 1, none⟩ = false := by
  refine ⟨?_, ?_, ?_, frozen_of_row W x 1 _ _ h⟩ <;> (rw [cell_of_row W _ _ _ _ _ h]; rfl)
theorem COc.cells {W : World} {x p n : Nat} (h : COc W x p n) : W.cell? ⟨x, 0, none⟩ = some (.pointer (some ⟨p, 0, none⟩)) ∧ W.cell? ⟨x, 1, none⟩ = some (.int .i64 n) ∧ W.frozen? ⟨x, 1, none⟩ = false := by
  refine ⟨?_, ?_, frozen_of_row W x 1 _ _ h⟩ <;> (rw [cell_of_row W _ _ _ _ _ h]; rfl)
def plc (b : List UInt8) (ap : Bool) (pos : Nat) : Nat := if ap = true then b.length else pos
set_option maxRecDepth 100000 in
set_option maxHeartbeats 1000000 in
theorem of_place (x p : Nat) (b : List UInt8) (pos : Nat) (ap : Bool) (O : Nat → Prop) (w : World) (h : OFc w x p pos ap) (hO : PObj w O p (.file b)) :
    Calls Tryz.prog 311 #[.pointer (some ⟨x, 0, none⟩)] w fun e w' => e = .returned (.int .i64 (plc b ap pos : Nat)) ∧ w' = w := by
  obtain ⟨c0, c1, c2, _⟩ := h.cells
  have HS := hide (po_fsize O p b w hO)
  unfold plc
  cases ap
  · go_enter Tryz.func311, Tryz.ntmps311
    go_wp2
    go_ret
    exact ⟨rfl, rfl⟩
  · go_enter Tryz.func311, Tryz.ntmps311
    go_wp2_with fail
    refine HS.out.mono ?_
    rintro e w1 ⟨rfl, rfl⟩
    go_wp2
    go_ret
    exact ⟨rfl, rfl⟩
set_option maxRecDepth 100000 in
set_option maxHeartbeats 1000000 in
theorem of_refuses (x p : Nat) (b : List UInt8) (pos : Nat) (ap : Bool) (n : Int) (O : Nat → Prop) (w : World) (h : OFc w x p pos ap) (hO : PObj w O p (.file b)) :
    Calls Tryz.prog 309 #[.pointer (some ⟨x, 0, none⟩), .int .i64 n] w fun e w' => e = .returned (.int .i64 (if plc b ap pos = 1048576 then 31 else 0)) ∧ w' = w := by
  have HP := hide (of_place x p b pos ap O w h hO)
  clear h hO
  generalize plc b ap pos = m at *
  by_cases hm : m = 1048576
  · rw [if_pos hm]
    subst hm
    go_enter Tryz.func309, Tryz.ntmps309
    go_wp2_with fail
    refine HP.out.mono ?_
    rintro e w1 ⟨rfl, rfl⟩
    go_wp2
    go_ret
    exact ⟨rfl, rfl⟩
  · rw [if_neg hm]
    have h1 : ¬ (m : Int) = 1048576 := by omega
    have h2 : ((m : Int) == 1048576) = false := by simpa using h1
    go_enter Tryz.func309, Tryz.ntmps309
    go_wp2_with fail
    refine HP.out.mono ?_
    rintro e w1 ⟨rfl, rfl⟩
    go_wp2
    go_ret
    exact ⟨rfl, rfl⟩
theorem rdL_piece {b : List UInt8} {pos : Nat} {m : Int} (h1 : pos ≤ 1048576) (h2 : 1 ≤ m) (h3 : m ≤ 1048576) : rdL b pos m = piece b pos m.toNat ∧ Fi_rdE pos m = 0 := by
  have : (inR (pos : Int) && inR m) = true := by unfold inR; simp; omega
  unfold rdL Fi_rdE
  rw [this]
  simp
theorem OFc.set {W : World} {x p pos : Nat} {ap : Bool} (h : OFc W x p pos ap) (pos' : Nat) : OFc (W.setCell ⟨x, 1, none⟩ (.int .i64 pos')) x p pos' ap := by
  unfold OFc at *
  rw [heap_setCell_same 1 _ h]
  rfl
theorem COc.set {W : World} {x p n : Nat} (h : COc W x p n) (n' : Nat) : COc (W.setCell ⟨x, 1, none⟩ (.int .i64 n')) x p n' := by
  unfold COc at *
  rw [heap_setCell_same 1 _ h]
  rfl
set_option maxRecDepth 100000 in
set_option maxHeartbeats 1000000 in
theorem of_read (x p : Nat) (b : List UInt8) (pos : Nat) (ap : Bool) (m : Int) (O : Nat → Prop) (w : World) (h : OFc w x p pos ap) (hO : PObj w O p (.file b)) (hp : pos ≤ 1048576) (h1 : 1 ≤ m) (h2 : m ≤ 1048576) :
    Calls Tryz.prog 307 #[.pointer (some ⟨x, 0, none⟩), .int .i64 m] w fun e w' => ∃ v, e = .returned (.tuple #[v, .int .i64 0]) ∧ w'.ownsRow w.heap.size 5 1 v (piece b pos m.toNat).length ((piece b pos m.toNat).map bv) ∧ OFc w' x p (pos + (piece b pos m.toNat).length) ap ∧ Turned (fun k => k = x) w w' := by
  obtain ⟨c0, c1, c2, c3⟩ := h.cells
  have HR := hide (po_fread O p b pos m w.drew (hO.keep (fun _ _ _ => rfl) (Nat.le_refl _)))
  have HC := hide h
  rw [(rdL_piece (b := b) hp h1 h2).1, (rdL_piece (b := b) hp h1 h2).2] at HR
  have hlen : (piece b pos m.toNat).length ≤ 1048576 := by rw [piece_len]; omega
  have hlt : x < w.heap.size := (Array.getElem?_eq_some_iff.1 h).1
  clear h hO
  generalize piece b pos m.toNat = z at *
  have HL := hide hlen
  clear hlen
  go_enter Tryz.func307, Tryz.ntmps307
  go_wp2_with fail
  go_region_held3 (fun w' => w'.cell? ⟨x, 0, none⟩ = some (.pointer (some ⟨p, 0, none⟩)) ∧ w'.cell? ⟨x, 1, none⟩ = some (.int .i64 pos))
    (first | exact K5 | go_keep)
    (first
      | (go_at_call 282; refine HR.out.mono ?_; rintro e w1 ⟨v, rfl, hrow, hB1⟩; have K5 : w1.cell? ⟨x, 0, none⟩ = some (.pointer (some ⟨p, 0, none⟩)) ∧ w1.cell? ⟨x, 1, none⟩ = some (.int .i64 pos) := ⟨(hB1.cell (p := ⟨x, 0, none⟩) hlt).trans c0, (hB1.cell (p := ⟨x, 1, none⟩) hlt).trans c1⟩)
      | fail)
  have hB : Below w.heap.size w w1 := (Below.refl _ w).drew.trans hB1
  obtain ⟨va, vc, rfl⟩ := owns_slice hrow
  have HV := hide hrow
  have c1' := K5.2
  have c3' : w1.frozen? ⟨x, 1, none⟩ = false := (World.frozen?_of_block (w := w) (hB.block x hlt)).trans c3
  have hn := HL.out
  clear hrow
  go_wp2
  go_ret2
  have HC' : OFc w1 x p pos ap := (hB.block x hlt).trans HC.out
  refine ⟨_, rfl, ?_, ?_, (Turned.of_below hB).set (.inl rfl)⟩
  · exact ownsRow_setCell_below HV.out hlt _
  · have := HC'.set (pos + z.length)
    simpa using this
end Go.Proofs.YtkkommomefmpgaaGreat

/- The program's kernel: writes to an open file and to a console; what a pipe's end does. -/
namespace Go.Proofs.YtkkommomefmpgaaGreat
open Go.RowKit Go.Maps

theorem bys_front {W : World} {a : Option Addr} {c : Nat} {x : List UInt8} (h : Bys W (.slice a x.length c) x) (m : Nat) (hm : m ≤ x.length) : Bys W (.slice a m c) (x.take m) := by
  rcases h with ⟨h1, rfl⟩ | ⟨b, cap, h1, rfl⟩ | ⟨b, off, cap, h1, h2, h3⟩
  · simp at hm; subst hm
    simp at h1
    exact .inl ⟨by rw [h1.1, h1.2], by simp⟩
  · simp at hm; subst hm
    simp only [List.length_nil, Value.slice.injEq] at h1
    exact .inr (.inl ⟨b, cap, by rw [h1.1, h1.2.2], by simp⟩)
  · simp only [Value.slice.injEq] at h1
    obtain ⟨rfl, _, rfl⟩ := h1
    by_cases h0 : m = 0
    · subst h0
      exact .inr (.inl ⟨_, _, rfl, by simp⟩)
    · refine .inr (.inr ⟨b, off, c, by simp [hm], by simp; omega, fun j hj => ?_⟩)
      have hj' : j < m := by simp at hj; omega
      rw [h3 j (by omega)]
      simp [List.getD, hj']
theorem wr_fits {x : List UInt8} {at' : Nat} (h : at' + x.length ≤ 1048576) : Fi_wrE at' x.length = 0 := by
  unfold Fi_wrE inR
  simp
  omega
theorem COc.keep {W W' : World} {x p n : Nat} (h : COc W x p n) (hk : W'.heap[x]? = W.heap[x]?) : COc W' x p n := hk.trans h
theorem heap_set_other (W : World) {g k : Nat} (j : Nat) (v : Value) (h : k ≠ g) : (W.setCell ⟨g, j, none⟩ v).heap[k]? = W.heap[k]? := by
  unfold World.setCell
  simp [Array.getElem?_modify, Ne.symm h]
theorem heap_set_size (W : World) (g j : Nat) (v : Value) : (W.setCell ⟨g, j, none⟩ v).heap.size = W.heap.size := by
  unfold World.setCell; simp
def FWr (w : World) (O : Nat → Prop) (x p : Nat) (b : List UInt8) (at' : Nat) (z : List UInt8) (e : Ending) (w' : World) : Prop :=
  e = .returned (.tuple #[.int .i64 (z.length : Nat), .int .i64 0]) ∧ PStep (w.setCell ⟨x, 1, none⟩ (.int .i64 ((at' : Int) + (z.length : Int)))) O p (.file (wrL b at' z)) w'
set_option maxRecDepth 100000 in
set_option maxHeartbeats 2000000 in
theorem of_write (x p : Nat) (b bs : List UInt8) (pos : Nat) (ap : Bool) (m : Nat) (a1 : Option Addr) (cx : Nat) (O : Nat → Prop) (w : World) (h : OFc w x p pos ap) (hO : PObj w O p (.file b)) (hxO : ¬ O x) (hp : pos ≤ 1048576)
    (hb : Bys w (.slice a1 bs.length cx) bs) (hcap : bs.length ≤ cx) (h1 : 1 ≤ m) (h2 : m ≤ bs.length) (h3 : bs.length ≤ 1048576) (hd : ∀ k, (Value.slice a1 bs.length cx).ownBlock = some k → ¬ O k ∧ k ≠ x) :
    Calls Tryz.prog 310 #[.pointer (some ⟨x, 0, none⟩), .slice a1 bs.length cx, .int .i64 m] w (FWr w O x p b (plc b ap pos) (bs.take (min m (1048576 - plc b ap pos)))) := by
  obtain ⟨c0, c1, c2, c3⟩ := h.cells
  have HP := hide (of_place x p b pos ap O w h hO)
  have hat : plc b ap pos ≤ 1048576 := by
    unfold plc; split
    · exact hO.1
    · exact hp
  have hlt : x < w.heap.size := (Array.getElem?_eq_some_iff.1 h).1
  obtain ⟨A, hA⟩ : ∃ A, A = plc b ap pos := ⟨_, rfl⟩
  rw [← hA] at HP hat ⊢
  clear hA
  obtain ⟨N, hN⟩ : ∃ N, N = min m (1048576 - A) := ⟨_, rfl⟩
  rw [← hN]
  have hNb : N ≤ bs.length := by omega
  have hz : (bs.take N).length = N := by simp; omega
  have HW : Hid (Calls Tryz.prog 283 #[.pointer (some ⟨p, 0, none⟩), .int .i64 A, .slice a1 N cx] (w.setCell ⟨x, 1, none⟩ (.int .i64 ((A : Int) + (N : Int)))).drew fun e w' => e = .returned (.int .i64 0) ∧ PStep (w.setCell ⟨x, 1, none⟩ (.int .i64 ((A : Int) + (N : Int)))) O p (.file (wrL b A (bs.take N))) w') := hide (by
    have hOS : PObj (w.setCell ⟨x, 1, none⟩ (.int .i64 ((A : Int) + (N : Int)))) O p (.file b) := hO.keep (fun k e _ => heap_set_other w 1 _ (fun e' => hxO (by rw [e'] at e; exact e))) (by rw [heap_set_size]; exact Nat.le_refl _)
    refine (po_fwrite O p b (bs.take N) A (.slice a1 N cx) (w.setCell ⟨x, 1, none⟩ (.int .i64 ((A : Int) + (N : Int)))).drew (hOS.keep (fun _ _ _ => rfl) (Nat.le_refl _)) ?_ ?_).mono ?_
    · refine (bys_front hb N hNb).keep fun k e hk => (heap_set_other w (g := x) 1 (.int .i64 ((A : Int) + (N : Int))) ?_ :)
      exact (hd k (by cases a1 <;> simp [Value.ownBlock] at e ⊢ <;> exact e)).2
    · intro _ k e
      exact (hd k (by cases a1 <;> simp [Value.ownBlock] at e ⊢ <;> exact e)).1
    · rintro e w' ⟨rfl, O', hS1, hS2, hS3⟩
      exact ⟨by rw [wr_fits (by rw [hz]; omega)], O', hS1, hS2, (Turned.of_below (Below.refl _ _).drew).trans hS3 (fun _ _ e => e)⟩)
  have HF : Hid (∀ w', PStep (w.setCell ⟨x, 1, none⟩ (.int .i64 ((A : Int) + (N : Int)))) O p (.file (wrL b A (bs.take N))) w' → FWr w O x p b A (bs.take N) (.returned (.tuple #[.int .i64 (N : Nat), .int .i64 0])) w') := hide (fun w' hS => by
    unfold FWr
    rw [hz]
    exact ⟨rfl, hS⟩)
  have c0' : (w.setCell ⟨x, 1, none⟩ (.int .i64 ((A : Int) + (N : Int)))).cell? ⟨x, 0, none⟩ = some (.pointer (some ⟨p, 0, none⟩)) := by
    rw [World.cell?_setCell_other]
    · exact c0
    · simp
  have HD := hide (And.intro hN (And.intro hat hz))
  clear h hO hb hN hz hd
  generalize FWr w O x p b A (bs.take N) = FW at *
  rcases (show m < 1048576 - A ∨ 1048576 - A < m ∨ m = 1048576 - A by omega) with hc | hc | hc
  · obtain rfl : N = m := by have := HD.out.1; omega
    have d1 : (N : Int) < 1048576 - (A : Int) := by omega
    have d2 : ¬ (1048576 - (A : Int)) < (N : Int) := by omega
    have d3 : (N : Int) ≤ (cx : Int) := by omega
    have d4 : (A : Int) ≤ 1048576 := by omega
    go_enter Tryz.func310, Tryz.ntmps310
    go_wp2_with fail
    refine HP.out.mono ?_
    rintro e w1 ⟨rfl, rfl⟩
    go_wp2_with fail
    generalize (w1.setCell ⟨x, 1, none⟩ (.int .i64 ((A : Int) + (N : Int)))) = wS at *
    go_region_held3 (fun w' => w'.cell? ⟨x, 0, none⟩ = some (.pointer (some ⟨p, 0, none⟩)))
      (first | exact K5 | go_keep)
      (first
        | (go_at_call 283; refine HW.out.mono ?_; rintro e w5 ⟨rfl, hS⟩; have K5 : w5.cell? ⟨x, 0, none⟩ = some (.pointer (some ⟨p, 0, none⟩)) := by obtain ⟨O', hS1, hS2, hS3⟩ := hS; exact hS3.cell c0' hxO)
        | fail)
    go_wp2
    exact HF.out _ hS
  · have e1 : (N : Int) = 1048576 - (A : Int) := by have := HD.out.1; omega
    have e2 : N = 1048576 - A := by omega
    have d1 : ¬ (m : Int) < 1048576 - (A : Int) := by omega
    have d2 : (1048576 - (A : Int)) < (m : Int) := by omega
    have d3 : 1048576 - (A : Int) ≤ (cx : Int) := by omega
    have d4 : (A : Int) ≤ 1048576 := by omega
    have d5 : (1048576 - (A : Int)).toNat = N := by omega
    rw [e1] at HW HF c0'
    have HE := hide e1
    clear e1 e2
    go_enter Tryz.func310, Tryz.ntmps310
    go_wp2_with fail
    refine HP.out.mono ?_
    rintro e w1 ⟨rfl, rfl⟩
    go_wp2_with fail
    generalize (w1.setCell ⟨x, 1, none⟩ (.int .i64 ((A : Int) + (1048576 - (A : Int))))) = wS at *
    go_region_held3 (fun w' => w'.cell? ⟨x, 0, none⟩ = some (.pointer (some ⟨p, 0, none⟩)))
      (first | exact K5 | go_keep)
      (first
        | (go_at_call 283; refine HW.out.mono ?_; rintro e w5 ⟨rfl, hS⟩; have K5 : w5.cell? ⟨x, 0, none⟩ = some (.pointer (some ⟨p, 0, none⟩)) := by obtain ⟨O', hS1, hS2, hS3⟩ := hS; exact hS3.cell c0' hxO)
        | fail)
    go_wp2
    exact HF.out _ hS
  · obtain rfl : N = m := by have := HD.out.1; omega
    have e1 : 1048576 - (A : Int) = (N : Int) := by omega
    have d3 : (N : Int) ≤ (cx : Int) := by omega
    have d4 : (A : Int) ≤ 1048576 := by omega
    clear hc
    go_enter Tryz.func310, Tryz.ntmps310
    go_wp2_with fail
    refine HP.out.mono ?_
    rintro e w1 ⟨rfl, rfl⟩
    go_wp2_with fail
    generalize (w1.setCell ⟨x, 1, none⟩ (.int .i64 ((A : Int) + (N : Int)))) = wS at *
    go_region_held3 (fun w' => w'.cell? ⟨x, 0, none⟩ = some (.pointer (some ⟨p, 0, none⟩)))
      (first | exact K5 | go_keep)
      (first
        | (go_at_call 283; refine HW.out.mono ?_; rintro e w5 ⟨rfl, hS⟩; have K5 : w5.cell? ⟨x, 0, none⟩ = some (.pointer (some ⟨p, 0, none⟩)) := by obtain ⟨O', hS1, hS2, hS3⟩ := hS; exact hS3.cell c0' hxO)
        | fail)
    go_wp2
    exact HF.out _ hS
end Go.Proofs.YtkkommomefmpgaaGreat

/- The program's kernel: a console's refusals, reads and writes. -/
namespace Go.Proofs.YtkkommomefmpgaaGreat
open Go.RowKit Go.Maps

set_option maxRecDepth 100000 in
set_option maxHeartbeats 1000000 in
theorem co_refuses (x p n0 : Nat) (n : Int) (w : World) (h : COc w x p n0) :
    Calls Tryz.prog 300 #[.pointer (some ⟨x, 0, none⟩), .int .i64 n] w fun e w' => e = .returned (.int .i64 (if n0 = 1048576 then 31 else 0)) ∧ w' = w := by
  obtain ⟨c0, c1, c2⟩ := h.cells
  clear h
  by_cases hm : n0 = 1048576
  · rw [if_pos hm]
    subst hm
    go_enter Tryz.func300, Tryz.ntmps300
    go_wp2
    go_ret
    exact ⟨rfl, rfl⟩
  · rw [if_neg hm]
    have h1 : ¬ (n0 : Int) = 1048576 := by omega
    have h2 : ((n0 : Int) == 1048576) = false := by simpa using h1
    go_enter Tryz.func300, Tryz.ntmps300
    go_wp2
    go_ret
    exact ⟨rfl, rfl⟩
set_option maxRecDepth 100000 in
set_option maxHeartbeats 1000000 in
theorem co_read (x p n0 : Nat) (ls : List (List UInt8)) (scr : List UInt8) (m : Int) (O : Nat → Prop) (w : World) (h : COc w x p n0) (hO : PObj w O p (.term ls scr)) :
    Calls Tryz.prog 298 #[.pointer (some ⟨x, 0, none⟩), .int .i64 m] w fun e w' => ∃ v, e = .returned (.tuple #[v, .int .i64 (Te_rdE m)]) ∧ w'.ownsRow w.heap.size 5 1 v (rdH ls m).length ((rdH ls m).map bv) ∧ PObj w' O p (.term (rdR ls m) scr) ∧ Turned O w w' := by
  obtain ⟨c0, c1, c2⟩ := h.cells
  have HR := hide (po_tread O p ls scr m w hO)
  clear h hO
  go_enter Tryz.func298, Tryz.ntmps298
  go_wp2_with fail
  refine HR.out.mono ?_
  rintro e w1 ⟨v, rfl, hrow, hS⟩
  obtain ⟨va, vc, rfl⟩ := owns_slice hrow
  have HV := hide hrow
  have HS := hide hS
  clear hrow hS
  go_wp2
  go_ret2
  exact ⟨_, rfl, HV.out, HS.out⟩
def TWr (w : World) (O : Nat → Prop) (x p : Nat) (ls : List (List UInt8)) (scr z : List UInt8) (e : Ending) (w' : World) : Prop :=
  e = .returned (.tuple #[.int .i64 (z.length : Nat), .int .i64 0]) ∧ COc w' x p (scr ++ z).length ∧ (∃ O', PObj w' O' p (.term ls (scr ++ z)) ∧ ∀ k, O' k → O k ∨ w.heap.size ≤ k) ∧ Turned (fun k => O k ∨ k = x) w w'
theorem TWr.of {w : World} {O : Nat → Prop} {x p : Nat} {ls : List (List UInt8)} {scr z : List UInt8} {w' : World} (h : COc w x p scr.length) (hx : ¬ O x) (hS : PStep (w.setCell ⟨x, 1, none⟩ (.int .i64 ((scr.length + z.length : Nat) : Int))) O p (.term ls (scr ++ z)) w') :
    TWr w O x p ls scr z (.returned (.tuple #[.int .i64 (z.length : Nat), .int .i64 0])) w' := by
  obtain ⟨O', h1, h2, h3⟩ := hS
  have hlt : x < w.heap.size := (Array.getElem?_eq_some_iff.1 h).1
  refine ⟨rfl, ?_, ⟨O', h1, fun k e => by rw [heap_set_size] at h2; exact h2 k e⟩, ?_⟩
  · rw [List.length_append]
    exact (h.set (scr.length + z.length)).keep (h3.block x (by rw [heap_set_size]; exact hlt) hx)
  · refine (((Turned.refl (fun k => O k ∨ k = x) w).set (g := x) (j := 1) (u := .int .i64 ((scr.length + z.length : Nat) : Int)) (.inl (.inr rfl)))).trans (h3.mono fun k e => Or.inl e) (fun k _ e => e)
set_option maxRecDepth 100000 in
set_option maxHeartbeats 2000000 in
theorem co_write (x p : Nat) (ls : List (List UInt8)) (scr bs : List UInt8) (m : Nat) (a1 : Option Addr) (cx : Nat) (O : Nat → Prop) (w : World) (h : COc w x p scr.length) (hO : PObj w O p (.term ls scr)) (hxO : ¬ O x)
    (hb : Bys w (.slice a1 bs.length cx) bs) (hcap : bs.length ≤ cx) (h1 : 1 ≤ m) (h2 : m ≤ bs.length) (h3 : bs.length ≤ 1048576) (hd : ∀ k, (Value.slice a1 bs.length cx).ownBlock = some k → k ≠ x) :
    Calls Tryz.prog 301 #[.pointer (some ⟨x, 0, none⟩), .slice a1 bs.length cx, .int .i64 m] w (TWr w O x p ls scr (bs.take (min m (1048576 - scr.length)))) := by
  obtain ⟨c0, c1, c3⟩ := h.cells
  have hat : scr.length ≤ 1048576 := hO.ok.2.2
  have hlt : x < w.heap.size := (Array.getElem?_eq_some_iff.1 h).1
  obtain ⟨A, hA⟩ : ∃ A, A = scr.length := ⟨_, rfl⟩
  obtain ⟨N, hN⟩ : ∃ N, N = min m (1048576 - scr.length) := ⟨_, rfl⟩
  rw [← hN]
  have hNb : N ≤ bs.length := by omega
  have hz : (bs.take N).length = N := by simp; omega
  have HW : Hid (Calls Tryz.prog 294 #[.pointer (some ⟨p, 0, none⟩), .slice a1 N cx] (w.setCell ⟨x, 1, none⟩ (.int .i64 ((A : Int) + (N : Int)))).drew fun e w' => e = .returned (.int .i64 0) ∧ PStep (w.setCell ⟨x, 1, none⟩ (.int .i64 ((A : Int) + (N : Int)))) O p (.term ls (scr ++ bs.take N)) w') := hide (by
    have hOS : PObj (w.setCell ⟨x, 1, none⟩ (.int .i64 ((A : Int) + (N : Int)))) O p (.term ls scr) := hO.keep (fun k e _ => heap_set_other w 1 _ (fun e' => hxO (by rw [e'] at e; exact e))) (by rw [heap_set_size]; exact Nat.le_refl _)
    refine (po_twrite O p ls scr (bs.take N) (.slice a1 N cx) (w.setCell ⟨x, 1, none⟩ (.int .i64 ((A : Int) + (N : Int)))).drew (hOS.keep (fun _ _ _ => rfl) (Nat.le_refl _)) ?_).mono ?_
    · refine (bys_front hb N hNb).keep fun k e hk => (heap_set_other w (g := x) 1 (.int .i64 ((A : Int) + (N : Int))) ?_ :)
      exact hd k (by cases a1 <;> simp [Value.ownBlock] at e ⊢ <;> exact e)
    · rintro e w' ⟨rfl, O', hS1, hS2, hS3⟩
      have hfit : ¬ 1048576 < scr.length + (bs.take N).length := by rw [hz]; omega
      unfold wrS at hS1
      rw [if_neg hfit] at hS1
      exact ⟨by unfold Te_wrE; rw [if_neg hfit], O', hS1, hS2, (Turned.of_below (Below.refl _ _).drew).trans hS3 (fun _ _ e => e)⟩)
  have HF : Hid (∀ w', PStep (w.setCell ⟨x, 1, none⟩ (.int .i64 ((A : Int) + (N : Int)))) O p (.term ls (scr ++ bs.take N)) w' → TWr w O x p ls scr (bs.take N) (.returned (.tuple #[.int .i64 (N : Nat), .int .i64 0])) w') := hide (fun w' hS => by
    have := TWr.of (w' := w') (z := bs.take N) (ls := ls) h hxO (by rw [hz, ← hA]; exact hS)
    rw [hz] at this
    exact this)
  have c0' : (w.setCell ⟨x, 1, none⟩ (.int .i64 ((A : Int) + (N : Int)))).cell? ⟨x, 0, none⟩ = some (.pointer (some ⟨p, 0, none⟩)) := by
    rw [World.cell?_setCell_other]
    · exact c0
    · simp
  rw [← hA] at c1
  have hN' : N = min m (1048576 - A) := by rw [hA]; exact hN
  have hat' : A ≤ 1048576 := by rw [hA]; exact hat
  have HD := hide (And.intro hN' (And.intro hat' hz))
  clear h hO hb hN hz hd hat hN'
  generalize TWr w O x p ls scr (bs.take N) = FW at *
  clear hA
  generalize scr ++ bs.take N = scr' at *
  rcases (show m < 1048576 - A ∨ 1048576 - A < m ∨ m = 1048576 - A by omega) with hc | hc | hc
  · obtain rfl : N = m := by have := HD.out.1; omega
    have d1 : (N : Int) < 1048576 - (A : Int) := by omega
    have d2 : ¬ (1048576 - (A : Int)) < (N : Int) := by omega
    have d3 : (N : Int) ≤ (cx : Int) := by omega
    have d4 : (A : Int) ≤ 1048576 := by omega
    go_enter Tryz.func301, Tryz.ntmps301
    go_wp2_with fail
    generalize (w.setCell ⟨x, 1, none⟩ (.int .i64 ((A : Int) + (N : Int)))) = wS at *
    go_region_held3 (fun w' => w'.cell? ⟨x, 0, none⟩ = some (.pointer (some ⟨p, 0, none⟩)))
      (first | exact K5 | go_keep)
      (first
        | (go_at_call 294; refine HW.out.mono ?_; rintro e w5 ⟨rfl, hS⟩; have K5 : w5.cell? ⟨x, 0, none⟩ = some (.pointer (some ⟨p, 0, none⟩)) := by obtain ⟨O', hS1, hS2, hS3⟩ := hS; exact hS3.cell c0' hxO)
        | fail)
    go_wp2
    exact HF.out _ hS
  · have e1 : (N : Int) = 1048576 - (A : Int) := by have := HD.out.1; omega
    have e2 : N = 1048576 - A := by omega
    have d1 : ¬ (m : Int) < 1048576 - (A : Int) := by omega
    have d2 : (1048576 - (A : Int)) < (m : Int) := by omega
    have d3 : 1048576 - (A : Int) ≤ (cx : Int) := by omega
    have d4 : (A : Int) ≤ 1048576 := by omega
    have d5 : (1048576 - (A : Int)).toNat = N := by omega
    rw [e1] at HW HF c0'
    have HE := hide e1
    clear e1 e2
    go_enter Tryz.func301, Tryz.ntmps301
    go_wp2_with fail
    generalize (w.setCell ⟨x, 1, none⟩ (.int .i64 ((A : Int) + (1048576 - (A : Int))))) = wS at *
    go_region_held3 (fun w' => w'.cell? ⟨x, 0, none⟩ = some (.pointer (some ⟨p, 0, none⟩)))
      (first | exact K5 | go_keep)
      (first
        | (go_at_call 294; refine HW.out.mono ?_; rintro e w5 ⟨rfl, hS⟩; have K5 : w5.cell? ⟨x, 0, none⟩ = some (.pointer (some ⟨p, 0, none⟩)) := by obtain ⟨O', hS1, hS2, hS3⟩ := hS; exact hS3.cell c0' hxO)
        | fail)
    go_wp2
    exact HF.out _ hS
  · obtain rfl : N = m := by have := HD.out.1; omega
    have e1 : 1048576 - (A : Int) = (N : Int) := by omega
    have d3 : (N : Int) ≤ (cx : Int) := by omega
    have d4 : (A : Int) ≤ 1048576 := by omega
    clear hc
    go_enter Tryz.func301, Tryz.ntmps301
    go_wp2_with fail
    generalize (w.setCell ⟨x, 1, none⟩ (.int .i64 ((A : Int) + (N : Int)))) = wS at *
    go_region_held3 (fun w' => w'.cell? ⟨x, 0, none⟩ = some (.pointer (some ⟨p, 0, none⟩)))
      (first | exact K5 | go_keep)
      (first
        | (go_at_call 294; refine HW.out.mono ?_; rintro e w5 ⟨rfl, hS⟩; have K5 : w5.cell? ⟨x, 0, none⟩ = some (.pointer (some ⟨p, 0, none⟩)) := by obtain ⟨O', hS1, hS2, hS3⟩ := hS; exact hS3.cell c0' hxO)
        | fail)
    go_wp2
    exact HF.out _ hS
end Go.Proofs.YtkkommomefmpgaaGreat

/- The program's kernel: what a pipe's end does. -/
namespace Go.Proofs.YtkkommomefmpgaaGreat
open Go.RowKit Go.Maps

theorem recv_cell (w : World) (v : Value) (t : TypeId) : (w.alloc (Obj.cells #[v] t)).cell? ⟨w.heap.size, 0, none⟩ = some v := cell_new w v t
theorem recv_below (w : World) (o : Obj) : Below w.heap.size w (w.alloc o) := (Below.refl _ _).alloc (Nat.le_refl _) _
theorem PipeAt.under {W W' : World} {g : Nat} {q : List UInt8} {rd wt : Nat} (h : PipeAt W g q rd wt) (hB : Below W.heap.size W W') : PipeAt W' g q rd wt := h.keep (hB.block g h.lt)
set_option maxRecDepth 100000 in
set_option maxHeartbeats 1000000 in
theorem pp_readWaits (p : Nat) (q : List UInt8) (rd wt : Nat) (w : World) (h : PipeAt w p q rd wt) :
    Calls Tryz.prog 325 #[.agg #[.pointer (some ⟨p, 0, none⟩)]] w fun e w' => e = .returned (.bool (!canR q.length rd wt)) ∧ Below w.heap.size w w' := by
  have hB := recv_below w (Obj.cells #[.pointer (some ⟨p, 0, none⟩)] 271)
  have c0 := recv_cell w (.pointer (some ⟨p, 0, none⟩)) 271
  have HC := hide (canRead_any p q rd wt _ (h.under hB))
  clear h
  go_enter Tryz.func325, Tryz.ntmps325
  go_wp2_with fail
  refine HC.out.mono ?_
  rintro e w1 ⟨rfl, rfl⟩
  go_wp2
  go_ret
  exact ⟨rfl, hB⟩
set_option maxRecDepth 100000 in
set_option maxHeartbeats 1000000 in
theorem pp_refuses (p : Nat) (q : List UInt8) (rd wt : Nat) (n : Int) (w : World) (h : PipeAt w p q rd wt) :
    Calls Tryz.prog 326 #[.agg #[.pointer (some ⟨p, 0, none⟩)], .int .i64 n] w fun e w' => e = .returned (.int .i64 (if rd = 0 then 53 else if canW n q.length rd wt = false then 52 else 0)) ∧ Below w.heap.size w w' := by
  have hB := recv_below w (Obj.cells #[.pointer (some ⟨p, 0, none⟩)] 271)
  have c0 := recv_cell w (.pointer (some ⟨p, 0, none⟩)) 271
  have HE := hide (ends_any p q rd wt _ (h.under hB))
  have HC := hide (fun W hW => canWrite_any n p q rd wt W ((h.under hB).under hW))
  have hlt : w.heap.size < (w.alloc (Obj.cells #[.pointer (some ⟨p, 0, none⟩)] 271)).heap.size := size_new _ _
  clear h
  by_cases hr : rd = 0
  · subst hr
    rw [if_pos rfl]
    go_enter Tryz.func326, Tryz.ntmps326
    go_wp2_with fail
    refine HE.out.mono ?_
    rintro e w1 ⟨rfl, hB1⟩
    go_wp2
    go_ret
    exact ⟨rfl, hB.trans (hB1.mono hB.size)⟩
  · rw [if_neg hr]
    have d1 : ¬ (rd : Int) = 0 := by omega
    have d2 : ((rd : Int) == 0) = false := by simpa using d1
    generalize canW n q.length rd wt = can at *
    cases can
    · go_enter Tryz.func326, Tryz.ntmps326
      go_wp2_with fail
      refine HE.out.mono ?_
      rintro e w1 ⟨rfl, hB1⟩
      have c1 := (hB1.cell (p := ⟨w.heap.size, 0, none⟩) hlt).trans c0
      go_wp2_with fail
      refine (HC.out w1 hB1).mono ?_
      rintro e w2 ⟨rfl, rfl⟩
      go_wp2
      go_ret
      exact ⟨rfl, hB.trans (hB1.mono hB.size)⟩
    · go_enter Tryz.func326, Tryz.ntmps326
      go_wp2_with fail
      refine HE.out.mono ?_
      rintro e w1 ⟨rfl, hB1⟩
      have c1 := (hB1.cell (p := ⟨w.heap.size, 0, none⟩) hlt).trans c0
      go_wp2_with fail
      refine (HC.out w1 hB1).mono ?_
      rintro e w2 ⟨rfl, rfl⟩
      go_wp2
      go_ret
      exact ⟨rfl, hB.trans (hB1.mono hB.size)⟩
theorem PStep.after {w w1 w' : World} {O : Nat → Prop} {p : Nat} {ob : Ob} (hB : Below w.heap.size w w1) (h : PStep w1 O p ob w') : PStep w O p ob w' := by
  obtain ⟨O', h1, h2, h3⟩ := h
  exact ⟨O', h1, fun k e => (h2 k e).imp id (fun e => Nat.le_trans hB.size e), (Turned.of_below hB).trans h3 (fun _ _ e => e)⟩
set_option maxRecDepth 100000 in
set_option maxHeartbeats 1000000 in
theorem pp_read (p : Nat) (q : List UInt8) (rd wt : Nat) (m : Int) (O : Nat → Prop) (w : World) (h : PObj w O p (.pipe q rd wt)) :
    Calls Tryz.prog 324 #[.agg #[.pointer (some ⟨p, 0, none⟩)], .int .i64 m] w fun e w' => ∃ v, e = .returned (.tuple #[v, .int .i64 (Kp_rdE m q.length rd wt)]) ∧ w'.ownsRow w.heap.size 5 1 v (rdB m q rd wt).length ((rdB m q rd wt).map bv) ∧ PObj w' O p (.pipe (rdQ m q rd wt) rd wt) ∧ Turned O w w' := by
  have hB := recv_below w (Obj.cells #[.pointer (some ⟨p, 0, none⟩)] 271)
  have c0 := recv_cell w (.pointer (some ⟨p, 0, none⟩)) 271
  have HC := hide (po_pread O p q rd wt m _ (h.keep (fun k _ hlt => hB.block k hlt) hB.size))
  clear h
  go_enter Tryz.func324, Tryz.ntmps324
  go_wp2_with fail
  refine HC.out.mono ?_
  rintro e w1 ⟨v, rfl, hrow, hS⟩
  obtain ⟨va, vc, rfl⟩ := owns_slice hrow
  have HV := hide hrow
  have HS := hide hS
  clear hrow hS
  go_wp2
  go_ret2
  exact ⟨_, rfl, owns_mono HV.out hB.size, HS.out.1, (Turned.of_below hB).trans HS.out.2 (fun _ _ e => e)⟩
set_option maxRecDepth 100000 in
set_option maxHeartbeats 1000000 in
theorem pp_write (p : Nat) (q bs : List UInt8) (rd wt : Nat) (m : Int) (a1 : Option Addr) (cx : Nat) (O : Nat → Prop) (w : World) (h : PObj w O p (.pipe q rd wt)) (hb : Bys w (.slice a1 bs.length cx) bs) (hcap : bs.length ≤ cx) (h3 : bs.length ≤ 1048576) (hd : ∀ k, (Value.slice a1 bs.length cx).ownBlock = some k → ¬ O k) :
    Calls Tryz.prog 327 #[.agg #[.pointer (some ⟨p, 0, none⟩)], .slice a1 bs.length cx, .int .i64 m] w fun e w' => e = .returned (.tuple #[.int .i64 (wrN bs.length m q.length rd wt : Nat), .int .i64 (Kp_wrE bs.length m q.length rd wt)]) ∧ PStep w O p (.pipe (q ++ bs.take (wrN bs.length m q.length rd wt)) rd wt) w' := by
  have hB := recv_below w (Obj.cells #[.pointer (some ⟨p, 0, none⟩)] 271)
  have c0 := recv_cell w (.pointer (some ⟨p, 0, none⟩)) 271
  have HC := hide (po_pwrite O p q bs rd wt m a1 bs.length cx _ (h.keep (fun k _ hlt => hB.block k hlt) hB.size) (hb.below hB) hcap (by omega) (fun _ => hd))
  clear h hb
  go_enter Tryz.func327, Tryz.ntmps327
  go_wp2_with fail
  refine HC.out.mono ?_
  rintro e w1 ⟨rfl, hS⟩
  have HS := hide hS
  clear hS
  go_wp2
  go_ret2
  exact ⟨rfl, HS.out.after hB⟩
end Go.Proofs.YtkkommomefmpgaaGreat

/- The program's kernel: Read. -/
namespace Go.Proofs.YtkkommomefmpgaaGreat
open Go.RowKit Go.Maps

def Own (ρ : Nat → Option PTag) (k : Nat) : Prop := ∃ t, ρ k = some t
def PNext (ρ : Nat → Option PTag) (I : PI) (w : World) (K' : KS) (w' : World) : Prop := ∃ ρ' I', PK w' ρ' I' K' ∧ I'.kb = I.kb ∧ newTags ρ ρ' w ∧ Turned (Own ρ) w w'
theorem PNext.step {w w' : World} {O : Nat → Prop} {ρ : Nat → Option PTag} {I : PI} {K' : KS} (hO : ∀ k t, ρ k = some t → O k) (h : PNext ρ I w K' w') : KStep w O I.kb K' w' := by
  obtain ⟨ρ', I', h1, h2, h3, h4⟩ := h
  exact PK.step hO h1 h2 h3 h4
theorem newTags.refl (ρ : Nat → Option PTag) (w : World) : newTags ρ ρ w := fun _ t e => .inl ⟨t, e⟩
theorem PNext.of {w w' : World} {ρ : Nat → Option PTag} {I I' : PI} {K' : KS} (h : PK w' ρ I' K') (hk : I'.kb = I.kb) (hT : Turned (Own ρ) w w') : PNext ρ I w K' w' := ⟨ρ, I', h, hk, newTags.refl _ _, hT⟩
theorem PNext.after {w w1 w' : World} {ρ : Nat → Option PTag} {I I1 : PI} {K' : KS} (hT : Turned (Own ρ) w w1) (hk : I1.kb = I.kb) (h : PNext ρ I1 w1 K' w') : PNext ρ I w K' w' := by
  obtain ⟨ρ', I', h1, h2, h3, h4⟩ := h
  exact ⟨ρ', I', h1, h2.trans hk, fun k t e => (h3 k t e).imp id (fun e => Nat.le_trans hT.size e), hT.trans h4 (fun _ _ e => e)⟩
theorem PK.under {W W' : World} {ρ : Nat → Option PTag} {I : PI} {K : KS} (h : PK W ρ I K) (hB : Below W.heap.size W W') : PK W' ρ I K := h.keep (fun k t e => hB.block k (h.lt k t e)) hB.size
theorem PK.readUp {W : World} {ρ : Nat → Option PTag} {I : PI} {K : KS} (h : PK W ρ I K) : PK (W.setCell ⟨I.kb, 6, none⟩ (.int .i64 ((K.reads : Int) + 1))) ρ I { K with reads := K.reads + 1 } ∧ Turned (Own ρ) W (W.setCell ⟨I.kb, 6, none⟩ (.int .i64 ((K.reads : Int) + 1))) := by
  have hb := (h.comp .kern).1
  have hT := (Turned.refl (fun k => k = I.kb) W).set (g := I.kb) (j := 6) (u := .int .i64 ((K.reads : Int) + 1)) (.inl rfl)
  have := h.kernel (K.reads + 1) K.writes I.last (by rw [heap_setCell_same 6 _ hb]; rfl) hT (Nat.le_refl _)
  rw [← (h.comp .kern).2.2] at this
  exact ⟨this, hT.mono fun k e => ⟨.kern, by rw [e]; exact (h.comp .kern).2.1⟩⟩
theorem PK.writeUp {W : World} {ρ : Nat → Option PTag} {I : PI} {K : KS} (h : PK W ρ I K) : PK (W.setCell ⟨I.kb, 7, none⟩ (.int .i64 ((K.writes : Int) + 1))) ρ I { K with writes := K.writes + 1 } ∧ Turned (Own ρ) W (W.setCell ⟨I.kb, 7, none⟩ (.int .i64 ((K.writes : Int) + 1))) := by
  have hb := (h.comp .kern).1
  have hT := (Turned.refl (fun k => k = I.kb) W).set (g := I.kb) (j := 7) (u := .int .i64 ((K.writes : Int) + 1)) (.inl rfl)
  have := h.kernel K.reads (K.writes + 1) I.last (by rw [heap_setCell_same 7 _ hb]; rfl) hT (Nat.le_refl _)
  rw [← (h.comp .kern).2.2] at this
  exact ⟨this, hT.mono fun k e => ⟨.kern, by rw [e]; exact (h.comp .kern).2.1⟩⟩
theorem knext_any (ρ : Nat → Option PTag) (I : PI) (K : KS) (want : Int) (w : World) (h : PK w ρ I K) (h1 : 1 ≤ want) (h2 : want ≤ 1048576) :
    Calls Tryz.prog 141 #[.pointer (some ⟨I.pb, 0, none⟩), .int .i64 want] w fun e w' => e = .returned (.tuple #[.int .i64 (nxt K.plan want).1, .int .i64 (nxt K.plan want).2]) ∧ ∃ v', PK w' ρ { I with pv := v' } { K with plan := K.plan.tail } ∧ Turned (Own ρ) w w' := by
  have hp := (h.comp .plan).1
  cases hpl : K.plan with
  | nil =>
    rw [hpl] at hp
    refine (next_end I.pb I.pv want w hp h1 h2).mono ?_
    rintro e w' ⟨rfl, rfl⟩
    refine ⟨by rw [show nxt ([] : List Fault) want = (want, 0) by simp [nxt]; omega], I.pv, ?_, Turned.refl _ _⟩
    have : ({ K with plan := ([] : List Fault).tail } : KS) = K := by
      obtain ⟨_, _, _, _, plan, _, _⟩ := K
      simp only at hpl
      subst hpl
      rfl
    rw [this]
    exact h
  | cons f r =>
    have hpo := h.ok.plan
    rw [hpl] at hp hpo
    refine (next_some I.pb I.pv f r want w hp h1 h2 (by have := hpo.1; simp at this; unfold maxLen; omega)).mono ?_
    rintro e w' ⟨rfl, v', h3, h4, h5⟩
    have hT : Turned (fun k => k = I.pb) w w' := (Turned.refl _ w).grown h5 (fun k e => by cases e; exact .inl rfl)
    exact ⟨rfl, v', h.used h3 (fun k e => by rw [← h4]; exact e) hT hpo.tail, hT.mono fun k e => ⟨.plan, by rw [e]; exact (h.comp .plan).2.1⟩⟩
theorem PK.objStep {W W' : World} {ρ : Nat → Option PTag} {I : PI} {K : KS} (h : PK W ρ I K) {i : Nat} (hi : i < K.th.length) {ob' : Ob} (hk : ob'.kind = K.th[i].ob.kind) (hS : PStep W (fun k => ρ k = some (.obj i)) (I.ob i) ob' W')
    (hc : ∀ ls scr, ob' = .term ls scr → ∃ ls0 scr0, K.th[i].ob = .term ls0 scr0 ∧ scr.length = scr0.length) : PNext ρ I W (K.setOb i ob') W' := by
  obtain ⟨O', h1, h2, h3⟩ := hS
  obtain ⟨ρ', h4, h5, h6⟩ := h.setOb hi hk (h3.mono fun k e => Or.inl e) h1 h2 (fun ls scr e => by
    obtain ⟨ls0, scr0, e0, e1⟩ := hc ls scr e
    obtain ⟨a1, a2⟩ := h.comp (.cons i) hi ls0 scr0 e0
    rw [e1]
    exact (h3.block _ (h.lt _ _ a2) (fun e' => by rw [a2] at e'; cases e')).trans a1)
  exact ⟨ρ', I, h4, rfl, h5, h3.mono fun k e => ⟨_, e⟩⟩
def PHold (ρ : Nat → Option PTag) (I : PI) (w : World) (K' : KS) (w' : World) : Prop := ∃ ρ' I', PK w' ρ' I' K' ∧ I'.kb = I.kb ∧ (∀ k, Own ρ' k → Own ρ k) ∧ Turned (Own ρ) w w'
theorem PHold.of {w w' : World} {ρ : Nat → Option PTag} {I I' : PI} {K' : KS} (h : PK w' ρ I' K') (hk : I'.kb = I.kb) (hT : Turned (Own ρ) w w') : PHold ρ I w K' w' := ⟨ρ, I', h, hk, fun _ e => e, hT⟩
theorem PHold.after {w w1 w' : World} {ρ : Nat → Option PTag} {I I1 : PI} {K' : KS} (hT : Turned (Own ρ) w w1) (hk : I1.kb = I.kb) (h : PHold ρ I1 w1 K' w') : PHold ρ I w K' w' := by
  obtain ⟨ρ', I', h1, h2, h3, h4⟩ := h
  exact ⟨ρ', I', h1, h2.trans hk, h3, hT.trans h4 (fun _ _ e => e)⟩
theorem PK.objHold {W W' : World} {ρ : Nat → Option PTag} {I : PI} {K : KS} (h : PK W ρ I K) {i : Nat} (hi : i < K.th.length) {ob' : Ob} (hk : ob'.kind = K.th[i].ob.kind) (hO : PObj W' (fun k => ρ k = some (.obj i)) (I.ob i) ob') (hT : Turned (fun k => ρ k = some (.obj i)) W W')
    (hc : ∀ ls scr, ob' = .term ls scr → ∃ ls0 scr0, K.th[i].ob = .term ls0 scr0 ∧ scr.length = scr0.length) : PHold ρ I W (K.setOb i ob') W' := by
  obtain ⟨ρ', h4, h5, h6⟩ := h.setOb hi hk (hT.mono fun k e => Or.inl e) hO (fun k e => .inl e) (fun ls scr e => by
    obtain ⟨ls0, scr0, e0, e1⟩ := hc ls scr e
    obtain ⟨a1, a2⟩ := h.comp (.cons i) hi ls0 scr0 e0
    rw [e1]
    exact (hT.block _ (h.lt _ _ a2) (fun e' => by rw [a2] at e'; cases e')).trans a1)
  exact ⟨ρ', I, h4, rfl, fun k ⟨t, e⟩ => (h6.2 k t e).elim id (fun e => ⟨_, e⟩), hT.mono fun k e => ⟨_, e⟩⟩
def KS.rdx (K : KS) (x : De) (m : Int) : List UInt8 × Int × KS := match K.tho x with
  | .file b => (piece b x.pos m.toNat, 0, K.setDe { x with pos := x.pos + (piece b x.pos m.toNat).length })
  | .term ls scr => (rdH ls m, Te_rdE m, K.setOb x.th (.term (rdR ls m) scr))
  | .pipe q rd wt => (rdB m q rd wt, Kp_rdE m q.length rd wt, K.setOb x.th (.pipe (rdQ m q rd wt) rd wt))
def PRd (ρ : Nat → Option PTag) (I : PI) (w : World) (r : List UInt8 × Int × KS) (e : Ending) (w' : World) : Prop :=
  ∃ v, e = .returned (.tuple #[v, .int .i64 r.2.1]) ∧ w'.ownsRow w.heap.size 5 1 v r.1.length (r.1.map bv) ∧ PHold ρ I w r.2.2 w'
theorem PK.pobj {W : World} {ρ : Nat → Option PTag} {I : PI} {K : KS} (h : PK W ρ I K) {x : De} (hx : x ∈ K.de) : PObj W (fun k => ρ k = some (.obj x.th)) (I.ob x.th) (K.tho x) := by
  have hi := h.ok.th x hx
  rw [KS.tho_eq hi]
  exact h.comp (.obj x.th) hi
theorem xread_file (ρ : Nat → Option PTag) (I : PI) (K : KS) (x : De) (b : List UInt8) (m : Int) (w : World) (h : PK w ρ I K) (hx : x ∈ K.de) (ho : K.tho x = .file b) (h1 : 1 ≤ m) (h2 : m ≤ 1048576) :
    Calls Tryz.prog 307 #[.pointer (some ⟨I.xb x.n, 0, none⟩), .int .i64 m] w (PRd ρ I w (K.rdx x m)) := by
  have hO := h.pobj hx
  rw [ho] at hO
  obtain ⟨hb, ht⟩ := h.comp (.ofile x.n) x hx rfl b ho
  have hdc := h.comp (.desc x.n) x hx rfl
  have hpos := h.ok.pos x hx
  refine (of_read (I.xb x.n) (I.ob x.th) b x.pos (bit x.flags 4) m _ w hb hO hpos h1 h2).mono ?_
  rintro e w' ⟨v, rfl, hrow, hC, hT⟩
  rw [show K.rdx x m = (piece b x.pos m.toNat, 0, K.setDe { x with pos := x.pos + (piece b x.pos m.toNat).length }) by unfold KS.rdx; rw [ho]]
  have hle : x.pos + (piece b x.pos m.toNat).length ≤ 1048576 := by have := hO.1; rw [piece_len]; omega
  have hT2 : Turned (fun k => ρ k = some (.desc x.n) ∨ ρ k = some (.ofile x.n)) w w' := hT.mono fun k e => by rw [e]; exact .inr ht
  refine ⟨v, rfl, hrow, PHold.of (h.setDe hx (x' := { x with pos := x.pos + (piece b x.pos m.toNat).length }) rfl rfl rfl hle (h.ok.held x hx) hT2 ?_ ?_) rfl (hT.mono fun k e => ⟨.ofile x.n, by rw [e]; exact ht⟩)⟩
  · exact (hT.block _ (h.lt _ _ hdc.2) (fun e => by rw [e, ht] at hdc; cases hdc.2)).trans hdc.1
  · intro b' _
    exact hC
theorem xread_term (ρ : Nat → Option PTag) (I : PI) (K : KS) (x : De) (ls : List (List UInt8)) (scr : List UInt8) (m : Int) (w : World) (h : PK w ρ I K) (hx : x ∈ K.de) (ho : K.tho x = .term ls scr) :
    Calls Tryz.prog 298 #[.pointer (some ⟨I.cb x.th, 0, none⟩), .int .i64 m] w (PRd ρ I w (K.rdx x m)) := by
  have hO := h.pobj hx
  have hi := h.ok.th x hx
  have hth := KS.tho_eq (K := K) (x := x) hi
  rw [ho] at hO hth
  obtain ⟨hb, ht⟩ := h.comp (.cons x.th) hi ls scr hth.symm
  refine (co_read (I.cb x.th) (I.ob x.th) scr.length ls scr m _ w hb hO).mono ?_
  rintro e w' ⟨v, rfl, hrow, hS, hT⟩
  rw [show K.rdx x m = (rdH ls m, Te_rdE m, K.setOb x.th (.term (rdR ls m) scr)) by unfold KS.rdx; rw [ho]]
  exact ⟨v, rfl, hrow, h.objHold hi (by rw [← hth]; rfl) hS hT (fun ls' scr' e => ⟨ls, scr, hth.symm, by cases e; rfl⟩)⟩
theorem xread_pipe (ρ : Nat → Option PTag) (I : PI) (K : KS) (x : De) (q : List UInt8) (rd wt : Nat) (m : Int) (w : World) (h : PK w ρ I K) (hx : x ∈ K.de) (ho : K.tho x = .pipe q rd wt) :
    Calls Tryz.prog 324 #[.agg #[.pointer (some ⟨I.ob x.th, 0, none⟩)], .int .i64 m] w (PRd ρ I w (K.rdx x m)) := by
  have hO := h.pobj hx
  have hi := h.ok.th x hx
  have hth := KS.tho_eq (K := K) (x := x) hi
  rw [ho] at hO hth
  refine (pp_read (I.ob x.th) q rd wt m _ w hO).mono ?_
  rintro e w' ⟨v, rfl, hrow, hS, hT⟩
  rw [show K.rdx x m = (rdB m q rd wt, Kp_rdE m q.length rd wt, K.setOb x.th (.pipe (rdQ m q rd wt) rd wt)) by unfold KS.rdx; rw [ho]]
  exact ⟨v, rfl, hrow, h.objHold hi (by rw [← hth]; rfl) hS hT (fun ls' scr' e => by cases e)⟩
theorem read_is {K : KS} {d n : Int} {x : De} (hx : K.find d = some x) (h1 : fbit x.flags 1 ≠ 0) (h2 : 1 ≤ n) (h3 : n ≤ 1048576) (h4 : (K.tho x).waits = false) :
    K.read d n = if (nxt K.plan n).2 = 0 then K.readUp.rdx x (nxt K.plan n).1 else ([], (nxt K.plan n).2, K.readUp) := by
  unfold KS.read KS.rdx
  rw [hx]
  simp only
  rw [if_neg h1, if_neg (by omega), if_neg (by omega), if_neg (by rw [h4]; decide)]
  show _ = if _ then (match K.tho x with | .file b => _ | .term ls scr => _ | .pipe q rd wt => _) else _
  split
  · cases K.tho x <;> rfl
  · rfl
theorem PRd.refused {w : World} {ρ : Nat → Option PTag} {I : PI} {K : KS} {w' : World} (h : PK w ρ I K) (hB : Below w.heap.size w w') (E : Int) : PRd ρ I w ([], E, K) (.returned (.tuple #[.slice none 0 0, .int .i64 E])) w' :=
  ⟨_, rfl, World.ownsRow_nil _ _ _ _, PHold.of (h.under hB) rfl (Turned.of_below hB)⟩
end Go.Proofs.YtkkommomefmpgaaGreat
