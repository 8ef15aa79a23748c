/- What the proof stands on, part 12: the contracts of the program's calls that it reaches. -/
import Derived.Test.YtgbkhmiphaefgaaKK11
import Derived.Deep.DeepCutAuto
/- Lines: what Put is made of: a Raw that is shut, what is put at once, room. -/
namespace Go.Proofs.Ytgbkhmiphaefgaa
open Go.RowKit

theorem BearsW.down {S : Type} {D : RawD S} {wok : S → Prop} {G : Nat → S → Prop} (h : BearsW D wok G) {s : S} (k : Nat) : ∀ n, G (k + n) s → G k s
  | 0, e => e
  | n + 1, e => h.down k n (h.less _ _ e)
structure QK {σ : Type} (B : World → (Nat → Prop) → σ → Prop) (z : Prop) (w : World) (O0 : Nat → Prop) (r g : Nat) (W : World) (O : Nat → Prop) (x : SS) (s : σ) (o i b : Value) : Prop where
  st : StAt W g x o i b
  ls : SIn W (fun k => z ∨ (w.heap.size ≤ k ∧ ¬ O k ∧ k ≠ g ∧ k ≠ r ∧ k < W.heap.size)) x o i b
  raw : B W O s
  ol : ∀ j, O j → j < W.heap.size
  og : ¬ O g
  orr : ¬ O r
  zr : W.heap[r]? = some (Obj.cells #[.bool false, .bool false, .int .i64 0, .int .i64 0, .slice none 0 0, .slice none 0 0, .slice none 0 0, .int .i64 0, .bool false, .bool false, .bool false] 35)
  gr : g ≠ r
  gw : w.heap.size ≤ g
  rw : w.heap.size ≤ r
  oo : ∀ k, O k → O0 k ∨ w.heap.size ≤ k
  tu : Turned O0 w W
theorem QV.k {σ : Type} {B : World → (Nat → Prop) → σ → Prop} {z : Prop} {w : World} {O0 : Nat → Prop} {r g : Nat} {W : World} {O : Nat → Prop} {x : SS} {s : σ} {o i b : Value} (h : QV B w O0 r g W O x s o i b) : QK B z w O0 r g W O x s o i b := ⟨h.st, h.ls.mono fun _ e => .inr e, h.raw, h.ol, h.og, h.orr, h.zr, h.gr, h.gw, h.rw, h.oo, h.tu⟩
theorem QK.v {σ : Type} {B : World → (Nat → Prop) → σ → Prop} {z : Prop} {w : World} {O0 : Nat → Prop} {r g : Nat} {W : World} {O : Nat → Prop} {x : SS} {s : σ} {o i b : Value} (h : QK B z w O0 r g W O x s o i b) (hz : ¬ z) : QV B w O0 r g W O x s o i b := ⟨h.st, h.ls.mono fun _ e => e.resolve_left hz, h.raw, h.ol, h.og, h.orr, h.zr, h.gr, h.gw, h.rw, h.oo, h.tu⟩
theorem QK.z {σ : Type} {B : World → (Nat → Prop) → σ → Prop} {z z' : Prop} {w : World} {O0 : Nat → Prop} {r g : Nat} {W : World} {O : Nat → Prop} {x : SS} {s : σ} {o i b : Value} (h : QK B z w O0 r g W O x s o i b) (hz : z → z') : QK B z' w O0 r g W O x s o i b := ⟨h.st, h.ls.mono fun _ e => e.imp hz id, h.raw, h.ol, h.og, h.orr, h.zr, h.gr, h.gw, h.rw, h.oo, h.tu⟩
theorem QK.next {σ : Type} {B : World → (Nat → Prop) → σ → Prop} (hT : ∀ s, OAt (fun w O => B w O s)) {z : Prop} {w : World} {O0 : Nat → Prop} {r g : Nat} {W : World} {O : Nat → Prop} {x : SS} {s : σ} {o i b : Value} {W' w5 : World} {x' : SS} {s' : σ} {o' i' b' : Value} (h : QK B z w O0 r g W O x s o i b) (hd : Below W.heap.size W W') (hS : SOut B W' O x' s' o' i' b' w5) :
    StAt w5 g x o i b ∧ ∃ O', QV B w O0 r g (filled w5 g x' o' i' b') O' x' s' o' i' b' ∧ ∀ n l, w5.ownsRow W'.heap.size 5 1 o' n l → (filled w5 g x' o' i' b').ownsRow w.heap.size 5 1 o' n l := by
  obtain ⟨O', h1, h2, h3, h4, h5⟩ := hS
  have hz1 := hd.size
  have hz5 := h5.size
  have hw := h.tu.size
  have hgl := h.st.lt
  have hrl : r < W.heap.size := (Array.getElem?_eq_some_iff.1 h.zr).1
  have hst : StAt w5 g x o i b := (h5.block g (by omega) h.og).trans (h.st.below hd)
  obtain ⟨e1, e2⟩ := st_fill2 w5 g x x' o i b o' i' b' hst
  have hz2 := e2.size
  have no : ∀ k, k < W.heap.size → ¬ O k → ¬ O' k := fun k hk hn e => by
    rcases h4 k e with e | e
    · exact hn e
    · omega
  refine ⟨hst, O', ⟨e1, (h1.turned e2 fun k e _ e' => by have := e.1; have e' : k = g := e'; omega).mono fun k e => ⟨by have := e.1; omega, e.2.1, by have := e.1; omega, by have := e.1; omega, by have := e.2.2; omega⟩, (hT s').keep h2 (fun j e hj => e2.block j hj (fun e' => no g hgl h.og (e' ▸ e))) hz2, fun j e => Nat.lt_of_lt_of_le (h3 j e) hz2, no g hgl h.og, no r hrl h.orr, ?_, h.gr, h.gw, h.rw, fun k e => (h4 k e).elim (h.oo k) (fun e => .inr (by omega)), ?_⟩, fun n l q => ?_⟩
  · exact (e2.block r (by omega) (fun e => h.gr e.symm)).trans ((h5.block r (by omega) h.orr).trans ((hd.block r hrl).trans h.zr))
  · exact ((h.tu.trans (Turned.of_below (S := O0) hd) (fun _ _ e => e)).trans h5 (fun k hk e => (h.oo k e).resolve_right (by omega))).trans e2 (fun k hk e => by have e' : k = g := e; have := h.gw; omega)
  · exact owns_mono (owns_turned q e2 (fun k e e' => by have := (q.lt k e).1; have e' : k = g := e'; omega)) (by omega)
structure More {σ : Type} (B : World → (Nat → Prop) → σ → Prop) (w : World) (O0 : Nat → Prop) (r g : Nat) (W : World) (O : Nat → Prop) (x : SS) (s : σ) (o i b u : Value) (l L : List UInt8) (a : Option Addr) (k : Nat) (w2 : World) : Prop where
  eq : L = x.out ++ l
  run : (Builtin.append_ #[30, 30] 30 #[o, u]).run Try.prog W = .ok (.slice a L.length k) w2
  d4 : w2.cell? ⟨g, 4, none⟩ = some o
  g4 : w2.frozen? ⟨g, 4, none⟩ = false
  qv : QV B w O0 r g (w2.setCell ⟨g, 4, none⟩ (.slice a L.length k)) O { x with out := L } s (.slice a L.length k) i b
theorem QV.more {σ : Type} {B : World → (Nat → Prop) → σ → Prop} (hT : ∀ s, OAt (fun w O => B w O s)) {w : World} {O0 : Nat → Prop} {r g : Nat} {W : World} {O : Nat → Prop} {x : SS} {s : σ} {o i b : Value} (h : QV B w O0 r g W O x s o i b) (ho : W.ownsRow w.heap.size 5 1 o x.out.length (x.out.map bv)) (u : Value) (l : List UInt8) (hl : Bys W u l) (hn : x.out.length + l.length ≤ 140737488351232) (hi : x.inn = []) (hb : x.back = []) :
    ∃ L a k w2, More B w O0 r g W O x s o i b u l L a k w2 := by
  obtain ⟨s', w2, hrun, HO, hgr, hbl⟩ := run_append_bytes W 30 w.heap.size o u x.out l ho hl hn h.tu.size
  obtain ⟨a, k, rfl⟩ := owns_slice HO.out
  obtain ⟨L, hL⟩ : ∃ L, L = x.out ++ l := ⟨_, rfl⟩
  rw [← hL] at hrun HO hbl
  have hT2 : Turned (fun k => o.ownBlock = some k) W w2 := (Turned.refl _ _).grown hgr (fun k e => .inl e)
  have hz2 := hT2.size
  have hst2 : StAt w2 g x o i b := (hT2.block g h.st.lt (fun e => (h.ls.po g e).2.2.1 rfl)).trans h.st
  obtain ⟨q1, q2⟩ := hst2.set (x' := { x with out := L }) (o' := .slice a L.length k) (i' := i) (b' := b) 4 (.slice a L.length k) rfl
  have hz3 : (w2.setCell ⟨g, 4, none⟩ (.slice a L.length k)).heap.size = w2.heap.size := by simp [World.setCell]
  have hgl := h.st.lt
  have hrl := h.rlt
  have hw := h.tu.size
  have hpo : ∀ j, (Value.slice a L.length k).ownBlock = some j → w.heap.size ≤ j ∧ ¬ O j ∧ j ≠ g ∧ j ≠ r ∧ j < w2.heap.size := fun j e => by
    have hj := (HO.out.lt j e).2
    rcases hbl with e' | e'
    · have := h.ls.po j (by rw [← e', e])
      exact ⟨this.1, this.2.1, this.2.2.1, this.2.2.2.1, hj⟩
    · rw [e'] at e
      obtain rfl := Option.some.inj e
      exact ⟨hw, fun e2 => by have := h.ol _ e2; omega, by omega, by omega, hj⟩
  refine ⟨L, a, k, w2, hL, hrun, hst2.cs.2.2.2.2.1, hst2.soft 4, q1, ⟨Sl.own (owns_turned HO.out q2 (fun j e => (hpo j e).2.2.1)), by show Sl _ i x.inn; rw [hi]; exact (hi ▸ h.ls.si).empty, by show Sl _ b x.back; rw [hb]; exact (hb ▸ h.ls.sb).empty, fun j e => ?_, fun j e => ?_, fun j e => ?_⟩, (hT s).keep ((hT s).keep h.raw (fun j e hj => hT2.block j hj (fun e2 => (h.ls.po j e2).2.1 e)) hz2) (fun j e hj => q2.block j hj (fun e2 => h.og (e2 ▸ e))) q2.size, fun j e => by rw [hz3]; exact Nat.lt_of_lt_of_le (h.ol j e) hz2, h.og, h.orr, ?_, h.gr, h.gw, h.rw, h.oo, ?_⟩
  · have := hpo j e
    exact ⟨this.1, this.2.1, this.2.2.1, this.2.2.2.1, by rw [hz3]; exact this.2.2.2.2⟩
  · have := h.ls.pi j e
    exact ⟨this.1, this.2.1, this.2.2.1, this.2.2.2.1, by rw [hz3]; omega⟩
  · have := h.ls.pb j e
    exact ⟨this.1, this.2.1, this.2.2.1, this.2.2.2.1, by rw [hz3]; omega⟩
  · exact (q2.block r (by omega) (fun e => h.gr e.symm)).trans ((hT2.block r hrl (fun e => (h.ls.po r e).2.2.2.1 rfl)).trans h.zr)
  · exact (h.tu.trans hT2 (fun j hj e => by have := (h.ls.po j e).1; omega)).trans q2 (fun j hj e => by have e' : j = g := e; have := h.gw; omega)
theorem shutW (T : TypeId) (v : Value) (a : Option Addr) (n c : Nat) (w : World) : Calls Try.prog 117 #[.agg #[.iface T v], .slice a n c] w fun e w' => e = .returned (.tuple #[.int .i64 0, .int .i64 52]) ∧ Below w.heap.size w w' := by
  go_enter Try.func117, Try.ntmps117
  go_wp2
  go_ret2
  exact ⟨rfl, recv_below _ _⟩
theorem shut_raw {S : Type} {D : RawD S} {T : TypeId} {v : Value} {fr fw : FuncId} {rok wok : S → Prop} {At : World → (Nat → Prop) → S → Prop} (R : RawM D T v fr fw rok wok At) : RawM (shutD D) 84 (.agg #[.iface T v]) 117 117 (fun _ => False) (fun _ => True) At where
  rd h := (h.choose_spec : False).elim
  mwrite w := by kernel_rfl
  cread a w := by kernel_rfl
  cwrite a w := by kernel_rfl
  keep h hk hz := R.keep h hk hz
  few n h := R.few n h
  write {w O s} bs a c h _ _ _ _ _ _ := by
    refine (shutW T v a bs.length c w).mono ?_
    rintro _ w' ⟨rfl, hB⟩
    exact ⟨rfl, O, R.keep h (fun j _ hj => hB.block j hj) hB.size, fun _ e => .inl e, Turned.of_below hB⟩
theorem shut_ok {S : Type} (D : RawD S) (bs : List UInt8) : ∀ k s d t, putOk (shutD D) (fun _ => True) bs k s d t
  | 0, _, _, _ => trivial
  | k + 1, _, _, _ => fun _ => ⟨trivial, fun _ _ => shut_ok D bs k _ _ _, fun _ _ _ => shut_ok D bs k _ _ _⟩
theorem shut_bears {S : Type} (D : RawD S) : BearsW (shutD D) (fun _ => True) (fun _ _ => True) := ⟨fun _ s bs _ _ => ⟨shut_ok D bs _ s 0 0, trivial⟩, fun _ _ _ => trivial⟩
theorem flush_full {x : SS} (h : x.noWrite = 0) (hf : ¬ (x.out.length : Int) < x.size) : x.refuse true = 0 ∧ x.dir = 2 := by
  have h0 := (noWrite_may h).1
  have hmay := (refuse_may h0).1
  obtain ⟨h1, h2, h3, h4, h5, h6, h7, h8, h9⟩ := (may_iff x).1 hmay
  refine ⟨h0, ?_⟩
  rcases h9 with ⟨a, q⟩ | ⟨a, q⟩ | ⟨a, q⟩
  · have : x.out.length = 0 := by simp_all
    omega
  · have : x.out.length = 0 := by simp_all
    omega
  · exact a
structure Rm (x : SS) : Prop where
  nw : x.noWrite = 0
  mode : x.mode ≠ 1
  len : (x.out.length : Int) < x.size
theorem Rm.size {x : SS} (h : Rm x) : x.size ≤ 65536 ∧ x.out.length ≤ 65536 ∧ x.inn = [] ∧ x.back = [] := by
  obtain ⟨m1, m2, m3, m4, m5, m6, m7, m8⟩ := may_buf (refuse_may (noWrite_may h.nw).1).1
  have := h.len
  exact ⟨m4, by omega, noWrite_none h.nw⟩
theorem Wg.rm {x : SS} (h : Wg x) (hl : (x.out.length : Int) < x.size) : Rm x := ⟨h.noWrite, h.mode, hl⟩
theorem room_rm {S : Type} (D : RawD S) {x : SS} (s : S) (h : x.noWrite = 0) (hm : x.mode ≠ 1) (he : (x.room D s).2.1 = 0) : Rm (x.room D s).1 := by
  unfold SS.room at he ⊢
  by_cases hf : (x.out.length : Int) < x.size
  · rw [if_pos hf]
    exact ⟨h, hm, hf⟩
  rw [if_neg hf] at he ⊢
  obtain ⟨h0, hd⟩ := flush_full h hf
  obtain ⟨i1, i2⟩ := noWrite_none h
  have hmay := (refuse_may h0).1
  have hcl := (refuse_may h0).2.2
  have hwt := (noWrite_may h).2
  obtain ⟨h1, h2, h3, h4, h5, h6, h7, h8, h9⟩ := (may_iff x).1 hmay
  unfold SS.flush at he ⊢
  rw [if_neg (by simp [h0]), if_pos hd] at he ⊢
  by_cases hde : (x.deliver D s).2.1 = 0
  · rw [if_pos hde, deliver_ok D x s hde]
    have hm2 : ({ x with out := [], dir := 0 } : SS).may = true := (may_iff _).2 ⟨h1, h2, h3, h4, by simp only [List.length_nil]; omega, fun _ => rfl, h7, h8, .inl ⟨rfl, by simp [i1, i2]⟩⟩
    refine ⟨?_, hm, by simp only [List.length_nil]; omega⟩
    unfold SS.noWrite
    have hr : ({ x with out := [], dir := 0 } : SS).refuse true = 0 := by
      unfold SS.refuse
      rw [if_neg (by simp [hm2]), if_neg (by simp), if_neg (by simp [hcl])]
    rw [if_neg (by simp [hr]), if_neg (by simp [hwt]), if_neg (by simp)]
  · rw [if_neg hde] at he
    exact absurd he hde
theorem put_wg {S : Type} (D : RawD S) {x : SS} (s : S) (c : UInt8) (h : Rm x) (he : (x.put D s c).2.1 = 0) : Wg (x.put D s c).1 ∧ ((x.put D s c).1.out.length : Int) < (x.put D s c).1.size := by
  have hmay := (put_may D s c (refuse_may (noWrite_may h.nw).1).1).1
  have hwt := (noWrite_may h.nw).2
  have h3 := (may_buf (refuse_may (noWrite_may h.nw).1).1).2.2.1
  have hl := h.len
  unfold SS.put at he hmay ⊢
  rw [if_pos h.nw] at he hmay ⊢
  unfold SS.put1 at he hmay ⊢
  rw [if_neg h.mode, if_neg (by show ¬ (x.out.length : Int) = x.size; omega)] at he hmay ⊢
  unfold SS.lay at he hmay ⊢
  by_cases hc : ((({ x with dir := 2 } : SS).out.length + 1 : Nat) : Int) = ({ x with dir := 2 } : SS).size ∨ (({ x with dir := 2 } : SS).mode = 2 ∧ c = 10)
  · rw [if_pos hc] at he hmay ⊢
    rw [deliver_ok D _ s he] at hmay ⊢
    exact ⟨⟨hmay, hwt, rfl, h.mode⟩, by simp only [List.length_nil]; omega⟩
  · rw [if_neg hc] at hmay ⊢
    refine ⟨⟨hmay, hwt, rfl, h.mode⟩, ?_⟩
    have h4 : ¬ ((x.out.length + 1 : Nat) : Int) = x.size := fun e => hc (.inl e)
    simp only [List.length_append, List.length_cons, List.length_nil]
    omega
set_option maxRecDepth 100000 in
set_option maxHeartbeats 8000000 in
theorem putAtOnce_any {S : Type} {D : RawD S} {T : TypeId} {v : Value} {fr fw : FuncId} {rok wok : S → Prop} {At : World → (Nat → Prop) → S → Prop} (R : RawM D T v fr fw rok wok At) (hT : ∀ s, OAt (fun w O => At w O s)) {w : World} {O P : Nat → Prop} {s : S} {x : SS} {o i b : Value} (t : List UInt8) (ta : Option Addr) (tc : Nat) (h : SIn w P x o i b) (hA : At w O s) (hO : ∀ j, O j → j < w.heap.size) (ht : Bys w (.slice ta t.length tc) t) (htc : t.length ≤ tc) (ht2 : t.length ≤ 1048576) (hap : 0 < t.length → ∀ k, (Value.slice ta t.length tc).ownBlock = some k → ¬ O k) (hok : putOk D wok t (putF t) s 0 0) :
    Calls Try.prog 39 #[.agg #[.bool x.rd, .bool x.wt, .int .i64 x.mode, .int .i64 x.size, o, i, b, .int .i64 x.dir, .bool x.fin, .bool x.bad, .bool x.closed], .iface T v, .slice ta t.length tc] w fun e w' => e = .returned (.tuple #[.agg #[.bool (x.once D s t).1.rd, .bool (x.once D s t).1.wt, .int .i64 (x.once D s t).1.mode, .int .i64 (x.once D s t).1.size, o, i, b, .int .i64 (x.once D s t).1.dir, .bool (x.once D s t).1.fin, .bool (x.once D s t).1.bad, .bool (x.once D s t).1.closed], .int .i64 (x.once D s t).2.1, .int .i64 (x.once D s t).2.2.1]) ∧ RStep At w O (x.once D s t).2.2.2 w' := by
  obtain ⟨oa, oc, rfl, -⟩ := h.so
  obtain ⟨ia, ic, rfl, -⟩ := h.si
  obtain ⟨ba, bc, rfl, -⟩ := h.sb
  have HPt := hide (fun (W : World) (hW : Below w.heap.size w W) => rput_any R t ta tc ((hT s).keep hA (fun j _ hj => hW.block j hj) hW.size) (fun j e => Nat.lt_of_lt_of_le (hO j e) hW.size) (ht.below hW) htc ht2 hap hok)
  have hon : x.once D s t = (x.mark (putV D t (putF t) s 0 0).2.1, (putV D t (putF t) s 0 0).1, (putV D t (putF t) s 0 0).2.1, (putV D t (putF t) s 0 0).2.2) := rfl
  rw [hon]
  clear h hA ht hap hok hon
  generalize putV D t (putF t) s 0 0 = q at *
  obtain ⟨m, e, s'⟩ := q
  simp only at HPt ⊢
  by_cases he : e = 0 ∨ e = 52
  · have hm : x.mark e = x := by unfold SS.mark; rw [if_pos he]
    rw [hm]
    clear hm
    go_enter Try.func39, Try.ntmps39
    go_wp2_with fail
    have HB0 := hide ((recv_below w (Obj.cells #[.bool x.rd, .bool x.wt, .int .i64 x.mode, .int .i64 x.size, .slice oa x.out.length oc, .slice ia x.inn.length ic, .slice ba x.back.length bc, .int .i64 x.dir, .bool x.fin, .bool x.bad, .bool x.closed] 35)).trans ((recv_below (w.alloc (Obj.cells #[.bool x.rd, .bool x.wt, .int .i64 x.mode, .int .i64 x.size, .slice oa x.out.length oc, .slice ia x.inn.length ic, .slice ba x.back.length bc, .int .i64 x.dir, .bool x.fin, .bool x.bad, .bool x.closed] 35)) (Obj.cells #[.bool false, .bool false, .int .i64 0, .int .i64 0, .slice none 0 0, .slice none 0 0, .slice none 0 0, .int .i64 0, .bool false, .bool false, .bool false] 35)).mono (recv_below w (Obj.cells #[.bool x.rd, .bool x.wt, .int .i64 x.mode, .int .i64 x.size, .slice oa x.out.length oc, .slice ia x.inn.length ic, .slice ba x.back.length bc, .int .i64 x.dir, .bool x.fin, .bool x.bad, .bool x.closed] 35)).size))
    have HS0 := hide ((StAt.new w x (.slice oa x.out.length oc) (.slice ia x.inn.length ic) (.slice ba x.back.length bc)).below (recv_below _ (Obj.cells #[.bool false, .bool false, .int .i64 0, .int .i64 0, .slice none 0 0, .slice none 0 0, .slice none 0 0, .int .i64 0, .bool false, .bool false, .bool false] 35)))
    have HZ0 : Hid (((w.alloc (Obj.cells #[.bool x.rd, .bool x.wt, .int .i64 x.mode, .int .i64 x.size, .slice oa x.out.length oc, .slice ia x.inn.length ic, .slice ba x.back.length bc, .int .i64 x.dir, .bool x.fin, .bool x.bad, .bool x.closed] 35)).alloc (Obj.cells #[.bool false, .bool false, .int .i64 0, .int .i64 0, .slice none 0 0, .slice none 0 0, .slice none 0 0, .int .i64 0, .bool false, .bool false, .bool false] 35)).heap[w.heap.size + 1]? = some (Obj.cells #[.bool false, .bool false, .int .i64 0, .int .i64 0, .slice none 0 0, .slice none 0 0, .slice none 0 0, .int .i64 0, .bool false, .bool false, .bool false] 35)) := hide (by have := heap_alloc_new (w.alloc (Obj.cells #[.bool x.rd, .bool x.wt, .int .i64 x.mode, .int .i64 x.size, .slice oa x.out.length oc, .slice ia x.inn.length ic, .slice ba x.back.length bc, .int .i64 x.dir, .bool x.fin, .bool x.bad, .bool x.closed] 35)) (Obj.cells #[.bool false, .bool false, .int .i64 0, .int .i64 0, .slice none 0 0, .slice none 0 0, .slice none 0 0, .int .i64 0, .bool false, .bool false, .bool false] 35); rw [show (w.alloc (Obj.cells #[.bool x.rd, .bool x.wt, .int .i64 x.mode, .int .i64 x.size, .slice oa x.out.length oc, .slice ia x.inn.length ic, .slice ba x.back.length bc, .int .i64 x.dir, .bool x.fin, .bool x.bad, .bool x.closed] 35)).heap.size = w.heap.size + 1 from Array.size_push ..] at this; exact this)
    generalize (w.alloc (Obj.cells #[.bool x.rd, .bool x.wt, .int .i64 x.mode, .int .i64 x.size, .slice oa x.out.length oc, .slice ia x.inn.length ic, .slice ba x.back.length bc, .int .i64 x.dir, .bool x.fin, .bool x.bad, .bool x.closed] 35)).alloc (Obj.cells #[.bool false, .bool false, .int .i64 0, .int .i64 0, .slice none 0 0, .slice none 0 0, .slice none 0 0, .int .i64 0, .bool false, .bool false, .bool false] 35) = w0 at *
    have hz0 : w.heap.size + 1 < w0.heap.size := (Array.getElem?_eq_some_iff.1 HZ0.out).1
    refine (HPt.out _ HB0.out).mono ?_
    rintro _ w1 ⟨rfl, O1, h1, h2, h3⟩
    have hz1 := h3.size
    have no : ∀ k, w.heap.size ≤ k → ¬ O k := fun k hk e => by have := hO k e; omega
    have HS1 : Hid (StAt w1 w.heap.size x (.slice oa x.out.length oc) (.slice ia x.inn.length ic) (.slice ba x.back.length bc)) := hide ((h3.block _ (by omega) (no _ (Nat.le_refl _))).trans HS0.out)
    have HZ1 : Hid (w1.heap[w.heap.size + 1]? = some (Obj.cells #[.bool false, .bool false, .int .i64 0, .int .i64 0, .slice none 0 0, .slice none 0 0, .slice none 0 0, .int .i64 0, .bool false, .bool false, .bool false] 35)) := hide ((h3.block _ hz0 (no _ (Nat.le_succ _))).trans HZ0.out)
    have no1 : ∀ k, w.heap.size ≤ k → k < w0.heap.size → ¬ O1 k := fun k hk hl e => by
      rcases h2 k e with e | e
      · exact no k hk e
      · omega
    have HR1 := hide (And.intro h1 (And.intro h2 (And.intro h3 (And.intro no1 hz1))))
    clear h1 h2 h3 no no1 hz1 HS0 HZ0 HPt
    have fin : ∀ W, Turned (fun k => k = w.heap.size ∨ k = w.heap.size + 1) w1 W → RStep At w O s' W := fun W hW => by
      obtain ⟨h1, h2, h3, no1, hz1⟩ := HR1.out
      have hz := HB0.out.size
      refine ⟨O1, (hT s').keep h1 (fun j e hj => hW.block j hj (fun e2 => by rcases e2 with e2 | e2 <;> exact no1 j (by omega) (by omega) e)) hW.size, fun k e => (h2 k e).imp id (fun e => by omega), ((Turned.of_below (S := O) HB0.out).trans h3 (fun _ _ e => e)).trans hW (fun k hk e => by rcases e with e | e <;> omega)⟩
    have HFin := hide fin
    clear fin
    obtain ⟨c0, c1, c2, c3, c4, c5, c6, c7, c8, c9, c10⟩ := HS1.out.cs
    have f0 := frozen_of_row w1 (w.heap.size + 1) 0 _ _ HZ1.out
    have f1 := frozen_of_row w1 (w.heap.size + 1) 1 _ _ HZ1.out
    have f2 := frozen_of_row w1 (w.heap.size + 1) 2 _ _ HZ1.out
    have f3 := frozen_of_row w1 (w.heap.size + 1) 3 _ _ HZ1.out
    have f4 := frozen_of_row w1 (w.heap.size + 1) 4 _ _ HZ1.out
    have f5 := frozen_of_row w1 (w.heap.size + 1) 5 _ _ HZ1.out
    have f6 := frozen_of_row w1 (w.heap.size + 1) 6 _ _ HZ1.out
    have f7 := frozen_of_row w1 (w.heap.size + 1) 7 _ _ HZ1.out
    have f8 := frozen_of_row w1 (w.heap.size + 1) 8 _ _ HZ1.out
    have f9 := frozen_of_row w1 (w.heap.size + 1) 9 _ _ HZ1.out
    have f10 := frozen_of_row w1 (w.heap.size + 1) 10 _ _ HZ1.out
    have d0 := cell_of_row w1 (w.heap.size + 1) 0 _ _ _ HZ1.out
    have d1 := cell_of_row w1 (w.heap.size + 1) 1 _ _ _ HZ1.out
    have d2 := cell_of_row w1 (w.heap.size + 1) 2 _ _ _ HZ1.out
    have d3 := cell_of_row w1 (w.heap.size + 1) 3 _ _ _ HZ1.out
    have d4 := cell_of_row w1 (w.heap.size + 1) 4 _ _ _ HZ1.out
    have d5 := cell_of_row w1 (w.heap.size + 1) 5 _ _ _ HZ1.out
    have d6 := cell_of_row w1 (w.heap.size + 1) 6 _ _ _ HZ1.out
    have d7 := cell_of_row w1 (w.heap.size + 1) 7 _ _ _ HZ1.out
    have d8 := cell_of_row w1 (w.heap.size + 1) 8 _ _ _ HZ1.out
    have d9 := cell_of_row w1 (w.heap.size + 1) 9 _ _ _ HZ1.out
    have d10 := cell_of_row w1 (w.heap.size + 1) 10 _ _ _ HZ1.out
    simp at d0 d1 d2 d3 d4 d5 d6 d7 d8 d9 d10
    obtain ⟨e1, e2⟩ := st_fill w1 (w.heap.size + 1) x (.slice oa x.out.length oc) (.slice ia x.inn.length ic) (.slice ba x.back.length bc) HZ1.out
    unfold filled at *
    have HE1 := hide e1
    have HE2 := hide (HFin.out _ (e2.mono fun k e => .inr e))
    clear e1 e2 HS1 HZ1 HFin HR1 HB0
    rcases he with rfl | rfl
    all_goals
      go_wp2
      refine bodyPost_ret (res_three rfl _ (w.heap.size + 1) rfl x _ _ _ HE1.out) rfl ?_
      exact ⟨rfl, HE2.out⟩
  · have hm : x.mark e = { x with bad := true } := by unfold SS.mark; rw [if_neg he]
    rw [hm]
    have hb1 : (e != 0) = true := by simp; exact fun e2 => he (.inl e2)
    have hb2 : (e != 52) = true := by simp; exact fun e2 => he (.inr e2)
    have hb3 : (e == 0) = false := by simp; exact fun e2 => he (.inl e2)
    have hb4 : (e == 52) = false := by simp; exact fun e2 => he (.inr e2)
    clear hm he
    go_enter Try.func39, Try.ntmps39
    go_wp2_with fail
    have HB0 := hide ((recv_below w (Obj.cells #[.bool x.rd, .bool x.wt, .int .i64 x.mode, .int .i64 x.size, .slice oa x.out.length oc, .slice ia x.inn.length ic, .slice ba x.back.length bc, .int .i64 x.dir, .bool x.fin, .bool x.bad, .bool x.closed] 35)).trans ((recv_below (w.alloc (Obj.cells #[.bool x.rd, .bool x.wt, .int .i64 x.mode, .int .i64 x.size, .slice oa x.out.length oc, .slice ia x.inn.length ic, .slice ba x.back.length bc, .int .i64 x.dir, .bool x.fin, .bool x.bad, .bool x.closed] 35)) (Obj.cells #[.bool false, .bool false, .int .i64 0, .int .i64 0, .slice none 0 0, .slice none 0 0, .slice none 0 0, .int .i64 0, .bool false, .bool false, .bool false] 35)).mono (recv_below w (Obj.cells #[.bool x.rd, .bool x.wt, .int .i64 x.mode, .int .i64 x.size, .slice oa x.out.length oc, .slice ia x.inn.length ic, .slice ba x.back.length bc, .int .i64 x.dir, .bool x.fin, .bool x.bad, .bool x.closed] 35)).size))
    have HS0 := hide ((StAt.new w x (.slice oa x.out.length oc) (.slice ia x.inn.length ic) (.slice ba x.back.length bc)).below (recv_below _ (Obj.cells #[.bool false, .bool false, .int .i64 0, .int .i64 0, .slice none 0 0, .slice none 0 0, .slice none 0 0, .int .i64 0, .bool false, .bool false, .bool false] 35)))
    have HZ0 : Hid (((w.alloc (Obj.cells #[.bool x.rd, .bool x.wt, .int .i64 x.mode, .int .i64 x.size, .slice oa x.out.length oc, .slice ia x.inn.length ic, .slice ba x.back.length bc, .int .i64 x.dir, .bool x.fin, .bool x.bad, .bool x.closed] 35)).alloc (Obj.cells #[.bool false, .bool false, .int .i64 0, .int .i64 0, .slice none 0 0, .slice none 0 0, .slice none 0 0, .int .i64 0, .bool false, .bool false, .bool false] 35)).heap[w.heap.size + 1]? = some (Obj.cells #[.bool false, .bool false, .int .i64 0, .int .i64 0, .slice none 0 0, .slice none 0 0, .slice none 0 0, .int .i64 0, .bool false, .bool false, .bool false] 35)) := hide (by have := heap_alloc_new (w.alloc (Obj.cells #[.bool x.rd, .bool x.wt, .int .i64 x.mode, .int .i64 x.size, .slice oa x.out.length oc, .slice ia x.inn.length ic, .slice ba x.back.length bc, .int .i64 x.dir, .bool x.fin, .bool x.bad, .bool x.closed] 35)) (Obj.cells #[.bool false, .bool false, .int .i64 0, .int .i64 0, .slice none 0 0, .slice none 0 0, .slice none 0 0, .int .i64 0, .bool false, .bool false, .bool false] 35); rw [show (w.alloc (Obj.cells #[.bool x.rd, .bool x.wt, .int .i64 x.mode, .int .i64 x.size, .slice oa x.out.length oc, .slice ia x.inn.length ic, .slice ba x.back.length bc, .int .i64 x.dir, .bool x.fin, .bool x.bad, .bool x.closed] 35)).heap.size = w.heap.size + 1 from Array.size_push ..] at this; exact this)
    generalize (w.alloc (Obj.cells #[.bool x.rd, .bool x.wt, .int .i64 x.mode, .int .i64 x.size, .slice oa x.out.length oc, .slice ia x.inn.length ic, .slice ba x.back.length bc, .int .i64 x.dir, .bool x.fin, .bool x.bad, .bool x.closed] 35)).alloc (Obj.cells #[.bool false, .bool false, .int .i64 0, .int .i64 0, .slice none 0 0, .slice none 0 0, .slice none 0 0, .int .i64 0, .bool false, .bool false, .bool false] 35) = w0 at *
    have hz0 : w.heap.size + 1 < w0.heap.size := (Array.getElem?_eq_some_iff.1 HZ0.out).1
    refine (HPt.out _ HB0.out).mono ?_
    rintro _ w1 ⟨rfl, O1, h1, h2, h3⟩
    have hz1 := h3.size
    have no : ∀ k, w.heap.size ≤ k → ¬ O k := fun k hk e => by have := hO k e; omega
    have HS1 : Hid (StAt w1 w.heap.size x (.slice oa x.out.length oc) (.slice ia x.inn.length ic) (.slice ba x.back.length bc)) := hide ((h3.block _ (by omega) (no _ (Nat.le_refl _))).trans HS0.out)
    have HZ1 : Hid (w1.heap[w.heap.size + 1]? = some (Obj.cells #[.bool false, .bool false, .int .i64 0, .int .i64 0, .slice none 0 0, .slice none 0 0, .slice none 0 0, .int .i64 0, .bool false, .bool false, .bool false] 35)) := hide ((h3.block _ hz0 (no _ (Nat.le_succ _))).trans HZ0.out)
    have no1 : ∀ k, w.heap.size ≤ k → k < w0.heap.size → ¬ O1 k := fun k hk hl e => by
      rcases h2 k e with e | e
      · exact no k hk e
      · omega
    have HR1 := hide (And.intro h1 (And.intro h2 (And.intro h3 (And.intro no1 hz1))))
    clear h1 h2 h3 no no1 hz1 HS0 HZ0 HPt
    have fin : ∀ W, Turned (fun k => k = w.heap.size ∨ k = w.heap.size + 1) w1 W → RStep At w O s' W := fun W hW => by
      obtain ⟨h1, h2, h3, no1, hz1⟩ := HR1.out
      have hz := HB0.out.size
      refine ⟨O1, (hT s').keep h1 (fun j e hj => hW.block j hj (fun e2 => by rcases e2 with e2 | e2 <;> exact no1 j (by omega) (by omega) e)) hW.size, fun k e => (h2 k e).imp id (fun e => by omega), ((Turned.of_below (S := O) HB0.out).trans h3 (fun _ _ e => e)).trans hW (fun k hk e => by rcases e with e | e <;> omega)⟩
    have HFin := hide fin
    clear fin
    obtain ⟨q1, q2⟩ := HS1.out.set (x' := { x with bad := true }) (o' := .slice oa x.out.length oc) (i' := .slice ia x.inn.length ic) (b' := .slice ba x.back.length bc) 9 (.bool true) rfl
    have HZ2 : Hid ((w1.setCell ⟨w.heap.size, 9, none⟩ (.bool true)).heap[w.heap.size + 1]? = some (Obj.cells #[.bool false, .bool false, .int .i64 0, .int .i64 0, .slice none 0 0, .slice none 0 0, .slice none 0 0, .int .i64 0, .bool false, .bool false, .bool false] 35)) := hide ((q2.block _ (Array.getElem?_eq_some_iff.1 HZ1.out).1 (by show ¬ _ = _; omega)).trans HZ1.out)
    obtain ⟨e1, e2⟩ := st_fill _ (w.heap.size + 1) { x with bad := true } (.slice oa x.out.length oc) (.slice ia x.inn.length ic) (.slice ba x.back.length bc) HZ2.out
    have HE1 := hide e1
    have HE2 := hide (HFin.out _ ((q2.mono fun k e => (.inl e : k = w.heap.size ∨ k = w.heap.size + 1)).trans (e2.mono fun k e => (.inr e : k = w.heap.size ∨ k = w.heap.size + 1)) (fun _ _ e => e)))
    have s9 := HS1.out.soft 9
    have c9 := HS1.out.cs.2.2.2.2.2.2.2.2.2.1
    have HQ1 := hide q1
    clear e1 e2 q1 q2 HS1 HZ1 HFin HR1 HB0
    go_upto_region 4 with fail
    clear s9 c9
    generalize w1.setCell ⟨w.heap.size, 9, none⟩ (.bool true) = w2 at *
    obtain ⟨c0, c1, c2, c3, c4, c5, c6, c7, c8, c9, c10⟩ := HQ1.out.cs
    have f0 := frozen_of_row w2 (w.heap.size + 1) 0 _ _ HZ2.out
    have f1 := frozen_of_row w2 (w.heap.size + 1) 1 _ _ HZ2.out
    have f2 := frozen_of_row w2 (w.heap.size + 1) 2 _ _ HZ2.out
    have f3 := frozen_of_row w2 (w.heap.size + 1) 3 _ _ HZ2.out
    have f4 := frozen_of_row w2 (w.heap.size + 1) 4 _ _ HZ2.out
    have f5 := frozen_of_row w2 (w.heap.size + 1) 5 _ _ HZ2.out
    have f6 := frozen_of_row w2 (w.heap.size + 1) 6 _ _ HZ2.out
    have f7 := frozen_of_row w2 (w.heap.size + 1) 7 _ _ HZ2.out
    have f8 := frozen_of_row w2 (w.heap.size + 1) 8 _ _ HZ2.out
    have f9 := frozen_of_row w2 (w.heap.size + 1) 9 _ _ HZ2.out
    have f10 := frozen_of_row w2 (w.heap.size + 1) 10 _ _ HZ2.out
    have d0 := cell_of_row w2 (w.heap.size + 1) 0 _ _ _ HZ2.out
    have d1 := cell_of_row w2 (w.heap.size + 1) 1 _ _ _ HZ2.out
    have d2 := cell_of_row w2 (w.heap.size + 1) 2 _ _ _ HZ2.out
    have d3 := cell_of_row w2 (w.heap.size + 1) 3 _ _ _ HZ2.out
    have d4 := cell_of_row w2 (w.heap.size + 1) 4 _ _ _ HZ2.out
    have d5 := cell_of_row w2 (w.heap.size + 1) 5 _ _ _ HZ2.out
    have d6 := cell_of_row w2 (w.heap.size + 1) 6 _ _ _ HZ2.out
    have d7 := cell_of_row w2 (w.heap.size + 1) 7 _ _ _ HZ2.out
    have d8 := cell_of_row w2 (w.heap.size + 1) 8 _ _ _ HZ2.out
    have d9 := cell_of_row w2 (w.heap.size + 1) 9 _ _ _ HZ2.out
    have d10 := cell_of_row w2 (w.heap.size + 1) 10 _ _ _ HZ2.out
    simp at d0 d1 d2 d3 d4 d5 d6 d7 d8 d9 d10
    clear HQ1 HZ2
    go_wp2
    refine bodyPost_ret (res_three rfl _ (w.heap.size + 1) rfl _ _ _ _ HE1.out) rfl ?_
    exact ⟨rfl, HE2.out⟩
def WRoom {S : Type} (At : World → (Nat → Prop) → S → Prop) (w : World) (O : Nat → Prop) (x : SS) (s : S) (o i b : Value) (x' : SS) (e : Int) (s' : S) (o' i' b' : Value) (w' : World) : Prop := (x' = x ∧ e = 0 ∧ s' = s ∧ o' = o ∧ i' = i ∧ b' = b ∧ Below w.heap.size w w') ∨ SOut At w O x' s' o' i' b' w'
set_option maxRecDepth 100000 in
set_option maxHeartbeats 8000000 in
theorem withRoom_any {S : Type} {D : RawD S} {T : TypeId} {v : Value} {fr fw : FuncId} {rok wok : S → Prop} {At : World → (Nat → Prop) → S → Prop} (R : RawM D T v fr fw rok wok At) (hT : ∀ s, OAt (fun w O => At w O s)) {G : Nat → S → Prop} (hG : Bears D rok wok G) {w : World} {O P : Nat → Prop} {s : S} {x : SS} {o i b : Value} (h : SIn w P x o i b) (hA : At w O s) (hO : ∀ j, O j → j < w.heap.size) (hg : G 2 s) (ho : x.out.length ≤ 140737488351232) (hi : x.inn.length ≤ 140737488351232) (hb : x.back.length ≤ 140737488351232) :
    Calls Try.prog 56 #[.agg #[.bool x.rd, .bool x.wt, .int .i64 x.mode, .int .i64 x.size, o, i, b, .int .i64 x.dir, .bool x.fin, .bool x.bad, .bool x.closed], .iface T v] w fun e w' => ∃ (a1 a2 a3 : Option Addr) (a4 a5 a6 : Nat), e = .returned (.tuple #[.agg #[.bool (x.room D s).1.rd, .bool (x.room D s).1.wt, .int .i64 (x.room D s).1.mode, .int .i64 (x.room D s).1.size, .slice a1 (x.room D s).1.out.length a4, .slice a2 (x.room D s).1.inn.length a5, .slice a3 (x.room D s).1.back.length a6, .int .i64 (x.room D s).1.dir, .bool (x.room D s).1.fin, .bool (x.room D s).1.bad, .bool (x.room D s).1.closed], .int .i64 (x.room D s).2.1]) ∧ WRoom At w O x s o i b (x.room D s).1 (x.room D s).2.1 (x.room D s).2.2 (.slice a1 (x.room D s).1.out.length a4) (.slice a2 (x.room D s).1.inn.length a5) (.slice a3 (x.room D s).1.back.length a6) w' := by
  have HFl := hide (fun (W : World) (hW : Below w.heap.size w W) => sFlush_any R hT hG (h.below hW) ((hT s).keep hA (fun j _ hj => hW.block j hj) hW.size) (fun j e => Nat.lt_of_lt_of_le (hO j e) hW.size) hg ho hi hb)
  obtain ⟨oa, oc, rfl, -⟩ := h.so
  obtain ⟨ia, ic, rfl, -⟩ := h.si
  obtain ⟨ba, bc, rfl, -⟩ := h.sb
  clear h hA hg
  by_cases hr : (x.out.length : Int) < x.size
  · have hrm : x.room D s = (x, 0, s) := by unfold SS.room; rw [if_pos hr]
    rw [hrm]
    simp only
    clear hrm HFl ho hi hb
    go_enter Try.func56, Try.ntmps56
    go_upto_region 1 with fail
    have HB0 := hide ((recv_below w (Obj.cells #[.bool x.rd, .bool x.wt, .int .i64 x.mode, .int .i64 x.size, .slice oa x.out.length oc, .slice ia x.inn.length ic, .slice ba x.back.length bc, .int .i64 x.dir, .bool x.fin, .bool x.bad, .bool x.closed] 35)).trans ((recv_below (w.alloc (Obj.cells #[.bool x.rd, .bool x.wt, .int .i64 x.mode, .int .i64 x.size, .slice oa x.out.length oc, .slice ia x.inn.length ic, .slice ba x.back.length bc, .int .i64 x.dir, .bool x.fin, .bool x.bad, .bool x.closed] 35)) (Obj.cells #[.bool false, .bool false, .int .i64 0, .int .i64 0, .slice none 0 0, .slice none 0 0, .slice none 0 0, .int .i64 0, .bool false, .bool false, .bool false] 35)).mono (recv_below w (Obj.cells #[.bool x.rd, .bool x.wt, .int .i64 x.mode, .int .i64 x.size, .slice oa x.out.length oc, .slice ia x.inn.length ic, .slice ba x.back.length bc, .int .i64 x.dir, .bool x.fin, .bool x.bad, .bool x.closed] 35)).size))
    have HS0 := hide ((StAt.new w x (.slice oa x.out.length oc) (.slice ia x.inn.length ic) (.slice ba x.back.length bc)).below (recv_below _ (Obj.cells #[.bool false, .bool false, .int .i64 0, .int .i64 0, .slice none 0 0, .slice none 0 0, .slice none 0 0, .int .i64 0, .bool false, .bool false, .bool false] 35)))
    have HZ0 : Hid (((w.alloc (Obj.cells #[.bool x.rd, .bool x.wt, .int .i64 x.mode, .int .i64 x.size, .slice oa x.out.length oc, .slice ia x.inn.length ic, .slice ba x.back.length bc, .int .i64 x.dir, .bool x.fin, .bool x.bad, .bool x.closed] 35)).alloc (Obj.cells #[.bool false, .bool false, .int .i64 0, .int .i64 0, .slice none 0 0, .slice none 0 0, .slice none 0 0, .int .i64 0, .bool false, .bool false, .bool false] 35)).heap[w.heap.size + 1]? = some (Obj.cells #[.bool false, .bool false, .int .i64 0, .int .i64 0, .slice none 0 0, .slice none 0 0, .slice none 0 0, .int .i64 0, .bool false, .bool false, .bool false] 35)) := hide (by have := heap_alloc_new (w.alloc (Obj.cells #[.bool x.rd, .bool x.wt, .int .i64 x.mode, .int .i64 x.size, .slice oa x.out.length oc, .slice ia x.inn.length ic, .slice ba x.back.length bc, .int .i64 x.dir, .bool x.fin, .bool x.bad, .bool x.closed] 35)) (Obj.cells #[.bool false, .bool false, .int .i64 0, .int .i64 0, .slice none 0 0, .slice none 0 0, .slice none 0 0, .int .i64 0, .bool false, .bool false, .bool false] 35); rw [show (w.alloc (Obj.cells #[.bool x.rd, .bool x.wt, .int .i64 x.mode, .int .i64 x.size, .slice oa x.out.length oc, .slice ia x.inn.length ic, .slice ba x.back.length bc, .int .i64 x.dir, .bool x.fin, .bool x.bad, .bool x.closed] 35)).heap.size = w.heap.size + 1 from Array.size_push ..] at this; exact this)
    generalize (w.alloc (Obj.cells #[.bool x.rd, .bool x.wt, .int .i64 x.mode, .int .i64 x.size, .slice oa x.out.length oc, .slice ia x.inn.length ic, .slice ba x.back.length bc, .int .i64 x.dir, .bool x.fin, .bool x.bad, .bool x.closed] 35)).alloc (Obj.cells #[.bool false, .bool false, .int .i64 0, .int .i64 0, .slice none 0 0, .slice none 0 0, .slice none 0 0, .int .i64 0, .bool false, .bool false, .bool false] 35) = w0 at *
    have hz0 : w.heap.size + 1 < w0.heap.size := (Array.getElem?_eq_some_iff.1 HZ0.out).1
    obtain ⟨c0, c1, c2, c3, c4, c5, c6, c7, c8, c9, c10⟩ := HS0.out.cs
    have f0 := frozen_of_row w0 (w.heap.size + 1) 0 _ _ HZ0.out
    have f1 := frozen_of_row w0 (w.heap.size + 1) 1 _ _ HZ0.out
    have f2 := frozen_of_row w0 (w.heap.size + 1) 2 _ _ HZ0.out
    have f3 := frozen_of_row w0 (w.heap.size + 1) 3 _ _ HZ0.out
    have f4 := frozen_of_row w0 (w.heap.size + 1) 4 _ _ HZ0.out
    have f5 := frozen_of_row w0 (w.heap.size + 1) 5 _ _ HZ0.out
    have f6 := frozen_of_row w0 (w.heap.size + 1) 6 _ _ HZ0.out
    have f7 := frozen_of_row w0 (w.heap.size + 1) 7 _ _ HZ0.out
    have f8 := frozen_of_row w0 (w.heap.size + 1) 8 _ _ HZ0.out
    have f9 := frozen_of_row w0 (w.heap.size + 1) 9 _ _ HZ0.out
    have f10 := frozen_of_row w0 (w.heap.size + 1) 10 _ _ HZ0.out
    have d0 := cell_of_row w0 (w.heap.size + 1) 0 _ _ _ HZ0.out
    have d1 := cell_of_row w0 (w.heap.size + 1) 1 _ _ _ HZ0.out
    have d2 := cell_of_row w0 (w.heap.size + 1) 2 _ _ _ HZ0.out
    have d3 := cell_of_row w0 (w.heap.size + 1) 3 _ _ _ HZ0.out
    have d4 := cell_of_row w0 (w.heap.size + 1) 4 _ _ _ HZ0.out
    have d5 := cell_of_row w0 (w.heap.size + 1) 5 _ _ _ HZ0.out
    have d6 := cell_of_row w0 (w.heap.size + 1) 6 _ _ _ HZ0.out
    have d7 := cell_of_row w0 (w.heap.size + 1) 7 _ _ _ HZ0.out
    have d8 := cell_of_row w0 (w.heap.size + 1) 8 _ _ _ HZ0.out
    have d9 := cell_of_row w0 (w.heap.size + 1) 9 _ _ _ HZ0.out
    have d10 := cell_of_row w0 (w.heap.size + 1) 10 _ _ _ HZ0.out
    simp at d0 d1 d2 d3 d4 d5 d6 d7 d8 d9 d10
    obtain ⟨e1, e2⟩ := st_fill w0 (w.heap.size + 1) x (.slice oa x.out.length oc) (.slice ia x.inn.length ic) (.slice ba x.back.length bc) HZ0.out
    have HE1 := hide e1
    have HE2 := hide (HB0.out.trans (e2.below (B := w.heap.size) (fun k e => by have e' : k = w.heap.size + 1 := e; omega) HB0.out.size))
    clear e1 e2 HS0 HZ0 HB0
    go_wp2
    refine bodyPost_ret (res_two rfl _ (w.heap.size + 1) rfl x _ _ _ HE1.out) rfl ?_
    exact ⟨_, _, _, _, _, _, rfl, .inl ⟨rfl, rfl, rfl, rfl, rfl, rfl, HE2.out⟩⟩
  · have hrm : x.room D s = x.flush D s := by unfold SS.room; rw [if_neg hr]
    rw [hrm]
    clear hrm ho hi hb
    generalize x.flush D s = q at *
    obtain ⟨qx, qe, qs⟩ := q
    simp only at HFl ⊢
    have hr2 : ¬ (x.out.length : Int) < x.size := hr
    have hr3 : decide ((x.out.length : Int) < x.size) = false := decide_eq_false hr
    go_enter Try.func56, Try.ntmps56
    go_upto_region 1 with fail
    have HB0 := hide ((recv_below w (Obj.cells #[.bool x.rd, .bool x.wt, .int .i64 x.mode, .int .i64 x.size, .slice oa x.out.length oc, .slice ia x.inn.length ic, .slice ba x.back.length bc, .int .i64 x.dir, .bool x.fin, .bool x.bad, .bool x.closed] 35)).trans ((recv_below (w.alloc (Obj.cells #[.bool x.rd, .bool x.wt, .int .i64 x.mode, .int .i64 x.size, .slice oa x.out.length oc, .slice ia x.inn.length ic, .slice ba x.back.length bc, .int .i64 x.dir, .bool x.fin, .bool x.bad, .bool x.closed] 35)) (Obj.cells #[.bool false, .bool false, .int .i64 0, .int .i64 0, .slice none 0 0, .slice none 0 0, .slice none 0 0, .int .i64 0, .bool false, .bool false, .bool false] 35)).mono (recv_below w (Obj.cells #[.bool x.rd, .bool x.wt, .int .i64 x.mode, .int .i64 x.size, .slice oa x.out.length oc, .slice ia x.inn.length ic, .slice ba x.back.length bc, .int .i64 x.dir, .bool x.fin, .bool x.bad, .bool x.closed] 35)).size))
    have HS0 := hide ((StAt.new w x (.slice oa x.out.length oc) (.slice ia x.inn.length ic) (.slice ba x.back.length bc)).below (recv_below _ (Obj.cells #[.bool false, .bool false, .int .i64 0, .int .i64 0, .slice none 0 0, .slice none 0 0, .slice none 0 0, .int .i64 0, .bool false, .bool false, .bool false] 35)))
    have HZ0 : Hid (((w.alloc (Obj.cells #[.bool x.rd, .bool x.wt, .int .i64 x.mode, .int .i64 x.size, .slice oa x.out.length oc, .slice ia x.inn.length ic, .slice ba x.back.length bc, .int .i64 x.dir, .bool x.fin, .bool x.bad, .bool x.closed] 35)).alloc (Obj.cells #[.bool false, .bool false, .int .i64 0, .int .i64 0, .slice none 0 0, .slice none 0 0, .slice none 0 0, .int .i64 0, .bool false, .bool false, .bool false] 35)).heap[w.heap.size + 1]? = some (Obj.cells #[.bool false, .bool false, .int .i64 0, .int .i64 0, .slice none 0 0, .slice none 0 0, .slice none 0 0, .int .i64 0, .bool false, .bool false, .bool false] 35)) := hide (by have := heap_alloc_new (w.alloc (Obj.cells #[.bool x.rd, .bool x.wt, .int .i64 x.mode, .int .i64 x.size, .slice oa x.out.length oc, .slice ia x.inn.length ic, .slice ba x.back.length bc, .int .i64 x.dir, .bool x.fin, .bool x.bad, .bool x.closed] 35)) (Obj.cells #[.bool false, .bool false, .int .i64 0, .int .i64 0, .slice none 0 0, .slice none 0 0, .slice none 0 0, .int .i64 0, .bool false, .bool false, .bool false] 35); rw [show (w.alloc (Obj.cells #[.bool x.rd, .bool x.wt, .int .i64 x.mode, .int .i64 x.size, .slice oa x.out.length oc, .slice ia x.inn.length ic, .slice ba x.back.length bc, .int .i64 x.dir, .bool x.fin, .bool x.bad, .bool x.closed] 35)).heap.size = w.heap.size + 1 from Array.size_push ..] at this; exact this)
    generalize (w.alloc (Obj.cells #[.bool x.rd, .bool x.wt, .int .i64 x.mode, .int .i64 x.size, .slice oa x.out.length oc, .slice ia x.inn.length ic, .slice ba x.back.length bc, .int .i64 x.dir, .bool x.fin, .bool x.bad, .bool x.closed] 35)).alloc (Obj.cells #[.bool false, .bool false, .int .i64 0, .int .i64 0, .slice none 0 0, .slice none 0 0, .slice none 0 0, .int .i64 0, .bool false, .bool false, .bool false] 35) = w0 at *
    have hz0 : w.heap.size + 1 < w0.heap.size := (Array.getElem?_eq_some_iff.1 HZ0.out).1
    have HP := hide (HFl.out _ HB0.out)
    clear HFl
    obtain ⟨c0, c1, c2, c3, c4, c5, c6, c7, c8, c9, c10⟩ := HS0.out.cs
    go_wp2_with fail
    clear c0 c1 c2 c3 c4 c5 c6 c7 c8 c9 c10
    refine HP.out.mono ?_
    rintro _ w2 ⟨o', i', b', rfl, hS⟩
    obtain ⟨a1, a4, rfl, -⟩ := hS.choose_spec.1.so
    obtain ⟨a2, a5, rfl, -⟩ := hS.choose_spec.1.si
    obtain ⟨a3, a6, rfl, -⟩ := hS.choose_spec.1.sb
    have hTu : Turned O w0 w2 := by obtain ⟨_, _, _, _, _, t⟩ := hS; exact t
    have HZ2 : Hid (w2.heap[w.heap.size + 1]? = some (Obj.cells #[.bool false, .bool false, .int .i64 0, .int .i64 0, .slice none 0 0, .slice none 0 0, .slice none 0 0, .int .i64 0, .bool false, .bool false, .bool false] 35)) := hide ((hTu.block _ hz0 (fun e => by have := hO _ e; omega)).trans HZ0.out)
    have HS := hide hS
    clear hS hTu HP
    have f0 := frozen_of_row w2 (w.heap.size + 1) 0 _ _ HZ2.out
    have f1 := frozen_of_row w2 (w.heap.size + 1) 1 _ _ HZ2.out
    have f2 := frozen_of_row w2 (w.heap.size + 1) 2 _ _ HZ2.out
    have f3 := frozen_of_row w2 (w.heap.size + 1) 3 _ _ HZ2.out
    have f4 := frozen_of_row w2 (w.heap.size + 1) 4 _ _ HZ2.out
    have f5 := frozen_of_row w2 (w.heap.size + 1) 5 _ _ HZ2.out
    have f6 := frozen_of_row w2 (w.heap.size + 1) 6 _ _ HZ2.out
    have f7 := frozen_of_row w2 (w.heap.size + 1) 7 _ _ HZ2.out
    have f8 := frozen_of_row w2 (w.heap.size + 1) 8 _ _ HZ2.out
    have f9 := frozen_of_row w2 (w.heap.size + 1) 9 _ _ HZ2.out
    have f10 := frozen_of_row w2 (w.heap.size + 1) 10 _ _ HZ2.out
    have d0 := cell_of_row w2 (w.heap.size + 1) 0 _ _ _ HZ2.out
    have d1 := cell_of_row w2 (w.heap.size + 1) 1 _ _ _ HZ2.out
    have d2 := cell_of_row w2 (w.heap.size + 1) 2 _ _ _ HZ2.out
    have d3 := cell_of_row w2 (w.heap.size + 1) 3 _ _ _ HZ2.out
    have d4 := cell_of_row w2 (w.heap.size + 1) 4 _ _ _ HZ2.out
    have d5 := cell_of_row w2 (w.heap.size + 1) 5 _ _ _ HZ2.out
    have d6 := cell_of_row w2 (w.heap.size + 1) 6 _ _ _ HZ2.out
    have d7 := cell_of_row w2 (w.heap.size + 1) 7 _ _ _ HZ2.out
    have d8 := cell_of_row w2 (w.heap.size + 1) 8 _ _ _ HZ2.out
    have d9 := cell_of_row w2 (w.heap.size + 1) 9 _ _ _ HZ2.out
    have d10 := cell_of_row w2 (w.heap.size + 1) 10 _ _ _ HZ2.out
    simp at d0 d1 d2 d3 d4 d5 d6 d7 d8 d9 d10
    obtain ⟨e1, e2⟩ := st_fill w2 (w.heap.size + 1) qx (.slice a1 qx.out.length a4) (.slice a2 qx.inn.length a5) (.slice a3 qx.back.length a6) HZ2.out
    have HE1 := hide e1
    have HE2 := hide e2
    clear e1 e2
    go_wp2
    refine bodyPost_ret (res_two rfl _ (w.heap.size + 1) rfl qx _ _ _ HE1.out) rfl ?_
    exact ⟨_, _, _, _, _, _, rfl, .inr (SOut.fin hT HS.out HB0.out hz0 (Nat.le_succ _) hO HE2.out)⟩
theorem WRoom.qk {S : Type} {At : World → (Nat → Prop) → S → Prop} (hT : ∀ s, OAt (fun w O => At w O s)) {w w0 w2 : World} {O P : Nat → Prop} {x x' : SS} {s s' : S} {e : Int} {r g : Nat} {o i b o' i' b' : Value} (h : WRoom At w0 O x s o i b x' e s' o' i' b' w2) (hI : SIn w P x o i b) (hA : At w O s) (hO : ∀ j, O j → j < w.heap.size) (hB : Below w.heap.size w w0) (hs : StAt w0 g x o i b) (hz : w0.heap[r]? = some (Obj.cells #[.bool false, .bool false, .int .i64 0, .int .i64 0, .slice none 0 0, .slice none 0 0, .slice none 0 0, .int .i64 0, .bool false, .bool false, .bool false] 35)) (hgr : g ≠ r) (hg : w.heap.size ≤ g) (hr : w.heap.size ≤ r) :
    StAt w2 g x o i b ∧ ∃ O', QK At True w O r g (filled w2 g x' o' i' b') O' x' s' o' i' b' ∧ (e ≠ 0 → QV At w O r g (filled w2 g x' o' i' b') O' x' s' o' i' b') := by
  rcases h with ⟨rfl, rfl, rfl, rfl, rfl, rfl, h2⟩ | h
  · have hst := hs.below h2
    obtain ⟨e1, e2⟩ := st_fill2 w2 g x' x' o' i' b' o' i' b' hst
    have hz2 := h2.size
    have hz3 := e2.size
    have hzw := hB.size
    have hrl : r < w0.heap.size := (Array.getElem?_eq_some_iff.1 hz).1
    have hall : Below w.heap.size w (filled w2 g x' o' i' b') := (hB.trans (h2.mono hzw)).trans (e2.below (B := w.heap.size) (fun k e => by have e' : k = g := e; omega) (by omega))
    exact ⟨hst, O, ⟨e1, (hI.below hall).mono fun _ _ => .inl trivial, (hT s').keep hA (fun j _ hj => hall.block j hj) hall.size, fun j e => Nat.lt_of_lt_of_le (hO j e) hall.size, fun e => by have := hO _ e; omega, fun e => by have := hO _ e; omega, (e2.block r (by omega) (fun e => hgr e.symm)).trans ((h2.block r hrl).trans hz), hgr, hg, hr, fun k e => .inl e, Turned.of_below hall⟩, fun e => absurd rfl e⟩
  · obtain ⟨hst, O', hq⟩ := QV.of_out hT hB hs hz hgr hg hr hO h
    exact ⟨hst, O', hq.k, fun _ => hq⟩
end Go.Proofs.Ytgbkhmiphaefgaa
