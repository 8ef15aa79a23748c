/- What the proof stands on, part 4: the contracts of the program's calls that it reaches. -/
import Derived.Test.YtcmfpafcipgejaaDoorKM3
import Derived.Deep.RegionHeld3
/- Scan: a word or number, and bytes, as they are read. -/
namespace Go.Proofs.YtcmfpafcipgejaaDoor
open Go.RowKit
theorem tri (w : World) (a b c : Obj) : Below w.heap.size w (((w.alloc a).alloc b).alloc c) ∧ (((w.alloc a).alloc b).alloc c).heap.size = w.heap.size + 1 + 1 + 1 ∧ (((w.alloc a).alloc b).alloc c).heap[w.heap.size]? = some a ∧ (((w.alloc a).alloc b).alloc c).heap[w.heap.size + 1]? = some b ∧ (((w.alloc a).alloc b).alloc c).heap[w.heap.size + 1 + 1]? = some c := by
  have z1 : (w.alloc a).heap.size = w.heap.size + 1 := Array.size_push ..
  have z2 : ((w.alloc a).alloc b).heap.size = w.heap.size + 1 + 1 := by rw [← z1]; exact Array.size_push ..
  have z3 : (((w.alloc a).alloc b).alloc c).heap.size = w.heap.size + 1 + 1 + 1 := by rw [← z2]; exact Array.size_push ..
  have b1 := fm_below w a
  have b2 := fm_below (w.alloc a) b
  have b3 := fm_below ((w.alloc a).alloc b) c
  have k1 := heap_alloc_new w a
  have k2 := heap_alloc_new (w.alloc a) b
  have k3 := heap_alloc_new ((w.alloc a).alloc b) c
  rw [z1] at k2
  rw [z2] at k3
  exact ⟨(b1.trans (b2.mono (by omega))).trans (b3.mono (by omega)), z3, (b3.block w.heap.size (by omega)).trans ((b2.block w.heap.size (by omega)).trans k1), (b3.block (w.heap.size + 1) (by omega)).trans k2, k3⟩
structure RPc (W : World) (g : Nat) (T : TypeId) (v : Value) (p : Pt) : Prop where
  c0 : W.cell? ⟨g, 0, none⟩ = some (.iface T v)
  p0 : W.cell? ⟨g + 1, 0, none⟩ = some (.int .u8 (p.verb.toNat : Int))
  p1 : W.cell? ⟨g + 1, 1, none⟩ = some (.int .u8 (p.want.toNat : Int))
  p2 : W.cell? ⟨g + 1, 2, none⟩ = some (.bool p.quiet)
  p3 : W.cell? ⟨g + 1, 3, none⟩ = some (.int .i64 (p.wd : Int))
  p4 : W.cell? ⟨g + 1, 4, none⟩ = some (.int .i64 (p.len : Int))
structure RPb (W : World) (g : Nat) (T : TypeId) (v : Value) (p : Pt) : Prop where
  b0 : W.heap[g]? = some (Obj.cells #[.iface T v] 43)
  b1 : W.heap[g + 1]? = some (Obj.cells #[.int .u8 (p.verb.toNat : Int), .int .u8 (p.want.toNat : Int), .bool p.quiet, .int .i64 (p.wd : Int), .int .i64 (p.len : Int)] 46)
theorem RPb.cs {W : World} {g : Nat} {T : TypeId} {v : Value} {p : Pt} (h : RPb W g T v p) : RPc W g T v p := ⟨cell_of_row W g 0 _ _ _ h.b0, cell_of_row W (g + 1) 0 _ _ _ h.b1, cell_of_row W (g + 1) 1 _ _ _ h.b1, cell_of_row W (g + 1) 2 _ _ _ h.b1, cell_of_row W (g + 1) 3 _ _ _ h.b1, cell_of_row W (g + 1) 4 _ _ _ h.b1⟩
theorem RPb.keep {W W' : World} {g : Nat} {T : TypeId} {v : Value} {p : Pt} (h : RPb W g T v p) (hB : Below W.heap.size W W') : RPb W' g T v p := ⟨(hB.block g (Array.getElem?_eq_some_iff.1 h.b0).1).trans h.b0, (hB.block (g + 1) (Array.getElem?_eq_some_iff.1 h.b1).1).trans h.b1⟩
theorem rp_keep {w w0 W : World} {T : TypeId} {v : Value} {p : Pt} {O : Nat → Prop} (hz : w0.heap.size = w.heap.size + 1 + 1 + 1) (hO : ∀ j, O j → j < w.heap.size) (h : RPb w0 w.heap.size T v p) (hT : Turned (fun k => O k ∨ w0.heap.size ≤ k) w0 W) : RPb W w.heap.size T v p :=
  ⟨(hT.block _ (by omega) (fun e => e.elim (fun e => by have := hO _ e; omega) (fun e => by omega))).trans h.b0, (hT.block _ (by omega) (fun e => e.elim (fun e => by have := hO _ e; omega) (fun e => by omega))).trans h.b1⟩
theorem arg_keep {w w0 W : World} {O : Nat → Prop} (hz : w0.heap.size = w.heap.size + 1 + 1 + 1) (hO : ∀ j, O j → j < w.heap.size) (h : ArgB w0 (w.heap.size + 1 + 1) ag0) (hT : Turned (fun k => O k ∨ w0.heap.size ≤ k) w0 W) : ArgB W (w.heap.size + 1 + 1) ag0 :=
  (hT.block _ (by omega) (fun e => e.elim (fun e => by have := hO _ e; omega) (fun e => by omega))).trans h
theorem sstep_over {S : Type} {At : World → (Nat → Prop) → S → Prop} {w0 w1 : World} {O : Nat → Prop} {s1 : S} (h : SStep At none_ w0 O s1 w1) : ∃ O1, At w1 O1 s1 ∧ (∀ j, O1 j → j < w1.heap.size) ∧ (∀ k, O1 k → O k ∨ w0.heap.size ≤ k) ∧ Turned (fun k => O k ∨ w0.heap.size ≤ k) w0 w1 := by
  obtain ⟨O1, a, b, c, d⟩ := h
  exact ⟨O1, a, b, c, d.mono (fun k e => e.elim .inl (fun e => e.elim))⟩
theorem fit_in {S : Type} {K : Nat → Prop} {At : World → (Nat → Prop) → S → Prop} {f : Bool → UInt8 → Bool × Bool} {ff : FuncId} {caps : Array Value} {F FK : Nat → Prop} {FAt : World → Bool → Prop} (_M : FitM f ff caps F FK FAt) {w5 w6 : World} {O : Nat → Prop} {s : S} (hFz : ∀ j, F j ∨ FK j → w5.heap.size ≤ j ∧ j < w6.heap.size) (hFK : ∀ j, FK j → ¬ F j) (hF : FAt w6 false) (h : At w6 O s) (hO : ∀ j, O j → j < w5.heap.size) (hK : ∀ j, K j → j < w5.heap.size) (hz : w5.heap.size ≤ w6.heap.size) : JAt At K FAt F FK w6 O s false :=
  ⟨h, hF, fun j e => ⟨(hFz j (.inl e)).2, fun e2 => by have := (hFz j (.inl e)).1; have := hO j e2; omega, fun e2 => by have := (hFz j (.inl e)).1; have := hK j e2; omega⟩, fun j e => ⟨(hFz j (.inr e)).2, fun e2 => by have := (hFz j (.inr e)).1; have := hO j e2; omega⟩, hFK, fun j e => Nat.lt_of_lt_of_le (hO j e) hz⟩
theorem gstep_over {S : Type} {At : World → (Nat → Prop) → S → Prop} {F : Nat → Prop} {w0 w1 w6 w7 : World} {O O1 : Nat → Prop} {s2 : S} {u : Value} {l : List UInt8} (h01 : w0.heap.size ≤ w1.heap.size) (hO1 : ∀ k, O1 k → O k ∨ w0.heap.size ≤ k) (hT : Turned (fun k => O k ∨ w0.heap.size ≤ k) w0 w1) (hB : Below w1.heap.size w1 w6) (hF : ∀ j, F j → w1.heap.size ≤ j) (h : GStep At F w6 O1 s2 u l w7) : (∃ O2, At w7 O2 s2 ∧ (∀ j, O2 j → j < w7.heap.size) ∧ (∀ k, O2 k → O k ∨ w0.heap.size ≤ k) ∧ Bys w7 u l) ∧ Turned (fun k => O k ∨ w0.heap.size ≤ k) w0 w7 := by
  obtain ⟨O2, ⟨a, b, c, d⟩, e, f⟩ := h
  have hz := hB.size
  refine ⟨⟨O2, a, b, fun k e => (c k e).elim (hO1 k) (fun e => .inr (by omega)), Bys.of_owns e⟩, (hT.trans (Turned.of_below (S := fun _ => False) hB) (fun _ _ e => e.elim)).trans d (fun k hk e => e.elim (hO1 k) (fun e => by have := hF k e; exact .inr (by omega)))⟩
theorem fin_set {S : Type} {D : SrcD S} {T : TypeId} {v : Value} {fn fb : FuncId} {K : Nat → Prop} {At : World → (Nat → Prop) → S → Prop} (R : SrcM D T v fn fb K At) {w w0 W : World} {O O2 : Nat → Prop} {s2 : S} (hB0 : Below w.heap.size w w0) (hz : w0.heap.size = w.heap.size + 1 + 1 + 1) (hO : ∀ j, O j → j < w.heap.size) (hK : ∀ j, K j → j < w.heap.size) (hA : At W O2 s2) (os : ∀ j, O2 j → j < W.heap.size) (ho : ∀ k, O2 k → O k ∨ w0.heap.size ≤ k) (hT : Turned (fun k => O k ∨ w0.heap.size ≤ k) w0 W) (a b c d : Value) : SStep At none_ w O s2 ((((W.setCell ⟨w.heap.size + 1 + 1, 0, none⟩ a).setCell ⟨w.heap.size + 1 + 1, 1, none⟩ b).setCell ⟨w.heap.size + 1 + 1, 2, none⟩ c).setCell ⟨w.heap.size + 1 + 1, 3, none⟩ d) := by
  have t1 := four_set (Turned.refl (fun k => k = w.heap.size + 1 + 1) W) (.inl rfl) a b c d
  have hne : ∀ j, O2 j ∨ K j → ¬ j = w.heap.size + 1 + 1 := fun j e e2 => e.elim (fun e => (ho j e).elim (fun e => by have := hO j e; omega) (fun e => by omega)) (fun e => by have := hK j e; omega)
  refine ⟨O2, R.keep hA (fun j e hl => t1.block j hl (hne j e)) t1.size, fun j e => Nat.lt_of_lt_of_le (os j e) t1.size, fun k e => (ho k e).imp id (fun e => by omega), ?_⟩
  refine ((Turned.of_below (S := fun k => O k ∨ none_ k) hB0).trans hT (fun k hk e => e.elim .inl (fun e => by have := hB0.size; omega))).trans t1 (fun k hk e => by omega)
theorem sbys_string {W : World} {v : Value} {l : List UInt8} (h : Bys W v l) : (convert 22 9 v).run Tryd.prog W = .ok (.string ⟨l.toArray⟩) W := by
  rcases h with ⟨rfl, rfl⟩ | ⟨a, cap, rfl, rfl⟩ | ⟨b, off, cap, rfl, h0, hc⟩
  · exact run_convert_bytes_nil W 22 5 Tryd.underlying22 Tryd.underlying5 0 0 _ Tryd.underlying9
  · exact run_convert_bytes_back W 22 9 5 a cap [] Tryd.underlying22 Tryd.underlying5 Tryd.underlying9 fun j hj => absurd hj (Nat.not_lt_zero j)
  · refine run_convert_bytes_back W 22 9 5 ⟨b, off, none⟩ cap l Tryd.underlying22 Tryd.underlying5 Tryd.underlying9 fun j hj => ?_
    have hadd : (⟨b, off, none⟩ : Addr).add j = ⟨b, off + j, none⟩ := by unfold Addr.add; split <;> simp_all
    rw [hadd, hc j hj, List.getD_eq_getElem?_getD, List.getElem?_eq_getElem hj]
    rfl
theorem sgather_is {S : Type} {D : SrcD S} {T : TypeId} {v : Value} {fn fb : FuncId} {K : Nat → Prop} {At : World → (Nat → Prop) → S → Prop} (R : SrcM D T v fn fb K At) {f : Bool → UInt8 → Bool × Bool} {ff : FuncId} {caps : Array Value} {F FK : Nat → Prop} {FAt : World → Bool → Prop} (M : FitM f ff caps F FK FAt) {w : World} {O : Nat → Prop} {s : S} {q : Bool} (n : Nat) (hn : n ≤ 4096) (hK : ∀ j, K j → j < w.heap.size) (h : JAt At K FAt F FK w O s q) {l : List UInt8} {e0 : Int} {s2 : S} (hQ : gatV D f n s q [] = ((l, e0), s2)) :
    Calls Tryd.prog 22 #[.agg #[.iface T v], .int .i64 (n : Int), .func (.func ff) #[] caps] w fun e w' => ∃ u, e = .returned (.tuple #[u, .int .i64 e0]) ∧ GStep At F w O s2 u l w' := by
  have := sgather_any R M n hn hK h
  rw [hQ] at this
  exact this
theorem sfilled_is {S : Type} {D : SrcD S} {T : TypeId} {v : Value} {fn fb : FuncId} {K : Nat → Prop} {At : World → (Nat → Prop) → S → Prop} (R : SrcM D T v fn fb K At) {f : Bool → UInt8 → Bool × Bool} {ff : FuncId} {caps : Array Value} {F FK : Nat → Prop} {FAt : World → Bool → Prop} (M : FitM f ff caps F FK FAt) {w : World} {O : Nat → Prop} {s : S} (n : Nat) (hn : n ≤ 4096) (hK : ∀ j, K j → j < w.heap.size) (h : JAt At K FAt F FK w O s false) {l : List UInt8} {e0 : Int} {s2 : S} (hQ : filV D f n s = ((l, e0), s2)) :
    Calls Tryd.prog 14 #[.agg #[.iface T v], .int .i64 (n : Int), .func (.func ff) #[] caps] w fun e w' => ∃ u, e = .returned (.tuple #[u, .int .i64 e0]) ∧ GStep At F w O s2 u l w' := by
  have := sfilled_any R M n hn hK h
  rw [hQ] at this
  exact this
theorem gat_int {S : Type} (D : SrcD S) {vb : UInt8} (hv : vb.toNat = 100) : ∀ (n : Nat) (s : S) (q : Bool) (acc : List UInt8), (q = false → acc = []) → (∃ sg ds, (sg = [] ∨ ∃ c, isSg c = true ∧ sg = [c]) ∧ acc = sg ++ ds ∧ Dgs ds) → ∃ sg ds, (sg = [] ∨ ∃ c, isSg c = true ∧ sg = [c]) ∧ (gatV D (fitV vb) n s q acc).1.1 = sg ++ ds ∧ Dgs ds
  | 0, _, _, _, _, h => h
  | n + 1, s, q, acc, hq, h => by
    obtain ⟨c, b, e, s', q', hx⟩ : ∃ c b e s' q', oneV D (fitV vb) s q = ((c, b, e), s', q') := ⟨_, _, _, _, _, rfl⟩
    cases b
    · rw [gatV_no D _ n s q acc hx]; exact h
    · rw [gatV_yes D _ n s q acc hx]
      unfold oneV at hx
      split at hx
      · split at hx
        · rename_i h1 h2
          rw [fit_d hv] at h2 hx
          cases hx
          refine gat_int D hv n _ _ _ (fun e => by cases e) ?_
          generalize (D.next s).1 = ch at *
          simp only [Bool.or_eq_true, Bool.and_eq_true, Bool.not_eq_true'] at h2
          rcases h2 with ⟨h3, h4⟩ | h3
          · rw [hq h3]
            exact ⟨[ch], [], .inr ⟨ch, h4, rfl⟩, rfl, fun _ e => by cases e⟩
          · obtain ⟨sg, ds, g1, g2, g3⟩ := h
            exact ⟨sg, ds ++ [ch], g1, by rw [g2, List.append_assoc], fun a ha => (List.mem_append.1 ha).elim (g3 a) (fun e => by rw [List.mem_singleton.1 e]; exact (dig10 ch).1 h3)⟩
        · cases hx
      · cases hx
theorem least_int {l : List UInt8} {vb : UInt8} (hv : vb.toNat = 100) (h : ∃ sg ds, (sg = [] ∨ ∃ c, isSg c = true ∧ sg = [c]) ∧ l = sg ++ ds ∧ Dgs ds) (hl : leastV l vb = true) : IntL l := by
  obtain ⟨sg, ds, h1, h2, h3⟩ := h
  refine ⟨sg, ds, h1, h2, h3, fun e => ?_⟩
  subst e
  rw [List.append_nil] at h2
  subst h2
  unfold leastV at hl
  rcases h1 with rfl | ⟨c, hc, rfl⟩
  · simp at hl
  · rw [if_pos ⟨hv, rfl⟩] at hl
    rw [show ([c] : List UInt8).getD 0 0 = c from rfl, hc] at hl
    cases hl
set_option linter.unusedSimpArgs false in
set_option maxRecDepth 100000 in
set_option maxHeartbeats 8000000 in
theorem word_any {S : Type} {D : SrcD S} {T : TypeId} {v : Value} {fn fb : FuncId} {K : Nat → Prop} {At : World → (Nat → Prop) → S → Prop} (R : SrcM D T v fn fb K At) {w : World} {O : Nat → Prop} {s : S} (p : Pt) (N : Nat) {e0 : Int} {s1 : S} (hK : ∀ j, K j → j < w.heap.size) (h : At w O s) (hO : ∀ j, O j → j < w.heap.size) (hp : passV D N s = some (e0, s1)) (hm : p.most ≤ 4096) :
    Calls Tryd.prog 17 #[.agg #[.iface T v], ptV p] w fun e w' => e = .returned (pairV (if e0 ≠ 0 then ((ag0, e0), s1) else wordV D p s1).1) ∧ SStep At none_ w O (if e0 ≠ 0 then ((ag0, e0), s1) else wordV D p s1).2 w' := by
  obtain ⟨RR, hR⟩ : ∃ RR, RR = if e0 ≠ 0 then ((ag0, e0), s1) else wordV D p s1 := ⟨_, rfl⟩
  rw [← hR]
  have HR := hide hR
  obtain ⟨t1, t2, t3, t4, t5⟩ := tri w (Obj.cells #[.iface T v] 43) (Obj.cells #[.int .u8 (p.verb.toNat : Int), .int .u8 (p.want.toNat : Int), .bool p.quiet, .int .i64 (p.wd : Int), .int .i64 (p.len : Int)] 46) (Obj.cells #[.int .i64 0, .int .i64 0, .int .u64 0, .string (⟨#[]⟩ : ByteArray)] 31)
  have HX := hide (spass_any R N (R.keep h (fun j _ hl => t1.block j hl) t1.size) (fun j e => Nat.lt_of_lt_of_le (hO j e) t1.size) hp)
  have c0 := cell_of_row (((w.alloc (Obj.cells #[.iface T v] 43)).alloc (Obj.cells #[.int .u8 (p.verb.toNat : Int), .int .u8 (p.want.toNat : Int), .bool p.quiet, .int .i64 (p.wd : Int), .int .i64 (p.len : Int)] 46)).alloc (Obj.cells #[.int .i64 0, .int .i64 0, .int .u64 0, .string (⟨#[]⟩ : ByteArray)] 31)) w.heap.size 0 _ _ _ t3
  simp only [List.getElem?_toArray, List.getElem?_cons_zero] at c0
  have HO := hide hO
  have HK0 := hide hK
  unfold ptV
  have HW := hide (And.intro t1 (And.intro t2 (And.intro (RPb.mk (T := T) (v := v) (p := p) t3 t4) (show ArgB (((w.alloc (Obj.cells #[.iface T v] 43)).alloc (Obj.cells #[.int .u8 (p.verb.toNat : Int), .int .u8 (p.want.toNat : Int), .bool p.quiet, .int .i64 (p.wd : Int), .int .i64 (p.len : Int)] 46)).alloc (Obj.cells #[.int .i64 0, .int .i64 0, .int .u64 0, .string (⟨#[]⟩ : ByteArray)] 31)) (w.heap.size + 1 + 1) ag0 from t5))))
  clear h hK hO hp t1 t2 t3 t4 t5 hR
  go_enter Tryd.func17, Tryd.ntmps17
  go_wp2_with fail
  generalize (((w.alloc (Obj.cells #[.iface T v] 43)).alloc (Obj.cells #[.int .u8 (p.verb.toNat : Int), .int .u8 (p.want.toNat : Int), .bool p.quiet, .int .i64 (p.wd : Int), .int .i64 (p.len : Int)] 46)).alloc (Obj.cells #[.int .i64 0, .int .i64 0, .int .u64 0, .string (⟨#[]⟩ : ByteArray)] 31)) = w0 at *
  refine HX.out.mono ?_
  rintro _ w1 ⟨rfl, hS⟩
  obtain ⟨O1, hS1⟩ := sstep_over hS
  have HS1 := hide hS1
  have HBl := hide (And.intro (rp_keep HW.out.2.1 HO.out HW.out.2.2.1 HS1.out.2.2.2) (And.intro HS1.out.2.2.2.size (And.intro HW.out.2.1 HW.out.2.2.1)))
  have HA1 := hide (arg_keep HW.out.2.1 HO.out HW.out.2.2.2 HS1.out.2.2.2)
  have HKs := hide (fun j (e : K j) => (by have := HK0.out j e; have := HW.out.2.1; have := HBl.out.2.1; omega : j < w1.heap.size))
  clear hS hS1 HX c0
  by_cases he : e0 = 0
  · subst he
    obtain ⟨l, e, s2, hQ⟩ : ∃ l e s2, gatV D (fitV p.verb) p.most s1 false [] = ((l, e), s2) := ⟨_, _, _, rfl⟩
    have hre : RR = wordV D p s1 := HR.out.trans (if_neg (by simp))
    unfold wordV at hre
    rw [hQ] at hre
    simp only at hre
    have hlen := gatV_len D (fitV p.verb) p.most s1 false []
    rw [hQ] at hlen
    simp only [List.length_nil, Nat.zero_add] at hlen
    have hint : p.verb.toNat = 100 → leastV l p.verb = true → IntL l := fun hv hl => by
      have := gat_int D hv p.most s1 false [] (fun _ => rfl) ⟨[], [], .inl rfl, rfl, fun _ e => by cases e⟩
      rw [hQ] at this
      exact least_int hv this hl
    have HInt := hide hint
    have HRe := hide hre
    have HLen := hide hlen
    have HQ := hide hQ
    clear HR hQ hre hlen hint
    go_wp2_with fail
    refine wp_region_noPanic ?_
    refine wp_region_held_drew (S := fun W => RPc W w.heap.size T v p) (by kernel_rfl) ((HBl.out.1.keep (Below.refl _ _).drew).cs) (fun hHeld => ?_)
    refine wpAnyH_take (i := 0) (oi := ?_) (v := ?_) ?_ (by kernel_rfl) (by kernel_rfl) (by kernel_rfl) (fun _ _ _ h => (h : False).elim) (Or.inl ⟨?_, ?_⟩) hHeld ?_
    rotate_left 2
    · (simp only [List.getElem?_toArray, List.getElem?_cons_zero]; rfl)
    · rfl
    · (intro W hSw; obtain ⟨m0, m1, m2, m3, m4, m5⟩ := hSw; go_simp <;> with_reducible rfl)
    try simp only [Act.put, List.setIfInBounds_toArray, List.set_cons_zero, List.set_cons_succ]
    refine wpAnyH_take (i := 1) (oi := ?_) (v := ?_) ?_ (by kernel_rfl) (by kernel_rfl) (by kernel_rfl) (fun _ _ _ h => (h : False).elim) (Or.inl ⟨?_, ?_⟩) hHeld ?_
    rotate_left 2
    · (simp only [List.getElem?_toArray, List.getElem?_cons_zero, List.getElem?_cons_succ]; rfl)
    · rfl
    · (intro W hSw; obtain ⟨m0, m1, m2, m3, m4, m5⟩ := hSw; go_simp <;> with_reducible rfl)
    try simp only [Act.put, List.setIfInBounds_toArray, List.set_cons_zero, List.set_cons_succ]
    refine wpAnyH_take (i := 3) (oi := ?_) (v := ?_) ?_ (by kernel_rfl) (by kernel_rfl) (by kernel_rfl) (fun _ _ _ h => (h : False).elim) (Or.inl ⟨?_, ?_⟩) hHeld ?_
    rotate_left 2
    · (simp only [List.getElem?_toArray, List.getElem?_cons_zero, List.getElem?_cons_succ]; rfl)
    · rfl
    · (intro W hSw; obtain ⟨m0, m1, m2, m3, m4, m5⟩ := hSw; go_simp <;> with_reducible rfl)
    try simp only [Act.put, List.setIfInBounds_toArray, List.set_cons_zero, List.set_cons_succ]
    refine wpAnyH_take (i := 4) (oi := ?_) (v := ?_) ?_ (by kernel_rfl) (by kernel_rfl) (by kernel_rfl) (fun _ _ _ h => (h : False).elim) (Or.inl ⟨?_, ?_⟩) hHeld ?_
    rotate_left 2
    · (simp only [List.getElem?_toArray, List.getElem?_cons_zero, List.getElem?_cons_succ]; rfl)
    · rfl
    · (intro W hSw; obtain ⟨m0, m1, m2, m3, m4, m5⟩ := hSw; go_simp <;> with_reducible rfl)
    try simp only [Act.put, List.setIfInBounds_toArray, List.set_cons_zero, List.set_cons_succ]
    refine wpAnyH_ready (rs := [2]) (by kernel_rfl) (by simp) ?_
    refine AllReadyH.cons (o := ?_) ?_ (fun K' hK => ?_) AllReadyH.nil
    rotate_left 1
    · (simp only [List.getElem?_toArray, List.getElem?_cons_zero, List.getElem?_cons_succ]; rfl)
    go_simp
    refine (most_any p _).mono ?_; rintro _ w5 ⟨rfl, hw5⟩; have hB5 : Below w1.heap.size w1.drew w5 := by { rw [hw5]; exact fm_below w1.drew _ }; have HB5 := hide ((Below.refl _ w1).drew.trans hB5); clear hw5 hB5
    refine hK.out _ _ ((HBl.out.1.keep HB5.out).cs) (fun hHeld2 => ?_)
    clear hK K' hHeld
    have hHeld := hHeld2
    clear hHeld2
    try simp only [Act.put, List.setIfInBounds_toArray, List.set_cons_zero, List.set_cons_succ]
    refine wpAnyH_ready (rs := [5]) (by kernel_rfl) (by simp) ?_
    refine AllReadyH.cons (o := ?_) ?_ (fun K' hK => ?_) AllReadyH.nil
    rotate_left 1
    · (simp only [List.getElem?_toArray, List.getElem?_cons_zero, List.getElem?_cons_succ]; rfl)
    go_simp
    refine (fitting_any p.verb _).mono ?_; rintro _ w6 ⟨_, rfl, hB6, ff, caps, F, FK, FAt, rfl, hM, hF, hFz, hFK⟩; have HB6 := hide (HB5.out.trans (hB6.mono HB5.out.size))
    have HJ6 := hide (fit_in hM hFz hFK hF (R.keep HS1.out.1 (fun j _ hl => HB6.out.block j hl) HB6.out.size) (fun j e => Nat.lt_of_lt_of_le (HS1.out.2.1 j e) HB5.out.size) (fun j e => Nat.lt_of_lt_of_le (HKs.out j e) HB5.out.size) hB6.size)
    have HM6 := hide hM
    have HFz := hide (fun j (e : F j) => Nat.le_trans HB5.out.size (hFz j (.inl e)).1)
    have HKs6 := hide (fun j (e : K j) => Nat.lt_of_lt_of_le (HKs.out j e) HB6.out.size)
    clear hM hFz hFK hF hB6
    refine hK.out _ _ ((HBl.out.1.keep HB6.out).cs) (fun hHeld2 => ?_)
    clear hK K' hHeld
    have hHeld := hHeld2
    clear hHeld2
    try simp only [Act.put, List.setIfInBounds_toArray, List.set_cons_zero, List.set_cons_succ]
    refine wpAnyH_ready (rs := [6]) (by kernel_rfl) (by simp) ?_
    refine AllReadyH.cons (o := ?_) ?_ (fun K' hK => ?_) AllReadyH.nil
    rotate_left 1
    · (simp only [List.getElem?_toArray, List.getElem?_cons_zero, List.getElem?_cons_succ]; rfl)
    go_simp
    refine (sgather_is R HM6.out p.most hm HKs6.out HJ6.out HQ.out).mono ?_; rintro _ w7 ⟨u, rfl, hG⟩
    have HG7 := hide (gstep_over HBl.out.2.1 HS1.out.2.2.1 HS1.out.2.2.2 HB6.out HFz.out hG)
    clear hG HM6 HJ6
    refine hK.out _ _ ((rp_keep HBl.out.2.2.1 HO.out HBl.out.2.2.2 HG7.out.2).cs) (fun hHeld2 => ?_)
    clear hK K' hHeld
    have hHeld := hHeld2
    clear hHeld2
    try simp only [Act.put, List.setIfInBounds_toArray, List.set_cons_zero, List.set_cons_succ]
    refine wpAnyH_take (i := 7) (oi := ?_) (v := ?_) ?_ (by kernel_rfl) (by kernel_rfl) (by kernel_rfl) (fun _ _ _ h => (h : False).elim) (Or.inl ⟨?_, ?_⟩) hHeld ?_
    rotate_left 2
    · (simp only [List.getElem?_toArray, List.getElem?_cons_zero, List.getElem?_cons_succ]; rfl)
    · rfl
    · (intro W hSw; obtain ⟨m0, m1, m2, m3, m4, m5⟩ := hSw; go_simp <;> with_reducible rfl)
    try simp only [Act.put, List.setIfInBounds_toArray, List.set_cons_zero, List.set_cons_succ]
    refine wpAnyH_take (i := 8) (oi := ?_) (v := ?_) ?_ (by kernel_rfl) (by kernel_rfl) (by kernel_rfl) (fun _ _ _ h => (h : False).elim) (Or.inl ⟨?_, ?_⟩) hHeld ?_
    rotate_left 2
    · (simp only [List.getElem?_toArray, List.getElem?_cons_zero, List.getElem?_cons_succ]; rfl)
    · rfl
    · (intro W hSw; obtain ⟨m0, m1, m2, m3, m4, m5⟩ := hSw; go_simp <;> with_reducible rfl)
    try simp only [Act.put, List.setIfInBounds_toArray, List.set_cons_zero, List.set_cons_succ]
    refine wpAnyH_take (i := 9) (oi := ?_) (v := ?_) ?_ (by kernel_rfl) (by kernel_rfl) (by kernel_rfl) (fun _ _ _ h => (h : False).elim) (Or.inl ⟨?_, ?_⟩) hHeld ?_
    rotate_left 2
    · (simp only [List.getElem?_toArray, List.getElem?_cons_zero, List.getElem?_cons_succ]; rfl)
    · rfl
    · (intro W hSw; obtain ⟨m0, m1, m2, m3, m4, m5⟩ := hSw; go_simp <;> with_reducible rfl)
    try simp only [Act.put, List.setIfInBounds_toArray, List.set_cons_zero, List.set_cons_succ]
    refine wpAnyH_take (i := 10) (oi := ?_) (v := ?_) ?_ (by kernel_rfl) (by kernel_rfl) (by kernel_rfl) (fun _ _ _ h => (h : False).elim) (Or.inl ⟨?_, ?_⟩) hHeld ?_
    rotate_left 2
    · (simp only [List.getElem?_toArray, List.getElem?_cons_zero, List.getElem?_cons_succ]; rfl)
    · rfl
    · (intro W hSw; obtain ⟨m0, m1, m2, m3, m4, m5⟩ := hSw; go_simp <;> with_reducible rfl)
    try simp only [Act.put, List.setIfInBounds_toArray, List.set_cons_zero, List.set_cons_succ]
    refine wpAnyH_take (i := 11) (oi := ?_) (v := ?_) ?_ (by kernel_rfl) (by kernel_rfl) (by kernel_rfl) (fun _ _ _ h => (h : False).elim) (Or.inl ⟨?_, ?_⟩) hHeld ?_
    rotate_left 2
    · (simp only [List.getElem?_toArray, List.getElem?_cons_zero, List.getElem?_cons_succ]; rfl)
    · rfl
    · (intro W hSw; obtain ⟨m0, m1, m2, m3, m4, m5⟩ := hSw; go_simp <;> with_reducible rfl)
    try simp only [Act.put, List.setIfInBounds_toArray, List.set_cons_zero, List.set_cons_succ]
    refine wpAnyH_done (by kernel_rfl) ?_ _
    refine NoPanic.normal ?_
    obtain ⟨O7, hO7⟩ := HG7.out.1
    have HO7 := hide hO7
    have HB7 := hide (rp_keep HW.out.2.1 HO.out HW.out.2.2.1 HG7.out.2)
    have HA7 := hide (arg_keep HW.out.2.1 HO.out HW.out.2.2.2 HG7.out.2)
    have HFin := hide (fun (W : World) (hB : Below w7.heap.size w7 W) (a b c d : Value) => fin_set R HW.out.1 HW.out.2.1 HO.out HK0.out (R.keep HO7.out.1 (fun j _ hl => hB.block j hl) hB.size) (fun j e => Nat.lt_of_lt_of_le (HO7.out.2.1 j e) hB.size) HO7.out.2.2.1 (HG7.out.2.trans (Turned.of_below (S := fun _ => False) hB) (fun _ _ e => e.elim)) a b c d)
    have HY7 := hide HO7.out.2.2.2
    obtain ⟨ua, uc, hu, -⟩ := bys_form HY7.out
    subst hu
    clear hO7 HG7 HO7 HS1 HBl HA1 HB5 HB6 HKs HKs6 HFz hHeld
    obtain ⟨y0, y1, y2, y3, y4, y5⟩ := HB7.out.cs
    by_cases h1 : e ≠ 0 ∧ e ≠ 111
    · have hre := HRe.out
      rw [if_pos h1] at hre
      subst hre
      have g1 : (e != 0) = true := by simp [h1.1]
      have g2 : (e != 111) = true := by simp [h1.2]
      have k0 := HA7.out.ah.c0
      have k1 := HA7.out.ah.c1
      have k2 := HA7.out.ah.c2
      have k3 := HA7.out.ah.c3
      have f0 := HA7.out.soft
      go_wp2
      refine bodyPost_ret (res_agp rfl _ (w.heap.size + 1 + 1) rfl (HA7.out.fill 0 0 0 ByteArray.empty)) rfl ?_
      exact ⟨rfl, HFin.out _ (Below.refl _ _) _ _ _ _⟩
    · have hre := HRe.out
      rw [if_neg h1] at hre
      have HLs := hide (hasLeast_any ua uc l p.verb w7 HY7.out)
      have hstr := sbys_string HY7.out
      have HVd := hide (fun (hl : leastV l p.verb = true) W => valued_any ⟨l.toArray⟩ p.verb W (by show l.toArray.size ≤ _; have := HLen.out; simp; omega) (fun hv => HInt.out hv hl))
      have h01 : (e = 0 ∧ (e != 0) = false) ∨ (e = 111 ∧ (e != 0) = true ∧ (e != 111) = false) := by
        by_cases h0 : e = 0
        · exact .inl ⟨h0, by simp [h0]⟩
        · have h2 : e = 111 := by
            by_cases h2 : e = 111
            · exact h2
            · exact absurd ⟨h0, h2⟩ h1
          exact .inr ⟨h2, by simp [h2], by simp [h2]⟩
      clear h1 HRe HInt HLen
      by_cases hls : leastV l p.verb = true
      · rw [if_pos hls] at hre
        have HVd := hide (HVd.out hls)
        rw [hls] at HLs
        obtain ⟨⟨⟨ka, ia, ua', ta⟩, ea⟩, hA⟩ : ∃ A, worthV l p.verb = A := ⟨_, rfl⟩
        rw [show (⟨l.toArray⟩ : ByteArray).data.toList = l from rfl, hA] at HVd
        rw [hA] at hre
        subst hre
        clear hA hls
        rcases h01 with ⟨rfl, g1⟩ | ⟨rfl, g1, g2⟩
        all_goals
          go_wp2_with fail
          refine HLs.out.mono ?_
          rintro _ _ ⟨rfl, rfl⟩
          go_wp2_with fail
          refine (HVd.out _).mono ?_
          rintro _ w8 ⟨rfl, hB8⟩
          have hA8 := HA7.out.below hB8
          have HA8 := hide hA8
          have HB8 := hide hB8
          have k0 := hA8.ah.c0
          have k1 := hA8.ah.c1
          have k2 := hA8.ah.c2
          have k3 := hA8.ah.c3
          have f0 := hA8.soft
          clear hA8 hB8 y0 y1 y2 y3 y4 y5
          unfold pairV agV
          go_wp2
          refine bodyPost_ret (res_agp rfl _ (w.heap.size + 1 + 1) rfl (HA8.out.fill ka ia ua' ta)) rfl ?_
          exact ⟨rfl, HFin.out _ HB8.out _ _ _ _⟩
      · rw [if_neg hls] at hre
        have hls : leastV l p.verb = false := by simpa using hls
        rw [hls] at HLs
        have k0 := HA7.out.ah.c0
        have k1 := HA7.out.ah.c1
        have k2 := HA7.out.ah.c2
        have k3 := HA7.out.ah.c3
        have f0 := HA7.out.soft
        clear hls hstr HVd
        rcases h01 with ⟨rfl, g1⟩ | ⟨rfl, g1, g2⟩
        · rw [if_pos rfl] at hre
          subst hre
          go_wp2_with fail
          refine HLs.out.mono ?_
          rintro _ _ ⟨rfl, rfl⟩
          go_wp2
          refine bodyPost_ret (res_agp rfl _ (w.heap.size + 1 + 1) rfl (HA7.out.fill 0 0 0 ByteArray.empty)) rfl ?_
          exact ⟨rfl, HFin.out _ (Below.refl _ _) _ _ _ _⟩
        · rw [if_neg (by decide)] at hre
          subst hre
          go_wp2_with fail
          refine HLs.out.mono ?_
          rintro _ _ ⟨rfl, rfl⟩
          go_wp2
          refine bodyPost_ret (res_agp rfl _ (w.heap.size + 1 + 1) rfl (HA7.out.fill 0 0 0 ByteArray.empty)) rfl ?_
          exact ⟨rfl, HFin.out _ (Below.refl _ _) _ _ _ _⟩
  · have he' : (e0 != 0) = true := by simp [he]
    have k0 := HA1.out.ah.c0
    have k1 := HA1.out.ah.c1
    have k2 := HA1.out.ah.c2
    have k3 := HA1.out.ah.c3
    have f0 := HA1.out.soft
    go_wp2
    refine bodyPost_ret (res_agp rfl _ (w.heap.size + 1 + 1) rfl (HA1.out.fill 0 0 0 ByteArray.empty)) rfl ?_
    rw [HR.out, if_pos he]
    exact ⟨rfl, fin_set R HW.out.1 HW.out.2.1 HO.out HK0.out HS1.out.1 HS1.out.2.1 HS1.out.2.2.1 HS1.out.2.2.2 _ _ _ _⟩
end Go.Proofs.YtcmfpafcipgejaaDoor

/- Scan: bytes, as they are read. -/
namespace Go.Proofs.YtcmfpafcipgejaaDoor
open Go.RowKit
def bytV {S : Type} (D : SrcD S) (p : Pt) (s : S) : (Ag × Int) × S :=
  let g := filV D fAll p.most s
  if g.1.2 ≠ 0 then ((ag0, g.1.2), g.2) else if p.wd = 0 then ((⟨3, 0, ((g.1.1.getD 0 0).toNat : Int), ⟨#[]⟩⟩, 0), g.2) else ((⟨4, 0, 0, ⟨g.1.1.toArray⟩⟩, 0), g.2)
theorem filV_len {S : Type} (D : SrcD S) (f : Bool → UInt8 → Bool × Bool) (n : Nat) (s : S) (h : (filV D f n s).1.2 = 0) : n ≤ (filV D f n s).1.1.length := by
  unfold filV at h ⊢
  simp only at h ⊢
  split at h
  · exact absurd h (by decide)
  · rename_i h2
    have : ¬ (gatV D f n s false []).1.1.length < n := fun e => h2 ⟨h, e⟩
    omega
set_option linter.unusedSimpArgs false in
set_option maxRecDepth 100000 in
set_option maxHeartbeats 8000000 in
theorem bytes_any {S : Type} {D : SrcD S} {T : TypeId} {v : Value} {fn fb : FuncId} {K : Nat → Prop} {At : World → (Nat → Prop) → S → Prop} (R : SrcM D T v fn fb K At) {w : World} {O : Nat → Prop} {s : S} (p : Pt) (hv : p.verb.toNat = 99) (hK : ∀ j, K j → j < w.heap.size) (h : At w O s) (hO : ∀ j, O j → j < w.heap.size) (hm : p.most ≤ 4096) :
    Calls Tryd.prog 16 #[.agg #[.iface T v], ptV p] w fun e w' => e = .returned (pairV (bytV D p s).1) ∧ SStep At none_ w O (bytV D p s).2 w' := by
  obtain ⟨RR, hR⟩ : ∃ RR, RR = bytV D p s := ⟨_, rfl⟩
  rw [← hR]
  obtain ⟨t1, t2, t3, t4, t5⟩ := tri w (Obj.cells #[.iface T v] 43) (Obj.cells #[.int .u8 (p.verb.toNat : Int), .int .u8 (p.want.toNat : Int), .bool p.quiet, .int .i64 (p.wd : Int), .int .i64 (p.len : Int)] 46) (Obj.cells #[.int .i64 0, .int .i64 0, .int .u64 0, .string (⟨#[]⟩ : ByteArray)] 31)
  obtain ⟨l, e, s2, hQ⟩ : ∃ l e s2, filV D fAll p.most s = ((l, e), s2) := ⟨_, _, _, rfl⟩
  unfold bytV at hR
  have hlen := filV_len D fAll p.most s
  rw [hQ] at hR hlen
  simp only at hR hlen
  have h1len : e = 0 → p.wd = 0 → 1 ≤ l.length := fun he hw => by
    have := hlen he
    unfold Pt.most at this
    rw [if_neg (by omega), if_pos hv] at this
    exact this
  have HS1 := hide (And.intro (R.keep h (fun j _ hl => t1.block j hl) t1.size) (And.intro (fun j e => Nat.lt_of_lt_of_le (hO j e) t1.size) (And.intro (fun k (e : O k) => (.inl e : O k ∨ (((w.alloc (Obj.cells #[.iface T v] 43)).alloc (Obj.cells #[.int .u8 (p.verb.toNat : Int), .int .u8 (p.want.toNat : Int), .bool p.quiet, .int .i64 (p.wd : Int), .int .i64 (p.len : Int)] 46)).alloc (Obj.cells #[.int .i64 0, .int .i64 0, .int .u64 0, .string (⟨#[]⟩ : ByteArray)] 31)).heap.size ≤ k)) (Turned.refl (fun k => O k ∨ (((w.alloc (Obj.cells #[.iface T v] 43)).alloc (Obj.cells #[.int .u8 (p.verb.toNat : Int), .int .u8 (p.want.toNat : Int), .bool p.quiet, .int .i64 (p.wd : Int), .int .i64 (p.len : Int)] 46)).alloc (Obj.cells #[.int .i64 0, .int .i64 0, .int .u64 0, .string (⟨#[]⟩ : ByteArray)] 31)).heap.size ≤ k) (((w.alloc (Obj.cells #[.iface T v] 43)).alloc (Obj.cells #[.int .u8 (p.verb.toNat : Int), .int .u8 (p.want.toNat : Int), .bool p.quiet, .int .i64 (p.wd : Int), .int .i64 (p.len : Int)] 46)).alloc (Obj.cells #[.int .i64 0, .int .i64 0, .int .u64 0, .string (⟨#[]⟩ : ByteArray)] 31))))))
  have HRe := hide hR
  have HLen := hide h1len
  have HQ := hide hQ
  have HO := hide hO
  have HK0 := hide hK
  unfold ptV
  have HW := hide (And.intro t1 (And.intro t2 (And.intro (RPb.mk (T := T) (v := v) (p := p) t3 t4) (show ArgB (((w.alloc (Obj.cells #[.iface T v] 43)).alloc (Obj.cells #[.int .u8 (p.verb.toNat : Int), .int .u8 (p.want.toNat : Int), .bool p.quiet, .int .i64 (p.wd : Int), .int .i64 (p.len : Int)] 46)).alloc (Obj.cells #[.int .i64 0, .int .i64 0, .int .u64 0, .string (⟨#[]⟩ : ByteArray)] 31)) (w.heap.size + 1 + 1) ag0 from t5))))
  have HBl := hide (And.intro HW.out.2.2.1 (And.intro (Nat.le_refl (((w.alloc (Obj.cells #[.iface T v] 43)).alloc (Obj.cells #[.int .u8 (p.verb.toNat : Int), .int .u8 (p.want.toNat : Int), .bool p.quiet, .int .i64 (p.wd : Int), .int .i64 (p.len : Int)] 46)).alloc (Obj.cells #[.int .i64 0, .int .i64 0, .int .u64 0, .string (⟨#[]⟩ : ByteArray)] 31)).heap.size) (And.intro t2 HW.out.2.2.1)))
  have HKs := hide (fun j (e : K j) => Nat.lt_of_lt_of_le (hK j e) t1.size)
  clear h hK hO hR hQ hlen h1len t1 t2 t3 t4 t5 hv
  go_enter Tryd.func16, Tryd.ntmps16
  go_wp2_with fail
  generalize (((w.alloc (Obj.cells #[.iface T v] 43)).alloc (Obj.cells #[.int .u8 (p.verb.toNat : Int), .int .u8 (p.want.toNat : Int), .bool p.quiet, .int .i64 (p.wd : Int), .int .i64 (p.len : Int)] 46)).alloc (Obj.cells #[.int .i64 0, .int .i64 0, .int .u64 0, .string (⟨#[]⟩ : ByteArray)] 31)) = w0 at *
  refine wp_region_noPanic ?_
  refine wp_region_held_drew (S := fun W => RPc W w.heap.size T v p) (by kernel_rfl) ((HBl.out.1.keep (Below.refl _ _).drew).cs) (fun hHeld => ?_)
  refine wpAnyH_take (i := 0) (oi := ?_) (v := ?_) ?_ (by kernel_rfl) (by kernel_rfl) (by kernel_rfl) (fun _ _ _ h => (h : False).elim) (Or.inl ⟨?_, ?_⟩) hHeld ?_
  rotate_left 2
  · (simp only [List.getElem?_toArray, List.getElem?_cons_zero]; rfl)
  · rfl
  · (intro W hSw; obtain ⟨m0, m1, m2, m3, m4, m5⟩ := hSw; go_simp <;> with_reducible rfl)
  try simp only [Act.put, List.setIfInBounds_toArray, List.set_cons_zero, List.set_cons_succ]
  refine wpAnyH_take (i := 1) (oi := ?_) (v := ?_) ?_ (by kernel_rfl) (by kernel_rfl) (by kernel_rfl) (fun _ _ _ h => (h : False).elim) (Or.inl ⟨?_, ?_⟩) hHeld ?_
  rotate_left 2
  · (simp only [List.getElem?_toArray, List.getElem?_cons_zero, List.getElem?_cons_succ]; rfl)
  · rfl
  · (intro W hSw; obtain ⟨m0, m1, m2, m3, m4, m5⟩ := hSw; go_simp <;> with_reducible rfl)
  try simp only [Act.put, List.setIfInBounds_toArray, List.set_cons_zero, List.set_cons_succ]
  refine wpAnyH_ready (rs := [2]) (by kernel_rfl) (by simp) ?_
  refine AllReadyH.cons (o := ?_) ?_ (fun K' hK => ?_) AllReadyH.nil
  rotate_left 1
  · (simp only [List.getElem?_toArray, List.getElem?_cons_zero, List.getElem?_cons_succ]; rfl)
  go_simp
  refine (most_any p _).mono ?_; rintro _ w5 ⟨rfl, hw5⟩; have hB5 : Below w0.heap.size w0.drew w5 := by { rw [hw5]; exact fm_below w0.drew _ }; have HB5 := hide ((Below.refl _ w0).drew.trans hB5); clear hw5 hB5
  refine hK.out _ _ ((HBl.out.1.keep HB5.out).cs) (fun hHeld2 => ?_)
  clear hK K' hHeld
  have hHeld := hHeld2
  clear hHeld2
  try simp only [Act.put, List.setIfInBounds_toArray, List.set_cons_zero, List.set_cons_succ]
  refine wpAnyH_ready (rs := [3]) (by kernel_rfl) (by simp) ?_
  refine AllReadyH.cons (o := ?_) ?_ (fun K' hK => ?_) AllReadyH.nil
  rotate_left 1
  · (simp only [List.getElem?_toArray, List.getElem?_cons_zero, List.getElem?_cons_succ]; rfl)
  go_simp
  refine (sfilled_is R fitAll p.most hm (fun j e => Nat.lt_of_lt_of_le (HKs.out j e) HB5.out.size) (calmJ false (R.keep HS1.out.1 (fun j _ hl => HB5.out.block j hl) HB5.out.size) (fun j e => Nat.lt_of_lt_of_le (HS1.out.2.1 j e) HB5.out.size)) HQ.out).mono ?_; rintro _ w7 ⟨u, rfl, hG⟩
  have HG7 := hide (gstep_over HBl.out.2.1 HS1.out.2.2.1 HS1.out.2.2.2 HB5.out (fun _ e => e.elim) hG)
  clear hG
  refine hK.out _ _ ((rp_keep HBl.out.2.2.1 HO.out HBl.out.2.2.2 HG7.out.2).cs) (fun hHeld2 => ?_)
  clear hK K' hHeld
  have hHeld := hHeld2
  clear hHeld2
  try simp only [Act.put, List.setIfInBounds_toArray, List.set_cons_zero, List.set_cons_succ]
  refine wpAnyH_take (i := 4) (oi := ?_) (v := ?_) ?_ (by kernel_rfl) (by kernel_rfl) (by kernel_rfl) (fun _ _ _ h => (h : False).elim) (Or.inl ⟨?_, ?_⟩) hHeld ?_
  rotate_left 2
  · (simp only [List.getElem?_toArray, List.getElem?_cons_zero, List.getElem?_cons_succ]; rfl)
  · rfl
  · (intro W hSw; obtain ⟨m0, m1, m2, m3, m4, m5⟩ := hSw; go_simp <;> with_reducible rfl)
  try simp only [Act.put, List.setIfInBounds_toArray, List.set_cons_zero, List.set_cons_succ]
  refine wpAnyH_take (i := 5) (oi := ?_) (v := ?_) ?_ (by kernel_rfl) (by kernel_rfl) (by kernel_rfl) (fun _ _ _ h => (h : False).elim) (Or.inl ⟨?_, ?_⟩) hHeld ?_
  rotate_left 2
  · (simp only [List.getElem?_toArray, List.getElem?_cons_zero, List.getElem?_cons_succ]; rfl)
  · rfl
  · (intro W hSw; obtain ⟨m0, m1, m2, m3, m4, m5⟩ := hSw; go_simp <;> with_reducible rfl)
  try simp only [Act.put, List.setIfInBounds_toArray, List.set_cons_zero, List.set_cons_succ]
  refine wpAnyH_take (i := 6) (oi := ?_) (v := ?_) ?_ (by kernel_rfl) (by kernel_rfl) (by kernel_rfl) (fun _ _ _ h => (h : False).elim) (Or.inl ⟨?_, ?_⟩) hHeld ?_
  rotate_left 2
  · (simp only [List.getElem?_toArray, List.getElem?_cons_zero, List.getElem?_cons_succ]; rfl)
  · rfl
  · (intro W hSw; obtain ⟨m0, m1, m2, m3, m4, m5⟩ := hSw; go_simp <;> with_reducible rfl)
  try simp only [Act.put, List.setIfInBounds_toArray, List.set_cons_zero, List.set_cons_succ]
  refine wpAnyH_take (i := 7) (oi := ?_) (v := ?_) ?_ (by kernel_rfl) (by kernel_rfl) (by kernel_rfl) (fun _ _ _ h => (h : False).elim) (Or.inl ⟨?_, ?_⟩) hHeld ?_
  rotate_left 2
  · (simp only [List.getElem?_toArray, List.getElem?_cons_zero, List.getElem?_cons_succ]; rfl)
  · rfl
  · (intro W hSw; obtain ⟨m0, m1, m2, m3, m4, m5⟩ := hSw; go_simp <;> with_reducible rfl)
  try simp only [Act.put, List.setIfInBounds_toArray, List.set_cons_zero, List.set_cons_succ]
  refine wpAnyH_take (i := 8) (oi := ?_) (v := ?_) ?_ (by kernel_rfl) (by kernel_rfl) (by kernel_rfl) (fun _ _ _ h => (h : False).elim) (Or.inl ⟨?_, ?_⟩) hHeld ?_
  rotate_left 2
  · (simp only [List.getElem?_toArray, List.getElem?_cons_zero, List.getElem?_cons_succ]; rfl)
  · rfl
  · (intro W hSw; obtain ⟨m0, m1, m2, m3, m4, m5⟩ := hSw; go_simp <;> with_reducible rfl)
  try simp only [Act.put, List.setIfInBounds_toArray, List.set_cons_zero, List.set_cons_succ]
  refine wpAnyH_done (by kernel_rfl) ?_ _
  refine NoPanic.normal ?_
  obtain ⟨O7, hO7⟩ := HG7.out.1
  have HO7 := hide hO7
  have HB7 := hide (rp_keep HW.out.2.1 HO.out HW.out.2.2.1 HG7.out.2)
  have HA7 := hide (arg_keep HW.out.2.1 HO.out HW.out.2.2.2 HG7.out.2)
  have HFin := hide (fun (W : World) (hB : Below w7.heap.size w7 W) (a b c d : Value) => fin_set R HW.out.1 HW.out.2.1 HO.out HK0.out (R.keep HO7.out.1 (fun j _ hl => hB.block j hl) hB.size) (fun j e => Nat.lt_of_lt_of_le (HO7.out.2.1 j e) hB.size) HO7.out.2.2.1 (HG7.out.2.trans (Turned.of_below (S := fun _ => False) hB) (fun _ _ e => e.elim)) a b c d)
  have HY7 := hide HO7.out.2.2.2
  obtain ⟨ua, uc, hu, -⟩ := bys_form HY7.out
  subst hu
  clear hO7 HG7 HO7 HS1 HBl HB5 HKs hHeld
  obtain ⟨y0, y1, y2, y3, y4, y5⟩ := HB7.out.cs
  by_cases h1 : e ≠ 0
  · have hre := HRe.out
    rw [if_pos h1] at hre
    subst hre
    have g1 : (e != 0) = true := by simp [h1]
    have k0 := HA7.out.ah.c0
    have k1 := HA7.out.ah.c1
    have k2 := HA7.out.ah.c2
    have k3 := HA7.out.ah.c3
    have f0 := HA7.out.soft
    go_wp2
    refine bodyPost_ret (res_agp rfl _ (w.heap.size + 1 + 1) rfl (HA7.out.fill 0 0 0 ByteArray.empty)) rfl ?_
    exact ⟨rfl, HFin.out _ (Below.refl _ _) _ _ _ _⟩
  · have hre := HRe.out
    rw [if_neg h1] at hre
    have h1 : e = 0 := by
      by_cases h2 : e = 0
      · exact h2
      · exact absurd h2 h1
    subst h1
    by_cases hw : p.wd = 0
    · rw [if_pos hw] at hre
      obtain ⟨ch, hch⟩ : ∃ ch, l.getD 0 0 = ch := ⟨_, rfl⟩
      rw [hch] at hre
      subst hre
      have hl1 := HLen.out rfl hw
      rw [hw] at y4
      obtain ⟨-, qb, qo, rfl, hqb, hc⟩ := bys_block HY7.out (by omega)
      have hc0 := hc 0 (by omega)
      rw [Nat.add_zero, hch] at hc0
      have e3 : (0 : Int) < (l.length : Int) := by omega
      have e3' : 0 < l.length := by omega
      clear hch
      have HBy := hide (fun W => fbyte_any (ch.toNat : Int) (by omega) (by have := UInt8.toNat_lt ch; omega) W)
      clear hc hw HRe HLen
      go_wp2_with fail
      refine (HBy.out _).mono ?_
      rintro _ w8 ⟨rfl, hB8⟩
      have hA8 := HA7.out.below hB8
      have HA8 := hide hA8
      have HB8 := hide hB8
      have k0 := hA8.ah.c0
      have k1 := hA8.ah.c1
      have k2 := hA8.ah.c2
      have k3 := hA8.ah.c3
      have f0 := hA8.soft
      clear hA8 hB8 y0 y1 y2 y3 y4 y5
      unfold agV
      go_wp2
      refine bodyPost_ret (res_agp rfl _ (w.heap.size + 1 + 1) rfl (HA8.out.fill 3 0 (ch.toNat : Int) ⟨#[]⟩)) rfl ?_
      exact ⟨rfl, HFin.out _ HB8.out _ _ _ _⟩
    · rw [if_neg hw] at hre
      subst hre
      have g4 : ((p.wd : Int) == 0) = false := by simp [hw]
      have hstr := sbys_string HY7.out
      clear hw HRe HLen
      go_wp2_with fail
      refine (ftext_any _ _).mono ?_
      rintro _ w8 ⟨rfl, hB8⟩
      have hA8 := HA7.out.below hB8
      have HA8 := hide hA8
      have HB8 := hide hB8
      have k0 := hA8.ah.c0
      have k1 := hA8.ah.c1
      have k2 := hA8.ah.c2
      have k3 := hA8.ah.c3
      have f0 := hA8.soft
      clear hA8 hB8 y0 y1 y2 y3 y4 y5
      unfold agV
      go_wp2
      refine bodyPost_ret (res_agp rfl _ (w.heap.size + 1 + 1) rfl (HA8.out.fill 4 0 0 ⟨l.toArray⟩)) rfl ?_
      exact ⟨rfl, HFin.out _ HB8.out _ _ _ _⟩
end Go.Proofs.YtcmfpafcipgejaaDoor

/- Scan: a part of a pattern is read. -/
namespace Go.Proofs.YtcmfpafcipgejaaDoor
open Go.RowKit
def Left {S : Type} (At : World → (Nat → Prop) → S → Prop) (w : World) (O : Nat → Prop) (s : S) (W : World) : Prop := ArgB W (w.heap.size + 1 + 1) ag0 ∧ ∀ W', Below W.heap.size W W' → ∀ a b c d, SStep At none_ w O s ((((W'.setCell ⟨w.heap.size + 1 + 1, 0, none⟩ a).setCell ⟨w.heap.size + 1 + 1, 1, none⟩ b).setCell ⟨w.heap.size + 1 + 1, 2, none⟩ c).setCell ⟨w.heap.size + 1 + 1, 3, none⟩ d)
theorem left_of {S : Type} {D : SrcD S} {T : TypeId} {v : Value} {fn fb : FuncId} {K : Nat → Prop} {At : World → (Nat → Prop) → S → Prop} (R : SrcM D T v fn fb K At) {w w0 W : World} {O : Nat → Prop} {s2 : S} (hB0 : Below w.heap.size w w0) (hz : w0.heap.size = w.heap.size + 1 + 1 + 1) (hA0 : ArgB w0 (w.heap.size + 1 + 1) ag0) (hO : ∀ j, O j → j < w.heap.size) (hK : ∀ j, K j → j < w.heap.size) (h : ∃ O2, At W O2 s2 ∧ (∀ j, O2 j → j < W.heap.size) ∧ (∀ k, O2 k → O k ∨ w0.heap.size ≤ k)) (hT : Turned (fun k => O k ∨ w0.heap.size ≤ k) w0 W) : Left At w O s2 W := by
  obtain ⟨O2, h1, h2, h3⟩ := h
  exact ⟨arg_keep hz hO hA0 hT, fun W' hB a b c d => fin_set R hB0 hz hO hK (R.keep h1 (fun j _ hl => hB.block j hl) hB.size) (fun j e => Nat.lt_of_lt_of_le (h2 j e) hB.size) h3 (hT.trans (Turned.of_below (S := fun _ => False) hB) (fun _ _ e => e.elim)) a b c d⟩
theorem left_step {S : Type} {D : SrcD S} {T : TypeId} {v : Value} {fn fb : FuncId} {K : Nat → Prop} {At : World → (Nat → Prop) → S → Prop} (R : SrcM D T v fn fb K At) {w w0 W : World} {O : Nat → Prop} {s2 : S} (hB0 : Below w.heap.size w w0) (hz : w0.heap.size = w.heap.size + 1 + 1 + 1) (hA0 : ArgB w0 (w.heap.size + 1 + 1) ag0) (hO : ∀ j, O j → j < w.heap.size) (hK : ∀ j, K j → j < w.heap.size) (h : SStep At none_ w0 O s2 W) : Left At w O s2 W := by
  obtain ⟨O2, h1, h2, h3, h4⟩ := sstep_over h
  exact left_of R hB0 hz hA0 hO hK ⟨O2, h1, h2, h3⟩ h4
theorem left_gath {S : Type} {D : SrcD S} {T : TypeId} {v : Value} {fn fb : FuncId} {K : Nat → Prop} {At : World → (Nat → Prop) → S → Prop} (R : SrcM D T v fn fb K At) {w w0 W : World} {O : Nat → Prop} {s2 : S} {u : Value} {l : List UInt8} (hB0 : Below w.heap.size w w0) (hz : w0.heap.size = w.heap.size + 1 + 1 + 1) (hA0 : ArgB w0 (w.heap.size + 1 + 1) ag0) (hO : ∀ j, O j → j < w.heap.size) (hK : ∀ j, K j → j < w.heap.size) (h : GStep At none_ w0 O s2 u l W) : Left At w O s2 W := by
  obtain ⟨⟨O2, h1, h2, h3, _⟩, h4⟩ := gstep_over (w0 := w0) (w1 := w0) (O := O) (Nat.le_refl _) (fun k e => .inl e) (Turned.refl _ _) (Below.refl _ _) (fun _ e => e.elim) h
  exact left_of R hB0 hz hA0 hO hK ⟨O2, h1, h2, h3⟩ h4
theorem partV_other {S : Type} (D : SrcD S) (N : Nat) (p : Pt) (s : S) (h1 : p.verb.toNat ≠ 32) (h2 : p.verb.toNat ≠ 37) (h3 : p.verb.toNat ≠ 99) {e0 : Int} {s1 : S} (h : passV D N s = some (e0, s1)) : partV D N p s = some (if e0 ≠ 0 then ((ag0, e0), s1) else wordV D p s1) := by
  unfold partV
  rw [if_neg h1, if_neg h2, if_neg h3, h]
theorem partV_c {S : Type} (D : SrcD S) (N : Nat) (p : Pt) (s : S) (h3 : p.verb.toNat = 99) : partV D N p s = some (bytV D p s) := by
  unfold partV bytV
  rw [if_neg (by omega), if_neg (by omega), if_pos h3]
set_option maxRecDepth 100000 in
set_option maxHeartbeats 8000000 in
theorem part_any {S : Type} {D : SrcD S} {T : TypeId} {v : Value} {fn fb : FuncId} {K : Nat → Prop} {At : World → (Nat → Prop) → S → Prop} (R : SrcM D T v fn fb K At) {w : World} {O : Nat → Prop} {s : S} (p : Pt) (N : Nat) {A : Ag} {e : Int} {s' : S} (hK : ∀ j, K j → j < w.heap.size) (h : At w O s) (hO : ∀ j, O j → j < w.heap.size) (hp : partV D N p s = some ((A, e), s')) (hm : p.most ≤ 4096) :
    Calls Tryd.prog 11 #[.agg #[.iface T v], ptV p] w fun x w' => x = .returned (pairV (A, e)) ∧ SStep At none_ w O s' w' := by
  obtain ⟨t1, t2, t3, t4, t5⟩ := tri w (Obj.cells #[.iface T v] 43) (Obj.cells #[.int .u8 (p.verb.toNat : Int), .int .u8 (p.want.toNat : Int), .bool p.quiet, .int .i64 (p.wd : Int), .int .i64 (p.len : Int)] 46) (Obj.cells #[.int .i64 0, .int .i64 0, .int .u64 0, .string (⟨#[]⟩ : ByteArray)] 31)
  have hRP : RPb (((w.alloc (Obj.cells #[.iface T v] 43)).alloc (Obj.cells #[.int .u8 (p.verb.toNat : Int), .int .u8 (p.want.toNat : Int), .bool p.quiet, .int .i64 (p.wd : Int), .int .i64 (p.len : Int)] 46)).alloc (Obj.cells #[.int .i64 0, .int .i64 0, .int .u64 0, .string (⟨#[]⟩ : ByteArray)] 31)) w.heap.size T v p := ⟨t3, t4⟩
  have hA0 : ArgB (((w.alloc (Obj.cells #[.iface T v] 43)).alloc (Obj.cells #[.int .u8 (p.verb.toNat : Int), .int .u8 (p.want.toNat : Int), .bool p.quiet, .int .i64 (p.wd : Int), .int .i64 (p.len : Int)] 46)).alloc (Obj.cells #[.int .i64 0, .int .i64 0, .int .u64 0, .string (⟨#[]⟩ : ByteArray)] 31)) (w.heap.size + 1 + 1) ag0 := t5
  have hAt := R.keep h (fun j _ hl => t1.block j hl) t1.size
  have hO0 : ∀ j, O j → j < (((w.alloc (Obj.cells #[.iface T v] 43)).alloc (Obj.cells #[.int .u8 (p.verb.toNat : Int), .int .u8 (p.want.toNat : Int), .bool p.quiet, .int .i64 (p.wd : Int), .int .i64 (p.len : Int)] 46)).alloc (Obj.cells #[.int .i64 0, .int .i64 0, .int .u64 0, .string (⟨#[]⟩ : ByteArray)] 31)).heap.size := fun j e => Nat.lt_of_lt_of_le (hO j e) t1.size
  have hK0 : ∀ j, K j → j < (((w.alloc (Obj.cells #[.iface T v] 43)).alloc (Obj.cells #[.int .u8 (p.verb.toNat : Int), .int .u8 (p.want.toNat : Int), .bool p.quiet, .int .i64 (p.wd : Int), .int .i64 (p.len : Int)] 46)).alloc (Obj.cells #[.int .i64 0, .int .i64 0, .int .u64 0, .string (⟨#[]⟩ : ByteArray)] 31)).heap.size := fun j e => Nat.lt_of_lt_of_le (hK j e) t1.size
  have HLs := hide (fun W (s2 : S) (h : SStep At none_ (((w.alloc (Obj.cells #[.iface T v] 43)).alloc (Obj.cells #[.int .u8 (p.verb.toNat : Int), .int .u8 (p.want.toNat : Int), .bool p.quiet, .int .i64 (p.wd : Int), .int .i64 (p.len : Int)] 46)).alloc (Obj.cells #[.int .i64 0, .int .i64 0, .int .u64 0, .string (⟨#[]⟩ : ByteArray)] 31)) O s2 W) => left_step R t1 t2 hA0 hO hK h)
  have HLg := hide (fun W (s2 : S) (u : Value) (l : List UInt8) (h : GStep At none_ (((w.alloc (Obj.cells #[.iface T v] 43)).alloc (Obj.cells #[.int .u8 (p.verb.toNat : Int), .int .u8 (p.want.toNat : Int), .bool p.quiet, .int .i64 (p.wd : Int), .int .i64 (p.len : Int)] 46)).alloc (Obj.cells #[.int .i64 0, .int .i64 0, .int .u64 0, .string (⟨#[]⟩ : ByteArray)] 31)) O s2 u l W) => left_gath R t1 t2 hA0 hO hK h)
  have HOw := hide hO
  have HW0 := hide (And.intro hAt (And.intro hO0 hK0))
  clear h hK hO hA0 hAt hO0 hK0 t1 t2 t3 t4 t5
  obtain ⟨y0, y1, y2, y3, y4, y5⟩ := hRP.cs
  have HRP := hide hRP
  clear hRP
  by_cases h1 : p.verb.toNat = 32
  · obtain ⟨⟨e0, s1⟩, hps, hr⟩ : ∃ r, passV D N s = some r ∧ (((ag0, if r.1 = 111 then 0 else r.1), r.2) : (Ag × Int) × S) = ((A, e), s') := by
      unfold partV at hp
      rw [if_pos h1] at hp
      cases hq : passV D N s with
      | none => rw [hq] at hp; cases hp
      | some r => rw [hq] at hp; exact ⟨r, rfl, Option.some.inj hp⟩
    have HX := hide (spass_any R N HW0.out.1 HW0.out.2.1 hps)
    have v1 : ((p.verb.toNat : Int) == 32) = true := by simp; omega
    simp only at hr
    obtain ⟨rfl, he, rfl⟩ : ag0 = A ∧ (if e0 = 111 then 0 else e0) = e ∧ s1 = s' := by cases hr; exact ⟨rfl, rfl, rfl⟩
    unfold ptV
    clear hp hps hr h1 HLg HW0
    by_cases h2 : e0 = 111
    · rw [if_pos h2] at he
      subst h2 he
      go_enter Tryd.func11, Tryd.ntmps11
      go_wp2_with fail
      refine HX.out.mono ?_
      rintro _ w1 ⟨rfl, hS⟩
      obtain ⟨hA1, hF1⟩ := HLs.out _ _ hS
      have HA1 := hide hA1
      have HF1 := hide hF1
      have k0 := hA1.ah.c0
      have k1 := hA1.ah.c1
      have k2 := hA1.ah.c2
      have k3 := hA1.ah.c3
      have f0 := hA1.soft
      clear hA1
      clear hS hF1 HX HLs y0 y1 y2 y3 y4 y5
      go_wp2
      refine bodyPost_ret (res_agp rfl _ (w.heap.size + 1 + 1) rfl (HA1.out.fill 0 0 0 ByteArray.empty)) rfl ?_
      exact ⟨rfl, HF1.out _ (Below.refl _ _) _ _ _ _⟩
    · rw [if_neg h2] at he
      subst he
      have g2 : (e0 == 111) = false := by simp [h2]
      go_enter Tryd.func11, Tryd.ntmps11
      go_wp2_with fail
      refine HX.out.mono ?_
      rintro _ w1 ⟨rfl, hS⟩
      obtain ⟨hA1, hF1⟩ := HLs.out _ _ hS
      have HA1 := hide hA1
      have HF1 := hide hF1
      have k0 := hA1.ah.c0
      have k1 := hA1.ah.c1
      have k2 := hA1.ah.c2
      have k3 := hA1.ah.c3
      have f0 := hA1.soft
      clear hA1
      clear hS hF1 HX HLs y0 y1 y2 y3 y4 y5
      go_wp2
      refine bodyPost_ret (res_agp rfl _ (w.heap.size + 1 + 1) rfl (HA1.out.fill 0 0 0 ByteArray.empty)) rfl ?_
      exact ⟨rfl, HF1.out _ (Below.refl _ _) _ _ _ _⟩
  have v1 : ((p.verb.toNat : Int) == 32) = false := by simp; omega
  by_cases h2 : p.verb.toNat = 37
  · have v2 : ((p.verb.toNat : Int) == 37) = true := by simp; omega
    obtain ⟨l, e0, s2, hQ⟩ : ∃ l e0 s2, filV D (fIs p.want) 1 s = ((l, e0), s2) := ⟨_, _, _, rfl⟩
    obtain ⟨rfl, rfl, rfl⟩ : ag0 = A ∧ e0 = e ∧ s2 = s' := by
      unfold partV at hp
      rw [if_neg h1, if_pos h2, hQ] at hp
      cases hp
      exact ⟨rfl, rfl, rfl⟩
    have HX := hide (sfilled_is R (fitIs p.want (w.heap.size + 1)) 1 (by decide) HW0.out.2.2 (⟨HW0.out.1, y2, fun _ e => e.elim, fun j e => ⟨by rw [e]; exact (Array.getElem?_eq_some_iff.1 HRP.out.b1).1, fun e2 => by rw [e] at e2; have := HOw.out _ e2; omega⟩, fun _ _ e => e, HW0.out.2.1⟩ : JAt At K _ none_ (fun j => j = w.heap.size + 1) _ O s false) hQ)
    unfold ptV
    clear hp hQ h1 h2 HLs HW0
    go_enter Tryd.func11, Tryd.ntmps11
    go_wp2_with fail
    refine HX.out.mono ?_
    rintro _ w1 ⟨u, rfl, hG⟩
    obtain ⟨hA1, hF1⟩ := HLg.out _ _ _ _ hG
    have HA1 := hide hA1
    have HF1 := hide hF1
    have k0 := hA1.ah.c0
    have k1 := hA1.ah.c1
    have k2 := hA1.ah.c2
    have k3 := hA1.ah.c3
    have f0 := hA1.soft
    clear hA1
    obtain ⟨ua, uc, rfl⟩ := owns_slice hG.choose_spec.2.1
    clear hG hF1 HX HLg y0 y1 y2 y3 y4 y5
    go_wp2
    refine bodyPost_ret (res_agp rfl _ (w.heap.size + 1 + 1) rfl (HA1.out.fill 0 0 0 ByteArray.empty)) rfl ?_
    exact ⟨rfl, HF1.out _ (Below.refl _ _) _ _ _ _⟩
  have v2 : ((p.verb.toNat : Int) == 37) = false := by simp; omega
  by_cases h3 : p.verb.toNat = 99
  · have v3 : ((p.verb.toNat : Int) == 99) = true := by simp; omega
    rw [partV_c D N p s h3] at hp
    have HX := hide (bytes_any R p h3 HW0.out.2.2 HW0.out.1 HW0.out.2.1 hm)
    rw [Option.some.inj hp] at HX
    clear hp h1 h2 h3 HLg HW0
    unfold ptV at HX ⊢
    go_enter Tryd.func11, Tryd.ntmps11
    go_wp2_with fail
    refine HX.out.mono ?_
    rintro _ w1 ⟨rfl, hS⟩
    obtain ⟨hA1, hF1⟩ := HLs.out _ _ hS
    have HA1 := hide hA1
    have HF1 := hide hF1
    have k0 := hA1.ah.c0
    have k1 := hA1.ah.c1
    have k2 := hA1.ah.c2
    have k3 := hA1.ah.c3
    have f0 := hA1.soft
    clear hA1
    obtain ⟨ka, ia, ua, ta⟩ := A
    clear hS hF1 HX HLs y0 y1 y2 y3 y4 y5
    unfold pairV agV
    go_wp2
    refine bodyPost_ret (res_agp rfl _ (w.heap.size + 1 + 1) rfl (HA1.out.fill ka ia ua ta)) rfl ?_
    exact ⟨rfl, HF1.out _ (Below.refl _ _) _ _ _ _⟩
  · have v3 : ((p.verb.toNat : Int) == 99) = false := by simp; omega
    obtain ⟨⟨e0, s1⟩, hps⟩ : ∃ r, passV D N s = some r := by
      unfold partV at hp
      rw [if_neg h1, if_neg h2, if_neg h3] at hp
      cases hq : passV D N s with
      | none => rw [hq] at hp; cases hp
      | some r => exact ⟨r, rfl⟩
    rw [partV_other D N p s h1 h2 h3 hps] at hp
    have HX := hide (word_any R p N HW0.out.2.2 HW0.out.1 HW0.out.2.1 hps hm)
    rw [Option.some.inj hp] at HX
    clear hp hps h1 h2 h3 HLg HW0
    unfold ptV at HX ⊢
    go_enter Tryd.func11, Tryd.ntmps11
    go_wp2_with fail
    refine HX.out.mono ?_
    rintro _ w1 ⟨rfl, hS⟩
    obtain ⟨hA1, hF1⟩ := HLs.out _ _ hS
    have HA1 := hide hA1
    have HF1 := hide hF1
    have k0 := hA1.ah.c0
    have k1 := hA1.ah.c1
    have k2 := hA1.ah.c2
    have k3 := hA1.ah.c3
    have f0 := hA1.soft
    clear hA1
    obtain ⟨ka, ia, ua, ta⟩ := A
    clear hS hF1 HX HLs y0 y1 y2 y3 y4 y5
    unfold pairV agV
    go_wp2
    refine bodyPost_ret (res_agp rfl _ (w.heap.size + 1 + 1) rfl (HA1.out.fill ka ia ua ta)) rfl ?_
    exact ⟨rfl, HF1.out _ (Below.refl _ _) _ _ _ _⟩
end Go.Proofs.YtcmfpafcipgejaaDoor

/- Scan: the width that a directive has. -/
namespace Go.Proofs.YtcmfpafcipgejaaDoor
open Go.RowKit
theorem width_ok (l : List UInt8) (r : Nat) (hr : run10 l = r) (h0 : 0 < r) (c : UInt8) (hc : l[0]? = some c) : (((parseB 10 (l.take r)).2.1 == 0) && (((c.toNat : Int) != 48) && decide ((parseB 10 (l.take r)).1 ≤ 4096))) = (numS l).isSome ∧ ∀ m k, numS l = some (m, k) → (parseB 10 (l.take r)).1 = (m : Int) ∧ m ≤ 4096 ∧ k = r := by
  have hall : Dgs (l.take r) := by rw [← hr]; exact run10_all l
  have hrl : r ≤ l.length := by rw [← hr]; exact run10_len l
  have hl : (l.take r).length = r := by rw [List.length_take]; omega
  have hne : l.take r ≠ [] := fun e => by rw [e] at hl; simp at hl; omega
  have hp : parseB 10 (l.take r) = pb 10 (l.take r) 0 0 := parseB_yes _ _ (by decide) (by decide) hne
  have hv := pb_val (l.take r) hall 0 0
  rw [show ((0 : Nat) : Int) = 0 from rfl] at hv
  have hget : l.getD 0 0 = c := by rw [List.getD_eq_getElem?_getD, hc]; rfl
  have hns : numS l = if 4 < r ∨ 4096 < val10 (l.take r) 0 ∨ c.toNat = 48 then none else some (val10 (l.take r) 0, r) := by
    unfold numS
    rw [hr, if_neg (by omega), hget]
  obtain ⟨d, t, hdt⟩ : ∃ d t, l.take r = d :: t := by
    cases hq : l.take r with
    | nil => exact absurd hq hne
    | cons d t => exact ⟨d, t, rfl⟩
  have hdc : d = c := by
    have : (l.take r)[0]? = some c := by rw [List.getElem?_take_of_lt h0]; exact hc
    rw [hdt] at this
    exact Option.some.inj this
  subst hdc
  have hdd := hall d (by rw [hdt]; exact List.mem_cons_self ..)
  have hlow : d.toNat ≠ 48 → 10 ^ (r - 1) ≤ val10 (l.take r) 0 := fun h48 => by
    rw [hdt]
    show 10 ^ (r - 1) ≤ val10 t (0 * 10 + (d.toNat - 48))
    rw [val10_add]
    have ht : t.length = r - 1 := by rw [hdt] at hl; simp at hl; omega
    have : 1 * 10 ^ t.length ≤ (0 * 10 + (d.toNat - 48)) * 10 ^ t.length := Nat.mul_le_mul_right _ (by omega)
    rw [← ht]
    omega
  rw [hns]
  have hb48 : ((d.toNat : Int) != 48) = decide (d.toNat ≠ 48) := by
    rw [Bool.eq_iff_iff, bne_iff_ne, decide_eq_true_iff]; omega
  rw [hb48]
  by_cases h4 : r ≤ 4
  · have h4v := val10_pb (l.take r) 0 0 hall (by rw [hl, Nat.zero_add, Nat.one_mul]; exact Nat.le_trans (Nat.pow_le_pow_right (by decide) h4) (by decide))
    rw [show ((0 : Nat) : Int) = 0 from rfl] at h4v
    rw [hp, h4v]
    generalize val10 (l.take r) 0 = V at *
    by_cases hn : 4096 < V ∨ d.toNat = 48
    · rw [if_pos (.inr hn)]
      refine ⟨?_, fun m k e => by cases e⟩
      rcases hn with hn | hn
      · rw [show decide ((V : Int) ≤ 4096) = false from decide_eq_false (by omega)]; simp
      · rw [show decide (d.toNat ≠ 48) = false from decide_eq_false (by simp [hn])]; simp
    · have hn1 : ¬ 4096 < V := fun e => hn (.inl e)
      have hn2 : ¬ d.toNat = 48 := fun e => hn (.inr e)
      rw [if_neg (by omega)]
      refine ⟨?_, fun m k e => by cases e; exact ⟨rfl, by omega, rfl⟩⟩
      rw [show decide ((V : Int) ≤ 4096) = true from decide_eq_true (by omega), show decide (d.toNat ≠ 48) = true from decide_eq_true hn2]
      rfl
  · rw [if_pos (.inl (by omega))]
    refine ⟨?_, fun m k e => by cases e⟩
    by_cases he : (parseB 10 (l.take r)).2.1 = 0
    · by_cases h48 : d.toNat = 48
      · rw [show decide (d.toNat ≠ 48) = false from decide_eq_false (by simp [h48])]; simp
      · have h1 := hlow h48
        have h2 : 10 ^ 4 ≤ 10 ^ (r - 1) := Nat.pow_le_pow_right (by decide) (by omega)
        rw [hp] at he ⊢
        rw [hv he, show decide (((val10 (l.take r) 0 : Nat) : Int) ≤ 4096) = false from decide_eq_false (by omega)]
        simp
    · rw [show ((parseB 10 (l.take r)).2.1 == 0) = false by simp [he]]
      rfl
def WidthR (l : List UInt8) (a : Nat) (e : Ending) : Prop := ∃ n : Int, e = .returned (.tuple #[.int .i64 n, .int .i64 ((a + run10 l : Nat) : Int), .bool (numS l).isSome]) ∧ ∀ m k, numS l = some (m, k) → n = (m : Int) ∧ m ≤ 4096 ∧ k = run10 l
theorem width_r {l : List UInt8} {a r : Nat} (hr : run10 l = r) {v1 v2 v3 : Value} (n : Int) (h1 : v1 = .int .i64 n) (h2 : v2 = .int .i64 ((a + r : Nat) : Int)) (h3 : v3 = .bool (numS l).isSome) (h : ∀ m k, numS l = some (m, k) → n = (m : Int) ∧ m ≤ 4096 ∧ k = r) : WidthR l a (.returned (.tuple #[v1, v2, v3])) := by
  subst hr
  exact ⟨n, ret3' h1 h2 h3, h⟩
set_option maxRecDepth 100000 in
set_option maxHeartbeats 4000000 in
theorem widthAt_any (s : ByteArray) (a : Nat) (w : World) (hs : s.size ≤ maxLen) (ha : a ≤ s.size) :
    Calls Tryd.prog 18 #[.string s, .int .i64 (a : Int)] w fun e w' => WidthR (s.data.toList.drop a) a e ∧ Below w.heap.size w w' := by
  have hsm := hs
  unfold maxLen at hs
  obtain ⟨r, hr⟩ : ∃ r, run10 (s.data.toList.drop a) = r := ⟨_, rfl⟩
  have hrl := run10_len (s.data.toList.drop a)
  rw [drop_len, hr] at hrl
  have hsz : s.data.toList.length = s.size := by rw [Array.length_toList]; rfl
  rw [hsz] at hrl
  have har : a + r ≤ s.size := by omega
  have hx := ext_list s a (a + r)
  rw [show a + r - a = r by omega] at hx
  have hxs : (s.extract a (a + r)).size ≤ maxLen := by rw [ext_size s a _ har]; omega
  have HPB := hide (fun W => parseBase_any (s.extract a (a + r)) 10 W hxs)
  rw [hx] at HPB
  have HRUN : Hid (run10 (s.data.toList.drop a) + a = r + a) := by rw [hr]; rfl
  have HWD := hide (fun (h0 : 0 < r) (c : UInt8) (hc : (s.data.toList.drop a)[0]? = some c) => width_ok _ r hr h0 c hc)
  have HZ0 : Hid (r = 0 → numS (s.data.toList.drop a) = some (0, 0)) := hide (fun h => by unfold numS; rw [hr, if_pos h])
  have HB0 := hide (fm_below w (Obj.cells #[.int .i64 10] 3))
  have HC0 := hide (cell_of_row (w.alloc (Obj.cells #[.int .i64 10] 3)) w.heap.size 0 _ _ _ (heap_alloc_new w (Obj.cells #[.int .i64 10] 3)))
  have HRr := hide hr
  generalize parseB 10 ((s.data.toList.drop a).take r) = P at *
  clear hx hr hsz
  go_enter Tryd.func18, Tryd.ntmps18
  go_wp2_with fail
  refine (digits_any 10 _).mono ?_
  rintro _ _ ⟨rfl, rfl⟩
  go_wp2_with fail
  generalize w.alloc (Obj.cells #[.int .i64 10] 3) = w0 at *
  go_loopw [1] (fun i wr => ∃ (k : Nat), a ≤ k ∧ k ≤ s.size ∧ i = .int .i64 k ∧ Hid (run10 (s.data.toList.drop k) + k = r + a) ∧ Hid (Below w0.heap.size w0 wr)) (fun i _ => s.size - (intOf i).toNat)
  case atStart => exact ⟨a, Nat.le_refl _, ha, rfl, HRUN, hide (Below.refl _ _)⟩
  case round =>
    clear HRUN
    obtain ⟨k, hak, hk, rfl, HP, HBw⟩ := hrel
    have c1 := (HBw.out.cell (p := ⟨w.heap.size, 0, none⟩) (World.block_lt_of_cell? _ _ HC0.out)).trans HC0.out
    simp only [List.getElem?_toArray, List.getElem?_cons_zero] at c1
    have HD := hide (fun (ch : UInt8) => digits1_any 10 (by decide) (by decide) ch w.heap.size wr c1)
    clear c1
    have key : (k < s.size ∧ ∃ c : UInt8, Hid (s[k]? = some c) ∧ digB 10 c = true ∧ Hid (run10 (s.data.toList.drop (k + 1)) + (k + 1) = r + a)) ∨ (Hid (k = a + r) ∧ (¬ ((k : Int) < (s.size : Int)) ∨ ∃ (hlt : k < s.size) (c : UInt8), Hid (s[k]? = some c) ∧ digB 10 c = false)) := by
      by_cases hlt : k < s.size
      · have hd := drop_at s k hlt
        have hp := HP.out
        rw [hd, run10_at] at hp
        by_cases hc : 48 ≤ s[k].toNat ∧ s[k].toNat ≤ 57
        · rw [if_pos hc] at hp
          exact .inl ⟨hlt, s[k], by rw [getElem?_pos s k hlt]; rfl, (dig10 _).2 hc, by show run10 (s.data.toList.drop (k + 1)) + (k + 1) = r + a; omega⟩
        · rw [if_neg hc] at hp
          refine .inr ⟨(by omega : k = a + r), .inr ⟨hlt, s[k], by rw [getElem?_pos s k hlt]; rfl, ?_⟩⟩
          cases hq : digB 10 s[k] with
          | false => rfl
          | true => exact absurd ((dig10 _).1 hq) hc
      · have hp := HP.out
        rw [drop_end s k (by omega)] at hp
        unfold run10 at hp
        exact .inr ⟨(by omega : k = a + r), .inl (by omega)⟩
    clear HP
    rcases key with ⟨hlt, c, hc, h1, HP⟩ | ⟨HK, hE⟩
    · have hc' : s[k] = c := by have := hc.out; rw [getElem?_pos s k hlt] at this; exact Option.some.inj this
      have HD2 := hide (HD.out s[k])
      rw [show digB 10 s[k] = _ from (congrArg (digB 10) hc').trans h1] at HD2
      clear hc hc' h1 HD
      go_wp2_with fail
      refine HD2.out.mono ?_
      rintro _ w2 ⟨rfl, hB⟩
      have HB2 := hide (HBw.out.trans (hB.mono HBw.out.size))
      clear hB HD2 HBw
      go_wp2_with fail
      go_roundw
      case rel => exact ⟨k + 1, by omega, by omega, by go_num, HP, HB2⟩
      case measure => simp [intOf]; omega
    · have hfin : ∀ w2, Below w0.heap.size w0 w2 → Below w.heap.size w w2 := fun w2 h => HB0.out.trans (h.mono HB0.out.size)
      have HFin := hide hfin
      have HPB2 := HPB
      rw [← HK.out] at HPB2
      clear HPB hfin
      by_cases h0 : r = 0
      · have hka : ((k : Int) == (a : Int)) = true := by have := HK.out; simp only [beq_iff_eq]; omega
        have HN0 := hide (HZ0.out h0)
        have hM : Hid (((a + r : Nat) : Int) = (k : Int)) := hide (by rw [HK.out])
        have hfw : ∀ v1 v2 v3 : Value, v1 = .int .i64 0 → v2 = .int .i64 (k : Int) → v3 = .bool true → WidthR (s.data.toList.drop a) a (.returned (.tuple #[v1, v2, v3])) := fun v1 v2 v3 h1 h2 h3 => width_r HRr.out 0 h1 (by rw [h2, hM.out]) (by rw [h3, HN0.out]; rfl) (fun m k e => by rw [HN0.out] at e; cases e; exact ⟨rfl, by omega, h0.symm⟩)
        have HFw := hide hfw
        clear hfw HN0 hM
        rcases hE with hE | ⟨hlt, c, hc, h1⟩
        · clear HD
          go_wp2
          go_ret3
          exact ⟨HFw.out _ _ _ rfl rfl rfl, HFin.out _ HBw.out⟩
        · have hc' : s[k] = c := by have := hc.out; rw [getElem?_pos s k hlt] at this; exact Option.some.inj this
          have HD2 := hide (HD.out s[k])
          rw [show digB 10 s[k] = _ from (congrArg (digB 10) hc').trans h1] at HD2
          clear hc hc' h1 HD
          go_wp2_with fail
          refine HD2.out.mono ?_
          rintro _ w2 ⟨rfl, hB⟩
          have HB2 := hide (HBw.out.trans (hB.mono HBw.out.size))
          clear hB HD2 HBw
          go_wp2
          go_ret3
          exact ⟨HFw.out _ _ _ rfl rfl rfl, HFin.out _ HB2.out⟩
      · have hka : ((k : Int) == (a : Int)) = false := by have := HK.out; simp only [beq_eq_false_iff_ne, ne_eq]; omega
        have hlt0 : a < s.size := by omega
        have hw0 := HWD.out (by omega) s[a] (by rw [drop_at s a hlt0]; rfl)
        have hM : Hid (((a + r : Nat) : Int) = (k : Int)) := hide (by rw [HK.out])
        have hak' : (a : Int) ≤ (k : Int) := by omega
        obtain ⟨p1, p2, p3⟩ := P
        simp only at hw0 HPB2
        have hfw : ∀ (v1 v2 v3 : Value), v1 = .int .i64 (wrap64 p1) → v2 = .int .i64 (k : Int) → v3 = .bool (p2 == 0 && (((s[a].toNat : Int) != 48) && decide (p1 ≤ 4096))) → WidthR (s.data.toList.drop a) a (.returned (.tuple #[v1, v2, v3])) := fun v1 v2 v3 h1 h2 h3 => width_r HRr.out _ h1 (by rw [h2, hM.out]) (by rw [h3, hw0.1]) (fun m k e => by
          obtain ⟨g1, g2, g3⟩ := hw0.2 m k e
          exact ⟨by unfold wrap64; rw [g1]; omega, g2, g3⟩)
        have HFw := hide hfw
        have hlt0' : (a : Int) < (s.size : Int) := by omega
        have hcase : (p2 == 0) = false ∨ ((p2 == 0) = true ∧ ((s[a].toNat : Int) != 48) = false) ∨ ((p2 == 0) = true ∧ ((s[a].toNat : Int) != 48) = true) := by
          cases h1 : (p2 == 0) <;> cases h2 : ((s[a].toNat : Int) != 48) <;> simp
        clear hw0 HWD HZ0 hfw hM
        rcases hE with hE | ⟨hlt, c, hc, h1⟩
        · clear HD
          rcases hcase with g1 | ⟨g1, g2⟩ | ⟨g1, g2⟩
          all_goals
            go_wp2_with fail
            refine (HPB2.out _).mono ?_
            rintro _ _ ⟨rfl, rfl⟩
            go_wp2
            go_ret3
            exact ⟨HFw.out _ _ _ rfl rfl (by first | (rw [g1, g2]; rfl) | (rw [g1]; rfl)), HFin.out _ HBw.out⟩
        · have hc' : s[k] = c := by have := hc.out; rw [getElem?_pos s k hlt] at this; exact Option.some.inj this
          have HD2 := hide (HD.out s[k])
          rw [show digB 10 s[k] = _ from (congrArg (digB 10) hc').trans h1] at HD2
          clear hc hc' h1 HD
          rcases hcase with g1 | ⟨g1, g2⟩ | ⟨g1, g2⟩
          all_goals
            go_wp2_with fail
            refine HD2.out.mono ?_
            rintro _ w2 ⟨rfl, hB⟩
            have HB2 := hide (HBw.out.trans (hB.mono HBw.out.size))
            clear hB HBw
            go_wp2_with fail
            refine (HPB2.out _).mono ?_
            rintro _ _ ⟨rfl, rfl⟩
            go_wp2
            go_ret3
            exact ⟨HFw.out _ _ _ rfl rfl (by first | (rw [g1, g2]; rfl) | (rw [g1]; rfl)), HFin.out _ HB2.out⟩
end Go.Proofs.YtcmfpafcipgejaaDoor
