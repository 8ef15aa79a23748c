/- What the proof stands on, part 22: the contracts of the program's calls that it reaches. -/
import Derived.Test.YtejcfhjhjplcnaaGreatKM21
/- Slices of anything that came in as an argument: what a walk is told of them, and their sizes. -/
namespace Go.Proofs.YtejcfhjhjplcnaaGreat
open Go.ChangeShapes Go.WideShapes Go.ChangeAt Go.RowKit Go.Deep

def DatL {H : Type} {α : Type} (Dt : DataW H → α → Prop) (d : DataW H) (l : List α) : Prop := (d = .nil ∧ l = []) ∨ ∃ elems spare : List (DataW H), d = .slice elems spare ∧ l.length = elems.length ∧ ∀ i (hi : i < l.length), ∃ di, di ∈ elems ∧ Dt di l[i]
def RowsR {α : Type} (W : World) (k : Nat) (Rd : List Value → α → Prop) (v : Value) (l : List α) : Prop :=
  (v = .slice none 0 0 ∧ l = []) ∨ ∃ q cap, v = .slice (some q) l.length cap ∧ l.length ≤ cap ∧ (0 < l.length → ∃ b off, q = ⟨b, off, none⟩ ∧ ∀ j (hj : j < l.length), ∃ cs, Rd cs l[j] ∧ cs.length = k ∧ ∀ i v, cs[i]? = some v → W.cell? ⟨b, off + j * k + i, none⟩ = some v)
theorem rows_arg {H : Type} {enc : TypeId × Value → H} {P : Program} {W : World} {base : Nat} {a : Option Addr} {len cap fuel t e : Nat} {d : DataW H} {p : List MemPlace} {α : Type} (k : Nat) (Rd : List Value → α → Prop) (Dt : DataW H → α → Prop)
    (ht : P.underlying t = some (.slice e)) (ce : P.cellsOf e = k) (hk : 0 < k)
    (each : ∀ fuel cs d p, DataW.trod enc P W base (fun _ => true) true fuel e cs = some (d, p) → cs.length = k → ∃ x, Rd cs x ∧ Dt d x)
    (hf : DataW.trod enc P W base (fun _ => true) true fuel t (Value.slice a len cap).cells.toList = some (d, p)) :
    ∃ l : List α, RowsR W k Rd (.slice a len cap) l ∧ DatL Dt d l := by
  rcases open_slice ht hf with ⟨hcs, hd⟩ | ⟨x, n, c, m, kk, D, Pl, hcs, _, hl, hm, hmm, hx, hel⟩
  · simp [Value.cells] at hcs
    obtain ⟨rfl, rfl, rfl⟩ := hcs
    exact ⟨[], .inl ⟨rfl, rfl⟩, .inl ⟨(Prod.mk.inj hd).1, rfl⟩⟩
  · simp [Value.cells] at hcs
    obtain ⟨rfl, rfl, rfl⟩ := hcs
    simp only [if_true] at hmm
    subst hmm
    have ea : ∀ i, i < len → ∃ s : α, Dt (D i) s ∧ ∃ cs, Rd cs s ∧ cs.length = k ∧ ∀ j v, cs[j]? = some v → W.cell? ((x.add (i * k)).add j) = some v := by
      intro i hi
      obtain ⟨cs', h1, h2⟩ := hel i (by omega)
      rw [ce] at h1
      obtain ⟨_, hlen, hcell⟩ := World.cells?_some h1
      obtain ⟨s, hs, hD⟩ := each _ _ _ _ h2 hlen
      refine ⟨s, hD, cs', hs, hlen, fun j v hj => ?_⟩
      have hjl := (List.getElem?_eq_some_iff.1 hj).1
      rw [hcell j (by omega)]
      exact hj
    by_cases hα : 0 < len
    case neg =>
      obtain rfl : len = 0 := by omega
      exact ⟨[], .inr ⟨x, _, rfl, Nat.zero_le _, fun h => absurd h (by simp)⟩, .inr ⟨_, _, (Prod.mk.inj hx).1, by simp, fun i hi => absurd hi (by simp)⟩⟩
    obtain ⟨s, hs⟩ : ∃ s : Nat → α, ∀ i, i < len → Dt (D i) (s i) ∧ ∃ cs, Rd cs (s i) ∧ cs.length = k ∧ ∀ j v, cs[j]? = some v → W.cell? ((x.add (i * k)).add j) = some v := by
      exact ⟨fun i => if h : i < len then (ea i h).choose else (ea 0 hα).choose, fun i hi => by simp only [dif_pos hi]; exact (ea i hi).choose_spec⟩
    refine ⟨(List.range len).map s, .inr ⟨x, m, by simp, by simpa using hl, fun h0 => ?_⟩, .inr ⟨_, _, (Prod.mk.inj hx).1, by simp, fun i hi => ?_⟩⟩
    · obtain ⟨b, off, spot⟩ := x
      obtain ⟨_, cs0, _, hc0, q0⟩ := hs 0 hα
      have hspot : spot = none := by
        have h1 := q0 0 (cs0[0]'(by omega)) (List.getElem?_eq_getElem (by omega))
        simpa [Addr.add] using World.cell?_spot h1
      subst hspot
      refine ⟨b, off, rfl, fun j hj => ?_⟩
      have hj' : j < len := by simpa using hj
      obtain ⟨_, cs, h1, h2, h3⟩ := hs j hj'
      have hadd : ∀ o k, (⟨b, o, none⟩ : Addr).add k = ⟨b, o + k, none⟩ := fun o k => by unfold Addr.add; split <;> simp_all
      simp only [List.getElem_map, List.getElem_range]
      exact ⟨cs, h1, h2, fun i v hv => by have := h3 i v hv; rwa [hadd, hadd] at this⟩
    · have hi' : i < len := by simpa using hi
      exact ⟨D i, List.mem_map.2 ⟨i, by simpa using hi', rfl⟩, by simpa using (hs i hi').1⟩
theorem RowsR.form {α : Type} {W : World} {k : Nat} {Rd : List Value → α → Prop} {v : Value} {l : List α} (h : RowsR W k Rd v l) : ∃ a c, v = .slice a l.length c ∧ l.length ≤ c := by
  rcases h with ⟨rfl, rfl⟩ | ⟨q, cap, rfl, h1, _⟩
  · exact ⟨_, _, rfl, Nat.le_refl _⟩
  · exact ⟨_, _, rfl, h1⟩
theorem RowsR.at {α : Type} {W : World} {k : Nat} {Rd : List Value → α → Prop} {a : Option Addr} {n c : Nat} {l : List α} (h : RowsR W k Rd (.slice a n c) l) (j : Nat) (hj : j < l.length) :
    ∃ b off cs, a = some ⟨b, off, none⟩ ∧ Rd cs l[j] ∧ cs.length = k ∧ ∀ i v, cs[i]? = some v → W.cell? ⟨b, off + j * k + i, none⟩ = some v := by
  rcases h with ⟨_, rfl⟩ | ⟨q, cap, he, h1, h2⟩
  · simp at hj
  · cases he
    obtain ⟨b, off, rfl, hd⟩ := h2 (by omega)
    obtain ⟨cs, h3, h4, h5⟩ := hd j hj
    exact ⟨b, off, cs, rfl, h3, h4, h5⟩
def MSmall {H : Type} (P : Program) (t : TypeId) (d : DataW H) : Prop := ∀ n ∈ d.weights P t, n ≤ reachBytes
theorem msmall_arg {H : Type} {P : Program} {ts : List TypeId} {ds : List (DataW H)} (h : (DataW.weightsEach P ts ds).all (· ≤ reachBytes) = true) {j : Nat} {t : TypeId} {d : DataW H} (ht : ts[j]? = some t) (hd : ds[j]? = some d) : MSmall P t d :=
  fun n hn => of_decide_eq_true (List.all_eq_true.1 h _ (DataW.weights_mem_each ht hd n hn))
theorem MSmall.slice {H : Type} {P : Program} {t e : TypeId} {es sp : List (DataW H)} (h : MSmall P t (.slice es sp)) (hu : P.underlying t = some (.slice e)) : (es.length + sp.length) * P.bytesOf e ≤ reachBytes ∧ ∀ d ∈ es, MSmall P e d :=
  ⟨h _ (by simp [DataW.weights, hu]), fun d hd n hn => h n (by
    simp only [DataW.weights, hu, List.mem_cons, List.mem_append]
    exact Or.inr (Or.inl (Kp_weightsAll_mem hd n hn)))⟩
theorem MSmall.fields {H : Type} {P : Program} {t : TypeId} {fs : Array Field} {ds : List (DataW H)} (h : MSmall P t (.agg ds)) (hu : P.underlying t = some (.struct fs)) (j : Nat) (f : Field) (d : DataW H) (hf : fs[j]? = some f) (hd : ds[j]? = some d) : MSmall P f.type d := fun n hn => h n (by
    simp only [DataW.weights, hu]
    exact DataW.weights_mem_each (by rw [List.getElem?_map, Array.getElem?_toList, hf]; rfl) hd n hn)
theorem mbytes_small {H : Type} {P : Program} {t e : TypeId} {d : DataW H} {x : List UInt8} (h : MSmall P t d) (hu : P.underlying t = some (.slice e)) (be : P.bytesOf e = 1) (hO : Kp_DataOf d x) : x.length ≤ 140737488351232 := by
  rcases hO with ⟨_, rfl⟩ | ⟨es, sp, rfl, hl⟩
  · simp
  · have := (h.slice hu).1
    rw [be] at this
    simp only [reachBytes] at this
    omega
theorem mrows_small {H : Type} {P : Program} {t e : TypeId} {d : DataW H} {α : Type} {Dt : DataW H → α → Prop} {l : List α} {n : Nat} (h : MSmall P t d) (hu : P.underlying t = some (.slice e)) (be : P.bytesOf e = n) (hO : DatL Dt d l) : l.length * n ≤ 140737488351232 ∧ ∀ i (hi : i < l.length), ∃ di, MSmall P e di ∧ Dt di l[i] := by
  rcases hO with ⟨_, rfl⟩ | ⟨es, sp, rfl, hl, hel⟩
  · exact ⟨by simp, fun i hi => absurd hi (by simp)⟩
  · obtain ⟨h1, h2⟩ := h.slice hu
    rw [be] at h1
    simp only [reachBytes] at h1
    refine ⟨Nat.le_trans (Nat.mul_le_mul_right _ (by omega)) h1, fun i hi => ?_⟩
    obtain ⟨di, hm, hO⟩ := hel i hi
    exact ⟨di, h2 di hm, hO⟩
def ByC (W : World) (v : Value) (x : List UInt8) : Prop := ∃ va vc, v = .slice va x.length vc ∧ Bys W (.slice va x.length vc) x ∧ x.length ≤ vc
theorem byc_arg {H : Type} {enc : TypeId × Value → H} {P : Program} {W : World} {base fuel e u : Nat} {v : Value} {d : DataW H} {p : List MemPlace} (he : P.underlying e = some (.slice u)) (hu : P.underlying u = some (.int .u8)) (cu : P.cellsOf u = 1)
    (h : DataW.trod enc P W base (fun _ => true) true fuel e [v] = some (d, p)) : ∃ x, ByC W v x ∧ Kp_DataOf d x := by
  obtain ⟨va, vl, vc, rfl⟩ : ∃ va vl vc, v = .slice va vl vc := by
    rcases DataW.trod_slice he h with ⟨h0, _⟩ | ⟨x, len, cap, _, _, _, _, h0, _⟩
    · exact ⟨_, _, _, by simpa using h0⟩
    · exact ⟨_, _, _, by simpa using h0⟩
  obtain ⟨s, hs, hc, hO⟩ := bytes_arg2 he hu cu (by simpa [Value.cells] using h)
  obtain rfl := Kp_bys_len hs
  exact ⟨s, ⟨va, vc, rfl, hs, hc⟩, hO⟩
end Go.Proofs.YtejcfhjhjplcnaaGreat

/- FdtablePlays: a step by both tables. -/
namespace Go.Proofs.YtejcfhjhjplcnaaGreat
open Go.RowKit Go.Maps

structure WSt where
  what : Int
  name : ByteArray
  a : Int
  b : Int
  c : Int
  on : Bool
  data : List UInt8
structure WIn (B : Nat) (W : World) (x : WSt) (va : Option Addr) (vc : Nat) : Prop where
  by' : Bys W (.slice va x.data.length vc) x.data
  cap : x.data.length ≤ vc
  name : x.name.size ≤ maxLen
  a : I64 x.a
  b : I64 x.b
  few : x.data.length ≤ 140737488351232
  low : 0 < x.data.length → ∀ k, (Value.slice va x.data.length vc).ownBlock = some k → k < B ∧ k < W.heap.size
def TS.worn (S : TS) (x : WSt) : TS :=
  if x.what = 0 then (S.open x.name x.a).2.2 else if x.what = 1 then S.pipe.2.2.2 else if x.what = 2 then (S.install x.a).2.2 else if x.what = 3 then (S.close x.a).2
  else if x.what = 4 then (S.dup x.a).2.2 else if x.what = 5 then (S.dupTo x.a x.b).2 else if x.what = 6 then (S.mark x.a x.on).2 else if x.what = 7 then (S.readT x.a x.b).2.2
  else if x.what = 8 then (S.writeT x.a x.data).2.2 else if x.what = 9 then (S.seekT x.a x.b x.c).2.2 else if x.what = 11 then S.closeAll else S
theorem seven_cells (w : World) (a b c d e f g : Value) (t : TypeId) : (w.alloc (Obj.cells #[a, b, c, d, e, f, g] t)).cell? ⟨w.heap.size, 1, none⟩ = some b ∧ (w.alloc (Obj.cells #[a, b, c, d, e, f, g] t)).cell? ⟨w.heap.size, 2, none⟩ = some c ∧ (w.alloc (Obj.cells #[a, b, c, d, e, f, g] t)).cell? ⟨w.heap.size, 3, none⟩ = some d ∧ (w.alloc (Obj.cells #[a, b, c, d, e, f, g] t)).cell? ⟨w.heap.size, 4, none⟩ = some e ∧ (w.alloc (Obj.cells #[a, b, c, d, e, f, g] t)).cell? ⟨w.heap.size, 5, none⟩ = some f ∧ (w.alloc (Obj.cells #[a, b, c, d, e, f, g] t)).cell? ⟨w.heap.size, 6, none⟩ = some g := by
  refine ⟨?_, ?_, ?_, ?_, ?_, ?_⟩ <;> (simp only [World.cell?, heap_alloc_new]; rfl)
def Wore (B kb t mb u : Nat) (S' : TS) (w : World) (e : Ending) (w' : World) : Prop := e = .returned (.bool true) ∧ TPair w' B kb t mb u S' ∧ Turned (fun j => B ≤ j) w w'
theorem wore {B kb t mb u : Nat} {S' : TS} {w wb w5 w7 : World} (_hB : B ≤ w.heap.size) (h1 : Below w.heap.size w wb) (h2 : Turned (fun j => B ≤ j ∧ j < w.heap.size) wb w5) (h3 : Turned (fun j => B ≤ j ∧ j < w.heap.size) w5 w7) (hP : TPair w7 B kb t mb u S') : Wore B kb t mb u S' w (.returned (.bool true)) w7 :=
  ⟨rfl, hP, ((Turned.of_below (S := fun j => B ≤ j) h1).trans (h2.mono fun _ e => e.1) (fun _ _ e => e)).trans (h3.mono fun _ e => e.1) (fun _ _ e => e)⟩
set_option maxRecDepth 100000 in
set_option maxHeartbeats 2000000 in
theorem worn_open (B kb t mb u : Nat) (S : TS) (x : WSt) (va : Option Addr) (vc : Nat) (w : World) (hP : TPair w B kb t mb u S) (hB : B ≤ w.heap.size) (hx : WIn B w x va vc) (hk : KSmall S.K) (h0 : x.what = 0) :
    Calls Tryz.prog 22 #[.pointer (some ⟨t, 0, none⟩), .pointer (some ⟨u, 0, none⟩), .agg #[.int .i64 x.what, .string x.name, .int .i64 x.a, .int .i64 x.b, .int .i64 x.c, .bool x.on, .slice va x.data.length vc]] w (Wore B kb t mb u (S.open x.name x.a).2.2 w) := by
  have H := hide (two_topen hP x.name x.a hx.name hk.1 (by have := hk.2.1; omega))
  rw [h0]
  obtain ⟨what, name, xa, xb, xc, xon, data⟩ := x
  simp only at *
  have hb := recv_below w (Obj.cells #[.int .i64 0, .string name, .int .i64 xa, .int .i64 xb, .int .i64 xc, .bool xon, .slice va data.length vc] 52)
  obtain ⟨x1, x2, x3, x4, x5, x6⟩ := seven_cells w (.int .i64 0) (.string name) (.int .i64 xa) (.int .i64 xb) (.int .i64 xc) (.bool xon) (.slice va data.length vc) 52
  have HX := hide (And.intro x1 x2)
  have HB := hide hb
  generalize hR : S.open name xa = R at *
  obtain ⟨r1, r2, S'⟩ := R
  have H1 := hide (H.out _ hb)
  simp only at H1 ⊢
  clear hR hP hx hk hb H x1 x2 x3 x4 x5 x6
  go_enter Tryz.func22, Tryz.ntmps22
  go_wp2_with (first
    | (go_at_call 90; refine H1.out.mono ?_; rintro _ w5 ⟨rfl, hT5, h2⟩; have c1 := cell_keep hT5 HX.out.1 (fun e => by have := e.2; omega); have c2 := cell_keep hT5 HX.out.2 (fun e => by have := e.2; omega); have HT5 := hide hT5; have H2 := hide h2; clear h2 hT5)
    | (go_at_call 96; refine (H2.out _ (Below.refl _ _)).mono ?_; rintro _ w7 ⟨rfl, hP7, hT7⟩; have HP7 := hide hP7; have HT7 := hide hT7; clear hP7 hT7)
    | (go_at_call 16; refine (tnum_is _ _).mono ?_; rintro _ _ ⟨rfl, rfl⟩) | fail)
  go_ret
  exact wore hB HB.out HT5.out HT7.out HP7.out
set_option maxRecDepth 100000 in
set_option maxHeartbeats 2000000 in
theorem worn_pipe (B kb t mb u : Nat) (S : TS) (x : WSt) (va : Option Addr) (vc : Nat) (w : World) (hP : TPair w B kb t mb u S) (hB : B ≤ w.heap.size) (hx : WIn B w x va vc) (hk : KSmall S.K) (h0 : x.what = 1) :
    Calls Tryz.prog 22 #[.pointer (some ⟨t, 0, none⟩), .pointer (some ⟨u, 0, none⟩), .agg #[.int .i64 x.what, .string x.name, .int .i64 x.a, .int .i64 x.b, .int .i64 x.c, .bool x.on, .slice va x.data.length vc]] w (Wore B kb t mb u S.pipe.2.2.2 w) := by
  have H := hide (two_tpipe hP hk.1 (by have := hk.2.1; omega))
  rw [h0]
  obtain ⟨what, name, xa, xb, xc, xon, data⟩ := x
  simp only at *
  have hb := recv_below w (Obj.cells #[.int .i64 1, .string name, .int .i64 xa, .int .i64 xb, .int .i64 xc, .bool xon, .slice va data.length vc] 52)
  obtain ⟨x1, x2, x3, x4, x5, x6⟩ := seven_cells w (.int .i64 1) (.string name) (.int .i64 xa) (.int .i64 xb) (.int .i64 xc) (.bool xon) (.slice va data.length vc) 52
  have HX := hide (True.intro)
  have HB := hide hb
  generalize hR : S.pipe = R at *
  obtain ⟨r1, r2, r3, S'⟩ := R
  have H1 := hide (H.out _ hb)
  simp only at H1 ⊢
  clear hR hP hx hk hb H x1 x2 x3 x4 x5 x6
  go_enter Tryz.func22, Tryz.ntmps22
  go_wp2_with (first
    | (go_at_call 97; refine H1.out.mono ?_; rintro _ w5 ⟨rfl, hT5, h2⟩;  have HT5 := hide hT5; have H2 := hide h2; clear h2 hT5)
    | (go_at_call 98; refine (H2.out _ (Below.refl _ _)).mono ?_; rintro _ w7 ⟨rfl, hP7, hT7⟩; have HP7 := hide hP7; have HT7 := hide hT7; clear hP7 hT7)
    | (go_at_call 16; refine (tnum_is _ _).mono ?_; rintro _ _ ⟨rfl, rfl⟩) | fail)
  go_ret
  exact wore hB HB.out HT5.out HT7.out HP7.out
set_option maxRecDepth 100000 in
set_option maxHeartbeats 2000000 in
theorem worn_install (B kb t mb u : Nat) (S : TS) (x : WSt) (va : Option Addr) (vc : Nat) (w : World) (hP : TPair w B kb t mb u S) (hB : B ≤ w.heap.size) (hx : WIn B w x va vc) (_hk : KSmall S.K) (h0 : x.what = 2) :
    Calls Tryz.prog 22 #[.pointer (some ⟨t, 0, none⟩), .pointer (some ⟨u, 0, none⟩), .agg #[.int .i64 x.what, .string x.name, .int .i64 x.a, .int .i64 x.b, .int .i64 x.c, .bool x.on, .slice va x.data.length vc]] w (Wore B kb t mb u (S.install x.a).2.2 w) := by
  have H := hide (two_tinstall hP x.a hx.a)
  rw [h0]
  obtain ⟨what, name, xa, xb, xc, xon, data⟩ := x
  simp only at *
  have hb := recv_below w (Obj.cells #[.int .i64 2, .string name, .int .i64 xa, .int .i64 xb, .int .i64 xc, .bool xon, .slice va data.length vc] 52)
  obtain ⟨x1, x2, x3, x4, x5, x6⟩ := seven_cells w (.int .i64 2) (.string name) (.int .i64 xa) (.int .i64 xb) (.int .i64 xc) (.bool xon) (.slice va data.length vc) 52
  have HX := hide ( x2)
  have HB := hide hb
  generalize hR : S.install xa = R at *
  obtain ⟨r1, r2, S'⟩ := R
  have H1 := hide (H.out _ hb)
  simp only at H1 ⊢
  clear hR hP hx hb H x1 x2 x3 x4 x5 x6
  go_enter Tryz.func22, Tryz.ntmps22
  go_wp2_with (first
    | (go_at_call 99; refine H1.out.mono ?_; rintro _ w5 ⟨rfl, hT5, h2⟩; have c2 := cell_keep hT5 HX.out (fun e => by have := e.2; omega); have HT5 := hide hT5; have H2 := hide h2; clear h2 hT5)
    | (go_at_call 100; refine (H2.out _ (Below.refl _ _)).mono ?_; rintro _ w7 ⟨rfl, hP7, hT7⟩; have HP7 := hide hP7; have HT7 := hide hT7; clear hP7 hT7)
    | (go_at_call 16; refine (tnum_is _ _).mono ?_; rintro _ _ ⟨rfl, rfl⟩) | fail)
  go_ret
  exact wore hB HB.out HT5.out HT7.out HP7.out
set_option maxRecDepth 100000 in
set_option maxHeartbeats 2000000 in
theorem worn_close (B kb t mb u : Nat) (S : TS) (x : WSt) (va : Option Addr) (vc : Nat) (w : World) (hP : TPair w B kb t mb u S) (hB : B ≤ w.heap.size) (hx : WIn B w x va vc) (_hk : KSmall S.K) (h0 : x.what = 3) :
    Calls Tryz.prog 22 #[.pointer (some ⟨t, 0, none⟩), .pointer (some ⟨u, 0, none⟩), .agg #[.int .i64 x.what, .string x.name, .int .i64 x.a, .int .i64 x.b, .int .i64 x.c, .bool x.on, .slice va x.data.length vc]] w (Wore B kb t mb u (S.close x.a).2 w) := by
  have H := hide (two_tclose hP x.a)
  rw [h0]
  obtain ⟨what, name, xa, xb, xc, xon, data⟩ := x
  simp only at *
  have hb := recv_below w (Obj.cells #[.int .i64 3, .string name, .int .i64 xa, .int .i64 xb, .int .i64 xc, .bool xon, .slice va data.length vc] 52)
  obtain ⟨x1, x2, x3, x4, x5, x6⟩ := seven_cells w (.int .i64 3) (.string name) (.int .i64 xa) (.int .i64 xb) (.int .i64 xc) (.bool xon) (.slice va data.length vc) 52
  have HX := hide ( x2)
  have HB := hide hb
  generalize hR : S.close xa = R at *
  obtain ⟨r1, S'⟩ := R
  have H1 := hide (H.out _ hb.drew)
  simp only at H1 ⊢
  clear hR hP hx hb H x1 x3 x4 x5 x6
  go_enter Tryz.func22, Tryz.ntmps22
  go_wp2_with fail
  go_region_held3 (fun w' => w'.cell? ⟨w.heap.size, 2, none⟩ = some (.int .i64 xa))
    (first | exact hx7 | exact hx5 | exact x2 | go_keep)
    (first
      | (go_at_call 92; refine H1.out.mono ?_; rintro _ w5 ⟨rfl, hT5, h2⟩; have hx5 : w5.cell? ⟨w.heap.size, 2, none⟩ = some (.int .i64 xa) := cell_keep hT5 (drew_cell HX.out) (fun e => by have := e.2; omega); have H2 := hide h2; clear h2)
      | (go_at_call 101; refine (H2.out _ (Below.refl _ _)).mono ?_; rintro _ w7 ⟨rfl, hP7, hT7⟩; have hx7 : w7.cell? ⟨w.heap.size, 2, none⟩ = some (.int .i64 xa) := cell_keep hT7 hx5 (fun e => by have := e.2; omega))
      | (go_at_call 16; refine (tnum_is _ _).mono ?_; rintro _ _ ⟨rfl, rfl⟩)
      | fail)
  go_wp2
  go_ret
  exact wore hB HB.out.drew hT5 hT7 hP7
set_option maxRecDepth 100000 in
set_option maxHeartbeats 2000000 in
theorem worn_dup (B kb t mb u : Nat) (S : TS) (x : WSt) (va : Option Addr) (vc : Nat) (w : World) (hP : TPair w B kb t mb u S) (hB : B ≤ w.heap.size) (hx : WIn B w x va vc) (_hk : KSmall S.K) (h0 : x.what = 4) :
    Calls Tryz.prog 22 #[.pointer (some ⟨t, 0, none⟩), .pointer (some ⟨u, 0, none⟩), .agg #[.int .i64 x.what, .string x.name, .int .i64 x.a, .int .i64 x.b, .int .i64 x.c, .bool x.on, .slice va x.data.length vc]] w (Wore B kb t mb u (S.dup x.a).2.2 w) := by
  have H := hide (two_tdup hP x.a)
  rw [h0]
  obtain ⟨what, name, xa, xb, xc, xon, data⟩ := x
  simp only at *
  have hb := recv_below w (Obj.cells #[.int .i64 4, .string name, .int .i64 xa, .int .i64 xb, .int .i64 xc, .bool xon, .slice va data.length vc] 52)
  obtain ⟨x1, x2, x3, x4, x5, x6⟩ := seven_cells w (.int .i64 4) (.string name) (.int .i64 xa) (.int .i64 xb) (.int .i64 xc) (.bool xon) (.slice va data.length vc) 52
  have HX := hide ( x2)
  have HB := hide hb
  generalize hR : S.dup xa = R at *
  obtain ⟨r1, r2, S'⟩ := R
  have H1 := hide (H.out _ hb)
  simp only at H1 ⊢
  clear hR hP hx hb H x1 x2 x3 x4 x5 x6
  go_enter Tryz.func22, Tryz.ntmps22
  go_wp2_with (first
    | (go_at_call 91; refine H1.out.mono ?_; rintro _ w5 ⟨rfl, hT5, h2⟩; have c2 := cell_keep hT5 HX.out (fun e => by have := e.2; omega); have HT5 := hide hT5; have H2 := hide h2; clear h2 hT5)
    | (go_at_call 102; refine (H2.out _ (Below.refl _ _)).mono ?_; rintro _ w7 ⟨rfl, hP7, hT7⟩; have HP7 := hide hP7; have HT7 := hide hT7; clear hP7 hT7)
    | (go_at_call 16; refine (tnum_is _ _).mono ?_; rintro _ _ ⟨rfl, rfl⟩) | fail)
  go_ret
  exact wore hB HB.out HT5.out HT7.out HP7.out
set_option maxRecDepth 100000 in
set_option maxHeartbeats 2000000 in
theorem worn_dupTo (B kb t mb u : Nat) (S : TS) (x : WSt) (va : Option Addr) (vc : Nat) (w : World) (hP : TPair w B kb t mb u S) (hB : B ≤ w.heap.size) (hx : WIn B w x va vc) (_hk : KSmall S.K) (h0 : x.what = 5) :
    Calls Tryz.prog 22 #[.pointer (some ⟨t, 0, none⟩), .pointer (some ⟨u, 0, none⟩), .agg #[.int .i64 x.what, .string x.name, .int .i64 x.a, .int .i64 x.b, .int .i64 x.c, .bool x.on, .slice va x.data.length vc]] w (Wore B kb t mb u (S.dupTo x.a x.b).2 w) := by
  have H := hide (two_tdupTo hP x.a x.b)
  rw [h0]
  obtain ⟨what, name, xa, xb, xc, xon, data⟩ := x
  simp only at *
  have hb := recv_below w (Obj.cells #[.int .i64 5, .string name, .int .i64 xa, .int .i64 xb, .int .i64 xc, .bool xon, .slice va data.length vc] 52)
  obtain ⟨x1, x2, x3, x4, x5, x6⟩ := seven_cells w (.int .i64 5) (.string name) (.int .i64 xa) (.int .i64 xb) (.int .i64 xc) (.bool xon) (.slice va data.length vc) 52
  have HX := hide (And.intro x2 x3)
  have HB := hide hb
  generalize hR : S.dupTo xa xb = R at *
  obtain ⟨r1, S'⟩ := R
  have H1 := hide (H.out _ hb.drew)
  simp only at H1 ⊢
  clear hR hP hx hb H x1 x4 x5 x6
  go_enter Tryz.func22, Tryz.ntmps22
  go_wp2_with fail
  go_region_held3 (fun w' => w'.cell? ⟨w.heap.size, 2, none⟩ = some (.int .i64 xa) ∧ w'.cell? ⟨w.heap.size, 3, none⟩ = some (.int .i64 xb))
    (first | exact hx7 | exact hx5 | exact ⟨x2, x3⟩ | go_keep)
    (first
      | (go_at_call 93; refine H1.out.mono ?_; rintro _ w5 ⟨rfl, hT5, h2⟩; have hx5 : w5.cell? ⟨w.heap.size, 2, none⟩ = some (.int .i64 xa) ∧ w5.cell? ⟨w.heap.size, 3, none⟩ = some (.int .i64 xb) := ⟨cell_keep hT5 (drew_cell HX.out.1) (fun e => by have := e.2; omega), cell_keep hT5 (drew_cell HX.out.2) (fun e => by have := e.2; omega)⟩; have H2 := hide h2; clear h2)
      | (go_at_call 103; refine (H2.out _ (Below.refl _ _)).mono ?_; rintro _ w7 ⟨rfl, hP7, hT7⟩; have hx7 : w7.cell? ⟨w.heap.size, 2, none⟩ = some (.int .i64 xa) ∧ w7.cell? ⟨w.heap.size, 3, none⟩ = some (.int .i64 xb) := ⟨cell_keep hT7 hx5.1 (fun e => by have := e.2; omega), cell_keep hT7 hx5.2 (fun e => by have := e.2; omega)⟩)
      | (go_at_call 16; refine (tnum_is _ _).mono ?_; rintro _ _ ⟨rfl, rfl⟩)
      | fail)
  go_wp2
  go_ret
  exact wore hB HB.out.drew hT5 hT7 hP7
set_option maxRecDepth 100000 in
set_option maxHeartbeats 2000000 in
theorem worn_mark (B kb t mb u : Nat) (S : TS) (x : WSt) (va : Option Addr) (vc : Nat) (w : World) (hP : TPair w B kb t mb u S) (hB : B ≤ w.heap.size) (hx : WIn B w x va vc) (_hk : KSmall S.K) (h0 : x.what = 6) :
    Calls Tryz.prog 22 #[.pointer (some ⟨t, 0, none⟩), .pointer (some ⟨u, 0, none⟩), .agg #[.int .i64 x.what, .string x.name, .int .i64 x.a, .int .i64 x.b, .int .i64 x.c, .bool x.on, .slice va x.data.length vc]] w (Wore B kb t mb u (S.mark x.a x.on).2 w) := by
  have H := hide (two_tmark hP x.a x.on)
  rw [h0]
  obtain ⟨what, name, xa, xb, xc, xon, data⟩ := x
  simp only at *
  have hb := recv_below w (Obj.cells #[.int .i64 6, .string name, .int .i64 xa, .int .i64 xb, .int .i64 xc, .bool xon, .slice va data.length vc] 52)
  obtain ⟨x1, x2, x3, x4, x5, x6⟩ := seven_cells w (.int .i64 6) (.string name) (.int .i64 xa) (.int .i64 xb) (.int .i64 xc) (.bool xon) (.slice va data.length vc) 52
  have HX := hide (And.intro x2 x5)
  have HB := hide hb
  generalize hR : S.mark xa xon = R at *
  obtain ⟨r1, S'⟩ := R
  have H1 := hide (H.out _ hb.drew)
  simp only at H1 ⊢
  clear hR hP hx hb H x1 x3 x4 x6
  go_enter Tryz.func22, Tryz.ntmps22
  go_wp2_with fail
  go_region_held3 (fun w' => w'.cell? ⟨w.heap.size, 2, none⟩ = some (.int .i64 xa) ∧ w'.cell? ⟨w.heap.size, 5, none⟩ = some (.bool xon))
    (first | exact hx7 | exact hx5 | exact ⟨x2, x5⟩ | go_keep)
    (first
      | (go_at_call 94; refine H1.out.mono ?_; rintro _ w5 ⟨rfl, hT5, h2⟩; have hx5 : w5.cell? ⟨w.heap.size, 2, none⟩ = some (.int .i64 xa) ∧ w5.cell? ⟨w.heap.size, 5, none⟩ = some (.bool xon) := ⟨cell_keep hT5 (drew_cell HX.out.1) (fun e => by have := e.2; omega), cell_keep hT5 (drew_cell HX.out.2) (fun e => by have := e.2; omega)⟩; have H2 := hide h2; clear h2)
      | (go_at_call 104; refine (H2.out _ (Below.refl _ _)).mono ?_; rintro _ w7 ⟨rfl, hP7, hT7⟩; have hx7 : w7.cell? ⟨w.heap.size, 2, none⟩ = some (.int .i64 xa) ∧ w7.cell? ⟨w.heap.size, 5, none⟩ = some (.bool xon) := ⟨cell_keep hT7 hx5.1 (fun e => by have := e.2; omega), cell_keep hT7 hx5.2 (fun e => by have := e.2; omega)⟩)
      | (go_at_call 16; refine (tnum_is _ _).mono ?_; rintro _ _ ⟨rfl, rfl⟩)
      | fail)
  go_wp2
  go_ret
  exact wore hB HB.out.drew hT5 hT7 hP7
set_option maxRecDepth 100000 in
set_option maxHeartbeats 2000000 in
theorem worn_write (B kb t mb u : Nat) (S : TS) (x : WSt) (va : Option Addr) (vc : Nat) (w : World) (hP : TPair w B kb t mb u S) (hB : B ≤ w.heap.size) (hx : WIn B w x va vc) (hk : KSmall S.K) (h0 : x.what = 8) :
    Calls Tryz.prog 22 #[.pointer (some ⟨t, 0, none⟩), .pointer (some ⟨u, 0, none⟩), .agg #[.int .i64 x.what, .string x.name, .int .i64 x.a, .int .i64 x.b, .int .i64 x.c, .bool x.on, .slice va x.data.length vc]] w (Wore B kb t mb u (S.writeT x.a x.data).2.2 w) := by
  have H := hide (two_twrite hP x.a x.data va vc (by have := hk.2.2.2; omega) hx.by' hx.cap hx.few hx.low)
  rw [h0]
  obtain ⟨what, name, xa, xb, xc, xon, data⟩ := x
  simp only at *
  have hb := recv_below w (Obj.cells #[.int .i64 8, .string name, .int .i64 xa, .int .i64 xb, .int .i64 xc, .bool xon, .slice va data.length vc] 52)
  obtain ⟨x1, x2, x3, x4, x5, x6⟩ := seven_cells w (.int .i64 8) (.string name) (.int .i64 xa) (.int .i64 xb) (.int .i64 xc) (.bool xon) (.slice va data.length vc) 52
  have HX := hide (And.intro x2 x6)
  have HB := hide hb
  generalize hR : S.writeT xa data = R at *
  obtain ⟨r1, r2, S'⟩ := R
  have H1 := hide (H.out _ hb)
  simp only at H1 ⊢
  clear hR hP hx hk hb H x1 x2 x3 x4 x5 x6
  go_enter Tryz.func22, Tryz.ntmps22
  go_wp2_with (first
    | (go_at_call 107; refine H1.out.mono ?_; rintro _ w5 ⟨rfl, hT5, h2⟩; have c2 := cell_keep hT5 HX.out.1 (fun e => by have := e.2; omega); have c6 := cell_keep hT5 HX.out.2 (fun e => by have := e.2; omega); have HT5 := hide hT5; have H2 := hide h2; clear h2 hT5)
    | (go_at_call 108; refine (H2.out _ (Below.refl _ _)).mono ?_; rintro _ w7 ⟨rfl, hP7, hT7⟩; have HP7 := hide hP7; have HT7 := hide hT7; clear hP7 hT7)
    | (go_at_call 16; refine (tnum_is _ _).mono ?_; rintro _ _ ⟨rfl, rfl⟩) | fail)
  go_ret
  exact wore hB HB.out HT5.out HT7.out HP7.out
set_option maxRecDepth 100000 in
set_option maxHeartbeats 2000000 in
theorem worn_seek (B kb t mb u : Nat) (S : TS) (x : WSt) (va : Option Addr) (vc : Nat) (w : World) (hP : TPair w B kb t mb u S) (hB : B ≤ w.heap.size) (hx : WIn B w x va vc) (_hk : KSmall S.K) (h0 : x.what = 9) :
    Calls Tryz.prog 22 #[.pointer (some ⟨t, 0, none⟩), .pointer (some ⟨u, 0, none⟩), .agg #[.int .i64 x.what, .string x.name, .int .i64 x.a, .int .i64 x.b, .int .i64 x.c, .bool x.on, .slice va x.data.length vc]] w (Wore B kb t mb u (S.seekT x.a x.b x.c).2.2 w) := by
  have H := hide (two_tseek hP x.a x.b x.c hx.b)
  rw [h0]
  obtain ⟨what, name, xa, xb, xc, xon, data⟩ := x
  simp only at *
  have hb := recv_below w (Obj.cells #[.int .i64 9, .string name, .int .i64 xa, .int .i64 xb, .int .i64 xc, .bool xon, .slice va data.length vc] 52)
  obtain ⟨x1, x2, x3, x4, x5, x6⟩ := seven_cells w (.int .i64 9) (.string name) (.int .i64 xa) (.int .i64 xb) (.int .i64 xc) (.bool xon) (.slice va data.length vc) 52
  have HX := hide (And.intro x2 (And.intro x3 x4))
  have HB := hide hb
  generalize hR : S.seekT xa xb xc = R at *
  obtain ⟨r1, r2, S'⟩ := R
  have H1 := hide (H.out _ hb)
  simp only at H1 ⊢
  clear hR hP hx hb H x1 x2 x3 x4 x5 x6
  go_enter Tryz.func22, Tryz.ntmps22
  go_wp2_with (first
    | (go_at_call 109; refine H1.out.mono ?_; rintro _ w5 ⟨rfl, hT5, h2⟩; have c2 := cell_keep hT5 HX.out.1 (fun e => by have := e.2; omega); have c3 := cell_keep hT5 HX.out.2.1 (fun e => by have := e.2; omega); have c4 := cell_keep hT5 HX.out.2.2 (fun e => by have := e.2; omega); have HT5 := hide hT5; have H2 := hide h2; clear h2 hT5)
    | (go_at_call 110; refine (H2.out _ (Below.refl _ _)).mono ?_; rintro _ w7 ⟨rfl, hP7, hT7⟩; have HP7 := hide hP7; have HT7 := hide hT7; clear hP7 hT7)
    | (go_at_call 16; refine (tnum_is _ _).mono ?_; rintro _ _ ⟨rfl, rfl⟩) | fail)
  go_ret
  exact wore hB HB.out HT5.out HT7.out HP7.out
end Go.Proofs.YtejcfhjhjplcnaaGreat

/- FdtablePlays: a step by both tables: Read, CloseAll, and what is asked behind them. -/
namespace Go.Proofs.YtejcfhjhjplcnaaGreat
open Go.RowKit Go.Maps

theorem tread_few {B kb t mb u : Nat} {S : TS} {w : World} (h : TPair w B kb t mb u S) (fd n : Int) : (S.readT fd n).1.length ≤ 1048576 := by
  obtain ⟨O, P, h1, _⟩ := h
  unfold TS.readT
  split
  · exact read_few h1.k _ _
  · exact Nat.zero_le _
set_option maxRecDepth 100000 in
set_option maxHeartbeats 2000000 in
theorem worn_read (B kb t mb u : Nat) (S : TS) (x : WSt) (va : Option Addr) (vc : Nat) (w : World) (hP : TPair w B kb t mb u S) (hB : B ≤ w.heap.size) (hk : KSmall S.K) (h0 : x.what = 7) :
    Calls Tryz.prog 22 #[.pointer (some ⟨t, 0, none⟩), .pointer (some ⟨u, 0, none⟩), .agg #[.int .i64 x.what, .string x.name, .int .i64 x.a, .int .i64 x.b, .int .i64 x.c, .bool x.on, .slice va x.data.length vc]] w (Wore B kb t mb u (S.readT x.a x.b).2.2 w) := by
  have H := hide (two_tread hP x.a x.b (by have := hk.2.2.1; omega))
  have hfew := tread_few hP x.a x.b
  rw [h0]
  obtain ⟨what, name, xa, xb, xc, xon, data⟩ := x
  simp only at *
  have hb := recv_below w (Obj.cells #[.int .i64 7, .string name, .int .i64 xa, .int .i64 xb, .int .i64 xc, .bool xon, .slice va data.length vc] 52)
  obtain ⟨x1, x2, x3, x4, x5, x6⟩ := seven_cells w (.int .i64 7) (.string name) (.int .i64 xa) (.int .i64 xb) (.int .i64 xc) (.bool xon) (.slice va data.length vc) 52
  have HX := hide (And.intro x2 x3)
  have HB := hide hb
  generalize hR : S.readT xa xb = R at *
  obtain ⟨Y, r2, S'⟩ := R
  have H1 := hide (H.out _ hb)
  simp only at H1 hfew ⊢
  have hY : Y.length ≤ maxLen := by unfold maxLen; omega
  clear hR hP hk hb H x1 x2 x3 x4 x5 x6 hfew
  go_enter Tryz.func22, Tryz.ntmps22
  go_wp2_with (first
    | (go_at_call 105; refine H1.out.mono ?_; rintro _ w5 ⟨a5, n5, c5, rfl, hT5, h2⟩; have c2 := cell_keep hT5 HX.out.1 (fun e => by have := e.2; omega); have c3 := cell_keep hT5 HX.out.2 (fun e => by have := e.2; omega); have HT5 := hide hT5; have H2 := hide h2; clear h2 hT5)
    | (go_at_call 106; refine (H2.out _ (Below.refl _ _)).mono ?_; rintro _ w7 ⟨a7, n7, c7, rfl, hy1, hy2, hP7, hT7⟩; have HP7 := hide hP7; have HT7 := hide hT7; have HS := hide (same_any _ _ Y w7 hy1 hy2 hY); clear hP7 hT7 hy1 hy2)
    | (go_at_call 39; refine HS.out.mono ?_; rintro _ w8 ⟨rfl, hB8⟩)
    | (go_at_call 16; refine (tnum_is _ _).mono ?_; rintro _ _ ⟨rfl, rfl⟩) | fail)
  go_ret
  obtain ⟨q1, q2, q3⟩ := wore hB HB.out HT5.out HT7.out HP7.out
  exact ⟨rfl, q2.below hB8, q3.trans (Turned.of_below (S := fun j => B ≤ j) hB8) (fun _ _ e => e)⟩
set_option maxRecDepth 100000 in
set_option maxHeartbeats 2000000 in
theorem worn_all (B kb t mb u : Nat) (S : TS) (x : WSt) (va : Option Addr) (vc : Nat) (w : World) (hP : TPair w B kb t mb u S) (hB : B ≤ w.heap.size) (h0 : x.what = 11) :
    Calls Tryz.prog 22 #[.pointer (some ⟨t, 0, none⟩), .pointer (some ⟨u, 0, none⟩), .agg #[.int .i64 x.what, .string x.name, .int .i64 x.a, .int .i64 x.b, .int .i64 x.c, .bool x.on, .slice va x.data.length vc]] w (Wore B kb t mb u S.closeAll w) := by
  have H := hide (two_tcloseAll hP)
  rw [h0]
  obtain ⟨what, name, xa, xb, xc, xon, data⟩ := x
  simp only at *
  have hb := recv_below w (Obj.cells #[.int .i64 11, .string name, .int .i64 xa, .int .i64 xb, .int .i64 xc, .bool xon, .slice va data.length vc] 52)
  obtain ⟨x1, x2, x3, x4, x5, x6⟩ := seven_cells w (.int .i64 11) (.string name) (.int .i64 xa) (.int .i64 xb) (.int .i64 xc) (.bool xon) (.slice va data.length vc) 52
  have HX := hide x2
  have HB := hide hb
  have H1 := hide (H.out _ hb)
  clear hP hb H x1 x2 x3 x4 x5 x6
  go_enter Tryz.func22, Tryz.ntmps22
  go_wp2_with (first
    | (go_at_call 111; refine H1.out.mono ?_; rintro _ w5 ⟨⟨v5, rfl⟩, hT5, h2⟩; have c2 := cell_keep hT5 HX.out (fun e => by have := e.2; omega); have HT5 := hide hT5; have H2 := hide h2; clear h2 hT5)
    | (go_at_call 112; refine (H2.out _ (Below.refl _ _)).mono ?_; rintro _ w7 ⟨⟨v7, rfl⟩, hP7, hT7⟩; have d2 := cell_keep hT7 c2 (fun e => by have := e.2; omega); have HP7 := hide hP7; have HT7 := hide hT7; clear hP7 hT7)
    | (go_at_call 113; refine (tmarked_any t kb S.closeAll _ _ HP7.out.tabs.1).mono ?_; rintro _ _ ⟨rfl, rfl⟩)
    | (go_at_call 114; refine (rtmarked_any u mb S.closeAll _ _ HP7.out.tabs.2).mono ?_; rintro _ _ ⟨rfl, rfl⟩)
    | (go_at_call 115; refine (tdesc_any t kb S.closeAll _ _ HP7.out.tabs.1).mono ?_; rintro _ _ ⟨rfl, rfl⟩)
    | (go_at_call 116; refine (rtdesc_any u mb S.closeAll _ _ HP7.out.tabs.2).mono ?_; rintro _ _ ⟨rfl, rfl⟩)
    | (go_at_call 16; refine (tnum_is _ _).mono ?_; rintro _ _ ⟨rfl, rfl⟩) | fail)
  go_ret
  exact wore hB HB.out HT5.out HT7.out HP7.out
set_option maxRecDepth 100000 in
set_option maxHeartbeats 2000000 in
theorem worn_else (B kb t mb u : Nat) (S : TS) (x : WSt) (va : Option Addr) (vc : Nat) (w : World) (hP : TPair w B kb t mb u S) (h0 : (x.what < 0 ∨ 9 < x.what) ∧ x.what ≠ 11) :
    Calls Tryz.prog 22 #[.pointer (some ⟨t, 0, none⟩), .pointer (some ⟨u, 0, none⟩), .agg #[.int .i64 x.what, .string x.name, .int .i64 x.a, .int .i64 x.b, .int .i64 x.c, .bool x.on, .slice va x.data.length vc]] w (Wore B kb t mb u S w) := by
  obtain ⟨what, name, xa, xb, xc, xon, data⟩ := x
  simp only at *
  have hb := recv_below w (Obj.cells #[.int .i64 what, .string name, .int .i64 xa, .int .i64 xb, .int .i64 xc, .bool xon, .slice va data.length vc] 52)
  have HP := hide (hP.below hb)
  have HB := hide hb
  have e0 : (what == 0) = false := by simp; omega
  have e1 : (what == 1) = false := by simp; omega
  have e2 : (what == 2) = false := by simp; omega
  have e3 : (what == 3) = false := by simp; omega
  have e4 : (what == 4) = false := by simp; omega
  have e5 : (what == 5) = false := by simp; omega
  have e6 : (what == 6) = false := by simp; omega
  have e7 : (what == 7) = false := by simp; omega
  have e8 : (what == 8) = false := by simp; omega
  have e9 : (what == 9) = false := by simp; omega
  have ea : (what == 11) = false := by simp; omega
  clear hP hb h0
  go_enter Tryz.func22, Tryz.ntmps22
  go_wp2_with (first
    | (go_at_call 113; refine (tmarked_any t kb S _ _ HP.out.tabs.1).mono ?_; rintro _ _ ⟨rfl, rfl⟩)
    | (go_at_call 114; refine (rtmarked_any u mb S _ _ HP.out.tabs.2).mono ?_; rintro _ _ ⟨rfl, rfl⟩)
    | (go_at_call 115; refine (tdesc_any t kb S _ _ HP.out.tabs.1).mono ?_; rintro _ _ ⟨rfl, rfl⟩)
    | (go_at_call 116; refine (rtdesc_any u mb S _ _ HP.out.tabs.2).mono ?_; rintro _ _ ⟨rfl, rfl⟩)
    | (go_at_call 16; refine (tnum_is _ _).mono ?_; rintro _ _ ⟨rfl, rfl⟩) | fail)
  go_ret
  exact ⟨rfl, HP.out, Turned.of_below HB.out⟩
theorem worn_any (B kb t mb u : Nat) (S : TS) (x : WSt) (va : Option Addr) (vc : Nat) (w : World) (hP : TPair w B kb t mb u S) (hB : B ≤ w.heap.size) (hx : WIn B w x va vc) (hk : KSmall S.K) :
    Calls Tryz.prog 22 #[.pointer (some ⟨t, 0, none⟩), .pointer (some ⟨u, 0, none⟩), .agg #[.int .i64 x.what, .string x.name, .int .i64 x.a, .int .i64 x.b, .int .i64 x.c, .bool x.on, .slice va x.data.length vc]] w (Wore B kb t mb u (S.worn x) w) := by
  unfold TS.worn
  split
  · rename_i h; exact worn_open B kb t mb u S x va vc w hP hB hx hk h
  split
  · rename_i h; exact worn_pipe B kb t mb u S x va vc w hP hB hx hk h
  split
  · rename_i h; exact worn_install B kb t mb u S x va vc w hP hB hx hk h
  split
  · rename_i h; exact worn_close B kb t mb u S x va vc w hP hB hx hk h
  split
  · rename_i h; exact worn_dup B kb t mb u S x va vc w hP hB hx hk h
  split
  · rename_i h; exact worn_dupTo B kb t mb u S x va vc w hP hB hx hk h
  split
  · rename_i h; exact worn_mark B kb t mb u S x va vc w hP hB hx hk h
  split
  · rename_i h; exact worn_read B kb t mb u S x va vc w hP hB hk h
  split
  · rename_i h; exact worn_write B kb t mb u S x va vc w hP hB hx hk h
  split
  · rename_i h; exact worn_seek B kb t mb u S x va vc w hP hB hx hk h
  split
  · rename_i h; exact worn_all B kb t mb u S x va vc w hP hB h
  · exact worn_else B kb t mb u S x va vc w hP (by omega)
theorem TG.worn {S : TS} (hk : KOk S.K) (hn : KNm S.K) (x : WSt) : TG 64 S.K (S.worn x).K := by
  unfold TS.worn
  split
  · exact (TG.open hk hn _ _).mono (by omega)
  split
  · exact (TG.pipe hk).mono (by omega)
  split
  · exact (TG.install S _).mono (by omega)
  split
  · exact (TG.close S _).mono (by omega)
  split
  · exact (TG.dup S _).mono (by omega)
  split
  · exact (TG.dupTo S _ _).mono (by omega)
  split
  · exact (TG.mark S _ _).mono (by omega)
  split
  · unfold TS.readT
    split
    · exact (TG.read _ _ _).mono (by omega)
    · exact TG.refl _ _
  split
  · unfold TS.writeT
    split
    · exact (TG.write _ _ _).mono (by omega)
    · exact TG.refl _ _
  split
  · unfold TS.seekT
    split
    · exact (TG.seek _ _ _ _).mono (by omega)
    · exact TG.refl _ _
  split
  · exact TG.closeAll S
  · exact TG.refl _ _
end Go.Proofs.YtejcfhjhjplcnaaGreat

/- The steps of FdtablePlays, as they come in. -/
namespace Go.Proofs.YtejcfhjhjplcnaaGreat
open Go.ChangeShapes Go.WideShapes Go.ChangeAt Go.RowKit Go.Deep

def WCells (W : World) (cs : List Value) (x : WSt) : Prop := ∃ va vc, cs = [.int .i64 x.what, .string x.name, .int .i64 x.a, .int .i64 x.b, .int .i64 x.c, .bool x.on, .slice va x.data.length vc] ∧ Bys W (.slice va x.data.length vc) x.data ∧ x.data.length ≤ vc ∧ x.name.size ≤ maxLen ∧ I64 x.a ∧ I64 x.b
def WDat {H : Type} (d : DataW H) (x : WSt) : Prop := ∃ x0 x1 x2 x3 x4 x5 d6, d = .agg [x0, x1, x2, x3, x4, x5, d6] ∧ Kp_DataOf d6 x.data
def WSts (W : World) (v : Value) (l : List WSt) : Prop := RowsR W 7 (WCells W) v l
theorem wst_cells {H : Type} {enc : TypeId × Value → H} {P : Program} {W : World} {base : Nat} {fuel e u : Nat} {f0 f1 f2 f3 f4 f5 f6 : Field} {cs : List Value} {d : DataW H} {p : List MemPlace}
    (he : P.underlying e = some (.struct #[f0, f1, f2, f3, f4, f5, f6])) (ce : P.cellsOf e = 7) (o0 : f0.offset = 0) (o1 : f1.offset = 1) (o2 : f2.offset = 2) (o3 : f3.offset = 3) (o4 : f4.offset = 4) (o5 : f5.offset = 5) (o6 : f6.offset = 6)
    (c0 : P.cellsOf f0.type = 1) (c1 : P.cellsOf f1.type = 1) (c2 : P.cellsOf f2.type = 1) (c3 : P.cellsOf f3.type = 1) (c4 : P.cellsOf f4.type = 1) (c5 : P.cellsOf f5.type = 1) (c6 : P.cellsOf f6.type = 1)
    (t0 : P.underlying f0.type = some (.int .i64)) (t1 : P.underlying f1.type = some .string) (t2 : P.underlying f2.type = some (.int .i64)) (t3 : P.underlying f3.type = some (.int .i64)) (t4 : P.underlying f4.type = some (.int .i64)) (t5 : P.underlying f5.type = some .bool) (t6 : P.underlying f6.type = some (.slice u)) (tu : P.underlying u = some (.int .u8)) (cu : P.cellsOf u = 1)
    (h : DataW.trod enc P W base (fun _ => true) true fuel e cs = some (d, p)) : ∃ x : WSt, WCells W cs x ∧ WDat d x := by
  obtain ⟨xs, k, hk, hxy, hcl, hxl, hf⟩ := DataW.trod_struct he h
  rw [ce] at hcl
  match xs, hxl, cs, hcl with
  | [y0, y1, y2, y3, y4, y5, y6], _, [v0, v1, v2, v3, v4, v5, v6], _ =>
    have g0 := hf 0 f0 rfl
    have g1 := hf 1 f1 rfl
    have g2 := hf 2 f2 rfl
    have g3 := hf 3 f3 rfl
    have g4 := hf 4 f4 rfl
    have g5 := hf 5 f5 rfl
    have g6 := hf 6 f6 rfl
    simp [o0, c0] at g0
    simp [o1, c1] at g1
    simp [o2, c2] at g2
    simp [o3, c3] at g3
    simp [o4, c4] at g4
    simp [o5, c5] at g5
    simp [o6, c6] at g6
    obtain ⟨a, ha, _⟩ := DataW.trod_int t0 g0
    obtain ⟨nm, hnm, _, hsz⟩ := DataW.trod_string t1 g1
    obtain ⟨b, hb, _, wb⟩ := DataW.trod_int t2 g2
    obtain ⟨c, hc, _, wc⟩ := DataW.trod_int t3 g3
    obtain ⟨cc, hcc, _⟩ := DataW.trod_int t4 g4
    obtain ⟨on, hon, _⟩ := DataW.trod_bool t5 g5
    obtain rfl : v0 = .int .i64 a := by simpa using ha
    obtain rfl : v1 = .string nm := by simpa using hnm
    obtain rfl : v2 = .int .i64 b := by simpa using hb
    obtain rfl : v3 = .int .i64 c := by simpa using hc
    obtain rfl : v4 = .int .i64 cc := by simpa using hcc
    obtain rfl : v5 = .bool on := by simpa using hon
    obtain ⟨y6a, y6b⟩ := y6
    obtain ⟨x, ⟨va, vc, rfl, h1, h2⟩, hD⟩ := byc_arg t6 tu cu g6
    simp only [Prod.mk.injEq] at hxy
    exact ⟨⟨a, nm, b, c, cc, on, x⟩, ⟨va, vc, rfl, h1, h2, hsz, I64.of wb, I64.of wc⟩, ⟨_, _, _, _, _, _, y6a, by simpa using hxy.1, hD⟩⟩
theorem WSts.at {W W' : World} {a : Option Addr} {n c : Nat} {l : List WSt} (h : WSts W (.slice a n c) l) (hB : Below W.heap.size W W') (j : Nat) (hj : j < l.length) :
    ∃ b off va vc, a = some ⟨b, off, none⟩ ∧ b < W.heap.size ∧ (W'.cell? ⟨b, off + j * 7, none⟩ = some (.int .i64 l[j].what) ∧ W'.cell? ⟨b, off + j * 7 + 1, none⟩ = some (.string l[j].name) ∧ W'.cell? ⟨b, off + j * 7 + 2, none⟩ = some (.int .i64 l[j].a) ∧ W'.cell? ⟨b, off + j * 7 + 3, none⟩ = some (.int .i64 l[j].b) ∧ W'.cell? ⟨b, off + j * 7 + 4, none⟩ = some (.int .i64 l[j].c) ∧ W'.cell? ⟨b, off + j * 7 + 5, none⟩ = some (.bool l[j].on) ∧ W'.cell? ⟨b, off + j * 7 + 6, none⟩ = some (.slice va l[j].data.length vc)) ∧
      Bys W (.slice va l[j].data.length vc) l[j].data ∧ l[j].data.length ≤ vc ∧ l[j].name.size ≤ maxLen ∧ I64 l[j].a ∧ I64 l[j].b := by
  obtain ⟨b, off, cs, rfl, ⟨va, vc, rfl, r1, r2, r3, r4, r5⟩, _, h3⟩ := RowsR.at h j hj
  have hl : b < W.heap.size := World.block_lt_of_cell? W _ (h3 0 _ rfl)
  have key : ∀ i v, W.cell? ⟨b, off + j * 7 + i, none⟩ = some v → W'.cell? ⟨b, off + j * 7 + i, none⟩ = some v := fun i v hv => (hB.cell (p := ⟨b, off + j * 7 + i, none⟩) hl).trans hv
  exact ⟨b, off, va, vc, rfl, hl, ⟨key 0 _ (h3 0 _ rfl), key 1 _ (h3 1 _ rfl), key 2 _ (h3 2 _ rfl), key 3 _ (h3 3 _ rfl), key 4 _ (h3 4 _ rfl), key 5 _ (h3 5 _ rfl), key 6 _ (h3 6 _ rfl)⟩, r1, r2, r3, r4, r5⟩
end Go.Proofs.YtejcfhjhjplcnaaGreat
