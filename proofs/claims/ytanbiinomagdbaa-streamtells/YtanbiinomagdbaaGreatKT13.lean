/- What the proof stands on, part 13: the contracts of the program's calls that it reaches. -/
import Derived.Test.YtanbiinomagdbaaGreatKT12
import Derived.Deep.LoopGhost
import Derived.Deep.DeepCutAuto
/- A Raw of either side, of any kind: what a law is told of the two. -/
namespace Go.Proofs.YtanbiinomagdbaaGreat
open Go.RowKit

structure RD (σ : Type) where
  read : σ → Int → List UInt8 × Int × σ
  write : σ → List UInt8 → Int × Int × σ
  seek : σ → Int → Int → Int × Int × σ
structure PlK {σ : Type} (D : RD σ) (T : TypeId) (v : Value) (g mb : Nat) (fr fw fs : FuncId) (A B : σ → World → (Nat → Prop) → Prop) (ok : Nat → σ → Prop) (Md : World → Prop) : Prop where
  mread : ∀ w, (method 480 T v "Read").run Tryz.prog w = .ok (fr, v) w
  mwrite : ∀ w, (method 480 T v "Write").run Tryz.prog w = .ok (fw, v) w
  mseek : ∀ w, (method 480 T v "Seek").run Tryz.prog w = .ok (fs, v) w
  cread : ∀ a w, (callFunc fr a).run Tryz.prog w = .ok (.enter fr a) w
  cwrite : ∀ a w, (callFunc fw a).run Tryz.prog w = .ok (.enter fw a) w
  cseek : ∀ a w, (callFunc fs a).run Tryz.prog w = .ok (.enter fs a) w
  oA : ∀ s, OAt (A s)
  oB : ∀ s, OAt (B s)
  less : ∀ n s, ok (n + 1) s → ok n s
  nr : ∀ n s k, ok (n + 1) s → ok n (D.read s k).2.2
  nw : ∀ n s x, ok (n + 1) s → x.length ≤ 1048576 → ok n (D.write s x).2.2
  ns : ∀ n s o wh, ok (n + 1) s → ok n (D.seek s o wh).2.2
  few : ∀ {w : World} {O : Nat → Prop} {s : σ} (n : Int), A s w O → (D.read s n).1.length ≤ 1048576
  pr : ∀ {w : World} {O : Nat → Prop} {s : σ} (n : Int), A s w O → ok 1 s → Calls Tryz.prog fr #[v, .int .i64 n] w fun e w' => ∃ u, e = .returned (.tuple #[u, .int .i64 (D.read s n).2.1]) ∧ w'.ownsRow w.heap.size 5 1 u (D.read s n).1.length ((D.read s n).1.map bv) ∧ A (D.read s n).2.2 w' O ∧ Turned O w w'
  qr : ∀ {w : World} {O : Nat → Prop} {s : σ} (n : Int), B s w O → ok 1 s → Calls Tryz.prog 21 #[.pointer (some ⟨g, 0, none⟩), .int .i64 n] w fun e w' => ∃ u, e = .returned (.tuple #[u, .int .i64 (D.read s n).2.1]) ∧ Bys w' u (D.read s n).1 ∧ OStep (B (D.read s n).2.2) w O w'
  pw : ∀ {w : World} {O : Nat → Prop} {s : σ} (x : List UInt8) (a : Option Addr) (c : Nat), A s w O → ok 1 s → Bys w (.slice a x.length c) x → x.length ≤ c → x.length ≤ 1048576 → (0 < x.length → ∀ k, (Value.slice a x.length c).ownBlock = some k → ¬ O k) →
    Calls Tryz.prog fw #[v, .slice a x.length c] w fun e w' => e = .returned (.tuple #[.int .i64 (D.write s x).1, .int .i64 (D.write s x).2.1]) ∧ OStep (A (D.write s x).2.2) w O w'
  qw : ∀ {w : World} {O : Nat → Prop} {s : σ} (x : List UInt8) (a : Option Addr) (c : Nat), B s w O → ok 1 s → Bys w (.slice a x.length c) x → x.length ≤ c → x.length ≤ 1048576 → (0 < x.length → ∀ k, (Value.slice a x.length c).ownBlock = some k → ¬ O k) →
    Calls Tryz.prog 26 #[.pointer (some ⟨g, 0, none⟩), .slice a x.length c] w fun e w' => e = .returned (.tuple #[.int .i64 (D.write s x).1, .int .i64 (D.write s x).2.1]) ∧ OStep (B (D.write s x).2.2) w O w'
  ps : ∀ {w : World} {O : Nat → Prop} {s : σ} (o wh : Int), A s w O → ok 1 s → I64 o → Calls Tryz.prog fs #[v, .int .i64 o, .int .i64 wh] w fun e w' => e = .returned (.tuple #[.int .i64 (D.seek s o wh).1, .int .i64 (D.seek s o wh).2.1]) ∧ OStep (A (D.seek s o wh).2.2) w O w'
  qs : ∀ {w : World} {O : Nat → Prop} {s : σ} (o wh : Int), B s w O → ok 1 s → I64 o → Calls Tryz.prog 27 #[.pointer (some ⟨g, 0, none⟩), .int .i64 o, .int .i64 wh] w fun e w' => e = .returned (.tuple #[.int .i64 (D.seek s o wh).1, .int .i64 (D.seek s o wh).2.1]) ∧ OStep (B (D.seek s o wh).2.2) w O w'
  same : ∀ {w : World} {s : σ}, Both (A s) (B s) w (fun j => mb < j) → Md w → ok 0 s → Calls Tryz.prog 28 #[.pointer (some ⟨mb, 0, none⟩)] w fun e w' => e = .returned (.bool true) ∧ Below w.heap.size w w'
abbrev PP {σ : Type} (A B : σ → World → (Nat → Prop) → Prop) (s : σ) (lo : Nat) (w : World) : Prop := Both (A s) (B s) w (fun j => lo ≤ j)
theorem pk_num {σ : Type} {A B : σ → World → (Nat → Prop) → Prop} (oA : ∀ s, OAt (A s)) (oB : ∀ s, OAt (B s)) {s s' : σ} {lo : Nat} {w : World} {F G : FuncId} {X Y : Array Value} {N E : Int} (h : PP A B s lo w) (hlo : lo ≤ w.heap.size)
    (hF : ∀ O wb, A s wb O → (∀ j, O j → lo ≤ j ∧ (j < w.heap.size ∨ wb.heap.size ≤ j)) → Below w.heap.size w wb → Calls Tryz.prog F X wb fun e w' => e = .returned (.tuple #[.int .i64 N, .int .i64 E]) ∧ OStep (A s') wb O w')
    (hG : ∀ O wb, B s wb O → (∀ j, O j → lo ≤ j) → Turned (fun j => lo ≤ j) w wb → Calls Tryz.prog G Y wb fun e w' => e = .returned (.tuple #[.int .i64 N, .int .i64 E]) ∧ OStep (B s') wb O w') :
    ∀ wb, Below w.heap.size w wb → Calls Tryz.prog F X wb fun e w1 => e = .returned (.tuple #[.int .i64 N, .int .i64 E]) ∧ Turned (fun j => lo ≤ j ∧ (j < w.heap.size ∨ wb.heap.size ≤ j)) wb w1 ∧ Turned (fun j => lo ≤ j) w w1 ∧
      ∀ w2, Below w1.heap.size w1 w2 → Calls Tryz.prog G Y w2 fun e w3 => e = .returned (.tuple #[.int .i64 N, .int .i64 E]) ∧ Hid (PP A B s' lo w3) ∧ Turned (fun j => lo ≤ j ∧ (j < w.heap.size ∨ wb.heap.size ≤ j)) wb w3 ∧ Turned (fun j => lo ≤ j) w w3 := by
  intro wb hb
  have hbb := Both.below h (oA _) (oB _) hb
  have hzb := hb.size
  obtain ⟨O, h1, h2, h3, -⟩ := hbb.one (oB _)
  refine (hF O wb h1 (fun j e => (h2 j e).1) hb).mono ?_
  rintro e w1 ⟨rfl, hS⟩
  obtain ⟨q1, q2⟩ := h3 (A s') wb w1 (Below.refl _ _) (oA _) hS
  have hT1 : Turned (fun j => lo ≤ j) w w1 := (Turned.of_below (S := fun j => lo ≤ j) hb).trans (q2.mono fun _ e => e.1) (fun _ _ e => e)
  refine ⟨rfl, q2, hT1, fun w2 hb2 => ?_⟩
  have hz1 := q2.size
  have hz2 := hb2.size
  have q3 := q1.below (oA _) (oB _) hb2
  obtain ⟨P, p1, p2, p3, -⟩ := q3.two (oA _)
  have hT2 := hT1.trans (Turned.of_below (S := fun j => lo ≤ j) hb2) (fun _ _ e => e)
  refine (hG P w2 p1 (fun j e => by rcases (p2 j e).1.1 with e | e; exact e.1; exact Nat.le_trans (Nat.le_trans hlo hzb) e) hT2).mono ?_
  rintro e w3 ⟨rfl, hS3⟩
  obtain ⟨r1, r2⟩ := p3 (B s') w2 w3 (Below.refl _ _) (oB _) hS3
  have hin : ∀ j, ((fun j => ((lo ≤ j ∧ (j < w.heap.size ∨ wb.heap.size ≤ j)) ∨ wb.heap.size ≤ j) ∧ (j < w1.heap.size ∨ w2.heap.size ≤ j)) j) → lo ≤ j ∧ (j < w.heap.size ∨ wb.heap.size ≤ j) := fun j e => by
    rcases e.1 with e1 | e1
    · exact e1
    · exact ⟨by omega, .inr e1⟩
  refine ⟨rfl, hide (r1.mono fun j e => ?_), (q2.trans (Turned.of_below (S := fun j => lo ≤ j ∧ (j < w.heap.size ∨ wb.heap.size ≤ j)) hb2) (fun _ _ e => e)).trans (r2.mono hin) (fun _ _ e => e), hT2.trans (r2.mono fun j e => (hin j e).1) (fun _ _ e => e)⟩
  rcases e with e | e
  · exact (hin j e).1
  · show lo ≤ j; omega
end Go.Proofs.YtanbiinomagdbaaGreat

/- A kernel's description as a plant's kind, given its Same. -/
namespace Go.Proofs.YtanbiinomagdbaaGreat
open Go.RowKit Go.Maps

theorem kat_o (kb : Nat) (K : KS) : OAt (fun w O => KAt w O kb K) := ⟨fun h hk hs => h.keep hk hs, fun h => h.trim⟩
theorem RwS.trim {g mb : Nat} {d : Int} {W : World} {O : Nat → Prop} {K : KS} (h : RwS g mb d W O K) : RwS g mb d W (fun k => O k ∧ k < W.heap.size) K := by
  obtain ⟨P, c, h1, h2, h3, h4, h5⟩ := h
  exact ⟨_, c, h1, h2.trim, fun k e => ⟨h3 k e.1, e.2⟩, ⟨h4, (Array.getElem?_eq_some_iff.1 h1).1⟩, fun e => h5 e.1⟩
theorem rws_o (g mb : Nat) (d : Int) (K : KS) : OAt (fun w O => RwS g mb d w O K) := ⟨fun h hk hs => h.keep hk hs, fun h => h.trim⟩
theorem read_counts (K : KS) (d n : Int) : (K.read d n).2.2.reads ≤ K.reads + 1 ∧ (K.read d n).2.2.writes = K.writes := by
  unfold KS.read
  cases hx : K.find d with
  | none => exact ⟨Nat.le_succ _, rfl⟩
  | some y =>
    simp only
    split
    · exact ⟨Nat.le_succ _, rfl⟩
    split
    · exact ⟨Nat.le_succ _, rfl⟩
    split
    · exact ⟨Nat.le_succ _, rfl⟩
    split
    · exact ⟨Nat.le_succ _, rfl⟩
    split
    · cases ho : K.tho y <;> exact ⟨Nat.le_refl _, rfl⟩
    · exact ⟨Nat.le_refl _, rfl⟩
theorem write_counts (K : KS) (d : Int) (b : List UInt8) : (K.write d b).2.2.writes ≤ K.writes + 1 ∧ (K.write d b).2.2.reads = K.reads := by
  unfold KS.write
  cases hx : K.find d with
  | none => exact ⟨Nat.le_succ _, rfl⟩
  | some y =>
    simp only
    split
    · exact ⟨Nat.le_succ _, rfl⟩
    split
    · exact ⟨Nat.le_succ _, rfl⟩
    split
    · exact ⟨Nat.le_succ _, rfl⟩
    split
    · split
      · cases ho : K.tho y <;> exact ⟨Nat.le_refl _, rfl⟩
      · exact ⟨Nat.le_refl _, rfl⟩
    · exact ⟨Nat.le_succ _, rfl⟩
end Go.Proofs.YtanbiinomagdbaaGreat

/- A plant's kinds: memories and custom streams. -/
namespace Go.Proofs.YtanbiinomagdbaaGreat
open Go.RowKit

end Go.Proofs.YtanbiinomagdbaaGreat

/- Slices of anything that came in as an argument: what a walk is told of them, and their sizes. -/
namespace Go.Proofs.YtanbiinomagdbaaGreat
open Go.ChangeShapes Go.WideShapes Go.ChangeAt Go.RowKit Go.Deep

def DatL {H : Type} {α : Type} (Dt : DataW H → α → Prop) (d : DataW H) (l : List α) : Prop := (d = .nil ∧ l = []) ∨ ∃ elems spare : List (DataW H), d = .slice elems spare ∧ l.length = elems.length ∧ ∀ i (hi : i < l.length), ∃ di, di ∈ elems ∧ Dt di l[i]
def RowsR {α : Type} (W : World) (k : Nat) (Rd : List Value → α → Prop) (v : Value) (l : List α) : Prop :=
  (v = .slice none 0 0 ∧ l = []) ∨ ∃ q cap, v = .slice (some q) l.length cap ∧ l.length ≤ cap ∧ (0 < l.length → ∃ b off, q = ⟨b, off, none⟩ ∧ ∀ j (hj : j < l.length), ∃ cs, Rd cs l[j] ∧ cs.length = k ∧ ∀ i v, cs[i]? = some v → W.cell? ⟨b, off + j * k + i, none⟩ = some v)
theorem rows_arg {H : Type} {enc : TypeId × Value → H} {P : Program} {W : World} {base : Nat} {a : Option Addr} {len cap fuel t e : Nat} {d : DataW H} {p : List MemPlace} {α : Type} (k : Nat) (Rd : List Value → α → Prop) (Dt : DataW H → α → Prop)
    (ht : P.underlying t = some (.slice e)) (ce : P.cellsOf e = k) (hk : 0 < k)
    (each : ∀ fuel cs d p, DataW.trod enc P W base (fun _ => true) true fuel e cs = some (d, p) → cs.length = k → ∃ x, Rd cs x ∧ Dt d x)
    (hf : DataW.trod enc P W base (fun _ => true) true fuel t (Value.slice a len cap).cells.toList = some (d, p)) :
    ∃ l : List α, RowsR W k Rd (.slice a len cap) l ∧ DatL Dt d l := by
  rcases open_slice ht hf with ⟨hcs, hd⟩ | ⟨x, n, c, m, kk, D, Pl, hcs, _, hl, hm, hmm, hx, hel⟩
  · simp [Value.cells] at hcs
    obtain ⟨rfl, rfl, rfl⟩ := hcs
    exact ⟨[], .inl ⟨rfl, rfl⟩, .inl ⟨(Prod.mk.inj hd).1, rfl⟩⟩
  · simp [Value.cells] at hcs
    obtain ⟨rfl, rfl, rfl⟩ := hcs
    simp only [if_true] at hmm
    subst hmm
    have ea : ∀ i, i < len → ∃ s : α, Dt (D i) s ∧ ∃ cs, Rd cs s ∧ cs.length = k ∧ ∀ j v, cs[j]? = some v → W.cell? ((x.add (i * k)).add j) = some v := by
      intro i hi
      obtain ⟨cs', h1, h2⟩ := hel i (by omega)
      rw [ce] at h1
      obtain ⟨_, hlen, hcell⟩ := World.cells?_some h1
      obtain ⟨s, hs, hD⟩ := each _ _ _ _ h2 hlen
      refine ⟨s, hD, cs', hs, hlen, fun j v hj => ?_⟩
      have hjl := (List.getElem?_eq_some_iff.1 hj).1
      rw [hcell j (by omega)]
      exact hj
    by_cases hα : 0 < len
    case neg =>
      obtain rfl : len = 0 := by omega
      exact ⟨[], .inr ⟨x, _, rfl, Nat.zero_le _, fun h => absurd h (by simp)⟩, .inr ⟨_, _, (Prod.mk.inj hx).1, by simp, fun i hi => absurd hi (by simp)⟩⟩
    obtain ⟨s, hs⟩ : ∃ s : Nat → α, ∀ i, i < len → Dt (D i) (s i) ∧ ∃ cs, Rd cs (s i) ∧ cs.length = k ∧ ∀ j v, cs[j]? = some v → W.cell? ((x.add (i * k)).add j) = some v := by
      exact ⟨fun i => if h : i < len then (ea i h).choose else (ea 0 hα).choose, fun i hi => by simp only [dif_pos hi]; exact (ea i hi).choose_spec⟩
    refine ⟨(List.range len).map s, .inr ⟨x, m, by simp, by simpa using hl, fun h0 => ?_⟩, .inr ⟨_, _, (Prod.mk.inj hx).1, by simp, fun i hi => ?_⟩⟩
    · obtain ⟨b, off, spot⟩ := x
      obtain ⟨_, cs0, _, hc0, q0⟩ := hs 0 hα
      have hspot : spot = none := by
        have h1 := q0 0 (cs0[0]'(by omega)) (List.getElem?_eq_getElem (by omega))
        simpa [Addr.add] using World.cell?_spot h1
      subst hspot
      refine ⟨b, off, rfl, fun j hj => ?_⟩
      have hj' : j < len := by simpa using hj
      obtain ⟨_, cs, h1, h2, h3⟩ := hs j hj'
      have hadd : ∀ o k, (⟨b, o, none⟩ : Addr).add k = ⟨b, o + k, none⟩ := fun o k => by unfold Addr.add; split <;> simp_all
      simp only [List.getElem_map, List.getElem_range]
      exact ⟨cs, h1, h2, fun i v hv => by have := h3 i v hv; rwa [hadd, hadd] at this⟩
    · have hi' : i < len := by simpa using hi
      exact ⟨D i, List.mem_map.2 ⟨i, by simpa using hi', rfl⟩, by simpa using (hs i hi').1⟩
theorem RowsR.form {α : Type} {W : World} {k : Nat} {Rd : List Value → α → Prop} {v : Value} {l : List α} (h : RowsR W k Rd v l) : ∃ a c, v = .slice a l.length c ∧ l.length ≤ c := by
  rcases h with ⟨rfl, rfl⟩ | ⟨q, cap, rfl, h1, _⟩
  · exact ⟨_, _, rfl, Nat.le_refl _⟩
  · exact ⟨_, _, rfl, h1⟩
def MSmall {H : Type} (P : Program) (t : TypeId) (d : DataW H) : Prop := ∀ n ∈ d.weights P t, n ≤ reachBytes
theorem msmall_arg {H : Type} {P : Program} {ts : List TypeId} {ds : List (DataW H)} (h : (DataW.weightsEach P ts ds).all (· ≤ reachBytes) = true) {j : Nat} {t : TypeId} {d : DataW H} (ht : ts[j]? = some t) (hd : ds[j]? = some d) : MSmall P t d :=
  fun n hn => of_decide_eq_true (List.all_eq_true.1 h _ (DataW.weights_mem_each ht hd n hn))
theorem MSmall.slice {H : Type} {P : Program} {t e : TypeId} {es sp : List (DataW H)} (h : MSmall P t (.slice es sp)) (hu : P.underlying t = some (.slice e)) : (es.length + sp.length) * P.bytesOf e ≤ reachBytes ∧ ∀ d ∈ es, MSmall P e d :=
  ⟨h _ (by simp [DataW.weights, hu]), fun d hd n hn => h n (by
    simp only [DataW.weights, hu, List.mem_cons, List.mem_append]
    exact Or.inr (Or.inl (Kp_weightsAll_mem hd n hn)))⟩
theorem mrows_small {H : Type} {P : Program} {t e : TypeId} {d : DataW H} {α : Type} {Dt : DataW H → α → Prop} {l : List α} {n : Nat} (h : MSmall P t d) (hu : P.underlying t = some (.slice e)) (be : P.bytesOf e = n) (hO : DatL Dt d l) : l.length * n ≤ 140737488351232 ∧ ∀ i (hi : i < l.length), ∃ di, MSmall P e di ∧ Dt di l[i] := by
  rcases hO with ⟨_, rfl⟩ | ⟨es, sp, rfl, hl, hel⟩
  · exact ⟨by simp, fun i hi => absurd hi (by simp)⟩
  · obtain ⟨h1, h2⟩ := h.slice hu
    rw [be] at h1
    simp only [reachBytes] at h1
    refine ⟨Nat.le_trans (Nat.mul_le_mul_right _ (by omega)) h1, fun i hi => ?_⟩
    obtain ⟨di, hm, hO⟩ := hel i hi
    exact ⟨di, h2 di hm, hO⟩
def ByC (W : World) (v : Value) (x : List UInt8) : Prop := ∃ va vc, v = .slice va x.length vc ∧ Bys W (.slice va x.length vc) x ∧ x.length ≤ vc
theorem byc_arg {H : Type} {enc : TypeId × Value → H} {P : Program} {W : World} {base fuel e u : Nat} {v : Value} {d : DataW H} {p : List MemPlace} (he : P.underlying e = some (.slice u)) (hu : P.underlying u = some (.int .u8)) (cu : P.cellsOf u = 1)
    (h : DataW.trod enc P W base (fun _ => true) true fuel e [v] = some (d, p)) : ∃ x, ByC W v x ∧ Kp_DataOf d x := by
  obtain ⟨va, vl, vc, rfl⟩ : ∃ va vl vc, v = .slice va vl vc := by
    rcases DataW.trod_slice he h with ⟨h0, _⟩ | ⟨x, len, cap, _, _, _, _, h0, _⟩
    · exact ⟨_, _, _, by simpa using h0⟩
    · exact ⟨_, _, _, by simpa using h0⟩
  obtain ⟨s, hs, hc, hO⟩ := bytes_arg2 he hu cu (by simpa [Value.cells] using h)
  obtain rfl := Kp_bys_len hs
  exact ⟨s, ⟨va, vc, rfl, hs, hc⟩, hO⟩
end Go.Proofs.YtanbiinomagdbaaGreat

/- Lines, steps, answers and numbers that came in as an argument: what a walk is told of them, and their sizes. -/
namespace Go.Proofs.YtanbiinomagdbaaGreat
open Go.ChangeShapes Go.WideShapes Go.ChangeAt Go.RowKit Go.Deep

def MLns (W : World) (v : Value) (ls : List (List UInt8)) : Prop := RowsR W 1 (fun cs x => ∃ u, cs = [u] ∧ ByC W u x) v ls
structure MSt where
  what : Int
  n : Int
  m : Int
  data : List UInt8
end Go.Proofs.YtanbiinomagdbaaGreat

/- A plant that came in as an argument: what a walk is told of it, and its size. -/
namespace Go.Proofs.YtanbiinomagdbaaGreat
open Go.ChangeShapes Go.WideShapes Go.ChangeAt Go.RowKit Go.Deep

def ACells (W : World) (cs : List Value) (x : List UInt8 × Int) : Prop := ∃ va vc, cs = [.slice va x.1.length vc, .int .i64 x.2] ∧ Bys W (.slice va x.1.length vc) x.1 ∧ x.1.length ≤ vc
def ADat {H : Type} (d : DataW H) (x : List UInt8 × Int) : Prop := ∃ d0 d1, d = .agg [d0, d1] ∧ Kp_DataOf d0 x.1
theorem ans_cells {H : Type} {enc : TypeId × Value → H} {P : Program} {W : World} {base : Nat} {fuel e u : Nat} {f0 f1 : Field} {cs : List Value} {d : DataW H} {p : List MemPlace}
    (he : P.underlying e = some (.struct #[f0, f1])) (ce : P.cellsOf e = 2) (o0 : f0.offset = 0) (o1 : f1.offset = 1) (c0 : P.cellsOf f0.type = 1) (c1 : P.cellsOf f1.type = 1)
    (t0 : P.underlying f0.type = some (.slice u)) (tu : P.underlying u = some (.int .u8)) (cu : P.cellsOf u = 1) (t1 : P.underlying f1.type = some (.int .i64))
    (h : DataW.trod enc P W base (fun _ => true) true fuel e cs = some (d, p)) : ∃ x, ACells W cs x ∧ ADat d x := by
  obtain ⟨xs, k, hk, hxy, hcl, hxl, hf⟩ := DataW.trod_struct he h
  rw [ce] at hcl
  match xs, hxl, cs, hcl with
  | [y0, y1], _, [v0, v1], _ =>
    have g0 := hf 0 f0 rfl
    have g1 := hf 1 f1 rfl
    simp [o0, c0] at g0
    simp [o1, c1] at g1
    obtain ⟨b, hb, _⟩ := DataW.trod_int t1 g1
    obtain rfl : v1 = .int .i64 b := by simpa using hb
    obtain ⟨y0a, y0b⟩ := y0
    obtain ⟨x, ⟨va, vc, rfl, h1, h2⟩, hD⟩ := byc_arg t0 tu cu g0
    simp only [Prod.mk.injEq] at hxy
    exact ⟨(x, b), ⟨va, vc, rfl, h1, h2⟩, ⟨y0a, _, by simpa using hxy.1, hD⟩⟩
theorem rows_ans {W : World} {v : Value} {l : List (List UInt8 × Int)} (h : RowsR W 2 (ACells W) v l) : AnsR W v l := by
  rcases h with ⟨rfl, rfl⟩ | ⟨q, cap, rfl, h1, h2⟩
  · exact ⟨_, _, rfl, fun h => absurd h (by simp)⟩
  · refine ⟨some q, cap, rfl, fun h0 => ?_⟩
    obtain ⟨b, off, rfl, hd⟩ := h2 h0
    refine ⟨b, off, rfl, fun j hj => ?_⟩
    obtain ⟨cs, ⟨va, vc, rfl, r1, r2⟩, _, h3⟩ := hd j hj
    exact ⟨va, vc, h3 0 _ rfl, h3 1 _ rfl, r1, r2⟩
theorem rows_ints {W : World} {v : Value} {l : List Int} (h : RowsR W 1 (fun cs x => cs = [.int .i64 x]) v l) : IntsR W v l := by
  rcases h with ⟨rfl, rfl⟩ | ⟨q, cap, rfl, h1, h2⟩
  · exact .inl ⟨rfl, rfl⟩
  · refine .inr ⟨q, cap, rfl, fun h0 => ?_⟩
    obtain ⟨b, off, rfl, hd⟩ := h2 h0
    refine ⟨b, off, rfl, fun j hj => ?_⟩
    obtain ⟨cs, rfl, _, h3⟩ := hd j hj
    have := h3 0 _ rfl
    rwa [Nat.mul_one, Nat.add_zero] at this
def FCells (cs : List Value) (x : Int × Int) : Prop := cs = [.int .i64 x.1, .int .i64 x.2]
theorem flt_cells {H : Type} {enc : TypeId × Value → H} {P : Program} {W : World} {base : Nat} {fuel e : Nat} {f0 f1 : Field} {cs : List Value} {d : DataW H} {p : List MemPlace}
    (he : P.underlying e = some (.struct #[f0, f1])) (ce : P.cellsOf e = 2) (o0 : f0.offset = 0) (o1 : f1.offset = 1) (c0 : P.cellsOf f0.type = 1) (c1 : P.cellsOf f1.type = 1)
    (t0 : P.underlying f0.type = some (.int .i64)) (t1 : P.underlying f1.type = some (.int .i64))
    (h : DataW.trod enc P W base (fun _ => true) true fuel e cs = some (d, p)) : ∃ x, FCells cs x ∧ True := by
  obtain ⟨xs, k, hk, hxy, hcl, hxl, hf⟩ := DataW.trod_struct he h
  rw [ce] at hcl
  match xs, hxl, cs, hcl with
  | [y0, y1], _, [v0, v1], _ =>
    have g0 := hf 0 f0 rfl
    have g1 := hf 1 f1 rfl
    simp [o0, c0] at g0
    simp [o1, c1] at g1
    obtain ⟨a, ha, _⟩ := DataW.trod_int t0 g0
    obtain ⟨b, hb, _⟩ := DataW.trod_int t1 g1
    obtain rfl : v0 = .int .i64 a := by simpa using ha
    obtain rfl : v1 = .int .i64 b := by simpa using hb
    exact ⟨(a, b), rfl, trivial⟩
structure Plt where
  kind : Int
  size : Int
  data : List UInt8
  reads : List (List UInt8 × Int)
  writes : List Int
  fs : List (Int × Int)
  lines : List (List UInt8)
  place : Int
  app : Bool
structure PltIn (W : World) (x : Plt) (dv rv wv fv lv : Value) : Prop where
  d : ByC W dv x.data
  r : AnsR W rv x.reads
  w : IntsR W wv x.writes
  f : RowsR W 2 FCells fv x.fs
  l : MLns W lv x.lines
end Go.Proofs.YtanbiinomagdbaaGreat

/- Plant.Panics. -/
namespace Go.Proofs.YtanbiinomagdbaaGreat
open Go.RowKit

def Plt.k6 (x : Plt) : Int := (wrap64 (x.kind.tmod 6 + 6)).tmod 6
end Go.Proofs.YtanbiinomagdbaaGreat

/- MemoryPlays: the walk, given what Make makes. -/
namespace Go.Proofs.YtanbiinomagdbaaGreat
open Go.RowKit

theorem pl_new (w : World) (x : Plt) (dv rv wv fv lv : Value) (h : PltIn w x dv rv wv fv lv) (W : World) (hB : Below w.heap.size w W) : PltIn W x dv rv wv fv lv := by
  refine ⟨?_, h.r.below hB, h.w.below hB, ?_, ?_⟩
  · obtain ⟨va, vc, rfl, hb, hc⟩ := h.d
    exact ⟨va, vc, rfl, hb.below hB, hc⟩
  · rcases h.f with h | ⟨q, cap, rfl, h1, h2⟩
    · exact .inl h
    · refine .inr ⟨q, cap, rfl, h1, fun h0 => ?_⟩
      obtain ⟨b, off, rfl, hd⟩ := h2 h0
      refine ⟨b, off, rfl, fun j hj => ?_⟩
      obtain ⟨cs, c1, c2, c3⟩ := hd j hj
      exact ⟨cs, c1, c2, fun i v hv => (hB.cell (p := ⟨b, off + j * 2 + i, none⟩) (World.block_lt_of_cell? w _ (c3 i v hv))).trans (c3 i v hv)⟩
  · rcases h.l with h | ⟨q, cap, rfl, h1, h2⟩
    · exact .inl h
    · refine .inr ⟨q, cap, rfl, h1, fun h0 => ?_⟩
      obtain ⟨b, off, rfl, hd⟩ := h2 h0
      refine ⟨b, off, rfl, fun j hj => ?_⟩
      obtain ⟨cs, ⟨u, e, va, vc, e2, hb, hc⟩, c2, c3⟩ := hd j hj
      exact ⟨cs, ⟨u, e, va, vc, e2, hb.below hB, hc⟩, c2, fun i v hv => (hB.cell (p := ⟨b, off + j * 1 + i, none⟩) (World.block_lt_of_cell? w _ (c3 i v hv))).trans (c3 i v hv)⟩
theorem Both.turned {A B : World → (Nat → Prop) → Prop} {w w' : World} {Q S : Nat → Prop} (h : Both A B w Q) (hA : OAt A) (hB : OAt B) (hT : Turned S w w') (hS : ∀ j, Q j → ¬ S j) : Both A B w' Q := by
  obtain ⟨O, P, h1, h2, h3, h4⟩ := h
  exact ⟨O, P, hA.keep h1 (fun j e hl => hT.block j hl (hS j (h3 j e).1)) hT.size, hB.keep h2 (fun j e hl => hT.block j hl (hS j (h4 j e).1)) hT.size, fun j e => ⟨(h3 j e).1, Nat.lt_of_lt_of_le (h3 j e).2.1 hT.size, (h3 j e).2.2⟩, fun j e => ⟨(h4 j e).1, Nat.lt_of_lt_of_le (h4 j e).2 hT.size⟩⟩
end Go.Proofs.YtanbiinomagdbaaGreat

/- Plant.kernel: a kernel's file or terminal, of both sides. -/
namespace Go.Proofs.YtanbiinomagdbaaGreat
open Go.RowKit Go.Maps

def kfs (x : Plt) (tm : Bool) : List Nm := if tm = true then [] else [(⟨#[102]⟩, x.data)]
def kts (x : Plt) (tm : Bool) : List Tp := if tm = true then [(⟨#[102]⟩, x.lines)] else []
def kfl (x : Plt) : Int := if x.app = true then 7 else 3
theorem rat_o (kb : Nat) (K : KS) : OAt (fun w O => RAt w O kb K) := ⟨fun h hk hs => h.keep hk hs, fun h => h.trim⟩
theorem flts_of_rows {W : World} {v : Value} {l : List (Int × Int)} (h : RowsR W 2 FCells v l) : Flts W v l := by
  rcases h with ⟨rfl, rfl⟩ | ⟨q, cap, rfl, h1, h2⟩
  · exact .inl ⟨rfl, rfl⟩
  · by_cases h0 : 0 < l.length
    · obtain ⟨b, off, rfl, hd⟩ := h2 h0
      refine .inr (.inr ⟨b, off, cap, rfl, h0, h1, fun j hj => ?_⟩)
      obtain ⟨cs, rfl, -, h3⟩ := hd j hj
      have e : l.getD j (0, 0) = l[j] := by rw [List.getD_eq_getElem?_getD, List.getElem?_eq_getElem hj]; rfl
      rw [e]
      exact ⟨h3 0 _ rfl, h3 1 _ rfl⟩
    · have e := List.length_eq_zero_iff.1 (show l.length = 0 by omega)
      subst e
      exact .inr (.inl ⟨_, _, rfl, rfl⟩)
theorem lns_of_rows {W : World} {v : Value} {l : List (List UInt8)} (h : MLns W v l) : Lns W v l := by
  rcases h with ⟨rfl, rfl⟩ | ⟨q, cap, rfl, h1, h2⟩
  · exact ⟨none, 0, rfl, fun h => absurd h (by decide)⟩
  · refine ⟨some q, cap, rfl, fun h0 => ?_⟩
    obtain ⟨b, off, rfl, hd⟩ := h2 h0
    refine ⟨b, off, rfl, fun j hj => ?_⟩
    obtain ⟨cs, ⟨u, rfl, va, vc, rfl, hb, -⟩, -, h3⟩ := hd j hj
    have := h3 0 _ rfl
    rw [Nat.mul_one, Nat.add_zero] at this
    exact ⟨va, vc, this, hb⟩
theorem nms_none (W : World) (a : Option Addr) (c : Nat) : Nms W (.slice a 0 c) [] := ⟨a, c, rfl, Nat.zero_le _, fun h => absurd h (by decide)⟩
theorem tps_none (W : World) (a : Option Addr) (c : Nat) : Tps W (.slice a 0 c) [] := ⟨a, c, rfl, Nat.zero_le _, fun h => absurd h (by decide)⟩
theorem nms_f {W : World} {g : Nat} {da : Option Addr} {dc : Nat} {d : List UInt8} (h : W.heap[g]? = some (.cells #[.string ⟨#[102]⟩, .slice da d.length dc] 114)) (hb : Bys W (.slice da d.length dc) d) (hc : d.length ≤ dc) : Nms W (.slice (some ⟨g, 0, none⟩) 1 1) [(⟨#[102]⟩, d)] := by
  refine ⟨_, _, rfl, Nat.le_refl _, fun _ => ⟨g, 0, rfl, fun j hj => ?_⟩⟩
  obtain rfl : j = 0 := by simp at hj; exact hj
  exact ⟨da, dc, cell_of_row W g 0 _ _ _ h, cell_of_row W g 1 _ _ _ h, hb, hc, show (1 : Nat) ≤ maxLen by decide⟩
theorem tps_f {W : World} {g : Nat} {la : Option Addr} {lc : Nat} {l : List (List UInt8)} (h : W.heap[g]? = some (.cells #[.string ⟨#[102]⟩, .slice la l.length lc] 118)) (hb : Lns W (.slice la l.length lc) l) : Tps W (.slice (some ⟨g, 0, none⟩) 1 1) [(⟨#[102]⟩, l)] := by
  refine ⟨_, _, rfl, Nat.le_refl _, fun _ => ⟨g, 0, rfl, fun j hj => ?_⟩⟩
  obtain rfl : j = 0 := by simp at hj; exact hj
  exact ⟨la, lc, cell_of_row W g 0 _ _ _ h, cell_of_row W g 1 _ _ _ h, hb, show (1 : Nat) ≤ maxLen by decide⟩
def mdZ : Array Value := #[.nilIface, .pointer none, .pointer none, .pointer none, .pointer none, .pointer none, .pointer none]
def KernOut (x : Plt) (tm : Bool) (mb : Nat) (w : World) (e : Ending) (w' : World) : Prop :=
  Turned (fun k => k = mb) w w' ∧ (e = .returned (.bool false) ∨ ∃ kb rb g : Nat, e = .returned (.bool true) ∧ checkE (kfs x tm) (kts x tm) x.fs = 0 ∧ ((KS.new (kfs x tm) (kts x tm) x.fs).open ⟨#[102]⟩ (kfl x)).2.1 = 0 ∧
    w'.heap[mb]? = some (.cells #[.iface 300 (.agg #[.pointer (some ⟨kb, 0, none⟩), .int .i64 ((KS.new (kfs x tm) (kts x tm) x.fs).open ⟨#[102]⟩ (kfl x)).1]), .pointer (some ⟨g, 0, none⟩), .pointer none, .pointer none, .pointer none, .pointer (some ⟨kb, 0, none⟩), .pointer (some ⟨rb, 0, none⟩)] 65) ∧
    Both (fun w O => KAt w O kb ((KS.new (kfs x tm) (kts x tm) x.fs).open ⟨#[102]⟩ (kfl x)).2.2) (fun w O => RwS g rb ((KS.new (kfs x tm) (kts x tm) x.fs).open ⟨#[102]⟩ (kfl x)).1 w O ((KS.new (kfs x tm) (kts x tm) x.fs).open ⟨#[102]⟩ (kfl x)).2.2) w' (fun j => w.heap.size ≤ j))
set_option maxRecDepth 100000 in
set_option maxHeartbeats 8000000 in
theorem mkern_any (x : Plt) (dv rv wv fv lv : Value) (mb : Nat) (tm : Bool) (w : World) (h : PltIn w x dv rv wv fv lv) (hm : w.heap[mb]? = some (.cells mdZ 65)) (zf : x.fs.length * 16 ≤ 140737488351232) (zl : x.lines.length * 24 ≤ 140737488351232) :
    Calls Tryz.prog 95 #[.agg #[.int .i64 x.kind, .int .i64 x.size, dv, rv, wv, fv, lv, .int .i64 x.place, .bool x.app], .pointer (some ⟨mb, 0, none⟩), .bool tm] w (KernOut x tm mb w) := by
  have HP := hide (pl_new w x dv rv wv fv lv h)
  obtain ⟨da, dc, rfl, -⟩ := h.d
  obtain ⟨ra, rc, rfl, -⟩ := h.r
  obtain ⟨wa, wc0, rfl⟩ := h.w.form
  obtain ⟨fa, fc, rfl, -⟩ := h.f.form
  obtain ⟨la, lc, rfl, -⟩ := RowsR.form h.l
  clear h
  have hml : mb < w.heap.size := (Array.getElem?_eq_some_iff.1 hm).1
  have HM := hide hm
  clear hm
  go_enter Tryz.func95, Tryz.ntmps95
  go_upto_region 1 with fail
  have HB0 := hide (recv4 w (Obj.cells #[.int .i64 x.kind, .int .i64 x.size, .slice da x.data.length dc, .slice ra x.reads.length rc, .slice wa x.writes.length wc0, .slice fa x.fs.length fc, .slice la x.lines.length lc, .int .i64 x.place, .bool x.app] 50))
  have HW0 := hide (heap_alloc_new w (Obj.cells #[.int .i64 x.kind, .int .i64 x.size, .slice da x.data.length dc, .slice ra x.reads.length rc, .slice wa x.writes.length wc0, .slice fa x.fs.length fc, .slice la x.lines.length lc, .int .i64 x.place, .bool x.app] 50))
  generalize w.alloc (Obj.cells #[.int .i64 x.kind, .int .i64 x.size, .slice da x.data.length dc, .slice ra x.reads.length rc, .slice wa x.writes.length wc0, .slice fa x.fs.length fc, .slice la x.lines.length lc, .int .i64 x.place, .bool x.app] 50) = w0 at *
  have hz0 : w.heap.size < w0.heap.size := (Array.getElem?_eq_some_iff.1 HW0.out).1
  have p2 := cell_of_row w0 w.heap.size 2 _ _ _ HW0.out
  simp at p2
  go_upto_if 21 with fail
  have hBN := recv4 w0 (Obj.cells #[.string ⟨#[102]⟩, .slice da x.data.length dc] 114)
  have hBT := recv4 (w0.alloc (Obj.cells #[.string ⟨#[102]⟩, .slice da x.data.length dc] 114)) (Obj.cells #[] 118)
  have hzN : (w0.alloc (Obj.cells #[.string ⟨#[102]⟩, .slice da x.data.length dc] 114)).heap.size = w0.heap.size + 1 := Array.size_push _
  have hN1 := (hBT.block w0.heap.size (by omega)).trans (heap_alloc_new w0 (Obj.cells #[.string ⟨#[102]⟩, .slice da x.data.length dc] 114))
  have HB1 := hide (hBN.trans (hBT.mono hBN.size))
  have HN1 := hide hN1
  clear hBN hBT hzN hN1 p2
  generalize (w0.alloc (Obj.cells #[.string ⟨#[102]⟩, .slice da x.data.length dc] 114)).alloc (Obj.cells #[] 118) = w1 at *
  have HW1 := hide ((HB1.out.block w.heap.size hz0).trans HW0.out)
  have hz1 := HB1.out.size
  go_cut [7, 8] (fun s7 s8 wx => ∃ (a1 a2 : Option Addr) (c1 c2 : Nat), s7 = .slice a1 (kfs x tm).length c1 ∧ s8 = .slice a2 (kts x tm).length c2 ∧ Hid (Nms wx (.slice a1 (kfs x tm).length c1) (kfs x tm)) ∧ Hid (Tps wx (.slice a2 (kts x tm).length c2) (kts x tm)) ∧ Hid (Below w0.heap.size w0 wx))
  case first =>
    cases tm with
    | false =>
      go_wp2
      go_meet
      obtain ⟨da', dc', e, hb, hc⟩ := (HP.out w1 (HB0.out.trans (HB1.out.mono HB0.out.size))).d
      cases e
      exact ⟨_, _, _, _, rfl, rfl, hide (nms_f HN1.out hb hc), hide (tps_none _ _ _), HB1⟩
    | true =>
      have p6 := cell_of_row w1 w.heap.size 6 _ _ _ HW1.out
      simp at p6
      have p6a : (w1.alloc (Obj.cells #[] 114)).cell? ⟨w.heap.size, 6, none⟩ = some (.slice la x.lines.length lc) := ((recv4 w1 (Obj.cells #[] 114)).cell (p := ⟨w.heap.size, 6, none⟩) (by show w.heap.size < _; omega)).trans p6
      go_wp2_with fail
      go_region
      all_goals
        go_wp2
        go_meet
        first
        | (have hA := recv4 w1 (Obj.cells #[] 114)
           have hC := recv4 (w1.alloc (Obj.cells #[] 114)) (Obj.cells #[.string ⟨#[102]⟩, .slice la x.lines.length lc] 118)
           have hz : (w1.alloc (Obj.cells #[] 114)).heap.size = w1.heap.size + 1 := Array.size_push _
           have hh := heap_alloc_new (w1.alloc (Obj.cells #[] 114)) (Obj.cells #[.string ⟨#[102]⟩, .slice la x.lines.length lc] 118)
           rw [hz] at hh
           have hB := HB1.out.trans (((hA.trans (hC.mono hA.size)).drew).mono HB1.out.size)
           exact ⟨_, _, _, _, rfl, rfl, hide (nms_none _ _ _), hide (tps_f (g := w1.heap.size + 1) hh (lns_of_rows (HP.out _ (HB0.out.trans (hB.mono HB0.out.size))).l)), hide hB⟩)
        | (have hA := recv4 w1 (Obj.cells #[.string ⟨#[102]⟩, .slice la x.lines.length lc] 118)
           have hC := recv4 (w1.alloc (Obj.cells #[.string ⟨#[102]⟩, .slice la x.lines.length lc] 118)) (Obj.cells #[] 114)
           have hz : (w1.alloc (Obj.cells #[.string ⟨#[102]⟩, .slice la x.lines.length lc] 118)).heap.size = w1.heap.size + 1 := Array.size_push _
           have hh := (hC.block w1.heap.size (by omega)).trans (heap_alloc_new w1 (Obj.cells #[.string ⟨#[102]⟩, .slice la x.lines.length lc] 118))
           have hB := HB1.out.trans (((hA.trans (hC.mono hA.size)).drew).mono HB1.out.size)
           exact ⟨_, _, _, _, rfl, rfl, hide (nms_none _ _ _), hide (tps_f (g := w1.heap.size) hh (lns_of_rows (HP.out _ (HB0.out.trans (hB.mono HB0.out.size))).l)), hide hB⟩)
  case rest =>
    obtain ⟨a1, a2, c1, c2, rfl, rfl, HNm, HTp, HBx⟩ := hcut
    obtain ⟨wq, hq⟩ : ∃ W, W = wc := ⟨_, rfl⟩
    subst hq
    have HBw := hide (HB0.out.trans (HBx.out.mono HB0.out.size))
    have hrow := (HBx.out.block w.heap.size hz0).trans HW0.out
    have p8 := cell_of_row wq w.heap.size 8 _ _ _ hrow
    have p5 := cell_of_row wq w.heap.size 5 _ _ _ hrow
    simp at p8 p5
    have hzx := HBx.out.size
    have HRow := hide hrow
    clear hrow HB1 HN1 HW1 hz1
    go_upto_if 28 with fail
    go_cut [9] (fun s9 wx => s9 = .int .i64 (kfl x) ∧ wx = wq)
    case first =>
      go_wp2
      all_goals
        go_meet
        first
        | exact ⟨by unfold kfl; rw [if_pos (by assumption)], rfl⟩
        | exact ⟨by unfold kfl; rw [if_neg (by simp_all)], rfl⟩
    case rest =>
      obtain ⟨rfl, hwc⟩ := hcut
      rw [hwc]
      clear hwc p8
      obtain ⟨fs, hfs⟩ : ∃ fs, fs = kfs x tm := ⟨_, rfl⟩
      obtain ⟨ts, hts⟩ : ∃ ts, ts = kts x tm := ⟨_, rfl⟩
      have hfl : fs.length ≤ 1 := by rw [hfs]; unfold kfs; split <;> simp
      have htl : ts.length ≤ 1 := by rw [hts]; unfold kts; split <;> simp
      have htj : ∀ j (hj : j < ts.length), ts[j].2.length * 24 ≤ 140737488351232 := by
        rw [hts]
        unfold kts
        intro j hj
        split at hj
        · obtain rfl : j = 0 := by simp at hj; exact hj
          simp only [*]
          exact zl
        · simp at hj
      obtain ⟨fl, hfg⟩ : ∃ fl, fl = kfl x := ⟨_, rfl⟩
      rw [← hfs] at HNm
      rw [← hts] at HTp
      rw [← hfs, ← hts, ← hfg]
      have HEq := hide (And.intro hfs (And.intro hts hfg))
      clear hfs hts hfg
      have HFt := hide (fun (W : World) (hW : Below w.heap.size w W) => flts_of_rows (HP.out W hW).f)
      go_wp2_with fail
      refine (rkcheck_any _ _ _ fs ts x.fs wq HNm.out HTp.out (HFt.out wq HBw.out) (by omega) (by omega) htj (by unfold maxLen; omega)).mono ?_
      rintro _ w2 ⟨rfl, hB2⟩
      have HB2 := hide hB2
      have hz2 := hB2.size
      have HBw2 := hide (HBw.out.trans (hB2.mono HBw.out.size))
      have HRow2 := hide ((hB2.block w.heap.size (by omega)).trans HRow.out)
      have q5 := cell_of_row w2 w.heap.size 5 _ _ _ HRow2.out
      simp at q5
      clear hB2 p5
      by_cases hE : checkE fs ts x.fs = 0
      case neg =>
        have hE2 : (checkE fs ts x.fs == 0) = false := by simpa using hE
        have hE3 : (checkE fs ts x.fs != 0) = true := by simpa using hE
        generalize checkE fs ts x.fs = E at *
        go_wp2
        go_ret
        exact ⟨Turned.of_below (S := fun k => k = mb) HBw2.out, .inl rfl⟩
      have HN := hide (knew_good a1 a2 fa c1 c2 fc fs ts x.fs w2 (HNm.out.below HB2.out) (HTp.out.below HB2.out) (HFt.out w2 HBw2.out) zf (by omega) (by omega) hE)
      have HE := hide hE
      rw [hE]
      clear hE
      go_wp2_with fail
      refine HN.out.mono ?_
      rintro _ w3 ⟨kb, rfl, hK, hB3⟩
      have hz3 := hB3.size
      have HK3 := hide hK
      have HB3 := hide hB3
      have HBw3 := hide (HBw2.out.trans (hB3.mono HBw2.out.size))
      have r5 := (hB3.cell (p := ⟨w.heap.size, 5, none⟩) (by show w.heap.size < _; omega)).trans q5
      clear hK hB3 HN q5
      go_wp2_with fail
      refine (copyf_any _ x.fs w3 (HFt.out w3 HBw3.out) zf).mono ?_
      rintro _ w4 ⟨v4, rfl, hO4, hB4⟩
      obtain ⟨xa, xc, rfl⟩ := owns_slice hO4
      have HN2 := hide (rknew_any a1 a2 xa c1 c2 xc fs ts x.fs w3 w4 hB4 ((HNm.out.below HB2.out).below HB3.out) ((HTp.out.below HB2.out).below HB3.out) (Flts.of_owns hO4) (fun k e => hO4.lt k e) HE.out)
      clear hO4 r5
      go_wp2_with fail
      refine HN2.out.mono ?_
      rintro _ w5 ⟨ρ, I, rfl, hRK, hB5⟩
      have hz5 := hB5.size
      have HR5 := hide (RAt.of_page (w := w3) (fun _ e => e) hRK)
      have HB35 := hide hB5
      generalize I.kb = rb at *
      have HM5 := hide ((hB5.block mb (by omega)).trans ((HBw3.out.block mb hml).trans HM.out))
      have HBw5 := hide (HBw3.out.trans (hB5.mono HBw3.out.size))
      clear hRK hB5 hB4 HN2
      unfold mdZ at HM5
      have m5 := cell_of_row w5 mb 5 _ _ _ HM5.out
      have f5 := frozen_of_row w5 mb 5 _ _ HM5.out
      have e5 := Go.heap_setCell_same w5 mb 5 _ _ (.pointer (some ⟨kb, 0, none⟩)) HM5.out
      have m6 := cell_of_row _ mb 6 _ _ _ e5
      have f6 := frozen_of_row _ mb 6 _ _ e5
      have m60 := cell_of_row w5 mb 6 _ _ _ HM5.out
      have f60 := frozen_of_row w5 mb 6 _ _ HM5.out
      have e6 := Go.heap_setCell_same _ mb 6 _ _ (.pointer (some ⟨rb, 0, none⟩)) e5
      simp at m5 m6 m60
      simp only [List.setIfInBounds_toArray, List.set_cons_zero, List.set_cons_succ] at e6
      have hT6 : Turned (fun k => k = mb) w5 ((w5.setCell ⟨mb, 5, none⟩ (.pointer (some ⟨kb, 0, none⟩))).setCell ⟨mb, 6, none⟩ (.pointer (some ⟨rb, 0, none⟩))) := ((Turned.refl (fun k => k = mb) w5).set (.inl rfl)).set (.inl rfl)
      have HT6 := hide hT6
      have HM6 := hide e6
      clear e5 e6 hT6
      go_upto_region 12 with fail
      generalize (w5.setCell ⟨mb, 5, none⟩ (.pointer (some ⟨kb, 0, none⟩))).setCell ⟨mb, 6, none⟩ (.pointer (some ⟨rb, 0, none⟩)) = w6 at *
      clear m5 m6 m60 f5 f6 f60
      have hQ : ∀ j, w.heap.size ≤ j → ¬ j = mb := fun j h e => by omega
      have HBo := hide (Both.turned (Q := fun j => w.heap.size ≤ j) (Both.make (kat_o kb (KS.new fs ts x.fs)) (rat_o rb (KS.new fs ts x.fs)) HK3.out (fun j e _ => (by have e2 : w2.heap.size ≤ j := e; omega : w.heap.size ≤ j)) (fun j e _ => (by omega : w.heap.size ≤ j)) HB35.out HR5.out) (kat_o _ _) (rat_o _ _) HT6.out hQ)
      have HTw6 := hide ((Turned.of_below (S := fun k => k = mb) HBw5.out).trans HT6.out (fun _ _ e => e))
      have HNn := new_nums fs ts x.fs
      have hok := HK3.out.ok
      have HNm0 := hide hok.2
      have HKo := hide (And.intro (pinv_open (pinv_new fs ts x.fs (new_de fs ts x.fs)) hok.1 hok.2 ⟨#[102]⟩ fl) HNn)
      have hz6 := HTw6.out.size
      clear HK3 HR5 HT6 hok
      generalize hK0 : KS.new fs ts x.fs = K0 at *
      have HK0 := hide hK0
      clear hK0
      obtain ⟨O, h1, h2, h3, -⟩ := HBo.out.one (rat_o _ _)
      have HOp := hide (KAt.open h1 ⟨#[102]⟩ fl (show (1 : Nat) ≤ maxLen by decide) (by have := HNn.1; omega))
      have H3 := hide h3
      clear h1 h2 h3
      go_wp2_with fail
      refine HOp.out.mono ?_
      rintro _ w7 ⟨rfl, hS7⟩
      obtain ⟨hb7, hT7⟩ := H3.out (fun w O => KAt w O kb (K0.open ⟨#[102]⟩ fl).2.2) w6 w7 (Below.refl _ _) (kat_o _ _) hS7
      have hz7 := hT7.size
      have HM7 := hide ((hT7.block mb (by omega) (fun e => by omega)).trans HM6.out)
      have HTw7 := hide (HTw6.out.trans hT7 (fun k hk e => absurd e (by omega)))
      have HB7 := hide hb7
      clear hS7 hT7 hb7 HOp H3 HBo HM6 HTw6
      obtain ⟨P, g1, g2, g3, -⟩ := HB7.out.two (kat_o _ _)
      have HOp := hide (RAt.open g1 ⟨#[102]⟩ fl HNm0.out (show (1 : Nat) ≤ maxLen by decide) (by have := HNn.1; omega) (by have := HNn.1; omega))
      have H3 := hide g3
      have m6 := cell_of_row w7 mb 6 _ _ _ HM7.out
      simp at m6
      clear g1 g2 g3
      go_wp2_with fail
      refine HOp.out.mono ?_
      rintro _ w8 ⟨rfl, hS8⟩
      obtain ⟨hb8, hT8⟩ := H3.out (fun w O => RAt w O rb (K0.open ⟨#[102]⟩ fl).2.2) w7 w8 (Below.refl _ _) (rat_o _ _) hS8
      have hz8 := hT8.size
      have HM8 := hide ((hT8.block mb (by omega) (fun e => by rcases e with e | e <;> omega)).trans HM7.out)
      have HTw8 := hide (HTw7.out.trans hT8 (fun k hk e => absurd e (by rintro (e | e) <;> omega)))
      have HB8 := hide hb8
      clear hS8 hT8 hb8 HOp H3 HB7 HM7 HTw7 m6
      obtain ⟨d, hd⟩ : ∃ d, d = (K0.open ⟨#[102]⟩ fl).1 := ⟨_, rfl⟩
      obtain ⟨E, hE⟩ : ∃ E, E = (K0.open ⟨#[102]⟩ fl).2.1 := ⟨_, rfl⟩
      obtain ⟨K1, hK1⟩ : ∃ K1, K1 = (K0.open ⟨#[102]⟩ fl).2.2 := ⟨_, rfl⟩
      rw [← hK1] at HB8
      rw [← hd, ← hE]
      have HDe := hide (And.intro hd (And.intro hE hK1))
      clear hd hE hK1
      by_cases he : E = 0
      case neg =>
        have he2 : (E == 0) = false := by simpa using he
        have he3 : (E != 0) = true := by simpa using he
        go_wp2
        go_ret
        exact ⟨HTw8.out, .inl rfl⟩
      have HEe := hide he
      subst he
      have m6 := cell_of_row w8 mb 6 _ _ _ HM8.out
      simp at m6
      go_wp2_with fail
      refine (of_any rb d w8).mono ?_
      rintro _ w9 ⟨rfl, hG9, hB9⟩
      have hz9 := hB9.size
      have hM9 := (hB9.block mb (by omega)).trans HM8.out
      have hg9 : w8.heap.size < w9.heap.size := (Array.getElem?_eq_some_iff.1 hG9).1
      have m0 := cell_of_row w9 mb 0 _ _ _ hM9
      have f0 := frozen_of_row w9 mb 0 _ _ hM9
      have e0 := Go.heap_setCell_same w9 mb 0 _ _ (.iface 300 (.agg #[.pointer (some ⟨kb, 0, none⟩), .int .i64 d])) hM9
      have m1 := cell_of_row _ mb 1 _ _ _ e0
      have f1 := frozen_of_row _ mb 1 _ _ e0
      have m10 := cell_of_row w9 mb 1 _ _ _ hM9
      have f10 := frozen_of_row w9 mb 1 _ _ hM9
      have e1 := Go.heap_setCell_same _ mb 1 _ _ (.pointer (some ⟨w8.heap.size, 0, none⟩)) e0
      simp at m0 m1 m10
      simp only [List.setIfInBounds_toArray, List.set_cons_zero, List.set_cons_succ] at e1
      have hT10 : Turned (fun k => k = mb) w9 ((w9.setCell ⟨mb, 0, none⟩ (.iface 300 (.agg #[.pointer (some ⟨kb, 0, none⟩), .int .i64 d]))).setCell ⟨mb, 1, none⟩ (.pointer (some ⟨w8.heap.size, 0, none⟩))) := ((Turned.refl (fun k => k = mb) w9).set (.inl rfl)).set (.inl rfl)
      have hB89 : Both (fun w O => KAt w O kb K1) (fun w O => RwS w8.heap.size rb d w O K1) w9 (fun j => w.heap.size ≤ j) := by
        obtain ⟨O', P', b1, b2, b3, b4⟩ := HB8.out
        have hq : ∀ j, (((fun j => w.heap.size ≤ j) j ∨ w6.heap.size ≤ j) ∨ w7.heap.size ≤ j) → w.heap.size ≤ j := fun j e => by
          rcases e with (e | e) | e
          · exact e
          · omega
          · omega
        refine ⟨O', fun k => P' k ∨ k = w8.heap.size, (kat_o _ _).keep b1 (fun j _ hl => hB9.block j hl) hz9, ⟨P', 0, hG9, (rat_o _ _).keep b2 (fun j _ hl => hB9.block j hl) hz9, fun k e => .inl e, .inr rfl, fun e => by have := (b4 _ e).2; omega⟩, fun j e => ⟨hq j (b3 j e).1, by have := (b3 j e).2.1; omega, fun e' => ?_⟩, fun j e => ?_⟩
        · rcases e' with e' | e'
          · exact (b3 j e).2.2 e'
          · have := (b3 j e).2.1; omega
        · rcases e with e | e
          · exact ⟨hq j (b4 j e).1, by have := (b4 j e).2; omega⟩
          · exact ⟨by omega, by omega⟩
      have HF := hide (Both.turned hB89 (kat_o _ _) (rws_o _ _ _ _) hT10 hQ)
      have HMf := hide e1
      have HTf := hide ((HTw8.out.trans (Turned.of_below (S := fun k => k = mb) hB9) (fun _ _ e => e)).trans hT10 (fun _ _ e => e))
      have HG9 := hide hG9
      clear hB9 hM9 e0 e1 hT10 hB89 hG9 m6
      go_wp2
      go_ret
      obtain ⟨q1, q2, q3⟩ := HEq.out
      obtain ⟨r1, r2, r3⟩ := HDe.out
      unfold KernOut
      rw [← q1, ← q2, ← q3, HK0.out]
      exact ⟨HTf.out, .inr ⟨kb, rb, w8.heap.size, rfl, HE.out, r2.symm, by rw [← r1]; exact HMf.out, by rw [← r1, ← r3]; exact HF.out⟩⟩
end Go.Proofs.YtanbiinomagdbaaGreat

/- Plant.Make, of a kernel's file or terminal. -/
namespace Go.Proofs.YtanbiinomagdbaaGreat
open Go.RowKit Go.Maps

def kmD (x : Plt) (tm : Bool) : Int := ((KS.new (kfs x tm) (kts x tm) x.fs).open ⟨#[102]⟩ (kfl x)).1
def kmK (x : Plt) (tm : Bool) : KS := ((KS.new (kfs x tm) (kts x tm) x.fs).open ⟨#[102]⟩ (kfl x)).2.2
def MkrAt (mb kb rb g : Nat) (d : Int) (W : World) : Prop := W.heap[mb]? = some (.cells #[.iface 300 (.agg #[.pointer (some ⟨kb, 0, none⟩), .int .i64 d]), .pointer (some ⟨g, 0, none⟩), .pointer none, .pointer none, .pointer none, .pointer (some ⟨kb, 0, none⟩), .pointer (some ⟨rb, 0, none⟩)] 65)
def MakeKer (x : Plt) (tm : Bool) (w : World) (e : Ending) (w' : World) : Prop := Below w.heap.size w w' ∧ ((∃ p, e = .returned (.tuple #[.pointer p, .bool false])) ∨
  ∃ mb kb rb g : Nat, w.heap.size ≤ mb ∧ e = .returned (.tuple #[.pointer (some ⟨mb, 0, none⟩), .bool true]) ∧ checkE (kfs x tm) (kts x tm) x.fs = 0 ∧ ((KS.new (kfs x tm) (kts x tm) x.fs).open ⟨#[102]⟩ (kfl x)).2.1 = 0 ∧ MkrAt mb kb rb g (kmD x tm) w' ∧ PP (fun K w O => KAt w O kb K) (fun K w O => RwS g rb (kmD x tm) w O K) ((kmK x tm).seek (kmD x tm) x.place 0).2.2 (mb + 1) w')
theorem km_open {K : KS} (h : K.next < 9223372036854775807) (s : ByteArray) (f : Int) : I64 (K.open s f).1 := by
  have h0 : I64 0 := ⟨by decide, by decide⟩
  have h1 : I64 (K.next : Int) := ⟨by omega, by omega⟩
  unfold KS.open
  repeat' split
  all_goals first | exact h0 | exact h1
theorem km_i64 (x : Plt) (tm : Bool) : I64 (kmD x tm) := by
  have hn := (new_nums (kfs x tm) (kts x tm) x.fs).1
  exact km_open (by omega) _ _
set_option maxRecDepth 100000 in
set_option maxHeartbeats 8000000 in
theorem make_kernel (x : Plt) (dv rv wv fv lv : Value) (w : World) (tm : Bool) (h : PltIn w x dv rv wv fv lv) (hk : x.k6 = if tm = true then 5 else 4) (zf : x.fs.length * 16 ≤ 140737488351232) (zl : x.lines.length * 24 ≤ 140737488351232) (hp : I64 x.place) :
    Calls Tryz.prog 18 #[.agg #[.int .i64 x.kind, .int .i64 x.size, dv, rv, wv, fv, lv, .int .i64 x.place, .bool x.app]] w (MakeKer x tm w) := by
  have HP := hide (pl_new w x dv rv wv fv lv h)
  obtain ⟨da, dc, rfl, -⟩ := h.d
  obtain ⟨ra, rc, rfl, -⟩ := h.r
  obtain ⟨wa, wc, rfl⟩ := h.w.form
  obtain ⟨fa, fc, rfl, -⟩ := h.f.form
  obtain ⟨la, lc, rfl, -⟩ := RowsR.form h.l
  unfold Plt.k6 at hk
  clear h
  cases tm
  case false =>
    simp only [Bool.false_eq_true, if_false] at hk
    go_enter Tryz.func18, Tryz.ntmps18
    go_wp2_with fail
    have hz1 : (w.alloc (Obj.cells #[.int .i64 x.kind, .int .i64 x.size, .slice da x.data.length dc, .slice ra x.reads.length rc, .slice wa x.writes.length wc, .slice fa x.fs.length fc, .slice la x.lines.length lc, .int .i64 x.place, .bool x.app] 50)).heap.size = w.heap.size + 1 := Array.size_push _
    have hz0 : ((w.alloc (Obj.cells #[.int .i64 x.kind, .int .i64 x.size, .slice da x.data.length dc, .slice ra x.reads.length rc, .slice wa x.writes.length wc, .slice fa x.fs.length fc, .slice la x.lines.length lc, .int .i64 x.place, .bool x.app] 50)).alloc (Obj.cells mdZ 65)).heap.size = w.heap.size + 1 + 1 := (Array.size_push _).trans (by rw [show (w.alloc (Obj.cells #[.int .i64 x.kind, .int .i64 x.size, .slice da x.data.length dc, .slice ra x.reads.length rc, .slice wa x.writes.length wc, .slice fa x.fs.length fc, .slice la x.lines.length lc, .int .i64 x.place, .bool x.app] 50)).heap.size = w.heap.size + 1 from hz1])
    have HB0 := hide ((recv4 w (Obj.cells #[.int .i64 x.kind, .int .i64 x.size, .slice da x.data.length dc, .slice ra x.reads.length rc, .slice wa x.writes.length wc, .slice fa x.fs.length fc, .slice la x.lines.length lc, .int .i64 x.place, .bool x.app] 50)).trans ((recv4 (w.alloc (Obj.cells #[.int .i64 x.kind, .int .i64 x.size, .slice da x.data.length dc, .slice ra x.reads.length rc, .slice wa x.writes.length wc, .slice fa x.fs.length fc, .slice la x.lines.length lc, .int .i64 x.place, .bool x.app] 50)) (Obj.cells mdZ 65)).mono (recv4 w (Obj.cells #[.int .i64 x.kind, .int .i64 x.size, .slice da x.data.length dc, .slice ra x.reads.length rc, .slice wa x.writes.length wc, .slice fa x.fs.length fc, .slice la x.lines.length lc, .int .i64 x.place, .bool x.app] 50)).size))
    have hq : ((w.alloc (Obj.cells #[.int .i64 x.kind, .int .i64 x.size, .slice da x.data.length dc, .slice ra x.reads.length rc, .slice wa x.writes.length wc, .slice fa x.fs.length fc, .slice la x.lines.length lc, .int .i64 x.place, .bool x.app] 50)).alloc (Obj.cells mdZ 65)).heap[w.heap.size]? = some (Obj.cells #[.int .i64 x.kind, .int .i64 x.size, .slice da x.data.length dc, .slice ra x.reads.length rc, .slice wa x.writes.length wc, .slice fa x.fs.length fc, .slice la x.lines.length lc, .int .i64 x.place, .bool x.app] 50) := ((recv4 (w.alloc (Obj.cells #[.int .i64 x.kind, .int .i64 x.size, .slice da x.data.length dc, .slice ra x.reads.length rc, .slice wa x.writes.length wc, .slice fa x.fs.length fc, .slice la x.lines.length lc, .int .i64 x.place, .bool x.app] 50)) (Obj.cells mdZ 65)).block w.heap.size (by omega)).trans (heap_alloc_new w (Obj.cells #[.int .i64 x.kind, .int .i64 x.size, .slice da x.data.length dc, .slice ra x.reads.length rc, .slice wa x.writes.length wc, .slice fa x.fs.length fc, .slice la x.lines.length lc, .int .i64 x.place, .bool x.app] 50))
    have hm0 : ((w.alloc (Obj.cells #[.int .i64 x.kind, .int .i64 x.size, .slice da x.data.length dc, .slice ra x.reads.length rc, .slice wa x.writes.length wc, .slice fa x.fs.length fc, .slice la x.lines.length lc, .int .i64 x.place, .bool x.app] 50)).alloc (Obj.cells mdZ 65)).heap[w.heap.size + 1]? = some (Obj.cells mdZ 65) := by
      have := heap_alloc_new (w.alloc (Obj.cells #[.int .i64 x.kind, .int .i64 x.size, .slice da x.data.length dc, .slice ra x.reads.length rc, .slice wa x.writes.length wc, .slice fa x.fs.length fc, .slice la x.lines.length lc, .int .i64 x.place, .bool x.app] 50)) (Obj.cells mdZ 65)
      rwa [hz1] at this
    have HQ := hide (And.intro hq hm0)
    unfold mdZ at HQ HB0 hz0
    generalize ((w.alloc (Obj.cells #[.int .i64 x.kind, .int .i64 x.size, .slice da x.data.length dc, .slice ra x.reads.length rc, .slice wa x.writes.length wc, .slice fa x.fs.length fc, .slice la x.lines.length lc, .int .i64 x.place, .bool x.app] 50)).alloc (Obj.cells #[.nilIface, .pointer none, .pointer none, .pointer none, .pointer none, .pointer none, .pointer none] 65)) = W0 at *
    clear hq hm0 hz1
    obtain ⟨mb, hmb⟩ : ∃ mb, mb = w.heap.size + 1 := ⟨_, rfl⟩
    rw [← hmb] at hz0 HQ
    simp only [← hmb]
    have hwm : w.heap.size < mb := by omega
    clear hmb
    refine (mkern_any x _ _ _ _ _ mb false W0 (HP.out _ HB0.out) HQ.out.2 zf zl).mono ?_
    rintro _ w1 ⟨hT1, h1⟩
    have HB1 := hide (HB0.out.trans (hT1.below (B := w.heap.size) (fun k e => by have e2 : k = mb := e; omega) HB0.out.size))
    have l1 := (hT1.block w.heap.size (by omega) (by show ¬ w.heap.size = mb; omega)).trans HQ.out.1
    have p7 : w1.cell? ⟨w.heap.size, 7, none⟩ = some (.int .i64 x.place) := cell_of_row w1 w.heap.size 7 _ _ _ l1
    clear hT1 HQ
    rcases h1 with rfl | ⟨kb, rb, g, rfl, hE, hO, hM, hBo⟩
    · go_wp2
      go_ret2
      exact ⟨HB1.out, .inl ⟨_, rfl⟩⟩
    change w1.heap[mb]? = some (.cells #[.iface 300 (.agg #[.pointer (some ⟨kb, 0, none⟩), .int .i64 (kmD x false)]), .pointer (some ⟨g, 0, none⟩), .pointer none, .pointer none, .pointer none, .pointer (some ⟨kb, 0, none⟩), .pointer (some ⟨rb, 0, none⟩)] 65) at hM
    change Both (fun w O => KAt w O kb (kmK x false)) (fun w O => RwS g rb (kmD x false) w O (kmK x false)) w1 (fun j => W0.heap.size ≤ j) at hBo
    have HPP : Hid (PP (fun K w O => KAt w O kb K) (fun K w O => RwS g rb (kmD x false) w O K) (kmK x false) (mb + 1) w1) := hide (by
      rw [hz0] at hBo
      exact hBo)
    have hd := km_i64 x false
    obtain ⟨d, hde⟩ : ∃ d, d = kmD x false := ⟨_, rfl⟩
    rw [← hde] at hM HPP hd
    have HDe := hide hde
    clear hBo hde
    have hm3 : ∀ w, (method 480 300 (.agg #[.pointer (some ⟨kb, 0, none⟩), .int .i64 d]) "Seek").run Tryz.prog w = .ok (322, (.agg #[.pointer (some ⟨kb, 0, none⟩), .int .i64 d])) w := fun w => by kernel_rfl
    have hc3 : ∀ a w, (callFunc 322 a).run Tryz.prog w = .ok (.enter 322 a) w := fun a w => by kernel_rfl
    have m0 : w1.cell? ⟨mb, 0, none⟩ = some (.iface 300 (.agg #[.pointer (some ⟨kb, 0, none⟩), .int .i64 d])) := cell_of_row w1 mb 0 _ _ _ hM
    have m1 : w1.cell? ⟨mb, 1, none⟩ = some (.pointer (some ⟨g, 0, none⟩)) := cell_of_row w1 mb 1 _ _ _ hM
    have hml : mb < w1.heap.size := World.block_lt_of_cell? w1 _ m0
    have HC := hide (pk_num (fun K => kat_o _ _) (fun K => rws_o _ _ _ _) (A := fun K w O => KAt w O kb K) (B := fun K w O => RwS g rb d w O K) HPP.out (by omega) (s' := ((kmK x false).seek d x.place 0).2.2) (fun O wb hA _ _ => (hA.hseek d x.place 0 hd hp).mono fun e w' ⟨h1, h2⟩ => ⟨h1, h2⟩) (fun O wb hA _ _ => (rwseek_any g rb d x.place 0 _ _ _ hA).mono fun e w' ⟨h1, h2⟩ => ⟨h1, h2⟩))
    have HS := hide (fun (W' : World) (hT : Turned (fun j => mb + 1 ≤ j) w1 W') => (show (W'.cell? ⟨mb, 0, none⟩ = some (.iface 300 (.agg #[.pointer (some ⟨kb, 0, none⟩), .int .i64 d])) ∧ W'.cell? ⟨mb, 1, none⟩ = some (.pointer (some ⟨g, 0, none⟩)) ∧ W'.cell? ⟨w.heap.size, 7, none⟩ = some (.int .i64 x.place)) ∧ W'.heap[mb]? = w1.heap[mb]? from
      ⟨⟨hT.cell m0 (by show ¬ mb + 1 ≤ mb; omega), hT.cell m1 (by show ¬ mb + 1 ≤ mb; omega), hT.cell p7 (by show ¬ mb + 1 ≤ w.heap.size; omega)⟩, hT.block mb hml (by show ¬ mb + 1 ≤ mb; omega)⟩))
    have HMd := hide hM
    have HX : Hid (((kmK x false).seek d x.place 0).2.2 = ((kmK x false).seek (kmD x false) x.place 0).2.2) := hide (by rw [HDe.out])
    generalize (kmK x false).seek d x.place 0 = X at *
    obtain ⟨N, E, s2⟩ := X
    simp only at *
    go_wp2_with fail
    go_region_held3 (fun w' => w'.cell? ⟨mb, 0, none⟩ = some (.iface 300 (.agg #[.pointer (some ⟨kb, 0, none⟩), .int .i64 d])) ∧ w'.cell? ⟨w.heap.size, 7, none⟩ = some (.int .i64 x.place))
      (first | exact K4 | exact ⟨m0, p7⟩ | go_keep)
      (first
        | (refine (HC.out _ (Below.refl _ _).drew).mono ?_; rintro _ w4 ⟨rfl, -, hT4, hC4⟩; have K4 : w4.cell? ⟨mb, 0, none⟩ = some (.iface 300 (.agg #[.pointer (some ⟨kb, 0, none⟩), .int .i64 d])) ∧ w4.cell? ⟨w.heap.size, 7, none⟩ = some (.int .i64 x.place) := ⟨(HS.out w4 hT4).1.1, (HS.out w4 hT4).1.2.2⟩; have HT4 := hide hT4; have HC4 := hide hC4; clear hT4 hC4)
        | fail)
    have n1 := (HS.out w4 HT4.out).1.2.1
    have n2 := K4.2
    clear K4 HC
    go_wp2_with fail
    go_region_held3 (fun w' => w'.cell? ⟨mb, 1, none⟩ = some (.pointer (some ⟨g, 0, none⟩)) ∧ w'.cell? ⟨w.heap.size, 7, none⟩ = some (.int .i64 x.place))
      (first | exact K6 | exact ⟨n1, n2⟩ | go_keep)
      (first
        | (go_at_call 27; refine (HC4.out _ (Below.refl _ _).drew).mono ?_; rintro _ w6 ⟨rfl, HN6, -, hT6⟩; have K6 : w6.cell? ⟨mb, 1, none⟩ = some (.pointer (some ⟨g, 0, none⟩)) ∧ w6.cell? ⟨w.heap.size, 7, none⟩ = some (.int .i64 x.place) := ⟨(HS.out w6 hT6).1.2.1, (HS.out w6 hT6).1.2.2⟩; have HT6 := hide hT6; clear hT6)
        | fail)
    clear K6 n1 n2 HC4
    go_wp2
    go_ret2
    refine ⟨HB1.out.trans (HT6.out.below (fun j e => by have e2 : mb + 1 ≤ j := e; omega) HB1.out.size), .inr ⟨mb, kb, rb, g, by omega, rfl, hE, hO, ?_, ?_⟩⟩
    · rw [← HDe.out]
      exact (HS.out w6 HT6.out).2.trans HMd.out
    · rw [← HX.out, ← HDe.out]
      exact HN6.out
  case true =>
    simp only [if_true] at hk
    go_enter Tryz.func18, Tryz.ntmps18
    go_wp2_with fail
    have hz1 : (w.alloc (Obj.cells #[.int .i64 x.kind, .int .i64 x.size, .slice da x.data.length dc, .slice ra x.reads.length rc, .slice wa x.writes.length wc, .slice fa x.fs.length fc, .slice la x.lines.length lc, .int .i64 x.place, .bool x.app] 50)).heap.size = w.heap.size + 1 := Array.size_push _
    have hz0 : ((w.alloc (Obj.cells #[.int .i64 x.kind, .int .i64 x.size, .slice da x.data.length dc, .slice ra x.reads.length rc, .slice wa x.writes.length wc, .slice fa x.fs.length fc, .slice la x.lines.length lc, .int .i64 x.place, .bool x.app] 50)).alloc (Obj.cells mdZ 65)).heap.size = w.heap.size + 1 + 1 := (Array.size_push _).trans (by rw [show (w.alloc (Obj.cells #[.int .i64 x.kind, .int .i64 x.size, .slice da x.data.length dc, .slice ra x.reads.length rc, .slice wa x.writes.length wc, .slice fa x.fs.length fc, .slice la x.lines.length lc, .int .i64 x.place, .bool x.app] 50)).heap.size = w.heap.size + 1 from hz1])
    have HB0 := hide ((recv4 w (Obj.cells #[.int .i64 x.kind, .int .i64 x.size, .slice da x.data.length dc, .slice ra x.reads.length rc, .slice wa x.writes.length wc, .slice fa x.fs.length fc, .slice la x.lines.length lc, .int .i64 x.place, .bool x.app] 50)).trans ((recv4 (w.alloc (Obj.cells #[.int .i64 x.kind, .int .i64 x.size, .slice da x.data.length dc, .slice ra x.reads.length rc, .slice wa x.writes.length wc, .slice fa x.fs.length fc, .slice la x.lines.length lc, .int .i64 x.place, .bool x.app] 50)) (Obj.cells mdZ 65)).mono (recv4 w (Obj.cells #[.int .i64 x.kind, .int .i64 x.size, .slice da x.data.length dc, .slice ra x.reads.length rc, .slice wa x.writes.length wc, .slice fa x.fs.length fc, .slice la x.lines.length lc, .int .i64 x.place, .bool x.app] 50)).size))
    have hq : ((w.alloc (Obj.cells #[.int .i64 x.kind, .int .i64 x.size, .slice da x.data.length dc, .slice ra x.reads.length rc, .slice wa x.writes.length wc, .slice fa x.fs.length fc, .slice la x.lines.length lc, .int .i64 x.place, .bool x.app] 50)).alloc (Obj.cells mdZ 65)).heap[w.heap.size]? = some (Obj.cells #[.int .i64 x.kind, .int .i64 x.size, .slice da x.data.length dc, .slice ra x.reads.length rc, .slice wa x.writes.length wc, .slice fa x.fs.length fc, .slice la x.lines.length lc, .int .i64 x.place, .bool x.app] 50) := ((recv4 (w.alloc (Obj.cells #[.int .i64 x.kind, .int .i64 x.size, .slice da x.data.length dc, .slice ra x.reads.length rc, .slice wa x.writes.length wc, .slice fa x.fs.length fc, .slice la x.lines.length lc, .int .i64 x.place, .bool x.app] 50)) (Obj.cells mdZ 65)).block w.heap.size (by omega)).trans (heap_alloc_new w (Obj.cells #[.int .i64 x.kind, .int .i64 x.size, .slice da x.data.length dc, .slice ra x.reads.length rc, .slice wa x.writes.length wc, .slice fa x.fs.length fc, .slice la x.lines.length lc, .int .i64 x.place, .bool x.app] 50))
    have hm0 : ((w.alloc (Obj.cells #[.int .i64 x.kind, .int .i64 x.size, .slice da x.data.length dc, .slice ra x.reads.length rc, .slice wa x.writes.length wc, .slice fa x.fs.length fc, .slice la x.lines.length lc, .int .i64 x.place, .bool x.app] 50)).alloc (Obj.cells mdZ 65)).heap[w.heap.size + 1]? = some (Obj.cells mdZ 65) := by
      have := heap_alloc_new (w.alloc (Obj.cells #[.int .i64 x.kind, .int .i64 x.size, .slice da x.data.length dc, .slice ra x.reads.length rc, .slice wa x.writes.length wc, .slice fa x.fs.length fc, .slice la x.lines.length lc, .int .i64 x.place, .bool x.app] 50)) (Obj.cells mdZ 65)
      rwa [hz1] at this
    have HQ := hide (And.intro hq hm0)
    unfold mdZ at HQ HB0 hz0
    generalize ((w.alloc (Obj.cells #[.int .i64 x.kind, .int .i64 x.size, .slice da x.data.length dc, .slice ra x.reads.length rc, .slice wa x.writes.length wc, .slice fa x.fs.length fc, .slice la x.lines.length lc, .int .i64 x.place, .bool x.app] 50)).alloc (Obj.cells #[.nilIface, .pointer none, .pointer none, .pointer none, .pointer none, .pointer none, .pointer none] 65)) = W0 at *
    clear hq hm0 hz1
    obtain ⟨mb, hmb⟩ : ∃ mb, mb = w.heap.size + 1 := ⟨_, rfl⟩
    rw [← hmb] at hz0 HQ
    simp only [← hmb]
    have hwm : w.heap.size < mb := by omega
    clear hmb
    refine (mkern_any x _ _ _ _ _ mb true W0 (HP.out _ HB0.out) HQ.out.2 zf zl).mono ?_
    rintro _ w1 ⟨hT1, h1⟩
    have HB1 := hide (HB0.out.trans (hT1.below (B := w.heap.size) (fun k e => by have e2 : k = mb := e; omega) HB0.out.size))
    have l1 := (hT1.block w.heap.size (by omega) (by show ¬ w.heap.size = mb; omega)).trans HQ.out.1
    have p7 : w1.cell? ⟨w.heap.size, 7, none⟩ = some (.int .i64 x.place) := cell_of_row w1 w.heap.size 7 _ _ _ l1
    clear hT1 HQ
    rcases h1 with rfl | ⟨kb, rb, g, rfl, hE, hO, hM, hBo⟩
    · go_wp2
      go_ret2
      exact ⟨HB1.out, .inl ⟨_, rfl⟩⟩
    change w1.heap[mb]? = some (.cells #[.iface 300 (.agg #[.pointer (some ⟨kb, 0, none⟩), .int .i64 (kmD x true)]), .pointer (some ⟨g, 0, none⟩), .pointer none, .pointer none, .pointer none, .pointer (some ⟨kb, 0, none⟩), .pointer (some ⟨rb, 0, none⟩)] 65) at hM
    change Both (fun w O => KAt w O kb (kmK x true)) (fun w O => RwS g rb (kmD x true) w O (kmK x true)) w1 (fun j => W0.heap.size ≤ j) at hBo
    have HPP : Hid (PP (fun K w O => KAt w O kb K) (fun K w O => RwS g rb (kmD x true) w O K) (kmK x true) (mb + 1) w1) := hide (by
      rw [hz0] at hBo
      exact hBo)
    have hd := km_i64 x true
    obtain ⟨d, hde⟩ : ∃ d, d = kmD x true := ⟨_, rfl⟩
    rw [← hde] at hM HPP hd
    have HDe := hide hde
    clear hBo hde
    have hm3 : ∀ w, (method 480 300 (.agg #[.pointer (some ⟨kb, 0, none⟩), .int .i64 d]) "Seek").run Tryz.prog w = .ok (322, (.agg #[.pointer (some ⟨kb, 0, none⟩), .int .i64 d])) w := fun w => by kernel_rfl
    have hc3 : ∀ a w, (callFunc 322 a).run Tryz.prog w = .ok (.enter 322 a) w := fun a w => by kernel_rfl
    have m0 : w1.cell? ⟨mb, 0, none⟩ = some (.iface 300 (.agg #[.pointer (some ⟨kb, 0, none⟩), .int .i64 d])) := cell_of_row w1 mb 0 _ _ _ hM
    have m1 : w1.cell? ⟨mb, 1, none⟩ = some (.pointer (some ⟨g, 0, none⟩)) := cell_of_row w1 mb 1 _ _ _ hM
    have hml : mb < w1.heap.size := World.block_lt_of_cell? w1 _ m0
    have HC := hide (pk_num (fun K => kat_o _ _) (fun K => rws_o _ _ _ _) (A := fun K w O => KAt w O kb K) (B := fun K w O => RwS g rb d w O K) HPP.out (by omega) (s' := ((kmK x true).seek d x.place 0).2.2) (fun O wb hA _ _ => (hA.hseek d x.place 0 hd hp).mono fun e w' ⟨h1, h2⟩ => ⟨h1, h2⟩) (fun O wb hA _ _ => (rwseek_any g rb d x.place 0 _ _ _ hA).mono fun e w' ⟨h1, h2⟩ => ⟨h1, h2⟩))
    have HS := hide (fun (W' : World) (hT : Turned (fun j => mb + 1 ≤ j) w1 W') => (show (W'.cell? ⟨mb, 0, none⟩ = some (.iface 300 (.agg #[.pointer (some ⟨kb, 0, none⟩), .int .i64 d])) ∧ W'.cell? ⟨mb, 1, none⟩ = some (.pointer (some ⟨g, 0, none⟩)) ∧ W'.cell? ⟨w.heap.size, 7, none⟩ = some (.int .i64 x.place)) ∧ W'.heap[mb]? = w1.heap[mb]? from
      ⟨⟨hT.cell m0 (by show ¬ mb + 1 ≤ mb; omega), hT.cell m1 (by show ¬ mb + 1 ≤ mb; omega), hT.cell p7 (by show ¬ mb + 1 ≤ w.heap.size; omega)⟩, hT.block mb hml (by show ¬ mb + 1 ≤ mb; omega)⟩))
    have HMd := hide hM
    have HX : Hid (((kmK x true).seek d x.place 0).2.2 = ((kmK x true).seek (kmD x true) x.place 0).2.2) := hide (by rw [HDe.out])
    generalize (kmK x true).seek d x.place 0 = X at *
    obtain ⟨N, E, s2⟩ := X
    simp only at *
    go_wp2_with fail
    go_region_held3 (fun w' => w'.cell? ⟨mb, 0, none⟩ = some (.iface 300 (.agg #[.pointer (some ⟨kb, 0, none⟩), .int .i64 d])) ∧ w'.cell? ⟨w.heap.size, 7, none⟩ = some (.int .i64 x.place))
      (first | exact K4 | exact ⟨m0, p7⟩ | go_keep)
      (first
        | (refine (HC.out _ (Below.refl _ _).drew).mono ?_; rintro _ w4 ⟨rfl, -, hT4, hC4⟩; have K4 : w4.cell? ⟨mb, 0, none⟩ = some (.iface 300 (.agg #[.pointer (some ⟨kb, 0, none⟩), .int .i64 d])) ∧ w4.cell? ⟨w.heap.size, 7, none⟩ = some (.int .i64 x.place) := ⟨(HS.out w4 hT4).1.1, (HS.out w4 hT4).1.2.2⟩; have HT4 := hide hT4; have HC4 := hide hC4; clear hT4 hC4)
        | fail)
    have n1 := (HS.out w4 HT4.out).1.2.1
    have n2 := K4.2
    clear K4 HC
    go_wp2_with fail
    go_region_held3 (fun w' => w'.cell? ⟨mb, 1, none⟩ = some (.pointer (some ⟨g, 0, none⟩)) ∧ w'.cell? ⟨w.heap.size, 7, none⟩ = some (.int .i64 x.place))
      (first | exact K6 | exact ⟨n1, n2⟩ | go_keep)
      (first
        | (go_at_call 27; refine (HC4.out _ (Below.refl _ _).drew).mono ?_; rintro _ w6 ⟨rfl, HN6, -, hT6⟩; have K6 : w6.cell? ⟨mb, 1, none⟩ = some (.pointer (some ⟨g, 0, none⟩)) ∧ w6.cell? ⟨w.heap.size, 7, none⟩ = some (.int .i64 x.place) := ⟨(HS.out w6 hT6).1.2.1, (HS.out w6 hT6).1.2.2⟩; have HT6 := hide hT6; clear hT6)
        | fail)
    clear K6 n1 n2 HC4
    go_wp2
    go_ret2
    refine ⟨HB1.out.trans (HT6.out.below (fun j e => by have e2 : mb + 1 ≤ j := e; omega) HB1.out.size), .inr ⟨mb, kb, rb, g, by omega, rfl, hE, hO, ?_, ?_⟩⟩
    · rw [← HDe.out]
      exact (HS.out w6 HT6.out).2.trans HMd.out
    · rw [← HX.out, ← HDe.out]
      exact HN6.out
end Go.Proofs.YtanbiinomagdbaaGreat
