/- What the proof stands on, part 9: the contracts of the program's calls that it reaches. -/
import Derived.Test.YtdmkjbdlidadiaaGreatKO8
import Derived.Deep.LoopGhost
/- Streams, as values, over any Raw that is one. -/
namespace Go.Proofs.YtdmkjbdlidadiaaGreat
open Go.RowKit

structure SS where
  rd : Bool
  wt : Bool
  mode : Int
  size : Int
  out : List UInt8
  inn : List UInt8
  back : List UInt8
  dir : Int
  fin : Bool
  bad : Bool
  closed : Bool
def SS.buf (x : SS) : Bool := decide (1 ≤ x.mode) && decide (x.mode ≤ 3) && (decide (1 ≤ x.size) && decide (x.size ≤ 65536)) && decide ((x.out.length : Int) ≤ if x.mode = 1 then 0 else x.size) && decide ((x.inn.length : Int) ≤ 65536) && decide ((x.back.length : Int) ≤ 8)
def SS.toR (x : SS) : Bool := decide (0 < (x.inn.length : Int) + (x.back.length : Int))
def SS.toW (x : SS) : Bool := decide (0 < (x.out.length : Int))
def SS.way (x : SS) : Bool :=
  if x.dir = 0 then !x.toR && !x.toW
  else if x.dir = 1 then x.rd && !x.toW && !x.closed
  else if x.dir = 2 then x.wt && !x.toR && !x.closed
  else false
def SS.may (x : SS) : Bool := x.buf && x.way
def SS.refuse (x : SS) (hasRaw : Bool) : Int := if x.may = false then 51 else if hasRaw = false then 2 else if x.closed = true then 113 else 0
def SS.mark (x : SS) (e : Int) : SS := if e = 0 ∨ e = 52 then x else { x with bad := true }
def SS.deliver {S : Type} (D : RawD S) (x : SS) (s : S) : SS × Int × S :=
  (({ x with out := x.out.drop (putV D x.out (putF x.out) s 0 0).1 } : SS).mark (putV D x.out (putF x.out) s 0 0).2.1, (putV D x.out (putF x.out) s 0 0).2.1, (putV D x.out (putF x.out) s 0 0).2.2)
def SS.lay {S : Type} (D : RawD S) (x : SS) (s : S) (c : UInt8) : SS × Int × S :=
  if ((x.out.length + 1 : Nat) : Int) = x.size ∨ (x.mode = 2 ∧ c = 10) then ({ x with out := x.out ++ [c] } : SS).deliver D s else ({ x with out := x.out ++ [c] }, 0, s)
def SS.put1 {S : Type} (D : RawD S) (x : SS) (s : S) (c : UInt8) : SS × Int × S :=
  if x.mode = 1 then (x.mark (putV D [c] (putF [c]) s 0 0).2.1, (putV D [c] (putF [c]) s 0 0).2.1, (putV D [c] (putF [c]) s 0 0).2.2)
  else if (x.out.length : Int) = x.size then
    (if (x.deliver D s).2.1 = 0 then (x.deliver D s).1.lay D (x.deliver D s).2.2 c else x.deliver D s)
  else x.lay D s c
def SS.noWrite (x : SS) : Int := if x.refuse true ≠ 0 then x.refuse true else if x.wt = false then 65 else if x.dir = 1 ∧ ¬ (x.fin = true ∧ (x.inn.length : Int) + (x.back.length : Int) = 0) then 112 else 0
def SS.noRead (x : SS) : Int := if x.refuse true ≠ 0 then x.refuse true else if x.rd = false then 65 else if x.dir = 2 then 112 else 0
def SS.put {S : Type} (D : RawD S) (x : SS) (s : S) (c : UInt8) : SS × Int × S :=
  if x.noWrite = 0 then ({ x with dir := 2 } : SS).put1 D s c else (x, x.noWrite, s)
def SS.most (x : SS) : Nat := if x.mode = 1 then 1 else x.size.toNat
def SS.get1 {S : Type} (D : RawD S) (x : SS) (s : S) : SS × UInt8 × Int × S :=
  if 0 < x.back.length then ({ x with back := x.back.dropLast }, x.back.getD (x.back.length - 1) 0, 0, s)
  else if 0 < x.inn.length then ({ x with inn := x.inn.drop 1 }, x.inn.getD 0 0, 0, s)
  else if x.fin = true then (x, 0, 111, s)
  else if (someV D x.most 8192 s).2.1 ≠ 0 then (x.mark (someV D x.most 8192 s).2.1, 0, (someV D x.most 8192 s).2.1, (someV D x.most 8192 s).2.2)
  else if (someV D x.most 8192 s).1.length = 0 then ({ x with fin := true }, 0, 111, (someV D x.most 8192 s).2.2)
  else ({ x with inn := (someV D x.most 8192 s).1.drop 1 }, (someV D x.most 8192 s).1.getD 0 0, 0, (someV D x.most 8192 s).2.2)
def SS.get {S : Type} (D : RawD S) (x : SS) (s : S) : SS × UInt8 × Int × S :=
  if x.noRead = 0 then ({ x with dir := 1 } : SS).get1 D s else (x, 0, x.noRead, s)
def SS.shut (x : SS) : SS := ⟨x.rd, x.wt, x.mode, x.size, [], [], [], 0, x.fin, x.bad, true⟩
def SS.close {S : Type} (D : RawD S) (x : SS) (s : S) : SS × Int × S :=
  if x.refuse true ≠ 0 then (x, x.refuse true, s)
  else ((x.deliver D s).1.shut, (x.deliver D s).2.1, (x.deliver D s).2.2)
def SS.clear (x : SS) : SS × Int := if x.refuse true ≠ 0 then (x, x.refuse true) else ({ x with fin := false, bad := false }, 0)

theorem may_buf {x : SS} (h : x.may = true) : 1 ≤ x.mode ∧ x.mode ≤ 3 ∧ 1 ≤ x.size ∧ x.size ≤ 65536 ∧ (x.out.length : Int) ≤ x.size ∧ (x.mode = 1 → x.out = []) ∧ x.inn.length ≤ 65536 ∧ x.back.length ≤ 8 := by
  unfold SS.may SS.buf at h
  simp only [Bool.and_eq_true, decide_eq_true_eq] at h
  obtain ⟨⟨⟨⟨⟨⟨h1, h2⟩, h3, h4⟩, h5⟩, h6⟩, h7⟩, -⟩ := h
  refine ⟨h1, h2, h3, h4, ?_, fun e => ?_, by omega, by omega⟩
  · split at h5 <;> omega
  · rw [if_pos e] at h5
    exact List.length_eq_zero_iff.1 (by omega)
theorem refuse_may {x : SS} {b : Bool} (h : x.refuse b = 0) : x.may = true ∧ b = true ∧ x.closed = false := by
  unfold SS.refuse at h
  split at h
  · omega
  split at h
  · omega
  split at h
  · omega
  rename_i h1 h2 h3
  exact ⟨by simpa using h1, by simpa using h2, by simpa using h3⟩
theorem noWrite_may {x : SS} (h : x.noWrite = 0) : x.refuse true = 0 ∧ x.wt = true := by
  unfold SS.noWrite at h
  split at h
  · contradiction
  split at h
  · omega
  rename_i h1 h2
  exact ⟨by simpa using h1, by simpa using h2⟩
theorem noRead_may {x : SS} (h : x.noRead = 0) : x.refuse true = 0 ∧ x.rd = true ∧ x.dir ≠ 2 := by
  unfold SS.noRead at h
  split at h
  · contradiction
  split at h
  · omega
  split at h
  · omega
  rename_i h1 h2 h3
  exact ⟨by simpa using h1, by simpa using h2, h3⟩
theorem putV_le {S : Type} (D : RawD S) (bs : List UInt8) : ∀ k s d t, d ≤ bs.length → d ≤ (putV D bs k s d t).1 ∧ (putV D bs k s d t).1 ≤ bs.length
  | 0, s, d, t, h => ⟨Nat.le_refl _, h⟩
  | k + 1, s, d, t, h => by
    rw [putV_next D bs k s d t (m := (D.write s (bs.drop d)).1) (e := (D.write s (bs.drop d)).2.1) (s2 := (D.write s (bs.drop d)).2.2) rfl]
    split
    · split
      · split
        · exact ⟨Nat.le_refl _, h⟩
        · exact putV_le D bs k _ d _ h
      · split
        · exact ⟨Nat.le_refl _, h⟩
        · split
          · rename_i h1 h2 h3 h4
            have := putV_le D bs k (D.write s (bs.drop d)).2.2 (d + (D.write s (bs.drop d)).1.toNat) 0 (by omega)
            omega
          · exact ⟨Nat.le_refl _, h⟩
    · exact ⟨Nat.le_refl _, h⟩
theorem putV_ok {S : Type} (D : RawD S) (bs : List UInt8) (T : Nat) (hT : T = 8192) (k : Nat) : ∀ s d t, d ≤ bs.length → t < T → (bs.length - d) * T + (T - t) ≤ k → (putV D bs k s d t).2.1 = 0 → (putV D bs k s d t).1 = bs.length := by
  induction k with
  | zero => intro s d t h ht hk he; omega
  | succ k ih =>
    intro s d t h ht hk he
    rw [putV_next D bs k s d t (m := (D.write s (bs.drop d)).1) (e := (D.write s (bs.drop d)).2.1) (s2 := (D.write s (bs.drop d)).2.2) rfl] at he ⊢
    rw [← hT] at he ⊢
    split at he
    · rename_i h1
      rw [if_pos h1]
      split at he
      · rename_i h2
        rw [if_pos h2]
        split at he
        · simp at he
        · rename_i h3
          rw [if_neg h3]
          exact ih _ d (t + 1) h (by omega) (by omega) he
      · rename_i h2
        rw [if_neg h2]
        split at he
        · simp at he
        · rename_i h3
          rw [if_neg h3]
          split at he
          · rename_i h4
            rw [if_pos h4]
            obtain ⟨q, hq⟩ : ∃ q : Nat, (D.write s (bs.drop d)).1 = (q : Int) := ⟨(D.write s (bs.drop d)).1.toNat, by omega⟩
            rw [hq] at h2 h3 he ⊢
            refine ih _ _ 0 (by omega) (by omega) ?_ he
            have : bs.length - d = (bs.length - (d + (q : Int).toNat)) + q := by omega
            rw [this, Nat.add_mul] at hk
            have h5 : 1 * T ≤ q * T := Nat.mul_le_mul_right _ (by omega)
            omega
          · rename_i h4
            exact absurd he h4
    · rename_i h1
      rw [if_neg h1]
      show d = bs.length
      omega
theorem putV_all {S : Type} (D : RawD S) (bs : List UInt8) (s : S) (h : (putV D bs (putF bs) s 0 0).2.1 = 0) : (putV D bs (putF bs) s 0 0).1 = bs.length := putV_ok D bs 8192 rfl _ s 0 0 (Nat.zero_le _) (by omega) (by unfold putF; omega) h
theorem putV_fits {S : Type} (D : RawD S) (bs : List UInt8) (s : S) : (putV D bs (putF bs) s 0 0).1 ≤ bs.length := (putV_le D bs _ s 0 0 (Nat.zero_le _)).2
structure Bears {S : Type} (D : RawD S) (rok wok : S → Prop) (G : Nat → S → Prop) : Prop where
  put : ∀ n s bs, G (n + 1) s → bs.length ≤ 65536 → putOk D wok bs (putF bs) s 0 0 ∧ G n (putV D bs (putF bs) s 0 0).2.2
  some : ∀ n s m, G (n + 1) s → 1 ≤ m → m ≤ 65536 → someOk D rok m 8192 s ∧ G n (someV D m 8192 s).2.2
  less : ∀ n s, G (n + 1) s → G n s
theorem deliver_out {S : Type} (D : RawD S) (x : SS) (s : S) : (x.deliver D s).1.out = x.out.drop (putV D x.out (putF x.out) s 0 0).1 := by
  unfold SS.deliver SS.mark
  split <;> rfl
theorem deliver_ok {S : Type} (D : RawD S) (x : SS) (s : S) (h : (x.deliver D s).2.1 = 0) : (x.deliver D s).1 = { x with out := [] } := by
  have h2 : (putV D x.out (putF x.out) s 0 0).2.1 = 0 := h
  have e := putV_all D x.out s h2
  unfold SS.deliver SS.mark
  rw [if_pos (.inl h2), e, List.drop_length]
end Go.Proofs.YtdmkjbdlidadiaaGreat

/- How many calls of retry a Raw of a plant bears. -/
namespace Go.Proofs.YtdmkjbdlidadiaaGreat
open Go.RowKit

def RD.raw {σ : Type} (D : RD σ) : RawD σ := ⟨fun s n => D.read s n, D.write⟩
theorem ok_down {σ : Type} {ok : Nat → σ → Prop} (hl : ∀ n s, ok (n + 1) s → ok n s) (s : σ) (m : Nat) : ∀ n, m ≤ n → ok n s → ok m s
  | 0, h, ho => by rwa [Nat.le_zero.1 h]
  | n + 1, h, ho => by
    by_cases e : m = n + 1
    · rwa [e]
    · exact ok_down hl s m n (by omega) (hl n s ho)
theorem be_some {σ : Type} (D : RD σ) {ok : Nat → σ → Prop} (hr : ∀ n s k, ok (n + 1) s → ok n (D.read s k).2.2) (hl : ∀ n s, ok (n + 1) s → ok n s) (m : Nat) : ∀ k j s, ok (j + k + 1) s → someOk D.raw (ok 1) m k s ∧ ok (j + 1) (someV D.raw m k s).2.2
  | 0, j, s, h => ⟨trivial, h⟩
  | k + 1, j, s, h => by
    have hs : ok (j + k + 1) (D.raw.read s m).2.2 := hr _ s _ h
    obtain ⟨i1, i2⟩ := be_some D hr hl m k j _ hs
    have hj : ok (j + 1) (D.raw.read s m).2.2 := ok_down hl _ _ _ (by omega) hs
    refine ⟨⟨ok_down hl s 1 _ (by omega) h, fun _ => i1⟩, ?_⟩
    rw [someV_next D.raw m k s (b := (D.raw.read s m).1) (e := (D.raw.read s m).2.1) (s2 := (D.raw.read s m).2.2) rfl]
    split
    · exact i2
    split
    · exact hj
    split <;> exact hj
theorem be_put {σ : Type} (D : RD σ) {ok : Nat → σ → Prop} (hw : ∀ n s (x : List UInt8), ok (n + 1) s → x.length ≤ 1048576 → ok n (D.write s x).2.2) (hl : ∀ n s, ok (n + 1) s → ok n s) (bs : List UInt8) (hb : bs.length ≤ 65536) : ∀ k j s d t, ok (j + k + 1) s → putOk D.raw (ok 1) bs k s d t ∧ ok (j + 1) (putV D.raw bs k s d t).2.2
  | 0, j, s, d, t, h => ⟨trivial, h⟩
  | k + 1, j, s, d, t, h => by
    have hs : ok (j + k + 1) (D.raw.write s (bs.drop d)).2.2 := hw _ s _ h (by rw [List.length_drop]; omega)
    have hj : ok (j + 1) (D.raw.write s (bs.drop d)).2.2 := ok_down hl _ _ _ (by omega) hs
    refine ⟨fun _ => ⟨ok_down hl s 1 _ (by omega) h, fun _ _ => (be_put D hw hl bs hb k j _ _ _ hs).1, fun _ _ _ => (be_put D hw hl bs hb k j _ _ _ hs).1⟩, ?_⟩
    rw [putV_next D.raw bs k s d t (m := (D.raw.write s (bs.drop d)).1) (e := (D.raw.write s (bs.drop d)).2.1) (s2 := (D.raw.write s (bs.drop d)).2.2) rfl]
    split
    · split
      · split
        · exact hj
        · exact (be_put D hw hl bs hb k j _ _ _ hs).2
      · split
        · exact hj
        split
        · exact (be_put D hw hl bs hb k j _ _ _ hs).2
        · exact hj
    · exact ok_down hl s _ _ (by omega) h
theorem bears_ok {σ : Type} (D : RD σ) {ok : Nat → σ → Prop} (hr : ∀ n s k, ok (n + 1) s → ok n (D.read s k).2.2) (hw : ∀ n s (x : List UInt8), ok (n + 1) s → x.length ≤ 1048576 → ok n (D.write s x).2.2) (hl : ∀ n s, ok (n + 1) s → ok n s) (C : Nat) (hC : C = 536879104) : Bears D.raw (ok 1) (ok 1) (fun n s => ok (n * C + 1) s) where
  put n s bs h hb := by
    have hF : putF bs ≤ C := by unfold putF; omega
    have h2 : ok ((n * C + (C - putF bs)) + putF bs + 1) s := by
      rw [show n * C + (C - putF bs) + putF bs + 1 = (n + 1) * C + 1 by rw [Nat.succ_mul]; omega]
      exact h
    obtain ⟨i1, i2⟩ := be_put D hw hl bs hb (putF bs) _ s 0 0 h2
    exact ⟨i1, ok_down hl _ _ _ (by omega) i2⟩
  some n s m h _ _ := by
    obtain ⟨F, hF⟩ : ∃ F, F = 8192 := ⟨_, rfl⟩
    rw [← hF]
    have h2 : ok ((n * C + (C - F)) + F + 1) s := by
      rw [show n * C + (C - F) + F + 1 = (n + 1) * C + 1 by rw [Nat.succ_mul]; omega]
      exact h
    obtain ⟨i1, i2⟩ := be_some D hr hl m F _ s h2
    exact ⟨i1, ok_down hl _ _ _ (by omega) i2⟩
  less n s h := ok_down hl _ _ _ (by rw [Nat.succ_mul]; omega) h
end Go.Proofs.YtdmkjbdlidadiaaGreat

/- Slices of anything that came in as an argument: what a walk is told of them, and their sizes. -/
namespace Go.Proofs.YtdmkjbdlidadiaaGreat
open Go.ChangeShapes Go.WideShapes Go.ChangeAt Go.RowKit Go.Deep

def RowsR {α : Type} (W : World) (k : Nat) (Rd : List Value → α → Prop) (v : Value) (l : List α) : Prop :=
  (v = .slice none 0 0 ∧ l = []) ∨ ∃ q cap, v = .slice (some q) l.length cap ∧ l.length ≤ cap ∧ (0 < l.length → ∃ b off, q = ⟨b, off, none⟩ ∧ ∀ j (hj : j < l.length), ∃ cs, Rd cs l[j] ∧ cs.length = k ∧ ∀ i v, cs[i]? = some v → W.cell? ⟨b, off + j * k + i, none⟩ = some v)
theorem RowsR.form {α : Type} {W : World} {k : Nat} {Rd : List Value → α → Prop} {v : Value} {l : List α} (h : RowsR W k Rd v l) : ∃ a c, v = .slice a l.length c ∧ l.length ≤ c := by
  rcases h with ⟨rfl, rfl⟩ | ⟨q, cap, rfl, h1, _⟩
  · exact ⟨_, _, rfl, Nat.le_refl _⟩
  · exact ⟨_, _, rfl, h1⟩
theorem RowsR.at {α : Type} {W : World} {k : Nat} {Rd : List Value → α → Prop} {a : Option Addr} {n c : Nat} {l : List α} (h : RowsR W k Rd (.slice a n c) l) (j : Nat) (hj : j < l.length) :
    ∃ b off cs, a = some ⟨b, off, none⟩ ∧ Rd cs l[j] ∧ cs.length = k ∧ ∀ i v, cs[i]? = some v → W.cell? ⟨b, off + j * k + i, none⟩ = some v := by
  rcases h with ⟨_, rfl⟩ | ⟨q, cap, he, h1, h2⟩
  · simp at hj
  · cases he
    obtain ⟨b, off, rfl, hd⟩ := h2 (by omega)
    obtain ⟨cs, h3, h4, h5⟩ := hd j hj
    exact ⟨b, off, cs, rfl, h3, h4, h5⟩
def MSmall {H : Type} (P : Program) (t : TypeId) (d : DataW H) : Prop := ∀ n ∈ d.weights P t, n ≤ reachBytes
theorem msmall_arg {H : Type} {P : Program} {ts : List TypeId} {ds : List (DataW H)} (h : (DataW.weightsEach P ts ds).all (· ≤ reachBytes) = true) {j : Nat} {t : TypeId} {d : DataW H} (ht : ts[j]? = some t) (hd : ds[j]? = some d) : MSmall P t d :=
  fun n hn => of_decide_eq_true (List.all_eq_true.1 h _ (DataW.weights_mem_each ht hd n hn))
theorem MSmall.slice {H : Type} {P : Program} {t e : TypeId} {es sp : List (DataW H)} (h : MSmall P t (.slice es sp)) (hu : P.underlying t = some (.slice e)) : (es.length + sp.length) * P.bytesOf e ≤ reachBytes ∧ ∀ d ∈ es, MSmall P e d :=
  ⟨h _ (by simp [DataW.weights, hu]), fun d hd n hn => h n (by
    simp only [DataW.weights, hu, List.mem_cons, List.mem_append]
    exact Or.inr (Or.inl (Kp_weightsAll_mem hd n hn)))⟩
theorem MSmall.fields {H : Type} {P : Program} {t : TypeId} {fs : Array Field} {ds : List (DataW H)} (h : MSmall P t (.agg ds)) (hu : P.underlying t = some (.struct fs)) (j : Nat) (f : Field) (d : DataW H) (hf : fs[j]? = some f) (hd : ds[j]? = some d) : MSmall P f.type d := fun n hn => h n (by
    simp only [DataW.weights, hu]
    exact DataW.weights_mem_each (by rw [List.getElem?_map, Array.getElem?_toList, hf]; rfl) hd n hn)
theorem mbytes_small {H : Type} {P : Program} {t e : TypeId} {d : DataW H} {x : List UInt8} (h : MSmall P t d) (hu : P.underlying t = some (.slice e)) (be : P.bytesOf e = 1) (hO : Kp_DataOf d x) : x.length ≤ 140737488351232 := by
  rcases hO with ⟨_, rfl⟩ | ⟨es, sp, rfl, hl⟩
  · simp
  · have := (h.slice hu).1
    rw [be] at this
    simp only [reachBytes] at this
    omega
def ByC (W : World) (v : Value) (x : List UInt8) : Prop := ∃ va vc, v = .slice va x.length vc ∧ Bys W (.slice va x.length vc) x ∧ x.length ≤ vc
theorem byc_arg {H : Type} {enc : TypeId × Value → H} {P : Program} {W : World} {base fuel e u : Nat} {v : Value} {d : DataW H} {p : List MemPlace} (he : P.underlying e = some (.slice u)) (hu : P.underlying u = some (.int .u8)) (cu : P.cellsOf u = 1)
    (h : DataW.trod enc P W base (fun _ => true) true fuel e [v] = some (d, p)) : ∃ x, ByC W v x ∧ Kp_DataOf d x := by
  obtain ⟨va, vl, vc, rfl⟩ : ∃ va vl vc, v = .slice va vl vc := by
    rcases DataW.trod_slice he h with ⟨h0, _⟩ | ⟨x, len, cap, _, _, _, _, h0, _⟩
    · exact ⟨_, _, _, by simpa using h0⟩
    · exact ⟨_, _, _, by simpa using h0⟩
  obtain ⟨s, hs, hc, hO⟩ := bytes_arg2 he hu cu (by simpa [Value.cells] using h)
  obtain rfl := Kp_bys_len hs
  exact ⟨s, ⟨va, vc, rfl, hs, hc⟩, hO⟩
end Go.Proofs.YtdmkjbdlidadiaaGreat

/- Lines, steps, answers and numbers that came in as an argument: what a walk is told of them, and their sizes. -/
namespace Go.Proofs.YtdmkjbdlidadiaaGreat
open Go.ChangeShapes Go.WideShapes Go.ChangeAt Go.RowKit Go.Deep

def MLns (W : World) (v : Value) (ls : List (List UInt8)) : Prop := RowsR W 1 (fun cs x => ∃ u, cs = [u] ∧ ByC W u x) v ls
theorem MLns.at {W W' : World} {a : Option Addr} {n c : Nat} {ls : List (List UInt8)} (h : MLns W (.slice a n c) ls) (hB : Below W.heap.size W W') (j : Nat) (hj : j < ls.length) :
    ∃ b off va vc, a = some ⟨b, off, none⟩ ∧ W'.cell? ⟨b, off + j, none⟩ = some (.slice va ls[j].length vc) ∧ Bys W (.slice va ls[j].length vc) ls[j] ∧ ls[j].length ≤ vc ∧ b < W.heap.size := by
  obtain ⟨b, off, cs, rfl, ⟨u, rfl, va, vc, rfl, hb, hc⟩, _, h3⟩ := RowsR.at h j hj
  have h4 := h3 0 _ rfl
  rw [Nat.mul_one, Nat.add_zero] at h4
  have hl := World.block_lt_of_cell? W _ h4
  exact ⟨b, off, va, vc, rfl, (hB.cell (p := ⟨b, off + j, none⟩) hl).trans h4, hb, hc, hl⟩
structure MSt where
  what : Int
  n : Int
  m : Int
  data : List UInt8
def MCells (W : World) (cs : List Value) (x : MSt) : Prop := ∃ va vc, cs = [.int .i64 x.what, .int .i64 x.n, .int .i64 x.m, .slice va x.data.length vc] ∧ Bys W (.slice va x.data.length vc) x.data ∧ x.data.length ≤ vc
def MSts (W : World) (v : Value) (l : List MSt) : Prop := RowsR W 4 (MCells W) v l
theorem MSts.at {W W' : World} {a : Option Addr} {n c : Nat} {l : List MSt} (h : MSts W (.slice a n c) l) (hB : Below W.heap.size W W') (j : Nat) (hj : j < l.length) :
    ∃ b off va vc, a = some ⟨b, off, none⟩ ∧ b < W.heap.size ∧ (W'.cell? ⟨b, off + j * 4, none⟩ = some (.int .i64 l[j].what) ∧ W'.cell? ⟨b, off + j * 4 + 1, none⟩ = some (.int .i64 l[j].n) ∧ W'.cell? ⟨b, off + j * 4 + 2, none⟩ = some (.int .i64 l[j].m) ∧ W'.cell? ⟨b, off + j * 4 + 3, none⟩ = some (.slice va l[j].data.length vc)) ∧
      Bys W (.slice va l[j].data.length vc) l[j].data ∧ l[j].data.length ≤ vc := by
  obtain ⟨b, off, cs, rfl, ⟨va, vc, rfl, r1, r2⟩, _, h3⟩ := RowsR.at h j hj
  have hl : b < W.heap.size := World.block_lt_of_cell? W _ (h3 0 _ rfl)
  have key : ∀ i v, W.cell? ⟨b, off + j * 4 + i, none⟩ = some v → W'.cell? ⟨b, off + j * 4 + i, none⟩ = some v := fun i v hv => (hB.cell (p := ⟨b, off + j * 4 + i, none⟩) hl).trans hv
  exact ⟨b, off, va, vc, rfl, hl, ⟨key 0 _ (h3 0 _ rfl), key 1 _ (h3 1 _ rfl), key 2 _ (h3 2 _ rfl), key 3 _ (h3 3 _ rfl)⟩, r1, r2⟩
end Go.Proofs.YtdmkjbdlidadiaaGreat

/- A plant that came in as an argument: what a walk is told of it, and its size. -/
namespace Go.Proofs.YtdmkjbdlidadiaaGreat
open Go.ChangeShapes Go.WideShapes Go.ChangeAt Go.RowKit Go.Deep

def ACells (W : World) (cs : List Value) (x : List UInt8 × Int) : Prop := ∃ va vc, cs = [.slice va x.1.length vc, .int .i64 x.2] ∧ Bys W (.slice va x.1.length vc) x.1 ∧ x.1.length ≤ vc
theorem rows_ans {W : World} {v : Value} {l : List (List UInt8 × Int)} (h : RowsR W 2 (ACells W) v l) : AnsR W v l := by
  rcases h with ⟨rfl, rfl⟩ | ⟨q, cap, rfl, h1, h2⟩
  · exact ⟨_, _, rfl, fun h => absurd h (by simp)⟩
  · refine ⟨some q, cap, rfl, fun h0 => ?_⟩
    obtain ⟨b, off, rfl, hd⟩ := h2 h0
    refine ⟨b, off, rfl, fun j hj => ?_⟩
    obtain ⟨cs, ⟨va, vc, rfl, r1, r2⟩, _, h3⟩ := hd j hj
    exact ⟨va, vc, h3 0 _ rfl, h3 1 _ rfl, r1, r2⟩
theorem rows_ints {W : World} {v : Value} {l : List Int} (h : RowsR W 1 (fun cs x => cs = [.int .i64 x]) v l) : IntsR W v l := by
  rcases h with ⟨rfl, rfl⟩ | ⟨q, cap, rfl, h1, h2⟩
  · exact .inl ⟨rfl, rfl⟩
  · refine .inr ⟨q, cap, rfl, fun h0 => ?_⟩
    obtain ⟨b, off, rfl, hd⟩ := h2 h0
    refine ⟨b, off, rfl, fun j hj => ?_⟩
    obtain ⟨cs, rfl, _, h3⟩ := hd j hj
    have := h3 0 _ rfl
    rwa [Nat.mul_one, Nat.add_zero] at this
def FCells (cs : List Value) (x : Int × Int) : Prop := cs = [.int .i64 x.1, .int .i64 x.2]
structure Plt where
  kind : Int
  size : Int
  data : List UInt8
  reads : List (List UInt8 × Int)
  writes : List Int
  fs : List (Int × Int)
  lines : List (List UInt8)
  place : Int
  app : Bool
structure PltIn (W : World) (x : Plt) (dv rv wv fv lv : Value) : Prop where
  d : ByC W dv x.data
  r : AnsR W rv x.reads
  w : IntsR W wv x.writes
  f : RowsR W 2 FCells fv x.fs
  l : MLns W lv x.lines
end Go.Proofs.YtdmkjbdlidadiaaGreat

/- Plant.Panics. -/
namespace Go.Proofs.YtdmkjbdlidadiaaGreat
open Go.RowKit

def Plt.k6 (x : Plt) : Int := (wrap64 (x.kind.tmod 6 + 6)).tmod 6
def Plt.pan (x : Plt) : Bool := decide (∃ k ∈ x.writes, k < -1) && (x.k6 == 3)
end Go.Proofs.YtdmkjbdlidadiaaGreat

/- MemoryPlays: the walk, given what Make makes. -/
namespace Go.Proofs.YtdmkjbdlidadiaaGreat
open Go.RowKit

def MadeOut (x : Plt) (mb : Nat) (w : World) : Prop := ∃ (σ : Type) (D : RD σ) (T : TypeId) (v : Value) (g : Nat) (fr fw fs : FuncId) (A B : σ → World → (Nat → Prop) → Prop) (ok : Nat → σ → Prop) (Md : World → Prop) (s : σ),
  PlK D T v g mb fr fw fs A B ok Md ∧ PP A B s (mb + 1) w ∧ Md w ∧ (∀ W W', Md W → W'.heap[mb]? = W.heap[mb]? → Md W') ∧ (∀ W, Md W → W.cell? ⟨mb, 0, none⟩ = some (.iface T v) ∧ W.cell? ⟨mb, 1, none⟩ = some (.pointer (some ⟨g, 0, none⟩))) ∧ (x.pan = false → ok 1048577 s) ∧ ∃ G : Nat → σ → Prop, Bears D.raw (ok 1) (ok 1) G ∧ (x.pan = false → G 4194304 s)
theorem Both.turned {A B : World → (Nat → Prop) → Prop} {w w' : World} {Q S : Nat → Prop} (h : Both A B w Q) (hA : OAt A) (hB : OAt B) (hT : Turned S w w') (hS : ∀ j, Q j → ¬ S j) : Both A B w' Q := by
  obtain ⟨O, P, h1, h2, h3, h4⟩ := h
  exact ⟨O, P, hA.keep h1 (fun j e hl => hT.block j hl (hS j (h3 j e).1)) hT.size, hB.keep h2 (fun j e hl => hT.block j hl (hS j (h4 j e).1)) hT.size, fun j e => ⟨(h3 j e).1, Nat.lt_of_lt_of_le (h3 j e).2.1 hT.size, (h3 j e).2.2⟩, fun j e => ⟨(h4 j e).1, Nat.lt_of_lt_of_le (h4 j e).2 hT.size⟩⟩
end Go.Proofs.YtdmkjbdlidadiaaGreat

/- Plant.Make, of a fixed memory. -/
namespace Go.Proofs.YtdmkjbdlidadiaaGreat
open Go.RowKit

end Go.Proofs.YtdmkjbdlidadiaaGreat

/- Plant.Make, of a memory that grows. -/
namespace Go.Proofs.YtdmkjbdlidadiaaGreat
open Go.RowKit

set_option maxRecDepth 100000 in
set_option maxHeartbeats 4000000 in
theorem make_growing_e (x : Plt) (dv rv wv fv lv : Value) (w : World) (h : PltIn w x dv rv wv fv lv) (hk : x.k6 = 1) (hp : I64 x.place) :
    Calls Tryz.prog 18 #[.agg #[.int .i64 x.kind, .int .i64 x.size, dv, rv, wv, fv, lv, .int .i64 x.place, .bool x.app]] w (fun e w' => Below w.heap.size w w' ∧ ((grE x.data ≠ 0 ∧ ∃ p, e = .returned (.tuple #[.pointer p, .bool false])) ∨ ∃ mb, w.heap.size ≤ mb ∧ e = .returned (.tuple #[.pointer (some ⟨mb, 0, none⟩), .bool true]) ∧ MadeOut x mb w')) := by
  have HP := hide h
  obtain ⟨da, dc, rfl, -⟩ := h.d
  obtain ⟨ra, rc, rfl, -⟩ := h.r
  obtain ⟨wa, wc, rfl⟩ := h.w.form
  obtain ⟨fa, fc, rfl, -⟩ := h.f.form
  obtain ⟨la, lc, rfl, -⟩ := RowsR.form h.l
  unfold Plt.k6 at hk
  have HY : Hid (∀ W, Below w.heap.size w W → Bys W (.slice da x.data.length dc) x.data) := hide fun W hW => by
    obtain ⟨va, vc, e, hb, -⟩ := HP.out.d
    cases e
    exact hb.below hW
  clear h
  go_enter Tryz.func18, Tryz.ntmps18
  go_wp2_with fail
  have hz1 : (w.alloc (Obj.cells #[.int .i64 x.kind, .int .i64 x.size, .slice da x.data.length dc, .slice ra x.reads.length rc, .slice wa x.writes.length wc, .slice fa x.fs.length fc, .slice la x.lines.length lc, .int .i64 x.place, .bool x.app] 50)).heap.size = w.heap.size + 1 := Array.size_push _
  have hz0 : ((w.alloc (Obj.cells #[.int .i64 x.kind, .int .i64 x.size, .slice da x.data.length dc, .slice ra x.reads.length rc, .slice wa x.writes.length wc, .slice fa x.fs.length fc, .slice la x.lines.length lc, .int .i64 x.place, .bool x.app] 50)).alloc (Obj.cells #[.nilIface, .pointer none, .pointer none, .pointer none, .pointer none, .pointer none, .pointer none] 78)).heap.size = w.heap.size + 1 + 1 := (Array.size_push _).trans (by rw [show (w.alloc (Obj.cells #[.int .i64 x.kind, .int .i64 x.size, .slice da x.data.length dc, .slice ra x.reads.length rc, .slice wa x.writes.length wc, .slice fa x.fs.length fc, .slice la x.lines.length lc, .int .i64 x.place, .bool x.app] 50)).heap.size = w.heap.size + 1 from hz1])
  have HB0 := hide ((recv4 w (Obj.cells #[.int .i64 x.kind, .int .i64 x.size, .slice da x.data.length dc, .slice ra x.reads.length rc, .slice wa x.writes.length wc, .slice fa x.fs.length fc, .slice la x.lines.length lc, .int .i64 x.place, .bool x.app] 50)).trans ((recv4 (w.alloc (Obj.cells #[.int .i64 x.kind, .int .i64 x.size, .slice da x.data.length dc, .slice ra x.reads.length rc, .slice wa x.writes.length wc, .slice fa x.fs.length fc, .slice la x.lines.length lc, .int .i64 x.place, .bool x.app] 50)) (Obj.cells #[.nilIface, .pointer none, .pointer none, .pointer none, .pointer none, .pointer none, .pointer none] 78)).mono (recv4 w (Obj.cells #[.int .i64 x.kind, .int .i64 x.size, .slice da x.data.length dc, .slice ra x.reads.length rc, .slice wa x.writes.length wc, .slice fa x.fs.length fc, .slice la x.lines.length lc, .int .i64 x.place, .bool x.app] 50)).size))
  have hq : ((w.alloc (Obj.cells #[.int .i64 x.kind, .int .i64 x.size, .slice da x.data.length dc, .slice ra x.reads.length rc, .slice wa x.writes.length wc, .slice fa x.fs.length fc, .slice la x.lines.length lc, .int .i64 x.place, .bool x.app] 50)).alloc (Obj.cells #[.nilIface, .pointer none, .pointer none, .pointer none, .pointer none, .pointer none, .pointer none] 78)).heap[w.heap.size]? = some (Obj.cells #[.int .i64 x.kind, .int .i64 x.size, .slice da x.data.length dc, .slice ra x.reads.length rc, .slice wa x.writes.length wc, .slice fa x.fs.length fc, .slice la x.lines.length lc, .int .i64 x.place, .bool x.app] 50) := ((recv4 (w.alloc (Obj.cells #[.int .i64 x.kind, .int .i64 x.size, .slice da x.data.length dc, .slice ra x.reads.length rc, .slice wa x.writes.length wc, .slice fa x.fs.length fc, .slice la x.lines.length lc, .int .i64 x.place, .bool x.app] 50)) (Obj.cells #[.nilIface, .pointer none, .pointer none, .pointer none, .pointer none, .pointer none, .pointer none] 78)).block w.heap.size (by omega)).trans (heap_alloc_new w (Obj.cells #[.int .i64 x.kind, .int .i64 x.size, .slice da x.data.length dc, .slice ra x.reads.length rc, .slice wa x.writes.length wc, .slice fa x.fs.length fc, .slice la x.lines.length lc, .int .i64 x.place, .bool x.app] 50))
  have hm0 : ((w.alloc (Obj.cells #[.int .i64 x.kind, .int .i64 x.size, .slice da x.data.length dc, .slice ra x.reads.length rc, .slice wa x.writes.length wc, .slice fa x.fs.length fc, .slice la x.lines.length lc, .int .i64 x.place, .bool x.app] 50)).alloc (Obj.cells #[.nilIface, .pointer none, .pointer none, .pointer none, .pointer none, .pointer none, .pointer none] 78)).heap[w.heap.size + 1]? = some (Obj.cells #[.nilIface, .pointer none, .pointer none, .pointer none, .pointer none, .pointer none, .pointer none] 78) := by
    have := heap_alloc_new (w.alloc (Obj.cells #[.int .i64 x.kind, .int .i64 x.size, .slice da x.data.length dc, .slice ra x.reads.length rc, .slice wa x.writes.length wc, .slice fa x.fs.length fc, .slice la x.lines.length lc, .int .i64 x.place, .bool x.app] 50)) (Obj.cells #[.nilIface, .pointer none, .pointer none, .pointer none, .pointer none, .pointer none, .pointer none] 78)
    rwa [hz1] at this
  have HQ := hide (And.intro hq hm0)
  generalize (w.alloc (Obj.cells #[.int .i64 x.kind, .int .i64 x.size, .slice da x.data.length dc, .slice ra x.reads.length rc, .slice wa x.writes.length wc, .slice fa x.fs.length fc, .slice la x.lines.length lc, .int .i64 x.place, .bool x.app] 50)).alloc (Obj.cells #[.nilIface, .pointer none, .pointer none, .pointer none, .pointer none, .pointer none, .pointer none] 78) = W0 at *
  clear hq hm0 hz1
  obtain ⟨mb, hmb⟩ : ∃ mb, mb = w.heap.size + 1 := ⟨_, rfl⟩
  rw [← hmb] at hz0 HQ
  simp only [← hmb]
  have hwm : w.heap.size < mb := by omega
  clear hmb
  refine (rnewGrowing_any _ x.data W0 (HY.out _ HB0.out)).mono ?_
  rintro _ w1 ⟨p1, rfl, hB1, hR1⟩
  have r1 := (hB1.block mb (by omega)).trans HQ.out.2
  have l1 := (hB1.block w.heap.size (by omega)).trans HQ.out.1
  have mc := cell_of_row w1 mb 1 _ _ _ r1
  have mf := frozen_of_row w1 mb 1 _ _ r1
  have s1 := Go.heap_setCell_same w1 mb 1 _ _ (.pointer p1) r1
  have t1 := (heap_setCell_other w1 ⟨mb, 1, none⟩ w.heap.size (.pointer p1) (by show w.heap.size ≠ mb; omega)).trans l1
  have pc1 := cell_of_row _ w.heap.size 1 _ _ _ t1
  have pc2 := cell_of_row _ w.heap.size 2 _ _ _ t1
  simp at mc pc1 pc2
  have hzw : W0.heap.size ≤ w1.heap.size := hB1.size
  have HB1 := hide ((HB0.out.trans (hB1.mono HB0.out.size)).setCell (p := ⟨mb, 1, none⟩) (by show w.heap.size ≤ mb; omega) (.pointer p1))
  have HR1 : Hid ((grE x.data ≠ 0 ∧ p1 = none) ∨ (grE x.data = 0 ∧ ∃ g, p1 = some ⟨g, 0, none⟩ ∧ RMemAt (w1.setCell ⟨mb, 1, none⟩ (.pointer p1)) (fun k => mb + 1 ≤ k) g 2 ⟨x.data, 1048576, 0⟩)) := hide (by
    rcases hR1 with h | ⟨h1, g, h2, h3⟩
    · exact .inl h
    · exact .inr ⟨h1, g, h2, (h3.mono (fun k e => by rw [hz0] at e; exact e)).keep (fun k e _ => heap_setCell_other _ _ _ _ (by show k ≠ mb; have e2 : mb + 1 ≤ k := e; omega))⟩)
  have HS1 := hide (And.intro s1 t1)
  have hzs : (w1.setCell ⟨mb, 1, none⟩ (.pointer p1)).heap.size = w1.heap.size := by simp [World.setCell]
  clear hB1 hR1 r1 l1 s1 t1 HQ HB0
  go_wp2_with fail
  generalize w1.setCell ⟨mb, 1, none⟩ (.pointer p1) = W1 at *
  refine (newGrowing_any _ x.data _ (HY.out _ HB1.out)).mono ?_
  rintro _ w2 ⟨p2, rfl, hB2, hR2⟩
  have r2 := (hB2.block mb (by omega)).trans HS1.out.1
  have l2 := (hB2.block w.heap.size (by omega)).trans HS1.out.2
  have mc2 := cell_of_row w2 mb 3 _ _ _ r2
  have mf2 := frozen_of_row w2 mb 3 _ _ r2
  have s2 := Go.heap_setCell_same w2 mb 3 _ _ (.pointer p2) r2
  have mc3 := cell_of_row _ mb 3 _ _ _ s2
  have mc0 := cell_of_row _ mb 0 _ _ _ s2
  have mf0 := frozen_of_row _ mb 0 _ _ s2
  have s3 := Go.heap_setCell_same _ mb 0 _ _ (.iface 75 (.pointer p2)) s2
  simp at mc2 mc3 mc0
  have HS3 := hide s3
  have HR2 := hide hR2
  have HB2 := hide hB2
  clear hB2 hR2 r2 l2 s2 s3 mc mf pc1 pc2
  by_cases hE : grE x.data = 0
  · obtain ⟨g, rfl, hM1⟩ : ∃ g, p1 = some ⟨g, 0, none⟩ ∧ RMemAt W1 (fun k => mb + 1 ≤ k) g 2 ⟨x.data, 1048576, 0⟩ := by
      rcases HR1.out with ⟨h, _⟩ | ⟨_, h⟩
      · exact absurd hE h
      · exact h
    obtain ⟨y, rfl, hM2⟩ : ∃ y, p2 = some ⟨y, 0, none⟩ ∧ MemAt w2 (fun k => W1.heap.size ≤ k) y ⟨x.data, 1048576, 0⟩ := by
      rcases HR2.out with ⟨h, _⟩ | ⟨_, h⟩
      · exact absurd hE h
      · exact h
    rw [hE]
    have hB2z := HB2.out.size
    have HPP := hide (Both.turned (Both.make (Q := fun j => mb + 1 ≤ j) (rmem_o _ _ _) (mem_o _ _) hM1 (fun j e _ => e) (fun j e _ => by omega) HB2.out hM2).swap (mem_o _ _) (rmem_o _ _ _) ((((Turned.refl (fun k => k = mb) w2).set (j := 3) (u := .pointer (some ⟨y, 0, none⟩)) (.inl rfl)).set (j := 0) (u := .iface 75 (.pointer (some ⟨y, 0, none⟩))) (.inl rfl))) (fun j e e' => by have e2 : j = mb := e'; have e3 : mb + 1 ≤ j := e; omega))
    have HMd : Hid (MdAt mb 75 (.pointer (some ⟨y, 0, none⟩)) g none (some ⟨y, 0, none⟩) none ((w2.setCell ⟨mb, 3, none⟩ (.pointer (some ⟨y, 0, none⟩))).setCell ⟨mb, 0, none⟩ (.iface 75 (.pointer (some ⟨y, 0, none⟩))))) := HS3
    have HL := hide ((heap_setCell_other (w2.setCell ⟨mb, 3, none⟩ (.pointer (some ⟨y, 0, none⟩))) ⟨mb, 0, none⟩ w.heap.size (.iface 75 (.pointer (some ⟨y, 0, none⟩))) (by show w.heap.size ≠ mb; omega)).trans ((heap_setCell_other w2 ⟨mb, 3, none⟩ w.heap.size (.pointer (some ⟨y, 0, none⟩)) (by show w.heap.size ≠ mb; omega)).trans ((HB2.out.block w.heap.size (by omega)).trans HS1.out.2)))
    have HB3 := hide (((HB1.out.trans (HB2.out.mono HB1.out.size)).setCell (p := ⟨mb, 3, none⟩) (by show w.heap.size ≤ mb; omega) (.pointer (some ⟨y, 0, none⟩))).setCell (p := ⟨mb, 0, none⟩) (by show w.heap.size ≤ mb; omega) (.iface 75 (.pointer (some ⟨y, 0, none⟩))))
    clear hM1 hM2 HR1 HR2 HS3 HS1
    go_wp2_with fail
    generalize (w2.setCell ⟨mb, 3, none⟩ (.pointer (some ⟨y, 0, none⟩))).setCell ⟨mb, 0, none⟩ (.iface 75 (.pointer (some ⟨y, 0, none⟩))) = W3 at *
    have K := pk_growing y g mb
    have hm3 := K.mseek
    have hc3 := K.cseek
    have m0 : W3.cell? ⟨mb, 0, none⟩ = some (.iface 75 (.pointer (some ⟨y, 0, none⟩))) := cell_of_row W3 mb 0 _ _ _ HMd.out
    have m1 : W3.cell? ⟨mb, 1, none⟩ = some (.pointer (some ⟨g, 0, none⟩)) := cell_of_row W3 mb 1 _ _ _ HMd.out
    have p7 : W3.cell? ⟨w.heap.size, 7, none⟩ = some (.int .i64 x.place) := cell_of_row W3 w.heap.size 7 _ _ _ HL.out
    have hml : mb < W3.heap.size := World.block_lt_of_cell? W3 _ m0
    have HC := hide (pk_num K.oA K.oB (A := fun S w O => MemAt w O y S) (B := fun S w O => RMemAt w O g 2 S) HPP.out (by omega) (s' := (msD.seek ⟨x.data, 1048576, 0⟩ x.place 0).2.2) (fun O wb hA _ _ => K.ps x.place 0 hA trivial hp) (fun O wb hA _ _ => K.qs x.place 0 hA trivial hp))
    have HS := hide (fun (W' : World) (hT : Turned (fun j => mb + 1 ≤ j) W3 W') => (show (W'.cell? ⟨mb, 0, none⟩ = some (.iface 75 (.pointer (some ⟨y, 0, none⟩))) ∧ W'.cell? ⟨mb, 1, none⟩ = some (.pointer (some ⟨g, 0, none⟩)) ∧ W'.cell? ⟨w.heap.size, 7, none⟩ = some (.int .i64 x.place)) ∧ W'.heap[mb]? = W3.heap[mb]? from
      ⟨⟨hT.cell m0 (by show ¬ mb + 1 ≤ mb; omega), hT.cell m1 (by show ¬ mb + 1 ≤ mb; omega), hT.cell p7 (by show ¬ mb + 1 ≤ w.heap.size; omega)⟩, hT.block mb hml (by show ¬ mb + 1 ≤ mb; omega)⟩))
    have HK := hide K
    clear K
    generalize msD.seek ⟨x.data, 1048576, 0⟩ x.place 0 = X at *
    obtain ⟨N, E, s2⟩ := X
    simp only at *
    go_region_held3 (fun w' => w'.cell? ⟨mb, 0, none⟩ = some (.iface 75 (.pointer (some ⟨y, 0, none⟩))) ∧ w'.cell? ⟨w.heap.size, 7, none⟩ = some (.int .i64 x.place))
      (first | exact K4 | exact ⟨m0, p7⟩ | go_keep)
      (first
        | (refine (HC.out _ (Below.refl _ _).drew).mono ?_; rintro _ w4 ⟨rfl, -, hT4, hC4⟩; have K4 : w4.cell? ⟨mb, 0, none⟩ = some (.iface 75 (.pointer (some ⟨y, 0, none⟩))) ∧ w4.cell? ⟨w.heap.size, 7, none⟩ = some (.int .i64 x.place) := ⟨(HS.out w4 hT4).1.1, (HS.out w4 hT4).1.2.2⟩; have HT4 := hide hT4; have HC4 := hide hC4; clear hT4 hC4)
        | fail)
    have n1 := (HS.out w4 HT4.out).1.2.1
    have n2 := K4.2
    clear K4 HC
    go_wp2_with fail
    go_region_held3 (fun w' => w'.cell? ⟨mb, 1, none⟩ = some (.pointer (some ⟨g, 0, none⟩)) ∧ w'.cell? ⟨w.heap.size, 7, none⟩ = some (.int .i64 x.place))
      (first | exact K6 | exact ⟨n1, n2⟩ | go_keep)
      (first
        | (go_at_call 101; refine (HC4.out _ (Below.refl _ _).drew).mono ?_; rintro _ w6 ⟨rfl, HN6, -, hT6⟩; have K6 : w6.cell? ⟨mb, 1, none⟩ = some (.pointer (some ⟨g, 0, none⟩)) ∧ w6.cell? ⟨w.heap.size, 7, none⟩ = some (.int .i64 x.place) := ⟨(HS.out w6 hT6).1.2.1, (HS.out w6 hT6).1.2.2⟩; have HT6 := hide hT6; clear hT6)
        | fail)
    clear K6 n1 n2 HC4
    go_wp2
    go_ret2
    refine ⟨HB3.out.trans (HT6.out.below (fun j e => by have e2 : mb + 1 ≤ j := e; omega) HB3.out.size), .inr ⟨mb, by omega, rfl, MS, msD, 75, _, g, _, _, _, _, _, _, _, s2, HK.out, HN6.out, ?_, fun W W' h e => e.trans h, fun W h => ⟨cell_of_row W mb 0 _ _ _ h, cell_of_row W mb 1 _ _ _ h⟩, fun _ => trivial, _, bears_ok msD (fun _ _ _ _ => trivial) (fun _ _ _ _ _ => trivial) (fun _ _ _ => trivial) _ rfl, fun _ => trivial⟩⟩
    exact (HS.out w6 HT6.out).2.trans HMd.out
  · have hE2 : (grE x.data != 0) = true := by simpa using hE
    have hE3 : (grE x.data == 0) = false := by simpa using hE
    go_wp2_with fail
    go_ret2
    exact ⟨((HB1.out.trans (HB2.out.mono HB1.out.size)).setCell (p := ⟨mb, 3, none⟩) (by show w.heap.size ≤ mb; omega) _).setCell (p := ⟨mb, 0, none⟩) (by show w.heap.size ≤ mb; omega) _, .inl ⟨hE, _, rfl⟩⟩
end Go.Proofs.YtdmkjbdlidadiaaGreat

/- Streams: which states may be; copies; what lies behind. -/
namespace Go.Proofs.YtdmkjbdlidadiaaGreat
open Go.RowKit

def Sl (W : World) (v : Value) (l : List UInt8) : Prop := ∃ a c, v = .slice a l.length c ∧ Bys W v l ∧ l.length ≤ c
theorem Sl.own {W : World} {base : Nat} {v : Value} {l : List UInt8} (h : W.ownsRow base 5 1 v l.length (l.map bv)) : Sl W v l := by
  obtain ⟨a, c, rfl⟩ := owns_slice h
  exact ⟨a, c, rfl, Bys.of_owns h, owns_cap h⟩
theorem Sl.nil {W : World} : Sl W (.slice none 0 0) [] := ⟨none, 0, rfl, .inl ⟨rfl, rfl⟩, Nat.le_refl _⟩
theorem Sl.turned {P : Nat → Prop} {W W' : World} {v : Value} {l : List UInt8} (h : Sl W v l) (hT : Turned P W W') (hS : ∀ k, v.ownBlock = some k → k < W.heap.size → ¬ P k) : Sl W' v l := by
  obtain ⟨a, c, rfl, hb, hc⟩ := h
  exact ⟨a, c, rfl, hb.turned hT hS, hc⟩
structure SIn (W : World) (P : Nat → Prop) (x : SS) (o i b : Value) : Prop where
  so : Sl W o x.out
  si : Sl W i x.inn
  sb : Sl W b x.back
  po : ∀ k, o.ownBlock = some k → P k
  pi : ∀ k, i.ownBlock = some k → P k
  pb : ∀ k, b.ownBlock = some k → P k
theorem SIn.mono {W : World} {P Q : Nat → Prop} {x : SS} {o i b : Value} (h : SIn W P x o i b) (hq : ∀ k, P k → Q k) : SIn W Q x o i b := ⟨h.so, h.si, h.sb, fun k e => hq k (h.po k e), fun k e => hq k (h.pi k e), fun k e => hq k (h.pb k e)⟩
theorem SIn.turned {P Q : Nat → Prop} {W W' : World} {x : SS} {o i b : Value} (h : SIn W P x o i b) (hT : Turned Q W W') (hS : ∀ k, P k → k < W.heap.size → ¬ Q k) : SIn W' P x o i b :=
  ⟨h.so.turned hT fun k e => hS k (h.po k e), h.si.turned hT fun k e => hS k (h.pi k e), h.sb.turned hT fun k e => hS k (h.pb k e), h.po, h.pi, h.pb⟩
theorem SIn.below {P : Nat → Prop} {W W' : World} {x : SS} {o i b : Value} (h : SIn W P x o i b) (hB : Below W.heap.size W W') : SIn W' P x o i b := h.turned (Turned.of_below (S := fun _ => False) hB) fun _ _ _ => id

theorem recv_drew (w : World) (o : Obj) (n : Nat) : Below w.heap.size w ((w.alloc o).drewN n) := ⟨rfl, rfl, rfl, (recv_below w o).size, fun k hk => (recv_below w o).block k hk⟩
theorem isMode_any (m : Int) (w : World) : Calls Tryz.prog 188 #[.int .i64 m] w fun e w' => e = .returned (.bool (decide (1 ≤ m) && decide (m ≤ 3))) ∧ w = w' := by
  generalize hr : (decide (1 ≤ m) && decide (m ≤ 3)) = r
  by_cases h1 : 1 ≤ m
  · by_cases h2 : m ≤ 3
    · skip
      have HR : Hid (true = r) := hide (by rw [← hr, decide_eq_true h1, decide_eq_true h2]; rfl)
      clear hr
      go_enter Tryz.func188, Tryz.ntmps188
      go_wp2
      go_ret
      exact ⟨by rw [← HR.out]; first | rfl | (show Ending.returned (Value.bool (decide _)) = _; rw [decide_eq_false (by omega)]), rfl⟩
    · skip
      have HR : Hid (false = r) := hide (by rw [← hr, decide_eq_true h1, decide_eq_false h2]; rfl)
      clear hr
      go_enter Tryz.func188, Tryz.ntmps188
      go_wp2
      go_ret
      exact ⟨by rw [← HR.out]; first | rfl | (show Ending.returned (Value.bool (decide _)) = _; rw [decide_eq_false (by omega)]), rfl⟩
  · skip
    have HR : Hid (false = r) := hide (by rw [← hr, decide_eq_false h1]; rfl)
    clear hr
    go_enter Tryz.func188, Tryz.ntmps188
    go_wp2
    go_ret
    exact ⟨by rw [← HR.out]; first | rfl | (show Ending.returned (Value.bool (decide _)) = _; rw [decide_eq_false (by omega)]), rfl⟩
theorem isSize_any (m : Int) (w : World) : Calls Tryz.prog 189 #[.int .i64 m] w fun e w' => e = .returned (.bool (decide (1 ≤ m) && decide (m ≤ 65536))) ∧ w = w' := by
  generalize hr : (decide (1 ≤ m) && decide (m ≤ 65536)) = r
  by_cases h1 : 1 ≤ m
  · by_cases h2 : m ≤ 65536
    · skip
      have HR : Hid (true = r) := hide (by rw [← hr, decide_eq_true h1, decide_eq_true h2]; rfl)
      clear hr
      go_enter Tryz.func189, Tryz.ntmps189
      go_wp2
      go_ret
      exact ⟨by rw [← HR.out]; first | rfl | (show Ending.returned (Value.bool (decide _)) = _; rw [decide_eq_false (by omega)]), rfl⟩
    · skip
      have HR : Hid (false = r) := hide (by rw [← hr, decide_eq_true h1, decide_eq_false h2]; rfl)
      clear hr
      go_enter Tryz.func189, Tryz.ntmps189
      go_wp2
      go_ret
      exact ⟨by rw [← HR.out]; first | rfl | (show Ending.returned (Value.bool (decide _)) = _; rw [decide_eq_false (by omega)]), rfl⟩
  · skip
    have HR : Hid (false = r) := hide (by rw [← hr, decide_eq_false h1]; rfl)
    clear hr
    go_enter Tryz.func189, Tryz.ntmps189
    go_wp2
    go_ret
    exact ⟨by rw [← HR.out]; first | rfl | (show Ending.returned (Value.bool (decide _)) = _; rw [decide_eq_false (by omega)]), rfl⟩
set_option maxRecDepth 100000 in
set_option maxHeartbeats 4000000 in
theorem bufMay_any (x : SS) (oa ia ba : Option Addr) (oc ic bc : Nat) (w : World) : Calls Tryz.prog 105 #[.agg #[.bool x.rd, .bool x.wt, .int .i64 x.mode, .int .i64 x.size, .slice oa x.out.length oc, .slice ia x.inn.length ic, .slice ba x.back.length bc, .int .i64 x.dir, .bool x.fin, .bool x.bad, .bool x.closed]] w fun e w' => e = .returned (.bool x.buf) ∧ Below w.heap.size w w' := by
  obtain ⟨rd, wt, mode, size, out, inn, back, dir, fin, bad, closed⟩ := x
  generalize hr : SS.buf ⟨rd, wt, mode, size, out, inn, back, dir, fin, bad, closed⟩ = r
  unfold SS.buf at hr
  simp only at hr ⊢
  by_cases hm : mode = 1
  · subst hm
    rw [if_pos rfl, show (decide ((1 : Int) ≤ 1) && decide ((1 : Int) ≤ 3)) = true from rfl] at hr
    cases h2 : (decide (1 ≤ size) && decide (size ≤ 65536)) with
    | false =>
      have H2 := hide h2
      rw [h2] at hr
      have HR : Hid (false = r) := hide (by rw [← hr]; rfl)
      clear hr h2
      go_enter Tryz.func105, Tryz.ntmps105
      go_wp2_with (first | (go_at_call 188; refine (isMode_any _ _).mono ?_; rintro _ _ ⟨rfl, rfl⟩; skip) | (go_at_call 189; refine (isSize_any _ _).mono ?_; rintro _ _ ⟨rfl, rfl⟩; rw [H2.out]) | fail)
      go_ret
      exact ⟨by rw [← HR.out]; first | rfl | (show Ending.returned (Value.bool (decide _)) = _; rw [decide_eq_false (by omega)]), recv_below _ _⟩
    | true =>
    have H2 := hide h2
    rw [h2] at hr
    clear h2
    rcases out with _ | ⟨c, t⟩
    · skip
      by_cases h4 : (inn.length : Int) ≤ 65536
      · by_cases h5 : (back.length : Int) ≤ 8
        · skip
          have HR : Hid (true = r) := hide (by rw [← hr, decide_eq_true (show (([] : List UInt8).length : Int) ≤ 0 from Int.le_refl _), decide_eq_true h4, decide_eq_true h5]; rfl)
          clear hr
          go_enter Tryz.func105, Tryz.ntmps105
          go_wp2_with (first | (go_at_call 188; refine (isMode_any _ _).mono ?_; rintro _ _ ⟨rfl, rfl⟩; skip) | (go_at_call 189; refine (isSize_any _ _).mono ?_; rintro _ _ ⟨rfl, rfl⟩; rw [H2.out]) | fail)
          go_ret
          exact ⟨by rw [← HR.out]; first | rfl | (show Ending.returned (Value.bool (decide _)) = _; rw [decide_eq_false (by omega)]), recv_below _ _⟩
        · skip
          have HR : Hid (false = r) := hide (by rw [← hr, decide_eq_true (show (([] : List UInt8).length : Int) ≤ 0 from Int.le_refl _), decide_eq_true h4, decide_eq_false h5]; rfl)
          clear hr
          go_enter Tryz.func105, Tryz.ntmps105
          go_wp2_with (first | (go_at_call 188; refine (isMode_any _ _).mono ?_; rintro _ _ ⟨rfl, rfl⟩; skip) | (go_at_call 189; refine (isSize_any _ _).mono ?_; rintro _ _ ⟨rfl, rfl⟩; rw [H2.out]) | fail)
          go_ret
          exact ⟨by rw [← HR.out]; first | rfl | (show Ending.returned (Value.bool (decide _)) = _; rw [decide_eq_false (by omega)]), recv_below _ _⟩
      · skip
        have HR : Hid (false = r) := hide (by rw [← hr, decide_eq_true (show (([] : List UInt8).length : Int) ≤ 0 from Int.le_refl _), decide_eq_false h4]; rfl)
        clear hr
        go_enter Tryz.func105, Tryz.ntmps105
        go_wp2_with (first | (go_at_call 188; refine (isMode_any _ _).mono ?_; rintro _ _ ⟨rfl, rfl⟩; skip) | (go_at_call 189; refine (isSize_any _ _).mono ?_; rintro _ _ ⟨rfl, rfl⟩; rw [H2.out]) | fail)
        go_ret
        exact ⟨by rw [← HR.out]; first | rfl | (show Ending.returned (Value.bool (decide _)) = _; rw [decide_eq_false (by omega)]), recv_below _ _⟩
    · have h3 : ¬ (((c :: t).length : Int) ≤ 0) := by simp only [List.length_cons]; omega
      have HR : Hid (false = r) := hide (by rw [← hr, decide_eq_false h3]; rfl)
      clear hr
      have h3' : ¬ ((t.length : Int) + 1 ≤ 0) := by omega
      go_enter Tryz.func105, Tryz.ntmps105
      go_wp2_with (first | (go_at_call 188; refine (isMode_any _ _).mono ?_; rintro _ _ ⟨rfl, rfl⟩; skip) | (go_at_call 189; refine (isSize_any _ _).mono ?_; rintro _ _ ⟨rfl, rfl⟩; rw [H2.out]) | fail)
      go_ret
      exact ⟨by rw [← HR.out]; first | rfl | (show Ending.returned (Value.bool (decide _)) = _; rw [decide_eq_false (by omega)]), recv_below _ _⟩
  · rw [if_neg hm] at hr
    cases h1 : (decide (1 ≤ mode) && decide (mode ≤ 3)) with
    | false =>
      have H1 := hide h1
      rw [h1] at hr
      have HR : Hid (false = r) := hide (by rw [← hr]; rfl)
      clear hr h1
      go_enter Tryz.func105, Tryz.ntmps105
      go_wp2_with (first | (go_at_call 188; refine (isMode_any _ _).mono ?_; rintro _ _ ⟨rfl, rfl⟩; rw [H1.out]) | (go_at_call 189; refine (isSize_any _ _).mono ?_; rintro _ _ ⟨rfl, rfl⟩; rw [H2.out]) | fail)
      go_ret
      exact ⟨by rw [← HR.out]; first | rfl | (show Ending.returned (Value.bool (decide _)) = _; rw [decide_eq_false (by omega)]), recv_below _ _⟩
    | true =>
    have H1 := hide h1
    rw [h1] at hr
    clear h1
    cases h2 : (decide (1 ≤ size) && decide (size ≤ 65536)) with
    | false =>
      have H2 := hide h2
      rw [h2] at hr
      have HR : Hid (false = r) := hide (by rw [← hr]; rfl)
      clear hr h2
      go_enter Tryz.func105, Tryz.ntmps105
      go_wp2_with (first | (go_at_call 188; refine (isMode_any _ _).mono ?_; rintro _ _ ⟨rfl, rfl⟩; rw [H1.out]) | (go_at_call 189; refine (isSize_any _ _).mono ?_; rintro _ _ ⟨rfl, rfl⟩; rw [H2.out]) | fail)
      go_ret
      exact ⟨by rw [← HR.out]; first | rfl | (show Ending.returned (Value.bool (decide _)) = _; rw [decide_eq_false (by omega)]), recv_below _ _⟩
    | true =>
    have H2 := hide h2
    rw [h2] at hr
    clear h2
    by_cases h3 : (out.length : Int) ≤ size
    · skip
      by_cases h4 : (inn.length : Int) ≤ 65536
      · by_cases h5 : (back.length : Int) ≤ 8
        · skip
          have HR : Hid (true = r) := hide (by rw [← hr, decide_eq_true h3, decide_eq_true h4, decide_eq_true h5]; rfl)
          clear hr
          go_enter Tryz.func105, Tryz.ntmps105
          go_wp2_with (first | (go_at_call 188; refine (isMode_any _ _).mono ?_; rintro _ _ ⟨rfl, rfl⟩; rw [H1.out]) | (go_at_call 189; refine (isSize_any _ _).mono ?_; rintro _ _ ⟨rfl, rfl⟩; rw [H2.out]) | fail)
          go_ret
          exact ⟨by rw [← HR.out]; first | rfl | (show Ending.returned (Value.bool (decide _)) = _; rw [decide_eq_false (by omega)]), recv_below _ _⟩
        · skip
          have HR : Hid (false = r) := hide (by rw [← hr, decide_eq_true h3, decide_eq_true h4, decide_eq_false h5]; rfl)
          clear hr
          go_enter Tryz.func105, Tryz.ntmps105
          go_wp2_with (first | (go_at_call 188; refine (isMode_any _ _).mono ?_; rintro _ _ ⟨rfl, rfl⟩; rw [H1.out]) | (go_at_call 189; refine (isSize_any _ _).mono ?_; rintro _ _ ⟨rfl, rfl⟩; rw [H2.out]) | fail)
          go_ret
          exact ⟨by rw [← HR.out]; first | rfl | (show Ending.returned (Value.bool (decide _)) = _; rw [decide_eq_false (by omega)]), recv_below _ _⟩
      · skip
        have HR : Hid (false = r) := hide (by rw [← hr, decide_eq_true h3, decide_eq_false h4]; rfl)
        clear hr
        go_enter Tryz.func105, Tryz.ntmps105
        go_wp2_with (first | (go_at_call 188; refine (isMode_any _ _).mono ?_; rintro _ _ ⟨rfl, rfl⟩; rw [H1.out]) | (go_at_call 189; refine (isSize_any _ _).mono ?_; rintro _ _ ⟨rfl, rfl⟩; rw [H2.out]) | fail)
        go_ret
        exact ⟨by rw [← HR.out]; first | rfl | (show Ending.returned (Value.bool (decide _)) = _; rw [decide_eq_false (by omega)]), recv_below _ _⟩
    · skip
      have HR : Hid (false = r) := hide (by rw [← hr, decide_eq_false h3]; rfl)
      clear hr
      go_enter Tryz.func105, Tryz.ntmps105
      go_wp2_with (first | (go_at_call 188; refine (isMode_any _ _).mono ?_; rintro _ _ ⟨rfl, rfl⟩; rw [H1.out]) | (go_at_call 189; refine (isSize_any _ _).mono ?_; rintro _ _ ⟨rfl, rfl⟩; rw [H2.out]) | fail)
      go_ret
      exact ⟨by rw [← HR.out]; first | rfl | (show Ending.returned (Value.bool (decide _)) = _; rw [decide_eq_false (by omega)]), recv_below _ _⟩
set_option maxRecDepth 100000 in
set_option maxHeartbeats 4000000 in
theorem wayMay_any (x : SS) (oa ia ba : Option Addr) (oc ic bc : Nat) (w : World) (hi : x.inn.length ≤ 140737488351232) (hb : x.back.length ≤ 140737488351232) : Calls Tryz.prog 106 #[.agg #[.bool x.rd, .bool x.wt, .int .i64 x.mode, .int .i64 x.size, .slice oa x.out.length oc, .slice ia x.inn.length ic, .slice ba x.back.length bc, .int .i64 x.dir, .bool x.fin, .bool x.bad, .bool x.closed]] w fun e w' => e = .returned (.bool x.way) ∧ Below w.heap.size w w' := by
  obtain ⟨rd, wt, mode, size, out, inn, back, dir, fin, bad, closed⟩ := x
  generalize hr : SS.way ⟨rd, wt, mode, size, out, inn, back, dir, fin, bad, closed⟩ = r
  unfold SS.way SS.toR SS.toW at hr
  simp only at hr hi hb ⊢
  by_cases h0 : dir = 0
  · subst h0
    rw [if_pos rfl] at hr
    by_cases h1 : 0 < (inn.length : Int) + (back.length : Int)
    · by_cases h2 : 0 < (out.length : Int)
      · skip
        have HR : Hid (false = r) := hide (by rw [← hr, decide_eq_true h1, decide_eq_true h2]; rfl)
        clear hr
        have q1 := decide_eq_true h1
        have q2 : decide (0 < out.length) = true := decide_eq_true (by omega)
        go_enter Tryz.func106, Tryz.ntmps106
        go_wp2
        go_quiet (fail)
        go_wp2
        go_ret
        exact ⟨by rw [← HR.out]; first | rfl | (show Ending.returned (Value.bool (decide _)) = _; rw [decide_eq_false (by omega)]), recv_drew _ _ _⟩
      · skip
        have HR : Hid (false = r) := hide (by rw [← hr, decide_eq_true h1, decide_eq_false h2]; rfl)
        clear hr
        have q1 := decide_eq_true h1
        have q2 : decide (0 < out.length) = false := decide_eq_false (by omega)
        go_enter Tryz.func106, Tryz.ntmps106
        go_wp2
        go_quiet (fail)
        go_wp2
        go_ret
        exact ⟨by rw [← HR.out]; first | rfl | (show Ending.returned (Value.bool (decide _)) = _; rw [decide_eq_false (by omega)]), recv_drew _ _ _⟩
    · by_cases h2 : 0 < (out.length : Int)
      · skip
        have HR : Hid (false = r) := hide (by rw [← hr, decide_eq_false h1, decide_eq_true h2]; rfl)
        clear hr
        have q1 := decide_eq_false h1
        have q2 : decide (0 < out.length) = true := decide_eq_true (by omega)
        go_enter Tryz.func106, Tryz.ntmps106
        go_wp2
        go_quiet (fail)
        go_wp2
        go_ret
        exact ⟨by rw [← HR.out]; first | rfl | (show Ending.returned (Value.bool (decide _)) = _; rw [decide_eq_false (by omega)]), recv_drew _ _ _⟩
      · skip
        have HR : Hid (true = r) := hide (by rw [← hr, decide_eq_false h1, decide_eq_false h2]; rfl)
        clear hr
        have q1 := decide_eq_false h1
        have q2 : decide (0 < out.length) = false := decide_eq_false (by omega)
        go_enter Tryz.func106, Tryz.ntmps106
        go_wp2
        go_quiet (fail)
        go_wp2
        go_ret
        exact ⟨by rw [← HR.out]; first | rfl | (show Ending.returned (Value.bool (decide _)) = _; rw [decide_eq_false (by omega)]), recv_drew _ _ _⟩
  rw [if_neg h0] at hr
  by_cases h3 : dir = 1
  · subst h3
    rw [if_pos rfl] at hr
    cases rd with
    | false =>
      have HR : Hid (false = r) := hide (by rw [← hr]; rfl)
      clear hr
      go_enter Tryz.func106, Tryz.ntmps106
      go_wp2
      go_quiet (fail)
      go_wp2
      go_ret
      exact ⟨by rw [← HR.out]; first | rfl | (show Ending.returned (Value.bool (decide _)) = _; rw [decide_eq_false (by omega)]), recv_drew _ _ _⟩
    | true =>
    by_cases h2 : 0 < (out.length : Int)
    · skip
      have HR : Hid (false = r) := hide (by rw [← hr, decide_eq_true h2]; rfl)
      clear hr
      have q2 : decide (0 < out.length) = true := decide_eq_true (by omega)
      go_enter Tryz.func106, Tryz.ntmps106
      go_wp2
      go_quiet (fail)
      go_wp2
      go_ret
      exact ⟨by rw [← HR.out]; first | rfl | (show Ending.returned (Value.bool (decide _)) = _; rw [decide_eq_false (by omega)]), recv_drew _ _ _⟩
    · cases closed with
      | false =>
        have HR : Hid (true = r) := hide (by rw [← hr, decide_eq_false h2]; rfl)
        clear hr
        have q2 : decide (0 < out.length) = false := decide_eq_false (by omega)
        go_enter Tryz.func106, Tryz.ntmps106
        go_wp2
        go_quiet (fail)
        go_wp2
        go_ret
        exact ⟨by rw [← HR.out]; first | rfl | (show Ending.returned (Value.bool (decide _)) = _; rw [decide_eq_false (by omega)]), recv_drew _ _ _⟩
      | true =>
        have HR : Hid (false = r) := hide (by rw [← hr, decide_eq_false h2]; rfl)
        clear hr
        have q2 : decide (0 < out.length) = false := decide_eq_false (by omega)
        go_enter Tryz.func106, Tryz.ntmps106
        go_wp2
        go_quiet (fail)
        go_wp2
        go_ret
        exact ⟨by rw [← HR.out]; first | rfl | (show Ending.returned (Value.bool (decide _)) = _; rw [decide_eq_false (by omega)]), recv_drew _ _ _⟩
  rw [if_neg h3] at hr
  by_cases h4 : dir = 2
  · subst h4
    rw [if_pos rfl] at hr
    cases wt with
    | false =>
      have HR : Hid (false = r) := hide (by rw [← hr]; rfl)
      clear hr
      go_enter Tryz.func106, Tryz.ntmps106
      go_wp2
      go_quiet (fail)
      go_wp2
      go_ret
      exact ⟨by rw [← HR.out]; first | rfl | (show Ending.returned (Value.bool (decide _)) = _; rw [decide_eq_false (by omega)]), recv_drew _ _ _⟩
    | true =>
    by_cases h1 : 0 < (inn.length : Int) + (back.length : Int)
    · skip
      have HR : Hid (false = r) := hide (by rw [← hr, decide_eq_true h1]; rfl)
      clear hr
      have q1 := decide_eq_true h1
      go_enter Tryz.func106, Tryz.ntmps106
      go_wp2
      go_quiet (fail)
      go_wp2
      go_ret
      exact ⟨by rw [← HR.out]; first | rfl | (show Ending.returned (Value.bool (decide _)) = _; rw [decide_eq_false (by omega)]), recv_drew _ _ _⟩
    · cases closed with
      | false =>
        have HR : Hid (true = r) := hide (by rw [← hr, decide_eq_false h1]; rfl)
        clear hr
        have q1 := decide_eq_false h1
        go_enter Tryz.func106, Tryz.ntmps106
        go_wp2
        go_quiet (fail)
        go_wp2
        go_ret
        exact ⟨by rw [← HR.out]; first | rfl | (show Ending.returned (Value.bool (decide _)) = _; rw [decide_eq_false (by omega)]), recv_drew _ _ _⟩
      | true =>
        have HR : Hid (false = r) := hide (by rw [← hr, decide_eq_false h1]; rfl)
        clear hr
        have q1 := decide_eq_false h1
        go_enter Tryz.func106, Tryz.ntmps106
        go_wp2
        go_quiet (fail)
        go_wp2
        go_ret
        exact ⟨by rw [← HR.out]; first | rfl | (show Ending.returned (Value.bool (decide _)) = _; rw [decide_eq_false (by omega)]), recv_drew _ _ _⟩
  rw [if_neg h4] at hr
  have HR : Hid (false = r) := hide hr
  clear hr
  go_enter Tryz.func106, Tryz.ntmps106
  go_wp2
  go_quiet (fail)
  go_wp2
  go_ret
  exact ⟨by rw [← HR.out]; first | rfl | (show Ending.returned (Value.bool (decide _)) = _; rw [decide_eq_false (by omega)]), recv_drew _ _ _⟩
end Go.Proofs.YtdmkjbdlidadiaaGreat
