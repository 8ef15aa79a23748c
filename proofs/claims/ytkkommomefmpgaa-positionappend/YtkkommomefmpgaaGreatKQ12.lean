/- What the proof stands on, part 12: the contracts of the program's calls that it reaches. -/
import Derived.Test.YtkkommomefmpgaaGreatKQ11
import Derived.Lib.MinMax
/- Kernels as values: a pipe on which a description writes has a writer, and no other one writes on it. -/
namespace Go.Proofs.YtkkommomefmpgaaGreat
open Go.RowKit Go.Maps

def Ob.wts : Ob → Option Nat
  | .pipe _ _ wt => some wt
  | _ => none
def KS.pw (K : KS) (i : Nat) : Option Nat := (K.obOf i).wts
def PInv (K : KS) : Prop := ∀ x ∈ K.de, bit x.flags 2 = true → ∀ wt, K.pw x.th = some wt → 1 ≤ wt ∧ ∀ y ∈ K.de, y.th = x.th → bit y.flags 2 = true → y.n = x.n
theorem PInv.sub {K K' : KS} (h : PInv K) (hd : ∀ x ∈ K'.de, ∃ y ∈ K.de, y.n = x.n ∧ y.th = x.th ∧ y.flags = x.flags) (hw : ∀ i, K'.pw i = K.pw i) : PInv K' := by
  intro x hx hb wt hwt
  obtain ⟨y, hy, e1, e2, e3⟩ := hd x hx
  rw [hw, ← e2] at hwt
  obtain ⟨h1, h2⟩ := h y hy (by rw [e3]; exact hb) wt hwt
  refine ⟨h1, fun z hz hzt hzb => ?_⟩
  obtain ⟨u, hu, f1, f2, f3⟩ := hd z hz
  rw [← f1, ← e1]
  exact h2 u hu (by rw [f2, hzt, e2]) (by rw [f3]; exact hzb)
theorem pw_setOb {K : KS} {i : Nat} {ob : Ob} (h : ob.wts = K.pw i) (j : Nat) : (K.setOb i ob).pw j = K.pw j := by
  unfold KS.pw KS.obOf KS.setOb at *
  simp only [List.getElem?_modify]
  by_cases e : i = j
  · subst e
    cases hq : K.th[i]? with
    | none => simp
    | some t => simp [hq] at h ⊢; exact h
  · simp [e]
theorem PInv.setOb {K : KS} {i : Nat} {ob : Ob} (h : PInv K) (hw : ob.wts = K.pw i) : PInv (K.setOb i ob) := h.sub (fun y hy => ⟨y, hy, rfl, rfl, rfl⟩) (pw_setOb hw)
theorem obOf_app {K : KS} {i : Nat} (h : i < K.th.length) {t : Th} : ((K.th ++ [t])[i]?.map Th.ob).getD (.file []) = K.obOf i := by
  unfold KS.obOf
  rw [List.getElem?_append_left h]
theorem pinv_newDe {K : KS} (h : PInv K) (i : Nat) (fl : Int) (hi : K.pw i = none) : PInv (K.newDe i fl) := by
  intro x hx hb wt hwt
  have hpw : K.pw x.th = some wt := hwt
  rcases List.mem_append.1 (show x ∈ K.de ++ [⟨K.next, i, fl, 0, 1⟩] from hx) with hx | hx
  · obtain ⟨g1, g2⟩ := h x hx hb wt hpw
    refine ⟨g1, fun y hy hyt hyb => ?_⟩
    rcases List.mem_append.1 (show y ∈ K.de ++ [⟨K.next, i, fl, 0, 1⟩] from hy) with hy | hy
    · exact g2 y hy hyt hyb
    · have : y = ⟨K.next, i, fl, 0, 1⟩ := by simpa using hy
      subst this
      rw [← hyt] at hpw
      rw [hi] at hpw
      cases hpw
  · have : x = ⟨K.next, i, fl, 0, 1⟩ := by simpa using hx
    subst this
    rw [hi] at hpw
    cases hpw
theorem pinv_open {K : KS} (h : PInv K) (hk : KOk K) (hn : KNm K) (s : ByteArray) (fl : Int) : PInv (K.open s fl).2.2 := by
  unfold KS.open
  split
  · exact h
  split
  · exact h
  split
  · exact h
  cases hq : K.byName s with
  | some i =>
    simp only
    have him : i ∈ K.nm := List.mem_of_find?_eq_some hq
    have hki := hn.kind i him
    split
    · have hpi : K.pw i = none := by
        unfold KS.pw
        cases ho : K.obOf i with
        | file b => rfl
        | term ls scr => rfl
        | pipe q rd wt => rw [ho] at hki; rcases hki with e | e <;> simp [Ob.kind] at e
      have hcut : PInv (K.cut i fl) ∧ (K.cut i fl).pw i = none := by
        unfold KS.cut
        split
        · cases ho : K.obOf i with
          | file b =>
            have hw : (Ob.file []).wts = K.pw i := by rw [hpi]; rfl
            exact ⟨h.setOb hw, by rw [pw_setOb hw]; exact hpi⟩
          | term ls scr => exact ⟨h, hpi⟩
          | pipe q rd wt => exact ⟨h, hpi⟩
        · exact ⟨h, hpi⟩
      exact pinv_newDe hcut.1 i fl hcut.2
    · exact h
  | none =>
    simp only
    split
    · exact h
    split
    · exact h
    · have hadd : PInv (K.addTh ⟨s, .file []⟩) := by
        intro x hx hb wt hwt
        have hx' : x ∈ K.de := hx
        have hlt := hk.th x hx'
        have hpw : K.pw x.th = some wt := by
          rw [← hwt]
          show (K.obOf x.th).wts = ((((K.th ++ [⟨s, .file []⟩])[x.th]?.map Th.ob).getD (.file []))).wts
          rw [obOf_app hlt]
        exact h x hx' hb wt hpw
      refine pinv_newDe hadd _ fl ?_
      show ((((K.th ++ [⟨s, .file []⟩])[K.th.length]?.map Th.ob).getD (.file []))).wts = none
      simp [Ob.wts]
theorem pinv_new (fs : List Nm) (ts : List Tp) (l : List Fault) (h : (KS.new fs ts l).de = []) : PInv (KS.new fs ts l) := by
  intro x hx
  rw [h] at hx
  cases hx
theorem new_de (fs : List Nm) (ts : List Tp) (l : List Fault) : (KS.new fs ts l).de = [] := by
  unfold KS.new
  have h1 : ∀ (ts : List Tp) (K : KS), (ts.foldl (fun K t => K.addTh ⟨t.1, .term t.2 []⟩) K).de = K.de := fun ts => by
    induction ts with
    | nil => intro K; rfl
    | cons t r ih => intro K; rw [List.foldl_cons, ih]; rfl
  have h2 : ∀ (fs : List Nm) (K : KS), (fs.foldl (fun K f => K.addTh ⟨f.1, .file f.2⟩) K).de = K.de := fun fs => by
    induction fs with
    | nil => intro K; rfl
    | cons t r ih => intro K; rw [List.foldl_cons, ih]; rfl
  rw [h1, h2]
  rfl
end Go.Proofs.YtkkommomefmpgaaGreat

/- Raws, as values and in memory; retry's small functions. -/
namespace Go.Proofs.YtkkommomefmpgaaGreat
open Go.RowKit Go.Maps

structure RawD (S : Type) where
  read : S → Nat → List UInt8 × Int × S
  write : S → List UInt8 → Int × Int × S
structure RawP {S : Type} (D : RawD S) (T : TypeId) (v : Value) (fr fw : FuncId) (rok wok : S → Prop) (At : World → (Nat → Prop) → S → Prop) : Prop where
  mread : ∀ w, (method 485 T v "Read").run Tryz.prog w = .ok (fr, v) w
  mwrite : ∀ w, (method 485 T v "Write").run Tryz.prog w = .ok (fw, v) w
  cread : ∀ a w, (callFunc fr a).run Tryz.prog w = .ok (.enter fr a) w
  cwrite : ∀ a w, (callFunc fw a).run Tryz.prog w = .ok (.enter fw a) w
  keep : ∀ {w w' : World} {O : Nat → Prop} {s : S}, At w O s → (∀ j, O j → j < w.heap.size → w'.heap[j]? = w.heap[j]?) → w.heap.size ≤ w'.heap.size → At w' O s
  few : ∀ {w : World} {O : Nat → Prop} {s : S} (n : Nat), At w O s → (D.read s n).1.length ≤ 1073741824
  read : ∀ {w : World} {O : Nat → Prop} {s : S} (n : Nat), At w O s → rok s → 1 ≤ n → n ≤ 1048576 → Calls Tryz.prog fr #[v, .int .i64 n] w fun e w' => ∃ ua uc, e = .returned (.tuple #[.slice ua (D.read s n).1.length uc, .int .i64 (D.read s n).2.1]) ∧ Bys w' (.slice ua (D.read s n).1.length uc) (D.read s n).1 ∧ At w' O (D.read s n).2.2 ∧ Turned O w w'
  write : ∀ {w : World} {O : Nat → Prop} {s : S} (bs : List UInt8) (a : Option Addr) (c : Nat), At w O s → wok s → Bys w (.slice a bs.length c) bs → bs.length ≤ c → 1 ≤ bs.length → bs.length ≤ 1048576 → (∀ k, (Value.slice a bs.length c).ownBlock = some k → ¬ O k) →
    Calls Tryz.prog fw #[v, .slice a bs.length c] w fun e w' => e = .returned (.tuple #[.int .i64 (D.write s bs).1, .int .i64 (D.write s bs).2.1]) ∧ ∃ O', At w' O' (D.write s bs).2.2 ∧ (∀ k, O' k → O k ∨ w.heap.size ≤ k) ∧ Turned O w w'
structure RawM {S : Type} (D : RawD S) (T : TypeId) (v : Value) (fr fw : FuncId) (rok wok : S → Prop) (At : World → (Nat → Prop) → S → Prop) : Prop where
  rd : (∃ s, rok s) → ∃ vr : Value, (∀ w, (method 485 T v "Read").run Tryz.prog w = .ok (fr, vr) w) ∧ ∀ {w : World} {O : Nat → Prop} {s : S} (n : Nat), At w O s → rok s → 1 ≤ n → n ≤ 1048576 → Calls Tryz.prog fr #[vr, .int .i64 n] w fun e w' => ∃ ua uc, e = .returned (.tuple #[.slice ua (D.read s n).1.length uc, .int .i64 (D.read s n).2.1]) ∧ Bys w' (.slice ua (D.read s n).1.length uc) (D.read s n).1 ∧ At w' O (D.read s n).2.2 ∧ Turned O w w'
  mwrite : ∀ w, (method 485 T v "Write").run Tryz.prog w = .ok (fw, v) w
  cread : ∀ a w, (callFunc fr a).run Tryz.prog w = .ok (.enter fr a) w
  cwrite : ∀ a w, (callFunc fw a).run Tryz.prog w = .ok (.enter fw a) w
  keep : ∀ {w w' : World} {O : Nat → Prop} {s : S}, At w O s → (∀ j, O j → j < w.heap.size → w'.heap[j]? = w.heap[j]?) → w.heap.size ≤ w'.heap.size → At w' O s
  few : ∀ {w : World} {O : Nat → Prop} {s : S} (n : Nat), At w O s → (D.read s n).1.length ≤ 1073741824
  write : ∀ {w : World} {O : Nat → Prop} {s : S} (bs : List UInt8) (a : Option Addr) (c : Nat), At w O s → wok s → Bys w (.slice a bs.length c) bs → bs.length ≤ c → 1 ≤ bs.length → bs.length ≤ 1048576 → (∀ k, (Value.slice a bs.length c).ownBlock = some k → ¬ O k) →
    Calls Tryz.prog fw #[v, .slice a bs.length c] w fun e w' => e = .returned (.tuple #[.int .i64 (D.write s bs).1, .int .i64 (D.write s bs).2.1]) ∧ ∃ O', At w' O' (D.write s bs).2.2 ∧ (∀ k, O' k → O k ∨ w.heap.size ≤ k) ∧ Turned O w w'
theorem RawP.gen {S : Type} {D : RawD S} {T : TypeId} {v : Value} {fr fw : FuncId} {rok wok : S → Prop} {At : World → (Nat → Prop) → S → Prop} (R : RawP D T v fr fw rok wok At) : RawM D T v fr fw rok wok At := ⟨fun _ => ⟨v, R.mread, fun n => R.read n⟩, R.mwrite, R.cread, R.cwrite, R.keep, R.few, R.write⟩
theorem view_own {P : Prop} {w : World} {E : Int} {l : List UInt8} {e : Ending} {w' : World} (h : ∃ u, e = .returned (.tuple #[u, .int .i64 E]) ∧ w'.ownsRow w.heap.size 5 1 u l.length (l.map bv) ∧ P) : ∃ ua uc, e = .returned (.tuple #[.slice ua l.length uc, .int .i64 E]) ∧ Bys w' (.slice ua l.length uc) l ∧ P := by
  obtain ⟨u, rfl, ho, hp⟩ := h
  obtain ⟨ua, uc, rfl⟩ := owns_slice ho
  exact ⟨ua, uc, rfl, Bys.of_owns ho, hp⟩
def RStep {S : Type} (At : World → (Nat → Prop) → S → Prop) (w : World) (O : Nat → Prop) (s : S) (w' : World) : Prop := ∃ O', At w' O' s ∧ (∀ k, O' k → O k ∨ w.heap.size ≤ k) ∧ Turned O w w'
def someV {S : Type} (D : RawD S) (n : Nat) : Nat → S → List UInt8 × Int × S
  | 0, s => ([], 81, s)
  | k + 1, s => if (D.read s n).2.1 = 22 ∨ (D.read s n).2.1 = 23 then someV D n k (D.read s n).2.2
      else if n < (D.read s n).1.length then ([], 82, (D.read s n).2.2)
      else if (D.read s n).2.1 = 0 then ((D.read s n).1, 0, (D.read s n).2.2)
      else ([], (D.read s n).2.1, (D.read s n).2.2)
theorem someV_next {S : Type} (D : RawD S) (n k : Nat) (s : S) {b : List UInt8} {e : Int} {s2 : S} (h : D.read s n = (b, e, s2)) : someV D n (k + 1) s = if e = 22 ∨ e = 23 then someV D n k s2 else if n < b.length then ([], 82, s2) else if e = 0 then (b, 0, s2) else ([], e, s2) := by
  show (if (D.read s n).2.1 = 22 ∨ (D.read s n).2.1 = 23 then someV D n k (D.read s n).2.2 else if n < (D.read s n).1.length then ([], 82, (D.read s n).2.2) else if (D.read s n).2.1 = 0 then ((D.read s n).1, 0, (D.read s n).2.2) else ([], (D.read s n).2.1, (D.read s n).2.2)) = _
  rw [h]
def someOk {S : Type} (D : RawD S) (ok : S → Prop) (n : Nat) : Nat → S → Prop
  | 0, _ => True
  | k + 1, s => ok s ∧ ((D.read s n).2.1 = 22 ∨ (D.read s n).2.1 = 23 → someOk D ok n k (D.read s n).2.2)
def putV {S : Type} (D : RawD S) (bs : List UInt8) : Nat → S → Nat → Nat → Nat × Int × S
  | 0, s, d, _ => (d, 0, s)
  | k + 1, s, d, t => if d < bs.length then
      (if ((D.write s (bs.drop d)).2.1 = 22 ∨ (D.write s (bs.drop d)).2.1 = 23) ∨ ((D.write s (bs.drop d)).1 = 0 ∧ (D.write s (bs.drop d)).2.1 = 0) then
        (if t + 1 = 8192 then (d, 81, (D.write s (bs.drop d)).2.2) else putV D bs k (D.write s (bs.drop d)).2.2 d (t + 1))
       else if (D.write s (bs.drop d)).1 < 0 ∨ ((bs.length - d : Nat) : Int) < (D.write s (bs.drop d)).1 then (d, 82, (D.write s (bs.drop d)).2.2)
       else if (D.write s (bs.drop d)).2.1 = 0 then putV D bs k (D.write s (bs.drop d)).2.2 (d + (D.write s (bs.drop d)).1.toNat) 0
       else (d, (D.write s (bs.drop d)).2.1, (D.write s (bs.drop d)).2.2))
      else (d, 0, s)
def putOk {S : Type} (D : RawD S) (ok : S → Prop) (bs : List UInt8) : Nat → S → Nat → Nat → Prop
  | 0, _, _, _ => True
  | k + 1, s, d, t => d < bs.length → ok s ∧
      (((D.write s (bs.drop d)).2.1 = 22 ∨ (D.write s (bs.drop d)).2.1 = 23) ∨ ((D.write s (bs.drop d)).1 = 0 ∧ (D.write s (bs.drop d)).2.1 = 0) → t + 1 ≠ 8192 → putOk D ok bs k (D.write s (bs.drop d)).2.2 d (t + 1)) ∧
      ((D.write s (bs.drop d)).2.1 = 0 → 1 ≤ (D.write s (bs.drop d)).1 → (D.write s (bs.drop d)).1 ≤ ((bs.length - d : Nat) : Int) → putOk D ok bs k (D.write s (bs.drop d)).2.2 (d + (D.write s (bs.drop d)).1.toNat) 0)
theorem putV_next {S : Type} (D : RawD S) (bs : List UInt8) (k : Nat) (s : S) (d t : Nat) {m e : Int} {s2 : S} (h : D.write s (bs.drop d) = (m, e, s2)) : putV D bs (k + 1) s d t = if d < bs.length then
      (if (e = 22 ∨ e = 23) ∨ (m = 0 ∧ e = 0) then (if t + 1 = 8192 then (d, 81, s2) else putV D bs k s2 d (t + 1))
       else if m < 0 ∨ ((bs.length - d : Nat) : Int) < m then (d, 82, s2)
       else if e = 0 then putV D bs k s2 (d + m.toNat) 0
       else (d, e, s2))
      else (d, 0, s) := by
  show (if d < bs.length then
      (if ((D.write s (bs.drop d)).2.1 = 22 ∨ (D.write s (bs.drop d)).2.1 = 23) ∨ ((D.write s (bs.drop d)).1 = 0 ∧ (D.write s (bs.drop d)).2.1 = 0) then
        (if t + 1 = 8192 then (d, 81, (D.write s (bs.drop d)).2.2) else putV D bs k (D.write s (bs.drop d)).2.2 d (t + 1))
       else if (D.write s (bs.drop d)).1 < 0 ∨ ((bs.length - d : Nat) : Int) < (D.write s (bs.drop d)).1 then (d, 82, (D.write s (bs.drop d)).2.2)
       else if (D.write s (bs.drop d)).2.1 = 0 then putV D bs k (D.write s (bs.drop d)).2.2 (d + (D.write s (bs.drop d)).1.toNat) 0
       else (d, (D.write s (bs.drop d)).2.1, (D.write s (bs.drop d)).2.2))
      else (d, 0, s)) = _
  rw [h]
theorem putV_done {S : Type} (D : RawD S) (bs : List UInt8) (k : Nat) (s : S) (d t : Nat) (h : ¬ d < bs.length) : putV D bs k s d t = (d, 0, s) := by
  cases k with
  | zero => rfl
  | succ k => unfold putV; rw [if_neg h]
theorem putOk_next {S : Type} (D : RawD S) (ok : S → Prop) (bs : List UInt8) (k : Nat) (s : S) (d t : Nat) {m e : Int} {s2 : S} (h : D.write s (bs.drop d) = (m, e, s2)) (hd : d < bs.length) (hp : putOk D ok bs (k + 1) s d t) : ok s ∧ ((e = 22 ∨ e = 23) ∨ (m = 0 ∧ e = 0) → t + 1 ≠ 8192 → putOk D ok bs k s2 d (t + 1)) ∧ (e = 0 → 1 ≤ m → m ≤ ((bs.length - d : Nat) : Int) → putOk D ok bs k s2 (d + m.toNat) 0) := by
  have h2 := hp hd
  rw [h] at h2
  exact h2
def putF (bs : List UInt8) : Nat := bs.length * 8192 + 8192
theorem isTry_yes (e : Int) (w : World) (h : e = 22 ∨ e = 23) : Calls Tryz.prog 216 #[.int .i64 e] w fun r w' => r = .returned (.bool true) ∧ w = w' := by
  rcases h with rfl | rfl
  all_goals
    go_enter Tryz.func216, Tryz.ntmps216
    go_wp2
    go_ret
    exact ⟨rfl, rfl⟩
theorem isTry_no (e : Int) (w : World) (h : ¬ (e = 22 ∨ e = 23)) : Calls Tryz.prog 216 #[.int .i64 e] w fun r w' => r = .returned (.bool false) ∧ w = w' := by
  have h1 : ¬ e = 22 := fun x => h (.inl x)
  have h2 : ¬ e = 23 := fun x => h (.inr x)
  have h3 : (e == 22) = false := by simp [h1]
  have h4 : (e == 23) = false := by simp [h2]
  go_enter Tryz.func216, Tryz.ntmps216
  go_wp2
  go_ret
  exact ⟨rfl, rfl⟩
theorem readable_yes (T : TypeId) (v : Value) (n : Int) (w : World) (h1 : 1 ≤ n) (h2 : n ≤ 1048576) : Calls Tryz.prog 252 #[.iface T v, .int .i64 n] w fun r w' => r = .returned (.int .i64 0) ∧ w = w' := by
  have h3 : ¬ n < 1 := by omega
  have h4 : ¬ 1048576 < n := by omega
  go_enter Tryz.func252, Tryz.ntmps252
  go_wp2
  go_ret
  exact ⟨rfl, rfl⟩
set_option maxRecDepth 100000 in
set_option maxHeartbeats 1000000 in
theorem bclone_any (v : Value) (l : List UInt8) (w : World) (h : Bys w v l) (hs : l.length ≤ 140737488351232) :
    Calls Tryz.prog 182 #[v] w fun e w' => ∃ u, e = .returned u ∧ w'.ownsRow w.heap.size 5 1 u l.length (l.map bv) ∧ Below w.heap.size w w' := by
  have hmade : (w.alloc (Obj.cells #[] 5)).ownsRow w.heap.size 5 1 (.slice (some ⟨w.heap.size, 0, none⟩) 0 0) ([] : List UInt8).length (([] : List UInt8).map bv) := World.ownsRow_made _ _ _ (Nat.le_refl _) (by decide) rfl
  have hB := recv_below w (Obj.cells #[] 5)
  obtain ⟨s', w1, hrun, HO, hg, hb⟩ := run_append_bytes (w.alloc (Obj.cells #[] 5)) 40 w.heap.size _ v [] l hmade (h.below hB) (by simpa using hs) hB.size
  have HR := hide hrun
  have HB : Hid (Below w.heap.size w w1) := hide (hB.grown hg hB.size (fun j e => by
    have : w.heap.size = j := by simpa [Value.ownBlock] using e
    omega))
  rcases h with ⟨rfl, rfl⟩ | ⟨a, cap, rfl, rfl⟩ | ⟨b, off, cap, rfl, h0, -⟩
  · have hnil : ∀ W, (binOp .eql 40 (.slice none 0 0) (.slice none 0 0)).run Tryz.prog W = .ok (.bool true) W := fun W => Lib.run_eql_slice_nil_nil W _ _ Tryz.underlying40
    go_enter Tryz.func182, Tryz.ntmps182
    go_wp2
    go_ret
    exact ⟨_, rfl, World.ownsRow_nil _ _ _ _, Below.refl _ _⟩
  · have hnil : ∀ W, (binOp .eql 40 (.slice (some a) 0 cap) (.slice none 0 0)).run Tryz.prog W = .ok (.bool false) W := fun W => Lib.run_eql_slice_some_nil W _ _ _ Tryz.underlying40
    clear hrun hg hb hmade hB
    go_enter Tryz.func182, Tryz.ntmps182
    go_wp2_with (at_builtin; refine Lib.wpList_append_run _ rfl _ _ _ _ rfl _ _ rfl rfl _ _ HR.out ?_)
    go_ret
    exact ⟨_, rfl, HO.out, HB.out⟩
  · have hnil : ∀ W, (binOp .eql 40 (.slice (some ⟨b, off, none⟩) l.length cap) (.slice none 0 0)).run Tryz.prog W = .ok (.bool false) W := fun W => Lib.run_eql_slice_some_nil W _ _ _ Tryz.underlying40
    clear hrun hg hb hmade hB
    go_enter Tryz.func182, Tryz.ntmps182
    go_wp2_with (at_builtin; refine Lib.wpList_append_run _ rfl _ _ _ _ rfl _ _ rfl rfl _ _ HR.out ?_)
    go_ret
    exact ⟨_, rfl, HO.out, HB.out⟩
end Go.Proofs.YtkkommomefmpgaaGreat

/- Some, over any Raw. -/
namespace Go.Proofs.YtkkommomefmpgaaGreat
open Go.RowKit Go.Maps

set_option maxRecDepth 100000 in
set_option maxHeartbeats 4000000 in
theorem some_any {S : Type} {D : RawD S} {T : TypeId} {v : Value} {fr fw : FuncId} {rok wok : S → Prop} {At : World → (Nat → Prop) → S → Prop} (R : RawM D T v fr fw rok wok At) {w : World} {O : Nat → Prop} {s : S} (n : Nat) (h : At w O s) (h1 : 1 ≤ n) (h2 : n ≤ 1048576) (hok : someOk D rok n 8192 s) :
    Calls Tryz.prog 223 #[.iface T v, .int .i64 n] w fun e w' => ∃ u, e = .returned (.tuple #[u, .int .i64 (someV D n 8192 s).2.1]) ∧ w'.ownsRow w.heap.size 5 1 u (someV D n 8192 s).1.length ((someV D n 8192 s).1.map bv) ∧ At w' O (someV D n 8192 s).2.2 ∧ Turned O w w' := by
  have hok1 : someOk D rok n (8191 + 1) s := hok
  obtain ⟨vr, hm, hrd0⟩ := R.rd ⟨s, hok1.1⟩
  clear hok1
  have HRd0 := hide (fun (w : World) (O : Nat → Prop) (s : S) (n : Nat) => @hrd0 w O s n)
  clear hrd0
  have hcr := R.cread
  have HA := hide h
  have HOk := hide hok
  have HR := hide R
  clear h hok R
  go_enter Tryz.func223, Tryz.ntmps223
  go_wp2_with (first | (go_at_call 252; refine (readable_yes T v n _ (by omega) (by omega)).mono ?_; rintro _ _ ⟨rfl, rfl⟩) | fail)
  obtain ⟨tr, htr⟩ : ∃ tr, tr = 8192 := ⟨_, rfl⟩
  have HTr := hide htr
  clear htr
  go_loopw [15] (fun i wr => ∃ (k : Nat) (s' : S), i = .int .i64 k ∧ k ≤ 8192 ∧ Hid (At wr O s') ∧ Hid (someOk D rok n (tr - k) s' ∧ someV D n (tr - k) s' = someV D n 8192 s) ∧ Hid (Turned O w wr) ∧ w.heap.size ≤ wr.heap.size) (fun i _ => 8192 - (intOf i).toNat)
  case atStart => exact ⟨0, s, rfl, Nat.zero_le _, HA, hide (by rw [HTr.out]; exact ⟨HOk.out, rfl⟩), hide (Turned.of_below (Below.refl _ _)), Nat.le_refl _⟩
  case round =>
    obtain ⟨k, s', rfl, hk, HAt, HV, HT, hsz⟩ := hrel
    clear HA HOk
    by_cases hlt : k < 8192
    case neg =>
      have hke : k = 8192 := by omega
      have HE : Hid (someV D n 8192 s = ([], 81, s')) := hide (by
        have := HV.out.2
        rw [show tr - k = 0 by have := HTr.out; omega] at this
        exact this.symm)
      have hlt' : ¬ (k : Int) < 8192 := by omega
      clear HV hke hlt
      go_wp2_with fail
      go_ret2
      rw [HE.out]
      exact ⟨_, rfl, World.ownsRow_nil _ _ _ _, HAt.out, HT.out⟩
    have hlt' : (k : Int) < 8192 := by omega
    obtain ⟨j, hj⟩ : ∃ j, tr - k = j + 1 := ⟨tr - k - 1, by have := HTr.out; omega⟩
    rw [hj] at HV
    have HRd := hide (HRd0.out _ _ _ n HAt.out HV.out.1.1 h1 h2)
    have hfew := HR.out.few n HAt.out
    obtain ⟨b, e, s2, hd⟩ : ∃ b e s2, D.read s' n = (b, e, s2) := ⟨_, _, _, rfl⟩
    rw [hd] at HRd hfew
    simp only at HRd hfew
    have hV1 : e = 22 ∨ e = 23 → someOk D rok n j s2 := by have := HV.out.1.2; rw [hd] at this; exact this
    have hV2 := HV.out.2
    rw [someV_next D n j s' hd] at hV2
    have HV1 := hide hV1
    have HJ := hide hj
    clear HV hd hj hV1
    by_cases ht : e = 22 ∨ e = 23
    · rw [if_pos ht] at hV2
      have HV2 := hide hV2
      have HV3 := hide (HV1.out ht)
      have HTt := hide ht
      clear hV2 ht
      go_wp2_with fail
      refine HRd.out.mono ?_
      rintro _ w1 ⟨ua, uc, rfl, hO1, hA1, hT1⟩
      have HA1 := hide hA1
      have HT1 := hide (HT.out.trans hT1 (fun _ _ e => e))
      have hs1 : w.heap.size ≤ w1.heap.size := Nat.le_trans hsz hT1.size
      clear hO1 hA1 hT1
      go_wp2_with (first | (go_at_call 216; refine (isTry_yes _ _ HTt.out).mono ?_; rintro _ _ ⟨rfl, rfl⟩) | fail)
      go_roundw
      case rel => exact ⟨k + 1, s2, by go_num, by omega, HA1, hide (by rw [show tr - (k + 1) = j by have := HJ.out; omega]; exact ⟨HV3.out, HV2.out⟩), HT1, hs1⟩
      case measure => simp [intOf]; omega
    · rw [if_neg ht] at hV2
      have HTt := hide ht
      clear ht HV1
      by_cases hn : n < b.length
      · rw [if_pos hn] at hV2
        have HV2 := hide hV2
        have hn' : (n : Int) < (b.length : Int) := by omega
        clear hV2 hn
        go_wp2_with fail
        refine HRd.out.mono ?_
        rintro _ w1 ⟨ua, uc, rfl, hO1, hA1, hT1⟩
        have HA1 := hide hA1
        have HT1 := hide (HT.out.trans hT1 (fun _ _ e => e))
        clear hO1 hA1 hT1
        go_wp2_with (first | (go_at_call 216; refine (isTry_no _ _ HTt.out).mono ?_; rintro _ _ ⟨rfl, rfl⟩) | fail)
        go_ret2
        rw [← HV2.out]
        exact ⟨_, rfl, World.ownsRow_nil _ _ _ _, HA1.out, HT1.out⟩
      rw [if_neg hn] at hV2
      have hn' : ¬ (n : Int) < (b.length : Int) := by omega
      by_cases he : e = 0
      · subst he
        rw [if_pos rfl] at hV2
        have HV2 := hide hV2
        clear hV2 hn
        go_wp2_with fail
        refine HRd.out.mono ?_
        rintro _ w1 ⟨ua, uc, rfl, hO1, hA1, hT1⟩
        have HC := hide (bclone_any (.slice ua b.length uc) b w1 hO1 (by omega))
        have HA1 := hide hA1
        have HT1 := hide (HT.out.trans hT1 (fun _ _ e => e))
        clear hO1 hA1 hT1
        go_wp2_with (first | (go_at_call 216; refine (isTry_no _ _ HTt.out).mono ?_; rintro _ _ ⟨rfl, rfl⟩) | fail)
        refine HC.out.mono ?_
        rintro _ w2 ⟨u2, rfl, hO2, hB2⟩
        have HA2 := hide (HR.out.keep HA1.out (fun j _ hj => hB2.block j hj) hB2.size)
        have HT2 := hide (HT1.out.trans (Turned.of_below hB2) (fun _ _ e => e))
        have HO2 := hide (owns_mono hO2 HT1.out.size)
        clear hO2 hB2
        go_wp2
        go_ret2
        rw [← HV2.out]
        exact ⟨_, rfl, HO2.out, HA2.out, HT2.out⟩
      · rw [if_neg he] at hV2
        have HV2 := hide hV2
        have he2 : (e != 0) = true := by simp [he]
        have he3 : (e == 0) = false := by simp [he]
        clear hV2 hn
        go_wp2_with fail
        refine HRd.out.mono ?_
        rintro _ w1 ⟨ua, uc, rfl, hO1, hA1, hT1⟩
        have HA1 := hide hA1
        have HT1 := hide (HT.out.trans hT1 (fun _ _ e => e))
        clear hO1 hA1 hT1
        go_wp2_with (first | (go_at_call 216; refine (isTry_no _ _ HTt.out).mono ?_; rintro _ _ ⟨rfl, rfl⟩) | fail)
        go_ret2
        rw [← HV2.out]
        exact ⟨_, rfl, World.ownsRow_nil _ _ _ _, HA1.out, HT1.out⟩
end Go.Proofs.YtkkommomefmpgaaGreat

/- All, over any Raw. -/
namespace Go.Proofs.YtkkommomefmpgaaGreat
open Go.RowKit Go.Maps


end Go.Proofs.YtkkommomefmpgaaGreat

/- Put, over any Raw. -/
namespace Go.Proofs.YtkkommomefmpgaaGreat
open Go.RowKit Go.Maps

theorem spliced_bys {W : World} {g d cap : Nat} {cur : List Value} {l : List UInt8} (hW : W.heap[g]? = some (.cells (splice cur d (l.map bv)).toArray 5 (0, 0))) (hf : d + l.length ≤ cur.length) (h0 : 0 < l.length) : Bys W (.slice (some ⟨g, d, none⟩) l.length cap) l := by
  refine .inr (.inr ⟨g, d, cap, rfl, h0, fun j hj => ?_⟩)
  rw [cell_of_row _ _ _ _ _ _ hW, List.getElem?_toArray, splice_get _ _ _ _ (by simpa using hf), if_neg (by omega), if_pos (by rw [List.length_map]; omega), Nat.add_sub_cancel_left]
  simp [hj, bv]
set_option maxRecDepth 100000 in
set_option maxHeartbeats 4000000 in
theorem rput_any {S : Type} {D : RawD S} {T : TypeId} {v : Value} {fr fw : FuncId} {rok wok : S → Prop} {At : World → (Nat → Prop) → S → Prop} (R : RawM D T v fr fw rok wok At) {w : World} {O : Nat → Prop} {s : S} (bs : List UInt8) (ba : Option Addr) (bc : Nat) (h : At w O s) (hO : ∀ j, O j → j < w.heap.size) (hb : Bys w (.slice ba bs.length bc) bs) (hcap : bs.length ≤ bc) (h2 : bs.length ≤ 1048576) (hap : 0 < bs.length → ∀ k, (Value.slice ba bs.length bc).ownBlock = some k → ¬ O k) (hok : putOk D wok bs (putF bs) s 0 0) :
    Calls Tryz.prog 188 #[.iface T v, .slice ba bs.length bc] w fun e w' => e = .returned (.tuple #[.int .i64 (putV D bs (putF bs) s 0 0).1, .int .i64 (putV D bs (putF bs) s 0 0).2.1]) ∧ RStep At w O (putV D bs (putF bs) s 0 0).2.2 w' := by
  obtain ⟨i0, hi, hz0, hz1, hz2⟩ := info_parts Tryz.infoB
  have hm := R.mwrite
  have hcr := R.cwrite
  have HA := hide h
  have HOk := hide hok
  have HR := hide R
  have HOl := hide hO
  have HBb := hide hb
  have HAp := hide hap
  have hn1 : ¬ (1048576 : Int) < (bs.length : Int) := by omega
  clear h hok R hO hb hap
  obtain ⟨F, hF⟩ : ∃ F, F = putF bs := ⟨_, rfl⟩
  have HF := hide hF
  rw [← hF] at HOk ⊢
  clear hF
  go_enter Tryz.func188, Tryz.ntmps188
  go_wp2_with (at_make; refine wpList_make_full _ rfl _ _ 40 rfl w.heap.size 5 i0 (.int .u8 0) 1 Tryz.underlying40 hi hz0 hz1 _ _ _ _ bs.length rfl rfl rfl rfl (by rw [hz2]; omega) (by unfold maxLen; omega) (Nat.le_refl _) ?_; intro w1 hown1 hgrow1; obtain ⟨cur, hcl, HRw, hB1⟩ := Te_made_row hown1 hgrow1; clear hown1 hgrow1)
  have hs1 : w.heap.size < w1.heap.size := (Array.getElem?_eq_some_iff.1 HRw.out).1
  have HB1 := hide hB1
  have HRw0 : Hid (∃ cur : List Value, w1.heap[w.heap.size]? = some (.cells cur.toArray 5 (0, 0)) ∧ cur.length = bs.length) := hide ⟨cur, HRw.out, hcl⟩
  clear HRw hB1 hcl
  go_loopw [7, 8] (fun tv rv wr => ∃ (k d t : Nat) (s' : S), tv = .int .i64 d ∧ rv = .int .i64 t ∧ d ≤ bs.length ∧ t < 8192 ∧ (bs.length - d) * 8192 + (8192 - t) ≤ k ∧ Hid (∃ O', At wr O' s' ∧ ∀ j, O' j → O j ∨ w1.heap.size ≤ j) ∧ Hid (∃ cur : List Value, wr.heap[w.heap.size]? = some (.cells cur.toArray 5 (0, 0)) ∧ cur.length = bs.length) ∧ Hid (putOk D wok bs k s' d t ∧ putV D bs k s' d t = putV D bs F s 0 0) ∧ Hid (Turned O w wr) ∧ w1.heap.size ≤ wr.heap.size) (fun tv rv _ => (bs.length - (intOf tv).toNat) * 8192 + (8192 - (intOf rv).toNat))
  case atStart => exact ⟨F, 0, 0, s, rfl, rfl, Nat.zero_le _, by omega, by rw [HF.out]; unfold putF; omega, hide ⟨O, HR.out.keep HA.out (fun j _ hj => HB1.out.block j hj) HB1.out.size, fun _ e => .inl e⟩, HRw0, hide ⟨HOk.out, rfl⟩, hide (Turned.of_below HB1.out), Nat.le_refl _⟩
  case round =>
    obtain ⟨k, d, t, s', rfl, rfl, hd, ht, hk, HAt, HRw, HV, HT, hsz⟩ := hrel
    clear HA HOk HRw0
    by_cases hlt : d < bs.length
    case neg =>
      have HE : Hid (putV D bs F s 0 0 = (d, 0, s')) := hide (by rw [← HV.out.2]; exact putV_done D bs k s' d t hlt)
      have hlt' : ¬ (d : Int) < (bs.length : Int) := by omega
      clear HV hlt
      go_wp2_with fail
      go_ret2
      rw [HE.out]
      obtain ⟨O', hA', hO'⟩ := HAt.out
      exact ⟨rfl, O', hA', fun j e => (hO' j e).imp id (fun e => by omega), HT.out⟩
    have hlt' : (d : Int) < (bs.length : Int) := by omega
    have hq0 : (0 : Int) ≤ (d : Int) := by omega
    have hq1 : (d : Int) ≤ (bs.length : Int) := by omega
    have hq2 : (bs.length : Int) ≤ (bc : Int) := by omega
    have hq3 : (d : Int) < (bc : Int) := by omega
    have hq4 : ¬ bc = d := by omega
    have hq5 : ¬ bs.length = d := by omega
    obtain ⟨-, xb, xo, rfl, hxb, -⟩ := bys_block HBb.out (by omega)
    obtain ⟨O', hA', hO'⟩ := HAt.out
    obtain ⟨cur, hcu, hcl⟩ := HRw.out
    have hbd : Bys wr (.slice (some ⟨xb, xo + d, none⟩) (bs.length - d) (bc - d)) (bs.drop d) := by
      have := bys_cut (HBb.out.turned HT.out (fun k hk _ => HAp.out (by omega) k hk)) d (bs.length - d) (bc - d) (by omega)
      rw [List.take_of_length_le (by rw [List.length_drop]; exact Nat.le_refl _)] at this
      exact this
    have hdl : (bs.drop d).length = bs.length - d := List.length_drop
    obtain ⟨w2, hrun, HG2, hgr2⟩ := run_copy wr 3 (some ⟨w.heap.size, d, none⟩) (some ⟨xb, xo + d, none⟩) (bs.length - d) (bs.length - d) (bs.length - d) (bc - d) w.heap.size d cur hcu ((bs.drop d).map bv) (by rw [List.length_map, hdl]; simp) (fun h0 => ⟨rfl, Te_bys_src hbd rfl h0⟩) (by rw [List.length_map, hdl]; omega) (bys_one _)
    rw [List.length_map, hdl] at hrun
    have hbs2 : Bys w2 (.slice (some ⟨w.heap.size, d, none⟩) (bs.drop d).length (bs.length - d)) (bs.drop d) := spliced_bys HG2.out (by rw [hdl]; omega) (by rw [hdl]; omega)
    obtain ⟨j, rfl⟩ : ∃ j, k = j + 1 := ⟨k - 1, by omega⟩
    obtain ⟨m, e, s2, hw⟩ : ∃ m e s2, D.write s' (bs.drop d) = (m, e, s2) := ⟨_, _, _, rfl⟩
    obtain ⟨hV0, hV1, hV3⟩ := putOk_next D wok bs j s' d t hw hlt HV.out.1
    have hgO : ¬ O' w.heap.size := fun e => by
      rcases hO' _ e with e | e
      · have := HOl.out _ e; omega
      · omega
    have HW := hide (HR.out.write (w := w2) (bs.drop d) (some ⟨w.heap.size, d, none⟩) (bs.length - d) (HR.out.keep hA' (fun i hi hl => hgr2.block i hl (fun e => by cases e; exact hgO hi)) hgr2.size) hV0 hbs2 (by rw [hdl]; exact Nat.le_refl _) (by rw [hdl]; omega) (by rw [hdl]; omega) (fun i hi => by
      have : w.heap.size = i := by simpa [Value.ownBlock] using hi
      exact this ▸ hgO))
    rw [hw, hdl] at HW
    simp only at HW
    have hV2 := HV.out.2
    rw [putV_next D bs j s' d t hw, if_pos hlt] at hV2
    have HRw2 : Hid (∃ cur : List Value, w2.heap[w.heap.size]? = some (.cells cur.toArray 5 (0, 0)) ∧ cur.length = bs.length) := hide ⟨_, HG2.out, by rw [length_splice _ _ _ (by rw [List.length_map, hdl]; omega)]; exact hcl⟩
    have HT2 : Hid (Turned O w w2) := hide (HT.out.grown hgr2 (fun k e => .inr (by cases e; exact Nat.le_refl _)))
    have hs2 : w1.heap.size ≤ w2.heap.size := by have := hgr2.size; omega
    have HO' := hide hO'
    have HgO := hide hgO
    have HV1 := hide hV1
    have HV3 := hide hV3
    have hsub : (bs.length : Int) - (d : Int) = ((bs.length - d : Nat) : Int) := by omega
    clear HV hw hV0 hV1 hV3 hbs2 hbd hcu hcl hA' hO' hgO hgr2 HG2 HAt HRw hxb
    have hEE : ∀ x : Nat, ¬ ((8192 : Int) = (x : Int)) → True := fun _ _ => trivial
    clear hEE
    by_cases htry : (e = 22 ∨ e = 23) ∨ (m = 0 ∧ e = 0)
    · rw [if_pos htry] at hV2
      by_cases ht1 : t + 1 = 8192
      · rw [if_pos ht1] at hV2
        have HV2 := hide hV2
        obtain rfl : t = 8191 := by omega
        clear hV2 HV1 HV3 ht1
        by_cases hey : e = 22 ∨ e = 23
        · have HTt := hide hey
          clear htry hey
          go_wp2_with fail
          refine HW.out.mono ?_
          rintro _ w3 ⟨rfl, O3, hA3, hO3, hT3⟩
          have HA3 : Hid (∃ O', At w3 O' s2 ∧ ∀ j, O' j → O j ∨ w1.heap.size ≤ j) := hide ⟨O3, hA3, fun i e => (hO3 i e).elim (fun e => HO'.out i e) (fun e => .inr (by omega))⟩
          have HRw3 : Hid (∃ cur : List Value, w3.heap[w.heap.size]? = some (.cells cur.toArray 5 (0, 0)) ∧ cur.length = bs.length) := hide (by
            obtain ⟨c, hc, hl⟩ := HRw2.out
            exact ⟨c, (hT3.block _ (by omega) HgO.out).trans hc, hl⟩)
          have HT3 : Hid (Turned O w w3) := hide (HT2.out.trans hT3 (fun i hi e => (HO'.out i e).resolve_right (by omega)))
          have hs3 : w1.heap.size ≤ w3.heap.size := by have := hT3.size; omega
          clear hA3 hO3 hT3
          go_wp2_with (first | (go_at_call 216; refine (isTry_yes _ _ HTt.out).mono ?_; rintro _ _ ⟨rfl, rfl⟩) | fail)
          go_ret2
          rw [← HV2.out]
          obtain ⟨O', hA', hO'⟩ := HA3.out
          exact ⟨rfl, O', hA', fun i e => (hO' i e).imp id (fun e => by omega), HT3.out⟩
        · obtain ⟨rfl, rfl⟩ : m = 0 ∧ e = 0 := htry.resolve_left hey
          have HTt := hide hey
          clear htry hey
          go_wp2_with fail
          refine HW.out.mono ?_
          rintro _ w3 ⟨rfl, O3, hA3, hO3, hT3⟩
          have HA3 : Hid (∃ O', At w3 O' s2 ∧ ∀ j, O' j → O j ∨ w1.heap.size ≤ j) := hide ⟨O3, hA3, fun i e => (hO3 i e).elim (fun e => HO'.out i e) (fun e => .inr (by omega))⟩
          have HRw3 : Hid (∃ cur : List Value, w3.heap[w.heap.size]? = some (.cells cur.toArray 5 (0, 0)) ∧ cur.length = bs.length) := hide (by
            obtain ⟨c, hc, hl⟩ := HRw2.out
            exact ⟨c, (hT3.block _ (by omega) HgO.out).trans hc, hl⟩)
          have HT3 : Hid (Turned O w w3) := hide (HT2.out.trans hT3 (fun i hi e => (HO'.out i e).resolve_right (by omega)))
          have hs3 : w1.heap.size ≤ w3.heap.size := by have := hT3.size; omega
          clear hA3 hO3 hT3
          go_wp2_with (first | (go_at_call 216; refine (isTry_no _ _ HTt.out).mono ?_; rintro _ _ ⟨rfl, rfl⟩) | fail)
          go_ret2
          rw [← HV2.out]
          obtain ⟨O', hA', hO'⟩ := HA3.out
          exact ⟨rfl, O', hA', fun i e => (hO' i e).imp id (fun e => by omega), HT3.out⟩
      · rw [if_neg ht1] at hV2
        have HV2 := hide hV2
        have HV4 := hide (HV1.out htry ht1)
        have htt : ¬ (t : Int) + 1 = 8192 := by omega
        have htu : ((t : Int) + 1 == 8192) = false := by simp; omega
        clear hV2 HV1 HV3
        by_cases hey : e = 22 ∨ e = 23
        · have HTt := hide hey
          clear htry hey
          go_wp2_with fail
          refine HW.out.mono ?_
          rintro _ w3 ⟨rfl, O3, hA3, hO3, hT3⟩
          have HA3 : Hid (∃ O', At w3 O' s2 ∧ ∀ j, O' j → O j ∨ w1.heap.size ≤ j) := hide ⟨O3, hA3, fun i e => (hO3 i e).elim (fun e => HO'.out i e) (fun e => .inr (by omega))⟩
          have HRw3 : Hid (∃ cur : List Value, w3.heap[w.heap.size]? = some (.cells cur.toArray 5 (0, 0)) ∧ cur.length = bs.length) := hide (by
            obtain ⟨c, hc, hl⟩ := HRw2.out
            exact ⟨c, (hT3.block _ (by omega) HgO.out).trans hc, hl⟩)
          have HT3 : Hid (Turned O w w3) := hide (HT2.out.trans hT3 (fun i hi e => (HO'.out i e).resolve_right (by omega)))
          have hs3 : w1.heap.size ≤ w3.heap.size := by have := hT3.size; omega
          clear hA3 hO3 hT3
          go_wp2_with (first | (go_at_call 216; refine (isTry_yes _ _ HTt.out).mono ?_; rintro _ _ ⟨rfl, rfl⟩) | fail)
          go_roundw
          case rel => exact ⟨j, d, t + 1, s2, rfl, by go_num, by omega, by omega, by omega, HA3, HRw3, hide ⟨HV4.out, HV2.out⟩, HT3, hs3⟩
          case measure => simp [intOf]; omega
        · obtain ⟨rfl, rfl⟩ : m = 0 ∧ e = 0 := htry.resolve_left hey
          have HTt := hide hey
          clear htry hey
          go_wp2_with fail
          refine HW.out.mono ?_
          rintro _ w3 ⟨rfl, O3, hA3, hO3, hT3⟩
          have HA3 : Hid (∃ O', At w3 O' s2 ∧ ∀ j, O' j → O j ∨ w1.heap.size ≤ j) := hide ⟨O3, hA3, fun i e => (hO3 i e).elim (fun e => HO'.out i e) (fun e => .inr (by omega))⟩
          have HRw3 : Hid (∃ cur : List Value, w3.heap[w.heap.size]? = some (.cells cur.toArray 5 (0, 0)) ∧ cur.length = bs.length) := hide (by
            obtain ⟨c, hc, hl⟩ := HRw2.out
            exact ⟨c, (hT3.block _ (by omega) HgO.out).trans hc, hl⟩)
          have HT3 : Hid (Turned O w w3) := hide (HT2.out.trans hT3 (fun i hi e => (HO'.out i e).resolve_right (by omega)))
          have hs3 : w1.heap.size ≤ w3.heap.size := by have := hT3.size; omega
          clear hA3 hO3 hT3
          go_wp2_with (first | (go_at_call 216; refine (isTry_no _ _ HTt.out).mono ?_; rintro _ _ ⟨rfl, rfl⟩) | fail)
          go_roundw
          case rel => exact ⟨j, d, t + 1, s2, rfl, by go_num, by omega, by omega, by omega, HA3, HRw3, hide ⟨HV4.out, HV2.out⟩, HT3, hs3⟩
          case measure => simp [intOf]; omega
    rw [if_neg htry] at hV2
    have HTt : Hid (¬ (e = 22 ∨ e = 23)) := hide (fun h => htry (.inl h))
    have hme : ¬ (m = 0 ∧ e = 0) := fun h => htry (.inr h)
    clear htry HV1
    by_cases hraw : m < 0 ∨ ((bs.length - d : Nat) : Int) < m
    · rw [if_pos hraw] at hV2
      have HV2 := hide hV2
      clear hV2 HV3 hme
      have hm0 : ¬ m = 0 := by omega
      have hm1 : (m == 0) = false := by simp [hm0]
      have hr2 : m < 0 ∨ (¬ m < 0 ∧ ((bs.length - d : Nat) : Int) < m) := by omega
      clear hraw
      rcases hr2 with hr2 | ⟨hr2, hr3⟩
      all_goals
        go_wp2_with fail
        refine HW.out.mono ?_
        rintro _ w3 ⟨rfl, O3, hA3, hO3, hT3⟩
        have HA3 : Hid (∃ O', At w3 O' s2 ∧ ∀ j, O' j → O j ∨ w1.heap.size ≤ j) := hide ⟨O3, hA3, fun i e => (hO3 i e).elim (fun e => HO'.out i e) (fun e => .inr (by omega))⟩
        have HRw3 : Hid (∃ cur : List Value, w3.heap[w.heap.size]? = some (.cells cur.toArray 5 (0, 0)) ∧ cur.length = bs.length) := hide (by
          obtain ⟨c, hc, hl⟩ := HRw2.out
          exact ⟨c, (hT3.block _ (by omega) HgO.out).trans hc, hl⟩)
        have HT3 : Hid (Turned O w w3) := hide (HT2.out.trans hT3 (fun i hi e => (HO'.out i e).resolve_right (by omega)))
        have hs3 : w1.heap.size ≤ w3.heap.size := by have := hT3.size; omega
        clear hA3 hO3 hT3
        go_wp2_with (first | (go_at_call 216; refine (isTry_no _ _ HTt.out).mono ?_; rintro _ _ ⟨rfl, rfl⟩) | fail)
        go_ret2
        rw [← HV2.out]
        obtain ⟨O', hA', hO'⟩ := HA3.out
        exact ⟨rfl, O', hA', fun i e => (hO' i e).imp id (fun e => by omega), HT3.out⟩
    rw [if_neg hraw] at hV2
    have hr1 : ¬ m < 0 := fun h => hraw (.inl h)
    have hr2 : ¬ ((bs.length - d : Nat) : Int) < m := fun h => hraw (.inr h)
    clear hraw
    by_cases he : e = 0
    · subst he
      rw [if_pos rfl] at hV2
      have hm0 : ¬ m = 0 := fun h => hme ⟨h, rfl⟩
      have hm1 : (m == 0) = false := by simp [hm0]
      have HV2 := hide hV2
      have HV4 := hide (HV3.out rfl (by omega) (by omega))
      obtain ⟨q, rfl⟩ : ∃ q : Nat, m = (q : Int) := ⟨m.toNat, by omega⟩
      rw [Int.toNat_natCast] at HV2 HV4
      have hq6 : q ≤ bs.length - d := by omega
      have hq7 : 1 ≤ q := by omega
      clear hV2 HV3 hme
      go_wp2_with fail
      refine HW.out.mono ?_
      rintro _ w3 ⟨rfl, O3, hA3, hO3, hT3⟩
      have HA3 : Hid (∃ O', At w3 O' s2 ∧ ∀ j, O' j → O j ∨ w1.heap.size ≤ j) := hide ⟨O3, hA3, fun i e => (hO3 i e).elim (fun e => HO'.out i e) (fun e => .inr (by omega))⟩
      have HRw3 : Hid (∃ cur : List Value, w3.heap[w.heap.size]? = some (.cells cur.toArray 5 (0, 0)) ∧ cur.length = bs.length) := hide (by
        obtain ⟨c, hc, hl⟩ := HRw2.out
        exact ⟨c, (hT3.block _ (by omega) HgO.out).trans hc, hl⟩)
      have HT3 : Hid (Turned O w w3) := hide (HT2.out.trans hT3 (fun i hi e => (HO'.out i e).resolve_right (by omega)))
      have hs3 : w1.heap.size ≤ w3.heap.size := by have := hT3.size; omega
      clear hA3 hO3 hT3
      go_wp2_with (first | (go_at_call 216; refine (isTry_no _ _ HTt.out).mono ?_; rintro _ _ ⟨rfl, rfl⟩) | fail)
      go_roundw
      case rel => exact ⟨j, d + q, 0, s2, by go_num, rfl, by omega, by omega, by omega, HA3, HRw3, hide ⟨HV4.out, HV2.out⟩, HT3, hs3⟩
      case measure => simp [intOf]; omega
    · rw [if_neg he] at hV2
      have HV2 := hide hV2
      have he2 : (e != 0) = true := by simp [he]
      have he3 : (e == 0) = false := by simp [he]
      clear hV2 HV3 hme
      by_cases hm0 : m = 0
      all_goals first | (subst hm0; skip) | skip
      all_goals
        first | have hm1 : (m == 0) = false := by simp [hm0] | skip
      all_goals
        go_wp2_with fail
        refine HW.out.mono ?_
        rintro _ w3 ⟨rfl, O3, hA3, hO3, hT3⟩
        have HA3 : Hid (∃ O', At w3 O' s2 ∧ ∀ j, O' j → O j ∨ w1.heap.size ≤ j) := hide ⟨O3, hA3, fun i e => (hO3 i e).elim (fun e => HO'.out i e) (fun e => .inr (by omega))⟩
        have HRw3 : Hid (∃ cur : List Value, w3.heap[w.heap.size]? = some (.cells cur.toArray 5 (0, 0)) ∧ cur.length = bs.length) := hide (by
          obtain ⟨c, hc, hl⟩ := HRw2.out
          exact ⟨c, (hT3.block _ (by omega) HgO.out).trans hc, hl⟩)
        have HT3 : Hid (Turned O w w3) := hide (HT2.out.trans hT3 (fun i hi e => (HO'.out i e).resolve_right (by omega)))
        have hs3 : w1.heap.size ≤ w3.heap.size := by have := hT3.size; omega
        clear hA3 hO3 hT3
        go_wp2_with (first | (go_at_call 216; refine (isTry_no _ _ HTt.out).mono ?_; rintro _ _ ⟨rfl, rfl⟩) | fail)
        go_ret2
        rw [← HV2.out]
        obtain ⟨O', hA', hO'⟩ := HA3.out
        exact ⟨rfl, O', hA', fun i e => (hO' i e).imp id (fun e => by omega), HT3.out⟩
end Go.Proofs.YtkkommomefmpgaaGreat

/- A kernel's handle is a Raw. -/
namespace Go.Proofs.YtkkommomefmpgaaGreat
open Go.RowKit Go.Maps

def kerD (d : Int) : RawD KS where
  read K n := K.read d n
  write K bs := K.write d bs
def kerR (K : KS) : Prop := K.reads < 9223372036854775807
def kerW (K : KS) : Prop := K.writes < 9223372036854775807
set_option maxRecDepth 100000 in
theorem KAt.hread2 {w : World} {O : Nat → Prop} {kb : Nat} {K : KS} (h : KAt w O kb K) (d n : Int) (hd : I64 d) (hr : K.reads < 9223372036854775807) :
    Calls Tryz.prog 330 #[.agg #[.pointer (some ⟨kb, 0, none⟩), .int .i64 d], .int .i64 n] w fun e w' => ∃ v, e = .returned (.tuple #[v, .int .i64 (K.read d n).2.1]) ∧ w'.ownsRow w.heap.size 5 1 v (K.read d n).1.length ((K.read d n).1.map bv) ∧ KAt w' O kb (K.read d n).2.2 ∧ Turned O w w' := by
  have hB := recv_below w (Obj.cells #[.pointer (some ⟨kb, 0, none⟩), .int .i64 d] 294)
  have HR := hide ((h.below hB).read d n hd hr)
  have HB := hide hB
  clear h hB
  go_enter Tryz.func330, Tryz.ntmps330
  go_wp2_with fail
  refine HR.out.mono ?_
  rintro e w1 ⟨v, rfl, h1, h2, h3⟩
  have HK := hide h2
  have HT := hide ((Turned.of_below HB.out).trans h3 (fun _ _ e => e))
  have HO := hide (owns_mono h1 HB.out.size)
  clear h1 h2 h3
  go_wp2
  go_ret2
  exact ⟨v, rfl, HO.out, HK.out, HT.out⟩
theorem ker_rawP (kb : Nat) (d : Int) (hd : I64 d) : RawP (kerD d) 294 (.agg #[.pointer (some ⟨kb, 0, none⟩), .int .i64 d]) 330 332 kerR kerW (fun w O K => KAt w O kb K) where
  mread w := by kernel_rfl
  mwrite w := by kernel_rfl
  cread a w := by kernel_rfl
  cwrite a w := by kernel_rfl
  keep h hk hs := h.keep hk hs
  few n h := Nat.le_trans (read_few h d n) (by decide)
  read n h hr _ _ := (h.hread2 d n hd hr).mono fun _ _ e => view_own e
  write bs a c h hw hb hc _ h2 hap := (h.hwrite d bs a c hd hw hb hc (by omega) (fun _ => hap)).mono fun e w' ⟨h1, h2⟩ => ⟨h1, h2⟩
theorem ker_raw (kb : Nat) (d : Int) (hd : I64 d) : RawM (kerD d) 294 (.agg #[.pointer (some ⟨kb, 0, none⟩), .int .i64 d]) 330 332 kerR kerW (fun w O K => KAt w O kb K) := (ker_rawP kb d hd).gen
structure WrV {S : Type} (D : RawD S) (x : List UInt8) (st : Nat → List Fault → Nat → S) : Prop where
  write : ∀ q L wr, q < x.length → planOk L → ∃ (m : Nat) (E : Int), D.write (st q L wr) (x.drop q) = ((m : Int), E, st (q + m) L.tail (wr + 1)) ∧ q + m ≤ x.length ∧ ((E = 0 ∧ 1 ≤ m) ∨ ((E = 22 ∨ E = 23) ∧ m = 0 ∧ L ≠ []))
set_option maxRecDepth 100000 in
theorem WrV.put {S : Type} {D : RawD S} {x : List UInt8} {st : Nat → List Fault → Nat → S} (h : WrV D x st) {ok : S → Prop} {R : Nat} (hok : ∀ p L r, r < R → ok (st p L r)) : ∀ f q t L wr, q ≤ x.length → (x.length - q) * 8192 + (8192 - t) ≤ f → t + L.length ≤ 4096 → planOk L → wr + L.length + (x.length - q) ≤ R →
    putOk D ok x f (st q L wr) q t ∧ ∃ L' wr', putV D x f (st q L wr) q t = (x.length, 0, st x.length L' wr') ∧ planOk L'
  | 0, q, t, L, wr, hq, hf, ht, hL, hR => by omega
  | f + 1, q, t, L, wr, hq, hf, ht, hL, hR => by
    by_cases hlt : q < x.length
    case neg =>
      obtain rfl : q = x.length := by omega
      exact ⟨fun e => absurd e hlt, L, wr, putV_done D x _ _ _ _ hlt, hL⟩
    obtain ⟨m, E, hw, h3, h4⟩ := h.write q L wr hlt hL
    have hn := putV_next D x f (st q L wr) q t hw
    rw [if_pos hlt] at hn
    have hT : L.tail.length ≤ L.length := by simp
    rcases h4 with ⟨rfl, h4⟩ | ⟨h4, rfl, h5⟩
    · rw [if_neg (by omega), if_neg (by omega), if_pos rfl, Int.toNat_natCast] at hn
      obtain ⟨k1, L', wr', k2, k3⟩ := h.put hok f (q + m) 0 L.tail (wr + 1) h3 (by omega) (by omega) hL.tail (by omega)
      refine ⟨fun _ => ⟨hok _ _ _ (by omega), fun e => ?_, fun _ _ _ => ?_⟩, L', wr', hn.trans k2, k3⟩
      · rw [hw] at e; simp only at e; omega
      · rw [hw, Int.toNat_natCast]; exact k1
    · have hLl : L.tail.length + 1 = L.length := by cases L with
        | nil => exact absurd rfl h5
        | cons f r => simp
      rw [if_pos (.inl h4), if_neg (by omega)] at hn
      obtain ⟨k1, L', wr', k2, k3⟩ := h.put hok f q (t + 1) L.tail (wr + 1) hq (by omega) (by omega) hL.tail (by omega)
      refine ⟨fun _ => ⟨hok _ _ _ (by omega), fun _ _ => ?_, fun e1 e2 _ => ?_⟩, L', wr', hn.trans k2, k3⟩
      · rw [hw]; exact k1
      · rw [hw] at e2; simp only at e2; omega
end Go.Proofs.YtkkommomefmpgaaGreat

/- The reference's Raw over a kernel's description: Of, Read, Write. -/
namespace Go.Proofs.YtkkommomefmpgaaGreat
open Go.RowKit Go.Maps

def rwc (mb : Nat) (d c : Int) : Array Value := #[.int .i64 5, .slice none 0 0, .int .i64 0, .int .i64 0, .slice none 0 0, .slice none 0 0, .pointer (some ⟨mb, 0, none⟩), .int .i64 d, .int .i64 c]
def RwS (g mb : Nat) (d : Int) (W : World) (O : Nat → Prop) (K : KS) : Prop := ∃ P c, W.heap[g]? = some (.cells (rwc mb d c) 188) ∧ RAt W P mb K ∧ (∀ k, P k → O k) ∧ O g ∧ ¬ P g
theorem RwS.keep {g mb : Nat} {d : Int} {W W' : World} {O : Nat → Prop} {K : KS} (h : RwS g mb d W O K) (hk : ∀ j, O j → j < W.heap.size → W'.heap[j]? = W.heap[j]?) (hs : W.heap.size ≤ W'.heap.size) : RwS g mb d W' O K := by
  obtain ⟨P, c, h1, h2, h3, h4, h5⟩ := h
  exact ⟨P, c, (hk g h4 (Array.getElem?_eq_some_iff.1 h1).1).trans h1, h2.keep (fun k e hl => hk k (h3 k e) hl) hs, h3, h4, h5⟩
def RwStep (g mb : Nat) (d : Int) (w : World) (O : Nat → Prop) (K' : KS) (w' : World) : Prop := ∃ O', RwS g mb d w' O' K' ∧ (∀ k, O' k → O k ∨ w.heap.size ≤ k) ∧ Turned O w w'
theorem rw_step {g mb : Nat} {d c : Int} {w wa w' : World} {O P : Nat → Prop} {K' : KS} (h1 : wa.heap[g]? = some (.cells (rwc mb d c) 188)) (hT : Turned (fun k => k = g) w wa) (hS : RKStep wa P mb K' w') (h3 : ∀ k, P k → O k) (h4 : O g) (h5 : ¬ P g) : RwStep g mb d w O K' w' := by
  obtain ⟨P', a1, a2, a3⟩ := hS
  have hg : g < wa.heap.size := (Array.getElem?_eq_some_iff.1 h1).1
  have hz := hT.size
  refine ⟨fun k => O k ∨ w.heap.size ≤ k, ⟨P', c, (a3.block g hg h5).trans h1, a1, fun k e => (a2 k e).imp (h3 k) (fun e => by omega), .inl h4, fun e => ?_⟩, fun _ e => e, (hT.mono (fun k e => by subst e; exact h4)).trans a3 (fun k _ e => h3 k e)⟩
  rcases a2 g e with e | e
  · exact h5 e
  · omega
set_option maxRecDepth 100000 in
set_option maxHeartbeats 2000000 in
theorem of_any (mb : Nat) (d : Int) (w : World) : Calls Tryz.prog 165 #[.pointer (some ⟨mb, 0, none⟩), .int .i64 d] w fun e w' => e = .returned (.pointer (some ⟨w.heap.size, 0, none⟩)) ∧ w'.heap[w.heap.size]? = some (.cells (rwc mb d 0) 188) ∧ Below w.heap.size w w' := by
  go_enter Tryz.func165, Tryz.ntmps165
  go_wp2
  go_ret
  exact ⟨rfl, heap_alloc_new _ _, (Below.refl _ _).alloc (Nat.le_refl _) _⟩
end Go.Proofs.YtkkommomefmpgaaGreat

/- A kernel's description as a Raw of either side: the reference's Seek; PlK, but for Same. -/
namespace Go.Proofs.YtkkommomefmpgaaGreat
open Go.RowKit Go.Maps

set_option maxRecDepth 100000 in
set_option maxHeartbeats 2000000 in
theorem rwseek_any (g mb : Nat) (d off wh : Int) (O : Nat → Prop) (K : KS) (w : World) (h : RwS g mb d w O K) :
    Calls Tryz.prog 88 #[.pointer (some ⟨g, 0, none⟩), .int .i64 off, .int .i64 wh] w fun e w' => e = .returned (.tuple #[.int .i64 (K.seek d off wh).1, .int .i64 (K.seek d off wh).2.1]) ∧ RwStep g mb d w O (K.seek d off wh).2.2 w' := by
  obtain ⟨P, c, h1, h2, h3, h4, h5⟩ := h
  have q0 : w.cell? ⟨g, 0, none⟩ = some (.int .i64 5) := cell_of_row w g 0 _ _ _ h1
  have k6 : w.cell? ⟨g, 6, none⟩ = some (.pointer (some ⟨mb, 0, none⟩)) := cell_of_row w g 6 _ _ _ h1
  have k7 : w.cell? ⟨g, 7, none⟩ = some (.int .i64 d) := cell_of_row w g 7 _ _ _ h1
  have HRw := hide ((h2.below (Below.refl _ _).drew).seek d off wh)
  have HF := hide h1
  have HP := hide (And.intro h3 (And.intro h4 h5))
  clear h1 h2 h3 h4 h5
  generalize hRR : K.seek d off wh = R at *
  obtain ⟨n, e, K'⟩ := R
  simp only at HRw ⊢
  go_enter Tryz.func88, Tryz.ntmps88
  go_wp2_with fail
  go_region_held3 (fun w' => w'.cell? ⟨g, 6, none⟩ = some (.pointer (some ⟨mb, 0, none⟩)) ∧ w'.cell? ⟨g, 7, none⟩ = some (.int .i64 d))
    (first | exact hx7 | exact ⟨k6, k7⟩ | go_keep)
    (first
      | (go_at_call 57; refine HRw.out.mono ?_; rintro e w5 ⟨rfl, hS⟩; have hx7 : w5.cell? ⟨g, 6, none⟩ = some (.pointer (some ⟨mb, 0, none⟩)) ∧ w5.cell? ⟨g, 7, none⟩ = some (.int .i64 d) := ⟨rk_cell hS (drew_cell k6) HP.out.2.2, rk_cell hS (drew_cell k7) HP.out.2.2⟩)
      | fail)
  all_goals go_wp2
  all_goals go_ret2
  all_goals exact ⟨rfl, rw_step (wa := w.drew) HF.out (Turned.of_below (S := fun k => k = g) (Below.refl _ _).drew) hS HP.out.1 HP.out.2.1 HP.out.2.2⟩
end Go.Proofs.YtkkommomefmpgaaGreat

/- Memories: a store as a value and in memory; isMade, read, seek, all of it. -/
namespace Go.Proofs.YtkkommomefmpgaaGreat
open Go.RowKit

structure MS where
  l : List UInt8
  room : Nat
  pl : Nat
def MS.read (S : MS) (n : Int) : List UInt8 × Int × MS :=
  if inR n = true then (piece S.l S.pl n.toNat, 0, ⟨S.l, S.room, S.pl + (piece S.l S.pl n.toNat).length⟩) else ([], 4, S)
def MS.write (S : MS) (x : List UInt8) : Int × Int × MS :=
  if 1048576 < x.length then (0, 5, S) else if x = [] then (0, 0, S) else if S.pl = S.room then (0, 31, S)
  else ((min x.length (S.room - S.pl) : Nat), 0, ⟨lay S.l S.pl (x.take (min x.length (S.room - S.pl))), S.room, S.pl + min x.length (S.room - S.pl)⟩)
def MS.from (S : MS) (wh : Int) : Nat := if wh = 1 then S.pl else if wh = 2 then S.l.length else 0
def MS.seek (S : MS) (off wh : Int) : Int × Int × MS :=
  if wh < 0 ∨ 2 < wh then (0, 1, S)
  else if off < -(S.from wh : Int) ∨ (S.room : Int) - (S.from wh : Int) < off then (0, 4, S)
  else ((S.from wh : Int) + off, 0, ⟨S.l, S.room, ((S.from wh : Int) + off).toNat⟩)

def MemAt (W : World) (O : Nat → Prop) (g : Nat) (S : MS) : Prop :=
  ∃ f b cap, W.cell? ⟨g, 0, none⟩ = some (.pointer (some ⟨f, 0, none⟩)) ∧ W.cell? ⟨g, 1, none⟩ = some (.int .i64 S.room) ∧ W.cell? ⟨g, 2, none⟩ = some (.int .i64 S.pl) ∧ W.frozen? ⟨g, 2, none⟩ = false ∧
    FileAt W f b cap S.l ∧ O g ∧ O f ∧ O b ∧ g ≠ f ∧ g ≠ b ∧ S.l.length ≤ S.room ∧ S.pl ≤ S.room ∧ S.room ≤ 1048576
def MStep (w : World) (O : Nat → Prop) (g : Nat) (S : MS) (w' : World) : Prop := ∃ O', MemAt w' O' g S ∧ (∀ k, O' k → O k ∨ w.heap.size ≤ k) ∧ Turned O w w'
theorem MemAt.keep {W W' : World} {O : Nat → Prop} {g : Nat} {S : MS} (h : MemAt W O g S) (hk : ∀ j, O j → j < W.heap.size → W'.heap[j]? = W.heap[j]?) : MemAt W' O g S := by
  obtain ⟨f, b, cap, h0, h1, h2, h3, h4, og, of, ob, n1, n2, r1, r2, r3⟩ := h
  have kg := hk g og (World.block_lt_of_cell? W _ h0)
  exact ⟨f, b, cap, (World.cell?_of_block (w := W) kg).trans h0, (World.cell?_of_block (w := W) kg).trans h1, (World.cell?_of_block (w := W) kg).trans h2, (World.frozen?_of_block (w := W) kg).trans h3,
    h4.keep (hk f of h4.lt) (hk b ob h4.row.lt), og, of, ob, n1, n2, r1, r2, r3⟩
theorem MemAt.below {W W' : World} {O : Nat → Prop} {g : Nat} {S : MS} (h : MemAt W O g S) (hB : Below W.heap.size W W') : MemAt W' O g S := h.keep fun j _ hl => hB.block j hl
theorem MemAt.ok {W : World} {O : Nat → Prop} {g : Nat} {S : MS} (h : MemAt W O g S) : S.l.length ≤ S.room ∧ S.pl ≤ S.room ∧ S.room ≤ 1048576 := by
  obtain ⟨f, b, cap, h0, h1, h2, h3, h4, og, of, ob, n1, n2, r1, r2, r3⟩ := h
  exact ⟨r1, r2, r3⟩
theorem MemAt.trim {W : World} {O : Nat → Prop} {g : Nat} {S : MS} (h : MemAt W O g S) : MemAt W (fun k => O k ∧ k < W.heap.size) g S := by
  obtain ⟨f, b, cap, h0, h1, h2, h3, h4, og, of, ob, n⟩ := h
  exact ⟨f, b, cap, h0, h1, h2, h3, h4, ⟨og, World.block_lt_of_cell? W _ h0⟩, ⟨of, h4.lt⟩, ⟨ob, h4.row.lt⟩, n⟩
theorem MStep.same {w : World} {O : Nat → Prop} {g : Nat} {S : MS} (h : MemAt w O g S) : MStep w O g S w := ⟨O, h, fun _ e => .inl e, Turned.refl _ _⟩
theorem MStep.below {w w' : World} {O : Nat → Prop} {g : Nat} {S : MS} (h : MemAt w O g S) (hB : Below w.heap.size w w') : MStep w O g S w' := ⟨O, h.below hB, fun _ e => .inl e, Turned.of_below hB⟩

set_option maxHeartbeats 1000000 in
theorem sMade_yes (g f : Nat) (w : World) (h : w.cell? ⟨g, 0, none⟩ = some (.pointer (some ⟨f, 0, none⟩))) :
    Calls Tryz.prog 278 #[.pointer (some ⟨g, 0, none⟩)] w fun e w' => e = .returned (.bool true) ∧ w = w' := by
  go_enter Tryz.func278, Tryz.ntmps278
  go_wp2
  go_ret
  exact ⟨rfl, rfl⟩
set_option maxRecDepth 100000 in
set_option maxHeartbeats 1000000 in
theorem sread_any (O : Nat → Prop) (g : Nat) (S : MS) (n : Int) (w : World) (h : MemAt w O g S) :
    Calls Tryz.prog 279 #[.pointer (some ⟨g, 0, none⟩), .int .i64 n] w fun e w' => ∃ v, e = .returned (.tuple #[v, .int .i64 (S.read n).2.1]) ∧ w'.ownsRow w.heap.size 5 1 v (S.read n).1.length ((S.read n).1.map bv) ∧ MemAt w' O g (S.read n).2.2 ∧ Turned O w w' := by
  obtain ⟨f, b, cap, h0, h1, h2, h3, h4, og, of, ob, n1, n2, r1, r2, r3⟩ := h
  have hp : inR (S.pl : Int) = true := inR_yes (by omega) (by omega)
  have hE : Fi_rdE (S.pl : Int) n = (S.read n).2.1 := by
    unfold Fi_rdE MS.read
    rw [hp, Bool.true_and]
    by_cases hn : inR n = true
    · rw [if_neg (by simp [hn]), if_pos hn]
    · rw [if_pos (by simpa using hn), if_neg hn]
  have hL : rdL S.l (S.pl : Int) n = (S.read n).1 := by
    unfold rdL MS.read
    rw [hp, Bool.true_and]
    by_cases hn : inR n = true
    · rw [if_neg (by simp [hn]), if_pos hn, Int.toNat_natCast]
    · rw [if_pos (by simpa using hn), if_neg hn]
  have hS : (S.read n).2.2 = ⟨S.l, S.room, S.pl + (S.read n).1.length⟩ := by
    unfold MS.read
    by_cases hn : inR n = true
    · rw [if_pos hn]
    · rw [if_neg hn]; rfl
  have hle : S.pl + (S.read n).1.length ≤ S.room := by
    unfold MS.read
    by_cases hn : inR n = true
    · rw [if_pos hn]; show S.pl + (piece S.l S.pl n.toNat).length ≤ S.room; rw [piece_len]; omega
    · rw [if_neg hn]; simpa using r2
  have HR := hide (readAt_any f b cap S.l (S.pl : Int) n w.drew (h4.below (Below.refl _ _).drew) (by omega))
  rw [hE, hL] at HR
  rw [hS]
  generalize (S.read n).1 = Y at *
  generalize (S.read n).2.1 = E at *
  have H4 := hide h4
  have HS := hide (And.intro h0 (And.intro h1 (And.intro h2 h3)))
  clear hE hL hS h4 hp
  go_enter Tryz.func279, Tryz.ntmps279
  go_wp2_with fail
  go_region_held3 (fun w' => w'.cell? ⟨g, 0, none⟩ = some (.pointer (some ⟨f, 0, none⟩)) ∧ w'.cell? ⟨g, 2, none⟩ = some (.int .i64 S.pl))
    (first | exact hx5 | exact ⟨h0, h2⟩ | go_keep)
    (first
      | (go_at_call 282; refine HR.out.mono ?_; rintro e w2 ⟨v, rfl, hown, hB⟩; have hx5 : w2.cell? ⟨g, 0, none⟩ = some (.pointer (some ⟨f, 0, none⟩)) ∧ w2.cell? ⟨g, 2, none⟩ = some (.int .i64 S.pl) := ⟨(hB.cell (p := ⟨g, 0, none⟩) (World.block_lt_of_cell? w _ HS.out.1)).trans HS.out.1, (hB.cell (p := ⟨g, 2, none⟩) (World.block_lt_of_cell? w _ HS.out.2.2.1)).trans HS.out.2.2.1⟩)
      | fail)
  obtain ⟨va, vc, rfl⟩ := owns_slice hown
  obtain ⟨-, k2⟩ := hx5
  have hgl : g < w.heap.size := World.block_lt_of_cell? w _ HS.out.2.2.1
  have kb : w2.heap[g]? = w.heap[g]? := hB.block g hgl
  have k3 : w2.frozen? ⟨g, 2, none⟩ = false := (World.frozen?_of_block (w := w) kb).trans HS.out.2.2.2
  have HO := hide hown
  have hB' : Below w.heap.size w w2 := ((Below.refl _ w).drew).trans hB
  clear hown h0 h1 h2 h3 HR hB
  have hB := hB'
  go_wp2
  go_ret2
  rw [show ((S.pl : Int) + (Y.length : Int)) = ((S.pl + Y.length : Nat) : Int) by omega]
  have hT : Turned O w (w2.setCell ⟨g, 2, none⟩ (.int .i64 ((S.pl + Y.length : Nat) : Int))) := (Turned.of_below (S := O) hB).set (.inl og)
  refine ⟨_, rfl, owns_keep HO.out (fun k hk => Below.heap_setCell _ _ _ _ (fun e => ?_)), ⟨f, b, cap, ?_, ?_, ?_, ?_, ?_, og, of, ob, n1, n2, r1, hle, r3⟩, hT⟩
  · have h1 : w.heap.size ≤ k := (HO.out.lt k hk).1; have e' : k = g := e; omega
  · rw [World.cell?_setCell_other _ _ _ _ (by simp)]; exact (World.cell?_of_block (w := w) kb).trans HS.out.1
  · rw [World.cell?_setCell_other _ _ _ _ (by simp)]; exact (World.cell?_of_block (w := w) kb).trans HS.out.2.1
  · exact World.cell?_setCell_same _ _ _ k2
  · rw [World.frozen?_setCell]; exact k3
  · have := H4.out.below hB
    exact this.keep (Below.heap_setCell _ _ _ _ (fun e => n1 e.symm)) (Below.heap_setCell _ _ _ _ (fun e => n2 e.symm))
end Go.Proofs.YtkkommomefmpgaaGreat

/- Memories: write, seek. -/
namespace Go.Proofs.YtkkommomefmpgaaGreat
open Go.RowKit

theorem MS.write_long {S : MS} {x : List UInt8} (h : 1048576 < x.length) : S.write x = (0, 5, S) := by unfold MS.write; rw [if_pos h]
theorem MS.write_none {S : MS} : S.write [] = (0, 0, S) := by unfold MS.write; rw [if_neg (by decide), if_pos rfl]
theorem MS.write_full {S : MS} {x : List UInt8} (h : x.length ≤ 1048576) (h0 : x ≠ []) (hp : S.pl = S.room) : S.write x = (0, 31, S) := by unfold MS.write; rw [if_neg (by omega), if_neg h0, if_pos hp]
theorem MS.write_some {S : MS} {x : List UInt8} (h : x.length ≤ 1048576) (h0 : x ≠ []) (hp : S.pl ≠ S.room) {m : Nat} (hm : m = min x.length (S.room - S.pl)) : S.write x = ((m : Int), 0, ⟨lay S.l S.pl (x.take m), S.room, S.pl + m⟩) := by
  unfold MS.write; rw [if_neg (by omega), if_neg h0, if_neg hp, hm]

set_option maxRecDepth 100000 in
set_option maxHeartbeats 1000000 in
theorem swrite_long (O : Nat → Prop) (g : Nat) (S : MS) (a : Option Addr) (n c : Nat) (w : World) (h : MemAt w O g S) (hl : 1048576 < n) :
    Calls Tryz.prog 281 #[.pointer (some ⟨g, 0, none⟩), .slice a n c] w fun e w' => e = .returned (.tuple #[.int .i64 0, .int .i64 5]) ∧ w = w' := by
  obtain ⟨f, b, cap, h0, -⟩ := h
  have hd : (1048576 : Int) < (n : Int) := by omega
  go_enter Tryz.func281, Tryz.ntmps281
  go_wp2_with (first | (go_at_call 278; refine (sMade_yes g f _ h0).mono ?_; rintro _ _ ⟨rfl, rfl⟩) | fail)
  go_ret2
  exact ⟨rfl, rfl⟩
set_option maxRecDepth 100000 in
set_option maxHeartbeats 1000000 in
theorem swrite_none (O : Nat → Prop) (g : Nat) (S : MS) (a : Option Addr) (c : Nat) (w : World) (h : MemAt w O g S) :
    Calls Tryz.prog 281 #[.pointer (some ⟨g, 0, none⟩), .slice a 0 c] w fun e w' => e = .returned (.tuple #[.int .i64 0, .int .i64 0]) ∧ w = w' := by
  obtain ⟨f, b, cap, h0, -⟩ := h
  go_enter Tryz.func281, Tryz.ntmps281
  go_wp2_with (first | (go_at_call 278; refine (sMade_yes g f _ h0).mono ?_; rintro _ _ ⟨rfl, rfl⟩) | fail)
  go_ret2
  exact ⟨rfl, rfl⟩
set_option maxRecDepth 100000 in
set_option maxHeartbeats 1000000 in
theorem swrite_full (O : Nat → Prop) (g : Nat) (S : MS) (a : Option Addr) (n c : Nat) (w : World) (h : MemAt w O g S) (hl : n ≤ 1048576) (hn : 0 < n) (hp : S.pl = S.room) :
    Calls Tryz.prog 281 #[.pointer (some ⟨g, 0, none⟩), .slice a n c] w fun e w' => e = .returned (.tuple #[.int .i64 0, .int .i64 31]) ∧ Below w.heap.size w w' := by
  obtain ⟨f, b, cap, h0, h1, h2, -⟩ := h
  rw [hp] at h2
  have hd : ¬ (1048576 : Int) < (n : Int) := by omega
  have hd2 : ((n : Int) == 0) = false := by simp; omega
  generalize S.room = R at *
  generalize S.pl = Q at *
  clear hp
  go_enter Tryz.func281, Tryz.ntmps281
  go_wp2_with (first | (go_at_call 278; refine (sMade_yes g f _ h0).mono ?_; rintro _ _ ⟨rfl, rfl⟩) | fail)
  go_quiet (fail)
  go_wp2
  go_ret2
  exact ⟨rfl, below_drewN (Below.refl _ _) _⟩
set_option maxRecDepth 100000 in
set_option maxHeartbeats 2000000 in
theorem swrite_some (O : Nat → Prop) (g : Nat) (S : MS) (x : List UInt8) (a : Option Addr) (c m : Nat) (w : World) (h : MemAt w O g S) (hx : Bys w (.slice a x.length c) x) (hc : x.length ≤ c) (hap : ∀ k, (Value.slice a x.length c).ownBlock = some k → ¬ O k) (hl : x.length ≤ 1048576) (h0x : 0 < x.length) (hp : S.pl ≠ S.room) (hm : m = min x.length (S.room - S.pl)) :
    Calls Tryz.prog 281 #[.pointer (some ⟨g, 0, none⟩), .slice a x.length c] w fun e w' => e = .returned (.tuple #[.int .i64 m, .int .i64 0]) ∧ MStep w O g ⟨lay S.l S.pl (x.take m), S.room, S.pl + m⟩ w' := by
  obtain ⟨f, b, cap, h0, h1, h2, h3, h4, og, of, ob, n1, n2, r1, r2, r3⟩ := h
  obtain ⟨_, xb, xo, rfl, hxl, hcells⟩ := bys_block hx h0x
  have hm1 : 0 < m := by omega
  have hm2 : m ≤ x.length := by omega
  have hm3 : S.pl + m ≤ S.room := by omega
  have hmi : min (x.length : Int) ((S.room : Int) - (S.pl : Int)) = (m : Int) := by omega
  have htl : (x.take m).length = m := by rw [List.length_take]; omega
  have hcut : Bys w (.slice (some ⟨xb, xo, none⟩) m c) (x.take m) := by have := bys_cut hx 0 m c (by omega); simpa using this
  have HW := hide fun (W : World) (hB : Below w.heap.size w W) => writeAt_some f b cap S.l S.pl (.slice (some ⟨xb, xo, none⟩) m c) (x.take m) W (h4.below hB) (hcut.below hB) (fun k hk => by
    obtain rfl : xb = k := by simpa [Value.ownBlock] using hk
    have hn := hap xb rfl
    exact ⟨fun e => hn (e ▸ of), fun e => hn (e ▸ ob)⟩) (by rw [htl]; omega) (by rw [htl]; omega)
  have HS := hide (And.intro h0 (And.intro h1 (And.intro h2 h3)))
  have HF := hide (And.intro of (And.intro ob og))
  have hgl : g < w.heap.size := World.block_lt_of_cell? w _ h0
  have hd : ¬ (1048576 : Int) < (x.length : Int) := by omega
  have hd2 : ((x.length : Int) == 0) = false := by simp; intro e; rw [e] at h0x; simp at h0x
  have hd3 : ((S.pl : Int) == (S.room : Int)) = false := by simp; omega
  have hd3' : ¬ (S.pl : Int) = (S.room : Int) := by omega
  have hmc : m ≤ c := by omega
  have HH := hide (And.intro hm htl)
  clear hm hx hcells hcut hap h4 h3 of ob htl
  go_enter Tryz.func281, Tryz.ntmps281
  go_wp2_with (first | (go_at_call 278; refine (sMade_yes g f _ h0).mono ?_; rintro _ _ ⟨rfl, rfl⟩) | fail)
  go_quiet (fail)
  go_wp2_with fail
  go_quiet (fail)
  go_wp2_with fail
  go_region_held3 (fun w' => w'.cell? ⟨g, 0, none⟩ = some (.pointer (some ⟨f, 0, none⟩)) ∧ w'.cell? ⟨g, 2, none⟩ = some (.int .i64 S.pl))
    (first | exact hx5 | exact ⟨h0, h2⟩ | go_keep)
    (first
      | (go_at_call 283; refine (HW.out _ (below_drewN (Below.refl _ _) _)).mono ?_; rintro e w2 ⟨rfl, b', cap', hF2, hb2, hT2⟩; have hx5 : w2.cell? ⟨g, 0, none⟩ = some (.pointer (some ⟨f, 0, none⟩)) ∧ w2.cell? ⟨g, 2, none⟩ = some (.int .i64 S.pl) := ⟨hT2.cell HS.out.1 (fun e => by rcases e with e | e; exact n1 e; exact n2 e), hT2.cell HS.out.2.2.1 (fun e => by rcases e with e | e; exact n1 e; exact n2 e)⟩)
      | fail)
  obtain ⟨k0, k2⟩ := hx5
  have hgb : w2.heap[g]? = w.heap[g]? := hT2.block g hgl (fun e => by rcases e with e | e; exact n1 e; exact n2 e)
  have k1 : w2.cell? ⟨g, 1, none⟩ = some (.int .i64 S.room) := (World.cell?_of_block (w := w) hgb).trans HS.out.2.1
  have k3 : w2.frozen? ⟨g, 2, none⟩ = false := (World.frozen?_of_block (w := w) hgb).trans HS.out.2.2.2
  have hz : w.heap.size ≤ w2.heap.size := hT2.size
  have hb2' : b' = b ∨ w.heap.size ≤ b' := hb2
  have HT2 : Hid (Turned (fun k => k = f ∨ k = b) w w2) := hide ⟨hT2.os, hT2.tape, hT2.output, hT2.size, hT2.block⟩
  have HF2 := hide hF2
  clear hF2 hT2 h0 h1 h2 HW hb2
  go_wp2
  go_ret2
  rw [show ((S.pl : Int) + (m : Int)) = ((S.pl + m : Nat) : Int) by omega]
  have hll : (lay S.l S.pl (x.take m)).length ≤ S.room := by rw [lay_len, HH.out.2]; split <;> omega
  have hff := HF2.out.lt
  have hbn : b' ≠ g := by rcases hb2' with e | e <;> omega
  have hbf : f ≠ g := fun e => n1 e.symm
  refine ⟨rfl, fun k => k = g ∨ k = f ∨ k = b', ⟨f, b', cap', ?_, ?_, ?_, ?_, ?_, .inl rfl, .inr (.inl rfl), .inr (.inr rfl), n1, fun e => hbn e.symm, hll, hm3, r3⟩, fun k e => ?_, ?_⟩
  · rw [World.cell?_setCell_other _ _ _ _ (by simp)]; exact k0
  · rw [World.cell?_setCell_other _ _ _ _ (by simp)]; exact k1
  · exact World.cell?_setCell_same _ _ _ k2
  · rw [World.frozen?_setCell]; exact k3
  · exact HF2.out.keep (Below.heap_setCell _ _ _ _ hbf) (Below.heap_setCell _ _ _ _ hbn)
  · rcases e with rfl | rfl | rfl
    · exact .inl HF.out.2.2
    · exact .inl HF.out.1
    · rcases hb2' with rfl | e
      · exact .inl HF.out.2.1
      · exact .inr e
  · exact (HT2.out.mono (S' := O) (fun k e => by rcases e with rfl | rfl; exact HF.out.1; exact HF.out.2.1)).set (.inl HF.out.2.2)
theorem swrite_any (O : Nat → Prop) (g : Nat) (S : MS) (x : List UInt8) (a : Option Addr) (c : Nat) (w : World) (h : MemAt w O g S) (hx : Bys w (.slice a x.length c) x) (hc : x.length ≤ c) (hap : 0 < x.length → ∀ k, (Value.slice a x.length c).ownBlock = some k → ¬ O k) :
    Calls Tryz.prog 281 #[.pointer (some ⟨g, 0, none⟩), .slice a x.length c] w fun e w' => e = .returned (.tuple #[.int .i64 (S.write x).1, .int .i64 (S.write x).2.1]) ∧ MStep w O g (S.write x).2.2 w' := by
  by_cases hl : 1048576 < x.length
  · rw [MS.write_long hl]
    refine (swrite_long O g S a x.length c w h hl).mono ?_
    rintro e w' ⟨rfl, rfl⟩
    exact ⟨rfl, MStep.same h⟩
  by_cases h0 : x = []
  · subst h0
    rw [MS.write_none]
    refine (swrite_none O g S a c w h).mono ?_
    rintro e w' ⟨rfl, rfl⟩
    exact ⟨rfl, MStep.same h⟩
  have h0x := List.length_pos_iff.2 h0
  by_cases hp : S.pl = S.room
  · rw [MS.write_full (by omega) h0 hp]
    refine (swrite_full O g S a x.length c w h (by omega) h0x hp).mono ?_
    rintro e w' ⟨rfl, hB⟩
    exact ⟨rfl, MStep.below h hB⟩
  · rw [MS.write_some (by omega) h0 hp rfl]
    exact swrite_some O g S x a c _ w h hx hc (hap h0x) (by omega) h0x hp rfl
end Go.Proofs.YtkkommomefmpgaaGreat
