/- Raws, as values and in memory; retry's small functions. -/
import Derived.Test.YtbffnamdpmjfnaaReSmall
namespace Go.Proofs.Ytbffnamdpmjfnaa
open Go.RowKit Go.Maps

/-- A Raw as a value: what its calls answer, and its state behind them. -/
structure RawD (S : Type) where
  read : S → Nat → List UInt8 × Int × S
  write : S → List UInt8 → Int × Int × S
/-- A Raw in memory: what lies behind the interface, the functions that its calls go to, and where its state is. -/
structure RawM {S : Type} (D : RawD S) (T : TypeId) (v : Value) (fr fw : FuncId) (rok wok : S → Prop) (At : World → (Nat → Prop) → S → Prop) : Prop where
  mread : ∀ w, (method 221 T v "Read").run Try.prog w = .ok (fr, v) w
  mwrite : ∀ w, (method 221 T v "Write").run Try.prog w = .ok (fw, v) w
  cread : ∀ a w, (callFunc fr a).run Try.prog w = .ok (.enter fr a) w
  cwrite : ∀ a w, (callFunc fw a).run Try.prog w = .ok (.enter fw a) w
  keep : ∀ {w w' : World} {O : Nat → Prop} {s : S}, At w O s → (∀ j, O j → j < w.heap.size → w'.heap[j]? = w.heap[j]?) → w.heap.size ≤ w'.heap.size → At w' O s
  few : ∀ {w : World} {O : Nat → Prop} {s : S} (n : Nat), At w O s → (D.read s n).1.length ≤ 1073741824
  read : ∀ {w : World} {O : Nat → Prop} {s : S} (n : Nat), At w O s → rok s → 1 ≤ n → n ≤ 1048576 → Calls Try.prog fr #[v, .int .i64 n] w fun e w' => ∃ ua uc, e = .returned (.tuple #[.slice ua (D.read s n).1.length uc, .int .i64 (D.read s n).2.1]) ∧ Bys w' (.slice ua (D.read s n).1.length uc) (D.read s n).1 ∧ At w' O (D.read s n).2.2 ∧ Turned O w w'
  write : ∀ {w : World} {O : Nat → Prop} {s : S} (bs : List UInt8) (a : Option Addr) (c : Nat), At w O s → wok s → Bys w (.slice a bs.length c) bs → bs.length ≤ c → 1 ≤ bs.length → bs.length ≤ 1048576 → (∀ k, (Value.slice a bs.length c).ownBlock = some k → ¬ O k) →
    Calls Try.prog fw #[v, .slice a bs.length c] w fun e w' => e = .returned (.tuple #[.int .i64 (D.write s bs).1, .int .i64 (D.write s bs).2.1]) ∧ ∃ O', At w' O' (D.write s bs).2.2 ∧ (∀ k, O' k → O k ∨ w.heap.size ≤ k) ∧ Turned O w w'
/-- A row that is its holder's is one that is read. -/
theorem view_own {P : Prop} {w : World} {E : Int} {l : List UInt8} {e : Ending} {w' : World} (h : ∃ u, e = .returned (.tuple #[u, .int .i64 E]) ∧ w'.ownsRow w.heap.size 5 1 u l.length (l.map bv) ∧ P) : ∃ ua uc, e = .returned (.tuple #[.slice ua l.length uc, .int .i64 E]) ∧ Bys w' (.slice ua l.length uc) l ∧ P := by
  obtain ⟨u, rfl, ho, hp⟩ := h
  obtain ⟨ua, uc, rfl⟩ := owns_slice ho
  exact ⟨ua, uc, rfl, Bys.of_owns ho, hp⟩
/-- What a call leaves of a Raw. -/
def RStep {S : Type} (At : World → (Nat → Prop) → S → Prop) (w : World) (O : Nat → Prop) (s : S) (w' : World) : Prop := ∃ O', At w' O' s ∧ (∀ k, O' k → O k ∨ w.heap.size ≤ k) ∧ Turned O w w'
/-- Some, as a value: so many tries are left. -/
def someV {S : Type} (D : RawD S) (n : Nat) : Nat → S → List UInt8 × Int × S
  | 0, s => ([], 81, s)
  | k + 1, s => if (D.read s n).2.1 = 22 ∨ (D.read s n).2.1 = 23 then someV D n k (D.read s n).2.2
      else if n < (D.read s n).1.length then ([], 82, (D.read s n).2.2)
      else if (D.read s n).2.1 = 0 then ((D.read s n).1, 0, (D.read s n).2.2)
      else ([], (D.read s n).2.1, (D.read s n).2.2)
theorem someV_next {S : Type} (D : RawD S) (n k : Nat) (s : S) {b : List UInt8} {e : Int} {s2 : S} (h : D.read s n = (b, e, s2)) : someV D n (k + 1) s = if e = 22 ∨ e = 23 then someV D n k s2 else if n < b.length then ([], 82, s2) else if e = 0 then (b, 0, s2) else ([], e, s2) := by
  show (if (D.read s n).2.1 = 22 ∨ (D.read s n).2.1 = 23 then someV D n k (D.read s n).2.2 else if n < (D.read s n).1.length then ([], 82, (D.read s n).2.2) else if (D.read s n).2.1 = 0 then ((D.read s n).1, 0, (D.read s n).2.2) else ([], (D.read s n).2.1, (D.read s n).2.2)) = _
  rw [h]
def someOk {S : Type} (D : RawD S) (ok : S → Prop) (n : Nat) : Nat → S → Prop
  | 0, _ => True
  | k + 1, s => ok s ∧ ((D.read s n).2.1 = 22 ∨ (D.read s n).2.1 = 23 → someOk D ok n k (D.read s n).2.2)
/-- All, as a value. -/
def allV {S : Type} (D : RawD S) (n : Nat) : Nat → S → List UInt8 → List UInt8 × Int × S
  | 0, s, l => (l, 0, s)
  | k + 1, s, l => if l.length < n then
      (if (someV D (n - l.length) 8192 s).2.1 = 0 ∧ (someV D (n - l.length) 8192 s).1 ≠ [] then allV D n k (someV D (n - l.length) 8192 s).2.2 (l ++ (someV D (n - l.length) 8192 s).1)
       else (l, (someV D (n - l.length) 8192 s).2.1, (someV D (n - l.length) 8192 s).2.2))
      else (l, 0, s)
def allOk {S : Type} (D : RawD S) (ok : S → Prop) (n : Nat) : Nat → S → List UInt8 → Prop
  | 0, _, _ => True
  | k + 1, s, l => l.length < n → someOk D ok (n - l.length) 8192 s ∧
      ((someV D (n - l.length) 8192 s).2.1 = 0 ∧ (someV D (n - l.length) 8192 s).1 ≠ [] → allOk D ok n k (someV D (n - l.length) 8192 s).2.2 (l ++ (someV D (n - l.length) 8192 s).1))
/-- Put, as a value: so many bytes are taken, so many tries were made. -/
def putV {S : Type} (D : RawD S) (bs : List UInt8) : Nat → S → Nat → Nat → Nat × Int × S
  | 0, s, d, _ => (d, 0, s)
  | k + 1, s, d, t => if d < bs.length then
      (if ((D.write s (bs.drop d)).2.1 = 22 ∨ (D.write s (bs.drop d)).2.1 = 23) ∨ ((D.write s (bs.drop d)).1 = 0 ∧ (D.write s (bs.drop d)).2.1 = 0) then
        (if t + 1 = 8192 then (d, 81, (D.write s (bs.drop d)).2.2) else putV D bs k (D.write s (bs.drop d)).2.2 d (t + 1))
       else if (D.write s (bs.drop d)).1 < 0 ∨ ((bs.length - d : Nat) : Int) < (D.write s (bs.drop d)).1 then (d, 82, (D.write s (bs.drop d)).2.2)
       else if (D.write s (bs.drop d)).2.1 = 0 then putV D bs k (D.write s (bs.drop d)).2.2 (d + (D.write s (bs.drop d)).1.toNat) 0
       else (d, (D.write s (bs.drop d)).2.1, (D.write s (bs.drop d)).2.2))
      else (d, 0, s)
def putOk {S : Type} (D : RawD S) (ok : S → Prop) (bs : List UInt8) : Nat → S → Nat → Nat → Prop
  | 0, _, _, _ => True
  | k + 1, s, d, t => d < bs.length → ok s ∧
      (((D.write s (bs.drop d)).2.1 = 22 ∨ (D.write s (bs.drop d)).2.1 = 23) ∨ ((D.write s (bs.drop d)).1 = 0 ∧ (D.write s (bs.drop d)).2.1 = 0) → t + 1 ≠ 8192 → putOk D ok bs k (D.write s (bs.drop d)).2.2 d (t + 1)) ∧
      ((D.write s (bs.drop d)).2.1 = 0 → 1 ≤ (D.write s (bs.drop d)).1 → (D.write s (bs.drop d)).1 ≤ ((bs.length - d : Nat) : Int) → putOk D ok bs k (D.write s (bs.drop d)).2.2 (d + (D.write s (bs.drop d)).1.toNat) 0)
theorem allV_next {S : Type} (D : RawD S) (n k : Nat) (s : S) (l : List UInt8) {b : List UInt8} {e : Int} {s2 : S} (h : someV D (n - l.length) 8192 s = (b, e, s2)) : allV D n (k + 1) s l = if l.length < n then (if e = 0 ∧ b ≠ [] then allV D n k s2 (l ++ b) else (l, e, s2)) else (l, 0, s) := by
  show (if l.length < n then (if (someV D (n - l.length) 8192 s).2.1 = 0 ∧ (someV D (n - l.length) 8192 s).1 ≠ [] then allV D n k (someV D (n - l.length) 8192 s).2.2 (l ++ (someV D (n - l.length) 8192 s).1) else (l, (someV D (n - l.length) 8192 s).2.1, (someV D (n - l.length) 8192 s).2.2)) else (l, 0, s)) = _
  rw [h]
theorem allV_done {S : Type} (D : RawD S) (n k : Nat) (s : S) (l : List UInt8) (h : ¬ l.length < n) : allV D n k s l = (l, 0, s) := by
  cases k with
  | zero => rfl
  | succ k => unfold allV; rw [if_neg h]
theorem someV_len {S : Type} (D : RawD S) (n : Nat) : ∀ k s, (someV D n k s).1.length ≤ n
  | 0, _ => Nat.zero_le _
  | k + 1, s => by
    rw [someV_next D n k s (b := (D.read s n).1) (e := (D.read s n).2.1) (s2 := (D.read s n).2.2) rfl]
    split
    · exact someV_len D n k _
    · split
      · exact Nat.zero_le _
      · split
        · show (D.read s n).1.length ≤ n; omega
        · exact Nat.zero_le _
theorem putV_next {S : Type} (D : RawD S) (bs : List UInt8) (k : Nat) (s : S) (d t : Nat) {m e : Int} {s2 : S} (h : D.write s (bs.drop d) = (m, e, s2)) : putV D bs (k + 1) s d t = if d < bs.length then
      (if (e = 22 ∨ e = 23) ∨ (m = 0 ∧ e = 0) then (if t + 1 = 8192 then (d, 81, s2) else putV D bs k s2 d (t + 1))
       else if m < 0 ∨ ((bs.length - d : Nat) : Int) < m then (d, 82, s2)
       else if e = 0 then putV D bs k s2 (d + m.toNat) 0
       else (d, e, s2))
      else (d, 0, s) := by
  show (if d < bs.length then
      (if ((D.write s (bs.drop d)).2.1 = 22 ∨ (D.write s (bs.drop d)).2.1 = 23) ∨ ((D.write s (bs.drop d)).1 = 0 ∧ (D.write s (bs.drop d)).2.1 = 0) then
        (if t + 1 = 8192 then (d, 81, (D.write s (bs.drop d)).2.2) else putV D bs k (D.write s (bs.drop d)).2.2 d (t + 1))
       else if (D.write s (bs.drop d)).1 < 0 ∨ ((bs.length - d : Nat) : Int) < (D.write s (bs.drop d)).1 then (d, 82, (D.write s (bs.drop d)).2.2)
       else if (D.write s (bs.drop d)).2.1 = 0 then putV D bs k (D.write s (bs.drop d)).2.2 (d + (D.write s (bs.drop d)).1.toNat) 0
       else (d, (D.write s (bs.drop d)).2.1, (D.write s (bs.drop d)).2.2))
      else (d, 0, s)) = _
  rw [h]
theorem putV_done {S : Type} (D : RawD S) (bs : List UInt8) (k : Nat) (s : S) (d t : Nat) (h : ¬ d < bs.length) : putV D bs k s d t = (d, 0, s) := by
  cases k with
  | zero => rfl
  | succ k => unfold putV; rw [if_neg h]
theorem putOk_next {S : Type} (D : RawD S) (ok : S → Prop) (bs : List UInt8) (k : Nat) (s : S) (d t : Nat) {m e : Int} {s2 : S} (h : D.write s (bs.drop d) = (m, e, s2)) (hd : d < bs.length) (hp : putOk D ok bs (k + 1) s d t) : ok s ∧ ((e = 22 ∨ e = 23) ∨ (m = 0 ∧ e = 0) → t + 1 ≠ 8192 → putOk D ok bs k s2 d (t + 1)) ∧ (e = 0 → 1 ≤ m → m ≤ ((bs.length - d : Nat) : Int) → putOk D ok bs k s2 (d + m.toNat) 0) := by
  have h2 := hp hd
  rw [h] at h2
  exact h2
/-- How many rounds a Put may take. -/
def putF (bs : List UInt8) : Nat := bs.length * 8192 + 8192
theorem RStep.refl {S : Type} {At : World → (Nat → Prop) → S → Prop} {w : World} {O : Nat → Prop} {s : S} (h : At w O s) : RStep At w O s w := ⟨O, h, fun _ e => .inl e, Turned.of_below (Below.refl _ _)⟩
theorem isTry_yes (e : Int) (w : World) (h : e = 22 ∨ e = 23) : Calls Try.prog 46 #[.int .i64 e] w fun r w' => r = .returned (.bool true) ∧ w = w' := by
  rcases h with rfl | rfl
  all_goals
    go_enter Try.func46, Try.ntmps46
    go_wp2
    go_ret
    exact ⟨rfl, rfl⟩
theorem isTry_no (e : Int) (w : World) (h : ¬ (e = 22 ∨ e = 23)) : Calls Try.prog 46 #[.int .i64 e] w fun r w' => r = .returned (.bool false) ∧ w = w' := by
  have h1 : ¬ e = 22 := fun x => h (.inl x)
  have h2 : ¬ e = 23 := fun x => h (.inr x)
  have h3 : (e == 22) = false := by simp [h1]
  have h4 : (e == 23) = false := by simp [h2]
  go_enter Try.func46, Try.ntmps46
  go_wp2
  go_ret
  exact ⟨rfl, rfl⟩
theorem readable_nil (n : Int) (w : World) : Calls Try.prog 68 #[.nilIface, .int .i64 n] w fun r w' => r = .returned (.int .i64 2) ∧ w = w' := by
  go_enter Try.func68, Try.ntmps68
  go_wp2
  go_ret
  exact ⟨rfl, rfl⟩
theorem readable_yes (T : TypeId) (v : Value) (n : Int) (w : World) (h1 : 1 ≤ n) (h2 : n ≤ 1048576) : Calls Try.prog 68 #[.iface T v, .int .i64 n] w fun r w' => r = .returned (.int .i64 0) ∧ w = w' := by
  have h3 : ¬ n < 1 := by omega
  have h4 : ¬ 1048576 < n := by omega
  go_enter Try.func68, Try.ntmps68
  go_wp2
  go_ret
  exact ⟨rfl, rfl⟩
theorem readable_no (T : TypeId) (v : Value) (n : Int) (w : World) (h : n < 1 ∨ 1048576 < n) : Calls Try.prog 68 #[.iface T v, .int .i64 n] w fun r w' => r = .returned (.int .i64 4) ∧ w = w' := by
  by_cases h3 : n < 1
  all_goals
    have h4 : n < 1 ∨ (¬ n < 1 ∧ 1048576 < n) := by omega
    rcases h4 with h4 | ⟨h4, h5⟩
    all_goals first | (exfalso; omega) | skip
    all_goals
      clear h
      go_enter Try.func68, Try.ntmps68
      go_wp2
      go_ret
      exact ⟨rfl, rfl⟩
set_option maxRecDepth 100000 in
set_option maxHeartbeats 1000000 in
theorem bclone_any (v : Value) (l : List UInt8) (w : World) (h : Bys w v l) (hs : l.length ≤ 140737488351232) :
    Calls Try.prog 45 #[v] w fun e w' => ∃ u, e = .returned u ∧ w'.ownsRow w.heap.size 5 1 u l.length (l.map bv) ∧ Below w.heap.size w w' := by
  have hmade : (w.alloc (Obj.cells #[] 5)).ownsRow w.heap.size 5 1 (.slice (some ⟨w.heap.size, 0, none⟩) 0 0) ([] : List UInt8).length (([] : List UInt8).map bv) := World.ownsRow_made _ _ _ (Nat.le_refl _) (by decide) rfl
  have hB := recv_below w (Obj.cells #[] 5)
  obtain ⟨s', w1, hrun, HO, hg, hb⟩ := run_append_bytes (w.alloc (Obj.cells #[] 5)) 28 w.heap.size _ v [] l hmade (h.below hB) (by simpa using hs) hB.size
  have HR := hide hrun
  have HB : Hid (Below w.heap.size w w1) := hide (hB.grown hg hB.size (fun j e => by
    have : w.heap.size = j := by simpa [Value.ownBlock] using e
    omega))
  rcases h with ⟨rfl, rfl⟩ | ⟨a, cap, rfl, rfl⟩ | ⟨b, off, cap, rfl, h0, -⟩
  · have hnil : ∀ W, (binOp .eql 28 (.slice none 0 0) (.slice none 0 0)).run Try.prog W = .ok (.bool true) W := fun W => Lib.run_eql_slice_nil_nil W _ _ Try.underlying28
    go_enter Try.func45, Try.ntmps45
    go_wp2
    go_ret
    exact ⟨_, rfl, World.ownsRow_nil _ _ _ _, Below.refl _ _⟩
  · have hnil : ∀ W, (binOp .eql 28 (.slice (some a) 0 cap) (.slice none 0 0)).run Try.prog W = .ok (.bool false) W := fun W => Lib.run_eql_slice_some_nil W _ _ _ Try.underlying28
    clear hrun hg hb hmade hB
    go_enter Try.func45, Try.ntmps45
    go_wp2_with (at_builtin; refine Lib.wpList_append_run _ rfl _ _ _ _ rfl _ _ rfl rfl _ _ HR.out ?_)
    go_ret
    exact ⟨_, rfl, HO.out, HB.out⟩
  · have hnil : ∀ W, (binOp .eql 28 (.slice (some ⟨b, off, none⟩) l.length cap) (.slice none 0 0)).run Try.prog W = .ok (.bool false) W := fun W => Lib.run_eql_slice_some_nil W _ _ _ Try.underlying28
    clear hrun hg hb hmade hB
    go_enter Try.func45, Try.ntmps45
    go_wp2_with (at_builtin; refine Lib.wpList_append_run _ rfl _ _ _ _ rfl _ _ rfl rfl _ _ HR.out ?_)
    go_ret
    exact ⟨_, rfl, HO.out, HB.out⟩
end Go.Proofs.Ytbffnamdpmjfnaa
