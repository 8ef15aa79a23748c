/- What the proof stands on, part 10: the contracts of the program's calls that it reaches. -/
import Derived.Test.YtkkommomefmpgaaGreatKQ9
/- Raws, as values and in memory; retry's small functions. -/
namespace Go.Proofs.YtkkommomefmpgaaGreat
open Go.RowKit Go.Maps

structure RawD (S : Type) where
  read : S → Nat → List UInt8 × Int × S
  write : S → List UInt8 → Int × Int × S
structure RawP {S : Type} (D : RawD S) (T : TypeId) (v : Value) (fr fw : FuncId) (rok wok : S → Prop) (At : World → (Nat → Prop) → S → Prop) : Prop where
  mread : ∀ w, (method 485 T v "Read").run Tryz.prog w = .ok (fr, v) w
  mwrite : ∀ w, (method 485 T v "Write").run Tryz.prog w = .ok (fw, v) w
  cread : ∀ a w, (callFunc fr a).run Tryz.prog w = .ok (.enter fr a) w
  cwrite : ∀ a w, (callFunc fw a).run Tryz.prog w = .ok (.enter fw a) w
  keep : ∀ {w w' : World} {O : Nat → Prop} {s : S}, At w O s → (∀ j, O j → j < w.heap.size → w'.heap[j]? = w.heap[j]?) → w.heap.size ≤ w'.heap.size → At w' O s
  few : ∀ {w : World} {O : Nat → Prop} {s : S} (n : Nat), At w O s → (D.read s n).1.length ≤ 1073741824
  read : ∀ {w : World} {O : Nat → Prop} {s : S} (n : Nat), At w O s → rok s → 1 ≤ n → n ≤ 1048576 → Calls Tryz.prog fr #[v, .int .i64 n] w fun e w' => ∃ ua uc, e = .returned (.tuple #[.slice ua (D.read s n).1.length uc, .int .i64 (D.read s n).2.1]) ∧ Bys w' (.slice ua (D.read s n).1.length uc) (D.read s n).1 ∧ At w' O (D.read s n).2.2 ∧ Turned O w w'
  write : ∀ {w : World} {O : Nat → Prop} {s : S} (bs : List UInt8) (a : Option Addr) (c : Nat), At w O s → wok s → Bys w (.slice a bs.length c) bs → bs.length ≤ c → 1 ≤ bs.length → bs.length ≤ 1048576 → (∀ k, (Value.slice a bs.length c).ownBlock = some k → ¬ O k) →
    Calls Tryz.prog fw #[v, .slice a bs.length c] w fun e w' => e = .returned (.tuple #[.int .i64 (D.write s bs).1, .int .i64 (D.write s bs).2.1]) ∧ ∃ O', At w' O' (D.write s bs).2.2 ∧ (∀ k, O' k → O k ∨ w.heap.size ≤ k) ∧ Turned O w w'
structure RawM {S : Type} (D : RawD S) (T : TypeId) (v : Value) (fr fw : FuncId) (rok wok : S → Prop) (At : World → (Nat → Prop) → S → Prop) : Prop where
  rd : (∃ s, rok s) → ∃ vr : Value, (∀ w, (method 485 T v "Read").run Tryz.prog w = .ok (fr, vr) w) ∧ ∀ {w : World} {O : Nat → Prop} {s : S} (n : Nat), At w O s → rok s → 1 ≤ n → n ≤ 1048576 → Calls Tryz.prog fr #[vr, .int .i64 n] w fun e w' => ∃ ua uc, e = .returned (.tuple #[.slice ua (D.read s n).1.length uc, .int .i64 (D.read s n).2.1]) ∧ Bys w' (.slice ua (D.read s n).1.length uc) (D.read s n).1 ∧ At w' O (D.read s n).2.2 ∧ Turned O w w'
  mwrite : ∀ w, (method 485 T v "Write").run Tryz.prog w = .ok (fw, v) w
  cread : ∀ a w, (callFunc fr a).run Tryz.prog w = .ok (.enter fr a) w
  cwrite : ∀ a w, (callFunc fw a).run Tryz.prog w = .ok (.enter fw a) w
  keep : ∀ {w w' : World} {O : Nat → Prop} {s : S}, At w O s → (∀ j, O j → j < w.heap.size → w'.heap[j]? = w.heap[j]?) → w.heap.size ≤ w'.heap.size → At w' O s
  few : ∀ {w : World} {O : Nat → Prop} {s : S} (n : Nat), At w O s → (D.read s n).1.length ≤ 1073741824
  write : ∀ {w : World} {O : Nat → Prop} {s : S} (bs : List UInt8) (a : Option Addr) (c : Nat), At w O s → wok s → Bys w (.slice a bs.length c) bs → bs.length ≤ c → 1 ≤ bs.length → bs.length ≤ 1048576 → (∀ k, (Value.slice a bs.length c).ownBlock = some k → ¬ O k) →
    Calls Tryz.prog fw #[v, .slice a bs.length c] w fun e w' => e = .returned (.tuple #[.int .i64 (D.write s bs).1, .int .i64 (D.write s bs).2.1]) ∧ ∃ O', At w' O' (D.write s bs).2.2 ∧ (∀ k, O' k → O k ∨ w.heap.size ≤ k) ∧ Turned O w w'
theorem RawP.gen {S : Type} {D : RawD S} {T : TypeId} {v : Value} {fr fw : FuncId} {rok wok : S → Prop} {At : World → (Nat → Prop) → S → Prop} (R : RawP D T v fr fw rok wok At) : RawM D T v fr fw rok wok At := ⟨fun _ => ⟨v, R.mread, fun n => R.read n⟩, R.mwrite, R.cread, R.cwrite, R.keep, R.few, R.write⟩
theorem view_own {P : Prop} {w : World} {E : Int} {l : List UInt8} {e : Ending} {w' : World} (h : ∃ u, e = .returned (.tuple #[u, .int .i64 E]) ∧ w'.ownsRow w.heap.size 5 1 u l.length (l.map bv) ∧ P) : ∃ ua uc, e = .returned (.tuple #[.slice ua l.length uc, .int .i64 E]) ∧ Bys w' (.slice ua l.length uc) l ∧ P := by
  obtain ⟨u, rfl, ho, hp⟩ := h
  obtain ⟨ua, uc, rfl⟩ := owns_slice ho
  exact ⟨ua, uc, rfl, Bys.of_owns ho, hp⟩
def RStep {S : Type} (At : World → (Nat → Prop) → S → Prop) (w : World) (O : Nat → Prop) (s : S) (w' : World) : Prop := ∃ O', At w' O' s ∧ (∀ k, O' k → O k ∨ w.heap.size ≤ k) ∧ Turned O w w'
def someV {S : Type} (D : RawD S) (n : Nat) : Nat → S → List UInt8 × Int × S
  | 0, s => ([], 81, s)
  | k + 1, s => if (D.read s n).2.1 = 22 ∨ (D.read s n).2.1 = 23 then someV D n k (D.read s n).2.2
      else if n < (D.read s n).1.length then ([], 82, (D.read s n).2.2)
      else if (D.read s n).2.1 = 0 then ((D.read s n).1, 0, (D.read s n).2.2)
      else ([], (D.read s n).2.1, (D.read s n).2.2)
theorem someV_next {S : Type} (D : RawD S) (n k : Nat) (s : S) {b : List UInt8} {e : Int} {s2 : S} (h : D.read s n = (b, e, s2)) : someV D n (k + 1) s = if e = 22 ∨ e = 23 then someV D n k s2 else if n < b.length then ([], 82, s2) else if e = 0 then (b, 0, s2) else ([], e, s2) := by
  show (if (D.read s n).2.1 = 22 ∨ (D.read s n).2.1 = 23 then someV D n k (D.read s n).2.2 else if n < (D.read s n).1.length then ([], 82, (D.read s n).2.2) else if (D.read s n).2.1 = 0 then ((D.read s n).1, 0, (D.read s n).2.2) else ([], (D.read s n).2.1, (D.read s n).2.2)) = _
  rw [h]
def someOk {S : Type} (D : RawD S) (ok : S → Prop) (n : Nat) : Nat → S → Prop
  | 0, _ => True
  | k + 1, s => ok s ∧ ((D.read s n).2.1 = 22 ∨ (D.read s n).2.1 = 23 → someOk D ok n k (D.read s n).2.2)
def putV {S : Type} (D : RawD S) (bs : List UInt8) : Nat → S → Nat → Nat → Nat × Int × S
  | 0, s, d, _ => (d, 0, s)
  | k + 1, s, d, t => if d < bs.length then
      (if ((D.write s (bs.drop d)).2.1 = 22 ∨ (D.write s (bs.drop d)).2.1 = 23) ∨ ((D.write s (bs.drop d)).1 = 0 ∧ (D.write s (bs.drop d)).2.1 = 0) then
        (if t + 1 = 8192 then (d, 81, (D.write s (bs.drop d)).2.2) else putV D bs k (D.write s (bs.drop d)).2.2 d (t + 1))
       else if (D.write s (bs.drop d)).1 < 0 ∨ ((bs.length - d : Nat) : Int) < (D.write s (bs.drop d)).1 then (d, 82, (D.write s (bs.drop d)).2.2)
       else if (D.write s (bs.drop d)).2.1 = 0 then putV D bs k (D.write s (bs.drop d)).2.2 (d + (D.write s (bs.drop d)).1.toNat) 0
       else (d, (D.write s (bs.drop d)).2.1, (D.write s (bs.drop d)).2.2))
      else (d, 0, s)
def putOk {S : Type} (D : RawD S) (ok : S → Prop) (bs : List UInt8) : Nat → S → Nat → Nat → Prop
  | 0, _, _, _ => True
  | k + 1, s, d, t => d < bs.length → ok s ∧
      (((D.write s (bs.drop d)).2.1 = 22 ∨ (D.write s (bs.drop d)).2.1 = 23) ∨ ((D.write s (bs.drop d)).1 = 0 ∧ (D.write s (bs.drop d)).2.1 = 0) → t + 1 ≠ 8192 → putOk D ok bs k (D.write s (bs.drop d)).2.2 d (t + 1)) ∧
      ((D.write s (bs.drop d)).2.1 = 0 → 1 ≤ (D.write s (bs.drop d)).1 → (D.write s (bs.drop d)).1 ≤ ((bs.length - d : Nat) : Int) → putOk D ok bs k (D.write s (bs.drop d)).2.2 (d + (D.write s (bs.drop d)).1.toNat) 0)
theorem putV_next {S : Type} (D : RawD S) (bs : List UInt8) (k : Nat) (s : S) (d t : Nat) {m e : Int} {s2 : S} (h : D.write s (bs.drop d) = (m, e, s2)) : putV D bs (k + 1) s d t = if d < bs.length then
      (if (e = 22 ∨ e = 23) ∨ (m = 0 ∧ e = 0) then (if t + 1 = 8192 then (d, 81, s2) else putV D bs k s2 d (t + 1))
       else if m < 0 ∨ ((bs.length - d : Nat) : Int) < m then (d, 82, s2)
       else if e = 0 then putV D bs k s2 (d + m.toNat) 0
       else (d, e, s2))
      else (d, 0, s) := by
  show (if d < bs.length then
      (if ((D.write s (bs.drop d)).2.1 = 22 ∨ (D.write s (bs.drop d)).2.1 = 23) ∨ ((D.write s (bs.drop d)).1 = 0 ∧ (D.write s (bs.drop d)).2.1 = 0) then
        (if t + 1 = 8192 then (d, 81, (D.write s (bs.drop d)).2.2) else putV D bs k (D.write s (bs.drop d)).2.2 d (t + 1))
       else if (D.write s (bs.drop d)).1 < 0 ∨ ((bs.length - d : Nat) : Int) < (D.write s (bs.drop d)).1 then (d, 82, (D.write s (bs.drop d)).2.2)
       else if (D.write s (bs.drop d)).2.1 = 0 then putV D bs k (D.write s (bs.drop d)).2.2 (d + (D.write s (bs.drop d)).1.toNat) 0
       else (d, (D.write s (bs.drop d)).2.1, (D.write s (bs.drop d)).2.2))
      else (d, 0, s)) = _
  rw [h]
theorem putV_done {S : Type} (D : RawD S) (bs : List UInt8) (k : Nat) (s : S) (d t : Nat) (h : ¬ d < bs.length) : putV D bs k s d t = (d, 0, s) := by
  cases k with
  | zero => rfl
  | succ k => unfold putV; rw [if_neg h]
theorem putOk_next {S : Type} (D : RawD S) (ok : S → Prop) (bs : List UInt8) (k : Nat) (s : S) (d t : Nat) {m e : Int} {s2 : S} (h : D.write s (bs.drop d) = (m, e, s2)) (hd : d < bs.length) (hp : putOk D ok bs (k + 1) s d t) : ok s ∧ ((e = 22 ∨ e = 23) ∨ (m = 0 ∧ e = 0) → t + 1 ≠ 8192 → putOk D ok bs k s2 d (t + 1)) ∧ (e = 0 → 1 ≤ m → m ≤ ((bs.length - d : Nat) : Int) → putOk D ok bs k s2 (d + m.toNat) 0) := by
  have h2 := hp hd
  rw [h] at h2
  exact h2
def putF (bs : List UInt8) : Nat := bs.length * 8192 + 8192
theorem isTry_yes (e : Int) (w : World) (h : e = 22 ∨ e = 23) : Calls Tryz.prog 216 #[.int .i64 e] w fun r w' => r = .returned (.bool true) ∧ w = w' := by
  rcases h with rfl | rfl
  all_goals
    go_enter Tryz.func216, Tryz.ntmps216
    go_wp2
    go_ret
    exact ⟨rfl, rfl⟩
theorem isTry_no (e : Int) (w : World) (h : ¬ (e = 22 ∨ e = 23)) : Calls Tryz.prog 216 #[.int .i64 e] w fun r w' => r = .returned (.bool false) ∧ w = w' := by
  have h1 : ¬ e = 22 := fun x => h (.inl x)
  have h2 : ¬ e = 23 := fun x => h (.inr x)
  have h3 : (e == 22) = false := by simp [h1]
  have h4 : (e == 23) = false := by simp [h2]
  go_enter Tryz.func216, Tryz.ntmps216
  go_wp2
  go_ret
  exact ⟨rfl, rfl⟩
theorem readable_yes (T : TypeId) (v : Value) (n : Int) (w : World) (h1 : 1 ≤ n) (h2 : n ≤ 1048576) : Calls Tryz.prog 252 #[.iface T v, .int .i64 n] w fun r w' => r = .returned (.int .i64 0) ∧ w = w' := by
  have h3 : ¬ n < 1 := by omega
  have h4 : ¬ 1048576 < n := by omega
  go_enter Tryz.func252, Tryz.ntmps252
  go_wp2
  go_ret
  exact ⟨rfl, rfl⟩
set_option maxRecDepth 100000 in
set_option maxHeartbeats 1000000 in
theorem bclone_any (v : Value) (l : List UInt8) (w : World) (h : Bys w v l) (hs : l.length ≤ 140737488351232) :
    Calls Tryz.prog 182 #[v] w fun e w' => ∃ u, e = .returned u ∧ w'.ownsRow w.heap.size 5 1 u l.length (l.map bv) ∧ Below w.heap.size w w' := by
  have hmade : (w.alloc (Obj.cells #[] 5)).ownsRow w.heap.size 5 1 (.slice (some ⟨w.heap.size, 0, none⟩) 0 0) ([] : List UInt8).length (([] : List UInt8).map bv) := World.ownsRow_made _ _ _ (Nat.le_refl _) (by decide) rfl
  have hB := recv_below w (Obj.cells #[] 5)
  obtain ⟨s', w1, hrun, HO, hg, hb⟩ := run_append_bytes (w.alloc (Obj.cells #[] 5)) 40 w.heap.size _ v [] l hmade (h.below hB) (by simpa using hs) hB.size
  have HR := hide hrun
  have HB : Hid (Below w.heap.size w w1) := hide (hB.grown hg hB.size (fun j e => by
    have : w.heap.size = j := by simpa [Value.ownBlock] using e
    omega))
  rcases h with ⟨rfl, rfl⟩ | ⟨a, cap, rfl, rfl⟩ | ⟨b, off, cap, rfl, h0, -⟩
  · have hnil : ∀ W, (binOp .eql 40 (.slice none 0 0) (.slice none 0 0)).run Tryz.prog W = .ok (.bool true) W := fun W => Lib.run_eql_slice_nil_nil W _ _ Tryz.underlying40
    go_enter Tryz.func182, Tryz.ntmps182
    go_wp2
    go_ret
    exact ⟨_, rfl, World.ownsRow_nil _ _ _ _, Below.refl _ _⟩
  · have hnil : ∀ W, (binOp .eql 40 (.slice (some a) 0 cap) (.slice none 0 0)).run Tryz.prog W = .ok (.bool false) W := fun W => Lib.run_eql_slice_some_nil W _ _ _ Tryz.underlying40
    clear hrun hg hb hmade hB
    go_enter Tryz.func182, Tryz.ntmps182
    go_wp2_with (at_builtin; refine Lib.wpList_append_run _ rfl _ _ _ _ rfl _ _ rfl rfl _ _ HR.out ?_)
    go_ret
    exact ⟨_, rfl, HO.out, HB.out⟩
  · have hnil : ∀ W, (binOp .eql 40 (.slice (some ⟨b, off, none⟩) l.length cap) (.slice none 0 0)).run Tryz.prog W = .ok (.bool false) W := fun W => Lib.run_eql_slice_some_nil W _ _ _ Tryz.underlying40
    clear hrun hg hb hmade hB
    go_enter Tryz.func182, Tryz.ntmps182
    go_wp2_with (at_builtin; refine Lib.wpList_append_run _ rfl _ _ _ _ rfl _ _ rfl rfl _ _ HR.out ?_)
    go_ret
    exact ⟨_, rfl, HO.out, HB.out⟩
end Go.Proofs.YtkkommomefmpgaaGreat

/- Some, over any Raw. -/
namespace Go.Proofs.YtkkommomefmpgaaGreat
open Go.RowKit Go.Maps

set_option maxRecDepth 100000 in
set_option maxHeartbeats 4000000 in
theorem some_any {S : Type} {D : RawD S} {T : TypeId} {v : Value} {fr fw : FuncId} {rok wok : S → Prop} {At : World → (Nat → Prop) → S → Prop} (R : RawM D T v fr fw rok wok At) {w : World} {O : Nat → Prop} {s : S} (n : Nat) (h : At w O s) (h1 : 1 ≤ n) (h2 : n ≤ 1048576) (hok : someOk D rok n 8192 s) :
    Calls Tryz.prog 223 #[.iface T v, .int .i64 n] w fun e w' => ∃ u, e = .returned (.tuple #[u, .int .i64 (someV D n 8192 s).2.1]) ∧ w'.ownsRow w.heap.size 5 1 u (someV D n 8192 s).1.length ((someV D n 8192 s).1.map bv) ∧ At w' O (someV D n 8192 s).2.2 ∧ Turned O w w' := by
  have hok1 : someOk D rok n (8191 + 1) s := hok
  obtain ⟨vr, hm, hrd0⟩ := R.rd ⟨s, hok1.1⟩
  clear hok1
  have HRd0 := hide (fun (w : World) (O : Nat → Prop) (s : S) (n : Nat) => @hrd0 w O s n)
  clear hrd0
  have hcr := R.cread
  have HA := hide h
  have HOk := hide hok
  have HR := hide R
  clear h hok R
  go_enter Tryz.func223, Tryz.ntmps223
  go_wp2_with (first | (go_at_call 252; refine (readable_yes T v n _ (by omega) (by omega)).mono ?_; rintro _ _ ⟨rfl, rfl⟩) | fail)
  obtain ⟨tr, htr⟩ : ∃ tr, tr = 8192 := ⟨_, rfl⟩
  have HTr := hide htr
  clear htr
  go_loopw [15] (fun i wr => ∃ (k : Nat) (s' : S), i = .int .i64 k ∧ k ≤ 8192 ∧ Hid (At wr O s') ∧ Hid (someOk D rok n (tr - k) s' ∧ someV D n (tr - k) s' = someV D n 8192 s) ∧ Hid (Turned O w wr) ∧ w.heap.size ≤ wr.heap.size) (fun i _ => 8192 - (intOf i).toNat)
  case atStart => exact ⟨0, s, rfl, Nat.zero_le _, HA, hide (by rw [HTr.out]; exact ⟨HOk.out, rfl⟩), hide (Turned.of_below (Below.refl _ _)), Nat.le_refl _⟩
  case round =>
    obtain ⟨k, s', rfl, hk, HAt, HV, HT, hsz⟩ := hrel
    clear HA HOk
    by_cases hlt : k < 8192
    case neg =>
      have hke : k = 8192 := by omega
      have HE : Hid (someV D n 8192 s = ([], 81, s')) := hide (by
        have := HV.out.2
        rw [show tr - k = 0 by have := HTr.out; omega] at this
        exact this.symm)
      have hlt' : ¬ (k : Int) < 8192 := by omega
      clear HV hke hlt
      go_wp2_with fail
      go_ret2
      rw [HE.out]
      exact ⟨_, rfl, World.ownsRow_nil _ _ _ _, HAt.out, HT.out⟩
    have hlt' : (k : Int) < 8192 := by omega
    obtain ⟨j, hj⟩ : ∃ j, tr - k = j + 1 := ⟨tr - k - 1, by have := HTr.out; omega⟩
    rw [hj] at HV
    have HRd := hide (HRd0.out _ _ _ n HAt.out HV.out.1.1 h1 h2)
    have hfew := HR.out.few n HAt.out
    obtain ⟨b, e, s2, hd⟩ : ∃ b e s2, D.read s' n = (b, e, s2) := ⟨_, _, _, rfl⟩
    rw [hd] at HRd hfew
    simp only at HRd hfew
    have hV1 : e = 22 ∨ e = 23 → someOk D rok n j s2 := by have := HV.out.1.2; rw [hd] at this; exact this
    have hV2 := HV.out.2
    rw [someV_next D n j s' hd] at hV2
    have HV1 := hide hV1
    have HJ := hide hj
    clear HV hd hj hV1
    by_cases ht : e = 22 ∨ e = 23
    · rw [if_pos ht] at hV2
      have HV2 := hide hV2
      have HV3 := hide (HV1.out ht)
      have HTt := hide ht
      clear hV2 ht
      go_wp2_with fail
      refine HRd.out.mono ?_
      rintro _ w1 ⟨ua, uc, rfl, hO1, hA1, hT1⟩
      have HA1 := hide hA1
      have HT1 := hide (HT.out.trans hT1 (fun _ _ e => e))
      have hs1 : w.heap.size ≤ w1.heap.size := Nat.le_trans hsz hT1.size
      clear hO1 hA1 hT1
      go_wp2_with (first | (go_at_call 216; refine (isTry_yes _ _ HTt.out).mono ?_; rintro _ _ ⟨rfl, rfl⟩) | fail)
      go_roundw
      case rel => exact ⟨k + 1, s2, by go_num, by omega, HA1, hide (by rw [show tr - (k + 1) = j by have := HJ.out; omega]; exact ⟨HV3.out, HV2.out⟩), HT1, hs1⟩
      case measure => simp [intOf]; omega
    · rw [if_neg ht] at hV2
      have HTt := hide ht
      clear ht HV1
      by_cases hn : n < b.length
      · rw [if_pos hn] at hV2
        have HV2 := hide hV2
        have hn' : (n : Int) < (b.length : Int) := by omega
        clear hV2 hn
        go_wp2_with fail
        refine HRd.out.mono ?_
        rintro _ w1 ⟨ua, uc, rfl, hO1, hA1, hT1⟩
        have HA1 := hide hA1
        have HT1 := hide (HT.out.trans hT1 (fun _ _ e => e))
        clear hO1 hA1 hT1
        go_wp2_with (first | (go_at_call 216; refine (isTry_no _ _ HTt.out).mono ?_; rintro _ _ ⟨rfl, rfl⟩) | fail)
        go_ret2
        rw [← HV2.out]
        exact ⟨_, rfl, World.ownsRow_nil _ _ _ _, HA1.out, HT1.out⟩
      rw [if_neg hn] at hV2
      have hn' : ¬ (n : Int) < (b.length : Int) := by omega
      by_cases he : e = 0
      · subst he
        rw [if_pos rfl] at hV2
        have HV2 := hide hV2
        clear hV2 hn
        go_wp2_with fail
        refine HRd.out.mono ?_
        rintro _ w1 ⟨ua, uc, rfl, hO1, hA1, hT1⟩
        have HC := hide (bclone_any (.slice ua b.length uc) b w1 hO1 (by omega))
        have HA1 := hide hA1
        have HT1 := hide (HT.out.trans hT1 (fun _ _ e => e))
        clear hO1 hA1 hT1
        go_wp2_with (first | (go_at_call 216; refine (isTry_no _ _ HTt.out).mono ?_; rintro _ _ ⟨rfl, rfl⟩) | fail)
        refine HC.out.mono ?_
        rintro _ w2 ⟨u2, rfl, hO2, hB2⟩
        have HA2 := hide (HR.out.keep HA1.out (fun j _ hj => hB2.block j hj) hB2.size)
        have HT2 := hide (HT1.out.trans (Turned.of_below hB2) (fun _ _ e => e))
        have HO2 := hide (owns_mono hO2 HT1.out.size)
        clear hO2 hB2
        go_wp2
        go_ret2
        rw [← HV2.out]
        exact ⟨_, rfl, HO2.out, HA2.out, HT2.out⟩
      · rw [if_neg he] at hV2
        have HV2 := hide hV2
        have he2 : (e != 0) = true := by simp [he]
        have he3 : (e == 0) = false := by simp [he]
        clear hV2 hn
        go_wp2_with fail
        refine HRd.out.mono ?_
        rintro _ w1 ⟨ua, uc, rfl, hO1, hA1, hT1⟩
        have HA1 := hide hA1
        have HT1 := hide (HT.out.trans hT1 (fun _ _ e => e))
        clear hO1 hA1 hT1
        go_wp2_with (first | (go_at_call 216; refine (isTry_no _ _ HTt.out).mono ?_; rintro _ _ ⟨rfl, rfl⟩) | fail)
        go_ret2
        rw [← HV2.out]
        exact ⟨_, rfl, World.ownsRow_nil _ _ _ _, HA1.out, HT1.out⟩
end Go.Proofs.YtkkommomefmpgaaGreat

/- Put, over any Raw. -/
namespace Go.Proofs.YtkkommomefmpgaaGreat
open Go.RowKit Go.Maps

theorem spliced_bys {W : World} {g d cap : Nat} {cur : List Value} {l : List UInt8} (hW : W.heap[g]? = some (.cells (splice cur d (l.map bv)).toArray 5 (0, 0))) (hf : d + l.length ≤ cur.length) (h0 : 0 < l.length) : Bys W (.slice (some ⟨g, d, none⟩) l.length cap) l := by
  refine .inr (.inr ⟨g, d, cap, rfl, h0, fun j hj => ?_⟩)
  rw [cell_of_row _ _ _ _ _ _ hW, List.getElem?_toArray, splice_get _ _ _ _ (by simpa using hf), if_neg (by omega), if_pos (by rw [List.length_map]; omega), Nat.add_sub_cancel_left]
  simp [hj, bv]
set_option maxRecDepth 100000 in
set_option maxHeartbeats 4000000 in
theorem rput_any {S : Type} {D : RawD S} {T : TypeId} {v : Value} {fr fw : FuncId} {rok wok : S → Prop} {At : World → (Nat → Prop) → S → Prop} (R : RawM D T v fr fw rok wok At) {w : World} {O : Nat → Prop} {s : S} (bs : List UInt8) (ba : Option Addr) (bc : Nat) (h : At w O s) (hO : ∀ j, O j → j < w.heap.size) (hb : Bys w (.slice ba bs.length bc) bs) (hcap : bs.length ≤ bc) (h2 : bs.length ≤ 1048576) (hap : 0 < bs.length → ∀ k, (Value.slice ba bs.length bc).ownBlock = some k → ¬ O k) (hok : putOk D wok bs (putF bs) s 0 0) :
    Calls Tryz.prog 188 #[.iface T v, .slice ba bs.length bc] w fun e w' => e = .returned (.tuple #[.int .i64 (putV D bs (putF bs) s 0 0).1, .int .i64 (putV D bs (putF bs) s 0 0).2.1]) ∧ RStep At w O (putV D bs (putF bs) s 0 0).2.2 w' := by
  obtain ⟨i0, hi, hz0, hz1, hz2⟩ := info_parts Tryz.infoB
  have hm := R.mwrite
  have hcr := R.cwrite
  have HA := hide h
  have HOk := hide hok
  have HR := hide R
  have HOl := hide hO
  have HBb := hide hb
  have HAp := hide hap
  have hn1 : ¬ (1048576 : Int) < (bs.length : Int) := by omega
  clear h hok R hO hb hap
  obtain ⟨F, hF⟩ : ∃ F, F = putF bs := ⟨_, rfl⟩
  have HF := hide hF
  rw [← hF] at HOk ⊢
  clear hF
  go_enter Tryz.func188, Tryz.ntmps188
  go_wp2_with (at_make; refine wpList_make_full _ rfl _ _ 40 rfl w.heap.size 5 i0 (.int .u8 0) 1 Tryz.underlying40 hi hz0 hz1 _ _ _ _ bs.length rfl rfl rfl rfl (by rw [hz2]; omega) (by unfold maxLen; omega) (Nat.le_refl _) ?_; intro w1 hown1 hgrow1; obtain ⟨cur, hcl, HRw, hB1⟩ := Te_made_row hown1 hgrow1; clear hown1 hgrow1)
  have hs1 : w.heap.size < w1.heap.size := (Array.getElem?_eq_some_iff.1 HRw.out).1
  have HB1 := hide hB1
  have HRw0 : Hid (∃ cur : List Value, w1.heap[w.heap.size]? = some (.cells cur.toArray 5 (0, 0)) ∧ cur.length = bs.length) := hide ⟨cur, HRw.out, hcl⟩
  clear HRw hB1 hcl
  go_loopw [7, 8] (fun tv rv wr => ∃ (k d t : Nat) (s' : S), tv = .int .i64 d ∧ rv = .int .i64 t ∧ d ≤ bs.length ∧ t < 8192 ∧ (bs.length - d) * 8192 + (8192 - t) ≤ k ∧ Hid (∃ O', At wr O' s' ∧ ∀ j, O' j → O j ∨ w1.heap.size ≤ j) ∧ Hid (∃ cur : List Value, wr.heap[w.heap.size]? = some (.cells cur.toArray 5 (0, 0)) ∧ cur.length = bs.length) ∧ Hid (putOk D wok bs k s' d t ∧ putV D bs k s' d t = putV D bs F s 0 0) ∧ Hid (Turned O w wr) ∧ w1.heap.size ≤ wr.heap.size) (fun tv rv _ => (bs.length - (intOf tv).toNat) * 8192 + (8192 - (intOf rv).toNat))
  case atStart => exact ⟨F, 0, 0, s, rfl, rfl, Nat.zero_le _, by omega, by rw [HF.out]; unfold putF; omega, hide ⟨O, HR.out.keep HA.out (fun j _ hj => HB1.out.block j hj) HB1.out.size, fun _ e => .inl e⟩, HRw0, hide ⟨HOk.out, rfl⟩, hide (Turned.of_below HB1.out), Nat.le_refl _⟩
  case round =>
    obtain ⟨k, d, t, s', rfl, rfl, hd, ht, hk, HAt, HRw, HV, HT, hsz⟩ := hrel
    clear HA HOk HRw0
    by_cases hlt : d < bs.length
    case neg =>
      have HE : Hid (putV D bs F s 0 0 = (d, 0, s')) := hide (by rw [← HV.out.2]; exact putV_done D bs k s' d t hlt)
      have hlt' : ¬ (d : Int) < (bs.length : Int) := by omega
      clear HV hlt
      go_wp2_with fail
      go_ret2
      rw [HE.out]
      obtain ⟨O', hA', hO'⟩ := HAt.out
      exact ⟨rfl, O', hA', fun j e => (hO' j e).imp id (fun e => by omega), HT.out⟩
    have hlt' : (d : Int) < (bs.length : Int) := by omega
    have hq0 : (0 : Int) ≤ (d : Int) := by omega
    have hq1 : (d : Int) ≤ (bs.length : Int) := by omega
    have hq2 : (bs.length : Int) ≤ (bc : Int) := by omega
    have hq3 : (d : Int) < (bc : Int) := by omega
    have hq4 : ¬ bc = d := by omega
    have hq5 : ¬ bs.length = d := by omega
    obtain ⟨-, xb, xo, rfl, hxb, -⟩ := bys_block HBb.out (by omega)
    obtain ⟨O', hA', hO'⟩ := HAt.out
    obtain ⟨cur, hcu, hcl⟩ := HRw.out
    have hbd : Bys wr (.slice (some ⟨xb, xo + d, none⟩) (bs.length - d) (bc - d)) (bs.drop d) := by
      have := bys_cut (HBb.out.turned HT.out (fun k hk _ => HAp.out (by omega) k hk)) d (bs.length - d) (bc - d) (by omega)
      rw [List.take_of_length_le (by rw [List.length_drop]; exact Nat.le_refl _)] at this
      exact this
    have hdl : (bs.drop d).length = bs.length - d := List.length_drop
    obtain ⟨w2, hrun, HG2, hgr2⟩ := run_copy wr 3 (some ⟨w.heap.size, d, none⟩) (some ⟨xb, xo + d, none⟩) (bs.length - d) (bs.length - d) (bs.length - d) (bc - d) w.heap.size d cur hcu ((bs.drop d).map bv) (by rw [List.length_map, hdl]; simp) (fun h0 => ⟨rfl, Te_bys_src hbd rfl h0⟩) (by rw [List.length_map, hdl]; omega) (bys_one _)
    rw [List.length_map, hdl] at hrun
    have hbs2 : Bys w2 (.slice (some ⟨w.heap.size, d, none⟩) (bs.drop d).length (bs.length - d)) (bs.drop d) := spliced_bys HG2.out (by rw [hdl]; omega) (by rw [hdl]; omega)
    obtain ⟨j, rfl⟩ : ∃ j, k = j + 1 := ⟨k - 1, by omega⟩
    obtain ⟨m, e, s2, hw⟩ : ∃ m e s2, D.write s' (bs.drop d) = (m, e, s2) := ⟨_, _, _, rfl⟩
    obtain ⟨hV0, hV1, hV3⟩ := putOk_next D wok bs j s' d t hw hlt HV.out.1
    have hgO : ¬ O' w.heap.size := fun e => by
      rcases hO' _ e with e | e
      · have := HOl.out _ e; omega
      · omega
    have HW := hide (HR.out.write (w := w2) (bs.drop d) (some ⟨w.heap.size, d, none⟩) (bs.length - d) (HR.out.keep hA' (fun i hi hl => hgr2.block i hl (fun e => by cases e; exact hgO hi)) hgr2.size) hV0 hbs2 (by rw [hdl]; exact Nat.le_refl _) (by rw [hdl]; omega) (by rw [hdl]; omega) (fun i hi => by
      have : w.heap.size = i := by simpa [Value.ownBlock] using hi
      exact this ▸ hgO))
    rw [hw, hdl] at HW
    simp only at HW
    have hV2 := HV.out.2
    rw [putV_next D bs j s' d t hw, if_pos hlt] at hV2
    have HRw2 : Hid (∃ cur : List Value, w2.heap[w.heap.size]? = some (.cells cur.toArray 5 (0, 0)) ∧ cur.length = bs.length) := hide ⟨_, HG2.out, by rw [length_splice _ _ _ (by rw [List.length_map, hdl]; omega)]; exact hcl⟩
    have HT2 : Hid (Turned O w w2) := hide (HT.out.grown hgr2 (fun k e => .inr (by cases e; exact Nat.le_refl _)))
    have hs2 : w1.heap.size ≤ w2.heap.size := by have := hgr2.size; omega
    have HO' := hide hO'
    have HgO := hide hgO
    have HV1 := hide hV1
    have HV3 := hide hV3
    have hsub : (bs.length : Int) - (d : Int) = ((bs.length - d : Nat) : Int) := by omega
    clear HV hw hV0 hV1 hV3 hbs2 hbd hcu hcl hA' hO' hgO hgr2 HG2 HAt HRw hxb
    have hEE : ∀ x : Nat, ¬ ((8192 : Int) = (x : Int)) → True := fun _ _ => trivial
    clear hEE
    by_cases htry : (e = 22 ∨ e = 23) ∨ (m = 0 ∧ e = 0)
    · rw [if_pos htry] at hV2
      by_cases ht1 : t + 1 = 8192
      · rw [if_pos ht1] at hV2
        have HV2 := hide hV2
        obtain rfl : t = 8191 := by omega
        clear hV2 HV1 HV3 ht1
        by_cases hey : e = 22 ∨ e = 23
        · have HTt := hide hey
          clear htry hey
          go_wp2_with fail
          refine HW.out.mono ?_
          rintro _ w3 ⟨rfl, O3, hA3, hO3, hT3⟩
          have HA3 : Hid (∃ O', At w3 O' s2 ∧ ∀ j, O' j → O j ∨ w1.heap.size ≤ j) := hide ⟨O3, hA3, fun i e => (hO3 i e).elim (fun e => HO'.out i e) (fun e => .inr (by omega))⟩
          have HRw3 : Hid (∃ cur : List Value, w3.heap[w.heap.size]? = some (.cells cur.toArray 5 (0, 0)) ∧ cur.length = bs.length) := hide (by
            obtain ⟨c, hc, hl⟩ := HRw2.out
            exact ⟨c, (hT3.block _ (by omega) HgO.out).trans hc, hl⟩)
          have HT3 : Hid (Turned O w w3) := hide (HT2.out.trans hT3 (fun i hi e => (HO'.out i e).resolve_right (by omega)))
          have hs3 : w1.heap.size ≤ w3.heap.size := by have := hT3.size; omega
          clear hA3 hO3 hT3
          go_wp2_with (first | (go_at_call 216; refine (isTry_yes _ _ HTt.out).mono ?_; rintro _ _ ⟨rfl, rfl⟩) | fail)
          go_ret2
          rw [← HV2.out]
          obtain ⟨O', hA', hO'⟩ := HA3.out
          exact ⟨rfl, O', hA', fun i e => (hO' i e).imp id (fun e => by omega), HT3.out⟩
        · obtain ⟨rfl, rfl⟩ : m = 0 ∧ e = 0 := htry.resolve_left hey
          have HTt := hide hey
          clear htry hey
          go_wp2_with fail
          refine HW.out.mono ?_
          rintro _ w3 ⟨rfl, O3, hA3, hO3, hT3⟩
          have HA3 : Hid (∃ O', At w3 O' s2 ∧ ∀ j, O' j → O j ∨ w1.heap.size ≤ j) := hide ⟨O3, hA3, fun i e => (hO3 i e).elim (fun e => HO'.out i e) (fun e => .inr (by omega))⟩
          have HRw3 : Hid (∃ cur : List Value, w3.heap[w.heap.size]? = some (.cells cur.toArray 5 (0, 0)) ∧ cur.length = bs.length) := hide (by
            obtain ⟨c, hc, hl⟩ := HRw2.out
            exact ⟨c, (hT3.block _ (by omega) HgO.out).trans hc, hl⟩)
          have HT3 : Hid (Turned O w w3) := hide (HT2.out.trans hT3 (fun i hi e => (HO'.out i e).resolve_right (by omega)))
          have hs3 : w1.heap.size ≤ w3.heap.size := by have := hT3.size; omega
          clear hA3 hO3 hT3
          go_wp2_with (first | (go_at_call 216; refine (isTry_no _ _ HTt.out).mono ?_; rintro _ _ ⟨rfl, rfl⟩) | fail)
          go_ret2
          rw [← HV2.out]
          obtain ⟨O', hA', hO'⟩ := HA3.out
          exact ⟨rfl, O', hA', fun i e => (hO' i e).imp id (fun e => by omega), HT3.out⟩
      · rw [if_neg ht1] at hV2
        have HV2 := hide hV2
        have HV4 := hide (HV1.out htry ht1)
        have htt : ¬ (t : Int) + 1 = 8192 := by omega
        have htu : ((t : Int) + 1 == 8192) = false := by simp; omega
        clear hV2 HV1 HV3
        by_cases hey : e = 22 ∨ e = 23
        · have HTt := hide hey
          clear htry hey
          go_wp2_with fail
          refine HW.out.mono ?_
          rintro _ w3 ⟨rfl, O3, hA3, hO3, hT3⟩
          have HA3 : Hid (∃ O', At w3 O' s2 ∧ ∀ j, O' j → O j ∨ w1.heap.size ≤ j) := hide ⟨O3, hA3, fun i e => (hO3 i e).elim (fun e => HO'.out i e) (fun e => .inr (by omega))⟩
          have HRw3 : Hid (∃ cur : List Value, w3.heap[w.heap.size]? = some (.cells cur.toArray 5 (0, 0)) ∧ cur.length = bs.length) := hide (by
            obtain ⟨c, hc, hl⟩ := HRw2.out
            exact ⟨c, (hT3.block _ (by omega) HgO.out).trans hc, hl⟩)
          have HT3 : Hid (Turned O w w3) := hide (HT2.out.trans hT3 (fun i hi e => (HO'.out i e).resolve_right (by omega)))
          have hs3 : w1.heap.size ≤ w3.heap.size := by have := hT3.size; omega
          clear hA3 hO3 hT3
          go_wp2_with (first | (go_at_call 216; refine (isTry_yes _ _ HTt.out).mono ?_; rintro _ _ ⟨rfl, rfl⟩) | fail)
          go_roundw
          case rel => exact ⟨j, d, t + 1, s2, rfl, by go_num, by omega, by omega, by omega, HA3, HRw3, hide ⟨HV4.out, HV2.out⟩, HT3, hs3⟩
          case measure => simp [intOf]; omega
        · obtain ⟨rfl, rfl⟩ : m = 0 ∧ e = 0 := htry.resolve_left hey
          have HTt := hide hey
          clear htry hey
          go_wp2_with fail
          refine HW.out.mono ?_
          rintro _ w3 ⟨rfl, O3, hA3, hO3, hT3⟩
          have HA3 : Hid (∃ O', At w3 O' s2 ∧ ∀ j, O' j → O j ∨ w1.heap.size ≤ j) := hide ⟨O3, hA3, fun i e => (hO3 i e).elim (fun e => HO'.out i e) (fun e => .inr (by omega))⟩
          have HRw3 : Hid (∃ cur : List Value, w3.heap[w.heap.size]? = some (.cells cur.toArray 5 (0, 0)) ∧ cur.length = bs.length) := hide (by
            obtain ⟨c, hc, hl⟩ := HRw2.out
            exact ⟨c, (hT3.block _ (by omega) HgO.out).trans hc, hl⟩)
          have HT3 : Hid (Turned O w w3) := hide (HT2.out.trans hT3 (fun i hi e => (HO'.out i e).resolve_right (by omega)))
          have hs3 : w1.heap.size ≤ w3.heap.size := by have := hT3.size; omega
          clear hA3 hO3 hT3
          go_wp2_with (first | (go_at_call 216; refine (isTry_no _ _ HTt.out).mono ?_; rintro _ _ ⟨rfl, rfl⟩) | fail)
          go_roundw
          case rel => exact ⟨j, d, t + 1, s2, rfl, by go_num, by omega, by omega, by omega, HA3, HRw3, hide ⟨HV4.out, HV2.out⟩, HT3, hs3⟩
          case measure => simp [intOf]; omega
    rw [if_neg htry] at hV2
    have HTt : Hid (¬ (e = 22 ∨ e = 23)) := hide (fun h => htry (.inl h))
    have hme : ¬ (m = 0 ∧ e = 0) := fun h => htry (.inr h)
    clear htry HV1
    by_cases hraw : m < 0 ∨ ((bs.length - d : Nat) : Int) < m
    · rw [if_pos hraw] at hV2
      have HV2 := hide hV2
      clear hV2 HV3 hme
      have hm0 : ¬ m = 0 := by omega
      have hm1 : (m == 0) = false := by simp [hm0]
      have hr2 : m < 0 ∨ (¬ m < 0 ∧ ((bs.length - d : Nat) : Int) < m) := by omega
      clear hraw
      rcases hr2 with hr2 | ⟨hr2, hr3⟩
      all_goals
        go_wp2_with fail
        refine HW.out.mono ?_
        rintro _ w3 ⟨rfl, O3, hA3, hO3, hT3⟩
        have HA3 : Hid (∃ O', At w3 O' s2 ∧ ∀ j, O' j → O j ∨ w1.heap.size ≤ j) := hide ⟨O3, hA3, fun i e => (hO3 i e).elim (fun e => HO'.out i e) (fun e => .inr (by omega))⟩
        have HRw3 : Hid (∃ cur : List Value, w3.heap[w.heap.size]? = some (.cells cur.toArray 5 (0, 0)) ∧ cur.length = bs.length) := hide (by
          obtain ⟨c, hc, hl⟩ := HRw2.out
          exact ⟨c, (hT3.block _ (by omega) HgO.out).trans hc, hl⟩)
        have HT3 : Hid (Turned O w w3) := hide (HT2.out.trans hT3 (fun i hi e => (HO'.out i e).resolve_right (by omega)))
        have hs3 : w1.heap.size ≤ w3.heap.size := by have := hT3.size; omega
        clear hA3 hO3 hT3
        go_wp2_with (first | (go_at_call 216; refine (isTry_no _ _ HTt.out).mono ?_; rintro _ _ ⟨rfl, rfl⟩) | fail)
        go_ret2
        rw [← HV2.out]
        obtain ⟨O', hA', hO'⟩ := HA3.out
        exact ⟨rfl, O', hA', fun i e => (hO' i e).imp id (fun e => by omega), HT3.out⟩
    rw [if_neg hraw] at hV2
    have hr1 : ¬ m < 0 := fun h => hraw (.inl h)
    have hr2 : ¬ ((bs.length - d : Nat) : Int) < m := fun h => hraw (.inr h)
    clear hraw
    by_cases he : e = 0
    · subst he
      rw [if_pos rfl] at hV2
      have hm0 : ¬ m = 0 := fun h => hme ⟨h, rfl⟩
      have hm1 : (m == 0) = false := by simp [hm0]
      have HV2 := hide hV2
      have HV4 := hide (HV3.out rfl (by omega) (by omega))
      obtain ⟨q, rfl⟩ : ∃ q : Nat, m = (q : Int) := ⟨m.toNat, by omega⟩
      rw [Int.toNat_natCast] at HV2 HV4
      have hq6 : q ≤ bs.length - d := by omega
      have hq7 : 1 ≤ q := by omega
      clear hV2 HV3 hme
      go_wp2_with fail
      refine HW.out.mono ?_
      rintro _ w3 ⟨rfl, O3, hA3, hO3, hT3⟩
      have HA3 : Hid (∃ O', At w3 O' s2 ∧ ∀ j, O' j → O j ∨ w1.heap.size ≤ j) := hide ⟨O3, hA3, fun i e => (hO3 i e).elim (fun e => HO'.out i e) (fun e => .inr (by omega))⟩
      have HRw3 : Hid (∃ cur : List Value, w3.heap[w.heap.size]? = some (.cells cur.toArray 5 (0, 0)) ∧ cur.length = bs.length) := hide (by
        obtain ⟨c, hc, hl⟩ := HRw2.out
        exact ⟨c, (hT3.block _ (by omega) HgO.out).trans hc, hl⟩)
      have HT3 : Hid (Turned O w w3) := hide (HT2.out.trans hT3 (fun i hi e => (HO'.out i e).resolve_right (by omega)))
      have hs3 : w1.heap.size ≤ w3.heap.size := by have := hT3.size; omega
      clear hA3 hO3 hT3
      go_wp2_with (first | (go_at_call 216; refine (isTry_no _ _ HTt.out).mono ?_; rintro _ _ ⟨rfl, rfl⟩) | fail)
      go_roundw
      case rel => exact ⟨j, d + q, 0, s2, by go_num, rfl, by omega, by omega, by omega, HA3, HRw3, hide ⟨HV4.out, HV2.out⟩, HT3, hs3⟩
      case measure => simp [intOf]; omega
    · rw [if_neg he] at hV2
      have HV2 := hide hV2
      have he2 : (e != 0) = true := by simp [he]
      have he3 : (e == 0) = false := by simp [he]
      clear hV2 HV3 hme
      by_cases hm0 : m = 0
      all_goals first | (subst hm0; skip) | skip
      all_goals
        first | have hm1 : (m == 0) = false := by simp [hm0] | skip
      all_goals
        go_wp2_with fail
        refine HW.out.mono ?_
        rintro _ w3 ⟨rfl, O3, hA3, hO3, hT3⟩
        have HA3 : Hid (∃ O', At w3 O' s2 ∧ ∀ j, O' j → O j ∨ w1.heap.size ≤ j) := hide ⟨O3, hA3, fun i e => (hO3 i e).elim (fun e => HO'.out i e) (fun e => .inr (by omega))⟩
        have HRw3 : Hid (∃ cur : List Value, w3.heap[w.heap.size]? = some (.cells cur.toArray 5 (0, 0)) ∧ cur.length = bs.length) := hide (by
          obtain ⟨c, hc, hl⟩ := HRw2.out
          exact ⟨c, (hT3.block _ (by omega) HgO.out).trans hc, hl⟩)
        have HT3 : Hid (Turned O w w3) := hide (HT2.out.trans hT3 (fun i hi e => (HO'.out i e).resolve_right (by omega)))
        have hs3 : w1.heap.size ≤ w3.heap.size := by have := hT3.size; omega
        clear hA3 hO3 hT3
        go_wp2_with (first | (go_at_call 216; refine (isTry_no _ _ HTt.out).mono ?_; rintro _ _ ⟨rfl, rfl⟩) | fail)
        go_ret2
        rw [← HV2.out]
        obtain ⟨O', hA', hO'⟩ := HA3.out
        exact ⟨rfl, O', hA', fun i e => (hO' i e).imp id (fun e => by omega), HT3.out⟩
end Go.Proofs.YtkkommomefmpgaaGreat

/- Streams, as values, over any Raw that is one. -/
namespace Go.Proofs.YtkkommomefmpgaaGreat
open Go.RowKit

structure SS where
  rd : Bool
  wt : Bool
  mode : Int
  size : Int
  out : List UInt8
  inn : List UInt8
  back : List UInt8
  dir : Int
  fin : Bool
  bad : Bool
  closed : Bool
def SS.buf (x : SS) : Bool := decide (1 ≤ x.mode) && decide (x.mode ≤ 3) && (decide (1 ≤ x.size) && decide (x.size ≤ 65536)) && decide ((x.out.length : Int) ≤ if x.mode = 1 then 0 else x.size) && decide ((x.inn.length : Int) ≤ 65536) && decide ((x.back.length : Int) ≤ 8)
def SS.toR (x : SS) : Bool := decide (0 < (x.inn.length : Int) + (x.back.length : Int))
def SS.toW (x : SS) : Bool := decide (0 < (x.out.length : Int))
def SS.way (x : SS) : Bool :=
  if x.dir = 0 then !x.toR && !x.toW
  else if x.dir = 1 then x.rd && !x.toW && !x.closed
  else if x.dir = 2 then x.wt && !x.toR && !x.closed
  else false
def SS.may (x : SS) : Bool := x.buf && x.way
def SS.refuse (x : SS) (hasRaw : Bool) : Int := if x.may = false then 51 else if hasRaw = false then 2 else if x.closed = true then 113 else 0
def SS.mark (x : SS) (e : Int) : SS := if e = 0 ∨ e = 52 then x else { x with bad := true }
def SS.deliver {S : Type} (D : RawD S) (x : SS) (s : S) : SS × Int × S :=
  (({ x with out := x.out.drop (putV D x.out (putF x.out) s 0 0).1 } : SS).mark (putV D x.out (putF x.out) s 0 0).2.1, (putV D x.out (putF x.out) s 0 0).2.1, (putV D x.out (putF x.out) s 0 0).2.2)
def SS.lay {S : Type} (D : RawD S) (x : SS) (s : S) (c : UInt8) : SS × Int × S :=
  if ((x.out.length + 1 : Nat) : Int) = x.size ∨ (x.mode = 2 ∧ c = 10) then ({ x with out := x.out ++ [c] } : SS).deliver D s else ({ x with out := x.out ++ [c] }, 0, s)
def SS.put1 {S : Type} (D : RawD S) (x : SS) (s : S) (c : UInt8) : SS × Int × S :=
  if x.mode = 1 then (x.mark (putV D [c] (putF [c]) s 0 0).2.1, (putV D [c] (putF [c]) s 0 0).2.1, (putV D [c] (putF [c]) s 0 0).2.2)
  else if (x.out.length : Int) = x.size then
    (if (x.deliver D s).2.1 = 0 then (x.deliver D s).1.lay D (x.deliver D s).2.2 c else x.deliver D s)
  else x.lay D s c
def SS.noWrite (x : SS) : Int := if x.refuse true ≠ 0 then x.refuse true else if x.wt = false then 65 else if x.dir = 1 ∧ ¬ (x.fin = true ∧ (x.inn.length : Int) + (x.back.length : Int) = 0) then 112 else 0
def SS.noRead (x : SS) : Int := if x.refuse true ≠ 0 then x.refuse true else if x.rd = false then 65 else if x.dir = 2 then 112 else 0
def SS.put {S : Type} (D : RawD S) (x : SS) (s : S) (c : UInt8) : SS × Int × S :=
  if x.noWrite = 0 then ({ x with dir := 2 } : SS).put1 D s c else (x, x.noWrite, s)
def SS.most (x : SS) : Nat := if x.mode = 1 then 1 else x.size.toNat
def SS.get1 {S : Type} (D : RawD S) (x : SS) (s : S) : SS × UInt8 × Int × S :=
  if 0 < x.back.length then ({ x with back := x.back.dropLast }, x.back.getD (x.back.length - 1) 0, 0, s)
  else if 0 < x.inn.length then ({ x with inn := x.inn.drop 1 }, x.inn.getD 0 0, 0, s)
  else if x.fin = true then (x, 0, 111, s)
  else if (someV D x.most 8192 s).2.1 ≠ 0 then (x.mark (someV D x.most 8192 s).2.1, 0, (someV D x.most 8192 s).2.1, (someV D x.most 8192 s).2.2)
  else if (someV D x.most 8192 s).1.length = 0 then ({ x with fin := true }, 0, 111, (someV D x.most 8192 s).2.2)
  else ({ x with inn := (someV D x.most 8192 s).1.drop 1 }, (someV D x.most 8192 s).1.getD 0 0, 0, (someV D x.most 8192 s).2.2)
def SS.get {S : Type} (D : RawD S) (x : SS) (s : S) : SS × UInt8 × Int × S :=
  if x.noRead = 0 then ({ x with dir := 1 } : SS).get1 D s else (x, 0, x.noRead, s)
def SS.flush {S : Type} (D : RawD S) (x : SS) (s : S) : SS × Int × S :=
  if x.refuse true ≠ 0 then (x, x.refuse true, s) else if x.dir = 2 then
    (if (x.deliver D s).2.1 = 0 then ({ (x.deliver D s).1 with dir := 0 }, 0, (x.deliver D s).2.2) else x.deliver D s)
  else (x, 0, s)
theorem may_buf {x : SS} (h : x.may = true) : 1 ≤ x.mode ∧ x.mode ≤ 3 ∧ 1 ≤ x.size ∧ x.size ≤ 65536 ∧ (x.out.length : Int) ≤ x.size ∧ (x.mode = 1 → x.out = []) ∧ x.inn.length ≤ 65536 ∧ x.back.length ≤ 8 := by
  unfold SS.may SS.buf at h
  simp only [Bool.and_eq_true, decide_eq_true_eq] at h
  obtain ⟨⟨⟨⟨⟨⟨h1, h2⟩, h3, h4⟩, h5⟩, h6⟩, h7⟩, -⟩ := h
  refine ⟨h1, h2, h3, h4, ?_, fun e => ?_, by omega, by omega⟩
  · split at h5 <;> omega
  · rw [if_pos e] at h5
    exact List.length_eq_zero_iff.1 (by omega)
theorem refuse_may {x : SS} {b : Bool} (h : x.refuse b = 0) : x.may = true ∧ b = true ∧ x.closed = false := by
  unfold SS.refuse at h
  split at h
  · omega
  split at h
  · omega
  split at h
  · omega
  rename_i h1 h2 h3
  exact ⟨by simpa using h1, by simpa using h2, by simpa using h3⟩
theorem noWrite_may {x : SS} (h : x.noWrite = 0) : x.refuse true = 0 ∧ x.wt = true := by
  unfold SS.noWrite at h
  split at h
  · contradiction
  split at h
  · omega
  rename_i h1 h2
  exact ⟨by simpa using h1, by simpa using h2⟩
theorem noRead_may {x : SS} (h : x.noRead = 0) : x.refuse true = 0 ∧ x.rd = true ∧ x.dir ≠ 2 := by
  unfold SS.noRead at h
  split at h
  · contradiction
  split at h
  · omega
  split at h
  · omega
  rename_i h1 h2 h3
  exact ⟨by simpa using h1, by simpa using h2, h3⟩
theorem putV_le {S : Type} (D : RawD S) (bs : List UInt8) : ∀ k s d t, d ≤ bs.length → d ≤ (putV D bs k s d t).1 ∧ (putV D bs k s d t).1 ≤ bs.length
  | 0, s, d, t, h => ⟨Nat.le_refl _, h⟩
  | k + 1, s, d, t, h => by
    rw [putV_next D bs k s d t (m := (D.write s (bs.drop d)).1) (e := (D.write s (bs.drop d)).2.1) (s2 := (D.write s (bs.drop d)).2.2) rfl]
    split
    · split
      · split
        · exact ⟨Nat.le_refl _, h⟩
        · exact putV_le D bs k _ d _ h
      · split
        · exact ⟨Nat.le_refl _, h⟩
        · split
          · rename_i h1 h2 h3 h4
            have := putV_le D bs k (D.write s (bs.drop d)).2.2 (d + (D.write s (bs.drop d)).1.toNat) 0 (by omega)
            omega
          · exact ⟨Nat.le_refl _, h⟩
    · exact ⟨Nat.le_refl _, h⟩
theorem putV_ok {S : Type} (D : RawD S) (bs : List UInt8) (T : Nat) (hT : T = 8192) (k : Nat) : ∀ s d t, d ≤ bs.length → t < T → (bs.length - d) * T + (T - t) ≤ k → (putV D bs k s d t).2.1 = 0 → (putV D bs k s d t).1 = bs.length := by
  induction k with
  | zero => intro s d t h ht hk he; omega
  | succ k ih =>
    intro s d t h ht hk he
    rw [putV_next D bs k s d t (m := (D.write s (bs.drop d)).1) (e := (D.write s (bs.drop d)).2.1) (s2 := (D.write s (bs.drop d)).2.2) rfl] at he ⊢
    rw [← hT] at he ⊢
    split at he
    · rename_i h1
      rw [if_pos h1]
      split at he
      · rename_i h2
        rw [if_pos h2]
        split at he
        · simp at he
        · rename_i h3
          rw [if_neg h3]
          exact ih _ d (t + 1) h (by omega) (by omega) he
      · rename_i h2
        rw [if_neg h2]
        split at he
        · simp at he
        · rename_i h3
          rw [if_neg h3]
          split at he
          · rename_i h4
            rw [if_pos h4]
            obtain ⟨q, hq⟩ : ∃ q : Nat, (D.write s (bs.drop d)).1 = (q : Int) := ⟨(D.write s (bs.drop d)).1.toNat, by omega⟩
            rw [hq] at h2 h3 he ⊢
            refine ih _ _ 0 (by omega) (by omega) ?_ he
            have : bs.length - d = (bs.length - (d + (q : Int).toNat)) + q := by omega
            rw [this, Nat.add_mul] at hk
            have h5 : 1 * T ≤ q * T := Nat.mul_le_mul_right _ (by omega)
            omega
          · rename_i h4
            exact absurd he h4
    · rename_i h1
      rw [if_neg h1]
      show d = bs.length
      omega
theorem putV_all {S : Type} (D : RawD S) (bs : List UInt8) (s : S) (h : (putV D bs (putF bs) s 0 0).2.1 = 0) : (putV D bs (putF bs) s 0 0).1 = bs.length := putV_ok D bs 8192 rfl _ s 0 0 (Nat.zero_le _) (by omega) (by unfold putF; omega) h
theorem putV_fits {S : Type} (D : RawD S) (bs : List UInt8) (s : S) : (putV D bs (putF bs) s 0 0).1 ≤ bs.length := (putV_le D bs _ s 0 0 (Nat.zero_le _)).2
structure Bears {S : Type} (D : RawD S) (rok wok : S → Prop) (G : Nat → S → Prop) : Prop where
  put : ∀ n s bs, G (n + 1) s → bs.length ≤ 65536 → putOk D wok bs (putF bs) s 0 0 ∧ G n (putV D bs (putF bs) s 0 0).2.2
  some : ∀ n s m, G (n + 1) s → 1 ≤ m → m ≤ 65536 → someOk D rok m 8192 s ∧ G n (someV D m 8192 s).2.2
  less : ∀ n s, G (n + 1) s → G n s
structure BearsW {S : Type} (D : RawD S) (wok : S → Prop) (G : Nat → S → Prop) : Prop where
  put : ∀ n s bs, G (n + 1) s → bs.length ≤ 65536 → putOk D wok bs (putF bs) s 0 0 ∧ G n (putV D bs (putF bs) s 0 0).2.2
  less : ∀ n s, G (n + 1) s → G n s
theorem Bears.w {S : Type} {D : RawD S} {rok wok : S → Prop} {G : Nat → S → Prop} (h : Bears D rok wok G) : BearsW D wok G := ⟨h.put, h.less⟩
theorem deliver_ok {S : Type} (D : RawD S) (x : SS) (s : S) (h : (x.deliver D s).2.1 = 0) : (x.deliver D s).1 = { x with out := [] } := by
  have h2 : (putV D x.out (putF x.out) s 0 0).2.1 = 0 := h
  have e := putV_all D x.out s h2
  unfold SS.deliver SS.mark
  rw [if_pos (.inl h2), e, List.drop_length]
end Go.Proofs.YtkkommomefmpgaaGreat

/- Streams: what follows a call may be too; how many calls of retry it takes. -/
namespace Go.Proofs.YtkkommomefmpgaaGreat
open Go.RowKit

theorem may_iff (x : SS) : x.may = true ↔ 1 ≤ x.mode ∧ x.mode ≤ 3 ∧ 1 ≤ x.size ∧ x.size ≤ 65536 ∧ (x.out.length : Int) ≤ x.size ∧ (x.mode = 1 → x.out.length = 0) ∧ x.inn.length ≤ 65536 ∧ x.back.length ≤ 8 ∧
    ((x.dir = 0 ∧ x.out.length = 0 ∧ x.inn.length + x.back.length = 0) ∨ (x.dir = 1 ∧ x.rd = true ∧ x.out.length = 0 ∧ x.closed = false) ∨ (x.dir = 2 ∧ x.wt = true ∧ x.inn.length + x.back.length = 0 ∧ x.closed = false)) := by
  unfold SS.may SS.buf SS.way SS.toR SS.toW
  simp only [Bool.and_eq_true, decide_eq_true_eq]
  constructor
  · rintro ⟨⟨⟨⟨⟨⟨h1, h2⟩, h3, h4⟩, h5⟩, h6⟩, h7⟩, h8⟩
    have h9 : (x.out.length : Int) ≤ x.size ∧ (x.mode = 1 → x.out.length = 0) := by split at h5 <;> (refine ⟨by omega, fun _ => by omega⟩)
    refine ⟨h1, h2, h3, h4, h9.1, h9.2, by omega, by omega, ?_⟩
    split at h8
    · simp at h8; exact .inl ⟨by assumption, by rw [h8.2]; rfl, by omega⟩
    split at h8
    · simp at h8; exact .inr (.inl ⟨by assumption, h8.1.1, by rw [h8.1.2]; rfl, h8.2⟩)
    split at h8
    · simp at h8; exact .inr (.inr ⟨by assumption, h8.1.1, by omega, h8.2⟩)
    · simp at h8
  · rintro ⟨h1, h2, h3, h4, h5, h6, h7, h8, h9⟩
    refine ⟨⟨⟨⟨⟨⟨h1, h2⟩, h3, h4⟩, ?_⟩, by omega⟩, by omega⟩, ?_⟩
    · split
      · have := h6 (by assumption); omega
      · exact h5
    · rcases h9 with ⟨e, e1, e2⟩ | ⟨e, e1, e2, e3⟩ | ⟨e, e1, e2, e3⟩
      · rw [if_pos e]; simp; exact ⟨by omega, List.length_eq_zero_iff.1 e1⟩
      · rw [if_neg (by omega), if_pos e, e1, e3]; simp; exact List.length_eq_zero_iff.1 e2
      · rw [if_neg (by omega), if_neg (by omega), if_pos e, e1, e3]; simp; omega
theorem wr_may {x : SS} (h : x.noWrite = 0) : ({ x with dir := 2 } : SS).may = true ∧ x.closed = false := by
  obtain ⟨n1, n2⟩ := noWrite_may h
  obtain ⟨m1, -, m3⟩ := refuse_may n1
  obtain ⟨h1, h2, h3, h4, h5, h6, h7, h8, h9⟩ := (may_iff x).1 m1
  refine ⟨(may_iff _).2 ⟨h1, h2, h3, h4, h5, h6, h7, h8, .inr (.inr ⟨rfl, n2, ?_, m3⟩)⟩, m3⟩
  show x.inn.length + x.back.length = 0
  unfold SS.noWrite at h
  rw [if_neg (by simp [n1]), if_neg (by simp [n2])] at h
  by_cases hd : x.dir = 1 ∧ ¬ (x.fin = true ∧ (x.inn.length : Int) + (x.back.length : Int) = 0)
  · rw [if_pos hd] at h; omega
  rcases h9 with ⟨e1, e2, e3⟩ | ⟨e1, e2, e3, e4⟩ | ⟨e1, e2, e3, e4⟩
  · exact e3
  · by_cases he : x.fin = true ∧ (x.inn.length : Int) + (x.back.length : Int) = 0
    · have := he.2; omega
    · exact absurd ⟨e1, he⟩ hd
  · exact e3
theorem put_bear {S : Type} {D : RawD S} {rok wok : S → Prop} {G : Nat → S → Prop} (hG : Bears D rok wok G) {n : Nat} {s : S} (x : SS) (c : UInt8) (h : G (n + 2) s) : G n (x.put D s c).2.2 := by
  have hn := hG.less _ _ (hG.less _ _ h)
  unfold SS.put
  split
  case isFalse => exact hn
  case isTrue hw =>
    have hy := (wr_may hw).1
    generalize ({ x with dir := 2 } : SS) = y at *
    obtain ⟨h1, h2, h3, h4, h5, h6, h7, h8, h9⟩ := (may_iff y).1 hy
    have hlay : ∀ (z : SS) s', (z.out.length : Int) + 1 ≤ 65536 → G (n + 1) s' → G n (z.lay D s' c).2.2 := by
      intro z s' hz h'
      unfold SS.lay
      split
      · exact (hG.put n s' (z.out ++ [c]) h' (by simp only [List.length_append, List.length_singleton]; omega)).2
      · exact hG.less _ _ h'
    unfold SS.put1
    split
    · exact hG.less _ _ (hG.put (n + 1) s [c] h (by simp)).2
    rename_i hm
    split
    · rename_i hf
      have hd := (hG.put (n + 1) s y.out h (by omega)).2
      split
      · rename_i h0
        have e := deliver_ok D y s h0
        exact hlay _ _ (by rw [e]; simp) hd
      · exact hG.less _ _ hd
    · exact hlay y s (by omega) (hG.less _ _ h)
end Go.Proofs.YtkkommomefmpgaaGreat

/- Two objects in memory that share nothing. -/
namespace Go.Proofs.YtkkommomefmpgaaGreat
open Go.RowKit

structure OAt (A : World → (Nat → Prop) → Prop) : Prop where
  keep : ∀ {w w' : World} {O : Nat → Prop}, A w O → (∀ j, O j → j < w.heap.size → w'.heap[j]? = w.heap[j]?) → w.heap.size ≤ w'.heap.size → A w' O
  trim : ∀ {w : World} {O : Nat → Prop}, A w O → A w (fun k => O k ∧ k < w.heap.size)
def OStep (A : World → (Nat → Prop) → Prop) (w : World) (O : Nat → Prop) (w' : World) : Prop := ∃ O', A w' O' ∧ (∀ k, O' k → O k ∨ w.heap.size ≤ k) ∧ Turned O w w'
def Both (A B : World → (Nat → Prop) → Prop) (w : World) (Q : Nat → Prop) : Prop := ∃ O P, A w O ∧ B w P ∧ (∀ j, O j → Q j ∧ j < w.heap.size ∧ ¬ P j) ∧ ∀ j, P j → Q j ∧ j < w.heap.size
theorem Both.below {A B : World → (Nat → Prop) → Prop} {w w' : World} {Q : Nat → Prop} (h : Both A B w Q) (hA : OAt A) (hB : OAt B) (hb : Below w.heap.size w w') : Both A B w' (fun j => Q j ∧ (j < w.heap.size ∨ w'.heap.size ≤ j)) := by
  obtain ⟨O, P, h1, h2, h3, h4⟩ := h
  have hz := hb.size
  exact ⟨O, P, hA.keep h1 (fun j _ hl => hb.block j hl) hz, hB.keep h2 (fun j _ hl => hb.block j hl) hz, fun j e => ⟨⟨(h3 j e).1, .inl (h3 j e).2.1⟩, Nat.lt_of_lt_of_le (h3 j e).2.1 hz, (h3 j e).2.2⟩, fun j e => ⟨⟨(h4 j e).1, .inl (h4 j e).2⟩, Nat.lt_of_lt_of_le (h4 j e).2 hz⟩⟩
theorem Both.mono {A B : World → (Nat → Prop) → Prop} {w : World} {Q Q' : Nat → Prop} (h : Both A B w Q) (hq : ∀ j, Q j → Q' j) : Both A B w Q' := by
  obtain ⟨O, P, h1, h2, h3, h4⟩ := h
  exact ⟨O, P, h1, h2, fun j e => ⟨hq j (h3 j e).1, (h3 j e).2⟩, fun j e => ⟨hq j (h4 j e).1, (h4 j e).2⟩⟩
theorem Both.swap {A B : World → (Nat → Prop) → Prop} {w : World} {Q : Nat → Prop} (h : Both A B w Q) : Both B A w Q := by
  obtain ⟨O, P, h1, h2, h3, h4⟩ := h
  exact ⟨P, O, h2, h1, fun j e => ⟨(h4 j e).1, (h4 j e).2, fun e' => (h3 j e').2.2 e⟩, fun j e => ⟨(h3 j e).1, (h3 j e).2.1⟩⟩
theorem Both.one {A B : World → (Nat → Prop) → Prop} {w : World} {Q : Nat → Prop} (h : Both A B w Q) (hB : OAt B) :
    ∃ O, A w O ∧ (∀ j, O j → Q j ∧ j < w.heap.size) ∧ (∀ A' w1 w', Below w.heap.size w w1 → OAt A' → OStep A' w1 O w' → Both A' B w' (fun j => Q j ∨ w1.heap.size ≤ j) ∧ Turned Q w w') ∧
      ∀ A' w', A' w' O → Turned O w w' → Both A' B w' (fun j => Q j ∧ (j < w.heap.size ∨ w'.heap.size ≤ j)) ∧ Turned Q w w' := by
  obtain ⟨O, P, h1, h2, h3, h4⟩ := h
  refine ⟨O, h1, fun j e => ⟨(h3 j e).1, (h3 j e).2.1⟩, fun A' w1 w' hb1 hA' hS => ?_, fun A' w' hA' hT => ?_⟩
  · obtain ⟨O', a1, a2, a3⟩ := hS
    have hz := a3.size
    have hz1 := hb1.size
    refine ⟨⟨fun k => O' k ∧ k < w'.heap.size, P, hA'.trim a1, hB.keep h2 (fun j e hl => (a3.block j (Nat.lt_of_lt_of_le hl hz1) (fun e' => (h3 j e').2.2 e)).trans (hb1.block j hl)) (Nat.le_trans hz1 hz), fun j e => ⟨?_, e.2, fun e' => ?_⟩, fun j e => ⟨.inl (h4 j e).1, Nat.lt_of_lt_of_le (h4 j e).2 (Nat.le_trans hz1 hz)⟩⟩, (Turned.of_below hb1).trans (a3.mono fun k e => (h3 k e).1) (fun _ _ e => e)⟩
    · rcases a2 j e.1 with e1 | e1
      · exact .inl (h3 j e1).1
      · exact .inr e1
    · rcases a2 j e.1 with e1 | e1
      · exact (h3 j e1).2.2 e'
      · have := (h4 j e').2; omega
  · have hz := hT.size
    exact ⟨⟨O, P, hA', hB.keep h2 (fun j e hl => hT.block j hl (fun e' => (h3 j e').2.2 e)) hz, fun j e => ⟨⟨(h3 j e).1, .inl (h3 j e).2.1⟩, Nat.lt_of_lt_of_le (h3 j e).2.1 hz, (h3 j e).2.2⟩, fun j e => ⟨⟨(h4 j e).1, .inl (h4 j e).2⟩, Nat.lt_of_lt_of_le (h4 j e).2 hz⟩⟩, hT.mono fun k e => (h3 k e).1⟩
theorem Both.two {A B : World → (Nat → Prop) → Prop} {w : World} {Q : Nat → Prop} (h : Both A B w Q) (hA : OAt A) :
    ∃ P, B w P ∧ (∀ j, P j → Q j ∧ j < w.heap.size) ∧ (∀ B' w1 w', Below w.heap.size w w1 → OAt B' → OStep B' w1 P w' → Both A B' w' (fun j => Q j ∨ w1.heap.size ≤ j) ∧ Turned Q w w') ∧
      ∀ B' w', B' w' P → Turned P w w' → Both A B' w' (fun j => Q j ∧ (j < w.heap.size ∨ w'.heap.size ≤ j)) ∧ Turned Q w w' := by
  obtain ⟨P, h1, h2, h3, h4⟩ := h.swap.one hA
  exact ⟨P, h1, h2, fun B' w1 w' hb hB' hS => by obtain ⟨a, b⟩ := h3 B' w1 w' hb hB' hS; exact ⟨a.swap, b⟩, fun B' w' hB' hT => by obtain ⟨a, b⟩ := h4 B' w' hB' hT; exact ⟨a.swap, b⟩⟩
theorem Both.make {A B : World → (Nat → Prop) → Prop} {w w' : World} {O Q : Nat → Prop} (hA : OAt A) (hB : OAt B) (h1 : A w O) (hO : ∀ j, O j → j < w.heap.size → Q j) (hQ : ∀ j, w.heap.size ≤ j → j < w'.heap.size → Q j) (hb : Below w.heap.size w w') (h2 : B w' (fun k => w.heap.size ≤ k)) : Both A B w' Q := by
  have hz := hb.size
  exact ⟨fun k => O k ∧ k < w.heap.size, fun k => w.heap.size ≤ k ∧ k < w'.heap.size, hA.keep (hA.trim h1) (fun j _ hl => hb.block j hl) hz, hB.trim h2, fun j e => ⟨hO j e.1 e.2, by have := e.2; omega, fun e' => by have := e.2; have := e'.1; omega⟩, fun j e => ⟨hQ j e.1 e.2, e.2⟩⟩
end Go.Proofs.YtkkommomefmpgaaGreat

/- Position: Tell, Seek and Rewind, as values, over any Raw that is one. -/
namespace Go.Proofs.YtkkommomefmpgaaGreat
open Go.RowKit

abbrev SkV (S : Type) := S → Int → Int → Int × Int × S
def SS.hold (x : SS) : Int := (x.inn.length : Int) + (x.back.length : Int)
def SS.bare (x : SS) : SS := ⟨x.rd, x.wt, x.mode, x.size, [], [], [], 0, false, x.bad, x.closed⟩
def SS.told {S : Type} (K : SkV S) (x : SS) (s : S) : SS × Int × Int × S :=
  if (K s 0 1).2.1 ≠ 0 then (x, 0, (K s 0 1).2.1, (K s 0 1).2.2)
  else if (K s 0 1).1 < x.hold then (x, 0, 4, (K s 0 1).2.2)
  else (x, (K s 0 1).1 - x.hold, 0, (K s 0 1).2.2)
def SS.tell {S : Type} (D : RawD S) (K : SkV S) (x : SS) (s : S) : SS × Int × Int × S :=
  if x.refuse true ≠ 0 then (x, 0, x.refuse true, s)
  else if (x.deliver D s).2.1 ≠ 0 then ((x.deliver D s).1, 0, (x.deliver D s).2.1, (x.deliver D s).2.2)
  else (x.deliver D s).1.told K (x.deliver D s).2.2
def movedV {S : Type} (K : SkV S) (s : S) (n off wh : Int) : Int × Int × S :=
  if wh ≠ 1 then K s off wh
  else if (K s 0 1).2.1 ≠ 0 then (0, (K s 0 1).2.1, (K s 0 1).2.2)
  else if 0 ≤ (K s 0 1).1 - n + off ∧ (K s 0 1).1 - n + off ≤ 1048576 then K (K s 0 1).2.2 ((K s 0 1).1 - n + off) 0
  else (0, 4, (K s 0 1).2.2)
def SS.sought {S : Type} (K : SkV S) (x : SS) (s : S) (off wh : Int) : SS × Int × Int × S :=
  if (movedV K s x.hold off wh).2.1 ≠ 0 then (x, 0, (movedV K s x.hold off wh).2.1, (movedV K s x.hold off wh).2.2)
  else (x.bare, (movedV K s x.hold off wh).1, 0, (movedV K s x.hold off wh).2.2)
def SS.seek {S : Type} (D : RawD S) (K : SkV S) (x : SS) (s : S) (off wh : Int) : SS × Int × Int × S :=
  if x.refuse true ≠ 0 then (x, 0, x.refuse true, s)
  else if wh < 0 ∨ 2 < wh then (x, 0, 1, s)
  else if (x.deliver D s).2.1 ≠ 0 then ((x.deliver D s).1, 0, (x.deliver D s).2.1, (x.deliver D s).2.2)
  else (x.deliver D s).1.sought K (x.deliver D s).2.2 off wh
theorem flush_deliver {S : Type} (D : RawD S) {x : SS} (s : S) (h : x.refuse true = 0) : (SS.mk (x.flush D s).1.rd (x.flush D s).1.wt (x.flush D s).1.mode (x.flush D s).1.size (x.flush D s).1.out (x.flush D s).1.inn (x.flush D s).1.back x.dir (x.flush D s).1.fin (x.flush D s).1.bad (x.flush D s).1.closed, (x.flush D s).2.1, (x.flush D s).2.2) = x.deliver D s := by
  obtain ⟨hm, -, hc⟩ := refuse_may h
  unfold SS.flush
  rw [if_neg (by simp [h])]
  have hdir : (x.deliver D s).1.dir = x.dir := by unfold SS.deliver SS.mark; split <;> rfl
  split
  · split
    · rename_i h1 h2
      have e := deliver_ok D x s h2
      have e2 : x.deliver D s = ((x.deliver D s).1, (x.deliver D s).2.1, (x.deliver D s).2.2) := rfl
      rw [e2, h2, e]
    · rw [← hdir]
  · rename_i h1
    have ho : x.out = [] := by
      obtain ⟨-, -, -, -, -, -, -, -, h9⟩ := (may_iff x).1 hm
      rcases h9 with ⟨e1, e2, e3⟩ | ⟨e1, e2, e3, e4⟩ | ⟨e1, e2, e3, e4⟩
      · exact List.length_eq_zero_iff.1 e2
      · exact List.length_eq_zero_iff.1 e3
      · exact absurd e1 h1
    unfold SS.deliver
    rw [ho, putV_done _ _ _ _ _ _ (by simp)]
    unfold SS.mark
    simp [← ho]
structure RawS {S : Type} (K : SkV S) (T : TypeId) (v : Value) (fs : FuncId) (sok : S → Prop) (At : World → (Nat → Prop) → S → Prop) : Prop where
  mseek : ∀ w, (method 485 T v "Seek").run Tryz.prog w = .ok (fs, v) w
  cseek : ∀ a w, (callFunc fs a).run Tryz.prog w = .ok (.enter fs a) w
  seek : ∀ {w : World} {O : Nat → Prop} {s : S} (o wh : Int), At w O s → sok s → -9223372036854775808 ≤ o ∧ o ≤ 9223372036854775807 → Calls Tryz.prog fs #[v, .int .i64 o, .int .i64 wh] w fun e w' => e = .returned (.tuple #[.int .i64 (K s o wh).1, .int .i64 (K s o wh).2.1]) ∧ OStep (fun w O => At w O (K s o wh).2.2) w O w'
  told : ∀ {w : World} {O : Nat → Prop} {s : S} (o wh : Int), At w O s → 0 ≤ (K s o wh).1 ∧ (K s o wh).1 ≤ 1048576
def BearsS {S : Type} (K : SkV S) (sok : S → Prop) (G : Nat → S → Prop) : Prop := ∀ n s o wh, G (n + 1) s → sok s ∧ G n (K s o wh).2.2
end Go.Proofs.YtkkommomefmpgaaGreat
