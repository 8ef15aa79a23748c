/- Streams: a byte is put. -/
import Derived.Test.YtbffnamdpmjfnaaStF
namespace Go.Proofs.Ytbffnamdpmjfnaa
open Go.RowKit

/-- What a call on a way leaves. -/
def WStep {S : Type} (At : World → (Nat → Prop) → S → Prop) (w : World) (O : Nat → Prop) (B g : Nat) (r : Value) (x : SS) (s : S) (w' : World) : Prop := ∃ o i b O', On At w' O' s B g x o i b r ∧ (∀ k, O' k → O k ∨ w.heap.size ≤ k) ∧ Turned (fun k => O k ∨ B ≤ k) w w'
theorem one_bys {W : World} {a : Nat} {c : UInt8} (hc : W.cell? ⟨a, 0, none⟩ = some (.int .u8 (c.toNat : Int))) : Bys W (.slice (some ⟨a, 0, none⟩) [c].length 1) [c] := by
  refine .inr (.inr ⟨a, 0, 1, rfl, by simp, fun j hj => ?_⟩)
  obtain rfl : j = 0 := by simp at hj; omega
  simpa using hc
set_option maxRecDepth 100000 in
set_option maxHeartbeats 4000000 in
theorem put_raw {S : Type} {D : RawD S} {T : TypeId} {v : Value} {fr fw : FuncId} {rok wok : S → Prop} {At : World → (Nat → Prop) → S → Prop} (R : RawM D T v fr fw rok wok At) (hT : ∀ s, OAt (fun w O => At w O s)) {w : World} {O : Nat → Prop} {s : S} {B g : Nat} {x : SS} {o i b : Value} (c : UInt8) (h : On At w O s B g x o i b (.iface T v)) (hm : x.mode = 1) (hok : putOk D wok [c] (putF [c]) s 0 0) :
    Calls Try.prog 22 #[.pointer (some ⟨g, 0, none⟩), .int .u8 (c.toNat : Int)] w fun en w' => en = .returned (.int .i64 (putV D [c] (putF [c]) s 0 0).2.1) ∧ WStep At w O B g (.iface T v) (x.mark (putV D [c] (putF [c]) s 0 0).2.1) (putV D [c] (putF [c]) s 0 0).2.2 w' := by
  have HP := hide (fun (W : World) (a : Nat) (hW : Below w.heap.size w W) (hc : W.cell? ⟨a, 0, none⟩ = some (.int .u8 (c.toNat : Int))) (ha : w.heap.size ≤ a) => rput_any R (w := W) (O := O) (s := s) [c] (some ⟨a, 0, none⟩) 1 (R.keep h.raw (fun j _ hj => hW.block j hj) hW.size) (fun j e => Nat.lt_of_lt_of_le (h.ol j e) hW.size) (one_bys hc) (by simp) (by simp) (fun _ k e e' => by
    have : a = k := by simpa [Value.ownBlock] using e
    have := h.ol k e'
    omega) hok)
  have HH := hide h
  generalize putV D [c] (putF [c]) s 0 0 = X at *
  obtain ⟨n, e, s2⟩ := X
  simp only at HP ⊢
  obtain ⟨c0, c1, c2, c3, c4, c5, c6, c7, c8, c9, c10, c11⟩ := h.way.cs
  rw [hm] at c2
  have HBa : Hid (Below w.heap.size w (w.alloc (Obj.cells #[.int .u8 (c.toNat : Int)] 5))) := hide (recv_below w _)
  clear h hok c0 c1 c3 c4 c5 c6 c7 c8 c9 c10
  go_enter Try.func22, Try.ntmps22
  go_wp2_with fail
  refine (HP.out _ w.heap.size HBa.out (cell_one_new _ _ _ 0 _ rfl) (Nat.le_refl _)).mono ?_
  rintro _ w1 ⟨rfl, hS⟩
  obtain ⟨O1, hO1, hO2, hO3⟩ := On.step hT (On.below hT HH.out HBa.out) hS
  have HO1 := hide hO1
  have HO2 : Hid (∀ k, O1 k → O k ∨ w.heap.size ≤ k) := hide (fun k e => (hO2 k e).imp id (fun e => Nat.le_trans HBa.out.size e))
  have HO3 := hide ((Turned.of_below (S := O) HBa.out).trans hO3 (fun _ _ e => e))
  clear hO1 hO2 hO3 hS HP
  go_wp2_with fail
  refine (marked_any _ g e _ i b _ _ HO1.out.way).mono ?_
  rintro _ w3 ⟨rfl, hW3, hT3⟩
  have HOn3 := hide (On.at hT HO1.out hW3 hT3 HO1.out.ls.mark)
  have HT3 := hide ((HO3.out.mono (fun k e => (.inl e : O k ∨ k = g))).trans hT3 (fun _ _ e => .inr e))
  clear hW3 hT3
  go_wp2
  go_ret
  exact ⟨rfl, _, _, _, O1, HOn3.out, HO2.out, HT3.out.mono fun k e => e.imp id (fun e => by have := HH.out.gB; omega)⟩
theorem Sl.empty {W W' : World} {v : Value} (h : Sl W v []) : Sl W' v [] := by
  obtain ⟨a, c, rfl, hb, hc⟩ := h
  cases a with
  | none =>
    rcases hb with ⟨h1, -⟩ | ⟨a, cap, h1, -⟩ | ⟨b, off, cap, h1, h2, -⟩
    · exact ⟨none, c, rfl, .inl ⟨h1, rfl⟩, hc⟩
    · cases h1
    · cases h1
  | some a => exact ⟨some a, c, rfl, .inr (.inl ⟨a, c, rfl, rfl⟩), hc⟩
/-- One byte more behind what was put. -/
theorem out_more {w : World} {O : Nat → Prop} {B g : Nat} {x : SS} {o i b : Value} (c : UInt8) (hl : SIn w (fun k => B ≤ k ∧ ¬ O k ∧ k ≠ g ∧ k < w.heap.size) x o i b) (ho : w.ownsRow B 5 1 o x.out.length (x.out.map bv)) (hn : x.out.length ≤ 65536) (hB : B ≤ w.heap.size) (hO : ∀ j, O j → j < w.heap.size) (hg : g < w.heap.size)
    (hi : x.inn = []) (hb : x.back = []) :
    ∃ a k w2, (Builtin.append_ #[28, 28] 28 #[o, .slice (some ⟨w.heap.size, 0, none⟩) 1 1]).run Try.prog (w.alloc (Obj.cells #[.int .u8 (c.toNat : Int)] 5)) = .ok (.slice a (x.out ++ [c]).length k) w2 ∧
      SIn w2 (fun k => B ≤ k ∧ ¬ O k ∧ k ≠ g ∧ k < w2.heap.size) { x with out := x.out ++ [c] } (.slice a (x.out ++ [c]).length k) i b ∧ Turned (fun k => B ≤ k ∧ ¬ O k ∧ k ≠ g) w w2 := by
  have hBa := recv_below w (Obj.cells #[.int .u8 (c.toNat : Int)] 5)
  have hz : (w.alloc (Obj.cells #[.int .u8 (c.toNat : Int)] 5)).heap.size = w.heap.size + 1 := Array.size_push ..
  obtain ⟨s', w2, hrun, HO, hgr, hbl⟩ := run_append_bytes (w.alloc (Obj.cells #[.int .u8 (c.toNat : Int)] 5)) 28 B o (.slice (some ⟨w.heap.size, 0, none⟩) 1 1) x.out [c] (owns_below ho hBa) (one_bys (cell_one_new _ _ _ 0 _ rfl)) (by simp; omega) (by omega)
  obtain ⟨a, k, rfl⟩ := owns_slice HO.out
  have hz2 := hgr.size
  have hTu : Turned (fun k => o.ownBlock = some k) w w2 := (Turned.of_below hBa).grown hgr (fun k e => .inl e)
  refine ⟨a, k, w2, hrun, ⟨Sl.own HO.out, by rw [hi]; exact (hi ▸ hl.si).empty, by rw [hb]; exact (hb ▸ hl.sb).empty, fun k e => ?_, fun k e => ?_, fun k e => ?_⟩, hTu.mono fun k e => ⟨(hl.po k e).1, (hl.po k e).2.1, (hl.po k e).2.2.1⟩⟩
  · rcases hbl with e' | e'
    · have := hl.po k (by rw [← e', e])
      exact ⟨this.1, this.2.1, this.2.2.1, by omega⟩
    · rw [e'] at e
      obtain rfl := Option.some.inj e
      rw [hz]
      exact ⟨by omega, fun e2 => by have := hO _ e2; omega, by omega, by have := (HO.out.lt _ e').2; omega⟩
  · have := hl.pi k e
    exact ⟨this.1, this.2.1, this.2.2.1, by omega⟩
  · have := hl.pb k e
    exact ⟨this.1, this.2.1, this.2.2.1, by omega⟩
end Go.Proofs.Ytbffnamdpmjfnaa
