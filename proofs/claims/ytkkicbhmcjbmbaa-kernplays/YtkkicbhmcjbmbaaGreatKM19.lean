/- What the proof stands on, part 19: the contracts of the program's calls that it reaches. -/
import Derived.Test.YtkkicbhmcjbmbaaGreatKM18
/- Calls of a kernel that no New made: nil, or an empty one. -/
namespace Go.Proofs.YtkkicbhmcjbmbaaGreat
open Go.RowKit Go.Maps

/-- No New made it. -/
def Unmade (p : Option Addr) (w : World) : Prop := p = none ∨ ∃ g, p = some ⟨g, 0, none⟩ ∧ w.cell? ⟨g, 0, none⟩ = some (.bool false)
theorem Unmade.below {p : Option Addr} {w w' : World} (h : Unmade p w) (hB : Below w.heap.size w w') : Unmade p w' := by
  rcases h with h | ⟨g, h1, h2⟩
  · exact .inl h
  · exact .inr ⟨g, h1, (hB.cell (p := ⟨g, 0, none⟩) (World.block_lt_of_cell? w _ h2)).trans h2⟩
set_option maxRecDepth 100000 in
theorem made_no (p : Option Addr) (w : World) (h : Unmade p w) : Calls Tryz.prog 108 #[.pointer p] w fun e w' => e = .returned (.bool false) ∧ w = w' := by
  rcases h with rfl | ⟨g, rfl, hc⟩
  · exact (kmade_nil w).mono fun _ _ ⟨a, b⟩ => ⟨a, b.symm⟩
  · go_enter Tryz.func108, Tryz.ntmps108
    go_wp2
    go_ret
    exact ⟨rfl, rfl⟩
set_option maxRecDepth 100000 in
theorem described_no (p : Option Addr) (d : Int) (w : World) (h : Unmade p w) : Calls Tryz.prog 134 #[.pointer p, .int .i64 d] w fun e w' => e = .returned (.tuple #[.pointer none, .int .i64 2]) ∧ w = w' := by
  have HM := hide (made_no p w h)
  go_enter Tryz.func134, Tryz.ntmps134
  go_wp2_with fail
  refine HM.out.mono ?_
  rintro e w1 ⟨rfl, rfl⟩
  go_wp2
  go_ret2
  exact ⟨rfl, rfl⟩
set_option maxRecDepth 100000 in
set_option maxHeartbeats 1000000 in
theorem open_no (p : Option Addr) (s : ByteArray) (f : Int) (w : World) (h : Unmade p w) : Calls Tryz.prog 29 #[.pointer p, .string s, .int .i64 f] w fun e w' => e = .returned (.tuple #[.int .i64 0, .int .i64 2]) ∧ w = w' := by
  have HM := hide (made_no p w h)
  clear h
  go_enter Tryz.func29, Tryz.ntmps29
  go_wp2_with fail
  refine HM.out.mono ?_
  rintro e w1 ⟨rfl, rfl⟩
  go_wp2
  go_ret2
  exact ⟨rfl, rfl⟩
set_option maxRecDepth 100000 in
set_option maxHeartbeats 1000000 in
theorem pipe_no (p : Option Addr) (w : World) (h : Unmade p w) : Calls Tryz.prog 27 #[.pointer p] w fun e w' => e = .returned (.tuple #[.int .i64 0, .int .i64 0, .int .i64 2]) ∧ w = w' := by
  have HM := hide (made_no p w h)
  clear h
  go_enter Tryz.func27, Tryz.ntmps27
  go_wp2_with fail
  refine HM.out.mono ?_
  rintro e w1 ⟨rfl, rfl⟩
  go_wp2
  go_ret3
  exact ⟨rfl, rfl⟩
set_option maxRecDepth 100000 in
set_option maxHeartbeats 1000000 in
theorem read_no (p : Option Addr) (d n : Int) (w : World) (h : Unmade p w) : Calls Tryz.prog 52 #[.pointer p, .int .i64 d, .int .i64 n] w fun e w' => e = .returned (.tuple #[.slice none 0 0, .int .i64 2]) ∧ w = w' := by
  have HM := hide (described_no p d w h)
  clear h
  go_enter Tryz.func52, Tryz.ntmps52
  go_wp2_with fail
  refine HM.out.mono ?_
  rintro e w1 ⟨rfl, rfl⟩
  go_wp2
  go_ret2
  exact ⟨rfl, rfl⟩
set_option maxRecDepth 100000 in
set_option maxHeartbeats 1000000 in
theorem write_no (p : Option Addr) (d : Int) (a : Option Addr) (n c : Nat) (w : World) (h : Unmade p w) : Calls Tryz.prog 55 #[.pointer p, .int .i64 d, .slice a n c] w fun e w' => e = .returned (.tuple #[.int .i64 0, .int .i64 2]) ∧ w = w' := by
  have HM := hide (described_no p d w h)
  clear h
  go_enter Tryz.func55, Tryz.ntmps55
  go_wp2_with fail
  refine HM.out.mono ?_
  rintro e w1 ⟨rfl, rfl⟩
  go_wp2
  go_ret2
  exact ⟨rfl, rfl⟩
set_option maxRecDepth 100000 in
set_option maxHeartbeats 1000000 in
theorem seek_no (p : Option Addr) (d o i : Int) (w : World) (h : Unmade p w) : Calls Tryz.prog 58 #[.pointer p, .int .i64 d, .int .i64 o, .int .i64 i] w fun e w' => e = .returned (.tuple #[.int .i64 0, .int .i64 2]) ∧ w = w' := by
  have HM := hide (described_no p d w h)
  clear h
  go_enter Tryz.func58, Tryz.ntmps58
  go_wp2_with fail
  refine HM.out.mono ?_
  rintro e w1 ⟨rfl, rfl⟩
  go_wp2
  go_ret2
  exact ⟨rfl, rfl⟩
set_option maxRecDepth 100000 in
set_option maxHeartbeats 1000000 in
theorem keep_no (p : Option Addr) (d : Int) (w : World) (h : Unmade p w) : Calls Tryz.prog 60 #[.pointer p, .int .i64 d] w fun e w' => e = .returned (.int .i64 2) ∧ w = w' := by
  have HM := hide (described_no p d w h)
  clear h
  go_enter Tryz.func60, Tryz.ntmps60
  go_wp2_with fail
  refine HM.out.mono ?_
  rintro e w1 ⟨rfl, rfl⟩
  go_wp2
  go_ret
  exact ⟨rfl, rfl⟩
set_option maxRecDepth 100000 in
set_option maxHeartbeats 1000000 in
theorem drop_no (p : Option Addr) (d : Int) (w : World) (h : Unmade p w) : Calls Tryz.prog 62 #[.pointer p, .int .i64 d] w fun e w' => e = .returned (.int .i64 2) ∧ w = w' := by
  have HM := hide (described_no p d w h)
  clear h
  go_enter Tryz.func62, Tryz.ntmps62
  go_wp2_with fail
  refine HM.out.mono ?_
  rintro e w1 ⟨rfl, rfl⟩
  go_wp2
  go_ret
  exact ⟨rfl, rfl⟩
set_option maxRecDepth 100000 in
set_option maxHeartbeats 1000000 in
theorem canRead_no (p : Option Addr) (d : Int) (w : World) (h : Unmade p w) : Calls Tryz.prog 74 #[.pointer p, .int .i64 d] w fun e w' => e = .returned (.bool false) ∧ w = w' := by
  have HM := hide (described_no p d w h)
  clear h
  go_enter Tryz.func74, Tryz.ntmps74
  go_wp2_with fail
  refine HM.out.mono ?_
  rintro e w1 ⟨rfl, rfl⟩
  go_wp2
  go_ret
  exact ⟨rfl, rfl⟩
set_option maxRecDepth 100000 in
set_option maxHeartbeats 1000000 in
theorem canWrite_no (p : Option Addr) (d n : Int) (w : World) (h : Unmade p w) : Calls Tryz.prog 76 #[.pointer p, .int .i64 d, .int .i64 n] w fun e w' => e = .returned (.bool false) ∧ w = w' := by
  have HM := hide (described_no p d w h)
  clear h
  go_enter Tryz.func76, Tryz.ntmps76
  go_wp2_with fail
  refine HM.out.mono ?_
  rintro e w1 ⟨rfl, rfl⟩
  go_wp2
  go_ret
  exact ⟨rfl, rfl⟩
set_option maxRecDepth 100000 in
set_option maxHeartbeats 1000000 in
theorem kind_no (p : Option Addr) (d : Int) (w : World) (h : Unmade p w) : Calls Tryz.prog 72 #[.pointer p, .int .i64 d] w fun e w' => e = .returned (.int .i64 0) ∧ w = w' := by
  have HM := hide (described_no p d w h)
  clear h
  go_enter Tryz.func72, Tryz.ntmps72
  go_wp2_with fail
  refine HM.out.mono ?_
  rintro e w1 ⟨rfl, rfl⟩
  go_wp2
  go_ret
  exact ⟨rfl, rfl⟩
set_option maxRecDepth 100000 in
set_option maxHeartbeats 1000000 in
theorem calls_no (p : Option Addr) (w : World) (h : Unmade p w) : Calls Tryz.prog 64 #[.pointer p] w fun e w' => e = .returned (.tuple #[.int .i64 0, .int .i64 0]) ∧ w = w' := by
  have HM := hide (made_no p w h)
  clear h
  go_enter Tryz.func64, Tryz.ntmps64
  go_wp2_with fail
  refine HM.out.mono ?_
  rintro e w1 ⟨rfl, rfl⟩
  go_wp2
  go_ret2
  exact ⟨rfl, rfl⟩
set_option maxRecDepth 100000 in
set_option maxHeartbeats 1000000 in
theorem rest_no (p : Option Addr) (w : World) (h : Unmade p w) : Calls Tryz.prog 69 #[.pointer p] w fun e w' => e = .returned (.slice none 0 0) ∧ w = w' := by
  have HM := hide (made_no p w h)
  clear h
  go_enter Tryz.func69, Tryz.ntmps69
  go_wp2_with fail
  refine HM.out.mono ?_
  rintro e w1 ⟨rfl, rfl⟩
  go_wp2
  go_ret
  exact ⟨rfl, rfl⟩
set_option maxRecDepth 100000 in
set_option maxHeartbeats 1000000 in
theorem files_no (p : Option Addr) (w : World) (h : Unmade p w) : Calls Tryz.prog 66 #[.pointer p] w fun e w' => e = .returned (.slice none 0 0) ∧ w = w' := by
  have HM := hide (made_no p w h)
  clear h
  go_enter Tryz.func66, Tryz.ntmps66
  go_wp2_with fail
  refine HM.out.mono ?_
  rintro e w1 ⟨rfl, rfl⟩
  go_wp2
  go_ret
  exact ⟨rfl, rfl⟩
set_option maxRecDepth 100000 in
set_option maxHeartbeats 1000000 in
theorem held_no (p : Option Addr) (d : Int) (w : World) (h : Unmade p w) : Calls Tryz.prog 78 #[.pointer p, .int .i64 d] w fun e w' => e = .returned (.slice none 0 0) ∧ w = w' := by
  have HM := hide (described_no p d w h)
  clear h
  go_enter Tryz.func78, Tryz.ntmps78
  go_wp2_with fail
  refine HM.out.mono ?_
  rintro e w1 ⟨rfl, rfl⟩
  go_wp2
  go_ret
  exact ⟨rfl, rfl⟩
set_option maxRecDepth 100000 in
set_option maxHeartbeats 1000000 in
theorem screen_no (p : Option Addr) (s : ByteArray) (w : World) (h : Unmade p w) : Calls Tryz.prog 71 #[.pointer p, .string s] w fun e w' => e = .returned (.tuple #[.slice none 0 0, .bool false]) ∧ w = w' := by
  have HM := hide (made_no p w h)
  clear h
  go_enter Tryz.func71, Tryz.ntmps71
  go_wp2_with fail
  refine HM.out.mono ?_
  rintro e w1 ⟨rfl, rfl⟩
  go_wp2
  go_ret2
  exact ⟨rfl, rfl⟩
set_option maxRecDepth 100000 in
theorem kcalls_any (ρ : Nat → Option PTag) (I : PI) (K : KS) (w : World) (h : PK w ρ I K) :
    Calls Tryz.prog 64 #[.pointer (some ⟨I.kb, 0, none⟩)] w fun e w' => e = .returned (.tuple #[.int .i64 K.reads, .int .i64 K.writes]) ∧ Below w.heap.size w w' := by
  have c6 := h.cells.reads
  have c7 := h.cells.writes
  have HM := hide (kmade_any I.kb w h.cells.made)
  clear h
  go_enter Tryz.func64, Tryz.ntmps64
  go_wp2_with fail
  refine HM.out.mono ?_
  rintro e w1 ⟨rfl, rfl⟩
  go_wp2_with fail
  go_quiet (fail)
  go_wp2
  go_ret2
  exact ⟨rfl, below_drewN (Below.refl _ _) _⟩
set_option maxRecDepth 100000 in
set_option maxHeartbeats 1000000 in
theorem kscreen_no (ρ : Nat → Option PTag) (I : PI) (K : KS) (s : ByteArray) (w : World) (h : PK w ρ I K) (hs : s.size ≤ maxLen) (hn : ∀ i ∈ K.nm, (K.obOf i).kind = 2 → K.nameOf i ≠ s) :
    Calls Tryz.prog 71 #[.pointer (some ⟨I.kb, 0, none⟩), .string s] w fun e w' => e = .returned (.tuple #[.slice none 0 0, .bool false]) ∧ w = w' := by
  have c2 := h.cells.terms
  have hl := miss_term h hs hn true
  simp only [if_true] at hl
  have HM := hide (kmade_any I.kb w h.cells.made)
  clear h
  go_enter Tryz.func71, Tryz.ntmps71
  go_wp2_with fail
  refine HM.out.mono ?_
  rintro e w1 ⟨rfl, rfl⟩
  go_wp2
  go_ret2
  exact ⟨rfl, rfl⟩
theorem tscreen_any (O : Nat → Prop) (p : Nat) (ls : List (List UInt8)) (scr : List UInt8) (w : World) (h : PObj w O p (.term ls scr)) :
    Calls Tryz.prog 157 #[.pointer (some ⟨p, 0, none⟩)] w fun e w' => ∃ v, e = .returned v ∧ w'.ownsRow w.heap.size 5 1 v scr.length (scr.map bv) ∧ Below w.heap.size w w' :=
  (po_tscreen O p ls scr w h).mono fun _ _ ⟨a, b, c⟩ => ⟨_, a, b, c⟩
set_option maxRecDepth 100000 in
set_option maxHeartbeats 1000000 in
theorem kscreen_yes (ρ : Nat → Option PTag) (I : PI) (K : KS) (s : ByteArray) (w : World) (h : PK w ρ I K) (hs : s.size ≤ maxLen) (i : Nat) (hi : i ∈ K.nm) (hn : K.nameOf i = s) (ls : List (List UInt8)) (scr : List UInt8) (ho : K.obOf i = .term ls scr) :
    Calls Tryz.prog 71 #[.pointer (some ⟨I.kb, 0, none⟩), .string s] w fun e w' => ∃ v, e = .returned (.tuple #[v, .bool true]) ∧ w'.ownsRow w.heap.size 5 1 v scr.length (scr.map bv) ∧ Below w.heap.size w w' := by
  have hith := h.ok.nm i hi
  have c2 := h.cells.terms
  have hl := look_term h hs hi hn (by rw [ho]; rfl) true
  simp only [if_true] at hl
  have hob := h.comp (.obj i) hith
  have hoe : K.th[i].ob = .term ls scr := by rw [← KS.obOf_eq hith, ho]
  rw [hoe] at hob
  have HS := hide (tscreen_any _ _ ls scr w hob)
  have hcb := (h.comp (.cons i) hith ls scr hoe).1
  have c0 : w.cell? ⟨I.cb i, 0, none⟩ = some (.pointer (some ⟨I.ob i, 0, none⟩)) := by rw [cell_of_row _ _ _ _ _ _ hcb]; rfl
  have HM := hide (kmade_any I.kb w h.cells.made)
  clear h hob hcb
  go_enter Tryz.func71, Tryz.ntmps71
  go_wp2_with fail
  refine HM.out.mono ?_
  rintro e w1 ⟨rfl, rfl⟩
  go_wp2_with fail
  refine HS.out.mono ?_
  rintro e w2 ⟨v, rfl, hO, hB⟩
  have HO := hide hO
  have HB := hide hB
  clear hO hB
  go_wp2
  go_ret2
  exact ⟨v, rfl, HO.out, HB.out⟩
theorem KAt.calls {w : World} {O : Nat → Prop} {kb : Nat} {K : KS} (h : KAt w O kb K) : Calls Tryz.prog 64 #[.pointer (some ⟨kb, 0, none⟩)] w fun e w' => e = .returned (.tuple #[.int .i64 K.reads, .int .i64 K.writes]) ∧ Below w.heap.size w w' := by
  obtain ⟨ρ, I, h1, rfl, h3⟩ := h
  exact kcalls_any ρ I K w h1
theorem KAt.screen {w : World} {O : Nat → Prop} {kb : Nat} {K : KS} (h : KAt w O kb K) (s : ByteArray) (hs : s.size ≤ maxLen) (i : Nat) (hi : i ∈ K.nm) (hn : K.nameOf i = s) (ls : List (List UInt8)) (scr : List UInt8) (ho : K.obOf i = .term ls scr) :
    Calls Tryz.prog 71 #[.pointer (some ⟨kb, 0, none⟩), .string s] w fun e w' => ∃ v, e = .returned (.tuple #[v, .bool true]) ∧ w'.ownsRow w.heap.size 5 1 v scr.length (scr.map bv) ∧ Below w.heap.size w w' := by
  obtain ⟨ρ, I, h1, rfl, h3⟩ := h
  exact kscreen_yes ρ I K s w h1 hs i hi hn ls scr ho
end Go.Proofs.YtkkicbhmcjbmbaaGreat

/- Rest and Calls of a kernel; what a refused call leaves, as values. -/
namespace Go.Proofs.YtkkicbhmcjbmbaaGreat
open Go.RowKit Go.Maps

set_option maxRecDepth 100000 in
theorem krest_any (ρ : Nat → Option PTag) (I : PI) (K : KS) (w : World) (h : PK w ρ I K) :
    Calls Tryz.prog 69 #[.pointer (some ⟨I.kb, 0, none⟩)] w fun e w' => ∃ v, e = .returned v ∧ w'.ownsRow w.heap.size 167 2 v K.plan.length (fcs K.plan) ∧ Below w.heap.size w w' := by
  have c0 := h.cells.made
  have c5 := h.cells.plan
  have HR := hide (rest_any I.pb I.pv K.plan w (h.comp .plan).1 (by have := h.ok.plan.1; omega))
  have HM := hide (kmade_any I.kb w c0)
  clear h
  go_enter Tryz.func69, Tryz.ntmps69
  go_wp2_with fail
  refine HM.out.mono ?_
  rintro e w1 ⟨rfl, rfl⟩
  go_wp2_with fail
  refine HR.out.mono ?_
  rintro e w2 ⟨v, rfl, hO, hB⟩
  have HO := hide hO
  have HB := hide hB
  clear hO hB
  go_wp2
  go_ret
  exact ⟨v, rfl, HO.out, HB.out⟩
theorem KAt.rest {w : World} {O : Nat → Prop} {kb : Nat} {K : KS} (h : KAt w O kb K) :
    Calls Tryz.prog 69 #[.pointer (some ⟨kb, 0, none⟩)] w fun e w' => ∃ v, e = .returned v ∧ w'.ownsRow w.heap.size 167 2 v K.plan.length (fcs K.plan) ∧ Below w.heap.size w w' := by
  obtain ⟨ρ, I, h1, rfl, h3⟩ := h
  exact krest_any ρ I K w h1
/-- What is left of a call that answers an error. -/
def Refused (K : KS) (E : Int) (K' : KS) : Prop := K'.files = K.files ∧ ((E ≠ 22 ∧ E ≠ 23 ∧ K'.plan = K.plan) ∨ ((E = 22 ∨ E = 23) ∧ K'.plan = K.plan.tail ∧ K.plan ≠ []))
theorem Refused.same {K : KS} {E : Int} (h1 : E ≠ 22) (h2 : E ≠ 23) : Refused K E K := ⟨rfl, .inl ⟨h1, h2, rfl⟩⟩
theorem refused_open (K : KS) (s : ByteArray) (f : Int) (h : (K.open s f).2.1 ≠ 0) : Refused K (K.open s f).2.1 (K.open s f).2.2 := by
  revert h
  unfold KS.open
  repeat' split
  all_goals first
    | exact fun _ => Refused.same (by simp) (by simp)
    | exact fun h => absurd rfl h
theorem nxt_some {L : List Fault} {n : Int} (h1 : 1 ≤ n) (h2 : n ≤ 1048576) (h : (nxt L n).2 ≠ 0) : L ≠ [] := fun e => by
  subst e
  unfold nxt at h
  rw [if_neg (by omega)] at h
  exact h rfl
theorem rdx_zero {K : KS} {x : De} {m : Int} (h1 : 1 ≤ m) (h2 : m ≤ 1048576) (hw : (K.tho x).waits = false) : (K.rdx x m).2.1 = 0 := by
  unfold KS.rdx
  cases ho : K.tho x with
  | file b => rfl
  | term ls scr =>
    show Te_rdE m = 0
    unfold Te_rdE
    rw [if_pos (show rOk m = true by unfold rOk; exact decide_eq_true ⟨h1, h2⟩)]
  | pipe q rd wt =>
    show Kp_rdE m q.length rd wt = 0
    rw [ho] at hw
    have hc : canR q.length rd wt = true := by simpa [Ob.waits] using hw
    unfold Kp_rdE
    rw [inN_of h1 h2]
    unfold canR at hc
    simp only [Bool.and_eq_true, decide_eq_true_eq, Bool.not_eq_true', decide_eq_false_iff_not] at hc
    rw [if_neg (by decide), if_neg (by omega), if_neg (by simpa using hc.2)]
theorem refused_read (K : KS) (ok : planOk K.plan) (d n : Int) (h : (K.read d n).2.1 ≠ 0) : Refused K (K.read d n).2.1 (K.read d n).2.2 := by
  cases hx : K.find d with
  | none =>
    have e : K.read d n = ([], 64, K) := by unfold KS.read; rw [hx]
    rw [e]; exact Refused.same (by simp) (by simp)
  | some x =>
    by_cases hf : fbit x.flags 1 = 0
    · have e : K.read d n = ([], 65, K) := by unfold KS.read; rw [hx]; simp only; rw [if_pos hf]
      rw [e]; exact Refused.same (by simp) (by simp)
    by_cases hn : n < 0 ∨ 1048576 < n
    · have e : K.read d n = ([], 4, K) := by unfold KS.read; rw [hx]; simp only; rw [if_neg hf, if_pos hn]
      rw [e]; exact Refused.same (by simp) (by simp)
    by_cases h0 : n = 0
    · have e : K.read d n = ([], 0, K) := by unfold KS.read; rw [hx]; simp only; rw [if_neg hf, if_neg hn, if_pos h0]
      rw [e] at h; exact absurd rfl h
    have n1 : 1 ≤ n := by omega
    have n2 : n ≤ 1048576 := by omega
    by_cases hw : (K.tho x).waits = true
    · have e : K.read d n = ([], 52, K) := by unfold KS.read; rw [hx]; simp only; rw [if_neg hf, if_neg hn, if_neg h0, if_pos hw]
      rw [e]; exact Refused.same (by simp) (by simp)
    have hw' : (K.tho x).waits = false := by simpa using hw
    rw [read_is hx hf n1 n2 hw'] at h ⊢
    by_cases e0 : (nxt K.plan n).2 = 0
    · rw [if_pos e0] at h
      have hg := nxt_good ok n1 n2 e0
      exact absurd (rdx_zero (K := K.readUp) hg.1 (by omega) hw') h
    · rw [if_neg e0]
      refine ⟨rfl, .inr ⟨?_, rfl, nxt_some n1 n2 e0⟩⟩
      rcases nxt_err (l := K.plan) n1 n2 with e | e | e
      · exact absurd e e0
      · exact .inl e
      · exact .inr e
theorem wrx_zero {K : KS} {x : De} {b : List UInt8} {m : Int} (h1 : 1 ≤ m) (h2 : m ≤ 1048576) (hl : 1 ≤ b.length) (hl2 : b.length ≤ 1048576) (hr : refusal (K.tho x) x.flags x.pos b.length = 0) : (K.wrx x b m).2.1 = 0 := by
  unfold KS.wrx
  cases ho : K.tho x with
  | file f => rfl
  | term ls scr => rfl
  | pipe q rd wt =>
    show Kp_wrE b.length m q.length rd wt = 0
    rw [ho] at hr
    unfold refusal at hr
    simp only at hr
    by_cases hrd : rd = 0
    · rw [if_pos hrd] at hr; cases hr
    rw [if_neg hrd] at hr
    have hc : canW b.length q.length rd wt = true := by
      cases hcw : canW b.length q.length rd wt with
      | true => rfl
      | false => rw [hcw] at hr; simp at hr
    unfold canW at hc
    simp only [Bool.and_eq_true, decide_eq_true_eq, Bool.or_eq_true, Int.toNat_natCast] at hc
    obtain ⟨_, hwt, hfit⟩ := hc
    have hfit : 0 < fitN b.length b.length q.length := by rcases hfit with h | h <;> omega
    have hf2 : fitN b.length m.toNat q.length ≠ 0 := fit_some hfit (by omega)
    have hre : refE b.length m rd wt = 0 := by
      unfold refE
      rw [if_neg (by omega), inN_of h1 h2, if_neg (by decide), if_neg (by omega), if_neg hrd]
    unfold Kp_wrE
    rw [if_pos hre, if_neg (by omega), if_neg hf2]
theorem refused_write (K : KS) (ok : planOk K.plan) (d : Int) (b : List UInt8) (h : (K.write d b).2.1 ≠ 0) : Refused K (K.write d b).2.1 (K.write d b).2.2 := by
  cases hx : K.find d with
  | none =>
    have e : K.write d b = (0, 64, K) := by unfold KS.write; rw [hx]
    rw [e]; exact Refused.same (by simp) (by simp)
  | some x =>
    by_cases hf : fbit x.flags 2 = 0
    · have e : K.write d b = (0, 65, K) := by unfold KS.write; rw [hx]; simp only; rw [if_pos hf]
      rw [e]; exact Refused.same (by simp) (by simp)
    by_cases hn : 1048576 < b.length
    · have e : K.write d b = (0, 5, K) := by unfold KS.write; rw [hx]; simp only; rw [if_neg hf, if_pos hn]
      rw [e]; exact Refused.same (by simp) (by simp)
    by_cases h0 : b.length = 0
    · have e : K.write d b = (0, 0, K) := by unfold KS.write; rw [hx]; simp only; rw [if_neg hf, if_neg hn, if_pos h0]
      rw [e] at h; exact absurd rfl h
    by_cases hr : refusal (K.tho x) x.flags x.pos b.length = 0
    · have n1 : (1 : Int) ≤ (b.length : Int) := by omega
      have n2 : (b.length : Int) ≤ 1048576 := by omega
      rw [write_is hx hf (by omega) (by omega) hr] at h ⊢
      by_cases e0 : (nxt K.plan b.length).2 = 0
      · rw [if_pos e0] at h
        have hg := nxt_good ok n1 n2 e0
        exact absurd (wrx_zero (K := K.writeUp) hg.1 (by omega) (by omega) (by omega) hr) h
      · rw [if_neg e0]
        refine ⟨rfl, .inr ⟨?_, rfl, nxt_some n1 n2 e0⟩⟩
        rcases nxt_err (l := K.plan) n1 n2 with e | e | e
        · exact absurd e e0
        · exact .inl e
        · exact .inr e
    · have e : K.write d b = (0, refusal (K.tho x) x.flags x.pos b.length, K) := by unfold KS.write; rw [hx]; simp only; rw [if_neg hf, if_neg hn, if_neg h0, if_neg hr]
      rw [e]
      rcases refusal_vals (K.tho x) x.flags x.pos b.length with e | e | e | e <;> exact Refused.same (by show refusal _ _ _ _ ≠ 22; omega) (by show refusal _ _ _ _ ≠ 23; omega)
theorem refused_seek (K : KS) (d o wh : Int) (h : (K.seek d o wh).2.1 ≠ 0) : Refused K (K.seek d o wh).2.1 (K.seek d o wh).2.2 := by
  revert h
  unfold KS.seek
  repeat' split
  all_goals first
    | exact fun _ => Refused.same (by simp) (by simp)
    | exact fun h => absurd rfl h
end Go.Proofs.YtkkicbhmcjbmbaaGreat
