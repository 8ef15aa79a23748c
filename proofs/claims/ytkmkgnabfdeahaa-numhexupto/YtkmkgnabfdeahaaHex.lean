/- What num.Hex answers, for every octets: two digits each. -/
import Derived.Test.YtkmkgnabfdeahaaDig
import Derived.Test.YtkmkgnabfdeahaaPlain
import Derived.Deep.RegionHeld3
import Derived.Deep.AppendLies
namespace Go.Proofs.Ytkmkgnabfdeahaa
open Go.RowKit

theorem step_append_fits {P : Program} (w : World) {ops : Array Oper} {o : Oper} {a : Act} {K : Act → World → Prop} {Q : Exit → Act → World → Prop} {E : Prop}
    (hg : o.guard = none) (s x : Operand) (t : TypeId) (hop : o.op = Op.call { callee := Callee.builtin Builtin.append, args := #[s, x], argTypes := #[t, t] })
    (base : Nat) (e : TypeId) (i : TypeInfo) (size : Nat) (h1 : P.underlying t = some (.slice e)) (h2 : P.info? e = some i) (h4 : i.size = size)
    (g k cap : Nat) (xs : List Value) (hs : a.eval s = .slice (some ⟨g, 0, none⟩) k cap) (hown : w.ownsRow base e size (.slice (some ⟨g, 0, none⟩) k cap) k xs) (ad : Addr) (m c : Nat) (news : List Value) (hx : a.eval x = .slice (some ad) m c) (hn : news.length = m * size)
    (hc : ∀ j u, news[j]? = some u → w.cell? (ad.add j) = some u) (h1c : ∀ u ∈ news, u.oneCell' = true) (b1 : k + m ≤ cap)
    (hK : ∀ w', w'.ownsRow base e size (.slice (some ⟨g, 0, none⟩) (k + m) cap) (k + m) (xs ++ news) → w.grownBy w' (some g) → K (a.put o.dst (.slice (some ⟨g, 0, none⟩) (k + m) cap)) w') :
    if Region.wanted o (yielded ops a.tmps) = true then Oper.wp P o a w K Q else E := by
  have hw : Region.wanted o (yielded ops a.tmps) = true := by simp [Region.wanted, hg]
  rw [if_pos hw]
  obtain ⟨w', hrun, r1, r2⟩ := run_append_fits (P := P) w base t o.type e i size h1 h2 h4 g k cap xs hown ad m c news hn hc h1c b1
  unfold Oper.wp
  simp [execOp, hop, resolve, invoke, builtin, hs, hx, hrun, Result.andThen]
  exact hK w' r1 r2

def hiD (c : UInt8) : Fin 16 := Fin.ofNat 16 (c.toNat / 16)
def loD (c : UInt8) : Fin 16 := Fin.ofNat 16 (c.toNat % 16)
/-- Two digits an octet. -/
def hexF : List UInt8 → List UInt8
  | [] => []
  | c :: r => sgn (hiD c) :: sgn (loD c) :: hexF r
theorem hexF_append : ∀ l m : List UInt8, hexF (l ++ m) = hexF l ++ hexF m
  | [], _ => rfl
  | c :: r, m => by rw [List.cons_append, hexF, hexF, hexF_append r m]; rfl
theorem hexF_length : ∀ l : List UInt8, (hexF l).length = 2 * l.length
  | [] => rfl
  | c :: r => by rw [hexF, List.length_cons, List.length_cons, hexF_length r, List.length_cons]; omega

theorem hi_eq (c : UInt8) : (c.toNat : Int) / 16 = ((hiD c).val : Int) := by
  show (c.toNat : Int) / 16 = ((c.toNat / 16 % 16 : Nat) : Int)
  have := c.toNat_lt
  omega
theorem lo_eq (c : UInt8) : bits .and .u8 (c.toNat : Int) 15 = ((loD c).val : Int) := by
  have h : ∀ x : Fin 256, bits .and .u8 ((x.val : Nat) : Int) 15 = ((x.val % 16 % 16 : Nat) : Int) := by decide +kernel
  exact h ⟨c.toNat, c.toNat_lt⟩

set_option maxRecDepth 100000 in
set_option maxHeartbeats 2000000 in
theorem hex_any (v : Value) (l : List UInt8) (w : World) (h : Bys w v l) (hs : l.length ≤ 140737488351232) :
    Calls Try.prog 20 #[v] w fun e w' => e = .returned (.string ⟨(hexF l).toArray⟩) ∧ Below w.heap.size w w' := by
  obtain ⟨i0, hi, hz0, hz1, hz2⟩ := info_parts Try.infoB
  obtain ⟨a1, c1, rfl, hc1⟩ := bys_form h
  have HC1 := hide hc1
  clear hc1 h
  go_enter Try.func20, Try.ntmps20
  go_wp2_with (at_make; refine wpList_make_own _ rfl _ _ 39 rfl w.heap.size 5 i0 (.int .u8 0) 1 Try.underlying39 hi hz0 hz1 _ _ _ (2 * l.length) rfl rfl (by omega) (by rw [hz2]; omega) (by unfold maxLen; omega) (Nat.le_refl _) ?_; intro w1 hown1 hgrow1)
  have hB1 : Below w.heap.size w w1 := (Below.refl _ w).grown hgrow1 (Nat.le_refl _) (fun k e => by cases e)
  go_loopw [3, 11] (fun t i wr => ∃ k : Nat, k ≤ l.length ∧ i = .int .i64 k ∧ t = .slice (some ⟨w.heap.size, 0, none⟩) (2 * k) (2 * l.length) ∧
      wr.ownsRow w.heap.size 5 1 (.slice (some ⟨w.heap.size, 0, none⟩) (2 * k) (2 * l.length)) (2 * k) ((hexF (l.take k)).map bv) ∧ Below w.heap.size w wr) (fun _ i _ => l.length - (intOf i).toNat)
  case atStart => exact ⟨0, Nat.zero_le _, rfl, rfl, hown1, hB1⟩
  case round =>
    clear hown1 hgrow1 hB1
    obtain ⟨k, hk, rfl, rfl, hown, hB⟩ := hrel
    by_cases hlt : k < l.length
    · obtain ⟨b1, o1, rfl, hc1⟩ := HC1.out (by omega)
      have g0 := hc1 k hlt
      have hb1 : b1 < w.heap.size := World.block_lt_of_cell? w _ g0
      have g1 := (hB.cell (p := ⟨b1, o1 + k, none⟩) hb1).trans g0
      clear hc1 HC1 g0
      have hk1 : (0 : Int) ≤ (k : Int) := by omega
      have hk2 : (k : Int) < (l.length : Int) := by omega
      generalize hc : l.getD k 0 = c at g1
      have HC := hide hc
      clear hc
      have e1 := hi_eq c
      have e2 := lo_eq c
      generalize hX : hiD c = X at e1
      generalize hY : loD c = Y at e2
      have HX := hide hX
      have HY := hide hY
      clear hX hY
      have hXb : ((X.val : Nat) : Int) < 16 := by have := X.isLt; omega
      have hYb : ((Y.val : Nat) : Int) < 16 := by have := Y.isLt; omega
      have hsz := hB.size
      go_wp2_with fail
      go_region_held3 (fun w' => w'.cell? ⟨b1, o1 + k, none⟩ = some (.int .u8 (c.toNat : Int)))
        (first | go_keep | (rw [hgrow2.cell_far _ (by simp; omega) (by intro e; have h2 : b1 = w.heap.size := Option.some.inj e; omega)]; assumption))
        ((refine step_append_fits _ (by rfl) _ _ 39 (by rfl) w.heap.size 5 i0 1 Try.underlying39 hi hz1 w.heap.size (2 * k) (2 * l.length) _ (by rfl) ((hown.alloc _).drew) ⟨wr.heap.size, 0, none⟩ 2 2 [bv (sgn X), bv (sgn Y)] (by rfl) (by rfl) (by exact World.news_of_block (w := wr.alloc (.cells #[bv (sgn X), bv (sgn Y)] 5)) (cs := #[bv (sgn X), bv (sgn Y)]) (t := 5) (fr := (0, 0)) (heap_alloc_new wr _)) (by simp [bv, Value.oneCell']) (by omega) ?_; intro w2 hown2 hgrow2))
      all_goals
        go_wp2
        go_roundw
        case rel =>
          refine ⟨k + 1, by omega, by go_num, by rw [show 2 * (k + 1) = 2 * k + 2 by omega], ?_, ?_⟩
          · rw [show 2 * (k + 1) = 2 * k + 2 by omega, List.take_succ_eq_append_getElem hlt, hexF_append, List.map_append]
            have hg : l[k] = c := by rw [← HC.out, List.getD_eq_getElem?_getD, List.getElem?_eq_getElem hlt]; rfl
            rw [hg]
            show World.ownsRow _ _ _ _ _ _ (_ ++ [bv (sgn (hiD c)), bv (sgn (loD c))])
            rw [HX.out, HY.out]
            exact hown2
          · exact (hB.alloc hB.size _).grown (w := wr.alloc (.cells #[bv (sgn X), bv (sgn Y)] 5)) ⟨hgrow2.os, hgrow2.tape, hgrow2.output, hgrow2.size, hgrow2.block⟩ (by simp; omega) (fun j e => by cases e; exact Nat.le_refl _)
        case measure => simp [intOf]; omega
    · obtain rfl : k = l.length := by omega
      rw [List.take_length] at hown
      have hown' : wr.ownsRow w.heap.size 5 1 (.slice (some ⟨w.heap.size, 0, none⟩) (2 * l.length) (2 * l.length)) (hexF l).length ((hexF l).map bv) := by rw [hexF_length]; exact hown
      have hst := owns_string hown'
      go_wp2
      go_ret
      exact ⟨rfl, hB⟩
end Go.Proofs.Ytkmkgnabfdeahaa
