/- The reference's Print, for any faults. -/
import Derived.Test.YtnabnnckhdileaaFPrint
import Derived.Test.YtnabnnckhdileaaRefInt
namespace Go.Proofs.Ytnabnnckhdileaa
open Go.RowKit

theorem take_at (l : List Fault) (k : Nat) (h : k < l.length) : l.take (k + 1) = l.take k ++ [l.getD k (0, 0)] := by
  rw [List.take_succ_eq_append_getElem h, List.getD_eq_getElem?_getD, List.getElem?_eq_getElem h]
  rfl
theorem prt_take_len (l : List Fault) (h : ∀ x ∈ l, may x = true) (hl : l.length ≤ 4096) (k : Nat) : (prt (l.take k)).length ≤ 270336 := by
  have h1 := prt_len (l.take k) fun x hx => h x (List.mem_of_mem_take hx)
  have h2 : (l.take k).length ≤ l.length := by rw [List.length_take]; omega
  omega
theorem size_arr (l : List UInt8) : (⟨l.toArray⟩ : ByteArray).size = l.length := by simp [ByteArray.size]

set_option maxRecDepth 100000 in
set_option maxHeartbeats 4000000 in
theorem rprint_bad (v : Value) (l : List Fault) (w : World) (h : Flts w v l) (hs : l.length ≤ maxLen) (hc : (chk l).1 ≠ 0) :
    Calls Try.prog 12 #[v] w fun e w' => e = .returned (.tuple #[.string ⟨#[]⟩, .int .i64 (chk l).1]) ∧ Below w.heap.size w w' := by
  have HK := hide (rcheck_any v l w h hs)
  have hc' : ((chk l).1 == 0) = false := by simpa using hc
  generalize (chk l).1 = x at *
  generalize (chk l).2 = y at *
  clear h hs hc
  go_enter Try.func12, Try.ntmps12
  go_wp2_with fail
  refine HK.out.mono ?_
  rintro e w1 ⟨rfl, hB⟩
  go_wp2
  go_ret2
  exact ⟨rfl, hB⟩

set_option maxRecDepth 100000 in
set_option maxHeartbeats 4000000 in
theorem rprint_good (v : Value) (l : List Fault) (w : World) (h : Flts w v l) (hc : (chk l).1 = 0) :
    Calls Try.prog 12 #[v] w fun e w' => e = .returned (.tuple #[.string ⟨(prt l).toArray⟩, .int .i64 0]) ∧ Below w.heap.size w w' := by
  obtain ⟨hlen, hfb, hc2⟩ := chk_zero hc
  have hk := rcheck_any v l w h (by unfold maxLen; omega)
  rw [hc, hc2] at hk
  have HK := hide hk
  have HG := hide (fb_good hfb)
  have HL := hide (prt_take_len l (fb_mem hfb) hlen)
  have H0 := hide h
  clear hk hc hc2 hfb
  obtain ⟨a1, c1, rfl, -⟩ := flts_form h
  clear h
  go_enter Try.func12, Try.ntmps12
  go_wp2_with fail
  refine HK.out.mono ?_
  rintro e w1 ⟨rfl, hB1⟩
  go_wp2
  go_loopw [6, 7] (fun u i wr => ∃ (k : Nat), k ≤ l.length ∧ u = .string ⟨(prt (l.take k)).toArray⟩ ∧ i = .int .i64 k ∧ Below w.heap.size w wr) (fun _ i _ => l.length - (intOf i).toNat)
  case atStart => exact ⟨0, Nat.zero_le _, rfl, rfl, hB1⟩
  case round =>
    clear hB1 HK
    obtain ⟨k, hk, rfl, rfl, hB⟩ := hrel
    by_cases hlt : k < l.length
    · rcases H0.out.below hB with ⟨hq, h0⟩ | ⟨a, cap, hq, h0⟩ | ⟨b, off, cap, hq, h0, hcap, hc⟩
      · rw [h0] at hlt; simp at hlt
      · rw [h0] at hlt; simp at hlt
      · cases hq
        obtain ⟨e1, e2⟩ := hc k hlt
        have hm := HG.out k hlt
        obtain ⟨x, y, hxy⟩ : ∃ x y, l.getD k (0, 0) = (x, y) := ⟨_, _, rfl⟩
        have ht := take_at l k hlt
        have hpl := HL.out k
        rw [hxy] at e1 e2 hm ht
        simp only at e1 e2
        clear hc hxy
        have hk1 : (0 : Int) ≤ (k : Int) := by omega
        have hk2 : (k : Int) < (l.length : Int) := by omega
        have hx4 : x = 0 ∨ x = 1 ∨ x = 2 ∨ x = 3 := by
          by_cases h1 : x = 1
          · exact .inr (.inl h1)
          · rw [may_else h1] at hm
            have := of_decide_eq_true hm
            omega
        rcases Nat.eq_zero_or_pos k with hk0 | hk0
        · have hpt : prt (l.take (k + 1)) = wrd (x, y) := by rw [ht, hk0, List.take_zero, List.nil_append, prt_snoc_one]
          have hP0 : prt (l.take k) = [] := by rw [hk0]; rfl
          rw [hP0]
          clear ht hP0 hpl hk1
          subst hk0
          simp only [Nat.zero_mul, Nat.add_zero] at e1 e2
          rcases hx4 with hx | hx | hx | hx
          · subst hx
            rw [show wrd (0, y) = [102] by simp [wrd]] at hpt
            have c1 : (⟨([] : List UInt8).toArray⟩ : ByteArray) ++ ⟨#[102]⟩ = ⟨([102] : List UInt8).toArray⟩ := bytes_append [] [102]
            have HPT := hide hpt
            clear hpt hm
            go_wp2
            go_roundw
            case rel => exact ⟨0 + 1, by omega, by rw [HPT.out], by go_num, hB⟩
            case measure => simp [intOf]; omega
          · subst hx
            obtain ⟨n0, n1⟩ := of_decide_eq_true ((may_one y).symm.trans hm)
            have hwl := wrd_len hm
            have hwe : wrd (1, y) = 115 :: dec y := by simp [wrd]
            rw [hwe] at hwl hpt
            have HD := hide fun w => rdecimal_any y (by omega) (by omega) w
            generalize dec y = D at *
            simp only [List.length_cons] at hwl
            have hD := size_arr D
            have c1 : (⟨([] : List UInt8).toArray⟩ : ByteArray) ++ ⟨#[115]⟩ = ⟨([115] : List UInt8).toArray⟩ := bytes_append [] [115]
            have c2 : (⟨([115] : List UInt8).toArray⟩ : ByteArray) ++ ⟨D.toArray⟩ = ⟨(115 :: D).toArray⟩ := bytes_append [115] D
            have s1 := size_arr [115]
            have HPT := hide hpt
            clear hpt hm
            go_wp2_with fail
            refine (HD.out _).mono ?_
            rintro e w2 ⟨rfl, hB2⟩
            have hB3 := hB.trans (hB2.mono hB.size)
            go_wp2
            go_roundw
            case rel => exact ⟨0 + 1, by omega, by rw [HPT.out], by go_num, hB3⟩
            case measure => simp [intOf]; omega
          · subst hx
            rw [show wrd (2, y) = [105] by simp [wrd]] at hpt
            have c1 : (⟨([] : List UInt8).toArray⟩ : ByteArray) ++ ⟨#[105]⟩ = ⟨([105] : List UInt8).toArray⟩ := bytes_append [] [105]
            have HPT := hide hpt
            clear hpt hm
            go_wp2
            go_roundw
            case rel => exact ⟨0 + 1, by omega, by rw [HPT.out], by go_num, hB⟩
            case measure => simp [intOf]; omega
          · subst hx
            rw [show wrd (3, y) = [97] by simp [wrd]] at hpt
            have c1 : (⟨([] : List UInt8).toArray⟩ : ByteArray) ++ ⟨#[97]⟩ = ⟨([97] : List UInt8).toArray⟩ := bytes_append [] [97]
            have HPT := hide hpt
            clear hpt hm
            go_wp2
            go_roundw
            case rel => exact ⟨0 + 1, by omega, by rw [HPT.out], by go_num, hB⟩
            case measure => simp [intOf]; omega
        · have hpt : prt (l.take (k + 1)) = prt (l.take k) ++ 32 :: wrd (x, y) := by
            rw [ht]
            exact prt_snoc _ _ (by intro e; have := congrArg List.length e; rw [List.length_take, List.length_nil] at this; omega)
          have hk0' : (0 : Int) < (k : Int) := by omega
          clear ht
          generalize prt (l.take k) = P at *
          rcases hx4 with hx | hx | hx | hx
          · subst hx
            rw [show wrd (0, y) = [102] by simp [wrd]] at hpt
            have c0 : (⟨P.toArray⟩ : ByteArray) ++ ⟨#[32]⟩ = ⟨(P ++ [32]).toArray⟩ := bytes_append P [32]
            have c1 : (⟨(P ++ [32]).toArray⟩ : ByteArray) ++ ⟨#[102]⟩ = ⟨(P ++ [32] ++ [102]).toArray⟩ := bytes_append (P ++ [32]) [102]
            have s0 := size_arr P
            have s1 := size_arr (P ++ [32])
            rw [List.length_append] at s1
            simp only [List.length_cons, List.length_nil] at s1
            have e0 : P ++ [32] ++ [102] = P ++ 32 :: [102] := by simp
            rw [e0] at c1
            obtain ⟨TT, hTT⟩ : ∃ TT : ByteArray, TT = ⟨(P ++ 32 :: [102]).toArray⟩ := ⟨_, rfl⟩
            rw [← hTT] at c1
            have HTT := hide hTT
            clear hTT
            generalize (⟨(P ++ [32]).toArray⟩ : ByteArray) = T1 at *
            generalize (⟨P.toArray⟩ : ByteArray) = T0 at *
            have HPT := hide hpt
            clear hpt hm
            go_wp2
            go_roundw
            case rel => exact ⟨k + 1, by omega, by rw [HPT.out]; exact congrArg Value.string HTT.out, by go_num, hB⟩
            case measure => simp [intOf]; omega
          · subst hx
            obtain ⟨n0, n1⟩ := of_decide_eq_true ((may_one y).symm.trans hm)
            have hwl := wrd_len hm
            have hwe : wrd (1, y) = 115 :: dec y := by simp [wrd]
            rw [hwe] at hwl hpt
            have HD := hide fun w => rdecimal_any y (by omega) (by omega) w
            generalize dec y = D at *
            simp only [List.length_cons] at hwl
            have hD := size_arr D
            have c0 : (⟨P.toArray⟩ : ByteArray) ++ ⟨#[32]⟩ = ⟨(P ++ [32]).toArray⟩ := bytes_append P [32]
            have c1 : (⟨(P ++ [32]).toArray⟩ : ByteArray) ++ ⟨#[115]⟩ = ⟨(P ++ [32] ++ [115]).toArray⟩ := bytes_append (P ++ [32]) [115]
            have c2 : (⟨(P ++ [32] ++ [115]).toArray⟩ : ByteArray) ++ ⟨D.toArray⟩ = ⟨(P ++ [32] ++ [115] ++ D).toArray⟩ := bytes_append _ D
            have s0 := size_arr P
            have s1 := size_arr (P ++ [32])
            have s2 := size_arr (P ++ [32] ++ [115])
            rw [List.length_append] at s1
            rw [List.length_append, List.length_append] at s2
            simp only [List.length_cons, List.length_nil] at s1 s2
            have e0 : P ++ [32] ++ [115] ++ D = P ++ 32 :: 115 :: D := by simp
            rw [e0] at c2
            obtain ⟨TT, hTT⟩ : ∃ TT : ByteArray, TT = ⟨(P ++ 32 :: 115 :: D).toArray⟩ := ⟨_, rfl⟩
            rw [← hTT] at c2
            have HTT := hide hTT
            clear hTT
            generalize (⟨(P ++ [32] ++ [115]).toArray⟩ : ByteArray) = T2 at *
            generalize (⟨(P ++ [32]).toArray⟩ : ByteArray) = T1 at *
            generalize (⟨P.toArray⟩ : ByteArray) = T0 at *
            have HPT := hide hpt
            clear hpt hm
            go_wp2_with fail
            refine (HD.out _).mono ?_
            rintro e w2 ⟨rfl, hB2⟩
            have hB3 := hB.trans (hB2.mono hB.size)
            go_wp2
            go_roundw
            case rel => exact ⟨k + 1, by omega, by rw [HPT.out]; exact congrArg Value.string HTT.out, by go_num, hB3⟩
            case measure => simp [intOf]; omega
          · subst hx
            rw [show wrd (2, y) = [105] by simp [wrd]] at hpt
            have c0 : (⟨P.toArray⟩ : ByteArray) ++ ⟨#[32]⟩ = ⟨(P ++ [32]).toArray⟩ := bytes_append P [32]
            have c1 : (⟨(P ++ [32]).toArray⟩ : ByteArray) ++ ⟨#[105]⟩ = ⟨(P ++ [32] ++ [105]).toArray⟩ := bytes_append (P ++ [32]) [105]
            have s0 := size_arr P
            have s1 := size_arr (P ++ [32])
            rw [List.length_append] at s1
            simp only [List.length_cons, List.length_nil] at s1
            have e0 : P ++ [32] ++ [105] = P ++ 32 :: [105] := by simp
            rw [e0] at c1
            obtain ⟨TT, hTT⟩ : ∃ TT : ByteArray, TT = ⟨(P ++ 32 :: [105]).toArray⟩ := ⟨_, rfl⟩
            rw [← hTT] at c1
            have HTT := hide hTT
            clear hTT
            generalize (⟨(P ++ [32]).toArray⟩ : ByteArray) = T1 at *
            generalize (⟨P.toArray⟩ : ByteArray) = T0 at *
            have HPT := hide hpt
            clear hpt hm
            go_wp2
            go_roundw
            case rel => exact ⟨k + 1, by omega, by rw [HPT.out]; exact congrArg Value.string HTT.out, by go_num, hB⟩
            case measure => simp [intOf]; omega
          · subst hx
            rw [show wrd (3, y) = [97] by simp [wrd]] at hpt
            have c0 : (⟨P.toArray⟩ : ByteArray) ++ ⟨#[32]⟩ = ⟨(P ++ [32]).toArray⟩ := bytes_append P [32]
            have c1 : (⟨(P ++ [32]).toArray⟩ : ByteArray) ++ ⟨#[97]⟩ = ⟨(P ++ [32] ++ [97]).toArray⟩ := bytes_append (P ++ [32]) [97]
            have s0 := size_arr P
            have s1 := size_arr (P ++ [32])
            rw [List.length_append] at s1
            simp only [List.length_cons, List.length_nil] at s1
            have e0 : P ++ [32] ++ [97] = P ++ 32 :: [97] := by simp
            rw [e0] at c1
            obtain ⟨TT, hTT⟩ : ∃ TT : ByteArray, TT = ⟨(P ++ 32 :: [97]).toArray⟩ := ⟨_, rfl⟩
            rw [← hTT] at c1
            have HTT := hide hTT
            clear hTT
            generalize (⟨(P ++ [32]).toArray⟩ : ByteArray) = T1 at *
            generalize (⟨P.toArray⟩ : ByteArray) = T0 at *
            have HPT := hide hpt
            clear hpt hm
            go_wp2
            go_roundw
            case rel => exact ⟨k + 1, by omega, by rw [HPT.out]; exact congrArg Value.string HTT.out, by go_num, hB⟩
            case measure => simp [intOf]; omega
    · have hk' : k = l.length := by omega
      subst hk'
      rw [List.take_length]
      go_wp2
      go_ret2
      exact ⟨rfl, hB⟩
end Go.Proofs.Ytnabnnckhdileaa
