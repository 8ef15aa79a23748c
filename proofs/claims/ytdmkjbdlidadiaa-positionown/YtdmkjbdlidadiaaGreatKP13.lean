/- What the proof stands on, part 13: the contracts of the program's calls that it reaches. -/
import Derived.Test.YtdmkjbdlidadiaaGreatKP12
/- A state that came in as an argument. -/
namespace Go.Proofs.YtdmkjbdlidadiaaGreat
open Go.ChangeShapes Go.WideShapes Go.ChangeAt Go.RowKit Go.Deep

set_option maxRecDepth 100000 in
set_option maxHeartbeats 1000000 in
theorem state_cells {H : Type} {enc : TypeId × Value → H} {W : World} {base : Nat} {fuel : Nat} {cs : List Value} {d : DataW H} {p : List MemPlace}
    (h : DataW.trod enc Tryz.prog W base (fun _ => true) true fuel 52 cs = some (d, p)) : ∃ (x : SS) (o i b : Value), cs = [.bool x.rd, .bool x.wt, .int .i64 x.mode, .int .i64 x.size, o, i, b, .int .i64 x.dir, .bool x.fin, .bool x.bad, .bool x.closed] ∧ Sl W o x.out ∧ Sl W i x.inn ∧ Sl W b x.back ∧ ∃ d0 d1 d2 d3 d4 d5 d6 d7 d8 d9 d10, d = .agg [d0, d1, d2, d3, d4, d5, d6, d7, d8, d9, d10] ∧ Kp_DataOf d4 x.out ∧ Kp_DataOf d5 x.inn ∧ Kp_DataOf d6 x.back := by
  obtain ⟨xs, k, hk, hxy, hcl, hxl, hf⟩ := DataW.trod_struct Tryz.underlying52 h
  rw [show Tryz.prog.cellsOf 52 = 11 by kernel_rfl] at hcl
  match xs, hxl, cs, hcl with
  | [y0, y1, y2, y3, y4, y5, y6, y7, y8, y9, y10], _, [v0, v1, v2, v3, v4, v5, v6, v7, v8, v9, v10], _ =>
    have ci : Tryz.prog.cellsOf 3 = 1 := by kernel_rfl
    have cb : Tryz.prog.cellsOf 40 = 1 := by kernel_rfl
    have co : Tryz.prog.cellsOf 4 = 1 := by kernel_rfl
    have cu : Tryz.prog.cellsOf 5 = 1 := by kernel_rfl
    have g0 := hf 0 _ rfl
    have g1 := hf 1 _ rfl
    have g2 := hf 2 _ rfl
    have g3 := hf 3 _ rfl
    have g4 := hf 4 _ rfl
    have g5 := hf 5 _ rfl
    have g6 := hf 6 _ rfl
    have g7 := hf 7 _ rfl
    have g8 := hf 8 _ rfl
    have g9 := hf 9 _ rfl
    have g10 := hf 10 _ rfl
    simp [co] at g0 g1 g8 g9 g10
    simp [ci] at g2 g3 g7
    simp [cb] at g4 g5 g6
    obtain ⟨a0, h0, _⟩ := DataW.trod_bool Tryz.underlying4 g0
    obtain ⟨a1, h1, _⟩ := DataW.trod_bool Tryz.underlying4 g1
    obtain ⟨a2, h2, _⟩ := DataW.trod_int Tryz.underlying3 g2
    obtain ⟨a3, h3, _⟩ := DataW.trod_int Tryz.underlying3 g3
    obtain ⟨a7, h7, _⟩ := DataW.trod_int Tryz.underlying3 g7
    obtain ⟨a8, h8, _⟩ := DataW.trod_bool Tryz.underlying4 g8
    obtain ⟨a9, h9, _⟩ := DataW.trod_bool Tryz.underlying4 g9
    obtain ⟨a10, h10, _⟩ := DataW.trod_bool Tryz.underlying4 g10
    obtain rfl : v0 = .bool a0 := by simpa using h0
    obtain rfl : v1 = .bool a1 := by simpa using h1
    obtain rfl : v2 = .int .i64 a2 := by simpa using h2
    obtain rfl : v3 = .int .i64 a3 := by simpa using h3
    obtain rfl : v7 = .int .i64 a7 := by simpa using h7
    obtain rfl : v8 = .bool a8 := by simpa using h8
    obtain rfl : v9 = .bool a9 := by simpa using h9
    obtain rfl : v10 = .bool a10 := by simpa using h10
    obtain ⟨y4a, y4b⟩ := y4
    obtain ⟨y5a, y5b⟩ := y5
    obtain ⟨y6a, y6b⟩ := y6
    obtain ⟨x4, k4, D4⟩ := byc_arg Tryz.underlying40 Tryz.underlying5 cu g4
    obtain ⟨x5, k5, D5⟩ := byc_arg Tryz.underlying40 Tryz.underlying5 cu g5
    obtain ⟨x6, k6, D6⟩ := byc_arg Tryz.underlying40 Tryz.underlying5 cu g6
    simp only [Prod.mk.injEq] at hxy
    have sl : ∀ {v : Value} {l : List UInt8}, ByC W v l → Sl W v l := fun h => by
      obtain ⟨va, vc, rfl, h1, h2⟩ := h
      exact ⟨va, vc, rfl, h1, h2⟩
    exact ⟨⟨a0, a1, a2, a3, x4, x5, x6, a7, a8, a9, a10⟩, _, _, _, rfl, sl k4, sl k5, sl k6, ⟨_, _, _, _, y4a, y5a, y6a, _, _, _, _, by simpa using hxy.1, D4, D5, D6⟩⟩
end Go.Proofs.YtdmkjbdlidadiaaGreat
