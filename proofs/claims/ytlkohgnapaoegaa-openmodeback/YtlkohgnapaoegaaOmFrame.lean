/- Openmode: a mode that came in as an argument. -/
import Derived.Test.YtlkohgnapaoegaaOmLet
import Derived.Test.YtlkohgnapaoegaaFrame
namespace Go.Proofs.Ytlkohgnapaoegaa
open Go.ChangeShapes Go.WideShapes Go.ChangeAt Go.RowKit

theorem mode_cells {H : Type} {enc : TypeId × Value → H} {P : Program} {W : World} {base : Nat} {fuel e : Nat} {f0 f1 f2 f3 f4 f5 f6 f7 : Field} {cs : List Value} {d : DataW H} {p : List MemPlace}
    (he : P.underlying e = some (.struct #[f0, f1, f2, f3, f4, f5, f6, f7])) (ce : P.cellsOf e = 8) (o0 : f0.offset = 0) (o1 : f1.offset = 1) (o2 : f2.offset = 2) (o3 : f3.offset = 3) (o4 : f4.offset = 4) (o5 : f5.offset = 5) (o6 : f6.offset = 6) (o7 : f7.offset = 7)
    (c0 : P.cellsOf f0.type = 1) (c1 : P.cellsOf f1.type = 1) (c2 : P.cellsOf f2.type = 1) (c3 : P.cellsOf f3.type = 1) (c4 : P.cellsOf f4.type = 1) (c5 : P.cellsOf f5.type = 1) (c6 : P.cellsOf f6.type = 1) (c7 : P.cellsOf f7.type = 1)
    (t0 : P.underlying f0.type = some .bool) (t1 : P.underlying f1.type = some .bool) (t2 : P.underlying f2.type = some .bool) (t3 : P.underlying f3.type = some .bool) (t4 : P.underlying f4.type = some .bool) (t5 : P.underlying f5.type = some .bool) (t6 : P.underlying f6.type = some .bool) (t7 : P.underlying f7.type = some .bool)
    (h : DataW.trod enc P W base (fun _ => true) true fuel e cs = some (d, p)) :
    ∃ m : Mo, cs = (mc m).toList := by
  obtain ⟨xs, k, hk, hxy, hcl, hxl, hf⟩ := DataW.trod_struct he h
  rw [ce] at hcl
  match xs, hxl, cs, hcl with
  | [y0, y1, y2, y3, y4, y5, y6, y7], _, [v0, v1, v2, v3, v4, v5, v6, v7], _ =>
    have g0 := hf 0 f0 rfl
    simp [o0, c0] at g0
    obtain ⟨a0, ha0, _⟩ := DataW.trod_bool t0 g0
    obtain rfl : v0 = .bool a0 := by simpa using ha0
    have g1 := hf 1 f1 rfl
    simp [o1, c1] at g1
    obtain ⟨a1, ha1, _⟩ := DataW.trod_bool t1 g1
    obtain rfl : v1 = .bool a1 := by simpa using ha1
    have g2 := hf 2 f2 rfl
    simp [o2, c2] at g2
    obtain ⟨a2, ha2, _⟩ := DataW.trod_bool t2 g2
    obtain rfl : v2 = .bool a2 := by simpa using ha2
    have g3 := hf 3 f3 rfl
    simp [o3, c3] at g3
    obtain ⟨a3, ha3, _⟩ := DataW.trod_bool t3 g3
    obtain rfl : v3 = .bool a3 := by simpa using ha3
    have g4 := hf 4 f4 rfl
    simp [o4, c4] at g4
    obtain ⟨a4, ha4, _⟩ := DataW.trod_bool t4 g4
    obtain rfl : v4 = .bool a4 := by simpa using ha4
    have g5 := hf 5 f5 rfl
    simp [o5, c5] at g5
    obtain ⟨a5, ha5, _⟩ := DataW.trod_bool t5 g5
    obtain rfl : v5 = .bool a5 := by simpa using ha5
    have g6 := hf 6 f6 rfl
    simp [o6, c6] at g6
    obtain ⟨a6, ha6, _⟩ := DataW.trod_bool t6 g6
    obtain rfl : v6 = .bool a6 := by simpa using ha6
    have g7 := hf 7 f7 rfl
    simp [o7, c7] at g7
    obtain ⟨a7, ha7, _⟩ := DataW.trod_bool t7 g7
    obtain rfl : v7 = .bool a7 := by simpa using ha7
    exact ⟨⟨a0, a1, a2, a3, a4, a5, a6, a7⟩, rfl⟩
end Go.Proofs.Ytlkohgnapaoegaa
