/- StreamFew: the walk, of any slice that came in. -/
import Derived.Test.YtbffnamdpmjfnaaStFew
import Derived.Test.YtbffnamdpmjfnaaKpFrame
namespace Go.Proofs.Ytbffnamdpmjfnaa
open Go.RowKit

theorem sfew_any2 (va : Option Addr) (n vc : Nat) (b : List UInt8) (size : Int) (w : World) (hb : Bys w (.slice va n vc) b) (hc : b.length ≤ vc) (hl : b.length ≤ 140737488351232) :
    Calls Try.prog 4 #[.slice va n vc, .int .i64 size] w fun e w' => e = .returned (.bool true) ∧ Below w.heap.size w w' := by
  obtain rfl := Kp_bys_len hb
  exact sfew_any va vc b size w hb hc hl
end Go.Proofs.Ytbffnamdpmjfnaa
