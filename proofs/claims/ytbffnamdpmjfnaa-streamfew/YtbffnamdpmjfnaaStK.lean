/- Streams: a way is begun. -/
import Derived.Test.YtbffnamdpmjfnaaStJ
namespace Go.Proofs.Ytbffnamdpmjfnaa
open Go.RowKit

theorem Way.new (w : World) (x : SS) (o i b r : Value) : Way (w.alloc (Obj.cells #[.bool x.rd, .bool x.wt, .int .i64 x.mode, .int .i64 x.size, o, i, b, .int .i64 x.dir, .bool x.fin, .bool x.bad, .bool x.closed, r] 66)) w.heap.size x o i b r := heap_alloc_new w _
set_option maxRecDepth 100000 in
set_option maxHeartbeats 4000000 in
theorem onWay_any (x : SS) (o i b : Value) (P : Nat → Prop) (r : Value) (w : World) (h : SIn w P x o i b) (ho : x.out.length ≤ 140737488351232) (hi : x.inn.length ≤ 140737488351232) (hb : x.back.length ≤ 140737488351232) (hr : r = .nilIface ∨ ∃ T v, r = .iface T v) :
    Calls Try.prog 20 #[.agg #[.bool x.rd, .bool x.wt, .int .i64 x.mode, .int .i64 x.size, o, i, b, .int .i64 x.dir, .bool x.fin, .bool x.bad, .bool x.closed], r] w fun e w' => ∃ g o' i' b', e = .returned (.pointer (some ⟨g, 0, none⟩)) ∧ Way w' g x o' i' b' r ∧ w.heap.size ≤ g ∧ w'.ownsRow w.heap.size 5 1 o' x.out.length (x.out.map bv) ∧ w'.ownsRow w.heap.size 5 1 i' x.inn.length (x.inn.map bv) ∧ w'.ownsRow w.heap.size 5 1 b' x.back.length (x.back.map bv) ∧ (∀ k, o'.ownBlock = some k ∨ i'.ownBlock = some k ∨ b'.ownBlock = some k → k ≠ g) ∧ Below w.heap.size w w' := by
  have HC := hide (fun (W : World) (hW : Below w.heap.size w W) => scopied_any x o i b P W (h.below hW) ho hi hb)
  obtain ⟨oa, oc, rfl, -⟩ := h.so
  obtain ⟨ia, ic, rfl, -⟩ := h.si
  obtain ⟨ba, bc, rfl, -⟩ := h.sb
  clear h
  rcases hr with rfl | ⟨T, v, rfl⟩
  · skip
    go_enter Try.func20, Try.ntmps20
    go_wp2_with fail
    refine (HC.out _ (recv_below w _)).mono ?_
    rintro _ w1 ⟨o', i', b', rfl, q1, q2, q3, hB1⟩
    obtain ⟨a1, k1, rfl⟩ := owns_slice q1
    obtain ⟨a2, k2, rfl⟩ := owns_slice q2
    obtain ⟨a3, k3, rfl⟩ := owns_slice q3
    have HQ := hide (And.intro q1 (And.intro q2 q3))
    have hz := (recv_below w (Obj.cells #[.bool x.rd, .bool x.wt, .int .i64 x.mode, .int .i64 x.size, .slice oa x.out.length oc, .slice ia x.inn.length ic, .slice ba x.back.length bc, .int .i64 x.dir, .bool x.fin, .bool x.bad, .bool x.closed] 30)).size
    have HB1 := hide ((recv_below w _).trans (hB1.mono hz))
    have HZ := hide hz
    clear q1 q2 q3 hB1 HC hz
    go_wp2
    go_ret
    have hBn := recv_below w1 (Obj.cells #[.bool x.rd, .bool x.wt, .int .i64 x.mode, .int .i64 x.size, .slice a1 x.out.length k1, .slice a2 x.inn.length k2, .slice a3 x.back.length k3, .int .i64 x.dir, .bool x.fin, .bool x.bad, .bool x.closed, .nilIface] 66)
    refine ⟨w1.heap.size, _, _, _, rfl, Way.new w1 x _ _ _ _, HB1.out.size, owns_mono (owns_below HQ.out.1 hBn) HZ.out, owns_mono (owns_below HQ.out.2.1 hBn) HZ.out, owns_mono (owns_below HQ.out.2.2 hBn) HZ.out, fun k e e' => ?_, HB1.out.trans (hBn.mono HB1.out.size)⟩
    rcases e with e | e | e
    · have := (HQ.out.1.lt k e).2; omega
    · have := (HQ.out.2.1.lt k e).2; omega
    · have := (HQ.out.2.2.lt k e).2; omega
  · skip
    go_enter Try.func20, Try.ntmps20
    go_wp2_with fail
    refine (HC.out _ (recv_below w _)).mono ?_
    rintro _ w1 ⟨o', i', b', rfl, q1, q2, q3, hB1⟩
    obtain ⟨a1, k1, rfl⟩ := owns_slice q1
    obtain ⟨a2, k2, rfl⟩ := owns_slice q2
    obtain ⟨a3, k3, rfl⟩ := owns_slice q3
    have HQ := hide (And.intro q1 (And.intro q2 q3))
    have hz := (recv_below w (Obj.cells #[.bool x.rd, .bool x.wt, .int .i64 x.mode, .int .i64 x.size, .slice oa x.out.length oc, .slice ia x.inn.length ic, .slice ba x.back.length bc, .int .i64 x.dir, .bool x.fin, .bool x.bad, .bool x.closed] 30)).size
    have HB1 := hide ((recv_below w _).trans (hB1.mono hz))
    have HZ := hide hz
    clear q1 q2 q3 hB1 HC hz
    go_wp2
    go_ret
    have hBn := recv_below w1 (Obj.cells #[.bool x.rd, .bool x.wt, .int .i64 x.mode, .int .i64 x.size, .slice a1 x.out.length k1, .slice a2 x.inn.length k2, .slice a3 x.back.length k3, .int .i64 x.dir, .bool x.fin, .bool x.bad, .bool x.closed, .iface T v] 66)
    refine ⟨w1.heap.size, _, _, _, rfl, Way.new w1 x _ _ _ _, HB1.out.size, owns_mono (owns_below HQ.out.1 hBn) HZ.out, owns_mono (owns_below HQ.out.2.1 hBn) HZ.out, owns_mono (owns_below HQ.out.2.2 hBn) HZ.out, fun k e e' => ?_, HB1.out.trans (hBn.mono HB1.out.size)⟩
    rcases e with e | e | e
    · have := (HQ.out.1.lt k e).2; omega
    · have := (HQ.out.2.1.lt k e).2; omega
    · have := (HQ.out.2.2.lt k e).2; omega
end Go.Proofs.Ytbffnamdpmjfnaa
