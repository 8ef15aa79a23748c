/- What the proof stands on, part 14: the contracts of the program's calls that it reaches. -/
import Derived.Test.YtdmkjbdlidadiaaGreatKO13
import Derived.Deep.DeepCutAuto
import Derived.Deep.RegionLaw
import Derived.Deep.RegionWith
/- StreamOwn: the two copies of what followed, in whatever order they are made. -/
namespace Go.Proofs.YtdmkjbdlidadiaaGreat
open Go.RowKit

set_option linter.unusedSimpArgs false in
set_option linter.unusedVariables false in
set_option maxRecDepth 100000 in
set_option maxHeartbeats 40000000 in
theorem so_r19 {x : SS} {c : UInt8} {w w4 w14 w15 w16 w17 : World} {s1 s2 s3 u1 u2 u3 v1 v2 v3 g1 g2 g3 : Option Addr} {s4 s5 s6 u4 u5 u6 v4 v5 v6 g4 g5 g6 mb gy gz : Nat} {r : Int} {y zs : SS} {u9 u11 u14 u16 u20 u21 u23 u26 u27 u28 u29 u30 u31 u32 u33 u34 u35 u36 u37 u38 u39 u40 u41 u42 u43 u44 u45 u46 u47 u48 u49 u50 u51 u52 u53 u54 u55 u56 u57 u58 u59 u60 u61 u62 u63 u64 u65 u66 u67 u68 u69 u70 u71 u72 u73 u74 u75 u76 u77 u78 u79 u80 u81 u82 u83 u84 u85 u86 u87 u88 u89 u90 u91 u92 u93 u94 u95 u96 u97 u98 u99 u100 u101 u102 u103 u104 u105 u106 u107 u112 u113 u114 u115 u116 u117 u118 u119 u120 u121 u122 u123 u124 u125 u126 u127 u128 u129 u130 u131 u132 : Value} {J KK : Act → World → Prop} {QQ : Exit → Act → World → Prop} (z17 : w16.heap.size ≤ w17.heap.size) (hgyl : gy < w16.heap.size) (hgzl : gz < w16.heap.size)
    (HYs : Hid
    (StAt w17 gy y (Value.slice u1 (List.length (SS.out y)) u4) (Value.slice u2 (List.length (SS.inn y)) u5)
      (Value.slice u3 (List.length (SS.back y)) u6)))
    (HYl : Hid
    (SIn w17 (fun k => Array.size (World.heap w14) ≤ k ∧ k < Array.size (World.heap w15)) y
      (Value.slice u1 (List.length (SS.out y)) u4) (Value.slice u2 (List.length (SS.inn y)) u5)
      (Value.slice u3 (List.length (SS.back y)) u6)))
    (HZs : Hid
    (StAt w17 gz zs (Value.slice v1 (List.length (SS.out zs)) v4) (Value.slice v2 (List.length (SS.inn zs)) v5)
      (Value.slice v3 (List.length (SS.back zs)) v6)))
    (HZl : Hid
    (SIn w17 (fun k => Array.size (World.heap w15) ≤ k ∧ k < Array.size (World.heap w16)) zs
      (Value.slice v1 (List.length (SS.out zs)) v4) (Value.slice v2 (List.length (SS.inn zs)) v5)
      (Value.slice v3 (List.length (SS.back zs)) v6)))
    (HLy : Hid
    (List.length (SS.out y) ≤ 140737488351232 ∧
      List.length (SS.inn y) ≤ 140737488351232 ∧ List.length (SS.back y) ≤ 140737488351232))
    (HLz : Hid
    (List.length (SS.out zs) ≤ 140737488351232 ∧
      List.length (SS.inn zs) ≤ 140737488351232 ∧ List.length (SS.back zs) ≤ 140737488351232))
    (hJ : ∀ (a' : Act) (w' : World),
    (∃ u9 u11 u14 u16 u24 u25 u26 u27 u28 u29 u30 u31 u32 u33 u34 u35 u36 u37 u38 u39 u40 u41 u42 u43 u44 u45 u46 u47
        u48 u49 u50 u51 u52 u53 u54 u55 u56 u57 u58 u59 u60 u61 u62 u63 u64 u65 u66 u67 u68 u69 u70 u71 u72 u73 u74 u75
        u76 u77 u78 u79 u80 u81 u82 u83 u84 u85 u86 u87 u88 u89 u90 u91 u92 u93 u94 u95 u96 u97 u98 u99 u100 u101 u102
        u103 u104 u105 u106 u107 u108 u109 u110 u111 u112 u113 u114 u115 u116 u117 u118 u119 u120 u121 u122 u123 u124
        u125 u126 u127 u128 u129 u130 u131 u132,
        (∃ g4 g5 k1 k2 k3 l1 l2 l3 k4 k5 k6 l4 l5 l6,
            u24 = Value.pointer (some { block := g4, off := 0 }) ∧
              u25 = Value.pointer (some { block := g5, off := 0 }) ∧
                Hid
                    (StAt w' g4 y (Value.slice k1 (List.length (SS.out y)) k4)
                      (Value.slice k2 (List.length (SS.inn y)) k5) (Value.slice k3 (List.length (SS.back y)) k6)) ∧
                  Hid
                      (StAt w' g5 zs (Value.slice l1 (List.length (SS.out zs)) l4)
                        (Value.slice l2 (List.length (SS.inn zs)) l5) (Value.slice l3 (List.length (SS.back zs)) l6)) ∧
                    Hid
                        (Own3 (Array.size (World.heap w17)) w' y (Value.slice k1 (List.length (SS.out y)) k4)
                          (Value.slice k2 (List.length (SS.inn y)) k5) (Value.slice k3 (List.length (SS.back y)) k6)) ∧
                      Hid
                          (Own3 (Array.size (World.heap w17)) w' zs (Value.slice l1 (List.length (SS.out zs)) l4)
                            (Value.slice l2 (List.length (SS.inn zs)) l5)
                            (Value.slice l3 (List.length (SS.back zs)) l6)) ∧
                        Hid (Below (Array.size (World.heap w17)) w17 w') ∧
                          Array.size (World.heap w17) ≤ g4 ∧ Array.size (World.heap w17) ≤ g5) ∧
          a' =
            {
              tmps :=
                #[Value.agg
                    #[Value.bool (SS.rd x), Value.bool (SS.wt x), Value.int IntKind.i64 (SS.mode x),
                      Value.int IntKind.i64 (SS.size x), Value.slice s1 (List.length (SS.out x)) s4,
                      Value.slice s2 (List.length (SS.inn x)) s5, Value.slice s3 (List.length (SS.back x)) s6,
                      Value.int IntKind.i64 (SS.dir x), Value.bool (SS.fin x), Value.bool (SS.bad x),
                      Value.bool (SS.closed x)],
                  Value.int IntKind.u8 ↑(UInt8.toNat c),
                  Value.pointer (some { block := Array.size (World.heap w), off := 0 }), undef, Value.bool false,
                  Value.pointer (some { block := mb, off := 0 }), Value.bool true, Value.nilIface,
                  Value.pointer (some { block := Array.size (World.heap w4), off := 0 }), u9, Value.int IntKind.i64 r,
                  u11, Value.int IntKind.u8 0, Value.int IntKind.i64 r, u14, Value.int IntKind.i64 r, u16,
                  Value.int IntKind.i64 r, Value.int IntKind.i64 r, Value.pointer (some { block := gy, off := 0 }), u20,
                  u21, Value.pointer (some { block := gz, off := 0 }), u23, u24, u25, u26, u27, u28, u29, u30, u31, u32,
                  u33, u34, u35, u36, u37, u38, u39, u40, u41, u42, u43, u44, u45, u46, u47, u48, u49, u50, u51, u52,
                  u53, u54, u55, u56, u57, u58, u59, u60, u61, u62, u63, u64, u65, u66, u67, u68, u69, u70, u71, u72,
                  u73, u74, u75, u76, u77, u78, u79, u80, u81, u82, u83, u84, u85, u86, u87, u88, u89, u90, u91, u92,
                  u93, u94, u95, u96, u97, u98, u99, u100, u101, u102, u103, u104, u105, u106, u107, u108, u109, u110,
                  u111, u112, u113, u114, u115, u116, u117, u118, u119, u120, u121, u122, u123, u124, u125, u126, u127,
                  u128, u129, u130, u131, u132],
              defers := [] }) →
      J a' w')
    (hKK : ∀ (a' : Act) (w' : World), Met J a' w' → KK a' w') :
    Code.wp Tryz.prog
    (Code.region 19
      #[{ dst := some 112, op := Op.load 58 (Operand.tmp 19), type := 58, pos := "law.go:279", after := #[],
          guard := none },
        { dst := some 113,
          op := Op.call { callee := Callee.value (Operand.func 21), args := #[Operand.tmp 112], argTypes := #[52] },
          type := 58, pos := "law.go:279", after := #[{ on := 0, ground := Ground.data }], guard := none },
        { dst := some 114, op := Op.load 58 (Operand.tmp 22), type := 58, pos := "law.go:279", after := #[],
          guard := none },
        { dst := some 115,
          op := Op.call { callee := Callee.value (Operand.func 21), args := #[Operand.tmp 114], argTypes := #[52] },
          type := 58, pos := "law.go:279",
          after := #[{ on := 2, ground := Ground.data }, { on := 1, ground := Ground.chain }], guard := none },
        { dst := some 24, op := Op.alloc 58, type := 0, pos := "law.go:279", after := #[], guard := none },
        { dst := some 25, op := Op.alloc 58, type := 0, pos := "law.go:279", after := #[], guard := none },
        { dst := none, op := Op.store 58 (Operand.tmp 24) (Operand.tmp 113), type := 0, pos := "law.go:279",
          after :=
            #[{ on := 4, ground := Ground.data }, { on := 1, ground := Ground.data },
              { on := 3, ground := Ground.chain }, { on := 0, ground := Ground.phase },
              { on := 1, ground := Ground.phase }, { on := 2, ground := Ground.textOnly Departure.lateStores },
              { on := 3, ground := Ground.textOnly Departure.lateStoresUnsure }, { on := 4, ground := Ground.phase },
              { on := 5, ground := Ground.phase }],
          guard := none },
        { dst := none, op := Op.store 58 (Operand.tmp 25) (Operand.tmp 115), type := 0, pos := "law.go:279",
          after :=
            #[{ on := 5, ground := Ground.data }, { on := 3, ground := Ground.data },
              { on := 6, ground := Ground.chain }, { on := 0, ground := Ground.phase },
              { on := 1, ground := Ground.phase }, { on := 2, ground := Ground.phase },
              { on := 3, ground := Ground.phase }, { on := 4, ground := Ground.phase },
              { on := 5, ground := Ground.phase }, { on := 6, ground := Ground.phase }],
          guard := none }]
      true)
    (Exit.then KK QQ)
    {
      tmps :=
        #[Value.agg
            #[Value.bool (SS.rd x), Value.bool (SS.wt x), Value.int IntKind.i64 (SS.mode x),
              Value.int IntKind.i64 (SS.size x), Value.slice s1 (List.length (SS.out x)) s4,
              Value.slice s2 (List.length (SS.inn x)) s5, Value.slice s3 (List.length (SS.back x)) s6,
              Value.int IntKind.i64 (SS.dir x), Value.bool (SS.fin x), Value.bool (SS.bad x), Value.bool (SS.closed x)],
          Value.int IntKind.u8 ↑(UInt8.toNat c), Value.pointer (some { block := Array.size (World.heap w), off := 0 }),
          undef, Value.bool false, Value.pointer (some { block := mb, off := 0 }), Value.bool true, Value.nilIface,
          Value.pointer (some { block := Array.size (World.heap w4), off := 0 }), u9, Value.int IntKind.i64 r, u11,
          Value.int IntKind.u8 0, Value.int IntKind.i64 r, u14, Value.int IntKind.i64 r, u16, Value.int IntKind.i64 r,
          Value.int IntKind.i64 r, Value.pointer (some { block := gy, off := 0 }), u20, u21,
          Value.pointer (some { block := gz, off := 0 }), u23, undef, undef, u26, u27, u28, u29, u30, u31, u32, u33,
          u34, u35, u36, u37, u38, u39, u40, u41, u42, u43, u44, u45, u46, u47, u48, u49, u50, u51, u52, u53, u54, u55,
          u56, u57, u58, u59, u60, u61, u62, u63, u64, u65, u66, u67, u68, u69, u70, u71, u72, u73, u74, u75, u76, u77,
          u78, u79, u80, u81, u82, u83, u84, u85, u86, u87, u88, u89, u90, u91, u92, u93, u94, u95, u96, u97, u98, u99,
          u100, u101, u102, u103, u104, u105, u106, u107,
          Value.agg
            #[Value.bool (SS.rd x), Value.bool (SS.wt x), Value.int IntKind.i64 (SS.mode x),
              Value.int IntKind.i64 (SS.size x), Value.slice g1 (List.length (SS.out x)) g4,
              Value.slice g2 (List.length (SS.inn x)) g5, Value.slice g3 (List.length (SS.back x)) g6,
              Value.int IntKind.i64 (SS.dir x), Value.bool (SS.fin x), Value.bool (SS.bad x), Value.bool (SS.closed x)],
          Value.agg
            #[Value.bool (SS.rd x), Value.bool (SS.wt x), Value.int IntKind.i64 (SS.mode x),
              Value.int IntKind.i64 (SS.size x), Value.slice s1 (List.length (SS.out x)) s4,
              Value.slice s2 (List.length (SS.inn x)) s5, Value.slice s3 (List.length (SS.back x)) s6,
              Value.int IntKind.i64 (SS.dir x), Value.bool (SS.fin x), Value.bool (SS.bad x), Value.bool (SS.closed x)],
          Value.bool true, Value.bool false, u112, u113, u114, u115, u116, u117, u118, u119, u120, u121, u122, u123,
          u124, u125, u126, u127, u128, u129, u130, u131, u132],
      defers := [] }
    w17 := by
  refine wp_region_noPanic ?_
  refine wp_region_held_drew (S := fun W => StAt W gy y (.slice u1 y.out.length u4) (.slice u2 y.inn.length u5) (.slice u3 y.back.length u6) ∧ StAt W gz zs (.slice v1 zs.out.length v4) (.slice v2 zs.inn.length v5) (.slice v3 zs.back.length v6)) (by kernel_rfl) (⟨HYs.out.below (Below.refl _ _).drew, HZs.out.below (Below.refl _ _).drew⟩) (fun hHeld => ?_)
  refine wpAnyH_take (i := 0) (oi := ?_) (v := ?_) ?_ (by kernel_rfl) (by kernel_rfl) (by kernel_rfl) (fun _ _ _ h => (h : False).elim) (Or.inl ⟨?_, ?_⟩) hHeld ?_
  rotate_left 2
  · (simp only [List.getElem?_toArray, List.getElem?_cons_zero]; rfl)
  · rfl
  · (intro W hSw; obtain ⟨hq1, hq2⟩ := hSw; obtain ⟨m0, m1, m2, m3, m4, m5, m6, m7, m8, m9, m10⟩ := hq1.cs; obtain ⟨n0, n1, n2, n3, n4, n5, n6, n7, n8, n9, n10⟩ := hq2.cs; go_simp <;> with_reducible rfl)
  try simp only [Act.put, List.setIfInBounds_toArray, List.set_cons_zero, List.set_cons_succ]
  refine wpAnyH_take (i := 2) (oi := ?_) (v := ?_) ?_ (by kernel_rfl) (by kernel_rfl) (by kernel_rfl) (fun _ _ _ h => (h : False).elim) (Or.inl ⟨?_, ?_⟩) hHeld ?_
  rotate_left 2
  · (simp only [List.getElem?_toArray, List.getElem?_cons_zero, List.getElem?_cons_succ]; rfl)
  · rfl
  · (intro W hSw; obtain ⟨hq1, hq2⟩ := hSw; obtain ⟨m0, m1, m2, m3, m4, m5, m6, m7, m8, m9, m10⟩ := hq1.cs; obtain ⟨n0, n1, n2, n3, n4, n5, n6, n7, n8, n9, n10⟩ := hq2.cs; go_simp <;> with_reducible rfl)
  try simp only [Act.put, List.setIfInBounds_toArray, List.set_cons_zero, List.set_cons_succ]
  have HBc : Hid (Below w17.heap.size w17 w17.drew) := hide (Below.refl _ _).drew
  generalize w17.drew = W0 at *
  refine wpAnyH_ready (rs := [1, 4, 5]) (by kernel_rfl) (by simp) ?_
  refine AllReadyH.cons (o := ?_) ?_ (fun K' hK => ?_) (AllReadyH.cons (o := ?_) ?_ (fun K' hK => ?_) (AllReadyH.cons (o := ?_) ?_ (fun K' hK => ?_) AllReadyH.nil))
  rotate_left 1
  · (simp only [List.getElem?_toArray, List.getElem?_cons_zero, List.getElem?_cons_succ]; rfl)
  · go_simp
    go_at_call 21
    refine (given_any y _ _ _ _ _ (HYl.out.below HBc.out) HLy.out.1 HLy.out.2.1 HLy.out.2.2).mono ?_
    rintro _ W1 ⟨o1, i1, b1, rfl, y1, y2, y3, hB, hAp⟩
    obtain ⟨k1, k4, rfl⟩ := owns_slice y1
    obtain ⟨k2, k5, rfl⟩ := owns_slice y2
    obtain ⟨k3, k6, rfl⟩ := owns_slice y3
    have HK : Hid (Own3 w17.heap.size W1 y (.slice k1 y.out.length k4) (.slice k2 y.inn.length k5) (.slice k3 y.back.length k6)) := hide (Own3.mono ⟨y1, y2, y3, hAp⟩ HBc.out.size)
    replace HBc := hide (HBc.out.trans (hB.mono HBc.out.size))
    clear hB y1 y2 y3 hAp
    refine hK.out _ _ (⟨HYs.out.below HBc.out, HZs.out.below HBc.out⟩) (fun hHeld2 => ?_)
    clear hK K' hHeld
    have hHeld := hHeld2
    clear hHeld2
    try simp only [Act.put, List.setIfInBounds_toArray, List.set_cons_zero, List.set_cons_succ]
    refine wpAnyH_ready (rs := [3, 4, 5]) (by kernel_rfl) (by simp) ?_
    refine AllReadyH.cons (o := ?_) ?_ (fun K' hK => ?_) (AllReadyH.cons (o := ?_) ?_ (fun K' hK => ?_) (AllReadyH.cons (o := ?_) ?_ (fun K' hK => ?_) AllReadyH.nil))
    rotate_left 1
    · (simp only [List.getElem?_toArray, List.getElem?_cons_zero, List.getElem?_cons_succ]; rfl)
    · go_simp
      go_at_call 21
      refine (given_any zs _ _ _ _ _ (HZl.out.below HBc.out) HLz.out.1 HLz.out.2.1 HLz.out.2.2).mono ?_
      rintro _ W2 ⟨o1, i1, b1, rfl, y1, y2, y3, hB, hAp⟩
      obtain ⟨l1, l4, rfl⟩ := owns_slice y1
      obtain ⟨l2, l5, rfl⟩ := owns_slice y2
      obtain ⟨l3, l6, rfl⟩ := owns_slice y3
      have HL : Hid (Own3 w17.heap.size W2 zs (.slice l1 zs.out.length l4) (.slice l2 zs.inn.length l5) (.slice l3 zs.back.length l6)) := hide (Own3.mono ⟨y1, y2, y3, hAp⟩ HBc.out.size)
      replace HBc := hide (HBc.out.trans (hB.mono HBc.out.size))
      replace HK := hide (HK.out.below hB)
      clear hB y1 y2 y3 hAp
      refine hK.out _ _ (⟨HYs.out.below HBc.out, HZs.out.below HBc.out⟩) (fun hHeld2 => ?_)
      clear hK K' hHeld
      have hHeld := hHeld2
      clear hHeld2
      try simp only [Act.put, List.setIfInBounds_toArray, List.set_cons_zero, List.set_cons_succ]
      refine wpAnyH_ready (rs := [4, 5]) (by kernel_rfl) (by simp) ?_
      refine AllReadyH.cons (o := ?_) ?_ (fun K' hK => ?_) (AllReadyH.cons (o := ?_) ?_ (fun K' hK => ?_) AllReadyH.nil)
      rotate_left 1
      · (simp only [List.getElem?_toArray, List.getElem?_cons_zero, List.getElem?_cons_succ]; rfl)
      · go_simp
        have hA := recv_below W2 (Obj.cells #[.bool false, .bool false, .int .i64 0, .int .i64 0, .slice none 0 0, .slice none 0 0, .slice none 0 0, .int .i64 0, .bool false, .bool false, .bool false] 58)
        have HZ4 := hide (heap_alloc_new W2 (Obj.cells #[.bool false, .bool false, .int .i64 0, .int .i64 0, .slice none 0 0, .slice none 0 0, .slice none 0 0, .int .i64 0, .bool false, .bool false, .bool false] 58))
        have hg4 : w17.heap.size ≤ W2.heap.size := HBc.out.size
        replace HBc := hide (HBc.out.trans (hA.mono HBc.out.size))
        replace HK := hide (HK.out.below hA)
        replace HL := hide (HL.out.below hA)
        clear hA
        generalize W2.alloc (Obj.cells #[.bool false, .bool false, .int .i64 0, .int .i64 0, .slice none 0 0, .slice none 0 0, .slice none 0 0, .int .i64 0, .bool false, .bool false, .bool false] 58) = W3 at *
        refine hK.out _ _ (⟨HYs.out.below HBc.out, HZs.out.below HBc.out⟩) (fun hHeld2 => ?_)
        clear hK K' hHeld
        have hHeld := hHeld2
        clear hHeld2
        try simp only [Act.put, List.setIfInBounds_toArray, List.set_cons_zero, List.set_cons_succ]
        refine wpAnyH_ready (rs := [5]) (by kernel_rfl) (by simp) ?_
        refine AllReadyH.cons (o := ?_) ?_ (fun K' hK => ?_) AllReadyH.nil
        rotate_left 1
        · (simp only [List.getElem?_toArray, List.getElem?_cons_zero, List.getElem?_cons_succ]; rfl)
        · go_simp
          have hA := recv_below W3 (Obj.cells #[.bool false, .bool false, .int .i64 0, .int .i64 0, .slice none 0 0, .slice none 0 0, .slice none 0 0, .int .i64 0, .bool false, .bool false, .bool false] 58)
          have HZ5 := hide (heap_alloc_new W3 (Obj.cells #[.bool false, .bool false, .int .i64 0, .int .i64 0, .slice none 0 0, .slice none 0 0, .slice none 0 0, .int .i64 0, .bool false, .bool false, .bool false] 58))
          have hg5 : w17.heap.size ≤ W3.heap.size := HBc.out.size
          have hne : W2.heap.size < W3.heap.size := (Array.getElem?_eq_some_iff.1 HZ4.out).1
          replace HBc := hide (HBc.out.trans (hA.mono HBc.out.size))
          replace HK := hide (HK.out.below hA)
          replace HL := hide (HL.out.below hA)
          replace HZ4 : Hid ((W3.alloc (Obj.cells #[.bool false, .bool false, .int .i64 0, .int .i64 0, .slice none 0 0, .slice none 0 0, .slice none 0 0, .int .i64 0, .bool false, .bool false, .bool false] 58)).heap[W2.heap.size]? = some (Obj.cells #[.bool false, .bool false, .int .i64 0, .int .i64 0, .slice none 0 0, .slice none 0 0, .slice none 0 0, .int .i64 0, .bool false, .bool false, .bool false] 58)) := hide ((hA.block _ (Array.getElem?_eq_some_iff.1 HZ4.out).1).trans HZ4.out)
          clear hA
          generalize W3.alloc (Obj.cells #[.bool false, .bool false, .int .i64 0, .int .i64 0, .slice none 0 0, .slice none 0 0, .slice none 0 0, .int .i64 0, .bool false, .bool false, .bool false] 58) = W4 at *
          refine hK.out _ _ (⟨HYs.out.below HBc.out, HZs.out.below HBc.out⟩) (fun hHeld2 => ?_)
          clear hK K' hHeld
          have hHeld := hHeld2
          clear hHeld2
          try simp only [Act.put, List.setIfInBounds_toArray, List.set_cons_zero, List.set_cons_succ]
          have pf0 := frozen_of_row W4 W2.heap.size 0 _ _ HZ4.out
          have pf1 := frozen_of_row W4 W2.heap.size 1 _ _ HZ4.out
          have pf2 := frozen_of_row W4 W2.heap.size 2 _ _ HZ4.out
          have pf3 := frozen_of_row W4 W2.heap.size 3 _ _ HZ4.out
          have pf4 := frozen_of_row W4 W2.heap.size 4 _ _ HZ4.out
          have pf5 := frozen_of_row W4 W2.heap.size 5 _ _ HZ4.out
          have pf6 := frozen_of_row W4 W2.heap.size 6 _ _ HZ4.out
          have pf7 := frozen_of_row W4 W2.heap.size 7 _ _ HZ4.out
          have pf8 := frozen_of_row W4 W2.heap.size 8 _ _ HZ4.out
          have pf9 := frozen_of_row W4 W2.heap.size 9 _ _ HZ4.out
          have pf10 := frozen_of_row W4 W2.heap.size 10 _ _ HZ4.out
          have pc0 := cell_of_row W4 W2.heap.size 0 _ _ _ HZ4.out
          have pc1 := cell_of_row W4 W2.heap.size 1 _ _ _ HZ4.out
          have pc2 := cell_of_row W4 W2.heap.size 2 _ _ _ HZ4.out
          have pc3 := cell_of_row W4 W2.heap.size 3 _ _ _ HZ4.out
          have pc4 := cell_of_row W4 W2.heap.size 4 _ _ _ HZ4.out
          have pc5 := cell_of_row W4 W2.heap.size 5 _ _ _ HZ4.out
          have pc6 := cell_of_row W4 W2.heap.size 6 _ _ _ HZ4.out
          have pc7 := cell_of_row W4 W2.heap.size 7 _ _ _ HZ4.out
          have pc8 := cell_of_row W4 W2.heap.size 8 _ _ _ HZ4.out
          have pc9 := cell_of_row W4 W2.heap.size 9 _ _ _ HZ4.out
          have pc10 := cell_of_row W4 W2.heap.size 10 _ _ _ HZ4.out
          simp at pc0 pc1 pc2 pc3 pc4 pc5 pc6 pc7 pc8 pc9 pc10
          refine wpAnyH_ready (rs := [6]) (by kernel_rfl) (by simp) ?_
          refine AllReadyH.cons (o := ?_) ?_ (fun K' hK => ?_) AllReadyH.nil
          rotate_left 1
          · (simp only [List.getElem?_toArray, List.getElem?_cons_zero, List.getElem?_cons_succ]; rfl)
          · obtain ⟨e1, e2⟩ := st_fill W4 W2.heap.size y (.slice k1 y.out.length k4) (.slice k2 y.inn.length k5) (.slice k3 y.back.length k6) HZ4.out
            have HD4 := hide e1
            replace HBc := hide (HBc.out.trans (e2.below (B := w17.heap.size) (fun k e => by have e3 : k = W2.heap.size := e; omega) HBc.out.size))
            replace HK := hide (Own3.past HK.out e2 HZ4.out)
            replace HL := hide (Own3.past HL.out e2 HZ4.out)
            replace HZ5 := hide ((e2.block _ (Array.getElem?_eq_some_iff.1 HZ5.out).1 (by show ¬ _ = W2.heap.size; omega)).trans HZ5.out)
            clear HZ4 e1 e2
            go_simp
            clear pf0 pf1 pf2 pf3 pf4 pf5 pf6 pf7 pf8 pf9 pf10 pc0 pc1 pc2 pc3 pc4 pc5 pc6 pc7 pc8 pc9 pc10
            generalize ((((((((((W4.setCell ⟨W2.heap.size, 0, none⟩ (.bool y.rd)).setCell ⟨W2.heap.size, 1, none⟩ (.bool y.wt)).setCell ⟨W2.heap.size, 2, none⟩ (.int .i64 y.mode)).setCell ⟨W2.heap.size, 3, none⟩ (.int .i64 y.size)).setCell ⟨W2.heap.size, 4, none⟩ (.slice k1 y.out.length k4)).setCell ⟨W2.heap.size, 5, none⟩ (.slice k2 y.inn.length k5)).setCell ⟨W2.heap.size, 6, none⟩ (.slice k3 y.back.length k6)).setCell ⟨W2.heap.size, 7, none⟩ (.int .i64 y.dir)).setCell ⟨W2.heap.size, 8, none⟩ (.bool y.fin)).setCell ⟨W2.heap.size, 9, none⟩ (.bool y.bad)).setCell ⟨W2.heap.size, 10, none⟩ (.bool y.closed) = W5 at *
            refine hK.out _ _ (⟨HYs.out.below HBc.out, HZs.out.below HBc.out⟩) (fun hHeld2 => ?_)
            clear hK K' hHeld
            have hHeld := hHeld2
            clear hHeld2
            try simp only [Act.put, List.setIfInBounds_toArray, List.set_cons_zero, List.set_cons_succ]
            have rf0 := frozen_of_row W5 W3.heap.size 0 _ _ HZ5.out
            have rf1 := frozen_of_row W5 W3.heap.size 1 _ _ HZ5.out
            have rf2 := frozen_of_row W5 W3.heap.size 2 _ _ HZ5.out
            have rf3 := frozen_of_row W5 W3.heap.size 3 _ _ HZ5.out
            have rf4 := frozen_of_row W5 W3.heap.size 4 _ _ HZ5.out
            have rf5 := frozen_of_row W5 W3.heap.size 5 _ _ HZ5.out
            have rf6 := frozen_of_row W5 W3.heap.size 6 _ _ HZ5.out
            have rf7 := frozen_of_row W5 W3.heap.size 7 _ _ HZ5.out
            have rf8 := frozen_of_row W5 W3.heap.size 8 _ _ HZ5.out
            have rf9 := frozen_of_row W5 W3.heap.size 9 _ _ HZ5.out
            have rf10 := frozen_of_row W5 W3.heap.size 10 _ _ HZ5.out
            have rc0 := cell_of_row W5 W3.heap.size 0 _ _ _ HZ5.out
            have rc1 := cell_of_row W5 W3.heap.size 1 _ _ _ HZ5.out
            have rc2 := cell_of_row W5 W3.heap.size 2 _ _ _ HZ5.out
            have rc3 := cell_of_row W5 W3.heap.size 3 _ _ _ HZ5.out
            have rc4 := cell_of_row W5 W3.heap.size 4 _ _ _ HZ5.out
            have rc5 := cell_of_row W5 W3.heap.size 5 _ _ _ HZ5.out
            have rc6 := cell_of_row W5 W3.heap.size 6 _ _ _ HZ5.out
            have rc7 := cell_of_row W5 W3.heap.size 7 _ _ _ HZ5.out
            have rc8 := cell_of_row W5 W3.heap.size 8 _ _ _ HZ5.out
            have rc9 := cell_of_row W5 W3.heap.size 9 _ _ _ HZ5.out
            have rc10 := cell_of_row W5 W3.heap.size 10 _ _ _ HZ5.out
            simp at rc0 rc1 rc2 rc3 rc4 rc5 rc6 rc7 rc8 rc9 rc10
            refine wpAnyH_ready (rs := [7]) (by kernel_rfl) (by simp) ?_
            refine AllReadyH.cons (o := ?_) ?_ (fun K' hK => ?_) AllReadyH.nil
            rotate_left 1
            · (simp only [List.getElem?_toArray, List.getElem?_cons_zero, List.getElem?_cons_succ]; rfl)
            · obtain ⟨e1, e2⟩ := st_fill W5 W3.heap.size zs (.slice l1 zs.out.length l4) (.slice l2 zs.inn.length l5) (.slice l3 zs.back.length l6) HZ5.out
              have HD5 := hide e1
              replace HBc := hide (HBc.out.trans (e2.below (B := w17.heap.size) (fun k e => by have e3 : k = W3.heap.size := e; omega) HBc.out.size))
              replace HK := hide (Own3.past HK.out e2 HZ5.out)
              replace HL := hide (Own3.past HL.out e2 HZ5.out)
              replace HD4 := hide (StAt.turned1 HD4.out e2 (by omega))
              clear HZ5 e1 e2
              go_simp
              clear rf0 rf1 rf2 rf3 rf4 rf5 rf6 rf7 rf8 rf9 rf10 rc0 rc1 rc2 rc3 rc4 rc5 rc6 rc7 rc8 rc9 rc10
              generalize ((((((((((W5.setCell ⟨W3.heap.size, 0, none⟩ (.bool zs.rd)).setCell ⟨W3.heap.size, 1, none⟩ (.bool zs.wt)).setCell ⟨W3.heap.size, 2, none⟩ (.int .i64 zs.mode)).setCell ⟨W3.heap.size, 3, none⟩ (.int .i64 zs.size)).setCell ⟨W3.heap.size, 4, none⟩ (.slice l1 zs.out.length l4)).setCell ⟨W3.heap.size, 5, none⟩ (.slice l2 zs.inn.length l5)).setCell ⟨W3.heap.size, 6, none⟩ (.slice l3 zs.back.length l6)).setCell ⟨W3.heap.size, 7, none⟩ (.int .i64 zs.dir)).setCell ⟨W3.heap.size, 8, none⟩ (.bool zs.fin)).setCell ⟨W3.heap.size, 9, none⟩ (.bool zs.bad)).setCell ⟨W3.heap.size, 10, none⟩ (.bool zs.closed) = W6 at *
              refine hK.out _ _ (⟨HYs.out.below HBc.out, HZs.out.below HBc.out⟩) (fun hHeld2 => ?_)
              clear hK K' hHeld
              have hHeld := hHeld2
              clear hHeld2
              try simp only [Act.put, List.setIfInBounds_toArray, List.set_cons_zero, List.set_cons_succ]
              refine wpAnyH_done (by kernel_rfl) ?_ _
              refine NoPanic.normal ?_
              clear hHeld
              go_wp2
              go_meet
              exact ⟨_, _, _, _, _, _, _, _, _, _, _, _, _, _, rfl, rfl, HD4, HD5, HK, HL, HBc, by omega, by omega⟩
      rotate_left 1
      · (simp only [List.getElem?_toArray, List.getElem?_cons_zero, List.getElem?_cons_succ]; rfl)
      · go_simp
        have hA := recv_below W2 (Obj.cells #[.bool false, .bool false, .int .i64 0, .int .i64 0, .slice none 0 0, .slice none 0 0, .slice none 0 0, .int .i64 0, .bool false, .bool false, .bool false] 58)
        have HZ5 := hide (heap_alloc_new W2 (Obj.cells #[.bool false, .bool false, .int .i64 0, .int .i64 0, .slice none 0 0, .slice none 0 0, .slice none 0 0, .int .i64 0, .bool false, .bool false, .bool false] 58))
        have hg5 : w17.heap.size ≤ W2.heap.size := HBc.out.size
        replace HBc := hide (HBc.out.trans (hA.mono HBc.out.size))
        replace HK := hide (HK.out.below hA)
        replace HL := hide (HL.out.below hA)
        clear hA
        generalize W2.alloc (Obj.cells #[.bool false, .bool false, .int .i64 0, .int .i64 0, .slice none 0 0, .slice none 0 0, .slice none 0 0, .int .i64 0, .bool false, .bool false, .bool false] 58) = W7 at *
        refine hK.out _ _ (⟨HYs.out.below HBc.out, HZs.out.below HBc.out⟩) (fun hHeld2 => ?_)
        clear hK K' hHeld
        have hHeld := hHeld2
        clear hHeld2
        try simp only [Act.put, List.setIfInBounds_toArray, List.set_cons_zero, List.set_cons_succ]
        refine wpAnyH_ready (rs := [4]) (by kernel_rfl) (by simp) ?_
        refine AllReadyH.cons (o := ?_) ?_ (fun K' hK => ?_) AllReadyH.nil
        rotate_left 1
        · (simp only [List.getElem?_toArray, List.getElem?_cons_zero, List.getElem?_cons_succ]; rfl)
        · go_simp
          have hA := recv_below W7 (Obj.cells #[.bool false, .bool false, .int .i64 0, .int .i64 0, .slice none 0 0, .slice none 0 0, .slice none 0 0, .int .i64 0, .bool false, .bool false, .bool false] 58)
          have HZ4 := hide (heap_alloc_new W7 (Obj.cells #[.bool false, .bool false, .int .i64 0, .int .i64 0, .slice none 0 0, .slice none 0 0, .slice none 0 0, .int .i64 0, .bool false, .bool false, .bool false] 58))
          have hg4 : w17.heap.size ≤ W7.heap.size := HBc.out.size
          have hne : W2.heap.size < W7.heap.size := (Array.getElem?_eq_some_iff.1 HZ5.out).1
          replace HBc := hide (HBc.out.trans (hA.mono HBc.out.size))
          replace HK := hide (HK.out.below hA)
          replace HL := hide (HL.out.below hA)
          replace HZ5 : Hid ((W7.alloc (Obj.cells #[.bool false, .bool false, .int .i64 0, .int .i64 0, .slice none 0 0, .slice none 0 0, .slice none 0 0, .int .i64 0, .bool false, .bool false, .bool false] 58)).heap[W2.heap.size]? = some (Obj.cells #[.bool false, .bool false, .int .i64 0, .int .i64 0, .slice none 0 0, .slice none 0 0, .slice none 0 0, .int .i64 0, .bool false, .bool false, .bool false] 58)) := hide ((hA.block _ (Array.getElem?_eq_some_iff.1 HZ5.out).1).trans HZ5.out)
          clear hA
          generalize W7.alloc (Obj.cells #[.bool false, .bool false, .int .i64 0, .int .i64 0, .slice none 0 0, .slice none 0 0, .slice none 0 0, .int .i64 0, .bool false, .bool false, .bool false] 58) = W8 at *
          refine hK.out _ _ (⟨HYs.out.below HBc.out, HZs.out.below HBc.out⟩) (fun hHeld2 => ?_)
          clear hK K' hHeld
          have hHeld := hHeld2
          clear hHeld2
          try simp only [Act.put, List.setIfInBounds_toArray, List.set_cons_zero, List.set_cons_succ]
          have pf0 := frozen_of_row W8 W7.heap.size 0 _ _ HZ4.out
          have pf1 := frozen_of_row W8 W7.heap.size 1 _ _ HZ4.out
          have pf2 := frozen_of_row W8 W7.heap.size 2 _ _ HZ4.out
          have pf3 := frozen_of_row W8 W7.heap.size 3 _ _ HZ4.out
          have pf4 := frozen_of_row W8 W7.heap.size 4 _ _ HZ4.out
          have pf5 := frozen_of_row W8 W7.heap.size 5 _ _ HZ4.out
          have pf6 := frozen_of_row W8 W7.heap.size 6 _ _ HZ4.out
          have pf7 := frozen_of_row W8 W7.heap.size 7 _ _ HZ4.out
          have pf8 := frozen_of_row W8 W7.heap.size 8 _ _ HZ4.out
          have pf9 := frozen_of_row W8 W7.heap.size 9 _ _ HZ4.out
          have pf10 := frozen_of_row W8 W7.heap.size 10 _ _ HZ4.out
          have pc0 := cell_of_row W8 W7.heap.size 0 _ _ _ HZ4.out
          have pc1 := cell_of_row W8 W7.heap.size 1 _ _ _ HZ4.out
          have pc2 := cell_of_row W8 W7.heap.size 2 _ _ _ HZ4.out
          have pc3 := cell_of_row W8 W7.heap.size 3 _ _ _ HZ4.out
          have pc4 := cell_of_row W8 W7.heap.size 4 _ _ _ HZ4.out
          have pc5 := cell_of_row W8 W7.heap.size 5 _ _ _ HZ4.out
          have pc6 := cell_of_row W8 W7.heap.size 6 _ _ _ HZ4.out
          have pc7 := cell_of_row W8 W7.heap.size 7 _ _ _ HZ4.out
          have pc8 := cell_of_row W8 W7.heap.size 8 _ _ _ HZ4.out
          have pc9 := cell_of_row W8 W7.heap.size 9 _ _ _ HZ4.out
          have pc10 := cell_of_row W8 W7.heap.size 10 _ _ _ HZ4.out
          simp at pc0 pc1 pc2 pc3 pc4 pc5 pc6 pc7 pc8 pc9 pc10
          refine wpAnyH_ready (rs := [6]) (by kernel_rfl) (by simp) ?_
          refine AllReadyH.cons (o := ?_) ?_ (fun K' hK => ?_) AllReadyH.nil
          rotate_left 1
          · (simp only [List.getElem?_toArray, List.getElem?_cons_zero, List.getElem?_cons_succ]; rfl)
          · obtain ⟨e1, e2⟩ := st_fill W8 W7.heap.size y (.slice k1 y.out.length k4) (.slice k2 y.inn.length k5) (.slice k3 y.back.length k6) HZ4.out
            have HD4 := hide e1
            replace HBc := hide (HBc.out.trans (e2.below (B := w17.heap.size) (fun k e => by have e3 : k = W7.heap.size := e; omega) HBc.out.size))
            replace HK := hide (Own3.past HK.out e2 HZ4.out)
            replace HL := hide (Own3.past HL.out e2 HZ4.out)
            replace HZ5 := hide ((e2.block _ (Array.getElem?_eq_some_iff.1 HZ5.out).1 (by show ¬ _ = W7.heap.size; omega)).trans HZ5.out)
            clear HZ4 e1 e2
            go_simp
            clear pf0 pf1 pf2 pf3 pf4 pf5 pf6 pf7 pf8 pf9 pf10 pc0 pc1 pc2 pc3 pc4 pc5 pc6 pc7 pc8 pc9 pc10
            generalize ((((((((((W8.setCell ⟨W7.heap.size, 0, none⟩ (.bool y.rd)).setCell ⟨W7.heap.size, 1, none⟩ (.bool y.wt)).setCell ⟨W7.heap.size, 2, none⟩ (.int .i64 y.mode)).setCell ⟨W7.heap.size, 3, none⟩ (.int .i64 y.size)).setCell ⟨W7.heap.size, 4, none⟩ (.slice k1 y.out.length k4)).setCell ⟨W7.heap.size, 5, none⟩ (.slice k2 y.inn.length k5)).setCell ⟨W7.heap.size, 6, none⟩ (.slice k3 y.back.length k6)).setCell ⟨W7.heap.size, 7, none⟩ (.int .i64 y.dir)).setCell ⟨W7.heap.size, 8, none⟩ (.bool y.fin)).setCell ⟨W7.heap.size, 9, none⟩ (.bool y.bad)).setCell ⟨W7.heap.size, 10, none⟩ (.bool y.closed) = W9 at *
            refine hK.out _ _ (⟨HYs.out.below HBc.out, HZs.out.below HBc.out⟩) (fun hHeld2 => ?_)
            clear hK K' hHeld
            have hHeld := hHeld2
            clear hHeld2
            try simp only [Act.put, List.setIfInBounds_toArray, List.set_cons_zero, List.set_cons_succ]
            have rf0 := frozen_of_row W9 W2.heap.size 0 _ _ HZ5.out
            have rf1 := frozen_of_row W9 W2.heap.size 1 _ _ HZ5.out
            have rf2 := frozen_of_row W9 W2.heap.size 2 _ _ HZ5.out
            have rf3 := frozen_of_row W9 W2.heap.size 3 _ _ HZ5.out
            have rf4 := frozen_of_row W9 W2.heap.size 4 _ _ HZ5.out
            have rf5 := frozen_of_row W9 W2.heap.size 5 _ _ HZ5.out
            have rf6 := frozen_of_row W9 W2.heap.size 6 _ _ HZ5.out
            have rf7 := frozen_of_row W9 W2.heap.size 7 _ _ HZ5.out
            have rf8 := frozen_of_row W9 W2.heap.size 8 _ _ HZ5.out
            have rf9 := frozen_of_row W9 W2.heap.size 9 _ _ HZ5.out
            have rf10 := frozen_of_row W9 W2.heap.size 10 _ _ HZ5.out
            have rc0 := cell_of_row W9 W2.heap.size 0 _ _ _ HZ5.out
            have rc1 := cell_of_row W9 W2.heap.size 1 _ _ _ HZ5.out
            have rc2 := cell_of_row W9 W2.heap.size 2 _ _ _ HZ5.out
            have rc3 := cell_of_row W9 W2.heap.size 3 _ _ _ HZ5.out
            have rc4 := cell_of_row W9 W2.heap.size 4 _ _ _ HZ5.out
            have rc5 := cell_of_row W9 W2.heap.size 5 _ _ _ HZ5.out
            have rc6 := cell_of_row W9 W2.heap.size 6 _ _ _ HZ5.out
            have rc7 := cell_of_row W9 W2.heap.size 7 _ _ _ HZ5.out
            have rc8 := cell_of_row W9 W2.heap.size 8 _ _ _ HZ5.out
            have rc9 := cell_of_row W9 W2.heap.size 9 _ _ _ HZ5.out
            have rc10 := cell_of_row W9 W2.heap.size 10 _ _ _ HZ5.out
            simp at rc0 rc1 rc2 rc3 rc4 rc5 rc6 rc7 rc8 rc9 rc10
            refine wpAnyH_ready (rs := [7]) (by kernel_rfl) (by simp) ?_
            refine AllReadyH.cons (o := ?_) ?_ (fun K' hK => ?_) AllReadyH.nil
            rotate_left 1
            · (simp only [List.getElem?_toArray, List.getElem?_cons_zero, List.getElem?_cons_succ]; rfl)
            · obtain ⟨e1, e2⟩ := st_fill W9 W2.heap.size zs (.slice l1 zs.out.length l4) (.slice l2 zs.inn.length l5) (.slice l3 zs.back.length l6) HZ5.out
              have HD5 := hide e1
              replace HBc := hide (HBc.out.trans (e2.below (B := w17.heap.size) (fun k e => by have e3 : k = W2.heap.size := e; omega) HBc.out.size))
              replace HK := hide (Own3.past HK.out e2 HZ5.out)
              replace HL := hide (Own3.past HL.out e2 HZ5.out)
              replace HD4 := hide (StAt.turned1 HD4.out e2 (by omega))
              clear HZ5 e1 e2
              go_simp
              clear rf0 rf1 rf2 rf3 rf4 rf5 rf6 rf7 rf8 rf9 rf10 rc0 rc1 rc2 rc3 rc4 rc5 rc6 rc7 rc8 rc9 rc10
              generalize ((((((((((W9.setCell ⟨W2.heap.size, 0, none⟩ (.bool zs.rd)).setCell ⟨W2.heap.size, 1, none⟩ (.bool zs.wt)).setCell ⟨W2.heap.size, 2, none⟩ (.int .i64 zs.mode)).setCell ⟨W2.heap.size, 3, none⟩ (.int .i64 zs.size)).setCell ⟨W2.heap.size, 4, none⟩ (.slice l1 zs.out.length l4)).setCell ⟨W2.heap.size, 5, none⟩ (.slice l2 zs.inn.length l5)).setCell ⟨W2.heap.size, 6, none⟩ (.slice l3 zs.back.length l6)).setCell ⟨W2.heap.size, 7, none⟩ (.int .i64 zs.dir)).setCell ⟨W2.heap.size, 8, none⟩ (.bool zs.fin)).setCell ⟨W2.heap.size, 9, none⟩ (.bool zs.bad)).setCell ⟨W2.heap.size, 10, none⟩ (.bool zs.closed) = W10 at *
              refine hK.out _ _ (⟨HYs.out.below HBc.out, HZs.out.below HBc.out⟩) (fun hHeld2 => ?_)
              clear hK K' hHeld
              have hHeld := hHeld2
              clear hHeld2
              try simp only [Act.put, List.setIfInBounds_toArray, List.set_cons_zero, List.set_cons_succ]
              refine wpAnyH_done (by kernel_rfl) ?_ _
              refine NoPanic.normal ?_
              clear hHeld
              go_wp2
              go_meet
              exact ⟨_, _, _, _, _, _, _, _, _, _, _, _, _, _, rfl, rfl, HD4, HD5, HK, HL, HBc, by omega, by omega⟩
    rotate_left 1
    · (simp only [List.getElem?_toArray, List.getElem?_cons_zero, List.getElem?_cons_succ]; rfl)
    · go_simp
      have hA := recv_below W1 (Obj.cells #[.bool false, .bool false, .int .i64 0, .int .i64 0, .slice none 0 0, .slice none 0 0, .slice none 0 0, .int .i64 0, .bool false, .bool false, .bool false] 58)
      have HZ4 := hide (heap_alloc_new W1 (Obj.cells #[.bool false, .bool false, .int .i64 0, .int .i64 0, .slice none 0 0, .slice none 0 0, .slice none 0 0, .int .i64 0, .bool false, .bool false, .bool false] 58))
      have hg4 : w17.heap.size ≤ W1.heap.size := HBc.out.size
      replace HBc := hide (HBc.out.trans (hA.mono HBc.out.size))
      replace HK := hide (HK.out.below hA)
      clear hA
      generalize W1.alloc (Obj.cells #[.bool false, .bool false, .int .i64 0, .int .i64 0, .slice none 0 0, .slice none 0 0, .slice none 0 0, .int .i64 0, .bool false, .bool false, .bool false] 58) = W11 at *
      refine hK.out _ _ (⟨HYs.out.below HBc.out, HZs.out.below HBc.out⟩) (fun hHeld2 => ?_)
      clear hK K' hHeld
      have hHeld := hHeld2
      clear hHeld2
      try simp only [Act.put, List.setIfInBounds_toArray, List.set_cons_zero, List.set_cons_succ]
      refine wpAnyH_ready (rs := [3, 5]) (by kernel_rfl) (by simp) ?_
      refine AllReadyH.cons (o := ?_) ?_ (fun K' hK => ?_) (AllReadyH.cons (o := ?_) ?_ (fun K' hK => ?_) AllReadyH.nil)
      rotate_left 1
      · (simp only [List.getElem?_toArray, List.getElem?_cons_zero, List.getElem?_cons_succ]; rfl)
      · go_simp
        go_at_call 21
        refine (given_any zs _ _ _ _ _ (HZl.out.below HBc.out) HLz.out.1 HLz.out.2.1 HLz.out.2.2).mono ?_
        rintro _ W12 ⟨o1, i1, b1, rfl, y1, y2, y3, hB, hAp⟩
        obtain ⟨l1, l4, rfl⟩ := owns_slice y1
        obtain ⟨l2, l5, rfl⟩ := owns_slice y2
        obtain ⟨l3, l6, rfl⟩ := owns_slice y3
        have HL : Hid (Own3 w17.heap.size W12 zs (.slice l1 zs.out.length l4) (.slice l2 zs.inn.length l5) (.slice l3 zs.back.length l6)) := hide (Own3.mono ⟨y1, y2, y3, hAp⟩ HBc.out.size)
        replace HBc := hide (HBc.out.trans (hB.mono HBc.out.size))
        replace HK := hide (HK.out.below hB)
        replace HZ4 : Hid (W12.heap[W1.heap.size]? = some (Obj.cells #[.bool false, .bool false, .int .i64 0, .int .i64 0, .slice none 0 0, .slice none 0 0, .slice none 0 0, .int .i64 0, .bool false, .bool false, .bool false] 58)) := hide ((hB.block _ (Array.getElem?_eq_some_iff.1 HZ4.out).1).trans HZ4.out)
        clear hB y1 y2 y3 hAp
        refine hK.out _ _ (⟨HYs.out.below HBc.out, HZs.out.below HBc.out⟩) (fun hHeld2 => ?_)
        clear hK K' hHeld
        have hHeld := hHeld2
        clear hHeld2
        try simp only [Act.put, List.setIfInBounds_toArray, List.set_cons_zero, List.set_cons_succ]
        refine wpAnyH_ready (rs := [5]) (by kernel_rfl) (by simp) ?_
        refine AllReadyH.cons (o := ?_) ?_ (fun K' hK => ?_) AllReadyH.nil
        rotate_left 1
        · (simp only [List.getElem?_toArray, List.getElem?_cons_zero, List.getElem?_cons_succ]; rfl)
        · go_simp
          have hA := recv_below W12 (Obj.cells #[.bool false, .bool false, .int .i64 0, .int .i64 0, .slice none 0 0, .slice none 0 0, .slice none 0 0, .int .i64 0, .bool false, .bool false, .bool false] 58)
          have HZ5 := hide (heap_alloc_new W12 (Obj.cells #[.bool false, .bool false, .int .i64 0, .int .i64 0, .slice none 0 0, .slice none 0 0, .slice none 0 0, .int .i64 0, .bool false, .bool false, .bool false] 58))
          have hg5 : w17.heap.size ≤ W12.heap.size := HBc.out.size
          have hne : W1.heap.size < W12.heap.size := (Array.getElem?_eq_some_iff.1 HZ4.out).1
          replace HBc := hide (HBc.out.trans (hA.mono HBc.out.size))
          replace HK := hide (HK.out.below hA)
          replace HL := hide (HL.out.below hA)
          replace HZ4 : Hid ((W12.alloc (Obj.cells #[.bool false, .bool false, .int .i64 0, .int .i64 0, .slice none 0 0, .slice none 0 0, .slice none 0 0, .int .i64 0, .bool false, .bool false, .bool false] 58)).heap[W1.heap.size]? = some (Obj.cells #[.bool false, .bool false, .int .i64 0, .int .i64 0, .slice none 0 0, .slice none 0 0, .slice none 0 0, .int .i64 0, .bool false, .bool false, .bool false] 58)) := hide ((hA.block _ (Array.getElem?_eq_some_iff.1 HZ4.out).1).trans HZ4.out)
          clear hA
          generalize W12.alloc (Obj.cells #[.bool false, .bool false, .int .i64 0, .int .i64 0, .slice none 0 0, .slice none 0 0, .slice none 0 0, .int .i64 0, .bool false, .bool false, .bool false] 58) = W13 at *
          refine hK.out _ _ (⟨HYs.out.below HBc.out, HZs.out.below HBc.out⟩) (fun hHeld2 => ?_)
          clear hK K' hHeld
          have hHeld := hHeld2
          clear hHeld2
          try simp only [Act.put, List.setIfInBounds_toArray, List.set_cons_zero, List.set_cons_succ]
          have pf0 := frozen_of_row W13 W1.heap.size 0 _ _ HZ4.out
          have pf1 := frozen_of_row W13 W1.heap.size 1 _ _ HZ4.out
          have pf2 := frozen_of_row W13 W1.heap.size 2 _ _ HZ4.out
          have pf3 := frozen_of_row W13 W1.heap.size 3 _ _ HZ4.out
          have pf4 := frozen_of_row W13 W1.heap.size 4 _ _ HZ4.out
          have pf5 := frozen_of_row W13 W1.heap.size 5 _ _ HZ4.out
          have pf6 := frozen_of_row W13 W1.heap.size 6 _ _ HZ4.out
          have pf7 := frozen_of_row W13 W1.heap.size 7 _ _ HZ4.out
          have pf8 := frozen_of_row W13 W1.heap.size 8 _ _ HZ4.out
          have pf9 := frozen_of_row W13 W1.heap.size 9 _ _ HZ4.out
          have pf10 := frozen_of_row W13 W1.heap.size 10 _ _ HZ4.out
          have pc0 := cell_of_row W13 W1.heap.size 0 _ _ _ HZ4.out
          have pc1 := cell_of_row W13 W1.heap.size 1 _ _ _ HZ4.out
          have pc2 := cell_of_row W13 W1.heap.size 2 _ _ _ HZ4.out
          have pc3 := cell_of_row W13 W1.heap.size 3 _ _ _ HZ4.out
          have pc4 := cell_of_row W13 W1.heap.size 4 _ _ _ HZ4.out
          have pc5 := cell_of_row W13 W1.heap.size 5 _ _ _ HZ4.out
          have pc6 := cell_of_row W13 W1.heap.size 6 _ _ _ HZ4.out
          have pc7 := cell_of_row W13 W1.heap.size 7 _ _ _ HZ4.out
          have pc8 := cell_of_row W13 W1.heap.size 8 _ _ _ HZ4.out
          have pc9 := cell_of_row W13 W1.heap.size 9 _ _ _ HZ4.out
          have pc10 := cell_of_row W13 W1.heap.size 10 _ _ _ HZ4.out
          simp at pc0 pc1 pc2 pc3 pc4 pc5 pc6 pc7 pc8 pc9 pc10
          refine wpAnyH_ready (rs := [6]) (by kernel_rfl) (by simp) ?_
          refine AllReadyH.cons (o := ?_) ?_ (fun K' hK => ?_) AllReadyH.nil
          rotate_left 1
          · (simp only [List.getElem?_toArray, List.getElem?_cons_zero, List.getElem?_cons_succ]; rfl)
          · obtain ⟨e1, e2⟩ := st_fill W13 W1.heap.size y (.slice k1 y.out.length k4) (.slice k2 y.inn.length k5) (.slice k3 y.back.length k6) HZ4.out
            have HD4 := hide e1
            replace HBc := hide (HBc.out.trans (e2.below (B := w17.heap.size) (fun k e => by have e3 : k = W1.heap.size := e; omega) HBc.out.size))
            replace HK := hide (Own3.past HK.out e2 HZ4.out)
            replace HL := hide (Own3.past HL.out e2 HZ4.out)
            replace HZ5 := hide ((e2.block _ (Array.getElem?_eq_some_iff.1 HZ5.out).1 (by show ¬ _ = W1.heap.size; omega)).trans HZ5.out)
            clear HZ4 e1 e2
            go_simp
            clear pf0 pf1 pf2 pf3 pf4 pf5 pf6 pf7 pf8 pf9 pf10 pc0 pc1 pc2 pc3 pc4 pc5 pc6 pc7 pc8 pc9 pc10
            generalize ((((((((((W13.setCell ⟨W1.heap.size, 0, none⟩ (.bool y.rd)).setCell ⟨W1.heap.size, 1, none⟩ (.bool y.wt)).setCell ⟨W1.heap.size, 2, none⟩ (.int .i64 y.mode)).setCell ⟨W1.heap.size, 3, none⟩ (.int .i64 y.size)).setCell ⟨W1.heap.size, 4, none⟩ (.slice k1 y.out.length k4)).setCell ⟨W1.heap.size, 5, none⟩ (.slice k2 y.inn.length k5)).setCell ⟨W1.heap.size, 6, none⟩ (.slice k3 y.back.length k6)).setCell ⟨W1.heap.size, 7, none⟩ (.int .i64 y.dir)).setCell ⟨W1.heap.size, 8, none⟩ (.bool y.fin)).setCell ⟨W1.heap.size, 9, none⟩ (.bool y.bad)).setCell ⟨W1.heap.size, 10, none⟩ (.bool y.closed) = W14 at *
            refine hK.out _ _ (⟨HYs.out.below HBc.out, HZs.out.below HBc.out⟩) (fun hHeld2 => ?_)
            clear hK K' hHeld
            have hHeld := hHeld2
            clear hHeld2
            try simp only [Act.put, List.setIfInBounds_toArray, List.set_cons_zero, List.set_cons_succ]
            have rf0 := frozen_of_row W14 W12.heap.size 0 _ _ HZ5.out
            have rf1 := frozen_of_row W14 W12.heap.size 1 _ _ HZ5.out
            have rf2 := frozen_of_row W14 W12.heap.size 2 _ _ HZ5.out
            have rf3 := frozen_of_row W14 W12.heap.size 3 _ _ HZ5.out
            have rf4 := frozen_of_row W14 W12.heap.size 4 _ _ HZ5.out
            have rf5 := frozen_of_row W14 W12.heap.size 5 _ _ HZ5.out
            have rf6 := frozen_of_row W14 W12.heap.size 6 _ _ HZ5.out
            have rf7 := frozen_of_row W14 W12.heap.size 7 _ _ HZ5.out
            have rf8 := frozen_of_row W14 W12.heap.size 8 _ _ HZ5.out
            have rf9 := frozen_of_row W14 W12.heap.size 9 _ _ HZ5.out
            have rf10 := frozen_of_row W14 W12.heap.size 10 _ _ HZ5.out
            have rc0 := cell_of_row W14 W12.heap.size 0 _ _ _ HZ5.out
            have rc1 := cell_of_row W14 W12.heap.size 1 _ _ _ HZ5.out
            have rc2 := cell_of_row W14 W12.heap.size 2 _ _ _ HZ5.out
            have rc3 := cell_of_row W14 W12.heap.size 3 _ _ _ HZ5.out
            have rc4 := cell_of_row W14 W12.heap.size 4 _ _ _ HZ5.out
            have rc5 := cell_of_row W14 W12.heap.size 5 _ _ _ HZ5.out
            have rc6 := cell_of_row W14 W12.heap.size 6 _ _ _ HZ5.out
            have rc7 := cell_of_row W14 W12.heap.size 7 _ _ _ HZ5.out
            have rc8 := cell_of_row W14 W12.heap.size 8 _ _ _ HZ5.out
            have rc9 := cell_of_row W14 W12.heap.size 9 _ _ _ HZ5.out
            have rc10 := cell_of_row W14 W12.heap.size 10 _ _ _ HZ5.out
            simp at rc0 rc1 rc2 rc3 rc4 rc5 rc6 rc7 rc8 rc9 rc10
            refine wpAnyH_ready (rs := [7]) (by kernel_rfl) (by simp) ?_
            refine AllReadyH.cons (o := ?_) ?_ (fun K' hK => ?_) AllReadyH.nil
            rotate_left 1
            · (simp only [List.getElem?_toArray, List.getElem?_cons_zero, List.getElem?_cons_succ]; rfl)
            · obtain ⟨e1, e2⟩ := st_fill W14 W12.heap.size zs (.slice l1 zs.out.length l4) (.slice l2 zs.inn.length l5) (.slice l3 zs.back.length l6) HZ5.out
              have HD5 := hide e1
              replace HBc := hide (HBc.out.trans (e2.below (B := w17.heap.size) (fun k e => by have e3 : k = W12.heap.size := e; omega) HBc.out.size))
              replace HK := hide (Own3.past HK.out e2 HZ5.out)
              replace HL := hide (Own3.past HL.out e2 HZ5.out)
              replace HD4 := hide (StAt.turned1 HD4.out e2 (by omega))
              clear HZ5 e1 e2
              go_simp
              clear rf0 rf1 rf2 rf3 rf4 rf5 rf6 rf7 rf8 rf9 rf10 rc0 rc1 rc2 rc3 rc4 rc5 rc6 rc7 rc8 rc9 rc10
              generalize ((((((((((W14.setCell ⟨W12.heap.size, 0, none⟩ (.bool zs.rd)).setCell ⟨W12.heap.size, 1, none⟩ (.bool zs.wt)).setCell ⟨W12.heap.size, 2, none⟩ (.int .i64 zs.mode)).setCell ⟨W12.heap.size, 3, none⟩ (.int .i64 zs.size)).setCell ⟨W12.heap.size, 4, none⟩ (.slice l1 zs.out.length l4)).setCell ⟨W12.heap.size, 5, none⟩ (.slice l2 zs.inn.length l5)).setCell ⟨W12.heap.size, 6, none⟩ (.slice l3 zs.back.length l6)).setCell ⟨W12.heap.size, 7, none⟩ (.int .i64 zs.dir)).setCell ⟨W12.heap.size, 8, none⟩ (.bool zs.fin)).setCell ⟨W12.heap.size, 9, none⟩ (.bool zs.bad)).setCell ⟨W12.heap.size, 10, none⟩ (.bool zs.closed) = W15 at *
              refine hK.out _ _ (⟨HYs.out.below HBc.out, HZs.out.below HBc.out⟩) (fun hHeld2 => ?_)
              clear hK K' hHeld
              have hHeld := hHeld2
              clear hHeld2
              try simp only [Act.put, List.setIfInBounds_toArray, List.set_cons_zero, List.set_cons_succ]
              refine wpAnyH_done (by kernel_rfl) ?_ _
              refine NoPanic.normal ?_
              clear hHeld
              go_wp2
              go_meet
              exact ⟨_, _, _, _, _, _, _, _, _, _, _, _, _, _, rfl, rfl, HD4, HD5, HK, HL, HBc, by omega, by omega⟩
      rotate_left 1
      · (simp only [List.getElem?_toArray, List.getElem?_cons_zero, List.getElem?_cons_succ]; rfl)
      · go_simp
        have hA := recv_below W11 (Obj.cells #[.bool false, .bool false, .int .i64 0, .int .i64 0, .slice none 0 0, .slice none 0 0, .slice none 0 0, .int .i64 0, .bool false, .bool false, .bool false] 58)
        have HZ5 := hide (heap_alloc_new W11 (Obj.cells #[.bool false, .bool false, .int .i64 0, .int .i64 0, .slice none 0 0, .slice none 0 0, .slice none 0 0, .int .i64 0, .bool false, .bool false, .bool false] 58))
        have hg5 : w17.heap.size ≤ W11.heap.size := HBc.out.size
        have hne : W1.heap.size < W11.heap.size := (Array.getElem?_eq_some_iff.1 HZ4.out).1
        replace HBc := hide (HBc.out.trans (hA.mono HBc.out.size))
        replace HK := hide (HK.out.below hA)
        replace HZ4 : Hid ((W11.alloc (Obj.cells #[.bool false, .bool false, .int .i64 0, .int .i64 0, .slice none 0 0, .slice none 0 0, .slice none 0 0, .int .i64 0, .bool false, .bool false, .bool false] 58)).heap[W1.heap.size]? = some (Obj.cells #[.bool false, .bool false, .int .i64 0, .int .i64 0, .slice none 0 0, .slice none 0 0, .slice none 0 0, .int .i64 0, .bool false, .bool false, .bool false] 58)) := hide ((hA.block _ (Array.getElem?_eq_some_iff.1 HZ4.out).1).trans HZ4.out)
        clear hA
        generalize W11.alloc (Obj.cells #[.bool false, .bool false, .int .i64 0, .int .i64 0, .slice none 0 0, .slice none 0 0, .slice none 0 0, .int .i64 0, .bool false, .bool false, .bool false] 58) = W16 at *
        refine hK.out _ _ (⟨HYs.out.below HBc.out, HZs.out.below HBc.out⟩) (fun hHeld2 => ?_)
        clear hK K' hHeld
        have hHeld := hHeld2
        clear hHeld2
        try simp only [Act.put, List.setIfInBounds_toArray, List.set_cons_zero, List.set_cons_succ]
        refine wpAnyH_ready (rs := [3]) (by kernel_rfl) (by simp) ?_
        refine AllReadyH.cons (o := ?_) ?_ (fun K' hK => ?_) AllReadyH.nil
        rotate_left 1
        · (simp only [List.getElem?_toArray, List.getElem?_cons_zero, List.getElem?_cons_succ]; rfl)
        · go_simp
          go_at_call 21
          refine (given_any zs _ _ _ _ _ (HZl.out.below HBc.out) HLz.out.1 HLz.out.2.1 HLz.out.2.2).mono ?_
          rintro _ W17 ⟨o1, i1, b1, rfl, y1, y2, y3, hB, hAp⟩
          obtain ⟨l1, l4, rfl⟩ := owns_slice y1
          obtain ⟨l2, l5, rfl⟩ := owns_slice y2
          obtain ⟨l3, l6, rfl⟩ := owns_slice y3
          have HL : Hid (Own3 w17.heap.size W17 zs (.slice l1 zs.out.length l4) (.slice l2 zs.inn.length l5) (.slice l3 zs.back.length l6)) := hide (Own3.mono ⟨y1, y2, y3, hAp⟩ HBc.out.size)
          replace HBc := hide (HBc.out.trans (hB.mono HBc.out.size))
          replace HK := hide (HK.out.below hB)
          replace HZ4 : Hid (W17.heap[W1.heap.size]? = some (Obj.cells #[.bool false, .bool false, .int .i64 0, .int .i64 0, .slice none 0 0, .slice none 0 0, .slice none 0 0, .int .i64 0, .bool false, .bool false, .bool false] 58)) := hide ((hB.block _ (Array.getElem?_eq_some_iff.1 HZ4.out).1).trans HZ4.out)
          replace HZ5 : Hid (W17.heap[W11.heap.size]? = some (Obj.cells #[.bool false, .bool false, .int .i64 0, .int .i64 0, .slice none 0 0, .slice none 0 0, .slice none 0 0, .int .i64 0, .bool false, .bool false, .bool false] 58)) := hide ((hB.block _ (Array.getElem?_eq_some_iff.1 HZ5.out).1).trans HZ5.out)
          clear hB y1 y2 y3 hAp
          refine hK.out _ _ (⟨HYs.out.below HBc.out, HZs.out.below HBc.out⟩) (fun hHeld2 => ?_)
          clear hK K' hHeld
          have hHeld := hHeld2
          clear hHeld2
          try simp only [Act.put, List.setIfInBounds_toArray, List.set_cons_zero, List.set_cons_succ]
          have pf0 := frozen_of_row W17 W1.heap.size 0 _ _ HZ4.out
          have pf1 := frozen_of_row W17 W1.heap.size 1 _ _ HZ4.out
          have pf2 := frozen_of_row W17 W1.heap.size 2 _ _ HZ4.out
          have pf3 := frozen_of_row W17 W1.heap.size 3 _ _ HZ4.out
          have pf4 := frozen_of_row W17 W1.heap.size 4 _ _ HZ4.out
          have pf5 := frozen_of_row W17 W1.heap.size 5 _ _ HZ4.out
          have pf6 := frozen_of_row W17 W1.heap.size 6 _ _ HZ4.out
          have pf7 := frozen_of_row W17 W1.heap.size 7 _ _ HZ4.out
          have pf8 := frozen_of_row W17 W1.heap.size 8 _ _ HZ4.out
          have pf9 := frozen_of_row W17 W1.heap.size 9 _ _ HZ4.out
          have pf10 := frozen_of_row W17 W1.heap.size 10 _ _ HZ4.out
          have pc0 := cell_of_row W17 W1.heap.size 0 _ _ _ HZ4.out
          have pc1 := cell_of_row W17 W1.heap.size 1 _ _ _ HZ4.out
          have pc2 := cell_of_row W17 W1.heap.size 2 _ _ _ HZ4.out
          have pc3 := cell_of_row W17 W1.heap.size 3 _ _ _ HZ4.out
          have pc4 := cell_of_row W17 W1.heap.size 4 _ _ _ HZ4.out
          have pc5 := cell_of_row W17 W1.heap.size 5 _ _ _ HZ4.out
          have pc6 := cell_of_row W17 W1.heap.size 6 _ _ _ HZ4.out
          have pc7 := cell_of_row W17 W1.heap.size 7 _ _ _ HZ4.out
          have pc8 := cell_of_row W17 W1.heap.size 8 _ _ _ HZ4.out
          have pc9 := cell_of_row W17 W1.heap.size 9 _ _ _ HZ4.out
          have pc10 := cell_of_row W17 W1.heap.size 10 _ _ _ HZ4.out
          simp at pc0 pc1 pc2 pc3 pc4 pc5 pc6 pc7 pc8 pc9 pc10
          refine wpAnyH_ready (rs := [6]) (by kernel_rfl) (by simp) ?_
          refine AllReadyH.cons (o := ?_) ?_ (fun K' hK => ?_) AllReadyH.nil
          rotate_left 1
          · (simp only [List.getElem?_toArray, List.getElem?_cons_zero, List.getElem?_cons_succ]; rfl)
          · obtain ⟨e1, e2⟩ := st_fill W17 W1.heap.size y (.slice k1 y.out.length k4) (.slice k2 y.inn.length k5) (.slice k3 y.back.length k6) HZ4.out
            have HD4 := hide e1
            replace HBc := hide (HBc.out.trans (e2.below (B := w17.heap.size) (fun k e => by have e3 : k = W1.heap.size := e; omega) HBc.out.size))
            replace HK := hide (Own3.past HK.out e2 HZ4.out)
            replace HL := hide (Own3.past HL.out e2 HZ4.out)
            replace HZ5 := hide ((e2.block _ (Array.getElem?_eq_some_iff.1 HZ5.out).1 (by show ¬ _ = W1.heap.size; omega)).trans HZ5.out)
            clear HZ4 e1 e2
            go_simp
            clear pf0 pf1 pf2 pf3 pf4 pf5 pf6 pf7 pf8 pf9 pf10 pc0 pc1 pc2 pc3 pc4 pc5 pc6 pc7 pc8 pc9 pc10
            generalize ((((((((((W17.setCell ⟨W1.heap.size, 0, none⟩ (.bool y.rd)).setCell ⟨W1.heap.size, 1, none⟩ (.bool y.wt)).setCell ⟨W1.heap.size, 2, none⟩ (.int .i64 y.mode)).setCell ⟨W1.heap.size, 3, none⟩ (.int .i64 y.size)).setCell ⟨W1.heap.size, 4, none⟩ (.slice k1 y.out.length k4)).setCell ⟨W1.heap.size, 5, none⟩ (.slice k2 y.inn.length k5)).setCell ⟨W1.heap.size, 6, none⟩ (.slice k3 y.back.length k6)).setCell ⟨W1.heap.size, 7, none⟩ (.int .i64 y.dir)).setCell ⟨W1.heap.size, 8, none⟩ (.bool y.fin)).setCell ⟨W1.heap.size, 9, none⟩ (.bool y.bad)).setCell ⟨W1.heap.size, 10, none⟩ (.bool y.closed) = W18 at *
            refine hK.out _ _ (⟨HYs.out.below HBc.out, HZs.out.below HBc.out⟩) (fun hHeld2 => ?_)
            clear hK K' hHeld
            have hHeld := hHeld2
            clear hHeld2
            try simp only [Act.put, List.setIfInBounds_toArray, List.set_cons_zero, List.set_cons_succ]
            have rf0 := frozen_of_row W18 W11.heap.size 0 _ _ HZ5.out
            have rf1 := frozen_of_row W18 W11.heap.size 1 _ _ HZ5.out
            have rf2 := frozen_of_row W18 W11.heap.size 2 _ _ HZ5.out
            have rf3 := frozen_of_row W18 W11.heap.size 3 _ _ HZ5.out
            have rf4 := frozen_of_row W18 W11.heap.size 4 _ _ HZ5.out
            have rf5 := frozen_of_row W18 W11.heap.size 5 _ _ HZ5.out
            have rf6 := frozen_of_row W18 W11.heap.size 6 _ _ HZ5.out
            have rf7 := frozen_of_row W18 W11.heap.size 7 _ _ HZ5.out
            have rf8 := frozen_of_row W18 W11.heap.size 8 _ _ HZ5.out
            have rf9 := frozen_of_row W18 W11.heap.size 9 _ _ HZ5.out
            have rf10 := frozen_of_row W18 W11.heap.size 10 _ _ HZ5.out
            have rc0 := cell_of_row W18 W11.heap.size 0 _ _ _ HZ5.out
            have rc1 := cell_of_row W18 W11.heap.size 1 _ _ _ HZ5.out
            have rc2 := cell_of_row W18 W11.heap.size 2 _ _ _ HZ5.out
            have rc3 := cell_of_row W18 W11.heap.size 3 _ _ _ HZ5.out
            have rc4 := cell_of_row W18 W11.heap.size 4 _ _ _ HZ5.out
            have rc5 := cell_of_row W18 W11.heap.size 5 _ _ _ HZ5.out
            have rc6 := cell_of_row W18 W11.heap.size 6 _ _ _ HZ5.out
            have rc7 := cell_of_row W18 W11.heap.size 7 _ _ _ HZ5.out
            have rc8 := cell_of_row W18 W11.heap.size 8 _ _ _ HZ5.out
            have rc9 := cell_of_row W18 W11.heap.size 9 _ _ _ HZ5.out
            have rc10 := cell_of_row W18 W11.heap.size 10 _ _ _ HZ5.out
            simp at rc0 rc1 rc2 rc3 rc4 rc5 rc6 rc7 rc8 rc9 rc10
            refine wpAnyH_ready (rs := [7]) (by kernel_rfl) (by simp) ?_
            refine AllReadyH.cons (o := ?_) ?_ (fun K' hK => ?_) AllReadyH.nil
            rotate_left 1
            · (simp only [List.getElem?_toArray, List.getElem?_cons_zero, List.getElem?_cons_succ]; rfl)
            · obtain ⟨e1, e2⟩ := st_fill W18 W11.heap.size zs (.slice l1 zs.out.length l4) (.slice l2 zs.inn.length l5) (.slice l3 zs.back.length l6) HZ5.out
              have HD5 := hide e1
              replace HBc := hide (HBc.out.trans (e2.below (B := w17.heap.size) (fun k e => by have e3 : k = W11.heap.size := e; omega) HBc.out.size))
              replace HK := hide (Own3.past HK.out e2 HZ5.out)
              replace HL := hide (Own3.past HL.out e2 HZ5.out)
              replace HD4 := hide (StAt.turned1 HD4.out e2 (by omega))
              clear HZ5 e1 e2
              go_simp
              clear rf0 rf1 rf2 rf3 rf4 rf5 rf6 rf7 rf8 rf9 rf10 rc0 rc1 rc2 rc3 rc4 rc5 rc6 rc7 rc8 rc9 rc10
              generalize ((((((((((W18.setCell ⟨W11.heap.size, 0, none⟩ (.bool zs.rd)).setCell ⟨W11.heap.size, 1, none⟩ (.bool zs.wt)).setCell ⟨W11.heap.size, 2, none⟩ (.int .i64 zs.mode)).setCell ⟨W11.heap.size, 3, none⟩ (.int .i64 zs.size)).setCell ⟨W11.heap.size, 4, none⟩ (.slice l1 zs.out.length l4)).setCell ⟨W11.heap.size, 5, none⟩ (.slice l2 zs.inn.length l5)).setCell ⟨W11.heap.size, 6, none⟩ (.slice l3 zs.back.length l6)).setCell ⟨W11.heap.size, 7, none⟩ (.int .i64 zs.dir)).setCell ⟨W11.heap.size, 8, none⟩ (.bool zs.fin)).setCell ⟨W11.heap.size, 9, none⟩ (.bool zs.bad)).setCell ⟨W11.heap.size, 10, none⟩ (.bool zs.closed) = W19 at *
              refine hK.out _ _ (⟨HYs.out.below HBc.out, HZs.out.below HBc.out⟩) (fun hHeld2 => ?_)
              clear hK K' hHeld
              have hHeld := hHeld2
              clear hHeld2
              try simp only [Act.put, List.setIfInBounds_toArray, List.set_cons_zero, List.set_cons_succ]
              refine wpAnyH_done (by kernel_rfl) ?_ _
              refine NoPanic.normal ?_
              clear hHeld
              go_wp2
              go_meet
              exact ⟨_, _, _, _, _, _, _, _, _, _, _, _, _, _, rfl, rfl, HD4, HD5, HK, HL, HBc, by omega, by omega⟩
    rotate_left 1
    · (simp only [List.getElem?_toArray, List.getElem?_cons_zero, List.getElem?_cons_succ]; rfl)
    · go_simp
      have hA := recv_below W1 (Obj.cells #[.bool false, .bool false, .int .i64 0, .int .i64 0, .slice none 0 0, .slice none 0 0, .slice none 0 0, .int .i64 0, .bool false, .bool false, .bool false] 58)
      have HZ5 := hide (heap_alloc_new W1 (Obj.cells #[.bool false, .bool false, .int .i64 0, .int .i64 0, .slice none 0 0, .slice none 0 0, .slice none 0 0, .int .i64 0, .bool false, .bool false, .bool false] 58))
      have hg5 : w17.heap.size ≤ W1.heap.size := HBc.out.size
      replace HBc := hide (HBc.out.trans (hA.mono HBc.out.size))
      replace HK := hide (HK.out.below hA)
      clear hA
      generalize W1.alloc (Obj.cells #[.bool false, .bool false, .int .i64 0, .int .i64 0, .slice none 0 0, .slice none 0 0, .slice none 0 0, .int .i64 0, .bool false, .bool false, .bool false] 58) = W20 at *
      refine hK.out _ _ (⟨HYs.out.below HBc.out, HZs.out.below HBc.out⟩) (fun hHeld2 => ?_)
      clear hK K' hHeld
      have hHeld := hHeld2
      clear hHeld2
      try simp only [Act.put, List.setIfInBounds_toArray, List.set_cons_zero, List.set_cons_succ]
      refine wpAnyH_ready (rs := [3, 4]) (by kernel_rfl) (by simp) ?_
      refine AllReadyH.cons (o := ?_) ?_ (fun K' hK => ?_) (AllReadyH.cons (o := ?_) ?_ (fun K' hK => ?_) AllReadyH.nil)
      rotate_left 1
      · (simp only [List.getElem?_toArray, List.getElem?_cons_zero, List.getElem?_cons_succ]; rfl)
      · go_simp
        go_at_call 21
        refine (given_any zs _ _ _ _ _ (HZl.out.below HBc.out) HLz.out.1 HLz.out.2.1 HLz.out.2.2).mono ?_
        rintro _ W21 ⟨o1, i1, b1, rfl, y1, y2, y3, hB, hAp⟩
        obtain ⟨l1, l4, rfl⟩ := owns_slice y1
        obtain ⟨l2, l5, rfl⟩ := owns_slice y2
        obtain ⟨l3, l6, rfl⟩ := owns_slice y3
        have HL : Hid (Own3 w17.heap.size W21 zs (.slice l1 zs.out.length l4) (.slice l2 zs.inn.length l5) (.slice l3 zs.back.length l6)) := hide (Own3.mono ⟨y1, y2, y3, hAp⟩ HBc.out.size)
        replace HBc := hide (HBc.out.trans (hB.mono HBc.out.size))
        replace HK := hide (HK.out.below hB)
        replace HZ5 : Hid (W21.heap[W1.heap.size]? = some (Obj.cells #[.bool false, .bool false, .int .i64 0, .int .i64 0, .slice none 0 0, .slice none 0 0, .slice none 0 0, .int .i64 0, .bool false, .bool false, .bool false] 58)) := hide ((hB.block _ (Array.getElem?_eq_some_iff.1 HZ5.out).1).trans HZ5.out)
        clear hB y1 y2 y3 hAp
        refine hK.out _ _ (⟨HYs.out.below HBc.out, HZs.out.below HBc.out⟩) (fun hHeld2 => ?_)
        clear hK K' hHeld
        have hHeld := hHeld2
        clear hHeld2
        try simp only [Act.put, List.setIfInBounds_toArray, List.set_cons_zero, List.set_cons_succ]
        refine wpAnyH_ready (rs := [4]) (by kernel_rfl) (by simp) ?_
        refine AllReadyH.cons (o := ?_) ?_ (fun K' hK => ?_) AllReadyH.nil
        rotate_left 1
        · (simp only [List.getElem?_toArray, List.getElem?_cons_zero, List.getElem?_cons_succ]; rfl)
        · go_simp
          have hA := recv_below W21 (Obj.cells #[.bool false, .bool false, .int .i64 0, .int .i64 0, .slice none 0 0, .slice none 0 0, .slice none 0 0, .int .i64 0, .bool false, .bool false, .bool false] 58)
          have HZ4 := hide (heap_alloc_new W21 (Obj.cells #[.bool false, .bool false, .int .i64 0, .int .i64 0, .slice none 0 0, .slice none 0 0, .slice none 0 0, .int .i64 0, .bool false, .bool false, .bool false] 58))
          have hg4 : w17.heap.size ≤ W21.heap.size := HBc.out.size
          have hne : W1.heap.size < W21.heap.size := (Array.getElem?_eq_some_iff.1 HZ5.out).1
          replace HBc := hide (HBc.out.trans (hA.mono HBc.out.size))
          replace HK := hide (HK.out.below hA)
          replace HL := hide (HL.out.below hA)
          replace HZ5 : Hid ((W21.alloc (Obj.cells #[.bool false, .bool false, .int .i64 0, .int .i64 0, .slice none 0 0, .slice none 0 0, .slice none 0 0, .int .i64 0, .bool false, .bool false, .bool false] 58)).heap[W1.heap.size]? = some (Obj.cells #[.bool false, .bool false, .int .i64 0, .int .i64 0, .slice none 0 0, .slice none 0 0, .slice none 0 0, .int .i64 0, .bool false, .bool false, .bool false] 58)) := hide ((hA.block _ (Array.getElem?_eq_some_iff.1 HZ5.out).1).trans HZ5.out)
          clear hA
          generalize W21.alloc (Obj.cells #[.bool false, .bool false, .int .i64 0, .int .i64 0, .slice none 0 0, .slice none 0 0, .slice none 0 0, .int .i64 0, .bool false, .bool false, .bool false] 58) = W22 at *
          refine hK.out _ _ (⟨HYs.out.below HBc.out, HZs.out.below HBc.out⟩) (fun hHeld2 => ?_)
          clear hK K' hHeld
          have hHeld := hHeld2
          clear hHeld2
          try simp only [Act.put, List.setIfInBounds_toArray, List.set_cons_zero, List.set_cons_succ]
          have pf0 := frozen_of_row W22 W21.heap.size 0 _ _ HZ4.out
          have pf1 := frozen_of_row W22 W21.heap.size 1 _ _ HZ4.out
          have pf2 := frozen_of_row W22 W21.heap.size 2 _ _ HZ4.out
          have pf3 := frozen_of_row W22 W21.heap.size 3 _ _ HZ4.out
          have pf4 := frozen_of_row W22 W21.heap.size 4 _ _ HZ4.out
          have pf5 := frozen_of_row W22 W21.heap.size 5 _ _ HZ4.out
          have pf6 := frozen_of_row W22 W21.heap.size 6 _ _ HZ4.out
          have pf7 := frozen_of_row W22 W21.heap.size 7 _ _ HZ4.out
          have pf8 := frozen_of_row W22 W21.heap.size 8 _ _ HZ4.out
          have pf9 := frozen_of_row W22 W21.heap.size 9 _ _ HZ4.out
          have pf10 := frozen_of_row W22 W21.heap.size 10 _ _ HZ4.out
          have pc0 := cell_of_row W22 W21.heap.size 0 _ _ _ HZ4.out
          have pc1 := cell_of_row W22 W21.heap.size 1 _ _ _ HZ4.out
          have pc2 := cell_of_row W22 W21.heap.size 2 _ _ _ HZ4.out
          have pc3 := cell_of_row W22 W21.heap.size 3 _ _ _ HZ4.out
          have pc4 := cell_of_row W22 W21.heap.size 4 _ _ _ HZ4.out
          have pc5 := cell_of_row W22 W21.heap.size 5 _ _ _ HZ4.out
          have pc6 := cell_of_row W22 W21.heap.size 6 _ _ _ HZ4.out
          have pc7 := cell_of_row W22 W21.heap.size 7 _ _ _ HZ4.out
          have pc8 := cell_of_row W22 W21.heap.size 8 _ _ _ HZ4.out
          have pc9 := cell_of_row W22 W21.heap.size 9 _ _ _ HZ4.out
          have pc10 := cell_of_row W22 W21.heap.size 10 _ _ _ HZ4.out
          simp at pc0 pc1 pc2 pc3 pc4 pc5 pc6 pc7 pc8 pc9 pc10
          refine wpAnyH_ready (rs := [6]) (by kernel_rfl) (by simp) ?_
          refine AllReadyH.cons (o := ?_) ?_ (fun K' hK => ?_) AllReadyH.nil
          rotate_left 1
          · (simp only [List.getElem?_toArray, List.getElem?_cons_zero, List.getElem?_cons_succ]; rfl)
          · obtain ⟨e1, e2⟩ := st_fill W22 W21.heap.size y (.slice k1 y.out.length k4) (.slice k2 y.inn.length k5) (.slice k3 y.back.length k6) HZ4.out
            have HD4 := hide e1
            replace HBc := hide (HBc.out.trans (e2.below (B := w17.heap.size) (fun k e => by have e3 : k = W21.heap.size := e; omega) HBc.out.size))
            replace HK := hide (Own3.past HK.out e2 HZ4.out)
            replace HL := hide (Own3.past HL.out e2 HZ4.out)
            replace HZ5 := hide ((e2.block _ (Array.getElem?_eq_some_iff.1 HZ5.out).1 (by show ¬ _ = W21.heap.size; omega)).trans HZ5.out)
            clear HZ4 e1 e2
            go_simp
            clear pf0 pf1 pf2 pf3 pf4 pf5 pf6 pf7 pf8 pf9 pf10 pc0 pc1 pc2 pc3 pc4 pc5 pc6 pc7 pc8 pc9 pc10
            generalize ((((((((((W22.setCell ⟨W21.heap.size, 0, none⟩ (.bool y.rd)).setCell ⟨W21.heap.size, 1, none⟩ (.bool y.wt)).setCell ⟨W21.heap.size, 2, none⟩ (.int .i64 y.mode)).setCell ⟨W21.heap.size, 3, none⟩ (.int .i64 y.size)).setCell ⟨W21.heap.size, 4, none⟩ (.slice k1 y.out.length k4)).setCell ⟨W21.heap.size, 5, none⟩ (.slice k2 y.inn.length k5)).setCell ⟨W21.heap.size, 6, none⟩ (.slice k3 y.back.length k6)).setCell ⟨W21.heap.size, 7, none⟩ (.int .i64 y.dir)).setCell ⟨W21.heap.size, 8, none⟩ (.bool y.fin)).setCell ⟨W21.heap.size, 9, none⟩ (.bool y.bad)).setCell ⟨W21.heap.size, 10, none⟩ (.bool y.closed) = W23 at *
            refine hK.out _ _ (⟨HYs.out.below HBc.out, HZs.out.below HBc.out⟩) (fun hHeld2 => ?_)
            clear hK K' hHeld
            have hHeld := hHeld2
            clear hHeld2
            try simp only [Act.put, List.setIfInBounds_toArray, List.set_cons_zero, List.set_cons_succ]
            have rf0 := frozen_of_row W23 W1.heap.size 0 _ _ HZ5.out
            have rf1 := frozen_of_row W23 W1.heap.size 1 _ _ HZ5.out
            have rf2 := frozen_of_row W23 W1.heap.size 2 _ _ HZ5.out
            have rf3 := frozen_of_row W23 W1.heap.size 3 _ _ HZ5.out
            have rf4 := frozen_of_row W23 W1.heap.size 4 _ _ HZ5.out
            have rf5 := frozen_of_row W23 W1.heap.size 5 _ _ HZ5.out
            have rf6 := frozen_of_row W23 W1.heap.size 6 _ _ HZ5.out
            have rf7 := frozen_of_row W23 W1.heap.size 7 _ _ HZ5.out
            have rf8 := frozen_of_row W23 W1.heap.size 8 _ _ HZ5.out
            have rf9 := frozen_of_row W23 W1.heap.size 9 _ _ HZ5.out
            have rf10 := frozen_of_row W23 W1.heap.size 10 _ _ HZ5.out
            have rc0 := cell_of_row W23 W1.heap.size 0 _ _ _ HZ5.out
            have rc1 := cell_of_row W23 W1.heap.size 1 _ _ _ HZ5.out
            have rc2 := cell_of_row W23 W1.heap.size 2 _ _ _ HZ5.out
            have rc3 := cell_of_row W23 W1.heap.size 3 _ _ _ HZ5.out
            have rc4 := cell_of_row W23 W1.heap.size 4 _ _ _ HZ5.out
            have rc5 := cell_of_row W23 W1.heap.size 5 _ _ _ HZ5.out
            have rc6 := cell_of_row W23 W1.heap.size 6 _ _ _ HZ5.out
            have rc7 := cell_of_row W23 W1.heap.size 7 _ _ _ HZ5.out
            have rc8 := cell_of_row W23 W1.heap.size 8 _ _ _ HZ5.out
            have rc9 := cell_of_row W23 W1.heap.size 9 _ _ _ HZ5.out
            have rc10 := cell_of_row W23 W1.heap.size 10 _ _ _ HZ5.out
            simp at rc0 rc1 rc2 rc3 rc4 rc5 rc6 rc7 rc8 rc9 rc10
            refine wpAnyH_ready (rs := [7]) (by kernel_rfl) (by simp) ?_
            refine AllReadyH.cons (o := ?_) ?_ (fun K' hK => ?_) AllReadyH.nil
            rotate_left 1
            · (simp only [List.getElem?_toArray, List.getElem?_cons_zero, List.getElem?_cons_succ]; rfl)
            · obtain ⟨e1, e2⟩ := st_fill W23 W1.heap.size zs (.slice l1 zs.out.length l4) (.slice l2 zs.inn.length l5) (.slice l3 zs.back.length l6) HZ5.out
              have HD5 := hide e1
              replace HBc := hide (HBc.out.trans (e2.below (B := w17.heap.size) (fun k e => by have e3 : k = W1.heap.size := e; omega) HBc.out.size))
              replace HK := hide (Own3.past HK.out e2 HZ5.out)
              replace HL := hide (Own3.past HL.out e2 HZ5.out)
              replace HD4 := hide (StAt.turned1 HD4.out e2 (by omega))
              clear HZ5 e1 e2
              go_simp
              clear rf0 rf1 rf2 rf3 rf4 rf5 rf6 rf7 rf8 rf9 rf10 rc0 rc1 rc2 rc3 rc4 rc5 rc6 rc7 rc8 rc9 rc10
              generalize ((((((((((W23.setCell ⟨W1.heap.size, 0, none⟩ (.bool zs.rd)).setCell ⟨W1.heap.size, 1, none⟩ (.bool zs.wt)).setCell ⟨W1.heap.size, 2, none⟩ (.int .i64 zs.mode)).setCell ⟨W1.heap.size, 3, none⟩ (.int .i64 zs.size)).setCell ⟨W1.heap.size, 4, none⟩ (.slice l1 zs.out.length l4)).setCell ⟨W1.heap.size, 5, none⟩ (.slice l2 zs.inn.length l5)).setCell ⟨W1.heap.size, 6, none⟩ (.slice l3 zs.back.length l6)).setCell ⟨W1.heap.size, 7, none⟩ (.int .i64 zs.dir)).setCell ⟨W1.heap.size, 8, none⟩ (.bool zs.fin)).setCell ⟨W1.heap.size, 9, none⟩ (.bool zs.bad)).setCell ⟨W1.heap.size, 10, none⟩ (.bool zs.closed) = W24 at *
              refine hK.out _ _ (⟨HYs.out.below HBc.out, HZs.out.below HBc.out⟩) (fun hHeld2 => ?_)
              clear hK K' hHeld
              have hHeld := hHeld2
              clear hHeld2
              try simp only [Act.put, List.setIfInBounds_toArray, List.set_cons_zero, List.set_cons_succ]
              refine wpAnyH_done (by kernel_rfl) ?_ _
              refine NoPanic.normal ?_
              clear hHeld
              go_wp2
              go_meet
              exact ⟨_, _, _, _, _, _, _, _, _, _, _, _, _, _, rfl, rfl, HD4, HD5, HK, HL, HBc, by omega, by omega⟩
      rotate_left 1
      · (simp only [List.getElem?_toArray, List.getElem?_cons_zero, List.getElem?_cons_succ]; rfl)
      · go_simp
        have hA := recv_below W20 (Obj.cells #[.bool false, .bool false, .int .i64 0, .int .i64 0, .slice none 0 0, .slice none 0 0, .slice none 0 0, .int .i64 0, .bool false, .bool false, .bool false] 58)
        have HZ4 := hide (heap_alloc_new W20 (Obj.cells #[.bool false, .bool false, .int .i64 0, .int .i64 0, .slice none 0 0, .slice none 0 0, .slice none 0 0, .int .i64 0, .bool false, .bool false, .bool false] 58))
        have hg4 : w17.heap.size ≤ W20.heap.size := HBc.out.size
        have hne : W1.heap.size < W20.heap.size := (Array.getElem?_eq_some_iff.1 HZ5.out).1
        replace HBc := hide (HBc.out.trans (hA.mono HBc.out.size))
        replace HK := hide (HK.out.below hA)
        replace HZ5 : Hid ((W20.alloc (Obj.cells #[.bool false, .bool false, .int .i64 0, .int .i64 0, .slice none 0 0, .slice none 0 0, .slice none 0 0, .int .i64 0, .bool false, .bool false, .bool false] 58)).heap[W1.heap.size]? = some (Obj.cells #[.bool false, .bool false, .int .i64 0, .int .i64 0, .slice none 0 0, .slice none 0 0, .slice none 0 0, .int .i64 0, .bool false, .bool false, .bool false] 58)) := hide ((hA.block _ (Array.getElem?_eq_some_iff.1 HZ5.out).1).trans HZ5.out)
        clear hA
        generalize W20.alloc (Obj.cells #[.bool false, .bool false, .int .i64 0, .int .i64 0, .slice none 0 0, .slice none 0 0, .slice none 0 0, .int .i64 0, .bool false, .bool false, .bool false] 58) = W25 at *
        refine hK.out _ _ (⟨HYs.out.below HBc.out, HZs.out.below HBc.out⟩) (fun hHeld2 => ?_)
        clear hK K' hHeld
        have hHeld := hHeld2
        clear hHeld2
        try simp only [Act.put, List.setIfInBounds_toArray, List.set_cons_zero, List.set_cons_succ]
        refine wpAnyH_ready (rs := [3]) (by kernel_rfl) (by simp) ?_
        refine AllReadyH.cons (o := ?_) ?_ (fun K' hK => ?_) AllReadyH.nil
        rotate_left 1
        · (simp only [List.getElem?_toArray, List.getElem?_cons_zero, List.getElem?_cons_succ]; rfl)
        · go_simp
          go_at_call 21
          refine (given_any zs _ _ _ _ _ (HZl.out.below HBc.out) HLz.out.1 HLz.out.2.1 HLz.out.2.2).mono ?_
          rintro _ W26 ⟨o1, i1, b1, rfl, y1, y2, y3, hB, hAp⟩
          obtain ⟨l1, l4, rfl⟩ := owns_slice y1
          obtain ⟨l2, l5, rfl⟩ := owns_slice y2
          obtain ⟨l3, l6, rfl⟩ := owns_slice y3
          have HL : Hid (Own3 w17.heap.size W26 zs (.slice l1 zs.out.length l4) (.slice l2 zs.inn.length l5) (.slice l3 zs.back.length l6)) := hide (Own3.mono ⟨y1, y2, y3, hAp⟩ HBc.out.size)
          replace HBc := hide (HBc.out.trans (hB.mono HBc.out.size))
          replace HK := hide (HK.out.below hB)
          replace HZ4 : Hid (W26.heap[W20.heap.size]? = some (Obj.cells #[.bool false, .bool false, .int .i64 0, .int .i64 0, .slice none 0 0, .slice none 0 0, .slice none 0 0, .int .i64 0, .bool false, .bool false, .bool false] 58)) := hide ((hB.block _ (Array.getElem?_eq_some_iff.1 HZ4.out).1).trans HZ4.out)
          replace HZ5 : Hid (W26.heap[W1.heap.size]? = some (Obj.cells #[.bool false, .bool false, .int .i64 0, .int .i64 0, .slice none 0 0, .slice none 0 0, .slice none 0 0, .int .i64 0, .bool false, .bool false, .bool false] 58)) := hide ((hB.block _ (Array.getElem?_eq_some_iff.1 HZ5.out).1).trans HZ5.out)
          clear hB y1 y2 y3 hAp
          refine hK.out _ _ (⟨HYs.out.below HBc.out, HZs.out.below HBc.out⟩) (fun hHeld2 => ?_)
          clear hK K' hHeld
          have hHeld := hHeld2
          clear hHeld2
          try simp only [Act.put, List.setIfInBounds_toArray, List.set_cons_zero, List.set_cons_succ]
          have pf0 := frozen_of_row W26 W20.heap.size 0 _ _ HZ4.out
          have pf1 := frozen_of_row W26 W20.heap.size 1 _ _ HZ4.out
          have pf2 := frozen_of_row W26 W20.heap.size 2 _ _ HZ4.out
          have pf3 := frozen_of_row W26 W20.heap.size 3 _ _ HZ4.out
          have pf4 := frozen_of_row W26 W20.heap.size 4 _ _ HZ4.out
          have pf5 := frozen_of_row W26 W20.heap.size 5 _ _ HZ4.out
          have pf6 := frozen_of_row W26 W20.heap.size 6 _ _ HZ4.out
          have pf7 := frozen_of_row W26 W20.heap.size 7 _ _ HZ4.out
          have pf8 := frozen_of_row W26 W20.heap.size 8 _ _ HZ4.out
          have pf9 := frozen_of_row W26 W20.heap.size 9 _ _ HZ4.out
          have pf10 := frozen_of_row W26 W20.heap.size 10 _ _ HZ4.out
          have pc0 := cell_of_row W26 W20.heap.size 0 _ _ _ HZ4.out
          have pc1 := cell_of_row W26 W20.heap.size 1 _ _ _ HZ4.out
          have pc2 := cell_of_row W26 W20.heap.size 2 _ _ _ HZ4.out
          have pc3 := cell_of_row W26 W20.heap.size 3 _ _ _ HZ4.out
          have pc4 := cell_of_row W26 W20.heap.size 4 _ _ _ HZ4.out
          have pc5 := cell_of_row W26 W20.heap.size 5 _ _ _ HZ4.out
          have pc6 := cell_of_row W26 W20.heap.size 6 _ _ _ HZ4.out
          have pc7 := cell_of_row W26 W20.heap.size 7 _ _ _ HZ4.out
          have pc8 := cell_of_row W26 W20.heap.size 8 _ _ _ HZ4.out
          have pc9 := cell_of_row W26 W20.heap.size 9 _ _ _ HZ4.out
          have pc10 := cell_of_row W26 W20.heap.size 10 _ _ _ HZ4.out
          simp at pc0 pc1 pc2 pc3 pc4 pc5 pc6 pc7 pc8 pc9 pc10
          refine wpAnyH_ready (rs := [6]) (by kernel_rfl) (by simp) ?_
          refine AllReadyH.cons (o := ?_) ?_ (fun K' hK => ?_) AllReadyH.nil
          rotate_left 1
          · (simp only [List.getElem?_toArray, List.getElem?_cons_zero, List.getElem?_cons_succ]; rfl)
          · obtain ⟨e1, e2⟩ := st_fill W26 W20.heap.size y (.slice k1 y.out.length k4) (.slice k2 y.inn.length k5) (.slice k3 y.back.length k6) HZ4.out
            have HD4 := hide e1
            replace HBc := hide (HBc.out.trans (e2.below (B := w17.heap.size) (fun k e => by have e3 : k = W20.heap.size := e; omega) HBc.out.size))
            replace HK := hide (Own3.past HK.out e2 HZ4.out)
            replace HL := hide (Own3.past HL.out e2 HZ4.out)
            replace HZ5 := hide ((e2.block _ (Array.getElem?_eq_some_iff.1 HZ5.out).1 (by show ¬ _ = W20.heap.size; omega)).trans HZ5.out)
            clear HZ4 e1 e2
            go_simp
            clear pf0 pf1 pf2 pf3 pf4 pf5 pf6 pf7 pf8 pf9 pf10 pc0 pc1 pc2 pc3 pc4 pc5 pc6 pc7 pc8 pc9 pc10
            generalize ((((((((((W26.setCell ⟨W20.heap.size, 0, none⟩ (.bool y.rd)).setCell ⟨W20.heap.size, 1, none⟩ (.bool y.wt)).setCell ⟨W20.heap.size, 2, none⟩ (.int .i64 y.mode)).setCell ⟨W20.heap.size, 3, none⟩ (.int .i64 y.size)).setCell ⟨W20.heap.size, 4, none⟩ (.slice k1 y.out.length k4)).setCell ⟨W20.heap.size, 5, none⟩ (.slice k2 y.inn.length k5)).setCell ⟨W20.heap.size, 6, none⟩ (.slice k3 y.back.length k6)).setCell ⟨W20.heap.size, 7, none⟩ (.int .i64 y.dir)).setCell ⟨W20.heap.size, 8, none⟩ (.bool y.fin)).setCell ⟨W20.heap.size, 9, none⟩ (.bool y.bad)).setCell ⟨W20.heap.size, 10, none⟩ (.bool y.closed) = W27 at *
            refine hK.out _ _ (⟨HYs.out.below HBc.out, HZs.out.below HBc.out⟩) (fun hHeld2 => ?_)
            clear hK K' hHeld
            have hHeld := hHeld2
            clear hHeld2
            try simp only [Act.put, List.setIfInBounds_toArray, List.set_cons_zero, List.set_cons_succ]
            have rf0 := frozen_of_row W27 W1.heap.size 0 _ _ HZ5.out
            have rf1 := frozen_of_row W27 W1.heap.size 1 _ _ HZ5.out
            have rf2 := frozen_of_row W27 W1.heap.size 2 _ _ HZ5.out
            have rf3 := frozen_of_row W27 W1.heap.size 3 _ _ HZ5.out
            have rf4 := frozen_of_row W27 W1.heap.size 4 _ _ HZ5.out
            have rf5 := frozen_of_row W27 W1.heap.size 5 _ _ HZ5.out
            have rf6 := frozen_of_row W27 W1.heap.size 6 _ _ HZ5.out
            have rf7 := frozen_of_row W27 W1.heap.size 7 _ _ HZ5.out
            have rf8 := frozen_of_row W27 W1.heap.size 8 _ _ HZ5.out
            have rf9 := frozen_of_row W27 W1.heap.size 9 _ _ HZ5.out
            have rf10 := frozen_of_row W27 W1.heap.size 10 _ _ HZ5.out
            have rc0 := cell_of_row W27 W1.heap.size 0 _ _ _ HZ5.out
            have rc1 := cell_of_row W27 W1.heap.size 1 _ _ _ HZ5.out
            have rc2 := cell_of_row W27 W1.heap.size 2 _ _ _ HZ5.out
            have rc3 := cell_of_row W27 W1.heap.size 3 _ _ _ HZ5.out
            have rc4 := cell_of_row W27 W1.heap.size 4 _ _ _ HZ5.out
            have rc5 := cell_of_row W27 W1.heap.size 5 _ _ _ HZ5.out
            have rc6 := cell_of_row W27 W1.heap.size 6 _ _ _ HZ5.out
            have rc7 := cell_of_row W27 W1.heap.size 7 _ _ _ HZ5.out
            have rc8 := cell_of_row W27 W1.heap.size 8 _ _ _ HZ5.out
            have rc9 := cell_of_row W27 W1.heap.size 9 _ _ _ HZ5.out
            have rc10 := cell_of_row W27 W1.heap.size 10 _ _ _ HZ5.out
            simp at rc0 rc1 rc2 rc3 rc4 rc5 rc6 rc7 rc8 rc9 rc10
            refine wpAnyH_ready (rs := [7]) (by kernel_rfl) (by simp) ?_
            refine AllReadyH.cons (o := ?_) ?_ (fun K' hK => ?_) AllReadyH.nil
            rotate_left 1
            · (simp only [List.getElem?_toArray, List.getElem?_cons_zero, List.getElem?_cons_succ]; rfl)
            · obtain ⟨e1, e2⟩ := st_fill W27 W1.heap.size zs (.slice l1 zs.out.length l4) (.slice l2 zs.inn.length l5) (.slice l3 zs.back.length l6) HZ5.out
              have HD5 := hide e1
              replace HBc := hide (HBc.out.trans (e2.below (B := w17.heap.size) (fun k e => by have e3 : k = W1.heap.size := e; omega) HBc.out.size))
              replace HK := hide (Own3.past HK.out e2 HZ5.out)
              replace HL := hide (Own3.past HL.out e2 HZ5.out)
              replace HD4 := hide (StAt.turned1 HD4.out e2 (by omega))
              clear HZ5 e1 e2
              go_simp
              clear rf0 rf1 rf2 rf3 rf4 rf5 rf6 rf7 rf8 rf9 rf10 rc0 rc1 rc2 rc3 rc4 rc5 rc6 rc7 rc8 rc9 rc10
              generalize ((((((((((W27.setCell ⟨W1.heap.size, 0, none⟩ (.bool zs.rd)).setCell ⟨W1.heap.size, 1, none⟩ (.bool zs.wt)).setCell ⟨W1.heap.size, 2, none⟩ (.int .i64 zs.mode)).setCell ⟨W1.heap.size, 3, none⟩ (.int .i64 zs.size)).setCell ⟨W1.heap.size, 4, none⟩ (.slice l1 zs.out.length l4)).setCell ⟨W1.heap.size, 5, none⟩ (.slice l2 zs.inn.length l5)).setCell ⟨W1.heap.size, 6, none⟩ (.slice l3 zs.back.length l6)).setCell ⟨W1.heap.size, 7, none⟩ (.int .i64 zs.dir)).setCell ⟨W1.heap.size, 8, none⟩ (.bool zs.fin)).setCell ⟨W1.heap.size, 9, none⟩ (.bool zs.bad)).setCell ⟨W1.heap.size, 10, none⟩ (.bool zs.closed) = W28 at *
              refine hK.out _ _ (⟨HYs.out.below HBc.out, HZs.out.below HBc.out⟩) (fun hHeld2 => ?_)
              clear hK K' hHeld
              have hHeld := hHeld2
              clear hHeld2
              try simp only [Act.put, List.setIfInBounds_toArray, List.set_cons_zero, List.set_cons_succ]
              refine wpAnyH_done (by kernel_rfl) ?_ _
              refine NoPanic.normal ?_
              clear hHeld
              go_wp2
              go_meet
              exact ⟨_, _, _, _, _, _, _, _, _, _, _, _, _, _, rfl, rfl, HD4, HD5, HK, HL, HBc, by omega, by omega⟩
  rotate_left 1
  · (simp only [List.getElem?_toArray, List.getElem?_cons_zero, List.getElem?_cons_succ]; rfl)
  · go_simp
    have hA := recv_below W0 (Obj.cells #[.bool false, .bool false, .int .i64 0, .int .i64 0, .slice none 0 0, .slice none 0 0, .slice none 0 0, .int .i64 0, .bool false, .bool false, .bool false] 58)
    have HZ4 := hide (heap_alloc_new W0 (Obj.cells #[.bool false, .bool false, .int .i64 0, .int .i64 0, .slice none 0 0, .slice none 0 0, .slice none 0 0, .int .i64 0, .bool false, .bool false, .bool false] 58))
    have hg4 : w17.heap.size ≤ W0.heap.size := HBc.out.size
    replace HBc := hide (HBc.out.trans (hA.mono HBc.out.size))
    clear hA
    generalize W0.alloc (Obj.cells #[.bool false, .bool false, .int .i64 0, .int .i64 0, .slice none 0 0, .slice none 0 0, .slice none 0 0, .int .i64 0, .bool false, .bool false, .bool false] 58) = W29 at *
    refine hK.out _ _ (⟨HYs.out.below HBc.out, HZs.out.below HBc.out⟩) (fun hHeld2 => ?_)
    clear hK K' hHeld
    have hHeld := hHeld2
    clear hHeld2
    try simp only [Act.put, List.setIfInBounds_toArray, List.set_cons_zero, List.set_cons_succ]
    refine wpAnyH_ready (rs := [1, 5]) (by kernel_rfl) (by simp) ?_
    refine AllReadyH.cons (o := ?_) ?_ (fun K' hK => ?_) (AllReadyH.cons (o := ?_) ?_ (fun K' hK => ?_) AllReadyH.nil)
    rotate_left 1
    · (simp only [List.getElem?_toArray, List.getElem?_cons_zero, List.getElem?_cons_succ]; rfl)
    · go_simp
      go_at_call 21
      refine (given_any y _ _ _ _ _ (HYl.out.below HBc.out) HLy.out.1 HLy.out.2.1 HLy.out.2.2).mono ?_
      rintro _ W30 ⟨o1, i1, b1, rfl, y1, y2, y3, hB, hAp⟩
      obtain ⟨k1, k4, rfl⟩ := owns_slice y1
      obtain ⟨k2, k5, rfl⟩ := owns_slice y2
      obtain ⟨k3, k6, rfl⟩ := owns_slice y3
      have HK : Hid (Own3 w17.heap.size W30 y (.slice k1 y.out.length k4) (.slice k2 y.inn.length k5) (.slice k3 y.back.length k6)) := hide (Own3.mono ⟨y1, y2, y3, hAp⟩ HBc.out.size)
      replace HBc := hide (HBc.out.trans (hB.mono HBc.out.size))
      replace HZ4 : Hid (W30.heap[W0.heap.size]? = some (Obj.cells #[.bool false, .bool false, .int .i64 0, .int .i64 0, .slice none 0 0, .slice none 0 0, .slice none 0 0, .int .i64 0, .bool false, .bool false, .bool false] 58)) := hide ((hB.block _ (Array.getElem?_eq_some_iff.1 HZ4.out).1).trans HZ4.out)
      clear hB y1 y2 y3 hAp
      refine hK.out _ _ (⟨HYs.out.below HBc.out, HZs.out.below HBc.out⟩) (fun hHeld2 => ?_)
      clear hK K' hHeld
      have hHeld := hHeld2
      clear hHeld2
      try simp only [Act.put, List.setIfInBounds_toArray, List.set_cons_zero, List.set_cons_succ]
      refine wpAnyH_ready (rs := [3, 5]) (by kernel_rfl) (by simp) ?_
      refine AllReadyH.cons (o := ?_) ?_ (fun K' hK => ?_) (AllReadyH.cons (o := ?_) ?_ (fun K' hK => ?_) AllReadyH.nil)
      rotate_left 1
      · (simp only [List.getElem?_toArray, List.getElem?_cons_zero, List.getElem?_cons_succ]; rfl)
      · go_simp
        go_at_call 21
        refine (given_any zs _ _ _ _ _ (HZl.out.below HBc.out) HLz.out.1 HLz.out.2.1 HLz.out.2.2).mono ?_
        rintro _ W31 ⟨o1, i1, b1, rfl, y1, y2, y3, hB, hAp⟩
        obtain ⟨l1, l4, rfl⟩ := owns_slice y1
        obtain ⟨l2, l5, rfl⟩ := owns_slice y2
        obtain ⟨l3, l6, rfl⟩ := owns_slice y3
        have HL : Hid (Own3 w17.heap.size W31 zs (.slice l1 zs.out.length l4) (.slice l2 zs.inn.length l5) (.slice l3 zs.back.length l6)) := hide (Own3.mono ⟨y1, y2, y3, hAp⟩ HBc.out.size)
        replace HBc := hide (HBc.out.trans (hB.mono HBc.out.size))
        replace HK := hide (HK.out.below hB)
        replace HZ4 : Hid (W31.heap[W0.heap.size]? = some (Obj.cells #[.bool false, .bool false, .int .i64 0, .int .i64 0, .slice none 0 0, .slice none 0 0, .slice none 0 0, .int .i64 0, .bool false, .bool false, .bool false] 58)) := hide ((hB.block _ (Array.getElem?_eq_some_iff.1 HZ4.out).1).trans HZ4.out)
        clear hB y1 y2 y3 hAp
        refine hK.out _ _ (⟨HYs.out.below HBc.out, HZs.out.below HBc.out⟩) (fun hHeld2 => ?_)
        clear hK K' hHeld
        have hHeld := hHeld2
        clear hHeld2
        try simp only [Act.put, List.setIfInBounds_toArray, List.set_cons_zero, List.set_cons_succ]
        refine wpAnyH_ready (rs := [5]) (by kernel_rfl) (by simp) ?_
        refine AllReadyH.cons (o := ?_) ?_ (fun K' hK => ?_) AllReadyH.nil
        rotate_left 1
        · (simp only [List.getElem?_toArray, List.getElem?_cons_zero, List.getElem?_cons_succ]; rfl)
        · go_simp
          have hA := recv_below W31 (Obj.cells #[.bool false, .bool false, .int .i64 0, .int .i64 0, .slice none 0 0, .slice none 0 0, .slice none 0 0, .int .i64 0, .bool false, .bool false, .bool false] 58)
          have HZ5 := hide (heap_alloc_new W31 (Obj.cells #[.bool false, .bool false, .int .i64 0, .int .i64 0, .slice none 0 0, .slice none 0 0, .slice none 0 0, .int .i64 0, .bool false, .bool false, .bool false] 58))
          have hg5 : w17.heap.size ≤ W31.heap.size := HBc.out.size
          have hne : W0.heap.size < W31.heap.size := (Array.getElem?_eq_some_iff.1 HZ4.out).1
          replace HBc := hide (HBc.out.trans (hA.mono HBc.out.size))
          replace HK := hide (HK.out.below hA)
          replace HL := hide (HL.out.below hA)
          replace HZ4 : Hid ((W31.alloc (Obj.cells #[.bool false, .bool false, .int .i64 0, .int .i64 0, .slice none 0 0, .slice none 0 0, .slice none 0 0, .int .i64 0, .bool false, .bool false, .bool false] 58)).heap[W0.heap.size]? = some (Obj.cells #[.bool false, .bool false, .int .i64 0, .int .i64 0, .slice none 0 0, .slice none 0 0, .slice none 0 0, .int .i64 0, .bool false, .bool false, .bool false] 58)) := hide ((hA.block _ (Array.getElem?_eq_some_iff.1 HZ4.out).1).trans HZ4.out)
          clear hA
          generalize W31.alloc (Obj.cells #[.bool false, .bool false, .int .i64 0, .int .i64 0, .slice none 0 0, .slice none 0 0, .slice none 0 0, .int .i64 0, .bool false, .bool false, .bool false] 58) = W32 at *
          refine hK.out _ _ (⟨HYs.out.below HBc.out, HZs.out.below HBc.out⟩) (fun hHeld2 => ?_)
          clear hK K' hHeld
          have hHeld := hHeld2
          clear hHeld2
          try simp only [Act.put, List.setIfInBounds_toArray, List.set_cons_zero, List.set_cons_succ]
          have pf0 := frozen_of_row W32 W0.heap.size 0 _ _ HZ4.out
          have pf1 := frozen_of_row W32 W0.heap.size 1 _ _ HZ4.out
          have pf2 := frozen_of_row W32 W0.heap.size 2 _ _ HZ4.out
          have pf3 := frozen_of_row W32 W0.heap.size 3 _ _ HZ4.out
          have pf4 := frozen_of_row W32 W0.heap.size 4 _ _ HZ4.out
          have pf5 := frozen_of_row W32 W0.heap.size 5 _ _ HZ4.out
          have pf6 := frozen_of_row W32 W0.heap.size 6 _ _ HZ4.out
          have pf7 := frozen_of_row W32 W0.heap.size 7 _ _ HZ4.out
          have pf8 := frozen_of_row W32 W0.heap.size 8 _ _ HZ4.out
          have pf9 := frozen_of_row W32 W0.heap.size 9 _ _ HZ4.out
          have pf10 := frozen_of_row W32 W0.heap.size 10 _ _ HZ4.out
          have pc0 := cell_of_row W32 W0.heap.size 0 _ _ _ HZ4.out
          have pc1 := cell_of_row W32 W0.heap.size 1 _ _ _ HZ4.out
          have pc2 := cell_of_row W32 W0.heap.size 2 _ _ _ HZ4.out
          have pc3 := cell_of_row W32 W0.heap.size 3 _ _ _ HZ4.out
          have pc4 := cell_of_row W32 W0.heap.size 4 _ _ _ HZ4.out
          have pc5 := cell_of_row W32 W0.heap.size 5 _ _ _ HZ4.out
          have pc6 := cell_of_row W32 W0.heap.size 6 _ _ _ HZ4.out
          have pc7 := cell_of_row W32 W0.heap.size 7 _ _ _ HZ4.out
          have pc8 := cell_of_row W32 W0.heap.size 8 _ _ _ HZ4.out
          have pc9 := cell_of_row W32 W0.heap.size 9 _ _ _ HZ4.out
          have pc10 := cell_of_row W32 W0.heap.size 10 _ _ _ HZ4.out
          simp at pc0 pc1 pc2 pc3 pc4 pc5 pc6 pc7 pc8 pc9 pc10
          refine wpAnyH_ready (rs := [6]) (by kernel_rfl) (by simp) ?_
          refine AllReadyH.cons (o := ?_) ?_ (fun K' hK => ?_) AllReadyH.nil
          rotate_left 1
          · (simp only [List.getElem?_toArray, List.getElem?_cons_zero, List.getElem?_cons_succ]; rfl)
          · obtain ⟨e1, e2⟩ := st_fill W32 W0.heap.size y (.slice k1 y.out.length k4) (.slice k2 y.inn.length k5) (.slice k3 y.back.length k6) HZ4.out
            have HD4 := hide e1
            replace HBc := hide (HBc.out.trans (e2.below (B := w17.heap.size) (fun k e => by have e3 : k = W0.heap.size := e; omega) HBc.out.size))
            replace HK := hide (Own3.past HK.out e2 HZ4.out)
            replace HL := hide (Own3.past HL.out e2 HZ4.out)
            replace HZ5 := hide ((e2.block _ (Array.getElem?_eq_some_iff.1 HZ5.out).1 (by show ¬ _ = W0.heap.size; omega)).trans HZ5.out)
            clear HZ4 e1 e2
            go_simp
            clear pf0 pf1 pf2 pf3 pf4 pf5 pf6 pf7 pf8 pf9 pf10 pc0 pc1 pc2 pc3 pc4 pc5 pc6 pc7 pc8 pc9 pc10
            generalize ((((((((((W32.setCell ⟨W0.heap.size, 0, none⟩ (.bool y.rd)).setCell ⟨W0.heap.size, 1, none⟩ (.bool y.wt)).setCell ⟨W0.heap.size, 2, none⟩ (.int .i64 y.mode)).setCell ⟨W0.heap.size, 3, none⟩ (.int .i64 y.size)).setCell ⟨W0.heap.size, 4, none⟩ (.slice k1 y.out.length k4)).setCell ⟨W0.heap.size, 5, none⟩ (.slice k2 y.inn.length k5)).setCell ⟨W0.heap.size, 6, none⟩ (.slice k3 y.back.length k6)).setCell ⟨W0.heap.size, 7, none⟩ (.int .i64 y.dir)).setCell ⟨W0.heap.size, 8, none⟩ (.bool y.fin)).setCell ⟨W0.heap.size, 9, none⟩ (.bool y.bad)).setCell ⟨W0.heap.size, 10, none⟩ (.bool y.closed) = W33 at *
            refine hK.out _ _ (⟨HYs.out.below HBc.out, HZs.out.below HBc.out⟩) (fun hHeld2 => ?_)
            clear hK K' hHeld
            have hHeld := hHeld2
            clear hHeld2
            try simp only [Act.put, List.setIfInBounds_toArray, List.set_cons_zero, List.set_cons_succ]
            have rf0 := frozen_of_row W33 W31.heap.size 0 _ _ HZ5.out
            have rf1 := frozen_of_row W33 W31.heap.size 1 _ _ HZ5.out
            have rf2 := frozen_of_row W33 W31.heap.size 2 _ _ HZ5.out
            have rf3 := frozen_of_row W33 W31.heap.size 3 _ _ HZ5.out
            have rf4 := frozen_of_row W33 W31.heap.size 4 _ _ HZ5.out
            have rf5 := frozen_of_row W33 W31.heap.size 5 _ _ HZ5.out
            have rf6 := frozen_of_row W33 W31.heap.size 6 _ _ HZ5.out
            have rf7 := frozen_of_row W33 W31.heap.size 7 _ _ HZ5.out
            have rf8 := frozen_of_row W33 W31.heap.size 8 _ _ HZ5.out
            have rf9 := frozen_of_row W33 W31.heap.size 9 _ _ HZ5.out
            have rf10 := frozen_of_row W33 W31.heap.size 10 _ _ HZ5.out
            have rc0 := cell_of_row W33 W31.heap.size 0 _ _ _ HZ5.out
            have rc1 := cell_of_row W33 W31.heap.size 1 _ _ _ HZ5.out
            have rc2 := cell_of_row W33 W31.heap.size 2 _ _ _ HZ5.out
            have rc3 := cell_of_row W33 W31.heap.size 3 _ _ _ HZ5.out
            have rc4 := cell_of_row W33 W31.heap.size 4 _ _ _ HZ5.out
            have rc5 := cell_of_row W33 W31.heap.size 5 _ _ _ HZ5.out
            have rc6 := cell_of_row W33 W31.heap.size 6 _ _ _ HZ5.out
            have rc7 := cell_of_row W33 W31.heap.size 7 _ _ _ HZ5.out
            have rc8 := cell_of_row W33 W31.heap.size 8 _ _ _ HZ5.out
            have rc9 := cell_of_row W33 W31.heap.size 9 _ _ _ HZ5.out
            have rc10 := cell_of_row W33 W31.heap.size 10 _ _ _ HZ5.out
            simp at rc0 rc1 rc2 rc3 rc4 rc5 rc6 rc7 rc8 rc9 rc10
            refine wpAnyH_ready (rs := [7]) (by kernel_rfl) (by simp) ?_
            refine AllReadyH.cons (o := ?_) ?_ (fun K' hK => ?_) AllReadyH.nil
            rotate_left 1
            · (simp only [List.getElem?_toArray, List.getElem?_cons_zero, List.getElem?_cons_succ]; rfl)
            · obtain ⟨e1, e2⟩ := st_fill W33 W31.heap.size zs (.slice l1 zs.out.length l4) (.slice l2 zs.inn.length l5) (.slice l3 zs.back.length l6) HZ5.out
              have HD5 := hide e1
              replace HBc := hide (HBc.out.trans (e2.below (B := w17.heap.size) (fun k e => by have e3 : k = W31.heap.size := e; omega) HBc.out.size))
              replace HK := hide (Own3.past HK.out e2 HZ5.out)
              replace HL := hide (Own3.past HL.out e2 HZ5.out)
              replace HD4 := hide (StAt.turned1 HD4.out e2 (by omega))
              clear HZ5 e1 e2
              go_simp
              clear rf0 rf1 rf2 rf3 rf4 rf5 rf6 rf7 rf8 rf9 rf10 rc0 rc1 rc2 rc3 rc4 rc5 rc6 rc7 rc8 rc9 rc10
              generalize ((((((((((W33.setCell ⟨W31.heap.size, 0, none⟩ (.bool zs.rd)).setCell ⟨W31.heap.size, 1, none⟩ (.bool zs.wt)).setCell ⟨W31.heap.size, 2, none⟩ (.int .i64 zs.mode)).setCell ⟨W31.heap.size, 3, none⟩ (.int .i64 zs.size)).setCell ⟨W31.heap.size, 4, none⟩ (.slice l1 zs.out.length l4)).setCell ⟨W31.heap.size, 5, none⟩ (.slice l2 zs.inn.length l5)).setCell ⟨W31.heap.size, 6, none⟩ (.slice l3 zs.back.length l6)).setCell ⟨W31.heap.size, 7, none⟩ (.int .i64 zs.dir)).setCell ⟨W31.heap.size, 8, none⟩ (.bool zs.fin)).setCell ⟨W31.heap.size, 9, none⟩ (.bool zs.bad)).setCell ⟨W31.heap.size, 10, none⟩ (.bool zs.closed) = W34 at *
              refine hK.out _ _ (⟨HYs.out.below HBc.out, HZs.out.below HBc.out⟩) (fun hHeld2 => ?_)
              clear hK K' hHeld
              have hHeld := hHeld2
              clear hHeld2
              try simp only [Act.put, List.setIfInBounds_toArray, List.set_cons_zero, List.set_cons_succ]
              refine wpAnyH_done (by kernel_rfl) ?_ _
              refine NoPanic.normal ?_
              clear hHeld
              go_wp2
              go_meet
              exact ⟨_, _, _, _, _, _, _, _, _, _, _, _, _, _, rfl, rfl, HD4, HD5, HK, HL, HBc, by omega, by omega⟩
      rotate_left 1
      · (simp only [List.getElem?_toArray, List.getElem?_cons_zero, List.getElem?_cons_succ]; rfl)
      · go_simp
        have hA := recv_below W30 (Obj.cells #[.bool false, .bool false, .int .i64 0, .int .i64 0, .slice none 0 0, .slice none 0 0, .slice none 0 0, .int .i64 0, .bool false, .bool false, .bool false] 58)
        have HZ5 := hide (heap_alloc_new W30 (Obj.cells #[.bool false, .bool false, .int .i64 0, .int .i64 0, .slice none 0 0, .slice none 0 0, .slice none 0 0, .int .i64 0, .bool false, .bool false, .bool false] 58))
        have hg5 : w17.heap.size ≤ W30.heap.size := HBc.out.size
        have hne : W0.heap.size < W30.heap.size := (Array.getElem?_eq_some_iff.1 HZ4.out).1
        replace HBc := hide (HBc.out.trans (hA.mono HBc.out.size))
        replace HK := hide (HK.out.below hA)
        replace HZ4 : Hid ((W30.alloc (Obj.cells #[.bool false, .bool false, .int .i64 0, .int .i64 0, .slice none 0 0, .slice none 0 0, .slice none 0 0, .int .i64 0, .bool false, .bool false, .bool false] 58)).heap[W0.heap.size]? = some (Obj.cells #[.bool false, .bool false, .int .i64 0, .int .i64 0, .slice none 0 0, .slice none 0 0, .slice none 0 0, .int .i64 0, .bool false, .bool false, .bool false] 58)) := hide ((hA.block _ (Array.getElem?_eq_some_iff.1 HZ4.out).1).trans HZ4.out)
        clear hA
        generalize W30.alloc (Obj.cells #[.bool false, .bool false, .int .i64 0, .int .i64 0, .slice none 0 0, .slice none 0 0, .slice none 0 0, .int .i64 0, .bool false, .bool false, .bool false] 58) = W35 at *
        refine hK.out _ _ (⟨HYs.out.below HBc.out, HZs.out.below HBc.out⟩) (fun hHeld2 => ?_)
        clear hK K' hHeld
        have hHeld := hHeld2
        clear hHeld2
        try simp only [Act.put, List.setIfInBounds_toArray, List.set_cons_zero, List.set_cons_succ]
        refine wpAnyH_ready (rs := [3]) (by kernel_rfl) (by simp) ?_
        refine AllReadyH.cons (o := ?_) ?_ (fun K' hK => ?_) AllReadyH.nil
        rotate_left 1
        · (simp only [List.getElem?_toArray, List.getElem?_cons_zero, List.getElem?_cons_succ]; rfl)
        · go_simp
          go_at_call 21
          refine (given_any zs _ _ _ _ _ (HZl.out.below HBc.out) HLz.out.1 HLz.out.2.1 HLz.out.2.2).mono ?_
          rintro _ W36 ⟨o1, i1, b1, rfl, y1, y2, y3, hB, hAp⟩
          obtain ⟨l1, l4, rfl⟩ := owns_slice y1
          obtain ⟨l2, l5, rfl⟩ := owns_slice y2
          obtain ⟨l3, l6, rfl⟩ := owns_slice y3
          have HL : Hid (Own3 w17.heap.size W36 zs (.slice l1 zs.out.length l4) (.slice l2 zs.inn.length l5) (.slice l3 zs.back.length l6)) := hide (Own3.mono ⟨y1, y2, y3, hAp⟩ HBc.out.size)
          replace HBc := hide (HBc.out.trans (hB.mono HBc.out.size))
          replace HK := hide (HK.out.below hB)
          replace HZ4 : Hid (W36.heap[W0.heap.size]? = some (Obj.cells #[.bool false, .bool false, .int .i64 0, .int .i64 0, .slice none 0 0, .slice none 0 0, .slice none 0 0, .int .i64 0, .bool false, .bool false, .bool false] 58)) := hide ((hB.block _ (Array.getElem?_eq_some_iff.1 HZ4.out).1).trans HZ4.out)
          replace HZ5 : Hid (W36.heap[W30.heap.size]? = some (Obj.cells #[.bool false, .bool false, .int .i64 0, .int .i64 0, .slice none 0 0, .slice none 0 0, .slice none 0 0, .int .i64 0, .bool false, .bool false, .bool false] 58)) := hide ((hB.block _ (Array.getElem?_eq_some_iff.1 HZ5.out).1).trans HZ5.out)
          clear hB y1 y2 y3 hAp
          refine hK.out _ _ (⟨HYs.out.below HBc.out, HZs.out.below HBc.out⟩) (fun hHeld2 => ?_)
          clear hK K' hHeld
          have hHeld := hHeld2
          clear hHeld2
          try simp only [Act.put, List.setIfInBounds_toArray, List.set_cons_zero, List.set_cons_succ]
          have pf0 := frozen_of_row W36 W0.heap.size 0 _ _ HZ4.out
          have pf1 := frozen_of_row W36 W0.heap.size 1 _ _ HZ4.out
          have pf2 := frozen_of_row W36 W0.heap.size 2 _ _ HZ4.out
          have pf3 := frozen_of_row W36 W0.heap.size 3 _ _ HZ4.out
          have pf4 := frozen_of_row W36 W0.heap.size 4 _ _ HZ4.out
          have pf5 := frozen_of_row W36 W0.heap.size 5 _ _ HZ4.out
          have pf6 := frozen_of_row W36 W0.heap.size 6 _ _ HZ4.out
          have pf7 := frozen_of_row W36 W0.heap.size 7 _ _ HZ4.out
          have pf8 := frozen_of_row W36 W0.heap.size 8 _ _ HZ4.out
          have pf9 := frozen_of_row W36 W0.heap.size 9 _ _ HZ4.out
          have pf10 := frozen_of_row W36 W0.heap.size 10 _ _ HZ4.out
          have pc0 := cell_of_row W36 W0.heap.size 0 _ _ _ HZ4.out
          have pc1 := cell_of_row W36 W0.heap.size 1 _ _ _ HZ4.out
          have pc2 := cell_of_row W36 W0.heap.size 2 _ _ _ HZ4.out
          have pc3 := cell_of_row W36 W0.heap.size 3 _ _ _ HZ4.out
          have pc4 := cell_of_row W36 W0.heap.size 4 _ _ _ HZ4.out
          have pc5 := cell_of_row W36 W0.heap.size 5 _ _ _ HZ4.out
          have pc6 := cell_of_row W36 W0.heap.size 6 _ _ _ HZ4.out
          have pc7 := cell_of_row W36 W0.heap.size 7 _ _ _ HZ4.out
          have pc8 := cell_of_row W36 W0.heap.size 8 _ _ _ HZ4.out
          have pc9 := cell_of_row W36 W0.heap.size 9 _ _ _ HZ4.out
          have pc10 := cell_of_row W36 W0.heap.size 10 _ _ _ HZ4.out
          simp at pc0 pc1 pc2 pc3 pc4 pc5 pc6 pc7 pc8 pc9 pc10
          refine wpAnyH_ready (rs := [6]) (by kernel_rfl) (by simp) ?_
          refine AllReadyH.cons (o := ?_) ?_ (fun K' hK => ?_) AllReadyH.nil
          rotate_left 1
          · (simp only [List.getElem?_toArray, List.getElem?_cons_zero, List.getElem?_cons_succ]; rfl)
          · obtain ⟨e1, e2⟩ := st_fill W36 W0.heap.size y (.slice k1 y.out.length k4) (.slice k2 y.inn.length k5) (.slice k3 y.back.length k6) HZ4.out
            have HD4 := hide e1
            replace HBc := hide (HBc.out.trans (e2.below (B := w17.heap.size) (fun k e => by have e3 : k = W0.heap.size := e; omega) HBc.out.size))
            replace HK := hide (Own3.past HK.out e2 HZ4.out)
            replace HL := hide (Own3.past HL.out e2 HZ4.out)
            replace HZ5 := hide ((e2.block _ (Array.getElem?_eq_some_iff.1 HZ5.out).1 (by show ¬ _ = W0.heap.size; omega)).trans HZ5.out)
            clear HZ4 e1 e2
            go_simp
            clear pf0 pf1 pf2 pf3 pf4 pf5 pf6 pf7 pf8 pf9 pf10 pc0 pc1 pc2 pc3 pc4 pc5 pc6 pc7 pc8 pc9 pc10
            generalize ((((((((((W36.setCell ⟨W0.heap.size, 0, none⟩ (.bool y.rd)).setCell ⟨W0.heap.size, 1, none⟩ (.bool y.wt)).setCell ⟨W0.heap.size, 2, none⟩ (.int .i64 y.mode)).setCell ⟨W0.heap.size, 3, none⟩ (.int .i64 y.size)).setCell ⟨W0.heap.size, 4, none⟩ (.slice k1 y.out.length k4)).setCell ⟨W0.heap.size, 5, none⟩ (.slice k2 y.inn.length k5)).setCell ⟨W0.heap.size, 6, none⟩ (.slice k3 y.back.length k6)).setCell ⟨W0.heap.size, 7, none⟩ (.int .i64 y.dir)).setCell ⟨W0.heap.size, 8, none⟩ (.bool y.fin)).setCell ⟨W0.heap.size, 9, none⟩ (.bool y.bad)).setCell ⟨W0.heap.size, 10, none⟩ (.bool y.closed) = W37 at *
            refine hK.out _ _ (⟨HYs.out.below HBc.out, HZs.out.below HBc.out⟩) (fun hHeld2 => ?_)
            clear hK K' hHeld
            have hHeld := hHeld2
            clear hHeld2
            try simp only [Act.put, List.setIfInBounds_toArray, List.set_cons_zero, List.set_cons_succ]
            have rf0 := frozen_of_row W37 W30.heap.size 0 _ _ HZ5.out
            have rf1 := frozen_of_row W37 W30.heap.size 1 _ _ HZ5.out
            have rf2 := frozen_of_row W37 W30.heap.size 2 _ _ HZ5.out
            have rf3 := frozen_of_row W37 W30.heap.size 3 _ _ HZ5.out
            have rf4 := frozen_of_row W37 W30.heap.size 4 _ _ HZ5.out
            have rf5 := frozen_of_row W37 W30.heap.size 5 _ _ HZ5.out
            have rf6 := frozen_of_row W37 W30.heap.size 6 _ _ HZ5.out
            have rf7 := frozen_of_row W37 W30.heap.size 7 _ _ HZ5.out
            have rf8 := frozen_of_row W37 W30.heap.size 8 _ _ HZ5.out
            have rf9 := frozen_of_row W37 W30.heap.size 9 _ _ HZ5.out
            have rf10 := frozen_of_row W37 W30.heap.size 10 _ _ HZ5.out
            have rc0 := cell_of_row W37 W30.heap.size 0 _ _ _ HZ5.out
            have rc1 := cell_of_row W37 W30.heap.size 1 _ _ _ HZ5.out
            have rc2 := cell_of_row W37 W30.heap.size 2 _ _ _ HZ5.out
            have rc3 := cell_of_row W37 W30.heap.size 3 _ _ _ HZ5.out
            have rc4 := cell_of_row W37 W30.heap.size 4 _ _ _ HZ5.out
            have rc5 := cell_of_row W37 W30.heap.size 5 _ _ _ HZ5.out
            have rc6 := cell_of_row W37 W30.heap.size 6 _ _ _ HZ5.out
            have rc7 := cell_of_row W37 W30.heap.size 7 _ _ _ HZ5.out
            have rc8 := cell_of_row W37 W30.heap.size 8 _ _ _ HZ5.out
            have rc9 := cell_of_row W37 W30.heap.size 9 _ _ _ HZ5.out
            have rc10 := cell_of_row W37 W30.heap.size 10 _ _ _ HZ5.out
            simp at rc0 rc1 rc2 rc3 rc4 rc5 rc6 rc7 rc8 rc9 rc10
            refine wpAnyH_ready (rs := [7]) (by kernel_rfl) (by simp) ?_
            refine AllReadyH.cons (o := ?_) ?_ (fun K' hK => ?_) AllReadyH.nil
            rotate_left 1
            · (simp only [List.getElem?_toArray, List.getElem?_cons_zero, List.getElem?_cons_succ]; rfl)
            · obtain ⟨e1, e2⟩ := st_fill W37 W30.heap.size zs (.slice l1 zs.out.length l4) (.slice l2 zs.inn.length l5) (.slice l3 zs.back.length l6) HZ5.out
              have HD5 := hide e1
              replace HBc := hide (HBc.out.trans (e2.below (B := w17.heap.size) (fun k e => by have e3 : k = W30.heap.size := e; omega) HBc.out.size))
              replace HK := hide (Own3.past HK.out e2 HZ5.out)
              replace HL := hide (Own3.past HL.out e2 HZ5.out)
              replace HD4 := hide (StAt.turned1 HD4.out e2 (by omega))
              clear HZ5 e1 e2
              go_simp
              clear rf0 rf1 rf2 rf3 rf4 rf5 rf6 rf7 rf8 rf9 rf10 rc0 rc1 rc2 rc3 rc4 rc5 rc6 rc7 rc8 rc9 rc10
              generalize ((((((((((W37.setCell ⟨W30.heap.size, 0, none⟩ (.bool zs.rd)).setCell ⟨W30.heap.size, 1, none⟩ (.bool zs.wt)).setCell ⟨W30.heap.size, 2, none⟩ (.int .i64 zs.mode)).setCell ⟨W30.heap.size, 3, none⟩ (.int .i64 zs.size)).setCell ⟨W30.heap.size, 4, none⟩ (.slice l1 zs.out.length l4)).setCell ⟨W30.heap.size, 5, none⟩ (.slice l2 zs.inn.length l5)).setCell ⟨W30.heap.size, 6, none⟩ (.slice l3 zs.back.length l6)).setCell ⟨W30.heap.size, 7, none⟩ (.int .i64 zs.dir)).setCell ⟨W30.heap.size, 8, none⟩ (.bool zs.fin)).setCell ⟨W30.heap.size, 9, none⟩ (.bool zs.bad)).setCell ⟨W30.heap.size, 10, none⟩ (.bool zs.closed) = W38 at *
              refine hK.out _ _ (⟨HYs.out.below HBc.out, HZs.out.below HBc.out⟩) (fun hHeld2 => ?_)
              clear hK K' hHeld
              have hHeld := hHeld2
              clear hHeld2
              try simp only [Act.put, List.setIfInBounds_toArray, List.set_cons_zero, List.set_cons_succ]
              refine wpAnyH_done (by kernel_rfl) ?_ _
              refine NoPanic.normal ?_
              clear hHeld
              go_wp2
              go_meet
              exact ⟨_, _, _, _, _, _, _, _, _, _, _, _, _, _, rfl, rfl, HD4, HD5, HK, HL, HBc, by omega, by omega⟩
    rotate_left 1
    · (simp only [List.getElem?_toArray, List.getElem?_cons_zero, List.getElem?_cons_succ]; rfl)
    · go_simp
      have hA := recv_below W29 (Obj.cells #[.bool false, .bool false, .int .i64 0, .int .i64 0, .slice none 0 0, .slice none 0 0, .slice none 0 0, .int .i64 0, .bool false, .bool false, .bool false] 58)
      have HZ5 := hide (heap_alloc_new W29 (Obj.cells #[.bool false, .bool false, .int .i64 0, .int .i64 0, .slice none 0 0, .slice none 0 0, .slice none 0 0, .int .i64 0, .bool false, .bool false, .bool false] 58))
      have hg5 : w17.heap.size ≤ W29.heap.size := HBc.out.size
      have hne : W0.heap.size < W29.heap.size := (Array.getElem?_eq_some_iff.1 HZ4.out).1
      replace HBc := hide (HBc.out.trans (hA.mono HBc.out.size))
      replace HZ4 : Hid ((W29.alloc (Obj.cells #[.bool false, .bool false, .int .i64 0, .int .i64 0, .slice none 0 0, .slice none 0 0, .slice none 0 0, .int .i64 0, .bool false, .bool false, .bool false] 58)).heap[W0.heap.size]? = some (Obj.cells #[.bool false, .bool false, .int .i64 0, .int .i64 0, .slice none 0 0, .slice none 0 0, .slice none 0 0, .int .i64 0, .bool false, .bool false, .bool false] 58)) := hide ((hA.block _ (Array.getElem?_eq_some_iff.1 HZ4.out).1).trans HZ4.out)
      clear hA
      generalize W29.alloc (Obj.cells #[.bool false, .bool false, .int .i64 0, .int .i64 0, .slice none 0 0, .slice none 0 0, .slice none 0 0, .int .i64 0, .bool false, .bool false, .bool false] 58) = W39 at *
      refine hK.out _ _ (⟨HYs.out.below HBc.out, HZs.out.below HBc.out⟩) (fun hHeld2 => ?_)
      clear hK K' hHeld
      have hHeld := hHeld2
      clear hHeld2
      try simp only [Act.put, List.setIfInBounds_toArray, List.set_cons_zero, List.set_cons_succ]
      refine wpAnyH_ready (rs := [1]) (by kernel_rfl) (by simp) ?_
      refine AllReadyH.cons (o := ?_) ?_ (fun K' hK => ?_) AllReadyH.nil
      rotate_left 1
      · (simp only [List.getElem?_toArray, List.getElem?_cons_zero, List.getElem?_cons_succ]; rfl)
      · go_simp
        go_at_call 21
        refine (given_any y _ _ _ _ _ (HYl.out.below HBc.out) HLy.out.1 HLy.out.2.1 HLy.out.2.2).mono ?_
        rintro _ W40 ⟨o1, i1, b1, rfl, y1, y2, y3, hB, hAp⟩
        obtain ⟨k1, k4, rfl⟩ := owns_slice y1
        obtain ⟨k2, k5, rfl⟩ := owns_slice y2
        obtain ⟨k3, k6, rfl⟩ := owns_slice y3
        have HK : Hid (Own3 w17.heap.size W40 y (.slice k1 y.out.length k4) (.slice k2 y.inn.length k5) (.slice k3 y.back.length k6)) := hide (Own3.mono ⟨y1, y2, y3, hAp⟩ HBc.out.size)
        replace HBc := hide (HBc.out.trans (hB.mono HBc.out.size))
        replace HZ4 : Hid (W40.heap[W0.heap.size]? = some (Obj.cells #[.bool false, .bool false, .int .i64 0, .int .i64 0, .slice none 0 0, .slice none 0 0, .slice none 0 0, .int .i64 0, .bool false, .bool false, .bool false] 58)) := hide ((hB.block _ (Array.getElem?_eq_some_iff.1 HZ4.out).1).trans HZ4.out)
        replace HZ5 : Hid (W40.heap[W29.heap.size]? = some (Obj.cells #[.bool false, .bool false, .int .i64 0, .int .i64 0, .slice none 0 0, .slice none 0 0, .slice none 0 0, .int .i64 0, .bool false, .bool false, .bool false] 58)) := hide ((hB.block _ (Array.getElem?_eq_some_iff.1 HZ5.out).1).trans HZ5.out)
        clear hB y1 y2 y3 hAp
        refine hK.out _ _ (⟨HYs.out.below HBc.out, HZs.out.below HBc.out⟩) (fun hHeld2 => ?_)
        clear hK K' hHeld
        have hHeld := hHeld2
        clear hHeld2
        try simp only [Act.put, List.setIfInBounds_toArray, List.set_cons_zero, List.set_cons_succ]
        refine wpAnyH_ready (rs := [3]) (by kernel_rfl) (by simp) ?_
        refine AllReadyH.cons (o := ?_) ?_ (fun K' hK => ?_) AllReadyH.nil
        rotate_left 1
        · (simp only [List.getElem?_toArray, List.getElem?_cons_zero, List.getElem?_cons_succ]; rfl)
        · go_simp
          go_at_call 21
          refine (given_any zs _ _ _ _ _ (HZl.out.below HBc.out) HLz.out.1 HLz.out.2.1 HLz.out.2.2).mono ?_
          rintro _ W41 ⟨o1, i1, b1, rfl, y1, y2, y3, hB, hAp⟩
          obtain ⟨l1, l4, rfl⟩ := owns_slice y1
          obtain ⟨l2, l5, rfl⟩ := owns_slice y2
          obtain ⟨l3, l6, rfl⟩ := owns_slice y3
          have HL : Hid (Own3 w17.heap.size W41 zs (.slice l1 zs.out.length l4) (.slice l2 zs.inn.length l5) (.slice l3 zs.back.length l6)) := hide (Own3.mono ⟨y1, y2, y3, hAp⟩ HBc.out.size)
          replace HBc := hide (HBc.out.trans (hB.mono HBc.out.size))
          replace HK := hide (HK.out.below hB)
          replace HZ4 : Hid (W41.heap[W0.heap.size]? = some (Obj.cells #[.bool false, .bool false, .int .i64 0, .int .i64 0, .slice none 0 0, .slice none 0 0, .slice none 0 0, .int .i64 0, .bool false, .bool false, .bool false] 58)) := hide ((hB.block _ (Array.getElem?_eq_some_iff.1 HZ4.out).1).trans HZ4.out)
          replace HZ5 : Hid (W41.heap[W29.heap.size]? = some (Obj.cells #[.bool false, .bool false, .int .i64 0, .int .i64 0, .slice none 0 0, .slice none 0 0, .slice none 0 0, .int .i64 0, .bool false, .bool false, .bool false] 58)) := hide ((hB.block _ (Array.getElem?_eq_some_iff.1 HZ5.out).1).trans HZ5.out)
          clear hB y1 y2 y3 hAp
          refine hK.out _ _ (⟨HYs.out.below HBc.out, HZs.out.below HBc.out⟩) (fun hHeld2 => ?_)
          clear hK K' hHeld
          have hHeld := hHeld2
          clear hHeld2
          try simp only [Act.put, List.setIfInBounds_toArray, List.set_cons_zero, List.set_cons_succ]
          have pf0 := frozen_of_row W41 W0.heap.size 0 _ _ HZ4.out
          have pf1 := frozen_of_row W41 W0.heap.size 1 _ _ HZ4.out
          have pf2 := frozen_of_row W41 W0.heap.size 2 _ _ HZ4.out
          have pf3 := frozen_of_row W41 W0.heap.size 3 _ _ HZ4.out
          have pf4 := frozen_of_row W41 W0.heap.size 4 _ _ HZ4.out
          have pf5 := frozen_of_row W41 W0.heap.size 5 _ _ HZ4.out
          have pf6 := frozen_of_row W41 W0.heap.size 6 _ _ HZ4.out
          have pf7 := frozen_of_row W41 W0.heap.size 7 _ _ HZ4.out
          have pf8 := frozen_of_row W41 W0.heap.size 8 _ _ HZ4.out
          have pf9 := frozen_of_row W41 W0.heap.size 9 _ _ HZ4.out
          have pf10 := frozen_of_row W41 W0.heap.size 10 _ _ HZ4.out
          have pc0 := cell_of_row W41 W0.heap.size 0 _ _ _ HZ4.out
          have pc1 := cell_of_row W41 W0.heap.size 1 _ _ _ HZ4.out
          have pc2 := cell_of_row W41 W0.heap.size 2 _ _ _ HZ4.out
          have pc3 := cell_of_row W41 W0.heap.size 3 _ _ _ HZ4.out
          have pc4 := cell_of_row W41 W0.heap.size 4 _ _ _ HZ4.out
          have pc5 := cell_of_row W41 W0.heap.size 5 _ _ _ HZ4.out
          have pc6 := cell_of_row W41 W0.heap.size 6 _ _ _ HZ4.out
          have pc7 := cell_of_row W41 W0.heap.size 7 _ _ _ HZ4.out
          have pc8 := cell_of_row W41 W0.heap.size 8 _ _ _ HZ4.out
          have pc9 := cell_of_row W41 W0.heap.size 9 _ _ _ HZ4.out
          have pc10 := cell_of_row W41 W0.heap.size 10 _ _ _ HZ4.out
          simp at pc0 pc1 pc2 pc3 pc4 pc5 pc6 pc7 pc8 pc9 pc10
          refine wpAnyH_ready (rs := [6]) (by kernel_rfl) (by simp) ?_
          refine AllReadyH.cons (o := ?_) ?_ (fun K' hK => ?_) AllReadyH.nil
          rotate_left 1
          · (simp only [List.getElem?_toArray, List.getElem?_cons_zero, List.getElem?_cons_succ]; rfl)
          · obtain ⟨e1, e2⟩ := st_fill W41 W0.heap.size y (.slice k1 y.out.length k4) (.slice k2 y.inn.length k5) (.slice k3 y.back.length k6) HZ4.out
            have HD4 := hide e1
            replace HBc := hide (HBc.out.trans (e2.below (B := w17.heap.size) (fun k e => by have e3 : k = W0.heap.size := e; omega) HBc.out.size))
            replace HK := hide (Own3.past HK.out e2 HZ4.out)
            replace HL := hide (Own3.past HL.out e2 HZ4.out)
            replace HZ5 := hide ((e2.block _ (Array.getElem?_eq_some_iff.1 HZ5.out).1 (by show ¬ _ = W0.heap.size; omega)).trans HZ5.out)
            clear HZ4 e1 e2
            go_simp
            clear pf0 pf1 pf2 pf3 pf4 pf5 pf6 pf7 pf8 pf9 pf10 pc0 pc1 pc2 pc3 pc4 pc5 pc6 pc7 pc8 pc9 pc10
            generalize ((((((((((W41.setCell ⟨W0.heap.size, 0, none⟩ (.bool y.rd)).setCell ⟨W0.heap.size, 1, none⟩ (.bool y.wt)).setCell ⟨W0.heap.size, 2, none⟩ (.int .i64 y.mode)).setCell ⟨W0.heap.size, 3, none⟩ (.int .i64 y.size)).setCell ⟨W0.heap.size, 4, none⟩ (.slice k1 y.out.length k4)).setCell ⟨W0.heap.size, 5, none⟩ (.slice k2 y.inn.length k5)).setCell ⟨W0.heap.size, 6, none⟩ (.slice k3 y.back.length k6)).setCell ⟨W0.heap.size, 7, none⟩ (.int .i64 y.dir)).setCell ⟨W0.heap.size, 8, none⟩ (.bool y.fin)).setCell ⟨W0.heap.size, 9, none⟩ (.bool y.bad)).setCell ⟨W0.heap.size, 10, none⟩ (.bool y.closed) = W42 at *
            refine hK.out _ _ (⟨HYs.out.below HBc.out, HZs.out.below HBc.out⟩) (fun hHeld2 => ?_)
            clear hK K' hHeld
            have hHeld := hHeld2
            clear hHeld2
            try simp only [Act.put, List.setIfInBounds_toArray, List.set_cons_zero, List.set_cons_succ]
            have rf0 := frozen_of_row W42 W29.heap.size 0 _ _ HZ5.out
            have rf1 := frozen_of_row W42 W29.heap.size 1 _ _ HZ5.out
            have rf2 := frozen_of_row W42 W29.heap.size 2 _ _ HZ5.out
            have rf3 := frozen_of_row W42 W29.heap.size 3 _ _ HZ5.out
            have rf4 := frozen_of_row W42 W29.heap.size 4 _ _ HZ5.out
            have rf5 := frozen_of_row W42 W29.heap.size 5 _ _ HZ5.out
            have rf6 := frozen_of_row W42 W29.heap.size 6 _ _ HZ5.out
            have rf7 := frozen_of_row W42 W29.heap.size 7 _ _ HZ5.out
            have rf8 := frozen_of_row W42 W29.heap.size 8 _ _ HZ5.out
            have rf9 := frozen_of_row W42 W29.heap.size 9 _ _ HZ5.out
            have rf10 := frozen_of_row W42 W29.heap.size 10 _ _ HZ5.out
            have rc0 := cell_of_row W42 W29.heap.size 0 _ _ _ HZ5.out
            have rc1 := cell_of_row W42 W29.heap.size 1 _ _ _ HZ5.out
            have rc2 := cell_of_row W42 W29.heap.size 2 _ _ _ HZ5.out
            have rc3 := cell_of_row W42 W29.heap.size 3 _ _ _ HZ5.out
            have rc4 := cell_of_row W42 W29.heap.size 4 _ _ _ HZ5.out
            have rc5 := cell_of_row W42 W29.heap.size 5 _ _ _ HZ5.out
            have rc6 := cell_of_row W42 W29.heap.size 6 _ _ _ HZ5.out
            have rc7 := cell_of_row W42 W29.heap.size 7 _ _ _ HZ5.out
            have rc8 := cell_of_row W42 W29.heap.size 8 _ _ _ HZ5.out
            have rc9 := cell_of_row W42 W29.heap.size 9 _ _ _ HZ5.out
            have rc10 := cell_of_row W42 W29.heap.size 10 _ _ _ HZ5.out
            simp at rc0 rc1 rc2 rc3 rc4 rc5 rc6 rc7 rc8 rc9 rc10
            refine wpAnyH_ready (rs := [7]) (by kernel_rfl) (by simp) ?_
            refine AllReadyH.cons (o := ?_) ?_ (fun K' hK => ?_) AllReadyH.nil
            rotate_left 1
            · (simp only [List.getElem?_toArray, List.getElem?_cons_zero, List.getElem?_cons_succ]; rfl)
            · obtain ⟨e1, e2⟩ := st_fill W42 W29.heap.size zs (.slice l1 zs.out.length l4) (.slice l2 zs.inn.length l5) (.slice l3 zs.back.length l6) HZ5.out
              have HD5 := hide e1
              replace HBc := hide (HBc.out.trans (e2.below (B := w17.heap.size) (fun k e => by have e3 : k = W29.heap.size := e; omega) HBc.out.size))
              replace HK := hide (Own3.past HK.out e2 HZ5.out)
              replace HL := hide (Own3.past HL.out e2 HZ5.out)
              replace HD4 := hide (StAt.turned1 HD4.out e2 (by omega))
              clear HZ5 e1 e2
              go_simp
              clear rf0 rf1 rf2 rf3 rf4 rf5 rf6 rf7 rf8 rf9 rf10 rc0 rc1 rc2 rc3 rc4 rc5 rc6 rc7 rc8 rc9 rc10
              generalize ((((((((((W42.setCell ⟨W29.heap.size, 0, none⟩ (.bool zs.rd)).setCell ⟨W29.heap.size, 1, none⟩ (.bool zs.wt)).setCell ⟨W29.heap.size, 2, none⟩ (.int .i64 zs.mode)).setCell ⟨W29.heap.size, 3, none⟩ (.int .i64 zs.size)).setCell ⟨W29.heap.size, 4, none⟩ (.slice l1 zs.out.length l4)).setCell ⟨W29.heap.size, 5, none⟩ (.slice l2 zs.inn.length l5)).setCell ⟨W29.heap.size, 6, none⟩ (.slice l3 zs.back.length l6)).setCell ⟨W29.heap.size, 7, none⟩ (.int .i64 zs.dir)).setCell ⟨W29.heap.size, 8, none⟩ (.bool zs.fin)).setCell ⟨W29.heap.size, 9, none⟩ (.bool zs.bad)).setCell ⟨W29.heap.size, 10, none⟩ (.bool zs.closed) = W43 at *
              refine hK.out _ _ (⟨HYs.out.below HBc.out, HZs.out.below HBc.out⟩) (fun hHeld2 => ?_)
              clear hK K' hHeld
              have hHeld := hHeld2
              clear hHeld2
              try simp only [Act.put, List.setIfInBounds_toArray, List.set_cons_zero, List.set_cons_succ]
              refine wpAnyH_done (by kernel_rfl) ?_ _
              refine NoPanic.normal ?_
              clear hHeld
              go_wp2
              go_meet
              exact ⟨_, _, _, _, _, _, _, _, _, _, _, _, _, _, rfl, rfl, HD4, HD5, HK, HL, HBc, by omega, by omega⟩
  rotate_left 1
  · (simp only [List.getElem?_toArray, List.getElem?_cons_zero, List.getElem?_cons_succ]; rfl)
  · go_simp
    have hA := recv_below W0 (Obj.cells #[.bool false, .bool false, .int .i64 0, .int .i64 0, .slice none 0 0, .slice none 0 0, .slice none 0 0, .int .i64 0, .bool false, .bool false, .bool false] 58)
    have HZ5 := hide (heap_alloc_new W0 (Obj.cells #[.bool false, .bool false, .int .i64 0, .int .i64 0, .slice none 0 0, .slice none 0 0, .slice none 0 0, .int .i64 0, .bool false, .bool false, .bool false] 58))
    have hg5 : w17.heap.size ≤ W0.heap.size := HBc.out.size
    replace HBc := hide (HBc.out.trans (hA.mono HBc.out.size))
    clear hA
    generalize W0.alloc (Obj.cells #[.bool false, .bool false, .int .i64 0, .int .i64 0, .slice none 0 0, .slice none 0 0, .slice none 0 0, .int .i64 0, .bool false, .bool false, .bool false] 58) = W44 at *
    refine hK.out _ _ (⟨HYs.out.below HBc.out, HZs.out.below HBc.out⟩) (fun hHeld2 => ?_)
    clear hK K' hHeld
    have hHeld := hHeld2
    clear hHeld2
    try simp only [Act.put, List.setIfInBounds_toArray, List.set_cons_zero, List.set_cons_succ]
    refine wpAnyH_ready (rs := [1, 4]) (by kernel_rfl) (by simp) ?_
    refine AllReadyH.cons (o := ?_) ?_ (fun K' hK => ?_) (AllReadyH.cons (o := ?_) ?_ (fun K' hK => ?_) AllReadyH.nil)
    rotate_left 1
    · (simp only [List.getElem?_toArray, List.getElem?_cons_zero, List.getElem?_cons_succ]; rfl)
    · go_simp
      go_at_call 21
      refine (given_any y _ _ _ _ _ (HYl.out.below HBc.out) HLy.out.1 HLy.out.2.1 HLy.out.2.2).mono ?_
      rintro _ W45 ⟨o1, i1, b1, rfl, y1, y2, y3, hB, hAp⟩
      obtain ⟨k1, k4, rfl⟩ := owns_slice y1
      obtain ⟨k2, k5, rfl⟩ := owns_slice y2
      obtain ⟨k3, k6, rfl⟩ := owns_slice y3
      have HK : Hid (Own3 w17.heap.size W45 y (.slice k1 y.out.length k4) (.slice k2 y.inn.length k5) (.slice k3 y.back.length k6)) := hide (Own3.mono ⟨y1, y2, y3, hAp⟩ HBc.out.size)
      replace HBc := hide (HBc.out.trans (hB.mono HBc.out.size))
      replace HZ5 : Hid (W45.heap[W0.heap.size]? = some (Obj.cells #[.bool false, .bool false, .int .i64 0, .int .i64 0, .slice none 0 0, .slice none 0 0, .slice none 0 0, .int .i64 0, .bool false, .bool false, .bool false] 58)) := hide ((hB.block _ (Array.getElem?_eq_some_iff.1 HZ5.out).1).trans HZ5.out)
      clear hB y1 y2 y3 hAp
      refine hK.out _ _ (⟨HYs.out.below HBc.out, HZs.out.below HBc.out⟩) (fun hHeld2 => ?_)
      clear hK K' hHeld
      have hHeld := hHeld2
      clear hHeld2
      try simp only [Act.put, List.setIfInBounds_toArray, List.set_cons_zero, List.set_cons_succ]
      refine wpAnyH_ready (rs := [3, 4]) (by kernel_rfl) (by simp) ?_
      refine AllReadyH.cons (o := ?_) ?_ (fun K' hK => ?_) (AllReadyH.cons (o := ?_) ?_ (fun K' hK => ?_) AllReadyH.nil)
      rotate_left 1
      · (simp only [List.getElem?_toArray, List.getElem?_cons_zero, List.getElem?_cons_succ]; rfl)
      · go_simp
        go_at_call 21
        refine (given_any zs _ _ _ _ _ (HZl.out.below HBc.out) HLz.out.1 HLz.out.2.1 HLz.out.2.2).mono ?_
        rintro _ W46 ⟨o1, i1, b1, rfl, y1, y2, y3, hB, hAp⟩
        obtain ⟨l1, l4, rfl⟩ := owns_slice y1
        obtain ⟨l2, l5, rfl⟩ := owns_slice y2
        obtain ⟨l3, l6, rfl⟩ := owns_slice y3
        have HL : Hid (Own3 w17.heap.size W46 zs (.slice l1 zs.out.length l4) (.slice l2 zs.inn.length l5) (.slice l3 zs.back.length l6)) := hide (Own3.mono ⟨y1, y2, y3, hAp⟩ HBc.out.size)
        replace HBc := hide (HBc.out.trans (hB.mono HBc.out.size))
        replace HK := hide (HK.out.below hB)
        replace HZ5 : Hid (W46.heap[W0.heap.size]? = some (Obj.cells #[.bool false, .bool false, .int .i64 0, .int .i64 0, .slice none 0 0, .slice none 0 0, .slice none 0 0, .int .i64 0, .bool false, .bool false, .bool false] 58)) := hide ((hB.block _ (Array.getElem?_eq_some_iff.1 HZ5.out).1).trans HZ5.out)
        clear hB y1 y2 y3 hAp
        refine hK.out _ _ (⟨HYs.out.below HBc.out, HZs.out.below HBc.out⟩) (fun hHeld2 => ?_)
        clear hK K' hHeld
        have hHeld := hHeld2
        clear hHeld2
        try simp only [Act.put, List.setIfInBounds_toArray, List.set_cons_zero, List.set_cons_succ]
        refine wpAnyH_ready (rs := [4]) (by kernel_rfl) (by simp) ?_
        refine AllReadyH.cons (o := ?_) ?_ (fun K' hK => ?_) AllReadyH.nil
        rotate_left 1
        · (simp only [List.getElem?_toArray, List.getElem?_cons_zero, List.getElem?_cons_succ]; rfl)
        · go_simp
          have hA := recv_below W46 (Obj.cells #[.bool false, .bool false, .int .i64 0, .int .i64 0, .slice none 0 0, .slice none 0 0, .slice none 0 0, .int .i64 0, .bool false, .bool false, .bool false] 58)
          have HZ4 := hide (heap_alloc_new W46 (Obj.cells #[.bool false, .bool false, .int .i64 0, .int .i64 0, .slice none 0 0, .slice none 0 0, .slice none 0 0, .int .i64 0, .bool false, .bool false, .bool false] 58))
          have hg4 : w17.heap.size ≤ W46.heap.size := HBc.out.size
          have hne : W0.heap.size < W46.heap.size := (Array.getElem?_eq_some_iff.1 HZ5.out).1
          replace HBc := hide (HBc.out.trans (hA.mono HBc.out.size))
          replace HK := hide (HK.out.below hA)
          replace HL := hide (HL.out.below hA)
          replace HZ5 : Hid ((W46.alloc (Obj.cells #[.bool false, .bool false, .int .i64 0, .int .i64 0, .slice none 0 0, .slice none 0 0, .slice none 0 0, .int .i64 0, .bool false, .bool false, .bool false] 58)).heap[W0.heap.size]? = some (Obj.cells #[.bool false, .bool false, .int .i64 0, .int .i64 0, .slice none 0 0, .slice none 0 0, .slice none 0 0, .int .i64 0, .bool false, .bool false, .bool false] 58)) := hide ((hA.block _ (Array.getElem?_eq_some_iff.1 HZ5.out).1).trans HZ5.out)
          clear hA
          generalize W46.alloc (Obj.cells #[.bool false, .bool false, .int .i64 0, .int .i64 0, .slice none 0 0, .slice none 0 0, .slice none 0 0, .int .i64 0, .bool false, .bool false, .bool false] 58) = W47 at *
          refine hK.out _ _ (⟨HYs.out.below HBc.out, HZs.out.below HBc.out⟩) (fun hHeld2 => ?_)
          clear hK K' hHeld
          have hHeld := hHeld2
          clear hHeld2
          try simp only [Act.put, List.setIfInBounds_toArray, List.set_cons_zero, List.set_cons_succ]
          have pf0 := frozen_of_row W47 W46.heap.size 0 _ _ HZ4.out
          have pf1 := frozen_of_row W47 W46.heap.size 1 _ _ HZ4.out
          have pf2 := frozen_of_row W47 W46.heap.size 2 _ _ HZ4.out
          have pf3 := frozen_of_row W47 W46.heap.size 3 _ _ HZ4.out
          have pf4 := frozen_of_row W47 W46.heap.size 4 _ _ HZ4.out
          have pf5 := frozen_of_row W47 W46.heap.size 5 _ _ HZ4.out
          have pf6 := frozen_of_row W47 W46.heap.size 6 _ _ HZ4.out
          have pf7 := frozen_of_row W47 W46.heap.size 7 _ _ HZ4.out
          have pf8 := frozen_of_row W47 W46.heap.size 8 _ _ HZ4.out
          have pf9 := frozen_of_row W47 W46.heap.size 9 _ _ HZ4.out
          have pf10 := frozen_of_row W47 W46.heap.size 10 _ _ HZ4.out
          have pc0 := cell_of_row W47 W46.heap.size 0 _ _ _ HZ4.out
          have pc1 := cell_of_row W47 W46.heap.size 1 _ _ _ HZ4.out
          have pc2 := cell_of_row W47 W46.heap.size 2 _ _ _ HZ4.out
          have pc3 := cell_of_row W47 W46.heap.size 3 _ _ _ HZ4.out
          have pc4 := cell_of_row W47 W46.heap.size 4 _ _ _ HZ4.out
          have pc5 := cell_of_row W47 W46.heap.size 5 _ _ _ HZ4.out
          have pc6 := cell_of_row W47 W46.heap.size 6 _ _ _ HZ4.out
          have pc7 := cell_of_row W47 W46.heap.size 7 _ _ _ HZ4.out
          have pc8 := cell_of_row W47 W46.heap.size 8 _ _ _ HZ4.out
          have pc9 := cell_of_row W47 W46.heap.size 9 _ _ _ HZ4.out
          have pc10 := cell_of_row W47 W46.heap.size 10 _ _ _ HZ4.out
          simp at pc0 pc1 pc2 pc3 pc4 pc5 pc6 pc7 pc8 pc9 pc10
          refine wpAnyH_ready (rs := [6]) (by kernel_rfl) (by simp) ?_
          refine AllReadyH.cons (o := ?_) ?_ (fun K' hK => ?_) AllReadyH.nil
          rotate_left 1
          · (simp only [List.getElem?_toArray, List.getElem?_cons_zero, List.getElem?_cons_succ]; rfl)
          · obtain ⟨e1, e2⟩ := st_fill W47 W46.heap.size y (.slice k1 y.out.length k4) (.slice k2 y.inn.length k5) (.slice k3 y.back.length k6) HZ4.out
            have HD4 := hide e1
            replace HBc := hide (HBc.out.trans (e2.below (B := w17.heap.size) (fun k e => by have e3 : k = W46.heap.size := e; omega) HBc.out.size))
            replace HK := hide (Own3.past HK.out e2 HZ4.out)
            replace HL := hide (Own3.past HL.out e2 HZ4.out)
            replace HZ5 := hide ((e2.block _ (Array.getElem?_eq_some_iff.1 HZ5.out).1 (by show ¬ _ = W46.heap.size; omega)).trans HZ5.out)
            clear HZ4 e1 e2
            go_simp
            clear pf0 pf1 pf2 pf3 pf4 pf5 pf6 pf7 pf8 pf9 pf10 pc0 pc1 pc2 pc3 pc4 pc5 pc6 pc7 pc8 pc9 pc10
            generalize ((((((((((W47.setCell ⟨W46.heap.size, 0, none⟩ (.bool y.rd)).setCell ⟨W46.heap.size, 1, none⟩ (.bool y.wt)).setCell ⟨W46.heap.size, 2, none⟩ (.int .i64 y.mode)).setCell ⟨W46.heap.size, 3, none⟩ (.int .i64 y.size)).setCell ⟨W46.heap.size, 4, none⟩ (.slice k1 y.out.length k4)).setCell ⟨W46.heap.size, 5, none⟩ (.slice k2 y.inn.length k5)).setCell ⟨W46.heap.size, 6, none⟩ (.slice k3 y.back.length k6)).setCell ⟨W46.heap.size, 7, none⟩ (.int .i64 y.dir)).setCell ⟨W46.heap.size, 8, none⟩ (.bool y.fin)).setCell ⟨W46.heap.size, 9, none⟩ (.bool y.bad)).setCell ⟨W46.heap.size, 10, none⟩ (.bool y.closed) = W48 at *
            refine hK.out _ _ (⟨HYs.out.below HBc.out, HZs.out.below HBc.out⟩) (fun hHeld2 => ?_)
            clear hK K' hHeld
            have hHeld := hHeld2
            clear hHeld2
            try simp only [Act.put, List.setIfInBounds_toArray, List.set_cons_zero, List.set_cons_succ]
            have rf0 := frozen_of_row W48 W0.heap.size 0 _ _ HZ5.out
            have rf1 := frozen_of_row W48 W0.heap.size 1 _ _ HZ5.out
            have rf2 := frozen_of_row W48 W0.heap.size 2 _ _ HZ5.out
            have rf3 := frozen_of_row W48 W0.heap.size 3 _ _ HZ5.out
            have rf4 := frozen_of_row W48 W0.heap.size 4 _ _ HZ5.out
            have rf5 := frozen_of_row W48 W0.heap.size 5 _ _ HZ5.out
            have rf6 := frozen_of_row W48 W0.heap.size 6 _ _ HZ5.out
            have rf7 := frozen_of_row W48 W0.heap.size 7 _ _ HZ5.out
            have rf8 := frozen_of_row W48 W0.heap.size 8 _ _ HZ5.out
            have rf9 := frozen_of_row W48 W0.heap.size 9 _ _ HZ5.out
            have rf10 := frozen_of_row W48 W0.heap.size 10 _ _ HZ5.out
            have rc0 := cell_of_row W48 W0.heap.size 0 _ _ _ HZ5.out
            have rc1 := cell_of_row W48 W0.heap.size 1 _ _ _ HZ5.out
            have rc2 := cell_of_row W48 W0.heap.size 2 _ _ _ HZ5.out
            have rc3 := cell_of_row W48 W0.heap.size 3 _ _ _ HZ5.out
            have rc4 := cell_of_row W48 W0.heap.size 4 _ _ _ HZ5.out
            have rc5 := cell_of_row W48 W0.heap.size 5 _ _ _ HZ5.out
            have rc6 := cell_of_row W48 W0.heap.size 6 _ _ _ HZ5.out
            have rc7 := cell_of_row W48 W0.heap.size 7 _ _ _ HZ5.out
            have rc8 := cell_of_row W48 W0.heap.size 8 _ _ _ HZ5.out
            have rc9 := cell_of_row W48 W0.heap.size 9 _ _ _ HZ5.out
            have rc10 := cell_of_row W48 W0.heap.size 10 _ _ _ HZ5.out
            simp at rc0 rc1 rc2 rc3 rc4 rc5 rc6 rc7 rc8 rc9 rc10
            refine wpAnyH_ready (rs := [7]) (by kernel_rfl) (by simp) ?_
            refine AllReadyH.cons (o := ?_) ?_ (fun K' hK => ?_) AllReadyH.nil
            rotate_left 1
            · (simp only [List.getElem?_toArray, List.getElem?_cons_zero, List.getElem?_cons_succ]; rfl)
            · obtain ⟨e1, e2⟩ := st_fill W48 W0.heap.size zs (.slice l1 zs.out.length l4) (.slice l2 zs.inn.length l5) (.slice l3 zs.back.length l6) HZ5.out
              have HD5 := hide e1
              replace HBc := hide (HBc.out.trans (e2.below (B := w17.heap.size) (fun k e => by have e3 : k = W0.heap.size := e; omega) HBc.out.size))
              replace HK := hide (Own3.past HK.out e2 HZ5.out)
              replace HL := hide (Own3.past HL.out e2 HZ5.out)
              replace HD4 := hide (StAt.turned1 HD4.out e2 (by omega))
              clear HZ5 e1 e2
              go_simp
              clear rf0 rf1 rf2 rf3 rf4 rf5 rf6 rf7 rf8 rf9 rf10 rc0 rc1 rc2 rc3 rc4 rc5 rc6 rc7 rc8 rc9 rc10
              generalize ((((((((((W48.setCell ⟨W0.heap.size, 0, none⟩ (.bool zs.rd)).setCell ⟨W0.heap.size, 1, none⟩ (.bool zs.wt)).setCell ⟨W0.heap.size, 2, none⟩ (.int .i64 zs.mode)).setCell ⟨W0.heap.size, 3, none⟩ (.int .i64 zs.size)).setCell ⟨W0.heap.size, 4, none⟩ (.slice l1 zs.out.length l4)).setCell ⟨W0.heap.size, 5, none⟩ (.slice l2 zs.inn.length l5)).setCell ⟨W0.heap.size, 6, none⟩ (.slice l3 zs.back.length l6)).setCell ⟨W0.heap.size, 7, none⟩ (.int .i64 zs.dir)).setCell ⟨W0.heap.size, 8, none⟩ (.bool zs.fin)).setCell ⟨W0.heap.size, 9, none⟩ (.bool zs.bad)).setCell ⟨W0.heap.size, 10, none⟩ (.bool zs.closed) = W49 at *
              refine hK.out _ _ (⟨HYs.out.below HBc.out, HZs.out.below HBc.out⟩) (fun hHeld2 => ?_)
              clear hK K' hHeld
              have hHeld := hHeld2
              clear hHeld2
              try simp only [Act.put, List.setIfInBounds_toArray, List.set_cons_zero, List.set_cons_succ]
              refine wpAnyH_done (by kernel_rfl) ?_ _
              refine NoPanic.normal ?_
              clear hHeld
              go_wp2
              go_meet
              exact ⟨_, _, _, _, _, _, _, _, _, _, _, _, _, _, rfl, rfl, HD4, HD5, HK, HL, HBc, by omega, by omega⟩
      rotate_left 1
      · (simp only [List.getElem?_toArray, List.getElem?_cons_zero, List.getElem?_cons_succ]; rfl)
      · go_simp
        have hA := recv_below W45 (Obj.cells #[.bool false, .bool false, .int .i64 0, .int .i64 0, .slice none 0 0, .slice none 0 0, .slice none 0 0, .int .i64 0, .bool false, .bool false, .bool false] 58)
        have HZ4 := hide (heap_alloc_new W45 (Obj.cells #[.bool false, .bool false, .int .i64 0, .int .i64 0, .slice none 0 0, .slice none 0 0, .slice none 0 0, .int .i64 0, .bool false, .bool false, .bool false] 58))
        have hg4 : w17.heap.size ≤ W45.heap.size := HBc.out.size
        have hne : W0.heap.size < W45.heap.size := (Array.getElem?_eq_some_iff.1 HZ5.out).1
        replace HBc := hide (HBc.out.trans (hA.mono HBc.out.size))
        replace HK := hide (HK.out.below hA)
        replace HZ5 : Hid ((W45.alloc (Obj.cells #[.bool false, .bool false, .int .i64 0, .int .i64 0, .slice none 0 0, .slice none 0 0, .slice none 0 0, .int .i64 0, .bool false, .bool false, .bool false] 58)).heap[W0.heap.size]? = some (Obj.cells #[.bool false, .bool false, .int .i64 0, .int .i64 0, .slice none 0 0, .slice none 0 0, .slice none 0 0, .int .i64 0, .bool false, .bool false, .bool false] 58)) := hide ((hA.block _ (Array.getElem?_eq_some_iff.1 HZ5.out).1).trans HZ5.out)
        clear hA
        generalize W45.alloc (Obj.cells #[.bool false, .bool false, .int .i64 0, .int .i64 0, .slice none 0 0, .slice none 0 0, .slice none 0 0, .int .i64 0, .bool false, .bool false, .bool false] 58) = W50 at *
        refine hK.out _ _ (⟨HYs.out.below HBc.out, HZs.out.below HBc.out⟩) (fun hHeld2 => ?_)
        clear hK K' hHeld
        have hHeld := hHeld2
        clear hHeld2
        try simp only [Act.put, List.setIfInBounds_toArray, List.set_cons_zero, List.set_cons_succ]
        refine wpAnyH_ready (rs := [3]) (by kernel_rfl) (by simp) ?_
        refine AllReadyH.cons (o := ?_) ?_ (fun K' hK => ?_) AllReadyH.nil
        rotate_left 1
        · (simp only [List.getElem?_toArray, List.getElem?_cons_zero, List.getElem?_cons_succ]; rfl)
        · go_simp
          go_at_call 21
          refine (given_any zs _ _ _ _ _ (HZl.out.below HBc.out) HLz.out.1 HLz.out.2.1 HLz.out.2.2).mono ?_
          rintro _ W51 ⟨o1, i1, b1, rfl, y1, y2, y3, hB, hAp⟩
          obtain ⟨l1, l4, rfl⟩ := owns_slice y1
          obtain ⟨l2, l5, rfl⟩ := owns_slice y2
          obtain ⟨l3, l6, rfl⟩ := owns_slice y3
          have HL : Hid (Own3 w17.heap.size W51 zs (.slice l1 zs.out.length l4) (.slice l2 zs.inn.length l5) (.slice l3 zs.back.length l6)) := hide (Own3.mono ⟨y1, y2, y3, hAp⟩ HBc.out.size)
          replace HBc := hide (HBc.out.trans (hB.mono HBc.out.size))
          replace HK := hide (HK.out.below hB)
          replace HZ4 : Hid (W51.heap[W45.heap.size]? = some (Obj.cells #[.bool false, .bool false, .int .i64 0, .int .i64 0, .slice none 0 0, .slice none 0 0, .slice none 0 0, .int .i64 0, .bool false, .bool false, .bool false] 58)) := hide ((hB.block _ (Array.getElem?_eq_some_iff.1 HZ4.out).1).trans HZ4.out)
          replace HZ5 : Hid (W51.heap[W0.heap.size]? = some (Obj.cells #[.bool false, .bool false, .int .i64 0, .int .i64 0, .slice none 0 0, .slice none 0 0, .slice none 0 0, .int .i64 0, .bool false, .bool false, .bool false] 58)) := hide ((hB.block _ (Array.getElem?_eq_some_iff.1 HZ5.out).1).trans HZ5.out)
          clear hB y1 y2 y3 hAp
          refine hK.out _ _ (⟨HYs.out.below HBc.out, HZs.out.below HBc.out⟩) (fun hHeld2 => ?_)
          clear hK K' hHeld
          have hHeld := hHeld2
          clear hHeld2
          try simp only [Act.put, List.setIfInBounds_toArray, List.set_cons_zero, List.set_cons_succ]
          have pf0 := frozen_of_row W51 W45.heap.size 0 _ _ HZ4.out
          have pf1 := frozen_of_row W51 W45.heap.size 1 _ _ HZ4.out
          have pf2 := frozen_of_row W51 W45.heap.size 2 _ _ HZ4.out
          have pf3 := frozen_of_row W51 W45.heap.size 3 _ _ HZ4.out
          have pf4 := frozen_of_row W51 W45.heap.size 4 _ _ HZ4.out
          have pf5 := frozen_of_row W51 W45.heap.size 5 _ _ HZ4.out
          have pf6 := frozen_of_row W51 W45.heap.size 6 _ _ HZ4.out
          have pf7 := frozen_of_row W51 W45.heap.size 7 _ _ HZ4.out
          have pf8 := frozen_of_row W51 W45.heap.size 8 _ _ HZ4.out
          have pf9 := frozen_of_row W51 W45.heap.size 9 _ _ HZ4.out
          have pf10 := frozen_of_row W51 W45.heap.size 10 _ _ HZ4.out
          have pc0 := cell_of_row W51 W45.heap.size 0 _ _ _ HZ4.out
          have pc1 := cell_of_row W51 W45.heap.size 1 _ _ _ HZ4.out
          have pc2 := cell_of_row W51 W45.heap.size 2 _ _ _ HZ4.out
          have pc3 := cell_of_row W51 W45.heap.size 3 _ _ _ HZ4.out
          have pc4 := cell_of_row W51 W45.heap.size 4 _ _ _ HZ4.out
          have pc5 := cell_of_row W51 W45.heap.size 5 _ _ _ HZ4.out
          have pc6 := cell_of_row W51 W45.heap.size 6 _ _ _ HZ4.out
          have pc7 := cell_of_row W51 W45.heap.size 7 _ _ _ HZ4.out
          have pc8 := cell_of_row W51 W45.heap.size 8 _ _ _ HZ4.out
          have pc9 := cell_of_row W51 W45.heap.size 9 _ _ _ HZ4.out
          have pc10 := cell_of_row W51 W45.heap.size 10 _ _ _ HZ4.out
          simp at pc0 pc1 pc2 pc3 pc4 pc5 pc6 pc7 pc8 pc9 pc10
          refine wpAnyH_ready (rs := [6]) (by kernel_rfl) (by simp) ?_
          refine AllReadyH.cons (o := ?_) ?_ (fun K' hK => ?_) AllReadyH.nil
          rotate_left 1
          · (simp only [List.getElem?_toArray, List.getElem?_cons_zero, List.getElem?_cons_succ]; rfl)
          · obtain ⟨e1, e2⟩ := st_fill W51 W45.heap.size y (.slice k1 y.out.length k4) (.slice k2 y.inn.length k5) (.slice k3 y.back.length k6) HZ4.out
            have HD4 := hide e1
            replace HBc := hide (HBc.out.trans (e2.below (B := w17.heap.size) (fun k e => by have e3 : k = W45.heap.size := e; omega) HBc.out.size))
            replace HK := hide (Own3.past HK.out e2 HZ4.out)
            replace HL := hide (Own3.past HL.out e2 HZ4.out)
            replace HZ5 := hide ((e2.block _ (Array.getElem?_eq_some_iff.1 HZ5.out).1 (by show ¬ _ = W45.heap.size; omega)).trans HZ5.out)
            clear HZ4 e1 e2
            go_simp
            clear pf0 pf1 pf2 pf3 pf4 pf5 pf6 pf7 pf8 pf9 pf10 pc0 pc1 pc2 pc3 pc4 pc5 pc6 pc7 pc8 pc9 pc10
            generalize ((((((((((W51.setCell ⟨W45.heap.size, 0, none⟩ (.bool y.rd)).setCell ⟨W45.heap.size, 1, none⟩ (.bool y.wt)).setCell ⟨W45.heap.size, 2, none⟩ (.int .i64 y.mode)).setCell ⟨W45.heap.size, 3, none⟩ (.int .i64 y.size)).setCell ⟨W45.heap.size, 4, none⟩ (.slice k1 y.out.length k4)).setCell ⟨W45.heap.size, 5, none⟩ (.slice k2 y.inn.length k5)).setCell ⟨W45.heap.size, 6, none⟩ (.slice k3 y.back.length k6)).setCell ⟨W45.heap.size, 7, none⟩ (.int .i64 y.dir)).setCell ⟨W45.heap.size, 8, none⟩ (.bool y.fin)).setCell ⟨W45.heap.size, 9, none⟩ (.bool y.bad)).setCell ⟨W45.heap.size, 10, none⟩ (.bool y.closed) = W52 at *
            refine hK.out _ _ (⟨HYs.out.below HBc.out, HZs.out.below HBc.out⟩) (fun hHeld2 => ?_)
            clear hK K' hHeld
            have hHeld := hHeld2
            clear hHeld2
            try simp only [Act.put, List.setIfInBounds_toArray, List.set_cons_zero, List.set_cons_succ]
            have rf0 := frozen_of_row W52 W0.heap.size 0 _ _ HZ5.out
            have rf1 := frozen_of_row W52 W0.heap.size 1 _ _ HZ5.out
            have rf2 := frozen_of_row W52 W0.heap.size 2 _ _ HZ5.out
            have rf3 := frozen_of_row W52 W0.heap.size 3 _ _ HZ5.out
            have rf4 := frozen_of_row W52 W0.heap.size 4 _ _ HZ5.out
            have rf5 := frozen_of_row W52 W0.heap.size 5 _ _ HZ5.out
            have rf6 := frozen_of_row W52 W0.heap.size 6 _ _ HZ5.out
            have rf7 := frozen_of_row W52 W0.heap.size 7 _ _ HZ5.out
            have rf8 := frozen_of_row W52 W0.heap.size 8 _ _ HZ5.out
            have rf9 := frozen_of_row W52 W0.heap.size 9 _ _ HZ5.out
            have rf10 := frozen_of_row W52 W0.heap.size 10 _ _ HZ5.out
            have rc0 := cell_of_row W52 W0.heap.size 0 _ _ _ HZ5.out
            have rc1 := cell_of_row W52 W0.heap.size 1 _ _ _ HZ5.out
            have rc2 := cell_of_row W52 W0.heap.size 2 _ _ _ HZ5.out
            have rc3 := cell_of_row W52 W0.heap.size 3 _ _ _ HZ5.out
            have rc4 := cell_of_row W52 W0.heap.size 4 _ _ _ HZ5.out
            have rc5 := cell_of_row W52 W0.heap.size 5 _ _ _ HZ5.out
            have rc6 := cell_of_row W52 W0.heap.size 6 _ _ _ HZ5.out
            have rc7 := cell_of_row W52 W0.heap.size 7 _ _ _ HZ5.out
            have rc8 := cell_of_row W52 W0.heap.size 8 _ _ _ HZ5.out
            have rc9 := cell_of_row W52 W0.heap.size 9 _ _ _ HZ5.out
            have rc10 := cell_of_row W52 W0.heap.size 10 _ _ _ HZ5.out
            simp at rc0 rc1 rc2 rc3 rc4 rc5 rc6 rc7 rc8 rc9 rc10
            refine wpAnyH_ready (rs := [7]) (by kernel_rfl) (by simp) ?_
            refine AllReadyH.cons (o := ?_) ?_ (fun K' hK => ?_) AllReadyH.nil
            rotate_left 1
            · (simp only [List.getElem?_toArray, List.getElem?_cons_zero, List.getElem?_cons_succ]; rfl)
            · obtain ⟨e1, e2⟩ := st_fill W52 W0.heap.size zs (.slice l1 zs.out.length l4) (.slice l2 zs.inn.length l5) (.slice l3 zs.back.length l6) HZ5.out
              have HD5 := hide e1
              replace HBc := hide (HBc.out.trans (e2.below (B := w17.heap.size) (fun k e => by have e3 : k = W0.heap.size := e; omega) HBc.out.size))
              replace HK := hide (Own3.past HK.out e2 HZ5.out)
              replace HL := hide (Own3.past HL.out e2 HZ5.out)
              replace HD4 := hide (StAt.turned1 HD4.out e2 (by omega))
              clear HZ5 e1 e2
              go_simp
              clear rf0 rf1 rf2 rf3 rf4 rf5 rf6 rf7 rf8 rf9 rf10 rc0 rc1 rc2 rc3 rc4 rc5 rc6 rc7 rc8 rc9 rc10
              generalize ((((((((((W52.setCell ⟨W0.heap.size, 0, none⟩ (.bool zs.rd)).setCell ⟨W0.heap.size, 1, none⟩ (.bool zs.wt)).setCell ⟨W0.heap.size, 2, none⟩ (.int .i64 zs.mode)).setCell ⟨W0.heap.size, 3, none⟩ (.int .i64 zs.size)).setCell ⟨W0.heap.size, 4, none⟩ (.slice l1 zs.out.length l4)).setCell ⟨W0.heap.size, 5, none⟩ (.slice l2 zs.inn.length l5)).setCell ⟨W0.heap.size, 6, none⟩ (.slice l3 zs.back.length l6)).setCell ⟨W0.heap.size, 7, none⟩ (.int .i64 zs.dir)).setCell ⟨W0.heap.size, 8, none⟩ (.bool zs.fin)).setCell ⟨W0.heap.size, 9, none⟩ (.bool zs.bad)).setCell ⟨W0.heap.size, 10, none⟩ (.bool zs.closed) = W53 at *
              refine hK.out _ _ (⟨HYs.out.below HBc.out, HZs.out.below HBc.out⟩) (fun hHeld2 => ?_)
              clear hK K' hHeld
              have hHeld := hHeld2
              clear hHeld2
              try simp only [Act.put, List.setIfInBounds_toArray, List.set_cons_zero, List.set_cons_succ]
              refine wpAnyH_done (by kernel_rfl) ?_ _
              refine NoPanic.normal ?_
              clear hHeld
              go_wp2
              go_meet
              exact ⟨_, _, _, _, _, _, _, _, _, _, _, _, _, _, rfl, rfl, HD4, HD5, HK, HL, HBc, by omega, by omega⟩
    rotate_left 1
    · (simp only [List.getElem?_toArray, List.getElem?_cons_zero, List.getElem?_cons_succ]; rfl)
    · go_simp
      have hA := recv_below W44 (Obj.cells #[.bool false, .bool false, .int .i64 0, .int .i64 0, .slice none 0 0, .slice none 0 0, .slice none 0 0, .int .i64 0, .bool false, .bool false, .bool false] 58)
      have HZ4 := hide (heap_alloc_new W44 (Obj.cells #[.bool false, .bool false, .int .i64 0, .int .i64 0, .slice none 0 0, .slice none 0 0, .slice none 0 0, .int .i64 0, .bool false, .bool false, .bool false] 58))
      have hg4 : w17.heap.size ≤ W44.heap.size := HBc.out.size
      have hne : W0.heap.size < W44.heap.size := (Array.getElem?_eq_some_iff.1 HZ5.out).1
      replace HBc := hide (HBc.out.trans (hA.mono HBc.out.size))
      replace HZ5 : Hid ((W44.alloc (Obj.cells #[.bool false, .bool false, .int .i64 0, .int .i64 0, .slice none 0 0, .slice none 0 0, .slice none 0 0, .int .i64 0, .bool false, .bool false, .bool false] 58)).heap[W0.heap.size]? = some (Obj.cells #[.bool false, .bool false, .int .i64 0, .int .i64 0, .slice none 0 0, .slice none 0 0, .slice none 0 0, .int .i64 0, .bool false, .bool false, .bool false] 58)) := hide ((hA.block _ (Array.getElem?_eq_some_iff.1 HZ5.out).1).trans HZ5.out)
      clear hA
      generalize W44.alloc (Obj.cells #[.bool false, .bool false, .int .i64 0, .int .i64 0, .slice none 0 0, .slice none 0 0, .slice none 0 0, .int .i64 0, .bool false, .bool false, .bool false] 58) = W54 at *
      refine hK.out _ _ (⟨HYs.out.below HBc.out, HZs.out.below HBc.out⟩) (fun hHeld2 => ?_)
      clear hK K' hHeld
      have hHeld := hHeld2
      clear hHeld2
      try simp only [Act.put, List.setIfInBounds_toArray, List.set_cons_zero, List.set_cons_succ]
      refine wpAnyH_ready (rs := [1]) (by kernel_rfl) (by simp) ?_
      refine AllReadyH.cons (o := ?_) ?_ (fun K' hK => ?_) AllReadyH.nil
      rotate_left 1
      · (simp only [List.getElem?_toArray, List.getElem?_cons_zero, List.getElem?_cons_succ]; rfl)
      · go_simp
        go_at_call 21
        refine (given_any y _ _ _ _ _ (HYl.out.below HBc.out) HLy.out.1 HLy.out.2.1 HLy.out.2.2).mono ?_
        rintro _ W55 ⟨o1, i1, b1, rfl, y1, y2, y3, hB, hAp⟩
        obtain ⟨k1, k4, rfl⟩ := owns_slice y1
        obtain ⟨k2, k5, rfl⟩ := owns_slice y2
        obtain ⟨k3, k6, rfl⟩ := owns_slice y3
        have HK : Hid (Own3 w17.heap.size W55 y (.slice k1 y.out.length k4) (.slice k2 y.inn.length k5) (.slice k3 y.back.length k6)) := hide (Own3.mono ⟨y1, y2, y3, hAp⟩ HBc.out.size)
        replace HBc := hide (HBc.out.trans (hB.mono HBc.out.size))
        replace HZ4 : Hid (W55.heap[W44.heap.size]? = some (Obj.cells #[.bool false, .bool false, .int .i64 0, .int .i64 0, .slice none 0 0, .slice none 0 0, .slice none 0 0, .int .i64 0, .bool false, .bool false, .bool false] 58)) := hide ((hB.block _ (Array.getElem?_eq_some_iff.1 HZ4.out).1).trans HZ4.out)
        replace HZ5 : Hid (W55.heap[W0.heap.size]? = some (Obj.cells #[.bool false, .bool false, .int .i64 0, .int .i64 0, .slice none 0 0, .slice none 0 0, .slice none 0 0, .int .i64 0, .bool false, .bool false, .bool false] 58)) := hide ((hB.block _ (Array.getElem?_eq_some_iff.1 HZ5.out).1).trans HZ5.out)
        clear hB y1 y2 y3 hAp
        refine hK.out _ _ (⟨HYs.out.below HBc.out, HZs.out.below HBc.out⟩) (fun hHeld2 => ?_)
        clear hK K' hHeld
        have hHeld := hHeld2
        clear hHeld2
        try simp only [Act.put, List.setIfInBounds_toArray, List.set_cons_zero, List.set_cons_succ]
        refine wpAnyH_ready (rs := [3]) (by kernel_rfl) (by simp) ?_
        refine AllReadyH.cons (o := ?_) ?_ (fun K' hK => ?_) AllReadyH.nil
        rotate_left 1
        · (simp only [List.getElem?_toArray, List.getElem?_cons_zero, List.getElem?_cons_succ]; rfl)
        · go_simp
          go_at_call 21
          refine (given_any zs _ _ _ _ _ (HZl.out.below HBc.out) HLz.out.1 HLz.out.2.1 HLz.out.2.2).mono ?_
          rintro _ W56 ⟨o1, i1, b1, rfl, y1, y2, y3, hB, hAp⟩
          obtain ⟨l1, l4, rfl⟩ := owns_slice y1
          obtain ⟨l2, l5, rfl⟩ := owns_slice y2
          obtain ⟨l3, l6, rfl⟩ := owns_slice y3
          have HL : Hid (Own3 w17.heap.size W56 zs (.slice l1 zs.out.length l4) (.slice l2 zs.inn.length l5) (.slice l3 zs.back.length l6)) := hide (Own3.mono ⟨y1, y2, y3, hAp⟩ HBc.out.size)
          replace HBc := hide (HBc.out.trans (hB.mono HBc.out.size))
          replace HK := hide (HK.out.below hB)
          replace HZ4 : Hid (W56.heap[W44.heap.size]? = some (Obj.cells #[.bool false, .bool false, .int .i64 0, .int .i64 0, .slice none 0 0, .slice none 0 0, .slice none 0 0, .int .i64 0, .bool false, .bool false, .bool false] 58)) := hide ((hB.block _ (Array.getElem?_eq_some_iff.1 HZ4.out).1).trans HZ4.out)
          replace HZ5 : Hid (W56.heap[W0.heap.size]? = some (Obj.cells #[.bool false, .bool false, .int .i64 0, .int .i64 0, .slice none 0 0, .slice none 0 0, .slice none 0 0, .int .i64 0, .bool false, .bool false, .bool false] 58)) := hide ((hB.block _ (Array.getElem?_eq_some_iff.1 HZ5.out).1).trans HZ5.out)
          clear hB y1 y2 y3 hAp
          refine hK.out _ _ (⟨HYs.out.below HBc.out, HZs.out.below HBc.out⟩) (fun hHeld2 => ?_)
          clear hK K' hHeld
          have hHeld := hHeld2
          clear hHeld2
          try simp only [Act.put, List.setIfInBounds_toArray, List.set_cons_zero, List.set_cons_succ]
          have pf0 := frozen_of_row W56 W44.heap.size 0 _ _ HZ4.out
          have pf1 := frozen_of_row W56 W44.heap.size 1 _ _ HZ4.out
          have pf2 := frozen_of_row W56 W44.heap.size 2 _ _ HZ4.out
          have pf3 := frozen_of_row W56 W44.heap.size 3 _ _ HZ4.out
          have pf4 := frozen_of_row W56 W44.heap.size 4 _ _ HZ4.out
          have pf5 := frozen_of_row W56 W44.heap.size 5 _ _ HZ4.out
          have pf6 := frozen_of_row W56 W44.heap.size 6 _ _ HZ4.out
          have pf7 := frozen_of_row W56 W44.heap.size 7 _ _ HZ4.out
          have pf8 := frozen_of_row W56 W44.heap.size 8 _ _ HZ4.out
          have pf9 := frozen_of_row W56 W44.heap.size 9 _ _ HZ4.out
          have pf10 := frozen_of_row W56 W44.heap.size 10 _ _ HZ4.out
          have pc0 := cell_of_row W56 W44.heap.size 0 _ _ _ HZ4.out
          have pc1 := cell_of_row W56 W44.heap.size 1 _ _ _ HZ4.out
          have pc2 := cell_of_row W56 W44.heap.size 2 _ _ _ HZ4.out
          have pc3 := cell_of_row W56 W44.heap.size 3 _ _ _ HZ4.out
          have pc4 := cell_of_row W56 W44.heap.size 4 _ _ _ HZ4.out
          have pc5 := cell_of_row W56 W44.heap.size 5 _ _ _ HZ4.out
          have pc6 := cell_of_row W56 W44.heap.size 6 _ _ _ HZ4.out
          have pc7 := cell_of_row W56 W44.heap.size 7 _ _ _ HZ4.out
          have pc8 := cell_of_row W56 W44.heap.size 8 _ _ _ HZ4.out
          have pc9 := cell_of_row W56 W44.heap.size 9 _ _ _ HZ4.out
          have pc10 := cell_of_row W56 W44.heap.size 10 _ _ _ HZ4.out
          simp at pc0 pc1 pc2 pc3 pc4 pc5 pc6 pc7 pc8 pc9 pc10
          refine wpAnyH_ready (rs := [6]) (by kernel_rfl) (by simp) ?_
          refine AllReadyH.cons (o := ?_) ?_ (fun K' hK => ?_) AllReadyH.nil
          rotate_left 1
          · (simp only [List.getElem?_toArray, List.getElem?_cons_zero, List.getElem?_cons_succ]; rfl)
          · obtain ⟨e1, e2⟩ := st_fill W56 W44.heap.size y (.slice k1 y.out.length k4) (.slice k2 y.inn.length k5) (.slice k3 y.back.length k6) HZ4.out
            have HD4 := hide e1
            replace HBc := hide (HBc.out.trans (e2.below (B := w17.heap.size) (fun k e => by have e3 : k = W44.heap.size := e; omega) HBc.out.size))
            replace HK := hide (Own3.past HK.out e2 HZ4.out)
            replace HL := hide (Own3.past HL.out e2 HZ4.out)
            replace HZ5 := hide ((e2.block _ (Array.getElem?_eq_some_iff.1 HZ5.out).1 (by show ¬ _ = W44.heap.size; omega)).trans HZ5.out)
            clear HZ4 e1 e2
            go_simp
            clear pf0 pf1 pf2 pf3 pf4 pf5 pf6 pf7 pf8 pf9 pf10 pc0 pc1 pc2 pc3 pc4 pc5 pc6 pc7 pc8 pc9 pc10
            generalize ((((((((((W56.setCell ⟨W44.heap.size, 0, none⟩ (.bool y.rd)).setCell ⟨W44.heap.size, 1, none⟩ (.bool y.wt)).setCell ⟨W44.heap.size, 2, none⟩ (.int .i64 y.mode)).setCell ⟨W44.heap.size, 3, none⟩ (.int .i64 y.size)).setCell ⟨W44.heap.size, 4, none⟩ (.slice k1 y.out.length k4)).setCell ⟨W44.heap.size, 5, none⟩ (.slice k2 y.inn.length k5)).setCell ⟨W44.heap.size, 6, none⟩ (.slice k3 y.back.length k6)).setCell ⟨W44.heap.size, 7, none⟩ (.int .i64 y.dir)).setCell ⟨W44.heap.size, 8, none⟩ (.bool y.fin)).setCell ⟨W44.heap.size, 9, none⟩ (.bool y.bad)).setCell ⟨W44.heap.size, 10, none⟩ (.bool y.closed) = W57 at *
            refine hK.out _ _ (⟨HYs.out.below HBc.out, HZs.out.below HBc.out⟩) (fun hHeld2 => ?_)
            clear hK K' hHeld
            have hHeld := hHeld2
            clear hHeld2
            try simp only [Act.put, List.setIfInBounds_toArray, List.set_cons_zero, List.set_cons_succ]
            have rf0 := frozen_of_row W57 W0.heap.size 0 _ _ HZ5.out
            have rf1 := frozen_of_row W57 W0.heap.size 1 _ _ HZ5.out
            have rf2 := frozen_of_row W57 W0.heap.size 2 _ _ HZ5.out
            have rf3 := frozen_of_row W57 W0.heap.size 3 _ _ HZ5.out
            have rf4 := frozen_of_row W57 W0.heap.size 4 _ _ HZ5.out
            have rf5 := frozen_of_row W57 W0.heap.size 5 _ _ HZ5.out
            have rf6 := frozen_of_row W57 W0.heap.size 6 _ _ HZ5.out
            have rf7 := frozen_of_row W57 W0.heap.size 7 _ _ HZ5.out
            have rf8 := frozen_of_row W57 W0.heap.size 8 _ _ HZ5.out
            have rf9 := frozen_of_row W57 W0.heap.size 9 _ _ HZ5.out
            have rf10 := frozen_of_row W57 W0.heap.size 10 _ _ HZ5.out
            have rc0 := cell_of_row W57 W0.heap.size 0 _ _ _ HZ5.out
            have rc1 := cell_of_row W57 W0.heap.size 1 _ _ _ HZ5.out
            have rc2 := cell_of_row W57 W0.heap.size 2 _ _ _ HZ5.out
            have rc3 := cell_of_row W57 W0.heap.size 3 _ _ _ HZ5.out
            have rc4 := cell_of_row W57 W0.heap.size 4 _ _ _ HZ5.out
            have rc5 := cell_of_row W57 W0.heap.size 5 _ _ _ HZ5.out
            have rc6 := cell_of_row W57 W0.heap.size 6 _ _ _ HZ5.out
            have rc7 := cell_of_row W57 W0.heap.size 7 _ _ _ HZ5.out
            have rc8 := cell_of_row W57 W0.heap.size 8 _ _ _ HZ5.out
            have rc9 := cell_of_row W57 W0.heap.size 9 _ _ _ HZ5.out
            have rc10 := cell_of_row W57 W0.heap.size 10 _ _ _ HZ5.out
            simp at rc0 rc1 rc2 rc3 rc4 rc5 rc6 rc7 rc8 rc9 rc10
            refine wpAnyH_ready (rs := [7]) (by kernel_rfl) (by simp) ?_
            refine AllReadyH.cons (o := ?_) ?_ (fun K' hK => ?_) AllReadyH.nil
            rotate_left 1
            · (simp only [List.getElem?_toArray, List.getElem?_cons_zero, List.getElem?_cons_succ]; rfl)
            · obtain ⟨e1, e2⟩ := st_fill W57 W0.heap.size zs (.slice l1 zs.out.length l4) (.slice l2 zs.inn.length l5) (.slice l3 zs.back.length l6) HZ5.out
              have HD5 := hide e1
              replace HBc := hide (HBc.out.trans (e2.below (B := w17.heap.size) (fun k e => by have e3 : k = W0.heap.size := e; omega) HBc.out.size))
              replace HK := hide (Own3.past HK.out e2 HZ5.out)
              replace HL := hide (Own3.past HL.out e2 HZ5.out)
              replace HD4 := hide (StAt.turned1 HD4.out e2 (by omega))
              clear HZ5 e1 e2
              go_simp
              clear rf0 rf1 rf2 rf3 rf4 rf5 rf6 rf7 rf8 rf9 rf10 rc0 rc1 rc2 rc3 rc4 rc5 rc6 rc7 rc8 rc9 rc10
              generalize ((((((((((W57.setCell ⟨W0.heap.size, 0, none⟩ (.bool zs.rd)).setCell ⟨W0.heap.size, 1, none⟩ (.bool zs.wt)).setCell ⟨W0.heap.size, 2, none⟩ (.int .i64 zs.mode)).setCell ⟨W0.heap.size, 3, none⟩ (.int .i64 zs.size)).setCell ⟨W0.heap.size, 4, none⟩ (.slice l1 zs.out.length l4)).setCell ⟨W0.heap.size, 5, none⟩ (.slice l2 zs.inn.length l5)).setCell ⟨W0.heap.size, 6, none⟩ (.slice l3 zs.back.length l6)).setCell ⟨W0.heap.size, 7, none⟩ (.int .i64 zs.dir)).setCell ⟨W0.heap.size, 8, none⟩ (.bool zs.fin)).setCell ⟨W0.heap.size, 9, none⟩ (.bool zs.bad)).setCell ⟨W0.heap.size, 10, none⟩ (.bool zs.closed) = W58 at *
              refine hK.out _ _ (⟨HYs.out.below HBc.out, HZs.out.below HBc.out⟩) (fun hHeld2 => ?_)
              clear hK K' hHeld
              have hHeld := hHeld2
              clear hHeld2
              try simp only [Act.put, List.setIfInBounds_toArray, List.set_cons_zero, List.set_cons_succ]
              refine wpAnyH_done (by kernel_rfl) ?_ _
              refine NoPanic.normal ?_
              clear hHeld
              go_wp2
              go_meet
              exact ⟨_, _, _, _, _, _, _, _, _, _, _, _, _, _, rfl, rfl, HD4, HD5, HK, HL, HBc, by omega, by omega⟩
end Go.Proofs.YtdmkjbdlidadiaaGreat
