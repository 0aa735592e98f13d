import Derived.Test.YtcbadebjpogmlaaGreatDoorJFb
import Derived.Test.YtcbadebjpogmlaaGreatDoorJVh
import Derived.Deep.RegionHeldLaw
namespace Go.Proofs.YtcbadebjpogmlaaGreatDoor
open Go.RowKit Tr
set_option linter.unusedSimpArgs false in
set_option maxHeartbeats 4000000 in
set_option maxRecDepth 100000 in
theorem reg4 {Q : Exit → Act → World → Prop} {w3 : World} {g o b bp n2 c2 : Nat} {a2 : Option Addr} {xs2 : List Value} {dd : Dat} {pv : Value} {ixx : Nat} {u1 u2 u3 u4 u6 u7 u8 u9 u10 u11 u12 u13 u14 u15 u16 u17 u18 u19 u20 u21 u22 u23 u24 u25 u26 u27 u28 u29 u30 u31 u32 u33 u34 u35 u36 u37 u38 u39 u40 u41 u42 u43 u44 u45 u46 u47 u48 u49 u50 u51 u52 u53 u54 u55 u56 u57 u58 u59 u60 : Value} {i0 : TypeInfo}
  (e2 : w3.cell? ⟨g, o + 2, none⟩ = some (.pointer (some ⟨bp, 0, none⟩))) (e8 : w3.cell? ⟨bp, 8, none⟩ = some (.slice a2 n2 c2))
  (e2a : (w3.alloc (.cells #[.pointer (some ⟨b, 0, none⟩)] 71)).cell? ⟨g, o + 2, none⟩ = some (.pointer (some ⟨bp, 0, none⟩)))
  (e8a : (w3.alloc (.cells #[.pointer (some ⟨b, 0, none⟩)] 71)).cell? ⟨bp, 8, none⟩ = some (.slice a2 n2 c2))
  (hQp : ∀ c a (i : Nat) v w, Q (.panic c) (Act.put a (some i) v) w → Q (.panic c) a w) (hwl : n2 ≤ 4000000)
  (HI : Hid (Tryz.prog.info? 71 = some i0)) (HZ0 : Hid (i0.zero = some (.pointer none))) (HZ1 : Hid (i0.size = 1)) (HZ2 : Hid (i0.bytes = 8))
  (HOr : Hid ((w3.alloc (.cells #[.pointer (some ⟨b, 0, none⟩)] 71)).drew.ownsRow 0 71 1 (.slice a2 n2 c2) n2 xs2))
  (HN1 : Hid (∀ (j : Nat) (u : Value), [Value.pointer (some ⟨b, 0, none⟩)][j]? = some u → (w3.alloc (.cells #[.pointer (some ⟨b, 0, none⟩)] 71)).drew.cell? ((⟨w3.heap.size, 0, none⟩ : Addr).add j) = some u))
  (HN2 : Hid (∀ u ∈ [Value.pointer (some ⟨b, 0, none⟩)], u.oneCell' = true))
  (P4 : Hid (∀ w4, (w3.alloc (.cells #[.pointer (some ⟨b, 0, none⟩)] 71)).drew.grownBy w4 (Value.slice a2 n2 c2).ownBlock → Blk w4 bp (pcl dd pv ixx (.slice a2 n2 c2)) 130))
  (G4 : Hid (∀ w4, (w3.alloc (.cells #[.pointer (some ⟨b, 0, none⟩)] 71)).drew.grownBy w4 (Value.slice a2 n2 c2).ownBlock → w4.cell? ⟨g, o + 2, none⟩ = some (.pointer (some ⟨bp, 0, none⟩))))
  (G5 : Hid (∀ w4, (w3.alloc (.cells #[.pointer (some ⟨b, 0, none⟩)] 71)).drew.grownBy w4 (Value.slice a2 n2 c2).ownBlock → ∀ v, (w4.setCell ⟨bp, 8, none⟩ v).cell? ⟨g, o + 2, none⟩ = some (.pointer (some ⟨bp, 0, none⟩))))
  (FIN : Hid (∀ g4 cap4 w4, w4.ownsRow 0 71 1 (.slice (some ⟨g4, 0, none⟩) (n2 + 1) cap4) (n2 + 1) (xs2 ++ [.pointer (some ⟨b, 0, none⟩)]) → (w3.alloc (.cells #[.pointer (some ⟨b, 0, none⟩)] 71)).drew.grownBy w4 (Value.slice a2 n2 c2).ownBlock → ((Value.slice a2 n2 c2).ownBlock = some g4 ∨ g4 = (w3.alloc (.cells #[.pointer (some ⟨b, 0, none⟩)] 71)).drew.heap.size) → Q .normal ⟨#[.pointer (some ⟨g, o, none⟩), u1, u2, u3, u4, .pointer (some ⟨b, 0, none⟩), u6, u7, u8, u9, u10, u11, u12, u13, u14, u15, u16, u17, u18, u19, u20, u21, u22, u23, u24, u25, u26, u27, u28, u29, u30, u31, u32, u33, u34, u35, u36, u37, u38, u39, u40, u41, u42, u43, .pointer (some ⟨g, o, none⟩), .pointer (some ⟨g, o, none⟩), .pointer (some ⟨g, o + 2, none⟩), .pointer (some ⟨bp, 0, none⟩), .pointer (some ⟨g, o, none⟩), .pointer (some ⟨g, o, none⟩), .pointer (some ⟨g, o + 2, none⟩), .pointer (some ⟨bp, 0, none⟩), .pointer (some ⟨bp, 0, none⟩), .pointer (some ⟨bp, 8, none⟩), .slice a2 n2 c2, .pointer (some ⟨b, 0, none⟩), .slice (some ⟨w3.heap.size, 0, none⟩) 1 1, .slice (some ⟨g4, 0, none⟩) (n2 + 1) cap4, .pointer (some ⟨bp, 0, none⟩), .pointer (some ⟨bp, 8, none⟩), u60], []⟩ (w4.setCell ⟨bp, 8, none⟩ (.slice (some ⟨g4, 0, none⟩) (n2 + 1) cap4)))) :
  Code.wp Tryz.prog (Code.region 4
                      #[{ dst := some 44, op := Op.move (Operand.tmp 0), type := 164, pos := "tree.go:55",
                          after := #[], guard := none },
                        { dst := some 45, op := Op.nilCheck (Operand.tmp 44), type := 0, pos := "tree.go:55",
                          after := #[{ on := 0, ground := Ground.data }], guard := none },
                        { dst := some 46, op := Op.fieldAddr 119 (Operand.tmp 45) 2, type := 0,
                          pos := "tree.go:55", after := #[{ on := 1, ground := Ground.data }], guard := none },
                        { dst := some 47, op := Op.load 71 (Operand.tmp 46), type := 71, pos := "tree.go:55",
                          after := #[{ on := 2, ground := Ground.data }], guard := none },
                        { dst := some 48, op := Op.move (Operand.tmp 0), type := 164, pos := "tree.go:55",
                          after := #[], guard := none },
                        { dst := some 49, op := Op.nilCheck (Operand.tmp 48), type := 0, pos := "tree.go:55",
                          after := #[{ on := 4, ground := Ground.data }], guard := none },
                        { dst := some 50, op := Op.fieldAddr 119 (Operand.tmp 49) 2, type := 0,
                          pos := "tree.go:55", after := #[{ on := 5, ground := Ground.data }], guard := none },
                        { dst := some 51, op := Op.load 71 (Operand.tmp 50), type := 71, pos := "tree.go:55",
                          after := #[{ on := 6, ground := Ground.data }], guard := none },
                        { dst := some 52, op := Op.nilCheck (Operand.tmp 51), type := 0, pos := "tree.go:55",
                          after := #[{ on := 7, ground := Ground.data }], guard := none },
                        { dst := some 53, op := Op.fieldAddr 130 (Operand.tmp 52) 8, type := 0,
                          pos := "tree.go:55", after := #[{ on := 8, ground := Ground.data }], guard := none },
                        { dst := some 54, op := Op.load 74 (Operand.tmp 53), type := 74, pos := "tree.go:55",
                          after := #[{ on := 9, ground := Ground.data }], guard := none },
                        { dst := some 55, op := Op.move (Operand.tmp 5), type := 71, pos := "tree.go:55",
                          after := #[], guard := none },
                        { dst := some 56, op := Op.buildSlice 74 1 #[(0, Operand.tmp 55)], type := 74,
                          pos := "tree.go:55", after := #[{ on := 11, ground := Ground.data }], guard := none },
                        { dst := some 57,
                          op :=
                            Op.call
                              { callee := Callee.builtin Builtin.append,
                                args := #[Operand.tmp 54, Operand.tmp 56], argTypes := #[74, 74] },
                          type := 74, pos := "tree.go:55",
                          after := #[{ on := 10, ground := Ground.data }, { on := 12, ground := Ground.data }],
                          guard := none },
                        { dst := some 58, op := Op.nilCheck (Operand.tmp 47), type := 0, pos := "tree.go:55",
                          after :=
                            #[{ on := 3, ground := Ground.data }, { on := 0, ground := Ground.phase },
                              { on := 1, ground := Ground.phase }, { on := 2, ground := Ground.phase },
                              { on := 3, ground := Ground.phase }, { on := 4, ground := Ground.phase },
                              { on := 5, ground := Ground.phase }, { on := 6, ground := Ground.phase },
                              { on := 7, ground := Ground.phase }, { on := 8, ground := Ground.phase },
                              { on := 9, ground := Ground.phase }, { on := 10, ground := Ground.phase },
                              { on := 11, ground := Ground.phase }, { on := 12, ground := Ground.phase },
                              { on := 13, ground := Ground.phase }],
                          guard := none },
                        { dst := some 59, op := Op.fieldAddr 130 (Operand.tmp 58) 8, type := 0,
                          pos := "tree.go:55",
                          after :=
                            #[{ on := 14, ground := Ground.data }, { on := 0, ground := Ground.phase },
                              { on := 1, ground := Ground.phase }, { on := 2, ground := Ground.phase },
                              { on := 3, ground := Ground.phase }, { on := 4, ground := Ground.phase },
                              { on := 5, ground := Ground.phase }, { on := 6, ground := Ground.phase },
                              { on := 7, ground := Ground.phase }, { on := 8, ground := Ground.phase },
                              { on := 9, ground := Ground.phase }, { on := 10, ground := Ground.phase },
                              { on := 11, ground := Ground.phase }, { on := 12, ground := Ground.phase },
                              { on := 13, ground := Ground.phase }],
                          guard := none },
                        { dst := none, op := Op.store 74 (Operand.tmp 59) (Operand.tmp 57), type := 0,
                          pos := "tree.go:55",
                          after :=
                            #[{ on := 15, ground := Ground.data }, { on := 13, ground := Ground.data },
                              { on := 13, ground := Ground.chain }, { on := 0, ground := Ground.phase },
                              { on := 1, ground := Ground.phase }, { on := 2, ground := Ground.phase },
                              { on := 3, ground := Ground.phase }, { on := 4, ground := Ground.phase },
                              { on := 5, ground := Ground.phase }, { on := 6, ground := Ground.phase },
                              { on := 7, ground := Ground.phase }, { on := 8, ground := Ground.phase },
                              { on := 9, ground := Ground.phase }, { on := 10, ground := Ground.phase },
                              { on := 11, ground := Ground.phase }, { on := 12, ground := Ground.phase },
                              { on := 13, ground := Ground.phase }],
                          guard := none }]
   true) Q ⟨#[.pointer (some ⟨g, o, none⟩), u1, u2, u3, u4, .pointer (some ⟨b, 0, none⟩), u6, u7, u8, u9, u10, u11, u12, u13, u14, u15, u16, u17, u18, u19, u20, u21, u22, u23, u24, u25, u26, u27, u28, u29, u30, u31, u32, u33, u34, u35, u36, u37, u38, u39, u40, u41, u42, u43, u44, u45, u46, u47, u48, u49, u50, u51, u52, u53, u54, u55, u56, u57, u58, u59, u60], []⟩ w3 := by
  refine wp_region_held_drew (S := fun w' => w'.cell? ⟨g, o + 2, none⟩ = some (.pointer (some ⟨bp, 0, none⟩))) (by kernel_rfl) e2 (fun hHeld => ?_)
  refine wpAnyH_take (i := 0) (v := ?v1) rfl (by kernel_rfl) (by kernel_rfl) (by kernel_rfl) (fun c a w h => hQp c a _ _ w h) (Or.inl ⟨by rfl, ?hy1⟩) (by assumption) ?rest1
  case hy1 => (intro w hSw; (try dsimp only at hSw); (go_simp <;> with_reducible rfl))
  try simp only [Act.put, List.setIfInBounds_toArray, List.set_cons_zero, List.set_cons_succ]
  refine wpAnyH_take (i := 1) (v := ?v2) rfl (by kernel_rfl) (by kernel_rfl) (by kernel_rfl) (fun c a w h => hQp c a _ _ w h) (Or.inl ⟨by rfl, ?hy2⟩) (by assumption) ?rest2
  case hy2 => (intro w hSw; (try dsimp only at hSw); (go_simp <;> with_reducible rfl))
  try simp only [Act.put, List.setIfInBounds_toArray, List.set_cons_zero, List.set_cons_succ]
  refine wpAnyH_take (i := 2) (v := ?v3) rfl (by kernel_rfl) (by kernel_rfl) (by kernel_rfl) (fun c a w h => hQp c a _ _ w h) (Or.inl ⟨by rfl, ?hy3⟩) (by assumption) ?rest3
  case hy3 => (intro w hSw; (try dsimp only at hSw); (go_simp <;> with_reducible rfl))
  try simp only [Act.put, List.setIfInBounds_toArray, List.set_cons_zero, List.set_cons_succ]
  refine wpAnyH_take (i := 3) (v := ?v4) rfl (by kernel_rfl) (by kernel_rfl) (by kernel_rfl) (fun c a w h => hQp c a _ _ w h) (Or.inl ⟨by rfl, ?hy4⟩) (by assumption) ?rest4
  case hy4 => (intro w hSw; (try dsimp only at hSw); (go_simp <;> with_reducible rfl))
  try simp only [Act.put, List.setIfInBounds_toArray, List.set_cons_zero, List.set_cons_succ]
  refine wpAnyH_take (i := 4) (v := ?v5) rfl (by kernel_rfl) (by kernel_rfl) (by kernel_rfl) (fun c a w h => hQp c a _ _ w h) (Or.inl ⟨by rfl, ?hy5⟩) (by assumption) ?rest5
  case hy5 => (intro w hSw; (try dsimp only at hSw); (go_simp <;> with_reducible rfl))
  try simp only [Act.put, List.setIfInBounds_toArray, List.set_cons_zero, List.set_cons_succ]
  refine wpAnyH_take (i := 5) (v := ?v6) rfl (by kernel_rfl) (by kernel_rfl) (by kernel_rfl) (fun c a w h => hQp c a _ _ w h) (Or.inl ⟨by rfl, ?hy6⟩) (by assumption) ?rest6
  case hy6 => (intro w hSw; (try dsimp only at hSw); (go_simp <;> with_reducible rfl))
  try simp only [Act.put, List.setIfInBounds_toArray, List.set_cons_zero, List.set_cons_succ]
  refine wpAnyH_take (i := 6) (v := ?v7) rfl (by kernel_rfl) (by kernel_rfl) (by kernel_rfl) (fun c a w h => hQp c a _ _ w h) (Or.inl ⟨by rfl, ?hy7⟩) (by assumption) ?rest7
  case hy7 => (intro w hSw; (try dsimp only at hSw); (go_simp <;> with_reducible rfl))
  try simp only [Act.put, List.setIfInBounds_toArray, List.set_cons_zero, List.set_cons_succ]
  refine wpAnyH_take (i := 7) (v := ?v8) rfl (by kernel_rfl) (by kernel_rfl) (by kernel_rfl) (fun c a w h => hQp c a _ _ w h) (Or.inl ⟨by rfl, ?hy8⟩) (by assumption) ?rest8
  case hy8 => (intro w hSw; (try dsimp only at hSw); (go_simp <;> with_reducible rfl))
  try simp only [Act.put, List.setIfInBounds_toArray, List.set_cons_zero, List.set_cons_succ]
  refine wpAnyH_take (i := 8) (v := ?v9) rfl (by kernel_rfl) (by kernel_rfl) (by kernel_rfl) (fun c a w h => hQp c a _ _ w h) (Or.inl ⟨by rfl, ?hy9⟩) (by assumption) ?rest9
  case hy9 => (intro w hSw; (try dsimp only at hSw); (go_simp <;> with_reducible rfl))
  try simp only [Act.put, List.setIfInBounds_toArray, List.set_cons_zero, List.set_cons_succ]
  refine wpAnyH_take (i := 9) (v := ?v10) rfl (by kernel_rfl) (by kernel_rfl) (by kernel_rfl) (fun c a w h => hQp c a _ _ w h) (Or.inl ⟨by rfl, ?hy10⟩) (by assumption) ?rest10
  case hy10 => (intro w hSw; (try dsimp only at hSw); (go_simp <;> with_reducible rfl))
  try simp only [Act.put, List.setIfInBounds_toArray, List.set_cons_zero, List.set_cons_succ]
  refine wpAnyH_take (i := 11) (v := ?v11) rfl (by kernel_rfl) (by kernel_rfl) (by kernel_rfl) (fun c a w h => hQp c a _ _ w h) (Or.inl ⟨by rfl, ?hy11⟩) (by assumption) ?rest11
  case hy11 => (intro w hSw; (try dsimp only at hSw); (go_simp <;> with_reducible rfl))
  try simp only [Act.put, List.setIfInBounds_toArray, List.set_cons_zero, List.set_cons_succ]
  refine wpAnyH_ready (rs := [10, 12]) (by kernel_rfl) (by simp) ?_
  refine AllReadyH.cons rfl (fun K hK => ?_) ?_
  · go_simp
    refine hK.out _ _ e2 (fun hHeld2 => ?_)
    clear hK K
    try simp only [Act.put, List.setIfInBounds_toArray, List.set_cons_zero, List.set_cons_succ]
    refine wpAnyH_ready (rs := [12]) (by kernel_rfl) (by simp) ?_
    refine AllReadyH.cons rfl (fun K hK => ?_) AllReadyH.nil
    go_simp
    refine hK.out _ _ e2a (fun hHeld5 => ?_)
    clear hK K
    try simp only [Act.put, List.setIfInBounds_toArray, List.set_cons_zero, List.set_cons_succ]
    refine wpAnyH_ready (rs := [13]) (by kernel_rfl) (by simp) ?_
    refine AllReadyH.cons rfl (fun K hK => ?_) AllReadyH.nil
    refine step_append_lies _ rfl (.tmp 54) (.tmp 56) 74 rfl 0 71 i0 _ 1 8 Tryz.underlying74 HI.out HZ0.out HZ1.out HZ2.out rfl (by decide) (.slice a2 n2 c2) n2 xs2 rfl HOr.out ⟨w3.heap.size, 0, none⟩ 1 1 [.pointer (some ⟨b, 0, none⟩)] rfl rfl HN1.out HN2.out (by omega) (by unfold maxLen; omega) (by omega) (by omega) _ rfl ?_
    intro g4 cap4 w4 hown4 hgrow4 hat4 _
    have B4 := P4.out w4 hgrow4
    have f4 := B4.fz
    have d4 := B4.cell 8
    simp [pcl] at d4
    have d2 := G4.out w4 hgrow4
    have d5 := G5.out w4 hgrow4
    have F4 := hide (FIN.out g4 cap4 w4 hown4 hgrow4 hat4)
    clear B4 hown4 hgrow4 hat4
    refine hK.out _ _ d2 (fun hHeld3 => ?_)
    clear hK K
    try simp only [Act.put, List.setIfInBounds_toArray, List.set_cons_zero, List.set_cons_succ]
    refine wpAnyH_take (i := 14) (v := ?v12) rfl (by kernel_rfl) (by kernel_rfl) (by kernel_rfl) (fun c a w h => hQp c a _ _ w h) (Or.inl ⟨by rfl, ?hy12⟩) (by assumption) ?rest12
    case hy12 => (intro w hSw; (try dsimp only at hSw); (go_simp <;> with_reducible rfl))
    try simp only [Act.put, List.setIfInBounds_toArray, List.set_cons_zero, List.set_cons_succ]
    refine wpAnyH_take (i := 15) (v := ?v13) rfl (by kernel_rfl) (by kernel_rfl) (by kernel_rfl) (fun c a w h => hQp c a _ _ w h) (Or.inl ⟨by rfl, ?hy13⟩) (by assumption) ?rest13
    case hy13 => (intro w hSw; (try dsimp only at hSw); (go_simp <;> with_reducible rfl))
    try simp only [Act.put, List.setIfInBounds_toArray, List.set_cons_zero, List.set_cons_succ]
    refine wpAnyH_ready (rs := [16]) (by kernel_rfl) (by simp) ?_
    refine AllReadyH.cons rfl (fun K hK => ?_) AllReadyH.nil
    go_simp
    refine hK.out _ _ (d5 _) (fun hHeld4 => ?_)
    clear hK K
    refine wpAnyH_done (by kernel_rfl) ?_ _
    exact F4.out
  refine AllReadyH.cons rfl (fun K hK => ?_) AllReadyH.nil
  go_simp
  refine hK.out _ _ e2a (fun hHeld2 => ?_)
  clear hK K
  try simp only [Act.put, List.setIfInBounds_toArray, List.set_cons_zero, List.set_cons_succ]
  refine wpAnyH_ready (rs := [10]) (by kernel_rfl) (by simp) ?_
  refine AllReadyH.cons rfl (fun K hK => ?_) AllReadyH.nil
  go_simp
  refine hK.out _ _ e2a (fun hHeld5 => ?_)
  clear hK K
  try simp only [Act.put, List.setIfInBounds_toArray, List.set_cons_zero, List.set_cons_succ]
  refine wpAnyH_ready (rs := [13]) (by kernel_rfl) (by simp) ?_
  refine AllReadyH.cons rfl (fun K hK => ?_) AllReadyH.nil
  refine step_append_lies _ rfl (.tmp 54) (.tmp 56) 74 rfl 0 71 i0 _ 1 8 Tryz.underlying74 HI.out HZ0.out HZ1.out HZ2.out rfl (by decide) (.slice a2 n2 c2) n2 xs2 rfl HOr.out ⟨w3.heap.size, 0, none⟩ 1 1 [.pointer (some ⟨b, 0, none⟩)] rfl rfl HN1.out HN2.out (by omega) (by unfold maxLen; omega) (by omega) (by omega) _ rfl ?_
  intro g4 cap4 w4 hown4 hgrow4 hat4 _
  have B4 := P4.out w4 hgrow4
  have f4 := B4.fz
  have d4 := B4.cell 8
  simp [pcl] at d4
  have d2 := G4.out w4 hgrow4
  have d5 := G5.out w4 hgrow4
  have F4 := hide (FIN.out g4 cap4 w4 hown4 hgrow4 hat4)
  clear B4 hown4 hgrow4 hat4
  refine hK.out _ _ d2 (fun hHeld3 => ?_)
  clear hK K
  try simp only [Act.put, List.setIfInBounds_toArray, List.set_cons_zero, List.set_cons_succ]
  refine wpAnyH_take (i := 14) (v := ?v14) rfl (by kernel_rfl) (by kernel_rfl) (by kernel_rfl) (fun c a w h => hQp c a _ _ w h) (Or.inl ⟨by rfl, ?hy14⟩) (by assumption) ?rest14
  case hy14 => (intro w hSw; (try dsimp only at hSw); (go_simp <;> with_reducible rfl))
  try simp only [Act.put, List.setIfInBounds_toArray, List.set_cons_zero, List.set_cons_succ]
  refine wpAnyH_take (i := 15) (v := ?v15) rfl (by kernel_rfl) (by kernel_rfl) (by kernel_rfl) (fun c a w h => hQp c a _ _ w h) (Or.inl ⟨by rfl, ?hy15⟩) (by assumption) ?rest15
  case hy15 => (intro w hSw; (try dsimp only at hSw); (go_simp <;> with_reducible rfl))
  try simp only [Act.put, List.setIfInBounds_toArray, List.set_cons_zero, List.set_cons_succ]
  refine wpAnyH_ready (rs := [16]) (by kernel_rfl) (by simp) ?_
  refine AllReadyH.cons rfl (fun K hK => ?_) AllReadyH.nil
  go_simp
  refine hK.out _ _ (d5 _) (fun hHeld4 => ?_)
  clear hK K
  refine wpAnyH_done (by kernel_rfl) ?_ _
  exact F4.out
end Go.Proofs.YtcbadebjpogmlaaGreatDoor
