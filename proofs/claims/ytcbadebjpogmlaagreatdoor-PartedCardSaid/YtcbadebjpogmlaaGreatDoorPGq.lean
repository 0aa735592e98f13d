import Derived.Test.YtcbadebjpogmlaaGreatDoorPGa
import Derived.Test.YtcbadebjpogmlaaGreatDoorPVg
import Derived.Deep.RegionHeldLaw
import Derived.Test.YtcbadebjpogmlaaGreatDoorPAf
namespace Go.Proofs.YtcbadebjpogmlaaGreatDoor
open Go.RowKit Tr
set_option linter.unusedSimpArgs false in
set_option maxHeartbeats 4000000 in
set_option maxRecDepth 100000 in
theorem reg4 {Q:Exit→Act→World→Prop} {w3:World} {g o b bp n2 c2:Nat} {a2:Option Addr} {xs2:List Value} {dd:Dat} {pv:Value} {ixx:Nat} {u1 u2 u3 u4 u6 u7 u8 u9 u10 u11 u12 u13 u14 u15 u16 u17 u18 u19 u20 u21 u22 u23 u24 u25 u26 u27 u28 u29 u30 u31 u32 u33 u34 u35 u36 u37 u38 u39 u40 u41 u42 u43 u44 u45 u46 u47 u48 u49 u50 u51 u52 u53 u54 u55 u56 u57 u58 u59 u60:Value} {i0:TypeInfo}
  (e2:w3.cell? ⟨g,o+2,none⟩=some (.pointer (some ⟨bp,0,none⟩))) (e8:w3.cell? ⟨bp,8,none⟩=some (.slice a2 n2 c2))
  (e2a:(w3.alloc (.cells #[.pointer (some ⟨b,0,none⟩)] 71)).cell? ⟨g,o+2,none⟩=some (.pointer (some ⟨bp,0,none⟩)))
  (e8a:(w3.alloc (.cells #[.pointer (some ⟨b,0,none⟩)] 71)).cell? ⟨bp,8,none⟩=some (.slice a2 n2 c2))
  (hQp:∀c a (i:Nat) v w,Q (.panic c) (Act.put a (some i) v) w→Q (.panic c) a w) (hwl:n2≤4000000)
  (HI:Hid (Tryz.prog.info? 71=some i0)) (HZ0:Hid (i0.zero=some (.pointer none))) (HZ1:Hid (i0.size=1)) (HZ2:Hid (i0.bytes=8))
  (HOr:Hid ((w3.alloc (.cells #[.pointer (some ⟨b,0,none⟩)] 71)).drew.ownsRow 0 71 1 (.slice a2 n2 c2) n2 xs2))
  (HN1:Hid (∀(j:Nat) (u:Value),[Value.pointer (some ⟨b,0,none⟩)][j]?=some u→(w3.alloc (.cells #[.pointer (some ⟨b,0,none⟩)] 71)).drew.cell? ((⟨w3.heap.size,0,none⟩:Addr).add j)=some u))
  (HN2:Hid (∀u ∈ [Value.pointer (some ⟨b,0,none⟩)],u.oneCell'=true))
  (P4:Hid (∀w4,(w3.alloc (.cells #[.pointer (some ⟨b,0,none⟩)] 71)).drew.grownBy w4 (Value.slice a2 n2 c2).ownBlock→Blk w4 bp (pcl dd pv ixx (.slice a2 n2 c2)) 130))
  (G4:Hid (∀w4,(w3.alloc (.cells #[.pointer (some ⟨b,0,none⟩)] 71)).drew.grownBy w4 (Value.slice a2 n2 c2).ownBlock→w4.cell? ⟨g,o+2,none⟩=some (.pointer (some ⟨bp,0,none⟩))))
  (G5:Hid (∀w4,(w3.alloc (.cells #[.pointer (some ⟨b,0,none⟩)] 71)).drew.grownBy w4 (Value.slice a2 n2 c2).ownBlock→∀v,(w4.setCell ⟨bp,8,none⟩ v).cell? ⟨g,o+2,none⟩=some (.pointer (some ⟨bp,0,none⟩))))
  (FIN:Hid (∀g4 cap4 w4,w4.ownsRow 0 71 1 (.slice (some ⟨g4,0,none⟩) (n2+1) cap4) (n2+1) (xs2++[.pointer (some ⟨b,0,none⟩)])→(w3.alloc (.cells #[.pointer (some ⟨b,0,none⟩)] 71)).drew.grownBy w4 (Value.slice a2 n2 c2).ownBlock→((Value.slice a2 n2 c2).ownBlock=some g4∨g4=(w3.alloc (.cells #[.pointer (some ⟨b,0,none⟩)] 71)).drew.heap.size)→Q .normal ⟨#[.pointer (some ⟨g,o,none⟩),u1,u2,u3,u4,.pointer (some ⟨b,0,none⟩),u6,u7,u8,u9,u10,u11,u12,u13,u14,u15,u16,u17,u18,u19,u20,u21,u22,u23,u24,u25,u26,u27,u28,u29,u30,u31,u32,u33,u34,u35,u36,u37,u38,u39,u40,u41,u42,u43,.pointer (some ⟨g,o,none⟩),.pointer (some ⟨g,o,none⟩),.pointer (some ⟨g,o+2,none⟩),.pointer (some ⟨bp,0,none⟩),.pointer (some ⟨g,o,none⟩),.pointer (some ⟨g,o,none⟩),.pointer (some ⟨g,o+2,none⟩),.pointer (some ⟨bp,0,none⟩),.pointer (some ⟨bp,0,none⟩),.pointer (some ⟨bp,8,none⟩),.slice a2 n2 c2,.pointer (some ⟨b,0,none⟩),.slice (some ⟨w3.heap.size,0,none⟩) 1 1,.slice (some ⟨g4,0,none⟩) (n2+1) cap4,.pointer (some ⟨bp,0,none⟩),.pointer (some ⟨bp,8,none⟩),u60],[]⟩ (w4.setCell ⟨bp,8,none⟩ (.slice (some ⟨g4,0,none⟩) (n2+1) cap4)))) :
  Code.wp Tryz.prog (Code.region 4
                      #[{ dst:=some 44,op:=Op.move (Operand.tmp 0),type:=164,pos:= "tree.go:55",
                          after:=#[],guard:=none },
                        { dst:=some 45,op:=Op.nilCheck (Operand.tmp 44),type:=0,pos:= "tree.go:55",
                          after:=#[{ on:=0,ground:=Ground.data }],guard:=none },
                        { dst:=some 46,op:=Op.fieldAddr 119 (Operand.tmp 45) 2,type:=0,
                          pos:= "tree.go:55",after:=#[{ on:=1,ground:=Ground.data }],guard:=none },
                        { dst:=some 47,op:=Op.load 71 (Operand.tmp 46),type:=71,pos:= "tree.go:55",
                          after:=#[{ on:=2,ground:=Ground.data }],guard:=none },
                        { dst:=some 48,op:=Op.move (Operand.tmp 0),type:=164,pos:= "tree.go:55",
                          after:=#[],guard:=none },
                        { dst:=some 49,op:=Op.nilCheck (Operand.tmp 48),type:=0,pos:= "tree.go:55",
                          after:=#[{ on:=4,ground:=Ground.data }],guard:=none },
                        { dst:=some 50,op:=Op.fieldAddr 119 (Operand.tmp 49) 2,type:=0,
                          pos:= "tree.go:55",after:=#[{ on:=5,ground:=Ground.data }],guard:=none },
                        { dst:=some 51,op:=Op.load 71 (Operand.tmp 50),type:=71,pos:= "tree.go:55",
                          after:=#[{ on:=6,ground:=Ground.data }],guard:=none },
                        { dst:=some 52,op:=Op.nilCheck (Operand.tmp 51),type:=0,pos:= "tree.go:55",
                          after:=#[{ on:=7,ground:=Ground.data }],guard:=none },
                        { dst:=some 53,op:=Op.fieldAddr 130 (Operand.tmp 52) 8,type:=0,
                          pos:= "tree.go:55",after:=#[{ on:=8,ground:=Ground.data }],guard:=none },
                        { dst:=some 54,op:=Op.load 74 (Operand.tmp 53),type:=74,pos:= "tree.go:55",
                          after:=#[{ on:=9,ground:=Ground.data }],guard:=none },
                        { dst:=some 55,op:=Op.move (Operand.tmp 5),type:=71,pos:= "tree.go:55",
                          after:=#[],guard:=none },
                        { dst:=some 56,op:=Op.buildSlice 74 1 #[(0,Operand.tmp 55)],type:=74,
                          pos:= "tree.go:55",after:=#[{ on:=11,ground:=Ground.data }],guard:=none },
                        { dst:=some 57,
                          op :=
                            Op.call
                              { callee:=Callee.builtin Builtin.append,
                                args:=#[Operand.tmp 54,Operand.tmp 56],argTypes:=#[74,74] },
                          type:=74,pos:= "tree.go:55",
                          after:=#[{ on:=10,ground:=Ground.data },{ on:=12,ground:=Ground.data }],
                          guard:=none },
                        { dst:=some 58,op:=Op.nilCheck (Operand.tmp 47),type:=0,pos:= "tree.go:55",
                          after :=
                            #[{ on:=3,ground:=Ground.data },{ on:=0,ground:=Ground.phase },
                              { on:=1,ground:=Ground.phase },{ on:=2,ground:=Ground.phase },
                              { on:=3,ground:=Ground.phase },{ on:=4,ground:=Ground.phase },
                              { on:=5,ground:=Ground.phase },{ on:=6,ground:=Ground.phase },
                              { on:=7,ground:=Ground.phase },{ on:=8,ground:=Ground.phase },
                              { on:=9,ground:=Ground.phase },{ on:=10,ground:=Ground.phase },
                              { on:=11,ground:=Ground.phase },{ on:=12,ground:=Ground.phase },
                              { on:=13,ground:=Ground.phase }],
                          guard:=none },
                        { dst:=some 59,op:=Op.fieldAddr 130 (Operand.tmp 58) 8,type:=0,
                          pos:= "tree.go:55",
                          after :=
                            #[{ on:=14,ground:=Ground.data },{ on:=0,ground:=Ground.phase },
                              { on:=1,ground:=Ground.phase },{ on:=2,ground:=Ground.phase },
                              { on:=3,ground:=Ground.phase },{ on:=4,ground:=Ground.phase },
                              { on:=5,ground:=Ground.phase },{ on:=6,ground:=Ground.phase },
                              { on:=7,ground:=Ground.phase },{ on:=8,ground:=Ground.phase },
                              { on:=9,ground:=Ground.phase },{ on:=10,ground:=Ground.phase },
                              { on:=11,ground:=Ground.phase },{ on:=12,ground:=Ground.phase },
                              { on:=13,ground:=Ground.phase }],
                          guard:=none },
                        { dst:=none,op:=Op.store 74 (Operand.tmp 59) (Operand.tmp 57),type:=0,
                          pos:= "tree.go:55",
                          after :=
                            #[{ on:=15,ground:=Ground.data },{ on:=13,ground:=Ground.data },
                              { on:=13,ground:=Ground.chain },{ on:=0,ground:=Ground.phase },
                              { on:=1,ground:=Ground.phase },{ on:=2,ground:=Ground.phase },
                              { on:=3,ground:=Ground.phase },{ on:=4,ground:=Ground.phase },
                              { on:=5,ground:=Ground.phase },{ on:=6,ground:=Ground.phase },
                              { on:=7,ground:=Ground.phase },{ on:=8,ground:=Ground.phase },
                              { on:=9,ground:=Ground.phase },{ on:=10,ground:=Ground.phase },
                              { on:=11,ground:=Ground.phase },{ on:=12,ground:=Ground.phase },
                              { on:=13,ground:=Ground.phase }],
                          guard:=none }]
   true) Q ⟨#[.pointer (some ⟨g,o,none⟩),u1,u2,u3,u4,.pointer (some ⟨b,0,none⟩),u6,u7,u8,u9,u10,u11,u12,u13,u14,u15,u16,u17,u18,u19,u20,u21,u22,u23,u24,u25,u26,u27,u28,u29,u30,u31,u32,u33,u34,u35,u36,u37,u38,u39,u40,u41,u42,u43,u44,u45,u46,u47,u48,u49,u50,u51,u52,u53,u54,u55,u56,u57,u58,u59,u60],[]⟩ w3:=by
  refine wp_region_held_drew (S:=fun w'=>w'.cell? ⟨g,o+2,none⟩=some (.pointer (some ⟨bp,0,none⟩))) (by kernel_rfl) e2 (fun hHeld=>?_)
  refine wpAnyH_take (i:=0) (v:=?v1) rfl (by kernel_rfl) (by kernel_rfl) (by kernel_rfl) (fun c a w h=>hQp c a _ _ w h) (Or.inl ⟨by rfl,?hy1⟩) (by assumption) ?rest1
  case hy1=>(intro w hSw; (try dsimp only at hSw); (go_simp<;>with_reducible rfl))
  try simp only [Act.put,List.setIfInBounds_toArray,List.set_cons_zero,List.set_cons_succ]
  refine wpAnyH_take (i:=1) (v:=?v2) rfl (by kernel_rfl) (by kernel_rfl) (by kernel_rfl) (fun c a w h=>hQp c a _ _ w h) (Or.inl ⟨by rfl,?hy2⟩) (by assumption) ?rest2
  case hy2=>(intro w hSw; (try dsimp only at hSw); (go_simp<;>with_reducible rfl))
  try simp only [Act.put,List.setIfInBounds_toArray,List.set_cons_zero,List.set_cons_succ]
  refine wpAnyH_take (i:=2) (v:=?v3) rfl (by kernel_rfl) (by kernel_rfl) (by kernel_rfl) (fun c a w h=>hQp c a _ _ w h) (Or.inl ⟨by rfl,?hy3⟩) (by assumption) ?rest3
  case hy3=>(intro w hSw; (try dsimp only at hSw); (go_simp<;>with_reducible rfl))
  try simp only [Act.put,List.setIfInBounds_toArray,List.set_cons_zero,List.set_cons_succ]
  refine wpAnyH_take (i:=3) (v:=?v4) rfl (by kernel_rfl) (by kernel_rfl) (by kernel_rfl) (fun c a w h=>hQp c a _ _ w h) (Or.inl ⟨by rfl,?hy4⟩) (by assumption) ?rest4
  case hy4=>(intro w hSw; (try dsimp only at hSw); (go_simp<;>with_reducible rfl))
  try simp only [Act.put,List.setIfInBounds_toArray,List.set_cons_zero,List.set_cons_succ]
  refine wpAnyH_take (i:=4) (v:=?v5) rfl (by kernel_rfl) (by kernel_rfl) (by kernel_rfl) (fun c a w h=>hQp c a _ _ w h) (Or.inl ⟨by rfl,?hy5⟩) (by assumption) ?rest5
  case hy5=>(intro w hSw; (try dsimp only at hSw); (go_simp<;>with_reducible rfl))
  try simp only [Act.put,List.setIfInBounds_toArray,List.set_cons_zero,List.set_cons_succ]
  refine wpAnyH_take (i:=5) (v:=?v6) rfl (by kernel_rfl) (by kernel_rfl) (by kernel_rfl) (fun c a w h=>hQp c a _ _ w h) (Or.inl ⟨by rfl,?hy6⟩) (by assumption) ?rest6
  case hy6=>(intro w hSw; (try dsimp only at hSw); (go_simp<;>with_reducible rfl))
  try simp only [Act.put,List.setIfInBounds_toArray,List.set_cons_zero,List.set_cons_succ]
  refine wpAnyH_take (i:=6) (v:=?v7) rfl (by kernel_rfl) (by kernel_rfl) (by kernel_rfl) (fun c a w h=>hQp c a _ _ w h) (Or.inl ⟨by rfl,?hy7⟩) (by assumption) ?rest7
  case hy7=>(intro w hSw; (try dsimp only at hSw); (go_simp<;>with_reducible rfl))
  try simp only [Act.put,List.setIfInBounds_toArray,List.set_cons_zero,List.set_cons_succ]
  refine wpAnyH_take (i:=7) (v:=?v8) rfl (by kernel_rfl) (by kernel_rfl) (by kernel_rfl) (fun c a w h=>hQp c a _ _ w h) (Or.inl ⟨by rfl,?hy8⟩) (by assumption) ?rest8
  case hy8=>(intro w hSw; (try dsimp only at hSw); (go_simp<;>with_reducible rfl))
  try simp only [Act.put,List.setIfInBounds_toArray,List.set_cons_zero,List.set_cons_succ]
  refine wpAnyH_take (i:=8) (v:=?v9) rfl (by kernel_rfl) (by kernel_rfl) (by kernel_rfl) (fun c a w h=>hQp c a _ _ w h) (Or.inl ⟨by rfl,?hy9⟩) (by assumption) ?rest9
  case hy9=>(intro w hSw; (try dsimp only at hSw); (go_simp<;>with_reducible rfl))
  try simp only [Act.put,List.setIfInBounds_toArray,List.set_cons_zero,List.set_cons_succ]
  refine wpAnyH_take (i:=9) (v:=?v10) rfl (by kernel_rfl) (by kernel_rfl) (by kernel_rfl) (fun c a w h=>hQp c a _ _ w h) (Or.inl ⟨by rfl,?hy10⟩) (by assumption) ?rest10
  case hy10=>(intro w hSw; (try dsimp only at hSw); (go_simp<;>with_reducible rfl))
  try simp only [Act.put,List.setIfInBounds_toArray,List.set_cons_zero,List.set_cons_succ]
  refine wpAnyH_take (i:=11) (v:=?v11) rfl (by kernel_rfl) (by kernel_rfl) (by kernel_rfl) (fun c a w h=>hQp c a _ _ w h) (Or.inl ⟨by rfl,?hy11⟩) (by assumption) ?rest11
  case hy11=>(intro w hSw; (try dsimp only at hSw); (go_simp<;>with_reducible rfl))
  try simp only [Act.put,List.setIfInBounds_toArray,List.set_cons_zero,List.set_cons_succ]
  refine wpAnyH_ready (rs:=[10,12]) (by kernel_rfl) (by simp) ?_
  refine AllReadyH.cons rfl (fun K hK=>?_) ?_
  · go_simp
    refine hK.out _ _ e2 (fun hHeld2=>?_)
    clear hK K
    try simp only [Act.put,List.setIfInBounds_toArray,List.set_cons_zero,List.set_cons_succ]
    refine wpAnyH_ready (rs:=[12]) (by kernel_rfl) (by simp) ?_
    refine AllReadyH.cons rfl (fun K hK=>?_) AllReadyH.nil
    go_simp
    refine hK.out _ _ e2a (fun hHeld5=>?_)
    clear hK K
    try simp only [Act.put,List.setIfInBounds_toArray,List.set_cons_zero,List.set_cons_succ]
    refine wpAnyH_ready (rs:=[13]) (by kernel_rfl) (by simp) ?_
    refine AllReadyH.cons rfl (fun K hK=>?_) AllReadyH.nil
    refine step_append_lies _ rfl (.tmp 54) (.tmp 56) 74 rfl 0 71 i0 _ 1 8 Tryz.underlying74 HI.out HZ0.out HZ1.out HZ2.out rfl (by decide) (.slice a2 n2 c2) n2 xs2 rfl HOr.out ⟨w3.heap.size,0,none⟩ 1 1 [.pointer (some ⟨b,0,none⟩)] rfl rfl HN1.out HN2.out (by omega) (by unfold maxLen; omega) (by omega) (by omega) _ rfl ?_
    intro g4 cap4 w4 hown4 hgrow4 hat4 _
    have B4:=P4.out w4 hgrow4
    have f4:=B4.fz
    have d4:=B4.cell 8
    simp [pcl] at d4
    have d2:=G4.out w4 hgrow4
    have d5:=G5.out w4 hgrow4
    have F4:=hide (FIN.out g4 cap4 w4 hown4 hgrow4 hat4)
    clear B4 hown4 hgrow4 hat4
    refine hK.out _ _ d2 (fun hHeld3=>?_)
    clear hK K
    try simp only [Act.put,List.setIfInBounds_toArray,List.set_cons_zero,List.set_cons_succ]
    refine wpAnyH_take (i:=14) (v:=?v12) rfl (by kernel_rfl) (by kernel_rfl) (by kernel_rfl) (fun c a w h=>hQp c a _ _ w h) (Or.inl ⟨by rfl,?hy12⟩) (by assumption) ?rest12
    case hy12=>(intro w hSw; (try dsimp only at hSw); (go_simp<;>with_reducible rfl))
    try simp only [Act.put,List.setIfInBounds_toArray,List.set_cons_zero,List.set_cons_succ]
    refine wpAnyH_take (i:=15) (v:=?v13) rfl (by kernel_rfl) (by kernel_rfl) (by kernel_rfl) (fun c a w h=>hQp c a _ _ w h) (Or.inl ⟨by rfl,?hy13⟩) (by assumption) ?rest13
    case hy13=>(intro w hSw; (try dsimp only at hSw); (go_simp<;>with_reducible rfl))
    try simp only [Act.put,List.setIfInBounds_toArray,List.set_cons_zero,List.set_cons_succ]
    refine wpAnyH_ready (rs:=[16]) (by kernel_rfl) (by simp) ?_
    refine AllReadyH.cons rfl (fun K hK=>?_) AllReadyH.nil
    go_simp
    refine hK.out _ _ (d5 _) (fun hHeld4=>?_)
    clear hK K
    refine wpAnyH_done (by kernel_rfl) ?_ _
    exact F4.out
  refine AllReadyH.cons rfl (fun K hK=>?_) AllReadyH.nil
  go_simp
  refine hK.out _ _ e2a (fun hHeld2=>?_)
  clear hK K
  try simp only [Act.put,List.setIfInBounds_toArray,List.set_cons_zero,List.set_cons_succ]
  refine wpAnyH_ready (rs:=[10]) (by kernel_rfl) (by simp) ?_
  refine AllReadyH.cons rfl (fun K hK=>?_) AllReadyH.nil
  go_simp
  refine hK.out _ _ e2a (fun hHeld5=>?_)
  clear hK K
  try simp only [Act.put,List.setIfInBounds_toArray,List.set_cons_zero,List.set_cons_succ]
  refine wpAnyH_ready (rs:=[13]) (by kernel_rfl) (by simp) ?_
  refine AllReadyH.cons rfl (fun K hK=>?_) AllReadyH.nil
  refine step_append_lies _ rfl (.tmp 54) (.tmp 56) 74 rfl 0 71 i0 _ 1 8 Tryz.underlying74 HI.out HZ0.out HZ1.out HZ2.out rfl (by decide) (.slice a2 n2 c2) n2 xs2 rfl HOr.out ⟨w3.heap.size,0,none⟩ 1 1 [.pointer (some ⟨b,0,none⟩)] rfl rfl HN1.out HN2.out (by omega) (by unfold maxLen; omega) (by omega) (by omega) _ rfl ?_
  intro g4 cap4 w4 hown4 hgrow4 hat4 _
  have B4:=P4.out w4 hgrow4
  have f4:=B4.fz
  have d4:=B4.cell 8
  simp [pcl] at d4
  have d2:=G4.out w4 hgrow4
  have d5:=G5.out w4 hgrow4
  have F4:=hide (FIN.out g4 cap4 w4 hown4 hgrow4 hat4)
  clear B4 hown4 hgrow4 hat4
  refine hK.out _ _ d2 (fun hHeld3=>?_)
  clear hK K
  try simp only [Act.put,List.setIfInBounds_toArray,List.set_cons_zero,List.set_cons_succ]
  refine wpAnyH_take (i:=14) (v:=?v14) rfl (by kernel_rfl) (by kernel_rfl) (by kernel_rfl) (fun c a w h=>hQp c a _ _ w h) (Or.inl ⟨by rfl,?hy14⟩) (by assumption) ?rest14
  case hy14=>(intro w hSw; (try dsimp only at hSw); (go_simp<;>with_reducible rfl))
  try simp only [Act.put,List.setIfInBounds_toArray,List.set_cons_zero,List.set_cons_succ]
  refine wpAnyH_take (i:=15) (v:=?v15) rfl (by kernel_rfl) (by kernel_rfl) (by kernel_rfl) (fun c a w h=>hQp c a _ _ w h) (Or.inl ⟨by rfl,?hy15⟩) (by assumption) ?rest15
  case hy15=>(intro w hSw; (try dsimp only at hSw); (go_simp<;>with_reducible rfl))
  try simp only [Act.put,List.setIfInBounds_toArray,List.set_cons_zero,List.set_cons_succ]
  refine wpAnyH_ready (rs:=[16]) (by kernel_rfl) (by simp) ?_
  refine AllReadyH.cons rfl (fun K hK=>?_) AllReadyH.nil
  go_simp
  refine hK.out _ _ (d5 _) (fun hHeld4=>?_)
  clear hK K
  refine wpAnyH_done (by kernel_rfl) ?_ _
  exact F4.out
end Go.Proofs.YtcbadebjpogmlaaGreatDoor
namespace Go.Proofs.YtcbadebjpogmlaaGreatDoor
open Go.RowKit Tr
def tkCells (t:Tok):Array Value:=#[.int .i64 (t.k:Nat),.int .i64 (t.of:Nat),.int .i64 (t.frm:Nat),.int .i64 (t.to:Nat),.int .i64 t.n,.string (bsb (tkx t.k t.t))]
set_option maxHeartbeats 2000000 in
set_option maxRecDepth 100000 in
theorem g_take2 {X:Type} {g:Nat} {T:TypeId} {o:Nat} {gc:X→Value→Value→Value→Array Value} {fb fc:Value} {S:World→(Nat→Prop)→X→Prop} {bk:X→Bool} {bg cl:X→List Fm→Fm→Nat→X→Prop} {OkB:X→List Fm→Fm→Nat→Prop} {OkC:X→List Fm→Fm→(Nat→Nat)→Prop} (hL:GLay T o fb fc gc) (hG:GCb g T gc fb fc S bk bg cl OkB OkC)
 {w:World} {gs:Gs} {x:X} {A:Nat→Nat} {C M D:Nat→Prop} {t:Tok} (h:GI g T gc S w gs x A C M D) (hk:t.k=2) :
 Calls Tryz.prog 53 #[.pointer (some ⟨g,o,none⟩),tagg t] w (TkP g T gc S bk bg cl x gs t A C M D w):=by
 obtain ⟨w0,hw0⟩:∃w0,w0=w.alloc (.cells (tkCells t) 108):=⟨_,rfl⟩
 have bt0:Blk w0 w.heap.size (tkCells t) 108:=by rw [hw0]; exact Blk.new w _ _
 have K0:Keeps w w0:=by rw [hw0]; exact (Fr.refl _ w).alloc _
 have h0:=h.keeps hG K0
 have fz:=h0.b.fz
 have g3:=hL.c3 h0.b
 have tc0:w0.cell? ⟨w.heap.size,0,none⟩=some (.int .i64 (t.k:Nat)):=bt0.cell 0
 have tc5:w0.cell? ⟨w.heap.size,5,none⟩=some (.string (bsb (tkx t.k t.t))):=bt0.cell 5
 have etx:tkx t.k t.t=t.t:=by unfold tkx; rw [if_neg (by omega)]
 rw [etx] at tc5
 have n0:((t.k:Int) == 0)=false:=by rw [hk]; decide
 have n1:((t.k:Int) == 1)=false:=by rw [hk]; decide
 have n2:((t.k:Int) == 2)=true:=by rw [hk]; decide
 have FIN:Hid (TkP g T gc S bk bg cl x gs t A C M D w (.returned (.tuple #[])) (w0.setCell ⟨g,o+3,none⟩ (.string (bsb t.t)))):=by
  have f0:Fr (fun k=>k=g) w0 (w0.setCell ⟨g,o+3,none⟩ (.string (bsb t.t))):=(Fr.refl (fun k=>k=g) w0).setCell ⟨g,o+3,none⟩ (Or.inl rfl) _
  have eg:gTake gs t (bk x)={ gs with nm:=t.t }:=by unfold gTake; rw [if_neg (by omega),if_neg (by omega),if_pos hk]
  have ex:gX bk bg cl x gs t A w.heap.size x:=by unfold gX; rw [if_neg (by omega),if_neg (by omega),if_pos hk]
  refine ⟨rfl,A,C,M,D,x,ex,?_,fun _ _=>rfl,fun k hk=>?_,(K0.mono (fun _ _ e=>e.elim)).trans (f0.mono (fun k _ e=>Or.inr (Or.inr e)))⟩
  ·rw [eg]
   exact ⟨hG.keep h0.s (fun k hk=>f0.block k (hG.lt h0.s hk) (fun e=>(h0.dj k hk).2.2 e)) f0.size,hL.s3 _ h0.b,h0.m.fr h0.c f0 (fun k e=>by rw [e]; exact h0.g),⟨h0.ok.len,h0.ok.ix,h0.ok.bd,h0.ok.ws⟩,h0.p,fun k hk=>Nat.lt_of_lt_of_le (h0.c k hk) f0.size,h0.dj,h0.g,fun e t ht=>⟨(h0.l e t ht).1.imp (fun _ y=>⟨y.1,y.2.keep (fun k hk=>f0.block k (h0.c k hk) (fun e=>h0.g.2 (e▸hk)))⟩),(h0.l e t ht).2⟩⟩
  rcases hk with e | e | e
  ·exact Or.inl e
  ·exact Or.inr (Or.inl e)
  exact Or.inr (Or.inr (Or.inl e))
 have HW0:Hid (w0=w.alloc (.cells #[.int .i64 (t.k:Nat),.int .i64 (t.of:Nat),.int .i64 (t.frm:Nat),.int .i64 (t.to:Nat),.int .i64 t.n,.string (bsb (tkx t.k t.t))] 108)):=hw0
 rw [hw0] at fz g3 tc0 tc5
 unfold tkCells at fz g3 tc0 tc5
 have ETX:=hide etx
 clear hw0 bt0 K0 h0 h hk hL hG etx
 unfold tagg
 go_enter Tryz.func53,Tryz.ntmps53
 go_wp2
 go_end0
 rw [← HW0.out]
 exact FIN.out
set_option maxHeartbeats 2000000 in
set_option maxRecDepth 100000 in
theorem g_take1 {X:Type} {g:Nat} {T:TypeId} {o:Nat} {gc:X→Value→Value→Value→Array Value} {fb fc:Value} {S:World→(Nat→Prop)→X→Prop} {bk:X→Bool} {bg cl:X→List Fm→Fm→Nat→X→Prop} {OkB:X→List Fm→Fm→Nat→Prop} {OkC:X→List Fm→Fm→(Nat→Nat)→Prop} (hL:GLay T o fb fc gc) (hG:GCb g T gc fb fc S bk bg cl OkB OkC)
 {w:World} {gs:Gs} {x:X} {A:Nat→Nat} {C M D:Nat→Prop} {t:Tok} (h:GI g T gc S w gs x A C M D) (hk:t.k=1) (ht:TokOk gs.sh t) (hmk:mayKeep gs (bk x)) (hOk:∀f r,gs.st=f::r→OkC x r (Fm.ends f t.to) A) :
 Calls Tryz.prog 53 #[.pointer (some ⟨g,o,none⟩),tagg t] w (TkP g T gc S bk bg cl x gs t A C M D w):=by
 obtain ⟨f,r,hst⟩:∃f r,gs.st=f::r:=by
  have:=ht.k1 hk
  cases hs:gs.st with
  | nil=>simp [Gs.sh,hs] at this
  | cons f r=>exact ⟨f,r,rfl⟩
 obtain ⟨w0,hw0⟩:∃w0,w0=w.alloc (.cells (tkCells t) 108):=⟨_,rfl⟩
 have bt0:Blk w0 w.heap.size (tkCells t) 108:=by rw [hw0]; exact Blk.new w _ _
 have K0:Keeps w w0.drew:=by rw [hw0]; exact ((Fr.refl _ w).alloc _).drew
 have h0:=h.keeps hG K0
 have tc0:w0.cell? ⟨w.heap.size,0,none⟩=some (.int .i64 (t.k:Nat)):=bt0.cell 0
 have tc3:w0.cell? ⟨w.heap.size,3,none⟩=some (.int .i64 (t.to:Nat)):=bt0.cell 3
 have g2:w0.cell? ⟨g,o+2,none⟩=some (.pointer (some ⟨A f.d.frm,0,none⟩)):=by
  have:=hL.c2 (w:=w0.drew) h0.b
  rw [hst] at this
  exact this
 have hws:=h.ok.ws
 rw [hst] at hws
 have hok2:=gOk_take h.ok ht hmk
 have hl8:r.length≤8:=by have:=h.ok.len; rw [hst] at this; simp at this; omega
 have hix4:=h.ok.ix
 have hbd4:=h.ok.bd
 have hm0:=h0.m
 rw [hst] at hm0
 have hp0:=h0.p
 rw [hst] at hp0
 have eg:gTake gs t (bk x)=gClose gs f r t.to:=by unfold gTake; rw [if_neg (by omega),if_pos hk,hst]
 have ex:∀A x',gX bk bg cl x gs t A w.heap.size x'=cl x r (Fm.ends f t.to) (A f.d.frm) x':=fun A x'=>by unfold gX; rw [if_neg (by omega),if_pos hk,hst]
 have CL:=hide (g_close hL hG h0.s h0.b hm0 hl8 h0.c h0.dj h0.g (by have:=hws.2.1; have:=hws.2.2.1; omega) t.to (hOk f r hst))
 have FINE:Hid (∀res w',ClP g T gc S A C gs.bd (Fm.ends f t.to) r M D (cl x r (Fm.ends f t.to) (A f.d.frm)) (.string (bsb gs.nm)) w0.drew res w'→TkP g T gc S bk bg cl x gs t A C M D w res w'):=fun res w' hr=>by
  obtain ⟨q1,D',x',qx,q2,q3,q4,q5,q6⟩:=hr
  have hC':∀k,C k→k<w'.heap.size:=fun k hk=>Nat.lt_of_lt_of_le (h0.c k hk) q6.size
  have hdj':∀k,D' k→¬M k∧¬C k∧k≠g:=fun k hk=>by
   rcases q5 k hk with e | e
   ·exact h0.dj k e
   refine ⟨fun y=>?_,fun y=>?_,fun y=>?_⟩
   ·have:=(h0.m.lt k y).1; omega
   ·have:=h0.c k y; omega
   have:=h0.b.lt; omega
  obtain ⟨C',M',c1,c2,c3⟩:=gi_close (gs:=gTake gs t (bk x)) (f:=f) q2 q3 q4 hl8 (by have:=hws.2.1; have:=hws.2.2.1; omega) (by have:=hws.1; omega) hws.2.2.2.2.1 hp0.1 hp0.2 hC' hdj' h0.g (by rw [eg]; rfl) hok2
  refine ⟨q1,A,C',M',D',x',by rw [ex]; exact qx,c1,fun _ _=>rfl,fun k hk=>?_,(K0.mono (fun _ _ e=>e.elim)).trans q6⟩
  rcases hk with e | e | e
  ·rcases q5 k e with y | y
   ·exact Or.inl y
   exact Or.inr (Or.inr (Or.inr (Nat.le_trans K0.size y)))
  ·exact Or.inr (Or.inl (c3 k e))
  rcases c2 k e with y | y
  ·exact Or.inr (Or.inr (Or.inl y))
  exact Or.inr (Or.inl y)
 have n0:((t.k:Int) == 0)=false:=by rw [hk]; decide
 have n1:((t.k:Int) == 1)=true:=by rw [hk]; decide
 have HW0:Hid (w0=w.alloc (.cells #[.int .i64 (t.k:Nat),.int .i64 (t.of:Nat),.int .i64 (t.frm:Nat),.int .i64 (t.to:Nat),.int .i64 t.n,.string (bsb (tkx t.k t.t))] 108)):=hw0
 clear hw0 bt0 K0 h0 h hk hL hG hws hok2 hl8 hm0 hp0 eg ex ht hmk hOk hst hix4 hbd4
 unfold tagg
 unfold vpt at CL
 go_enter Tryz.func53,Tryz.ntmps53
 go_wp2
 rw [← HW0.out]
 go_region_with (go_at_call 73; refine CL.out.mono ?_; intro res w1 hr; have FR:=hide (FINE.out res w1 hr); obtain ⟨rfl,_⟩:=hr)
 all_goals
  go_wp2
  go_end0
  exact FR.out
end Go.Proofs.YtcbadebjpogmlaaGreatDoor
namespace Go.Proofs.YtcbadebjpogmlaaGreatDoor
open Go.RowKit Tr
theorem r_begins {w:World} (v:Value):Calls Tryz.prog 50 #[v] w fun r w'=>r=.returned (.bool true)∧w'=w:=by
 go_enter Tryz.func50,Tryz.ntmps50
 go_wp2
 go_ret
 exact ⟨rfl,rfl⟩
theorem r_closed {w:World} {lb b:Nat} {po:Option Addr} (h:Blk w lb #[.pointer po] 71):Calls Tryz.prog 51 #[.pointer (some ⟨b,0,none⟩),.pointer (some ⟨lb,0,none⟩)] w fun r w'=>r=.returned (.tuple #[])∧Blk w' lb #[.pointer (some ⟨b,0,none⟩)] 71∧Fr (fun k=>k=lb) w w':=by
 have c0:w.cell? ⟨lb,0,none⟩=some (.pointer po):=h.cell 0
 have fz:=h.fz
 have B1:=hide (h.set 0 (.pointer (some ⟨b,0,none⟩)))
 have F1:Hid (Fr (fun k=>k=lb) w (w.setCell ⟨lb,0,none⟩ (.pointer (some ⟨b,0,none⟩)))):=(Fr.refl (fun k=>k=lb) w).setCell ⟨lb,0,none⟩ (Or.inl rfl) _
 clear h
 go_enter Tryz.func51,Tryz.ntmps51
 go_wp2
 go_end0
 exact ⟨rfl,B1.out,F1.out⟩
def rfb:Value:=.func (.func 50) #[] #[]
def rfc (lb:Nat):Value:=.func (.func 51) #[] #[.pointer (some ⟨lb,0,none⟩)]
def rgc (lb:Nat) (_:Option Addr) (a b c:Value):Array Value:=#[rfb,rfc lb,a,b,c]
def rS (lb:Nat) (w:World) (D:Nat→Prop) (x:Option Addr):Prop:=(∀k,D k↔k=lb)∧Blk w lb #[.pointer x] 71
theorem r_lay (lb:Nat):GLay 119 0 rfb (rfc lb) (rgc lb) where
 c0:=fun h=>h.cell 0
 c1:=fun h=>h.cell 1
 c2:=fun h=>h.cell 2
 c3:=fun h=>h.cell 3
 c4:=fun h=>h.cell 4
 s2:=fun v h=>h.set 2 v
 s3:=fun v h=>h.set 3 v
 s4:=fun v h=>h.set 4 v
theorem r_cb (lb g:Nat):GCb g 119 (rgc lb) rfb (rfc lb) (rS lb) (fun _=>true) (fun x _ _ _ x'=>x'=x) (fun _ _ _ b x'=>x'=some ⟨b,0,none⟩) (fun _ _ _ _=>True) (fun _ _ _ _=>True) where
 lt:=fun h hk=>by rw [(h.1 _).1 hk]; exact h.2.lt
 keep:=fun h s _=>⟨h.1,(s _ ((h.1 _).2 rfl)).trans h.2⟩
 begins:=⟨_,_,_,rfl,fun _ _=>Tryz.call50 _ _,fun {w D x A C bd r f M a b c} hS hB _ _ _ _ _ _=>by
  refine (r_begins (w:=w) (vpt (A f.d.frm))).mono ?_
  rintro res w' ⟨rfl,rfl⟩
  exact ⟨rfl,D,_,rfl,hS,hB,fun k=>Or.inl,Fr.refl _ _⟩⟩
 closed:=⟨_,_,_,rfl,fun _ _=>Tryz.call51 _ _,fun {w D x A C bd r f M a b c} hS hB _ _ _ hdj _ _=>by
  refine (r_closed (b:=A f.d.frm) hS.2).mono ?_
  rintro res w' ⟨rfl,h1,h2⟩
  have hlb:=(hS.1 lb).2 rfl
  refine ⟨rfl,D,_,rfl,⟨hS.1,h1⟩,hB.fr h2 (fun e=>(hdj lb hlb).2.2 e.symm),fun k=>Or.inl,h2.mono (fun k _ e=>Or.inl ((hS.1 k).2 e))⟩⟩
end Go.Proofs.YtcbadebjpogmlaaGreatDoor
