import Derived.Test.YtcbadebjpogmlaaGreatDoorVsPx
import Derived.Test.YtcbadebjpogmlaaGreatDoorVsPi
import Derived.Test.YtcbadebjpogmlaaGreatDoorVsGa
import Derived.Test.YtcbadebjpogmlaaGreatDoorVsVg
import Derived.Deep.RegionHeldLaw
import Derived.Test.YtcbadebjpogmlaaGreatDoorVsAf
import Derived.Test.YtcbadebjpogmlaaGreatDoorVsFa
import Derived.Test.YtcbadebjpogmlaaGreatDoorVsAa
import Derived.Deep.MidRow
import Derived.Deep.RegionHeld
import Derived.Deep.Cut
import Derived.Great.Ranges
import Derived.Great.BuildSlice
import Derived.Test.YtcbadebjpogmlaaGreatDoorVsHc
set_option maxHeartbeats 4000000
set_option maxRecDepth 100000
namespace Tr
def er:Tv->Tv
 | ⟨d,ws⟩=>⟨{ d with cl:=0 },ws.attach.map (λ x=>er x.1)⟩
 termination_by t=>sizeOf t
 decreasing_by
 have:=List.sizeOf_lt_of_mem x.2
 simp
 omega
theorem oS (v:Tv):er v=⟨{ v.d with cl:=0 },v.ws.map er⟩:=by
 obtain ⟨d,ws⟩:=v
 rw [er]
 simp
theorem yb (v:Tv):(er v).d={ v.d with cl:=0 }:=by rw [oS]
theorem Cj (v:Tv):(er v).ws=v.ws.map er:=by rw [oS]
theorem Pq:∀{n:Nat} {v u:Tv},Al n v u->er v=er u
 | 0,_,_,h=>h.elim
 | n+1,v,u,⟨h1,h2,h3⟩=>by
  rw [oS,oS u,h1]
  congr 1
  refine List.ext_getElem (by simp [h2]) (λ i a b=>?_)
  rw [List.getElem_map,List.getElem_map]
  exact Pq (h3 i (by simpa using a) (by simpa using b))
def DQ (φ:Tv->Bool):Prop:=∀v,φ (er v)=φ v
theorem MB (v:Tv) (st:eO) (k:Nat):bE (er v) st k=(bE v st k).map er:=by
 unfold bE
 rw [yb,Cj]
 split
 ·simp only
  split
  ·rw [<-List.map_take,List.find?_map]
   have:((λ c:Tv=>c.d.name == st.name) ∘ er)=λ c=>c.d.name == st.name:=by funext c; simp [yb]
   rw [this]
  rfl
 simp only
 split
 ·rw [List.length_map]
  generalize (if st.n<0 then st.n+(v.ws.length:Int) else st.n)=z
  unfold idx
  split
  ·rfl
  rw [<-List.map_take,List.getElem?_map]
 rfl
theorem lF:∀(l:List eO) (v:Tv),aS (er v) l=(aS v l).map er
 | [],_=>rfl
 | st::l,v=>by
  rw [aS,aS,MB,Cj,List.length_map]
  cases bE v st v.ws.length with
  | none=>rfl
  | some u=>exact lF l u
theorem vg (c:Kt) (o:Option Tv):dP c (o.map er)=dP c o:=by
 cases o with
 | none=>rfl
 | some v=>simp [dP,yb]
theorem Ck (c:Kt) (o:Option Tv):fy c (o.map er)=fy c o:=by
 cases o with
 | none=>rfl
 | some v=>simp [fy,yb]
theorem RX (s:List UInt8) (l:List eO) (a:Nat):DQ (xm s l a).v:=by
 intro v
 unfold xm
 repeat' split
 ·simp only [lF,vg]
 ·simp only [lF,vg]
 ·simp only [lF,vg,Ck]
 ·simp only [lF,Ck]
 simp only [lF,Option.isSome_map]
theorem kX (s:List UInt8):∀(n m a:Nat) (φ:Tv->Bool),DQ φ->DQ (pC s n m a φ).v
 | 0,m,a,φ,h=>by rw [MC]; exact h
 | n+1,0,a,φ,h=>by
  rw [pC]
  split
  ·exact λ v=>by simp only [kX s n 0 (a+1) φ h v]
  split
  ·exact kX s n 2 (a+1) φ h
  exact RX s _ _
 | n+1,1,a,φ,h=>by
  rw [pC]
  exact kX s n 3 _ _ (kX s n 0 a φ h)
 | n+1,2,a,φ,h=>by
  rw [pC]
  exact kX s n 4 _ _ (kX s n 1 a φ h)
 | n+1,3,a,φ,h=>by
  rw [pC]
  split
  ·refine kX s n 3 _ _ (λ v=>?_)
   simp only [h v,kX s n 0 (a+2) φ h v]
  exact h
 | n+1,m+4,a,φ,h=>by
  rw [pC]
  split
  ·refine kX s n 4 _ _ (λ v=>?_)
   simp only [h v,kX s n 1 (a+2) φ h v]
  exact h
theorem ME (s:List UInt8) (a:Nat):DQ (bU s a).v.wh:=by
 unfold bU
 repeat' split
 all_goals first | exact λ_=>rfl | exact kX s _ 2 _ _ (λ_=>rfl)
def qW (g:Sg):Prop:=∀x ∈ g.l,DQ x.wh
theorem yd (s:List UInt8):∀(n a:Nat) (l:List b_),(∀x ∈ l,DQ x.wh)->∀x ∈ (dY s n a l).v,DQ x.wh
 | 0,_,_,h=>h
 | n+1,a,l,h=>by
  have h2:∀x ∈ l++[(bU s a).v],DQ x.wh:=λ x hx=>by
   rcases List.mem_append.1 hx with y | y
   ·exact h x y
   rw [List.mem_singleton.1 y]; exact ME s a
  rw [dY]
  split
  ·exact yd s n _ _ h2
  exact h2
theorem ye (s:List UInt8) (a:Nat):∀x ∈ (fE s a).v,DQ x.wh:=λ x hx=>by
 unfold fE at hx
 split at hx
 ·rw [List.mem_singleton.1 hx]; exact λ_=>rfl
 rw [List.mem_singleton.1 hx]; exact λ_=>rfl
theorem I9 (s:List UInt8) (a:Nat):∀x ∈ (yS s a).v,DQ x.wh:=yd s _ _ _ (λ_ h=>by cases h)
theorem MG (s:List UInt8) (a:Nat):qW (fD s a).v:=by
 unfold fD
 repeat' split
 ·exact I9 s _
 ·exact I9 s _
 ·exact ye s _
 exact ye s _
theorem yf (s:List UInt8):∀(n a:Nat) (l:List Sg),(∀g ∈ l,qW g)->∀g ∈ i_ s n a l,qW g
 | 0,_,_,h=>h
 | n+1,a,l,h=>by
  rw [i_]
  split
  ·refine yf s n _ _ (λ g hg=>?_)
   rcases List.mem_append.1 hg with y | y
   ·exact h g y
   rw [List.mem_singleton.1 y]; exact MG s a
  exact h
theorem DS (s:List UInt8):∀g ∈ cK s,qW g:=yf s _ _ _ (λ_ h=>by cases h)
theorem I_ {x:b_} (h:DQ x.wh) (pk L i:Nat) (w:Tv):bG x pk L i (er w)=bG x pk L i w:=by
 unfold bG
 rw [yb,h w]
theorem RY {x:b_} (h:DQ x.wh) (v:Tv):cC x (er v)=(cC x v).map er:=by
 unfold cC
 rw [yb,Cj,List.zipIdx_map,List.filter_map,List.map_map,List.map_map,List.length_map]
 congr 1
 apply List.filter_congr
 intro p _
 exact I_ h _ _ _ _
theorem Ap:∀(n:Nat) (v:Tv),au n (er v)=(au n v).map er
 | 0,_=>rfl
 | n+1,v=>by
  rw [au,au,Cj,List.map_cons,List.flatMap_map,List.map_flatMap]
  congr 1
  exact iB (λ c _=>Ap n c)
theorem Ja {l:List b_} (h:∀x ∈ l,DQ x.wh) (v:Tv):fC l (er v)=(fC l v).map er:=by
 unfold fC
 rw [List.map_flatMap]
 exact iB (λ x hx=>RY (h x hx) v)
theorem MH {g:Sg} (h:qW g) (v:Tv):dr g (er v)=(dr g v).map er:=by
 unfold dr
 split
 ·rw [Ap,List.flatMap_map,List.map_flatMap]
  exact iB (λ u _=>Ja h u)
 exact Ja h v
theorem qX:∀(xs:List Sg),(∀g ∈ xs,qW g)->∀(N:List Tv),aI xs (N.map er)=(aI xs N).map er
 | [],_,_=>rfl
 | g::r,h,N=>by
  rw [aI,aI,List.flatMap_map,<-qX r (λ x hx=>h x (List.mem_cons_of_mem _ hx)),List.map_flatMap]
  congr 1
  exact iB (λ v _=>MH (h g List.mem_cons_self) v)
def Pr (v:Tv):List UInt8×Nat×Nat:=(v.d.path,v.d.ai,v.d.to)
theorem R_ (v:Tv):Pr (er v)=Pr v:=by unfold Pr; rw [yb]
theorem Jb {xs:List Sg} (h:∀g ∈ xs,qW g) {v u:Tv} (e:er v=er u):(aI xs [v]).map Pr=(aI xs [u]).map Pr:=by
 have k:∀w:Tv,(aI xs [w]).map Pr=(aI xs [er w]).map Pr:=λ w=>by
  have:=qX xs h [w]
  rw [List.map_singleton] at this
  rw [this,List.map_map]
  apply List.map_congr_left
  intro x _
  exact (R_ x).symm
 rw [k v,k u,e]
end Tr
namespace Go.Proofs.YtcbadebjpogmlaaGreatDoor
open Go.RowKit Tr
set_option linter.unusedSimpArgs false in
theorem ZJ {Q:Exit->Act->World->Prop} {w3:World} {g o b bp n2 c2:Nat} {a2:Option Addr} {UO:List Value} {dd:dO} {pv:Value} {ixx:Nat} {u1 u2 u3 u4 u6 u7 u8 u9 u10 u11 u12 u13 u14 u15 u16 u17 u18 u19 u20 u21 u22 u23 u24 u25 u26 u27 u28 u29 u30 u31 u32 u33 u34 u35 u36 u37 u38 u39 u40 u41 u42 u43 u44 u45 u46 u47 u48 u49 u50 u51 u52 u53 u54 u55 u56 u57 u58 u59 u60:Value} {i0:TypeInfo}
  (e2:w3.cell? ⟨g,o+2,none⟩=some (.pointer (some ⟨bp,0,none⟩))) (e8:w3.cell? ⟨bp,8,none⟩=some (.slice a2 n2 c2))
  (UN:(w3.alloc (.cells #[.pointer (some ⟨b,0,none⟩)] 71)).cell? ⟨g,o+2,none⟩=some (.pointer (some ⟨bp,0,none⟩)))
  (e8a:(w3.alloc (.cells #[.pointer (some ⟨b,0,none⟩)] 71)).cell? ⟨bp,8,none⟩=some (.slice a2 n2 c2))
  (Aq:∀c a (i:Nat) v w,Q (.panic c) (Act.put a (some i) v) w->Q (.panic c) a w) (hwl:n2<=4000000)
  (HI:Hid (Tryz.prog.info? 71=some i0)) (ia:Hid (i0.zero=some (.pointer none))) (gO:Hid (i0.size=1)) (ic:Hid (i0.bytes=8))
  (HOr:Hid ((w3.alloc (.cells #[.pointer (some ⟨b,0,none⟩)] 71)).drew.ownsRow 0 71 1 (.slice a2 n2 c2) n2 UO))
  (Qo:Hid (∀(j:Nat) (u:Value),[Value.pointer (some ⟨b,0,none⟩)][j]?=some u->(w3.alloc (.cells #[.pointer (some ⟨b,0,none⟩)] 71)).drew.cell? ((⟨w3.heap.size,0,none⟩:Addr).add j)=some u))
  (Bk:Hid (∀u ∈ [Value.pointer (some ⟨b,0,none⟩)],u.oneCell'=true))
  (P4:Hid (∀w4,(w3.alloc (.cells #[.pointer (some ⟨b,0,none⟩)] 71)).drew.grownBy w4 (Value.slice a2 n2 c2).ownBlock->ay w4 bp (ld dd pv ixx (.slice a2 n2 c2)) 130))
  (G4:Hid (∀w4,(w3.alloc (.cells #[.pointer (some ⟨b,0,none⟩)] 71)).drew.grownBy w4 (Value.slice a2 n2 c2).ownBlock->w4.cell? ⟨g,o+2,none⟩=some (.pointer (some ⟨bp,0,none⟩))))
  (G5:Hid (∀w4,(w3.alloc (.cells #[.pointer (some ⟨b,0,none⟩)] 71)).drew.grownBy w4 (Value.slice a2 n2 c2).ownBlock->∀v,(w4.setCell ⟨bp,8,none⟩ v).cell? ⟨g,o+2,none⟩=some (.pointer (some ⟨bp,0,none⟩))))
  (Bj:Hid (∀g4 jr w4,w4.ownsRow 0 71 1 (.slice (some ⟨g4,0,none⟩) (n2+1) jr) (n2+1) (UO++[.pointer (some ⟨b,0,none⟩)])->(w3.alloc (.cells #[.pointer (some ⟨b,0,none⟩)] 71)).drew.grownBy w4 (Value.slice a2 n2 c2).ownBlock->((Value.slice a2 n2 c2).ownBlock=some g4\/g4=(w3.alloc (.cells #[.pointer (some ⟨b,0,none⟩)] 71)).drew.heap.size)->Q .normal ⟨#[.pointer (some ⟨g,o,none⟩),u1,u2,u3,u4,.pointer (some ⟨b,0,none⟩),u6,u7,u8,u9,u10,u11,u12,u13,u14,u15,u16,u17,u18,u19,u20,u21,u22,u23,u24,u25,u26,u27,u28,u29,u30,u31,u32,u33,u34,u35,u36,u37,u38,u39,u40,u41,u42,u43,.pointer (some ⟨g,o,none⟩),.pointer (some ⟨g,o,none⟩),.pointer (some ⟨g,o+2,none⟩),.pointer (some ⟨bp,0,none⟩),.pointer (some ⟨g,o,none⟩),.pointer (some ⟨g,o,none⟩),.pointer (some ⟨g,o+2,none⟩),.pointer (some ⟨bp,0,none⟩),.pointer (some ⟨bp,0,none⟩),.pointer (some ⟨bp,8,none⟩),.slice a2 n2 c2,.pointer (some ⟨b,0,none⟩),.slice (some ⟨w3.heap.size,0,none⟩) 1 1,.slice (some ⟨g4,0,none⟩) (n2+1) jr,.pointer (some ⟨bp,0,none⟩),.pointer (some ⟨bp,8,none⟩),u60],[]⟩ (w4.setCell ⟨bp,8,none⟩ (.slice (some ⟨g4,0,none⟩) (n2+1) jr)))) :
  Code.wp Tryz.prog (Code.region 4
                      #[{ dst:=some 44,op:=Op.move (Operand.tmp 0),type:=164,pos:= "tree.go:55",
                          after:=#[],guard:=none },
                        { dst:=some 45,op:=Op.nilCheck (Operand.tmp 44),type:=0,pos:= "tree.go:55",
                          after:=#[{ on:=0,ground:=Ground.data }],guard:=none },
                        { dst:=some 46,op:=Op.fieldAddr 119 (Operand.tmp 45) 2,type:=0,
                          pos:= "tree.go:55",after:=#[{ on:=1,ground:=Ground.data }],guard:=none },
                        { dst:=some 47,op:=Op.load 71 (Operand.tmp 46),type:=71,pos:= "tree.go:55",
                          after:=#[{ on:=2,ground:=Ground.data }],guard:=none },
                        { dst:=some 48,op:=Op.move (Operand.tmp 0),type:=164,pos:= "tree.go:55",
                          after:=#[],guard:=none },
                        { dst:=some 49,op:=Op.nilCheck (Operand.tmp 48),type:=0,pos:= "tree.go:55",
                          after:=#[{ on:=4,ground:=Ground.data }],guard:=none },
                        { dst:=some 50,op:=Op.fieldAddr 119 (Operand.tmp 49) 2,type:=0,
                          pos:= "tree.go:55",after:=#[{ on:=5,ground:=Ground.data }],guard:=none },
                        { dst:=some 51,op:=Op.load 71 (Operand.tmp 50),type:=71,pos:= "tree.go:55",
                          after:=#[{ on:=6,ground:=Ground.data }],guard:=none },
                        { dst:=some 52,op:=Op.nilCheck (Operand.tmp 51),type:=0,pos:= "tree.go:55",
                          after:=#[{ on:=7,ground:=Ground.data }],guard:=none },
                        { dst:=some 53,op:=Op.fieldAddr 130 (Operand.tmp 52) 8,type:=0,
                          pos:= "tree.go:55",after:=#[{ on:=8,ground:=Ground.data }],guard:=none },
                        { dst:=some 54,op:=Op.load 74 (Operand.tmp 53),type:=74,pos:= "tree.go:55",
                          after:=#[{ on:=9,ground:=Ground.data }],guard:=none },
                        { dst:=some 55,op:=Op.move (Operand.tmp 5),type:=71,pos:= "tree.go:55",
                          after:=#[],guard:=none },
                        { dst:=some 56,op:=Op.buildSlice 74 1 #[(0,Operand.tmp 55)],type:=74,
                          pos:= "tree.go:55",after:=#[{ on:=11,ground:=Ground.data }],guard:=none },
                        { dst:=some 57,
                          op :=
                            Op.call
                              { callee:=Callee.builtin Builtin.append,
                                args:=#[Operand.tmp 54,Operand.tmp 56],argTypes:=#[74,74] },
                          type:=74,pos:= "tree.go:55",
                          after:=#[{ on:=10,ground:=Ground.data },{ on:=12,ground:=Ground.data }],
                          guard:=none },
                        { dst:=some 58,op:=Op.nilCheck (Operand.tmp 47),type:=0,pos:= "tree.go:55",
                          after :=
                            #[{ on:=3,ground:=Ground.data },{ on:=0,ground:=Ground.phase },
                              { on:=1,ground:=Ground.phase },{ on:=2,ground:=Ground.phase },
                              { on:=3,ground:=Ground.phase },{ on:=4,ground:=Ground.phase },
                              { on:=5,ground:=Ground.phase },{ on:=6,ground:=Ground.phase },
                              { on:=7,ground:=Ground.phase },{ on:=8,ground:=Ground.phase },
                              { on:=9,ground:=Ground.phase },{ on:=10,ground:=Ground.phase },
                              { on:=11,ground:=Ground.phase },{ on:=12,ground:=Ground.phase },
                              { on:=13,ground:=Ground.phase }],
                          guard:=none },
                        { dst:=some 59,op:=Op.fieldAddr 130 (Operand.tmp 58) 8,type:=0,
                          pos:= "tree.go:55",
                          after :=
                            #[{ on:=14,ground:=Ground.data },{ on:=0,ground:=Ground.phase },
                              { on:=1,ground:=Ground.phase },{ on:=2,ground:=Ground.phase },
                              { on:=3,ground:=Ground.phase },{ on:=4,ground:=Ground.phase },
                              { on:=5,ground:=Ground.phase },{ on:=6,ground:=Ground.phase },
                              { on:=7,ground:=Ground.phase },{ on:=8,ground:=Ground.phase },
                              { on:=9,ground:=Ground.phase },{ on:=10,ground:=Ground.phase },
                              { on:=11,ground:=Ground.phase },{ on:=12,ground:=Ground.phase },
                              { on:=13,ground:=Ground.phase }],
                          guard:=none },
                        { dst:=none,op:=Op.store 74 (Operand.tmp 59) (Operand.tmp 57),type:=0,
                          pos:= "tree.go:55",
                          after :=
                            #[{ on:=15,ground:=Ground.data },{ on:=13,ground:=Ground.data },
                              { on:=13,ground:=Ground.chain },{ on:=0,ground:=Ground.phase },
                              { on:=1,ground:=Ground.phase },{ on:=2,ground:=Ground.phase },
                              { on:=3,ground:=Ground.phase },{ on:=4,ground:=Ground.phase },
                              { on:=5,ground:=Ground.phase },{ on:=6,ground:=Ground.phase },
                              { on:=7,ground:=Ground.phase },{ on:=8,ground:=Ground.phase },
                              { on:=9,ground:=Ground.phase },{ on:=10,ground:=Ground.phase },
                              { on:=11,ground:=Ground.phase },{ on:=12,ground:=Ground.phase },
                              { on:=13,ground:=Ground.phase }],
                          guard:=none }]
   true) Q ⟨#[.pointer (some ⟨g,o,none⟩),u1,u2,u3,u4,.pointer (some ⟨b,0,none⟩),u6,u7,u8,u9,u10,u11,u12,u13,u14,u15,u16,u17,u18,u19,u20,u21,u22,u23,u24,u25,u26,u27,u28,u29,u30,u31,u32,u33,u34,u35,u36,u37,u38,u39,u40,u41,u42,u43,u44,u45,u46,u47,u48,u49,u50,u51,u52,u53,u54,u55,u56,u57,u58,u59,u60],[]⟩ w3:=by
  refine wp_region_held_drew (S:=λ w'=>w'.cell? ⟨g,o+2,none⟩=some (.pointer (some ⟨bp,0,none⟩))) (by kernel_rfl) e2 (λ OM=>?_)
  refine wpAnyH_take (i:=0) (v:=?v1) rfl (by kernel_rfl) (by kernel_rfl) (by kernel_rfl) (λ c a w h=>Aq c a _ _ w h) (Or.inl ⟨by rfl,?hy1⟩) (by assumption) ?Vj
  case hy1=>(intro w fY; (try dsimp only at fY); (go_simp<;>with_reducible rfl))
  try simp only [Act.put,List.setIfInBounds_toArray,List.set_cons_zero,List.set_cons_succ]
  refine wpAnyH_take (i:=1) (v:=?v2) rfl (by kernel_rfl) (by kernel_rfl) (by kernel_rfl) (λ c a w h=>Aq c a _ _ w h) (Or.inl ⟨by rfl,?hy2⟩) (by assumption) ?Vk
  case hy2=>(intro w fY; (try dsimp only at fY); (go_simp<;>with_reducible rfl))
  try simp only [Act.put,List.setIfInBounds_toArray,List.set_cons_zero,List.set_cons_succ]
  refine wpAnyH_take (i:=2) (v:=?v3) rfl (by kernel_rfl) (by kernel_rfl) (by kernel_rfl) (λ c a w h=>Aq c a _ _ w h) (Or.inl ⟨by rfl,?hy3⟩) (by assumption) ?Vl
  case hy3=>(intro w fY; (try dsimp only at fY); (go_simp<;>with_reducible rfl))
  try simp only [Act.put,List.setIfInBounds_toArray,List.set_cons_zero,List.set_cons_succ]
  refine wpAnyH_take (i:=3) (v:=?v4) rfl (by kernel_rfl) (by kernel_rfl) (by kernel_rfl) (λ c a w h=>Aq c a _ _ w h) (Or.inl ⟨by rfl,?hy4⟩) (by assumption) ?Vm
  case hy4=>(intro w fY; (try dsimp only at fY); (go_simp<;>with_reducible rfl))
  try simp only [Act.put,List.setIfInBounds_toArray,List.set_cons_zero,List.set_cons_succ]
  refine wpAnyH_take (i:=4) (v:=?v5) rfl (by kernel_rfl) (by kernel_rfl) (by kernel_rfl) (λ c a w h=>Aq c a _ _ w h) (Or.inl ⟨by rfl,?hy5⟩) (by assumption) ?Vn
  case hy5=>(intro w fY; (try dsimp only at fY); (go_simp<;>with_reducible rfl))
  try simp only [Act.put,List.setIfInBounds_toArray,List.set_cons_zero,List.set_cons_succ]
  refine wpAnyH_take (i:=5) (v:=?v6) rfl (by kernel_rfl) (by kernel_rfl) (by kernel_rfl) (λ c a w h=>Aq c a _ _ w h) (Or.inl ⟨by rfl,?hy6⟩) (by assumption) ?Vo
  case hy6=>(intro w fY; (try dsimp only at fY); (go_simp<;>with_reducible rfl))
  try simp only [Act.put,List.setIfInBounds_toArray,List.set_cons_zero,List.set_cons_succ]
  refine wpAnyH_take (i:=6) (v:=?v7) rfl (by kernel_rfl) (by kernel_rfl) (by kernel_rfl) (λ c a w h=>Aq c a _ _ w h) (Or.inl ⟨by rfl,?hy7⟩) (by assumption) ?Vp
  case hy7=>(intro w fY; (try dsimp only at fY); (go_simp<;>with_reducible rfl))
  try simp only [Act.put,List.setIfInBounds_toArray,List.set_cons_zero,List.set_cons_succ]
  refine wpAnyH_take (i:=7) (v:=?v8) rfl (by kernel_rfl) (by kernel_rfl) (by kernel_rfl) (λ c a w h=>Aq c a _ _ w h) (Or.inl ⟨by rfl,?hy8⟩) (by assumption) ?Vq
  case hy8=>(intro w fY; (try dsimp only at fY); (go_simp<;>with_reducible rfl))
  try simp only [Act.put,List.setIfInBounds_toArray,List.set_cons_zero,List.set_cons_succ]
  refine wpAnyH_take (i:=8) (v:=?v9) rfl (by kernel_rfl) (by kernel_rfl) (by kernel_rfl) (λ c a w h=>Aq c a _ _ w h) (Or.inl ⟨by rfl,?hy9⟩) (by assumption) ?Vr
  case hy9=>(intro w fY; (try dsimp only at fY); (go_simp<;>with_reducible rfl))
  try simp only [Act.put,List.setIfInBounds_toArray,List.set_cons_zero,List.set_cons_succ]
  refine wpAnyH_take (i:=9) (v:=?v10) rfl (by kernel_rfl) (by kernel_rfl) (by kernel_rfl) (λ c a w h=>Aq c a _ _ w h) (Or.inl ⟨by rfl,?hy10⟩) (by assumption) ?QN
  case hy10=>(intro w fY; (try dsimp only at fY); (go_simp<;>with_reducible rfl))
  try simp only [Act.put,List.setIfInBounds_toArray,List.set_cons_zero,List.set_cons_succ]
  refine wpAnyH_take (i:=11) (v:=?v11) rfl (by kernel_rfl) (by kernel_rfl) (by kernel_rfl) (λ c a w h=>Aq c a _ _ w h) (Or.inl ⟨by rfl,?hy11⟩) (by assumption) ?QO
  case hy11=>(intro w fY; (try dsimp only at fY); (go_simp<;>with_reducible rfl))
  try simp only [Act.put,List.setIfInBounds_toArray,List.set_cons_zero,List.set_cons_succ]
  refine wpAnyH_ready (rs:=[10,12]) (by kernel_rfl) (by simp) ?_
  refine AllReadyH.cons rfl (λ K hK=>?_) ?_
  · go_simp
    refine hK.out _ _ e2 (λ zz=>?_)
    clear hK K
    try simp only [Act.put,List.setIfInBounds_toArray,List.set_cons_zero,List.set_cons_succ]
    refine wpAnyH_ready (rs:=[12]) (by kernel_rfl) (by simp) ?_
    refine AllReadyH.cons rfl (λ K hK=>?_) AllReadyH.nil
    go_simp
    refine hK.out _ _ UN (λ zA=>?_)
    clear hK K
    try simp only [Act.put,List.setIfInBounds_toArray,List.set_cons_zero,List.set_cons_succ]
    refine wpAnyH_ready (rs:=[13]) (by kernel_rfl) (by simp) ?_
    refine AllReadyH.cons rfl (λ K hK=>?_) AllReadyH.nil
    refine step_append_lies _ rfl (.tmp 54) (.tmp 56) 74 rfl 0 71 i0 _ 1 8 Tryz.underlying74 HI.out ia.out gO.out ic.out rfl (by decide) (.slice a2 n2 c2) n2 UO rfl HOr.out ⟨w3.heap.size,0,none⟩ 1 1 [.pointer (some ⟨b,0,none⟩)] rfl rfl Qo.out Bk.out (by omega) (by unfold maxLen; omega) (by omega) (by omega) _ rfl ?_
    intro g4 jr w4 b7 iN Jc _
    have B4:=P4.out w4 iN
    have f4:=B4.fz
    have d4:=B4.cell 8
    simp [ld] at d4
    have d2:=G4.out w4 iN
    have d5:=G5.out w4 iN
    have F4:=aa (Bj.out g4 jr w4 b7 iN Jc)
    clear B4 b7 iN Jc
    refine hK.out _ _ d2 (λ zB=>?_)
    clear hK K
    try simp only [Act.put,List.setIfInBounds_toArray,List.set_cons_zero,List.set_cons_succ]
    refine wpAnyH_take (i:=14) (v:=?v12) rfl (by kernel_rfl) (by kernel_rfl) (by kernel_rfl) (λ c a w h=>Aq c a _ _ w h) (Or.inl ⟨by rfl,?hy12⟩) (by assumption) ?QS
    case hy12=>(intro w fY; (try dsimp only at fY); (go_simp<;>with_reducible rfl))
    try simp only [Act.put,List.setIfInBounds_toArray,List.set_cons_zero,List.set_cons_succ]
    refine wpAnyH_take (i:=15) (v:=?v13) rfl (by kernel_rfl) (by kernel_rfl) (by kernel_rfl) (λ c a w h=>Aq c a _ _ w h) (Or.inl ⟨by rfl,?hy13⟩) (by assumption) ?QT
    case hy13=>(intro w fY; (try dsimp only at fY); (go_simp<;>with_reducible rfl))
    try simp only [Act.put,List.setIfInBounds_toArray,List.set_cons_zero,List.set_cons_succ]
    refine wpAnyH_ready (rs:=[16]) (by kernel_rfl) (by simp) ?_
    refine AllReadyH.cons rfl (λ K hK=>?_) AllReadyH.nil
    go_simp
    refine hK.out _ _ (d5 _) (λ zC=>?_)
    clear hK K
    refine wpAnyH_done (by kernel_rfl) ?_ _
    exact F4.out
  refine AllReadyH.cons rfl (λ K hK=>?_) AllReadyH.nil
  go_simp
  refine hK.out _ _ UN (λ zz=>?_)
  clear hK K
  try simp only [Act.put,List.setIfInBounds_toArray,List.set_cons_zero,List.set_cons_succ]
  refine wpAnyH_ready (rs:=[10]) (by kernel_rfl) (by simp) ?_
  refine AllReadyH.cons rfl (λ K hK=>?_) AllReadyH.nil
  go_simp
  refine hK.out _ _ UN (λ zA=>?_)
  clear hK K
  try simp only [Act.put,List.setIfInBounds_toArray,List.set_cons_zero,List.set_cons_succ]
  refine wpAnyH_ready (rs:=[13]) (by kernel_rfl) (by simp) ?_
  refine AllReadyH.cons rfl (λ K hK=>?_) AllReadyH.nil
  refine step_append_lies _ rfl (.tmp 54) (.tmp 56) 74 rfl 0 71 i0 _ 1 8 Tryz.underlying74 HI.out ia.out gO.out ic.out rfl (by decide) (.slice a2 n2 c2) n2 UO rfl HOr.out ⟨w3.heap.size,0,none⟩ 1 1 [.pointer (some ⟨b,0,none⟩)] rfl rfl Qo.out Bk.out (by omega) (by unfold maxLen; omega) (by omega) (by omega) _ rfl ?_
  intro g4 jr w4 b7 iN Jc _
  have B4:=P4.out w4 iN
  have f4:=B4.fz
  have d4:=B4.cell 8
  simp [ld] at d4
  have d2:=G4.out w4 iN
  have d5:=G5.out w4 iN
  have F4:=aa (Bj.out g4 jr w4 b7 iN Jc)
  clear B4 b7 iN Jc
  refine hK.out _ _ d2 (λ zB=>?_)
  clear hK K
  try simp only [Act.put,List.setIfInBounds_toArray,List.set_cons_zero,List.set_cons_succ]
  refine wpAnyH_take (i:=14) (v:=?v14) rfl (by kernel_rfl) (by kernel_rfl) (by kernel_rfl) (λ c a w h=>Aq c a _ _ w h) (Or.inl ⟨by rfl,?hy14⟩) (by assumption) ?QU
  case hy14=>(intro w fY; (try dsimp only at fY); (go_simp<;>with_reducible rfl))
  try simp only [Act.put,List.setIfInBounds_toArray,List.set_cons_zero,List.set_cons_succ]
  refine wpAnyH_take (i:=15) (v:=?v15) rfl (by kernel_rfl) (by kernel_rfl) (by kernel_rfl) (λ c a w h=>Aq c a _ _ w h) (Or.inl ⟨by rfl,?hy15⟩) (by assumption) ?QV
  case hy15=>(intro w fY; (try dsimp only at fY); (go_simp<;>with_reducible rfl))
  try simp only [Act.put,List.setIfInBounds_toArray,List.set_cons_zero,List.set_cons_succ]
  refine wpAnyH_ready (rs:=[16]) (by kernel_rfl) (by simp) ?_
  refine AllReadyH.cons rfl (λ K hK=>?_) AllReadyH.nil
  go_simp
  refine hK.out _ _ (d5 _) (λ zC=>?_)
  clear hK K
  refine wpAnyH_done (by kernel_rfl) ?_ _
  exact F4.out
def gP (t:Tok):Array Value:=#[.int .i64 (t.k:Nat),.int .i64 (t.of:Nat),.int .i64 (t.ai:Nat),.int .i64 (t.to:Nat),.int .i64 t.n,.string (bZ (fK t.k t.t))]
theorem Lq {X:Type} {g:Nat} {T:TypeId} {o:Nat} {gc:X->Value->Value->Value->Array Value} {fb fc:Value} {S:World->(Nat->Prop)->X->Prop} {bk:X->Bool} {bg cl:X->List Fm->Fm->Nat->X->Prop} {kJ:X->List Fm->Fm->Nat->Prop} {pO:X->List Fm->Fm->(Nat->Nat)->Prop} (hL:wz T o fb fc gc) (hG:Kn g T gc fb fc S bk bg cl kJ pO)
 {w:World} {gs:Gs} {x:X} {A:Nat->Nat} {C M D:Nat->Prop} {t:Tok} (h:GI g T gc S w gs x A C M D) (hk:t.k=2) :
 Calls Tryz.prog 53 #[.pointer (some ⟨g,o,none⟩),gD t] w (Li g T gc S bk bg cl x gs t A C M D w):=by
 obtain ⟨w0,hw0⟩:∃w0,w0=w.alloc (.cells (gP t) 108):=⟨_,rfl⟩
 have pg:ay w0 w.heap.size (gP t) 108:=by rw [hw0]; exact ay.new w _ _
 have K0:ak w w0:=by rw [hw0]; exact (Fr.refl _ w).alloc _
 have h0:=h.keeps hG K0
 have fz:=h0.b.fz
 have g3:=hL.c3 h0.b
 have Yo:w0.cell? ⟨w.heap.size,0,none⟩=some (.int .i64 (t.k:Nat)):=pg.cell 0
 have Qm:w0.cell? ⟨w.heap.size,5,none⟩=some (.string (bZ (fK t.k t.t))):=pg.cell 5
 have etx:fK t.k t.t=t.t:=by unfold fK; rw [if_neg (by omega)]
 rw [etx] at Qm
 have n0:((t.k:Int) == 0)=false:=by rw [hk]; decide
 have n1:((t.k:Int) == 1)=false:=by rw [hk]; decide
 have n2:((t.k:Int) == 2)=true:=by rw [hk]; decide
 have Bj:Hid (Li g T gc S bk bg cl x gs t A C M D w (.returned (.tuple #[])) (w0.setCell ⟨g,o+3,none⟩ (.string (bZ t.t)))):=by
  have f0:Fr (λ k=>k=g) w0 (w0.setCell ⟨g,o+3,none⟩ (.string (bZ t.t))):=(Fr.refl (λ k=>k=g) w0).setCell ⟨g,o+3,none⟩ (Or.inl rfl) _
  have eg:aR gs t (bk x)={ gs with nm:=t.t }:=by unfold aR; rw [if_neg (by omega),if_neg (by omega),if_pos hk]
  have ex:gX bk bg cl x gs t A w.heap.size x:=by unfold gX; rw [if_neg (by omega),if_neg (by omega),if_pos hk]
  refine ⟨rfl,A,C,M,D,x,ex,?_,λ_ _=>rfl,λ k hk=>?_,(K0.mono (λ_ _ e=>e.elim)).trans (f0.mono (λ k _ e=>Or.inr (Or.inr e)))⟩
  ·rw [eg]
   exact ⟨hG.keep h0.s (λ k hk=>f0.block k (hG.lt h0.s hk) (λ e=>(h0.dj k hk).2.2 e)) f0.size,hL.s3 _ h0.b,h0.m.fr h0.c f0 (λ k e=>by rw [e]; exact h0.g),⟨h0.ok.len,h0.ok.ix,h0.ok.bd,h0.ok.ws⟩,h0.p,λ k hk=>Nat.lt_of_lt_of_le (h0.c k hk) f0.size,h0.dj,h0.g,λ e t ht=>⟨(h0.l e t ht).1.imp (λ_ y=>⟨y.1,y.2.keep (λ k hk=>f0.block k (h0.c k hk) (λ e=>h0.g.2 (e▸hk)))⟩),(h0.l e t ht).2⟩⟩
  rcases hk with e | e | e
  ·exact Or.inl e
  ·exact Or.inr (Or.inl e)
  exact Or.inr (Or.inr (Or.inl e))
 have Gb:Hid (w0=w.alloc (.cells #[.int .i64 (t.k:Nat),.int .i64 (t.of:Nat),.int .i64 (t.ai:Nat),.int .i64 (t.to:Nat),.int .i64 t.n,.string (bZ (fK t.k t.t))] 108)):=hw0
 rw [hw0] at fz g3 Yo Qm
 unfold gP at fz g3 Yo Qm
 have ETX:=aa etx
 clear hw0 pg K0 h0 h hk hL hG etx
 unfold gD
 go_enter Tryz.func53,Tryz.ntmps53
 go_wp2
 go_end0
 rw [<-Gb.out]
 exact Bj.out
theorem Lp {X:Type} {g:Nat} {T:TypeId} {o:Nat} {gc:X->Value->Value->Value->Array Value} {fb fc:Value} {S:World->(Nat->Prop)->X->Prop} {bk:X->Bool} {bg cl:X->List Fm->Fm->Nat->X->Prop} {kJ:X->List Fm->Fm->Nat->Prop} {pO:X->List Fm->Fm->(Nat->Nat)->Prop} (hL:wz T o fb fc gc) (hG:Kn g T gc fb fc S bk bg cl kJ pO)
 {w:World} {gs:Gs} {x:X} {A:Nat->Nat} {C M D:Nat->Prop} {t:Tok} (h:GI g T gc S w gs x A C M D) (hk:t.k=1) (ht:f_ gs.sh t) (hmk:lg gs (bk x)) (rX:∀f r,gs.st=f::r->pO x r (Fm.ends f t.to) A) :
 Calls Tryz.prog 53 #[.pointer (some ⟨g,o,none⟩),gD t] w (Li g T gc S bk bg cl x gs t A C M D w):=by
 obtain ⟨f,r,hst⟩:∃f r,gs.st=f::r:=by
  have:=ht.k1 hk
  cases hs:gs.st with
  | nil=>simp [Gs.sh,hs] at this
  | cons f r=>exact ⟨f,r,rfl⟩
 obtain ⟨w0,hw0⟩:∃w0,w0=w.alloc (.cells (gP t) 108):=⟨_,rfl⟩
 have pg:ay w0 w.heap.size (gP t) 108:=by rw [hw0]; exact ay.new w _ _
 have K0:ak w w0.drew:=by rw [hw0]; exact ((Fr.refl _ w).alloc _).drew
 have h0:=h.keeps hG K0
 have Yo:w0.cell? ⟨w.heap.size,0,none⟩=some (.int .i64 (t.k:Nat)):=pg.cell 0
 have tc3:w0.cell? ⟨w.heap.size,3,none⟩=some (.int .i64 (t.to:Nat)):=pg.cell 3
 have g2:w0.cell? ⟨g,o+2,none⟩=some (.pointer (some ⟨A f.d.ai,0,none⟩)):=by
  have:=hL.c2 (w:=w0.drew) h0.b
  rw [hst] at this
  exact this
 have wv:=h.ok.ws
 rw [hst] at wv
 have fL:=qf h.ok ht hmk
 have Oq:r.length<=8:=by have:=h.ok.len; rw [hst] at this; simp at this; omega
 have aa':=h.ok.ix
 have aba:=h.ok.bd
 have hm0:=h0.m
 rw [hst] at hm0
 have Bi:=h0.p
 rw [hst] at Bi
 have eg:aR gs t (bk x)=dQ gs f r t.to:=by unfold aR; rw [if_neg (by omega),if_pos hk,hst]
 have ex:∀A x',gX bk bg cl x gs t A w.heap.size x'=cl x r (Fm.ends f t.to) (A f.d.ai) x':=λ A x'=>by unfold gX; rw [if_neg (by omega),if_pos hk,hst]
 have CL:=aa (Bf hL hG h0.s h0.b hm0 Oq h0.c h0.dj h0.g (by have:=wv.2.1; have:=wv.2.2.1; omega) t.to (rX f r hst))
 have wo:Hid (∀res w',ClP g T gc S A C gs.bd (Fm.ends f t.to) r M D (cl x r (Fm.ends f t.to) (A f.d.ai)) (.string (bZ gs.nm)) w0.drew res w'->Li g T gc S bk bg cl x gs t A C M D w res w'):=λ res w' hr=>by
  obtain ⟨q1,D',x',qx,q2,q3,q4,q5,q6⟩:=hr
  have hC':∀k,C k->k<w'.heap.size:=λ k hk=>Nat.lt_of_lt_of_le (h0.c k hk) q6.size
  have abb:∀k,D' k->¬M k/\¬C k/\k≠g:=λ k hk=>by
   rcases q5 k hk with e | e
   ·exact h0.dj k e
   refine ⟨λ y=>?_,λ y=>?_,λ y=>?_⟩
   ·have:=(h0.m.lt k y).1; omega
   ·have:=h0.c k y; omega
   have:=h0.b.lt; omega
  obtain ⟨C',M',c1,c2,c3⟩:=gi_close (gs:=aR gs t (bk x)) (f:=f) q2 q3 q4 Oq (by have:=wv.2.1; have:=wv.2.2.1; omega) (by have:=wv.1; omega) wv.2.2.2.2.1 Bi.1 Bi.2 hC' abb h0.g (by rw [eg]; rfl) fL
  refine ⟨q1,A,C',M',D',x',by rw [ex]; exact qx,c1,λ_ _=>rfl,λ k hk=>?_,(K0.mono (λ_ _ e=>e.elim)).trans q6⟩
  rcases hk with e | e | e
  ·rcases q5 k e with y | y
   ·exact Or.inl y
   exact Or.inr (Or.inr (Or.inr (Nat.le_trans K0.size y)))
  ·exact Or.inr (Or.inl (c3 k e))
  rcases c2 k e with y | y
  ·exact Or.inr (Or.inr (Or.inl y))
  exact Or.inr (Or.inl y)
 have n0:((t.k:Int) == 0)=false:=by rw [hk]; decide
 have n1:((t.k:Int) == 1)=true:=by rw [hk]; decide
 have Gb:Hid (w0=w.alloc (.cells #[.int .i64 (t.k:Nat),.int .i64 (t.of:Nat),.int .i64 (t.ai:Nat),.int .i64 (t.to:Nat),.int .i64 t.n,.string (bZ (fK t.k t.t))] 108)):=hw0
 clear hw0 pg K0 h0 h hk hL hG wv fL Oq hm0 Bi eg ex ht hmk rX hst aa' aba
 unfold gD
 unfold nG at CL
 go_enter Tryz.func53,Tryz.ntmps53
 go_wp2
 rw [<-Gb.out]
 go_region_with (go_at_call 73; refine CL.out.mono ?_; intro res w1 hr; have FR:=aa (wo.out res w1 hr); obtain ⟨rfl,_⟩:=hr)
 all_goals
  go_wp2
  go_end0
  exact FR.out
theorem Jd {w:World} (v:Value):Calls Tryz.prog 50 #[v] w λ r w'=>r=.returned (.bool true)/\w'=w:=by
 go_enter Tryz.func50,Tryz.ntmps50
 go_wp2
 go_ret
 exact ⟨rfl,rfl⟩
theorem Je {w:World} {lb b:Nat} {po:Option Addr} (h:ay w lb #[.pointer po] 71):Calls Tryz.prog 51 #[.pointer (some ⟨b,0,none⟩),.pointer (some ⟨lb,0,none⟩)] w λ r w'=>r=.returned (.tuple #[])/\ay w' lb #[.pointer (some ⟨b,0,none⟩)] 71/\Fr (λ k=>k=lb) w w':=by
 have c0:w.cell? ⟨lb,0,none⟩=some (.pointer po):=h.cell 0
 have fz:=h.fz
 have B1:=aa (h.set 0 (.pointer (some ⟨b,0,none⟩)))
 have F1:Hid (Fr (λ k=>k=lb) w (w.setCell ⟨lb,0,none⟩ (.pointer (some ⟨b,0,none⟩)))):=(Fr.refl (λ k=>k=lb) w).setCell ⟨lb,0,none⟩ (Or.inl rfl) _
 clear h
 go_enter Tryz.func51,Tryz.ntmps51
 go_wp2
 go_end0
 exact ⟨rfl,B1.out,F1.out⟩
def TH:Value:=.func (.func 50) #[] #[]
def TI (lb:Nat):Value:=.func (.func 51) #[] #[.pointer (some ⟨lb,0,none⟩)]
def ZL (lb:Nat) (_:Option Addr) (a b c:Value):Array Value:=#[TH,TI lb,a,b,c]
def rS (lb:Nat) (w:World) (D:Nat->Prop) (x:Option Addr):Prop:=(∀k,D k↔k=lb)/\ay w lb #[.pointer x] 71
theorem UR (lb:Nat):wz 119 0 TH (TI lb) (ZL lb) where
 c0:=λ h=>h.cell 0
 c1:=λ h=>h.cell 1
 c2:=λ h=>h.cell 2
 c3:=λ h=>h.cell 3
 c4:=λ h=>h.cell 4
 s2:=λ v h=>h.set 2 v
 s3:=λ v h=>h.set 3 v
 s4:=λ v h=>h.set 4 v
theorem Qq (lb g:Nat):Kn g 119 (ZL lb) TH (TI lb) (rS lb) (λ_=>true) (λ x _ _ _ x'=>x'=x) (λ_ _ _ b x'=>x'=some ⟨b,0,none⟩) (λ_ _ _ _=>True) (λ_ _ _ _=>True) where
 lt:=λ h hk=>by rw [(h.1 _).1 hk]; exact h.2.lt
 keep:=λ h s _=>⟨h.1,(s _ ((h.1 _).2 rfl)).trans h.2⟩
 FZ:=⟨_,_,_,rfl,λ_ _=>Tryz.call50 _ _,λ{w D x A C bd r f M a b c} hS hB _ _ _ _ _ _=>by
  refine (Jd (w:=w) (nG (A f.d.ai))).mono ?_
  rintro res w' ⟨rfl,rfl⟩
  exact ⟨rfl,D,_,rfl,hS,hB,λ k=>Or.inl,Fr.refl _ _⟩⟩
 closed:=⟨_,_,_,rfl,λ_ _=>Tryz.call51 _ _,λ{w D x A C bd r f M a b c} hS hB _ _ _ wB _ _=>by
  refine (Je (b:=A f.d.ai) hS.2).mono ?_
  rintro res w' ⟨rfl,h1,h2⟩
  have hlb:=(hS.1 lb).2 rfl
  refine ⟨rfl,D,_,rfl,⟨hS.1,h1⟩,hB.fr h2 (λ e=>(wB lb hlb).2.2 e.symm),λ k=>Or.inl,h2.mono (λ k _ e=>Or.inl ((hS.1 k).2 e))⟩⟩
def tlc (tl:List Ct):List Value:=(List.range 11).flatMap (λ i=>[.int .i64 ((eZ tl i).pN:Nat),.int .i64 ((eZ tl i).al:Nat)])
def fwc (c0 c1 c2 c3 c4 c5 c6 c7 c8:Value):Array Value:=#[c0,c1,c2,c3,c4,c5,c6,c7,c8]
def Lw (p:List UInt8) (ai to k:Nat):List Value:=[.string (bZ p),.int .i64 (ai:Nat),.int .i64 (to:Nat),.int .i64 (k:Nat)]
def TS (k:Nat):Prop:=k=6\/k=0\/k=1
end Go.Proofs.YtcbadebjpogmlaaGreatDoor
