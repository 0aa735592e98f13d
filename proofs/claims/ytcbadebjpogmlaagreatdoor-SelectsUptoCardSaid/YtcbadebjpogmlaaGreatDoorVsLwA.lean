import Derived.Test.YtcbadebjpogmlaaGreatDoorVsLawA
import Derived.Test.YtcbadebjpogmlaaGreatDoorVsTyL
import Derived.Test.YtcbadebjpogmlaaGreatDoorVsRrG
import Derived.Test.YtcbadebjpogmlaaGreatDoorVsFa
import Derived.Test.YtcbadebjpogmlaaGreatDoorVsAa
import Derived.Deep.RegionHeldLaw
set_option maxHeartbeats 8000000
set_option maxRecDepth 100000
namespace Go.Proofs.YtcbadebjpogmlaaGreatDoor
open Go.RowKit Tr
def dG (l:List Value):Nat->List Value
 | 0=>[]
 | n+1=>dG l n++l
theorem iE (l:List Value):∀n,(dG l n).length=n * l.length
 | 0=>by simp [dG]
 | n+1=>by rw [dG,List.length_append,iE l n,Nat.succ_mul]
theorem mI (l:List Value) (n:Nat):∀m,dG l n++dG l m=dG l (n+m)
 | 0=>by simp [dG]
 | m+1=>by rw [dG,<-List.append_assoc,mI l n m]; rfl
theorem C5 (l:List Value) {n m:Nat} (h:n<=m):(dG l m).take (n * l.length)=dG l n:=by
 obtain ⟨k,rfl⟩:∃k,m=n+k:=⟨m - n,by omega⟩
 rw [<-mI,<-iE l n,List.take_left']
 rfl
theorem Gy (l:List Value) {n i j:Nat} (hi:i<n) (hj:j<l.length):(dG l n)[i * l.length+j]?=l[j]?:=by
 obtain ⟨k,rfl⟩:∃k,n=(i+1)+k:=⟨n - (i+1),by omega⟩
 rw [<-mI,List.getElem?_append_left (by rw [iE,Nat.succ_mul]; omega),dG,List.getElem?_append_right (by rw [iE]; omega),iE]
 congr 1
 omega
theorem qs (l:List Value) (h:∀u ∈ l,u.oneCell'=true):∀n,∀u ∈ dG l n,u.oneCell'=true
 | 0,u,hu=>by cases hu
 | n+1,u,hu=>by
  rcases List.mem_append.1 hu with y | y
  ·exact qs l h n u y
  exact h u y
theorem Gz {w:World} {B:Nat} {e:TypeId} {sz g N cap n:Nat} {xs:List Value} (h:w.ownsRow B e sz (.slice (some ⟨g,0,none⟩) N cap) N xs) (hn:n<=N):w.ownsRow B e sz (.slice (some ⟨g,0,none⟩) n cap) n (xs.take (n * sz)):=by
 have hm:n * sz<=N * sz:=Nat.mul_le_mul_right _ hn
 rcases h.2 with ⟨x,_⟩ | ⟨g',cap',cur,h1,h2,h3,h4,h5,h6,h7⟩
 ·cases x
 simp only [Value.slice.injEq,Option.some.injEq,Addr.mk.injEq,and_true,true_and] at h1
 obtain ⟨rfl,rfl⟩:=h1
 refine ⟨by rw [List.length_take,h.1]; omega,Or.inr ⟨g,cap,cur,rfl,h2,h3,by omega,h5,h6,?_⟩⟩
 rw [<-h7,List.take_take,Nat.min_eq_left hm]
def Ly (w w':World) (v v':Value) (n m:Nat):Prop:=(∃g cap,v=.slice (some ⟨g,0,none⟩) n cap/\v'=.slice (some ⟨g,0,none⟩) (n+m) cap)\/(v'.ownBlock=some w.heap.size/\∀k,k<w.heap.size->w'.heap[k]?=w.heap[k]?)
theorem GA {P:Program} (w:World) (base:Nat) (t ty e:TypeId) (i:TypeInfo) (z:Value) (size bytes:Nat) (ht:P.underlying t=some (.slice e)) (hi:P.info? e=some i) (hz:i.zero=some z)
 (hsize:i.size=size) (hby:i.bytes=bytes) (hzs:z.cells.size=size) (hsz:0<size)
 (v:Value) (n:Nat) (xs:List Value) (hown:w.ownsRow base e size v n xs)
 (a:Addr) (m c:Nat) (news:List Value) (hl:news.length=m * size) (hnews:∀j u,news[j]?=some u->w.cell? (a.add j)=some u) (h1:∀u ∈ news,u.oneCell'=true)
 (hm:0<m) (h63:n+m<=maxLen) (hbytes:(n+m) * bytes<=140737488355328) (hbase:base<=w.heap.size) :
 ∃v' w',(Builtin.append_ #[t,t] ty #[v,.slice (some a) m c]).run P w=.ok v' w'/\w'.ownsRow base e size v' (n+m) (xs++news)/\w.grownBy w' v.ownBlock/\Ly w w' v v' n m/\(v'.ownBlock=v.ownBlock\/v'.ownBlock=some w.heap.size):=by
 obtain ⟨v',w',hr,h2,h3,_,h5⟩:=run_append_own_at (P:=P) w base t ty e i z size bytes ht hi hz hsize hby hzs hsz v n xs hown a m c news hl hnews h1 h63 hbytes hbase
 refine ⟨v',w',hr,h2,h3,?_,h5⟩
 subst hsize
 subst hby
 have agU:n+m<=9223372036854775807:=by unfold maxLen at h63; omega
 rcases hown.2 with ⟨rfl,rfl⟩ | ⟨g,cap,cur,rfl,Bg,hg,hnc,hcm,hcs,Bq⟩
 ·have hr2:=run_append_nil (P:=P) w t ty e i z ht hi hz a m c news hl hnews hm (by omega) (by have hb:=hbytes; simp only [Nat.zero_add] at hb; omega)
  rw [hr] at hr2
  injection hr2 with e1 e2
  subst e1 e2
  exact Or.inr ⟨rfl,λ k hk=>Below.heap_alloc w.drew _ k hk⟩
 by_cases hroom:n+m<=cap
 ·have hfit:n * i.size+news.length<=cur.size:=by rw [hl,hcs,<-Nat.add_mul]; exact Nat.mul_le_mul_right _ hroom
  have hr2:=run_append_room (P:=P) w t ty e i ht hi g n cap cur hg a m c news hl hnews h1 hroom hfit
  rw [hr] at hr2
  injection hr2 with e1 e2
  exact Or.inl ⟨g,cap,rfl,e1⟩
 have holds:∀j u,xs[j]?=some u->w.cell? ((⟨g,0,none⟩:Addr).add j)=some u:=hown.cells (g:=g) rfl
 have hr2:=run_append_grow (P:=P) w t ty e i z ht hi hz ⟨g,0,none⟩ n cap xs hown.1 holds a m c news hl hnews (by omega) (by omega) (growslice_fits (by omega) hbytes)
 rw [hr] at hr2
 injection hr2 with e1 e2
 subst e1 e2
 exact Or.inr ⟨rfl,λ k hk=>Below.heap_alloc w.drew _ k hk⟩
theorem kQ {P:Program} {w:World} {ops:Array Oper} {rest:List Oper} {o:Oper} {a:Act} {Q:Exit->Act->World->Prop} (hgd:o.guard=none) (s x:Operand) (t:TypeId)
 (ho:o.op=.call { callee:=.builtin .append,args:=#[s,x],argTypes:=#[t,t] })
 (base:Nat) (e:TypeId) (i:TypeInfo) (z:Value) (size bytes:Nat) (ht:P.underlying t=some (.slice e)) (hi:P.info? e=some i) (hz:i.zero=some z)
 (hsize:i.size=size) (hby:i.bytes=bytes) (hzs:z.cells.size=size) (hsz:0<size)
 (v:Value) (n:Nat) (xs:List Value) (hs:a.eval s=v) (hown:w.ownsRow base e size v n xs)
 (ad:Addr) (m c:Nat) (news:List Value) (hx:a.eval x=.slice (some ad) m c) (hl:news.length=m * size) (hnews:∀j u,news[j]?=some u->w.cell? (ad.add j)=some u) (h1:∀u ∈ news,u.oneCell'=true)
 (hm:0<m) (h63:n+m<=maxLen) (hbytes:(n+m) * bytes<=140737488355328) (hbase:base<=w.heap.size)
 (h:∀v' w',w'.ownsRow base e size v' (n+m) (xs++news)->w.grownBy w' v.ownBlock->Ly w w' v v' n m->(v'.ownBlock=v.ownBlock\/v'.ownBlock=some w.heap.size)->wpList P ops Q rest (a.put o.dst v') w') :
 wpList P ops Q (o::rest) a w:=by
 refine wpList_plain hgd λ K hK=>?_
 obtain ⟨v',w',hr,h2,h3,h4,h5⟩:=GA (P:=P) w base t o.type e i z size bytes ht hi hz hsize hby hzs hsz v n xs hown ad m c news hl hnews h1 hm h63 hbytes hbase
 unfold Oper.wp execOp
 simp only [ho,resolve,invoke,builtin,Sem.run_bind,Sem.run_pure,Result.andThen_ok,List.map_toArray,List.map_cons,List.map_nil,hs,hx,hr]
 exact hK _ _ (h v' w' h2 h3 h4 h5)
theorem qu {w w':World} {B:Nat} {e:TypeId} {sz:Nat} (hsz:0<sz) {mk:List Value} (hmk:mk.length=sz) {lv v':Value} {n m:Nat} (hl:w.ownsRow B e sz lv n (dG mk n)) (ho:w'.ownsRow B e sz v' (n+m) (dG mk (n+m))) (hg:w.grownBy w' lv.ownBlock) (hf:Ly w w' lv v' n m)
 {sv:Value} {k:Nat} (h:w.ownsRow B e sz sv k (dG mk k)) (hk:sv.ownBlock=lv.ownBlock->k<=n+m):w'.ownsRow B e sz sv k (dG mk k):=by
 rcases hf with ⟨g,cap,rfl,rfl⟩ | ⟨_,hb⟩
 ·by_cases hs:sv.ownBlock=some g
  ·rcases h.2 with ⟨rfl,_⟩ | ⟨g',cap',cur,rfl,h2,h3,h4,h5,h6,h7⟩
   ·cases hs
   have eg:g'=g:=Option.some.inj hs
   subst eg
   rcases hl.2 with ⟨x,_⟩ | ⟨g2,cap2,ZZ,x1,x2,x3,x4,x5,x6,x7⟩
   ·cases x
   simp only [Value.slice.injEq,Option.some.injEq,Addr.mk.injEq,and_true,true_and] at x1
   obtain ⟨rfl,rfl⟩:=x1
   rw [h3] at x3
   simp only [Option.some.injEq,Obj.cells.injEq,and_true] at x3
   subst x3
   have ec:cap'=cap:=by
    rw [h6] at x6
    exact Nat.eq_of_mul_eq_mul_right hsz x6
   subst ec
   have:=Gz ho (hk rfl)
   rw [<-hmk,C5 mk (hk rfl)] at this
   rw [hmk] at this
   exact this
  exact bO h (λ q hq=>hg.block q (h.lt q hq).2 (λ e2=>hs (by rw [hq]; exact e2)))
 exact bO h (λ q hq=>hb q (h.lt q hq).2)
def C6 (m:Int):List Value:=[.string ⟨#[]⟩,.int .i64 m,.int .i64 0]
def QI (m:Int):List Value:=[.string ⟨#[]⟩,.int .i64 0,.int .i64 0,.int .i64 m]
theorem C7:(Tryz.prog.info? 29).map (λ i=>(i.zero,i.size,i.bytes))=some (some (.slice none 0 0),1,24):=by kernel_rfl
theorem C9:(Tryz.prog.info? 3).map (λ i=>(i.zero,i.size,i.bytes))=some (some (.int .i64 0),1,8):=by kernel_rfl
structure Z0 (T S:TypeId) (sz i:Nat) (mk:List Value) (B gw:Nat) (cs:List Value) (nx:Nat) (lv nv mv:Value) (k n:Nat) (OH E7:List Value) (w w':World):Prop where
 ex:∃g1 g2 g3 QJ QK,ay w' gw ((((cs.set i QJ).set (i+1) QK)++[Value.int .i64 ((nx+1:Nat):Int)]).toArray) 61/\w'.ownsRow (gw+1) S 1 QJ (k+4) (OH++[lv,g1,g2,g3])/\w'.ownsRow (gw+1) 3 1 QK (k+4) (E7++[.int .i64 (-((nx+1:Nat):Int)),.int .i64 (-((nx+1:Nat):Int)),.int .i64 (-((nx+1:Nat):Int)),.int .i64 (-((nx+1:Nat):Int))]) /\
  (w'.ownsRow B T sz lv n (dG mk n)/\w'.ownsRow B T sz g1 (n+1) (dG mk (n+1))/\w'.ownsRow B T sz g2 (n+2) (dG mk (n+2))/\w'.ownsRow B T sz g3 (n+3) (dG mk (n+3))) /\
  (∀q,QJ.ownBlock=some q->nv.ownBlock=some q\/w.heap.size<=q)/\(∀q,QK.ownBlock=some q->mv.ownBlock=some q\/w.heap.size<=q)/\(∀q,g1.ownBlock=some q\/g2.ownBlock=some q\/g3.ownBlock=some q->lv.ownBlock=some q\/w.heap.size<=q)
 fr:Fr (λ q=>q=gw\/nv.ownBlock=some q\/mv.ownBlock=some q\/lv.ownBlock=some q) w w'
theorem uD {w:World} {B:Nat} {e:TypeId} {sz:Nat} {v:Value} {n:Nat} {xs:List Value} (h:w.ownsRow B e sz v n xs) {k:Nat} (hk:v.ownBlock=some k):∃cs,ay w k cs e:=by
 rcases h.2 with ⟨x,_⟩ | ⟨g,cap,cur,x1,_,x3,_⟩
 ·rw [x] at hk; cases hk
 rw [x1] at hk
 have e:g=k:=Option.some.inj hk
 subst e
 exact ⟨cur,x3⟩
theorem gi {w:World} {B B':Nat} {e e':TypeId} {sz sz':Nat} {v v':Value} {n n':Nat} {xs xs':List Value} (h:w.ownsRow B e sz v n xs) (h':w.ownsRow B' e' sz' v' n' xs') (he:e≠e'):∀k,v.ownBlock=some k->v'.ownBlock≠some k:=λ k hk hk'=>by
 obtain ⟨c1,b1⟩:=uD h hk
 obtain ⟨c2,b2⟩:=uD h' hk'
 unfold ay at b1 b2
 rw [b1] at b2
 simp only [Option.some.injEq,Obj.cells.injEq] at b2
 exact he b2.2.1
theorem GB {w:World} {B:Nat} {e e':TypeId} {sz:Nat} {v:Value} {n g:Nat} {xs:List Value} {cs:Array Value} (h:w.ownsRow B e sz v n xs) (h':ay w g cs e') (he:e≠e'):v.ownBlock≠some g:=λ hk=>by
 obtain ⟨c1,b1⟩:=uD h hk
 unfold ay at b1 h'
 rw [b1] at h'
 simp only [Option.some.injEq,Obj.cells.injEq] at h'
 exact he h'.2.1
theorem Br {B:Nat} {w:World} {o:Obj} (h:B<=w.heap.size):B<=(w.alloc o).heap.size:=by simp; omega
structure Yu (T:TypeId) (sz B:Nat) (lv:Value) (n:Nat) (ms:List Value) (W:World) (j:Nat) (LS:List (Value×Nat)) (w:World):Prop where
 fr:Fr (λ q=>lv.ownBlock=some q) W w
 l:w.ownsRow B T sz lv n (dG ms n)
 ls:∀e ∈ LS,w.ownsRow B T sz e.1 e.2 (dG ms e.2)/\(e.1.ownBlock=lv.ownBlock->e.2<=n+j)/\∀q,e.1.ownBlock=some q->lv.ownBlock=some q\/W.heap.size<=q
theorem Yu.step {T:TypeId} {sz B:Nat} (hsz:0<sz) {lv:Value} {n:Nat} {ms:List Value} (OI:ms.length=sz) {W:World} {j:Nat} {LS:List (Value×Nat)} {w w':World} (h:Yu T sz B lv n ms W j LS w) {o:Obj} {v':Value} {news:List Value} (hn:news=dG ms (j+1))
 (ho:w'.ownsRow B T sz v' (n+(j+1)) (dG ms n++news)) (hg:(w.alloc o).grownBy w' lv.ownBlock) (hf:Ly (w.alloc o) w' lv v' n (j+1)) (bN:v'.ownBlock=lv.ownBlock\/v'.ownBlock=some (w.heap.size+1)):Yu T sz B lv n ms W (j+1) (LS++[(v',n+(j+1))]) w':=by
 have ho':w'.ownsRow B T sz v' (n+(j+1)) (dG ms (n+(j+1))):=by rw [hn,mI] at ho; exact ho
 have hl:=h.l.alloc o
 refine ⟨(h.fr.alloc o).grown hg (λ q hq=>Or.inr hq),qu hsz OI hl ho' hg hf hl (λ_=>by omega),λ e he=>?_⟩
 rcases List.mem_append.1 he with y | y
 ·obtain ⟨a1,a2,a3⟩:=h.ls e y
  exact ⟨qu hsz OI hl ho' hg hf (a1.alloc o) (λ y=>by have:=a2 y; omega),λ y=>by have:=a2 y; omega,a3⟩
 rw [List.mem_singleton.1 y]
 refine ⟨ho',λ_=>Nat.le_refl _,λ q hq=>?_⟩
 rcases bN with z | z
 ·exact Or.inl (z▸hq)
 have e2:w.heap.size+1=q:=Option.some.inj (z.symm.trans hq)
 have:=h.fr.size
 exact Or.inr (by omega)
theorem GC {w:World} {B g n cap i:Nat} {e:TypeId} {mk zs:List Value} {x0 x1 x2:Value} (hmk:mk=[x0,x1,x2]) (h:w.ownsRow B e 3 (.slice (some ⟨g,0,none⟩) n cap) n (dG mk i++zs)) (hi:i<n) :
 (((w.setCell ⟨g,i * 3,none⟩ x0).setCell ⟨g,i * 3+1,none⟩ x1).setCell ⟨g,i * 3+2,none⟩ x2).ownsRow B e 3 (.slice (some ⟨g,0,none⟩) n cap) n (dG mk (i+1)++zs.drop 3):=by
 have hr:(dG mk i).length=i * 3:=by rw [iE,hmk]; rfl
 have hlen:=h.1
 rw [List.length_append,hr] at hlen
 rcases h.2 with ⟨x,_⟩ | ⟨g',cap',cur,y1,y2,y3,y4,y5,y6,y7⟩
 ·cases x
 simp only [Value.slice.injEq,Option.some.injEq,Addr.mk.injEq,and_true,true_and] at y1
 obtain ⟨rfl,rfl⟩:=y1
 have hb:ay w g cur e:=y3
 have lp:=((hb.set (i * 3) x0).set (i * 3+1) x1).set (i * 3+2) x2
 obtain ⟨z0,z1,z2,r,rfl⟩:∃z0 z1 z2 r,zs=z0::z1::z2::r:=by
  match zs,hlen with
  | [],hl=>simp at hl; omega
  | [_],hl=>simp at hl; omega
  | [_,_],hl=>simp at hl; omega
  | z0::z1::z2::r,_=>exact ⟨z0,z1,z2,r,rfl⟩
 refine ⟨?_,Or.inr ⟨g,cap,_,rfl,y2,lp,y4,y5,by simp [y6],?_⟩⟩
 ·rw [List.length_append,iE,hmk]
  simp at hlen ⊢
  omega
 simp only [Array.toList_setIfInBounds,List.take_set,y7]
 rw [List.set_append_right _ _ (by omega),List.set_append_right _ _ (by omega),List.set_append_right _ _ (by omega),hr]
 simp only [Nat.sub_self,Nat.add_sub_cancel_left,List.set_cons_zero,List.set_cons_succ,List.drop_succ_cons,List.drop_zero]
 rw [dG,hmk]
 simp
theorem nN {w:World} {B g n cap i j sz:Nat} {e:TypeId} {ys:List Value} (h:w.ownsRow B e sz (.slice (some ⟨g,0,none⟩) n cap) n ys) (hi:i<n) (hj:j<sz):(∃v,w.cell? ⟨g,i * sz+j,none⟩=some v)/\∀o,w.frozen? ⟨g,o,none⟩=false:=by
 obtain ⟨cs,hb⟩:=uD h (k:=g) rfl
 have hl:=h.1
 have h1:i * sz+j<n * sz:=by
  have:(i+1) * sz<=n * sz:=Nat.mul_le_mul_right _ hi
  rw [Nat.succ_mul] at this
  omega
 refine ⟨⟨ys[i * sz+j]'(by omega),?_⟩,hb.fz⟩
 rw [h.cellAt (i * sz+j) h1]
 exact List.getElem?_eq_getElem _
set_option linter.unusedSimpArgs false
theorem QL {w:World} {B gw nx k n:Nat} {c0 c1 c2 c3 c4 c5 lv:Value} {OH E7 xs:List Value} (hb:ay w gw #[c0,c1,c2,c3,c4,c5,.int .i64 (nx:Nat)] 61) (hns:w.ownsRow (gw+1) 29 1 c2 k OH) (hnm:w.ownsRow (gw+1) 3 1 c3 k E7) (hl:w.ownsRow B 42 3 lv n xs) (hB:gw<B) (hBw:B<=w.heap.size) (hn:n<=2000000000000) (hk:k<=2000000000000) (hx:nx<=2000000000000) :
 Calls Tryz.prog 67 #[.pointer (some ⟨gw,0,none⟩),lv] w λ r w'=>r=.returned (.tuple #[])/\Z0 42 29 3 2 (C6 (-((nx+1:Nat):Int))) B gw [c0,c1,c2,c3,c4,c5] nx lv c2 c3 k n OH E7 w w':=by
 obtain ⟨ca,cc,rfl⟩:=ah hns
 obtain ⟨da,dc,rfl⟩:=ah hnm
 obtain ⟨M,hM⟩:∃M:Int,M=-((nx+1:Nat):Int):=⟨_,rfl⟩
 obtain ⟨ms,OI⟩:∃ms,ms=C6 M:=⟨_,rfl⟩
 have U':ms=[.string ⟨#[]⟩,.int .i64 M,.int .i64 0]:=OI
 obtain ⟨W1,mq⟩:∃W1,W1=w.setCell ⟨gw,6,none⟩ (.int .i64 ((nx:Int)+1)):=⟨_,rfl⟩
 have B1:ay W1 gw #[c0,c1,.slice ca k cc,.slice da k dc,c4,c5,.int .i64 ((nx:Int)+1)] 61:=by rw [mq]; exact hb.set 6 _
 have F1:Fr (λ q=>q=gw) w W1:=by rw [mq]; exact (Fr.refl (λ q=>q=gw) w).setCell ⟨gw,6,none⟩ (Or.inl rfl) _
 obtain ⟨W2,yT⟩:∃W2,W2=W1.alloc (.cells #[.string ⟨#[]⟩,.int .i64 M,.int .i64 0] 42):=⟨_,rfl⟩
 obtain ⟨mb,hmb⟩:∃mb,mb=W1.heap.size:=⟨_,rfl⟩
 have B2:ay W2 gw #[c0,c1,.slice ca k cc,.slice da k dc,c4,c5,.int .i64 ((nx:Int)+1)] 61:=by rw [yT]; exact B1.alloc _
 have Z1:ay W2 mb #[.string ⟨#[]⟩,.int .i64 M,.int .i64 0] 42:=by rw [yT,hmb]; exact ay.new W1 _ _
 have F2:Fr (λ q=>q=gw) w W2:=by rw [yT]; exact F1.alloc _
 have kR:W1.heap.size=w.heap.size:=by rw [mq]; simp [World.setCell]
 have Va:mb=w.heap.size:=by rw [hmb,kR]
 have Z2:∀q,(Value.slice ca k cc).ownBlock=some q->q≠gw:=λ q hq=>by have:=(hns.lt q hq).1; omega
 have Z3:∀q,(Value.slice da k dc).ownBlock=some q->q≠gw:=λ q hq=>by have:=(hnm.lt q hq).1; omega
 have Z4:∀q,lv.ownBlock=some q->q≠gw:=λ q hq=>by have:=(hl.lt q hq).1; omega
 have NS2:W2.ownsRow (gw+1) 29 1 (Value.slice ca k cc) k OH:=bO hns (λ q hq=>F2.block q (hns.lt q hq).2 (Z2 q hq))
 have NM2:W2.ownsRow (gw+1) 3 1 (Value.slice da k dc) k E7:=bO hnm (λ q hq=>F2.block q (hnm.lt q hq).2 (Z3 q hq))
 have L2:W2.ownsRow B 42 3 lv n (dG ms 0++xs):=bO (by simpa [dG] using hl) (λ q hq=>F2.block q (hl.lt q hq).2 (Z4 q hq))
 have n1:∀q,lv.ownBlock=some q->(Value.slice ca k cc).ownBlock≠some q:=gi hl hns (by decide)
 have n2:∀q,lv.ownBlock=some q->(Value.slice da k dc).ownBlock≠some q:=gi hl hnm (by decide)
 have n3:∀q,(Value.slice ca k cc).ownBlock=some q->(Value.slice da k dc).ownBlock≠some q:=gi hns hnm (by decide)
 have n4:lv.ownBlock≠some mb:=λ e=>by have:=(hl.lt mb e).2; omega
 have HB:=aa hb
 have b6:=hb.cell 6
 have bf:=hb.fz
 simp at b6
 have d6:W1.cell? ⟨gw,6,none⟩=some (.int .i64 ((nx:Int)+1)):=B1.cell 6
 have HMN:-((nx:Int)+1)=M:=by rw [hM]; push_cast; rfl
 obtain ⟨la,lc,hlv⟩:=ah hl
 have HNS:=aa hns
 have Yv:=aa hnm
 have HL:=aa hl
 subst hlv
 have F7:=aa mq
 have Oy:=aa yT
 have HM:=aa hM
 have Lz:=aa U'
 have Z5:=aa OI
 have HMB:=aa hmb
 have agW:=aa Va
 have C_:=aa F2
 have BB2:=aa B2
 have TA:=aa Z1
 have Vb:=aa NS2
 have Vc:=aa NM2
 have LL2:=aa L2
 have NG:=aa (And.intro Z2 (And.intro Z3 Z4))
 have NN:=aa (And.intro n1 (And.intro n2 (And.intro n3 n4)))
 have agY:mb<W2.heap.size:=Z1.lt
 have hgm:gw≠mb:=by have:=hb.lt; omega
 clear hb hns hnm hl yT hM OI U' hmb Va F1 F2 B1 B2 Z1 NS2 NM2 L2 Z2 Z3 Z4 n1 n2 n3 n4 kR
 go_enter Tryz.func67,Tryz.ntmps67
 go_upto_region 1 with fail
 rw [<-F7.out]
 clear mq b6 bf
 go_upto_region 2 with fail
 rw [<-Oy.out,<-HMB.out]
 clear d6
 go_wp2
 go_loopw [5] (λ i wr=>∃j:Nat,j<=n/\i=.int .i64 j/\Fr (λ q=>(Value.slice la n lc).ownBlock=some q) W2 wr/\wr.ownsRow B 42 3 (.slice la n lc) n (dG ms j++xs.drop (j * 3))) (λ i _=>n - (intOf i).toNat)
 case atStart=>exact ⟨0,Nat.zero_le _,rfl,Fr.refl _ _,by simpa using LL2.out⟩
 case round =>
  clear LL2
  obtain ⟨j,hj,rfl,hF,hO⟩:=hrel
  have FF:=aa hF
  have OO:=aa hO
  have Bt:ay wr mb #[.string ⟨#[]⟩,.int .i64 M,.int .i64 0] 42:=TA.out.fr hF NN.out.2.2.2
  have m0:=Bt.cell 0
  have m1:=Bt.cell 1
  have m2:=Bt.cell 2
  simp at m0 m1 m2
  clear hF hO Bt
  by_cases hjn:j<n
  ·have hji:(j:Int)<(n:Int):=by omega
   obtain ⟨g,cap,hv,_,_⟩:=OO.out.form (by omega)
   simp only [Value.slice.injEq,true_and] at hv
   obtain ⟨rfl,rfl⟩:=hv
   obtain ⟨⟨y0,h0⟩,hfz⟩:=nN OO.out hjn (j:=0) (by omega)
   obtain ⟨⟨y1,h1⟩,_⟩:=nN OO.out hjn (j:=1) (by omega)
   obtain ⟨⟨y2,h2⟩,_⟩:=nN OO.out hjn (j:=2) (by omega)
   rw [Nat.add_zero] at h0
   have R2:=aa (GC Lz.out OO.out hjn)
   have F2:Hid (Fr (λ q=>(Value.slice (some ⟨g,0,none⟩) n lc).ownBlock=some q) W2 ((((wr.setCell ⟨g,j * 3,none⟩ (.string ⟨#[]⟩)).setCell ⟨g,j * 3+1,none⟩ (.int .i64 M)).setCell ⟨g,j * 3+2,none⟩ (.int .i64 0)))):=by
    exact (((FF.out.setCell ⟨g,j * 3,none⟩ (Or.inl rfl) (.string ⟨#[]⟩)).setCell ⟨g,j * 3+1,none⟩ (Or.inl rfl) (.int .i64 M)).setCell ⟨g,j * 3+2,none⟩ (Or.inl rfl) (.int .i64 0))
   go_wp2
   go_roundw
   case rel =>
    refine ⟨j+1,by omega,by go_num,F2.out,?_⟩
    have:=R2.out
    rw [List.drop_drop] at this
    rw [show (j+1) * 3=j * 3+3 by omega]
    exact this
   case measure=>simp [intOf]; omega
  have Z6:j=n:=by omega
  have hji:¬(j:Int)<(n:Int):=by omega
  have S0:Hid (Yu 42 3 B (.slice la n lc) n ms W2 0 [] wr):=by
   refine ⟨FF.out,?_,λ e he=>by cases he⟩
   have:=OO.out
   rw [Z6,List.drop_of_length_le (by rw [HL.out.1]; exact Nat.le_refl _),List.append_nil] at this
   exact this
  have hsB:B<=wr.heap.size:=by have:=FF.out.size; have:=C_.out.size; omega
  have Z7:Hid (ms.length=3):=by rw [Lz.out]; rfl
  obtain ⟨i0,hi,hz0,hz1,dN⟩:=info_parts qj
  have HI:=aa hi
  have ia:=aa hz0
  have gO:=aa hz1
  have ic:=aa dN
  have Z8:Hid (∀u ∈ ms,u.oneCell'=true):=by rw [Lz.out]; intro u hu; simp at hu; rcases hu with rfl | rfl | rfl<;>rfl
  have ON1:Hid (∀u ∈ ([.string ⟨#[]⟩,.int .i64 M,.int .i64 0]:List Value),u.oneCell'=true):=by have:=Z8.out; rw [Lz.out] at this; exact this
  have ON2:Hid (∀u ∈ ([.string ⟨#[]⟩,.int .i64 M,.int .i64 0,.string ⟨#[]⟩,.int .i64 M,.int .i64 0]:List Value),u.oneCell'=true):=by have:=qs ms Z8.out 2; rw [Lz.out] at this; exact this
  have ON3:Hid (∀u ∈ ([.string ⟨#[]⟩,.int .i64 M,.int .i64 0,.string ⟨#[]⟩,.int .i64 M,.int .i64 0,.string ⟨#[]⟩,.int .i64 M,.int .i64 0]:List Value),u.oneCell'=true):=by have:=qs ms Z8.out 3; rw [Lz.out] at this; exact this
  clear OO hi hz0 hz1 dN
  have hown:=S0.out.l
  go_wp2_with (at_builtin; refine kQ rfl _ _ 29 rfl B 42 i0 _ 3 32 Tryz.underlying29 HI.out ia.out gO.out ic.out rfl (by decide) _ _ _ rfl (hown.alloc _) ⟨wr.heap.size,0,none⟩ 1 1 [.string ⟨#[]⟩,.int .i64 M,.int .i64 0] rfl rfl (World.news_of_block (ay.new wr #[.string ⟨#[]⟩,.int .i64 M,.int .i64 0] 42)) ON1.out (by omega) (by unfold maxLen; omega) (by omega) (Br hsB) ?_)
  intro v1 w4 ho hg hf bN
  have S1:=aa (S0.out.step (by omega) Z7.out (by rw [Lz.out]; rfl) ho hg hf bN)
  obtain ⟨a1,k1,rfl⟩:=ah ho
  clear ho hg hf bN hown S0 m0 m1 m2
  have Bt:ay w4 mb #[.string ⟨#[]⟩,.int .i64 M,.int .i64 0] 42:=TA.out.fr S1.out.fr NN.out.2.2.2
  have m0:=Bt.cell 0
  have m1:=Bt.cell 1
  have m2:=Bt.cell 2
  simp at m0 m1 m2
  clear Bt
  have Z9:B<=w4.heap.size:=by have:=S1.out.fr.size; have:=C_.out.size; omega
  have hown:=S1.out.l
  go_wp2_with (at_builtin; refine kQ rfl _ _ 29 rfl B 42 i0 _ 3 32 Tryz.underlying29 HI.out ia.out gO.out ic.out rfl (by decide) _ _ _ rfl (hown.alloc _) ⟨w4.heap.size,0,none⟩ 2 2 [.string ⟨#[]⟩,.int .i64 M,.int .i64 0,.string ⟨#[]⟩,.int .i64 M,.int .i64 0] rfl rfl (World.news_of_block (ay.new w4 #[.string ⟨#[]⟩,.int .i64 M,.int .i64 0,.string ⟨#[]⟩,.int .i64 M,.int .i64 0] 42)) ON2.out (by omega) (by unfold maxLen; omega) (by omega) (Br Z9) ?_)
  intro v2 w5 ho hg hf bN
  have S2:=aa (S1.out.step (by omega) Z7.out (by rw [Lz.out]; rfl) ho hg hf bN)
  obtain ⟨a2,k2,rfl⟩:=ah ho
  clear ho hg hf bN hown S1 m0 m1 m2
  have Bt:ay w5 mb #[.string ⟨#[]⟩,.int .i64 M,.int .i64 0] 42:=TA.out.fr S2.out.fr NN.out.2.2.2
  have m0:=Bt.cell 0
  have m1:=Bt.cell 1
  have m2:=Bt.cell 2
  simp at m0 m1 m2
  clear Bt
  have Z_:B<=w5.heap.size:=by have:=S2.out.fr.size; have:=C_.out.size; omega
  have hown:=S2.out.l
  go_wp2_with (at_builtin; refine kQ rfl _ _ 29 rfl B 42 i0 _ 3 32 Tryz.underlying29 HI.out ia.out gO.out ic.out rfl (by decide) _ _ _ rfl (hown.alloc _) ⟨w5.heap.size,0,none⟩ 3 3 [.string ⟨#[]⟩,.int .i64 M,.int .i64 0,.string ⟨#[]⟩,.int .i64 M,.int .i64 0,.string ⟨#[]⟩,.int .i64 M,.int .i64 0] rfl rfl (World.news_of_block (ay.new w5 #[.string ⟨#[]⟩,.int .i64 M,.int .i64 0,.string ⟨#[]⟩,.int .i64 M,.int .i64 0,.string ⟨#[]⟩,.int .i64 M,.int .i64 0] 42)) ON3.out (by omega) (by unfold maxLen; omega) (by omega) (Br Z_) ?_)
  intro v3 w6 ho hg hf bN
  have S3:=aa (S2.out.step (by omega) Z7.out (by rw [Lz.out]; rfl) ho hg hf bN)
  obtain ⟨a3,k3,rfl⟩:=ah ho
  clear ho hg hf bN hown S2 m0 m1 m2
  have aaa:(Value.slice la n lc).ownBlock≠some gw:=λ e=>NG.out.2.2 gw e rfl
  have Vd:ay w6 gw #[c0,c1,.slice ca k cc,.slice da k dc,c4,c5,.int .i64 ((nx:Int)+1)] 61:=BB2.out.fr S3.out.fr aaa
  have NS6:w6.ownsRow (gw+1) 29 1 (Value.slice ca k cc) k OH:=bO Vb.out (λ q hq=>S3.out.fr.block q (Vb.out.lt q hq).2 (λ e=>NN.out.1 q e hq))
  have NM6:w6.ownsRow (gw+1) 3 1 (Value.slice da k dc) k E7:=bO Vc.out (λ q hq=>S3.out.fr.block q (Vc.out.lt q hq).2 (λ e=>NN.out.2.1 q e hq))
  have MB6:ay w6 mb #[.string ⟨#[]⟩,.int .i64 M,.int .i64 0] 42:=TA.out.fr S3.out.fr NN.out.2.2.2
  have b2:w6.cell? ⟨gw,2,none⟩=some (Value.slice ca k cc):=Vd.cell 2
  have bf:=Vd.fz
  have hz6:w.heap.size<=w6.heap.size:=Nat.le_trans C_.out.size S3.out.fr.size
  have aac:gw+1<=w6.heap.size:=Vd.lt
  obtain ⟨i1,hi,hz0,hz1,dN⟩:=info_parts C7
  have JI:=aa hi
  have JZ0:=aa hz0
  have JZ1:=aa hz1
  have JZ2:=aa dN
  obtain ⟨i2,hi2,hy0,hy1,hy2⟩:=info_parts C9
  have KI:=aa hi2
  have KZ0:=aa hy0
  have KZ1:=aa hy1
  have KZ2:=aa hy2
  have LC:=aa NM6
  have LD:=aa NS6
  have Ve:=aa Vd
  have LF:=aa MB6
  have ON4:Hid (∀u ∈ ([.slice la n lc,.slice a1 (n+1) k1,.slice a2 (n+2) k2,.slice a3 (n+3) k3]:List Value),u.oneCell'=true):=by intro u hu; simp at hu; rcases hu with rfl | rfl | rfl | rfl<;>rfl
  clear hi hz0 hz1 dN hi2 hy0 hy1 hy2 NM6 Vd MB6
  go_wp2_with (at_builtin; refine wpList_append_own_at _ rfl _ _ 58 rfl (gw+1) 29 i1 _ 1 24 Tryz.underlying58 JI.out JZ0.out JZ1.out JZ2.out rfl (by decide) _ _ _ rfl (NS6.alloc _) ⟨w6.heap.size,0,none⟩ 4 4 [.slice la n lc,.slice a1 (n+1) k1,.slice a2 (n+2) k2,.slice a3 (n+3) k3] rfl rfl (World.news_of_block (ay.new w6 #[.slice la n lc,.slice a1 (n+1) k1,.slice a2 (n+2) k2,.slice a3 (n+3) k3] 29)) ON4.out (by unfold maxLen; omega) (by omega) (Br aac) ?_)
  intro v4 w7 ho hg _ bN
  clear b2 bf NS6
  have Yw:ay w7 gw #[c0,c1,.slice ca k cc,.slice da k dc,c4,c5,.int .i64 ((nx:Int)+1)] 61:=(Ve.out.alloc _).grown hg (λ q hq=>by have:=(LD.out.lt q hq).1; omega)
  have b2:w7.cell? ⟨gw,2,none⟩=some (Value.slice ca k cc):=Yw.cell 2
  have bf:=Yw.fz
  obtain ⟨W8,QM⟩:∃W8,W8=w7.setCell ⟨gw,2,none⟩ v4:=⟨_,rfl⟩
  have B8:ay W8 gw #[c0,c1,v4,.slice da k dc,c4,c5,.int .i64 ((nx:Int)+1)] 61:=by rw [QM]; exact Yw.set 2 v4
  have LG:∀q,q<w6.heap.size->q≠gw->(Value.slice ca k cc).ownBlock≠some q->W8.heap[q]?=w6.heap[q]?:=λ q h1 h2 h3=>by
   rw [QM,Below.heap_setCell _ _ _ _ h2,hg.block q (by simp; omega) (λ e=>h3 e.symm),Below.heap_alloc _ _ _ h1]
  have hz8:w6.heap.size<=W8.heap.size:=by
   have:=hg.size
   rw [QM]; simp [World.setCell] at this ⊢; omega
  have v4b:∀q,v4.ownBlock=some q->(Value.slice ca k cc).ownBlock=some q\/w6.heap.size<q:=λ q hq=>by
   rcases bN with e | e
   ·exact Or.inl (e▸hq)
   have:w6.heap.size+1=q:=Option.some.inj (e.symm.trans hq)
   exact Or.inr (by omega)
  have Vf:W8.ownsRow (gw+1) 29 1 v4 (k+4) (OH++[.slice la n lc,.slice a1 (n+1) k1,.slice a2 (n+2) k2,.slice a3 (n+3) k3]):=by
   rw [QM]
   exact jb ho (λ e=>by have:=(ho.lt gw e).1; omega) _ _
  have TU:W8.ownsRow (gw+1) 3 1 (Value.slice da k dc) k E7:=bO LC.out (λ q hq=>LG q (LC.out.lt q hq).2 (by have:=(LC.out.lt q hq).1; omega) (λ e=>NN.out.2.2.1 q e hq))
  have TV:ay W8 mb #[.string ⟨#[]⟩,.int .i64 M,.int .i64 0] 42:=(LG mb LF.out.lt (λ e=>hgm e.symm) (λ e=>GB LD.out LF.out (by decide) e)).trans LF.out
  have Vg:∀sv j',w6.ownsRow B 42 3 sv j' (dG ms j')->W8.ownsRow B 42 3 sv j' (dG ms j'):=λ sv j' h=>bO h (λ q hq=>LG q (h.lt q hq).2 (by have:=(h.lt q hq).1; omega) (λ e=>gi LD.out h (by decide) q e hq))
  have L3:=S3.out.ls
  obtain ⟨x1,_,x1b⟩:=L3 (.slice a1 (n+1) k1,n+(0+1)) (by simp)
  obtain ⟨x2,_,x2b⟩:=L3 (.slice a2 (n+2) k2,n+(1+1)) (by simp)
  obtain ⟨x3,_,x3b⟩:=L3 (.slice a3 (n+3) k3,n+(2+1)) (by simp)
  have dN:w.heap.size<=W2.heap.size:=C_.out.size
  have F8:Fr (λ q=>q=gw\/(Value.slice ca k cc).ownBlock=some q\/(Value.slice da k dc).ownBlock=some q\/(Value.slice la n lc).ownBlock=some q) w W8:=by
   have f6:Fr (λ q=>q=gw\/(Value.slice ca k cc).ownBlock=some q\/(Value.slice da k dc).ownBlock=some q\/(Value.slice la n lc).ownBlock=some q) w w6:=(C_.out.mono (λ q _ e=>Or.inl e)).trans (S3.out.fr.mono (λ q _ e=>Or.inr (Or.inr (Or.inr e))))
   rw [QM]
   exact ((f6.alloc _).grown hg (λ q hq=>Or.inr (Or.inr (Or.inl hq)))).setCell ⟨gw,2,none⟩ (Or.inl (Or.inl rfl)) _
  obtain ⟨a4,k4,hv4⟩:=ah ho
  have Vh:Hid (∀g9 c9 w9,w9.ownsRow (gw+1) 3 1 (.slice (some ⟨g9,0,none⟩) (k+4) c9) (k+4) (E7++[.int .i64 M,.int .i64 M,.int .i64 M,.int .i64 M])->((W8.alloc (.cells #[.int .i64 M,.int .i64 M,.int .i64 M,.int .i64 M] 3)).drew).grownBy w9 (Value.slice da k dc).ownBlock->((Value.slice da k dc).ownBlock=some g9\/g9=W8.heap.size+1) ->
   ay w9 gw #[c0,c1,v4,.slice da k dc,c4,c5,.int .i64 ((nx:Int)+1)] 61/\w9.cell? ⟨mb,1,none⟩=some (.int .i64 M)/\(∀v,(w9.setCell ⟨gw,3,none⟩ v).cell? ⟨mb,1,none⟩=some (.int .i64 M))/\Z0 42 29 3 2 (C6 (-((nx+1:Nat):Int))) B gw [c0,c1,.slice ca k cc,.slice da k dc,c4,c5] nx (.slice la n lc) (Value.slice ca k cc) (Value.slice da k dc) k n OH E7 w (w9.setCell ⟨gw,3,none⟩ (.slice (some ⟨g9,0,none⟩) (k+4) c9))):=λ g9 c9 w9 OJ OL zy=>by
   have TR:∀q,(Value.slice da k dc).ownBlock=some q->gw+1<=q:=λ q hq=>(TU.lt q hq).1
   have bl:∀q,q<W8.heap.size->(Value.slice da k dc).ownBlock≠some q->w9.heap[q]?=W8.heap[q]?:=λ q h1 h2=>by
    have e1:w9.heap[q]?=((W8.alloc (.cells #[.int .i64 M,.int .i64 M,.int .i64 M,.int .i64 M] 3)).drew).heap[q]?:=OL.block q (by show q<(W8.alloc _).heap.size; simp; omega) (λ e=>h2 e.symm)
    rw [e1]
    exact Below.heap_alloc _ _ _ h1
   have B9:ay w9 gw #[c0,c1,v4,.slice da k dc,c4,c5,.int .i64 ((nx:Int)+1)] 61:=(bl gw B8.lt (λ e=>by have:=TR gw e; omega)).trans B8
   have MB9:ay w9 mb #[.string ⟨#[]⟩,.int .i64 M,.int .i64 0] 42:=(bl mb TV.lt (λ e=>GB TU TV (by decide) e)).trans TV
   have Vi:∀q,q<W8.heap.size->q≠gw->(Value.slice da k dc).ownBlock≠some q->(w9.setCell ⟨gw,3,none⟩ (.slice (some ⟨g9,0,none⟩) (k+4) c9)).heap[q]?=W8.heap[q]?:=λ q h1 h2 h3=>by
    rw [Below.heap_setCell _ _ _ _ h2]; exact bl q h1 h3
   have LH:∀sv j',w6.ownsRow B 42 3 sv j' (dG ms j')->(w9.setCell ⟨gw,3,none⟩ (.slice (some ⟨g9,0,none⟩) (k+4) c9)).ownsRow B 42 3 sv j' (dG ms j'):=λ sv j' h=>by
    have h8:=Vg sv j' h
    exact bO h8 (λ q hq=>Vi q (h8.lt q hq).2 (by have:=(h8.lt q hq).1; omega) (λ e=>gi TU h8 (by decide) q e hq))
   refine ⟨B9,MB9.cell 1,λ v=>(MB9.other (λ e=>hgm e.symm) _ _).cell 1,⟨⟨.slice a1 (n+1) k1,.slice a2 (n+2) k2,.slice a3 (n+3) k3,v4,.slice (some ⟨g9,0,none⟩) (k+4) c9,?_,?_,?_,?_,?_,?_,?_⟩,?_⟩⟩
   ·have:=B9.set 3 (.slice (some ⟨g9,0,none⟩) (k+4) c9)
    have e:((nx+1:Nat):Int)=(nx:Int)+1:=by push_cast; rfl
    rw [e]
    exact this
   ·exact bO Vf (λ q hq=>Vi q (Vf.lt q hq).2 (by have:=(Vf.lt q hq).1; omega) (λ e=>gi TU Vf (by decide) q e hq))
   ·rw [<-HM.out]
    exact jb OJ (λ e=>by have:=(OJ.lt gw e).1; omega) _ _
   ·rw [<-HM.out,<-Z5.out]
    exact ⟨LH _ _ S3.out.l,LH _ _ x1,LH _ _ x2,LH _ _ x3⟩
   ·intro q hq
    rcases v4b q hq with e | e
    ·exact Or.inl e
    exact Or.inr (by omega)
   ·intro q hq
    have e:g9=q:=Option.some.inj hq
    rcases zy with y | y
    ·exact Or.inl (e▸y)
    exact Or.inr (by omega)
   ·intro q hq
    rcases hq with y | y | y
    ·rcases x1b q y with z | z
     ·exact Or.inl z
     exact Or.inr (by omega)
    ·rcases x2b q y with z | z
     ·exact Or.inl z
     exact Or.inr (by omega)
    rcases x3b q y with z | z
    ·exact Or.inl z
    exact Or.inr (by omega)
   exact (((F8.alloc _).drew).grown OL (λ q hq=>Or.inr (Or.inr (Or.inr (Or.inl hq))))).setCell ⟨gw,3,none⟩ (Or.inl (Or.inl rfl)) _
  have HW8:=aa QM
  have e3:W8.cell? ⟨gw,3,none⟩=some (Value.slice da k dc):=B8.cell 3
  have e3a:(W8.alloc (.cells #[.int .i64 M,.int .i64 M,.int .i64 M,.int .i64 M] 3)).cell? ⟨gw,3,none⟩=some (Value.slice da k dc):=(B8.alloc _).cell 3
  have s3:W8.cell? ⟨mb,1,none⟩=some (.int .i64 M):=TV.cell 1
  have s3a:(W8.alloc (.cells #[.int .i64 M,.int .i64 M,.int .i64 M,.int .i64 M] 3)).cell? ⟨mb,1,none⟩=some (.int .i64 M):=(TV.alloc _).cell 1
  have HOr:Hid ((W8.alloc (.cells #[.int .i64 M,.int .i64 M,.int .i64 M,.int .i64 M] 3)).drew.ownsRow (gw+1) 3 1 (Value.slice da k dc) k E7):=bO (TU.alloc _) (λ_ _=>rfl)
  have Qo:Hid (∀(j:Nat) (u:Value),[Value.int .i64 M,.int .i64 M,.int .i64 M,.int .i64 M][j]?=some u->(W8.alloc (.cells #[.int .i64 M,.int .i64 M,.int .i64 M,.int .i64 M] 3)).drew.cell? ((⟨W8.heap.size,0,none⟩:Addr).add j)=some u):=World.news_of_block (w:=(W8.alloc (.cells #[.int .i64 M,.int .i64 M,.int .i64 M,.int .i64 M] 3)).drew) (ay.new W8 #[.int .i64 M,.int .i64 M,.int .i64 M,.int .i64 M] 3)
  have Bk:Hid (∀u ∈ [Value.int .i64 M,.int .i64 M,.int .i64 M,.int .i64 M],u.oneCell'=true):=by intro u hu; simp at hu; subst hu; rfl
  have ag9:gw+1<=W8.heap.size:=B8.lt
  subst hv4
  clear ho hg bN QM Yw B8 LG v4b Vf TU TV Vg L3 x1 x1b x2 x2b x3 x3b F8 S3 LC LD Ve LF
  go_upto_region 10 with fail
  rw [<-HW8.out]
  clear b2 bf
  refine wp_region_held_drew (S:=λ W=>W.cell? ⟨mb,1,none⟩=some (.int .i64 M)) (by kernel_rfl) s3 (λ OM=>?_)
  refine wpAnyH_take (i:=0) (v:=?v1) rfl (by kernel_rfl) (by kernel_rfl) (by kernel_rfl) (λ_ _ _ h=>h) (Or.inl ⟨by rfl,?hy1⟩) (by assumption) ?Vj
  case hy1=>(intro w fY; (try dsimp only at fY); (go_simp<;>with_reducible rfl))
  try simp only [Act.put,rQ]
  refine wpAnyH_take (i:=1) (v:=?v2) rfl (by kernel_rfl) (by kernel_rfl) (by kernel_rfl) (λ_ _ _ h=>h) (Or.inl ⟨by rfl,?hy2⟩) (by assumption) ?Vk
  case hy2=>(intro w fY; (try dsimp only at fY); (go_simp<;>with_reducible rfl))
  try simp only [Act.put,rQ]
  refine wpAnyH_take (i:=2) (v:=?v3) rfl (by kernel_rfl) (by kernel_rfl) (by kernel_rfl) (λ_ _ _ h=>h) (Or.inl ⟨by rfl,?hy3⟩) (by assumption) ?Vl
  case hy3=>(intro w fY; (try dsimp only at fY); (go_simp<;>with_reducible rfl))
  try simp only [Act.put,rQ]
  refine wpAnyH_take (i:=3) (v:=?v4) rfl (by kernel_rfl) (by kernel_rfl) (by kernel_rfl) (λ_ _ _ h=>h) (Or.inl ⟨by rfl,?hy4⟩) (by assumption) ?Vm
  case hy4=>(intro w fY; (try dsimp only at fY); (go_simp<;>with_reducible rfl))
  try simp only [Act.put,rQ]
  refine wpAnyH_take (i:=5) (v:=?v5) rfl (by kernel_rfl) (by kernel_rfl) (by kernel_rfl) (λ_ _ _ h=>h) (Or.inl ⟨by rfl,?hy5⟩) (by assumption) ?Vn
  case hy5=>(intro w fY; (try dsimp only at fY); (go_simp<;>with_reducible rfl))
  try simp only [Act.put,rQ]
  refine wpAnyH_take (i:=6) (v:=?v6) rfl (by kernel_rfl) (by kernel_rfl) (by kernel_rfl) (λ_ _ _ h=>h) (Or.inl ⟨by rfl,?hy6⟩) (by assumption) ?Vo
  case hy6=>(intro w fY; (try dsimp only at fY); (go_simp<;>with_reducible rfl))
  try simp only [Act.put,rQ]
  refine wpAnyH_take (i:=7) (v:=?v7) rfl (by kernel_rfl) (by kernel_rfl) (by kernel_rfl) (λ_ _ _ h=>h) (Or.inl ⟨by rfl,?hy7⟩) (by assumption) ?Vp
  case hy7=>(intro w fY; (try dsimp only at fY); (go_simp<;>with_reducible rfl))
  try simp only [Act.put,rQ]
  refine wpAnyH_take (i:=8) (v:=?v8) rfl (by kernel_rfl) (by kernel_rfl) (by kernel_rfl) (λ_ _ _ h=>h) (Or.inl ⟨by rfl,?hy8⟩) (by assumption) ?Vq
  case hy8=>(intro w fY; (try dsimp only at fY); (go_simp<;>with_reducible rfl))
  try simp only [Act.put,rQ]
  refine wpAnyH_take (i:=9) (v:=?v9) rfl (by kernel_rfl) (by kernel_rfl) (by kernel_rfl) (λ_ _ _ h=>h) (Or.inl ⟨by rfl,?hy9⟩) (by assumption) ?Vr
  case hy9=>(intro w fY; (try dsimp only at fY); (go_simp<;>with_reducible rfl))
  try simp only [Act.put,rQ]
  refine wpAnyH_take (i:=10) (v:=?v10) rfl (by kernel_rfl) (by kernel_rfl) (by kernel_rfl) (λ_ _ _ h=>h) (Or.inl ⟨by rfl,?hy10⟩) (by assumption) ?QN
  case hy10=>(intro w fY; (try dsimp only at fY); (go_simp<;>with_reducible rfl))
  try simp only [Act.put,rQ]
  refine wpAnyH_take (i:=11) (v:=?v11) rfl (by kernel_rfl) (by kernel_rfl) (by kernel_rfl) (λ_ _ _ h=>h) (Or.inl ⟨by rfl,?hy11⟩) (by assumption) ?QO
  case hy11=>(intro w fY; (try dsimp only at fY); (go_simp<;>with_reducible rfl))
  try simp only [Act.put,rQ]
  refine wpAnyH_take (i:=12) (v:=?v12) rfl (by kernel_rfl) (by kernel_rfl) (by kernel_rfl) (λ_ _ _ h=>h) (Or.inl ⟨by rfl,?hy12⟩) (by assumption) ?QS
  case hy12=>(intro w fY; (try dsimp only at fY); (go_simp<;>with_reducible rfl))
  try simp only [Act.put,rQ]
  refine wpAnyH_ready (rs:=[4,13]) (by kernel_rfl) (by simp) ?_
  refine AllReadyH.cons rfl (λ K hK=>?_) ?_
  ·go_simp
   refine hK.out _ _ s3 (λ zz=>?_)
   clear hK K
   try simp only [Act.put,rQ]
   refine wpAnyH_ready (rs:=[13]) (by kernel_rfl) (by simp) ?_
   refine AllReadyH.cons rfl (λ K hK=>?_) AllReadyH.nil
   go_simp
   refine hK.out _ _ s3a (λ zA=>?_)
   clear hK K
   try simp only [Act.put,rQ]
   refine wpAnyH_ready (rs:=[14]) (by kernel_rfl) (by simp) ?_
   refine AllReadyH.cons rfl (λ K hK=>?_) AllReadyH.nil
   refine step_append_lies _ rfl (.tmp 64) (.tmp 73) 24 rfl (gw+1) 3 i2 _ 1 8 Tryz.underlying24 KI.out KZ0.out KZ1.out KZ2.out rfl (by decide) (Value.slice da k dc) k E7 rfl HOr.out ⟨W8.heap.size,0,none⟩ 4 4 [.int .i64 M,.int .i64 M,.int .i64 M,.int .i64 M] rfl rfl Qo.out Bk.out (by omega) (by unfold maxLen; omega) (by omega) (by show gw+1<=(W8.alloc _).heap.size; simp; omega) _ rfl ?_
   intro g9 c9 w9 OJ OL zy _
   obtain ⟨B9,s9,s9s,F9⟩:=Vh.out g9 c9 w9 OJ OL (by simpa using zy)
   have FF9:=aa F9
   have f9:=B9.fz
   have d9:=B9.cell 3
   simp at d9
   clear OJ OL zy F9 B9
   refine hK.out _ _ s9 (λ zB=>?_)
   clear hK K
   try simp only [Act.put,rQ]
   refine wpAnyH_take (i:=15) (v:=?v13) rfl (by kernel_rfl) (by kernel_rfl) (by kernel_rfl) (λ_ _ _ h=>h) (Or.inl ⟨by rfl,?hy13⟩) (by assumption) ?QT
   case hy13=>(intro w fY; (try dsimp only at fY); (go_simp<;>with_reducible rfl))
   try simp only [Act.put,rQ]
   refine wpAnyH_take (i:=16) (v:=?v14) rfl (by kernel_rfl) (by kernel_rfl) (by kernel_rfl) (λ_ _ _ h=>h) (Or.inl ⟨by rfl,?hy14⟩) (by assumption) ?QU
   case hy14=>(intro w fY; (try dsimp only at fY); (go_simp<;>with_reducible rfl))
   try simp only [Act.put,rQ]
   refine wpAnyH_ready (rs:=[17]) (by kernel_rfl) (by simp) ?_
   refine AllReadyH.cons rfl (λ K hK=>?_) AllReadyH.nil
   go_simp
   refine hK.out _ _ (s9s _) (λ zC=>?_)
   clear hK K
   refine wpAnyH_done (by kernel_rfl) ?_ _
   go_wp2
   go_end0
   exact ⟨rfl,by have:=FF9.out; rw [<-HM.out] at this; exact this⟩
  refine AllReadyH.cons rfl (λ K hK=>?_) AllReadyH.nil
  go_simp
  refine hK.out _ _ s3a (λ zz=>?_)
  clear hK K
  try simp only [Act.put,rQ]
  refine wpAnyH_ready (rs:=[4]) (by kernel_rfl) (by simp) ?_
  refine AllReadyH.cons rfl (λ K hK=>?_) AllReadyH.nil
  go_simp
  refine hK.out _ _ s3a (λ zA=>?_)
  clear hK K
  try simp only [Act.put,rQ]
  refine wpAnyH_ready (rs:=[14]) (by kernel_rfl) (by simp) ?_
  refine AllReadyH.cons rfl (λ K hK=>?_) AllReadyH.nil
  refine step_append_lies _ rfl (.tmp 64) (.tmp 73) 24 rfl (gw+1) 3 i2 _ 1 8 Tryz.underlying24 KI.out KZ0.out KZ1.out KZ2.out rfl (by decide) (Value.slice da k dc) k E7 rfl HOr.out ⟨W8.heap.size,0,none⟩ 4 4 [.int .i64 M,.int .i64 M,.int .i64 M,.int .i64 M] rfl rfl Qo.out Bk.out (by omega) (by unfold maxLen; omega) (by omega) (by show gw+1<=(W8.alloc _).heap.size; simp; omega) _ rfl ?_
  intro g9 c9 w9 OJ OL zy _
  obtain ⟨B9,s9,s9s,F9⟩:=Vh.out g9 c9 w9 OJ OL (by simpa using zy)
  have FF9:=aa F9
  have f9:=B9.fz
  have d9:=B9.cell 3
  simp at d9
  clear OJ OL zy F9 B9
  refine hK.out _ _ s9 (λ zB=>?_)
  clear hK K
  try simp only [Act.put,rQ]
  refine wpAnyH_take (i:=15) (v:=?v15) rfl (by kernel_rfl) (by kernel_rfl) (by kernel_rfl) (λ_ _ _ h=>h) (Or.inl ⟨by rfl,?hy15⟩) (by assumption) ?QV
  case hy15=>(intro w fY; (try dsimp only at fY); (go_simp<;>with_reducible rfl))
  try simp only [Act.put,rQ]
  refine wpAnyH_take (i:=16) (v:=?v16) rfl (by kernel_rfl) (by kernel_rfl) (by kernel_rfl) (λ_ _ _ h=>h) (Or.inl ⟨by rfl,?hy16⟩) (by assumption) ?aag
  case hy16=>(intro w fY; (try dsimp only at fY); (go_simp<;>with_reducible rfl))
  try simp only [Act.put,rQ]
  refine wpAnyH_ready (rs:=[17]) (by kernel_rfl) (by simp) ?_
  refine AllReadyH.cons rfl (λ K hK=>?_) AllReadyH.nil
  go_simp
  refine hK.out _ _ (s9s _) (λ zC=>?_)
  clear hK K
  refine wpAnyH_done (by kernel_rfl) ?_ _
  go_wp2
  go_end0
  exact ⟨rfl,by have:=FF9.out; rw [<-HM.out] at this; exact this⟩
end Go.Proofs.YtcbadebjpogmlaaGreatDoor
