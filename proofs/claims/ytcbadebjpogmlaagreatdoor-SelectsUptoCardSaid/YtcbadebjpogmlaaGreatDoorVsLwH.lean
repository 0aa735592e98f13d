import Derived.Test.YtcbadebjpogmlaaGreatDoorVsLwC
import Derived.Deep.RegionHeld
import Derived.Test.YtcbadebjpogmlaaGreatDoorVsLawA
import Derived.Deep.DeepCutAuto
import Derived.Laws.AppendOwnNone
set_option maxHeartbeats 4000000
set_option maxRecDepth 100000
namespace Go.Proofs.YtcbadebjpogmlaaGreatDoor
open Go.RowKit Tr
theorem eO.of {Φ:World->(Nat->Nat)->FX->Prop} {gw:Nat} {col:Nat->Nat} {w w1 w':World} (k:ak w w1) {ps ps':List PX} {fs fs':List FX} {ns ns' ms ms':List (Value×Int)} {nx sX:Nat} {bu:Nat->Nat} {r':Rv} (hl:LA Φ w' gw bu r' sX ps' fs' ns' ms') (f:Fr (λ k=>col k=2) w1 w') (hc:∀k,k<w1.heap.size->bu k=col k) (h1:ps.length<=ps'.length/\ps'.length<=ps.length+1) (h2:fs.length<=fs'.length/\fs'.length<=fs.length+1) (h3:ns'.length<=ns.length+4) (h4:ms'.length<=ms.length+4) (h5:sX<=nx+1) {b:Nat} (h6:∀f ∈ fs',f.p.size<=b):eO Φ gw col ⟨ps.length,fs.length,ns.length,ms.length,nx,b⟩ w w' :=
 ⟨bu,r',sX,ps',fs',ns',ms',hl,(k.mono (λ_ _ x=>x.elim)).trans (f.mono (λ q _ e=>by have:col q=2:=e; omega)),λ q hq=>hc q (Nat.lt_of_lt_of_le hq k.size),h1,h2,h3,h4,h5,h6⟩
theorem LQ {Φ:World->(Nat->Nat)->FX->Prop} (HΦ:lO Φ) {w:World} (hE:EN w) {gw:Nat} {col:Nat->Nat} {r:Rv} {nx:Nat} {ps:List PX} {fs:List FX} {ns ms:List (Value×Int)} (h:LA Φ w gw col r nx ps fs ns ms) {b:Nat} (wD:∀f ∈ fs,f.p.size<=b) (hn:ps.length<=2000000000000) (k at_ m:Int) (hk:k=1) (s:ByteArray) (hs:s.size<=maxLen) :
 Calls Tryz.prog 30 #[.pointer (some ⟨gw,0,none⟩),.agg #[.int .i64 k,.int .i64 at_,.int .i64 m,.string s]] w λ e w'=>e=.returned (.bool true)/\eO Φ gw col ⟨ps.length,fs.length,ns.length,ms.length,nx,b⟩ w w':=by
 subst hk
 have F1:=aa ((Fr.refl (λ_=>False) w).alloc (.cells #[.int .i64 1,.int .i64 at_,.int .i64 m,.string s] 64))
 have HC:=aa (oG HΦ (hE.keep F1.out).ev (h.keep HΦ F1.out) hn s hs)
 clear h hs hE HΦ
 go_enter Tryz.func30,Tryz.ntmps30
 go_wp2_with fail
 refine (HC.out).mono ?_
 rintro e w2 ⟨rfl,bu,r',ps',l2,f2,c2,h1,_⟩
 have R:=aa (eO.of (ns:=ns) (ms:=ms) (fs:=fs) (nx:=nx) (ps:=ps) F1.out l2 f2 c2 h1 ⟨Nat.le_refl _,Nat.le_succ _⟩ (by omega) (by omega) (by omega) wD)
 clear l2 f2 c2 h1 HC
 go_wp2
 go_ret
 exact ⟨rfl,R.out⟩
structure PkQ (w:World) (gw:Nat) (g n j:Nat) (cap:Nat) (p:PX):Prop where
 l:w.cell? ⟨gw,0,none⟩=some (.slice (some ⟨g,0,none⟩) n cap)
 c:w.cell? ⟨g,j,none⟩=some p.ptr
 lt:j<n
theorem LR {Φ:World->(Nat->Nat)->FX->Prop} {w:World} {gw:Nat} {col:Nat->Nat} {r:Rv} {nx:Nat} {ps:List PX} {fs:List FX} {ns ms:List (Value×Int)} (h:LA Φ w gw col r nx ps fs ns ms) (hp:0<ps.length) (at_:Int):∃g cap p,p ∈ ps/\r.l=.slice (some ⟨g,0,none⟩) ps.length cap/\PkQ w gw g ps.length (ig at_ ps.length) cap p:=by
 obtain ⟨g,cap,hv,_,_⟩:=h.ol.form hp
 have hj:=Gm at_ ps.length hp
 refine ⟨g,cap,ps[ig at_ ps.length]'hj,List.getElem_mem hj,hv,?_,?_,hj⟩
 ·have:w.cell? ⟨gw,0,none⟩=some r.l:=h.blk.cell 0
  rw [this,hv]
 have ho:=h.ol
 rw [hv] at ho
 rw [ho.cellAt (ig at_ ps.length) (by omega)]
 simp [List.getElem?_eq_getElem hj]
theorem LU {Φ:World->(Nat->Nat)->FX->Prop} (HΦ:lO Φ) {w:World} (hE:EN w) {gw:Nat} {col:Nat->Nat} {r:Rv} {nx:Nat} {ps:List PX} {fs:List FX} {ns ms:List (Value×Int)} (h:LA Φ w gw col r nx ps fs ns ms) {b:Nat} (wD:∀f ∈ fs,f.p.size<=b) (hp:0<ps.length) (hn:ns.length<=2000000000000) (hx:nx<=2000000000000) (k at_ m:Int) (hk:k=3) (s:ByteArray) (hs:s.size<=1100000) :
 Calls Tryz.prog 30 #[.pointer (some ⟨gw,0,none⟩),.agg #[.int .i64 k,.int .i64 at_,.int .i64 m,.string s]] w λ e w'=>e=.returned (.bool true)/\eO Φ gw col ⟨ps.length,fs.length,ns.length,ms.length,nx,b⟩ w w':=by
 subst hk
 obtain ⟨W1,mq⟩:∃W1,W1=w.alloc (.cells #[.int .i64 3,.int .i64 at_,.int .i64 m,.string s] 64):=⟨_,rfl⟩
 obtain ⟨ob,hob⟩:∃ob,ob=w.heap.size:=⟨_,rfl⟩
 have F1:ak w W1:=by rw [mq]; exact (Fr.refl _ w).alloc _
 have X1:ay W1 ob #[.int .i64 3,.int .i64 at_,.int .i64 m,.string s] 64:=by rw [mq,hob]; exact ay.new w _ _
 have L1:=h.keep HΦ F1
 obtain ⟨g,cap,p,hpp,hrl,P⟩:=LR L1 hp at_
 have x0:W1.cell? ⟨ob,0,none⟩=some (.int .i64 3):=X1.cell 0
 have x1:W1.cell? ⟨ob,1,none⟩=some (.int .i64 at_):=X1.cell 1
 have x3:W1.cell? ⟨ob,3,none⟩=some (.string s):=X1.cell 3
 have b0:=P.l
 have bc:=P.c
 have hj:=P.lt
 have hown:r.ns.ownBlock≠some ob/\r.nm.ownBlock≠some ob/\gw≠ob:=⟨λ e=>by have:=(h.GJ.lt ob e).2; omega,λ e=>by have:=(h.Kq.lt ob e).2; omega,by have:=h.blk.lt; omega⟩
 have QZ:g≠gw/\r.ns.ownBlock≠some g/\r.nm.ownBlock≠some g:=by
  have e:r.l.ownBlock=some g:=by rw [hrl]; rfl
  exact ⟨by have:=(h.ol.lt g e).1; omega,λ y=>gi h.GJ h.ol (by decide) g y e,λ y=>gi h.Kq h.ol (by decide) g y e⟩
 have Q5:g<W1.heap.size:=jY bc
 have GO:ob<W1.heap.size:=X1.lt
 have HPK:Hid (∀w':World,Calls Tryz.prog 43 #[.int .i64 at_,.int .i64 ps.length] w' λ r w2=>r=.returned (.int .i64 (ig at_ ps.length:Nat))/\w2=w'):=λ w'=>Qy at_ ps.length
 have VA:Hid (Calls Tryz.prog 45 #[.pointer (some ⟨gw,0,none⟩),.pointer (some ⟨p.gp,0,none⟩),.string s] W1.drew λ e w'=>e=.returned (.bool true)/\eO Φ gw col ⟨ps.length,fs.length,ns.length,ms.length,nx,b⟩ w w'/\(w'.cell? ⟨gw,0,none⟩=some (.slice (some ⟨g,0,none⟩) ps.length cap)/\w'.cell? ⟨ob,1,none⟩=some (.int .i64 at_)/\w'.cell? ⟨ob,3,none⟩=some (.string s)/\w'.cell? ⟨g,ig at_ ps.length,none⟩=some (.pointer (some ⟨p.gp,0,none⟩)))):=by
  have kd:ak w W1.drew:=F1.drew
  refine (wP HΦ (hE.keep kd) (h.keep HΦ kd) hn hx hpp s hs).mono ?_
  rintro e w' ⟨rfl,bu,r',ns',l2,f2,c2,h2,⟨h3,_⟩,f3⟩
  refine ⟨rfl,eO.of (ns:=ns) (ms:=ms) (fs:=fs) (nx:=nx) (ps:=ps) kd l2 f2 c2 ⟨Nat.le_refl _,Nat.le_succ _⟩ ⟨Nat.le_refl _,Nat.le_succ _⟩ (by omega) (by omega) (by omega) wD,?_,?_,?_,?_⟩
  ·have:w'.cell? ⟨gw,0,none⟩=some r'.l:=l2.blk.cell 0
   rw [this,h3,hrl]
  ·rw [f3.cell (p:=⟨ob,1,none⟩) GO (λ y=>by rcases y with y | y | y; exact hown.2.2 y.symm; exact hown.1 y; exact hown.2.1 y)]; exact x1
  ·rw [f3.cell (p:=⟨ob,3,none⟩) GO (λ y=>by rcases y with y | y | y; exact hown.2.2 y.symm; exact hown.1 y; exact hown.2.1 y)]; exact x3
  rw [f3.cell (p:=⟨g,ig at_ ps.length,none⟩) Q5 (λ y=>by rcases y with y | y | y; exact QZ.1 y; exact QZ.2.1 y; exact QZ.2.2 y)]; exact bc
 have F7:=aa mq
 have HOB:=aa hob
 unfold PX.ptr at bc
 generalize ig at_ ps.length=j at *
 obtain ⟨N,hN⟩:∃N,N=ps.length:=⟨_,rfl⟩
 rw [<-hN] at b0 hj HPK VA ⊢
 have S0:Hid (W1.cell? ⟨gw,0,none⟩=some (.slice (some ⟨g,0,none⟩) N cap)/\W1.cell? ⟨ob,1,none⟩=some (.int .i64 at_)/\W1.cell? ⟨ob,3,none⟩=some (.string s)/\W1.cell? ⟨g,j,none⟩=some (.pointer (some ⟨p.gp,0,none⟩))):=⟨b0,x1,x3,bc⟩
 clear h HΦ hE mq hob X1 L1 hpp P F1 hown QZ hrl Q5 GO hN hn hx hp
 go_enter Tryz.func30,Tryz.ntmps30
 go_upto_region 1 with fail
 rw [<-F7.out,<-HOB.out]
 go_wp2_with fail
 go_region_held (λ W=>W.cell? ⟨gw,0,none⟩=some (.slice (some ⟨g,0,none⟩) N cap)/\W.cell? ⟨ob,1,none⟩=some (.int .i64 at_)/\W.cell? ⟨ob,3,none⟩=some (.string s)/\W.cell? ⟨g,j,none⟩=some (.pointer (some ⟨p.gp,0,none⟩)))
  (first | exact S0.out | exact yU | assumption)
  (first
   | (go_at_call 43; refine (HPK.out _).mono ?_; rintro rr w2 ⟨rfl,rfl⟩)
   | (go_at_call 45; refine (VA.out).mono ?_; rintro rr w2 ⟨rfl,ha,yU⟩; have HA:=aa ha; clear ha))
 go_wp2
 go_ret
 exact ⟨rfl,HA.out⟩
theorem LW {w:World} {g:Nat} {fM:List Int} (hrow:∀i (h:i<fM.length),w.cell? ⟨g,i,none⟩=some (.int .i64 fM[i])) (hl:fM.length<=100) (k:Int) :
 Calls Tryz.prog 29 #[.slice (some ⟨g,0,none⟩) fM.length fM.length,.int .i64 k] w λ r w'=>r=.returned (.bool (decide (k ∈ fM)))/\w'=w:=by
 have HR:=aa hrow
 obtain ⟨n,hn⟩:∃n,n=fM.length:=⟨_,rfl⟩
 rw [<-hn] at hl ⊢
 have HN:=aa hn
 clear hrow hn
 go_enter Tryz.func29,Tryz.ntmps29
 go_wp2
 go_loop [5] (λ i=>∃j:Nat,j<=n/\i=.int .i64 j/\∀t (h:t<fM.length),t<j->fM[t]≠k) (λ i=>n - (intOf i).toNat)
 case atStart=>exact ⟨0,by omega,rfl,λ t _ h=>by omega⟩
 case round =>
  obtain ⟨j,hj,rfl,h1⟩:=hrel
  have H1:=aa h1
  clear h1
  by_cases hjn:j<n
  ·have hji:(j:Int)<(n:Int):=by omega
   have YA:j<fM.length:=by rw [<-HN.out]; exact hjn
   have c:=HR.out j YA
   by_cases he:fM[j]=k
   ·have jS:Hid (decide (k ∈ fM)=true):=by
     unfold Hid
     rw [decide_eq_true_eq,<-he]
     exact List.getElem_mem YA
    rw [he] at c
    clear he
    go_wp2
    go_ret
    exact ⟨sV jS.out.symm,rfl⟩
   have H2:Hid (∀t (h:t<fM.length),t<j+1->fM[t]≠k):=λ t ht h=>by
    rcases Nat.lt_or_ge t j with y | y
    ·exact H1.out t ht y
    have e:t=j:=by omega
    subst e
    exact he
   have d:(fM[j] == k)=false:=by rw [beq_eq_false_iff_ne]; exact he
   generalize fM[j]=v at *
   clear he
   go_wp2
   go_round
   case rel=>exact ⟨j+1,by omega,by go_num,H2.out⟩
   case measure=>simp [intOf]; omega
  have hji:¬(j:Int)<(n:Int):=by omega
  have jS:Hid (decide (k ∈ fM)=false):=by
   unfold Hid
   rw [decide_eq_false_iff_not]
   intro y
   obtain ⟨t,ht,e⟩:=List.mem_iff_getElem.1 y
   exact H1.out t ht (by have:=HN.out; omega) e
  go_wp2
  go_ret
  exact ⟨sV jS.out.symm,rfl⟩
def GP (Φ:World->(Nat->Nat)->FX->Prop) (ks:Int->Prop):Prop:=∀(w:World) (gw:Nat) (col:Nat->Nat) (r:Rv) (nx:Nat) (ps:List PX) (fs:List FX) (ns ms:List (Value×Int)) (b:Nat),EN w->LA Φ w gw col r nx ps fs ns ms->0<ps.length->ps.length<=2000000000000->fs.length<=2000000000000->ns.length<=2000000000000->ms.length<=2000000000000->nx<=2000000000000->(∀f ∈ fs,f.p.size<=b) ->
 ∀(k at_ m:Int) (s:ByteArray),ks k->b+s.size<=1100000->Calls Tryz.prog 30 #[.pointer (some ⟨gw,0,none⟩),.agg #[.int .i64 k,.int .i64 at_,.int .i64 m,.string s]] w λ e w'=>e=.returned (.bool true)/\eO Φ gw col ⟨ps.length,fs.length,ns.length,ms.length,nx,b+s.size⟩ w w'
def fj:List oF->Nat
 | []=>0
 | o::l=>o.s.size+fj l
theorem zD (l:List oF):∀k (h:k<l.length),fj (l.take (k+1))=fj (l.take k)+(l[k]).s.size:=by
 induction l with
 | nil=>intro k h; simp at h
 | cons a r ih =>
  intro k h
  cases k with
  | zero=>simp [fj]
  | succ k=>simp only [List.take_succ_cons,fj,List.getElem_cons_succ]; rw [ih k (by simpa using h)]; omega
theorem wQ (l:List oF):∀k,fj (l.take k)<=fj l:=by
 induction l with
 | nil=>intro k; simp [fj]
 | cons a r ih =>
  intro k
  cases k with
  | zero=>simp [fj]
  | succ k=>simp only [List.take_succ_cons,fj]; have:=ih k; omega
structure Bu (Φ:World->(Nat->Nat)->FX->Prop) (w0 wr:World) (gl N cap:Nat) (ops:List oF) (b k:Nat) (col:Nat->Nat) (r:Rv) (nx:Nat) (ps:List PX) (fs:List FX) (ns ms:List (Value×Int)):Prop where
 l:LA Φ wr w0.heap.size col r nx ps fs ns ms
 f:ak w0 wr
 c0:∀q,q<w0.heap.size->col q=0
 cl:col gl=1
 row:wr.ownsRow 0 64 4 (.slice (some ⟨gl,0,none⟩) N cap) N (dF ops)
 p0:0<ps.length
 b:∀f ∈ fs,f.p.size<=b
 n:ps.length<=k+1/\fs.length<=k/\ns.length<=4 * k/\ms.length<=4 * k/\nx<=k
theorem Bu.step {Φ:World->(Nat->Nat)->FX->Prop} {w0 wr w':World} {gl N cap:Nat} {ops:List oF} {b b' k:Nat} {col:Nat->Nat} {r:Rv} {nx:Nat} {ps:List PX} {fs:List FX} {ns ms:List (Value×Int)} (h:Bu Φ w0 wr gl N cap ops b k col r nx ps fs ns ms) (hs:eO Φ w0.heap.size col ⟨ps.length,fs.length,ns.length,ms.length,nx,b'⟩ wr w'):∃bu r' sX ps' fs' ns' ms',Bu Φ w0 w' gl N cap ops b' (k+1) bu r' sX ps' fs' ns' ms':=by
 obtain ⟨bu,r',sX,ps',fs',ns',ms',h1,h2,h3,h4,h5,h6,h7,h8,h9⟩:=hs
 have hg:gl<wr.heap.size:=(h.row.lt gl rfl).2
 have n:=h.n
 simp only at h4 h5 h6 h7 h8
 refine ⟨bu,r',sX,ps',fs',ns',ms',h1,?_,λ q hq=>?_,by rw [h3 gl hg]; exact h.cl,bO h.row (λ q hq=>h2.block q (h.row.lt q hq).2 (λ y=>?_)),Nat.lt_of_lt_of_le h.p0 h4.1,h9,by omega⟩
 ·exact ⟨h2.os.trans h.f.os,h2.tape.trans h.f.tape,h2.output.trans h.f.output,Nat.le_trans h.f.size h2.size,λ q hq _=>(h2.block q (Nat.lt_of_lt_of_le hq h.f.size) (λ y=>by have:=h.c0 q hq; omega)).trans (h.f.block q hq id)⟩
 ·rw [h3 q (Nat.lt_of_lt_of_le hq h.f.size)]; exact h.c0 q hq
 have e:gl=q:=Option.some.inj hq
 subst e
 have:=h.cl
 omega
theorem Bu.more {Φ:World->(Nat->Nat)->FX->Prop} {w0 wr:World} {gl N cap:Nat} {ops:List oF} {b b' k:Nat} {col:Nat->Nat} {r:Rv} {nx:Nat} {ps:List PX} {fs:List FX} {ns ms:List (Value×Int)} (h:Bu Φ w0 wr gl N cap ops b k col r nx ps fs ns ms) (hb:b<=b'):Bu Φ w0 wr gl N cap ops b' (k+1) col r nx ps fs ns ms :=
 ⟨h.l,h.f,h.c0,h.cl,h.row,h.p0,λ f hf=>Nat.le_trans (h.b f hf) hb,by have:=h.n; omega⟩
theorem GQ (Φ:World->(Nat->Nat)->FX->Prop) (w:World):LA Φ (w.alloc (.cells #[.slice none 0 0,.slice none 0 0,.slice none 0 0,.slice none 0 0,.slice none 0 0,.slice none 0 0,.int .i64 0] 61)) w.heap.size (λ k=>if k=w.heap.size then 2 else 0) ⟨.slice none 0 0,.slice none 0 0,.slice none 0 0,.slice none 0 0,.slice none 0 0,.slice none 0 0⟩ 0 [] [] [] [] :=
 ⟨ay.new w _ _,by simp,World.ownsRow_nil _ _ _ _,World.ownsRow_nil _ _ _ _,World.ownsRow_nil _ _ _ _,World.ownsRow_nil _ _ _ _,World.ownsRow_nil _ _ _ _,World.ownsRow_nil _ _ _ _,λ k hk=>(by rcases hk with e | e | e | e | e | e<;>cases e),λ k hk=>(by cases hk),λ p hp=>(by cases hp),λ p hp=>(by cases hp),λ p hp=>(by cases hp),λ p hp=>(by cases hp)⟩
def Bv (Φ:World->(Nat->Nat)->FX->Prop):Prop:=∀(w:World) (gw:Nat) (col:Nat->Nat) (r:Rv) (nx:Nat) (ps:List PX) (fs:List FX) (ns ms:List (Value×Int)) (b:Nat),EN w->LA Φ w gw col r nx ps fs ns ms->0<ps.length->0<fs.length->ps.length<=2000000000000->fs.length<=2000000000000->ns.length<=2000000000000->ms.length<=2000000000000->nx<=2000000000000->(∀f ∈ fs,f.p.size<=b)->b<=1100000 ->
 ∀i:Nat,i<fs.length->Calls Tryz.prog 30 #[.pointer (some ⟨gw,0,none⟩),.agg #[.int .i64 6,.int .i64 0,.int .i64 (i:Nat),.string ⟨#[]⟩]] w λ e w'=>e=.returned (.bool true) /\
  ∃bu r' sX ps' fs' ns' ms',LA Φ w' gw bu r' sX ps' fs' ns' ms'/\Fr (λ k=>2<=col k) w w'/\(∀k,k<w.heap.size->bu k=col k)/\ps'.length=ps.length/\fs'.length=fs.length/\ns'.length<=ns.length+4/\ms'.length<=ms.length+4/\sX<=nx+1/\∀f ∈ fs',f.p.size<=b
theorem LX {Φ:World->(Nat->Nat)->FX->Prop} (HΦ:lO Φ) {fM:List Int} (hst:GP Φ (λ k=>k ∈ fM)) (hcl:Bv Φ) {w:World} (hE:EN w) {a:Option Addr} {n cp sZ:Nat} {ops:List oF} (hsc:mG w a n cp ops) (hpl:∀i (h:i<fM.length),w.cell? ⟨sZ,i,none⟩=some (.int .i64 fM[i])) (Yz:sZ<w.heap.size) (OS:fM.length<=100) (hn:n<=1100000) (hsz:fj ops<=1100000) :
 Calls Tryz.prog 14 #[.slice a n cp,.slice (some ⟨sZ,0,none⟩) fM.length fM.length] w λ r w'=>r=.returned (.bool true)/\ak w w':=by
 obtain ⟨i0,hi,hz0,hz1,dN⟩:=info_parts Tryz.QE
 have HI:=aa hi
 have ia:=aa hz0
 have gO:=aa hz1
 have ic:=aa dN
 have HP:=aa HΦ
 have wR:=aa hst
 have HCL:=aa hcl
 have HE:=aa hE
 have SC:=aa hsc
 have PL:=aa hpl
 have SZ:=aa hsz
 have F0:=aa ((Fr.refl (λ_=>False) w).alloc (.cells #[.slice none 0 0,.slice none 0 0,.slice none 0 0,.slice none 0 0,.slice none 0 0,.slice none 0 0,.int .i64 0] 61))
 have CO:=aa (oG HΦ (hE.keep F0.out).ev (GQ Φ w) (by simp) ⟨#[36,91,42,93,46,46,97,91,45,49,93]⟩ (by decide))
 obtain ⟨pl,Q6⟩:∃pl,pl=fM.length:=⟨_,rfl⟩
 rw [<-Q6] at OS ⊢
 have VD:=aa Q6
 clear hi hz0 hz1 dN HΦ hst hcl hE hsc hpl hsz Q6
 go_enter Tryz.func14,Tryz.ntmps14
 go_wp2_with fail
 refine (CO.out).mono ?_
 rintro e w1 ⟨rfl,uF,r1,ps1,l1,f1,c1,h1,hg1⟩
 have hp1:=hg1 zu
 simp only [List.length_nil,Nat.zero_add] at hp1
 have K1:Hid (ak w w1):=F0.out.new f1 (λ i hi e=>by
  have e2:(if i=w.heap.size then 2 else 0)=2:=e
  rw [if_neg (by omega)] at e2
  omega)
 have L1:=aa l1
 have HP1:=aa hp1
 have C1:Hid (∀q,q<w.heap.size->uF q=0):=λ q hq=>by
  rw [c1 q (by simp; omega)]
  show (if q=w.heap.size then 2 else 0)=0
  rw [if_neg (by omega)]
 clear l1 f1 c1 h1 hg1 hp1 CO
 obtain ⟨N,hN⟩:∃N,N=1+ops.length:=⟨_,rfl⟩
 obtain ⟨lo,hlo⟩:∃lo,lo=(⟨4,0,0,⟨#[]⟩⟩:oF)::ops:=⟨_,rfl⟩
 have LON:Hid (N=lo.length):=by rw [hN,hlo]; simp only [List.length_cons]; exact aa (by omega)
 have LOB:Hid (fj lo<=1100000):=by
  rw [hlo]
  show (0:Nat)+fj ops<=1100000
  have:=SZ.out
  omega
 have hNb:N<=1100001:=by
  rcases SC.out with ⟨_,_,_,e⟩ | ⟨_,_,e,_⟩
  ·rw [hN,e]; simp
  rw [hN,<-e]; omega
 -- the list of steps
 have GR:Hid (∀gl cap W,w1.heap.size<=gl->ak w1 W->W.ownsRow 0 64 4 (.slice (some ⟨gl,0,none⟩) N cap) N (dF lo)->∃col r nx ps fs ns ms,Bu Φ w W gl N cap lo 0 0 col r nx ps fs ns ms):=λ gl cap W qg k ho=>by
  have l2:=L1.out.keep HP.out k
  have Q5:gl<W.heap.size:=(ho.lt gl rfl).2
  refine ⟨λ q=>if q<w1.heap.size then uF q else 1,r1,0,ps1,[],[],[],?_,K1.out.trans k,λ q hq=>?_,?_,ho,by rw [HP1.out]; omega,λ f hf=>(by cases hf),by rw [HP1.out]; simp⟩
  ·obtain ⟨x1,x2,x3,x4⟩:=L1.out.LJ HP.out (w':=W) (bu:=λ q=>if q<w1.heap.size then uF q else 1) ⟨k.mono (λ_ _ x=>x.elim),λ q hq=>by show (if q<w1.heap.size then uF q else 1)=uF q; rw [if_pos hq]⟩
   refine ⟨l2.blk,?_,l2.ol,l2.of,l2.GJ,l2.Kq,l2.OP,l2.GK,λ q hq=>?_,l2.Vx,x1,x2,x3,x4⟩
   ·show (if w.heap.size<w1.heap.size then uF w.heap.size else 1)=2
    rw [if_pos L1.out.blk.lt]; exact L1.out.cg
   show (if q<w1.heap.size then uF q else 1)=2
   rw [if_pos (L1.out.rl q hq).2]; exact L1.out.cr q hq
  ·show (if q<w1.heap.size then uF q else 1)=0
   have:=K1.out.size
   rw [if_pos (by omega)]; exact C1.out q hq
  show (if gl<w1.heap.size then uF gl else 1)=1
  rw [if_neg (by omega)]
 have hw1:w.heap.size<w1.heap.size:=L1.out.blk.lt
 have hrow:=World.ownsRow_lit (base:=0) (e:=64) (size:=4) w1 #[.int .i64 4,.int .i64 0,.int .i64 0,.string ⟨#[]⟩] 1 (by omega) (by decide) rfl
 obtain ⟨W2,yT⟩:∃W2,W2=w1.alloc (.cells #[.int .i64 4,.int .i64 0,.int .i64 0,.string ⟨#[]⟩] 64):=⟨_,rfl⟩
 obtain ⟨g2,OE⟩:∃g2,g2=w1.heap.size:=⟨_,rfl⟩
 have K2:ak w1 W2:=by rw [yT]; exact (Fr.refl _ w1).alloc _
 rw [<-yT,<-OE] at hrow
 have Oy:=aa yT
 have VF:=aa OE
 have VG:=aa K2
 have HN:=aa hN
 have HLO:=aa hlo
 clear yT OE K2 hN hlo
 go_upto_region 6 with fail
 rw [<-Oy.out,<-VF.out]
 go_cut [7] from 19 to 21 (λ s7 wc=>∃gl cap,s7=.slice (some ⟨gl,0,none⟩) N cap/\∃col r nx ps fs ns ms,Bu Φ w wc gl N cap lo 0 0 col r nx ps fs ns ms)
 case first =>
  rcases SC.out with ⟨rfl,rfl,rfl,rfl⟩ | ⟨ad,rfl,rfl,hab,hac⟩
  ·have E6:=aa (GR.out g2 1 W2 (by rw [VF.out]; exact Nat.le_refl _) VG.out (by rw [HLO.out,HN.out]; exact hrow))
   have hN1:N=1:=HN.out
   go_wp2_with (at_builtin; refine wpList_append_own_none rfl _ _ 22 rfl 0 64 i0 4 Tryz.underlying22 HI.out _ _ _ rfl hrow rfl ?_)
   go_meet
   exact ⟨g2,1,by rw [hN1],E6.out⟩
  have VH:∀j u,(dF ops)[j]?=some u->W2.cell? (ad.add j)=some u:=λ j u hj=>by
   have e1:(ad.add j).block=ad.block:=by unfold Addr.add; split<;>rfl
   exact ((K1.out.trans VG.out).cell (p:=ad.add j) (by rw [e1]; exact hab) id).trans (hac j u hj)
  have HAC:=aa VH
  clear VH
  go_wp2_with (at_builtin; refine wpList_append_own_at _ rfl _ _ 22 rfl 0 64 i0 _ 4 40 Tryz.underlying22 HI.out ia.out gO.out ic.out rfl (by decide) (.slice (some ⟨g2,0,none⟩) 1 1) 1 #[.int .i64 4,.int .i64 0,.int .i64 0,.string ⟨#[]⟩].toList rfl hrow ad ops.length _ (dF ops) rfl (mF ops) HAC.out (nM ops) (by unfold maxLen; omega) (by omega) (Nat.zero_le _) ?_)
  intro v' w3 bI hgrow _ bN
  have F3:ak w1 w3:=VG.out.grown hgrow (λ k hk=>by
   have e:g2=k:=Option.some.inj hk
   have:=VF.out
   exact Or.inl (by omega))
  obtain ⟨gl,cap,rfl,_,_⟩:=bI.form (by omega)
  have qg:w1.heap.size<=gl:=by
   have e2:=VF.out
   rcases bN with e | e
   ·have:gl=g2:=Option.some.inj e
    omega
   have:gl=W2.heap.size:=Option.some.inj e
   have:=VG.out.size
   omega
  have QB:N=1+ops.length:=HN.out
  have E6:=aa (GR.out gl cap w3 qg F3 (by rw [HLO.out,QB]; exact bI))
  clear bI hgrow bN F3
  go_wp2
  go_meet
  exact ⟨gl,cap,by rw [QB],E6.out⟩
 case rest =>
  obtain ⟨gl,cap,rfl,aam,r0,nx0,ps0,fs0,ns0,ms0,hL0⟩:=hcut
  have L0:=aa hL0
  clear hL0 hrow GR L1 HP1 C1 hw1 K1 VG Oy VF SC
  go_wp2
  go_loopw [6,8,9] (λ_ i _ wr=>∃(k:Nat) (col:Nat->Nat) (r:Rv) (nx:Nat) (ps:List PX) (fs:List FX) (ns ms:List (Value×Int)),k<=N/\i=.int .i64 k/\Bu Φ w wr gl N cap lo (fj (lo.take k)) k col r nx ps fs ns ms) (λ_ i _ _=>N - (intOf i).toNat)
  case atStart=>exact ⟨0,aam,r0,nx0,ps0,fs0,ns0,ms0,Nat.zero_le _,rfl,L0.out⟩
  case round =>
   clear L0
   obtain ⟨k,col,r,nx,ps,fs,ns,ms,hk,rfl,hL⟩:=hrel
   have LL:=aa hL
   have hcn:=hL.n
   clear hL
   by_cases hlt:k<N
   ·have hki:(k:Int)<(N:Int):=by omega
    have LI:k<lo.length:=by rw [<-LON.out]; exact hlt
    have q0:=(LL.out.row.cellAt (k * 4) (by omega)).trans ((gh _ k 0 LI (by omega)))
    have q1:=(LL.out.row.cellAt (k * 4+1) (by omega)).trans ((gh _ k 1 LI (by omega)))
    have q2:=(LL.out.row.cellAt (k * 4+2) (by omega)).trans ((gh _ k 2 LI (by omega)))
    have q3:=(LL.out.row.cellAt (k * 4+3) (by omega)).trans ((gh _ k 3 LI (by omega)))
    have BT:=aa (zD lo k LI)
    have BL:=wQ lo (k+1)
    have BLO:=LOB.out
    rw [BT.out] at BL
    generalize lo[k]'LI=o at *
    simp only [oF.cells,List.getElem?_cons_zero,List.getElem?_cons_succ] at q0 q1 q2 q3
    have AM:=aa (LW (w:=wr) (g:=sZ) (fM:=fM) (λ i hi=>(LL.out.f.cell (p:=⟨sZ,i,none⟩) Yz id).trans (PL.out i hi)) (by rw [<-VD.out]; exact OS) o.k)
    rw [<-VD.out] at AM
    have ST:Hid (o.k ∈ fM->Calls Tryz.prog 30 #[.pointer (some ⟨w.heap.size,0,none⟩),.agg #[.int .i64 o.k,.int .i64 o.p,.int .i64 o.m,.string o.s]] wr λ e w'=>e=.returned (.bool true)/\∃bu r' sX ps' fs' ns' ms',Bu Φ w w' gl N cap lo (fj (lo.take (k+1))) (k+1) bu r' sX ps' fs' ns' ms'):=λ hm=>by
     refine (wR.out wr w.heap.size col r nx ps fs ns ms (fj (lo.take k)) (HE.out.keep LL.out.f) LL.out.l LL.out.p0 (by omega) (by omega) (by omega) (by omega) (by omega) LL.out.b o.k o.p o.m o.s hm (by omega)).mono ?_
     rintro e w' ⟨rfl,hs⟩
     refine ⟨rfl,?_⟩
     rw [BT.out]
     exact LL.out.step hs
    have SK:Hid (Bu Φ w wr gl N cap lo (fj (lo.take (k+1))) (k+1) col r nx ps fs ns ms):=LL.out.more (by rw [BT.out]; omega)
    clear LI BL BLO hcn LL
    go_wp2_with fail
    refine (AM.out).mono ?_
    rintro e w4 ⟨rfl,rfl⟩
    by_cases hm:o.k ∈ fM
    ·have e1:decide (o.k ∈ fM)=true:=decide_eq_true hm
     have ST2:=aa (ST.out hm)
     rw [e1]
     clear e1 hm ST AM
     go_wp2_with fail
     refine (ST2.out).mono ?_
     rintro e w5 ⟨rfl,h5⟩
     have H5:=aa h5
     clear h5 q0 q1 q2 q3
     go_wp2
     go_roundw
     case rel =>
      obtain ⟨bu,r',sX,ps',fs',ns',ms',h6⟩:=H5.out
      exact ⟨k+1,bu,r',sX,ps',fs',ns',ms',by omega,by go_num,h6⟩
     case measure=>simp [intOf]; omega
    have e1:decide (o.k ∈ fM)=false:=decide_eq_false hm
    rw [e1]
    clear e1 hm ST AM
    go_wp2
    go_roundw
    case rel=>exact ⟨k+1,col,r,nx,ps,fs,ns,ms,by omega,by go_num,SK.out⟩
    case measure=>simp [intOf]; omega
   have hki:¬(k:Int)<(N:Int):=by omega
   have hkN:k=N:=by omega
   obtain ⟨F,hF⟩:∃F,F=fs.length:=⟨_,rfl⟩
   have hFN:F<=N:=by omega
   have GS:Hid (∃(col:Nat->Nat) (r:Rv) (nx:Nat) (ps:List PX) (fs:List FX) (ns ms:List (Value×Int)),fs.length=F/\Bu Φ w wr gl N cap lo 1100000 (N+0) col r nx ps fs ns ms):=by
    refine ⟨col,r,nx,ps,fs,ns,ms,hF.symm,?_⟩
    have h1:=LL.out
    have h2:=wQ lo k
    have h3:=LOB.out
    rw [hkN] at h1 h2
    exact ⟨h1.l,h1.f,h1.c0,h1.cl,h1.row,h1.p0,λ f hf=>by have:=h1.b f hf; omega,h1.n⟩
   clear LL hcn hkN hF
   go_wp2
   go_loopw [6,10] (λ_ i wr=>∃(t:Nat),t<=F/\i=.int .i64 t/\∃(col:Nat->Nat) (r:Rv) (nx:Nat) (ps:List PX) (fs:List FX) (ns ms:List (Value×Int)),fs.length=F/\Bu Φ w wr gl N cap lo 1100000 (N+t) col r nx ps fs ns ms) (λ_ i _=>F - (intOf i).toNat)
   case atStart=>exact ⟨0,Nat.zero_le _,rfl,GS.out⟩
   case round =>
    clear GS
    obtain ⟨t,ht,rfl,col,r,nx,ps,fs,ns,ms,hF,hL⟩:=hrel
    have LL:=aa hL
    have hcn:=hL.n
    obtain ⟨fa,fc,hrf⟩:=ah hL.l.of
    have b1:wr.cell? ⟨w.heap.size,1,none⟩=some (.slice fa F fc):=by
     have:wr.cell? ⟨w.heap.size,1,none⟩=some r.f:=hL.l.blk.cell 1
     rw [this,hrf,hF]
    clear hL hrf
    by_cases htF:t<F
    ·have Vv:(t:Int)<(F:Int):=by omega
     have ST:Hid (Calls Tryz.prog 30 #[.pointer (some ⟨w.heap.size,0,none⟩),.agg #[.int .i64 6,.int .i64 0,.int .i64 (t:Nat),.string ⟨#[]⟩]] wr λ e w'=>e=.returned (.bool true)/\∃(col:Nat->Nat) (r:Rv) (nx:Nat) (ps:List PX) (fs:List FX) (ns ms:List (Value×Int)),fs.length=F/\Bu Φ w w' gl N cap lo 1100000 (N+(t+1)) col r nx ps fs ns ms):=by
      refine (HCL.out wr w.heap.size col r nx ps fs ns ms 1100000 (HE.out.keep LL.out.f) LL.out.l LL.out.p0 (by omega) (by omega) (by omega) (by omega) (by omega) (by omega) LL.out.b (Nat.le_refl _) t (by omega)).mono ?_
      rintro e w' ⟨rfl,bu,r',sX,ps',fs',ns',ms',h1,h2,h3,h4,h5,h6,h7,h8,h9⟩
      refine ⟨rfl,?_⟩
      have hst:eO Φ w.heap.size col ⟨ps.length,fs.length,ns.length,ms.length,nx,1100000⟩ wr w':=⟨bu,r',sX,ps',fs',ns',ms',h1,h2,h3,⟨by simp only; omega,by simp only; omega⟩,⟨by simp only; omega,by simp only; omega⟩,h6,h7,h8,h9⟩
      have hg:gl<wr.heap.size:=(LL.out.row.lt gl rfl).2
      have n:=LL.out.n
      refine ⟨bu,r',sX,ps',fs',ns',ms',by omega,h1,?_,λ q hq=>?_,by rw [h3 gl hg]; exact LL.out.cl,bO LL.out.row (λ q hq=>h2.block q (LL.out.row.lt q hq).2 (λ y=>?_)),by rw [h4]; exact LL.out.p0,h9,by omega⟩
      ·exact ⟨h2.os.trans LL.out.f.os,h2.tape.trans LL.out.f.tape,h2.output.trans LL.out.f.output,Nat.le_trans LL.out.f.size h2.size,λ q hq _=>(h2.block q (Nat.lt_of_lt_of_le hq LL.out.f.size) (λ y=>by have:=LL.out.c0 q hq; omega)).trans (LL.out.f.block q hq id)⟩
      ·rw [h3 q (Nat.lt_of_lt_of_le hq LL.out.f.size)]; exact LL.out.c0 q hq
      have e:gl=q:=Option.some.inj hq
      subst e
      have:=LL.out.cl
      omega
     clear LL hcn hF
     go_wp2_with fail
     refine (ST.out).mono ?_
     rintro e w5 ⟨rfl,h5⟩
     have H5:=aa h5
     clear h5 b1
     go_wp2
     go_roundw
     case rel=>exact ⟨t+1,by omega,by go_num,H5.out⟩
     case measure=>simp [intOf]; omega
    have Vv:¬(t:Int)<(F:Int):=by omega
    have LK:=aa (GH LL.out.l.blk LL.out.l.GJ LL.out.l.Kq LL.out.l.OP LL.out.l.GK LL.out.l.nk LL.out.l.km (by omega) (by omega))
    have KW':=aa LL.out.f
    clear LL hcn hF
    go_wp2_with fail
    refine (LK.out).mono ?_
    rintro e w6 ⟨rfl,k6⟩
    have K6:=aa (KW'.out.trans k6)
    clear k6
    go_wp2
    go_ret
    exact ⟨rfl,K6.out⟩
end Go.Proofs.YtcbadebjpogmlaaGreatDoor
namespace Go.Proofs.YtcbadebjpogmlaaGreatDoor
open Go.ChangeShapes Go.WideShapes Go.ChangeAt Go.RowKit
section
variable {H:Type} {enc:TypeId×Value->H} {P:Program} {w:World} {base:Nat} {spare:Nat->Bool} {held:Bool}
theorem LY {t ti ts:TypeId} {f0 f1 f2 f3:Field} (hu:P.underlying t=some (.struct #[f0,f1,f2,f3])) (h0:f0.type=ti/\f0.offset=0) (h1:f1.type=ti/\f1.offset=1) (h2:f2.type=ti/\f2.offset=2)
 (h3:f3.type=ts/\f3.offset=3) (hi:P.underlying ti=some (.int .i64)) (hs:P.underlying ts=some .string) (ct:P.cellsOf t=4) (ci:P.cellsOf ti=1) (cs':P.cellsOf ts=1)
 {fuel:Nat} {cs:List Value} {x:DataW H×List MemPlace} (h:DataW.trod enc P w base spare held fuel t cs=some x):∃o:oF,cs=o.cells/\o.s.size+1<=Rows.uptoBulk x.1:=by
 obtain ⟨xs,n,_,hx,hl,hlen,hf⟩:=DataW.trod_struct hu h
 rw [ct] at hl
 obtain ⟨c0,c1,c2,c3,rfl⟩:=four hl
 have hlen':xs.length=4:=by simpa using hlen
 obtain ⟨y0,y1,y2,y3,rfl⟩:=four hlen'
 have e0:=hf 0 f0 rfl
 have e1:=hf 1 f1 rfl
 have e2:=hf 2 f2 rfl
 have e3:=hf 3 f3 rfl
 rw [h0.1,h0.2,ci] at e0
 rw [h1.1,h1.2,ci] at e1
 rw [h2.1,h2.2,ci] at e2
 rw [h3.1,h3.2,cs'] at e3
 simp at e0 e1 e2 e3
 obtain ⟨k0,h0,_,_⟩:=DataW.trod_int hi e0
 obtain ⟨k1,h1,_,_⟩:=DataW.trod_int hi e1
 obtain ⟨k2,h2,_,_⟩:=DataW.trod_int hi e2
 obtain ⟨s,h3,h4,_⟩:=DataW.trod_string hs e3
 simp at h0 h1 h2 h3
 refine ⟨⟨k0,k1,k2,s⟩,by simp [oF.cells,h0,h1,h2,h3],?_⟩
 rw [hx]
 simp only [List.map_cons,List.map_nil,Rows.uptoBulk,Rows.uptoBulkAll]
 rw [h4]
 simp only [Rows.uptoBulk]
 have:s.data.toList.length=s.size:=rfl
 omega
end
theorem GU {H:Type} {enc:TypeId×Value->H} {w:World} {base:Nat} {spare:Nat->Bool} {held:Bool} {fuel:Nat} {cs:List Value} {x:DataW H×List MemPlace}
 (h:DataW.trod enc Tryz.prog w base spare held fuel 64 cs=some x):∃o:oF,cs=o.cells/\o.s.size+1<=Rows.uptoBulk x.1:=by
 obtain ⟨f0,f1,f2,f3,hu,h0,h1,h2,h3⟩:=wI
 exact LY hu h0 h1 h2 h3 Tryz.underlying3 Tryz.underlying9 pQ jH qn h
theorem GW {H:Type} (D:Nat->DataW H) (f:Nat->oF):∀n,(∀i,i<n->(f i).s.size+1<=Rows.uptoBulk (D i))->∀m,m<=n->fj (((List.range n).map f).drop (n - m))+m<=Rows.uptoBulkAll (((List.range n).map D).drop (n - m)):=by
 intro n h m
 induction m with
 | zero=>intro _; rw [Nat.sub_zero,List.drop_of_length_le (by simp),List.drop_of_length_le (by simp)]; simp [fj,Rows.uptoBulkAll]
 | succ m ih =>
  intro hm
  have ih:=ih (by omega)
  have h1:n - (m+1)<((List.range n).map f).length:=by simp; omega
  have h2:n - (m+1)<((List.range n).map D).length:=by simp; omega
  rw [List.drop_eq_getElem_cons h1,List.drop_eq_getElem_cons h2,show n - (m+1)+1=n - m by omega]
  simp only [fj,Rows.uptoBulkAll,List.getElem_map,List.getElem_range]
  have:=h (n - (m+1)) (by omega)
  omega
theorem zE {w:World} {base n:Nat} {a:Addr} {cs:List Value} (h:w.cells? base a n=some cs) {j:Nat} {u:Value} (hj:cs[j]?=some u):w.cell? (a.add j)=some u:=by
 obtain ⟨_,hl,hc⟩:=World.cells?_some h
 have hlt:j<n:=by rw [<-hl]; exact (List.getElem?_eq_some_iff.1 hj).1
 rw [hc j hlt]; exact hj
theorem uG {P:Program} {w:World} {base:Nat} {t e:TypeId} {v:Value} (ht:P.underlying t=some (.slice e)) (h:Value.okWide P w .any base t v) :
 v=.slice none 0 0\/∃a len cap,v=.slice (some a) len cap/\a.block<w.heap.size:=by
 simp only [Value.okWide,Cell.okWide,Cell.ok,ht] at h
 split at h
 all_goals first
  | (rename_i heq; cases heq; done)
  | exact Or.inl rfl
  | (obtain ⟨_,_,_,_,_,_,hs,_⟩:=h; refine Or.inr ⟨_,_,_,rfl,?_⟩; unfold World.shape? at hs; split at hs<;>first | (rename_i hh; exact bH hh) | cases hs)
  | exact absurd h id
section
variable {H:Type} {enc:TypeId×Value->H} {W:World}
theorem uH {base:Nat} {v:Value} {d:DataW H} {pl:List MemPlace} (hok:Value.okWide Tryz.prog W .any base 22 v) (h:DataW.Trod enc Tryz.prog W 0 (λ_=>true) true 22 v d pl) {B:Nat} (hb0:Rows.uptoBulk d<=B) :
 ∃(a:Option Addr) (n cp:Nat) (ops:List oF),v=.slice a n cp/\mG W a n cp ops/\n<=B/\fj ops<=B:=by
 obtain ⟨fuel,h⟩:=h
 rcases uG Tryz.underlying22 hok with rfl | ⟨a,len,cap,rfl,hb⟩
 ·exact ⟨none,0,0,[],rfl,Or.inl ⟨rfl,rfl,rfl,rfl⟩,Nat.zero_le _,Nat.zero_le _⟩
 rcases Deep.open_slice Tryz.underlying22 h with ⟨e,he⟩ | ⟨a',len',cap',m,n,D,Pl,e,_,hl,hm,OT,hx,hc⟩
 ·simp [Value.cells] at e
 simp only [Value.cells,List.cons.injEq,Value.slice.injEq,Option.some.injEq,and_true] at e
 obtain ⟨rfl,rfl,rfl⟩:=e
 simp only [if_true] at OT
 subst OT
 rw [pQ] at hc
 have hd:d=.slice ((List.range len).map D) ((List.range (m - len)).map λ j=>D (len+j)):=congrArg Prod.fst hx
 haveI:Inhabited oF:=⟨⟨0,0,0,⟨#[]⟩⟩⟩
 obtain ⟨f,hf⟩:=Deep.choose_lt (α:=oF) (p:=λ i o=>W.cells? 0 (a.add (i * 4)) 4=some o.cells/\o.s.size+1<=Rows.uptoBulk (D i)) (n:=len) (λ i hi=>by
  obtain ⟨cs,hcs,Ku⟩:=hc i (by omega)
  obtain ⟨o,rfl,ho⟩:=GU Ku
  exact ⟨o,hcs,ho⟩)
 have VI:=GW D f len (λ i hi=>(hf i hi).2) len (Nat.le_refl _)
 rw [Nat.sub_self,List.drop_zero,List.drop_zero] at VI
 rw [hd] at hb0
 simp only [Rows.uptoBulk] at hb0
 refine ⟨some a,len,_,(List.range len).map f,rfl,Or.inr ⟨a,rfl,by simp,hb,λ j u hj=>?_⟩,by omega,by omega⟩
 have hjl:j<len * 4:=by
  have:=(List.getElem?_eq_some_iff.1 hj).1
  rw [mF] at this
  simpa using this
 have e:j=j / 4 * 4+j % 4:=by omega
 have hk:j / 4<len:=by omega
 rw [e] at hj ⊢
 rw [gh _ (j / 4) (j % 4) (by simpa using hk) (by omega)] at hj
 have e2:((List.range len).map f)[j / 4]'(by simpa using hk)=f (j / 4):=by simp
 rw [e2] at hj
 have:=zE (hf (j / 4) hk).1 hj
 rwa [Deep.add_add] at this
theorem wS {W':World} {sp:Nat->Bool} {v:Value} {d:DataW H} {pl:List MemPlace} (h:DataW.Trod enc Tryz.prog W 0 (λ_=>true) true 22 v d pl) (hlt:∀p ∈ pl,p.block<W.heap.size) (hk:ak W W') (hsp:∀p ∈ pl,sp p.block=true):DataW.Trod enc Tryz.prog W' 0 sp true 22 v d pl:=by
 obtain ⟨fuel,ht⟩:=h
 exact ⟨fuel,DataW.trod_stays (w':=W') (sp':=sp) Gq UW (λ hh=>by cases hh) (Or.inl rfl) ht (λ p hp=>by
  have hb:=hlt p hp
  cases p with
  | cell b off=>exact hk.cell (p:=⟨b,off,none⟩) hb id
  | map b=>exact hk.block b hb id) (λ p hp=>hsp p hp)⟩
end
end Go.Proofs.YtcbadebjpogmlaaGreatDoor
namespace Go.Proofs.YtcbadebjpogmlaaGreatDoor
open Go.RowKit Tr
def NoF:World->(Nat->Nat)->FX->Prop:=λ_ _ _=>False
theorem zF:lO NoF:=λ_ _ _ _ _ h=>h.elim
theorem Dc:Bv NoF:=λ_ _ _ _ _ _ fs _ _ _ _ h _ hf=>by
 obtain ⟨f,hm⟩:∃f,f ∈ fs:=by
  cases fs with
  | nil=>simp at hf
  | cons f r=>exact ⟨f,List.mem_cons_self⟩
 exact (h.fk f hm).elim
theorem Dd:GP NoF (λ k=>k ∈ ([1,3]:List Int)):=λ w gw col r nx ps fs ns ms b hE h hp Kl _ hn _ hx hb k at_ m s hk hs=>by
 have hb':∀f ∈ fs,f.p.size<=b+s.size:=λ f hf=>Nat.le_trans (hb f hf) (Nat.le_add_right _ _)
 simp only [List.mem_cons,List.not_mem_nil,or_false] at hk
 rcases hk with e | e
 ·exact LQ zF hE h hb' Kl k at_ m e s (by unfold maxLen; omega)
 exact LU zF hE h hb' hp hn hx k at_ m e s (by omega)
theorem De {w:World} (hE:EN w) {a:Option Addr} {n cp:Nat} {ops:List oF} (hsc:mG w a n cp ops) (hn:n<=1100000) (hsz:fj ops<=1100000) :
 Calls Tryz.prog 4 #[.slice a n cp] w λ r w'=>r=.returned (.bool true)/\ak w w':=by
 have F1:=aa ((Fr.refl (λ_=>False) w).alloc (.cells #[.int .i64 1,.int .i64 3] 3))
 have B1:=ay.new w #[.int .i64 1,.int .i64 3] 3
 have SC:mG (w.alloc (.cells #[.int .i64 1,.int .i64 3] 3)) a n cp ops:=by
  rcases hsc with h | ⟨ad,h1,h2,h3,h4⟩
  ·exact Or.inl h
  refine Or.inr ⟨ad,h1,h2,by simp; omega,λ j u hj=>?_⟩
  have e1:(ad.add j).block=ad.block:=by unfold Addr.add; split<;>rfl
  exact (F1.out.cell (p:=ad.add j) (by rw [e1]; exact h3) id).trans (h4 j u hj)
 have PLY:=aa (LX zF Dd Dc (hE.keep F1.out) SC (sZ:=w.heap.size) (λ i hi=>by
  have:i=0\/i=1:=by simp at hi; omega
  rcases this with rfl | rfl
  ·exact B1.cell 0
  exact B1.cell 1) (by simp) (by simp) hn hsz)
 clear hE hsc hsz hn B1 SC
 go_enter Tryz.func4,Tryz.ntmps4
 go_wp2_with fail
 refine (PLY.out).mono ?_
 rintro r w2 ⟨rfl,k2⟩
 have K2:=aa (F1.out.trans k2)
 clear k2
 go_wp2
 go_ret
 exact ⟨rfl,K2.out⟩
end Go.Proofs.YtcbadebjpogmlaaGreatDoor
namespace Go.Proofs.YtcbadebjpogmlaaGreatDoor
open Go.ChangeShapes Go.WideShapes Go.ChangeAt Go.RowKit Go.ChangeMaps
section
variable {H:Type}
theorem nO (enc:TypeId×Value->H) (W:World) (base:Nat) (args:Array Value) (ds gs:List (DataW H)) (before:List MemPlace) (hX:EN W)
 (hval:∀(j:Nat) t v,Tryz.f4.params[j]?=some t->args[j]?=some v->Value.okWide Tryz.prog W .any base t v)
 (hW:DataW.Whole enc Tryz.prog Tryz.f4.params.toList Rows.selectsSpec.vars false W args.toList ds gs before)
 (hk:Rows.uptoSmall H (ds++gs)=true) :
 Calls Tryz.prog 4 args W λ e W'=>∃v,e=.returned v/\Rows.selectsSpec.post enc Tryz.prog Tryz.f4 false true false false W args v W':=by
 have hW':=hW
 have hlt:=hW.lt
 obtain ⟨p,q,hA0,hV,rfl,hfz,hnd⟩:=hW
 have hA:DataW.TrodAll enc Tryz.prog W 0 (λ_=>true) true Tryz.f4.params.toList args.toList ds p:=hA0
 rw [Tryz.params4] at hA hval
 obtain ⟨v0,vs0,d0,ds0,p0,q0,hargs,rfl,rfl,h0,r0⟩:=trodAll_cons hA
 obtain ⟨rfl,rfl,rfl⟩:=trodAll_nil r0
 obtain rfl:args=#[v0]:=by cases args; simp_all
 obtain ⟨rfl,rfl⟩:=trodVars_none hV
 clear hA0 hA
 simp only [List.append_nil] at hW' hk hlt
 have hb:=of_decide_eq_true hk
 simp only [Rows.uptoBulkAll] at hb
 obtain ⟨a,n,cp,ops,rfl,hsc,hn,hs⟩:=uH (B:=1048576) (hval 0 22 v0 rfl rfl) h0 (by omega)
 refine (De hX hsc (by omega) (by omega)).mono ?_
 rintro e W' ⟨rfl,hk'⟩
 refine ⟨_,rfl,zv (pa:=p0) (pv:=[]) hW' (λ_ _ _=>trodAll_cons_mk (shut_bool Tryz.underlying4 _) trodAll_mk0) (λ sp hsp=>?_) (λ_ _=>rfl) (by simp) hk' (ok_one (by kernel_rfl) rfl (okWide_bool_mk Tryz.underlying4 _))⟩
 have r:=trodAll_cons_mk (ts:=[]) (wS (sp:=sp) h0 (λ p hp=>hlt p hp) hk' (λ p hp=>hsp p hp)) trodAll_mk0
 rw [Tryz.params4]
 simp only [List.append_nil] at r
 exact r
end
end Go.Proofs.YtcbadebjpogmlaaGreatDoor
