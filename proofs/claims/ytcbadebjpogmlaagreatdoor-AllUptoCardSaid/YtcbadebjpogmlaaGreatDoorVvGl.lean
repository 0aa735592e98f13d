import Derived.Test.YtcbadebjpogmlaaGreatDoorVvGb
import Derived.Test.YtcbadebjpogmlaaGreatDoorVvAe
import Derived.Test.YtcbadebjpogmlaaGreatDoorVvSg
import Derived.Laws.AppendOwnNone
import Derived.ProofKit
import Derived.Deep.Slices
import Derived.Test.YtcbadebjpogmlaaGreatDoorCards
import Derived.OpenShut
import Derived.Deep.Onto
set_option maxHeartbeats 4000000
set_option maxRecDepth 100000
namespace Go.Proofs.YtcbadebjpogmlaaGreatDoor
open Go.RowKit Tr Go.Proofs.Tryz
theorem Jq{w:World}(v:Value):Calls prog 50 #[v] w λr a=>r=.returned (.bool true)/\a=w:=by go_enter func50,ntmps50;go_wp2;go_ret;exact⟨rfl,rfl⟩
theorem Jr{w:World}{a b:Nat}{c:Option Addr}(h:V w a #[.pointer c] 71):Calls prog 51 #[pT b,pT a] w λr d=>r=.returned (.tuple #[])/\V d a #[pT b] 71/\Fr (λk=>k=a) w d:=by have c0:w.cell? (aD a 0)=some (.pointer c):=h.cell 0;have g:=h.fz;have e:=Z (h.set 0 (pT b));have f:Hid (Fr (λk=>k=a) w (w.setCell (aD a 0) (pT b))):=(Fr.refl (λk=>k=a) w).setCell (aD a 0) (Y rfl) _;clear h;go_enter func51,ntmps51;go_wp2;go_end0;exact⟨rfl,e.o,f.o⟩
def XD:Value:=.func (.func 50) #[] #[]
def XE(a:Nat):Value:=.func (.func 51) #[] #[pT a]
def rgc(d:Nat)(_:Option Addr)(a b c:Value):Array Value:=#[XD,XE d,a,b,c]
def rS(a:Nat)(w:World)(D:Nat->Prop)(x:Option Addr):Prop:=(∀k,D k↔k=a)/\V w a #[.pointer x] 71
theorem YK(a:Nat):vx 119 0 XD (XE a) (rgc a)where
 c0:=λh=>h.cell 0
 c1:=λh=>h.cell 1
 c2:=λh=>h.cell 2
 c3:=λh=>h.cell 3
 c4:=λh=>h.cell 4
 s2:=λv h=>h.set 2 v
 s3:=λv h=>h.set 3 v
 s4:=λv h=>h.set 4 v
theorem UW(i g:Nat):I7 g 119 (rgc i) XD (XE i) (rS i) (λ_=>true) (λx _ _ _ m=>m=x) (λ_ _ _ b m=>m=sA b) (λ_ _ _ _=>True) (λ_ _ _ _=>True)where
 lt:=λh q=>by rw[(h.1 _).1 q];exact h.2.lt
 keep:=λh s _=>⟨h.1,(s _ ((h.1 _).2 rfl)).trans h.2⟩
 Am:=⟨_,_,_,rfl,λ_ _=>Tryz.call50 _ _,λ{w D x A C bd r f M a b c}d o _ _ _ _ _ _=>by refine(Jq (w:=w) (lF (A f.d.af))).mono ?_;grind[Fr.refl]⟩
 closed:=⟨_,_,_,rfl,λ_ _=>Tryz.call51 _ _,λ{w D x A C bd r f M a b c}d o _ _ _ j _ _=>by refine(Jr (b:=A f.d.af) d.2).mono ?_;rintro t u⟨rfl,p,n⟩;have l:=(d.1 i).2 rfl;refine⟨rfl,D,_,rfl,⟨d.1,p⟩,o.fr n λe=>(j i l).2.2 e.symm,λk=>Y,n.mono λk _ e=>Y ((d.1 k).2 e)⟩⟩
theorem jq(k:Nat):fV k []=[]:=by unfold fV;split<;>rfl
theorem Fr.tz{a w:World}{r:Nat}(h:Fr (λk=>k=r) a w)(b c d e f g:Value):Fr (λk=>k=r) a ((((((w.setCell (aD r 3) b).setCell (aD r 4) c).setCell (aD r 5) d).setCell (aD r 6) e).setCell (aD r 7) f).setCell (aD r 8) g):=(((((h.setCell (aD r 3) (Y rfl) _).setCell (aD r 4) (Y rfl) _).setCell (aD r 5) (Y rfl) _).setCell (aD r 6) (Y rfl) _).setCell (aD r 7) (Y rfl) _).setCell (aD r 8) (Y rfl) _
variable{c:List Tr.Tok->Tr.Tok->Prop}{a:Sn}{b:List Tr.Tok}
theorem ki{S:World->(Nat->Prop)->List Tr.Tok->Prop}{g:Value}(n:gn g S c){w:World}{r j:Nat}{d:Nat->Prop}(h:RM S g r j a b d w)(o:a.tx=[])(f:Nat):Calls prog 183 #[pT r,.int .i64 (f:Nat)] w (RP S g r j (dK a f) b d w):=by obtain⟨s,p,q,D,i,k,l,m⟩:=h.ex;have c1:w.cell? (aD r 1)=some (.int .i64 (a.at':Nat)):=i.b.cell 1;have c3:w.cell? (aD r 3)=some (.int .i64 (a.tk.k:Nat)):=i.b.cell 3;have c4:w.cell? (aD r 4)=some (.int .i64 (a.tk.of:Nat)):=i.b.cell 4;have c5:w.cell? (aD r 5)=some (.int .i64 (a.tk.af:Nat)):=i.b.cell 5;have t:w.cell? (aD r 6)=some (.int .i64 (a.tk.to:Nat)):=i.b.cell 6;have u:w.cell? (aD r 7)=some (.int .i64 a.tk.n):=i.b.cell 7;have v:w.cell? (aD r 8)=some (.string (bR (fV a.tk.k a.tk.t))):=i.b.cell 8;have x:=i.b.fz;have R:=RM.set (z':=(dK a f).z) (s1:=j) n i k l m (w':=((((((w.setCell (aD r 3) (.int .i64 (f:Nat))).setCell (aD r 4) (.int .i64 (4))).setCell (aD r 5) (.int .i64 (a.at':Nat))).setCell (aD r 6) (.int .i64 0)).setCell (aD r 7) (.int .i64 0)).setCell (aD r 8) (.string ⟨#[]⟩))) (by have e:fV f ([]:List UInt8)=[]:=jq f;have:=((((((i.b.set 3 (.int .i64 (f:Nat))).set 4 (.int .i64 (4))).set 5 (.int .i64 (a.at':Nat))).set 6 (.int .i64 0)).set 7 (.int .i64 0)).set 8 (.string ⟨#[]⟩));unfold dK;show V _ _ (vk j _ s p q g) _;unfold vk;simp only[e];exact this) (Fr.tz (Fr.refl _ w) _ _ _ _ _ _) rfl (by show fV f a.tx=_;rw[o,jq,jq]);have RR:Hid (RP S g r j (dK a f) b d w (.returned (.int .i64 6)) ((((((w.setCell (aD r 3) (.int .i64 (f:Nat))).setCell (aD r 4) (.int .i64 (4))).setCell (aD r 5) (.int .i64 (a.at':Nat))).setCell (aD r 6) (.int .i64 0)).setCell (aD r 7) (.int .i64 0)).setCell (aD r 8) (.string ⟨#[]⟩))):=⟨rfl,d,by show RM _ _ _ _ _ (b++[]) _ _;rw[gz];exact R.1,R.2⟩;clear h i k l m n R o;go_enter func183,ntmps183;go_wp2;go_ret;exact RR.o
theorem lP{S:World->(Nat->Prop)->List Tr.Tok->Prop}{f:Value}(n:gn f S c){w:World}{r j:Nat}{d:Nat->Prop}(h:RM S f r j a b d w)(o:a.tx=[])(i:Nat)(e:List UInt8):Calls prog 224 #[pT r,.int .i64 (i:Nat),.string (bR e)] w (RP S f r j (cU a i e) b d w):=by obtain⟨y,q,s,D,g,k,l,m⟩:=h.ex;have c1:w.cell? (aD r 1)=some (.int .i64 (a.at':Nat)):=g.b.cell 1;have c3:w.cell? (aD r 3)=some (.int .i64 (a.tk.k:Nat)):=g.b.cell 3;have c4:w.cell? (aD r 4)=some (.int .i64 (a.tk.of:Nat)):=g.b.cell 4;have c5:w.cell? (aD r 5)=some (.int .i64 (a.tk.af:Nat)):=g.b.cell 5;have t:w.cell? (aD r 6)=some (.int .i64 (a.tk.to:Nat)):=g.b.cell 6;have u:w.cell? (aD r 7)=some (.int .i64 a.tk.n):=g.b.cell 7;have v:w.cell? (aD r 8)=some (.string (bR (fV a.tk.k a.tk.t))):=g.b.cell 8;have p:w.cell? (aD r 11)=some (.string (bR a.rs)):=g.b.cell 11;have x:=g.b.fz;have R:=RM.set (z':=(cU a i e).z) (s1:=j) n g k l m (w':=((((((w.setCell (aD r 3) (.int .i64 (3))).setCell (aD r 4) (.int .i64 (i:Nat))).setCell (aD r 5) (.int .i64 (a.at':Nat))).setCell (aD r 6) (.int .i64 0)).setCell (aD r 7) (.int .i64 0)).setCell (aD r 8) (.string ⟨#[]⟩)).setCell (aD r 11) (.string (bR e))) (((((((g.b.set 3 (.int .i64 (3))).set 4 (.int .i64 (i:Nat))).set 5 (.int .i64 (a.at':Nat))).set 6 (.int .i64 0)).set 7 (.int .i64 0)).set 8 (.string ⟨#[]⟩)).set 11 (.string (bR e))) ((Fr.tz (Fr.refl _ w) _ _ _ _ _ _).setCell (aD r 11) (Y rfl) _) rfl (by show fV 3 a.tx=_;rw[o,jq,jq]);have RR:Hid (RP S f r j (cU a i e) b d w (.returned (.int .i64 10)) (((((((w.setCell (aD r 3) (.int .i64 (3))).setCell (aD r 4) (.int .i64 (i:Nat))).setCell (aD r 5) (.int .i64 (a.at':Nat))).setCell (aD r 6) (.int .i64 0)).setCell (aD r 7) (.int .i64 0)).setCell (aD r 8) (.string ⟨#[]⟩)).setCell (aD r 11) (.string (bR e)))):=⟨rfl,d,by show RM _ _ _ _ _ (b++[]) _ _;rw[gz];exact R.1,R.2⟩;clear h g k l m n R o;go_enter func224,ntmps224;go_wp2;go_ret;exact RR.o
theorem RM.num{S:World->(Nat->Prop)->List Tr.Tok->Prop}{e:Value}(o:gn e S c){w:World}{r f:Nat}{d:Nat->Prop}(h:RM S e r f a b d w)(p:a.tx=[]):RM S e r f {a with tk:=⟨3,3,a.at',0,0,[]⟩,sz:=0,sg:=1} b d ((((((((w.setCell (aD r 3) (.int .i64 (3))).setCell (aD r 4) (.int .i64 (3))).setCell (aD r 5) (.int .i64 (a.at':Nat))).setCell (aD r 6) (.int .i64 0)).setCell (aD r 7) (.int .i64 0)).setCell (aD r 8) (.string ⟨#[]⟩)).setCell (aD r 12) (.int .i64 0)).setCell (aD r 13) (.int .i64 1))/\Ev d w d ((((((((w.setCell (aD r 3) (.int .i64 (3))).setCell (aD r 4) (.int .i64 (3))).setCell (aD r 5) (.int .i64 (a.at':Nat))).setCell (aD r 6) (.int .i64 0)).setCell (aD r 7) (.int .i64 0)).setCell (aD r 8) (.string ⟨#[]⟩)).setCell (aD r 12) (.int .i64 0)).setCell (aD r 13) (.int .i64 1)):=by obtain⟨q,j,k,D,g,l,m,n⟩:=h.ex;have i:V ((((((w.setCell (aD r 3) (.int .i64 (3))).setCell (aD r 4) (.int .i64 (3))).setCell (aD r 5) (.int .i64 (a.at':Nat))).setCell (aD r 6) (.int .i64 0)).setCell (aD r 7) (.int .i64 0)).setCell (aD r 8) (.string ⟨#[]⟩)) r (vk f {a with tk:=⟨3,3,a.at',0,0,[]⟩} q j k e) 115:=((((((g.b.set 3 (.int .i64 (3))).set 4 (.int .i64 (3))).set 5 (.int .i64 (a.at':Nat))).set 6 (.int .i64 0)).set 7 (.int .i64 0)).set 8 (.string ⟨#[]⟩));exact RM.set (z':={a with tk:=⟨3,3,a.at',0,0,[]⟩,sz:=0,sg:=1}) (s1:=f) o g l m n (w':=((((((((w.setCell (aD r 3) (.int .i64 (3))).setCell (aD r 4) (.int .i64 (3))).setCell (aD r 5) (.int .i64 (a.at':Nat))).setCell (aD r 6) (.int .i64 0)).setCell (aD r 7) (.int .i64 0)).setCell (aD r 8) (.string ⟨#[]⟩)).setCell (aD r 12) (.int .i64 0)).setCell (aD r 13) (.int .i64 1))) ((i.set 12 (.int .i64 0)).set 13 (.int .i64 1)) (((Fr.tz (Fr.refl _ w) _ _ _ _ _ _).setCell (aD r 12) (Y rfl) _).setCell (aD r 13) (Y rfl) _) rfl (by show fV 3 a.tx=_;rw[p,jq,jq])
theorem RM.num'{S:World->(Nat->Prop)->List Tr.Tok->Prop}{e:Value}(o:gn e S c){w:World}{r f:Nat}{d:Nat->Prop}(h:RM S e r f a b d w)(p:a.tx=[]):RM S e r f {a with tk:=⟨3,3,a.at',0,0,[]⟩,sz:=0,sg:=-1,st:=8} b d (((((((((w.setCell (aD r 3) (.int .i64 (3))).setCell (aD r 4) (.int .i64 (3))).setCell (aD r 5) (.int .i64 (a.at':Nat))).setCell (aD r 6) (.int .i64 0)).setCell (aD r 7) (.int .i64 0)).setCell (aD r 8) (.string ⟨#[]⟩)).setCell (aD r 12) (.int .i64 0)).setCell (aD r 13) (.int .i64 1)).setCell (aD r 13) (.int .i64 (-1)))/\Ev d w d (((((((((w.setCell (aD r 3) (.int .i64 (3))).setCell (aD r 4) (.int .i64 (3))).setCell (aD r 5) (.int .i64 (a.at':Nat))).setCell (aD r 6) (.int .i64 0)).setCell (aD r 7) (.int .i64 0)).setCell (aD r 8) (.string ⟨#[]⟩)).setCell (aD r 12) (.int .i64 0)).setCell (aD r 13) (.int .i64 1)).setCell (aD r 13) (.int .i64 (-1))):=by obtain⟨q,j,k,D,g,l,m,n⟩:=h.ex;have i:V ((((((w.setCell (aD r 3) (.int .i64 (3))).setCell (aD r 4) (.int .i64 (3))).setCell (aD r 5) (.int .i64 (a.at':Nat))).setCell (aD r 6) (.int .i64 0)).setCell (aD r 7) (.int .i64 0)).setCell (aD r 8) (.string ⟨#[]⟩)) r (vk f {a with tk:=⟨3,3,a.at',0,0,[]⟩} q j k e) 115:=((((((g.b.set 3 (.int .i64 (3))).set 4 (.int .i64 (3))).set 5 (.int .i64 (a.at':Nat))).set 6 (.int .i64 0)).set 7 (.int .i64 0)).set 8 (.string ⟨#[]⟩));exact RM.set (z':={a with tk:=⟨3,3,a.at',0,0,[]⟩,sz:=0,sg:=-1,st:=8}) (s1:=f) o g l m n (w':=((((((((w.setCell (aD r 3) (.int .i64 (3))).setCell (aD r 4) (.int .i64 (3))).setCell (aD r 5) (.int .i64 (a.at':Nat))).setCell (aD r 6) (.int .i64 0)).setCell (aD r 7) (.int .i64 0)).setCell (aD r 8) (.string ⟨#[]⟩)).setCell (aD r 12) (.int .i64 0)).setCell (aD r 13) (.int .i64 1)).setCell (aD r 13) (.int .i64 (-1))) (((i.set 12 (.int .i64 0)).set 13 (.int .i64 1)).set 13 (.int .i64 (-1))) ((((Fr.tz (Fr.refl _ w) _ _ _ _ _ _).setCell (aD r 12) (Y rfl) _).setCell (aD r 13) (Y rfl) _).setCell (aD r 13) (Y rfl) _) rfl (by show fV 3 a.tx=_;rw[p,jq,jq])
theorem tA{S:World->(Nat->Prop)->List Tr.Tok->Prop}{j:Value}(n:gn j S c){w:World}{r v:Nat}{d:Nat->Prop}(h:RM S j r v a b d w)(H:a.tx=[])(f:Nat)(R:f<256):Calls prog 225 #[pT r,.int .u8 (f:Int)] w (RP S j r v (fL a f) b d w):=by
 obtain⟨ov,U,W,D,k,y,z,A⟩:=h.ex;have c1:w.cell? (aD r 1)=some (.int .i64 (a.at':Nat)):=k.b.cell 1;have c3:w.cell? (aD r 3)=some (.int .i64 (a.tk.k:Nat)):=k.b.cell 3;have c4:w.cell? (aD r 4)=some (.int .i64 (a.tk.of:Nat)):=k.b.cell 4;have c5:w.cell? (aD r 5)=some (.int .i64 (a.tk.af:Nat)):=k.b.cell 5;have c6:w.cell? (aD r 6)=some (.int .i64 (a.tk.to:Nat)):=k.b.cell 6;have c7:w.cell? (aD r 7)=some (.int .i64 a.tk.n):=k.b.cell 7;have c8:w.cell? (aD r 8)=some (.string (bR (fV a.tk.k a.tk.t))):=k.b.cell 8;have N:w.cell? (aD r 12)=some (.int .i64 (a.sz:Nat)):=k.b.cell 12;have P:w.cell? (aD r 13)=some (.int .i64 a.sg):=k.b.cell 13;have fz:=k.b.fz;have o:=Z λw=>t_ (w:=w) f R;have l:=RM.num n h H;have p:=RM.num' n h H;have u:f=45->fL a f=⟨{a with tk:=⟨3,3,a.at',0,0,[]⟩,sz:=0,sg:=-1,st:=8},[]⟩:=by intro g;unfold fL;rw[ae g]
 obtain⟨t,i⟩:∃t:Sn,t={a with tk:=⟨3,3,a.at',0,0,[]⟩,sz:=0,sg:=1}:=⟨_,rfl⟩;rw[<-i]at l;by_cases g:f=45;.rw[u g];have RR:Hid (RP S j r v ⟨{a with tk:=⟨3,3,a.at',0,0,[]⟩,sz:=0,sg:=-1,st:=8},[]⟩ b d w (.returned (.int .i64 8)) (((((((((w.setCell (aD r 3) (.int .i64 (3))).setCell (aD r 4) (.int .i64 (3))).setCell (aD r 5) (.int .i64 (a.at':Nat))).setCell (aD r 6) (.int .i64 0)).setCell (aD r 7) (.int .i64 0)).setCell (aD r 8) (.string ⟨#[]⟩)).setCell (aD r 12) (.int .i64 0)).setCell (aD r 13) (.int .i64 1)).setCell (aD r 13) (.int .i64 (-1)))):=⟨rfl,d,by show RM _ _ _ _ _ (b++[]) _ _;rw[gz];exact p.1,p.2⟩;clear h k y z A n l p u i o;subst g;go_enter func225,ntmps225;go_wp2;go_ret;exact RR.o
 have T:((f:Int)==45)=false:=dH;have C:=Z l.1;have B:=Z l.2;by_cases m:O f=true
 .have e:fL a f=fe t f:=by unfold fL;rw[aa g,ae m,i]
  rw[e];rw[m]at o;have K:=Z (mV n l.1 (by rw[i];exact⟨Int.le_refl 0,by show(0:Int)<=_;omega⟩) (by rw[i];exact aT _) f m);clear h k y z A n l p e u i g m C;go_enter func225,ntmps225;go_wp2_with fail;refine(o.o _).mono ?_;rintro s J⟨rfl,rfl⟩;go_wp2_with fail;refine(K.o).mono ?_;rintro s J⟨rfl,L,G,F⟩;have M:=Z G;have x:=Z F;clear G F;go_wp2;go_ret;exact⟨rfl,L,M.o,B.o.trans x.o⟩
 have q:O f=false:=by simpa using m
 have e:fL a f=⟨{t with st:=12},[]⟩:=by unfold fL;rw[aa g,aa m,i]
 rw[e];rw[q]at o;have RR:Hid (RP S j r v ⟨{t with st:=12},[]⟩ b d w (.returned (.int .i64 12)) ((((((((w.setCell (aD r 3) (.int .i64 (3))).setCell (aD r 4) (.int .i64 (3))).setCell (aD r 5) (.int .i64 (a.at':Nat))).setCell (aD r 6) (.int .i64 0)).setCell (aD r 7) (.int .i64 0)).setCell (aD r 8) (.string ⟨#[]⟩)).setCell (aD r 12) (.int .i64 0)).setCell (aD r 13) (.int .i64 1))):=⟨rfl,d,by show RM _ _ _ _ _ (b++[]) _ _;rw[gz];exact l.1.st 12,l.2⟩;clear h k y z A n l p e u i g m q C B;go_enter func225,ntmps225;go_wp2_with fail;refine(o.o _).mono ?_;rintro s J⟨rfl,rfl⟩;go_wp2;go_ret;exact RR.o
theorem xS(l:List UInt8):(bR l).size=l.length:=by show(List.toArray l).size=_;simp
theorem Js(l:List UInt8):(bR l).extract 1 (bR l).size=bR l.tail:=by apply oR;rw[lQ,xS];have:l.tail.length=l.length-1:=si;simp[E,bR,List.extract_eq_take_drop];rw[<-this,bX]
theorem As{S:World->(Nat->Prop)->List Tr.Tok->Prop}{i:Value}(y:gn i S c){w:World}{r A:Nat}{d:Nat->Prop}(h:RM S i r A a b d w)(p:a.rs≠[])(M:a.rs.length<=4)(o:a.at'<=4000000)(f:Nat)(z:VL c b (fA a f).ts):Calls prog 137 #[pT r,.int .u8 (f:Int)] w (RP S i r A (fA a f) b d w):=by
 obtain⟨ov,bp,bv,D,s,B,C,F⟩:=h.ex;obtain⟨q,t⟩:∃q,q=bR a.rs:=⟨_,rfl⟩;have c11:w.cell? (aD r 11)=some (.string q):=by rw[t];exact s.b.cell 11
 have fz:=s.b.fz;have j:0<a.rs.length:=List.length_pos_iff.2 p;have u:q.size=a.rs.length:=by rw[t];exact xS _
 have N:0<q.size:=om;have hq4:q.size<=4:=om;have m:((q[0]).toNat:Nat)=bt a.rs 0:=by rw[<-vi N,t,lQ]
 have n:q.extract 1 q.size=bR a.rs.tail:=by rw[t];exact Js _
 by_cases g:f=bt a.rs 0
 .have eb:((f:Int)==((q[0]).toNat:Int))=true:=by rw[Dd,m,g]
  have R:=RM.set (z':={a with rs:=a.rs.tail}) (s1:=A) y s B C F (w':=w.setCell (aD r 11) (.string (bR a.rs.tail))) (s.b.set 11 (.string (bR a.rs.tail))) ((Fr.refl (λk=>k=r) w).setCell (aD r 11) (Y rfl) _) rfl rfl;by_cases v:a.rs.tail=[]
  .have e:fA a f=gO {a with rs:=a.rs.tail}:=by unfold fA;rw[aa (by simpa using g),ae v]
   rw[e]at z⊢;have J:=Z (rB y R.1 o z);have K:=Z R.2;rw[v]at J K n⊢;have U:q.extract 1 q.size=⟨#[]⟩:=n;have x:Hid (Calls prog 180 #[pT r] (w.setCell (aD r 11) (.string ⟨#[]⟩)) (RP S i r A (gO {a with rs:=[]}) b d (w.setCell (aD r 11) (.string ⟨#[]⟩)))):=J;have L:Hid (Ev d w d (w.setCell (aD r 11) (.string ⟨#[]⟩))):=K;clear h s B C F y R e g p M o z t m v u j J K n;go_enter func137,ntmps137;go_wp2_with fail;refine(x.o).mono ?_;rintro res w1⟨rfl,W,T,P⟩;have M1:=Z T;have H:=Z P;clear T P x;go_wp2;go_ret;exact⟨rfl,W,M1.o,L.o.trans H.o⟩
  have e:fA a f=⟨{a with st:=10,rs:=a.rs.tail},[]⟩:=by unfold fA;rw[aa (by simpa using g),aa v]
  rw[e];obtain⟨G,l⟩:∃G,G=bR a.rs.tail:=⟨_,rfl⟩;have hqn:G.toList.isEmpty=false:=by rw[Lib.toList_data,l];show(a.rs.tail.toArray.toList).isEmpty=false;simpa using v
  have RR:Hid (RP S i r A ⟨{a with st:=10,rs:=a.rs.tail},[]⟩ b d w (.returned (.int .i64 10)) (w.setCell (aD r 11) (.string G))):=⟨rfl,d,by show RM _ _ _ _ _ (b++[]) _ _;rw[gz,l];exact R.1.st 10,by rw[l];exact R.2⟩;rw[<-l]at n;clear h s B C F y R e g p M o z t m v u j l;go_enter func137,ntmps137;go_wp2;go_ret;exact RR.o
 have eb:((f:Int)==((q[0]).toNat:Int))=false:=by rw[iw,m];omega
 have e:fA a f=a.to 12:=by unfold fA;rw[ae g]
 rw[e];have RR:=Z (h.to (Ev.refl d w) 12);clear h s B C F y e g p M o z t m n u j;go_enter func137,ntmps137;go_wp2;go_ret;exact RR.o
theorem Pp{w:World}{B l:Nat}{e i:TypeId}{t c:Nat}{v j:Value}{n s:Nat}{y d:List Value}(h:w.ownsRow B e t v n y)(p:w.ownsRow l i c j s d)(D:e≠i){k:Nat}(b:v.ownBlock=some k):j.ownBlock≠some k:=by
 intro a;rcases h.2 with⟨x,_⟩|⟨q,m,o,u,_,F,_⟩;.rw[x]at b;cases b
 rcases p.2 with⟨x,_⟩|⟨r,f,g,z,_,G,_⟩;.rw[x]at a;cases a
 rw[u]at b;rw[z]at a;have A:q=k:=cI b;have C:r=k:=cI a;grind
theorem Jt:(prog.info? 106).map (λi=>(i.zero,i.size,i.bytes))=some (some (.int .i64 0),1,8):=by kernel_rfl
theorem RM.push{S:World->(Nat->Prop)->List Tr.Tok->Prop}{f:Value}(A:gn f S c){j:Value}{r G:Nat}{d:Nat->Prop}{w v o:World}{n y p l:Value}{D:Nat->Prop}(i:RS w r G a j n y p)(z:S w D b)(t:∀k,D k->k≠r/\n.ownBlock≠some k/\p.ownBlock≠some k)(T:∀k,d k↔k=r\/n.ownBlock=some k\/p.ownBlock=some k\/D k)(m:Q w v)(q:v.grownBy o n.ownBlock)(g s:Nat)(K:o.ownsRow (r+1) 106 1 l (a.op.length+1) (fY a.op++[.int .i64 (g:Nat)]))(F:l.ownBlock=n.ownBlock\/l.ownBlock=some v.heap.size):∃H,RM S j r G {a with st:=s,op:=a.op++[g]} b H (o.setCell (aD r 2) l)/\Ev d w H (o.setCell (aD r 2) l):=by
 have L:∀k,k<w.heap.size->n.ownBlock≠some k->k≠r->(o.setCell (aD r 2) l).heap[k]?=w.heap[k]?:=λk h J R=>by rw[Below.heap_setCell _ _ _ _ λe=>R e,q.block k (aI h m.size) λe=>J e.symm,m.block k h id]
 have B:n.ownBlock≠some r:=λe=>by have:=(i.o.lt r e).1;omega
 have M:V o r (vk G a n y p j) 115:=by show o.heap[r]?=_;rw[q.block r (aI i.b.lt m.size) λe=>B e.symm,m.block r i.b.lt id];exact i.b
 have u:w.heap.size<=(o.setCell (aD r 2) l).heap.size:=az m.size (az q.size (by simp[World.setCell]));have C:∀k,l.ownBlock=some k->n.ownBlock=some k\/w.heap.size<=k:=λk h=>by
  rcases F with x|x;.exact Y (x.symm.trans h)
  have:v.heap.size=k:=cI (x.symm.trans h);have:=m.size;exact I om
 refine⟨λk=>k=r\/l.ownBlock=some k\/p.ownBlock=some k\/D k,⟨l,y,p,D,⟨?_,?_,?_,i.p,i.e⟩,A.keep z (λk h=>L k (A.lt z h) (t k h).2.1 (t k h).1) u,λk h=>⟨(t k h).1,λe=>?_,(t k h).2.2⟩,λ_=>Iff.rfl⟩,⟨λk h=>?_,⟨?_,?_,?_,u,λk h J=>?_⟩⟩⟩;.exact M.set 2 l
 .have N:(a.op++[g]).length=a.op.length+1:=si;have P:fY (a.op++[g])=fY a.op++[.int .i64 (g:Nat)]:=by simp[fY]
  show World.ownsRow _ _ _ _ _ (a.op++[g]).length (fY (a.op++[g]));rw[N,P];exact aQ K λk h=>Below.heap_setCell _ _ _ _ λe=>by have:=(K.lt k h).1;simp at e;omega
 .exact aQ i.t λk h=>L k (i.t.lt k h).2 (Pp i.t i.o de h) λe=>by have:=(i.t.lt k h).1;omega
 .rcases C k e with x|x;.exact(t k h).2.1 x
  have:=A.lt z h;omega
 .grind
 .exact q.os.trans m.os
 .exact q.tape.trans m.tape
 .exact q.output.trans m.output
 grind
theorem mO{S:World->(Nat->Prop)->List Tr.Tok->Prop}{i:Value}(P:gn i S c){w:World}{r s:Nat}{d:Nat->Prop}(h:RM S i r s a b d w)(h8:a.op.length<=8)(g f:Nat)(hV:VL c b (jb a g f).ts):Calls prog 223 #[pT r,.int .i64 (g:Nat),.int .i64 (f:Nat)] w (RP S i r s (jb a g f) b d w):=by
 obtain⟨ov,bp,bv,D,p,h2,h3,h4⟩:=h.ex;obtain⟨x,z,rfl⟩:=X p.o;have c2:w.cell? (aD r 2)=some (.slice x a.op.length z):=p.b.cell 2;have fz:=p.b.fz;by_cases R:a.op.length=8
 .have e:jb a g f=a.to 11:=by unfold jb;rw[ae R]
  rw[e];have RR:=Z (h.to (Ev.refl d w) 11);rw[R]at c2;clear h p h2 h3 h4 P e hV h8 R;go_enter func223,ntmps223;go_wp2;go_ret;exact RR.o
 have e:jb a g f=⟨{a with st:=f,op:=a.op++[g]},[⟨0,g,a.at',0,0,[]⟩]⟩:=by unfold jb;rw[aa R]
 rw[e]at hV⊢;obtain⟨N,first,A,B,hE,o⟩:=RM.tell P;obtain⟨i0,hi,U,hz1,eE⟩:=info_parts Jt;have HI:=Z hi;have iK:=Z U;have iz:=Z hz1;have ja:=Z eE;obtain⟨n,T⟩:∃n,n=a.op.length:=⟨_,rfl⟩;have en:((n:Int)==8)=false:=dH;have hn8:n<=8:=om;rw[<-T]at c2;obtain⟨t,m⟩:∃t:Sn,t={a with st:=f,op:=a.op++[g]}:=⟨_,rfl⟩;have HO:Hid (w.ownsRow (r+1) 106 1 (.slice x n z) n (fY a.op)):=by rw[T];exact p.o
 have PU:Hid (∀w1 G C,Q w w1->w1.grownBy G (Value.slice x n z).ownBlock->G.ownsRow (r+1) 106 1 C (n+1) (fY a.op++[.int .i64 (g:Nat)])->(C.ownBlock=(Value.slice x n z).ownBlock\/C.ownBlock=some w1.heap.size)->∃H,RM S i r s t b H (G.setCell (aD r 2) C)/\Ev d w H (G.setCell (aD r 2) C)):=by subst T;rw[m];exactλw1 G C f1 hg ho q=>RM.push P p h2 h3 h4 f1 hg g f ho q
 have B0:Hid (V w r (vk s a (.slice x n z) bp bv i) 115):=by rw[T];exact p.b
 have Tb:=p.b.lt;have HV:Hid (c b ⟨0,g,a.at',0,0,[]⟩):=hV.1;have TE:Hid (∀W v,RM S i r s t b v W->Calls prog N (first.push (bS ⟨0,g,a.at',0,0,[]⟩)++A) W λres w'=>res=.returned (.tuple #[])/\∃H,RM S i r s t (b++[⟨0,g,a.at',0,0,[]⟩]) H w'/\Ev v W H w'):=λW v hW=>o _ hW HV.o;have DR:Hid (∀W v n,RM S i r s t b v W->RM S i r s t b v (W.drewN n)):=λW v n hW=>RM.drewN P hW n;rw[<-m];have HZ:Hid (t={a with st:=f,op:=a.op++[g]}):=m;clear h p h2 h3 h4 o m e R h8 hV P hi U hz1 eE T;subst B;go_enter func223,ntmps223;go_wp2_with(at_builtin;refine wpList_append_own_at _ rfl _ _ 104 rfl (r+1) 106 i0 _ 1 8 underlying104 HI.o iK.o iz.o ja.o rfl de _ _ _ rfl (HO.o.alloc _) (aD w.heap.size 0) 1 1 [.int .i64 (g:Nat)] rfl rfl ?c1 ?c2 ?c3 ?c4 ?c5 ?_);case c1=>intro j u hj;match j,hj with|0,hj=>simp at hj;subst hj;simp[Addr.add]
 case c2=>intro u hu;simp at hu;subst hu;rfl
 case c3=>unfold maxLen;omega
 case c4=>omega
 case c5=>simp;omega
 intro C F l k _ q;obtain⟨a4,c4,rfl⟩:=X l;have P4:=PU.o _ F _ ((Fr.refl (λ_=>False) w).alloc _) k l (by simpa using q);have B4:V F r (vk s a (.slice x n z) bp bv (.func (.func N) first A)) 115:=by show F.heap[r]?=_;rw[k.block r (by simp;omega) λe=>by have:=(HO.o.lt r e.symm).1;omega,Below.heap_alloc _ _ _ Tb];exact B0.o
 have f4:=B4.fz;have d2:F.cell? (aD r 2)=some (.slice x n z):=B4.cell 2;obtain⟨E4,M,K⟩:=P4;have M4:=Z M;have EV4:=Z K;clear k l q M K B4 PU HO B0 c2 fz;go_wp2;have e1:(F.setCell (aD r 2) (.slice a4 (n+1) c4)).cell? (aD r 1)=some (.int .i64 (a.at':Nat)):=by obtain⟨_,_,_,_,y,_⟩:=M4.o.ex;have:=y.b.cell 1;rw[HZ.o]at this;exact this
 have e14:(F.setCell (aD r 2) (.slice a4 (n+1) c4)).cell? (aD r 14)=some (.func (.func N) first A):=by obtain⟨_,_,_,_,y,_⟩:=M4.o.ex;exact y.b.cell 14
 clear f4 d2;generalize(F.setCell (aD r 2) (.slice a4 (n+1) c4))=W1 at*;go_region_with(refine(TE.o _ _ (DR.o _ _ 1 M4.o)).mono ?_;rintro res G⟨rfl,E2,L,J⟩;have M2:=Z L;have EV2:=Z J;clear L J);all_goals go_wp2;go_ret;exact⟨by rw[HZ.o];rfl,E2,M2.o,(EV4.o.drewN 1).trans EV2.o⟩
theorem De{S:World->(Nat->Prop)->List Tr.Tok->Prop}{q:Value}(o:gn q S c){w:World}{r y:Nat}{d:Nat->Prop}(h:RM S q r y a b d w)(p:a.tx=[])(s:a.op.length<=8)(f:Nat)(A:f<256)(m:VL c b (bm a f).ts):Calls prog 182 #[pT r,.int .u8 (f:Int)] w (RP S q r y (bm a f) b d w):=by
 by_cases j:f=91;focus
  have e:bm a f=jb a 5 1:=by unfold bm;rw[ae j]
  rw[e]at m⊢;clear e;have C:=Z (mO o h s 5 1 m);subst j;clear h o m p s
 rotate_left;focus
  have D:((f:Int)==91)=false:=dH;by_cases g:f=123;focus
   have e:bm a f=jb a 6 2:=by unfold bm;rw[aa j,ae g]
   rw[e]at m⊢;clear e;have C:=Z (mO o h s 6 2 m);subst g;clear h o m p s
  rotate_left;focus
   have x:((f:Int)==123)=false:=dH;by_cases l:f=34;focus
    have e:bm a f=dK a 3:=by unfold bm;rw[aa j,aa g,ae l]
    rw[e]at m⊢;clear e;have C:=Z (ki o h p 3);subst l;clear h o m p s
   rotate_left;focus
    have B:((f:Int)==34)=false:=dH;by_cases i:f=116;focus
     have e:bm a f=cU a 2 [114,117,101]:=by unfold bm;rw[aa j,aa g,aa l,ae i]
     rw[e]at m⊢;clear e;have C:=Z (lP o h p 2 [114,117,101]);subst i;clear h o m p s
    rotate_left;focus
     have v:((f:Int)==116)=false:=dH;by_cases k:f=102;focus
      have e:bm a f=cU a 1 [97,108,115,101]:=by unfold bm;rw[aa j,aa g,aa l,aa i,ae k]
      rw[e]at m⊢;clear e;have C:=Z (lP o h p 1 [97,108,115,101]);subst k;clear h o m p s
     rotate_left;focus
      have t:((f:Int)==102)=false:=dH;by_cases n:f=110;focus
       have e:bm a f=cU a 0 [117,108,108]:=by unfold bm;rw[aa j,aa g,aa l,aa i,aa k,ae n]
       rw[e]at m⊢;clear e;have C:=Z (lP o h p 0 [117,108,108]);subst n;clear h o m p s
      rotate_left;focus
       have u:((f:Int)==110)=false:=dH;have e:bm a f=fL a f:=by unfold bm;rw[aa j,aa g,aa l,aa i,aa k,aa n]
       rw[e];clear e;have C:=Z (tA o h p f A);clear h o m p s j g l i k n
 all_goals go_enter func182,ntmps182;go_wp2_with fail;refine mh C.o λF z=>?_;go_wp2;go_ret;exact⟨rfl,z.o⟩
theorem Fj{S:World->(Nat->Prop)->List Tr.Tok->Prop}{l:Value}(o:gn l S c){w:World}{r x:Nat}{d:Nat->Prop}(h:RM S l r x a b d w)(j:x=a.st)(i:jm a)(m:a.at'<=4000000)(A:a.st<=5)(f:Nat)(z:f<256)(g:VL c b (bT a f).ts):Calls prog 139 #[pT r,.int .u8 (f:Int)] w (RP S l r x (bT a f) b d w):=by
 obtain⟨W,T,U,G⟩:=h.rs;have c0:w.cell? (aD r 0)=some (.int .i64 (x:Nat)):=G.b.cell 0;have t:a.tx=[]:=i.x ⟨om,om⟩;have p:=i.op.1;have H:=i.op.2;clear G;by_cases L:a.st=5;focus
  rw[j,L]at c0;have e:bT a f=aC a f:=by unfold bT;simp[L]
  rw[e]at g⊢;have C:=Z (xT o h p H m f z g)
 rotate_left;focus
  by_cases F:a.st=4;focus
   rw[j,F]at c0;by_cases q:f=58;focus
    subst q;have e:bT a 58=a.to 0:=by unfold bT;simp[F]
    rw[e];have C:=Z (h.to (Ev.refl d w) 0)
   rotate_left;focus
    have N:((f:Int)==58)=false:=dH;have e:bT a f=a.to 12:=by unfold bT;simp[F,q]
    rw[e];have C:=Z (h.to (Ev.refl d w) 12)
  rotate_left 2;focus
   by_cases y:a.st=1;focus
    rw[j,y]at c0;by_cases s:f=93;focus
     subst s;have e:bT a 93=cN a:=by unfold bT;simp[y]
     rw[e]at g⊢;have C:=Z (Au o h (i.ne (Y y)) p m g)
    rotate_left;focus
     have P:((f:Int)==93)=false:=dH;have e:bT a f=bm a f:=by unfold bT;simp[y,s]
     rw[e]at g⊢;have C:=Z (De o h t p f z g)
   rotate_left 2;focus
    by_cases u:a.st=0;focus
     rw[j,u]at c0;have e:bT a f=bm a f:=by unfold bT;simp[u]
     rw[e]at g⊢;have C:=Z (De o h t p f z g)
    rotate_left;focus
     by_cases v:a.st=2;focus
      rw[j,v]at c0;by_cases n:f=125;focus
       subst n;have e:bT a 125=cN a:=by unfold bT;simp[v]
       rw[e]at g⊢;have C:=Z (Au o h (i.ne (I (Y v))) p m g)
      rotate_left;focus
       have K:((f:Int)==125)=false:=dH;by_cases k:f=34;focus
        subst k;have e:bT a 34=dK a 2:=by unfold bT;simp[v]
        rw[e]at g⊢;have C:=Z (ki o h t 2)
       rotate_left;focus
        have B:((f:Int)==34)=false:=dH;have e:bT a f=a.to 12:=by unfold bT;simp[v,n,k]
        rw[e];have C:=Z (h.to (Ev.refl d w) 12)
     rotate_left 3;focus
      have D:a.st=3:=om;rw[j,D]at c0;by_cases k:f=34;focus
       subst k;have e:bT a 34=dK a 2:=by unfold bT;simp[D]
       rw[e]at g⊢;have C:=Z (ki o h t 2)
      rotate_left;focus
       have B:((f:Int)==34)=false:=dH;have e:bT a f=a.to 12:=by unfold bT;simp[D,k]
       rw[e];have C:=Z (h.to (Ev.refl d w) 12)
 all_goals clear h o g t p H i m A e;go_enter func139,ntmps139;go_wp2_with fail;first|(go_ret;exact C.o)|(refine C.o.mono ?_;rintro R w1⟨rfl,J⟩;have M:=Z J;clear J;go_wp2;go_ret;exact⟨rfl,M.o⟩)
theorem U5{S:World->(Nat->Prop)->List Tr.Tok->Prop}{p:Value}(n:gn p S c){w:World}{r s:Nat}{d:Nat->Prop}(h:RM S p r s a b d w)(g:s=a.st)(i:jm a)(j:a.at'<=4000000)(m:a.st<=10)(q:a.tx.length<=4000000)(f:Nat)(z:f<256)(l:VL c b (an a f).ts):Calls prog 102 #[pT r,.int .u8 (f:Int)] w (RP S p r s (an a f) b d w):=by
 obtain⟨U,L,M,F⟩:=h.rs;have c0:w.cell? (aD r 0)=some (.int .i64 (s:Nat)):=F.b.cell 0;clear F;by_cases u:a.st=6;focus
  rw[g,u]at c0;have e:an a f=iQ a f:=by unfold an;simp[u]
  rw[e]at l⊢;have C:=Z (vy n h (i.st (Y u)) q j f z l);clear h n l q i j m e g u;go_enter func102,ntmps102
 rotate_left;focus
  by_cases v:a.st=7;focus
   rw[g,v]at c0;have e:an a f=kV a f:=by unfold an;simp[v]
   rw[e]at l⊢;have C:=Z (tB n h (i.st (I v)) q f z);clear h n l q i j m e g v;go_enter func102,ntmps102
  rotate_left;focus
   by_cases x:a.st=8;focus
    rw[g,x]at c0;have e:an a f=gG a f:=by unfold an;simp[x]
    rw[e]at l⊢;have C:=Z (nM n h g (Y x) i j f z l);clear h n l q i j m e g x;go_enter func102,ntmps102
   rotate_left;focus
    by_cases y:a.st=9;focus
     rw[g,y]at c0;have e:an a f=gG a f:=by unfold an;simp[y]
     rw[e]at l⊢;have C:=Z (nM n h g (I y) i j f z l);clear h n l q i j m e g y;go_enter func102,ntmps102
    rotate_left;focus
     by_cases k:a.st=10;focus
      rw[g,k]at c0;have e:an a f=fA a f:=by unfold an;simp[k]
      rw[e]at l⊢;have C:=Z (As n h (i.w k).1 (i.w k).2.1 j f l);clear h n l q i j m e g k;go_enter func102,ntmps102
     rotate_left;focus
      have B:a.st<=5:=om;have A:=Z λw=>oS (w:=w) f z;have N:((s:Int)==6)=false:=dH;have P:((s:Int)==7)=false:=dH;have R:((s:Int)==8)=false:=dH;have T:((s:Int)==9)=false:=dH;have J:((s:Int)==10)=false:=dH;by_cases o:cm f=true;focus
       have e:an a f=a.to a.st:=by unfold an;simp[u,v,x,y,k,o]
       rw[e];rw[o]at A;have C:=Z (h.to (Ev.refl d w) a.st);rw[<-g]at C⊢;clear h n l q i j m e u v x y k o B g
      rotate_left;focus
       have t:cm f=false:=by simpa using o
       have e:an a f=bT a f:=by unfold an;simp[u,v,x,y,k,o]
       rw[e]at l⊢;rw[t]at A;have C:=Z (Fj n h g i j B f z l);clear h n l q i j m e u v x y k o t B g
      all_goals go_enter func102,ntmps102;go_wp2_with fail;refine(A.o _).mono ?_;rintro D K⟨rfl,rfl⟩
 all_goals go_wp2_with fail;first|(go_ret;exact C.o)|(refine C.o.mono ?_;rintro D K⟨rfl,G⟩;have H:=Z G;clear G;go_wp2;go_ret;exact⟨rfl,H.o⟩)
def RF(S:World->(Nat->Prop)->List Tr.Tok->Prop)(b:Value)(r:Nat)(f:Sf)(g:List Tr.Tok)(a:Nat->Prop)(w:World)(c:Ending)(e:World):Prop:=c=.returned (.tuple #[.int .i64 (f.e:Nat),.int .i64 ((if f.e=0 then 0 else f.z.at'):Nat)])/\∃d,RM S b r f.z.st f.z (g++f.ts) d e/\Ev a w d e
theorem RM.YQ{S:World->(Nat->Prop)->List Tr.Tok->Prop}{f:Value}(n:gn f S c){e:Value}{r o:Nat}{d:Nat->Prop}{w:World}(h:RM S e r o a b d w)(g:Nat):RM S e r g a b d (w.setCell (aD r 0) (.int .i64 (g:Nat)))/\Ev d w d (w.setCell (aD r 0) (.int .i64 (g:Nat))):=by obtain⟨s,p,q,D,i,j,l,m⟩:=h.ex;exact RM.set n i j l m (i.b.set 0 _) ((Fr.refl (λk=>k=r) w).setCell (aD r 0) (Y rfl) _) rfl rfl
theorem RM.at1{S:World->(Nat->Prop)->List Tr.Tok->Prop}{f:Value}(n:gn f S c){e:Value}{r i:Nat}{d:Nat->Prop}{w:World}(h:RM S e r i a b d w):RM S e r i {a with at':=a.at'+1} b d (w.setCell (aD r 1) (.int .i64 ((a.at':Int)+1)))/\Ev d w d (w.setCell (aD r 1) (.int .i64 ((a.at':Int)+1))):=by obtain⟨q,o,p,D,g,j,l,m⟩:=h.ex;exact RM.set n g j l m (g.b.set 1 _) ((Fr.refl (λk=>k=r) w).setCell (aD r 1) (Y rfl) _) rfl rfl
theorem Pq(z:Sn)(b:UInt8):aj z [b]=if(an z b.toNat).z.st=12 then⟨(an z b.toNat).z,2,(an z b.toNat).ts⟩else if(an z b.toNat).z.st=11 then⟨(an z b.toNat).z,3,(an z b.toNat).ts⟩else⟨{(an z b.toNat).z with at':=(an z b.toNat).z.at'+1},0,(an z b.toNat).ts⟩:=by rw[aj];simp[aj]
theorem Ju{z:Sn}{l:List UInt8}{k:Nat}(a:k<l.length)(h:(aj z (l.take k)).e=0):aj z (l.take (k+1))=⟨(aj (aj z (l.take k)).z [l[k]]).z,(aj (aj z (l.take k)).z [l[k]]).e,(aj z (l.take k)).ts++(aj (aj z (l.take k)).z [l[k]]).ts⟩:=by rw[eC a,eQ _ _ _ h]
theorem oT{l:List UInt8}{k:Nat}(h:(aj a (l.take k)).e≠0):aj a l=aj a (l.take k):=by have:=lM (l.take k) (l.drop k) a h;rwa[iU]at this
theorem Jv{z:Sn}{l:List UInt8}{k:Nat}:∃r,(aj z l).ts=(aj z (l.take k)).ts++r:=by
 have e:aj z l=aj z (l.take k++l.drop k):=by rw[iU]
 by_cases h:(aj z (l.take k)).e=0;.grind[eQ]
 exact⟨[],by rw[oT h,gz]⟩
theorem Jw{S:World->(Nat->Prop)->List Tr.Tok->Prop}{g:Value}(hS:gn g S c){w:World}{r:Nat}{d:Nat->Prop}(h:RM S g r a.st a b d w)(J:jm a){sh:Sh}(H:Lk a sh)(hst:a.st<=10)(f:ByteArray)(hl:a.at'+f.size<=4000000)(t:a.tx.length+f.size<=4000000)(hV:VL c b (aj a (E f)).ts):Calls prog 71 #[pT r,.string f] w (RF S g r (aj a (E f)) b d w):=by
 have HM:=Z h;have C:=Z hS;have HV:=Z hV;have L:=Z (db J H);have HX:=Z t;clear h hS hV J H t;go_enter func71,ntmps71;go_wp2;go_loopw[9]λi wr=>∃k:Nat,k<=f.size/\i=.int .i64 k/\(aj a ((E f).take k)).e=0/\∃E',RM S g r (aj a ((E f).take k)).z.st (aj a ((E f).take k)).z (b++(aj a ((E f).take k)).ts) E' wr/\Ev d w E' wrλi _=>f.size-(intOf i).toNat;case atStart=>refine⟨0,aT _,rfl,rfl,d,?_,Ev.refl _ _⟩;simpa[aj]using HM.o
 case round=>
  obtain⟨k,hk,rfl,z,Ek,P,N⟩:=hrel;have u:(E f).length=f.size:=ak f;have R:=fW ((E f).take k) L.o.1 L.o.2 hst (by simp[u];omega);obtain⟨T,U,W,r4⟩:=R.ok z;have r5:=R.tx;have t:=HX.o;simp only[List.length_take,u]at W r5;rw[Nat.min_eq_left hk]at W r5;by_cases hlt:k<f.size
  .have hb:((E f)[k]'(by omega)).toNat=f[k].toNat:=(vi om).symm.trans (dY hlt);have eT:=Ju (z:=a) (l:=E f) (k:=k) om z;rw[Pq,hb]at eT;have F:VL c (b++(aj a ((E f).take k)).ts) (an (aj a ((E f).take k)).z f[k].toNat).ts:=by
    obtain⟨q,hq⟩:=Jv (z:=a) (l:=E f) (k:=k+1);have hv:=HV.o;rw[hq]at hv;have h2:=hv.app.1;have e3:(aj a ((E f).take (k+1))).ts=(aj a ((E f).take k)).ts++(an (aj a ((E f).take k)).z f[k].toNat).ts:=by grind
    rw[e3]at h2;exact h2.app.2
   have G:(an (aj a ((E f).take k)).z f[k].toNat).z.at'<=4000000:=by rw[(gY T r4 U om f[k].toNat).at'];omega
   have CN:=Z (U5 C.o P rfl T om U om f[k].toNat (UInt8.toNat_lt _) F);have l:=Z eT;have K:=Z N;clear P N eT F R T W r4 r5 U hb t HM HV L HX;have H0:=Z z;clear z;generalize aj a ((E f).take k)=fk at*;go_wp2_with fail;refine CN.o.mono ?_;rintro res A⟨rfl,E1,s,D⟩;have B:=Z (K.o.trans D);clear D K CN;obtain⟨x,t⟩:∃x,x=an fk.z f[k].toNat:=⟨_,rfl⟩;rw[<-t]at s l G⊢;obtain⟨M,F1⟩:=RM.YQ C.o s x.z.st;obtain⟨_,_,_,v⟩:=s.rs;have fz:=v.b.fz;have q0:A.cell? (aD r 0)=some (.int .i64 (fk.z.st:Nat)):=v.b.cell 0;clear v;have m:=Z (B.o.trans F1);have d0:(A.setCell (aD r 0) (.int .i64 (x.z.st:Nat))).cell? (aD r 0)=some (.int .i64 (x.z.st:Nat)):=by obtain⟨_,_,_,_,y,_⟩:=M.ex;exact y.b.cell 0
   have d1:(A.setCell (aD r 0) (.int .i64 (x.z.st:Nat))).cell? (aD r 1)=some (.int .i64 (x.z.at':Nat)):=by obtain⟨_,_,_,_,y,_⟩:=M.ex;exact y.b.cell 1
   have n:=Z M;have XG:=Z t;clear s F1 B M t;by_cases o:x.z.st=12
   .rw[ae o]at l;have j:Hid (RF S g r (aj a (E f)) b d w (.returned (.tuple #[.int .i64 2,.int .i64 (x.z.at':Nat)])) (A.setCell (aD r 0) (.int .i64 (x.z.st:Nat))).drew):=by
     have e:aj a (E f)=⟨x.z,2,fk.ts++x.ts⟩:=by rw[oT (l:=E f) (k:=k+1) (by rw[l.o];simp),l.o]
     unfold Hid;rw[e];exact⟨rfl,E1,by rw[<-gh];exact RM.drewN C.o n.o 1,m.o.drewN 1⟩
    clear l m n;rw[o]at d0 d1 j⊢;simp only[Int.cast_ofNat_Int]at d0 d1 j⊢;clear o;go_wp2;go_region;all_goals go_wp2;go_ret2;exact j.o
   rw[aa o]at l;by_cases p:x.z.st=11
   .rw[ae p]at l;have j:Hid (RF S g r (aj a (E f)) b d w (.returned (.tuple #[.int .i64 3,.int .i64 (x.z.at':Nat)])) (A.setCell (aD r 0) (.int .i64 (x.z.st:Nat))).drew):=by
     have e:aj a (E f)=⟨x.z,3,fk.ts++x.ts⟩:=by rw[oT (l:=E f) (k:=k+1) (by rw[l.o];simp),l.o]
     unfold Hid;rw[e];exact⟨rfl,E1,by rw[<-gh];exact RM.drewN C.o n.o 1,m.o.drewN 1⟩
    clear l m n o;rw[p]at d0 d1 j⊢;simp only[Int.cast_ofNat_Int]at d0 d1 j⊢;clear p;go_wp2;go_region;all_goals go_wp2;go_ret2;exact j.o
   rw[aa p]at l;obtain⟨M2,F2⟩:=RM.at1 C.o n.o;have UL:∀i,(A.setCell (aD r 0) (.int .i64 (x.z.st:Nat))).frozen? (aD r i)=false:=by simp_all
   have M2':=Z M2;have EV3:=Z (m.o.trans F2);have hwa:IntKind.i64.wrap ((x.z.at':Int)+1)=(x.z.at':Int)+1:=by rw[IntWalk.i64_in _ om]
   have n12:((x.z.st:Int)==12)=false:=dH;have n11:((x.z.st:Int)==11)=false:=dH;clear M2 F2 n m o p G;go_wp2;go_roundw;case rel=>exact⟨k+1,om,by go_num,by rw[l.o],E1,by rw[l.o];simpa using M2'.o,EV3.o⟩
   case measure=>simp[intOf];omega
  have hks:k=f.size:=om;have e:aj a (E f)=aj a ((E f).take k):=by rw[gv om]
  have K:=Z N;have HMk:=Z P;have H0:=Z z;have EE:=Z e;clear P N z e R T U W r4 r5 t HM HV L HX;go_wp2;go_ret2;rw[EE.o];exact⟨by rw[H0.o];rfl,Ek,HMk.o,K.o⟩
structure qn where
 k:Int
 p:Int
 m:Int
 s:ByteArray
def qn.cells(o:qn):List Value:=[.int .i64 o.k,.int .i64 o.p,.int .i64 o.m,.string o.s]
def ed(l:List qn):List Value:=l.flatMap qn.cells
theorem nN(l:List qn):(ed l).length=l.length*4:=by induction l with|nil=>rfl|cons a r b=>have e:ed (a::r)=a.cells++ed r:=rfl;rw[e,cG,b];have:a.cells.length=4:=rfl;grind
theorem ia(l:List qn):∀(k i:Nat)(h:k<l.length),i<4->(ed l)[k*4+i]?=(l[k]).cells[i]?:=by induction l with|nil=>intro k i h;simp at h|cons a r d=>intro k i h b;have e:ed (a::r)=a.cells++ed r:=rfl;rw[e];have c:a.cells.length=4:=rfl;grind
theorem Av:Good ⟨#[36,91,42,93,46,46,97,91,45,49,93]⟩:=by
 refine⟨de,?_,?_⟩;.show(M [36,91,42,93,46,46,97,91,45,49,93] 12).st=26;decide
 show C [36,91,42,93,46,46,97,91,45,49,93] 12<=10;decide
theorem Tryz.U6:(prog.info? 64).map (λi=>(i.zero,i.size,i.bytes))=some (some (.agg #[.int .i64 0,.int .i64 0,.int .i64 0,.string ⟨#[]⟩]),4,40):=by kernel_rfl
def kH(w:World)(a:Option Addr)(n d:Nat)(b:List qn):Prop:=(a=none/\n=0/\d=0/\b=[])\/∃c:Addr,a=some c/\n=b.length/\c.block<w.heap.size/\∀j u,(ed b)[j]?=some u->w.cell? (c.add j)=some u
theorem oU(l:List qn):∀u∈ed l,u.oneCell'=true:=by intro u b;simp only[ed,List.mem_flatMap]at b;obtain⟨o,_,a⟩:=b;simp[qn.cells]at a;rcases a with rfl|rfl|rfl|rfl<;>rfl
theorem qH:prog.cellsOf 64=4:=by kernel_rfl
theorem nO:prog.cellsOf 3=1:=by kernel_rfl
theorem rC:prog.cellsOf 9=1:=by kernel_rfl
theorem xU:∃f0 f1 f2 f3:Field,prog.underlying 64=some (.struct #[f0,f1,f2,f3])/\(f0.type=3/\f0.offset=0)/\(f1.type=3/\f1.offset=1)/\(f2.type=3/\f2.offset=2)/\(f3.type=9/\f3.offset=3):=⟨_,_,_,_,underlying64,⟨rfl,rfl⟩,⟨rfl,rfl⟩,⟨rfl,rfl⟩,⟨rfl,rfl⟩⟩
section
variable{H:Type}{enc:TypeId×Value->H}{P:Program}{w:World}{base:Nat}{spare:Nat->Bool}{held:Bool}
theorem four{e:Type}{l:List e}(h:l.length=4):∃a b c d,l=[a,b,c,d]:=by match l,h with|[a,b,c,d],_=>exact⟨a,b,c,d,rfl⟩
end
end Go.Proofs.YtcbadebjpogmlaaGreatDoor
namespace Go.Proofs.YtcbadebjpogmlaaGreatDoor
open Go.ChangeShapes Go.WideShapes Go.ChangeAt Go.RowKit Tr
section
variable{H:Type}{enc:TypeId×Value->H}{P:Program}
end
def U7(t:TypeId):Prop:=t=22\/t=64\/t=3\/t=9
theorem Jx:Kids Tryz.prog U7:=by
 obtain⟨f0,f1,f2,f3,b,⟨t0,d⟩,⟨t1,e⟩,⟨t2,g⟩,⟨t3,i⟩⟩:=xU;have u0:=Tryz.underlying22;have u2:=Tryz.underlying3;have u3:=Tryz.underlying9;refine⟨?_,?_,?_,?_,?_⟩;.grind(splits:=30)[U7]
 .grind(splits:=30)[U7]
 .grind(splits:=30)[U7]
 .rintro t c(rfl|rfl|rfl|rfl)h;.rw[u0]at h;cases h
  .rw[b]at h;cases h;refine⟨λf a=>?_,?_,λj f a=>?_⟩;.grind(splits:=30)[U7]
   .simp[t0,t1,t2,t3,qH,nO,rC]
   grind[nO]
  .rw[u2]at h;cases h
  rw[u3]at h;cases h
 grind(splits:=30)[U7]
theorem YR{t e:TypeId}(h:U7 t)(a:Tryz.prog.underlying t=some (.slice e)):0<Tryz.prog.cellsOf e:=by
 have:=Jx.slice h a;rcases this with rfl|rfl|rfl|rfl;.show 0<Tryz.prog.cellsOf 22;rw[show Tryz.prog.cellsOf 22=1 by kernel_rfl];decide
 .rw[qH];decide
 .rw[nO];decide
 rw[rC];decide
