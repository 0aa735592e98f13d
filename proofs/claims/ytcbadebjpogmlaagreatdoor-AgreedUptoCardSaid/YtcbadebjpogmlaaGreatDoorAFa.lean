import Derived.Test.YtcbadebjpogmlaaGreatDoorAGa
import Derived.Test.YtcbadebjpogmlaaGreatDoorASb
import Derived.Test.YtcbadebjpogmlaaGreatDoorAMkZ
import Derived.Shelf.Strconv.Itoa3
import Derived.Shelf.Strings.Replace
import Derived.Lib.LaidTab
import Derived.Lib.AppendIntMem
import Derived.Deep.RegionHeld
import Derived.Test.YtcbadebjpogmlaaGreatDoorASq
namespace Tr
structure Ct where
 its:Nat
 al:Nat
def tlGo (pk L i:Nat) (c:Tv):List Sg→List Ct→List Ct
 | s::r,p0::p1::ps=>⟨(if s.deep=true then p0.al else p0.its) * cntS s.l pk L i c,p1.al+(if s.deep=true then p0.al else p0.its) * cntS s.l pk L i c⟩::tlGo pk L i c r (p1::ps)
 | _,_=>[]
def tlOf (xs:List Sg) (pk L i:Nat) (c:Tv) (par:List Ct):List Ct:=⟨0,(par.headD ⟨0,0⟩).al⟩::tlGo pk L i c xs par
def tlOut (n:Nat):List Ct:=⟨1,1⟩::List.replicate n ⟨0,0⟩
def ctAt (tl:List Ct) (k:Nat):Ct:=tl.getD k ⟨0,0⟩
def cntT (xs:List Sg):Nat→Tv→List Ct→List (Tv×Nat)
 | 0,_,_=>[]
 | n+1,t,tl=>(t.ws.zipIdx.flatMap (fun p=>cntT xs n p.1 (tlOf xs t.d.kind t.ws.length p.2 p.1 tl)))++(if 0<(ctAt tl xs.length).its then [(t,(ctAt tl xs.length).its)] else [])
structure Fw where
 g:Gs
 tl:List (List Ct)
 hd:Option Nat
 told:List (Tv×Nat)
def fInit:Fw:=⟨gInit,[],none,[]⟩
def fTly (xs:List Sg) (s:Fw) (d:Dat):List Ct:=match s.g.st with
 | []=>tlOut xs.length
 | p::_=>tlOf xs p.d.kind p.ws.length s.g.ix ⟨d,[]⟩ (s.tl.getLastD [])
def fBeg (xs:List Sg) (s:Fw) (d:Dat):Fw :=
 if s.hd.isSome=true then s
 else { s with tl:=s.tl++[fTly xs s d],hd:=if headS xs<xs.length∧0<(ctAt (fTly xs s d) (headS xs)).its then some s.g.st.length else none }
def fCls (xs:List Sg) (s:Fw) (t:Tv) (r:Nat):Fw :=
 if s.hd.isSome=true∧s.hd≠some r then s
 else { s with tl:=s.tl.dropLast,hd:=none,told:=s.told++cntT xs 10 t (s.tl.getLastD []) }
def fTake (xs:List Sg) (s:Fw) (t:Tok):Fw :=
 if t.k=0 then { fBeg xs s (gDat s.g t) with g:=gTake s.g t s.hd.isSome }
 else if t.k=1 then (match s.g.st with
  | []=>s
  | f::r=>{ fCls xs s (f.tv t.to) r.length with g:=gTake s.g t true })
 else if t.k=2 then { s with g:=gTake s.g t true }
 else { fCls xs (fBeg xs s (gDat s.g t)) ((gBegin s.g t true).tv t.to) s.g.st.length with g:=gTake s.g t s.hd.isSome }
def fRun (xs:List Sg) (s:Fw) (ts:List Tok):Fw:=ts.foldl (fTake xs) s
theorem fRun_app (xs:List Sg) (s:Fw) (a b:List Tok):fRun xs s (a++b)=fRun xs (fRun xs s a) b:=by simp [fRun]
theorem fBeg_told (xs:List Sg) (s:Fw) (d:Dat):(fBeg xs s d).told=s.told:=by unfold fBeg; split<;>rfl
end Tr
namespace Go.Proofs.YtcbadebjpogmlaaGreatDoor
open Go.RowKit Tr
theorem extra155:Builder.Extra Tryz.prog Tryz.lays155_ren where
 sizeBuilder:=by kernel_rfl
 liesBuilder:=by kernel_rfl
 t5:=Tryz.lays155.t5
 a5:=Tryz.lays155.a5
 z5:=Tryz.lays155.z5
 v5:=Tryz.lays155.v5
 infoByte:=by kernel_rfl
 cellsByte:=by kernel_rfl
 sizeByte:=by kernel_rfl
 neB5:=by decide
theorem dec_digits:∀n,Lib.decDigits n=dec n:=by
 intro n
 induction n using Nat.strongRecOn with
 | _ n ih =>
  rw [Lib.decDigits]
  by_cases h:n<10
  ·rw [dif_pos h,dec_small h]
  rw [dif_neg h,dec_great h,ih (n / 10) (by omega)]
theorem itoa_dec (n:Nat):Lib.itoa (n:Int)=dec n:=by
 unfold Lib.itoa
 rw [if_neg (by omega),dec_digits]
 rfl
theorem replaceK_one (c:UInt8) (new:List UInt8):∀s:List UInt8,Lib.replaceK [c] new (Lib.count s [c]) s=s.flatMap (fun b=>if b=c then new else [b])
 | []=>by
  have:Lib.count [] [c]=0:=by rw [Lib.count_one]; rfl
  rw [this]; rfl
 | b::l=>by
  have ih:=replaceK_one c new l
  by_cases h:b=c
  ·subst h
   rw [Lib.count_cons_eq,Nat.add_comm,Lib.replaceK_hit _ _ _ _ 0 (by rw [Lib.index_one]; simp [Lib.indexByte])]
   simp [ih]
  rw [Lib.count_cons_ne b c l h,List.flatMap_cons,if_neg h,← ih]
  cases hk:Lib.count l [c] with
  | zero=>rfl
  | succ m =>
   obtain ⟨i,hi⟩:=Lib.index_of_count (s:=l) (old:=[c]) (by omega)
   have hi2:Lib.index (b::l) [c]=((i+1:Nat):Int):=by
    rw [Lib.index_one] at hi ⊢
    unfold Lib.indexByte
    rw [if_neg (by simpa using h),if_neg (by rw [hi]; simp),hi]
    omega
   rw [Lib.replaceK_hit _ _ _ _ _ hi2,Lib.replaceK_hit _ _ _ _ _ hi]
   simp
theorem replaceAll_one (c:UInt8) (new:List UInt8) (hn:[c]≠new) (s:List UInt8):Lib.replaceAll s [c] new=s.flatMap (fun b=>if b=c then new else [b]):=by
 unfold Lib.replaceAll Lib.replace Lib.replaceNum
 rw [if_neg (by simpa using hn),if_pos (Or.inl (by decide))]
 exact replaceK_one c new s
theorem escaped_eq (s:List UInt8):Lib.replaceAll (Lib.replaceAll s [92] [92,92]) [39] [92,39]=s.flatMap esc1:=by
 rw [replaceAll_one 92 [92,92] (by simp),replaceAll_one 39 [92,39] (by simp),List.flatMap_assoc]
 apply fm_congr'
 intro b _
 unfold esc1
 by_cases h92:b=92
 ·subst h92; decide
 by_cases h39:b=39
 ·subst h39; decide
 simp [h92,h39]
  where
 fm_congr' {α β:Type} {f g:α→List β}:∀{l:List α},(∀a ∈ l,f a=g a)→l.flatMap f=l.flatMap g
 | [],_=>rfl
 | a::l,h=>by rw [List.flatMap_cons,List.flatMap_cons,h a (List.mem_cons_self),fm_congr' (fun x hx=>h x (List.mem_cons_of_mem _ hx))]
structure EN (w:World):Prop where
 ev:EV w
 tab:Lib.TabIs Tryz.prog w "internal/strconv.uint64pow10" .u64 Lib.pow10Tab
 tl:0<w.heap.size
 ml:∃m,w.cell? ⟨1,0,none⟩=some (.int .i64 m)
 ll:1<w.heap.size
theorem gPow:Tryz.prog.globalNamed "internal/strconv.uint64pow10"=some 0:=by kernel_rfl
theorem EN.keep {w w':World} (h:EN w) (f:Keeps w w'):EN w':=by
 refine ⟨h.ev.keep f,?_,Nat.lt_of_lt_of_le h.tl f.size,?_,Nat.lt_of_lt_of_le h.ll f.size⟩
 ·have:=h.tab
  unfold Lib.TabIs World.var? at this ⊢
  rw [gPow] at this ⊢
  simp only [Option.bind_some] at this ⊢
  rw [f.block _ h.tl id]; exact this
 obtain ⟨m,hm⟩:=h.ml
 exact ⟨m,(f.cell (p:=⟨1,0,none⟩) h.ll id).trans hm⟩
theorem p_itoa {w:World} (h:EN w) (n:Nat) (hn:n≤4000000):Calls Tryz.prog 75 #[.int .i64 (n:Nat)] w fun r w'=>r=.returned (.string (bsb (dec n)))∧Keeps w w' :=
 (Any.strconv_Itoa Tryz.laysM171 (n:Int) (by omega) (by omega) w h.tab).mono (fun e w' ⟨h1,k,os,h2⟩=>⟨by rw [h1,itoa_dec]; rfl,by rw [h2]; exact Fr.of_below (Lib.below_grow _ w (Nat.le_refl _) k os)⟩)
theorem p_replaceAll {w:World} (h:EN w) (s old new:ByteArray) (hs:s.size≤16000000) (h1:old.size=1) (hn:new.size≤2):Calls Tryz.prog 104 #[.string s,.string old,.string new] w fun e w' =>
 e=.returned (.string (bsb (Lib.replaceAll (bs s) (bs old) (bs new))))∧Keeps w w':=by
 obtain ⟨m,hm⟩:=h.ml
 refine (Any.strings_ReplaceAll Tryz.lays155 extra155 s old new m w (by omega) hm (by omega) ?_).mono (fun e w' ⟨h1,h2⟩=>⟨h1,Fr.of_below h2⟩)
 have a:=Lib.count_le s.data.toList old.data.toList
 have b:s.data.toList.length=s.size:=bs_len s
 have c:Lib.count s.data.toList old.data.toList * new.size≤16000001 * 2:=Nat.mul_le_mul (by omega) hn
 show s.size+Lib.count s.data.toList old.data.toList * new.size≤_
 omega
set_option maxHeartbeats 1000000 in
theorem p_escaped {w:World} (h:EN w) (s:ByteArray) (hs:s.size≤4000000):Calls Tryz.prog 76 #[.string s] w fun e w'=>e=.returned (.string (bsb ((bs s).flatMap esc1)))∧Keeps w w':=by
 have C1:=hide (p_replaceAll h s ⟨#[92]⟩ ⟨#[92,92]⟩ (by omega) rfl (by decide))
 have hsz:(bsb (Lib.replaceAll (bs s) [92] [92,92])).size≤16000000:=by
  rw [replaceAll_one 92 [92,92] (by simp)]
  show ((bs s).flatMap _).toArray.size≤_
  have:∀l:List UInt8,(l.flatMap (fun b=>if b=92 then [92,92] else [b])).length≤2 * l.length:=by
   intro l
   induction l with
   | nil=>simp
   | cons a l ih=>rw [List.flatMap_cons,List.length_append,List.length_cons]; split<;>simp only [List.length_cons,List.length_nil]<;>omega
  have h2:=this (bs s)
  rw [bs_len] at h2
  simp only [List.size_toArray]
  omega
 have HE:=hide h
 have C2:Hid (∀W,Keeps w W→Calls Tryz.prog 104 #[.string (bsb (Lib.replaceAll (bs s) [92] [92,92])),.string ⟨#[39]⟩,.string ⟨#[92,39]⟩] W fun e w'=>e=.returned (.string (bsb ((bs s).flatMap esc1)))∧Keeps W w'):=fun W hW=>by
  refine (p_replaceAll (HE.out.keep hW) _ ⟨#[39]⟩ ⟨#[92,39]⟩ hsz rfl (by decide)).mono (fun e w' ⟨h1,h2⟩=>⟨?_,h2⟩)
  rw [h1,bs_bsb,← escaped_eq]
  rfl
 clear h hsz HE
 go_enter Tryz.func76,Tryz.ntmps76
 go_wp2_with fail
 refine C1.out.mono ?_
 rintro r w1 ⟨rfl,hk1⟩
 have K1:=hide hk1
 clear hk1
 go_wp2_with fail
 refine (C2.out _ K1.out).mono ?_
 rintro r w2 ⟨rfl,hk2⟩
 have K2:=hide (K1.out.trans hk2)
 clear hk2
 go_wp2
 go_ret
 exact ⟨rfl,K2.out⟩
def PH (w:World):Nat→Nat→List UInt8→Prop
 | 0,_,_=>False
 | n+1,b,p=>∃d par ix sv,Blk w b (pcl d par ix sv) 130∧ix≤4000000∧d.name.length≤4000000∧((par=.pointer none∧p=[36])∨∃pb dp pp pix psv pp',par=vpt pb∧Blk w pb (pcl dp pp pix psv) 130∧DOk dp∧(dp.kind=4∨dp.kind=5)∧PH w n pb pp'∧p=kPath dp.kind pp' ix d.name)
theorem PH.keep {w w':World} (f:Keeps w w'):∀{n b:Nat} {p:List UInt8},PH w n b p→PH w' n b p
 | 0,_,_,h=>h
 | _+1,_,_,⟨d,par,ix,sv,h1,h2,h3,h4⟩=>by
  refine ⟨d,par,ix,sv,h1.fr f id,h2,h3,?_⟩
  rcases h4 with x | ⟨pb,dp,pp,pix,psv,pp',x1,x2,x3,x4,x5,x6⟩
  ·exact Or.inl x
  exact Or.inr ⟨pb,dp,pp,pix,psv,pp',x1,x2.fr f id,x3,x4,x5.keep f,x6⟩
end Go.Proofs.YtcbadebjpogmlaaGreatDoor
namespace Go.Proofs.YtcbadebjpogmlaaGreatDoor
open Go.RowKit Tr
set_option maxHeartbeats 1000000 in
theorem ret_nu {R:Ending→World→Prop} {a:Act} {W:World} {g:Nat} {x0 x1 x2 x3 x4 x5:Value} (hd:a.defers=[]) (ha:a.tmps[2]?.getD undef=.pointer (some ⟨g,0,none⟩))
 (hB:Blk W g #[x0,x1,x2,x3,x4,x5] 108) (hR:R (.returned (.agg #[x0,x1,x2,x3,x4,x5])) W):bodyPost Tryz.prog Tryz.f74 R .ret a W:=by
 have k0:=hB.cell 0
 have k1:=hB.cell 1
 have k2:=hB.cell 2
 have k3:=hB.cell 3
 have k4:=hB.cell 4
 have k5:=hB.cell 5
 simp at k0 k1 k2 k3 k4 k5
 refine bodyPost_ret (v:=.agg #[x0,x1,x2,x3,x4,x5]) ?_ hd hR
 simp [results,Tryz.results74,go_sem,ha,k0,k1,k2,k3,k4,k5]
set_option maxHeartbeats 2000000 in
set_option maxRecDepth 100000 in
theorem t_number {w:World} {r s0:Nat} {z:Sn} {tell ov bp bv:Value} (h:RS w r s0 z tell ov bp bv) (hn:0≤z.tk.n∧z.tk.n≤1000000000) (hg:z.sg=1∨z.sg=-1) :
 Calls Tryz.prog 74 #[.pointer (some ⟨r,0,none⟩)] w fun res w'=>res=.returned (tagg (sNumT z))∧Keeps w w':=by
 have hrl:r<w.heap.size:=h.b.lt
 have c1:w.cell? ⟨r,1,none⟩=some (.int .i64 (z.at':Nat)):=h.b.cell 1
 have c3:w.cell? ⟨r,3,none⟩=some (.int .i64 (z.tk.k:Nat)):=h.b.cell 3
 have c4:w.cell? ⟨r,4,none⟩=some (.int .i64 (z.tk.of:Nat)):=h.b.cell 4
 have c5:w.cell? ⟨r,5,none⟩=some (.int .i64 (z.tk.frm:Nat)):=h.b.cell 5
 have c6:w.cell? ⟨r,6,none⟩=some (.int .i64 (z.tk.to:Nat)):=h.b.cell 6
 have c7:w.cell? ⟨r,7,none⟩=some (.int .i64 z.tk.n):=h.b.cell 7
 have c8:w.cell? ⟨r,8,none⟩=some (.string (bsb (tkx z.tk.k z.tk.t))):=h.b.cell 8
 have c13:w.cell? ⟨r,13,none⟩=some (.int .i64 z.sg):=h.b.cell 13
 have hw:IntKind.i64.wrap (z.tk.n * z.sg)=z.tk.n * z.sg:=IntWalk.i64_in _ (by rcases hg with e | e<;>rw [e]<;>omega)
 have hw2:wrap64 (z.tk.n * z.sg)=z.tk.n * z.sg:=by rw [← IntWalk.i64_left]; exact hw
 have eT:tagg (sNumT z)=.agg #[.int .i64 (z.tk.k:Nat),.int .i64 (z.tk.of:Nat),.int .i64 (z.tk.frm:Nat),.int .i64 (z.at':Nat),.int .i64 (z.tk.n * z.sg),.string (bsb (tkx z.tk.k z.tk.t))]:=rfl
 rw [eT]
 clear h hn hg eT
 generalize bsb (tkx z.tk.k z.tk.t)=tx at *
 generalize z.tk.k=a1 at *
 generalize z.tk.of=a2 at *
 generalize z.tk.frm=a3 at *
 generalize z.tk.to=a4 at *
 generalize z.at'=a5 at *
 generalize z.tk.n=a6 at *
 generalize z.sg=a7 at *
 go_enter Tryz.func74,Tryz.ntmps74
 go_wp2
 go_region
 all_goals
  go_wp2
  refine ret_nu rfl rfl ((Blk.new w _ 108).alloc _) ?_
  exact ⟨rfl,(((Fr.refl _ w).alloc _).alloc _).drew⟩
theorem RM.keeps {S:World→(Nat→Prop)→List Tok→Prop} {f:Value} {V:List Tok→Tok→Prop} (hS:Sink f S V) {tell:Value} {r s0:Nat} {z:Sn} {ts:List Tok} {E:Nat→Prop} {w w':World} (h:RM S tell r s0 z ts E w) (k:Keeps w w'):RM S tell r s0 z ts E w'∧Ev E w E w':=by
 obtain ⟨ov,bp,bv,D,h1,h2,h3⟩:=h.ex
 exact ⟨⟨ov,bp,bv,D,⟨h1.b.fr k id,own_fr h1.o k (fun _ _ x=>x),own_fr h1.t k (fun _ _ x=>x),h1.p,h1.e⟩,hS.keep h2 (fun q hq=>k.block q (hS.lt h2 hq) id) k.size,h3⟩,⟨fun _=>Or.inl,k.mono (fun _ _ x=>x.elim)⟩⟩
set_option maxHeartbeats 2000000 in
set_option maxRecDepth 100000 in
theorem t_numberByte {S:World→(Nat→Prop)→List Tok→Prop} {V:List Tok→Tok→Prop} {tell:Value} (hS:Sink tell S V) {w:World} {r s0:Nat} {z:Sn} {ts:List Tok} {E:Nat→Prop} (h:RM S tell r s0 z ts E w) (hs0:s0=z.st) (hst:z.st=8∨z.st=9) (hok:SOk z) (hat:z.at'≤4000000) (b:Nat) (hb:b<256) (hV:VL V ts (sNum z b).ts) :
 Calls Tryz.prog 136 #[.pointer (some ⟨r,0,none⟩),.int .u8 (b:Int)] w (RP S tell r s0 (sNum z b) ts E w):=by
 obtain ⟨hsz,hn0,hn1,hsg,hk3⟩:=hok.n hst
 have h10:(10:Nat) ^ z.sz≤1000000000:=Nat.pow_le_pow_right (n:=10) (by decide) hsz
 have hnn:0≤z.tk.n∧z.tk.n≤1000000000:=⟨hn0,by omega⟩
 obtain ⟨ov,bp,bv,h1⟩:=h.rs
 have c0:w.cell? ⟨r,0,none⟩=some (.int .i64 (s0:Nat)):=h1.b.cell 0
 have c12:w.cell? ⟨r,12,none⟩=some (.int .i64 (z.sz:Nat)):=h1.b.cell 12
 have H:=hide h
 have KO:=hide (fun w=>t_kindOf (w:=w) b hb)
 have DG:=hide (fun w=>t_isDigit (w:=w) b hb)
 have MF:=hide (t_mayFollow h1 hok.op.1 hok.op.2 b hb)
 have DR:Hid (∀n,RM S tell r s0 z ts E (w.drewN n)):=fun n=>RM.drewN hS h n
 by_cases c1:z.st=8∧¬(49≤b∧b≤57)
 ·have e:sNum z b=z.to 12:=by unfold sNum; rw [if_pos c1]
  rw [e]
  have k4:kindT b≠4:=by
   rcases kindT_cases b with ⟨c,k⟩ | ⟨c,c',k⟩ | ⟨c,k⟩ | ⟨c,k⟩ | ⟨c,c',k⟩ | ⟨c,k⟩ | ⟨c,k⟩ | ⟨c,c',c2,c3,c4,k⟩<;>rw [k]<;>first | decide | omega
  rw [hs0,c1.1] at c0
  generalize kindT b=kk at *
  have n4:((kk:Int) != 4)=true:=by rw [bne_iff_ne]; omega
  clear e hV h h1 hS hok c1 k4 MF DG DR hnn hn0 hn1 h10 hsg hk3 hsz hst c12
  go_enter Tryz.func136,Tryz.ntmps136
  go_wp2_with fail
  refine (KO.out _).mono ?_
  rintro res w1 ⟨rfl,rfl⟩
  go_wp2
  go_ret
  exact H.out.to (Ev.refl _ _) 12
 rcases hst with h8 | h9
 · -- behind the sign
  obtain ⟨m1,m2⟩:=hok.m h8
  have hb1:49≤b∧b≤57:=by omega
  have hd:isDig b=true:=by simp [isDig]; omega
  have e:sNum z b=sDig z b:=by unfold sNum; rw [if_neg c1,if_pos ⟨hd,by omega⟩]
  rw [e]
  have AD:=hide (t_addDigit hS h hnn (by omega) b hd)
  have k4:kindT b=4:=by
   rcases kindT_cases b with ⟨c,k⟩ | ⟨c,c',k⟩ | ⟨c,k⟩ | ⟨c,k⟩ | ⟨c,c',k⟩ | ⟨c,k⟩ | ⟨c,k⟩ | ⟨c,c',c2,c3,c4,k⟩<;>first | exact k | omega
  rw [hs0,h8] at c0
  rw [m1] at c12
  rw [k4] at KO
  rw [hd] at DG
  clear e hV h h1 hS hok c1 hnn hn0 hn1 h10 hsg hk3 h8 m1 m2 hd k4 MF DR hsz
  go_enter Tryz.func136,Tryz.ntmps136
  go_wp2_with fail
  refine (KO.out _).mono ?_
  rintro res w1 ⟨rfl,rfl⟩
  go_wp2_with fail
  refine (DG.out _).mono ?_
  rintro res w1 ⟨rfl,rfl⟩
  go_wp2_with fail
  refine (AD.out).mono ?_
  rintro res w1 ⟨rfl,E1,hM,hE⟩
  have M1:=hide hM
  have E1':=hide hE
  clear hM hE
  go_wp2
  go_ret
  exact ⟨rfl,E1,M1.out,E1'.out⟩
 rw [hs0,h9] at c0
 by_cases hd:isDig b=true∧z.sz<9
 ·have e:sNum z b=sDig z b:=by unfold sNum; rw [if_neg c1,if_pos hd]
  rw [e]
  have AD:=hide (t_addDigit hS h hnn hsz b hd.1)
  have l9:(z.sz:Int)<9:=by omega
  have DG2:=DG
  rw [hd.1] at DG2
  clear e hV h h1 hS hok c1 hnn hn0 hn1 h10 hsg hk3 h9 hd MF DR hsz KO DG
  go_enter Tryz.func136,Tryz.ntmps136
  go_wp2_with fail
  refine (DG2.out _).mono ?_
  rintro res w1 ⟨rfl,rfl⟩
  go_wp2_with fail
  refine (AD.out).mono ?_
  rintro res w1 ⟨rfl,E1,hM,hE⟩
  have M1:=hide hM
  have E1':=hide hE
  clear hM hE
  go_wp2
  go_ret
  exact ⟨rfl,E1,M1.out,E1'.out⟩
 by_cases hm:mayF z.op b=false
 ·have e:sNum z b=z.to 12:=by unfold sNum; rw [if_neg c1,if_neg hd,if_pos hm]
  rw [e]
  rw [hm] at MF
  have T12:Hid (∀n,RP S tell r s0 (z.to 12) ts E w (.returned (.int .i64 12)) (w.drewN n)):=fun n=>(DR.out n).to ((Ev.refl E w).drewN n) 12
  clear e hV h h1 hS hok c1 hnn hn0 hn1 h10 hsg hk3 h9 DR hsz KO hm H
  by_cases hg:isDig b=true
  ·rw [hg] at DG
   have l9:¬(z.sz:Int)<9:=by have:¬z.sz<9:=fun x=>hd ⟨hg,x⟩; omega
   clear hd hg
   go_enter Tryz.func136,Tryz.ntmps136
   go_wp2_with fail
   refine (DG.out _).mono ?_
   rintro res w1 ⟨rfl,rfl⟩
   go_wp2_with fail
   refine (MF.out).mono ?_
   rintro res w1 ⟨rfl,n,rfl⟩
   go_wp2
   go_ret
   exact T12.out n
  have hg:isDig b=false:=by simpa using hg
  rw [hg] at DG
  clear hd hg
  go_enter Tryz.func136,Tryz.ntmps136
  go_wp2_with fail
  refine (DG.out _).mono ?_
  rintro res w1 ⟨rfl,rfl⟩
  go_wp2_with fail
  refine (MF.out).mono ?_
  rintro res w1 ⟨rfl,n,rfl⟩
  go_wp2
  go_ret
  exact T12.out n
 have hm:mayF z.op b=true:=by simpa using hm
 have e:sNum z b=⟨(sBehind z b).z,sNumT z::(sBehind z b).ts⟩:=by unfold sNum; rw [if_neg c1,if_neg hd,if_neg (by rw [hm]; decide)]
 rw [e] at hV ⊢
 rw [hm] at MF
 obtain ⟨hv1,hv2⟩:=hV
 obtain ⟨N,first,cp2,htell,hE,hcall⟩:=RM.tell hS
 have NU:Hid (∀W,RM S tell r s0 z ts E W→Calls Tryz.prog 74 #[.pointer (some ⟨r,0,none⟩)] W fun res w'=>res=.returned (tagg (sNumT z))∧Keeps W w'):=fun W hW=>by
  obtain ⟨_,_,_,y⟩:=hW.rs
  exact t_number y hnn hsg
 have KP:Hid (∀W W',RM S tell r s0 z ts E W→Keeps W W'→RM S tell r s0 z ts E W'∧Ev E W E W'):=fun W W' hW k=>RM.keeps hS hW k
 have TE:Hid (∀W,RM S tell r s0 z ts E W→Calls Tryz.prog N (first.push (tagg (sNumT z))++cp2) W fun res w'=>res=.returned (.tuple #[])∧∃E',RM S tell r s0 z (ts++[sNumT z]) E' w'∧Ev E W E' w'):=fun W hW=>hcall _ hW hv1
 have BH:Hid (∀E W,RM S tell r s0 z (ts++[sNumT z]) E W→Calls Tryz.prog 179 #[.pointer (some ⟨r,0,none⟩),.int .u8 (b:Int)] W (RP S tell r s0 (sBehind z b) (ts++[sNumT z]) E W)):=fun E W hW=>t_behind hS hW hok.op.1 hok.op.2 hat b hb hv2
 have C14:Hid (∀W,RM S tell r s0 z ts E W→W.cell? ⟨r,14,none⟩=some tell):=fun W hW=>by
  obtain ⟨_,_,_,y⟩:=hW.rs
  exact y.b.cell 14
 have FINE:Hid (∀E2 w2 (res:Ending) w3,Ev E w E2 w2→RP S tell r s0 (sBehind z b) (ts++[sNumT z]) E2 w2 res w3→RP S tell r s0 ⟨(sBehind z b).z,sNumT z::(sBehind z b).ts⟩ ts E w res w3):=fun E2 w2 res w3 hev hr=>by
  obtain ⟨q1,E3,q2,q3⟩:=hr
  exact ⟨q1,E3,by simpa using q2,hev.trans q3⟩
 generalize tagg (sNumT z)=tg at *
 clear e h h1 hok c1 hnn hn0 hn1 h10 hsg hk3 h9 hsz KO hm H hcall hv1 hv2 hS
 subst htell
 by_cases hg:isDig b=true
 ·rw [hg] at DG
  have l9:¬(z.sz:Int)<9:=by have:¬z.sz<9:=fun x=>hd ⟨hg,x⟩; omega
  clear hd hg
  go_enter Tryz.func136,Tryz.ntmps136
  go_wp2_with fail
  refine (DG.out _).mono ?_
  rintro res w1 ⟨rfl,rfl⟩
  go_wp2_with fail
  refine (MF.out).mono ?_
  rintro res w1 ⟨rfl,n,rfl⟩
  go_wp2_with fail
  have d14:=C14.out _ (DR.out (n+1))
  go_region_with (first
   | (go_at_call 74; refine (NU.out _ (DR.out (n+1))).mono ?_; rintro res w2 ⟨rfl,hk⟩; have M2:=hide (KP.out _ _ (DR.out (n+1)) hk).1; have EV2:=hide (KP.out _ _ (DR.out (n+1)) hk).2; have d14':=C14.out _ M2.out; clear hk)
   | (refine (TE.out _ M2.out).mono ?_; rintro res w3 ⟨rfl,E3,hM3,hE3⟩; have M3:=hide hM3; have EV3:=hide hE3; clear hM3 hE3))
  all_goals
   go_wp2_with fail
   refine (BH.out E3 _ M3.out).mono ?_
   intro res w4 hr
   have q:=hide (FINE.out E3 _ res w4 ((((Ev.refl E _).drewN (n+1)).trans EV2.out).trans EV3.out) hr)
   obtain ⟨rfl,_⟩:=hr
   go_wp2
   go_ret
   exact q.out
 have hg:isDig b=false:=by simpa using hg
 rw [hg] at DG
 clear hd hg
 go_enter Tryz.func136,Tryz.ntmps136
 go_wp2_with fail
 refine (DG.out _).mono ?_
 rintro res w1 ⟨rfl,rfl⟩
 go_wp2_with fail
 refine (MF.out).mono ?_
 rintro res w1 ⟨rfl,n,rfl⟩
 go_wp2_with fail
 have d14:=C14.out _ (DR.out (n+1))
 go_region_with (first
  | (go_at_call 74; refine (NU.out _ (DR.out (n+1))).mono ?_; rintro res w2 ⟨rfl,hk⟩; have M2:=hide (KP.out _ _ (DR.out (n+1)) hk).1; have EV2:=hide (KP.out _ _ (DR.out (n+1)) hk).2; have d14':=C14.out _ M2.out; clear hk)
  | (refine (TE.out _ M2.out).mono ?_; rintro res w3 ⟨rfl,E3,hM3,hE3⟩; have M3:=hide hM3; have EV3:=hide hE3; clear hM3 hE3))
 all_goals
  go_wp2_with fail
  refine (BH.out E3 _ M3.out).mono ?_
  intro res w4 hr
  have q:=hide (FINE.out E3 _ res w4 ((((Ev.refl E _).drewN (n+1)).trans EV2.out).trans EV3.out) hr)
  obtain ⟨rfl,_⟩:=hr
  go_wp2
  go_ret
  exact q.out
end Go.Proofs.YtcbadebjpogmlaaGreatDoor
