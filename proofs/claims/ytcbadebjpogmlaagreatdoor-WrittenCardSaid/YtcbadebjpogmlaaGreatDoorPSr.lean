import Derived.Test.YtcbadebjpogmlaaGreatDoorPSk
import Derived.Test.YtcbadebjpogmlaaGreatDoorPSq
import Derived.Laws.EntriesVeiled
namespace Go.Proofs.YtcbadebjpogmlaaGreatDoor
open Go.RowKit Tr
def RF (S:World→(Nat→Prop)→List Tok→Prop) (tell:Value) (r:Nat) (f:Sf) (ts:List Tok) (E:Nat→Prop) (w:World) (res:Ending) (w':World):Prop :=
 res=.returned (.tuple #[.int .i64 (f.e:Nat),.int .i64 ((if f.e=0 then 0 else f.z.at'):Nat)])∧∃E',RM S tell r f.z.st f.z (ts++f.ts) E' w'∧Ev E w E' w'
theorem RM.setSt {S:World→(Nat→Prop)→List Tok→Prop} {f:Value} {V:List Tok→Tok→Prop} (hS:Sink f S V) {tell:Value} {r s0:Nat} {z:Sn} {ts:List Tok} {E:Nat→Prop} {w:World} (h:RM S tell r s0 z ts E w) (s1:Nat):RM S tell r s1 z ts E (w.setCell ⟨r,0,none⟩ (.int .i64 (s1:Nat)))∧Ev E w E (w.setCell ⟨r,0,none⟩ (.int .i64 (s1:Nat))):=by
 obtain ⟨ov,bp,bv,D,h1,h2,h3,h4⟩:=h.ex
 exact RM.set hS h1 h2 h3 h4 (h1.b.set 0 _) ((Fr.refl (fun k=>k=r) w).setCell ⟨r,0,none⟩ (Or.inl rfl) _) rfl rfl
theorem RM.at1 {S:World→(Nat→Prop)→List Tok→Prop} {f:Value} {V:List Tok→Tok→Prop} (hS:Sink f S V) {tell:Value} {r s0:Nat} {z:Sn} {ts:List Tok} {E:Nat→Prop} {w:World} (h:RM S tell r s0 z ts E w):RM S tell r s0 { z with at':=z.at'+1 } ts E (w.setCell ⟨r,1,none⟩ (.int .i64 ((z.at':Int)+1)))∧Ev E w E (w.setCell ⟨r,1,none⟩ (.int .i64 ((z.at':Int)+1))):=by
 obtain ⟨ov,bp,bv,D,h1,h2,h3,h4⟩:=h.ex
 exact RM.set hS h1 h2 h3 h4 (h1.b.set 1 _) ((Fr.refl (fun k=>k=r) w).setCell ⟨r,1,none⟩ (Or.inl rfl) _) rfl rfl
theorem run_one (z:Sn) (b:UInt8):sRun z [b]=if (sNext z b.toNat).z.st=12 then ⟨(sNext z b.toNat).z,2,(sNext z b.toNat).ts⟩ else if (sNext z b.toNat).z.st=11 then ⟨(sNext z b.toNat).z,3,(sNext z b.toNat).ts⟩ else ⟨{ (sNext z b.toNat).z with at':=(sNext z b.toNat).z.at'+1 },0,(sNext z b.toNat).ts⟩:=by
 rw [sRun]
 simp [sRun]
theorem run_take {z:Sn} {l:List UInt8} {k:Nat} (hk:k<l.length) (h:(sRun z (l.take k)).e=0):sRun z (l.take (k+1))=⟨(sRun (sRun z (l.take k)).z [l[k]]).z,(sRun (sRun z (l.take k)).z [l[k]]).e,(sRun z (l.take k)).ts++(sRun (sRun z (l.take k)).z [l[k]]).ts⟩:=by
 rw [List.take_succ_eq_append_getElem hk,sRun_app _ _ _ h]
theorem run_stop' {z:Sn} {l:List UInt8} {k:Nat} (h:(sRun z (l.take k)).e≠0):sRun z l=sRun z (l.take k):=by
 have:=sRun_bad (l.take k) (l.drop k) z h
 rwa [List.take_append_drop] at this
theorem run_toks {z:Sn} {l:List UInt8} {k:Nat}:∃r,(sRun z l).ts=(sRun z (l.take k)).ts++r:=by
 have e:sRun z l=sRun z (l.take k++l.drop k):=by rw [List.take_append_drop]
 by_cases h:(sRun z (l.take k)).e=0
 ·rw [e,sRun_app _ _ _ h]; exact ⟨_,rfl⟩
 exact ⟨[],by rw [run_stop' h,List.append_nil]⟩
set_option maxHeartbeats 4000000 in
set_option maxRecDepth 100000 in
theorem t_follow {S:World→(Nat→Prop)→List Tok→Prop} {V:List Tok→Tok→Prop} {tell:Value} (hS:Sink tell S V) {w:World} {r:Nat} {z:Sn} {ts:List Tok} {E:Nat→Prop} (h:RM S tell r z.st z ts E w) (hok:SOk z) {sh:Sh} (hlk:Lk z sh) (hst:z.st≤10) (piece:ByteArray) (hl:z.at'+piece.size≤4000000) (hx:z.tx.length+piece.size≤4000000) (hV:VL V ts (sRun z (bs piece)).ts) :
 Calls Tryz.prog 71 #[.pointer (some ⟨r,0,none⟩),.string piece] w (RF S tell r (sRun z (bs piece)) ts E w):=by
 have HM:=hide h
 have HS:=hide hS
 have HV:=hide hV
 have HO:=hide (And.intro hok hlk)
 have HX:=hide hx
 clear h hS hV hok hlk hx
 go_enter Tryz.func71,Tryz.ntmps71
 go_wp2
 go_loopw [9] (fun i wr=>∃k:Nat,k≤piece.size∧i=.int .i64 k∧(sRun z ((bs piece).take k)).e=0∧∃E',RM S tell r (sRun z ((bs piece).take k)).z.st (sRun z ((bs piece).take k)).z (ts++(sRun z ((bs piece).take k)).ts) E' wr∧Ev E w E' wr) (fun i _=>piece.size - (intOf i).toNat)
 case atStart =>
  refine ⟨0,Nat.zero_le _,rfl,rfl,E,?_,Ev.refl _ _⟩
  simpa [sRun] using HM.out
 case round =>
  obtain ⟨k,hk,rfl,h0,Ek,hM,hE⟩:=hrel
  have hlen:(bs piece).length=piece.size:=bs_len piece
  have R:=run_ok' ((bs piece).take k) HO.out.1 HO.out.2 hst (by simp [hlen]; omega)
  obtain ⟨r1,r2,r3,r4⟩:=R.ok h0
  have r5:=R.tx
  have hx:=HX.out
  simp only [List.length_take,hlen] at r3 r5
  rw [Nat.min_eq_left hk] at r3 r5
  by_cases hlt:k<piece.size
  ·have hb:((bs piece)[k]'(by omega)).toNat=piece[k].toNat:=(bt_get (by omega)).symm.trans (btB_lt hlt)
   have eT:=run_take (z:=z) (l:=bs piece) (k:=k) (by omega) h0
   rw [run_one,hb] at eT
   have hVk:VL V (ts++(sRun z ((bs piece).take k)).ts) (sNext (sRun z ((bs piece).take k)).z piece[k].toNat).ts:=by
    obtain ⟨q,hq⟩:=run_toks (z:=z) (l:=bs piece) (k:=k+1)
    have hv:=HV.out
    rw [hq] at hv
    have h2:=hv.app.1
    have e3:(sRun z ((bs piece).take (k+1))).ts=(sRun z ((bs piece).take k)).ts++(sNext (sRun z ((bs piece).take k)).z piece[k].toNat).ts:=by
     rw [eT]
     split
     ·rfl
     split<;>rfl
    rw [e3] at h2
    exact h2.app.2
   have hat:(sNext (sRun z ((bs piece).take k)).z piece[k].toNat).z.at'≤4000000:=by rw [(stp_next r1 r4 r2 (by omega) piece[k].toNat).at']; omega
   have CN:=hide (t_next HS.out hM rfl r1 (by omega) r2 (by omega) piece[k].toNat (UInt8.toNat_lt _) hVk)
   have ET:=hide eT
   have HE:=hide hE
   clear hM hE eT hVk R r1 r3 r4 r5 r2 hb hx HM HV HO HX
   have H0:=hide h0
   clear h0
   generalize sRun z ((bs piece).take k)=fk at *
   go_wp2_with fail
   refine CN.out.mono ?_
   rintro res w1 ⟨rfl,E1,hM1,hE1⟩
   have EV1:=hide (HE.out.trans hE1)
   clear hE1 HE CN
   obtain ⟨x,hx⟩:∃x,x=sNext fk.z piece[k].toNat:=⟨_,rfl⟩
   rw [← hx] at hM1 ET hat ⊢
   obtain ⟨M1,F1⟩:=RM.setSt HS.out hM1 x.z.st
   obtain ⟨_,_,_,hrs⟩:=hM1.rs
   have fz:=hrs.b.fz
   have q0:w1.cell? ⟨r,0,none⟩=some (.int .i64 (fk.z.st:Nat)):=hrs.b.cell 0
   clear hrs
   have EV2:=hide (EV1.out.trans F1)
   have d0:(w1.setCell ⟨r,0,none⟩ (.int .i64 (x.z.st:Nat))).cell? ⟨r,0,none⟩=some (.int .i64 (x.z.st:Nat)):=by
    obtain ⟨_,_,_,_,y,_⟩:=M1.ex
    exact y.b.cell 0
   have d1:(w1.setCell ⟨r,0,none⟩ (.int .i64 (x.z.st:Nat))).cell? ⟨r,1,none⟩=some (.int .i64 (x.z.at':Nat)):=by
    obtain ⟨_,_,_,_,y,_⟩:=M1.ex
    exact y.b.cell 1
   have MM1:=hide M1
   have HXE:=hide hx
   clear hM1 F1 EV1 M1 hx
   by_cases c12:x.z.st=12
   ·rw [if_pos c12] at ET
    have RES:Hid (RF S tell r (sRun z (bs piece)) ts E w (.returned (.tuple #[.int .i64 2,.int .i64 (x.z.at':Nat)])) (w1.setCell ⟨r,0,none⟩ (.int .i64 (x.z.st:Nat))).drew):=by
     have e:sRun z (bs piece)=⟨x.z,2,fk.ts++x.ts⟩:=by rw [run_stop' (l:=bs piece) (k:=k+1) (by rw [ET.out]; simp),ET.out]
     unfold Hid
     rw [e]
     exact ⟨rfl,E1,by rw [← List.append_assoc]; exact RM.drewN HS.out MM1.out 1,EV2.out.drewN 1⟩
    clear ET EV2 MM1
    rw [c12] at d0 d1 RES ⊢
    simp only [Int.cast_ofNat_Int] at d0 d1 RES ⊢
    clear c12
    go_wp2
    go_region
    all_goals
     go_wp2
     go_ret2
     exact RES.out
   rw [if_neg c12] at ET
   by_cases c11:x.z.st=11
   ·rw [if_pos c11] at ET
    have RES:Hid (RF S tell r (sRun z (bs piece)) ts E w (.returned (.tuple #[.int .i64 3,.int .i64 (x.z.at':Nat)])) (w1.setCell ⟨r,0,none⟩ (.int .i64 (x.z.st:Nat))).drew):=by
     have e:sRun z (bs piece)=⟨x.z,3,fk.ts++x.ts⟩:=by rw [run_stop' (l:=bs piece) (k:=k+1) (by rw [ET.out]; simp),ET.out]
     unfold Hid
     rw [e]
     exact ⟨rfl,E1,by rw [← List.append_assoc]; exact RM.drewN HS.out MM1.out 1,EV2.out.drewN 1⟩
    clear ET EV2 MM1 c12
    rw [c11] at d0 d1 RES ⊢
    simp only [Int.cast_ofNat_Int] at d0 d1 RES ⊢
    clear c11
    go_wp2
    go_region
    all_goals
     go_wp2
     go_ret2
     exact RES.out
   rw [if_neg c11] at ET
   obtain ⟨M2,F2⟩:=RM.at1 HS.out MM1.out
   have fz1:∀i,(w1.setCell ⟨r,0,none⟩ (.int .i64 (x.z.st:Nat))).frozen? ⟨r,i,none⟩=false:=by
    obtain ⟨_,_,_,hrs⟩:=MM1.out.rs
    exact hrs.b.fz
   have M2':=hide M2
   have EV3:=hide (EV2.out.trans F2)
   have hwa:IntKind.i64.wrap ((x.z.at':Int)+1)=(x.z.at':Int)+1:=by rw [IntWalk.i64_in _ (by omega)]
   have n12:((x.z.st:Int) == 12)=false:=by rw [beq_eq_false_iff_ne]; omega
   have n11:((x.z.st:Int) == 11)=false:=by rw [beq_eq_false_iff_ne]; omega
   clear M2 F2 MM1 EV2 c12 c11 hat
   go_wp2
   go_roundw
   case rel=>exact ⟨k+1,by omega,by go_num,by rw [ET.out],E1,by rw [ET.out]; simpa using M2'.out,EV3.out⟩
   case measure=>simp [intOf]; omega
  have hks:k=piece.size:=by omega
  have e:sRun z (bs piece)=sRun z ((bs piece).take k):=by rw [List.take_of_length_le (by omega)]
  have HE:=hide hE
  have HMk:=hide hM
  have H0:=hide h0
  have EE:=hide e
  clear hM hE h0 e R r1 r2 r3 r4 r5 hx HM HV HO HX
  go_wp2
  go_ret2
  rw [EE.out]
  exact ⟨by rw [H0.out]; rfl,Ek,HMk.out,HE.out⟩
end Go.Proofs.YtcbadebjpogmlaaGreatDoor
namespace Go.Proofs.YtcbadebjpogmlaaGreatDoor
open Go.RowKit Tr
theorem RM.setTell {S:World→(Nat→Prop)→List Tok→Prop} {f:Value} {V:List Tok→Tok→Prop} (hS:Sink f S V) {t0:Value} {r s0:Nat} {z:Sn} {ts:List Tok} {E:Nat→Prop} {w:World} (h:RM S t0 r s0 z ts E w) (t1:Value):RM S t1 r s0 z ts E (w.setCell ⟨r,14,none⟩ t1)∧Ev E w E (w.setCell ⟨r,14,none⟩ t1):=by
 obtain ⟨ov,bp,bv,D,h1,h2,h3,h4⟩:=h.ex
 have f0:Fr (fun k=>k=r) w (w.setCell ⟨r,14,none⟩ t1):=(Fr.refl (fun k=>k=r) w).setCell ⟨r,14,none⟩ (Or.inl rfl) _
 exact ⟨⟨ov,bp,bv,D,⟨h1.b.set 14 t1,own_fr h1.o f0 (fun k hk e=>by omega),own_fr h1.t f0 (fun k hk e=>by omega),h1.p,h1.e⟩,hS.keep h2 (fun k hk=>f0.block k (hS.lt h2 hk) (h3 k hk).1) f0.size,h3,h4⟩,⟨fun _=>Or.inl,f0.mono (fun k _ e=>(h4 k).2 (Or.inl e))⟩⟩
theorem RM.tell2 {S:World→(Nat→Prop)→List Tok→Prop} {f:Value} {V:List Tok→Tok→Prop} (hS:Sink f S V) (t0:Value):∃N first cap,f=.func (.func N) first cap∧(∀args w,(callFunc N args).run Tryz.prog w=.ok (.enter N args) w) ∧
 ∀{r s0:Nat} {z:Sn} {ts:List Tok} {E:Nat→Prop} {w:World} (t:Tok),RM S t0 r s0 z ts E w→V ts t→Calls Tryz.prog N (first.push (tagg t)++cap) w fun res w'=>res=.returned (.tuple #[])∧∃E',RM S t0 r s0 z (ts++[t]) E' w'∧Ev E w E' w':=by
 obtain ⟨N,first,cap,hf,hE,hc⟩:=hS.call
 refine ⟨N,first,cap,hf,hE,fun {r s0 z ts E w} t h hV=>?_⟩
 obtain ⟨ov,bp,bv,D,h1,h2,h3,h4⟩:=h.ex
 refine (hc w D ts t h2 hV).mono ?_
 rintro res w' ⟨rfl,D',g1,g2,g3⟩
 have kb:∀k,k<w.heap.size→¬D k→w'.heap[k]?=w.heap[k]?:=fun k hk hn=>g3.block k hk hn
 have nr:¬D r:=fun x=>(h3 r x).1 rfl
 refine ⟨rfl,fun k=>k=r∨ov.ownBlock=some k∨bv.ownBlock=some k∨D' k,⟨ov,bp,bv,D',⟨(kb r h1.b.lt nr).trans h1.b,own_at' h1.o (fun k hk=>kb k (h1.o.lt k hk).2 (fun x=>(h3 k x).2.1 hk)),own_at' h1.t (fun k hk=>kb k (h1.t.lt k hk).2 (fun x=>(h3 k x).2.2 hk)),h1.p,h1.e⟩,g1,fun k hk=>?_,fun _=>Iff.rfl⟩,⟨fun k hk=>?_,g3.mono (fun k _ x=>(h4 k).2 (Or.inr (Or.inr (Or.inr x))))⟩⟩
 ·rcases g2 k hk with x | x
  ·exact h3 k x
  refine ⟨fun e=>by have:=h1.b.lt; omega,fun e=>by have:=(h1.o.lt k e).2; omega,fun e=>by have:=(h1.t.lt k e).2; omega⟩
 rcases hk with x | x | x | x
 ·exact Or.inl ((h4 k).2 (Or.inl x))
 ·exact Or.inl ((h4 k).2 (Or.inr (Or.inl x)))
 ·exact Or.inl ((h4 k).2 (Or.inr (Or.inr (Or.inl x))))
 rcases g2 k x with y | y
 ·exact Or.inl ((h4 k).2 (Or.inr (Or.inr (Or.inr y))))
 exact Or.inr y
set_option maxHeartbeats 2000000 in
set_option maxRecDepth 100000 in
theorem t_Read {S:World→(Nat→Prop)→List Tok→Prop} {V:List Tok→Tok→Prop} {f:Value} (hS:Sink f S V) {w:World} {r:Nat} {z:Sn} {ts:List Tok} {E:Nat→Prop} (h:RM S .nilFunc r z.st z ts E w) (hok:SOk z) {sh:Sh} (hlk:Lk z sh) (hst:z.st≤10) (piece:ByteArray) (hl:z.at'+piece.size≤4000000) (hx:z.tx.length+piece.size≤4000000) (hV:VL V ts (sRun z (bs piece)).ts) :
 Calls Tryz.prog 52 #[.pointer (some ⟨r,0,none⟩),.string piece,f] w (RF S .nilFunc r (sRun z (bs piece)) ts E w):=by
 obtain ⟨N,first,cap,hf,_,_⟩:=hS.call
 obtain ⟨M1,F1⟩:=RM.setTell hS h f
 obtain ⟨_,_,_,hrs⟩:=h.rs
 have fz:=hrs.b.fz
 have q14:w.cell? ⟨r,14,none⟩=some .nilFunc:=hrs.b.cell 14
 have CF:=hide (t_follow hS M1 hok hlk hst piece hl hx hV)
 have EV1:=hide F1
 have HS:=hide hS
 clear hrs M1 F1 hS h hok hlk hV
 subst hf
 generalize sRun z (bs piece)=rf at *
 go_enter Tryz.func52,Tryz.ntmps52
 go_wp2_with fail
 refine CF.out.mono ?_
 rintro res w1 ⟨rfl,E1,hM1,hE1⟩
 obtain ⟨M2,F2⟩:=RM.setTell HS.out hM1 .nilFunc
 obtain ⟨_,_,_,hrs⟩:=hM1.rs
 have fz1:=hrs.b.fz
 have p14:=hrs.b.cell 14
 simp [rcl] at p14
 have MM2:=hide M2
 have EV2:=hide ((EV1.out.trans hE1).trans F2)
 clear hrs M2 F2 hM1 hE1 EV1
 obtain ⟨av,hav⟩:∃av:Nat,av=if rf.e=0 then 0 else rf.z.at':=⟨_,rfl⟩
 rw [← hav]
 have HAV:=hide hav
 clear hav
 go_wp2
 go_ret2
 exact ⟨by rw [← HAV.out]; rfl,E1,MM2.out,EV2.out⟩
def RE (S:World→(Nat→Prop)→List Tok→Prop) (tell:Value) (r:Nat) (z:Sn) (ts:List Tok) (E:Nat→Prop) (w:World) (res:Ending) (w':World):Prop :=
 res=.returned (.tuple #[.int .i64 ((if sWhole z=true then 0 else 2:Nat):Int),.int .i64 ((if sWhole z=true then 0 else z.at':Nat):Int)])∧∃E',RM S tell r z.st z (ts++(if sWhole z=true then sEnd z else [])) E' w'∧Ev E w E' w'
set_option maxHeartbeats 2000000 in
set_option maxRecDepth 100000 in
theorem t_End {S:World→(Nat→Prop)→List Tok→Prop} {V:List Tok→Tok→Prop} {f:Value} (hS:Sink f S V) {w:World} {r:Nat} {z:Sn} {ts:List Tok} {E:Nat→Prop} (h:RM S .nilFunc r z.st z ts E w) (hok:SOk z) (hV:sWhole z=true→VL V ts (sEnd z)) :
 Calls Tryz.prog 54 #[.pointer (some ⟨r,0,none⟩),f] w (RE S .nilFunc r z ts E w):=by
 obtain ⟨N,first,cap,hf,hE,hcall⟩:=RM.tell2 hS .nilFunc
 obtain ⟨ov,bp,bv,hrs⟩:=h.rs
 obtain ⟨ao,cp,rfl⟩:=own_slice hrs.o
 have c0:w.cell? ⟨r,0,none⟩=some (.int .i64 (z.st:Nat)):=hrs.b.cell 0
 have c1:w.cell? ⟨r,1,none⟩=some (.int .i64 (z.at':Nat)):=hrs.b.cell 1
 have c2:w.cell? ⟨r,2,none⟩=some (.slice ao z.op.length cp):=hrs.b.cell 2
 by_cases hs:z.st=5∨z.st=9
 ·by_cases ho:z.op=[]
  ·have hw:sWhole z=true:=by rcases hs with x | x<;>simp [sWhole,x,ho]
   have hl0:z.op.length=0:=by rw [ho]; rfl
   rw [hl0] at c2
   by_cases h9:z.st=9
   ·have n5:((z.st:Int) == 5)=false:=by rw [beq_eq_false_iff_ne]; omega
    have hn:=hok.n (Or.inr h9)
    have hp:=pow_le9 hn.1
    have NU:=hide (t_number hrs (by omega) hn.2.2.2.1)
    have KP:Hid (∀W',Keeps w W'→RM S .nilFunc r z.st z ts E W'∧Ev E w E W'):=fun W' k=>RM.keeps hS h k
    have eE:sEnd z=[sNumT z]:=by unfold sEnd; rw [if_pos h9]
    have hv:=hV hw
    rw [eE] at hv
    have TE:Hid (∀W,RM S .nilFunc r z.st z ts E W→Calls Tryz.prog N (first.push (tagg (sNumT z))++cap) W fun res w'=>res=.returned (.tuple #[])∧∃E',RM S .nilFunc r z.st z (ts++[sNumT z]) E' w'∧Ev E W E' w'):=fun W hW=>hcall _ hW hv.1
    have FINE:Hid (∀E' w',RM S .nilFunc r z.st z (ts++[sNumT z]) E' w'→Ev E w E' w'→RE S .nilFunc r z ts E w (.returned (.tuple #[.int .i64 0,.int .i64 0])) w'):=fun E' w' h1 h2=>by
     unfold RE
     rw [if_pos hw,if_pos hw,if_pos hw,eE]
     exact ⟨rfl,E',h1,h2⟩
    rw [h9] at c0
    generalize tagg (sNumT z)=tg at *
    clear h hok hV hcall hrs hs ho hw hl0 h9 hS n5 hn hp hv eE
    subst hf
    go_enter Tryz.func54,Tryz.ntmps54
    go_wp2_with fail
    refine NU.out.mono ?_
    rintro res w1 ⟨rfl,hk⟩
    have M1:=hide (KP.out _ hk).1
    have EV1:=hide (KP.out _ hk).2
    clear hk
    go_wp2_with fail
    refine (TE.out _ M1.out).mono ?_
    rintro res w2 ⟨rfl,E2,hM2,hE2⟩
    have RES:=hide (FINE.out E2 w2 hM2 (EV1.out.trans hE2))
    clear hM2 hE2
    go_wp2
    go_ret2
    exact RES.out
   have h5:z.st=5:=by omega
   have RES:Hid (RE S .nilFunc r z ts E w (.returned (.tuple #[.int .i64 0,.int .i64 0])) w):=by
    have e:sEnd z=[]:=by unfold sEnd; rw [if_neg h9]
    unfold Hid RE
    rw [if_pos hw,if_pos hw,if_pos hw,e,List.append_nil]
    exact ⟨rfl,E,h,Ev.refl _ _⟩
   rw [h5] at c0
   clear h hok hV hcall hrs hs ho hw hl0 h9 h5 hS
   subst hf
   go_enter Tryz.func54,Tryz.ntmps54
   go_wp2
   go_ret2
   exact RES.out
  have hw:sWhole z=false:=by simp [sWhole,ho]
  have RES:Hid (RE S .nilFunc r z ts E w (.returned (.tuple #[.int .i64 2,.int .i64 (z.at':Nat)])) w.drew):=by
   unfold Hid RE
   rw [hw]
   simp only [Bool.false_eq_true,if_false,List.append_nil]
   exact ⟨rfl,E,RM.drewN hS h 1,(Ev.refl _ _).drewN 1⟩
  have hpos:(0:Int)<(z.op.length:Int):=by have:=List.length_pos_iff.2 ho; omega
  have hl8:=hok.op.1
  generalize z.op.length=L at *
  rcases hs with hs | hs
  ·rw [hs] at c0
   clear h hok hV hcall hrs ho hw hS hs
   subst hf
   go_enter Tryz.func54,Tryz.ntmps54
   go_wp2
   go_region
   all_goals
    go_wp2
    go_ret2
    exact RES.out
  rw [hs] at c0
  clear h hok hV hcall hrs ho hw hS hs
  subst hf
  go_enter Tryz.func54,Tryz.ntmps54
  go_wp2
  go_region
  all_goals
   go_wp2
   go_ret2
   exact RES.out
 have hw:sWhole z=false:=by simp only [sWhole]; rw [Bool.and_eq_false_iff]; left; simp; omega
 have RES:Hid (RE S .nilFunc r z ts E w (.returned (.tuple #[.int .i64 2,.int .i64 (z.at':Nat)])) w.drew):=by
  unfold Hid RE
  rw [hw]
  simp only [Bool.false_eq_true,if_false,List.append_nil]
  exact ⟨rfl,E,RM.drewN hS h 1,(Ev.refl _ _).drewN 1⟩
 have n5:((z.st:Int) == 5)=false:=by rw [beq_eq_false_iff_ne]; omega
 have n9:((z.st:Int) == 9)=false:=by rw [beq_eq_false_iff_ne]; omega
 generalize z.st=st at *
 clear h hok hV hcall hrs hw hS hs
 subst hf
 go_enter Tryz.func54,Tryz.ntmps54
 go_wp2
 go_region
 all_goals
  go_wp2
  go_ret2
  exact RES.out
end Go.Proofs.YtcbadebjpogmlaaGreatDoor
