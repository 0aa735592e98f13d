import Derived.Test.YtcbadebjpogmlaaGreatDoorVsAf
set_option maxHeartbeats 4000000
set_option maxRecDepth 100000
namespace Go.Proofs.YtcbadebjpogmlaaGreatDoor
open Go.RowKit Tr
theorem lz (a b:List UInt8):bZ a++bZ b=bZ (a++b):=by
 unfold bZ
 apply ByteArray.ext
 simp
theorem Bm (l:List UInt8):(l.flatMap gV).length<=2 * l.length:=by
 induction l with
 | nil=>simp
 | cons a l ih =>
  have h:(gV a).length<=2:=by unfold gV; split<;>simp
  rw [List.flatMap_cons,List.length_append,List.length_cons]; omega
theorem Gh {w:World}:∀{n b:Nat} {p:List UInt8},PH w n b p->p.length<=n * 8000010
 | 0,_,_,h=>h.elim
 | n+1,b,p,⟨d,par,ix,sv,h1,h2,h3,h4⟩=>by
  rcases h4 with ⟨_,rfl⟩ | ⟨pb,dp,pp,Uv,Uw,FA,_,_,_,_,x5,rfl⟩
  ·simp; omega
  have ih:=Gh x5
  have a:=mD ix
  have b:=Bm d.name
  have e:(n+1) * 8000010=n * 8000010+8000010:=by rw [Nat.add_mul]
  unfold kM
  split
  ·simp only [List.length_append,List.length_cons,List.length_nil]; omega
  unfold iV
  simp only [List.length_append,List.length_cons,List.length_nil]; omega
theorem pP (l:List UInt8):(bZ l).size=l.length:=by simp [bZ,ByteArray.size]
theorem Gj:∀(n:Nat) {w:World} {b:Nat} {p:List UInt8},n<=10->EN w->PH w n b p->Calls Tryz.prog 55 #[.pointer (some ⟨b,0,none⟩)] w λ r w'=>r=.returned (.string (bZ p))/\ak w w'
 | 0,_,_,_,_,_,h=>h.elim
 | n+1,w,b,p,hn,he,⟨d,par,ix,sv,h1,h2,h3,h4⟩=>by
  have c6:w.cell? ⟨b,6,none⟩=some (.int .i64 (ix:Nat)):=h1.cell 6
  have c7:w.cell? ⟨b,7,none⟩=some (.string (bZ d.name)):=h1.cell 7
  rcases h4 with ⟨rfl,rfl⟩ | ⟨pb,dp,pp,Uv,Uw,FA,rfl,x2,x3,x4,x5,rfl⟩
  ·have c5:w.cell? ⟨b,5,none⟩=some (.pointer none):=h1.cell 5
   clear h1 he
   go_enter Tryz.func55,Tryz.ntmps55
   go_wp2
   go_ret
   exact ⟨rfl,Fr.refl _ _⟩
  have c5:w.cell? ⟨b,5,none⟩=some (.pointer (some ⟨pb,0,none⟩)):=h1.cell 5
  have q0:w.cell? ⟨pb,0,none⟩=some (.int .i64 (e_ dp:Nat)):=x2.cell 0
  obtain ⟨P,hP⟩:∃P,P=bZ FA:=⟨_,rfl⟩
  have hz1:P.size<=80000100:=by rw [hP,pP]; have:=Gh x5; have:n * 8000010<=9 * 8000010:=Nat.mul_le_mul_right _ (by omega); omega
  have Yq:Hid (∀W,ak w W->Calls Tryz.prog 55 #[.pointer (some ⟨pb,0,none⟩)] W λ r w'=>r=.returned (.string P)/\ak W w'):=λ W hW=>by rw [hP]; exact Gj n (by omega) (he.keep hW) (x5.keep hW)
  rcases x4 with k4 | k5
  ·have ek:e_ dp=5:=((pq x3).2.1).2 k4
   rw [ek] at q0
   obtain ⟨Q,hQ⟩:∃Q,Q=bZ (dec ix):=⟨_,rfl⟩
   have dN:Q.size<=4000001:=by rw [hQ,pP]; have:=mD ix; omega
   have IT:Hid (∀W,ak w W->Calls Tryz.prog 75 #[.int .i64 (ix:Nat)] W λ r w'=>r=.returned (.string Q)/\ak W w'):=λ W hW=>by rw [hQ]; exact Qc (he.keep hW) ix h2
   have KS:Hid (∀W,ak w W->W.cell? ⟨b,5,none⟩=some (.pointer (some ⟨pb,0,none⟩))/\W.cell? ⟨b,6,none⟩=some (.int .i64 (ix:Nat))/\ak w W):=λ W hW=>⟨(hW.cell (p:=⟨b,5,none⟩) h1.lt id).trans c5,(hW.cell (p:=⟨b,6,none⟩) h1.lt id).trans c6,hW⟩
   have HP:Hid (bZ (kM dp.kind FA ix d.name)=P++⟨#[91]⟩++Q++⟨#[93]⟩):=by
    unfold Hid kM
    rw [if_pos k4,hP,hQ]
    show _=bZ FA++bZ [91]++bZ (dec ix)++bZ [93]
    rw [lz,lz,lz]
   have Ls:(P++⟨#[91]⟩).size<=80000101:=by rw [ByteArray.size_append]; show P.size+1<=_; omega
   have Fg:(P++⟨#[91]⟩++Q).size<=84000102:=by rw [ByteArray.size_append]; omega
   rw [HP.out]
   clear h1 he x2 x3 x5 k4 ek hP hQ HP h3 hn
   go_enter Tryz.func55,Tryz.ntmps55
   go_wp2
   go_region_held (λ w'=>w'.cell? ⟨b,5,none⟩=some (.pointer (some ⟨pb,0,none⟩))/\w'.cell? ⟨b,6,none⟩=some (.int .i64 (ix:Nat))/\ak w w') (first | exact KS.out _ ((Fr.refl _ _).drewN 1) | exact KS.out _ (by assumption))
    (first
     | (go_at_call 55; refine (Yq.out _ (by first | assumption | exact ‹_/\_/\ak w _›.2.2)).mono ?_; rintro r w1 ⟨rfl,hk⟩; have sL:ak w w1:=Fr.trans (by first | assumption | exact ‹_/\_/\ak w _›.2.2) hk)
     | (go_at_call 75; refine (IT.out _ (by first | assumption | exact ‹_/\_/\ak w _›.2.2)).mono ?_; rintro r w1 ⟨rfl,hk⟩; have sL:ak w w1:=Fr.trans (by first | assumption | exact ‹_/\_/\ak w _›.2.2) hk))
   all_goals
    go_wp2
    go_ret
    exact ⟨rfl,by first | assumption | exact ‹_/\_/\ak w _›.2.2⟩
  have n5:((e_ dp:Int) == 5)=false:=by
   rw [beq_eq_false_iff_ne]
   have h5:e_ dp=6:=((pq x3).1).2 k5
   omega
  obtain ⟨Q,hQ⟩:∃Q,Q=bZ (d.name.flatMap gV):=⟨_,rfl⟩
  have dN:Q.size<=8000000:=by rw [hQ,pP]; have:=Bm d.name; omega
  have IT:Hid (∀W,ak w W->Calls Tryz.prog 76 #[.string (bZ d.name)] W λ r w'=>r=.returned (.string Q)/\ak W w'):=λ W hW=>by
   have:=CW (he.keep hW) (bZ d.name) (by rw [pP]; exact h3)
   rw [h_] at this
   rw [hQ]; exact this
  have KS:Hid (∀W,ak w W->W.cell? ⟨b,5,none⟩=some (.pointer (some ⟨pb,0,none⟩))/\W.cell? ⟨b,7,none⟩=some (.string (bZ d.name))/\ak w W):=λ W hW=>⟨(hW.cell (p:=⟨b,5,none⟩) h1.lt id).trans c5,(hW.cell (p:=⟨b,7,none⟩) h1.lt id).trans c7,hW⟩
  have HP:Hid (bZ (kM dp.kind FA ix d.name)=P++⟨#[91,39]⟩++Q++⟨#[39,93]⟩):=by
   unfold Hid kM
   rw [if_neg (by omega),hP,hQ]
   show _=bZ FA++bZ [91,39]++bZ (d.name.flatMap gV)++bZ [39,93]
   rw [lz,lz,lz]
   simp [iV]
  have Ls:(P++⟨#[91,39]⟩).size<=80000102:=by rw [ByteArray.size_append]; show P.size+2<=_; omega
  have Fg:(P++⟨#[91,39]⟩++Q).size<=88000102:=by rw [ByteArray.size_append]; omega
  rw [HP.out]
  obtain ⟨NM,hNM⟩:∃NM,NM=bZ d.name:=⟨_,rfl⟩
  rw [<-hNM] at c7 IT KS
  clear h1 he x2 x3 x5 k5 hP hQ HP h3 hn hNM
  generalize e_ dp=kd at *
  go_enter Tryz.func55,Tryz.ntmps55
  go_wp2
  go_region_held (λ w'=>w'.cell? ⟨b,5,none⟩=some (.pointer (some ⟨pb,0,none⟩))/\w'.cell? ⟨b,7,none⟩=some (.string NM)/\ak w w') (first | exact KS.out _ ((Fr.refl _ _).drewN 1) | exact KS.out _ (by assumption))
   (first
    | (go_at_call 55; refine (Yq.out _ (by first | assumption | exact ‹_/\_/\ak w _›.2.2)).mono ?_; rintro r w1 ⟨rfl,hk⟩; have sL:ak w w1:=Fr.trans (by first | assumption | exact ‹_/\_/\ak w _›.2.2) hk)
    | (go_at_call 76; refine (IT.out _ (by first | assumption | exact ‹_/\_/\ak w _›.2.2)).mono ?_; rintro r w1 ⟨rfl,hk⟩; have sL:ak w w1:=Fr.trans (by first | assumption | exact ‹_/\_/\ak w _›.2.2) hk))
  all_goals
   go_wp2
   go_ret
   exact ⟨rfl,by first | assumption | exact ‹_/\_/\ak w _›.2.2⟩
end Go.Proofs.YtcbadebjpogmlaaGreatDoor
