import Derived.Test.YtcbadebjpogmlaaGreatDoorPFa
namespace Go.Proofs.YtcbadebjpogmlaaGreatDoor
open Go.RowKit Tr
theorem bsb_app (a b:List UInt8):bsb a++bsb b=bsb (a++b):=by
 unfold bsb
 apply ByteArray.ext
 simp
theorem esc_len (l:List UInt8):(l.flatMap esc1).length≤2 * l.length:=by
 induction l with
 | nil=>simp
 | cons a l ih =>
  have h:(esc1 a).length≤2:=by unfold esc1; split<;>simp
  rw [List.flatMap_cons,List.length_append,List.length_cons]; omega
theorem ph_len {w:World}:∀{n b:Nat} {p:List UInt8},PH w n b p→p.length≤n * 8000010
 | 0,_,_,h=>h.elim
 | n+1,b,p,⟨d,par,ix,sv,h1,h2,h3,h4⟩=>by
  rcases h4 with ⟨_,rfl⟩ | ⟨pb,dp,pp,pix,psv,pp',_,_,_,_,x5,rfl⟩
  ·simp; omega
  have ih:=ph_len x5
  have a:=dec_len ix
  have b:=esc_len d.name
  have e:(n+1) * 8000010=n * 8000010+8000010:=by rw [Nat.add_mul]
  unfold kPath
  split
  ·simp only [List.length_append,List.length_cons,List.length_nil]; omega
  unfold quoT
  simp only [List.length_append,List.length_cons,List.length_nil]; omega
theorem bsb_len (l:List UInt8):(bsb l).size=l.length:=by simp [bsb,ByteArray.size]
set_option maxHeartbeats 4000000 in
set_option maxRecDepth 100000 in
theorem p_path:∀(n:Nat) {w:World} {b:Nat} {p:List UInt8},n≤10→EN w→PH w n b p→Calls Tryz.prog 55 #[.pointer (some ⟨b,0,none⟩)] w fun r w'=>r=.returned (.string (bsb p))∧Keeps w w'
 | 0,_,_,_,_,_,h=>h.elim
 | n+1,w,b,p,hn,he,⟨d,par,ix,sv,h1,h2,h3,h4⟩=>by
  have c6:w.cell? ⟨b,6,none⟩=some (.int .i64 (ix:Nat)):=h1.cell 6
  have c7:w.cell? ⟨b,7,none⟩=some (.string (bsb d.name)):=h1.cell 7
  rcases h4 with ⟨rfl,rfl⟩ | ⟨pb,dp,pp,pix,psv,pp',rfl,x2,x3,x4,x5,rfl⟩
  ·have c5:w.cell? ⟨b,5,none⟩=some (.pointer none):=h1.cell 5
   clear h1 he
   go_enter Tryz.func55,Tryz.ntmps55
   go_wp2
   go_ret
   exact ⟨rfl,Fr.refl _ _⟩
  have c5:w.cell? ⟨b,5,none⟩=some (.pointer (some ⟨pb,0,none⟩)):=h1.cell 5
  have q0:w.cell? ⟨pb,0,none⟩=some (.int .i64 (pkd dp:Nat)):=x2.cell 0
  obtain ⟨P,hP⟩:∃P,P=bsb pp':=⟨_,rfl⟩
  have hz1:P.size≤80000100:=by rw [hP,bsb_len]; have:=ph_len x5; have:n * 8000010≤9 * 8000010:=Nat.mul_le_mul_right _ (by omega); omega
  have REC:Hid (∀W,Keeps w W→Calls Tryz.prog 55 #[.pointer (some ⟨pb,0,none⟩)] W fun r w'=>r=.returned (.string P)∧Keeps W w'):=fun W hW=>by rw [hP]; exact p_path n (by omega) (he.keep hW) (x5.keep hW)
  rcases x4 with k4 | k5
  ·have ek:pkd dp=5:=((pkd5 x3).2.1).2 k4
   rw [ek] at q0
   obtain ⟨Q,hQ⟩:∃Q,Q=bsb (dec ix):=⟨_,rfl⟩
   have hz2:Q.size≤4000001:=by rw [hQ,bsb_len]; have:=dec_len ix; omega
   have IT:Hid (∀W,Keeps w W→Calls Tryz.prog 75 #[.int .i64 (ix:Nat)] W fun r w'=>r=.returned (.string Q)∧Keeps W w'):=fun W hW=>by rw [hQ]; exact p_itoa (he.keep hW) ix h2
   have KS:Hid (∀W,Keeps w W→W.cell? ⟨b,5,none⟩=some (.pointer (some ⟨pb,0,none⟩))∧W.cell? ⟨b,6,none⟩=some (.int .i64 (ix:Nat))∧Keeps w W):=fun W hW=>⟨(hW.cell (p:=⟨b,5,none⟩) h1.lt id).trans c5,(hW.cell (p:=⟨b,6,none⟩) h1.lt id).trans c6,hW⟩
   have HP:Hid (bsb (kPath dp.kind pp' ix d.name)=P++⟨#[91]⟩++Q++⟨#[93]⟩):=by
    unfold Hid kPath
    rw [if_pos k4,hP,hQ]
    show _=bsb pp'++bsb [91]++bsb (dec ix)++bsb [93]
    rw [bsb_app,bsb_app,bsb_app]
   have hc1:(P++⟨#[91]⟩).size≤80000101:=by rw [ByteArray.size_append]; show P.size+1≤_; omega
   have hc2:(P++⟨#[91]⟩++Q).size≤84000102:=by rw [ByteArray.size_append]; omega
   rw [HP.out]
   clear h1 he x2 x3 x5 k4 ek hP hQ HP h3 hn
   go_enter Tryz.func55,Tryz.ntmps55
   go_wp2
   go_region_held (fun w'=>w'.cell? ⟨b,5,none⟩=some (.pointer (some ⟨pb,0,none⟩))∧w'.cell? ⟨b,6,none⟩=some (.int .i64 (ix:Nat))∧Keeps w w') (first | exact KS.out _ ((Fr.refl _ _).drewN 1) | exact KS.out _ (by assumption))
    (first
     | (go_at_call 55; refine (REC.out _ (by first | assumption | exact ‹_∧_∧Keeps w _›.2.2)).mono ?_; rintro r w1 ⟨rfl,hk⟩; have hk1:Keeps w w1:=Fr.trans (by first | assumption | exact ‹_∧_∧Keeps w _›.2.2) hk)
     | (go_at_call 75; refine (IT.out _ (by first | assumption | exact ‹_∧_∧Keeps w _›.2.2)).mono ?_; rintro r w1 ⟨rfl,hk⟩; have hk1:Keeps w w1:=Fr.trans (by first | assumption | exact ‹_∧_∧Keeps w _›.2.2) hk))
   all_goals
    go_wp2
    go_ret
    exact ⟨rfl,by first | assumption | exact ‹_∧_∧Keeps w _›.2.2⟩
  have n5:((pkd dp:Int) == 5)=false:=by
   rw [beq_eq_false_iff_ne]
   have h5:pkd dp=6:=((pkd5 x3).1).2 k5
   omega
  obtain ⟨Q,hQ⟩:∃Q,Q=bsb (d.name.flatMap esc1):=⟨_,rfl⟩
  have hz2:Q.size≤8000000:=by rw [hQ,bsb_len]; have:=esc_len d.name; omega
  have IT:Hid (∀W,Keeps w W→Calls Tryz.prog 76 #[.string (bsb d.name)] W fun r w'=>r=.returned (.string Q)∧Keeps W w'):=fun W hW=>by
   have:=p_escaped (he.keep hW) (bsb d.name) (by rw [bsb_len]; exact h3)
   rw [bs_bsb] at this
   rw [hQ]; exact this
  have KS:Hid (∀W,Keeps w W→W.cell? ⟨b,5,none⟩=some (.pointer (some ⟨pb,0,none⟩))∧W.cell? ⟨b,7,none⟩=some (.string (bsb d.name))∧Keeps w W):=fun W hW=>⟨(hW.cell (p:=⟨b,5,none⟩) h1.lt id).trans c5,(hW.cell (p:=⟨b,7,none⟩) h1.lt id).trans c7,hW⟩
  have HP:Hid (bsb (kPath dp.kind pp' ix d.name)=P++⟨#[91,39]⟩++Q++⟨#[39,93]⟩):=by
   unfold Hid kPath
   rw [if_neg (by omega),hP,hQ]
   show _=bsb pp'++bsb [91,39]++bsb (d.name.flatMap esc1)++bsb [39,93]
   rw [bsb_app,bsb_app,bsb_app]
   simp [quoT]
  have hc1:(P++⟨#[91,39]⟩).size≤80000102:=by rw [ByteArray.size_append]; show P.size+2≤_; omega
  have hc2:(P++⟨#[91,39]⟩++Q).size≤88000102:=by rw [ByteArray.size_append]; omega
  rw [HP.out]
  obtain ⟨NM,hNM⟩:∃NM,NM=bsb d.name:=⟨_,rfl⟩
  rw [← hNM] at c7 IT KS
  clear h1 he x2 x3 x5 k5 hP hQ HP h3 hn hNM
  generalize pkd dp=kd at *
  go_enter Tryz.func55,Tryz.ntmps55
  go_wp2
  go_region_held (fun w'=>w'.cell? ⟨b,5,none⟩=some (.pointer (some ⟨pb,0,none⟩))∧w'.cell? ⟨b,7,none⟩=some (.string NM)∧Keeps w w') (first | exact KS.out _ ((Fr.refl _ _).drewN 1) | exact KS.out _ (by assumption))
   (first
    | (go_at_call 55; refine (REC.out _ (by first | assumption | exact ‹_∧_∧Keeps w _›.2.2)).mono ?_; rintro r w1 ⟨rfl,hk⟩; have hk1:Keeps w w1:=Fr.trans (by first | assumption | exact ‹_∧_∧Keeps w _›.2.2) hk)
    | (go_at_call 76; refine (IT.out _ (by first | assumption | exact ‹_∧_∧Keeps w _›.2.2)).mono ?_; rintro r w1 ⟨rfl,hk⟩; have hk1:Keeps w w1:=Fr.trans (by first | assumption | exact ‹_∧_∧Keeps w _›.2.2) hk))
  all_goals
   go_wp2
   go_ret
   exact ⟨rfl,by first | assumption | exact ‹_∧_∧Keeps w _›.2.2⟩
end Go.Proofs.YtcbadebjpogmlaaGreatDoor
