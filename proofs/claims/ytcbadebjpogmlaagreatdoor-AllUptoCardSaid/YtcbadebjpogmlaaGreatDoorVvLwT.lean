import Derived.Test.YtcbadebjpogmlaaGreatDoorVvLwJ
import Derived.Test.YtcbadebjpogmlaaGreatDoorVvLwO
import Derived.Test.YtcbadebjpogmlaaGreatDoorVvLwM
set_option maxHeartbeats 1000000
namespace Go.Proofs.YtcbadebjpogmlaaGreatDoor
open Go.RowKit Tr Go.Proofs.Tryz
variable{n k i:Nat}{g:Nat->Nat}{f:List PX}{c:List FX}{a b:List (Value×Int)}{w v:World}
theorem SR.st(h:SR n g k f c a b i w v):gI lg n g ⟨f.length,c.length,a.length,b.length,k,i⟩ w v:=by grind[SR,gI]
theorem P'{r:Rv}(h:LA lg w n g r k f c a b)(p:c.length<=2000000000000)(u:b.length<=2000000000000)(x:k<=2000000000000)(q:∀d∈c,d.p.size<=i)(j l m:Int)(s:ByteArray)(t:j=5\/j=6)(v:i+s.size<=1100000):Calls prog 30 #[pT n,.agg #[.int .i64 j,.int .i64 l,.int .i64 m,.string s]] w λe A=>e=.returned (.bool true)/\gI lg n g ⟨f.length,c.length,a.length,b.length,k,i+s.size⟩ w A:=by
 have o:∀d∈c,d.p.size<=i+s.size:=λd p=>az (q d p) (Nat.le_add_right _ _);rcases Nat.eq_zero_or_pos c.length with z|z;.exact P9 h z o j l m t s
 rcases t with e|e;.exact(P7 h z p u x q j l m e s v).mono λ_ _ y=>⟨y.1,y.2.st⟩
 exact(Ds h z p u x o j l m e s v).mono λ_ _ y=>⟨y.1,y.2.st⟩
theorem uh:Dn lg:=λw p d r nx F o D C b y h B hF l j A k m g a i z=>by refine(Ds h hF j k m g 6 0 (i:Nat) rfl ⟨#[]⟩ a).mono ?_;rintro e H⟨rfl,c,G,f,n,q,s,t,u,v,x⟩;grind
theorem tC:AL lg λk=>k∈([1,4,5,6]:List Int):=λw q l r nx A n z y b i h p g d u t x o k a m s j v=>by
 have c:∀f∈n,f.p.size<=b+s.size:=λf d=>az (o f d) (Nat.le_add_right _ _);simp only[List.mem_cons,List.not_mem_nil,or_false]at j;rcases j with e|e|e|e;.exact Dl gK i h c g k a m e s (by unfold maxLen;omega)
 .exact Dt i h c p d k a m e s
 .grind[P']
 grind[P']
variable{j:Option Addr}{d:List qn}
theorem FM(o:EN w)(c:kH w j n k d)(p:n<=1100000)(e:gj d<=1100000):Calls prog 12 #[.slice j n k] w λr C=>r=.returned (.bool true)/\Q w C:=by
 have g:=Z ((Fr.refl (λ_=>False) w).alloc (.cells #[.int .i64 1,.int .i64 4,.int .i64 5,.int .i64 6] 3));have b:=V.new w #[.int .i64 1,.int .i64 4,.int .i64 5,.int .i64 6] 3;have m:kH (w.alloc (.cells #[.int .i64 1,.int .i64 4,.int .i64 5,.int .i64 6] 3)) j n k d:=by
  rcases c with h|⟨f,v,x,y,z⟩;.exact Y h
  refine I ⟨f,v,x,by simp;omega,λa u B=>?_⟩;have t:(f.add a).block=f.block:=by unfold Addr.add;split<;>rfl
  exact(g.o.cell (p:=f.add a) (by rw[t];exact y) id).trans (z a u B)
 have l:=Z (Dq gK tC uh (o.keep g.o) m (rL:=w.heap.size) (λi A=>by
  have:i=0\/i=1\/i=2\/i=3:=by simp at A;omega
  rcases this with rfl|rfl|rfl|rfl;.exact b.cell 0
  .exact b.cell 1
  .exact b.cell 2
  exact b.cell 3) si si p e);clear o c e p b m;go_enter func12,ntmps12;go_wp2_with fail;refine mo (l.o) λD q=>?_;have s:=Z (g.o.trans q);clear q;go_wp2;go_ret;exact⟨rfl,s.o⟩
theorem FN:AL lg λk=>k∈([1,2,3,4,5,6]:List Int):=λw u n r nx A o z y b d h i j g q v t p k a m s l x=>by
 have c:∀f∈o,f.p.size<=b+s.size:=λf g=>az (p f g) (Nat.le_add_right _ _);simp only[List.mem_cons,List.not_mem_nil,or_false]at l;rcases l with e|e|e|e|e|e;.exact Dl gK d h c j k a m e s (by unfold maxLen;omega)
 .exact PG gK h c i k a m e s
 .exact PJ gK d h c i q t k a m e s om
 .exact Dt d h c i g k a m e s
 .grind[P']
 grind[P']
theorem Zw(o:EN w)(c:kH w j n k d)(p:n<=1100000)(e:gj d<=1100000):Calls prog 13 #[.slice j n k] w λr C=>r=.returned (.bool true)/\Q w C:=by
 have g:=Z ((Fr.refl (λ_=>False) w).alloc (.cells #[.int .i64 1,.int .i64 2,.int .i64 3,.int .i64 4,.int .i64 5,.int .i64 6] 3));have b:=V.new w #[.int .i64 1,.int .i64 2,.int .i64 3,.int .i64 4,.int .i64 5,.int .i64 6] 3;have m:kH (w.alloc (.cells #[.int .i64 1,.int .i64 2,.int .i64 3,.int .i64 4,.int .i64 5,.int .i64 6] 3)) j n k d:=by
  rcases c with h|⟨f,v,x,y,z⟩;.exact Y h
  refine I ⟨f,v,x,by simp;omega,λa u B=>?_⟩;have t:(f.add a).block=f.block:=by unfold Addr.add;split<;>rfl
  exact(g.o.cell (p:=f.add a) (by rw[t];exact y) id).trans (z a u B)
 have l:=Z (Dq gK FN uh (o.keep g.o) m (rL:=w.heap.size) (λi A=>by
  have:i=0\/i=1\/i=2\/i=3\/i=4\/i=5:=by simp at A;omega
  rcases this with rfl|rfl|rfl|rfl|rfl|rfl;.exact b.cell 0
  .exact b.cell 1
  .exact b.cell 2
  .exact b.cell 3
  .exact b.cell 4
  exact b.cell 5) si si p e);clear o c e p b m;go_enter func13,ntmps13;go_wp2_with fail;refine mo (l.o) λD q=>?_;have s:=Z (g.o.trans q);clear q;go_wp2;go_ret;exact⟨rfl,s.o⟩
