import Derived.Test.YtcbadebjpogmlaaGreatDoorPCm
namespace Go.Proofs.YtcbadebjpogmlaaGreatDoor
open Go.RowKit Tr Go.Conc
structure FdI (w:World) (sb b:Nat) (tt:ByteArray) (xs:List Sg) (Dp:Nat→Prop) (p:List UInt8) (av:Value) (wr:World):Prop where
 ex:∃Es,ST sb b tt xs Dp (fun k=>w.heap[k]?) wr Es p∧(∀k,Es k→(Dp k∨gEN k)∨w.heap.size≤k)∧wr.ownsRow 0 44 4 av (stT xs p).length ((stT xs p).flatMap tcl)∧∀k,av.ownBlock=some k→w.heap.size≤k∧¬Es k
 k:Keeps w wr
theorem fd_feed {w:World} {sb b:Nat} {tt:ByteArray} {xs:List Sg} {Dp:Nat→Prop} (hx:xs.length≤10) (hsel:selN xs≤10) (hpos:∀g ∈ xs,0<g.l.length) {p:List UInt8} {av:Value} {wr:World} (h:FdI w sb b tt xs Dp p av wr) (q:ByteArray) (hl:p.length+q.size≤4000000) :
 Calls Tryz.prog 38 #[fvp sb,.string q] wr fun res w'=>∃sv,res=.returned (.tuple #[sv,.int .i64 (stE (p++bs q):Nat),.int .i64 (stAt (p++bs q):Nat)])∧w'.ownsRow 0 44 4 sv (stN xs p (bs q)).length ((stN xs p (bs q)).flatMap tcl)∧Keeps w w'∧w'.ownsRow 0 44 4 av (stT xs p).length ((stT xs p).flatMap tcl) ∧
  ∃Es,ST sb b tt xs Dp (fun k=>w.heap[k]?) w' Es (p++bs q)∧(∀k,Es k→(Dp k∨gEN k)∨w.heap.size≤k)∧(∀k,sv.ownBlock=some k→¬Es k∧av.ownBlock≠some k∧w.heap.size≤k)∧∀k,av.ownBlock=some k→w.heap.size≤k∧¬Es k:=by
 obtain ⟨Es,h1,h2,h3,h4⟩:=h.ex
 refine (st_feed hx hsel hpos h1 q hl).mono ?_
 rintro res w' ⟨sv,Es',rfl,g1,g2,g3,g4,g5⟩
 have hz:=h.k.size
 have K:Keeps w w':=by
  refine ⟨g5.os.trans h.k.os,g5.tape.trans h.k.tape,g5.output.trans h.k.output,Nat.le_trans h.k.size g5.size,fun k hk _=>?_⟩
  by_cases he:Es k
  ·rcases h2 k he with y | y
   ·exact (g1.same y).1
   omega
  rw [g5.block k (by omega) he]; exact h.k.block k hk id
 have nE:∀k,Es' k→(Dp k∨gEN k)∨w.heap.size≤k:=fun k hk=>by
  rcases g4 k hk with y | y
  ·exact h2 k y
  exact Or.inr (by omega)
 have avE:∀k,av.ownBlock=some k→¬Es' k:=fun k hk y=>by
  rcases g4 k y with u | u
  ·exact (h4 k hk).2 u
  have:=(h3.lt k hk).2; omega
 refine ⟨sv,rfl,g2,K,own_at' h3 (fun k hk=>g5.block k (h3.lt k hk).2 (h4 k hk).2),Es',g1,nE,fun k hk=>⟨(g3 k hk).1,fun y=>?_,?_⟩,fun k hk=>⟨(h4 k hk).1,avE k hk⟩⟩
 ·rcases (g3 k hk).2 with u | u
  ·exact (h4 k y).2 u
  have:=(h3.lt k y).2; omega
 rcases (g3 k hk).2 with u | u
 ·rcases h2 k u with v | v
  ·exact absurd (g1.same v).2 (g3 k hk).1
  exact v
 omega
end Go.Proofs.YtcbadebjpogmlaaGreatDoor
