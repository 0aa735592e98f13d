/- The program's maker: the makers of segments' functions. -/
import Derived.Test.YtcbadebjpogmlaaGreatDoorJMkT
import Derived.Laws.EntriesVeiled
import Derived.Deep.RegionLaw
import Derived.Deep.AppendLies
namespace Go.Proofs.YtcbadebjpogmlaaGreatDoor
open Go.RowKit Tr

theorem selCells_len (l : List SV) : (selCells l).length = l.length * 5 := by
  induction l with
  | nil => rfl
  | cons a l ih => simp only [selCells, List.flatMap_cons, List.length_append, List.length_cons] at *; rw [ih]; simp [SV.cells]; omega
theorem selCells_at (l : List SV) (i c : Nat) (hc : c < 5) (h : i < l.length) : (selCells l)[i * 5 + c]? = (l[i]).cells[c]? := by
  induction l generalizing i with
  | nil => cases h
  | cons a l ih =>
    have e : selCells (a :: l) = a.cells ++ selCells l := rfl
    have ea : a.cells.length = 5 := rfl
    rw [e]
    cases i with
    | zero => rw [List.getElem?_append_left (by omega)]; simp
    | succ i =>
      rw [List.getElem?_append_right (by omega), ea, show (i + 1) * 5 + c - 5 = i * 5 + c by omega, ih i (by simpa using h)]
      simp

/-- A function comes back, or none; memory is only added to. -/
def FnN (w : World) (r : Ending) (w' : World) : Prop := (∃ v, r = .returned v ∧ (v = .nilFunc ∨ ∃ f x y, v = .func f x y)) ∧ Below w.heap.size w w'

set_option maxHeartbeats 2000000 in
theorem m_taking (w : World) (s : SV) : Calls Tryz.prog 161 #[.agg #[.int .i64 s.k, .string s.nm, .int .i64 s.fr, .int .i64 s.to, s.met]] w (FnN w) := by
  obtain ⟨k, nm, fr, to, met, hm⟩ := s
  simp only
  by_cases h1 : k = 1
  · subst h1
    go_enter Tryz.func161, Tryz.ntmps161
    go_wp2
    go_ret
    exact ⟨⟨_, rfl, Or.inr ⟨_, _, _, rfl⟩⟩, ((Fr.refl (fun _ => False) w).alloc _).below⟩
  have e1 : (k == 1) = false := by simpa using h1
  by_cases h2 : k = 2
  · subst h2
    go_enter Tryz.func161, Tryz.ntmps161
    go_wp2
    go_ret
    exact ⟨⟨_, rfl, Or.inr ⟨_, _, _, rfl⟩⟩, ((Fr.refl (fun _ => False) w).alloc _).below⟩
  have e2 : (k == 2) = false := by simpa using h2
  by_cases h3 : k = 3
  · subst h3
    go_enter Tryz.func161, Tryz.ntmps161
    go_wp2
    go_ret
    exact ⟨⟨_, rfl, Or.inr ⟨_, _, _, rfl⟩⟩, ((Fr.refl (fun _ => False) w).alloc _).below⟩
  have e3 : (k == 3) = false := by simpa using h3
  by_cases h4 : k = 4
  · subst h4
    go_enter Tryz.func161, Tryz.ntmps161
    go_wp2
    go_ret
    exact ⟨⟨_, rfl, Or.inr ⟨_, _, _, rfl⟩⟩, ((Fr.refl (fun _ => False) w).alloc _).below⟩
  have e4 : (k == 4) = false := by simpa using h4
  by_cases h5 : k = 5
  · subst h5
    rcases hm with rfl | ⟨f, x, y, rfl⟩
    · go_enter Tryz.func161, Tryz.ntmps161
      go_wp2
      go_ret
      exact ⟨⟨_, rfl, Or.inl rfl⟩, ((Fr.refl (fun _ => False) w).alloc _).below⟩
    · go_enter Tryz.func161, Tryz.ntmps161
      go_wp2
      go_ret
      exact ⟨⟨_, rfl, Or.inr ⟨_, _, _, rfl⟩⟩, ((Fr.refl (fun _ => False) w).alloc _).below⟩
  have e5 : (k == 5) = false := by simpa using h5
  clear h1 h2 h3 h4 h5 hm
  go_enter Tryz.func161, Tryz.ntmps161
  go_wp2
  go_ret
  exact ⟨⟨_, rfl, Or.inr ⟨_, _, _, rfl⟩⟩, ((Fr.refl (fun _ => False) w).alloc _).below⟩

set_option maxHeartbeats 2000000 in
theorem m_late (w : World) (s : SV) : Calls Tryz.prog 162 #[.agg #[.int .i64 s.k, .string s.nm, .int .i64 s.fr, .int .i64 s.to, s.met]] w fun r w' => r = .returned (.bool (s.k == 3 || s.k == 5)) ∧ Below w.heap.size w w' := by
  obtain ⟨k, nm, fr, to, met, hm⟩ := s
  simp only
  clear hm
  by_cases h3 : k = 3
  · subst h3
    go_enter Tryz.func162, Tryz.ntmps162
    go_wp2
    go_ret
    exact ⟨rfl, ((Fr.refl (fun _ => False) w).alloc _).below⟩
  have e3 : (k == 3) = false := by simpa using h3
  rw [e3]
  go_enter Tryz.func162, Tryz.ntmps162
  go_wp2
  go_ret
  exact ⟨rfl, ((Fr.refl (fun _ => False) w).alloc _).below⟩

theorem m_takeThroughout (w : World) (f0 : Fn) (x0 y0 : Array Value) : Calls Tryz.prog 163 #[.func f0 x0 y0] w (FnB w) := by
  go_enter Tryz.func163, Tryz.ntmps163
  go_wp2
  go_ret
  exact ⟨⟨_, _, _, rfl⟩, ((Fr.refl (fun _ => False) w).alloc _ |>.alloc _).below⟩
theorem m_takeDirect (w : World) (ao : Option Addr) (j cp : Nat) : Calls Tryz.prog 164 #[.slice ao j cp] w (FnB w) := by
  go_enter Tryz.func164, Tryz.ntmps164
  go_wp2
  go_ret
  exact ⟨⟨_, _, _, rfl⟩, ((Fr.refl (fun _ => False) w).alloc _).below⟩
theorem m_countDirect (w : World) (ao : Option Addr) (j cp : Nat) : Calls Tryz.prog 166 #[.slice ao j cp] w (FnB w) := by
  go_enter Tryz.func166, Tryz.ntmps166
  go_wp2
  go_ret
  exact ⟨⟨_, _, _, rfl⟩, ((Fr.refl (fun _ => False) w).alloc _).below⟩
theorem m_countThroughout (w : World) (ao : Option Addr) (j cp : Nat) : Calls Tryz.prog 165 #[.slice ao j cp] w (FnB w) := by
  go_enter Tryz.func165, Tryz.ntmps165
  go_wp2
  go_ret
  exact ⟨⟨_, _, _, rfl⟩, ((Fr.refl (fun _ => False) w).alloc _).below⟩

end Go.Proofs.YtcbadebjpogmlaaGreatDoor

/- The program's maker: the functions of a segment. -/
namespace Go.Proofs.YtcbadebjpogmlaaGreatDoor
open Go.RowKit Tr

theorem infoTaking : (Tryz.prog.info? 242).map (fun i => (i.zero, i.size, i.bytes)) = some (some .nilFunc, 1, 8) := by kernel_rfl

/-- What holds at the head of the loop over selectors. -/
structure TdL (w : World) (sv : Value) (xs : List Value) (i : Nat) (wr : World) : Prop where
  bl : Below w.heap.size w wr
  bk : Blk wr w.heap.size #[.nilFunc, .nilFunc, .bool false] 128
  row : wr.ownsRow (w.heap.size + 1) 242 1 sv i xs

theorem TdL.below {w : World} {sv : Value} {xs : List Value} {i : Nat} {wr w1 : World} (h : TdL w sv xs i wr) (f : Below wr.heap.size wr w1) : TdL w sv xs i w1 :=
  ⟨(((Fr.of_below (K := fun _ => False) h.bl)).trans (Fr.of_below f)).below, h.bk.fr (Fr.of_below (K := fun _ => False) f) id, own_below h.row f⟩
theorem TdL.alloc {w : World} {sv : Value} {xs : List Value} {i : Nat} {wr : World} (h : TdL w sv xs i wr) (o : Obj) : TdL w sv xs i (wr.alloc o) := h.below ((Fr.refl (fun _ => False) wr).alloc o).below
theorem TdL.drew {w : World} {sv : Value} {xs : List Value} {i : Nat} {wr : World} (h : TdL w sv xs i wr) : TdL w sv xs i wr.drew := h.below (Fr.refl (fun _ => False) wr).drew.below
theorem TdL.next {w : World} {sv : Value} {xs ys : List Value} {i : Nat} {W W' : World} {sv' : Value} (h : TdL w sv xs i W) (hg : W.grownBy W' sv.ownBlock) (ho : W'.ownsRow (w.heap.size + 1) 242 1 sv' (i + 1) ys) : TdL w sv' ys (i + 1) W' := by
  have hne : sv.ownBlock ≠ some w.heap.size := fun e => by have := (h.row.lt _ e).1; omega
  have hb : Blk W' w.heap.size #[.nilFunc, .nilFunc, .bool false] 128 := (hg.block w.heap.size h.bk.lt (fun e => hne e.symm)).trans h.bk
  refine ⟨?_, hb, ho⟩
  have f1 : Fr (fun _ => False) w W' := (Fr.of_below h.bl).grown hg (fun k hk => Or.inl (by have := (h.row.lt k hk).1; omega))
  exact f1.below

set_option maxHeartbeats 1000000 in
theorem ret_so {R : Ending → World → Prop} {a : Act} {W : World} {g : Nat} {x0 x1 x2 : Value} (hd : a.defers = []) (ha : a.tmps[4]?.getD undef = .pointer (some ⟨g, 0, none⟩))
    (hB : Blk W g #[x0, x1, x2] 128) (hR : R (.returned (.agg #[x0, x1, x2])) W) : bodyPost Tryz.prog Tryz.f116 R .ret a W := by
  have k0 := hB.cell 0
  have k1 := hB.cell 1
  have k2 := hB.cell 2
  simp at k0 k1 k2
  refine bodyPost_ret (v := .agg #[x0, x1, x2]) ?_ hd hR
  simp [results, Tryz.results116, go_sem, ha, k0, k1, k2]

/-- A segment comes back; memory is only added to. -/
def SgB (w : World) (r : Ending) (w' : World) : Prop := (∃ f x y f' x' y' b, r = .returned (.agg #[.func f x y, .func f' x' y', .bool b])) ∧ Below w.heap.size w w'

set_option maxHeartbeats 2000000 in
set_option maxRecDepth 100000 in
theorem m_segmentOf {w : World} {B j cp : Nat} {ao : Option Addr} {l : List SV} (th : Bool) (h : w.ownsRow B 239 5 (.slice ao j cp) j (selCells l)) (hj : j ≤ 1000) :
    Calls Tryz.prog 116 #[.bool th, .slice ao j cp] w (SgB w) := by
  obtain ⟨i0, hi, hz0, hz1, hz2⟩ := info_parts infoTaking
  have HI := hide hi
  have HZ0 := hide hz0
  have HZ1 := hide hz1
  have HZ2 := hide hz2
  have H := hide h
  clear h hi hz0 hz1 hz2
  have hlen : l.length = j := by have := H.out.1; rw [selCells_len] at this; omega
  have S : Hid (TdL w (.slice none 0 0) [] 0 (w.alloc (.cells #[.nilFunc, .nilFunc, .bool false] 128))) :=
    ⟨((Fr.refl (fun _ => False) w).alloc _).below, Blk.new _ _ _, World.ownsRow_nil _ _ _ _⟩
  go_enter Tryz.func116, Tryz.ntmps116
  go_wp2
  go_loopw [5, 6, 8, 11] (fun sv lt _ i wr => ∃ (k : Nat) (b : Bool) (xs : List Value), k ≤ j ∧ i = .int .i64 k ∧ lt = .bool b ∧ TdL w sv xs k wr) (fun _ _ _ i _ => j - (intOf i).toNat)
  case atStart => exact ⟨0, false, _, Nat.zero_le _, rfl, rfl, S.out⟩
  case round =>
    clear S
    obtain ⟨k, b, xs, hk, rfl, rfl, hS⟩ := hrel
    have S := hide hS
    clear hS
    by_cases hlt : k < j
    · obtain ⟨g, cap, hv, hbg, hgl⟩ := H.out.form (by omega)
      simp only [Value.slice.injEq, true_and] at hv
      obtain ⟨rfl, rfl⟩ := hv
      have hgw : ∀ c : Nat, wr.cell? ⟨g, c, none⟩ = w.cell? ⟨g, c, none⟩ := fun c => S.out.bl.cell (p := ⟨g, c, none⟩) hgl
      have hcell : ∀ c : Nat, c < 5 → wr.cell? ⟨g, k * 5 + c, none⟩ = (l[k]).cells[c]? := fun c hc => ((hgw _).trans (H.out.cellAt (k * 5 + c) (by omega))).trans (selCells_at l k c hc (by omega))
      have kc0 := hcell 0 (by decide)
      have kc1 := hcell 1 (by decide)
      have kc2 := hcell 2 (by decide)
      have kc3 := hcell 3 (by decide)
      have kc4 := hcell 4 (by decide)
      clear hcell hgw
      generalize l[k] = s at *
      simp only [SV.cells, List.getElem?_cons_zero, List.getElem?_cons_succ, Nat.add_zero] at kc0 kc1 kc2 kc3 kc4
      have hmm := s.hm
      have TK : Hid (∀ W, Calls Tryz.prog 161 #[.agg #[.int .i64 s.k, .string s.nm, .int .i64 s.fr, .int .i64 s.to, s.met]] W (FnN W)) := fun W => m_taking W s
      have LT : Hid (∀ W : World, Calls Tryz.prog 162 #[.agg #[.int .i64 s.k, .string s.nm, .int .i64 s.fr, .int .i64 s.to, s.met]] W fun r w' => ∃ b, r = .returned (.bool b) ∧ Below W.heap.size W w') := fun W => (m_late W s).mono (fun r w' h => ⟨_, h⟩)
      generalize s.k = sk at *
      generalize s.nm = sn at *
      generalize s.fr = sf at *
      generalize s.to = st at *
      generalize s.met = sm at *
      obtain ⟨b0, k0, rfl⟩ := own_slice S.out.row
      rcases hmm with rfl | ⟨f0, x0, y0, rfl⟩
      all_goals
        go_wp2_with fail
        refine (TK.out _).mono ?_
        rintro r w1 ⟨⟨v1, rfl, hv1⟩, hb1⟩
        have S1 := hide ((S.out.alloc _).below hb1)
        have B1 := hide ((Blk.new wr _ 239).fr (Fr.of_below (K := fun _ => False) hb1) id)
        have hne1 : Hid ((.slice b0 k k0 : Value).ownBlock ≠ some wr.heap.size) := fun e => by have := (S.out.row.lt _ e).2; omega
        have hlt1 : wr.heap.size < w1.heap.size := B1.out.lt
        have hsz1 : w.heap.size < wr.heap.size := S.out.bk.lt
        clear hb1 kc0 kc1 kc2 kc3 kc4
        rcases hv1 with rfl | ⟨f1, x1, y1, rfl⟩
        all_goals
          have own1 := S1.out.row
          go_wp2_with (at_builtin; first | refine wpList_append_own _ rfl _ _ 241 rfl (w.heap.size + 1) 242 i0 .nilFunc 1 8 Tryz.underlying241 HI.out HZ0.out HZ1.out HZ2.out rfl (by decide) _ _ _ rfl (own1.alloc _) ⟨w1.heap.size, 0, none⟩ 1 1 [.func f1 x1 y1] rfl rfl ?c1 ?c2 ?c3 ?c4 ?c5 ?_ | refine wpList_append_own _ rfl _ _ 241 rfl (w.heap.size + 1) 242 i0 .nilFunc 1 8 Tryz.underlying241 HI.out HZ0.out HZ1.out HZ2.out rfl (by decide) _ _ _ rfl (own1.alloc _) ⟨w1.heap.size, 0, none⟩ 1 1 [.nilFunc] rfl rfl ?c1 ?c2 ?c3 ?c4 ?c5 ?_)
          case c1 =>
            intro j u hj
            match j, hj with
            | 0, hj => simp at hj; subst hj; simp [Addr.add]
          case c2 => intro u hu; simp at hu; subst hu; rfl
          case c3 => unfold maxLen; omega
          case c4 => omega
          case c5 => simp; omega
          intro v' w5 hown5 hgrow _
          have S5 := hide ((S1.out.alloc _).next hgrow hown5)
          have B5 := hide ((hgrow.block _ (Blk.alloc B1.out _).lt (fun e => hne1.out e.symm)).trans (Blk.alloc B1.out _))
          obtain ⟨b5, k5, rfl⟩ := own_slice hown5
          clear hown5 hgrow S1 B1
          have z0 := Blk.cell B5.out 0
          have z1 := Blk.cell B5.out 1
          have z2 := Blk.cell B5.out 2
          have z3 := Blk.cell B5.out 3
          have z4 := Blk.cell B5.out 4
          simp at z0 z1 z2 z3 z4
          cases b
          · go_wp2_with fail
            refine (LT.out _).mono ?_
            rintro r w6 ⟨b6, rfl, hb6⟩
            have S6 := hide (S5.out.below hb6)
            clear hb6 S5 B5 z0 z1 z2 z3 z4
            go_wp2
            go_roundw
            case rel => exact ⟨k + 1, _, _, by omega, by go_num, rfl, S6.out⟩
            case measure => simp [intOf]; omega
          · go_wp2
            go_roundw
            case rel => exact ⟨k + 1, _, _, by omega, by go_num, rfl, S5.out⟩
            case measure => simp [intOf]; omega
    · have hkj : k = j := by omega
      subst hkj
      obtain ⟨b0, k0, rfl⟩ := own_slice S.out.row
      have hge : w.heap.size < wr.heap.size := S.out.bk.lt
      cases th
      · go_wp2_with fail
        refine (m_takeDirect _ _ _ _).mono ?_
        rintro r w1 ⟨⟨f1, x1, y1, rfl⟩, hb1⟩
        have S1 := hide (S.out.below hb1)
        clear hb1 S
        go_wp2_with fail
        refine (m_countDirect _ _ _ _).mono ?_
        rintro r w2 ⟨⟨f2, x2, y2, rfl⟩, hb2⟩
        have S2 := hide (S1.out.below hb2)
        clear hb2 S1
        have z0 := S2.out.bk.cell 0
        have z1 := S2.out.bk.cell 1
        have z2 := S2.out.bk.cell 2
        have hfz := S2.out.bk.fz
        simp at z0 z1 z2
        go_wp2
        refine ret_so rfl rfl (((S2.out.bk.set 0 _).set 1 _).set 2 _) ?_
        refine ⟨⟨_, _, _, _, _, _, _, rfl⟩, ?_⟩
        exact ((((Fr.of_below (K := fun _ => False) S2.out.bl).setCell ⟨w.heap.size, 0, none⟩ (Or.inr (Nat.le_refl _)) _).setCell ⟨w.heap.size, 1, none⟩ (Or.inr (Nat.le_refl _)) _).setCell ⟨w.heap.size, 2, none⟩ (Or.inr (Nat.le_refl _)) _).below
      · go_wp2_with fail
        refine (m_takeDirect _ _ _ _).mono ?_
        rintro r w1 ⟨⟨f1, x1, y1, rfl⟩, hb1⟩
        have S1 := hide (S.out.below hb1)
        clear hb1 S
        go_wp2_with fail
        refine (m_takeThroughout _ _ _ _).mono ?_
        rintro r w3 ⟨⟨f3, x3, y3, rfl⟩, hb3⟩
        have S3 := hide (S1.out.below hb3)
        clear hb3 S1
        go_wp2_with fail
        refine (m_countThroughout _ _ _ _).mono ?_
        rintro r w2 ⟨⟨f2, x2, y2, rfl⟩, hb2⟩
        have S2 := hide (S3.out.below hb2)
        clear hb2 S3
        have z0 := S2.out.bk.cell 0
        have z1 := S2.out.bk.cell 1
        have z2 := S2.out.bk.cell 2
        have hfz := S2.out.bk.fz
        simp at z0 z1 z2
        go_wp2
        refine ret_so rfl rfl (((S2.out.bk.set 0 _).set 1 _).set 2 _) ?_
        refine ⟨⟨_, _, _, _, _, _, _, rfl⟩, ?_⟩
        exact ((((Fr.of_below (K := fun _ => False) S2.out.bl).setCell ⟨w.heap.size, 0, none⟩ (Or.inr (Nat.le_refl _)) _).setCell ⟨w.heap.size, 1, none⟩ (Or.inr (Nat.le_refl _)) _).setCell ⟨w.heap.size, 2, none⟩ (Or.inr (Nat.le_refl _)) _).below

end Go.Proofs.YtcbadebjpogmlaaGreatDoor

/- The program's maker against the plain machine: what a segment's function is made of; what stands behind a segment. -/
namespace Go.Proofs.YtcbadebjpogmlaaGreatDoor
open Go.RowKit Tr

theorem Mk.below {g : Nat} {q : ByteArray} {a : Nat} {t : List UInt8} {n : Nat} {p v : Value} {w w' : World} (h : Mk g q a t n p v w) (f : Below w.heap.size w w') : Mk g q a t n p v w' :=
  ⟨h.b.fr (Fr.of_below (K := fun _ => False) f) id, h.o, own_below h.row f, h.le⟩
theorem Mk.setN {g : Nat} {q : ByteArray} {a : Nat} {t : List UInt8} {n : Nat} {p v : Value} {w : World} (h : Mk g q a t n p v w) (n' : Nat) : Mk g q a t n' p v (w.setCell ⟨g, 4, none⟩ (.int .i64 (n' : Nat))) :=
  ⟨h.b.set 4 _, h.o, own_fr h.row ((Fr.refl (fun k => k = g) w).setCell ⟨g, 4, none⟩ (Or.inl rfl) _) (fun k hk e => by omega), h.le⟩

end Go.Proofs.YtcbadebjpogmlaaGreatDoor
