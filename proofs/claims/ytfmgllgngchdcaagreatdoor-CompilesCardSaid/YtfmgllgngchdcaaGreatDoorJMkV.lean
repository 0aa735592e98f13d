/- The program's maker: the makers of segments' functions. -/
import Derived.Test.YtfmgllgngchdcaaGreatDoorJMkT
import Derived.Laws.EntriesVeiled
import Derived.Deep.RegionLaw
import Derived.Deep.AppendLies
namespace Go.Proofs.YtfmgllgngchdcaaGreatDoor
open Go.RowKit Tr

theorem selCells_len (l : List SV) : (selCells l).length = l.length * 5 := by
  induction l with
  | nil => rfl
  | cons a l ih => simp only [selCells, List.flatMap_cons, List.length_append, List.length_cons] at *; rw [ih]; simp [SV.cells]; omega
theorem selCells_at (l : List SV) (i c : Nat) (hc : c < 5) (h : i < l.length) : (selCells l)[i * 5 + c]? = (l[i]).cells[c]? := by
  induction l generalizing i with
  | nil => cases h
  | cons a l ih =>
    have e : selCells (a :: l) = a.cells ++ selCells l := rfl
    have ea : a.cells.length = 5 := rfl
    rw [e]
    cases i with
    | zero => rw [List.getElem?_append_left (by omega)]; simp
    | succ i =>
      rw [List.getElem?_append_right (by omega), ea, show (i + 1) * 5 + c - 5 = i * 5 + c by omega, ih i (by simpa using h)]
      simp

set_option maxHeartbeats 2000000 in
theorem m_taking (w : World) (s : SV) : Calls Tryz.prog 133 #[.agg #[.int .i64 s.k, .string s.nm, .int .i64 s.fr, .int .i64 s.to, s.met]] w (FnB w) := by
  obtain ⟨k, nm, fr, to, met, hm⟩ := s
  simp only
  have HM := hide hm
  clear hm
  by_cases h1 : k = 1
  · subst h1
    go_enter Tryz.func133, Tryz.ntmps133
    go_wp2
    go_ret
    exact ⟨⟨_, _, _, rfl⟩, ((Fr.refl (fun _ => False) w).alloc _).below⟩
  have e1 : (k == 1) = false := by simpa using h1
  by_cases h2 : k = 2
  · subst h2
    go_enter Tryz.func133, Tryz.ntmps133
    go_wp2
    go_ret
    exact ⟨⟨_, _, _, rfl⟩, ((Fr.refl (fun _ => False) w).alloc _).below⟩
  have e2 : (k == 2) = false := by simpa using h2
  by_cases h3 : k = 3
  · subst h3
    go_enter Tryz.func133, Tryz.ntmps133
    go_wp2
    go_ret
    exact ⟨⟨_, _, _, rfl⟩, ((Fr.refl (fun _ => False) w).alloc _).below⟩
  have e3 : (k == 3) = false := by simpa using h3
  by_cases h4 : k = 4
  · subst h4
    go_enter Tryz.func133, Tryz.ntmps133
    go_wp2
    go_ret
    exact ⟨⟨_, _, _, rfl⟩, ((Fr.refl (fun _ => False) w).alloc _).below⟩
  have e4 : (k == 4) = false := by simpa using h4
  by_cases h5 : k = 5
  · subst h5
    go_enter Tryz.func133, Tryz.ntmps133
    go_wp2
    go_ret
    exact ⟨⟨_, _, _, rfl⟩, ((Fr.refl (fun _ => False) w).alloc _).below⟩
  have e5 : (k == 5) = false := by simpa using h5
  clear h1 h2 h3 h4 h5
  go_enter Tryz.func133, Tryz.ntmps133
  go_wp2
  go_ret
  exact ⟨⟨_, _, _, rfl⟩, ((Fr.refl (fun _ => False) w).alloc _).below⟩

theorem m_takeThroughout (w : World) (f0 : Fn) (x0 y0 : Array Value) : Calls Tryz.prog 113 #[.func f0 x0 y0] w (FnB w) := by
  go_enter Tryz.func113, Tryz.ntmps113
  go_wp2
  go_ret
  exact ⟨⟨_, _, _, rfl⟩, ((Fr.refl (fun _ => False) w).alloc _ |>.alloc _).below⟩

end Go.Proofs.YtfmgllgngchdcaaGreatDoor

/- The program's maker: the function of a segment that takes of the value itself. -/
namespace Go.Proofs.YtfmgllgngchdcaaGreatDoor
open Go.RowKit Tr

theorem infoTaking : (Tryz.prog.info? 209).map (fun i => (i.zero, i.size, i.bytes)) = some (some .nilFunc, 1, 8) := by kernel_rfl

/-- What holds at the head of the loop over selectors. -/
structure TdL (w : World) (sv : Value) (xs : List Value) (i : Nat) (wr : World) : Prop where
  bl : Below w.heap.size w wr
  bk : Blk wr w.heap.size #[sv] 207
  row : wr.ownsRow (w.heap.size + 1) 209 1 sv i xs

theorem TdL.below {w : World} {sv : Value} {xs : List Value} {i : Nat} {wr w1 : World} (h : TdL w sv xs i wr) (f : Below wr.heap.size wr w1) : TdL w sv xs i w1 :=
  ⟨(((Fr.of_below (K := fun _ => False) h.bl)).trans (Fr.of_below f)).below, h.bk.fr (Fr.of_below (K := fun _ => False) f) id, own_below h.row f⟩
theorem TdL.alloc {w : World} {sv : Value} {xs : List Value} {i : Nat} {wr : World} (h : TdL w sv xs i wr) (o : Obj) : TdL w sv xs i (wr.alloc o) := h.below ((Fr.refl (fun _ => False) wr).alloc o).below
theorem TdL.drew {w : World} {sv : Value} {xs : List Value} {i : Nat} {wr : World} (h : TdL w sv xs i wr) : TdL w sv xs i wr.drew := h.below (Fr.refl (fun _ => False) wr).drew.below
theorem TdL.cell {w : World} {sv : Value} {xs : List Value} {i : Nat} {wr : World} (h : TdL w sv xs i wr) : wr.cell? ⟨w.heap.size, 0, none⟩ = some sv := h.bk.cell 0
theorem TdL.next {w : World} {sv : Value} {xs ys : List Value} {i : Nat} {W W' : World} {sv' : Value} (h : TdL w sv xs i W) (hg : W.grownBy W' sv.ownBlock) (ho : W'.ownsRow (w.heap.size + 1) 209 1 sv' (i + 1) ys) : TdL w sv' ys (i + 1) (W'.setCell ⟨w.heap.size, 0, none⟩ sv') := by
  have hne : sv.ownBlock ≠ some w.heap.size := fun e => by have := (h.row.lt _ e).1; omega
  have f0 : Fr (fun k => k = w.heap.size) W' (W'.setCell ⟨w.heap.size, 0, none⟩ sv') := (Fr.refl (fun k => k = w.heap.size) W').setCell ⟨w.heap.size, 0, none⟩ (Or.inl rfl) _
  have hb : Blk W' w.heap.size #[sv] 207 := (hg.block w.heap.size h.bk.lt (fun e => hne e.symm)).trans h.bk
  refine ⟨?_, hb.set 0 _, own_fr ho f0 (fun k hk e => by omega)⟩
  have f1 : Fr (fun _ => False) w W' := (Fr.of_below h.bl).grown hg (fun k hk => Or.inl (by have := (h.row.lt k hk).1; omega))
  exact (f1.setCell ⟨w.heap.size, 0, none⟩ (Or.inr (Nat.le_refl _)) _).below

theorem TdL.kept {w : World} {sv : Value} {xs : List Value} {i : Nat} {W W' : World} (h : TdL w sv xs i W) (hg : W.grownBy W' sv.ownBlock) : Blk W' w.heap.size #[sv] 207 :=
  (hg.block w.heap.size h.bk.lt (fun e => by have := (h.row.lt _ e.symm).1; omega)).trans h.bk

set_option maxHeartbeats 2000000 in
set_option maxRecDepth 100000 in
theorem m_takeDirect {w : World} {B j cp : Nat} {ao : Option Addr} {l : List SV} (h : w.ownsRow B 179 5 (.slice ao j cp) j (selCells l)) (hj : j ≤ 1000) :
    Calls Tryz.prog 112 #[.slice ao j cp] w (FnB w) := by
  obtain ⟨i0, hi, hz0, hz1, hz2⟩ := info_parts infoTaking
  have HI := hide hi
  have HZ0 := hide hz0
  have HZ1 := hide hz1
  have HZ2 := hide hz2
  have H := hide h
  clear h hi hz0 hz1 hz2
  have hlen : l.length = j := by have := H.out.1; rw [selCells_len] at this; omega
  have S : Hid (TdL w (.slice none 0 0) [] 0 (w.alloc (.cells #[.slice none 0 0] 207))) :=
    ⟨((Fr.refl (fun _ => False) w).alloc _).below, Blk.new _ _ _, World.ownsRow_nil _ _ _ _⟩
  go_enter Tryz.func112, Tryz.ntmps112
  go_wp2
  go_loopw [5, 8] (fun _ i wr => ∃ (k : Nat) (sv : Value) (xs : List Value), k ≤ j ∧ i = .int .i64 k ∧ TdL w sv xs k wr) (fun _ i _ => j - (intOf i).toNat)
  case atStart => exact ⟨0, _, _, Nat.zero_le _, rfl, S.out⟩
  case round =>
    clear S
    obtain ⟨k, sv, xs, hk, rfl, hS⟩ := hrel
    have S := hide hS
    clear hS
    by_cases hlt : k < j
    · obtain ⟨g, cap, hv, hbg, hgl⟩ := H.out.form (by omega)
      simp only [Value.slice.injEq, true_and] at hv
      obtain ⟨rfl, rfl⟩ := hv
      have hgw : ∀ c : Nat, wr.cell? ⟨g, c, none⟩ = w.cell? ⟨g, c, none⟩ := fun c => S.out.bl.cell (p := ⟨g, c, none⟩) hgl
      have hcell : ∀ c : Nat, c < 5 → wr.cell? ⟨g, k * 5 + c, none⟩ = (l[k]).cells[c]? := fun c hc => ((hgw _).trans (H.out.cellAt (k * 5 + c) (by omega))).trans (selCells_at l k c hc (by omega))
      have kc0 := hcell 0 (by decide)
      have kc1 := hcell 1 (by decide)
      have kc2 := hcell 2 (by decide)
      have kc3 := hcell 3 (by decide)
      have kc4 := hcell 4 (by decide)
      clear hcell hgw
      generalize l[k] = s at *
      simp only [SV.cells, List.getElem?_cons_zero, List.getElem?_cons_succ, Nat.add_zero] at kc0 kc1 kc2 kc3 kc4
      have hmm := s.hm
      have TK : Hid (∀ W, Calls Tryz.prog 133 #[.agg #[.int .i64 s.k, .string s.nm, .int .i64 s.fr, .int .i64 s.to, s.met]] W (FnB W)) := fun W => m_taking W s
      generalize s.k = sk at *
      generalize s.nm = sn at *
      generalize s.fr = sf at *
      generalize s.to = st at *
      generalize s.met = sm at *
      obtain ⟨b0, k0, rfl⟩ := own_slice S.out.row
      have S2 : Hid (TdL w (.slice b0 k k0) xs k (wr.alloc (.cells #[.int .i64 sk, .string sn, .int .i64 sf, .int .i64 st, sm] 179)).drew) := (S.out.alloc _).drew
      have c0 := S2.out.cell
      rcases hmm with rfl | ⟨f0, x0, y0, rfl⟩
      all_goals
        go_wp2
        go_region_law (first
          | (refine step_append_lies _ rfl _ _ 207 rfl (w.heap.size + 1) 209 i0 _ 1 8 Tryz.underlying207 HI.out HZ0.out HZ1.out HZ2.out rfl (by decide) (.slice b0 k k0) k xs rfl (by exact (S3.out.alloc _).row) ⟨w1.heap.size, 0, none⟩ 1 1 [.func f1 x1 y1] rfl rfl (by
              intro j u hj
              match j, hj with
              | 0, hj => simp at hj; subst hj; simp [Addr.add]) (by intro u hu; simp at hu; subst hu; rfl) (by decide) (by unfold maxLen; omega) (by omega) (by have := S3.out.bk.lt; simp; omega) _ rfl ?_
             intro g2 cap2 w2 hown2 hgrow2 _ _
             have S4 := hide ((S3.out.alloc (.cells #[.func f1 x1 y1] 209)).next hgrow2 hown2)
             have d1 : w2.cell? ⟨w.heap.size, 0, none⟩ = some (.slice b0 k k0) := ((S3.out.alloc (.cells #[.func f1 x1 y1] 209)).kept hgrow2).cell 0
             have d2 := ((S3.out.alloc (.cells #[.func f1 x1 y1] 209)).kept hgrow2).fz 0
             clear hown2 hgrow2)
          | (go_simp
             go_wp2_with (go_at_call 133; refine (TK.out _).mono ?_; rintro r w1 ⟨⟨f1, x1, y1, rfl⟩, hb1⟩; have S3 := hide (S2.out.below hb1); have c1 := S3.out.cell; have c2 := (S3.out.alloc (.cells #[.func f1 x1 y1] 209)).cell)))
        all_goals go_wp2
        all_goals (go_roundw; (case rel => exact ⟨k + 1, _, _, by omega, by go_num, S4.out⟩); (case measure => simp [intOf]; omega))
    · have hkj : k = j := by omega
      subst hkj
      go_wp2
      go_ret
      exact ⟨⟨_, _, _, rfl⟩, S.out.bl⟩

end Go.Proofs.YtfmgllgngchdcaaGreatDoor

/- The program's maker against the plain machine: what a segment's function is made of; what stands behind a segment. -/
namespace Go.Proofs.YtfmgllgngchdcaaGreatDoor
open Go.RowKit Tr

theorem Mk.below {g : Nat} {q : ByteArray} {a : Nat} {t : List UInt8} {n : Nat} {p v : Value} {w w' : World} (h : Mk g q a t n p v w) (f : Below w.heap.size w w') : Mk g q a t n p v w' :=
  ⟨h.b.fr (Fr.of_below (K := fun _ => False) f) id, h.o, own_below h.row f, h.le⟩
theorem Mk.setN {g : Nat} {q : ByteArray} {a : Nat} {t : List UInt8} {n : Nat} {p v : Value} {w : World} (h : Mk g q a t n p v w) (n' : Nat) : Mk g q a t n' p v (w.setCell ⟨g, 4, none⟩ (.int .i64 (n' : Nat))) :=
  ⟨h.b.set 4 _, h.o, own_fr h.row ((Fr.refl (fun k => k = g) w).setCell ⟨g, 4, none⟩ (Or.inl rfl) _) (fun k hk e => by omega), h.le⟩

set_option maxHeartbeats 1000000 in
theorem k_segmentOf {w : World} {g : Nat} {q : ByteArray} {a : Nat} {txt : List UInt8} {n : Nat} {p v : Value} (h : Mk g q a txt n p v w) (hn : n ≤ 1000) (th : Bool) {B j cp : Nat} {ao : Option Addr} {l : List SV}
    (hr : w.ownsRow B 179 5 (.slice ao j cp) j (selCells l)) (hB : g < B) (hj : j ≤ 1000) :
    Calls Tryz.prog 84 #[.pointer (some ⟨g, 0, none⟩), .bool th, .slice ao j cp] w (fun r w' => (∃ f x y, r = .returned (.func f x y)) ∧ Mk g q a txt (n + j) p v w' ∧ Fr (fun k => k = g) w w') := by
  have MM := hide (h.setN (n + j))
  have f0 : Fr (fun k => k = g) w (w.setCell ⟨g, 4, none⟩ (.int .i64 ((n + j : Nat) : Int))) := (Fr.refl (fun k => k = g) w).setCell ⟨g, 4, none⟩ (Or.inl rfl) _
  have R := hide (own_fr hr f0 (fun k hk e => by omega))
  have F := hide f0
  have c4 : w.cell? ⟨g, 4, none⟩ = some (.int .i64 (n : Nat)) := h.b.cell 4
  have fz := h.b.fz 4
  have e4 : ((n + j : Nat) : Int) = (n : Int) + (j : Int) := by omega
  rw [e4] at MM R F
  clear h hr f0 e4
  go_enter Tryz.func84, Tryz.ntmps84
  go_wp2_with fail
  refine (m_takeDirect R.out hj).mono ?_
  rintro r w1 ⟨⟨f1, x1, y1, rfl⟩, hb1⟩
  have M1 := hide (MM.out.below hb1)
  have F1 := hide (F.out.trans (Fr.of_below hb1))
  clear hb1 MM R F
  cases th
  · go_wp2
    go_ret
    exact ⟨⟨_, _, _, rfl⟩, M1.out, F1.out⟩
  · go_wp2_with fail
    refine (m_takeThroughout _ _ _ _).mono ?_
    rintro r w2 ⟨⟨f2, x2, y2, rfl⟩, hb2⟩
    have M2 := hide (M1.out.below hb2)
    have F2 := hide (F1.out.trans (Fr.of_below hb2))
    clear hb2 M1 F1
    go_wp2
    go_ret
    exact ⟨⟨_, _, _, rfl⟩, M2.out, F2.out⟩

end Go.Proofs.YtfmgllgngchdcaaGreatDoor
