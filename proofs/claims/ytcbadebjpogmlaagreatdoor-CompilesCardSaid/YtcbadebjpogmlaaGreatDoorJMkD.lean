/- The program's maker: quotes; the text that it writes. -/
import Derived.Test.YtcbadebjpogmlaaGreatDoorJMkC
import Derived.Test.YtcbadebjpogmlaaGreatDoorJRefJ
import Derived.Shelf.RegionOpenPlain
namespace Go.Proofs.YtcbadebjpogmlaaGreatDoor
open Go.RowKit Tr

set_option maxHeartbeats 1000000 in
theorem c_quoted {w0 w : World} {g : Nat} {q : ByteArray} {a : Nat} {p v : Value} {n : Nat} (h : Qt g q p v n w0 a w) (hq : q.size ≤ 1000) :
    Calls Tryz.prog 241 #[.pointer (some ⟨g, 0, none⟩)] w fun r w' => ∃ k, RunP isQuo q a k ∧ r = .returned (.string (q.extract a k)) ∧ Qt g q p v n w0 (if tk q k ⟨#[39]⟩ then k + 1 else k) w' := by
  have H := hide h
  clear h
  go_enter Tryz.func241, Tryz.ntmps241
  go_wp2_with fail
  refine (c_run_isQuoted H.out hq).mono ?_
  rintro r w1 ⟨k, hk, rfl, h1⟩
  have H1 := hide h1
  have HK := hide hk
  clear h1 hk H
  go_wp2_with fail
  refine (c_takes H1.out hq _).mono ?_
  rintro r w2 ⟨rfl, h2⟩
  have H2 := hide h2
  clear h2 H1
  go_wp2
  go_ret
  exact ⟨k, HK.out, rfl, H2.out⟩

theorem sizeBuilder : (Tryz.prog.info? 112).map (·.size) = some 2 := by kernel_rfl
theorem liesBuilder : liesAt Tryz.prog Tryz.prog.depth 141 (5 / Tryz.prog.cellsOf 141) 2 112 1 = true := by kernel_rfl
theorem infoByte : (Tryz.prog.info? 5).map (fun i => (i.zero, i.size, i.bytes)) = some (some (.int .u8 0), 1, 1) := by kernel_rfl

/-- What the builder's first cell holds: nothing, or where the builder stands. -/
def Own (g : Nat) (p : Value) : Prop := p = .pointer none ∨ p = .pointer (some ⟨g, 2, none⟩)

set_option maxHeartbeats 1000000 in
set_option maxRecDepth 100000 in
theorem c_copyCheck_used {w : World} {g : Nat} {q : ByteArray} {a n : Nat} {v : Value} (h : Blk w g (mkc q a (.pointer (some ⟨g, 2, none⟩)) v n) 141) :
    Calls Tryz.prog 114 #[.pointer (some ⟨g, 2, none⟩)] w fun r w' => r = .returned (.tuple #[]) ∧ w' = w := by
  obtain ⟨j, hj, _⟩ := Option.map_eq_some_iff.1 sizeBuilder
  have c2 : w.cell? ⟨g, 2, none⟩ = some (.pointer (some ⟨g, 2, none⟩)) := h.cell 2
  clear h
  go_enter Tryz.func114, Tryz.ntmps114
  go_wp2
  rw [Lib.run_neq_ptr_same w _ Tryz.underlying109 hj]
  go_wp2
  go_end0
  exact ⟨rfl, rfl⟩

set_option maxHeartbeats 1000000 in
set_option maxRecDepth 100000 in
theorem c_copyCheck_fresh {w : World} {g : Nat} {q : ByteArray} {a n : Nat} {v : Value} (h : Blk w g (mkc q a (.pointer none) v n) 141) :
    Calls Tryz.prog 114 #[.pointer (some ⟨g, 2, none⟩)] w fun r w' => r = .returned (.tuple #[]) ∧ w' = w.setCell ⟨g, 2, none⟩ (.pointer (some ⟨g, 2, none⟩)) := by
  obtain ⟨j, hj, hjs⟩ := Option.map_eq_some_iff.1 sizeBuilder
  have c2 : w.cell? ⟨g, 2, none⟩ = some (.pointer none) := h.cell 2
  have f2 := h.fz 2
  have hsh : w.shape? g = some (141, 5) := by unfold Blk at h; simp [World.shape?, h, mkc]
  clear h
  go_enter Tryz.func114, Tryz.ntmps114
  go_wp2
  rw [Lib.run_to_unsafe w ⟨g, 2, none⟩ Tryz.underlying109 Tryz.underlying234 hj (by rw [hjs]; decide) hsh (by show 2 < 5; decide)]
  simp only [Result.andThen]
  rw [Oper.upon_value]
  go_wp2
  rw [run_callFunc_extern Tryz.func158 (by kernel_rfl) (by kernel_rfl) (by kernel_rfl) (e := Extern.AbiNoEscape.same) (by kernel_rfl)]
  rw [Lib.run_noEscape]
  simp only [Result.andThen]
  rw [Oper.upon_value]
  go_wp2
  rw [Lib.run_from_unsafe w ⟨g, 2, none⟩ Tryz.underlying234 Tryz.underlying109 hj hsh liesBuilder]
  simp only [Result.andThen]
  rw [Oper.upon_value]
  go_wp2
  go_end0
  exact ⟨rfl, rfl⟩

theorem c_copyCheck {w : World} {g : Nat} {q : ByteArray} {a n : Nat} {p v : Value} (h : Blk w g (mkc q a p v n) 141) (ho : Own g p) :
    Calls Tryz.prog 114 #[.pointer (some ⟨g, 2, none⟩)] w fun r w' => r = .returned (.tuple #[]) ∧ Blk w' g (mkc q a (.pointer (some ⟨g, 2, none⟩)) v n) 141 ∧ Fr (fun k => k = g) w w' := by
  rcases ho with rfl | rfl
  · refine (c_copyCheck_fresh h).mono ?_
    rintro r w' ⟨rfl, rfl⟩
    exact ⟨rfl, h.set 2 _, (Fr.refl (fun k => k = g) w).setCell ⟨g, 2, none⟩ (Or.inl rfl) _⟩
  · refine (c_copyCheck_used h).mono ?_
    rintro r w' ⟨rfl, rfl⟩
    exact ⟨rfl, h, Fr.refl _ _⟩

end Go.Proofs.YtcbadebjpogmlaaGreatDoor

/- The program's maker: the text that it writes. -/
namespace Go.Proofs.YtcbadebjpogmlaaGreatDoor
open Go.RowKit Tr

/-- The blocks that the maker changes. -/
def KG (g : Nat) (v : Value) : Nat → Prop := fun k => k = g ∨ v.ownBlock = some k

/-- The maker, and what it has written. -/
structure Mk (g : Nat) (q : ByteArray) (a : Nat) (t : List UInt8) (n : Nat) (p v : Value) (w : World) : Prop where
  b : Blk w g (mkc q a p v n) 141
  o : Own g p
  row : w.ownsRow (g + 1) 5 1 v t.length (Lib.byteCells t)
  le : a ≤ q.size

theorem slice_of_row {w : World} {B e n : Nat} {v : Value} {xs : List Value} (h : w.ownsRow B e 1 v n xs) : ∃ ao cap, v = .slice ao n cap := by
  rcases h.2 with ⟨hv, h0⟩ | ⟨g, cap, cur, hv, _⟩
  · exact ⟨none, 0, by rw [hv, h0]⟩
  · exact ⟨_, _, hv⟩

set_option maxHeartbeats 2000000 in
set_option maxRecDepth 100000 in
theorem c_write {w : World} {g : Nat} {q : ByteArray} {a : Nat} {t : List UInt8} {n : Nat} {p v : Value} (h : Mk g q a t n p v w) (s : ByteArray) (hlen : t.length + s.size ≤ 1000000) :
    Calls Tryz.prog 86 #[.pointer (some ⟨g, 2, none⟩), .string s] w fun r w' => r = .returned (.tuple #[.int .i64 s.size, .nilIface]) ∧
      ∃ p' v', Mk g q a (t ++ bs s) n p' v' w' ∧ Fr (KG g v) w w' := by
  obtain ⟨i0, hi, hz0, hz1, hz2⟩ := info_parts infoByte
  have H := hide h
  have HI := hide hi
  have HZ0 := hide hz0
  have HZ1 := hide hz1
  have HZ2 := hide hz2
  clear h hi hz0 hz1 hz2
  go_enter Tryz.func86, Tryz.ntmps86
  go_wp2_with fail
  refine (c_copyCheck H.out.b H.out.o).mono ?_
  rintro r w1 ⟨rfl, b1, f1⟩
  have hg := H.out.b.lt
  have hne : ∀ k, v.ownBlock = some k → g + 1 ≤ k ∧ k < w.heap.size := fun k hk => H.out.row.lt k hk
  have R1 : Hid (w1.ownsRow (g + 1) 5 1 v t.length (Lib.byteCells t)) := own_fr H.out.row f1 (fun k hk e => by omega)
  have B1 := hide b1
  have F1 := hide f1
  have hs1 := f1.size
  have c3 : w1.cell? ⟨g, 3, none⟩ = some v := b1.cell 3
  clear b1 f1
  go_wp2_with (at_builtin; refine Lib.wpList_append_own_string _ rfl _ _ 110 9 rfl (g + 1) 5 i0 Tryz.underlying110 Tryz.underlying9 HI.out HZ0.out HZ1.out HZ2.out _ _ _ rfl R1.out s rfl ?c3 ?c4 ?c5 ?_)
  case c3 => unfold maxLen; omega
  case c4 => omega
  case c5 => omega
  intro v' w2 hown' hgrow _
  have B2 : Hid (Blk w2 g (mkc q a (.pointer (some ⟨g, 2, none⟩)) v n) 141) := (hgrow.block g B1.out.lt (fun e => by have := hne g e.symm; omega)).trans B1.out
  have c3' : w2.cell? ⟨g, 3, none⟩ = some v := B2.out.cell 3
  have f3 := B2.out.fz 3
  have F2 : Hid (Fr (KG g v) w w2) := (F1.out.mono (fun k _ e => Or.inl e)).trans (Fr.grown (Fr.refl (KG g v) w1) hgrow (fun k hk => Or.inr (Or.inr hk)))
  obtain ⟨ao, cap, rfl⟩ := slice_of_row hown'
  have R2 := hide hown'
  clear hown' hgrow c3 hne
  go_wp2
  go_ret2
  refine ⟨rfl, .pointer (some ⟨g, 2, none⟩), .slice ao (t.length + s.size) cap, ⟨B2.out.set 3 _, Or.inr rfl, ?_, H.out.le⟩, F2.out.setCell ⟨g, 3, none⟩ (Or.inl (Or.inl rfl)) _⟩
  have e1 : t.length + s.size = (t ++ bs s).length := by rw [List.length_append, bs_len]
  have e2 : Lib.byteCells t ++ Lib.strCells s = Lib.byteCells (t ++ bs s) := by rw [Lib.byteCells_append]; rfl
  have R := R2.out
  rw [e2] at R
  rw [e1] at R ⊢
  exact own_fr R ((Fr.refl (fun k => k = g) w2).setCell ⟨g, 3, none⟩ (Or.inl rfl) _) (fun k hk e => by omega)

end Go.Proofs.YtcbadebjpogmlaaGreatDoor

/- The program's maker: the text that it has written. -/

namespace Go.Proofs.YtcbadebjpogmlaaGreatDoor
open Go.RowKit Tr

theorem Fr.freeze {K : Nat → Prop} {a w : World} (h : Fr K a w) (p : Addr) (hp : K p.block) (n : Nat) : Fr K a (w.freeze p n) := by
  refine h.trans ?_
  unfold World.freeze
  split
  · exact Fr.refl K w
  · exact ⟨rfl, rfl, rfl, by simp, fun k hk hK => by
      simp only [Array.getElem?_modify]
      rw [if_neg (fun e => by subst e; exact hK hp)]⟩

theorem cellsByte : Tryz.prog.cellsOf 5 = 1 := by kernel_rfl

set_option maxHeartbeats 2000000 in
set_option maxRecDepth 100000 in
theorem c_string {w : World} {g : Nat} {q : ByteArray} {a : Nat} {t : List UInt8} {n : Nat} {p v : Value} (h : Mk g q a t n p v w) (h0 : t ≠ []) :
    Calls Tryz.prog 88 #[.pointer (some ⟨g, 2, none⟩)] w fun r w' => r = .returned (.string ⟨t.toArray⟩) ∧ Fr (fun k => v.ownBlock = some k) w w' := by
  have hown := h.row
  have hl0 : t.length ≠ 0 := by simpa using h0
  obtain ⟨k, cap, cur, rfl, hbg, hg, hnc, hcm, hcs, htake⟩ : ∃ k cap cur, v = .slice (some ⟨k, 0, none⟩) t.length cap ∧ g + 1 ≤ k ∧ w.heap[k]? = some (.cells cur 5 (0, 0)) ∧ t.length ≤ cap ∧ cap ≤ maxLen ∧ cur.size = cap * 1 ∧ cur.toList.take (t.length * 1) = Lib.byteCells t := by
    rcases hown.2 with ⟨_, hz⟩ | ⟨k, cap, cur, hv, r⟩
    · exact absurd hz hl0
    · exact ⟨k, cap, cur, hv, r⟩
  have c3 : w.drew.cell? ⟨g, 3, none⟩ = some (.slice (some ⟨k, 0, none⟩) t.length cap) := h.b.cell 3
  have hSD : (Builtin.unsafeSliceData_ #[110] 209 #[.slice (some ⟨k, 0, none⟩) t.length cap]).run Tryz.prog w.drew = .ok (.pointer (some ⟨k, 0, none⟩)) w.drew :=
    Lib.run_unsafeSliceData_row _ _ _ _ _ _ (by omega)
  have hUS : (Builtin.unsafeString_ #[209, 3] 9 #[.pointer (some ⟨k, 0, none⟩), .int .i64 t.length]).run Tryz.prog w.drew = .ok (.string ⟨t.toArray⟩) (w.drew.freeze ⟨k, 0, none⟩ t.length) := by
    refine Lib.run_unsafeString_row w.drew 209 3 9 5 Tryz.underlying209 cellsByte k cur.size (by have hg' : w.drew.heap[k]? = some (.cells cur 5 (0, 0)) := hg; simp [World.shape?, hg']) t h0 (by omega) (by unfold maxLen at hcm; omega) ?_
    intro j x hx
    exact hown.cells (g := k) rfl j (.int .u8 x.toNat) (by simp [Lib.byteCells, hx])
  have hFr : Hid (Fr (fun i => (Value.slice (some ⟨k, 0, none⟩) t.length cap).ownBlock = some i) w (w.drew.freeze ⟨k, 0, none⟩ t.length)) := (Fr.refl (fun i => (Value.slice (some ⟨k, 0, none⟩) t.length cap).ownBlock = some i) w).drew.freeze ⟨k, 0, none⟩ rfl _
  have mixed : Tryz.prog.follows Departure.mixedOrders = true := by kernel_rfl
  clear h hown hg htake hcs h0
  go_enter Tryz.func88, Tryz.ntmps88
  go_wp2
  go_region_o
  all_goals (go_wp2; go_ret; exact ⟨rfl, hFr.out⟩)

end Go.Proofs.YtcbadebjpogmlaaGreatDoor
