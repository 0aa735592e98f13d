/- The law's step, for the kinds Compile and Text. -/
import Derived.Test.YtcbadebjpogmlaaGreatDoorJLawA
import Derived.Laws.AppendOwnNone
namespace Go.Proofs.YtcbadebjpogmlaaGreatDoor
open Go.RowKit Tr

set_option maxRecDepth 100000 in
set_option maxHeartbeats 2000000 in
theorem c_step1 {W : World} (hX : SaidX W) {w : World} (hK : Keeps W w) {gw : Nat} {ps : List PV} {lv : Value} (h : LW w gw ps lv) (hn : ps.length ≤ 8796093022208) (k at_ m : Int) (hk : k = 1) (s : ByteArray) (hs : s.size ≤ maxLen) :
    Calls Tryz.prog 30 #[.pointer (some ⟨gw, 0, none⟩), .agg #[.int .i64 k, .int .i64 at_, .int .i64 m, .string s]] w (StepP gw ps lv w) := by
  subst hk
  have HX := hide hX
  have HK := hide (hK.alloc (.cells #[.int .i64 1, .int .i64 at_, .int .i64 m, .string s] 64))
  have HS := hide hs
  have F1 := hide ((Fr.refl (fun _ => False) w).alloc (.cells #[.int .i64 1, .int .i64 at_, .int .i64 m, .string s] 64))
  have L1 := hide (h.keep F1.out)
  clear h hX hs hK
  go_enter Tryz.func30, Tryz.ntmps30
  go_wp2_with fail
  refine (c_compiled HX.out HK.out L1.out hn s HS.out).mono ?_
  rintro r w2 ⟨rfl, ps', lv', l2, h1, h2, hf, hb⟩
  have R : Hid (∃ ps' lv', LW w2 gw ps' lv' ∧ ps.length ≤ ps'.length ∧ ps'.length ≤ ps.length + 1 ∧ Fr (KW gw lv) w w2 ∧ (∀ k, lv'.ownBlock = some k → lv.ownBlock = some k ∨ w.heap.size ≤ k)) :=
    ⟨ps', lv', l2, h1, h2, (F1.out.mono (fun _ _ x => x.elim)).trans hf, fun k hk => by
      rcases hb k hk with x | x
      · exact Or.inl x
      · right; have := F1.out.size; omega⟩
  clear l2 h1 h2 hf hb
  go_wp2
  go_ret
  exact ⟨rfl, R.out⟩

set_option maxRecDepth 100000 in
set_option maxHeartbeats 4000000 in
theorem c_step2 {w : World} {gw : Nat} {ps : List PV} {lv : Value} (h : LW w gw ps lv) (hp : 0 < ps.length) (k at_ m : Int) (hk : k = 2) (s : ByteArray) :
    Calls Tryz.prog 30 #[.pointer (some ⟨gw, 0, none⟩), .agg #[.int .i64 k, .int .i64 at_, .int .i64 m, .string s]] w (StepP gw ps lv w) := by
  subst hk
  have F1 := hide ((Fr.refl (fun _ => False) w).alloc (.cells #[.int .i64 2, .int .i64 at_, .int .i64 m, .string s] 64))
  have L1 := hide (h.keep F1.out)
  have X1 := hide (Blk.new w #[.int .i64 2, .int .i64 at_, .int .i64 m, .string s] 64)
  have hgw := h.blk.lt
  have b0 := h.blk.cell 0
  simp at b0
  obtain ⟨g, cap, rfl, hbg, hgl⟩ := h.own.form hp
  have hj := pickN_lt at_ ps.length hp
  have hcell : w.cell? ⟨g, pickN at_ ps.length, none⟩ = some (.pointer (some ⟨(ps[pickN at_ ps.length]'hj).gp, 0, none⟩)) := by
    rw [h.own.cellAt (pickN at_ ps.length) (by omega)]
    simp [ptrs, List.getElem?_eq_getElem hj]
  have hpr := h.prs _ (List.getElem_mem hj)
  generalize hpv : ps[pickN at_ ps.length]'hj = pv at *
  clear hpv
  have LH := hide h
  have p0 := hpr.pb.cell 0
  have p1 := hpr.pb.cell 1
  simp at p0 p1
  have hgp := hpr.pb.lt
  have PR := hide hpr
  have HP : Hid (∀ w' : World, Calls Tryz.prog 43 #[.int .i64 at_, .int .i64 ps.length] w' fun r w2 => r = .returned (.int .i64 (pickN at_ ps.length : Nat)) ∧ w2 = w') := fun w' => c_pick at_ ps.length
  clear h hpr
  generalize pickN at_ ps.length = j at *
  go_enter Tryz.func30, Tryz.ntmps30
  go_wp2_with fail
  go_quiet ((go_at_call 43; exact Calls.quiet_of_same (HP.out _)))
  go_wp2_with fail
  refine (PR.out.tx _ (fun k hk1 hk2 => by
    have := PR.out.e
    exact Below.heap_alloc _ _ _ (by omega))).mono ?_
  rintro r w3 ⟨rfl, k3⟩
  have F3 : Hid (Keeps w w3) := ⟨k3.os.trans F1.out.os, k3.tape.trans F1.out.tape, k3.output.trans F1.out.output, Nat.le_trans F1.out.size k3.size, fun k hk hK => (k3.block k (Nat.lt_of_lt_of_le hk F1.out.size) hK).trans (F1.out.block k hk hK)⟩
  have q1 := (F3.out.cell (p := ⟨pv.gp, 1, none⟩) hgp id).trans p1
  clear k3
  go_wp2_with fail
  refine (PR.out.ty _ (fun k hk1 hk2 => by
    have := PR.out.e
    exact F3.out.block k (by omega) id)).mono ?_
  rintro r w4 ⟨rfl, k4⟩
  have F4 := hide (F3.out.trans k4)
  clear k4
  go_wp2
  go_ret
  exact ⟨by simp, ps, _, LH.out.keep F4.out, Nat.le_refl _, Nat.le_succ _, F4.out.mono (fun _ _ x => x.elim), fun k hk => Or.inl hk⟩

set_option maxHeartbeats 400000 in
theorem c_looks {w : World} {gw : Nat} {ps : List PV} {lv : Value} (h : LW w gw ps lv) :
    Calls Tryz.prog 31 #[.pointer (some ⟨gw, 0, none⟩)] w fun r w' => r = .returned (.bool true) ∧ w' = w := by
  have b2 := h.blk.cell 2
  have b4 := h.blk.cell 4
  simp at b2 b4
  clear h
  go_enter Tryz.func31, Tryz.ntmps31
  go_wp2
  refine wp_loop_rounds 1 ?_
  rw [rounds_succ]
  go_wp2
  refine wp_loop_rounds 1 ?_
  rw [rounds_succ]
  go_wp2
  go_ret
  exact ⟨rfl, rfl⟩

end Go.Proofs.YtcbadebjpogmlaaGreatDoor

/- The law's plays, over the kinds Compile and Text: it answers true. -/
namespace Go.Proofs.YtcbadebjpogmlaaGreatDoor
open Go.RowKit Tr

/-- A step of a script. -/
structure OpV where
  k : Int
  p : Int
  m : Int
  s : ByteArray
def OpV.cells (o : OpV) : List Value := [.int .i64 o.k, .int .i64 o.p, .int .i64 o.m, .string o.s]
def opCells (l : List OpV) : List Value := l.flatMap OpV.cells
theorem opCells_len (l : List OpV) : (opCells l).length = l.length * 4 := by
  induction l with
  | nil => rfl
  | cons a r ih =>
    have e : opCells (a :: r) = a.cells ++ opCells r := rfl
    rw [e, List.length_append, ih]
    have : a.cells.length = 4 := rfl
    simp only [List.length_cons]; omega
theorem opCells_get (l : List OpV) : ∀ (k i : Nat) (h : k < l.length), i < 4 → (opCells l)[k * 4 + i]? = (l[k]).cells[i]? := by
  induction l with
  | nil => intro k i h; simp at h
  | cons a r ih =>
    intro k i h hi
    have e : opCells (a :: r) = a.cells ++ opCells r := rfl
    rw [e]
    have hl : a.cells.length = 4 := rfl
    cases k with
    | zero => rw [List.getElem?_append_left (by omega)]; simp
    | succ k =>
      rw [List.getElem?_append_right (by omega)]
      rw [show (k + 1) * 4 + i - a.cells.length = k * 4 + i from by omega]
      exact ih k i (by simpa using h) hi

/-- The first query of every script is right. -/
theorem good_first : Good ⟨#[36, 91, 42, 93, 46, 46, 97, 91, 45, 49, 93]⟩ := by
  refine ⟨by decide, ?_, ?_⟩
  · show (M [36, 91, 42, 93, 46, 46, 97, 91, 45, 49, 93] 12).st = 26
    decide
  · show C [36, 91, 42, 93, 46, 46, 97, 91, 45, 49, 93] 12 ≤ 10
    decide

theorem Tryz.infoOp : (Tryz.prog.info? 64).map (fun i => (i.zero, i.size, i.bytes)) = some (some (.agg #[.int .i64 0, .int .i64 0, .int .i64 0, .string ⟨#[]⟩]), 4, 40) := by kernel_rfl

/-- What holds at the head of the main loop. -/
structure Lp (w wr : World) (gw gl gplay N : Nat) (cap : Nat) (ops : List OpV) (ps : List PV) (lv : Value) : Prop where
  l : LW wr gw ps lv
  f : Keeps w wr
  row : wr.ownsRow (w.heap.size + 1) 64 4 (.slice (some ⟨gl, 0, none⟩) N cap) N (opCells ops)
  apart : ∀ k, lv.ownBlock = some k → k ≠ gl
  pl : Blk wr gplay #[.int .i64 1, .int .i64 2] 3

theorem Lp.step {w wr w2 : World} {gw gl gplay N cap : Nat} {ops : List OpV} {ps ps' : List PV} {lv lv' : Value} (h : Lp w wr gw gl gplay N cap ops ps lv) (hgw : gw = w.heap.size) (hgp : gplay < w.heap.size)
    (l2 : LW w2 gw ps' lv') (hf : Fr (KW gw lv) wr w2) (hb : ∀ k, lv'.ownBlock = some k → lv.ownBlock = some k ∨ wr.heap.size ≤ k) : Lp w w2 gw gl gplay N cap ops ps' lv' := by
  have hlv : ∀ k, lv.ownBlock = some k → gw + 1 ≤ k := fun k hk => (h.l.own.lt k hk).1
  refine ⟨l2, h.f.new hf (fun i hi e => ?_), ?_, ?_, h.pl.fr hf ?_⟩
  · rcases e with e | e
    · omega
    · have := hlv i e; omega
  · have hr := h.row
    refine ⟨hr.1, ?_⟩
    rcases hr.2 with x | ⟨g, cap', cur, hv, hbb, hg, r⟩
    · exact Or.inl x
    · have hgl : g = gl := by simp at hv; exact hv.1.symm
      subst hgl
      refine Or.inr ⟨g, cap', cur, hv, hbb, (hf.block g (lt_of_some hg) (fun e => ?_)).trans hg, r⟩
      rcases e with e | e
      · omega
      · exact h.apart g e rfl
  · intro k hk
    rcases hb k hk with x | x
    · exact h.apart k x
    · have hr := h.row
      rcases hr.2 with y | ⟨g, cap', cur, hv, hbb, hg, r⟩
      · simp at y
      · have hgl : g = gl := by simp at hv; exact hv.1.symm
        have := lt_of_some hg
        omega
  · intro e
    rcases e with e | e
    · omega
    · have := hlv gplay e; omega

end Go.Proofs.YtcbadebjpogmlaaGreatDoor
