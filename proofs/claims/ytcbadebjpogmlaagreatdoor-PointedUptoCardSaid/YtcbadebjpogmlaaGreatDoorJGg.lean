import Derived.Test.YtcbadebjpogmlaaGreatDoorJFb
import Derived.Test.YtcbadebjpogmlaaGreatDoorJGe
namespace Go.Proofs.YtcbadebjpogmlaaGreatDoor
open Go.RowKit Tr
def tkCells (t : Tok) : Array Value := #[.int .i64 (t.k : Nat), .int .i64 (t.of : Nat), .int .i64 (t.frm : Nat), .int .i64 (t.to : Nat), .int .i64 t.n, .string (bsb (tkx t.k t.t))]
set_option maxHeartbeats 2000000 in
set_option maxRecDepth 100000 in
theorem g_take2 {X : Type} {g : Nat} {T : TypeId} {o : Nat} {gc : X → Value → Value → Value → Array Value} {fb fc : Value} {S : World → (Nat → Prop) → X → Prop} {bk : X → Bool} {bg cl : X → List Fm → Fm → Nat → X → Prop} {OkB : X → List Fm → Fm → Nat → Prop} {OkC : X → List Fm → Fm → (Nat → Nat) → Prop} (hL : GLay T o fb fc gc) (hG : GCb g T gc fb fc S bk bg cl OkB OkC)
    {w : World} {gs : Gs} {x : X} {A : Nat → Nat} {C M D : Nat → Prop} {t : Tok} (h : GI g T gc S w gs x A C M D) (hk : t.k = 2) :
    Calls Tryz.prog 53 #[.pointer (some ⟨g, o, none⟩), tagg t] w (TkP g T gc S bk bg cl x gs t A C M D w) := by
  obtain ⟨w0, hw0⟩ : ∃ w0, w0 = w.alloc (.cells (tkCells t) 108) := ⟨_, rfl⟩
  have bt0 : Blk w0 w.heap.size (tkCells t) 108 := by rw [hw0]; exact Blk.new w _ _
  have K0 : Keeps w w0 := by rw [hw0]; exact (Fr.refl _ w).alloc _
  have h0 := h.keeps hG K0
  have fz := h0.b.fz
  have g3 := hL.c3 h0.b
  have tc0 : w0.cell? ⟨w.heap.size, 0, none⟩ = some (.int .i64 (t.k : Nat)) := bt0.cell 0
  have tc5 : w0.cell? ⟨w.heap.size, 5, none⟩ = some (.string (bsb (tkx t.k t.t))) := bt0.cell 5
  have etx : tkx t.k t.t = t.t := by unfold tkx; rw [if_neg (by omega)]
  rw [etx] at tc5
  have n0 : ((t.k : Int) == 0) = false := by rw [hk]; decide
  have n1 : ((t.k : Int) == 1) = false := by rw [hk]; decide
  have n2 : ((t.k : Int) == 2) = true := by rw [hk]; decide
  have FIN : Hid (TkP g T gc S bk bg cl x gs t A C M D w (.returned (.tuple #[])) (w0.setCell ⟨g, o + 3, none⟩ (.string (bsb t.t)))) := by
    have f0 : Fr (fun k => k = g) w0 (w0.setCell ⟨g, o + 3, none⟩ (.string (bsb t.t))) := (Fr.refl (fun k => k = g) w0).setCell ⟨g, o + 3, none⟩ (Or.inl rfl) _
    have eg : gTake gs t (bk x) = { gs with nm := t.t } := by unfold gTake; rw [if_neg (by omega), if_neg (by omega), if_pos hk]
    have ex : gX bk bg cl x gs t A w.heap.size x := by unfold gX; rw [if_neg (by omega), if_neg (by omega), if_pos hk]
    refine ⟨rfl, A, C, M, D, x, ex, ?_, fun _ _ => rfl, fun k hk => ?_, (K0.mono (fun _ _ e => e.elim)).trans (f0.mono (fun k _ e => Or.inr (Or.inr e)))⟩
    · rw [eg]
      exact ⟨hG.keep h0.s (fun k hk => f0.block k (hG.lt h0.s hk) (fun e => (h0.dj k hk).2.2 e)) f0.size, hL.s3 _ h0.b, h0.m.fr h0.c f0 (fun k e => by rw [e]; exact h0.g), ⟨h0.ok.len, h0.ok.ix, h0.ok.bd, h0.ok.ws⟩, h0.p, fun k hk => Nat.lt_of_lt_of_le (h0.c k hk) f0.size, h0.dj, h0.g, fun e t ht => ⟨(h0.l e t ht).1.imp (fun _ y => ⟨y.1, y.2.keep (fun k hk => f0.block k (h0.c k hk) (fun e => h0.g.2 (e ▸ hk)))⟩), (h0.l e t ht).2⟩⟩
    rcases hk with e | e | e
    · exact Or.inl e
    · exact Or.inr (Or.inl e)
    exact Or.inr (Or.inr (Or.inl e))
  have HW0 : Hid (w0 = w.alloc (.cells #[.int .i64 (t.k : Nat), .int .i64 (t.of : Nat), .int .i64 (t.frm : Nat), .int .i64 (t.to : Nat), .int .i64 t.n, .string (bsb (tkx t.k t.t))] 108)) := hw0
  rw [hw0] at fz g3 tc0 tc5
  unfold tkCells at fz g3 tc0 tc5
  have ETX := hide etx
  clear hw0 bt0 K0 h0 h hk hL hG etx
  unfold tagg
  go_enter Tryz.func53, Tryz.ntmps53
  go_wp2
  go_end0
  rw [← HW0.out]
  exact FIN.out
set_option maxHeartbeats 2000000 in
set_option maxRecDepth 100000 in
theorem g_take1 {X : Type} {g : Nat} {T : TypeId} {o : Nat} {gc : X → Value → Value → Value → Array Value} {fb fc : Value} {S : World → (Nat → Prop) → X → Prop} {bk : X → Bool} {bg cl : X → List Fm → Fm → Nat → X → Prop} {OkB : X → List Fm → Fm → Nat → Prop} {OkC : X → List Fm → Fm → (Nat → Nat) → Prop} (hL : GLay T o fb fc gc) (hG : GCb g T gc fb fc S bk bg cl OkB OkC)
    {w : World} {gs : Gs} {x : X} {A : Nat → Nat} {C M D : Nat → Prop} {t : Tok} (h : GI g T gc S w gs x A C M D) (hk : t.k = 1) (ht : TokOk gs.sh t) (hmk : mayKeep gs (bk x)) (hOk : ∀ f r, gs.st = f :: r → OkC x r (Fm.ends f t.to) A) :
    Calls Tryz.prog 53 #[.pointer (some ⟨g, o, none⟩), tagg t] w (TkP g T gc S bk bg cl x gs t A C M D w) := by
  obtain ⟨f, r, hst⟩ : ∃ f r, gs.st = f :: r := by
    have := ht.k1 hk
    cases hs : gs.st with
    | nil => simp [Gs.sh, hs] at this
    | cons f r => exact ⟨f, r, rfl⟩
  obtain ⟨w0, hw0⟩ : ∃ w0, w0 = w.alloc (.cells (tkCells t) 108) := ⟨_, rfl⟩
  have bt0 : Blk w0 w.heap.size (tkCells t) 108 := by rw [hw0]; exact Blk.new w _ _
  have K0 : Keeps w w0.drew := by rw [hw0]; exact ((Fr.refl _ w).alloc _).drew
  have h0 := h.keeps hG K0
  have tc0 : w0.cell? ⟨w.heap.size, 0, none⟩ = some (.int .i64 (t.k : Nat)) := bt0.cell 0
  have tc3 : w0.cell? ⟨w.heap.size, 3, none⟩ = some (.int .i64 (t.to : Nat)) := bt0.cell 3
  have g2 : w0.cell? ⟨g, o + 2, none⟩ = some (.pointer (some ⟨A f.d.frm, 0, none⟩)) := by
    have := hL.c2 (w := w0.drew) h0.b
    rw [hst] at this
    exact this
  have hws := h.ok.ws
  rw [hst] at hws
  have hok2 := gOk_take h.ok ht hmk
  have hl8 : r.length ≤ 8 := by have := h.ok.len; rw [hst] at this; simp at this; omega
  have hix4 := h.ok.ix
  have hbd4 := h.ok.bd
  have hm0 := h0.m
  rw [hst] at hm0
  have hp0 := h0.p
  rw [hst] at hp0
  have eg : gTake gs t (bk x) = gClose gs f r t.to := by unfold gTake; rw [if_neg (by omega), if_pos hk, hst]
  have ex : ∀ A x', gX bk bg cl x gs t A w.heap.size x' = cl x r (Fm.ends f t.to) (A f.d.frm) x' := fun A x' => by unfold gX; rw [if_neg (by omega), if_pos hk, hst]
  have CL := hide (g_close hL hG h0.s h0.b hm0 hl8 h0.c h0.dj h0.g (by have := hws.2.1; have := hws.2.2.1; omega) t.to (hOk f r hst))
  have FINE : Hid (∀ res w', ClP g T gc S A C gs.bd (Fm.ends f t.to) r M D (cl x r (Fm.ends f t.to) (A f.d.frm)) (.string (bsb gs.nm)) w0.drew res w' → TkP g T gc S bk bg cl x gs t A C M D w res w') := fun res w' hr => by
    obtain ⟨q1, D', x', qx, q2, q3, q4, q5, q6⟩ := hr
    have hC' : ∀ k, C k → k < w'.heap.size := fun k hk => Nat.lt_of_lt_of_le (h0.c k hk) q6.size
    have hdj' : ∀ k, D' k → ¬ M k ∧ ¬ C k ∧ k ≠ g := fun k hk => by
      rcases q5 k hk with e | e
      · exact h0.dj k e
      refine ⟨fun y => ?_, fun y => ?_, fun y => ?_⟩
      · have := (h0.m.lt k y).1; omega
      · have := h0.c k y; omega
      have := h0.b.lt; omega
    obtain ⟨C', M', c1, c2, c3⟩ := gi_close (gs := gTake gs t (bk x)) (f := f) q2 q3 q4 hl8 (by have := hws.2.1; have := hws.2.2.1; omega) (by have := hws.1; omega) hws.2.2.2.2.1 hp0.1 hp0.2 hC' hdj' h0.g (by rw [eg]; rfl) hok2
    refine ⟨q1, A, C', M', D', x', by rw [ex]; exact qx, c1, fun _ _ => rfl, fun k hk => ?_, (K0.mono (fun _ _ e => e.elim)).trans q6⟩
    rcases hk with e | e | e
    · rcases q5 k e with y | y
      · exact Or.inl y
      exact Or.inr (Or.inr (Or.inr (Nat.le_trans K0.size y)))
    · exact Or.inr (Or.inl (c3 k e))
    rcases c2 k e with y | y
    · exact Or.inr (Or.inr (Or.inl y))
    exact Or.inr (Or.inl y)
  have n0 : ((t.k : Int) == 0) = false := by rw [hk]; decide
  have n1 : ((t.k : Int) == 1) = true := by rw [hk]; decide
  have HW0 : Hid (w0 = w.alloc (.cells #[.int .i64 (t.k : Nat), .int .i64 (t.of : Nat), .int .i64 (t.frm : Nat), .int .i64 (t.to : Nat), .int .i64 t.n, .string (bsb (tkx t.k t.t))] 108)) := hw0
  clear hw0 bt0 K0 h0 h hk hL hG hws hok2 hl8 hm0 hp0 eg ex ht hmk hOk hst hix4 hbd4
  unfold tagg
  unfold vpt at CL
  go_enter Tryz.func53, Tryz.ntmps53
  go_wp2
  rw [← HW0.out]
  go_region_with (go_at_call 73; refine CL.out.mono ?_; intro res w1 hr; have FR := hide (FINE.out res w1 hr); obtain ⟨rfl, _⟩ := hr)
  all_goals
    go_wp2
    go_end0
    exact FR.out
end Go.Proofs.YtcbadebjpogmlaaGreatDoor
namespace Go.Proofs.YtcbadebjpogmlaaGreatDoor
open Go.RowKit Tr
theorem bg_gi {X : Type} {g : Nat} {T : TypeId} {gc : X → Value → Value → Value → Array Value} {S : World → (Nat → Prop) → X → Prop}
    {w w1 : World} {gs : Gs} {x : X} {A : Nat → Nat} {C M D M' D' : Nat → Prop} (h : GI g T gc S w gs x A C M D) (mm : ∀ k, M' k → M k ∨ w.heap.size ≤ k) (dd : ∀ k, D' k → D k ∨ w.heap.size ≤ k) (dm : ∀ k, D' k → ¬ M' k) (ff : Fr (fun k => D k ∨ M k ∨ k = g) w w1) :
    (∀ k, C k → k < w1.heap.size) ∧ (∀ k, D' k → ¬ M' k ∧ ¬ C k ∧ k ≠ g) ∧ (¬ M' g ∧ ¬ C g) := by
  have hgl := h.b.lt
  refine ⟨fun k hk => Nat.lt_of_lt_of_le (h.c k hk) ff.size, fun k hk => ⟨dm k hk, fun e => ?_, fun e => ?_⟩, fun e => ?_, h.g.2⟩
  · rcases dd k hk with y | y
    · exact (h.dj k y).2.1 e
    have := h.c k e; omega
  · rcases dd k hk with y | y
    · exact (h.dj k y).2.2 e
    omega
  rcases mm g e with y | y
  · exact h.g.1 y
  omega
set_option maxHeartbeats 2000000 in
set_option maxRecDepth 100000 in
theorem g_take0 {X : Type} {g : Nat} {T : TypeId} {o : Nat} {gc : X → Value → Value → Value → Array Value} {fb fc : Value} {S : World → (Nat → Prop) → X → Prop} {bk : X → Bool} {bg cl : X → List Fm → Fm → Nat → X → Prop} {OkB : X → List Fm → Fm → Nat → Prop} {OkC : X → List Fm → Fm → (Nat → Nat) → Prop} (hL : GLay T o fb fc gc) (hG : GCb g T gc fb fc S bk bg cl OkB OkC)
    {w : World} {gs : Gs} {x : X} {A : Nat → Nat} {C M D : Nat → Prop} {t : Tok} (h : GI g T gc S w gs x A C M D) (hk : t.k = 0) (ht : TokOk gs.sh t) (hmk : mayKeep gs (bk x)) (hOk : ∀ b, OkB x gs.st (gBegin gs t false) b) :
    Calls Tryz.prog 53 #[.pointer (some ⟨g, o, none⟩), tagg t] w (TkP g T gc S bk bg cl x gs t A C M D w) := by
  obtain ⟨w0, hw0⟩ : ∃ w0, w0 = w.alloc (.cells (tkCells t) 108) := ⟨_, rfl⟩
  have bt0 : Blk w0 w.heap.size (tkCells t) 108 := by rw [hw0]; exact Blk.new w _ _
  have K0 : Keeps w w0 := by rw [hw0]; exact (Fr.refl _ w).alloc _
  have h0 := h.keeps hG K0
  have hok2 := gOk_take h.ok ht hmk
  have eg : gTake gs t (bk x) = { gs with st := gBegin gs t (bk x) :: gs.st, nm := [], ix := 0, bd := t.frm + 1 } := by unfold gTake; rw [if_pos hk]
  have ex : ∀ A x', gX bk bg cl x gs t A w.heap.size x' = bg x gs.st (gBegin gs t false) (A t.frm) x' := fun A x' => by unfold gX; rw [if_pos hk]
  have BG := hide (g_begin hL hG h0.s h0.b h0.m h0.ok ht (Or.inl hk) h0.c h0.dj h0.g hOk)
  have hbd : gs.bd ≤ t.frm := (ht.k0 hk).2.2.2.2
  have FINE : Hid (∀ (w1 : World) (b : Nat) (A' : Nat → Nat) (M' D' : Nat → Prop) (x' : X), w0.heap.size ≤ b → A' (gBegin gs t (bk x)).d.frm = b → (∀ k, k < (gBegin gs t (bk x)).d.frm → A' k = A k) → bg x gs.st { gBegin gs t (bk x) with kp := false } b x' → S w1 D' x' → Blk w1 g (gc x' (parP A gs.st) (.string (bsb [])) (.int .i64 (gs.ix : Nat))) T → FrM w1 A' C ((gBegin gs t (bk x)).d.frm + 1) (gBegin gs t (bk x) :: gs.st) [] M' →
      (∀ k, M' k → M k ∨ w0.heap.size ≤ k) → (∀ k, D' k → D k ∨ w0.heap.size ≤ k) → (∀ k, D' k → ¬ M' k) → Fr (fun k => D k ∨ M k ∨ k = g) w0 w1 →
      TkP g T gc S bk bg cl x gs t A C M D w (.returned (.tuple #[])) ((w1.setCell ⟨g, o + 2, none⟩ (.pointer (some ⟨b, 0, none⟩))).setCell ⟨g, o + 4, none⟩ (.int .i64 0))) := fun w1 b A' M' D' x' hb a1 a2 hbx s1 b1 m1 mm dd dm ff => by
    obtain ⟨i1, i2, i3⟩ := bg_gi h0 mm dd dm ff
    have f2 : Fr (fun k => k = g) w1 ((w1.setCell ⟨g, o + 2, none⟩ (.pointer (some ⟨b, 0, none⟩))).setCell ⟨g, o + 4, none⟩ (.int .i64 0)) := ((Fr.refl (fun k => k = g) w1).setCell ⟨g, o + 2, none⟩ (Or.inl rfl) _).setCell ⟨g, o + 4, none⟩ (Or.inl rfl) _
    have a1' : A' t.frm = b := a1
    refine ⟨rfl, A', C, M', D', x', by rw [ex, a1']; exact hbx, ?_, fun k hk => a2 k (Nat.lt_of_lt_of_le hk hbd), fun k hk => ?_, ((K0.mono (fun _ _ e => e.elim)).trans ff).trans (f2.mono (fun k _ e => Or.inr (Or.inr e)))⟩
    · refine ⟨hG.keep s1 (fun k hk => f2.block k (hG.lt s1 hk) (fun e => (i2 k hk).2.2 e)) f2.size, ?_, ?_, hok2, ?_, fun k hk => Nat.lt_of_lt_of_le (i1 k hk) f2.size, i2, i3, fun e => ?_⟩
      · rw [eg]
        have hpar : parP A' (gBegin gs t (bk x) :: gs.st) = .pointer (some ⟨b, 0, none⟩) := by
          show vpt (A' t.frm) = _
          rw [a1']; rfl
        show Blk _ g (gc _ (parP A' (gBegin gs t (bk x) :: gs.st)) (.string (bsb [])) (.int .i64 0)) T
        rw [hpar]
        exact hL.s4 (.int .i64 0) (hL.s2 (.pointer (some ⟨b, 0, none⟩)) b1)
      · rw [eg]
        exact m1.fr i1 f2 (fun k e => by rw [e]; exact i3)
      · rw [eg]
        exact ⟨rfl, h.p⟩
      rw [eg] at e; cases e
    rcases hk with e | e | e
    · rcases dd k e with y | y
      · exact Or.inl y
      exact Or.inr (Or.inr (Or.inr (Nat.le_trans K0.size y)))
    · rcases mm k e with y | y
      · exact Or.inr (Or.inl y)
      exact Or.inr (Or.inr (Or.inr (Nat.le_trans K0.size y)))
    exact Or.inr (Or.inr (Or.inl e))
  have CELLS : Hid (∀ {w1 : World} {x' : X} {a b c : Value}, Blk w1 g (gc x' a b c) T → (∃ u, w1.cell? ⟨g, o + 2, none⟩ = some u) ∧ (∀ i, w1.frozen? ⟨g, i, none⟩ = false) ∧ ∀ v, (∃ u, (w1.setCell ⟨g, o + 2, none⟩ v).cell? ⟨g, o + 4, none⟩ = some u) ∧ (∀ i, (w1.setCell ⟨g, o + 2, none⟩ v).frozen? ⟨g, i, none⟩ = false)) := fun hb => ⟨⟨_, hL.c2 hb⟩, hb.fz, fun v => ⟨⟨_, hL.c4 (hL.s2 v hb)⟩, (hL.s2 v hb).fz⟩⟩
  have n0 : ((t.k : Int) == 0) = true := by rw [hk]; decide
  have HW0 : Hid (w0 = w.alloc (.cells #[.int .i64 (t.k : Nat), .int .i64 (t.of : Nat), .int .i64 (t.frm : Nat), .int .i64 (t.to : Nat), .int .i64 t.n, .string (bsb (tkx t.k t.t))] 108)) := hw0
  clear hw0 bt0 K0 h0 h hk hL hG hok2 eg ex ht hmk hOk hbd
  unfold tagg at *
  go_enter Tryz.func53, Tryz.ntmps53
  go_wp2_with fail
  rw [← HW0.out]
  refine BG.out.mono ?_
  rintro res w1 ⟨b, A', M', D', x', rfl, q1, q2, q3, qx, q4, q5, q6, q7, q8, q9, q10⟩
  have FR := hide (FINE.out w1 b A' M' D' x' q1 q2 q3 qx q4 q5 q6 q7 q8 q9 q10)
  obtain ⟨⟨u2, c2⟩, fz, cc⟩ := CELLS.out q5
  obtain ⟨⟨u4, c4⟩, fz4⟩ := cc (.pointer (some ⟨b, 0, none⟩))
  clear q1 q2 q3 qx q4 q5 q6 q7 q8 q9 q10 cc
  unfold vpt
  go_wp2
  go_end0
  exact FR.out
end Go.Proofs.YtcbadebjpogmlaaGreatDoor
namespace Go.Proofs.YtcbadebjpogmlaaGreatDoor
open Go.RowKit Tr
set_option maxHeartbeats 2000000 in
set_option maxRecDepth 100000 in
theorem g_take3 {X : Type} {g : Nat} {T : TypeId} {o : Nat} {gc : X → Value → Value → Value → Array Value} {fb fc : Value} {S : World → (Nat → Prop) → X → Prop} {bk : X → Bool} {bg cl : X → List Fm → Fm → Nat → X → Prop} {OkB : X → List Fm → Fm → Nat → Prop} {OkC : X → List Fm → Fm → (Nat → Nat) → Prop} (hL : GLay T o fb fc gc) (hG : GCb g T gc fb fc S bk bg cl OkB OkC)
    {w : World} {gs : Gs} {x : X} {A : Nat → Nat} {C M D : Nat → Prop} {t : Tok} (h : GI g T gc S w gs x A C M D) (hk : t.k = 3) (ht : TokOk gs.sh t) (hmk : mayKeep gs (bk x)) (hOk : ∀ b, OkB x gs.st (gBegin gs t false) b) (hOk2 : ∀ (A' : Nat → Nat) x1, w.heap.size ≤ A' t.frm → (∀ k, k < gs.bd → A' k = A k) → bg x gs.st (gBegin gs t false) (A' t.frm) x1 → OkC x1 gs.st (Fm.ends (gBegin gs t (bk x)) t.to) A') :
    Calls Tryz.prog 53 #[.pointer (some ⟨g, o, none⟩), tagg t] w (TkP g T gc S bk bg cl x gs t A C M D w) := by
  obtain ⟨w0, hw0⟩ : ∃ w0, w0 = w.alloc (.cells (tkCells t) 108) := ⟨_, rfl⟩
  have bt0 : Blk w0 w.heap.size (tkCells t) 108 := by rw [hw0]; exact Blk.new w _ _
  have K0 : Keeps w w0.drew := by rw [hw0]; exact ((Fr.refl _ w).alloc _).drew
  have h0 := h.keeps hG K0
  have hok2 := gOk_take h.ok ht hmk
  have k3 := ht.k3 hk
  have hbd : gs.bd ≤ t.frm := k3.2.2.2.2
  have hl8 : gs.st.length ≤ 8 := h.ok.len
  have hix : gs.ix ≤ 4000000 := by have := h.ok.ix; have := h.ok.bd; omega
  have eg : gTake gs t (bk x) = gClose { gs with nm := [], bd := t.frm + 1 } (gBegin gs t (bk x)) gs.st t.to := by unfold gTake; rw [if_neg (by omega), if_neg (by omega), if_neg (by omega)]
  have ex : ∀ A x', gX bk bg cl x gs t A w.heap.size x' = ∃ x1, w.heap.size ≤ A t.frm ∧ bg x gs.st (gBegin gs t false) (A t.frm) x1 ∧ cl x1 gs.st (Fm.ends (gBegin gs t (bk x)) t.to) (A t.frm) x' := fun A x' => by unfold gX; rw [if_neg (by omega), if_neg (by omega), if_neg (by omega)]
  have BG := hide (g_begin hL hG h0.s h0.b h0.m h0.ok ht (Or.inr hk) h0.c h0.dj h0.g hOk)
  have htb : ∀ k, D k ∨ M k ∨ k = g → k ≠ w.heap.size := fun k hk e => by
    rcases hk with y | y | y
    · have := hG.lt h.s y; omega
    · have := (h.m.lt k y).1; omega
    have := h.b.lt; omega
  have MID : Hid (∀ (w1 : World) (b : Nat) (A' : Nat → Nat) (M' D' : Nat → Prop) (x1 : X), w0.drew.heap.size ≤ b → A' (gBegin gs t (bk x)).d.frm = b → (∀ k, k < (gBegin gs t (bk x)).d.frm → A' k = A k) → bg x gs.st { gBegin gs t (bk x) with kp := false } b x1 → S w1 D' x1 → Blk w1 g (gc x1 (parP A gs.st) (.string (bsb [])) (.int .i64 (gs.ix : Nat))) T → FrM w1 A' C ((gBegin gs t (bk x)).d.frm + 1) (gBegin gs t (bk x) :: gs.st) [] M' →
      (∀ k, M' k → M k ∨ w0.drew.heap.size ≤ k) → (∀ k, D' k → D k ∨ w0.drew.heap.size ≤ k) → (∀ k, D' k → ¬ M' k) → Fr (fun k => D k ∨ M k ∨ k = g) w0.drew w1 →
      w1.cell? ⟨w.heap.size, 3, none⟩ = some (.int .i64 (t.to : Nat)) ∧
      Calls Tryz.prog 73 #[.pointer (some ⟨g, o, none⟩), .pointer (some ⟨b, 0, none⟩), .int .i64 (t.to : Nat)] w1 (TkP g T gc S bk bg cl x gs t A C M D w)) := fun w1 b A' M' D' x1 hb a1 a2 hbx s1 b1 m1 mm dd dm ff => by
    obtain ⟨i1, i2, i3⟩ := bg_gi h0 mm dd dm ff
    have a1' : A' t.frm = b := a1
    refine ⟨(Blk.fr (w := w0.drew) bt0 ff (fun e => htb _ e rfl)).cell 3, ?_⟩
    have CL := g_close hL hG s1 b1 m1 hl8 i1 i2 i3 hix t.to (hOk2 A' x1 (by rw [a1']; exact Nat.le_trans K0.size hb) (fun k hk => a2 k (Nat.lt_of_lt_of_le hk hbd)) (by rw [a1']; exact hbx))
    rw [show A' (gBegin gs t (bk x)).d.frm = b from a1] at CL
    refine CL.mono ?_
    rintro res w' ⟨q1, D2, x', qx, q2, q3, q4, q5, q6⟩
    have i1' : ∀ k, C k → k < w'.heap.size := fun k hk => Nat.lt_of_lt_of_le (i1 k hk) q6.size
    have i2' : ∀ k, D2 k → ¬ M' k ∧ ¬ C k ∧ k ≠ g := fun k hk => by
      rcases q5 k hk with e | e
      · exact i2 k e
      refine ⟨fun y => ?_, fun y => ?_, fun y => ?_⟩
      · have := (m1.lt k y).1; omega
      · have := i1 k y; omega
      have := b1.lt; omega
    have hparP : parP A' gs.st = parP A gs.st := parP_upd (bd := gs.bd) (fun k hk => a2 k (Nat.lt_of_lt_of_le hk hbd)) h.m
    obtain ⟨C', M2, c1, c2, c3⟩ := gi_close (gs := gTake gs t (bk x)) (f := gBegin gs t (bk x)) (nm := []) q2 q3 q4 hl8 hix (by simp [gBegin]) (fun hkp p q e => hmk hkp p q e) rfl h.p i1' i2' i3 (by rw [eg]; rfl) hok2
    refine ⟨q1, A', C', M2, D2, x', by rw [ex, a1']; exact ⟨x1, Nat.le_trans K0.size hb, hbx, qx⟩, c1, fun k hk => a2 k (Nat.lt_of_lt_of_le hk hbd), fun k hk => ?_, ?_⟩
    · have mk : M' k → D k ∨ M k ∨ C k ∨ w.heap.size ≤ k := fun y => by
        rcases mm k y with z | z
        · exact Or.inr (Or.inl z)
        exact Or.inr (Or.inr (Or.inr (Nat.le_trans K0.size z)))
      rcases hk with e | e | e
      · rcases q5 k e with y | y
        · rcases dd k y with z | z
          · exact Or.inl z
          exact Or.inr (Or.inr (Or.inr (Nat.le_trans K0.size z)))
        exact Or.inr (Or.inr (Or.inr (Nat.le_trans K0.size (Nat.le_trans ff.size y))))
      · exact mk (c3 k e)
      rcases c2 k e with y | y
      · exact Or.inr (Or.inr (Or.inl y))
      exact mk y
    refine ⟨q6.os.trans (ff.os.trans K0.os), q6.tape.trans (ff.tape.trans K0.tape), q6.output.trans (ff.output.trans K0.output), Nat.le_trans K0.size (Nat.le_trans ff.size q6.size), fun k hk hn => ?_⟩
    have hk0 : k < w0.drew.heap.size := Nat.lt_of_lt_of_le hk K0.size
    rw [q6.block k (Nat.lt_of_lt_of_le hk0 ff.size) (fun e => ?_), ff.block k hk0 hn, K0.block k hk id]
    rcases e with y | y | y
    · rcases dd k y with z | z
      · exact hn (Or.inl z)
      omega
    · rcases mm k y with z | z
      · exact hn (Or.inr (Or.inl z))
      omega
    exact hn (Or.inr (Or.inr y))
  have tc3 : w0.cell? ⟨w.heap.size, 3, none⟩ = some (.int .i64 (t.to : Nat)) := bt0.cell 3
  have n0 : ((t.k : Int) == 0) = false := by rw [hk]; decide
  have n1 : ((t.k : Int) == 1) = false := by rw [hk]; decide
  have n2 : ((t.k : Int) == 2) = false := by rw [hk]; decide
  have n3 : ((t.k : Int) == 3) = true := by rw [hk]; decide
  have HW0 : Hid (w0 = w.alloc (.cells #[.int .i64 (t.k : Nat), .int .i64 (t.of : Nat), .int .i64 (t.frm : Nat), .int .i64 (t.to : Nat), .int .i64 t.n, .string (bsb (tkx t.k t.t))] 108)) := hw0
  have tcs : ∀ i, i < 6 → w0.cell? ⟨w.heap.size, i, none⟩ = (tkCells t)[i]? := fun i _ => bt0.cell i
  have tc0 : w0.cell? ⟨w.heap.size, 0, none⟩ = some (.int .i64 (t.k : Nat)) := bt0.cell 0
  have tc1 : w0.cell? ⟨w.heap.size, 1, none⟩ = some (.int .i64 (t.of : Nat)) := bt0.cell 1
  have tc2 : w0.cell? ⟨w.heap.size, 2, none⟩ = some (.int .i64 (t.frm : Nat)) := bt0.cell 2
  have tc4 : w0.cell? ⟨w.heap.size, 4, none⟩ = some (.int .i64 t.n) := bt0.cell 4
  have tc5 : w0.cell? ⟨w.heap.size, 5, none⟩ = some (.string (bsb (tkx t.k t.t))) := bt0.cell 5
  clear hw0 bt0 K0 h0 h hk hL hG hok2 eg ex ht hmk hOk hOk2 hbd htb hl8 hix k3 tcs
  unfold tagg at *
  go_enter Tryz.func53, Tryz.ntmps53
  go_wp2
  rw [← HW0.out]
  go_region_with (first
    | (go_at_call 72; refine BG.out.mono ?_; rintro res w1 ⟨b, A', M', D', x1, rfl, q1, q2, q3, qx, q4, q5, q6, q7, q8, q9, q10⟩; obtain ⟨tk3, cl3⟩ := MID.out w1 b A' M' D' x1 q1 q2 q3 qx q4 q5 q6 q7 q8 q9 q10; have CC := hide cl3; clear q1 q2 q3 qx q4 q5 q6 q7 q8 q9 q10 cl3; unfold vpt)
    | (go_at_call 73; refine CC.out.mono ?_; intro res w2 hr; have FR := hide hr; obtain ⟨rfl, _⟩ := hr))
  all_goals
    go_wp2
    go_end0
    exact FR.out
theorem g_take {X : Type} {g : Nat} {T : TypeId} {o : Nat} {gc : X → Value → Value → Value → Array Value} {fb fc : Value} {S : World → (Nat → Prop) → X → Prop} {bk : X → Bool} {bg cl : X → List Fm → Fm → Nat → X → Prop} {OkB : X → List Fm → Fm → Nat → Prop} {OkC : X → List Fm → Fm → (Nat → Nat) → Prop} (hL : GLay T o fb fc gc) (hG : GCb g T gc fb fc S bk bg cl OkB OkC)
    {w : World} {gs : Gs} {x : X} {A : Nat → Nat} {C M D : Nat → Prop} {t : Tok} (h : GI g T gc S w gs x A C M D) (ht : TokOk gs.sh t) (hmk : mayKeep gs (bk x)) (hOk : t.k = 0 ∨ t.k = 3 → ∀ b, OkB x gs.st (gBegin gs t false) b) (hOk1 : t.k = 1 → ∀ f r, gs.st = f :: r → OkC x r (Fm.ends f t.to) A) (hOk2 : t.k = 3 → ∀ (A' : Nat → Nat) x1, w.heap.size ≤ A' t.frm → (∀ k, k < gs.bd → A' k = A k) → bg x gs.st (gBegin gs t false) (A' t.frm) x1 → OkC x1 gs.st (Fm.ends (gBegin gs t (bk x)) t.to) A') :
    Calls Tryz.prog 53 #[.pointer (some ⟨g, o, none⟩), tagg t] w (TkP g T gc S bk bg cl x gs t A C M D w) := by
  have h3 := ht.k
  by_cases k0 : t.k = 0
  · exact g_take0 hL hG h k0 ht hmk (hOk (Or.inl k0))
  by_cases k1 : t.k = 1
  · exact g_take1 hL hG h k1 ht hmk (hOk1 k1)
  by_cases k2 : t.k = 2
  · exact g_take2 hL hG h k2
  exact g_take3 hL hG h (by omega) ht hmk (hOk (Or.inr (by omega))) (hOk2 (by omega))
end Go.Proofs.YtcbadebjpogmlaaGreatDoor
