import Derived.Test.YtcbadebjpogmlaaGreatDoorJMkR
import Derived.Test.YtcbadebjpogmlaaGreatDoorJVd
namespace Go.Proofs.YtcbadebjpogmlaaGreatDoor
open Go.RowKit Tr
theorem m_clone (s : ByteArray) (w : World) (hlim : s.size ≤ 281474976710656) : Calls Tryz.prog 62 #[.string s] w fun r w' => r = .returned (.string s) ∧ Below w.heap.size w w' := by
  go_enter Tryz.func62, Tryz.ntmps62
  go_wp2_with fail
  refine (l_clone s w hlim).mono ?_
  rintro r w1 ⟨rfl, hb⟩
  have H := hide hb
  clear hb
  go_wp2
  go_ret
  exact ⟨rfl, H.out⟩
theorem Mk.qt {g : Nat} {q : ByteArray} {a : Nat} {t : List UInt8} {n : Nat} {p v : Value} {w : World} (h : Mk g q a t n p v w) : Qt g q p v n w a w := ⟨h.b, Fr.refl _ _, h.le⟩
theorem Mk.step {g : Nat} {q : ByteArray} {a a' : Nat} {t : List UInt8} {n : Nat} {p v : Value} {w w' : World} (h : Mk g q a t n p v w) (k : Qt g q p v n w a' w') : Mk g q a' t n p v w' :=
  ⟨k.b, h.o, own_fr h.row k.f (fun k hk e => by omega), k.le⟩
theorem Mk.alloc {g : Nat} {q : ByteArray} {a : Nat} {t : List UInt8} {n : Nat} {p v : Value} {w : World} (h : Mk g q a t n p v w) (o : Obj) : Mk g q a t n p v (w.alloc o) := h.step (h.qt.alloc o)
theorem Mk.lt {g : Nat} {q : ByteArray} {a : Nat} {t : List UInt8} {n : Nat} {p v : Value} {w : World} (h : Mk g q a t n p v w) : ∀ k, KG g v k → k < w.heap.size := by
  rintro k (rfl | hk)
  · exact h.b.lt
  exact (h.row.lt k hk).2
theorem KG.of {g : Nat} {v : Value} {w w' : World} (h : Fr (fun k => k = g) w w') : Fr (KG g v) w w' := h.mono (fun _ _ e => Or.inl e)
def WsP (g : Nat) (q : ByteArray) (a : Nat) (t : List UInt8) (n : Nat) (v : Value) (w : World) (k : Int) (nm : ByteArray) (r : Ending) (w' : World) : Prop :=
  r = .returned (.agg #[.int .i64 k, .string nm, .int .i64 0, .int .i64 0, .nilFunc]) ∧ ∃ p' v', Mk g q a t n p' v' w' ∧ Fr (KG g v) w w'
theorem Mk.set5 {g : Nat} {q : ByteArray} {a : Nat} {t : List UInt8} {n : Nat} {p v : Value} {w : World} (h : Mk g q a t n p v w) (b : Nat) (hb : ¬ KG g v b) (x0 x1 x2 x3 x4 : Value) :
    Mk g q a t n p v (((((w.setCell ⟨b, 0, none⟩ x0).setCell ⟨b, 1, none⟩ x1).setCell ⟨b, 2, none⟩ x2).setCell ⟨b, 3, none⟩ x3).setCell ⟨b, 4, none⟩ x4) := by
  have hg : g ≠ b := fun e => hb (Or.inl e.symm)
  have f : Fr (fun k => k = b) w (((((w.setCell ⟨b, 0, none⟩ x0).setCell ⟨b, 1, none⟩ x1).setCell ⟨b, 2, none⟩ x2).setCell ⟨b, 3, none⟩ x3).setCell ⟨b, 4, none⟩ x4) :=
    (((((Fr.refl (fun k => k = b) w).setCell ⟨b, 0, none⟩ (Or.inl rfl) _).setCell ⟨b, 1, none⟩ (Or.inl rfl) _).setCell ⟨b, 2, none⟩ (Or.inl rfl) _).setCell ⟨b, 3, none⟩ (Or.inl rfl) _).setCell ⟨b, 4, none⟩ (Or.inl rfl) _
  refine ⟨h.b.fr f hg, h.o, ?_, h.le⟩
  refine ⟨h.row.1, ?_⟩
  rcases h.row.2 with x | ⟨k, cap, cur, h1, h2, h3, h4⟩
  · exact Or.inl x
  refine Or.inr ⟨k, cap, cur, h1, h2, (f.block k (lt_of_some h3) (fun e => hb (Or.inr (by rw [h1, ← e]; rfl)))).trans h3, h4⟩
theorem Mk.apart {g : Nat} {q : ByteArray} {a : Nat} {t : List UInt8} {n : Nat} {p v : Value} {w : World} (h : Mk g q a t n p v w) {b : Nat} {cs : Array Value} {T : TypeId} (hb : Blk w b cs T) (hT : T ≠ 5) (hg : g ≠ b) : ¬ KG g v b := by
  rintro (e | e)
  · exact hg e.symm
  rcases h.row.2 with ⟨x, _⟩ | ⟨k, cap, cur, x1, _, x3, _⟩
  · rw [x] at e; cases e
  rw [x1] at e
  have ek : k = b := Option.some.inj e
  subst ek
  unfold Blk at hb
  rw [x3] at hb
  injection hb with hb
  injection hb with _ h2 _
  exact hT h2.symm
set_option maxHeartbeats 1000000 in
theorem ret_ws {R : Ending → World → Prop} {a : Act} {W : World} {g : Nat} {x0 x1 x2 x3 x4 : Value} (hd : a.defers = []) (ha : a.tmps[2]?.getD undef = .pointer (some ⟨g, 0, none⟩))
    (hB : Blk W g #[x0, x1, x2, x3, x4] 239) (hR : R (.returned (.agg #[x0, x1, x2, x3, x4])) W) : bodyPost Tryz.prog Tryz.f160 R .ret a W := by
  have k0 := hB.cell 0
  have k1 := hB.cell 1
  have k2 := hB.cell 2
  have k3 := hB.cell 3
  have k4 := hB.cell 4
  simp at k0 k1 k2 k3 k4
  refine bodyPost_ret (v := .agg #[x0, x1, x2, x3, x4]) ?_ hd hR
  simp [results, Tryz.results160, go_sem, ha, k0, k1, k2, k3, k4]
set_option maxHeartbeats 1000000 in
theorem ws_star {w : World} {g : Nat} {q : ByteArray} {a : Nat} {t : List UInt8} {n : Nat} {p v : Value} (hq : q.size ≤ 1000) (h : Mk g q a t n p v w) (hl : t.length ≤ 100000) (T0 : tk q a ⟨#[42]⟩ = true) :
    Calls Tryz.prog 160 #[.pointer (some ⟨g, 0, none⟩)] w (WsP g q (a + 1) (t ++ [91, 42, 93]) n v w 0 ⟨#[]⟩) := by
  have J := hide (h.alloc (.cells #[.int .i64 0, .string ⟨#[]⟩, .int .i64 0, .int .i64 0, .nilFunc] 239))
  have B0 := hide (Blk.new w #[.int .i64 0, .string ⟨#[]⟩, .int .i64 0, .int .i64 0, .nilFunc] 239)
  have hnk : ¬ KG g v w.heap.size := fun x => Nat.lt_irrefl _ (h.lt _ x)
  have F0 := hide ((Fr.refl (KG g v) w).alloc (.cells #[.int .i64 0, .string ⟨#[]⟩, .int .i64 0, .int .i64 0, .nilFunc] 239))
  clear h
  go_enter Tryz.func160, Tryz.ntmps160
  go_wp2_with fail
  refine (c_yes J.out.qt hq _ T0 (a + 1) rfl).mono ?_
  rintro r w1 ⟨rfl, h1⟩
  have M1 := hide (J.out.step h1)
  have F1 := hide (F0.out.trans (KG.of h1.f))
  have B1 := hide (B0.out.fr (KG.of h1.f) hnk)
  clear h1 J F0 B0
  go_wp2_with fail
  refine (c_write M1.out ⟨#[91, 42, 93]⟩ (by show t.length + 3 ≤ _; omega)).mono ?_
  rintro r w2 ⟨rfl, p2, v2, h2, f2⟩
  have M2 := hide h2
  have F2 := hide (F1.out.trans f2)
  have B2 := hide (B1.out.fr f2 hnk)
  have hnk2 : ¬ KG g v2 w.heap.size := h2.apart B2.out (by decide) (fun e => hnk (Or.inl e.symm))
  clear h2 f2 M1 F1 B1
  have hfz := B2.out.fz
  have z0 := B2.out.cell 0
  have z1 := B2.out.cell 1
  have z2 := B2.out.cell 2
  have z3 := B2.out.cell 3
  have z4 := B2.out.cell 4
  simp at z0 z1 z2 z3 z4
  go_wp2
  refine ret_ws rfl rfl (((((B2.out.set 0 _).set 1 _).set 2 _).set 3 _).set 4 _) ?_
  refine ⟨rfl, p2, v2, M2.out.set5 _ hnk2 _ _ _ _ _, ?_⟩
  have hr : ∀ {W : World} (x : Fr (KG g v) w W) (i : Nat) (y : Value), Fr (KG g v) w (W.setCell ⟨w.heap.size, i, none⟩ y) := fun x i y => x.setCell ⟨w.heap.size, i, none⟩ (Or.inr (Nat.le_refl _)) y
  exact hr (hr (hr (hr (hr F2.out 0 _) 1 _) 2 _) 3 _) 4 _
set_option maxHeartbeats 1000000 in
theorem ws_word {w : World} {g : Nat} {q : ByteArray} {a : Nat} {t : List UInt8} {n : Nat} {p v : Value} (hq : q.size ≤ 1000) (h : Mk g q a t n p v w) (hl : t.length ≤ 100000) (T0 : tk q a ⟨#[42]⟩ = false) :
    Calls Tryz.prog 160 #[.pointer (some ⟨g, 0, none⟩)] w (fun r w' => ∃ k, RunP isLet q a k ∧ WsP g q k (t ++ ([91, 39] ++ sub (bs q) a k ++ [39, 93])) n v w 1 (q.extract a k) r w') := by
  have J := hide (h.alloc (.cells #[.int .i64 0, .string ⟨#[]⟩, .int .i64 0, .int .i64 0, .nilFunc] 239))
  have B0 := hide (Blk.new w #[.int .i64 0, .string ⟨#[]⟩, .int .i64 0, .int .i64 0, .nilFunc] 239)
  have hnk : ¬ KG g v w.heap.size := fun x => Nat.lt_irrefl _ (h.lt _ x)
  have F0 := hide ((Fr.refl (KG g v) w).alloc (.cells #[.int .i64 0, .string ⟨#[]⟩, .int .i64 0, .int .i64 0, .nilFunc] 239))
  clear h
  go_enter Tryz.func160, Tryz.ntmps160
  go_wp2_with fail
  refine (c_no J.out.qt hq _ T0).mono ?_
  rintro r w1 ⟨rfl, h1⟩
  have H1 := hide h1
  clear h1
  go_wp2_with fail
  refine (c_run_isLetter H1.out hq).mono ?_
  rintro r w1 ⟨k, hk, rfl, h1⟩
  have HK := hide hk
  have hkq := hk.le
  clear hk H1
  have M1 := hide (J.out.step h1)
  have F1 := hide (F0.out.trans (KG.of h1.f))
  have B1 := hide (B0.out.fr (KG.of h1.f) hnk)
  clear h1 J F0 B0
  go_wp2_with fail
  refine (c_write M1.out _ (by simp [ByteArray.size_append, ByteArray.size_extract]; have e2 : (⟨#[91, 39]⟩ : ByteArray).size = 2 := rfl; have e3 : (⟨#[39, 93]⟩ : ByteArray).size = 2 := rfl; omega)).mono ?_
  rintro r w2 ⟨rfl, p2, v2, h2, f2⟩
  have e4 : bs (⟨#[91, 39]⟩ ++ q.extract a k ++ ⟨#[39, 93]⟩) = [91, 39] ++ sub (bs q) a k ++ [39, 93] := by rw [bs_append, bs_append, bs_extract]; rfl
  rw [e4] at h2
  have M2 := hide h2
  clear e4
  have F2 := hide (F1.out.trans f2)
  have B2 := hide (B1.out.fr f2 hnk)
  have hnk2 : ¬ KG g v2 w.heap.size := h2.apart B2.out (by decide) (fun e => hnk (Or.inl e.symm))
  clear h2 f2 M1 F1 B1
  have hfz := B2.out.fz
  have z0 := B2.out.cell 0
  have z1 := B2.out.cell 1
  have z2 := B2.out.cell 2
  have z3 := B2.out.cell 3
  have z4 := B2.out.cell 4
  simp at z0 z1 z2 z3 z4
  go_wp2
  refine ret_ws rfl rfl (((((B2.out.set 0 _).set 1 _).set 2 _).set 3 _).set 4 _) ?_
  refine ⟨k, HK.out, rfl, p2, v2, M2.out.set5 _ hnk2 _ _ _ _ _, ?_⟩
  have hr : ∀ {W : World} (x : Fr (KG g v) w W) (i : Nat) (y : Value), Fr (KG g v) w (W.setCell ⟨w.heap.size, i, none⟩ y) := fun x i y => x.setCell ⟨w.heap.size, i, none⟩ (Or.inr (Nat.le_refl _)) y
  exact hr (hr (hr (hr (hr F2.out 0 _) 1 _) 2 _) 3 _) 4 _
end Go.Proofs.YtcbadebjpogmlaaGreatDoor
namespace Go.Proofs.YtcbadebjpogmlaaGreatDoor
open Go.RowKit Tr
structure RowG {α : Type} (T : TypeId) (sz : Nat) (cl : α → List Value) (B : Nat) (P : Nat → World → α → Prop) (D : Nat → Prop) (sv : Value) (fs : List α) (w : World) : Prop where
  o : w.ownsRow B T sz sv fs.length (fs.flatMap cl)
  ft : Ft D B w
  ne : ∀ k, D k → sv.ownBlock ≠ some k
  ok : ∀ i (h : i < fs.length), OkD D w (fun w' => P i w' fs[i])
theorem RowG.fr {α : Type} {K : Nat → Prop} {T : TypeId} {sz : Nat} {cl : α → List Value} {B : Nat} {P : Nat → World → α → Prop} {D : Nat → Prop} {sv : Value} {fs : List α} {w w' : World} (h : RowG T sz cl B P D sv fs w) (f : Fr K w w') (hk : ∀ k, B ≤ k → ¬ K k) : RowG T sz cl B P D sv fs w' := by
  have s := Sm.fr h.ft f hk
  refine ⟨?_, h.ft.keep s, h.ne, fun i hi => (h.ok i hi).keep s⟩
  refine ⟨h.o.1, ?_⟩
  rcases h.o.2 with x | ⟨k, cap, cur, h1, h2, h3, h4⟩
  · exact Or.inl x
  exact Or.inr ⟨k, cap, cur, h1, h2, (f.block k (lt_of_some h3) (hk k h2)).trans h3, h4⟩
theorem RowG.alloc {α : Type} {T : TypeId} {sz : Nat} {cl : α → List Value} {B : Nat} {P : Nat → World → α → Prop} {D : Nat → Prop} {sv : Value} {fs : List α} {w : World} (h : RowG T sz cl B P D sv fs w) (o : Obj) : RowG T sz cl B P D sv fs (w.alloc o) :=
  h.fr (K := fun _ => False) ((Fr.refl _ w).alloc o) (fun _ _ x => x)
theorem RowG.below {α : Type} {T : TypeId} {sz : Nat} {cl : α → List Value} {B : Nat} {P : Nat → World → α → Prop} {D : Nat → Prop} {sv : Value} {fs : List α} {w w' : World} (h : RowG T sz cl B P D sv fs w) (f : Below w.heap.size w w') : RowG T sz cl B P D sv fs w' :=
  h.fr (K := fun _ => False) (Fr.of_below f) (fun _ _ x => x)
theorem RowG.low {α : Type} {T : TypeId} {sz : Nat} {cl : α → List Value} {B B' : Nat} {P : Nat → World → α → Prop} {D : Nat → Prop} {sv : Value} {fs : List α} {w : World} (h : RowG T sz cl B P D sv fs w) (hb : B' ≤ B) : RowG T sz cl B' P D sv fs w := by
  refine ⟨?_, h.ft.low hb, h.ne, h.ok⟩
  refine ⟨h.o.1, ?_⟩
  rcases h.o.2 with x | ⟨k, cap, cur, h1, h2, h3⟩
  · exact Or.inl x
  exact Or.inr ⟨k, cap, cur, h1, Nat.le_trans hb h2, h3⟩
theorem RowG.nil {α : Type} (T : TypeId) (sz : Nat) (cl : α → List Value) (B : Nat) (P : Nat → World → α → Prop) (w : World) : RowG T sz cl B P (fun _ => False) (.slice none 0 0) [] w :=
  ⟨World.ownsRow_nil _ _ _ _, Ft.none _ _, fun _ h => h.elim, fun _ h => absurd h (Nat.not_lt_zero _)⟩
theorem RowG.sm {α : Type} {T : TypeId} {sz : Nat} {cl : α → List Value} {B : Nat} {P : Nat → World → α → Prop} {D : Nat → Prop} {sv : Value} {fs : List α} {w w' : World} (h : RowG T sz cl B P D sv fs w) (s : Sm (fun k => D k ∨ sv.ownBlock = some k) w w') : RowG T sz cl B P D sv fs w' := by
  have s1 : Sm D w w' := fun k hk => s k (Or.inl hk)
  refine ⟨?_, h.ft.keep s1, h.ne, fun i hi => (h.ok i hi).keep s1⟩
  refine ⟨h.o.1, ?_⟩
  rcases h.o.2 with x | ⟨k, cap, cur, h1, h2, h3, h4⟩
  · exact Or.inl x
  exact Or.inr ⟨k, cap, cur, h1, h2, (s k (Or.inr (by rw [h1]; rfl))).trans h3, h4⟩
theorem RowG.ftr {α : Type} {T : TypeId} {sz : Nat} {cl : α → List Value} {B : Nat} {P : Nat → World → α → Prop} {D : Nat → Prop} {sv : Value} {fs : List α} {w : World} (h : RowG T sz cl B P D sv fs w) (hT : T ≠ 5) : Ft (fun k => D k ∨ sv.ownBlock = some k) B w := by
  refine h.ft.or ⟨fun k hk => (h.o.lt k hk).1, fun k hk => ?_⟩
  rcases h.o.2 with ⟨x, _⟩ | ⟨k2, cap, cur, x1, _, x3, _⟩
  · rw [x] at hk; cases hk
  rw [x1] at hk
  have e : k2 = k := Option.some.inj hk
  subst e
  exact ⟨cur, T, _, x3, hT⟩
theorem RowG.one {α : Type} {T : TypeId} {sz : Nat} {cl : α → List Value} {B : Nat} {P : Nat → World → α → Prop} {D : Nat → Prop} {f : α} {w : World} (ft : Ft D B w) (ok : OkD D w (fun w' => P 0 w' f))
    (ho : (w.alloc (.cells (cl f).toArray T)).ownsRow B T sz (.slice (some ⟨w.heap.size, 0, none⟩) 1 1) 1 ([f].flatMap cl)) :
    RowG T sz cl B P D (.slice (some ⟨w.heap.size, 0, none⟩) 1 1) [f] (w.alloc (.cells (cl f).toArray T)) := by
  have s : Sm D w (w.alloc (.cells (cl f).toArray T)) := Sm.fr (K := fun _ => False) ft ((Fr.refl _ w).alloc _) (fun _ _ x => x)
  refine ⟨ho, ft.keep s, fun k hk e => ?_, fun i hi => ?_⟩
  · have h1 := ft.lt hk
    have h2 : w.heap.size = k := Option.some.inj e
    omega
  have e : i = 0 := by simpa using hi
  subst e
  exact ok.keep s
theorem RowG.push {α : Type} {T : TypeId} {sz : Nat} {cl : α → List Value} {B : Nat} {P : Nat → World → α → Prop} {D D2 : Nat → Prop} {sv sv' : Value} {fs : List α} {f : α} {W W' : World} {A : Nat} (h : RowG T sz cl B P D sv fs W) (hA : ∀ k, sv.ownBlock = some k → k < A) (hBA : B ≤ A)
    (ft : Ft D2 A W) (ok : OkD D2 W (fun w' => P fs.length w' f)) (ho : W'.ownsRow B T sz sv' (fs.length + 1) (fs.flatMap cl ++ cl f)) (hg : W.grownBy W' sv.ownBlock) (hb : sv'.ownBlock = sv.ownBlock ∨ sv'.ownBlock = some W.heap.size) :
    RowG T sz cl B P (fun k => D k ∨ D2 k) sv' (fs ++ [f]) W' := by
  have n2 : ∀ k, D2 k → sv.ownBlock ≠ some k := fun k hk e => by have h1 := hA k e; have h2 := ft.ge k hk; omega
  have s1 : Sm D W W' := Sm.grown h.ft hg h.ne
  have s2 : Sm D2 W W' := Sm.grown ft hg n2
  refine ⟨by simpa using ho, (h.ft.keep s1).or ((ft.keep s2).low hBA), fun k hk e => ?_, fun i hi => ?_⟩
  · rcases hb with x | x
    · rw [x] at e
      exact hk.elim (fun y => h.ne k y e) (fun y => n2 k y e)
    rw [x] at e
    have e2 : W.heap.size = k := Option.some.inj e
    have : k < W.heap.size := hk.elim (fun y => h.ft.lt y) (fun y => ft.lt y)
    omega
  by_cases hl : i < fs.length
  · have := ((h.ok i hl).keep s1).more (D' := fun k => D k ∨ D2 k) (fun k => Or.inl)
    rw [show (fs ++ [f])[i] = fs[i] from List.getElem_append_left hl]
    exact this
  have e : i = fs.length := by simp at hi; omega
  subst e
  have := (ok.keep s2).more (D' := fun k => D k ∨ D2 k) (fun k => Or.inr)
  rw [show (fs ++ [f])[fs.length] = f by simp]
  exact this
end Go.Proofs.YtcbadebjpogmlaaGreatDoor
namespace Go.Proofs.YtcbadebjpogmlaaGreatDoor
open Go.RowKit Tr
theorem infoSel : (Tryz.prog.info? 239).map (fun i => (i.zero, i.size, i.bytes)) = some (some (.agg #[.int .i64 0, .string ⟨#[]⟩, .int .i64 0, .int .i64 0, .nilFunc]), 5, 48) := by kernel_rfl
def selCells (l : List SV) : List Value := l.flatMap SV.cells
def SRow (B : Nat) (xs : List Sel) (D : Nat → Prop) (sv : Value) (l : List SV) (w : World) : Prop := RowG 239 5 SV.cells B (fun i w s => ∀ x, xs[i]? = some x → SelIs w s x) D sv l w
def SwL (q : ByteArray) (B a0 a j : Nat) (sv : Value) (wr : World) : Prop := ∃ l xs D, SRow B xs D sv l wr ∧ xs.length = j ∧ l.length = j ∧
  ∀ m, pSels (bs q) (m + j) a0 [] = if bt (bs q) a = 44 then pSels (bs q) m (a + 1) xs else ⟨xs, a⟩
structure BrL (g : Nat) (q : ByteArray) (p v : Value) (n : Nat) (w0 : World) (B q0 c : Nat) (t : St) (j : Nat) (sv : Value) (wr : World) : Prop where
  qt : Qt g q p v n w0 t.p wr
  lv : Live (bs q) q0 (c + j) 9 [] 0 t
  row : SwL q B q0 t.p j sv wr
  gb : g < B
  wb : w0.heap.size ≤ B
  sz : B ≤ wr.heap.size
  le : j ≤ t.p
theorem own_five (w : World) (B : Nat) (s : SV) (hB : B ≤ w.heap.size) : (w.alloc (.cells #[.int .i64 s.k, .string s.nm, .int .i64 s.fr, .int .i64 s.to, s.met] 239)).ownsRow B 239 5 (.slice (some ⟨w.heap.size, 0, none⟩) 1 1) 1 (selCells [s]) :=
  ⟨rfl, Or.inr ⟨w.heap.size, 1, _, rfl, hB, heap_alloc_new w _, Nat.le_refl _, by unfold maxLen; decide, rfl, rfl⟩⟩
set_option maxHeartbeats 2000000 in
set_option maxRecDepth 100000 in
theorem k_bracketed {w : World} {g : Nat} {q : ByteArray} {txt : List UInt8} {n : Nat} {p v : Value} (hq : q.size ≤ 1000) (hf : FinP (bs q)) (he : Er g w) {c : Nat} {t : St} (h : Mk g q t.p txt n p v w) (hl : txt.length ≤ 100000) (T0 : tk q t.p ⟨#[91]⟩ = true)
    (hok : Live (bs q) (t.p + 1) (c + 1) 6 [] 0 { t with p := t.p + 1 }) :
    Calls Tryz.prog 159 #[.pointer (some ⟨g, 0, none⟩)] w (fun r w' => ∃ (t' : St) (j : Nat) (sv p' v' : Value) (l : List SV) (xs : List Sel) (D : Nat → Prop), Bnd (bs q) (c + j) (T (bs q) (t.p + 1) ++ sub (bs q) (t.p + 1) t'.p) t' ∧ t.p < t'.p ∧ j ≤ q.size ∧ r = .returned sv ∧
      (SRow w.heap.size xs D sv l w' ∧ xs.length = j ∧ l.length = j ∧ pBr (bs q) t.p = ⟨xs, t'.p⟩) ∧ Mk g q t'.p (txt ++ sub (bs q) t.p t'.p) n p' v' w' ∧ Fr (KG g v) w w') := by
  obtain ⟨i0, hi, hz0, hz1, hz2⟩ := info_parts infoSel
  have HI := hide hi
  have HZ0 := hide hz0
  have HZ1 := hide hz1
  have HZ2 := hide hz2
  have HE := hide he
  have HF := hide hf
  have MM := hide h
  have L := hide hok
  have c1 : w.cell? ⟨g, 1, none⟩ = some (.int .i64 (t.p : Nat)) := h.b.cell 1
  have htq0 := h.le
  clear h hok he hf hi hz0 hz1 hz2
  go_enter Tryz.func159, Tryz.ntmps159
  go_wp2_with fail
  refine (c_yes MM.out.qt hq _ T0 (t.p + 1) rfl).mono ?_
  rintro r w1 ⟨rfl, h1⟩
  have H1 := hide h1
  clear h1 c1
  go_wp2_with fail
  refine (k_selector (t := { t with p := t.p + 1 }) hq HF.out HE.out L.out H1.out).mono ?_
  rintro r w2 ⟨t2, s2, D2, hl2, hp2, rfl, hft2, hok2, h2⟩
  have S : Hid (BrL g q p v n w w.heap.size (t.p + 1) c t2 1 (.slice (some ⟨w2.heap.size, 0, none⟩) 1 1) (w2.alloc (.cells #[.int .i64 s2.k, .string s2.nm, .int .i64 s2.fr, .int .i64 s2.to, s2.met] 239))) := by
    refine ⟨h2.alloc _, hl2, ⟨[s2], [(pSel (bs q) (t.p + 1)).v], D2, RowG.one (hft2.low H1.out.f.size) (fun w' s x he => ?_) (own_five w2 _ s2 h2.f.size), rfl, rfl, fun m => ?_⟩, MM.out.b.lt, Nat.le_refl _, by have := h2.f.size; simp; omega, by have := hl2.ge; omega⟩
    · simp at he; subst he; exact hok2 w' s
    show pSels (bs q) (m + 1) (t.p + 1) [] = _
    rw [pSels, hp2]
    rfl
  obtain ⟨k2, nm2, fr2, to2, met2, hm2⟩ := s2
  simp only [SV.agg] at S ⊢
  clear hft2 hok2 hp2
  clear h2 hl2 H1 L
  go_wp2_with fail
  go_loopw [4] (fun sv wr => ∃ (t1 : St) (j : Nat), BrL g q p v n w w.heap.size (t.p + 1) c t1 j sv wr) (fun _ wr => q.size - mA g wr)
  case atStart => exact ⟨t2, 1, S.out⟩
  case round =>
    clear S
    obtain ⟨t3, j, hS⟩ := hrel
    have S := hide hS
    have hjt := hS.le
    have htq : t3.p ≤ q.size := hS.qt.le
    have hge : t.p + 1 ≤ t3.p := hS.lv.ge
    have HM := hide hS.qt.mA
    obtain ⟨l, xs, D, hrow, hxl, hll, hps⟩ := hS.row
    obtain ⟨ao, cp, hse⟩ := own_slice hrow.o
    rw [hll] at hse
    subst hse
    have R := hide hrow
    have HXL := hide hxl
    have HLL := hide hll
    have HPS := hide hps
    have e0 := hS.lv.e0
    clear hS hrow hxl hll hps
    by_cases h1 : sees (bs q) t3 44 = true
    · have T1 : tk q t3.p ⟨#[44]⟩ = true := (tk1 q e0 44).trans h1
      have L1 := hide (fin_live HF.out (sel_comma (Or.inl S.out.lv) h1))
      have B44 := hide (sees_b h1)
      clear h1 e0
      go_wp2_with fail
      refine (c_yes S.out.qt.here hq _ T1 (t3.p + 1) rfl).mono ?_
      rintro r w4 ⟨rfl, h4⟩
      have H4 := hide h4
      clear h4
      have E2 := hide (HE.out.keep S.out.qt.f)
      go_wp2_with fail
      refine (k_selector (t := adv t3) hq HF.out E2.out L1.out.rebase H4.out).mono ?_
      rintro r w5 ⟨t5, s5, D5, hl5, hp5, rfl, hft5, hok5, h5⟩
      have FT5 := hide (hft5.low H4.out.f.size)
      have OK5 := hide hok5
      have PS5 : Hid (∀ m, pSels (bs q) (m + (j + 1)) (t.p + 1) [] = if bt (bs q) t5.p = 44 then pSels (bs q) m (t5.p + 1) (xs ++ [(pSel (bs q) (t3.p + 1)).v]) else ⟨xs ++ [(pSel (bs q) (t3.p + 1)).v], t5.p⟩) := fun m => by
        rw [show m + (j + 1) = (m + 1) + j by omega, HPS.out (m + 1), if_pos B44.out, pSels, show (pSel (bs q) (t3.p + 1)).p = t5.p from hp5]
      clear hft5 hok5 hp5
      obtain ⟨k5, nm5, fr5, to5, met5, hm5⟩ := s5
      simp only [SV.agg]
      have hkt : t3.p + 1 ≤ t5.p := hl5.ge
      have hkq := h5.le
      have L5 : Hid (Live (bs q) (t.p + 1) (c + (j + 1)) 9 [] 0 t5) := L1.out.unbase hl5
      have H5 := hide h5
      have V5 : Hid (∀ u ∈ [Value.int .i64 k5, .string nm5, .int .i64 fr5, .int .i64 to5, met5], u.oneCell' = true) := (SV.mk k5 nm5 fr5 to5 met5 hm5).one
      have M5 := hide hm5
      have OK6 : Hid (OkD D5 w5 (fun w => SelIs w ⟨k5, nm5, fr5, to5, met5, M5.out⟩ (pSel (bs q) (t3.p + 1)).v)) := OK5.out
      clear h5 hl5 H4 L1 OK5 hm5
      have hown5 : w5.ownsRow w.heap.size 239 5 (.slice ao j cp) j (selCells l) := own_fr (HLL.out ▸ R.out.o) H5.out.f (fun k hk e => by have := S.out.gb; omega)
      have hB5 : w.heap.size ≤ w5.heap.size := Nat.le_trans S.out.sz H5.out.f.size
      go_wp2_with (at_builtin; refine wpList_append_own_at _ rfl _ _ 210 rfl w.heap.size 239 i0 _ 5 48 Tryz.underlying210 HI.out HZ0.out HZ1.out HZ2.out rfl (by decide) _ _ _ rfl (hown5.alloc _) ⟨w5.heap.size, 0, none⟩ 1 1 [.int .i64 k5, .string nm5, .int .i64 fr5, .int .i64 to5, met5] rfl rfl ?c1 ?c2 ?c3 ?c4 ?c5 ?_)
      case c1 =>
        intro j u hj
        match j, hj with
        | 0, hj => simp at hj; subst hj; simp [Addr.add]
        | 1, hj => simp at hj; subst hj; simp [Addr.add]
        | 2, hj => simp at hj; subst hj; simp [Addr.add]
        | 3, hj => simp at hj; subst hj; simp [Addr.add]
        | 4, hj => simp at hj; subst hj; simp [Addr.add]
      case c2 => exact V5.out
      case c3 => unfold maxLen; omega
      case c4 => omega
      case c5 => simp; omega
      intro v' w6 hown6 hgrow _ hvb
      have RR : SwL q w.heap.size (t.p + 1) t5.p (j + 1) v' w6 := by
        have R1 : SRow w.heap.size xs D (.slice ao j cp) l (w5.alloc (.cells #[.int .i64 k5, .string nm5, .int .i64 fr5, .int .i64 to5, met5] 239)) := RowG.fr R.out (H5.out.alloc _).f (fun k hk e => by have := S.out.gb; omega)
        have R2 : RowG 239 5 SV.cells w.heap.size (fun i w s => ∀ x, (xs ++ [(pSel (bs q) (t3.p + 1)).v])[i]? = some x → SelIs w s x) D (.slice ao j cp) l (w5.alloc (.cells #[.int .i64 k5, .string nm5, .int .i64 fr5, .int .i64 to5, met5] 239)) :=
          ⟨R1.o, R1.ft, R1.ne, fun i hi w' s x he => R1.ok i hi w' s x (by rw [List.getElem?_append_left (by have := HXL.out; have := HLL.out; omega)] at he; exact he)⟩
        refine ⟨l ++ [⟨k5, nm5, fr5, to5, met5, M5.out⟩], xs ++ [(pSel (bs q) (t3.p + 1)).v], fun k => D k ∨ D5 k, ?_, by simp [HXL.out], by simp [HLL.out], PS5.out⟩
        refine R2.push (A := wr.heap.size) (fun k hk => (R.out.o.lt k hk).2) S.out.sz (FT5.out.keep (Sm.alloc FT5.out _)) (fun w' s x he => ?_) (by rw [HLL.out]; exact hown6) hgrow (by simpa using hvb)
        rw [HLL.out, ← HXL.out] at he
        simp at he
        subst he
        exact (OK6.out.keep (Sm.alloc FT5.out _)) w' s
      have S2 : Hid (BrL g q p v n w w.heap.size (t.p + 1) c t5 (j + 1) v' w6) :=
        ⟨(S.out.qt.join (H5.out.alloc _)).grown hgrow (fun k hk => (hown5.lt k hk).1) S.out.gb S.out.wb, L5.out, RR, S.out.gb, S.out.wb, Nat.le_trans hB5 (Nat.le_trans (by simp) hgrow.size), by omega⟩
      clear RR
      clear hown6 hgrow hown5
      go_wp2
      go_roundw
      case rel => exact ⟨_, _, S2.out⟩
      case measure =>
        have m1 : mA g wr = t3.p := HM.out
        have m2 : mA g w6 = t5.p := S2.out.qt.mA
        rw [m1, m2]
        omega
    have h1 : sees (bs q) t3 44 = false := by simpa using h1
    have T1 := tk_ne (sign := ⟨#[44]⟩) e0 rfl h1
    have a1 := sel_close (Or.inl S.out.lv) h1
    have a2 : Bnd (bs q) (c + j) (T (bs q) (t.p + 1) ++ sub (bs q) (t.p + 1) (must (bs q) t3 [93]).p) (must (bs q) t3 [93]) := a1.resolve_right (fun b => fin_bad HF.out b)
    obtain ⟨T2, e2⟩ := tk_must (sign := ⟨#[93]⟩) a2.e0
    rw [show [93] = nb ⟨#[93]⟩ from rfl, e2] at a2
    have A2 := hide a2
    have NB := hide (sees_nb e0 h1)
    clear h1 e0 a1 a2 e2
    go_wp2_with fail
    refine (c_no S.out.qt.here hq _ T1).mono ?_
    rintro r w4 ⟨rfl, h4⟩
    have H4 := hide h4
    clear h4
    go_wp2_with fail
    refine (c_yes H4.out hq _ T2 (t3.p + 1) rfl).mono ?_
    rintro r w5 ⟨rfl, h5⟩
    have H5 := hide (S.out.qt.join h5)
    have R5 : Hid (SRow w.heap.size xs D (.slice ao j cp) l w5) := RowG.fr R.out h5.f (fun k hk e => by have := S.out.gb; omega)
    clear h5 H4
    have M5 := hide (MM.out.step H5.out)
    have F5 : Hid (Fr (KG g v) w w5) := KG.of H5.out.f
    have d0 : w5.cell? ⟨g, 0, none⟩ = some (.string q) := M5.out.b.cell 0
    have d1 : w5.cell? ⟨g, 1, none⟩ = some (.int .i64 ((t3.p + 1 : Nat) : Int)) := M5.out.b.cell 1
    have hle5 : t3.p + 1 ≤ q.size := M5.out.le
    simp at d1
    go_wp2_with fail
    have MD : Hid (Mk g q (t3.p + 1) txt n p v w5.drew) := ⟨M5.out.b, M5.out.o, M5.out.row, M5.out.le⟩
    have HZ := hide (show txt.length + (q.extract t.p (t3.p + 1)).size ≤ 1000000 by simp [ByteArray.size_extract]; omega)
    go_region_with (go_at_call 86; refine (c_write MD.out _ HZ.out).mono ?_; rintro r w6 ⟨rfl, p6, v6, h6, f6⟩)
    all_goals
      rw [bs_extract] at h6
      have M6 := hide h6
      have F6 := hide (F5.out.drew.trans f6)
      have hne : ∀ k, w.heap.size ≤ k → ¬ KG g v k := fun k hk x => by have := MM.out.lt k x; omega
      have R6 : Hid (SRow w.heap.size xs D (.slice ao j cp) l w6) := RowG.fr (RowG.fr (w' := w5.drew) R5.out (K := fun _ => False) (Fr.refl _ w5).drew (fun _ _ x => x)) f6 hne
      clear h6 f6
      go_wp2
      go_ret
      have hbr : pBr (bs q) t.p = ⟨xs, t3.p + 1⟩ := by
        unfold pBr
        rw [bs_len, show q.size + 1 = (q.size + 1 - j) + j by omega, HPS.out, if_neg NB.out]
      exact ⟨{ t3 with p := t3.p + 1 }, j, _, p6, v6, l, xs, D, A2.out, by show t.p < t3.p + 1; omega, by omega, rfl, ⟨R6.out, HXL.out, HLL.out, hbr⟩, M6.out, F6.out⟩
end Go.Proofs.YtcbadebjpogmlaaGreatDoor
namespace Go.Proofs.YtcbadebjpogmlaaGreatDoor
open Go.RowKit Tr
structure VAt (w : World) (b pb : Nat) (c : Tv) (pk i : Nat) (svp : Value) : Prop where
  c : ∃ svc, Blk w b (pcl c.d (.pointer (some ⟨pb, 0, none⟩)) i svc) 130
  p : ∃ dp par ixp, Blk w pb (pcl dp par ixp svp) 130 ∧ DOk dp ∧ dp.kind = pk
  i : i ≤ 4000000
def TakV (w : World) (f : Value) (x : Sel) : Prop := ∃ N cap, f = .func (.func N) #[] cap ∧ (∀ args w, (callFunc N args).run Tryz.prog w = .ok (.enter N args) w) ∧ ∀ (b pb : Nat) (c : Tv) (pk i L : Nat) (svp : Value), VAt w b pb c pk i svp →
  (x.late = true → (∃ ao cp, svp = .slice ao L cp) ∧ L ≤ 4000000 ∧ ∃ A D n par ix, PT w A D n par ix c ∧ A c.d.frm = b) →
  ∀ q, Calls Tryz.prog N (#[.pointer (some ⟨b, 0, none⟩)] ++ cap) (w.drewN q) fun r w' => r = .returned (.bool (takes1 x pk L i c)) ∧ ∃ k, w' = w.drewN k
structure SelC (w : World) (b : Nat) (k : Int) (nm : ByteArray) (fr to : Int) (met : Value) : Prop where
  b : Blk w b #[.int .i64 k, .string nm, .int .i64 fr, .int .i64 to, met] 239
set_option maxHeartbeats 1000000 in
set_option maxRecDepth 100000 in
theorem vt_every (w : World) (x : Sel) (hx : x.sort = 1) : TakV w (.func (.func 209) #[] #[]) x := by
  refine ⟨_, _, rfl, fun _ _ => rfl, fun b pb c pk i L svp hv _ q => ?_⟩
  have e : takes1 x pk L i c = true := by simp [takes1, hx]
  rw [e]
  show Calls Tryz.prog 209 #[.pointer (some ⟨b, 0, none⟩)] _ _
  go_enter Tryz.func209, Tryz.ntmps209
  go_wp2
  go_ret
  exact ⟨rfl, q, rfl⟩
set_option maxHeartbeats 1000000 in
set_option maxRecDepth 100000 in
theorem vt_named {w : World} {bb : Nat} {k : Int} {nm : ByteArray} {fr to : Int} {met : Value} (h : SelC w bb k nm fr to met) (x : Sel) (hx : x.sort = 2) (hn : x.name = bs nm) : TakV w (.func (.func 205) #[] #[.pointer (some ⟨bb, 0, none⟩)]) x := by
  refine ⟨_, _, rfl, fun _ _ => rfl, fun b pb c pk i L svp hv _ q => ?_⟩
  obtain ⟨⟨svc, hc⟩, ⟨dp, par, ixp, hp, hd, rfl⟩, _⟩ := hv
  have e : takes1 x dp.kind L i c = (dp.kind == 5 && c.d.name == bs nm) := by simp [takes1, hx, hn]
  rw [e]
  have c1 : w.cell? ⟨bb, 1, none⟩ = some (.string nm) := h.b.cell 1
  have c5 : w.cell? ⟨b, 5, none⟩ = some (.pointer (some ⟨pb, 0, none⟩)) := hc.cell 5
  have c7 : w.cell? ⟨b, 7, none⟩ = some (.string (bsb c.d.name)) := hc.cell 7
  have p0 : w.cell? ⟨pb, 0, none⟩ = some (.int .i64 (pkd dp : Nat)) := hp.cell 0
  have hk := (pkd5 hd).1
  have hs : Hid (((bsb c.d.name).toList == nm.toList) = (c.d.name == bs nm)) := by
    show _ = _
    by_cases y : c.d.name = bs nm
    · rw [beqS' (by rw [bs_bsb]; exact y), y]; simp
    rw [beqS (by rw [bs_bsb]; exact y)]; simp [y]
  clear h hc hp hd e hn hx
  generalize (c.d.name == bs nm) = bq at *
  generalize dp.kind = kk at *
  generalize pkd dp = pp at *
  show Calls Tryz.prog 205 #[.pointer (some ⟨b, 0, none⟩), .pointer (some ⟨bb, 0, none⟩)] _ _
  by_cases h6 : pp = 6
  · have h5 : kk = 5 := hk.1 h6
    subst h6 h5
    have hs' := hs.out
    clear hk hs
    go_enter Tryz.func205, Tryz.ntmps205
    go_wp2
    go_quiet (fail)
    go_wp2
    go_ret
    exact ⟨by simp, _, drewN3 _ _ _⟩
  have h5 : kk ≠ 5 := fun y => h6 (hk.2 y)
  have e6 : ((pp : Int) == 6) = false := beqI (b := 6) h6
  have e5 : (kk == 5) = false := by simpa using h5
  rw [e5]
  clear hk hs h6 h5 e5
  go_enter Tryz.func205, Tryz.ntmps205
  go_wp2
  go_quiet (fail)
  go_wp2
  go_ret
  exact ⟨rfl, _, drewN3 _ _ _⟩
set_option maxHeartbeats 1000000 in
set_option maxRecDepth 100000 in
theorem vt_count {w : World} {bb : Nat} {k : Int} {nm : ByteArray} {fr to : Int} {met : Value} (h : SelC w bb k nm fr to met) (x : Sel) (hx : x.sort = 3) (hn : x.n = fr) (h0 : 0 ≤ fr) : TakV w (.func (.func 206) #[] #[.pointer (some ⟨bb, 0, none⟩)]) x := by
  refine ⟨_, _, rfl, fun _ _ => rfl, fun b pb c pk i L svp hv hlate q => ?_⟩
  obtain ⟨⟨svc, hc⟩, ⟨dp, par, ixp, hp, hd, rfl⟩, hi⟩ := hv
  have c2 : w.cell? ⟨bb, 2, none⟩ = some (.int .i64 fr) := h.b.cell 2
  have c3 : w.cell? ⟨bb, 3, none⟩ = some (.int .i64 to) := h.b.cell 3
  have c5 : w.cell? ⟨b, 5, none⟩ = some (.pointer (some ⟨pb, 0, none⟩)) := hc.cell 5
  have c6 : w.cell? ⟨b, 6, none⟩ = some (.int .i64 (i : Nat)) := hc.cell 6
  have p0 : w.cell? ⟨pb, 0, none⟩ = some (.int .i64 (pkd dp : Nat)) := hp.cell 0
  have p8 : w.cell? ⟨pb, 8, none⟩ = some svp := hp.cell 8
  have hk := (pkd5 hd).2.1
  have e : takes1 x dp.kind L i c = (dp.kind == 4 && (i : Int) == fr) := by simp only [takes1, hx]; rw [hn, if_neg (by omega : ¬ fr < 0)]; simp
  rw [e]
  clear h hc hp hd e hlate
  generalize dp.kind = kk at *
  generalize pkd dp = pp at *
  show Calls Tryz.prog 206 #[.pointer (some ⟨b, 0, none⟩), .pointer (some ⟨bb, 0, none⟩)] _ _
  clear p8 hn
  by_cases h5 : pp = 5
  · have h4 : kk = 4 := hk.1 h5
    subst h5 h4
    clear hk
    go_enter Tryz.func206, Tryz.ntmps206
    go_wp2
    go_quiet (fail)
    go_wp2
    go_ret
    exact ⟨by simp, _, drewN3 _ _ _⟩
  have h4 : kk ≠ 4 := fun y => h5 (hk.2 y)
  have e5 : ((pp : Int) == 5) = false := beqI (b := 5) h5
  have e4 : (kk == 4) = false := by simpa using h4
  rw [e4]
  clear hk h5 h4 e4
  go_enter Tryz.func206, Tryz.ntmps206
  go_wp2
  go_quiet (fail)
  go_wp2
  go_ret
  exact ⟨rfl, _, drewN3 _ _ _⟩
set_option maxHeartbeats 1000000 in
set_option maxRecDepth 100000 in
theorem vt_end {w : World} {bb : Nat} {k : Int} {nm : ByteArray} {fr to : Int} {met : Value} (h : SelC w bb k nm fr to met) (x : Sel) (hx : x.sort = 3) (hn : x.n = -fr) (h0 : 0 < fr ∧ fr ≤ 1000) : TakV w (.func (.func 207) #[] #[.pointer (some ⟨bb, 0, none⟩)]) x := by
  refine ⟨_, _, rfl, fun _ _ => rfl, fun b pb c pk i L svp hv hlate q => ?_⟩
  obtain ⟨⟨svc, hc⟩, ⟨dp, par, ixp, hp, hd, rfl⟩, hi⟩ := hv
  have hl : x.late = true := by simp [Sel.late, hx]; omega
  obtain ⟨⟨ao, cp, rfl⟩, hL, _⟩ := hlate hl
  have c2 : w.cell? ⟨bb, 2, none⟩ = some (.int .i64 fr) := h.b.cell 2
  have c3 : w.cell? ⟨bb, 3, none⟩ = some (.int .i64 to) := h.b.cell 3
  have c5 : w.cell? ⟨b, 5, none⟩ = some (.pointer (some ⟨pb, 0, none⟩)) := hc.cell 5
  have c6 : w.cell? ⟨b, 6, none⟩ = some (.int .i64 (i : Nat)) := hc.cell 6
  have p0 : w.cell? ⟨pb, 0, none⟩ = some (.int .i64 (pkd dp : Nat)) := hp.cell 0
  have p8 : w.cell? ⟨pb, 8, none⟩ = some (.slice ao L cp) := hp.cell 8
  have hk := (pkd5 hd).2.1
  have e : takes1 x dp.kind L i c = (dp.kind == 4 && (i : Int) == (L : Int) - fr) := by simp only [takes1, hx]; rw [hn, if_pos (by omega : -fr < 0), show -fr + (L : Int) = (L : Int) - fr by omega]; simp
  rw [e]
  clear h hc hp hd e hlate
  generalize dp.kind = kk at *
  generalize pkd dp = pp at *
  show Calls Tryz.prog 207 #[.pointer (some ⟨b, 0, none⟩), .pointer (some ⟨bb, 0, none⟩)] _ _
  have hwr : IntKind.i64.wrap ((L : Int) - fr) = (L : Int) - fr := IntWalk.i64_in _ (by omega)
  clear hn hl h0
  by_cases h5 : pp = 5
  · have h4 : kk = 4 := hk.1 h5
    subst h5 h4
    clear hk
    go_enter Tryz.func207, Tryz.ntmps207
    go_wp2
    go_quiet (fail)
    go_wp2
    go_ret
    exact ⟨by simp, _, drewN3 _ _ _⟩
  have h4 : kk ≠ 4 := fun y => h5 (hk.2 y)
  have e5 : ((pp : Int) == 5) = false := beqI (b := 5) h5
  have e4 : (kk == 4) = false := by simpa using h4
  rw [e4]
  clear hk h5 h4 e4
  go_enter Tryz.func207, Tryz.ntmps207
  go_wp2
  go_quiet (fail)
  go_wp2
  go_ret
  exact ⟨rfl, _, drewN3 _ _ _⟩
set_option maxHeartbeats 1000000 in
set_option maxRecDepth 100000 in
theorem vt_piece {w : World} {bb : Nat} {k : Int} {nm : ByteArray} {fr to : Int} {met : Value} (h : SelC w bb k nm fr to met) (x : Sel) (hx : x.sort = 4) (hf : x.frm = fr) (ht : (x.to < 0 ∧ 4000000 < to) ∨ (0 ≤ x.to ∧ x.to = to)) : TakV w (.func (.func 208) #[] #[.pointer (some ⟨bb, 0, none⟩)]) x := by
  refine ⟨_, _, rfl, fun _ _ => rfl, fun b pb c pk i L svp hv hlate q => ?_⟩
  obtain ⟨⟨svc, hc⟩, ⟨dp, par, ixp, hp, hd, rfl⟩, hi⟩ := hv
  have c2 : w.cell? ⟨bb, 2, none⟩ = some (.int .i64 fr) := h.b.cell 2
  have c3 : w.cell? ⟨bb, 3, none⟩ = some (.int .i64 to) := h.b.cell 3
  have c5 : w.cell? ⟨b, 5, none⟩ = some (.pointer (some ⟨pb, 0, none⟩)) := hc.cell 5
  have c6 : w.cell? ⟨b, 6, none⟩ = some (.int .i64 (i : Nat)) := hc.cell 6
  have p0 : w.cell? ⟨pb, 0, none⟩ = some (.int .i64 (pkd dp : Nat)) := hp.cell 0
  have p8 : w.cell? ⟨pb, 8, none⟩ = some svp := hp.cell 8
  have hk := (pkd5 hd).2.1
  have e : takes1 x dp.kind L i c = (dp.kind == 4 && decide (fr ≤ (i : Int)) && decide ((i : Int) < to)) := by
    have y : (decide (x.to < 0) || decide ((i : Int) < x.to)) = decide ((i : Int) < to) := by
      rcases ht with ⟨h1, h2⟩ | ⟨h1, h2⟩
      · rw [decide_eq_true h1, decide_eq_true (p := (i : Int) < to) (by omega)]; rfl
      rw [h2, decide_eq_false (p := to < 0) (by omega)]; rfl
    simp only [takes1, hx]
    rw [hf, y]
    simp
  rw [e]
  clear h hc hp hd e hlate
  generalize dp.kind = kk at *
  generalize pkd dp = pp at *
  show Calls Tryz.prog 208 #[.pointer (some ⟨b, 0, none⟩), .pointer (some ⟨bb, 0, none⟩)] _ _
  clear p8 ht
  by_cases h5 : pp = 5
  · have h4 : kk = 4 := hk.1 h5
    subst h5 h4
    clear hk
    by_cases hfr : fr ≤ (i : Int)
    · rw [decide_eq_true hfr]
      go_enter Tryz.func208, Tryz.ntmps208
      go_wp2
      go_quiet (fail)
      go_wp2
      go_ret
      exact ⟨by simp, _, drewN3 _ _ _⟩
    rw [decide_eq_false hfr]
    have hge : ((i : Int) ≥ fr) = False := by simpa using hfr
    go_enter Tryz.func208, Tryz.ntmps208
    go_wp2
    go_quiet (fail)
    go_wp2
    go_ret
    exact ⟨by simp, _, drewN3 _ _ _⟩
  have h4 : kk ≠ 4 := fun y => h5 (hk.2 y)
  have e5 : ((pp : Int) == 5) = false := beqI (b := 5) h5
  have e4 : (kk == 4) = false := by simpa using h4
  rw [e4]
  clear hk h5 h4 e4
  go_enter Tryz.func208, Tryz.ntmps208
  go_wp2
  go_quiet (fail)
  go_wp2
  go_ret
  exact ⟨rfl, _, drewN3 _ _ _⟩
theorem vt_where {w : World} {f : Value} {φ : Tv → Bool} (h : CondV w f φ) (x : Sel) (hx : x.sort = 5) (hw : x.wh = φ) : TakV w f x := by
  obtain ⟨N, cap, rfl, hE, hN⟩ := h
  refine ⟨N, cap, rfl, hE, fun b pb c pk i L svp _ hlate q => ?_⟩
  obtain ⟨_, _, A, D, n, par, ix, hp, rfl⟩ := hlate (by simp [Sel.late, hx])
  have e : takes1 x pk L i c = φ c := by simp [takes1, hx, hw]
  rw [e]
  exact hN A D n par ix c hp q
end Go.Proofs.YtcbadebjpogmlaaGreatDoor
