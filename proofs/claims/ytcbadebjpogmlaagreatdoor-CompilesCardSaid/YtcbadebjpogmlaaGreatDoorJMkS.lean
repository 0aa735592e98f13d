/- The program's maker against the plain machine: a selector. -/
import Derived.Test.YtcbadebjpogmlaaGreatDoorJMkQ
import Derived.Laws.EntriesVeiled
namespace Go.Proofs.YtcbadebjpogmlaaGreatDoor
open Go.RowKit Tr

/-- A selector comes back. -/
def SeP (g : Nat) (q : ByteArray) (p v : Value) (n : Nat) (w0 : World) (a : Nat) (r : Ending) (w' : World) : Prop := (∃ (k : Int) (nm : ByteArray) (fr to : Int) (met : Value), r = .returned (.agg #[.int .i64 k, .string nm, .int .i64 fr, .int .i64 to, met]) ∧ (met = .nilFunc ∨ ∃ f x y, met = .func f x y)) ∧ Qt g q p v n w0 a w'

theorem Qt.set5 {g : Nat} {q : ByteArray} {p v : Value} {n : Nat} {w0 w : World} {a : Nat} (h : Qt g q p v n w0 a w) (b : Nat) (hb : w0.heap.size ≤ b) (hg : g ≠ b) (x0 x1 x2 x3 x4 : Value) :
    Qt g q p v n w0 a (((((w.setCell ⟨b, 0, none⟩ x0).setCell ⟨b, 1, none⟩ x1).setCell ⟨b, 2, none⟩ x2).setCell ⟨b, 3, none⟩ x3).setCell ⟨b, 4, none⟩ x4) :=
  ⟨((((h.b.other hg 0 _).other hg 1 _).other hg 2 _).other hg 3 _).other hg 4 _,
   ((((h.f.setCell ⟨b, 0, none⟩ (Or.inr hb) _).setCell ⟨b, 1, none⟩ (Or.inr hb) _).setCell ⟨b, 2, none⟩ (Or.inr hb) _).setCell ⟨b, 3, none⟩ (Or.inr hb) _).setCell ⟨b, 4, none⟩ (Or.inr hb) _, h.le⟩

set_option maxHeartbeats 1000000 in
theorem ret_mk {R : Ending → World → Prop} {a : Act} {W : World} {g : Nat} {x0 x1 x2 x3 x4 : Value} (hd : a.defers = []) (ha : a.tmps[2]?.getD undef = .pointer (some ⟨g, 0, none⟩))
    (hB : Blk W g #[x0, x1, x2, x3, x4] 239) (hR : R (.returned (.agg #[x0, x1, x2, x3, x4])) W) : bodyPost Tryz.prog Tryz.f203 R .ret a W := by
  have k0 := hB.cell 0
  have k1 := hB.cell 1
  have k2 := hB.cell 2
  have k3 := hB.cell 3
  have k4 := hB.cell 4
  simp at k0 k1 k2 k3 k4
  refine bodyPost_ret (v := .agg #[x0, x1, x2, x3, x4]) ?_ hd hR
  simp [results, Tryz.results203, go_sem, ha, k0, k1, k2, k3, k4]

set_option maxHeartbeats 1000000 in
theorem se_star {w0 w : World} {g : Nat} {q : ByteArray} {p v : Value} {n : Nat} (hq : q.size ≤ 1000) {t : St} (h : Qt g q p v n w0 t.p w) (T0 : tk q t.p ⟨#[42]⟩ = true) :
    Calls Tryz.prog 203 #[.pointer (some ⟨g, 0, none⟩)] w (SeP g q p v n w0 (t.p + 1)) := by
  have J := hide (h.alloc (.cells #[.int .i64 0, .string ⟨#[]⟩, .int .i64 0, .int .i64 0, .nilFunc] 239))
  have H := hide J.out.here
  have B0 := hide (Blk.new w #[.int .i64 0, .string ⟨#[]⟩, .int .i64 0, .int .i64 0, .nilFunc] 239)
  have hne : g ≠ w.heap.size := Nat.ne_of_lt h.b.lt
  have hw0 : w0.heap.size ≤ w.heap.size := h.f.size
  clear h
  go_enter Tryz.func203, Tryz.ntmps203
  go_wp2_with fail
  refine (c_yes H.out hq _ T0 (t.p + 1) rfl).mono ?_
  rintro r w1 ⟨rfl, h1⟩
  clear H
  have H := hide h1
  clear h1
  have B := hide (B0.out.fr H.out.f (fun e => hne e.symm))
  have hfz := B.out.fz
  have z0 := B.out.cell 0
  have z1 := B.out.cell 1
  have z2 := B.out.cell 2
  have z3 := B.out.cell 3
  have z4 := B.out.cell 4
  simp at z0 z1 z2 z3 z4
  have F := hide (J.out.join H.out)
  clear H J B0
  go_wp2
  refine ret_mk rfl rfl (((((B.out.set 0 _).set 1 _).set 2 _).set 3 _).set 4 _) ?_
  exact ⟨⟨_, _, _, _, _, rfl, by first | exact Or.inl rfl | exact Or.inr ⟨_, _, _, rfl⟩⟩, F.out.set5 _ hw0 hne _ _ _ _ _⟩

set_option maxHeartbeats 1000000 in
theorem se_quote {w0 w : World} {g : Nat} {q : ByteArray} {p v : Value} {n : Nat} (hq : q.size ≤ 1000) {t : St} (h : Qt g q p v n w0 t.p w) (T0 : tk q t.p ⟨#[42]⟩ = false) (T1 : tk q t.p ⟨#[39]⟩ = true) :
    Calls Tryz.prog 203 #[.pointer (some ⟨g, 0, none⟩)] w (fun r w' => ∃ k, RunP isQuo q (t.p + 1) k ∧ SeP g q p v n w0 (if tk q k ⟨#[39]⟩ then k + 1 else k) r w') := by
  have J := hide (h.alloc (.cells #[.int .i64 0, .string ⟨#[]⟩, .int .i64 0, .int .i64 0, .nilFunc] 239))
  have H := hide J.out.here
  have B0 := hide (Blk.new w #[.int .i64 0, .string ⟨#[]⟩, .int .i64 0, .int .i64 0, .nilFunc] 239)
  have hne : g ≠ w.heap.size := Nat.ne_of_lt h.b.lt
  have hw0 : w0.heap.size ≤ w.heap.size := h.f.size
  clear h
  go_enter Tryz.func203, Tryz.ntmps203
  go_wp2_with fail
  refine (c_no H.out hq _ T0).mono ?_
  rintro r w1 ⟨rfl, h1⟩
  clear H
  have H := hide h1
  clear h1
  go_wp2_with fail
  refine (c_yes H.out hq _ T1 (t.p + 1) rfl).mono ?_
  rintro r w1 ⟨rfl, h1⟩
  clear H
  have H := hide h1
  clear h1
  go_wp2_with fail
  refine (c_quoted H.out hq).mono ?_
  rintro r w1 ⟨k, hk, rfl, h1⟩
  have HK := hide hk
  clear H hk
  have H := hide h1
  clear h1
  have B := hide (B0.out.fr H.out.f (fun e => hne e.symm))
  have hfz := B.out.fz
  have z0 := B.out.cell 0
  have z1 := B.out.cell 1
  have z2 := B.out.cell 2
  have z3 := B.out.cell 3
  have z4 := B.out.cell 4
  simp at z0 z1 z2 z3 z4
  have F := hide (J.out.join H.out)
  clear H J B0
  go_wp2
  refine ret_mk rfl rfl (((((B.out.set 0 _).set 1 _).set 2 _).set 3 _).set 4 _) ?_
  exact ⟨k, HK.out, ⟨⟨_, _, _, _, _, rfl, by first | exact Or.inl rfl | exact Or.inr ⟨_, _, _, rfl⟩⟩, F.out.set5 _ hw0 hne _ _ _ _ _⟩⟩

set_option maxHeartbeats 1000000 in
theorem se_minus {w0 w : World} {g : Nat} {q : ByteArray} {p v : Value} {n : Nat} (hq : q.size ≤ 1000) {t : St} (h : Qt g q p v n w0 t.p w) (T0 : tk q t.p ⟨#[42]⟩ = false) (T1 : tk q t.p ⟨#[39]⟩ = false) (T2 : tk q t.p ⟨#[45]⟩ = true) (he : Er g w0) (h18 : ∀ k, RunP isDig q (t.p + 1) k → k ≤ t.p + 1 + 18) :
    Calls Tryz.prog 203 #[.pointer (some ⟨g, 0, none⟩)] w (fun r w' => ∃ k, RunP isDig q (t.p + 1) k ∧ SeP g q p v n w0 k r w') := by
  have J := hide (h.alloc (.cells #[.int .i64 0, .string ⟨#[]⟩, .int .i64 0, .int .i64 0, .nilFunc] 239))
  have H := hide J.out.here
  have B0 := hide (Blk.new w #[.int .i64 0, .string ⟨#[]⟩, .int .i64 0, .int .i64 0, .nilFunc] 239)
  have hne : g ≠ w.heap.size := Nat.ne_of_lt h.b.lt
  have hw0 : w0.heap.size ≤ w.heap.size := h.f.size
  clear h
  have HE := hide (he.keep J.out.f)
  have H18 := hide h18
  clear he h18
  go_enter Tryz.func203, Tryz.ntmps203
  go_wp2_with fail
  refine (c_no H.out hq _ T0).mono ?_
  rintro r w1 ⟨rfl, h1⟩
  clear H
  have H := hide h1
  clear h1
  go_wp2_with fail
  refine (c_no H.out hq _ T1).mono ?_
  rintro r w1 ⟨rfl, h1⟩
  clear H
  have H := hide h1
  clear h1
  go_wp2_with fail
  refine (c_yes H.out hq _ T2 (t.p + 1) rfl).mono ?_
  rintro r w1 ⟨rfl, h1⟩
  clear H
  have H := hide h1
  clear h1
  go_wp2_with fail
  refine (k_count H.out hq HE.out H18.out _).mono ?_
  rintro r w1 ⟨k, m, hk, rfl, h1⟩
  have HK := hide hk
  clear H hk
  have H := hide h1
  clear h1
  have B := hide (B0.out.fr H.out.f (fun e => hne e.symm))
  have hfz := B.out.fz
  have z0 := B.out.cell 0
  have z1 := B.out.cell 1
  have z2 := B.out.cell 2
  have z3 := B.out.cell 3
  have z4 := B.out.cell 4
  simp at z0 z1 z2 z3 z4
  have F := hide (J.out.join H.out)
  clear H J B0
  go_wp2
  refine ret_mk rfl rfl (((((B.out.set 0 _).set 1 _).set 2 _).set 3 _).set 4 _) ?_
  exact ⟨k, HK.out, ⟨⟨_, _, _, _, _, rfl, by first | exact Or.inl rfl | exact Or.inr ⟨_, _, _, rfl⟩⟩, F.out.set5 _ hw0 hne _ _ _ _ _⟩⟩

set_option maxHeartbeats 1000000 in
theorem se_where {w0 w : World} {g : Nat} {q : ByteArray} {p v : Value} {n : Nat} (hq : q.size ≤ 1000) {t : St} (h : Qt g q p v n w0 t.p w) (T0 : tk q t.p ⟨#[42]⟩ = false) (T1 : tk q t.p ⟨#[39]⟩ = false) (T2 : tk q t.p ⟨#[45]⟩ = false) (T3 : tk q t.p ⟨#[63]⟩ = true) (hf : FinP (bs q)) (he : Er g w0) {q0 c d : Nat} (hok : Live (bs q) q0 c 10 [] d (adv t)) :
    Calls Tryz.prog 203 #[.pointer (some ⟨g, 0, none⟩)] w (fun r w' => ∃ t', Live (bs q) q0 c 18 [] d t' ∧ (bt (bs q) t'.p ≠ 38 ∧ bt (bs q) t'.p ≠ 124) ∧ SeP g q p v n w0 t'.p r w') := by
  have J := hide (h.alloc (.cells #[.int .i64 0, .string ⟨#[]⟩, .int .i64 0, .int .i64 0, .nilFunc] 239))
  have H := hide J.out.here
  have B0 := hide (Blk.new w #[.int .i64 0, .string ⟨#[]⟩, .int .i64 0, .int .i64 0, .nilFunc] 239)
  have hne : g ≠ w.heap.size := Nat.ne_of_lt h.b.lt
  have hw0 : w0.heap.size ≤ w.heap.size := h.f.size
  clear h
  have HE := hide (he.keep J.out.f)
  have HF := hide hf
  have L := hide hok
  clear he hf hok
  go_enter Tryz.func203, Tryz.ntmps203
  go_wp2_with fail
  refine (c_no H.out hq _ T0).mono ?_
  rintro r w1 ⟨rfl, h1⟩
  clear H
  have H := hide h1
  clear h1
  go_wp2_with fail
  refine (c_no H.out hq _ T1).mono ?_
  rintro r w1 ⟨rfl, h1⟩
  clear H
  have H := hide h1
  clear h1
  go_wp2_with fail
  refine (c_no H.out hq _ T2).mono ?_
  rintro r w1 ⟨rfl, h1⟩
  clear H
  have H := hide h1
  clear h1
  go_wp2_with fail
  refine (c_yes H.out hq _ T3 (t.p + 1) rfl).mono ?_
  rintro r w1 ⟨rfl, h1⟩
  clear H
  have H := hide h1
  clear h1
  go_wp2_with fail
  refine (k_cond (t := adv t) hq HF.out HE.out L.out H.out).mono ?_
  rintro r w1 ⟨t2, hl, hn, ⟨f2, x2, y2, rfl⟩, h1⟩
  have L2 := hide hl
  have N2 := hide hn
  clear H hl hn
  have H := hide h1
  clear h1
  have B := hide (B0.out.fr H.out.f (fun e => hne e.symm))
  have hfz := B.out.fz
  have z0 := B.out.cell 0
  have z1 := B.out.cell 1
  have z2 := B.out.cell 2
  have z3 := B.out.cell 3
  have z4 := B.out.cell 4
  simp at z0 z1 z2 z3 z4
  have F := hide (J.out.join H.out)
  clear H J B0
  go_wp2
  refine ret_mk rfl rfl (((((B.out.set 0 _).set 1 _).set 2 _).set 3 _).set 4 _) ?_
  exact ⟨t2, L2.out, ⟨N2.out 38 (by simp), N2.out 124 (by simp)⟩, ⟨⟨_, _, _, _, _, rfl, by first | exact Or.inl rfl | exact Or.inr ⟨_, _, _, rfl⟩⟩, F.out.set5 _ hw0 hne _ _ _ _ _⟩⟩

set_option maxHeartbeats 1000000 in
theorem se_one {w0 w : World} {g : Nat} {q : ByteArray} {p v : Value} {n : Nat} (hq : q.size ≤ 1000) {t : St} (h : Qt g q p v n w0 t.p w) (T0 : tk q t.p ⟨#[42]⟩ = false) (T1 : tk q t.p ⟨#[39]⟩ = false) (T2 : tk q t.p ⟨#[45]⟩ = false) (T3 : tk q t.p ⟨#[63]⟩ = false) (he : Er g w0) {a : Nat} (ha : ∀ k, RunP isDig q t.p k → k = a) (h18 : ∀ k, RunP isDig q t.p k → k ≤ t.p + 18) (T5 : tk q a ⟨#[58]⟩ = false) :
    Calls Tryz.prog 203 #[.pointer (some ⟨g, 0, none⟩)] w (SeP g q p v n w0 a) := by
  have J := hide (h.alloc (.cells #[.int .i64 0, .string ⟨#[]⟩, .int .i64 0, .int .i64 0, .nilFunc] 239))
  have H := hide J.out.here
  have B0 := hide (Blk.new w #[.int .i64 0, .string ⟨#[]⟩, .int .i64 0, .int .i64 0, .nilFunc] 239)
  have hne : g ≠ w.heap.size := Nat.ne_of_lt h.b.lt
  have hw0 : w0.heap.size ≤ w.heap.size := h.f.size
  clear h
  have HE := hide (he.keep J.out.f)
  have H18 := hide h18
  clear he h18
  have HA := hide ha
  clear ha
  go_enter Tryz.func203, Tryz.ntmps203
  go_wp2_with fail
  refine (c_no H.out hq _ T0).mono ?_
  rintro r w1 ⟨rfl, h1⟩
  clear H
  have H := hide h1
  clear h1
  go_wp2_with fail
  refine (c_no H.out hq _ T1).mono ?_
  rintro r w1 ⟨rfl, h1⟩
  clear H
  have H := hide h1
  clear h1
  go_wp2_with fail
  refine (c_no H.out hq _ T2).mono ?_
  rintro r w1 ⟨rfl, h1⟩
  clear H
  have H := hide h1
  clear h1
  go_wp2_with fail
  refine (c_no H.out hq _ T3).mono ?_
  rintro r w1 ⟨rfl, h1⟩
  clear H
  have H := hide h1
  clear h1
  go_wp2_with fail
  refine (k_count H.out hq HE.out H18.out _).mono ?_
  rintro r w1 ⟨k, m, hk, rfl, h1⟩
  have HK := hide hk
  clear H hk
  have H := hide h1
  clear h1
  obtain rfl := HA.out k HK.out
  go_wp2_with fail
  refine (c_no H.out hq _ T5).mono ?_
  rintro r w1 ⟨rfl, h1⟩
  clear H
  have H := hide h1
  clear h1
  have B := hide (B0.out.fr H.out.f (fun e => hne e.symm))
  have hfz := B.out.fz
  have z0 := B.out.cell 0
  have z1 := B.out.cell 1
  have z2 := B.out.cell 2
  have z3 := B.out.cell 3
  have z4 := B.out.cell 4
  simp at z0 z1 z2 z3 z4
  have F := hide (J.out.join H.out)
  clear H J B0
  go_wp2
  refine ret_mk rfl rfl (((((B.out.set 0 _).set 1 _).set 2 _).set 3 _).set 4 _) ?_
  exact ⟨⟨_, _, _, _, _, rfl, by first | exact Or.inl rfl | exact Or.inr ⟨_, _, _, rfl⟩⟩, F.out.set5 _ hw0 hne _ _ _ _ _⟩

set_option maxHeartbeats 1000000 in
theorem se_two {w0 w : World} {g : Nat} {q : ByteArray} {p v : Value} {n : Nat} (hq : q.size ≤ 1000) {t : St} (h : Qt g q p v n w0 t.p w) (T0 : tk q t.p ⟨#[42]⟩ = false) (T1 : tk q t.p ⟨#[39]⟩ = false) (T2 : tk q t.p ⟨#[45]⟩ = false) (T3 : tk q t.p ⟨#[63]⟩ = false) (he : Er g w0) {a : Nat} (ha : ∀ k, RunP isDig q t.p k → k = a) (h18 : ∀ k, RunP isDig q t.p k → k ≤ t.p + 18) (T5 : tk q a ⟨#[58]⟩ = true) (h19 : ∀ k, RunP isDig q (a + 1) k → k ≤ a + 1 + 18) :
    Calls Tryz.prog 203 #[.pointer (some ⟨g, 0, none⟩)] w (fun r w' => ∃ k, RunP isDig q (a + 1) k ∧ SeP g q p v n w0 k r w') := by
  have J := hide (h.alloc (.cells #[.int .i64 0, .string ⟨#[]⟩, .int .i64 0, .int .i64 0, .nilFunc] 239))
  have H := hide J.out.here
  have B0 := hide (Blk.new w #[.int .i64 0, .string ⟨#[]⟩, .int .i64 0, .int .i64 0, .nilFunc] 239)
  have hne : g ≠ w.heap.size := Nat.ne_of_lt h.b.lt
  have hw0 : w0.heap.size ≤ w.heap.size := h.f.size
  clear h
  have HE := hide (he.keep J.out.f)
  have H18 := hide h18
  clear he h18
  have HA := hide ha
  have H19 := hide h19
  clear ha h19
  go_enter Tryz.func203, Tryz.ntmps203
  go_wp2_with fail
  refine (c_no H.out hq _ T0).mono ?_
  rintro r w1 ⟨rfl, h1⟩
  clear H
  have H := hide h1
  clear h1
  go_wp2_with fail
  refine (c_no H.out hq _ T1).mono ?_
  rintro r w1 ⟨rfl, h1⟩
  clear H
  have H := hide h1
  clear h1
  go_wp2_with fail
  refine (c_no H.out hq _ T2).mono ?_
  rintro r w1 ⟨rfl, h1⟩
  clear H
  have H := hide h1
  clear h1
  go_wp2_with fail
  refine (c_no H.out hq _ T3).mono ?_
  rintro r w1 ⟨rfl, h1⟩
  clear H
  have H := hide h1
  clear h1
  go_wp2_with fail
  refine (k_count H.out hq HE.out H18.out _).mono ?_
  rintro r w1 ⟨k, m, hk, rfl, h1⟩
  have HK := hide hk
  clear H hk
  have H := hide h1
  clear h1
  obtain rfl := HA.out k HK.out
  go_wp2_with fail
  refine (c_yes H.out hq _ T5 (k + 1) rfl).mono ?_
  rintro r w1 ⟨rfl, h1⟩
  clear H
  have H := hide h1
  clear h1
  go_wp2_with fail
  refine (k_count H.out hq HE.out H19.out _).mono ?_
  rintro r w1 ⟨k2, m2, hk, rfl, h1⟩
  have HK2 := hide hk
  clear H hk
  have H := hide h1
  clear h1
  have B := hide (B0.out.fr H.out.f (fun e => hne e.symm))
  have hfz := B.out.fz
  have z0 := B.out.cell 0
  have z1 := B.out.cell 1
  have z2 := B.out.cell 2
  have z3 := B.out.cell 3
  have z4 := B.out.cell 4
  simp at z0 z1 z2 z3 z4
  have F := hide (J.out.join H.out)
  clear H J B0
  go_wp2
  refine ret_mk rfl rfl (((((B.out.set 0 _).set 1 _).set 2 _).set 3 _).set 4 _) ?_
  exact ⟨k2, HK2.out, ⟨⟨_, _, _, _, _, rfl, by first | exact Or.inl rfl | exact Or.inr ⟨_, _, _, rfl⟩⟩, F.out.set5 _ hw0 hne _ _ _ _ _⟩⟩

theorem run_none {ok : Nat → Bool} {q : ByteArray} {a k : Nat} (h : RunP ok q a k) (hn : ok (bt (bs q) a) = false) : k = a := by
  rcases Nat.lt_or_ge a k with x | x
  · rw [h.all a (Nat.le_refl _) x] at hn; cases hn
  · have := h.ge; omega

/-- A selector, against the machine. -/
def SeM (g : Nat) (q : ByteArray) (p v : Value) (n : Nat) (w0 : World) (q0 c : Nat) (r : Ending) (w' : World) : Prop := ∃ t', Live (bs q) q0 c 9 [] 0 t' ∧ SeP g q p v n w0 t'.p r w'

theorem k_selector {w0 w : World} {g : Nat} {q : ByteArray} {p v : Value} {n : Nat} (hq : q.size ≤ 1000) (hf : FinP (bs q)) (he : Er g w0) {q0 c : Nat} {t : St} (hok : Live (bs q) q0 c 6 [] 0 t) (h : Qt g q p v n w0 t.p w) :
    Calls Tryz.prog 203 #[.pointer (some ⟨g, 0, none⟩)] w (SeM g q p v n w0 q0 c) := by
  have e0 := hok.e0
  by_cases h1 : sees (bs q) t 42 = true
  · exact (se_star hq h ((tk1 q e0 42).trans h1)).mono (fun r w' hr => ⟨adv t, fin_live hf (sel_star (Or.inl hok) h1), hr⟩)
  have h1 : sees (bs q) t 42 = false := by simpa using h1
  have T0 := tk_ne (sign := ⟨#[42]⟩) e0 rfl h1
  by_cases h2 : sees (bs q) t 39 = true
  · have a1 := fin_live hf (sel_quote (Or.inl hok) h2)
    have e1 : must1 (bs q) t 39 = adv t := by unfold must1; rw [if_pos h2]
    unfold quoteP at a1
    rw [e1] at a1
    refine (se_quote hq h T0 ((tk1 q e0 39).trans h2)).mono ?_
    rintro r w' ⟨k, hk, hr⟩
    obtain ⟨b1, b2⟩ := quote_eq (t := adv t) a1.e0 hk
    rw [b2, if_pos rfl] at hr
    rw [b1] at a1
    exact ⟨_, a1, hr⟩
  have h2 : sees (bs q) t 39 = false := by simpa using h2
  have T1 := tk_ne (sign := ⟨#[39]⟩) e0 rfl h2
  by_cases h3 : sees (bs q) t 45 = true
  · have a1 := fin_live hf (sel_minus (Or.inl hok) h3)
    unfold countP minusP at a1
    simp only [if_true, Bool.true_and] at a1
    have e1 : has (bs q) t 45 = adv t := by unfold has; rw [if_pos h3]
    rw [e1] at a1
    refine (se_minus hq h T0 T1 ((tk1 q e0 45).trans h3) he (fun k hk => ?_)).mono ?_
    · have := (cnt_eq hf (t := adv t) e0 a1 (Or.inr (Or.inl rfl)) hk).2
      simp only [adv] at this
      omega
    · rintro r w' ⟨k, hk, hr⟩
      rw [(cnt_eq hf (t := adv t) e0 a1 (Or.inr (Or.inl rfl)) hk).1] at a1
      exact ⟨_, a1, hr⟩
  have h3 : sees (bs q) t 45 = false := by simpa using h3
  have T2 := tk_ne (sign := ⟨#[45]⟩) e0 rfl h3
  by_cases h4 : sees (bs q) t 63 = true
  · have a1 := fin_live hf (sel_where (Or.inl hok) h4)
    refine (se_where hq h T0 T1 T2 ((tk1 q e0 63).trans h4) hf he a1).mono ?_
    rintro r w' ⟨t2, hl, hn, hr⟩
    exact ⟨t2, fin_live hf (ok_where (Or.inl hl) (fun _ => hn)), hr⟩
  have h4 : sees (bs q) t 63 = false := by simpa using h4
  have T3 := tk_ne (sign := ⟨#[63]⟩) e0 rfl h4
  -- a place, or the piece from it on
  have rest : ∀ (t1 : St), t1.e = 0 → (∀ k, RunP isDig q t.p k → k = t1.p) → t1.p ≤ t.p + 3 → (sees (bs q) t1 58 = true → Live (bs q) q0 c 8 [] 0 { t1 with p := t1.p + 1 }) → (sees (bs q) t1 58 = false → Live (bs q) q0 c 9 [] 0 t1) →
      Calls Tryz.prog 203 #[.pointer (some ⟨g, 0, none⟩)] w (SeM g q p v n w0 q0 c) := by
    intro t1 e1 hk1 hle ha hb
    by_cases h6 : sees (bs q) t1 58 = true
    · have a1 := ha h6
      have T5 : tk q t1.p ⟨#[58]⟩ = true := (tk1 q e1 58).trans h6
      by_cases h7 : digit (bs q) { t1 with p := t1.p + 1 } = true
      · have a2 := fin_live hf (sel_to (Or.inl a1) h7)
        unfold countP minusP at a2
        simp only [Bool.false_and] at a2
        rw [if_neg (by decide)] at a2
        refine (se_two hq h T0 T1 T2 T3 he hk1 (fun k hk => by have := hk1 k hk; omega) T5 (fun k hk => ?_)).mono ?_
        · have := (cnt_eq hf (t := { t1 with p := t1.p + 1 }) e1 a2 (Or.inr (Or.inl rfl)) hk).2
          simp only at this
          omega
        · rintro r w' ⟨k, hk, hr⟩
          rw [(cnt_eq hf (t := { t1 with p := t1.p + 1 }) e1 a2 (Or.inr (Or.inl rfl)) hk).1] at a2
          exact ⟨_, a2, hr⟩
      · have h7 : digit (bs q) { t1 with p := t1.p + 1 } = false := by simpa using h7
        have a2 := fin_live hf (sel_noto (Or.inl a1) h7)
        have hd : isDig (bt (bs q) (t1.p + 1)) = false := by simpa [digit, e1] using h7
        refine (se_two hq h T0 T1 T2 T3 he hk1 (fun k hk => by have := hk1 k hk; omega) T5 (fun k hk => ?_)).mono ?_
        · have := run_none hk hd; omega
        · rintro r w' ⟨k, hk, hr⟩
          rw [run_none hk hd] at hr
          exact ⟨_, a2, hr⟩
    · have h6 : sees (bs q) t1 58 = false := by simpa using h6
      have T5 := tk_ne (sign := ⟨#[58]⟩) e1 rfl h6
      exact (se_one hq h T0 T1 T2 T3 he hk1 (fun k hk => by have := hk1 k hk; omega) T5).mono (fun r w' hr => ⟨t1, hb h6, hr⟩)
  have colon : ∀ (t1 : St) (X : Nat), X = 6 ∨ X = 7 → Live (bs q) q0 c X [] 0 t1 → sees (bs q) t1 58 = true → Live (bs q) q0 c 8 [] 0 { t1 with p := t1.p + 1 } := by
    intro t1 X hX hl hs
    have a1 := fin_live hf (sel_colon hX (Or.inl hl) hs)
    obtain ⟨_, e2⟩ := tk_must (sign := ⟨#[58]⟩) a1.e0
    rw [show [58] = nb ⟨#[58]⟩ from rfl, e2] at a1
    exact a1
  by_cases h5 : sees (bs q) t 58 = true
  · have hd : isDig (bt (bs q) t.p) = false := by rw [(sees_e h5).2]; decide
    exact rest t e0 (fun k hk => run_none hk hd) (by omega) (fun hs => colon t 6 (Or.inl rfl) hok hs) (fun hs => by rw [h5] at hs; cases hs)
  have h5 : sees (bs q) t 58 = false := by simpa using h5
  have a1 := fin_live hf (sel_count (Or.inl hok) h1 h2 h4 h3 h5)
  unfold countP minusP at a1
  simp only [if_true, Bool.true_and] at a1
  have e1 : has (bs q) t 45 = t := by unfold has; rw [if_neg (by rw [h3]; decide)]
  rw [e1] at a1
  have hle : (countQ (bs q) t (sees (bs q) t 45)).p ≤ t.p + 3 := by
    unfold countQ
    split
    · unfold wrong; split <;> simp
    · split
      · simp [adv]
      · unfold runP
        split
        · exact run_le _ _ _ _
        · omega
  refine rest _ a1.e0 (fun k hk => ?_) hle (fun hs => colon _ 7 (Or.inr rfl) a1 hs) (fun hs => fin_live hf (sel_nocolon (Or.inl a1) hs))
  have := (cnt_eq hf e0 a1 (Or.inl rfl) hk).1
  rw [this]

end Go.Proofs.YtcbadebjpogmlaaGreatDoor
