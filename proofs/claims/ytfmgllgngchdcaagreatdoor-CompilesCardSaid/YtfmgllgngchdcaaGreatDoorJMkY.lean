/- The program's maker against the plain machine: a segment. -/
import Derived.Test.YtfmgllgngchdcaaGreatDoorJMkV
import Derived.Test.YtfmgllgngchdcaaGreatDoorJa
import Derived.Test.YtfmgllgngchdcaaGreatDoorJRefK
namespace Go.Proofs.YtfmgllgngchdcaaGreatDoor
open Go.RowKit Tr

/-- What is kept beside the maker's own blocks: what lay ahead of it, and whatever is no row of bytes. -/
structure FU (g : Nat) (w w' : World) : Prop where
  os : w'.os = w.os
  tape : w'.tape = w.tape
  output : w'.output = w.output
  size : w.heap.size ≤ w'.heap.size
  low : ∀ k, k < g → k < w.heap.size → w'.heap[k]? = w.heap[k]?
  typ : ∀ k cs T fz, k ≠ g → T ≠ 5 → w.heap[k]? = some (.cells cs T fz) → w'.heap[k]? = w.heap[k]?
theorem FU.trans {g : Nat} {a b c : World} (h : FU g a b) (k : FU g b c) : FU g a c :=
  ⟨k.os.trans h.os, k.tape.trans h.tape, k.output.trans h.output, Nat.le_trans h.size k.size, fun i hi hs => (k.low i hi (Nat.lt_of_lt_of_le hs h.size)).trans (h.low i hi hs),
    fun i cs T fz hi hT hc => (k.typ i cs T fz hi hT ((h.typ i cs T fz hi hT hc).trans hc)).trans (h.typ i cs T fz hi hT hc)⟩
theorem FU.refl (g : Nat) (w : World) : FU g w w := ⟨rfl, rfl, rfl, Nat.le_refl _, fun _ _ _ => rfl, fun _ _ _ _ _ _ _ => rfl⟩
theorem FU.of {g : Nat} {q : ByteArray} {a : Nat} {t : List UInt8} {n : Nat} {p v : Value} {w w' : World} (h : Mk g q a t n p v w) (f : Fr (KG g v) w w') : FU g w w' := by
  refine ⟨f.os, f.tape, f.output, f.size, fun k hk hs => f.block k hs ?_, fun k cs T fz hk hT hc => f.block k (lt_of_some hc) ?_⟩
  · rintro (e | e)
    · omega
    · have := (h.row.lt k e).1; omega
  · rintro (e | e)
    · exact hk e
    · rcases h.row.2 with ⟨x, _⟩ | ⟨k2, cap, cur, x1, _, x3, _⟩
      · rw [x] at e; cases e
      · rw [x1] at e
        have ek : k2 = k := Option.some.inj e
        subst ek
        rw [x3] at hc
        injection hc with hc
        injection hc with _ h2 _
        exact hT h2.symm
theorem FU.of_own {g : Nat} {w w' : World} (f : Fr (fun k => k = g) w w') : FU g w w' :=
  ⟨f.os, f.tape, f.output, f.size, fun k hk hs => f.block k hs (by omega), fun k _ _ _ hk _ hc => f.block k (lt_of_some hc) hk⟩
theorem FU.of_below {g : Nat} {w w' : World} (f : Below w.heap.size w w') : FU g w w' := FU.of_own (Fr.of_below f)
theorem FU.drewN {g : Nat} {a w : World} (h : FU g a w) (n : Nat) : FU g a (w.drewN n) := ⟨h.os, h.tape, h.output, h.size, h.low, h.typ⟩
theorem own_fu {g : Nat} {w w' : World} {base : Nat} {e : TypeId} {sz : Nat} {v : Value} {n : Nat} {xs : List Value} (h : w.ownsRow base e sz v n xs) (f : FU g w w') (he : e ≠ 5) (hg : g < base) : w'.ownsRow base e sz v n xs := by
  refine ⟨h.1, ?_⟩
  rcases h.2 with x | ⟨k, cap, cur, h1, h2, h3, h4⟩
  · exact Or.inl x
  · exact Or.inr ⟨k, cap, cur, h1, h2, (f.typ k cur e (0, 0) (by omega) he h3).trans h3, h4⟩
theorem Er.fu {g : Nat} {w w' : World} (h : Er g w) (f : FU g w w') (hG : 6 < g) : Er g w' := by
  obtain ⟨⟨ev, h1, h2⟩, h3, h4⟩ := h
  exact ⟨⟨ev, (World.cell?_of_block (w := w) (a := ⟨6, 0, none⟩) (f.low _ hG h4)).trans h1, h2⟩, h3, Nat.lt_of_lt_of_le h4 f.size⟩

/-- Behind a segment. -/
def SegQ (g : Nat) (q : ByteArray) (a : Nat) (w : World) (r : Ending) (w' : World) : Prop :=
  ∃ (t' : St) (n' : Nat) (txt' : List UInt8) (p' v' : Value), Bnd (bs q) n' txt' t' ∧ a < t'.p ∧ (∃ f x y, r = .returned (.func f x y)) ∧ Mk g q t'.p txt' n' p' v' w' ∧ FU g w w'

theorem Bnd.few {s : List UInt8} {c : Nat} {acc : List UInt8} {t : St} (h : Bnd s c acc t) : c ≤ t.p := by
  have := C_le s t.p
  have := h.ct
  omega
theorem tk2_no {q : ByteArray} {a : Nat} (h : bt (bs q) a ≠ 46 ∨ bt (bs q) (a + 1) ≠ 46) : tk q a ⟨#[46, 46]⟩ = false := by
  rw [tk_pfx]
  show (bt (bs q) a == 46 && (bt (bs q) (a + 1) == 46 && true)) = false
  rcases h with h | h <;> simp [h]
theorem tk2_yes {q : ByteArray} {a : Nat} (h : bt (bs q) a = 46) (h' : bt (bs q) (a + 1) = 46) : tk q a ⟨#[46, 46]⟩ = true := by
  rw [tk_pfx]
  show (bt (bs q) a == 46 && (bt (bs q) (a + 1) == 46 && true)) = true
  simp [h, h']

/-- Behind a word. -/
structure WdB (s : List UInt8) (c : Nat) (acc : List UInt8) (t : St) : Prop where
  e0' : t.e = 0
  b : Bnd s c (acc ++ ([91, 39] ++ sub s t.p (wordP s t).p ++ [39, 93])) (wordP s t)
theorem WdB.e0 {s : List UInt8} {c : Nat} {acc : List UInt8} {t : St} (h : WdB s c acc t) : (wordP s t).e = 0 := h.b.e0

set_option maxHeartbeats 2000000 in
set_option maxRecDepth 100000 in
theorem sg_br {w : World} {g : Nat} {q : ByteArray} {txt : List UInt8} {n : Nat} {p v : Value} (hq : q.size ≤ 1000) (hf : FinP (bs q)) (he : Er g w) (hG : 6 < g) {t : St} (h : Mk g q t.p txt n p v w) (hn : n ≤ t.p) (hl : txt.length ≤ 3 * t.p + 2)
    (T2 : tk q t.p ⟨#[46, 46]⟩ = false) (T91 : tk q t.p ⟨#[91]⟩ = true) (B91 : Hid (bt (bs q) t.p = 91)) (TX : Hid (T (bs q) (t.p + 1) = txt ++ [91])) (LV : Hid (Live (bs q) (t.p + 1) (n + 1) 6 [] 0 { t with p := t.p + 1 })) :
    Calls Tryz.prog 56 #[.pointer (some ⟨g, 0, none⟩)] w (SegQ g q t.p w) := by
  have HE := hide he
  have HF := hide hf
  have MM := hide h
  have htq0 := h.le
  clear h he hf
  go_enter Tryz.func56, Tryz.ntmps56
  go_wp2_with fail
  refine (c_no MM.out.qt hq _ T2).mono ?_
  rintro r w2 ⟨rfl, h1⟩
  have M2 : Hid (Mk g q t.p txt n p v w2) := MM.out.step h1
  have F2 : Hid (FU g w w2) := FU.of_own h1.f
  clear h1 MM
  have d0 : w2.cell? ⟨g, 0, none⟩ = some (.string q) := M2.out.b.cell 0
  have d1 : w2.cell? ⟨g, 1, none⟩ = some (.int .i64 ((t.p : Nat) : Int)) := M2.out.b.cell 1
  have e1 : ((t.p : Nat) : Int) ≤ (q.size : Int) := by have := M2.out.le; omega
  try simp at d1 e1
  go_wp2_with fail
  go_quiet ((go_at_call 82; exact Calls.quiet_of_same (c_hasPrefix _ _)))
  try rw [show ((t.p : Int) + 2).toNat = t.p + 2 by omega]
  rw [tk_ext, T91]
  have M3 : Hid (Mk g q (t.p) (txt) n p v (w2.drewN nq)) := ⟨M2.out.b, M2.out.o, M2.out.row, M2.out.le⟩
  have F3 : Hid (FU g w (w2.drewN nq)) := F2.out.drewN nq
  have E3 : Hid (Er g (w2.drewN nq)) := HE.out.fu F3.out hG
  clear M2 F2 d0 d1 e1
  generalize w2.drewN nq = w3 at *
  go_wp2_with fail
  refine (k_bracketed (t := t) hq HF.out E3.out M3.out (by omega) T91 LV.out).mono ?_
  rintro r w4 ⟨t4, j4, sv4, p4, v4, l4, hbnd, hlt, hj4, rfl, hrow, hM4, hF4⟩
  obtain ⟨ao, cp, rfl⟩ := own_slice hrow
  have hlt4 : t.p < t4.p := hlt
  have B4 : Hid (Bnd (bs q) (n + j4) (txt ++ sub (bs q) (t.p) t4.p) t4) := by
    have hb2 : Bnd (bs q) (n + j4) (T (bs q) (t.p + 1) ++ sub (bs q) (t.p + 1) t4.p) t4 := hbnd
    rw [show T (bs q) (t.p + 1) = txt ++ [91] from TX.out] at hb2
    rw [sub_cons (b := 91) B91.out hlt4]
    show Bnd _ _ _ _
    simpa [List.append_assoc] using hb2
  have F4 : Hid (FU g w w4) := F3.out.trans (FU.of M3.out hF4)
  have R4 := hide hrow
  have M4 := hide hM4
  have hg3 : g < w3.heap.size := M3.out.b.lt
  clear hbnd hlt hrow hM4 hF4 M3 F3 E3
  go_wp2_with fail
  refine (k_segmentOf M4.out (by omega) false R4.out hg3 (by omega)).mono ?_
  rintro r w5 ⟨⟨f5, x5, y5, rfl⟩, h5, k5⟩
  have F5 : Hid (FU g w w5) := F4.out.trans (FU.of_own k5)
  have M5 := hide h5
  clear h5 k5
  go_wp2
  go_ret
  exact ⟨t4, n + j4, _, p4, v4, B4.out, by omega, ⟨_, _, _, rfl⟩, M5.out, F5.out⟩

set_option maxHeartbeats 2000000 in
set_option maxRecDepth 100000 in
theorem sg_star {w : World} {g : Nat} {q : ByteArray} {txt : List UInt8} {n : Nat} {p v : Value} (hq : q.size ≤ 1000) (hf : FinP (bs q)) (he : Er g w) (hG : 6 < g) {t : St} (h : Mk g q t.p txt n p v w) (hn : n ≤ t.p) (hl : txt.length ≤ 3 * t.p + 2)
    (T2 : tk q t.p ⟨#[46, 46]⟩ = false) (T91 : tk q t.p ⟨#[91]⟩ = false) (T46 : tk q t.p ⟨#[46]⟩ = true) (T42 : tk q (t.p + 1) ⟨#[42]⟩ = true) (BB : Hid (Bnd (bs q) (n + 1) (txt ++ [91, 42, 93]) (adv (adv t)))) :
    Calls Tryz.prog 56 #[.pointer (some ⟨g, 0, none⟩)] w (SegQ g q t.p w) := by
  have HE := hide he
  have HF := hide hf
  have MM := hide h
  have htq0 := h.le
  clear h he hf
  go_enter Tryz.func56, Tryz.ntmps56
  go_wp2_with fail
  refine (c_no MM.out.qt hq _ T2).mono ?_
  rintro r w2 ⟨rfl, h1⟩
  have M2 : Hid (Mk g q t.p txt n p v w2) := MM.out.step h1
  have F2 : Hid (FU g w w2) := FU.of_own h1.f
  clear h1 MM
  have d0 : w2.cell? ⟨g, 0, none⟩ = some (.string q) := M2.out.b.cell 0
  have d1 : w2.cell? ⟨g, 1, none⟩ = some (.int .i64 ((t.p : Nat) : Int)) := M2.out.b.cell 1
  have e1 : ((t.p : Nat) : Int) ≤ (q.size : Int) := by have := M2.out.le; omega
  try simp at d1 e1
  go_wp2_with fail
  go_quiet ((go_at_call 82; exact Calls.quiet_of_same (c_hasPrefix _ _)))
  try rw [show ((t.p : Int) + 2).toNat = t.p + 2 by omega]
  rw [tk_ext, T91]
  have M3 : Hid (Mk g q (t.p) (txt) n p v (w2.drewN nq)) := ⟨M2.out.b, M2.out.o, M2.out.row, M2.out.le⟩
  have F3 : Hid (FU g w (w2.drewN nq)) := F2.out.drewN nq
  have E3 : Hid (Er g (w2.drewN nq)) := HE.out.fu F3.out hG
  clear M2 F2 d0 d1 e1
  generalize w2.drewN nq = w3 at *
  go_wp2_with fail
  refine (c_yes M3.out.qt hq _ T46 (t.p + 1) rfl).mono ?_
  rintro r w4 ⟨rfl, h4⟩
  have M4 : Hid (Mk g q (t.p + 1) txt n p v w4) := M3.out.step h4
  have F4 : Hid (FU g w w4) := F3.out.trans (FU.of_own h4.f)
  clear h4 M3 F3 E3
  go_wp2_with fail
  refine (ws_star hq M4.out (by omega) T42).mono ?_
  rintro r w5 ⟨⟨k5, nm5, fr5, to5, met5, rfl, hm5⟩, p5, v5, h5, f5⟩
  have M5 := hide h5
  have F5 : Hid (FU g w w5) := F4.out.trans (FU.of M4.out f5)
  clear h5 f5 M4 F4
  have R6 := hide (own_five w5 w5.heap.size ⟨k5, nm5, fr5, to5, met5, hm5⟩ (Nat.le_refl _))
  have M6 := hide (M5.out.alloc (.cells #[.int .i64 k5, .string nm5, .int .i64 fr5, .int .i64 to5, met5] 179))
  have hg5 : g < w5.heap.size := M5.out.b.lt
  have F6 := hide (F5.out.trans (FU.of_below ((Fr.refl (fun _ => False) w5).alloc (.cells #[.int .i64 k5, .string nm5, .int .i64 fr5, .int .i64 to5, met5] 179)).below))
  clear M5 F5
  rcases hm5 with rfl | ⟨f0, x0, y0, rfl⟩
  all_goals
    go_wp2_with fail
    refine (k_segmentOf M6.out (by omega) false R6.out hg5 (by omega)).mono ?_
    rintro r w7 ⟨⟨f7, x7, y7, rfl⟩, h7, k7⟩
    have F7 : Hid (FU g w w7) := F6.out.trans (FU.of_own k7)
    have M7 := hide h7
    clear h7 k7
    go_wp2
    go_ret
    exact ⟨adv (adv t), n + 1, _, p5, v5, BB.out, by show t.p < ((adv t)).p + 1; have : ((adv t)).p = t.p + 1 := rfl; omega, ⟨_, _, _, rfl⟩, M7.out, F7.out⟩

set_option maxHeartbeats 2000000 in
set_option maxRecDepth 100000 in
theorem sg_word {w : World} {g : Nat} {q : ByteArray} {txt : List UInt8} {n : Nat} {p v : Value} (hq : q.size ≤ 1000) (hf : FinP (bs q)) (he : Er g w) (hG : 6 < g) {t : St} (h : Mk g q t.p txt n p v w) (hn : n ≤ t.p) (hl : txt.length ≤ 3 * t.p + 2)
    (T2 : tk q t.p ⟨#[46, 46]⟩ = false) (T91 : tk q t.p ⟨#[91]⟩ = false) (T46 : tk q t.p ⟨#[46]⟩ = true) (T42 : tk q (t.p + 1) ⟨#[42]⟩ = false) (BB : Hid (WdB (bs q) (n + 1) txt (adv t))) :
    Calls Tryz.prog 56 #[.pointer (some ⟨g, 0, none⟩)] w (SegQ g q t.p w) := by
  have HE := hide he
  have HF := hide hf
  have MM := hide h
  have htq0 := h.le
  clear h he hf
  go_enter Tryz.func56, Tryz.ntmps56
  go_wp2_with fail
  refine (c_no MM.out.qt hq _ T2).mono ?_
  rintro r w2 ⟨rfl, h1⟩
  have M2 : Hid (Mk g q t.p txt n p v w2) := MM.out.step h1
  have F2 : Hid (FU g w w2) := FU.of_own h1.f
  clear h1 MM
  have d0 : w2.cell? ⟨g, 0, none⟩ = some (.string q) := M2.out.b.cell 0
  have d1 : w2.cell? ⟨g, 1, none⟩ = some (.int .i64 ((t.p : Nat) : Int)) := M2.out.b.cell 1
  have e1 : ((t.p : Nat) : Int) ≤ (q.size : Int) := by have := M2.out.le; omega
  try simp at d1 e1
  go_wp2_with fail
  go_quiet ((go_at_call 82; exact Calls.quiet_of_same (c_hasPrefix _ _)))
  try rw [show ((t.p : Int) + 2).toNat = t.p + 2 by omega]
  rw [tk_ext, T91]
  have M3 : Hid (Mk g q (t.p) (txt) n p v (w2.drewN nq)) := ⟨M2.out.b, M2.out.o, M2.out.row, M2.out.le⟩
  have F3 : Hid (FU g w (w2.drewN nq)) := F2.out.drewN nq
  have E3 : Hid (Er g (w2.drewN nq)) := HE.out.fu F3.out hG
  clear M2 F2 d0 d1 e1
  generalize w2.drewN nq = w3 at *
  go_wp2_with fail
  refine (c_yes M3.out.qt hq _ T46 (t.p + 1) rfl).mono ?_
  rintro r w4 ⟨rfl, h4⟩
  have M4 : Hid (Mk g q (t.p + 1) txt n p v w4) := M3.out.step h4
  have F4 : Hid (FU g w w4) := F3.out.trans (FU.of_own h4.f)
  clear h4 M3 F3 E3
  go_wp2_with fail
  refine (ws_word hq M4.out (by omega) T42).mono ?_
  rintro r w5 ⟨k, hk, ⟨k5, nm5, fr5, to5, met5, rfl, hm5⟩, p5, v5, h5, f5⟩
  have hke : wordP (bs q) ((adv t)) = { (adv t) with p := k } := word_eq BB.out.e0' BB.out.e0 (bnd_nolet HF.out BB.out.b) hk
  have hkg : t.p + 1 ≤ k := hk.ge
  have B5 : Hid (Bnd (bs q) (n + 1) (txt ++ ([91, 39] ++ sub (bs q) (t.p + 1) k ++ [39, 93])) { (adv t) with p := k }) := by
    have := BB.out.b
    rw [hke] at this
    exact this
  have M5 := hide h5
  have F5 : Hid (FU g w w5) := F4.out.trans (FU.of M4.out f5)
  clear h5 f5 M4 F4 hk hke BB
  have R6 := hide (own_five w5 w5.heap.size ⟨k5, nm5, fr5, to5, met5, hm5⟩ (Nat.le_refl _))
  have M6 := hide (M5.out.alloc (.cells #[.int .i64 k5, .string nm5, .int .i64 fr5, .int .i64 to5, met5] 179))
  have hg5 : g < w5.heap.size := M5.out.b.lt
  have F6 := hide (F5.out.trans (FU.of_below ((Fr.refl (fun _ => False) w5).alloc (.cells #[.int .i64 k5, .string nm5, .int .i64 fr5, .int .i64 to5, met5] 179)).below))
  clear M5 F5
  rcases hm5 with rfl | ⟨f0, x0, y0, rfl⟩
  all_goals
    go_wp2_with fail
    refine (k_segmentOf M6.out (by omega) false R6.out hg5 (by omega)).mono ?_
    rintro r w7 ⟨⟨f7, x7, y7, rfl⟩, h7, k7⟩
    have F7 : Hid (FU g w w7) := F6.out.trans (FU.of_own k7)
    have M7 := hide h7
    clear h7 k7
    go_wp2
    go_ret
    exact ⟨{ (adv t) with p := k }, n + 1, _, p5, v5, B5.out, by show t.p < k; omega, ⟨_, _, _, rfl⟩, M7.out, F7.out⟩

set_option maxHeartbeats 2000000 in
set_option maxRecDepth 100000 in
theorem sg_dbr {w : World} {g : Nat} {q : ByteArray} {txt : List UInt8} {n : Nat} {p v : Value} (hq : q.size ≤ 1000) (hf : FinP (bs q)) (he : Er g w) (hG : 6 < g) {t : St} (h : Mk g q t.p txt n p v w) (hn : n ≤ t.p) (hl : txt.length ≤ 3 * t.p + 2)
    (T2 : tk q t.p ⟨#[46, 46]⟩ = true) (T91 : tk q (t.p + 2) ⟨#[91]⟩ = true) (B91 : Hid (bt (bs q) (t.p + 2) = 91)) (TX : Hid (T (bs q) (t.p + 2 + 1) = (txt ++ [46, 46]) ++ [91])) (LV : Hid (Live (bs q) (t.p + 2 + 1) (n + 1) 6 [] 0 { (adv (adv t)) with p := t.p + 2 + 1 })) :
    Calls Tryz.prog 56 #[.pointer (some ⟨g, 0, none⟩)] w (SegQ g q t.p w) := by
  have HE := hide he
  have HF := hide hf
  have MM := hide h
  have htq0 := h.le
  clear h he hf
  go_enter Tryz.func56, Tryz.ntmps56
  go_wp2_with fail
  refine (c_yes MM.out.qt hq _ T2 (t.p + 2) rfl).mono ?_
  rintro r w1 ⟨rfl, h1⟩
  have M1 := hide (MM.out.step h1)
  have F1 : Hid (FU g w w1) := FU.of_own h1.f
  clear h1 MM
  go_wp2_with fail
  refine (c_write M1.out ⟨#[46, 46]⟩ (by show txt.length + 2 ≤ _; omega)).mono ?_
  rintro r w2 ⟨rfl, p2, v2, h2, f2⟩
  have M2 : Hid (Mk g q (t.p + 2) (txt ++ [46, 46]) n p2 v2 w2) := h2
  have F2 : Hid (FU g w w2) := F1.out.trans (FU.of M1.out f2)
  clear h2 f2 M1 F1
  have d0 : w2.cell? ⟨g, 0, none⟩ = some (.string q) := M2.out.b.cell 0
  have d1 : w2.cell? ⟨g, 1, none⟩ = some (.int .i64 ((t.p + 2 : Nat) : Int)) := M2.out.b.cell 1
  have e1 : ((t.p + 2 : Nat) : Int) ≤ (q.size : Int) := by have := M2.out.le; omega
  try simp at d1 e1
  go_wp2_with fail
  go_quiet ((go_at_call 82; exact Calls.quiet_of_same (c_hasPrefix _ _)))
  try rw [show ((t.p : Int) + 2).toNat = t.p + 2 by omega]
  rw [tk_ext, T91]
  have M3 : Hid (Mk g q (t.p + 2) ((txt ++ [46, 46])) n p2 v2 (w2.drewN nq)) := ⟨M2.out.b, M2.out.o, M2.out.row, M2.out.le⟩
  have F3 : Hid (FU g w (w2.drewN nq)) := F2.out.drewN nq
  have E3 : Hid (Er g (w2.drewN nq)) := HE.out.fu F3.out hG
  clear M2 F2 d0 d1 e1
  generalize w2.drewN nq = w3 at *
  go_wp2_with fail
  refine (k_bracketed (t := (adv (adv t))) hq HF.out E3.out M3.out (by simp; omega) T91 LV.out).mono ?_
  rintro r w4 ⟨t4, j4, sv4, p4, v4, l4, hbnd, hlt, hj4, rfl, hrow, hM4, hF4⟩
  obtain ⟨ao, cp, rfl⟩ := own_slice hrow
  have hlt4 : t.p + 2 < t4.p := hlt
  have B4 : Hid (Bnd (bs q) (n + j4) ((txt ++ [46, 46]) ++ sub (bs q) (t.p + 2) t4.p) t4) := by
    have hb2 : Bnd (bs q) (n + j4) (T (bs q) (t.p + 2 + 1) ++ sub (bs q) (t.p + 2 + 1) t4.p) t4 := hbnd
    rw [show T (bs q) (t.p + 2 + 1) = (txt ++ [46, 46]) ++ [91] from TX.out] at hb2
    rw [sub_cons (b := 91) B91.out hlt4]
    show Bnd _ _ _ _
    simpa [List.append_assoc] using hb2
  have F4 : Hid (FU g w w4) := F3.out.trans (FU.of M3.out hF4)
  have R4 := hide hrow
  have M4 := hide hM4
  have hg3 : g < w3.heap.size := M3.out.b.lt
  clear hbnd hlt hrow hM4 hF4 M3 F3 E3
  go_wp2_with fail
  refine (k_segmentOf M4.out (by omega) true R4.out hg3 (by omega)).mono ?_
  rintro r w5 ⟨⟨f5, x5, y5, rfl⟩, h5, k5⟩
  have F5 : Hid (FU g w w5) := F4.out.trans (FU.of_own k5)
  have M5 := hide h5
  clear h5 k5
  go_wp2
  go_ret
  exact ⟨t4, n + j4, _, p4, v4, B4.out, by omega, ⟨_, _, _, rfl⟩, M5.out, F5.out⟩

set_option maxHeartbeats 2000000 in
set_option maxRecDepth 100000 in
theorem sg_dstar {w : World} {g : Nat} {q : ByteArray} {txt : List UInt8} {n : Nat} {p v : Value} (hq : q.size ≤ 1000) (hf : FinP (bs q)) (he : Er g w) (hG : 6 < g) {t : St} (h : Mk g q t.p txt n p v w) (hn : n ≤ t.p) (hl : txt.length ≤ 3 * t.p + 2)
    (T2 : tk q t.p ⟨#[46, 46]⟩ = true) (T91 : tk q (t.p + 2) ⟨#[91]⟩ = false) (T46 : tk q (t.p + 2) ⟨#[46]⟩ = false) (T42 : tk q (t.p + 2) ⟨#[42]⟩ = true) (BB : Hid (Bnd (bs q) (n + 1) ((txt ++ [46, 46]) ++ [91, 42, 93]) (adv (adv (adv t))))) :
    Calls Tryz.prog 56 #[.pointer (some ⟨g, 0, none⟩)] w (SegQ g q t.p w) := by
  have HE := hide he
  have HF := hide hf
  have MM := hide h
  have htq0 := h.le
  clear h he hf
  go_enter Tryz.func56, Tryz.ntmps56
  go_wp2_with fail
  refine (c_yes MM.out.qt hq _ T2 (t.p + 2) rfl).mono ?_
  rintro r w1 ⟨rfl, h1⟩
  have M1 := hide (MM.out.step h1)
  have F1 : Hid (FU g w w1) := FU.of_own h1.f
  clear h1 MM
  go_wp2_with fail
  refine (c_write M1.out ⟨#[46, 46]⟩ (by show txt.length + 2 ≤ _; omega)).mono ?_
  rintro r w2 ⟨rfl, p2, v2, h2, f2⟩
  have M2 : Hid (Mk g q (t.p + 2) (txt ++ [46, 46]) n p2 v2 w2) := h2
  have F2 : Hid (FU g w w2) := F1.out.trans (FU.of M1.out f2)
  clear h2 f2 M1 F1
  have d0 : w2.cell? ⟨g, 0, none⟩ = some (.string q) := M2.out.b.cell 0
  have d1 : w2.cell? ⟨g, 1, none⟩ = some (.int .i64 ((t.p + 2 : Nat) : Int)) := M2.out.b.cell 1
  have e1 : ((t.p + 2 : Nat) : Int) ≤ (q.size : Int) := by have := M2.out.le; omega
  try simp at d1 e1
  go_wp2_with fail
  go_quiet ((go_at_call 82; exact Calls.quiet_of_same (c_hasPrefix _ _)))
  try rw [show ((t.p : Int) + 2).toNat = t.p + 2 by omega]
  rw [tk_ext, T91]
  have M3 : Hid (Mk g q (t.p + 2) ((txt ++ [46, 46])) n p2 v2 (w2.drewN nq)) := ⟨M2.out.b, M2.out.o, M2.out.row, M2.out.le⟩
  have F3 : Hid (FU g w (w2.drewN nq)) := F2.out.drewN nq
  have E3 : Hid (Er g (w2.drewN nq)) := HE.out.fu F3.out hG
  clear M2 F2 d0 d1 e1
  generalize w2.drewN nq = w3 at *
  go_wp2_with fail
  refine (c_no M3.out.qt hq _ T46).mono ?_
  rintro r w4 ⟨rfl, h4⟩
  have M4 : Hid (Mk g q (t.p + 2) (txt ++ [46, 46]) n p2 v2 w4) := M3.out.step h4
  have F4 : Hid (FU g w w4) := F3.out.trans (FU.of_own h4.f)
  clear h4 M3 F3 E3
  go_wp2_with fail
  refine (ws_star hq M4.out (by simp; omega) T42).mono ?_
  rintro r w5 ⟨⟨k5, nm5, fr5, to5, met5, rfl, hm5⟩, p5, v5, h5, f5⟩
  have M5 := hide h5
  have F5 : Hid (FU g w w5) := F4.out.trans (FU.of M4.out f5)
  clear h5 f5 M4 F4
  have R6 := hide (own_five w5 w5.heap.size ⟨k5, nm5, fr5, to5, met5, hm5⟩ (Nat.le_refl _))
  have M6 := hide (M5.out.alloc (.cells #[.int .i64 k5, .string nm5, .int .i64 fr5, .int .i64 to5, met5] 179))
  have hg5 : g < w5.heap.size := M5.out.b.lt
  have F6 := hide (F5.out.trans (FU.of_below ((Fr.refl (fun _ => False) w5).alloc (.cells #[.int .i64 k5, .string nm5, .int .i64 fr5, .int .i64 to5, met5] 179)).below))
  clear M5 F5
  rcases hm5 with rfl | ⟨f0, x0, y0, rfl⟩
  all_goals
    go_wp2_with fail
    refine (k_segmentOf M6.out (by omega) true R6.out hg5 (by omega)).mono ?_
    rintro r w7 ⟨⟨f7, x7, y7, rfl⟩, h7, k7⟩
    have F7 : Hid (FU g w w7) := F6.out.trans (FU.of_own k7)
    have M7 := hide h7
    clear h7 k7
    go_wp2
    go_ret
    exact ⟨adv (adv (adv t)), n + 1, _, p5, v5, BB.out, by show t.p < ((adv (adv t))).p + 1; have : ((adv (adv t))).p = t.p + 2 := rfl; omega, ⟨_, _, _, rfl⟩, M7.out, F7.out⟩

set_option maxHeartbeats 2000000 in
set_option maxRecDepth 100000 in
theorem sg_dword {w : World} {g : Nat} {q : ByteArray} {txt : List UInt8} {n : Nat} {p v : Value} (hq : q.size ≤ 1000) (hf : FinP (bs q)) (he : Er g w) (hG : 6 < g) {t : St} (h : Mk g q t.p txt n p v w) (hn : n ≤ t.p) (hl : txt.length ≤ 3 * t.p + 2)
    (T2 : tk q t.p ⟨#[46, 46]⟩ = true) (T91 : tk q (t.p + 2) ⟨#[91]⟩ = false) (T46 : tk q (t.p + 2) ⟨#[46]⟩ = false) (T42 : tk q (t.p + 2) ⟨#[42]⟩ = false) (BB : Hid (WdB (bs q) (n + 1) (txt ++ [46, 46]) (adv (adv t)))) :
    Calls Tryz.prog 56 #[.pointer (some ⟨g, 0, none⟩)] w (SegQ g q t.p w) := by
  have HE := hide he
  have HF := hide hf
  have MM := hide h
  have htq0 := h.le
  clear h he hf
  go_enter Tryz.func56, Tryz.ntmps56
  go_wp2_with fail
  refine (c_yes MM.out.qt hq _ T2 (t.p + 2) rfl).mono ?_
  rintro r w1 ⟨rfl, h1⟩
  have M1 := hide (MM.out.step h1)
  have F1 : Hid (FU g w w1) := FU.of_own h1.f
  clear h1 MM
  go_wp2_with fail
  refine (c_write M1.out ⟨#[46, 46]⟩ (by show txt.length + 2 ≤ _; omega)).mono ?_
  rintro r w2 ⟨rfl, p2, v2, h2, f2⟩
  have M2 : Hid (Mk g q (t.p + 2) (txt ++ [46, 46]) n p2 v2 w2) := h2
  have F2 : Hid (FU g w w2) := F1.out.trans (FU.of M1.out f2)
  clear h2 f2 M1 F1
  have d0 : w2.cell? ⟨g, 0, none⟩ = some (.string q) := M2.out.b.cell 0
  have d1 : w2.cell? ⟨g, 1, none⟩ = some (.int .i64 ((t.p + 2 : Nat) : Int)) := M2.out.b.cell 1
  have e1 : ((t.p + 2 : Nat) : Int) ≤ (q.size : Int) := by have := M2.out.le; omega
  try simp at d1 e1
  go_wp2_with fail
  go_quiet ((go_at_call 82; exact Calls.quiet_of_same (c_hasPrefix _ _)))
  try rw [show ((t.p : Int) + 2).toNat = t.p + 2 by omega]
  rw [tk_ext, T91]
  have M3 : Hid (Mk g q (t.p + 2) ((txt ++ [46, 46])) n p2 v2 (w2.drewN nq)) := ⟨M2.out.b, M2.out.o, M2.out.row, M2.out.le⟩
  have F3 : Hid (FU g w (w2.drewN nq)) := F2.out.drewN nq
  have E3 : Hid (Er g (w2.drewN nq)) := HE.out.fu F3.out hG
  clear M2 F2 d0 d1 e1
  generalize w2.drewN nq = w3 at *
  go_wp2_with fail
  refine (c_no M3.out.qt hq _ T46).mono ?_
  rintro r w4 ⟨rfl, h4⟩
  have M4 : Hid (Mk g q (t.p + 2) (txt ++ [46, 46]) n p2 v2 w4) := M3.out.step h4
  have F4 : Hid (FU g w w4) := F3.out.trans (FU.of_own h4.f)
  clear h4 M3 F3 E3
  go_wp2_with fail
  refine (ws_word hq M4.out (by simp; omega) T42).mono ?_
  rintro r w5 ⟨k, hk, ⟨k5, nm5, fr5, to5, met5, rfl, hm5⟩, p5, v5, h5, f5⟩
  have hke : wordP (bs q) ((adv (adv t))) = { (adv (adv t)) with p := k } := word_eq BB.out.e0' BB.out.e0 (bnd_nolet HF.out BB.out.b) hk
  have hkg : t.p + 2 ≤ k := hk.ge
  have B5 : Hid (Bnd (bs q) (n + 1) ((txt ++ [46, 46]) ++ ([91, 39] ++ sub (bs q) (t.p + 2) k ++ [39, 93])) { (adv (adv t)) with p := k }) := by
    have := BB.out.b
    rw [hke] at this
    exact this
  have M5 := hide h5
  have F5 : Hid (FU g w w5) := F4.out.trans (FU.of M4.out f5)
  clear h5 f5 M4 F4 hk hke BB
  have R6 := hide (own_five w5 w5.heap.size ⟨k5, nm5, fr5, to5, met5, hm5⟩ (Nat.le_refl _))
  have M6 := hide (M5.out.alloc (.cells #[.int .i64 k5, .string nm5, .int .i64 fr5, .int .i64 to5, met5] 179))
  have hg5 : g < w5.heap.size := M5.out.b.lt
  have F6 := hide (F5.out.trans (FU.of_below ((Fr.refl (fun _ => False) w5).alloc (.cells #[.int .i64 k5, .string nm5, .int .i64 fr5, .int .i64 to5, met5] 179)).below))
  clear M5 F5
  rcases hm5 with rfl | ⟨f0, x0, y0, rfl⟩
  all_goals
    go_wp2_with fail
    refine (k_segmentOf M6.out (by omega) true R6.out hg5 (by omega)).mono ?_
    rintro r w7 ⟨⟨f7, x7, y7, rfl⟩, h7, k7⟩
    have F7 : Hid (FU g w w7) := F6.out.trans (FU.of_own k7)
    have M7 := hide h7
    clear h7 k7
    go_wp2
    go_ret
    exact ⟨{ (adv (adv t)) with p := k }, n + 1, _, p5, v5, B5.out, by show t.p < k; omega, ⟨_, _, _, rfl⟩, M7.out, F7.out⟩

end Go.Proofs.YtfmgllgngchdcaaGreatDoor
