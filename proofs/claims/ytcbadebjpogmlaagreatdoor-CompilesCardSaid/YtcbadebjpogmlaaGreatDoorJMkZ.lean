/- The program's maker against the plain machine: any segment; the whole plan. -/
import Derived.Test.YtcbadebjpogmlaaGreatDoorJMkY
namespace Go.Proofs.YtcbadebjpogmlaaGreatDoor
open Go.RowKit Tr

theorem must91 {s : List UInt8} {t : St} (h : sees s t 91 = true) : must s t [91] = adv t := by show must1 s t 91 = adv t; unfold must1; rw [if_pos h]
theorem sees_of {s : List UInt8} {t : St} {b : Nat} (e : t.e = 0) (h : bt s t.p = b) : sees s t b = true := by simp [sees, e, h]
theorem sees_no {s : List UInt8} {t : St} {b : Nat} (h : bt s t.p ≠ b) : sees s t b = false := by simp [sees, h]
theorem tk_of {q : ByteArray} {t : St} (e : t.e = 0) (c : UInt8) (h : bt (bs q) t.p = c.toNat) : tk q t.p ⟨#[c]⟩ = true := (tk1 q e c).trans (sees_of e h)
theorem tk_not {q : ByteArray} {t : St} (e : t.e = 0) (c : UInt8) (h : bt (bs q) t.p ≠ c.toNat) : tk q t.p ⟨#[c]⟩ = false := (tk1 q e c).trans (sees_no h)

theorem k_segment {w : World} {g : Nat} {q : ByteArray} {txt : List UInt8} {n : Nat} {p v : Value} (hq : q.size ≤ 1000) (hf : FinP (bs q)) (he : Er g w) (hG : 6 < g) {t : St} (hb : Bnd (bs q) n txt t) (hp : t.p < q.size) (h : Mk g q t.p txt n p v w) :
    Calls Tryz.prog 87 #[.pointer (some ⟨g, 0, none⟩)] w (SegQ g q t.p w) := by
  have hn := Bnd.few hb
  have hl := hb.len
  have e0 := hb.e0
  have hps : t.p < (bs q).length := by rw [bs_len]; exact hp
  rcases bnd_next hf hb with e | e | e
  · have h46 := sees_of e0 e
    have hd := seg_dot hb h46
    by_cases e2 : bt (bs q) (t.p + 1) = 46
    · have hd2 := dot_dot hd (sees_of (t := adv t) e0 e2)
      have T2 := tk2_yes e e2
      refine sg_deep hq h (by omega) (by omega) T2 (fun p' v' w' hm hfu => ?_)
      have hl2 : (txt ++ [46, 46]).length ≤ 10000 := by simp; omega
      by_cases e3 : bt (bs q) (t.p + 2) = 91
      · obtain ⟨a1, a2, a3⟩ := dot_br hd2 (sees_of (t := adv (adv t)) e0 e3)
        rw [a3] at a1
        exact (ss_br (t := adv (adv t)) hq hf (he.fu hfu hG) hG hm hl2 (tk_of (t := adv (adv t)) e0 91 e3) e3 a2 (fin_live hf a1)).mono (fun _ _ x => x.le (Nat.le_succ _))
      · have T91 := tk_not (q := q) (t := adv (adv t)) e0 91 e3
        have T46 : tk q (t.p + 2) ⟨#[46]⟩ = false := (tk1 q (t := adv (adv t)) e0 46).trans (dot5_no hf hd2)
        by_cases e4 : bt (bs q) (t.p + 2) = 42
        · exact ss_star (t := adv (adv t)) hq hf (he.fu hfu hG) hG hm hl2 T91 T46 (tk_of (t := adv (adv t)) e0 42 e4) ((dot_star (Or.inr rfl) hd2 (sees_of (t := adv (adv t)) e0 e4)).resolve_right (fun b => fin_bad hf b))
        · exact ss_word (t := adv (adv t)) hq hf (he.fu hfu hG) hG hm hl2 T91 T46 (tk_not (t := adv (adv t)) e0 42 e4) ⟨e0, (dot_word (Or.inr ⟨rfl, sees_no (t := adv (adv t)) e3⟩) hd2 (sees_no (t := adv (adv t)) e4)).resolve_right (fun b => fin_bad hf b)⟩
    · have T2 := tk2_no (q := q) (a := t.p) (Or.inr e2)
      refine sg_plain hq h (by omega) (by omega) T2 (fun p' v' w' hm hfu => ?_)
      have hl2 : txt.length ≤ 10000 := by omega
      have T91 := tk_not (q := q) e0 91 (by rw [e]; decide)
      have T46 := tk_of (q := q) e0 46 e
      by_cases e4 : bt (bs q) (t.p + 1) = 42
      · exact ss_dstar hq hf (he.fu hfu hG) hG hm hl2 T91 T46 (tk_of (t := adv t) e0 42 e4) ((dot_star (Or.inl rfl) hd (sees_of (t := adv t) e0 e4)).resolve_right (fun b => fin_bad hf b))
      · exact ss_dword hq hf (he.fu hfu hG) hG hm hl2 T91 T46 (tk_not (t := adv t) e0 42 e4) ⟨e0, (dot_word (Or.inl ⟨rfl, sees_no (t := adv t) e2⟩) hd (sees_no (t := adv t) e4)).resolve_right (fun b => fin_bad hf b)⟩
  · have h91 := sees_of e0 e
    obtain ⟨a1, a2⟩ := seg_br hb hps (sees_no (by rw [e]; decide))
    rw [must91 h91] at a1 a2
    refine sg_plain hq h (by omega) (by omega) (tk2_no (Or.inl (by rw [e]; decide))) (fun p' v' w' hm hfu => ?_)
    exact ss_br hq hf (he.fu hfu hG) hG hm (by omega) (tk_of e0 91 e) e (a2 e0).1 (fin_live hf a1)
  · have := bt_in hps; omega

theorem infoSegm : (Tryz.prog.info? 128).map (fun i => (i.zero, i.size, i.bytes)) = some (some (.agg #[.nilFunc, .nilFunc, .bool false]), 3, 24) := by kernel_rfl

/-- A segment's cells. -/
structure GV where
  f : Fn
  x : Array Value
  y : Array Value
  f' : Fn
  x' : Array Value
  y' : Array Value
  b : Bool
def GV.cells (s : GV) : List Value := [.func s.f s.x s.y, .func s.f' s.x' s.y', .bool s.b]
theorem GV.one (s : GV) : ∀ u ∈ s.cells, u.oneCell' = true := by
  intro u hu
  simp [GV.cells] at hu
  rcases hu with rfl | rfl | rfl <;> rfl
def segCells (l : List GV) : List Value := l.flatMap GV.cells
theorem segCells_len (l : List GV) : (segCells l).length = l.length * 3 := by
  induction l with
  | nil => rfl
  | cons a l ih => simp only [segCells, List.flatMap_cons, List.length_append, List.length_cons] at *; rw [ih]; simp [GV.cells]; omega
theorem segCells_at (l : List GV) (i c : Nat) (hc : c < 3) (h : i < l.length) : (segCells l)[i * 3 + c]? = (l[i]).cells[c]? := by
  induction l generalizing i with
  | nil => cases h
  | cons a l ih =>
    have e : segCells (a :: l) = a.cells ++ segCells l := rfl
    have ea : a.cells.length = 3 := rfl
    rw [e]
    cases i with
    | zero => rw [List.getElem?_append_left (by omega)]; simp
    | succ i =>
      rw [List.getElem?_append_right (by omega), ea, show (i + 1) * 3 + c - 3 = i * 3 + c by omega, ih i (by simpa using h)]
      simp

/-- The first segment that is late, or how many there are. -/
def headF (l : List GV) : Nat := l.findIdx (fun s => s.b)

set_option maxHeartbeats 2000000 in
set_option maxRecDepth 100000 in
theorem m_headOf {w : World} {B j cp : Nat} {ao : Option Addr} {l : List GV} (h : w.ownsRow B 128 3 (.slice ao j cp) j (segCells l)) (hj : j ≤ 1000) :
    Calls Tryz.prog 89 #[.slice ao j cp] w (fun r w' => r = .returned (.int .i64 (headF l : Nat)) ∧ Below w.heap.size w w') := by
  have hlen : l.length = j := by have := h.1; rw [segCells_len] at this; omega
  have H := hide h
  clear h
  go_enter Tryz.func89, Tryz.ntmps89
  go_wp2
  go_loopw [3, 4, 7] (fun _ _ i wr => ∃ k : Nat, k ≤ j ∧ i = .int .i64 k ∧ (∀ m (hm : m < l.length), m < k → (l[m]).b = false) ∧ Below w.heap.size w wr) (fun _ _ i _ => j - (intOf i).toNat)
  case atStart => exact ⟨0, Nat.zero_le _, rfl, fun m _ hm => by omega, (Fr.refl (fun _ => False) w).below⟩
  case round =>
    obtain ⟨k, hk, rfl, hno, hS⟩ := hrel
    have NO := hide hno
    have S := hide hS
    clear hno hS
    by_cases hlt : k < j
    · obtain ⟨g, cap, hv, hbg, hgl⟩ := H.out.form (by omega)
      simp only [Value.slice.injEq, true_and] at hv
      obtain ⟨rfl, rfl⟩ := hv
      have hgw : ∀ c : Nat, wr.cell? ⟨g, c, none⟩ = w.cell? ⟨g, c, none⟩ := fun c => S.out.cell (p := ⟨g, c, none⟩) hgl
      have hcell : ∀ c : Nat, c < 3 → wr.cell? ⟨g, k * 3 + c, none⟩ = (l[k]).cells[c]? := fun c hc => ((hgw _).trans (H.out.cellAt (k * 3 + c) (by omega))).trans (segCells_at l k c hc (by omega))
      have kc0 := hcell 0 (by decide)
      have kc1 := hcell 1 (by decide)
      have kc2 := hcell 2 (by decide)
      clear hcell hgw
      have HB : Hid (∀ b, (l[k]).b = b → b = true → headF l = k) := fun b hb ht => by
        unfold headF
        rw [List.findIdx_eq (by omega)]
        exact ⟨by rw [hb, ht], fun m hm => by simpa using NO.out m (by omega) hm⟩
      have HN : Hid (∀ b, (l[k]).b = b → b = false → ∀ m (hm : m < l.length), m < k + 1 → (l[m]).b = false) := fun b hb hf m hm hmk => by
        by_cases e : m = k
        · subst e; rw [hb, hf]
        · exact NO.out m hm (by omega)
      generalize hs : l[k] = s at *
      simp only [GV.cells, List.getElem?_cons_zero, List.getElem?_cons_succ, Nat.add_zero] at kc0 kc1 kc2
      have HB2 := hide (HB.out s.b rfl)
      have HN2 := hide (HN.out s.b rfl)
      clear HB HN hs
      generalize s.b = sb at *
      have F1 := hide (((Fr.of_below (K := fun _ => False) S.out).alloc (.cells #[.func s.f s.x s.y, .func s.f' s.x' s.y', .bool sb] 128)).below)
      cases sb
      · go_wp2
        go_roundw
        case rel => exact ⟨k + 1, by omega, by go_num, HN2.out (by trivial), F1.out⟩
        case measure => simp [intOf]; omega
      · go_wp2
        go_ret
        have hk2 : headF l = k := HB2.out (by trivial)
        exact ⟨by rw [hk2]; rfl, F1.out⟩
    · have hkj : k = j := by omega
      subst hkj
      have e : headF l = k := by
        unfold headF
        rw [← hlen]
        exact List.findIdx_eq_length.2 (fun x hx => by
          obtain ⟨m, hm, rfl⟩ := List.getElem_of_mem hx
          simpa using NO.out m hm (by omega))
      have E := hide e
      clear e
      go_wp2
      go_ret
      exact ⟨by rw [E.out]; rfl, S.out⟩

/-- What holds at the head of the loop over segments. -/
structure PlL (g : Nat) (q : ByteArray) (w0 : World) (B : Nat) (t : St) (n : Nat) (txt : List UInt8) (p v : Value) (j : Nat) (sv : Value) (wr : World) : Prop where
  m : Mk g q t.p txt n p v wr
  bd : Bnd (bs q) n txt t
  fu : FU g w0 wr
  row : ∃ l : List GV, wr.ownsRow B 128 3 sv j (segCells l)
  le : j ≤ t.p
  pos : 0 < t.p

theorem FU.grown {g : Nat} {w0 w w' : World} {row : Option Nat} (h : FU g w0 w) (hg : w.grownBy w' row) (hr : ∀ k, row = some k → w0.heap.size ≤ k) : FU g w0 w' := by
  have hb : ∀ k, k < w0.heap.size → w'.heap[k]? = w.heap[k]? := fun k hk => hg.block k (Nat.lt_of_lt_of_le hk h.size) (fun e => by have := hr k e.symm; omega)
  exact ⟨hg.os.trans h.os, hg.tape.trans h.tape, hg.output.trans h.output, Nat.le_trans h.size hg.size, fun k hk hs => (hb k hs).trans (h.low k hk hs), fun k cs T fz hk hT hc => (hb k (lt_of_some hc)).trans (h.typ k cs T fz hk hT hc)⟩
theorem Mk.grown {g : Nat} {q : ByteArray} {a : Nat} {t : List UInt8} {n : Nat} {p v : Value} {w w' : World} {B : Nat} {e : TypeId} {sz : Nat} {sv : Value} {j : Nat} {xs : List Value} (h : Mk g q a t n p v w) (ho : w.ownsRow B e sz sv j xs) (he : e ≠ 5) (hB : g < B) (hg : w.grownBy w' sv.ownBlock) : Mk g q a t n p v w' := by
  have hk : ∀ k, sv.ownBlock = some k → g ≠ k ∧ v.ownBlock ≠ some k := fun k hk => by
    have hgk := (ho.lt k hk).1
    refine ⟨by omega, fun e2 => ?_⟩
    rcases ho.2 with ⟨x, _⟩ | ⟨k2, cap, cur, x1, _, x3, _⟩
    · rw [x] at hk; cases hk
    · rw [x1] at hk
      have ek : k2 = k := Option.some.inj hk
      subst ek
      exact (h.apart (b := k2) (cs := cur) (T := e) x3 he (by omega)) (Or.inr e2)
  refine ⟨(hg.block g h.b.lt (fun e2 => (hk g e2.symm).1 rfl)).trans h.b, h.o, h.row.kept hg ?_, h.le⟩
  cases hv : v.ownBlock with
  | none => exact Or.inl rfl
  | some k => exact Or.inr (fun e2 => (hk k e2.symm).2 hv)

set_option maxHeartbeats 2000000 in
set_option maxRecDepth 100000 in
theorem k_plan {w : World} {g : Nat} {q : ByteArray} {p v : Value} (hq : q.size ≤ 1000) (hf : FinP (bs q)) (he : Er g w) (hG : 6 < g) (h : Mk g q 0 [] 0 p v w) :
    Calls Tryz.prog 63 #[.pointer (some ⟨g, 0, none⟩)] w (fun r w' => ∃ (b : Nat) (tt : ByteArray) (sv : Value), r = .returned (.pointer (some ⟨b, 0, none⟩)) ∧ (∃ hd : Nat, Blk w' b #[.string tt, sv, .int .i64 hd] 88) ∧ g < b ∧ bs tt = T (bs q) (q.size + 1) ∧
      w'.cell? ⟨g, 4, none⟩ = some (.int .i64 (C (bs q) (q.size + 1) : Nat)) ∧ FU g w w') := by
  obtain ⟨i0, hi, hz0, hz1, hz2⟩ := info_parts infoSegm
  have HI := hide hi
  have HZ0 := hide hz0
  have HZ1 := hide hz1
  have HZ2 := hide hz2
  have HE := hide he
  have HF := hide hf
  have MM := hide h
  have hgw : g < w.heap.size := h.b.lt
  have b0 := (begin_ok (bs q)).resolve_right (fun b => fin_bad hf b)
  obtain ⟨T0, e0⟩ := tk_must (q := q) (t := ⟨0, 0, 0⟩) (sign := ⟨#[36]⟩) b0.e0
  rw [show [36] = nb ⟨#[36]⟩ from rfl, e0] at b0
  have BB : Hid (Bnd (bs q) 0 [36] ⟨1, 0, 0⟩) := b0
  clear h hf he hi hz0 hz1 hz2 b0 e0
  go_enter Tryz.func63, Tryz.ntmps63
  go_wp2_with fail
  refine (c_yes MM.out.qt hq _ T0 1 rfl).mono ?_
  rintro r w1 ⟨rfl, h1⟩
  have M1 := hide (MM.out.step h1)
  have F1 : Hid (FU g w w1) := FU.of_own h1.f
  clear h1 MM
  go_wp2_with fail
  refine (c_write M1.out ⟨#[36]⟩ (by show 0 + 1 ≤ _; omega)).mono ?_
  rintro r w2 ⟨rfl, p2, v2, h2, f2⟩
  have S : Hid (PlL g q w w.heap.size ⟨1, 0, 0⟩ 0 [36] p2 v2 0 (.slice none 0 0) w2) := ⟨h2, BB.out, F1.out.trans (FU.of M1.out f2), ⟨[], World.ownsRow_nil _ _ _ _⟩, Nat.zero_le _, Nat.one_pos⟩
  clear h2 f2 M1 F1 BB
  go_wp2
  go_loopw [3] (fun sv wr => ∃ (t : St) (n : Nat) (txt : List UInt8) (p v : Value) (j : Nat), PlL g q w w.heap.size t n txt p v j sv wr) (fun _ wr => q.size - mA g wr)
  case atStart => exact ⟨_, _, _, _, _, _, S.out⟩
  case round =>
    clear S
    obtain ⟨t, n, txt, p3, v3, j, hS⟩ := hrel
    have S := hide hS
    have hjt := hS.le
    have htq : t.p ≤ q.size := hS.m.le
    have HM := hide hS.m.qt.mA
    obtain ⟨l, hrow⟩ := hS.row
    obtain ⟨ao, cp, rfl⟩ := own_slice hrow
    have R := hide hrow
    have d0 : wr.cell? ⟨g, 0, none⟩ = some (.string q) := hS.m.b.cell 0
    have d1 : wr.cell? ⟨g, 1, none⟩ = some (.int .i64 (t.p : Nat)) := hS.m.b.cell 1
    clear hS hrow
    by_cases hlt : t.p < q.size
    · have dd : decide ((t.p : Int) < (q.size : Int)) = true := by simp; omega
      go_wp2
      go_quiet (fail)
      have M3 : Hid (Mk g q t.p txt n p3 v3 (wr.drewN nq)) := ⟨S.out.m.b, S.out.m.o, S.out.m.row, S.out.m.le⟩
      have F3 : Hid (FU g w (wr.drewN nq)) := S.out.fu.drewN nq
      have R3 : Hid ((wr.drewN nq).ownsRow w.heap.size 128 3 (.slice ao j cp) j (segCells l)) := R.out
      have E3 : Hid (Er g (wr.drewN nq)) := HE.out.fu F3.out hG
      clear d0 d1 R
      generalize wr.drewN nq = w3 at *
      go_wp2_with fail
      refine (k_segment hq HF.out E3.out hG S.out.bd hlt M3.out).mono ?_
      rintro r w4 ⟨t4, n4, txt4, p4, v4, hb4, hlt4, ⟨f4, x4, y4, f5, x5, y5, b5, rfl⟩, hm4, hf4⟩
      have hown4 : w4.ownsRow w.heap.size 128 3 (.slice ao j cp) j (segCells l) := own_fu R3.out hf4 (by decide) hgw
      have hB4 : w.heap.size ≤ w4.heap.size := Nat.le_trans F3.out.size hf4.size
      have M4 := hide hm4
      have B4 := hide hb4
      have F4 := hide (F3.out.trans hf4)
      have hkq := hm4.le
      clear hm4 hb4 hf4 M3 F3 R3 E3
      go_wp2_with (at_builtin; refine wpList_append_own _ rfl _ _ 86 rfl w.heap.size 128 i0 _ 3 24 Tryz.underlying86 HI.out HZ0.out HZ1.out HZ2.out rfl (by decide) _ _ _ rfl (hown4.alloc _) ⟨w4.heap.size, 0, none⟩ 1 1 [.func f4 x4 y4, .func f5 x5 y5, .bool b5] rfl rfl ?c1 ?c2 ?c3 ?c4 ?c5 ?_)
      case c1 =>
        intro j u hj
        match j, hj with
        | 0, hj => simp at hj; subst hj; simp [Addr.add]
        | 1, hj => simp at hj; subst hj; simp [Addr.add]
        | 2, hj => simp at hj; subst hj; simp [Addr.add]
      case c2 => exact (GV.mk f4 x4 y4 f5 x5 y5 b5).one
      case c3 => unfold maxLen; omega
      case c4 => omega
      case c5 => simp; omega
      intro v' w5 hown5 hgrow _
      have S2 : Hid (PlL g q w w.heap.size t4 n4 txt4 p4 v4 (j + 1) v' w5) :=
        ⟨(M4.out.alloc _).grown (hown4.alloc _) (by decide) hgw hgrow, B4.out, (F4.out.trans (FU.of_below ((Fr.refl (fun _ => False) w4).alloc _).below)).grown hgrow (fun k hk => (hown4.lt k hk).1), ⟨l ++ [⟨f4, x4, y4, f5, x5, y5, b5⟩], by simpa [segCells, GV.cells] using hown5⟩, by omega, by omega⟩
      clear hown5 hgrow hown4
      go_wp2
      go_roundw
      case rel => exact ⟨_, _, _, _, _, _, S2.out⟩
      case measure =>
        have m1 : mA g wr = t.p := HM.out
        have m2 : mA g w5 = t4.p := S2.out.m.qt.mA
        rw [m1, m2]
        omega
    · have dd : decide ((t.p : Int) < (q.size : Int)) = false := by simp; omega
      have hfin := bnd_fin S.out.bd (by rw [bs_len]; omega)
      rw [bs_len] at hfin
      have HX := hide hfin
      clear hfin
      go_wp2
      go_quiet (fail)
      have M3 : Hid (Mk g q t.p txt n p3 v3 (wr.drewN nq)) := ⟨S.out.m.b, S.out.m.o, S.out.m.row, S.out.m.le⟩
      have R3 : Hid ((wr.drewN nq).ownsRow w.heap.size 128 3 (.slice ao j cp) j (segCells l)) := R.out
      have F3 : Hid (FU g w (wr.drewN nq)) := S.out.fu.drewN nq
      clear d0 d1 R
      generalize wr.drewN nq = w3 at *
      go_wp2_with fail
      refine (c_string M3.out (S.out.bd.ne S.out.pos)).mono ?_
      rintro r w4 ⟨rfl, f4⟩
      have hnv : ¬ v3.ownBlock = some g := fun e => by have := (M3.out.row.lt g e).1; omega
      have B4 : Hid (Blk w4 g (mkc q t.p p3 v3 n) 141) := M3.out.b.fr f4 hnv
      have F4 : Hid (FU g w w4) := F3.out.trans (FU.of M3.out (f4.mono (fun _ _ e => Or.inr e)))
      have hg4 : g < w4.heap.size := B4.out.lt
      have R4 : Hid (w4.ownsRow w.heap.size 128 3 (.slice ao j cp) j (segCells l)) := own_fu R3.out (FU.of M3.out (f4.mono (fun _ _ e => Or.inr e))) (by decide) hgw
      clear f4 M3 F3 hnv R3
      go_wp2_with fail
      refine (m_headOf R4.out (by omega)).mono ?_
      rintro r w6 ⟨rfl, hb6⟩
      have B6 := hide (B4.out.fr (Fr.of_below (K := fun _ => False) hb6) id)
      have F6 := hide (F4.out.trans (FU.of_below hb6))
      have hg6 : g < w6.heap.size := B6.out.lt
      clear hb6 B4 F4 R4
      go_wp2
      go_ret
      refine ⟨w6.heap.size, ⟨txt.toArray⟩, .slice ao j cp, rfl, ⟨_, Blk.new _ _ _⟩, hg6, ?_, ?_, F6.out.trans (FU.of_below ((Fr.refl (fun _ => False) w6).alloc _).below)⟩
      · rw [HX.out.2.2]; simp [bs]
      · rw [HX.out.2.1]; exact (B6.out.alloc _).cell 4

end Go.Proofs.YtcbadebjpogmlaaGreatDoor
