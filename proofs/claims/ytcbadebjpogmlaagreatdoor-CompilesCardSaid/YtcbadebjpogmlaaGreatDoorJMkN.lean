/- The program's maker: the makers of functions. -/
import Derived.Test.YtcbadebjpogmlaaGreatDoorJMkJ
import Derived.Laws.AppendOwn
namespace Go.Proofs.YtcbadebjpogmlaaGreatDoor
open Go.RowKit Tr

/-- A function comes back, and nothing that was there has changed. -/
def FnB (w : World) (r : Ending) (w' : World) : Prop := (∃ f x y, r = .returned (.func f x y)) ∧ Below w.heap.size w w'

theorem m_toMember (w : World) (s : ByteArray) : Calls Tryz.prog 287 #[.string s] w (FnB w) := by
  go_enter Tryz.func287, Tryz.ntmps287
  go_wp2
  go_ret
  exact ⟨⟨_, _, _, rfl⟩, ((Fr.refl (fun _ => False) w).alloc _).below⟩

theorem m_notMet (w : World) (f0 : Fn) (x0 y0 : Array Value) : Calls Tryz.prog 274 #[.func f0 x0 y0] w (FnB w) := by
  go_enter Tryz.func274, Tryz.ntmps274
  go_wp2
  go_ret
  exact ⟨⟨_, _, _, rfl⟩, ((Fr.refl (fun _ => False) w).alloc _).below⟩

theorem m_isThere (w : World) (f0 : Fn) (x0 y0 : Array Value) : Calls Tryz.prog 285 #[.func f0 x0 y0] w (FnB w) := by
  go_enter Tryz.func285, Tryz.ntmps285
  go_wp2
  go_ret
  exact ⟨⟨_, _, _, rfl⟩, ((Fr.refl (fun _ => False) w).alloc _).below⟩

theorem m_isEqual (w : World) (f0 : Fn) (x0 y0 : Array Value) (ad : Option Addr) : Calls Tryz.prog 282 #[.func f0 x0 y0, .pointer ad] w (FnB w) := by
  go_enter Tryz.func282, Tryz.ntmps282
  go_wp2
  go_ret
  exact ⟨⟨_, _, _, rfl⟩, ((Fr.refl (fun _ => False) w).alloc _ |>.alloc _).below⟩

theorem m_isLess (w : World) (f0 : Fn) (x0 y0 : Array Value) (ad : Option Addr) : Calls Tryz.prog 284 #[.func f0 x0 y0, .pointer ad] w (FnB w) := by
  go_enter Tryz.func284, Tryz.ntmps284
  go_wp2
  go_ret
  exact ⟨⟨_, _, _, rfl⟩, ((Fr.refl (fun _ => False) w).alloc _ |>.alloc _).below⟩

theorem m_oneMet (w : World) (ao : Option Addr) (j cp : Nat) : Calls Tryz.prog 257 #[.slice ao j cp] w (FnB w) := by
  go_enter Tryz.func257, Tryz.ntmps257
  go_wp2
  go_ret
  exact ⟨⟨_, _, _, rfl⟩, ((Fr.refl (fun _ => False) w).alloc _).below⟩

theorem m_allMet (w : World) (ao : Option Addr) (j cp : Nat) : Calls Tryz.prog 266 #[.slice ao j cp] w (FnB w) := by
  go_enter Tryz.func266, Tryz.ntmps266
  go_wp2
  go_ret
  exact ⟨⟨_, _, _, rfl⟩, ((Fr.refl (fun _ => False) w).alloc _).below⟩

theorem m_leadBy (w : World) (ao : Option Addr) (j cp : Nat) : Calls Tryz.prog 276 #[.slice ao j cp] w (FnB w) := by
  go_enter Tryz.func276, Tryz.ntmps276
  go_wp2
  go_ret
  exact ⟨⟨_, _, _, rfl⟩, ((Fr.refl (fun _ => False) w).alloc _).below⟩

end Go.Proofs.YtcbadebjpogmlaaGreatDoor

/- The program's maker against the plain machine: the steps of a test. -/
namespace Go.Proofs.YtcbadebjpogmlaaGreatDoor
open Go.RowKit Tr

theorem infoLead : (Tryz.prog.info? 320).map (fun i => (i.zero, i.size, i.bytes)) = some (some .nilFunc, 1, 8) := by kernel_rfl

theorem Qt.grown {g : Nat} {q : ByteArray} {p v : Value} {n : Nat} {w0 w w' : World} {a B : Nat} {row : Option Nat} (h : Qt g q p v n w0 a w) (hg : w.grownBy w' row) (hr : ∀ k, row = some k → B ≤ k) (hgB : g < B) (hwB : w0.heap.size ≤ B) : Qt g q p v n w0 a w' :=
  ⟨(hg.block g h.b.lt (fun e => by have := hr g e.symm; omega)).trans h.b, h.f.grown hg (fun k hk => Or.inl (by have := hr k hk; omega)), h.le⟩

/-- What holds at the head of the loop over steps. -/
structure StL (g : Nat) (q : ByteArray) (p v : Value) (n : Nat) (w0 : World) (B q0 c : Nat) (o : List UInt8) (d : Nat) (t : St) (j : Nat) (sv : Value) (wr : World) : Prop where
  qt : Qt g q p v n w0 t.p wr
  lv : Live (bs q) q0 c 11 o d t
  row : ∃ xs, wr.ownsRow B 320 1 sv j xs
  gb : g < B
  wb : w0.heap.size ≤ B
  sz : B ≤ wr.heap.size
  le : j ≤ t.p

theorem own_below {w w' : World} {base : Nat} {e : TypeId} {sz : Nat} {v : Value} {n : Nat} {xs : List Value} (h : w.ownsRow base e sz v n xs) (f : Below w.heap.size w w') : w'.ownsRow base e sz v n xs :=
  own_fr h (Fr.of_below (K := fun _ => False) f) (fun _ _ x => x)

theorem Qt.here {g : Nat} {q : ByteArray} {p v : Value} {n : Nat} {w0 w : World} {a : Nat} (h : Qt g q p v n w0 a w) : Qt g q p v n w a w := ⟨h.b, Fr.refl _ _, h.le⟩
theorem Qt.join {g : Nat} {q : ByteArray} {p v : Value} {n : Nat} {w0 w w' : World} {a a' : Nat} (h : Qt g q p v n w0 a w) (k : Qt g q p v n w a' w') : Qt g q p v n w0 a' w' := ⟨k.b, h.f.trans k.f, k.le⟩
theorem Er.keep {g : Nat} {w0 w : World} (h : Er g w0) (f : Fr (fun k => k = g) w0 w) : Er g w := by
  obtain ⟨⟨ev, h1, h2⟩, h3, h4⟩ := h
  exact ⟨⟨ev, (f.cell (p := ⟨6, 0, none⟩) h4 h3).trans h1, h2⟩, h3, Nat.lt_of_lt_of_le h4 f.size⟩

/-- One step more. -/
theorem StL.next {g : Nat} {q : ByteArray} {p v : Value} {n : Nat} {w0 : World} {B q0 c : Nat} {o : List UInt8} {d : Nat} {t t' : St} {j : Nat} {sv sv' : Value} {wr w1 w2 : World} {xs : List Value} {row : Option Nat} (S : StL g q p v n w0 B q0 c o d t j sv wr) (h1 : Qt g q p v n wr t'.p w1)
    (hl : Live (bs q) q0 c 11 o d t') (hg : w1.grownBy w2 row) (hr : ∀ k, row = some k → B ≤ k) (hown : w2.ownsRow B 320 1 sv' (j + 1) xs) (ht : t.p < t'.p) : StL g q p v n w0 B q0 c o d t' (j + 1) sv' w2 :=
  ⟨(S.qt.join h1).grown hg hr S.gb S.wb, hl, ⟨xs, hown⟩, S.gb, S.wb, Nat.le_trans S.sz (Nat.le_trans h1.f.size hg.size), by have := S.le; omega⟩

set_option maxHeartbeats 2000000 in
theorem k_steps {w : World} {g : Nat} {q : ByteArray} {p v : Value} {n : Nat} {w0 : World} (hq : q.size ≤ 1000) (hf : FinP (bs q)) (he : Er g w0) {q0 c d : Nat} {o : List UInt8} {t : St} (hok : Live (bs q) q0 c 11 o d t) (h : Qt g q p v n w0 t.p w) :
    Calls Tryz.prog 277 #[.pointer (some ⟨g, 0, none⟩)] w (fun r w' => ∃ t' sv, Live (bs q) q0 c 11 o d t' ∧ (bt (bs q) t'.p ≠ 46 ∧ bt (bs q) t'.p ≠ 91) ∧ r = .returned sv ∧ (∃ ao j cp, sv = .slice ao j cp) ∧ Qt g q p v n w0 t'.p w') := by
  obtain ⟨i0, hi, hz0, hz1, hz2⟩ := info_parts infoLead
  have HI := hide hi
  have HZ0 := hide hz0
  have HZ1 := hide hz1
  have HZ2 := hide hz2
  have HE := hide he
  have HF := hide hf
  have S : Hid (StL g q p v n w0 w.heap.size q0 c o d t 0 (.slice none 0 0) w) := ⟨h, hok, ⟨[], World.ownsRow_nil _ _ _ _⟩, h.b.lt, h.f.size, Nat.le_refl _, Nat.zero_le _⟩
  clear h hok he hf hi hz0 hz1 hz2
  generalize w.heap.size = B at *
  go_enter Tryz.func277, Tryz.ntmps277
  go_wp2
  go_loopw [3] (fun sv wr => ∃ (t : St) (j : Nat), StL g q p v n w0 B q0 c o d t j sv wr) (fun _ wr => q.size - mA g wr)
  case atStart => exact ⟨t, 0, S.out⟩
  case round =>
    clear S
    obtain ⟨t, j, hS⟩ := hrel
    have S := hide hS
    have hjt := hS.le
    have htq : t.p ≤ q.size := hS.qt.le
    have HM := hide hS.qt.mA
    obtain ⟨xs, hrow⟩ := hS.row
    obtain ⟨ao, cp, rfl⟩ := own_slice hrow
    have R := hide hrow
    have e0 := hS.lv.e0
    clear hS hrow
    by_cases h1 : sees (bs q) t 46 = true
    · have T0 : tk q t.p ⟨#[46]⟩ = true := (tk1 q e0 46).trans h1
      have L1 := hide (fin_live HF.out (ok_dot (Or.inl S.out.lv) h1))
      clear h1 e0
      go_wp2_with fail
      refine (c_yes S.out.qt.here hq _ T0 (t.p + 1) rfl).mono ?_
      rintro r w1 ⟨rfl, h1⟩
      have H1 := hide h1
      clear h1
      go_wp2_with fail
      refine (c_run_isLetter H1.out hq).mono ?_
      rintro r w2 ⟨k, hk, rfl, h2⟩
      have e1 := word_eq (t := adv t) S.out.lv.e0 L1.out.e0 (fin_nolet HF.out L1.out) hk
      have hkt : t.p < k := by have := hk.ge; omega
      have L2 : Hid (Live (bs q) q0 c 11 o d { adv t with p := k }) := by rw [← e1]; exact L1.out
      have hkq := h2.le
      have H2 := hide h2
      clear h2 H1 L1 e1 hk
      go_wp2_with fail
      refine (m_toMember _ _).mono ?_
      rintro r w3 ⟨⟨f3, x3, y3, rfl⟩, hb3⟩
      have H3 := hide (H2.out.below hb3)
      clear H2 hb3
      have hown3 : w3.ownsRow B 320 1 (.slice ao j cp) j xs := own_fr R.out H3.out.f (fun k hk e => by have := S.out.gb; omega)
      have hB3 : B ≤ w3.heap.size := Nat.le_trans S.out.sz H3.out.f.size
      go_wp2_with (at_builtin; refine wpList_append_own _ rfl _ _ 322 rfl B 320 i0 .nilFunc 1 8 Tryz.underlying322 HI.out HZ0.out HZ1.out HZ2.out rfl (by decide) _ _ _ rfl (hown3.alloc _) ⟨w3.heap.size, 0, none⟩ 1 1 [.func f3 x3 y3] rfl rfl ?c1 ?c2 ?c3 ?c4 ?c5 ?_)
      case c1 =>
        intro j u hj
        match j, hj with
        | 0, hj => simp at hj; subst hj; simp [Addr.add]
      case c2 => intro u hu; simp at hu; subst hu; rfl
      case c3 => unfold maxLen; omega
      case c4 => omega
      case c5 => simp; omega
      intro v' w4 hown4 hgrow _
      have S2 : Hid (StL g q p v n w0 B q0 c o d { adv t with p := k } (j + 1) v' w4) := S.out.next (H3.out.alloc _) L2.out hgrow (fun k hk => (hown3.lt k hk).1) hown4 hkt
      clear hown4 hgrow hown3
      go_wp2
      go_roundw
      case rel => exact ⟨_, _, S2.out⟩
      case measure =>
        have m1 : mA g wr = t.p := HM.out
        have m2 : mA g w4 = k := S2.out.qt.mA
        rw [m1, m2]
        omega
    · have h1 : sees (bs q) t 46 = false := by simpa using h1
      have T0 := tk_ne (sign := ⟨#[46]⟩) e0 rfl h1
      by_cases h2 : sees (bs q) t 91 = true
      · have T1 : tk q t.p ⟨#[91]⟩ = true := (tk1 q e0 91).trans h2
        have HB := hide h2
        clear h1 e0 h2
        go_wp2_with fail
        refine (c_no S.out.qt.here hq _ T0).mono ?_
        rintro r w1 ⟨rfl, h1⟩
        have H1 := hide h1
        clear h1
        go_wp2_with fail
        refine (c_yes H1.out hq _ T1 (t.p + 1) rfl).mono ?_
        rintro r w2 ⟨rfl, h2⟩
        have H2 := hide h2
        clear h2 H1
        have E2 := hide (HE.out.keep S.out.qt.f)
        go_wp2_with fail
        refine (k_element hq HF.out E2.out S.out.lv HB.out H2.out).mono ?_
        rintro r w3 ⟨k, hkt, T2, hl, ⟨f3, x3, y3, rfl⟩, h3⟩
        have hkq := h3.le
        have L2 := hide hl
        have H3 := hide h3
        clear H2 h3 hl
        have hown3 : w3.ownsRow B 320 1 (.slice ao j cp) j xs := own_fr R.out H3.out.f (fun k hk e => by have := S.out.gb; omega)
        have hB3 : B ≤ w3.heap.size := Nat.le_trans S.out.sz H3.out.f.size
        go_wp2_with (at_builtin; refine wpList_append_own _ rfl _ _ 322 rfl B 320 i0 .nilFunc 1 8 Tryz.underlying322 HI.out HZ0.out HZ1.out HZ2.out rfl (by decide) _ _ _ rfl (hown3.alloc _) ⟨w3.heap.size, 0, none⟩ 1 1 [.func f3 x3 y3] rfl rfl ?c1 ?c2 ?c3 ?c4 ?c5 ?_)
        case c1 =>
          intro j u hj
          match j, hj with
          | 0, hj => simp at hj; subst hj; simp [Addr.add]
        case c2 => intro u hu; simp at hu; subst hu; rfl
        case c3 => unfold maxLen; omega
        case c4 => omega
        case c5 => simp; omega
        intro v' w4 hown4 hgrow _
        have H4 : Hid (Qt g q p v n w0 k w4) := (S.out.qt.join (H3.out.alloc _)).grown hgrow (fun k hk => (hown3.lt k hk).1) S.out.gb S.out.wb
        have R4 := hide hown4
        have hs4 : B ≤ w4.heap.size := Nat.le_trans hB3 (Nat.le_trans (by simp) hgrow.size)
        clear hown4 hgrow hown3
        go_wp2_with fail
        refine (c_yes H4.out.here hq _ T2 (k + 1) rfl).mono ?_
        rintro r w5 ⟨rfl, h5⟩
        have S2 : Hid (StL g q p v n w0 B q0 c o d { t with p := k + 1 } (j + 1) v' w5) :=
          ⟨H4.out.join h5, L2.out, ⟨_, own_fr R4.out h5.f (fun k hk e => by have := S.out.gb; omega)⟩, S.out.gb, S.out.wb, Nat.le_trans hs4 h5.f.size, by simp only; omega⟩
        clear h5
        go_wp2
        go_roundw
        case rel => exact ⟨_, _, S2.out⟩
        case measure =>
          have m1 : mA g wr = t.p := HM.out
          have m2 : mA g w5 = k + 1 := S2.out.qt.mA
          rw [m1, m2]
          omega
      · have h2 : sees (bs q) t 91 = false := by simpa using h2
        have T1 := tk_ne (sign := ⟨#[91]⟩) e0 rfl h2
        have hb : bt (bs q) t.p ≠ 46 ∧ bt (bs q) t.p ≠ 91 := by
          simp [sees, e0] at h1 h2
          exact ⟨h1, h2⟩
        have HB := hide hb
        clear h1 h2 hb e0
        go_wp2_with fail
        refine (c_no S.out.qt hq _ T0).mono ?_
        rintro r w1 ⟨rfl, h1⟩
        have H1 := hide h1
        clear h1
        go_wp2_with fail
        refine (c_no H1.out hq _ T1).mono ?_
        rintro r w2 ⟨rfl, h2⟩
        have H2 := hide h2
        clear h2 H1
        go_wp2
        go_ret
        exact ⟨t, _, S.out.lv, HB.out, rfl, ⟨_, _, _, rfl⟩, H2.out⟩

end Go.Proofs.YtcbadebjpogmlaaGreatDoor

/- The program's maker against the plain machine: a test. -/
namespace Go.Proofs.YtcbadebjpogmlaaGreatDoor
open Go.RowKit Tr

/-- A condition comes back. -/
def FnM (g : Nat) (q : ByteArray) (p v : Value) (n : Nat) (w0 : World) (q0 c X : Nat) (o : List UInt8) (d : Nat) (r : Ending) (w' : World) : Prop := ∃ t', Live (bs q) q0 c X o d t' ∧ FnP g q p v n w0 t'.p r w'

set_option maxHeartbeats 1000000 in
theorem te_eq {w0 w : World} {g : Nat} {q : ByteArray} {p v : Value} {n : Nat} (hq : q.size ≤ 1000) (hf : FinP (bs q)) (he : Er g w0) {q0 c d : Nat} {o : List UInt8} {t : St} (h : Qt g q p v n w0 t.p w) (f0 : Fn) (x0 y0 : Array Value) (T0 : tk q t.p ⟨#[61, 61]⟩ = true) (hok : Live (bs q) q0 c 17 o d { t with p := t.p + 2 }) :
    Calls Tryz.prog 275 #[.pointer (some ⟨g, 0, none⟩), .func f0 x0 y0] w (FnM g q p v n w0 q0 c 18 o d) := by
  have H := hide h
  have HE := hide he
  have HF := hide hf
  have L := hide hok
  clear h he hf hok
  go_enter Tryz.func275, Tryz.ntmps275
  go_wp2_with fail
  refine (c_yes H.out hq _ T0 (t.p + 2) rfl).mono ?_
  rintro r w1 ⟨rfl, h1⟩
  clear H
  have H := hide h1
  clear h1
  go_wp2_with fail
  refine (k_constant (t := { t with p := t.p + 2 }) hq HF.out HE.out L.out H.out).mono ?_
  rintro r w1 ⟨t2, hl, ⟨ad, rfl⟩, h1⟩
  have L2 := hide hl
  clear H L hl
  have H := hide h1
  clear h1
  go_wp2_with fail
  refine (m_isEqual _ _ _ _ _).mono ?_
  rintro r w1 ⟨⟨f1, x1, y1, rfl⟩, hb⟩
  have H' := hide (H.out.below hb)
  clear H hb
  have H := hide H'.out
  clear H'
  go_wp2
  go_ret
  exact ⟨t2, L2.out, ⟨_, _, _, rfl⟩, H.out⟩

set_option maxHeartbeats 1000000 in
theorem te_ne {w0 w : World} {g : Nat} {q : ByteArray} {p v : Value} {n : Nat} (hq : q.size ≤ 1000) (hf : FinP (bs q)) (he : Er g w0) {q0 c d : Nat} {o : List UInt8} {t : St} (h : Qt g q p v n w0 t.p w) (f0 : Fn) (x0 y0 : Array Value) (T0 : tk q t.p ⟨#[61, 61]⟩ = false) (T1 : tk q t.p ⟨#[33, 61]⟩ = true) (hok : Live (bs q) q0 c 17 o d { t with p := t.p + 2 }) :
    Calls Tryz.prog 275 #[.pointer (some ⟨g, 0, none⟩), .func f0 x0 y0] w (FnM g q p v n w0 q0 c 18 o d) := by
  have H := hide h
  have HE := hide he
  have HF := hide hf
  have L := hide hok
  clear h he hf hok
  go_enter Tryz.func275, Tryz.ntmps275
  go_wp2_with fail
  refine (c_no H.out hq _ T0).mono ?_
  rintro r w1 ⟨rfl, h1⟩
  clear H
  have H := hide h1
  clear h1
  go_wp2_with fail
  refine (c_yes H.out hq _ T1 (t.p + 2) rfl).mono ?_
  rintro r w1 ⟨rfl, h1⟩
  clear H
  have H := hide h1
  clear h1
  go_wp2_with fail
  refine (k_constant (t := { t with p := t.p + 2 }) hq HF.out HE.out L.out H.out).mono ?_
  rintro r w1 ⟨t2, hl, ⟨ad, rfl⟩, h1⟩
  have L2 := hide hl
  clear H L hl
  have H := hide h1
  clear h1
  go_wp2_with fail
  refine (m_isEqual _ _ _ _ _).mono ?_
  rintro r w1 ⟨⟨f1, x1, y1, rfl⟩, hb⟩
  have H' := hide (H.out.below hb)
  clear H hb
  have H := hide H'.out
  clear H'
  go_wp2_with fail
  refine (m_notMet _ _ _ _).mono ?_
  rintro r w1 ⟨⟨f1, x1, y1, rfl⟩, hb⟩
  have H' := hide (H.out.below hb)
  clear H hb
  have H := hide H'.out
  clear H'
  go_wp2
  go_ret
  exact ⟨t2, L2.out, ⟨_, _, _, rfl⟩, H.out⟩

set_option maxHeartbeats 1000000 in
theorem te_lt {w0 w : World} {g : Nat} {q : ByteArray} {p v : Value} {n : Nat} (hq : q.size ≤ 1000) (hf : FinP (bs q)) (he : Er g w0) {q0 c d : Nat} {o : List UInt8} {t : St} (h : Qt g q p v n w0 t.p w) (f0 : Fn) (x0 y0 : Array Value) (T0 : tk q t.p ⟨#[61, 61]⟩ = false) (T1 : tk q t.p ⟨#[33, 61]⟩ = false) (T2 : tk q t.p ⟨#[60, 61]⟩ = false) (T3 : tk q t.p ⟨#[60]⟩ = true) (hok : Live (bs q) q0 c 17 o d { t with p := t.p + 1 }) :
    Calls Tryz.prog 275 #[.pointer (some ⟨g, 0, none⟩), .func f0 x0 y0] w (FnM g q p v n w0 q0 c 18 o d) := by
  have H := hide h
  have HE := hide he
  have HF := hide hf
  have L := hide hok
  clear h he hf hok
  go_enter Tryz.func275, Tryz.ntmps275
  go_wp2_with fail
  refine (c_no H.out hq _ T0).mono ?_
  rintro r w1 ⟨rfl, h1⟩
  clear H
  have H := hide h1
  clear h1
  go_wp2_with fail
  refine (c_no H.out hq _ T1).mono ?_
  rintro r w1 ⟨rfl, h1⟩
  clear H
  have H := hide h1
  clear h1
  go_wp2_with fail
  refine (c_no H.out hq _ T2).mono ?_
  rintro r w1 ⟨rfl, h1⟩
  clear H
  have H := hide h1
  clear h1
  go_wp2_with fail
  refine (c_yes H.out hq _ T3 (t.p + 1) rfl).mono ?_
  rintro r w1 ⟨rfl, h1⟩
  clear H
  have H := hide h1
  clear h1
  go_wp2_with fail
  refine (k_constant (t := { t with p := t.p + 1 }) hq HF.out HE.out L.out H.out).mono ?_
  rintro r w1 ⟨t2, hl, ⟨ad, rfl⟩, h1⟩
  have L2 := hide hl
  clear H L hl
  have H := hide h1
  clear h1
  go_wp2_with fail
  refine (m_isLess _ _ _ _ _).mono ?_
  rintro r w1 ⟨⟨f1, x1, y1, rfl⟩, hb⟩
  have H' := hide (H.out.below hb)
  clear H hb
  have H := hide H'.out
  clear H'
  go_wp2
  go_ret
  exact ⟨t2, L2.out, ⟨_, _, _, rfl⟩, H.out⟩

set_option maxHeartbeats 1000000 in
theorem te_none {w0 w : World} {g : Nat} {q : ByteArray} {p v : Value} {n : Nat} (hq : q.size ≤ 1000) (hf : FinP (bs q)) (he : Er g w0) {q0 c d : Nat} {o : List UInt8} {t : St} (h : Qt g q p v n w0 t.p w) (f0 : Fn) (x0 y0 : Array Value) (T0 : tk q t.p ⟨#[61, 61]⟩ = false) (T1 : tk q t.p ⟨#[33, 61]⟩ = false) (T2 : tk q t.p ⟨#[60, 61]⟩ = false) (T3 : tk q t.p ⟨#[60]⟩ = false) (hok : Live (bs q) q0 c 18 o d t) :
    Calls Tryz.prog 275 #[.pointer (some ⟨g, 0, none⟩), .func f0 x0 y0] w (FnM g q p v n w0 q0 c 18 o d) := by
  have H := hide h
  have HE := hide he
  have HF := hide hf
  have L := hide hok
  clear h he hf hok
  go_enter Tryz.func275, Tryz.ntmps275
  go_wp2_with fail
  refine (c_no H.out hq _ T0).mono ?_
  rintro r w1 ⟨rfl, h1⟩
  clear H
  have H := hide h1
  clear h1
  go_wp2_with fail
  refine (c_no H.out hq _ T1).mono ?_
  rintro r w1 ⟨rfl, h1⟩
  clear H
  have H := hide h1
  clear h1
  go_wp2_with fail
  refine (c_no H.out hq _ T2).mono ?_
  rintro r w1 ⟨rfl, h1⟩
  clear H
  have H := hide h1
  clear h1
  go_wp2_with fail
  refine (c_no H.out hq _ T3).mono ?_
  rintro r w1 ⟨rfl, h1⟩
  clear H
  have H := hide h1
  clear h1
  go_wp2_with fail
  refine (m_isThere _ _ _ _).mono ?_
  rintro r w1 ⟨⟨f1, x1, y1, rfl⟩, hb⟩
  have H' := hide (H.out.below hb)
  clear H hb
  have H := hide H'.out
  clear H'
  go_wp2
  go_ret
  exact ⟨t, L.out, ⟨_, _, _, rfl⟩, H.out⟩

set_option maxHeartbeats 1000000 in
theorem te_le {w0 w : World} {g : Nat} {q : ByteArray} {p v : Value} {n : Nat} (hq : q.size ≤ 1000) (hf : FinP (bs q)) (he : Er g w0) {q0 c d : Nat} {o : List UInt8} {t : St} (h : Qt g q p v n w0 t.p w) (f0 : Fn) (x0 y0 : Array Value) (T0 : tk q t.p ⟨#[61, 61]⟩ = false) (T1 : tk q t.p ⟨#[33, 61]⟩ = false) (T2 : tk q t.p ⟨#[60, 61]⟩ = true) (hok : Live (bs q) q0 c 17 o d { t with p := t.p + 2 }) :
    Calls Tryz.prog 275 #[.pointer (some ⟨g, 0, none⟩), .func f0 x0 y0] w (FnM g q p v n w0 q0 c 18 o d) := by
  have H := hide h
  have HE := hide he
  have HF := hide hf
  have L := hide hok
  clear h he hf hok
  go_enter Tryz.func275, Tryz.ntmps275
  go_wp2_with fail
  refine (c_no H.out hq _ T0).mono ?_
  rintro r w1 ⟨rfl, h1⟩
  clear H
  have H := hide h1
  clear h1
  go_wp2_with fail
  refine (c_no H.out hq _ T1).mono ?_
  rintro r w1 ⟨rfl, h1⟩
  clear H
  have H := hide h1
  clear h1
  go_wp2_with fail
  refine (c_yes H.out hq _ T2 (t.p + 2) rfl).mono ?_
  rintro r w1 ⟨rfl, h1⟩
  clear H
  have H := hide h1
  clear h1
  go_wp2_with fail
  refine (k_constant (t := { t with p := t.p + 2 }) hq HF.out HE.out L.out H.out).mono ?_
  rintro r w1 ⟨t2, hl, ⟨ad, rfl⟩, h1⟩
  have L2 := hide hl
  clear H L hl
  have H := hide h1
  clear h1
  go_wp2_with fail
  refine (m_isLess _ _ _ _ _).mono ?_
  rintro r w1 ⟨⟨f1, x1, y1, rfl⟩, hb⟩
  have H' := hide (H.out.below hb)
  clear H hb
  have H := hide H'.out
  clear H'
  go_wp2_with fail
  refine (m_isEqual _ _ _ _ _).mono ?_
  rintro r w1 ⟨⟨f1, x1, y1, rfl⟩, hb⟩
  have H' := hide (H.out.below hb)
  clear H hb
  have H := hide H'.out
  clear H'
  go_wp2_with fail
  refine (m_oneMet _ _ _ _).mono ?_
  rintro r w1 ⟨⟨f1, x1, y1, rfl⟩, hb⟩
  have H' := hide ((H.out.alloc _).below hb)
  clear H hb
  have H := hide H'.out
  clear H'
  go_wp2
  go_ret
  exact ⟨t2, L2.out, ⟨_, _, _, rfl⟩, H.out⟩

theorem k_test {w0 w : World} {g : Nat} {q : ByteArray} {p v : Value} {n : Nat} (hq : q.size ≤ 1000) (hf : FinP (bs q)) (he : Er g w0) {q0 c d : Nat} {o : List UInt8} {t : St} (hok : Live (bs q) q0 c 11 o d t) (hb : bt (bs q) t.p ≠ 46 ∧ bt (bs q) t.p ≠ 91) (h : Qt g q p v n w0 t.p w) (f0 : Fn) (x0 y0 : Array Value) :
    Calls Tryz.prog 275 #[.pointer (some ⟨g, 0, none⟩), .func f0 x0 y0] w (FnM g q p v n w0 q0 c 18 o d) := by
  have e0 := hok.e0
  by_cases h1 : sees (bs q) t 61 = true
  · have a1 := fin_live hf (ok_eq 61 (Or.inl rfl) (Or.inl hok) h1)
    obtain ⟨a2, a3⟩ := tk_must (sign := ⟨#[61, 61]⟩) a1.e0
    rw [show [61, 61] = nb ⟨#[61, 61]⟩ from rfl, a3] at a1
    exact te_eq hq hf he h f0 x0 y0 a2 a1
  · have h1 : sees (bs q) t 61 = false := by simpa using h1
    have T0 := tk_ne (sign := ⟨#[61, 61]⟩) e0 rfl h1
    by_cases h2 : sees (bs q) t 33 = true
    · have a1 := fin_live hf (ok_eq 33 (Or.inr rfl) (Or.inl hok) h2)
      obtain ⟨a2, a3⟩ := tk_must (sign := ⟨#[33, 61]⟩) a1.e0
      rw [show [33, 61] = nb ⟨#[33, 61]⟩ from rfl, a3] at a1
      exact te_ne hq hf he h f0 x0 y0 T0 a2 a1
    · have h2 : sees (bs q) t 33 = false := by simpa using h2
      have T1 := tk_ne (sign := ⟨#[33, 61]⟩) e0 rfl h2
      by_cases h3 : sees (bs q) t 60 = true
      · have a1 := fin_live hf (ok_less (Or.inl hok) h3)
        have e1 : must (bs q) t [60] = adv t := by show must1 (bs q) t 60 = adv t; unfold must1; rw [if_pos h3]
        rw [e1] at a1
        have b1 := (sees_e h3).2
        by_cases h4 : sees (bs q) (adv t) 61 = true
        · have e2 : has (bs q) (adv t) 61 = adv (adv t) := by unfold has; rw [if_pos h4]
          rw [e2] at a1
          have T2 : tk q t.p ⟨#[60, 61]⟩ = true := by
            rw [tk_pfx]
            have b2 : bt (bs q) (t.p + 1) = 61 := (sees_e h4).2
            show (bt (bs q) t.p == 60 && (bt (bs q) (t.p + 1) == 61 && true)) = true
            rw [b1, b2]; decide
          exact te_le hq hf he h f0 x0 y0 T0 T1 T2 a1
        · have h4 : sees (bs q) (adv t) 61 = false := by simpa using h4
          have e2 : has (bs q) (adv t) 61 = adv t := by unfold has; rw [if_neg (by rw [h4]; decide)]
          rw [e2] at a1
          have T2 : tk q t.p ⟨#[60, 61]⟩ = false := by
            rw [tk_pfx]
            have b2 : (bt (bs q) (t.p + 1) == 61) = false := by simpa [sees, adv, e0] using h4
            show (bt (bs q) t.p == 60 && (bt (bs q) (t.p + 1) == 61 && true)) = false
            rw [b2]; simp
          have T3 : tk q t.p ⟨#[60]⟩ = true := (tk1 q e0 60).trans h3
          exact te_lt hq hf he h f0 x0 y0 T0 T1 T2 T3 a1
      · have h3 : sees (bs q) t 60 = false := by simpa using h3
        have T2 := tk_ne (sign := ⟨#[60, 61]⟩) e0 rfl h3
        have T3 := tk_ne (sign := ⟨#[60]⟩) e0 rfl h3
        have a1 := fin_live hf (ok_bare (Or.inl hok) (fun _ => hb) h1 h2 h3)
        exact te_none hq hf he h f0 x0 y0 T0 T1 T2 T3 a1

end Go.Proofs.YtcbadebjpogmlaaGreatDoor
