/- The program's maker against the plain machine: conditions. -/
import Derived.Test.YtcbadebjpogmlaaGreatDoorJMkN
namespace Go.Proofs.YtcbadebjpogmlaaGreatDoor
open Go.RowKit Tr

theorem infoCond : (Tryz.prog.info? 237).map (fun i => (i.zero, i.size, i.bytes)) = some (some .nilFunc, 1, 8) := by kernel_rfl

/-- A condition comes back, and none of these bytes stands behind it. -/
def CdM (g : Nat) (q : ByteArray) (p v : Value) (n : Nat) (w0 : World) (q0 c : Nat) (o : List UInt8) (d : Nat) (l : List Nat) (r : Ending) (w' : World) : Prop :=
  ∃ t', Live (bs q) q0 c 18 o d t' ∧ (∀ b ∈ l, bt (bs q) t'.p ≠ b) ∧ FnP g q p v n w0 t'.p r w'

/-- What is said of a part, a conjunction, a condition (l: the bytes that don't follow; tr: nothing is left to be trimmed of what is open). -/
def CdC (g : Nat) (q : ByteArray) (p v : Value) (n : Nat) (f : FuncId) (l : List Nat) (tr : Bool) (k : Nat) : Prop :=
  ∀ (w0 w : World) (q0 c d : Nat) (o : List UInt8) (t : St), Er g w0 → Live (bs q) q0 c 10 o d t → (tr = true → trimR o = o) → q.size < t.p + k → Qt g q p v n w0 t.p w →
    Calls Tryz.prog f #[.pointer (some ⟨g, 0, none⟩)] w (CdM g q p v n w0 q0 c o d l)

/-- What holds at the head of a loop over conditions. -/
structure CoL (g : Nat) (q : ByteArray) (p v : Value) (n : Nat) (w0 : World) (B q0 c : Nat) (o : List UInt8) (d : Nat) (l : List Nat) (b0 : Nat) (t : St) (j : Nat) (sv : Value) (wr : World) : Prop where
  qt : Qt g q p v n w0 t.p wr
  lv : Live (bs q) q0 c 18 o d t
  nb : ∀ b ∈ l, bt (bs q) t.p ≠ b
  row : ∃ xs, wr.ownsRow B 237 1 sv j xs
  gb : g < B
  wb : w0.heap.size ≤ B
  sz : B ≤ wr.heap.size
  le : j ≤ t.p + 1
  ge : b0 ≤ t.p

theorem own_one (w : World) (B : Nat) (e : TypeId) (x : Value) (hB : B ≤ w.heap.size) : (w.alloc (.cells #[x] e)).ownsRow B e 1 (.slice (some ⟨w.heap.size, 0, none⟩) 1 1) 1 [x] :=
  ⟨rfl, Or.inr ⟨w.heap.size, 1, #[x], rfl, hB, heap_alloc_new w _, Nat.le_refl _, by unfold maxLen; decide, rfl, rfl⟩⟩

set_option maxHeartbeats 2000000 in
theorem k_conjunction {g : Nat} {q : ByteArray} {p v : Value} {n : Nat} (hq : q.size ≤ 1000) (hf : FinP (bs q)) {k : Nat} (hs : CdC g q p v n 265 [] true k) : CdC g q p v n 256 [38] true k := by
  intro w0 w q0 c d o t he hok htr hk h
  obtain ⟨i0, hi, hz0, hz1, hz2⟩ := info_parts infoCond
  have HI := hide hi
  have HZ0 := hide hz0
  have HZ1 := hide hz1
  have HZ2 := hide hz2
  have HE := hide he
  have HF := hide hf
  have HS := hide hs
  have HT := hide (htr rfl)
  have H := hide h
  have L := hide hok
  have K := hide hk
  have G := hide h.b.lt
  have W := hide h.f.size
  clear h hok he hf hi hz0 hz1 hz2 hs htr hk
  go_enter Tryz.func256, Tryz.ntmps256
  go_wp2_with fail
  refine (HS.out w0 w t.p c d o t HE.out L.out.rebase (fun _ => HT.out) K.out H.out).mono ?_
  rintro r w1 ⟨t1, hl, hn, ⟨f1, x1, y1, rfl⟩, h1⟩
  have S : Hid (CoL g q p v n w0 w1.heap.size q0 c o d [] t.p t1 1 (.slice (some ⟨w1.heap.size, 0, none⟩) 1 1) (w1.alloc (.cells #[.func f1 x1 y1] 237))) :=
    ⟨h1.alloc _, L.out.unbase hl, hn, ⟨_, own_one w1 _ _ _ (Nat.le_refl _)⟩, h1.b.lt, h1.f.size, by simp, by omega, hl.ge⟩
  clear h1 hl hn H G W
  go_wp2_with fail
  go_loopw [3] (fun sv wr => ∃ (t1 : St) (j : Nat), CoL g q p v n w0 w1.heap.size q0 c o d [] t.p t1 j sv wr) (fun _ wr => q.size - mA g wr)
  case atStart => exact ⟨t1, 1, S.out⟩
  case round =>
    clear S
    obtain ⟨t2, j, hS⟩ := hrel
    have S := hide hS
    have hjt := hS.le
    have hge := hS.ge
    have htq : t2.p ≤ q.size := hS.qt.le
    have HM := hide hS.qt.mA
    obtain ⟨xs, hrow⟩ := hS.row
    obtain ⟨ao, cp, rfl⟩ := own_slice hrow
    have R := hide hrow
    have e0 := hS.lv.e0
    clear hS hrow
    by_cases h1 : sees (bs q) t2 38 = true
    · obtain ⟨o1, o2⟩ := ok_and HT.out (Or.inl S.out.lv) h1
      have L1 := fin_live HF.out o1
      have o3 := o2 L1.e0
      obtain ⟨T0, e1⟩ := tk_must (sign := ⟨#[38, 38]⟩) L1.e0
      rw [show [38, 38] = nb ⟨#[38, 38]⟩ from rfl, e1] at L1
      have L2 := hide L1
      clear h1 e0 o1 o2 o3 e1 L1
      go_wp2_with fail
      refine (c_yes S.out.qt.here hq _ T0 (t2.p + 2) rfl).mono ?_
      rintro r w2 ⟨rfl, h2⟩
      have H2 := hide h2
      clear h2
      have E2 := hide (HE.out.keep S.out.qt.f)
      have KK := hide (show q.size < (t2.p + 2) + k by have := K.out; omega)
      go_wp2_with fail
      refine (HS.out wr w2 (t2.p + 2) c d o { t2 with p := t2.p + 2 } E2.out L2.out.rebase (fun _ => HT.out) KK.out H2.out).mono ?_
      rintro r w3 ⟨t3, hl, hn, ⟨f3, x3, y3, rfl⟩, h3⟩
      have hkt : t2.p + 2 ≤ t3.p := hl.ge
      have hkq := h3.le
      have L3 := hide (L2.out.unbase hl)
      have N3 := hide hn
      have H3 := hide h3
      clear H2 h3 hl hn
      have hown3 : w3.ownsRow w1.heap.size 237 1 (.slice ao j cp) j xs := own_fr R.out H3.out.f (fun k hk e => by have := S.out.gb; omega)
      have hB3 : w1.heap.size ≤ w3.heap.size := Nat.le_trans S.out.sz H3.out.f.size
      go_wp2_with (at_builtin; refine wpList_append_own _ rfl _ _ 300 rfl w1.heap.size 237 i0 .nilFunc 1 8 Tryz.underlying300 HI.out HZ0.out HZ1.out HZ2.out rfl (by decide) _ _ _ rfl (hown3.alloc _) ⟨w3.heap.size, 0, none⟩ 1 1 [.func f3 x3 y3] rfl rfl ?c1 ?c2 ?c3 ?c4 ?c5 ?_)
      case c1 =>
        intro j u hj
        match j, hj with
        | 0, hj => simp at hj; subst hj; simp [Addr.add]
      case c2 => intro u hu; simp at hu; subst hu; rfl
      case c3 => unfold maxLen; omega
      case c4 => omega
      case c5 => simp; omega
      intro v' w4 hown4 hgrow _
      have S2 : Hid (CoL g q p v n w0 w1.heap.size q0 c o d [] t.p t3 (j + 1) v' w4) :=
        ⟨(S.out.qt.join (H3.out.alloc _)).grown hgrow (fun k hk => (hown3.lt k hk).1) S.out.gb S.out.wb, L3.out, N3.out, ⟨_, hown4⟩, S.out.gb, S.out.wb, Nat.le_trans hB3 (Nat.le_trans (by simp) hgrow.size), by omega, by omega⟩
      clear hown4 hgrow hown3
      go_wp2
      go_roundw
      case rel => exact ⟨_, _, S2.out⟩
      case measure =>
        have m1 : mA g wr = t2.p := HM.out
        have m2 : mA g w4 = t3.p := S2.out.qt.mA
        rw [m1, m2]
        omega
    · have h1 : sees (bs q) t2 38 = false := by simpa using h1
      have T0 := tk_ne (sign := ⟨#[38, 38]⟩) e0 rfl h1
      have hb : bt (bs q) t2.p ≠ 38 := by simpa [sees, e0] using h1
      have HB := hide hb
      clear h1 hb e0
      go_wp2_with fail
      refine (c_no S.out.qt hq _ T0).mono ?_
      rintro r w2 ⟨rfl, h2⟩
      have H2 := hide h2
      clear h2
      go_wp2_with fail
      refine (m_allMet _ _ _ _).mono ?_
      rintro r w3 ⟨⟨f3, x3, y3, rfl⟩, hb3⟩
      have H3 := hide (H2.out.below hb3)
      clear H2 hb3
      go_wp2
      go_ret
      refine ⟨t2, S.out.lv, fun b hb => ?_, ⟨_, _, _, rfl⟩, H3.out⟩
      simp only [List.mem_cons, List.mem_nil_iff, or_false] at hb
      rw [hb]; exact HB.out

set_option maxHeartbeats 2000000 in
theorem k_condition {g : Nat} {q : ByteArray} {p v : Value} {n : Nat} (hq : q.size ≤ 1000) (hf : FinP (bs q)) {k : Nat} (hs : CdC g q p v n 256 [38] true k) : CdC g q p v n 243 [38, 124] true k := by
  intro w0 w q0 c d o t he hok htr hk h
  obtain ⟨i0, hi, hz0, hz1, hz2⟩ := info_parts infoCond
  have HI := hide hi
  have HZ0 := hide hz0
  have HZ1 := hide hz1
  have HZ2 := hide hz2
  have HE := hide he
  have HF := hide hf
  have HS := hide hs
  have HT := hide (htr rfl)
  have H := hide h
  have L := hide hok
  have K := hide hk
  have G := hide h.b.lt
  have W := hide h.f.size
  clear h hok he hf hi hz0 hz1 hz2 hs htr hk
  go_enter Tryz.func243, Tryz.ntmps243
  go_wp2_with fail
  refine (HS.out w0 w t.p c d o t HE.out L.out.rebase (fun _ => HT.out) K.out H.out).mono ?_
  rintro r w1 ⟨t1, hl, hn, ⟨f1, x1, y1, rfl⟩, h1⟩
  have S : Hid (CoL g q p v n w0 w1.heap.size q0 c o d [38] t.p t1 1 (.slice (some ⟨w1.heap.size, 0, none⟩) 1 1) (w1.alloc (.cells #[.func f1 x1 y1] 237))) :=
    ⟨h1.alloc _, L.out.unbase hl, hn, ⟨_, own_one w1 _ _ _ (Nat.le_refl _)⟩, h1.b.lt, h1.f.size, by simp, by omega, hl.ge⟩
  clear h1 hl hn H G W
  go_wp2_with fail
  go_loopw [3] (fun sv wr => ∃ (t1 : St) (j : Nat), CoL g q p v n w0 w1.heap.size q0 c o d [38] t.p t1 j sv wr) (fun _ wr => q.size - mA g wr)
  case atStart => exact ⟨t1, 1, S.out⟩
  case round =>
    clear S
    obtain ⟨t2, j, hS⟩ := hrel
    have S := hide hS
    have hjt := hS.le
    have hge := hS.ge
    have htq : t2.p ≤ q.size := hS.qt.le
    have HM := hide hS.qt.mA
    obtain ⟨xs, hrow⟩ := hS.row
    obtain ⟨ao, cp, rfl⟩ := own_slice hrow
    have R := hide hrow
    have e0 := hS.lv.e0
    clear hS hrow
    by_cases h1 : sees (bs q) t2 124 = true
    · obtain ⟨o1, o2⟩ := ok_or HT.out (Or.inl S.out.lv) h1
      have L1 := fin_live HF.out o1
      have o3 := o2 L1.e0
      obtain ⟨T0, e1⟩ := tk_must (sign := ⟨#[124, 124]⟩) L1.e0
      rw [show [124, 124] = nb ⟨#[124, 124]⟩ from rfl, e1] at L1
      have L2 := hide L1
      clear h1 e0 o1 o2 o3 e1 L1
      go_wp2_with fail
      refine (c_yes S.out.qt.here hq _ T0 (t2.p + 2) rfl).mono ?_
      rintro r w2 ⟨rfl, h2⟩
      have H2 := hide h2
      clear h2
      have E2 := hide (HE.out.keep S.out.qt.f)
      have KK := hide (show q.size < (t2.p + 2) + k by have := K.out; omega)
      go_wp2_with fail
      refine (HS.out wr w2 (t2.p + 2) c d o { t2 with p := t2.p + 2 } E2.out L2.out.rebase (fun _ => HT.out) KK.out H2.out).mono ?_
      rintro r w3 ⟨t3, hl, hn, ⟨f3, x3, y3, rfl⟩, h3⟩
      have hkt : t2.p + 2 ≤ t3.p := hl.ge
      have hkq := h3.le
      have L3 := hide (L2.out.unbase hl)
      have N3 := hide hn
      have H3 := hide h3
      clear H2 h3 hl hn
      have hown3 : w3.ownsRow w1.heap.size 237 1 (.slice ao j cp) j xs := own_fr R.out H3.out.f (fun k hk e => by have := S.out.gb; omega)
      have hB3 : w1.heap.size ≤ w3.heap.size := Nat.le_trans S.out.sz H3.out.f.size
      go_wp2_with (at_builtin; refine wpList_append_own _ rfl _ _ 300 rfl w1.heap.size 237 i0 .nilFunc 1 8 Tryz.underlying300 HI.out HZ0.out HZ1.out HZ2.out rfl (by decide) _ _ _ rfl (hown3.alloc _) ⟨w3.heap.size, 0, none⟩ 1 1 [.func f3 x3 y3] rfl rfl ?c1 ?c2 ?c3 ?c4 ?c5 ?_)
      case c1 =>
        intro j u hj
        match j, hj with
        | 0, hj => simp at hj; subst hj; simp [Addr.add]
      case c2 => intro u hu; simp at hu; subst hu; rfl
      case c3 => unfold maxLen; omega
      case c4 => omega
      case c5 => simp; omega
      intro v' w4 hown4 hgrow _
      have S2 : Hid (CoL g q p v n w0 w1.heap.size q0 c o d [38] t.p t3 (j + 1) v' w4) :=
        ⟨(S.out.qt.join (H3.out.alloc _)).grown hgrow (fun k hk => (hown3.lt k hk).1) S.out.gb S.out.wb, L3.out, N3.out, ⟨_, hown4⟩, S.out.gb, S.out.wb, Nat.le_trans hB3 (Nat.le_trans (by simp) hgrow.size), by omega, by omega⟩
      clear hown4 hgrow hown3
      go_wp2
      go_roundw
      case rel => exact ⟨_, _, S2.out⟩
      case measure =>
        have m1 : mA g wr = t2.p := HM.out
        have m2 : mA g w4 = t3.p := S2.out.qt.mA
        rw [m1, m2]
        omega
    · have h1 : sees (bs q) t2 124 = false := by simpa using h1
      have T0 := tk_ne (sign := ⟨#[124, 124]⟩) e0 rfl h1
      have hb : bt (bs q) t2.p ≠ 124 := by simpa [sees, e0] using h1
      have HB := hide hb
      clear h1 hb e0
      go_wp2_with fail
      refine (c_no S.out.qt hq _ T0).mono ?_
      rintro r w2 ⟨rfl, h2⟩
      have H2 := hide h2
      clear h2
      go_wp2_with fail
      refine (m_oneMet _ _ _ _).mono ?_
      rintro r w3 ⟨⟨f3, x3, y3, rfl⟩, hb3⟩
      have H3 := hide (H2.out.below hb3)
      clear H2 hb3
      go_wp2
      go_ret
      refine ⟨t2, S.out.lv, fun b hb => ?_, ⟨_, _, _, rfl⟩, H3.out⟩
      simp only [List.mem_cons, List.mem_nil_iff, or_false] at hb
      have hn := S.out.nb
      simp only [List.mem_cons, List.mem_nil_iff, or_false] at hn
      rcases hb with rfl | rfl
      · exact hn _ rfl
      · exact HB.out

end Go.Proofs.YtcbadebjpogmlaaGreatDoor

/- The program's maker against the plain machine: parts, and the recursion. -/
namespace Go.Proofs.YtcbadebjpogmlaaGreatDoor
open Go.RowKit Tr

theorem CdC.weak {g : Nat} {q : ByteArray} {p v : Value} {n : Nat} {f : FuncId} {l : List Nat} {k : Nat} (h : CdC g q p v n f l false k) : CdC g q p v n f l true k :=
  fun w0 w q0 c d o t he hok _ hk hq => h w0 w q0 c d o t he hok (fun x => by cases x) hk hq

theorem fin_push {q : ByteArray} (hf : FinP (bs q)) {q0 c d : Nat} {o : List UInt8} {t : St} (x : UInt8) (hx : x = 33 ∨ x = 40) (h : Live (bs q) q0 c 10 o d t) (hb : sees (bs q) t x.toNat = true) : Live (bs q) q0 c 10 (o ++ [x]) d (adv t) := by
  by_cases ho : o.length = 6
  · have := fin_live hf (ok_deep x.toNat (by rcases hx with rfl | rfl; exact Or.inl rfl; exact Or.inr rfl) (Or.inl h) hb ho)
    have := this.e0
    simp [wrong, h.e0] at this
  · exact live_push x hx (Or.inl h) hb ho

set_option maxHeartbeats 1000000 in
theorem pa_bang {g : Nat} {q : ByteArray} {p v : Value} {n k : Nat} (hq : q.size ≤ 1000) (hs : CdC g q p v n 265 [] false k) {w0 w : World} {q0 c d : Nat} {o : List UInt8} {t : St} (he : Er g w0) (h : Qt g q p v n w0 t.p w)
    (T0 : tk q t.p ⟨#[33]⟩ = true) (hok : Live (bs q) q0 c 10 (o ++ [33]) d (adv t)) (hk : q.size < t.p + 1 + k) :
    Calls Tryz.prog 265 #[.pointer (some ⟨g, 0, none⟩)] w (CdM g q p v n w0 q0 c o d []) := by
  have H := hide h
  have HE := hide he
  have HS := hide hs
  have L := hide hok
  have K := hide hk
  clear h he hs hok hk
  go_enter Tryz.func265, Tryz.ntmps265
  go_wp2_with fail
  refine (c_yes H.out hq _ T0 (t.p + 1) rfl).mono ?_
  rintro r w1 ⟨rfl, h1⟩
  clear H
  have H := hide h1
  clear h1
  go_wp2_with fail
  refine (HS.out w0 w1 q0 c d (o ++ [33]) (adv t) HE.out L.out (fun x => by cases x) K.out H.out).mono ?_
  rintro r w2 ⟨t2, hl, _, ⟨f2, x2, y2, rfl⟩, h2⟩
  have L2 := hide hl
  have H2 := hide h2
  clear h2 hl H
  go_wp2_with fail
  refine (m_notMet _ _ _ _).mono ?_
  rintro r w3 ⟨⟨f3, x3, y3, rfl⟩, hb3⟩
  have H3 := hide (H2.out.below hb3)
  clear H2 hb3
  go_wp2
  go_ret
  refine ⟨t2, ?_, fun b hb => by (cases hb), ⟨_, _, _, rfl⟩, H3.out⟩
  rcases ok_unbang (Or.inl L2.out) with x | x
  · exact x
  · exact absurd L2.out.e0 x.ne

set_option maxHeartbeats 1000000 in
theorem pa_open {g : Nat} {q : ByteArray} {p v : Value} {n k : Nat} (hq : q.size ≤ 1000) (hf : FinP (bs q)) (hs : CdC g q p v n 243 [38, 124] true k) {w0 w : World} {q0 c d : Nat} {o : List UInt8} {t : St} (he : Er g w0) (h : Qt g q p v n w0 t.p w)
    (T0 : tk q t.p ⟨#[33]⟩ = false) (T1 : tk q t.p ⟨#[40]⟩ = true) (hok : Live (bs q) q0 c 10 (o ++ [40]) d (adv t)) (hk : q.size < t.p + 1 + k) :
    Calls Tryz.prog 265 #[.pointer (some ⟨g, 0, none⟩)] w (CdM g q p v n w0 q0 c o d []) := by
  have H := hide h
  have HE := hide he
  have HF := hide hf
  have HS := hide hs
  have L := hide hok
  have K := hide hk
  clear h he hs hok hk hf
  go_enter Tryz.func265, Tryz.ntmps265
  go_wp2_with fail
  refine (c_no H.out hq _ T0).mono ?_
  rintro r w1 ⟨rfl, h1⟩
  clear H
  have H := hide h1
  clear h1
  go_wp2_with fail
  refine (c_yes H.out hq _ T1 (t.p + 1) rfl).mono ?_
  rintro r w1 ⟨rfl, h1⟩
  clear H
  have H := hide h1
  clear h1
  go_wp2_with fail
  refine (HS.out w0 w1 q0 c d (o ++ [40]) (adv t) HE.out L.out (fun _ => trimR_open o) K.out H.out).mono ?_
  rintro r w2 ⟨t2, hl, hn, ⟨f2, x2, y2, rfl⟩, h2⟩
  have a1 := fin_live HF.out (ok_close (Or.inl hl) (fun _ => ⟨hn 38 (by simp), hn 124 (by simp)⟩))
  obtain ⟨T2, e2⟩ := tk_must (sign := ⟨#[41]⟩) a1.e0
  rw [show [41] = nb ⟨#[41]⟩ from rfl, e2] at a1
  have L2 := hide a1
  have H2 := hide h2
  clear h2 hl H hn a1 e2
  go_wp2_with fail
  refine (c_yes H2.out hq _ T2 (t2.p + 1) rfl).mono ?_
  rintro r w3 ⟨rfl, h3⟩
  have H3 := hide h3
  clear h3 H2
  go_wp2
  go_ret
  exact ⟨_, L2.out, fun b hb => by (cases hb), ⟨_, _, _, rfl⟩, H3.out⟩

set_option maxHeartbeats 1000000 in
theorem pa_at {g : Nat} {q : ByteArray} {p v : Value} {n : Nat} (hq : q.size ≤ 1000) (hf : FinP (bs q)) {w0 w : World} {q0 c d : Nat} {o : List UInt8} {t : St} (he : Er g w0) (h : Qt g q p v n w0 t.p w)
    (T0 : tk q t.p ⟨#[33]⟩ = false) (T1 : tk q t.p ⟨#[40]⟩ = false) (T2 : tk q t.p ⟨#[64]⟩ = true) (hok : Live (bs q) q0 c 11 o d { t with p := t.p + 1 }) :
    Calls Tryz.prog 265 #[.pointer (some ⟨g, 0, none⟩)] w (CdM g q p v n w0 q0 c o d []) := by
  have H := hide h
  have HE := hide he
  have HF := hide hf
  have L := hide hok
  clear h he hok hf
  go_enter Tryz.func265, Tryz.ntmps265
  go_wp2_with fail
  refine (c_no H.out hq _ T0).mono ?_
  rintro r w1 ⟨rfl, h1⟩
  clear H
  have H := hide h1
  clear h1
  go_wp2_with fail
  refine (c_no H.out hq _ T1).mono ?_
  rintro r w1 ⟨rfl, h1⟩
  clear H
  have H := hide h1
  clear h1
  go_wp2_with fail
  refine (c_yes H.out hq _ T2 (t.p + 1) rfl).mono ?_
  rintro r w1 ⟨rfl, h1⟩
  clear H
  have H := hide h1
  clear h1
  go_wp2_with fail
  refine (k_steps (t := { t with p := t.p + 1 }) hq HF.out HE.out L.out H.out).mono ?_
  rintro r w2 ⟨t2, sv, hl, hb, rfl, ⟨ao, j, cp, rfl⟩, h2⟩
  have L2 := hide hl
  have B2 := hide hb
  have H2 := hide h2
  clear h2 hl hb H
  go_wp2_with fail
  refine (m_leadBy _ _ _ _).mono ?_
  rintro r w3 ⟨⟨f3, x3, y3, rfl⟩, hb3⟩
  have H3 := hide (H2.out.below hb3)
  clear H2 hb3
  go_wp2_with fail
  refine (k_test hq HF.out HE.out L2.out B2.out H3.out _ _ _).mono ?_
  rintro r w4 ⟨t4, hl, ⟨f4, x4, y4, rfl⟩, h4⟩
  have L4 := hide hl
  have H4 := hide h4
  clear h4 hl H3
  go_wp2
  go_ret
  exact ⟨t4, L4.out, fun b hb => by (cases hb), ⟨_, _, _, rfl⟩, H4.out⟩

theorem k_part {g : Nat} {q : ByteArray} {p v : Value} {n : Nat} (hq : q.size ≤ 1000) (hf : FinP (bs q)) : ∀ k, CdC g q p v n 265 [] false k := by
  intro k
  induction k with
  | zero =>
    intro w0 w q0 c d o t _ hok _ hk _
    have := hok.le
    rw [bs_len] at this
    omega
  | succ k ih =>
    intro w0 w q0 c d o t he hok _ hk h
    have e0 := hok.e0
    by_cases h1 : sees (bs q) t 33 = true
    · exact pa_bang hq ih he h ((tk1 q e0 33).trans h1) (fin_push hf 33 (Or.inl rfl) hok h1) (by omega)
    · have h1 : sees (bs q) t 33 = false := by simpa using h1
      have T0 := tk_ne (sign := ⟨#[33]⟩) e0 rfl h1
      by_cases h2 : sees (bs q) t 40 = true
      · exact pa_open hq hf (k_condition hq hf (k_conjunction hq hf ih.weak)) he h T0 ((tk1 q e0 40).trans h2) (fin_push hf 40 (Or.inr rfl) hok h2) (by omega)
      · have h2 : sees (bs q) t 40 = false := by simpa using h2
        have T1 := tk_ne (sign := ⟨#[40]⟩) e0 rfl h2
        have a1 := fin_live hf (ok_at (Or.inl hok) h1 h2)
        obtain ⟨T2, e2⟩ := tk_must (sign := ⟨#[64]⟩) a1.e0
        rw [show [64] = nb ⟨#[64]⟩ from rfl, e2] at a1
        exact pa_at hq hf he h T0 T1 T2 a1

/-- A condition, whole. -/
theorem k_cond {g : Nat} {q : ByteArray} {p v : Value} {n : Nat} (hq : q.size ≤ 1000) (hf : FinP (bs q)) {w0 w : World} {q0 c d : Nat} {t : St} (he : Er g w0) (hok : Live (bs q) q0 c 10 [] d t) (h : Qt g q p v n w0 t.p w) :
    Calls Tryz.prog 243 #[.pointer (some ⟨g, 0, none⟩)] w (CdM g q p v n w0 q0 c [] d [38, 124]) :=
  k_condition hq hf (k_conjunction hq hf (k_part hq hf (q.size + 1)).weak) w0 w q0 c d [] t he hok (fun _ => trimR_nil) (by omega) h

end Go.Proofs.YtcbadebjpogmlaaGreatDoor
