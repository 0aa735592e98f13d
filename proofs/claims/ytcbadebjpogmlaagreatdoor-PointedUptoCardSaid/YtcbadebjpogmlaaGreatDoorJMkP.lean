import Derived.Test.YtcbadebjpogmlaaGreatDoorJMkM
namespace Go.Proofs.YtcbadebjpogmlaaGreatDoor
open Go.RowKit Tr
def FnM (g : Nat) (q : ByteArray) (p v : Value) (n : Nat) (w0 : World) (B q0 c X : Nat) (o : List UInt8) (d : Nat) (R : PS (Tv → Bool)) (r : Ending) (w' : World) : Prop :=
  ∃ t' f D, Live (bs q) q0 c X o d t' ∧ R.p = t'.p ∧ r = .returned f ∧ Ft D B w' ∧ OkD D w' (fun w => CondV w f R.v) ∧ Qt g q p v n w0 t'.p w'
set_option maxHeartbeats 1000000 in
theorem te_eq {w : World} {g : Nat} {q : ByteArray} {p v : Value} {n : Nat} (hq : q.size ≤ 1000) (hf : FinP (bs q)) (he : Er g w) {q0 c d : Nat} {o : List UInt8} {t : St} (h : Qt g q p v n w t.p w) {f : Value} {D0 : Nat → Prop} {l : List StA} {B : Nat} (ft : Ft D0 B w) (ok : OkD D0 w (fun w => LeadV w f l)) (hB : B ≤ w.heap.size) (hgB : g < B)
    (T0 : tk q t.p ⟨#[61, 61]⟩ = true) (hok : Live (bs q) q0 c 17 o d { t with p := t.p + 2 }) {R : PS (Tv → Bool)} (hR : R = ⟨fun t' => sameT (pConst (bs q) (t.p + 2)).v (leadT t' l), (pConst (bs q) (t.p + 2)).p⟩) :
    Calls Tryz.prog 275 #[.pointer (some ⟨g, 0, none⟩), f] w (FnM g q p v n w B q0 c 18 o d R) := by
  obtain ⟨N0, cap0, rfl, _, _⟩ := ok.self
  have FT := hide ft
  have OK := hide ok
  have H := hide h
  have HR := hide hR
  have HE := hide he
  have HF := hide hf
  have L := hide hok
  clear h he hf hok ft ok hR
  go_enter Tryz.func275, Tryz.ntmps275
  go_wp2_with fail
  refine (c_yes H.out hq _ T0 (t.p + 2) rfl).mono ?_
  rintro r w1 ⟨rfl, h1⟩
  clear H
  have H := hide h1
  clear h1
  go_wp2_with fail
  refine (k_constant (t := { t with p := t.p + 2 }) hq HF.out HE.out L.out H.out).mono ?_
  rintro r w1 ⟨t2, kt, hl, hpc, hko, ⟨b, rfl, hbge, hblk⟩, h1⟩
  have L2 := hide hl
  have PC := hide hpc
  have KK := hide hko
  have BL := hide hblk
  have S1 : Hid (Sm D0 w w1) := Sm.fr FT.out h1.f (fun k hk e => by omega)
  have hsz1 : w.heap.size ≤ w1.heap.size := h1.f.size
  clear H L hl hpc hko hblk
  have H := hide h1
  clear h1
  go_wp2_with fail
  refine (m_isEqual (FT.out.keep S1.out) (OK.out.keep S1.out) (Nat.le_trans hB hsz1) BL.out (Nat.le_trans hB hbge) KK.out).mono ?_
  rintro r w2 ⟨⟨f2, D2, rfl, hft2, hok2⟩, hb2⟩
  obtain ⟨N2, cap2, rfl, _, _⟩ := hok2.self
  have FT2 := hide hft2
  have OK2 := hide hok2
  have H2 := hide (H.out.below hb2)
  have le2 := hide hb2.size
  clear hft2 hok2 hb2
  go_wp2
  go_ret
  exact ⟨t2, _, _, L2.out, by rw [HR.out]; exact congrArg PS.p PC.out, rfl, FT2.out, by rw [HR.out]; exact (congrArg PS.v PC.out).symm ▸ OK2.out, H2.out⟩
set_option maxHeartbeats 1000000 in
theorem te_ne {w : World} {g : Nat} {q : ByteArray} {p v : Value} {n : Nat} (hq : q.size ≤ 1000) (hf : FinP (bs q)) (he : Er g w) {q0 c d : Nat} {o : List UInt8} {t : St} (h : Qt g q p v n w t.p w) {f : Value} {D0 : Nat → Prop} {l : List StA} {B : Nat} (ft : Ft D0 B w) (ok : OkD D0 w (fun w => LeadV w f l)) (hB : B ≤ w.heap.size) (hgB : g < B)
    (T0 : tk q t.p ⟨#[61, 61]⟩ = false) (T1 : tk q t.p ⟨#[33, 61]⟩ = true) (hok : Live (bs q) q0 c 17 o d { t with p := t.p + 2 }) {R : PS (Tv → Bool)} (hR : R = ⟨fun t' => !(sameT (pConst (bs q) (t.p + 2)).v (leadT t' l)), (pConst (bs q) (t.p + 2)).p⟩) :
    Calls Tryz.prog 275 #[.pointer (some ⟨g, 0, none⟩), f] w (FnM g q p v n w B q0 c 18 o d R) := by
  obtain ⟨N0, cap0, rfl, _, _⟩ := ok.self
  have FT := hide ft
  have OK := hide ok
  have H := hide h
  have HR := hide hR
  have HE := hide he
  have HF := hide hf
  have L := hide hok
  clear h he hf hok ft ok hR
  go_enter Tryz.func275, Tryz.ntmps275
  go_wp2_with fail
  refine (c_no H.out hq _ T0).mono ?_
  rintro r w1 ⟨rfl, h1⟩
  clear H
  have H := hide h1
  clear h1
  go_wp2_with fail
  refine (c_yes H.out hq _ T1 (t.p + 2) rfl).mono ?_
  rintro r w1 ⟨rfl, h1⟩
  clear H
  have H := hide h1
  clear h1
  go_wp2_with fail
  refine (k_constant (t := { t with p := t.p + 2 }) hq HF.out HE.out L.out H.out).mono ?_
  rintro r w1 ⟨t2, kt, hl, hpc, hko, ⟨b, rfl, hbge, hblk⟩, h1⟩
  have L2 := hide hl
  have PC := hide hpc
  have KK := hide hko
  have BL := hide hblk
  have S1 : Hid (Sm D0 w w1) := Sm.fr FT.out h1.f (fun k hk e => by omega)
  have hsz1 : w.heap.size ≤ w1.heap.size := h1.f.size
  clear H L hl hpc hko hblk
  have H := hide h1
  clear h1
  go_wp2_with fail
  refine (m_isEqual (FT.out.keep S1.out) (OK.out.keep S1.out) (Nat.le_trans hB hsz1) BL.out (Nat.le_trans hB hbge) KK.out).mono ?_
  rintro r w2 ⟨⟨f2, D2, rfl, hft2, hok2⟩, hb2⟩
  obtain ⟨N2, cap2, rfl, _, _⟩ := hok2.self
  have FT2 := hide hft2
  have OK2 := hide hok2
  have H2 := hide (H.out.below hb2)
  have le2 := hide hb2.size
  clear hft2 hok2 hb2
  go_wp2_with fail
  refine (m_notMet FT2.out OK2.out (Nat.le_trans hB (Nat.le_trans hsz1 le2.out))).mono ?_
  rintro r w3 ⟨⟨f3, D3, rfl, hft3, hok3⟩, hb3⟩
  obtain ⟨N3, cap3, rfl, _, _⟩ := hok3.self
  have FT3 := hide hft3
  have OK3 := hide hok3
  have H3 := hide (H2.out.below hb3)
  clear hft3 hok3 hb3 H2
  go_wp2
  go_ret
  exact ⟨t2, _, _, L2.out, by rw [HR.out]; exact congrArg PS.p PC.out, rfl, FT3.out, by rw [HR.out]; exact (congrArg PS.v PC.out).symm ▸ OK3.out, H3.out⟩
set_option maxHeartbeats 1000000 in
theorem te_lt {w : World} {g : Nat} {q : ByteArray} {p v : Value} {n : Nat} (hq : q.size ≤ 1000) (hf : FinP (bs q)) (he : Er g w) {q0 c d : Nat} {o : List UInt8} {t : St} (h : Qt g q p v n w t.p w) {f : Value} {D0 : Nat → Prop} {l : List StA} {B : Nat} (ft : Ft D0 B w) (ok : OkD D0 w (fun w => LeadV w f l)) (hB : B ≤ w.heap.size) (hgB : g < B)
    (T0 : tk q t.p ⟨#[61, 61]⟩ = false) (T1 : tk q t.p ⟨#[33, 61]⟩ = false) (T2 : tk q t.p ⟨#[60, 61]⟩ = false) (T3 : tk q t.p ⟨#[60]⟩ = true) (hok : Live (bs q) q0 c 17 o d { t with p := t.p + 1 }) {R : PS (Tv → Bool)} (hR : R = ⟨fun t' => lessT (pConst (bs q) (t.p + 1)).v (leadT t' l), (pConst (bs q) (t.p + 1)).p⟩) :
    Calls Tryz.prog 275 #[.pointer (some ⟨g, 0, none⟩), f] w (FnM g q p v n w B q0 c 18 o d R) := by
  obtain ⟨N0, cap0, rfl, _, _⟩ := ok.self
  have FT := hide ft
  have OK := hide ok
  have H := hide h
  have HR := hide hR
  have HE := hide he
  have HF := hide hf
  have L := hide hok
  clear h he hf hok ft ok hR
  go_enter Tryz.func275, Tryz.ntmps275
  go_wp2_with fail
  refine (c_no H.out hq _ T0).mono ?_
  rintro r w1 ⟨rfl, h1⟩
  clear H
  have H := hide h1
  clear h1
  go_wp2_with fail
  refine (c_no H.out hq _ T1).mono ?_
  rintro r w1 ⟨rfl, h1⟩
  clear H
  have H := hide h1
  clear h1
  go_wp2_with fail
  refine (c_no H.out hq _ T2).mono ?_
  rintro r w1 ⟨rfl, h1⟩
  clear H
  have H := hide h1
  clear h1
  go_wp2_with fail
  refine (c_yes H.out hq _ T3 (t.p + 1) rfl).mono ?_
  rintro r w1 ⟨rfl, h1⟩
  clear H
  have H := hide h1
  clear h1
  go_wp2_with fail
  refine (k_constant (t := { t with p := t.p + 1 }) hq HF.out HE.out L.out H.out).mono ?_
  rintro r w1 ⟨t2, kt, hl, hpc, hko, ⟨b, rfl, hbge, hblk⟩, h1⟩
  have L2 := hide hl
  have PC := hide hpc
  have KK := hide hko
  have BL := hide hblk
  have S1 : Hid (Sm D0 w w1) := Sm.fr FT.out h1.f (fun k hk e => by omega)
  have hsz1 : w.heap.size ≤ w1.heap.size := h1.f.size
  clear H L hl hpc hko hblk
  have H := hide h1
  clear h1
  go_wp2_with fail
  refine (m_isLess (FT.out.keep S1.out) (OK.out.keep S1.out) (Nat.le_trans hB hsz1) BL.out (Nat.le_trans hB hbge) KK.out).mono ?_
  rintro r w2 ⟨⟨f2, D2, rfl, hft2, hok2⟩, hb2⟩
  obtain ⟨N2, cap2, rfl, _, _⟩ := hok2.self
  have FT2 := hide hft2
  have OK2 := hide hok2
  have H2 := hide (H.out.below hb2)
  have le2 := hide hb2.size
  clear hft2 hok2 hb2
  go_wp2
  go_ret
  exact ⟨t2, _, _, L2.out, by rw [HR.out]; exact congrArg PS.p PC.out, rfl, FT2.out, by rw [HR.out]; exact (congrArg PS.v PC.out).symm ▸ OK2.out, H2.out⟩
set_option maxHeartbeats 1000000 in
theorem te_none {w : World} {g : Nat} {q : ByteArray} {p v : Value} {n : Nat} (hq : q.size ≤ 1000) {q0 c d : Nat} {o : List UInt8} {t : St} (h : Qt g q p v n w t.p w) {f : Value} {D0 : Nat → Prop} {l : List StA} {B : Nat} (ft : Ft D0 B w) (ok : OkD D0 w (fun w => LeadV w f l)) (hB : B ≤ w.heap.size) (hgB : g < B)
    (T0 : tk q t.p ⟨#[61, 61]⟩ = false) (T1 : tk q t.p ⟨#[33, 61]⟩ = false) (T2 : tk q t.p ⟨#[60, 61]⟩ = false) (T3 : tk q t.p ⟨#[60]⟩ = false) (hok : Live (bs q) q0 c 18 o d t) {R : PS (Tv → Bool)} (hR : R = ⟨fun t' => (leadT t' l).isSome, t.p⟩) :
    Calls Tryz.prog 275 #[.pointer (some ⟨g, 0, none⟩), f] w (FnM g q p v n w B q0 c 18 o d R) := by
  obtain ⟨N0, cap0, rfl, _, _⟩ := ok.self
  have FT := hide ft
  have OK := hide ok
  have H := hide h
  have HR := hide hR
  have L := hide hok
  clear h hok ft ok hR
  go_enter Tryz.func275, Tryz.ntmps275
  go_wp2_with fail
  refine (c_no H.out hq _ T0).mono ?_
  rintro r w1 ⟨rfl, h1⟩
  clear H
  have H := hide h1
  clear h1
  go_wp2_with fail
  refine (c_no H.out hq _ T1).mono ?_
  rintro r w1 ⟨rfl, h1⟩
  clear H
  have H := hide h1
  clear h1
  go_wp2_with fail
  refine (c_no H.out hq _ T2).mono ?_
  rintro r w1 ⟨rfl, h1⟩
  clear H
  have H := hide h1
  clear h1
  go_wp2_with fail
  refine (c_no H.out hq _ T3).mono ?_
  rintro r w1 ⟨rfl, h1⟩
  clear H
  have H := hide h1
  clear h1
  have S1 : Hid (Sm D0 w w1) := Sm.fr FT.out H.out.f (fun k hk e => by omega)
  have hsz1 : w.heap.size ≤ w1.heap.size := H.out.f.size
  go_wp2_with fail
  refine (m_isThere (FT.out.keep S1.out) (OK.out.keep S1.out) (Nat.le_trans hB hsz1)).mono ?_
  rintro r w2 ⟨⟨f2, D2, rfl, hft2, hok2⟩, hb2⟩
  obtain ⟨N2, cap2, rfl, _, _⟩ := hok2.self
  have FT2 := hide hft2
  have OK2 := hide hok2
  have H2 := hide (H.out.below hb2)
  clear hft2 hok2 hb2
  go_wp2
  go_ret
  exact ⟨t, _, _, L.out, by rw [HR.out], rfl, FT2.out, by rw [HR.out]; exact OK2.out, H2.out⟩
set_option maxHeartbeats 1000000 in
theorem te_le {w : World} {g : Nat} {q : ByteArray} {p v : Value} {n : Nat} (hq : q.size ≤ 1000) (hf : FinP (bs q)) (he : Er g w) {q0 c d : Nat} {o : List UInt8} {t : St} (h : Qt g q p v n w t.p w) {f : Value} {D0 : Nat → Prop} {l : List StA} {B : Nat} (ft : Ft D0 B w) (ok : OkD D0 w (fun w => LeadV w f l)) (hB : B ≤ w.heap.size) (hgB : g < B)
    (T0 : tk q t.p ⟨#[61, 61]⟩ = false) (T1 : tk q t.p ⟨#[33, 61]⟩ = false) (T2 : tk q t.p ⟨#[60, 61]⟩ = true) (hok : Live (bs q) q0 c 17 o d { t with p := t.p + 2 }) {R : PS (Tv → Bool)} (hR : R = ⟨fun t' => sameT (pConst (bs q) (t.p + 2)).v (leadT t' l) || lessT (pConst (bs q) (t.p + 2)).v (leadT t' l), (pConst (bs q) (t.p + 2)).p⟩) :
    Calls Tryz.prog 275 #[.pointer (some ⟨g, 0, none⟩), f] w (FnM g q p v n w B q0 c 18 o d R) := by
  obtain ⟨N0, cap0, rfl, _, _⟩ := ok.self
  have FT := hide ft
  have OK := hide ok
  have H := hide h
  have HR := hide hR
  have HE := hide he
  have HF := hide hf
  have L := hide hok
  clear h he hf hok ft ok hR
  go_enter Tryz.func275, Tryz.ntmps275
  go_wp2_with fail
  refine (c_no H.out hq _ T0).mono ?_
  rintro r w1 ⟨rfl, h1⟩
  clear H
  have H := hide h1
  clear h1
  go_wp2_with fail
  refine (c_no H.out hq _ T1).mono ?_
  rintro r w1 ⟨rfl, h1⟩
  clear H
  have H := hide h1
  clear h1
  go_wp2_with fail
  refine (c_yes H.out hq _ T2 (t.p + 2) rfl).mono ?_
  rintro r w1 ⟨rfl, h1⟩
  clear H
  have H := hide h1
  clear h1
  go_wp2_with fail
  refine (k_constant (t := { t with p := t.p + 2 }) hq HF.out HE.out L.out H.out).mono ?_
  rintro r w1 ⟨t2, kt, hl, hpc, hko, ⟨b, rfl, hbge, hblk⟩, h1⟩
  have L2 := hide hl
  have PC := hide hpc
  have KK := hide hko
  have BL := hide hblk
  have S1 : Hid (Sm D0 w w1) := Sm.fr FT.out h1.f (fun k hk e => by omega)
  have hsz1 : w.heap.size ≤ w1.heap.size := h1.f.size
  clear H L hl hpc hko hblk
  have H := hide h1
  clear h1
  go_wp2_with fail
  refine (m_isLess (FT.out.keep S1.out) (OK.out.keep S1.out) (Nat.le_trans hB hsz1) BL.out (Nat.le_trans hB hbge) KK.out).mono ?_
  rintro r w2 ⟨⟨f2, D2, rfl, hft2, hok2⟩, hb2⟩
  obtain ⟨N2, cap2, rfl, _, _⟩ := hok2.self
  have FT2 := hide hft2
  have OK2 := hide hok2
  have H2 := hide (H.out.below hb2)
  have le2 := hide hb2.size
  have B2 := hide hb2
  clear hft2 hok2 hb2
  have S2 : Hid (Sm D0 w w2) := S1.out.trans (Sm.fr (K := fun _ => False) (FT.out.keep S1.out) (Fr.of_below B2.out) (fun _ _ x => x))
  have BL2 := hide (BL.out.fr (Fr.of_below (K := fun _ => False) B2.out) id)
  have hsz2 : w.heap.size ≤ w2.heap.size := Nat.le_trans hsz1 le2.out
  go_wp2_with fail
  refine (m_isEqual (FT.out.keep S2.out) (OK.out.keep S2.out) (Nat.le_trans hB hsz2) BL2.out (Nat.le_trans hB hbge) KK.out).mono ?_
  rintro r w3 ⟨⟨f3, D3, rfl, hft3, hok3⟩, hb3⟩
  obtain ⟨N3, cap3, rfl, _, _⟩ := hok3.self
  have hbl3 : Sm D2 w2 w3 := Sm.fr (K := fun _ => False) FT2.out (Fr.of_below hb3) (fun _ _ x => x)
  have FT4 := hide ((FT2.out.keep hbl3).or hft3)
  have OKA := hide ((OK2.out.keep hbl3).more (D' := fun k => D2 k ∨ D3 k) (fun _ => Or.inl))
  have OKB := hide (hok3.more (D' := fun k => D2 k ∨ D3 k) (fun _ => Or.inr))
  have H3 := hide (H2.out.below hb3)
  have hsz3 : w2.heap.size ≤ w3.heap.size := hb3.size
  clear hft3 hok3 hb3 H2 hbl3 FT2 OK2 B2
  have RW : Hid (Row 237 B (fun i w f => ∀ φ, [fun t' => lessT kt (leadT t' l), fun t' => sameT kt (leadT t' l)][i]? = some φ → CondV w f φ) (fun k => D2 k ∨ D3 k) (.slice (some ⟨w3.heap.size, 0, none⟩) 2 2) [.func (.func N2) #[] cap2, .func (.func N3) #[] cap3] (w3.alloc (.cells #[.func (.func N2) #[] cap2, .func (.func N3) #[] cap3] 237))) := by
    have s := Sm.alloc FT4.out (.cells #[.func (.func N2) #[] cap2, .func (.func N3) #[] cap3] 237)
    refine ⟨⟨rfl, Or.inr ⟨w3.heap.size, 2, _, rfl, by omega, heap_alloc_new w3 _, Nat.le_refl _, by unfold maxLen; decide, rfl, rfl⟩⟩, FT4.out.keep s, fun k hk e => ?_, fun i hi w' s' φ he => ?_⟩
    · have h1 := FT4.out.lt hk
      have h2 : w3.heap.size = k := Option.some.inj e
      omega
    match i, hi with
    | 0, _ => simp at he; subst he; exact (OKA.out.keep s) w' s'
    | 1, _ => simp at he; subst he; exact (OKB.out.keep s) w' s'
  go_wp2_with fail
  refine (m_oneMet RW.out rfl (by show 2 ≤ 1000; decide) (by simp; omega)).mono ?_
  rintro r w5 ⟨⟨f5, D5, rfl, hft5, hok5⟩, hb5⟩
  obtain ⟨N5, cap5, rfl, _, _⟩ := hok5.self
  have FT5 := hide hft5
  have OK5 := hide hok5
  have H5 := hide ((H3.out.alloc _).below hb5)
  clear hft5 hok5 hb5 H3 RW
  go_wp2
  go_ret
  refine ⟨t2, _, _, L2.out, by rw [HR.out]; exact congrArg PS.p PC.out, rfl, FT5.out, ?_, H5.out⟩
  have eR : R.v = fun t' => [fun t' => lessT kt (leadT t' l), fun t' => sameT kt (leadT t' l)].any (fun φ => φ t') := by
    rw [HR.out]
    funext t'
    rw [congrArg PS.v PC.out]
    simp [Bool.or_comm]
  rw [eR]
  exact OK5.out
theorem k_test {w : World} {g : Nat} {q : ByteArray} {p v : Value} {n : Nat} (hq : q.size ≤ 1000) (hf : FinP (bs q)) (he : Er g w) {q0 c d : Nat} {o : List UInt8} {t : St} (hok : Live (bs q) q0 c 11 o d t) (hb : bt (bs q) t.p ≠ 46 ∧ bt (bs q) t.p ≠ 91) (h : Qt g q p v n w t.p w) {f : Value} {D0 : Nat → Prop} {l : List StA} {B : Nat} (ft : Ft D0 B w) (ok : OkD D0 w (fun w => LeadV w f l)) (hB : B ≤ w.heap.size) (hgB : g < B) :
    Calls Tryz.prog 275 #[.pointer (some ⟨g, 0, none⟩), f] w (FnM g q p v n w B q0 c 18 o d (pOp (bs q) l t.p)) := by
  have e0 := hok.e0
  by_cases h1 : sees (bs q) t 61 = true
  · have a1 := fin_live hf (ok_eq 61 (Or.inl rfl) (Or.inl hok) h1)
    obtain ⟨a2, a3⟩ := tk_must (sign := ⟨#[61, 61]⟩) a1.e0
    rw [show [61, 61] = nb ⟨#[61, 61]⟩ from rfl, a3] at a1
    exact te_eq hq hf he h ft ok hB hgB a2 a1 (by unfold pOp; rw [if_pos (sees_b h1)])
  have h1 : sees (bs q) t 61 = false := by simpa using h1
  have T0 := tk_ne (sign := ⟨#[61, 61]⟩) e0 rfl h1
  by_cases h2 : sees (bs q) t 33 = true
  · have a1 := fin_live hf (ok_eq 33 (Or.inr rfl) (Or.inl hok) h2)
    obtain ⟨a2, a3⟩ := tk_must (sign := ⟨#[33, 61]⟩) a1.e0
    rw [show [33, 61] = nb ⟨#[33, 61]⟩ from rfl, a3] at a1
    exact te_ne hq hf he h ft ok hB hgB T0 a2 a1 (by unfold pOp; rw [if_neg (sees_nb e0 h1), if_pos (sees_b h2)])
  have h2 : sees (bs q) t 33 = false := by simpa using h2
  have T1 := tk_ne (sign := ⟨#[33, 61]⟩) e0 rfl h2
  by_cases h3 : sees (bs q) t 60 = true
  · have a1 := fin_live hf (ok_less (Or.inl hok) h3)
    have e1 : must (bs q) t [60] = adv t := by show must1 (bs q) t 60 = adv t; unfold must1; rw [if_pos h3]
    rw [e1] at a1
    have b1 := (sees_e h3).2
    by_cases h4 : sees (bs q) (adv t) 61 = true
    · have e2 : has (bs q) (adv t) 61 = adv (adv t) := by unfold has; rw [if_pos h4]
      rw [e2] at a1
      have T2 : tk q t.p ⟨#[60, 61]⟩ = true := by
        rw [tk_pfx]
        have b2 : bt (bs q) (t.p + 1) = 61 := (sees_e h4).2
        show (bt (bs q) t.p == 60 && (bt (bs q) (t.p + 1) == 61 && true)) = true
        rw [b1, b2]; decide
      exact te_le hq hf he h ft ok hB hgB T0 T1 T2 a1 (by unfold pOp; rw [if_neg (sees_nb e0 h1), if_neg (sees_nb e0 h2), if_pos (sees_b h3), if_pos (show bt (bs q) (t.p + 1) = 61 from sees_b h4)])
    have h4 : sees (bs q) (adv t) 61 = false := by simpa using h4
    have e2 : has (bs q) (adv t) 61 = adv t := by unfold has; rw [if_neg (by rw [h4]; decide)]
    rw [e2] at a1
    have T2 : tk q t.p ⟨#[60, 61]⟩ = false := by
      rw [tk_pfx]
      have b2 : (bt (bs q) (t.p + 1) == 61) = false := by simpa [sees, adv, e0] using h4
      show (bt (bs q) t.p == 60 && (bt (bs q) (t.p + 1) == 61 && true)) = false
      rw [b2]; simp
    have T3 : tk q t.p ⟨#[60]⟩ = true := (tk1 q e0 60).trans h3
    exact te_lt hq hf he h ft ok hB hgB T0 T1 T2 T3 a1 (by unfold pOp; rw [if_neg (sees_nb e0 h1), if_neg (sees_nb e0 h2), if_pos (sees_b h3), if_neg (show ¬ bt (bs q) (t.p + 1) = 61 from sees_nb (t := adv t) e0 h4)])
  have h3 : sees (bs q) t 60 = false := by simpa using h3
  have T2 := tk_ne (sign := ⟨#[60, 61]⟩) e0 rfl h3
  have T3 := tk_ne (sign := ⟨#[60]⟩) e0 rfl h3
  have a1 := fin_live hf (ok_bare (Or.inl hok) (fun _ => hb) h1 h2 h3)
  exact te_none hq h ft ok hB hgB T0 T1 T2 T3 a1 (by unfold pOp; rw [if_neg (sees_nb e0 h1), if_neg (sees_nb e0 h2), if_neg (sees_nb e0 h3)])
end Go.Proofs.YtcbadebjpogmlaaGreatDoor
namespace Go.Proofs.YtcbadebjpogmlaaGreatDoor
open Go.RowKit Tr
theorem infoCond : (Tryz.prog.info? 237).map (fun i => (i.zero, i.size, i.bytes)) = some (some .nilFunc, 1, 8) := by kernel_rfl
def bd (q : ByteArray) (m a : Nat) : Nat := 4 * (q.size - a) + (if m ≤ 2 then m + 1 else 1)
theorem all_1 (φ : Tv → Bool) : (fun t => [φ].all (fun φ => φ t)) = φ := by funext t; simp
theorem any_1 (φ : Tv → Bool) : (fun t => [φ].any (fun φ => φ t)) = φ := by funext t; simp
theorem all_s (l : List (Tv → Bool)) (φ : Tv → Bool) : (fun t => (l ++ [φ]).all (fun φ => φ t)) = fun t => l.all (fun φ => φ t) && φ t := by funext t; simp
theorem any_s (l : List (Tv → Bool)) (φ : Tv → Bool) : (fun t => (l ++ [φ]).any (fun φ => φ t)) = fun t => l.any (fun φ => φ t) || φ t := by funext t; simp
theorem bd_pos {q : ByteArray} {m a N : Nat} (h : bd q m a ≤ N) : ∃ N2, N = N2 + 1 := ⟨N - 1, by unfold bd at h; split at h <;> omega⟩
theorem bd_in {q : ByteArray} {m m' m1 a b N : Nat} (h : bd q m a ≤ N + 1) (hab : a ≤ b) (hm : m = 1 ∧ m' = 0 ∧ m1 = 3 ∨ m = 2 ∧ m' = 1 ∧ m1 = 4) : bd q m1 b ≤ N ∧ bd q m' a ≤ N := by
  rcases hm with ⟨rfl, rfl, rfl⟩ | ⟨rfl, rfl, rfl⟩ <;> simp [bd] at * <;> omega
theorem bd_on {q : ByteArray} {m' m1 a b N : Nat} (h : bd q m1 a ≤ N + 1) (hab : a + 2 ≤ b) (hb : b ≤ q.size) (hm : m' = 0 ∧ m1 = 3 ∨ m' = 1 ∧ m1 = 4) : bd q m1 b ≤ N ∧ bd q m' (a + 2) ≤ N := by
  rcases hm with ⟨rfl, rfl⟩ | ⟨rfl, rfl⟩ <;> simp [bd] at * <;> omega
def CdM (g : Nat) (q : ByteArray) (p v : Value) (n : Nat) (w0 : World) (q0 c : Nat) (o : List UInt8) (d : Nat) (l : List Nat) (m a : Nat) (r : Ending) (w' : World) : Prop :=
  ∃ t' f D φ, Live (bs q) q0 c 18 o d t' ∧ (∀ b ∈ l, bt (bs q) t'.p ≠ b) ∧ (∀ N φ0, bd q m a ≤ N → pC (bs q) N m a φ0 = ⟨φ, t'.p⟩) ∧ r = .returned f ∧ Ft D w0.heap.size w' ∧ OkD D w' (fun w => CondV w f φ) ∧ Qt g q p v n w0 t'.p w'
def CdC (g : Nat) (q : ByteArray) (p v : Value) (n : Nat) (f : FuncId) (m : Nat) (l : List Nat) (tr : Bool) (k : Nat) : Prop :=
  ∀ (w : World) (q0 c d : Nat) (o : List UInt8) (t : St), Er g w → Live (bs q) q0 c 10 o d t → (tr = true → trimR o = o) → q.size < t.p + k → Qt g q p v n w t.p w →
    Calls Tryz.prog f #[.pointer (some ⟨g, 0, none⟩)] w (CdM g q p v n w q0 c o d l m t.p)
def RcL (q : ByteArray) (B m0 a0 m1 a : Nat) (ψ : List (Tv → Bool) → Tv → Bool) (j : Nat) (sv : Value) (wr : World) : Prop := ∃ fs φs D, Row 237 B (fun i w f => ∀ φ, φs[i]? = some φ → CondV w f φ) D sv fs wr ∧ φs.length = j ∧ fs.length = j ∧
  ∀ N φ0, bd q m0 a0 ≤ N → ∃ N', bd q m1 a ≤ N' ∧ pC (bs q) N m0 a0 φ0 = pC (bs q) N' m1 a (ψ φs)
theorem RcL.next {q : ByteArray} {B m0 a0 m1 a a' j g : Nat} {ψ : List (Tv → Bool) → Tv → Bool} {sv sv' : Value} {wr w1 w2 : World} {fs : List Value} {φs : List (Tv → Bool)} {D D2 : Nat → Prop} {f : Value} {φ : Tv → Bool}
    (R : Row 237 B (fun i w f => ∀ φ, φs[i]? = some φ → CondV w f φ) D sv fs wr) (hl : φs.length = j) (hf : fs.length = j) (hps : ∀ N φ0, bd q m0 a0 ≤ N → ∃ N', bd q m1 a ≤ N' ∧ pC (bs q) N m0 a0 φ0 = pC (bs q) N' m1 a (ψ φs))
    (h1 : Fr (fun k => k = g) wr w1) (hgB : g < B) (hsz : B ≤ wr.heap.size) (ft : Ft D2 wr.heap.size w1) (ok : OkD D2 w1 (fun w => CondV w f φ)) (hst : ∀ N, bd q m1 a ≤ N → ∃ N', bd q m1 a' ≤ N' ∧ pC (bs q) N m1 a (ψ φs) = pC (bs q) N' m1 a' (ψ (φs ++ [φ])))
    (hg : w1.grownBy w2 sv.ownBlock) (hown : w2.ownsRow B 237 1 sv' (j + 1) (fs ++ [f])) (hb : sv'.ownBlock = sv.ownBlock ∨ sv'.ownBlock = some w1.heap.size) : RcL q B m0 a0 m1 a' ψ (j + 1) sv' w2 := by
  have R1 := R.fr h1 (fun k hk e => by omega)
  refine ⟨fs ++ [f], φs ++ [φ], fun k => D k ∨ D2 k, ?_, by simp [hl], by simp [hf], fun N φ0 hN => ?_⟩
  · have R2 : Row 237 B (fun i w f => ∀ φ', (φs ++ [φ])[i]? = some φ' → CondV w f φ') D sv fs w1 := ⟨R1.o, R1.ft, R1.ne, fun i hi w' s φ' he => R1.ok i hi w' s φ' (by rw [List.getElem?_append_left (by omega)] at he; exact he)⟩
    refine R2.push (A := wr.heap.size) (fun k hk => (R.o.lt k hk).2) hsz ft (fun w' s φ' he => ?_) (by rw [hf]; exact hown) hg hb
    rw [hf, ← hl] at he
    simp at he
    subst he
    exact ok w' s
  obtain ⟨N1, h1, h2⟩ := hps N φ0 hN
  obtain ⟨N2, h3, h4⟩ := hst N1 h1
  exact ⟨N2, h3, h2.trans h4⟩
structure CoL (g : Nat) (q : ByteArray) (p v : Value) (n : Nat) (w0 : World) (q0 c : Nat) (o : List UInt8) (d : Nat) (l : List Nat) (b0 m0 m1 : Nat) (ψ : List (Tv → Bool) → Tv → Bool) (t : St) (j : Nat) (sv : Value) (wr : World) : Prop where
  qt : Qt g q p v n w0 t.p wr
  lv : Live (bs q) q0 c 18 o d t
  nb : ∀ b ∈ l, bt (bs q) t.p ≠ b
  row : RcL q w0.heap.size m0 b0 m1 t.p ψ j sv wr
  gb : g < w0.heap.size
  le : 2 * j ≤ t.p + 2
  ge : b0 ≤ t.p
set_option maxHeartbeats 2000000 in
theorem k_conjunction {g : Nat} {q : ByteArray} {p v : Value} {n : Nat} (hq : q.size ≤ 1000) (hf : FinP (bs q)) {k : Nat} (hs : CdC g q p v n 265 0 [] true k) : CdC g q p v n 256 1 [38] true k := by
  intro w q0 c d o t he hok htr hk h
  obtain ⟨i0, hi, hz0, hz1, hz2⟩ := info_parts infoCond
  have HI := hide hi
  have HZ0 := hide hz0
  have HZ1 := hide hz1
  have HZ2 := hide hz2
  have HE := hide he
  have HF := hide hf
  have HS := hide hs
  have HT := hide (htr rfl)
  have H := hide h
  have L := hide hok
  have K := hide hk
  have hgw : g < w.heap.size := h.b.lt
  have htq0 : t.p ≤ q.size := h.le
  clear h hok he hf hi hz0 hz1 hz2 hs htr hk
  go_enter Tryz.func256, Tryz.ntmps256
  go_wp2_with fail
  refine (HS.out w t.p c d o t HE.out L.out.rebase (fun _ => HT.out) K.out H.out).mono ?_
  rintro r w1 ⟨t1, f1, D1, φ1, hl, hn, hpc, rfl, hft, hok, h1⟩
  obtain ⟨N1, cap1, rfl, _, _⟩ := hok.self
  have hle1 := h1.le
  have hge1 := hl.ge
  have S : Hid (CoL g q p v n w q0 c o d [] t.p 1 3 (fun l t => l.all (fun φ => φ t)) t1 1 (.slice (some ⟨w1.heap.size, 0, none⟩) 1 1) (w1.alloc (.cells #[.func (.func N1) #[] cap1] 237))) := by
    refine ⟨h1.alloc _, L.out.unbase hl, hn, ⟨[.func (.func N1) #[] cap1], [φ1], D1, Row.one h1.f.size hft (fun w' s φ he => ?_), rfl, rfl, fun N φ0 hN => ?_⟩, hgw, by omega, hge1⟩
    · simp at he; subst he; exact hok w' s
    obtain ⟨N, rfl⟩ := bd_pos hN
    have hbb := bd_in hN hge1 (Or.inl ⟨rfl, rfl, rfl⟩)
    refine ⟨N, hbb.1, ?_⟩
    rw [pC, hpc N φ0 hbb.2]
    show _ = pC (bs q) N 3 t1.p (fun t => [φ1].all (fun φ => φ t))
    rw [all_1]
  clear h1 hl hn H hft hok hpc hle1 hge1
  go_wp2_with fail
  go_loopw [3] (fun sv wr => ∃ (t1 : St) (j : Nat), CoL g q p v n w q0 c o d [] t.p 1 3 (fun l t => l.all (fun φ => φ t)) t1 j sv wr) (fun _ wr => q.size - mA g wr)
  case atStart => exact ⟨t1, 1, S.out⟩
  case round =>
    clear S
    obtain ⟨t2, j, hS⟩ := hrel
    have S := hide hS
    have hjt := hS.le
    have hge := hS.ge
    have htq : t2.p ≤ q.size := hS.qt.le
    have HM := hide hS.qt.mA
    obtain ⟨fs, φs, D, hrow, hll, hfl, hps⟩ := hS.row
    obtain ⟨ao, cp, hse⟩ := own_slice hrow.o
    rw [hfl] at hse
    subst hse
    have R := hide hrow
    have HLL := hide hll
    have HFL := hide hfl
    have HPS := hide hps
    have e0 := hS.lv.e0
    clear hS hrow hll hfl hps
    by_cases h1 : sees (bs q) t2 38 = true
    · obtain ⟨o1, o2⟩ := ok_and HT.out (Or.inl S.out.lv) h1
      have L1 := fin_live HF.out o1
      have o3 := o2 L1.e0
      obtain ⟨T0, e1⟩ := tk_must (sign := ⟨#[38, 38]⟩) L1.e0
      rw [show [38, 38] = nb ⟨#[38, 38]⟩ from rfl, e1] at L1
      have L2 := hide L1
      have BOP := hide (sees_b h1)
      clear h1 e0 o1 o2 o3 e1 L1
      go_wp2_with fail
      refine (c_yes S.out.qt.here hq _ T0 (t2.p + 2) rfl).mono ?_
      rintro r w2 ⟨rfl, h2⟩
      have H2 := hide h2
      clear h2
      have E2 := hide (HE.out.keep (S.out.qt.join H2.out).f)
      have KK := hide (show q.size < (t2.p + 2) + k by have := K.out; omega)
      go_wp2_with fail
      refine (HS.out w2 (t2.p + 2) c d o { t2 with p := t2.p + 2 } E2.out L2.out.rebase (fun _ => HT.out) KK.out H2.out.here).mono ?_
      rintro r w3 ⟨t3, f3, D3, φ3, hl, hn, hpc, rfl, hft, hok, h3⟩
      obtain ⟨N3, cap3, rfl, _, _⟩ := hok.self
      have hkt : t2.p + 2 ≤ t3.p := hl.ge
      have hkq := h3.le
      have L3 := hide (L2.out.unbase hl)
      have N3' := hide hn
      have H3 := hide (H2.out.join h3)
      have FT3 := hide (hft.low H2.out.f.size)
      have OK3 := hide hok
      have PC3 := hide hpc
      clear H2 h3 hl hn hft hok hpc
      have hown3 : w3.ownsRow w.heap.size 237 1 (.slice ao j cp) j fs := own_fr (HFL.out ▸ R.out.o) H3.out.f (fun k hk e => by omega)
      have hsr : w.heap.size ≤ wr.heap.size := S.out.qt.f.size
      have hB3 : w.heap.size ≤ w3.heap.size := Nat.le_trans hsr H3.out.f.size
      go_wp2_with (at_builtin; refine wpList_append_own_at _ rfl _ _ 300 rfl w.heap.size 237 i0 .nilFunc 1 8 Tryz.underlying300 HI.out HZ0.out HZ1.out HZ2.out rfl (by decide) _ _ _ rfl (hown3.alloc _) ⟨w3.heap.size, 0, none⟩ 1 1 [.func (.func N3) #[] cap3] rfl rfl ?c1 ?c2 ?c3 ?c4 ?c5 ?_)
      case c1 =>
        intro j u hj
        match j, hj with
        | 0, hj => simp at hj; subst hj; simp [Addr.add]
      case c2 => intro u hu; simp at hu; subst hu; rfl
      case c3 => unfold maxLen; omega
      case c4 => omega
      case c5 => simp; omega
      intro v' w4 hown4 hgrow _ hvb
      have hst : ∀ N, bd q 3 t2.p ≤ N → ∃ N', bd q 3 t3.p ≤ N' ∧ pC (bs q) N 3 t2.p (fun t => φs.all (fun φ => φ t)) = pC (bs q) N' 3 t3.p (fun t => (φs ++ [φ3]).all (fun φ => φ t)) := by
        intro N hN
        obtain ⟨N, rfl⟩ := bd_pos hN
        have hbb := bd_on hN hkt hkq (Or.inl ⟨rfl, rfl⟩)
        refine ⟨N, hbb.1, ?_⟩
        rw [pC, if_pos BOP.out, PC3.out N _ hbb.2, all_s]
      have S2 : Hid (CoL g q p v n w q0 c o d [] t.p 1 3 (fun l t => l.all (fun φ => φ t)) t3 (j + 1) v' w4) :=
        ⟨(S.out.qt.join (H3.out.alloc _)).grown hgrow (fun k hk => (hown3.lt k hk).1) hgw (Nat.le_refl _), L3.out, N3'.out, RcL.next R.out HLL.out HFL.out HPS.out (H3.out.alloc _).f hgw hsr (FT3.out.keep (Sm.alloc FT3.out _)) (OK3.out.keep (Sm.alloc FT3.out _)) hst hgrow hown4 (by simpa using hvb), hgw, by omega, by omega⟩
      clear hown4 hgrow hown3 hst
      go_wp2
      go_roundw
      case rel => exact ⟨_, _, S2.out⟩
      case measure =>
        have m1 : mA g wr = t2.p := HM.out
        have m2 : mA g w4 = t3.p := S2.out.qt.mA
        rw [m1, m2]
        omega
    have h1 : sees (bs q) t2 38 = false := by simpa using h1
    have T0 := tk_ne (sign := ⟨#[38, 38]⟩) e0 rfl h1
    have hb : bt (bs q) t2.p ≠ 38 := by simpa [sees, e0] using h1
    have HB := hide hb
    clear h1 hb e0
    go_wp2_with fail
    refine (c_no S.out.qt.here hq _ T0).mono ?_
    rintro r w2 ⟨rfl, h2⟩
    have H2 := hide h2
    have R2 := hide (R.out.fr h2.f (fun k hk e => by omega))
    have hsz2 : w.heap.size ≤ w2.heap.size := (S.out.qt.join h2).f.size
    clear h2
    go_wp2_with fail
    refine (m_allMet R2.out (by rw [HLL.out, HFL.out]) (by rw [HFL.out]; omega) hsz2).mono ?_
    rintro r w3 ⟨⟨f3, D3, rfl, hft, hok⟩, hb3⟩
    obtain ⟨N3, cap3, rfl, _, _⟩ := hok.self
    have H3 := hide (S.out.qt.join (H2.out.below hb3))
    have FT3 := hide hft
    have OK3 := hide hok
    clear H2 hb3 hft hok
    go_wp2
    go_ret
    refine ⟨t2, _, _, _, S.out.lv, fun b hb => ?_, fun N φ0 hN => ?_, rfl, FT3.out, OK3.out, H3.out⟩
    · simp only [List.mem_cons, List.mem_nil_iff, or_false] at hb
      rw [hb]; exact HB.out
    obtain ⟨N', h1, h2⟩ := HPS.out N φ0 hN
    rw [h2]
    obtain ⟨N', rfl⟩ := bd_pos h1
    rw [pC, if_neg HB.out]
set_option maxHeartbeats 2000000 in
theorem k_condition {g : Nat} {q : ByteArray} {p v : Value} {n : Nat} (hq : q.size ≤ 1000) (hf : FinP (bs q)) {k : Nat} (hs : CdC g q p v n 256 1 [38] true k) : CdC g q p v n 243 2 [38, 124] true k := by
  intro w q0 c d o t he hok htr hk h
  obtain ⟨i0, hi, hz0, hz1, hz2⟩ := info_parts infoCond
  have HI := hide hi
  have HZ0 := hide hz0
  have HZ1 := hide hz1
  have HZ2 := hide hz2
  have HE := hide he
  have HF := hide hf
  have HS := hide hs
  have HT := hide (htr rfl)
  have H := hide h
  have L := hide hok
  have K := hide hk
  have hgw : g < w.heap.size := h.b.lt
  have htq0 : t.p ≤ q.size := h.le
  clear h hok he hf hi hz0 hz1 hz2 hs htr hk
  go_enter Tryz.func243, Tryz.ntmps243
  go_wp2_with fail
  refine (HS.out w t.p c d o t HE.out L.out.rebase (fun _ => HT.out) K.out H.out).mono ?_
  rintro r w1 ⟨t1, f1, D1, φ1, hl, hn, hpc, rfl, hft, hok, h1⟩
  obtain ⟨N1, cap1, rfl, _, _⟩ := hok.self
  have hle1 := h1.le
  have hge1 := hl.ge
  have S : Hid (CoL g q p v n w q0 c o d [38] t.p 2 4 (fun l t => l.any (fun φ => φ t)) t1 1 (.slice (some ⟨w1.heap.size, 0, none⟩) 1 1) (w1.alloc (.cells #[.func (.func N1) #[] cap1] 237))) := by
    refine ⟨h1.alloc _, L.out.unbase hl, hn, ⟨[.func (.func N1) #[] cap1], [φ1], D1, Row.one h1.f.size hft (fun w' s φ he => ?_), rfl, rfl, fun N φ0 hN => ?_⟩, hgw, by omega, hge1⟩
    · simp at he; subst he; exact hok w' s
    obtain ⟨N, rfl⟩ := bd_pos hN
    have hbb := bd_in hN hge1 (Or.inr ⟨rfl, rfl, rfl⟩)
    refine ⟨N, hbb.1, ?_⟩
    rw [pC, hpc N φ0 hbb.2]
    show _ = pC (bs q) N 4 t1.p (fun t => [φ1].any (fun φ => φ t))
    rw [any_1]
  clear h1 hl hn H hft hok hpc hle1 hge1
  go_wp2_with fail
  go_loopw [3] (fun sv wr => ∃ (t1 : St) (j : Nat), CoL g q p v n w q0 c o d [38] t.p 2 4 (fun l t => l.any (fun φ => φ t)) t1 j sv wr) (fun _ wr => q.size - mA g wr)
  case atStart => exact ⟨t1, 1, S.out⟩
  case round =>
    clear S
    obtain ⟨t2, j, hS⟩ := hrel
    have S := hide hS
    have hjt := hS.le
    have hge := hS.ge
    have htq : t2.p ≤ q.size := hS.qt.le
    have HM := hide hS.qt.mA
    obtain ⟨fs, φs, D, hrow, hll, hfl, hps⟩ := hS.row
    obtain ⟨ao, cp, hse⟩ := own_slice hrow.o
    rw [hfl] at hse
    subst hse
    have R := hide hrow
    have HLL := hide hll
    have HFL := hide hfl
    have HPS := hide hps
    have e0 := hS.lv.e0
    clear hS hrow hll hfl hps
    by_cases h1 : sees (bs q) t2 124 = true
    · obtain ⟨o1, o2⟩ := ok_or HT.out (Or.inl S.out.lv) h1
      have L1 := fin_live HF.out o1
      have o3 := o2 L1.e0
      obtain ⟨T0, e1⟩ := tk_must (sign := ⟨#[124, 124]⟩) L1.e0
      rw [show [124, 124] = nb ⟨#[124, 124]⟩ from rfl, e1] at L1
      have L2 := hide L1
      have BOP := hide (sees_b h1)
      clear h1 e0 o1 o2 o3 e1 L1
      go_wp2_with fail
      refine (c_yes S.out.qt.here hq _ T0 (t2.p + 2) rfl).mono ?_
      rintro r w2 ⟨rfl, h2⟩
      have H2 := hide h2
      clear h2
      have E2 := hide (HE.out.keep (S.out.qt.join H2.out).f)
      have KK := hide (show q.size < (t2.p + 2) + k by have := K.out; omega)
      go_wp2_with fail
      refine (HS.out w2 (t2.p + 2) c d o { t2 with p := t2.p + 2 } E2.out L2.out.rebase (fun _ => HT.out) KK.out H2.out.here).mono ?_
      rintro r w3 ⟨t3, f3, D3, φ3, hl, hn, hpc, rfl, hft, hok, h3⟩
      obtain ⟨N3, cap3, rfl, _, _⟩ := hok.self
      have hkt : t2.p + 2 ≤ t3.p := hl.ge
      have hkq := h3.le
      have L3 := hide (L2.out.unbase hl)
      have N3' := hide hn
      have H3 := hide (H2.out.join h3)
      have FT3 := hide (hft.low H2.out.f.size)
      have OK3 := hide hok
      have PC3 := hide hpc
      clear H2 h3 hl hn hft hok hpc
      have hown3 : w3.ownsRow w.heap.size 237 1 (.slice ao j cp) j fs := own_fr (HFL.out ▸ R.out.o) H3.out.f (fun k hk e => by omega)
      have hsr : w.heap.size ≤ wr.heap.size := S.out.qt.f.size
      have hB3 : w.heap.size ≤ w3.heap.size := Nat.le_trans hsr H3.out.f.size
      go_wp2_with (at_builtin; refine wpList_append_own_at _ rfl _ _ 300 rfl w.heap.size 237 i0 .nilFunc 1 8 Tryz.underlying300 HI.out HZ0.out HZ1.out HZ2.out rfl (by decide) _ _ _ rfl (hown3.alloc _) ⟨w3.heap.size, 0, none⟩ 1 1 [.func (.func N3) #[] cap3] rfl rfl ?c1 ?c2 ?c3 ?c4 ?c5 ?_)
      case c1 =>
        intro j u hj
        match j, hj with
        | 0, hj => simp at hj; subst hj; simp [Addr.add]
      case c2 => intro u hu; simp at hu; subst hu; rfl
      case c3 => unfold maxLen; omega
      case c4 => omega
      case c5 => simp; omega
      intro v' w4 hown4 hgrow _ hvb
      have hst : ∀ N, bd q 4 t2.p ≤ N → ∃ N', bd q 4 t3.p ≤ N' ∧ pC (bs q) N 4 t2.p (fun t => φs.any (fun φ => φ t)) = pC (bs q) N' 4 t3.p (fun t => (φs ++ [φ3]).any (fun φ => φ t)) := by
        intro N hN
        obtain ⟨N, rfl⟩ := bd_pos hN
        have hbb := bd_on hN hkt hkq (Or.inr ⟨rfl, rfl⟩)
        refine ⟨N, hbb.1, ?_⟩
        rw [pC, if_pos BOP.out, PC3.out N _ hbb.2, any_s]
      have S2 : Hid (CoL g q p v n w q0 c o d [38] t.p 2 4 (fun l t => l.any (fun φ => φ t)) t3 (j + 1) v' w4) :=
        ⟨(S.out.qt.join (H3.out.alloc _)).grown hgrow (fun k hk => (hown3.lt k hk).1) hgw (Nat.le_refl _), L3.out, N3'.out, RcL.next R.out HLL.out HFL.out HPS.out (H3.out.alloc _).f hgw hsr (FT3.out.keep (Sm.alloc FT3.out _)) (OK3.out.keep (Sm.alloc FT3.out _)) hst hgrow hown4 (by simpa using hvb), hgw, by omega, by omega⟩
      clear hown4 hgrow hown3 hst
      go_wp2
      go_roundw
      case rel => exact ⟨_, _, S2.out⟩
      case measure =>
        have m1 : mA g wr = t2.p := HM.out
        have m2 : mA g w4 = t3.p := S2.out.qt.mA
        rw [m1, m2]
        omega
    have h1 : sees (bs q) t2 124 = false := by simpa using h1
    have T0 := tk_ne (sign := ⟨#[124, 124]⟩) e0 rfl h1
    have hb : bt (bs q) t2.p ≠ 124 := by simpa [sees, e0] using h1
    have HB := hide hb
    clear h1 hb e0
    go_wp2_with fail
    refine (c_no S.out.qt.here hq _ T0).mono ?_
    rintro r w2 ⟨rfl, h2⟩
    have H2 := hide h2
    have R2 := hide (R.out.fr h2.f (fun k hk e => by omega))
    have hsz2 : w.heap.size ≤ w2.heap.size := (S.out.qt.join h2).f.size
    clear h2
    go_wp2_with fail
    refine (m_oneMet R2.out (by rw [HLL.out, HFL.out]) (by rw [HFL.out]; omega) hsz2).mono ?_
    rintro r w3 ⟨⟨f3, D3, rfl, hft, hok⟩, hb3⟩
    obtain ⟨N3, cap3, rfl, _, _⟩ := hok.self
    have H3 := hide (S.out.qt.join (H2.out.below hb3))
    have FT3 := hide hft
    have OK3 := hide hok
    clear H2 hb3 hft hok
    go_wp2
    go_ret
    refine ⟨t2, _, _, _, S.out.lv, fun b hb => ?_, fun N φ0 hN => ?_, rfl, FT3.out, OK3.out, H3.out⟩
    · simp only [List.mem_cons, List.mem_nil_iff, or_false] at hb
      have hn := S.out.nb
      simp only [List.mem_cons, List.mem_nil_iff, or_false] at hn
      rcases hb with rfl | rfl
      · exact hn _ rfl
      exact HB.out
    obtain ⟨N', h1, h2⟩ := HPS.out N φ0 hN
    rw [h2]
    obtain ⟨N', rfl⟩ := bd_pos h1
    rw [pC, if_neg HB.out]
end Go.Proofs.YtcbadebjpogmlaaGreatDoor
