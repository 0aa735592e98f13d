/- The program's maker: a constant. -/
import Derived.Test.YtcbadebjpogmlaaGreatDoorJMkG
namespace Go.Proofs.YtcbadebjpogmlaaGreatDoor
open Go.RowKit Tr

theorem c_no {w0 w : World} {g : Nat} {q : ByteArray} {a : Nat} {p v : Value} {n : Nat} (h : Qt g q p v n w0 a w) (hq : q.size ≤ 1000) (sign : ByteArray) (ht : tk q a sign = false) :
    Calls Tryz.prog 85 #[.pointer (some ⟨g, 0, none⟩), .string sign] w fun r w' => r = .returned (.bool false) ∧ Qt g q p v n w0 a w' := by
  refine (c_takes h hq sign).mono ?_
  rintro r w' ⟨rfl, h1⟩
  rw [ht] at h1 ⊢
  exact ⟨rfl, h1⟩
theorem c_yes {w0 w : World} {g : Nat} {q : ByteArray} {a : Nat} {p v : Value} {n : Nat} (h : Qt g q p v n w0 a w) (hq : q.size ≤ 1000) (sign : ByteArray) (ht : tk q a sign = true) (b : Nat) (hb : b = a + sign.size) :
    Calls Tryz.prog 85 #[.pointer (some ⟨g, 0, none⟩), .string sign] w fun r w' => r = .returned (.bool true) ∧ Qt g q p v n w0 b w' := by
  refine (c_takes h hq sign).mono ?_
  rintro r w' ⟨rfl, h1⟩
  rw [ht] at h1 ⊢
  rw [hb]
  exact ⟨rfl, h1⟩
theorem Qt.alloc {g : Nat} {q : ByteArray} {p v : Value} {n : Nat} {w0 w : World} {a : Nat} (h : Qt g q p v n w0 a w) (o : Obj) : Qt g q p v n w0 a (w.alloc o) := ⟨h.b.alloc o, h.f.alloc o, h.le⟩

/-- What a constant leaves: a value somewhere. -/
def CnP (g : Nat) (q : ByteArray) (p v : Value) (n : Nat) (w0 : World) (a : Nat) (r : Ending) (w' : World) : Prop := (∃ ad, r = .returned (.pointer (some ad))) ∧ Qt g q p v n w0 a w'

set_option maxHeartbeats 1000000 in
theorem cn_true {w0 w : World} {g : Nat} {q : ByteArray} {a : Nat} {p v : Value} {n : Nat} (h : Qt g q p v n w0 a w) (hq : q.size ≤ 1000) (T0 : tk q a ⟨#[116, 114, 117, 101]⟩ = true) :
    Calls Tryz.prog 283 #[.pointer (some ⟨g, 0, none⟩)] w (CnP g q p v n w0 (a + 4)) := by
  have H := hide h
  clear h
  go_enter Tryz.func283, Tryz.ntmps283
  go_wp2_with fail
  refine (c_yes H.out hq _ T0 (a + 4) rfl).mono ?_
  rintro r w1 ⟨rfl, h1⟩
  clear H
  have H := hide h1
  clear h1
  go_wp2
  go_ret
  exact ⟨⟨_, rfl⟩, H.out.alloc _⟩

set_option maxHeartbeats 1000000 in
theorem cn_false {w0 w : World} {g : Nat} {q : ByteArray} {a : Nat} {p v : Value} {n : Nat} (h : Qt g q p v n w0 a w) (hq : q.size ≤ 1000) (T0 : tk q a ⟨#[116, 114, 117, 101]⟩ = false) (T1 : tk q a ⟨#[102, 97, 108, 115, 101]⟩ = true) :
    Calls Tryz.prog 283 #[.pointer (some ⟨g, 0, none⟩)] w (CnP g q p v n w0 (a + 5)) := by
  have H := hide h
  clear h
  go_enter Tryz.func283, Tryz.ntmps283
  go_wp2_with fail
  refine (c_no H.out hq _ T0).mono ?_
  rintro r w1 ⟨rfl, h1⟩
  clear H
  have H := hide h1
  clear h1
  go_wp2_with fail
  refine (c_yes H.out hq _ T1 (a + 5) rfl).mono ?_
  rintro r w1 ⟨rfl, h1⟩
  clear H
  have H := hide h1
  clear h1
  go_wp2
  go_ret
  exact ⟨⟨_, rfl⟩, H.out.alloc _⟩

set_option maxHeartbeats 1000000 in
theorem cn_null {w0 w : World} {g : Nat} {q : ByteArray} {a : Nat} {p v : Value} {n : Nat} (h : Qt g q p v n w0 a w) (hq : q.size ≤ 1000) (T0 : tk q a ⟨#[116, 114, 117, 101]⟩ = false) (T1 : tk q a ⟨#[102, 97, 108, 115, 101]⟩ = false) (T2 : tk q a ⟨#[110, 117, 108, 108]⟩ = true) :
    Calls Tryz.prog 283 #[.pointer (some ⟨g, 0, none⟩)] w (CnP g q p v n w0 (a + 4)) := by
  have H := hide h
  clear h
  go_enter Tryz.func283, Tryz.ntmps283
  go_wp2_with fail
  refine (c_no H.out hq _ T0).mono ?_
  rintro r w1 ⟨rfl, h1⟩
  clear H
  have H := hide h1
  clear h1
  go_wp2_with fail
  refine (c_no H.out hq _ T1).mono ?_
  rintro r w1 ⟨rfl, h1⟩
  clear H
  have H := hide h1
  clear h1
  go_wp2_with fail
  refine (c_yes H.out hq _ T2 (a + 4) rfl).mono ?_
  rintro r w1 ⟨rfl, h1⟩
  clear H
  have H := hide h1
  clear h1
  go_wp2
  go_ret
  exact ⟨⟨_, rfl⟩, H.out.alloc _⟩

set_option maxHeartbeats 1000000 in
theorem cn_quote {w0 w : World} {g : Nat} {q : ByteArray} {a : Nat} {p v : Value} {n : Nat} (h : Qt g q p v n w0 a w) (hq : q.size ≤ 1000) (T0 : tk q a ⟨#[116, 114, 117, 101]⟩ = false) (T1 : tk q a ⟨#[102, 97, 108, 115, 101]⟩ = false) (T2 : tk q a ⟨#[110, 117, 108, 108]⟩ = false) (T3 : tk q a ⟨#[39]⟩ = true) :
    Calls Tryz.prog 283 #[.pointer (some ⟨g, 0, none⟩)] w (fun r w' => ∃ k, RunP isQuo q (a + 1) k ∧ CnP g q p v n w0 (if tk q k ⟨#[39]⟩ then k + 1 else k) r w') := by
  have H := hide h
  clear h
  go_enter Tryz.func283, Tryz.ntmps283
  go_wp2_with fail
  refine (c_no H.out hq _ T0).mono ?_
  rintro r w1 ⟨rfl, h1⟩
  clear H
  have H := hide h1
  clear h1
  go_wp2_with fail
  refine (c_no H.out hq _ T1).mono ?_
  rintro r w1 ⟨rfl, h1⟩
  clear H
  have H := hide h1
  clear h1
  go_wp2_with fail
  refine (c_no H.out hq _ T2).mono ?_
  rintro r w1 ⟨rfl, h1⟩
  clear H
  have H := hide h1
  clear h1
  go_wp2_with fail
  refine (c_yes H.out hq _ T3 (a + 1) rfl).mono ?_
  rintro r w1 ⟨rfl, h1⟩
  clear H
  have H := hide h1
  clear h1
  go_wp2_with fail
  refine (c_quoted H.out hq).mono ?_
  rintro r w1 ⟨k, hk, rfl, h1⟩
  have HK := hide hk
  clear H hk
  have H := hide h1
  clear h1
  go_wp2
  go_ret
  exact ⟨k, HK.out, ⟨_, rfl⟩, H.out.alloc _⟩

set_option maxHeartbeats 1000000 in
theorem cn_minus {w0 w : World} {g : Nat} {q : ByteArray} {a : Nat} {p v : Value} {n : Nat} (h : Qt g q p v n w0 a w) (hq : q.size ≤ 1000) (T0 : tk q a ⟨#[116, 114, 117, 101]⟩ = false) (T1 : tk q a ⟨#[102, 97, 108, 115, 101]⟩ = false) (T2 : tk q a ⟨#[110, 117, 108, 108]⟩ = false) (T3 : tk q a ⟨#[39]⟩ = false) (T4 : tk q a ⟨#[45]⟩ = true) (he : Er g w0) (h18 : ∀ k, RunP isDig q (a + 1) k → k ≤ a + 1 + 18) :
    Calls Tryz.prog 283 #[.pointer (some ⟨g, 0, none⟩)] w (fun r w' => ∃ k, RunP isDig q (a + 1) k ∧ CnP g q p v n w0 k r w') := by
  have H := hide h
  have HE := hide he
  have H18 := hide h18
  clear he h18
  clear h
  go_enter Tryz.func283, Tryz.ntmps283
  go_wp2_with fail
  refine (c_no H.out hq _ T0).mono ?_
  rintro r w1 ⟨rfl, h1⟩
  clear H
  have H := hide h1
  clear h1
  go_wp2_with fail
  refine (c_no H.out hq _ T1).mono ?_
  rintro r w1 ⟨rfl, h1⟩
  clear H
  have H := hide h1
  clear h1
  go_wp2_with fail
  refine (c_no H.out hq _ T2).mono ?_
  rintro r w1 ⟨rfl, h1⟩
  clear H
  have H := hide h1
  clear h1
  go_wp2_with fail
  refine (c_no H.out hq _ T3).mono ?_
  rintro r w1 ⟨rfl, h1⟩
  clear H
  have H := hide h1
  clear h1
  go_wp2_with fail
  refine (c_yes H.out hq _ T4 (a + 1) rfl).mono ?_
  rintro r w1 ⟨rfl, h1⟩
  clear H
  have H := hide h1
  clear h1
  go_wp2_with fail
  refine (k_count H.out hq HE.out H18.out _).mono ?_
  rintro r w1 ⟨k, m, hk, rfl, h1⟩
  have HK := hide hk
  clear H hk
  have H := hide h1
  clear h1
  go_wp2
  go_ret
  exact ⟨k, HK.out, ⟨_, rfl⟩, H.out.alloc _⟩

set_option maxHeartbeats 1000000 in
theorem cn_plain {w0 w : World} {g : Nat} {q : ByteArray} {a : Nat} {p v : Value} {n : Nat} (h : Qt g q p v n w0 a w) (hq : q.size ≤ 1000) (T0 : tk q a ⟨#[116, 114, 117, 101]⟩ = false) (T1 : tk q a ⟨#[102, 97, 108, 115, 101]⟩ = false) (T2 : tk q a ⟨#[110, 117, 108, 108]⟩ = false) (T3 : tk q a ⟨#[39]⟩ = false) (T4 : tk q a ⟨#[45]⟩ = false) (he : Er g w0) (h18 : ∀ k, RunP isDig q a k → k ≤ a + 18) :
    Calls Tryz.prog 283 #[.pointer (some ⟨g, 0, none⟩)] w (fun r w' => ∃ k, RunP isDig q a k ∧ CnP g q p v n w0 k r w') := by
  have H := hide h
  have HE := hide he
  have H18 := hide h18
  clear he h18
  clear h
  go_enter Tryz.func283, Tryz.ntmps283
  go_wp2_with fail
  refine (c_no H.out hq _ T0).mono ?_
  rintro r w1 ⟨rfl, h1⟩
  clear H
  have H := hide h1
  clear h1
  go_wp2_with fail
  refine (c_no H.out hq _ T1).mono ?_
  rintro r w1 ⟨rfl, h1⟩
  clear H
  have H := hide h1
  clear h1
  go_wp2_with fail
  refine (c_no H.out hq _ T2).mono ?_
  rintro r w1 ⟨rfl, h1⟩
  clear H
  have H := hide h1
  clear h1
  go_wp2_with fail
  refine (c_no H.out hq _ T3).mono ?_
  rintro r w1 ⟨rfl, h1⟩
  clear H
  have H := hide h1
  clear h1
  go_wp2_with fail
  refine (c_no H.out hq _ T4).mono ?_
  rintro r w1 ⟨rfl, h1⟩
  clear H
  have H := hide h1
  clear h1
  go_wp2_with fail
  refine (k_count H.out hq HE.out H18.out _).mono ?_
  rintro r w1 ⟨k, m, hk, rfl, h1⟩
  have HK := hide hk
  clear H hk
  have H := hide h1
  clear h1
  go_wp2
  go_ret
  exact ⟨k, HK.out, ⟨_, rfl⟩, H.out.alloc _⟩

end Go.Proofs.YtcbadebjpogmlaaGreatDoor

/- The program's maker against the plain machine: a constant. -/
namespace Go.Proofs.YtcbadebjpogmlaaGreatDoor
open Go.RowKit Tr

theorem tk_ne {q : ByteArray} {t : St} {sign : ByteArray} {c : Nat} {l : List Nat} (he : t.e = 0) (hs : nb sign = c :: l) (h : sees (bs q) t c = false) : tk q t.p sign = false := by
  rw [tk_pfx, hs]
  have : (bt (bs q) t.p == c) = false := by simpa [sees, he] using h
  simp [pfx, this]
theorem tk_must {q : ByteArray} {t : St} {sign : ByteArray} (h : (must (bs q) t (nb sign)).e = 0) : tk q t.p sign = true ∧ must (bs q) t (nb sign) = { t with p := t.p + sign.size } := by
  obtain ⟨_, h2, h3⟩ := must_e h
  rw [nb_len] at h3
  exact ⟨by rw [tk_pfx]; exact h2, h3⟩

theorem not_sees {s : List UInt8} {t : St} {b c : Nat} (h : sees s t b = true) (hbc : b ≠ c) : sees s t c = false := by
  obtain ⟨h1, h2⟩ := sees_e h
  simp [sees, h1, h2, hbc]

/-- What a constant leaves, against the machine. -/
def CnM (g : Nat) (q : ByteArray) (p v : Value) (n : Nat) (w0 : World) (q0 c X : Nat) (o : List UInt8) (d : Nat) (r : Ending) (w' : World) : Prop := ∃ t', Live (bs q) q0 c X o d t' ∧ CnP g q p v n w0 t'.p r w'

theorem k_constant {w0 w : World} {g : Nat} {q : ByteArray} {p v : Value} {n : Nat} (hq : q.size ≤ 1000) (hf : FinP (bs q)) (he : Er g w0) {q0 c d : Nat} {o : List UInt8} {t : St} (hok : Live (bs q) q0 c 17 o d t) (h : Qt g q p v n w0 t.p w) :
    Calls Tryz.prog 283 #[.pointer (some ⟨g, 0, none⟩)] w (CnM g q p v n w0 q0 c 18 o d) := by
  have e0 := hok.e0
  have word : ∀ (x a : UInt8) (l : List UInt8) (sign : ByteArray), nb sign = (x :: a :: l).map UInt8.toNat → sees (bs q) t x.toNat = true → nx (cS 17 o) x.toNat = ⟨24, 18, 0, a :: l, o⟩ →
      tk q t.p sign = true ∧ Live (bs q) q0 c 18 o d { t with p := t.p + sign.size } := by
    intro x a l sign hs hx hn
    have h1 := fin_live hf (ok_cword x a l (Or.inl hok) hx hn)
    rw [← hs] at h1
    obtain ⟨h2, h3⟩ := tk_must h1.e0
    rw [h3] at h1
    exact ⟨h2, h1⟩
  by_cases h1 : sees (bs q) t 116 = true
  · obtain ⟨a1, a2⟩ := word 116 114 [117, 101] ⟨#[116, 114, 117, 101]⟩ rfl h1 (by rw [show (116 : UInt8).toNat = 116 from rfl, nx17 (by decide)]; rfl)
    exact (cn_true h hq a1).mono (fun r w' hr => ⟨_, a2, hr⟩)
  · have h1 : sees (bs q) t 116 = false := by simpa using h1
    have T0 := tk_ne (sign := ⟨#[116, 114, 117, 101]⟩) e0 rfl h1
    by_cases h2 : sees (bs q) t 102 = true
    · obtain ⟨a1, a2⟩ := word 102 97 [108, 115, 101] ⟨#[102, 97, 108, 115, 101]⟩ rfl h2 (by rw [show (102 : UInt8).toNat = 102 from rfl, nx17 (by decide)]; rfl)
      exact (cn_false h hq T0 a1).mono (fun r w' hr => ⟨_, a2, hr⟩)
    · have h2 : sees (bs q) t 102 = false := by simpa using h2
      have T1 := tk_ne (sign := ⟨#[102, 97, 108, 115, 101]⟩) e0 rfl h2
      by_cases h3 : sees (bs q) t 110 = true
      · obtain ⟨a1, a2⟩ := word 110 117 [108, 108] ⟨#[110, 117, 108, 108]⟩ rfl h3 (by rw [show (110 : UInt8).toNat = 110 from rfl, nx17 (by decide)]; rfl)
        exact (cn_null h hq T0 T1 a1).mono (fun r w' hr => ⟨_, a2, hr⟩)
      · have h3 : sees (bs q) t 110 = false := by simpa using h3
        have T2 := tk_ne (sign := ⟨#[110, 117, 108, 108]⟩) e0 rfl h3
        by_cases h4 : sees (bs q) t 39 = true
        · have a1 := fin_live hf (ok_cquote (Or.inl hok) h4)
          have e1 : must1 (bs q) t 39 = adv t := by unfold must1; rw [if_pos h4]
          unfold quoteP at a1
          rw [e1] at a1
          have T3 : tk q t.p ⟨#[39]⟩ = true := (tk1 q e0 39).trans h4
          refine (cn_quote h hq T0 T1 T2 T3).mono ?_
          rintro r w' ⟨k, hk, hr⟩
          obtain ⟨b1, b2⟩ := quote_eq (t := adv t) a1.e0 hk
          rw [b2, if_pos rfl] at hr
          rw [b1] at a1
          exact ⟨_, a1, hr⟩
        · have h4 : sees (bs q) t 39 = false := by simpa using h4
          have T3 := tk_ne (sign := ⟨#[39]⟩) e0 rfl h4
          have a1 := fin_live hf (ok_ccount (Or.inl hok) h4 h1 h2 h3)
          unfold countP minusP at a1
          simp only [if_true, Bool.true_and] at a1
          by_cases h5 : sees (bs q) t 45 = true
          · have e1 : has (bs q) t 45 = adv t := by unfold has; rw [if_pos h5]
            rw [e1] at a1
            have T4 : tk q t.p ⟨#[45]⟩ = true := (tk1 q e0 45).trans h5
            refine (cn_minus h hq T0 T1 T2 T3 T4 he (fun k hk => ?_)).mono ?_
            · have := (cnt_eq hf (t := adv t) e0 a1 (Or.inr (Or.inr (Or.inr rfl))) hk).2
              simp only [adv] at this
              omega
            · rintro r w' ⟨k, hk, hr⟩
              rw [(cnt_eq hf (t := adv t) e0 a1 (Or.inr (Or.inr (Or.inr rfl))) hk).1] at a1
              exact ⟨_, a1, hr⟩
          · have h5 : sees (bs q) t 45 = false := by simpa using h5
            have e1 : has (bs q) t 45 = t := by unfold has; rw [if_neg (by rw [h5]; decide)]
            rw [e1] at a1
            have T4 := tk_ne (sign := ⟨#[45]⟩) e0 rfl h5
            refine (cn_plain h hq T0 T1 T2 T3 T4 he (fun k hk => ?_)).mono ?_
            · have := (cnt_eq hf e0 a1 (Or.inr (Or.inr (Or.inr rfl))) hk).2
              omega
            · rintro r w' ⟨k, hk, hr⟩
              rw [(cnt_eq hf e0 a1 (Or.inr (Or.inr (Or.inr rfl))) hk).1] at a1
              exact ⟨_, a1, hr⟩

end Go.Proofs.YtcbadebjpogmlaaGreatDoor

/- The program's maker: a step to an element. -/
namespace Go.Proofs.YtcbadebjpogmlaaGreatDoor
open Go.RowKit Tr

theorem cnt_eq2 {q : ByteArray} {t : St} {m : Bool} (he : t.e = 0) (he0 : (countQ (bs q) t m).e = 0) (hnd : isDig (bt (bs q) (countQ (bs q) t m).p) = false)
    {k : Nat} (hk : RunP isDig q t.p k) : countQ (bs q) t m = { t with p := k } ∧ k ≤ t.p + 3 := by
  unfold countQ at hnd he0 ⊢
  split at hnd
  · rename_i hc
    rw [if_pos hc] at he0
    simp [wrong, he] at he0
  · rename_i hc
    rw [if_neg hc] at he0
    rw [if_neg hc]
    have hd : isDig (bt (bs q) t.p) = true := by
      simp only [not_or] at hc
      have := hc.1
      simpa [digit, he] using this
    split at hnd
    · rename_i h48
      rw [if_pos h48]
      have e1 : run isDig (bs q) 1 t.p = t.p + 1 := by simp [run, hd]
      have := run_of (K := 1) hk (by decide) (by rw [e1]; exact hnd)
      rw [e1] at this
      subst this
      exact ⟨rfl, by omega⟩
    · rename_i h48
      rw [if_neg h48]
      have e1 : (runP isDig (bs q) 3 t) = { t with p := run isDig (bs q) 3 t.p } := by unfold runP; rw [if_pos he]
      rw [e1] at hnd ⊢
      have := run_of (K := 3) hk (by decide) hnd
      have h3 := run_le isDig (bs q) 3 t.p
      rw [this] at h3 ⊢
      exact ⟨rfl, h3⟩

/-- A function comes back. -/
def FnP (g : Nat) (q : ByteArray) (p v : Value) (n : Nat) (w0 : World) (a : Nat) (r : Ending) (w' : World) : Prop := (∃ f x y, r = .returned (.func f x y)) ∧ Qt g q p v n w0 a w'

set_option maxHeartbeats 1000000 in
theorem el_minus {w0 w : World} {g : Nat} {q : ByteArray} {a : Nat} {p v : Value} {n : Nat} (h : Qt g q p v n w0 a w) (hq : q.size ≤ 1000) (T0 : tk q a ⟨#[45]⟩ = true) (he : Er g w0) (h18 : ∀ k, RunP isDig q (a + 1) k → k ≤ a + 1 + 18) :
    Calls Tryz.prog 288 #[.pointer (some ⟨g, 0, none⟩)] w (fun r w' => ∃ k, RunP isDig q (a + 1) k ∧ FnP g q p v n w0 k r w') := by
  have H := hide h
  have HE := hide he
  have H18 := hide h18
  clear he h18
  clear h
  go_enter Tryz.func288, Tryz.ntmps288
  go_wp2_with fail
  refine (c_yes H.out hq _ T0 (a + 1) rfl).mono ?_
  rintro r w1 ⟨rfl, h1⟩
  clear H
  have H := hide h1
  clear h1
  go_wp2_with fail
  refine (k_count H.out hq HE.out H18.out _).mono ?_
  rintro r w1 ⟨k, m, hk, rfl, h1⟩
  have HK := hide hk
  clear H hk
  have H := hide h1
  clear h1
  go_wp2
  go_ret
  exact ⟨k, HK.out, ⟨_, _, _, rfl⟩, H.out.alloc _⟩

set_option maxHeartbeats 1000000 in
theorem el_plain {w0 w : World} {g : Nat} {q : ByteArray} {a : Nat} {p v : Value} {n : Nat} (h : Qt g q p v n w0 a w) (hq : q.size ≤ 1000) (T0 : tk q a ⟨#[45]⟩ = false) (he : Er g w0) (h18 : ∀ k, RunP isDig q a k → k ≤ a + 18) :
    Calls Tryz.prog 288 #[.pointer (some ⟨g, 0, none⟩)] w (fun r w' => ∃ k, RunP isDig q a k ∧ FnP g q p v n w0 k r w') := by
  have H := hide h
  have HE := hide he
  have H18 := hide h18
  clear he h18
  clear h
  go_enter Tryz.func288, Tryz.ntmps288
  go_wp2_with fail
  refine (c_no H.out hq _ T0).mono ?_
  rintro r w1 ⟨rfl, h1⟩
  clear H
  have H := hide h1
  clear h1
  go_wp2_with fail
  refine (k_count H.out hq HE.out H18.out _).mono ?_
  rintro r w1 ⟨k, m, hk, rfl, h1⟩
  have HK := hide hk
  clear H hk
  have H := hide h1
  clear h1
  go_wp2
  go_ret
  exact ⟨k, HK.out, ⟨_, _, _, rfl⟩, H.out.alloc _⟩

end Go.Proofs.YtcbadebjpogmlaaGreatDoor

/- The program's maker against the plain machine: the steps of a test. -/
namespace Go.Proofs.YtcbadebjpogmlaaGreatDoor
open Go.RowKit Tr

theorem k_element {w0 w : World} {g : Nat} {q : ByteArray} {p v : Value} {n : Nat} (hq : q.size ≤ 1000) (hf : FinP (bs q)) (he : Er g w0) {q0 c d : Nat} {o : List UInt8} {t : St} (hok : Live (bs q) q0 c 11 o d t) (hb : sees (bs q) t 91 = true) (h : Qt g q p v n w0 (t.p + 1) w) :
    Calls Tryz.prog 288 #[.pointer (some ⟨g, 0, none⟩)] w (fun r w' => ∃ k, t.p < k ∧ tk q k ⟨#[93]⟩ = true ∧ Live (bs q) q0 c 11 o d { t with p := k + 1 } ∧ FnP g q p v n w0 k r w') := by
  have e0 := hok.e0
  have a1 := fin_live hf (ok_idx (Or.inl hok) hb)
  obtain ⟨s1, s2⟩ := must1_e a1.e0
  rw [s2] at a1
  obtain ⟨s3, s4⟩ := sees_e s1
  unfold countP minusP at a1 s1 s3 s4
  simp only [if_true, Bool.true_and] at a1 s1 s3 s4
  by_cases h5 : sees (bs q) (adv t) 45 = true
  · have e1 : has (bs q) (adv t) 45 = adv (adv t) := by unfold has; rw [if_pos h5]
    rw [e1] at a1 s1 s3 s4
    have T0 : tk q (t.p + 1) ⟨#[45]⟩ = true := (tk1 q (t := adv t) e0 45).trans h5
    have fact : ∀ k, RunP isDig q (t.p + 1 + 1) k → _ := fun k hk => cnt_eq2 (t := adv (adv t)) e0 s3 (by rw [s4]; decide) hk
    refine (el_minus h hq T0 he (fun k hk => ?_)).mono ?_
    · have := (fact k hk).2
      simp only [adv] at this
      omega
    · rintro r w' ⟨k, hk, hr⟩
      have f1 := (fact k hk).1
      rw [f1] at a1 s1
      have hge := hk.ge
      exact ⟨k, by omega, (tk1 q (t := { adv (adv t) with p := k }) e0 93).trans s1, a1, hr⟩
  · have h5 : sees (bs q) (adv t) 45 = false := by simpa using h5
    have e1 : has (bs q) (adv t) 45 = adv t := by unfold has; rw [if_neg (by rw [h5]; decide)]
    rw [e1] at a1 s1 s3 s4
    have T0 := tk_ne (t := adv t) (sign := ⟨#[45]⟩) e0 rfl h5
    have fact : ∀ k, RunP isDig q (t.p + 1) k → _ := fun k hk => cnt_eq2 (t := adv t) e0 s3 (by rw [s4]; decide) hk
    refine (el_plain h hq T0 he (fun k hk => ?_)).mono ?_
    · have := (fact k hk).2
      simp only [adv] at this
      omega
    · rintro r w' ⟨k, hk, hr⟩
      have f1 := (fact k hk).1
      rw [f1] at a1 s1
      have hge := hk.ge
      exact ⟨k, by omega, (tk1 q (t := { adv t with p := k }) e0 93).trans s1, a1, hr⟩

end Go.Proofs.YtcbadebjpogmlaaGreatDoor
