/- The reference reader's word, quote and count do to its block what the plain functions say, and to nothing else. -/
import Derived.Test.YtcbadebjpogmlaaGreatDoorJRefA
namespace Go.Proofs.YtcbadebjpogmlaaGreatDoor
open Go.RowKit Tr

theorem hide {p : Prop} (h : p) : Hid p := h

/-- The place in the reader's block, for a loop's measure. -/
def mP (b : Nat) (w : World) : Nat := (intOf ((w.cell? ⟨b, 1, none⟩).getD (.int .i64 0))).toNat
theorem HasM.mP {w : World} {b : Nat} {s : ByteArray} {t : St} (h : HasM w b s t) : mP b w = t.p := by
  unfold Go.Proofs.YtcbadebjpogmlaaGreatDoor.mP; rw [h.c1]; simp [intOf]

theorem run_stops {ok : Nat → Bool} {s : List UInt8} {p k : Nat} (h : run ok s k p = p + k) (hb : ok (bt s (p + k)) = false) : ∀ K, k ≤ K → run ok s K p = p + k := by
  intro K hK
  induction K with
  | zero => have : k = 0 := by omega
            subst this; rfl
  | succ K ih =>
    by_cases e : k = K + 1
    · subst e; exact h
    · have i := ih (by omega)
      rw [run_succ, if_neg]
      · exact i
      · rintro ⟨h1, h2⟩
        have : k = K := by omega
        subst this
        rw [hb] at h2; cases h2

theorem run_more {ok : Nat → Bool} {s : List UInt8} {p k : Nat} (h : run ok s k p = p + k) (hb : ok (bt s (p + k)) = true) : run ok s (k + 1) p = p + (k + 1) := by
  rw [run_succ, if_pos ⟨h, hb⟩]; rfl

theorem wordP_stop {s : List UInt8} {t : St} {k : Nat} (hk : t.e = 0 ∨ k = 0) (h8 : k ≤ 8) (h : run isLet s k t.p = t.p + k) (hb : k = 8 ∨ letter s { t with p := t.p + k } = false) :
    wordP s t = if k = 0 then wrong t 2 else { t with p := t.p + k } := by
  by_cases he : t.e = 0
  · have hr : run isLet s 8 t.p = t.p + k := by
      rcases hb with rfl | hb
      · exact h
      · exact run_stops h (by simpa [letter, he] using hb) 8 h8
    unfold wordP
    rw [if_pos he, hr]
    by_cases hk0 : k = 0
    · subst hk0; simp [wrong, he]
    · rw [if_neg (by omega), if_neg hk0]
  · have hk0 : k = 0 := by rcases hk with x | x; exact absurd x he; exact x
    subst hk0
    unfold wordP wrong
    simp [he]

set_option maxHeartbeats 1000000 in
theorem c_word {w : World} {b : Nat} {s : ByteArray} {t : St} (h : HasM w b s t) (hs : s.size ≤ 120) (hp : t.p ≤ s.size) :
    Calls Tryz.prog 93 #[.pointer (some ⟨b, 0, none⟩)] w fun r w' => r = .returned (.string (s.extract t.p (wordP (bs s) t).p)) ∧ Rd b s w (wordP (bs s) t) w' := by
  have h1 := h.c1
  have HH := hide h
  clear h
  go_enter Tryz.func93, Tryz.ntmps93
  go_wp2
  go_loopw [4] (fun _ wr => ∃ k : Nat, k ≤ 8 ∧ (t.e = 0 ∨ k = 0) ∧ run isLet (bs s) k t.p = t.p + k ∧ Rd b s w { t with p := t.p + k } wr) (fun _ wr => t.p + 8 - mP b wr)
  case atStart => exact ⟨0, by omega, Or.inr rfl, rfl, Rd.same HH.out⟩
  case round =>
    obtain ⟨k, hk, hek, hrun, hr⟩ := hrel
    have HR := hide hr
    have q1 := hr.m.c1
    have q0 := hr.m.c0
    have qz := hr.m.fz 1
    have hle : t.p + k ≤ s.size := by
      have := run_len (ok := isLet) (s := bs s) (fun b h => isLet_lt h) k t.p (by rw [bs_len]; exact hp)
      rw [bs_len] at this; omega
    have HE := hide hek
    have HU := hide hrun
    clear hr hek hrun h1
    simp only at q1
    by_cases hlt : k < 8
    · by_cases hb : letter (bs s) { t with p := t.p + k } = true
      · have HB := hide hb
        clear hb
        go_wp2_with fail
        refine (c_letter HR.out.m).mono ?_
        rintro r w1 ⟨rfl, nn, rfl⟩
        rw [HB.out]
        go_wp2
        go_roundw
        case rel =>
          have hb := HB.out
          simp only [letter, Bool.and_eq_true, beq_iff_eq] at hb
          exact ⟨k + 1, by omega, Or.inl hb.1, run_more HU.out hb.2, (HR.out.drewN nn).setP (t.p + k + 1)⟩
        case measure =>
          have e1 := HR.out.m.mP
          have e2 := ((HR.out.drewN nn).setP (t.p + k + 1)).m.mP
          simp only at e1 e2
          rw [e1]
          have : mP b ((wr.drewN nn).setCell ⟨b, 1, none⟩ (.int .i64 (t.p + k + 1 : Nat))) = t.p + k + 1 := e2
          simp at this ⊢
          omega
      · have hb' : letter (bs s) { t with p := t.p + k } = false := by simpa using hb
        have HW := hide (wordP_stop (s := bs s) HE.out hk HU.out (Or.inr hb'))
        have HB := hide hb'
        clear hb hb'
        go_wp2_with fail
        refine (c_letter HR.out.m).mono ?_
        rintro r w1 ⟨rfl, nn, rfl⟩
        rw [HB.out]
        by_cases hk0 : k = 0
        · subst hk0
          go_wp2_with fail
          refine (c_wrong (HR.out.m.drewN nn) 2 _ rfl).mono ?_
          rintro r w2 ⟨rfl, hr2⟩
          have HR2 := hide ((HR.out.drewN nn).trans hr2)
          have q3 := hr2.m.c1
          have q4 := hr2.m.c0
          have e3 : (wrong { t with p := t.p + 0 } 2).p = t.p := by unfold wrong; split <;> rfl
          simp only [e3] at q3
          clear hr2 q0 q1 qz e3
          go_wp2
          go_quiet (fail)
          go_wp2
          go_ret
          have hw := HW.out
          simp only [if_true] at hw
          rw [hw]
          have e4 : (wrong t 2).p = t.p := by unfold wrong; split <;> rfl
          rw [e4]
          exact ⟨by simp, HR2.out.drewN _⟩
        · have hkz : (((t.p : Int) + k) == t.p) = false := by rw [beq_eq_false_iff_ne]; omega
          go_wp2
          go_quiet (fail)
          go_wp2
          go_ret
          have hw := HW.out
          rw [if_neg hk0] at hw
          rw [hw]
          exact ⟨rfl, (HR.out.drewN nn).drewN _⟩
    · have h8 : k = 8 := by omega
      subst h8
      have HW := hide (wordP_stop (s := bs s) HE.out hk HU.out (Or.inl rfl))
      go_wp2
      go_quiet (fail)
      go_wp2
      go_ret
      have hw := HW.out
      rw [if_neg (by omega)] at hw
      rw [hw]
      exact ⟨rfl, HR.out.drewN _⟩

theorem nb39 : nb ⟨#[39]⟩ = [39] := rfl
theorem must_39 (s : List UInt8) (t : St) : must s t (nb ⟨#[39]⟩) = must1 s t 39 := rfl

theorem must1_le {s : List UInt8} {t : St} {c : Nat} (hc : c < 256) (h : t.p ≤ s.length) : (must1 s t c).p ≤ s.length := by
  unfold must1; split
  · rename_i hb
    simp [sees] at hb
    have := bt_lt (s := s) (p := t.p) (by omega)
    simp [adv]; omega
  · unfold wrong; split <;> exact h

theorem quo_of {s : List UInt8} {t : St} (h : t.e = 0) : isQuo (bt s t.p) = (letter s t || digit s t || sees s t 32) := by
  simp [isQuo, letter, digit, sees, h]

theorem quo_false {s : List UInt8} {t : St} (h1 : letter s t = false) (h2 : digit s t = false) (h3 : sees s t 32 = false) : ¬ t.e = 0 ∨ isQuo (bt s t.p) = false := by
  by_cases h : t.e = 0
  · right; rw [quo_of h, h1, h2, h3]; rfl
  · left; exact h

theorem runP_stop {ok : Nat → Bool} {s : List UInt8} {t : St} {k K : Nat} (hK : k ≤ K) (hk : t.e = 0 ∨ k = 0) (h : run ok s k t.p = t.p + k) (hb : k = K ∨ ¬ t.e = 0 ∨ ok (bt s (t.p + k)) = false) :
    runP ok s K t = { t with p := t.p + k } := by
  unfold runP
  by_cases he : t.e = 0
  · rw [if_pos he]
    rcases hb with rfl | hb | hb
    · rw [h]
    · exact absurd he hb
    · rw [run_stops h hb K hK]
  · rw [if_neg he]
    have hk0 : k = 0 := by rcases hk with x | x; exact absurd x he; exact x
    subst hk0; rfl

set_option maxHeartbeats 2000000 in
theorem c_quote {w : World} {b : Nat} {s : ByteArray} {t : St} (h : HasM w b s t) (hs : s.size ≤ 120) (hp : t.p ≤ s.size) :
    Calls Tryz.prog 118 #[.pointer (some ⟨b, 0, none⟩)] w fun r w' => r = .returned (.string (s.extract (must1 (bs s) t 39).p (runP isQuo (bs s) 8 (must1 (bs s) t 39)).p)) ∧ Rd b s w (quoteP (bs s) t) w' := by
  have HH := hide h
  clear h
  have hp1 : (must1 (bs s) t 39).p ≤ s.size := by
    have := must1_le (s := bs s) (t := t) (c := 39) (by omega) (by rw [bs_len]; exact hp)
    rw [bs_len] at this; exact this
  have hq : quoteP (bs s) t = must1 (bs s) (runP isQuo (bs s) 8 (must1 (bs s) t 39)) 39 := rfl
  rw [hq]
  clear hq
  generalize hu : must1 (bs s) t 39 = u at *
  have HX := hide hu
  clear hu
  go_enter Tryz.func118, Tryz.ntmps118
  go_wp2_with fail
  refine (c_must HH.out ⟨#[39]⟩ (by decide) hs).mono ?_
  rintro r w1 ⟨rfl, hr1⟩
  rw [must_39, HX.out] at hr1
  have HR1 := hide hr1
  have u1 := hr1.m.c1
  clear hr1
  go_wp2
  go_loopw [4, 5, 6] (fun _ _ _ wr => ∃ k : Nat, k ≤ 8 ∧ (u.e = 0 ∨ k = 0) ∧ run isQuo (bs s) k u.p = u.p + k ∧ Rd b s w { u with p := u.p + k } wr) (fun _ _ _ wr => u.p + 8 - mP b wr)
  case atStart => exact ⟨0, by omega, Or.inr rfl, rfl, HR1.out⟩
  case round =>
    obtain ⟨k, hk, hek, hrun, hr⟩ := hrel
    have HR := hide hr
    have q1 := hr.m.c1
    have q0 := hr.m.c0
    have qz := hr.m.fz 1
    have hle : u.p + k ≤ s.size := by
      have := run_len (ok := isQuo) (s := bs s) (fun b h => isQuo_lt h) k u.p (by rw [bs_len]; exact hp1)
      rw [bs_len] at this; omega
    have HE := hide hek
    have HU := hide hrun
    clear hr hek hrun u1
    simp only at q1
    by_cases hlt : k < 8
    · cases ha : letter (bs s) { u with p := u.p + k } <;> cases hb : digit (bs s) { u with p := u.p + k } <;> cases hc : sees (bs s) { u with p := u.p + k } 32
      case false.false.false =>
        have HA := hide ha
        have HB := hide hb
        have HC := hide hc
        have HF := hide (quo_false ha hb hc)
        have HS := hide (runP_stop (ok := isQuo) (s := bs s) hk HE.out HU.out (Or.inr HF.out))
        clear ha hb hc q0 qz
        go_wp2_with fail
        refine (k_letter HR.out.m).mono ?_
        clear q1
        rintro r v1 ⟨rfl, g1⟩
        rw [HA.out]
        have G1 := hide (HR.out.trans g1)
        clear g1
        go_wp2_with fail
        refine (k_digit G1.out.m).mono ?_
        rintro r v2 ⟨rfl, g2⟩
        rw [HB.out]
        have G2 := hide (G1.out.trans g2)
        clear g2
        go_wp2_with fail
        refine (k_sees G2.out.m 32 32 rfl (by omega)).mono ?_
        rintro r v3 ⟨rfl, g3⟩
        rw [HC.out]
        have G3 := hide (G2.out.trans g3)
        have q1 := G3.out.m.c1
        have q0 := G3.out.m.c0
        simp only at q1
        clear g3
        go_wp2
        go_quiet (fail)
        go_wp2_with fail
        refine (c_must (G3.out.m.drewN _) ⟨#[39]⟩ (by decide) hs).mono ?_
        rintro r v4 ⟨rfl, g4⟩
        have G4 := hide ((G3.out.drewN _).trans g4)
        rw [must_39] at G4
        clear g4
        go_wp2
        go_ret
        rw [HS.out]
        exact ⟨rfl, G4.out⟩
      all_goals
        have HQ : Hid (u.e = 0 ∧ isQuo (bt (bs s) (u.p + k)) = true) := by
          have he : u.e = 0 := by
            simp only [letter, digit, sees, Bool.and_eq_true, beq_iff_eq] at ha hb hc
            first | exact ha.1 | exact hb.1 | exact hc.1
          refine ⟨he, ?_⟩
          have := quo_of (s := bs s) (t := { u with p := u.p + k }) he
          simp only at this
          rw [this, ha, hb, hc]; rfl
        have HA := hide ha
        have HB := hide hb
        have HC := hide hc
        clear ha hb hc q0 qz
        go_wp2_with fail
        refine (k_letter HR.out.m).mono ?_
        clear q1
        rintro r v1 ⟨rfl, g1⟩
        rw [HA.out]
        have G1 := hide (HR.out.trans g1)
        clear g1
        go_wp2_with fail
        refine (k_digit G1.out.m).mono ?_
        rintro r v2 ⟨rfl, g2⟩
        rw [HB.out]
        have G2 := hide (G1.out.trans g2)
        clear g2
        go_wp2_with fail
        refine (k_sees G2.out.m 32 32 rfl (by omega)).mono ?_
        rintro r v3 ⟨rfl, g3⟩
        rw [HC.out]
        have G3 := hide (G2.out.trans g3)
        have q1 := G3.out.m.c1
        have q0 := G3.out.m.c0
        have qz := G3.out.m.fz 1
        simp only at q1
        clear g3
        go_wp2
        go_roundw
        case rel => exact ⟨k + 1, by omega, Or.inl HQ.out.1, run_more HU.out HQ.out.2, G3.out.setP (u.p + k + 1)⟩
        case measure =>
          have e1 := HR.out.m.mP
          have e2 := (G3.out.setP (u.p + k + 1)).m.mP
          simp only at e1 e2
          rw [e1]
          have : mP b (v3.setCell ⟨b, 1, none⟩ (.int .i64 (u.p + k + 1 : Nat))) = u.p + k + 1 := e2
          simp at this ⊢
          omega
    · have h8 : k = 8 := by omega
      subst h8
      have HS := hide (runP_stop (ok := isQuo) (s := bs s) hk HE.out HU.out (Or.inl rfl))
      go_wp2
      go_quiet (fail)
      go_wp2_with fail
      refine (c_must (HR.out.m.drewN _) ⟨#[39]⟩ (by decide) hs).mono ?_
      rintro r v4 ⟨rfl, g4⟩
      have G4 := hide ((HR.out.drewN _).trans g4)
      rw [must_39] at G4
      clear g4
      go_wp2
      go_ret
      rw [HS.out]
      exact ⟨rfl, G4.out⟩

end Go.Proofs.YtcbadebjpogmlaaGreatDoor
