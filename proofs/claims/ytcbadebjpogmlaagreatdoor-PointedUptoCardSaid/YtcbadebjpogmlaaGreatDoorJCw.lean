import Derived.Test.YtcbadebjpogmlaaGreatDoorJGn
namespace Go.Proofs.YtcbadebjpogmlaaGreatDoor
open Go.RowKit Tr Go.Conc
theorem tx_point {l : List UInt8} (hl : l.length ≤ 4000000) (h : txErr l ≠ 0) : (txErr l = 2 ∨ txErr l = 3) ∧ txAt l ≤ l.length ∧ stE (l.take (txAt l)) = 0 ∧ (txAt l < l.length → stE (l.take (txAt l + 1)) = txErr l ∧ stAt (l.take (txAt l + 1)) = txAt l) := by
  have R := run_ok' l sInit_ok.1 sInit_ok.2 (by simp [sInit]) (by simp [sInit]; omega)
  by_cases he : (sRun sInit l).e ≠ 0
  · have e1 : txErr l = (sRun sInit l).e := by unfold txErr; rw [if_pos he]
    have e2 : txAt l = (sRun sInit l).z.at' := by unfold txAt; rw [if_pos he]
    have P := sRun_pre l sInit_ok.1 sInit_ok.2 (by simp [sInit]) (by simp [sInit]; omega) he
    have z0 : sInit.at' = 0 := rfl
    rw [z0, Nat.sub_zero] at P
    have A := R.at' he
    rw [z0] at A
    refine ⟨?_, by rw [e2]; omega, by rw [e2]; exact P.1, fun _ => ?_⟩
    · rw [e1]
      rcases R.e with y | y | y
      · exact absurd y he
      · exact Or.inl y
      exact Or.inr y
    have e3 : stE (l.take (txAt l + 1)) = (sRun sInit l).e := by unfold stE; rw [e2, P.2]
    refine ⟨by rw [e3, e1], ?_⟩
    unfold stAt
    rw [e3, if_neg he, e2, P.2]
  have e0 : (sRun sInit l).e = 0 := by simpa using he
  have hw : ¬ sWhole (sRun sInit l).z = true := fun y => h (by unfold txErr; rw [if_neg he, if_pos y])
  have e1 : txErr l = 2 := by unfold txErr; rw [if_neg he, if_neg hw]
  have e2 : txAt l = l.length := by unfold txAt; rw [if_neg he, if_neg hw]
  refine ⟨Or.inl e1, by omega, ?_, fun y => by omega⟩
  rw [e2, List.take_length]; exact e0
def hq0 : ByteArray := ⟨#[36]⟩
theorem fin0 : FinP (bs hq0) ∧ C (bs hq0) (hq0.size + 1) ≤ 10 := by unfold FinP; decide +kernel
set_option maxHeartbeats 16000000 in
set_option maxRecDepth 100000 in
theorem p_pointed {w : World} (he : EN w) (s t : ByteArray) (hs : s.size ≤ 1100000) (ht : t.size ≤ 1100000) : Calls Tryz.prog 11 #[.string s, .string t] w fun r w' => r = .returned (.bool true) ∧ Keeps w w' := by
  have HE := hide he
  clear he
  go_enter Tryz.func11, Tryz.ntmps11
  go_wp2_with fail
  refine (p_compiled (s := hq0) HE.out (by decide) fin0.1 fin0.2).mono ?_
  rintro r w1 ⟨gx, rfl, hQ, k1⟩
  have HQ := hide hQ
  have E1 := hide (HE.out.keep k1)
  have K1 := hide k1
  clear hQ k1 HE
  go_wp2_with fail
  refine (m_comp (s := s) (by unfold maxLen; omega) E1.out.ev).mono ?_
  rintro r w2 ⟨k2, h | h | h | h⟩
  · obtain ⟨_, rfl⟩ := h
    have QQ := hide (HQ.out.keep k2)
    have EE := hide (E1.out.keep k2)
    have KK := hide (K1.out.trans k2)
    clear k2 HQ E1 K1
    go_wp2_with fail
    refine (q_select QQ.out EE.out t ht).mono ?_
    rintro r wS ⟨kS, hS | hS⟩
    · obtain ⟨hne, rfl⟩ := hS
      obtain ⟨p1, p2, p3, p4⟩ := tx_point (l := bs t) (by rw [bs_len]; omega) hne
      rw [bs_len] at p2 p4
      have QS := hide (QQ.out.keep kS)
      have ES := hide (EE.out.keep kS)
      have KS := hide (KK.out.trans kS)
      generalize txErr (bs t) = te at *
      generalize txAt (bs t) = ta at *
      have F1 := hide (q_fed0 QS.out ES.out (t.extract 0 ta) (by simp; omega) (ints_nil wS))
      rw [ext_take t ta, p3] at F1
      have P4 := hide p4
      have hta : ¬ (ta : Int) < 0 := by omega
      have hta2 : ¬ (t.size : Int) < (ta : Int) := by omega
      clear hne kS QQ EE KK p3 p4
      have te2 : te = 2 ∨ te = 3 := p1
      clear p1
      rcases te2 with rfl | rfl
      all_goals
        go_wp2_with fail
        refine F1.out.mono ?_
        rintro r wF ⟨av, rfl, _, _, kF⟩
        have KF := hide (KS.out.trans kF)
        have QF := hide (QS.out.keep kF)
        have EF := hide (ES.out.keep kF)
        clear kF F1
        by_cases ha : ta = t.size
        · subst ha
          clear P4 QF EF QS ES KS
          go_wp2
          go_ret
          exact ⟨rfl, KF.out⟩
        have hlt : ta < t.size := by omega
        have F2 := hide (q_fed0 QF.out EF.out (t.extract 0 (ta + 1)) (by simp; omega) (ints_nil wF))
        rw [ext_take t (ta + 1), (P4.out hlt).1, (P4.out hlt).2] at F2
        have hta3 : ¬ (ta : Int) = (t.size : Int) := by omega
        have hw1 : IntKind.i64.wrap ((ta : Int) + 1) = (ta : Int) + 1 := by rw [IntWalk.i64_in _ (by omega)]
        clear P4 QF EF QS ES KS ha
        go_wp2_with fail
        refine F2.out.mono ?_
        rintro r wG ⟨av2, rfl, _, _, kG⟩
        have KG := hide (KF.out.trans kG)
        clear kG F2
        go_wp2
        go_ret
        exact ⟨rfl, KG.out⟩
    obtain ⟨_, tv, sv, _, rfl, _⟩ := hS
    have KS := hide (KK.out.trans kS)
    clear kS QQ EE KK
    go_wp2
    go_ret
    exact ⟨rfl, KS.out⟩
  · obtain ⟨hs120, e, p, hr, rfl⟩ := h
    have h23 : e = 2 ∨ e = 3 := by have := hr.st; have := hr.e3; omega
    have hpl : p ≤ s.size := by have := hr.le; rw [bs_len] at this; exact this
    have HR := hide hr
    have PRE := hide hr.pre
    have Q2 := hide (HQ.out.keep k2)
    have E2 := hide (E1.out.keep k2)
    have K2 := hide (K1.out.trans k2)
    have CM := hide (m_comp (w := w2) (s := s.extract 0 p) (by unfold maxLen; simp; omega) E2.out.ev)
    clear hr k2 HQ E1 K1
    rcases h23 with rfl | rfl
    all_goals
      go_wp2_with fail
      refine CM.out.mono ?_
      rintro r w3 ⟨k3, h3 | h3 | h3 | h3⟩
      · exact absurd h3.1 (by simp; omega)
      · obtain ⟨_, e', p', h3a, rfl⟩ := h3
        rw [ext_take] at h3a
        have X : 2 = e' ∧ p = p' := by
          rcases PRE.out with y | y
          · exact (h3a.notFin y).elim
          exact ⟨(h3a.uniq y).1.symm, (h3a.uniq y).2.symm⟩
        obtain ⟨x1, x2⟩ := X
        subst x1 x2
        clear h3a
        have QQ := hide (Q2.out.keep k3)
        have EE := hide (E2.out.keep k3)
        have KK := hide (K2.out.trans k3)
        clear k3 PRE Q2 E2 K2 CM
        by_cases hp : p = s.size
        · have hpi : ¬ (p : Int) < (s.size : Int) := by omega
          clear HR hp hpl
          go_wp2_with fail
          refine (q_select QQ.out EE.out t ht).mono ?_
          rintro r wS ⟨kS, hS | hS⟩
          · obtain ⟨hne, rfl⟩ := hS
            obtain ⟨p1, p2, p3, p4⟩ := tx_point (l := bs t) (by rw [bs_len]; omega) hne
            rw [bs_len] at p2 p4
            have QS := hide (QQ.out.keep kS)
            have ES := hide (EE.out.keep kS)
            have KS := hide (KK.out.trans kS)
            generalize txErr (bs t) = te at *
            generalize txAt (bs t) = ta at *
            have F1 := hide (q_fed0 QS.out ES.out (t.extract 0 ta) (by simp; omega) (ints_nil wS))
            rw [ext_take t ta, p3] at F1
            have P4 := hide p4
            have hta : ¬ (ta : Int) < 0 := by omega
            have hta2 : ¬ (t.size : Int) < (ta : Int) := by omega
            clear hne kS QQ EE KK p3 p4
            have te2 : te = 2 ∨ te = 3 := p1
            clear p1
            rcases te2 with rfl | rfl
            all_goals
              go_wp2_with fail
              refine F1.out.mono ?_
              rintro r wF ⟨av, rfl, _, _, kF⟩
              have KF := hide (KS.out.trans kF)
              have QF := hide (QS.out.keep kF)
              have EF := hide (ES.out.keep kF)
              clear kF F1
              by_cases ha : ta = t.size
              · subst ha
                clear P4 QF EF QS ES KS
                go_wp2
                go_ret
                exact ⟨rfl, KF.out⟩
              have hlt : ta < t.size := by omega
              have F2 := hide (q_fed0 QF.out EF.out (t.extract 0 (ta + 1)) (by simp; omega) (ints_nil wF))
              rw [ext_take t (ta + 1), (P4.out hlt).1, (P4.out hlt).2] at F2
              have hta3 : ¬ (ta : Int) = (t.size : Int) := by omega
              have hw1 : IntKind.i64.wrap ((ta : Int) + 1) = (ta : Int) + 1 := by rw [IntWalk.i64_in _ (by omega)]
              clear P4 QF EF QS ES KS ha
              go_wp2_with fail
              refine F2.out.mono ?_
              rintro r wG ⟨av2, rfl, _, _, kG⟩
              have KG := hide (KF.out.trans kG)
              clear kG F2
              go_wp2
              go_ret
              exact ⟨rfl, KG.out⟩
          obtain ⟨_, tv, sv, _, rfl, _⟩ := hS
          have KS := hide (KK.out.trans kS)
          clear kS QQ EE KK
          go_wp2
          go_ret
          exact ⟨rfl, KS.out⟩
        have hlt : p < s.size := by omega
        have hw1 : IntKind.i64.wrap ((p : Int) + 1) = (p : Int) + 1 := by rw [IntWalk.i64_in _ (by omega)]
        have hlti : (p : Int) < (s.size : Int) := by omega
        have CM2 := hide (m_comp (w := w3) (s := s.extract 0 (p + 1)) (by unfold maxLen; simp; omega) EE.out.ev)
        go_wp2_with fail
        refine CM2.out.mono ?_
        rintro r w4 ⟨k4, h4 | h4 | h4 | h4⟩
        · exact absurd h4.1 (by simp; omega)
        · obtain ⟨_, e', p', h4a, rfl⟩ := h4
          rw [ext_take] at h4a
          obtain ⟨x1, x2⟩ := h4a.uniq (HR.out.pre1 (by rw [bs_len]; exact hlt))
          have x1 := x1.symm
          have x2 := x2.symm
          subst x1 x2
          have Q4 := hide (QQ.out.keep k4)
          have E4 := hide (EE.out.keep k4)
          have K4 := hide (KK.out.trans k4)
          clear k4 h4a QQ EE KK HR hpl CM2
          go_wp2_with fail
          refine (q_select Q4.out E4.out t ht).mono ?_
          rintro r wS ⟨kS, hS | hS⟩
          · obtain ⟨hne, rfl⟩ := hS
            obtain ⟨p1, p2, p3, p4⟩ := tx_point (l := bs t) (by rw [bs_len]; omega) hne
            rw [bs_len] at p2 p4
            have QS := hide (Q4.out.keep kS)
            have ES := hide (E4.out.keep kS)
            have KS := hide (K4.out.trans kS)
            generalize txErr (bs t) = te at *
            generalize txAt (bs t) = ta at *
            have F1 := hide (q_fed0 QS.out ES.out (t.extract 0 ta) (by simp; omega) (ints_nil wS))
            rw [ext_take t ta, p3] at F1
            have P4 := hide p4
            have hta : ¬ (ta : Int) < 0 := by omega
            have hta2 : ¬ (t.size : Int) < (ta : Int) := by omega
            clear hne kS Q4 E4 K4 p3 p4
            have te2 : te = 2 ∨ te = 3 := p1
            clear p1
            rcases te2 with rfl | rfl
            all_goals
              go_wp2_with fail
              refine F1.out.mono ?_
              rintro r wF ⟨av, rfl, _, _, kF⟩
              have KF := hide (KS.out.trans kF)
              have QF := hide (QS.out.keep kF)
              have EF := hide (ES.out.keep kF)
              clear kF F1
              by_cases ha : ta = t.size
              · subst ha
                clear P4 QF EF QS ES KS
                go_wp2
                go_ret
                exact ⟨rfl, KF.out⟩
              have hlt : ta < t.size := by omega
              have F2 := hide (q_fed0 QF.out EF.out (t.extract 0 (ta + 1)) (by simp; omega) (ints_nil wF))
              rw [ext_take t (ta + 1), (P4.out hlt).1, (P4.out hlt).2] at F2
              have hta3 : ¬ (ta : Int) = (t.size : Int) := by omega
              have hw1 : IntKind.i64.wrap ((ta : Int) + 1) = (ta : Int) + 1 := by rw [IntWalk.i64_in _ (by omega)]
              clear P4 QF EF QS ES KS ha
              go_wp2_with fail
              refine F2.out.mono ?_
              rintro r wG ⟨av2, rfl, _, _, kG⟩
              have KG := hide (KF.out.trans kG)
              clear kG F2
              go_wp2
              go_ret
              exact ⟨rfl, KG.out⟩
          obtain ⟨_, tv, sv, _, rfl, _⟩ := hS
          have KS := hide (K4.out.trans kS)
          clear kS Q4 E4 K4
          go_wp2
          go_ret
          exact ⟨rfl, KS.out⟩
        · rw [ext_take] at h4
          exact ((HR.out.pre1 (by rw [bs_len]; exact hlt)).notFin h4.2.1).elim
        rw [ext_take] at h4
        exact ((HR.out.pre1 (by rw [bs_len]; exact hlt)).notFin h4.2.1).elim
      · obtain ⟨y0, y1, y2, rfl⟩ := h3
        clear y0 y1 y2
        have QQ := hide (Q2.out.keep k3)
        have EE := hide (E2.out.keep k3)
        have KK := hide (K2.out.trans k3)
        clear k3 PRE Q2 E2 K2 CM
        by_cases hp : p = s.size
        · have hpi : ¬ (p : Int) < (s.size : Int) := by omega
          clear HR hp hpl
          go_wp2_with fail
          refine (q_select QQ.out EE.out t ht).mono ?_
          rintro r wS ⟨kS, hS | hS⟩
          · obtain ⟨hne, rfl⟩ := hS
            obtain ⟨p1, p2, p3, p4⟩ := tx_point (l := bs t) (by rw [bs_len]; omega) hne
            rw [bs_len] at p2 p4
            have QS := hide (QQ.out.keep kS)
            have ES := hide (EE.out.keep kS)
            have KS := hide (KK.out.trans kS)
            generalize txErr (bs t) = te at *
            generalize txAt (bs t) = ta at *
            have F1 := hide (q_fed0 QS.out ES.out (t.extract 0 ta) (by simp; omega) (ints_nil wS))
            rw [ext_take t ta, p3] at F1
            have P4 := hide p4
            have hta : ¬ (ta : Int) < 0 := by omega
            have hta2 : ¬ (t.size : Int) < (ta : Int) := by omega
            clear hne kS QQ EE KK p3 p4
            have te2 : te = 2 ∨ te = 3 := p1
            clear p1
            rcases te2 with rfl | rfl
            all_goals
              go_wp2_with fail
              refine F1.out.mono ?_
              rintro r wF ⟨av, rfl, _, _, kF⟩
              have KF := hide (KS.out.trans kF)
              have QF := hide (QS.out.keep kF)
              have EF := hide (ES.out.keep kF)
              clear kF F1
              by_cases ha : ta = t.size
              · subst ha
                clear P4 QF EF QS ES KS
                go_wp2
                go_ret
                exact ⟨rfl, KF.out⟩
              have hlt : ta < t.size := by omega
              have F2 := hide (q_fed0 QF.out EF.out (t.extract 0 (ta + 1)) (by simp; omega) (ints_nil wF))
              rw [ext_take t (ta + 1), (P4.out hlt).1, (P4.out hlt).2] at F2
              have hta3 : ¬ (ta : Int) = (t.size : Int) := by omega
              have hw1 : IntKind.i64.wrap ((ta : Int) + 1) = (ta : Int) + 1 := by rw [IntWalk.i64_in _ (by omega)]
              clear P4 QF EF QS ES KS ha
              go_wp2_with fail
              refine F2.out.mono ?_
              rintro r wG ⟨av2, rfl, _, _, kG⟩
              have KG := hide (KF.out.trans kG)
              clear kG F2
              go_wp2
              go_ret
              exact ⟨rfl, KG.out⟩
          obtain ⟨_, tv, sv, _, rfl, _⟩ := hS
          have KS := hide (KK.out.trans kS)
          clear kS QQ EE KK
          go_wp2
          go_ret
          exact ⟨rfl, KS.out⟩
        have hlt : p < s.size := by omega
        have hw1 : IntKind.i64.wrap ((p : Int) + 1) = (p : Int) + 1 := by rw [IntWalk.i64_in _ (by omega)]
        have hlti : (p : Int) < (s.size : Int) := by omega
        have CM2 := hide (m_comp (w := w3) (s := s.extract 0 (p + 1)) (by unfold maxLen; simp; omega) EE.out.ev)
        go_wp2_with fail
        refine CM2.out.mono ?_
        rintro r w4 ⟨k4, h4 | h4 | h4 | h4⟩
        · exact absurd h4.1 (by simp; omega)
        · obtain ⟨_, e', p', h4a, rfl⟩ := h4
          rw [ext_take] at h4a
          obtain ⟨x1, x2⟩ := h4a.uniq (HR.out.pre1 (by rw [bs_len]; exact hlt))
          have x1 := x1.symm
          have x2 := x2.symm
          subst x1 x2
          have Q4 := hide (QQ.out.keep k4)
          have E4 := hide (EE.out.keep k4)
          have K4 := hide (KK.out.trans k4)
          clear k4 h4a QQ EE KK HR hpl CM2
          go_wp2_with fail
          refine (q_select Q4.out E4.out t ht).mono ?_
          rintro r wS ⟨kS, hS | hS⟩
          · obtain ⟨hne, rfl⟩ := hS
            obtain ⟨p1, p2, p3, p4⟩ := tx_point (l := bs t) (by rw [bs_len]; omega) hne
            rw [bs_len] at p2 p4
            have QS := hide (Q4.out.keep kS)
            have ES := hide (E4.out.keep kS)
            have KS := hide (K4.out.trans kS)
            generalize txErr (bs t) = te at *
            generalize txAt (bs t) = ta at *
            have F1 := hide (q_fed0 QS.out ES.out (t.extract 0 ta) (by simp; omega) (ints_nil wS))
            rw [ext_take t ta, p3] at F1
            have P4 := hide p4
            have hta : ¬ (ta : Int) < 0 := by omega
            have hta2 : ¬ (t.size : Int) < (ta : Int) := by omega
            clear hne kS Q4 E4 K4 p3 p4
            have te2 : te = 2 ∨ te = 3 := p1
            clear p1
            rcases te2 with rfl | rfl
            all_goals
              go_wp2_with fail
              refine F1.out.mono ?_
              rintro r wF ⟨av, rfl, _, _, kF⟩
              have KF := hide (KS.out.trans kF)
              have QF := hide (QS.out.keep kF)
              have EF := hide (ES.out.keep kF)
              clear kF F1
              by_cases ha : ta = t.size
              · subst ha
                clear P4 QF EF QS ES KS
                go_wp2
                go_ret
                exact ⟨rfl, KF.out⟩
              have hlt : ta < t.size := by omega
              have F2 := hide (q_fed0 QF.out EF.out (t.extract 0 (ta + 1)) (by simp; omega) (ints_nil wF))
              rw [ext_take t (ta + 1), (P4.out hlt).1, (P4.out hlt).2] at F2
              have hta3 : ¬ (ta : Int) = (t.size : Int) := by omega
              have hw1 : IntKind.i64.wrap ((ta : Int) + 1) = (ta : Int) + 1 := by rw [IntWalk.i64_in _ (by omega)]
              clear P4 QF EF QS ES KS ha
              go_wp2_with fail
              refine F2.out.mono ?_
              rintro r wG ⟨av2, rfl, _, _, kG⟩
              have KG := hide (KF.out.trans kG)
              clear kG F2
              go_wp2
              go_ret
              exact ⟨rfl, KG.out⟩
          obtain ⟨_, tv, sv, _, rfl, _⟩ := hS
          have KS := hide (K4.out.trans kS)
          clear kS Q4 E4 K4
          go_wp2
          go_ret
          exact ⟨rfl, KS.out⟩
        · rw [ext_take] at h4
          exact ((HR.out.pre1 (by rw [bs_len]; exact hlt)).notFin h4.2.1).elim
        rw [ext_take] at h4
        exact ((HR.out.pre1 (by rw [bs_len]; exact hlt)).notFin h4.2.1).elim
      obtain ⟨y0, y1, y2, gq, tt, rfl, y3⟩ := h3
      clear y0 y1 y2 y3
      have QQ := hide (Q2.out.keep k3)
      have EE := hide (E2.out.keep k3)
      have KK := hide (K2.out.trans k3)
      clear k3 PRE Q2 E2 K2 CM
      by_cases hp : p = s.size
      · have hpi : ¬ (p : Int) < (s.size : Int) := by omega
        clear HR hp hpl
        go_wp2_with fail
        refine (q_select QQ.out EE.out t ht).mono ?_
        rintro r wS ⟨kS, hS | hS⟩
        · obtain ⟨hne, rfl⟩ := hS
          obtain ⟨p1, p2, p3, p4⟩ := tx_point (l := bs t) (by rw [bs_len]; omega) hne
          rw [bs_len] at p2 p4
          have QS := hide (QQ.out.keep kS)
          have ES := hide (EE.out.keep kS)
          have KS := hide (KK.out.trans kS)
          generalize txErr (bs t) = te at *
          generalize txAt (bs t) = ta at *
          have F1 := hide (q_fed0 QS.out ES.out (t.extract 0 ta) (by simp; omega) (ints_nil wS))
          rw [ext_take t ta, p3] at F1
          have P4 := hide p4
          have hta : ¬ (ta : Int) < 0 := by omega
          have hta2 : ¬ (t.size : Int) < (ta : Int) := by omega
          clear hne kS QQ EE KK p3 p4
          have te2 : te = 2 ∨ te = 3 := p1
          clear p1
          rcases te2 with rfl | rfl
          all_goals
            go_wp2_with fail
            refine F1.out.mono ?_
            rintro r wF ⟨av, rfl, _, _, kF⟩
            have KF := hide (KS.out.trans kF)
            have QF := hide (QS.out.keep kF)
            have EF := hide (ES.out.keep kF)
            clear kF F1
            by_cases ha : ta = t.size
            · subst ha
              clear P4 QF EF QS ES KS
              go_wp2
              go_ret
              exact ⟨rfl, KF.out⟩
            have hlt : ta < t.size := by omega
            have F2 := hide (q_fed0 QF.out EF.out (t.extract 0 (ta + 1)) (by simp; omega) (ints_nil wF))
            rw [ext_take t (ta + 1), (P4.out hlt).1, (P4.out hlt).2] at F2
            have hta3 : ¬ (ta : Int) = (t.size : Int) := by omega
            have hw1 : IntKind.i64.wrap ((ta : Int) + 1) = (ta : Int) + 1 := by rw [IntWalk.i64_in _ (by omega)]
            clear P4 QF EF QS ES KS ha
            go_wp2_with fail
            refine F2.out.mono ?_
            rintro r wG ⟨av2, rfl, _, _, kG⟩
            have KG := hide (KF.out.trans kG)
            clear kG F2
            go_wp2
            go_ret
            exact ⟨rfl, KG.out⟩
        obtain ⟨_, tv, sv, _, rfl, _⟩ := hS
        have KS := hide (KK.out.trans kS)
        clear kS QQ EE KK
        go_wp2
        go_ret
        exact ⟨rfl, KS.out⟩
      have hlt : p < s.size := by omega
      have hw1 : IntKind.i64.wrap ((p : Int) + 1) = (p : Int) + 1 := by rw [IntWalk.i64_in _ (by omega)]
      have hlti : (p : Int) < (s.size : Int) := by omega
      have CM2 := hide (m_comp (w := w3) (s := s.extract 0 (p + 1)) (by unfold maxLen; simp; omega) EE.out.ev)
      go_wp2_with fail
      refine CM2.out.mono ?_
      rintro r w4 ⟨k4, h4 | h4 | h4 | h4⟩
      · exact absurd h4.1 (by simp; omega)
      · obtain ⟨_, e', p', h4a, rfl⟩ := h4
        rw [ext_take] at h4a
        obtain ⟨x1, x2⟩ := h4a.uniq (HR.out.pre1 (by rw [bs_len]; exact hlt))
        have x1 := x1.symm
        have x2 := x2.symm
        subst x1 x2
        have Q4 := hide (QQ.out.keep k4)
        have E4 := hide (EE.out.keep k4)
        have K4 := hide (KK.out.trans k4)
        clear k4 h4a QQ EE KK HR hpl CM2
        go_wp2_with fail
        refine (q_select Q4.out E4.out t ht).mono ?_
        rintro r wS ⟨kS, hS | hS⟩
        · obtain ⟨hne, rfl⟩ := hS
          obtain ⟨p1, p2, p3, p4⟩ := tx_point (l := bs t) (by rw [bs_len]; omega) hne
          rw [bs_len] at p2 p4
          have QS := hide (Q4.out.keep kS)
          have ES := hide (E4.out.keep kS)
          have KS := hide (K4.out.trans kS)
          generalize txErr (bs t) = te at *
          generalize txAt (bs t) = ta at *
          have F1 := hide (q_fed0 QS.out ES.out (t.extract 0 ta) (by simp; omega) (ints_nil wS))
          rw [ext_take t ta, p3] at F1
          have P4 := hide p4
          have hta : ¬ (ta : Int) < 0 := by omega
          have hta2 : ¬ (t.size : Int) < (ta : Int) := by omega
          clear hne kS Q4 E4 K4 p3 p4
          have te2 : te = 2 ∨ te = 3 := p1
          clear p1
          rcases te2 with rfl | rfl
          all_goals
            go_wp2_with fail
            refine F1.out.mono ?_
            rintro r wF ⟨av, rfl, _, _, kF⟩
            have KF := hide (KS.out.trans kF)
            have QF := hide (QS.out.keep kF)
            have EF := hide (ES.out.keep kF)
            clear kF F1
            by_cases ha : ta = t.size
            · subst ha
              clear P4 QF EF QS ES KS
              go_wp2
              go_ret
              exact ⟨rfl, KF.out⟩
            have hlt : ta < t.size := by omega
            have F2 := hide (q_fed0 QF.out EF.out (t.extract 0 (ta + 1)) (by simp; omega) (ints_nil wF))
            rw [ext_take t (ta + 1), (P4.out hlt).1, (P4.out hlt).2] at F2
            have hta3 : ¬ (ta : Int) = (t.size : Int) := by omega
            have hw1 : IntKind.i64.wrap ((ta : Int) + 1) = (ta : Int) + 1 := by rw [IntWalk.i64_in _ (by omega)]
            clear P4 QF EF QS ES KS ha
            go_wp2_with fail
            refine F2.out.mono ?_
            rintro r wG ⟨av2, rfl, _, _, kG⟩
            have KG := hide (KF.out.trans kG)
            clear kG F2
            go_wp2
            go_ret
            exact ⟨rfl, KG.out⟩
        obtain ⟨_, tv, sv, _, rfl, _⟩ := hS
        have KS := hide (K4.out.trans kS)
        clear kS Q4 E4 K4
        go_wp2
        go_ret
        exact ⟨rfl, KS.out⟩
      · rw [ext_take] at h4
        exact ((HR.out.pre1 (by rw [bs_len]; exact hlt)).notFin h4.2.1).elim
      rw [ext_take] at h4
      exact ((HR.out.pre1 (by rw [bs_len]; exact hlt)).notFin h4.2.1).elim
  · obtain ⟨y0, y1, y2, rfl⟩ := h
    clear y0 y1 y2
    have QQ := hide (HQ.out.keep k2)
    have EE := hide (E1.out.keep k2)
    have KK := hide (K1.out.trans k2)
    clear k2 HQ E1 K1
    go_wp2_with fail
    refine (q_select QQ.out EE.out t ht).mono ?_
    rintro r wS ⟨kS, hS | hS⟩
    · obtain ⟨hne, rfl⟩ := hS
      obtain ⟨p1, p2, p3, p4⟩ := tx_point (l := bs t) (by rw [bs_len]; omega) hne
      rw [bs_len] at p2 p4
      have QS := hide (QQ.out.keep kS)
      have ES := hide (EE.out.keep kS)
      have KS := hide (KK.out.trans kS)
      generalize txErr (bs t) = te at *
      generalize txAt (bs t) = ta at *
      have F1 := hide (q_fed0 QS.out ES.out (t.extract 0 ta) (by simp; omega) (ints_nil wS))
      rw [ext_take t ta, p3] at F1
      have P4 := hide p4
      have hta : ¬ (ta : Int) < 0 := by omega
      have hta2 : ¬ (t.size : Int) < (ta : Int) := by omega
      clear hne kS QQ EE KK p3 p4
      have te2 : te = 2 ∨ te = 3 := p1
      clear p1
      rcases te2 with rfl | rfl
      all_goals
        go_wp2_with fail
        refine F1.out.mono ?_
        rintro r wF ⟨av, rfl, _, _, kF⟩
        have KF := hide (KS.out.trans kF)
        have QF := hide (QS.out.keep kF)
        have EF := hide (ES.out.keep kF)
        clear kF F1
        by_cases ha : ta = t.size
        · subst ha
          clear P4 QF EF QS ES KS
          go_wp2
          go_ret
          exact ⟨rfl, KF.out⟩
        have hlt : ta < t.size := by omega
        have F2 := hide (q_fed0 QF.out EF.out (t.extract 0 (ta + 1)) (by simp; omega) (ints_nil wF))
        rw [ext_take t (ta + 1), (P4.out hlt).1, (P4.out hlt).2] at F2
        have hta3 : ¬ (ta : Int) = (t.size : Int) := by omega
        have hw1 : IntKind.i64.wrap ((ta : Int) + 1) = (ta : Int) + 1 := by rw [IntWalk.i64_in _ (by omega)]
        clear P4 QF EF QS ES KS ha
        go_wp2_with fail
        refine F2.out.mono ?_
        rintro r wG ⟨av2, rfl, _, _, kG⟩
        have KG := hide (KF.out.trans kG)
        clear kG F2
        go_wp2
        go_ret
        exact ⟨rfl, KG.out⟩
    obtain ⟨_, tv, sv, _, rfl, _⟩ := hS
    have KS := hide (KK.out.trans kS)
    clear kS QQ EE KK
    go_wp2
    go_ret
    exact ⟨rfl, KS.out⟩
  obtain ⟨y0, y1, y2, gq, tt, rfl, y3⟩ := h
  clear y0 y1 y2 y3
  have QQ := hide (HQ.out.keep k2)
  have EE := hide (E1.out.keep k2)
  have KK := hide (K1.out.trans k2)
  clear k2 HQ E1 K1
  go_wp2_with fail
  refine (q_select QQ.out EE.out t ht).mono ?_
  rintro r wS ⟨kS, hS | hS⟩
  · obtain ⟨hne, rfl⟩ := hS
    obtain ⟨p1, p2, p3, p4⟩ := tx_point (l := bs t) (by rw [bs_len]; omega) hne
    rw [bs_len] at p2 p4
    have QS := hide (QQ.out.keep kS)
    have ES := hide (EE.out.keep kS)
    have KS := hide (KK.out.trans kS)
    generalize txErr (bs t) = te at *
    generalize txAt (bs t) = ta at *
    have F1 := hide (q_fed0 QS.out ES.out (t.extract 0 ta) (by simp; omega) (ints_nil wS))
    rw [ext_take t ta, p3] at F1
    have P4 := hide p4
    have hta : ¬ (ta : Int) < 0 := by omega
    have hta2 : ¬ (t.size : Int) < (ta : Int) := by omega
    clear hne kS QQ EE KK p3 p4
    have te2 : te = 2 ∨ te = 3 := p1
    clear p1
    rcases te2 with rfl | rfl
    all_goals
      go_wp2_with fail
      refine F1.out.mono ?_
      rintro r wF ⟨av, rfl, _, _, kF⟩
      have KF := hide (KS.out.trans kF)
      have QF := hide (QS.out.keep kF)
      have EF := hide (ES.out.keep kF)
      clear kF F1
      by_cases ha : ta = t.size
      · subst ha
        clear P4 QF EF QS ES KS
        go_wp2
        go_ret
        exact ⟨rfl, KF.out⟩
      have hlt : ta < t.size := by omega
      have F2 := hide (q_fed0 QF.out EF.out (t.extract 0 (ta + 1)) (by simp; omega) (ints_nil wF))
      rw [ext_take t (ta + 1), (P4.out hlt).1, (P4.out hlt).2] at F2
      have hta3 : ¬ (ta : Int) = (t.size : Int) := by omega
      have hw1 : IntKind.i64.wrap ((ta : Int) + 1) = (ta : Int) + 1 := by rw [IntWalk.i64_in _ (by omega)]
      clear P4 QF EF QS ES KS ha
      go_wp2_with fail
      refine F2.out.mono ?_
      rintro r wG ⟨av2, rfl, _, _, kG⟩
      have KG := hide (KF.out.trans kG)
      clear kG F2
      go_wp2
      go_ret
      exact ⟨rfl, KG.out⟩
  obtain ⟨_, tv, sv, _, rfl, _⟩ := hS
  have KS := hide (KK.out.trans kS)
  clear kS QQ EE KK
  go_wp2
  go_ret
  exact ⟨rfl, KS.out⟩
end Go.Proofs.YtcbadebjpogmlaaGreatDoor
