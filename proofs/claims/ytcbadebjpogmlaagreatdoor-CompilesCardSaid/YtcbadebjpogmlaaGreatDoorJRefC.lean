/- The reference reader's count does to its block what the plain function says, and to nothing else; what it answers. -/
import Derived.Test.YtcbadebjpogmlaaGreatDoorJRefB
namespace Go.Proofs.YtcbadebjpogmlaaGreatDoor
open Go.RowKit Tr

/-- The number that k digits from p on say. -/
def dv (s : List UInt8) (p : Nat) : Nat → Nat
  | 0 => 0
  | k + 1 => 10 * dv s p k + (bt s (p + k) - 48)

theorem dv_bd {s : List UInt8} {p : Nat} : ∀ k, run isDig s k p = p + k → dv s p k + 1 ≤ 10 ^ k
  | 0, _ => by simp [dv]
  | k + 1, h => by
    have h1 : run isDig s k p = p + k := by
      rw [run_succ] at h
      split at h
      · rename_i h2; exact h2.1
      · have := run_le isDig s k p; omega
    have h2 : isDig (bt s (p + k)) = true := run_ok isDig s (k + 1) p (p + k) (by omega) (by omega)
    have := dv_bd k h1
    simp [isDig] at h2
    have e : 10 ^ (k + 1) = 10 * 10 ^ k := by rw [Nat.pow_succ]; omega
    rw [e]
    simp only [dv]
    omega

/-- What a count answers: its number, with a minus ahead its contrary; 0 if something is wrong. -/
def cnum (s : List UInt8) (u T : St) (mi : Bool) : Int :=
  if u.e = 0 then (if mi = true then -(dv s T.p (u.p - T.p) : Int) else (dv s T.p (u.p - T.p) : Int)) else 0

theorem sees_of_digit {s : List UInt8} {t : St} (h : digit s t = false) : sees s t 48 = false := by
  cases h1 : sees s t 48
  · rfl
  · simp [sees] at h1; simp [digit, isDig, h1.1, h1.2] at h
theorem wrong_e {t : St} : ¬ (wrong t 2).e = 0 := by unfold wrong; split; simp; assumption
theorem wrong_p {t : St} {e : Nat} : (wrong t e).p = t.p := by unfold wrong; split <;> rfl


set_option maxRecDepth 100000 in
set_option maxHeartbeats 2000000 in
theorem c_count0 {w : World} {b : Nat} {s : ByteArray} {t : St} (h : HasM w b s t) (hs : s.size ≤ 120) (hpT : t.p ≤ s.size) :
    Calls Tryz.prog 120 #[.pointer (some ⟨b, 0, none⟩), .bool false] w fun r w' => r = .returned (.int .i64 (cnum (bs s) (countQ (bs s) t false) t false)) ∧ Rd b s w (countQ (bs s) t false) w' := by
  have HR := hide (Rd.same h)
  clear h
  go_enter Tryz.func120, Tryz.ntmps120
  go_wp2_with fail
  cases hd : digit (bs s) t
  · have hz := sees_of_digit hd
    have HQ : Hid (countQ (bs s) t false = wrong t 2) := by unfold Hid countQ; rw [if_pos (Or.inl hd)]
    have HD := hide hd
    have HZ := hide hz
    clear hd hz
    refine (k_digit HR.out.m).mono ?_
    rintro r v1 ⟨rfl, g1⟩
    rw [HD.out]
    have G1 := hide (HR.out.trans g1)
    clear g1
    go_wp2_with fail
    refine (k_sees G1.out.m 48 48 rfl (by omega)).mono ?_
    rintro r v2 ⟨rfl, g2⟩
    rw [HZ.out]
    have G2 := hide (G1.out.trans g2)
    clear g2
    go_wp2_with fail
    refine (c_wrong G2.out.m 2 2 rfl).mono ?_
    rintro r v3 ⟨rfl, g3⟩
    have G3 := hide (G2.out.trans g3)
    clear g3
    go_wp2
    go_ret
    rw [HQ.out]
    refine ⟨?_, G3.out⟩
    unfold cnum
    rw [if_neg wrong_e]
    rfl
  · have hbt : isDig (bt (bs s) t.p) = true ∧ t.e = 0 := by simp [digit] at hd; exact ⟨hd.2, hd.1⟩
    cases hz : sees (bs s) t 48
    · have HQ : Hid (countQ (bs s) t false = runP isDig (bs s) 3 t) := by unfold Hid countQ; rw [if_neg (by simp [hd, hz]), if_neg (by simp [hz])]
      have HT := hide hbt
      have HD := hide hd
      have HZ := hide hz
      clear hd hz hbt
      refine (k_digit HR.out.m).mono ?_
      rintro r v1 ⟨rfl, g1⟩
      rw [HD.out]
      have G1 := hide (HR.out.trans g1)
      clear g1
      go_wp2_with fail
      refine (k_sees G1.out.m 48 48 rfl (by omega)).mono ?_
      rintro r v2 ⟨rfl, g2⟩
      rw [HZ.out]
      have G2 := hide (G1.out.trans g2)
      clear g2
      go_wp2
      go_loopw [6, 8, 9] (fun _ n k wr => ∃ j : Nat, j ≤ 3 ∧ k = .int .i64 j ∧ n = .int .i64 (dv (bs s) t.p j : Nat) ∧ run isDig (bs s) j t.p = t.p + j ∧ Rd b s w { t with p := t.p + j } wr) (fun _ _ k _ => 3 - (intOf k).toNat)
      case atStart => exact ⟨0, by omega, rfl, rfl, rfl, G2.out⟩
      case round =>
        obtain ⟨j, hj, rfl, rfl, hrun, hr⟩ := hrel
        have HJ := hide hr
        have hle : t.p + j ≤ s.size := by
          have := run_len (ok := isDig) (s := bs s) (fun b h => isDig_lt h) j t.p (by rw [bs_len]; exact hpT)
          rw [bs_len] at this; omega
        have HU := hide hrun
        clear hr hrun
        by_cases hlt : j < 3
        · cases hb : digit (bs s) { t with p := t.p + j }
          · have HB := hide hb
            have HS := hide (runP_stop (ok := isDig) (s := bs s) (K := 3) hj (Or.inl HT.out.2) HU.out (Or.inr (by
              right; simpa [digit, HT.out.2] using hb)))
            clear hb
            have HV : Hid (cnum (bs s) { t with p := t.p + j } t false = if false = true then -(dv (bs s) t.p j : Int) else (dv (bs s) t.p j : Int)) := by
              unfold Hid cnum; rw [if_pos (by exact HT.out.2)]; simp
            have hbd : (dv (bs s) t.p j : Int) < 1000 := by
              have h3 := dv_bd j HU.out
              have : 10 ^ j ≤ 10 ^ 3 := Nat.pow_le_pow_right (by omega) (by omega)
              omega
            generalize dv (bs s) t.p j = dj at *
            go_wp2_with fail
            refine (k_digit HJ.out.m).mono ?_
            rintro r v3 ⟨rfl, g3⟩
            rw [HB.out]
            have G3 := hide (HJ.out.trans g3)
            clear g3
            go_wp2
            go_ret
            rw [HQ.out, HS.out]
            refine ⟨?_, G3.out⟩
            rw [HV.out]
            rfl
          · have HB := hide hb
            have hb2 : isDig (bt (bs s) (t.p + j)) = true := by simp [digit] at hb; exact hb.2
            have hin : t.p + j < s.size := by
              have := bt_lt (isDig_lt hb2); rw [bs_len] at this; exact this
            have hbt2 : bt (bs s) (t.p + j) = s[t.p + j].toNat := btB_lt hin
            have hlo : 48 ≤ (s[t.p + j].toNat : Int) := by simp [isDig, hbt2] at hb2; omega
            have hhi : (s[t.p + j].toNat : Int) ≤ 57 := by simp [isDig, hbt2] at hb2; omega
            have HV : Hid ((10 * (dv (bs s) t.p j : Int) + ((s[t.p + j].toNat : Int) - 48)) = ((dv (bs s) t.p (j + 1) : Nat) : Int)) := by
              unfold Hid; simp only [dv, hbt2]; omega
            have HM := hide (run_more HU.out hb2)
            have hbd : (dv (bs s) t.p j : Int) < 100 := by
              have h3 := dv_bd j HU.out
              have : 10 ^ j ≤ 10 ^ 2 := Nat.pow_le_pow_right (by omega) (by omega)
              omega
            clear hb hb2 hbt2
            generalize dv (bs s) t.p j = dj at *
            have HP : Hid (t.p + (j + 1) = t.p + j + 1) := rfl
            rw [HP.out] at HM
            generalize t.p + j = q at *
            go_wp2_with fail
            refine (k_digit HJ.out.m).mono ?_
            rintro r v3 ⟨rfl, g3⟩
            rw [HB.out]
            have G3 := hide (HJ.out.trans g3)
            have q0 := G3.out.m.c0
            have q1 := G3.out.m.c1
            have qz := G3.out.m.fz 1
            simp only at q1
            clear g3
            go_wp2
            go_quiet (fail)
            go_wp2
            go_roundw
            case rel =>
              refine ⟨j + 1, by omega, by go_num, by rw [← HV.out], ?_, ?_⟩
              · rw [HP.out]; exact HM.out
              · rw [HP.out]; exact (G3.out.drewN _).setP (q + 1)
            case measure => simp [intOf]; omega
        · have h3 : j = 3 := by omega
          subst h3
          have HS := hide (runP_stop (ok := isDig) (s := bs s) (K := 3) hj (Or.inl HT.out.2) HU.out (Or.inl rfl))
          have HV : Hid (cnum (bs s) { t with p := t.p + 3 } t false = if false = true then -(dv (bs s) t.p 3 : Int) else (dv (bs s) t.p 3 : Int)) := by
            unfold Hid cnum; rw [if_pos (by exact HT.out.2)]; simp
          have hbd : (dv (bs s) t.p 3 : Int) < 1000 := by
            have h3 := dv_bd 3 HU.out
            omega
          generalize dv (bs s) t.p 3 = dj at *
          have G3 := HJ
          go_wp2
          go_ret
          rw [HQ.out, HS.out]
          refine ⟨?_, G3.out⟩
          rw [HV.out]
          rfl
    · have HQ : Hid (countQ (bs s) t false = adv t) := by unfold Hid countQ; rw [if_neg (by simp [hd]), if_pos hz]
      have HT := hide hbt
      have HD := hide hd
      have HZ := hide hz
      clear hd hz hbt
      refine (k_digit HR.out.m).mono ?_
      rintro r v1 ⟨rfl, g1⟩
      rw [HD.out]
      have G1 := hide (HR.out.trans g1)
      clear g1
      go_wp2_with fail
      refine (k_sees G1.out.m 48 48 rfl (by omega)).mono ?_
      rintro r v2 ⟨rfl, g2⟩
      rw [HZ.out]
      have G2 := hide (G1.out.trans g2)
      clear g2
      go_wp2
      go_loopw [6, 8, 9] (fun _ n k wr => ∃ j : Nat, j ≤ 1 ∧ k = .int .i64 j ∧ n = .int .i64 0 ∧ Rd b s w { t with p := t.p + j } wr) (fun _ _ k _ => 3 - (intOf k).toNat)
      case atStart => exact ⟨0, by omega, rfl, rfl, G2.out⟩
      case round =>
        obtain ⟨j, hj, rfl, rfl, hr⟩ := hrel
        have HJ := hide hr
        clear hr
        by_cases hlt : j = 0
        · subst hlt
          have hb2 : bt (bs s) t.p = 48 := by have := HZ.out; simp [sees] at this; exact this.2
          have hin : t.p < s.size := by
            have := bt_lt (s := bs s) (p := t.p) (by omega); rw [bs_len] at this; exact this
          have hbt2 : (s[t.p].toNat : Int) = 48 := by have := btB_lt hin; omega
          clear hb2
          go_wp2_with fail
          refine (k_digit HJ.out.m).mono ?_
          rintro r v3 ⟨rfl, g3⟩
          have e0 : digit (bs s) { t with p := t.p + 0 } = true := HD.out
          rw [e0]
          have G3 := hide (HJ.out.trans g3)
          have q0 := G3.out.m.c0
          have q1 := G3.out.m.c1
          have qz := G3.out.m.fz 1
          simp only [Nat.add_zero] at q1
          clear g3 e0
          go_wp2
          go_quiet (fail)
          go_wp2
          go_roundw
          case rel => exact ⟨1, by omega, by go_num, rfl, (G3.out.drewN _).setP (t.p + 1)⟩
          case measure => simp [intOf]
        · have h1 : j = 1 := by omega
          subst h1
          have HV : Hid (cnum (bs s) (adv t) t false = 0) := by
            have := HZ.out
            simp [sees] at this
            unfold Hid cnum adv
            simp [dv, this.2]
          clear hlt
          go_wp2_with fail
          refine (k_digit HJ.out.m).mono ?_
          rintro r v3 ⟨rfl, g3⟩
          have G3 := hide (HJ.out.trans g3)
          clear g3
          cases hb : digit (bs s) { t with p := t.p + 1 }
          · clear hb
            go_wp2
            go_ret
            rw [HQ.out, HV.out]
            exact ⟨rfl, G3.out⟩
          · clear hb
            go_wp2
            go_ret
            rw [HQ.out, HV.out]
            exact ⟨rfl, G3.out⟩

set_option maxRecDepth 100000 in
set_option maxHeartbeats 2000000 in
theorem c_count1 {w : World} {b : Nat} {s : ByteArray} {t : St} (h : HasM w b s t) (hs : s.size ≤ 120) (hpT : t.p ≤ s.size) (hm : sees (bs s) t 45 = false) :
    Calls Tryz.prog 120 #[.pointer (some ⟨b, 0, none⟩), .bool true] w fun r w' => r = .returned (.int .i64 (cnum (bs s) (countQ (bs s) t false) t false)) ∧ Rd b s w (countQ (bs s) t false) w' := by
  have HR0 := hide (Rd.same h)
  have HMI := hide hm
  clear h hm
  go_enter Tryz.func120, Tryz.ntmps120
  go_wp2_with fail
  refine (c_has HR0.out.m 45 45 rfl (by omega) hs).mono ?_
  rintro r v0 ⟨rfl, g0⟩
  rw [HMI.out]
  have e0 : has (bs s) t 45 = t := by simp [has, HMI.out]
  rw [e0] at g0
  have HR := hide (HR0.out.trans g0)
  clear g0 e0
  go_wp2_with fail
  cases hd : digit (bs s) t
  · have hz := sees_of_digit hd
    have HQ : Hid (countQ (bs s) t false = wrong t 2) := by unfold Hid countQ; rw [if_pos (Or.inl hd)]
    have HD := hide hd
    have HZ := hide hz
    clear hd hz
    refine (k_digit HR.out.m).mono ?_
    rintro r v1 ⟨rfl, g1⟩
    rw [HD.out]
    have G1 := hide (HR.out.trans g1)
    clear g1
    go_wp2_with fail
    refine (k_sees G1.out.m 48 48 rfl (by omega)).mono ?_
    rintro r v2 ⟨rfl, g2⟩
    rw [HZ.out]
    have G2 := hide (G1.out.trans g2)
    clear g2
    go_wp2_with fail
    refine (c_wrong G2.out.m 2 2 rfl).mono ?_
    rintro r v3 ⟨rfl, g3⟩
    have G3 := hide (G2.out.trans g3)
    clear g3
    go_wp2
    go_ret
    rw [HQ.out]
    refine ⟨?_, G3.out⟩
    unfold cnum
    rw [if_neg wrong_e]
    rfl
  · have hbt : isDig (bt (bs s) t.p) = true ∧ t.e = 0 := by simp [digit] at hd; exact ⟨hd.2, hd.1⟩
    cases hz : sees (bs s) t 48
    · have HQ : Hid (countQ (bs s) t false = runP isDig (bs s) 3 t) := by unfold Hid countQ; rw [if_neg (by simp [hd, hz]), if_neg (by simp [hz])]
      have HT := hide hbt
      have HD := hide hd
      have HZ := hide hz
      clear hd hz hbt
      refine (k_digit HR.out.m).mono ?_
      rintro r v1 ⟨rfl, g1⟩
      rw [HD.out]
      have G1 := hide (HR.out.trans g1)
      clear g1
      go_wp2_with fail
      refine (k_sees G1.out.m 48 48 rfl (by omega)).mono ?_
      rintro r v2 ⟨rfl, g2⟩
      rw [HZ.out]
      have G2 := hide (G1.out.trans g2)
      clear g2
      go_wp2
      go_loopw [6, 8, 9] (fun _ n k wr => ∃ j : Nat, j ≤ 3 ∧ k = .int .i64 j ∧ n = .int .i64 (dv (bs s) t.p j : Nat) ∧ run isDig (bs s) j t.p = t.p + j ∧ Rd b s w { t with p := t.p + j } wr) (fun _ _ k _ => 3 - (intOf k).toNat)
      case atStart => exact ⟨0, by omega, rfl, rfl, rfl, G2.out⟩
      case round =>
        obtain ⟨j, hj, rfl, rfl, hrun, hr⟩ := hrel
        have HJ := hide hr
        have hle : t.p + j ≤ s.size := by
          have := run_len (ok := isDig) (s := bs s) (fun b h => isDig_lt h) j t.p (by rw [bs_len]; exact hpT)
          rw [bs_len] at this; omega
        have HU := hide hrun
        clear hr hrun
        by_cases hlt : j < 3
        · cases hb : digit (bs s) { t with p := t.p + j }
          · have HB := hide hb
            have HS := hide (runP_stop (ok := isDig) (s := bs s) (K := 3) hj (Or.inl HT.out.2) HU.out (Or.inr (by
              right; simpa [digit, HT.out.2] using hb)))
            clear hb
            have HV : Hid (cnum (bs s) { t with p := t.p + j } t false = if false = true then -(dv (bs s) t.p j : Int) else (dv (bs s) t.p j : Int)) := by
              unfold Hid cnum; rw [if_pos (by exact HT.out.2)]; simp
            have hbd : (dv (bs s) t.p j : Int) < 1000 := by
              have h3 := dv_bd j HU.out
              have : 10 ^ j ≤ 10 ^ 3 := Nat.pow_le_pow_right (by omega) (by omega)
              omega
            generalize dv (bs s) t.p j = dj at *
            go_wp2_with fail
            refine (k_digit HJ.out.m).mono ?_
            rintro r v3 ⟨rfl, g3⟩
            rw [HB.out]
            have G3 := hide (HJ.out.trans g3)
            clear g3
            go_wp2
            go_ret
            rw [HQ.out, HS.out]
            refine ⟨?_, G3.out⟩
            rw [HV.out]
            rfl
          · have HB := hide hb
            have hb2 : isDig (bt (bs s) (t.p + j)) = true := by simp [digit] at hb; exact hb.2
            have hin : t.p + j < s.size := by
              have := bt_lt (isDig_lt hb2); rw [bs_len] at this; exact this
            have hbt2 : bt (bs s) (t.p + j) = s[t.p + j].toNat := btB_lt hin
            have hlo : 48 ≤ (s[t.p + j].toNat : Int) := by simp [isDig, hbt2] at hb2; omega
            have hhi : (s[t.p + j].toNat : Int) ≤ 57 := by simp [isDig, hbt2] at hb2; omega
            have HV : Hid ((10 * (dv (bs s) t.p j : Int) + ((s[t.p + j].toNat : Int) - 48)) = ((dv (bs s) t.p (j + 1) : Nat) : Int)) := by
              unfold Hid; simp only [dv, hbt2]; omega
            have HM := hide (run_more HU.out hb2)
            have hbd : (dv (bs s) t.p j : Int) < 100 := by
              have h3 := dv_bd j HU.out
              have : 10 ^ j ≤ 10 ^ 2 := Nat.pow_le_pow_right (by omega) (by omega)
              omega
            clear hb hb2 hbt2
            generalize dv (bs s) t.p j = dj at *
            have HP : Hid (t.p + (j + 1) = t.p + j + 1) := rfl
            rw [HP.out] at HM
            generalize t.p + j = q at *
            go_wp2_with fail
            refine (k_digit HJ.out.m).mono ?_
            rintro r v3 ⟨rfl, g3⟩
            rw [HB.out]
            have G3 := hide (HJ.out.trans g3)
            have q0 := G3.out.m.c0
            have q1 := G3.out.m.c1
            have qz := G3.out.m.fz 1
            simp only at q1
            clear g3
            go_wp2
            go_quiet (fail)
            go_wp2
            go_roundw
            case rel =>
              refine ⟨j + 1, by omega, by go_num, by rw [← HV.out], ?_, ?_⟩
              · rw [HP.out]; exact HM.out
              · rw [HP.out]; exact (G3.out.drewN _).setP (q + 1)
            case measure => simp [intOf]; omega
        · have h3 : j = 3 := by omega
          subst h3
          have HS := hide (runP_stop (ok := isDig) (s := bs s) (K := 3) hj (Or.inl HT.out.2) HU.out (Or.inl rfl))
          have HV : Hid (cnum (bs s) { t with p := t.p + 3 } t false = if false = true then -(dv (bs s) t.p 3 : Int) else (dv (bs s) t.p 3 : Int)) := by
            unfold Hid cnum; rw [if_pos (by exact HT.out.2)]; simp
          have hbd : (dv (bs s) t.p 3 : Int) < 1000 := by
            have h3 := dv_bd 3 HU.out
            omega
          generalize dv (bs s) t.p 3 = dj at *
          have G3 := HJ
          go_wp2
          go_ret
          rw [HQ.out, HS.out]
          refine ⟨?_, G3.out⟩
          rw [HV.out]
          rfl
    · have HQ : Hid (countQ (bs s) t false = adv t) := by unfold Hid countQ; rw [if_neg (by simp [hd]), if_pos hz]
      have HT := hide hbt
      have HD := hide hd
      have HZ := hide hz
      clear hd hz hbt
      refine (k_digit HR.out.m).mono ?_
      rintro r v1 ⟨rfl, g1⟩
      rw [HD.out]
      have G1 := hide (HR.out.trans g1)
      clear g1
      go_wp2_with fail
      refine (k_sees G1.out.m 48 48 rfl (by omega)).mono ?_
      rintro r v2 ⟨rfl, g2⟩
      rw [HZ.out]
      have G2 := hide (G1.out.trans g2)
      clear g2
      go_wp2
      go_loopw [6, 8, 9] (fun _ n k wr => ∃ j : Nat, j ≤ 1 ∧ k = .int .i64 j ∧ n = .int .i64 0 ∧ Rd b s w { t with p := t.p + j } wr) (fun _ _ k _ => 3 - (intOf k).toNat)
      case atStart => exact ⟨0, by omega, rfl, rfl, G2.out⟩
      case round =>
        obtain ⟨j, hj, rfl, rfl, hr⟩ := hrel
        have HJ := hide hr
        clear hr
        by_cases hlt : j = 0
        · subst hlt
          have hb2 : bt (bs s) t.p = 48 := by have := HZ.out; simp [sees] at this; exact this.2
          have hin : t.p < s.size := by
            have := bt_lt (s := bs s) (p := t.p) (by omega); rw [bs_len] at this; exact this
          have hbt2 : (s[t.p].toNat : Int) = 48 := by have := btB_lt hin; omega
          clear hb2
          go_wp2_with fail
          refine (k_digit HJ.out.m).mono ?_
          rintro r v3 ⟨rfl, g3⟩
          have e0 : digit (bs s) { t with p := t.p + 0 } = true := HD.out
          rw [e0]
          have G3 := hide (HJ.out.trans g3)
          have q0 := G3.out.m.c0
          have q1 := G3.out.m.c1
          have qz := G3.out.m.fz 1
          simp only [Nat.add_zero] at q1
          clear g3 e0
          go_wp2
          go_quiet (fail)
          go_wp2
          go_roundw
          case rel => exact ⟨1, by omega, by go_num, rfl, (G3.out.drewN _).setP (t.p + 1)⟩
          case measure => simp [intOf]
        · have h1 : j = 1 := by omega
          subst h1
          have HV : Hid (cnum (bs s) (adv t) t false = 0) := by
            have := HZ.out
            simp [sees] at this
            unfold Hid cnum adv
            simp [dv, this.2]
          clear hlt
          go_wp2_with fail
          refine (k_digit HJ.out.m).mono ?_
          rintro r v3 ⟨rfl, g3⟩
          have G3 := hide (HJ.out.trans g3)
          clear g3
          cases hb : digit (bs s) { t with p := t.p + 1 }
          · clear hb
            go_wp2
            go_ret
            rw [HQ.out, HV.out]
            exact ⟨rfl, G3.out⟩
          · clear hb
            go_wp2
            go_ret
            rw [HQ.out, HV.out]
            exact ⟨rfl, G3.out⟩

set_option maxRecDepth 100000 in
set_option maxHeartbeats 2000000 in
theorem c_count2 {w : World} {b : Nat} {s : ByteArray} {t u : St} (h : HasM w b s t) (hs : s.size ≤ 120) (hpT : u.p ≤ s.size) (hm : sees (bs s) t 45 = true) (hu : has (bs s) t 45 = u) :
    Calls Tryz.prog 120 #[.pointer (some ⟨b, 0, none⟩), .bool true] w fun r w' => r = .returned (.int .i64 (cnum (bs s) (countQ (bs s) u true) u true)) ∧ Rd b s w (countQ (bs s) u true) w' := by
  have HR0 := hide (Rd.same h)
  have HMI := hide hm
  have HUU := hide hu
  clear h hm hu
  go_enter Tryz.func120, Tryz.ntmps120
  go_wp2_with fail
  refine (c_has HR0.out.m 45 45 rfl (by omega) hs).mono ?_
  rintro r v0 ⟨rfl, g0⟩
  rw [HMI.out]
  rw [HUU.out] at g0
  have HR := hide (HR0.out.trans g0)
  clear g0
  go_wp2_with fail
  cases hd : digit (bs s) u
  · have hz := sees_of_digit hd
    have HQ : Hid (countQ (bs s) u true = wrong u 2) := by unfold Hid countQ; rw [if_pos (Or.inl hd)]
    have HD := hide hd
    have HZ := hide hz
    clear hd hz
    refine (k_digit HR.out.m).mono ?_
    rintro r v1 ⟨rfl, g1⟩
    rw [HD.out]
    have G1 := hide (HR.out.trans g1)
    clear g1
    go_wp2_with fail
    refine (k_sees G1.out.m 48 48 rfl (by omega)).mono ?_
    rintro r v2 ⟨rfl, g2⟩
    rw [HZ.out]
    have G2 := hide (G1.out.trans g2)
    clear g2
    go_wp2_with fail
    refine (c_wrong G2.out.m 2 2 rfl).mono ?_
    rintro r v3 ⟨rfl, g3⟩
    have G3 := hide (G2.out.trans g3)
    clear g3
    go_wp2
    go_ret
    rw [HQ.out]
    refine ⟨?_, G3.out⟩
    unfold cnum
    rw [if_neg wrong_e]
    rfl
  · have hbt : isDig (bt (bs s) u.p) = true ∧ u.e = 0 := by simp [digit] at hd; exact ⟨hd.2, hd.1⟩
    cases hz : sees (bs s) u 48
    · have HQ : Hid (countQ (bs s) u true = runP isDig (bs s) 3 u) := by unfold Hid countQ; rw [if_neg (by simp [hd, hz]), if_neg (by simp [hz])]
      have HT := hide hbt
      have HD := hide hd
      have HZ := hide hz
      clear hd hz hbt
      refine (k_digit HR.out.m).mono ?_
      rintro r v1 ⟨rfl, g1⟩
      rw [HD.out]
      have G1 := hide (HR.out.trans g1)
      clear g1
      go_wp2_with fail
      refine (k_sees G1.out.m 48 48 rfl (by omega)).mono ?_
      rintro r v2 ⟨rfl, g2⟩
      rw [HZ.out]
      have G2 := hide (G1.out.trans g2)
      clear g2
      go_wp2
      go_loopw [6, 8, 9] (fun _ n k wr => ∃ j : Nat, j ≤ 3 ∧ k = .int .i64 j ∧ n = .int .i64 (dv (bs s) u.p j : Nat) ∧ run isDig (bs s) j u.p = u.p + j ∧ Rd b s w { u with p := u.p + j } wr) (fun _ _ k _ => 3 - (intOf k).toNat)
      case atStart => exact ⟨0, by omega, rfl, rfl, rfl, G2.out⟩
      case round =>
        obtain ⟨j, hj, rfl, rfl, hrun, hr⟩ := hrel
        have HJ := hide hr
        have hle : u.p + j ≤ s.size := by
          have := run_len (ok := isDig) (s := bs s) (fun b h => isDig_lt h) j u.p (by rw [bs_len]; exact hpT)
          rw [bs_len] at this; omega
        have HU := hide hrun
        clear hr hrun
        by_cases hlt : j < 3
        · cases hb : digit (bs s) { u with p := u.p + j }
          · have HB := hide hb
            have HS := hide (runP_stop (ok := isDig) (s := bs s) (K := 3) hj (Or.inl HT.out.2) HU.out (Or.inr (by
              right; simpa [digit, HT.out.2] using hb)))
            clear hb
            have HV : Hid (cnum (bs s) { u with p := u.p + j } u true = if true = true then -(dv (bs s) u.p j : Int) else (dv (bs s) u.p j : Int)) := by
              unfold Hid cnum; rw [if_pos (by exact HT.out.2)]; simp
            have hbd : (dv (bs s) u.p j : Int) < 1000 := by
              have h3 := dv_bd j HU.out
              have : 10 ^ j ≤ 10 ^ 3 := Nat.pow_le_pow_right (by omega) (by omega)
              omega
            generalize dv (bs s) u.p j = dj at *
            go_wp2_with fail
            refine (k_digit HJ.out.m).mono ?_
            rintro r v3 ⟨rfl, g3⟩
            rw [HB.out]
            have G3 := hide (HJ.out.trans g3)
            clear g3
            go_wp2
            go_ret
            rw [HQ.out, HS.out]
            refine ⟨?_, G3.out⟩
            rw [HV.out]
            rfl
          · have HB := hide hb
            have hb2 : isDig (bt (bs s) (u.p + j)) = true := by simp [digit] at hb; exact hb.2
            have hin : u.p + j < s.size := by
              have := bt_lt (isDig_lt hb2); rw [bs_len] at this; exact this
            have hbt2 : bt (bs s) (u.p + j) = s[u.p + j].toNat := btB_lt hin
            have hlo : 48 ≤ (s[u.p + j].toNat : Int) := by simp [isDig, hbt2] at hb2; omega
            have hhi : (s[u.p + j].toNat : Int) ≤ 57 := by simp [isDig, hbt2] at hb2; omega
            have HV : Hid ((10 * (dv (bs s) u.p j : Int) + ((s[u.p + j].toNat : Int) - 48)) = ((dv (bs s) u.p (j + 1) : Nat) : Int)) := by
              unfold Hid; simp only [dv, hbt2]; omega
            have HM := hide (run_more HU.out hb2)
            have hbd : (dv (bs s) u.p j : Int) < 100 := by
              have h3 := dv_bd j HU.out
              have : 10 ^ j ≤ 10 ^ 2 := Nat.pow_le_pow_right (by omega) (by omega)
              omega
            clear hb hb2 hbt2
            generalize dv (bs s) u.p j = dj at *
            have HP : Hid (u.p + (j + 1) = u.p + j + 1) := rfl
            rw [HP.out] at HM
            generalize u.p + j = q at *
            go_wp2_with fail
            refine (k_digit HJ.out.m).mono ?_
            rintro r v3 ⟨rfl, g3⟩
            rw [HB.out]
            have G3 := hide (HJ.out.trans g3)
            have q0 := G3.out.m.c0
            have q1 := G3.out.m.c1
            have qz := G3.out.m.fz 1
            simp only at q1
            clear g3
            go_wp2
            go_quiet (fail)
            go_wp2
            go_roundw
            case rel =>
              refine ⟨j + 1, by omega, by go_num, by rw [← HV.out], ?_, ?_⟩
              · rw [HP.out]; exact HM.out
              · rw [HP.out]; exact (G3.out.drewN _).setP (q + 1)
            case measure => simp [intOf]; omega
        · have h3 : j = 3 := by omega
          subst h3
          have HS := hide (runP_stop (ok := isDig) (s := bs s) (K := 3) hj (Or.inl HT.out.2) HU.out (Or.inl rfl))
          have HV : Hid (cnum (bs s) { u with p := u.p + 3 } u true = if true = true then -(dv (bs s) u.p 3 : Int) else (dv (bs s) u.p 3 : Int)) := by
            unfold Hid cnum; rw [if_pos (by exact HT.out.2)]; simp
          have hbd : (dv (bs s) u.p 3 : Int) < 1000 := by
            have h3 := dv_bd 3 HU.out
            omega
          generalize dv (bs s) u.p 3 = dj at *
          have G3 := HJ
          go_wp2
          go_ret
          rw [HQ.out, HS.out]
          refine ⟨?_, G3.out⟩
          rw [HV.out]
          rfl
    · have HQ : Hid (countQ (bs s) u true = wrong u 2) := by unfold Hid countQ; rw [if_pos (Or.inr ⟨rfl, hz⟩)]
      have HD := hide hd
      have HZ := hide hz
      clear hd hz hbt
      refine (k_digit HR.out.m).mono ?_
      rintro r v1 ⟨rfl, g1⟩
      rw [HD.out]
      have G1 := hide (HR.out.trans g1)
      clear g1
      go_wp2_with fail
      refine (k_sees G1.out.m 48 48 rfl (by omega)).mono ?_
      rintro r v2 ⟨rfl, g2⟩
      rw [HZ.out]
      have G2 := hide (G1.out.trans g2)
      clear g2
      go_wp2_with fail
      refine (c_wrong G2.out.m 2 2 rfl).mono ?_
      rintro r v3 ⟨rfl, g3⟩
      have G3 := hide (G2.out.trans g3)
      clear g3
      go_wp2
      go_ret
      rw [HQ.out]
      refine ⟨?_, G3.out⟩
      unfold cnum
      rw [if_neg wrong_e]
      rfl

theorem has_le {s : List UInt8} {t : St} {c : Nat} (hc : c < 256) (h : t.p ≤ s.length) : (has s t c).p ≤ s.length := by
  unfold has; split
  · rename_i hb
    simp [sees] at hb
    have := bt_lt (s := s) (p := t.p) (by omega)
    simp [adv]; omega
  · exact h

/-- What count(end) answers. -/
def countV (s : List UInt8) (t : St) (m : Bool) : Int := cnum s (countP s t m) (minusP s t m) (m && sees s t 45)

theorem c_count {w : World} {b : Nat} {s : ByteArray} {t : St} (h : HasM w b s t) (m : Bool) (hs : s.size ≤ 120) (hp : t.p ≤ s.size) :
    Calls Tryz.prog 120 #[.pointer (some ⟨b, 0, none⟩), .bool m] w fun r w' => r = .returned (.int .i64 (countV (bs s) t m)) ∧ Rd b s w (countP (bs s) t m) w' := by
  cases m
  · exact c_count0 h hs hp
  · unfold countV countP minusP
    cases hm : sees (bs s) t 45
    · have e : has (bs s) t 45 = t := by simp [has, hm]
      simp only [if_true, e, Bool.and_false]
      exact c_count1 h hs hp hm
    · simp only [if_true, Bool.and_true]
      refine c_count2 h hs ?_ hm rfl
      have := has_le (s := bs s) (t := t) (c := 45) (by omega) (by rw [bs_len]; exact hp)
      rw [bs_len] at this; exact this

end Go.Proofs.YtcbadebjpogmlaaGreatDoor
