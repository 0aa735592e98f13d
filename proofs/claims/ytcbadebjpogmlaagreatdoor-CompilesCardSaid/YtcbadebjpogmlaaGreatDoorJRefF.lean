/- The reference reader's conditions (or, and, basic): what they leave of the reader's block, by the machine. -/
import Derived.Test.YtcbadebjpogmlaaGreatDoorJRefE
import Derived.Test.YtcbadebjpogmlaaGreatDoorJa
namespace Go.Proofs.YtcbadebjpogmlaaGreatDoor
open Go.RowKit Tr

def mE (b : Nat) (w : World) : Nat := (intOf ((w.cell? ⟨b, 2, none⟩).getD (.int .i64 0))).toNat
def meas (b z : Nat) (w : World) : Nat := if mE b w = 0 then z + 1 - mP b w else 0
theorem HasM.meas {w : World} {b : Nat} {s : ByteArray} {t : St} (h : HasM w b s t) (z : Nat) : meas b z w = if t.e = 0 then z + 1 - t.p else 0 := by
  have e : mE b w = t.e := by unfold mE; rw [h.c2]; simp [intOf]
  unfold Go.Proofs.YtcbadebjpogmlaaGreatDoor.meas; rw [e, h.mP]

/-- What is left behind a part of a condition. -/
def Part (b : Nat) (s : ByteArray) (q c : Nat) (o : List UInt8) (n : Nat) (w : World) (r : Ending) (w' : World) : Prop :=
  ∃ g t', r = .returned (.pointer (some ⟨g, 0, none⟩)) ∧ Rd b s w t' w' ∧ Ok (bs s) q c 18 o n t'
def PartA (b : Nat) (s : ByteArray) (q c : Nat) (o : List UInt8) (n : Nat) (w : World) (r : Ending) (w' : World) : Prop :=
  ∃ g t', r = .returned (.pointer (some ⟨g, 0, none⟩)) ∧ Rd b s w t' w' ∧ Ok (bs s) q c 18 o n t' ∧ (t'.e = 0 → bt (bs s) t'.p ≠ 38)
def PartO (b : Nat) (s : ByteArray) (q c : Nat) (o : List UInt8) (n : Nat) (w : World) (r : Ending) (w' : World) : Prop :=
  ∃ g t', r = .returned (.pointer (some ⟨g, 0, none⟩)) ∧ Rd b s w t' w' ∧ Ok (bs s) q c 18 o n t' ∧ (t'.e = 0 → bt (bs s) t'.p ≠ 38 ∧ bt (bs s) t'.p ≠ 124)

def SB (m : Nat) : Prop := ∀ (w : World) (b : Nat) (s : ByteArray) (t : St) (q c n : Nat) (o : List UInt8), HasM w b s t → s.size ≤ 120 → Ok (bs s) q c 10 o n t → o.length = n → n ≤ 6 → s.size - t.p ≤ m →
  Calls Tryz.prog 215 #[.pointer (some ⟨b, 0, none⟩)] w (Part b s q c o n w)
def SA (m : Nat) : Prop := ∀ (w : World) (b : Nat) (s : ByteArray) (t : St) (q c n : Nat) (o : List UInt8), HasM w b s t → s.size ≤ 120 → Ok (bs s) q c 10 o n t → o.length = n → n ≤ 6 → trimR o = o → s.size - t.p ≤ m →
  Calls Tryz.prog 167 #[.pointer (some ⟨b, 0, none⟩)] w (PartA b s q c o n w)
def SO (m : Nat) : Prop := ∀ (w : World) (b : Nat) (s : ByteArray) (t : St) (q c n : Nat) (o : List UInt8), HasM w b s t → s.size ≤ 120 → Ok (bs s) q c 10 o n t → o.length = n → n ≤ 6 → trimR o = o → s.size - t.p ≤ m →
  Calls Tryz.prog 119 #[.pointer (some ⟨b, 0, none⟩)] w (PartO b s q c o n w)

theorem nb_and : nb ⟨#[38, 38]⟩ = [38, 38] := rfl
theorem nb_or : nb ⟨#[124, 124]⟩ = [124, 124] := rfl
theorem nb_close : nb ⟨#[41]⟩ = [41] := rfl
theorem must_ge (s : List UInt8) (l : List Nat) : ∀ t : St, t.p ≤ (must s t l).p := by
  induction l with
  | nil => intro t; exact Nat.le_refl _
  | cons a r ih => intro t; exact Nat.le_trans (must1_ge s t a) (ih (must1 s t a))

set_option maxRecDepth 100000 in
set_option maxHeartbeats 2000000 in
theorem s_and {m : Nat} (hB : SB m) : SA m := by
  intro w b s t q c n o h hs hok hon hn6 hto hm
  have hbw := h.lt
  have HB := hide hB
  have HR := hide (Rd.same h)
  have HO := hide hok
  have HTO := hide hto
  have HON := hide hon
  clear h hok hto hon hB
  go_enter Tryz.func167, Tryz.ntmps167
  go_wp2_with fail
  refine (HB.out w b s t (base (bs s) t) c n o HR.out.m hs HO.out.mine HON.out hn6 hm).mono ?_
  rintro r v1 ⟨g1, u1, rfl, r1, o1⟩
  have R1 := hide r1
  have O1 := hide (HO.out.theirs o1)
  clear r1 o1
  go_wp2
  go_loopw [3, 4, 5] (fun cv _ _ wr => ∃ g u, cv = .pointer (some ⟨g, 0, none⟩) ∧ Rd b s w u wr ∧ Ok (bs s) q c 18 o n u ∧ (u.e = 0 → t.p ≤ u.p)) (fun _ _ _ wr => meas b s.size wr)
  case atStart => exact ⟨g1, u1, rfl, R1.out, O1.out.1, fun he => (O1.out.2 he).2⟩
  case round =>
    clear R1 O1
    obtain ⟨g, u, rfl, hr, ho, hp⟩ := hrel
    have R := hide hr
    have O := hide ho
    have HP := hide hp
    clear hr ho hp
    cases hb : sees (bs s) u 38
    · have H := hide hb
      clear hb
      go_wp2_with fail
      refine (k_sees R.out.m 38 38 rfl (by omega)).mono ?_
      rintro r v2 ⟨rfl, g2⟩
      rw [H.out]
      have R2 := hide (R.out.trans g2)
      clear g2
      go_wp2
      go_ret
      refine ⟨g, u, rfl, R2.out, O.out, fun he => ?_⟩
      have := H.out; rw [sees_live he] at this; simpa using this
    · have H := hide hb
      have HE := hide (sees_e hb).1
      have hup : t.p ≤ u.p := HP.out (sees_e hb).1
      clear hb
      go_wp2_with fail
      refine (k_sees R.out.m 38 38 rfl (by omega)).mono ?_
      rintro r v2 ⟨rfl, g2⟩
      rw [H.out]
      have R2 := hide (R.out.trans g2)
      clear g2
      go_wp2_with fail
      refine (c_must R2.out.m ⟨#[38, 38]⟩ (by decide) hs).mono ?_
      rintro r v3 ⟨rfl, g3⟩
      rw [nb_and] at g3
      have R3 := hide (R2.out.trans g3)
      have O3 := hide (ok_and HTO.out O.out H.out)
      have hge3 := must_ge (bs s) [38, 38] u
      clear g3
      generalize must (bs s) u [38, 38] = u3 at *
      go_wp2_with fail
      refine (HB.out v3 b s u3 (base (bs s) u3) c n o R3.out.m hs O3.out.1.mine HON.out hn6 (by omega)).mono ?_
      rintro r v4 ⟨g4, u4, rfl, r4, o4⟩
      have R4 := hide (R3.out.trans r4)
      have O4 := hide (O3.out.1.theirs o4)
      clear r4 o4
      go_wp2
      go_roundw
      case rel => exact ⟨_, u4, rfl, R4.out.alloc _, O4.out.1, fun he => by have h1 := (O4.out.2 he); have h2 := O3.out.2 h1.1; omega⟩
      case measure =>
        rw [R.out.m.meas, (R4.out.m.alloc _).meas, if_pos HE.out]
        have hle := O.out.le
        rw [bs_len] at hle
        split
        · rename_i he
          have h1 := (O4.out.2 he)
          have h2 := O3.out.2 h1.1
          omega
        · omega

set_option maxRecDepth 100000 in
set_option maxHeartbeats 2000000 in
theorem s_or {m : Nat} (hB : SA m) : SO m := by
  intro w b s t q c n o h hs hok hon hn6 hto hm
  have hbw := h.lt
  have HB := hide hB
  have HR := hide (Rd.same h)
  have HO := hide hok
  have HTO := hide hto
  have HON := hide hon
  clear h hok hto hon hB
  go_enter Tryz.func119, Tryz.ntmps119
  go_wp2_with fail
  refine (HB.out w b s t (base (bs s) t) c n o HR.out.m hs HO.out.mine HON.out hn6 HTO.out hm).mono ?_
  rintro r v1 ⟨g1, u1, rfl, r1, o1, n1⟩
  have R1 := hide r1
  have O1 := hide (HO.out.theirs o1)
  have N1 := hide n1
  clear r1 o1 n1
  go_wp2
  go_loopw [3, 4, 5] (fun cv _ _ wr => ∃ g u, cv = .pointer (some ⟨g, 0, none⟩) ∧ Rd b s w u wr ∧ Ok (bs s) q c 18 o n u ∧ (u.e = 0 → t.p ≤ u.p) ∧ (u.e = 0 → bt (bs s) u.p ≠ 38)) (fun _ _ _ wr => meas b s.size wr)
  case atStart => exact ⟨g1, u1, rfl, R1.out, O1.out.1, fun he => (O1.out.2 he).2, N1.out⟩
  case round =>
    clear R1 O1
    obtain ⟨g, u, rfl, hr, ho, hp, hnn⟩ := hrel
    have R := hide hr
    have O := hide ho
    have HP := hide hp
    have HN := hide hnn
    clear hr ho hp hnn
    cases hb : sees (bs s) u 124
    · have H := hide hb
      clear hb
      go_wp2_with fail
      refine (k_sees R.out.m 124 124 rfl (by omega)).mono ?_
      rintro r v2 ⟨rfl, g2⟩
      rw [H.out]
      have R2 := hide (R.out.trans g2)
      clear g2
      go_wp2
      go_ret
      refine ⟨g, u, rfl, R2.out, O.out, fun he => ?_⟩
      have := H.out; rw [sees_live he] at this; exact ⟨HN.out he, by simpa using this⟩
    · have H := hide hb
      have HE := hide (sees_e hb).1
      have hup : t.p ≤ u.p := HP.out (sees_e hb).1
      clear hb
      go_wp2_with fail
      refine (k_sees R.out.m 124 124 rfl (by omega)).mono ?_
      rintro r v2 ⟨rfl, g2⟩
      rw [H.out]
      have R2 := hide (R.out.trans g2)
      clear g2
      go_wp2_with fail
      refine (c_must R2.out.m ⟨#[124, 124]⟩ (by decide) hs).mono ?_
      rintro r v3 ⟨rfl, g3⟩
      rw [nb_or] at g3
      have R3 := hide (R2.out.trans g3)
      have O3 := hide (ok_or HTO.out O.out H.out)
      have hge3 := must_ge (bs s) [124, 124] u
      clear g3
      generalize must (bs s) u [124, 124] = u3 at *
      go_wp2_with fail
      refine (HB.out v3 b s u3 (base (bs s) u3) c n o R3.out.m hs O3.out.1.mine HON.out hn6 HTO.out (by omega)).mono ?_
      rintro r v4 ⟨g4, u4, rfl, r4, o4, n4⟩
      have R4 := hide (R3.out.trans r4)
      have O4 := hide (O3.out.1.theirs o4)
      have N4 := hide n4
      clear r4 o4 n4
      go_wp2
      go_roundw
      case rel => exact ⟨_, u4, rfl, R4.out.alloc _, O4.out.1, fun he => by have h1 := (O4.out.2 he); have h2 := O3.out.2 h1.1; omega, N4.out⟩
      case measure =>
        rw [R.out.m.meas, (R4.out.m.alloc _).meas, if_pos HE.out]
        have hle := O.out.le
        rw [bs_len] at hle
        split
        · rename_i he
          have h1 := (O4.out.2 he)
          have h2 := O3.out.2 h1.1
          omega
        · omega

end Go.Proofs.YtcbadebjpogmlaaGreatDoor

/- The reference reader's basic, and so every condition: what they leave of the reader's block, by the machine. -/
namespace Go.Proofs.YtcbadebjpogmlaaGreatDoor
open Go.RowKit Tr

set_option maxRecDepth 100000 in
set_option maxHeartbeats 4000000 in
theorem s_basic (m : Nat) (hI : m = 0 ∨ ∃ k, m = k + 1 ∧ SB k ∧ SO k) : SB m := by
  intro w b s t q c n o h hs hok hon hn6 hm
  have hbw := h.lt
  have hle := hok.le
  rw [bs_len] at hle
  have hnn := hok.nn
  have HR := hide (Rd.same h)
  have HO := hide hok
  have HON := hide hon
  have HI := hide hI
  clear h hok hon hI
  cases h1 : sees (bs s) t 33
  · cases h2 : sees (bs s) t 40
    · have H1 := hide h1
      have H2 := hide h2
      clear h1 h2 hnn
      go_enter Tryz.func215, Tryz.ntmps215
      go_wp2_with fail
      refine (k_sees HR.out.m 33 33 rfl (by omega)).mono ?_
      rintro r v1 ⟨rfl, g1⟩
      rw [H1.out]
      have R1 := hide (HR.out.trans g1)
      clear g1
      go_wp2_with fail
      refine (k_sees R1.out.m 40 40 rfl (by omega)).mono ?_
      rintro r v2 ⟨rfl, g2⟩
      rw [H2.out]
      have R2 := hide (R1.out.trans g2)
      clear g2
      go_wp2_with fail
      refine (c_test R2.out.m hs HO.out H1.out H2.out).mono ?_
      rintro r v3 ⟨g3, u3, rfl, r3, o3⟩
      have R3 := hide (R2.out.trans r3)
      have O3 := hide o3
      clear r3 o3
      go_wp2
      go_ret
      exact ⟨g3, u3, rfl, R3.out, O3.out⟩
    · have hlt : t.p < s.size := by
        obtain ⟨_, hb⟩ := sees_e h2
        have := bt_lt (s := bs s) (p := t.p) (by omega)
        rw [bs_len] at this; exact this
      by_cases hn : n = 6
      · have HD := hide (ok_deep 40 (Or.inr rfl) HO.out h2 (by rw [HON.out, hn]))
        have H1 := hide h1
        have H2 := hide h2
        have ht6 : ((t.n : Int) == 6) = true := by rw [hnn, hn]; rfl
        clear h1 h2 hnn
        go_enter Tryz.func215, Tryz.ntmps215
        go_wp2_with fail
        refine (k_sees HR.out.m 33 33 rfl (by omega)).mono ?_
        rintro r v1 ⟨rfl, g1⟩
        rw [H1.out]
        have R1 := hide (HR.out.trans g1)
        clear g1
        go_wp2_with fail
        refine (k_sees R1.out.m 40 40 rfl (by omega)).mono ?_
        rintro r v2 ⟨rfl, g2⟩
        rw [H2.out]
        have R2 := hide (R1.out.trans g2)
        clear g2
        have c3 := R2.out.m.c3
        go_wp2_with fail
        refine (c_wrong R2.out.m 3 3 rfl).mono ?_
        rintro r v3 ⟨rfl, g3⟩
        have R3 := hide (R2.out.trans g3)
        clear g3 c3
        go_wp2
        go_ret
        exact ⟨_, _, rfl, R3.out.alloc _, HD.out⟩
      · obtain ⟨k, hk, hSB, hSO⟩ : ∃ k, m = k + 1 ∧ SB k ∧ SO k := by
          rcases HI.out with e | e
          · omega
          · exact e
        have HSO := hide hSO
        have HL := hide ((live_push 40 (Or.inr rfl) HO.out h2 (by rw [HON.out]; exact hn)).setN (t.n + 1))
        have HLN : Hid ((o ++ [40]).length = t.n + 1) := by unfold Hid; rw [List.length_append, HON.out, hnn]; rfl
        have H1 := hide h1
        have H2 := hide h2
        have ht6 : ((t.n : Int) == 6) = false := by rw [beq_eq_false_iff_ne]; omega
        have HNN := hide hnn
        have hn7 : (t.n : Int) ≤ 5 := by omega
        clear h1 h2 hnn hSB hSO
        go_enter Tryz.func215, Tryz.ntmps215
        go_wp2_with fail
        refine (k_sees HR.out.m 33 33 rfl (by omega)).mono ?_
        rintro r v1 ⟨rfl, g1⟩
        rw [H1.out]
        have R1 := hide (HR.out.trans g1)
        clear g1
        go_wp2_with fail
        refine (k_sees R1.out.m 40 40 rfl (by omega)).mono ?_
        rintro r v2 ⟨rfl, g2⟩
        rw [H2.out]
        have R2 := hide (R1.out.trans g2)
        clear g2
        have c3 := R2.out.m.c3
        have c1 := R2.out.m.c1
        have f1 := R2.out.m.fz 1
        have f3 := R2.out.m.fz 3
        have R3 := hide (((R2.out.setP (t.p + 1)).setN (t.n + 1)).alloc (.cells #[.int .i64 0, .pointer none, .pointer none, .slice none 0 0, .pointer none] 249))
        go_wp2_with fail
        refine (HSO.out _ b s { adv t with n := t.n + 1 } q c (t.n + 1) (o ++ [40]) R3.out.m hs (Or.inl HL.out) HLN.out (by omega) (trimR_open o) (by simp only [adv]; omega)).mono ?_
        clear c3 c1 f1 f3
        rintro r v4 ⟨g4, u4, rfl, r4, o4, n4⟩
        have R4 := hide (R3.out.trans r4)
        have O4 := hide (ok_close o4 n4)
        clear r4 o4 n4
        go_wp2_with fail
        refine (c_must R4.out.m ⟨#[41]⟩ (by decide) hs).mono ?_
        rintro r v5 ⟨rfl, g5⟩
        rw [nb_close] at g5
        have R5 := hide (R4.out.trans g5)
        clear g5
        generalize must (bs s) u4 [41] = u5 at *
        have c3 := R5.out.m.c3
        have f3 := R5.out.m.fz 3
        rw [O4.out.nn] at c3
        have c3' : v5.cell? ⟨b, 3, none⟩ = some (.int .i64 ((t.n : Int) + 1)) := c3
        clear c3
        go_wp2
        go_ret
        refine ⟨g4, { u5 with n := t.n }, rfl, ?_, ?_⟩
        · have := R5.out.setN t.n
          simpa using this
        · have := O4.out.setN t.n
          rw [HNN.out] at this ⊢
          exact this
  · have h2 := sees_other (b := 40) h1 (by decide)
    have hlt : t.p < s.size := by
      obtain ⟨_, hb⟩ := sees_e h1
      have := bt_lt (s := bs s) (p := t.p) (by omega)
      rw [bs_len] at this; exact this
    by_cases hn : n = 6
    · have HD := hide (ok_deep 33 (Or.inl rfl) HO.out h1 (by rw [HON.out, hn]))
      have H1 := hide h1
      have H2 := hide h2
      have ht6 : ((t.n : Int) == 6) = true := by rw [hnn, hn]; rfl
      clear h1 h2 hnn
      go_enter Tryz.func215, Tryz.ntmps215
      go_wp2_with fail
      refine (k_sees HR.out.m 33 33 rfl (by omega)).mono ?_
      rintro r v1 ⟨rfl, g1⟩
      rw [H1.out]
      have R1 := hide (HR.out.trans g1)
      clear g1
      go_wp2_with fail
      refine (k_sees R1.out.m 40 40 rfl (by omega)).mono ?_
      rintro r v2 ⟨rfl, g2⟩
      rw [H2.out]
      have R2 := hide (R1.out.trans g2)
      clear g2
      have c3 := R2.out.m.c3
      go_wp2_with fail
      refine (c_wrong R2.out.m 3 3 rfl).mono ?_
      rintro r v3 ⟨rfl, g3⟩
      have R3 := hide (R2.out.trans g3)
      clear g3 c3
      go_wp2
      go_ret
      exact ⟨_, _, rfl, R3.out.alloc _, HD.out⟩
    · obtain ⟨k, hk, hSB, hSO⟩ : ∃ k, m = k + 1 ∧ SB k ∧ SO k := by
        rcases HI.out with e | e
        · omega
        · exact e
      have HSB := hide hSB
      have HL := hide ((live_push 33 (Or.inl rfl) HO.out h1 (by rw [HON.out]; exact hn)).setN (t.n + 1))
      have HLN : Hid ((o ++ [33]).length = t.n + 1) := by unfold Hid; rw [List.length_append, HON.out, hnn]; rfl
      have H1 := hide h1
      have H2 := hide h2
      have ht6 : ((t.n : Int) == 6) = false := by rw [beq_eq_false_iff_ne]; omega
      have HNN := hide hnn
      have hn7 : (t.n : Int) ≤ 5 := by omega
      clear h1 h2 hnn hSB hSO
      go_enter Tryz.func215, Tryz.ntmps215
      go_wp2_with fail
      refine (k_sees HR.out.m 33 33 rfl (by omega)).mono ?_
      rintro r v1 ⟨rfl, g1⟩
      rw [H1.out]
      have R1 := hide (HR.out.trans g1)
      clear g1
      go_wp2_with fail
      refine (k_sees R1.out.m 40 40 rfl (by omega)).mono ?_
      rintro r v2 ⟨rfl, g2⟩
      rw [H2.out]
      have R2 := hide (R1.out.trans g2)
      clear g2
      have c3 := R2.out.m.c3
      have c1 := R2.out.m.c1
      have f1 := R2.out.m.fz 1
      have f3 := R2.out.m.fz 3
      have R3 := hide (((R2.out.setP (t.p + 1)).setN (t.n + 1)).alloc (.cells #[.int .i64 0, .pointer none, .pointer none, .slice none 0 0, .pointer none] 249))
      go_wp2_with fail
      refine (HSB.out _ b s { adv t with n := t.n + 1 } q c (t.n + 1) (o ++ [33]) R3.out.m hs (Or.inl HL.out) HLN.out (by omega) (by simp only [adv]; omega)).mono ?_
      clear c3 c1 f1 f3
      rintro r v4 ⟨g4, u4, rfl, r4, o4⟩
      have R4 := hide (R3.out.trans r4)
      have O4 := hide o4
      have c3 := R4.out.m.c3
      have f3 := R4.out.m.fz 3
      have e4 := o4.nn
      rw [e4] at c3
      have c3' : v4.cell? ⟨b, 3, none⟩ = some (.int .i64 ((t.n : Int) + 1)) := c3
      have hb4 := R4.out.lt
      clear r4 o4 c3 e4
      go_wp2
      go_ret
      refine ⟨_, { u4 with n := t.n }, rfl, ?_, ?_⟩
      · have := ((R4.out.setN t.n).alloc (.cells #[.int .i64 13, .pointer (some ⟨g4, 0, none⟩), .pointer none, .slice none 0 0, .pointer none] 249))
        simpa using this
      · have := (ok_unbang O4.out).setN t.n
        rw [HNN.out] at this ⊢
        exact this

theorem s_all : ∀ m, SB m ∧ SO m
  | 0 => by
    have h := s_basic 0 (Or.inl rfl)
    exact ⟨h, s_or (s_and h)⟩
  | m + 1 => by
    have ⟨h1, h2⟩ := s_all m
    have h := s_basic (m + 1) (Or.inr ⟨m, rfl, h1, h2⟩)
    exact ⟨h, s_or (s_and h)⟩

/-- A condition, wherever it begins. -/
theorem c_or {w : World} {b : Nat} {s : ByteArray} {t : St} {q c n : Nat} {o : List UInt8} (h : HasM w b s t) (hs : s.size ≤ 120) (hok : Ok (bs s) q c 10 o n t) (hon : o.length = n) (hn : n ≤ 6) (ho : trimR o = o) :
    Calls Tryz.prog 119 #[.pointer (some ⟨b, 0, none⟩)] w (PartO b s q c o n w) := (s_all (s.size - t.p)).2 w b s t q c n o h hs hok hon hn ho (Nat.le_refl _)

end Go.Proofs.YtcbadebjpogmlaaGreatDoor
