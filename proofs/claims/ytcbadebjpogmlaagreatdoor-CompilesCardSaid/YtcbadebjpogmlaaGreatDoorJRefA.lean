/- The reference reader's small functions: wrong, sees, has, must, letter, digit do to its block what the plain functions say, and to nothing else. -/
import Derived.Test.YtcbadebjpogmlaaGreatDoorJb
namespace Go.Proofs.YtcbadebjpogmlaaGreatDoor
open Go.RowKit Tr

def PB (b : Nat) : Nat → Prop := fun k => k = b

/-- Behind a call: the reader's block, and that nothing else has turned. -/
structure Rd (b : Nat) (s : ByteArray) (w : World) (t' : St) (w' : World) : Prop where
  m : HasM w' b s t'
  f : Fr (PB b) w w'

theorem Rd.same {b : Nat} {s : ByteArray} {w : World} {t : St} (h : HasM w b s t) : Rd b s w t w := ⟨h, Fr.refl _ _⟩
theorem Rd.drewN {b : Nat} {s : ByteArray} {w w' : World} {t : St} (h : Rd b s w t w') (n : Nat) : Rd b s w t (w'.drewN n) := ⟨h.m, h.f.drewN n⟩
theorem Rd.drew {b : Nat} {s : ByteArray} {w w' : World} {t : St} (h : Rd b s w t w') : Rd b s w t w'.drew := ⟨h.m, h.f.drew⟩
theorem Rd.trans {b : Nat} {s : ByteArray} {w w' w'' : World} {t t' : St} (h : Rd b s w t w') (k : Rd b s w' t' w'') : Rd b s w t' w'' := ⟨k.m, h.f.trans k.f⟩
theorem Rd.setP {b : Nat} {s : ByteArray} {w w' : World} {t : St} (h : Rd b s w t w') (p : Nat) : Rd b s w { t with p := p } (w'.setCell ⟨b, 1, none⟩ (.int .i64 p)) := ⟨h.m.setP p, h.f.setCell ⟨b, 1, none⟩ (Or.inl rfl) _⟩
theorem Rd.setE {b : Nat} {s : ByteArray} {w w' : World} {t : St} (h : Rd b s w t w') (p : Nat) : Rd b s w { t with e := p } (w'.setCell ⟨b, 2, none⟩ (.int .i64 p)) := ⟨h.m.setE p, h.f.setCell ⟨b, 2, none⟩ (Or.inl rfl) _⟩
theorem Rd.setN {b : Nat} {s : ByteArray} {w w' : World} {t : St} (h : Rd b s w t w') (p : Nat) : Rd b s w { t with n := p } (w'.setCell ⟨b, 3, none⟩ (.int .i64 p)) := ⟨h.m.setN p, h.f.setCell ⟨b, 3, none⟩ (Or.inl rfl) _⟩
theorem Rd.alloc {b : Nat} {s : ByteArray} {w w' : World} {t : St} (h : Rd b s w t w') (o : Obj) : Rd b s w t (w'.alloc o) := ⟨h.m.alloc o, h.f.alloc o⟩
theorem Rd.lt {b : Nat} {s : ByteArray} {w w' : World} {t : St} (h : Rd b s w t w') : b < w'.heap.size := h.m.lt

theorem beq0 {e : Nat} (h : ¬ e = 0) : ((e : Int) == 0) = false := by rw [beq_eq_false_iff_ne]; omega

set_option maxHeartbeats 400000 in
theorem c_wrong {w : World} {b : Nat} {s : ByteArray} {t : St} (h : HasM w b s t) (e : Nat) (ei : Int) (hei : ei = e) :
    Calls Tryz.prog 91 #[.pointer (some ⟨b, 0, none⟩), .int .i64 ei] w fun r w' => r = .returned (.tuple #[]) ∧ Rd b s w (wrong t e) w' := by
  subst hei
  obtain ⟨p, e0, n⟩ := t
  have h2 := h.c2
  have hz := h.fz 2
  by_cases he : e0 = 0
  · subst he
    have hf : wrong ⟨p, 0, n⟩ e = ⟨p, e, n⟩ := by simp [wrong]
    have hr : Rd b s w (wrong ⟨p, 0, n⟩ e) (w.setCell ⟨b, 2, none⟩ (.int .i64 e)) := by rw [hf]; exact (Rd.same h).setE e
    clear h hf
    simp only [Int.natCast_zero] at h2
    have HR : Hid _ := hr
    clear hr
    go_enter Tryz.func91, Tryz.ntmps91
    go_wp2
    go_end0
    exact ⟨rfl, HR⟩
  · have hf : wrong ⟨p, e0, n⟩ e = ⟨p, e0, n⟩ := by simp [wrong, he]
    have HR : Hid (Rd b s w (wrong ⟨p, e0, n⟩ e) w) := by unfold Hid; rw [hf]; exact Rd.same h
    have hq := beq0 he
    clear h hf
    go_enter Tryz.func91, Tryz.ntmps91
    go_wp2
    go_end0
    exact ⟨rfl, HR⟩

set_option maxHeartbeats 400000 in
theorem c_sees {w : World} {b : Nat} {s : ByteArray} {t : St} (h : HasM w b s t) (c : Nat) (ci : Int) (hci : ci = c) (hc : c < 256) :
    Calls Tryz.prog 92 #[.pointer (some ⟨b, 0, none⟩), .int .u8 ci] w fun r w' => r = .returned (.bool (sees (bs s) t c)) ∧ ∃ n, w' = w.drewN n := by
  subst hci
  obtain ⟨p, e, n⟩ := t
  have h0 := h.c0
  have h1 := h.c1
  have h2 := h.c2
  clear h
  simp only at h1 h2
  by_cases he : e = 0
  · subst he
    by_cases hp : p < s.size
    · have hf : sees (bs s) ⟨p, 0, n⟩ c = ((s[p].toNat : Int) == (c : Int)) := by
        simp only [sees, btB_lt hp]
        rw [Bool.eq_iff_iff]; simp; omega
      rw [hf]
      have hd : decide ((p : Int) < (s.size : Int)) = true := by simp; omega
      clear hf
      go_enter Tryz.func92, Tryz.ntmps92
      go_wp2
      go_quiet (fail)
      go_wp2
      go_ret
      exact ⟨rfl, _, rfl⟩
    · have hf : sees (bs s) ⟨p, 0, n⟩ c = false := by
        simp only [sees, btB_ge hp]; simp; omega
      rw [hf]
      have hd : decide ((p : Int) < (s.size : Int)) = false := by simp; omega
      clear hf
      go_enter Tryz.func92, Tryz.ntmps92
      go_wp2
      go_quiet (fail)
      go_wp2
      go_ret
      exact ⟨rfl, _, rfl⟩
  · have hf : sees (bs s) ⟨p, e, n⟩ c = false := by simp [sees, he]
    rw [hf]
    have hq := beq0 he
    clear hf
    go_enter Tryz.func92, Tryz.ntmps92
    go_wp2
    go_quiet (fail)
    go_wp2
    go_ret
    exact ⟨rfl, _, rfl⟩

set_option maxHeartbeats 400000 in
theorem c_has {w : World} {b : Nat} {s : ByteArray} {t : St} (h : HasM w b s t) (c : Nat) (ci : Int) (hci : ci = c) (hc : c < 256) (hs : s.size ≤ 120) :
    Calls Tryz.prog 90 #[.pointer (some ⟨b, 0, none⟩), .int .u8 ci] w fun r w' => r = .returned (.bool (sees (bs s) t c)) ∧ Rd b s w (has (bs s) t c) w' := by
  subst hci
  have h1 := h.c1
  have hz := h.fz 1
  have HH : Hid (HasM w b s t) := h
  clear h
  by_cases hb : sees (bs s) t c = true
  · have hlt : t.p < s.size := by
      simp [sees] at hb
      have := bt_lt (s := bs s) (p := t.p) (by omega)
      rw [bs_len] at this; exact this
    have HF : Hid (has (bs s) t c = adv t) := by unfold Hid; simp [has, hb]
    have HB : Hid (sees (bs s) t c = true) := hb
    clear hb
    go_enter Tryz.func90, Tryz.ntmps90
    go_wp2_with fail
    refine (c_sees HH.out c _ rfl hc).mono ?_
    rintro r w1 ⟨rfl, nn, rfl⟩
    rw [HB.out]
    go_wp2
    go_ret
    refine ⟨by rw [HB.out]; rfl, ?_⟩
    rw [HF.out]
    exact ((Rd.same HH.out).drewN nn).setP (t.p + 1)
  · have hb' : sees (bs s) t c = false := by simpa using hb
    have HF : Hid (has (bs s) t c = t) := by unfold Hid; simp [has, hb']
    have HB : Hid (sees (bs s) t c = false) := hb'
    clear hb hb'
    go_enter Tryz.func90, Tryz.ntmps90
    go_wp2_with fail
    refine (c_sees HH.out c _ rfl hc).mono ?_
    rintro r w1 ⟨rfl, nn, rfl⟩
    rw [HB.out]
    go_wp2
    go_ret
    refine ⟨by rw [HB.out]; rfl, ?_⟩
    rw [HF.out]
    exact (Rd.same HH.out).drewN nn


/-- The bytes of a string, as numbers. -/
def nb (s : ByteArray) : List Nat := (bs s).map UInt8.toNat
theorem nb_len (s : ByteArray) : (nb s).length = s.size := by simp [nb, bs_len]
theorem nb_take (s : ByteArray) (k : Nat) (h : k < s.size) : (nb s).take (k + 1) = (nb s).take k ++ [s[k].toNat] := by
  rw [List.take_succ_eq_append_getElem (by rw [nb_len]; exact h)]
  simp [nb, bs, ByteArray.getElem_eq_getElem_data]
theorem must_snoc (s : List UInt8) (t : St) (l : List Nat) (c : Nat) : must s t (l ++ [c]) = must1 s (must s t l) c := by simp [must]
theorem must_err (s : List UInt8) (t : St) (l : List Nat) (h : ¬ t.e = 0) : must s t l = t := by
  induction l with
  | nil => rfl
  | cons a r ih =>
    have : must1 s t a = t := by simp [must1, sees, wrong, h]
    simp only [must, List.foldl_cons, this]; exact ih
theorem must_split (s : List UInt8) (t : St) (l r : List Nat) : must s t (l ++ r) = must s (must s t l) r := by simp [must]
theorem must_stop (sa : ByteArray) (s : List UInt8) (t : St) (k : Nat) (h : k < sa.size) (hb : sees s (must s t ((nb sa).take k)) sa[k].toNat = false) :
    must s t (nb sa) = wrong (must s t ((nb sa).take k)) 2 := by
  have e : nb sa = (nb sa).take (k + 1) ++ (nb sa).drop (k + 1) := (List.take_append_drop _ _).symm
  have e0 : must s t (nb sa) = must s t ((nb sa).take (k + 1) ++ (nb sa).drop (k + 1)) := by rw [← e]
  rw [e0, must_split, nb_take sa k h, must_snoc]
  have e1 : must1 s (must s t ((nb sa).take k)) sa[k].toNat = wrong (must s t ((nb sa).take k)) 2 := by simp [must1, hb]
  rw [e1]
  exact must_err s (wrong (must s t ((nb sa).take k)) 2) _ (by unfold wrong; split; simp; assumption)

set_option maxHeartbeats 400000 in
theorem c_must {w : World} {b : Nat} {s : ByteArray} {t : St} (h : HasM w b s t) (sa : ByteArray) (ha : sa.size ≤ 120) (hs : s.size ≤ 120) :
    Calls Tryz.prog 64 #[.pointer (some ⟨b, 0, none⟩), .string sa] w fun r w' => r = .returned (.tuple #[]) ∧ Rd b s w (must (bs s) t (nb sa)) w' := by
  have HH : Hid (HasM w b s t) := h
  clear h
  go_enter Tryz.func64, Tryz.ntmps64
  go_wp2
  go_loopw [4] (fun i wr => ∃ k : Nat, k ≤ sa.size ∧ i = .int .i64 k ∧ Rd b s w (must (bs s) t ((nb sa).take k)) wr) (fun i _ => sa.size - (intOf i).toNat)
  case atStart => exact ⟨0, Nat.zero_le _, rfl, Rd.same HH.out⟩
  case round =>
    obtain ⟨k, hk, rfl, hr⟩ := hrel
    have HR : Hid _ := hr
    clear hr
    by_cases hlt : k < sa.size
    · by_cases hb : sees (bs s) (must (bs s) t ((nb sa).take k)) sa[k].toNat = true
      · have HB : Hid _ := hb
        clear hb
        go_wp2_with fail
        refine (c_has HR.out.m sa[k].toNat _ rfl (UInt8.toNat_lt _) hs).mono ?_
        rintro r w1 ⟨rfl, hr1⟩
        rw [HB.out]
        have HR1 : Hid _ := hr1
        clear hr1
        go_wp2
        go_roundw
        case rel =>
          refine ⟨k + 1, by omega, by go_num, ?_⟩
          rw [nb_take sa k hlt, must_snoc]
          have := HR.out.trans HR1.out
          have e : has (bs s) (must (bs s) t ((nb sa).take k)) sa[k].toNat = must1 (bs s) (must (bs s) t ((nb sa).take k)) sa[k].toNat := by simp [has, must1, HB.out]
          rw [e] at this
          exact this
        case measure => simp [intOf]; omega
      · have hb' : sees (bs s) (must (bs s) t ((nb sa).take k)) sa[k].toNat = false := by simpa using hb
        have HB : Hid _ := hb'
        clear hb hb'
        go_wp2_with fail
        refine (c_has HR.out.m sa[k].toNat _ rfl (UInt8.toNat_lt _) hs).mono ?_
        rintro r w1 ⟨rfl, hr1⟩
        rw [HB.out]
        have HR1 : Hid _ := hr1
        clear hr1
        go_wp2_with fail
        refine (c_wrong HR1.out.m 2 _ rfl).mono ?_
        rintro r w2 ⟨rfl, hr2⟩
        have HR2 : Hid _ := hr2
        clear hr2
        go_wp2
        (try simp only [Exit.inBlock, Exit.then]); refine bodyPost_ret (results_none rfl _ _ _) rfl ?_
        refine ⟨rfl, ?_⟩
        have := (HR.out.trans HR1.out).trans HR2.out
        have e : has (bs s) (must (bs s) t ((nb sa).take k)) sa[k].toNat = must (bs s) t ((nb sa).take k) := by simp [has, HB.out]
        rw [e] at this
        rw [must_stop sa (bs s) t k hlt HB.out]
        exact this
    · go_wp2
      go_end0
      refine ⟨rfl, ?_⟩
      have := HR.out
      rw [List.take_of_length_le (by rw [nb_len]; omega)] at this
      exact this

set_option maxHeartbeats 400000 in
theorem c_letter {w : World} {b : Nat} {s : ByteArray} {t : St} (h : HasM w b s t) :
    Calls Tryz.prog 117 #[.pointer (some ⟨b, 0, none⟩)] w fun r w' => r = .returned (.bool (letter (bs s) t)) ∧ ∃ n, w' = w.drewN n := by
  obtain ⟨p, e, n⟩ := t
  have h0 := h.c0
  have h1 := h.c1
  have h2 := h.c2
  clear h
  simp only at h1 h2
  by_cases he : e = 0
  · subst he
    by_cases hp : p < s.size
    · have hd : decide ((p : Int) < (s.size : Int)) = true := by simp; omega
      by_cases h3 : 97 ≤ (s[p].toNat : Int)
      · have d3 : decide (97 ≤ (s[p].toNat : Int)) = true := by simpa using h3
        by_cases h4 : (s[p].toNat : Int) ≤ 122
        · have d4 : decide ((s[p].toNat : Int) ≤ 122) = true := by simpa using h4
          have hf : letter (bs s) ⟨p, 0, n⟩ = true := by simp [letter, btB_lt hp, isLet]; omega
          rw [hf]
          clear hf
          go_enter Tryz.func117, Tryz.ntmps117
          go_wp2
          go_quiet (fail)
          go_wp2
          go_ret
          exact ⟨rfl, _, rfl⟩
        · have d4 : decide ((s[p].toNat : Int) ≤ 122) = false := by simpa using h4
          have hf : letter (bs s) ⟨p, 0, n⟩ = false := by simp [letter, btB_lt hp, isLet]; omega
          rw [hf]
          clear hf
          go_enter Tryz.func117, Tryz.ntmps117
          go_wp2
          go_quiet (fail)
          go_wp2
          go_ret
          exact ⟨rfl, _, rfl⟩
      · have d3 : decide (97 ≤ (s[p].toNat : Int)) = false := by simpa using h3
        have hf : letter (bs s) ⟨p, 0, n⟩ = false := by simp [letter, btB_lt hp, isLet]; omega
        rw [hf]
        clear hf
        go_enter Tryz.func117, Tryz.ntmps117
        go_wp2
        go_quiet (fail)
        go_wp2
        go_ret
        exact ⟨rfl, _, rfl⟩
    · have hf : letter (bs s) ⟨p, 0, n⟩ = false := by
        simp [letter, btB_ge hp, isLet]
      rw [hf]
      have hd : decide ((p : Int) < (s.size : Int)) = false := by simp; omega
      clear hf
      go_enter Tryz.func117, Tryz.ntmps117
      go_wp2
      go_quiet (fail)
      go_wp2
      go_ret
      exact ⟨rfl, _, rfl⟩
  · have hf : letter (bs s) ⟨p, e, n⟩ = false := by simp [letter, he]
    rw [hf]
    have hq := beq0 he
    clear hf
    go_enter Tryz.func117, Tryz.ntmps117
    go_wp2
    go_quiet (fail)
    go_wp2
    go_ret
    exact ⟨rfl, _, rfl⟩

set_option maxHeartbeats 400000 in
theorem c_digit {w : World} {b : Nat} {s : ByteArray} {t : St} (h : HasM w b s t) :
    Calls Tryz.prog 121 #[.pointer (some ⟨b, 0, none⟩)] w fun r w' => r = .returned (.bool (digit (bs s) t)) ∧ ∃ n, w' = w.drewN n := by
  obtain ⟨p, e, n⟩ := t
  have h0 := h.c0
  have h1 := h.c1
  have h2 := h.c2
  clear h
  simp only at h1 h2
  by_cases he : e = 0
  · subst he
    by_cases hp : p < s.size
    · have hd : decide ((p : Int) < (s.size : Int)) = true := by simp; omega
      by_cases h3 : 48 ≤ (s[p].toNat : Int)
      · have d3 : decide (48 ≤ (s[p].toNat : Int)) = true := by simpa using h3
        by_cases h4 : (s[p].toNat : Int) ≤ 57
        · have d4 : decide ((s[p].toNat : Int) ≤ 57) = true := by simpa using h4
          have hf : digit (bs s) ⟨p, 0, n⟩ = true := by simp [digit, btB_lt hp, isDig]; omega
          rw [hf]
          clear hf
          go_enter Tryz.func121, Tryz.ntmps121
          go_wp2
          go_quiet (fail)
          go_wp2
          go_ret
          exact ⟨rfl, _, rfl⟩
        · have d4 : decide ((s[p].toNat : Int) ≤ 57) = false := by simpa using h4
          have hf : digit (bs s) ⟨p, 0, n⟩ = false := by simp [digit, btB_lt hp, isDig]; omega
          rw [hf]
          clear hf
          go_enter Tryz.func121, Tryz.ntmps121
          go_wp2
          go_quiet (fail)
          go_wp2
          go_ret
          exact ⟨rfl, _, rfl⟩
      · have d3 : decide (48 ≤ (s[p].toNat : Int)) = false := by simpa using h3
        have hf : digit (bs s) ⟨p, 0, n⟩ = false := by simp [digit, btB_lt hp, isDig]; omega
        rw [hf]
        clear hf
        go_enter Tryz.func121, Tryz.ntmps121
        go_wp2
        go_quiet (fail)
        go_wp2
        go_ret
        exact ⟨rfl, _, rfl⟩
    · have hf : digit (bs s) ⟨p, 0, n⟩ = false := by
        simp [digit, btB_ge hp, isDig]
      rw [hf]
      have hd : decide ((p : Int) < (s.size : Int)) = false := by simp; omega
      clear hf
      go_enter Tryz.func121, Tryz.ntmps121
      go_wp2
      go_quiet (fail)
      go_wp2
      go_ret
      exact ⟨rfl, _, rfl⟩
  · have hf : digit (bs s) ⟨p, e, n⟩ = false := by simp [digit, he]
    rw [hf]
    have hq := beq0 he
    clear hf
    go_enter Tryz.func121, Tryz.ntmps121
    go_wp2
    go_quiet (fail)
    go_wp2
    go_ret
    exact ⟨rfl, _, rfl⟩

theorem k_sees {w : World} {b : Nat} {s : ByteArray} {t : St} (h : HasM w b s t) (c : Nat) (ci : Int) (hci : ci = c) (hc : c < 256) :
    Calls Tryz.prog 92 #[.pointer (some ⟨b, 0, none⟩), .int .u8 ci] w fun r w' => r = .returned (.bool (sees (bs s) t c)) ∧ Rd b s w t w' :=
  (c_sees h c ci hci hc).mono fun _ _ ⟨h1, _, h2⟩ => ⟨h1, by subst h2; exact (Rd.same h).drewN _⟩
theorem k_letter {w : World} {b : Nat} {s : ByteArray} {t : St} (h : HasM w b s t) :
    Calls Tryz.prog 117 #[.pointer (some ⟨b, 0, none⟩)] w fun r w' => r = .returned (.bool (letter (bs s) t)) ∧ Rd b s w t w' :=
  (c_letter h).mono fun _ _ ⟨h1, _, h2⟩ => ⟨h1, by subst h2; exact (Rd.same h).drewN _⟩
theorem k_digit {w : World} {b : Nat} {s : ByteArray} {t : St} (h : HasM w b s t) :
    Calls Tryz.prog 121 #[.pointer (some ⟨b, 0, none⟩)] w fun r w' => r = .returned (.bool (digit (bs s) t)) ∧ Rd b s w t w' :=
  (c_digit h).mono fun _ _ ⟨h1, _, h2⟩ => ⟨h1, by subst h2; exact (Rd.same h).drewN _⟩

end Go.Proofs.YtcbadebjpogmlaaGreatDoor
