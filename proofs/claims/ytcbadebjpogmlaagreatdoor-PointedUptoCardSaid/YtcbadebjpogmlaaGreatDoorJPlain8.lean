import Derived.Test.YtcbadebjpogmlaaGreatDoorJPlain4
import Derived.BigRegion
import Derived.Deep.RegionLaw
import Derived.Deep.AppendLies
import Derived.Test.YtcbadebjpogmlaaGreatDoorJPrgF
namespace Tr
theorem sel_star {s : List UInt8} {q c : Nat} {t : St} (h : Ok s q c 6 [] 0 t) (hb : sees s t 42 = true) : Ok s q c 9 [] 0 (adv t) := by
  obtain ⟨he, hb⟩ := sees_e hb
  exact Or.inl ((h.live he).go 42 9 [] hb (by omega) rfl rfl (by omega) (by omega))
theorem sel_quote {s : List UInt8} {q c : Nat} {t : St} (h : Ok s q c 6 [] 0 t) (hb : sees s t 39 = true) : Ok s q c 9 [] 0 (quoteP s t) := by
  obtain ⟨he, hb⟩ := sees_e hb
  exact ok_quote (h.live he) hb rfl (by omega) rfl
theorem sel_where {s : List UInt8} {q c : Nat} {t : St} (h : Ok s q c 6 [] 0 t) (hb : sees s t 63 = true) : Ok s q c 10 [] 0 (adv t) := by
  obtain ⟨he, hb⟩ := sees_e hb
  exact Or.inl ((h.live he).go 63 10 [] hb (by omega) rfl rfl (by omega) (by omega))
theorem nx6 {b : Nat} (hb : b ≠ 256) : nx (cS 6 []) b = norm (gSelector (cS 6 []) b) := by
  rw [nx_low (by omega) (by omega) hb]; simp [gBetween, cS]
theorem sel_minus {s : List UInt8} {q c : Nat} {t : St} (h : Ok s q c 6 [] 0 t) (hb : sees s t 45 = true) : Ok s q c 9 [] 0 (countP s t true) := by
  obtain ⟨he, hb2⟩ := sees_e hb
  unfold countP minusP
  simp only [if_true, Bool.true_and]
  have e1 : has s t 45 = adv t := by unfold has; rw [if_pos hb]
  rw [e1, hb]
  exact ok_countM ((h.live he).step (by omega) (by rw [hb2]; rfl) rfl (by simp) (by simp)) (by omega)
theorem sel_count {s : List UInt8} {q c : Nat} {t : St} (h : Ok s q c 6 [] 0 t) (h1 : sees s t 42 = false) (h2 : sees s t 39 = false) (h3 : sees s t 63 = false) (h4 : sees s t 45 = false) (h5 : sees s t 58 = false) : Ok s q c 7 [] 0 (countP s t true) := by
  rcases h with h | h
  · have e1 : countP s t true = countQ s t false := by
      unfold countP minusP
      simp only [if_true, Bool.true_and]
      have e1 : has s t 45 = t := by unfold has; rw [h4]; simp
      rw [e1, h4]
    rw [e1]
    rw [sees_live h.e0] at h1 h2 h3 h4 h5
    simp only [beq_eq_false_iff_ne, ne_eq] at h1 h2 h3 h4 h5
    refine ok_countQ h (by omega) rfl ?_ ?_
    · intro b hb
      have hlt := isDig_lt hb
      rw [nx6 (by omega)]
      simp [isDig] at hb
      have a1 : ¬ b = 42 := by omega
      have a2 : ¬ b = 39 := by omega
      have a3 : ¬ b = 45 := by omega
      have a4 : ¬ b = 58 := by omega
      have a5 : ¬ b = 63 := by omega
      simp [gSelector, a1, a2, a3, a4, a5]
    intro hd
    by_cases h256 : bt s t.p = 256
    · rw [h256]; exact nx_end (by omega) (by omega) (by omega)
    rw [nx6 h256]
    have h48 : ¬ bt s t.p = 48 := by intro e; rw [e] at hd; simp [isDig] at hd
    simp [gSelector, gCount, cS, h1, h2, h3, h4, h5, h48, hd, norm]
  rw [countP_bad _ h]; exact Or.inr h
theorem sel_colon {s : List UInt8} {q c X : Nat} (hX : X = 6 ∨ X = 7) {t : St} (h : Ok s q c X [] 0 t) (hb : sees s t 58 = true) : Ok s q c 8 [] 0 (must s t [58]) := by
  have e : must s t [58] = adv t := by simp only [must, List.foldl_cons, List.foldl_nil]; unfold must1; rw [if_pos hb]
  obtain ⟨he, hb⟩ := sees_e hb
  rw [e]
  exact Or.inl ((h.live he).go 58 8 [] hb (by omega) (by rcases hX with rfl | rfl <;> rfl) rfl (by omega) (by omega))
theorem nx789 {X b : Nat} (hX : X = 7 ∨ X = 8 ∨ X = 9) (hb : b ≠ 256) : nx (cS X []) b = norm (gSelEnd (cS X []) b) := by
  rw [nx_low (by omega) (by omega) hb]; rcases hX with rfl | rfl | rfl <;> simp [gBetween, cS]
theorem sel_nocolon {s : List UInt8} {q c : Nat} {t : St} (h : Ok s q c 7 [] 0 t) (hb : sees s t 58 = false) : Ok s q c 9 [] 0 t := by
  rcases h with h | h
  · rw [sees_live h.e0] at hb
    simp only [beq_eq_false_iff_ne, ne_eq] at hb
    refine Or.inl (h.as ?_)
    by_cases h256 : bt s t.p = 256
    · rw [h256, nx256 _ (by simp [cS]), nx256 _ (by simp [cS])]; rfl
    rw [nx789 (by omega) h256, nx789 (by omega) h256]
    simp [gSelEnd, cS, hb]
  exact Or.inr h
theorem sel_to {s : List UInt8} {q c : Nat} {t : St} (h : Ok s q c 8 [] 0 t) (hd : digit s t = true) : Ok s q c 9 [] 0 (countP s t false) := by
  have he : t.e = 0 ∧ isDig (bt s t.p) = true := by simpa [digit] using hd
  have e : countP s t false = countQ s t false := rfl
  rw [e]
  refine ok_countQ (h.live he.1) (by omega) rfl ?_ ?_
  · intro b hb
    have hlt := isDig_lt hb
    rw [nx789 (by omega) (by omega)]
    simp [isDig] at hb
    have a1 : ¬ b = 44 := by omega
    have a2 : ¬ b = 93 := by omega
    have a3 : ¬ b = 58 := by omega
    simp [gSelEnd, cS, a1, a2]
  intro h2; rw [he.2] at h2; cases h2
theorem sel_noto {s : List UInt8} {q c : Nat} {t : St} (h : Ok s q c 8 [] 0 t) (hd : digit s t = false) : Ok s q c 9 [] 0 t := by
  rcases h with h | h
  · have hd2 : isDig (bt s t.p) = false := by simpa [digit, h.e0] using hd
    refine Or.inl (h.as ?_)
    by_cases h256 : bt s t.p = 256
    · rw [h256, nx256 _ (by simp [cS]), nx256 _ (by simp [cS])]; rfl
    rw [nx789 (by omega) h256, nx789 (by omega) h256]
    have h48 : ¬ bt s t.p = 48 := by intro e; rw [e] at hd2; simp [isDig] at hd2
    simp [gSelEnd, gCount, cS, hd2, h48]
  exact Or.inr h
/-! ### Segments -/
theorem absorb (s : List UInt8) (i : Nat) (h : (M s i).st ≤ 1) : ∀ j, i ≤ j → (M s j).st ≤ 1 := by
  intro j hj
  induction j with
  | zero => have : i = 0 := by omega
            subst this; exact h
  | succ j ih =>
    by_cases e : i = j + 1
    · subst e; exact h
    have := ih (by omega)
    show (nx (M s j) (bt s j)).st ≤ 1
    unfold nx; rw [if_pos this]; exact this
structure Bnd (s : List UInt8) (c : Nat) (acc : List UInt8) (t : St) : Prop where
  e0 : t.e = 0
  nn : t.n = 0
  le : t.p ≤ s.length
  lv : 2 ≤ (M s t.p).st
  ac : nx (M s t.p) (bt s t.p) = nx (cS 3 []) (bt s t.p)
  ct : C s t.p = c
  ty : ((M s t.p).st = 3 ∧ T s t.p = acc) ∨ ((M s t.p).st = 21 ∧ (M s t.p).bh = 3 ∧ gGoes (M s t.p) (bt s t.p) = false ∧ T s t.p ++ [39, 93] = acc)
def OkB (s : List UInt8) (c : Nat) (acc : List UInt8) (t : St) : Prop := Bnd s c acc t ∨ Bad s 0 t
structure Dot (s : List UInt8) (c X : Nat) (acc : List UInt8) (t : St) : Prop where
  e0 : t.e = 0
  nn : t.n = 0
  le : t.p ≤ s.length
  mm : M s t.p = cS X []
  ct : C s t.p = c
  tx : T s t.p = acc
theorem nx3 {b : Nat} (hb : b ≠ 256) : nx (cS 3 []) b = norm (gSegment (cS 3 []) b) := by
  rw [nx_low (by omega) (by omega) hb]; simp [gBetween, cS]
theorem Bnd.out46 {s : List UInt8} {c : Nat} {acc : List UInt8} {t : St} (h : Bnd s c acc t) : T s t.p ++ out (M s t.p) 46 = acc ∨ bt s t.p ≠ 46 := by
  by_cases hb : bt s t.p = 46
  · left
    rcases h.ty with ⟨h1, h2⟩ | ⟨h1, h2, h3, h4⟩
    · simp [out, h1, h2]
    rw [hb] at h3; simp [out, h1, h2, h3, h4]
  right; exact hb
theorem seg_dot {s : List UInt8} {c : Nat} {acc : List UInt8} {t : St} (h : Bnd s c acc t) (hb : sees s t 46 = true) : Dot s c 4 acc (adv t) := by
  obtain ⟨_, hb⟩ := sees_e hb
  have hp := bt_lt (s := s) (p := t.p) (by omega)
  have hnx : nx (M s t.p) (bt s t.p) = cS 4 [] := by rw [h.ac, hb]; rfl
  refine ⟨h.e0, h.nn, hp, by show M s (t.p + 1) = _; simp only [M]; exact hnx, ?_, ?_⟩
  · show C s (t.p + 1) = c
    simp only [C]
    have : inc (M s t.p) (bt s t.p) = 0 := by
      unfold inc
      rw [hnx, if_neg (by simp [cS]), if_neg (by simp [cS])]
    rw [this, h.ct]; rfl
  show T s (t.p + 1) = acc
  simp only [T]
  rcases h.out46 with h2 | h2
  · rw [hb]; exact h2
  exact absurd hb h2
theorem dot_dot {s : List UInt8} {c : Nat} {acc : List UInt8} {t : St} (h : Dot s c 4 acc t) (hb : sees s t 46 = true) : Dot s c 5 (acc ++ [46, 46]) (adv t) := by
  obtain ⟨_, hb⟩ := sees_e hb
  have hp := bt_lt (s := s) (p := t.p) (by omega)
  have hnx : nx (M s t.p) (bt s t.p) = cS 5 [] := by rw [h.mm, hb]; rfl
  refine ⟨h.e0, h.nn, hp, by show M s (t.p + 1) = _; simp only [M]; exact hnx, ?_, ?_⟩
  · show C s (t.p + 1) = c
    simp only [C]
    have : inc (M s t.p) (bt s t.p) = 0 := by
      unfold inc
      rw [hnx, if_neg (by simp [cS]), if_neg (by simp [cS])]
    rw [this, h.ct]; rfl
  show T s (t.p + 1) = acc ++ [46, 46]
  simp only [T]
  rw [h.tx, h.mm, hb]; rfl
theorem dot_star {s : List UInt8} {c X : Nat} {acc : List UInt8} {t : St} (hX : X = 4 ∨ X = 5) (h : Dot s c X acc t) (hb : sees s t 42 = true) : OkB s (c + 1) (acc ++ [91, 42, 93]) (adv t) := by
  obtain ⟨_, hb⟩ := sees_e hb
  have hp := bt_lt (s := s) (p := t.p) (by omega)
  have hnx : nx (M s t.p) (bt s t.p) = cS 3 [] := by rw [h.mm, hb]; rcases hX with rfl | rfl <;> rfl
  have hM : M s (t.p + 1) = cS 3 [] := by simp only [M]; exact hnx
  have hT : T s (t.p + 1) = acc ++ [91, 42, 93] := by
    simp only [T]
    rw [h.tx, h.mm, hb]; rcases hX with rfl | rfl <;> rfl
  left
  refine ⟨h.e0, h.nn, hp, ?_, ?_, ?_, ?_⟩
  · show 2 ≤ (M s (t.p + 1)).st
    rw [hM]; simp [cS]
  · show nx (M s (t.p + 1)) _ = _
    rw [hM]
  · show C s (t.p + 1) = c + 1
    simp only [C]
    have : inc (M s t.p) (bt s t.p) = 1 := by
      unfold inc
      rw [hnx, if_neg (by simp [cS]), if_pos]
      rw [h.mm]; simp [cS]; exact hX
    rw [this, h.ct]
  left
  exact ⟨by show (M s (t.p + 1)).st = 3; rw [hM]; rfl, hT⟩
theorem word_run {s : List UInt8} {c : Nat} {acc : List UInt8} : ∀ (j z p : Nat), M s p = ⟨21, 3, z, [], []⟩ → T s p = acc → C s p = c → (∀ i, i < j → isLet (bt s (p + i)) = true) → z + j ≤ 8 →
    M s (p + j) = ⟨21, 3, z + j, [], []⟩ ∧ T s (p + j) = acc ++ sub s p (p + j) ∧ C s (p + j) = c
  | 0, z, p, h1, h2, h3, _, _ => ⟨h1, by show T s p = acc ++ sub s p p; rw [sub_self, List.append_nil]; exact h2, h3⟩
  | j + 1, z, p, h1, h2, h3, hj, hz => by
    obtain ⟨a, b, d⟩ := word_run j z p h1 h2 h3 (fun i hi => hj i (by omega)) (by omega)
    have hb := hj j (by omega)
    have hlt := isLet_lt hb
    have hg : gGoes ⟨21, 3, z + j, [], []⟩ (bt s (p + j)) = true := by simp [gGoes, hb]; omega
    have hnx : nx (M s (p + j)) (bt s (p + j)) = ⟨21, 3, z + j + 1, [], []⟩ := by
      rw [a]
      have h256 : ¬ bt s (p + j) = 256 := by omega
      simp only [nx, h256, gNext, gInside, hg]
      simp [norm]
    refine ⟨?_, ?_, ?_⟩
    · show M s (p + j + 1) = _
      simp only [M]; exact hnx
    · show T s (p + j + 1) = _
      simp only [T]
      rw [b, show p + (j + 1) = p + j + 1 from rfl, sub_snoc (by omega) hlt, a]
      simp [out, hg]
    show C s (p + j + 1) = _
    simp only [C]
    have : inc (M s (p + j)) (bt s (p + j)) = 0 := by
      unfold inc
      rw [hnx, a, if_neg (by simp), if_neg (by simp)]
    rw [this, d]; rfl
theorem dot_word {s : List UInt8} {c X : Nat} {acc : List UInt8} {t : St} (hX : (X = 4 ∧ sees s t 46 = false) ∨ (X = 5 ∧ sees s t 91 = false)) (h : Dot s c X acc t) (hb : sees s t 42 = false) : OkB s (c + 1) (acc ++ ([91, 39] ++ sub s t.p (wordP s t).p ++ [39, 93])) (wordP s t) := by
  rw [sees_live h.e0] at hb
  simp only [beq_eq_false_iff_ne, ne_eq] at hb
  cases hl : isLet (bt s t.p)
  · rw [wordP_no h.e0 hl]
    right
    refine ⟨by simp, h.nn, ⟨by rw [h.mm]; simp [cS]; omega, ?_, h.le, by simp⟩⟩
    show (M s (t.p + 1)).st + 2 = 2
    simp only [M]
    rw [h.mm]
    by_cases h256 : bt s t.p = 256
    · rw [h256]
      have := nx_end (X := X) (o := []) (by omega) (by omega) (by omega)
      omega
    rw [nx_low (by omega) (by omega) h256]
    rcases hX with ⟨rfl, h2⟩ | ⟨rfl, h2⟩
    · rw [sees_live h.e0] at h2
      simp only [beq_eq_false_iff_ne, ne_eq] at h2
      simp [gBetween, gSegment, gStar, gWord, cS, hb, h2, hl, norm]
    rw [sees_live h.e0] at h2
    simp only [beq_eq_false_iff_ne, ne_eq] at h2
    simp [gBetween, gSegment, gStar, gWord, cS, hb, h2, hl, norm]
  have hlt := isLet_lt hl
  have hp := bt_lt hlt
  have hle := hl
  simp [isLet] at hle
  have hnx : nx (M s t.p) (bt s t.p) = ⟨21, 3, 1, [], []⟩ := by
    rw [h.mm, nx_low (by omega) (by omega) (by omega)]
    have a1 : ¬ bt s t.p = 36 := by omega
    have a2 : ¬ bt s t.p = 46 := by omega
    have a3 : ¬ bt s t.p = 91 := by omega
    rcases hX with ⟨rfl, _⟩ | ⟨rfl, _⟩ <;> simp [gBetween, gSegment, gStar, gWord, cS, hb, hl, norm, a2, a3]
  have hM1 : M s (t.p + 1) = ⟨21, 3, 1, [], []⟩ := by simp only [M]; exact hnx
  have hT1 : T s (t.p + 1) = acc ++ [91, 39, UInt8.ofNat (bt s t.p)] := by
    simp only [T]
    rw [h.tx, h.mm]
    have a2 : ¬ bt s t.p = 46 := by omega
    have a3 : ¬ bt s t.p = 91 := by omega
    rcases hX with ⟨rfl, _⟩ | ⟨rfl, _⟩ <;> simp [out, cS, hb, a2, a3]
  have hC1 : C s (t.p + 1) = c + 1 := by
    simp only [C]
    have : inc (M s t.p) (bt s t.p) = 1 := by
      unfold inc
      rw [hnx, if_neg (by simp), if_pos]
      rw [h.mm]; simp [cS]; omega
    rw [this, h.ct]
  have hr : run isLet s 8 t.p = run isLet s 7 (t.p + 1) := by rw [run, if_pos hl]
  have hge := run_ge isLet s 7 (t.p + 1)
  have hle7 := run_le isLet s 7 (t.p + 1)
  have hok := run_ok isLet s 7 (t.p + 1)
  have hst := run_stop isLet s 7 (t.p + 1)
  have hlen := run_len (ok := isLet) (s := s) (fun b h => isLet_lt h) 7 (t.p + 1) hp
  obtain ⟨j, hj⟩ : ∃ j, run isLet s 7 (t.p + 1) = t.p + 1 + j := ⟨run isLet s 7 (t.p + 1) - (t.p + 1), by omega⟩
  have hw : wordP s t = { t with p := t.p + 1 + j } := by
    unfold wordP
    rw [if_pos h.e0, hr, if_neg (by omega), hj]
  obtain ⟨a, b, d⟩ := word_run j 1 (t.p + 1) hM1 hT1 hC1 (fun i hi => hok _ (by omega) (by omega)) (by omega)
  rw [hj] at hst hlen
  have hgo : gGoes ⟨21, 3, 1 + j, [], []⟩ (bt s (t.p + 1 + j)) = false := by
    rcases hst with h3 | h3
    · have : j = 7 := by omega
      subst this; simp [gGoes]
    simp [gGoes, h3]
  have hT : T s (t.p + 1 + j) ++ [39, 93] = acc ++ ([91, 39] ++ sub s t.p (t.p + 1 + j) ++ [39, 93]) := by
    rw [b, sub_trans (s := s) (a := t.p) (b := t.p + 1) (c := t.p + 1 + j) (by omega) (by omega), sub_snoc (Nat.le_refl _) hlt, sub_self]
    simp
  rw [hw]
  left
  refine ⟨h.e0, h.nn, hlen, ?_, ?_, d, ?_⟩
  · show 2 ≤ (M s (t.p + 1 + j)).st
    rw [a]; simp
  · show nx (M s (t.p + 1 + j)) (bt s (t.p + 1 + j)) = _
    rw [a]
    refine acts_end (mx := 8) (ok := isLet) (Or.inl ⟨rfl, rfl, rfl⟩) (by omega) (by omega) _ ?_
    rcases hst with h3 | h3
    · left; omega
    right; exact h3
  right
  refine ⟨by show (M s (t.p + 1 + j)).st = 21; rw [a], by show (M s (t.p + 1 + j)).bh = 3; rw [a], ?_, hT⟩
  show gGoes (M s (t.p + 1 + j)) (bt s (t.p + 1 + j)) = false
  rw [a]; exact hgo
theorem br_live {s : List UInt8} {c : Nat} {t : St} (e0 : t.e = 0) (nn : t.n = 0) (hb : bt s t.p = 91) (ct : C s t.p = c) (hnx : nx (M s t.p) (bt s t.p) = cS 6 []) : Live s (t.p + 1) (c + 1) 6 [] 0 (adv t) := by
  have hp := bt_lt (s := s) (p := t.p) (by omega)
  have hM : M s (t.p + 1) = cS 6 [] := by simp only [M]; exact hnx
  refine ⟨e0, nn, hp, Nat.le_refl _, by show T s (t.p + 1) = _; rw [adv_p, sub_self, List.append_nil], ?_, ?_, ?_, ?_⟩
  · show C s (t.p + 1) = c + 1
    simp only [C]
    have : inc (M s t.p) (bt s t.p) = 1 := by unfold inc; rw [hnx, if_pos (by simp [cS])]
    rw [this, ct]
  · show inB (M s (t.p + 1)) = true
    rw [hM]; rfl
  · show 2 ≤ (M s (t.p + 1)).st
    rw [hM]; simp [cS]
  show nx (M s (t.p + 1)) _ = _
  rw [hM]
theorem seg_br {s : List UInt8} {c : Nat} {acc : List UInt8} {t : St} (h : Bnd s c acc t) (hp : t.p < s.length) (h46 : sees s t 46 = false) :
    Ok s (t.p + 1) (c + 1) 6 [] 0 (must s t [91]) ∧ ((must s t [91]).e = 0 → T s (t.p + 1) = acc ++ [91] ∧ bt s t.p = 91) := by
  have e : must s t [91] = must1 s t 91 := rfl
  rw [e]
  unfold must1
  rw [sees_live h.e0] at h46 ⊢
  simp only [beq_eq_false_iff_ne, ne_eq] at h46
  by_cases hb : bt s t.p = 91
  · rw [if_pos (by simp [hb])]
    refine ⟨Or.inl (br_live h.e0 h.nn hb h.ct (by rw [h.ac, hb]; rfl)), fun _ => ⟨?_, hb⟩⟩
    simp only [T]
    rw [hb]
    rcases h.ty with ⟨h1, h2⟩ | ⟨h1, h2, h3, h4⟩
    · simp [out, h1, h2]
    rw [hb] at h3
    rw [← h4]
    simp [out, h1, h2, h3]
  rw [if_neg (by simp [hb]), wrong_of h.e0]
  refine ⟨Or.inr ⟨by simp, h.nn, ⟨h.lv, ?_, h.le, by simp⟩⟩, fun h => by simp at h⟩
  show (M s (t.p + 1)).st + 2 = 2
  simp only [M]
  have h256 : bt s t.p ≠ 256 := by have := bt_in hp; omega
  rw [h.ac, nx3 h256]
  simp [gSegment, cS, h46, hb, norm]
theorem dot_br {s : List UInt8} {c : Nat} {acc : List UInt8} {t : St} (h : Dot s c 5 acc t) (h91 : sees s t 91 = true) :
    Ok s (t.p + 1) (c + 1) 6 [] 0 (must s t [91]) ∧ T s (t.p + 1) = acc ++ [91] ∧ must s t [91] = adv t := by
  have e : must s t [91] = adv t := by show must1 s t 91 = adv t; unfold must1; rw [if_pos h91]
  obtain ⟨_, hb⟩ := sees_e h91
  rw [e]
  refine ⟨Or.inl (br_live h.e0 h.nn hb h.ct (by rw [h.mm, hb]; rfl)), ?_, rfl⟩
  simp only [T]
  rw [h.tx, h.mm, hb]; rfl
theorem sel_comma {s : List UInt8} {q c : Nat} {t : St} (h : Ok s q c 9 [] 0 t) (hb : sees s t 44 = true) : Ok s q (c + 1) 6 [] 0 (adv t) := by
  obtain ⟨he, hb⟩ := sees_e hb
  have h := h.live he
  have hp := bt_lt (s := s) (p := t.p) (by omega)
  have hnx : nx (M s t.p) (bt s t.p) = cS 6 [] := by rw [h.ac, hb]; rfl
  have hM : M s (t.p + 1) = cS 6 [] := by simp only [M]; exact hnx
  refine Or.inl ⟨h.e0, h.nn, hp, by have := h.ge; simp [adv]; omega, ?_, ?_, ?_, ?_, ?_⟩
  · show T s (t.p + 1) = T s q ++ sub s q (t.p + 1)
    simp only [T]
    rw [h.tx, out_inB h.br, sub_snoc h.ge (by omega), List.append_assoc]
  · show C s (t.p + 1) = c + 1
    simp only [C]
    have : inc (M s t.p) (bt s t.p) = 1 := by unfold inc; rw [hnx, if_pos (by simp [cS])]
    rw [this, h.ct]
  · show inB (M s (t.p + 1)) = true
    rw [hM]; rfl
  · show 2 ≤ (M s (t.p + 1)).st
    rw [hM]; simp [cS]
  show nx (M s (t.p + 1)) _ = _
  rw [hM]
theorem sel_close {s : List UInt8} {q c : Nat} {t : St} (h : Ok s q c 9 [] 0 t) (hb : sees s t 44 = false) : OkB s c (T s q ++ sub s q (must s t [93]).p) (must s t [93]) := by
  have e : must s t [93] = must1 s t 93 := rfl
  rw [e]
  rcases h with h | h
  · unfold must1
    rw [sees_live h.e0] at hb ⊢
    simp only [beq_eq_false_iff_ne, ne_eq] at hb
    by_cases h93 : bt s t.p = 93
    · rw [if_pos (by simp [h93])]
      have hp := bt_lt (s := s) (p := t.p) (by omega)
      have hnx : nx (M s t.p) (bt s t.p) = cS 3 [] := by rw [h.ac, h93]; rfl
      have hM : M s (t.p + 1) = cS 3 [] := by simp only [M]; exact hnx
      refine Or.inl ⟨h.e0, h.nn, hp, ?_, ?_, ?_, Or.inl ⟨?_, ?_⟩⟩
      · show 2 ≤ (M s (t.p + 1)).st
        rw [hM]; simp [cS]
      · show nx (M s (t.p + 1)) _ = _
        rw [hM]
      · show C s (t.p + 1) = c
        simp only [C]
        rw [inc_inB h.br (by rw [hnx]; simp [cS]), h.ct]; rfl
      · show (M s (t.p + 1)).st = 3
        rw [hM]; rfl
      show T s (t.p + 1) = T s q ++ sub s q (t.p + 1)
      simp only [T]
      rw [h.tx, out_inB h.br, sub_snoc h.ge (by omega), List.append_assoc]
    rw [if_neg (by simp [h93]), wrong_of h.e0]
    refine Or.inr (h.bad 0 (by omega) ?_)
    by_cases h256 : bt s t.p = 256
    · rw [h256]; exact nx_end (by omega) (by omega) (by omega)
    rw [nx789 (by omega) h256]
    simp [gSelEnd, cS, hb, h93, norm]
  rw [must1_bad _ h]; exact Or.inr h
end Tr
namespace Go.Proofs.YtcbadebjpogmlaaGreatDoor
open Go.RowKit Tr
theorem bs_append (a b : ByteArray) : bs (a ++ b) = bs a ++ bs b := by simp [bs]
theorem bs_extract (s : ByteArray) (i j : Nat) : bs (s.extract i j) = sub (bs s) i j := by
  simp [bs, sub, List.extract_eq_take_drop]
end Go.Proofs.YtcbadebjpogmlaaGreatDoor
namespace Go.Proofs.YtcbadebjpogmlaaGreatDoor
open Go.RowKit Tr
def Fin (s : List UInt8) : Prop := (M s (s.length + 1)).st = 26
theorem bnd_fin {s : List UInt8} {c : Nat} {acc : List UInt8} {t : St} (h : Bnd s c acc t) (hp : t.p = s.length) : Fin s ∧ C s (s.length + 1) = c ∧ T s (s.length + 1) = acc := by
  have hb : bt s s.length = 256 := bt_end (Nat.le_refl _)
  have hac := h.ac
  have hct := h.ct
  have hty := h.ty
  rw [hp] at hac hct hty
  rw [hb] at hac
  have hnx : nx (M s s.length) 256 = ⟨26, 0, 0, [], []⟩ := by rw [hac]; rfl
  refine ⟨?_, ?_, ?_⟩
  · show (M s (s.length + 1)).st = 26
    simp only [M]; rw [hb, hnx]
  · simp only [C]
    rw [hb, hct]
    have : inc (M s s.length) 256 = 0 := by unfold inc; rw [hnx, if_neg (by simp), if_neg (by simp)]
    omega
  simp only [T]
  rw [hb]
  rcases hty with ⟨h1, h2⟩ | ⟨h1, h2, h3, h4⟩
  · simp [out, h1, h2]
  rw [hb] at h3; simp [out, h1, h2, h3, h4]
theorem C_le (s : List UInt8) : ∀ i, C s i ≤ i
  | 0 => Nat.le_refl _
  | i + 1 => by
    have := C_le s i
    simp only [C]
    have : inc (M s i) (bt s i) ≤ 1 := by unfold inc; repeat' split
                                          all_goals omega
    omega
theorem begin_ok (s : List UInt8) : OkB s 0 [36] (must s ⟨0, 0, 0⟩ [36]) := by
  show OkB s 0 [36] (must1 s ⟨0, 0, 0⟩ 36)
  unfold must1
  rw [sees_live rfl]
  by_cases hb : bt s 0 = 36
  · rw [if_pos (by simp [hb])]
    have hp := bt_lt (s := s) (p := 0) (by omega)
    have hM : M s 1 = cS 3 [] := by simp only [M]; rw [hb]; rfl
    refine Or.inl ⟨rfl, rfl, hp, ?_, ?_, ?_, Or.inl ⟨?_, ?_⟩⟩
    · show 2 ≤ (M s 1).st
      rw [hM]; simp [cS]
    · show nx (M s 1) _ = _
      rw [hM]
    · show C s 1 = 0
      simp only [C]
      have : inc (M s 0) (bt s 0) = 0 := by simp only [M]; rw [hb]; rfl
      omega
    · show (M s 1).st = 3
      rw [hM]; rfl
    show T s 1 = [36]
    simp only [T, M]; rw [hb]; rfl
  rw [if_neg (by simp [hb]), wrong_of rfl]
  refine Or.inr ⟨by simp, rfl, ⟨by simp [M, g0], ?_, Nat.zero_le _, by simp⟩⟩
  show (M s 1).st + 2 = 2
  simp only [M]
  have e : g0 = cS 2 [] := rfl
  rw [e]
  by_cases h256 : bt s 0 = 256
  · rw [h256]
    have := nx_end (X := 2) (o := []) (by omega) (by omega) (by omega)
    omega
  rw [nx_low (by omega) (by omega) h256]
  simp [gBetween, gSegment, cS, hb, norm]
abbrev Keeps (w w' : World) : Prop := Fr (fun _ => False) w w'
theorem Fr.new {K L : Nat → Prop} {a b c : World} (h : Fr K a b) (k : Fr L b c) (hL : ∀ i, i < a.heap.size → L i → K i) : Fr K a c :=
  ⟨k.os.trans h.os, k.tape.trans h.tape, k.output.trans h.output, Nat.le_trans h.size k.size, fun i hi hK => (k.block i (Nat.lt_of_lt_of_le hi h.size) (fun x => hK (hL i hi x))).trans (h.block i hi hK)⟩
end Go.Proofs.YtcbadebjpogmlaaGreatDoor
namespace Go.Proofs.YtcbadebjpogmlaaGreatDoor
open Go.RowKit Tr
set_option maxHeartbeats 2000000 in
theorem g_next {w : World} {b : Nat} {g : G} (h : HasG w b g.st g) (ok : Gok g) (c : Nat) (hc : c < 256) :
    Calls Tryz.prog 82 #[.pointer (some ⟨b, 0, none⟩), .int .u8 (c : Int)] w (AnsX b w (gNext g c)) := by
  have c0 := h.c0
  have HH := hide h
  have HK := hide ok
  clear h
  by_cases hst : 21 ≤ g.st ∧ g.st ≤ 25
  · have e : gNext g c = gInside g c := by unfold gNext; rw [if_pos hst]
    rw [e]
    have HS := hide hst
    have hc5 : g.st = 21 ∨ g.st = 22 ∨ g.st = 23 ∨ g.st = 24 ∨ g.st = 25 := by omega
    clear e hst ok
    rcases hc5 with h5 | h5 | h5 | h5 | h5
    all_goals
      rw [h5] at c0
      clear h5
      go_enter Tryz.func82, Tryz.ntmps82
      go_wp2_with fail
      refine (g_inside HH.out HK.out c hc HS.out).mono ?_
      rintro r w1 ⟨x, rfl, hr⟩
      have HR := hide hr
      clear hr
      generalize gInside g c = g2 at *
      go_wp2
      go_ret
      exact ⟨x, rfl, HR.out⟩
  have e : gNext g c = gBetween g c := by unfold gNext; rw [if_neg hst]
  rw [e]
  have hop := ok.op
  have d1 : ((g.st : Int) == 21) = false := by rw [beq_eq_false_iff_ne]; omega
  have d2 : ((g.st : Int) == 22) = false := by rw [beq_eq_false_iff_ne]; omega
  have d3 : ((g.st : Int) == 23) = false := by rw [beq_eq_false_iff_ne]; omega
  have d4 : ((g.st : Int) == 24) = false := by rw [beq_eq_false_iff_ne]; omega
  have d5 : ((g.st : Int) == 25) = false := by rw [beq_eq_false_iff_ne]; omega
  clear e hst ok
  go_enter Tryz.func82, Tryz.ntmps82
  go_wp2_with fail
  refine (g_between HH.out hop c hc).mono ?_
  rintro r w1 ⟨rfl, hr⟩
  have HR := hide hr
  clear hr
  generalize gBetween g c = g2 at *
  go_wp2
  go_ret
  exact ⟨_, rfl, HR.out⟩
set_option maxHeartbeats 1000000 in
theorem g_mayEnd {w : World} {b : Nat} {g : G} (h : HasG w b g.st g) :
    Calls Tryz.prog 83 #[.pointer (some ⟨b, 0, none⟩)] w fun r w' => r = .returned (.bool (mayEnd g)) ∧ ∃ n, w' = w.drewN n := by
  have c0 := h.c0
  have c1 := h.c1
  clear h
  by_cases h3 : g.st = 3
  · have e : mayEnd g = true := by simp [mayEnd, h3]
    rw [e]
    have d1 : ((g.st : Int) == 3) = true := by rw [beq_iff_eq]; omega
    clear e h3
    go_enter Tryz.func83, Tryz.ntmps83
    go_wp2
    go_ret
    exact ⟨rfl, 0, rfl⟩
  have d1 : ((g.st : Int) == 3) = false := by rw [beq_eq_false_iff_ne]; omega
  by_cases h21 : g.st = 21
  · have e : mayEnd g = ((g.bh : Int) == 3) := by
      rw [Bool.eq_iff_iff]; simp [mayEnd, h21]; omega
    rw [e]
    have d2 : ((g.st : Int) == 21) = true := by rw [beq_iff_eq]; omega
    clear e h3 h21
    go_enter Tryz.func83, Tryz.ntmps83
    go_wp2
    go_ret
    exact ⟨rfl, 0, rfl⟩
  have e : mayEnd g = false := by simp [mayEnd, h3, h21]
  rw [e]
  have d2 : ((g.st : Int) == 21) = false := by rw [beq_eq_false_iff_ne]; omega
  clear e h3 h21
  go_enter Tryz.func83, Tryz.ntmps83
  go_wp2
  go_ret
  exact ⟨rfl, 0, rfl⟩
end Go.Proofs.YtcbadebjpogmlaaGreatDoor
namespace Go.Proofs.YtcbadebjpogmlaaGreatDoor
open Go.RowKit Tr
theorem Gok.st {g : G} (h : Gok g) (k : Nat) (hk : k ≠ 24) : Gok { g with st := k } := ⟨h.bh, h.op, h.sz, fun e => absurd e hk, h.rl⟩
theorem gok_word {g : G} (h : Gok g) (b k : Nat) (hk : k ≤ 20) : Gok (gWord g b k) := by
  unfold gWord; split
  · exact ⟨hk, h.op, by simp, fun e => by simp at e, h.rl⟩
  exact h.st 0 (by omega)
theorem gok_quote {g : G} (h : Gok g) (k : Nat) (hk : k ≤ 20) : Gok (gQuote g k) := ⟨hk, h.op, by simp [gQuote], fun e => by simp [gQuote] at e, h.rl⟩
theorem gok_minus {g : G} (h : Gok g) (k : Nat) (hk : k ≤ 20) : Gok (gMinus g k) := ⟨hk, h.op, h.sz, fun e => by simp [gMinus] at e, h.rl⟩
theorem gok_named {g : G} (h : Gok g) (l : List UInt8) (hl : l.length ≤ 4) (k : Nat) (hk : k ≤ 20) : Gok (gNamed g l k) := by
  unfold gNamed; split
  · exact h.st k (by omega)
  rename_i hne; exact ⟨hk, h.op, h.sz, fun _ => hne, hl⟩
theorem gok_count {g : G} (h : Gok g) (b k : Nat) (hk : k ≤ 20) : Gok (gCount g b k) := by
  unfold gCount; split
  · exact h.st k (by omega)
  split
  · exact ⟨hk, h.op, by simp, fun e => by simp at e, h.rl⟩
  exact h.st 0 (by omega)
theorem gok_signed {g : G} (h : Gok g) (b k : Nat) (hk : k ≤ 20) : Gok (gSigned g b k) := by
  unfold gSigned; split
  · exact gok_minus h k hk
  exact gok_count h b k hk
theorem gok_const {g : G} (h : Gok g) (b : Nat) : Gok (gConst g b) := by
  unfold gConst; repeat' split
  all_goals first | exact h.st _ (by omega) | exact gok_quote h _ (by omega) | exact gok_named h _ (by simp) _ (by omega) | exact gok_signed h _ _ (by omega)
theorem gok_within {g : G} (h : Gok g) (b : Nat) : Gok (gWithin g b) := by
  unfold gWithin; repeat' split
  all_goals first | exact h.st _ (by omega) | exact gok_word h _ _ (by omega) | exact gok_signed h _ _ (by omega)
theorem gok_selEnd {g : G} (h : Gok g) (b : Nat) : Gok (gSelEnd g b) := by
  unfold gSelEnd; repeat' split
  all_goals first | exact h.st _ (by omega) | exact gok_count h _ _ (by omega)
theorem trimS_len (l : List UInt8) : (trimS l).length ≤ l.length := by
  unfold trimS; split
  · simp
  exact Nat.le_refl _
theorem gok_partEnd {g : G} (h : Gok g) (hs : g.st ≠ 24) (b : Nat) : Gok (gPartEnd g b) := by
  have h1 : Gok { g with op := trimR g.op } := ⟨h.bh, Nat.le_trans (trimR_len _) h.op, h.sz, fun e => absurd e hs, h.rl⟩
  unfold gPartEnd; simp only; repeat' split
  · exact h1.st _ (by omega)
  · exact h1.st _ (by omega)
  · exact ⟨h.bh, Nat.le_trans (trimS_len _) h1.op, h.sz, fun e => by simp at e, h.rl⟩
  · exact gok_selEnd h1 b
  exact h1.st _ (by omega)
theorem gok_stepEnd {g : G} (h : Gok g) (hs : g.st ≠ 24) (b : Nat) : Gok (gStepEnd g b) := by
  unfold gStepEnd; repeat' split
  all_goals first | exact h.st _ (by omega) | exact gok_partEnd h hs b
theorem gok_part {g : G} (h : Gok g) (b : Nat) : Gok (gPart g b) := by
  unfold gPart; repeat' split
  · exact h.st _ (by omega)
  · exact h.st _ (by omega)
  · exact h.st _ (by omega)
  refine ⟨h.bh, ?_, h.sz, fun e => by simp at e, h.rl⟩
  have := h.op
  simp only [List.length_append, List.length_cons, List.length_nil]
  omega
theorem gok_selector {g : G} (h : Gok g) (b : Nat) : Gok (gSelector g b) := by
  unfold gSelector; repeat' split
  all_goals first | exact h.st _ (by omega) | exact gok_quote h _ (by omega) | exact gok_minus h _ (by omega) | exact gok_count h _ _ (by omega)
theorem gok_segment {g : G} (h : Gok g) (b : Nat) : Gok (gSegment g b) := by
  unfold gSegment gStar; repeat' split
  all_goals first | exact h.st _ (by omega) | exact gok_word h _ _ (by omega)
theorem gok_between {g : G} (h : Gok g) (hs : g.st ≠ 24) (b : Nat) : Gok (gBetween g b) := by
  unfold gBetween; repeat' split
  · exact gok_segment h b
  · exact gok_selector h b
  · exact gok_selEnd h b
  · exact gok_part h b
  · exact gok_partEnd h hs b
  · exact gok_stepEnd h hs b
  · exact gok_const h b
  exact gok_within h b
theorem gok_next {g : G} (h : Gok g) (b : Nat) : Gok (gNext g b) := by
  unfold gNext; split
  · unfold gInside
    split
    · rename_i hg
      refine ⟨h.bh, h.op, ?_, ?_, h.rl⟩
      · unfold gGoes at hg
        repeat' split at hg
        all_goals first | (simp at hg; have := hg.2; simp only; omega) | (simp at hg)
      intro e
      exact h.rs e
    split
    · exact h.st _ (by have := h.bh; omega)
    split
    · refine gok_named h _ ?_ _ h.bh
      have := h.rl
      simp only [List.length_tail]; omega
    split
    · exact gok_count h _ _ h.bh
    split
    · have h1 : Gok { g with st := g.bh } := h.st _ (by have := h.bh; omega)
      exact gok_between h1 (by have := h.bh; simp only; omega) b
    exact h.st _ (by omega)
  rename_i hs
  exact gok_between h (by omega) b
def Gi (s : List UInt8) : Nat → G
  | 0 => ⟨2, 0, 0, [], []⟩
  | i + 1 => gNext (Gi s i) (bt s i)
theorem Gi_ok (s : List UInt8) : ∀ i, Gok (Gi s i)
  | 0 => ⟨by simp [Gi], by simp [Gi], by simp [Gi], fun e => by simp [Gi] at e, by simp [Gi]⟩
  | i + 1 => gok_next (Gi_ok s i) _
theorem Gi_M (s : List UInt8) : ∀ i, i ≤ s.length → (∀ j, j ≤ i → 2 ≤ (M s j).st ∨ j = i) → norm (Gi s i) = M s i
  | 0, _, _ => rfl
  | i + 1, hi, h => by
    have ih := Gi_M s i (by omega) (fun j hj => by
      rcases h j (by omega) with x | x
      · exact Or.inl x
      exact Or.inl (by omega))
    have h2 : 2 ≤ (M s i).st := by
      rcases h i (by omega) with x | x
      · exact x
      omega
    have hb : bt s i ≠ 256 := by have := bt_in (s := s) (p := i) (by omega); omega
    show norm (gNext (Gi s i) (bt s i)) = nx (M s i) (bt s i)
    rw [norm_next _ _ (Gi_ok s i).bh, ih]
    unfold nx
    rw [if_neg (by omega), if_neg hb]
def FaultP (s : ByteArray) (w : World) (r : Ending) (w' : World) : Prop :=
  Keeps w w' ∧ ((∃ e p, Err (bs s) e p ∧ r = .returned (.tuple #[.int .i64 (e : Nat), .int .i64 (p : Nat)])) ∨ (Fin (bs s) ∧ r = .returned (.tuple #[.int .i64 0, .int .i64 0])))
set_option maxRecDepth 100000 in
set_option maxHeartbeats 2000000 in
theorem c_fault {w : World} {s : ByteArray} (hs : s.size ≤ 120) :
    Calls Tryz.prog 61 #[.string s] w (FaultP s w) := by
  have M0 : Hid (HasG (w.alloc (.cells #[.int .i64 2, .int .i64 0, .int .i64 0, .string ⟨#[]⟩, .string ⟨#[]⟩] 176)) w.heap.size (Gi (bs s) 0).st (Gi (bs s) 0)) := heap_alloc_new w _
  have F0 := hide ((Fr.refl (fun _ => False) w).alloc (.cells #[.int .i64 2, .int .i64 0, .int .i64 0, .string ⟨#[]⟩, .string ⟨#[]⟩] 176))
  go_enter Tryz.func61, Tryz.ntmps61
  go_wp2
  go_loopw [5, 9] (fun _ i wr => ∃ k : Nat, k ≤ s.size ∧ i = .int .i64 k ∧ HasG wr w.heap.size (Gi (bs s) k).st (Gi (bs s) k) ∧ Keeps w wr ∧ (∀ j, j ≤ k → 2 ≤ (M (bs s) j).st)) (fun _ i _ => s.size - (intOf i).toNat)
  case atStart =>
    refine ⟨0, Nat.zero_le _, rfl, M0.out, F0.out, fun j hj => ?_⟩
    have hj0 : j = 0 := by omega
    subst hj0
    simp [M, g0]
  case round =>
    obtain ⟨k, hk, rfl, hM, hF, hlv⟩ := hrel
    have MM := hide hM
    have FF := hide hF
    have LV := hide hlv
    clear hM hF hlv M0 F0
    by_cases hlt : k < s.size
    · have hbt := btB_lt hlt
      have hEQ : norm (gNext (Gi (bs s) k) (bt (bs s) k)) = M (bs s) (k + 1) := Gi_M (bs s) (k + 1) (by rw [bs_len]; omega) (fun j hj => by
        by_cases e : j = k + 1
        · exact Or.inr e
        exact Or.inl (LV.out j (by omega)))
      have HST : Hid ((gNext (Gi (bs s) k) (bt (bs s) k)).st = (M (bs s) (k + 1)).st) := by unfold Hid; rw [← hEQ]; rfl
      have HBT := hide hbt
      clear hEQ hbt
      go_wp2_with fail
      refine (g_next MM.out (Gi_ok (bs s) k) s[k].toNat (UInt8.toNat_lt _)).mono ?_
      rintro r w1 ⟨x, rfl, hr⟩
      rw [← HBT.out]
      rw [← HBT.out] at hr
      have HR := hide hr
      have z0 := hr.m.fz 0
      have q0 := hr.m.c0
      have M1 : Hid (HasG (w1.setCell ⟨w.heap.size, 0, none⟩ (.int .i64 (gNext (Gi (bs s) k) (bt (bs s) k)).st)) w.heap.size (Gi (bs s) (k + 1)).st (Gi (bs s) (k + 1))) := hr.m.set0 _
      have F1 := hide ((FF.out.new hr.f (fun i hi e => by unfold PB at e; omega)).setCell ⟨w.heap.size, 0, none⟩ (Or.inr (Nat.le_refl _)) (.int .i64 (gNext (Gi (bs s) k) (bt (bs s) k)).st))
      have hsz := hr.m.lt
      clear hr
      by_cases h0 : (M (bs s) (k + 1)).st = 0
      · have HE : Hid (Err (bs s) 2 k) := ⟨LV.out k (Nat.le_refl _), by rw [h0], by rw [bs_len]; omega, by omega⟩
        rw [HST.out, h0]
        rw [HST.out, h0] at F1
        clear h0
        go_wp2
        go_ret2
        exact ⟨F1.out, Or.inl ⟨2, k, HE.out, rfl⟩⟩
      by_cases h1 : (M (bs s) (k + 1)).st = 1
      · have HE : Hid (Err (bs s) 3 k) := ⟨LV.out k (Nat.le_refl _), by rw [h1], by rw [bs_len]; omega, by omega⟩
        rw [HST.out, h1]
        rw [HST.out, h1] at F1
        clear h0 h1
        go_wp2
        go_ret2
        exact ⟨F1.out, Or.inl ⟨3, k, HE.out, rfl⟩⟩
      have d0 : (((gNext (Gi (bs s) k) (bt (bs s) k)).st : Int) == 0) = false := by rw [beq_eq_false_iff_ne, HST.out]; omega
      have d1 : (((gNext (Gi (bs s) k) (bt (bs s) k)).st : Int) == 1) = false := by rw [beq_eq_false_iff_ne, HST.out]; omega
      have HL : Hid (∀ j, j ≤ k + 1 → 2 ≤ (M (bs s) j).st) := fun j hj => by
        by_cases e : j = k + 1
        · subst e; omega
        exact LV.out j (by omega)
      have HG : Hid (Gi (bs s) (k + 1) = gNext (Gi (bs s) k) (bt (bs s) k)) := rfl
      generalize (gNext (Gi (bs s) k) (bt (bs s) k)).st = gst at *
      clear h0 h1
      go_wp2
      go_roundw
      case rel => exact ⟨k + 1, by omega, by go_num, M1.out, F1.out, HL.out⟩
      case measure => simp [intOf]; omega
    have hks : k = s.size := by omega
    subst hks
    have hN : norm (Gi (bs s) s.size) = M (bs s) s.size := Gi_M (bs s) s.size (by rw [bs_len]; exact Nat.le_refl _) (fun j hj => Or.inl (LV.out j hj))
    have hme : mayEnd (Gi (bs s) s.size) = mayEnd (M (bs s) s.size) := by
      rw [← hN]; unfold mayEnd norm
      by_cases h21 : (Gi (bs s) s.size).st = 21
      · simp [h21]
      have hb : ((Gi (bs s) s.size).st == 21) = false := beq_eq_false_iff_ne.2 h21
      simp only [hb, Bool.false_and]
    have hnx : M (bs s) (s.size + 1) = if mayEnd (M (bs s) s.size) = true then ⟨26, 0, 0, [], []⟩ else ⟨0, 0, 0, [], []⟩ := by
      show nx (M (bs s) s.size) (bt (bs s) s.size) = _
      rw [bt_end (by rw [bs_len]; exact Nat.le_refl _)]
      have := LV.out s.size (Nat.le_refl _)
      exact nx256 _ (by omega)
    have HME := hide hme
    have HNX := hide hnx
    clear hN hme hnx
    cases hm : mayEnd (M (bs s) s.size)
    · have HM := hide hm
      clear hm
      go_wp2_with fail
      refine (g_mayEnd MM.out).mono ?_
      rintro r w1 ⟨rfl, nn, rfl⟩
      rw [HME.out, HM.out]
      go_wp2
      go_ret2
      refine ⟨FF.out.drewN nn, Or.inl ⟨2, s.size, ⟨LV.out _ (Nat.le_refl _), ?_, by rw [bs_len]; exact Nat.le_refl _, by omega⟩, rfl⟩⟩
      rw [HNX.out, HM.out]
      rfl
    have HM := hide hm
    clear hm
    go_wp2_with fail
    refine (g_mayEnd MM.out).mono ?_
    rintro r w1 ⟨rfl, nn, rfl⟩
    rw [HME.out, HM.out]
    go_wp2
    go_ret2
    refine ⟨FF.out.drewN nn, Or.inr ⟨?_, rfl⟩⟩
    unfold Fin
    rw [bs_len, HNX.out, HM.out]
    rfl
end Go.Proofs.YtcbadebjpogmlaaGreatDoor
