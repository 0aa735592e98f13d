import Derived.Test.YtcbadebjpogmlaaGreatDoorJAf
import Derived.Test.YtcbadebjpogmlaaGreatDoorJGb
import Derived.BigRegion
import Derived.Deep.AppendLies
import Derived.Deep.RegionLaw
import Derived.Laws.EntriesVeiled
import Derived.Deep.RegionHeld
namespace Tr
def heldB (hd : Option Nat) (n : Nat) : Bool := match hd with
  | none => false
  | some h => decide (h < n)
def heldI (hd : Option Nat) (n : Nat) : Bool := match hd with
  | none => false
  | some h => decide (h ≤ n)
theorem held_in {hd : Option Nat} {n : Nat} (h : heldI hd n = false) : heldB hd n = false := by
  cases hd with
  | none => rfl
  | some k => simp [heldI, heldB] at *; omega
def FrI (hd : Option Nat) : List Fm → Nat → Prop
  | [], _ => True
  | f :: r, ix => f.kp = heldB hd r.length ∧ (heldI hd r.length = true → ix = f.ws.length) ∧ (heldI hd r.length = false → f.ws = []) ∧ FrI hd r f.ix
theorem FrI.out {hd hd' : Option Nat} : ∀ {l : List Fm} {ix ix' : Nat}, (∀ m, m < l.length → heldI hd m = false) → (∀ m, m < l.length → heldI hd' m = false) → FrI hd l ix → FrI hd' l ix'
  | [], _, _, _, _, _ => trivial
  | f :: r, _, _, a, b, ⟨h1, _, h3, h4⟩ => by
    have a0 := a r.length (by simp)
    have b0 := b r.length (by simp)
    refine ⟨?_, fun e => ?_, fun _ => h3 a0, FrI.out (fun m hm => a m (by simp; omega)) (fun m hm => b m (by simp; omega)) h4⟩
    · rw [h1, held_in a0, held_in b0]
    rw [b0] at e; cases e
def szF (f : Fm) : Nat := 1 + (f.ws.flatMap (allT 10)).length
def szS (st : List Fm) : Nat := (st.map szF).sum
theorem all_up (n : Nat) (t : Tv) : (allT n t).length ≤ (allT (n + 1) t).length := by
  induction n generalizing t with
  | zero => simp [allT]
  | succ n ih =>
    show (t :: t.ws.flatMap (allT n)).length ≤ (t :: t.ws.flatMap (allT (n + 1))).length
    have : ∀ l : List Tv, (l.flatMap (allT n)).length ≤ (l.flatMap (allT (n + 1))).length := by
      intro l
      induction l with
      | nil => simp
      | cons a l h2 => simp only [List.flatMap_cons, List.length_append]; have := ih a; omega
    have := this t.ws
    simp only [List.length_cons]; omega
theorem all_szF (f : Fm) (to : Nat) : (allT 10 (f.tv to)).length ≤ szF f := by
  show (f.tv to :: f.ws.flatMap (allT 9)).length ≤ 1 + (f.ws.flatMap (allT 10)).length
  have : ∀ l : List Tv, (l.flatMap (allT 9)).length ≤ (l.flatMap (allT 10)).length := by
    intro l
    induction l with
    | nil => simp
    | cons a l h2 => simp only [List.flatMap_cons, List.length_append]; have := all_up 9 a; simp only [Nat.reduceAdd] at this; omega
  have := this f.ws
  simp only [List.length_cons]; omega
theorem cntT_le (xs : List Sg) : ∀ (n : Nat) (t : Tv) (tl : List Ct), (cntT xs n t tl).length ≤ (allT n t).length
  | 0, _, _ => Nat.le_refl _
  | n + 1, t, tl => by
    show ((t.ws.zipIdx.flatMap (fun p => cntT xs n p.1 (tlOf xs t.d.kind t.ws.length p.2 p.1 tl))) ++ (if 0 < (ctAt tl xs.length).its then [(t, (ctAt tl xs.length).its)] else [])).length ≤ (t :: t.ws.flatMap (allT n)).length
    have key : ∀ (l : List Tv) (i m : Nat), ((l.zipIdx i).flatMap (fun p => cntT xs n p.1 (tlOf xs t.d.kind m p.2 p.1 tl))).length ≤ (l.flatMap (allT n)).length := by
      intro l
      induction l with
      | nil => intro _ _; simp
      | cons a l ih =>
        intro i m
        have h1 := ih (i + 1) m
        have h2 := cntT_le xs n a (tlOf xs t.d.kind m i a tl)
        simp only [List.zipIdx_cons, List.flatMap_cons, List.length_append]
        omega
    have h1 := key t.ws 0 t.ws.length
    rw [List.length_append, List.length_cons]
    split <;> simp only [List.length_cons, List.length_nil] <;> omega
def Zh (xs : List Sg) (tl : List Ct) : Prop := headS xs < xs.length → ∀ k, headS xs ≤ k → ctAt tl k = ⟨0, 0⟩
theorem ct_far {tl : List Ct} {k : Nat} (h : tl.length ≤ k) : ctAt tl k = ⟨0, 0⟩ := by
  unfold ctAt; rw [List.getD_eq_getElem?_getD, List.getElem?_eq_none h]; rfl
theorem ct_succ (a : Ct) (l : List Ct) (k : Nat) : ctAt (a :: l) (k + 1) = ctAt l k := by
  unfold ctAt; rw [List.getD_cons_succ]
theorem ct_zero (a : Ct) (l : List Ct) : ctAt (a :: l) 0 = a := rfl
theorem zh_kid {xs : List Sg} {tl : List Ct} (hl : tl.length = xs.length + 1) (h : Zh xs tl) (pk L i : Nat) (c : Tv) (h0 : ¬ 0 < (ctAt (tlOf xs pk L i c tl) (headS xs)).its) : Zh xs (tlOf xs pk L i c tl) := fun hlt k hk => by
  have Z := h hlt
  have hgl := tlGo_len pk L i c xs tl hl
  cases k with
  | zero =>
    have e0 : headS xs = 0 := by omega
    have z0 := Z 0 (by omega)
    cases tl with
    | nil => simp at hl
    | cons p ps =>
      rw [ct_zero] at z0
      show (⟨0, p.al⟩ : Ct) = ⟨0, 0⟩
      rw [z0]
  | succ k =>
    unfold tlOf at h0 ⊢
    rw [ct_succ]
    by_cases hkl : k < xs.length
    · have e := tlGo_at pk L i c xs tl hl k hkl
      rw [e]
      have z1 := Z (k + 1) hk
      by_cases hh : headS xs ≤ k
      · have z2 := Z k hh
        rw [z1, z2]; simp
      have ek : headS xs = k + 1 := by omega
      rw [ek, ct_succ, e] at h0
      simp only at h0
      have h0 : ((if xs[k].deep = true then (ctAt tl k).al else (ctAt tl k).its) * cntS xs[k].l pk L i c) = 0 := by omega
      rw [h0, z1]
    exact ct_far (by rw [hgl]; omega)
theorem zh_out {xs : List Sg} (h0 : ¬ 0 < (ctAt (tlOut xs.length) (headS xs)).its) : Zh xs (tlOut xs.length) := fun hlt k hk => by
  cases k with
  | zero =>
    have e0 : headS xs = 0 := by omega
    rw [e0] at h0
    exact absurd (by decide : 0 < 1) h0
  | succ k =>
    unfold tlOut
    rw [ct_succ]
    unfold ctAt
    rw [List.getD_eq_getElem?_getD]
    by_cases q : k < xs.length
    · simp [q]
    rw [List.getElem?_eq_none (by simp; omega)]; rfl
structure FOk (xs : List Sg) (s : Fw) : Prop where
  n : s.told.length + szS s.g.st ≤ s.g.bd
  fr : FrI s.hd s.g.st s.g.ix
  tl : s.tl.length = (match s.hd with | none => s.g.st.length | some h => h + 1)
  hd : ∀ h, s.hd = some h → h < s.g.st.length
  ct : ∀ i (h : i < s.tl.length), CtB xs i s.tl[i]
  z : ∀ i (h : i < s.tl.length), (s.hd = none ∨ i + 1 < s.tl.length) → Zh xs s.tl[i]
theorem fInit_ok (xs : List Sg) : FOk xs fInit := ⟨by simp [fInit, gInit, szS], trivial, rfl, fun h e => (by cases e), fun i h => (by cases h), fun i h => (by cases h)⟩
theorem FOk.may {xs : List Sg} {s : Fw} (h : FOk xs s) : mayKeep s.g s.hd.isSome := fun hs p q e => by
  have hf := h.fr
  rw [e] at hf
  cases hh : s.hd with
  | none => rw [hh] at hs; cases hs
  | some k =>
    have := h.hd k hh
    rw [e] at this
    refine hf.2.1 ?_
    rw [hh]; simp [heldI]; simp at this; omega
def fPush (xs : List Sg) (s : Fw) (d : Dat) (b : Nat) : Fw := { fBeg xs s d with g := ⟨⟨d, s.g.ix, s.hd.isSome, []⟩ :: s.g.st, [], 0, b + 1, s.g.last⟩ }
theorem last_at {α : Type} (l : List α) (a : α) (h : l ≠ []) : l.getLastD a = l[l.length - 1]'(by cases l with | nil => exact absurd rfl h | cons x y => simp) := by
  cases l with
  | nil => exact absurd rfl h
  | cons x y => simp [List.getLastD, List.getLast_eq_getElem]
theorem fOk_push {xs : List Sg} (hx : ∀ g ∈ xs, 0 < g.l.length) {s : Fw} (h : FOk xs s) (d : Dat) {b : Nat} (hb : s.g.bd ≤ b) : FOk xs (fPush xs s d b) := by
  have hn := h.n
  cases hh : s.hd with
  | some k =>
    have hk := h.hd k hh
    have e : fPush xs s d b = { s with g := ⟨⟨d, s.g.ix, true, []⟩ :: s.g.st, [], 0, b + 1, s.g.last⟩ } := by unfold fPush fBeg; rw [hh]; simp [hh]
    rw [e]
    have htl := h.tl
    rw [hh] at htl
    refine ⟨?_, ?_, ?_, fun j hj => ?_, h.ct, fun i hi hz => h.z i hi hz⟩
    · show s.told.length + szS (⟨d, s.g.ix, true, []⟩ :: s.g.st) ≤ b + 1
      have : szS (⟨d, s.g.ix, true, []⟩ :: s.g.st) = 1 + szS s.g.st := by simp [szS, szF]
      omega
    · show FrI s.hd (⟨d, s.g.ix, true, []⟩ :: s.g.st) 0
      refine ⟨?_, fun _ => rfl, fun _ => rfl, h.fr⟩
      rw [hh]; simp [heldB, hk]
    · show s.tl.length = _
      rw [hh]; exact htl
    show j < (⟨d, s.g.ix, true, []⟩ :: s.g.st : List Fm).length
    have hj : s.hd = some j := hj
    have := h.hd j hj
    simp; omega
  | none =>
    have htl := h.tl
    rw [hh] at htl
    simp only at htl
    -- the new tally
    have hT : CtB xs s.g.st.length (fTly xs s d) ∧ (¬ 0 < (ctAt (fTly xs s d) (headS xs)).its → Zh xs (fTly xs s d)) := by
      unfold fTly
      cases hs : s.g.st with
      | nil => exact ⟨ctb_out xs hx, zh_out⟩
      | cons p q =>
        have hne : s.tl ≠ [] := fun e => by rw [e, hs] at htl; simp at htl
        have hlt : s.tl.length - 1 < s.tl.length := by rw [htl, hs]; simp
        have hc := h.ct (s.tl.length - 1) hlt
        have e1 : s.tl.length - 1 = q.length := by rw [htl, hs]; simp
        simp only
        rw [last_at s.tl [] hne]
        refine ⟨?_, fun h0 => zh_kid hc.len (h.z _ hlt (Or.inl hh)) _ _ _ _ h0⟩
        have := ctb_kid hc p.d.kind p.ws.length s.g.ix ⟨d, []⟩
        have e2 : (p :: q).length = s.tl.length - 1 + 1 := by rw [e1]; simp
        rw [e2]; exact this
    obtain ⟨hd', hhd⟩ : ∃ hd', hd' = if headS xs < xs.length ∧ 0 < (ctAt (fTly xs s d) (headS xs)).its then some s.g.st.length else none := ⟨_, rfl⟩
    have e : fPush xs s d b = ⟨⟨⟨d, s.g.ix, false, []⟩ :: s.g.st, [], 0, b + 1, s.g.last⟩, s.tl ++ [fTly xs s d], hd', s.told⟩ := by unfold fPush fBeg; rw [hh, hhd]; simp
    have h01 : hd' = some s.g.st.length ∨ (hd' = none ∧ Zh xs (fTly xs s d)) := by
      rw [hhd]
      split
      · exact Or.inl rfl
      rename_i hneg
      refine Or.inr ⟨rfl, fun hlt => ?_⟩
      exact hT.2 (fun y => hneg ⟨hlt, y⟩) hlt
    clear hhd
    rw [e]
    have hin : ∀ m, m < s.g.st.length → heldI hd' m = false := fun m hm => by
      rcases h01 with y | ⟨y, _⟩
      · rw [y]; simp [heldI]; omega
      rw [y]; rfl
    refine ⟨?_, ?_, ?_, fun j hj => ?_, fun i hi => ?_, fun i hi hz => ?_⟩
    · show s.told.length + szS (⟨d, s.g.ix, false, []⟩ :: s.g.st) ≤ b + 1
      have : szS (⟨d, s.g.ix, false, []⟩ :: s.g.st) = 1 + szS s.g.st := by simp [szS, szF]
      omega
    · show FrI hd' (⟨d, s.g.ix, false, []⟩ :: s.g.st) 0
      refine ⟨?_, fun _ => rfl, fun _ => rfl, ?_⟩
      · rcases h01 with y | ⟨y, _⟩ <;> rw [y] <;> simp [heldB]
      have := h.fr
      rw [hh] at this
      exact FrI.out (fun _ _ => rfl) hin this
    · show (s.tl ++ [fTly xs s d]).length = _
      rcases h01 with y | ⟨y, _⟩ <;> simp [y, htl]
    · have hj : hd' = some j := hj
      show j < (⟨d, s.g.ix, false, []⟩ :: s.g.st : List Fm).length
      rcases h01 with y | ⟨y, _⟩
      · rw [y] at hj
        have := Option.some.inj hj
        simp; omega
      rw [y] at hj; cases hj
    · have hi : i < (s.tl ++ [fTly xs s d]).length := hi
      show CtB xs i (s.tl ++ [fTly xs s d])[i]
      by_cases hlt : i < s.tl.length
      · rw [List.getElem_append_left hlt]; exact h.ct i hlt
      have ei : i = s.tl.length := by simp at hi; omega
      subst ei
      simp only [List.getElem_concat_length]
      rw [htl]; exact hT.1
    have hi : i < (s.tl ++ [fTly xs s d]).length := hi
    show Zh xs (s.tl ++ [fTly xs s d])[i]
    by_cases hlt : i < s.tl.length
    · rw [List.getElem_append_left hlt]; exact h.z i hlt (Or.inl hh)
    have ei : i = s.tl.length := by simp at hi; omega
    subst ei
    simp only [List.getElem_concat_length]
    rcases h01 with y | ⟨y, z⟩
    · rcases hz with k | k
      · have k : hd' = none := k
        rw [y] at k; cases k
      simp at k
    exact z
theorem gOn_false (r : List Fm) (t : Tv) : gOn r false t = r := by cases r <;> simp [gOn, gKeep]
theorem fOk_cls {xs : List Sg} {s : Fw} (h : FOk xs s) {f : Fm} {r : List Fm} (hs : s.g.st = f :: r) (to : Nat) : FOk xs { fCls xs s (f.tv to) r.length with g := gClose s.g f r to } := by
  have hn := h.n
  have hf := h.fr
  rw [hs] at hn hf
  have hsz : szS (f :: r) = szF f + szS r := by simp [szS]
  have hall := all_szF f to
  obtain ⟨f1, f2, f3, f4⟩ := hf
  by_cases hc : s.hd.isSome = true ∧ s.hd ≠ some r.length
  · obtain ⟨k, hk⟩ : ∃ k, s.hd = some k := Option.isSome_iff_exists.1 hc.1
    have hk1 := h.hd k hk
    rw [hs] at hk1
    have hk2 : k < r.length := by
      have : k ≠ r.length := fun e => hc.2 (by rw [hk, e])
      simp at hk1; omega
    have ekp : f.kp = true := by rw [f1, hk]; simp [heldB, hk2]
    have e : { fCls xs s (f.tv to) r.length with g := gClose s.g f r to } = { s with g := gClose s.g f r to } := by unfold fCls; rw [if_pos hc]
    rw [e]
    cases r with
    | nil => simp at hk2
    | cons p q =>
      obtain ⟨p1, p2, p3, p4⟩ := f4
      have hin : heldI s.hd q.length = true := by rw [hk]; simp [heldI]; simp at hk2; omega
      have eg : (gClose s.g f (p :: q) to).st = { p with ws := p.ws ++ [f.tv to] } :: q := by simp [gClose, gOn, gKeep, ekp]
      refine ⟨?_, ?_, ?_, fun j hj => ?_, h.ct, h.z⟩
      · show s.told.length + szS (gClose s.g f (p :: q) to).st ≤ s.g.bd
        rw [eg]
        have e1 : szS ({ p with ws := p.ws ++ [f.tv to] } :: q) = szF p + (allT 10 (f.tv to)).length + szS q := by simp [szS, szF]; omega
        have e2 : szS (p :: q) = szF p + szS q := by simp [szS]
        omega
      · show FrI s.hd (gClose s.g f (p :: q) to).st (f.ix + 1)
        rw [eg]
        refine ⟨p1, fun _ => ?_, fun y => ?_, p4⟩
        · have := p2 hin
          simp; omega
        rw [hin] at y; cases y
      · show s.tl.length = match s.hd with | none => (gClose s.g f (p :: q) to).st.length | some h => h + 1
        have := h.tl
        rw [hk] at this ⊢; exact this
      show j < (gClose s.g f (p :: q) to).st.length
      have hj : s.hd = some j := hj
      rw [hk] at hj
      have := Option.some.inj hj
      rw [eg]; simp at hk2 ⊢; omega
  have hkp : f.kp = false := by
    rw [f1]
    cases hh : s.hd with
    | none => rfl
    | some k =>
      have : k = r.length := Decidable.byContradiction fun y => hc ⟨by rw [hh]; rfl, fun z => y (by rw [hh] at z; exact Option.some.inj z)⟩
      simp [heldB, this]
  have hin : ∀ m, m < r.length → heldI s.hd m = false := fun m hm => by
    cases hh : s.hd with
    | none => rfl
    | some k =>
      have : k = r.length := Decidable.byContradiction fun y => hc ⟨by rw [hh]; rfl, fun z => y (by rw [hh] at z; exact Option.some.inj z)⟩
      simp [heldI, this]; omega
  have htl : s.tl.length = r.length + 1 := by
    have := h.tl
    cases hh : s.hd with
    | none => rw [hh, hs] at this; simpa using this
    | some k =>
      have e : k = r.length := Decidable.byContradiction fun y => hc ⟨by rw [hh]; rfl, fun z => y (by rw [hh] at z; exact Option.some.inj z)⟩
      rw [hh] at this
      simp only at this
      omega
  have e : { fCls xs s (f.tv to) r.length with g := gClose s.g f r to } = ⟨gClose s.g f r to, s.tl.dropLast, none, s.told ++ cntT xs 10 (f.tv to) (s.tl.getLastD [])⟩ := by unfold fCls; rw [if_neg hc]
  rw [e]
  have eg : (gClose s.g f r to).st = r := by simp [gClose, hkp, gOn_false]
  refine ⟨?_, ?_, ?_, fun j hj => (by cases hj), fun i hi => ?_, fun i hi _ => ?_⟩
  · show (s.told ++ cntT xs 10 (f.tv to) (s.tl.getLastD [])).length + szS (gClose s.g f r to).st ≤ s.g.bd
    rw [eg, List.length_append]
    have := cntT_le xs 10 (f.tv to) (s.tl.getLastD [])
    omega
  · show FrI none (gClose s.g f r to).st (f.ix + 1)
    rw [eg]
    exact FrI.out hin (fun _ _ => rfl) f4
  · show s.tl.dropLast.length = (gClose s.g f r to).st.length
    rw [eg, List.length_dropLast]; omega
  · have hi : i < s.tl.dropLast.length := hi
    show CtB xs i s.tl.dropLast[i]
    rw [List.getElem_dropLast]
    exact h.ct i (by rw [List.length_dropLast] at hi; omega)
  have hi : i < s.tl.dropLast.length := hi
  show Zh xs s.tl.dropLast[i]
  rw [List.getElem_dropLast]
  rw [List.length_dropLast] at hi
  exact h.z i (by omega) (Or.inr (by omega))
theorem fOk_take {xs : List Sg} (hx : ∀ g ∈ xs, 0 < g.l.length) {s : Fw} (h : FOk xs s) {t : Tok} (ht : TokOk s.g.sh t) : FOk xs (fTake xs s t) := by
  unfold fTake
  by_cases h0 : t.k = 0
  · rw [if_pos h0]
    have := fOk_push hx h (gDat s.g t) (b := t.frm) (ht.k0 h0).2.2.2.2
    unfold fPush at this
    unfold gTake
    rw [if_pos h0]
    exact this
  rw [if_neg h0]
  by_cases h1 : t.k = 1
  · rw [if_pos h1]
    cases hs : s.g.st with
    | nil => exact h
    | cons f r =>
      have := fOk_cls h hs t.to
      simp only
      have e : gTake s.g t true = gClose s.g f r t.to := by unfold gTake; rw [if_neg h0, if_pos h1, hs]
      rw [e]; exact this
  rw [if_neg h1]
  by_cases h2 : t.k = 2
  · rw [if_pos h2]
    have e : gTake s.g t true = { s.g with nm := t.t } := by unfold gTake; rw [if_neg h0, if_neg h1, if_pos h2]
    rw [e]
    exact ⟨h.n, h.fr, h.tl, h.hd, h.ct, h.z⟩
  rw [if_neg h2]
  have P := fOk_push hx h (gDat s.g t) (b := t.frm) (ht.k3 (by have := ht.k; omega)).2.2.2.2
  have Q := fOk_cls P (f := ⟨gDat s.g t, s.g.ix, s.hd.isSome, []⟩) (r := s.g.st) rfl t.to
  have e : gTake s.g t s.hd.isSome = gClose { s.g with nm := [], bd := t.frm + 1 } (gBegin s.g t s.hd.isSome) s.g.st t.to := by unfold gTake; rw [if_neg h0, if_neg h1, if_neg h2]
  rw [e]
  have e2 : ({ fCls xs (fBeg xs s (gDat s.g t)) ((gBegin s.g t true).tv t.to) s.g.st.length with g := gClose { s.g with nm := [], bd := t.frm + 1 } (gBegin s.g t s.hd.isSome) s.g.st t.to } : Fw) = { fCls xs (fPush xs s (gDat s.g t) t.frm) ((⟨gDat s.g t, s.g.ix, s.hd.isSome, []⟩ : Fm).tv t.to) s.g.st.length with g := gClose (fPush xs s (gDat s.g t) t.frm).g ⟨gDat s.g t, s.g.ix, s.hd.isSome, []⟩ s.g.st t.to } := by
    unfold fPush fCls
    simp only
    split
    · rfl
    rfl
  rw [e2]; exact Q
end Tr
namespace Go.Proofs.YtcbadebjpogmlaaGreatDoor
open Go.RowKit Tr
structure GLay {X : Type} (T : TypeId) (o : Nat) (fb fc : Value) (gc : X → Value → Value → Value → Array Value) : Prop where
  c0 : ∀ {w : World} {g : Nat} {x : X} {a b c : Value}, Blk w g (gc x a b c) T → w.cell? ⟨g, o, none⟩ = some fb
  c1 : ∀ {w : World} {g : Nat} {x : X} {a b c : Value}, Blk w g (gc x a b c) T → w.cell? ⟨g, o + 1, none⟩ = some fc
  c2 : ∀ {w : World} {g : Nat} {x : X} {a b c : Value}, Blk w g (gc x a b c) T → w.cell? ⟨g, o + 2, none⟩ = some a
  c3 : ∀ {w : World} {g : Nat} {x : X} {a b c : Value}, Blk w g (gc x a b c) T → w.cell? ⟨g, o + 3, none⟩ = some b
  c4 : ∀ {w : World} {g : Nat} {x : X} {a b c : Value}, Blk w g (gc x a b c) T → w.cell? ⟨g, o + 4, none⟩ = some c
  s2 : ∀ {w : World} {g : Nat} {x : X} {a b c : Value} (v : Value), Blk w g (gc x a b c) T → Blk (w.setCell ⟨g, o + 2, none⟩ v) g (gc x v b c) T
  s3 : ∀ {w : World} {g : Nat} {x : X} {a b c : Value} (v : Value), Blk w g (gc x a b c) T → Blk (w.setCell ⟨g, o + 3, none⟩ v) g (gc x a v c) T
  s4 : ∀ {w : World} {g : Nat} {x : X} {a b c : Value} (v : Value), Blk w g (gc x a b c) T → Blk (w.setCell ⟨g, o + 4, none⟩ v) g (gc x a b v) T
structure GCb {X : Type} (g : Nat) (T : TypeId) (gc : X → Value → Value → Value → Array Value) (fb fc : Value) (S : World → (Nat → Prop) → X → Prop) (bk : X → Bool) (bg cl : X → List Fm → Fm → Nat → X → Prop) (OkB : X → List Fm → Fm → Nat → Prop) (OkC : X → List Fm → Fm → (Nat → Nat) → Prop) : Prop where
  lt : ∀ {w : World} {D : Nat → Prop} {x : X} {k : Nat}, S w D x → D k → k < w.heap.size
  keep : ∀ {w w' : World} {D : Nat → Prop} {x : X}, S w D x → Sm D w w' → w.heap.size ≤ w'.heap.size → S w' D x
  begins : ∃ N first cap, fb = .func (.func N) first cap ∧ (∀ args w, (callFunc N args).run Tryz.prog w = .ok (.enter N args) w) ∧
    ∀ {w : World} {D : Nat → Prop} {x : X} {A : Nat → Nat} {C : Nat → Prop} {bd : Nat} {r : List Fm} {f : Fm} {M : Nat → Prop} {a b c : Value}, S w D x → Blk w g (gc x a b c) T → FrM w A C bd (f :: r) [] M → r.length ≤ 8 → (∀ k, C k → k < w.heap.size) → (∀ k, D k → ¬ M k ∧ ¬ C k ∧ k ≠ g) → (¬ M g ∧ ¬ C g) → OkB x r f (A f.d.frm) →
      Calls Tryz.prog N (first.push (vpt (A f.d.frm)) ++ cap) w fun res w' => res = .returned (.bool (bk x)) ∧ ∃ D' x', bg x r f (A f.d.frm) x' ∧ S w' D' x' ∧ Blk w' g (gc x' a b c) T ∧ (∀ k, D' k → D k ∨ w.heap.size ≤ k) ∧ Fr (fun k => D k ∨ k = g) w w'
  closed : ∃ N first cap, fc = .func (.func N) first cap ∧ (∀ args w, (callFunc N args).run Tryz.prog w = .ok (.enter N args) w) ∧
    ∀ {w : World} {D : Nat → Prop} {x : X} {A : Nat → Nat} {C : Nat → Prop} {bd : Nat} {r : List Fm} {f : Fm} {M : Nat → Prop} {a b c : Value}, S w D x → Blk w g (gc x a b c) T → FrM w A C bd (f :: r) [] M → r.length ≤ 8 → (∀ k, C k → k < w.heap.size) → (∀ k, D k → ¬ M k ∧ ¬ C k ∧ k ≠ g) → (¬ M g ∧ ¬ C g) → OkC x r f A →
      Calls Tryz.prog N (first.push (vpt (A f.d.frm)) ++ cap) w fun res w' => res = .returned (.tuple #[]) ∧ ∃ D' x', cl x r f (A f.d.frm) x' ∧ S w' D' x' ∧ Blk w' g (gc x' a b c) T ∧ (∀ k, D' k → D k ∨ w.heap.size ≤ k) ∧ Fr (fun k => D k ∨ k = g) w w'
theorem parP_ptr (A : Nat → Nat) (r : List Fm) : ∃ po, parP A r = .pointer po := by
  cases r with
  | nil => exact ⟨_, rfl⟩
  | cons f q => exact ⟨_, rfl⟩
def Fm.ends (f : Fm) (to : Nat) : Fm := { f with d := { f.d with to := to } }
theorem FrM.setTo {w : World} {A : Nat → Nat} {C : Nat → Prop} {bd : Nat} {f : Fm} {r : List Fm} {ex : List Value} {M : Nat → Prop} (h : FrM w A C bd (f :: r) ex M) (to : Nat) : FrM (w.setCell ⟨A f.d.frm, 2, none⟩ (.int .i64 (to : Nat))) A C bd (Fm.ends f to :: r) ex M := by
  obtain ⟨sv, M', h1, h2, h3, h4, h5⟩ := h
  have kb : ∀ k, k ≠ A f.d.frm → (w.setCell ⟨A f.d.frm, 2, none⟩ (.int .i64 (to : Nat))).heap[k]? = w.heap[k]? := fun k hk => Below.heap_setCell _ _ _ _ (fun e => hk e)
  have kC : Sm C w (w.setCell ⟨A f.d.frm, 2, none⟩ (.int .i64 (to : Nat))) := fun k hk => kb k (fun e => h1.nc.1 (e ▸ hk))
  refine ⟨sv, M', ⟨h1.b.set 2 _, own_at' h1.o (fun k hk => kb k (fun e => h1.nb (e ▸ hk))), ⟨h1.d.k, h1.d.w, h1.d.s, h1.d.n⟩, fun i hi => ⟨(h1.ks i hi).1.keep kC, (h1.ks i hi).2⟩, h1.nb, h1.nc, h1.fr⟩, h2, h3, h4, ?_⟩
  exact h5.keep kC (fun k hk => kb k (fun e => h3 (e ▸ hk)))
def ClP {X : Type} (g : Nat) (T : TypeId) (gc : X → Value → Value → Value → Array Value) (S : World → (Nat → Prop) → X → Prop) (A : Nat → Nat) (C : Nat → Prop) (bd : Nat) (f : Fm) (r : List Fm) (M D : Nat → Prop) (R : X → Prop) (nm : Value) (w : World) (res : Ending) (w' : World) : Prop :=
  res = .returned (.tuple #[]) ∧ ∃ D' x', R x' ∧ S w' D' x' ∧ Blk w' g (gc x' (parP A r) nm (.int .i64 ((f.ix : Int) + 1))) T ∧ FrM w' A C bd (f :: r) [] M ∧ (∀ k, D' k → D k ∨ w.heap.size ≤ k) ∧ Fr (fun k => D k ∨ M k ∨ k = g) w w'
set_option maxHeartbeats 2000000 in
set_option maxRecDepth 100000 in
theorem g_close {X : Type} {g : Nat} {T : TypeId} {o : Nat} {gc : X → Value → Value → Value → Array Value} {fb fc : Value} {S : World → (Nat → Prop) → X → Prop} {bk : X → Bool} {bg cl : X → List Fm → Fm → Nat → X → Prop} {OkB : X → List Fm → Fm → Nat → Prop} {OkC : X → List Fm → Fm → (Nat → Nat) → Prop} (hL : GLay T o fb fc gc) (hG : GCb g T gc fb fc S bk bg cl OkB OkC)
    {w : World} {D : Nat → Prop} {x : X} {A : Nat → Nat} {C : Nat → Prop} {bd : Nat} {r : List Fm} {f : Fm} {M : Nat → Prop} {a nm ixv : Value} (hS : S w D x) (hB : Blk w g (gc x a nm ixv) T) (hM : FrM w A C bd (f :: r) [] M) (hr : r.length ≤ 8) (hC : ∀ k, C k → k < w.heap.size) (hdj : ∀ k, D k → ¬ M k ∧ ¬ C k ∧ k ≠ g) (hg : ¬ M g ∧ ¬ C g) (hix : f.ix ≤ 4000000) (to : Nat) (hOk : OkC x r (Fm.ends f to) A) :
    Calls Tryz.prog 73 #[.pointer (some ⟨g, o, none⟩), vpt (A f.d.frm), .int .i64 (to : Nat)] w (ClP g T gc S A C bd (Fm.ends f to) r M D (cl x r (Fm.ends f to) (A f.d.frm)) nm w) := by
  obtain ⟨N, first, cap, hfc, hE, hcall⟩ := hG.closed
  have hM1 := hM.setTo to
  obtain ⟨sv, M', h1, h2, _⟩ := hM
  have hMv : M (A f.d.frm) := (h2 _).2 (Or.inl rfl)
  have hgv : g ≠ A f.d.frm := fun e => hg.1 (e ▸ hMv)
  have fzv := h1.b.fz
  have fzg := hB.fz
  have hpar : Hid (parP A r = parP A r) := rfl
  obtain ⟨b, hb⟩ : ∃ b, b = A f.d.frm := ⟨_, rfl⟩
  rw [← hb] at hM1 hMv hgv fzv ⊢
  have b1 : Blk w b (pcl f.d (parP A r) f.ix sv) 130 := by rw [hb]; exact h1.b
  have k1 : Fr (fun k => k = b) w (w.setCell ⟨b, 2, none⟩ (.int .i64 (to : Nat))) := (Fr.refl (fun k => k = b) w).setCell ⟨b, 2, none⟩ (Or.inl rfl) _
  have d5 : (w.setCell ⟨b, 2, none⟩ (.int .i64 (to : Nat))).cell? ⟨b, 5, none⟩ = some (parP A r) := (b1.set 2 _).cell 5
  have B1 := hB.fr k1 hgv
  obtain ⟨w1, hw1⟩ : ∃ w1, w1 = w.setCell ⟨b, 2, none⟩ (.int .i64 (to : Nat)) := ⟨_, rfl⟩
  have b2 : Blk w1 b (pcl { f.d with to := to } (parP A r) f.ix sv) 130 := by rw [hw1]; exact b1.set 2 _
  rw [← hw1] at hM1 k1 d5 B1
  have S1 : S w1 D x := hG.keep hS (fun k hk => k1.block k (hG.lt hS hk) (fun e => (hdj k hk).1 (e ▸ hMv))) k1.size
  have fz1 := B1.fz
  have t1 := hL.c2 B1
  have t0 : w.cell? ⟨b, 2, none⟩ = some (.int .i64 (f.d.to : Nat)) := b1.cell 2
  have k2 : Fr (fun k => k = g) w1 (w1.setCell ⟨g, o + 2, none⟩ (parP A r)) := (Fr.refl (fun k => k = g) w1).setCell ⟨g, o + 2, none⟩ (Or.inl rfl) _
  have B2 := hL.s2 (parP A r) B1
  have b3 := b2.fr k2 (fun e => hgv e.symm)
  have d6 : (w1.setCell ⟨g, o + 2, none⟩ (parP A r)).cell? ⟨b, 6, none⟩ = some (.int .i64 (f.ix : Nat)) := b3.cell 6
  obtain ⟨w2, hw2⟩ : ∃ w2, w2 = w1.setCell ⟨g, o + 2, none⟩ (parP A r) := ⟨_, rfl⟩
  rw [← hw2] at k2 B2 b3 d6
  have fz2 := B2.fz
  have t2 := hL.c4 B2
  have k3 : Fr (fun k => k = g) w2 (w2.setCell ⟨g, o + 4, none⟩ (.int .i64 ((f.ix : Int) + 1))) := (Fr.refl (fun k => k = g) w2).setCell ⟨g, o + 4, none⟩ (Or.inl rfl) _
  have B3 := hL.s4 (.int .i64 ((f.ix : Int) + 1)) B2
  have d1 := hL.c1 B3
  obtain ⟨w3, hw3⟩ : ∃ w3, w3 = w2.setCell ⟨g, o + 4, none⟩ (.int .i64 ((f.ix : Int) + 1)) := ⟨_, rfl⟩
  rw [← hw3] at k3 B3 d1
  have hsz : w.heap.size = w1.heap.size := by rw [hw1]; simp [World.setCell]
  have k13 : Fr (fun k => k = g) w1 w3 := k2.trans k3
  have S3 : S w3 D x := hG.keep S1 (fun k hk => k13.block k (hG.lt S1 hk) (fun e => (hdj k hk).2.2 e)) k13.size
  have hC1 : ∀ k, C k → k < w1.heap.size := fun k hk => by rw [← hsz]; exact hC k hk
  have M3 : FrM w3 A C bd (Fm.ends f to :: r) [] M := hM1.fr hC1 k13 (fun k e => by rw [e]; exact hg)
  have CC := hide (hcall S3 B3 M3 hr (fun k hk => Nat.lt_of_lt_of_le (hC1 k hk) k13.size) hdj hg hOk)
  rw [← show A f.d.frm = A (Fm.ends f to).d.frm from rfl, ← hb] at CC
  have HM := hide M3
  have hC3 : Hid (∀ k, C k → k < w3.heap.size) := fun k hk => Nat.lt_of_lt_of_le (hC1 k hk) k13.size
  have HDJ := hide hdj
  have HG := hide hg
  have FF : Hid (Fr (fun k => D k ∨ M k ∨ k = g) w w3) := (k1.mono (fun k _ e => Or.inr (Or.inl (e ▸ hMv)))).trans (k13.mono (fun k _ e => Or.inr (Or.inr e)))
  have hwi : IntKind.i64.wrap ((f.ix : Int) + 1) = (f.ix : Int) + 1 := by rw [IntWalk.i64_in _ (by omega)]
  rw [hw3, hw2, hw1] at d1
  rw [hw2, hw1] at d6 fz2 t2
  rw [hw1] at d5 fz1 t1
  obtain ⟨po, hpo⟩ := parP_ptr A r
  rw [hpo] at d1 d5 d6 fz2 t2 hw2
  have HW1 := hide hw1
  have HW2 := hide hw2
  have HW3 := hide hw3
  clear hS hB hr hC hdj hg hOk hcall hM1 h1 h2 hMv b1 b2 b3 k1 k2 k3 k13 S1 S3 M3 B1 B2 B3 hC1 hsz hw1 hw2 hw3 hpar hix hb hpo
  subst hfc
  unfold vpt
  go_enter Tryz.func73, Tryz.ntmps73
  go_wp2
  rw [← HW1.out, ← HW2.out, ← HW3.out]
  refine CC.out.mono ?_
  rintro res w4 ⟨rfl, D', x', hx4, s4, bl4, d4, f4⟩
  have X4 := hide hx4
  have S4 := hide s4
  have BL4 := hide bl4
  have F4 := hide f4
  have D4 := hide d4
  clear hx4 s4 bl4 d4 f4
  go_wp2
  go_end0
  refine ⟨rfl, D', x', X4.out, S4.out, BL4.out, HM.out.fr hC3.out F4.out (fun k e => ?_), fun k hk => ?_, FF.out.trans (F4.out.mono (fun k _ e => ?_))⟩
  · rcases e with e | e
    · exact ⟨(HDJ.out k e).1, (HDJ.out k e).2.1⟩
    rw [e]; exact HG.out
  · rcases D4.out k hk with e | e
    · exact Or.inl e
    exact Or.inr (Nat.le_trans FF.out.size e)
  rcases e with e | e
  · exact Or.inl e
  exact Or.inr (Or.inr e)
end Go.Proofs.YtcbadebjpogmlaaGreatDoor
namespace Go.Proofs.YtcbadebjpogmlaaGreatDoor
open Go.RowKit Tr
theorem begin_cells {g : Gs} {t : Tok} {s : Sh} (ht : TokOk s t) (hk : t.k = 0 ∨ t.k = 3) (par : Value) (ix : Nat) : pcl (gDat g t) par ix (.slice none 0 0) = #[.int .i64 (t.of : Nat), .int .i64 (t.frm : Nat), .int .i64 0, .int .i64 t.n, .string (bsb (tkx t.k t.t)), par, .int .i64 (ix : Nat), .string (bsb g.nm), .slice none 0 0] := by
  have h6 := ht.of
  have e1 : pkd (gDat g t) = t.of := by
    have : t.of = 0 ∨ t.of = 1 ∨ t.of = 2 ∨ t.of = 3 ∨ t.of = 4 ∨ t.of = 5 ∨ t.of = 6 := by omega
    rcases this with e | e | e | e | e | e | e <;> simp [pkd, gDat, kOf, sOf, e, wTrue, wFalse, wNull]
  have e2 : ptx (gDat g t) = tkx t.k t.t := by
    unfold ptx tkx
    by_cases h4 : t.of = 4
    · have k3 : t.k = 3 := by
        rcases hk with x | x
        · have := (ht.k0 x).1; omega
        exact x
      simp [gDat, kOf, sOf, h4, k3]
    have : t.t = [] := by
      rcases hk with x | x
      · exact (ht.k0 x).2.2.2.1
      exact (ht.k3 x).2.2.1 h4
    have hk2 : (gDat g t).kind ≠ 2 := by
      have : t.of = 0 ∨ t.of = 1 ∨ t.of = 2 ∨ t.of = 3 ∨ t.of = 5 ∨ t.of = 6 := by omega
      rcases this with e | e | e | e | e | e <;> simp [gDat, kOf, e]
    rw [if_neg hk2, this]
    simp
  unfold pcl
  rw [e1, e2]
  rfl
theorem gDat_ok {g : Gs} {t : Tok} {s : Sh} (ht : TokOk s t) (hk : t.k = 0 ∨ t.k = 3) : DOk (gDat g t) := by
  have h6 := ht.of
  have : t.of = 0 ∨ t.of = 1 ∨ t.of = 2 ∨ t.of = 3 ∨ t.of = 4 ∨ t.of = 5 ∨ t.of = 6 := by omega
  have hn : t.of ≠ 3 → t.n = 0 := fun x => by
    rcases hk with y | y
    · exact (ht.k0 y).2.2.1
    exact (ht.k3 y).2.2.2.1 x
  refine ⟨?_, ?_, ?_, ?_⟩
  · rcases this with e | e | e | e | e | e | e <;> simp [gDat, kOf, e]
  · rcases this with e | e | e | e | e | e | e <;> simp [gDat, kOf, sOf, e]
  · rcases this with e | e | e | e | e | e | e <;> simp [gDat, kOf, sOf, e]
  rcases this with e | e | e | e | e | e | e <;> first | (intro _; exact hn (by omega)) | (simp [gDat, kOf, e])
theorem FrM.kpNil {w : World} {A : Nat → Nat} {C : Nat → Prop} {bd : Nat} {f : Fm} {M : Nat → Prop} (h : FrM w A C bd [f] [] M) (kp : Bool) : FrM w A C bd [{ f with kp := kp }] [] M := by
  obtain ⟨sv, M', h1, h2, h3, h4, h5⟩ := h
  exact ⟨sv, M', ⟨h1.b, h1.o, h1.d, h1.ks, h1.nb, h1.nc, h1.fr⟩, h2, h3, h4, h5⟩
theorem FrM.top {w : World} {A : Nat → Nat} {C : Nat → Prop} {bd : Nat} {f p : Fm} {q : List Fm} {M : Nat → Prop} (h : FrM w A C bd (f :: p :: q) [] M) (hkp : f.kp = false) (hC : ∀ k, C k → k < w.heap.size) : ∃ a2 c2,
    Blk w (A p.d.frm) (pcl p.d (parP A q) p.ix (.slice a2 p.ws.length c2)) 130 ∧ w.ownsRow 0 71 1 (.slice a2 p.ws.length c2) p.ws.length (p.ws.map (pvp A)) ∧ (Value.slice a2 p.ws.length c2).ownBlock ≠ some (A p.d.frm) ∧ (M (A p.d.frm) ∧ A p.d.frm ≠ A f.d.frm) ∧ (∀ k, (Value.slice a2 p.ws.length c2).ownBlock = some k → M k ∧ k ≠ A f.d.frm) ∧
    ∀ (w1 w2 : World) (v' : Value), Keeps w w1 → w1.grownBy w2 (Value.slice a2 p.ws.length c2).ownBlock → w2.ownsRow 0 71 1 v' (p.ws.length + 1) (p.ws.map (pvp A) ++ [vpt (A f.d.frm)]) → (v'.ownBlock = (Value.slice a2 p.ws.length c2).ownBlock ∨ v'.ownBlock = some w1.heap.size) →
      ∃ M2, FrM (w2.setCell ⟨A p.d.frm, 8, none⟩ v') A C bd ({ f with kp := true } :: p :: q) [] M2 ∧ (∀ k, M2 k → M k ∨ w.heap.size ≤ k) ∧ Fr (fun k => k = A p.d.frm ∨ (Value.slice a2 p.ws.length c2).ownBlock = some k) w (w2.setCell ⟨A p.d.frm, 8, none⟩ v') := by
  obtain ⟨sv, M', h1, h2, h3, h4, sv2, M2, g1, g2, g3, g4, g5⟩ := h
  rw [hkp] at g1
  simp only [Bool.false_eq_true, if_false] at g1
  obtain ⟨a2, c2, hsv⟩ := own_slice g1.o
  simp only [List.length_nil, Nat.add_zero] at hsv
  subst hsv
  have ho := g1.o
  simp only [List.length_nil, Nat.add_zero, List.append_nil] at ho
  have hpM : M' (A p.d.frm) := (g2 _).2 (Or.inl rfl)
  refine ⟨a2, c2, g1.b, ho, g1.nb, ⟨(h2 _).2 (Or.inr (Or.inr hpM)), fun e => h3 (e ▸ hpM)⟩, fun k hk => ?_, fun w1 w2 v' k1 hg hov hvb => ?_⟩
  · have hm : M' k := (g2 k).2 (Or.inr (Or.inl hk))
    exact ⟨(h2 k).2 (Or.inr (Or.inr hm)), fun e => h3 (e ▸ hm)⟩
  obtain ⟨r1, r2⟩ := FrM.kept h1 h3 h4 g1 g2 g3 g4 g5 hC k1 hg hov hvb
  refine ⟨_, r1, fun k hk => ?_, r2⟩
  rcases hk with x | x | x | x | x
  · exact Or.inl ((h2 k).2 (Or.inl x))
  · exact Or.inl ((h2 k).2 (Or.inr (Or.inl x)))
  · exact Or.inl ((h2 k).2 (Or.inr (Or.inr ((g2 k).2 (Or.inl x)))))
  · rcases hvb with y | y
    · exact Or.inl ((h2 k).2 (Or.inr (Or.inr ((g2 k).2 (Or.inr (Or.inl (y ▸ x)))))))
    have e1 : w1.heap.size = k := Option.some.inj (y.symm.trans x)
    have := k1.size
    exact Or.inr (by omega)
  exact Or.inl ((h2 k).2 (Or.inr (Or.inr ((g2 k).2 (Or.inr (Or.inr x))))))
def BgP {X : Type} (g : Nat) (T : TypeId) (gc : X → Value → Value → Value → Array Value) (S : World → (Nat → Prop) → X → Prop) (A : Nat → Nat) (C : Nat → Prop) (f : Fm) (r : List Fm) (M D : Nat → Prop) (bg : X → List Fm → Fm → Nat → X → Prop) (x : X) (ixv : Value) (w : World) (res : Ending) (w' : World) : Prop :=
  ∃ b A' M' D' x', res = .returned (vpt b) ∧ w.heap.size ≤ b ∧ A' f.d.frm = b ∧ (∀ k, k < f.d.frm → A' k = A k) ∧ bg x r { f with kp := false } b x' ∧ S w' D' x' ∧ Blk w' g (gc x' (parP A r) (.string (bsb [])) ixv) T ∧ FrM w' A' C (f.d.frm + 1) (f :: r) [] M' ∧
    (∀ k, M' k → M k ∨ w.heap.size ≤ k) ∧ (∀ k, D' k → D k ∨ w.heap.size ≤ k) ∧ (∀ k, D' k → ¬ M' k) ∧ Fr (fun k => D k ∨ M k ∨ k = g) w w'
theorem bg_fin {X : Type} {g : Nat} {T : TypeId} {gc : X → Value → Value → Value → Array Value} {S : World → (Nat → Prop) → X → Prop} {A A' : Nat → Nat} {C : Nat → Prop} {f : Fm} {r : List Fm} {M M1 M2 D D' K : Nat → Prop} {bg : X → List Fm → Fm → Nat → X → Prop} {x : X} {ixv : Value} {w w3 w5 : World} {b : Nat}
    (keep : ∀ {w w' : World} {D : Nat → Prop} {x : X}, S w D x → Sm D w w' → w.heap.size ≤ w'.heap.size → S w' D x) (hwb : w.heap.size ≤ b) (a1 : A' f.d.frm = b) (a2 : ∀ k, k < f.d.frm → A' k = A k) {x' : X} (hbg : bg x r { f with kp := false } b x') (s3 : S w3 D' x') (b3 : Blk w3 g (gc x' (parP A r) (.string (bsb [])) ixv) T)
    (fr3 : Fr (fun k => D k ∨ M k ∨ k = g) w w3) (d3 : ∀ k, D' k → D k ∨ w.heap.size ≤ k) (dl : ∀ k, D' k → k < w3.heap.size) (dm : ∀ k, D' k → ¬ M1 k) (r1 : FrM w5 A' C (f.d.frm + 1) (f :: r) [] M2) (r2 : ∀ k, M2 k → M1 k ∨ w3.heap.size ≤ k) (m1 : ∀ k, M1 k → M k ∨ w.heap.size ≤ k) (r3 : Fr K w3 w5) (kK : ∀ k, K k → M k ∧ M1 k) (hgM : ¬ M1 g) :
    BgP g T gc S A C f r M D bg x ixv w (.returned (vpt b)) w5 :=
  ⟨b, A', M2, D', x', rfl, hwb, a1, a2, hbg, keep s3 (fun k hk => r3.block k (dl k hk) (fun e => dm k hk (kK k e).2)) r3.size, b3.fr r3 (fun e => hgM (kK g e).2), r1, fun k hk => (r2 k hk).elim (m1 k) (fun y => Or.inr (Nat.le_trans fr3.size y)), d3, fun k hk e => (r2 k e).elim (dm k hk) (fun y => by have := dl k hk; omega), fr3.trans (r3.mono (fun k _ e => Or.inr (Or.inl (kK k e).1)))⟩
end Go.Proofs.YtcbadebjpogmlaaGreatDoor
namespace Go.Proofs.YtcbadebjpogmlaaGreatDoor
open Go.RowKit Tr
structure GI {X : Type} (g : Nat) (T : TypeId) (gc : X → Value → Value → Value → Array Value) (S : World → (Nat → Prop) → X → Prop) (w : World) (gs : Gs) (x : X) (A : Nat → Nat) (C M D : Nat → Prop) : Prop where
  s : S w D x
  b : Blk w g (gc x (parP A gs.st) (.string (bsb gs.nm)) (.int .i64 (gs.ix : Nat))) T
  m : FrM w A C gs.bd gs.st [] M
  ok : GOk gs
  p : pthOk gs.st
  c : ∀ k, C k → k < w.heap.size
  dj : ∀ k, D k → ¬ M k ∧ ¬ C k ∧ k ≠ g
  g : ¬ M g ∧ ¬ C g
  l : gs.st = [] → ∀ t, gs.last = some t → (∃ ix, ix ≤ 4000000 ∧ PT w A C 10 (.pointer none) ix t) ∧ FB gs.bd 10 t ∧ t.d.path = [36]
theorem GI.keeps {X : Type} {g : Nat} {T : TypeId} {gc : X → Value → Value → Value → Array Value} {fb fc : Value} {S : World → (Nat → Prop) → X → Prop} {bk : X → Bool} {bg cl : X → List Fm → Fm → Nat → X → Prop} {OkB : X → List Fm → Fm → Nat → Prop} {OkC : X → List Fm → Fm → (Nat → Nat) → Prop} (hG : GCb g T gc fb fc S bk bg cl OkB OkC) {w w' : World} {gs : Gs} {x : X} {A : Nat → Nat} {C M D : Nat → Prop} (h : GI g T gc S w gs x A C M D) (f : Keeps w w') : GI g T gc S w' gs x A C M D :=
  ⟨hG.keep h.s (fun k hk => f.block k (hG.lt h.s hk) id) f.size, h.b.fr f id, h.m.fr h.c f (fun _ e => e.elim), h.ok, h.p, fun k hk => Nat.lt_of_lt_of_le (h.c k hk) f.size, h.dj, h.g, fun h0 t ht => ⟨(h.l h0 t ht).1.imp (fun _ y => ⟨y.1, y.2.keep (fun k hk => f.block k (h.c k hk) id)⟩), (h.l h0 t ht).2⟩⟩
def gX {X : Type} (bk : X → Bool) (bg cl : X → List Fm → Fm → Nat → X → Prop) (x : X) (gs : Gs) (t : Tok) (A : Nat → Nat) (n : Nat) (x' : X) : Prop :=
  if t.k = 0 then bg x gs.st (gBegin gs t false) (A t.frm) x'
  else if t.k = 1 then (match gs.st with
    | [] => x' = x
    | f :: r => cl x r (Fm.ends f t.to) (A f.d.frm) x')
  else if t.k = 2 then x' = x
  else ∃ x1, n ≤ A t.frm ∧ bg x gs.st (gBegin gs t false) (A t.frm) x1 ∧ cl x1 gs.st (Fm.ends (gBegin gs t (bk x)) t.to) (A t.frm) x'
def TkP {X : Type} (g : Nat) (T : TypeId) (gc : X → Value → Value → Value → Array Value) (S : World → (Nat → Prop) → X → Prop) (bk : X → Bool) (bg cl : X → List Fm → Fm → Nat → X → Prop) (x : X) (gs : Gs) (t : Tok) (A : Nat → Nat) (C M D : Nat → Prop) (w : World) (res : Ending) (w' : World) : Prop :=
  res = .returned (.tuple #[]) ∧ ∃ A' C' M' D' x', gX bk bg cl x gs t A' w.heap.size x' ∧ GI g T gc S w' (gTake gs t (bk x)) x' A' C' M' D' ∧ (∀ k, k < gs.bd → A' k = A k) ∧ (∀ k, D' k ∨ M' k ∨ C' k → D k ∨ M k ∨ C k ∨ w.heap.size ≤ k) ∧ Fr (fun k => D k ∨ M k ∨ k = g) w w'
theorem gOn_par (A : Nat → Nat) (r : List Fm) (kp : Bool) (t : Tv) : parP A (gOn r kp t) = parP A r := by
  cases r with
  | nil => rfl
  | cons p q => show vpt (A (gKeep p kp t).d.frm) = vpt (A p.d.frm); unfold gKeep; split <;> rfl
theorem pthOk_on {r : List Fm} (h : pthOk r) (kp : Bool) (t : Tv) : pthOk (gOn r kp t) := by
  cases r with
  | nil => trivial
  | cons p q =>
    show pthOk (gKeep p kp t :: q)
    unfold gKeep
    split
    · exact h
    exact h
theorem gi_close {X : Type} {g : Nat} {T : TypeId} {gc : X → Value → Value → Value → Array Value} {S : World → (Nat → Prop) → X → Prop} {w' : World} {gs : Gs} {x' : X} {A : Nat → Nat} {C M D' : Nat → Prop} {f : Fm} {r : List Fm} {bd to : Nat} {nm : List UInt8}
    (hs : S w' D' x') (hb : Blk w' g (gc x' (parP A r) (.string (bsb nm)) (.int .i64 ((f.ix : Int) + 1))) T) (hm : FrM w' A C bd (Fm.ends f to :: r) [] M) (hl : r.length ≤ 8) (hi4 : f.ix ≤ 4000000) (hws : f.ws.length ≤ 4000000) (hix : f.kp = true → ∀ p q, r = p :: q → f.ix = p.ws.length) (hp : f.d.path = gPath r f.ix f.d.name) (hpr : pthOk r) (hc : ∀ k, C k → k < w'.heap.size)
    (hdj : ∀ k, D' k → ¬ M k ∧ ¬ C k ∧ k ≠ g) (hg : ¬ M g ∧ ¬ C g) (hgs : gs = ⟨gOn r f.kp (f.tv to), nm, f.ix + 1, bd, some (f.tv to)⟩) (hok : GOk gs) : ∃ C' M', GI g T gc S w' gs x' A C' M' D' ∧ (∀ k, C' k → C k ∨ M k) ∧ (∀ k, M' k → M k) := by
  obtain ⟨C', M', c1, c2, c3, c4, c5, c6⟩ := hm.close hl hws hix hp
  refine ⟨C', M', ⟨hs, ?_, ?_, hok, ?_, fun k hk => ?_, fun k hk => ⟨fun e => (hdj k hk).1 (c3 k e), fun e => ?_, (hdj k hk).2.2⟩, ⟨fun e => hg.1 (c3 g e), fun e => (c1 g e).elim hg.2 hg.1⟩, fun h0 t ht => ?_⟩, c1, c3⟩
  · rw [hgs, gOn_par]; exact hb
  · rw [hgs]; exact c4
  · rw [hgs]; exact pthOk_on hpr _ _
  · rcases c1 k hk with e | e
    · exact hc k e
    exact (hm.lt k e).1
  · rcases c1 k e with y | y
    · exact (hdj k hk).2.1 y
    exact (hdj k hk).1 y
  have hr : r = [] := by
    cases r with
    | nil => rfl
    | cons p q => rw [hgs] at h0; simp [gOn] at h0
  have et : f.tv to = t := by rw [hgs] at ht; exact Option.some.inj ht
  rw [← et, hgs]
  subst hr
  exact ⟨⟨_, hi4, c5⟩, c6, hp⟩
end Go.Proofs.YtcbadebjpogmlaaGreatDoor
