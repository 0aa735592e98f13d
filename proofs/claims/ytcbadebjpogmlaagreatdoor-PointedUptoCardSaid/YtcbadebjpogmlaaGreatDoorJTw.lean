import Derived.Test.YtcbadebjpogmlaaGreatDoorJTu
import Derived.Test.YtcbadebjpogmlaaGreatDoorJGg
import Derived.Test.YtcbadebjpogmlaaGreatDoorJFb
import Derived.Test.YtcbadebjpogmlaaGreatDoorJAf
import Derived.Test.YtcbadebjpogmlaaGreatDoorJTm
namespace Go.Proofs.YtcbadebjpogmlaaGreatDoor
open Go.RowKit Tr
theorem fTake_g (xs : List Sg) (s : Fw) (t : Tok) : (fTake xs s t).g = gTake s.g t s.hd.isSome := by
  unfold fTake
  by_cases k0 : t.k = 0
  · rw [if_pos k0]
  rw [if_neg k0]
  by_cases k1 : t.k = 1
  · rw [if_pos k1]
    unfold gTake
    rw [if_neg k0, if_pos k1, if_neg k0, if_pos k1]
    cases hs : s.g.st with
    | nil => rfl
    | cons f r => rfl
  rw [if_neg k1]
  by_cases k2 : t.k = 2
  · rw [if_pos k2]
    unfold gTake
    rw [if_neg k0, if_neg k1, if_pos k2, if_neg k0, if_neg k1, if_pos k2]
  rw [if_neg k2]
def HdR (A : Nat → Nat) (st : List Fm) (h xh : Option Nat) : Prop := match h with
  | none => xh = none
  | some k => ∃ a g c, st = a ++ g :: c ∧ c.length = k ∧ xh = some (A g.d.frm)
theorem HdR.some_eq {A : Nat → Nat} {st : List Fm} {h xh : Option Nat} (H : HdR A st h xh) : xh.isSome = h.isSome := by
  cases h with
  | none => have : xh = none := H; rw [this]
  | some k => obtain ⟨_, _, _, _, _, e⟩ := H; rw [e]; rfl
theorem HdR.upd {A A' : Nat → Nat} {st : List Fm} {h xh : Option Nat} (H : HdR A st h xh) (hA : ∀ g ∈ st, A' g.d.frm = A g.d.frm) : HdR A' st h xh := by
  cases h with
  | none => exact H
  | some k => obtain ⟨a, g, c, e, hc, e2⟩ := H; exact ⟨a, g, c, e, hc, by rw [e2, hA g (by rw [e]; simp)]⟩
theorem HdR.push {A : Nat → Nat} {st : List Fm} {k : Nat} {xh : Option Nat} (H : HdR A st (some k) xh) (f : Fm) : HdR A (f :: st) (some k) xh := by
  obtain ⟨a, g, c, e, hc, e2⟩ := H
  exact ⟨f :: a, g, c, by rw [e]; rfl, hc, e2⟩
theorem HdR.on {A : Nat → Nat} {r : List Fm} {k : Nat} {xh : Option Nat} (H : HdR A r (some k) xh) (kp : Bool) (t : Tv) : HdR A (gOn r kp t) (some k) xh := by
  obtain ⟨a, g, c, e, hc, e2⟩ := H
  cases a with
  | nil =>
    refine ⟨[], gKeep g kp t, c, by rw [e]; rfl, hc, ?_⟩
    rw [e2]; unfold gKeep; split <;> rfl
  | cons p q => exact ⟨gKeep p kp t :: q, g, c, by rw [e]; rfl, hc, e2⟩
theorem ws_frm {bd : Nat} : ∀ {l : List Fm} {ix : Nat}, wsOk bd l ix → ∀ g ∈ l, g.d.frm < bd
  | f :: r, _, ⟨_, _, h3, _, _, h6⟩, g, hg => by
    rcases List.mem_cons.1 hg with e | e
    · rw [e]; exact h3
    exact ws_frm h6 g e
structure FI (b f : Nat) (tt : ByteArray) (xs : List Sg) (Dp : Nat → Prop) (H : Nat → Option Obj) (w : World) (s : Fw) (x : Fx) (A : Nat → Nat) (C M D : Nat → Prop) : Prop where
  g : GI f 170 (fgc b f) (FS b tt xs Dp H) w s.g x A C M D
  ok : FOk xs s
  nm : NmG s.g
  tl : x.tl = s.tl
  told : x.told = s.told
  hd : HdR A s.g.st s.hd x.hd
def FtP (b f : Nat) (tt : ByteArray) (xs : List Sg) (Dp : Nat → Prop) (H : Nat → Option Obj) (s' : Fw) (C M D : Nat → Prop) (w : World) (res : Ending) (w' : World) : Prop :=
  res = .returned (.tuple #[]) ∧ ∃ x' A' C' M' D', FI b f tt xs Dp H w' s' x' A' C' M' D' ∧ (∀ k, D' k ∨ M' k ∨ C' k → D k ∨ M k ∨ C k ∨ w.heap.size ≤ k) ∧ Fr (fun k => D k ∨ M k ∨ k = f) w w'
theorem fokC {xs : List Sg} {s : Fw} {tl : List (List Ct)} {hd : Option Nat} {told : List (Tv × Nat)} {tsv osv : Value} (ok : FOk xs s) (hbd : s.g.bd ≤ 4000000) (hp : pthOk s.g.st) (e1 : tl = s.tl) (e2 : told = s.told) {f : Fm} {r : List Fm} (hs : s.g.st = f :: r) (hk : s.hd = none ∨ s.hd = some r.length) (to : Nat) (nk : f.ws ≠ [] → f.d.kind = 4 ∨ f.d.kind = 5) (nf : f.d.name.length ≤ 4000000 ∧ (∀ c ∈ f.ws, ∀ v ∈ allT 9 c, NmV v)) (hw : f.ws.length ≤ 4000000) (hst : StkB (f :: r)) : FOkC xs ⟨tl, hd, told, tsv, osv⟩ r (Fm.ends f to) := by
  subst e1 e2
  have htl : s.tl.length = r.length + 1 := by
    have := ok.tl
    rcases hk with y | y
    · rw [y, hs] at this; simpa using this
    rw [y] at this; exact this
  have hne : s.tl ≠ [] := fun y => by rw [y] at htl; simp at htl
  have hfr := ok.fr
  rw [hs] at hfr hp
  refine ⟨htl, ?_, ?_, ?_, hw, ?_, hp, hst⟩
  · show CtB xs r.length (s.tl.getLastD [])
    rw [last_at s.tl [] hne]
    have e : s.tl.length - 1 = r.length := by omega
    have := ok.ct r.length (by omega)
    have e2 : s.tl[s.tl.length - 1]'(by omega) = s.tl[r.length]'(by omega) := by simp [e]
    rw [e2]
    exact this
  · show s.told.length + (allT 10 (f.tv to)).length ≤ 4000000
    have h1 := all_szF f to
    have h2 := ok.n
    rw [hs] at h2
    have : szS (f :: r) = szF f + szS r := by simp [szS]
    omega
  · exact nm_tv (d := { f.d with to := to }) (ws := f.ws) nf.1 nk nf.2
  show f.kp = false
  rw [hfr.1]
  rcases hk with y | y <;> rw [y] <;> simp [heldB]
set_option maxHeartbeats 1000000 in
theorem fi_take {b f : Nat} {tt : ByteArray} {xs : List Sg} {Dp : Nat → Prop} {H : Nat → Option Obj} (hx : xs.length ≤ 10) (hsel : selN xs ≤ 10) (hpos : ∀ g ∈ xs, 0 < g.l.length) {w : World} {s : Fw} {x : Fx} {A : Nat → Nat} {C M D : Nat → Prop} (h : FI b f tt xs Dp H w s x A C M D) {t : Tok} (ht : TokOk s.g.sh t) (hl : t.t.length ≤ 4000000) :
    Calls Tryz.prog 53 #[.pointer (some ⟨f, 1, none⟩), tagg t] w (FtP b f tt xs Dp H (fTake xs s t) C M D w) := by
  obtain ⟨tl, hd, told, tsv, osv⟩ := x
  have e1 : tl = s.tl := h.tl
  have e2 : told = s.told := h.told
  have hH : HdR A s.g.st s.hd hd := h.hd
  have his : hd.isSome = s.hd.isSome := hH.some_eq
  have hgo := h.g.ok
  have hix : s.g.ix ≤ 4000000 := by have := hgo.ix; have := hgo.bd; omega
  have stkr : StkB s.g.st := StkB.of (by have := hgo.bd; omega) hgo.ws h.nm.st
  have hfrm : ∀ g ∈ s.g.st, g.d.frm < s.g.bd := ws_frm hgo.ws
  have hmem : ∀ g ∈ s.g.st, M (A g.d.frm) := FrM.inj.memM h.g.m
  have stkB : ∀ kp, StkB (gBegin s.g t kp :: s.g.st) := fun kp => ⟨hix, h.nm.nm, fun p q e => (h.nm.st p (by rw [e]; simp)).2.1, stkr⟩
  have pthB : ∀ kp, pthOk (gBegin s.g t kp :: s.g.st) := fun kp => ⟨rfl, h.g.p⟩
  have hnone : hd = none → s.hd = none := fun e => by
    rw [e] at his
    cases hh : s.hd with
    | none => rfl
    | some k => rw [hh] at his; cases his
  refine (g_take (f_lay b f) (f_cb hx hsel) h.g ht (by show mayKeep s.g hd.isSome; rw [his]; exact h.ok.may) ?_ ?_ ?_).mono ?_
  · intro _ b' e
    have hs := hnone e
    subst e1
    have htl := h.ok.tl
    rw [hs] at htl
    exact ⟨htl, hix, fun i hi => ⟨h.ok.ct i hi, h.ok.z i hi (Or.inl hs)⟩⟩
  · intro k1 fm r hst
    refine ⟨fun hb e => ?_, fun hk => ?_⟩
    · have e : hd = some hb := e
      cases hh : s.hd with
      | none => rw [hh, e] at his; cases his
      | some k =>
        rw [hh, e] at hH
        obtain ⟨a, g, c, q1, q2, q3⟩ := hH
        have hg : g ∈ fm :: r := by rw [← hst, q1]; simp
        have q3 := Option.some.inj q3
        rcases List.mem_cons.1 hg with y | y
        · left; rw [q3, y]; rfl
        exact Or.inr ⟨g, y, q3⟩
    refine fokC h.ok hgo.bd h.g.p e1 e2 hst ?_ t.to (fun _ => (h.nm.st fm (by rw [hst]; simp)).2.1) ⟨(h.nm.st fm (by rw [hst]; simp)).1, (h.nm.st fm (by rw [hst]; simp)).2.2⟩ ?_ (by rw [← hst]; exact stkr)
    · rcases hk with y | y
      · exact Or.inl (hnone y)
      right
      have y : hd = some (A fm.d.frm) := y
      cases hh : s.hd with
      | none => rw [hh, y] at his; cases his
      | some k =>
        rw [hh, y] at hH
        obtain ⟨a, g, c, q1, q2, q3⟩ := hH
        rw [hst] at q1
        cases a with
        | nil =>
          have : r = c := by simpa using (List.cons.inj q1).2
          rw [← q2, this]
        | cons p q =>
          have hg : g ∈ r := by
            have := (List.cons.inj q1).2
            rw [this]; simp
          have hm := h.g.m
          rw [hst] at hm
          exact absurd (Option.some.inj q3).symm (FrM.inj hm g hg)
    have := hgo.ws
    rw [hst] at this
    have := this.1
    omega
  · intro k3 A' x1 hb hAA hbg
    refine ⟨fun hq e => ?_, fun hk => ?_⟩
    · unfold fbg at hbg
      cases hh : s.hd with
      | some k =>
        rw [if_pos (show hd.isSome = true by rw [his, hh]; rfl)] at hbg
        subst hbg
        have e : hd = some hq := e
        rw [hh, e] at hH
        obtain ⟨a, g, c, q1, q2, q3⟩ := hH
        have hg : g ∈ s.g.st := by rw [q1]; simp
        exact Or.inr ⟨g, hg, by rw [hAA _ (hfrm g hg)]; exact Option.some.inj q3⟩
      | none =>
        rw [if_neg (show ¬ hd.isSome = true by rw [his, hh]; simp)] at hbg
        obtain ⟨tsv', rfl⟩ := hbg
        left
        have e : fxH xs (fxT xs ⟨tl, hd, told, tsv, osv⟩ s.g.st (gBegin s.g t false)) (A' t.frm) = some hq := e
        unfold fxH at e
        split at e
        · exact (Option.some.inj e).symm
        cases e
    unfold fbg at hbg
    have k3' := ht.k3 k3
    cases hh : s.hd with
    | some k =>
      have hhd : hd.isSome = true := by rw [his, hh]; rfl
      rw [if_pos hhd] at hbg
      subst hbg
      exfalso
      rcases hk with y | y
      · have y : hd = none := y
        rw [y] at hhd; cases hhd
      have y : hd = some (A' t.frm) := y
      rw [hh, y] at hH
      obtain ⟨a, g, c, q1, q2, q3⟩ := hH
      have := (h.g.m.lt _ (hmem g (by rw [q1]; simp))).1
      have := Option.some.inj q3
      omega
    | none =>
      have hhd : ¬ hd.isSome = true := by rw [his, hh]; simp
      rw [if_neg hhd] at hbg
      obtain ⟨tsv', rfl⟩ := hbg
      have P := fOk_push hpos h.ok (gDat s.g t) (b := t.frm) k3'.2.2.2.2
      have hbd : s.g.sh.bd = s.g.bd := rfl
      have hfr := ht.frm
      have hws := hgo.ws.up (show s.g.bd ≤ t.frm + 1 by omega)
      have eP : fPush xs s (gDat s.g t) t.frm = ⟨⟨⟨gDat s.g t, s.g.ix, false, []⟩ :: s.g.st, [], 0, t.frm + 1, s.g.last⟩, s.tl ++ [fTly xs s (gDat s.g t)], (if headS xs < xs.length ∧ 0 < (ctAt (fTly xs s (gDat s.g t)) (headS xs)).its then some s.g.st.length else none), s.told⟩ := by unfold fPush fBeg; rw [hh]; simp
      have eT : fxT xs ⟨tl, hd, told, tsv, osv⟩ s.g.st (gBegin s.g t false) = fTly xs s (gDat s.g t) := by
        unfold fxT fTly
        cases s.g.st with
        | nil => rfl
        | cons p q => simp only [e1]; rfl
      have ekp : hd.isSome = false := by simpa using hhd
      show FOkC xs _ s.g.st (Fm.ends (gBegin s.g t hd.isSome) t.to)
      rw [ekp]
      refine fokC (s := fPush xs s (gDat s.g t) t.frm) (f := gBegin s.g t false) (r := s.g.st) P (by rw [eP]; simp only; omega) (by rw [eP]; exact pthB false) (by rw [eP, eT, e1]) (by rw [eP, e2]) (by rw [eP]; rfl) ?_ t.to (fun y => absurd rfl y) ⟨h.nm.nm, fun c hc => by cases hc⟩ (by simp [gBegin]) (stkB false)
      rw [eP]
      simp only
      split
      · exact Or.inr rfl
      exact Or.inl rfl
  rintro res w' ⟨rfl, A', C', M', D', x', qx, q1, q2, q3, q4⟩
  have q1' : GI f 170 (fgc b f) (FS b tt xs Dp H) w' (fTake xs s t).g x' A' C' M' D' := by
    rw [fTake_g, ← his]; exact q1
  have hnm : NmG (fTake xs s t).g := by rw [fTake_g]; exact nm_take h.nm ht hl
  have hA : ∀ g ∈ s.g.st, A' g.d.frm = A g.d.frm := fun g hg => q2 _ (hfrm g hg)
  have hH' : HdR A' s.g.st s.hd hd := hH.upd hA
  have REL : x'.tl = (fTake xs s t).tl ∧ x'.told = (fTake xs s t).told ∧ HdR A' (fTake xs s t).g.st (fTake xs s t).hd x'.hd := by
    have eg := fTake_g xs s t
    rw [eg]
    unfold gX at qx
    unfold fTake
    have eT : fxT xs ⟨tl, hd, told, tsv, osv⟩ s.g.st (gBegin s.g t false) = fTly xs s (gDat s.g t) := by
      unfold fxT fTly
      cases s.g.st with
      | nil => rfl
      | cons p q => simp only [e1]; rfl
    by_cases k0 : t.k = 0
    · rw [if_pos k0] at qx ⊢
      have est : (gTake s.g t s.hd.isSome).st = gBegin s.g t s.hd.isSome :: s.g.st := by unfold gTake; rw [if_pos k0]
      rw [est]
      unfold fbg at qx
      cases hh : s.hd with
      | some k =>
        rw [if_pos (show hd.isSome = true by rw [his, hh]; rfl)] at qx
        subst qx
        have e : fBeg xs s (gDat s.g t) = s := by unfold fBeg; rw [if_pos (by rw [hh]; rfl)]
        rw [e]
        refine ⟨e1, e2, ?_⟩
        show HdR A' _ s.hd hd
        rw [hh] at hH' ⊢
        exact hH'.push _
      | none =>
        rw [if_neg (show ¬ hd.isSome = true by rw [his, hh]; simp)] at qx
        obtain ⟨tsv', rfl⟩ := qx
        have e : fBeg xs s (gDat s.g t) = { s with tl := s.tl ++ [fTly xs s (gDat s.g t)], hd := if headS xs < xs.length ∧ 0 < (ctAt (fTly xs s (gDat s.g t)) (headS xs)).its then some s.g.st.length else none } := by unfold fBeg; rw [if_neg (by rw [hh]; simp)]
        rw [e, eT]
        refine ⟨by simp only [e1], e2, ?_⟩
        show HdR A' _ (if headS xs < xs.length ∧ 0 < (ctAt (fTly xs s (gDat s.g t)) (headS xs)).its then some s.g.st.length else none) (fxH xs (fTly xs s (gDat s.g t)) (A' t.frm))
        unfold fxH
        by_cases hc : headS xs < xs.length ∧ 0 < (ctAt (fTly xs s (gDat s.g t)) (headS xs)).its
        · rw [if_pos hc, if_pos hc]
          exact ⟨[], _, s.g.st, rfl, rfl, rfl⟩
        rw [if_neg hc, if_neg hc]; rfl
    rw [if_neg k0] at qx ⊢
    by_cases k1 : t.k = 1
    · rw [if_pos k1] at qx ⊢
      cases hst : s.g.st with
      | nil =>
        rw [hst] at qx
        subst qx
        refine ⟨e1, e2, ?_⟩
        have : (gTake s.g t s.hd.isSome).st = [] := by unfold gTake; rw [if_neg k0, if_pos k1, hst]; exact hst
        rw [this]; rw [hst] at hH'; exact hH'
      | cons fm r =>
        rw [hst] at qx
        have est : (gTake s.g t s.hd.isSome).st = gOn r fm.kp (fm.tv t.to) := by unfold gTake; rw [if_neg k0, if_pos k1, hst]; rfl
        rw [est]
        have hAf : A' fm.d.frm = A fm.d.frm := hA fm (by rw [hst]; simp)
        have qx : fcl xs ⟨tl, hd, told, tsv, osv⟩ r (Fm.ends fm t.to) (A' fm.d.frm) x' := qx
        rw [hAf] at qx
        unfold fcl at qx
        simp only
        unfold fCls
        cases hh : s.hd with
        | none =>
          rw [if_neg (show ¬ (hd.isSome = true ∧ hd ≠ some (A fm.d.frm)) by rw [his, hh]; simp)] at qx
          obtain ⟨tsv', osv', rfl⟩ := qx
          rw [if_neg (by simp)]
          exact ⟨by simp only [e1], by simp only [e1, e2]; rfl, rfl⟩
        | some k =>
          rw [hh] at hH hH'
          obtain ⟨a, g, c, p1, p2, p3⟩ := id hH
          rw [hst] at p1
          cases a with
          | nil =>
            have eg : g = fm := (List.cons.inj p1).1.symm
            have ec : c = r := (List.cons.inj p1).2.symm
            have ek : k = r.length := by rw [← p2, ec]
            rw [if_neg (show ¬ (hd.isSome = true ∧ hd ≠ some (A fm.d.frm)) from fun y => y.2 (by rw [p3, eg]))] at qx
            obtain ⟨tsv', osv', rfl⟩ := qx
            rw [if_neg (fun y => y.2 (by rw [ek]))]
            exact ⟨by simp only [e1], by simp only [e1, e2]; rfl, rfl⟩
          | cons p q =>
            have er : r = q ++ g :: c := (List.cons.inj p1).2
            have hg : g ∈ r := by rw [er]; simp
            have hm := h.g.m
            rw [hst] at hm
            have hne := FrM.inj hm g hg
            rw [if_pos (show hd.isSome = true ∧ hd ≠ some (A fm.d.frm) from ⟨by rw [p3]; rfl, fun y => hne (by rw [p3] at y; exact Option.some.inj y)⟩)] at qx
            subst qx
            have ek : k ≠ r.length := by rw [← p2, er]; simp; omega
            rw [if_pos ⟨rfl, fun y => ek (Option.some.inj y)⟩]
            refine ⟨e1, e2, ?_⟩
            show HdR A' _ s.hd hd
            rw [hh]
            have H2 : HdR A' r (some k) hd := ⟨q, g, c, er, p2, by rw [p3, hA g (by rw [hst, er]; simp)]⟩
            exact H2.on _ _
    rw [if_neg k1] at qx ⊢
    by_cases k2 : t.k = 2
    · rw [if_pos k2] at qx ⊢
      subst qx
      have est : (gTake s.g t s.hd.isSome).st = s.g.st := by unfold gTake; rw [if_neg k0, if_neg k1, if_pos k2]
      rw [est]
      exact ⟨e1, e2, hH'⟩
    rw [if_neg k2] at qx ⊢
    obtain ⟨x1, hb, hbg, hcl⟩ := qx
    have est : (gTake s.g t s.hd.isSome).st = gOn s.g.st s.hd.isSome ((gBegin s.g t s.hd.isSome).tv t.to) := by unfold gTake; rw [if_neg k0, if_neg k1, if_neg k2]; rfl
    rw [est]
    unfold fbg at hbg
    unfold fcl at hcl
    cases hh : s.hd with
    | some k =>
      rw [if_pos (show hd.isSome = true by rw [his, hh]; rfl)] at hbg
      subst hbg
      rw [hh] at hH hH'
      obtain ⟨a, g, c, p1, p2, p3⟩ := id hH
      have hlt := (h.g.m.lt _ (hmem g (by rw [p1]; simp))).1
      rw [if_pos (show hd.isSome = true ∧ hd ≠ some (A' t.frm) from ⟨by rw [p3]; rfl, fun y => by rw [p3] at y; have := Option.some.inj y; omega⟩)] at hcl
      subst hcl
      have e : fBeg xs s (gDat s.g t) = s := by unfold fBeg; rw [if_pos (by rw [hh]; rfl)]
      rw [e]
      have hk := h.ok.hd k hh
      unfold fCls
      rw [if_pos ⟨by rw [hh]; rfl, fun y => by rw [hh] at y; have := Option.some.inj y; omega⟩]
      refine ⟨e1, e2, ?_⟩
      show HdR A' _ s.hd hd
      rw [hh]
      exact hH'.on _ _
    | none =>
      rw [if_neg (show ¬ hd.isSome = true by rw [his, hh]; simp)] at hbg
      obtain ⟨tsv', rfl⟩ := hbg
      have e : fBeg xs s (gDat s.g t) = { s with tl := s.tl ++ [fTly xs s (gDat s.g t)], hd := if headS xs < xs.length ∧ 0 < (ctAt (fTly xs s (gDat s.g t)) (headS xs)).its then some s.g.st.length else none } := by unfold fBeg; rw [if_neg (by rw [hh]; simp)]
      rw [e]
      have hn1 : ¬ ((fxH xs (fxT xs ⟨tl, hd, told, tsv, osv⟩ s.g.st (gBegin s.g t false)) (A' t.frm)).isSome = true ∧ fxH xs (fxT xs ⟨tl, hd, told, tsv, osv⟩ s.g.st (gBegin s.g t false)) (A' t.frm) ≠ some (A' t.frm)) := by
        unfold fxH; split
        · exact fun y => y.2 rfl
        exact fun y => by cases y.1
      rw [if_neg hn1] at hcl
      obtain ⟨tsv2, osv2, rfl⟩ := hcl
      unfold fCls
      simp only
      have hn2 : ¬ ((if headS xs < xs.length ∧ 0 < (ctAt (fTly xs s (gDat s.g t)) (headS xs)).its then some s.g.st.length else none).isSome = true ∧ (if headS xs < xs.length ∧ 0 < (ctAt (fTly xs s (gDat s.g t)) (headS xs)).its then some s.g.st.length else none) ≠ some s.g.st.length) := by
        split
        · exact fun y => y.2 rfl
        exact fun y => by cases y.1
      rw [if_neg hn2, eT]
      exact ⟨by simp only [e1], by simp only [e1, e2]; rfl, rfl⟩
  exact ⟨rfl, x', A', C', M', D', ⟨q1', fOk_take hpos h.ok ht, hnm, REL.1, REL.2.1, REL.2.2⟩, q3, q4⟩
end Go.Proofs.YtcbadebjpogmlaaGreatDoor
namespace Go.Proofs.YtcbadebjpogmlaaGreatDoor
open Go.RowKit Tr
theorem r_begins {w : World} (v : Value) : Calls Tryz.prog 50 #[v] w fun r w' => r = .returned (.bool true) ∧ w' = w := by
  go_enter Tryz.func50, Tryz.ntmps50
  go_wp2
  go_ret
  exact ⟨rfl, rfl⟩
theorem r_closed {w : World} {lb b : Nat} {po : Option Addr} (h : Blk w lb #[.pointer po] 71) : Calls Tryz.prog 51 #[.pointer (some ⟨b, 0, none⟩), .pointer (some ⟨lb, 0, none⟩)] w fun r w' => r = .returned (.tuple #[]) ∧ Blk w' lb #[.pointer (some ⟨b, 0, none⟩)] 71 ∧ Fr (fun k => k = lb) w w' := by
  have c0 : w.cell? ⟨lb, 0, none⟩ = some (.pointer po) := h.cell 0
  have fz := h.fz
  have B1 := hide (h.set 0 (.pointer (some ⟨b, 0, none⟩)))
  have F1 : Hid (Fr (fun k => k = lb) w (w.setCell ⟨lb, 0, none⟩ (.pointer (some ⟨b, 0, none⟩)))) := (Fr.refl (fun k => k = lb) w).setCell ⟨lb, 0, none⟩ (Or.inl rfl) _
  clear h
  go_enter Tryz.func51, Tryz.ntmps51
  go_wp2
  go_end0
  exact ⟨rfl, B1.out, F1.out⟩
def rfb : Value := .func (.func 50) #[] #[]
def rfc (lb : Nat) : Value := .func (.func 51) #[] #[.pointer (some ⟨lb, 0, none⟩)]
def rgc (lb : Nat) (_ : Option Addr) (a b c : Value) : Array Value := #[rfb, rfc lb, a, b, c]
def rS (lb : Nat) (w : World) (D : Nat → Prop) (x : Option Addr) : Prop := (∀ k, D k ↔ k = lb) ∧ Blk w lb #[.pointer x] 71
theorem r_lay (lb : Nat) : GLay 119 0 rfb (rfc lb) (rgc lb) where
  c0 := fun h => h.cell 0
  c1 := fun h => h.cell 1
  c2 := fun h => h.cell 2
  c3 := fun h => h.cell 3
  c4 := fun h => h.cell 4
  s2 := fun v h => h.set 2 v
  s3 := fun v h => h.set 3 v
  s4 := fun v h => h.set 4 v
theorem r_cb (lb g : Nat) : GCb g 119 (rgc lb) rfb (rfc lb) (rS lb) (fun _ => true) (fun x _ _ _ x' => x' = x) (fun _ _ _ b x' => x' = some ⟨b, 0, none⟩) (fun _ _ _ _ => True) (fun _ _ _ _ => True) where
  lt := fun h hk => by rw [(h.1 _).1 hk]; exact h.2.lt
  keep := fun h s _ => ⟨h.1, (s _ ((h.1 _).2 rfl)).trans h.2⟩
  begins := ⟨_, _, _, rfl, fun _ _ => Tryz.call50 _ _, fun {w D x A C bd r f M a b c} hS hB _ _ _ _ _ _ => by
    refine (r_begins (w := w) (vpt (A f.d.frm))).mono ?_
    rintro res w' ⟨rfl, rfl⟩
    exact ⟨rfl, D, _, rfl, hS, hB, fun k => Or.inl, Fr.refl _ _⟩⟩
  closed := ⟨_, _, _, rfl, fun _ _ => Tryz.call51 _ _, fun {w D x A C bd r f M a b c} hS hB _ _ _ hdj _ _ => by
    refine (r_closed (b := A f.d.frm) hS.2).mono ?_
    rintro res w' ⟨rfl, h1, h2⟩
    have hlb := (hS.1 lb).2 rfl
    refine ⟨rfl, D, _, rfl, ⟨hS.1, h1⟩, hB.fr h2 (fun e => (hdj lb hlb).2.2 e.symm), fun k => Or.inl, h2.mono (fun k _ e => Or.inl ((hS.1 k).2 e))⟩⟩
end Go.Proofs.YtcbadebjpogmlaaGreatDoor
namespace Go.Proofs.YtcbadebjpogmlaaGreatDoor
open Go.RowKit Tr
theorem opCells_last {l : List Nat} {m k : Nat} (hl : l.length = m + 1) (h : l.getLast? = some k) : (opCells l)[m]? = some (.int .i64 (k : Nat)) := by
  have : l[m]? = some k := by rw [List.getLast?_eq_getElem?, hl] at h; exact h
  simp [opCells, this]
set_option maxHeartbeats 1000000 in
set_option maxRecDepth 100000 in
theorem t_innermost {w : World} {r s0 : Nat} {z : Sn} {tell ov bp bv : Value} (h : RS w r s0 z tell ov bp bv) {k : Nat} (hk : z.op.getLast? = some k) (h8 : z.op.length ≤ 8) :
    Calls Tryz.prog 222 #[.pointer (some ⟨r, 0, none⟩)] w fun res w' => res = .returned (.int .i64 (k : Nat)) ∧ ∃ n, w' = w.drewN n := by
  obtain ⟨m, hm⟩ : ∃ m, z.op.length = m + 1 := ⟨z.op.length - 1, by have : z.op ≠ [] := (fun e => by rw [e] at hk; cases hk); have := List.length_pos_iff.2 this; omega⟩
  have ho := h.o
  rw [hm] at ho
  obtain ⟨g, cap, hv, _, hgl⟩ := ho.form (by omega)
  subst hv
  have c2 : w.cell? ⟨r, 2, none⟩ = some (.slice (some ⟨g, 0, none⟩) (m + 1) cap) := h.b.cell 2
  have cm : w.cell? ⟨g, m, none⟩ = some (.int .i64 (k : Nat)) := (ho.cellAt m (by omega)).trans (opCells_last hm hk)
  have hwr : IntKind.i64.wrap ((m : Int) + 1 - 1) = (m : Int) := by rw [IntWalk.i64_in _ (by omega)]; omega
  have hm8 : m ≤ 8 := by omega
  clear h ho hk hm h8
  go_enter Tryz.func222, Tryz.ntmps222
  go_wp2
  go_quiet (fail)
  go_wp2
  go_ret
  exact ⟨rfl, _, rfl⟩
set_option maxHeartbeats 1000000 in
set_option maxRecDepth 100000 in
theorem t_mayFollow {w : World} {r s0 : Nat} {z : Sn} {tell ov bp bv : Value} (h : RS w r s0 z tell ov bp bv) (h8 : z.op.length ≤ 8) (hk6 : ∀ k ∈ z.op, k = 5 ∨ k = 6) (b : Nat) (hb : b < 256) :
    Calls Tryz.prog 178 #[.pointer (some ⟨r, 0, none⟩), .int .u8 (b : Int)] w fun res w' => res = .returned (.bool (mayF z.op b)) ∧ ∃ n, w' = w.drewN n := by
  have KB := hide (fun w => t_isBlank (w := w) b hb)
  have c2 : w.cell? ⟨r, 2, none⟩ = some ov := h.b.cell 2
  by_cases h1 : isBl b = true
  · have e : mayF z.op b = true := by simp [mayF, h1]
    rw [e]
    rw [h1] at KB
    clear h e c2 h1
    go_enter Tryz.func178, Tryz.ntmps178
    go_wp2_with fail
    refine (KB.out _).mono ?_
    rintro r w' ⟨rfl, rfl⟩
    go_wp2
    go_ret
    exact ⟨rfl, 0, rfl⟩
  have h1 : isBl b = false := by simpa using h1
  rw [h1] at KB
  by_cases h2 : z.op = []
  · have e : mayF z.op b = false := by simp [mayF, h1, h2]
    rw [e]
    obtain ⟨ao, cp, rfl⟩ := own_slice h.o
    rw [h2] at c2
    simp only [List.length_nil] at c2
    clear h e h1 h2
    go_enter Tryz.func178, Tryz.ntmps178
    go_wp2_with fail
    refine (KB.out _).mono ?_
    rintro r w' ⟨rfl, rfl⟩
    go_wp2
    go_ret
    exact ⟨rfl, 0, rfl⟩
  obtain ⟨k, hk⟩ : ∃ k, z.op.getLast? = some k := ⟨_, List.getLast?_eq_some_getLast h2⟩
  have KI := hide (t_innermost h hk h8)
  obtain ⟨ao, cp, rfl⟩ := own_slice h.o
  obtain ⟨L, hL⟩ : ∃ L, L = z.op.length := ⟨_, rfl⟩
  rw [← hL] at c2 h8
  have hLp : L ≠ 0 := fun e => h2 (List.length_eq_zero_iff.1 (by omega))
  have eL : ((L : Int) == 0) = false := by rw [beq_eq_false_iff_ne]; omega
  have hkk : k = 5 ∨ k = 6 := hk6 k (List.mem_of_getLast? hk)
  have e : mayF z.op b = (if k = 6 then (b == 44 || b == 125) else (b == 44 || b == 93)) := by
    have : z.op.isEmpty = false := by simpa using h2
    simp [mayF, h1, this, inThing, hk]
  rw [e]
  clear h e h1 h2 hk hL hk6 hLp
  have e44 : ((b : Int) == 44) = (b == 44) := by rw [Bool.eq_iff_iff]; simp; omega
  have e125 : ((b : Int) == 125) = (b == 125) := by rw [Bool.eq_iff_iff]; simp; omega
  have e93 : ((b : Int) == 93) = (b == 93) := by rw [Bool.eq_iff_iff]; simp; omega
  rcases hkk with rfl | rfl
  · rw [if_neg (by decide)]
    by_cases h44 : b = 44
    · subst h44
      clear e44 e125 e93
      go_enter Tryz.func178, Tryz.ntmps178
      go_wp2_with fail
      refine (KB.out _).mono ?_
      rintro r w' ⟨rfl, rfl⟩
      go_wp2_with fail
      refine (KI.out).mono ?_
      rintro r w' ⟨rfl, n, rfl⟩
      go_wp2
      go_ret
      exact ⟨rfl, _, rfl⟩
    have n44 : (b == 44) = false := by simpa using h44
    rw [n44] at e44
    rw [n44, ← e93]
    clear n44 e93 e125
    go_enter Tryz.func178, Tryz.ntmps178
    go_wp2_with fail
    refine (KB.out _).mono ?_
    rintro r w' ⟨rfl, rfl⟩
    go_wp2_with fail
    refine (KI.out).mono ?_
    rintro r w' ⟨rfl, n, rfl⟩
    go_wp2
    go_ret
    exact ⟨rfl, _, rfl⟩
  rw [if_pos rfl]
  by_cases h44 : b = 44
  · subst h44
    clear e44 e125 e93
    go_enter Tryz.func178, Tryz.ntmps178
    go_wp2_with fail
    refine (KB.out _).mono ?_
    rintro r w' ⟨rfl, rfl⟩
    go_wp2_with fail
    refine (KI.out).mono ?_
    rintro r w' ⟨rfl, n, rfl⟩
    go_wp2
    go_ret
    exact ⟨rfl, _, rfl⟩
  have n44 : (b == 44) = false := by simpa using h44
  rw [n44] at e44
  rw [n44, ← e125]
  clear n44 e93 e125
  go_enter Tryz.func178, Tryz.ntmps178
  go_wp2_with fail
  refine (KB.out _).mono ?_
  rintro r w' ⟨rfl, rfl⟩
  go_wp2_with fail
  refine (KI.out).mono ?_
  rintro r w' ⟨rfl, n, rfl⟩
  go_wp2
  go_ret
  exact ⟨rfl, _, rfl⟩
theorem own_pre {w : World} {B e g m cap : Nat} {xs : List Value} (h : w.ownsRow B e 1 (.slice (some ⟨g, 0, none⟩) (m + 1) cap) (m + 1) xs) : w.ownsRow B e 1 (.slice (some ⟨g, 0, none⟩) m cap) m (xs.take m) ∧ m + 1 ≤ cap := by
  have hl := h.1
  rcases h.2 with ⟨x, _⟩ | ⟨g2, cap2, cur, x, y1, y2, y3, y4, y5, y6⟩
  · cases x
  injection x with x1 x2 x3
  injection x1 with x1
  injection x1 with x1
  subst x1 x3
  refine ⟨⟨by simp; omega, Or.inr ⟨g, cap, cur, rfl, y1, y2, by omega, y4, y5, ?_⟩⟩, y3⟩
  rw [← y6, List.take_take]
  congr 1
  omega
set_option maxHeartbeats 1000000 in
set_option maxRecDepth 100000 in
theorem t_shut {S : World → (Nat → Prop) → List Tok → Prop} {V : List Tok → Tok → Prop} {tell : Value} (hS : Sink tell S V) {w : World} {r s0 : Nat} {z : Sn} {ts : List Tok} {E : Nat → Prop} (h : RM S tell r s0 z ts E w) (hne : z.op ≠ []) (h8 : z.op.length ≤ 8) (hat : z.at' ≤ 4000000) (hV : VL V ts (sShut z).ts) :
    Calls Tryz.prog 181 #[.pointer (some ⟨r, 0, none⟩)] w (RP S tell r s0 (sShut z) ts E w) := by
  obtain ⟨ov, bp, bv, D, h1, h2, h3, h4⟩ := h.ex
  obtain ⟨m, hm⟩ : ∃ m, z.op.length = m + 1 := ⟨z.op.length - 1, by have := List.length_pos_iff.2 hne; omega⟩
  have ho := h1.o
  rw [hm] at ho
  obtain ⟨g, cap, hv, hbg, hgl⟩ := ho.form (by omega)
  subst hv
  obtain ⟨N, first, cp2, htell, hE, hcall⟩ := RM.tell hS
  have c2 : w.cell? ⟨r, 2, none⟩ = some (.slice (some ⟨g, 0, none⟩) (m + 1) cap) := h1.b.cell 2
  have c1 : w.cell? ⟨r, 1, none⟩ = some (.int .i64 (z.at' : Nat)) := h1.b.cell 1
  have c14 : w.cell? ⟨r, 14, none⟩ = some tell := h1.b.cell 14
  have fz := h1.b.fz
  have hwr : IntKind.i64.wrap ((m : Int) + 1 - 1) = (m : Int) := by rw [IntWalk.i64_in _ (by omega)]; omega
  have hm8 : m ≤ 8 := by omega
  have hcap : (m : Int) ≤ (cap : Int) := by
    rcases ho.2 with ⟨x, _⟩ | ⟨g2, cap2, cur, x, _, _, y, _⟩
    · cases x
    injection x with _ _ x3; omega
  have hcap2 : m + 1 ≤ cap := (own_pre ho).2
  obtain ⟨z1, hz1⟩ : ∃ z1 : Sn, z1 = { z with st := 5, op := z.op.dropLast } := ⟨_, rfl⟩
  have M1 : Hid (RM S tell r s0 z1 ts E (w.setCell ⟨r, 2, none⟩ (.slice (some ⟨g, 0, none⟩) m cap)).drew ∧ Fr E w (w.setCell ⟨r, 2, none⟩ (.slice (some ⟨g, 0, none⟩) m cap)).drew) := by
    have f0 : Fr (fun k => k = r) w (w.setCell ⟨r, 2, none⟩ (.slice (some ⟨g, 0, none⟩) m cap)).drew := ((Fr.refl (fun k => k = r) w).setCell ⟨r, 2, none⟩ (Or.inl rfl) _).drew
    refine ⟨⟨.slice (some ⟨g, 0, none⟩) m cap, bp, bv, D, ⟨?_, ?_, ?_, h1.p, ?_⟩, hS.keep h2 (fun k hk => f0.block k (hS.lt h2 hk) (h3 k hk).1) f0.size, h3, h4⟩, f0.mono (fun k _ e => (h4 k).2 (Or.inl e))⟩
    · rw [hz1]; exact h1.b.set 2 _
    · rw [hz1]
      have e1 : z.op.dropLast.length = m := by simp [hm]
      have e2 : (opCells z.op).take m = opCells z.op.dropLast := by rw [List.dropLast_eq_take, hm]; simp [opCells, List.map_take]
      show World.ownsRow _ _ _ _ _ z.op.dropLast.length _
      rw [e1, ← e2]
      exact own_fr (own_pre ho).1 f0 (fun k hk e => by omega)
    · rw [hz1]; exact own_fr h1.t f0 (fun k hk e => by omega)
    rw [hz1]; exact h1.e
  have hZ : Hid (z1 = { z with st := 5, op := z.op.dropLast }) := hz1
  have HV : Hid (V ts ⟨1, 0, 0, z.at' + 1, 0, []⟩) := hV.1
  have TE : Hid (∀ W, RM S tell r s0 z1 ts E W → Calls Tryz.prog N (first.push (tagg ⟨1, 0, 0, z.at' + 1, 0, []⟩) ++ cp2) W fun res w' => res = .returned (.tuple #[]) ∧ ∃ E', RM S tell r s0 z1 (ts ++ [⟨1, 0, 0, z.at' + 1, 0, []⟩]) E' w' ∧ Ev E W E' w') := fun W hW => hcall _ hW HV.out
  have DR : Hid (∀ W n, RM S tell r s0 z1 ts E W → RM S tell r s0 z1 ts E (W.drewN n)) := fun W n hW => RM.drewN hS hW n
  have hwa : IntKind.i64.wrap ((z.at' : Int) + 1) = ((z.at' + 1 : Nat) : Int) := by rw [IntWalk.i64_in _ (by omega)]; omega
  clear hcall h h1 h2 h3 h4 ho hm hV hne h8 hS hz1
  subst htell
  go_enter Tryz.func181, Tryz.ntmps181
  go_wp2
  go_region
  all_goals
    have d1 : (w.setCell ⟨r, 2, none⟩ (.slice (some ⟨g, 0, none⟩) m cap)).drew.cell? ⟨r, 1, none⟩ = some (.int .i64 (z.at' : Nat)) := by
      obtain ⟨_, _, _, _, y, _⟩ := M1.out.1.ex
      have := y.b.cell 1
      rw [hZ.out] at this
      exact this
    have d14 : (w.setCell ⟨r, 2, none⟩ (.slice (some ⟨g, 0, none⟩) m cap)).drew.cell? ⟨r, 14, none⟩ = some (.func (.func N) first cp2) := by
      obtain ⟨_, _, _, _, y, _⟩ := M1.out.1.ex
      exact y.b.cell 14
    clear c1 c2 c14 fz
    generalize (w.setCell ⟨r, 2, none⟩ (.slice (some ⟨g, 0, none⟩) m cap)).drew = W1 at *
    go_wp2
    go_region_with (refine (TE.out _ (DR.out _ 1 M1.out.1)).mono ?_; rintro res w2 ⟨rfl, E2, hM2, hE2⟩; have M2 := hide hM2; have EV2 := hide hE2; clear hM2 hE2)
    all_goals
      go_wp2
      go_ret
      exact ⟨rfl, E2, by rw [← show z1 = (sShut z).z from hZ.out]; exact M2.out, (Ev.mk (fun _ => Or.inl) (M1.out.2.drewN 1)).trans EV2.out⟩
end Go.Proofs.YtcbadebjpogmlaaGreatDoor
namespace Go.Proofs.YtcbadebjpogmlaaGreatDoor
open Go.RowKit Tr
theorem RM.st {S : World → (Nat → Prop) → List Tok → Prop} {tell : Value} {r s0 : Nat} {z : Sn} {ts : List Tok} {E : Nat → Prop} {w : World} (h : RM S tell r s0 z ts E w) (s : Nat) : RM S tell r s0 { z with st := s } ts E w := by
  obtain ⟨ov, bp, bv, D, h1, h2⟩ := h.ex
  exact ⟨ov, bp, bv, D, ⟨h1.b, h1.o, h1.t, h1.p, h1.e⟩, h2⟩
theorem RM.to {S : World → (Nat → Prop) → List Tok → Prop} {tell : Value} {r s0 : Nat} {z : Sn} {ts : List Tok} {E E' : Nat → Prop} {w w' : World} (h : RM S tell r s0 z ts E' w') (v : Ev E w E' w') (s : Nat) : RP S tell r s0 (z.to s) ts E w (.returned (.int .i64 (s : Nat))) w' :=
  ⟨rfl, E', by rw [show (z.to s).ts = [] from rfl, List.append_nil]; exact h.st s, v⟩
theorem RM.rs {S : World → (Nat → Prop) → List Tok → Prop} {tell : Value} {r s0 : Nat} {z : Sn} {ts : List Tok} {E : Nat → Prop} {w : World} (h : RM S tell r s0 z ts E w) : ∃ ov bp bv, RS w r s0 z tell ov bp bv := by
  obtain ⟨ov, bp, bv, D, h1, _⟩ := h.ex
  exact ⟨ov, bp, bv, h1⟩
theorem VL.app {V : List Tok → Tok → Prop} : ∀ {ts a b : List Tok}, VL V ts (a ++ b) → VL V ts a ∧ VL V (ts ++ a) b
  | ts, [], b, h => ⟨trivial, by simpa using h⟩
  | ts, t :: a, b, h => by
    obtain ⟨h1, h2⟩ := h
    obtain ⟨h3, h4⟩ := VL.app h2
    exact ⟨⟨h1, h3⟩, by simpa using h4⟩
set_option maxHeartbeats 2000000 in
set_option maxRecDepth 100000 in
theorem t_behind {S : World → (Nat → Prop) → List Tok → Prop} {V : List Tok → Tok → Prop} {tell : Value} (hS : Sink tell S V) {w : World} {r s0 : Nat} {z : Sn} {ts : List Tok} {E : Nat → Prop} (h : RM S tell r s0 z ts E w) (h8 : z.op.length ≤ 8) (h6 : ∀ k ∈ z.op, k = 5 ∨ k = 6) (hat : z.at' ≤ 4000000) (b : Nat) (hb : b < 256) (hV : VL V ts (sBehind z b).ts) :
    Calls Tryz.prog 179 #[.pointer (some ⟨r, 0, none⟩), .int .u8 (b : Int)] w (RP S tell r s0 (sBehind z b) ts E w) := by
  obtain ⟨ov, bp, bv, h1⟩ := h.rs
  have MF := hide (t_mayFollow h1 h8 h6 b hb)
  have KB := hide (fun w => t_isBlank (w := w) b hb)
  have DR : Hid (∀ n, RM S tell r s0 z ts E (w.drewN n)) := fun n => RM.drewN hS h n
  have EV : Hid (∀ n, Ev E w E (w.drewN n)) := fun n => (Ev.refl E w).drewN n
  by_cases c1 : mayF z.op b = false
  · have e : sBehind z b = z.to 12 := by unfold sBehind; rw [if_pos c1]
    rw [e]
    rw [c1] at MF
    clear h h1 hV e c1 h6 h8
    go_enter Tryz.func179, Tryz.ntmps179
    go_wp2_with fail
    refine (MF.out).mono ?_
    rintro res w1 ⟨rfl, n, rfl⟩
    go_wp2
    go_ret
    exact (DR.out n).to (EV.out n) 12
  have c1' : mayF z.op b = true := by simpa using c1
  rw [c1'] at MF
  by_cases c2 : isBl b = true
  · have e : sBehind z b = z.to 5 := by unfold sBehind; rw [if_neg c1, if_pos c2]
    rw [e]
    rw [c2] at KB
    clear h h1 hV e c1 c2 c1' h6 h8
    go_enter Tryz.func179, Tryz.ntmps179
    go_wp2_with fail
    refine (MF.out).mono ?_
    rintro res w1 ⟨rfl, n, rfl⟩
    go_wp2_with fail
    refine (KB.out _).mono ?_
    rintro res w1 ⟨rfl, rfl⟩
    go_wp2
    go_ret
    exact (DR.out n).to (EV.out n) 5
  have c2' : isBl b = false := by simpa using c2
  rw [c2'] at KB
  have hne : z.op ≠ [] := fun x => by simp [mayF, c2', x] at c1'
  by_cases c3 : b ≠ 44
  · have e : sBehind z b = sShut z := by unfold sBehind; rw [if_neg c1, if_neg c2, if_pos c3]
    rw [e] at hV ⊢
    have b44 : ((b : Int) != 44) = true := by rw [bne_iff_ne]; omega
    have SH : Hid (∀ n, Calls Tryz.prog 181 #[.pointer (some ⟨r, 0, none⟩)] (w.drewN n) (RP S tell r s0 (sShut z) ts E (w.drewN n))) := fun n => t_shut hS (DR.out n) hne h8 hat hV
    clear h h1 hV e c1 c2 c1' h6 h8 c3 hne
    go_enter Tryz.func179, Tryz.ntmps179
    go_wp2_with fail
    refine (MF.out).mono ?_
    rintro res w1 ⟨rfl, n, rfl⟩
    go_wp2_with fail
    refine (KB.out _).mono ?_
    rintro res w1 ⟨rfl, rfl⟩
    go_wp2_with fail
    refine (SH.out n).mono ?_
    rintro res w1 ⟨rfl, E1, hM, hE⟩
    have M1 := hide hM
    have E1' := hide hE
    clear hM hE
    go_wp2
    go_ret
    exact ⟨rfl, E1, M1.out, (EV.out n).trans E1'.out⟩
  have c3' : b = 44 := by omega
  subst c3'
  obtain ⟨k, hk⟩ : ∃ k, z.op.getLast? = some k := ⟨_, List.getLast?_eq_some_getLast hne⟩
  have IN : Hid (∀ n, Calls Tryz.prog 222 #[.pointer (some ⟨r, 0, none⟩)] (w.drewN n) fun res w' => res = .returned (.int .i64 (k : Nat)) ∧ ∃ m, w' = (w.drewN n).drewN m) := fun n => by
    obtain ⟨_, _, _, y⟩ := (DR.out n).rs
    exact t_innermost y hk h8
  have hkk : k = 5 ∨ k = 6 := h6 k (List.mem_of_getLast? hk)
  rcases hkk with rfl | rfl
  · have e : sBehind z 44 = z.to 0 := by unfold sBehind; rw [if_neg c1, if_neg c2, if_neg c3]; simp [inThing, hk]
    rw [e]
    clear h h1 hV e c1 c2 c1' h6 h8 c3 hne hk c2'
    go_enter Tryz.func179, Tryz.ntmps179
    go_wp2_with fail
    refine (MF.out).mono ?_
    rintro res w1 ⟨rfl, n, rfl⟩
    go_wp2_with fail
    refine (KB.out _).mono ?_
    rintro res w1 ⟨rfl, rfl⟩
    go_wp2_with fail
    refine (IN.out n).mono ?_
    rintro res w1 ⟨rfl, m, rfl⟩
    rw [drewN3]
    go_wp2
    go_ret
    exact (DR.out _).to (EV.out _) 0
  have e : sBehind z 44 = z.to 3 := by unfold sBehind; rw [if_neg c1, if_neg c2, if_neg c3]; simp [inThing, hk]
  rw [e]
  clear h h1 hV e c1 c2 c1' h6 h8 c3 hne hk c2'
  go_enter Tryz.func179, Tryz.ntmps179
  go_wp2_with fail
  refine (MF.out).mono ?_
  rintro res w1 ⟨rfl, n, rfl⟩
  go_wp2_with fail
  refine (KB.out _).mono ?_
  rintro res w1 ⟨rfl, rfl⟩
  go_wp2_with fail
  refine (IN.out n).mono ?_
  rintro res w1 ⟨rfl, m, rfl⟩
  rw [drewN3]
  go_wp2
  go_ret
  exact (DR.out _).to (EV.out _) 3
set_option maxHeartbeats 2000000 in
set_option maxRecDepth 100000 in
theorem t_endPlain {S : World → (Nat → Prop) → List Tok → Prop} {V : List Tok → Tok → Prop} {tell : Value} (hS : Sink tell S V) {w : World} {r s0 : Nat} {z : Sn} {ts : List Tok} {E : Nat → Prop} (h : RM S tell r s0 z ts E w) (hat : z.at' ≤ 4000000) (hV : VL V ts (sEndP z).ts) :
    Calls Tryz.prog 180 #[.pointer (some ⟨r, 0, none⟩)] w (RP S tell r s0 (sEndP z) ts E w) := by
  obtain ⟨ov, bp, bv, D, h1, h2, h3, h4⟩ := h.ex
  obtain ⟨N, first, cp2, htell, hE, hcall⟩ := RM.tell hS
  have c1 : w.cell? ⟨r, 1, none⟩ = some (.int .i64 (z.at' : Nat)) := h1.b.cell 1
  have c6 : w.cell? ⟨r, 6, none⟩ = some (.int .i64 (z.tk.to : Nat)) := h1.b.cell 6
  have fz := h1.b.fz
  obtain ⟨z1, hz1⟩ : ∃ z1 : Sn, z1 = { z with st := 5, tk := { z.tk with to := z.at' + 1 } } := ⟨_, rfl⟩
  have M1 : Hid (RM S tell r s0 z1 ts E (w.setCell ⟨r, 6, none⟩ (.int .i64 ((z.at' + 1 : Nat) : Int))) ∧ Ev E w E (w.setCell ⟨r, 6, none⟩ (.int .i64 ((z.at' + 1 : Nat) : Int)))) :=
    RM.set hS h1 h2 h3 h4 (by rw [hz1]; exact h1.b.set 6 _) ((Fr.refl (fun k => k = r) w).setCell ⟨r, 6, none⟩ (Or.inl rfl) _) (by rw [hz1]) (by rw [hz1])
  have hZ := hide hz1
  have TE : Hid (∀ W, RM S tell r s0 z1 ts E W → Calls Tryz.prog N (first.push (tagg z1.tk) ++ cp2) W fun res w' => res = .returned (.tuple #[]) ∧ ∃ E', RM S tell r s0 z1 (ts ++ [z1.tk]) E' w' ∧ Ev E W E' w') := fun W hW => hcall _ hW (by rw [hz1]; exact hV.1)
  have DR : Hid (∀ W n, RM S tell r s0 z1 ts E W → RM S tell r s0 z1 ts E (W.drewN n)) := fun W n hW => RM.drewN hS hW n
  have hwa : IntKind.i64.wrap ((z.at' : Int) + 1) = ((z.at' + 1 : Nat) : Int) := by rw [IntWalk.i64_in _ (by omega)]; omega
  have CC : Hid (∀ W, RM S tell r s0 z1 ts E W → (W.cell? ⟨r, 14, none⟩ = some tell ∧ W.cell? ⟨r, 3, none⟩ = some (.int .i64 (z1.tk.k : Nat)) ∧ W.cell? ⟨r, 4, none⟩ = some (.int .i64 (z1.tk.of : Nat)) ∧ W.cell? ⟨r, 5, none⟩ = some (.int .i64 (z1.tk.frm : Nat)) ∧ W.cell? ⟨r, 6, none⟩ = some (.int .i64 (z1.tk.to : Nat)) ∧ W.cell? ⟨r, 7, none⟩ = some (.int .i64 z1.tk.n) ∧ W.cell? ⟨r, 8, none⟩ = some (.string (bsb (tkx z1.tk.k z1.tk.t))))) := fun W hW => by
    obtain ⟨_, _, _, y⟩ := hW.rs
    exact ⟨y.b.cell 14, y.b.cell 3, y.b.cell 4, y.b.cell 5, y.b.cell 6, y.b.cell 7, y.b.cell 8⟩
  clear hcall h h1 h2 h3 h4 hV hS hz1
  subst htell
  go_enter Tryz.func180, Tryz.ntmps180
  go_wp2
  have eW : ((z.at' + 1 : Nat) : Int) = (z.at' : Int) + 1 := by omega
  try rw [eW] at M1
  generalize hWW : w.setCell ⟨r, 6, none⟩ _ = W1 at *
  obtain ⟨d14, d3, d4, d5, d6, d7, d8⟩ := CC.out _ M1.out.1
  clear c1 c6 fz hwa hWW eW
  unfold tagg at TE
  go_region_with (refine (TE.out _ (DR.out _ 1 M1.out.1)).mono ?_; rintro res w2 ⟨rfl, E2, hM2, hE2⟩; have M2 := hide hM2; have EV2 := hide hE2; clear hM2 hE2)
  all_goals
    go_wp2
    go_ret
    refine ⟨rfl, E2, ?_, (M1.out.2.drewN 1).trans EV2.out⟩
    have := M2.out
    rw [hZ.out] at this
    exact this
end Go.Proofs.YtcbadebjpogmlaaGreatDoor
