import Derived.Test.YtcbadebjpogmlaaGreatDoorJSp
import Derived.Test.YtcbadebjpogmlaaGreatDoorJTm
import Derived.Test.YtcbadebjpogmlaaGreatDoorProg
import Derived.Shelf.LaysM
import Derived.Shelf.LaysC
import Derived.Shelf.Strconv.Itoa3
import Derived.Shelf.Strings.Replace
import Derived.Shelf.Small.Strs
namespace Go.Proofs.YtcbadebjpogmlaaGreatDoor
open Go.RowKit Tr
def vpt (b : Nat) : Value := .pointer (some ⟨b, 0, none⟩)
def parP (A : Nat → Nat) (r : List Fm) : Value := match r with
  | [] => .pointer none
  | f :: _ => vpt (A f.d.frm)
structure FrO (w : World) (A : Nat → Nat) (C : Nat → Prop) (bd n : Nat) (par : Value) (f : Fm) (ex : List Value) (sv : Value) : Prop where
  b : Blk w (A f.d.frm) (pcl f.d par f.ix sv) 130
  o : w.ownsRow 0 71 1 sv (f.ws.length + ex.length) (f.ws.map (pvp A) ++ ex)
  d : DOk f.d
  ks : ∀ i (h : i < f.ws.length), PT w A C n (vpt (A f.d.frm)) i f.ws[i] ∧ FB bd n f.ws[i] ∧ (f.ws[i]).d.path = kPath f.d.kind f.d.path i (f.ws[i]).d.name
  nb : sv.ownBlock ≠ some (A f.d.frm)
  nc : ¬ C (A f.d.frm) ∧ ∀ k, sv.ownBlock = some k → ¬ C k
  fr : f.d.frm < bd
def FrM (w : World) (A : Nat → Nat) (C : Nat → Prop) (bd : Nat) : List Fm → List Value → (Nat → Prop) → Prop
  | [], _, M => ∀ k, ¬ M k
  | f :: r, ex, M => ∃ sv M', FrO w A C bd (9 - r.length) (parP A r) f ex sv ∧ (∀ k, M k ↔ k = A f.d.frm ∨ sv.ownBlock = some k ∨ M' k) ∧ ¬ M' (A f.d.frm) ∧ (∀ k, sv.ownBlock = some k → ¬ M' k) ∧
    FrM w A C bd r (if f.kp = true then [vpt (A f.d.frm)] else []) M'
theorem PT.more {w : World} {A : Nat → Nat} {D D' : Nat → Prop} (hD : ∀ k, D k → D' k) : ∀ (n : Nat) (par : Value) (ix : Nat) (t : Tv), PT w A D n par ix t → PT w A D' n par ix t
  | 0, _, _, _, h => h
  | n + 1, _, _, _, ⟨h2, hd, hl, ⟨sv, h3, h4, h5⟩, h6⟩ => ⟨hD _ h2, hd, hl, ⟨sv, h3, fun k hk => hD k (h4 k hk), h5⟩, fun i hi => PT.more hD n _ i _ (h6 i hi)⟩
theorem pvp_upd {A A' : Nat → Nat} {bd : Nat} (h : ∀ k, k < bd → A' k = A k) {n : Nat} {t : Tv} (hf : FB bd n t) : pvp A' t = pvp A t := by
  cases n with
  | zero => exact hf.elim
  | succ n => unfold pvp; rw [h _ hf.1]
theorem PT.upd {w : World} {A A' : Nat → Nat} {D : Nat → Prop} {bd : Nat} (h : ∀ k, k < bd → A' k = A k) : ∀ (n : Nat) (par : Value) (ix : Nat) (t : Tv), FB bd n t → PT w A D n par ix t → PT w A' D n par ix t
  | 0, _, _, _, _, x => x
  | n + 1, _, _, t, hf, ⟨h2, hd, hl, ⟨sv, h3, h4, h5⟩, h6⟩ => by
    have e : A' t.d.frm = A t.d.frm := h _ hf.1
    have em : t.ws.map (pvp A') = t.ws.map (pvp A) := by
      apply List.map_congr_left
      intro c hc
      obtain ⟨i, hi, rfl⟩ := List.mem_iff_getElem.1 hc
      exact pvp_upd h (hf.2 i hi).1
    refine ⟨by rw [e]; exact h2, hd, hl, ⟨sv, by rw [e]; exact h3, h4, by rw [em]; exact h5⟩, fun i hi => ?_⟩
    rw [show pvp A' t = pvp A t by unfold pvp; rw [e]]
    exact PT.upd h n _ i _ (hf.2 i hi).1 (h6 i hi)
theorem FrM.keep {w w' : World} {A : Nat → Nat} {C : Nat → Prop} {bd : Nat} (hC : Sm C w w') : ∀ {l : List Fm} {ex : List Value} {M : Nat → Prop}, FrM w A C bd l ex M → Sm M w w' → FrM w' A C bd l ex M
  | [], _, _, h, _ => h
  | _ :: _, _, _, ⟨sv, M', h1, h2, h3, h4, h5⟩, hM =>
    ⟨sv, M', ⟨(hM _ ((h2 _).2 (Or.inl rfl))).trans h1.b, own_at' h1.o (fun k hk => hM k ((h2 k).2 (Or.inr (Or.inl hk)))), h1.d, fun i hi => ⟨(h1.ks i hi).1.keep hC, (h1.ks i hi).2⟩, h1.nb, h1.nc, h1.fr⟩, h2, h3, h4, h5.keep hC (fun k hk => hM k ((h2 k).2 (Or.inr (Or.inr hk))))⟩
theorem FrM.lt {w : World} {A : Nat → Nat} {C : Nat → Prop} {bd : Nat} : ∀ {l : List Fm} {ex : List Value} {M : Nat → Prop}, FrM w A C bd l ex M → ∀ k, M k → k < w.heap.size ∧ ¬ C k
  | [], _, _, h, k, hk => absurd hk (h k)
  | _ :: _, _, _, ⟨sv, M', h1, h2, _, _, h5⟩, k, hk => by
    rcases (h2 k).1 hk with x | x | x
    · rw [x]; exact ⟨h1.b.lt, h1.nc.1⟩
    · exact ⟨(h1.o.lt k x).2, h1.nc.2 k x⟩
    exact h5.lt k x
theorem parP_upd {A A' : Nat → Nat} {bd : Nat} (h : ∀ k, k < bd → A' k = A k) {w : World} {C : Nat → Prop} {l : List Fm} {ex : List Value} {M : Nat → Prop} (hm : FrM w A C bd l ex M) : parP A' l = parP A l := by
  cases l with
  | nil => rfl
  | cons f r =>
    obtain ⟨sv, M', h1, _⟩ := hm
    show vpt (A' f.d.frm) = vpt (A f.d.frm)
    rw [h _ h1.fr]
theorem FrM.upd {w : World} {A A' : Nat → Nat} {C : Nat → Prop} {bd bd' : Nat} (hb : bd ≤ bd') (h : ∀ k, k < bd → A' k = A k) : ∀ {l : List Fm} {ex : List Value} {M : Nat → Prop}, FrM w A C bd l ex M → FrM w A' C bd' l ex M
  | [], _, _, x => x
  | f :: r, ex, M, ⟨sv, M', h1, h2, h3, h4, h5⟩ => by
    have e : A' f.d.frm = A f.d.frm := h _ h1.fr
    have em : f.ws.map (pvp A') = f.ws.map (pvp A) := by
      apply List.map_congr_left
      intro c hc
      obtain ⟨i, hi, rfl⟩ := List.mem_iff_getElem.1 hc
      exact pvp_upd h (h1.ks i hi).2.1
    refine ⟨sv, M', ⟨by rw [e, parP_upd h h5]; exact h1.b, by rw [em]; exact h1.o, h1.d, fun i hi => ⟨?_, (h1.ks i hi).2.1.up hb, (h1.ks i hi).2.2⟩, by rw [e]; exact h1.nb, by rw [e]; exact h1.nc, Nat.lt_of_lt_of_le h1.fr hb⟩, fun k => by rw [e]; exact h2 k, by rw [e]; exact h3, h4, ?_⟩
    · rw [e]; exact PT.upd h _ _ i _ (h1.ks i hi).2.1 (h1.ks i hi).1
    rw [e]; exact FrM.upd hb h h5
theorem FrM.grow {w : World} {A : Nat → Nat} {C C' : Nat → Prop} {bd : Nat} (hC : ∀ k, C k → C' k) : ∀ {l : List Fm} {ex : List Value} {M : Nat → Prop}, FrM w A C bd l ex M → (∀ k, M k → ¬ C' k) → FrM w A C' bd l ex M
  | [], _, _, h, _ => h
  | _ :: _, _, _, ⟨sv, M', h1, h2, h3, h4, h5⟩, hM =>
    ⟨sv, M', ⟨h1.b, h1.o, h1.d, fun i hi => ⟨PT.more hC _ _ _ _ (h1.ks i hi).1, (h1.ks i hi).2⟩, h1.nb, ⟨hM _ ((h2 _).2 (Or.inl rfl)), fun k hk => hM k ((h2 k).2 (Or.inr (Or.inl hk)))⟩, h1.fr⟩, h2, h3, h4, h5.grow hC (fun k hk => hM k ((h2 k).2 (Or.inr (Or.inr hk))))⟩
theorem FrM.close {w : World} {A : Nat → Nat} {C : Nat → Prop} {bd : Nat} {f : Fm} {r : List Fm} {M : Nat → Prop} (h : FrM w A C bd (f :: r) [] M) (hl : r.length ≤ 8) (hws : f.ws.length ≤ 4000000) (hix : f.kp = true → ∀ p q, r = p :: q → f.ix = p.ws.length)
    (hp : f.d.path = gPath r f.ix f.d.name) :
    ∃ C' M', (∀ k, C' k → C k ∨ M k) ∧ (∀ k, C k → C' k) ∧ (∀ k, M' k → M k) ∧ FrM w A C' bd (gOn r f.kp ⟨f.d, f.ws⟩) [] M' ∧ PT w A C' (9 - r.length + 1) (parP A r) f.ix ⟨f.d, f.ws⟩ ∧ FB bd (9 - r.length + 1) ⟨f.d, f.ws⟩ := by
  obtain ⟨sv, M', h1, h2, h3, h4, h5⟩ := h
  have hCM : ∀ k, (C k ∨ k = A f.d.frm ∨ sv.ownBlock = some k) → ¬ M' k := fun k hk hm => by
    rcases hk with x | x | x
    · exact (h5.lt k hm).2 x
    · rw [x] at hm; exact h3 hm
    exact h4 k x hm
  have ho := h1.o
  simp only [List.length_nil, Nat.add_zero, List.append_nil] at ho
  have hPT : PT w A (fun k => C k ∨ k = A f.d.frm ∨ sv.ownBlock = some k) (9 - r.length + 1) (parP A r) f.ix ⟨f.d, f.ws⟩ :=
    ⟨Or.inr (Or.inl rfl), h1.d, hws, ⟨sv, h1.b, fun k hk => Or.inr (Or.inr hk), ho⟩, fun i hi => PT.more (fun k hk => Or.inl hk) _ _ _ _ (h1.ks i hi).1⟩
  have hFB : FB bd (9 - r.length + 1) ⟨f.d, f.ws⟩ := ⟨h1.fr, fun i hi => (h1.ks i hi).2⟩
  refine ⟨fun k => C k ∨ k = A f.d.frm ∨ sv.ownBlock = some k, M', fun k hk => ?_, fun k => Or.inl, fun k hk => (h2 k).2 (Or.inr (Or.inr hk)), ?_, hPT, hFB⟩
  · rcases hk with x | x | x
    · exact Or.inl x
    · exact Or.inr ((h2 k).2 (Or.inl x))
    exact Or.inr ((h2 k).2 (Or.inr (Or.inl x)))
  cases r with
  | nil => exact h5
  | cons p q =>
    obtain ⟨sv2, M2, g1, g2, g3, g4, g5⟩ := h5
    have hnc : ¬ (C (A p.d.frm) ∨ A p.d.frm = A f.d.frm ∨ sv.ownBlock = some (A p.d.frm)) ∧ ∀ k, sv2.ownBlock = some k → ¬ (C k ∨ k = A f.d.frm ∨ sv.ownBlock = some k) :=
      ⟨fun x => hCM _ x ((g2 _).2 (Or.inl rfl)), fun k hk x => hCM k x ((g2 k).2 (Or.inr (Or.inl hk)))⟩
    have hq : FrM w A (fun k => C k ∨ k = A f.d.frm ∨ sv.ownBlock = some k) bd q (if p.kp = true then [vpt (A p.d.frm)] else []) M2 := by
      refine FrM.grow (fun k => Or.inl) g5 (fun k hk x => hCM k x ((g2 k).2 (Or.inr (Or.inr hk))))
    show FrM w A _ bd (gKeep p f.kp ⟨f.d, f.ws⟩ :: q) [] M'
    unfold gKeep
    by_cases hkp : f.kp = true
    · rw [if_pos hkp]
      rw [if_pos hkp] at g1
      have hi := hix hkp p q rfl
      have e9 : 9 - q.length = 9 - (p :: q).length + 1 := by simp at hl ⊢; omega
      refine ⟨sv2, M2, ⟨g1.b, ?_, g1.d, fun i hi2 => ?_, g1.nb, hnc, g1.fr⟩, g2, g3, g4, hq⟩
      · have := g1.o
        simpa [pvp, vpt] using this
      by_cases hl2 : i < p.ws.length
      · have e : (p.ws ++ [(⟨f.d, f.ws⟩ : Tv)])[i] = p.ws[i] := List.getElem_append_left hl2
        show PT w A _ _ _ i (p.ws ++ [(⟨f.d, f.ws⟩ : Tv)])[i] ∧ FB bd _ (p.ws ++ [(⟨f.d, f.ws⟩ : Tv)])[i] ∧ _
        rw [e]
        exact ⟨PT.more (fun k => Or.inl) _ _ _ _ (g1.ks i hl2).1, (g1.ks i hl2).2⟩
      have ei : i = p.ws.length := by simp at hi2; omega
      subst ei
      have e : (p.ws ++ [(⟨f.d, f.ws⟩ : Tv)])[p.ws.length] = ⟨f.d, f.ws⟩ := by simp
      show PT w A _ _ _ _ (p.ws ++ [(⟨f.d, f.ws⟩ : Tv)])[p.ws.length] ∧ FB bd _ (p.ws ++ [(⟨f.d, f.ws⟩ : Tv)])[p.ws.length] ∧ _
      rw [e, e9, ← hi]
      exact ⟨hPT, hFB, hp⟩
    rw [if_neg hkp]
    rw [if_neg hkp] at g1
    exact ⟨sv2, M2, ⟨g1.b, g1.o, g1.d, fun i hi => ⟨PT.more (fun k => Or.inl) _ _ _ _ (g1.ks i hi).1, (g1.ks i hi).2⟩, g1.nb, hnc, g1.fr⟩, g2, g3, g4, hq⟩
theorem FrM.fr {K : Nat → Prop} {w w' : World} {A : Nat → Nat} {C : Nat → Prop} {bd : Nat} {l : List Fm} {ex : List Value} {M : Nat → Prop} (h : FrM w A C bd l ex M) (hC : ∀ k, C k → k < w.heap.size) (f : Fr K w w') (hK : ∀ k, K k → ¬ M k ∧ ¬ C k) : FrM w' A C bd l ex M :=
  h.keep (fun k hk => f.block k (hC k hk) (fun x => (hK k x).2 hk)) (fun k hk => f.block k (h.lt k hk).1 (fun x => (hK k x).1 hk))
def updA (A : Nat → Nat) (frm b : Nat) : Nat → Nat := fun k => if k = frm then b else A k
theorem updA_self (A : Nat → Nat) (frm b : Nat) : updA A frm b frm = b := by simp [updA]
theorem updA_ne (A : Nat → Nat) {frm b k : Nat} (h : k ≠ frm) : updA A frm b k = A k := by simp [updA, h]
theorem FrM.new {w w' : World} {A : Nat → Nat} {C : Nat → Prop} {bd : Nat} {r : List Fm} {M : Nat → Prop} (h : FrM w A C bd r [] M) (hC : ∀ k, C k → k < w.heap.size) {f : Fm} {b : Nat} (hbw : w.heap.size ≤ b) (hb : Blk w' b (pcl f.d (parP A r) f.ix (.slice none 0 0)) 130) (hk : Keeps w w') (hf : bd ≤ f.d.frm) (hkp : f.kp = false) (hws : f.ws = []) (hd : DOk f.d) :
    FrM w' (updA A f.d.frm b) C (f.d.frm + 1) (f :: r) [] (fun k => k = b ∨ M k) := by
  have hA : ∀ k, k < bd → updA A f.d.frm b k = A k := fun k hk => updA_ne A (by omega)
  have h' : FrM w' A C bd r [] M := h.fr hC hk (fun _ x => x.elim)
  have e : updA A f.d.frm b f.d.frm = b := updA_self _ _ _
  have hMb : ¬ M b := fun x => by have := (h.lt b x).1; omega
  have hCb : ¬ C b := fun x => by have := hC b x; omega
  refine ⟨.slice none 0 0, M, ⟨?_, ?_, hd, fun i hi => ?_, (fun x => by cases x), ?_, Nat.lt_succ_self _⟩, fun k => ?_, ?_, (fun k x => by cases x), ?_⟩
  · rw [e, parP_upd hA h]; exact hb
  · rw [hws]; exact World.ownsRow_nil _ _ _ _
  · rw [hws] at hi; exact absurd hi (Nat.not_lt_zero _)
  · rw [e]; exact ⟨hCb, fun k x => by cases x⟩
  · rw [e]
    constructor
    · rintro (x | x)
      · exact Or.inl x
      exact Or.inr (Or.inr x)
    rintro (x | x | x)
    · exact Or.inl x
    · cases x
    exact Or.inr x
  · rw [e]; exact hMb
  rw [hkp]
  exact h'.upd (by omega) hA
theorem FrM.kept {w w1 w2 : World} {A : Nat → Nat} {C : Nat → Prop} {bd : Nat} {f p : Fm} {q : List Fm} {sv sv2 v' : Value} {M' M2 : Nat → Prop} (h1 : FrO w A C bd (9 - (p :: q).length) (parP A (p :: q)) f [] sv) (h3 : ¬ M' (A f.d.frm)) (h4 : ∀ k, sv.ownBlock = some k → ¬ M' k)
    (g1 : FrO w A C bd (9 - q.length) (parP A q) p [] sv2) (g2 : ∀ k, M' k ↔ k = A p.d.frm ∨ sv2.ownBlock = some k ∨ M2 k) (g3 : ¬ M2 (A p.d.frm)) (g4 : ∀ k, sv2.ownBlock = some k → ¬ M2 k) (g5 : FrM w A C bd q (if p.kp = true then [vpt (A p.d.frm)] else []) M2)
    (hC : ∀ k, C k → k < w.heap.size) (f1 : Keeps w w1) (hg : w1.grownBy w2 sv2.ownBlock) (ho : w2.ownsRow 0 71 1 v' (p.ws.length + 1) (p.ws.map (pvp A) ++ [vpt (A f.d.frm)])) (hvb : v'.ownBlock = sv2.ownBlock ∨ v'.ownBlock = some w1.heap.size) :
    FrM (w2.setCell ⟨A p.d.frm, 8, none⟩ v') A C bd ({ f with kp := true } :: p :: q) [] (fun k => k = A f.d.frm ∨ sv.ownBlock = some k ∨ k = A p.d.frm ∨ v'.ownBlock = some k ∨ M2 k) ∧
    Fr (fun k => k = A p.d.frm ∨ sv2.ownBlock = some k) w (w2.setCell ⟨A p.d.frm, 8, none⟩ v') := by
  have kb : ∀ k, k < w.heap.size → k ≠ A p.d.frm → sv2.ownBlock ≠ some k → (w2.setCell ⟨A p.d.frm, 8, none⟩ v').heap[k]? = w.heap[k]? := fun k hk hp hn => by
    rw [Below.heap_setCell _ _ _ _ (fun e => hp e), hg.block k (Nat.lt_of_lt_of_le hk f1.size) (fun e => hn e.symm), f1.block k hk id]
  have kC : Sm C w (w2.setCell ⟨A p.d.frm, 8, none⟩ v') := fun k hk => kb k (hC k hk) (fun e => g1.nc.1 (e ▸ hk)) (fun e => g1.nc.2 k e hk)
  have hpf : A f.d.frm ≠ A p.d.frm := fun e => h3 (e ▸ (g2 _).2 (Or.inl rfl))
  have hsf : sv2.ownBlock ≠ some (A f.d.frm) := fun e => h3 ((g2 _).2 (Or.inr (Or.inl e)))
  have hv : ∀ k, v'.ownBlock = some k → sv2.ownBlock = some k ∨ w.heap.size ≤ k := fun k hk => by
    rcases hvb with x | x
    · exact Or.inl (x.symm.trans hk)
    have : w1.heap.size = k := Option.some.inj (x.symm.trans hk)
    have := f1.size
    exact Or.inr (by omega)
  have hplt := g1.b.lt
  have b2 : Blk w2 (A p.d.frm) (pcl p.d (parP A q) p.ix sv2) 130 := by
    show w2.heap[A p.d.frm]? = _
    rw [hg.block _ (Nat.lt_of_lt_of_le hplt f1.size) (fun e => g1.nb e.symm), f1.block _ hplt id]; exact g1.b
  have hvp : v'.ownBlock ≠ some (A p.d.frm) := fun e => by
    rcases hv _ e with x | x
    · exact g1.nb x
    omega
  have hvC : ∀ k, v'.ownBlock = some k → ¬ C k := fun k hk x => by
    rcases hv k hk with y | y
    · exact g1.nc.2 k y x
    have := hC k x; omega
  have hvM : ∀ k, v'.ownBlock = some k → ¬ M2 k := fun k hk x => by
    rcases hv k hk with y | y
    · exact g4 k y x
    have := (g5.lt k x).1; omega
  have hvf : v'.ownBlock ≠ some (A f.d.frm) := fun e => by
    rcases hv _ e with x | x
    · exact hsf x
    have := h1.b.lt; omega
  have hvs : ∀ k, sv.ownBlock = some k → v'.ownBlock ≠ some k := fun k hk e => by
    rcases hv k e with x | x
    · exact h4 k hk ((g2 k).2 (Or.inr (Or.inl x)))
    have := (h1.o.lt k hk).2; omega
  refine ⟨⟨sv, fun k => k = A p.d.frm ∨ v'.ownBlock = some k ∨ M2 k, ⟨(kb _ h1.b.lt hpf hsf).trans h1.b, own_at' h1.o (fun k hk => kb k (h1.o.lt k hk).2 (fun e => h4 k hk ((g2 k).2 (Or.inl e))) (fun e => h4 k hk ((g2 k).2 (Or.inr (Or.inl e))))), h1.d, fun i hi => ⟨(h1.ks i hi).1.keep kC, (h1.ks i hi).2⟩, h1.nb, h1.nc, h1.fr⟩, fun _ => Iff.rfl, ?_, ?_, ?_⟩, ⟨?_, ?_, ?_, ?_, fun k hk hn => ?_⟩⟩
  · rintro (x | x | x)
    · exact hpf x
    · exact hvf x
    exact h3 ((g2 _).2 (Or.inr (Or.inr x)))
  · rintro k hk (x | x | x)
    · exact h4 k hk ((g2 k).2 (Or.inl x))
    · exact hvs k hk x
    exact h4 k hk ((g2 k).2 (Or.inr (Or.inr x)))
  · refine ⟨v', M2, ⟨b2.set 8 v', ?_, g1.d, fun i hi => ⟨(g1.ks i hi).1.keep kC, (g1.ks i hi).2⟩, hvp, ⟨g1.nc.1, hvC⟩, g1.fr⟩, fun _ => Iff.rfl, g3, hvM, ?_⟩
    · show World.ownsRow _ _ _ _ _ (p.ws.length + 1) (p.ws.map (pvp A) ++ [vpt (A f.d.frm)])
      exact own_at' ho (fun k hk => Below.heap_setCell _ _ _ _ (fun e => hvp (by rw [hk]; exact congrArg some e)))
    exact g5.keep kC (fun k hk => kb k (g5.lt k hk).1 (fun e => g3 (e ▸ hk)) (fun e => g4 k e hk))
  · exact hg.os.trans f1.os
  · exact hg.tape.trans f1.tape
  · exact hg.output.trans f1.output
  · exact Nat.le_trans f1.size (Nat.le_trans hg.size (by simp [World.setCell]))
  exact kb k hk (fun e => hn (Or.inl e)) (fun e => hn (Or.inr e))
end Go.Proofs.YtcbadebjpogmlaaGreatDoor
namespace Go.Proofs.YtcbadebjpogmlaaGreatDoor
open Go.RowKit Tr
theorem cntT_len (xs : List Sg) : ∀ (n : Nat) (t : Tv) (tl : List Ct), (cntT xs n t tl).length ≤ (allT n t).length
  | 0, _, _ => Nat.le_refl _
  | n + 1, t, tl => by
    show ((t.ws.zipIdx.flatMap (fun p => cntT xs n p.1 (tlOf xs t.d.kind t.ws.length p.2 p.1 tl))) ++ (if 0 < (ctAt tl xs.length).its then [(t, (ctAt tl xs.length).its)] else [])).length ≤ (t :: t.ws.flatMap (allT n)).length
    have key : ∀ (l : List Tv) (i m : Nat), ((l.zipIdx i).flatMap (fun p => cntT xs n p.1 (tlOf xs t.d.kind m p.2 p.1 tl))).length ≤ (l.flatMap (allT n)).length := by
      intro l
      induction l with
      | nil => intro _ _; simp
      | cons a l ih =>
        intro i m
        have h1 := ih (i + 1) m
        have h2 := cntT_len xs n a (tlOf xs t.d.kind m i a tl)
        simp only [List.zipIdx_cons, List.flatMap_cons, List.length_append]
        omega
    have h1 := key t.ws 0 t.ws.length
    rw [List.length_append, List.length_cons]
    split <;> simp only [List.length_cons, List.length_nil] <;> omega
theorem all_take_len (n : Nat) (ws : List Tv) (j : Nat) : ((ws.take j).flatMap (allT n)).length ≤ (ws.flatMap (allT n)).length := by
  have e : ws.flatMap (allT n) = (ws.take j).flatMap (allT n) ++ (ws.drop j).flatMap (allT n) := by rw [← List.flatMap_append, List.take_append_drop]
  rw [e, List.length_append]; omega
structure TellV (fv : Value) (PW : World → Prop) (R : World → (Nat → Prop) → List (Tv × Nat) → Prop) (A : Nat → Nat) (ok : Tv → Prop) : Prop where
  lt : ∀ {W D ts k}, R W D ts → D k → k < W.heap.size
  w0 : ∀ {W D ts}, R W D ts → PW W
  keep : ∀ {W W' D ts}, R W D ts → Keeps W W' → R W' D ts
  call : ∃ N first cap, fv = .func (.func N) first cap ∧ (∀ args w, (callFunc N args).run Tryz.prog w = .ok (.enter N args) w) ∧
    ∀ {W : World} {D : Nat → Prop} {ts : List (Tv × Nat)} {v : Tv} {k : Nat}, R W D ts → ok v → k ≤ 524288 → ts.length < 5000000 →
      Calls Tryz.prog N (first ++ (#[vpt (A v.d.frm), .int .i64 (k : Nat)] ++ cap)) W fun r W' => r = .returned (.tuple #[]) ∧ ∃ D', R W' D' (ts ++ [(v, k)]) ∧ (∀ k, D' k → D k ∨ W.heap.size ≤ k) ∧ Fr D W W'
def kidF (xs : List Sg) (n : Nat) (t : Tv) (tl : List Ct) (j : Nat) : List (Tv × Nat) := (t.ws.zipIdx.take j).flatMap (fun p => cntT xs n p.1 (tlOf xs t.d.kind t.ws.length p.2 p.1 tl))
theorem kidF_succ (xs : List Sg) (n : Nat) (t : Tv) (tl : List Ct) {j : Nat} (h : j < t.ws.length) : kidF xs n t tl (j + 1) = kidF xs n t tl j ++ cntT xs n t.ws[j] (tlOf xs t.d.kind t.ws.length j t.ws[j] tl) := by
  unfold kidF
  have hz : j < t.ws.zipIdx.length := by simpa using h
  rw [List.take_succ_eq_append_getElem hz, List.flatMap_append]
  simp
theorem kidF_len (xs : List Sg) (n : Nat) (t : Tv) (tl : List Ct) : ∀ j, j ≤ t.ws.length → (kidF xs n t tl j).length ≤ ((t.ws.take j).flatMap (allT n)).length
  | 0, _ => by simp [kidF]
  | j + 1, h => by
    rw [kidF_succ xs n t tl (by omega), List.take_succ_eq_append_getElem (by omega), List.flatMap_append, List.length_append, List.length_append]
    have h1 := kidF_len xs n t tl j (by omega)
    have h2 := cntT_len xs n t.ws[j] (tlOf xs t.d.kind t.ws.length j t.ws[j] tl)
    simp only [List.flatMap_cons, List.flatMap_nil, List.append_nil]
    omega
set_option maxHeartbeats 4000000 in
set_option maxRecDepth 100000 in
theorem p_count {PW : World → Prop} {b : Nat} {tt : ByteArray} {xs : List Sg} (hp : ∀ W, PW W → PlanV W b tt xs) (hx : xs.length ≤ 10) (hsel : selN xs ≤ 10) {fv : Value} {R : World → (Nat → Prop) → List (Tv × Nat) → Prop} {A : Nat → Nat} {ok : Tv → Prop} (hV : TellV fv PW R A ok) {C : Nat → Prop} :
    ∀ (n : Nat) {par : Value} {ix : Nat} {t : Tv} {d : Nat} {tl : List Ct} {w : World} {D : Nat → Prop} {ts : List (Tv × Nat)}, n + d ≤ 10 → CtB xs d tl → R w D ts → PT w A C n par ix t → (∀ k, C k → k < w.heap.size ∧ ¬ D k) → (∀ v ∈ allT n t, ok v) → ts.length + (allT n t).length ≤ 5000000 →
    Calls Tryz.prog 108 #[.pointer (some ⟨b, 0, none⟩), vpt (A t.d.frm), .agg (tlc tl).toArray, fv] w (fun r w' => r = .returned (.tuple #[]) ∧ ∃ D', R w' D' (ts ++ cntT xs n t tl) ∧ (∀ k, D' k → D k ∨ w.heap.size ≤ k) ∧ Fr D w w')
  | 0, _, _, _, _, _, _, _, _, _, _, _, h, _, _, _ => h.elim
  | n + 1, par, ix, t, d, tl, w, D, ts, hnd, hb, hR, hT, hC, hok, hlen => by
    obtain ⟨N, first, cap, hfv, hE, hcall⟩ := hV.call
    have hT0 := hT
    obtain ⟨hCA, hDO, hwl, ⟨sv, hbt, hsvC, hown⟩, hkids⟩ := hT
    obtain ⟨ao, cp, rfl⟩ := own_slice hown
    obtain ⟨W1, hW1⟩ : ∃ W1, W1 = w.alloc (.cells (tlc tl).toArray 202) := ⟨_, rfl⟩
    have K1 : Keeps w W1 := by rw [hW1]; exact (Fr.refl _ w).alloc _
    have hs1 : W1.heap.size = w.heap.size + 1 := by rw [hW1, World.size_alloc]
    have tb1 : Blk W1 w.heap.size (tlc tl).toArray 202 := by rw [hW1]; exact Blk.new w _ _
    have c8 : W1.cell? ⟨A t.d.frm, 8, none⟩ = some (.slice ao t.ws.length cp) := (hbt.fr K1 id).cell 8
    have R1 := hV.keep hR K1
    have hDl : ∀ k, D k → k < w.heap.size := fun k hk => hV.lt hR hk
    have l0 : (t :: t.ws.flatMap (allT n)).length = (allT (n + 1) t).length := rfl
    rw [← l0, List.length_cons] at hlen
    -- what a round finds
    have ROUND : Hid (∀ (j : Nat) (D1 : Nat → Prop) (wr : World), j < t.ws.length → R wr D1 (ts ++ kidF xs n t tl j) → (∀ k, D1 k → D k ∨ W1.heap.size ≤ k) → Fr D W1 wr →
        ∃ g, ao = some ⟨g, 0, none⟩ ∧ ∃ kb, wr.cell? ⟨g, j, none⟩ = some (.pointer (some ⟨kb, 0, none⟩)) ∧ wr.rangeAt w.heap.size 0 (tlc tl) ∧
          ∃ tl', Calls Tryz.prog 143 #[.pointer (some ⟨b, 0, none⟩), .pointer (some ⟨kb, 0, none⟩), .agg (tlc tl).toArray] wr (fun r w2 => r = .returned (.agg (tlc tl').toArray) ∧ Keeps wr w2) ∧
          ∀ w2, Keeps wr w2 → Calls Tryz.prog 108 #[.pointer (some ⟨b, 0, none⟩), .pointer (some ⟨kb, 0, none⟩), .agg (tlc tl').toArray, .func (.func N) first cap] w2 (fun r w3 => r = .returned (.tuple #[]) ∧ ∃ D3, R w3 D3 (ts ++ kidF xs n t tl (j + 1)) ∧ (∀ k, D3 k → D k ∨ W1.heap.size ≤ k) ∧ Fr D W1 w3)) := fun j D1 wr hj hRr hD1 hfr => by
      obtain ⟨g, cap', hv', _, hgl⟩ := hown.form (by omega)
      simp only [Value.slice.injEq, true_and] at hv'
      obtain ⟨rfl, rfl⟩ := hv'
      have hsm : ∀ k, k < w.heap.size → ¬ D k → wr.heap[k]? = w.heap[k]? := fun k hk hn => (hfr.block k (by rw [hs1]; omega) hn).trans (K1.block k hk id)
      have hSC : Sm C w wr := fun k hk => hsm k (hC k hk).1 (hC k hk).2
      have hTr : PT wr A C (n + 1) par ix t := PT.keep hSC _ _ _ _ hT0
      have hgC : C g := hsvC g rfl
      have ptr : wr.cell? ⟨g, j, none⟩ = some (pvp A t.ws[j]) := by
        rw [World.cell?_of_block (a := ⟨g, j, none⟩) (hsm g hgl (hC g hgC).2), hown.cellAt j (by omega)]
        simp [hj]
      refine ⟨g, rfl, A (t.ws[j]).d.frm, ptr, fun i v hv => ?_, tlOf xs t.d.kind t.ws.length j t.ws[j] tl, ?_, fun w2 hk2 => ?_⟩
      · have hbr : Blk wr w.heap.size (tlc tl).toArray 202 := tb1.fr hfr (fun e => by have := hDl _ e; omega)
        rw [Nat.zero_add, hbr.cell i, List.getElem?_toArray]; exact hv
      · obtain ⟨_, _, _, ⟨sv2, hb2, _, ho2⟩, hk2⟩ := hTr
        have hkj := hk2 j hj
        cases n with
        | zero => exact hkj.elim
        | succ m =>
          have hkj0 := hkj
          obtain ⟨_, hdo, _, ⟨svk, hbk, _, hok2⟩, _⟩ := hkj
          have hd8 : d ≤ 8 := by omega
          refine p_tallyOf (hp wr (hV.w0 hRr)) hx hsel hb hd8 (pb := A t.d.frm) ⟨⟨svk, hbk⟩, ⟨t.d, par, ix, hb2, hDO, rfl⟩, by omega⟩ (fun k hk _ _ => ?_)
          obtain ⟨a2, c2, rfl⟩ := own_slice ho2
          exact ⟨⟨_, _, rfl⟩, hwl, A, C, m + 1, _, j, hkj0, rfl⟩
      have hR2 := hV.keep hRr hk2
      have hT2 : PT w2 A C n (pvp A t) j t.ws[j] := (PT.keep (fun k hk => (hk2.block k (Nat.lt_of_lt_of_le (hC k hk).1 (by have := hfr.size; omega)) id)) _ _ _ _ hTr).2.2.2.2 j hj
      have hsub : ∀ v ∈ allT n t.ws[j], ok v := fun v hv => hok v (List.mem_cons_of_mem _ (List.mem_flatMap.2 ⟨t.ws[j], List.getElem_mem hj, hv⟩))
      have hl2 : (ts ++ kidF xs n t tl j).length + (allT n t.ws[j]).length ≤ 5000000 := by
        have a1 := kidF_len xs n t tl j (by omega)
        have a2 := all_take_len n t.ws (j + 1)
        rw [List.take_succ_eq_append_getElem hj, List.flatMap_append, List.length_append] at a2
        simp only [List.flatMap_cons, List.flatMap_nil, List.append_nil] at a2
        rw [List.length_append]
        omega
      have := p_count hp hx hsel hV n (by omega) (ctb_kid hb t.d.kind t.ws.length j t.ws[j]) hR2 hT2 (fun k hk => ⟨Nat.lt_of_lt_of_le (hC k hk).1 (by have := hfr.size; have := hk2.size; omega), fun e => (hD1 k e).elim (hC k hk).2 (fun y => by have := (hC k hk).1; omega)⟩) hsub hl2
      rw [hfv] at this
      refine this.mono ?_
      rintro r w3 ⟨rfl, D3, q1, q2, q3⟩
      refine ⟨rfl, D3, by rw [kidF_succ xs n t tl hj, ← List.append_assoc]; exact q1, fun k hk => ?_, ?_⟩
      · rcases q2 k hk with y | y
        · exact hD1 k y
        exact Or.inr (by have := hfr.size; have := hk2.size; omega)
      refine ⟨q3.os.trans (hk2.os.trans hfr.os), q3.tape.trans (hk2.tape.trans hfr.tape), q3.output.trans (hk2.output.trans hfr.output), Nat.le_trans hfr.size (Nat.le_trans hk2.size q3.size), fun k hk hn => ?_⟩
      have k1 : k < wr.heap.size := Nat.lt_of_lt_of_le hk hfr.size
      rw [q3.block k (Nat.lt_of_lt_of_le k1 hk2.size) (fun e => (hD1 k e).elim hn (fun y => by omega)), hk2.block k k1 id, hfr.block k hk hn]
    obtain ⟨P, hP⟩ : ∃ P : World → Prop, P = fun w' => ∃ D', R w' D' (ts ++ cntT xs (n + 1) t tl) ∧ (∀ k, D' k → D k ∨ w.heap.size ≤ k) ∧ Fr D w w' := ⟨_, rfl⟩
    have hzip : t.ws.zipIdx.take t.ws.length = t.ws.zipIdx := List.take_of_length_le (by simp)
    have LAST : Hid (∀ (D1 : Nat → Prop) (wr : World), R wr D1 (ts ++ kidF xs n t tl t.ws.length) → (∀ k, D1 k → D k ∨ W1.heap.size ≤ k) → Fr D W1 wr →
        (∃ ap cpp, wr.cell? ⟨b, 1, none⟩ = some (.slice ap xs.length cpp)) ∧ wr.cell? ⟨w.heap.size, xs.length * 2, none⟩ = some (.int .i64 ((ctAt tl xs.length).its : Nat)) ∧
        ((ctAt tl xs.length).its = 0 → P wr) ∧ (0 < (ctAt tl xs.length).its → Calls Tryz.prog N (first ++ (#[.pointer (some ⟨A t.d.frm, 0, none⟩), .int .i64 ((ctAt tl xs.length).its : Nat)] ++ cap)) wr fun r w' => r = .returned (.tuple #[]) ∧ P w')) := fun D1 wr hRr hD1 hfr => by
      have hfr0 : Fr D w wr := (K1.mono (fun _ _ e => e.elim)).trans hfr
      refine ⟨?_, ?_, fun h0 => ?_, fun h0 => ?_⟩
      · obtain ⟨sv', l, Dp, hbk, hrow, hxl, _⟩ := hp wr (hV.w0 hRr)
        obtain ⟨ap, cpp, rfl⟩ := own_slice hrow.o
        rw [← hxl] at hbk
        exact ⟨ap, cpp, hbk.cell 1⟩
      · have hbr : Blk wr w.heap.size (tlc tl).toArray 202 := tb1.fr hfr (fun e => by have := hDl _ e; omega)
        rw [hbr.cell, List.getElem?_toArray]
        exact (tlc_at tl _ (by omega)).1
      · rw [hP]
        refine ⟨D1, ?_, fun k hk => (hD1 k hk).imp id (fun y => by omega), hfr0⟩
        have e : cntT xs (n + 1) t tl = kidF xs n t tl t.ws.length := by
          show _ ++ (if _ then _ else _) = _
          rw [if_neg (by omega), List.append_nil]
          unfold kidF; rw [hzip]
        rw [e]; exact hRr
      have a1 := kidF_len xs n t tl t.ws.length (Nat.le_refl _)
      rw [List.take_length] at a1
      have hsl : (ts ++ kidF xs n t tl t.ws.length).length < 5000000 := by rw [List.length_append]; omega
      refine (hcall hRr (hok t List.mem_cons_self) (hb.lt (by omega) hsel xs.length).1 hsl).mono ?_
      rintro r w' ⟨rfl, D', q1, q2, q3⟩
      refine ⟨rfl, ?_⟩
      rw [hP]
      have e : cntT xs (n + 1) t tl = kidF xs n t tl t.ws.length ++ [(t, (ctAt tl xs.length).its)] := by
        show _ ++ (if _ then _ else _) = _
        rw [if_pos h0]
        unfold kidF; rw [hzip]
      refine ⟨D', by rw [e, ← List.append_assoc]; exact q1, fun k hk => ?_, ?_⟩
      · rcases q2 k hk with y | y
        · exact (hD1 k y).imp id (fun y => by omega)
        exact Or.inr (by have := hfr0.size; omega)
      refine ⟨q3.os.trans hfr0.os, q3.tape.trans hfr0.tape, q3.output.trans hfr0.output, Nat.le_trans hfr0.size q3.size, fun k hk hn => ?_⟩
      rw [q3.block k (Nat.lt_of_lt_of_le hk hfr0.size) (fun e => (hD1 k e).elim hn (fun y => by omega)), hfr0.block k hk hn]
    have RR1 : Hid (R W1 D (ts ++ kidF xs n t tl 0)) := by
      have e : kidF xs n t tl 0 = [] := by simp [kidF]
      unfold Hid; rw [e, List.append_nil]; exact R1
    have IA : Hid ((Tryz.prog.info? 202).map (·.size) = some (tlc tl).length) := by rw [tlc_len]; exact infoTally
    have hib := (hb.lt (by omega) hsel xs.length).1
    have GOAL : Hid (∀ w', P w' → ∃ D', R w' D' (ts ++ cntT xs (n + 1) t tl) ∧ (∀ k, D' k → D k ∨ w.heap.size ≤ k) ∧ Fr D w w') := fun w' h => by rw [hP] at h; exact h
    have HW1 : Hid (W1 = w.alloc (.cells (tlc tl).toArray 202)) := hW1
    have HE := hide hE
    obtain ⟨cs, hcs⟩ : ∃ cs, cs = (tlc tl).toArray := ⟨_, rfl⟩
    obtain ⟨m, hm⟩ : ∃ m, m = t.ws.length := ⟨_, rfl⟩
    obtain ⟨its, hits⟩ : ∃ its, its = (ctAt tl xs.length).its := ⟨_, rfl⟩
    obtain ⟨vb, hvb⟩ : ∃ vb, vb = A t.d.frm := ⟨_, rfl⟩
    have HDW : Hid (∀ k, D k → D k ∨ W1.heap.size ≤ k) := fun k => Or.inl
    subst hfv
    unfold vpt
    rw [← hm, ← hvb] at c8
    rw [← hm] at hwl
    rw [← hits, ← hvb] at LAST
    rw [← hits] at hib
    rw [← hm] at LAST ROUND
    rw [← hcs] at HW1 ⊢
    rw [← hvb]
    have HCS := hide hcs
    clear hcall hT0 hCA hDO hbt hsvC hown hkids hW1 K1 hs1 tb1 R1 hDl l0 hlen hnd hb hR hC hok hP hzip hE hcs hm hits hvb hp hV hsel
    go_enter Tryz.func108, Tryz.ntmps108
    apply wp_seq_k; intro K0 hK0
    apply wp_region_lit
    refine Great.wpList_boxTo rfl 202 _ rfl (some 6) rfl w.heap.size rfl cs rfl ?_
    rw [← HW1.out]
    simp only [Act.put, List.setIfInBounds_toArray, List.set_cons_zero, List.set_cons_succ]
    apply wpList_nil
    refine hK0 _ _ ?_
    clear K0 hK0
    go_wp2
    go_loopw [16] (fun ii wr => ∃ (j : Nat) (D1 : Nat → Prop), j ≤ m ∧ ii = .int .i64 j ∧ R wr D1 (ts ++ kidF xs n t tl j) ∧ (∀ k, D1 k → D k ∨ W1.heap.size ≤ k) ∧ Fr D W1 wr) (fun ii _ => m - (intOf ii).toNat)
    case atStart => exact ⟨0, D, Nat.zero_le _, rfl, RR1.out, HDW.out, Fr.refl _ _⟩
    case round =>
      obtain ⟨j, D1, hj, rfl, q1, q2, q3⟩ := hrel
      by_cases hlt : j < m
      · obtain ⟨g, rfl, kb, kc, ra, tl', tal, cnt⟩ := ROUND.out j D1 wr hlt q1 q2 q3
        have RA := hide ra
        have TAL := hide tal
        have CNT := hide cnt
        clear q1 q2 q3 ra tal cnt ROUND LAST c8
        go_wp2_with (refine wpList_load_mid rfl 202 (.tmp 6) rfl w.heap.size 0 rfl (tlc tl) (.array 11 200) RA.out (by kernel_rfl) rfl IA.out ?_)
        refine TAL.out.mono ?_
        rintro r w2 ⟨rfl, hk2⟩
        have CN := hide (CNT.out w2 hk2)
        clear hk2
        go_wp2_with fail
        refine CN.out.mono ?_
        rintro r w3 ⟨rfl, D3, p1, p2, p3⟩
        have P1 := hide p1
        have P2 := hide p2
        have P3 := hide p3
        clear p1 p2 p3
        go_wp2
        go_roundw
        case rel => exact ⟨j + 1, D3, by omega, by go_num, P1.out, P2.out, P3.out⟩
        case measure => simp [intOf]; omega
      have hje : j = m := by omega
      subst hje
      obtain ⟨⟨ap, cpp, e1⟩, e2, e3, e4⟩ := LAST.out D1 wr q1 q2 q3
      have E3 := hide e3
      have E4 := hide e4
      clear q1 q2 q3 e3 e4 ROUND LAST c8
      by_cases h0 : 0 < its
      · have E5 := hide (E4.out h0)
        have hE := HE.out
        go_wp2_with fail
        refine E5.out.mono ?_
        rintro r w2 ⟨rfl, hp2⟩
        have HP2 := hide hp2
        clear hp2
        go_wp2
        go_end0
        exact ⟨rfl, GOAL.out _ HP2.out⟩
      have h00 : its = 0 := by omega
      have E5 := hide (E3.out h00)
      subst h00
      go_wp2
      go_end0
      exact ⟨rfl, GOAL.out _ E5.out⟩
end Go.Proofs.YtcbadebjpogmlaaGreatDoor
namespace Go.Proofs
open Go.Shelf
def Tryz.laysM171_ren : Go.Shelf.Ren := ⟨fun | 171 => 75 | 243 => 103 | 246 => 140 | 283 => 184 | 284 => 185 | 285 => 186 | 286 => 187 | 129 => 227 | 317 => 226 | 318 => 228 | 319 => 229 | 320 => 230 | 337 => 245 | 338 => 246 | n => n, fun | 3 => 3 | 9 => 9 | 2 => 2 | 4 => 4 | 171 => 257 | 0 => 0 | 53 => 258 | 37 => 110 | 5 => 5 | 173 => 261 | 212 => 277 | 51 => 278 | 20 => 20 | 213 => 279 | 46 => 281 | 232 => 304 | 233 => 305 | n => n, fun | 17 => 0 | 18 => 4 | 19 => 5 | n => n⟩
theorem Tryz.laysM171 : Go.Proofs.LaysM.n171 Tryz.prog Tryz.laysM171_ren := {
  mixed := by kernel_rfl
  f129 := Tryz.func227.trans (congrArg some (by kernel_rfl))
  f171 := Tryz.func75.trans (congrArg some (by kernel_rfl))
  f243 := Tryz.func103.trans (congrArg some (by kernel_rfl))
  f246 := Tryz.func140.trans (congrArg some (by kernel_rfl))
  f283 := Tryz.func184.trans (congrArg some (by kernel_rfl))
  f284 := Tryz.func185.trans (congrArg some (by kernel_rfl))
  f285 := Tryz.func186.trans (congrArg some (by kernel_rfl))
  f286 := Tryz.func187.trans (congrArg some (by kernel_rfl))
  f317 := Tryz.func226.trans (congrArg some (by kernel_rfl))
  f318 := Tryz.func228.trans (congrArg some (by kernel_rfl))
  f319 := Tryz.func229.trans (congrArg some (by kernel_rfl))
  f320 := Tryz.func230.trans (congrArg some (by kernel_rfl))
  f337 := Tryz.func245.trans (congrArg some (by kernel_rfl))
  f338 := Tryz.func246.trans (congrArg some (by kernel_rfl))
  t0 := Tryz.underlying0
  a0 := Tryz.isAgg0
  z0 := Tryz.sizeOf0
  v0 := Tryz.zeroValue0
  t2 := Tryz.underlying2
  a2 := Tryz.isAgg2
  z2 := Tryz.sizeOf2
  v2 := Tryz.zeroValue2
  t3 := Tryz.underlying3
  a3 := Tryz.isAgg3
  z3 := Tryz.sizeOf3
  v3 := Tryz.zeroValue3
  t4 := Tryz.underlying4
  a4 := Tryz.isAgg4
  z4 := Tryz.sizeOf4
  v4 := Tryz.zeroValue4
  t5 := Tryz.underlying5
  a5 := Tryz.isAgg5
  z5 := Tryz.sizeOf5
  v5 := Tryz.zeroValue5
  t9 := Tryz.underlying9
  a9 := Tryz.isAgg9
  z9 := Tryz.sizeOf9
  v9 := Tryz.zeroValue9
  t20 := Tryz.underlying20
  a20 := Tryz.isAgg20
  z20 := Tryz.sizeOf20
  v20 := Tryz.zeroValue20
  t37 := Tryz.underlying110
  a37 := Tryz.isAgg110
  z37 := Tryz.sizeOf110
  v37 := Tryz.zeroValue110
  t46 := Tryz.underlying281
  a46 := Tryz.isAgg281
  z46 := Tryz.sizeOf281
  v46 := Tryz.zeroValue281
  t51 := Tryz.underlying278
  a51 := Tryz.isAgg278
  z51 := Tryz.sizeOf278
  v51 := Tryz.zeroValue278
  t53 := Tryz.underlying258
  a53 := Tryz.isAgg258
  z53 := Tryz.sizeOf258
  v53 := Tryz.zeroValue258
  t171 := Tryz.underlying257
  a171 := Tryz.isAgg257
  z171 := Tryz.sizeOf257
  v171 := Tryz.zeroValue257
  t173 := Tryz.underlying261
  a173 := Tryz.isAgg261
  z173 := Tryz.sizeOf261
  v173 := Tryz.zeroValue261
  t212 := Tryz.underlying277
  a212 := Tryz.isAgg277
  z212 := Tryz.sizeOf277
  v212 := Tryz.zeroValue277
  t213 := Tryz.underlying279
  a213 := Tryz.isAgg279
  z213 := Tryz.sizeOf279
  t232 := Tryz.underlying304
  a232 := Tryz.isAgg304
  z232 := Tryz.sizeOf304
  v232 := Tryz.zeroValue304
  t233 := Tryz.underlying305
  a233 := Tryz.isAgg305
  z233 := Tryz.sizeOf305
  v233 := Tryz.zeroValue305
  g17 := by kernel_rfl
  g18 := by kernel_rfl
  g19 := by kernel_rfl
  i0 := by kernel_rfl
  i2 := by kernel_rfl
  i3 := by kernel_rfl
  i4 := by kernel_rfl
  i5 := by kernel_rfl
  i9 := by kernel_rfl
  i20 := by kernel_rfl
  i37 := by kernel_rfl
  i46 := by kernel_rfl
  i51 := by kernel_rfl
  i53 := by kernel_rfl
  i171 := by kernel_rfl
  i173 := by kernel_rfl
  i212 := by kernel_rfl
  i232 := by kernel_rfl
  i233 := by kernel_rfl
  m17 := by kernel_rfl
  m18 := by kernel_rfl
  m19 := by kernel_rfl }
def Tryz.lays155_ren : Go.Shelf.Ren := ⟨fun | 155 => 104 | 154 => 141 | 138 => 188 | 165 => 189 | 143 => 190 | 166 => 86 | 197 => 191 | 169 => 88 | 195 => 231 | 218 => 232 | 240 => 114 | 241 => 233 | 219 => 234 | 260 => 235 | 276 => 158 | 277 => 247 | 217 => 144 | 225 => 248 | 224 => 249 | 267 => 250 | 266 => 192 | 314 => 260 | n => n, fun | 9 => 9 | 3 => 3 | 4 => 4 | 72 => 112 | 0 => 0 | 76 => 181 | 105 => 265 | 21 => 21 | 5 => 5 | 70 => 109 | 20 => 20 | 37 => 110 | 75 => 180 | 127 => 209 | 164 => 234 | 46 => 281 | 119 => 295 | 139 => 298 | 138 => 297 | 146 => 306 | 51 => 278 | 80 => 52 | n => n, fun | 1 => 1 | 3 => 2 | 4 => 3 | n => n⟩
theorem Tryz.lays155 : Go.Proofs.Lays.n155 Tryz.prog Tryz.lays155_ren := {
  mixed := by kernel_rfl
  f138 := Tryz.func188.trans (congrArg some (by kernel_rfl))
  f143 := Tryz.func190.trans (congrArg some (by kernel_rfl))
  f154 := Tryz.func141.trans (congrArg some (by kernel_rfl))
  f155 := Tryz.func104.trans (congrArg some (by kernel_rfl))
  f165 := Tryz.func189.trans (congrArg some (by kernel_rfl))
  f166 := Tryz.func86.trans (congrArg some (by kernel_rfl))
  f169 := Tryz.func88.trans (congrArg some (by kernel_rfl))
  f195 := Tryz.func231.trans (congrArg some (by kernel_rfl))
  f197 := Tryz.func191.trans (congrArg some (by kernel_rfl))
  f217 := Tryz.func144.trans (congrArg some (by kernel_rfl))
  f218 := Tryz.func232.trans (congrArg some (by kernel_rfl))
  f219 := Tryz.func234.trans (congrArg some (by kernel_rfl))
  f224 := Tryz.func249.trans (congrArg some (by kernel_rfl))
  f225 := Tryz.func248.trans (congrArg some (by kernel_rfl))
  f240 := Tryz.func114.trans (congrArg some (by kernel_rfl))
  f241 := Tryz.func233.trans (congrArg some (by kernel_rfl))
  f260 := Tryz.func235.trans (congrArg some (by kernel_rfl))
  f266 := Tryz.func192.trans (congrArg some (by kernel_rfl))
  f267 := Tryz.func250.trans (congrArg some (by kernel_rfl))
  f276 := Tryz.func158.trans (congrArg some (by kernel_rfl))
  f277 := Tryz.func247.trans (congrArg some (by kernel_rfl))
  f314 := Tryz.func260.trans (congrArg some (by kernel_rfl))
  t0 := Tryz.underlying0
  a0 := Tryz.isAgg0
  z0 := Tryz.sizeOf0
  v0 := Tryz.zeroValue0
  t3 := Tryz.underlying3
  a3 := Tryz.isAgg3
  z3 := Tryz.sizeOf3
  v3 := Tryz.zeroValue3
  t4 := Tryz.underlying4
  a4 := Tryz.isAgg4
  z4 := Tryz.sizeOf4
  v4 := Tryz.zeroValue4
  t5 := Tryz.underlying5
  a5 := Tryz.isAgg5
  z5 := Tryz.sizeOf5
  v5 := Tryz.zeroValue5
  t9 := Tryz.underlying9
  a9 := Tryz.isAgg9
  z9 := Tryz.sizeOf9
  v9 := Tryz.zeroValue9
  t20 := Tryz.underlying20
  a20 := Tryz.isAgg20
  z20 := Tryz.sizeOf20
  v20 := Tryz.zeroValue20
  t21 := Tryz.underlying21
  a21 := Tryz.isAgg21
  z21 := Tryz.sizeOf21
  v21 := Tryz.zeroValue21
  t37 := Tryz.underlying110
  a37 := Tryz.isAgg110
  z37 := Tryz.sizeOf110
  v37 := Tryz.zeroValue110
  t46 := Tryz.underlying281
  a46 := Tryz.isAgg281
  z46 := Tryz.sizeOf281
  v46 := Tryz.zeroValue281
  t51 := Tryz.underlying278
  a51 := Tryz.isAgg278
  z51 := Tryz.sizeOf278
  v51 := Tryz.zeroValue278
  t70 := Tryz.underlying109
  a70 := Tryz.isAgg109
  z70 := Tryz.sizeOf109
  v70 := Tryz.zeroValue109
  t72 := Tryz.underlying112
  a72 := Tryz.isAgg112
  z72 := Tryz.sizeOf112
  v72 := Tryz.zeroValue112
  t75 := Tryz.underlying180
  a75 := Tryz.isAgg180
  z75 := Tryz.sizeOf180
  v75 := Tryz.zeroValue180
  t76 := Tryz.underlying181
  a76 := Tryz.isAgg181
  z76 := Tryz.sizeOf181
  v76 := Tryz.zeroValue181
  t105 := Tryz.underlying265
  a105 := Tryz.isAgg265
  z105 := Tryz.sizeOf265
  v105 := Tryz.zeroValue265
  t119 := Tryz.underlying295
  a119 := Tryz.isAgg295
  z119 := Tryz.sizeOf295
  t127 := Tryz.underlying209
  a127 := Tryz.isAgg209
  z127 := Tryz.sizeOf209
  v127 := Tryz.zeroValue209
  t138 := Tryz.underlying297
  a138 := Tryz.isAgg297
  z138 := Tryz.sizeOf297
  v138 := Tryz.zeroValue297
  t139 := Tryz.underlying298
  a139 := Tryz.isAgg298
  z139 := Tryz.sizeOf298
  v139 := Tryz.zeroValue298
  t146 := Tryz.underlying306
  a146 := Tryz.isAgg306
  z146 := Tryz.sizeOf306
  v146 := Tryz.zeroValue306
  t164 := Tryz.underlying234
  a164 := Tryz.isAgg234
  z164 := Tryz.sizeOf234
  v164 := Tryz.zeroValue234
  g1 := by kernel_rfl
  g3 := by kernel_rfl
  g4 := by kernel_rfl }
def Tryz.lays137_ren : Go.Shelf.Ren := ⟨fun | 137 => 110 | 217 => 144 | 266 => 192 | n => n, fun | 9 => 9 | 5 => 5 | 3 => 3 | n => n, fun | n => n⟩
theorem Tryz.lays137 : Go.Proofs.Lays.n137 Tryz.prog Tryz.lays137_ren := {
  mixed := by kernel_rfl
  f137 := Tryz.func110.trans (congrArg some (by kernel_rfl))
  f217 := Tryz.func144.trans (congrArg some (by kernel_rfl))
  f266 := Tryz.func192.trans (congrArg some (by kernel_rfl))
  t3 := Tryz.underlying3
  a3 := Tryz.isAgg3
  z3 := Tryz.sizeOf3
  v3 := Tryz.zeroValue3
  t5 := Tryz.underlying5
  a5 := Tryz.isAgg5
  z5 := Tryz.sizeOf5
  v5 := Tryz.zeroValue5
  t9 := Tryz.underlying9
  a9 := Tryz.isAgg9
  z9 := Tryz.sizeOf9
  v9 := Tryz.zeroValue9 }
end Go.Proofs
