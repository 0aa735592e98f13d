import Derived.Test.YtcbadebjpogmlaaGreatDoorJAf
import Derived.Test.YtcbadebjpogmlaaGreatDoorJFb
import Derived.Test.YtcbadebjpogmlaaGreatDoorJTq
import Derived.Test.YtcbadebjpogmlaaGreatDoorJTt
import Derived.Test.YtcbadebjpogmlaaGreatDoorJGb
namespace Go.Proofs.YtcbadebjpogmlaaGreatDoor
open Go.RowKit Tr
def StkB : List Fm → Prop
  | [] => True
  | f :: r => f.ix ≤ 4000000 ∧ f.d.name.length ≤ 4000000 ∧ (∀ p q, r = p :: q → p.d.kind = 4 ∨ p.d.kind = 5) ∧ StkB r
theorem ph_fr {w : World} {A : Nat → Nat} {C : Nat → Prop} {bd : Nat} : ∀ {r : List Fm} {f : Fm} {ex : List Value} {M : Nat → Prop}, FrM w A C bd (f :: r) ex M → pthOk (f :: r) → StkB (f :: r) → PH w (r.length + 1) (A f.d.frm) f.d.path
  | [], f, _, _, ⟨sv, _, h1, _⟩, hp, hs => ⟨f.d, _, f.ix, sv, h1.b, hs.1, hs.2.1, Or.inl ⟨rfl, hp.1⟩⟩
  | p :: q, f, _, _, ⟨sv, M', h1, _, _, _, h5⟩, hp, hs => by
    have hk := ph_fr h5 hp.2 hs.2.2.2
    obtain ⟨sv2, _, g1, _⟩ := h5
    exact ⟨f.d, _, f.ix, sv, h1.b, hs.1, hs.2.1, Or.inr ⟨A p.d.frm, p.d, _, p.ix, sv2, p.d.path, rfl, g1.b, g1.d, hs.2.2.1 p q rfl, hk, hp.1⟩⟩
theorem StkB.of {bd : Nat} (hb : bd ≤ 4000001) : ∀ {r : List Fm} {ix : Nat}, wsOk bd r ix → (∀ f ∈ r, NmF f) → StkB r
  | [], _, _, _ => trivial
  | f :: r, _, ⟨_, h2, h3, _, _, h6⟩, hn => ⟨by omega, (hn f (List.mem_cons_self)).1, fun p q e => (hn p (by rw [e]; simp)).2.1, StkB.of hb h6 (fun g hg => hn g (List.mem_cons_of_mem _ hg))⟩
def gEN (k : Nat) : Prop := k = 6 ∨ k = 0 ∨ k = 1
theorem EN.low {w : World} (h : EN w) {k : Nat} (hk : gEN k) : k < w.heap.size := by
  rcases hk with e | e | e
  · rw [e]; exact h.ev.lt
  · rw [e]; exact h.tl
  rw [e]; exact h.ll
theorem lt_same {w w' : World} {k : Nat} (h : w'.heap[k]? = w.heap[k]?) (hk : k < w.heap.size) : k < w'.heap.size := by
  rw [Array.getElem?_eq_getElem hk] at h
  exact (Array.getElem?_eq_some_iff.1 h).1
theorem EN.sm {w w' : World} (h : EN w) (s : Sm gEN w w') : EN w' := by
  refine ⟨⟨?_, lt_same (s _ (Or.inl rfl)) h.ev.lt⟩, ?_, lt_same (s _ (Or.inr (Or.inl rfl))) h.tl, ?_, lt_same (s _ (Or.inr (Or.inr rfl))) h.ll⟩
  · obtain ⟨ev, h1, h2⟩ := h.ev.v
    exact ⟨ev, (World.cell?_of_block (w := w) (a := ⟨6, 0, none⟩) (s _ (Or.inl rfl))).trans h1, h2⟩
  · have := h.tab
    unfold Lib.TabIs World.var? at this ⊢
    rw [gPow] at this ⊢
    simp only [Option.bind_some] at this ⊢
    rw [s _ (Or.inr (Or.inl rfl))]; exact this
  obtain ⟨m, hm⟩ := h.ml
  exact ⟨m, (World.cell?_of_block (w := w) (a := ⟨1, 0, none⟩) (s _ (Or.inr (Or.inr rfl)))).trans hm⟩
theorem FrM.inj {w : World} {A : Nat → Nat} {C : Nat → Prop} {bd : Nat} : ∀ {r : List Fm} {f : Fm} {ex : List Value} {M : Nat → Prop}, FrM w A C bd (f :: r) ex M → ∀ g ∈ r, A g.d.frm ≠ A f.d.frm
  | r, f, _, _, ⟨sv, M', h1, h2, h3, h4, h5⟩, g, hg, e => h3 (e ▸ memM h5 g hg)
 where
  memM : ∀ {r : List Fm} {ex : List Value} {M : Nat → Prop}, FrM w A C bd r ex M → ∀ g ∈ r, M (A g.d.frm)
  | f :: r, _, _, ⟨sv, M', h1, h2, h3, h4, h5⟩, g, hg => by
    rcases List.mem_cons.1 hg with e | e
    · rw [e]; exact (h2 _).2 (Or.inl rfl)
    exact (h2 _).2 (Or.inr (Or.inr (memM h5 g e)))
end Go.Proofs.YtcbadebjpogmlaaGreatDoor
namespace Tr
theorem not_late {xs : List Sg} {k : Nat} (hk : k < xs.length) (h : k < headS xs) : xs[k].l.any Sel.late = false := by
  have := List.not_of_lt_findIdx (p := Sg.late) (xs := xs) h
  unfold Sg.late at this
  simpa using this
def kidsT (xs : List Sg) (n kind : Nat) (ws : List Tv) (tl : List Ct) : List (Tv × Nat) := ws.zipIdx.flatMap (fun p => cntT xs n p.1 (tlOf xs kind ws.length p.2 p.1 tl))
def ownT (xs : List Sg) (t : Tv) (tl : List Ct) : List (Tv × Nat) := if 0 < (ctAt tl xs.length).its then [(t, (ctAt tl xs.length).its)] else []
theorem cntT_succ (xs : List Sg) (n : Nat) (t : Tv) (tl : List Ct) : cntT xs (n + 1) t tl = kidsT xs n t.d.kind t.ws tl ++ ownT xs t tl := rfl
theorem cntT_deep (xs : List Sg) : ∀ {n m : Nat} {t : Tv} (tl : List Ct), Deep n t → n ≤ m → cntT xs m t tl = cntT xs n t tl
  | 0, _, _, _, h, _ => h.elim
  | n + 1, 0, _, _, _, h => absurd h (by omega)
  | n + 1, m + 1, t, tl, h, hm => by
    rw [cntT_succ, cntT_succ]
    congr 1
    unfold kidsT
    apply fm_congr
    intro p hp
    have : p.1 ∈ t.ws := by
      have := List.mem_zipIdx hp
      rw [this.2.2]; exact List.getElem_mem _
    exact cntT_deep xs _ (h _ this) (by omega)
end Tr
namespace Go.Proofs.YtcbadebjpogmlaaGreatDoor
open Go.RowKit Tr
structure Fx where
  tl : List (List Ct)
  hd : Option Nat
  told : List (Tv × Nat)
  tsv : Value
  osv : Value
def fvp (f : Nat) : Value := .pointer (some ⟨f, 0, none⟩)
def ffb (f : Nat) : Value := .func (.func 77) #[fvp f] #[]
def ffc (f : Nat) : Value := .func (.func 78) #[fvp f] #[]
def fgc (b f : Nat) (x : Fx) (a n i : Value) : Array Value := fwc (fvp b) (ffb f) (ffc f) a n i x.tsv (hdv x.hd) x.osv
theorem f_lay (b f : Nat) : GLay 170 1 (ffb f) (ffc f) (fgc b f) where
  c0 := fun h => h.cell 1
  c1 := fun h => h.cell 2
  c2 := fun h => h.cell 3
  c3 := fun h => h.cell 4
  c4 := fun h => h.cell 5
  s2 := fun v h => h.set 3 v
  s3 := fun v h => h.set 4 v
  s4 := fun v h => h.set 5 v
def tcl (p : Tv × Nat) : List Value := mtCells p.1.d.path p.1.d.frm p.1.d.to p.2
structure FS (b : Nat) (tt : ByteArray) (xs : List Sg) (Dp : Nat → Prop) (H : Nat → Option Obj) (w : World) (D : Nat → Prop) (x : Fx) : Prop where
  p : OkD Dp w (fun w => PlanV w b tt xs)
  pl : ∀ k, Dp k → k < w.heap.size
  e : EN w
  t : w.ownsRow 0 202 22 x.tsv x.tl.length (x.tl.flatMap tlc)
  o : w.ownsRow 0 44 4 x.osv x.told.length (x.told.flatMap tcl)
  nt : ∀ k, x.tsv.ownBlock = some k → x.osv.ownBlock ≠ some k ∧ ¬ Dp k ∧ ¬ gEN k
  no : ∀ k, x.osv.ownBlock = some k → ¬ Dp k ∧ ¬ gEN k
  d : ∀ k, D k ↔ Dp k ∨ gEN k ∨ x.tsv.ownBlock = some k ∨ x.osv.ownBlock = some k
  sm : ∀ k, Dp k ∨ gEN k → w.heap[k]? = H k
theorem FS.lt {b : Nat} {tt : ByteArray} {xs : List Sg} {Dp : Nat → Prop} {H : Nat → Option Obj} {w : World} {D : Nat → Prop} {x : Fx} (h : FS b tt xs Dp H w D x) {k : Nat} (hk : D k) : k < w.heap.size := by
  rcases (h.d k).1 hk with e | e | e | e
  · exact h.pl k e
  · exact h.e.low e
  · exact (h.t.lt k e).2
  exact (h.o.lt k e).2
theorem FS.keep {b : Nat} {tt : ByteArray} {xs : List Sg} {Dp : Nat → Prop} {H : Nat → Option Obj} {w w' : World} {D : Nat → Prop} {x : Fx} (h : FS b tt xs Dp H w D x) (s : Sm D w w') (hz : w.heap.size ≤ w'.heap.size) : FS b tt xs Dp H w' D x :=
  ⟨h.p.keep (fun k hk => s k ((h.d k).2 (Or.inl hk))), fun k hk => Nat.lt_of_lt_of_le (h.pl k hk) hz, h.e.sm (fun k hk => s k ((h.d k).2 (Or.inr (Or.inl hk)))), own_at' h.t (fun k hk => s k ((h.d k).2 (Or.inr (Or.inr (Or.inl hk))))), own_at' h.o (fun k hk => s k ((h.d k).2 (Or.inr (Or.inr (Or.inr hk))))), h.nt, h.no, h.d, fun k hk => (s k ((h.d k).2 (hk.elim Or.inl (fun y => Or.inr (Or.inl y))))).trans (h.sm k hk)⟩
def fxT (xs : List Sg) (x : Fx) (r : List Fm) (f : Fm) : List Ct := match r with
  | [] => tlOut xs.length
  | p :: _ => tlOf xs p.d.kind p.ws.length f.ix ⟨f.d, []⟩ (x.tl.getLastD [])
def fxH (xs : List Sg) (T : List Ct) (b : Nat) : Option Nat := if headS xs < xs.length ∧ 0 < (ctAt T (headS xs)).its then some b else none
def fbg (xs : List Sg) (x : Fx) (r : List Fm) (f : Fm) (b : Nat) (x' : Fx) : Prop :=
  if x.hd.isSome = true then x' = x else ∃ tsv', x' = ⟨x.tl ++ [fxT xs x r f], fxH xs (fxT xs x r f) b, x.told, tsv', x.osv⟩
def fcl (xs : List Sg) (x : Fx) (_ : List Fm) (f : Fm) (b : Nat) (x' : Fx) : Prop :=
  if x.hd.isSome = true ∧ x.hd ≠ some b then x' = x else ∃ tsv' osv', x' = ⟨x.tl.dropLast, none, x.told ++ cntT xs 10 ⟨f.d, f.ws⟩ (x.tl.getLastD []), tsv', osv'⟩
def fOkB (xs : List Sg) (x : Fx) (r : List Fm) (f : Fm) (_ : Nat) : Prop :=
  x.hd = none → x.tl.length = r.length ∧ f.ix ≤ 4000000 ∧ ∀ i (h : i < x.tl.length), CtB xs i x.tl[i] ∧ Zh xs x.tl[i]
structure FOkC (xs : List Sg) (x : Fx) (r : List Fm) (f : Fm) : Prop where
  tl : x.tl.length = r.length + 1
  ct : CtB xs r.length (x.tl.getLastD [])
  n : x.told.length + (allT 10 ⟨f.d, f.ws⟩).length ≤ 4000000
  nm : ∀ v ∈ allT 10 ⟨f.d, f.ws⟩, NmV v
  ws : f.ws.length ≤ 4000000
  kp : f.kp = false
  pth : pthOk (f :: r)
  stk : StkB (f :: r)
def fOkC (xs : List Sg) (x : Fx) (r : List Fm) (f : Fm) (A : Nat → Nat) : Prop := (∀ hb, x.hd = some hb → hb = A f.d.frm ∨ ∃ g ∈ r, hb = A g.d.frm) ∧ ((x.hd = none ∨ x.hd = some (A f.d.frm)) → FOkC xs x r f)
theorem FrM.blk {w : World} {A : Nat → Nat} {C : Nat → Prop} {bd : Nat} : ∀ {l : List Fm} {ex : List Value} {M : Nat → Prop}, FrM w A C bd l ex M → ∀ g ∈ l, ∃ ca, Blk w (A g.d.frm) ca 130
  | f :: r, _, _, ⟨sv, M', h1, _, _, _, h5⟩, g, hg => by
    rcases List.mem_cons.1 hg with e | e
    · rw [e]; exact ⟨_, h1.b⟩
    exact FrM.blk h5 g e
theorem own_less {w : World} {B e g m cap s : Nat} {xs : List Value} (h : w.ownsRow B e s (.slice (some ⟨g, 0, none⟩) (m + 1) cap) (m + 1) xs) : w.ownsRow B e s (.slice (some ⟨g, 0, none⟩) m cap) m (xs.take (m * s)) ∧ m + 1 ≤ cap := by
  have hl := h.1
  have hms : (m + 1) * s = m * s + s := by rw [Nat.add_mul, Nat.one_mul]
  rcases h.2 with ⟨x, _⟩ | ⟨g2, cap2, cur, x, y1, y2, y3, y4, y5, y6⟩
  · cases x
  injection x with x1 x2 x3
  injection x1 with x1
  injection x1 with x1
  subst x1 x3
  refine ⟨⟨by simp; omega, Or.inr ⟨g, cap, cur, rfl, y1, y2, by omega, y4, y5, ?_⟩⟩, y3⟩
  rw [← y6, List.take_take]
  congr 1
  omega
theorem last_app {α : Type} (l : List α) (a : α) (h : l ≠ []) : l = l.dropLast ++ [l.getLastD a] := by
  cases l with
  | nil => exact absurd rfl h
  | cons x y =>
    have := List.dropLast_concat_getLast (l := x :: y) (by simp)
    simpa [List.getLastD] using this.symm
theorem FB.deep {bd : Nat} : ∀ {n : Nat} {t : Tv}, Tr.FB bd n t → Deep n t
  | 0, _, h => h.elim
  | n + 1, t, ⟨_, h2⟩ => fun c hc => by
    obtain ⟨i, hi, rfl⟩ := List.mem_iff_getElem.1 hc
    exact FB.deep (h2 i hi).1
theorem tcl_len : ∀ (l : List (Tv × Nat)), (l.flatMap tcl).length = l.length * 4
  | [] => rfl
  | a :: r => by rw [List.flatMap_cons, List.length_append, tcl_len r]; simp [tcl, mtCells]; omega
set_option maxHeartbeats 2000000 in
theorem f_begC {b f : Nat} {tt : ByteArray} {xs : List Sg} {Dp : Nat → Prop} {H : Nat → Option Obj} (hx : xs.length ≤ 10) (hsel : selN xs ≤ 10)
    {w : World} {D : Nat → Prop} {x : Fx} {A : Nat → Nat} {C : Nat → Prop} {bd : Nat} {r : List Fm} {fm : Fm} {M : Nat → Prop} {a n i : Value} (hS : FS b tt xs Dp H w D x) (hB : Blk w f (fgc b f x a n i) 170) (hM : FrM w A C bd (fm :: r) [] M) (hr : r.length ≤ 8) (hdj : ∀ k, D k → ¬ M k ∧ ¬ C k ∧ k ≠ f) (hOk : fOkB xs x r fm (A fm.d.frm)) :
    Calls Tryz.prog 77 #[fvp f, vpt (A fm.d.frm)] w fun res w' => res = .returned (.bool x.hd.isSome) ∧ ∃ D' x', fbg xs x r fm (A fm.d.frm) x' ∧ FS b tt xs Dp H w' D' x' ∧ Blk w' f (fgc b f x' a n i) 170 ∧ (∀ k, D' k → D k ∨ w.heap.size ≤ k) ∧ Fr (fun k => D k ∨ k = f) w w' := by
  cases hxd : x.hd with
  | some hb =>
    have c : Blk w f (fwc (fvp b) (ffb f) (ffc f) a n i x.tsv (vpt hb) x.osv) 170 := by unfold fgc at hB; rw [hxd] at hB; exact hB
    refine (f_begins0 c _).mono ?_
    rintro res w' ⟨rfl, hk⟩
    exact ⟨rfl, D, x, by unfold fbg; rw [if_pos (by rw [hxd]; rfl)], hS.keep (fun k hk' => hk.block k (hS.lt hk') id) hk.size, hB.fr hk id, fun k h => Or.inl h, hk.mono (fun _ _ e => e.elim)⟩
  | none =>
    obtain ⟨ol, oi, oc⟩ := hOk hxd
    have hB0 : Blk w f (fwc (fvp b) (ffb f) (ffc f) a n i x.tsv (.pointer none) x.osv) 170 := by unfold fgc at hB; rw [hxd] at hB; exact hB
    have hDt : ∀ k, x.tsv.ownBlock = some k → D k := fun k hk => (hS.d k).2 (Or.inr (Or.inr (Or.inl hk)))
    have hpW : ∀ W, Fr (fun k => k = f ∨ x.tsv.ownBlock = some k) w W → PlanV W b tt xs := fun W hW => hS.p W (fun k hk => hW.block k (hS.pl k hk) (fun e => by
      rcases e with e | e
      · exact (hdj k ((hS.d k).2 (Or.inl hk))).2.2 e
      exact (hS.nt k e).2.1 hk))
    have hto : Calls Tryz.prog 105 #[.pointer (some ⟨f, 0, none⟩), .pointer (some ⟨A fm.d.frm, 0, none⟩)] w fun r' w' => r' = .returned (.agg (tlc (fxT xs x r fm)).toArray) ∧ Keeps w w' := by
      obtain ⟨sv, M', h1, h2, h3, h4, h5⟩ := hM
      cases r with
      | nil => exact f_tally0 xs.length h1.b
      | cons p q =>
        obtain ⟨svp, _, g1, _⟩ := h5
        have hne : x.tl ≠ [] := fun e => by rw [e] at ol; simp at ol
        have hq : x.tl.length - 1 < x.tl.length := by rw [ol]; simp
        have hC := (oc _ hq)
        have eL := last_at x.tl [] hne
        rw [← eL] at hC
        have hs := last_app x.tl [] hne
        have hdl : x.tl.dropLast.length + 1 = x.tl.length := by rw [List.length_dropLast]; omega
        have ho : w.ownsRow 0 202 22 x.tsv (x.tl.dropLast.length + 1) (x.tl.dropLast.flatMap tlc ++ tlc (x.tl.getLastD [])) := by
          have := hS.t
          rw [hdl]
          have e2 : x.tl.flatMap tlc = x.tl.dropLast.flatMap tlc ++ tlc (x.tl.getLastD []) := by
            conv => lhs; rw [hs]
            simp [List.flatMap_append]
          rw [← e2]; exact this
        refine f_tally1 (L := p.ws.length) (c := ⟨fm.d, []⟩) (svp := svp) hB0 (fun W hW => hpW W (hW.mono (fun _ _ e => e.elim))) hx hsel (by rw [List.length_dropLast]; omega) ho hC.1 (by simp only [List.length_cons] at hr ol; omega) (pb := A p.d.frm) ⟨⟨sv, h1.b⟩, ⟨p.d, _, p.ix, g1.b, g1.d, rfl⟩, oi⟩ (fun k hk h0 hl => ?_)
        exfalso
        by_cases hh : k < headS xs
        · rw [not_late hk hh] at hl; cases hl
        have z := hC.2 (by omega) k (by omega)
        rw [z] at h0
        simp at h0
    have hne : x.tsv.ownBlock ≠ some f := fun e => (hdj f (hDt f e)).2.2 rfl
    refine (f_begins1 (cells := x.tl.flatMap tlc) (n := x.tl.length) hB0 hpW hx (by omega) hS.t hne hto).mono ?_
    rintro res w' ⟨rfl, tsv', q1, q2, q3, q4, q5⟩
    have hsz := q5.size
    have hnew : ∀ k, tsv'.ownBlock = some k → x.tsv.ownBlock = some k ∨ w.heap.size ≤ k := q3
    have hoD : ∀ k, x.osv.ownBlock = some k → D k := fun k hk => (hS.d k).2 (Or.inr (Or.inr (Or.inr hk)))
    refine ⟨rfl, fun k => Dp k ∨ gEN k ∨ tsv'.ownBlock = some k ∨ x.osv.ownBlock = some k, ⟨x.tl ++ [fxT xs x r fm], fxH xs (fxT xs x r fm) (A fm.d.frm), x.told, tsv', x.osv⟩, ?_, ⟨?_, fun k hk => Nat.lt_of_lt_of_le (hS.pl k hk) hsz, ?_, ?_, ?_, fun k hk => ?_, hS.no, fun _ => Iff.rfl, fun k hk => (q5.block k (hk.elim (hS.pl k) (fun y => hS.e.low y)) (fun e => by
      have hD : D k := (hS.d k).2 (hk.elim Or.inl (fun y => Or.inr (Or.inl y)))
      rcases e with e | e
      · exact (hdj k hD).2.2 e
      exact hk.elim (hS.nt k e).2.1 (hS.nt k e).2.2)).trans (hS.sm k hk)⟩, q1, fun k hk => ?_, q5.mono (fun k _ e => ?_)⟩
    · unfold fbg
      rw [if_neg (by rw [hxd]; simp)]
      exact ⟨tsv', rfl⟩
    · exact hS.p.keep (fun k hk => q5.block k (hS.pl k hk) (fun e => by
        rcases e with e | e
        · exact (hdj k ((hS.d k).2 (Or.inl hk))).2.2 e
        exact (hS.nt k e).2.1 hk))
    · exact hS.e.sm (fun k hk => q5.block k (hS.e.low hk) (fun e => by
        rcases e with e | e
        · exact (hdj k ((hS.d k).2 (Or.inr (Or.inl hk)))).2.2 e
        exact (hS.nt k e).2.2 hk))
    · show w'.ownsRow 0 202 22 tsv' (x.tl ++ [fxT xs x r fm]).length ((x.tl ++ [fxT xs x r fm]).flatMap tlc)
      rw [List.length_append, List.flatMap_append]
      simpa using q2
    · exact own_at' hS.o (fun k hk => q5.block k (hS.o.lt k hk).2 (fun e => by
        rcases e with e | e
        · exact (hdj k (hoD k hk)).2.2 e
        exact (hS.nt k e).1 hk))
    · rcases hnew k hk with e | e
      · exact hS.nt k e
      refine ⟨fun y => ?_, fun y => ?_, fun y => ?_⟩
      · have := (hS.o.lt k y).2; omega
      · have := hS.pl k y; omega
      have := hS.e.low y; omega
    · rcases hk with e | e | e | e
      · exact Or.inl ((hS.d k).2 (Or.inl e))
      · exact Or.inl ((hS.d k).2 (Or.inr (Or.inl e)))
      · rcases hnew k e with y | y
        · exact Or.inl (hDt k y)
        exact Or.inr y
      exact Or.inl (hoD k e)
    rcases e with y | y
    · exact Or.inr y
    exact Or.inl (hDt k y)
set_option maxHeartbeats 2000000 in
theorem f_clC {b f : Nat} {tt : ByteArray} {xs : List Sg} {Dp : Nat → Prop} {H : Nat → Option Obj} (hx : xs.length ≤ 10) (hsel : selN xs ≤ 10)
    {w : World} {D : Nat → Prop} {x : Fx} {A : Nat → Nat} {C : Nat → Prop} {bd : Nat} {r : List Fm} {fm : Fm} {M : Nat → Prop} {a n i : Value} (hS : FS b tt xs Dp H w D x) (hB : Blk w f (fgc b f x a n i) 170) (hM : FrM w A C bd (fm :: r) [] M) (hr : r.length ≤ 8) (hC : ∀ k, C k → k < w.heap.size) (hdj : ∀ k, D k → ¬ M k ∧ ¬ C k ∧ k ≠ f) (hg : ¬ M f ∧ ¬ C f) (hOk : fOkC xs x r fm A) :
    Calls Tryz.prog 78 #[fvp f, vpt (A fm.d.frm)] w fun res w' => res = .returned (.tuple #[]) ∧ ∃ D' x', fcl xs x r fm (A fm.d.frm) x' ∧ FS b tt xs Dp H w' D' x' ∧ Blk w' f (fgc b f x' a n i) 170 ∧ (∀ k, D' k → D k ∨ w.heap.size ≤ k) ∧ Fr (fun k => D k ∨ k = f) w w' := by
  by_cases hc : x.hd.isSome = true ∧ x.hd ≠ some (A fm.d.frm)
  · obtain ⟨hb, hxd⟩ := Option.isSome_iff_exists.1 hc.1
    have c : Blk w f (fwc (fvp b) (ffb f) (ffc f) a n i x.tsv (vpt hb) x.osv) 170 := by unfold fgc at hB; rw [hxd] at hB; exact hB
    have hne : hb ≠ A fm.d.frm := fun e => hc.2 (by rw [hxd, e])
    obtain ⟨g, hgr, hgb⟩ : ∃ g ∈ r, hb = A g.d.frm := by
      rcases hOk.1 hb hxd with e | e
      · exact absurd e hne
      exact e
    obtain ⟨ca, hca⟩ := FrM.blk hM g (List.mem_cons_of_mem _ hgr)
    obtain ⟨cb, hcb⟩ := FrM.blk hM fm (List.mem_cons_self)
    refine (f_closed0 c (vb := A fm.d.frm) hne (by rw [hgb]; exact hca) hcb).mono ?_
    rintro res w' ⟨rfl, hk⟩
    exact ⟨rfl, D, x, by unfold fcl; rw [if_pos hc], hS.keep (fun k hk' => hk.block k (hS.lt hk') id) hk.size, hB.fr hk id, fun k h => Or.inl h, hk.mono (fun _ _ e => e.elim)⟩
  have hk : x.hd = none ∨ x.hd = some (A fm.d.frm) := by
    cases hh : x.hd with
    | none => exact Or.inl rfl
    | some k =>
      right
      exact Decidable.byContradiction fun y => hc ⟨by rw [hh]; rfl, by rw [hh]; exact y⟩
  have O := hOk.2 hk
  have hne : x.tl ≠ [] := fun e => by have := O.tl; rw [e] at this; simp at this
  have hs := last_app x.tl [] hne
  obtain ⟨pre, hpre⟩ : ∃ pre, pre = x.tl.dropLast := ⟨_, rfl⟩
  obtain ⟨tl, htl⟩ : ∃ tl, tl = x.tl.getLastD [] := ⟨_, rfl⟩
  rw [← hpre, ← htl] at hs
  have hpl : pre.length = r.length := by have := O.tl; rw [hs, List.length_append] at this; simpa using this
  obtain ⟨m, hm⟩ : ∃ m, m = pre.length := ⟨_, rfl⟩
  have ht0 := hS.t
  have ho : w.ownsRow 0 202 22 x.tsv (m + 1) (pre.flatMap tlc ++ tlc tl) := by
    have e1 : x.tl.length = m + 1 := by rw [hs, List.length_append, hm]; rfl
    have e2 : x.tl.flatMap tlc = pre.flatMap tlc ++ tlc tl := by rw [hs, List.flatMap_append]; simp
    rw [← e1, ← e2]; exact ht0
  obtain ⟨g, cap, htsv, _, hgl⟩ := ho.form (by omega)
  have hDt : ∀ k, x.tsv.ownBlock = some k → D k := fun k hk => (hS.d k).2 (Or.inr (Or.inr (Or.inl hk)))
  have hoD : ∀ k, x.osv.ownBlock = some k → D k := fun k hk => (hS.d k).2 (Or.inr (Or.inr (Or.inr hk)))
  have hgown : x.tsv.ownBlock = some g := by rw [htsv]; rfl
  have hlen : (pre.flatMap tlc).length = m * 22 := by rw [hm]; exact tls_len pre
  have hL := own_less (by rw [← htsv]; exact ho)
  have htake : (pre.flatMap tlc ++ tlc tl).take (m * 22) = pre.flatMap tlc := by rw [← hlen, List.take_left]
  rw [htake] at hL
  -- what changes
  obtain ⟨K, hK⟩ : ∃ K : Nat → Prop, K = fun k => k = f ∨ x.osv.ownBlock = some k := ⟨_, rfl⟩
  have Kd : ∀ k, K k → ¬ M k ∧ ¬ C k ∧ ¬ Dp k ∧ ¬ gEN k ∧ x.tsv.ownBlock ≠ some k := fun k hk => by
    rw [hK] at hk
    rcases hk with e | e
    · rw [e]
      exact ⟨hg.1, hg.2, fun y => (hdj f ((hS.d f).2 (Or.inl y))).2.2 rfl, fun y => (hdj f ((hS.d f).2 (Or.inr (Or.inl y)))).2.2 rfl, fun y => (hdj f (hDt f y)).2.2 rfl⟩
    exact ⟨(hdj k (hoD k e)).1, (hdj k (hoD k e)).2.1, (hS.no k e).1, (hS.no k e).2, fun y => (hS.nt k y).1 e⟩
  have PLW : ∀ W, Fr K w W → OkD Dp W (fun w => PlanV w b tt xs) := fun W hW => hS.p.keep (fun k hk => hW.block k (hS.pl k hk) (fun e => (Kd k e).2.2.1 hk))
  have ENW : ∀ W, Fr K w W → EN W := fun W hW => hS.e.sm (fun k hk => hW.block k (hS.e.low hk) (fun e => (Kd k e).2.2.2.1 hk))
  obtain ⟨C', M', c1, c2, c3, c4, hPT, hFB⟩ := hM.close hr O.ws (fun e => by rw [O.kp] at e; cases e) O.pth.1
  have hC' : ∀ k, C' k → k < w.heap.size ∧ ¬ K k := fun k hk => by
    rcases c1 k hk with e | e
    · exact ⟨hC k e, fun y => (Kd k y).2.1 e⟩
    exact ⟨(hM.lt k e).1, fun y => (Kd k y).1 e⟩
  have hDeep := FB.deep hFB
  have e10 : allT (9 - r.length + 1) ⟨fm.d, fm.ws⟩ = allT 10 ⟨fm.d, fm.ws⟩ := (allT_deep hDeep (by omega)).symm
  have PHW : ∀ v ∈ allT (9 - r.length + 1) ⟨fm.d, fm.ws⟩, ∀ W, Fr K w W → ∃ d' par' ix' sv, d' ≤ 10 ∧ PH W d' (A v.d.frm) v.d.path ∧ Blk W (A v.d.frm) (pcl v.d par' ix' sv) 130 := fun v hv W hW => by
    have hMW := hM.fr hC hW (fun k hk => ⟨(Kd k hk).1, (Kd k hk).2.1⟩)
    have hph := ph_fr hMW O.pth O.stk
    have hPW := PT.keep (fun k hk => hW.block k (hC' k hk).1 (hC' k hk).2) _ _ _ _ hPT
    exact ph_all hPW hFB (fun u hu => O.nm u (by rw [← e10]; exact hu)) O.stk.1 hph (by omega) v hv
  -- whom Count tells
  obtain ⟨R, hR⟩ : ∃ R : World → (Nat → Prop) → List (Tv × Nat) → Prop, R = fun W D ts => ∃ osv', Blk W f (fwc (fvp b) (ffb f) (ffc f) a n i x.tsv (hdv x.hd) osv') 170 ∧ W.ownsRow 0 44 4 osv' ts.length (ts.flatMap tcl) ∧ osv'.ownBlock ≠ some f ∧ (∀ k, osv'.ownBlock = some k → x.osv.ownBlock = some k ∨ w.heap.size ≤ k) ∧ (∀ k, D k ↔ k = f ∨ osv'.ownBlock = some k) ∧ Fr K w W := ⟨_, rfl⟩
  have hnf : x.osv.ownBlock ≠ some f := fun e => (hdj f (hoD f e)).2.2 rfl
  have TV : TellV (.func (.func 109) #[fvp f] #[]) (fun W => PlanV W b tt xs) R A (fun v => ∀ W, Fr K w W → ∃ d' par' ix' sv, d' ≤ 10 ∧ PH W d' (A v.d.frm) v.d.path ∧ Blk W (A v.d.frm) (pcl v.d par' ix' sv) 130) := by
    refine ⟨fun {W D ts k} h hk => ?_, fun {W D ts} h => ?_, fun {W W' D ts} h kp => ?_, _, _, _, rfl, fun _ _ => Tryz.call109 _ _, fun {W D ts v k} h hv hk hts => ?_⟩
    · rw [hR] at h
      obtain ⟨osv', q1, q2, q3, q4, q5, q6⟩ := h
      rcases (q5 k).1 hk with e | e
      · rw [e]; exact q1.lt
      exact (q2.lt k e).2
    · rw [hR] at h
      obtain ⟨osv', q1, q2, q3, q4, q5, q6⟩ := h
      exact (PLW W q6).self
    · rw [hR] at h ⊢
      obtain ⟨osv', q1, q2, q3, q4, q5, q6⟩ := h
      exact ⟨osv', q1.fr kp id, own_at' q2 (fun j hj => kp.block j (q2.lt j hj).2 id), q3, q4, q5, q6.new kp (fun _ _ e => e.elim)⟩
    rw [hR] at h
    obtain ⟨osv', q1, q2, q3, q4, q5, q6⟩ := h
    refine (f_tell (p := v.d.path) (frm := v.d.frm) (to := v.d.to) (vb := A v.d.frm) q1 q2 q3 hts k (fun W' kp => ?_)).mono ?_
    · have F := q6.new kp (fun _ _ e => e.elim)
      obtain ⟨d', par', ix', sv, z1, z2, z3⟩ := hv W' F
      exact p_node z1 (ENW W' F) z2 z3
    rintro res W' ⟨rfl, ot', p1, p2, p3, p4, p5⟩
    have hF : Fr K w W' := by
      refine q6.new p5 (fun j hj e => ?_)
      rw [hK]
      rcases e with e | e
      · exact Or.inl e
      rcases q4 j e with y | y
      · exact Or.inr y
      omega
    refine ⟨rfl, fun j => j = f ∨ ot'.ownBlock = some j, ?_, fun j hj => ?_, p5.mono (fun j _ e => (q5 j).2 e)⟩
    · rw [hR]
      refine ⟨ot', p1, ?_, p4, fun j hj => ?_, fun _ => Iff.rfl, hF⟩
      · rw [List.length_append, List.flatMap_append]
        simpa [tcl] using p2
      rcases p3 j hj with y | y
      · exact q4 j y
      exact Or.inr (Nat.le_trans q6.size y)
    rcases hj with e | e
    · exact Or.inl ((q5 j).2 (Or.inl e))
    rcases p3 j e with y | y
    · exact Or.inl ((q5 j).2 (Or.inr y))
    exact Or.inr y
  have hF0 : Fr K w w.drew := (Fr.refl _ w).drewN 1
  have R0 : R w.drew K x.told := by
    rw [hR]
    exact ⟨x.osv, hB, own_at' hS.o (fun _ _ => rfl), hnf, fun k hk => Or.inl hk, fun k => by rw [hK], hF0⟩
  have CNT := p_count (xs := xs) (b := b) (tt := tt) (fun W h => h) hx hsel TV (9 - r.length + 1) (d := r.length) (tl := tl) (t := ⟨fm.d, fm.ws⟩) (by omega) (by rw [htl]; exact O.ct) R0 (PT.keep (w := w) (w' := w.drew) (D := C') (fun _ _ => rfl) _ _ _ _ hPT) (fun k hk => hC' k hk) PHW (by have := O.n; rw [e10]; omega)
  have hh : hdv x.hd = .pointer none ∨ hdv x.hd = .pointer (some ⟨A fm.d.frm, 0, none⟩) := by
    rcases hk with e | e <;> rw [e]
    · exact Or.inl rfl
    exact Or.inr rfl
  have hrg : ∀ W, Fr K w W → W.rangeAt g (m * 22) (tlc tl) := fun W hW j v hj => by
    have hj2 : j < 22 := by have := (List.getElem?_eq_some_iff.1 hj).1; rw [tlc_len] at this; exact this
    have hgK : ¬ K g := fun e => (Kd g e).2.2.2.2 hgown
    rw [World.cell?_of_block (w := w) (a := ⟨g, m * 22 + j, none⟩) (hW.block g hgl hgK)]
    have ho2 : w.ownsRow 0 202 22 (.slice (some ⟨g, 0, none⟩) (m + 1) cap) (m + 1) (pre.flatMap tlc ++ tlc tl) := by rw [← htsv]; exact ho
    rw [ho2.cellAt (m * 22 + j) (by omega), List.getElem?_append_right (by omega), hlen, show m * 22 + j - m * 22 = j by omega]
    exact hj
  have hB1 : Blk w f (fwc (.pointer (some ⟨b, 0, none⟩)) (ffb f) (ffc f) a n i (.slice (some ⟨g, 0, none⟩) (m + 1) cap) (hdv x.hd) x.osv) 170 := by rw [← htsv]; exact hB
  obtain ⟨Q, hQ⟩ : ∃ Q : Value → World → Prop, Q = fun osv' W => W.ownsRow 0 44 4 osv' (x.told ++ cntT xs (9 - r.length + 1) ⟨fm.d, fm.ws⟩ tl).length ((x.told ++ cntT xs (9 - r.length + 1) ⟨fm.d, fm.ws⟩ tl).flatMap tcl) ∧ osv'.ownBlock ≠ some f ∧ (∀ k, osv'.ownBlock = some k → x.osv.ownBlock = some k ∨ w.heap.size ≤ k) ∧ Fr K w W := ⟨_, rfl⟩
  refine (f_closed1 (Q := Q) hB1 hh (by omega) hL.2 (hrg w (Fr.refl _ _)) (tlc_len tl) (CNT.mono ?_)).mono ?_
  · rintro res w' ⟨rfl, D', q, _, _⟩
    rw [hR] at q
    obtain ⟨osv', q1, q2, q3, q4, q5, q6⟩ := q
    refine ⟨rfl, osv', by rw [← htsv]; exact q1, hrg w' q6, ?_⟩
    rw [hQ]
    exact ⟨q2, q3, q4, q6⟩
  rintro res w' ⟨rfl, w1, osv', q, z1, z2⟩
  rw [hQ] at q
  obtain ⟨q2, q3, q4, q6⟩ := q
  have ec : cntT xs (9 - r.length + 1) ⟨fm.d, fm.ws⟩ tl = cntT xs 10 ⟨fm.d, fm.ws⟩ tl := (cntT_deep xs tl hDeep (by omega)).symm
  rw [ec] at q2
  have F : Fr K w w' := q6.new z2 (fun j _ e => by rw [hK]; exact Or.inl e)
  have hsz := F.size
  refine ⟨rfl, fun k => Dp k ∨ gEN k ∨ (Value.slice (some ⟨g, 0, none⟩) m cap).ownBlock = some k ∨ osv'.ownBlock = some k, ⟨pre, none, x.told ++ cntT xs 10 ⟨fm.d, fm.ws⟩ tl, .slice (some ⟨g, 0, none⟩) m cap, osv'⟩, ?_, ⟨PLW w' F, fun k hk => Nat.lt_of_lt_of_le (hS.pl k hk) hsz, ENW w' F, ?_, ?_, fun k hk => ?_, fun k hk => ?_, fun _ => Iff.rfl, fun k hk => (F.block k (hk.elim (hS.pl k) (fun y => hS.e.low y)) (fun e => hk.elim (Kd k e).2.2.1 (Kd k e).2.2.2.1)).trans (hS.sm k hk)⟩, z1, fun k hk => ?_, F.mono (fun k _ e => ?_)⟩
  · unfold fcl
    rw [if_neg hc]
    exact ⟨_, _, by rw [hpre, htl]⟩
  · show w'.ownsRow 0 202 22 (.slice (some ⟨g, 0, none⟩) m cap) pre.length (pre.flatMap tlc)
    rw [← hm]
    exact own_at' hL.1 (fun k hk => F.block k (hL.1.lt k hk).2 (fun e => (Kd k e).2.2.2.2 (by rw [htsv]; exact hk)))
  · exact own_at' q2 (fun k hk => z2.block k (q2.lt k hk).2 (fun e => q3 (e ▸ hk)))
  · have hk : x.tsv.ownBlock = some k := by rw [htsv]; exact hk
    refine ⟨fun y => ?_, (hS.nt k hk).2⟩
    rcases q4 k y with e | e
    · exact (hS.nt k hk).1 e
    have := (ho.lt k hk).2; omega
  · rcases q4 k hk with e | e
    · exact hS.no k e
    refine ⟨fun y => ?_, fun y => ?_⟩
    · have := hS.pl k y; omega
    have := hS.e.low y; omega
  · rcases hk with e | e | e | e
    · exact Or.inl ((hS.d k).2 (Or.inl e))
    · exact Or.inl ((hS.d k).2 (Or.inr (Or.inl e)))
    · exact Or.inl (hDt k (by rw [htsv]; exact e))
    rcases q4 k e with y | y
    · exact Or.inl (hoD k y)
    exact Or.inr y
  rw [hK] at e
  rcases e with y | y
  · exact Or.inr y
  exact Or.inl (hoD k y)
theorem f_cb {b f : Nat} {tt : ByteArray} {xs : List Sg} {Dp : Nat → Prop} {H : Nat → Option Obj} (hx : xs.length ≤ 10) (hsel : selN xs ≤ 10) : GCb f 170 (fgc b f) (ffb f) (ffc f) (FS b tt xs Dp H) (fun x => x.hd.isSome) (fbg xs) (fcl xs) (fOkB xs) (fOkC xs) where
  lt := fun h hk => h.lt hk
  keep := fun h s hz => h.keep s hz
  begins := ⟨_, _, _, rfl, fun _ _ => Tryz.call77 _ _, fun hS hB hM hr _ hdj _ hOk => f_begC hx hsel hS hB hM hr hdj hOk⟩
  closed := ⟨_, _, _, rfl, fun _ _ => Tryz.call78 _ _, fun hS hB hM hr hC hdj hg hOk => f_clC hx hsel hS hB hM hr hC hdj hg hOk⟩
end Go.Proofs.YtcbadebjpogmlaaGreatDoor
