import Derived.Test.YtcbadebjpogmlaaGreatDoorJCl
import Derived.Test.YtcbadebjpogmlaaGreatDoorJPlain8
namespace Go.Proofs.YtcbadebjpogmlaaGreatDoor
open Go.RowKit Tr Go.Conc
def x0 : Fx := ⟨[], none, [], .slice none 0 0, .slice none 0 0⟩
theorem fe_new {b f : Nat} {tt : ByteArray} {xs : List Sg} {Dp : Nat → Prop} {H : Nat → Option Obj} {w : World} (hp : OkD Dp w (fun w => PlanV w b tt xs)) (hpl : ∀ k, Dp k → k < w.heap.size ∧ k ≠ f) (he : EN w) (hef : ¬ gEN f) (hsm : ∀ k, Dp k ∨ gEN k → w.heap[k]? = H k) (hB : Blk w f (fgc b f x0 (.pointer none) (.string ⟨#[]⟩) (.int .i64 0)) 170) : FE b f tt xs Dp H w (fun k => Dp k ∨ gEN k ∨ k = f) fInit := by
  refine ⟨x0, fun _ => 0, fun _ => False, fun _ => False, fun k => Dp k ∨ gEN k, ⟨⟨⟨hp, fun k hk => (hpl k hk).1, he, ⟨rfl, Or.inl ⟨rfl, rfl⟩⟩, ⟨rfl, Or.inl ⟨rfl, rfl⟩⟩, fun k hk => (by cases hk), fun k hk => (by cases hk), fun k => ?_, hsm⟩, hB, fun _ y => y, gInit_ok, trivial, fun _ y => y.elim, fun k hk => ⟨id, id, fun e => ?_⟩, ⟨id, id⟩, fun _ t ht => (by cases ht)⟩, fInit_ok xs, gInit_nm, rfl, rfl, rfl⟩, fun k => ?_⟩
  · constructor
    · rintro (e | e)
      · exact Or.inl e
      exact Or.inr (Or.inl e)
    rintro (e | e | e | e)
    · exact Or.inl e
    · exact Or.inr e
    · cases e
    cases e
  · rcases hk with y | y
    · exact (hpl k y).2 e
    exact hef (e ▸ y)
  constructor
  · rintro (e | e | e)
    · exact Or.inl (Or.inl e)
    · exact Or.inl (Or.inr e)
    exact Or.inr (Or.inr (Or.inr e))
  rintro ((e | e) | e | e | e)
  · exact Or.inl e
  · exact Or.inr (Or.inl e)
  · exact e.elim
  · exact e.elim
  exact Or.inr (Or.inr e)
set_option maxHeartbeats 1000000 in
set_option maxRecDepth 100000 in
theorem s_new {w : World} {b : Nat} : Calls Tryz.prog 56 #[fvp b] w fun r w' => r = .returned (fvp w.heap.size) ∧ Blk w' w.heap.size (fgc b w.heap.size x0 (.pointer none) (.string ⟨#[]⟩) (.int .i64 0)) 170 ∧ Keeps w w' ∧ w'.heap.size = w.heap.size + 1 := by
  unfold fvp
  go_enter Tryz.func56, Tryz.ntmps56
  go_wp2
  go_ret
  exact ⟨rfl, Blk.new w _ _, (Fr.refl _ w).alloc _, World.size_alloc _ _⟩
def StP (b : Nat) (tt : ByteArray) (xs : List Sg) (Dp : Nat → Prop) (w : World) (res : Ending) (w' : World) : Prop :=
  ∃ sb r f Er E, res = .returned (fvp sb) ∧ Blk w' sb #[fvp r, fvp f, .int .i64 0, .int .i64 0] 135 ∧ RZ w' r Er sInit ∧ FE b f tt xs Dp (fun k => w.heap[k]?) w' E fInit ∧ (∀ k, Er k → ¬ E k ∧ k ≠ sb) ∧ ¬ E sb ∧ w.heap.size ≤ sb ∧ (∀ k, Er k → w.heap.size ≤ k) ∧ (∀ k, E k → Dp k ∨ gEN k ∨ w.heap.size ≤ k) ∧ Keeps w w'
set_option maxHeartbeats 2000000 in
set_option maxRecDepth 100000 in
theorem s_stream {w : World} {gq b : Nat} {tt : ByteArray} {xs : List Sg} {Dp : Nat → Prop} (hq : Blk w gq #[fvp b] 77) (hp : OkD Dp w (fun w => PlanV w b tt xs)) (hpl : ∀ k, Dp k → k < w.heap.size) (he : EN w) : Calls Tryz.prog 37 #[fvp gq] w (StP b tt xs Dp w) := by
  obtain ⟨W1, hW1⟩ : ∃ W1, W1 = w.alloc (.cells #[.int .i64 0, .int .i64 0, .slice none 0 0, .int .i64 0, .int .i64 0, .int .i64 0, .int .i64 0, .int .i64 0, .string ⟨#[]⟩, .pointer none, .slice none 0 0, .string ⟨#[]⟩, .int .i64 0, .int .i64 0, .nilFunc] 115) := ⟨_, rfl⟩
  have K1 : Keeps w W1 := by rw [hW1]; exact (Fr.refl _ w).alloc _
  have z1 : W1.heap.size = w.heap.size + 1 := by rw [hW1, World.size_alloc]
  have BR : Blk W1 w.heap.size (rcl 0 sInit (.slice none 0 0) (.pointer none) (.slice none 0 0) .nilFunc) 115 := by rw [hW1]; exact Blk.new w _ _
  have c0 : W1.cell? ⟨gq, 0, none⟩ = some (.pointer (some ⟨b, 0, none⟩)) := (hq.fr K1 id).cell 0
  have NEW : Hid (Calls Tryz.prog 56 #[.pointer (some ⟨b, 0, none⟩)] W1 fun r w' => r = .returned (.pointer (some ⟨W1.heap.size, 0, none⟩)) ∧ StP b tt xs Dp w (.returned (.pointer (some ⟨w'.heap.size, 0, none⟩))) (w'.alloc (.cells #[.pointer (some ⟨w.heap.size, 0, none⟩), .pointer (some ⟨W1.heap.size, 0, none⟩), .int .i64 0, .int .i64 0] 135))) := by
    refine (s_new (w := W1) (b := b)).mono ?_
    rintro r w' ⟨rfl, h1, h2, h3⟩
    obtain ⟨W3, hW3⟩ : ∃ W3, W3 = w'.alloc (.cells #[.pointer (some ⟨w.heap.size, 0, none⟩), .pointer (some ⟨W1.heap.size, 0, none⟩), .int .i64 0, .int .i64 0] 135) := ⟨_, rfl⟩
    rw [← hW3]
    have K3 : Keeps w' W3 := by rw [hW3]; exact (Fr.refl _ w').alloc _
    have KA : Keeps w W3 := (K1.trans h2).trans K3
    have B3 : Blk W3 w'.heap.size #[fvp w.heap.size, fvp W1.heap.size, .int .i64 0, .int .i64 0] 135 := by rw [hW3]; exact Blk.new w' _ _
    have hR : RZ W3 w.heap.size (fun k => k = w.heap.size) sInit := ⟨.slice none 0 0, .pointer none, .slice none 0 0, ⟨(BR.fr h2 id).fr K3 id, World.ownsRow_nil _ _ _ _, World.ownsRow_nil _ _ _ _, Or.inl rfl, fun _ => rfl⟩, fun k => ⟨Or.inl, fun e => by
      rcases e with e | e | e
      · exact e
      · cases e
      cases e⟩⟩
    have hg : ∀ k, gEN k → k < w.heap.size := fun k hk => he.low hk
    refine ⟨rfl, w'.heap.size, w.heap.size, W1.heap.size, fun k => k = w.heap.size, fun k => Dp k ∨ gEN k ∨ k = W1.heap.size, rfl, B3, hR, fe_new (hp.keep (fun k hk => KA.block k (hpl k hk) id)) (fun k hk => ⟨Nat.lt_of_lt_of_le (hpl k hk) KA.size, by have := hpl k hk; omega⟩) (he.keep KA) (fun y => by have := hg _ y; omega) (fun k hk => KA.block k (hk.elim (hpl k) (fun y => hg k y)) id) (h1.fr K3 id), fun k hk => ⟨fun y => ?_, by omega⟩, fun y => ?_, by omega, fun k hk => by omega, fun k hk => ?_, KA⟩
    · rcases y with y | y | y
      · have := hpl k y; omega
      · have := hg k y; omega
      omega
    · rcases y with y | y | y
      · have := hpl _ y; omega
      · have := hg _ y; omega
      omega
    rcases hk with y | y | y
    · exact Or.inl y
    · exact Or.inr (Or.inl y)
    exact Or.inr (Or.inr (by omega))
  have HW1 := hide hW1
  rw [hW1] at c0
  clear hq hp hpl he hW1 K1 z1 BR
  unfold fvp
  go_enter Tryz.func37, Tryz.ntmps37
  go_wp2_with fail
  rw [← HW1.out]
  refine NEW.out.mono ?_
  rintro r w' ⟨rfl, hs⟩
  have HS := hide hs
  clear hs c0 NEW
  go_wp2
  go_ret
  exact HS.out
end Go.Proofs.YtcbadebjpogmlaaGreatDoor
namespace Go.Proofs.YtcbadebjpogmlaaGreatDoor
open Go.RowKit Tr Go.Conc
theorem fRun_sh (xs : List Sg) : ∀ (ts : List Tok) {s : Fw}, OkL s.g.sh ts → (fRun xs s ts).g.sh = shRun s.g.sh ts
  | [], _, _ => rfl
  | t :: r, s, h => by
    show (fRun xs (fTake xs s t) r).g.sh = shRun (shTake s.g.sh t) r
    rw [← fTake_sh xs s h.1]
    exact fRun_sh xs r (by rw [fTake_sh xs s h.1]; exact h.2)
def stE (p : List UInt8) : Nat := (sRun sInit p).e
def stAt (p : List UInt8) : Nat := if stE p = 0 then 0 else (sRun sInit p).z.at'
def stT (xs : List Sg) (p : List UInt8) : List (Tv × Nat) := (fRun xs fInit (sRun sInit p).ts).told
def stN (xs : List Sg) (p q : List UInt8) : List (Tv × Nat) := if stE p = 0 then (fRun xs (noT (fRun xs fInit (sRun sInit p).ts)) (sRun (sRun sInit p).z q).ts).told else []
theorem stT_app (xs : List Sg) (p q : List UInt8) : stT xs (p ++ q) = stT xs p ++ stN xs p q := by
  unfold stT stN
  by_cases h : stE p = 0
  · rw [if_pos h, sRun_app p q sInit h]
    simp only
    rw [fRun_app]
    exact (fRun_no xs _ _).1
  rw [if_neg h, sRun_bad p q sInit h, List.append_nil]
theorem stE_app {p q : List UInt8} (h : stE p = 0) : stE (p ++ q) = (sRun (sRun sInit p).z q).e := by unfold stE; rw [sRun_app p q sInit h]
theorem stE_bad {p : List UInt8} (q : List UInt8) (h : stE p ≠ 0) : stE (p ++ q) = stE p ∧ stAt (p ++ q) = stAt p := by
  unfold stAt stE
  rw [sRun_bad p q sInit h]
  exact ⟨rfl, rfl⟩
theorem stN_nil (xs : List Sg) (p : List UInt8) : stN xs p [] = [] := by
  unfold stN
  split
  · rfl
  rfl
def ST (sb b : Nat) (tt : ByteArray) (xs : List Sg) (Dp : Nat → Prop) (H : Nat → Option Obj) (w : World) (Es : Nat → Prop) (p : List UInt8) : Prop :=
  (stE p = 0 ∧ ∃ r f Er E, Blk w sb #[fvp r, fvp f, .int .i64 0, .int .i64 0] 135 ∧ RZ w r Er (sRun sInit p).z ∧ FE b f tt xs Dp H w E (noT (fRun xs fInit (sRun sInit p).ts)) ∧ (∀ k, Er k → ¬ E k ∧ k ≠ sb) ∧ ¬ E sb ∧ ∀ k, Es k ↔ Er k ∨ E k ∨ k = sb) ∨
  (stE p ≠ 0 ∧ Blk w sb #[.pointer none, .pointer none, .int .i64 (stE p : Nat), .int .i64 (stAt p : Nat)] 135 ∧ (∀ k, Dp k ∨ gEN k → w.heap[k]? = H k ∧ k < w.heap.size ∧ k ≠ sb) ∧ ∀ k, Es k ↔ k = sb ∨ Dp k ∨ gEN k)
theorem ST.same {sb b : Nat} {tt : ByteArray} {xs : List Sg} {Dp : Nat → Prop} {H : Nat → Option Obj} {w : World} {Es : Nat → Prop} {p : List UInt8} (h : ST sb b tt xs Dp H w Es p) {k : Nat} (hk : Dp k ∨ gEN k) : w.heap[k]? = H k ∧ Es k := by
  rcases h with ⟨_, r, f, Er, E, h1, h2, h3, _, _, h6⟩ | ⟨_, h1, h3, h2⟩
  · exact ⟨(h3.same hk).1, (h6 k).2 (Or.inr (Or.inl (h3.same hk).2))⟩
  exact ⟨(h3 k hk).1, (h2 k).2 (Or.inr hk)⟩
theorem ST.lt {sb b : Nat} {tt : ByteArray} {xs : List Sg} {Dp : Nat → Prop} {H : Nat → Option Obj} {w : World} {Es : Nat → Prop} {p : List UInt8} (h : ST sb b tt xs Dp H w Es p) {k : Nat} (hk : Es k) : k < w.heap.size := by
  rcases h with ⟨_, r, f, Er, E, h1, h2, h3, _, _, h6⟩ | ⟨_, h1, h3, h2⟩
  · rcases (h6 k).1 hk with e | e | e
    · exact h2.lt e
    · exact h3.lt e
    rw [e]; exact h1.lt
  rcases (h2 k).1 hk with e | e
  · rw [e]; exact h1.lt
  exact (h3 k e).2.1
theorem ST.keep {sb b : Nat} {tt : ByteArray} {xs : List Sg} {Dp : Nat → Prop} {H : Nat → Option Obj} (hx : xs.length ≤ 10) (hsel : selN xs ≤ 10) {w w' : World} {Es : Nat → Prop} {p : List UInt8} (h : ST sb b tt xs Dp H w Es p) (s : Sm Es w w') (hz : w.heap.size ≤ w'.heap.size) : ST sb b tt xs Dp H w' Es p := by
  rcases h with ⟨h0, r, f, Er, E, h1, h2, h3, h4, h5, h6⟩ | ⟨h0, h1, h3, h2⟩
  · exact Or.inl ⟨h0, r, f, Er, E, (s sb ((h6 sb).2 (Or.inr (Or.inr rfl)))).trans h1, h2.keep (fun k hk => s k ((h6 k).2 (Or.inl hk))), h3.keep hx hsel (fun k hk => s k ((h6 k).2 (Or.inr (Or.inl hk)))) hz, h4, h5, h6⟩
  exact Or.inr ⟨h0, (s sb ((h2 sb).2 (Or.inl rfl))).trans h1, fun k hk => ⟨(s k ((h2 k).2 (Or.inr hk))).trans (h3 k hk).1, Nat.lt_of_lt_of_le (h3 k hk).2.1 hz, (h3 k hk).2.2⟩, h2⟩
theorem st_new {sb b r f : Nat} {tt : ByteArray} {xs : List Sg} {Dp : Nat → Prop} {H : Nat → Option Obj} {w : World} {Er E : Nat → Prop} (h1 : Blk w sb #[fvp r, fvp f, .int .i64 0, .int .i64 0] 135) (h2 : RZ w r Er sInit) (h3 : FE b f tt xs Dp H w E fInit) (h4 : ∀ k, Er k → ¬ E k ∧ k ≠ sb) (h5 : ¬ E sb) : ST sb b tt xs Dp H w (fun k => Er k ∨ E k ∨ k = sb) [] := Or.inl ⟨rfl, r, f, Er, E, h1, h2, h3, h4, h5, fun _ => Iff.rfl⟩
def SfP (sb b : Nat) (tt : ByteArray) (xs : List Sg) (Dp : Nat → Prop) (H : Nat → Option Obj) (Es : Nat → Prop) (p q : List UInt8) (w : World) (res : Ending) (w' : World) : Prop :=
  ∃ sv Es', res = .returned (.tuple #[sv, .int .i64 (stE (p ++ q) : Nat), .int .i64 (stAt (p ++ q) : Nat)]) ∧ ST sb b tt xs Dp H w' Es' (p ++ q) ∧ w'.ownsRow 0 44 4 sv (stN xs p q).length ((stN xs p q).flatMap tcl) ∧ (∀ k, sv.ownBlock = some k → ¬ Es' k ∧ (Es k ∨ w.heap.size ≤ k)) ∧ (∀ k, Es' k → Es k ∨ w.heap.size ≤ k) ∧ Fr Es w w'
theorem st_feed {sb b : Nat} {tt : ByteArray} {xs : List Sg} {Dp : Nat → Prop} {H : Nat → Option Obj} (hx : xs.length ≤ 10) (hsel : selN xs ≤ 10) (hpos : ∀ g ∈ xs, 0 < g.l.length) {w : World} {Es : Nat → Prop} {p : List UInt8} (h : ST sb b tt xs Dp H w Es p) (q : ByteArray) (hl : p.length + q.size ≤ 4000000) :
    Calls Tryz.prog 38 #[fvp sb, .string q] w (SfP sb b tt xs Dp H Es p (bs q) w) := by
  have hlen : (bs q).length = q.size := bs_len q
  rcases h with ⟨h0, r, f, Er, E, h1, h2, h3, h4, h5, h6⟩ | ⟨h0, h1, h3, h2⟩
  · have R := run_ok' p sInit_ok.1 sInit_ok.2 (by simp [sInit]) (by simp [sInit]; omega)
    obtain ⟨r1, r2, r3, r4⟩ := R.ok h0
    have hat : (sRun sInit p).z.at' = p.length := by simpa [sInit] using r3
    have htx : (sRun sInit p).z.tx.length ≤ p.length := by have := R.tx; simpa [sInit] using this
    have hsh : (noT (fRun xs fInit (sRun sInit p).ts)).g.sh = shRun ⟨[], 0⟩ (sRun sInit p).ts := fRun_sh xs (sRun sInit p).ts (s := fInit) R.tok
    have hwd := (run_room p sInit_ok.1 sInit_ok.2 (by simp [sInit]) (by simp [sInit]; omega) (fun y => by simp [sInit] at y)).2
    have X := run_tt (p ++ bs q) sInit 4000000 (by simp [sInit, hlen]; omega) (by simp [sInit])
    rw [sRun_app p (bs q) sInit h0] at X
    refine (s_feed hx hsel hpos h1 h2 h3 h4 h5 q r1 (by rw [hsh]; exact r4) r2 hwd (by omega) (by omega) (fun t ht => X.1 t (List.mem_append_right _ ht))).mono ?_
    rintro res w' ⟨sv, rfl, g1, g2, g3, gs, g4, g5⟩
    have eE : stE (p ++ bs q) = (sRun (sRun sInit p).z (bs q)).e := stE_app h0
    have eA : stAt (p ++ bs q) = if (sRun (sRun sInit p).z (bs q)).e = 0 then 0 else (sRun (sRun sInit p).z (bs q)).z.at' := by unfold stAt; rw [eE, sRun_app p (bs q) sInit h0]
    have eN : stN xs p (bs q) = (fRun xs (noT (fRun xs fInit (sRun sInit p).ts)) (sRun (sRun sInit p).z (bs q)).ts).told := by unfold stN; rw [if_pos h0]
    have hsbE : Es sb := (h6 sb).2 (Or.inr (Or.inr rfl))
    by_cases he : (sRun (sRun sInit p).z (bs q)).e = 0
    · obtain ⟨Er', E', k1, k2, k3, k4, k5, k6, k7, k8⟩ := g4 he
      refine ⟨sv, fun k => Er' k ∨ E' k ∨ k = sb, by rw [eE, eA], Or.inl ⟨by rw [eE]; exact he, r, f, Er', E', k3, ?_, ?_, k4, k5, fun _ => Iff.rfl⟩, by rw [eN]; exact g1, fun k hk => ⟨fun y => ?_, ?_⟩, fun k hk => ?_, g3.mono (fun k _ y => (h6 k).2 y)⟩
      · rw [sRun_app p (bs q) sInit h0]; exact k1
      · rw [sRun_app p (bs q) sInit h0]
        simp only
        rw [fRun_app, (fRun_no xs _ _).2]
        exact k2
      · rcases y with y | y | y
        · exact (k6 k hk).2 y
        · exact (k6 k hk).1 y
        exact (g2 k hk).1.1 y
      · exact (g2 k hk).2.imp (fun y => (h6 k).2 (Or.inr (Or.inl y))) id
      rcases hk with y | y | y
      · exact (k7 k y).imp (fun u => (h6 k).2 (Or.inl u)) id
      · exact (k8 k y).imp (fun u => (h6 k).2 (Or.inr (Or.inl u))) id
      exact Or.inl (y ▸ hsbE)
    refine ⟨sv, fun k => k = sb ∨ Dp k ∨ gEN k, by rw [eE, eA], Or.inr ⟨by rw [eE]; exact he, ?_, fun k hk => ⟨gs k hk, ?_, fun y => h5 (y ▸ (h3.same hk).2)⟩, fun _ => Iff.rfl⟩, by rw [eN]; exact g1, fun k hk => ⟨fun y => ?_, (g2 k hk).2.imp (fun y => (h6 k).2 (Or.inr (Or.inl y))) id⟩, fun k hk => Or.inl ?_, g3.mono (fun k _ y => (h6 k).2 y)⟩
    · have := g5 he
      rw [eE, eA, if_neg he]; exact this
    · exact Nat.lt_of_lt_of_le (h3.lt (h3.same hk).2) g3.size
    · rcases y with y | y
      · exact (g2 k hk).1.1 y
      exact (g2 k hk).1.2 y
    rcases hk with y | y
    · exact y ▸ hsbE
    exact (h6 k).2 (Or.inr (Or.inl (h3.same y).2))
  obtain ⟨e1, e2⟩ := stE_bad (bs q) h0
  refine (s_feed0 h1 h0 q).mono ?_
  rintro res w' ⟨rfl, g1, g2⟩
  have eN : stN xs p (bs q) = [] := by unfold stN; rw [if_neg h0]
  exact ⟨.slice none 0 0, Es, by rw [e1, e2], Or.inr ⟨by rw [e1]; exact h0, by rw [e1, e2]; exact g1, fun k hk => ⟨(g2.block k (h3 k hk).2.1 (h3 k hk).2.2).trans (h3 k hk).1, Nat.lt_of_lt_of_le (h3 k hk).2.1 g2.size, (h3 k hk).2.2⟩, h2⟩, by rw [eN]; exact ⟨rfl, Or.inl ⟨rfl, rfl⟩⟩, fun k hk => (by cases hk), fun k hk => Or.inl hk, g2.mono (fun k _ y => (h2 k).2 (Or.inl y))⟩
end Go.Proofs.YtcbadebjpogmlaaGreatDoor
namespace Go.Proofs.YtcbadebjpogmlaaGreatDoor
open Go.RowKit Tr
def i64R (v : Int) : Prop := -9223372036854775808 ≤ v ∧ v < 9223372036854775808
set_option maxRecDepth 100000 in
theorem p_pick {w : World} {c : Int} (hc : i64R c) {n : Nat} (hn : 0 < n) (hn2 : n ≤ 5000000) : Calls Tryz.prog 22 #[.int .i64 c, .int .i64 (n : Nat)] w fun r w' => (∃ k : Nat, k < n ∧ r = .returned (.int .i64 (k : Nat))) ∧ w' = w := by
  unfold i64R at hc
  by_cases h : c < 0
  · have e : -(c + 1).tmod (n : Int) = (-(c + 1)) % (n : Int) := by rw [← Int.neg_tmod, Int.tmod_eq_emod_of_nonneg (by omega)]
    have e0 := Int.emod_nonneg (-(c + 1)) (show (n : Int) ≠ 0 by omega)
    have e1 := Int.emod_lt_of_pos (-(c + 1)) (show (0 : Int) < n by omega)
    have FIN : ∃ k : Nat, k < n ∧ Ending.returned (.int .i64 (-(c + 1).tmod (n : Int))) = .returned (.int .i64 (k : Nat)) := ⟨((-(c + 1)) % (n : Int)).toNat, by omega, by rw [e]; congr 2; omega⟩
    have HF := hide FIN
    clear FIN e e0 e1
    go_enter Tryz.func22, Tryz.ntmps22
    go_wp2
    go_ret
    exact ⟨HF.out, rfl⟩
  have e0 := Int.emod_nonneg c (show (n : Int) ≠ 0 by omega)
  have e1 := Int.emod_lt_of_pos c (show (0 : Int) < n by omega)
  have FIN : ∃ k : Nat, k < n ∧ Ending.returned (.int .i64 (c % (n : Int))) = .returned (.int .i64 (k : Nat)) := ⟨(c % (n : Int)).toNat, by omega, by congr 2; omega⟩
  have HF := hide FIN
  clear FIN e0 e1
  go_enter Tryz.func22, Tryz.ntmps22
  go_wp2
  go_ret
  exact ⟨HF.out, rfl⟩
def IntsAt (w : World) (lv : Value) : Prop := ∃ ao n cp, lv = .slice ao n cp ∧ n ≤ 9223372036854775807 ∧ (0 < n → ∃ ad : Addr, ao = some ad ∧ ∀ i, i < n → ∃ v, w.cell? (ad.add i) = some (.int .i64 v) ∧ i64R v)
theorem IntsAt.keep {w w' : World} {lv : Value} (h : IntsAt w lv) (k : Keeps w w') : IntsAt w' lv := by
  obtain ⟨ao, n, cp, h1, h2, h3⟩ := h
  refine ⟨ao, n, cp, h1, h2, fun hn => ?_⟩
  obtain ⟨g, e, hv⟩ := h3 hn
  refine ⟨g, e, fun i hi => ?_⟩
  obtain ⟨v, c1, c2⟩ := hv i hi
  exact ⟨v, (k.cell (p := g.add i) (World.block_lt_of_cell? w (g.add i) c1) id).trans c1, c2⟩
set_option maxRecDepth 100000 in
theorem p_raw {w : World} {lv : Value} (h : IntsAt w lv) {i : Nat} (hi : i ≤ 5000000) : Calls Tryz.prog 32 #[lv, .int .i64 (i : Nat)] w fun r w' => (∃ v, i64R v ∧ r = .returned (.int .i64 v)) ∧ w' = w := by
  obtain ⟨ao, n, cp, rfl, hn, hg⟩ := h
  by_cases h0 : n = 0
  · subst h0
    clear hg
    go_enter Tryz.func32, Tryz.ntmps32
    go_wp2
    go_ret
    exact ⟨⟨0, by unfold i64R; omega, rfl⟩, rfl⟩
  obtain ⟨g, rfl, hv⟩ := hg (by omega)
  obtain ⟨v, h1, h2⟩ := hv (i % n) (Nat.mod_lt _ (by omega))
  have h0i : ¬ (n : Int) = 0 := by omega
  have h0j : (0 : Int) < (n : Int) := by omega
  have hm0 : (0 : Int) ≤ (i : Int) % (n : Int) := by omega
  have hm1 : (i : Int) % (n : Int) < (n : Int) := Int.emod_lt_of_pos _ (by omega)
  clear hv hg
  go_enter Tryz.func32, Tryz.ntmps32
  go_wp2
  go_ret
  exact ⟨⟨v, h2, rfl⟩, rfl⟩
end Go.Proofs.YtcbadebjpogmlaaGreatDoor
