import Derived.Test.YtcbadebjpogmlaaGreatDoorJTt
import Derived.Test.YtcbadebjpogmlaaGreatDoorJMkZ
import Derived.Test.YtcbadebjpogmlaaGreatDoorJHc
namespace Tr
theorem next_tt (z : Sn) (b : Nat) : (∀ t ∈ (sNext z b).ts, t.t = [] ∨ t.t = z.tk.t ∨ t.t = z.tx) ∧ ((sNext z b).z.tk.t = [] ∨ (sNext z b).z.tk.t = z.tk.t ∨ (sNext z b).z.tk.t = z.tx) ∧ (sNext z b).z.tx.length ≤ z.tx.length + 1 := by
  have T : ∀ s, (∀ t ∈ (z.to s).ts, t.t = [] ∨ t.t = z.tk.t ∨ t.t = z.tx) ∧ ((z.to s).z.tk.t = [] ∨ (z.to s).z.tk.t = z.tk.t ∨ (z.to s).z.tk.t = z.tx) ∧ (z.to s).z.tx.length ≤ z.tx.length + 1 := fun s => ⟨by simp [Sn.to], by simp [Sn.to], by simp [Sn.to]⟩
  have SH : (∀ t ∈ (sShut z).ts, t.t = [] ∨ t.t = z.tk.t ∨ t.t = z.tx) ∧ ((sShut z).z.tk.t = [] ∨ (sShut z).z.tk.t = z.tk.t ∨ (sShut z).z.tk.t = z.tx) ∧ (sShut z).z.tx.length ≤ z.tx.length + 1 := ⟨by simp [sShut], by simp [sShut], by simp [sShut]⟩
  have BH : (∀ t ∈ (sBehind z b).ts, t.t = [] ∨ t.t = z.tk.t ∨ t.t = z.tx) ∧ ((sBehind z b).z.tk.t = [] ∨ (sBehind z b).z.tk.t = z.tk.t ∨ (sBehind z b).z.tk.t = z.tx) ∧ (sBehind z b).z.tx.length ≤ z.tx.length + 1 := by
    unfold sBehind
    split
    · exact T _
    split
    · exact T _
    split
    · exact SH
    split
    · exact T _
    exact T _
  have AD : (∀ t ∈ (sAdd z b).ts, t.t = [] ∨ t.t = z.tk.t ∨ t.t = z.tx) ∧ ((sAdd z b).z.tk.t = [] ∨ (sAdd z b).z.tk.t = z.tk.t ∨ (sAdd z b).z.tk.t = z.tx) ∧ (sAdd z b).z.tx.length ≤ z.tx.length + 1 := ⟨by simp [sAdd], by simp [sAdd], by simp [sAdd]⟩
  unfold sNext
  split
  · unfold sStr
    split
    · exact T _
    split
    · exact T _
    split
    · unfold sEndS
      split
      · exact ⟨by simp [sEndP], by simp [sEndP], by simp [sEndP]⟩
      exact ⟨by simp, by simp, by simp⟩
    exact AD
  split
  · unfold sEsc
    split
    · exact T _
    exact AD
  split
  · unfold sNum
    split
    · exact T _
    split
    · exact ⟨by simp [sDig], by simp [sDig], by simp [sDig]⟩
    split
    · exact T _
    refine ⟨fun t ht => ?_, BH.2⟩
    rcases List.mem_cons.1 ht with e | e
    · subst e; right; left; rfl
    exact BH.1 t e
  split
  · unfold sWord
    split
    · exact T _
    split
    · exact ⟨by simp [sEndP], by simp [sEndP], by simp [sEndP]⟩
    exact ⟨by simp, by simp, by simp⟩
  split
  · exact T _
  unfold sBetw
  split
  · exact BH
  split
  · exact T _
  split
  · exact SH
  split
  · unfold sBegin
    repeat' split
    · unfold sLot; split
      · exact T _
      exact ⟨by simp, by simp, by simp⟩
    · unfold sLot; split
      · exact T _
      exact ⟨by simp, by simp, by simp⟩
    · exact ⟨by simp [sBStr], by simp [sBStr], by simp [sBStr]⟩
    · exact ⟨by simp [sBWord], by simp [sBWord], by simp [sBWord]⟩
    · exact ⟨by simp [sBWord], by simp [sBWord], by simp [sBWord]⟩
    · exact ⟨by simp [sBWord], by simp [sBWord], by simp [sBWord]⟩
    unfold sBNum; split
    · exact ⟨by simp, by simp, by simp⟩
    split
    · exact ⟨by simp [sDig], by simp [sDig], by simp [sDig]⟩
    exact ⟨by simp, by simp, by simp⟩
  split
  · exact ⟨by simp [sBStr], by simp [sBStr], by simp [sBStr]⟩
  exact T _
theorem run_tt : ∀ (l : List UInt8) (z : Sn) (N : Nat), z.tx.length + l.length ≤ N → z.tk.t.length ≤ N → (∀ t ∈ (sRun z l).ts, t.t.length ≤ N) ∧ (sRun z l).z.tk.t.length ≤ N
  | [], _, _, _, h => ⟨by simp [sRun], h⟩
  | b :: l, z, N, h1, h2 => by
    obtain ⟨a1, a2, a3⟩ := next_tt z b.toNat
    have h1 : z.tx.length + (l.length + 1) ≤ N := by simpa using h1
    have b1 : ∀ t ∈ (sNext z b.toNat).ts, t.t.length ≤ N := fun t ht => by
      rcases a1 t ht with e | e | e
      · rw [e]; simp
      · rw [e]; exact h2
      rw [e]; omega
    have b2 : (sNext z b.toNat).z.tk.t.length ≤ N := by
      rcases a2 with e | e | e
      · rw [e]; simp
      · rw [e]; exact h2
      rw [e]; omega
    rw [sRun]
    split
    · exact ⟨b1, b2⟩
    split
    · exact ⟨b1, b2⟩
    have R := run_tt l { (sNext z b.toNat).z with at' := (sNext z b.toNat).z.at' + 1 } N (by simp only; omega) b2
    refine ⟨fun t ht => ?_, R.2⟩
    rcases List.mem_append.1 ht with e | e
    · exact b1 t e
    exact R.1 t e
def NmV (v : Tv) : Prop := v.d.name.length ≤ 4000000 ∧ (v.ws ≠ [] → v.d.kind = 4 ∨ v.d.kind = 5)
def NmF (f : Fm) : Prop := f.d.name.length ≤ 4000000 ∧ (f.d.kind = 4 ∨ f.d.kind = 5) ∧ ∀ c ∈ f.ws, ∀ v ∈ allT 9 c, NmV v
structure NmG (g : Gs) : Prop where
  nm : g.nm.length ≤ 4000000
  st : ∀ f ∈ g.st, NmF f
  l : ∀ t, g.last = some t → ∀ v ∈ allT 10 t, NmV v
theorem nm_tv {d : Dat} {ws : List Tv} (h1 : d.name.length ≤ 4000000) (h2 : ws ≠ [] → d.kind = 4 ∨ d.kind = 5) (h3 : ∀ c ∈ ws, ∀ v ∈ allT 9 c, NmV v) : ∀ v ∈ allT 10 ⟨d, ws⟩, NmV v := fun v hv => by
  have hv : v ∈ (⟨d, ws⟩ : Tv) :: ws.flatMap (allT 9) := hv
  rcases List.mem_cons.1 hv with e | e
  · subst e; exact ⟨h1, h2⟩
  obtain ⟨c, hc, hvc⟩ := List.mem_flatMap.1 e
  exact h3 c hc v hvc
theorem all_less : ∀ (n : Nat) (t v : Tv), v ∈ allT n t → v ∈ allT (n + 1) t
  | 0, _, _, h => by cases h
  | n + 1, t, v, h => by
    have h : v ∈ t :: t.ws.flatMap (allT n) := h
    show v ∈ t :: t.ws.flatMap (allT (n + 1))
    rcases List.mem_cons.1 h with e | e
    · exact List.mem_cons.2 (Or.inl e)
    obtain ⟨c, hc, hvc⟩ := List.mem_flatMap.1 e
    exact List.mem_cons.2 (Or.inr (List.mem_flatMap.2 ⟨c, hc, all_less n c v hvc⟩))
theorem nm_close {g : Gs} {f : Fm} {r : List Fm} {to : Nat} (hn : g.nm.length ≤ 4000000) (h1 : f.d.name.length ≤ 4000000) (h2 : f.ws ≠ [] → f.d.kind = 4 ∨ f.d.kind = 5) (h3 : ∀ c ∈ f.ws, ∀ v ∈ allT 9 c, NmV v) (hr : ∀ f ∈ r, NmF f) : NmG (gClose g f r to) := by
  have ht : ∀ v ∈ allT 10 (f.tv to), NmV v := nm_tv (d := { f.d with to := to }) h1 h2 h3
  refine ⟨hn, ?_, fun t e => ?_⟩
  · show ∀ x ∈ gOn r f.kp (f.tv to), NmF x
    cases r with
    | nil => intro x hx; cases hx
    | cons p q =>
      intro x hx
      have hx : x ∈ gKeep p f.kp (f.tv to) :: q := hx
      rcases List.mem_cons.1 hx with e | e
      · have hp := hr p (List.mem_cons_self)
        rw [e]
        unfold gKeep
        split
        · refine ⟨hp.1, hp.2.1, fun c hc => ?_⟩
          rcases List.mem_append.1 hc with y | y
          · exact hp.2.2 c y
          rw [List.mem_singleton.1 y]
          exact fun v hv => ht v (all_less 9 _ v hv)
        exact hp
      exact hr x (List.mem_cons_of_mem _ e)
  have : f.tv to = t := Option.some.inj e
  rw [← this]; exact ht
theorem nm_take {g : Gs} {t : Tok} {kp : Bool} (h : NmG g) (ht : TokOk g.sh t) (hl : t.t.length ≤ 4000000) : NmG (gTake g t kp) := by
  unfold gTake
  by_cases h0 : t.k = 0
  · rw [if_pos h0]
    refine ⟨by simp, fun f hf => ?_, h.l⟩
    have hf : f ∈ gBegin g t kp :: g.st := hf
    rcases List.mem_cons.1 hf with e | e
    · subst e
      refine ⟨h.nm, ?_, fun c hc => by cases hc⟩
      show kOf t.of = 4 ∨ kOf t.of = 5
      rcases (ht.k0 h0).1 with x | x <;> rw [x] <;> decide
    exact h.st f e
  rw [if_neg h0]
  by_cases h1 : t.k = 1
  · rw [if_pos h1]
    cases hs : g.st with
    | nil => exact ⟨h.nm, fun f hf => (by rw [hs] at hf; cases hf), h.l⟩
    | cons f r =>
      have hf := h.st f (by rw [hs]; exact List.mem_cons_self)
      exact nm_close h.nm hf.1 (fun _ => hf.2.1) hf.2.2 (fun x hx => h.st x (by rw [hs]; exact List.mem_cons_of_mem _ hx))
  rw [if_neg h1]
  by_cases h2 : t.k = 2
  · rw [if_pos h2]; exact ⟨hl, h.st, h.l⟩
  rw [if_neg h2]
  exact nm_close (g := { g with nm := [], bd := t.frm + 1 }) (f := gBegin g t kp) (by simp) h.nm (fun x => absurd rfl x) (fun c hc => by cases hc) h.st
theorem nm_run : ∀ {ts : List Tok} {g : Gs}, NmG g → OkL g.sh ts → (∀ t ∈ ts, t.t.length ≤ 4000000) → NmG (gRun g ts)
  | [], _, h, _, _ => h
  | t :: r, g, h, ho, hl => by
    rw [gRun_cons]
    exact nm_run (nm_take h ho.1 (hl t (List.mem_cons_self))) (by rw [sh_take g t true ho.1]; exact ho.2) (fun x hx => hl x (List.mem_cons_of_mem _ hx))
theorem gInit_nm : NmG gInit := ⟨by simp [gInit], fun f hf => (by cases hf), fun t ht => (by cases ht)⟩
theorem next_ff (z : Sn) (b : Nat) : (∀ t ∈ (sNext z b).ts, t.frm = 0 ∨ t.frm = z.at' ∨ t.frm = z.tk.frm) ∧ ((sNext z b).z.tk.frm = z.at' ∨ (sNext z b).z.tk.frm = z.tk.frm) ∧ (sNext z b).z.at' = z.at' := by
  have T : ∀ s, (∀ t ∈ (z.to s).ts, t.frm = 0 ∨ t.frm = z.at' ∨ t.frm = z.tk.frm) ∧ ((z.to s).z.tk.frm = z.at' ∨ (z.to s).z.tk.frm = z.tk.frm) ∧ (z.to s).z.at' = z.at' := fun s => ⟨by simp [Sn.to], by simp [Sn.to], by simp [Sn.to]⟩
  have SH : (∀ t ∈ (sShut z).ts, t.frm = 0 ∨ t.frm = z.at' ∨ t.frm = z.tk.frm) ∧ ((sShut z).z.tk.frm = z.at' ∨ (sShut z).z.tk.frm = z.tk.frm) ∧ (sShut z).z.at' = z.at' := ⟨by simp [sShut], by simp [sShut], by simp [sShut]⟩
  have BH : (∀ t ∈ (sBehind z b).ts, t.frm = 0 ∨ t.frm = z.at' ∨ t.frm = z.tk.frm) ∧ ((sBehind z b).z.tk.frm = z.at' ∨ (sBehind z b).z.tk.frm = z.tk.frm) ∧ (sBehind z b).z.at' = z.at' := by
    unfold sBehind
    split
    · exact T _
    split
    · exact T _
    split
    · exact SH
    split
    · exact T _
    exact T _
  have AD : (∀ t ∈ (sAdd z b).ts, t.frm = 0 ∨ t.frm = z.at' ∨ t.frm = z.tk.frm) ∧ ((sAdd z b).z.tk.frm = z.at' ∨ (sAdd z b).z.tk.frm = z.tk.frm) ∧ (sAdd z b).z.at' = z.at' := ⟨by simp [sAdd], by simp [sAdd], by simp [sAdd]⟩
  unfold sNext
  split
  · unfold sStr
    split
    · exact T _
    split
    · exact T _
    split
    · unfold sEndS
      split
      · exact ⟨by simp [sEndP], by simp [sEndP], by simp [sEndP]⟩
      exact ⟨by simp, by simp, by simp⟩
    exact AD
  split
  · unfold sEsc
    split
    · exact T _
    exact AD
  split
  · unfold sNum
    split
    · exact T _
    split
    · exact ⟨by simp [sDig], by simp [sDig], by simp [sDig]⟩
    split
    · exact T _
    refine ⟨fun t ht => ?_, BH.2⟩
    rcases List.mem_cons.1 ht with e | e
    · subst e; right; right; rfl
    exact BH.1 t e
  split
  · unfold sWord
    split
    · exact T _
    split
    · exact ⟨by simp [sEndP], by simp [sEndP], by simp [sEndP]⟩
    exact ⟨by simp, by simp, by simp⟩
  split
  · exact T _
  unfold sBetw
  split
  · exact BH
  split
  · exact T _
  split
  · exact SH
  split
  · unfold sBegin
    repeat' split
    · unfold sLot; split
      · exact T _
      exact ⟨by simp, by simp, by simp⟩
    · unfold sLot; split
      · exact T _
      exact ⟨by simp, by simp, by simp⟩
    · exact ⟨by simp [sBStr], by simp [sBStr], by simp [sBStr]⟩
    · exact ⟨by simp [sBWord], by simp [sBWord], by simp [sBWord]⟩
    · exact ⟨by simp [sBWord], by simp [sBWord], by simp [sBWord]⟩
    · exact ⟨by simp [sBWord], by simp [sBWord], by simp [sBWord]⟩
    unfold sBNum; split
    · exact ⟨by simp, by simp, by simp⟩
    split
    · exact ⟨by simp [sDig], by simp [sDig], by simp [sDig]⟩
    exact ⟨by simp, by simp, by simp⟩
  split
  · exact ⟨by simp [sBStr], by simp [sBStr], by simp [sBStr]⟩
  exact T _
theorem run_ff : ∀ (l : List UInt8) (z : Sn) (N : Nat), z.at' + l.length ≤ N → z.tk.frm < N → (∀ t ∈ (sRun z l).ts, t.frm < N) ∧ (sRun z l).z.tk.frm < N
  | [], _, _, _, h => ⟨by simp [sRun], h⟩
  | b :: l, z, N, h1, h2 => by
    obtain ⟨a1, a2, a3⟩ := next_ff z b.toNat
    have h1 : z.at' + (l.length + 1) ≤ N := by simpa using h1
    have b1 : ∀ t ∈ (sNext z b.toNat).ts, t.frm < N := fun t ht => by
      rcases a1 t ht with e | e | e <;> rw [e] <;> omega
    have b2 : (sNext z b.toNat).z.tk.frm < N := by
      rcases a2 with e | e <;> rw [e] <;> omega
    rw [sRun]
    split
    · exact ⟨b1, b2⟩
    split
    · exact ⟨b1, b2⟩
    have R := run_ff l { (sNext z b.toNat).z with at' := (sNext z b.toNat).z.at' + 1 } N (by simp only [a3]; omega) b2
    refine ⟨fun t ht => ?_, R.2⟩
    rcases List.mem_append.1 ht with e | e
    · exact b1 t e
    exact R.1 t e
theorem tx_tree2 {l : List UInt8} (hl : l.length ≤ 4000000) (h : txErr l = 0) {t : Tv} (ht : txVal l = some t) : (∀ v ∈ allT 10 t, fr v < l.length) ∧ ∀ v ∈ allT 10 t, NmV v := by
  obtain ⟨h1, h2, _⟩ := tx_ok hl h
  have G := gf_run gInit_gf (show ixOk gInit.st gInit.ix from trivial) (ts := txTs l) h1
  obtain ⟨_, _, c⟩ := G.l h2 t ht
  have hpos : 0 < l.length := by
    cases l with
    | nil => revert h; decide
    | cons a l => simp
  have F := run_ff l sInit l.length (by simp [sInit]) (by simpa [sInit] using hpos)
  have X := run_tt l sInit 4000000 (by simp [sInit]; omega) (by simp [sInit])
  have f1 : ∀ t ∈ txTs l, t.frm < l.length := fun t ht => by
    rcases List.mem_append.1 ht with e | e
    · exact F.1 t e
    unfold sEnd at e
    split at e
    · rw [List.mem_singleton.1 e]; exact F.2
    cases e
  have x1 : ∀ t ∈ txTs l, t.t.length ≤ 4000000 := fun t ht => by
    rcases List.mem_append.1 ht with e | e
    · exact X.1 t e
    unfold sEnd at e
    split at e
    · rw [List.mem_singleton.1 e]; exact X.2
    cases e
  have bd : (gRun gInit (txTs l)).bd ≤ l.length := gRun_bd (by simp [gInit]) h1 f1
  refine ⟨fun v hv => ?_, (nm_run gInit_nm h1 x1).l t ht⟩
  have := c (fr v) (List.mem_map.2 ⟨v, hv, rfl⟩)
  omega
end Tr
namespace Go.Proofs.YtcbadebjpogmlaaGreatDoor
open Go.RowKit Tr
theorem pt_mem {w : World} {A : Nat → Nat} {D : Nat → Prop} : ∀ {n : Nat} {par : Value} {ix : Nat} {t : Tv}, PT w A D n par ix t → ∀ v ∈ allT n t, ∃ m par' ix', m ≤ n ∧ PT w A D m par' ix' v
  | 0, _, _, _, h, _, _ => h.elim
  | n + 1, par, ix, t, h, v, hv => by
    have hv : v ∈ t :: t.ws.flatMap (allT n) := hv
    rcases List.mem_cons.1 hv with e | e
    · subst e; exact ⟨n + 1, par, ix, Nat.le_refl _, h⟩
    obtain ⟨c, hc, hvc⟩ := List.mem_flatMap.1 e
    obtain ⟨i, hi, rfl⟩ := List.mem_iff_getElem.1 hc
    obtain ⟨m, p', i', h1, h2⟩ := pt_mem (h.2.2.2.2 i hi) v hvc
    exact ⟨m, p', i', by omega, h2⟩
theorem flat_take {F : Tv → List Tv} {N : List Tv} {j : Nat} (h : j < N.length) : (N.take (j + 1)).flatMap F = (N.take j).flatMap F ++ F N[j] := by
  rw [List.take_succ_eq_append_getElem h, List.flatMap_append]; simp
theorem flat_len (F : Tv → List Tv) (N : List Tv) (j : Nat) : ((N.take j).flatMap F).length ≤ (N.flatMap F).length := by
  have e : N.flatMap F = (N.take j).flatMap F ++ (N.drop j).flatMap F := by rw [← List.flatMap_append, List.take_append_drop]
  rw [e, List.length_append]; omega
theorem own_base {w : World} {B B' : Nat} {e : TypeId} {sz : Nat} {v : Value} {n : Nat} {xs : List Value} (h : w.ownsRow B e sz v n xs) (hb : B' ≤ B) : w.ownsRow B' e sz v n xs := by
  refine ⟨h.1, ?_⟩
  rcases h.2 with x | ⟨k, cap, cur, h1, h2, h3⟩
  · exact Or.inl x
  exact Or.inr ⟨k, cap, cur, h1, Nat.le_trans hb h2, h3⟩
set_option maxHeartbeats 4000000 in
set_option maxRecDepth 100000 in
theorem p_nodes {w : World} {b : Nat} {tt : ByteArray} {xs : List Sg} (hp : PlanV w b tt xs) {A : Nat → Nat} {D : Nat → Prop} {ix : Nat} {t : Tv} (ht : PT w A D 10 (.pointer none) ix t) (hD : ∀ k, D k → k < w.heap.size) (hT : Tree t) (hlen : ∀ k, k ≤ xs.length → (nodesS (xs.take k) [t]).length ≤ 900000000000) :
    Calls Tryz.prog 35 #[.pointer (some ⟨b, 0, none⟩), pvp A t] w fun r w' => ∃ sv, r = .returned sv ∧ Keeps w w' ∧ w'.ownsRow w.heap.size 71 1 sv (nodesS xs [t]).length ((nodesS xs [t]).map (pvp A)) := by
  obtain ⟨sv, l, Dp, hb, hrow, hxl, hx1⟩ := hp
  obtain ⟨ao, cp, rfl⟩ := own_slice hrow.o
  have hll : l.length = xs.length := hxl.symm
  rw [hll] at hb
  have c1 : w.cell? ⟨b, 1, none⟩ = some (.slice ao xs.length cp) := hb.cell 1
  have HR := hide hrow
  have HT := hide ht
  have HTR := hide hT
  have HL := hide hlen
  have HDD := hide hD
  have HLL := hide hll
  have hbl := hb.lt
  have O0 : Hid ((w.alloc (.cells #[pvp A t] 71)).ownsRow w.heap.size 71 1 (.slice (some ⟨w.heap.size, 0, none⟩) 1 1) 1 [pvp A t]) := ⟨rfl, Or.inr ⟨w.heap.size, 1, #[pvp A t], rfl, Nat.le_refl _, heap_alloc_new w _, Nat.le_refl _, by unfold maxLen; decide, rfl, rfl⟩⟩
  have K0 : Hid (Keeps w (w.alloc (.cells #[pvp A t] 71))) := (Fr.refl _ w).alloc _
  have c1a : (w.alloc (.cells #[pvp A t] 71)).cell? ⟨b, 1, none⟩ = some (.slice ao xs.length cp) := (K0.out.cell (p := ⟨b, 1, none⟩) hbl id).trans c1
  clear hb hrow ht hT hlen hD hxl hll c1
  unfold pvp at *
  go_enter Tryz.func35, Tryz.ntmps35
  go_wp2
  go_loopw [5, 18] (fun sv i wr => ∃ k : Nat, k ≤ xs.length ∧ i = .int .i64 k ∧ Keeps w wr ∧ wr.ownsRow w.heap.size 71 1 sv (nodesS (xs.take k) [t]).length ((nodesS (xs.take k) [t]).map (pvp A))) (fun _ i _ => xs.length - (intOf i).toNat)
  case atStart => exact ⟨0, Nat.zero_le _, rfl, K0.out, O0.out⟩
  case round =>
    obtain ⟨k, hk, rfl, hK, hO⟩ := hrel
    have KK := hide hK
    have OO := hide hO
    clear hK hO K0 O0 c1a
    by_cases hlt : k < xs.length
    · obtain ⟨g, cap, hv, hbg, hgl⟩ := HR.out.o.form (by have := HLL.out; omega)
      rw [HLL.out] at hv
      simp only [Value.slice.injEq, true_and] at hv
      obtain ⟨rfl, rfl⟩ := hv
      have hgw : ∀ c : Nat, wr.cell? ⟨g, c, none⟩ = w.cell? ⟨g, c, none⟩ := fun c => KK.out.cell (p := ⟨g, c, none⟩) hgl id
      have hkl : k < l.length := by have := HLL.out; omega
      have hcell : ∀ c : Nat, c < 3 → wr.cell? ⟨g, k * 3 + c, none⟩ = (l[k]).cells[c]? := fun c hc => ((hgw _).trans (HR.out.o.cellAt (k * 3 + c) (by rw [HLL.out]; omega))).trans (segCells_at l k c hc hkl)
      have kc0 := hcell 0 (by decide)
      have kc1 := hcell 1 (by decide)
      have kc2 := hcell 2 (by decide)
      clear hcell hgw
      have hsg : ∀ W, Keeps w W → SgIs W l[k] xs[k] := fun W hW => HR.out.ok k hkl W (Sm.fr HR.out.ft hW (fun _ _ y => y)) _ (List.getElem?_eq_getElem hlt)
      generalize hs : l[k] = s at *
      simp only [GV.cells, List.getElem?_cons_zero, List.getElem?_cons_succ, Nat.add_zero] at kc0 kc1 kc2
      obtain ⟨Wk, hWk⟩ : ∃ Wk, Wk = wr.alloc (.cells #[.func s.f s.x s.y, .func s.f' s.x' s.y', .bool s.b] 128) := ⟨_, rfl⟩
      have KWk : Keeps w Wk := by rw [hWk]; exact KK.out.alloc _
      have BS : Blk Wk wr.heap.size #[.func s.f s.x s.y, .func s.f' s.x' s.y', .bool s.b] 128 := by rw [hWk]; exact Blk.new wr _ _
      obtain ⟨N, cp2, hfn, hE, hcall⟩ := (hsg Wk KWk).2.t
      simp only [Value.func.injEq] at hfn
      obtain ⟨e1, e2, e3⟩ := hfn
      rw [e1, e2, e3] at kc0 hWk BS
      obtain ⟨L, hL⟩ : ∃ L, L = nodesS (xs.take k) [t] := ⟨_, rfl⟩
      have hL1 : ∀ v ∈ L, v ∈ allT 10 t := by rw [hL]; exact nodes_sub HTR.out _ [t] (fun u hu => by rw [List.mem_singleton.1 hu]; exact self_mem HTR.out.d)
      have hLn : nodesS (xs.take (k + 1)) [t] = L.flatMap (segS xs[k]) := by rw [hL]; exact nodes_take hlt [t]
      have hLl := HL.out (k + 1) (by omega)
      rw [hLn] at hLl
      have hLk := HL.out k hk
      have hO := OO.out
      rw [← hL] at hO hLk
      obtain ⟨a5, c5, hsv5⟩ := own_slice hO
      subst hsv5
      have hOk : Wk.ownsRow w.heap.size 71 1 (.slice a5 L.length c5) L.length (L.map (pvp A)) := by rw [hWk]; exact hO.alloc _
      have PTs : Hid (∀ v ∈ L, ∃ n par ix, n ≤ 10 ∧ PT Wk A (fun k => k < w.heap.size) n par ix v) := fun v hv => by
        obtain ⟨m, p', i', q1, q2⟩ := pt_mem HT.out v (hL1 v hv)
        exact ⟨m, p', i', q1, q2.up KWk⟩
      have CALL : Hid (∀ (j : Nat) (hj : j < L.length) (sv8 : Value) (W : World), PL Wk A ((L.take j).flatMap (segS xs[k])) sv8 W → Calls Tryz.prog N (#[.pointer (some ⟨A (L[j]).d.frm, 0, none⟩), sv8] ++ cp2) W fun r w2 => ∃ sv2, r = .returned sv2 ∧ PL Wk A ((L.take (j + 1)).flatMap (segS xs[k])) sv2 w2) := fun j hj sv8 W hPL => by
        obtain ⟨n, par', ix', q1, q2⟩ := PTs.out L[j] (List.getElem_mem hj)
        have := hcall A _ n par' ix' L[j] q2 q1 (fun k hk => Nat.lt_of_lt_of_le hk KWk.size) _ sv8 W hPL (by
          have a := flat_len (segS xs[k]) L (j + 1)
          rw [flat_take hj, List.length_append] at a
          omega)
        rw [flat_take hj]
        exact this
      have NXT : Hid (∀ (sv8 : Value) (W : World), PL Wk A ((L.take L.length).flatMap (segS xs[k])) sv8 W → Keeps w W ∧ W.ownsRow w.heap.size 71 1 sv8 (nodesS (xs.take (k + 1)) [t]).length ((nodesS (xs.take (k + 1)) [t]).map (pvp A))) := fun sv8 W h => by
        rw [hLn]
        have o := h.o
        rw [List.take_length] at o
        exact ⟨KWk.trans h.f, own_base o KWk.size⟩
      have CEL : Hid (∀ (j : Nat) (hj : j < L.length) (W : World), Keeps Wk W → ∃ g5, a5 = some ⟨g5, 0, none⟩ ∧ W.cell? ⟨g5, j, none⟩ = some (.pointer (some ⟨A (L[j]).d.frm, 0, none⟩))) := fun j hj W hW => by
        obtain ⟨g5, cap5, hv5, _, hg5⟩ := hOk.form (by omega)
        simp only [Value.slice.injEq, true_and] at hv5
        obtain ⟨rfl, rfl⟩ := hv5
        refine ⟨g5, rfl, ?_⟩
        rw [hW.cell (p := ⟨g5, j, none⟩) hg5 id, hOk.cellAt j (by omega)]
        simp [pvp, hj]
      have SEG : Hid (∀ W, Keeps Wk W → W.cell? ⟨wr.heap.size, 0, none⟩ = some (.func (.func N) #[] cp2)) := fun W hW => by
        exact (BS.fr hW id).cell 0
      have HWk := hide hWk
      rw [← hL] at *
      clear hL1 hLn hO hOk BS KWk hcall hsg hWk OO hL hLl e1 e2 e3
      go_wp2
      rw [← HWk.out]
      go_loopw [8, 24] (fun sv8 i W => ∃ j : Nat, j ≤ L.length ∧ i = .int .i64 j ∧ PL Wk A ((L.take j).flatMap (segS xs[k])) sv8 W) (fun _ i _ => L.length - (intOf i).toNat)
      case atStart => exact ⟨0, Nat.zero_le _, rfl, Fr.refl _ _, World.ownsRow_nil _ _ _ _⟩
      case round =>
        obtain ⟨j, hj, rfl, hPL⟩ := hrel
        have PP := hide hPL
        obtain ⟨a8, c8, hsv8⟩ := own_slice hPL.o
        have sg := SEG.out _ hPL.f
        clear hPL
        obtain ⟨m8, hm8⟩ : ∃ m8, m8 = ((L.take j).flatMap (segS xs[k])).length := ⟨_, rfl⟩
        rw [← hm8] at hsv8
        clear hm8
        subst hsv8
        by_cases hjl : j < L.length
        · obtain ⟨g5, rfl, ce⟩ := CEL.out j hjl _ PP.out.f
          go_wp2_with fail
          refine (CALL.out j hjl _ _ PP.out).mono ?_
          rintro r w2 ⟨sv2, rfl, hP2⟩
          have P2 := hide hP2
          obtain ⟨a9, c9, hsv9⟩ := own_slice hP2.o
          clear hP2
          obtain ⟨m9, hm9⟩ : ∃ m9, m9 = ((L.take (j + 1)).flatMap (segS xs[k])).length := ⟨_, rfl⟩
          rw [← hm9] at hsv9
          clear hm9
          subst hsv9
          go_wp2
          go_roundw
          case rel => exact ⟨j + 1, by omega, by go_num, P2.out⟩
          case measure => simp [intOf]; omega
        have hje : j = L.length := by omega
        subst hje
        have NN := hide (NXT.out _ _ PP.out)
        go_wp2
        go_roundw
        case rel => exact ⟨k + 1, by omega, by go_num, NN.out.1, NN.out.2⟩
        case measure => simp [intOf]; omega
    have hks : k = xs.length := by omega
    subst hks
    go_wp2
    go_ret
    refine ⟨_, rfl, KK.out, ?_⟩
    have := OO.out
    rw [List.take_length] at this
    exact this
end Go.Proofs.YtcbadebjpogmlaaGreatDoor
namespace Go.Proofs.YtcbadebjpogmlaaGreatDoor
open Go.RowKit Tr
theorem ph_all {w : World} {A : Nat → Nat} {D : Nat → Prop} {bd : Nat} : ∀ {n d : Nat} {par : Value} {ix : Nat} {t : Tv}, PT w A D n par ix t → FB bd n t → (∀ v ∈ allT n t, NmV v) → ix ≤ 4000000 → PH w d (A t.d.frm) t.d.path → n + d ≤ 11 → ∀ v ∈ allT n t, ∃ d' par' ix' sv, d' ≤ 10 ∧ PH w d' (A v.d.frm) v.d.path ∧ Blk w (A v.d.frm) (pcl v.d par' ix' sv) 130
  | 0, _, _, _, _, h, _, _, _, _, _, _, _ => h.elim
  | n + 1, d, par, ix, t, h, hf, hn, hix, hp, hd, v, hv => by
    obtain ⟨h1, h2, h3, ⟨sv, h4, _, h5⟩, h6⟩ := h
    have hv : v ∈ t :: t.ws.flatMap (allT n) := hv
    rcases List.mem_cons.1 hv with e | e
    · subst e; exact ⟨d, par, ix, sv, by omega, hp, h4⟩
    obtain ⟨c, hc, hvc⟩ := List.mem_flatMap.1 e
    obtain ⟨i, hi, rfl⟩ := List.mem_iff_getElem.1 hc
    have hk := h6 i hi
    have hself : ∀ v ∈ allT n t.ws[i], NmV v := fun u hu => hn u (kid_sub hc u hu)
    cases n with
    | zero => cases hvc
    | succ n =>
      have hne : t.ws ≠ [] := fun e => by rw [e] at hi; exact absurd hi (Nat.not_lt_zero _)
      have hkd := (hn t (self_mem' t)).2 hne
      have hk0 := hk
      obtain ⟨k1, k2, k3, ⟨svk, k4, _, k5⟩, k6⟩ := hk
      have hpk : PH w (d + 1) (A (t.ws[i]).d.frm) (t.ws[i]).d.path :=
        ⟨_, _, i, svk, k4, by omega, (hself _ (self_mem' _)).1, Or.inr ⟨A t.d.frm, t.d, par, ix, sv, t.d.path, rfl, h4, h2, hkd, hp, (hf.2 i hi).2⟩⟩
      exact ph_all hk0 (hf.2 i hi).1 hself (by omega) hpk (by omega) v hvc
 where
  self_mem' {n : Nat} (t : Tv) : t ∈ allT (n + 1) t := List.mem_cons_self
end Go.Proofs.YtcbadebjpogmlaaGreatDoor
