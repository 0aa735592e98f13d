import Derived.Test.YtcbadebjpogmlaaGreatDoorJHb
import Derived.Deep.WholeRow
import Derived.Test.YtcbadebjpogmlaaGreatDoorJGb
import Derived.Deep.RegionHeldLaw
namespace Go.Proofs.YtcbadebjpogmlaaGreatDoor
open Go.RowKit Tr
def nagg (p : List UInt8) (frm to : Nat) : Value := .agg #[.string (bsb p), .int .i64 (frm : Nat), .int .i64 (to : Nat)]
set_option maxHeartbeats 1000000 in
theorem ret_nd {R : Ending → World → Prop} {a : Act} {W : World} {g : Nat} {x0 x1 x2 : Value} (hd : a.defers = []) (ha : a.tmps[2]?.getD undef = .pointer (some ⟨g, 0, none⟩))
    (hB : Blk W g #[x0, x1, x2] 42) (hR : R (.returned (.agg #[x0, x1, x2])) W) : bodyPost Tryz.prog Tryz.f36 R .ret a W := by
  have k0 := hB.cell 0
  have k1 := hB.cell 1
  have k2 := hB.cell 2
  simp at k0 k1 k2
  refine bodyPost_ret (v := .agg #[x0, x1, x2]) ?_ hd hR
  simp [results, Tryz.results36, go_sem, ha, k0, k1, k2]
set_option maxHeartbeats 4000000 in
set_option maxRecDepth 100000 in
theorem p_node {n : Nat} {w : World} {b : Nat} {p : List UInt8} (hn : n ≤ 10) (he : EN w) (h : PH w n b p) {d : Dat} {par sv : Value} {ix : Nat} (hb : Blk w b (pcl d par ix sv) 130) :
    Calls Tryz.prog 36 #[.pointer (some ⟨b, 0, none⟩)] w fun r w' => r = .returned (nagg p d.frm d.to) ∧ Keeps w w' := by
  have c1 : w.cell? ⟨b, 1, none⟩ = some (.int .i64 (d.frm : Nat)) := hb.cell 1
  have c2 : w.cell? ⟨b, 2, none⟩ = some (.int .i64 (d.to : Nat)) := hb.cell 2
  obtain ⟨P, hP⟩ : ∃ P, P = bsb p := ⟨_, rfl⟩
  obtain ⟨rb, hrb⟩ : ∃ rb, rb = w.heap.size := ⟨_, rfl⟩
  obtain ⟨w0, hw0⟩ : ∃ w0, w0 = w.alloc (.cells #[.string ⟨#[]⟩, .int .i64 0, .int .i64 0] 42) := ⟨_, rfl⟩
  have K0 : Keeps w w0 := by rw [hw0]; exact (Fr.refl _ w).alloc _
  have B0 : Blk w0 rb #[.string ⟨#[]⟩, .int .i64 0, .int .i64 0] 42 := by rw [hw0, hrb]; exact Blk.new w _ _
  have REC : Hid (Calls Tryz.prog 55 #[.pointer (some ⟨b, 0, none⟩)] w0.drew fun r w' => r = .returned (.string P) ∧ (Keeps w w' ∧ Blk w' rb #[.string ⟨#[]⟩, .int .i64 0, .int .i64 0] 42)) := by
    have K1 : Keeps w w0.drew := K0.drewN 1
    rw [hP]
    exact (p_path n hn (he.keep K1) (h.keep K1)).mono (fun r w' ⟨h1, h2⟩ => ⟨h1, K1.trans h2, Blk.fr (w := w0.drew) B0 h2 id⟩)
  have hlt := hb.lt
  have hrw : w.heap.size ≤ rb := by omega
  have hbr : b ≠ rb := by omega
  have KS : Hid (∀ W, Keeps w W → W.cell? ⟨b, 1, none⟩ = some (.int .i64 (d.frm : Nat)) ∧ W.cell? ⟨b, 2, none⟩ = some (.int .i64 (d.to : Nat)) ∧ Keeps w W) := fun W hW => ⟨(hW.cell (p := ⟨b, 1, none⟩) hlt id).trans c1, (hW.cell (p := ⟨b, 2, none⟩) hlt id).trans c2, hW⟩
  unfold nagg
  rw [← hP]
  have HW0 := hide hw0
  have K00 := hide K0
  have HRB := hide hrb
  clear hb he h hP B0 K0 hw0 hrb
  go_enter Tryz.func36, Tryz.ntmps36
  go_wp2
  rw [← HW0.out, ← HRB.out]
  go_region_held (fun w' => w'.cell? ⟨b, 1, none⟩ = some (.int .i64 (d.frm : Nat)) ∧ w'.cell? ⟨b, 2, none⟩ = some (.int .i64 (d.to : Nat)) ∧ Keeps w w')
    (first | exact KS.out _ (K00.out.drewN 1) | exact KS.out _ (by assumption) | exact KS.out _ (Fr.setCell (Fr.setCell (Fr.setCell (by assumption) ⟨rb, 0, none⟩ (Or.inr hrw) _) ⟨rb, 1, none⟩ (Or.inr hrw) _) ⟨rb, 2, none⟩ (Or.inr hrw) _))
    (first | (go_at_call 55; refine REC.out.mono ?_; rintro r w1 ⟨rfl, hk1, hB1⟩; have BB1 := hide hB1; have s0 := hB1.cell 0; have s1 := hB1.cell 1; have s2 := hB1.cell 2; simp at s0 s1 s2; have fz := hB1.fz; clear hB1))
  all_goals
    go_wp2
    refine ret_nd rfl rfl (((BB1.out.set 0 _).set 1 _).set 2 _) ?_
    exact ⟨rfl, by first | assumption | exact ‹_ ∧ _ ∧ Keeps w _›.2.2⟩
end Go.Proofs.YtcbadebjpogmlaaGreatDoor
namespace Go.Proofs.YtcbadebjpogmlaaGreatDoor
open Go.RowKit Tr
def fwc (c0 c1 c2 c3 c4 c5 c6 c7 c8 : Value) : Array Value := #[c0, c1, c2, c3, c4, c5, c6, c7, c8]
def mtCells (p : List UInt8) (frm to k : Nat) : List Value := [.string (bsb p), .int .i64 (frm : Nat), .int .i64 (to : Nat), .int .i64 (k : Nat)]
theorem infoMatch : (Tryz.prog.info? 44).map (fun i => (i.zero, i.size, i.bytes)) = some (some (.agg #[.string ⟨#[]⟩, .int .i64 0, .int .i64 0, .int .i64 0]), 4, 40) := by kernel_rfl
set_option linter.unusedSimpArgs false in
set_option maxHeartbeats 4000000 in
set_option maxRecDepth 100000 in
theorem f_tell {w : World} {f : Nat} {c0 c1 c2 c3 c4 c5 c6 c7 ot : Value} {n : Nat} {cells : List Value} (hB : Blk w f (fwc c0 c1 c2 c3 c4 c5 c6 c7 ot) 170) (ho : w.ownsRow 0 44 4 ot n cells) (hne : ot.ownBlock ≠ some f) (hn : n < 5000000) {vb : Nat} {p : List UInt8} {frm to : Nat} (k : Nat)
    (hnd : ∀ W, Keeps w W → Calls Tryz.prog 36 #[.pointer (some ⟨vb, 0, none⟩)] W fun r w' => r = .returned (nagg p frm to) ∧ Keeps W w') :
    Calls Tryz.prog 109 #[.pointer (some ⟨f, 0, none⟩), .pointer (some ⟨vb, 0, none⟩), .int .i64 (k : Nat)] w fun r w' => r = .returned (.tuple #[]) ∧ ∃ ot', Blk w' f (fwc c0 c1 c2 c3 c4 c5 c6 c7 ot') 170 ∧ w'.ownsRow 0 44 4 ot' (n + 1) (cells ++ mtCells p frm to k) ∧ (∀ kk, ot'.ownBlock = some kk → ot.ownBlock = some kk ∨ w.heap.size ≤ kk) ∧ ot'.ownBlock ≠ some f ∧ Fr (fun kk => kk = f ∨ ot.ownBlock = some kk) w w' := by
  obtain ⟨oa, oc, rfl⟩ := own_slice ho
  have hfl := hB.lt
  have d8 : w.drew.cell? ⟨f, 8, none⟩ = some (.slice oa n oc) := Blk.cell (w := w.drew) hB 8
  have ND := hide (hnd w.drew ((Fr.refl _ _).drewN 1))
  obtain ⟨PB, hPB⟩ : ∃ PB, PB = bsb p := ⟨_, rfl⟩
  obtain ⟨P, hP⟩ : ∃ P : World → Prop, P = fun w' => ∃ ot', Blk w' f (fwc c0 c1 c2 c3 c4 c5 c6 c7 ot') 170 ∧ w'.ownsRow 0 44 4 ot' (n + 1) (cells ++ mtCells p frm to k) ∧ (∀ kk, ot'.ownBlock = some kk → (Value.slice oa n oc).ownBlock = some kk ∨ w.heap.size ≤ kk) ∧ ot'.ownBlock ≠ some f ∧ Fr (fun kk => kk = f ∨ (Value.slice oa n oc).ownBlock = some kk) w w' := ⟨_, rfl⟩
  have ONE : Hid (∀ u ∈ [Value.string PB, .int .i64 (frm : Nat), .int .i64 (to : Nat), .int .i64 (k : Nat)], u.oneCell' = true) := by
    intro u hu; simp at hu; rcases hu with rfl | rfl | rfl | rfl <;> rfl
  have NXT : Hid (∀ w1, Keeps w.drew w1 → w1.cell? ⟨f, 8, none⟩ = some (.slice oa n oc) ∧ (w1.alloc (.cells #[.string PB, .int .i64 (frm : Nat), .int .i64 (to : Nat), .int .i64 (k : Nat)] 44)).cell? ⟨f, 8, none⟩ = some (.slice oa n oc) ∧
      ((w1.alloc (.cells #[.string PB, .int .i64 (frm : Nat), .int .i64 (to : Nat), .int .i64 (k : Nat)] 44)).ownsRow 0 44 4 (.slice oa n oc) n cells ∧
       (∀ (j : Nat) (u : Value), [Value.string PB, .int .i64 (frm : Nat), .int .i64 (to : Nat), .int .i64 (k : Nat)][j]? = some u → (w1.alloc (.cells #[.string PB, .int .i64 (frm : Nat), .int .i64 (to : Nat), .int .i64 (k : Nat)] 44)).cell? ((⟨w1.heap.size, 0, none⟩ : Addr).add j) = some u) ∧
       ∀ g4 cap4 w4, w4.ownsRow 0 44 4 (.slice (some ⟨g4, 0, none⟩) (n + 1) cap4) (n + 1) (cells ++ [.string PB, .int .i64 (frm : Nat), .int .i64 (to : Nat), .int .i64 (k : Nat)]) → (w1.alloc (.cells #[.string PB, .int .i64 (frm : Nat), .int .i64 (to : Nat), .int .i64 (k : Nat)] 44)).grownBy w4 (Value.slice oa n oc).ownBlock → ((Value.slice oa n oc).ownBlock = some g4 ∨ g4 = (w1.alloc (.cells #[.string PB, .int .i64 (frm : Nat), .int .i64 (to : Nat), .int .i64 (k : Nat)] 44)).heap.size) →
        w4.cell? ⟨f, 8, none⟩ = some (.slice oa n oc) ∧ (∀ i, w4.frozen? ⟨f, i, none⟩ = false) ∧ (∀ v, (w4.setCell ⟨f, 8, none⟩ v).cell? ⟨f, 8, none⟩ = some v) ∧ P (w4.setCell ⟨f, 8, none⟩ (.slice (some ⟨g4, 0, none⟩) (n + 1) cap4)))) := fun w1 hk1 => by
    have k0 : Keeps w w1 := ((Fr.refl _ _).drewN 1).trans hk1
    have b1 := hB.fr k0 id
    have k2 : Keeps w (w1.alloc (.cells #[.string PB, .int .i64 (frm : Nat), .int .i64 (to : Nat), .int .i64 (k : Nat)] 44)) := k0.alloc _
    have b2 := hB.fr k2 id
    have o2 : (w1.alloc (.cells #[.string PB, .int .i64 (frm : Nat), .int .i64 (to : Nat), .int .i64 (k : Nat)] 44)).ownsRow 0 44 4 (.slice oa n oc) n cells := own_at' ho (fun i hi => k2.block i (ho.lt i hi).2 id)
    refine ⟨b1.cell 8, b2.cell 8, o2, ?_, fun g4 cap4 w4 ho4 hg4 hat => ?_⟩
    · intro j u hj
      match j, hj with
      | 0, hj => simp at hj; subst hj; simp [Addr.add]
      | 1, hj => simp at hj; subst hj; simp [Addr.add]
      | 2, hj => simp at hj; subst hj; simp [Addr.add]
      | 3, hj => simp at hj; subst hj; simp [Addr.add]
    have b4 : Blk w4 f (fwc c0 c1 c2 c3 c4 c5 c6 c7 (.slice oa n oc)) 170 := by
      show w4.heap[f]? = _
      rw [hg4.block f (Nat.lt_of_lt_of_le hfl k2.size) (fun e => hne e.symm)]
      exact b2
    have hgf : g4 ≠ f := by
      rcases hat with e | e
      · exact fun y => hne (y ▸ e)
      have := k2.size; intro y; rw [← y] at hfl; omega
    refine ⟨b4.cell 8, b4.fz, fun v => (b4.set 8 v).cell 8, ?_⟩
    rw [hP]
    refine ⟨.slice (some ⟨g4, 0, none⟩) (n + 1) cap4, b4.set 8 _, ?_, fun kk hkk => ?_, fun e => hgf (Option.some.inj e), ?_⟩
    · have : w4.ownsRow 0 44 4 (.slice (some ⟨g4, 0, none⟩) (n + 1) cap4) (n + 1) (cells ++ mtCells p frm to k) := by
        unfold mtCells; rw [← hPB]; exact ho4
      exact own_at' this (fun i hi => Below.heap_setCell _ _ _ _ (fun e => hgf ((Option.some.inj hi).trans e)))
    · have e : g4 = kk := Option.some.inj hkk
      subst e
      rcases hat with e | e
      · exact Or.inl e
      exact Or.inr (by rw [e]; exact k2.size)
    refine Fr.setCell ?_ ⟨f, 8, none⟩ (Or.inl (Or.inl rfl)) _
    exact ⟨hg4.os.trans k2.os, hg4.tape.trans k2.tape, hg4.output.trans k2.output, Nat.le_trans k2.size hg4.size, fun i hi hn => by
      rw [hg4.block i (Nat.lt_of_lt_of_le hi k2.size) (fun e => hn (Or.inr e.symm))]; exact k2.block i hi id⟩
  have GOAL : Hid (∀ w', P w' → ∃ ot', Blk w' f (fwc c0 c1 c2 c3 c4 c5 c6 c7 ot') 170 ∧ w'.ownsRow 0 44 4 ot' (n + 1) (cells ++ mtCells p frm to k) ∧ (∀ kk, ot'.ownBlock = some kk → (Value.slice oa n oc).ownBlock = some kk ∨ w.heap.size ≤ kk) ∧ ot'.ownBlock ≠ some f ∧ Fr (fun kk => kk = f ∨ (Value.slice oa n oc).ownBlock = some kk) w w') := fun w' h => by rw [hP] at h; exact h
  obtain ⟨i0, hi, hz0, hz1, hz2⟩ := info_parts infoMatch
  have HI := hide hi
  have HZ0 := hide hz0
  have HZ1 := hide hz1
  have HZ2 := hide hz2
  have HBB := hide hB
  have HO := hide ho
  unfold nagg at ND
  rw [← hPB] at ND
  clear hi hz0 hz1 hz2 hB ho hnd hPB hP HBB HO
  go_enter Tryz.func109, Tryz.ntmps109
  go_wp2
  refine wp_region_held_drew (S := fun _ => True) (by kernel_rfl) trivial (fun _ => ?_)
  refine wpAnyH_take (i := 0) (v := ?v9) rfl (by kernel_rfl) (by kernel_rfl) (by kernel_rfl) (fun _ _ _ h => h) (Or.inl ⟨by rfl, ?hy9⟩) (by assumption) ?rest9
  case hy9 => (intro w hSw; (try dsimp only at hSw); (go_simp <;> with_reducible rfl))
  try simp only [Act.put, List.setIfInBounds_toArray, List.set_cons_zero, List.set_cons_succ]
  refine wpAnyH_take (i := 1) (v := ?v10) rfl (by kernel_rfl) (by kernel_rfl) (by kernel_rfl) (fun _ _ _ h => h) (Or.inl ⟨by rfl, ?hy10⟩) (by assumption) ?rest10
  case hy10 => (intro w hSw; (try dsimp only at hSw); (go_simp <;> with_reducible rfl))
  try simp only [Act.put, List.setIfInBounds_toArray, List.set_cons_zero, List.set_cons_succ]
  refine wpAnyH_take (i := 2) (v := ?v11) rfl (by kernel_rfl) (by kernel_rfl) (by kernel_rfl) (fun _ _ _ h => h) (Or.inl ⟨by rfl, ?hy11⟩) (by assumption) ?rest11
  case hy11 => (intro w hSw; (try dsimp only at hSw); (go_simp <;> with_reducible rfl))
  try simp only [Act.put, List.setIfInBounds_toArray, List.set_cons_zero, List.set_cons_succ]
  refine wpAnyH_take (i := 3) (v := ?v12) rfl (by kernel_rfl) (by kernel_rfl) (by kernel_rfl) (fun _ _ _ h => h) (Or.inl ⟨by rfl, ?hy12⟩) (by assumption) ?rest12
  case hy12 => (intro w hSw; (try dsimp only at hSw); (go_simp <;> with_reducible rfl))
  try simp only [Act.put, List.setIfInBounds_toArray, List.set_cons_zero, List.set_cons_succ]
  refine wpAnyH_take (i := 5) (v := ?v13) rfl (by kernel_rfl) (by kernel_rfl) (by kernel_rfl) (fun _ _ _ h => h) (Or.inl ⟨by rfl, ?hy13⟩) (by assumption) ?rest13
  case hy13 => (intro w hSw; (try dsimp only at hSw); (go_simp <;> with_reducible rfl))
  try simp only [Act.put, List.setIfInBounds_toArray, List.set_cons_zero, List.set_cons_succ]
  refine wpAnyH_take (i := 7) (v := ?v14) rfl (by kernel_rfl) (by kernel_rfl) (by kernel_rfl) (fun _ _ _ h => h) (Or.inl ⟨by rfl, ?hy14⟩) (by assumption) ?rest14
  case hy14 => (intro w hSw; (try dsimp only at hSw); (go_simp <;> with_reducible rfl))
  try simp only [Act.put, List.setIfInBounds_toArray, List.set_cons_zero, List.set_cons_succ]
  refine wpAnyH_ready (rs := [4, 6]) (by kernel_rfl) (by simp) ?_
  refine AllReadyH.cons rfl (fun K hK => ?_) ?_
  · go_simp
    refine hK.out _ _ trivial (fun _ => ?_)
    clear hK K
    try simp only [Act.put, List.setIfInBounds_toArray, List.set_cons_zero, List.set_cons_succ]
    refine wpAnyH_ready (rs := [6]) (by kernel_rfl) (by simp) ?_
    refine AllReadyH.cons rfl (fun K hK => ?_) AllReadyH.nil
    go_simp
    refine ND.out.mono ?_
    rintro r w1 ⟨rfl, hk1⟩
    obtain ⟨e1, e2, AFT⟩ := NXT.out w1 hk1
    have AF := hide AFT
    clear AFT hk1
    refine hK.out _ _ trivial (fun _ => ?_)
    clear hK K
    try simp only [Act.put, List.setIfInBounds_toArray, List.set_cons_zero, List.set_cons_succ]
    refine wpAnyH_take (i := 8) (v := ?v1) rfl (by kernel_rfl) (by kernel_rfl) (by kernel_rfl) (fun _ _ _ h => h) (Or.inl ⟨by rfl, ?hy1⟩) (by assumption) ?rest1
    case hy1 => (intro w hSw; (try dsimp only at hSw); (go_simp <;> with_reducible rfl))
    try simp only [Act.put, List.setIfInBounds_toArray, List.set_cons_zero, List.set_cons_succ]
    refine wpAnyH_ready (rs := [9]) (by kernel_rfl) (by simp) ?_
    refine AllReadyH.cons rfl (fun K hK => ?_) AllReadyH.nil
    go_simp
    refine hK.out _ _ trivial (fun _ => ?_)
    clear hK K
    try simp only [Act.put, List.setIfInBounds_toArray, List.set_cons_zero, List.set_cons_succ]
    refine wpAnyH_ready (rs := [10]) (by kernel_rfl) (by simp) ?_
    refine AllReadyH.cons rfl (fun K hK => ?_) AllReadyH.nil
    refine step_append_lies _ rfl (.tmp 10) (.tmp 15) 33 rfl 0 44 i0 _ 4 40 Tryz.underlying33 HI.out HZ0.out HZ1.out HZ2.out rfl (by decide) (.slice oa n oc) n cells rfl AF.out.1 ⟨w1.heap.size, 0, none⟩ 1 1 [.string PB, .int .i64 (frm : Nat), .int .i64 (to : Nat), .int .i64 (k : Nat)] rfl rfl AF.out.2.1 ONE.out (by omega) (by unfold maxLen; omega) (by omega) (by omega) _ rfl ?_
    intro g4 cap4 w4 hown4 hgrow4 hat4 _
    obtain ⟨d2, d3, d4, F4⟩ := AF.out.2.2 g4 cap4 w4 hown4 hgrow4 hat4
    have FF4 := hide F4
    clear F4 hown4 hgrow4 hat4
    refine hK.out _ _ trivial (fun _ => ?_)
    clear hK K
    try simp only [Act.put, List.setIfInBounds_toArray, List.set_cons_zero, List.set_cons_succ]
    refine wpAnyH_take (i := 11) (v := ?v2) rfl (by kernel_rfl) (by kernel_rfl) (by kernel_rfl) (fun _ _ _ h => h) (Or.inl ⟨by rfl, ?hy2⟩) (by assumption) ?rest2
    case hy2 => (intro w hSw; (try dsimp only at hSw); (go_simp <;> with_reducible rfl))
    try simp only [Act.put, List.setIfInBounds_toArray, List.set_cons_zero, List.set_cons_succ]
    refine wpAnyH_take (i := 12) (v := ?v3) rfl (by kernel_rfl) (by kernel_rfl) (by kernel_rfl) (fun _ _ _ h => h) (Or.inl ⟨by rfl, ?hy3⟩) (by assumption) ?rest3
    case hy3 => (intro w hSw; (try dsimp only at hSw); (go_simp <;> with_reducible rfl))
    try simp only [Act.put, List.setIfInBounds_toArray, List.set_cons_zero, List.set_cons_succ]
    refine wpAnyH_ready (rs := [13]) (by kernel_rfl) (by simp) ?_
    refine AllReadyH.cons rfl (fun K hK => ?_) AllReadyH.nil
    go_simp
    refine hK.out _ _ trivial (fun _ => ?_)
    clear hK K
    try simp only [Act.put, List.setIfInBounds_toArray, List.set_cons_zero, List.set_cons_succ]
    refine wpAnyH_done (by kernel_rfl) ?_ _
    go_wp2
    go_end0
    exact ⟨rfl, GOAL.out _ FF4.out⟩
  refine AllReadyH.cons rfl (fun K hK => ?_) AllReadyH.nil
  go_simp
  refine ND.out.mono ?_
  rintro r w1 ⟨rfl, hk1⟩
  obtain ⟨e1, e2, AFT⟩ := NXT.out w1 hk1
  have AF := hide AFT
  clear AFT hk1
  refine hK.out _ _ trivial (fun _ => ?_)
  clear hK K
  try simp only [Act.put, List.setIfInBounds_toArray, List.set_cons_zero, List.set_cons_succ]
  refine wpAnyH_take (i := 8) (v := ?v4) rfl (by kernel_rfl) (by kernel_rfl) (by kernel_rfl) (fun _ _ _ h => h) (Or.inl ⟨by rfl, ?hy4⟩) (by assumption) ?rest4
  case hy4 => (intro w hSw; (try dsimp only at hSw); (go_simp <;> with_reducible rfl))
  try simp only [Act.put, List.setIfInBounds_toArray, List.set_cons_zero, List.set_cons_succ]
  refine wpAnyH_ready (rs := [4, 9]) (by kernel_rfl) (by simp) ?_
  refine AllReadyH.cons rfl (fun K hK => ?_) ?_
  · go_simp
    refine hK.out _ _ trivial (fun _ => ?_)
    clear hK K
    try simp only [Act.put, List.setIfInBounds_toArray, List.set_cons_zero, List.set_cons_succ]
    refine wpAnyH_ready (rs := [9]) (by kernel_rfl) (by simp) ?_
    refine AllReadyH.cons rfl (fun K hK => ?_) AllReadyH.nil
    go_simp
    refine hK.out _ _ trivial (fun _ => ?_)
    clear hK K
    try simp only [Act.put, List.setIfInBounds_toArray, List.set_cons_zero, List.set_cons_succ]
    refine wpAnyH_ready (rs := [10]) (by kernel_rfl) (by simp) ?_
    refine AllReadyH.cons rfl (fun K hK => ?_) AllReadyH.nil
    refine step_append_lies _ rfl (.tmp 10) (.tmp 15) 33 rfl 0 44 i0 _ 4 40 Tryz.underlying33 HI.out HZ0.out HZ1.out HZ2.out rfl (by decide) (.slice oa n oc) n cells rfl AF.out.1 ⟨w1.heap.size, 0, none⟩ 1 1 [.string PB, .int .i64 (frm : Nat), .int .i64 (to : Nat), .int .i64 (k : Nat)] rfl rfl AF.out.2.1 ONE.out (by omega) (by unfold maxLen; omega) (by omega) (by omega) _ rfl ?_
    intro g4 cap4 w4 hown4 hgrow4 hat4 _
    obtain ⟨d2, d3, d4, F4⟩ := AF.out.2.2 g4 cap4 w4 hown4 hgrow4 hat4
    have FF4 := hide F4
    clear F4 hown4 hgrow4 hat4
    refine hK.out _ _ trivial (fun _ => ?_)
    clear hK K
    try simp only [Act.put, List.setIfInBounds_toArray, List.set_cons_zero, List.set_cons_succ]
    refine wpAnyH_take (i := 11) (v := ?v5) rfl (by kernel_rfl) (by kernel_rfl) (by kernel_rfl) (fun _ _ _ h => h) (Or.inl ⟨by rfl, ?hy5⟩) (by assumption) ?rest5
    case hy5 => (intro w hSw; (try dsimp only at hSw); (go_simp <;> with_reducible rfl))
    try simp only [Act.put, List.setIfInBounds_toArray, List.set_cons_zero, List.set_cons_succ]
    refine wpAnyH_take (i := 12) (v := ?v6) rfl (by kernel_rfl) (by kernel_rfl) (by kernel_rfl) (fun _ _ _ h => h) (Or.inl ⟨by rfl, ?hy6⟩) (by assumption) ?rest6
    case hy6 => (intro w hSw; (try dsimp only at hSw); (go_simp <;> with_reducible rfl))
    try simp only [Act.put, List.setIfInBounds_toArray, List.set_cons_zero, List.set_cons_succ]
    refine wpAnyH_ready (rs := [13]) (by kernel_rfl) (by simp) ?_
    refine AllReadyH.cons rfl (fun K hK => ?_) AllReadyH.nil
    go_simp
    refine hK.out _ _ trivial (fun _ => ?_)
    clear hK K
    try simp only [Act.put, List.setIfInBounds_toArray, List.set_cons_zero, List.set_cons_succ]
    refine wpAnyH_done (by kernel_rfl) ?_ _
    go_wp2
    go_end0
    exact ⟨rfl, GOAL.out _ FF4.out⟩
  refine AllReadyH.cons rfl (fun K hK => ?_) AllReadyH.nil
  go_simp
  refine hK.out _ _ trivial (fun _ => ?_)
  clear hK K
  try simp only [Act.put, List.setIfInBounds_toArray, List.set_cons_zero, List.set_cons_succ]
  refine wpAnyH_ready (rs := [4]) (by kernel_rfl) (by simp) ?_
  refine AllReadyH.cons rfl (fun K hK => ?_) AllReadyH.nil
  go_simp
  refine hK.out _ _ trivial (fun _ => ?_)
  clear hK K
  try simp only [Act.put, List.setIfInBounds_toArray, List.set_cons_zero, List.set_cons_succ]
  refine wpAnyH_ready (rs := [10]) (by kernel_rfl) (by simp) ?_
  refine AllReadyH.cons rfl (fun K hK => ?_) AllReadyH.nil
  refine step_append_lies _ rfl (.tmp 10) (.tmp 15) 33 rfl 0 44 i0 _ 4 40 Tryz.underlying33 HI.out HZ0.out HZ1.out HZ2.out rfl (by decide) (.slice oa n oc) n cells rfl AF.out.1 ⟨w1.heap.size, 0, none⟩ 1 1 [.string PB, .int .i64 (frm : Nat), .int .i64 (to : Nat), .int .i64 (k : Nat)] rfl rfl AF.out.2.1 ONE.out (by omega) (by unfold maxLen; omega) (by omega) (by omega) _ rfl ?_
  intro g4 cap4 w4 hown4 hgrow4 hat4 _
  obtain ⟨d2, d3, d4, F4⟩ := AF.out.2.2 g4 cap4 w4 hown4 hgrow4 hat4
  have FF4 := hide F4
  clear F4 hown4 hgrow4 hat4
  refine hK.out _ _ trivial (fun _ => ?_)
  clear hK K
  try simp only [Act.put, List.setIfInBounds_toArray, List.set_cons_zero, List.set_cons_succ]
  refine wpAnyH_take (i := 11) (v := ?v7) rfl (by kernel_rfl) (by kernel_rfl) (by kernel_rfl) (fun _ _ _ h => h) (Or.inl ⟨by rfl, ?hy7⟩) (by assumption) ?rest7
  case hy7 => (intro w hSw; (try dsimp only at hSw); (go_simp <;> with_reducible rfl))
  try simp only [Act.put, List.setIfInBounds_toArray, List.set_cons_zero, List.set_cons_succ]
  refine wpAnyH_take (i := 12) (v := ?v8) rfl (by kernel_rfl) (by kernel_rfl) (by kernel_rfl) (fun _ _ _ h => h) (Or.inl ⟨by rfl, ?hy8⟩) (by assumption) ?rest8
  case hy8 => (intro w hSw; (try dsimp only at hSw); (go_simp <;> with_reducible rfl))
  try simp only [Act.put, List.setIfInBounds_toArray, List.set_cons_zero, List.set_cons_succ]
  refine wpAnyH_ready (rs := [13]) (by kernel_rfl) (by simp) ?_
  refine AllReadyH.cons rfl (fun K hK => ?_) AllReadyH.nil
  go_simp
  refine hK.out _ _ trivial (fun _ => ?_)
  clear hK K
  try simp only [Act.put, List.setIfInBounds_toArray, List.set_cons_zero, List.set_cons_succ]
  refine wpAnyH_done (by kernel_rfl) ?_ _
  go_wp2
  go_end0
  exact ⟨rfl, GOAL.out _ FF4.out⟩
end Go.Proofs.YtcbadebjpogmlaaGreatDoor
namespace Go.Proofs.YtcbadebjpogmlaaGreatDoor
open Go.RowKit Tr
theorem ret_ty {R : Ending → World → Prop} {a : Act} {W : World} {g : Nat} {cs : List Value} (hd : a.defers = []) (ha : a.tmps[4]?.getD undef = .pointer (some ⟨g, 0, none⟩))
    (hB : Blk W g cs.toArray 202) (hl : cs.length = 22) (hR : R (.returned (.agg cs.toArray)) W) : bodyPost Tryz.prog Tryz.f105 R .ret a W := by
  refine bodyPost_ret (v := .agg cs.toArray) ?_ hd hR
  have h := run_loadVar_mid (P := Tryz.prog) W g 0 202 cs (.array 11 200) (fun j v hv => by rw [Nat.zero_add, hB.cell j, List.getElem?_toArray]; exact hv) (by kernel_rfl) rfl (by rw [hl]; exact infoTally)
  simp [results, Tryz.results105, ha, asAddr, h]
theorem tls_len : ∀ (l : List (List Ct)), (l.flatMap tlc).length = l.length * 22
  | [] => rfl
  | a :: r => by rw [List.flatMap_cons, List.length_append, tls_len r, tlc_len, List.length_cons]; omega
set_option maxHeartbeats 4000000 in
set_option maxRecDepth 100000 in
theorem f_tally0 {w : World} {f vb : Nat} {d : Dat} {ix : Nat} {sv : Value} (n : Nat) (hv : Blk w vb (pcl d (.pointer none) ix sv) 130) :
    Calls Tryz.prog 105 #[.pointer (some ⟨f, 0, none⟩), .pointer (some ⟨vb, 0, none⟩)] w fun r w' => r = .returned (.agg (tlc (tlOut n)).toArray) ∧ Keeps w w' := by
  obtain ⟨W1, hW1⟩ : ∃ W1, W1 = w.alloc (.cells zeroT 202) := ⟨_, rfl⟩
  have K1 : Keeps w W1 := by rw [hW1]; exact (Fr.refl _ w).alloc _
  have b1 : Blk W1 w.heap.size zeroT 202 := by rw [hW1]; exact Blk.new w _ _
  have c5 : W1.cell? ⟨vb, 5, none⟩ = some (.pointer none) := (hv.fr K1 id).cell 5
  have OUT : Hid (Calls Tryz.prog 142 #[] W1 fun r w' => r = .returned (.agg (tlc (tlOut n)).toArray) ∧ Keeps W1 w') := p_outer n
  have TH : Hid (∀ w2, Keeps W1 w2 → w2.there w.heap.size 0 (tlc (tlOut n)).toArray.size) := fun w2 h => there_blk (b1.fr h id) (zeroT_size.trans (tlc_len _).symm)
  have FIN : Hid (∀ w2, Keeps W1 w2 → Blk (w2.setCells w.heap.size 0 (tlc (tlOut n)).toArray.toList) w.heap.size (tlc (tlOut n)).toArray 202 ∧ Keeps w (w2.setCells w.heap.size 0 (tlc (tlOut n)).toArray.toList)) := fun w2 h =>
    ⟨blk_setCells (tlc (tlOut n)) [] zeroT.toList (b1.fr h id) (zeroT_size.trans (tlc_len _).symm), fr_setCells _ _ (K1.trans h) (Or.inr (Nat.le_refl _))⟩
  have IB : Hid ((Tryz.prog.info? 202).map (·.size) = some (tlc (tlOut n)).toArray.size) := by rw [List.size_toArray, tlc_len]; exact infoTally
  have ON : Hid ((tlc (tlOut n)).toArray.all (·.oneCell') = true) := all_oneCell_toArray (tlc_one _)
  have TL := hide (tlc_len (tlOut n))
  have HW1 := hide hW1
  clear K1 b1 hv hW1
  generalize tlc (tlOut n) = cs at *
  go_enter Tryz.func105, Tryz.ntmps105
  apply wp_seq_k; intro K0 hK0
  apply wp_region_lit
  refine wpList_allocTo rfl 202 rfl (some 4) rfl w.heap.size rfl (.agg zeroT) zeroTally zeroT rfl ?_
  apply wpList_nil
  refine hK0 _ _ ?_
  clear K0 hK0
  rw [← HW1.out]
  simp only [Act.put, List.setIfInBounds_toArray, List.set_cons_zero, List.set_cons_succ]
  go_wp2_with fail
  refine OUT.out.mono ?_
  rintro r w2 ⟨rfl, hk2⟩
  have T2 := hide (TH.out w2 hk2)
  have F2 := hide (FIN.out w2 hk2)
  clear hk2
  go_wp2_with (refine wpList_store_mid rfl 202 (.tmp 4) (.tmp 10) rfl w.heap.size 0 cs.toArray rfl rfl T2.out IB.out ON.out ?_)
  exact ret_ty rfl rfl F2.out.1 TL.out ⟨rfl, F2.out.2⟩
set_option linter.unusedSimpArgs false in
set_option maxHeartbeats 4000000 in
set_option maxRecDepth 100000 in
theorem f_tally1 {w : World} {f b : Nat} {tt : ByteArray} {xs : List Sg} {c1 c2 c3 c4 c5 tsv c7 c8 : Value} (hB : Blk w f (fwc (.pointer (some ⟨b, 0, none⟩)) c1 c2 c3 c4 c5 tsv c7 c8) 170) (hp : ∀ W, Keeps w W → PlanV W b tt xs) (hx : xs.length ≤ 10) (hsel : selN xs ≤ 10) {pre : List (List Ct)} {tl : List Ct} (hpl : pre.length ≤ 100) (ho : w.ownsRow 0 202 22 tsv (pre.length + 1) (pre.flatMap tlc ++ tlc tl)) {d : Nat} (hb : CtB xs d tl) (hd : d ≤ 8) {vb pb : Nat} {c : Tv} {pk i L : Nat} {svp : Value} (hv : VAt w vb pb c pk i svp)
    (hlate : ∀ k (h : k < xs.length), 0 < (if xs[k].deep = true then (ctAt tl k).al else (ctAt tl k).its) → LateOk w xs[k].l vb c L svp) :
    Calls Tryz.prog 105 #[.pointer (some ⟨f, 0, none⟩), .pointer (some ⟨vb, 0, none⟩)] w fun r w' => r = .returned (.agg (tlc (tlOf xs pk L i c tl)).toArray) ∧ Keeps w w' := by
  obtain ⟨g, cap, rfl, _, hgl⟩ := ho.form (by omega)
  obtain ⟨m, hm⟩ : ∃ m, m = pre.length := ⟨_, rfl⟩
  have hlen : (pre.flatMap tlc).length = m * 22 := by rw [hm]; exact tls_len pre
  rw [← hm] at ho
  have hmm : (m : Int) < (m : Int) + 1 := by omega
  have hwm : IntKind.i64.wrap (m : Int) = m := by rw [IntWalk.i64_in _ (by omega)]
  obtain ⟨W1, hW1⟩ : ∃ W1, W1 = w.alloc (.cells zeroT 202) := ⟨_, rfl⟩
  have K1 : Keeps w W1 := by rw [hW1]; exact (Fr.refl _ w).alloc _
  have b1 : Blk W1 w.heap.size zeroT 202 := by rw [hW1]; exact Blk.new w _ _
  have cv5 : W1.cell? ⟨vb, 5, none⟩ = some (.pointer (some ⟨pb, 0, none⟩)) := by
    obtain ⟨⟨svc, hc⟩, _, _⟩ := hv
    exact (hc.fr K1 id).cell 5
  have SS : Hid (∀ W, Keeps W1 W → W.cell? ⟨f, 0, none⟩ = some (.pointer (some ⟨b, 0, none⟩)) ∧ W.cell? ⟨f, 6, none⟩ = some (.slice (some ⟨g, 0, none⟩) (m + 1) cap) ∧ W.rangeAt g (m * 22) (tlc tl)) := fun W hW => by
    have k := K1.trans hW
    refine ⟨(hB.fr k id).cell 0, by rw [(hB.fr k id).cell 6, hm]; rfl, fun j v hj => ?_⟩
    have hj2 : j < 22 := by have := (List.getElem?_eq_some_iff.1 hj).1; rw [tlc_len] at this; exact this
    rw [k.cell (p := ⟨g, m * 22 + j, none⟩) hgl id, ho.cellAt (m * 22 + j) (by omega), List.getElem?_append_right (by omega), hlen]
    rw [show m * 22 + j - m * 22 = j by omega]
    exact hj
  have SST : Hid (∀ w2, Keeps W1 w2 → ∀ cs : Array Value, (w2.setCells w.heap.size 0 cs.toList).cell? ⟨f, 0, none⟩ = some (.pointer (some ⟨b, 0, none⟩)) ∧ (w2.setCells w.heap.size 0 cs.toList).cell? ⟨f, 6, none⟩ = some (.slice (some ⟨g, 0, none⟩) (m + 1) cap) ∧ (w2.setCells w.heap.size 0 cs.toList).rangeAt g (m * 22) (tlc tl)) := fun w2 h2 cs => by
    have hfl := hB.lt
    have h3 : Fr (fun k => k = w.heap.size) w2 (w2.setCells w.heap.size 0 cs.toList) := fr_setCells _ _ (Fr.refl _ _) (Or.inl rfl)
    have s := SS.out w2 h2
    have hz : w.heap.size ≤ w2.heap.size := (K1.trans h2).size
    refine ⟨(h3.cell (p := ⟨f, 0, none⟩) (by show f < _; omega) (by show f ≠ _; omega)).trans s.1, (h3.cell (p := ⟨f, 6, none⟩) (by show f < _; omega) (by show f ≠ _; omega)).trans s.2.1, fun j v hj => ?_⟩
    exact (h3.cell (p := ⟨g, m * 22 + j, none⟩) (by show g < _; omega) (by show g ≠ _; omega)).trans (s.2.2 j v hj)
  have CALL : Hid (Calls Tryz.prog 143 #[.pointer (some ⟨b, 0, none⟩), .pointer (some ⟨vb, 0, none⟩), .agg (tlc tl).toArray] W1.drew fun r w' => r = .returned (.agg (tlc (tlOf xs pk L i c tl)).toArray) ∧ Keeps W1 w') := by
    have k : Keeps w W1.drew := K1.drewN 1
    exact (p_tallyOf (hp _ k) hx hsel hb hd (hv.keep k) (fun j hj h0 => (hlate j hj h0).keep k)).mono (fun r w' ⟨q1, q2⟩ => ⟨q1, ((Fr.refl _ W1).drewN 1).trans q2⟩)
  generalize tlOf xs pk L i c tl = tl' at *
  have TH : Hid (∀ w2, Keeps W1 w2 → w2.there w.heap.size 0 (tlc tl').toArray.size) := fun w2 h => there_blk (b1.fr h id) (zeroT_size.trans (tlc_len _).symm)
  have FIN : Hid (∀ w2, Keeps W1 w2 → Blk (w2.setCells w.heap.size 0 (tlc tl').toArray.toList) w.heap.size (tlc tl').toArray 202 ∧ Keeps w (w2.setCells w.heap.size 0 (tlc tl').toArray.toList)) := fun w2 h =>
    ⟨blk_setCells (tlc tl') [] zeroT.toList (b1.fr h id) (zeroT_size.trans (tlc_len _).symm), fr_setCells _ _ (K1.trans h) (Or.inr (Nat.le_refl _))⟩
  have IA : Hid ((Tryz.prog.info? 202).map (·.size) = some (tlc tl).length) := by rw [tlc_len]; exact infoTally
  have IB : Hid ((Tryz.prog.info? 202).map (·.size) = some (tlc tl').toArray.size) := by rw [List.size_toArray, tlc_len]; exact infoTally
  have ON : Hid ((tlc tl').toArray.all (·.oneCell') = true) := all_oneCell_toArray (tlc_one _)
  have TL := hide (tlc_len tl')
  have HW1 := hide hW1
  clear K1 b1 hv hW1 hlate hp hsel hb ho hlen hB hm
  generalize tlc tl' = cs at *
  generalize tlc tl = ct at *
  go_enter Tryz.func105, Tryz.ntmps105
  apply wp_seq_k; intro K0 hK0
  apply wp_region_lit
  refine wpList_allocTo rfl 202 rfl (some 4) rfl w.heap.size rfl (.agg zeroT) zeroTally zeroT rfl ?_
  apply wpList_nil
  refine hK0 _ _ ?_
  clear K0 hK0
  rw [← HW1.out]
  simp only [Act.put, List.setIfInBounds_toArray, List.set_cons_zero, List.set_cons_succ]
  go_wp2
  refine wp_region_held_drew (S := fun w' => w'.cell? ⟨f, 0, none⟩ = some (.pointer (some ⟨b, 0, none⟩)) ∧ w'.cell? ⟨f, 6, none⟩ = some (.slice (some ⟨g, 0, none⟩) (m + 1) cap) ∧ w'.rangeAt g (m * 22) ct) (by kernel_rfl) (SS.out W1.drew ((Fr.refl _ _).drewN 1)) (fun _ => ?_)
  refine wpAnyH_take (i := 0) (v := ?v1) rfl (by kernel_rfl) (by kernel_rfl) (by kernel_rfl) (fun _ _ _ h => h) (Or.inl ⟨by rfl, ?hy1⟩) (by assumption) ?rest1
  case hy1 => (intro w hSw; (try dsimp only at hSw); (obtain ⟨hs0, hs1, _⟩ := hSw; (go_simp <;> with_reducible rfl)))
  try simp only [Act.put, List.setIfInBounds_toArray, List.set_cons_zero, List.set_cons_succ]
  refine wpAnyH_take (i := 1) (v := ?v2) rfl (by kernel_rfl) (by kernel_rfl) (by kernel_rfl) (fun _ _ _ h => h) (Or.inl ⟨by rfl, ?hy2⟩) (by assumption) ?rest2
  case hy2 => (intro w hSw; (try dsimp only at hSw); (obtain ⟨hs0, hs1, _⟩ := hSw; (go_simp <;> with_reducible rfl)))
  try simp only [Act.put, List.setIfInBounds_toArray, List.set_cons_zero, List.set_cons_succ]
  refine wpAnyH_take (i := 2) (v := ?v3) rfl (by kernel_rfl) (by kernel_rfl) (by kernel_rfl) (fun _ _ _ h => h) (Or.inl ⟨by rfl, ?hy3⟩) (by assumption) ?rest3
  case hy3 => (intro w hSw; (try dsimp only at hSw); (obtain ⟨hs0, hs1, _⟩ := hSw; (go_simp <;> with_reducible rfl)))
  try simp only [Act.put, List.setIfInBounds_toArray, List.set_cons_zero, List.set_cons_succ]
  refine wpAnyH_take (i := 3) (v := ?v4) rfl (by kernel_rfl) (by kernel_rfl) (by kernel_rfl) (fun _ _ _ h => h) (Or.inl ⟨by rfl, ?hy4⟩) (by assumption) ?rest4
  case hy4 => (intro w hSw; (try dsimp only at hSw); (obtain ⟨hs0, hs1, _⟩ := hSw; (go_simp <;> with_reducible rfl)))
  try simp only [Act.put, List.setIfInBounds_toArray, List.set_cons_zero, List.set_cons_succ]
  refine wpAnyH_take (i := 4) (v := ?v5) rfl (by kernel_rfl) (by kernel_rfl) (by kernel_rfl) (fun _ _ _ h => h) (Or.inl ⟨by rfl, ?hy5⟩) (by assumption) ?rest5
  case hy5 => (intro w hSw; (try dsimp only at hSw); (obtain ⟨hs0, hs1, _⟩ := hSw; (go_simp <;> with_reducible rfl)))
  try simp only [Act.put, List.setIfInBounds_toArray, List.set_cons_zero, List.set_cons_succ]
  refine wpAnyH_take (i := 5) (v := ?v6) rfl (by kernel_rfl) (by kernel_rfl) (by kernel_rfl) (fun _ _ _ h => h) (Or.inl ⟨by rfl, ?hy6⟩) (by assumption) ?rest6
  case hy6 => (intro w hSw; (try dsimp only at hSw); (obtain ⟨hs0, hs1, _⟩ := hSw; (go_simp <;> with_reducible rfl)))
  try simp only [Act.put, List.setIfInBounds_toArray, List.set_cons_zero, List.set_cons_succ]
  refine wpAnyH_take (i := 6) (v := ?v7) rfl (by kernel_rfl) (by kernel_rfl) (by kernel_rfl) (fun _ _ _ h => h) (Or.inl ⟨by rfl, ?hy7⟩) (by assumption) ?rest7
  case hy7 => (intro w hSw; (try dsimp only at hSw); (obtain ⟨hs0, hs1, _⟩ := hSw; (go_simp <;> with_reducible rfl)))
  try simp only [Act.put, List.setIfInBounds_toArray, List.set_cons_zero, List.set_cons_succ]
  refine wpAnyH_take (i := 7) (v := ?v8) rfl (by kernel_rfl) (by kernel_rfl) (by kernel_rfl) (fun _ _ _ h => h) (Or.inl ⟨by rfl, ?hy8⟩) (by assumption) ?rest8
  case hy8 => (intro w hSw; (try dsimp only at hSw); (obtain ⟨hs0, hs1, _⟩ := hSw; (go_simp <;> with_reducible rfl)))
  try simp only [Act.put, List.setIfInBounds_toArray, List.set_cons_zero, List.set_cons_succ]
  refine wpAnyH_take (i := 8) (v := ?v9) rfl (by kernel_rfl) (by kernel_rfl) (by kernel_rfl) (fun _ _ _ h => h) (Or.inl ⟨by rfl, ?hy9⟩) (by assumption) ?rest9
  case hy9 => (intro w hSw; (try dsimp only at hSw); (obtain ⟨hs0, hs1, _⟩ := hSw; (go_simp <;> with_reducible rfl)))
  try simp only [Act.put, List.setIfInBounds_toArray, List.set_cons_zero, List.set_cons_succ]
  refine wpAnyH_take (i := 9) (v := ?v10) rfl (by kernel_rfl) (by kernel_rfl) (by kernel_rfl) (fun _ _ _ h => h) (Or.inl ⟨by rfl, ?hy10⟩) (by assumption) ?rest10
  case hy10 => (intro w hSw; (try dsimp only at hSw); (obtain ⟨hs0, hs1, _⟩ := hSw; (go_simp <;> with_reducible rfl)))
  try simp only [Act.put, List.setIfInBounds_toArray, List.set_cons_zero, List.set_cons_succ]
  refine wpAnyH_take (i := 10) (v := ?v11) rfl (by kernel_rfl) (by kernel_rfl) (by kernel_rfl) (fun _ _ _ h => h) (Or.inl ⟨by rfl, ?hy11⟩) (by assumption) ?rest11
  case hy11 => (intro w hSw; (try dsimp only at hSw); (obtain ⟨hs0, hs1, _⟩ := hSw; (go_simp <;> with_reducible rfl)))
  try simp only [Act.put, List.setIfInBounds_toArray, List.set_cons_zero, List.set_cons_succ]
  refine wpAnyH_take (i := 11) (v := ?v12) rfl (by kernel_rfl) (by kernel_rfl) (by kernel_rfl) (fun _ _ _ h => h) (Or.inl ⟨by rfl, ?hy12⟩) (by assumption) ?rest12
  case hy12 => (intro w hSw; (try dsimp only at hSw); (obtain ⟨hs0, hs1, _⟩ := hSw; (go_simp <;> with_reducible rfl)))
  try simp only [Act.put, List.setIfInBounds_toArray, List.set_cons_zero, List.set_cons_succ]
  refine wpAnyH_take (i := 12) (v := ?v13) rfl (by kernel_rfl) (by kernel_rfl) (by kernel_rfl) (fun _ _ _ h => h) (Or.inl ⟨by rfl, ?hy13⟩) (by assumption) ?rest13
  case hy13 => (intro w hSw; (try dsimp only at hSw); (obtain ⟨hs0, hs1, _⟩ := hSw; (go_simp <;> with_reducible rfl)))
  try simp only [Act.put, List.setIfInBounds_toArray, List.set_cons_zero, List.set_cons_succ]
  refine wpAnyH_take (i := 13) (v := ?v14) rfl (by kernel_rfl) (by kernel_rfl) (by kernel_rfl) (fun _ _ _ h => h) (Or.inl ⟨by rfl, ?hy14⟩) (by assumption) ?rest14
  case hy14 => (intro w hSw; (try dsimp only at hSw); (obtain ⟨hs0, hs1, _⟩ := hSw; (go_simp <;> with_reducible rfl)))
  try simp only [Act.put, List.setIfInBounds_toArray, List.set_cons_zero, List.set_cons_succ]
  refine wpAnyH_take (i := 14) (v := ?v15) rfl (by kernel_rfl) (by kernel_rfl) (by kernel_rfl) (fun _ _ _ h => h) (Or.inl ⟨by rfl, ?hy15⟩) (by assumption) ?rest15
  case hy15 => (intro w hSw; (try dsimp only at hSw); (obtain ⟨hs0, hs1, _⟩ := hSw; (go_simp <;> with_reducible rfl)))
  try simp only [Act.put, List.setIfInBounds_toArray, List.set_cons_zero, List.set_cons_succ]
  refine wpAnyH_take (i := 15) (v := ?v16) rfl (by kernel_rfl) (by kernel_rfl) (by kernel_rfl) (fun _ _ _ h => h) (Or.inl ⟨by rfl, ?hy16⟩) (by assumption) ?rest16
  case hy16 => (intro w hSw; (try dsimp only at hSw); (obtain ⟨hs0, hs1, _⟩ := hSw; (go_simp <;> with_reducible rfl)))
  try simp only [Act.put, List.setIfInBounds_toArray, List.set_cons_zero, List.set_cons_succ]
  refine wpAnyH_take (i := 16) (v := .agg ct.toArray) rfl (by kernel_rfl) (by kernel_rfl) (by kernel_rfl) (fun _ _ _ h => h) ?hyL (by assumption) ?restL
  case hyL => exact yieldsIf_load_mid (by rfl) 202 (.tmp 26) rfl g (m * 22) (by kernel_rfl) ct (.array 11 200) (fun w hS => hS.2.2) (by kernel_rfl) rfl IA.out
  try simp only [Act.put, List.setIfInBounds_toArray, List.set_cons_zero, List.set_cons_succ]
  refine wpAnyH_ready (rs := [17]) (by kernel_rfl) (by simp) ?_
  refine AllReadyH.cons rfl (fun K hK => ?_) AllReadyH.nil
  go_simp
  refine CALL.out.mono ?_
  rintro r w2 ⟨rfl, hk2⟩
  have K2 := hide hk2
  refine hK.out _ _ (SS.out w2 hk2) (fun _ => ?_)
  clear hK K hk2
  try simp only [Act.put, List.setIfInBounds_toArray, List.set_cons_zero, List.set_cons_succ]
  refine wpAnyH_ready (rs := [18]) (by kernel_rfl) (by simp) ?_
  refine AllReadyH.cons rfl (fun K hK => ?_) AllReadyH.nil
  rw [if_pos (by rfl)]
  refine wp_store_mid 202 (.tmp 4) (.tmp 28) rfl w.heap.size 0 cs.toArray rfl rfl (TH.out w2 K2.out) IB.out ON.out ?_
  refine hK.out _ _ (SST.out w2 K2.out cs.toArray) (fun _ => ?_)
  clear hK K
  try simp only [Act.put, List.setIfInBounds_toArray, List.set_cons_zero, List.set_cons_succ]
  refine wpAnyH_done (by kernel_rfl) ?_ _
  have F2 := hide (FIN.out w2 K2.out)
  go_wp2
  exact ret_ty rfl rfl F2.out.1 TL.out ⟨rfl, F2.out.2⟩
end Go.Proofs.YtcbadebjpogmlaaGreatDoor
