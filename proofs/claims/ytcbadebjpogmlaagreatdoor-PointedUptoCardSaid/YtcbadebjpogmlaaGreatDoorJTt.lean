import Derived.Test.YtcbadebjpogmlaaGreatDoorJHc
import Derived.LaidEqlPtr
import Derived.Test.YtcbadebjpogmlaaGreatDoorJSp
import Derived.Test.YtcbadebjpogmlaaGreatDoorJAa
namespace Go.Proofs.YtcbadebjpogmlaaGreatDoor
open Go.RowKit Tr
theorem infoVal : (Tryz.prog.info? 130).map (·.size) = some 9 := by kernel_rfl
theorem neq_same (w : World) (vb : Nat) : (binOp .neq 71 (.pointer (some ⟨vb, 0, none⟩)) (.pointer (some ⟨vb, 0, none⟩))).run Tryz.prog w = .ok (.bool false) w := by
  obtain ⟨j, hj, _⟩ := Option.map_eq_some_iff.1 infoVal
  have h : ∀ d : Nat, (Op.equalIn (d + 1) 71 (.pointer (some ⟨vb, 0, none⟩)) (.pointer (some ⟨vb, 0, none⟩))).run Tryz.prog w = .ok true w := fun d => by
    simp [Op.equalIn, run_underlying Tryz.underlying71, sizeOf, typeInfo, hj, run_sameAddr_same]
  simp only [binOp]
  simp [Op.equal, Op.maxDepth, h 9999]
theorem neq_other (w : World) {hb vb : Nat} {ca cb : Array Value} {ta tb : TypeId} (hne : hb ≠ vb) (h1 : Blk w hb ca ta) (h2 : Blk w vb cb tb) : (binOp .neq 71 (.pointer (some ⟨hb, 0, none⟩)) (.pointer (some ⟨vb, 0, none⟩))).run Tryz.prog w = .ok (.bool true) w := by
  obtain ⟨j, hj, hs⟩ := Option.map_eq_some_iff.1 infoVal
  have hsz : j.size ≠ 0 := by rw [hs]; decide
  have h : ∀ d : Nat, (Op.equalIn (d + 1) 71 (.pointer (some ⟨hb, 0, none⟩)) (.pointer (some ⟨vb, 0, none⟩))).run Tryz.prog w = .ok false w := fun d => by
    simp [Op.equalIn, run_underlying Tryz.underlying71, sizeOf, typeInfo, hj, hsz, run_sameAddr_other w (a := ⟨hb, 0, none⟩) (b := ⟨vb, 0, none⟩) (fun e => hne (by injection e)) h1 h2]
  simp only [binOp]
  simp [Op.equal, Op.maxDepth, h 9999]
set_option maxRecDepth 100000 in
theorem f_closed0 {w : World} {f hb vb : Nat} {c0 c1 c2 c3 c4 c5 c6 c8 : Value} (hB : Blk w f (fwc c0 c1 c2 c3 c4 c5 c6 (vpt hb) c8) 170) (hne : hb ≠ vb) {ca cb : Array Value} {ta tb : TypeId} (h1 : Blk w hb ca ta) (h2 : Blk w vb cb tb) :
    Calls Tryz.prog 78 #[.pointer (some ⟨f, 0, none⟩), .pointer (some ⟨vb, 0, none⟩)] w fun r w' => r = .returned (.tuple #[]) ∧ Keeps w w' := by
  have c7 : w.cell? ⟨f, 7, none⟩ = some (.pointer (some ⟨hb, 0, none⟩)) := hB.cell 7
  have hcmp := neq_other w hne h1 h2
  clear hB h1 h2 hne
  go_enter Tryz.func78, Tryz.ntmps78
  go_wp2
  (try simp only [Exit.inBlock, Exit.then]); refine bodyPost_ret (results_none rfl _ _ _) rfl ?_
  exact ⟨rfl, Fr.refl _ _⟩
set_option linter.unusedSimpArgs false in
set_option maxHeartbeats 8000000 in
set_option maxRecDepth 100000 in
theorem f_closed1 {w : World} {f b vb g m cap : Nat} {c1 c2 c3 c4 c5 hold osv : Value} {ct : List Value} (hB : Blk w f (fwc (.pointer (some ⟨b, 0, none⟩)) c1 c2 c3 c4 c5 (.slice (some ⟨g, 0, none⟩) (m + 1) cap) hold osv) 170) (hh : hold = .pointer none ∨ hold = .pointer (some ⟨vb, 0, none⟩)) (hm : m ≤ 100) (hcap : m + 1 ≤ cap) (hr : w.rangeAt g (m * 22) ct) (hl : ct.length = 22) {Q : Value → World → Prop}
    (hcnt : Calls Tryz.prog 108 #[.pointer (some ⟨b, 0, none⟩), .pointer (some ⟨vb, 0, none⟩), .agg ct.toArray, .func (.func 109) #[.pointer (some ⟨f, 0, none⟩)] #[]] w.drew fun r w' => r = .returned (.tuple #[]) ∧ ∃ osv', Blk w' f (fwc (.pointer (some ⟨b, 0, none⟩)) c1 c2 c3 c4 c5 (.slice (some ⟨g, 0, none⟩) (m + 1) cap) hold osv') 170 ∧ w'.rangeAt g (m * 22) ct ∧ Q osv' w') :
    Calls Tryz.prog 78 #[.pointer (some ⟨f, 0, none⟩), .pointer (some ⟨vb, 0, none⟩)] w fun r w' => r = .returned (.tuple #[]) ∧ ∃ w1 osv', Q osv' w1 ∧ Blk w' f (fwc (.pointer (some ⟨b, 0, none⟩)) c1 c2 c3 c4 c5 (.slice (some ⟨g, 0, none⟩) m cap) (.pointer none) osv') 170 ∧ Fr (fun k => k = f) w1 w' := by
  have d7 : w.cell? ⟨f, 7, none⟩ = some hold := hB.cell 7
  have d6 : w.cell? ⟨f, 6, none⟩ = some (.slice (some ⟨g, 0, none⟩) (m + 1) cap) := hB.cell 6
  have d0 : w.cell? ⟨f, 0, none⟩ = some (.pointer (some ⟨b, 0, none⟩)) := hB.cell 0
  have SS : Hid (w.drew.cell? ⟨f, 0, none⟩ = some (.pointer (some ⟨b, 0, none⟩)) ∧ w.drew.cell? ⟨f, 6, none⟩ = some (.slice (some ⟨g, 0, none⟩) (m + 1) cap) ∧ w.drew.rangeAt g (m * 22) ct) := ⟨d0, d6, hr⟩
  have CNT := hide hcnt
  have NXT : Hid (∀ w1 osv', Blk w1 f (fwc (.pointer (some ⟨b, 0, none⟩)) c1 c2 c3 c4 c5 (.slice (some ⟨g, 0, none⟩) (m + 1) cap) hold osv') 170 → w1.rangeAt g (m * 22) ct → Q osv' w1 →
      (w1.cell? ⟨f, 0, none⟩ = some (.pointer (some ⟨b, 0, none⟩)) ∧ w1.cell? ⟨f, 6, none⟩ = some (.slice (some ⟨g, 0, none⟩) (m + 1) cap) ∧ w1.rangeAt g (m * 22) ct) ∧ (∀ i, w1.frozen? ⟨f, i, none⟩ = false) ∧ (∀ i, (w1.setCell ⟨f, 6, none⟩ (.slice (some ⟨g, 0, none⟩) m cap)).frozen? ⟨f, i, none⟩ = false) ∧ (w1.setCell ⟨f, 6, none⟩ (.slice (some ⟨g, 0, none⟩) m cap)).cell? ⟨f, 7, none⟩ = some hold ∧
      ∃ w2 osv', Q osv' w2 ∧ Blk ((w1.setCell ⟨f, 6, none⟩ (.slice (some ⟨g, 0, none⟩) m cap)).setCell ⟨f, 7, none⟩ (.pointer none)) f (fwc (.pointer (some ⟨b, 0, none⟩)) c1 c2 c3 c4 c5 (.slice (some ⟨g, 0, none⟩) m cap) (.pointer none) osv') 170 ∧ Fr (fun k => k = f) w2 ((w1.setCell ⟨f, 6, none⟩ (.slice (some ⟨g, 0, none⟩) m cap)).setCell ⟨f, 7, none⟩ (.pointer none))) := fun w1 osv' q1 q2 q3 => by
    have b2 := q1.set 6 (.slice (some ⟨g, 0, none⟩) m cap)
    exact ⟨⟨q1.cell 0, q1.cell 6, q2⟩, q1.fz, b2.fz, b2.cell 7, w1, osv', q3, b2.set 7 _, ((Fr.refl (fun k => k = f) w1).setCell ⟨f, 6, none⟩ (Or.inl rfl) _).setCell ⟨f, 7, none⟩ (Or.inl rfl) _⟩
  have hmm : (m : Int) < (m : Int) + 1 := by omega
  have hwm : IntKind.i64.wrap (m : Int) = m := by rw [IntWalk.i64_in _ (by omega)]
  have hmc : (m : Int) ≤ (cap : Int) := by omega
  have hm0 : (0 : Int) ≤ (m : Int) := by omega
  have hcmp := neq_same w vb
  have IA : Hid ((Tryz.prog.info? 202).map (·.size) = some ct.length) := by rw [hl]; exact infoTally
  clear hB hcnt hr hl
  rcases hh with rfl | rfl
  · go_enter Tryz.func78, Tryz.ntmps78
    go_wp2
    refine wp_region_held_drew (S := fun w' => w'.cell? ⟨f, 0, none⟩ = some (.pointer (some ⟨b, 0, none⟩)) ∧ w'.cell? ⟨f, 6, none⟩ = some (.slice (some ⟨g, 0, none⟩) (m + 1) cap) ∧ w'.rangeAt g (m * 22) ct) (by kernel_rfl) SS.out (fun _ => ?_)
    refine wpAnyH_take (i := 0) (v := ?v1) rfl (by kernel_rfl) (by kernel_rfl) (by kernel_rfl) (fun _ _ _ h => h) (Or.inl ⟨by rfl, ?hy1⟩) (by assumption) ?rest1
    case hy1 => (intro w hSw; (try dsimp only at hSw); (obtain ⟨hs0, hs6, _⟩ := hSw; (go_simp <;> with_reducible rfl)))
    try simp only [Act.put, List.setIfInBounds_toArray, List.set_cons_zero, List.set_cons_succ]
    refine wpAnyH_take (i := 1) (v := ?v2) rfl (by kernel_rfl) (by kernel_rfl) (by kernel_rfl) (fun _ _ _ h => h) (Or.inl ⟨by rfl, ?hy2⟩) (by assumption) ?rest2
    case hy2 => (intro w hSw; (try dsimp only at hSw); (obtain ⟨hs0, hs6, _⟩ := hSw; (go_simp <;> with_reducible rfl)))
    try simp only [Act.put, List.setIfInBounds_toArray, List.set_cons_zero, List.set_cons_succ]
    refine wpAnyH_take (i := 2) (v := ?v3) rfl (by kernel_rfl) (by kernel_rfl) (by kernel_rfl) (fun _ _ _ h => h) (Or.inl ⟨by rfl, ?hy3⟩) (by assumption) ?rest3
    case hy3 => (intro w hSw; (try dsimp only at hSw); (obtain ⟨hs0, hs6, _⟩ := hSw; (go_simp <;> with_reducible rfl)))
    try simp only [Act.put, List.setIfInBounds_toArray, List.set_cons_zero, List.set_cons_succ]
    refine wpAnyH_take (i := 3) (v := ?v4) rfl (by kernel_rfl) (by kernel_rfl) (by kernel_rfl) (fun _ _ _ h => h) (Or.inl ⟨by rfl, ?hy4⟩) (by assumption) ?rest4
    case hy4 => (intro w hSw; (try dsimp only at hSw); (obtain ⟨hs0, hs6, _⟩ := hSw; (go_simp <;> with_reducible rfl)))
    try simp only [Act.put, List.setIfInBounds_toArray, List.set_cons_zero, List.set_cons_succ]
    refine wpAnyH_take (i := 4) (v := ?v5) rfl (by kernel_rfl) (by kernel_rfl) (by kernel_rfl) (fun _ _ _ h => h) (Or.inl ⟨by rfl, ?hy5⟩) (by assumption) ?rest5
    case hy5 => (intro w hSw; (try dsimp only at hSw); (obtain ⟨hs0, hs6, _⟩ := hSw; (go_simp <;> with_reducible rfl)))
    try simp only [Act.put, List.setIfInBounds_toArray, List.set_cons_zero, List.set_cons_succ]
    refine wpAnyH_take (i := 5) (v := ?v6) rfl (by kernel_rfl) (by kernel_rfl) (by kernel_rfl) (fun _ _ _ h => h) (Or.inl ⟨by rfl, ?hy6⟩) (by assumption) ?rest6
    case hy6 => (intro w hSw; (try dsimp only at hSw); (obtain ⟨hs0, hs6, _⟩ := hSw; (go_simp <;> with_reducible rfl)))
    try simp only [Act.put, List.setIfInBounds_toArray, List.set_cons_zero, List.set_cons_succ]
    refine wpAnyH_take (i := 6) (v := ?v7) rfl (by kernel_rfl) (by kernel_rfl) (by kernel_rfl) (fun _ _ _ h => h) (Or.inl ⟨by rfl, ?hy7⟩) (by assumption) ?rest7
    case hy7 => (intro w hSw; (try dsimp only at hSw); (obtain ⟨hs0, hs6, _⟩ := hSw; (go_simp <;> with_reducible rfl)))
    try simp only [Act.put, List.setIfInBounds_toArray, List.set_cons_zero, List.set_cons_succ]
    refine wpAnyH_take (i := 7) (v := ?v8) rfl (by kernel_rfl) (by kernel_rfl) (by kernel_rfl) (fun _ _ _ h => h) (Or.inl ⟨by rfl, ?hy8⟩) (by assumption) ?rest8
    case hy8 => (intro w hSw; (try dsimp only at hSw); (obtain ⟨hs0, hs6, _⟩ := hSw; (go_simp <;> with_reducible rfl)))
    try simp only [Act.put, List.setIfInBounds_toArray, List.set_cons_zero, List.set_cons_succ]
    refine wpAnyH_take (i := 8) (v := ?v9) rfl (by kernel_rfl) (by kernel_rfl) (by kernel_rfl) (fun _ _ _ h => h) (Or.inl ⟨by rfl, ?hy9⟩) (by assumption) ?rest9
    case hy9 => (intro w hSw; (try dsimp only at hSw); (obtain ⟨hs0, hs6, _⟩ := hSw; (go_simp <;> with_reducible rfl)))
    try simp only [Act.put, List.setIfInBounds_toArray, List.set_cons_zero, List.set_cons_succ]
    refine wpAnyH_take (i := 9) (v := ?v10) rfl (by kernel_rfl) (by kernel_rfl) (by kernel_rfl) (fun _ _ _ h => h) (Or.inl ⟨by rfl, ?hy10⟩) (by assumption) ?rest10
    case hy10 => (intro w hSw; (try dsimp only at hSw); (obtain ⟨hs0, hs6, _⟩ := hSw; (go_simp <;> with_reducible rfl)))
    try simp only [Act.put, List.setIfInBounds_toArray, List.set_cons_zero, List.set_cons_succ]
    refine wpAnyH_take (i := 10) (v := ?v11) rfl (by kernel_rfl) (by kernel_rfl) (by kernel_rfl) (fun _ _ _ h => h) (Or.inl ⟨by rfl, ?hy11⟩) (by assumption) ?rest11
    case hy11 => (intro w hSw; (try dsimp only at hSw); (obtain ⟨hs0, hs6, _⟩ := hSw; (go_simp <;> with_reducible rfl)))
    try simp only [Act.put, List.setIfInBounds_toArray, List.set_cons_zero, List.set_cons_succ]
    refine wpAnyH_take (i := 11) (v := .agg ct.toArray) rfl (by kernel_rfl) (by kernel_rfl) (by kernel_rfl) (fun _ _ _ h => h) ?hy12 (by assumption) ?rest12
    case hy12 => exact yieldsIf_load_mid (by rfl) 202 (.tmp 34) rfl g (m * 22) (by kernel_rfl) ct (.array 11 200) (fun w hS => hS.2.2) (by kernel_rfl) rfl IA.out
    try simp only [Act.put, List.setIfInBounds_toArray, List.set_cons_zero, List.set_cons_succ]
    refine wpAnyH_take (i := 12) (v := ?v13) rfl (by kernel_rfl) (by kernel_rfl) (by kernel_rfl) (fun _ _ _ h => h) (Or.inl ⟨by rfl, ?hy13⟩) (by assumption) ?rest13
    case hy13 => (intro w hSw; (try dsimp only at hSw); (obtain ⟨hs0, hs6, _⟩ := hSw; (go_simp <;> with_reducible rfl)))
    try simp only [Act.put, List.setIfInBounds_toArray, List.set_cons_zero, List.set_cons_succ]
    refine wpAnyH_take (i := 13) (v := ?v14) rfl (by kernel_rfl) (by kernel_rfl) (by kernel_rfl) (fun _ _ _ h => h) (Or.inl ⟨by rfl, ?hy14⟩) (by assumption) ?rest14
    case hy14 => (intro w hSw; (try dsimp only at hSw); (obtain ⟨hs0, hs6, _⟩ := hSw; (go_simp <;> with_reducible rfl)))
    try simp only [Act.put, List.setIfInBounds_toArray, List.set_cons_zero, List.set_cons_succ]
    refine wpAnyH_ready (rs := [14]) (by kernel_rfl) (by simp) ?_
    refine AllReadyH.cons rfl (fun K hK => ?_) AllReadyH.nil
    go_simp
    refine CNT.out.mono ?_
    rintro r w1 ⟨rfl, osv', q1, q2, q3⟩
    obtain ⟨s1, fz1, fz2, e7, fin⟩ := NXT.out w1 osv' q1 q2 q3
    have e6 := s1.2.1
    have S1 := hide s1
    have FINAL := hide fin
    clear q1 q2 q3 s1 fin
    refine hK.out _ _ S1.out (fun _ => ?_)
    clear hK K
    try simp only [Act.put, List.setIfInBounds_toArray, List.set_cons_zero, List.set_cons_succ]
    refine wpAnyH_done (by kernel_rfl) ?_ _
    go_wp2
    go_end0
    exact ⟨rfl, FINAL.out⟩
  go_enter Tryz.func78, Tryz.ntmps78
  go_wp2
  refine wp_region_held_drew (S := fun w' => w'.cell? ⟨f, 0, none⟩ = some (.pointer (some ⟨b, 0, none⟩)) ∧ w'.cell? ⟨f, 6, none⟩ = some (.slice (some ⟨g, 0, none⟩) (m + 1) cap) ∧ w'.rangeAt g (m * 22) ct) (by kernel_rfl) SS.out (fun _ => ?_)
  refine wpAnyH_take (i := 0) (v := ?v15) rfl (by kernel_rfl) (by kernel_rfl) (by kernel_rfl) (fun _ _ _ h => h) (Or.inl ⟨by rfl, ?hy15⟩) (by assumption) ?rest15
  case hy15 => (intro w hSw; (try dsimp only at hSw); (obtain ⟨hs0, hs6, _⟩ := hSw; (go_simp <;> with_reducible rfl)))
  try simp only [Act.put, List.setIfInBounds_toArray, List.set_cons_zero, List.set_cons_succ]
  refine wpAnyH_take (i := 1) (v := ?v16) rfl (by kernel_rfl) (by kernel_rfl) (by kernel_rfl) (fun _ _ _ h => h) (Or.inl ⟨by rfl, ?hy16⟩) (by assumption) ?rest16
  case hy16 => (intro w hSw; (try dsimp only at hSw); (obtain ⟨hs0, hs6, _⟩ := hSw; (go_simp <;> with_reducible rfl)))
  try simp only [Act.put, List.setIfInBounds_toArray, List.set_cons_zero, List.set_cons_succ]
  refine wpAnyH_take (i := 2) (v := ?v17) rfl (by kernel_rfl) (by kernel_rfl) (by kernel_rfl) (fun _ _ _ h => h) (Or.inl ⟨by rfl, ?hy17⟩) (by assumption) ?rest17
  case hy17 => (intro w hSw; (try dsimp only at hSw); (obtain ⟨hs0, hs6, _⟩ := hSw; (go_simp <;> with_reducible rfl)))
  try simp only [Act.put, List.setIfInBounds_toArray, List.set_cons_zero, List.set_cons_succ]
  refine wpAnyH_take (i := 3) (v := ?v18) rfl (by kernel_rfl) (by kernel_rfl) (by kernel_rfl) (fun _ _ _ h => h) (Or.inl ⟨by rfl, ?hy18⟩) (by assumption) ?rest18
  case hy18 => (intro w hSw; (try dsimp only at hSw); (obtain ⟨hs0, hs6, _⟩ := hSw; (go_simp <;> with_reducible rfl)))
  try simp only [Act.put, List.setIfInBounds_toArray, List.set_cons_zero, List.set_cons_succ]
  refine wpAnyH_take (i := 4) (v := ?v19) rfl (by kernel_rfl) (by kernel_rfl) (by kernel_rfl) (fun _ _ _ h => h) (Or.inl ⟨by rfl, ?hy19⟩) (by assumption) ?rest19
  case hy19 => (intro w hSw; (try dsimp only at hSw); (obtain ⟨hs0, hs6, _⟩ := hSw; (go_simp <;> with_reducible rfl)))
  try simp only [Act.put, List.setIfInBounds_toArray, List.set_cons_zero, List.set_cons_succ]
  refine wpAnyH_take (i := 5) (v := ?v20) rfl (by kernel_rfl) (by kernel_rfl) (by kernel_rfl) (fun _ _ _ h => h) (Or.inl ⟨by rfl, ?hy20⟩) (by assumption) ?rest20
  case hy20 => (intro w hSw; (try dsimp only at hSw); (obtain ⟨hs0, hs6, _⟩ := hSw; (go_simp <;> with_reducible rfl)))
  try simp only [Act.put, List.setIfInBounds_toArray, List.set_cons_zero, List.set_cons_succ]
  refine wpAnyH_take (i := 6) (v := ?v21) rfl (by kernel_rfl) (by kernel_rfl) (by kernel_rfl) (fun _ _ _ h => h) (Or.inl ⟨by rfl, ?hy21⟩) (by assumption) ?rest21
  case hy21 => (intro w hSw; (try dsimp only at hSw); (obtain ⟨hs0, hs6, _⟩ := hSw; (go_simp <;> with_reducible rfl)))
  try simp only [Act.put, List.setIfInBounds_toArray, List.set_cons_zero, List.set_cons_succ]
  refine wpAnyH_take (i := 7) (v := ?v22) rfl (by kernel_rfl) (by kernel_rfl) (by kernel_rfl) (fun _ _ _ h => h) (Or.inl ⟨by rfl, ?hy22⟩) (by assumption) ?rest22
  case hy22 => (intro w hSw; (try dsimp only at hSw); (obtain ⟨hs0, hs6, _⟩ := hSw; (go_simp <;> with_reducible rfl)))
  try simp only [Act.put, List.setIfInBounds_toArray, List.set_cons_zero, List.set_cons_succ]
  refine wpAnyH_take (i := 8) (v := ?v23) rfl (by kernel_rfl) (by kernel_rfl) (by kernel_rfl) (fun _ _ _ h => h) (Or.inl ⟨by rfl, ?hy23⟩) (by assumption) ?rest23
  case hy23 => (intro w hSw; (try dsimp only at hSw); (obtain ⟨hs0, hs6, _⟩ := hSw; (go_simp <;> with_reducible rfl)))
  try simp only [Act.put, List.setIfInBounds_toArray, List.set_cons_zero, List.set_cons_succ]
  refine wpAnyH_take (i := 9) (v := ?v24) rfl (by kernel_rfl) (by kernel_rfl) (by kernel_rfl) (fun _ _ _ h => h) (Or.inl ⟨by rfl, ?hy24⟩) (by assumption) ?rest24
  case hy24 => (intro w hSw; (try dsimp only at hSw); (obtain ⟨hs0, hs6, _⟩ := hSw; (go_simp <;> with_reducible rfl)))
  try simp only [Act.put, List.setIfInBounds_toArray, List.set_cons_zero, List.set_cons_succ]
  refine wpAnyH_take (i := 10) (v := ?v25) rfl (by kernel_rfl) (by kernel_rfl) (by kernel_rfl) (fun _ _ _ h => h) (Or.inl ⟨by rfl, ?hy25⟩) (by assumption) ?rest25
  case hy25 => (intro w hSw; (try dsimp only at hSw); (obtain ⟨hs0, hs6, _⟩ := hSw; (go_simp <;> with_reducible rfl)))
  try simp only [Act.put, List.setIfInBounds_toArray, List.set_cons_zero, List.set_cons_succ]
  refine wpAnyH_take (i := 11) (v := .agg ct.toArray) rfl (by kernel_rfl) (by kernel_rfl) (by kernel_rfl) (fun _ _ _ h => h) ?hy26 (by assumption) ?rest26
  case hy26 => exact yieldsIf_load_mid (by rfl) 202 (.tmp 34) rfl g (m * 22) (by kernel_rfl) ct (.array 11 200) (fun w hS => hS.2.2) (by kernel_rfl) rfl IA.out
  try simp only [Act.put, List.setIfInBounds_toArray, List.set_cons_zero, List.set_cons_succ]
  refine wpAnyH_take (i := 12) (v := ?v27) rfl (by kernel_rfl) (by kernel_rfl) (by kernel_rfl) (fun _ _ _ h => h) (Or.inl ⟨by rfl, ?hy27⟩) (by assumption) ?rest27
  case hy27 => (intro w hSw; (try dsimp only at hSw); (obtain ⟨hs0, hs6, _⟩ := hSw; (go_simp <;> with_reducible rfl)))
  try simp only [Act.put, List.setIfInBounds_toArray, List.set_cons_zero, List.set_cons_succ]
  refine wpAnyH_take (i := 13) (v := ?v28) rfl (by kernel_rfl) (by kernel_rfl) (by kernel_rfl) (fun _ _ _ h => h) (Or.inl ⟨by rfl, ?hy28⟩) (by assumption) ?rest28
  case hy28 => (intro w hSw; (try dsimp only at hSw); (obtain ⟨hs0, hs6, _⟩ := hSw; (go_simp <;> with_reducible rfl)))
  try simp only [Act.put, List.setIfInBounds_toArray, List.set_cons_zero, List.set_cons_succ]
  refine wpAnyH_ready (rs := [14]) (by kernel_rfl) (by simp) ?_
  refine AllReadyH.cons rfl (fun K hK => ?_) AllReadyH.nil
  go_simp
  refine CNT.out.mono ?_
  rintro r w1 ⟨rfl, osv', q1, q2, q3⟩
  obtain ⟨s1, fz1, fz2, e7, fin⟩ := NXT.out w1 osv' q1 q2 q3
  have e6 := s1.2.1
  have S1 := hide s1
  have FINAL := hide fin
  clear q1 q2 q3 s1 fin
  refine hK.out _ _ S1.out (fun _ => ?_)
  clear hK K
  try simp only [Act.put, List.setIfInBounds_toArray, List.set_cons_zero, List.set_cons_succ]
  refine wpAnyH_done (by kernel_rfl) ?_ _
  go_wp2
  go_end0
  exact ⟨rfl, FINAL.out⟩
end Go.Proofs.YtcbadebjpogmlaaGreatDoor
namespace Tr
theorem next5 {z : Sn} (hok : SOk z) {b : Nat} (h : (sNext z b).z.st = 5) : z.st = 5 ∨ ∃ t ∈ (sNext z b).ts, t.k = 1 ∨ t.k = 3 := by
  have shut : ∀ z : Sn, ∃ t ∈ (sShut z).ts, t.k = 1 ∨ t.k = 3 := fun z => ⟨_, List.mem_singleton.2 rfl, Or.inl rfl⟩
  unfold sNext at h ⊢
  by_cases h6 : z.st = 6
  · rw [if_pos h6] at h ⊢
    unfold sStr at h ⊢
    split at h
    · simp [Sn.to] at h
    rename_i c1
    rw [if_neg c1]
    split at h
    · simp [Sn.to] at h
    rename_i c2
    rw [if_neg c2]
    split at h
    · rename_i c3
      rw [if_pos c3]
      unfold sEndS at h ⊢
      split at h
      · rename_i c4
        rw [if_pos c4]
        exact Or.inr ⟨_, List.mem_singleton.2 rfl, Or.inr c4⟩
      simp at h
    simp [sAdd] at h
  rw [if_neg h6] at h ⊢
  by_cases h7 : z.st = 7
  · rw [if_pos h7] at h ⊢
    unfold sEsc at h
    split at h
    · simp [Sn.to] at h
    simp [sAdd] at h
  rw [if_neg h7] at h ⊢
  by_cases h8 : z.st = 8 ∨ z.st = 9
  · rw [if_pos h8] at h ⊢
    have hk := (hok.n h8).2.2.2.2
    unfold sNum at h ⊢
    split at h
    · simp [Sn.to] at h
    rename_i c1
    rw [if_neg c1]
    split at h
    · simp [sDig] at h
    rename_i c2
    rw [if_neg c2]
    split at h
    · simp [Sn.to] at h
    rename_i c3
    rw [if_neg c3]
    exact Or.inr ⟨sNumT z, List.mem_cons_self, Or.inr hk⟩
  rw [if_neg h8] at h ⊢
  by_cases h10 : z.st = 10
  · rw [if_pos h10] at h ⊢
    have hk := (hok.w h10).2.2
    unfold sWord at h ⊢
    split at h
    · simp [Sn.to] at h
    rename_i c1
    rw [if_neg c1]
    split at h
    · rename_i c2
      rw [if_pos c2]
      exact Or.inr ⟨_, List.mem_singleton.2 rfl, Or.inr hk⟩
    simp at h
  rw [if_neg h10] at h ⊢
  by_cases hb : isBl b = true
  · rw [if_pos hb] at h
    exact Or.inl h
  rw [if_neg hb] at h ⊢
  unfold sBetw at h ⊢
  by_cases h5 : z.st = 5
  · exact Or.inl h5
  rw [if_neg h5] at h ⊢
  split at h
  · simp [Sn.to] at h
  rename_i c1
  rw [if_neg c1]
  split at h
  · rename_i c2
    rw [if_pos c2]
    exact Or.inr (shut z)
  rename_i c2
  split at h
  · unfold sBegin at h
    repeat' split at h
    · revert h; unfold sLot; split <;> simp [Sn.to]
    · revert h; unfold sLot; split <;> simp [Sn.to]
    · simp [sBStr] at h
    · simp [sBWord] at h
    · simp [sBWord] at h
    · simp [sBWord] at h
    revert h; unfold sBNum; split
    · simp
    split <;> simp [sDig]
  split at h
  · simp [sBStr] at h
  simp [Sn.to] at h
theorem gTake_last {g : Gs} {t : Tok} {kp : Bool} (ht : TokOk g.sh t) (h : t.k = 1 ∨ t.k = 3 ∨ g.last ≠ none) : (gTake g t kp).last ≠ none := by
  unfold gTake
  by_cases h0 : t.k = 0
  · rw [if_pos h0]; exact h.resolve_left (by omega) |>.resolve_left (by omega)
  rw [if_neg h0]
  by_cases h1 : t.k = 1
  · rw [if_pos h1]
    have := ht.k1 h1
    cases hs : g.st with
    | nil => simp [Gs.sh, hs] at this
    | cons f r => simp [gClose]
  rw [if_neg h1]
  by_cases h2 : t.k = 2
  · rw [if_pos h2]; exact h.resolve_left (by omega) |>.resolve_left (by omega)
  rw [if_neg h2]
  simp [gClose]
theorem gRun_cons (g : Gs) (t : Tok) (r : List Tok) : gRun g (t :: r) = gRun (gTake g t true) r := rfl
theorem gRun_last : ∀ {ts : List Tok} {g : Gs}, OkL g.sh ts → ((∃ t ∈ ts, t.k = 1 ∨ t.k = 3) ∨ g.last ≠ none) → (gRun g ts).last ≠ none
  | [], _, _, h => h.resolve_left (fun ⟨_, x, _⟩ => by cases x)
  | t :: r, g, ho, h => by
    rw [gRun_cons]
    refine gRun_last (by rw [sh_take g t true ho.1]; exact ho.2) ?_
    rcases h with ⟨x, hx, hk⟩ | h
    · rcases List.mem_cons.1 hx with e | e
      · subst e; exact Or.inr (gTake_last ho.1 (by omega))
      exact Or.inl ⟨x, e, hk⟩
    exact Or.inr (gTake_last ho.1 (Or.inr (Or.inr h)))
theorem gRun_sh : ∀ {ts : List Tok} {g : Gs}, OkL g.sh ts → (gRun g ts).sh = shRun g.sh ts
  | [], _, _ => rfl
  | t :: r, g, ho => by
    rw [gRun_cons, gRun_sh (by rw [sh_take g t true ho.1]; exact ho.2), sh_take g t true ho.1]; rfl
theorem run5 : ∀ (l : List UInt8) {z : Sn} {g : Gs}, SOk z → Lk z g.sh → z.st ≤ 10 → z.at' + l.length ≤ 4000000 → (z.st = 5 → g.last ≠ none) → (sRun z l).e = 0 → (sRun z l).z.st = 5 → (gRun g (sRun z l).ts).last ≠ none
  | [], z, g, _, _, _, _, h5, _, h => h5 h
  | b :: l, z, g, h1, h2, h3, h4, h5, he, h => by
    have hl : z.at' + (l.length + 1) ≤ 4000000 := by simpa using h4
    have S := stp_next h1 h2 h3 (by omega) b.toNat
    rw [sRun] at he h ⊢
    by_cases c12 : (sNext z b.toNat).z.st = 12
    · rw [if_pos c12] at he; cases he
    rw [if_neg c12] at he h ⊢
    by_cases c11 : (sNext z b.toNat).z.st = 11
    · rw [if_pos c11] at he; cases he
    rw [if_neg c11] at he h ⊢
    have c10 : (sNext z b.toNat).z.st ≤ 10 := by have := S.st; omega
    have hat := S.at'
    have o1 := S.ok c10
    have O : SOk { (sNext z b.toNat).z with at' := (sNext z b.toNat).z.at' + 1 } := ⟨o1.op, o1.ne, o1.tk, o1.st, o1.w, o1.n, o1.m, o1.x⟩
    simp only at he h ⊢
    rw [gRun_app]
    refine run5 l O (by rw [gRun_sh S.tok]; exact S.lk c10) c10 (by simp only [hat]; omega) (fun e5 => ?_) he h
    rcases next5 h1 e5 with x | x
    · exact gRun_last S.tok (Or.inr (h5 x))
    exact gRun_last S.tok (Or.inl x)
def txErr (l : List UInt8) : Nat := if (sRun sInit l).e ≠ 0 then (sRun sInit l).e else if sWhole (sRun sInit l).z = true then 0 else 2
def txAt (l : List UInt8) : Nat := if (sRun sInit l).e ≠ 0 then (sRun sInit l).z.at' else if sWhole (sRun sInit l).z = true then 0 else l.length
def txTs (l : List UInt8) : List Tok := (sRun sInit l).ts ++ sEnd (sRun sInit l).z
def txVal (l : List UInt8) : Option Tv := (gRun gInit (txTs l)).last
theorem OkL.one {s : Sh} {t : Tok} (h : TokOk s t) : OkL s [t] := ⟨h, trivial⟩
theorem tx_ok {l : List UInt8} (hl : l.length ≤ 4000000) (h : txErr l = 0) : OkL ⟨[], 0⟩ (txTs l) ∧ (gRun gInit (txTs l)).st = [] ∧ ∃ t, txVal l = some t := by
  have R := run_ok' l sInit_ok.1 sInit_ok.2 (by simp [sInit]) (by simp [sInit]; omega)
  have he : (sRun sInit l).e = 0 := by
    unfold txErr at h
    by_cases x : (sRun sInit l).e ≠ 0
    · rw [if_pos x] at h; exact h
    simpa using x
  have hw : sWhole (sRun sInit l).z = true := by
    unfold txErr at h
    rw [if_neg (by simpa using he)] at h
    by_cases x : sWhole (sRun sInit l).z = true
    · exact x
    rw [if_neg x] at h; cases h
  obtain ⟨r1, r2, r3, r4⟩ := R.ok he
  have hop : (sRun sInit l).z.op = [] := by simp [sWhole] at hw; exact hw.2
  have h59 : (sRun sInit l).z.st = 5 ∨ (sRun sInit l).z.st = 9 := by simp [sWhole] at hw; exact hw.1
  have hat : (sRun sInit l).z.at' = l.length := by simpa [sInit] using r3
  have hE : OkL (shRun ⟨[], 0⟩ (sRun sInit l).ts) (sEnd (sRun sInit l).z) := by
    unfold sEnd
    split
    · rename_i h9; exact OkL.one (tokNum r1 r4 (Or.inr h9) (by omega))
    trivial
  have hAll : OkL ⟨[], 0⟩ (txTs l) := R.tok.app hE
  have hsh : (gRun gInit (txTs l)).sh = shRun ⟨[], 0⟩ (txTs l) := gRun_sh (g := gInit) hAll
  refine ⟨hAll, ?_, ?_⟩
  · have e : (gRun gInit (txTs l)).sh.op = [] := by
      rw [hsh]
      unfold txTs
      rw [shRun_app]
      unfold sEnd
      split
      · rename_i h9
        have hk : (sNumT (sRun sInit l).z).k = 3 := (r1.n (Or.inr h9)).2.2.2.2
        have := r4.op
        simp [shRun, shTake, hk] at this ⊢
        rw [hop] at this; exact this
      have := r4.op; rw [hop] at this; simpa [shRun] using this
    simpa [Gs.sh] using e
  have : (gRun gInit (txTs l)).last ≠ none := by
    unfold txTs
    rw [gRun_app]
    have hg : (gRun gInit (sRun sInit l).ts).sh = shRun ⟨[], 0⟩ (sRun sInit l).ts := gRun_sh (g := gInit) R.tok
    rcases h59 with h5 | h9
    · have e : sEnd (sRun sInit l).z = [] := by unfold sEnd; rw [if_neg (by omega)]
      rw [e]
      exact run5 l sInit_ok.1 (g := gInit) sInit_ok.2 (by simp [sInit]) (by simp [sInit]; omega) (fun x => by simp [sInit] at x) he h5
    have e : sEnd (sRun sInit l).z = [sNumT (sRun sInit l).z] := by unfold sEnd; rw [if_pos h9]
    rw [e] at hE ⊢
    exact gRun_last (by rw [hg]; exact hE) (Or.inl ⟨_, List.mem_singleton.2 rfl, Or.inr (r1.n (Or.inr h9)).2.2.2.2⟩)
  cases hv : txVal l with
  | none => exact absurd hv this
  | some t => exact ⟨t, rfl⟩
end Tr
namespace Tr
def subF (t : Tv) : List Nat := (allT 10 t).map fr
def stF : List Fm → List Nat
  | [] => []
  | f :: r => stF r ++ (f.d.frm :: f.ws.flatMap subF)
def DeepS : List Fm → Prop
  | [] => True
  | f :: r => (∀ c ∈ f.ws, Deep (9 - r.length) c) ∧ DeepS r
structure GF (g : Gs) : Prop where
  len : g.st.length ≤ 8
  p : (stF g.st).Pairwise (· < ·)
  b : ∀ x ∈ stF g.st, x < g.bd
  d : DeepS g.st
  l : g.st = [] → ∀ t, g.last = some t → Deep 10 t ∧ (subF t).Pairwise (· < ·) ∧ ∀ x ∈ subF t, x < g.bd
theorem subF_close {d : Dat} {ws : List Tv} {n : Nat} (hn : n ≤ 9) (h : ∀ c ∈ ws, Deep n c) : subF ⟨d, ws⟩ = d.frm :: ws.flatMap subF := by
  unfold subF
  show fr ⟨d, ws⟩ :: (ws.flatMap (allT 9)).map fr = _
  rw [List.map_flatMap]
  congr 1
  exact fm_congr (fun c hc => by rw [allT_deep (m := 9) (h c hc) hn, ← allT_deep (m := 10) (h c hc) (by omega)])
theorem gf_close {g : Gs} {f : Fm} {r : List Fm} {to : Nat} (hl : r.length ≤ 8) (hk : f.kp = true) (hp : (stF (f :: r)).Pairwise (· < ·)) (hb : ∀ x ∈ stF (f :: r), x < g.bd) (hd : DeepS (f :: r)) : GF (gClose g f r to) := by
  have e := subF_close (d := { f.d with to := to }) (ws := f.ws) (n := 9 - r.length) (by omega) hd.1
  have hD : Deep (9 - r.length + 1) (f.tv to) := hd.1
  have est : stF (gOn r f.kp (f.tv to)) = if r = [] then [] else stF (f :: r) := by
    cases r with
    | nil => rfl
    | cons p q =>
      rw [if_neg (by simp)]
      show stF (gKeep p f.kp (f.tv to) :: q) = _
      unfold gKeep
      rw [if_pos hk]
      simp only [stF, List.flatMap_append, List.flatMap_cons, List.flatMap_nil, List.append_nil]
      have : subF (f.tv to) = f.d.frm :: f.ws.flatMap subF := e
      rw [this]
      simp
  refine ⟨by simp [gClose, gOn_len]; exact hl, ?_, ?_, ?_, ?_⟩
  · show (stF (gOn r f.kp (f.tv to))).Pairwise _
    rw [est]; split
    · exact List.Pairwise.nil
    exact hp
  · show ∀ x ∈ stF (gOn r f.kp (f.tv to)), x < g.bd
    rw [est]; split
    · intro x hx; cases hx
    exact hb
  · show DeepS (gOn r f.kp (f.tv to))
    cases r with
    | nil => trivial
    | cons p q =>
      obtain ⟨_, h2, h3⟩ := hd
      refine ⟨?_, h3⟩
      unfold gKeep
      rw [if_pos hk]
      intro c hc
      rcases List.mem_append.1 hc with x | x
      · exact h2 c x
      rw [List.mem_singleton.1 x]
      exact hD.up (by simp at hl ⊢; omega)
  intro h0 t ht
  have hr : r = [] := by
    cases r with
    | nil => rfl
    | cons p q => simp [gClose, gOn] at h0
  subst hr
  have et : f.tv to = t := Option.some.inj ht
  rw [← et]
  have es : subF (f.tv to) = f.d.frm :: f.ws.flatMap subF := e
  have e2 : stF [f] = f.d.frm :: f.ws.flatMap subF := by simp [stF]
  rw [e2] at hp hb
  exact ⟨hD.up (by simp), by rw [es]; exact hp, by rw [es]; exact hb⟩
theorem gf_begin {g : Gs} (h : GF g) {frm : Nat} (hf : g.bd ≤ frm) {f : Fm} (hd : f.d.frm = frm) (hw : f.ws = []) : (stF (f :: g.st)).Pairwise (· < ·) ∧ (∀ x ∈ stF (f :: g.st), x < frm + 1) ∧ DeepS (f :: g.st) := by
  have e : stF (f :: g.st) = stF g.st ++ [frm] := by simp [stF, hd, hw]
  rw [e]
  refine ⟨?_, ?_, ?_⟩
  · rw [List.pairwise_append]
    refine ⟨h.p, by simp, fun a ha b hb => ?_⟩
    rw [List.mem_singleton.1 hb]
    have := h.b a ha; omega
  · intro x hx
    rcases List.mem_append.1 hx with y | y
    · have := h.b x y; omega
    rw [List.mem_singleton.1 y]; omega
  refine ⟨?_, h.d⟩
  rw [hw]; intro c hc; cases hc
theorem gf_take {g : Gs} {t : Tok} (h : GF g) (hi : ixOk g.st g.ix) (ht : TokOk g.sh t) : GF (gTake g t true) := by
  have hl : g.sh.op.length = g.st.length := by simp [Gs.sh]
  have h8 := h.len
  unfold gTake
  by_cases h0 : t.k = 0
  · rw [if_pos h0]
    have k0 := ht.k0 h0
    obtain ⟨a, b, c⟩ := gf_begin h (frm := t.frm) k0.2.2.2.2 (f := gBegin g t true) rfl rfl
    exact ⟨by simp; omega, a, b, c, fun x => by simp at x⟩
  rw [if_neg h0]
  by_cases h1 : t.k = 1
  · rw [if_pos h1]
    cases hs : g.st with
    | nil => simp only; exact ⟨by simp [hs], by rw [hs]; exact List.Pairwise.nil, (by rw [hs]; intro x hx; cases hx), (by rw [hs]; trivial), fun _ => h.l hs⟩
    | cons f r =>
      have hp := h.p
      have hb := h.b
      have hd := h.d
      rw [hs] at hp hb hd hi h8
      exact gf_close (by simp at h8; omega) hi.2.1 hp hb hd
  rw [if_neg h1]
  by_cases h2 : t.k = 2
  · rw [if_pos h2]; exact ⟨h.len, h.p, h.b, h.d, h.l⟩
  rw [if_neg h2]
  have k3 := ht.k3 (by have := ht.k; omega)
  obtain ⟨a, b, c⟩ := gf_begin h (frm := t.frm) k3.2.2.2.2 (f := gBegin g t true) rfl rfl
  exact gf_close (g := { g with nm := [], bd := t.frm + 1 }) h8 rfl a b c
theorem gf_run : ∀ {ts : List Tok} {g : Gs}, GF g → ixOk g.st g.ix → OkL g.sh ts → GF (gRun g ts)
  | [], _, h, _, _ => h
  | t :: r, g, h, hi, ho => by
    rw [gRun_cons]
    exact gf_run (gf_take h hi ho.1) (ix_take hi) (by rw [sh_take g t true ho.1]; exact ho.2)
theorem gInit_gf : GF gInit := ⟨by simp [gInit], List.Pairwise.nil, fun x hx => (by cases hx), trivial, fun _ t ht => (by cases ht)⟩
theorem gRun_bd : ∀ {ts : List Tok} {g : Gs} {B : Nat}, g.bd ≤ B → OkL g.sh ts → (∀ t ∈ ts, t.frm < B) → (gRun g ts).bd ≤ B
  | [], _, _, h, _, _ => h
  | t :: r, g, B, h, ho, hB => by
    rw [gRun_cons]
    refine gRun_bd ?_ (by rw [sh_take g t true ho.1]; exact ho.2) (fun x hx => hB x (List.mem_cons_of_mem _ hx))
    have e : (gTake g t true).bd = (shTake g.sh t).bd := congrArg Sh.bd (sh_take g t true ho.1)
    have hf := hB t (List.mem_cons_self)
    have hg : g.sh.bd = g.bd := rfl
    rw [e]
    unfold shTake
    split
    · show t.frm + 1 ≤ B; omega
    split
    · show g.bd ≤ B; exact h
    split
    · exact h
    show t.frm + 1 ≤ B; omega
theorem tx_tree {l : List UInt8} (hl : l.length ≤ 4000000) (h : txErr l = 0) {t : Tv} (ht : txVal l = some t) : Tree t ∧ ∀ v ∈ allT 10 t, fr v < 4000000 := by
  obtain ⟨h1, h2, _⟩ := tx_ok hl h
  have G := gf_run gInit_gf (show ixOk gInit.st gInit.ix from trivial) (ts := txTs l) h1
  obtain ⟨a, b, c⟩ := G.l h2 t ht
  have bd : (gRun gInit (txTs l)).bd ≤ 4000000 := by
    refine gRun_bd (by simp [gInit]) h1 ?_
    have : ∀ (ts : List Tok) (s : Sh), OkL s ts → ∀ t ∈ ts, t.frm < 4000000 := by
      intro ts
      induction ts with
      | nil => intro _ _ t ht; cases ht
      | cons x r ih =>
        intro s ho t ht
        rcases List.mem_cons.1 ht with e | e
        · rw [e]; exact ho.1.frm
        exact ih _ ho.2 t e
    exact this _ _ h1
  refine ⟨⟨a, List.pairwise_map.1 b⟩, fun v hv => ?_⟩
  have := c (fr v) (List.mem_map.2 ⟨v, hv, rfl⟩)
  omega
end Tr
