import Derived.Test.YtcbadebjpogmlaaGreatDoorJMkI
import Derived.Test.YtcbadebjpogmlaaGreatDoorJMkA
import Derived.Laws.AppendOwn
import Derived.Maps.AppendAt
namespace Go.Proofs.YtcbadebjpogmlaaGreatDoor
open Go.RowKit Tr
set_option maxHeartbeats 1000000 in
set_option maxRecDepth 100000 in
theorem p_less {w : World} {A : Nat → Nat} {t : Tv} {par : Value} {ix : Nat} {sv : Value} (h : PC w A t par ix sv) {b : Nat} {c : Kt} {sc pc : Value} (hb : Blk w b (pcl (kDat c) pc 0 sc) 130) (hc : KOk c) :
    Calls Tryz.prog 294 #[.pointer (some ⟨A t.d.frm, 0, none⟩), .pointer (some ⟨b, 0, none⟩)] w fun r w' => r = .returned (.bool (lessT c (some t))) ∧ ∃ k, w' = w.drewN k := by
  have E : lessT c (some t) = _ := less_eq h.d hc
  rw [E]
  have c0 : w.cell? ⟨A t.d.frm, 0, none⟩ = some (.int .i64 (pkd t.d : Nat)) := h.b.cell 0
  have c3 : w.cell? ⟨A t.d.frm, 3, none⟩ = some (.int .i64 t.d.n) := h.b.cell 3
  have c4 : w.cell? ⟨A t.d.frm, 4, none⟩ = some (.string (bsb (ptx t.d))) := h.b.cell 4
  have d0 : w.cell? ⟨b, 0, none⟩ = some (.int .i64 (pkd (kDat c) : Nat)) := hb.cell 0
  have d3 : w.cell? ⟨b, 3, none⟩ = some (.int .i64 c.n) := hb.cell 3
  have d4 : w.cell? ⟨b, 4, none⟩ = some (.string (bsb (ptx (kDat c)))) := hb.cell 4
  have HS : Hid (Go.Op.bytesLess (bsb (ptx t.d)).toList (bsb (ptx (kDat c))).toList = bLess (ptx t.d) (ptx (kDat c))) := by
    show _ = _
    rw [bLess_go, Lib.toList_data, Lib.toList_data]
    rfl
  clear h hb hc E
  generalize pkd t.d = k1 at *
  generalize pkd (kDat c) = k2 at *
  generalize hq : bLess (ptx t.d) (ptx (kDat c)) = bq at *
  generalize ptx t.d = x1 at *
  generalize ptx (kDat c) = x2 at *
  generalize t.d.n = n1 at *
  generalize c.n = n2 at *
  clear hq
  by_cases h12 : k1 = k2
  · subst h12
    rw [if_pos rfl]
    by_cases h3 : k1 = 3
    · subst h3
      clear HS c4 d4
      rw [if_pos rfl]
      go_enter Tryz.func294, Tryz.ntmps294
      go_wp2
      go_quiet (fail)
      go_wp2
      go_quiet (fail)
      go_wp2
      go_ret
      exact ⟨rfl, _, by rw [drewN3]⟩
    rw [if_neg h3]
    have e3 := beqI h3
    by_cases h4 : k1 = 4
    · subst h4
      rw [if_pos rfl, ← HS.out]
      clear HS
      go_enter Tryz.func294, Tryz.ntmps294
      go_wp2
      go_quiet (fail)
      go_wp2
      go_quiet (fail)
      go_wp2
      go_ret
      exact ⟨rfl, _, by rw [drewN3]⟩
    rw [if_neg h4]
    have e4 := beqI h4
    clear HS c4 d4 c3 d3
    go_enter Tryz.func294, Tryz.ntmps294
    go_wp2
    go_quiet (fail)
    go_wp2
    go_ret
    exact ⟨rfl, _, rfl⟩
  rw [if_neg h12]
  have e12 : ((k1 : Int) != (k2 : Int)) = true := by rw [bne_iff_ne]; omega
  clear HS c4 d4 c3 d3
  go_enter Tryz.func294, Tryz.ntmps294
  go_wp2
  go_quiet (fail)
  go_wp2
  go_ret
  exact ⟨rfl, _, rfl⟩
end Go.Proofs.YtcbadebjpogmlaaGreatDoor
namespace Go.Proofs.YtcbadebjpogmlaaGreatDoor
open Go.RowKit Tr
def CondV (w : World) (f : Value) (φ : Tv → Bool) : Prop := ∃ N cap, f = .func (.func N) #[] cap ∧ (∀ args w, (callFunc N args).run Tryz.prog w = .ok (.enter N args) w) ∧ ∀ (A : Nat → Nat) (D : Nat → Prop) (n : Nat) (par : Value) (ix : Nat) (t : Tv), PT w A D n par ix t →
  ∀ q, Calls Tryz.prog N (#[.pointer (some ⟨A t.d.frm, 0, none⟩)] ++ cap) (w.drewN q) fun r w' => r = .returned (.bool (φ t)) ∧ ∃ k, w' = w.drewN k
set_option maxHeartbeats 1000000 in
set_option maxRecDepth 100000 in
theorem v_not {w : World} {f : Value} {φ : Tv → Bool} (h : CondV w f φ) {b : Nat} (hb : Blk w b #[f] 237) : CondV w (.func (.func 281) #[] #[.pointer (some ⟨b, 0, none⟩)]) (fun t => !(φ t)) := by
  obtain ⟨N, cap, rfl, hE, hN⟩ := h
  refine ⟨_, _, rfl, fun _ _ => rfl, fun A D n par ix t ht q => ?_⟩
  have c0 : w.cell? ⟨b, 0, none⟩ = some (.func (.func N) #[] cap) := hb.cell 0
  have H := hide (hN A D n par ix t ht)
  clear hN hb ht
  show Calls Tryz.prog 281 #[.pointer (some ⟨A t.d.frm, 0, none⟩), .pointer (some ⟨b, 0, none⟩)] _ _
  go_enter Tryz.func281, Tryz.ntmps281
  go_wp2_with fail
  refine (H.out _).mono ?_
  rintro r w1 ⟨rfl, k1, rfl⟩
  go_wp2
  go_ret
  exact ⟨rfl, k1, rfl⟩
set_option maxHeartbeats 1000000 in
set_option maxRecDepth 100000 in
theorem v_one {w : World} {sv : Value} {fs : List Value} {φs : List (Tv → Bool)} {B : Nat} (ho : w.ownsRow B 237 1 sv fs.length fs) (hj : fs.length ≤ 1000) (hl : φs.length = fs.length)
    (h : ∀ i (h1 : i < fs.length) (h2 : i < φs.length), CondV w fs[i] φs[i]) {b : Nat} (hb : Blk w b #[sv] 300) : CondV w (.func (.func 267) #[] #[.pointer (some ⟨b, 0, none⟩)]) (fun t => φs.any (fun φ => φ t)) := by
  refine ⟨_, _, rfl, fun _ _ => rfl, fun A D n par ix t ht q => ?_⟩
  have c0 : w.cell? ⟨b, 0, none⟩ = some sv := hb.cell 0
  have HH := hide h
  have HT := hide ht
  obtain ⟨j, hjj⟩ : ∃ j, j = fs.length := ⟨_, rfl⟩
  rw [← hjj] at hj ho hl
  obtain ⟨v0, vcp, rfl⟩ := own_slice ho
  have HO := hide ho
  have HJ := hide hjj
  have HL := hide hl
  clear h hb ht ho hjj hl
  show Calls Tryz.prog 267 #[.pointer (some ⟨A t.d.frm, 0, none⟩), .pointer (some ⟨b, 0, none⟩)] _ _
  go_enter Tryz.func267, Tryz.ntmps267
  go_wp2
  go_loopw [5, 8] (fun _ i wr => ∃ k q : Nat, k ≤ j ∧ i = .int .i64 k ∧ (∀ m (hm : m < φs.length), m < k → φs[m] t = false) ∧ wr = w.drewN q) (fun _ i _ => j - (intOf i).toNat)
  case atStart => exact ⟨0, q, Nat.zero_le _, rfl, fun _ _ h => absurd h (Nat.not_lt_zero _), rfl⟩
  case round =>
    obtain ⟨k, q, hk, rfl, hno, rfl⟩ := hrel
    have NO := hide hno
    clear hno
    by_cases hlt : k < j
    · have hlf : k < fs.length := by have := HJ.out; omega
      have hlp : k < φs.length := by have := HL.out; omega
      obtain ⟨g, cap, hv, hbg, hgl⟩ := HO.out.form (by omega)
      simp only [Value.slice.injEq, true_and] at hv
      obtain ⟨rfl, rfl⟩ := hv
      have hcell : w.cell? ⟨g, k, none⟩ = some fs[k] := (HO.out.cellAt k (by omega)).trans (List.getElem?_eq_getElem hlf)
      obtain ⟨N, cp, he, hE, hN⟩ := HH.out k hlf hlp
      rw [he] at hcell
      have H := hide (hN A D n par ix t HT.out)
      have HY : Hid (φs[k] t = true → φs.any (fun φ => φ t) = true) := fun e => List.any_eq_true.2 ⟨_, List.getElem_mem hlp, e⟩
      have HN : Hid (φs[k] t = false → ∀ m (hm : m < φs.length), m < k + 1 → φs[m] t = false) := fun e m hm hmk => by
        by_cases x : m = k
        · subst x; exact e
        exact NO.out m hm (by omega)
      clear hN he
      generalize φs[k] t = bb at *
      cases bb
      · go_wp2_with fail
        refine (H.out _).mono ?_
        rintro r w1 ⟨rfl, k1, rfl⟩
        go_wp2
        go_roundw
        case rel => exact ⟨k + 1, k1, by omega, by go_num, HN.out (by trivial), rfl⟩
        case measure => simp [intOf]; omega
      go_wp2_with fail
      refine (H.out _).mono ?_
      rintro r w1 ⟨rfl, k1, rfl⟩
      go_wp2
      go_ret
      exact ⟨by rw [HY.out (by trivial)]; rfl, k1, rfl⟩
    have HR : Hid (φs.any (fun φ => φ t) = false) := by
      show _ = _
      rw [List.any_eq_false]; intro φ hφ; obtain ⟨m, hm, rfl⟩ := List.getElem_of_mem hφ; rw [NO.out m hm (by have := HL.out; omega)]; decide
    go_wp2
    go_ret
    exact ⟨by rw [HR.out]; rfl, q, rfl⟩
set_option maxHeartbeats 1000000 in
set_option maxRecDepth 100000 in
theorem v_allm {w : World} {sv : Value} {fs : List Value} {φs : List (Tv → Bool)} {B : Nat} (ho : w.ownsRow B 237 1 sv fs.length fs) (hj : fs.length ≤ 1000) (hl : φs.length = fs.length)
    (h : ∀ i (h1 : i < fs.length) (h2 : i < φs.length), CondV w fs[i] φs[i]) {b : Nat} (hb : Blk w b #[sv] 300) : CondV w (.func (.func 278) #[] #[.pointer (some ⟨b, 0, none⟩)]) (fun t => φs.all (fun φ => φ t)) := by
  refine ⟨_, _, rfl, fun _ _ => rfl, fun A D n par ix t ht q => ?_⟩
  have c0 : w.cell? ⟨b, 0, none⟩ = some sv := hb.cell 0
  have HH := hide h
  have HT := hide ht
  obtain ⟨j, hjj⟩ : ∃ j, j = fs.length := ⟨_, rfl⟩
  rw [← hjj] at hj ho hl
  obtain ⟨v0, vcp, rfl⟩ := own_slice ho
  have HO := hide ho
  have HJ := hide hjj
  have HL := hide hl
  clear h hb ht ho hjj hl
  show Calls Tryz.prog 278 #[.pointer (some ⟨A t.d.frm, 0, none⟩), .pointer (some ⟨b, 0, none⟩)] _ _
  go_enter Tryz.func278, Tryz.ntmps278
  go_wp2
  go_loopw [5, 8] (fun _ i wr => ∃ k q : Nat, k ≤ j ∧ i = .int .i64 k ∧ (∀ m (hm : m < φs.length), m < k → φs[m] t = true) ∧ wr = w.drewN q) (fun _ i _ => j - (intOf i).toNat)
  case atStart => exact ⟨0, q, Nat.zero_le _, rfl, fun _ _ h => absurd h (Nat.not_lt_zero _), rfl⟩
  case round =>
    obtain ⟨k, q, hk, rfl, hno, rfl⟩ := hrel
    have NO := hide hno
    clear hno
    by_cases hlt : k < j
    · have hlf : k < fs.length := by have := HJ.out; omega
      have hlp : k < φs.length := by have := HL.out; omega
      obtain ⟨g, cap, hv, hbg, hgl⟩ := HO.out.form (by omega)
      simp only [Value.slice.injEq, true_and] at hv
      obtain ⟨rfl, rfl⟩ := hv
      have hcell : w.cell? ⟨g, k, none⟩ = some fs[k] := (HO.out.cellAt k (by omega)).trans (List.getElem?_eq_getElem hlf)
      obtain ⟨N, cp, he, hE, hN⟩ := HH.out k hlf hlp
      rw [he] at hcell
      have H := hide (hN A D n par ix t HT.out)
      have HY : Hid (φs[k] t = false → φs.all (fun φ => φ t) = false) := fun e => by rw [Bool.eq_false_iff]; intro x; rw [List.all_eq_true] at x; have := x _ (List.getElem_mem hlp); rw [e] at this; cases this
      have HN : Hid (φs[k] t = true → ∀ m (hm : m < φs.length), m < k + 1 → φs[m] t = true) := fun e m hm hmk => by
        by_cases x : m = k
        · subst x; exact e
        exact NO.out m hm (by omega)
      clear hN he
      generalize φs[k] t = bb at *
      cases bb
      · go_wp2_with fail
        refine (H.out _).mono ?_
        rintro r w1 ⟨rfl, k1, rfl⟩
        go_wp2
        go_ret
        exact ⟨by rw [HY.out (by trivial)]; rfl, k1, rfl⟩
      go_wp2_with fail
      refine (H.out _).mono ?_
      rintro r w1 ⟨rfl, k1, rfl⟩
      go_wp2
      go_roundw
      case rel => exact ⟨k + 1, k1, by omega, by go_num, HN.out (by trivial), rfl⟩
      case measure => simp [intOf]; omega
    have HR : Hid (φs.all (fun φ => φ t) = true) := by
      show _ = _
      rw [List.all_eq_true]; intro φ hφ; obtain ⟨m, hm, rfl⟩ := List.getElem_of_mem hφ; exact NO.out m hm (by have := HL.out; omega)
    go_wp2
    go_ret
    exact ⟨by rw [HR.out]; rfl, q, rfl⟩
end Go.Proofs.YtcbadebjpogmlaaGreatDoor
namespace Go.Proofs.YtcbadebjpogmlaaGreatDoor
open Go.RowKit Tr
def StepV (w : World) (f : Value) (st : StA) : Prop := ∃ N cap, f = .func (.func N) #[] cap ∧ (∀ args w, (callFunc N args).run Tryz.prog w = .ok (.enter N args) w) ∧ ∀ (A : Nat → Nat) (D : Nat → Prop) (n : Nat) (par : Value) (ix : Nat) (t : Tv), PT w A D n par ix t →
  ∀ q, Calls Tryz.prog N (#[.pointer (some ⟨A t.d.frm, 0, none⟩)] ++ cap) (w.drewN q) fun r w' => r = .returned (optA A (pickT t st t.ws.length)) ∧ ∃ k, w' = w.drewN k
def LeadV (w : World) (f : Value) (l : List StA) : Prop := ∃ N cap, f = .func (.func N) #[] cap ∧ (∀ args w, (callFunc N args).run Tryz.prog w = .ok (.enter N args) w) ∧ ∀ (A : Nat → Nat) (D : Nat → Prop) (n : Nat) (par : Value) (ix : Nat) (t : Tv), PT w A D n par ix t →
  ∀ q, Calls Tryz.prog N (#[.pointer (some ⟨A t.d.frm, 0, none⟩)] ++ cap) (w.drewN q) fun r w' => r = .returned (optA A (leadT t l)) ∧ ∃ k, w' = w.drewN k
theorem idx_mem {l : List Tv} {n : Int} {u : Tv} (h : idx l n = some u) : u ∈ l := by
  unfold idx at h
  split at h
  · cases h
  exact List.mem_of_getElem? h
theorem pp_mem {t u : Tv} {st : StA} (h : pickT t st t.ws.length = some u) : u ∈ t.ws := by
  unfold pickT at h
  rw [List.take_length] at h
  split at h
  · split at h
    · exact List.mem_of_find?_eq_some h
    cases h
  split at h
  · exact idx_mem h
  cases h
theorem pick_pt {w : World} {A : Nat → Nat} {D : Nat → Prop} {n : Nat} {par : Value} {ix : Nat} {t u : Tv} {st : StA} (h : PT w A D n par ix t) (hp : pickT t st t.ws.length = some u) : ∃ n' par' ix', PT w A D n' par' ix' u := by
  obtain ⟨i, hi, rfl⟩ := List.getElem_of_mem (pp_mem hp)
  exact ⟨_, _, _, h.kid hi⟩
theorem lead_pt {w : World} {A : Nat → Nat} {D : Nat → Prop} {u : Tv} : ∀ (l : List StA) {n : Nat} {par : Value} {ix : Nat} {t : Tv}, PT w A D n par ix t → leadT t l = some u → ∃ n' par' ix', PT w A D n' par' ix' u
  | [], n, par, ix, t, h, hp => by
    cases hp
    exact ⟨n, par, ix, h⟩
  | st :: l, n, par, ix, t, h, hp => by
    unfold leadT at hp
    cases hq : pickT t st t.ws.length with
    | none => rw [hq] at hp; cases hp
    | some v =>
      rw [hq] at hp
      obtain ⟨n', par', ix', h'⟩ := pick_pt h hq
      exact lead_pt l h' hp
theorem lead_app : ∀ (l r : List StA) (t : Tv), leadT t (l ++ r) = (leadT t l).bind (fun u => leadT u r)
  | [], _, _ => rfl
  | st :: l, r, t => by
    show (pickT t st t.ws.length).bind _ = ((pickT t st t.ws.length).bind _).bind _
    cases pickT t st t.ws.length with
    | none => rfl
    | some v => exact lead_app l r v
theorem lead_take {l : List StA} {k : Nat} (hk : k < l.length) (t : Tv) : leadT t (l.take (k + 1)) = (leadT t (l.take k)).bind (fun u => pickT u l[k] u.ws.length) := by
  rw [List.take_succ_eq_append_getElem hk, lead_app]
  congr 1
  funext u
  show (pickT u l[k] u.ws.length).bind (fun v => leadT v []) = _
  cases pickT u l[k] u.ws.length <;> rfl
theorem lead_none {l : List StA} {k : Nat} {t : Tv} (h : leadT t (l.take k) = none) : leadT t l = none := by
  have e := lead_app (l.take k) (l.drop k) t
  rw [List.take_append_drop, h] at e
  exact e
set_option maxHeartbeats 1000000 in
set_option maxRecDepth 100000 in
theorem v_lead {w : World} {sv : Value} {fs : List Value} {l : List StA} {B : Nat} (ho : w.ownsRow B 320 1 sv fs.length fs) (hj : fs.length ≤ 1000) (hl : l.length = fs.length)
    (h : ∀ i (h1 : i < fs.length) (h2 : i < l.length), StepV w fs[i] l[i]) {b : Nat} (hb : Blk w b #[sv] 322) : LeadV w (.func (.func 286) #[] #[.pointer (some ⟨b, 0, none⟩)]) l := by
  refine ⟨_, _, rfl, fun _ _ => rfl, fun A D n par ix t ht q => ?_⟩
  have c0 : w.cell? ⟨b, 0, none⟩ = some sv := hb.cell 0
  have HH := hide h
  have HT := hide ht
  obtain ⟨j, hjj⟩ : ∃ j, j = fs.length := ⟨_, rfl⟩
  rw [← hjj] at hj ho hl
  obtain ⟨v0, vcp, rfl⟩ := own_slice ho
  have HO := hide ho
  have HJ := hide hjj
  have HL := hide hl
  clear h hb ht ho hjj hl
  show Calls Tryz.prog 286 #[.pointer (some ⟨A t.d.frm, 0, none⟩), .pointer (some ⟨b, 0, none⟩)] _ _
  go_enter Tryz.func286, Tryz.ntmps286
  go_wp2
  go_loopw [0, 5, 8] (fun x _ i wr => ∃ (k q n : Nat) (par : Value) (ix : Nat) (u : Tv), k ≤ j ∧ i = .int .i64 k ∧ x = .pointer (some ⟨A u.d.frm, 0, none⟩) ∧ leadT t (l.take k) = some u ∧ PT w A D n par ix u ∧ wr = w.drewN q) (fun _ _ i _ => j - (intOf i).toNat)
  case atStart => exact ⟨0, q, n, par, ix, t, Nat.zero_le _, rfl, rfl, rfl, HT.out, rfl⟩
  case round =>
    obtain ⟨k, q, n, par, ix, u, hk, rfl, rfl, hle, hp, rfl⟩ := hrel
    have LE := hide hle
    have HP := hide hp
    clear hle hp HT
    by_cases hlt : k < j
    · have hlf : k < fs.length := by have := HJ.out; omega
      have hlp : k < l.length := by have := HL.out; omega
      obtain ⟨g, cap, hv, hbg, hgl⟩ := HO.out.form (by omega)
      simp only [Value.slice.injEq, true_and] at hv
      obtain ⟨rfl, rfl⟩ := hv
      have hcell : w.cell? ⟨g, k, none⟩ = some fs[k] := (HO.out.cellAt k (by omega)).trans (List.getElem?_eq_getElem hlf)
      obtain ⟨N, cp, he, hE, hN⟩ := HH.out k hlf hlp
      rw [he] at hcell
      have H := hide (hN A D n par ix u HP.out)
      have HY : Hid (leadT t (l.take (k + 1)) = pickT u l[k] u.ws.length) := by
        show _ = _
        rw [lead_take hlp, LE.out]
        rfl
      have HZ : Hid (∀ v, pickT u l[k] u.ws.length = some v → ∃ n' par' ix', PT w A D n' par' ix' v) := fun v hv => pick_pt HP.out hv
      clear hN he LE
      generalize pickT u l[k] u.ws.length = o at *
      cases o with
      | none =>
        have HR := hide (lead_none HY.out)
        clear HY HZ
        go_wp2_with fail
        refine (H.out _).mono ?_
        rintro r w1 ⟨rfl, k1, rfl⟩
        rw [show optA A none = .pointer none from rfl]
        go_wp2
        go_ret
        exact ⟨by rw [HR.out]; rfl, k1, rfl⟩
      | some v =>
        obtain ⟨n', par', ix', hp'⟩ := HZ.out v (by trivial)
        have HP' := hide hp'
        clear hp' HZ
        go_wp2_with fail
        refine (H.out _).mono ?_
        rintro r w1 ⟨rfl, k1, rfl⟩
        rw [show optA A (some v) = .pointer (some ⟨A v.d.frm, 0, none⟩) from rfl]
        go_wp2
        go_roundw
        case rel => exact ⟨k + 1, k1, n', par', ix', v, by omega, by go_num, rfl, HY.out, HP'.out, rfl⟩
        case measure => simp [intOf]; omega
    have HR : Hid (leadT t l = some u) := by
      have e := LE.out
      rw [List.take_of_length_le (by have := HL.out; omega)] at e
      exact e
    go_wp2
    go_ret
    exact ⟨by rw [HR.out]; rfl, q, rfl⟩
theorem PT.drewN {w : World} {A : Nat → Nat} {D : Nat → Prop} {n : Nat} {par : Value} {ix : Nat} {t : Tv} (h : PT w A D n par ix t) (q : Nat) : PT (w.drewN q) A D n par ix t := PT.keep (w := w) (w' := w.drewN q) (fun _ _ => rfl) _ _ _ _ h
set_option maxHeartbeats 1000000 in
set_option maxRecDepth 100000 in
theorem v_member {w : World} {b : Nat} {nm : ByteArray} (hb : Blk w b #[.string nm] 9) : StepV w (.func (.func 296) #[] #[.pointer (some ⟨b, 0, none⟩)]) ⟨true, bs nm, 0⟩ := by
  refine ⟨_, _, rfl, fun _ _ => rfl, fun A D n par ix t ht q => ?_⟩
  have c0 : w.cell? ⟨b, 0, none⟩ = some (.string nm) := hb.cell 0
  obtain ⟨o, ho⟩ : ∃ o, o = pickT t ⟨true, bs nm, 0⟩ t.ws.length := ⟨_, rfl⟩
  have H : Hid (∀ q, Calls Tryz.prog 297 #[.pointer (some ⟨A t.d.frm, 0, none⟩), .string nm] (w.drewN q) fun r w' => r = .returned (optA A o) ∧ ∃ k, w' = (w.drewN q).drewN k) := fun q => by rw [ho]; exact p_member (ht.drewN q) nm
  rw [← ho]
  clear hb ht ho
  show Calls Tryz.prog 296 #[.pointer (some ⟨A t.d.frm, 0, none⟩), .pointer (some ⟨b, 0, none⟩)] _ _
  go_enter Tryz.func296, Tryz.ntmps296
  go_wp2_with fail
  refine (H.out _).mono ?_
  rintro r w1 ⟨rfl, k1, rfl⟩
  rw [drewN3]
  cases o with
  | none =>
    rw [show optA A none = .pointer none from rfl]
    go_wp2
    go_ret
    exact ⟨rfl, _, rfl⟩
  | some v =>
    rw [show optA A (some v) = .pointer (some ⟨A v.d.frm, 0, none⟩) from rfl]
    go_wp2
    go_ret
    exact ⟨rfl, _, rfl⟩
set_option maxHeartbeats 1000000 in
set_option maxRecDepth 100000 in
theorem v_elem {w : World} {b : Nat} {m : Nat} (hb : Blk w b #[.int .i64 (m : Nat)] 3) : StepV w (.func (.func 302) #[] #[.pointer (some ⟨b, 0, none⟩)]) ⟨false, [], (m : Int)⟩ := by
  refine ⟨_, _, rfl, fun _ _ => rfl, fun A D n par ix t ht q => ?_⟩
  have c0 : w.cell? ⟨b, 0, none⟩ = some (.int .i64 (m : Nat)) := hb.cell 0
  have HT := hide ht
  have E : pickT t ⟨false, [], (m : Int)⟩ t.ws.length = (if t.d.kind = 4 then idx t.ws m else none) := by
    unfold pickT
    rw [List.take_length]
    simp only [Bool.false_eq_true, if_false]
    rw [if_neg (by omega : ¬ (m : Int) < 0)]
  rw [E]
  obtain ⟨o, ho⟩ : ∃ o, o = (if t.d.kind = 4 then idx t.ws m else none) := ⟨_, rfl⟩
  have H : Hid (∀ q, Calls Tryz.prog 301 #[.pointer (some ⟨A t.d.frm, 0, none⟩), .int .i64 (m : Nat)] (w.drewN q) fun r w' => r = .returned (optA A o) ∧ ∃ k, w' = (w.drewN q).drewN k) := fun q => by rw [ho]; exact p_element (ht.drewN q) _
  rw [← ho]
  clear hb ht E HT ho
  show Calls Tryz.prog 302 #[.pointer (some ⟨A t.d.frm, 0, none⟩), .pointer (some ⟨b, 0, none⟩)] _ _
  go_enter Tryz.func302, Tryz.ntmps302
  go_wp2_with fail
  refine (H.out _).mono ?_
  rintro r w1 ⟨rfl, k1, rfl⟩
  rw [drewN3]
  cases o with
  | none =>
    rw [show optA A none = .pointer none from rfl]
    go_wp2
    go_ret
    exact ⟨rfl, _, rfl⟩
  | some v =>
    rw [show optA A (some v) = .pointer (some ⟨A v.d.frm, 0, none⟩) from rfl]
    go_wp2
    go_ret
    exact ⟨rfl, _, rfl⟩
set_option maxHeartbeats 1000000 in
set_option maxRecDepth 100000 in
theorem v_elemEnd {w : World} {b : Nat} {m : Nat} (hm : 0 < m ∧ m ≤ 1000) (hb : Blk w b #[.int .i64 (m : Nat)] 3) : StepV w (.func (.func 300) #[] #[.pointer (some ⟨b, 0, none⟩)]) ⟨false, [], -(m : Int)⟩ := by
  refine ⟨_, _, rfl, fun _ _ => rfl, fun A D n par ix t ht q => ?_⟩
  have c0 : w.cell? ⟨b, 0, none⟩ = some (.int .i64 (m : Nat)) := hb.cell 0
  have HT := hide ht
  obtain ⟨sv, hc⟩ := ht.pc
  have c8 : w.cell? ⟨A t.d.frm, 8, none⟩ = some sv := hc.b.cell 8
  obtain ⟨v0, vcp, rfl⟩ := own_slice hc.o
  have hl := hc.l
  obtain ⟨hm0, hm1⟩ := hm
  have E : pickT t ⟨false, [], -(m : Int)⟩ t.ws.length = (if t.d.kind = 4 then idx t.ws ((t.ws.length : Int) - (m : Int)) else none) := by
    unfold pickT
    rw [List.take_length]
    simp only [Bool.false_eq_true, if_false]
    rw [if_pos (by omega : -(m : Int) < 0), show -(m : Int) + (t.ws.length : Int) = (t.ws.length : Int) - (m : Int) by omega]
  rw [E]
  obtain ⟨o, ho⟩ : ∃ o, o = (if t.d.kind = 4 then idx t.ws ((t.ws.length : Int) - (m : Int)) else none) := ⟨_, rfl⟩
  have H : Hid (∀ W : World, W.heap = w.heap → Calls Tryz.prog 301 #[.pointer (some ⟨A t.d.frm, 0, none⟩), .int .i64 ((t.ws.length : Int) - (m : Int))] W fun r w' => r = .returned (optA A o) ∧ ∃ k, w' = W.drewN k) := fun W hW => by rw [ho]; exact p_element (PT.keep (w := w) (w' := W) (fun _ _ => by rw [hW]) _ _ _ _ ht) _
  rw [← ho]
  have hwr : IntKind.i64.wrap ((t.ws.length : Int) - (m : Int)) = (t.ws.length : Int) - (m : Int) := IntWalk.i64_in _ (by omega)
  clear hb ht E hc HT ho
  show Calls Tryz.prog 300 #[.pointer (some ⟨A t.d.frm, 0, none⟩), .pointer (some ⟨b, 0, none⟩)] _ _
  cases o with
  | none =>
    go_enter Tryz.func300, Tryz.ntmps300
    go_wp2_with fail
    go_region_with (go_at_call 301; refine (H.out _ (by rfl)).mono ?_; rintro r w1 ⟨rfl, k1, rfl⟩; rw [show optA A none = .pointer none from rfl])
    all_goals
      go_wp2
      go_ret
      exact ⟨rfl, _, rfl⟩
  | some v =>
    go_enter Tryz.func300, Tryz.ntmps300
    go_wp2_with fail
    go_region_with (go_at_call 301; refine (H.out _ (by rfl)).mono ?_; rintro r w1 ⟨rfl, k1, rfl⟩; rw [show optA A (some v) = .pointer (some ⟨A v.d.frm, 0, none⟩) from rfl])
    all_goals
      go_wp2
      go_ret
      exact ⟨rfl, _, rfl⟩
set_option maxHeartbeats 1000000 in
set_option maxRecDepth 100000 in
theorem v_there {w : World} {f : Value} {l : List StA} (h : LeadV w f l) {b : Nat} (hb : Blk w b #[f] 320) : CondV w (.func (.func 295) #[] #[.pointer (some ⟨b, 0, none⟩)]) (fun t => (leadT t l).isSome) := by
  obtain ⟨N, cap, rfl, hE, hN⟩ := h
  refine ⟨_, _, rfl, fun _ _ => rfl, fun A D n par ix t ht q => ?_⟩
  have c0 : w.cell? ⟨b, 0, none⟩ = some (.func (.func N) #[] cap) := hb.cell 0
  have H := hide (hN A D n par ix t ht)
  clear hN hb ht
  show Calls Tryz.prog 295 #[.pointer (some ⟨A t.d.frm, 0, none⟩), .pointer (some ⟨b, 0, none⟩)] _ _
  dsimp only
  generalize leadT t l = o at *
  cases o with
  | none =>
    go_enter Tryz.func295, Tryz.ntmps295
    go_wp2_with fail
    refine (H.out _).mono ?_
    rintro r w1 ⟨rfl, k1, rfl⟩
    rw [show optA A none = .pointer none from rfl]
    go_wp2
    go_ret
    exact ⟨rfl, k1, rfl⟩
  | some v =>
    go_enter Tryz.func295, Tryz.ntmps295
    go_wp2_with fail
    refine (H.out _).mono ?_
    rintro r w1 ⟨rfl, k1, rfl⟩
    rw [show optA A (some v) = .pointer (some ⟨A v.d.frm, 0, none⟩) from rfl]
    go_wp2
    go_ret
    exact ⟨rfl, k1, rfl⟩
set_option maxHeartbeats 1000000 in
set_option maxRecDepth 100000 in
theorem v_equal {w : World} {f : Value} {l : List StA} (h : LeadV w f l) {b b2 bc : Nat} {c : Kt} {sc pc : Value} (hb : Blk w b #[f] 320) (hb2 : Blk w b2 #[.pointer (some ⟨bc, 0, none⟩)] 71) (hbc : Blk w bc (pcl (kDat c) pc 0 sc) 130) (hc : KOk c) :
    CondV w (.func (.func 291) #[] #[.pointer (some ⟨b, 0, none⟩), .pointer (some ⟨b2, 0, none⟩)]) (fun t => sameT c (leadT t l)) := by
  obtain ⟨N, cap, rfl, hE, hN⟩ := h
  refine ⟨_, _, rfl, fun _ _ => rfl, fun A D n par ix t ht q => ?_⟩
  have c0 : w.cell? ⟨b, 0, none⟩ = some (.func (.func N) #[] cap) := hb.cell 0
  have c1 : w.cell? ⟨b2, 0, none⟩ = some (.pointer (some ⟨bc, 0, none⟩)) := hb2.cell 0
  have H := hide (hN A D n par ix t ht)
  have HT := hide ht
  have HBC := hide hbc
  have HZ : Hid (∀ v, leadT t l = some v → ∃ n' par' ix', PT w A D n' par' ix' v) := fun v hv => lead_pt l ht hv
  clear hN hb hb2 ht hbc
  show Calls Tryz.prog 291 #[.pointer (some ⟨A t.d.frm, 0, none⟩), .pointer (some ⟨b, 0, none⟩), .pointer (some ⟨b2, 0, none⟩)] _ _
  dsimp only
  generalize leadT t l = o at *
  cases o with
  | none =>
    clear HZ
    go_enter Tryz.func291, Tryz.ntmps291
    go_wp2_with fail
    refine (H.out _).mono ?_
    rintro r w1 ⟨rfl, k1, rfl⟩
    rw [show optA A none = .pointer none from rfl]
    go_wp2
    go_ret
    exact ⟨rfl, k1, rfl⟩
  | some v =>
    obtain ⟨n', par', ix', hp'⟩ := HZ.out v rfl
    obtain ⟨sv, hpc⟩ := (hp'.drewN 0).pc
    have HPC : Hid (∀ k, PC (w.drewN k) A v par' ix' sv) := fun k => ⟨hpc.b, own_at' hpc.o (fun _ _ => rfl), hpc.d, hpc.l⟩
    have KOK := hide hc
    clear hp' HZ hpc HT hc
    go_enter Tryz.func291, Tryz.ntmps291
    go_wp2_with fail
    refine (H.out _).mono ?_
    rintro r w1 ⟨rfl, k1, rfl⟩
    rw [show optA A (some v) = .pointer (some ⟨A v.d.frm, 0, none⟩) from rfl]
    go_wp2_with fail
    refine (p_equal (HPC.out k1) (b := bc) (c := c) HBC.out KOK.out).mono ?_
    rintro r w2 ⟨rfl, k2, rfl⟩
    rw [drewN3]
    go_wp2
    go_ret
    exact ⟨rfl, _, rfl⟩
set_option maxHeartbeats 1000000 in
set_option maxRecDepth 100000 in
theorem v_less {w : World} {f : Value} {l : List StA} (h : LeadV w f l) {b b2 bc : Nat} {c : Kt} {sc pc : Value} (hb : Blk w b #[f] 320) (hb2 : Blk w b2 #[.pointer (some ⟨bc, 0, none⟩)] 71) (hbc : Blk w bc (pcl (kDat c) pc 0 sc) 130) (hc : KOk c) :
    CondV w (.func (.func 293) #[] #[.pointer (some ⟨b, 0, none⟩), .pointer (some ⟨b2, 0, none⟩)]) (fun t => lessT c (leadT t l)) := by
  obtain ⟨N, cap, rfl, hE, hN⟩ := h
  refine ⟨_, _, rfl, fun _ _ => rfl, fun A D n par ix t ht q => ?_⟩
  have c0 : w.cell? ⟨b, 0, none⟩ = some (.func (.func N) #[] cap) := hb.cell 0
  have c1 : w.cell? ⟨b2, 0, none⟩ = some (.pointer (some ⟨bc, 0, none⟩)) := hb2.cell 0
  have H := hide (hN A D n par ix t ht)
  have HT := hide ht
  have HBC := hide hbc
  have HZ : Hid (∀ v, leadT t l = some v → ∃ n' par' ix', PT w A D n' par' ix' v) := fun v hv => lead_pt l ht hv
  clear hN hb hb2 ht hbc
  show Calls Tryz.prog 293 #[.pointer (some ⟨A t.d.frm, 0, none⟩), .pointer (some ⟨b, 0, none⟩), .pointer (some ⟨b2, 0, none⟩)] _ _
  dsimp only
  generalize leadT t l = o at *
  cases o with
  | none =>
    clear HZ
    go_enter Tryz.func293, Tryz.ntmps293
    go_wp2_with fail
    refine (H.out _).mono ?_
    rintro r w1 ⟨rfl, k1, rfl⟩
    rw [show optA A none = .pointer none from rfl]
    go_wp2
    go_ret
    exact ⟨rfl, k1, rfl⟩
  | some v =>
    obtain ⟨n', par', ix', hp'⟩ := HZ.out v rfl
    obtain ⟨sv, hpc⟩ := (hp'.drewN 0).pc
    have HPC : Hid (∀ k, PC (w.drewN k) A v par' ix' sv) := fun k => ⟨hpc.b, own_at' hpc.o (fun _ _ => rfl), hpc.d, hpc.l⟩
    have KOK := hide hc
    clear hp' HZ hpc HT hc
    go_enter Tryz.func293, Tryz.ntmps293
    go_wp2_with fail
    refine (H.out _).mono ?_
    rintro r w1 ⟨rfl, k1, rfl⟩
    rw [show optA A (some v) = .pointer (some ⟨A v.d.frm, 0, none⟩) from rfl]
    go_wp2_with fail
    refine (p_less (HPC.out k1) (b := bc) (c := c) HBC.out KOK.out).mono ?_
    rintro r w2 ⟨rfl, k2, rfl⟩
    rw [drewN3]
    go_wp2
    go_ret
    exact ⟨rfl, _, rfl⟩
end Go.Proofs.YtcbadebjpogmlaaGreatDoor
namespace Go.Proofs.YtcbadebjpogmlaaGreatDoor
open Go.RowKit Tr
def Sm (D : Nat → Prop) (w w' : World) : Prop := ∀ k, D k → w'.heap[k]? = w.heap[k]?
def OkD (D : Nat → Prop) (w : World) (P : World → Prop) : Prop := ∀ w', Sm D w w' → P w'
structure Ft (D : Nat → Prop) (B : Nat) (w : World) : Prop where
  ge : ∀ k, D k → B ≤ k
  ty : ∀ k, D k → ∃ cs T fz, w.heap[k]? = some (.cells cs T fz) ∧ T ≠ 5
theorem Ft.lt {D : Nat → Prop} {B : Nat} {w : World} (h : Ft D B w) {k : Nat} (hk : D k) : k < w.heap.size := by
  obtain ⟨cs, T, fz, h1, _⟩ := h.ty k hk
  exact lt_of_some h1
theorem Ft.keep {D : Nat → Prop} {B : Nat} {w w' : World} (h : Ft D B w) (s : Sm D w w') : Ft D B w' := ⟨h.ge, fun k hk => by rw [s k hk]; exact h.ty k hk⟩
theorem Ft.low {D : Nat → Prop} {B B' : Nat} {w : World} (h : Ft D B w) (hb : B' ≤ B) : Ft D B' w := ⟨fun k hk => Nat.le_trans hb (h.ge k hk), h.ty⟩
theorem Ft.or {D D' : Nat → Prop} {B : Nat} {w : World} (h : Ft D B w) (h' : Ft D' B w) : Ft (fun k => D k ∨ D' k) B w :=
  ⟨fun k hk => hk.elim (h.ge k) (h'.ge k), fun k hk => hk.elim (h.ty k) (h'.ty k)⟩
theorem Ft.none (B : Nat) (w : World) : Ft (fun _ => False) B w := ⟨fun _ h => h.elim, fun _ h => h.elim⟩
theorem Ft.one {w : World} {b B : Nat} {cs : Array Value} {T : TypeId} (h : Blk w b cs T) (hT : T ≠ 5) (hb : B ≤ b) : Ft (fun k => k = b) B w :=
  ⟨fun k hk => by omega, fun k hk => by subst hk; exact ⟨cs, T, _, h, hT⟩⟩
theorem OkD.self {D : Nat → Prop} {w : World} {P : World → Prop} (h : OkD D w P) : P w := h w (fun _ _ => rfl)
theorem OkD.keep {D : Nat → Prop} {w w' : World} {P : World → Prop} (h : OkD D w P) (s : Sm D w w') : OkD D w' P := fun w'' s' => h w'' (fun k hk => (s' k hk).trans (s k hk))
theorem OkD.more {D D' : Nat → Prop} {w : World} {P : World → Prop} (h : OkD D w P) (hd : ∀ k, D k → D' k) : OkD D' w P := fun w' s => h w' (fun k hk => s k (hd k hk))
theorem Sm.fr {K : Nat → Prop} {D : Nat → Prop} {B : Nat} {w w' : World} (h : Ft D B w) (f : Fr K w w') (hk : ∀ k, B ≤ k → ¬ K k) : Sm D w w' := fun k hd => f.block k (h.lt hd) (hk k (h.ge k hd))
theorem Sm.grown {D : Nat → Prop} {B : Nat} {w w' : World} (h : Ft D B w) {row : Option Nat} (hg : w.grownBy w' row) (hr : ∀ k, D k → row ≠ some k) : Sm D w w' := fun k hd => hg.block k (h.lt hd) (fun e => hr k hd e.symm)
theorem Blk.sm {D : Nat → Prop} {w w' : World} {b : Nat} {cs : Array Value} {T : TypeId} (h : Blk w b cs T) (s : Sm D w w') (hd : D b) : Blk w' b cs T := (s b hd).trans h
structure Row (T : TypeId) (B : Nat) (P : Nat → World → Value → Prop) (D : Nat → Prop) (sv : Value) (fs : List Value) (w : World) : Prop where
  o : w.ownsRow B T 1 sv fs.length fs
  ft : Ft D B w
  ne : ∀ k, D k → sv.ownBlock ≠ some k
  ok : ∀ i (h : i < fs.length), OkD D w (fun w' => P i w' fs[i])
theorem Row.fr {K : Nat → Prop} {T : TypeId} {B : Nat} {P : Nat → World → Value → Prop} {D : Nat → Prop} {sv : Value} {fs : List Value} {w w' : World} (h : Row T B P D sv fs w) (f : Fr K w w') (hk : ∀ k, B ≤ k → ¬ K k) : Row T B P D sv fs w' := by
  have s := Sm.fr h.ft f hk
  refine ⟨?_, h.ft.keep s, h.ne, fun i hi => (h.ok i hi).keep s⟩
  refine ⟨h.o.1, ?_⟩
  rcases h.o.2 with x | ⟨k, cap, cur, h1, h2, h3, h4⟩
  · exact Or.inl x
  exact Or.inr ⟨k, cap, cur, h1, h2, (f.block k (lt_of_some h3) (hk k h2)).trans h3, h4⟩
theorem Row.below {T : TypeId} {B : Nat} {P : Nat → World → Value → Prop} {D : Nat → Prop} {sv : Value} {fs : List Value} {w w' : World} (h : Row T B P D sv fs w) (f : Below w.heap.size w w') : Row T B P D sv fs w' :=
  h.fr (K := fun _ => False) (Fr.of_below f) (fun _ _ x => x)
theorem Row.low {T : TypeId} {B B' : Nat} {P : Nat → World → Value → Prop} {D : Nat → Prop} {sv : Value} {fs : List Value} {w : World} (h : Row T B P D sv fs w) (hb : B' ≤ B) : Row T B' P D sv fs w := by
  refine ⟨?_, h.ft.low hb, h.ne, h.ok⟩
  refine ⟨h.o.1, ?_⟩
  rcases h.o.2 with x | ⟨k, cap, cur, h1, h2, h3⟩
  · exact Or.inl x
  exact Or.inr ⟨k, cap, cur, h1, Nat.le_trans hb h2, h3⟩
theorem Row.nil (T : TypeId) (B : Nat) (P : Nat → World → Value → Prop) (w : World) : Row T B P (fun _ => False) (.slice none 0 0) [] w :=
  ⟨World.ownsRow_nil _ _ _ _, Ft.none _ _, fun _ h => h.elim, fun _ h => absurd h (Nat.not_lt_zero _)⟩
theorem Row.one {T : TypeId} {B : Nat} {P : Nat → World → Value → Prop} {D : Nat → Prop} {f : Value} {w : World} (hB : B ≤ w.heap.size) (ft : Ft D B w) (ok : OkD D w (fun w' => P 0 w' f)) :
    Row T B P D (.slice (some ⟨w.heap.size, 0, none⟩) 1 1) [f] (w.alloc (.cells #[f] T)) := by
  have s : Sm D w (w.alloc (.cells #[f] T)) := Sm.fr (K := fun _ => False) ft ((Fr.refl _ w).alloc _) (fun _ _ x => x)
  refine ⟨⟨rfl, Or.inr ⟨w.heap.size, 1, #[f], rfl, hB, heap_alloc_new w _, Nat.le_refl _, by unfold maxLen; decide, rfl, rfl⟩⟩, ft.keep s, fun k hk e => ?_, fun i hi => ?_⟩
  · have h1 := ft.lt hk
    have h2 : w.heap.size = k := Option.some.inj e
    omega
  have e : i = 0 := by simpa using hi
  subst e
  exact ok.keep s
theorem Row.push {T : TypeId} {B : Nat} {P : Nat → World → Value → Prop} {D D2 : Nat → Prop} {sv sv' : Value} {fs : List Value} {f : Value} {W W' : World} {A : Nat} (h : Row T B P D sv fs W) (hA : ∀ k, sv.ownBlock = some k → k < A) (hBA : B ≤ A)
    (ft : Ft D2 A W) (ok : OkD D2 W (fun w' => P fs.length w' f)) (ho : W'.ownsRow B T 1 sv' (fs.length + 1) (fs ++ [f])) (hg : W.grownBy W' sv.ownBlock) (hb : sv'.ownBlock = sv.ownBlock ∨ sv'.ownBlock = some W.heap.size) :
    Row T B P (fun k => D k ∨ D2 k) sv' (fs ++ [f]) W' := by
  have n2 : ∀ k, D2 k → sv.ownBlock ≠ some k := fun k hk e => by have h1 := hA k e; have h2 := ft.ge k hk; omega
  have s1 : Sm D W W' := Sm.grown h.ft hg h.ne
  have s2 : Sm D2 W W' := Sm.grown ft hg n2
  refine ⟨by simpa using ho, (h.ft.keep s1).or ((ft.keep s2).low hBA), fun k hk e => ?_, fun i hi => ?_⟩
  · rcases hb with x | x
    · rw [x] at e
      exact hk.elim (fun y => h.ne k y e) (fun y => n2 k y e)
    rw [x] at e
    have e2 : W.heap.size = k := Option.some.inj e
    have : k < W.heap.size := hk.elim (fun y => h.ft.lt y) (fun y => ft.lt y)
    omega
  by_cases hl : i < fs.length
  · have := ((h.ok i hl).keep s1).more (D' := fun k => D k ∨ D2 k) (fun k => Or.inl)
    rw [show (fs ++ [f])[i] = fs[i] from List.getElem_append_left hl]
    exact this
  have e : i = fs.length := by simp at hi; omega
  subst e
  have := (ok.keep s2).more (D' := fun k => D k ∨ D2 k) (fun k => Or.inr)
  rw [show (fs ++ [f])[fs.length] = f by simp]
  exact this
end Go.Proofs.YtcbadebjpogmlaaGreatDoor
namespace Go.Proofs.YtcbadebjpogmlaaGreatDoor
open Go.RowKit Tr
theorem cnt_eq2 {q : ByteArray} {t : St} {m : Bool} (he : t.e = 0) (he0 : (countQ (bs q) t m).e = 0) (hnd : isDig (bt (bs q) (countQ (bs q) t m).p) = false)
    {k : Nat} (hk : RunP isDig q t.p k) : countQ (bs q) t m = { t with p := k } ∧ k ≤ t.p + 3 := by
  unfold countQ at hnd he0 ⊢
  split at hnd
  · rename_i hc
    rw [if_pos hc] at he0
    simp [wrong, he] at he0
  rename_i hc
  rw [if_neg hc] at he0
  rw [if_neg hc]
  have hd : isDig (bt (bs q) t.p) = true := by
    simp only [not_or] at hc
    have := hc.1
    simpa [digit, he] using this
  split at hnd
  · rename_i h48
    rw [if_pos h48]
    have e1 : run isDig (bs q) 1 t.p = t.p + 1 := by simp [run, hd]
    have := run_of (K := 1) hk (by decide) (by rw [e1]; exact hnd)
    rw [e1] at this
    subst this
    exact ⟨rfl, by omega⟩
  rename_i h48
  rw [if_neg h48]
  have e1 : (runP isDig (bs q) 3 t) = { t with p := run isDig (bs q) 3 t.p } := by unfold runP; rw [if_pos he]
  rw [e1] at hnd ⊢
  have := run_of (K := 3) hk (by decide) hnd
  have h3 := run_le isDig (bs q) 3 t.p
  rw [this] at h3 ⊢
  exact ⟨rfl, h3⟩
def FnP (g : Nat) (q : ByteArray) (p v : Value) (n : Nat) (w0 : World) (a : Nat) (P : World → Value → Prop) (r : Ending) (w' : World) : Prop := (∃ f D, r = .returned f ∧ Ft D w0.heap.size w' ∧ OkD D w' (fun w'' => P w'' f)) ∧ Qt g q p v n w0 a w'
theorem cnt_head {s : List UInt8} {t : St} {m : Bool} (he : t.e = 0) (h0 : (countQ s t m).e = 0) : isDig (bt s t.p) = true ∧ (m = true → bt s t.p ≠ 48) := by
  unfold countQ at h0
  split at h0
  · simp [wrong, he] at h0
  rename_i hc
  simp only [not_or, not_and] at hc
  refine ⟨by have := hc.1; simpa [digit, he] using this, fun hm x => ?_⟩
  have := hc.2 hm
  simp [sees, he, x] at this
set_option maxHeartbeats 1000000 in
theorem el_minus {w0 w : World} {g : Nat} {q : ByteArray} {a : Nat} {p v : Value} {n : Nat} (h : Qt g q p v n w0 a w) (hq : q.size ≤ 1000) (T0 : tk q a ⟨#[45]⟩ = true) (he : Er g w0) (h18 : ∀ k, RunP isDig q (a + 1) k → k ≤ a + 1 + 18) :
    Calls Tryz.prog 288 #[.pointer (some ⟨g, 0, none⟩)] w (fun r w' => ∃ k, RunP isDig q (a + 1) k ∧ (0 < cVal (bs q) (a + 1) k ∧ cVal (bs q) (a + 1) k ≤ 1000 → FnP g q p v n w0 k (fun w f => StepV w f ⟨false, [], -(cVal (bs q) (a + 1) k : Int)⟩) r w')) := by
  have H := hide h
  have HE := hide he
  have H18 := hide h18
  clear he h18
  clear h
  go_enter Tryz.func288, Tryz.ntmps288
  go_wp2_with fail
  refine (c_yes H.out hq _ T0 (a + 1) rfl).mono ?_
  rintro r w1 ⟨rfl, h1⟩
  clear H
  have H := hide h1
  clear h1
  go_wp2_with fail
  refine (k_count H.out hq HE.out H18.out _).mono ?_
  rintro r w1 ⟨k, m, ⟨hk, hm⟩, rfl, h1⟩
  rw [cVal_if] at hm
  subst hm
  have HK := hide hk
  clear H hk
  have H := hide h1
  clear h1
  go_wp2
  go_ret
  refine ⟨k, HK.out, fun hb => ⟨⟨_, fun x => x = w1.heap.size, rfl, Ft.one (Blk.new _ _ _) (by decide) H.out.f.size, fun w'' s => ?_⟩, H.out.alloc _⟩⟩
  exact v_elemEnd hb ((Blk.new w1 _ _).sm s rfl)
set_option maxHeartbeats 1000000 in
theorem el_plain {w0 w : World} {g : Nat} {q : ByteArray} {a : Nat} {p v : Value} {n : Nat} (h : Qt g q p v n w0 a w) (hq : q.size ≤ 1000) (T0 : tk q a ⟨#[45]⟩ = false) (he : Er g w0) (h18 : ∀ k, RunP isDig q a k → k ≤ a + 18) :
    Calls Tryz.prog 288 #[.pointer (some ⟨g, 0, none⟩)] w (fun r w' => ∃ k, RunP isDig q a k ∧ FnP g q p v n w0 k (fun w f => StepV w f ⟨false, [], (cVal (bs q) a k : Int)⟩) r w') := by
  have H := hide h
  have HE := hide he
  have H18 := hide h18
  clear he h18
  clear h
  go_enter Tryz.func288, Tryz.ntmps288
  go_wp2_with fail
  refine (c_no H.out hq _ T0).mono ?_
  rintro r w1 ⟨rfl, h1⟩
  clear H
  have H := hide h1
  clear h1
  go_wp2_with fail
  refine (k_count H.out hq HE.out H18.out _).mono ?_
  rintro r w1 ⟨k, m, ⟨hk, hm⟩, rfl, h1⟩
  rw [cVal_if] at hm
  subst hm
  have HK := hide hk
  clear H hk
  have H := hide h1
  clear h1
  go_wp2
  go_ret
  refine ⟨k, HK.out, ⟨_, fun x => x = w1.heap.size, rfl, Ft.one (Blk.new _ _ _) (by decide) H.out.f.size, fun w'' s => ?_⟩, H.out.alloc _⟩
  exact v_elem ((Blk.new w1 _ _).sm s rfl)
end Go.Proofs.YtcbadebjpogmlaaGreatDoor
