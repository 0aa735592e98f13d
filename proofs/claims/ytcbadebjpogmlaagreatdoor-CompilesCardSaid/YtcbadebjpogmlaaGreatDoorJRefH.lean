/- The reference reader's selector: what it leaves of the reader's block, by the machine. -/
import Derived.Test.YtcbadebjpogmlaaGreatDoorJRefF
import Derived.Test.YtcbadebjpogmlaaGreatDoorJa
namespace Go.Proofs.YtcbadebjpogmlaaGreatDoor
open Go.RowKit Tr

/-- A selector, as a value. -/
def SelV (v : Value) : Prop := ∃ (k nn fr to : Int) (nm : ByteArray) (wh : Option Addr), v = .agg #[.int .i64 k, .string nm, .int .i64 nn, .int .i64 fr, .int .i64 to, .pointer wh]

theorem nb_colon : nb ⟨#[58]⟩ = [58] := rfl

theorem Rd.set6 {b : Nat} {s : ByteArray} {w w' : World} {t : St} (h : Rd b s w t w') (hb : b < w.heap.size) (g : Nat) (hg : w.heap.size ≤ g) (x0 x1 x2 x3 x4 x5 : Value) :
    Rd b s w t ((((((w'.setCell ⟨g, 0, none⟩ x0).setCell ⟨g, 1, none⟩ x1).setCell ⟨g, 2, none⟩ x2).setCell ⟨g, 3, none⟩ x3).setCell ⟨g, 4, none⟩ x4).setCell ⟨g, 5, none⟩ x5) :=
  (((((h.setOwn hb g 0 hg x0).setOwn hb g 1 hg x1).setOwn hb g 2 hg x2).setOwn hb g 3 hg x3).setOwn hb g 4 hg x4).setOwn hb g 5 hg x5

set_option maxHeartbeats 1000000 in
theorem ret_sel {R : Ending → World → Prop} {a : Act} {W : World} {g : Nat} {x0 x1 x2 x3 x4 x5 : Value} (hd : a.defers = []) (ha : a.tmps[2]?.getD undef = .pointer (some ⟨g, 0, none⟩))
    (hB : Blk W g #[x0, x1, x2, x3, x4, x5] 189) (hR : R (.returned (.agg #[x0, x1, x2, x3, x4, x5])) W) : bodyPost Tryz.prog Tryz.f94 R .ret a W := by
  have k0 := hB.cell 0
  have k1 := hB.cell 1
  have k2 := hB.cell 2
  have k3 := hB.cell 3
  have k4 := hB.cell 4
  have k5 := hB.cell 5
  simp at k0 k1 k2 k3 k4 k5
  refine bodyPost_ret (v := .agg #[x0, x1, x2, x3, x4, x5]) ?_ hd hR
  simp [results, Tryz.results94, go_sem, ha, k0, k1, k2, k3, k4, k5]

set_option maxRecDepth 100000 in
set_option maxHeartbeats 4000000 in
theorem c_selector_star {w : World} {b : Nat} {s : ByteArray} {t : St} {q c : Nat} (h : HasM w b s t) (hs : s.size ≤ 120) (hok : Ok (bs s) q c 6 [] 0 t) (h1 : sees (bs s) t 42 = true) :
    Calls Tryz.prog 94 #[.pointer (some ⟨b, 0, none⟩)] w fun r w' => ∃ v t', r = .returned v ∧ SelV v ∧ Rd b s w t' w' ∧ Ok (bs s) q c 9 [] 0 t' := by
  have hbw := h.lt
  have HR := hide ((Rd.same h).alloc (.cells #[.int .i64 0, .string ⟨#[]⟩, .int .i64 0, .int .i64 0, .int .i64 0, .pointer none] 189))
  have B0 := hide (Blk.new w #[.int .i64 0, .string ⟨#[]⟩, .int .i64 0, .int .i64 0, .int .i64 0, .pointer none] 189)
  have HO := hide hok
  have H1 := hide h1
  clear h hok h1
  go_enter Tryz.func94, Tryz.ntmps94
  go_wp2_with fail
  refine (c_has HR.out.m 42 42 rfl (by omega) hs).mono ?_
  rintro r v1 ⟨rfl, g1⟩
  rw [H1.out]
  have e1 : has (bs s) t 42 = adv t := by simp [has, H1.out]
  rw [e1] at g1
  have R1 := hide (HR.out.trans g1)
  have B1 := hide (B0.out.rd g1 hbw)
  clear g1 e1
  have hf := B1.out.fz
  have k0 := B1.out.cell 0
  have k1 := B1.out.cell 1
  have k2 := B1.out.cell 2
  have k3 := B1.out.cell 3
  have k4 := B1.out.cell 4
  have k5 := B1.out.cell 5
  simp at k0 k1 k2 k3 k4 k5
  go_wp2
  refine ret_sel rfl rfl ((((((B1.out.set 0 _).set 1 _).set 2 _).set 3 _).set 4 _).set 5 _) ?_
  refine ⟨_, _, rfl, ⟨_, _, _, _, _, _, rfl⟩, ?_, sel_star HO.out H1.out⟩
  exact R1.out.set6 hbw _ (Nat.le_refl _) _ _ _ _ _ _

set_option maxRecDepth 100000 in
set_option maxHeartbeats 4000000 in
theorem c_selector_quote {w : World} {b : Nat} {s : ByteArray} {t : St} {q c : Nat} (h : HasM w b s t) (hs : s.size ≤ 120) (hok : Ok (bs s) q c 6 [] 0 t) (h1 : sees (bs s) t 42 = false) (h2 : sees (bs s) t 39 = true) :
    Calls Tryz.prog 94 #[.pointer (some ⟨b, 0, none⟩)] w fun r w' => ∃ v t', r = .returned v ∧ SelV v ∧ Rd b s w t' w' ∧ Ok (bs s) q c 9 [] 0 t' := by
  have hbw := h.lt
  have hle := hok.le
  rw [bs_len] at hle
  have HR := hide ((Rd.same h).alloc (.cells #[.int .i64 0, .string ⟨#[]⟩, .int .i64 0, .int .i64 0, .int .i64 0, .pointer none] 189))
  have B0 := hide (Blk.new w #[.int .i64 0, .string ⟨#[]⟩, .int .i64 0, .int .i64 0, .int .i64 0, .pointer none] 189)
  have HO := hide hok
  have H1 := hide h1
  have H2 := hide h2
  clear h hok h1 h2
  go_enter Tryz.func94, Tryz.ntmps94
  go_wp2_with fail
  refine (c_has HR.out.m 42 42 rfl (by omega) hs).mono ?_
  rintro r v1 ⟨rfl, gg⟩
  rw [H1.out]
  have e1 : has (bs s) t 42 = t := by simp [has, H1.out]
  rw [e1] at gg
  have R1 := hide (HR.out.trans gg)
  have B1 := hide (B0.out.rd gg hbw)
  clear gg e1
  go_wp2_with fail
  refine (k_sees R1.out.m 39 39 rfl (by omega)).mono ?_
  rintro r v2 ⟨rfl, gg⟩
  rw [H2.out]
  have R2 := hide (R1.out.trans gg)
  have B2 := hide (B1.out.rd gg hbw)
  clear gg
  go_wp2_with fail
  refine (c_quote R2.out.m hs hle).mono ?_
  rintro r v3 ⟨rfl, gg⟩
  have R3 := hide (R2.out.trans gg)
  have B3 := hide (B2.out.rd gg hbw)
  clear gg
  have hf := B3.out.fz
  have k0 := B3.out.cell 0
  have k1 := B3.out.cell 1
  have k2 := B3.out.cell 2
  have k3 := B3.out.cell 3
  have k4 := B3.out.cell 4
  have k5 := B3.out.cell 5
  simp at k0 k1 k2 k3 k4 k5
  go_wp2
  refine ret_sel rfl rfl ((((((B3.out.set 0 _).set 1 _).set 2 _).set 3 _).set 4 _).set 5 _) ?_
  refine ⟨_, _, rfl, ⟨_, _, _, _, _, _, rfl⟩, ?_, sel_quote HO.out H2.out⟩
  exact R3.out.set6 hbw _ (Nat.le_refl _) _ _ _ _ _ _

set_option maxRecDepth 100000 in
set_option maxHeartbeats 4000000 in
theorem c_selector_where {w : World} {b : Nat} {s : ByteArray} {t : St} {q c : Nat} (h : HasM w b s t) (hs : s.size ≤ 120) (hok : Ok (bs s) q c 6 [] 0 t) (h1 : sees (bs s) t 42 = false) (h2 : sees (bs s) t 39 = false) (h3 : sees (bs s) t 63 = true) :
    Calls Tryz.prog 94 #[.pointer (some ⟨b, 0, none⟩)] w fun r w' => ∃ v t', r = .returned v ∧ SelV v ∧ Rd b s w t' w' ∧ Ok (bs s) q c 9 [] 0 t' := by
  have hbw := h.lt
  have hle := hok.le
  rw [bs_len] at hle
  have HR := hide ((Rd.same h).alloc (.cells #[.int .i64 0, .string ⟨#[]⟩, .int .i64 0, .int .i64 0, .int .i64 0, .pointer none] 189))
  have B0 := hide (Blk.new w #[.int .i64 0, .string ⟨#[]⟩, .int .i64 0, .int .i64 0, .int .i64 0, .pointer none] 189)
  have HO := hide hok
  have H1 := hide h1
  have H2 := hide h2
  have H3 := hide h3
  clear h hok h1 h2 h3
  go_enter Tryz.func94, Tryz.ntmps94
  go_wp2_with fail
  refine (c_has HR.out.m 42 42 rfl (by omega) hs).mono ?_
  rintro r v1 ⟨rfl, gg⟩
  rw [H1.out]
  have e1 : has (bs s) t 42 = t := by simp [has, H1.out]
  rw [e1] at gg
  have R1 := hide (HR.out.trans gg)
  have B1 := hide (B0.out.rd gg hbw)
  clear gg e1
  go_wp2_with fail
  refine (k_sees R1.out.m 39 39 rfl (by omega)).mono ?_
  rintro r v2 ⟨rfl, gg⟩
  rw [H2.out]
  have R2 := hide (R1.out.trans gg)
  have B2 := hide (B1.out.rd gg hbw)
  clear gg
  go_wp2_with fail
  refine (c_has R2.out.m 63 63 rfl (by omega) hs).mono ?_
  rintro r v3 ⟨rfl, gg⟩
  rw [H3.out]
  have e1 : has (bs s) t 63 = adv t := by simp [has, H3.out]
  rw [e1] at gg
  have R3 := hide (R2.out.trans gg)
  have B3 := hide (B2.out.rd gg hbw)
  clear gg e1
  go_wp2_with fail
  refine (c_or R3.out.m hs (sel_where HO.out H3.out) rfl (by omega) rfl).mono ?_
  rintro r v4 ⟨g4, u4, rfl, gg, o4, n4⟩
  have R4 := hide (R3.out.trans gg)
  have B4 := hide (B3.out.rd gg hbw)
  have O4 := hide (ok_where o4 n4)
  clear gg o4 n4
  have hf := B4.out.fz
  have k0 := B4.out.cell 0
  have k1 := B4.out.cell 1
  have k2 := B4.out.cell 2
  have k3 := B4.out.cell 3
  have k4 := B4.out.cell 4
  have k5 := B4.out.cell 5
  simp at k0 k1 k2 k3 k4 k5
  go_wp2
  refine ret_sel rfl rfl ((((((B4.out.set 0 _).set 1 _).set 2 _).set 3 _).set 4 _).set 5 _) ?_
  refine ⟨_, _, rfl, ⟨_, _, _, _, _, _, rfl⟩, ?_, O4.out⟩
  exact R4.out.set6 hbw _ (Nat.le_refl _) _ _ _ _ _ _

set_option maxRecDepth 100000 in
set_option maxHeartbeats 4000000 in
theorem c_selector_minus {w : World} {b : Nat} {s : ByteArray} {t : St} {q c : Nat} (h : HasM w b s t) (hs : s.size ≤ 120) (hok : Ok (bs s) q c 6 [] 0 t) (h1 : sees (bs s) t 42 = false) (h2 : sees (bs s) t 39 = false) (h3 : sees (bs s) t 63 = false) (h4 : sees (bs s) t 45 = true) (h5 : sees (bs s) t 58 = false) :
    Calls Tryz.prog 94 #[.pointer (some ⟨b, 0, none⟩)] w fun r w' => ∃ v t', r = .returned v ∧ SelV v ∧ Rd b s w t' w' ∧ Ok (bs s) q c 9 [] 0 t' := by
  have hbw := h.lt
  have hle := hok.le
  rw [bs_len] at hle
  have HR := hide ((Rd.same h).alloc (.cells #[.int .i64 0, .string ⟨#[]⟩, .int .i64 0, .int .i64 0, .int .i64 0, .pointer none] 189))
  have B0 := hide (Blk.new w #[.int .i64 0, .string ⟨#[]⟩, .int .i64 0, .int .i64 0, .int .i64 0, .pointer none] 189)
  have HO := hide hok
  have H1 := hide h1
  have H2 := hide h2
  have H3 := hide h3
  have H4 := hide h4
  have H5 := hide h5
  clear h hok h1 h2 h3 h4 h5
  go_enter Tryz.func94, Tryz.ntmps94
  go_wp2_with fail
  refine (c_has HR.out.m 42 42 rfl (by omega) hs).mono ?_
  rintro r v1 ⟨rfl, gg⟩
  rw [H1.out]
  have e1 : has (bs s) t 42 = t := by simp [has, H1.out]
  rw [e1] at gg
  have R1 := hide (HR.out.trans gg)
  have B1 := hide (B0.out.rd gg hbw)
  clear gg e1
  go_wp2_with fail
  refine (k_sees R1.out.m 39 39 rfl (by omega)).mono ?_
  rintro r v2 ⟨rfl, gg⟩
  rw [H2.out]
  have R2 := hide (R1.out.trans gg)
  have B2 := hide (B1.out.rd gg hbw)
  clear gg
  go_wp2_with fail
  refine (c_has R2.out.m 63 63 rfl (by omega) hs).mono ?_
  rintro r v3 ⟨rfl, gg⟩
  rw [H3.out]
  have e1 : has (bs s) t 63 = t := by simp [has, H3.out]
  rw [e1] at gg
  have R3 := hide (R2.out.trans gg)
  have B3 := hide (B2.out.rd gg hbw)
  clear gg e1
  go_wp2_with fail
  refine (k_sees R3.out.m 45 45 rfl (by omega)).mono ?_
  rintro r v4 ⟨rfl, gg⟩
  rw [H4.out]
  have R4 := hide (R3.out.trans gg)
  have B4 := hide (B3.out.rd gg hbw)
  clear gg
  go_wp2_with fail
  refine (k_sees R4.out.m 58 58 rfl (by omega)).mono ?_
  rintro r v5 ⟨rfl, gg⟩
  rw [H5.out]
  have R5 := hide (R4.out.trans gg)
  have B5 := hide (B4.out.rd gg hbw)
  clear gg
  go_wp2_with fail
  refine (c_count R5.out.m true hs hle).mono ?_
  rintro r v6 ⟨rfl, gg⟩
  have R6 := hide (R5.out.trans gg)
  have B6 := hide (B5.out.rd gg hbw)
  clear gg
  generalize countV (bs s) t true = cv at *
  have O6 := hide (sel_minus HO.out H4.out)
  generalize countP (bs s) t true = u at *
  go_wp2_with fail
  refine (k_sees R6.out.m 58 58 rfl (by omega)).mono ?_
  rintro r v7 ⟨rfl, gg⟩
  have R7 := hide (R6.out.trans gg)
  have B7 := hide (B6.out.rd gg hbw)
  clear gg
  generalize sees (bs s) u 58 = x at *
  have hf := B7.out.fz
  have k0 := B7.out.cell 0
  have k1 := B7.out.cell 1
  have k2 := B7.out.cell 2
  have k3 := B7.out.cell 3
  have k4 := B7.out.cell 4
  have k5 := B7.out.cell 5
  simp at k0 k1 k2 k3 k4 k5
  go_wp2
  refine ret_sel rfl rfl ((((((B7.out.set 0 _).set 1 _).set 2 _).set 3 _).set 4 _).set 5 _) ?_
  refine ⟨_, _, rfl, ⟨_, _, _, _, _, _, rfl⟩, ?_, O6.out⟩
  exact R7.out.set6 hbw _ (Nat.le_refl _) _ _ _ _ _ _

set_option maxRecDepth 100000 in
set_option maxHeartbeats 4000000 in
theorem c_selector_colon {w : World} {b : Nat} {s : ByteArray} {t : St} {q c : Nat} (h : HasM w b s t) (hs : s.size ≤ 120) (hok : Ok (bs s) q c 6 [] 0 t) (h1 : sees (bs s) t 42 = false) (h2 : sees (bs s) t 39 = false) (h3 : sees (bs s) t 63 = false) (h4 : sees (bs s) t 45 = false) (h5 : sees (bs s) t 58 = true) :
    Calls Tryz.prog 94 #[.pointer (some ⟨b, 0, none⟩)] w fun r w' => ∃ v t', r = .returned v ∧ SelV v ∧ Rd b s w t' w' ∧ Ok (bs s) q c 9 [] 0 t' := by
  have hbw := h.lt
  have hle := hok.le
  rw [bs_len] at hle
  have HR := hide ((Rd.same h).alloc (.cells #[.int .i64 0, .string ⟨#[]⟩, .int .i64 0, .int .i64 0, .int .i64 0, .pointer none] 189))
  have B0 := hide (Blk.new w #[.int .i64 0, .string ⟨#[]⟩, .int .i64 0, .int .i64 0, .int .i64 0, .pointer none] 189)
  have HO := hide hok
  have H1 := hide h1
  have H2 := hide h2
  have H3 := hide h3
  have H4 := hide h4
  have H5 := hide h5
  clear h hok h1 h2 h3 h4 h5
  go_enter Tryz.func94, Tryz.ntmps94
  go_wp2_with fail
  refine (c_has HR.out.m 42 42 rfl (by omega) hs).mono ?_
  rintro r v1 ⟨rfl, gg⟩
  rw [H1.out]
  have e1 : has (bs s) t 42 = t := by simp [has, H1.out]
  rw [e1] at gg
  have R1 := hide (HR.out.trans gg)
  have B1 := hide (B0.out.rd gg hbw)
  clear gg e1
  go_wp2_with fail
  refine (k_sees R1.out.m 39 39 rfl (by omega)).mono ?_
  rintro r v2 ⟨rfl, gg⟩
  rw [H2.out]
  have R2 := hide (R1.out.trans gg)
  have B2 := hide (B1.out.rd gg hbw)
  clear gg
  go_wp2_with fail
  refine (c_has R2.out.m 63 63 rfl (by omega) hs).mono ?_
  rintro r v3 ⟨rfl, gg⟩
  rw [H3.out]
  have e1 : has (bs s) t 63 = t := by simp [has, H3.out]
  rw [e1] at gg
  have R3 := hide (R2.out.trans gg)
  have B3 := hide (B2.out.rd gg hbw)
  clear gg e1
  go_wp2_with fail
  refine (k_sees R3.out.m 45 45 rfl (by omega)).mono ?_
  rintro r v4 ⟨rfl, gg⟩
  rw [H4.out]
  have R4 := hide (R3.out.trans gg)
  have B4 := hide (B3.out.rd gg hbw)
  clear gg
  go_wp2_with fail
  refine (k_sees R4.out.m 58 58 rfl (by omega)).mono ?_
  rintro r v5 ⟨rfl, gg⟩
  rw [H5.out]
  have R5 := hide (R4.out.trans gg)
  have B5 := hide (B4.out.rd gg hbw)
  clear gg
  go_wp2_with fail
  refine (c_must R5.out.m ⟨#[58]⟩ (by decide) hs).mono ?_
  rintro r v8 ⟨rfl, gg⟩
  rw [nb_colon] at gg
  have R8 := hide (R5.out.trans gg)
  have B8 := hide (B5.out.rd gg hbw)
  have O8 := hide (sel_colon (Or.inl rfl) HO.out H5.out)
  clear gg
  generalize must (bs s) t [58] = u8 at *
  have hle8 := O8.out.le
  rw [bs_len] at hle8
  have R9 := hide (R8.out.alloc (.cells #[.int .i64 4, .string ⟨#[]⟩, .int .i64 0, .int .i64 0, .int .i64 (-1), .pointer none] 189))
  have B9 := hide (B8.out.alloc (.cells #[.int .i64 4, .string ⟨#[]⟩, .int .i64 0, .int .i64 0, .int .i64 (-1), .pointer none] 189))
  have X9 := hide (Blk.new v8 #[.int .i64 4, .string ⟨#[]⟩, .int .i64 0, .int .i64 0, .int .i64 (-1), .pointer none] 189)
  have hb8 : b < v8.heap.size := R8.out.lt
  have hw8 : w.heap.size < v8.heap.size := B8.out.lt
  go_wp2_with fail
  cases hd : digit (bs s) u8
  · have HD := hide hd
    clear hd
    refine (k_digit R9.out.m).mono ?_
    rintro r va ⟨rfl, gg⟩
    rw [HD.out]
    have RA := hide (R9.out.trans gg)
    have BA := hide (B9.out.rd gg hbw)
    have XA := hide (X9.out.rd gg hb8)
    clear gg
    have hf := BA.out.fz
    have k0 := BA.out.cell 0
    have k1 := BA.out.cell 1
    have k2 := BA.out.cell 2
    have k3 := BA.out.cell 3
    have k4 := BA.out.cell 4
    have k5 := BA.out.cell 5
    simp at k0 k1 k2 k3 k4 k5
    have m0 := XA.out.cell 0
    have m1 := XA.out.cell 1
    have m2 := XA.out.cell 2
    have m3 := XA.out.cell 3
    have m4 := XA.out.cell 4
    have m5 := XA.out.cell 5
    simp at m0 m1 m2 m3 m4 m5
    go_wp2
    refine ret_sel rfl rfl ((((((BA.out.set 0 _).set 1 _).set 2 _).set 3 _).set 4 _).set 5 _) ?_
    refine ⟨_, _, rfl, ⟨_, _, _, _, _, _, rfl⟩, ?_, sel_noto O8.out HD.out⟩
    exact RA.out.set6 hbw _ (Nat.le_refl _) _ _ _ _ _ _
  · have HD := hide hd
    clear hd
    refine (k_digit R9.out.m).mono ?_
    rintro r va ⟨rfl, gg⟩
    rw [HD.out]
    have RA := hide (R9.out.trans gg)
    have BA := hide (B9.out.rd gg hbw)
    have XA := hide (X9.out.rd gg hb8)
    clear gg
    go_wp2_with fail
    refine (c_count RA.out.m false hs hle8).mono ?_
    rintro r vb ⟨rfl, gg⟩
    have RB := hide (RA.out.trans gg)
    have BB := hide (BA.out.rd gg hbw)
    have XB := hide (XA.out.rd gg hb8)
    clear gg
    generalize countV (bs s) u8 false = cw at *
    have hf := BB.out.fz
    have k0 := BB.out.cell 0
    have k1 := BB.out.cell 1
    have k2 := BB.out.cell 2
    have k3 := BB.out.cell 3
    have k4 := BB.out.cell 4
    have k5 := BB.out.cell 5
    simp at k0 k1 k2 k3 k4 k5
    have hg := XB.out.fz
    have m0 := XB.out.cell 0
    have m1 := XB.out.cell 1
    have m2 := XB.out.cell 2
    have m3 := XB.out.cell 3
    have m4 := XB.out.cell 4
    have m5 := XB.out.cell 5
    simp at m0 m1 m2 m3 m4 m5
    have hne : w.heap.size ≠ v8.heap.size := by omega
    have hne2 : v8.heap.size ≠ w.heap.size := by omega
    go_wp2
    refine ret_sel rfl rfl (((((((BB.out.other hne 4 _).set 0 _).set 1 _).set 2 _).set 3 _).set 4 _).set 5 _) ?_
    refine ⟨_, _, rfl, ⟨_, _, _, _, _, _, rfl⟩, ?_, sel_to O8.out HD.out⟩
    exact (RB.out.setOwn hbw _ 4 (Nat.le_of_lt hw8) _).set6 hbw _ (Nat.le_refl _) _ _ _ _ _ _

set_option maxRecDepth 100000 in
set_option maxHeartbeats 4000000 in
theorem c_selector_count {w : World} {b : Nat} {s : ByteArray} {t : St} {q c : Nat} (h : HasM w b s t) (hs : s.size ≤ 120) (hok : Ok (bs s) q c 6 [] 0 t) (h1 : sees (bs s) t 42 = false) (h2 : sees (bs s) t 39 = false) (h3 : sees (bs s) t 63 = false) (h4 : sees (bs s) t 45 = false) (h5 : sees (bs s) t 58 = false) :
    Calls Tryz.prog 94 #[.pointer (some ⟨b, 0, none⟩)] w fun r w' => ∃ v t', r = .returned v ∧ SelV v ∧ Rd b s w t' w' ∧ Ok (bs s) q c 9 [] 0 t' := by
  have hbw := h.lt
  have hle := hok.le
  rw [bs_len] at hle
  have HR := hide ((Rd.same h).alloc (.cells #[.int .i64 0, .string ⟨#[]⟩, .int .i64 0, .int .i64 0, .int .i64 0, .pointer none] 189))
  have B0 := hide (Blk.new w #[.int .i64 0, .string ⟨#[]⟩, .int .i64 0, .int .i64 0, .int .i64 0, .pointer none] 189)
  have HO := hide hok
  have H1 := hide h1
  have H2 := hide h2
  have H3 := hide h3
  have H4 := hide h4
  have H5 := hide h5
  clear h hok h1 h2 h3 h4 h5
  go_enter Tryz.func94, Tryz.ntmps94
  go_wp2_with fail
  refine (c_has HR.out.m 42 42 rfl (by omega) hs).mono ?_
  rintro r v1 ⟨rfl, gg⟩
  rw [H1.out]
  have e1 : has (bs s) t 42 = t := by simp [has, H1.out]
  rw [e1] at gg
  have R1 := hide (HR.out.trans gg)
  have B1 := hide (B0.out.rd gg hbw)
  clear gg e1
  go_wp2_with fail
  refine (k_sees R1.out.m 39 39 rfl (by omega)).mono ?_
  rintro r v2 ⟨rfl, gg⟩
  rw [H2.out]
  have R2 := hide (R1.out.trans gg)
  have B2 := hide (B1.out.rd gg hbw)
  clear gg
  go_wp2_with fail
  refine (c_has R2.out.m 63 63 rfl (by omega) hs).mono ?_
  rintro r v3 ⟨rfl, gg⟩
  rw [H3.out]
  have e1 : has (bs s) t 63 = t := by simp [has, H3.out]
  rw [e1] at gg
  have R3 := hide (R2.out.trans gg)
  have B3 := hide (B2.out.rd gg hbw)
  clear gg e1
  go_wp2_with fail
  refine (k_sees R3.out.m 45 45 rfl (by omega)).mono ?_
  rintro r v4 ⟨rfl, gg⟩
  rw [H4.out]
  have R4 := hide (R3.out.trans gg)
  have B4 := hide (B3.out.rd gg hbw)
  clear gg
  go_wp2_with fail
  refine (k_sees R4.out.m 58 58 rfl (by omega)).mono ?_
  rintro r v5 ⟨rfl, gg⟩
  rw [H5.out]
  have R5 := hide (R4.out.trans gg)
  have B5 := hide (B4.out.rd gg hbw)
  clear gg
  go_wp2_with fail
  refine (c_count R5.out.m true hs hle).mono ?_
  rintro r v6 ⟨rfl, gg⟩
  have R6 := hide (R5.out.trans gg)
  have B6 := hide (B5.out.rd gg hbw)
  clear gg
  generalize countV (bs s) t true = cv at *
  have O6 := hide (sel_count HO.out H1.out H2.out H3.out H4.out H5.out)
  generalize countP (bs s) t true = u at *
  go_wp2_with fail
  cases h6 : sees (bs s) u 58
  · have H6 := hide h6
    clear h6
    refine (k_sees R6.out.m 58 58 rfl (by omega)).mono ?_
    rintro r v7 ⟨rfl, gg⟩
    rw [H6.out]
    have R7 := hide (R6.out.trans gg)
    have B7 := hide (B6.out.rd gg hbw)
    clear gg
    have hf := B7.out.fz
    have k0 := B7.out.cell 0
    have k1 := B7.out.cell 1
    have k2 := B7.out.cell 2
    have k3 := B7.out.cell 3
    have k4 := B7.out.cell 4
    have k5 := B7.out.cell 5
    simp at k0 k1 k2 k3 k4 k5
    go_wp2
    refine ret_sel rfl rfl ((((((B7.out.set 0 _).set 1 _).set 2 _).set 3 _).set 4 _).set 5 _) ?_
    refine ⟨_, _, rfl, ⟨_, _, _, _, _, _, rfl⟩, ?_, sel_nocolon O6.out H6.out⟩
    exact R7.out.set6 hbw _ (Nat.le_refl _) _ _ _ _ _ _
  · have H6 := hide h6
    clear h6
    refine (k_sees R6.out.m 58 58 rfl (by omega)).mono ?_
    rintro r v7 ⟨rfl, gg⟩
    rw [H6.out]
    have R7 := hide (R6.out.trans gg)
    have B7 := hide (B6.out.rd gg hbw)
    clear gg
    go_wp2_with fail
    refine (c_must R7.out.m ⟨#[58]⟩ (by decide) hs).mono ?_
    rintro r v8 ⟨rfl, gg⟩
    rw [nb_colon] at gg
    have R8 := hide (R7.out.trans gg)
    have B8 := hide (B7.out.rd gg hbw)
    have O8 := hide (sel_colon (Or.inr rfl) O6.out H6.out)
    clear gg
    generalize must (bs s) u [58] = u8 at *
    have hle8 := O8.out.le
    rw [bs_len] at hle8
    have R9 := hide (R8.out.alloc (.cells #[.int .i64 4, .string ⟨#[]⟩, .int .i64 0, .int .i64 cv, .int .i64 (-1), .pointer none] 189))
    have B9 := hide (B8.out.alloc (.cells #[.int .i64 4, .string ⟨#[]⟩, .int .i64 0, .int .i64 cv, .int .i64 (-1), .pointer none] 189))
    have X9 := hide (Blk.new v8 #[.int .i64 4, .string ⟨#[]⟩, .int .i64 0, .int .i64 cv, .int .i64 (-1), .pointer none] 189)
    have hb8 : b < v8.heap.size := R8.out.lt
    have hw8 : w.heap.size < v8.heap.size := B8.out.lt
    go_wp2_with fail
    cases hd : digit (bs s) u8
    · have HD := hide hd
      clear hd
      refine (k_digit R9.out.m).mono ?_
      rintro r va ⟨rfl, gg⟩
      rw [HD.out]
      have RA := hide (R9.out.trans gg)
      have BA := hide (B9.out.rd gg hbw)
      have XA := hide (X9.out.rd gg hb8)
      clear gg
      have hf := BA.out.fz
      have k0 := BA.out.cell 0
      have k1 := BA.out.cell 1
      have k2 := BA.out.cell 2
      have k3 := BA.out.cell 3
      have k4 := BA.out.cell 4
      have k5 := BA.out.cell 5
      simp at k0 k1 k2 k3 k4 k5
      have m0 := XA.out.cell 0
      have m1 := XA.out.cell 1
      have m2 := XA.out.cell 2
      have m3 := XA.out.cell 3
      have m4 := XA.out.cell 4
      have m5 := XA.out.cell 5
      simp at m0 m1 m2 m3 m4 m5
      go_wp2
      refine ret_sel rfl rfl ((((((BA.out.set 0 _).set 1 _).set 2 _).set 3 _).set 4 _).set 5 _) ?_
      refine ⟨_, _, rfl, ⟨_, _, _, _, _, _, rfl⟩, ?_, sel_noto O8.out HD.out⟩
      exact RA.out.set6 hbw _ (Nat.le_refl _) _ _ _ _ _ _
    · have HD := hide hd
      clear hd
      refine (k_digit R9.out.m).mono ?_
      rintro r va ⟨rfl, gg⟩
      rw [HD.out]
      have RA := hide (R9.out.trans gg)
      have BA := hide (B9.out.rd gg hbw)
      have XA := hide (X9.out.rd gg hb8)
      clear gg
      go_wp2_with fail
      refine (c_count RA.out.m false hs hle8).mono ?_
      rintro r vb ⟨rfl, gg⟩
      have RB := hide (RA.out.trans gg)
      have BB := hide (BA.out.rd gg hbw)
      have XB := hide (XA.out.rd gg hb8)
      clear gg
      generalize countV (bs s) u8 false = cw at *
      have hf := BB.out.fz
      have k0 := BB.out.cell 0
      have k1 := BB.out.cell 1
      have k2 := BB.out.cell 2
      have k3 := BB.out.cell 3
      have k4 := BB.out.cell 4
      have k5 := BB.out.cell 5
      simp at k0 k1 k2 k3 k4 k5
      have hg := XB.out.fz
      have m0 := XB.out.cell 0
      have m1 := XB.out.cell 1
      have m2 := XB.out.cell 2
      have m3 := XB.out.cell 3
      have m4 := XB.out.cell 4
      have m5 := XB.out.cell 5
      simp at m0 m1 m2 m3 m4 m5
      have hne : w.heap.size ≠ v8.heap.size := by omega
      have hne2 : v8.heap.size ≠ w.heap.size := by omega
      go_wp2
      refine ret_sel rfl rfl (((((((BB.out.other hne 4 _).set 0 _).set 1 _).set 2 _).set 3 _).set 4 _).set 5 _) ?_
      refine ⟨_, _, rfl, ⟨_, _, _, _, _, _, rfl⟩, ?_, sel_to O8.out HD.out⟩
      exact (RB.out.setOwn hbw _ 4 (Nat.le_of_lt hw8) _).set6 hbw _ (Nat.le_refl _) _ _ _ _ _ _

/-- A selector. -/
theorem c_selector {w : World} {b : Nat} {s : ByteArray} {t : St} {q c : Nat} (h : HasM w b s t) (hs : s.size ≤ 120) (hok : Ok (bs s) q c 6 [] 0 t) :
    Calls Tryz.prog 94 #[.pointer (some ⟨b, 0, none⟩)] w fun r w' => ∃ v t', r = .returned v ∧ SelV v ∧ Rd b s w t' w' ∧ Ok (bs s) q c 9 [] 0 t' := by
  cases h1 : sees (bs s) t 42
  · cases h2 : sees (bs s) t 39
    · cases h3 : sees (bs s) t 63
      · cases h4 : sees (bs s) t 45
        · cases h5 : sees (bs s) t 58
          · exact c_selector_count h hs hok h1 h2 h3 h4 h5
          · exact c_selector_colon h hs hok h1 h2 h3 h4 h5
        · exact c_selector_minus h hs hok h1 h2 h3 h4 (sees_other h4 (by decide))
      · exact c_selector_where h hs hok h1 h2 h3
    · exact c_selector_quote h hs hok h1 h2
  · exact c_selector_star h hs hok h1

end Go.Proofs.YtcbadebjpogmlaaGreatDoor
