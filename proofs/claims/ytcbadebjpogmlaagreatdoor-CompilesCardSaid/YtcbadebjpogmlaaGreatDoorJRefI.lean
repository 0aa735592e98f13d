/- The reference reader's segment: what it leaves of the reader's block, by the machine; the segment's text and the number of its selectors. -/
import Derived.Test.YtcbadebjpogmlaaGreatDoorJRefH
import Derived.BigRegion
namespace Go.Proofs.YtcbadebjpogmlaaGreatDoor
open Go.RowKit Tr

/-- Behind a segment. -/
def SegP (b : Nat) (s : ByteArray) (c : Nat) (acc : List UInt8) (t : St) (w : World) (r : Ending) (w' : World) : Prop :=
  ∃ (deep : Bool) (a : Option Addr) (k cp : Nat) (txt : ByteArray) (t' : St), r = .returned (.agg #[.bool deep, .slice a k cp, .string txt]) ∧ Rd b s w t' w' ∧ OkB (bs s) (c + k) (acc ++ bs txt) t' ∧ (t'.e = 0 → t.p < t'.p) ∧ txt.size ≤ 200

set_option maxHeartbeats 1000000 in
theorem ret_seg {R : Ending → World → Prop} {a : Act} {W : World} {g : Nat} {x0 x1 x2 : Value} (hd : a.defers = []) (ha : a.tmps[2]?.getD undef = .pointer (some ⟨g, 0, none⟩))
    (hB : Blk W g #[x0, x1, x2] 152) (hR : R (.returned (.agg #[x0, x1, x2])) W) : bodyPost Tryz.prog Tryz.f65 R .ret a W := by
  have k0 := hB.cell 0
  have k1 := hB.cell 1
  have k2 := hB.cell 2
  simp at k0 k1 k2
  refine bodyPost_ret (v := .agg #[x0, x1, x2]) ?_ hd hR
  simp [results, Tryz.results65, go_sem, ha, k0, k1, k2]

theorem Rd.set3 {b : Nat} {s : ByteArray} {w w' : World} {t : St} (h : Rd b s w t w') (hb : b < w.heap.size) (g : Nat) (hg : w.heap.size ≤ g) (x0 x1 x2 : Value) :
    Rd b s w t (((w'.setCell ⟨g, 0, none⟩ x0).setCell ⟨g, 1, none⟩ x1).setCell ⟨g, 2, none⟩ x2) :=
  ((h.setOwn hb g 0 hg x0).setOwn hb g 1 hg x1).setOwn hb g 2 hg x2

set_option maxRecDepth 100000 in
set_option maxHeartbeats 4000000 in
theorem c_seg_dotstar_false {w : World} {b : Nat} {s : ByteArray} {t : St} {c : Nat} {acc : List UInt8} (h : HasM w b s t) (hs : s.size ≤ 120) (hok : Bnd (bs s) c acc t) (h1 : sees (bs s) t 46 = true) (h2 : sees (bs s) (adv t) 46 = false) (h3 : sees (bs s) (adv t) 91 = false) (h4 : sees (bs s) (adv t) 42 = true) :
    Calls Tryz.prog 65 #[.pointer (some ⟨b, 0, none⟩)] w (SegP b s c acc t w) := by
  have hbw := h.lt
  have HR := hide (((Rd.same h).alloc (.cells #[.bool false, .slice none 0 0, .string ⟨#[]⟩] 152)).alloc (.cells #[.bool false, .slice none 0 0, .string ⟨#[]⟩] 152))
  have B0 := hide ((Blk.new w #[.bool false, .slice none 0 0, .string ⟨#[]⟩] 152).alloc (.cells #[.bool false, .slice none 0 0, .string ⟨#[]⟩] 152))
  have X0 : Hid (Blk ((w.alloc (.cells #[.bool false, .slice none 0 0, .string ⟨#[]⟩] 152)).alloc (.cells #[.bool false, .slice none 0 0, .string ⟨#[]⟩] 152)) (w.heap.size + 1) #[.bool false, .slice none 0 0, .string ⟨#[]⟩] 152) := by
    have := Blk.new (w.alloc (.cells #[.bool false, .slice none 0 0, .string ⟨#[]⟩] 152)) #[.bool false, .slice none 0 0, .string ⟨#[]⟩] 152
    unfold Hid; simpa using this
  have hb1 : b < w.heap.size + 1 := by omega
  have HO := hide (dot_star (Or.inl rfl) (seg_dot hok h1) h4)
  have H1 := hide h1
  have H2 := hide h2
  have H3 := hide h3
  have H4 := hide h4
  clear h hok h1 h2 h3 h4
  go_enter Tryz.func65, Tryz.ntmps65
  go_wp2_with fail
  refine (c_has HR.out.m 46 46 rfl (by omega) hs).mono ?_
  rintro r v1 ⟨rfl, gg⟩
  rw [H1.out]
  have e1 : has (bs s) t 46 = adv t := by simp [has, H1.out]
  rw [e1] at gg
  have R1 := hide (HR.out.trans gg)
  have B1 := hide (B0.out.rd gg hbw)
  have X1 := hide (X0.out.rd gg hb1)
  clear gg e1
  go_wp2_with fail
  refine (c_has R1.out.m 46 46 rfl (by omega) hs).mono ?_
  rintro r v2 ⟨rfl, gg⟩
  rw [H2.out]
  have e1 : has (bs s) (adv t) 46 = (adv t) := by simp [has, H2.out]
  rw [e1] at gg
  have R2 := hide (R1.out.trans gg)
  have B2 := hide (B1.out.rd gg hbw)
  have X2 := hide (X1.out.rd gg hb1)
  clear gg e1
  have mf := X2.out.fz
  have m0 := X2.out.cell 0
  have m1 := X2.out.cell 1
  have m2 := X2.out.cell 2
  simp at m0 m1 m2
  have R3 := hide (R2.out.setOwn hbw (w.heap.size + 1) 0 (Nat.le_succ _) (.bool false))
  have B3 := hide (B2.out.other (Nat.ne_of_lt (Nat.lt_succ_self _)) 0 (.bool false))
  have X3 := hide (X2.out.set 0 (.bool false))
  go_wp2_with fail
  clear mf m0 m1 m2
  refine (k_sees R3.out.m 91 91 rfl (by omega)).mono ?_
  rintro r v4 ⟨rfl, gg⟩
  rw [H3.out]
  have R4 := hide (R3.out.trans gg)
  have B4 := hide (B3.out.rd gg hbw)
  have X4 := hide (X3.out.rd gg hb1)
  clear gg
  obtain ⟨pre, hpre⟩ : ∃ pre : ByteArray, pre = ⟨#[]⟩ := ⟨_, rfl⟩
  have Y4 : Hid (Blk v4 (w.heap.size + 1) #[.bool false, .slice none 0 0, .string pre] 152) := by
    unfold Hid; rw [hpre]; exact X4.out
  have hps : (pre.size : Int) ≤ 2 := by rw [hpre]; decide
  have HPR := hide hpre
  clear hpre X4
  have mf := Y4.out.fz
  have m0 := Y4.out.cell 0
  have m1 := Y4.out.cell 1
  have m2 := Y4.out.cell 2
  simp at m0 m1 m2
  go_wp2_with fail
  refine (c_has R4.out.m 42 42 rfl (by omega) hs).mono ?_
  rintro r v5 ⟨rfl, gg⟩
  rw [H4.out]
  have e1 : has (bs s) (adv t) 42 = adv (adv t) := by simp [has, H4.out]
  rw [e1] at gg
  have R5 := hide (R4.out.trans gg)
  have B5 := hide (B4.out.rd gg hbw)
  have X5 := hide (Y4.out.rd gg hb1)
  clear gg e1
  clear mf m0 m1 m2
  have mf := X5.out.fz
  have m0 := X5.out.cell 0
  have m1 := X5.out.cell 1
  have m2 := X5.out.cell 2
  simp at m0 m1 m2
  have kf := B5.out.fz
  have k0 := B5.out.cell 0
  have k1 := B5.out.cell 1
  have k2 := B5.out.cell 2
  simp at k0 k1 k2
  have hw5 : w.heap.size + 1 < v5.heap.size := X5.out.lt
  have hw6 : w.heap.size < v5.heap.size := by omega
  have hne : w.heap.size ≠ w.heap.size + 1 := by omega
  go_wp2
  refine ret_seg rfl rfl ((((((B5.out.other hne 1 _).other hne 2 _).set 0 _).set 1 _).set 2 _).alloc _) ?_
  refine ⟨false, _, 1, 1, _, _, rfl, (((R5.out.setOwn hbw _ 1 (Nat.le_succ _) _).setOwn hbw _ 2 (Nat.le_succ _) _).set3 hbw _ (Nat.le_refl _) _ _ _).alloc _, by have := HO.out; rw [HPR.out]; simpa [bs] using this, fun _ => by simp [adv]; try omega, by rw [HPR.out]; decide⟩

set_option maxRecDepth 100000 in
set_option maxHeartbeats 4000000 in
theorem c_seg_dotstar_true {w : World} {b : Nat} {s : ByteArray} {t : St} {c : Nat} {acc : List UInt8} (h : HasM w b s t) (hs : s.size ≤ 120) (hok : Bnd (bs s) c acc t) (h1 : sees (bs s) t 46 = true) (h2 : sees (bs s) (adv t) 46 = false) (h3 : sees (bs s) (adv t) 91 = true) (h4 : sees (bs s) (adv t) 42 = true) :
    Calls Tryz.prog 65 #[.pointer (some ⟨b, 0, none⟩)] w (SegP b s c acc t w) := by
  have hbw := h.lt
  have HR := hide (((Rd.same h).alloc (.cells #[.bool false, .slice none 0 0, .string ⟨#[]⟩] 152)).alloc (.cells #[.bool false, .slice none 0 0, .string ⟨#[]⟩] 152))
  have B0 := hide ((Blk.new w #[.bool false, .slice none 0 0, .string ⟨#[]⟩] 152).alloc (.cells #[.bool false, .slice none 0 0, .string ⟨#[]⟩] 152))
  have X0 : Hid (Blk ((w.alloc (.cells #[.bool false, .slice none 0 0, .string ⟨#[]⟩] 152)).alloc (.cells #[.bool false, .slice none 0 0, .string ⟨#[]⟩] 152)) (w.heap.size + 1) #[.bool false, .slice none 0 0, .string ⟨#[]⟩] 152) := by
    have := Blk.new (w.alloc (.cells #[.bool false, .slice none 0 0, .string ⟨#[]⟩] 152)) #[.bool false, .slice none 0 0, .string ⟨#[]⟩] 152
    unfold Hid; simpa using this
  have hb1 : b < w.heap.size + 1 := by omega
  have HO := hide (dot_star (Or.inl rfl) (seg_dot hok h1) h4)
  have H1 := hide h1
  have H2 := hide h2
  have H3 := hide h3
  have H4 := hide h4
  clear h hok h1 h2 h3 h4
  go_enter Tryz.func65, Tryz.ntmps65
  go_wp2_with fail
  refine (c_has HR.out.m 46 46 rfl (by omega) hs).mono ?_
  rintro r v1 ⟨rfl, gg⟩
  rw [H1.out]
  have e1 : has (bs s) t 46 = adv t := by simp [has, H1.out]
  rw [e1] at gg
  have R1 := hide (HR.out.trans gg)
  have B1 := hide (B0.out.rd gg hbw)
  have X1 := hide (X0.out.rd gg hb1)
  clear gg e1
  go_wp2_with fail
  refine (c_has R1.out.m 46 46 rfl (by omega) hs).mono ?_
  rintro r v2 ⟨rfl, gg⟩
  rw [H2.out]
  have e1 : has (bs s) (adv t) 46 = (adv t) := by simp [has, H2.out]
  rw [e1] at gg
  have R2 := hide (R1.out.trans gg)
  have B2 := hide (B1.out.rd gg hbw)
  have X2 := hide (X1.out.rd gg hb1)
  clear gg e1
  have mf := X2.out.fz
  have m0 := X2.out.cell 0
  have m1 := X2.out.cell 1
  have m2 := X2.out.cell 2
  simp at m0 m1 m2
  have R3 := hide (R2.out.setOwn hbw (w.heap.size + 1) 0 (Nat.le_succ _) (.bool false))
  have B3 := hide (B2.out.other (Nat.ne_of_lt (Nat.lt_succ_self _)) 0 (.bool false))
  have X3 := hide (X2.out.set 0 (.bool false))
  go_wp2_with fail
  clear mf m0 m1 m2
  refine (k_sees R3.out.m 91 91 rfl (by omega)).mono ?_
  rintro r v4 ⟨rfl, gg⟩
  rw [H3.out]
  have R4 := hide (R3.out.trans gg)
  have B4 := hide (B3.out.rd gg hbw)
  have X4 := hide (X3.out.rd gg hb1)
  clear gg
  obtain ⟨pre, hpre⟩ : ∃ pre : ByteArray, pre = ⟨#[]⟩ := ⟨_, rfl⟩
  have Y4 : Hid (Blk v4 (w.heap.size + 1) #[.bool false, .slice none 0 0, .string pre] 152) := by
    unfold Hid; rw [hpre]; exact X4.out
  have hps : (pre.size : Int) ≤ 2 := by rw [hpre]; decide
  have HPR := hide hpre
  clear hpre X4
  have mf := Y4.out.fz
  have m0 := Y4.out.cell 0
  have m1 := Y4.out.cell 1
  have m2 := Y4.out.cell 2
  simp at m0 m1 m2
  go_wp2_with fail
  refine (c_has R4.out.m 42 42 rfl (by omega) hs).mono ?_
  rintro r v5 ⟨rfl, gg⟩
  rw [H4.out]
  have e1 : has (bs s) (adv t) 42 = adv (adv t) := by simp [has, H4.out]
  rw [e1] at gg
  have R5 := hide (R4.out.trans gg)
  have B5 := hide (B4.out.rd gg hbw)
  have X5 := hide (Y4.out.rd gg hb1)
  clear gg e1
  clear mf m0 m1 m2
  have mf := X5.out.fz
  have m0 := X5.out.cell 0
  have m1 := X5.out.cell 1
  have m2 := X5.out.cell 2
  simp at m0 m1 m2
  have kf := B5.out.fz
  have k0 := B5.out.cell 0
  have k1 := B5.out.cell 1
  have k2 := B5.out.cell 2
  simp at k0 k1 k2
  have hw5 : w.heap.size + 1 < v5.heap.size := X5.out.lt
  have hw6 : w.heap.size < v5.heap.size := by omega
  have hne : w.heap.size ≠ w.heap.size + 1 := by omega
  go_wp2
  refine ret_seg rfl rfl ((((((B5.out.other hne 1 _).other hne 2 _).set 0 _).set 1 _).set 2 _).alloc _) ?_
  refine ⟨false, _, 1, 1, _, _, rfl, (((R5.out.setOwn hbw _ 1 (Nat.le_succ _) _).setOwn hbw _ 2 (Nat.le_succ _) _).set3 hbw _ (Nat.le_refl _) _ _ _).alloc _, by have := HO.out; rw [HPR.out]; simpa [bs] using this, fun _ => by simp [adv]; try omega, by rw [HPR.out]; decide⟩

set_option maxRecDepth 100000 in
set_option maxHeartbeats 4000000 in
theorem c_seg_ddstar {w : World} {b : Nat} {s : ByteArray} {t : St} {c : Nat} {acc : List UInt8} (h : HasM w b s t) (hs : s.size ≤ 120) (hok : Bnd (bs s) c acc t) (h1 : sees (bs s) t 46 = true) (h2 : sees (bs s) (adv t) 46 = true) (h3 : sees (bs s) (adv (adv t)) 91 = false) (h4 : sees (bs s) (adv (adv t)) 42 = true) :
    Calls Tryz.prog 65 #[.pointer (some ⟨b, 0, none⟩)] w (SegP b s c acc t w) := by
  have hbw := h.lt
  have HR := hide (((Rd.same h).alloc (.cells #[.bool false, .slice none 0 0, .string ⟨#[]⟩] 152)).alloc (.cells #[.bool false, .slice none 0 0, .string ⟨#[]⟩] 152))
  have B0 := hide ((Blk.new w #[.bool false, .slice none 0 0, .string ⟨#[]⟩] 152).alloc (.cells #[.bool false, .slice none 0 0, .string ⟨#[]⟩] 152))
  have X0 : Hid (Blk ((w.alloc (.cells #[.bool false, .slice none 0 0, .string ⟨#[]⟩] 152)).alloc (.cells #[.bool false, .slice none 0 0, .string ⟨#[]⟩] 152)) (w.heap.size + 1) #[.bool false, .slice none 0 0, .string ⟨#[]⟩] 152) := by
    have := Blk.new (w.alloc (.cells #[.bool false, .slice none 0 0, .string ⟨#[]⟩] 152)) #[.bool false, .slice none 0 0, .string ⟨#[]⟩] 152
    unfold Hid; simpa using this
  have hb1 : b < w.heap.size + 1 := by omega
  have HO := hide (dot_star (Or.inr rfl) (dot_dot (seg_dot hok h1) h2) h4)
  have H1 := hide h1
  have H2 := hide h2
  have H3 := hide h3
  have H4 := hide h4
  clear h hok h1 h2 h3 h4
  go_enter Tryz.func65, Tryz.ntmps65
  go_wp2_with fail
  refine (c_has HR.out.m 46 46 rfl (by omega) hs).mono ?_
  rintro r v1 ⟨rfl, gg⟩
  rw [H1.out]
  have e1 : has (bs s) t 46 = adv t := by simp [has, H1.out]
  rw [e1] at gg
  have R1 := hide (HR.out.trans gg)
  have B1 := hide (B0.out.rd gg hbw)
  have X1 := hide (X0.out.rd gg hb1)
  clear gg e1
  go_wp2_with fail
  refine (c_has R1.out.m 46 46 rfl (by omega) hs).mono ?_
  rintro r v2 ⟨rfl, gg⟩
  rw [H2.out]
  have e1 : has (bs s) (adv t) 46 = adv (adv t) := by simp [has, H2.out]
  rw [e1] at gg
  have R2 := hide (R1.out.trans gg)
  have B2 := hide (B1.out.rd gg hbw)
  have X2 := hide (X1.out.rd gg hb1)
  clear gg e1
  have mf := X2.out.fz
  have m0 := X2.out.cell 0
  have m1 := X2.out.cell 1
  have m2 := X2.out.cell 2
  simp at m0 m1 m2
  have R3 := hide ((R2.out.setOwn hbw (w.heap.size + 1) 0 (Nat.le_succ _) (.bool true)).setOwn hbw (w.heap.size + 1) 2 (Nat.le_succ _) (.string ⟨#[46, 46]⟩))
  have B3 := hide ((B2.out.other (Nat.ne_of_lt (Nat.lt_succ_self _)) 0 (.bool true)).other (Nat.ne_of_lt (Nat.lt_succ_self _)) 2 (.string ⟨#[46, 46]⟩))
  have X3 := hide ((X2.out.set 0 (.bool true)).set 2 (.string ⟨#[46, 46]⟩))
  go_wp2_with fail
  clear mf m0 m1 m2
  refine (k_sees R3.out.m 91 91 rfl (by omega)).mono ?_
  rintro r v4 ⟨rfl, gg⟩
  rw [H3.out]
  have R4 := hide (R3.out.trans gg)
  have B4 := hide (B3.out.rd gg hbw)
  have X4 := hide (X3.out.rd gg hb1)
  clear gg
  obtain ⟨pre, hpre⟩ : ∃ pre : ByteArray, pre = ⟨#[46, 46]⟩ := ⟨_, rfl⟩
  have Y4 : Hid (Blk v4 (w.heap.size + 1) #[.bool true, .slice none 0 0, .string pre] 152) := by
    unfold Hid; rw [hpre]; exact X4.out
  have hps : (pre.size : Int) ≤ 2 := by rw [hpre]; decide
  have HPR := hide hpre
  clear hpre X4
  have mf := Y4.out.fz
  have m0 := Y4.out.cell 0
  have m1 := Y4.out.cell 1
  have m2 := Y4.out.cell 2
  simp at m0 m1 m2
  go_wp2_with fail
  refine (c_has R4.out.m 42 42 rfl (by omega) hs).mono ?_
  rintro r v5 ⟨rfl, gg⟩
  rw [H4.out]
  have e1 : has (bs s) (adv (adv t)) 42 = adv (adv (adv t)) := by simp [has, H4.out]
  rw [e1] at gg
  have R5 := hide (R4.out.trans gg)
  have B5 := hide (B4.out.rd gg hbw)
  have X5 := hide (Y4.out.rd gg hb1)
  clear gg e1
  clear mf m0 m1 m2
  have mf := X5.out.fz
  have m0 := X5.out.cell 0
  have m1 := X5.out.cell 1
  have m2 := X5.out.cell 2
  simp at m0 m1 m2
  have kf := B5.out.fz
  have k0 := B5.out.cell 0
  have k1 := B5.out.cell 1
  have k2 := B5.out.cell 2
  simp at k0 k1 k2
  have hw5 : w.heap.size + 1 < v5.heap.size := X5.out.lt
  have hw6 : w.heap.size < v5.heap.size := by omega
  have hne : w.heap.size ≠ w.heap.size + 1 := by omega
  go_wp2
  refine ret_seg rfl rfl ((((((B5.out.other hne 1 _).other hne 2 _).set 0 _).set 1 _).set 2 _).alloc _) ?_
  refine ⟨true, _, 1, 1, _, _, rfl, (((R5.out.setOwn hbw _ 1 (Nat.le_succ _) _).setOwn hbw _ 2 (Nat.le_succ _) _).set3 hbw _ (Nat.le_refl _) _ _ _).alloc _, by have := HO.out; rw [HPR.out]; simpa [bs] using this, fun _ => by simp [adv]; try omega, by rw [HPR.out]; decide⟩

theorem bs_append (a b : ByteArray) : bs (a ++ b) = bs a ++ bs b := by simp [bs]
theorem bs_extract (s : ByteArray) (i j : Nat) : bs (s.extract i j) = sub (bs s) i j := by
  simp [bs, sub, List.extract_eq_take_drop]
theorem size_extract (s : ByteArray) (i j : Nat) : (s.extract i j).size ≤ s.size := by rw [ByteArray.size_extract]; omega

set_option maxRecDepth 100000 in
set_option maxHeartbeats 4000000 in
theorem c_seg_dotword_false {w : World} {b : Nat} {s : ByteArray} {t : St} {c : Nat} {acc : List UInt8} (h : HasM w b s t) (hs : s.size ≤ 120) (hok : Bnd (bs s) c acc t) (h1 : sees (bs s) t 46 = true) (h2 : sees (bs s) (adv t) 46 = false) (h3 : sees (bs s) (adv t) 91 = false) (h4 : sees (bs s) (adv t) 42 = false) :
    Calls Tryz.prog 65 #[.pointer (some ⟨b, 0, none⟩)] w (SegP b s c acc t w) := by
  have hbw := h.lt
  have HR := hide (((Rd.same h).alloc (.cells #[.bool false, .slice none 0 0, .string ⟨#[]⟩] 152)).alloc (.cells #[.bool false, .slice none 0 0, .string ⟨#[]⟩] 152))
  have B0 := hide ((Blk.new w #[.bool false, .slice none 0 0, .string ⟨#[]⟩] 152).alloc (.cells #[.bool false, .slice none 0 0, .string ⟨#[]⟩] 152))
  have X0 : Hid (Blk ((w.alloc (.cells #[.bool false, .slice none 0 0, .string ⟨#[]⟩] 152)).alloc (.cells #[.bool false, .slice none 0 0, .string ⟨#[]⟩] 152)) (w.heap.size + 1) #[.bool false, .slice none 0 0, .string ⟨#[]⟩] 152) := by
    have := Blk.new (w.alloc (.cells #[.bool false, .slice none 0 0, .string ⟨#[]⟩] 152)) #[.bool false, .slice none 0 0, .string ⟨#[]⟩] 152
    unfold Hid; simpa using this
  have hb1 : b < w.heap.size + 1 := by omega
  have HO := hide (dot_word (Or.inl ⟨rfl, h2⟩) (seg_dot hok h1) h4)
  have HIN : Hid ((adv t).p ≤ s.size) := by have := (seg_dot hok h1).le; rw [bs_len] at this; exact this
  have H1 := hide h1
  have H2 := hide h2
  have H3 := hide h3
  have H4 := hide h4
  clear h hok h1 h2 h3 h4
  go_enter Tryz.func65, Tryz.ntmps65
  go_wp2_with fail
  refine (c_has HR.out.m 46 46 rfl (by omega) hs).mono ?_
  rintro r v1 ⟨rfl, gg⟩
  rw [H1.out]
  have e1 : has (bs s) t 46 = adv t := by simp [has, H1.out]
  rw [e1] at gg
  have R1 := hide (HR.out.trans gg)
  have B1 := hide (B0.out.rd gg hbw)
  have X1 := hide (X0.out.rd gg hb1)
  clear gg e1
  go_wp2_with fail
  refine (c_has R1.out.m 46 46 rfl (by omega) hs).mono ?_
  rintro r v2 ⟨rfl, gg⟩
  rw [H2.out]
  have e1 : has (bs s) (adv t) 46 = (adv t) := by simp [has, H2.out]
  rw [e1] at gg
  have R2 := hide (R1.out.trans gg)
  have B2 := hide (B1.out.rd gg hbw)
  have X2 := hide (X1.out.rd gg hb1)
  clear gg e1
  have mf := X2.out.fz
  have m0 := X2.out.cell 0
  have m1 := X2.out.cell 1
  have m2 := X2.out.cell 2
  simp at m0 m1 m2
  have R3 := hide (R2.out.setOwn hbw (w.heap.size + 1) 0 (Nat.le_succ _) (.bool false))
  have B3 := hide (B2.out.other (Nat.ne_of_lt (Nat.lt_succ_self _)) 0 (.bool false))
  have X3 := hide (X2.out.set 0 (.bool false))
  go_wp2_with fail
  clear mf m0 m1 m2
  refine (k_sees R3.out.m 91 91 rfl (by omega)).mono ?_
  rintro r v4 ⟨rfl, gg⟩
  rw [H3.out]
  have R4 := hide (R3.out.trans gg)
  have B4 := hide (B3.out.rd gg hbw)
  have X4 := hide (X3.out.rd gg hb1)
  clear gg
  obtain ⟨pre, hpre⟩ : ∃ pre : ByteArray, pre = ⟨#[]⟩ := ⟨_, rfl⟩
  have Y4 : Hid (Blk v4 (w.heap.size + 1) #[.bool false, .slice none 0 0, .string pre] 152) := by
    unfold Hid; rw [hpre]; exact X4.out
  have hps : (pre.size : Int) ≤ 2 := by rw [hpre]; decide
  have HPR := hide hpre
  clear hpre X4
  have mf := Y4.out.fz
  have m0 := Y4.out.cell 0
  have m1 := Y4.out.cell 1
  have m2 := Y4.out.cell 2
  simp at m0 m1 m2
  go_wp2_with fail
  refine (c_has R4.out.m 42 42 rfl (by omega) hs).mono ?_
  rintro r v5 ⟨rfl, gg⟩
  rw [H4.out]
  have e1 : has (bs s) (adv t) 42 = (adv t) := by simp [has, H4.out]
  rw [e1] at gg
  have R5 := hide (R4.out.trans gg)
  have B5 := hide (B4.out.rd gg hbw)
  have X5 := hide (Y4.out.rd gg hb1)
  clear gg e1
  clear mf m0 m1 m2
  have mf := X5.out.fz
  have m0 := X5.out.cell 0
  have m1 := X5.out.cell 1
  have m2 := X5.out.cell 2
  simp at m0 m1 m2
  go_wp2_with fail
  clear mf m0 m1 m2
  have hin : (adv t).p ≤ s.size := HIN.out
  refine (c_word R5.out.m hs hin).mono ?_
  rintro r v6 ⟨rfl, gg⟩
  have R6 := hide (R5.out.trans gg)
  have B6 := hide (B5.out.rd gg hbw)
  have X6 := hide (X5.out.rd gg hb1)
  clear gg
  have hst := size_extract s (adv t).p (wordP (bs s) (adv t)).p
  have HS := hide (bs_extract s (adv t).p (wordP (bs s) (adv t)).p)
  generalize s.extract (adv t).p (wordP (bs s) (adv t)).p = str at *
  have mf := X6.out.fz
  have m0 := X6.out.cell 0
  have m1 := X6.out.cell 1
  have m2 := X6.out.cell 2
  simp at m0 m1 m2
  have kf := B6.out.fz
  have k0 := B6.out.cell 0
  have k1 := B6.out.cell 1
  have k2 := B6.out.cell 2
  simp at k0 k1 k2
  have hw5 : w.heap.size + 1 < v6.heap.size := X6.out.lt
  have hw6 : w.heap.size < v6.heap.size := by omega
  have hne : w.heap.size ≠ w.heap.size + 1 := by omega
  go_wp2
  refine ret_seg rfl rfl ((((((B6.out.other hne 1 _).other hne 2 _).set 0 _).set 1 _).set 2 _).alloc _) ?_
  refine ⟨false, _, 1, 1, _, _, rfl, (((R6.out.setOwn hbw _ 1 (Nat.le_succ _) _).setOwn hbw _ 2 (Nat.le_succ _) _).set3 hbw _ (Nat.le_refl _) _ _ _).alloc _, ?_, ?_, ?_⟩
  · have := HO.out
    rw [bs_append, bs_append, bs_append, HS.out, HPR.out]
    simpa [bs] using this
  · intro _
    have := wordP_ge (bs s) (adv t)
    simp only [adv] at this ⊢
    omega
  · rw [HPR.out]
    simp only [ByteArray.size_append]
    have e1 : (⟨#[]⟩ : ByteArray).size ≤ 2 := by decide
    have e2 : (⟨#[91, 39]⟩ : ByteArray).size = 2 := rfl
    have e3 : (⟨#[39, 93]⟩ : ByteArray).size = 2 := rfl
    omega

set_option maxRecDepth 100000 in
set_option maxHeartbeats 4000000 in
theorem c_seg_dotword_true {w : World} {b : Nat} {s : ByteArray} {t : St} {c : Nat} {acc : List UInt8} (h : HasM w b s t) (hs : s.size ≤ 120) (hok : Bnd (bs s) c acc t) (h1 : sees (bs s) t 46 = true) (h2 : sees (bs s) (adv t) 46 = false) (h3 : sees (bs s) (adv t) 91 = true) (h4 : sees (bs s) (adv t) 42 = false) :
    Calls Tryz.prog 65 #[.pointer (some ⟨b, 0, none⟩)] w (SegP b s c acc t w) := by
  have hbw := h.lt
  have HR := hide (((Rd.same h).alloc (.cells #[.bool false, .slice none 0 0, .string ⟨#[]⟩] 152)).alloc (.cells #[.bool false, .slice none 0 0, .string ⟨#[]⟩] 152))
  have B0 := hide ((Blk.new w #[.bool false, .slice none 0 0, .string ⟨#[]⟩] 152).alloc (.cells #[.bool false, .slice none 0 0, .string ⟨#[]⟩] 152))
  have X0 : Hid (Blk ((w.alloc (.cells #[.bool false, .slice none 0 0, .string ⟨#[]⟩] 152)).alloc (.cells #[.bool false, .slice none 0 0, .string ⟨#[]⟩] 152)) (w.heap.size + 1) #[.bool false, .slice none 0 0, .string ⟨#[]⟩] 152) := by
    have := Blk.new (w.alloc (.cells #[.bool false, .slice none 0 0, .string ⟨#[]⟩] 152)) #[.bool false, .slice none 0 0, .string ⟨#[]⟩] 152
    unfold Hid; simpa using this
  have hb1 : b < w.heap.size + 1 := by omega
  have HO := hide (dot_word (Or.inl ⟨rfl, h2⟩) (seg_dot hok h1) h4)
  have HIN : Hid ((adv t).p ≤ s.size) := by have := (seg_dot hok h1).le; rw [bs_len] at this; exact this
  have H1 := hide h1
  have H2 := hide h2
  have H3 := hide h3
  have H4 := hide h4
  clear h hok h1 h2 h3 h4
  go_enter Tryz.func65, Tryz.ntmps65
  go_wp2_with fail
  refine (c_has HR.out.m 46 46 rfl (by omega) hs).mono ?_
  rintro r v1 ⟨rfl, gg⟩
  rw [H1.out]
  have e1 : has (bs s) t 46 = adv t := by simp [has, H1.out]
  rw [e1] at gg
  have R1 := hide (HR.out.trans gg)
  have B1 := hide (B0.out.rd gg hbw)
  have X1 := hide (X0.out.rd gg hb1)
  clear gg e1
  go_wp2_with fail
  refine (c_has R1.out.m 46 46 rfl (by omega) hs).mono ?_
  rintro r v2 ⟨rfl, gg⟩
  rw [H2.out]
  have e1 : has (bs s) (adv t) 46 = (adv t) := by simp [has, H2.out]
  rw [e1] at gg
  have R2 := hide (R1.out.trans gg)
  have B2 := hide (B1.out.rd gg hbw)
  have X2 := hide (X1.out.rd gg hb1)
  clear gg e1
  have mf := X2.out.fz
  have m0 := X2.out.cell 0
  have m1 := X2.out.cell 1
  have m2 := X2.out.cell 2
  simp at m0 m1 m2
  have R3 := hide (R2.out.setOwn hbw (w.heap.size + 1) 0 (Nat.le_succ _) (.bool false))
  have B3 := hide (B2.out.other (Nat.ne_of_lt (Nat.lt_succ_self _)) 0 (.bool false))
  have X3 := hide (X2.out.set 0 (.bool false))
  go_wp2_with fail
  clear mf m0 m1 m2
  refine (k_sees R3.out.m 91 91 rfl (by omega)).mono ?_
  rintro r v4 ⟨rfl, gg⟩
  rw [H3.out]
  have R4 := hide (R3.out.trans gg)
  have B4 := hide (B3.out.rd gg hbw)
  have X4 := hide (X3.out.rd gg hb1)
  clear gg
  obtain ⟨pre, hpre⟩ : ∃ pre : ByteArray, pre = ⟨#[]⟩ := ⟨_, rfl⟩
  have Y4 : Hid (Blk v4 (w.heap.size + 1) #[.bool false, .slice none 0 0, .string pre] 152) := by
    unfold Hid; rw [hpre]; exact X4.out
  have hps : (pre.size : Int) ≤ 2 := by rw [hpre]; decide
  have HPR := hide hpre
  clear hpre X4
  have mf := Y4.out.fz
  have m0 := Y4.out.cell 0
  have m1 := Y4.out.cell 1
  have m2 := Y4.out.cell 2
  simp at m0 m1 m2
  go_wp2_with fail
  refine (c_has R4.out.m 42 42 rfl (by omega) hs).mono ?_
  rintro r v5 ⟨rfl, gg⟩
  rw [H4.out]
  have e1 : has (bs s) (adv t) 42 = (adv t) := by simp [has, H4.out]
  rw [e1] at gg
  have R5 := hide (R4.out.trans gg)
  have B5 := hide (B4.out.rd gg hbw)
  have X5 := hide (Y4.out.rd gg hb1)
  clear gg e1
  clear mf m0 m1 m2
  have mf := X5.out.fz
  have m0 := X5.out.cell 0
  have m1 := X5.out.cell 1
  have m2 := X5.out.cell 2
  simp at m0 m1 m2
  go_wp2_with fail
  clear mf m0 m1 m2
  have hin : (adv t).p ≤ s.size := HIN.out
  refine (c_word R5.out.m hs hin).mono ?_
  rintro r v6 ⟨rfl, gg⟩
  have R6 := hide (R5.out.trans gg)
  have B6 := hide (B5.out.rd gg hbw)
  have X6 := hide (X5.out.rd gg hb1)
  clear gg
  have hst := size_extract s (adv t).p (wordP (bs s) (adv t)).p
  have HS := hide (bs_extract s (adv t).p (wordP (bs s) (adv t)).p)
  generalize s.extract (adv t).p (wordP (bs s) (adv t)).p = str at *
  have mf := X6.out.fz
  have m0 := X6.out.cell 0
  have m1 := X6.out.cell 1
  have m2 := X6.out.cell 2
  simp at m0 m1 m2
  have kf := B6.out.fz
  have k0 := B6.out.cell 0
  have k1 := B6.out.cell 1
  have k2 := B6.out.cell 2
  simp at k0 k1 k2
  have hw5 : w.heap.size + 1 < v6.heap.size := X6.out.lt
  have hw6 : w.heap.size < v6.heap.size := by omega
  have hne : w.heap.size ≠ w.heap.size + 1 := by omega
  go_wp2
  refine ret_seg rfl rfl ((((((B6.out.other hne 1 _).other hne 2 _).set 0 _).set 1 _).set 2 _).alloc _) ?_
  refine ⟨false, _, 1, 1, _, _, rfl, (((R6.out.setOwn hbw _ 1 (Nat.le_succ _) _).setOwn hbw _ 2 (Nat.le_succ _) _).set3 hbw _ (Nat.le_refl _) _ _ _).alloc _, ?_, ?_, ?_⟩
  · have := HO.out
    rw [bs_append, bs_append, bs_append, HS.out, HPR.out]
    simpa [bs] using this
  · intro _
    have := wordP_ge (bs s) (adv t)
    simp only [adv] at this ⊢
    omega
  · rw [HPR.out]
    simp only [ByteArray.size_append]
    have e1 : (⟨#[]⟩ : ByteArray).size ≤ 2 := by decide
    have e2 : (⟨#[91, 39]⟩ : ByteArray).size = 2 := rfl
    have e3 : (⟨#[39, 93]⟩ : ByteArray).size = 2 := rfl
    omega

set_option maxRecDepth 100000 in
set_option maxHeartbeats 4000000 in
theorem c_seg_ddword {w : World} {b : Nat} {s : ByteArray} {t : St} {c : Nat} {acc : List UInt8} (h : HasM w b s t) (hs : s.size ≤ 120) (hok : Bnd (bs s) c acc t) (h1 : sees (bs s) t 46 = true) (h2 : sees (bs s) (adv t) 46 = true) (h3 : sees (bs s) (adv (adv t)) 91 = false) (h4 : sees (bs s) (adv (adv t)) 42 = false) :
    Calls Tryz.prog 65 #[.pointer (some ⟨b, 0, none⟩)] w (SegP b s c acc t w) := by
  have hbw := h.lt
  have HR := hide (((Rd.same h).alloc (.cells #[.bool false, .slice none 0 0, .string ⟨#[]⟩] 152)).alloc (.cells #[.bool false, .slice none 0 0, .string ⟨#[]⟩] 152))
  have B0 := hide ((Blk.new w #[.bool false, .slice none 0 0, .string ⟨#[]⟩] 152).alloc (.cells #[.bool false, .slice none 0 0, .string ⟨#[]⟩] 152))
  have X0 : Hid (Blk ((w.alloc (.cells #[.bool false, .slice none 0 0, .string ⟨#[]⟩] 152)).alloc (.cells #[.bool false, .slice none 0 0, .string ⟨#[]⟩] 152)) (w.heap.size + 1) #[.bool false, .slice none 0 0, .string ⟨#[]⟩] 152) := by
    have := Blk.new (w.alloc (.cells #[.bool false, .slice none 0 0, .string ⟨#[]⟩] 152)) #[.bool false, .slice none 0 0, .string ⟨#[]⟩] 152
    unfold Hid; simpa using this
  have hb1 : b < w.heap.size + 1 := by omega
  have HO := hide (dot_word (Or.inr ⟨rfl, h3⟩) (dot_dot (seg_dot hok h1) h2) h4)
  have HIN : Hid ((adv (adv t)).p ≤ s.size) := by have := (dot_dot (seg_dot hok h1) h2).le; rw [bs_len] at this; exact this
  have H1 := hide h1
  have H2 := hide h2
  have H3 := hide h3
  have H4 := hide h4
  clear h hok h1 h2 h3 h4
  go_enter Tryz.func65, Tryz.ntmps65
  go_wp2_with fail
  refine (c_has HR.out.m 46 46 rfl (by omega) hs).mono ?_
  rintro r v1 ⟨rfl, gg⟩
  rw [H1.out]
  have e1 : has (bs s) t 46 = adv t := by simp [has, H1.out]
  rw [e1] at gg
  have R1 := hide (HR.out.trans gg)
  have B1 := hide (B0.out.rd gg hbw)
  have X1 := hide (X0.out.rd gg hb1)
  clear gg e1
  go_wp2_with fail
  refine (c_has R1.out.m 46 46 rfl (by omega) hs).mono ?_
  rintro r v2 ⟨rfl, gg⟩
  rw [H2.out]
  have e1 : has (bs s) (adv t) 46 = adv (adv t) := by simp [has, H2.out]
  rw [e1] at gg
  have R2 := hide (R1.out.trans gg)
  have B2 := hide (B1.out.rd gg hbw)
  have X2 := hide (X1.out.rd gg hb1)
  clear gg e1
  have mf := X2.out.fz
  have m0 := X2.out.cell 0
  have m1 := X2.out.cell 1
  have m2 := X2.out.cell 2
  simp at m0 m1 m2
  have R3 := hide ((R2.out.setOwn hbw (w.heap.size + 1) 0 (Nat.le_succ _) (.bool true)).setOwn hbw (w.heap.size + 1) 2 (Nat.le_succ _) (.string ⟨#[46, 46]⟩))
  have B3 := hide ((B2.out.other (Nat.ne_of_lt (Nat.lt_succ_self _)) 0 (.bool true)).other (Nat.ne_of_lt (Nat.lt_succ_self _)) 2 (.string ⟨#[46, 46]⟩))
  have X3 := hide ((X2.out.set 0 (.bool true)).set 2 (.string ⟨#[46, 46]⟩))
  go_wp2_with fail
  clear mf m0 m1 m2
  refine (k_sees R3.out.m 91 91 rfl (by omega)).mono ?_
  rintro r v4 ⟨rfl, gg⟩
  rw [H3.out]
  have R4 := hide (R3.out.trans gg)
  have B4 := hide (B3.out.rd gg hbw)
  have X4 := hide (X3.out.rd gg hb1)
  clear gg
  obtain ⟨pre, hpre⟩ : ∃ pre : ByteArray, pre = ⟨#[46, 46]⟩ := ⟨_, rfl⟩
  have Y4 : Hid (Blk v4 (w.heap.size + 1) #[.bool true, .slice none 0 0, .string pre] 152) := by
    unfold Hid; rw [hpre]; exact X4.out
  have hps : (pre.size : Int) ≤ 2 := by rw [hpre]; decide
  have HPR := hide hpre
  clear hpre X4
  have mf := Y4.out.fz
  have m0 := Y4.out.cell 0
  have m1 := Y4.out.cell 1
  have m2 := Y4.out.cell 2
  simp at m0 m1 m2
  go_wp2_with fail
  refine (c_has R4.out.m 42 42 rfl (by omega) hs).mono ?_
  rintro r v5 ⟨rfl, gg⟩
  rw [H4.out]
  have e1 : has (bs s) (adv (adv t)) 42 = (adv (adv t)) := by simp [has, H4.out]
  rw [e1] at gg
  have R5 := hide (R4.out.trans gg)
  have B5 := hide (B4.out.rd gg hbw)
  have X5 := hide (Y4.out.rd gg hb1)
  clear gg e1
  clear mf m0 m1 m2
  have mf := X5.out.fz
  have m0 := X5.out.cell 0
  have m1 := X5.out.cell 1
  have m2 := X5.out.cell 2
  simp at m0 m1 m2
  go_wp2_with fail
  clear mf m0 m1 m2
  have hin : (adv (adv t)).p ≤ s.size := HIN.out
  refine (c_word R5.out.m hs hin).mono ?_
  rintro r v6 ⟨rfl, gg⟩
  have R6 := hide (R5.out.trans gg)
  have B6 := hide (B5.out.rd gg hbw)
  have X6 := hide (X5.out.rd gg hb1)
  clear gg
  have hst := size_extract s (adv (adv t)).p (wordP (bs s) (adv (adv t))).p
  have HS := hide (bs_extract s (adv (adv t)).p (wordP (bs s) (adv (adv t))).p)
  generalize s.extract (adv (adv t)).p (wordP (bs s) (adv (adv t))).p = str at *
  have mf := X6.out.fz
  have m0 := X6.out.cell 0
  have m1 := X6.out.cell 1
  have m2 := X6.out.cell 2
  simp at m0 m1 m2
  have kf := B6.out.fz
  have k0 := B6.out.cell 0
  have k1 := B6.out.cell 1
  have k2 := B6.out.cell 2
  simp at k0 k1 k2
  have hw5 : w.heap.size + 1 < v6.heap.size := X6.out.lt
  have hw6 : w.heap.size < v6.heap.size := by omega
  have hne : w.heap.size ≠ w.heap.size + 1 := by omega
  go_wp2
  refine ret_seg rfl rfl ((((((B6.out.other hne 1 _).other hne 2 _).set 0 _).set 1 _).set 2 _).alloc _) ?_
  refine ⟨true, _, 1, 1, _, _, rfl, (((R6.out.setOwn hbw _ 1 (Nat.le_succ _) _).setOwn hbw _ 2 (Nat.le_succ _) _).set3 hbw _ (Nat.le_refl _) _ _ _).alloc _, ?_, ?_, ?_⟩
  · have := HO.out
    rw [bs_append, bs_append, bs_append, HS.out, HPR.out]
    simpa [bs] using this
  · intro _
    have := wordP_ge (bs s) (adv (adv t))
    simp only [adv] at this ⊢
    omega
  · rw [HPR.out]
    simp only [ByteArray.size_append]
    have e1 : (⟨#[46, 46]⟩ : ByteArray).size ≤ 2 := by decide
    have e2 : (⟨#[91, 39]⟩ : ByteArray).size = 2 := rfl
    have e3 : (⟨#[39, 93]⟩ : ByteArray).size = 2 := rfl
    omega

end Go.Proofs.YtcbadebjpogmlaaGreatDoor
