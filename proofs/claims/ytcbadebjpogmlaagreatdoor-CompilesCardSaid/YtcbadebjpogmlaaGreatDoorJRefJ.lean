/- The reference reader's segment in brackets, and so every segment. -/
import Derived.Test.YtcbadebjpogmlaaGreatDoorJRefI
namespace Go.Proofs.YtcbadebjpogmlaaGreatDoor
open Go.RowKit Tr

theorem Tryz.infoSelector : (Tryz.prog.info? 189).map (fun i => (i.zero, i.size, i.bytes)) = some (some (.agg #[.int .i64 0, .string ⟨#[]⟩, .int .i64 0, .int .i64 0, .int .i64 0, .pointer none]), 6, 56) := by kernel_rfl

theorem nb_open : nb ⟨#[91]⟩ = [91] := rfl
theorem nb_shut : nb ⟨#[93]⟩ = [93] := rfl
theorem Blk.grown {w w' : World} {g : Nat} {cs : Array Value} {T : TypeId} {row : Option Nat} (h : Blk w g cs T) (hg : w.grownBy w' row) (hr : ∀ k, row = some k → g < k) : Blk w' g cs T :=
  (hg.block g h.lt (fun e => by have := hr g e.symm; omega)).trans h
theorem Fr.drewAny {K : Nat → Prop} {a w w' : World} (h : Fr K a w) (e1 : w'.os = w.os) (e2 : w'.tape = w.tape) (e3 : w'.output = w.output) (e4 : w'.heap = w.heap) : Fr K a w' :=
  ⟨e1.trans h.os, e2.trans h.tape, e3.trans h.output, by rw [e4]; exact h.size, fun k hk hK => by rw [e4]; exact h.block k hk hK⟩
theorem sub_head {s : List UInt8} {F p : Nat} (h : F + 1 ≤ p) (hb : bt s F = 91) : sub s F p = [91] ++ sub s (F + 1) p := by
  rw [sub_trans (s := s) (a := F) (b := F + 1) (c := p) (by omega) h, sub_snoc (Nat.le_refl _) (by omega), sub_self, hb]
  rfl

/-- The end of a bracket: what the text comes to. -/
theorem br_end {s : List UInt8} {c F : Nat} {acc pre : List UInt8} {t' : St} (hT : T s (F + 1) = acc ++ pre ++ [91]) (hb : bt s F = 91) (hF : F + 1 ≤ t'.p) (h : OkB s c (T s (F + 1) ++ sub s (F + 1) t'.p) t') : OkB s c (acc ++ (pre ++ sub s F t'.p)) t' := by
  rw [hT] at h
  rw [sub_head hF hb]
  simpa using h

set_option maxRecDepth 100000 in
set_option maxHeartbeats 4000000 in
theorem c_seg_br {w : World} {b : Nat} {s : ByteArray} {t : St} {c : Nat} {acc : List UInt8} (h : HasM w b s t) (hs : s.size ≤ 120) (hok : Bnd (bs s) c acc t) (hp : t.p < s.size) (h1 : sees (bs s) t 46 = false) :
    Calls Tryz.prog 65 #[.pointer (some ⟨b, 0, none⟩)] w (SegP b s c acc t w) := by
  have hbw := h.lt
  have HR := hide (((Rd.same h).alloc (.cells #[.bool false, .slice none 0 0, .string ⟨#[]⟩] 152)).alloc (.cells #[.bool false, .slice none 0 0, .string ⟨#[]⟩] 152))
  have B0 := hide ((Blk.new w #[.bool false, .slice none 0 0, .string ⟨#[]⟩] 152).alloc (.cells #[.bool false, .slice none 0 0, .string ⟨#[]⟩] 152))
  have X0 : Hid (Blk ((w.alloc (.cells #[.bool false, .slice none 0 0, .string ⟨#[]⟩] 152)).alloc (.cells #[.bool false, .slice none 0 0, .string ⟨#[]⟩] 152)) (w.heap.size + 1) #[.bool false, .slice none 0 0, .string ⟨#[]⟩] 152) := by
    have := Blk.new (w.alloc (.cells #[.bool false, .slice none 0 0, .string ⟨#[]⟩] 152)) #[.bool false, .slice none 0 0, .string ⟨#[]⟩] 152
    unfold Hid; simpa using this
  have hb1 : b < w.heap.size + 1 := by omega
  have hsb := seg_br hok (by rw [bs_len]; exact hp) h1
  have HO := hide hsb.1
  have HT0 := hide hsb.2
  have HLV := hide hok.lv
  have HFL := hide (Nat.le_of_lt hp)
  clear hsb
  obtain ⟨i0, hi, hz0, hz1, hz2⟩ := info_parts Tryz.infoSelector
  have HI := hide hi
  have HZ0 := hide hz0
  have HZ1 := hide hz1
  have HZ2 := hide hz2
  clear hi hz0 hz1 hz2
  have H1 := hide h1
  clear h hok h1
  go_enter Tryz.func65, Tryz.ntmps65
  go_wp2_with fail
  refine (c_has HR.out.m 46 46 rfl (by omega) hs).mono ?_
  rintro r v1 ⟨rfl, gg⟩
  rw [H1.out]
  have e1 : has (bs s) t 46 = t := by simp [has, H1.out]
  rw [e1] at gg
  have R1 := hide (HR.out.trans gg)
  have B1 := hide (B0.out.rd gg hbw)
  have X1 := hide (X0.out.rd gg hb1)
  clear gg e1
  have mf := X1.out.fz
  have m0 := X1.out.cell 0
  have m1 := X1.out.cell 1
  have m2 := X1.out.cell 2
  simp at m0 m1 m2
  go_wp2_with fail
  clear mf m0 m1 m2
  refine (k_sees R1.out.m 91 91 rfl (by omega)).mono ?_
  rintro r v4 ⟨rfl, gg⟩
  generalize sees (bs s) (t) 91 = x4 at *
  have R4 := hide (R1.out.trans gg)
  have B4 := hide (B1.out.rd gg hbw)
  have X4 := hide (X1.out.rd gg hb1)
  clear gg
  obtain ⟨pre, hpre⟩ : ∃ pre : ByteArray, pre = ⟨#[]⟩ := ⟨_, rfl⟩
  have Y4 : Hid (Blk v4 (w.heap.size + 1) #[.bool false, .slice none 0 0, .string pre] 152) := by
    unfold Hid; rw [hpre]; exact X4.out
  have hps : (pre.size : Int) ≤ 2 := by rw [hpre]; decide
  have HPR := hide hpre
  clear hpre X4
  have mf := Y4.out.fz
  have m0 := Y4.out.cell 0
  have m1 := Y4.out.cell 1
  have m2 := Y4.out.cell 2
  simp at m0 m1 m2
  have c1 := R4.out.m.c1
  go_wp2_with fail
  clear mf m0 m1 m2
  clear c1
  refine (c_must R4.out.m ⟨#[91]⟩ (by decide) hs).mono ?_
  rintro r v5 ⟨rfl, gg⟩
  rw [nb_open] at gg
  have R5 := hide (R4.out.trans gg)
  have B5 := hide (B4.out.rd gg hbw)
  have X5 := hide (Y4.out.rd gg hb1)
  clear gg
  have hF : t.p ≤ s.size := HFL.out
  have HT : Hid ((must (bs s) t [91]).e = 0 → T (bs s) (t.p + 1) = acc ++ bs pre ++ [91] ∧ bt (bs s) t.p = 91) := fun e => by have := HT0.out e; rw [HPR.out]; simpa [bs] using this
  clear HT0
  generalize must (bs s) t [91] = u5 at *
  generalize hFe : t.p = F at *
  have HFT : Hid (t.p ≤ F) := by unfold Hid; omega
  clear hFe
  go_wp2_with fail
  go_loopw [9, 10] (fun _ _ wr => ∃ (u : St) (k : Nat) (a : Option Addr) (cp : Nat) (xs : List Value), wr.ownsRow (w.heap.size + 2) 189 6 (.slice a k cp) k xs ∧ k ≤ u.p ∧ Rd b s w u wr ∧ Blk wr w.heap.size #[.bool false, .slice none 0 0, .string ⟨#[]⟩] 152 ∧ Blk wr (w.heap.size + 1) #[.bool false, .slice a k cp, .string pre] 152 ∧ Ok (bs s) (F + 1) (c + k + 1) 6 [] 0 u ∧ (u.e = 0 → u5.e = 0)) (fun _ _ wr => meas b s.size wr)
  case atStart => exact ⟨u5, 0, none, 0, [], World.ownsRow_nil _ _ _ _, Nat.zero_le _, R5.out, B5.out, X5.out, HO.out, id⟩
  case round =>
    clear R5 B5 X5 HO
    obtain ⟨u, k, a, cp, xs, hown, hk, hr, hB, hX, ho, hu5⟩ := hrel
    have hle := ho.le
    rw [bs_len] at hle
    have q2 := hr.m.c2
    have R := hide hr
    have O := hide ho
    have WN := hide hown
    have B := hide hB
    have X := hide hX
    have HU5 := hide hu5
    clear hr ho hown hB hX hu5
    by_cases he : u.e = 0
    · have he2 : ((u.e : Int) == 0) = true := by rw [he]; rfl
      have HE := hide he
      clear he
      go_wp2_with fail
      refine (c_selector R.out.m hs O.out.mine).mono ?_
      clear q2
      rintro r v6 ⟨v, u6, rfl, ⟨x0, x2, x3, x4, x1, x5, rfl⟩, gg, o6⟩
      have R6 := hide (R.out.trans gg)
      have B6 := hide (B.out.rd gg hbw)
      have X6 := hide (X.out.rd gg hb1)
      have W6 := hide (own_fr WN.out gg.f (fun g hg e => by unfold PB at e; omega))
      have O6 := hide (O.out.theirs o6)
      clear gg o6
      have hw6 : w.heap.size + 1 < v6.heap.size := X6.out.lt
      have hw7 : w.heap.size < v6.heap.size := by omega
      have hown6 := W6.out
      have mf := X6.out.fz
      have m0 := X6.out.cell 0
      have m1 := X6.out.cell 1
      have m2 := X6.out.cell 2
      simp at m0 m1 m2
      go_wp2_with (at_builtin; refine wpList_append_own _ rfl _ _ 150 rfl (w.heap.size + 2) 189 i0 _ 6 56 Tryz.underlying150 HI.out HZ0.out HZ1.out HZ2.out rfl (by decide) _ _ _ rfl ((hown6.alloc _).alloc _) ⟨v6.heap.size + 1, 0, none⟩ 1 1 [.int .i64 x0, .string x1, .int .i64 x2, .int .i64 x3, .int .i64 x4, .pointer x5] rfl rfl ?c1 ?c2 ?c3 ?c4 ?c5 ?_)
      case c1 =>
        intro j u hj
        match j, hj with
        | 0, hj => simp at hj; subst hj; simp [Addr.add]
        | 1, hj => simp at hj; subst hj; simp [Addr.add]
        | 2, hj => simp at hj; subst hj; simp [Addr.add]
        | 3, hj => simp at hj; subst hj; simp [Addr.add]
        | 4, hj => simp at hj; subst hj; simp [Addr.add]
        | 5, hj => simp at hj; subst hj; simp [Addr.add]
      case c2 => intro u hu; simp at hu; rcases hu with rfl | rfl | rfl | rfl | rfl | rfl <;> rfl
      case c3 => unfold maxLen; omega
      case c4 => omega
      case c5 => simp; omega
      intro v' w7 hown7 hgrow _
      have R7 := hide (((R6.out.alloc _).alloc _).grown hgrow hbw (fun k hk => by have := (hown6.lt k hk).1; omega))
      have B7 := hide (((B6.out.alloc _).alloc _).grown hgrow (fun k hk => by have := (hown6.lt k hk).1; omega))
      have X7 := hide (((X6.out.alloc _).alloc _).grown hgrow (fun k hk => by have := (hown6.lt k hk).1; omega))
      have W7 := hide hown7
      clear hgrow hown7 hown6 mf m0 m1 m2
      obtain ⟨a7, c7, rfl⟩ := own_slice W7.out
      have hne : w.heap.size ≠ w.heap.size + 1 := by omega
      have mf := X7.out.fz
      have m0 := X7.out.cell 0
      have m1 := X7.out.cell 1
      have m2 := X7.out.cell 2
      simp at m0 m1 m2
      have R8 := hide (R7.out.setOwn hbw (w.heap.size + 1) 1 (Nat.le_succ _) (.slice a7 (k + 1) c7))
      have B8 := hide (B7.out.other hne 1 (.slice a7 (k + 1) c7))
      have X8 := hide (X7.out.set 1 (.slice a7 (k + 1) c7))
      have W8 := hide (own_fr W7.out ((Fr.refl (fun g => g = w.heap.size + 1) w7).setCell ⟨w.heap.size + 1, 1, none⟩ (Or.inl rfl) (.slice a7 (k + 1) c7)) (fun g hg e => by omega))
      go_wp2_with fail
      clear mf m0 m1 m2
      cases hc : sees (bs s) u6 44
      · have HC := hide hc
        clear hc
        refine (c_has R8.out.m 44 44 rfl (by omega) hs).mono ?_
        rintro r v9 ⟨rfl, gg⟩
        rw [HC.out]
        have e1 : has (bs s) u6 44 = u6 := by simp [has, HC.out]
        rw [e1] at gg
        have R9 := hide (R8.out.trans gg)
        have B9 := hide (B8.out.rd gg hbw)
        have X9 := hide (X8.out.rd gg hb1)
        clear gg e1
        go_wp2_with fail
        refine (c_must R9.out.m ⟨#[93]⟩ (by decide) hs).mono ?_
        rintro r va ⟨rfl, gg⟩
        rw [nb_shut] at gg
        have RA := hide (R9.out.trans gg)
        have BA := hide (B9.out.rd gg hbw)
        have XA := hide (X9.out.rd gg hb1)
        clear gg
        have OA := hide (sel_close O6.out.1 HC.out)
        have HG : Hid (u6.e = 0 → F + 1 ≤ u6.p) := fun e => (O6.out.1.live e).ge
        have HGM := hide (must_ge (bs s) [93] u6)
        have HME : Hid ((must (bs s) u6 [93]).e = 0 → u6.e = 0) := fun e => by
          by_cases h : u6.e = 0
          · exact h
          · rw [must_err _ _ _ h] at e; exact e
        generalize must (bs s) u6 [93] = ua at *
        have hge : F ≤ ua.p := by
          rcases OA.out with h | h
          · have := HG.out (HME.out h.e0); have := HGM.out; omega
          · exact h.er.ge HLV.out
        have hla : ua.p ≤ s.size := by
          have : ua.p ≤ (bs s).length := by rcases OA.out with h | h; exact h.le; exact h.er.le
          rw [bs_len] at this; exact this
        have q0 := RA.out.m.c0
        have q1 := RA.out.m.c1
        have mf := XA.out.fz
        have m0 := XA.out.cell 0
        have m1 := XA.out.cell 1
        have m2 := XA.out.cell 2
        simp at m0 m1 m2
        have kf := BA.out.fz
        have k0 := BA.out.cell 0
        have k1 := BA.out.cell 1
        have k2 := BA.out.cell 2
        simp at k0 k1 k2
        go_wp2
        go_region
        go_wp2
        refine ret_seg rfl rfl (by exact ((((BA.out.other hne 2 _).set 0 _).set 1 _).set 2 _)) ?_
        refine ⟨false, a7, k + 1, c7, _, ua, rfl, by exact (((RA.out.setOwn hbw _ 2 (Nat.le_succ _) _).set3 hbw _ (Nat.le_refl _) _ _ _).drew), ?_, ?_, ?_⟩
        · rw [bs_append, bs_extract]
          rw [show c + (k + 1) = c + k + 1 from by omega]
          rcases OA.out with h | h
          · have h5 := HT.out (HU5.out HE.out)
            exact br_end h5.1 h5.2 (by have := HG.out (HME.out h.e0); have := HGM.out; omega) OA.out
          · exact Or.inr h
        · intro e
          have := HG.out (HME.out e); have := HGM.out; have := HFT.out; omega
        · rw [ByteArray.size_append]
          have := size_extract s F ua.p
          omega
      · have HC := hide hc
        clear hc
        refine (c_has R8.out.m 44 44 rfl (by omega) hs).mono ?_
        rintro r v9 ⟨rfl, gg⟩
        rw [HC.out]
        have e1 : has (bs s) u6 44 = adv u6 := by simp [has, HC.out]
        rw [e1] at gg
        have R9 := hide (R8.out.trans gg)
        have B9 := hide (B8.out.rd gg hbw)
        have X9 := hide (X8.out.rd gg hb1)
        have W9 := hide (own_fr W8.out gg.f (fun g hg e => by unfold PB at e; omega))
        clear gg e1
        have hu6 := O6.out.2 (sees_e HC.out).1
        go_wp2
        go_roundw
        case rel => exact ⟨adv u6, k + 1, a7, c7, _, W9.out, by simp [adv]; omega, R9.out, B9.out, X9.out, by have := sel_comma O6.out.1 HC.out; rw [show c + (k + 1) + 1 = c + k + 1 + 1 from by omega]; exact this, fun _ => HU5.out HE.out⟩
        case measure =>
          rw [R.out.m.meas, R9.out.m.meas, if_pos HE.out]
          split
          · simp only [adv]; omega
          · omega
    · have he2 := beq0 he
      go_wp2_with fail
      refine (c_must R.out.m ⟨#[93]⟩ (by decide) hs).mono ?_
      clear q2
      rintro r va ⟨rfl, gg⟩
      rw [nb_shut, must_err _ _ _ he] at gg
      have RA := hide (R.out.trans gg)
      have BA := hide (B.out.rd gg hbw)
      have XA := hide (X.out.rd gg hb1)
      clear gg
      have HBD : Hid (Bad (bs s) 0 u) := by
        rcases O.out with h | h
        · exact absurd h.e0 he
        · exact h
      have HE := hide he
      have hge : F ≤ u.p := HBD.out.er.ge HLV.out
      have q0 := RA.out.m.c0
      have q1 := RA.out.m.c1
      have hne : w.heap.size ≠ w.heap.size + 1 := by omega
      have mf := XA.out.fz
      have m0 := XA.out.cell 0
      have m1 := XA.out.cell 1
      have m2 := XA.out.cell 2
      simp at m0 m1 m2
      have kf := BA.out.fz
      have k0 := BA.out.cell 0
      have k1 := BA.out.cell 1
      have k2 := BA.out.cell 2
      simp at k0 k1 k2
      clear he he2
      go_wp2
      go_region
      go_wp2
      refine ret_seg rfl rfl (by exact ((((BA.out.other hne 2 _).set 0 _).set 1 _).set 2 _)) ?_
      refine ⟨false, a, k, cp, _, u, rfl, by exact (((RA.out.setOwn hbw _ 2 (Nat.le_succ _) _).set3 hbw _ (Nat.le_refl _) _ _ _).drew), Or.inr HBD.out, fun e => absurd e HE.out, ?_⟩
      rw [ByteArray.size_append]
      have := size_extract s F u.p
      omega

set_option maxRecDepth 100000 in
set_option maxHeartbeats 4000000 in
theorem c_seg_ddbr {w : World} {b : Nat} {s : ByteArray} {t : St} {c : Nat} {acc : List UInt8} (h : HasM w b s t) (hs : s.size ≤ 120) (hok : Bnd (bs s) c acc t) (h1 : sees (bs s) t 46 = true) (h2 : sees (bs s) (adv t) 46 = true) (h3 : sees (bs s) (adv (adv t)) 91 = true) :
    Calls Tryz.prog 65 #[.pointer (some ⟨b, 0, none⟩)] w (SegP b s c acc t w) := by
  have hbw := h.lt
  have HR := hide (((Rd.same h).alloc (.cells #[.bool false, .slice none 0 0, .string ⟨#[]⟩] 152)).alloc (.cells #[.bool false, .slice none 0 0, .string ⟨#[]⟩] 152))
  have B0 := hide ((Blk.new w #[.bool false, .slice none 0 0, .string ⟨#[]⟩] 152).alloc (.cells #[.bool false, .slice none 0 0, .string ⟨#[]⟩] 152))
  have X0 : Hid (Blk ((w.alloc (.cells #[.bool false, .slice none 0 0, .string ⟨#[]⟩] 152)).alloc (.cells #[.bool false, .slice none 0 0, .string ⟨#[]⟩] 152)) (w.heap.size + 1) #[.bool false, .slice none 0 0, .string ⟨#[]⟩] 152) := by
    have := Blk.new (w.alloc (.cells #[.bool false, .slice none 0 0, .string ⟨#[]⟩] 152)) #[.bool false, .slice none 0 0, .string ⟨#[]⟩] 152
    unfold Hid; simpa using this
  have hb1 : b < w.heap.size + 1 := by omega
  have hdd := dot_dot (seg_dot hok h1) h2
  have hdb := dot_br hdd h3
  have HO := hide hdb.1
  have HT0 := hide hdb.2.1
  have HT1 := hide (sees_e h3).2
  have HLV : Hid (2 ≤ (M (bs s) (adv (adv t)).p).st) := by unfold Hid; rw [hdd.mm]; simp [cS]
  have HFL : Hid ((adv (adv t)).p ≤ s.size) := by have := hdd.le; rw [bs_len] at this; exact this
  clear hdb hdd
  obtain ⟨i0, hi, hz0, hz1, hz2⟩ := info_parts Tryz.infoSelector
  have HI := hide hi
  have HZ0 := hide hz0
  have HZ1 := hide hz1
  have HZ2 := hide hz2
  clear hi hz0 hz1 hz2
  have H1 := hide h1
  have H2 := hide h2
  have H3 := hide h3
  clear h hok h1 h2 h3
  go_enter Tryz.func65, Tryz.ntmps65
  go_wp2_with fail
  refine (c_has HR.out.m 46 46 rfl (by omega) hs).mono ?_
  rintro r v1 ⟨rfl, gg⟩
  rw [H1.out]
  have e1 : has (bs s) t 46 = adv t := by simp [has, H1.out]
  rw [e1] at gg
  have R1 := hide (HR.out.trans gg)
  have B1 := hide (B0.out.rd gg hbw)
  have X1 := hide (X0.out.rd gg hb1)
  clear gg e1
  go_wp2_with fail
  refine (c_has R1.out.m 46 46 rfl (by omega) hs).mono ?_
  rintro r v2 ⟨rfl, gg⟩
  rw [H2.out]
  have e1 : has (bs s) (adv t) 46 = adv (adv t) := by simp [has, H2.out]
  rw [e1] at gg
  have R2 := hide (R1.out.trans gg)
  have B2 := hide (B1.out.rd gg hbw)
  have X2 := hide (X1.out.rd gg hb1)
  clear gg e1
  have mf := X2.out.fz
  have m0 := X2.out.cell 0
  have m1 := X2.out.cell 1
  have m2 := X2.out.cell 2
  simp at m0 m1 m2
  have R3 := hide ((R2.out.setOwn hbw (w.heap.size + 1) 0 (Nat.le_succ _) (.bool true)).setOwn hbw (w.heap.size + 1) 2 (Nat.le_succ _) (.string ⟨#[46, 46]⟩))
  have B3 := hide ((B2.out.other (Nat.ne_of_lt (Nat.lt_succ_self _)) 0 (.bool true)).other (Nat.ne_of_lt (Nat.lt_succ_self _)) 2 (.string ⟨#[46, 46]⟩))
  have X3 := hide ((X2.out.set 0 (.bool true)).set 2 (.string ⟨#[46, 46]⟩))
  go_wp2_with fail
  clear mf m0 m1 m2
  refine (k_sees R3.out.m 91 91 rfl (by omega)).mono ?_
  rintro r v4 ⟨rfl, gg⟩
  rw [H3.out]
  have R4 := hide (R3.out.trans gg)
  have B4 := hide (B3.out.rd gg hbw)
  have X4 := hide (X3.out.rd gg hb1)
  clear gg
  obtain ⟨pre, hpre⟩ : ∃ pre : ByteArray, pre = ⟨#[46, 46]⟩ := ⟨_, rfl⟩
  have Y4 : Hid (Blk v4 (w.heap.size + 1) #[.bool true, .slice none 0 0, .string pre] 152) := by
    unfold Hid; rw [hpre]; exact X4.out
  have hps : (pre.size : Int) ≤ 2 := by rw [hpre]; decide
  have HPR := hide hpre
  clear hpre X4
  have mf := Y4.out.fz
  have m0 := Y4.out.cell 0
  have m1 := Y4.out.cell 1
  have m2 := Y4.out.cell 2
  simp at m0 m1 m2
  have c1 := R4.out.m.c1
  go_wp2_with fail
  clear mf m0 m1 m2
  clear c1
  refine (c_must R4.out.m ⟨#[91]⟩ (by decide) hs).mono ?_
  rintro r v5 ⟨rfl, gg⟩
  rw [nb_open] at gg
  have R5 := hide (R4.out.trans gg)
  have B5 := hide (B4.out.rd gg hbw)
  have X5 := hide (Y4.out.rd gg hb1)
  clear gg
  have hF : (adv (adv t)).p ≤ s.size := HFL.out
  have HT : Hid ((must (bs s) (adv (adv t)) [91]).e = 0 → T (bs s) ((adv (adv t)).p + 1) = acc ++ bs pre ++ [91] ∧ bt (bs s) (adv (adv t)).p = 91) := fun _ => ⟨by rw [HPR.out]; exact HT0.out, HT1.out⟩
  clear HT0 HT1
  generalize must (bs s) (adv (adv t)) [91] = u5 at *
  generalize hFe : (adv (adv t)).p = F at *
  have HFT : Hid (t.p ≤ F) := by unfold Hid; rw [← hFe]; simp only [adv]; omega
  clear hFe
  go_wp2_with fail
  go_loopw [9, 10] (fun _ _ wr => ∃ (u : St) (k : Nat) (a : Option Addr) (cp : Nat) (xs : List Value), wr.ownsRow (w.heap.size + 2) 189 6 (.slice a k cp) k xs ∧ k ≤ u.p ∧ Rd b s w u wr ∧ Blk wr w.heap.size #[.bool false, .slice none 0 0, .string ⟨#[]⟩] 152 ∧ Blk wr (w.heap.size + 1) #[.bool true, .slice a k cp, .string pre] 152 ∧ Ok (bs s) (F + 1) (c + k + 1) 6 [] 0 u ∧ (u.e = 0 → u5.e = 0)) (fun _ _ wr => meas b s.size wr)
  case atStart => exact ⟨u5, 0, none, 0, [], World.ownsRow_nil _ _ _ _, Nat.zero_le _, R5.out, B5.out, X5.out, HO.out, id⟩
  case round =>
    clear R5 B5 X5 HO
    obtain ⟨u, k, a, cp, xs, hown, hk, hr, hB, hX, ho, hu5⟩ := hrel
    have hle := ho.le
    rw [bs_len] at hle
    have q2 := hr.m.c2
    have R := hide hr
    have O := hide ho
    have WN := hide hown
    have B := hide hB
    have X := hide hX
    have HU5 := hide hu5
    clear hr ho hown hB hX hu5
    by_cases he : u.e = 0
    · have he2 : ((u.e : Int) == 0) = true := by rw [he]; rfl
      have HE := hide he
      clear he
      go_wp2_with fail
      refine (c_selector R.out.m hs O.out.mine).mono ?_
      clear q2
      rintro r v6 ⟨v, u6, rfl, ⟨x0, x2, x3, x4, x1, x5, rfl⟩, gg, o6⟩
      have R6 := hide (R.out.trans gg)
      have B6 := hide (B.out.rd gg hbw)
      have X6 := hide (X.out.rd gg hb1)
      have W6 := hide (own_fr WN.out gg.f (fun g hg e => by unfold PB at e; omega))
      have O6 := hide (O.out.theirs o6)
      clear gg o6
      have hw6 : w.heap.size + 1 < v6.heap.size := X6.out.lt
      have hw7 : w.heap.size < v6.heap.size := by omega
      have hown6 := W6.out
      have mf := X6.out.fz
      have m0 := X6.out.cell 0
      have m1 := X6.out.cell 1
      have m2 := X6.out.cell 2
      simp at m0 m1 m2
      go_wp2_with (at_builtin; refine wpList_append_own _ rfl _ _ 150 rfl (w.heap.size + 2) 189 i0 _ 6 56 Tryz.underlying150 HI.out HZ0.out HZ1.out HZ2.out rfl (by decide) _ _ _ rfl ((hown6.alloc _).alloc _) ⟨v6.heap.size + 1, 0, none⟩ 1 1 [.int .i64 x0, .string x1, .int .i64 x2, .int .i64 x3, .int .i64 x4, .pointer x5] rfl rfl ?c1 ?c2 ?c3 ?c4 ?c5 ?_)
      case c1 =>
        intro j u hj
        match j, hj with
        | 0, hj => simp at hj; subst hj; simp [Addr.add]
        | 1, hj => simp at hj; subst hj; simp [Addr.add]
        | 2, hj => simp at hj; subst hj; simp [Addr.add]
        | 3, hj => simp at hj; subst hj; simp [Addr.add]
        | 4, hj => simp at hj; subst hj; simp [Addr.add]
        | 5, hj => simp at hj; subst hj; simp [Addr.add]
      case c2 => intro u hu; simp at hu; rcases hu with rfl | rfl | rfl | rfl | rfl | rfl <;> rfl
      case c3 => unfold maxLen; omega
      case c4 => omega
      case c5 => simp; omega
      intro v' w7 hown7 hgrow _
      have R7 := hide (((R6.out.alloc _).alloc _).grown hgrow hbw (fun k hk => by have := (hown6.lt k hk).1; omega))
      have B7 := hide (((B6.out.alloc _).alloc _).grown hgrow (fun k hk => by have := (hown6.lt k hk).1; omega))
      have X7 := hide (((X6.out.alloc _).alloc _).grown hgrow (fun k hk => by have := (hown6.lt k hk).1; omega))
      have W7 := hide hown7
      clear hgrow hown7 hown6 mf m0 m1 m2
      obtain ⟨a7, c7, rfl⟩ := own_slice W7.out
      have hne : w.heap.size ≠ w.heap.size + 1 := by omega
      have mf := X7.out.fz
      have m0 := X7.out.cell 0
      have m1 := X7.out.cell 1
      have m2 := X7.out.cell 2
      simp at m0 m1 m2
      have R8 := hide (R7.out.setOwn hbw (w.heap.size + 1) 1 (Nat.le_succ _) (.slice a7 (k + 1) c7))
      have B8 := hide (B7.out.other hne 1 (.slice a7 (k + 1) c7))
      have X8 := hide (X7.out.set 1 (.slice a7 (k + 1) c7))
      have W8 := hide (own_fr W7.out ((Fr.refl (fun g => g = w.heap.size + 1) w7).setCell ⟨w.heap.size + 1, 1, none⟩ (Or.inl rfl) (.slice a7 (k + 1) c7)) (fun g hg e => by omega))
      go_wp2_with fail
      clear mf m0 m1 m2
      cases hc : sees (bs s) u6 44
      · have HC := hide hc
        clear hc
        refine (c_has R8.out.m 44 44 rfl (by omega) hs).mono ?_
        rintro r v9 ⟨rfl, gg⟩
        rw [HC.out]
        have e1 : has (bs s) u6 44 = u6 := by simp [has, HC.out]
        rw [e1] at gg
        have R9 := hide (R8.out.trans gg)
        have B9 := hide (B8.out.rd gg hbw)
        have X9 := hide (X8.out.rd gg hb1)
        clear gg e1
        go_wp2_with fail
        refine (c_must R9.out.m ⟨#[93]⟩ (by decide) hs).mono ?_
        rintro r va ⟨rfl, gg⟩
        rw [nb_shut] at gg
        have RA := hide (R9.out.trans gg)
        have BA := hide (B9.out.rd gg hbw)
        have XA := hide (X9.out.rd gg hb1)
        clear gg
        have OA := hide (sel_close O6.out.1 HC.out)
        have HG : Hid (u6.e = 0 → F + 1 ≤ u6.p) := fun e => (O6.out.1.live e).ge
        have HGM := hide (must_ge (bs s) [93] u6)
        have HME : Hid ((must (bs s) u6 [93]).e = 0 → u6.e = 0) := fun e => by
          by_cases h : u6.e = 0
          · exact h
          · rw [must_err _ _ _ h] at e; exact e
        generalize must (bs s) u6 [93] = ua at *
        have hge : F ≤ ua.p := by
          rcases OA.out with h | h
          · have := HG.out (HME.out h.e0); have := HGM.out; omega
          · exact h.er.ge HLV.out
        have hla : ua.p ≤ s.size := by
          have : ua.p ≤ (bs s).length := by rcases OA.out with h | h; exact h.le; exact h.er.le
          rw [bs_len] at this; exact this
        have q0 := RA.out.m.c0
        have q1 := RA.out.m.c1
        have mf := XA.out.fz
        have m0 := XA.out.cell 0
        have m1 := XA.out.cell 1
        have m2 := XA.out.cell 2
        simp at m0 m1 m2
        have kf := BA.out.fz
        have k0 := BA.out.cell 0
        have k1 := BA.out.cell 1
        have k2 := BA.out.cell 2
        simp at k0 k1 k2
        go_wp2
        go_region
        go_wp2
        refine ret_seg rfl rfl (by exact ((((BA.out.other hne 2 _).set 0 _).set 1 _).set 2 _)) ?_
        refine ⟨true, a7, k + 1, c7, _, ua, rfl, by exact (((RA.out.setOwn hbw _ 2 (Nat.le_succ _) _).set3 hbw _ (Nat.le_refl _) _ _ _).drew), ?_, ?_, ?_⟩
        · rw [bs_append, bs_extract]
          rw [show c + (k + 1) = c + k + 1 from by omega]
          rcases OA.out with h | h
          · have h5 := HT.out (HU5.out HE.out)
            exact br_end h5.1 h5.2 (by have := HG.out (HME.out h.e0); have := HGM.out; omega) OA.out
          · exact Or.inr h
        · intro e
          have := HG.out (HME.out e); have := HGM.out; have := HFT.out; omega
        · rw [ByteArray.size_append]
          have := size_extract s F ua.p
          omega
      · have HC := hide hc
        clear hc
        refine (c_has R8.out.m 44 44 rfl (by omega) hs).mono ?_
        rintro r v9 ⟨rfl, gg⟩
        rw [HC.out]
        have e1 : has (bs s) u6 44 = adv u6 := by simp [has, HC.out]
        rw [e1] at gg
        have R9 := hide (R8.out.trans gg)
        have B9 := hide (B8.out.rd gg hbw)
        have X9 := hide (X8.out.rd gg hb1)
        have W9 := hide (own_fr W8.out gg.f (fun g hg e => by unfold PB at e; omega))
        clear gg e1
        have hu6 := O6.out.2 (sees_e HC.out).1
        go_wp2
        go_roundw
        case rel => exact ⟨adv u6, k + 1, a7, c7, _, W9.out, by simp [adv]; omega, R9.out, B9.out, X9.out, by have := sel_comma O6.out.1 HC.out; rw [show c + (k + 1) + 1 = c + k + 1 + 1 from by omega]; exact this, fun _ => HU5.out HE.out⟩
        case measure =>
          rw [R.out.m.meas, R9.out.m.meas, if_pos HE.out]
          split
          · simp only [adv]; omega
          · omega
    · have he2 := beq0 he
      go_wp2_with fail
      refine (c_must R.out.m ⟨#[93]⟩ (by decide) hs).mono ?_
      clear q2
      rintro r va ⟨rfl, gg⟩
      rw [nb_shut, must_err _ _ _ he] at gg
      have RA := hide (R.out.trans gg)
      have BA := hide (B.out.rd gg hbw)
      have XA := hide (X.out.rd gg hb1)
      clear gg
      have HBD : Hid (Bad (bs s) 0 u) := by
        rcases O.out with h | h
        · exact absurd h.e0 he
        · exact h
      have HE := hide he
      have hge : F ≤ u.p := HBD.out.er.ge HLV.out
      have q0 := RA.out.m.c0
      have q1 := RA.out.m.c1
      have hne : w.heap.size ≠ w.heap.size + 1 := by omega
      have mf := XA.out.fz
      have m0 := XA.out.cell 0
      have m1 := XA.out.cell 1
      have m2 := XA.out.cell 2
      simp at m0 m1 m2
      have kf := BA.out.fz
      have k0 := BA.out.cell 0
      have k1 := BA.out.cell 1
      have k2 := BA.out.cell 2
      simp at k0 k1 k2
      clear he he2
      go_wp2
      go_region
      go_wp2
      refine ret_seg rfl rfl (by exact ((((BA.out.other hne 2 _).set 0 _).set 1 _).set 2 _)) ?_
      refine ⟨true, a, k, cp, _, u, rfl, by exact (((RA.out.setOwn hbw _ 2 (Nat.le_succ _) _).set3 hbw _ (Nat.le_refl _) _ _ _).drew), Or.inr HBD.out, fun e => absurd e HE.out, ?_⟩
      rw [ByteArray.size_append]
      have := size_extract s F u.p
      omega

/-- Every segment. -/
theorem c_segment {w : World} {b : Nat} {s : ByteArray} {t : St} {c : Nat} {acc : List UInt8} (h : HasM w b s t) (hs : s.size ≤ 120) (hok : Bnd (bs s) c acc t) (hp : t.p < s.size) :
    Calls Tryz.prog 65 #[.pointer (some ⟨b, 0, none⟩)] w (SegP b s c acc t w) := by
  cases h1 : sees (bs s) t 46
  · exact c_seg_br h hs hok hp h1
  · cases h2 : sees (bs s) (adv t) 46
    · cases h4 : sees (bs s) (adv t) 42 <;> cases h3 : sees (bs s) (adv t) 91
      · exact c_seg_dotword_false h hs hok h1 h2 h3 h4
      · exact c_seg_dotword_true h hs hok h1 h2 h3 h4
      · exact c_seg_dotstar_false h hs hok h1 h2 h3 h4
      · exact c_seg_dotstar_true h hs hok h1 h2 h3 h4
    · cases h3 : sees (bs s) (adv (adv t)) 91
      · cases h4 : sees (bs s) (adv (adv t)) 42
        · exact c_seg_ddword h hs hok h1 h2 h3 h4
        · exact c_seg_ddstar h hs hok h1 h2 h3 h4
      · exact c_seg_ddbr h hs hok h1 h2 h3

end Go.Proofs.YtcbadebjpogmlaaGreatDoor
