/- The reference reader's steps, constant and test: what they leave of the reader's block, by the machine. -/
import Derived.Test.YtcbadebjpogmlaaGreatDoorJRefC
import Derived.Test.YtcbadebjpogmlaaGreatDoorJa
namespace Go.Proofs.YtcbadebjpogmlaaGreatDoor
open Go.RowKit Tr

theorem own_fr {K : Nat → Prop} {w w' : World} {base : Nat} {e : TypeId} {sz : Nat} {v : Value} {n : Nat} {xs : List Value} (h : w.ownsRow base e sz v n xs) (f : Fr K w w') (hK : ∀ g, base ≤ g → ¬ K g) : w'.ownsRow base e sz v n xs := by
  refine ⟨h.1, ?_⟩
  rcases h.2 with h2 | ⟨g, cap, cur, hv, hb, hg, r⟩
  · exact Or.inl h2
  · exact Or.inr ⟨g, cap, cur, hv, hb, (f.block g (lt_of_some hg) (hK g hb)).trans hg, r⟩
theorem Fr.grown {K : Nat → Prop} {a w w' : World} {row : Option Nat} (h : Fr K a w) (hg : w.grownBy w' row) (hr : ∀ k, row = some k → a.heap.size ≤ k ∨ K k) : Fr K a w' :=
  ⟨hg.os.trans h.os, hg.tape.trans h.tape, hg.output.trans h.output, Nat.le_trans h.size hg.size, fun k hk hK => by
    rw [hg.block k (Nat.lt_of_lt_of_le hk h.size) (fun e => by rcases hr k e.symm with x | x; omega; exact hK x)]; exact h.block k hk hK⟩
theorem Rd.grown {b : Nat} {s : ByteArray} {w w1 w2 : World} {t : St} {row : Option Nat} (h : Rd b s w t w1) (hg : w1.grownBy w2 row) (hb : b < w.heap.size) (hr : ∀ k, row = some k → w.heap.size ≤ k) : Rd b s w t w2 :=
  ⟨(hg.block b h.m.lt (fun e => by have := hr b e.symm; omega)).trans h.m, h.f.grown hg (fun k hk => Or.inl (hr k hk))⟩
theorem own_slice {w : World} {base : Nat} {e : TypeId} {sz : Nat} {v : Value} {n : Nat} {xs : List Value} (h : w.ownsRow base e sz v n xs) : ∃ a c, v = .slice a n c := by
  rcases h.2 with ⟨h1, h2⟩ | ⟨g, cap, cur, hv, _⟩
  · subst h2; exact ⟨_, _, h1⟩
  · exact ⟨_, _, hv⟩

theorem own_rd {b : Nat} {s : ByteArray} {w v1 v2 : World} {t : St} {e : TypeId} {sz : Nat} {v : Value} {n : Nat} {xs : List Value} (h : v1.ownsRow w.heap.size e sz v n xs) (g : Rd b s v1 t v2) (hb : b < w.heap.size) : v2.ownsRow w.heap.size e sz v n xs :=
  own_fr h g.f (fun k hk he => by unfold PB at he; omega)

theorem wordP_ge (s : List UInt8) (t : St) : t.p ≤ (wordP s t).p := by
  unfold wordP; split
  · split
    · exact Nat.le_refl _
    · exact run_ge _ _ _ _
  · exact Nat.le_refl _
theorem has_ge (s : List UInt8) (t : St) (b : Nat) : t.p ≤ (has s t b).p := by unfold has; split; simp [adv]; exact Nat.le_refl _
theorem must1_ge (s : List UInt8) (t : St) (b : Nat) : t.p ≤ (must1 s t b).p := by
  unfold must1; split
  · simp [adv]
  · rw [wrong_p]; exact Nat.le_refl _
theorem countQ_ge (s : List UInt8) (t : St) (m : Bool) : t.p ≤ (countQ s t m).p := by
  unfold countQ; split
  · rw [wrong_p]; exact Nat.le_refl _
  · split
    · simp [adv]
    · unfold runP; split
      · exact run_ge _ _ _ _
      · exact Nat.le_refl _
theorem countP_ge (s : List UInt8) (t : St) (m : Bool) : t.p ≤ (countP s t m).p := by
  unfold countP
  refine Nat.le_trans ?_ (countQ_ge _ _ _)
  unfold minusP; split
  · exact has_ge _ _ _
  · exact Nat.le_refl _

theorem Tryz.infoStep : (Tryz.prog.info? 292).map (fun i => (i.zero, i.size, i.bytes)) = some (some (.agg #[.string ⟨#[]⟩, .int .i64 0, .bool false]), 3, 32) := by kernel_rfl

theorem must_93 (s : List UInt8) (t : St) : must s t (nb ⟨#[93]⟩) = must1 s t 93 := rfl

set_option maxRecDepth 100000 in
set_option maxHeartbeats 2000000 in
theorem c_steps {w : World} {b : Nat} {s : ByteArray} {t : St} {q c n : Nat} {o : List UInt8} (h : HasM w b s t) (hs : s.size ≤ 120) (hok : Ok (bs s) q c 11 o n t) :
    Calls Tryz.prog 258 #[.pointer (some ⟨b, 0, none⟩)] w fun r w' => ∃ a k cp t', r = .returned (.slice a k cp) ∧ Rd b s w t' w' ∧ Ok (bs s) q c 11 o n t' ∧ (t'.e = 0 → bt (bs s) t'.p ≠ 46 ∧ bt (bs s) t'.p ≠ 91) := by
  obtain ⟨i0, hi, hz0, hz1, hz2⟩ := info_parts Tryz.infoStep
  have HI := hide hi
  have HZ0 := hide hz0
  have HZ1 := hide hz1
  have HZ2 := hide hz2
  clear hi hz0 hz1 hz2
  have hbw := h.lt
  have HR := hide (Rd.same h)
  have HO := hide hok
  clear h hok
  go_enter Tryz.func258, Tryz.ntmps258
  go_wp2
  go_loopw [3, 4, 5, 6, 7] (fun v _ _ _ _ wr => ∃ (t' : St) (k : Nat) (xs : List Value), wr.ownsRow w.heap.size 292 3 v k xs ∧ k ≤ t'.p ∧ Rd b s w t' wr ∧ Ok (bs s) q c 11 o n t') (fun _ _ _ _ _ wr => s.size + 1 - mP b wr)
  case atStart => exact ⟨t, 0, [], World.ownsRow_nil _ _ _ _, Nat.zero_le _, HR.out, HO.out⟩
  case round =>
    clear HR HO
    obtain ⟨u, k, xs, hown, hk, hr, ho⟩ := hrel
    have hle := ho.le
    rw [bs_len] at hle
    have q2 := hr.m.c2
    have HR := hide hr
    have HO := hide ho
    have HW := hide hown
    clear hr ho hown
    by_cases he : u.e = 0
    · have he2 : ((u.e : Int) == 0) = true := by rw [he]; rfl
      have HE := hide he
      clear he
      cases hd : sees (bs s) u 46
      · have HD := hide hd
        clear hd
        cases hx : sees (bs s) u 91
        · have HX := hide hx
          clear hx
          go_wp2_with fail
          refine (c_has HR.out.m 46 46 rfl (by omega) hs).mono ?_
          clear q2
          rintro r v1 ⟨rfl, g1⟩
          rw [HD.out]
          have e1 : has (bs s) u 46 = u := by simp [has, HD.out]
          rw [e1] at g1
          have G1 := hide (HR.out.trans g1)
          clear g1 e1
          go_wp2_with fail
          refine (c_has G1.out.m 91 91 rfl (by omega) hs).mono ?_
          rintro r v2 ⟨rfl, g2⟩
          rw [HX.out]
          have e1 : has (bs s) u 91 = u := by simp [has, HX.out]
          rw [e1] at g2
          have G2 := hide (G1.out.trans g2)
          clear g2 e1
          obtain ⟨a, cp, rfl⟩ := own_slice HW.out
          go_wp2
          go_ret
          refine ⟨a, k, cp, u, rfl, G2.out, HO.out, fun _ => ?_⟩
          have h1 := HD.out
          have h2 := HX.out
          rw [sees_live HE.out] at h1 h2
          simp only [beq_eq_false_iff_ne] at h1 h2
          exact ⟨h1, h2⟩
        · have HX := hide hx
          clear hx
          go_wp2_with fail
          refine (c_has HR.out.m 46 46 rfl (by omega) hs).mono ?_
          clear q2
          rintro r v1 ⟨rfl, g1⟩
          rw [HD.out]
          have e1 : has (bs s) u 46 = u := by simp [has, HD.out]
          rw [e1] at g1
          have G1 := hide (HR.out.trans g1)
          have W1 := hide (own_rd HW.out g1 hbw)
          clear g1 e1
          go_wp2_with fail
          refine (c_has G1.out.m 91 91 rfl (by omega) hs).mono ?_
          rintro r v2 ⟨rfl, g2⟩
          rw [HX.out]
          have e1 : has (bs s) u 91 = adv u := by simp [has, HX.out]
          rw [e1] at g2
          have G2 := hide (G1.out.trans g2)
          have W2 := hide (own_rd W1.out g2 hbw)
          clear g2 e1
          have hin : (adv u).p ≤ s.size := by
            obtain ⟨_, hb⟩ := sees_e HX.out
            have := bt_lt (s := bs s) (p := u.p) (by omega)
            rw [bs_len] at this; simp [adv]; omega
          go_wp2_with fail
          refine (c_count G2.out.m true hs hin).mono ?_
          rintro r v3 ⟨rfl, g3⟩
          have G3 := hide (G2.out.trans g3)
          have W3 := hide (own_rd W2.out g3 hbw)
          clear g3
          go_wp2_with fail
          refine (c_must G3.out.m ⟨#[93]⟩ (by decide) hs).mono ?_
          rintro r v4 ⟨rfl, g4⟩
          rw [must_93] at g4
          have G4 := hide (G3.out.trans g4)
          have W4 := hide (own_rd W3.out g4 hbw)
          clear g4
          have HO2 := hide (ok_idx HO.out HX.out)
          have HP : Hid (u.p + 1 ≤ (must1 (bs s) (countP (bs s) (adv u) true) 93).p) := Nat.le_trans (countP_ge (bs s) (adv u) true) (must1_ge _ _ _)
          generalize must1 (bs s) (countP (bs s) (adv u) true) 93 = u2 at *
          generalize countV (bs s) (adv u) true = cv at *
          have hown4 := W4.out
          have hsz := G4.out.f.size
          go_wp2_with (at_builtin; refine wpList_append_own _ rfl _ _ 247 rfl w.heap.size 292 i0 _ 3 32 Tryz.underlying247 HI.out HZ0.out HZ1.out HZ2.out rfl (by decide) _ _ _ rfl (hown4.alloc _) ⟨v4.heap.size, 0, none⟩ 1 1 [.string ⟨#[]⟩, .int .i64 cv, .bool false] rfl rfl ?c1 ?c2 ?c3 ?c4 ?c5 ?_)
          case c1 =>
            intro j u hj
            match j, hj with
            | 0, hj => simp at hj; subst hj; simp [Addr.add]
            | 1, hj => simp at hj; subst hj; simp [Addr.add]
            | 2, hj => simp at hj; subst hj; simp [Addr.add]
          case c2 => intro u hu; simp at hu; rcases hu with rfl | rfl | rfl <;> rfl
          case c3 => unfold maxLen; omega
          case c4 => omega
          case c5 => simp; omega
          intro v' w5 hown5 hgrow _
          have G5 := hide ((G4.out.alloc _).grown hgrow hbw (fun k hk => (hown4.lt k hk).1))
          have W5 := hide hown5
          clear hgrow hown5 hown4
          obtain ⟨a5, c5, rfl⟩ := own_slice W5.out
          go_wp2
          go_roundw
          case rel => exact ⟨u2, k + 1, _, W5.out, by have := HP.out; omega, G5.out, HO2.out⟩
          case measure =>
            rw [HR.out.m.mP, G5.out.m.mP]
            have := HP.out
            have := HO2.out.le
            rw [bs_len] at this
            omega
      · have HD := hide hd
        clear hd
        go_wp2_with fail
        refine (c_has HR.out.m 46 46 rfl (by omega) hs).mono ?_
        clear q2
        rintro r v1 ⟨rfl, g1⟩
        rw [HD.out]
        have e1 : has (bs s) u 46 = adv u := by simp [has, HD.out]
        rw [e1] at g1
        have G1 := hide (HR.out.trans g1)
        have W1 := hide (own_rd HW.out g1 hbw)
        clear g1 e1
        have hin : (adv u).p ≤ s.size := by
          obtain ⟨_, hb⟩ := sees_e HD.out
          have := bt_lt (s := bs s) (p := u.p) (by omega)
          rw [bs_len] at this; simp [adv]; omega
        go_wp2_with fail
        refine (c_word G1.out.m hs hin).mono ?_
        rintro r v4 ⟨rfl, g4⟩
        have G4 := hide (G1.out.trans g4)
        have W4 := hide (own_rd W1.out g4 hbw)
        clear g4
        have HO2 := hide (ok_dot HO.out HD.out)
        have HP : Hid (u.p + 1 ≤ (wordP (bs s) (adv u)).p) := wordP_ge (bs s) (adv u)
        generalize s.extract (adv u).p (wordP (bs s) (adv u)).p = str at *
        generalize wordP (bs s) (adv u) = u2 at *
        have hown4 := W4.out
        have hsz := G4.out.f.size
        go_wp2_with (at_builtin; refine wpList_append_own _ rfl _ _ 247 rfl w.heap.size 292 i0 _ 3 32 Tryz.underlying247 HI.out HZ0.out HZ1.out HZ2.out rfl (by decide) _ _ _ rfl (hown4.alloc _) ⟨v4.heap.size, 0, none⟩ 1 1 [.string str, .int .i64 0, .bool true] rfl rfl ?c1 ?c2 ?c3 ?c4 ?c5 ?_)
        case c1 =>
          intro j u hj
          match j, hj with
          | 0, hj => simp at hj; subst hj; simp [Addr.add]
          | 1, hj => simp at hj; subst hj; simp [Addr.add]
          | 2, hj => simp at hj; subst hj; simp [Addr.add]
        case c2 => intro u hu; simp at hu; rcases hu with rfl | rfl | rfl <;> rfl
        case c3 => unfold maxLen; omega
        case c4 => omega
        case c5 => simp; omega
        intro v' w5 hown5 hgrow _
        have G5 := hide ((G4.out.alloc _).grown hgrow hbw (fun k hk => (hown4.lt k hk).1))
        have W5 := hide hown5
        clear hgrow hown5 hown4
        obtain ⟨a5, c5, rfl⟩ := own_slice W5.out
        go_wp2
        go_roundw
        case rel => exact ⟨u2, k + 1, _, W5.out, by have := HP.out; omega, G5.out, HO2.out⟩
        case measure =>
          rw [HR.out.m.mP, G5.out.m.mP]
          have := HP.out
          have := HO2.out.le
          rw [bs_len] at this
          omega
    · have he2 := beq0 he
      obtain ⟨a, cp, rfl⟩ := own_slice HW.out
      go_wp2
      go_ret
      exact ⟨a, k, cp, u, rfl, HR.out, HO.out, fun h => absurd h he⟩

end Go.Proofs.YtcbadebjpogmlaaGreatDoor
