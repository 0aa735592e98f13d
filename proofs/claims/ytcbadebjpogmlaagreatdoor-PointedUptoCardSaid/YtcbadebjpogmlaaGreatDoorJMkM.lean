import Derived.Test.YtcbadebjpogmlaaGreatDoorJVd
import Derived.Laws.AppendOwn
import Derived.Maps.AppendAt
namespace Go.Proofs.YtcbadebjpogmlaaGreatDoor
open Go.RowKit Tr
theorem k_element {w0 w : World} {g : Nat} {q : ByteArray} {p v : Value} {n : Nat} (hq : q.size ≤ 1000) (hf : FinP (bs q)) (he : Er g w0) {q0 c d : Nat} {o : List UInt8} {t : St} (hok : Live (bs q) q0 c 11 o d t) (hb : sees (bs q) t 91 = true) (h : Qt g q p v n w0 (t.p + 1) w) :
    Calls Tryz.prog 288 #[.pointer (some ⟨g, 0, none⟩)] w (fun r w' => ∃ k, t.p < k ∧ tk q k ⟨#[93]⟩ = true ∧ Live (bs q) q0 c 11 o d { t with p := k + 1 } ∧ ∃ st, FnP g q p v n w0 k (fun w f => StepV w f st) r w' ∧ ∀ m l, pSteps (bs q) (m + 1) t.p l = pSteps (bs q) m (k + 1) (l ++ [st])) := by
  have e0 := hok.e0
  have a1 := fin_live hf (ok_idx (Or.inl hok) hb)
  obtain ⟨s1, s2⟩ := must1_e a1.e0
  rw [s2] at a1
  obtain ⟨s3, s4⟩ := sees_e s1
  unfold countP minusP at a1 s1 s3 s4
  simp only [if_true, Bool.true_and] at a1 s1 s3 s4
  by_cases h5 : sees (bs q) (adv t) 45 = true
  · have e1 : has (bs q) (adv t) 45 = adv (adv t) := by unfold has; rw [if_pos h5]
    rw [e1] at a1 s1 s3 s4
    have T0 : tk q (t.p + 1) ⟨#[45]⟩ = true := (tk1 q (t := adv t) e0 45).trans h5
    have fact : ∀ k, RunP isDig q (t.p + 1 + 1) k → _ := fun k hk => cnt_eq2 (t := adv (adv t)) e0 s3 (by rw [s4]; decide) hk
    refine (el_minus h hq T0 he (fun k hk => ?_)).mono ?_
    · have := (fact k hk).2
      simp only [adv] at this
      omega
    rintro r w' ⟨k, hk, hr⟩
    have f1 := (fact k hk).1
    have f2 := (fact k hk).2
    have hd := cnt_head (t := adv (adv t)) e0 s3
    rw [f1] at a1 s1
    have hge := hk.ge
    have hlt : t.p + 1 + 1 < k := by
      rcases Nat.lt_or_ge (t.p + 1 + 1) k with x | x
      · exact x
      exfalso
      have hkk : k = t.p + 1 + 1 := by omega
      have := (sees_e s1).2
      simp only at this
      rw [hkk] at this
      have h2 := hd.1
      rw [show (adv (adv t)).p = t.p + 1 + 1 from rfl, this] at h2
      exact absurd h2 (by decide)
    refine ⟨k, by omega, (tk1 q (t := { adv (adv t) with p := k }) e0 93).trans s1, a1, _, hr ⟨hk.pos hlt (hd.2 h5), by have := hk.val f2; omega⟩, fun m l => ?_⟩
    rw [pSteps, if_neg (by rw [(sees_e hb).2]; decide), if_pos (sees_e hb).2, if_pos (show bt (bs q) (t.p + 1) = 45 from (sees_e h5).2), hk.eq (by decide)]
  have h5 : sees (bs q) (adv t) 45 = false := by simpa using h5
  have e1 : has (bs q) (adv t) 45 = adv t := by unfold has; rw [if_neg (by rw [h5]; decide)]
  rw [e1] at a1 s1 s3 s4
  have T0 := tk_ne (t := adv t) (sign := ⟨#[45]⟩) e0 rfl h5
  have fact : ∀ k, RunP isDig q (t.p + 1) k → _ := fun k hk => cnt_eq2 (t := adv t) e0 s3 (by rw [s4]; decide) hk
  refine (el_plain h hq T0 he (fun k hk => ?_)).mono ?_
  · have := (fact k hk).2
    simp only [adv] at this
    omega
  rintro r w' ⟨k, hk, hr⟩
  have f1 := (fact k hk).1
  rw [f1] at a1 s1
  have hge := hk.ge
  refine ⟨k, by omega, (tk1 q (t := { adv t with p := k }) e0 93).trans s1, a1, _, hr, fun m l => ?_⟩
  rw [pSteps, if_neg (by rw [(sees_e hb).2]; decide), if_pos (sees_e hb).2, if_neg (show ¬ bt (bs q) (t.p + 1) = 45 from sees_nb (t := adv t) e0 h5), hk.eq (by decide)]
end Go.Proofs.YtcbadebjpogmlaaGreatDoor
namespace Go.Proofs.YtcbadebjpogmlaaGreatDoor
open Go.RowKit Tr
def FnB (B : Nat) (w : World) (P : World → Value → Prop) (r : Ending) (w' : World) : Prop := (∃ f D, r = .returned f ∧ Ft D B w' ∧ OkD D w' (fun w'' => P w'' f)) ∧ Below w.heap.size w w'
theorem Sm.alloc {D : Nat → Prop} {B : Nat} {w : World} (h : Ft D B w) (o : Obj) : Sm D w (w.alloc o) := Sm.fr (K := fun _ => False) h ((Fr.refl _ w).alloc o) (fun _ _ x => x)
theorem Sm.trans {D : Nat → Prop} {a b c : World} (h : Sm D a b) (k : Sm D b c) : Sm D a c := fun i hi => (k i hi).trans (h i hi)
theorem Sm.less {D D' : Nat → Prop} {a b : World} (h : Sm D a b) (hd : ∀ k, D' k → D k) : Sm D' a b := fun i hi => h i (hd i hi)
theorem m_toMember {B : Nat} (w : World) (s : ByteArray) (hB : B ≤ w.heap.size) : Calls Tryz.prog 287 #[.string s] w (FnB B w (fun w f => StepV w f ⟨true, bs s, 0⟩)) := by
  go_enter Tryz.func287, Tryz.ntmps287
  go_wp2
  go_ret
  refine ⟨⟨_, fun x => x = w.heap.size, rfl, Ft.one (Blk.new _ _ _) (by decide) hB, fun w'' s => ?_⟩, ((Fr.refl (fun _ => False) w).alloc _).below⟩
  exact v_member ((Blk.new w _ _).sm s rfl)
theorem m_notMet {B : Nat} {w : World} {f : Value} {D : Nat → Prop} {φ : Tv → Bool} (ft : Ft D B w) (ok : OkD D w (fun w => CondV w f φ)) (hB : B ≤ w.heap.size) : Calls Tryz.prog 274 #[f] w (FnB B w (fun w f => CondV w f (fun t => !(φ t)))) := by
  obtain ⟨N, cap, rfl, _, _⟩ := ok.self
  have FT := hide ft
  have OK := hide ok
  clear ft ok
  go_enter Tryz.func274, Tryz.ntmps274
  go_wp2
  go_ret
  refine ⟨⟨_, fun x => D x ∨ x = w.heap.size, rfl, (FT.out.keep (Sm.alloc FT.out _)).or (Ft.one (Blk.new _ _ _) (by decide) hB), fun w'' s => ?_⟩, ((Fr.refl (fun _ => False) w).alloc _).below⟩
  exact v_not (OK.out w'' ((Sm.alloc FT.out _).trans (s.less (fun _ => Or.inl)))) ((Blk.new w _ _).sm s (Or.inr rfl))
theorem m_isThere {B : Nat} {w : World} {f : Value} {D : Nat → Prop} {l : List StA} (ft : Ft D B w) (ok : OkD D w (fun w => LeadV w f l)) (hB : B ≤ w.heap.size) : Calls Tryz.prog 285 #[f] w (FnB B w (fun w f => CondV w f (fun t => (leadT t l).isSome))) := by
  obtain ⟨N, cap, rfl, _, _⟩ := ok.self
  have FT := hide ft
  have OK := hide ok
  clear ft ok
  go_enter Tryz.func285, Tryz.ntmps285
  go_wp2
  go_ret
  refine ⟨⟨_, fun x => D x ∨ x = w.heap.size, rfl, (FT.out.keep (Sm.alloc FT.out _)).or (Ft.one (Blk.new _ _ _) (by decide) hB), fun w'' s => ?_⟩, ((Fr.refl (fun _ => False) w).alloc _).below⟩
  exact v_there (OK.out w'' ((Sm.alloc FT.out _).trans (s.less (fun _ => Or.inl)))) ((Blk.new w _ _).sm s (Or.inr rfl))
theorem m_isEqual {B : Nat} {w : World} {f : Value} {D : Nat → Prop} {l : List StA} {bc : Nat} {c : Kt} (ft : Ft D B w) (ok : OkD D w (fun w => LeadV w f l)) (hB : B ≤ w.heap.size) (hb : Blk w bc (pcl (kDat c) (.pointer none) 0 (.slice none 0 0)) 130) (hbc : B ≤ bc) (hc : KOk c) :
    Calls Tryz.prog 282 #[f, .pointer (some ⟨bc, 0, none⟩)] w (FnB B w (fun w f => CondV w f (fun t => sameT c (leadT t l)))) := by
  obtain ⟨N, cap, rfl, _, _⟩ := ok.self
  have FT := hide ft
  have OK := hide ok
  have HB := hide hb
  have HC := hide hc
  clear ft ok hb hc
  go_enter Tryz.func282, Tryz.ntmps282
  go_wp2
  go_ret
  have s1 : ∀ (o o' : Obj), Sm D w ((w.alloc o).alloc o') := fun o o' => Sm.fr (K := fun _ => False) FT.out (((Fr.refl _ w).alloc o).alloc o') (fun _ _ x => x)
  have b0 := HB.out.alloc (.cells #[.func (.func N) #[] cap] 320) |>.alloc (.cells #[.pointer (some ⟨bc, 0, none⟩)] 71)
  have b1 := (Blk.new w #[.func (.func N) #[] cap] 320).alloc (.cells #[.pointer (some ⟨bc, 0, none⟩)] 71)
  have b2 := Blk.new (w.alloc (.cells #[.func (.func N) #[] cap] 320)) #[.pointer (some ⟨bc, 0, none⟩)] 71
  have e2 : (w.alloc (.cells #[.func (.func N) #[] cap] 320)).heap.size = w.heap.size + 1 := by simp
  rw [e2] at b2
  refine ⟨⟨_, fun x => ((D x ∨ x = w.heap.size) ∨ x = w.heap.size + 1) ∨ x = bc, rfl, (((FT.out.keep (s1 _ _)).or (Ft.one b1 (by decide) hB)).or (Ft.one b2 (by decide) (by omega))).or (Ft.one b0 (by decide) hbc), fun w'' s => ?_⟩, ((Fr.refl (fun _ => False) w).alloc _ |>.alloc _).below⟩
  exact v_equal (OK.out w'' ((s1 _ _).trans (s.less (fun _ x => Or.inl (Or.inl (Or.inl x)))))) (b1.sm s (Or.inl (Or.inl (Or.inr rfl)))) (b2.sm s (Or.inl (Or.inr rfl))) (b0.sm s (Or.inr rfl)) HC.out
theorem m_isLess {B : Nat} {w : World} {f : Value} {D : Nat → Prop} {l : List StA} {bc : Nat} {c : Kt} (ft : Ft D B w) (ok : OkD D w (fun w => LeadV w f l)) (hB : B ≤ w.heap.size) (hb : Blk w bc (pcl (kDat c) (.pointer none) 0 (.slice none 0 0)) 130) (hbc : B ≤ bc) (hc : KOk c) :
    Calls Tryz.prog 284 #[f, .pointer (some ⟨bc, 0, none⟩)] w (FnB B w (fun w f => CondV w f (fun t => lessT c (leadT t l)))) := by
  obtain ⟨N, cap, rfl, _, _⟩ := ok.self
  have FT := hide ft
  have OK := hide ok
  have HB := hide hb
  have HC := hide hc
  clear ft ok hb hc
  go_enter Tryz.func284, Tryz.ntmps284
  go_wp2
  go_ret
  have s1 : ∀ (o o' : Obj), Sm D w ((w.alloc o).alloc o') := fun o o' => Sm.fr (K := fun _ => False) FT.out (((Fr.refl _ w).alloc o).alloc o') (fun _ _ x => x)
  have b0 := HB.out.alloc (.cells #[.func (.func N) #[] cap] 320) |>.alloc (.cells #[.pointer (some ⟨bc, 0, none⟩)] 71)
  have b1 := (Blk.new w #[.func (.func N) #[] cap] 320).alloc (.cells #[.pointer (some ⟨bc, 0, none⟩)] 71)
  have b2 := Blk.new (w.alloc (.cells #[.func (.func N) #[] cap] 320)) #[.pointer (some ⟨bc, 0, none⟩)] 71
  have e2 : (w.alloc (.cells #[.func (.func N) #[] cap] 320)).heap.size = w.heap.size + 1 := by simp
  rw [e2] at b2
  refine ⟨⟨_, fun x => ((D x ∨ x = w.heap.size) ∨ x = w.heap.size + 1) ∨ x = bc, rfl, (((FT.out.keep (s1 _ _)).or (Ft.one b1 (by decide) hB)).or (Ft.one b2 (by decide) (by omega))).or (Ft.one b0 (by decide) hbc), fun w'' s => ?_⟩, ((Fr.refl (fun _ => False) w).alloc _ |>.alloc _).below⟩
  exact v_less (OK.out w'' ((s1 _ _).trans (s.less (fun _ x => Or.inl (Or.inl (Or.inl x)))))) (b1.sm s (Or.inl (Or.inl (Or.inr rfl)))) (b2.sm s (Or.inl (Or.inr rfl))) (b0.sm s (Or.inr rfl)) HC.out
theorem Row.ftr {T : TypeId} {B : Nat} {P : Nat → World → Value → Prop} {D : Nat → Prop} {sv : Value} {fs : List Value} {w : World} (h : Row T B P D sv fs w) (hT : T ≠ 5) : Ft (fun k => D k ∨ sv.ownBlock = some k) B w := by
  refine h.ft.or ⟨fun k hk => (h.o.lt k hk).1, fun k hk => ?_⟩
  rcases h.o.2 with ⟨x, _⟩ | ⟨k2, cap, cur, x1, _, x3, _⟩
  · rw [x] at hk; cases hk
  rw [x1] at hk
  have e : k2 = k := Option.some.inj hk
  subst e
  exact ⟨cur, T, _, x3, hT⟩
theorem m_oneMet {B : Nat} {w : World} {sv : Value} {fs : List Value} {D : Nat → Prop} {φs : List (Tv → Bool)} (h : Row 237 B (fun i w f => ∀ φ, φs[i]? = some φ → CondV w f φ) D sv fs w) (hl : φs.length = fs.length) (hj : fs.length ≤ 1000) (hB : B ≤ w.heap.size) : Calls Tryz.prog 257 #[sv] w (FnB B w (fun w f => CondV w f (fun t => φs.any (fun φ => φ t)))) := by
  obtain ⟨ao, cp, hs⟩ := own_slice h.o
  obtain ⟨j, hjj⟩ : ∃ j, j = fs.length := ⟨_, rfl⟩
  rw [← hjj] at hs
  subst hs
  have H := hide h
  have HL := hide hl
  have HJ := hide hj
  clear h hl hj hjj
  go_enter Tryz.func257, Tryz.ntmps257
  go_wp2
  go_ret
  have ft := H.out.ftr (by decide)
  refine ⟨⟨_, fun x => (D x ∨ (.slice ao j cp : Value).ownBlock = some x) ∨ x = w.heap.size, rfl, (ft.keep (Sm.alloc ft _)).or (Ft.one (Blk.new _ _ _) (by decide) hB), fun w'' s => ?_⟩, ((Fr.refl (fun _ => False) w).alloc _).below⟩
  have s1 := (Sm.alloc ft _).trans (s.less (fun _ => Or.inl))
  exact v_one (own_at' H.out.o (fun k hk => s1 k (Or.inr hk))) HJ.out HL.out (fun i h1 h2 => H.out.ok i h1 w'' (s1.less (fun _ => Or.inl)) _ (List.getElem?_eq_getElem h2)) ((Blk.new w _ _).sm s (Or.inr rfl))
theorem m_allMet {B : Nat} {w : World} {sv : Value} {fs : List Value} {D : Nat → Prop} {φs : List (Tv → Bool)} (h : Row 237 B (fun i w f => ∀ φ, φs[i]? = some φ → CondV w f φ) D sv fs w) (hl : φs.length = fs.length) (hj : fs.length ≤ 1000) (hB : B ≤ w.heap.size) : Calls Tryz.prog 266 #[sv] w (FnB B w (fun w f => CondV w f (fun t => φs.all (fun φ => φ t)))) := by
  obtain ⟨ao, cp, hs⟩ := own_slice h.o
  obtain ⟨j, hjj⟩ : ∃ j, j = fs.length := ⟨_, rfl⟩
  rw [← hjj] at hs
  subst hs
  have H := hide h
  have HL := hide hl
  have HJ := hide hj
  clear h hl hj hjj
  go_enter Tryz.func266, Tryz.ntmps266
  go_wp2
  go_ret
  have ft := H.out.ftr (by decide)
  refine ⟨⟨_, fun x => (D x ∨ (.slice ao j cp : Value).ownBlock = some x) ∨ x = w.heap.size, rfl, (ft.keep (Sm.alloc ft _)).or (Ft.one (Blk.new _ _ _) (by decide) hB), fun w'' s => ?_⟩, ((Fr.refl (fun _ => False) w).alloc _).below⟩
  have s1 := (Sm.alloc ft _).trans (s.less (fun _ => Or.inl))
  exact v_allm (own_at' H.out.o (fun k hk => s1 k (Or.inr hk))) HJ.out HL.out (fun i h1 h2 => H.out.ok i h1 w'' (s1.less (fun _ => Or.inl)) _ (List.getElem?_eq_getElem h2)) ((Blk.new w _ _).sm s (Or.inr rfl))
theorem m_leadBy {B : Nat} {w : World} {sv : Value} {fs : List Value} {D : Nat → Prop} {l : List StA} (h : Row 320 B (fun i w f => ∀ st, l[i]? = some st → StepV w f st) D sv fs w) (hl : l.length = fs.length) (hj : fs.length ≤ 1000) (hB : B ≤ w.heap.size) : Calls Tryz.prog 276 #[sv] w (FnB B w (fun w f => LeadV w f l)) := by
  obtain ⟨ao, cp, hs⟩ := own_slice h.o
  obtain ⟨j, hjj⟩ : ∃ j, j = fs.length := ⟨_, rfl⟩
  rw [← hjj] at hs
  subst hs
  have H := hide h
  have HL := hide hl
  have HJ := hide hj
  clear h hl hj hjj
  go_enter Tryz.func276, Tryz.ntmps276
  go_wp2
  go_ret
  have ft := H.out.ftr (by decide)
  refine ⟨⟨_, fun x => (D x ∨ (.slice ao j cp : Value).ownBlock = some x) ∨ x = w.heap.size, rfl, (ft.keep (Sm.alloc ft _)).or (Ft.one (Blk.new _ _ _) (by decide) hB), fun w'' s => ?_⟩, ((Fr.refl (fun _ => False) w).alloc _).below⟩
  have s1 := (Sm.alloc ft _).trans (s.less (fun _ => Or.inl))
  exact v_lead (own_at' H.out.o (fun k hk => s1 k (Or.inr hk))) HJ.out HL.out (fun i h1 h2 => H.out.ok i h1 w'' (s1.less (fun _ => Or.inl)) _ (List.getElem?_eq_getElem h2)) ((Blk.new w _ _).sm s (Or.inr rfl))
end Go.Proofs.YtcbadebjpogmlaaGreatDoor
namespace Go.Proofs.YtcbadebjpogmlaaGreatDoor
open Go.RowKit Tr
theorem infoLead : (Tryz.prog.info? 320).map (fun i => (i.zero, i.size, i.bytes)) = some (some .nilFunc, 1, 8) := by kernel_rfl
theorem Qt.grown {g : Nat} {q : ByteArray} {p v : Value} {n : Nat} {w0 w w' : World} {a B : Nat} {row : Option Nat} (h : Qt g q p v n w0 a w) (hg : w.grownBy w' row) (hr : ∀ k, row = some k → B ≤ k) (hgB : g < B) (hwB : w0.heap.size ≤ B) : Qt g q p v n w0 a w' :=
  ⟨(hg.block g h.b.lt (fun e => by have := hr g e.symm; omega)).trans h.b, h.f.grown hg (fun k hk => Or.inl (by have := hr k hk; omega)), h.le⟩
def RwL (q : ByteArray) (B a0 a j : Nat) (sv : Value) (wr : World) : Prop := ∃ fs l D, Row 320 B (fun i w f => ∀ st, l[i]? = some st → StepV w f st) D sv fs wr ∧ l.length = j ∧ fs.length = j ∧ pSteps (bs q) (q.size + 1) a0 [] = pSteps (bs q) (q.size + 1 - j) a l
theorem RwL.fr {q : ByteArray} {B a0 a j : Nat} {sv : Value} {wr w' : World} (h : RwL q B a0 a j sv wr) {K : Nat → Prop} (f : Fr K wr w') (hk : ∀ k, B ≤ k → ¬ K k) : RwL q B a0 a j sv w' := by
  obtain ⟨fs, l, D, h1, h2⟩ := h
  exact ⟨fs, l, D, h1.fr f hk, h2⟩
theorem RwL.next {q : ByteArray} {B a0 a a' j g : Nat} {sv sv' : Value} {wr w1 w2 : World} {fs : List Value} {l : List StA} {D D2 : Nat → Prop} {f : Value} {st : StA}
    (R : Row 320 B (fun i w f => ∀ st, l[i]? = some st → StepV w f st) D sv fs wr) (hl : l.length = j) (hf : fs.length = j) (hps : pSteps (bs q) (q.size + 1) a0 [] = pSteps (bs q) (q.size + 1 - j) a l)
    (h1 : Fr (fun k => k = g) wr w1) (hgB : g < B) (hsz : B ≤ wr.heap.size) (hjq : j ≤ q.size) (ft : Ft D2 wr.heap.size w1) (ok : OkD D2 w1 (fun w => StepV w f st)) (hst : ∀ m l, pSteps (bs q) (m + 1) a l = pSteps (bs q) m a' (l ++ [st]))
    (hg : w1.grownBy w2 sv.ownBlock) (hown : w2.ownsRow B 320 1 sv' (j + 1) (fs ++ [f])) (hb : sv'.ownBlock = sv.ownBlock ∨ sv'.ownBlock = some w1.heap.size) : RwL q B a0 a' (j + 1) sv' w2 := by
  have R1 := R.fr h1 (fun k hk e => by omega)
  refine ⟨fs ++ [f], l ++ [st], fun k => D k ∨ D2 k, ?_, by simp [hl], by simp [hf], ?_⟩
  · have R2 : Row 320 B (fun i w f => ∀ st', (l ++ [st])[i]? = some st' → StepV w f st') D sv fs w1 := ⟨R1.o, R1.ft, R1.ne, fun i hi w' s st' he => R1.ok i hi w' s st' (by rw [List.getElem?_append_left (by omega)] at he; exact he)⟩
    refine R2.push (A := wr.heap.size) (fun k hk => (R.o.lt k hk).2) hsz ft (fun w' s st' he => ?_) (by rw [hf]; exact hown) hg hb
    rw [hf, ← hl] at he
    simp at he
    subst he
    exact ok w' s
  rw [hps, show q.size + 1 - j = (q.size + 1 - (j + 1)) + 1 by omega]
  exact hst _ _
structure StL (g : Nat) (q : ByteArray) (p v : Value) (n : Nat) (w0 : World) (B q0 c : Nat) (o : List UInt8) (d : Nat) (a0 : Nat) (t : St) (j : Nat) (sv : Value) (wr : World) : Prop where
  qt : Qt g q p v n w0 t.p wr
  lv : Live (bs q) q0 c 11 o d t
  row : RwL q B a0 t.p j sv wr
  gb : g < B
  wb : w0.heap.size ≤ B
  sz : B ≤ wr.heap.size
  le : j ≤ t.p
theorem own_below {w w' : World} {base : Nat} {e : TypeId} {sz : Nat} {v : Value} {n : Nat} {xs : List Value} (h : w.ownsRow base e sz v n xs) (f : Below w.heap.size w w') : w'.ownsRow base e sz v n xs :=
  own_fr h (Fr.of_below (K := fun _ => False) f) (fun _ _ x => x)
theorem Qt.here {g : Nat} {q : ByteArray} {p v : Value} {n : Nat} {w0 w : World} {a : Nat} (h : Qt g q p v n w0 a w) : Qt g q p v n w a w := ⟨h.b, Fr.refl _ _, h.le⟩
theorem Qt.join {g : Nat} {q : ByteArray} {p v : Value} {n : Nat} {w0 w w' : World} {a a' : Nat} (h : Qt g q p v n w0 a w) (k : Qt g q p v n w a' w') : Qt g q p v n w0 a' w' := ⟨k.b, h.f.trans k.f, k.le⟩
theorem Er.keep {g : Nat} {w0 w : World} (h : Er g w0) (f : Fr (fun k => k = g) w0 w) : Er g w := by
  obtain ⟨⟨ev, h1, h2⟩, h3, h4⟩ := h
  exact ⟨⟨ev, (f.cell (p := ⟨6, 0, none⟩) h4 h3).trans h1, h2⟩, h3, Nat.lt_of_lt_of_le h4 f.size⟩
set_option maxHeartbeats 2000000 in
theorem k_steps {w : World} {g : Nat} {q : ByteArray} {p v : Value} {n : Nat} {w0 : World} (hq : q.size ≤ 1000) (hf : FinP (bs q)) (he : Er g w0) {q0 c d : Nat} {o : List UInt8} {t : St} (hok : Live (bs q) q0 c 11 o d t) (h : Qt g q p v n w0 t.p w) :
    Calls Tryz.prog 277 #[.pointer (some ⟨g, 0, none⟩)] w (fun r w' => ∃ t' sv fs l D, Live (bs q) q0 c 11 o d t' ∧ (bt (bs q) t'.p ≠ 46 ∧ bt (bs q) t'.p ≠ 91) ∧ r = .returned sv ∧ Row 320 w0.heap.size (fun i w f => ∀ st, l[i]? = some st → StepV w f st) D sv fs w' ∧ l.length = fs.length ∧ fs.length ≤ 1000 ∧ pSteps (bs q) (q.size + 1) t.p [] = ⟨l, t'.p⟩ ∧ Qt g q p v n w0 t'.p w') := by
  obtain ⟨i0, hi, hz0, hz1, hz2⟩ := info_parts infoLead
  have HI := hide hi
  have HZ0 := hide hz0
  have HZ1 := hide hz1
  have HZ2 := hide hz2
  have HE := hide he
  have HF := hide hf
  have S : Hid (StL g q p v n w0 w.heap.size q0 c o d t.p t 0 (.slice none 0 0) w) := ⟨h, hok, ⟨[], [], _, Row.nil _ _ _ _, rfl, rfl, rfl⟩, h.b.lt, h.f.size, Nat.le_refl _, Nat.zero_le _⟩
  clear h hok he hf hi hz0 hz1 hz2
  generalize w.heap.size = B at *
  obtain ⟨a0, ha0⟩ : ∃ a0, a0 = t.p := ⟨_, rfl⟩
  rw [← ha0] at S ⊢
  clear ha0
  go_enter Tryz.func277, Tryz.ntmps277
  go_wp2
  go_loopw [3] (fun sv wr => ∃ (t : St) (j : Nat), StL g q p v n w0 B q0 c o d a0 t j sv wr) (fun _ wr => q.size - mA g wr)
  case atStart => exact ⟨t, 0, S.out⟩
  case round =>
    clear S
    obtain ⟨t, j, hS⟩ := hrel
    have S := hide hS
    have hjt := hS.le
    have htq : t.p ≤ q.size := hS.qt.le
    have HM := hide hS.qt.mA
    obtain ⟨fs, l, D, hrow, hll, hfl, hps⟩ := hS.row
    obtain ⟨ao, cp, hse⟩ := own_slice hrow.o
    rw [hfl] at hse
    subst hse
    have R := hide hrow
    have HLL := hide hll
    have HFL := hide hfl
    have HPS := hide hps
    have e0 := hS.lv.e0
    clear hS hrow hll hfl hps
    by_cases h1 : sees (bs q) t 46 = true
    · have T0 : tk q t.p ⟨#[46]⟩ = true := (tk1 q e0 46).trans h1
      have L1 := hide (fin_live HF.out (ok_dot (Or.inl S.out.lv) h1))
      have B46 := hide (sees_b h1)
      clear h1 e0
      go_wp2_with fail
      refine (c_yes S.out.qt.here hq _ T0 (t.p + 1) rfl).mono ?_
      rintro r w1 ⟨rfl, h1⟩
      have H1 := hide h1
      clear h1
      go_wp2_with fail
      refine (c_run_isLetter H1.out hq).mono ?_
      rintro r w2 ⟨k, hk, rfl, h2⟩
      have e1 := word_eq (t := adv t) S.out.lv.e0 L1.out.e0 (fin_nolet HF.out L1.out) hk
      have hkt : t.p < k := by have := hk.ge; omega
      have L2 : Hid (Live (bs q) q0 c 11 o d { adv t with p := k }) := by rw [← e1]; exact L1.out
      have hkq := h2.le
      have H2 := hide h2
      have HST : Hid (∀ m l, pSteps (bs q) (m + 1) t.p l = pSteps (bs q) m k (l ++ [⟨true, bs (q.extract (t.p + 1) k), 0⟩])) := fun m l => by
        rw [pSteps, if_pos B46.out, hk.eq (by decide), bs_extract]
      clear h2 H1 L1 e1 hk
      go_wp2_with fail
      refine (m_toMember _ _ H2.out.f.size).mono ?_
      rintro r w3 ⟨⟨f3, D3, rfl, hft3, hok3⟩, hb3⟩
      obtain ⟨N3, cap3, rfl, _, _⟩ := hok3.self
      have FT3 := hide hft3
      have OK3 := hide hok3
      have H3 := hide (H2.out.below hb3)
      clear H2 hb3 hft3 hok3
      have hown3 : w3.ownsRow B 320 1 (.slice ao j cp) j fs := own_fr (HFL.out ▸ R.out.o) H3.out.f (fun k hk e => by have := S.out.gb; omega)
      have hB3 : B ≤ w3.heap.size := Nat.le_trans S.out.sz H3.out.f.size
      go_wp2_with (at_builtin; refine wpList_append_own_at _ rfl _ _ 322 rfl B 320 i0 .nilFunc 1 8 Tryz.underlying322 HI.out HZ0.out HZ1.out HZ2.out rfl (by decide) _ _ _ rfl (hown3.alloc _) ⟨w3.heap.size, 0, none⟩ 1 1 [.func (.func N3) #[] cap3] rfl rfl ?c1 ?c2 ?c3 ?c4 ?c5 ?_)
      case c1 =>
        intro j u hj
        match j, hj with
        | 0, hj => simp at hj; subst hj; simp [Addr.add]
      case c2 => intro u hu; simp at hu; subst hu; rfl
      case c3 => unfold maxLen; omega
      case c4 => omega
      case c5 => simp; omega
      intro v' w4 hown4 hgrow _ hvb
      have S2 : Hid (StL g q p v n w0 B q0 c o d a0 { adv t with p := k } (j + 1) v' w4) :=
        ⟨(S.out.qt.join (H3.out.alloc _)).grown hgrow (fun k hk => (hown3.lt k hk).1) S.out.gb S.out.wb, L2.out, RwL.next R.out HLL.out HFL.out HPS.out (H3.out.alloc _).f S.out.gb S.out.sz (by omega) (FT3.out.keep (Sm.alloc FT3.out _)) (OK3.out.keep (Sm.alloc FT3.out _)) HST.out hgrow hown4 (by simpa using hvb), S.out.gb, S.out.wb, Nat.le_trans hB3 (Nat.le_trans (by simp) hgrow.size), by simp only; omega⟩
      clear hown4 hgrow hown3
      go_wp2
      go_roundw
      case rel => exact ⟨_, _, S2.out⟩
      case measure =>
        have m1 : mA g wr = t.p := HM.out
        have m2 : mA g w4 = k := S2.out.qt.mA
        rw [m1, m2]
        omega
    have h1 : sees (bs q) t 46 = false := by simpa using h1
    have T0 := tk_ne (sign := ⟨#[46]⟩) e0 rfl h1
    by_cases h2 : sees (bs q) t 91 = true
    · have T1 : tk q t.p ⟨#[91]⟩ = true := (tk1 q e0 91).trans h2
      have HB := hide h2
      clear h1 e0 h2
      go_wp2_with fail
      refine (c_no S.out.qt.here hq _ T0).mono ?_
      rintro r w1 ⟨rfl, h1⟩
      have H1 := hide h1
      clear h1
      go_wp2_with fail
      refine (c_yes H1.out hq _ T1 (t.p + 1) rfl).mono ?_
      rintro r w2 ⟨rfl, h2⟩
      have H2 := hide h2
      clear h2 H1
      have E2 := hide (HE.out.keep S.out.qt.f)
      go_wp2_with fail
      refine (k_element hq HF.out E2.out S.out.lv HB.out H2.out).mono ?_
      rintro r w3 ⟨k, hkt, T2, hl, st, ⟨⟨f3, D3, rfl, hft3, hok3⟩, h3⟩, hst⟩
      obtain ⟨N3, cap3, rfl, _, _⟩ := hok3.self
      have FT3 := hide hft3
      have OK3 := hide hok3
      have HST := hide hst
      have hkq := h3.le
      have L2 := hide hl
      have H3 := hide h3
      clear H2 h3 hl hft3 hok3 hst
      have hown3 : w3.ownsRow B 320 1 (.slice ao j cp) j fs := own_fr (HFL.out ▸ R.out.o) H3.out.f (fun k hk e => by have := S.out.gb; omega)
      have hB3 : B ≤ w3.heap.size := Nat.le_trans S.out.sz H3.out.f.size
      go_wp2_with (at_builtin; refine wpList_append_own_at _ rfl _ _ 322 rfl B 320 i0 .nilFunc 1 8 Tryz.underlying322 HI.out HZ0.out HZ1.out HZ2.out rfl (by decide) _ _ _ rfl (hown3.alloc _) ⟨w3.heap.size, 0, none⟩ 1 1 [.func (.func N3) #[] cap3] rfl rfl ?c1 ?c2 ?c3 ?c4 ?c5 ?_)
      case c1 =>
        intro j u hj
        match j, hj with
        | 0, hj => simp at hj; subst hj; simp [Addr.add]
      case c2 => intro u hu; simp at hu; subst hu; rfl
      case c3 => unfold maxLen; omega
      case c4 => omega
      case c5 => simp; omega
      intro v' w4 hown4 hgrow _ hvb
      have H4 : Hid (Qt g q p v n w0 k w4) := (S.out.qt.join (H3.out.alloc _)).grown hgrow (fun k hk => (hown3.lt k hk).1) S.out.gb S.out.wb
      have R4 : Hid (RwL q B a0 (k + 1) (j + 1) v' w4) := RwL.next R.out HLL.out HFL.out HPS.out (H3.out.alloc _).f S.out.gb S.out.sz (by omega) (FT3.out.keep (Sm.alloc FT3.out _)) (OK3.out.keep (Sm.alloc FT3.out _)) HST.out hgrow hown4 (by simpa using hvb)
      have hs4 : B ≤ w4.heap.size := Nat.le_trans hB3 (Nat.le_trans (by simp) hgrow.size)
      clear hown4 hgrow hown3
      go_wp2_with fail
      refine (c_yes H4.out.here hq _ T2 (k + 1) rfl).mono ?_
      rintro r w5 ⟨rfl, h5⟩
      have S2 : Hid (StL g q p v n w0 B q0 c o d a0 { t with p := k + 1 } (j + 1) v' w5) :=
        ⟨H4.out.join h5, L2.out, R4.out.fr h5.f (fun k hk e => by have := S.out.gb; omega), S.out.gb, S.out.wb, Nat.le_trans hs4 h5.f.size, by simp only; omega⟩
      clear h5
      go_wp2
      go_roundw
      case rel => exact ⟨_, _, S2.out⟩
      case measure =>
        have m1 : mA g wr = t.p := HM.out
        have m2 : mA g w5 = k + 1 := S2.out.qt.mA
        rw [m1, m2]
        omega
    have h2 : sees (bs q) t 91 = false := by simpa using h2
    have T1 := tk_ne (sign := ⟨#[91]⟩) e0 rfl h2
    have hb : bt (bs q) t.p ≠ 46 ∧ bt (bs q) t.p ≠ 91 := by
      simp [sees, e0] at h1 h2
      exact ⟨h1, h2⟩
    have HB := hide hb
    clear h1 h2 hb e0
    go_wp2_with fail
    refine (c_no S.out.qt.here hq _ T0).mono ?_
    rintro r w1 ⟨rfl, h1⟩
    have H1 := hide h1
    clear h1
    go_wp2_with fail
    refine (c_no H1.out hq _ T1).mono ?_
    rintro r w2 ⟨rfl, h2⟩
    have H2 := hide h2
    clear h2 H1
    go_wp2
    go_ret
    have hend : pSteps (bs q) (q.size + 1) a0 [] = ⟨l, t.p⟩ := by
      rw [HPS.out, show q.size + 1 - j = (q.size - j) + 1 by omega, pSteps, if_neg HB.out.1, if_neg HB.out.2]
    exact ⟨t, _, fs, l, D, S.out.lv, HB.out, rfl, (R.out.fr H2.out.f (fun k hk e => by have := S.out.gb; omega)).low S.out.wb, by rw [HLL.out, HFL.out], by rw [HFL.out]; omega, hend, S.out.qt.join H2.out⟩
end Go.Proofs.YtcbadebjpogmlaaGreatDoor
