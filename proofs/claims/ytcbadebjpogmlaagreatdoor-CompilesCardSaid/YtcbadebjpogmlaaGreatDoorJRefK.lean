/- The reference's Compile: what it answers, by the machine; what a query that it made holds. -/
import Derived.Test.YtcbadebjpogmlaaGreatDoorJRefJ
import Derived.Deep.RegionLaw
import Derived.Deep.AppendLies
namespace Go.Proofs.YtcbadebjpogmlaaGreatDoor
open Go.RowKit Tr

/-- The query is right. -/
def Fin (s : List UInt8) : Prop := (M s (s.length + 1)).st = 26

theorem bnd_fin {s : List UInt8} {c : Nat} {acc : List UInt8} {t : St} (h : Bnd s c acc t) (hp : t.p = s.length) : Fin s ∧ C s (s.length + 1) = c ∧ T s (s.length + 1) = acc := by
  have hb : bt s s.length = 256 := bt_end (Nat.le_refl _)
  have hac := h.ac
  have hct := h.ct
  have hty := h.ty
  rw [hp] at hac hct hty
  rw [hb] at hac
  have hnx : nx (M s s.length) 256 = ⟨26, 0, 0, [], []⟩ := by rw [hac]; rfl
  refine ⟨?_, ?_, ?_⟩
  · show (M s (s.length + 1)).st = 26
    simp only [M]; rw [hb, hnx]
  · simp only [C]
    rw [hb, hct]
    have : inc (M s s.length) 256 = 0 := by unfold inc; rw [hnx, if_neg (by simp), if_neg (by simp)]
    omega
  · simp only [T]
    rw [hb]
    rcases hty with ⟨h1, h2⟩ | ⟨h1, h2, h3, h4⟩
    · simp [out, h1, h2]
    · rw [hb] at h3; simp [out, h1, h2, h3, h4]

theorem C_le (s : List UInt8) : ∀ i, C s i ≤ i
  | 0 => Nat.le_refl _
  | i + 1 => by
    have := C_le s i
    simp only [C]
    have : inc (M s i) (bt s i) ≤ 1 := by unfold inc; repeat' split
                                          all_goals omega
    omega

/-- The '$'. -/
theorem begin_ok (s : List UInt8) : OkB s 0 [36] (must s ⟨0, 0, 0⟩ [36]) := by
  show OkB s 0 [36] (must1 s ⟨0, 0, 0⟩ 36)
  unfold must1
  rw [sees_live rfl]
  by_cases hb : bt s 0 = 36
  · rw [if_pos (by simp [hb])]
    have hp := bt_lt (s := s) (p := 0) (by omega)
    have hM : M s 1 = cS 3 [] := by simp only [M]; rw [hb]; rfl
    refine Or.inl ⟨rfl, rfl, hp, ?_, ?_, ?_, Or.inl ⟨?_, ?_⟩⟩
    · show 2 ≤ (M s 1).st
      rw [hM]; simp [cS]
    · show nx (M s 1) _ = _
      rw [hM]
    · show C s 1 = 0
      simp only [C]
      have : inc (M s 0) (bt s 0) = 0 := by simp only [M]; rw [hb]; rfl
      omega
    · show (M s 1).st = 3
      rw [hM]; rfl
    · show T s 1 = [36]
      simp only [T, M]; rw [hb]; rfl
  · rw [if_neg (by simp [hb]), wrong_of rfl]
    refine Or.inr ⟨by simp, rfl, ⟨by simp [M, g0], ?_, Nat.zero_le _, by simp⟩⟩
    show (M s 1).st + 2 = 2
    simp only [M]
    have e : g0 = cS 2 [] := rfl
    rw [e]
    by_cases h256 : bt s 0 = 256
    · rw [h256]
      have := nx_end (X := 2) (o := []) (by omega) (by omega) (by omega)
      omega
    · rw [nx_low (by omega) (by omega) h256]
      simp [gBetween, gSegment, cS, hb, norm]

/-- A segment that was made. -/
structure SegV where
  d : Bool
  a : Option Addr
  k : Nat
  cp : Nat
  tx : ByteArray
def SegV.cells (g : SegV) : List Value := [.bool g.d, .slice g.a g.k g.cp, .string g.tx]
def cellsOf (l : List SegV) : List Value := l.flatMap SegV.cells
def sumK (l : List SegV) : Nat := (l.map SegV.k).sum
def textOf (l : List SegV) : List UInt8 := l.flatMap (fun g => bs g.tx)
theorem cellsOf_snoc (l : List SegV) (g : SegV) : cellsOf (l ++ [g]) = cellsOf l ++ g.cells := by simp [cellsOf]
theorem sumK_snoc (l : List SegV) (g : SegV) : sumK (l ++ [g]) = sumK l + g.k := by simp [sumK]
theorem textOf_snoc (l : List SegV) (g : SegV) : textOf (l ++ [g]) = textOf l ++ bs g.tx := by simp [textOf]

/-- Nothing that lay in w has turned. -/
abbrev Keeps (w w' : World) : Prop := Fr (fun _ => False) w w'
theorem Fr.new {K L : Nat → Prop} {a b c : World} (h : Fr K a b) (k : Fr L b c) (hL : ∀ i, i < a.heap.size → L i → K i) : Fr K a c :=
  ⟨k.os.trans h.os, k.tape.trans h.tape, k.output.trans h.output, Nat.le_trans h.size k.size, fun i hi hK => (k.block i (Nat.lt_of_lt_of_le hi h.size) (fun x => hK (hL i hi x))).trans (h.block i hi hK)⟩

theorem Tryz.infoSegment : (Tryz.prog.info? 152).map (fun i => (i.zero, i.size, i.bytes)) = some (some (.agg #[.bool false, .slice none 0 0, .string ⟨#[]⟩]), 3, 48) := by kernel_rfl

/-- A query of the reference's, in memory: its segments. -/
structure HasQ (w : World) (B gq : Nat) (l : List SegV) (v : Value) : Prop where
  ge : B ≤ gq
  blk : Blk w gq #[v] 148
  own : w.ownsRow (B + 1) 152 3 v l.length (cellsOf l)
  few : l.length ≤ 121
  small : ∀ g ∈ l, g.tx.size ≤ 200

theorem HasM.grow {w w' : World} {b : Nat} {s : ByteArray} {t : St} {row : Option Nat} (h : HasM w b s t) (hg : w.grownBy w' row) (hr : ∀ k, row = some k → b < k) : HasM w' b s t :=
  (hg.block b h.lt (fun e => by have := hr b e.symm; omega)).trans h
theorem cellsOf_get (l : List SegV) : ∀ (k i : Nat) (h : k < l.length), i < 3 → (cellsOf l)[k * 3 + i]? = (l[k]).cells[i]? := by
  induction l with
  | nil => intro k i h; simp at h
  | cons a r ih =>
    intro k i h hi
    have e : cellsOf (a :: r) = a.cells ++ cellsOf r := rfl
    rw [e]
    have hl : a.cells.length = 3 := rfl
    cases k with
    | zero => rw [List.getElem?_append_left (by omega)]; simp
    | succ k =>
      rw [List.getElem?_append_right (by omega)]
      rw [show (k + 1) * 3 + i - a.cells.length = k * 3 + i from by omega]
      exact ih k i (by simpa using h) hi
theorem cellsOf_1 (l : List SegV) (k : Nat) (h : k < l.length) : (cellsOf l)[k * 3 + 1]? = some (.slice (l[k]).a (l[k]).k (l[k]).cp) := (cellsOf_get l k 1 h (by omega)).trans rfl
theorem cellsOf_2 (l : List SegV) (k : Nat) (h : k < l.length) : (cellsOf l)[k * 3 + 2]? = some (.string (l[k]).tx) := (cellsOf_get l k 2 h (by omega)).trans rfl
theorem sumK_take (l : List SegV) (k : Nat) (h : k < l.length) : sumK (l.take (k + 1)) = sumK (l.take k) + (l[k]).k := by
  rw [List.take_succ_eq_append_getElem h, sumK_snoc]
theorem sumK_le (l : List SegV) (k : Nat) : sumK (l.take k) ≤ sumK l := by
  have e : sumK l = sumK (l.take k ++ l.drop k) := by rw [List.take_append_drop]
  have e2 : sumK (l.take k ++ l.drop k) = sumK (l.take k) + sumK (l.drop k) := by unfold sumK; rw [List.map_append, List.sum_append]
  omega
theorem grown_drew {w w' : World} {row : Option Nat} (h : w.drew.grownBy w' row) : w.grownBy w' row := ⟨h.os, h.tape, h.output, h.size, h.block⟩
theorem HasM.setOther {w : World} {b : Nat} {s : ByteArray} {t : St} (h : HasM w b s t) (g : Nat) (hg : b ≠ g) (i : Nat) (v : Value) : HasM (w.setCell ⟨g, i, none⟩ v) b s t := (Below.heap_setCell _ _ _ _ hg).trans h
theorem nb_dollar : nb ⟨#[36]⟩ = [36] := rfl

/-- What the reference's Compile answers to a query of at most 120 bytes. -/
def RefC (s : ByteArray) (w : World) (r : Ending) (w' : World) : Prop :=
  Keeps w w' ∧ ((∃ e p, Err (bs s) e p ∧ r = .returned (.tuple #[.pointer none, .int .i64 (e : Nat), .int .i64 (p : Nat)])) ∨
    (Fin (bs s) ∧ 10 < C (bs s) (s.size + 1) ∧ r = .returned (.tuple #[.pointer none, .int .i64 1, .int .i64 0])) ∨
    (Fin (bs s) ∧ C (bs s) (s.size + 1) ≤ 10 ∧ ∃ gq l v, w.heap.size ≤ gq ∧ r = .returned (.tuple #[.pointer (some ⟨gq, 0, none⟩), .int .i64 0, .int .i64 0]) ∧ HasQ w' (w.heap.size + 1) gq l v ∧ T (bs s) (s.size + 1) = [36] ++ textOf l))

set_option maxHeartbeats 400000 in
theorem c_refCompile_long {w : World} {s : ByteArray} (hs : 120 < s.size) (hm : s.size ≤ maxLen) :
    Calls Tryz.prog 41 #[.string s] w fun r w' => r = .returned (.tuple #[.pointer none, .int .i64 1, .int .i64 0]) ∧ w' = w := by
  unfold maxLen at hm
  have hd : (120 : Int) < (s.size : Int) := by omega
  go_enter Tryz.func41, Tryz.ntmps41
  go_wp2
  go_ret3
  exact ⟨rfl, rfl⟩

set_option maxRecDepth 100000 in
set_option maxHeartbeats 4000000 in
theorem c_refCompile {w : World} {s : ByteArray} (hs : s.size ≤ 120) :
    Calls Tryz.prog 41 #[.string s] w (RefC s w) := by
  obtain ⟨i0, hi, hz0, hz1, hz2⟩ := info_parts Tryz.infoSegment
  have HI := hide hi
  have HZ0 := hide hz0
  have HZ1 := hide hz1
  have HZ2 := hide hz2
  clear hi hz0 hz1 hz2
  have hd : ¬ (120 : Int) < (s.size : Int) := by omega
  have M0 : Hid (HasM ((w.alloc (.cells #[.string s, .int .i64 0, .int .i64 0, .int .i64 0] 145)).alloc (.cells #[.slice none 0 0] 148)) w.heap.size s ⟨0, 0, 0⟩) := by
    have hm : HasM (w.alloc (.cells #[.string s, .int .i64 0, .int .i64 0, .int .i64 0] 145)) w.heap.size s ⟨0, 0, 0⟩ := heap_alloc_new w _
    exact hm.alloc _
  have Q0 : Hid (Blk ((w.alloc (.cells #[.string s, .int .i64 0, .int .i64 0, .int .i64 0] 145)).alloc (.cells #[.slice none 0 0] 148)) (w.heap.size + 1) #[.slice none 0 0] 148) := by
    have := Blk.new (w.alloc (.cells #[.string s, .int .i64 0, .int .i64 0, .int .i64 0] 145)) #[.slice none 0 0] 148
    unfold Hid; simpa using this
  have F0 : Hid (Keeps w ((w.alloc (.cells #[.string s, .int .i64 0, .int .i64 0, .int .i64 0] 145)).alloc (.cells #[.slice none 0 0] 148))) := ((Fr.refl _ w).alloc _).alloc _
  have HO := hide (begin_ok (bs s))
  go_enter Tryz.func41, Tryz.ntmps41
  go_wp2_with fail
  refine (c_must M0.out ⟨#[36]⟩ (by decide) hs).mono ?_
  rintro r v1 ⟨rfl, gg⟩
  rw [nb_dollar] at gg
  have M1 := hide gg.m
  have Q1 := hide (Q0.out.rd gg (by omega))
  have F1 := hide (F0.out.new gg.f (fun i hi e => by unfold PB at e; omega))
  clear gg
  generalize must (bs s) ⟨0, 0, 0⟩ [36] = u1 at *
  go_wp2_with fail
  go_loopw [7] (fun _ wr => ∃ (u : St) (l : List SegV) (v : Value), HasM wr w.heap.size s u ∧ Blk wr (w.heap.size + 1) #[v] 148 ∧ wr.ownsRow (w.heap.size + 2) 152 3 v l.length (cellsOf l) ∧ Keeps w wr ∧ OkB (bs s) (sumK l) ([36] ++ textOf l) u ∧ (u.e = 0 → l.length ≤ u.p) ∧ l.length ≤ 121 ∧ (∀ g ∈ l, g.tx.size ≤ 200)) (fun _ wr => meas w.heap.size s.size wr)
  case atStart => exact ⟨u1, [], _, M1.out, Q1.out, World.ownsRow_nil _ _ _ _, F1.out, HO.out, fun _ => Nat.zero_le _, Nat.zero_le _, fun _ h => by simp at h⟩
  case round =>
    clear M1 Q1 F1 HO M0 Q0 F0
    obtain ⟨u, l, v, hM, hQ, hown, hF, ho, hlp, hl1, hsm⟩ := hrel
    have hle : u.p ≤ s.size := by
      have : u.p ≤ (bs s).length := by rcases ho with h | h; exact h.le; exact h.er.le
      rw [bs_len] at this; exact this
    have q1 := hM.c1
    have q2 := hM.c2
    have MM := hide hM
    have QQ := hide hQ
    have WW := hide hown
    have FF := hide hF
    have OO := hide ho
    have LP := hide hlp
    have SM := hide hsm
    clear hM hQ hown hF ho hlp hsm
    by_cases he : u.e = 0
    · have he2 : ((u.e : Int) == 0) = true := by rw [he]; rfl
      have HE := hide he
      clear he
      by_cases hp : u.p < s.size
      · have hdp : decide ((u.p : Int) < (s.size : Int)) = true := by simp; omega
        have HB : Hid (Bnd (bs s) (sumK l) ([36] ++ textOf l) u) := by
          rcases OO.out with h | h
          · exact h
          · exact absurd HE.out h.ne
        go_wp2_with fail
        refine (c_segment MM.out hs HB.out hp).mono ?_
        clear q1 q2
        rintro r v2 ⟨deep, a, k, cp, txt, u2, rfl, gg, o2, lt2, tx2⟩
        have M2 := hide gg.m
        have Q2 := hide (QQ.out.rd gg (by omega))
        have W2 := hide (own_fr WW.out gg.f (fun g hg e => by unfold PB at e; omega))
        have F2 := hide (FF.out.new gg.f (fun i hi e => by unfold PB at e; omega))
        have O2 := hide o2
        have L2 := hide lt2
        have T2 := hide tx2
        clear gg o2 lt2 tx2
        obtain ⟨a0, c0, rfl⟩ := own_slice W2.out
        have hq2 : w.heap.size + 1 < v2.heap.size := Q2.out.lt
        have hm2 : w.heap.size < v2.heap.size := M2.out.lt
        have k0 := Q2.out.cell 0
        simp at k0
        have kf := Q2.out.fz 0
        have hown2 := W2.out
        go_wp2_with fail
        go_region_law (refine step_append_lies _ rfl _ _ 146 rfl (w.heap.size + 2) 152 i0 _ 3 48 Tryz.underlying146 HI.out HZ0.out HZ1.out HZ2.out rfl (by decide) (.slice a0 l.length c0) l.length (cellsOf l) rfl (by exact (hown2.alloc _).alloc _) ⟨v2.heap.size + 1, 0, none⟩ 1 1 [.bool deep, .slice a k cp, .string txt] rfl rfl (by
              intro j u hj
              match j, hj with
              | 0, hj => simp at hj; subst hj; simp [Addr.add]
              | 1, hj => simp at hj; subst hj; simp [Addr.add]
              | 2, hj => simp at hj; subst hj; simp [Addr.add]) (by intro u hu; simp at hu; rcases hu with rfl | rfl | rfl <;> rfl) (by omega) (by unfold maxLen; omega) (by omega) (by simp; omega) _ rfl ?_; intro g cap w3 hown3 hgrow3 hat3 hlt3; have Q3 := hide (Blk.grown (w' := w3) ((Q2.out.alloc (.cells #[.bool deep, .slice a k cp, .string txt] 152)).alloc (.cells #[.bool deep, .slice a k cp, .string txt] 152)) (grown_drew hgrow3) (fun x hx => by have := (hown2.lt _ hx).1; omega)); have M3 := hide (HasM.grow (w' := w3) ((M2.out.alloc (.cells #[.bool deep, .slice a k cp, .string txt] 152)).alloc (.cells #[.bool deep, .slice a k cp, .string txt] 152)) (grown_drew hgrow3) (fun x hx => by have := (hown2.lt _ hx).1; omega)); have F3 := hide (Fr.grown (w' := w3) ((F2.out.alloc (.cells #[.bool deep, .slice a k cp, .string txt] 152)).alloc (.cells #[.bool deep, .slice a k cp, .string txt] 152)) (grown_drew hgrow3) (fun x hx => by have := (hown2.lt _ hx).1; omega)); have W3 := hide hown3; clear hown3 hgrow3 hat3 hlt3; have kf3 := Q3.out.fz 0; have kc3 := Q3.out.cell 0; simp at kc3)
        all_goals
          have M4 := hide (M3.out.setOther (w.heap.size + 1) (by omega) 0 (.slice (some ⟨g, 0, none⟩) (l.length + 1) cap))
          have Q4 := hide (Q3.out.set 0 (.slice (some ⟨g, 0, none⟩) (l.length + 1) cap))
          have F4 := hide (F3.out.setCell ⟨w.heap.size + 1, 0, none⟩ (Or.inr (by simp)) (.slice (some ⟨g, 0, none⟩) (l.length + 1) cap))
          have W4 := hide (own_fr W3.out ((Fr.refl (fun i => i = w.heap.size + 1) w3).setCell ⟨w.heap.size + 1, 0, none⟩ (Or.inl rfl) (.slice (some ⟨g, 0, none⟩) (l.length + 1) cap)) (fun i hi e => by omega))
          have REL : ∃ (u' : St) (l' : List SegV) (v' : Value), HasM (w3.setCell ⟨w.heap.size + 1, 0, none⟩ (.slice (some ⟨g, 0, none⟩) (l.length + 1) cap)) w.heap.size s u' ∧ Blk (w3.setCell ⟨w.heap.size + 1, 0, none⟩ (.slice (some ⟨g, 0, none⟩) (l.length + 1) cap)) (w.heap.size + 1) #[v'] 148 ∧ (w3.setCell ⟨w.heap.size + 1, 0, none⟩ (.slice (some ⟨g, 0, none⟩) (l.length + 1) cap)).ownsRow (w.heap.size + 2) 152 3 v' l'.length (cellsOf l') ∧ Keeps w (w3.setCell ⟨w.heap.size + 1, 0, none⟩ (.slice (some ⟨g, 0, none⟩) (l.length + 1) cap)) ∧ OkB (bs s) (sumK l') ([36] ++ textOf l') u' ∧ (u'.e = 0 → l'.length ≤ u'.p) ∧ l'.length ≤ 121 ∧ (∀ g ∈ l', g.tx.size ≤ 200) := by
            refine ⟨u2, l ++ [⟨deep, a, k, cp, txt⟩], _, M4.out, Q4.out, ?_, F4.out, ?_, ?_, ?_, ?_⟩
            · rw [cellsOf_snoc, List.length_append]; exact W4.out
            · rw [sumK_snoc, textOf_snoc, ← List.append_assoc]; exact O2.out
            · intro e
              have := L2.out e
              have := LP.out HE.out
              rw [List.length_append]; simp only [List.length_cons, List.length_nil]; omega
            · have := LP.out HE.out
              rw [List.length_append]; simp only [List.length_cons, List.length_nil]; omega
            · intro x hx
              rw [List.mem_append] at hx
              rcases hx with hx | hx
              · exact SM.out x hx
              · simp at hx; subst hx; exact T2.out
          go_roundw
          case rel => first | exact REL | ((repeat apply Exists.intro); exact ⟨REL, rfl⟩)
          case measure =>
            rw [MM.out.meas, if_pos HE.out]
            have e4 := M4.out.meas s.size
            have e5 : ∀ W, W.heap = (w3.setCell ⟨w.heap.size + 1, 0, none⟩ (.slice (some ⟨g, 0, none⟩) (l.length + 1) cap)).heap → meas w.heap.size s.size W = meas w.heap.size s.size (w3.setCell ⟨w.heap.size + 1, 0, none⟩ (.slice (some ⟨g, 0, none⟩) (l.length + 1) cap)) := fun W hW => by
              unfold meas mE mP World.cell?; rw [hW]
            rw [e5 _ rfl, e4]
            split
            · rename_i e
              have := L2.out e
              omega
            · omega
      · have hdp : decide ((u.p : Int) < (s.size : Int)) = false := by simp; omega
        have HF : Hid (Fin (bs s) ∧ C (bs s) (s.size + 1) = sumK l ∧ T (bs s) (s.size + 1) = [36] ++ textOf l) := by
          rcases OO.out with h | h
          · have := bnd_fin h (by rw [bs_len]; omega)
            rw [bs_len] at this; exact this
          · exact absurd HE.out h.ne
        have hsum : sumK l ≤ 121 := by
          have := C_le (bs s) (s.size + 1)
          rw [HF.out.2.1] at this; omega
        have he3 : ((u.e : Int) != 0) = false := by rw [HE.out]; rfl
        obtain ⟨a0, c0, rfl⟩ := own_slice WW.out
        have k0 := QQ.out.cell 0
        simp at k0
        go_wp2
        go_loopw [8, 9] (fun n i wx => wx = wr ∧ ∃ k : Nat, k ≤ l.length ∧ i = .int .i64 k ∧ n = .int .i64 (sumK (l.take k) : Nat)) (fun _ i _ => l.length - (intOf i).toNat)
        case atStart => exact ⟨rfl, 0, Nat.zero_le _, rfl, rfl⟩
        case round =>
          obtain ⟨rfl, k, hk, rfl, rfl⟩ := hrel
          by_cases hlt : k < l.length
          · obtain ⟨g, cap, hv, hbg, hgl⟩ := WW.out.form (by omega)
            simp only [Value.slice.injEq, true_and] at hv
            obtain ⟨rfl, rfl⟩ := hv
            have kc := (WW.out.cellAt (k * 3 + 1) (by omega)).trans (cellsOf_1 l k hlt)
            have hk2 := sumK_take l k hlt
            have HK := hide hk2
            have hb1 := sumK_le l k
            have hb2 : (l[k]).k ≤ sumK l := by have := sumK_le l (k + 1); omega
            clear hk2
            generalize l[k] = gk at *
            go_wp2
            exact ⟨⟨trivial, k + 1, by omega, by go_num, by rw [HK.out]; go_num⟩, by simp [intOf]; omega⟩
          · have hkl : k = l.length := by omega
            subst hkl
            have et : l.take l.length = l := List.take_length
            rw [et]
            clear et
            by_cases h10 : 10 < sumK l
            · have hd10 : (10 : Int) < (sumK l : Int) := by omega
              go_wp2
              go_ret3
              exact ⟨FF.out, Or.inr (Or.inl ⟨HF.out.1, by rw [HF.out.2.1]; exact h10, rfl⟩)⟩
            · have hd10 : ¬ (10 : Int) < (sumK l : Int) := by omega
              go_wp2
              go_ret3
              exact ⟨FF.out, Or.inr (Or.inr ⟨HF.out.1, by rw [HF.out.2.1]; omega, w.heap.size + 1, l, _, by omega, rfl, ⟨by omega, QQ.out, WW.out, hl1, SM.out⟩, HF.out.2.2⟩)⟩
    · have he2 := beq0 he
      have he3 : ((u.e : Int) != 0) = true := by rw [bne_iff_ne]; omega
      have HB : Hid (Bad (bs s) 0 u) := by
        rcases OO.out with h | h
        · exact absurd h.e0 he
        · exact h
      clear he
      go_wp2
      go_quiet (fail)
      go_wp2
      go_ret3
      exact ⟨FF.out.drewN _, Or.inl ⟨u.e, u.p, HB.out.er, rfl⟩⟩

end Go.Proofs.YtcbadebjpogmlaaGreatDoor

/- The reference's Text. -/
namespace Go.Proofs.YtcbadebjpogmlaaGreatDoor
open Go.RowKit Tr

theorem textOf_take (l : List SegV) (k : Nat) (h : k < l.length) : textOf (l.take (k + 1)) = textOf (l.take k) ++ bs (l[k]).tx := by
  rw [List.take_succ_eq_append_getElem h, textOf_snoc]

set_option maxRecDepth 100000 in
set_option maxHeartbeats 2000000 in
theorem c_refText {w : World} {B gq : Nat} {l : List SegV} {v : Value} (h : HasQ w B gq l v) :
    Calls Tryz.prog 44 #[.pointer (some ⟨gq, 0, none⟩)] w fun r w' => ∃ t : ByteArray, r = .returned (.string t) ∧ bs t = [36] ++ textOf l ∧ w' = w := by
  have k0 := h.blk.cell 0
  simp at k0
  obtain ⟨a0, c0, rfl⟩ := own_slice h.own
  have hfew := h.few
  have HH := hide h
  clear h
  go_enter Tryz.func44, Tryz.ntmps44
  go_wp2
  go_loop [3, 4] (fun t i => ∃ (k : Nat) (tx : ByteArray), k ≤ l.length ∧ i = .int .i64 k ∧ t = .string tx ∧ bs tx = [36] ++ textOf (l.take k) ∧ tx.size ≤ 1 + 200 * k) (fun _ i => l.length - (intOf i).toNat)
  case atStart => exact ⟨0, ⟨#[36]⟩, Nat.zero_le _, rfl, rfl, rfl, by decide⟩
  case round =>
    obtain ⟨k, tx, hk, rfl, rfl, hb, hz⟩ := hrel
    have HB := hide hb
    clear hb
    by_cases hlt : k < l.length
    · obtain ⟨g, cap, hv, hbg, hgl⟩ := HH.out.own.form (by omega)
      simp only [Value.slice.injEq, true_and] at hv
      obtain ⟨rfl, rfl⟩ := hv
      have kc := (HH.out.own.cellAt (k * 3 + 2) (by omega)).trans (cellsOf_2 l k hlt)
      have HT := hide (textOf_take l k hlt)
      have hsz := HH.out.small _ (List.getElem_mem hlt)
      generalize l[k] = gk at *
      go_wp2
      go_round
      case rel =>
        refine ⟨k + 1, tx ++ gk.tx, by omega, by go_num, rfl, ?_, ?_⟩
        · rw [bs_append, HB.out, HT.out, List.append_assoc]
        · rw [ByteArray.size_append]; omega
      case measure => simp [intOf]; omega
    · have hkl : k = l.length := by omega
      subst hkl
      go_wp2
      go_ret
      refine ⟨tx, rfl, ?_, rfl⟩
      rw [HB.out, List.take_length]; rfl

end Go.Proofs.YtcbadebjpogmlaaGreatDoor
