/- The program's maker: words and stars, written. -/
import Derived.Test.YtcbadebjpogmlaaGreatDoorJMkS
namespace Go.Proofs.YtcbadebjpogmlaaGreatDoor
open Go.RowKit Tr

theorem m_clone (s : ByteArray) (w : World) (hlim : s.size ≤ 281474976710656) : Calls Tryz.prog 62 #[.string s] w fun r w' => r = .returned (.string s) ∧ Below w.heap.size w w' := by
  go_enter Tryz.func62, Tryz.ntmps62
  go_wp2_with fail
  refine (l_clone s w hlim).mono ?_
  rintro r w1 ⟨rfl, hb⟩
  have H := hide hb
  clear hb
  go_wp2
  go_ret
  exact ⟨rfl, H.out⟩

theorem Mk.qt {g : Nat} {q : ByteArray} {a : Nat} {t : List UInt8} {n : Nat} {p v : Value} {w : World} (h : Mk g q a t n p v w) : Qt g q p v n w a w := ⟨h.b, Fr.refl _ _, h.le⟩
theorem Mk.step {g : Nat} {q : ByteArray} {a a' : Nat} {t : List UInt8} {n : Nat} {p v : Value} {w w' : World} (h : Mk g q a t n p v w) (k : Qt g q p v n w a' w') : Mk g q a' t n p v w' :=
  ⟨k.b, h.o, own_fr h.row k.f (fun k hk e => by omega), k.le⟩
theorem Mk.alloc {g : Nat} {q : ByteArray} {a : Nat} {t : List UInt8} {n : Nat} {p v : Value} {w : World} (h : Mk g q a t n p v w) (o : Obj) : Mk g q a t n p v (w.alloc o) := h.step (h.qt.alloc o)
theorem Mk.lt {g : Nat} {q : ByteArray} {a : Nat} {t : List UInt8} {n : Nat} {p v : Value} {w : World} (h : Mk g q a t n p v w) : ∀ k, KG g v k → k < w.heap.size := by
  rintro k (rfl | hk)
  · exact h.b.lt
  · exact (h.row.lt k hk).2
theorem KG.of {g : Nat} {v : Value} {w w' : World} (h : Fr (fun k => k = g) w w') : Fr (KG g v) w w' := h.mono (fun _ _ e => Or.inl e)

/-- A selector comes back, and this has been written. -/
def WsP (g : Nat) (q : ByteArray) (a : Nat) (t : List UInt8) (n : Nat) (v : Value) (w : World) (r : Ending) (w' : World) : Prop :=
  (∃ (k : Int) (nm : ByteArray) (fr to : Int) (met : Value), r = .returned (.agg #[.int .i64 k, .string nm, .int .i64 fr, .int .i64 to, met]) ∧ (met = .nilFunc ∨ ∃ f x y, met = .func f x y)) ∧ ∃ p' v', Mk g q a t n p' v' w' ∧ Fr (KG g v) w w'

theorem Mk.set5 {g : Nat} {q : ByteArray} {a : Nat} {t : List UInt8} {n : Nat} {p v : Value} {w : World} (h : Mk g q a t n p v w) (b : Nat) (hb : ¬ KG g v b) (x0 x1 x2 x3 x4 : Value) :
    Mk g q a t n p v (((((w.setCell ⟨b, 0, none⟩ x0).setCell ⟨b, 1, none⟩ x1).setCell ⟨b, 2, none⟩ x2).setCell ⟨b, 3, none⟩ x3).setCell ⟨b, 4, none⟩ x4) := by
  have hg : g ≠ b := fun e => hb (Or.inl e.symm)
  have f : Fr (fun k => k = b) w (((((w.setCell ⟨b, 0, none⟩ x0).setCell ⟨b, 1, none⟩ x1).setCell ⟨b, 2, none⟩ x2).setCell ⟨b, 3, none⟩ x3).setCell ⟨b, 4, none⟩ x4) :=
    (((((Fr.refl (fun k => k = b) w).setCell ⟨b, 0, none⟩ (Or.inl rfl) _).setCell ⟨b, 1, none⟩ (Or.inl rfl) _).setCell ⟨b, 2, none⟩ (Or.inl rfl) _).setCell ⟨b, 3, none⟩ (Or.inl rfl) _).setCell ⟨b, 4, none⟩ (Or.inl rfl) _
  refine ⟨h.b.fr f hg, h.o, ?_, h.le⟩
  refine ⟨h.row.1, ?_⟩
  rcases h.row.2 with x | ⟨k, cap, cur, h1, h2, h3, h4⟩
  · exact Or.inl x
  · refine Or.inr ⟨k, cap, cur, h1, h2, (f.block k (lt_of_some h3) (fun e => hb (Or.inr (by rw [h1, ← e]; rfl)))).trans h3, h4⟩

theorem Mk.apart {g : Nat} {q : ByteArray} {a : Nat} {t : List UInt8} {n : Nat} {p v : Value} {w : World} (h : Mk g q a t n p v w) {b : Nat} {cs : Array Value} {T : TypeId} (hb : Blk w b cs T) (hT : T ≠ 5) (hg : g ≠ b) : ¬ KG g v b := by
  rintro (e | e)
  · exact hg e.symm
  · rcases h.row.2 with ⟨x, _⟩ | ⟨k, cap, cur, x1, _, x3, _⟩
    · rw [x] at e; cases e
    · rw [x1] at e
      have ek : k = b := Option.some.inj e
      subst ek
      unfold Blk at hb
      rw [x3] at hb
      injection hb with hb
      injection hb with _ h2 _
      exact hT h2.symm

set_option maxHeartbeats 1000000 in
theorem ret_ws {R : Ending → World → Prop} {a : Act} {W : World} {g : Nat} {x0 x1 x2 x3 x4 : Value} (hd : a.defers = []) (ha : a.tmps[2]?.getD undef = .pointer (some ⟨g, 0, none⟩))
    (hB : Blk W g #[x0, x1, x2, x3, x4] 239) (hR : R (.returned (.agg #[x0, x1, x2, x3, x4])) W) : bodyPost Tryz.prog Tryz.f160 R .ret a W := by
  have k0 := hB.cell 0
  have k1 := hB.cell 1
  have k2 := hB.cell 2
  have k3 := hB.cell 3
  have k4 := hB.cell 4
  simp at k0 k1 k2 k3 k4
  refine bodyPost_ret (v := .agg #[x0, x1, x2, x3, x4]) ?_ hd hR
  simp [results, Tryz.results160, go_sem, ha, k0, k1, k2, k3, k4]

set_option maxHeartbeats 1000000 in
theorem ws_star {w : World} {g : Nat} {q : ByteArray} {a : Nat} {t : List UInt8} {n : Nat} {p v : Value} (hq : q.size ≤ 1000) (h : Mk g q a t n p v w) (hl : t.length ≤ 100000) (T0 : tk q a ⟨#[42]⟩ = true) :
    Calls Tryz.prog 160 #[.pointer (some ⟨g, 0, none⟩)] w (WsP g q (a + 1) (t ++ [91, 42, 93]) n v w) := by
  have J := hide (h.alloc (.cells #[.int .i64 0, .string ⟨#[]⟩, .int .i64 0, .int .i64 0, .nilFunc] 239))
  have B0 := hide (Blk.new w #[.int .i64 0, .string ⟨#[]⟩, .int .i64 0, .int .i64 0, .nilFunc] 239)
  have hnk : ¬ KG g v w.heap.size := fun x => Nat.lt_irrefl _ (h.lt _ x)
  have F0 := hide ((Fr.refl (KG g v) w).alloc (.cells #[.int .i64 0, .string ⟨#[]⟩, .int .i64 0, .int .i64 0, .nilFunc] 239))
  clear h
  go_enter Tryz.func160, Tryz.ntmps160
  go_wp2_with fail
  refine (c_yes J.out.qt hq _ T0 (a + 1) rfl).mono ?_
  rintro r w1 ⟨rfl, h1⟩
  have M1 := hide (J.out.step h1)
  have F1 := hide (F0.out.trans (KG.of h1.f))
  have B1 := hide (B0.out.fr (KG.of h1.f) hnk)
  clear h1 J F0 B0
  go_wp2_with fail
  refine (c_write M1.out ⟨#[91, 42, 93]⟩ (by show t.length + 3 ≤ _; omega)).mono ?_
  rintro r w2 ⟨rfl, p2, v2, h2, f2⟩
  have M2 := hide h2
  have F2 := hide (F1.out.trans f2)
  have B2 := hide (B1.out.fr f2 hnk)
  have hnk2 : ¬ KG g v2 w.heap.size := h2.apart B2.out (by decide) (fun e => hnk (Or.inl e.symm))
  clear h2 f2 M1 F1 B1
  have hfz := B2.out.fz
  have z0 := B2.out.cell 0
  have z1 := B2.out.cell 1
  have z2 := B2.out.cell 2
  have z3 := B2.out.cell 3
  have z4 := B2.out.cell 4
  simp at z0 z1 z2 z3 z4
  go_wp2
  refine ret_ws rfl rfl (((((B2.out.set 0 _).set 1 _).set 2 _).set 3 _).set 4 _) ?_
  refine ⟨⟨_, _, _, _, _, rfl, Or.inl rfl⟩, p2, v2, M2.out.set5 _ hnk2 _ _ _ _ _, ?_⟩
  have hr : ∀ {W : World} (x : Fr (KG g v) w W) (i : Nat) (y : Value), Fr (KG g v) w (W.setCell ⟨w.heap.size, i, none⟩ y) := fun x i y => x.setCell ⟨w.heap.size, i, none⟩ (Or.inr (Nat.le_refl _)) y
  exact hr (hr (hr (hr (hr F2.out 0 _) 1 _) 2 _) 3 _) 4 _

set_option maxHeartbeats 1000000 in
theorem ws_word {w : World} {g : Nat} {q : ByteArray} {a : Nat} {t : List UInt8} {n : Nat} {p v : Value} (hq : q.size ≤ 1000) (h : Mk g q a t n p v w) (hl : t.length ≤ 100000) (T0 : tk q a ⟨#[42]⟩ = false) :
    Calls Tryz.prog 160 #[.pointer (some ⟨g, 0, none⟩)] w (fun r w' => ∃ k, RunP isLet q a k ∧ WsP g q k (t ++ ([91, 39] ++ sub (bs q) a k ++ [39, 93])) n v w r w') := by
  have J := hide (h.alloc (.cells #[.int .i64 0, .string ⟨#[]⟩, .int .i64 0, .int .i64 0, .nilFunc] 239))
  have B0 := hide (Blk.new w #[.int .i64 0, .string ⟨#[]⟩, .int .i64 0, .int .i64 0, .nilFunc] 239)
  have hnk : ¬ KG g v w.heap.size := fun x => Nat.lt_irrefl _ (h.lt _ x)
  have F0 := hide ((Fr.refl (KG g v) w).alloc (.cells #[.int .i64 0, .string ⟨#[]⟩, .int .i64 0, .int .i64 0, .nilFunc] 239))
  clear h
  go_enter Tryz.func160, Tryz.ntmps160
  go_wp2_with fail
  refine (c_no J.out.qt hq _ T0).mono ?_
  rintro r w1 ⟨rfl, h1⟩
  have H1 := hide h1
  clear h1
  go_wp2_with fail
  refine (c_run_isLetter H1.out hq).mono ?_
  rintro r w1 ⟨k, hk, rfl, h1⟩
  have HK := hide hk
  have hkq := hk.le
  clear hk H1
  have M1 := hide (J.out.step h1)
  have F1 := hide (F0.out.trans (KG.of h1.f))
  have B1 := hide (B0.out.fr (KG.of h1.f) hnk)
  clear h1 J F0 B0
  go_wp2_with fail
  refine (c_write M1.out _ (by simp [ByteArray.size_append, ByteArray.size_extract]; have e2 : (⟨#[91, 39]⟩ : ByteArray).size = 2 := rfl; have e3 : (⟨#[39, 93]⟩ : ByteArray).size = 2 := rfl; omega)).mono ?_
  rintro r w2 ⟨rfl, p2, v2, h2, f2⟩
  have e4 : bs (⟨#[91, 39]⟩ ++ q.extract a k ++ ⟨#[39, 93]⟩) = [91, 39] ++ sub (bs q) a k ++ [39, 93] := by rw [bs_append, bs_append, bs_extract]; rfl
  rw [e4] at h2
  have M2 := hide h2
  clear e4
  have F2 := hide (F1.out.trans f2)
  have B2 := hide (B1.out.fr f2 hnk)
  have hnk2 : ¬ KG g v2 w.heap.size := h2.apart B2.out (by decide) (fun e => hnk (Or.inl e.symm))
  clear h2 f2 M1 F1 B1
  have hfz := B2.out.fz
  have z0 := B2.out.cell 0
  have z1 := B2.out.cell 1
  have z2 := B2.out.cell 2
  have z3 := B2.out.cell 3
  have z4 := B2.out.cell 4
  simp at z0 z1 z2 z3 z4
  go_wp2
  refine ret_ws rfl rfl (((((B2.out.set 0 _).set 1 _).set 2 _).set 3 _).set 4 _) ?_
  refine ⟨k, HK.out, ⟨_, _, _, _, _, rfl, Or.inl rfl⟩, p2, v2, M2.out.set5 _ hnk2 _ _ _ _ _, ?_⟩
  have hr : ∀ {W : World} (x : Fr (KG g v) w W) (i : Nat) (y : Value), Fr (KG g v) w (W.setCell ⟨w.heap.size, i, none⟩ y) := fun x i y => x.setCell ⟨w.heap.size, i, none⟩ (Or.inr (Nat.le_refl _)) y
  exact hr (hr (hr (hr (hr F2.out 0 _) 1 _) 2 _) 3 _) 4 _

end Go.Proofs.YtcbadebjpogmlaaGreatDoor

/- The program's maker against the plain machine: brackets. -/
namespace Go.Proofs.YtcbadebjpogmlaaGreatDoor
open Go.RowKit Tr

theorem infoSel : (Tryz.prog.info? 239).map (fun i => (i.zero, i.size, i.bytes)) = some (some (.agg #[.int .i64 0, .string ⟨#[]⟩, .int .i64 0, .int .i64 0, .nilFunc]), 5, 48) := by kernel_rfl

/-- A selector's cells. -/
structure SV where
  k : Int
  nm : ByteArray
  fr : Int
  to : Int
  met : Value
  hm : met = .nilFunc ∨ ∃ f x y, met = .func f x y
def SV.cells (s : SV) : List Value := [.int .i64 s.k, .string s.nm, .int .i64 s.fr, .int .i64 s.to, s.met]
theorem SV.one (s : SV) : ∀ u ∈ s.cells, u.oneCell' = true := by
  intro u hu
  simp [SV.cells] at hu
  rcases hu with rfl | rfl | rfl | rfl | rfl
  · rfl
  · rfl
  · rfl
  · rfl
  · rcases s.hm with h | ⟨f, x, y, h⟩ <;> rw [h] <;> rfl
def selCells (l : List SV) : List Value := l.flatMap SV.cells

/-- What holds at the head of the loop over selectors. -/
structure BrL (g : Nat) (q : ByteArray) (p v : Value) (n : Nat) (w0 : World) (B q0 c : Nat) (t : St) (j : Nat) (sv : Value) (wr : World) : Prop where
  qt : Qt g q p v n w0 t.p wr
  lv : Live (bs q) q0 (c + j) 9 [] 0 t
  row : ∃ l : List SV, wr.ownsRow B 239 5 sv j (selCells l)
  gb : g < B
  wb : w0.heap.size ≤ B
  sz : B ≤ wr.heap.size
  le : j ≤ t.p

theorem own_five (w : World) (B : Nat) (s : SV) (hB : B ≤ w.heap.size) : (w.alloc (.cells #[.int .i64 s.k, .string s.nm, .int .i64 s.fr, .int .i64 s.to, s.met] 239)).ownsRow B 239 5 (.slice (some ⟨w.heap.size, 0, none⟩) 1 1) 1 (selCells [s]) :=
  ⟨rfl, Or.inr ⟨w.heap.size, 1, _, rfl, hB, heap_alloc_new w _, Nat.le_refl _, by unfold maxLen; decide, rfl, rfl⟩⟩

set_option maxHeartbeats 2000000 in
set_option maxRecDepth 100000 in
theorem k_bracketed {w : World} {g : Nat} {q : ByteArray} {txt : List UInt8} {n : Nat} {p v : Value} (hq : q.size ≤ 1000) (hf : FinP (bs q)) (he : Er g w) {c : Nat} {t : St} (h : Mk g q t.p txt n p v w) (hl : txt.length ≤ 100000) (T0 : tk q t.p ⟨#[91]⟩ = true)
    (hok : Live (bs q) (t.p + 1) (c + 1) 6 [] 0 { t with p := t.p + 1 }) :
    Calls Tryz.prog 159 #[.pointer (some ⟨g, 0, none⟩)] w (fun r w' => ∃ (t' : St) (j : Nat) (sv p' v' : Value) (l : List SV), Bnd (bs q) (c + j) (T (bs q) (t.p + 1) ++ sub (bs q) (t.p + 1) t'.p) t' ∧ t.p < t'.p ∧ j ≤ q.size ∧ r = .returned sv ∧
      w'.ownsRow w.heap.size 239 5 sv j (selCells l) ∧ Mk g q t'.p (txt ++ sub (bs q) t.p t'.p) n p' v' w' ∧ Fr (KG g v) w w') := by
  obtain ⟨i0, hi, hz0, hz1, hz2⟩ := info_parts infoSel
  have HI := hide hi
  have HZ0 := hide hz0
  have HZ1 := hide hz1
  have HZ2 := hide hz2
  have HE := hide he
  have HF := hide hf
  have MM := hide h
  have L := hide hok
  have c1 : w.cell? ⟨g, 1, none⟩ = some (.int .i64 (t.p : Nat)) := h.b.cell 1
  have htq0 := h.le
  clear h hok he hf hi hz0 hz1 hz2
  go_enter Tryz.func159, Tryz.ntmps159
  go_wp2_with fail
  refine (c_yes MM.out.qt hq _ T0 (t.p + 1) rfl).mono ?_
  rintro r w1 ⟨rfl, h1⟩
  have H1 := hide h1
  clear h1 c1
  go_wp2_with fail
  refine (k_selector (t := { t with p := t.p + 1 }) hq HF.out HE.out L.out H1.out).mono ?_
  rintro r w2 ⟨t2, hl2, ⟨k2, nm2, fr2, to2, met2, rfl, hm2⟩, h2⟩
  have S : Hid (BrL g q p v n w w.heap.size (t.p + 1) c t2 1 (.slice (some ⟨w2.heap.size, 0, none⟩) 1 1) (w2.alloc (.cells #[.int .i64 k2, .string nm2, .int .i64 fr2, .int .i64 to2, met2] 239))) :=
    ⟨h2.alloc _, hl2, ⟨[⟨k2, nm2, fr2, to2, met2, hm2⟩], own_five w2 _ ⟨k2, nm2, fr2, to2, met2, hm2⟩ h2.f.size⟩, MM.out.b.lt, Nat.le_refl _, by have := h2.f.size; simp; omega, by have := hl2.ge; omega⟩
  clear h2 hl2 H1 L
  go_wp2_with fail
  go_loopw [4] (fun sv wr => ∃ (t1 : St) (j : Nat), BrL g q p v n w w.heap.size (t.p + 1) c t1 j sv wr) (fun _ wr => q.size - mA g wr)
  case atStart => exact ⟨t2, 1, S.out⟩
  case round =>
    clear S
    obtain ⟨t3, j, hS⟩ := hrel
    have S := hide hS
    have hjt := hS.le
    have htq : t3.p ≤ q.size := hS.qt.le
    have hge : t.p + 1 ≤ t3.p := hS.lv.ge
    have HM := hide hS.qt.mA
    obtain ⟨l, hrow⟩ := hS.row
    obtain ⟨ao, cp, rfl⟩ := own_slice hrow
    have R := hide hrow
    have e0 := hS.lv.e0
    clear hS hrow
    by_cases h1 : sees (bs q) t3 44 = true
    · have T1 : tk q t3.p ⟨#[44]⟩ = true := (tk1 q e0 44).trans h1
      have L1 := hide (fin_live HF.out (sel_comma (Or.inl S.out.lv) h1))
      clear h1 e0
      go_wp2_with fail
      refine (c_yes S.out.qt.here hq _ T1 (t3.p + 1) rfl).mono ?_
      rintro r w4 ⟨rfl, h4⟩
      have H4 := hide h4
      clear h4
      have E2 := hide (HE.out.keep S.out.qt.f)
      go_wp2_with fail
      refine (k_selector (t := adv t3) hq HF.out E2.out L1.out.rebase H4.out).mono ?_
      rintro r w5 ⟨t5, hl5, ⟨k5, nm5, fr5, to5, met5, rfl, hm5⟩, h5⟩
      have hkt : t3.p + 1 ≤ t5.p := hl5.ge
      have hkq := h5.le
      have L5 : Hid (Live (bs q) (t.p + 1) (c + (j + 1)) 9 [] 0 t5) := L1.out.unbase hl5
      have H5 := hide h5
      have V5 : Hid (∀ u ∈ [Value.int .i64 k5, .string nm5, .int .i64 fr5, .int .i64 to5, met5], u.oneCell' = true) := (SV.mk k5 nm5 fr5 to5 met5 hm5).one
      have M5 := hide hm5
      clear h5 hl5 H4 L1 hm5
      have hown5 : w5.ownsRow w.heap.size 239 5 (.slice ao j cp) j (selCells l) := own_fr R.out H5.out.f (fun k hk e => by have := S.out.gb; omega)
      have hB5 : w.heap.size ≤ w5.heap.size := Nat.le_trans S.out.sz H5.out.f.size
      go_wp2_with (at_builtin; refine wpList_append_own _ rfl _ _ 210 rfl w.heap.size 239 i0 _ 5 48 Tryz.underlying210 HI.out HZ0.out HZ1.out HZ2.out rfl (by decide) _ _ _ rfl (hown5.alloc _) ⟨w5.heap.size, 0, none⟩ 1 1 [.int .i64 k5, .string nm5, .int .i64 fr5, .int .i64 to5, met5] rfl rfl ?c1 ?c2 ?c3 ?c4 ?c5 ?_)
      case c1 =>
        intro j u hj
        match j, hj with
        | 0, hj => simp at hj; subst hj; simp [Addr.add]
        | 1, hj => simp at hj; subst hj; simp [Addr.add]
        | 2, hj => simp at hj; subst hj; simp [Addr.add]
        | 3, hj => simp at hj; subst hj; simp [Addr.add]
        | 4, hj => simp at hj; subst hj; simp [Addr.add]
      case c2 => exact V5.out
      case c3 => unfold maxLen; omega
      case c4 => omega
      case c5 => simp; omega
      intro v' w6 hown6 hgrow _
      have S2 : Hid (BrL g q p v n w w.heap.size (t.p + 1) c t5 (j + 1) v' w6) :=
        ⟨(S.out.qt.join (H5.out.alloc _)).grown hgrow (fun k hk => (hown5.lt k hk).1) S.out.gb S.out.wb, L5.out, ⟨l ++ [⟨k5, nm5, fr5, to5, met5, M5.out⟩], by simp only [selCells, List.flatMap_append]; exact hown6⟩, S.out.gb, S.out.wb, Nat.le_trans hB5 (Nat.le_trans (by simp) hgrow.size), by omega⟩
      clear hown6 hgrow hown5
      go_wp2
      go_roundw
      case rel => exact ⟨_, _, S2.out⟩
      case measure =>
        have m1 : mA g wr = t3.p := HM.out
        have m2 : mA g w6 = t5.p := S2.out.qt.mA
        rw [m1, m2]
        omega
    · have h1 : sees (bs q) t3 44 = false := by simpa using h1
      have T1 := tk_ne (sign := ⟨#[44]⟩) e0 rfl h1
      have a1 := sel_close (Or.inl S.out.lv) h1
      have a2 : Bnd (bs q) (c + j) (T (bs q) (t.p + 1) ++ sub (bs q) (t.p + 1) (must (bs q) t3 [93]).p) (must (bs q) t3 [93]) := a1.resolve_right (fun b => fin_bad HF.out b)
      obtain ⟨T2, e2⟩ := tk_must (sign := ⟨#[93]⟩) a2.e0
      rw [show [93] = nb ⟨#[93]⟩ from rfl, e2] at a2
      have A2 := hide a2
      clear h1 e0 a1 a2 e2
      go_wp2_with fail
      refine (c_no S.out.qt.here hq _ T1).mono ?_
      rintro r w4 ⟨rfl, h4⟩
      have H4 := hide h4
      clear h4
      go_wp2_with fail
      refine (c_yes H4.out hq _ T2 (t3.p + 1) rfl).mono ?_
      rintro r w5 ⟨rfl, h5⟩
      have H5 := hide (S.out.qt.join h5)
      have R5 : Hid (w5.ownsRow w.heap.size 239 5 (.slice ao j cp) j (selCells l)) := own_fr R.out h5.f (fun k hk e => by have := S.out.gb; omega)
      clear h5 H4
      have M5 := hide (MM.out.step H5.out)
      have F5 : Hid (Fr (KG g v) w w5) := KG.of H5.out.f
      have d0 : w5.cell? ⟨g, 0, none⟩ = some (.string q) := M5.out.b.cell 0
      have d1 : w5.cell? ⟨g, 1, none⟩ = some (.int .i64 ((t3.p + 1 : Nat) : Int)) := M5.out.b.cell 1
      have hle5 : t3.p + 1 ≤ q.size := M5.out.le
      simp at d1
      go_wp2_with fail
      have MD : Hid (Mk g q (t3.p + 1) txt n p v w5.drew) := ⟨M5.out.b, M5.out.o, M5.out.row, M5.out.le⟩
      have HZ := hide (show txt.length + (q.extract t.p (t3.p + 1)).size ≤ 1000000 by simp [ByteArray.size_extract]; omega)
      go_region_with (go_at_call 86; refine (c_write MD.out _ HZ.out).mono ?_; rintro r w6 ⟨rfl, p6, v6, h6, f6⟩)
      all_goals
        rw [bs_extract] at h6
        have M6 := hide h6
        have F6 := hide (F5.out.drew.trans f6)
        have hne : ∀ k, w.heap.size ≤ k → ¬ KG g v k := fun k hk x => by have := MM.out.lt k x; omega
        have R6 := hide (own_fr (w := w5.drew) R5.out f6 hne)
        clear h6 f6
        go_wp2
        go_ret
        exact ⟨{ t3 with p := t3.p + 1 }, j, _, p6, v6, l, A2.out, by show t.p < t3.p + 1; omega, by omega, rfl, R6.out, M6.out, F6.out⟩

end Go.Proofs.YtcbadebjpogmlaaGreatDoor
