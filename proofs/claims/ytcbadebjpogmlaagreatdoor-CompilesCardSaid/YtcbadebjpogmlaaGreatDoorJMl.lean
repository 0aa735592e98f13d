/- The program's Make. -/
import Derived.Test.YtcbadebjpogmlaaGreatDoorJMkZ
import Derived.Test.YtcbadebjpogmlaaGreatDoorJLawI
import Derived.Stop.LaidErr
namespace Go.Proofs.YtcbadebjpogmlaaGreatDoor
open Go.RowKit Tr

set_option maxHeartbeats 2000000 in
theorem m_make_long {w : World} {s : ByteArray} (h : 120 < s.size) (hs : s.size ≤ maxLen) : Calls Tryz.prog 40 #[.string s] w (fun r w' => r = .returned (.tuple #[.pointer none, .int .i64 1, .int .i64 0]) ∧ w' = w) := by
  unfold maxLen at hs
  have hd : (120 : Int) < (s.size : Int) := by omega
  go_enter Tryz.func40, Tryz.ntmps40
  go_wp2
  go_ret3
  exact ⟨rfl, rfl⟩

/-- The library's error stands. -/
structure EV (w : World) : Prop where
  v : ∃ ev, w.cell? ⟨6, 0, none⟩ = some ev ∧ (ev = .nilIface ∨ ∃ te pe, ev = .iface te pe)
  lt : 6 < w.heap.size
theorem EV.keep {w w' : World} (h : EV w) (f : Keeps w w') : EV w' := by
  obtain ⟨⟨ev, h1, h2⟩, h4⟩ := h
  exact ⟨⟨ev, (f.cell (p := ⟨6, 0, none⟩) h4 id).trans h1, h2⟩, Nat.lt_of_lt_of_le h4 f.size⟩
theorem EV.er {w : World} (h : EV w) {g : Nat} (hg : 6 < g) : Er g w := ⟨h.v, by omega, h.lt⟩
theorem FU.keeps {g : Nat} {w0 w w' : World} (k : Keeps w0 w) (h : FU g w w') (hg : w0.heap.size ≤ g) : Keeps w0 w' :=
  ⟨h.os.trans k.os, h.tape.trans k.tape, h.output.trans k.output, Nat.le_trans k.size h.size, fun i hi _ => (h.low i (by omega) (Nat.lt_of_lt_of_le hi k.size)).trans (k.block i hi id)⟩

/-- What Make answers to a query of at most 120 bytes. -/
def MakeP (s : ByteArray) (w : World) (r : Ending) (w' : World) : Prop :=
  Keeps w w' ∧ ((∃ e p : Nat, Err (bs s) e p ∧ r = .returned (.tuple #[.pointer none, .int .i64 e, .int .i64 p])) ∨
    (Fin (bs s) ∧ 10 < C (bs s) (s.size + 1) ∧ r = .returned (.tuple #[.pointer none, .int .i64 1, .int .i64 0])) ∨
    (Fin (bs s) ∧ C (bs s) (s.size + 1) ≤ 10 ∧ ∃ (b : Nat) (tt : ByteArray) (sv : Value), r = .returned (.tuple #[.pointer (some ⟨b, 0, none⟩), .int .i64 0, .int .i64 0]) ∧ (∃ hd : Nat, Blk w' b #[.string tt, sv, .int .i64 hd] 88) ∧ w.heap.size ≤ b ∧ bs tt = T (bs s) (s.size + 1)))

set_option maxHeartbeats 2000000 in
set_option maxRecDepth 100000 in
theorem m_make {w : World} {s : ByteArray} (h : s.size ≤ 120) (he : EV w) : Calls Tryz.prog 40 #[.string s] w (MakeP s w) := by
  have hd : ¬ (120 : Int) < (s.size : Int) := by omega
  have HE := hide he
  clear he
  go_enter Tryz.func40, Tryz.ntmps40
  go_wp2_with fail
  refine (c_fault h).mono ?_
  rintro r w1 ⟨hk, hr⟩
  have K1 := hide hk
  clear hk
  rcases hr with ⟨e, p, hee, rfl⟩ | ⟨hf, rfl⟩
  · have hne : e ≠ 0 := by have := hee.st; omega
    have he3 : ((e : Int) != 0) = true := by rw [bne_iff_ne]; omega
    have HX := hide hee
    clear hee
    go_wp2
    go_ret3
    exact ⟨K1.out, Or.inl ⟨e, p, HX.out, rfl⟩⟩
  · have HF := hide hf
    clear hf
    go_wp2_with fail
    refine (m_clone s w1 (by omega)).mono ?_
    rintro r w2 ⟨rfl, hb2⟩
    have K2 : Hid (Keeps w w2) := K1.out.trans (Fr.of_below hb2)
    clear hb2 K1
    have M3 : Hid (Mk w2.heap.size s 0 [] 0 (.pointer none) (.slice none 0 0) (w2.alloc (.cells #[.string s, .int .i64 0, .pointer none, .slice none 0 0, .int .i64 0] 141))) :=
      ⟨Blk.new _ _ _, Or.inl rfl, World.ownsRow_nil _ _ _ _, Nat.zero_le _⟩
    have K3 := hide (K2.out.alloc (.cells #[.string s, .int .i64 0, .pointer none, .slice none 0 0, .int .i64 0] 141))
    have hG : 6 < w2.heap.size := Nat.lt_of_lt_of_le HE.out.lt K2.out.size
    have E3 := hide ((HE.out.keep K3.out).er hG)
    have hsz2 : w.heap.size ≤ w2.heap.size := K2.out.size
    clear K2
    go_wp2_with fail
    refine (k_plan (by omega) HF.out E3.out hG M3.out).mono ?_
    rintro r w4 ⟨b, tt, sv, rfl, hb4, hgb, htt, hc4, hfu⟩
    have K4 : Hid (Keeps w w4) := hfu.keeps K3.out hsz2
    have B4 := hide hb4
    have HT := hide htt
    have hcl := C_le (bs s) (s.size + 1)
    obtain ⟨cc, hcc⟩ : ∃ cc, cc = C (bs s) (s.size + 1) := ⟨_, rfl⟩
    rw [← hcc] at hc4 hcl
    have HC := hide hcc
    clear hb4 htt hfu K3 E3 M3 hcc
    by_cases h10 : 10 < cc
    · have H10 := hide h10
      have hd10 : (10 : Int) < (cc : Int) := by omega
      go_wp2
      go_ret3
      exact ⟨K4.out, Or.inr (Or.inl ⟨HF.out, by rw [← HC.out]; exact H10.out, rfl⟩)⟩
    · have H10 := hide h10
      have hd10 : ¬ (10 : Int) < (cc : Int) := by omega
      go_wp2
      go_ret3
      exact ⟨K4.out, Or.inr (Or.inr ⟨HF.out, by rw [← HC.out]; have := H10.out; omega, b, tt, sv, rfl, B4.out, by omega, HT.out⟩)⟩

end Go.Proofs.YtcbadebjpogmlaaGreatDoor

/- The program's Compile and Text: they answer as the document asks. -/
namespace Go.Proofs.YtcbadebjpogmlaaGreatDoor
open Go.RowKit Tr

set_option maxHeartbeats 1000000 in
theorem m_text {w : World} {gq b : Nat} {tt : ByteArray} {sv hd : Value} (h1 : Blk w gq #[.pointer (some ⟨b, 0, none⟩)] 77) (h2 : Blk w b #[.string tt, sv, hd] 88) :
    Calls Tryz.prog 27 #[.pointer (some ⟨gq, 0, none⟩)] w fun r w' => r = .returned (.string tt) ∧ Keeps w w' := by
  have c0 : w.cell? ⟨gq, 0, none⟩ = some (.pointer (some ⟨b, 0, none⟩)) := h1.cell 0
  have c1 : w.cell? ⟨b, 0, none⟩ = some (.string tt) := h2.cell 0
  clear h1 h2
  go_enter Tryz.func27, Tryz.ntmps27
  go_wp2
  go_ret
  exact ⟨rfl, Fr.refl _ _⟩

set_option maxHeartbeats 2000000 in
theorem m_compile {w : World} {s : ByteArray} (hs : s.size ≤ maxLen) (he : EV w) : Calls Tryz.prog 26 #[.string s] w (CompP 27 s w) := by
  have HE := hide he
  clear he
  by_cases h : s.size ≤ 120
  · go_enter Tryz.func26, Tryz.ntmps26
    go_wp2_with fail
    refine (m_make h HE.out).mono ?_
    rintro r w1 ⟨hk, hr⟩
    have K1 := hide hk
    clear hk
    rcases hr with ⟨e, p, hee, rfl⟩ | ⟨hf, hc, rfl⟩ | ⟨hf, hc, b, tt, sv, rfl, hb, hwb, htt⟩
    · have hne : e ≠ 0 := by have := hee.st; omega
      have he3 : ((e : Int) != 0) = true := by rw [bne_iff_ne]; omega
      have HX := hide hee
      clear hee
      go_wp2
      go_ret3
      exact ⟨K1.out, Or.inr (Or.inl ⟨h, e, p, HX.out, rfl⟩)⟩
    · have HF := hide hf
      have HC := hide hc
      clear hf hc
      go_wp2
      go_ret3
      exact ⟨K1.out, Or.inr (Or.inr (Or.inl ⟨h, HF.out, HC.out, rfl⟩))⟩
    · have HF := hide hf
      have HC := hide hc
      obtain ⟨hd, hb⟩ := hb
      have HB := hide hb
      have HT := hide htt
      clear hf hc hb htt
      go_wp2
      go_ret3
      refine ⟨K1.out.alloc _, Or.inr (Or.inr (Or.inr ⟨h, HF.out, HC.out, w1.heap.size, tt, rfl, HT.out, ?_⟩))⟩
      intro w'' hw
      have h1 : Blk w'' w1.heap.size #[.pointer (some ⟨b, 0, none⟩)] 77 := (hw w1.heap.size K1.out.size (by simp)).trans (Blk.new w1 _ _)
      have h2 : Blk w'' b #[.string tt, sv, .int .i64 hd] 88 := (hw b hwb (by have := HB.out.lt; simp; omega)).trans (HB.out.alloc _)
      exact m_text h1 h2
  · go_enter Tryz.func26, Tryz.ntmps26
    go_wp2_with fail
    refine (m_make_long (by omega) hs).mono ?_
    rintro r w1 ⟨rfl, rfl⟩
    go_wp2
    go_ret3
    exact ⟨Fr.refl _ _, Or.inl ⟨by omega, rfl⟩⟩

theorem saidX {W : World} (h : EV W) : SaidX W := fun _ _ hk hs => m_compile hs (h.keep hk)

end Go.Proofs.YtcbadebjpogmlaaGreatDoor

/- Proved: Rows.CompilesCardSaid: for every script the law Compiles returns true (every Compile and Text of the program answers as the document's own); the package-level variables that the row lists start as the program's text lays them. -/
namespace Go.Proofs.YtcbadebjpogmlaaGreatDoor
open Go.RowKit Go.ChangeShapes

theorem gSyntax : Tryz.prog.globalNamed "strconv.ErrSyntax" = some 6 := by kernel_rfl
theorem gSyntaxType : (Tryz.prog.globals[6]?).map (·.type) = some 180 := by kernel_rfl
theorem cellsErr : Tryz.prog.cellsOf 336 = 1 := by kernel_rfl
theorem cellsStrL : Tryz.prog.cellsOf 9 = 1 := by kernel_rfl
theorem star : "*" ++ "errors.errorString" = "*errors.errorString" := by decide
theorem rowErr (u : TypeId) (h : Tryz.prog.typeName? 3 u = some "*errors.errorString") : u = 334 :=
  typeName_ptr_named (nm := "errors.errorString") (by rw [star]; kernel_rfl) (by kernel_rfl) (by decide) u (by rw [star]; exact h)

theorem ev_of_laid {W : World} (h : laidMetH Tryz.prog Rows.compilesRow.laid W) : EV W := by
  have h2 : laidMet Tryz.prog Rows.compilesRow.laid W := h
  obtain ⟨a, s, hv, _, _, _⟩ := laid_sentinel h2.tail.tail.tail.tail.tail gSyntax gSyntaxType Tryz.underlying180 rowErr Tryz.underlying334 Tryz.underlying336 rfl rfl Tryz.underlying9 cellsErr cellsStrL
  have hc : W.cell? ⟨6, 0, none⟩ = some (.iface 334 (.pointer (some a))) := by simpa using World.var?_cell gSyntax hv 0
  refine ⟨⟨_, hc, Or.inr ⟨_, _, rfl⟩⟩, ?_⟩
  rcases Nat.lt_or_ge 6 W.heap.size with x | x
  · exact x
  · simp [World.cell?, Array.getElem?_eq_none x] at hc

theorem compiles_holds : Rows.CompilesCardSaid := card_of fun _ h => saidX (ev_of_laid h)

end Go.Proofs.YtcbadebjpogmlaaGreatDoor
