/- The reference reader's constant and test: what they leave of the reader's block, by the machine. -/
import Derived.Test.YtcbadebjpogmlaaGreatDoorJRefD
namespace Go.Proofs.YtcbadebjpogmlaaGreatDoor
open Go.RowKit Tr

theorem nb_true : nb ⟨#[116, 114, 117, 101]⟩ = ([116, 114, 117, 101] : List UInt8).map UInt8.toNat := rfl
theorem nb_false : nb ⟨#[102, 97, 108, 115, 101]⟩ = ([102, 97, 108, 115, 101] : List UInt8).map UInt8.toNat := rfl
theorem nb_null : nb ⟨#[110, 117, 108, 108]⟩ = ([110, 117, 108, 108] : List UInt8).map UInt8.toNat := rfl

theorem sees_other {s : List UInt8} {t : St} {a b : Nat} (h : sees s t a = true) (hab : a ≠ b) : sees s t b = false := by
  obtain ⟨he, hb⟩ := sees_e h
  rw [sees_live he, hb]; simpa using hab

set_option maxRecDepth 100000 in
set_option maxHeartbeats 2000000 in
theorem c_constant {w : World} {b : Nat} {s : ByteArray} {t : St} {q c n : Nat} {o : List UInt8} (h : HasM w b s t) (hs : s.size ≤ 120) (hok : Ok (bs s) q c 17 o n t) :
    Calls Tryz.prog 259 #[.pointer (some ⟨b, 0, none⟩)] w fun r w' => ∃ g t', r = .returned (.pointer (some ⟨g, 0, none⟩)) ∧ Rd b s w t' w' ∧ Ok (bs s) q c 18 o n t' := by
  have hle := hok.le
  rw [bs_len] at hle
  have HR := hide (Rd.same h)
  have HO := hide hok
  clear h hok
  cases h1 : sees (bs s) t 39
  · cases h2 : sees (bs s) t 116
    · cases h3 : sees (bs s) t 102
      · cases h4 : sees (bs s) t 110
        · have H1 := hide h1
          have H2 := hide h2
          have H3 := hide h3
          have H4 := hide h4
          clear h1 h2 h3 h4
          go_enter Tryz.func259, Tryz.ntmps259
          go_wp2_with fail
          refine (k_sees HR.out.m 39 39 rfl (by omega)).mono ?_
          rintro r v1 ⟨rfl, g1⟩
          rw [H1.out]
          have G1 := hide (HR.out.trans g1)
          clear g1
          go_wp2_with fail
          refine (k_sees G1.out.m 116 116 rfl (by omega)).mono ?_
          rintro r v2 ⟨rfl, g2⟩
          rw [H2.out]
          have G2 := hide (G1.out.trans g2)
          clear g2
          go_wp2_with fail
          refine (k_sees G2.out.m 102 102 rfl (by omega)).mono ?_
          rintro r v3 ⟨rfl, g3⟩
          rw [H3.out]
          have G3 := hide (G2.out.trans g3)
          clear g3
          go_wp2_with fail
          refine (k_sees G3.out.m 110 110 rfl (by omega)).mono ?_
          rintro r v4 ⟨rfl, g4⟩
          rw [H4.out]
          have G4 := hide (G3.out.trans g4)
          clear g4
          go_wp2_with fail
          refine (c_count G4.out.m true hs hle).mono ?_
          rintro r v5 ⟨rfl, g5⟩
          have G5 := hide (G4.out.trans g5)
          clear g5
          go_wp2
          go_ret
          exact ⟨_, _, rfl, G5.out.alloc _, ok_ccount HO.out H1.out H2.out H3.out H4.out⟩
        · have H1 := hide h1
          have H2 := hide h2
          have H3 := hide h3
          have H4 := hide h4
          clear h1 h2 h3 h4
          go_enter Tryz.func259, Tryz.ntmps259
          go_wp2_with fail
          refine (k_sees HR.out.m 39 39 rfl (by omega)).mono ?_
          rintro r v1 ⟨rfl, g1⟩
          rw [H1.out]
          have G1 := hide (HR.out.trans g1)
          clear g1
          go_wp2_with fail
          refine (k_sees G1.out.m 116 116 rfl (by omega)).mono ?_
          rintro r v2 ⟨rfl, g2⟩
          rw [H2.out]
          have G2 := hide (G1.out.trans g2)
          clear g2
          go_wp2_with fail
          refine (k_sees G2.out.m 102 102 rfl (by omega)).mono ?_
          rintro r v3 ⟨rfl, g3⟩
          rw [H3.out]
          have G3 := hide (G2.out.trans g3)
          clear g3
          go_wp2_with fail
          refine (k_sees G3.out.m 110 110 rfl (by omega)).mono ?_
          rintro r v4 ⟨rfl, g4⟩
          rw [H4.out]
          have G4 := hide (G3.out.trans g4)
          clear g4
          go_wp2_with fail
          refine (c_must G4.out.m ⟨#[110, 117, 108, 108]⟩ (by decide) hs).mono ?_
          rintro r v5 ⟨rfl, g5⟩
          rw [nb_null] at g5
          have G5 := hide (G4.out.trans g5)
          clear g5
          go_wp2
          go_ret
          exact ⟨_, _, rfl, G5.out.alloc _, ok_cword 110 117 [108, 108] HO.out H4.out rfl⟩
      · have h4 := sees_other (b := 110) h3 (by decide)
        have H1 := hide h1
        have H2 := hide h2
        have H3 := hide h3
        have H4 := hide h4
        clear h1 h2 h3 h4
        go_enter Tryz.func259, Tryz.ntmps259
        go_wp2_with fail
        refine (k_sees HR.out.m 39 39 rfl (by omega)).mono ?_
        rintro r v1 ⟨rfl, g1⟩
        rw [H1.out]
        have G1 := hide (HR.out.trans g1)
        clear g1
        go_wp2_with fail
        refine (k_sees G1.out.m 116 116 rfl (by omega)).mono ?_
        rintro r v2 ⟨rfl, g2⟩
        rw [H2.out]
        have G2 := hide (G1.out.trans g2)
        clear g2
        go_wp2_with fail
        refine (k_sees G2.out.m 102 102 rfl (by omega)).mono ?_
        rintro r v3 ⟨rfl, g3⟩
        rw [H3.out]
        have G3 := hide (G2.out.trans g3)
        clear g3
        go_wp2_with fail
        refine (k_sees G3.out.m 110 110 rfl (by omega)).mono ?_
        rintro r v4 ⟨rfl, g4⟩
        rw [H4.out]
        have G4 := hide (G3.out.trans g4)
        clear g4
        go_wp2_with fail
        refine (c_must G4.out.m ⟨#[102, 97, 108, 115, 101]⟩ (by decide) hs).mono ?_
        rintro r v5 ⟨rfl, g5⟩
        rw [nb_false] at g5
        have G5 := hide (G4.out.trans g5)
        clear g5
        go_wp2
        go_ret
        exact ⟨_, _, rfl, G5.out.alloc _, ok_cword 102 97 [108, 115, 101] HO.out H3.out rfl⟩
    · have h3 := sees_other (b := 102) h2 (by decide)
      have h4 := sees_other (b := 110) h2 (by decide)
      have H1 := hide h1
      have H2 := hide h2
      have H3 := hide h3
      have H4 := hide h4
      clear h1 h2 h3 h4
      go_enter Tryz.func259, Tryz.ntmps259
      go_wp2_with fail
      refine (k_sees HR.out.m 39 39 rfl (by omega)).mono ?_
      rintro r v1 ⟨rfl, g1⟩
      rw [H1.out]
      have G1 := hide (HR.out.trans g1)
      clear g1
      go_wp2_with fail
      refine (k_sees G1.out.m 116 116 rfl (by omega)).mono ?_
      rintro r v2 ⟨rfl, g2⟩
      rw [H2.out]
      have G2 := hide (G1.out.trans g2)
      clear g2
      go_wp2_with fail
      refine (k_sees G2.out.m 102 102 rfl (by omega)).mono ?_
      rintro r v3 ⟨rfl, g3⟩
      rw [H3.out]
      have G3 := hide (G2.out.trans g3)
      clear g3
      go_wp2_with fail
      refine (k_sees G3.out.m 110 110 rfl (by omega)).mono ?_
      rintro r v4 ⟨rfl, g4⟩
      rw [H4.out]
      have G4 := hide (G3.out.trans g4)
      clear g4
      go_wp2_with fail
      refine (c_must G4.out.m ⟨#[116, 114, 117, 101]⟩ (by decide) hs).mono ?_
      rintro r v5 ⟨rfl, g5⟩
      rw [nb_true] at g5
      have G5 := hide (G4.out.trans g5)
      clear g5
      go_wp2
      go_ret
      exact ⟨_, _, rfl, G5.out.alloc _, ok_cword 116 114 [117, 101] HO.out H2.out rfl⟩
  · have h2 := sees_other (b := 116) h1 (by decide)
    have h3 := sees_other (b := 102) h1 (by decide)
    have h4 := sees_other (b := 110) h1 (by decide)
    have H1 := hide h1
    have H2 := hide h2
    have H3 := hide h3
    have H4 := hide h4
    clear h1 h2 h3 h4
    go_enter Tryz.func259, Tryz.ntmps259
    go_wp2_with fail
    refine (k_sees HR.out.m 39 39 rfl (by omega)).mono ?_
    rintro r v1 ⟨rfl, g1⟩
    rw [H1.out]
    have G1 := hide (HR.out.trans g1)
    clear g1
    go_wp2_with fail
    refine (k_sees G1.out.m 116 116 rfl (by omega)).mono ?_
    rintro r v2 ⟨rfl, g2⟩
    rw [H2.out]
    have G2 := hide (G1.out.trans g2)
    clear g2
    go_wp2_with fail
    refine (k_sees G2.out.m 102 102 rfl (by omega)).mono ?_
    rintro r v3 ⟨rfl, g3⟩
    rw [H3.out]
    have G3 := hide (G2.out.trans g3)
    clear g3
    go_wp2_with fail
    refine (k_sees G3.out.m 110 110 rfl (by omega)).mono ?_
    rintro r v4 ⟨rfl, g4⟩
    rw [H4.out]
    have G4 := hide (G3.out.trans g4)
    clear g4
    go_wp2_with fail
    refine (c_quote G4.out.m hs hle).mono ?_
    rintro r v5 ⟨rfl, g5⟩
    have G5 := hide (G4.out.trans g5)
    clear g5
    go_wp2
    go_ret
    exact ⟨_, _, rfl, G5.out.alloc _, ok_cquote HO.out H1.out⟩

/-- A block of cells. -/
def Blk (w : World) (g : Nat) (cs : Array Value) (T : TypeId) : Prop := w.heap[g]? = some (.cells cs T)
theorem Blk.lt {w : World} {g : Nat} {cs : Array Value} {T : TypeId} (h : Blk w g cs T) : g < w.heap.size := lt_of_some h
theorem Blk.cell {w : World} {g : Nat} {cs : Array Value} {T : TypeId} (h : Blk w g cs T) (i : Nat) : w.cell? ⟨g, i, none⟩ = cs[i]? := by unfold Blk at h; simp [World.cell?, h]
theorem Blk.fz {w : World} {g : Nat} {cs : Array Value} {T : TypeId} (h : Blk w g cs T) (i : Nat) : w.frozen? ⟨g, i, none⟩ = false := by unfold Blk at h; simp [World.frozen?, h]
theorem Blk.new (w : World) (cs : Array Value) (T : TypeId) : Blk (w.alloc (.cells cs T)) w.heap.size cs T := by unfold Blk; exact heap_alloc_new w _
theorem Blk.alloc {w : World} {g : Nat} {cs : Array Value} {T : TypeId} (h : Blk w g cs T) (o : Obj) : Blk (w.alloc o) g cs T := (Below.heap_alloc _ _ _ h.lt).trans h
theorem Blk.fr {K : Nat → Prop} {w w' : World} {g : Nat} {cs : Array Value} {T : TypeId} (h : Blk w g cs T) (f : Fr K w w') (hK : ¬ K g) : Blk w' g cs T := (f.block g h.lt hK).trans h
theorem Blk.set {w : World} {g : Nat} {cs : Array Value} {T : TypeId} (h : Blk w g cs T) (i : Nat) (v : Value) : Blk (w.setCell ⟨g, i, none⟩ v) g (cs.setIfInBounds i v) T := by
  unfold Blk at *; simp [World.setCell, Array.getElem?_modify, h]
theorem Blk.other {w : World} {g g' : Nat} {cs : Array Value} {T : TypeId} (h : Blk w g cs T) (hg : g ≠ g') (i : Nat) (v : Value) : Blk (w.setCell ⟨g', i, none⟩ v) g cs T := (Below.heap_setCell _ _ _ _ hg).trans h
theorem Rd.setOwn {b : Nat} {s : ByteArray} {w w' : World} {t : St} (h : Rd b s w t w') (hb : b < w.heap.size) (g i : Nat) (hg : w.heap.size ≤ g) (v : Value) : Rd b s w t (w'.setCell ⟨g, i, none⟩ v) :=
  ⟨(Below.heap_setCell _ _ _ _ (by simp only; omega)).trans h.m, h.f.setCell ⟨g, i, none⟩ (Or.inr hg) v⟩

theorem Blk.rd {b : Nat} {s : ByteArray} {v1 v2 : World} {t : St} {g : Nat} {cs : Array Value} {T : TypeId} (h : Blk v1 g cs T) (r : Rd b s v1 t v2) (hg : b < g) : Blk v2 g cs T :=
  h.fr r.f (fun e => by unfold PB at e; omega)

theorem nb_at : nb ⟨#[64]⟩ = [64] := rfl
theorem nb_eq : nb ⟨#[61, 61]⟩ = [61, 61] := rfl
theorem nb_ne : nb ⟨#[33, 61]⟩ = [33, 61] := rfl
theorem nb_ls : nb ⟨#[60]⟩ = [60] := rfl

set_option maxRecDepth 100000 in
set_option maxHeartbeats 4000000 in
theorem c_test {w : World} {b : Nat} {s : ByteArray} {t : St} {q c n : Nat} {o : List UInt8} (h : HasM w b s t) (hs : s.size ≤ 120) (hok : Ok (bs s) q c 10 o n t) (n1 : sees (bs s) t 33 = false) (n2 : sees (bs s) t 40 = false) :
    Calls Tryz.prog 244 #[.pointer (some ⟨b, 0, none⟩)] w fun r w' => ∃ g t', r = .returned (.pointer (some ⟨g, 0, none⟩)) ∧ Rd b s w t' w' ∧ Ok (bs s) q c 18 o n t' := by
  have hbw := h.lt
  have HR := hide (Rd.same h)
  have HO := hide hok
  have HA := hide (ok_at hok n1 n2)
  clear h hok n1 n2
  go_enter Tryz.func244, Tryz.ntmps244
  go_wp2_with fail
  refine (c_must HR.out.m ⟨#[64]⟩ (by decide) hs).mono ?_
  rintro r v1 ⟨rfl, g1⟩
  rw [nb_at] at g1
  have G1 := hide (HR.out.trans g1)
  clear g1
  generalize must (bs s) t [64] = u at *
  go_wp2_with fail
  refine (c_steps G1.out.m hs HA.out).mono ?_
  rintro r v2 ⟨a, k, cp, u2, rfl, g2, ho2, hno2⟩
  have G2 := hide (G1.out.trans g2)
  have O2 := hide ho2
  have N2 := hide hno2
  clear g2 ho2 hno2
  cases h1 : sees (bs s) u2 61
  · cases h2 : sees (bs s) u2 33
    · cases h3 : sees (bs s) u2 60
      · have H1 := hide h1
        have H2 := hide h2
        have H3 := hide h3
        clear h1 h2 h3
        go_wp2_with fail
        refine (k_sees (G2.out.m.alloc _) 61 61 rfl (by omega)).mono ?_
        rintro r v3 ⟨rfl, g3⟩
        rw [H1.out]
        have G3 := hide ((G2.out.alloc _).trans g3)
        clear g3
        go_wp2_with fail
        refine (k_sees G3.out.m 33 33 rfl (by omega)).mono ?_
        rintro r v4 ⟨rfl, g4⟩
        rw [H2.out]
        have G4 := hide (G3.out.trans g4)
        clear g4
        go_wp2_with fail
        refine (k_sees G4.out.m 60 60 rfl (by omega)).mono ?_
        rintro r v5 ⟨rfl, g5⟩
        rw [H3.out]
        have G5 := hide (G4.out.trans g5)
        clear g5
        go_wp2
        go_ret
        exact ⟨_, _, rfl, G5.out, ok_bare O2.out N2.out H1.out H2.out H3.out⟩
      · have H1 := hide h1
        have H2 := hide h2
        have H3 := hide h3
        clear h1 h2 h3
        go_wp2_with fail
        have B2 := hide (Blk.new v2 #[.int .i64 14, .pointer none, .pointer none, .slice a k cp, .pointer none] 249)
        have hb2 : b < v2.heap.size := Nat.lt_of_lt_of_le hbw G2.out.f.size
        have hw2 : w.heap.size ≤ v2.heap.size := G2.out.f.size
        refine (k_sees (G2.out.m.alloc _) 61 61 rfl (by omega)).mono ?_
        rintro r v3 ⟨rfl, g3⟩
        rw [H1.out]
        have G3 := hide ((G2.out.alloc _).trans g3)
        have B3 := hide (B2.out.rd g3 hb2)
        clear g3
        go_wp2_with fail
        refine (k_sees G3.out.m 33 33 rfl (by omega)).mono ?_
        rintro r v4 ⟨rfl, g4⟩
        rw [H2.out]
        have G4 := hide (G3.out.trans g4)
        have B4 := hide (B3.out.rd g4 hb2)
        clear g4
        go_wp2_with fail
        refine (k_sees G4.out.m 60 60 rfl (by omega)).mono ?_
        rintro r v5 ⟨rfl, g5⟩
        rw [H3.out]
        have G5 := hide (G4.out.trans g5)
        have B5 := hide (B4.out.rd g5 hb2)
        clear g5
        go_wp2_with fail
        refine (c_must G5.out.m ⟨#[60]⟩ (by decide) hs).mono ?_
        rintro r v6 ⟨rfl, g6⟩
        rw [nb_ls] at g6
        have G6 := hide (G5.out.trans g6)
        have B6 := hide (B5.out.rd g6 hb2)
        clear g6
        have O6 := hide (ok_less O2.out H3.out)
        generalize must (bs s) u2 [60] = u6 at *
        have f0 := B6.out.fz 0
        have c0 := B6.out.cell 0
        simp only [List.getElem?_toArray, List.getElem?_cons_zero] at c0
        have G7 := hide (G6.out.setOwn hbw v2.heap.size 0 hw2 (.int .i64 17))
        have B7 := hide (B6.out.set 0 (.int .i64 17))
        go_wp2_with fail
        clear f0 c0
        refine (c_has G7.out.m 61 61 rfl (by omega) hs).mono ?_
        rintro r v9 ⟨rfl, g9⟩
        have G9 := hide (G7.out.trans g9)
        have B9 := hide (B7.out.rd g9 hb2)
        clear g9 B7 G7
        cases h9 : sees (bs s) u6 61
        · have G7 := G9
          have B7 := B9
          clear h9
          go_wp2_with fail
          refine (c_constant G7.out.m hs O6.out).mono ?_
          rintro r v8 ⟨g8, u8, rfl, g8r, o8⟩
          have G8 := hide (G7.out.trans g8r)
          have B8 := hide (B7.out.rd g8r hb2)
          have O8 := hide o8
          clear g8r o8
          have f4 := B8.out.fz 4
          have c4 := B8.out.cell 4
          simp at c4
          go_wp2
          go_ret
          exact ⟨_, _, rfl, G8.out.setOwn hbw _ _ hw2 _, O8.out⟩
        · clear h9
          have f0 := B9.out.fz 0
          have c0 := B9.out.cell 0
          simp at c0
          have G7 := hide (G9.out.setOwn hbw v2.heap.size 0 hw2 (.int .i64 18))
          have B7 := hide (B9.out.set 0 (.int .i64 18))
          go_wp2_with fail
          clear f0 c0
          refine (c_constant G7.out.m hs O6.out).mono ?_
          rintro r v8 ⟨g8, u8, rfl, g8r, o8⟩
          have G8 := hide (G7.out.trans g8r)
          have B8 := hide (B7.out.rd g8r hb2)
          have O8 := hide o8
          clear g8r o8
          have f4 := B8.out.fz 4
          have c4 := B8.out.cell 4
          simp at c4
          go_wp2
          go_ret
          exact ⟨_, _, rfl, G8.out.setOwn hbw _ _ hw2 _, O8.out⟩
    · have h3 := sees_other (b := 60) h2 (by decide)
      have H1 := hide h1
      have H2 := hide h2
      have H3 := hide h3
      clear h1 h2 h3
      go_wp2_with fail
      have B2 := hide (Blk.new v2 #[.int .i64 14, .pointer none, .pointer none, .slice a k cp, .pointer none] 249)
      have hb2 : b < v2.heap.size := Nat.lt_of_lt_of_le hbw G2.out.f.size
      have hw2 : w.heap.size ≤ v2.heap.size := G2.out.f.size
      refine (k_sees (G2.out.m.alloc _) 61 61 rfl (by omega)).mono ?_
      rintro r v3 ⟨rfl, g3⟩
      rw [H1.out]
      have G3 := hide ((G2.out.alloc _).trans g3)
      have B3 := hide (B2.out.rd g3 hb2)
      clear g3
      go_wp2_with fail
      refine (k_sees G3.out.m 33 33 rfl (by omega)).mono ?_
      rintro r v4 ⟨rfl, g4⟩
      rw [H2.out]
      have G4 := hide (G3.out.trans g4)
      have B4 := hide (B3.out.rd g4 hb2)
      clear g4
      go_wp2_with fail
      refine (k_sees G4.out.m 60 60 rfl (by omega)).mono ?_
      rintro r v5 ⟨rfl, g5⟩
      rw [H3.out]
      have G5 := hide (G4.out.trans g5)
      have B5 := hide (B4.out.rd g5 hb2)
      clear g5
      go_wp2_with fail
      refine (c_must G5.out.m ⟨#[33, 61]⟩ (by decide) hs).mono ?_
      rintro r v6 ⟨rfl, g6⟩
      rw [nb_ne] at g6
      have G6 := hide (G5.out.trans g6)
      have B6 := hide (B5.out.rd g6 hb2)
      clear g6
      have O6 := hide (ok_eq 33 (Or.inr rfl) O2.out H2.out)
      generalize must (bs s) u2 [33, 61] = u6 at *
      have f0 := B6.out.fz 0
      have c0 := B6.out.cell 0
      simp only [List.getElem?_toArray, List.getElem?_cons_zero] at c0
      have G7 := hide (G6.out.setOwn hbw v2.heap.size 0 hw2 (.int .i64 16))
      have B7 := hide (B6.out.set 0 (.int .i64 16))
      go_wp2_with fail
      clear f0 c0
      refine (c_constant G7.out.m hs O6.out).mono ?_
      rintro r v8 ⟨g8, u8, rfl, g8r, o8⟩
      have G8 := hide (G7.out.trans g8r)
      have B8 := hide (B7.out.rd g8r hb2)
      have O8 := hide o8
      clear g8r o8
      have f4 := B8.out.fz 4
      have c4 := B8.out.cell 4
      simp at c4
      go_wp2
      go_ret
      exact ⟨_, _, rfl, G8.out.setOwn hbw _ _ hw2 _, O8.out⟩
  · have h2 := sees_other (b := 33) h1 (by decide)
    have h3 := sees_other (b := 60) h1 (by decide)
    have H1 := hide h1
    have H2 := hide h2
    have H3 := hide h3
    clear h1 h2 h3
    go_wp2_with fail
    have B2 := hide (Blk.new v2 #[.int .i64 14, .pointer none, .pointer none, .slice a k cp, .pointer none] 249)
    have hb2 : b < v2.heap.size := Nat.lt_of_lt_of_le hbw G2.out.f.size
    have hw2 : w.heap.size ≤ v2.heap.size := G2.out.f.size
    refine (k_sees (G2.out.m.alloc _) 61 61 rfl (by omega)).mono ?_
    rintro r v3 ⟨rfl, g3⟩
    rw [H1.out]
    have G3 := hide ((G2.out.alloc _).trans g3)
    have B3 := hide (B2.out.rd g3 hb2)
    clear g3
    go_wp2_with fail
    refine (k_sees G3.out.m 33 33 rfl (by omega)).mono ?_
    rintro r v4 ⟨rfl, g4⟩
    rw [H2.out]
    have G4 := hide (G3.out.trans g4)
    have B4 := hide (B3.out.rd g4 hb2)
    clear g4
    go_wp2_with fail
    refine (k_sees G4.out.m 60 60 rfl (by omega)).mono ?_
    rintro r v5 ⟨rfl, g5⟩
    rw [H3.out]
    have G5 := hide (G4.out.trans g5)
    have B5 := hide (B4.out.rd g5 hb2)
    clear g5
    go_wp2_with fail
    refine (c_must G5.out.m ⟨#[61, 61]⟩ (by decide) hs).mono ?_
    rintro r v6 ⟨rfl, g6⟩
    rw [nb_eq] at g6
    have G6 := hide (G5.out.trans g6)
    have B6 := hide (B5.out.rd g6 hb2)
    clear g6
    have O6 := hide (ok_eq 61 (Or.inl rfl) O2.out H1.out)
    generalize must (bs s) u2 [61, 61] = u6 at *
    have f0 := B6.out.fz 0
    have c0 := B6.out.cell 0
    simp only [List.getElem?_toArray, List.getElem?_cons_zero] at c0
    have G7 := hide (G6.out.setOwn hbw v2.heap.size 0 hw2 (.int .i64 15))
    have B7 := hide (B6.out.set 0 (.int .i64 15))
    go_wp2_with fail
    clear f0 c0
    refine (c_constant G7.out.m hs O6.out).mono ?_
    rintro r v8 ⟨g8, u8, rfl, g8r, o8⟩
    have G8 := hide (G7.out.trans g8r)
    have B8 := hide (B7.out.rd g8r hb2)
    have O8 := hide o8
    clear g8r o8
    have f4 := B8.out.fz 4
    have c4 := B8.out.cell 4
    simp at c4
    go_wp2
    go_ret
    exact ⟨_, _, rfl, G8.out.setOwn hbw _ _ hw2 _, O8.out⟩

end Go.Proofs.YtcbadebjpogmlaaGreatDoor
