/- The law's plays, over the kinds Compile and Text: it answers true. -/
import Derived.Test.YtcbadebjpogmlaaGreatDoorJLawC
import Derived.ProofKit
import Derived.Deep.Slices
import Derived.SizedLaws
namespace Go.Proofs.YtcbadebjpogmlaaGreatDoor
open Go.RowKit Tr

def WZ : Array Value := #[.slice none 0 0, .slice none 0 0, .slice none 0 0, .slice none 0 0, .slice none 0 0, .slice none 0 0, .int .i64 0]

theorem lw_first (w : World) : LW (w.alloc (.cells #[.slice none 0 0, .slice none 0 0, .slice none 0 0, .slice none 0 0, .slice none 0 0, .slice none 0 0, .int .i64 0] 61)) w.heap.size [] (.slice none 0 0) :=
  ⟨Blk.new w _ _, World.ownsRow_nil _ _ _ _, fun p hp => by simp at hp⟩

/-- The script in memory. -/
def ScriptAt (w : World) (a : Option Addr) (n cp : Nat) (ops : List OpV) : Prop :=
  (a = none ∧ n = 0 ∧ cp = 0 ∧ ops = []) ∨ ∃ ad : Addr, a = some ad ∧ n = ops.length ∧ ad.block < w.heap.size ∧ ∀ j u, (opCells ops)[j]? = some u → w.cell? (ad.add j) = some u

theorem opCells_one (o : OpV) (l : List OpV) : opCells (o :: l) = o.cells ++ opCells l := rfl
theorem opCells_oneCell (l : List OpV) : ∀ u ∈ opCells l, u.oneCell' = true := by
  intro u hu
  simp only [opCells, List.mem_flatMap] at hu
  obtain ⟨o, _, ho⟩ := hu
  simp [OpV.cells] at ho
  rcases ho with rfl | rfl | rfl | rfl <;> rfl

set_option maxRecDepth 100000 in
set_option maxHeartbeats 4000000 in
theorem c_plays {W : World} (hX : SaidX W) {w : World} (hK : Keeps W w) {a : Option Addr} {n cp gplay : Nat} {ops : List OpV} (hsc : ScriptAt w a n cp ops) (hpl : Blk w gplay #[.int .i64 1, .int .i64 2] 3) (hn : (n + 1) * 40 ≤ 140737488355328) (hsz : ∀ o ∈ ops, o.s.size ≤ maxLen) :
    Calls Tryz.prog 14 #[.slice a n cp, .slice (some ⟨gplay, 0, none⟩) 2 2] w fun r w' => r = .returned (.bool true) ∧ Keeps w w' := by
  obtain ⟨i0, hi, hz0, hz1, hz2⟩ := info_parts Tryz.infoOp
  have HI := hide hi
  have HZ0 := hide hz0
  have HZ1 := hide hz1
  have HZ2 := hide hz2
  have HX := hide hX
  have HK := hide hK
  have SC := hide hsc
  have PL := hide hpl
  have SZ := hide hsz
  have F0 := hide ((Fr.refl (fun _ => False) w).alloc (.cells #[.slice none 0 0, .slice none 0 0, .slice none 0 0, .slice none 0 0, .slice none 0 0, .slice none 0 0, .int .i64 0] 61))
  have hgp := hpl.lt
  clear hi hz0 hz1 hz2 hX hsc hpl hsz hK
  go_enter Tryz.func14, Tryz.ntmps14
  go_wp2_with fail
  refine (c_compiledG HX.out (HK.out.alloc _) (lw_first w) (by simp) ⟨#[36, 91, 42, 93, 46, 46, 97, 91, 45, 49, 93]⟩ (by decide)).mono ?_
  rintro r w1 ⟨rfl, ps, lv, l1, _, _, hf1, hb1, hg1⟩
  have hp1 := hg1 good_first
  simp only [List.length_nil, Nat.zero_add] at hp1
  have K1 : Hid (Keeps w w1) := F0.out.new hf1 (fun i hi e => by
    rcases e with e | e
    · omega
    · simp [Value.ownBlock] at e)
  have L1 := hide l1
  have HP1 := hide hp1
  clear l1 hf1 hb1 hg1 hp1
  have hlt1 : ∀ k, lv.ownBlock = some k → k < w1.heap.size := fun k hk => (L1.out.own.lt k hk).2
  have hw1 : w.heap.size < w1.heap.size := L1.out.blk.lt
  have hrow := World.ownsRow_lit (base := w.heap.size + 1) (e := 64) (size := 4) w1 #[.int .i64 4, .int .i64 0, .int .i64 0, .string ⟨#[]⟩] 1 (by omega) (by decide) rfl
  have K2 := hide (K1.out.alloc (.cells #[.int .i64 4, .int .i64 0, .int .i64 0, .string ⟨#[]⟩] 64))
  have L2 := hide (L1.out.keep ((Fr.refl (fun _ => False) w1).alloc (.cells #[.int .i64 4, .int .i64 0, .int .i64 0, .string ⟨#[]⟩] 64)))
  have P2 := hide (PL.out.fr K2.out id)
  rcases SC.out with ⟨rfl, rfl, rfl, rfl⟩ | ⟨ad, rfl, rfl, hab, hac⟩
  · go_wp2_with (at_builtin; refine wpList_append_own_none rfl _ _ 22 rfl (w.heap.size + 1) 64 i0 4 Tryz.underlying22 HI.out _ _ _ rfl hrow rfl ?_)
    have L3 : Hid (Lp w (w1.alloc (.cells #[.int .i64 4, .int .i64 0, .int .i64 0, .string ⟨#[]⟩] 64)) w.heap.size w1.heap.size gplay 1 1 [⟨4, 0, 0, ⟨#[]⟩⟩] ps lv) := ⟨L2.out, K2.out, hrow, fun k hk => Nat.ne_of_lt (hlt1 k hk), P2.out⟩
    have NN : Hid (1 = (OpV.mk 4 0 0 ⟨#[]⟩ :: ([] : List OpV)).length) := rfl
    clear hrow hlt1
    go_loopw [6, 8, 9] (fun _ i _ wr => ∃ (k : Nat) (ps : List PV) (lv : Value), k ≤ 1 ∧ i = .int .i64 k ∧ Lp w wr w.heap.size w1.heap.size gplay 1 1 [⟨4, 0, 0, ⟨#[]⟩⟩] ps lv ∧ 0 < ps.length ∧ ps.length ≤ k + 1) (fun _ i _ _ => 1 - (intOf i).toNat)
    case atStart => exact ⟨0, ps, lv, Nat.zero_le _, rfl, L3.out, by rw [HP1.out]; omega, by rw [HP1.out]; omega⟩
    case round =>
      clear L3 L1 HP1
      obtain ⟨k, ps, lv, hk, rfl, hL, hp0, hpk⟩ := hrel
      have LL := hide hL
      clear hL
      by_cases hlt : k < 1
      · have hln : k < (OpV.mk 4 0 0 ⟨#[]⟩ :: ([] : List OpV)).length := by rw [← NN.out]; exact hlt
        have q0 := (LL.out.row.cellAt (k * 4) (by omega)).trans ((opCells_get _ k 0 hln (by omega)))
        have q1 := (LL.out.row.cellAt (k * 4 + 1) (by omega)).trans ((opCells_get _ k 1 hln (by omega)))
        have q2 := (LL.out.row.cellAt (k * 4 + 2) (by omega)).trans ((opCells_get _ k 2 hln (by omega)))
        have q3 := (LL.out.row.cellAt (k * 4 + 3) (by omega)).trans ((opCells_get _ k 3 hln (by omega)))
        have hos : ((OpV.mk 4 0 0 ⟨#[]⟩ :: ([] : List OpV))[k]'hln).s.size ≤ maxLen := by
          have := List.getElem_mem hln
          rw [List.mem_cons] at this
          rcases this with e | e
          · rw [e]; decide
          · exact SZ.out _ e
        generalize (OpV.mk 4 0 0 ⟨#[]⟩ :: ([] : List OpV))[k]'hln = o at *
        simp only [OpV.cells, List.getElem?_cons_zero, List.getElem?_cons_succ] at q0 q1 q2 q3
        have HOS := hide hos
        clear hos hln
        have hpn : ps.length ≤ 8796093022208 := by omega
        go_wp2_with fail
        refine (c_among gplay o.k LL.out.pl).mono ?_
        rintro r w4 ⟨rfl, rfl⟩
        by_cases h1 : o.k = 1
        · have e1 : (o.k == 1 || o.k == 2) = true := by rw [h1]; rfl
          rw [e1]
          have H1 := hide h1
          clear e1 h1
          go_wp2_with fail
          refine (c_step1 HX.out (HK.out.trans LL.out.f) LL.out.l hpn o.k o.p o.m H1.out o.s HOS.out).mono ?_
          rintro r w5 ⟨rfl, ps', lv', l2, a1, a2, hf, hb⟩
          have L5 := hide (LL.out.step rfl hgp l2 hf hb)
          clear l2 hf hb q0 q1 q2 q3
          go_wp2
          go_roundw
          case rel => exact ⟨k + 1, ps', lv', by omega, by go_num, L5.out, by omega, by omega⟩
          case measure => simp [intOf]; omega
        · by_cases h2 : o.k = 2
          · have e1 : (o.k == 1 || o.k == 2) = true := by rw [h2]; rfl
            rw [e1]
            have H2 := hide h2
            clear e1 h1 h2
            go_wp2_with fail
            refine (c_step2 LL.out.l hp0 o.k o.p o.m H2.out o.s).mono ?_
            rintro r w5 ⟨rfl, ps', lv', l2, a1, a2, hf, hb⟩
            have L5 := hide (LL.out.step rfl hgp l2 hf hb)
            clear l2 hf hb q0 q1 q2 q3
            go_wp2
            go_roundw
            case rel => exact ⟨k + 1, ps', lv', by omega, by go_num, L5.out, by omega, by omega⟩
            case measure => simp [intOf]; omega
          · have e1 : (o.k == 1 || o.k == 2) = false := by simp [h1, h2]
            rw [e1]
            clear e1 h1 h2
            go_wp2
            go_roundw
            case rel => exact ⟨k + 1, ps, lv, by omega, by go_num, LL.out, hp0, by omega⟩
            case measure => simp [intOf]; omega
      · have b1 := LL.out.l.blk.cell 1
        simp at b1
        go_wp2
        refine wp_loop_rounds 1 ?_
        rw [rounds_succ]
        go_wp2_with fail
        refine (c_looks LL.out.l).mono ?_
        rintro r w4 ⟨rfl, rfl⟩
        go_wp2
        go_ret
        exact ⟨rfl, LL.out.f⟩
  · have hac2 : ∀ j u, (opCells ops)[j]? = some u → (w1.alloc (.cells #[.int .i64 4, .int .i64 0, .int .i64 0, .string ⟨#[]⟩] 64)).cell? (ad.add j) = some u := fun j u hj => by
      have e1 : (ad.add j).block = ad.block := by unfold Addr.add; split <;> rfl
      exact (K2.out.cell (p := ad.add j) (by rw [e1]; exact hab) id).trans (hac j u hj)
    go_wp2_with (at_builtin; refine wpList_append_own_at _ rfl _ _ 22 rfl (w.heap.size + 1) 64 i0 _ 4 40 Tryz.underlying22 HI.out HZ0.out HZ1.out HZ2.out rfl (by decide) (.slice (some ⟨w1.heap.size, 0, none⟩) 1 1) 1 #[.int .i64 4, .int .i64 0, .int .i64 0, .string ⟨#[]⟩].toList rfl hrow ad ops.length _ (opCells ops) rfl ?c0 ?c1 ?c2 ?c3 ?c4 ?c5 ?_)
    case c0 => exact opCells_len ops
    case c1 => exact hac2
    case c2 => exact opCells_oneCell ops
    case c3 => unfold maxLen; omega
    case c4 => omega
    case c5 => simp; omega
    intro v' w3 hown3 hgrow _ hat
    have F3 : Keeps w1 w3 := ((Fr.refl (fun _ => False) w1).alloc _).grown hgrow (fun k hk => by simp [Value.ownBlock] at hk; omega)
    obtain ⟨gl, cap, rfl, _, _⟩ := hown3.form (by omega)
    have hgl : w1.heap.size ≤ gl := by
      rcases hat with e | e
      · simp [Value.ownBlock] at e; omega
      · simp [Value.ownBlock] at e; omega
    have L3 : Hid (Lp w w3 w.heap.size gl gplay (1 + ops.length) cap (⟨4, 0, 0, ⟨#[]⟩⟩ :: ops) ps lv) := ⟨L1.out.keep F3, K1.out.trans F3, hown3, fun k hk => Nat.ne_of_lt (Nat.lt_of_lt_of_le (hlt1 k hk) hgl), PL.out.fr (K1.out.trans F3) id⟩
    have NN : Hid (1 + ops.length = (OpV.mk 4 0 0 ⟨#[]⟩ :: ops).length) := by unfold Hid; simp only [List.length_cons]; omega
    obtain ⟨N, hN⟩ : ∃ N, N = 1 + ops.length := ⟨_, rfl⟩
    rw [← hN] at L3 NN ⊢
    have hNb : N ≤ 8796093022207 := by omega
    clear hown3 hgrow hat F3 hrow hlt1 hac2 hN
    go_wp2_with fail
    go_loopw [6, 8, 9] (fun _ i _ wr => ∃ (k : Nat) (ps : List PV) (lv : Value), k ≤ N ∧ i = .int .i64 k ∧ Lp w wr w.heap.size gl gplay N cap (⟨4, 0, 0, ⟨#[]⟩⟩ :: ops) ps lv ∧ 0 < ps.length ∧ ps.length ≤ k + 1) (fun _ i _ _ => N - (intOf i).toNat)
    case atStart => exact ⟨0, ps, lv, Nat.zero_le _, rfl, L3.out, by rw [HP1.out]; omega, by rw [HP1.out]; omega⟩
    case round =>
      clear L3 L1 HP1
      obtain ⟨k, ps, lv, hk, rfl, hL, hp0, hpk⟩ := hrel
      have LL := hide hL
      clear hL
      by_cases hlt : k < N
      · have hln : k < (OpV.mk 4 0 0 ⟨#[]⟩ :: ops).length := by rw [← NN.out]; exact hlt
        have q0 := (LL.out.row.cellAt (k * 4) (by omega)).trans ((opCells_get _ k 0 hln (by omega)))
        have q1 := (LL.out.row.cellAt (k * 4 + 1) (by omega)).trans ((opCells_get _ k 1 hln (by omega)))
        have q2 := (LL.out.row.cellAt (k * 4 + 2) (by omega)).trans ((opCells_get _ k 2 hln (by omega)))
        have q3 := (LL.out.row.cellAt (k * 4 + 3) (by omega)).trans ((opCells_get _ k 3 hln (by omega)))
        have hos : ((OpV.mk 4 0 0 ⟨#[]⟩ :: ops)[k]'hln).s.size ≤ maxLen := by
          have := List.getElem_mem hln
          rw [List.mem_cons] at this
          rcases this with e | e
          · rw [e]; decide
          · exact SZ.out _ e
        generalize (OpV.mk 4 0 0 ⟨#[]⟩ :: ops)[k]'hln = o at *
        simp only [OpV.cells, List.getElem?_cons_zero, List.getElem?_cons_succ] at q0 q1 q2 q3
        have HOS := hide hos
        clear hos hln
        have hpn : ps.length ≤ 8796093022208 := by omega
        go_wp2_with fail
        refine (c_among gplay o.k LL.out.pl).mono ?_
        rintro r w4 ⟨rfl, rfl⟩
        by_cases h1 : o.k = 1
        · have e1 : (o.k == 1 || o.k == 2) = true := by rw [h1]; rfl
          rw [e1]
          have H1 := hide h1
          clear e1 h1
          go_wp2_with fail
          refine (c_step1 HX.out (HK.out.trans LL.out.f) LL.out.l hpn o.k o.p o.m H1.out o.s HOS.out).mono ?_
          rintro r w5 ⟨rfl, ps', lv', l2, a1, a2, hf, hb⟩
          have L5 := hide (LL.out.step rfl hgp l2 hf hb)
          clear l2 hf hb q0 q1 q2 q3
          go_wp2
          go_roundw
          case rel => exact ⟨k + 1, ps', lv', by omega, by go_num, L5.out, by omega, by omega⟩
          case measure => simp [intOf]; omega
        · by_cases h2 : o.k = 2
          · have e1 : (o.k == 1 || o.k == 2) = true := by rw [h2]; rfl
            rw [e1]
            have H2 := hide h2
            clear e1 h1 h2
            go_wp2_with fail
            refine (c_step2 LL.out.l hp0 o.k o.p o.m H2.out o.s).mono ?_
            rintro r w5 ⟨rfl, ps', lv', l2, a1, a2, hf, hb⟩
            have L5 := hide (LL.out.step rfl hgp l2 hf hb)
            clear l2 hf hb q0 q1 q2 q3
            go_wp2
            go_roundw
            case rel => exact ⟨k + 1, ps', lv', by omega, by go_num, L5.out, by omega, by omega⟩
            case measure => simp [intOf]; omega
          · have e1 : (o.k == 1 || o.k == 2) = false := by simp [h1, h2]
            rw [e1]
            clear e1 h1 h2
            go_wp2
            go_roundw
            case rel => exact ⟨k + 1, ps, lv, by omega, by go_num, LL.out, hp0, by omega⟩
            case measure => simp [intOf]; omega
      · have b1 := LL.out.l.blk.cell 1
        simp at b1
        go_wp2
        refine wp_loop_rounds 1 ?_
        rw [rounds_succ]
        go_wp2_with fail
        refine (c_looks LL.out.l).mono ?_
        rintro r w4 ⟨rfl, rfl⟩
        go_wp2
        go_ret
        exact ⟨rfl, LL.out.f⟩


end Go.Proofs.YtcbadebjpogmlaaGreatDoor

/- The law Compiles: called with any script it answers true, if the program's Compile and Text are right. -/
namespace Go.Proofs.YtcbadebjpogmlaaGreatDoor
open Go.RowKit Tr

set_option maxHeartbeats 1000000 in
theorem c_compiles {w : World} (hX : SaidX w) {a : Option Addr} {n cp : Nat} {ops : List OpV} (hsc : ScriptAt w a n cp ops) (hn : (n + 1) * 40 ≤ 140737488355328) (hsz : ∀ o ∈ ops, o.s.size ≤ maxLen) :
    Calls Tryz.prog 3 #[.slice a n cp] w fun r w' => r = .returned (.bool true) ∧ Keeps w w' := by
  have F1 := hide ((Fr.refl (fun _ => False) w).alloc (.cells #[.int .i64 1, .int .i64 2] 3))
  have B1 := hide (Blk.new w #[.int .i64 1, .int .i64 2] 3)
  have HX := hide hX
  have SC : Hid (ScriptAt (w.alloc (.cells #[.int .i64 1, .int .i64 2] 3)) a n cp ops) := by
    rcases hsc with h | ⟨ad, h1, h2, h3, h4⟩
    · exact Or.inl h
    · refine Or.inr ⟨ad, h1, h2, by simp; omega, fun j u hj => ?_⟩
      have e1 : (ad.add j).block = ad.block := by unfold Addr.add; split <;> rfl
      exact (F1.out.cell (p := ad.add j) (by rw [e1]; exact h3) id).trans (h4 j u hj)
  have SZ := hide hsz
  have HN := hide hn
  clear hX hsc hsz hn
  go_enter Tryz.func3, Tryz.ntmps3
  go_wp2_with fail
  refine (c_plays HX.out F1.out SC.out B1.out HN.out SZ.out).mono ?_
  rintro r w2 ⟨rfl, k2⟩
  have K2 := hide (F1.out.trans k2)
  clear k2
  go_wp2
  go_ret
  exact ⟨rfl, K2.out⟩

theorem cellsOp : Tryz.prog.cellsOf 64 = 4 := by kernel_rfl
theorem cellsInt : Tryz.prog.cellsOf 3 = 1 := by kernel_rfl
theorem cellsStr : Tryz.prog.cellsOf 9 = 1 := by kernel_rfl
theorem bytesOp : Tryz.prog.bytesOf 64 = 40 := by kernel_rfl
theorem fieldsOp : ∃ f0 f1 f2 f3 : Field, Tryz.prog.underlying 64 = some (.struct #[f0, f1, f2, f3]) ∧ (f0.type = 3 ∧ f0.offset = 0) ∧ (f1.type = 3 ∧ f1.offset = 1) ∧ (f2.type = 3 ∧ f2.offset = 2) ∧ (f3.type = 9 ∧ f3.offset = 3) :=
  ⟨_, _, _, _, Tryz.underlying64, ⟨rfl, rfl⟩, ⟨rfl, rfl⟩, ⟨rfl, rfl⟩, ⟨rfl, rfl⟩⟩

section
variable {H : Type} {enc : TypeId × Value → H} {P : Program} {w : World} {base : Nat} {spare : Nat → Bool} {held : Bool}

theorem four {α : Type} {l : List α} (h : l.length = 4) : ∃ a b c d, l = [a, b, c, d] := by
  match l, h with
  | [a, b, c, d], _ => exact ⟨a, b, c, d, rfl⟩

/-- One step, read, whatever the program. -/
theorem op_gen {t ti ts : TypeId} {f0 f1 f2 f3 : Field} (hu : P.underlying t = some (.struct #[f0, f1, f2, f3])) (h0 : f0.type = ti ∧ f0.offset = 0) (h1 : f1.type = ti ∧ f1.offset = 1) (h2 : f2.type = ti ∧ f2.offset = 2)
    (h3 : f3.type = ts ∧ f3.offset = 3) (hi : P.underlying ti = some (.int .i64)) (hs : P.underlying ts = some .string) (ct : P.cellsOf t = 4) (ci : P.cellsOf ti = 1) (cs' : P.cellsOf ts = 1)
    {fuel : Nat} {cs : List Value} {x : DataW H × List MemPlace} (h : DataW.trod enc P w base spare held fuel t cs = some x) : ∃ o : OpV, cs = o.cells ∧ o.s.size ≤ maxLen := by
  obtain ⟨xs, n, _, _, hl, hlen, hf⟩ := DataW.trod_struct hu h
  rw [ct] at hl
  obtain ⟨c0, c1, c2, c3, rfl⟩ := four hl
  have hlen' : xs.length = 4 := by simpa using hlen
  obtain ⟨y0, y1, y2, y3, rfl⟩ := four hlen'
  have e0 := hf 0 f0 rfl
  have e1 := hf 1 f1 rfl
  have e2 := hf 2 f2 rfl
  have e3 := hf 3 f3 rfl
  rw [h0.1, h0.2, ci] at e0
  rw [h1.1, h1.2, ci] at e1
  rw [h2.1, h2.2, ci] at e2
  rw [h3.1, h3.2, cs'] at e3
  simp at e0 e1 e2 e3
  obtain ⟨k0, h0, _, _⟩ := DataW.trod_int hi e0
  obtain ⟨k1, h1, _, _⟩ := DataW.trod_int hi e1
  obtain ⟨k2, h2, _, _⟩ := DataW.trod_int hi e2
  obtain ⟨s, h3, _, hs⟩ := DataW.trod_string hs e3
  simp at h0 h1 h2 h3
  exact ⟨⟨k0, k1, k2, s⟩, by simp [OpV.cells, h0, h1, h2, h3], hs⟩
end

/-- One step, read. -/
theorem op_open {H : Type} {enc : TypeId × Value → H} {w : World} {base : Nat} {spare : Nat → Bool} {held : Bool} {fuel : Nat} {cs : List Value} {x : DataW H × List MemPlace}
    (h : DataW.trod enc Tryz.prog w base spare held fuel 64 cs = some x) : ∃ o : OpV, cs = o.cells ∧ o.s.size ≤ maxLen := by
  obtain ⟨f0, f1, f2, f3, hu, h0, h1, h2, h3⟩ := fieldsOp
  exact op_gen hu h0 h1 h2 h3 Tryz.underlying3 Tryz.underlying9 cellsOp cellsInt cellsStr h

end Go.Proofs.YtcbadebjpogmlaaGreatDoor
