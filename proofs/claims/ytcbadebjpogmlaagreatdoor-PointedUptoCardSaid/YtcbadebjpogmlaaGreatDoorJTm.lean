import Derived.Test.YtcbadebjpogmlaaGreatDoorJAa
import Derived.Deep.RegionHeld
import Derived.Deep.Cut
import Derived.Great.Ranges
import Derived.Great.BuildSlice
import Derived.Test.YtcbadebjpogmlaaGreatDoorJMkZ
import Derived.Test.YtcbadebjpogmlaaGreatDoorJMkA
import Derived.Test.YtcbadebjpogmlaaGreatDoorJMkT
import Derived.Test.YtcbadebjpogmlaaGreatDoorJMkI
import Derived.Test.YtcbadebjpogmlaaGreatDoorJPlain8
namespace Go.Proofs.YtcbadebjpogmlaaGreatDoor
open Go.RowKit Tr
def zeroT : Array Value := #[.int .i64 0, .int .i64 0, .int .i64 0, .int .i64 0, .int .i64 0, .int .i64 0, .int .i64 0, .int .i64 0, .int .i64 0, .int .i64 0, .int .i64 0, .int .i64 0, .int .i64 0, .int .i64 0, .int .i64 0, .int .i64 0, .int .i64 0, .int .i64 0, .int .i64 0, .int .i64 0, .int .i64 0, .int .i64 0]
def firstA (a : Nat) : Array Value := #[.int .i64 0, .int .i64 (a : Nat), .int .i64 0, .int .i64 0, .int .i64 0, .int .i64 0, .int .i64 0, .int .i64 0, .int .i64 0, .int .i64 0, .int .i64 0, .int .i64 0, .int .i64 0, .int .i64 0, .int .i64 0, .int .i64 0, .int .i64 0, .int .i64 0, .int .i64 0, .int .i64 0, .int .i64 0, .int .i64 0]
theorem firstT (tl : List Ct) (a : Nat) (h : (ctAt tl 0).al = a) (h0 : (ctAt tl 0).its = 0) : firstA a = (tlc (tl.take 1)).toArray := by
  unfold firstA
  rw [tlc_all]
  simp only [ct_take]
  simp [h, h0]
theorem firstA_one (a : Nat) : (firstA a).all (·.oneCell') = true := all_oneCell_toArray (cs := (firstA a).toList) (by
  intro v hv
  simp only [firstA, List.mem_cons, List.not_mem_nil, or_false] at hv
  rcases hv with rfl | rfl | rfl | rfl | rfl | rfl | rfl | rfl | rfl | rfl | rfl | rfl | rfl | rfl | rfl | rfl | rfl | rfl | rfl | rfl | rfl | rfl <;> rfl)
theorem wpList_allocTo {P : Program} {ops : Array Oper} {rest : List Oper} {o : Oper} {a : Act} {w : World} {Q : Exit → Act → World → Prop} (hg : o.guard = none) (t : TypeId) (ho : o.op = .alloc t)
    (dst : Option Tmp) (hdst : o.dst = dst) (N : Nat) (hN : w.heap.size = N) (z : Value) (hz : (P.info? t).bind (·.zero) = some z) (cells : Array Value) (hc : z.cells = cells)
    (h : wpList P ops Q rest (a.put dst (.pointer (some ⟨N, 0, none⟩))) (w.alloc (.cells cells t))) : wpList P ops Q (o :: rest) a w := by
  subst hdst hN hc
  refine wpList_plain hg fun K hK => ?_
  cases hi : P.info? t with
  | none => simp [hi] at hz
  | some i =>
    have hz' : i.zero = some z := by simpa [hi] using hz
    have ht : (typeInfo t).run P w = .ok i w := by simp [typeInfo, hi]
    unfold Oper.wp execOp
    simp only [ho, Sem.run_bind, Instr.alloc, zeroValue, ht, hz', newVar, newRow, run_newObj_alloc, Sem.run_pure, Result.andThen_ok]
    exact hK _ _ h
theorem zeroTally : (Tryz.prog.info? 202).bind (·.zero) = some (.agg zeroT) := by kernel_rfl
theorem builtTally (x y : Value) : Tryz.prog.built 202 [(0, .agg #[x, y])] = some #[x, y, .int .i64 0, .int .i64 0, .int .i64 0, .int .i64 0, .int .i64 0, .int .i64 0, .int .i64 0, .int .i64 0, .int .i64 0, .int .i64 0, .int .i64 0, .int .i64 0, .int .i64 0, .int .i64 0, .int .i64 0, .int .i64 0, .int .i64 0, .int .i64 0, .int .i64 0, .int .i64 0] := by kernel_rfl
theorem builtFirst (a : Nat) : Tryz.prog.built 202 [(0, .agg #[.int .i64 0, .int .i64 (a : Nat)])] = some (firstA a) := builtTally _ _
theorem firstA_size (a : Nat) : (firstA a).size = 22 := rfl
theorem zeroT_size : zeroT.size = 22 := rfl
theorem ret_tl {R : Ending → World → Prop} {a : Act} {W : World} {g : Nat} {cs : List Value} (hd : a.defers = []) (ha : a.tmps[6]?.getD undef = .pointer (some ⟨g, 0, none⟩))
    (hB : Blk W g cs.toArray 202) (hl : cs.length = 22) (hR : R (.returned (.agg cs.toArray)) W) : bodyPost Tryz.prog Tryz.f143 R .ret a W := by
  refine bodyPost_ret (v := .agg cs.toArray) ?_ hd hR
  have h := run_loadVar_mid (P := Tryz.prog) W g 0 202 cs (.array 11 200) (fun j v hv => by rw [Nat.zero_add, hB.cell j, List.getElem?_toArray]; exact hv) (by kernel_rfl) rfl (by rw [hl]; exact infoTally)
  simp [results, Tryz.results143, ha, asAddr, h]
def tW2 (w : World) (cs : Array Value) : World := ((w.alloc (.cells cs 202)).alloc (.cells zeroT 202)).alloc (.cells zeroT 202)
def tW3 (w : World) (cs : Array Value) (a : Nat) : World := (tW2 w cs).setCells (w.heap.size + 1 + 1) 0 (firstA a).toList
theorem tW2_ok (w : World) (cs : Array Value) : Keeps w (tW2 w cs) ∧ Blk (tW2 w cs) w.heap.size cs 202 ∧ Blk (tW2 w cs) (w.heap.size + 1) zeroT 202 ∧ Blk (tW2 w cs) (w.heap.size + 1 + 1) zeroT 202 := by
  refine ⟨(((Fr.refl _ w).alloc _).alloc _).alloc _, ((Blk.new w cs _).alloc _).alloc _, ?_, ?_⟩
  · have := (Blk.new (w.alloc (.cells cs 202)) zeroT 202).alloc (.cells zeroT 202)
    rw [World.size_alloc] at this
    exact this
  have := Blk.new ((w.alloc (.cells cs 202)).alloc (.cells zeroT 202)) zeroT 202
  rw [World.size_alloc, World.size_alloc] at this
  exact this
theorem tW3_ok (w : World) (cs : Array Value) (a : Nat) : Keeps w (tW3 w cs a) ∧ Blk (tW3 w cs a) w.heap.size cs 202 ∧ Blk (tW3 w cs a) (w.heap.size + 1) zeroT 202 ∧ Blk (tW3 w cs a) (w.heap.size + 1 + 1) (firstA a) 202 := by
  obtain ⟨h1, h2, h3, h4⟩ := tW2_ok w cs
  have f : Fr (fun k => k = w.heap.size + 1 + 1) (tW2 w cs) (tW3 w cs a) := fr_setCells _ _ (Fr.refl _ _) (Or.inl rfl)
  refine ⟨fr_setCells _ _ h1 (Or.inr (by omega)), h2.fr f (by omega), h3.fr f (by omega), ?_⟩
  exact blk_setCells (firstA a).toList [] zeroT.toList h4 (by unfold zeroT firstA; rfl)
set_option maxHeartbeats 4000000 in
set_option maxRecDepth 100000 in
theorem p_tallyOf {w : World} {b : Nat} {tt : ByteArray} {xs : List Sg} (hp : PlanV w b tt xs) (hx : xs.length ≤ 10) (hsel : selN xs ≤ 10) {tl : List Ct} {d : Nat} (hb : CtB xs d tl) (hd : d ≤ 8) {vb pb : Nat} {c : Tv} {pk i L : Nat} {svp : Value} (hv : VAt w vb pb c pk i svp)
    (hlate : ∀ k (h : k < xs.length), 0 < (if xs[k].deep = true then (ctAt tl k).al else (ctAt tl k).its) → LateOk w xs[k].l vb c L svp) :
    Calls Tryz.prog 143 #[.pointer (some ⟨b, 0, none⟩), .pointer (some ⟨vb, 0, none⟩), .agg (tlc tl).toArray] w fun r w' => r = .returned (.agg (tlc (tlOf xs pk L i c tl)).toArray) ∧ Keeps w w' := by
  obtain ⟨sv, l, Dp, hbk, hrow, hxl, hx1⟩ := hp
  obtain ⟨ao, cp, rfl⟩ := own_slice hrow.o
  have hll : l.length = xs.length := hxl.symm
  rw [hll] at hbk
  have hbl := hbk.lt
  have c1 : w.cell? ⟨b, 1, none⟩ = some (.slice ao xs.length cp) := hbk.cell 1
  have hB' := ctb_kid hb pk L i c
  obtain ⟨full, hfull⟩ : ∃ full, full = tlOf xs pk L i c tl := ⟨_, rfl⟩
  rw [← hfull] at hB' ⊢
  have hf0 : (ctAt full 0).its = 0 ∧ (ctAt full 0).al = (ctAt tl 0).al := by
    rw [hfull]
    refine ⟨rfl, ?_⟩
    show (tl.headD ⟨0, 0⟩).al = _
    cases tl <;> rfl
  have hfk : ∀ k (h : k < xs.length), ctAt full (k + 1) = ⟨(if xs[k].deep = true then (ctAt tl k).al else (ctAt tl k).its) * cntS xs[k].l pk L i c, (ctAt tl (k + 1)).al + (if xs[k].deep = true then (ctAt tl k).al else (ctAt tl k).its) * cntS xs[k].l pk L i c⟩ := fun k h => by
    rw [hfull]; exact tlGo_at _ _ _ _ _ _ hb.len k h
  have hlenf : full.length = xs.length + 1 := hB'.len
  obtain ⟨cs, hcs⟩ : ∃ cs, cs = (tlc tl).toArray := ⟨_, rfl⟩
  have hcz : cs.size = 22 := by rw [hcs, List.size_toArray, tlc_len]
  have hcell : ∀ k, k < 11 → cs[k * 2]? = some (.int .i64 ((ctAt tl k).its : Nat)) ∧ cs[k * 2 + 1]? = some (.int .i64 ((ctAt tl k).al : Nat)) := fun k hk => by rw [hcs, List.getElem?_toArray, List.getElem?_toArray]; exact tlc_at tl k hk
  obtain ⟨W3, hW3⟩ : ∃ W3, W3 = tW3 w cs (ctAt tl 0).al := ⟨_, rfl⟩
  have ST := tW3_ok w cs (ctAt tl 0).al
  rw [firstT full _ hf0.2 hf0.1, ← hW3] at ST
  obtain ⟨W1, hW1⟩ : ∃ W1, W1 = (w.alloc (.cells cs 202)).alloc (.cells zeroT 202) := ⟨_, rfl⟩
  have wa1 : W1.cell? ⟨w.heap.size, 1, none⟩ = some (.int .i64 ((ctAt tl 0).al : Nat)) := by rw [hW1]; exact (((Blk.new w cs 202).alloc _).cell 1).trans (hcell 0 (by decide)).2
  have hs1 : W1.heap.size = w.heap.size + 1 + 1 := by rw [hW1, World.size_alloc, World.size_alloc]
  have c13 : W3.cell? ⟨b, 1, none⟩ = some (.slice ao xs.length cp) := (ST.1.cell (p := ⟨b, 1, none⟩) hbl id).trans c1
  have ST := hide ST
  have HO1 := hide (firstA_one (ctAt tl 0).al)
  have HTH : Hid ((W1.alloc (.cells zeroT 202)).there (w.heap.size + 1 + 1) 0 22) := by rw [hW1]; exact there_blk (tW2_ok w cs).2.2.2 (by unfold zeroT; rfl)
  have HW3 : Hid (W3 = (W1.alloc (.cells zeroT 202)).setCells (w.heap.size + 1 + 1) 0 (firstA (ctAt tl 0).al).toList) := by rw [hW1]; exact hW3
  have HR := hide hrow
  have HV := hide hv
  have HLT := hide hlate
  have HFK := hide hfk
  have HB := hide hb
  have HLL := hide hll
  have HCE := hide hcell
  have HLF := hide hlenf
  have HB2 := hide hB'
  have HW1 := hide hW1
  have HS1 := hide hs1
  rw [← hcs]
  clear hW3 hW1 hs1 hrow hv hlate hfk hb hll hcell hcs hfull hf0 hbk hlenf hB' c1
  go_enter Tryz.func143, Tryz.ntmps143
  apply wp_seq_k; intro K0 hK0
  apply wp_region_lit
  refine Great.wpList_boxTo rfl 202 _ rfl (some 5) rfl w.heap.size rfl cs rfl ?_
  refine wpList_allocTo rfl 202 rfl (some 6) rfl (w.heap.size + 1) (World.size_alloc _ _) (.agg zeroT) zeroTally zeroT rfl ?_
  apply wpList_nil
  refine hK0 _ _ ?_
  clear K0 hK0
  rw [← HW1.out]
  simp only [Act.put, List.setIfInBounds_toArray, List.set_cons_zero, List.set_cons_succ]
  apply wp_seq_k; intro K0 hK0
  apply wp_region_lit
  iterate 12 go_step
  refine wpList_buildTo rfl 202 #[(0, Operand.tmp 14)] rfl (some 15) rfl (firstA (ctAt tl 0).al) (by simp only [List.map_toArray, List.map_cons, List.map_nil]; exact builtFirst (ctAt tl 0).al) ?_
  refine wpList_allocTo rfl 202 rfl (some 7) rfl (w.heap.size + 1 + 1) HS1.out (.agg zeroT) zeroTally zeroT rfl ?_
  refine wpList_store_mid rfl 202 (.tmp 7) (.tmp 15) rfl (w.heap.size + 1 + 1) 0 (firstA (ctAt tl 0).al) rfl rfl (by rw [firstA_size]; exact HTH.out) (by rw [firstA_size]; exact infoTally) HO1.out ?_
  apply wpList_nil
  refine hK0 _ _ ?_
  clear K0 hK0
  rw [← HW3.out]
  simp only [Act.put, List.setIfInBounds_toArray, List.set_cons_zero, List.set_cons_succ]
  go_wp2
  go_loopw [21] (fun ii wr => ∃ k : Nat, k ≤ xs.length ∧ ii = .int .i64 k ∧ Keeps w wr ∧ Blk wr w.heap.size cs 202 ∧ Blk wr (w.heap.size + 1) zeroT 202 ∧ Blk wr (w.heap.size + 1 + 1) (tlc (full.take (k + 1))).toArray 202) (fun ii _ => xs.length - (intOf ii).toNat)
  case atStart => exact ⟨0, Nat.zero_le _, rfl, ST.out.1, ST.out.2.1, ST.out.2.2.1, ST.out.2.2.2⟩
  case round =>
    obtain ⟨k, hk, rfl, hK, hb1, hb2, hb3⟩ := hrel
    have KK := hide hK
    have B1 := hide hb1
    have B2 := hide hb2
    have B3 := hide hb3
    clear hK hb1 hb2 hb3 ST HW3 HTH HO1 c13 wa1
    by_cases hlt : k < xs.length
    · obtain ⟨g, cap, hv, hbg, hgl⟩ := HR.out.o.form (by have := HLL.out; omega)
      rw [HLL.out] at hv
      simp only [Value.slice.injEq, true_and] at hv
      obtain ⟨rfl, rfl⟩ := hv
      have hgw : ∀ c : Nat, wr.cell? ⟨g, c, none⟩ = w.cell? ⟨g, c, none⟩ := fun c => KK.out.cell (p := ⟨g, c, none⟩) hgl id
      have hkl : k < l.length := by have := HLL.out; omega
      have hcell : ∀ c : Nat, c < 3 → wr.cell? ⟨g, k * 3 + c, none⟩ = (l[k]).cells[c]? := fun c hc => ((hgw _).trans (HR.out.o.cellAt (k * 3 + c) (by rw [HLL.out]; omega))).trans (segCells_at l k c hc hkl)
      have kc0 := hcell 0 (by decide)
      have kc1 := hcell 1 (by decide)
      have kc2 := hcell 2 (by decide)
      clear hcell hgw
      have hsg : ∀ W, Keeps w W → SgIs W l[k] xs[k] := fun W hW => HR.out.ok k hkl W (Sm.fr HR.out.ft hW (fun _ _ y => y)) _ (List.getElem?_eq_getElem hlt)
      generalize hs : l[k] = s at *
      simp only [GV.cells, List.getElem?_cons_zero, List.getElem?_cons_succ, Nat.add_zero] at kc0 kc1 kc2
      obtain ⟨Wk, hWk⟩ : ∃ Wk, Wk = wr.alloc (.cells #[.func s.f s.x s.y, .func s.f' s.x' s.y', .bool s.b] 128) := ⟨_, rfl⟩
      have KWk : Keeps w Wk := by rw [hWk]; exact KK.out.alloc _
      have BS : Blk Wk wr.heap.size #[.func s.f s.x s.y, .func s.f' s.x' s.y', .bool s.b] 128 := by rw [hWk]; exact Blk.new wr _ _
      have b1 : Blk Wk w.heap.size cs 202 := by rw [hWk]; exact B1.out.alloc _
      have b2 : Blk Wk (w.heap.size + 1) zeroT 202 := by rw [hWk]; exact B2.out.alloc _
      have b3 : Blk Wk (w.heap.size + 1 + 1) (tlc (full.take (k + 1))).toArray 202 := by rw [hWk]; exact B3.out.alloc _
      obtain ⟨N, cp2, hfn, hE, hcall⟩ := (hsg Wk.drew (KWk.drewN 1)).2.c
      simp only [Value.func.injEq] at hfn
      obtain ⟨e1, e2, e3⟩ := hfn
      rw [e1, e2, e3] at kc1 hWk BS
      have n0 := (HB.out.lt (by omega) hsel k)
      have n1 := (HB.out.lt (by omega) hsel (k + 1))
      have n2 := (HB2.out.lt (by omega) hsel (k + 1))
      have fk := HFK.out k hlt
      have lt5 := HLT.out k hlt
      obtain ⟨its, hits⟩ : ∃ its, its = (ctAt tl k).its := ⟨_, rfl⟩
      obtain ⟨al, hal⟩ : ∃ al, al = (ctAt tl k).al := ⟨_, rfl⟩
      obtain ⟨al1, hal1⟩ : ∃ al1, al1 = (ctAt tl (k + 1)).al := ⟨_, rfl⟩
      obtain ⟨m, hm⟩ : ∃ m, m = (if xs[k].deep = true then al else its) * cntS xs[k].l pk L i c := ⟨_, rfl⟩
      rw [← hits, ← hal] at lt5 n0
      rw [← hits, ← hal, ← hal1, ← hm] at fk
      rw [← hal1] at n1
      rw [fk] at n2
      have S0 : Wk.cell? ⟨wr.heap.size, 1, none⟩ = some (.func (.func N) #[] cp2) := BS.cell 1
      have S1 : Wk.cell? ⟨w.heap.size, k * 2, none⟩ = some (.int .i64 (its : Nat)) := by rw [hits]; exact (b1.cell (k * 2)).trans (HCE.out k (by omega)).1
      have S2 : Wk.cell? ⟨w.heap.size, k * 2 + 1, none⟩ = some (.int .i64 (al : Nat)) := by rw [hal]; exact (b1.cell (k * 2 + 1)).trans (HCE.out k (by omega)).2
      have KS : Hid (∀ W, Keeps Wk W → W.cell? ⟨wr.heap.size, 1, none⟩ = some (.func (.func N) #[] cp2) ∧ W.cell? ⟨w.heap.size, k * 2, none⟩ = some (.int .i64 (its : Nat)) ∧ W.cell? ⟨w.heap.size, k * 2 + 1, none⟩ = some (.int .i64 (al : Nat))) := fun W hW => ⟨(hW.cell (p := ⟨wr.heap.size, 1, none⟩) BS.lt id).trans S0, (hW.cell (p := ⟨w.heap.size, k * 2, none⟩) b1.lt id).trans S1, (hW.cell (p := ⟨w.heap.size, k * 2 + 1, none⟩) b1.lt id).trans S2⟩
      have CALL : Hid (Calls Tryz.prog N (#[.agg #[.int .i64 (its : Nat), .int .i64 (al : Nat)], .pointer (some ⟨vb, 0, none⟩)] ++ cp2) Wk.drew fun r w' => r = .returned (.int .i64 (m : Nat)) ∧ Keeps Wk w') := by
        have := hcall its al (by omega) (by omega) vb pb c pk i L svp (HV.out.keep (KWk.drewN 1)) (fun h => (lt5 h).keep (KWk.drewN 1))
        rw [← hm] at this
        exact this.mono (fun r w' ⟨q1, q2⟩ => ⟨q1, ((Fr.refl _ Wk).drewN 1).trans q2⟩)
      have AFT : Hid (∀ W, Keeps Wk W → W.cell? ⟨w.heap.size, (k + 1) * 2 + 1, none⟩ = some (.int .i64 (al1 : Nat)) ∧ (∃ v, W.cell? ⟨w.heap.size + 1 + 1, (k + 1) * 2, none⟩ = some v) ∧ (∃ v, W.cell? ⟨w.heap.size + 1 + 1, (k + 1) * 2 + 1, none⟩ = some v) ∧ (∀ i, W.frozen? ⟨w.heap.size + 1 + 1, i, none⟩ = false)) := fun W hW => by
        have x1 := b1.fr hW id
        have x3 := b3.fr hW id
        refine ⟨by rw [hal1]; exact (x1.cell _).trans (HCE.out (k + 1) (by omega)).2, ?_, ?_, x3.fz⟩
        · exact ⟨_, (x3.cell _).trans (by rw [List.getElem?_toArray]; exact (tlc_at _ (k + 1) (by omega)).1)⟩
        exact ⟨_, (x3.cell _).trans (by rw [List.getElem?_toArray]; exact (tlc_at _ (k + 1) (by omega)).2)⟩
      have NXT : Hid (∀ W, Keeps Wk W → ∀ W', W' = (W.setCell ⟨w.heap.size + 1 + 1, (k + 1) * 2, none⟩ (.int .i64 (m : Nat))).setCell ⟨w.heap.size + 1 + 1, (k + 1) * 2 + 1, none⟩ (.int .i64 ((al1 + m : Nat) : Int)) → Keeps w W' ∧ Blk W' w.heap.size cs 202 ∧ Blk W' (w.heap.size + 1) zeroT 202 ∧ Blk W' (w.heap.size + 1 + 1) (tlc (full.take (k + 1 + 1))).toArray 202) := fun W hW W' hW' => by
        have x1 := b1.fr hW id
        have x2 := b2.fr hW id
        have x3 := b3.fr hW id
        subst hW'
        have f : Fr (fun k => k = w.heap.size + 1 + 1) W ((W.setCell ⟨w.heap.size + 1 + 1, (k + 1) * 2, none⟩ (.int .i64 (m : Nat))).setCell ⟨w.heap.size + 1 + 1, (k + 1) * 2 + 1, none⟩ (.int .i64 ((al1 + m : Nat) : Int))) := ((Fr.refl (fun k => k = w.heap.size + 1 + 1) W).setCell ⟨w.heap.size + 1 + 1, (k + 1) * 2, none⟩ (Or.inl rfl) _).setCell ⟨w.heap.size + 1 + 1, (k + 1) * 2 + 1, none⟩ (Or.inl rfl) _
        refine ⟨((KWk.trans hW).setCell ⟨_, _, none⟩ (Or.inr (by show w.heap.size ≤ w.heap.size + 1 + 1; omega)) _).setCell ⟨_, _, none⟩ (Or.inr (by show w.heap.size ≤ w.heap.size + 1 + 1; omega)) _, x1.fr f (by omega), x2.fr f (by omega), ?_⟩
        have := (x3.set ((k + 1) * 2) (.int .i64 (m : Nat))).set ((k + 1) * 2 + 1) (.int .i64 ((al1 + m : Nat) : Int))
        have e := tlc_set (tl := full.take (k + 1)) (tl' := full.take (k + 1 + 1)) (k := k + 1) (by omega) (fun j hj => by
          rw [ct_take, ct_take]
          by_cases q : j < k + 1
          · rw [if_pos q, if_pos (by omega)]
          rw [if_neg q, if_neg (by omega)])
        have e1 : ctAt (full.take (k + 1 + 1)) (k + 1) = ⟨m, al1 + m⟩ := by rw [ct_take, if_pos (by omega)]; exact fk
        rw [e1] at e
        rw [e] at this
        exact this
      have HWk := hide hWk
      have K00 := hide KWk
      have HEN := hide hE
      clear hcall hsg BS b1 b2 b3 S0 S1 S2 fk lt5 hits hal hal1 hm KWk hWk
      go_wp2
      rw [← HWk.out]
      go_region_held (fun w' => w'.cell? ⟨wr.heap.size, 1, none⟩ = some (.func (.func N) #[] cp2) ∧ w'.cell? ⟨w.heap.size, k * 2, none⟩ = some (.int .i64 (its : Nat)) ∧ w'.cell? ⟨w.heap.size, k * 2 + 1, none⟩ = some (.int .i64 (al : Nat))) (first | exact KS.out _ ((Fr.refl _ _).drewN 1) | exact KS.out _ (by assumption))
        (first | (refine CALL.out.mono ?_; rintro r w1 ⟨rfl, hk1⟩; have KK1 := hide hk1))
      all_goals
        obtain ⟨a1, ⟨v1, a2⟩, ⟨v2, a3⟩, a4⟩ := AFT.out _ KK1.out
        have KNX := hide (NXT.out _ KK1.out)
        clear AFT NXT KS CALL hk1
        go_wp2
        go_roundw
        case rel => exact ⟨k + 1, by omega, by go_num, KNX.out _ (by rw [Int.natCast_add])⟩
        case measure => simp [intOf]; omega
    have hks : k = xs.length := by omega
    subst hks
    have hfin : (tlc (full.take (xs.length + 1))).toArray = (tlc full).toArray := by rw [List.take_of_length_le (by rw [HLF.out]; omega)]
    have b3 := B3.out
    rw [hfin] at b3
    have RA : Hid (wr.rangeAt (w.heap.size + 1 + 1) 0 (tlc full)) := fun j v hv => by
      rw [Nat.zero_add, b3.cell j, List.getElem?_toArray]; exact hv
    have TH : Hid (wr.there (w.heap.size + 1) 0 (tlc full).toArray.size) := there_blk B2.out (zeroT_size.trans (tlc_len full).symm)
    have IA : Hid ((Tryz.prog.info? 202).map (·.size) = some (tlc full).length) := by rw [tlc_len]; exact infoTally
    have IB : Hid ((Tryz.prog.info? 202).map (·.size) = some (tlc full).toArray.size) := by rw [List.size_toArray]; exact IA.out
    have ON : Hid ((tlc full).toArray.all (·.oneCell') = true) := all_oneCell_toArray (tlc_one full)
    have FIN : Hid (Blk (wr.setCells (w.heap.size + 1) 0 (tlc full).toArray.toList) (w.heap.size + 1) (tlc full).toArray 202 ∧ Keeps w (wr.setCells (w.heap.size + 1) 0 (tlc full).toArray.toList)) := by
      refine ⟨?_, fr_setCells _ _ KK.out (Or.inr (by omega))⟩
      exact blk_setCells (tlc full) [] zeroT.toList B2.out ((show _ = (tlc full).length from by rw [tlc_len]; unfold zeroT; rfl))
    clear hfin b3 B1 B2 B3 KK
    go_wp2_with (first | refine wpList_load_mid rfl 202 (.tmp 7) rfl (w.heap.size + 1 + 1) 0 rfl (tlc full) (.array 11 200) RA.out (by kernel_rfl) rfl IA.out ?_ | refine wpList_store_mid rfl 202 (.tmp 6) (.tmp 46) rfl (w.heap.size + 1) 0 (tlc full).toArray rfl rfl TH.out IB.out ON.out ?_)
    exact ret_tl rfl rfl FIN.out.1 (tlc_len full) ⟨rfl, FIN.out.2⟩
end Go.Proofs.YtcbadebjpogmlaaGreatDoor
namespace Go.Proofs.YtcbadebjpogmlaaGreatDoor
open Go.RowKit Tr
def outA : Array Value := #[.int .i64 1, .int .i64 1, .int .i64 0, .int .i64 0, .int .i64 0, .int .i64 0, .int .i64 0, .int .i64 0, .int .i64 0, .int .i64 0, .int .i64 0, .int .i64 0, .int .i64 0, .int .i64 0, .int .i64 0, .int .i64 0, .int .i64 0, .int .i64 0, .int .i64 0, .int .i64 0, .int .i64 0, .int .i64 0]
theorem out_at (n k : Nat) (h : 0 < k) : ctAt (tlOut n) k = ⟨0, 0⟩ := by
  unfold ctAt tlOut
  obtain ⟨j, rfl⟩ : ∃ j, k = j + 1 := ⟨k - 1, by omega⟩
  rw [List.getD_cons_succ, List.getD_eq_getElem?_getD]
  by_cases q : j < n
  · simp [q]
  rw [List.getElem?_eq_none (by simp; omega)]; rfl
theorem outA_eq (n : Nat) : (tlc (tlOut n)).toArray = outA := by
  rw [tlc_all]
  simp only [out_at n _ (by decide : 0 < 1), out_at n _ (by decide : 0 < 2), out_at n _ (by decide : 0 < 3), out_at n _ (by decide : 0 < 4), out_at n _ (by decide : 0 < 5), out_at n _ (by decide : 0 < 6), out_at n _ (by decide : 0 < 7), out_at n _ (by decide : 0 < 8), out_at n _ (by decide : 0 < 9), out_at n _ (by decide : 0 < 10)]
  rfl
theorem builtOut : Tryz.prog.built 202 [(0, .agg #[.int .i64 1, .int .i64 1])] = some outA := builtTally _ _
theorem outA_size : outA.size = 22 := rfl
theorem outA_one : outA.all (·.oneCell') = true := by
  rw [← outA_eq 0]; exact all_oneCell_toArray (tlc_one _)
theorem ret_out {R : Ending → World → Prop} {a : Act} {W : World} {g : Nat} {cs : List Value} (hd : a.defers = []) (ha : a.tmps[0]?.getD undef = .pointer (some ⟨g, 0, none⟩))
    (hB : Blk W g cs.toArray 202) (hl : cs.length = 22) (hR : R (.returned (.agg cs.toArray)) W) : bodyPost Tryz.prog Tryz.f142 R .ret a W := by
  refine bodyPost_ret (v := .agg cs.toArray) ?_ hd hR
  have h := run_loadVar_mid (P := Tryz.prog) W g 0 202 cs (.array 11 200) (fun j v hv => by rw [Nat.zero_add, hB.cell j, List.getElem?_toArray]; exact hv) (by kernel_rfl) rfl (by rw [hl]; exact infoTally)
  simp [results, Tryz.results142, ha, asAddr, h]
set_option maxHeartbeats 1000000 in
set_option maxRecDepth 100000 in
theorem p_outer (n : Nat) {w : World} : Calls Tryz.prog 142 #[] w fun r w' => r = .returned (.agg (tlc (tlOut n)).toArray) ∧ Keeps w w' := by
  have TH : Hid ((w.alloc (.cells zeroT 202)).there w.heap.size 0 outA.size) := by rw [outA_size]; exact there_blk (Blk.new w zeroT 202) zeroT_size
  have FIN : Hid (Blk ((w.alloc (.cells zeroT 202)).setCells w.heap.size 0 outA.toList) w.heap.size (tlc (tlOut n)).toArray 202 ∧ Keeps w ((w.alloc (.cells zeroT 202)).setCells w.heap.size 0 outA.toList)) := by
    refine ⟨?_, fr_setCells _ _ ((Fr.refl _ w).alloc _) (Or.inr (Nat.le_refl _))⟩
    rw [outA_eq]
    exact blk_setCells outA.toList [] zeroT.toList (Blk.new w zeroT 202) (zeroT_size.trans outA_size.symm)
  go_enter Tryz.func142, Tryz.ntmps142
  apply wp_seq_k; intro K0 hK0
  apply wp_region_lit
  refine wpList_allocTo rfl 202 rfl (some 0) rfl w.heap.size rfl (.agg zeroT) zeroTally zeroT rfl ?_
  apply wpList_nil
  refine hK0 _ _ ?_
  clear K0 hK0
  simp only [Act.put, List.setIfInBounds_toArray, List.set_cons_zero]
  go_wp2_with (first | refine wpList_buildTo rfl 202 #[(0, Operand.tmp 1)] rfl (some 2) rfl outA (by simp only [List.map_toArray, List.map_cons, List.map_nil]; exact builtOut) ?_ | refine wpList_store_mid rfl 202 (.tmp 0) (.tmp 2) rfl w.heap.size 0 outA rfl rfl TH.out (by rw [outA_size]; exact infoTally) outA_one ?_)
  exact ret_out rfl rfl FIN.out.1 (tlc_len _) ⟨rfl, FIN.out.2⟩
theorem head_le (xs : List Sg) : headS xs ≤ xs.length := List.findIdx_le_length
set_option maxRecDepth 100000 in
theorem p_late {w : World} {b : Nat} {tt : ByteArray} {xs : List Sg} (hp : PlanV w b tt xs) : Calls Tryz.prog 106 #[.pointer (some ⟨b, 0, none⟩)] w fun r w' => r = .returned (.bool (decide (headS xs < xs.length))) ∧ Keeps w w' := by
  obtain ⟨sv, l, Dp, hbk, hrow, hxl, hx1⟩ := hp
  obtain ⟨ao, cp, rfl⟩ := own_slice hrow.o
  have hll : l.length = xs.length := hxl.symm
  rw [hll] at hbk
  have c1 : w.cell? ⟨b, 1, none⟩ = some (.slice ao xs.length cp) := hbk.cell 1
  have c2 : w.cell? ⟨b, 2, none⟩ = some (.int .i64 (headS xs : Nat)) := hbk.cell 2
  have hl := head_le xs
  generalize headS xs = hs at *
  clear hbk hrow hxl hll
  go_enter Tryz.func106, Tryz.ntmps106
  go_wp2
  go_quiet (fail)
  go_wp2
  go_ret
  exact ⟨by simp, (Fr.refl _ _).drewN _⟩
set_option maxHeartbeats 1000000 in
set_option maxRecDepth 100000 in
theorem p_ofhead {w : World} {b : Nat} {tt : ByteArray} {xs : List Sg} (hp : PlanV w b tt xs) (hx : xs.length ≤ 10) (tl : List Ct) : Calls Tryz.prog 107 #[.pointer (some ⟨b, 0, none⟩), .agg (tlc tl).toArray] w fun r w' => r = .returned (.bool (decide (0 < (ctAt tl (headS xs)).its))) ∧ Keeps w w' := by
  obtain ⟨sv, l, Dp, hbk, hrow, hxl, hx1⟩ := hp
  have hbl := hbk.lt
  have c2 : w.cell? ⟨b, 2, none⟩ = some (.int .i64 (headS xs : Nat)) := hbk.cell 2
  have hl := head_le xs
  obtain ⟨W1, hW1⟩ : ∃ W1, W1 = w.alloc (.cells (tlc tl).toArray 202) := ⟨_, rfl⟩
  have K1 : Keeps w W1 := by rw [hW1]; exact (Fr.refl _ w).alloc _
  have c3 : W1.cell? ⟨b, 2, none⟩ = some (.int .i64 (headS xs : Nat)) := (K1.cell (p := ⟨b, 2, none⟩) hbl id).trans c2
  have e1 : W1.cell? ⟨w.heap.size, headS xs * 2, none⟩ = some (.int .i64 ((ctAt tl (headS xs)).its : Nat)) := by
    rw [hW1, (Blk.new w (tlc tl).toArray 202).cell, List.getElem?_toArray]
    exact (tlc_at tl _ (by omega)).1
  generalize (ctAt tl (headS xs)).its = n at *
  generalize headS xs = hs at *
  obtain ⟨cs, hcs⟩ : ∃ cs, cs = (tlc tl).toArray := ⟨_, rfl⟩
  rw [← hcs] at hW1 ⊢
  have HW1 := hide hW1
  have KK := hide K1
  clear hbk hrow c2 K1 hW1 hcs
  go_enter Tryz.func107, Tryz.ntmps107
  apply wp_seq_k; intro K0 hK0
  apply wp_region_lit
  refine Great.wpList_boxTo rfl 202 _ rfl (some 3) rfl w.heap.size rfl cs rfl ?_
  rw [← HW1.out]
  simp only [Act.put, List.setIfInBounds_toArray, List.set_cons_zero, List.set_cons_succ]
  go_wp2
  go_ret
  exact ⟨by simp, KK.out⟩
end Go.Proofs.YtcbadebjpogmlaaGreatDoor
namespace Go.Proofs.YtcbadebjpogmlaaGreatDoor
open Go.RowKit Tr
def kindT (c : Nat) : Nat := if c = 10 then 1 else if c < 32 ∨ 126 < c then 0 else if c = 32 then 2 else if c = 48 then 3 else if 49 ≤ c ∧ c ≤ 57 then 4 else if c = 34 then 5 else if c = 92 then 6 else 7
set_option maxHeartbeats 1000000 in
theorem t_kindOf {w : World} (c : Nat) (hc : c < 256) :
    Calls Tryz.prog 173 #[.int .u8 (c : Int)] w fun r w' => r = .returned (.int .i64 (kindT c : Nat)) ∧ w' = w := by
  by_cases h0 : c = 10
  · subst h0
    have e : kindT 10 = 1 := by decide
    rw [e]
    clear e
    go_enter Tryz.func173, Tryz.ntmps173
    go_wp2
    go_ret
    exact ⟨rfl, rfl⟩
  by_cases h1 : c < 32
  · have e : kindT c = 0 := by unfold kindT; repeat (first | rw [if_pos (by omega)] | rw [if_neg (by omega)])
    rw [e]
    clear e
    have n10 : ((c : Int) == 10) = false := by rw [beq_eq_false_iff_ne]; omega
    have l32 : (c : Int) < 32 := by omega
    go_enter Tryz.func173, Tryz.ntmps173
    go_wp2
    go_ret
    exact ⟨rfl, rfl⟩
  by_cases h2 : 126 < c
  · have e : kindT c = 0 := by unfold kindT; repeat (first | rw [if_pos (by omega)] | rw [if_neg (by omega)])
    rw [e]
    clear e
    have n10 : ((c : Int) == 10) = false := by rw [beq_eq_false_iff_ne]; omega
    have g32 : ¬ (c : Int) < 32 := by omega
    have m126 : (126 : Int) < (c : Int) := by omega
    go_enter Tryz.func173, Tryz.ntmps173
    go_wp2
    go_ret
    exact ⟨rfl, rfl⟩
  by_cases h3 : c = 32
  · subst h3
    have e : kindT 32 = 2 := by decide
    rw [e]
    clear e
    go_enter Tryz.func173, Tryz.ntmps173
    go_wp2
    go_ret
    exact ⟨rfl, rfl⟩
  by_cases h4 : c = 48
  · subst h4
    have e : kindT 48 = 3 := by decide
    rw [e]
    clear e
    go_enter Tryz.func173, Tryz.ntmps173
    go_wp2
    go_ret
    exact ⟨rfl, rfl⟩
  by_cases h5 : 49 ≤ c ∧ c ≤ 57
  · have e : kindT c = 4 := by unfold kindT; repeat (first | rw [if_pos (by omega)] | rw [if_neg (by omega)])
    rw [e]
    clear e
    have n10 : ((c : Int) == 10) = false := by rw [beq_eq_false_iff_ne]; omega
    have g32 : ¬ (c : Int) < 32 := by omega
    have l126 : ¬ (126 : Int) < (c : Int) := by omega
    have n32 : ((c : Int) == 32) = false := by rw [beq_eq_false_iff_ne]; omega
    have n48 : ((c : Int) == 48) = false := by rw [beq_eq_false_iff_ne]; omega
    have g49 : (49 : Int) ≤ (c : Int) := by omega
    have l57 : (c : Int) ≤ 57 := by omega
    go_enter Tryz.func173, Tryz.ntmps173
    go_wp2
    go_ret
    exact ⟨rfl, rfl⟩
  by_cases h6 : c = 34
  · subst h6
    have e : kindT 34 = 5 := by decide
    rw [e]
    clear e
    go_enter Tryz.func173, Tryz.ntmps173
    go_wp2
    go_ret
    exact ⟨rfl, rfl⟩
  by_cases h7 : c = 92
  · subst h7
    have e : kindT 92 = 6 := by decide
    rw [e]
    clear e
    go_enter Tryz.func173, Tryz.ntmps173
    go_wp2
    go_ret
    exact ⟨rfl, rfl⟩
  have e : kindT c = 7 := by unfold kindT; repeat (first | rw [if_pos (by omega)] | rw [if_neg (by omega)])
  rw [e]
  clear e
  rcases Nat.lt_or_ge c 49 with h9 | h9
  · have n10 : ((c : Int) == 10) = false := by rw [beq_eq_false_iff_ne]; omega
    have g32 : ¬ (c : Int) < 32 := by omega
    have l126 : ¬ (126 : Int) < (c : Int) := by omega
    have n32 : ((c : Int) == 32) = false := by rw [beq_eq_false_iff_ne]; omega
    have n48 : ((c : Int) == 48) = false := by rw [beq_eq_false_iff_ne]; omega
    have g49 : ¬ (49 : Int) ≤ (c : Int) := by omega
    have g49' : decide ((49 : Int) ≤ (c : Int)) = false := by simpa using g49
    have n34 : ((c : Int) == 34) = false := by rw [beq_eq_false_iff_ne]; omega
    have n92 : ((c : Int) == 92) = false := by rw [beq_eq_false_iff_ne]; omega
    go_enter Tryz.func173, Tryz.ntmps173
    go_wp2
    go_ret
    exact ⟨rfl, rfl⟩
  have n10 : ((c : Int) == 10) = false := by rw [beq_eq_false_iff_ne]; omega
  have g32 : ¬ (c : Int) < 32 := by omega
  have l126 : ¬ (126 : Int) < (c : Int) := by omega
  have n32 : ((c : Int) == 32) = false := by rw [beq_eq_false_iff_ne]; omega
  have n48 : ((c : Int) == 48) = false := by rw [beq_eq_false_iff_ne]; omega
  have g49 : (49 : Int) ≤ (c : Int) := by omega
  have l57 : ¬ (c : Int) ≤ 57 := by omega
  have n34 : ((c : Int) == 34) = false := by rw [beq_eq_false_iff_ne]; omega
  have n92 : ((c : Int) == 92) = false := by rw [beq_eq_false_iff_ne]; omega
  go_enter Tryz.func173, Tryz.ntmps173
  go_wp2
  go_ret
  exact ⟨rfl, rfl⟩
theorem kindT_cases (c : Nat) : (c = 10 ∧ kindT c = 1) ∨ ((c < 32 ∨ 126 < c) ∧ c ≠ 10 ∧ kindT c = 0) ∨ (c = 32 ∧ kindT c = 2) ∨ (c = 48 ∧ kindT c = 3) ∨ (49 ≤ c ∧ c ≤ 57 ∧ kindT c = 4) ∨ (c = 34 ∧ kindT c = 5) ∨ (c = 92 ∧ kindT c = 6) ∨
    (32 < c ∧ c ≤ 126 ∧ (c < 48 ∨ 57 < c) ∧ c ≠ 34 ∧ c ≠ 92 ∧ kindT c = 7) := by
  unfold kindT
  split
  · omega
  split
  · omega
  split
  · omega
  split
  · omega
  split
  · omega
  split
  · omega
  split <;> omega
theorem kind_bl (c : Nat) : (((kindT c : Nat) : Int) == 2 || ((kindT c : Nat) : Int) == 1) = isBl c := by
  have e : isBl c = decide (c = 32 ∨ c = 10) := by rw [Bool.eq_iff_iff]; simp [isBl]
  rw [e]
  rcases kindT_cases c with ⟨h, k⟩ | ⟨h, h', k⟩ | ⟨h, k⟩ | ⟨h, k⟩ | ⟨h, h', k⟩ | ⟨h, k⟩ | ⟨h, k⟩ | ⟨h, h', h2, h3, h4, k⟩ <;> rw [k]
  · rw [decide_eq_true (Or.inr h)]; rfl
  · rw [decide_eq_false (by omega)]; rfl
  · rw [decide_eq_true (Or.inl h)]; rfl
  all_goals rw [decide_eq_false (by omega)]; rfl
theorem kind_dg (c : Nat) : (((kindT c : Nat) : Int) == 3 || ((kindT c : Nat) : Int) == 4) = isDig c := by
  have e : isDig c = decide (48 ≤ c ∧ c ≤ 57) := by simp [isDig]
  rw [e]
  rcases kindT_cases c with ⟨h, k⟩ | ⟨h, h', k⟩ | ⟨h, k⟩ | ⟨h, k⟩ | ⟨h, h', k⟩ | ⟨h, k⟩ | ⟨h, k⟩ | ⟨h, h', h2, h3, h4, k⟩ <;> rw [k]
  · rw [decide_eq_false (by omega)]; rfl
  · rw [decide_eq_false (by omega)]; rfl
  · rw [decide_eq_false (by omega)]; rfl
  · rw [decide_eq_true (by omega)]; rfl
  · rw [decide_eq_true (by omega)]; rfl
  all_goals rw [decide_eq_false (by omega)]; rfl
set_option maxHeartbeats 400000 in
theorem t_isBlank {w : World} (c : Nat) (hc : c < 256) : Calls Tryz.prog 138 #[.int .u8 (c : Int)] w fun r w' => r = .returned (.bool (isBl c)) ∧ w' = w := by
  rw [← kind_bl]
  have K := hide (fun w => t_kindOf (w := w) c hc)
  generalize kindT c = k at *
  by_cases h : k = 2
  · subst h
    go_enter Tryz.func138, Tryz.ntmps138
    go_wp2_with fail
    refine (K.out _).mono ?_
    rintro r w' ⟨rfl, rfl⟩
    go_wp2
    go_ret
    exact ⟨rfl, rfl⟩
  have e : ((k : Int) == 2) = false := by rw [beq_eq_false_iff_ne]; omega
  rw [e]
  go_enter Tryz.func138, Tryz.ntmps138
  go_wp2_with fail
  refine (K.out _).mono ?_
  rintro r w' ⟨rfl, rfl⟩
  go_wp2_with fail
  refine (K.out _).mono ?_
  rintro r w' ⟨rfl, rfl⟩
  go_wp2
  go_ret
  exact ⟨rfl, rfl⟩
set_option maxHeartbeats 400000 in
theorem t_isDigit {w : World} (c : Nat) (hc : c < 256) : Calls Tryz.prog 176 #[.int .u8 (c : Int)] w fun r w' => r = .returned (.bool (isDig c)) ∧ w' = w := by
  rw [← kind_dg]
  have K := hide (fun w => t_kindOf (w := w) c hc)
  generalize kindT c = k at *
  by_cases h : k = 3
  · subst h
    go_enter Tryz.func176, Tryz.ntmps176
    go_wp2_with fail
    refine (K.out _).mono ?_
    rintro r w' ⟨rfl, rfl⟩
    go_wp2
    go_ret
    exact ⟨rfl, rfl⟩
  have e : ((k : Int) == 3) = false := by rw [beq_eq_false_iff_ne]; omega
  rw [e]
  go_enter Tryz.func176, Tryz.ntmps176
  go_wp2_with fail
  refine (K.out _).mono ?_
  rintro r w' ⟨rfl, rfl⟩
  go_wp2_with fail
  refine (K.out _).mono ?_
  rintro r w' ⟨rfl, rfl⟩
  go_wp2
  go_ret
  exact ⟨rfl, rfl⟩
end Go.Proofs.YtcbadebjpogmlaaGreatDoor
namespace Go.Proofs.YtcbadebjpogmlaaGreatDoor
open Go.RowKit Tr
def tkx (k : Nat) (l : List UInt8) : List UInt8 := if k = 3 then l.take 9 else l
def tagg (t : Tok) : Value := .agg #[.int .i64 (t.k : Nat), .int .i64 (t.of : Nat), .int .i64 (t.frm : Nat), .int .i64 (t.to : Nat), .int .i64 t.n, .string (bsb (tkx t.k t.t))]
def rcl (s0 : Nat) (z : Sn) (ov bp bv tell : Value) : Array Value :=
  #[.int .i64 (s0 : Nat), .int .i64 (z.at' : Nat), ov, .int .i64 (z.tk.k : Nat), .int .i64 (z.tk.of : Nat), .int .i64 (z.tk.frm : Nat), .int .i64 (z.tk.to : Nat), .int .i64 z.tk.n, .string (bsb (tkx z.tk.k z.tk.t)), bp, bv, .string (bsb z.rs), .int .i64 (z.sz : Nat), .int .i64 z.sg, tell]
def opCells (l : List Nat) : List Value := l.map (fun k => .int .i64 (k : Nat))
structure RS (w : World) (r s0 : Nat) (z : Sn) (tell ov bp bv : Value) : Prop where
  b : Blk w r (rcl s0 z ov bp bv tell) 115
  o : w.ownsRow (r + 1) 106 1 ov z.op.length (opCells z.op)
  t : w.ownsRow (r + 1) 5 1 bv (tkx z.tk.k z.tx).length (Lib.byteCells (tkx z.tk.k z.tx))
  p : bp = .pointer none ∨ bp = .pointer (some ⟨r, 9, none⟩)
  e : tkx z.tk.k z.tx = [] → bv = .slice none 0 0
structure Sink (f : Value) (S : World → (Nat → Prop) → List Tok → Prop) (V : List Tok → Tok → Prop) : Prop where
  lt : ∀ {w D ts k}, S w D ts → D k → k < w.heap.size
  keep : ∀ {w w' D ts}, S w D ts → Sm D w w' → w.heap.size ≤ w'.heap.size → S w' D ts
  call : ∃ N first cap, f = .func (.func N) first cap ∧ (∀ args w, (callFunc N args).run Tryz.prog w = .ok (.enter N args) w) ∧
    ∀ w D ts t, S w D ts → V ts t → Calls Tryz.prog N (first.push (tagg t) ++ cap) w fun r w' => r = .returned (.tuple #[]) ∧ ∃ D', S w' D' (ts ++ [t]) ∧ (∀ k, D' k → D k ∨ w.heap.size ≤ k) ∧ Fr D w w'
def VL (V : List Tok → Tok → Prop) : List Tok → List Tok → Prop
  | _, [] => True
  | ts, t :: r => V ts t ∧ VL V (ts ++ [t]) r
structure RM (S : World → (Nat → Prop) → List Tok → Prop) (tell : Value) (r s0 : Nat) (z : Sn) (ts : List Tok) (E : Nat → Prop) (w : World) : Prop where
  ex : ∃ ov bp bv D, RS w r s0 z tell ov bp bv ∧ S w D ts ∧ (∀ k, D k → k ≠ r ∧ ov.ownBlock ≠ some k ∧ bv.ownBlock ≠ some k) ∧ (∀ k, E k ↔ k = r ∨ ov.ownBlock = some k ∨ bv.ownBlock = some k ∨ D k)
structure Ev (E : Nat → Prop) (w : World) (E' : Nat → Prop) (w' : World) : Prop where
  s : ∀ k, E' k → E k ∨ w.heap.size ≤ k
  f : Fr E w w'
theorem Ev.refl (E : Nat → Prop) (w : World) : Ev E w E w := ⟨fun _ => Or.inl, Fr.refl _ _⟩
theorem Ev.trans {E E' E'' : Nat → Prop} {a b c : World} (h : Ev E a E' b) (k : Ev E' b E'' c) : Ev E a E'' c := by
  refine ⟨fun i hi => ?_, ⟨k.f.os.trans h.f.os, k.f.tape.trans h.f.tape, k.f.output.trans h.f.output, Nat.le_trans h.f.size k.f.size, fun i hi hn => ?_⟩⟩
  · rcases k.s i hi with x | x
    · exact h.s i x
    exact Or.inr (Nat.le_trans h.f.size x)
  refine (k.f.block i (Nat.lt_of_lt_of_le hi h.f.size) (fun x => ?_)).trans (h.f.block i hi hn)
  rcases h.s i x with y | y
  · exact hn y
  omega
def RP (S : World → (Nat → Prop) → List Tok → Prop) (tell : Value) (r s0 : Nat) (x : Sx) (ts : List Tok) (E : Nat → Prop) (w : World) (res : Ending) (w' : World) : Prop :=
  res = .returned (.int .i64 (x.z.st : Nat)) ∧ ∃ E', RM S tell r s0 x.z (ts ++ x.ts) E' w' ∧ Ev E w E' w'
theorem RM.drewN {S : World → (Nat → Prop) → List Tok → Prop} {f : Value} {V : List Tok → Tok → Prop} (hS : Sink f S V) {tell : Value} {r s0 : Nat} {z : Sn} {ts : List Tok} {E : Nat → Prop} {w : World} (h : RM S tell r s0 z ts E w) (n : Nat) : RM S tell r s0 z ts E (w.drewN n) := by
  obtain ⟨ov, bp, bv, D, h1, h2, h3⟩ := h.ex
  exact ⟨ov, bp, bv, D, ⟨h1.b, own_at' h1.o (fun _ _ => rfl), own_at' h1.t (fun _ _ => rfl), h1.p, h1.e⟩, hS.keep h2 (fun _ _ => rfl) (Nat.le_refl _), h3⟩
theorem Ev.drewN {E E' : Nat → Prop} {a w : World} (h : Ev E a E' w) (n : Nat) : Ev E a E' (w.drewN n) := ⟨h.s, h.f.drewN n⟩
theorem RM.set {S : World → (Nat → Prop) → List Tok → Prop} {f : Value} {V : List Tok → Tok → Prop} (hS : Sink f S V) {tell : Value} {r s0 s1 : Nat} {z z' : Sn} {ts : List Tok} {E : Nat → Prop} {w w' : World} {ov bp bv : Value} {D : Nat → Prop} (h1 : RS w r s0 z tell ov bp bv) (h2 : S w D ts) (h3 : ∀ k, D k → k ≠ r ∧ ov.ownBlock ≠ some k ∧ bv.ownBlock ≠ some k) (h4 : ∀ k, E k ↔ k = r ∨ ov.ownBlock = some k ∨ bv.ownBlock = some k ∨ D k)
    (hb : Blk w' r (rcl s1 z' ov bp bv tell) 115) (f0 : Fr (fun k => k = r) w w') (hop : z'.op = z.op) (htx : tkx z'.tk.k z'.tx = tkx z.tk.k z.tx) : RM S tell r s1 z' ts E w' ∧ Ev E w E w' := by
  refine ⟨⟨ov, bp, bv, D, ⟨hb, ?_, ?_, h1.p, ?_⟩, hS.keep h2 (fun k hk => f0.block k (hS.lt h2 hk) (h3 k hk).1) f0.size, h3, h4⟩, ⟨fun _ => Or.inl, f0.mono (fun k _ e => (h4 k).2 (Or.inl e))⟩⟩
  · rw [hop]; exact own_fr h1.o f0 (fun k hk e => by omega)
  · rw [htx]; exact own_fr h1.t f0 (fun k hk e => by omega)
  rw [htx]; exact h1.e
theorem RM.tell {S : World → (Nat → Prop) → List Tok → Prop} {f : Value} {V : List Tok → Tok → Prop} (hS : Sink f S V) : ∃ N first cap, f = .func (.func N) first cap ∧ (∀ args w, (callFunc N args).run Tryz.prog w = .ok (.enter N args) w) ∧
    ∀ {r s0 : Nat} {z : Sn} {ts : List Tok} {E : Nat → Prop} {w : World} (t : Tok), RM S f r s0 z ts E w → V ts t → Calls Tryz.prog N (first.push (tagg t) ++ cap) w fun res w' => res = .returned (.tuple #[]) ∧ ∃ E', RM S f r s0 z (ts ++ [t]) E' w' ∧ Ev E w E' w' := by
  obtain ⟨N, first, cap, hf, hE, hc⟩ := hS.call
  refine ⟨N, first, cap, hf, hE, fun {r s0 z ts E w} t h hV => ?_⟩
  obtain ⟨ov, bp, bv, D, h1, h2, h3, h4⟩ := h.ex
  refine (hc w D ts t h2 hV).mono ?_
  rintro res w' ⟨rfl, D', g1, g2, g3⟩
  have kb : ∀ k, k < w.heap.size → ¬ D k → w'.heap[k]? = w.heap[k]? := fun k hk hn => g3.block k hk hn
  have nr : ¬ D r := fun x => (h3 r x).1 rfl
  refine ⟨rfl, fun k => k = r ∨ ov.ownBlock = some k ∨ bv.ownBlock = some k ∨ D' k, ⟨ov, bp, bv, D', ⟨(kb r h1.b.lt nr).trans h1.b, own_at' h1.o (fun k hk => kb k (h1.o.lt k hk).2 (fun x => (h3 k x).2.1 hk)), own_at' h1.t (fun k hk => kb k (h1.t.lt k hk).2 (fun x => (h3 k x).2.2 hk)), h1.p, h1.e⟩, g1, fun k hk => ?_, fun _ => Iff.rfl⟩, ⟨fun k hk => ?_, g3.mono (fun k _ x => (h4 k).2 (Or.inr (Or.inr (Or.inr x))))⟩⟩
  · rcases g2 k hk with x | x
    · exact h3 k x
    refine ⟨fun e => by have := h1.b.lt; omega, fun e => by have := (h1.o.lt k e).2; omega, fun e => by have := (h1.t.lt k e).2; omega⟩
  rcases hk with x | x | x | x
  · exact Or.inl ((h4 k).2 (Or.inl x))
  · exact Or.inl ((h4 k).2 (Or.inr (Or.inl x)))
  · exact Or.inl ((h4 k).2 (Or.inr (Or.inr (Or.inl x))))
  rcases g2 k x with y | y
  · exact Or.inl ((h4 k).2 (Or.inr (Or.inr (Or.inr y))))
  exact Or.inr y
end Go.Proofs.YtcbadebjpogmlaaGreatDoor
