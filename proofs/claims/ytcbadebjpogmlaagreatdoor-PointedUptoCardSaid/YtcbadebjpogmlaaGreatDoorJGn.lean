import Derived.Test.YtcbadebjpogmlaaGreatDoorJSr
import Derived.Deep.WholeRow
import Derived.Test.YtcbadebjpogmlaaGreatDoorJAf
import Derived.Test.YtcbadebjpogmlaaGreatDoorJTt
import Derived.Test.YtcbadebjpogmlaaGreatDoorJSp
import Derived.Test.YtcbadebjpogmlaaGreatDoorJCt
import Derived.Test.YtcbadebjpogmlaaGreatDoorCards
import Derived.WalkKit
import Derived.ProofKit
import Derived.OpenShut
import Derived.Lib.LaidTab
import Derived.Stop.LaidErr
import Derived.Shaped
import Derived.ChangeStays
import Derived.Deep.Onto
import Derived.ChangeMaps5
namespace Go.Proofs.YtcbadebjpogmlaaGreatDoor
open Go.RowKit Tr
def TrP (s : ByteArray) (w : World) (r : Ending) (w' : World) : Prop :=
  Keeps w w' ∧ ((txErr (bs s) ≠ 0 ∧ r = .returned (.tuple #[.pointer none, .int .i64 (txErr (bs s) : Nat), .int .i64 (txAt (bs s) : Nat)])) ∨
    (txErr (bs s) = 0 ∧ ∃ A D t ix, txVal (bs s) = some t ∧ r = .returned (.tuple #[pvp A t, .int .i64 0, .int .i64 0]) ∧ ix ≤ 4000000 ∧ PT w' A D 10 (.pointer none) ix t ∧ FB 4000001 10 t ∧ t.d.path = [36] ∧ ∀ k, D k → k < w'.heap.size))
theorem end_ok {l : List UInt8} (hl : l.length ≤ 4000000) (he : (sRun sInit l).e = 0) : OkL (shRun ⟨[], 0⟩ (sRun sInit l).ts) (sEnd (sRun sInit l).z) := by
  have R := run_ok' l sInit_ok.1 sInit_ok.2 (by simp [sInit]) (by simp [sInit]; omega)
  obtain ⟨r1, r2, r3, r4⟩ := R.ok he
  have hat : (sRun sInit l).z.at' = l.length := by simpa [sInit] using r3
  unfold sEnd
  split
  · rename_i h9; exact OkL.one (tokNum r1 r4 (Or.inr h9) (by omega))
  trivial
theorem tS_init {w : World} {gb lb : Nat} (hne : gb ≠ lb) (h1 : Blk w lb #[.pointer none] 71) (h2 : Blk w gb #[rfb, rfc lb, .pointer none, .string ⟨#[]⟩, .int .i64 0] 119) : tS gb lb w (fun k => k = lb ∨ k = gb) [] := by
  refine ⟨trivial, none, fun _ => 0, fun _ => False, fun _ => False, fun k => k = lb, ⟨⟨fun _ => Iff.rfl, h1⟩, h2, fun _ x => x, gInit_ok, trivial, fun _ x => x.elim, fun k hk => ⟨id, id, fun e => hne (e.symm.trans hk)⟩, ⟨id, id⟩, fun _ t ht => by cases ht⟩, trivial, rfl, fun v hv => (by cases hv), fun k => ?_⟩
  constructor
  · rintro (e | e)
    · exact Or.inl e
    exact Or.inr (Or.inr (Or.inr e))
  rintro (e | e | e | e)
  · exact Or.inl e
  · exact e.elim
  · exact e.elim
  exact Or.inr e
set_option maxHeartbeats 4000000 in
set_option maxRecDepth 100000 in
theorem p_read {w : World} (s : ByteArray) (hs : s.size ≤ 4000000) : Calls Tryz.prog 34 #[.string s] w (TrP s w) := by
  have hlen : (bs s).length = s.size := bs_len s
  obtain ⟨rb, hrb⟩ : ∃ rb, rb = w.heap.size := ⟨_, rfl⟩
  obtain ⟨W3, hW3⟩ : ∃ W3, W3 = ((w.alloc (.cells #[.int .i64 0, .int .i64 0, .slice none 0 0, .int .i64 0, .int .i64 0, .int .i64 0, .int .i64 0, .int .i64 0, .string ⟨#[]⟩, .pointer none, .slice none 0 0, .string ⟨#[]⟩, .int .i64 0, .int .i64 0, .nilFunc] 115)).alloc (.cells #[.pointer none] 71)).alloc (.cells #[.func (.func 50) #[] #[], .func (.func 51) #[] #[.pointer (some ⟨rb + 1, 0, none⟩)], .pointer none, .string ⟨#[]⟩, .int .i64 0] 119) := ⟨_, rfl⟩
  have K3 : Keeps w W3 := by rw [hW3]; exact (((Fr.refl _ w).alloc _).alloc _).alloc _
  have BR : Blk W3 rb (rcl 0 sInit (.slice none 0 0) (.pointer none) (.slice none 0 0) .nilFunc) 115 := by
    rw [hW3, hrb]
    exact (Blk.alloc (Blk.alloc (Blk.new w _ _) _) _)
  have BL : Blk W3 (rb + 1) #[.pointer none] 71 := by
    rw [hW3, hrb]
    have := Blk.alloc (Blk.new (w.alloc (.cells #[.int .i64 0, .int .i64 0, .slice none 0 0, .int .i64 0, .int .i64 0, .int .i64 0, .int .i64 0, .int .i64 0, .string ⟨#[]⟩, .pointer none, .slice none 0 0, .string ⟨#[]⟩, .int .i64 0, .int .i64 0, .nilFunc] 115)) #[.pointer none] 71) (.cells #[.func (.func 50) #[] #[], .func (.func 51) #[] #[.pointer (some ⟨w.heap.size + 1, 0, none⟩)], .pointer none, .string ⟨#[]⟩, .int .i64 0] 119)
    simpa using this
  have BG : Blk W3 (rb + 1 + 1) #[rfb, rfc (rb + 1), .pointer none, .string ⟨#[]⟩, .int .i64 0] 119 := by
    rw [hW3, hrb]
    have := Blk.new ((w.alloc (.cells #[.int .i64 0, .int .i64 0, .slice none 0 0, .int .i64 0, .int .i64 0, .int .i64 0, .int .i64 0, .int .i64 0, .string ⟨#[]⟩, .pointer none, .slice none 0 0, .string ⟨#[]⟩, .int .i64 0, .int .i64 0, .nilFunc] 115)).alloc (.cells #[.pointer none] 71)) #[rfb, rfc (w.heap.size + 1), .pointer none, .string ⟨#[]⟩, .int .i64 0] 119
    simp only [World.size_alloc] at this
    exact this
  have S0 : tS (rb + 1 + 1) (rb + 1) W3 (fun k => k = rb + 1 ∨ k = rb + 1 + 1) [] := tS_init (by omega) BL BG
  have M0 : RM (tS (rb + 1 + 1) (rb + 1)) .nilFunc rb sInit.st sInit [] (fun k => k = rb ∨ k = rb + 1 ∨ k = rb + 1 + 1) W3 :=
    ⟨.slice none 0 0, .pointer none, .slice none 0 0, _, ⟨BR, World.ownsRow_nil _ _ _ _, World.ownsRow_nil _ _ _ _, Or.inl rfl, fun _ => rfl⟩, S0, fun k hk => ⟨by omega, (fun e => by cases e), (fun e => by cases e)⟩, fun k => ⟨fun h => by
      rcases h with e | e | e
      · exact Or.inl e
      · exact Or.inr (Or.inr (Or.inr (Or.inl e)))
      · exact Or.inr (Or.inr (Or.inr (Or.inr e))), fun h => by
      rcases h with e | e | e | e | e
      · exact Or.inl e
      · cases e
      · cases e
      · exact Or.inr (Or.inl e)
      exact Or.inr (Or.inr e)⟩⟩
  have R := run_ok' (bs s) sInit_ok.1 sInit_ok.2 (by simp [sInit]) (by simp [sInit]; omega)
  have CR := hide (t_Read (t_sink (rb + 1 + 1) (rb + 1)) M0 sInit_ok.1 sInit_ok.2 (by simp [sInit]) s (by simp [sInit]; omega) (by simp [sInit]; omega) (tV_ok (a := []) R.tok))
  have EK : Hid (∀ E' w', Ev (fun k => k = rb ∨ k = rb + 1 ∨ k = rb + 1 + 1) W3 E' w' → Keeps w w') := fun E' w' h => ⟨h.f.os.trans K3.os, h.f.tape.trans K3.tape, h.f.output.trans K3.output, Nat.le_trans K3.size h.f.size, fun k hk _ => (h.f.block k (Nat.lt_of_lt_of_le hk K3.size) (fun e => by omega)).trans (K3.block k hk id)⟩
  have HR := hide R
  have HW3 := hide hW3
  have HRB := hide hrb
  clear S0 M0 BR BL BG K3 R hW3 hrb
  go_enter Tryz.func34, Tryz.ntmps34
  go_wp2_with fail
  rw [← HRB.out, ← HW3.out]
  refine CR.out.mono ?_
  rintro res w1 ⟨rfl, E1, hM1, hE1⟩
  have MM1 := hide hM1
  have EV1 := hide hE1
  clear hM1 hE1 CR
  by_cases he : (sRun sInit (bs s)).e = 0
  · have hat : (sRun sInit (bs s)).z.at' = (bs s).length := by
      obtain ⟨_, _, r3, _⟩ := HR.out.ok he
      simpa [sInit] using r3
    have CE := hide (t_End (t_sink (rb + 1 + 1) (rb + 1)) MM1.out (HR.out.ok he).1 (fun _ => tV_ok (a := [] ++ (sRun sInit (bs s)).ts) (by simpa using end_ok (by omega) he)))
    have HE0 := hide he
    have HAT := hide hat
    rw [he]
    clear he hat
    go_wp2_with fail
    refine CE.out.mono ?_
    rintro res w2 ⟨rfl, E2, hM2, hE2⟩
    have KW := hide (EK.out _ _ (EV1.out.trans hE2))
    clear hE2
    by_cases hw : sWhole (sRun sInit (bs s)).z = true
    · have h0 : txErr (bs s) = 0 := by unfold txErr; rw [if_neg (by simp [HE0.out]), if_pos hw]
      obtain ⟨t1, t2, t, t3⟩ := tx_ok (by omega) h0
      have hts : [] ++ (sRun sInit (bs s)).ts ++ (if sWhole (sRun sInit (bs s)).z = true then sEnd (sRun sInit (bs s)).z else []) = txTs (bs s) := by rw [if_pos hw]; rfl
      rw [hts] at hM2
      obtain ⟨_, _, _, D2, _, hS2, _, _⟩ := hM2.ex
      obtain ⟨_, x, A, C, M, D0, q1, q2, q3, q4, q5⟩ := hS2
      have hl : (gRun gInit (txTs (bs s))).last = some t := t3
      obtain ⟨⟨ix, hix, hpt⟩, hfb, hpa⟩ := q1.l t2 t hl
      rw [hl] at q3
      have hx : .pointer x = pvp A t := q3
      have c0 : w2.cell? ⟨rb + 1, 0, none⟩ = some (.pointer x) := q1.s.2.cell 0
      have RES : Hid (TrP s w (.returned (.tuple #[.pointer x, .int .i64 0, .int .i64 0])) w2) := by
        refine ⟨KW.out, Or.inr ⟨h0, A, C, t, ix, t3, by rw [hx], hix, hpt, hfb.up (by have := q1.ok.bd; omega), hpa, q1.c⟩⟩
      rw [if_pos hw, if_pos hw]
      clear hw h0 t1 t2 t3 hts hM2 q1 q2 q3 q4 q5 hl hpt hfb hpa hx
      go_wp2
      go_ret3
      exact RES.out
    have RES : Hid (TrP s w (.returned (.tuple #[.pointer none, .int .i64 2, .int .i64 ((sRun sInit (bs s)).z.at' : Nat)])) w2) := by
      have e1 : txErr (bs s) = 2 := by unfold txErr; rw [if_neg (by simp [HE0.out]), if_neg hw]
      have e2 : txAt (bs s) = (sRun sInit (bs s)).z.at' := by unfold txAt; rw [if_neg (by simp [HE0.out]), if_neg hw, HAT.out]
      exact ⟨KW.out, Or.inl ⟨by omega, by rw [e1, e2]; rfl⟩⟩
    rw [if_neg hw, if_neg hw]
    clear hw hM2
    generalize (sRun sInit (bs s)).z.at' = av at *
    go_wp2
    go_ret3
    exact RES.out
  have RES : Hid (TrP s w (.returned (.tuple #[.pointer none, .int .i64 ((sRun sInit (bs s)).e : Nat), .int .i64 ((sRun sInit (bs s)).z.at' : Nat)])) w1) := by
    have e1 : txErr (bs s) = (sRun sInit (bs s)).e := by unfold txErr; rw [if_pos he]
    have e2 : txAt (bs s) = (sRun sInit (bs s)).z.at' := by unfold txAt; rw [if_pos he]
    exact ⟨EK.out _ _ EV1.out, Or.inl ⟨by rw [e1]; exact he, by rw [e1, e2]⟩⟩
  have hd : (((sRun sInit (bs s)).e : Int) != 0) = true := by rw [bne_iff_ne]; omega
  rw [if_neg he]
  clear he
  generalize (sRun sInit (bs s)).e = ev at *
  generalize (sRun sInit (bs s)).z.at' = av at *
  go_wp2
  go_ret3
  exact RES.out
end Go.Proofs.YtcbadebjpogmlaaGreatDoor
namespace Go.Proofs.YtcbadebjpogmlaaGreatDoor
open Go.RowKit Tr
def ndCells (v : Tv) : List Value := [.string (bsb v.d.path), .int .i64 (v.d.frm : Nat), .int .i64 (v.d.to : Nat)]
theorem infoNode : (Tryz.prog.info? 42).map (fun i => (i.zero, i.size, i.bytes)) = some (some (.agg #[.string ⟨#[]⟩, .int .i64 0, .int .i64 0]), 3, 32) := by kernel_rfl
def SelP (s : ByteArray) (xs : List Sg) (w : World) (r : Ending) (w' : World) : Prop :=
  Keeps w w' ∧ ((txErr (bs s) ≠ 0 ∧ r = .returned (.tuple #[.slice none 0 0, .int .i64 (txErr (bs s) : Nat), .int .i64 (txAt (bs s) : Nat)])) ∨
    (txErr (bs s) = 0 ∧ ∃ t sv, txVal (bs s) = some t ∧ r = .returned (.tuple #[sv, .int .i64 0, .int .i64 0]) ∧ w'.ownsRow w.heap.size 42 3 sv (nodesS xs [t]).length ((nodesS xs [t]).flatMap ndCells)))
theorem nd_take {N : List Tv} {k : Nat} (h : k < N.length) : (N.take (k + 1)).flatMap ndCells = (N.take k).flatMap ndCells ++ ndCells N[k] := by
  rw [List.take_succ_eq_append_getElem h, List.flatMap_append]; simp
set_option maxHeartbeats 4000000 in
set_option maxRecDepth 100000 in
theorem p_select {w : World} {gq b : Nat} {tt : ByteArray} {xs : List Sg} (hq : Blk w gq #[.pointer (some ⟨b, 0, none⟩)] 77) (hp : ∀ w', Keeps w w' → PlanV w' b tt xs) (he : EN w) (hx : ∀ g ∈ xs, 0 < g.l.length) (hsel : selN xs ≤ 10) (s : ByteArray) (hs : s.size ≤ 1100000) :
    Calls Tryz.prog 18 #[.pointer (some ⟨gq, 0, none⟩), .string s] w (SelP s xs w) := by
  obtain ⟨i0, hi, hz0, hz1, hz2⟩ := info_parts infoNode
  have HI := hide hi
  have HZ0 := hide hz0
  have HZ1 := hide hz1
  have HZ2 := hide hz2
  have HE := hide he
  have HP := hide hp
  have HQ := hide hq
  have HX := hide hx
  clear hi hz0 hz1 hz2 he hp hq hx
  go_enter Tryz.func18, Tryz.ntmps18
  go_wp2_with fail
  refine (p_read s (by omega)).mono ?_
  rintro r w1 ⟨hk1, hr⟩
  have K1 := hide hk1
  clear hk1
  rcases hr with ⟨hne, rfl⟩ | ⟨h0, A, D, t, ix, htx, rfl, hix, hpt, hfb, hpa, hD⟩
  · have hd : ((txErr (bs s) : Int) != 0) = true := by rw [bne_iff_ne]; omega
    have HN := hide hne
    clear hne
    go_wp2
    go_ret3
    exact ⟨K1.out, Or.inl ⟨HN.out, rfl⟩⟩
  have hl : (bs s).length ≤ 4000000 := by rw [bs_len]; omega
  obtain ⟨hT, _⟩ := tx_tree hl h0 htx
  obtain ⟨hfr, hnm⟩ := tx_tree2 hl h0 htx
  have hN : ∀ k, k ≤ xs.length → (nodesS (xs.take k) [t]).length ≤ 900000000000 := fun k hk => by
    have a := nodes_len hT hfr xs HX.out hsel hk
    have b : (bs s).length * 524288 ≤ 1100000 * 524288 := Nat.mul_le_mul_right _ (by rw [bs_len]; exact hs)
    omega
  have hroot : PH w1 1 (A t.d.frm) t.d.path := by
    obtain ⟨_, _, _, ⟨sv, q1, _, _⟩, _⟩ := hpt
    exact ⟨_, _, ix, sv, q1, hix, (hnm t (List.mem_cons_self)).1, Or.inl ⟨rfl, hpa⟩⟩
  have hall := ph_all hpt hfb hnm hix hroot (by omega)
  have NODE : Hid (∀ v ∈ allT 10 t, ∀ W, Keeps w1 W → Calls Tryz.prog 36 #[.pointer (some ⟨A v.d.frm, 0, none⟩)] W fun r w' => r = .returned (nagg v.d.path v.d.frm v.d.to) ∧ Keeps W w') := fun v hv W hW => by
    obtain ⟨d', par', ix', sv', q1, q2, q3⟩ := hall v hv
    exact p_node q1 ((HE.out.keep K1.out).keep hW) (q2.keep hW) (q3.fr hW id)
  have hsub : ∀ v ∈ nodesS xs [t], v ∈ allT 10 t := nodes_sub hT xs [t] (fun u hu => by rw [List.mem_singleton.1 hu]; exact self_mem hT.d)
  have hNl : (nodesS xs [t]).length ≤ 900000000000 := by have := hN xs.length (Nat.le_refl _); rwa [List.take_length] at this
  have CN := hide (p_nodes (HP.out w1 K1.out) hpt hD hT hN)
  have q0 : w1.cell? ⟨gq, 0, none⟩ = some (.pointer (some ⟨b, 0, none⟩)) := (HQ.out.fr K1.out id).cell 0
  have H0 := hide h0
  have HTX := hide htx
  have HSUB := hide hsub
  clear hl hT hfr hnm hN hroot hall hpt hfb hpa hD h0 htx hix hsub HE HP HQ
  generalize hNN : nodesS xs [t] = N at *
  unfold pvp at CN
  go_wp2_with fail
  refine CN.out.mono ?_
  rintro r w2 ⟨sv2, rfl, hk2, ho2⟩
  obtain ⟨a2, c2, hsv2⟩ := own_slice ho2
  subst hsv2
  have K2 := hide hk2
  have O2 := hide ho2
  clear hk2 ho2 CN
  go_wp2
  go_loopw [10, 30] (fun sv i wr => ∃ k : Nat, k ≤ N.length ∧ i = .int .i64 k ∧ Keeps w2 wr ∧ wr.ownsRow w2.heap.size 42 3 sv k ((N.take k).flatMap ndCells)) (fun _ i _ => N.length - (intOf i).toNat)
  case atStart => exact ⟨0, Nat.zero_le _, rfl, Fr.refl _ _, World.ownsRow_nil _ _ _ _⟩
  case round =>
    obtain ⟨k, hk, rfl, hK, hO⟩ := hrel
    obtain ⟨a5, c5, hsv5⟩ := own_slice hO
    subst hsv5
    have KK := hide hK
    have OO := hide hO
    clear hK hO
    by_cases hlt : k < N.length
    · obtain ⟨g2, cap2, hv2, _, hg2⟩ := O2.out.form (by omega)
      simp only [Value.slice.injEq, true_and] at hv2
      obtain ⟨rfl, rfl⟩ := hv2
      have ce : wr.cell? ⟨g2, k, none⟩ = some (.pointer (some ⟨A (N[k]).d.frm, 0, none⟩)) := by
        rw [KK.out.cell (p := ⟨g2, k, none⟩) hg2 id, O2.out.cellAt k (by omega)]
        simp [hlt]
      have ND := hide (NODE.out N[k] (HSUB.out _ (List.getElem_mem hlt)) wr (K2.out.trans KK.out))
      have hnd : ndCells N[k] = [.string (bsb (N[k]).d.path), .int .i64 ((N[k]).d.frm : Nat), .int .i64 ((N[k]).d.to : Nat)] := rfl
      have HND := hide hnd
      have NT := hide (nd_take hlt)
      clear hnd
      generalize N[k] = v at *
      unfold nagg at ND
      go_wp2_with fail
      refine ND.out.mono ?_
      rintro r w3 ⟨rfl, hk3⟩
      have K3 := hide (KK.out.trans hk3)
      have hown3 : w3.ownsRow w2.heap.size 42 3 (.slice a5 k c5) k ((N.take k).flatMap ndCells) := own_at' OO.out (fun i hi => hk3.block i (OO.out.lt i hi).2 id)
      have hs3 : w2.heap.size ≤ w3.heap.size := K3.out.size
      clear hk3 KK ND
      generalize bsb v.d.path = PB at *
      go_wp2_with (at_builtin; refine wpList_append_own_at _ rfl _ _ 29 rfl w2.heap.size 42 i0 _ 3 32 Tryz.underlying29 HI.out HZ0.out HZ1.out HZ2.out rfl (by decide) _ _ _ rfl (hown3.alloc _) ⟨w3.heap.size, 0, none⟩ 1 1 [.string PB, .int .i64 (v.d.frm : Nat), .int .i64 (v.d.to : Nat)] rfl rfl ?c1 ?c2 ?c3 ?c4 ?c5 ?_)
      case c1 =>
        intro j u hj
        match j, hj with
        | 0, hj => simp at hj; subst hj; simp [Addr.add]
        | 1, hj => simp at hj; subst hj; simp [Addr.add]
        | 2, hj => simp at hj; subst hj; simp [Addr.add]
      case c2 => intro u hu; simp at hu; rcases hu with rfl | rfl | rfl <;> rfl
      case c3 => unfold maxLen; omega
      case c4 => omega
      case c5 => simp; omega
      intro v' w5 hown5 hgrow _ hvb
      obtain ⟨a6, c6, hv6⟩ := own_slice hown5
      subst hv6
      have REL : Hid (Keeps w2 w5 ∧ w5.ownsRow w2.heap.size 42 3 (.slice a6 (k + 1) c6) (k + 1) ((N.take (k + 1)).flatMap ndCells)) := by
        refine ⟨?_, by rw [NT.out, HND.out]; exact hown5⟩
        have k4 : Keeps w2 (w3.alloc (.cells #[.string PB, .int .i64 (v.d.frm : Nat), .int .i64 (v.d.to : Nat)] 42)) := K3.out.alloc _
        exact ⟨hgrow.os.trans k4.os, hgrow.tape.trans k4.tape, hgrow.output.trans k4.output, Nat.le_trans k4.size hgrow.size, fun i hi _ => by
          rw [hgrow.block i (Nat.lt_of_lt_of_le hi k4.size) (fun e => by have := (hown3.lt i e.symm).1; omega)]; exact k4.block i hi id⟩
      clear hown5 hgrow hvb hown3
      go_wp2
      go_roundw
      case rel => exact ⟨k + 1, by omega, by go_num, REL.out.1, REL.out.2⟩
      case measure => simp [intOf]; omega
    have hke : k = N.length := by omega
    subst hke
    have RES : Hid (SelP s xs w (.returned (.tuple #[.slice a5 N.length c5, .int .i64 0, .int .i64 0])) wr) := by
      refine ⟨(K1.out.trans K2.out).trans KK.out, Or.inr ⟨H0.out, t, _, HTX.out, rfl, ?_⟩⟩
      rw [hNN]
      have := OO.out
      rw [List.take_length] at this
      exact own_base this (Nat.le_trans K1.out.size K2.out.size)
    go_wp2
    go_ret3
    exact RES.out
end Go.Proofs.YtcbadebjpogmlaaGreatDoor
namespace Tr
theorem bt_take {s : List UInt8} {n i : Nat} (h : i < n) : bt (s.take n) i = bt s i := by simp [bt, h]
theorem M_take {s : List UInt8} {n : Nat} : ∀ {i : Nat}, i ≤ n → M (s.take n) i = M s i
  | 0, _ => rfl
  | i + 1, h => by rw [M, M, M_take (by omega), bt_take (by omega)]
theorem M_stays {s : List UInt8} {i : Nat} (h : (M s i).st ≤ 1) : ∀ {k : Nat}, i ≤ k → (M s k).st ≤ 1
  | 0, hk => by have : i = 0 := by omega
                subst this; exact h
  | k + 1, hk => by
    by_cases e : i = k + 1
    · subst e; exact h
    have := M_stays h (k := k) (by omega)
    rw [M]; unfold nx; rw [if_pos this]; exact this
theorem Err.uniq {s : List UInt8} {e e' p p' : Nat} (h : Err s e p) (h' : Err s e' p') : e = e' ∧ p = p' := by
  have a : ∀ {e e' p p' : Nat}, Err s e p → Err s e' p' → p < p' → False := fun {e e' p p'} h h' hp => by
    have h1 : (M s (p + 1)).st ≤ 1 := by have := h.st; have := h.e3; omega
    have := M_stays h1 (k := p') (by omega)
    have := h'.lv
    omega
  have hp : p = p' := by
    rcases Nat.lt_trichotomy p p' with x | x | x
    · exact (a h h' x).elim
    · exact x
    exact (a h' h x).elim
  subst hp
  exact ⟨h.st.symm.trans h'.st, rfl⟩
theorem Err.notFin {s : List UInt8} {e p : Nat} (h : Err s e p) (hf : FinP s) : False := by
  have h1 : (M s (p + 1)).st ≤ 1 := by have := h.st; have := h.e3; omega
  have := M_stays h1 (k := s.length + 1) (by have := h.le; omega)
  unfold FinP at hf
  omega
theorem Err.pre {s : List UInt8} {e p : Nat} (h : Err s e p) : FinP (s.take p) ∨ Err (s.take p) 2 p := by
  have hl : (s.take p).length = p := by simp [h.le]
  have hm : M (s.take p) p = M s p := M_take (Nat.le_refl _)
  have hb : bt (s.take p) p = 256 := bt_end (by omega)
  have e1 : M (s.take p) (p + 1) = nx (M s p) 256 := by rw [M, hm, hb]
  have lv := h.lv
  rw [nx256 _ (by omega)] at e1
  by_cases x : mayEnd (M s p) = true
  · left; unfold FinP; rw [hl, e1, if_pos x]
  right; exact ⟨by rw [hm]; exact lv, by rw [e1, if_neg x], by omega, by omega⟩
theorem Err.pre1 {s : List UInt8} {e p : Nat} (h : Err s e p) (hp : p < s.length) : Err (s.take (p + 1)) e p :=
  ⟨by rw [M_take (by omega)]; exact h.lv, by rw [M_take (Nat.le_refl _)]; exact h.st, by simp; omega, h.e3⟩
theorem sRun_pre : ∀ (l : List UInt8) {z : Sn} {s : Sh}, SOk z → Lk z s → z.st ≤ 10 → z.at' + l.length ≤ 4000000 → (sRun z l).e ≠ 0 →
    (sRun z (l.take ((sRun z l).z.at' - z.at'))).e = 0 ∧ sRun z (l.take ((sRun z l).z.at' - z.at' + 1)) = sRun z l
  | [], z, s, _, _, _, _, h => absurd rfl h
  | b :: l, z, s, h1, h2, h3, h4, h => by
    have hl : z.at' + (l.length + 1) ≤ 4000000 := by simpa using h4
    have S := stp_next h1 h2 h3 (by omega) b.toNat
    have hat := S.at'
    rw [sRun] at h
    by_cases c12 : (sNext z b.toNat).z.st = 12
    · rw [sRun, if_pos c12]
      simp only [hat, Nat.sub_self, List.take_zero, Nat.zero_add, List.take_succ_cons]
      exact ⟨rfl, by rw [sRun, if_pos c12]⟩
    rw [if_neg c12] at h
    by_cases c11 : (sNext z b.toNat).z.st = 11
    · rw [sRun, if_neg c12, if_pos c11]
      simp only [hat, Nat.sub_self, List.take_zero, Nat.zero_add, List.take_succ_cons]
      exact ⟨rfl, by rw [sRun, if_neg c12, if_pos c11]⟩
    rw [if_neg c11] at h
    have c10 : (sNext z b.toNat).z.st ≤ 10 := by have := S.st; omega
    have o1 := S.ok c10
    obtain ⟨z2, e2⟩ : ∃ z2 : Sn, z2 = { (sNext z b.toNat).z with at' := (sNext z b.toNat).z.at' + 1 } := ⟨_, rfl⟩
    have O : SOk z2 := by rw [e2]; exact ⟨o1.op, o1.ne, o1.tk, o1.st, o1.w, o1.n, o1.m, o1.x⟩
    have L : Lk z2 (shRun s (sNext z b.toNat).ts) := by rw [e2]; exact S.lk c10
    have a2 : z2.at' = z.at' + 1 := by rw [e2, ← hat]
    have s2 : z2.st ≤ 10 := by rw [e2]; exact c10
    have hh : (sRun z2 l).e ≠ 0 := by rw [e2]; exact h
    have eR : ∀ l, sRun z (b :: l) = ⟨(sRun z2 l).z, (sRun z2 l).e, (sNext z b.toNat).ts ++ (sRun z2 l).ts⟩ := fun l => by rw [sRun, if_neg c12, if_neg c11, e2]
    have R := run_ok' l O L s2 (by omega)
    have I := sRun_pre l O L s2 (by omega) hh
    have ge := (R.at' hh).1
    rw [eR l]
    simp only
    have e1 : (sRun z2 l).z.at' - z.at' = (sRun z2 l).z.at' - z2.at' + 1 := by omega
    rw [e1, List.take_succ_cons, List.take_succ_cons, eR, eR]
    exact ⟨I.1, by rw [I.2]⟩
end Tr
namespace Tr
theorem bt_get {s : List UInt8} {i : Nat} (h : i < s.length) : bt s i = (s[i]).toNat := by simp [bt, h]
end Tr
namespace Go.Proofs.YtcbadebjpogmlaaGreatDoor
open Go.RowKit Tr Go.Conc
structure QH (w : World) (gq : Nat) (xs : List Sg) : Prop where
  ex : ∃ b tt Dp, Blk w gq #[fvp b] 77 ∧ OkD Dp w (fun w => PlanV w b tt xs) ∧ ∀ k, Dp k → k < w.heap.size
  pos : ∀ g ∈ xs, 0 < g.l.length
  sel : selN xs ≤ 10
theorem QH.len {w : World} {gq : Nat} {xs : List Sg} (h : QH w gq xs) : xs.length ≤ 10 := Nat.le_trans (len_sel xs h.pos) h.sel
theorem QH.keep {w w' : World} {gq : Nat} {xs : List Sg} (h : QH w gq xs) (k : Keeps w w') : QH w' gq xs := by
  obtain ⟨b, tt, Dp, h1, h2, h3⟩ := h.ex
  exact ⟨⟨b, tt, Dp, h1.fr k id, h2.keep (fun j hj => k.block j (h3 j hj) id), fun j hj => Nat.lt_of_lt_of_le (h3 j hj) k.size⟩, h.pos, h.sel⟩
theorem qh_of {w : World} {gq : Nat} {tt : ByteArray} {s : List UInt8} (h : QryV w gq tt (pQuery s)) (hs : selN (pQuery s) ≤ 10) : QH w gq (pQuery s) := by
  obtain ⟨b, D, h1, h2⟩ := h
  exact ⟨⟨b, tt, D, (h2.self).1, fun w' s => (h2 w' s).2, fun k hk => h1.lt hk⟩, query_len s, hs⟩
theorem m_right {w : World} {s : ByteArray} (he : EV w) (hs : s.size ≤ 120) (hf : FinP (bs s)) (hc : C (bs s) (s.size + 1) ≤ 10) : Calls Tryz.prog 26 #[.string s] w fun r w' => ∃ gq, r = .returned (.tuple #[.pointer (some ⟨gq, 0, none⟩), .int .i64 0, .int .i64 0]) ∧ QH w' gq (pQuery (bs s)) ∧ Keeps w w' := by
  refine (m_comp (by unfold maxLen; omega) he).mono ?_
  rintro r w' ⟨k, h | h | h | h⟩
  · omega
  · obtain ⟨_, e, p, h1, _⟩ := h
    exact (h1.notFin hf).elim
  · omega
  obtain ⟨_, _, _, gq, tt, rfl, h1, _, h3⟩ := h
  exact ⟨gq, rfl, qh_of h1 h3, k⟩
theorem q_select {w : World} {gq : Nat} {xs : List Sg} (h : QH w gq xs) (he : EN w) (s : ByteArray) (hs : s.size ≤ 1100000) : Calls Tryz.prog 18 #[.pointer (some ⟨gq, 0, none⟩), .string s] w (SelP s xs w) := by
  obtain ⟨b, tt, Dp, h1, h2, h3⟩ := h.ex
  exact p_select h1 (fun w' k => h2 w' (fun j hj => k.block j (h3 j hj) id)) he h.pos h.sel s hs
theorem q_fed0 {w : World} {gq : Nat} {xs : List Sg} (h : QH w gq xs) (he : EN w) (s : ByteArray) (hs : s.size ≤ 1100000) {lv : Value} (hi : IntsAt w lv) :
    Calls Tryz.prog 19 #[.pointer (some ⟨gq, 0, none⟩), .string s, lv, .bool false] w fun r w' => ∃ av, r = .returned (.tuple #[av, .int .i64 (stE (bs s) : Nat), .int .i64 (stAt (bs s) : Nat)]) ∧ w'.ownsRow 0 44 4 av (stT xs (bs s)).length ((stT xs (bs s)).flatMap tcl) ∧ (∀ k, av.ownBlock = some k → w.heap.size ≤ k) ∧ Keeps w w' := by
  obtain ⟨b, tt, Dp, h1, h2, h3⟩ := h.ex
  exact p_fed0 h1 h2 h3 he h.len h.sel h.pos s hs hi
end Go.Proofs.YtcbadebjpogmlaaGreatDoor
namespace Go.Proofs.YtcbadebjpogmlaaGreatDoor
open Go.RowKit Tr Go.Conc
def hq1 : ByteArray := ⟨#[36, 46, 46, 97]⟩
def hx1 : ByteArray := ⟨#[123, 34, 97, 34, 58, 91, 49, 44, 123, 34, 97, 34, 58, 50, 125, 93, 125]⟩
def hq2 : ByteArray := ⟨#[36, 91, 63, 64, 46, 120, 60, 61, 50, 38, 38, 33, 64, 46, 121, 93]⟩
def hx2 : ByteArray := ⟨#[91, 123, 34, 120, 34, 58, 50, 125, 44, 123, 34, 120, 34, 58, 49, 44, 34, 121, 34, 58, 48, 125, 44, 123, 34, 120, 34, 58, 51, 125, 93]⟩
def hq3 : ByteArray := ⟨#[36, 91, 42, 93, 91, 45, 49, 93]⟩
def hp1 : ByteArray := ⟨#[91, 91, 49, 44, 50, 93, 44, 91, 51]⟩
def hp2 : ByteArray := ⟨#[93, 93]⟩
set_option maxRecDepth 100000
theorem fin1 : FinP (bs hq1) ∧ C (bs hq1) (hq1.size + 1) ≤ 10 := by unfold FinP; decide +kernel
theorem fin2 : FinP (bs hq2) ∧ C (bs hq2) (hq2.size + 1) ≤ 10 := by unfold FinP; decide +kernel
theorem fin3 : FinP (bs hq3) ∧ C (bs hq3) (hq3.size + 1) ≤ 10 := by unfold FinP; decide +kernel
def ndP (v : Tv) : List UInt8 × Nat × Nat := (v.d.path, v.d.frm, v.d.to)
def ndC (p : List UInt8 × Nat × Nat) : List Value := [.string (bsb p.1), .int .i64 (p.2.1 : Nat), .int .i64 (p.2.2 : Nat)]
theorem nd_map (l : List Tv) : l.flatMap ndCells = (l.map ndP).flatMap ndC := by rw [List.flatMap_map]; rfl
theorem ok1 : txErr (bs hx1) = 0 ∧ (txVal (bs hx1)).map (fun t => (nodesS (pQuery (bs hq1)) [t]).map ndP) = some [([36, 91, 39, 97, 39, 93], 5, 16), ([36, 91, 39, 97, 39, 93, 91, 49, 93, 91, 39, 97, 39, 93], 13, 14)] := by decide +kernel
theorem ok2 : txErr (bs hx2) = 0 ∧ (txVal (bs hx2)).map (fun t => (nodesS (pQuery (bs hq2)) [t]).map ndP) = some [([36, 91, 48, 93], 1, 8)] := by decide +kernel
def tkP (p : Tv × Nat) : List UInt8 × Nat × Nat × Nat := (p.1.d.path, p.1.d.frm, p.1.d.to, p.2)
def tkC (p : List UInt8 × Nat × Nat × Nat) : List Value := mtCells p.1 p.2.1 p.2.2.1 p.2.2.2
theorem tk_map (l : List (Tv × Nat)) : l.flatMap tcl = (l.map tkP).flatMap tkC := by rw [List.flatMap_map]; rfl
theorem ok3 : stE (bs hp1) = 0 ∧ (stN (pQuery (bs hq3)) [] (bs hp1)).map tkP = [([36, 91, 48, 93, 91, 49, 93], 4, 5, 1)] ∧ stE (bs hp1 ++ bs hp2) = 0 ∧ (stN (pQuery (bs hq3)) (bs hp1) (bs hp2)).map tkP = [([36, 91, 49, 93, 91, 48, 93], 8, 9, 1)] := by decide +kernel
theorem stood : Tryz.prog.stoodInHeld 42 = false := by kernel_rfl
theorem sel_known {w w' : World} {s : ByteArray} {xs : List Sg} {r : Ending} (h : SelP s xs w r w') (h0 : txErr (bs s) = 0) {l : List (List UInt8 × Nat × Nat)} (h1 : (txVal (bs s)).map (fun t => (nodesS xs [t]).map ndP) = some l) (hl : 0 < l.length) : ∃ g cap, r = .returned (.tuple #[.slice (some ⟨g, 0, none⟩) l.length cap, .int .i64 0, .int .i64 0]) ∧ (∀ j, j < l.length * 3 → w'.cell? ⟨g, j, none⟩ = (l.flatMap ndC)[j]?) ∧ Keeps w w' := by
  obtain ⟨k, h | h⟩ := h
  · exact absurd h0 h.1
  obtain ⟨_, t, sv, ht, rfl, ho⟩ := h
  rw [ht] at h1
  have e : (nodesS xs [t]).map ndP = l := Option.some.inj h1
  have el : (nodesS xs [t]).length = l.length := by rw [← e, List.length_map]
  rw [nd_map, e, el] at ho
  obtain ⟨g, cap, rfl, _, _⟩ := ho.form hl
  exact ⟨g, cap, rfl, fun j hj => ho.cellAt j hj, k⟩
theorem told_known {w' : World} {sv : Value} {n : Nat} {tl : List (Tv × Nat)} (ho : w'.ownsRow 0 44 4 sv n (tl.flatMap tcl)) (hn : n = tl.length) {l : List (List UInt8 × Nat × Nat × Nat)} (h1 : tl.map tkP = l) (hl : 0 < l.length) : ∃ g cap, sv = .slice (some ⟨g, 0, none⟩) l.length cap ∧ ∀ j, j < l.length * 4 → w'.cell? ⟨g, j, none⟩ = (l.flatMap tkC)[j]? := by
  have el : n = l.length := by rw [hn, ← h1, List.length_map]
  subst el
  rw [tk_map, h1] at ho
  obtain ⟨g, cap, rfl, _, _⟩ := ho.form hl
  exact ⟨g, cap, rfl, fun j hj => ho.cellAt j hj⟩
set_option maxHeartbeats 8000000 in
theorem p_head {w : World} (he : EN w) : Calls Tryz.prog 25 #[] w fun r w' => r = .returned (.bool true) ∧ Keeps w w' := by
  have HE := hide he
  have hst := stood
  clear he
  go_enter Tryz.func25, Tryz.ntmps25
  go_wp2_with fail
  refine (m_right (s := hq1) HE.out.ev (by decide) fin1.1 fin1.2).mono ?_
  rintro r w1 ⟨gq, rfl, hQ, k1⟩
  have E1 := hide (HE.out.keep k1)
  have SEL := hide (q_select hQ E1.out hx1 (by decide))
  have K1 := hide k1
  clear hQ k1
  go_wp2_with fail
  refine SEL.out.mono ?_
  intro r w2 hs2
  obtain ⟨g2, cap2, rfl, c2, k2⟩ := sel_known hs2 ok1.1 ok1.2 (by decide)
  have d0 : w2.cell? ⟨g2, 0, none⟩ = some (.string ⟨#[36, 91, 39, 97, 39, 93]⟩) := c2 0 (by decide)
  have d1 : w2.cell? ⟨g2, 1, none⟩ = some (.int .i64 5) := c2 1 (by decide)
  have d2 : w2.cell? ⟨g2, 2, none⟩ = some (.int .i64 16) := c2 2 (by decide)
  have d3 : w2.cell? ⟨g2, 3, none⟩ = some (.string ⟨#[36, 91, 39, 97, 39, 93, 91, 49, 93, 91, 39, 97, 39, 93]⟩) := c2 3 (by decide)
  have d4 : w2.cell? ⟨g2, 4, none⟩ = some (.int .i64 13) := c2 4 (by decide)
  have d5 : w2.cell? ⟨g2, 5, none⟩ = some (.int .i64 14) := c2 5 (by decide)
  have E2 := hide (E1.out.keep k2)
  have K2 := hide (K1.out.trans k2)
  clear hs2 c2 k2 E1 K1 SEL
  go_wp2_with fail
  refine (m_right (s := hq2) E2.out.ev (by decide) fin2.1 fin2.2).mono ?_
  rintro r w3 ⟨gq3, rfl, hQ, k3⟩
  have E3 := hide (E2.out.keep k3)
  have SEL := hide (q_select hQ E3.out hx2 (by decide))
  have K3 := hide (K2.out.trans k3)
  clear hQ k3 d0 d1 d2 d3 d4 d5 E2 K2
  go_wp2_with fail
  refine SEL.out.mono ?_
  intro r w4 hs2
  obtain ⟨g4, cap4, rfl, c2, k4⟩ := sel_known hs2 ok2.1 ok2.2 (by decide)
  have d0 : w4.cell? ⟨g4, 0, none⟩ = some (.string ⟨#[36, 91, 48, 93]⟩) := c2 0 (by decide)
  have E4 := hide (E3.out.keep k4)
  have K4 := hide (K3.out.trans k4)
  clear hs2 c2 k4 E3 K3 SEL
  go_wp2_with fail
  refine (m_right (s := hq3) E4.out.ev (by decide) fin3.1 fin3.2).mono ?_
  rintro r w5 ⟨gq5, rfl, hQ, k5⟩
  have E5 := hide (E4.out.keep k5)
  have K5 := hide (K4.out.trans k5)
  have STR : Hid (Calls Tryz.prog 37 #[.pointer (some ⟨gq5, 0, none⟩)] w5 fun r w' => ∃ sb b tt Dp, r = .returned (.pointer (some ⟨sb, 0, none⟩)) ∧ FdI w5 sb b tt (pQuery (bs hq3)) Dp [] (.slice none 0 0) w') := by
    obtain ⟨b, tt, Dp, h1, h2, h3⟩ := hQ.ex
    refine (s_stream h1 h2 h3 E5.out).mono ?_
    rintro res w' ⟨sb, r, f, Er, E, rfl, h1, h2, h3, h4, h5, h6, h7, h8, h9⟩
    refine ⟨sb, b, tt, Dp, rfl, ⟨⟨_, st_new h1 h2 h3 h4 h5, fun k hk => ?_, ⟨rfl, Or.inl ⟨rfl, rfl⟩⟩, fun k hk => (by cases hk)⟩, h9⟩⟩
    rcases hk with y | y | y
    · exact Or.inr (h7 k y)
    · rcases h8 k y with u | u | u
      · exact Or.inl (Or.inl u)
      · exact Or.inl (Or.inr u)
      exact Or.inr u
    exact Or.inr (y ▸ h6)
  have HX := hide (And.intro hQ.len (And.intro hQ.sel hQ.pos))
  clear hQ k5 d0 E4 K4
  go_wp2_with fail
  refine STR.out.mono ?_
  rintro r w6 ⟨sb, b, tt, Dp, rfl, hF⟩
  have FD := hide (fd_feed HX.out.1 HX.out.2.1 HX.out.2.2 hF hp1 (by decide))
  clear hF STR
  go_wp2_with fail
  refine FD.out.mono ?_
  rintro r w7 ⟨sv, rfl, g1, g2, g3, Es, g4, g5, g6, g7⟩
  have eT : stT (pQuery (bs hq3)) ([] ++ bs hp1) = stN (pQuery (bs hq3)) [] (bs hp1) := by rw [stT_app]; rfl
  have F7 : FdI w5 sb b tt (pQuery (bs hq3)) Dp ([] ++ bs hp1) sv w7 := ⟨⟨Es, g4, g5, by rw [eT]; exact g1, fun k hk => ⟨(g6 k hk).2.2, (g6 k hk).1⟩⟩, g2⟩
  have FD2 := hide (fd_feed HX.out.1 HX.out.2.1 HX.out.2.2 F7 hp2 (by decide))
  have z1 : stE ([] ++ bs hp1) = 0 := ok3.1
  rw [z1]
  generalize hat1 : stAt ([] ++ bs hp1) = at1
  clear g1 g2 g3 g4 g5 g6 g7 F7 FD hat1
  go_wp2_with fail
  refine FD2.out.mono ?_
  rintro r w8 ⟨sv8, rfl, g1, g2, g3, Es8, g4, g5, g6, g7⟩
  rw [eT] at g3
  obtain ⟨ga, ca, rfl, da⟩ := told_known g3 rfl ok3.2.1 (by decide)
  obtain ⟨gb, cb, rfl, db⟩ := told_known g1 rfl ok3.2.2.2 (by decide)
  have z2 : stE ([] ++ bs hp1 ++ bs hp2) = 0 := ok3.2.2.1
  rw [z2]
  generalize hat2 : stAt ([] ++ bs hp1 ++ bs hp2) = at2
  have d0 : w8.cell? ⟨ga, 0, none⟩ = some (.string ⟨#[36, 91, 48, 93, 91, 49, 93]⟩) := da 0 (by decide)
  have d3 : w8.cell? ⟨ga, 3, none⟩ = some (.int .i64 1) := da 3 (by decide)
  have d4 : w8.cell? ⟨gb, 0, none⟩ = some (.string ⟨#[36, 91, 49, 93, 91, 48, 93]⟩) := db 0 (by decide)
  have KF := hide (K5.out.trans g2)
  clear g1 g2 g3 g4 g5 g6 g7 da db FD2 eT z1 z2 HX E5 K5 hat2
  go_wp2
  go_ret
  exact ⟨rfl, KF.out⟩
end Go.Proofs.YtcbadebjpogmlaaGreatDoor
namespace Go.Proofs.YtcbadebjpogmlaaGreatDoor
open Go.RowKit Tr Go.Conc
set_option maxRecDepth 100000 in
set_option maxHeartbeats 2000000 in
theorem p_compiled {w : World} (he : EN w) {s : ByteArray} (hs : s.size ≤ 120) (hf : FinP (bs s)) (hc : C (bs s) (s.size + 1) ≤ 10) : Calls Tryz.prog 15 #[.string s] w fun r w' => ∃ gq, r = .returned (.pointer (some ⟨gq, 0, none⟩)) ∧ QH w' gq (pQuery (bs s)) ∧ Keeps w w' := by
  have HE := hide he
  have FC := hide (And.intro hf hc)
  clear he hf hc
  go_enter Tryz.func15, Tryz.ntmps15
  go_wp2_with fail
  refine (p_head HE.out).mono ?_
  rintro r w1 ⟨rfl, k1⟩
  have K1 := hide k1
  clear k1
  go_wp2_with fail
  refine (m_right (HE.out.keep K1.out).ev hs FC.out.1 FC.out.2).mono ?_
  rintro r w2 ⟨gq, rfl, hQ, k2⟩
  have HQ := hide hQ
  have K2 := hide (K1.out.trans k2)
  clear hQ k2
  go_wp2
  go_ret
  exact ⟨gq, rfl, HQ.out, K2.out⟩
theorem ints_nil (w : World) : IntsAt w (.slice none 0 0) := ⟨none, 0, 0, rfl, by omega, fun h => absurd h (by omega)⟩
theorem ext_take (q : ByteArray) (n : Nat) : bs (q.extract 0 n) = (bs q).take n := by rw [bs_extract]; unfold sub; simp
end Go.Proofs.YtcbadebjpogmlaaGreatDoor
namespace Go.Proofs.YtcbadebjpogmlaaGreatDoor
open Go.ChangeShapes Go.WideShapes Go.ChangeAt Go.RowKit Go.ChangeMaps
theorem kSyntax : Tryz.prog.globalNamed "strconv.ErrSyntax" = some 6 := by kernel_rfl
theorem kSyntaxT : (Tryz.prog.globals[6]?).map (·.type) = some 180 := by kernel_rfl
theorem kErr : Tryz.prog.cellsOf 336 = 1 := by kernel_rfl
theorem kStr : Tryz.prog.cellsOf 9 = 1 := by kernel_rfl
theorem kStar : "*" ++ "errors.errorString" = "*errors.errorString" := by decide
theorem kRow (u : TypeId) (h : Tryz.prog.typeName? 3 u = some "*errors.errorString") : u = 334 :=
  typeName_ptr_named (nm := "errors.errorString") (by rw [kStar]; kernel_rfl) (by kernel_rfl) (by decide) u (by rw [kStar]; exact h)
theorem kPowT : (Tryz.prog.globals[0]?).map (·.type) = some 277 := by kernel_rfl
theorem kPowC : Tryz.prog.cellsOf 277 = 20 := by kernel_rfl
theorem kU64C : Tryz.prog.cellsOf 258 = 1 := by kernel_rfl
theorem kPow : (Rows.laid_internal_strconv_uint64pow10 : DataW Unit) = Lib.tabData .u64 Lib.pow10Tab := by kernel_rfl
def lst : List (String × DataW Unit) := [("math/bits.deBruijn32tab", Rows.laid_math_bits_deBruijn32tab), ("math/bits.deBruijn64tab", Rows.laid_math_bits_deBruijn64tab), ("internal/strconv.uint64pow10", Rows.laid_internal_strconv_uint64pow10), ("unicode/utf8.acceptRanges", Rows.laid_unicode_utf8_acceptRanges), ("strconv.ErrRange", Rows.laid_strconv_ErrRange), ("strconv.ErrSyntax", Rows.laid_strconv_ErrSyntax), ("unicode/utf8.first", Rows.laid_unicode_utf8_first)]
theorem shMax : (((begin Tryz.prog (fun _ _ => 0) default).world.heap[1]?).bind Obj.row?) = some (#[.int .i64 0], 3) := by kernel_rfl
theorem shPow : ((((begin Tryz.prog (fun _ _ => 0) default).world.heap[0]?).bind Obj.row?).map (·.2)) = some 277 := by kernel_rfl
theorem bdInt : Tryz.prog.buildable 3 = true := by kernel_rfl
theorem ctInt : Tryz.prog.cellTypes Tryz.prog.depth 3 = some [3] := by kernel_rfl
set_option maxRecDepth 100000 in
theorem en_of {W : World} (h : laidMetH Tryz.prog lst W) (hs : W.ShapedOpen Tryz.prog) : EN W := by
  have h2 : laidMet Tryz.prog lst W := h
  have hlt : ∀ {g : Nat} {v : Value}, W.cell? ⟨g, 0, none⟩ = some v → g < W.heap.size := fun {g v} hc => World.block_lt_of_cell? W ⟨g, 0, none⟩ hc
  obtain ⟨a, s, hv, _, _, _⟩ := laid_sentinel h2.tail.tail.tail.tail.tail kSyntax kSyntaxT Tryz.underlying180 kRow Tryz.underlying334 Tryz.underlying336 rfl rfl Tryz.underlying9 kErr kStr
  have hc : W.cell? ⟨6, 0, none⟩ = some (.iface 334 (.pointer (some a))) := by simpa using World.var?_cell kSyntax hv 0
  have h3 := h2.tail.tail
  rw [kPow] at h3
  have hT := Lib.tabIs_of_head gPow kPowT Tryz.underlying277 Tryz.underlying258 kU64C kPowC h3
  obtain ⟨cs, hm, hz, hok⟩ := hs.1 1 _ _ (by decide +kernel) shMax
  obtain ⟨ts, t1, t2, t3⟩ := hok bdInt
  rw [ctInt] at t1
  obtain rfl := Option.some.inj t1
  have hz1 : cs.size = 1 := hz
  obtain ⟨v, hv0⟩ : ∃ v, cs[0]? = some v := ⟨cs[0], by simp [hz1]⟩
  obtain ⟨u, hu, hcell⟩ := t3 0 v hv0
  have hu : u = 3 := by simpa using hu.symm
  subst hu
  unfold Cell.ok at hcell
  rw [Tryz.underlying3] at hcell
  have hmc : W.cell? ⟨1, 0, none⟩ = some v := by
    have : Blk W 1 cs 3 := hm
    rw [this.cell 0]; exact hv0
  have hpl : 0 < W.heap.size := by
    obtain ⟨y, hy, hy2⟩ := Option.map_eq_some_iff.1 shPow
    obtain ⟨cs2, hm2, _⟩ := hs.1 0 y.1 y.2 (by decide +kernel) hy
    exact lt_of_some hm2
  refine ⟨⟨⟨_, hc, Or.inr ⟨_, _, rfl⟩⟩, hlt hc⟩, hT, hpl, ?_, hlt hmc⟩
  cases v with
  | int k m =>
    obtain ⟨rfl, _⟩ := hcell
    exact ⟨m, hmc⟩
  | _ => exact hcell.elim
section
variable {H : Type} {enc : TypeId × Value → H} {P : Program}
theorem post_keeps {f : Func} {s : ChangeSpec} {apart fresh handsOn again : Bool} {W W' : World} {args : Array Value} {v : Value} {ds gs : List (DataW H)} {before pa pv : List MemPlace}
    (hW : DataW.Whole enc P f.params.toList s.vars apart W args.toList ds gs before)
    (hres : ∀ (b : Nat) (sp : Nat → Bool) (hd : Bool), DataW.TrodAll enc P W' b sp hd f.resultTypes.toList (v.resultList f.resultTypes.size) (s.fn H (ds ++ gs)).results [])
    (hargs : ∀ sp : Nat → Bool, (∀ p ∈ before, sp p.block = true) → DataW.TrodAll enc P W' 0 sp true f.params.toList args.toList (s.fn H (ds ++ gs)).args pa)
    (hvars : ∀ sp : Nat → Bool, (∀ p ∈ before, sp p.block = true) → DataW.TrodVars enc P W' sp s.vars (s.fn H (ds ++ gs)).vars pv)
    (hps : before = pa ++ pv) (hk : Keeps W W')
    (hok : ∀ (j : Nat) (t : TypeId) (r : Value), f.resultTypes[j]? = some t → (v.resultList f.resultTypes.size)[j]? = some r → Value.okWide P W' .any 0 t r) :
    s.post enc P f apart fresh handsOn again W args v W' := by
  have hlt := hW.lt
  have hb : W.keptBut W' (· ∈ before) := (World.keptBut_refl W _).congr hk.os hk.output (fun i hi => hk.block i hi id)
  refine ⟨ds, gs, before, [], pa, pv, hW, hres _ _ _, hargs _ (fun p hp => by simpa using hlt p hp), hvars _ (fun p hp => by simpa using hlt p hp),
    World.keptBut_mono (fun p hp => ⟨hp, Or.inr (List.mem_append.1 (hps ▸ hp))⟩) hb, fun _ => ?_⟩
  obtain ⟨_, _, _, _, _, hz, hn⟩ := hW
  refine ⟨hok, _, _, ([] ++ pa) ++ pv, ⟨[] ++ pa, pv, trodAll_append (hargs _ (fun _ _ => rfl)) (hres _ _ _), hvars _ (fun _ _ => rfl), rfl, fun b off hp => ?_, fun ha => ?_⟩, fun p hp _ => ?_⟩
  · have hm : MemPlace.cell b off ∈ before := by rw [hps]; simpa using hp
    rw [hk.frozen (p := ⟨b, off, none⟩) (hlt _ hm) id]
    exact hz b off hm
  · have := hn ha
    rw [hps] at this
    simpa using this
  rw [hps]; simpa using hp
end
end Go.Proofs.YtcbadebjpogmlaaGreatDoor
