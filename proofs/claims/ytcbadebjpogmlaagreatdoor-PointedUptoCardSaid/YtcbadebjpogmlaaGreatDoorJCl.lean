import Derived.Test.YtcbadebjpogmlaaGreatDoorJTx
import Derived.Conc.SmallLaws
import Derived.Conc.EventLaws
import Derived.Test.YtcbadebjpogmlaaGreatDoorJMkZ
import Derived.Test.YtcbadebjpogmlaaGreatDoorJAa
namespace Go.Proofs.YtcbadebjpogmlaaGreatDoor
open Go.RowKit Tr Go.Conc
theorem infoTok : (Tryz.prog.info? 108).map (·.bytes) = some 56 := by kernel_rfl
theorem mk_chan (w : World) (n : Nat) (hn : n ≤ 5000000) : (Instr.makeChan 171 (.int .i64 (n : Nat))).run Tryz.prog w = .ok (.chan (some w.heap.size)) (w.alloc (.chan n #[] false 0 0 false)) := by
  obtain ⟨j, hj, hb⟩ := Option.map_eq_some_iff.1 infoTok
  exact run_makeChan (P := Tryz.prog) (w := w) Tryz.underlying171 hj .i64 n (by omega) (by rw [hb]; omega)
def GoP (sb r b f : Nat) (tt : ByteArray) (xs : List Sg) (Dp : Nat → Prop) (H : Nat → Option Obj) (Er E : Nat → Prop) (e at' : Nat) (z' : Sn) (s' : Fw) (w : World) (res : Ending) (w' : World) : Prop :=
  ∃ sv Er' E', res = .returned (.tuple #[sv, .int .i64 (e : Nat), .int .i64 (at' : Nat)]) ∧ RZ w' r Er' z' ∧ FE b f tt xs Dp H w' E' (noT s') ∧ w'.ownsRow 0 44 4 sv s'.told.length (s'.told.flatMap tcl) ∧ Blk w' sb #[fvp r, fvp f, .int .i64 0, .int .i64 0] 135 ∧ (∀ k, Er' k → ¬ E' k ∧ k ≠ sb) ∧ ¬ E' sb ∧ (∀ k, sv.ownBlock = some k → ¬ E' k ∧ ¬ Er' k ∧ k ≠ sb ∧ (E k ∨ w.heap.size ≤ k)) ∧ (∀ k, Er' k → Er k ∨ w.heap.size ≤ k) ∧ (∀ k, E' k → E k ∨ w.heap.size ≤ k) ∧ Fr (fun k => Er k ∨ E k) w w'
set_option linter.unusedSimpArgs false in
set_option maxHeartbeats 4000000 in
set_option maxRecDepth 100000 in
theorem s_goOn {sb r b f : Nat} {tt : ByteArray} {xs : List Sg} {Dp : Nat → Prop} {H : Nat → Option Obj} {Er E : Nat → Prop} (hx : xs.length ≤ 10) (hsel : selN xs ≤ 10) (hpos : ∀ g ∈ xs, 0 < g.l.length) {w : World} {z z' : Sn} {s : Fw} {e at' : Nat} {ts : List Tok} (hB : Blk w sb #[fvp r, fvp f, .int .i64 0, .int .i64 0] 135) (hz : RZ w r Er z) (hF : FE b f tt xs Dp H w E s) (hdj : ∀ k, Er k → ¬ E k ∧ k ≠ sb) (hds : ¬ E sb) (q : ByteArray) (hq : q.size ≤ 4000000) {N : Nat} {caps : Array Value} (hE : ∀ args w, (callFunc N args).run Tryz.prog w = .ok (.enter N args) w)
    (hrd : ∀ (w1 : World) (cb ch : Nat), Keeps w w1 → w.heap.size ≤ cb → w.heap.size ≤ ch → cS cb ch (room (bs q)) w1 (fun k => k = cb ∨ k = ch) [] → Calls Tryz.prog N (#[.func (.func 80) #[] #[.pointer (some ⟨cb, 0, none⟩)]] ++ caps) w1 (RdP r cb ch (room (bs q)) Er e at' z' ts w1))
    (hok : OkL s.g.sh ts) (hl : ∀ t ∈ ts, t.t.length ≤ 4000000) :
    Calls Tryz.prog 57 #[fvp sb, .string q, .func (.func N) #[] caps] w (GoP sb r b f tt xs Dp H Er E e at' z' (fRun xs s ts) w) := by
  have c2 : w.cell? ⟨sb, 2, none⟩ = some (.int .i64 0) := hB.cell 2
  have RM := hide (p_room (w := w) q hq)
  obtain ⟨ch, hch⟩ : ∃ ch, ch = w.heap.size := ⟨_, rfl⟩
  obtain ⟨cb, hcb⟩ : ∃ cb, cb = w.heap.size + 1 := ⟨_, rfl⟩
  obtain ⟨W1, hW1⟩ : ∃ W1, W1 = (w.alloc (.chan (room (bs q)) #[] false 0 0 false)).alloc (.cells #[.chan (some ch)] 171) := ⟨_, rfl⟩
  have K1 : Keeps w W1 := by rw [hW1]; exact ((Fr.refl _ w).alloc _).alloc _
  have z1 : W1.heap.size = w.heap.size + 2 := by rw [hW1, World.size_alloc, World.size_alloc]
  have hsb := hB.lt
  have hEl : ∀ k, E k → k < w.heap.size := fun k hk => hF.lt hk
  have hErl : ∀ k, Er k → k < w.heap.size := fun k hk => hz.lt hk
  have S1 : cS cb ch (room (bs q)) W1 (fun k => k = cb ∨ k = ch) [] := by
    refine ⟨?_, ⟨0, 0, false, ?_⟩, by omega, fun _ => Iff.rfl⟩
    · have := Blk.new (w.alloc (.chan (room (bs q)) #[] false 0 0 false)) #[.chan (some ch)] 171
      rw [World.size_alloc, ← hcb, ← hW1] at this; exact this
    rw [hW1, Below.heap_alloc _ _ _ (by rw [World.size_alloc]; omega), hch]
    exact heap_alloc_new w _
  have RD := hide (hrd W1 cb ch K1 (by omega) (by omega) S1)
  have NXT : Hid (∀ w2 Er', RZ w2 r Er' z' → cS cb ch (room (bs q)) w2 (fun k => k = cb ∨ k = ch) ts → ¬ Er' cb → ¬ Er' ch → (∀ k, Er' k → Er k ∨ W1.heap.size ≤ k) → Fr (fun k => Er k ∨ k = cb ∨ k = ch) W1 w2 →
      w2.cell? ⟨cb, 0, none⟩ = some (.chan (some ch)) ∧ ∃ sn rn tm, w2.heap[ch]? = some (.chan (room (bs q)) (ts.map tagg).toArray false sn rn tm) ∧ ∃ w3 : World, w3 = { w2 with heap := w2.heap.setIfInBounds ch (.chan (room (bs q)) (ts.map tagg).toArray true sn rn tm) } ∧ (w3.drew.cell? ⟨sb, 1, none⟩ = some (.pointer (some ⟨f, 0, none⟩)) ∧ w3.drew.cell? ⟨cb, 0, none⟩ = some (.chan (some ch))) ∧
      Calls Tryz.prog 81 #[.pointer (some ⟨f, 0, none⟩), .chan (some ch)] w3.drew (fun res w4 => ∃ sv, res = .returned sv ∧ (w4.cell? ⟨sb, 1, none⟩ = some (.pointer (some ⟨f, 0, none⟩)) ∧ w4.cell? ⟨cb, 0, none⟩ = some (.chan (some ch))) ∧ GoP sb r b f tt xs Dp H Er E e at' z' (fRun xs s ts) w (.returned (.tuple #[sv, .int .i64 (e : Nat), .int .i64 (at' : Nat)])) w4)) := fun w2 Er' r1 ⟨s1, ⟨sn, rn, tm, s2⟩, s3, _⟩ r2 r3 r4 r5 => by
    refine ⟨s1.cell 0, sn, rn, tm, s2, _, rfl, ?_⟩
    obtain ⟨w3, hw3⟩ : ∃ w3 : World, w3 = { w2 with heap := w2.heap.setIfInBounds ch (.chan (room (bs q)) (ts.map tagg).toArray true sn rn tm) } := ⟨_, rfl⟩
    rw [← hw3]
    have hcl := lt_of_some s2
    have hk3 : ∀ k, k ≠ ch → w3.heap[k]? = w2.heap[k]? := fun k hk => by rw [hw3]; simp [Ne.symm hk]
    have hc3 : w3.heap[ch]? = some (.chan (room (bs q)) (ts.map tagg).toArray true sn rn tm) := by rw [hw3]; simp [hcl]
    have z3 : w3.heap.size = w2.heap.size := by rw [hw3]; simp
    have z2 := r5.size
    have old : ∀ k, k < w.heap.size → ¬ Er k → w3.drew.heap[k]? = w.heap[k]? := fun k hk hn => by
      show w3.heap[k]? = _
      rw [hk3 k (by omega), r5.block k (by omega) (fun y => by
        rcases y with y | y | y
        · exact hn y
        · omega
        omega)]
      exact K1.block k hk id
    have F3 : FE b f tt xs Dp H w3.drew E s := hF.keep hx hsel (fun k hk => old k (hEl k hk) (fun y => (hdj k y).1 hk)) (by show w.heap.size ≤ w3.heap.size; omega)
    have B3 : Blk w3.drew sb #[fvp r, fvp f, .int .i64 0, .int .i64 0] 135 := (old sb hsb (fun y => (hdj sb y).2 rfl)).trans hB
    have C3 : Blk w3.drew cb #[.chan (some ch)] 171 := (hk3 cb s3).trans s1
    have R3 : RZ w3.drew r Er' z' := r1.keep (fun k hk => hk3 k (fun y => r3 (y ▸ hk)))
    have hEc : ¬ E ch := fun y => by have := hEl _ y; omega
    refine ⟨⟨B3.cell 1, C3.cell 0⟩, ?_⟩
    refine (f_follow hx hsel hpos F3 hc3 hEc hok hl).mono ?_
    rintro res w4 ⟨sv, E', rfl, p1, p2, p3, p4, p5⟩
    have hz3 : w3.drew.heap.size = w2.heap.size := z3
    have nE : ∀ k, E' k → E k ∨ w2.heap.size ≤ k := fun k hk => by rw [← hz3]; exact p4 k hk
    have B4 : Blk w4 sb #[fvp r, fvp f, .int .i64 0, .int .i64 0] 135 := B3.fr p5 (fun y => by
      rcases y with y | y
      · exact hds y
      omega)
    have C4 : Blk w4 cb #[.chan (some ch)] 171 := C3.fr p5 (fun y => by
      rcases y with y | y
      · have := hEl _ y; omega
      exact s3 y)
    have nEr : ∀ k, Er' k → ¬ E k := fun k hk y => by
      rcases r4 k hk with u | u
      · exact (hdj k u).1 y
      have := hEl k y; omega
    refine ⟨sv, rfl, ⟨B4.cell 1, C4.cell 0⟩, sv, Er', E', rfl, R3.keep (fun k hk => p5.block k (R3.lt hk) (fun y => ?_)), p1, p2, B4, fun k hk => ⟨fun y => ?_, fun y => ?_⟩, fun y => ?_, fun k hk => ⟨(p3 k hk).1, fun y => ?_, fun y => ?_, ?_⟩, fun k hk => ?_, fun k hk => ?_, ?_⟩
    · rcases y with y | y
      · exact nEr k hk y
      exact r3 (y ▸ hk)
    · rcases nE k y with u | u
      · exact nEr k hk u
      have := r1.lt hk; omega
    · rcases r4 k hk with u | u
      · exact (hdj k u).2 y
      omega
    · rcases nE sb y with u | u
      · exact hds u
      omega
    · rcases (p3 k hk).2 with u | u
      · exact nEr k y u
      have := R3.lt y; omega
    · rcases (p3 k hk).2 with u | u
      · exact hds (y ▸ u)
      rw [hz3] at u; omega
    · rcases (p3 k hk).2 with u | u
      · exact Or.inl u
      exact Or.inr (by rw [hz3] at u; omega)
    · rcases r4 k hk with u | u
      · exact Or.inl u
      exact Or.inr (by omega)
    · rcases nE k hk with u | u
      · exact Or.inl u
      exact Or.inr (by omega)
    have o3 : w3.drew.os = w2.os := by rw [hw3]; rfl
    have t3 : w3.drew.tape = w2.tape := by rw [hw3]; rfl
    have u3 : w3.drew.output = w2.output := by rw [hw3]; rfl
    refine ⟨p5.os.trans (o3.trans (r5.os.trans K1.os)), p5.tape.trans (t3.trans (r5.tape.trans K1.tape)), p5.output.trans (u3.trans (r5.output.trans K1.output)), by have := p5.size; omega, fun k hk hn => ?_⟩
    rw [p5.block k (by omega) (fun y => ?_)]
    · exact old k hk (fun y => hn (Or.inl y))
    rcases y with y | y
    · exact hn (Or.inr y)
    omega
  have hrl := room_le (bs q)
  rw [bs_len] at hrl
  have hmk := mk_chan w (room (bs q)) (by omega)
  have HW1 := hide hW1
  have HCH := hide hch
  have HCB := hide hcb
  clear hB hz hF hdj hds hrd hok hl hW1 K1 z1 hsb hEl hErl S1 hch hcb hx hsel hpos hrl
  unfold fvp
  go_enter Tryz.func57, Tryz.ntmps57
  go_wp2_with fail
  refine RM.out.mono ?_
  rintro res w0 ⟨rfl, rfl⟩
  go_wp2
  rw [← HCB.out, ← HCH.out, ← HW1.out]
  refine RD.out.mono ?_
  rintro res w2 ⟨rfl, Er', r1, s1, r2, r3, r4, r5⟩
  obtain ⟨c0, sn, rn, tm, s2, w3, hw3, ss, FOL⟩ := NXT.out w2 Er' r1 s1 r2 r3 r4 r5
  have HW3 := hide hw3
  have SS := hide ss
  have FL := hide FOL
  have hcls := fun ats ty => run_close_open (P := Tryz.prog) (w := w2) ats ty s2
  clear r1 s1 r2 r3 r4 r5 hw3 ss FOL hmk NXT RD RM
  go_wp2
  rw [← HW3.out]
  refine wp_region_held_drew (S := fun w' => w'.cell? ⟨sb, 1, none⟩ = some (.pointer (some ⟨f, 0, none⟩)) ∧ w'.cell? ⟨cb, 0, none⟩ = some (.chan (some ch))) (by kernel_rfl) SS.out (fun _ => ?_)
  refine wpAnyH_take (i := 0) (v := ?v1) rfl (by kernel_rfl) (by kernel_rfl) (by kernel_rfl) (fun _ _ _ h => h) (Or.inl ⟨by rfl, ?hy1⟩) (by assumption) ?rest1
  case hy1 => (intro w hSw; (try dsimp only at hSw); (obtain ⟨q0, q1⟩ := hSw; (go_simp <;> with_reducible rfl)))
  try simp only [Act.put, nrm]
  refine wpAnyH_take (i := 1) (v := ?v2) rfl (by kernel_rfl) (by kernel_rfl) (by kernel_rfl) (fun _ _ _ h => h) (Or.inl ⟨by rfl, ?hy2⟩) (by assumption) ?rest2
  case hy2 => (intro w hSw; (try dsimp only at hSw); (obtain ⟨q0, q1⟩ := hSw; (go_simp <;> with_reducible rfl)))
  try simp only [Act.put, nrm]
  refine wpAnyH_take (i := 2) (v := ?v3) rfl (by kernel_rfl) (by kernel_rfl) (by kernel_rfl) (fun _ _ _ h => h) (Or.inl ⟨by rfl, ?hy3⟩) (by assumption) ?rest3
  case hy3 => (intro w hSw; (try dsimp only at hSw); (obtain ⟨q0, q1⟩ := hSw; (go_simp <;> with_reducible rfl)))
  try simp only [Act.put, nrm]
  refine wpAnyH_take (i := 3) (v := ?v4) rfl (by kernel_rfl) (by kernel_rfl) (by kernel_rfl) (fun _ _ _ h => h) (Or.inl ⟨by rfl, ?hy4⟩) (by assumption) ?rest4
  case hy4 => (intro w hSw; (try dsimp only at hSw); (obtain ⟨q0, q1⟩ := hSw; (go_simp <;> with_reducible rfl)))
  try simp only [Act.put, nrm]
  refine wpAnyH_take (i := 4) (v := ?v5) rfl (by kernel_rfl) (by kernel_rfl) (by kernel_rfl) (fun _ _ _ h => h) (Or.inl ⟨by rfl, ?hy5⟩) (by assumption) ?rest5
  case hy5 => (intro w hSw; (try dsimp only at hSw); (obtain ⟨q0, q1⟩ := hSw; (go_simp <;> with_reducible rfl)))
  try simp only [Act.put, nrm]
  refine wpAnyH_take (i := 6) (v := ?v6) rfl (by kernel_rfl) (by kernel_rfl) (by kernel_rfl) (fun _ _ _ h => h) (Or.inl ⟨by rfl, ?hy6⟩) (by assumption) ?rest6
  case hy6 => (intro w hSw; (try dsimp only at hSw); (obtain ⟨q0, q1⟩ := hSw; (go_simp <;> with_reducible rfl)))
  try simp only [Act.put, nrm]
  refine wpAnyH_take (i := 7) (v := ?v7) rfl (by kernel_rfl) (by kernel_rfl) (by kernel_rfl) (fun _ _ _ h => h) (Or.inl ⟨by rfl, ?hy7⟩) (by assumption) ?rest7
  case hy7 => (intro w hSw; (try dsimp only at hSw); (obtain ⟨q0, q1⟩ := hSw; (go_simp <;> with_reducible rfl)))
  try simp only [Act.put, nrm]
  refine wpAnyH_ready (rs := [5]) (by kernel_rfl) (by simp) ?_
  refine AllReadyH.cons rfl (fun K hK => ?_) AllReadyH.nil
  go_simp
  refine FL.out.mono ?_
  rintro res w4 ⟨sv, rfl, ss4, gp⟩
  have GP := hide gp
  have SS4 := hide ss4
  clear gp ss4 hcls
  refine hK.out _ _ SS4.out (fun _ => ?_)
  clear hK K
  try simp only [Act.put, nrm]
  refine wpAnyH_take (i := 8) (v := ?v8) rfl (by kernel_rfl) (by kernel_rfl) (by kernel_rfl) (fun _ _ _ h => h) (Or.inl ⟨by rfl, ?hy8⟩) (by assumption) ?rest8
  case hy8 => (intro w hSw; (try dsimp only at hSw); (obtain ⟨q0, q1⟩ := hSw; (go_simp <;> with_reducible rfl)))
  try simp only [Act.put, nrm]
  refine wpAnyH_take (i := 9) (v := ?v9) rfl (by kernel_rfl) (by kernel_rfl) (by kernel_rfl) (fun _ _ _ h => h) (Or.inl ⟨by rfl, ?hy9⟩) (by assumption) ?rest9
  case hy9 => (intro w hSw; (try dsimp only at hSw); (obtain ⟨q0, q1⟩ := hSw; (go_simp <;> with_reducible rfl)))
  try simp only [Act.put, nrm]
  refine wpAnyH_take (i := 10) (v := ?v10) rfl (by kernel_rfl) (by kernel_rfl) (by kernel_rfl) (fun _ _ _ h => h) (Or.inl ⟨by rfl, ?hy10⟩) (by assumption) ?rest10
  case hy10 => (intro w hSw; (try dsimp only at hSw); (obtain ⟨q0, q1⟩ := hSw; (go_simp <;> with_reducible rfl)))
  try simp only [Act.put, nrm]
  refine wpAnyH_done (by kernel_rfl) ?_ _
  go_wp2
  go_ret3
  exact GP.out
end Go.Proofs.YtcbadebjpogmlaaGreatDoor
namespace Go.Proofs.YtcbadebjpogmlaaGreatDoor
open Go.RowKit Tr Go.Conc
set_option maxRecDepth 100000 in
theorem s_goOn0 {w : World} {sb e at' : Nat} {c0 c1 : Value} (hB : Blk w sb #[c0, c1, .int .i64 (e : Nat), .int .i64 (at' : Nat)] 135) (he : e ≠ 0) (q : ByteArray) (rv : Value) :
    Calls Tryz.prog 57 #[fvp sb, .string q, rv] w fun r w' => r = .returned (.tuple #[.slice none 0 0, .int .i64 (e : Nat), .int .i64 (at' : Nat)]) ∧ Keeps w w' := by
  have d2 : w.cell? ⟨sb, 2, none⟩ = some (.int .i64 (e : Nat)) := hB.cell 2
  have d3 : w.cell? ⟨sb, 3, none⟩ = some (.int .i64 (at' : Nat)) := hB.cell 3
  have hne : ((e : Int) != 0) = true := by rw [bne_iff_ne]; omega
  have he2 : ¬ (e : Int) = 0 := by omega
  clear hB he
  unfold fvp
  go_enter Tryz.func57, Tryz.ntmps57
  go_wp2
  go_quiet (fail)
  go_wp2
  go_ret3
  exact ⟨rfl, (Fr.refl _ _).drewN _⟩
set_option maxRecDepth 100000 in
theorem s_stop {w : World} {sb : Nat} {c0 c1 c2 c3 : Value} (hB : Blk w sb #[c0, c1, c2, c3] 135) (e at' : Nat) :
    Calls Tryz.prog 59 #[fvp sb, .int .i64 (e : Nat), .int .i64 (at' : Nat)] w fun r w' => r = .returned (.tuple #[]) ∧ Blk w' sb #[.pointer none, .pointer none, .int .i64 (e : Nat), .int .i64 (at' : Nat)] 135 ∧ Fr (fun k => k = sb) w w' := by
  have d0 : w.cell? ⟨sb, 0, none⟩ = some c0 := hB.cell 0
  have d1 : w.cell? ⟨sb, 1, none⟩ = some c1 := hB.cell 1
  have d2 : w.cell? ⟨sb, 2, none⟩ = some c2 := hB.cell 2
  have d3 : w.cell? ⟨sb, 3, none⟩ = some c3 := hB.cell 3
  have fz := hB.fz
  unfold fvp
  go_enter Tryz.func59, Tryz.ntmps59
  go_wp2
  go_end0
  refine ⟨rfl, ((((hB.set 0 _).set 1 _).set 2 _).set 3 _), ?_⟩
  exact ((((Fr.refl (fun k => k = sb) w).setCell ⟨sb, 0, none⟩ (Or.inl rfl) _).setCell ⟨sb, 1, none⟩ (Or.inl rfl) _).setCell ⟨sb, 2, none⟩ (Or.inl rfl) _).setCell ⟨sb, 3, none⟩ (Or.inl rfl) _
set_option linter.unusedSimpArgs false in
set_option maxHeartbeats 2000000 in
set_option maxRecDepth 100000 in
theorem s_feed1 {w : World} {sb xb pb r : Nat} {c1 c2 c3 : Value} {q : ByteArray} (hX : Blk w xb #[fvp sb] 80) (hP : Blk w pb #[.string q] 9) (hB : Blk w sb #[fvp r, c1, c2, c3] 135) {tell : Value} {Q : Ending → World → Prop} {e at' : Nat} (hQ : ∀ res w', Q res w' → res = .returned (.tuple #[.int .i64 (e : Nat), .int .i64 (at' : Nat)]) ∧ Blk w' xb #[fvp sb] 80 ∧ Blk w' pb #[.string q] 9 ∧ Blk w' sb #[fvp r, c1, c2, c3] 135)
    (hrd : Calls Tryz.prog 52 #[fvp r, .string q, tell] w.drew Q) :
    Calls Tryz.prog 58 #[tell, fvp xb, fvp pb] w Q := by
  have SS : Hid (∀ W, Blk W xb #[fvp sb] 80 → Blk W pb #[.string q] 9 → Blk W sb #[fvp r, c1, c2, c3] 135 → W.cell? ⟨xb, 0, none⟩ = some (.pointer (some ⟨sb, 0, none⟩)) ∧ W.cell? ⟨pb, 0, none⟩ = some (.string q) ∧ W.cell? ⟨sb, 0, none⟩ = some (.pointer (some ⟨r, 0, none⟩))) := fun W h1 h2 h3 => ⟨h1.cell 0, h2.cell 0, h3.cell 0⟩
  have S0 := hide (SS.out w.drew hX hP hB)
  have RD := hide hrd
  have HQ := hide hQ
  clear hX hP hB hrd hQ
  unfold fvp at *
  go_enter Tryz.func58, Tryz.ntmps58
  go_wp2
  refine wp_region_held_drew (S := fun w' => w'.cell? ⟨xb, 0, none⟩ = some (.pointer (some ⟨sb, 0, none⟩)) ∧ w'.cell? ⟨pb, 0, none⟩ = some (.string q) ∧ w'.cell? ⟨sb, 0, none⟩ = some (.pointer (some ⟨r, 0, none⟩))) (by kernel_rfl) S0.out (fun _ => ?_)
  refine wpAnyH_take (i := 0) (v := ?v1) rfl (by kernel_rfl) (by kernel_rfl) (by kernel_rfl) (fun _ _ _ h => h) (Or.inl ⟨by rfl, ?hy1⟩) (by assumption) ?rest1
  case hy1 => (intro w hSw; (try dsimp only at hSw); (obtain ⟨q0, q1, q2⟩ := hSw; (go_simp <;> with_reducible rfl)))
  try simp only [Act.put, nrm]
  refine wpAnyH_take (i := 1) (v := ?v2) rfl (by kernel_rfl) (by kernel_rfl) (by kernel_rfl) (fun _ _ _ h => h) (Or.inl ⟨by rfl, ?hy2⟩) (by assumption) ?rest2
  case hy2 => (intro w hSw; (try dsimp only at hSw); (obtain ⟨q0, q1, q2⟩ := hSw; (go_simp <;> with_reducible rfl)))
  try simp only [Act.put, nrm]
  refine wpAnyH_take (i := 2) (v := ?v3) rfl (by kernel_rfl) (by kernel_rfl) (by kernel_rfl) (fun _ _ _ h => h) (Or.inl ⟨by rfl, ?hy3⟩) (by assumption) ?rest3
  case hy3 => (intro w hSw; (try dsimp only at hSw); (obtain ⟨q0, q1, q2⟩ := hSw; (go_simp <;> with_reducible rfl)))
  try simp only [Act.put, nrm]
  refine wpAnyH_take (i := 3) (v := ?v4) rfl (by kernel_rfl) (by kernel_rfl) (by kernel_rfl) (fun _ _ _ h => h) (Or.inl ⟨by rfl, ?hy4⟩) (by assumption) ?rest4
  case hy4 => (intro w hSw; (try dsimp only at hSw); (obtain ⟨q0, q1, q2⟩ := hSw; (go_simp <;> with_reducible rfl)))
  try simp only [Act.put, nrm]
  refine wpAnyH_take (i := 4) (v := ?v5) rfl (by kernel_rfl) (by kernel_rfl) (by kernel_rfl) (fun _ _ _ h => h) (Or.inl ⟨by rfl, ?hy5⟩) (by assumption) ?rest5
  case hy5 => (intro w hSw; (try dsimp only at hSw); (obtain ⟨q0, q1, q2⟩ := hSw; (go_simp <;> with_reducible rfl)))
  try simp only [Act.put, nrm]
  refine wpAnyH_take (i := 5) (v := ?v6) rfl (by kernel_rfl) (by kernel_rfl) (by kernel_rfl) (fun _ _ _ h => h) (Or.inl ⟨by rfl, ?hy6⟩) (by assumption) ?rest6
  case hy6 => (intro w hSw; (try dsimp only at hSw); (obtain ⟨q0, q1, q2⟩ := hSw; (go_simp <;> with_reducible rfl)))
  try simp only [Act.put, nrm]
  refine wpAnyH_ready (rs := [6]) (by kernel_rfl) (by simp) ?_
  refine AllReadyH.cons rfl (fun K hK => ?_) AllReadyH.nil
  go_simp
  refine RD.out.mono ?_
  intro res w2 hq2
  obtain ⟨rfl, y1, y2, y3⟩ := HQ.out res w2 hq2
  have H2 := hide hq2
  have S2 := hide (SS.out w2 y1 y2 y3)
  clear hq2 y1 y2 y3
  refine hK.out _ _ S2.out (fun _ => ?_)
  clear hK K
  try simp only [Act.put, nrm]
  refine wpAnyH_take (i := 7) (v := ?v7) rfl (by kernel_rfl) (by kernel_rfl) (by kernel_rfl) (fun _ _ _ h => h) (Or.inl ⟨by rfl, ?hy7⟩) (by assumption) ?rest7
  case hy7 => (intro w hSw; (try dsimp only at hSw); (obtain ⟨q0, q1, q2⟩ := hSw; (go_simp <;> with_reducible rfl)))
  try simp only [Act.put, nrm]
  refine wpAnyH_take (i := 8) (v := ?v8) rfl (by kernel_rfl) (by kernel_rfl) (by kernel_rfl) (fun _ _ _ h => h) (Or.inl ⟨by rfl, ?hy8⟩) (by assumption) ?rest8
  case hy8 => (intro w hSw; (try dsimp only at hSw); (obtain ⟨q0, q1, q2⟩ := hSw; (go_simp <;> with_reducible rfl)))
  try simp only [Act.put, nrm]
  refine wpAnyH_take (i := 9) (v := ?v9) rfl (by kernel_rfl) (by kernel_rfl) (by kernel_rfl) (fun _ _ _ h => h) (Or.inl ⟨by rfl, ?hy9⟩) (by assumption) ?rest9
  case hy9 => (intro w hSw; (try dsimp only at hSw); (obtain ⟨q0, q1, q2⟩ := hSw; (go_simp <;> with_reducible rfl)))
  try simp only [Act.put, nrm]
  refine wpAnyH_take (i := 10) (v := ?v10) rfl (by kernel_rfl) (by kernel_rfl) (by kernel_rfl) (fun _ _ _ h => h) (Or.inl ⟨by rfl, ?hy10⟩) (by assumption) ?rest10
  case hy10 => (intro w hSw; (try dsimp only at hSw); (obtain ⟨q0, q1, q2⟩ := hSw; (go_simp <;> with_reducible rfl)))
  try simp only [Act.put, nrm]
  refine wpAnyH_done (by kernel_rfl) ?_ _
  go_wp2
  exact H2.out
end Go.Proofs.YtcbadebjpogmlaaGreatDoor
namespace Go.Proofs.YtcbadebjpogmlaaGreatDoor
open Go.RowKit Tr Go.Conc
theorem FE.same {b f : Nat} {tt : ByteArray} {xs : List Sg} {Dp : Nat → Prop} {H : Nat → Option Obj} {w : World} {E : Nat → Prop} {s : Fw} (h : FE b f tt xs Dp H w E s) {k : Nat} (hk : Dp k ∨ gEN k) : w.heap[k]? = H k ∧ E k := by
  obtain ⟨x, A, C, M, D, h1, h2⟩ := h
  exact ⟨h1.g.s.sm k hk, (h2 k).2 (Or.inl ((h1.g.s.d k).2 (hk.elim Or.inl (fun y => Or.inr (Or.inl y)))))⟩
def FdP (sb r b f : Nat) (tt : ByteArray) (xs : List Sg) (Dp : Nat → Prop) (H : Nat → Option Obj) (Er E : Nat → Prop) (F : Sf) (s' : Fw) (w : World) (res : Ending) (w' : World) : Prop :=
  ∃ sv, res = .returned (.tuple #[sv, .int .i64 (F.e : Nat), .int .i64 ((if F.e = 0 then 0 else F.z.at' : Nat) : Int)]) ∧ w'.ownsRow 0 44 4 sv s'.told.length (s'.told.flatMap tcl) ∧ (∀ k, sv.ownBlock = some k → (k ≠ sb ∧ ¬ (Dp k ∨ gEN k)) ∧ (E k ∨ w.heap.size ≤ k)) ∧ Fr (fun k => Er k ∨ E k ∨ k = sb) w w' ∧ (∀ k, Dp k ∨ gEN k → w'.heap[k]? = H k) ∧
    (F.e = 0 → ∃ Er' E', RZ w' r Er' F.z ∧ FE b f tt xs Dp H w' E' (noT s') ∧ Blk w' sb #[fvp r, fvp f, .int .i64 0, .int .i64 0] 135 ∧ (∀ k, Er' k → ¬ E' k ∧ k ≠ sb) ∧ ¬ E' sb ∧ (∀ k, sv.ownBlock = some k → ¬ E' k ∧ ¬ Er' k) ∧ (∀ k, Er' k → Er k ∨ w.heap.size ≤ k) ∧ ∀ k, E' k → E k ∨ w.heap.size ≤ k) ∧
    (F.e ≠ 0 → Blk w' sb #[.pointer none, .pointer none, .int .i64 (F.e : Nat), .int .i64 (F.z.at' : Nat)] 135)
set_option maxHeartbeats 4000000 in
set_option maxRecDepth 100000 in
theorem s_feed {sb r b f : Nat} {tt : ByteArray} {xs : List Sg} {Dp : Nat → Prop} {H : Nat → Option Obj} {Er E : Nat → Prop} (hx : xs.length ≤ 10) (hsel : selN xs ≤ 10) (hpos : ∀ g ∈ xs, 0 < g.l.length) {w : World} {z : Sn} {s : Fw} (hB : Blk w sb #[fvp r, fvp f, .int .i64 0, .int .i64 0] 135) (hz : RZ w r Er z) (hF : FE b f tt xs Dp H w E s) (hdj : ∀ k, Er k → ¬ E k ∧ k ≠ sb) (hds : ¬ E sb) (q : ByteArray) (hok : SOk z) (hlk : Lk z s.g.sh) (hst : z.st ≤ 10) (hwd : WdOk z) (hl : z.at' + q.size ≤ 4000000) (hxx : z.tx.length + q.size ≤ 4000000) (hnm : ∀ t ∈ (sRun z (bs q)).ts, t.t.length ≤ 4000000) :
    Calls Tryz.prog 38 #[fvp sb, .string q] w (FdP sb r b f tt xs Dp H Er E (sRun z (bs q)) (fRun xs s (sRun z (bs q)).ts) w) := by
  have hlen : (bs q).length = q.size := bs_len q
  have R := run_ok' (bs q) hok hlk hst (by omega)
  have hroom := room_ok (l := bs q) hok hlk hst (by omega) hwd
  obtain ⟨F, hFd⟩ : ∃ F, F = sRun z (bs q) := ⟨_, rfl⟩
  have hRr : ∀ {w1 : World} {cb ch : Nat}, RZ w1 r Er z → cS cb ch (room (bs q)) w1 (fun k => k = cb ∨ k = ch) [] → ¬ Er cb → ¬ Er ch → Calls Tryz.prog 52 #[.pointer (some ⟨r, 0, none⟩), .string q, .func (.func 80) #[] #[.pointer (some ⟨cb, 0, none⟩)]] w1 (RdP r cb ch (room (bs q)) Er F.e (if F.e = 0 then 0 else F.z.at') F.z F.ts w1) := fun h1 h2 h3 h4 => by rw [hFd]; exact rz_read h1 h2 h3 h4 hok hlk hst q hl hxx hroom
  rw [← hFd] at R hnm ⊢
  obtain ⟨xb, hxb⟩ : ∃ xb, xb = w.heap.size := ⟨_, rfl⟩
  obtain ⟨pb, hpb⟩ : ∃ pb, pb = w.heap.size + 1 := ⟨_, rfl⟩
  obtain ⟨W1, hW1⟩ : ∃ W1, W1 = (w.alloc (.cells #[.pointer (some ⟨sb, 0, none⟩)] 80)).alloc (.cells #[.string q] 9) := ⟨_, rfl⟩
  have K1 : Keeps w W1 := by rw [hW1]; exact ((Fr.refl _ w).alloc _).alloc _
  have z1 : W1.heap.size = w.heap.size + 2 := by rw [hW1, World.size_alloc, World.size_alloc]
  have hsb := hB.lt
  have X1 : Blk W1 xb #[fvp sb] 80 := by rw [hW1, hxb]; exact (Blk.new w _ _).alloc _
  have P1 : Blk W1 pb #[.string q] 9 := by
    have := Blk.new (w.alloc (.cells #[.pointer (some ⟨sb, 0, none⟩)] 80)) #[.string q] 9
    rw [World.size_alloc, ← hpb, ← hW1] at this; exact this
  have B1 := hB.fr K1 id
  have Z1 : RZ W1 r Er z := hz.keep (fun k hk => K1.block k (hz.lt hk) id)
  have F1 : FE b f tt xs Dp H W1 E s := hF.keep hx hsel (fun k hk => K1.block k (hF.lt hk) id) K1.size
  have hErl : ∀ k, Er k → k < w.heap.size := fun k hk => hz.lt hk
  have hEl : ∀ k, E k → k < w.heap.size := fun k hk => hF.lt hk
  have c0 : W1.cell? ⟨xb, 0, none⟩ = some (.pointer (some ⟨sb, 0, none⟩)) := X1.cell 0
  have c1 : W1.cell? ⟨pb, 0, none⟩ = some (.string q) := P1.cell 0
  have GO : Hid (Calls Tryz.prog 57 #[.pointer (some ⟨sb, 0, none⟩), .string q, .func (.func 58) #[] #[.pointer (some ⟨xb, 0, none⟩), .pointer (some ⟨pb, 0, none⟩)]] W1 (GoP sb r b f tt xs Dp H Er E F.e (if F.e = 0 then 0 else F.z.at') F.z (fRun xs s F.ts) W1)) := by
    refine s_goOn hx hsel hpos B1 Z1 F1 hdj hds q (by omega) (fun _ _ => Tryz.call58 _ _) (fun w2 cb ch k2 hcb hch hc => ?_) R.tok hnm
    have k2' : Keeps W1 w2.drew := k2.drewN 1
    have hcd : cS cb ch (room (bs q)) w2.drew (fun k => k = cb ∨ k = ch) [] := (c_sink cb ch _).keep hc (fun _ _ => rfl) (Nat.le_refl _)
    have nc : ¬ Er cb := fun y => by have := hErl _ y; omega
    have nh : ¬ Er ch := fun y => by have := hErl _ y; omega
    have Z2 : RZ w2.drew r Er z := Z1.keep (fun k hk => k2'.block k (Z1.lt hk) id)
    refine (s_feed1 (X1.fr k2 id) (P1.fr k2 id) (B1.fr k2 id) (e := F.e) (at' := if F.e = 0 then 0 else F.z.at') (fun res w' h => ?_) (hRr Z2 hcd nc nh)).mono ?_
    · obtain ⟨h1, _, _, _, _, _, _, h5⟩ := h
      have nK : ∀ k, k < W1.heap.size → ¬ Er k → ¬ (Er k ∨ k = cb ∨ k = ch) := fun k hk hn y => by
        rcases y with y | y | y
        · exact hn y
        · omega
        omega
      exact ⟨h1, (X1.fr k2' id).fr h5 (nK xb X1.lt (fun y => by have := hErl _ y; omega)), (P1.fr k2' id).fr h5 (nK pb P1.lt (fun y => by have := hErl _ y; omega)), (B1.fr k2' id).fr h5 (nK sb B1.lt (fun y => (hdj sb y).2 rfl))⟩
    rintro res w' ⟨h1, Er', h2, h3, h4, h5, h6, h7⟩
    exact ⟨h1, Er', h2, h3, h4, h5, h6, ((Fr.refl _ w2).drewN 1).trans h7⟩
  have FIN0 : Hid (∀ sv w2, GoP sb r b f tt xs Dp H Er E F.e (if F.e = 0 then 0 else F.z.at') F.z (fRun xs s F.ts) W1 (.returned (.tuple #[sv, .int .i64 (F.e : Nat), .int .i64 ((if F.e = 0 then 0 else F.z.at' : Nat) : Int)])) w2 → F.e = 0 → FdP sb r b f tt xs Dp H Er E F (fRun xs s F.ts) w (.returned (.tuple #[sv, .int .i64 (F.e : Nat), .int .i64 ((if F.e = 0 then 0 else F.z.at' : Nat) : Int)])) w2) := fun sv w2 ⟨sv', Er', E', g1, g2, g3, g4, g5, g6, g7, g8, g9, g10, g11⟩ he => by
    have e1 : sv = sv' := by simpa using g1
    subst e1
    refine ⟨sv, rfl, g4, fun k hk => ⟨⟨(g8 k hk).2.2.1, fun y => (g8 k hk).1 (g3.same y).2⟩, (g8 k hk).2.2.2.imp id (fun y => by omega)⟩, (K1.mono (fun _ _ e => e.elim)).trans (g11.mono (fun k _ e => e.imp id Or.inl)), fun k hk => (g3.same hk).1, fun _ => ⟨Er', E', g2, g3, g5, g6, g7, fun k hk => ⟨(g8 k hk).1, (g8 k hk).2.1⟩, fun k hk => (g9 k hk).imp id (fun y => by omega), fun k hk => (g10 k hk).imp id (fun y => by omega)⟩, fun y => absurd he y⟩
  have FIN1 : Hid (∀ sv w2, GoP sb r b f tt xs Dp H Er E F.e (if F.e = 0 then 0 else F.z.at') F.z (fRun xs s F.ts) W1 (.returned (.tuple #[sv, .int .i64 (F.e : Nat), .int .i64 ((if F.e = 0 then 0 else F.z.at' : Nat) : Int)])) w2 → F.e ≠ 0 → w2.cell? ⟨xb, 0, none⟩ = some (.pointer (some ⟨sb, 0, none⟩)) ∧ Calls Tryz.prog 59 #[.pointer (some ⟨sb, 0, none⟩), .int .i64 (F.e : Nat), .int .i64 ((if F.e = 0 then 0 else F.z.at' : Nat) : Int)] w2 (fun r' w3 => r' = .returned (.tuple #[]) ∧ FdP sb r b f tt xs Dp H Er E F (fRun xs s F.ts) w (.returned (.tuple #[sv, .int .i64 (F.e : Nat), .int .i64 ((if F.e = 0 then 0 else F.z.at' : Nat) : Int)])) w3)) := fun sv w2 ⟨sv', Er', E', g1, g2, g3, g4, g5, g6, g7, g8, g9, g10, g11⟩ he => by
    have e1 : sv = sv' := by simpa using g1
    subst e1
    refine ⟨((X1.fr g11 (fun y => ?_)).cell 0), (s_stop g5 F.e (if F.e = 0 then 0 else F.z.at')).mono ?_⟩
    · rcases y with y | y
      · have := hErl _ y; omega
      have := hEl _ y; omega
    rintro r' w3 ⟨rfl, t1, t2⟩
    refine ⟨rfl, sv, rfl, own_at' g4 (fun k hk => t2.block k (g4.lt k hk).2 (fun y => (g8 k hk).2.2.1 y)), fun k hk => ⟨⟨(g8 k hk).2.2.1, fun y => (g8 k hk).1 (g3.same y).2⟩, (g8 k hk).2.2.2.imp id (fun y => by omega)⟩, ?_, fun k hk => (t2.block k (g3.lt (g3.same hk).2) (fun y => g7 (y ▸ (g3.same hk).2))).trans (g3.same hk).1, fun y => absurd y he, fun _ => ?_⟩
    · exact ((K1.mono (fun _ _ e => e.elim)).trans (g11.mono (fun k _ e => e.imp id Or.inl))).trans (t2.mono (fun k _ e => Or.inr (Or.inr e)))
    rw [if_neg he] at t1; exact t1
  have HW1 := hide hW1
  have HXB := hide hxb
  have HPB := hide hpb
  generalize hat : (if F.e = 0 then 0 else F.z.at') = at' at *
  clear R hroom hRr hB hz hF hdj hds hok hlk hst hwd hl hxx hnm K1 z1 X1 P1 B1 Z1 F1 hErl hEl hW1 hxb hpb hsb hFd hx hsel hpos hlen
  unfold fvp
  go_enter Tryz.func38, Tryz.ntmps38
  go_wp2_with fail
  rw [← HPB.out, ← HXB.out, ← HW1.out]
  refine GO.out.mono ?_
  intro res w2 hg
  obtain ⟨sv, _, _, rfl, _⟩ := id hg
  by_cases he : F.e = 0
  · have R0 := hide (FIN0.out sv w2 hg he)
    have hd : ((F.e : Int) != 0) = false := by rw [he]; rfl
    have hd2 : (F.e : Int) = 0 := by omega
    rw [hd2] at R0
    clear hg c0 c1 FIN0 FIN1 GO he
    go_wp2
    go_ret3
    exact R0.out
  obtain ⟨c3, ST⟩ := FIN1.out sv w2 hg he
  have TT := hide ST
  have hd : ((F.e : Int) != 0) = true := by rw [bne_iff_ne]; omega
  have hd2 : ¬ (F.e : Int) = 0 := by omega
  clear hg c0 c1 FIN0 FIN1 GO he ST
  go_wp2_with fail
  refine TT.out.mono ?_
  rintro r' w3 ⟨rfl, hf⟩
  have HF := hide hf
  clear hf
  go_wp2
  go_ret3
  exact HF.out
end Go.Proofs.YtcbadebjpogmlaaGreatDoor
namespace Go.Proofs.YtcbadebjpogmlaaGreatDoor
open Go.RowKit Tr
def QryV (w : World) (gq : Nat) (tt : ByteArray) (xs : List Sg) : Prop := ∃ b D, Ft D 0 w ∧ OkD D w (fun w => Blk w gq #[.pointer (some ⟨b, 0, none⟩)] 77 ∧ PlanV w b tt xs)
def CmD (s : ByteArray) (w : World) (r : Ending) (w' : World) : Prop :=
  Keeps w w' ∧ ((120 < s.size ∧ r = .returned (.tuple #[.pointer none, .int .i64 1, .int .i64 0])) ∨
    (s.size ≤ 120 ∧ ∃ e p : Nat, Err (bs s) e p ∧ r = .returned (.tuple #[.pointer none, .int .i64 e, .int .i64 p])) ∨
    (s.size ≤ 120 ∧ Fin (bs s) ∧ 10 < C (bs s) (s.size + 1) ∧ r = .returned (.tuple #[.pointer none, .int .i64 1, .int .i64 0])) ∨
    (s.size ≤ 120 ∧ Fin (bs s) ∧ C (bs s) (s.size + 1) ≤ 10 ∧ ∃ gq tt, r = .returned (.tuple #[.pointer (some ⟨gq, 0, none⟩), .int .i64 0, .int .i64 0]) ∧ QryV w' gq tt (pQuery (bs s)) ∧ bs tt = T (bs s) (s.size + 1) ∧ selN (pQuery (bs s)) ≤ 10))
set_option maxHeartbeats 2000000 in
theorem m_comp {w : World} {s : ByteArray} (hs : s.size ≤ maxLen) (he : EV w) : Calls Tryz.prog 26 #[.string s] w (CmD s w) := by
  have HE := hide he
  clear he
  by_cases h : s.size ≤ 120
  · go_enter Tryz.func26, Tryz.ntmps26
    go_wp2_with fail
    refine (m_make h HE.out).mono ?_
    rintro r w1 ⟨hk, hr⟩
    have K1 := hide hk
    clear hk
    rcases hr with ⟨e, p, hee, rfl⟩ | ⟨hf, hc, rfl⟩ | ⟨hf, hc, b, tt, D, rfl, ⟨hft, hok⟩, htt, hsl⟩
    · have hne : e ≠ 0 := by have := hee.st; omega
      have he3 : ((e : Int) != 0) = true := by rw [bne_iff_ne]; omega
      have HX := hide hee
      clear hee
      go_wp2
      go_ret3
      exact ⟨K1.out, Or.inr (Or.inl ⟨h, e, p, HX.out, rfl⟩)⟩
    · have HF := hide hf
      have HC := hide hc
      clear hf hc
      go_wp2
      go_ret3
      exact ⟨K1.out, Or.inr (Or.inr (Or.inl ⟨h, HF.out, HC.out, rfl⟩))⟩
    have RES : Hid (CmD s w (.returned (.tuple #[.pointer (some ⟨w1.heap.size, 0, none⟩), .int .i64 0, .int .i64 0])) (w1.alloc (.cells #[.pointer (some ⟨b, 0, none⟩)] 77))) := by
      refine ⟨K1.out.alloc _, Or.inr (Or.inr (Or.inr ⟨h, hf, hc, w1.heap.size, tt, rfl, ⟨b, fun k => D k ∨ k = w1.heap.size, ?_, fun w'' sm => ⟨?_, ?_⟩⟩, htt, hsl⟩))⟩
      · have sa := Sm.alloc hft (.cells #[.pointer (some ⟨b, 0, none⟩)] 77)
        exact ((hft.keep sa).low (Nat.zero_le _)).or (Ft.one (Blk.new w1 _ _) (by decide) (Nat.zero_le _))
      · exact (Blk.new w1 #[.pointer (some ⟨b, 0, none⟩)] 77).sm sm (Or.inr rfl)
      exact hok w'' (fun k hk => (sm k (Or.inl hk)).trans (Sm.alloc hft _ k hk))
    clear hf hc hft hok htt hsl
    go_wp2
    go_ret3
    exact RES.out
  go_enter Tryz.func26, Tryz.ntmps26
  go_wp2_with fail
  refine (m_make_long (by omega) hs).mono ?_
  rintro r w1 ⟨rfl, rfl⟩
  go_wp2
  go_ret3
  exact ⟨Fr.refl _ _, Or.inl ⟨by omega, rfl⟩⟩
end Go.Proofs.YtcbadebjpogmlaaGreatDoor
namespace Go.Proofs.YtcbadebjpogmlaaGreatDoor
open Go.RowKit Tr Go.Conc
set_option maxHeartbeats 1000000 in
set_option maxRecDepth 100000 in
theorem s_feed0 {w : World} {sb e at' : Nat} {c0 c1 : Value} (hB : Blk w sb #[c0, c1, .int .i64 (e : Nat), .int .i64 (at' : Nat)] 135) (he : e ≠ 0) (q : ByteArray) :
    Calls Tryz.prog 38 #[fvp sb, .string q] w fun r w' => r = .returned (.tuple #[.slice none 0 0, .int .i64 (e : Nat), .int .i64 (at' : Nat)]) ∧ Blk w' sb #[.pointer none, .pointer none, .int .i64 (e : Nat), .int .i64 (at' : Nat)] 135 ∧ Fr (fun k => k = sb) w w' := by
  obtain ⟨xb, hxb⟩ : ∃ xb, xb = w.heap.size := ⟨_, rfl⟩
  obtain ⟨W1, hW1⟩ : ∃ W1, W1 = (w.alloc (.cells #[.pointer (some ⟨sb, 0, none⟩)] 80)).alloc (.cells #[.string q] 9) := ⟨_, rfl⟩
  have K1 : Keeps w W1 := by rw [hW1]; exact ((Fr.refl _ w).alloc _).alloc _
  have hsb := hB.lt
  have X1 : Blk W1 xb #[fvp sb] 80 := by rw [hW1, hxb]; exact (Blk.new w _ _).alloc _
  have c0 : W1.cell? ⟨xb, 0, none⟩ = some (.pointer (some ⟨sb, 0, none⟩)) := X1.cell 0
  have c1 : W1.cell? ⟨w.heap.size + 1, 0, none⟩ = some (.string q) := by
    have := Blk.new (w.alloc (.cells #[.pointer (some ⟨sb, 0, none⟩)] 80)) #[.string q] 9
    rw [World.size_alloc, ← hW1] at this
    exact this.cell 0
  have GO : Hid (∀ rv, Calls Tryz.prog 57 #[.pointer (some ⟨sb, 0, none⟩), .string q, rv] W1 fun r w' => r = .returned (.tuple #[.slice none 0 0, .int .i64 (e : Nat), .int .i64 (at' : Nat)]) ∧ Keeps W1 w') := fun rv => s_goOn0 (hB.fr K1 id) he q rv
  have NX : Hid (∀ w2, Keeps W1 w2 → w2.cell? ⟨xb, 0, none⟩ = some (.pointer (some ⟨sb, 0, none⟩)) ∧ Calls Tryz.prog 59 #[.pointer (some ⟨sb, 0, none⟩), .int .i64 (e : Nat), .int .i64 (at' : Nat)] w2 (fun r w' => r = .returned (.tuple #[]) ∧ Blk w' sb #[.pointer none, .pointer none, .int .i64 (e : Nat), .int .i64 (at' : Nat)] 135 ∧ Fr (fun k => k = sb) w w')) := fun w2 k2 => by
    refine ⟨(X1.fr k2 id).cell 0, (s_stop (hB.fr (K1.trans k2) id) e at').mono ?_⟩
    rintro r w' ⟨rfl, t1, t2⟩
    exact ⟨rfl, t1, ((K1.trans k2).mono (fun _ _ e => e.elim)).trans t2⟩
  have hd : ((e : Int) != 0) = true := by rw [bne_iff_ne]; omega
  have hd2 : ¬ (e : Int) = 0 := by omega
  have HW1 := hide hW1
  have HXB := hide hxb
  clear hB hW1 K1 X1 hxb hsb he
  unfold fvp
  go_enter Tryz.func38, Tryz.ntmps38
  go_wp2_with fail
  rw [← HW1.out, ← HXB.out]
  refine (GO.out _).mono ?_
  rintro r w2 ⟨rfl, k2⟩
  obtain ⟨c3, ST⟩ := NX.out w2 k2
  have TT := hide ST
  clear ST k2 NX GO c0 c1
  go_wp2_with fail
  refine TT.out.mono ?_
  rintro r w3 ⟨rfl, t1, t2⟩
  have T1 := hide t1
  have T2 := hide t2
  clear t1 t2
  go_wp2
  go_ret3
  exact ⟨rfl, T1.out, T2.out⟩
end Go.Proofs.YtcbadebjpogmlaaGreatDoor
