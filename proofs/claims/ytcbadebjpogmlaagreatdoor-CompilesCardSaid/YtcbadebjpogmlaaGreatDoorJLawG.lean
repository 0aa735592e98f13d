/- The law Compiles, at whatever data comes in: what the row asks of one call, if the program's Compile and Text are right. -/
import Derived.Test.YtcbadebjpogmlaaGreatDoorJLawE
import Derived.Test.YtcbadebjpogmlaaGreatDoorCards
import Derived.WalkKit
import Derived.OpenShut
import Derived.ChangeStays
import Derived.Deep.Onto
import Derived.Test.YtcbadebjpogmlaaGreatDoorTie
import Derived.Deep.DeepHandedRow
import Derived.Deep.DeepWitnessRowRef
import Derived.Lib.LaidIn
namespace Go.Proofs.YtcbadebjpogmlaaGreatDoor
open Go.ChangeShapes Go.WideShapes Go.ChangeAt Go.RowKit

section
variable {H : Type} {enc : TypeId × Value → H} {P : Program}

/-- What comes in reads as it did, if no block of it has changed. -/
theorem post_of_keeps {f : Func} {s : ChangeSpec} {apart fresh handsOn again : Bool} {W W' : World} {args : Array Value} {v : Value} {ds gs : List (DataW H)} {before pa pv : List MemPlace}
    (hW : DataW.Whole enc P f.params.toList s.vars apart W args.toList ds gs before)
    (hres : ∀ (b : Nat) (sp : Nat → Bool) (hd : Bool), DataW.TrodAll enc P W' b sp hd f.resultTypes.toList (v.resultList f.resultTypes.size) (s.fn H (ds ++ gs)).results [])
    (hargs : ∀ sp : Nat → Bool, (∀ p ∈ before, sp p.block = true) → DataW.TrodAll enc P W' 0 sp true f.params.toList args.toList (s.fn H (ds ++ gs)).args pa)
    (hvars : ∀ sp : Nat → Bool, (∀ p ∈ before, sp p.block = true) → DataW.TrodVars enc P W' sp s.vars (s.fn H (ds ++ gs)).vars pv)
    (hps : before = pa ++ pv) (hk : Keeps W W')
    (hok : ∀ (j : Nat) (t : TypeId) (r : Value), f.resultTypes[j]? = some t → (v.resultList f.resultTypes.size)[j]? = some r → Value.okWide P W' .any 0 t r) :
    s.post enc P f apart fresh handsOn again W args v W' := by
  have hlt := hW.lt
  have hb : W.keptBut W' (· ∈ before) := (World.keptBut_refl W _).congr hk.os hk.output (fun i hi => hk.block i hi id)
  refine ⟨ds, gs, before, [], pa, pv, hW, hres _ _ _, hargs _ (fun p hp => by simpa using hlt p hp), hvars _ (fun p hp => by simpa using hlt p hp),
    World.keptBut_mono (fun p hp => ⟨hp, Or.inr (List.mem_append.1 (hps ▸ hp))⟩) hb, fun _ => ?_⟩
  obtain ⟨_, _, _, _, _, hz, hn⟩ := hW
  refine ⟨hok, _, _, ([] ++ pa) ++ pv, ⟨[] ++ pa, pv, trodAll_append (hargs _ (fun _ _ => rfl)) (hres _ _ _), hvars _ (fun _ _ => rfl), rfl, fun b off hp => ?_, fun ha => ?_⟩, fun p hp _ => ?_⟩
  · have hm : MemPlace.cell b off ∈ before := by rw [hps]; simpa using hp
    rw [hk.frozen (p := ⟨b, off, none⟩) (hlt _ hm) id]
    exact hz b off hm
  · have := hn ha
    rw [hps] at this
    simpa using this
  · rw [hps]; simpa using hp
end

/-- The types of a script. -/
def OpT (t : TypeId) : Prop := t = 22 ∨ t = 64 ∨ t = 3 ∨ t = 9

theorem opKids : Kids Tryz.prog OpT := by
  obtain ⟨f0, f1, f2, f3, hu, ⟨t0, o0⟩, ⟨t1, o1⟩, ⟨t2, o2⟩, ⟨t3, o3⟩⟩ := fieldsOp
  have u0 := Tryz.underlying22
  have u2 := Tryz.underlying3
  have u3 := Tryz.underlying9
  refine ⟨?_, ?_, ?_, ?_, ?_⟩
  · rintro t e (rfl | rfl | rfl | rfl) h
    · rw [u0] at h; cases h
    · rw [hu] at h; cases h
    · rw [u2] at h; cases h
    · rw [u3] at h; cases h
  · rintro t e (rfl | rfl | rfl | rfl) h
    · rw [u0] at h; cases h; exact Or.inr (Or.inl rfl)
    · rw [hu] at h; cases h
    · rw [u2] at h; cases h
    · rw [u3] at h; cases h
  · rintro t e n (rfl | rfl | rfl | rfl) h
    · rw [u0] at h; cases h
    · rw [hu] at h; cases h
    · rw [u2] at h; cases h
    · rw [u3] at h; cases h
  · rintro t fs (rfl | rfl | rfl | rfl) h
    · rw [u0] at h; cases h
    · rw [hu] at h; cases h
      refine ⟨fun f hf => ?_, ?_, fun j f hf => ?_⟩
      · simp at hf
        rcases hf with rfl | rfl | rfl | rfl
        · exact Or.inr (Or.inr (Or.inl t0))
        · exact Or.inr (Or.inr (Or.inl t1))
        · exact Or.inr (Or.inr (Or.inl t2))
        · exact Or.inr (Or.inr (Or.inr t3))
      · simp [t0, t1, t2, t3, cellsOp, cellsInt, cellsStr]
      · match j with
        | 0 => simp at hf; subst hf; simp [o0]
        | 1 => simp at hf; subst hf; simp [o1, t0, cellsInt]
        | 2 => simp at hf; subst hf; simp [o2, t0, t1, cellsInt]
        | 3 => simp at hf; subst hf; simp [o3, t0, t1, t2, cellsInt]
        | j + 4 => simp at hf
    · rw [u2] at h; cases h
    · rw [u3] at h; cases h
  · rintro t k e (rfl | rfl | rfl | rfl) h
    · rw [u0] at h; cases h
    · rw [hu] at h; cases h
    · rw [u2] at h; cases h
    · rw [u3] at h; cases h

theorem opPos {t e : TypeId} (h : OpT t) (hu : Tryz.prog.underlying t = some (.slice e)) : 0 < Tryz.prog.cellsOf e := by
  have := opKids.slice h hu
  rcases this with rfl | rfl | rfl | rfl
  · show 0 < Tryz.prog.cellsOf 22
    rw [show Tryz.prog.cellsOf 22 = 1 by kernel_rfl]; decide
  · rw [cellsOp]; decide
  · rw [cellsInt]; decide
  · rw [cellsStr]; decide

end Go.Proofs.YtcbadebjpogmlaaGreatDoor

/- The law Compiles, at whatever data comes in: what the row asks of one call, if the program's Compile and Text are right. -/
namespace Go.Proofs.YtcbadebjpogmlaaGreatDoor
open Go.ChangeShapes Go.WideShapes Go.ChangeAt Go.RowKit

section
variable {H : Type} {enc : TypeId × Value → H} {W : World}

theorem cells_get {w : World} {base n : Nat} {a : Addr} {cs : List Value} (h : w.cells? base a n = some cs) {j : Nat} {u : Value} (hj : cs[j]? = some u) : w.cell? (a.add j) = some u := by
  obtain ⟨_, hl, hc⟩ := World.cells?_some h
  have hlt : j < n := by rw [← hl]; exact (List.getElem?_eq_some_iff.1 hj).1
  rw [hc j hlt]; exact hj

/-- A list of steps by what each reads as. -/
theorem ops_of {w : World} {a : Addr} : ∀ (n : Nat), (∀ i, i < n → ∃ o : OpV, w.cells? 0 (a.add (i * 4)) 4 = some o.cells ∧ o.s.size ≤ maxLen) →
    ∃ ops : List OpV, ops.length = n ∧ (∀ o ∈ ops, o.s.size ≤ maxLen) ∧ ∀ k i u, k < n → i < 4 → (opCells ops)[k * 4 + i]? = some u → w.cell? (a.add (k * 4 + i)) = some u := by
  intro n h
  haveI : Inhabited OpV := ⟨⟨0, 0, 0, ⟨#[]⟩⟩⟩
  obtain ⟨f, hf⟩ := Deep.choose_lt (α := OpV) (p := fun i o => w.cells? 0 (a.add (i * 4)) 4 = some o.cells ∧ o.s.size ≤ maxLen) h
  refine ⟨(List.range n).map f, by simp, fun o ho => ?_, fun k i u hk hi hu => ?_⟩
  · obtain ⟨i, hi, rfl⟩ := List.mem_map.1 ho
    exact (hf i (List.mem_range.1 hi)).2
  · rw [opCells_get _ k i (by simpa using hk) hi] at hu
    have e : ((List.range n).map f)[k]'(by simpa using hk) = f k := by simp
    rw [e] at hu
    have := cells_get (hf k hk).1 hu
    rwa [Deep.add_add] at this

theorem slice_shape {P : Program} {w : World} {base : Nat} {t e : TypeId} {v : Value} (ht : P.underlying t = some (.slice e)) (h : Value.okWide P w .any base t v) :
    v = .slice none 0 0 ∨ ∃ a len cap, v = .slice (some a) len cap ∧ a.block < w.heap.size := by
  simp only [Value.okWide, Cell.okWide, Cell.ok, ht] at h
  split at h
  all_goals first
    | (rename_i heq; cases heq; done)
    | exact Or.inl rfl
    | (obtain ⟨_, _, _, _, _, _, hs, _⟩ := h
       refine Or.inr ⟨_, _, _, rfl, ?_⟩
       unfold World.shape? at hs
       split at hs
       · rename_i hh; exact lt_of_some hh
       · cases hs)
    | exact absurd h id

set_option maxRecDepth 100000 in
/-- A script, read. -/
theorem script_open {base : Nat} {v : Value} {d : DataW H} {pl : List MemPlace} (hok : Value.okWide Tryz.prog W .any base 22 v) (h : DataW.Trod enc Tryz.prog W 0 (fun _ => true) true 22 v d pl)
    (hz : ∀ es sp, d = .slice es sp → (es.length + sp.length) * 40 ≤ reachBytes) :
    ∃ (a : Option Addr) (n cp : Nat) (ops : List OpV), v = .slice a n cp ∧ ScriptAt W a n cp ops ∧ n * 40 ≤ reachBytes ∧ ∀ o ∈ ops, o.s.size ≤ maxLen := by
  obtain ⟨fuel, h⟩ := h
  rcases slice_shape Tryz.underlying22 hok with rfl | ⟨a, len, cap, rfl, hb⟩
  · exact ⟨none, 0, 0, [], rfl, Or.inl ⟨rfl, rfl, rfl, rfl⟩, by rw [Nat.zero_mul]; exact Nat.zero_le _, fun o ho => by cases ho⟩
  · rcases Deep.open_slice Tryz.underlying22 h with ⟨e, he⟩ | ⟨a', len', cap', m, n, D, Pl, e, _, hl, hm, hmm, hx, hc⟩
    · simp [Value.cells] at e
    · simp only [Value.cells, List.cons.injEq, Value.slice.injEq, Option.some.injEq, and_true] at e
      obtain ⟨rfl, rfl, rfl⟩ := e
      simp only [if_true] at hmm
      subst hmm
      rw [cellsOp] at hc
      have hd := congrArg Prod.fst hx
      have hz1 := hz _ _ hd
      simp only [List.length_map, List.length_range] at hz1
      obtain ⟨ops, h1, h2, h3⟩ := ops_of (w := W) (a := a) len (fun i hi => by
        obtain ⟨cs, hcs, htr⟩ := hc i (by omega)
        obtain ⟨o, rfl, ho⟩ := op_open htr
        exact ⟨o, hcs, ho⟩)
      refine ⟨some a, len, _, ops, rfl, Or.inr ⟨a, rfl, h1.symm, hb, fun j u hj => ?_⟩, by omega, h2⟩
      have hjl : j < len * 4 := by rw [← h1, ← opCells_len]; exact (List.getElem?_eq_some_iff.1 hj).1
      have e : j = j / 4 * 4 + j % 4 := by omega
      rw [e] at hj ⊢
      exact h3 (j / 4) (j % 4) u (by omega) (by omega) hj

set_option maxRecDepth 100000 in
/-- What the row asks of one call. -/
theorem contract (enc : TypeId × Value → H) (W : World) (base : Nat) (args : Array Value) (ds gs : List (DataW H)) (before : List MemPlace) (hX : SaidX W)
    (hval : ∀ (j : Nat) t v, Tryz.f3.params[j]? = some t → args[j]? = some v → Value.okWide Tryz.prog W .any base t v)
    (hW : DataW.Whole enc Tryz.prog Tryz.f3.params.toList Rows.compilesSpec.vars false W args.toList ds gs before)
    (hsz : (DataW.weightsEach Tryz.prog (Tryz.f3.params.toList ++ (OpenSpec.ofChange Rows.compilesSpec).bare.plain.varTypes Tryz.prog) (ds ++ gs)).all (· ≤ reachBytes) = true) :
    Calls Tryz.prog 3 args W fun e W' => ∃ v, e = .returned v ∧ Rows.compilesSpec.post enc Tryz.prog Tryz.f3 false true false false W args v W' := by
  have hW' := hW
  have hlt := hW.lt
  obtain ⟨p, q, hA0, hV, rfl, hfz, hnd⟩ := hW
  have hA : DataW.TrodAll enc Tryz.prog W 0 (fun _ => true) true Tryz.f3.params.toList args.toList ds p := hA0
  rw [Tryz.params3] at hA hval hsz
  obtain ⟨v0, vs0, d0, ds0, p0, q0, hargs, rfl, rfl, h0, r0⟩ := trodAll_cons hA
  obtain ⟨rfl, rfl, rfl⟩ := trodAll_nil r0
  obtain rfl : args = #[v0] := by cases args; simp_all
  obtain ⟨rfl, rfl⟩ := trodVars_none hV
  clear hA0 hA
  have h0' := h0
  obtain ⟨a, n, cp, ops, rfl, hsc, hn, hs⟩ := script_open (hval 0 22 v0 rfl rfl) h0 (fun es sp he => by
    have := sized_slice (j := 0) hsz rfl (congrArg some he) Tryz.underlying22
    rwa [bytesOp] at this)
  have hn2 : (n + 1) * 40 ≤ 140737488355328 := by unfold reachBytes at hn; omega
  refine (c_compiles hX hsc hn2 hs).mono ?_
  rintro e W' ⟨rfl, hk⟩
  simp only [List.append_nil] at hW' hlt
  refine ⟨_, rfl, post_of_keeps (pa := p0) (pv := []) hW' (fun _ _ _ => trodAll_cons_mk (shut_bool Tryz.underlying4 _) trodAll_mk0) (fun sp hsp => ?_) (fun _ _ => rfl) (by simp) hk (ok_one (by kernel_rfl) rfl (okWide_bool_mk Tryz.underlying4 _))⟩
  obtain ⟨fuel, ht⟩ := h0'
  have := DataW.trod_stays (w' := W') (sp' := sp) opKids opPos (fun hh => by cases hh) (Or.inl rfl) ht (fun pl hpl => by
    have hb := hlt pl hpl
    cases pl with
    | cell b off => exact hk.cell (p := ⟨b, off, none⟩) hb id
    | map b => exact hk.block b hb id) (fun pl hpl => hsp pl hpl)
  have r := trodAll_cons_mk (ts := []) ⟨fuel, this⟩ trodAll_mk0
  rw [Tryz.params3]
  simp only [List.append_nil] at r
  exact r
end

end Go.Proofs.YtcbadebjpogmlaaGreatDoor

/- The law Compiles: (witness) a world that holds what the row lists; the row's statement and the card, if the program's Compile and Text are right. -/
namespace Go.Proofs.YtcbadebjpogmlaaGreatDoor
open Go.ChangeShapes Go.WideShapes Go.ChangeAt Go.RowKit

theorem own : ownKnob Tryz.prog.godebug = none := by kernel_rfl

/-- A table's cells. -/
def lit1 : DataW Unit → Value
  | .lit (.int k n) => .int k n
  | _ => .nilIface
def flat1 : DataW Unit → List Value
  | .agg ps => ps.map lit1
  | d => [lit1 d]
def flat2 : DataW Unit → Array Value
  | .agg ps => (ps.flatMap flat1).toArray
  | _ => #[]
def putIn (h : Array Obj) (g : Nat) (cs : Array Value) : Array Obj := h.modify g fun
  | .cells _ t frozen => .cells cs t frozen
  | o => o
/-- The two errors' structs. -/
def errsH : Input := ⟨#[.cells #[.string ⟨#[118, 97, 108, 117, 101, 32, 111, 117, 116, 32, 111, 102, 32, 114, 97, 110, 103, 101]⟩] 336,
    .cells #[.string ⟨#[105, 110, 118, 97, 108, 105, 100, 32, 115, 121, 110, 116, 97, 120]⟩] 336], #[], []⟩
/-- A world in which the structs lie from N on, the listed variables holding what they are listed with. -/
def layIn (N : Nat) (w0 : World) : World :=
  let h0 := putIn (putIn w0.heap 7 #[.iface 334 (.pointer (some ⟨N, 0, none⟩))]) 6 #[.iface 334 (.pointer (some ⟨N + 1, 0, none⟩))]
  let h1 := putIn h0 4 (flat2 Rows.laid_math_bits_deBruijn32tab)
  let h2 := putIn h1 5 (flat2 Rows.laid_math_bits_deBruijn64tab)
  let h3 := putIn h2 0 (flat2 Rows.laid_internal_strconv_uint64pow10)
  let h4 := putIn h3 3 (flat2 Rows.laid_unicode_utf8_acceptRanges)
  let h5 := putIn h4 2 (flat2 Rows.laid_unicode_utf8_first)
  { w0 with heap := h5 }

set_option maxRecDepth 100000 in
theorem laid_met (os : Os) (args : Array Value) : laidMet Tryz.prog Rows.compilesRow.laid ((layIn (World.settled Tryz.prog os).heap.size (World.holding Tryz.prog os errsH)).forCall (fun _ _ => 0) ⟨#[], args, []⟩).memory :=
  (LaidIn.of_run [0, 1, 2, 3, 4, 5, 6, 7, (World.settled Tryz.prog default).heap.size, (World.settled Tryz.prog default).heap.size + 1] 8 (by kernel_rfl) (by kernel_rfl) (by kernel_rfl) (by kernel_rfl)).met

theorem witness_row (os : Os) {H : Type} (enc : TypeId × Value → H) :
    (OpenSpec.ofChange Rows.compilesSpec).preRow enc Tryz.prog Tryz.f3 Rows.compilesRow.domain false Rows.compilesRow.laid ((layIn (World.settled Tryz.prog os).heap.size (World.holding Tryz.prog os errsH)).forCall (fun _ _ => 0) ⟨#[], #[.slice none 0 0], []⟩).memory #[.slice none 0 0] := by
  have hw : (DataW.whole enc Tryz.prog ((layIn (World.settled Tryz.prog os).heap.size (World.holding Tryz.prog os errsH)).forCall (fun _ _ => 0) ⟨#[], #[.slice none 0 0], []⟩).memory Tryz.f3.params.toList Rows.compilesSpec.vars false #[Value.slice none 0 0].toList 8).map (fun x => (x.1, x.2.1)) =
      some ([.nil], []) := by kernel_rfl
  obtain ⟨⟨x1, x2, x3⟩, hx, hx1⟩ := Option.map_eq_some_iff.1 hw
  simp only [Prod.mk.injEq] at hx1
  obtain ⟨rfl, rfl⟩ := hx1
  exact OpenSpec.preRow_of_cond 8 hx (by kernel_rfl) (fun k hk => by cases hk) (by kernel_rfl) (laid_met os _)

theorem wit_v (os : Os) : ((layIn (World.settled Tryz.prog os).heap.size (World.holding Tryz.prog os errsH)).forCall (fun _ _ => 0) ⟨#[], #[.slice none 0 0], []⟩).variablesRefB Tryz.prog = true := by kernel_rfl
theorem wit_r (os : Os) : (((layIn (World.settled Tryz.prog os).heap.size (World.holding Tryz.prog os errsH)).forCall (fun _ _ => 0) ⟨#[], #[.slice none 0 0], []⟩).heap.toList.drop Tryz.prog.globals.size).take ((begin Tryz.prog (fun _ _ => 0) default).world.heap.size - Tryz.prog.globals.size) =
    (begin Tryz.prog (fun _ _ => 0) default).world.heap.toList.drop Tryz.prog.globals.size := by kernel_rfl
theorem wit_ok (os : Os) : Input.okWideB Tryz.prog ((layIn (World.settled Tryz.prog os).heap.size (World.holding Tryz.prog os errsH)).forCall (fun _ _ => 0) ⟨#[], #[.slice none 0 0], []⟩) 3 ⟨#[], #[.slice none 0 0], []⟩ = true := by kernel_rfl
theorem no_init : Tryz.prog.inits.idxOf? 3 = none := by kernel_rfl

end Go.Proofs.YtcbadebjpogmlaaGreatDoor
