/- What both Compiles answer, without a word on how a query lies in memory; the reference's does so. -/
import Derived.Test.YtcbadebjpogmlaaGreatDoorJRefK
import Derived.Maps.AppendAt
namespace Go.Proofs.YtcbadebjpogmlaaGreatDoor
open Go.RowKit Tr

theorem err_unique {s : List UInt8} {e e' p p' : Nat} (h : Err s e p) (h' : Err s e' p') : e = e' ∧ p = p' := by
  have h1 := h.ge h'.lv
  have h2 := h'.ge h.lv
  have hp : p = p' := by omega
  subst hp
  exact ⟨by have := h.st; have := h'.st; omega, rfl⟩
theorem err_fin {s : List UInt8} {e p : Nat} (h : Err s e p) (hf : Fin s) : False := by
  unfold Fin at hf
  have := h.ge (i := s.length + 1) (by omega)
  have := h.le
  omega

/-- Called in whatever world that agrees with w on the blocks from B to E, the function answers the text t. -/
def Tells (fn : FuncId) (g : Nat) (t : ByteArray) (B E : Nat) (w : World) : Prop :=
  ∀ w'' : World, (∀ k, B ≤ k → k < E → w''.heap[k]? = w.heap[k]?) → Calls Tryz.prog fn #[.pointer (some ⟨g, 0, none⟩)] w'' fun r w3 => r = .returned (.string t) ∧ Keeps w'' w3
theorem Tells.wide {fn : FuncId} {g : Nat} {t : ByteArray} {B E B' E' : Nat} {w : World} (h : Tells fn g t B E w) (h1 : B' ≤ B) (h2 : E ≤ E') : Tells fn g t B' E' w :=
  fun w'' hw => h w'' (fun k hk hk2 => hw k (by omega) (by omega))
theorem Tells.later {fn : FuncId} {g : Nat} {t : ByteArray} {B E : Nat} {w w' : World} (h : Tells fn g t B E w) (hw : ∀ k, B ≤ k → k < E → w'.heap[k]? = w.heap[k]?) : Tells fn g t B E w' :=
  fun w'' h2 => h w'' (fun k hk hk2 => (h2 k hk hk2).trans (hw k hk hk2))

/-- What a Compile answers (P2), and what Text then says (P3). -/
def CompP (fn : FuncId) (s : ByteArray) (w : World) (r : Ending) (w' : World) : Prop :=
  Keeps w w' ∧ ((120 < s.size ∧ r = .returned (.tuple #[.pointer none, .int .i64 1, .int .i64 0])) ∨
    (s.size ≤ 120 ∧ ∃ e p : Nat, Err (bs s) e p ∧ r = .returned (.tuple #[.pointer none, .int .i64 e, .int .i64 p])) ∨
    (s.size ≤ 120 ∧ Fin (bs s) ∧ 10 < C (bs s) (s.size + 1) ∧ r = .returned (.tuple #[.pointer none, .int .i64 1, .int .i64 0])) ∨
    (s.size ≤ 120 ∧ Fin (bs s) ∧ C (bs s) (s.size + 1) ≤ 10 ∧ ∃ (g : Nat) (t : ByteArray), r = .returned (.tuple #[.pointer (some ⟨g, 0, none⟩), .int .i64 0, .int .i64 0]) ∧ bs t = T (bs s) (s.size + 1) ∧ Tells fn g t w.heap.size w'.heap.size w'))

/-- The program's Compile and Text are right, in every world that keeps what lay in W (the library's variables among it). -/
def SaidX (W : World) : Prop := ∀ (w : World) (s : ByteArray), Keeps W w → s.size ≤ maxLen → Calls Tryz.prog 26 #[.string s] w (CompP 27 s w)

theorem bs_inj' {a b : ByteArray} (h : bs a = bs b) : a = b := by
  cases a; cases b
  simp only [bs] at h
  rw [ByteArray.mk.injEq]
  exact Array.toList_inj.1 h

theorem tells_ref {w w' : World} {gq : Nat} {l : List SegV} {v : Value} (h : HasQ w' (w.heap.size + 1) gq l v) : ∃ t, bs t = [36] ++ textOf l ∧ Tells 44 gq t w.heap.size w'.heap.size w' := by
  refine ⟨⟨([36] ++ textOf l).toArray⟩, by simp [bs], ?_⟩
  intro w'' hw
  have hg := h.blk.lt
  have h2 : HasQ w'' (w.heap.size + 1) gq l v := by
    refine ⟨h.ge, (hw gq (by have := h.ge; omega) hg).trans h.blk, ⟨h.own.1, ?_⟩, h.few, h.small⟩
    rcases h.own.2 with x | ⟨g, cap, cur, hv, hb, hgg, r⟩
    · exact Or.inl x
    · exact Or.inr ⟨g, cap, cur, hv, hb, (hw g (by omega) (lt_of_some hgg)).trans hgg, r⟩
  refine (c_refText h2).mono ?_
  rintro r w3 ⟨t, rfl, ht, rfl⟩
  refine ⟨?_, Fr.refl _ _⟩
  have : t = ⟨([36] ++ textOf l).toArray⟩ := bs_inj' (by rw [ht]; simp [bs])
  rw [this]

theorem saidY (w : World) (s : ByteArray) (hs : s.size ≤ maxLen) : Calls Tryz.prog 41 #[.string s] w (CompP 44 s w) := by
  by_cases h : s.size ≤ 120
  · refine (c_refCompile h).mono ?_
    rintro r w' ⟨hk, hr⟩
    refine ⟨hk, Or.inr ?_⟩
    rcases hr with ⟨e, p, he, hr⟩ | ⟨hf, hc, hr⟩ | ⟨hf, hc, gq, l, v, _, hr, hq, ht⟩
    · exact Or.inl ⟨h, e, p, he, hr⟩
    · exact Or.inr (Or.inl ⟨h, hf, hc, hr⟩)
    · obtain ⟨t, h1, h2⟩ := tells_ref hq
      exact Or.inr (Or.inr ⟨h, hf, hc, gq, t, hr, by rw [h1, ht], h2⟩)
  · refine (c_refCompile_long (by omega) hs).mono ?_
    rintro r w' ⟨hr, rfl⟩
    exact ⟨Fr.refl _ _, Or.inl ⟨by omega, hr⟩⟩

set_option maxHeartbeats 400000 in
theorem c_num {w : World} (n : Int) :
    Calls Tryz.prog 42 #[.int .i64 n] w fun r w' => r = .returned (.int .i64 n) ∧ w' = w := by
  go_enter Tryz.func42, Tryz.ntmps42
  go_wp2
  go_ret
  exact ⟨rfl, rfl⟩

theorem ret_bool2 {a b : Bool} (h : a = b) : Ending.returned (.bool a) = .returned (.bool b) := by rw [h]

/-- Which one a number picks. -/
def pickN (k : Int) (n : Nat) : Nat := if k < 0 ∨ (n : Int) ≤ k then 0 else k.toNat
theorem pickN_lt (k : Int) (n : Nat) (h : 0 < n) : pickN k n < n := by unfold pickN; split <;> omega

set_option maxHeartbeats 400000 in
theorem c_pick {w : World} (k : Int) (n : Nat) :
    Calls Tryz.prog 43 #[.int .i64 k, .int .i64 n] w fun r w' => r = .returned (.int .i64 (pickN k n : Nat)) ∧ w' = w := by
  by_cases h1 : k < 0
  · have e : pickN k n = 0 := by simp [pickN, h1]
    rw [e]
    clear e
    go_enter Tryz.func43, Tryz.ntmps43
    go_wp2
    go_ret
    exact ⟨rfl, rfl⟩
  · have d1 : decide (k < 0) = false := by simpa using h1
    by_cases h2 : (n : Int) ≤ k
    · have e : pickN k n = 0 := by simp [pickN, h2]
      rw [e]
      clear e
      go_enter Tryz.func43, Tryz.ntmps43
      go_wp2
      go_ret
      exact ⟨rfl, rfl⟩
    · have d2 : decide ((n : Int) ≤ k) = false := by simpa using h2
      have e : ((pickN k n : Nat) : Int) = k := by simp [pickN, h1, h2]; omega
      rw [e]
      clear e
      go_enter Tryz.func43, Tryz.ntmps43
      go_wp2
      go_ret
      exact ⟨rfl, rfl⟩

set_option maxRecDepth 100000 in
set_option maxHeartbeats 1000000 in
theorem c_among {w : World} (g : Nat) (k : Int) (h : Blk w g #[.int .i64 1, .int .i64 2] 3) :
    Calls Tryz.prog 29 #[.slice (some ⟨g, 0, none⟩) 2 2, .int .i64 k] w fun r w' => r = .returned (.bool (k == 1 || k == 2)) ∧ w' = w := by
  have k0 := h.cell 0
  have k1 := h.cell 1
  simp at k0 k1
  clear h
  go_enter Tryz.func29, Tryz.ntmps29
  go_wp2
  go_loop [5] (fun i => ∃ j : Nat, j ≤ 2 ∧ i = .int .i64 j ∧ (1 ≤ j → k ≠ 1) ∧ (2 ≤ j → k ≠ 2)) (fun i => 2 - (intOf i).toNat)
  case atStart => exact ⟨0, by omega, rfl, fun h => by omega, fun h => by omega⟩
  case round =>
    obtain ⟨j, hj, rfl, h1, h2⟩ := hrel
    have hj3 : j = 0 ∨ j = 1 ∨ j = 2 := by omega
    rcases hj3 with rfl | rfl | rfl
    · clear h1 h2
      by_cases h : k = 1
      · subst h
        go_wp2
        go_ret
        exact ⟨rfl, rfl⟩
      · have d : ((1 : Int) == k) = false := by rw [beq_eq_false_iff_ne]; omega
        have H := hide h
        clear h
        go_wp2
        go_round
        case rel => exact ⟨1, by omega, rfl, fun _ => H.out, fun h => by omega⟩
        case measure => simp [intOf]
    · have H1 := hide (h1 (Nat.le_refl _))
      clear h1 h2
      by_cases h : k = 2
      · subst h
        go_wp2
        go_ret
        exact ⟨rfl, rfl⟩
      · have d : ((2 : Int) == k) = false := by rw [beq_eq_false_iff_ne]; omega
        have H := hide h
        clear h
        go_wp2
        go_round
        case rel => exact ⟨2, by omega, rfl, fun _ => H1.out, fun _ => H.out⟩
        case measure => simp [intOf]
    · have e : (k == 1 || k == 2) = false := by
        have := h1 (by omega)
        have := h2 (Nat.le_refl _)
        simp; omega
      have HE := hide e
      clear h1 h2 e
      go_wp2
      go_ret
      exact ⟨ret_bool2 HE.out.symm, rfl⟩

end Go.Proofs.YtcbadebjpogmlaaGreatDoor

/- The law's World: what it holds; its step 'compiled' answers true, and keeps what it holds. -/
namespace Go.Proofs.YtcbadebjpogmlaaGreatDoor
open Go.RowKit Tr

def CodeOf (s : ByteArray) (e p : Nat) : Prop := (120 < s.size ∧ e = 1 ∧ p = 0) ∨ (s.size ≤ 120 ∧ Err (bs s) e p) ∨ (s.size ≤ 120 ∧ Fin (bs s) ∧ 10 < C (bs s) (s.size + 1) ∧ e = 1 ∧ p = 0)
def Good (s : ByteArray) : Prop := s.size ≤ 120 ∧ Fin (bs s) ∧ C (bs s) (s.size + 1) ≤ 10
theorem code_unique {s : ByteArray} {e p e' p' : Nat} (h : CodeOf s e p) (h' : CodeOf s e' p') : e = e' ∧ p = p' := by
  rcases h with ⟨a, b, c⟩ | ⟨a, b⟩ | ⟨a, b, c, d, f⟩ <;> rcases h' with ⟨a', b', c'⟩ | ⟨a', b'⟩ | ⟨a', b', c', d', f'⟩
  all_goals first | omega | exact err_unique b b' | exact absurd b' (fun x => err_fin b x) | exact absurd b (fun x => err_fin b' x)
theorem code_good {s : ByteArray} {e p : Nat} (h : CodeOf s e p) (g : Good s) : False := by
  obtain ⟨g1, g2, g3⟩ := g
  rcases h with ⟨a, _⟩ | ⟨_, b⟩ | ⟨_, _, c, _⟩
  · omega
  · exact err_fin b g2
  · omega
theorem comp_two {fn : FuncId} {s : ByteArray} {w w' : World} {r : Ending} (h : CompP fn s w r w') :
    Keeps w w' ∧ ((∃ e p : Nat, CodeOf s e p ∧ r = .returned (.tuple #[.pointer none, .int .i64 e, .int .i64 p])) ∨
      (Good s ∧ ∃ (g : Nat) (t : ByteArray), r = .returned (.tuple #[.pointer (some ⟨g, 0, none⟩), .int .i64 0, .int .i64 0]) ∧ bs t = T (bs s) (s.size + 1) ∧ Tells fn g t w.heap.size w'.heap.size w')) := by
  obtain ⟨hk, h⟩ := h
  refine ⟨hk, ?_⟩
  rcases h with ⟨a, b⟩ | ⟨a, e, p, b, c⟩ | ⟨a, b, c, d⟩ | ⟨a, b, c, d⟩
  · exact Or.inl ⟨1, 0, Or.inl ⟨a, rfl, rfl⟩, b⟩
  · exact Or.inl ⟨e, p, Or.inr (Or.inl ⟨a, b⟩), c⟩
  · exact Or.inl ⟨1, 0, Or.inr (Or.inr ⟨a, b, c, rfl, rfl⟩), d⟩
  · exact Or.inr ⟨⟨a, b, c⟩, d⟩

/-- A pair of queries that the law holds; all of it lies in the blocks from B to E. -/
structure PV where
  gp : Nat
  gx : Nat
  gq : Nat
  B : Nat
  E : Nat
  t : ByteArray

structure PairOk (w : World) (gw : Nat) (lv : Value) (p : PV) : Prop where
  b : gw < p.B
  e : p.E ≤ w.heap.size
  gp : p.B ≤ p.gp ∧ p.gp < p.E
  pb : Blk w p.gp #[.pointer (some ⟨p.gx, 0, none⟩), .pointer (some ⟨p.gq, 0, none⟩)] 95
  tx : Tells 27 p.gx p.t p.B p.E w
  ty : Tells 44 p.gq p.t p.B p.E w
  far : ∀ k, lv.ownBlock = some k → ¬ (p.B ≤ k ∧ k < p.E)

def ptrs (ps : List PV) : List Value := ps.map (fun p => .pointer (some ⟨p.gp, 0, none⟩))

structure LW (w : World) (gw : Nat) (ps : List PV) (lv : Value) : Prop where
  blk : Blk w gw #[lv, .slice none 0 0, .slice none 0 0, .slice none 0 0, .slice none 0 0, .slice none 0 0, .int .i64 0] 61
  own : w.ownsRow (gw + 1) 93 1 lv ps.length (ptrs ps)
  prs : ∀ p ∈ ps, PairOk w gw lv p

theorem PairOk.later {w w' : World} {gw : Nat} {lv lv' : Value} {p : PV} (h : PairOk w gw lv p) (hs : w.heap.size ≤ w'.heap.size) (hw : ∀ k, p.B ≤ k → k < p.E → w'.heap[k]? = w.heap[k]?) (hf : ∀ k, lv'.ownBlock = some k → ¬ (p.B ≤ k ∧ k < p.E)) : PairOk w' gw lv' p :=
  ⟨h.b, Nat.le_trans h.e hs, h.gp, (hw p.gp h.gp.1 h.gp.2).trans h.pb, h.tx.later hw, h.ty.later hw, hf⟩
theorem LW.keep {w w' : World} {gw : Nat} {ps : List PV} {lv : Value} (h : LW w gw ps lv) (f : Keeps w w') : LW w' gw ps lv :=
  ⟨h.blk.fr f id, own_fr h.own f (fun _ _ => id), fun p hp => (h.prs p hp).later f.size (fun k _ hk2 => f.block k (by have := (h.prs p hp).e; omega) id) (h.prs p hp).far⟩

/-- What may turn: the World's own block and its row of queries. -/
def KW (gw : Nat) (lv : Value) : Nat → Prop := fun k => k = gw ∨ lv.ownBlock = some k

def StepP (gw : Nat) (ps : List PV) (lv : Value) (w : World) (r : Ending) (w' : World) : Prop :=
  r = .returned (.bool true) ∧ ∃ ps' lv', LW w' gw ps' lv' ∧ ps.length ≤ ps'.length ∧ ps'.length ≤ ps.length + 1 ∧ Fr (KW gw lv) w w' ∧ (∀ k, lv'.ownBlock = some k → lv.ownBlock = some k ∨ w.heap.size ≤ k)

/-- Behind 'compiled': a query more, if it is right. -/
def StepC (gw : Nat) (ps : List PV) (lv : Value) (s : ByteArray) (w : World) (r : Ending) (w' : World) : Prop :=
  r = .returned (.bool true) ∧ ∃ ps' lv', LW w' gw ps' lv' ∧ ps.length ≤ ps'.length ∧ ps'.length ≤ ps.length + 1 ∧ Fr (KW gw lv) w w' ∧ (∀ k, lv'.ownBlock = some k → lv.ownBlock = some k ∨ w.heap.size ≤ k) ∧ (Good s → ps'.length = ps.length + 1)

theorem Tryz.infoPairPtr : (Tryz.prog.info? 93).map (fun i => (i.zero, i.size, i.bytes)) = some (some (.pointer none), 1, 8) := by kernel_rfl

theorem grow_pair {w w1 w3 w4 : World} {gw gx gq : Nat} {ps : List PV} {lv v' : Value} {t : ByteArray} (h : LW w gw ps lv) (k1 : Keeps w w1) (k2 : Keeps w1 w3)
    (tx : Tells 27 gx t w.heap.size w1.heap.size w1) (ty : Tells 44 gq t w1.heap.size w3.heap.size w3) (l2 : LW w3 gw ps lv)
    (hown : w4.ownsRow (gw + 1) 93 1 v' (ps.length + 1) (ptrs ps ++ [.pointer (some ⟨w3.heap.size, 0, none⟩)]))
    (hg : ((w3.alloc (.cells #[.pointer (some ⟨gx, 0, none⟩), .pointer (some ⟨gq, 0, none⟩)] 95)).alloc (.cells #[.pointer (some ⟨w3.heap.size, 0, none⟩)] 93)).grownBy w4 lv.ownBlock)
    (hat : v'.ownBlock = lv.ownBlock ∨ v'.ownBlock = some (w3.heap.size + 1 + 1)) :
    Blk w4 gw #[lv, .slice none 0 0, .slice none 0 0, .slice none 0 0, .slice none 0 0, .slice none 0 0, .int .i64 0] 61 ∧
    LW (w4.setCell ⟨gw, 0, none⟩ v') gw (ps ++ [⟨w3.heap.size, gx, gq, w.heap.size, w3.heap.size + 1, t⟩]) v' ∧
    Fr (KW gw lv) w (w4.setCell ⟨gw, 0, none⟩ v') ∧ (∀ k, v'.ownBlock = some k → lv.ownBlock = some k ∨ w.heap.size ≤ k) := by
  have hrow : ∀ k, lv.ownBlock = some k → gw + 1 ≤ k ∧ k < w.heap.size := fun k hk => h.own.lt k hk
  have hgw : gw < w.heap.size := h.blk.lt
  have s1 := k1.size
  have s2 := k2.size
  have hsz : w3.heap.size + 2 ≤ w4.heap.size := by have := hg.size; simp at this; omega
  have hB : Blk w4 gw #[lv, .slice none 0 0, .slice none 0 0, .slice none 0 0, .slice none 0 0, .slice none 0 0, .int .i64 0] 61 :=
    ((l2.blk.alloc _).alloc _).grown hg (fun k hk => by have := (hrow k hk).1; omega)
  -- what lies between the World's block and the new row stands
  have ag : ∀ k, k < w3.heap.size → k ≠ gw → lv.ownBlock ≠ some k → (w4.setCell ⟨gw, 0, none⟩ v').heap[k]? = w3.heap[k]? := fun k hk h1 h2 => by
    rw [Below.heap_setCell _ _ _ _ h1, hg.block k (by simp; omega) (fun e => h2 e.symm), Below.heap_alloc _ _ _ (by simp; omega), Below.heap_alloc _ _ _ hk]
  have hfar : ∀ k, v'.ownBlock = some k → lv.ownBlock = some k ∨ w3.heap.size + 2 ≤ k := fun k hk => by
    rcases hat with e | e
    · left; rw [← e]; exact hk
    · right; rw [e] at hk; simp only [Option.some.injEq] at hk; omega
  have hnew : Blk (w4.setCell ⟨gw, 0, none⟩ v') w3.heap.size #[.pointer (some ⟨gx, 0, none⟩), .pointer (some ⟨gq, 0, none⟩)] 95 := by
    have b1 := (Blk.new w3 #[.pointer (some ⟨gx, 0, none⟩), .pointer (some ⟨gq, 0, none⟩)] 95).alloc (.cells #[.pointer (some ⟨w3.heap.size, 0, none⟩)] 93)
    have b2 : w4.heap[w3.heap.size]? = _ := hg.block w3.heap.size (by simp; omega) (fun e => by have := (hrow _ e.symm).2; omega)
    exact Blk.other (b2.trans b1) (by omega) 0 v'
  refine ⟨hB, ⟨hB.set 0 v', ?_, ?_⟩, ?_, ?_⟩
  · have := own_fr hown ((Fr.refl (fun i => i = gw) w4).setCell ⟨gw, 0, none⟩ (Or.inl rfl) v') (fun i hi e => by omega)
    simpa [ptrs] using this
  · intro p hp
    rw [List.mem_append] at hp
    rcases hp with hp | hp
    · have hp2 := l2.prs p hp
      have hp0 := h.prs p hp
      refine hp2.later (by simp [World.setCell]; omega) (fun k hk1 hk2 => ag k (by have := hp2.e; omega) (by have := hp2.b; omega) (fun e => hp2.far k e ⟨hk1, hk2⟩)) (fun k hk => ?_)
      rcases hfar k hk with e | e
      · exact hp2.far k e
      · have := hp2.e; omega
    · simp at hp
      subst hp
      refine ⟨by simp only; omega, by simp [World.setCell]; omega, by simp only; omega, hnew, ?_, ?_, ?_⟩
      · refine (tx.later (fun k hk1 hk2 => ?_)).wide (Nat.le_refl _) (by simp only; omega)
        rw [ag k (by omega) (by omega) (fun e => by have := (hrow k e).2; omega)]
        exact k2.block k hk2 id
      · refine (ty.later (fun k hk1 hk2 => ?_)).wide s1 (by simp only; omega)
        exact ag k hk2 (by omega) (fun e => by have := (hrow k e).2; omega)
      · intro k hk
        simp only
        rcases hfar k hk with e | e
        · have := (hrow k e).2; omega
        · omega
  · have f1 : Fr (KW gw lv) w w3 := (k1.trans k2).mono (fun _ _ x => x.elim)
    exact (((f1.alloc _).alloc _).grown hg (fun k hk => Or.inr (Or.inr hk))).setCell ⟨gw, 0, none⟩ (Or.inl (Or.inl rfl)) v'
  · intro k hk
    rcases hfar k hk with e | e
    · exact Or.inl e
    · right; omega

set_option maxRecDepth 100000 in
set_option maxHeartbeats 4000000 in
theorem c_compiledG {W : World} (hX : SaidX W) {w : World} (hK : Keeps W w) {gw : Nat} {ps : List PV} {lv : Value} (h : LW w gw ps lv) (hn : ps.length ≤ 8796093022208) (s : ByteArray) (hs : s.size ≤ maxLen) :
    Calls Tryz.prog 28 #[.pointer (some ⟨gw, 0, none⟩), .string s] w (StepC gw ps lv s w) := by
  obtain ⟨i0, hi, hz0, hz1, hz2⟩ := info_parts Tryz.infoPairPtr
  have HI := hide hi
  have HZ0 := hide hz0
  have HZ1 := hide hz1
  have HZ2 := hide hz2
  have HH := hide h
  have HX := hide hX
  have HK := hide hK
  have HS := hide hs
  clear hi hz0 hz1 hz2 h hX hs hK
  go_enter Tryz.func28, Tryz.ntmps28
  go_wp2_with fail
  refine (HX.out w s HK.out HS.out).mono ?_
  rintro r w1 hc1
  obtain ⟨k1, hx⟩ := comp_two hc1
  have K1 := hide k1
  clear hc1 k1
  rcases hx with ⟨e, p, ce, rfl⟩ | ⟨gd, gx, t, rfl, ht, htx⟩
  · have CE := hide ce
    clear ce
    go_wp2_with fail
    refine (saidY w1 s HS.out).mono ?_
    rintro r w2 hc2
    obtain ⟨k2, hy⟩ := comp_two hc2
    have K2 := hide (K1.out.trans k2)
    clear hc2 k2
    rcases hy with ⟨e', p', ce', rfl⟩ | ⟨gd, _⟩
    · obtain ⟨rfl, rfl⟩ := code_unique CE.out ce'
      clear ce'
      go_wp2_with fail
      refine (c_num _).mono ?_
      rintro r w3 ⟨rfl, rfl⟩
      go_wp2_with fail
      refine (c_num _).mono ?_
      rintro r w3 ⟨rfl, rfl⟩
      go_wp2
      go_ret
      exact ⟨rfl, ps, lv, HH.out.keep K2.out, Nat.le_refl _, Nat.le_succ _, K2.out.mono (fun _ _ x => x.elim), fun k hk => Or.inl hk, fun g => (code_good CE.out g).elim⟩
    · exact (code_good CE.out gd).elim
  · have GD := hide gd
    have HT := hide ht
    have TX := hide htx
    clear gd ht htx
    go_wp2_with fail
    refine (saidY w1 s HS.out).mono ?_
    rintro r w2 hc2
    obtain ⟨k2, hy⟩ := comp_two hc2
    have K2 := hide k2
    clear hc2 k2
    rcases hy with ⟨e', p', ce', rfl⟩ | ⟨_, gq, t', rfl, ht', hty⟩
    · exact (code_good ce' GD.out).elim
    · have et : t' = t := bs_inj' (by rw [ht', HT.out])
      subst et
      have TY := hide hty
      clear hty ht'
      have L2 := hide (HH.out.keep (K1.out.trans K2.out))
      have b0 := L2.out.blk.cell 0
      simp at b0
      have bf := L2.out.blk.fz 0
      have hgw := L2.out.blk.lt
      obtain ⟨a0, c0, rfl⟩ := own_slice L2.out.own
      have hown2 := L2.out.own
      go_wp2_with fail
      refine (c_num _).mono ?_
      rintro r w3 ⟨rfl, rfl⟩
      go_wp2_with fail
      refine (c_num _).mono ?_
      rintro r w3 ⟨rfl, rfl⟩
      go_wp2_with (at_builtin; refine wpList_append_own_at _ rfl _ _ 56 rfl (gw + 1) 93 i0 _ 1 8 Tryz.underlying56 HI.out HZ0.out HZ1.out HZ2.out rfl (by decide) (.slice a0 ps.length c0) ps.length (ptrs ps) rfl ((hown2.alloc _).alloc _) ⟨w3.heap.size + 1, 0, none⟩ 1 1 [.pointer (some ⟨w3.heap.size, 0, none⟩)] rfl rfl ?c1 ?c2 ?c3 ?c4 ?c5 ?_)
      case c1 =>
        intro j u hj
        match j, hj with
        | 0, hj => simp at hj; subst hj; simp [Addr.add]
      case c2 => intro u hu; simp at hu; subst hu; rfl
      case c3 => unfold maxLen; omega
      case c4 => omega
      case c5 => simp; omega
      intro v' w4 hown4 hgrow _ hat
      have R := hide (grow_pair HH.out K1.out K2.out TX.out TY.out L2.out hown4 hgrow hat)
      have B4 : Blk w4 gw _ _ := R.out.1
      have f4 := B4.fz 0
      have k4 := B4.cell 0
      simp at k4
      obtain ⟨a4, c4, rfl⟩ := own_slice hown4
      clear hown4 hgrow hat hown2
      go_wp2
      go_ret
      exact ⟨rfl, _, _, R.out.2.1, by simp, by simp, R.out.2.2.1, R.out.2.2.2, fun _ => by simp⟩

theorem c_compiled {W : World} (hX : SaidX W) {w : World} (hK : Keeps W w) {gw : Nat} {ps : List PV} {lv : Value} (h : LW w gw ps lv) (hn : ps.length ≤ 8796093022208) (s : ByteArray) (hs : s.size ≤ maxLen) :
    Calls Tryz.prog 28 #[.pointer (some ⟨gw, 0, none⟩), .string s] w (StepP gw ps lv w) :=
  (c_compiledG hX hK h hn s hs).mono fun _ _ ⟨h1, ps', lv', h2, h3, h4, h5, h6, _⟩ => ⟨h1, ps', lv', h2, h3, h4, h5, h6⟩

end Go.Proofs.YtcbadebjpogmlaaGreatDoor
