import Derived.Test.YtcbadebjpogmlaaGreatDoorJShelf
import Derived.Test.YtcbadebjpogmlaaGreatDoorJMkA
import Derived.Laws.AppendOwn
namespace Go.Proofs.YtcbadebjpogmlaaGreatDoor
open Go.RowKit Tr
theorem cnt_eq {q : ByteArray} (hf : FinP (bs q)) {q0 c K n : Nat} {o : List UInt8} {t : St} {m : Bool} (he : t.e = 0) (h : Live (bs q) q0 c K o n (countQ (bs q) t m)) (hK : K = 7 ∨ K = 9 ∨ K = 14 ∨ K = 18)
    {k : Nat} (hk : RunP isDig q t.p k) : countQ (bs q) t m = { t with p := k } ∧ k ≤ t.p + 3 := by
  have hnd := fin_nodig hf h hK
  have he0 := h.e0
  unfold countQ at hnd he0 ⊢
  split at hnd
  · rename_i hc
    rw [if_pos hc] at he0
    simp [wrong, he] at he0
  rename_i hc
  rw [if_neg hc] at he0
  rw [if_neg hc]
  have hd : isDig (bt (bs q) t.p) = true := by
    simp only [not_or] at hc
    have := hc.1
    simpa [digit, he] using this
  split at hnd
  · rename_i h48
    rw [if_pos h48]
    have e1 : run isDig (bs q) 1 t.p = t.p + 1 := by simp [run, hd]
    have := run_of (K := 1) hk (by decide) (by rw [e1]; exact hnd)
    rw [e1] at this
    subst this
    exact ⟨rfl, by omega⟩
  rename_i h48
  rw [if_neg h48]
  have e1 : (runP isDig (bs q) 3 t) = { t with p := run isDig (bs q) 3 t.p } := by unfold runP; rw [if_pos he]
  rw [e1] at hnd ⊢
  have := run_of (K := 3) hk (by decide) hnd
  have h3 := run_le isDig (bs q) 3 t.p
  rw [this] at h3 ⊢
  exact ⟨rfl, h3⟩
theorem word_eq {q : ByteArray} {t : St} (he : t.e = 0) (h0 : (wordP (bs q) t).e = 0) (hn : isLet (bt (bs q) (wordP (bs q) t).p) = false) {k : Nat} (hk : RunP isLet q t.p k) : wordP (bs q) t = { t with p := k } := by
  unfold wordP at h0 hn ⊢
  rw [if_pos he] at h0 hn ⊢
  split at hn
  · rename_i hr
    rw [if_pos hr] at h0
    cases h0
  rename_i hr
  rw [if_neg hr]
  rw [run_of (K := 8) hk (by decide) hn]
theorem quote_eq {q : ByteArray} {t : St} (h0 : (must1 (bs q) (runP isQuo (bs q) 8 t) 39).e = 0) {k : Nat} (hk : RunP isQuo q t.p k) :
    must1 (bs q) (runP isQuo (bs q) 8 t) 39 = { t with p := k + 1 } ∧ tk q k ⟨#[39]⟩ = true := by
  obtain ⟨h1, h2⟩ := must1_e h0
  have he : t.e = 0 := by
    have := (sees_e h1).1
    unfold runP at this
    split at this
    · assumption
    exact this
  have e1 : (runP isQuo (bs q) 8 t) = { t with p := run isQuo (bs q) 8 t.p } := by unfold runP; rw [if_pos he]
  have hb := (sees_e h1).2
  rw [e1] at hb
  have hn : isQuo (bt (bs q) (run isQuo (bs q) 8 t.p)) = false := by
    have hb' : bt (bs q) (run isQuo (bs q) 8 t.p) = 39 := hb
    rw [hb']; decide
  have e2 := run_of (K := 8) hk (by decide) hn
  rw [h2, e1]
  rw [e1, e2] at h1
  rw [e2]
  refine ⟨rfl, ?_⟩
  have := tk1 q (t := { t with p := k }) he 39
  exact this.trans h1
end Go.Proofs.YtcbadebjpogmlaaGreatDoor
namespace Go.Proofs.YtcbadebjpogmlaaGreatDoor
open Go.RowKit Tr
def pkd (d : Dat) : Nat := if d.kind = 1 then 3 else if d.kind = 2 then 4 else if d.kind = 3 then (if d.s = wTrue then 2 else if d.s = wFalse then 1 else 0) else if d.kind = 4 then 5 else 6
def ptx (d : Dat) : List UInt8 := if d.kind = 2 then d.s.take 9 else []
def bsb (l : List UInt8) : ByteArray := ⟨l.toArray⟩
theorem bs_bsb (l : List UInt8) : bs (bsb l) = l := by simp [bs, bsb]
def pcl (d : Dat) (par : Value) (ix : Nat) (sv : Value) : Array Value :=
  #[.int .i64 (pkd d : Nat), .int .i64 (d.frm : Nat), .int .i64 (d.to : Nat), .int .i64 d.n, .string (bsb (ptx d)), par, .int .i64 (ix : Nat), .string (bsb d.name), sv]
def pvp (A : Nat → Nat) (t : Tv) : Value := .pointer (some ⟨A t.d.frm, 0, none⟩)
structure DOk (d : Dat) : Prop where
  k : d.kind = 1 ∨ d.kind = 2 ∨ d.kind = 3 ∨ d.kind = 4 ∨ d.kind = 5
  w : d.kind = 3 → d.s = wTrue ∨ d.s = wFalse ∨ d.s = wNull
  s : d.kind = 1 → d.s = []
  n : d.kind = 2 ∨ d.kind = 3 → d.n = 0
def PT (w : World) (A : Nat → Nat) (D : Nat → Prop) : Nat → Value → Nat → Tv → Prop
  | 0, _, _, _ => False
  | n + 1, par, ix, t => D (A t.d.frm) ∧ DOk t.d ∧ t.ws.length ≤ 4000000 ∧ (∃ sv, Blk w (A t.d.frm) (pcl t.d par ix sv) 130 ∧ (∀ k, sv.ownBlock = some k → D k) ∧ w.ownsRow 0 71 1 sv t.ws.length (t.ws.map (pvp A))) ∧
    ∀ i (h : i < t.ws.length), PT w A D n (pvp A t) i (t.ws[i])
theorem own_at' {w w' : World} {base : Nat} {e : TypeId} {sz : Nat} {v : Value} {n : Nat} {xs : List Value} (h : w.ownsRow base e sz v n xs) (hk : ∀ k, v.ownBlock = some k → w'.heap[k]? = w.heap[k]?) : w'.ownsRow base e sz v n xs := by
  refine ⟨h.1, ?_⟩
  rcases h.2 with x | ⟨k, cap, cur, h1, h2, h3, h4⟩
  · exact Or.inl x
  exact Or.inr ⟨k, cap, cur, h1, h2, (hk k (by rw [h1]; rfl)).trans h3, h4⟩
theorem PT.keep {w w' : World} {A : Nat → Nat} {D : Nat → Prop} (hD : ∀ k, D k → w'.heap[k]? = w.heap[k]?) : ∀ (n : Nat) (par : Value) (ix : Nat) (t : Tv), PT w A D n par ix t → PT w' A D n par ix t
  | 0, _, _, _, h => h
  | n + 1, _, _, _, ⟨h2, hd, hl, ⟨sv, h3, h4, h5⟩, h6⟩ => ⟨h2, hd, hl, ⟨sv, (hD _ h2).trans h3, h4, own_at' h5 (fun k hk => hD k (h4 k hk))⟩, fun i hi => PT.keep hD n _ i _ (h6 i hi)⟩
structure PC (w : World) (A : Nat → Nat) (t : Tv) (par : Value) (ix : Nat) (sv : Value) : Prop where
  b : Blk w (A t.d.frm) (pcl t.d par ix sv) 130
  o : w.ownsRow 0 71 1 sv t.ws.length (t.ws.map (pvp A))
  d : DOk t.d
  l : t.ws.length ≤ 4000000
theorem PT.pc {w : World} {A : Nat → Nat} {D : Nat → Prop} {n : Nat} {par : Value} {ix : Nat} {t : Tv} (h : PT w A D n par ix t) : ∃ sv, PC w A t par ix sv := by
  cases n with
  | zero => exact absurd h id
  | succ n =>
    obtain ⟨_, hd, hl, ⟨sv, h3, _, h5⟩, _⟩ := h
    exact ⟨sv, h3, h5, hd, hl⟩
theorem PT.kid {w : World} {A : Nat → Nat} {D : Nat → Prop} {n : Nat} {par : Value} {ix : Nat} {t : Tv} (h : PT w A D n par ix t) {i : Nat} (hi : i < t.ws.length) : PT w A D (n - 1) (pvp A t) i (t.ws[i]) := by
  cases n with
  | zero => exact absurd h id
  | succ n => exact h.2.2.2.2 i hi
theorem PC.at_ {w : World} {A : Nat → Nat} {t : Tv} {par : Value} {ix : Nat} {sv : Value} (h : PC w A t par ix sv) {k : Nat} (hk : k < t.ws.length) : ∃ g cap, sv = .slice (some ⟨g, 0, none⟩) t.ws.length cap ∧ w.cell? ⟨g, k, none⟩ = some (.pointer (some ⟨A (t.ws[k]).d.frm, 0, none⟩)) := by
  obtain ⟨g, cap, hv, _, hgl⟩ := h.o.form (by omega)
  refine ⟨g, cap, hv, ?_⟩
  have h2 := h.o
  rw [hv] at h2
  have := h2.cellAt k (by omega)
  rw [this]
  simp [pvp, hk]
def optA (A : Nat → Nat) (o : Option Tv) : Value := match o with
  | none => .pointer none
  | some t => pvp A t
theorem drewN3 (w : World) (a b : Nat) : (w.drewN a).drewN b = w.drewN (a + b) := by induction b with
  | zero => rfl
  | succ b ih => first | (show ((w.drewN a).drewN b).drew = (w.drewN (a + b)).drew; rw [ih]) | simp [World.drewN, Nat.add_assoc]
end Go.Proofs.YtcbadebjpogmlaaGreatDoor
namespace Go.Proofs.YtcbadebjpogmlaaGreatDoor
open Go.RowKit Tr
theorem beqI {a b : Nat} (h : a ≠ b) : ((a : Int) == (b : Int)) = false := by rw [beq_eq_false_iff_ne]; omega
theorem beqS {a b : ByteArray} (h : bs a ≠ bs b) : (a.toList == b.toList) = false := by
  rw [beq_eq_false_iff_ne]
  intro e
  apply h
  rw [Lib.toList_data, Lib.toList_data] at e
  exact e
theorem beqS' {a b : ByteArray} (h : bs a = bs b) : (a.toList == b.toList) = true := by
  rw [beq_iff_eq, Lib.toList_data, Lib.toList_data]
  exact h
theorem pkd5 {d : Dat} (h : DOk d) : (pkd d = 6 ↔ d.kind = 5) ∧ (pkd d = 5 ↔ d.kind = 4) ∧ (pkd d = 4 ↔ d.kind = 2) ∧ (pkd d = 3 ↔ d.kind = 1) := by
  unfold pkd
  rcases h.k with e | e | e | e | e <;> rw [e] <;> simp
  split <;> (try simp) <;> split <;> simp
set_option maxHeartbeats 1000000 in
set_option maxRecDepth 100000 in
theorem p_member {w : World} {A : Nat → Nat} {D : Nat → Prop} {n : Nat} {par : Value} {ix : Nat} {t : Tv} (h : PT w A D n par ix t) (nm : ByteArray) :
    Calls Tryz.prog 297 #[.pointer (some ⟨A t.d.frm, 0, none⟩), .string nm] w fun r w' => r = .returned (optA A (pickT t ⟨true, bs nm, 0⟩ t.ws.length)) ∧ ∃ k, w' = w.drewN k := by
  obtain ⟨sv, hc⟩ := h.pc
  have HP := hide h
  have HC := hide hc
  have c0 : w.cell? ⟨A t.d.frm, 0, none⟩ = some (.int .i64 (pkd t.d : Nat)) := hc.b.cell 0
  have c8 : w.cell? ⟨A t.d.frm, 8, none⟩ = some sv := hc.b.cell 8
  have hl := hc.l
  have hk := (pkd5 hc.d).1
  obtain ⟨v0, vcp, rfl⟩ := own_slice hc.o
  unfold pickT
  simp only [if_true]
  by_cases h5 : t.d.kind = 5
  · rw [if_pos h5, List.take_length]
    have e6 : pkd t.d = 6 := hk.2 h5
    rw [e6] at c0
    have c0' : w.cell? ⟨A t.d.frm, 0, none⟩ = some (.int .i64 6) := c0
    clear c0 e6 hk h5 h hc
    go_enter Tryz.func297, Tryz.ntmps297
    go_wp2
    go_loopw [6, 17] (fun _ i wr => ∃ k q : Nat, k ≤ t.ws.length ∧ i = .int .i64 k ∧ (t.ws.take k).find? (fun c => c.d.name == bs nm) = none ∧ wr = w.drewN q) (fun _ i _ => t.ws.length - (intOf i).toNat)
    case atStart => exact ⟨0, 0, Nat.zero_le _, rfl, rfl, rfl⟩
    case round =>
      obtain ⟨k, q, hk, rfl, hf, rfl⟩ := hrel
      have HF := hide hf
      clear hf
      by_cases hlt : k < t.ws.length
      · have hki : (k : Int) < (t.ws.length : Int) := by omega
        obtain ⟨g, cap, hv, hcell⟩ := HC.out.at_ hlt
        simp only [Value.slice.injEq, true_and] at hv
        obtain ⟨rfl, rfl⟩ := hv
        have hkid := HP.out.kid hlt
        obtain ⟨sv2, hc2⟩ := hkid.pc
        have d7 : w.cell? ⟨A (t.ws[k]).d.frm, 7, none⟩ = some (.string (bsb (t.ws[k]).d.name)) := hc2.b.cell 7
        have HN : Hid (∀ c, c = t.ws[k] → (c.d.name ≠ bs nm → (t.ws.take (k + 1)).find? (fun c => c.d.name == bs nm) = none) ∧ (c.d.name = bs nm → t.ws.find? (fun c => c.d.name == bs nm) = some c)) := by
          rintro c rfl
          refine ⟨fun e => ?_, fun e => ?_⟩
          · rw [List.take_succ_eq_append_getElem hlt, List.find?_append, HF.out]
            simp [e]
          have e3 := congrArg (List.find? (fun c : Tv => c.d.name == bs nm)) (List.take_append_drop k t.ws).symm
          rw [e3, List.find?_append, HF.out, List.drop_eq_getElem_cons hlt, List.find?_cons_of_pos (by simp [e])]
          rfl
        have HN2 := hide (HN.out _ rfl)
        clear HN hkid hc2
        generalize t.ws[k] = c at *
        by_cases he : c.d.name = bs nm
        · have hb : ((bsb c.d.name).toList == nm.toList) = true := beqS' (by rw [bs_bsb]; exact he)
          have HR := hide (HN2.out.2 he)
          clear he HN2
          go_wp2
          go_ret
          exact ⟨by rw [HR.out]; rfl, q, rfl⟩
        have hb : ((bsb c.d.name).toList == nm.toList) = false := beqS (by rw [bs_bsb]; exact he)
        have HR := hide (HN2.out.1 he)
        clear he HN2
        go_wp2
        go_roundw
        case rel => exact ⟨k + 1, q, by omega, by go_num, HR.out, rfl⟩
        case measure => simp [intOf]; omega
      have hki : ¬ (k : Int) < (t.ws.length : Int) := by omega
      have e : t.ws.take k = t.ws := List.take_of_length_le (by omega)
      have HR : Hid (t.ws.find? (fun c => c.d.name == bs nm) = none) := by rw [← e]; exact HF.out
      clear HF e
      go_wp2
      go_ret
      exact ⟨by rw [HR.out]; rfl, q, rfl⟩
  rw [if_neg h5]
  have e6 : pkd t.d ≠ 6 := fun e => h5 (hk.1 e)
  have e7 : ((pkd t.d : Int) != 6) = true := by rw [bne_iff_ne]; omega
  clear hk h5 h hc e6
  generalize pkd t.d = kk at *
  go_enter Tryz.func297, Tryz.ntmps297
  go_wp2
  go_ret
  exact ⟨rfl, 0, rfl⟩
set_option maxHeartbeats 1000000 in
set_option maxRecDepth 100000 in
theorem p_element {w : World} {A : Nat → Nat} {D : Nat → Prop} {n : Nat} {par : Value} {ix : Nat} {t : Tv} (h : PT w A D n par ix t) (i : Int) :
    Calls Tryz.prog 301 #[.pointer (some ⟨A t.d.frm, 0, none⟩), .int .i64 i] w fun r w' => r = .returned (optA A (if t.d.kind = 4 then idx t.ws i else none)) ∧ ∃ k, w' = w.drewN k := by
  obtain ⟨sv, hc⟩ := h.pc
  have HC := hide hc
  have c0 : w.cell? ⟨A t.d.frm, 0, none⟩ = some (.int .i64 (pkd t.d : Nat)) := hc.b.cell 0
  have c8 : w.cell? ⟨A t.d.frm, 8, none⟩ = some sv := hc.b.cell 8
  have hl := hc.l
  have hk := (pkd5 hc.d).2.1
  obtain ⟨v0, vcp, rfl⟩ := own_slice hc.o
  by_cases h4 : t.d.kind = 4
  · rw [if_pos h4]
    have e5 : pkd t.d = 5 := hk.2 h4
    rw [e5] at c0
    have c0' : w.cell? ⟨A t.d.frm, 0, none⟩ = some (.int .i64 5) := c0
    clear c0 e5 hk h4 h hc
    unfold idx
    by_cases hi : i < 0
    · rw [if_pos hi]
      go_enter Tryz.func301, Tryz.ntmps301
      go_wp2
      go_ret
      exact ⟨rfl, 0, rfl⟩
    rw [if_neg hi]
    obtain ⟨k, rfl⟩ : ∃ k : Nat, i = k := ⟨i.toNat, by omega⟩
    have hkn : ((k : Int).toNat) = k := by omega
    rw [hkn]
    by_cases hlt : k < t.ws.length
    · have hki : (k : Int) < (t.ws.length : Int) := by omega
      obtain ⟨g, cap, hv, hcell⟩ := HC.out.at_ hlt
      simp only [Value.slice.injEq, true_and] at hv
      obtain ⟨rfl, rfl⟩ := hv
      rw [List.getElem?_eq_getElem hlt]
      generalize t.ws[k] = c at *
      clear hkn
      go_enter Tryz.func301, Tryz.ntmps301
      go_wp2
      go_ret
      exact ⟨rfl, 0, rfl⟩
    have hki : ¬ (k : Int) < (t.ws.length : Int) := by omega
    have hki2 : (t.ws.length : Int) ≤ (k : Int) := by omega
    rw [List.getElem?_eq_none (by omega)]
    clear hkn
    go_enter Tryz.func301, Tryz.ntmps301
    go_wp2
    go_ret
    exact ⟨rfl, 0, rfl⟩
  rw [if_neg h4]
  have e5 : pkd t.d ≠ 5 := fun e => h4 (hk.1 e)
  have e7 : ((pkd t.d : Int) != 5) = true := by rw [bne_iff_ne]; omega
  clear hk h4 h hc e5
  generalize pkd t.d = kk at *
  go_enter Tryz.func301, Tryz.ntmps301
  go_wp2
  go_ret
  exact ⟨rfl, 0, rfl⟩
end Go.Proofs.YtcbadebjpogmlaaGreatDoor
namespace Go.Proofs.YtcbadebjpogmlaaGreatDoor
open Go.RowKit Tr
def kDat (c : Kt) : Dat := ⟨c.k, c.n, c.t, [], [], 0, 0, -1⟩
structure KOk (c : Kt) : Prop where
  k : c.k = 1 ∨ c.k = 2 ∨ c.k = 3
  w : c.k = 3 → c.t = wTrue ∨ c.t = wFalse ∨ c.t = wNull
  s : c.k = 1 → c.t = []
  n : c.k = 2 ∨ c.k = 3 → c.n = 0
  l : c.t.length ≤ 8
theorem KOk.d {c : Kt} (h : KOk c) : DOk (kDat c) := ⟨by rcases h.k with e | e | e <;> simp [kDat, e], h.w, h.s, h.n⟩
theorem take_same {s c : List UInt8} (h : c.length ≤ 8) : (s.take 9 = c.take 9) ↔ s = c := by
  rw [List.take_of_length_le (l := c) (by omega)]
  constructor
  · intro e
    by_cases hs : s.length ≤ 9
    · rwa [List.take_of_length_le hs] at e
    exfalso
    have := congrArg List.length e
    rw [List.length_take] at this
    omega
  intro e
  rw [e, List.take_of_length_le (by omega)]
theorem less_take : ∀ (n : Nat) (s c : List UInt8), c.length < n → bLess (s.take n) c = bLess s c
  | 0, _, _, h => absurd h (Nat.not_lt_zero _)
  | _ + 1, _, [], _ => by simp [bLess]
  | _ + 1, [], _ :: _, _ => rfl
  | n + 1, a :: x, b :: y, h => by
    simp only [List.take_succ_cons, bLess]
    rw [less_take n x y (by simpa using h)]
theorem bLess_go : ∀ (x y : List UInt8), Go.Op.bytesLess x y = bLess x y
  | _, [] => by simp [Go.Op.bytesLess, bLess]
  | [], _ :: _ => rfl
  | a :: x, b :: y => by simp [Go.Op.bytesLess, bLess, bLess_go x y]
theorem same_eq {d : Dat} {c : Kt} (hd : DOk d) (hc : KOk c) : (decide (d.kind < 4) && d.kind == c.k && d.n == c.n && d.s == c.t) =
    (if pkd d = pkd (kDat c) then (if pkd d = 3 then d.n == c.n else if pkd d = 4 then decide (ptx d = ptx (kDat c)) else true) else false) := by
  have p1 := pkd5 hd
  have p2 := pkd5 hc.d
  have hk2 : (kDat c).kind = c.k := rfl
  rw [hk2] at p2
  rcases hc.k with e | e | e
  · have q2 : pkd (kDat c) = 3 := p2.2.2.2.2 e
    rw [q2]
    by_cases h : d.kind = 1
    · have q1 : pkd d = 3 := p1.2.2.2.2 h
      rw [if_pos q1, if_pos q1]
      simp [h, e, hd.s h, hc.s e]
    have q1 : pkd d ≠ 3 := fun x => h (p1.2.2.2.1 x)
    rw [if_neg q1]
    simp [h, e]
  · have q2 : pkd (kDat c) = 4 := p2.2.2.1.2 e
    rw [q2]
    by_cases h : d.kind = 2
    · have q1 : pkd d = 4 := p1.2.2.1.2 h
      rw [if_pos q1, if_neg (by omega), if_pos q1]
      have e3 : ptx d = d.s.take 9 := by simp [ptx, h]
      have e4 : ptx (kDat c) = c.t.take 9 := by simp [ptx, kDat, e]
      rw [e3, e4]
      rw [Bool.eq_iff_iff]
      simp [h, e, hd.n (Or.inl h), hc.n (Or.inl e), take_same hc.l]
    have q1 : pkd d ≠ 4 := fun x => h (p1.2.2.1.1 x)
    rw [if_neg q1]
    simp [h, e]
  have q2 : pkd (kDat c) < 3 := by
    unfold pkd; rw [hk2, e]; simp; split <;> (try simp) <;> split <;> simp
  by_cases h : d.kind = 3
  · have q1 : pkd d < 3 := by unfold pkd; rw [h]; simp; split <;> (try simp) <;> split <;> simp
    rw [if_neg (c := pkd d = 3) (by omega), if_neg (c := pkd d = 4) (by omega)]
    have f1 : pkd d = if d.s = wTrue then 2 else if d.s = wFalse then 1 else 0 := by unfold pkd; rw [h]; simp
    have f2 : pkd (kDat c) = if c.t = wTrue then 2 else if c.t = wFalse then 1 else 0 := by unfold pkd; simp only [kDat, e]; rfl
    rw [f1, f2]
    rcases hd.w h with x | x | x <;> rcases hc.w e with y | y | y <;> rw [x, y] <;> simp [h, e, hd.n (Or.inr h), hc.n (Or.inr e)] <;> decide
  have q1 : pkd d ≠ pkd (kDat c) := by
    intro x
    have := p1.2.1
    rcases hd.k with z | z | z | z | z
    · have := p1.2.2.2.2 z; omega
    · have := p1.2.2.1.2 z; omega
    · exact h z
    · have := p1.2.1.2 z; omega
    have := p1.1.2 z; omega
  rw [if_neg q1]
  simp [h, e]
theorem less_eq {d : Dat} {c : Kt} (hd : DOk d) (hc : KOk c) : (d.kind == c.k && ((d.kind == 1 && decide (d.n < c.n)) || (d.kind == 2 && bLess d.s c.t))) =
    (if pkd d = pkd (kDat c) then (if pkd d = 3 then decide (d.n < c.n) else if pkd d = 4 then bLess (ptx d) (ptx (kDat c)) else false) else false) := by
  have p1 := pkd5 hd
  have p2 := pkd5 hc.d
  have hk2 : (kDat c).kind = c.k := rfl
  rw [hk2] at p2
  by_cases h1 : d.kind = 1
  · have q1 : pkd d = 3 := p1.2.2.2.2 h1
    rw [q1]
    by_cases h : c.k = 1
    · rw [p2.2.2.2.2 h]; simp [h1, h]
    rw [if_neg (fun x => h (p2.2.2.2.1 x.symm))]
    simp [h1]; omega
  by_cases h2 : d.kind = 2
  · have q1 : pkd d = 4 := p1.2.2.1.2 h2
    rw [q1]
    by_cases h : c.k = 2
    · rw [p2.2.2.1.2 h]
      have e3 : ptx d = d.s.take 9 := by simp [ptx, h2]
      have e4 : ptx (kDat c) = c.t := by simp [ptx, kDat, h]; exact List.take_of_length_le (by have := hc.l; omega)
      rw [e3, e4, less_take 9 d.s c.t (by have := hc.l; omega)]
      simp [h2, h]
    rw [if_neg (fun x => h (p2.2.2.1.1 x.symm))]
    simp [h2]; omega
  have q3 : pkd d ≠ 3 := fun x => h1 (p1.2.2.2.1 x)
  have q4 : pkd d ≠ 4 := fun x => h2 (p1.2.2.1.1 x)
  rw [if_neg q3, if_neg q4]
  simp [h1, h2]
set_option maxHeartbeats 1000000 in
set_option maxRecDepth 100000 in
theorem p_equal {w : World} {A : Nat → Nat} {t : Tv} {par : Value} {ix : Nat} {sv : Value} (h : PC w A t par ix sv) {b : Nat} {c : Kt} {sc pc : Value} (hb : Blk w b (pcl (kDat c) pc 0 sc) 130) (hc : KOk c) :
    Calls Tryz.prog 292 #[.pointer (some ⟨A t.d.frm, 0, none⟩), .pointer (some ⟨b, 0, none⟩)] w fun r w' => r = .returned (.bool (sameT c (some t))) ∧ ∃ k, w' = w.drewN k := by
  have E : sameT c (some t) = _ := same_eq h.d hc
  rw [E]
  have c0 : w.cell? ⟨A t.d.frm, 0, none⟩ = some (.int .i64 (pkd t.d : Nat)) := h.b.cell 0
  have c3 : w.cell? ⟨A t.d.frm, 3, none⟩ = some (.int .i64 t.d.n) := h.b.cell 3
  have c4 : w.cell? ⟨A t.d.frm, 4, none⟩ = some (.string (bsb (ptx t.d))) := h.b.cell 4
  have d0 : w.cell? ⟨b, 0, none⟩ = some (.int .i64 (pkd (kDat c) : Nat)) := hb.cell 0
  have d3 : w.cell? ⟨b, 3, none⟩ = some (.int .i64 c.n) := hb.cell 3
  have d4 : w.cell? ⟨b, 4, none⟩ = some (.string (bsb (ptx (kDat c)))) := hb.cell 4
  have HS : Hid (((bsb (ptx t.d)).toList == (bsb (ptx (kDat c))).toList) = decide (ptx t.d = ptx (kDat c))) := by
    show _ = _
    by_cases x : ptx t.d = ptx (kDat c)
    · rw [beqS' (by rw [bs_bsb, bs_bsb]; exact x), decide_eq_true x]
    rw [beqS (by rw [bs_bsb, bs_bsb]; exact x), decide_eq_false x]
  clear h hb hc E
  generalize pkd t.d = k1 at *
  generalize pkd (kDat c) = k2 at *
  generalize hq : decide (ptx t.d = ptx (kDat c)) = bq at *
  generalize ptx t.d = x1 at *
  generalize ptx (kDat c) = x2 at *
  generalize t.d.n = n1 at *
  generalize c.n = n2 at *
  clear hq
  by_cases h12 : k1 = k2
  · subst h12
    rw [if_pos rfl]
    by_cases h3 : k1 = 3
    · subst h3
      clear HS c4 d4
      rw [if_pos rfl]
      go_enter Tryz.func292, Tryz.ntmps292
      go_wp2
      go_quiet (fail)
      go_wp2
      go_quiet (fail)
      go_wp2
      go_ret
      exact ⟨rfl, _, by rw [drewN3]⟩
    rw [if_neg h3]
    have e3 := beqI h3
    by_cases h4 : k1 = 4
    · subst h4
      rw [if_pos rfl, ← HS.out]
      clear HS
      go_enter Tryz.func292, Tryz.ntmps292
      go_wp2
      go_quiet (fail)
      go_wp2
      go_quiet (fail)
      go_wp2
      go_ret
      exact ⟨rfl, _, by rw [drewN3]⟩
    rw [if_neg h4]
    have e4 := beqI h4
    clear HS c4 d4 c3 d3
    go_enter Tryz.func292, Tryz.ntmps292
    go_wp2
    go_quiet (fail)
    go_wp2
    go_ret
    exact ⟨rfl, _, rfl⟩
  rw [if_neg h12]
  have e12 : ((k1 : Int) != (k2 : Int)) = true := by rw [bne_iff_ne]; omega
  clear HS c4 d4 c3 d3
  go_enter Tryz.func292, Tryz.ntmps292
  go_wp2
  go_quiet (fail)
  go_wp2
  go_ret
  exact ⟨rfl, _, rfl⟩
end Go.Proofs.YtcbadebjpogmlaaGreatDoor
namespace Go.Proofs.YtcbadebjpogmlaaGreatDoor
open Go.RowKit Tr
theorem c_no {w0 w : World} {g : Nat} {q : ByteArray} {a : Nat} {p v : Value} {n : Nat} (h : Qt g q p v n w0 a w) (hq : q.size ≤ 1000) (sign : ByteArray) (ht : tk q a sign = false) :
    Calls Tryz.prog 85 #[.pointer (some ⟨g, 0, none⟩), .string sign] w fun r w' => r = .returned (.bool false) ∧ Qt g q p v n w0 a w' := by
  refine (c_takes h hq sign).mono ?_
  rintro r w' ⟨rfl, h1⟩
  rw [ht] at h1 ⊢
  exact ⟨rfl, h1⟩
theorem c_yes {w0 w : World} {g : Nat} {q : ByteArray} {a : Nat} {p v : Value} {n : Nat} (h : Qt g q p v n w0 a w) (hq : q.size ≤ 1000) (sign : ByteArray) (ht : tk q a sign = true) (b : Nat) (hb : b = a + sign.size) :
    Calls Tryz.prog 85 #[.pointer (some ⟨g, 0, none⟩), .string sign] w fun r w' => r = .returned (.bool true) ∧ Qt g q p v n w0 b w' := by
  refine (c_takes h hq sign).mono ?_
  rintro r w' ⟨rfl, h1⟩
  rw [ht] at h1 ⊢
  rw [hb]
  exact ⟨rfl, h1⟩
theorem Qt.alloc {g : Nat} {q : ByteArray} {p v : Value} {n : Nat} {w0 w : World} {a : Nat} (h : Qt g q p v n w0 a w) (o : Obj) : Qt g q p v n w0 a (w.alloc o) := ⟨h.b.alloc o, h.f.alloc o, h.le⟩
def CnP (g : Nat) (q : ByteArray) (p v : Value) (n : Nat) (w0 : World) (a : Nat) (cs : Array Value) (r : Ending) (w' : World) : Prop := (∃ b, r = .returned (.pointer (some ⟨b, 0, none⟩)) ∧ w0.heap.size ≤ b ∧ Blk w' b cs 130) ∧ Qt g q p v n w0 a w'
def kcl (k : Int) (m : Int) (s : ByteArray) : Array Value := #[.int .i64 k, .int .i64 0, .int .i64 0, .int .i64 m, .string s, .pointer none, .int .i64 0, .string ⟨#[]⟩, .slice none 0 0]
theorem RunP.val18 {q : ByteArray} {a k : Nat} (h : RunP isDig q a k) (hk : k ≤ a + 18) : cVal (bs q) a k < 1000000000000000000 := by
  have := dvT_lt (s := bs q) (a := a) (k - a) (fun i h1 h2 => h.all i h1 (by have := h.ge; omega))
  have e : (10 : Nat) ^ (k - a) ≤ 10 ^ 18 := Nat.pow_le_pow_right (by omega) (by omega)
  unfold cVal
  omega
theorem cVal_if (s : List UInt8) (a k : Nat) : (if k = a then (0 : Int) else ((cVal s a k : Nat) : Int)) = ((cVal s a k : Nat) : Int) := by
  split
  · rename_i h; rw [h]; simp [cVal, dvT]
  rfl
set_option maxHeartbeats 1000000 in
theorem cn_true {w0 w : World} {g : Nat} {q : ByteArray} {a : Nat} {p v : Value} {n : Nat} (h : Qt g q p v n w0 a w) (hq : q.size ≤ 1000) (T0 : tk q a ⟨#[116, 114, 117, 101]⟩ = true) :
    Calls Tryz.prog 283 #[.pointer (some ⟨g, 0, none⟩)] w (CnP g q p v n w0 (a + 4) (kcl 2 0 ⟨#[]⟩)) := by
  have H := hide h
  clear h
  go_enter Tryz.func283, Tryz.ntmps283
  go_wp2_with fail
  refine (c_yes H.out hq _ T0 (a + 4) rfl).mono ?_
  rintro r w1 ⟨rfl, h1⟩
  clear H
  have H := hide h1
  clear h1
  go_wp2
  go_ret
  exact ⟨⟨_, rfl, H.out.f.size, Blk.new _ _ _⟩, H.out.alloc _⟩
set_option maxHeartbeats 1000000 in
theorem cn_false {w0 w : World} {g : Nat} {q : ByteArray} {a : Nat} {p v : Value} {n : Nat} (h : Qt g q p v n w0 a w) (hq : q.size ≤ 1000) (T0 : tk q a ⟨#[116, 114, 117, 101]⟩ = false) (T1 : tk q a ⟨#[102, 97, 108, 115, 101]⟩ = true) :
    Calls Tryz.prog 283 #[.pointer (some ⟨g, 0, none⟩)] w (CnP g q p v n w0 (a + 5) (kcl 1 0 ⟨#[]⟩)) := by
  have H := hide h
  clear h
  go_enter Tryz.func283, Tryz.ntmps283
  go_wp2_with fail
  refine (c_no H.out hq _ T0).mono ?_
  rintro r w1 ⟨rfl, h1⟩
  clear H
  have H := hide h1
  clear h1
  go_wp2_with fail
  refine (c_yes H.out hq _ T1 (a + 5) rfl).mono ?_
  rintro r w1 ⟨rfl, h1⟩
  clear H
  have H := hide h1
  clear h1
  go_wp2
  go_ret
  exact ⟨⟨_, rfl, H.out.f.size, Blk.new _ _ _⟩, H.out.alloc _⟩
set_option maxHeartbeats 1000000 in
theorem cn_null {w0 w : World} {g : Nat} {q : ByteArray} {a : Nat} {p v : Value} {n : Nat} (h : Qt g q p v n w0 a w) (hq : q.size ≤ 1000) (T0 : tk q a ⟨#[116, 114, 117, 101]⟩ = false) (T1 : tk q a ⟨#[102, 97, 108, 115, 101]⟩ = false) (T2 : tk q a ⟨#[110, 117, 108, 108]⟩ = true) :
    Calls Tryz.prog 283 #[.pointer (some ⟨g, 0, none⟩)] w (CnP g q p v n w0 (a + 4) (kcl 0 0 ⟨#[]⟩)) := by
  have H := hide h
  clear h
  go_enter Tryz.func283, Tryz.ntmps283
  go_wp2_with fail
  refine (c_no H.out hq _ T0).mono ?_
  rintro r w1 ⟨rfl, h1⟩
  clear H
  have H := hide h1
  clear h1
  go_wp2_with fail
  refine (c_no H.out hq _ T1).mono ?_
  rintro r w1 ⟨rfl, h1⟩
  clear H
  have H := hide h1
  clear h1
  go_wp2_with fail
  refine (c_yes H.out hq _ T2 (a + 4) rfl).mono ?_
  rintro r w1 ⟨rfl, h1⟩
  clear H
  have H := hide h1
  clear h1
  go_wp2
  go_ret
  exact ⟨⟨_, rfl, H.out.f.size, Blk.new _ _ _⟩, H.out.alloc _⟩
set_option maxHeartbeats 1000000 in
theorem cn_quote {w0 w : World} {g : Nat} {q : ByteArray} {a : Nat} {p v : Value} {n : Nat} (h : Qt g q p v n w0 a w) (hq : q.size ≤ 1000) (T0 : tk q a ⟨#[116, 114, 117, 101]⟩ = false) (T1 : tk q a ⟨#[102, 97, 108, 115, 101]⟩ = false) (T2 : tk q a ⟨#[110, 117, 108, 108]⟩ = false) (T3 : tk q a ⟨#[39]⟩ = true) :
    Calls Tryz.prog 283 #[.pointer (some ⟨g, 0, none⟩)] w (fun r w' => ∃ k, RunP isQuo q (a + 1) k ∧ CnP g q p v n w0 (if tk q k ⟨#[39]⟩ then k + 1 else k) (kcl 4 0 (q.extract (a + 1) k)) r w') := by
  have H := hide h
  clear h
  go_enter Tryz.func283, Tryz.ntmps283
  go_wp2_with fail
  refine (c_no H.out hq _ T0).mono ?_
  rintro r w1 ⟨rfl, h1⟩
  clear H
  have H := hide h1
  clear h1
  go_wp2_with fail
  refine (c_no H.out hq _ T1).mono ?_
  rintro r w1 ⟨rfl, h1⟩
  clear H
  have H := hide h1
  clear h1
  go_wp2_with fail
  refine (c_no H.out hq _ T2).mono ?_
  rintro r w1 ⟨rfl, h1⟩
  clear H
  have H := hide h1
  clear h1
  go_wp2_with fail
  refine (c_yes H.out hq _ T3 (a + 1) rfl).mono ?_
  rintro r w1 ⟨rfl, h1⟩
  clear H
  have H := hide h1
  clear h1
  go_wp2_with fail
  refine (c_quoted H.out hq).mono ?_
  rintro r w1 ⟨k, hk, rfl, h1⟩
  have HK := hide hk
  clear H hk
  have H := hide h1
  clear h1
  go_wp2
  go_ret
  exact ⟨k, HK.out, ⟨_, rfl, H.out.f.size, Blk.new _ _ _⟩, H.out.alloc _⟩
set_option maxHeartbeats 1000000 in
theorem cn_minus {w0 w : World} {g : Nat} {q : ByteArray} {a : Nat} {p v : Value} {n : Nat} (h : Qt g q p v n w0 a w) (hq : q.size ≤ 1000) (T0 : tk q a ⟨#[116, 114, 117, 101]⟩ = false) (T1 : tk q a ⟨#[102, 97, 108, 115, 101]⟩ = false) (T2 : tk q a ⟨#[110, 117, 108, 108]⟩ = false) (T3 : tk q a ⟨#[39]⟩ = false) (T4 : tk q a ⟨#[45]⟩ = true) (he : Er g w0) (h18 : ∀ k, RunP isDig q (a + 1) k → k ≤ a + 1 + 18) :
    Calls Tryz.prog 283 #[.pointer (some ⟨g, 0, none⟩)] w (fun r w' => ∃ k, RunP isDig q (a + 1) k ∧ CnP g q p v n w0 k (kcl 3 (-((cVal (bs q) (a + 1) k : Nat) : Int)) ⟨#[]⟩) r w') := by
  have H := hide h
  have HE := hide he
  have H18 := hide h18
  clear he h18
  clear h
  go_enter Tryz.func283, Tryz.ntmps283
  go_wp2_with fail
  refine (c_no H.out hq _ T0).mono ?_
  rintro r w1 ⟨rfl, h1⟩
  clear H
  have H := hide h1
  clear h1
  go_wp2_with fail
  refine (c_no H.out hq _ T1).mono ?_
  rintro r w1 ⟨rfl, h1⟩
  clear H
  have H := hide h1
  clear h1
  go_wp2_with fail
  refine (c_no H.out hq _ T2).mono ?_
  rintro r w1 ⟨rfl, h1⟩
  clear H
  have H := hide h1
  clear h1
  go_wp2_with fail
  refine (c_no H.out hq _ T3).mono ?_
  rintro r w1 ⟨rfl, h1⟩
  clear H
  have H := hide h1
  clear h1
  go_wp2_with fail
  refine (c_yes H.out hq _ T4 (a + 1) rfl).mono ?_
  rintro r w1 ⟨rfl, h1⟩
  clear H
  have H := hide h1
  clear h1
  go_wp2_with fail
  refine (k_count H.out hq HE.out H18.out _).mono ?_
  rintro r w1 ⟨k, m, ⟨hk, hm⟩, rfl, h1⟩
  rw [cVal_if] at hm
  subst hm
  have hv18 := hk.val18 (H18.out k hk)
  have HK := hide hk
  clear H hk
  obtain ⟨m, hmm⟩ : ∃ m, m = cVal (bs q) (a + 1) k := ⟨_, rfl⟩
  rw [← hmm] at hv18 ⊢
  have HMM := hide hmm
  clear hmm
  have hwr : IntKind.i64.wrap (-(m : Int)) = -(m : Int) := IntWalk.i64_in _ (by omega)
  have H := hide h1
  clear h1
  go_wp2
  go_ret
  exact ⟨k, HK.out, ⟨_, rfl, H.out.f.size, by rw [← HMM.out]; exact Blk.new _ _ _⟩, H.out.alloc _⟩
set_option maxHeartbeats 1000000 in
theorem cn_plain {w0 w : World} {g : Nat} {q : ByteArray} {a : Nat} {p v : Value} {n : Nat} (h : Qt g q p v n w0 a w) (hq : q.size ≤ 1000) (T0 : tk q a ⟨#[116, 114, 117, 101]⟩ = false) (T1 : tk q a ⟨#[102, 97, 108, 115, 101]⟩ = false) (T2 : tk q a ⟨#[110, 117, 108, 108]⟩ = false) (T3 : tk q a ⟨#[39]⟩ = false) (T4 : tk q a ⟨#[45]⟩ = false) (he : Er g w0) (h18 : ∀ k, RunP isDig q a k → k ≤ a + 18) :
    Calls Tryz.prog 283 #[.pointer (some ⟨g, 0, none⟩)] w (fun r w' => ∃ k, RunP isDig q a k ∧ CnP g q p v n w0 k (kcl 3 ((cVal (bs q) a k : Nat) : Int) ⟨#[]⟩) r w') := by
  have H := hide h
  have HE := hide he
  have H18 := hide h18
  clear he h18
  clear h
  go_enter Tryz.func283, Tryz.ntmps283
  go_wp2_with fail
  refine (c_no H.out hq _ T0).mono ?_
  rintro r w1 ⟨rfl, h1⟩
  clear H
  have H := hide h1
  clear h1
  go_wp2_with fail
  refine (c_no H.out hq _ T1).mono ?_
  rintro r w1 ⟨rfl, h1⟩
  clear H
  have H := hide h1
  clear h1
  go_wp2_with fail
  refine (c_no H.out hq _ T2).mono ?_
  rintro r w1 ⟨rfl, h1⟩
  clear H
  have H := hide h1
  clear h1
  go_wp2_with fail
  refine (c_no H.out hq _ T3).mono ?_
  rintro r w1 ⟨rfl, h1⟩
  clear H
  have H := hide h1
  clear h1
  go_wp2_with fail
  refine (c_no H.out hq _ T4).mono ?_
  rintro r w1 ⟨rfl, h1⟩
  clear H
  have H := hide h1
  clear h1
  go_wp2_with fail
  refine (k_count H.out hq HE.out H18.out _).mono ?_
  rintro r w1 ⟨k, m, ⟨hk, hm⟩, rfl, h1⟩
  rw [cVal_if] at hm
  subst hm
  have HK := hide hk
  clear H hk
  have H := hide h1
  clear h1
  go_wp2
  go_ret
  exact ⟨k, HK.out, ⟨_, rfl, H.out.f.size, Blk.new _ _ _⟩, H.out.alloc _⟩
end Go.Proofs.YtcbadebjpogmlaaGreatDoor
namespace Go.Proofs.YtcbadebjpogmlaaGreatDoor
open Go.RowKit Tr
theorem tk_ne {q : ByteArray} {t : St} {sign : ByteArray} {c : Nat} {l : List Nat} (he : t.e = 0) (hs : nb sign = c :: l) (h : sees (bs q) t c = false) : tk q t.p sign = false := by
  rw [tk_pfx, hs]
  have : (bt (bs q) t.p == c) = false := by simpa [sees, he] using h
  simp [pfx, this]
theorem tk_must {q : ByteArray} {t : St} {sign : ByteArray} (h : (must (bs q) t (nb sign)).e = 0) : tk q t.p sign = true ∧ must (bs q) t (nb sign) = { t with p := t.p + sign.size } := by
  obtain ⟨_, h2, h3⟩ := must_e h
  rw [nb_len] at h3
  exact ⟨by rw [tk_pfx]; exact h2, h3⟩
def CnM (g : Nat) (q : ByteArray) (p v : Value) (n : Nat) (w0 : World) (q0 c X : Nat) (o : List UInt8) (d : Nat) (a : Nat) (r : Ending) (w' : World) : Prop :=
  ∃ t' kt, Live (bs q) q0 c X o d t' ∧ pConst (bs q) a = ⟨kt, t'.p⟩ ∧ KOk kt ∧ CnP g q p v n w0 t'.p (pcl (kDat kt) (.pointer none) 0 (.slice none 0 0)) r w'
theorem kc_true : kcl 2 0 ⟨#[]⟩ = pcl (kDat ⟨3, 0, wTrue⟩) (.pointer none) 0 (.slice none 0 0) := by rfl
theorem kc_false : kcl 1 0 ⟨#[]⟩ = pcl (kDat ⟨3, 0, wFalse⟩) (.pointer none) 0 (.slice none 0 0) := by rfl
theorem kc_null : kcl 0 0 ⟨#[]⟩ = pcl (kDat ⟨3, 0, wNull⟩) (.pointer none) 0 (.slice none 0 0) := by rfl
theorem kc_num (m : Int) : kcl 3 m ⟨#[]⟩ = pcl (kDat ⟨1, m, []⟩) (.pointer none) 0 (.slice none 0 0) := by rfl
theorem bsb_bs (q : ByteArray) : bsb (bs q) = q := by
  unfold bsb bs
  exact congrArg ByteArray.mk Array.toArray_toList
theorem kc_str {q : ByteArray} {l : List UInt8} (h : bs q = l) (hl : l.length ≤ 8) : kcl 4 0 q = pcl (kDat ⟨2, 0, l⟩) (.pointer none) 0 (.slice none 0 0) := by
  have e : ptx (kDat ⟨2, 0, l⟩) = l := by simp only [ptx, kDat, if_true]; exact List.take_of_length_le (by omega)
  unfold pcl
  rw [e, ← h, bsb_bs]
  rfl
theorem KOk.num (m : Int) : KOk ⟨1, m, []⟩ := ⟨Or.inl rfl, (fun h => by cases h), fun _ => rfl, (fun h => by rcases h with h | h <;> cases h), by show 0 ≤ 8; decide⟩
theorem KOk.word {l : List UInt8} (h : l = wTrue ∨ l = wFalse ∨ l = wNull) : KOk ⟨3, 0, l⟩ := ⟨Or.inr (Or.inr rfl), fun _ => h, (fun h => by cases h), fun _ => rfl, by rcases h with rfl | rfl | rfl <;> decide⟩
theorem KOk.str {l : List UInt8} (h : l.length ≤ 8) : KOk ⟨2, 0, l⟩ := ⟨Or.inr (Or.inl rfl), (fun h => by cases h), (fun h => by cases h), fun _ => rfl, h⟩
theorem sees_b {s : List UInt8} {t : St} {b : Nat} (h : sees s t b = true) : bt s t.p = b := (sees_e h).2
theorem sees_nb {s : List UInt8} {t : St} {b : Nat} (he : t.e = 0) (h : sees s t b = false) : bt s t.p ≠ b := by simpa [sees, he] using h
theorem quote_le {q : ByteArray} {t : St} {k : Nat} (h : must1 (bs q) (runP isQuo (bs q) 8 t) 39 = { t with p := k + 1 }) (he : t.e = 0) : k ≤ t.p + 8 := by
  have h1 := congrArg St.p h
  have e1 : (runP isQuo (bs q) 8 t) = { t with p := run isQuo (bs q) 8 t.p } := by unfold runP; rw [if_pos he]
  rw [e1] at h1
  have h3 := run_le isQuo (bs q) 8 t.p
  unfold must1 at h1
  split at h1
  · simp [adv] at h1; omega
  unfold wrong at h1; split at h1 <;> simp at h1 <;> omega
theorem sub_len (s : List UInt8) (a b : Nat) : (sub s a b).length ≤ b - a := by unfold sub; exact List.length_take_le _ _
theorem k_constant {w0 w : World} {g : Nat} {q : ByteArray} {p v : Value} {n : Nat} (hq : q.size ≤ 1000) (hf : FinP (bs q)) (he : Er g w0) {q0 c d : Nat} {o : List UInt8} {t : St} (hok : Live (bs q) q0 c 17 o d t) (h : Qt g q p v n w0 t.p w) :
    Calls Tryz.prog 283 #[.pointer (some ⟨g, 0, none⟩)] w (CnM g q p v n w0 q0 c 18 o d t.p) := by
  have e0 := hok.e0
  have word : ∀ (x a : UInt8) (l : List UInt8) (sign : ByteArray), nb sign = (x :: a :: l).map UInt8.toNat → sees (bs q) t x.toNat = true → nx (cS 17 o) x.toNat = ⟨24, 18, 0, a :: l, o⟩ →
      tk q t.p sign = true ∧ Live (bs q) q0 c 18 o d { t with p := t.p + sign.size } := by
    intro x a l sign hs hx hn
    have h1 := fin_live hf (ok_cword x a l (Or.inl hok) hx hn)
    rw [← hs] at h1
    obtain ⟨h2, h3⟩ := tk_must h1.e0
    rw [h3] at h1
    exact ⟨h2, h1⟩
  by_cases h1 : sees (bs q) t 116 = true
  · obtain ⟨a1, a2⟩ := word 116 114 [117, 101] ⟨#[116, 114, 117, 101]⟩ rfl h1 (by rw [show (116 : UInt8).toNat = 116 from rfl, nx17 (by decide)]; rfl)
    exact (kc_true ▸ cn_true h hq a1).mono (fun r w' hr => ⟨_, _, a2, by unfold pConst; rw [if_pos (sees_b h1)]; rfl, KOk.word (Or.inl rfl), hr⟩)
  have h1 : sees (bs q) t 116 = false := by simpa using h1
  have T0 := tk_ne (sign := ⟨#[116, 114, 117, 101]⟩) e0 rfl h1
  by_cases h2 : sees (bs q) t 102 = true
  · obtain ⟨a1, a2⟩ := word 102 97 [108, 115, 101] ⟨#[102, 97, 108, 115, 101]⟩ rfl h2 (by rw [show (102 : UInt8).toNat = 102 from rfl, nx17 (by decide)]; rfl)
    exact (kc_false ▸ cn_false h hq T0 a1).mono (fun r w' hr => ⟨_, _, a2, by unfold pConst; rw [if_neg (sees_nb e0 h1), if_pos (sees_b h2)]; rfl, KOk.word (Or.inr (Or.inl rfl)), hr⟩)
  have h2 : sees (bs q) t 102 = false := by simpa using h2
  have T1 := tk_ne (sign := ⟨#[102, 97, 108, 115, 101]⟩) e0 rfl h2
  by_cases h3 : sees (bs q) t 110 = true
  · obtain ⟨a1, a2⟩ := word 110 117 [108, 108] ⟨#[110, 117, 108, 108]⟩ rfl h3 (by rw [show (110 : UInt8).toNat = 110 from rfl, nx17 (by decide)]; rfl)
    exact (kc_null ▸ cn_null h hq T0 T1 a1).mono (fun r w' hr => ⟨_, _, a2, by unfold pConst; rw [if_neg (sees_nb e0 h1), if_neg (sees_nb e0 h2), if_pos (sees_b h3)]; rfl, KOk.word (Or.inr (Or.inr rfl)), hr⟩)
  have h3 : sees (bs q) t 110 = false := by simpa using h3
  have T2 := tk_ne (sign := ⟨#[110, 117, 108, 108]⟩) e0 rfl h3
  by_cases h4 : sees (bs q) t 39 = true
  · have a1 := fin_live hf (ok_cquote (Or.inl hok) h4)
    have e1 : must1 (bs q) t 39 = adv t := by unfold must1; rw [if_pos h4]
    unfold quoteP at a1
    rw [e1] at a1
    have T3 : tk q t.p ⟨#[39]⟩ = true := (tk1 q e0 39).trans h4
    refine (cn_quote h hq T0 T1 T2 T3).mono ?_
    rintro r w' ⟨k, hk, hr⟩
    obtain ⟨b1, b2⟩ := quote_eq (t := adv t) a1.e0 hk
    rw [b2, if_pos rfl] at hr
    have hle := quote_le b1 e0
    rw [b1] at a1
    have hsl := sub_len (bs q) (t.p + 1) k
    have ha : (adv t).p = t.p + 1 := rfl
    rw [kc_str (bs_extract q (t.p + 1) k) (by omega)] at hr
    refine ⟨_, _, a1, ?_, KOk.str (by omega), hr⟩
    unfold pConst
    rw [if_neg (sees_nb e0 h1), if_neg (sees_nb e0 h2), if_neg (sees_nb e0 h3), if_pos (sees_b h4), hk.eq (by decide)]
  have h4 : sees (bs q) t 39 = false := by simpa using h4
  have T3 := tk_ne (sign := ⟨#[39]⟩) e0 rfl h4
  have a1 := fin_live hf (ok_ccount (Or.inl hok) h4 h1 h2 h3)
  unfold countP minusP at a1
  simp only [if_true, Bool.true_and] at a1
  by_cases h5 : sees (bs q) t 45 = true
  · have e1 : has (bs q) t 45 = adv t := by unfold has; rw [if_pos h5]
    rw [e1] at a1
    have T4 : tk q t.p ⟨#[45]⟩ = true := (tk1 q e0 45).trans h5
    refine (cn_minus h hq T0 T1 T2 T3 T4 he (fun k hk => ?_)).mono ?_
    · have := (cnt_eq hf (t := adv t) e0 a1 (Or.inr (Or.inr (Or.inr rfl))) hk).2
      simp only [adv] at this
      omega
    rintro r w' ⟨k, hk, hr⟩
    rw [(cnt_eq hf (t := adv t) e0 a1 (Or.inr (Or.inr (Or.inr rfl))) hk).1] at a1
    rw [kc_num] at hr
    refine ⟨_, _, a1, ?_, KOk.num _, hr⟩
    unfold pConst
    rw [if_neg (sees_nb e0 h1), if_neg (sees_nb e0 h2), if_neg (sees_nb e0 h3), if_neg (sees_nb e0 h4), if_pos (sees_b h5), hk.eq (by decide)]
  have h5 : sees (bs q) t 45 = false := by simpa using h5
  have e1 : has (bs q) t 45 = t := by unfold has; rw [if_neg (by rw [h5]; decide)]
  rw [e1] at a1
  have T4 := tk_ne (sign := ⟨#[45]⟩) e0 rfl h5
  refine (cn_plain h hq T0 T1 T2 T3 T4 he (fun k hk => ?_)).mono ?_
  · have := (cnt_eq hf e0 a1 (Or.inr (Or.inr (Or.inr rfl))) hk).2
    omega
  rintro r w' ⟨k, hk, hr⟩
  rw [(cnt_eq hf e0 a1 (Or.inr (Or.inr (Or.inr rfl))) hk).1] at a1
  rw [kc_num] at hr
  refine ⟨_, _, a1, ?_, KOk.num _, hr⟩
  unfold pConst
  rw [if_neg (sees_nb e0 h1), if_neg (sees_nb e0 h2), if_neg (sees_nb e0 h3), if_neg (sees_nb e0 h4), if_neg (sees_nb e0 h5), hk.eq (by decide)]
end Go.Proofs.YtcbadebjpogmlaaGreatDoor
