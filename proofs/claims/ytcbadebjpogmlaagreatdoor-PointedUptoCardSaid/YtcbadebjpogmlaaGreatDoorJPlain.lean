import Derived.Test.YtcbadebjpogmlaaGreatDoorProg
import Derived.WalkKit
import Derived.WalkSpells
import Derived.WalkLawsBesides
import Derived.Deep.QuietTactic
import Derived.BigQuiet
namespace Tr
def bt (s : List UInt8) (i : Nat) : Nat := match s[i]? with | some c => c.toNat | none => 256
def isLet (b : Nat) : Bool := decide (97 ≤ b) && decide (b ≤ 122)
def isDig (b : Nat) : Bool := decide (48 ≤ b) && decide (b ≤ 57)
def isQuo (b : Nat) : Bool := isLet b || isDig b || b == 32
structure G where
  st : Nat
  bh : Nat
  sz : Nat
  rs : List UInt8
  op : List UInt8
def trimR (l : List UInt8) : List UInt8 := (l.reverse.dropWhile (· == 33)).reverse
def trimS (l : List UInt8) : List UInt8 := if l.getLast? = some 40 then l.dropLast else l
def gWord (g : G) (b k : Nat) : G := if isLet b then { g with st := 21, bh := k, sz := 1 } else { g with st := 0 }
def gQuote (g : G) (k : Nat) : G := { g with st := 23, bh := k, sz := 0 }
def gNamed (g : G) (l : List UInt8) (k : Nat) : G := if l = [] then { g with st := k } else { g with st := 24, bh := k, rs := l }
def gMinus (g : G) (k : Nat) : G := { g with st := 25, bh := k }
def gCount (g : G) (b k : Nat) : G := if b = 48 then { g with st := k } else if isDig b then { g with st := 22, bh := k, sz := 1 } else { g with st := 0 }
def gSigned (g : G) (b k : Nat) : G := if b = 45 then gMinus g k else gCount g b k
def gConst (g : G) (b : Nat) : G :=
  if b = 61 ∧ g.st ≠ 17 then { g with st := 17 } else if g.st = 15 then { g with st := 0 }
  else if b = 39 then gQuote g 18 else if b = 116 then gNamed g [114, 117, 101] 18 else if b = 102 then gNamed g [97, 108, 115, 101] 18
  else if b = 110 then gNamed g [117, 108, 108] 18 else gSigned g b 18
def gWithin (g : G) (b : Nat) : G :=
  if g.st = 12 then gWord g b 11 else if g.st = 13 then gSigned g b 14 else if g.st = 14 ∧ b = 93 then { g with st := 11 }
  else if (g.st = 19 ∧ b = 38) ∨ (g.st = 20 ∧ b = 124) then { g with st := 10 } else { g with st := 0 }
def gSelEnd (g : G) (b : Nat) : G :=
  if b = 44 then { g with st := 6 } else if b = 93 then { g with st := 3 } else if b = 58 ∧ g.st = 7 then { g with st := 8 }
  else if g.st = 8 then gCount g b 9 else { g with st := 0 }
def gPartEnd (g0 : G) (b : Nat) : G :=
  let g : G := { g0 with op := trimR g0.op }
  if b = 38 then { g with st := 19 } else if b = 124 then { g with st := 20 }
  else if b = 41 ∧ g.op ≠ [] then { g with st := 18, op := trimS g.op }
  else if g.op = [] then gSelEnd g b else { g with st := 0 }
def gStepEnd (g : G) (b : Nat) : G :=
  if b = 46 then { g with st := 12 } else if b = 91 then { g with st := 13 } else if b = 61 ∨ b = 33 then { g with st := 15 }
  else if b = 60 then { g with st := 16 } else gPartEnd g b
def gPart (g : G) (b : Nat) : G :=
  if b = 64 then { g with st := 11 } else if b ≠ 33 ∧ b ≠ 40 then { g with st := 0 } else if g.op.length = 6 then { g with st := 1 }
  else { g with st := 10, op := g.op ++ [UInt8.ofNat b] }
def gSelector (g : G) (b : Nat) : G :=
  if b = 42 then { g with st := 9 } else if b = 39 then gQuote g 9 else if b = 45 then gMinus g 9 else if b = 58 then { g with st := 8 }
  else if b = 63 then { g with st := 10 } else gCount g b 7
def gStar (g : G) (b : Nat) : G := if b = 42 then { g with st := 3 } else gWord g b 3
def gSegment (g : G) (b : Nat) : G :=
  if g.st = 2 ∧ b = 36 then { g with st := 3 } else if g.st = 3 ∧ b = 46 then { g with st := 4 }
  else if (g.st = 3 ∧ b = 91) ∨ (g.st = 5 ∧ b = 91) then { g with st := 6 } else if g.st = 4 ∧ b = 46 then { g with st := 5 }
  else if g.st = 4 ∨ g.st = 5 then gStar g b else { g with st := 0 }
def gBetween (g : G) (b : Nat) : G :=
  if g.st = 2 ∨ g.st = 3 ∨ g.st = 4 ∨ g.st = 5 then gSegment g b else if g.st = 6 then gSelector g b
  else if g.st = 7 ∨ g.st = 8 ∨ g.st = 9 then gSelEnd g b else if g.st = 10 then gPart g b else if g.st = 18 then gPartEnd g b
  else if g.st = 11 then gStepEnd g b else if g.st = 15 ∨ g.st = 16 ∨ g.st = 17 then gConst g b else gWithin g b
def gGoes (g : G) (b : Nat) : Bool :=
  if g.st = 21 then isLet b && decide (g.sz < 8) else if g.st = 22 then isDig b && decide (g.sz < 3)
  else if g.st = 23 then isQuo b && decide (g.sz < 8) else false
def gInside (g : G) (b : Nat) : G :=
  if gGoes g b = true then { g with sz := g.sz + 1 } else if g.st = 23 ∧ b = 39 then { g with st := g.bh }
  else if g.st = 24 ∧ b = (g.rs.headD 0).toNat then gNamed g g.rs.tail g.bh
  else if g.st = 25 ∧ isDig b = true ∧ b ≠ 48 then gCount g b g.bh
  else if g.st = 21 ∨ g.st = 22 then gBetween { g with st := g.bh } b else { g with st := 0 }
def gNext (g : G) (b : Nat) : G := if 21 ≤ g.st ∧ g.st ≤ 25 then gInside g b else gBetween g b
def mayEnd (g : G) : Bool := g.st == 3 || (g.st == 21 && g.bh == 3)
def norm (g : G) : G :=
  ⟨g.st, if 21 ≤ g.st then g.bh else 0, if 21 ≤ g.st ∧ g.st ≤ 23 then g.sz else 0, if g.st = 24 then g.rs else [], g.op⟩
def nx (m : G) (b : Nat) : G :=
  if m.st ≤ 1 then m else if b = 256 then (if mayEnd m = true then ⟨26, 0, 0, [], []⟩ else ⟨0, 0, 0, [], []⟩) else norm (gNext m b)
def g0 : G := ⟨2, 0, 0, [], []⟩
def M (s : List UInt8) : Nat → G
  | 0 => g0
  | i + 1 => nx (M s i) (bt s i)
end Tr
namespace Tr
def Near (g h : G) : Prop := g.st = h.st ∧ g.op = h.op
theorem norm_low (st bh sz bh' sz' : Nat) (rs rs' op : List UInt8) (h : st ≤ 20) : norm ⟨st, bh, sz, rs, op⟩ = norm ⟨st, bh', sz', rs', op⟩ := by
  have h1 : ¬ 21 ≤ st := by omega
  have h2 : ¬ st = 24 := by omega
  simp [norm, h1, h2]
theorem near_word {g h : G} (n : Near g h) (b k : Nat) : norm (gWord g b k) = norm (gWord h b k) := by
  obtain ⟨e1, e2⟩ := n
  unfold gWord
  split <;> simp [norm, e2]
theorem near_quote {g h : G} (n : Near g h) (k : Nat) : norm (gQuote g k) = norm (gQuote h k) := by
  simp [gQuote, norm, n.2]
theorem near_minus {g h : G} (n : Near g h) (k : Nat) : norm (gMinus g k) = norm (gMinus h k) := by
  simp [gMinus, norm, n.2]
theorem near_named {g h : G} (n : Near g h) (l : List UInt8) (k : Nat) (hk : k ≤ 20) : norm (gNamed g l k) = norm (gNamed h l k) := by
  unfold gNamed
  split
  · obtain ⟨e1, e2⟩ := n; simp only [e2]; exact norm_low _ _ _ _ _ _ _ _ hk
  simp [norm, n.2]
theorem near_count {g h : G} (n : Near g h) (b k : Nat) (hk : k ≤ 20) : norm (gCount g b k) = norm (gCount h b k) := by
  unfold gCount
  obtain ⟨e1, e2⟩ := n
  simp only [e2]
  split
  · exact norm_low _ _ _ _ _ _ _ _ hk
  split
  · simp [norm]
  exact norm_low _ _ _ _ _ _ _ _ (by omega)
theorem near_signed {g h : G} (n : Near g h) (b k : Nat) (hk : k ≤ 20) : norm (gSigned g b k) = norm (gSigned h b k) := by
  unfold gSigned
  split
  · exact near_minus n k
  exact near_count n b k hk
theorem near_set {g h : G} (n : Near g h) (k : Nat) (hk : k ≤ 20) : norm { g with st := k } = norm { h with st := k } := by
  simp only [n.2]; exact norm_low _ _ _ _ _ _ _ _ hk
theorem near_const {g h : G} (n : Near g h) (b : Nat) : norm (gConst g b) = norm (gConst h b) := by
  unfold gConst
  rw [n.1]
  split
  · exact near_set n _ (by omega)
  split
  · exact near_set n _ (by omega)
  split
  · exact near_quote n _
  split
  · exact near_named n _ _ (by omega)
  split
  · exact near_named n _ _ (by omega)
  split
  · exact near_named n _ _ (by omega)
  exact near_signed n _ _ (by omega)
theorem near_within {g h : G} (n : Near g h) (b : Nat) : norm (gWithin g b) = norm (gWithin h b) := by
  unfold gWithin
  rw [n.1]
  repeat' split
  all_goals first | exact near_word n _ _ | exact near_signed n _ _ (by omega) | exact near_set n _ (by omega)
theorem near_selEnd {g h : G} (n : Near g h) (b : Nat) : norm (gSelEnd g b) = norm (gSelEnd h b) := by
  unfold gSelEnd
  rw [n.1]
  repeat' split
  all_goals first | exact near_count n _ _ (by omega) | exact near_set n _ (by omega)
theorem near_partEnd {g h : G} (n : Near g h) (b : Nat) : norm (gPartEnd g b) = norm (gPartEnd h b) := by
  unfold gPartEnd
  have n' : Near { g with op := trimR g.op } { h with op := trimR h.op } := ⟨n.1, by rw [n.2]⟩
  rw [n.2] at n' ⊢
  simp only
  split
  · exact near_set n' _ (by omega)
  split
  · exact near_set n' _ (by omega)
  split
  · exact norm_low _ _ _ _ _ _ _ _ (by omega)
  split
  · exact near_selEnd n' _
  exact near_set n' _ (by omega)
theorem near_stepEnd {g h : G} (n : Near g h) (b : Nat) : norm (gStepEnd g b) = norm (gStepEnd h b) := by
  unfold gStepEnd
  repeat' split
  all_goals first | exact near_partEnd n _ | exact near_set n _ (by omega)
theorem near_part {g h : G} (n : Near g h) (b : Nat) : norm (gPart g b) = norm (gPart h b) := by
  unfold gPart
  rw [n.2]
  repeat' split
  all_goals first | (exact norm_low _ _ _ _ _ _ _ _ (by omega))
theorem near_selector {g h : G} (n : Near g h) (b : Nat) : norm (gSelector g b) = norm (gSelector h b) := by
  unfold gSelector
  repeat' split
  all_goals first | exact near_quote n _ | exact near_minus n _ | exact near_count n _ _ (by omega) | exact near_set n _ (by omega)
theorem near_star {g h : G} (n : Near g h) (b : Nat) : norm (gStar g b) = norm (gStar h b) := by
  unfold gStar
  split
  · exact near_set n _ (by omega)
  exact near_word n _ _
theorem near_segment {g h : G} (n : Near g h) (b : Nat) : norm (gSegment g b) = norm (gSegment h b) := by
  unfold gSegment
  rw [n.1]
  repeat' split
  all_goals first | exact near_star n _ | exact near_set n _ (by omega)
theorem near_between {g h : G} (n : Near g h) (b : Nat) : norm (gBetween g b) = norm (gBetween h b) := by
  unfold gBetween
  rw [n.1]
  repeat' split
  · exact near_segment n b
  · exact near_selector n b
  · exact near_selEnd n b
  · exact near_part n b
  · exact near_partEnd n b
  · exact near_stepEnd n b
  · exact near_const n b
  exact near_within n b
theorem norm_st (g : G) : (norm g).st = g.st := rfl
theorem near_norm (g : G) : Near g (norm g) := ⟨rfl, rfl⟩
theorem norm_next (g : G) (b : Nat) (hb : g.bh ≤ 20) : norm (gNext g b) = norm (gNext (norm g) b) := by
  unfold gNext
  rw [norm_st]
  split
  · rename_i h
    obtain ⟨st, bh, sz, rs, op⟩ := g
    simp only at h hb
    have hn : norm ⟨st, bh, sz, rs, op⟩ = ⟨st, bh, if 21 ≤ st ∧ st ≤ 23 then sz else 0, if st = 24 then rs else [], op⟩ := by
      simp [norm, h.1]
    rw [hn]
    have hc : st = 21 ∨ st = 22 ∨ st = 23 ∨ st = 24 ∨ st = 25 := by omega
    rcases hc with rfl | rfl | rfl | rfl | rfl
    · simp [gInside, gGoes]
      split
      · rfl
      exact near_between (by exact ⟨rfl, rfl⟩) b
    · simp [gInside, gGoes]
      split
      · rfl
      exact near_between (by exact ⟨rfl, rfl⟩) b
    · simp [gInside, gGoes]
      repeat' split
      · rfl
      · exact norm_low _ _ _ _ _ _ _ _ hb
      rfl
    · simp [gInside, gGoes]
      split
      · exact near_named (by exact ⟨rfl, rfl⟩) _ _ hb
      rfl
    simp [gInside, gGoes]
    split
    · exact near_count (by exact ⟨rfl, rfl⟩) _ _ hb
    rfl
  exact near_between (near_norm g) b
end Tr
namespace Tr
structure St where
  p : Nat
  e : Nat
  n : Nat
def sees (s : List UInt8) (t : St) (b : Nat) : Bool := t.e == 0 && bt s t.p == b
def adv (t : St) : St := { t with p := t.p + 1 }
def wrong (t : St) (e : Nat) : St := if t.e = 0 then { t with e := e } else t
def has (s : List UInt8) (t : St) (b : Nat) : St := if sees s t b = true then adv t else t
def must1 (s : List UInt8) (t : St) (b : Nat) : St := if sees s t b = true then adv t else wrong t 2
def must (s : List UInt8) (t : St) (l : List Nat) : St := l.foldl (must1 s) t
def digit (s : List UInt8) (t : St) : Bool := t.e == 0 && isDig (bt s t.p)
def run (ok : Nat → Bool) (s : List UInt8) : Nat → Nat → Nat
  | 0, p => p
  | k + 1, p => if ok (bt s p) = true then run ok s k (p + 1) else p
def wordP (s : List UInt8) (t : St) : St :=
  if t.e = 0 then (if run isLet s 8 t.p = t.p then { t with e := 2 } else { t with p := run isLet s 8 t.p }) else t
def runP (ok : Nat → Bool) (s : List UInt8) (k : Nat) (t : St) : St := if t.e = 0 then { t with p := run ok s k t.p } else t
def quoteP (s : List UInt8) (t : St) : St := must1 s (runP isQuo s 8 (must1 s t 39)) 39
def minusP (s : List UInt8) (t : St) (m : Bool) : St := if m = true then has s t 45 else t
def countQ (s : List UInt8) (t : St) (minus : Bool) : St :=
  if digit s t = false ∨ (minus = true ∧ sees s t 48 = true) then wrong t 2
  else if sees s t 48 = true then adv t else runP isDig s 3 t
def countP (s : List UInt8) (t : St) (m : Bool) : St := countQ s (minusP s t m) (m && sees s t 45)
theorem isLet_lt {b : Nat} (h : isLet b = true) : b < 256 := by simp [isLet] at h; omega
theorem isDig_lt {b : Nat} (h : isDig b = true) : b < 256 := by simp [isDig] at h; omega
theorem isQuo_lt {b : Nat} (h : isQuo b = true) : b < 256 := by simp [isQuo, isLet, isDig] at h; omega
theorem bt_lt {s : List UInt8} {p : Nat} (h : bt s p < 256) : p < s.length := by
  unfold bt at h
  split at h
  · rename_i c hc; exact (List.getElem?_eq_some_iff.1 hc).1
  omega
theorem bt_end {s : List UInt8} {p : Nat} (h : s.length ≤ p) : bt s p = 256 := by
  unfold bt; rw [List.getElem?_eq_none h]
theorem bt_in {s : List UInt8} {p : Nat} (h : p < s.length) : bt s p < 256 := by
  unfold bt; rw [List.getElem?_eq_getElem h]; exact UInt8.toNat_lt _
theorem run_ge (ok : Nat → Bool) (s : List UInt8) : ∀ k p, p ≤ run ok s k p
  | 0, p => Nat.le_refl _
  | k + 1, p => by unfold run; split; have := run_ge ok s k (p + 1); omega; exact Nat.le_refl _
theorem run_le (ok : Nat → Bool) (s : List UInt8) : ∀ k p, run ok s k p ≤ p + k
  | 0, p => Nat.le_refl _
  | k + 1, p => by unfold run; split; have := run_le ok s k (p + 1); omega; omega
theorem run_ok (ok : Nat → Bool) (s : List UInt8) : ∀ k p i, p ≤ i → i < run ok s k p → ok (bt s i) = true
  | 0, p, i, h1, h2 => by unfold run at h2; omega
  | k + 1, p, i, h1, h2 => by
    unfold run at h2
    split at h2
    · by_cases e : i = p
      · subst e; assumption
      exact run_ok ok s k (p + 1) i (by omega) h2
    omega
theorem run_stop (ok : Nat → Bool) (s : List UInt8) : ∀ k p, run ok s k p = p + k ∨ ok (bt s (run ok s k p)) = false
  | 0, p => Or.inl rfl
  | k + 1, p => by
    unfold run; split
    · rcases run_stop ok s k (p + 1) with h | h
      · left; omega
      right; exact h
    rename_i h; right; simpa using h
theorem run_len {ok : Nat → Bool} {s : List UInt8} (hok : ∀ b, ok b = true → b < 256) (k p : Nat) (hp : p ≤ s.length) : run ok s k p ≤ s.length := by
  by_cases h : run ok s k p = p
  · omega
  have h1 := run_ge ok s k p
  have h2 := run_ok ok s k p (run ok s k p - 1) (by omega) (by omega)
  have := bt_lt (hok _ h2)
  omega
end Tr
namespace Go.Proofs.YtcbadebjpogmlaaGreatDoor
open Go.RowKit Tr
structure Fr (K : Nat → Prop) (w w' : World) : Prop where
  os : w'.os = w.os
  tape : w'.tape = w.tape
  output : w'.output = w.output
  size : w.heap.size ≤ w'.heap.size
  block : ∀ k, k < w.heap.size → ¬ K k → w'.heap[k]? = w.heap[k]?
theorem Fr.refl (K : Nat → Prop) (w : World) : Fr K w w := ⟨rfl, rfl, rfl, Nat.le_refl _, fun _ _ _ => rfl⟩
theorem Fr.trans {K : Nat → Prop} {a b c : World} (h : Fr K a b) (k : Fr K b c) : Fr K a c :=
  ⟨k.os.trans h.os, k.tape.trans h.tape, k.output.trans h.output, Nat.le_trans h.size k.size, fun i hi hK => (k.block i (Nat.lt_of_lt_of_le hi h.size) hK).trans (h.block i hi hK)⟩
theorem Fr.mono {K L : Nat → Prop} {a b : World} (h : Fr K a b) (hl : ∀ k, k < a.heap.size → K k → L k) : Fr L a b :=
  ⟨h.os, h.tape, h.output, h.size, fun i hi hK => h.block i hi (fun x => hK (hl i hi x))⟩
theorem Fr.drewN {K : Nat → Prop} {a w : World} (h : Fr K a w) (n : Nat) : Fr K a (w.drewN n) := ⟨h.os, h.tape, h.output, h.size, h.block⟩
theorem Fr.drew {K : Nat → Prop} {a w : World} (h : Fr K a w) : Fr K a w.drew := ⟨h.os, h.tape, h.output, h.size, h.block⟩
theorem Fr.alloc {K : Nat → Prop} {a w : World} (h : Fr K a w) (o : Obj) : Fr K a (w.alloc o) :=
  h.trans ⟨rfl, rfl, rfl, by simp, fun k hk _ => Below.heap_alloc _ _ _ hk⟩
theorem Fr.setCell {K : Nat → Prop} {a w : World} (h : Fr K a w) (p : Addr) (hp : K p.block ∨ a.heap.size ≤ p.block) (v : Value) : Fr K a (w.setCell p v) :=
  ⟨h.os, h.tape, h.output, Nat.le_trans h.size (by simp [World.setCell]), fun k hk hK => by
    rw [Below.heap_setCell _ _ _ _ (fun e => by subst e; rcases hp with x | x; exact hK x; omega)]; exact h.block k hk hK⟩
theorem Fr.of_below {K : Nat → Prop} {a w : World} (h : Below a.heap.size a w) : Fr K a w := ⟨h.os, h.tape, h.output, h.size, fun k hk _ => h.block k hk⟩
theorem Fr.below {a w : World} (h : Fr (fun _ => False) a w) : Below a.heap.size a w := ⟨h.os, h.tape, h.output, h.size, fun k hk => h.block k hk id⟩
theorem Fr.cell {K : Nat → Prop} {w w' : World} (h : Fr K w w') {p : Addr} (hp : p.block < w.heap.size) (hK : ¬ K p.block) : w'.cell? p = w.cell? p := World.cell?_of_block (w := w) (h.block p.block hp hK)
theorem Fr.frozen {K : Nat → Prop} {w w' : World} (h : Fr K w w') {p : Addr} (hp : p.block < w.heap.size) (hK : ¬ K p.block) : w'.frozen? p = w.frozen? p := World.frozen?_of_block (w := w) (h.block p.block hp hK)
theorem lt_of_some {w : World} {b : Nat} {o : Obj} (h : w.heap[b]? = some o) : b < w.heap.size := (Array.getElem?_eq_some_iff.1 h).1
def bs (s : ByteArray) : List UInt8 := s.data.toList
theorem bs_len (s : ByteArray) : (bs s).length = s.size := by simp [bs]
theorem btB_lt {s : ByteArray} {p : Nat} (h : p < s.size) : bt (bs s) p = s[p].toNat := by
  have : (bs s)[p]? = some s[p] := by
    simp [bs, ByteArray.getElem_eq_getElem_data]
  simp [bt, this]
theorem btB_ge {s : ByteArray} {p : Nat} (h : ¬ p < s.size) : bt (bs s) p = 256 := bt_end (by rw [bs_len]; omega)
end Go.Proofs.YtcbadebjpogmlaaGreatDoor
namespace Go.Proofs.YtcbadebjpogmlaaGreatDoor
open Go.RowKit Tr
def PB (b : Nat) : Nat → Prop := fun k => k = b
def nb (s : ByteArray) : List Nat := (bs s).map UInt8.toNat
theorem nb_len (s : ByteArray) : (nb s).length = s.size := by simp [nb, bs_len]
end Go.Proofs.YtcbadebjpogmlaaGreatDoor
namespace Go.Proofs.YtcbadebjpogmlaaGreatDoor
open Go.RowKit Tr
theorem hide {p : Prop} (h : p) : Hid p := h
end Go.Proofs.YtcbadebjpogmlaaGreatDoor
namespace Go.Proofs.YtcbadebjpogmlaaGreatDoor
open Go.RowKit Tr
def kindN (c : Nat) : Nat := if isLet c = true then 1 else if c = 48 then 2 else if isDig c = true then 3 else if c = 32 then 4 else 0
set_option maxHeartbeats 400000 in
theorem c_kindOf {w : World} (c : Nat) (hc : c < 256) :
    Calls Tryz.prog 147 #[.int .u8 (c : Int)] w fun r w' => r = .returned (.int .i64 (kindN c : Nat)) ∧ w' = w := by
  by_cases h1 : isLet c = true
  · have e : kindN c = 1 := by simp [kindN, h1]
    rw [e]
    simp [isLet] at h1
    have d1 : (97 : Int) ≤ (c : Int) := by omega
    have d2 : (c : Int) ≤ 122 := by omega
    clear e h1
    go_enter Tryz.func147, Tryz.ntmps147
    go_wp2
    go_ret
    exact ⟨rfl, rfl⟩
  by_cases h2 : c = 48
  · subst h2
    have e : kindN 48 = 2 := rfl
    rw [e]
    clear e h1
    go_enter Tryz.func147, Tryz.ntmps147
    go_wp2
    go_ret
    exact ⟨rfl, rfl⟩
  by_cases h3 : isDig c = true
  · have e : kindN c = 3 := by simp [kindN, h1, h2, h3]
    rw [e]
    simp [isDig] at h3
    have d1 : ¬ (97 : Int) ≤ (c : Int) := by omega
    have d2 : decide ((97 : Int) ≤ (c : Int)) = false := by simpa using d1
    have d3 : ((c : Int) == 48) = false := by rw [beq_eq_false_iff_ne]; omega
    have d4 : (49 : Int) ≤ (c : Int) := by omega
    have d5 : (c : Int) ≤ 57 := by omega
    clear e h1 h2 h3
    go_enter Tryz.func147, Tryz.ntmps147
    go_wp2
    go_ret
    exact ⟨rfl, rfl⟩
  by_cases h4 : c = 32
  · subst h4
    have e : kindN 32 = 4 := rfl
    rw [e]
    clear e h1 h2 h3
    go_enter Tryz.func147, Tryz.ntmps147
    go_wp2
    go_ret
    exact ⟨rfl, rfl⟩
  have e : kindN c = 0 := by simp [kindN, h1, h2, h3, h4]
  rw [e]
  simp [isLet] at h1
  simp [isDig] at h3
  have d3 : ((c : Int) == 48) = false := by rw [beq_eq_false_iff_ne]; omega
  have d6 : ((c : Int) == 32) = false := by rw [beq_eq_false_iff_ne]; omega
  by_cases h5 : 97 ≤ c
  · have d1 : (97 : Int) ≤ (c : Int) := by omega
    have d2 : decide ((c : Int) ≤ 122) = false := by simp; omega
    have d4 : (49 : Int) ≤ (c : Int) := by omega
    have d5 : decide ((c : Int) ≤ 57) = false := by simp; omega
    clear e h1 h2 h3 h4
    go_enter Tryz.func147, Tryz.ntmps147
    go_wp2
    go_ret
    exact ⟨rfl, rfl⟩
  have d1 : decide ((97 : Int) ≤ (c : Int)) = false := by simp; omega
  by_cases h6 : 49 ≤ c
  · have d4 : (49 : Int) ≤ (c : Int) := by omega
    have d5 : decide ((c : Int) ≤ 57) = false := by simp; omega
    clear e h1 h2 h3 h4
    go_enter Tryz.func147, Tryz.ntmps147
    go_wp2
    go_ret
    exact ⟨rfl, rfl⟩
  have d4 : decide ((49 : Int) ≤ (c : Int)) = false := by simp; omega
  clear e h1 h2 h3 h4
  go_enter Tryz.func147, Tryz.ntmps147
  go_wp2
  go_ret
  exact ⟨rfl, rfl⟩
theorem ret_bool {a b : Bool} (h : a = b) : Ending.returned (.bool a) = .returned (.bool b) := by rw [h]
theorem kind_let (c : Nat) : ((kindN c : Int) == 1) = isLet c := by
  unfold kindN; repeat' split
  all_goals simp_all
theorem kind_quo (c : Nat) : ((kindN c : Int) != 0) = isQuo c := by
  unfold kindN isQuo; repeat' split
  all_goals simp_all
  all_goals simp [isDig]
theorem kind_le (c : Nat) : kindN c ≤ 4 := by unfold kindN; repeat' split
                                              all_goals omega
set_option maxHeartbeats 400000 in
theorem c_isLetter {w : World} (c : Nat) (hc : c < 256) :
    Calls Tryz.prog 193 #[.int .u8 (c : Int)] w fun r w' => r = .returned (.bool (isLet c)) ∧ w' = w := by
  have HK := hide (kind_let c)
  go_enter Tryz.func193, Tryz.ntmps193
  go_wp2_with fail
  refine (c_kindOf c hc).mono ?_
  rintro r w1 ⟨rfl, rfl⟩
  generalize kindN c = k at *
  go_wp2
  go_ret
  exact ⟨ret_bool HK.out, rfl⟩
set_option maxHeartbeats 400000 in
theorem c_isQuoted {w : World} (c : Nat) (hc : c < 256) :
    Calls Tryz.prog 195 #[.int .u8 (c : Int)] w fun r w' => r = .returned (.bool (isQuo c)) ∧ w' = w := by
  have HK := hide (kind_quo c)
  go_enter Tryz.func195, Tryz.ntmps195
  go_wp2_with fail
  refine (c_kindOf c hc).mono ?_
  rintro r w1 ⟨rfl, rfl⟩
  generalize kindN c = k at *
  go_wp2
  go_ret
  exact ⟨ret_bool HK.out, rfl⟩
set_option maxHeartbeats 400000 in
theorem c_isDigit {w : World} (c : Nat) (hc : c < 256) :
    Calls Tryz.prog 194 #[.int .u8 (c : Int)] w fun r w' => r = .returned (.bool (isDig c)) ∧ w' = w := by
  by_cases h2 : kindN c = 2
  · have e : isDig c = true := by
      unfold kindN at h2
      repeat' split at h2
      all_goals simp_all
      simp [isDig]
    rw [e]
    have HK := hide h2
    clear e h2
    go_enter Tryz.func194, Tryz.ntmps194
    go_wp2_with fail
    refine (c_kindOf c hc).mono ?_
    rintro r w1 ⟨rfl, rfl⟩
    rw [HK.out]
    go_wp2
    go_ret
    exact ⟨rfl, rfl⟩
  have e : isDig c = ((kindN c : Int) == 3) := by
    unfold kindN at h2 ⊢
    repeat' split at h2
    all_goals simp_all
    rename_i h1
    simp [isLet] at h1
    simp [isDig]
    omega
  rw [e]
  have d2 : ((kindN c : Int) == 2) = false := by rw [beq_eq_false_iff_ne]; omega
  have HK := hide (rfl : kindN c = kindN c)
  have hle := kind_le c
  clear e h2
  go_enter Tryz.func194, Tryz.ntmps194
  go_wp2_with fail
  refine (c_kindOf c hc).mono ?_
  rintro r w1 ⟨rfl, rfl⟩
  go_wp2_with fail
  refine (c_kindOf c hc).mono ?_
  rintro r w1 ⟨rfl, rfl⟩
  go_wp2
  go_ret
  exact ⟨rfl, rfl⟩
def HasG (w : World) (b : Nat) (x : Nat) (g : G) : Prop :=
  w.heap[b]? = some (.cells #[.int .i64 x, .int .i64 g.bh, .int .i64 g.sz, .string ⟨g.rs.toArray⟩, .string ⟨g.op.toArray⟩] 176)
theorem HasG.lt {w : World} {b x : Nat} {g : G} (h : HasG w b x g) : b < w.heap.size := lt_of_some h
theorem HasG.c0 {w : World} {b x : Nat} {g : G} (h : HasG w b x g) : w.cell? ⟨b, 0, none⟩ = some (.int .i64 x) := by unfold HasG at h; simp [World.cell?, h]
theorem HasG.c1 {w : World} {b x : Nat} {g : G} (h : HasG w b x g) : w.cell? ⟨b, 1, none⟩ = some (.int .i64 g.bh) := by unfold HasG at h; simp [World.cell?, h]
theorem HasG.c2 {w : World} {b x : Nat} {g : G} (h : HasG w b x g) : w.cell? ⟨b, 2, none⟩ = some (.int .i64 g.sz) := by unfold HasG at h; simp [World.cell?, h]
theorem HasG.c3 {w : World} {b x : Nat} {g : G} (h : HasG w b x g) : w.cell? ⟨b, 3, none⟩ = some (.string ⟨g.rs.toArray⟩) := by unfold HasG at h; simp [World.cell?, h]
theorem HasG.c4 {w : World} {b x : Nat} {g : G} (h : HasG w b x g) : w.cell? ⟨b, 4, none⟩ = some (.string ⟨g.op.toArray⟩) := by unfold HasG at h; simp [World.cell?, h]
theorem HasG.fz {w : World} {b x : Nat} {g : G} (h : HasG w b x g) (i : Nat) : w.frozen? ⟨b, i, none⟩ = false := by unfold HasG at h; simp [World.frozen?, h]
theorem HasG.set0 {w : World} {b x : Nat} {g : G} (h : HasG w b x g) (y : Nat) : HasG (w.setCell ⟨b, 0, none⟩ (.int .i64 y)) b y g := by
  unfold HasG at *; simp [World.setCell, Array.getElem?_modify, h]
theorem HasG.set1 {w : World} {b x : Nat} {g : G} (h : HasG w b x g) (y : Nat) : HasG (w.setCell ⟨b, 1, none⟩ (.int .i64 y)) b x { g with bh := y } := by
  unfold HasG at *; simp [World.setCell, Array.getElem?_modify, h]
theorem HasG.set2 {w : World} {b x : Nat} {g : G} (h : HasG w b x g) (y : Nat) : HasG (w.setCell ⟨b, 2, none⟩ (.int .i64 y)) b x { g with sz := y } := by
  unfold HasG at *; simp [World.setCell, Array.getElem?_modify, h]
theorem HasG.set3 {w : World} {b x : Nat} {g : G} (h : HasG w b x g) (y : List UInt8) : HasG (w.setCell ⟨b, 3, none⟩ (.string ⟨y.toArray⟩)) b x { g with rs := y } := by
  unfold HasG at *; simp [World.setCell, Array.getElem?_modify, h]
theorem HasG.set4 {w : World} {b x : Nat} {g : G} (h : HasG w b x g) (y : List UInt8) : HasG (w.setCell ⟨b, 4, none⟩ (.string ⟨y.toArray⟩)) b x { g with op := y } := by
  unfold HasG at *; simp [World.setCell, Array.getElem?_modify, h]
structure Rg (b : Nat) (w : World) (x : Nat) (g : G) (w' : World) : Prop where
  m : HasG w' b x g
  f : Fr (PB b) w w'
theorem Rg.same {b : Nat} {w : World} {x : Nat} {g : G} (h : HasG w b x g) : Rg b w x g w := ⟨h, Fr.refl _ _⟩
theorem Rg.trans {b : Nat} {w w1 w2 : World} {x y : Nat} {g h : G} (a : Rg b w x g w1) (c : Rg b w1 y h w2) : Rg b w y h w2 := ⟨c.m, a.f.trans c.f⟩
theorem Rg.set0 {b : Nat} {w w1 : World} {x : Nat} {g : G} (a : Rg b w x g w1) (y : Nat) : Rg b w y g (w1.setCell ⟨b, 0, none⟩ (.int .i64 y)) := ⟨a.m.set0 y, a.f.setCell ⟨b, 0, none⟩ (Or.inl rfl) _⟩
theorem Rg.set1 {b : Nat} {w w1 : World} {x : Nat} {g : G} (a : Rg b w x g w1) (y : Nat) : Rg b w x { g with bh := y } (w1.setCell ⟨b, 1, none⟩ (.int .i64 y)) := ⟨a.m.set1 y, a.f.setCell ⟨b, 1, none⟩ (Or.inl rfl) _⟩
theorem Rg.set2 {b : Nat} {w w1 : World} {x : Nat} {g : G} (a : Rg b w x g w1) (y : Nat) : Rg b w x { g with sz := y } (w1.setCell ⟨b, 2, none⟩ (.int .i64 y)) := ⟨a.m.set2 y, a.f.setCell ⟨b, 2, none⟩ (Or.inl rfl) _⟩
theorem Rg.set3 {b : Nat} {w w1 : World} {x : Nat} {g : G} (a : Rg b w x g w1) (y : List UInt8) : Rg b w x { g with rs := y } (w1.setCell ⟨b, 3, none⟩ (.string ⟨y.toArray⟩)) := ⟨a.m.set3 y, a.f.setCell ⟨b, 3, none⟩ (Or.inl rfl) _⟩
theorem Rg.set4 {b : Nat} {w w1 : World} {x : Nat} {g : G} (a : Rg b w x g w1) (y : List UInt8) : Rg b w x { g with op := y } (w1.setCell ⟨b, 4, none⟩ (.string ⟨y.toArray⟩)) := ⟨a.m.set4 y, a.f.setCell ⟨b, 4, none⟩ (Or.inl rfl) _⟩
end Go.Proofs.YtcbadebjpogmlaaGreatDoor
namespace Go.Proofs.YtcbadebjpogmlaaGreatDoor
open Go.RowKit Tr
def Ans (b : Nat) (w : World) (x : Nat) (g : G) (r : Ending) (w' : World) : Prop := r = .returned (.int .i64 (g.st : Nat)) ∧ Rg b w x g w'
theorem Rg.as {b : Nat} {w w' : World} {x : Nat} {g : G} (h : Rg b w x g w') (g' : G) (e1 : g'.bh = g.bh) (e2 : g'.sz = g.sz) (e3 : g'.rs = g.rs) (e4 : g'.op = g.op) : Rg b w x g' w' :=
  ⟨by have := h.m; unfold HasG at *; rw [e1, e2, e3, e4]; exact this, h.f⟩
set_option maxHeartbeats 400000 in
theorem g_word {w : World} {b x : Nat} {g : G} (h : HasG w b x g) (c : Nat) (hc : c < 256) (k : Nat) (ki : Int) (hk : ki = k) :
    Calls Tryz.prog 202 #[.pointer (some ⟨b, 0, none⟩), .int .u8 (c : Int), .int .i64 ki] w (Ans b w x (gWord g c k)) := by
  subst hk
  have f1 := h.fz 1
  have f2 := h.fz 2
  have c1 := h.c1
  have c2 := h.c2
  have HH := hide h
  clear h
  cases hl : isLet c
  · have e : gWord g c k = { g with st := 0 } := by simp [gWord, hl]
    rw [e]
    have HL := hide hl
    clear e hl
    go_enter Tryz.func202, Tryz.ntmps202
    go_wp2_with fail
    refine (c_isLetter c hc).mono ?_
    rintro r w1 ⟨rfl, rfl⟩
    rw [HL.out]
    go_wp2
    go_ret
    exact ⟨rfl, Rg.as (Rg.same HH.out) _ rfl rfl rfl rfl⟩
  have e : gWord g c k = { g with st := 21, bh := k, sz := 1 } := by simp [gWord, hl]
  rw [e]
  have HL := hide hl
  clear e hl
  go_enter Tryz.func202, Tryz.ntmps202
  go_wp2_with fail
  refine (c_isLetter c hc).mono ?_
  rintro r w1 ⟨rfl, rfl⟩
  rw [HL.out]
  go_wp2
  go_ret
  exact ⟨rfl, Rg.as (((Rg.same HH.out).set1 k).set2 1) _ rfl rfl rfl rfl⟩
set_option maxHeartbeats 400000 in
theorem g_quote {w : World} {b x : Nat} {g : G} (h : HasG w b x g) (k : Nat) (ki : Int) (hk : ki = k) :
    Calls Tryz.prog 197 #[.pointer (some ⟨b, 0, none⟩), .int .i64 ki] w (Ans b w x (gQuote g k)) := by
  subst hk
  have f1 := h.fz 1
  have f2 := h.fz 2
  have c1 := h.c1
  have c2 := h.c2
  have HH := hide h
  clear h
  go_enter Tryz.func197, Tryz.ntmps197
  go_wp2
  go_ret
  exact ⟨rfl, Rg.as (((Rg.same HH.out).set1 k).set2 0) _ rfl rfl rfl rfl⟩
set_option maxHeartbeats 400000 in
theorem g_minus {w : World} {b x : Nat} {g : G} (h : HasG w b x g) (k : Nat) (ki : Int) (hk : ki = k) :
    Calls Tryz.prog 198 #[.pointer (some ⟨b, 0, none⟩), .int .i64 ki] w (Ans b w x (gMinus g k)) := by
  subst hk
  have f1 := h.fz 1
  have c1 := h.c1
  have HH := hide h
  clear h
  go_enter Tryz.func198, Tryz.ntmps198
  go_wp2
  go_ret
  exact ⟨rfl, Rg.as ((Rg.same HH.out).set1 k) _ rfl rfl rfl rfl⟩
set_option maxHeartbeats 400000 in
theorem g_named {w : World} {b x : Nat} {g : G} (h : HasG w b x g) (l : List UInt8) (k : Nat) (ki : Int) (hk : ki = k) :
    Calls Tryz.prog 146 #[.pointer (some ⟨b, 0, none⟩), .string ⟨l.toArray⟩, .int .i64 ki] w (Ans b w x (gNamed g l k)) := by
  subst hk
  have f1 := h.fz 1
  have f3 := h.fz 3
  have c1 := h.c1
  have c3 := h.c3
  have HH := hide h
  clear h
  cases l with
  | nil =>
    have e : gNamed g [] k = { g with st := k } := rfl
    rw [e]
    clear e
    go_enter Tryz.func146, Tryz.ntmps146
    go_wp2
    go_ret
    exact ⟨rfl, Rg.as (Rg.same HH.out) _ rfl rfl rfl rfl⟩
  | cons a r =>
    have e : gNamed g (a :: r) k = { g with st := 24, bh := k, rs := a :: r } := rfl
    rw [e]
    clear e
    go_enter Tryz.func146, Tryz.ntmps146
    go_wp2
    go_ret
    exact ⟨rfl, Rg.as (((Rg.same HH.out).set1 k).set3 (a :: r)) _ rfl rfl rfl rfl⟩
set_option maxHeartbeats 400000 in
theorem g_count {w : World} {b x : Nat} {g : G} (h : HasG w b x g) (c : Nat) (hc : c < 256) (k : Nat) (ki : Int) (hk : ki = k) :
    Calls Tryz.prog 148 #[.pointer (some ⟨b, 0, none⟩), .int .u8 (c : Int), .int .i64 ki] w (Ans b w x (gCount g c k)) := by
  subst hk
  have f1 := h.fz 1
  have f2 := h.fz 2
  have c1 := h.c1
  have c2 := h.c2
  have HH := hide h
  clear h
  by_cases h48 : c = 48
  · have e : gCount g c k = { g with st := k } := by simp [gCount, h48]
    have HK : Hid (kindN c = 2) := by unfold Hid; rw [h48]; rfl
    rw [e]
    clear e h48
    go_enter Tryz.func148, Tryz.ntmps148
    go_wp2_with fail
    refine (c_kindOf c hc).mono ?_
    rintro r w1 ⟨rfl, rfl⟩
    rw [HK.out]
    go_wp2
    go_ret
    exact ⟨rfl, Rg.as (Rg.same HH.out) _ rfl rfl rfl rfl⟩
  cases hd : isDig c
  · have e : gCount g c k = { g with st := 0 } := by simp [gCount, h48, hd]
    have d1 : ((kindN c : Int) == 2) = false := by
      rw [beq_eq_false_iff_ne]; unfold kindN; repeat' split
      all_goals (first | omega | simp_all)
    have d2 : ((kindN c : Int) == 3) = false := by
      rw [beq_eq_false_iff_ne]; unfold kindN; repeat' split
      all_goals (first | omega | simp_all)
    rw [e]
    clear e h48 hd
    go_enter Tryz.func148, Tryz.ntmps148
    go_wp2_with fail
    refine (c_kindOf c hc).mono ?_
    rintro r w1 ⟨rfl, rfl⟩
    go_wp2
    go_ret
    exact ⟨rfl, Rg.as (Rg.same HH.out) _ rfl rfl rfl rfl⟩
  have e : gCount g c k = { g with st := 22, bh := k, sz := 1 } := by simp [gCount, h48, hd]
  have HK : Hid (kindN c = 3) := by
    unfold Hid kindN
    have : isLet c = false := by simp [isDig] at hd; simp [isLet]; omega
    simp [this, h48, hd]
  rw [e]
  clear e h48 hd
  go_enter Tryz.func148, Tryz.ntmps148
  go_wp2_with fail
  refine (c_kindOf c hc).mono ?_
  rintro r w1 ⟨rfl, rfl⟩
  rw [HK.out]
  go_wp2
  go_ret
  exact ⟨rfl, Rg.as (((Rg.same HH.out).set1 k).set2 1) _ rfl rfl rfl rfl⟩
set_option maxHeartbeats 400000 in
theorem g_signed {w : World} {b x : Nat} {g : G} (h : HasG w b x g) (c : Nat) (hc : c < 256) (k : Nat) (ki : Int) (hk : ki = k) :
    Calls Tryz.prog 201 #[.pointer (some ⟨b, 0, none⟩), .int .u8 (c : Int), .int .i64 ki] w (Ans b w x (gSigned g c k)) := by
  subst hk
  have HH := hide h
  clear h
  by_cases h45 : c = 45
  · have e : gSigned g c k = gMinus g k := by simp [gSigned, h45]
    rw [e]
    have d : ((c : Int) == 45) = true := by rw [h45]; rfl
    clear e h45
    go_enter Tryz.func201, Tryz.ntmps201
    go_wp2_with fail
    refine (g_minus HH.out k _ rfl).mono ?_
    rintro r w1 ⟨rfl, hr⟩
    have HR := hide hr
    clear hr
    go_wp2
    go_ret
    exact ⟨rfl, HR.out⟩
  have e : gSigned g c k = gCount g c k := by simp [gSigned, h45]
  rw [e]
  have d : ((c : Int) == 45) = false := by rw [beq_eq_false_iff_ne]; omega
  clear e h45
  go_enter Tryz.func201, Tryz.ntmps201
  go_wp2_with fail
  refine (g_count HH.out c hc k _ rfl).mono ?_
  rintro r w1 ⟨rfl, hr⟩
  have HR := hide hr
  clear hr
  generalize gCount g c k = g2 at *
  go_wp2
  go_ret
  exact ⟨rfl, HR.out⟩
end Go.Proofs.YtcbadebjpogmlaaGreatDoor
