/- The program's maker: its block; what begins a string; what it takes. -/
import Derived.Test.YtcbadebjpogmlaaGreatDoorJPrgH
import Derived.Test.YtcbadebjpogmlaaGreatDoorJRefE
import Derived.Lib.Builder
import Derived.Lib.AppendStr
import Derived.Lib.UnsafeStr
import Derived.Lib.Strings
namespace Go.Proofs.YtcbadebjpogmlaaGreatDoor
open Go.RowKit Tr

set_option maxHeartbeats 400000 in
theorem c_hasPrefixLite {w : World} (s p : ByteArray) :
    Calls Tryz.prog 157 #[.string s, .string p] w fun r w' => r = .returned (.bool ((bs p).isPrefixOf (bs s))) ∧ w' = w := by
  have e : (decide (p.size ≤ s.size) && ((bs s).take p.size == bs p)) = (bs p).isPrefixOf (bs s) := by
    rw [← bs_len p, ← bs_len s]; exact Lib.hasPrefix_of_take (bs s) (bs p)
  rw [← e]
  clear e
  go_enter Tryz.func157, Tryz.ntmps157
  go_wp2
  · rename_i h
    go_ret
    refine ⟨?_, rfl⟩
    show Ending.returned (Value.bool ((s.extract 0 p.size).toList == p.toList)) = _
    rw [Lib.extract_toList, Lib.toList_data]
    simp [h, bs]
  · rename_i h
    go_ret
    refine ⟨?_, rfl⟩
    show Ending.returned (Value.bool false) = _
    simp [h]

set_option maxHeartbeats 400000 in
theorem c_hasPrefix {w : World} (s p : ByteArray) :
    Calls Tryz.prog 113 #[.string s, .string p] w fun r w' => r = .returned (.bool ((bs p).isPrefixOf (bs s))) ∧ w' = w := by
  go_enter Tryz.func113, Tryz.ntmps113
  go_wp2_with fail
  refine (c_hasPrefixLite _ _).mono ?_
  rintro r w' ⟨rfl, rfl⟩
  go_wp2
  go_ret
  exact ⟨rfl, rfl⟩

/-- The maker's cells. -/
def mkc (q : ByteArray) (at' : Nat) (p v : Value) (n : Nat) : Array Value := #[.string q, .int .i64 (at' : Nat), p, v, .int .i64 (n : Nat)]

/-- What is taken: the bytes of 'sign' stand at the place. -/
def tk (q : ByteArray) (a : Nat) (sign : ByteArray) : Bool := (bs sign).isPrefixOf ((bs q).drop a)

theorem tk_le {q : ByteArray} {a : Nat} {sign : ByteArray} (h : tk q a sign = true) (ha : a ≤ q.size) : a + sign.size ≤ q.size := by
  unfold tk at h
  have := (List.isPrefixOf_iff_prefix.1 h).length_le
  rw [List.length_drop, bs_len, bs_len] at this
  omega
theorem tk_ext (q : ByteArray) (a : Nat) (sign : ByteArray) : (bs sign).isPrefixOf (bs (q.extract a q.size)) = tk q a sign := by
  unfold tk
  have : bs (q.extract a q.size) = (bs q).drop a := by
    have e := Lib.extract_toList q a q.size
    rw [Lib.toList_data] at e
    unfold bs
    rw [e, List.take_of_length_le (by simp)]
  rw [this]

/-- Behind a quiet step of the maker: the place has moved, and nothing else that was there. -/
structure Qt (g : Nat) (q : ByteArray) (p v : Value) (n : Nat) (w : World) (a : Nat) (w' : World) : Prop where
  b : Blk w' g (mkc q a p v n) 141
  f : Fr (fun k => k = g) w w'
  le : a ≤ q.size

theorem Qt.drewN {g : Nat} {q : ByteArray} {p v : Value} {n : Nat} {w0 w : World} {a : Nat} (h : Qt g q p v n w0 a w) (k : Nat) : Qt g q p v n w0 a (w.drewN k) := ⟨h.b, h.f.drewN k, h.le⟩
theorem Qt.at_ {g : Nat} {q : ByteArray} {p v : Value} {n : Nat} {w0 w : World} {a k : Nat} (h : Qt g q p v n w0 a w) (hk : k ≤ q.size) : Qt g q p v n w0 k (w.setCell ⟨g, 1, none⟩ (.int .i64 (k : Nat))) :=
  ⟨h.b.set 1 _, h.f.setCell _ (Or.inl rfl) _, hk⟩

set_option maxHeartbeats 1000000 in
theorem c_takes {w0 w : World} {g : Nat} {q : ByteArray} {a : Nat} {p v : Value} {n : Nat} (h : Qt g q p v n w0 a w) (hq : q.size ≤ 1000) (sign : ByteArray) :
    Calls Tryz.prog 85 #[.pointer (some ⟨g, 0, none⟩), .string sign] w fun r w' => r = .returned (.bool (tk q a sign)) ∧ Qt g q p v n w0 (if tk q a sign then a + sign.size else a) w' := by
  have H := hide h
  have c0 : w.cell? ⟨g, 0, none⟩ = some (.string q) := h.b.cell 0
  have c1 : w.cell? ⟨g, 1, none⟩ = some (.int .i64 (a : Nat)) := h.b.cell 1
  have f1 := h.b.fz 1
  have e1 : (a : Int) ≤ (q.size : Int) := by have := h.le; omega
  have hle : Hid (tk q a sign = true → a + sign.size ≤ q.size) := fun x => tk_le x h.le
  clear h
  by_cases ht : tk q a sign = true
  · have hkl : a + sign.size ≤ q.size := hle.out ht
    rw [ht, if_pos rfl]
    clear hle
    go_enter Tryz.func85, Tryz.ntmps85
    go_wp2_with fail
    go_quiet ((go_at_call 113; exact Calls.quiet_of_same (c_hasPrefix _ _)))
    rw [tk_ext, ht]
    have H1 : Hid (Qt g q p v n w0 a (w.drewN nq)) := H.out.drewN nq
    clear H c0 c1 f1
    generalize w.drewN nq = w1 at *
    have c1 : w1.cell? ⟨g, 1, none⟩ = some (.int .i64 (a : Nat)) := H1.out.b.cell 1
    have f1 := H1.out.b.fz 1
    go_wp2
    go_ret
    exact ⟨rfl, H1.out.at_ hkl⟩
  · have ht : tk q a sign = false := by simpa using ht
    rw [ht]
    go_enter Tryz.func85, Tryz.ntmps85
    go_wp2_with fail
    go_quiet ((go_at_call 113; exact Calls.quiet_of_same (c_hasPrefix _ _)))
    rw [tk_ext, ht]
    go_wp2
    go_ret
    exact ⟨rfl, H.out.b, H.out.f.drewN _, H.out.le⟩

end Go.Proofs.YtcbadebjpogmlaaGreatDoor

/- The program's maker: a run of bytes. -/
namespace Go.Proofs.YtcbadebjpogmlaaGreatDoor
open Go.RowKit Tr

theorem kindN_let (c : Nat) : (((kindN c : Nat) : Int) == 1) = isLet c := by
  unfold kindN
  split
  · simp_all
  · split
    · simp_all
    · split
      · simp_all
      · split <;> simp_all
theorem kindN_dig (c : Nat) : ((((kindN c : Nat) : Int) == 2) || (((kindN c : Nat) : Int) == 3)) = isDig c := by
  unfold kindN
  split
  · rename_i h
    simp [isLet] at h
    have : isDig c = false := by simp [isDig]; omega
    rw [this]; decide
  · split
    · rename_i h; subst h; decide
    · split
      · simp_all
      · split <;> simp_all
theorem kindN_quo (c : Nat) : (!(((kindN c : Nat) : Int) == 0)) = isQuo c := by
  unfold kindN isQuo
  split
  · simp_all
  · split
    · rename_i h; subst h; decide
    · split
      · simp_all
      · split <;> simp_all

set_option maxHeartbeats 400000 in
theorem m_isLetter {w : World} (c : Nat) (hc : c < 256) : Calls Tryz.prog 193 #[.int .u8 (c : Int)] w fun r w' => r = .returned (.bool (isLet c)) ∧ w' = w := by
  rw [← kindN_let]
  go_enter Tryz.func193, Tryz.ntmps193
  go_wp2_with fail
  refine (c_kindOf c hc).mono ?_
  rintro r w' ⟨rfl, rfl⟩
  go_wp2
  go_ret
  exact ⟨rfl, rfl⟩

set_option maxHeartbeats 400000 in
theorem m_isQuoted {w : World} (c : Nat) (hc : c < 256) : Calls Tryz.prog 195 #[.int .u8 (c : Int)] w fun r w' => r = .returned (.bool (isQuo c)) ∧ w' = w := by
  rw [← kindN_quo]
  go_enter Tryz.func195, Tryz.ntmps195
  go_wp2_with fail
  refine (c_kindOf c hc).mono ?_
  rintro r w' ⟨rfl, rfl⟩
  go_wp2
  go_ret
  exact ⟨rfl, rfl⟩

theorem kindN_lt (c : Nat) : kindN c = 0 ∨ kindN c = 1 ∨ kindN c = 2 ∨ kindN c = 3 ∨ kindN c = 4 := by
  unfold kindN
  split
  · simp
  · split
    · simp
    · split
      · simp
      · split <;> simp

theorem m_isDigitK {w : World} (c k : Nat) (hk : ∀ w : World, Calls Tryz.prog 147 #[.int .u8 (c : Int)] w fun r w' => r = .returned (.int .i64 (k : Nat)) ∧ w' = w) (h2 : k ≠ 2) :
    Calls Tryz.prog 194 #[.int .u8 (c : Int)] w fun r w' => r = .returned (.bool ((((k : Nat) : Int) == 2) || (((k : Nat) : Int) == 3))) ∧ w' = w := by
  have H := hide hk
  have h3 : ¬ ((k : Nat) : Int) = 2 := by omega
  clear hk h2
  go_enter Tryz.func194, Tryz.ntmps194
  go_wp2_with fail
  refine (H.out _).mono ?_
  rintro r w' ⟨rfl, rfl⟩
  go_wp2_with fail
  refine (H.out _).mono ?_
  rintro r w' ⟨rfl, rfl⟩
  go_wp2
  go_ret
  exact ⟨rfl, rfl⟩

theorem m_isDigit2 {w : World} (c : Nat) (hk : ∀ w : World, Calls Tryz.prog 147 #[.int .u8 (c : Int)] w fun r w' => r = .returned (.int .i64 2) ∧ w' = w) :
    Calls Tryz.prog 194 #[.int .u8 (c : Int)] w fun r w' => r = .returned (.bool true) ∧ w' = w := by
  have H := hide hk
  clear hk
  go_enter Tryz.func194, Tryz.ntmps194
  go_wp2_with fail
  refine (H.out _).mono ?_
  rintro r w' ⟨rfl, rfl⟩
  go_wp2
  go_ret
  exact ⟨rfl, rfl⟩

theorem m_isDigit {w : World} (c : Nat) (hc : c < 256) : Calls Tryz.prog 194 #[.int .u8 (c : Int)] w fun r w' => r = .returned (.bool (isDig c)) ∧ w' = w := by
  rw [← kindN_dig]
  by_cases h : kindN c = 2
  · rw [h]
    refine m_isDigit2 c (fun w => ?_)
    have := c_kindOf (w := w) c hc
    rw [h] at this
    exact this
  · exact m_isDigitK c (kindN c) (fun w => c_kindOf c hc) h

/-- What tells the bytes of a run. -/
structure Fits (fn : FuncId) (ok : Nat → Bool) : Prop where
  say : ∀ (w : World) (c : Nat), c < 256 → Calls Tryz.prog fn #[.int .u8 (c : Int)] w fun r w' => r = .returned (.bool (ok c)) ∧ w' = w
  enters : ∀ args w, (callFunc fn args).run Tryz.prog w = .ok (.enter fn args) w

end Go.Proofs.YtcbadebjpogmlaaGreatDoor
