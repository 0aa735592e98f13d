/- The program's maker: a run of bytes. -/
import Derived.Test.YtcbadebjpogmlaaGreatDoorJMkA
namespace Go.Proofs.YtcbadebjpogmlaaGreatDoor
open Go.RowKit Tr

/-- The maker's place. -/
def mA (g : Nat) (w : World) : Nat := match w.cell? ⟨g, 1, none⟩ with | some (.int _ n) => n.toNat | _ => 0
theorem Qt.mA {g : Nat} {q : ByteArray} {p v : Value} {n : Nat} {w0 w : World} {a : Nat} (h : Qt g q p v n w0 a w) : mA g w = a := by
  have c1 : w.cell? ⟨g, 1, none⟩ = some (.int .i64 (a : Nat)) := h.b.cell 1
  simp [Go.Proofs.YtcbadebjpogmlaaGreatDoor.mA, c1]

theorem bt_get {q : ByteArray} {i : Nat} (h : i < q.size) : bt (bs q) i = (q[i]).toNat := by
  have e : (bs q)[i]? = some q[i] := by
    unfold bs
    rw [List.getElem?_eq_getElem (by simpa using h)]
    rfl
  unfold bt
  rw [e]

/-- A run from a to k. -/
structure RunP (ok : Nat → Bool) (q : ByteArray) (a k : Nat) : Prop where
  ge : a ≤ k
  le : k ≤ q.size
  all : ∀ i, a ≤ i → i < k → ok (bt (bs q) i) = true
  stop : k < q.size → ok (bt (bs q) k) = false

set_option maxHeartbeats 1000000 in
theorem c_run_isLetter {w0 w : World} {g : Nat} {q : ByteArray} {a : Nat} {p v : Value} {n : Nat} (h : Qt g q p v n w0 a w) (hq : q.size ≤ 1000) :
    Calls Tryz.prog 204 #[.pointer (some ⟨g, 0, none⟩), .func (.func 193) #[] #[]] w fun r w' => ∃ k, RunP isLet q a k ∧ r = .returned (.string (q.extract a k)) ∧ Qt g q p v n w0 k w' := by
  have H := hide h
  have c0 : w.cell? ⟨g, 0, none⟩ = some (.string q) := h.b.cell 0
  have c1 : w.cell? ⟨g, 1, none⟩ = some (.int .i64 (a : Nat)) := h.b.cell 1
  have hle := h.le
  clear h
  go_enter Tryz.func204, Tryz.ntmps204
  go_wp2
  go_loopw [10] (fun _ wr => ∃ k : Nat, a ≤ k ∧ k ≤ q.size ∧ (∀ i, a ≤ i → i < k → isLet (bt (bs q) i) = true) ∧ Qt g q p v n w0 k wr) (fun _ wr => q.size - mA g wr)
  case atStart => exact ⟨a, Nat.le_refl _, hle, fun i h1 h2 => by omega, H.out⟩
  case round =>
    obtain ⟨k, hak, hkq, hall, hQ⟩ := hrel
    have HA := hide hall
    have HQ := hide hQ
    clear hall hQ c0 c1 H
    have c0 : wr.cell? ⟨g, 0, none⟩ = some (.string q) := HQ.out.b.cell 0
    have c1 : wr.cell? ⟨g, 1, none⟩ = some (.int .i64 (k : Nat)) := HQ.out.b.cell 1
    have f1 := HQ.out.b.fz 1
    by_cases hlt : k < q.size
    · have HC : Hid (∀ w' : World, Calls Tryz.prog 193 #[.int .u8 ((q[k]).toNat : Int)] w' fun r w2 => r = .returned (.bool (isLet (q[k]).toNat)) ∧ w2 = w') := fun w' => m_isLetter _ (q[k]).toNat_lt
      have eb := bt_get hlt
      go_wp2_with fail
      go_quiet ((go_at_call 193; exact Calls.quiet_of_same (HC.out _)))
      have H1 : Hid (Qt g q p v n w0 k (wr.drewN nq)) := HQ.out.drewN nq
      rw [← eb]
      have HM := hide HQ.out.mA
      clear HQ c0 c1 f1 eb HC
      generalize wr.drewN nq = w1 at *
      have c0 : w1.cell? ⟨g, 0, none⟩ = some (.string q) := H1.out.b.cell 0
      have c1 : w1.cell? ⟨g, 1, none⟩ = some (.int .i64 (k : Nat)) := H1.out.b.cell 1
      have f1 := H1.out.b.fz 1
      by_cases ho : isLet (bt (bs q) k) = true
      · have HO := hide ho
        rw [ho]
        clear ho
        go_wp2
        go_roundw
        case rel =>
          exact ⟨k + 1, by omega, by omega, fun i h1 h2 => by
            by_cases e : i = k
            · subst e; exact HO.out
            · exact HA.out i h1 (by omega), H1.out.at_ (k := k + 1) (by omega)⟩
        case measure =>
          have e1 : mA g wr = k := HM.out
          have e2 : mA g (w1.setCell ⟨g, 1, none⟩ (.int .i64 ((k + 1 : Nat) : Int))) = k + 1 := (H1.out.at_ (k := k + 1) (by omega)).mA
          rw [e1]
          simp at e2 ⊢
          omega
      · have ho : isLet (bt (bs q) k) = false := by simpa using ho
        have HO := hide ho
        rw [ho]
        clear ho
        go_wp2
        go_quiet (fail)
        go_wp2
        go_ret
        exact ⟨k, ⟨hak, hkq, HA.out, fun _ => HO.out⟩, rfl, H1.out.drewN _⟩
    · have hk : k = q.size := by omega
      subst hk
      go_wp2_with fail
      go_quiet (fail)
      go_wp2
      go_quiet (fail)
      go_wp2
      go_ret
      exact ⟨q.size, ⟨hak, hkq, HA.out, fun h => absurd h (Nat.lt_irrefl _)⟩, rfl, (HQ.out.drewN _).drewN _⟩

set_option maxHeartbeats 1000000 in
theorem c_run_isDigit {w0 w : World} {g : Nat} {q : ByteArray} {a : Nat} {p v : Value} {n : Nat} (h : Qt g q p v n w0 a w) (hq : q.size ≤ 1000) :
    Calls Tryz.prog 204 #[.pointer (some ⟨g, 0, none⟩), .func (.func 194) #[] #[]] w fun r w' => ∃ k, RunP isDig q a k ∧ r = .returned (.string (q.extract a k)) ∧ Qt g q p v n w0 k w' := by
  have H := hide h
  have c0 : w.cell? ⟨g, 0, none⟩ = some (.string q) := h.b.cell 0
  have c1 : w.cell? ⟨g, 1, none⟩ = some (.int .i64 (a : Nat)) := h.b.cell 1
  have hle := h.le
  clear h
  go_enter Tryz.func204, Tryz.ntmps204
  go_wp2
  go_loopw [10] (fun _ wr => ∃ k : Nat, a ≤ k ∧ k ≤ q.size ∧ (∀ i, a ≤ i → i < k → isDig (bt (bs q) i) = true) ∧ Qt g q p v n w0 k wr) (fun _ wr => q.size - mA g wr)
  case atStart => exact ⟨a, Nat.le_refl _, hle, fun i h1 h2 => by omega, H.out⟩
  case round =>
    obtain ⟨k, hak, hkq, hall, hQ⟩ := hrel
    have HA := hide hall
    have HQ := hide hQ
    clear hall hQ c0 c1 H
    have c0 : wr.cell? ⟨g, 0, none⟩ = some (.string q) := HQ.out.b.cell 0
    have c1 : wr.cell? ⟨g, 1, none⟩ = some (.int .i64 (k : Nat)) := HQ.out.b.cell 1
    have f1 := HQ.out.b.fz 1
    by_cases hlt : k < q.size
    · have HC : Hid (∀ w' : World, Calls Tryz.prog 194 #[.int .u8 ((q[k]).toNat : Int)] w' fun r w2 => r = .returned (.bool (isDig (q[k]).toNat)) ∧ w2 = w') := fun w' => m_isDigit _ (q[k]).toNat_lt
      have eb := bt_get hlt
      go_wp2_with fail
      go_quiet ((go_at_call 194; exact Calls.quiet_of_same (HC.out _)))
      have H1 : Hid (Qt g q p v n w0 k (wr.drewN nq)) := HQ.out.drewN nq
      rw [← eb]
      have HM := hide HQ.out.mA
      clear HQ c0 c1 f1 eb HC
      generalize wr.drewN nq = w1 at *
      have c0 : w1.cell? ⟨g, 0, none⟩ = some (.string q) := H1.out.b.cell 0
      have c1 : w1.cell? ⟨g, 1, none⟩ = some (.int .i64 (k : Nat)) := H1.out.b.cell 1
      have f1 := H1.out.b.fz 1
      by_cases ho : isDig (bt (bs q) k) = true
      · have HO := hide ho
        rw [ho]
        clear ho
        go_wp2
        go_roundw
        case rel =>
          exact ⟨k + 1, by omega, by omega, fun i h1 h2 => by
            by_cases e : i = k
            · subst e; exact HO.out
            · exact HA.out i h1 (by omega), H1.out.at_ (k := k + 1) (by omega)⟩
        case measure =>
          have e1 : mA g wr = k := HM.out
          have e2 : mA g (w1.setCell ⟨g, 1, none⟩ (.int .i64 ((k + 1 : Nat) : Int))) = k + 1 := (H1.out.at_ (k := k + 1) (by omega)).mA
          rw [e1]
          simp at e2 ⊢
          omega
      · have ho : isDig (bt (bs q) k) = false := by simpa using ho
        have HO := hide ho
        rw [ho]
        clear ho
        go_wp2
        go_quiet (fail)
        go_wp2
        go_ret
        exact ⟨k, ⟨hak, hkq, HA.out, fun _ => HO.out⟩, rfl, H1.out.drewN _⟩
    · have hk : k = q.size := by omega
      subst hk
      go_wp2_with fail
      go_quiet (fail)
      go_wp2
      go_quiet (fail)
      go_wp2
      go_ret
      exact ⟨q.size, ⟨hak, hkq, HA.out, fun h => absurd h (Nat.lt_irrefl _)⟩, rfl, (HQ.out.drewN _).drewN _⟩

set_option maxHeartbeats 1000000 in
theorem c_run_isQuoted {w0 w : World} {g : Nat} {q : ByteArray} {a : Nat} {p v : Value} {n : Nat} (h : Qt g q p v n w0 a w) (hq : q.size ≤ 1000) :
    Calls Tryz.prog 204 #[.pointer (some ⟨g, 0, none⟩), .func (.func 195) #[] #[]] w fun r w' => ∃ k, RunP isQuo q a k ∧ r = .returned (.string (q.extract a k)) ∧ Qt g q p v n w0 k w' := by
  have H := hide h
  have c0 : w.cell? ⟨g, 0, none⟩ = some (.string q) := h.b.cell 0
  have c1 : w.cell? ⟨g, 1, none⟩ = some (.int .i64 (a : Nat)) := h.b.cell 1
  have hle := h.le
  clear h
  go_enter Tryz.func204, Tryz.ntmps204
  go_wp2
  go_loopw [10] (fun _ wr => ∃ k : Nat, a ≤ k ∧ k ≤ q.size ∧ (∀ i, a ≤ i → i < k → isQuo (bt (bs q) i) = true) ∧ Qt g q p v n w0 k wr) (fun _ wr => q.size - mA g wr)
  case atStart => exact ⟨a, Nat.le_refl _, hle, fun i h1 h2 => by omega, H.out⟩
  case round =>
    obtain ⟨k, hak, hkq, hall, hQ⟩ := hrel
    have HA := hide hall
    have HQ := hide hQ
    clear hall hQ c0 c1 H
    have c0 : wr.cell? ⟨g, 0, none⟩ = some (.string q) := HQ.out.b.cell 0
    have c1 : wr.cell? ⟨g, 1, none⟩ = some (.int .i64 (k : Nat)) := HQ.out.b.cell 1
    have f1 := HQ.out.b.fz 1
    by_cases hlt : k < q.size
    · have HC : Hid (∀ w' : World, Calls Tryz.prog 195 #[.int .u8 ((q[k]).toNat : Int)] w' fun r w2 => r = .returned (.bool (isQuo (q[k]).toNat)) ∧ w2 = w') := fun w' => m_isQuoted _ (q[k]).toNat_lt
      have eb := bt_get hlt
      go_wp2_with fail
      go_quiet ((go_at_call 195; exact Calls.quiet_of_same (HC.out _)))
      have H1 : Hid (Qt g q p v n w0 k (wr.drewN nq)) := HQ.out.drewN nq
      rw [← eb]
      have HM := hide HQ.out.mA
      clear HQ c0 c1 f1 eb HC
      generalize wr.drewN nq = w1 at *
      have c0 : w1.cell? ⟨g, 0, none⟩ = some (.string q) := H1.out.b.cell 0
      have c1 : w1.cell? ⟨g, 1, none⟩ = some (.int .i64 (k : Nat)) := H1.out.b.cell 1
      have f1 := H1.out.b.fz 1
      by_cases ho : isQuo (bt (bs q) k) = true
      · have HO := hide ho
        rw [ho]
        clear ho
        go_wp2
        go_roundw
        case rel =>
          exact ⟨k + 1, by omega, by omega, fun i h1 h2 => by
            by_cases e : i = k
            · subst e; exact HO.out
            · exact HA.out i h1 (by omega), H1.out.at_ (k := k + 1) (by omega)⟩
        case measure =>
          have e1 : mA g wr = k := HM.out
          have e2 : mA g (w1.setCell ⟨g, 1, none⟩ (.int .i64 ((k + 1 : Nat) : Int))) = k + 1 := (H1.out.at_ (k := k + 1) (by omega)).mA
          rw [e1]
          simp at e2 ⊢
          omega
      · have ho : isQuo (bt (bs q) k) = false := by simpa using ho
        have HO := hide ho
        rw [ho]
        clear ho
        go_wp2
        go_quiet (fail)
        go_wp2
        go_ret
        exact ⟨k, ⟨hak, hkq, HA.out, fun _ => HO.out⟩, rfl, H1.out.drewN _⟩
    · have hk : k = q.size := by omega
      subst hk
      go_wp2_with fail
      go_quiet (fail)
      go_wp2
      go_quiet (fail)
      go_wp2
      go_ret
      exact ⟨q.size, ⟨hak, hkq, HA.out, fun h => absurd h (Nat.lt_irrefl _)⟩, rfl, (HQ.out.drewN _).drewN _⟩

end Go.Proofs.YtcbadebjpogmlaaGreatDoor
