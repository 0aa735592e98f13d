/- What is kept of memory, and the reference reader's block. -/
import Derived.Test.YtcbadebjpogmlaaGreatDoorProg
import Derived.WalkKit
import Derived.WalkSpells
import Derived.WalkLawsBesides
import Derived.Deep.QuietTactic
import Derived.BigQuiet
import Derived.Test.YtcbadebjpogmlaaGreatDoorJa
namespace Go.Proofs.YtcbadebjpogmlaaGreatDoor
open Go.RowKit Tr

/-- Of what lay in w nothing has turned but blocks that K names. -/
structure Fr (K : Nat → Prop) (w w' : World) : Prop where
  os : w'.os = w.os
  tape : w'.tape = w.tape
  output : w'.output = w.output
  size : w.heap.size ≤ w'.heap.size
  block : ∀ k, k < w.heap.size → ¬ K k → w'.heap[k]? = w.heap[k]?

theorem Fr.refl (K : Nat → Prop) (w : World) : Fr K w w := ⟨rfl, rfl, rfl, Nat.le_refl _, fun _ _ _ => rfl⟩
theorem Fr.trans {K : Nat → Prop} {a b c : World} (h : Fr K a b) (k : Fr K b c) : Fr K a c :=
  ⟨k.os.trans h.os, k.tape.trans h.tape, k.output.trans h.output, Nat.le_trans h.size k.size, fun i hi hK => (k.block i (Nat.lt_of_lt_of_le hi h.size) hK).trans (h.block i hi hK)⟩
theorem Fr.mono {K L : Nat → Prop} {a b : World} (h : Fr K a b) (hl : ∀ k, k < a.heap.size → K k → L k) : Fr L a b :=
  ⟨h.os, h.tape, h.output, h.size, fun i hi hK => h.block i hi (fun x => hK (hl i hi x))⟩
theorem Fr.drewN {K : Nat → Prop} {a w : World} (h : Fr K a w) (n : Nat) : Fr K a (w.drewN n) := ⟨h.os, h.tape, h.output, h.size, h.block⟩
theorem Fr.drew {K : Nat → Prop} {a w : World} (h : Fr K a w) : Fr K a w.drew := ⟨h.os, h.tape, h.output, h.size, h.block⟩
theorem Fr.alloc {K : Nat → Prop} {a w : World} (h : Fr K a w) (o : Obj) : Fr K a (w.alloc o) :=
  h.trans ⟨rfl, rfl, rfl, by simp, fun k hk _ => Below.heap_alloc _ _ _ hk⟩
theorem Fr.setCell {K : Nat → Prop} {a w : World} (h : Fr K a w) (p : Addr) (hp : K p.block ∨ a.heap.size ≤ p.block) (v : Value) : Fr K a (w.setCell p v) :=
  ⟨h.os, h.tape, h.output, Nat.le_trans h.size (by simp [World.setCell]), fun k hk hK => by
    rw [Below.heap_setCell _ _ _ _ (fun e => by subst e; rcases hp with x | x; exact hK x; omega)]; exact h.block k hk hK⟩
theorem Fr.of_below {K : Nat → Prop} {a w : World} (h : Below a.heap.size a w) : Fr K a w := ⟨h.os, h.tape, h.output, h.size, fun k hk _ => h.block k hk⟩
theorem Fr.below {a w : World} (h : Fr (fun _ => False) a w) : Below a.heap.size a w := ⟨h.os, h.tape, h.output, h.size, fun k hk => h.block k hk id⟩
theorem Fr.cell {K : Nat → Prop} {w w' : World} (h : Fr K w w') {p : Addr} (hp : p.block < w.heap.size) (hK : ¬ K p.block) : w'.cell? p = w.cell? p := World.cell?_of_block (w := w) (h.block p.block hp hK)
theorem Fr.frozen {K : Nat → Prop} {w w' : World} (h : Fr K w w') {p : Addr} (hp : p.block < w.heap.size) (hK : ¬ K p.block) : w'.frozen? p = w.frozen? p := World.frozen?_of_block (w := w) (h.block p.block hp hK)
theorem lt_of_some {w : World} {b : Nat} {o : Obj} (h : w.heap[b]? = some o) : b < w.heap.size := (Array.getElem?_eq_some_iff.1 h).1

/-- A string's bytes. -/
def bs (s : ByteArray) : List UInt8 := s.data.toList
theorem bs_len (s : ByteArray) : (bs s).length = s.size := by simp [bs]
theorem btB_lt {s : ByteArray} {p : Nat} (h : p < s.size) : bt (bs s) p = s[p].toNat := by
  have : (bs s)[p]? = some s[p] := by
    simp [bs, ByteArray.getElem_eq_getElem_data]
  simp [bt, this]
theorem btB_ge {s : ByteArray} {p : Nat} (h : ¬ p < s.size) : bt (bs s) p = 256 := bt_end (by rw [bs_len]; omega)

/-- The reference reader's block. -/
def HasM (w : World) (b : Nat) (s : ByteArray) (t : St) : Prop :=
  w.heap[b]? = some (.cells #[.string s, .int .i64 t.p, .int .i64 t.e, .int .i64 t.n] 145)

theorem HasM.lt {w : World} {b : Nat} {s : ByteArray} {t : St} (h : HasM w b s t) : b < w.heap.size := lt_of_some h
theorem HasM.c0 {w : World} {b : Nat} {s : ByteArray} {t : St} (h : HasM w b s t) : w.cell? ⟨b, 0, none⟩ = some (.string s) := by unfold HasM at h; simp [World.cell?, h]
theorem HasM.c1 {w : World} {b : Nat} {s : ByteArray} {t : St} (h : HasM w b s t) : w.cell? ⟨b, 1, none⟩ = some (.int .i64 t.p) := by unfold HasM at h; simp [World.cell?, h]
theorem HasM.c2 {w : World} {b : Nat} {s : ByteArray} {t : St} (h : HasM w b s t) : w.cell? ⟨b, 2, none⟩ = some (.int .i64 t.e) := by unfold HasM at h; simp [World.cell?, h]
theorem HasM.c3 {w : World} {b : Nat} {s : ByteArray} {t : St} (h : HasM w b s t) : w.cell? ⟨b, 3, none⟩ = some (.int .i64 t.n) := by unfold HasM at h; simp [World.cell?, h]
theorem HasM.fz {w : World} {b : Nat} {s : ByteArray} {t : St} (h : HasM w b s t) (i : Nat) : w.frozen? ⟨b, i, none⟩ = false := by unfold HasM at h; simp [World.frozen?, h]
theorem HasM.setP {w : World} {b : Nat} {s : ByteArray} {t : St} (h : HasM w b s t) (p : Nat) : HasM (w.setCell ⟨b, 1, none⟩ (.int .i64 p)) b s { t with p := p } := by
  unfold HasM at *; simp [World.setCell, Array.getElem?_modify, h]
theorem HasM.setE {w : World} {b : Nat} {s : ByteArray} {t : St} (h : HasM w b s t) (e : Nat) : HasM (w.setCell ⟨b, 2, none⟩ (.int .i64 e)) b s { t with e := e } := by
  unfold HasM at *; simp [World.setCell, Array.getElem?_modify, h]
theorem HasM.setN {w : World} {b : Nat} {s : ByteArray} {t : St} (h : HasM w b s t) (n : Nat) : HasM (w.setCell ⟨b, 3, none⟩ (.int .i64 n)) b s { t with n := n } := by
  unfold HasM at *; simp [World.setCell, Array.getElem?_modify, h]
theorem HasM.drewN {w : World} {b : Nat} {s : ByteArray} {t : St} (h : HasM w b s t) (n : Nat) : HasM (w.drewN n) b s t := h
theorem HasM.drew {w : World} {b : Nat} {s : ByteArray} {t : St} (h : HasM w b s t) : HasM w.drew b s t := h
theorem HasM.alloc {w : World} {b : Nat} {s : ByteArray} {t : St} (h : HasM w b s t) (o : Obj) : HasM (w.alloc o) b s t := (Below.heap_alloc _ _ _ h.lt).trans h
theorem HasM.fr {K : Nat → Prop} {w w' : World} {b : Nat} {s : ByteArray} {t : St} (h : HasM w b s t) (f : Fr K w w') (hK : ¬ K b) : HasM w' b s t := (f.block b h.lt hK).trans h

end Go.Proofs.YtcbadebjpogmlaaGreatDoor
