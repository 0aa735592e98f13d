import Derived.Test.YtcbadebjpogmlaaGreatDoorJGb
import Derived.Test.YtcbadebjpogmlaaGreatDoorJMkZ
import Derived.Shelf.Strconv.Itoa3
import Derived.Shelf.Strings.Replace
import Derived.Lib.LaidTab
import Derived.Lib.AppendIntMem
import Derived.Deep.RegionHeld
namespace Go.Proofs.YtcbadebjpogmlaaGreatDoor
open Go.RowKit Tr
theorem extra155 : Builder.Extra Tryz.prog Tryz.lays155_ren where
  sizeBuilder := by kernel_rfl
  liesBuilder := by kernel_rfl
  t5 := Tryz.lays155.t5
  a5 := Tryz.lays155.a5
  z5 := Tryz.lays155.z5
  v5 := Tryz.lays155.v5
  infoByte := by kernel_rfl
  cellsByte := by kernel_rfl
  sizeByte := by kernel_rfl
  neB5 := by decide
theorem dec_digits : ∀ n, Lib.decDigits n = dec n := by
  intro n
  induction n using Nat.strongRecOn with
  | _ n ih =>
    rw [Lib.decDigits]
    by_cases h : n < 10
    · rw [dif_pos h, dec_small h]
    rw [dif_neg h, dec_great h, ih (n / 10) (by omega)]
theorem itoa_dec (n : Nat) : Lib.itoa (n : Int) = dec n := by
  unfold Lib.itoa
  rw [if_neg (by omega), dec_digits]
  rfl
theorem replaceK_one (c : UInt8) (new : List UInt8) : ∀ s : List UInt8, Lib.replaceK [c] new (Lib.count s [c]) s = s.flatMap (fun b => if b = c then new else [b])
  | [] => by
    have : Lib.count [] [c] = 0 := by rw [Lib.count_one]; rfl
    rw [this]; rfl
  | b :: l => by
    have ih := replaceK_one c new l
    by_cases h : b = c
    · subst h
      rw [Lib.count_cons_eq, Nat.add_comm, Lib.replaceK_hit _ _ _ _ 0 (by rw [Lib.index_one]; simp [Lib.indexByte])]
      simp [ih]
    rw [Lib.count_cons_ne b c l h, List.flatMap_cons, if_neg h, ← ih]
    cases hk : Lib.count l [c] with
    | zero => rfl
    | succ m =>
      obtain ⟨i, hi⟩ := Lib.index_of_count (s := l) (old := [c]) (by omega)
      have hi2 : Lib.index (b :: l) [c] = ((i + 1 : Nat) : Int) := by
        rw [Lib.index_one] at hi ⊢
        unfold Lib.indexByte
        rw [if_neg (by simpa using h), if_neg (by rw [hi]; simp), hi]
        omega
      rw [Lib.replaceK_hit _ _ _ _ _ hi2, Lib.replaceK_hit _ _ _ _ _ hi]
      simp
theorem replaceAll_one (c : UInt8) (new : List UInt8) (hn : [c] ≠ new) (s : List UInt8) : Lib.replaceAll s [c] new = s.flatMap (fun b => if b = c then new else [b]) := by
  unfold Lib.replaceAll Lib.replace Lib.replaceNum
  rw [if_neg (by simpa using hn), if_pos (Or.inl (by decide))]
  exact replaceK_one c new s
theorem escaped_eq (s : List UInt8) : Lib.replaceAll (Lib.replaceAll s [92] [92, 92]) [39] [92, 39] = s.flatMap esc1 := by
  rw [replaceAll_one 92 [92, 92] (by simp), replaceAll_one 39 [92, 39] (by simp), List.flatMap_assoc]
  apply fm_congr'
  intro b _
  unfold esc1
  by_cases h92 : b = 92
  · subst h92; decide
  by_cases h39 : b = 39
  · subst h39; decide
  simp [h92, h39]
 where
  fm_congr' {α β : Type} {f g : α → List β} : ∀ {l : List α}, (∀ a ∈ l, f a = g a) → l.flatMap f = l.flatMap g
  | [], _ => rfl
  | a :: l, h => by rw [List.flatMap_cons, List.flatMap_cons, h a (List.mem_cons_self), fm_congr' (fun x hx => h x (List.mem_cons_of_mem _ hx))]
structure EN (w : World) : Prop where
  ev : EV w
  tab : Lib.TabIs Tryz.prog w "internal/strconv.uint64pow10" .u64 Lib.pow10Tab
  tl : 0 < w.heap.size
  ml : ∃ m, w.cell? ⟨1, 0, none⟩ = some (.int .i64 m)
  ll : 1 < w.heap.size
theorem gPow : Tryz.prog.globalNamed "internal/strconv.uint64pow10" = some 0 := by kernel_rfl
theorem EN.keep {w w' : World} (h : EN w) (f : Keeps w w') : EN w' := by
  refine ⟨h.ev.keep f, ?_, Nat.lt_of_lt_of_le h.tl f.size, ?_, Nat.lt_of_lt_of_le h.ll f.size⟩
  · have := h.tab
    unfold Lib.TabIs World.var? at this ⊢
    rw [gPow] at this ⊢
    simp only [Option.bind_some] at this ⊢
    rw [f.block _ h.tl id]; exact this
  obtain ⟨m, hm⟩ := h.ml
  exact ⟨m, (f.cell (p := ⟨1, 0, none⟩) h.ll id).trans hm⟩
theorem p_itoa {w : World} (h : EN w) (n : Nat) (hn : n ≤ 4000000) : Calls Tryz.prog 75 #[.int .i64 (n : Nat)] w fun r w' => r = .returned (.string (bsb (dec n))) ∧ Keeps w w' :=
  (Any.strconv_Itoa Tryz.laysM171 (n : Int) (by omega) (by omega) w h.tab).mono (fun e w' ⟨h1, k, os, h2⟩ => ⟨by rw [h1, itoa_dec]; rfl, by rw [h2]; exact Fr.of_below (Lib.below_grow _ w (Nat.le_refl _) k os)⟩)
theorem p_replaceAll {w : World} (h : EN w) (s old new : ByteArray) (hs : s.size ≤ 16000000) (h1 : old.size = 1) (hn : new.size ≤ 2) : Calls Tryz.prog 104 #[.string s, .string old, .string new] w fun e w' =>
      e = .returned (.string (bsb (Lib.replaceAll (bs s) (bs old) (bs new)))) ∧ Keeps w w' := by
  obtain ⟨m, hm⟩ := h.ml
  refine (Any.strings_ReplaceAll Tryz.lays155 extra155 s old new m w (by omega) hm (by omega) ?_).mono (fun e w' ⟨h1, h2⟩ => ⟨h1, Fr.of_below h2⟩)
  have a := Lib.count_le s.data.toList old.data.toList
  have b : s.data.toList.length = s.size := bs_len s
  have c : Lib.count s.data.toList old.data.toList * new.size ≤ 16000001 * 2 := Nat.mul_le_mul (by omega) hn
  show s.size + Lib.count s.data.toList old.data.toList * new.size ≤ _
  omega
set_option maxHeartbeats 1000000 in
theorem p_escaped {w : World} (h : EN w) (s : ByteArray) (hs : s.size ≤ 4000000) : Calls Tryz.prog 76 #[.string s] w fun e w' => e = .returned (.string (bsb ((bs s).flatMap esc1))) ∧ Keeps w w' := by
  have C1 := hide (p_replaceAll h s ⟨#[92]⟩ ⟨#[92, 92]⟩ (by omega) rfl (by decide))
  have hsz : (bsb (Lib.replaceAll (bs s) [92] [92, 92])).size ≤ 16000000 := by
    rw [replaceAll_one 92 [92, 92] (by simp)]
    show ((bs s).flatMap _).toArray.size ≤ _
    have : ∀ l : List UInt8, (l.flatMap (fun b => if b = 92 then [92, 92] else [b])).length ≤ 2 * l.length := by
      intro l
      induction l with
      | nil => simp
      | cons a l ih => rw [List.flatMap_cons, List.length_append, List.length_cons]; split <;> simp only [List.length_cons, List.length_nil] <;> omega
    have h2 := this (bs s)
    rw [bs_len] at h2
    simp only [List.size_toArray]
    omega
  have HE := hide h
  have C2 : Hid (∀ W, Keeps w W → Calls Tryz.prog 104 #[.string (bsb (Lib.replaceAll (bs s) [92] [92, 92])), .string ⟨#[39]⟩, .string ⟨#[92, 39]⟩] W fun e w' => e = .returned (.string (bsb ((bs s).flatMap esc1))) ∧ Keeps W w') := fun W hW => by
    refine (p_replaceAll (HE.out.keep hW) _ ⟨#[39]⟩ ⟨#[92, 39]⟩ hsz rfl (by decide)).mono (fun e w' ⟨h1, h2⟩ => ⟨?_, h2⟩)
    rw [h1, bs_bsb, ← escaped_eq]
    rfl
  clear h hsz HE
  go_enter Tryz.func76, Tryz.ntmps76
  go_wp2_with fail
  refine C1.out.mono ?_
  rintro r w1 ⟨rfl, hk1⟩
  have K1 := hide hk1
  clear hk1
  go_wp2_with fail
  refine (C2.out _ K1.out).mono ?_
  rintro r w2 ⟨rfl, hk2⟩
  have K2 := hide (K1.out.trans hk2)
  clear hk2
  go_wp2
  go_ret
  exact ⟨rfl, K2.out⟩
def PH (w : World) : Nat → Nat → List UInt8 → Prop
  | 0, _, _ => False
  | n + 1, b, p => ∃ d par ix sv, Blk w b (pcl d par ix sv) 130 ∧ ix ≤ 4000000 ∧ d.name.length ≤ 4000000 ∧ ((par = .pointer none ∧ p = [36]) ∨ ∃ pb dp pp pix psv pp', par = vpt pb ∧ Blk w pb (pcl dp pp pix psv) 130 ∧ DOk dp ∧ (dp.kind = 4 ∨ dp.kind = 5) ∧ PH w n pb pp' ∧ p = kPath dp.kind pp' ix d.name)
theorem PH.keep {w w' : World} (f : Keeps w w') : ∀ {n b : Nat} {p : List UInt8}, PH w n b p → PH w' n b p
  | 0, _, _, h => h
  | _ + 1, _, _, ⟨d, par, ix, sv, h1, h2, h3, h4⟩ => by
    refine ⟨d, par, ix, sv, h1.fr f id, h2, h3, ?_⟩
    rcases h4 with x | ⟨pb, dp, pp, pix, psv, pp', x1, x2, x3, x4, x5, x6⟩
    · exact Or.inl x
    exact Or.inr ⟨pb, dp, pp, pix, psv, pp', x1, x2.fr f id, x3, x4, x5.keep f, x6⟩
end Go.Proofs.YtcbadebjpogmlaaGreatDoor
