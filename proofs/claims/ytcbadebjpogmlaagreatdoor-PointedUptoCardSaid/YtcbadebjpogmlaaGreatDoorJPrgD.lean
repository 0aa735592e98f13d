import Derived.Test.YtcbadebjpogmlaaGreatDoorJPlain
namespace Go.Proofs.YtcbadebjpogmlaaGreatDoor
open Go.RowKit Tr
def szOf : Value → Nat | .string t => t.size | _ => 0
theorem bs_snoc {t : ByteArray} {n : Nat} (h : n < t.size) (hn : t.size = n + 1) : bs t = bs (t.extract 0 n) ++ [t[n]] := by
  have e : (bs t).length = n + 1 := by rw [bs_len]; exact hn
  have e2 : bs (t.extract 0 n) = (bs t).take n := by simp [bs, List.extract_eq_take_drop]
  rw [e2]
  have e3 : bs t = (bs t).take (n + 1) := by rw [List.take_of_length_le (by omega)]
  have e4 : (bs t).take (n + 1) = (bs t).take n ++ [(bs t)[n]'(by omega)] := List.take_succ_eq_append_getElem (by omega)
  have e5 : (bs t)[n]'(by omega) = t[n] := by simp [bs, ByteArray.getElem_eq_getElem_data]
  rw [e4, e5] at e3
  exact e3
theorem trimR_not {l : List UInt8} {a : UInt8} (h : a ≠ 33) : trimR (l ++ [a]) = l ++ [a] := by
  unfold trimR
  rw [List.reverse_append, List.reverse_singleton, List.singleton_append, List.dropWhile_cons]
  simp [h]
theorem trimR_bang2 (o : List UInt8) : trimR (o ++ [33]) = trimR o := by simp [trimR]
set_option maxRecDepth 100000 in
set_option maxHeartbeats 1000000 in
theorem c_trimRB {w : World} (t0 : ByteArray) (hz : t0.size ≤ 120) :
    Calls Tryz.prog 236 #[.string t0, .int .u8 33] w fun r w' => ∃ t, r = .returned (.string t) ∧ bs t = trimR (bs t0) ∧ w' = w := by
  go_enter Tryz.func236, Tryz.ntmps236
  go_wp2
  go_loop [0] (fun v => ∃ t : ByteArray, v = .string t ∧ t.size ≤ 120 ∧ trimR (bs t) = trimR (bs t0)) (fun v => szOf v)
  case atStart => exact ⟨t0, rfl, hz, rfl⟩
  case round =>
    obtain ⟨t, rfl, ht, htr⟩ := hrel
    have HT := hide htr
    clear htr
    by_cases h0 : t.size = 0
    · have HN : Hid (bs t = []) := by
        have := bs_len t
        rw [h0] at this
        exact List.eq_nil_of_length_eq_zero this
      go_wp2
      go_ret
      exact ⟨t, rfl, by rw [← HT.out, HN.out]; rfl, rfl⟩
    obtain ⟨n, hn⟩ : ∃ n, t.size = n + 1 := ⟨t.size - 1, by omega⟩
    have hlt : n < t.size := by omega
    have HS := hide (bs_snoc hlt hn)
    have hs3 : (t.extract 0 n).size = n := by rw [ByteArray.size_extract]; omega
    by_cases hb : t[n] = 33
    · have HB := hide hb
      have hd : (t[n].toNat : Int) = 33 := by rw [hb]; rfl
      clear hb
      go_wp2
      refine ⟨⟨t.extract 0 n, rfl, by omega, ?_⟩, by simp only [szOf]; omega⟩
      rw [← HT.out, HS.out, HB.out, trimR_bang2]
    have HB := hide hb
    have hd : ((t[n].toNat : Int) == 33) = false := by
      rw [beq_eq_false_iff_ne]
      intro e
      apply hb
      apply UInt8.toNat_inj.1
      show t[n].toNat = 33
      omega
    clear hb
    go_wp2
    go_ret
    refine ⟨t, rfl, ?_, rfl⟩
    rw [← HT.out, HS.out, trimR_not HB.out]
theorem bs_inj {a b : ByteArray} (h : bs a = bs b) : a = b := by
  cases a; cases b
  simp only [bs] at h
  rw [ByteArray.mk.injEq]
  exact Array.toList_inj.1 h
theorem bs_mk (l : List UInt8) : bs ⟨l.toArray⟩ = l := by simp [bs]
set_option maxRecDepth 100000 in
set_option maxHeartbeats 1000000 in
theorem c_trimRight {w : World} (l : List UInt8) (hz : l.length ≤ 120) :
    Calls Tryz.prog 199 #[.string ⟨l.toArray⟩, .string ⟨#[33]⟩] w fun r w' => r = .returned (.string ⟨(trimR l).toArray⟩) ∧ w' = w := by
  cases l with
  | nil =>
    have e : trimR [] = [] := rfl
    rw [e]
    clear e
    go_enter Tryz.func199, Tryz.ntmps199
    go_wp2
    go_ret
    exact ⟨rfl, rfl⟩
  | cons a r =>
    have hb := bs_mk (a :: r)
    have hsz : (⟨(a :: r).toArray⟩ : ByteArray).size ≤ 120 := by rw [← bs_len, hb]; exact hz
    have HB := hide hb
    have HZ := hide hsz
    clear hb hsz
    go_enter Tryz.func199, Tryz.ntmps199
    go_wp2_with fail
    refine (c_trimRB ⟨(a :: r).toArray⟩ HZ.out).mono ?_
    rintro rr w1 ⟨t1, rfl, h1, rfl⟩
    have HT : Hid (t1 = ⟨(trimR (a :: r)).toArray⟩) := by
      unfold Hid
      apply bs_inj
      rw [h1, HB.out, bs_mk]
    clear h1
    go_wp2
    go_ret
    exact ⟨by rw [HT.out]; rfl, rfl⟩
theorem last_toList {t : ByteArray} {n : Nat} (hlt : n < t.size) (hn : t.size = n + 1) : (t.extract n (n + 1)).toList = [t[n]] := by
  rw [ByteArray.toList_eq]
  show bs (t.extract n (n + 1)) = _
  have e : bs (t.extract n (n + 1)) = ((bs t).drop n).take (n + 1 - n) := by simp [bs, List.extract_eq_take_drop]
  rw [e, List.take_of_length_le (by rw [List.length_drop, bs_len]; omega)]
  have e2 := bs_snoc hlt hn
  have e3 : (bs (t.extract 0 n)).length = n := by rw [bs_len, ByteArray.size_extract]; omega
  rw [e2, List.drop_append_of_le_length (by omega), List.drop_of_length_le (by omega)]
  rfl
theorem trimS_not {l : List UInt8} {a : UInt8} (h : a ≠ 40) : trimS (l ++ [a]) = l ++ [a] := by
  simp [trimS, h]
theorem trimS_yes (l : List UInt8) : trimS (l ++ [40]) = l := by simp [trimS]
set_option maxRecDepth 100000 in
set_option maxHeartbeats 1000000 in
theorem c_hasSuffix {w : World} (t : ByteArray) (n : Nat) (hn : t.size = n + 1) (hlt : n < t.size) (hz : t.size ≤ 120) :
    Calls Tryz.prog 254 #[.string t, .string ⟨#[40]⟩] w fun r w' => r = .returned (.bool (t[n] == 40)) ∧ w' = w := by
  have HL := hide (last_toList hlt hn)
  go_enter Tryz.func254, Tryz.ntmps254
  go_wp2
  go_ret
  exact ⟨ret_bool (by rw [HL.out]; simp), rfl⟩
set_option maxRecDepth 100000 in
set_option maxHeartbeats 1000000 in
theorem c_trimSuffix {w : World} (t : ByteArray) (n : Nat) (hn : t.size = n + 1) (hlt : n < t.size) (hz : t.size ≤ 120) :
    Calls Tryz.prog 200 #[.string t, .string ⟨#[40]⟩] w fun r w' => ∃ t1, r = .returned (.string t1) ∧ bs t1 = trimS (bs t) ∧ w' = w := by
  have HS := hide (bs_snoc hlt hn)
  cases hb : (t[n] == 40)
  · have HB := hide hb
    have hN : t[n] ≠ 40 := by simpa using hb
    have HN := hide hN
    clear hN
    clear hb
    go_enter Tryz.func200, Tryz.ntmps200
    go_wp2_with (go_at_call 240; go_in)
    refine (c_hasSuffix t n hn hlt hz).mono ?_
    rintro rr w1 ⟨rfl, rfl⟩
    rw [HB.out]
    go_wp2
    go_ret
    exact ⟨t, rfl, by rw [HS.out, trimS_not HN.out], rfl⟩
  have HB := hide hb
  have hN : t[n] = 40 := by simpa using hb
  have HN := hide hN
  clear hN
  clear hb
  go_enter Tryz.func200, Tryz.ntmps200
  go_wp2_with (go_at_call 240; go_in)
  refine (c_hasSuffix t n hn hlt hz).mono ?_
  rintro rr w1 ⟨rfl, rfl⟩
  rw [HB.out]
  go_wp2
  go_ret
  refine ⟨t.extract 0 n, rfl, ?_, rfl⟩
  rw [HS.out, HN.out, trimS_yes]
end Go.Proofs.YtcbadebjpogmlaaGreatDoor
