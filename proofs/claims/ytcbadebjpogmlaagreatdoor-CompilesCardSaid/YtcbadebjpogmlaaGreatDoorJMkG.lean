/- The program's maker: counts, by the library's contracts. -/
import Derived.Test.YtcbadebjpogmlaaGreatDoorJMkD
import Derived.Test.YtcbadebjpogmlaaGreatDoorJShelf
import Derived.Lib.AtoiErrMem
import Derived.Test.YtcbadebjpogmlaaGreatDoorJa
namespace Go.Proofs.YtcbadebjpogmlaaGreatDoor
open Go.RowKit Tr Go.Shelf

theorem l_clone (s : ByteArray) (w : World) (hlim : s.size ≤ 281474976710656) : Calls Tryz.prog 84 #[.string s] w fun e w' => e = .returned (.string s) ∧ Below w.heap.size w w' :=
  Any.stringslite_Clone Tryz.laysM316 s w hlim

theorem l_atoi (s : ByteArray) (n : Int) (hl : s.size ≤ 18) (h : Lib.atoi s.data.toList = some n) (w : World) :
    Calls Tryz.prog 255 #[.string s] w fun e w' => e = .returned (.tuple #[.int .i64 n, .nilIface]) ∧ ∃ t, w' = Lib.bytesWorld w 5 t := Any.strconv_Atoi Tryz.lays172 s n hl h w

theorem l_atoi_err (s : ByteArray) (hl : s.size ≤ 18) (h : Lib.atoi s.data.toList = none) (ev : Value) (w : World) (hv : w.cell? ⟨6, 0, none⟩ = some ev) (hev : ev = .nilIface ∨ ∃ te pe, ev = .iface te pe) :
    Calls Tryz.prog 255 #[.string s] w fun e w' => ∃ N, e = .returned (.tuple #[.int .i64 0, .iface 314 (.pointer (some ⟨N, 0, none⟩))]) ∧ Below w.heap.size w w' :=
  (Any.strconv_Atoi_err Tryz.laysC172 s hl h ev w hv hev).mono (fun _ _ ⟨N, h1, _, _, h2⟩ => ⟨N, h1, h2⟩)

/-- What a number's text gives: a number and an error, or none. -/
theorem m_atoi (s : ByteArray) (hl : s.size ≤ 18) (ev : Value) (w : World) (hv : w.cell? ⟨6, 0, none⟩ = some ev) (hev : ev = .nilIface ∨ ∃ te pe, ev = .iface te pe) :
    Calls Tryz.prog 255 #[.string s] w fun e w' => (∃ n er, e = .returned (.tuple #[.int .i64 n, er]) ∧ (er = .nilIface ∨ ∃ N, er = .iface 314 (.pointer (some ⟨N, 0, none⟩)))) ∧ Below w.heap.size w w' := by
  cases h : Lib.atoi s.data.toList with
  | none =>
    refine (l_atoi_err s hl h ev w hv hev).mono ?_
    rintro e w' ⟨N, rfl, hb⟩
    exact ⟨⟨0, _, rfl, Or.inr ⟨N, rfl⟩⟩, hb⟩
  | some n =>
    refine (l_atoi s n hl h w).mono ?_
    rintro e w' ⟨rfl, t, rfl⟩
    exact ⟨⟨n, _, rfl, Or.inl rfl⟩, Lib.bytesWorld_below w _ t⟩

/-- The library's error stands where it stood. -/
structure Er (g : Nat) (w0 : World) : Prop where
  v : ∃ ev, w0.cell? ⟨6, 0, none⟩ = some ev ∧ (ev = .nilIface ∨ ∃ te pe, ev = .iface te pe)
  ne : 6 ≠ g
  lt : 6 < w0.heap.size

theorem Qt.below {g : Nat} {q : ByteArray} {p v : Value} {n : Nat} {w0 w w' : World} {a : Nat} (h : Qt g q p v n w0 a w) (hb : Below w.heap.size w w') : Qt g q p v n w0 a w' :=
  ⟨h.b.fr (Fr.of_below (K := fun _ => False) hb) id, h.f.trans (Fr.of_below hb), h.le⟩

set_option maxHeartbeats 1000000 in
theorem k_count {w0 w : World} {g : Nat} {q : ByteArray} {a : Nat} {p v : Value} {n : Nat} (h : Qt g q p v n w0 a w) (hq : q.size ≤ 1000) (he : Er g w0) (h18 : ∀ k, RunP isDig q a k → k ≤ a + 18) (i : Int) :
    Calls Tryz.prog 242 #[.pointer (some ⟨g, 0, none⟩), .int .i64 i] w fun r w' => ∃ k m, RunP isDig q a k ∧ r = .returned (.int .i64 m) ∧ Qt g q p v n w0 k w' := by
  have H := hide h
  have HE := hide he
  have H18 := hide h18
  clear h he h18
  go_enter Tryz.func242, Tryz.ntmps242
  go_wp2_with fail
  refine (c_run_isDigit H.out hq).mono ?_
  rintro r w1 ⟨k, hk, rfl, h1⟩
  have H1 := hide h1
  have HK := hide hk
  clear h1 hk H
  obtain ⟨ev, hv, hev⟩ := HE.out.v
  have hv1 : w1.cell? ⟨6, 0, none⟩ = some ev := (H1.out.f.cell (p := ⟨6, 0, none⟩) HE.out.lt HE.out.ne).trans hv
  have HV := hide hv1
  have HEV := hide hev
  clear hv hv1 hev
  go_wp2_with fail
  refine (m_atoi _ (by
    have h1 := H18.out k HK.out
    have h2 := HK.out.le
    simp [ByteArray.size_extract]; omega) ev _ HV.out HEV.out).mono ?_
  rintro r w2 ⟨⟨m, er, rfl, her⟩, hb⟩
  have H2 := hide (H1.out.below hb)
  clear hb H1 HV HEV
  rcases her with rfl | ⟨N, rfl⟩
  · go_wp2
    go_ret
    exact ⟨k, m, HK.out, rfl, H2.out⟩
  · go_wp2
    go_ret
    exact ⟨k, i, HK.out, rfl, H2.out⟩

end Go.Proofs.YtcbadebjpogmlaaGreatDoor

/- The program's maker against the plain machine: what it takes, its runs and counts. -/
namespace Go.Proofs.YtcbadebjpogmlaaGreatDoor
open Go.RowKit Tr

theorem pfx_drop (s : List UInt8) : ∀ (l : List UInt8) (a : Nat), l.isPrefixOf (s.drop a) = pfx s (l.map UInt8.toNat) a
  | [], a => by simp [pfx]
  | c :: l, a => by
    simp only [List.map_cons, pfx]
    rw [← pfx_drop s l (a + 1)]
    unfold bt
    cases h : s[a]? with
    | none =>
      have : s.drop a = [] := by simpa using h
      rw [this]
      have := c.toNat_lt
      simp; omega
    | some d =>
      have hd : s.drop a = d :: s.drop (a + 1) := by
        obtain ⟨hl, he⟩ := List.getElem?_eq_some_iff.1 h
        rw [List.drop_eq_getElem_cons hl, he]
      rw [hd]
      simp only [List.isPrefixOf]
      congr 1
      by_cases e : c = d
      · subst e; simp
      · have : d.toNat ≠ c.toNat := fun x => e (UInt8.toNat_inj.1 x).symm
        have h1 : (c == d) = false := by simpa using e
        have h2 : (d.toNat == c.toNat) = false := by simpa using this
        rw [h1, h2]
theorem tk_pfx (q : ByteArray) (a : Nat) (sign : ByteArray) : tk q a sign = pfx (bs q) (nb sign) a := pfx_drop (bs q) (bs sign) a
theorem tk1 (q : ByteArray) {t : St} (he : t.e = 0) (c : UInt8) : tk q t.p ⟨#[c]⟩ = sees (bs q) t c.toNat := by
  rw [tk_pfx]
  show (bt (bs q) t.p == c.toNat && true) = _
  simp [sees, he]

/-- A run of the maker's, as the machine bounds it. -/
theorem run_of {ok : Nat → Bool} {q : ByteArray} {a k K : Nat} (h : RunP ok q a k) (h256 : ok 256 = false) (hr : ok (bt (bs q) (run ok (bs q) K a)) = false) : run ok (bs q) K a = k := by
  refine run_eq h.ge h.all ?_ hr
  rcases Nat.lt_or_ge k q.size with hk | hk
  · exact h.stop hk
  · rw [bt_end (by rw [bs_len]; exact hk)]; exact h256

end Go.Proofs.YtcbadebjpogmlaaGreatDoor

/- The program's maker against the plain machine: counts, words and quotes. -/
namespace Go.Proofs.YtcbadebjpogmlaaGreatDoor
open Go.RowKit Tr

theorem cnt_eq {q : ByteArray} (hf : FinP (bs q)) {q0 c K n : Nat} {o : List UInt8} {t : St} {m : Bool} (he : t.e = 0) (h : Live (bs q) q0 c K o n (countQ (bs q) t m)) (hK : K = 7 ∨ K = 9 ∨ K = 14 ∨ K = 18)
    {k : Nat} (hk : RunP isDig q t.p k) : countQ (bs q) t m = { t with p := k } ∧ k ≤ t.p + 3 := by
  have hnd := fin_nodig hf h hK
  have he0 := h.e0
  unfold countQ at hnd he0 ⊢
  split at hnd
  · rename_i hc
    rw [if_pos hc] at he0
    simp [wrong, he] at he0
  · rename_i hc
    rw [if_neg hc] at he0
    rw [if_neg hc]
    have hd : isDig (bt (bs q) t.p) = true := by
      simp only [not_or] at hc
      have := hc.1
      simpa [digit, he] using this
    split at hnd
    · rename_i h48
      rw [if_pos h48]
      have e1 : run isDig (bs q) 1 t.p = t.p + 1 := by simp [run, hd]
      have := run_of (K := 1) hk (by decide) (by rw [e1]; exact hnd)
      rw [e1] at this
      subst this
      exact ⟨rfl, by omega⟩
    · rename_i h48
      rw [if_neg h48]
      have e1 : (runP isDig (bs q) 3 t) = { t with p := run isDig (bs q) 3 t.p } := by unfold runP; rw [if_pos he]
      rw [e1] at hnd ⊢
      have := run_of (K := 3) hk (by decide) hnd
      have h3 := run_le isDig (bs q) 3 t.p
      rw [this] at h3 ⊢
      exact ⟨rfl, h3⟩

theorem word_eq {q : ByteArray} {t : St} (he : t.e = 0) (h0 : (wordP (bs q) t).e = 0) (hn : isLet (bt (bs q) (wordP (bs q) t).p) = false) {k : Nat} (hk : RunP isLet q t.p k) : wordP (bs q) t = { t with p := k } := by
  unfold wordP at h0 hn ⊢
  rw [if_pos he] at h0 hn ⊢
  split at hn
  · rename_i hr
    rw [if_pos hr] at h0
    cases h0
  · rename_i hr
    rw [if_neg hr]
    rw [run_of (K := 8) hk (by decide) hn]

theorem quote_eq {q : ByteArray} {t : St} (h0 : (must1 (bs q) (runP isQuo (bs q) 8 t) 39).e = 0) {k : Nat} (hk : RunP isQuo q t.p k) :
    must1 (bs q) (runP isQuo (bs q) 8 t) 39 = { t with p := k + 1 } ∧ tk q k ⟨#[39]⟩ = true := by
  obtain ⟨h1, h2⟩ := must1_e h0
  have he : t.e = 0 := by
    have := (sees_e h1).1
    unfold runP at this
    split at this
    · assumption
    · exact this
  have e1 : (runP isQuo (bs q) 8 t) = { t with p := run isQuo (bs q) 8 t.p } := by unfold runP; rw [if_pos he]
  have hb := (sees_e h1).2
  rw [e1] at hb
  have hn : isQuo (bt (bs q) (run isQuo (bs q) 8 t.p)) = false := by
    have hb' : bt (bs q) (run isQuo (bs q) 8 t.p) = 39 := hb
    rw [hb']; decide
  have e2 := run_of (K := 8) hk (by decide) hn
  rw [h2, e1]
  rw [e1, e2] at h1
  rw [e2]
  refine ⟨rfl, ?_⟩
  have := tk1 q (t := { t with p := k }) he 39
  exact this.trans h1

end Go.Proofs.YtcbadebjpogmlaaGreatDoor
