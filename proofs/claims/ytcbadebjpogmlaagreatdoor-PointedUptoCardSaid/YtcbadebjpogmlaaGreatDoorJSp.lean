import Derived.Test.YtcbadebjpogmlaaGreatDoorJMkZ
import Derived.Test.YtcbadebjpogmlaaGreatDoorJShelf
namespace Tr
structure Sh where
  op : List Nat
  bd : Nat
def shTake (s : Sh) (t : Tok) : Sh :=
  if t.k = 0 then ⟨s.op ++ [t.of], t.frm + 1⟩ else if t.k = 1 then ⟨s.op.dropLast, s.bd⟩ else if t.k = 2 then s else ⟨s.op, t.frm + 1⟩
def shRun (s : Sh) (ts : List Tok) : Sh := ts.foldl shTake s
structure TokOk (s : Sh) (t : Tok) : Prop where
  k : t.k ≤ 3
  of : t.of ≤ 6
  frm : t.frm < 4000000
  to : t.to ≤ 4000000
  n : -1000000000 < t.n ∧ t.n < 1000000000
  k0 : t.k = 0 → (t.of = 5 ∨ t.of = 6) ∧ s.op.length < 8 ∧ t.n = 0 ∧ t.t = [] ∧ s.bd ≤ t.frm
  k1 : t.k = 1 → s.op ≠ []
  k3 : t.k = 3 → t.of ≤ 4 ∧ s.op.length ≤ 8 ∧ (t.of ≠ 4 → t.t = []) ∧ (t.of ≠ 3 → t.n = 0) ∧ s.bd ≤ t.frm
def OkL : Sh → List Tok → Prop
  | _, [] => True
  | s, t :: r => TokOk s t ∧ OkL (shTake s t) r
theorem OkL.app : ∀ {a b : List Tok} {s : Sh}, OkL s a → OkL (shRun s a) b → OkL s (a ++ b)
  | [], _, _, _, h => h
  | _ :: _, _, _, h, k => ⟨h.1, OkL.app h.2 k⟩
theorem shRun_app (s : Sh) (a b : List Tok) : shRun s (a ++ b) = shRun (shRun s a) b := by simp [shRun]
structure Lk (z : Sn) (s : Sh) : Prop where
  op : s.op = z.op
  bd : s.bd ≤ z.at'
  tk : 6 ≤ z.st ∧ z.st ≤ 10 → s.bd ≤ z.tk.frm ∧ z.tk.frm < z.at' ∧ z.tk.frm < 4000000 ∧ z.tk.to = 0
  sS : z.st = 6 ∨ z.st = 7 → z.tk.n = 0 ∧ z.tk.of = 4 ∧ (z.tk.k = 2 → z.op ≠ [])
  sN : z.st = 8 ∨ z.st = 9 → z.tk.of = 3 ∧ z.tk.t = []
  sW : z.st = 10 → z.tk.of ≤ 2 ∧ z.tk.t = [] ∧ z.tk.n = 0
structure Stp (z : Sn) (s : Sh) (x : Sx) : Prop where
  st : x.z.st ≤ 12
  at' : x.z.at' = z.at'
  tx : x.z.tx.length ≤ z.tx.length + 1
  no : 11 ≤ x.z.st → x.ts = []
  ok : x.z.st ≤ 10 → SOk x.z
  tok : OkL s x.ts
  lk : x.z.st ≤ 10 → Lk { x.z with at' := x.z.at' + 1 } (shRun s x.ts)
theorem stp_wrong {z z' : Sn} {s : Sh} {c : Nat} (h1 : z'.at' = z.at') (h2 : z'.tx = z.tx) (hc : 11 ≤ c ∧ c ≤ 12) : Stp z s ⟨{ z' with st := c }, []⟩ where
  st := hc.2
  at' := h1
  tx := by simp [h2]
  no := fun _ => rfl
  ok := fun h => absurd h (by simp; omega)
  tok := trivial
  lk := fun h => absurd h (by simp; omega)
theorem stp_to {z : Sn} {s : Sh} {c : Nat} (hok : SOk z) (hlk : Lk z s) (htx : z.tx = []) (hc : c = 0 ∨ c = 5 ∨ ((c = 1 ∨ c = 2 ∨ c = 3 ∨ c = 4) ∧ z.op ≠ [])) : Stp z s (z.to c) where
  st := by simp [Sn.to]; omega
  at' := rfl
  tx := by simp [Sn.to]
  no := fun _ => rfl
  ok := fun _ => by
    refine ⟨hok.op, ?_, hok.tk, ?_, ?_, ?_, ?_, ?_⟩ <;> simp only [Sn.to] <;> intro h
    · rcases hc with h' | h' | h'
      · omega
      · omega
      exact h'.2
    all_goals first | exact htx | (exfalso; omega)
  tok := trivial
  lk := fun _ => by
    refine ⟨hlk.op, ?_, ?_, ?_, ?_, ?_⟩ <;> simp only [Sn.to, shRun, List.foldl]
    · have := hlk.bd; omega
    all_goals intro h; exfalso; omega
theorem stp_shut {z : Sn} {s : Sh} (hok : SOk z) (hlk : Lk z s) (htx : z.tx = []) (hne : z.op ≠ []) (hat : z.at' < 4000000) : Stp z s (sShut z) where
  st := by simp [sShut]
  at' := rfl
  tx := by simp [sShut]
  no := fun h => by simp [sShut] at h
  ok := fun _ => by
    refine ⟨⟨?_, ?_⟩, ?_, hok.tk, ?_, ?_, ?_, ?_, ?_⟩ <;> simp only [sShut]
    · have := hok.op.1; simp; omega
    · exact fun k hk => hok.op.2 k (List.dropLast_subset _ hk)
    all_goals intro h; first | exact htx | (exfalso; omega)
  tok := by
    refine ⟨⟨by simp, by simp, by simp, by simp; omega, by simp, by simp, fun _ => by rw [hlk.op]; exact hne, by simp⟩, trivial⟩
  lk := fun _ => by
    have e : shRun s (sShut z).ts = ⟨s.op.dropLast, s.bd⟩ := by simp [sShut, shRun, shTake]
    rw [e]
    refine ⟨by simp [sShut, hlk.op], ?_, ?_, ?_, ?_, ?_⟩ <;> simp only [sShut]
    · have := hlk.bd; omega
    all_goals intro h; exfalso; omega
theorem mayF_ne {op : List Nat} {b : Nat} (h : mayF op b = true) (hb : isBl b = false) : op ≠ [] := by
  intro e; simp [mayF, hb, e] at h
theorem stp_behind {z : Sn} {s : Sh} (hok : SOk z) (hlk : Lk z s) (htx : z.tx = []) (hat : z.at' < 4000000) (b : Nat) : Stp z s (sBehind z b) := by
  unfold sBehind
  by_cases h1 : mayF z.op b = false
  · rw [if_pos h1]; exact stp_wrong rfl rfl (by omega)
  rw [if_neg h1]
  have h1 : mayF z.op b = true := by simpa using h1
  by_cases h2 : isBl b = true
  · rw [if_pos h2]; exact stp_to hok hlk htx (by omega)
  rw [if_neg h2]
  have hne := mayF_ne h1 (by simpa using h2)
  by_cases h3 : b ≠ 44
  · rw [if_pos h3]; exact stp_shut hok hlk htx hne hat
  rw [if_neg h3]
  by_cases h4 : inThing z.op = true
  · rw [if_pos h4]; exact stp_to hok hlk htx (Or.inr (Or.inr ⟨by omega, hne⟩))
  rw [if_neg h4]; exact stp_to hok hlk htx (by omega)
theorem stp_add {z : Sn} {s : Sh} (hok : SOk z) (hlk : Lk z s) (hst : z.st = 6 ∨ z.st = 7) (b : Nat) : Stp z s (sAdd z b) where
  st := by simp [sAdd]
  at' := rfl
  tx := by simp [sAdd]
  no := fun h => by simp [sAdd] at h
  ok := fun _ => by
    refine ⟨hok.op, ?_, hok.tk, fun _ => hok.st hst, ?_, ?_, ?_, ?_⟩ <;> simp only [sAdd] <;> intro h <;> exfalso <;> omega
  tok := trivial
  lk := fun _ => by
    have h := hlk.tk (by omega)
    refine ⟨hlk.op, ?_, ?_, fun _ => hlk.sS hst, ?_, ?_⟩ <;> simp only [sAdd, shRun, List.foldl]
    · have := hlk.bd; omega
    · intro _; exact ⟨h.1, by omega, h.2.2⟩
    all_goals intro h; exfalso; omega
theorem stp_bs {z : Sn} {s : Sh} (hok : SOk z) (hlk : Lk z s) (hst : z.st = 6) : Stp z s (z.to 7) where
  st := by simp [Sn.to]
  at' := rfl
  tx := by simp [Sn.to]
  no := fun h => by simp [Sn.to] at h
  ok := fun _ => by
    refine ⟨hok.op, ?_, hok.tk, fun _ => hok.st (Or.inl hst), ?_, ?_, ?_, ?_⟩ <;> simp only [Sn.to] <;> intro h <;> exfalso <;> omega
  tok := trivial
  lk := fun _ => by
    have h := hlk.tk (by omega)
    refine ⟨hlk.op, ?_, ?_, fun _ => hlk.sS (Or.inl hst), ?_, ?_⟩ <;> simp only [Sn.to, shRun, List.foldl]
    · have := hlk.bd; omega
    · intro _; exact ⟨h.1, by omega, h.2.2⟩
    all_goals intro h; exfalso; omega
theorem stp_plain {z z' : Sn} {s : Sh} {t : Tok} {at0 : Nat} (h1 : z'.st = 5) (hop : z'.op = z.op) (hok8 : z.op.length ≤ 8 ∧ ∀ k ∈ z.op, k = 5 ∨ k = 6) (hsop : s.op = z.op) (htk : z'.tk.k ≤ 3 ∧ z'.tk.of ≤ 6) (htx : z'.tx = []) (ha : z'.at' = z.at') (ht : TokOk s t) (hk : t.k = 3) (hf : t.frm < at0) (ha0 : at0 ≤ z.at' + 1) : Stp z s ⟨z', [t]⟩ where
  st := by show z'.st ≤ 12; omega
  at' := ha
  tx := by simp [htx]
  no := fun h => by have : 11 ≤ z'.st := h; omega
  ok := fun _ => by
    refine ⟨by rw [hop]; exact hok8, ?_, htk, ?_, ?_, ?_, ?_, fun _ => htx⟩ <;> intro h <;> exfalso <;> revert h <;> show _ → False <;> rw [show (Sx.mk z' [t]).z = z' from rfl] <;> omega
  tok := ⟨ht, trivial⟩
  lk := fun _ => by
    have e : shRun s [t] = ⟨s.op, t.frm + 1⟩ := by simp [shRun, shTake, hk]
    show Lk _ (shRun s [t])
    rw [e]
    refine ⟨by simp [hop, hsop], by simp; omega, ?_, ?_, ?_, ?_⟩ <;> intro h <;> exfalso <;> revert h <;> simp only [h1] <;> omega
theorem stp_endP {z : Sn} {s : Sh} (hok : SOk z) (hlk : Lk z s) (hst : 6 ≤ z.st ∧ z.st ≤ 10) (h4 : z.tk.of ≤ 4) (ht : z.tk.of ≠ 4 → z.tk.t = []) (hn : z.tk.n = 0) (hat : z.at' < 4000000) {z2 : Sn} (e1 : z2.op = z.op) (e2 : z2.at' = z.at') (e3 : z2.tk.k = 3) (e4 : z2.tk.of = z.tk.of) (e5 : z2.tk.frm = z.tk.frm) (e6 : z2.tk.n = z.tk.n) (e7 : z.tk.of ≠ 4 → z2.tk.t = z.tk.t) (e8 : z2.tx = []) : Stp z s (sEndP z2) := by
  have h := hlk.tk hst
  refine stp_plain (at0 := z.at') rfl e1 hok.op hlk.op ⟨by simp [e3], by simp [e4]; omega⟩ e8 e2 ?_ e3 (by show z2.tk.frm < z.at'; omega) (by omega)
  have h8 := hok.op.1
  refine ⟨by simp [e3], by simp [e4]; omega, ?_, ?_, ?_, ?_, ?_, ?_⟩ <;> simp only [e2, e3, e4, e5, e6]
  · omega
  · omega
  · rw [hn]; omega
  · omega
  · omega
  intro _
  exact ⟨h4, by rw [hlk.op]; exact h8, fun x => (e7 x).trans (ht x), fun _ => hn, h.1⟩
theorem stp_endS {z : Sn} {s : Sh} (hok : SOk z) (hlk : Lk z s) (hst : z.st = 6) (hat : z.at' < 4000000) : Stp z s (sEndS z) := by
  have hS := hlk.sS (Or.inl hst)
  have h := hlk.tk (by omega)
  unfold sEndS
  by_cases hk : z.tk.k = 3
  · rw [if_pos hk]
    exact stp_endP hok hlk (by omega) (by omega) (fun x => absurd hS.2.1 x) hS.1 hat rfl rfl hk rfl rfl rfl (fun x => absurd hS.2.1 x) rfl
  rw [if_neg hk]
  have hk2 : z.tk.k = 2 := by exact (hok.st (Or.inl hst)).resolve_right hk
  refine ⟨by simp, rfl, by simp, fun h => by simp at h, fun _ => ?_, ?_, fun _ => ?_⟩
  · refine ⟨hok.op, ?_, hok.tk, ?_, ?_, ?_, ?_, fun _ => rfl⟩ <;> simp only <;> intro h
    · exact hS.2.2 hk2
    all_goals exfalso; omega
  · refine ⟨⟨hok.tk.1, hok.tk.2, ?_, ?_, ?_, ?_, ?_, ?_⟩, trivial⟩ <;> simp only [hk2, hS.1] <;> omega
  have e : shRun s [{ z.tk with t := z.tx }] = s := by simp [shRun, shTake, hk2]
  simp only
  rw [e]
  refine ⟨hlk.op, by have := hlk.bd; simp; omega, ?_, ?_, ?_, ?_⟩ <;> simp only <;> intro h <;> exfalso <;> omega
theorem stp_str {z : Sn} {s : Sh} (hok : SOk z) (hlk : Lk z s) (hst : z.st = 6) (hat : z.at' < 4000000) (b : Nat) : Stp z s (sStr z b) := by
  unfold sStr
  split
  · exact stp_wrong rfl rfl (by omega)
  split
  · exact stp_bs hok hlk hst
  split
  · exact stp_endS hok hlk hst hat
  exact stp_add hok hlk (Or.inl hst) b
theorem stp_esc {z : Sn} {s : Sh} (hok : SOk z) (hlk : Lk z s) (hst : z.st = 7) (b : Nat) : Stp z s (sEsc z b) := by
  unfold sEsc
  split
  · exact stp_wrong rfl rfl (by omega)
  exact stp_add hok hlk (Or.inr hst) b
theorem stp_dig {z0 z : Sn} {s : Sh} {b : Nat} (h0 : z.at' = z0.at') (htx0 : z.tx = z0.tx) (hop : z.op.length ≤ 8 ∧ ∀ k ∈ z.op, k = 5 ∨ k = 6) (hk : z.tk.k = 3 ∧ z.tk.of = 3 ∧ z.tk.t = [] ∧ z.tk.to = 0) (htx : z.tx = []) (hn : z.sz < 9 ∧ 0 ≤ z.tk.n ∧ z.tk.n < ((10 ^ z.sz : Nat) : Int) ∧ (z.sg = 1 ∨ z.sg = -1)) (hb : isDig b = true)
    (hs : s.op = z.op) (hbd : s.bd ≤ z.tk.frm ∧ z.tk.frm ≤ z.at' ∧ z.tk.frm < 4000000) : Stp z0 s (sDig z b) := by
  have hd : b - 48 ≤ 9 := by simp [isDig] at hb; omega
  have hm : z.tk.n * 10 + ((b - 48 : Nat) : Int) < ((10 ^ (z.sz + 1) : Nat) : Int) := by
    rw [Nat.pow_succ]; push_cast; have := hn.2.2.1; push_cast at this; omega
  refine ⟨by simp [sDig], h0, by simp [sDig, htx0], fun h => by simp [sDig] at h, fun _ => ?_, trivial, fun _ => ?_⟩
  · refine ⟨hop, ?_, by simp only [sDig]; omega, ?_, ?_, ?_, ?_, fun _ => htx⟩ <;> simp only [sDig] <;> intro h
    · exfalso; omega
    · exfalso; omega
    · exfalso; omega
    · by_cases h9 : z.tk.n * 10 + ((b - 48 : Nat) : Int) = 0
      · rw [if_pos h9, h9]; exact ⟨by omega, by omega, by decide, hn.2.2.2, hk.1⟩
      rw [if_neg h9]; exact ⟨by omega, by omega, hm, hn.2.2.2, hk.1⟩
    exfalso; omega
  refine ⟨hs, by simp only [sDig, shRun, List.foldl]; omega, fun _ => ?_, ?_, fun _ => ⟨hk.2.1, hk.2.2.1⟩, ?_⟩ <;> simp only [sDig, shRun, List.foldl]
  · omega
  · intro h; exfalso; omega
  intro h; exfalso; omega
theorem pow_le9 {k : Nat} (h : k ≤ 9) : ((10 ^ k : Nat) : Int) ≤ 1000000000 := by
  have : 10 ^ k ≤ 10 ^ 9 := Nat.pow_le_pow_right (by omega) h
  have e : (10 : Nat) ^ 9 = 1000000000 := by decide
  omega
theorem tokNum {z : Sn} {s : Sh} (hok : SOk z) (hlk : Lk z s) (hst : z.st = 8 ∨ z.st = 9) (hat : z.at' ≤ 4000000) : TokOk s (sNumT z) := by
  have hN := hlk.sN hst
  have hn := hok.n hst
  have ht := hlk.tk (by omega)
  have h8 := hok.op.1
  have hp := pow_le9 hn.1
  have hab : -1000000000 < z.tk.n * z.sg ∧ z.tk.n * z.sg < 1000000000 := by
    rcases hn.2.2.2.1 with e | e <;> rw [e] <;> omega
  refine ⟨by simp [sNumT, hn.2.2.2.2], by simp [sNumT, hN.1], by simp only [sNumT]; omega, by simp only [sNumT]; omega, hab, ?_, ?_, ?_⟩ <;> simp only [sNumT, hn.2.2.2.2]
  · omega
  · omega
  intro _; exact ⟨by omega, by rw [hlk.op]; exact h8, fun _ => hN.2, fun x => absurd hN.1 x, ht.1⟩
theorem stp_num {z : Sn} {s : Sh} (hok : SOk z) (hlk : Lk z s) (hst : z.st = 8 ∨ z.st = 9) (hat : z.at' < 4000000) (b : Nat) : Stp z s (sNum z b) := by
  have htx : z.tx = [] := hok.x (by omega)
  have hN := hlk.sN hst
  have hn := hok.n hst
  have ht := hlk.tk (by omega)
  unfold sNum
  by_cases h1 : z.st = 8 ∧ ¬ (49 ≤ b ∧ b ≤ 57)
  · rw [if_pos h1]; exact stp_wrong rfl rfl (by omega)
  rw [if_neg h1]
  by_cases h2 : isDig b = true ∧ z.sz < 9
  · rw [if_pos h2]
    exact stp_dig rfl rfl hok.op ⟨hn.2.2.2.2, hN.1, hN.2, ht.2.2.2⟩ htx ⟨h2.2, hn.2.1, hn.2.2.1, hn.2.2.2.1⟩ h2.1 hlk.op ⟨ht.1, by omega, ht.2.2.1⟩
  rw [if_neg h2]
  by_cases h3 : mayF z.op b = false
  · rw [if_pos h3]; exact stp_wrong rfl rfl (by omega)
  rw [if_neg h3]
  have hT := tokNum hok hlk hst (by omega)
  have hk3 : (sNumT z).k = 3 := hn.2.2.2.2
  have e : shTake s (sNumT z) = ⟨s.op, z.tk.frm + 1⟩ := by simp [shTake, hk3]; rfl
  have L2 : Lk { z with st := 5 } ⟨s.op, z.tk.frm + 1⟩ := by
    refine ⟨hlk.op, by simp; omega, ?_, ?_, ?_, ?_⟩ <;> simp only <;> intro h <;> exfalso <;> omega
  have O2 : SOk { z with st := 5 } := by
    refine ⟨hok.op, ?_, hok.tk, ?_, ?_, ?_, ?_, fun _ => htx⟩ <;> simp only <;> intro h <;> exfalso <;> omega
  have B := stp_behind O2 L2 htx hat b
  have eB : sBehind { z with st := 5 } b = sBehind z b := rfl
  rw [eB] at B
  have hno : (sBehind z b).z.st ≤ 10 := by
    unfold sBehind
    rw [if_neg h3]
    split
    · simp [Sn.to]
    split
    · simp [sShut]
    split <;> simp [Sn.to]
  refine ⟨B.st, B.at', B.tx, fun h => ?_, B.ok, ⟨hT, by rw [e]; exact B.tok⟩, fun h => ?_⟩
  · have : 11 ≤ (sBehind z b).z.st := h
    omega
  have := B.lk h
  have e2 : shRun s (sNumT z :: (sBehind z b).ts) = shRun ⟨s.op, z.tk.frm + 1⟩ (sBehind z b).ts := by simp only [shRun, List.foldl, e]
  show Lk _ (shRun s (sNumT z :: (sBehind z b).ts))
  rw [e2]; exact this
theorem stp_word {z : Sn} {s : Sh} (hok : SOk z) (hlk : Lk z s) (hst : z.st = 10) (hat : z.at' < 4000000) (b : Nat) : Stp z s (sWord z b) := by
  have htx : z.tx = [] := hok.x (by omega)
  have hW := hlk.sW hst
  have hw := hok.w hst
  have ht := hlk.tk (by omega)
  unfold sWord
  by_cases h1 : b ≠ bt z.rs 0
  · rw [if_pos h1]; exact stp_wrong rfl rfl (by omega)
  rw [if_neg h1]
  by_cases h2 : z.rs.tail = []
  · rw [if_pos h2]
    exact stp_endP hok hlk (by omega) (by omega) (fun _ => hW.2.1) hW.2.2 hat rfl rfl hw.2.2 rfl rfl rfl (fun _ => rfl) htx
  rw [if_neg h2]
  refine ⟨by simp, rfl, by simp, fun h => by simp at h, fun _ => ?_, trivial, fun _ => ?_⟩
  · refine ⟨hok.op, ?_, hok.tk, ?_, ?_, ?_, ?_, fun _ => htx⟩ <;> simp only <;> intro h
    · exfalso; omega
    · exfalso; omega
    · exact ⟨h2, by have := hw.2.1; simp; omega, hw.2.2⟩
    · exfalso; omega
    exfalso; omega
  refine ⟨hlk.op, by have := hlk.bd; simp [shRun]; omega, fun _ => ?_, ?_, ?_, fun _ => hW⟩ <;> simp only [shRun, List.foldl]
  · exact ⟨ht.1, by omega, ht.2.2⟩
  · intro h; exfalso; omega
  intro h; exfalso; omega
theorem stp_lot {z : Sn} {s : Sh} (hok : SOk z) (hlk : Lk z s) (htx : z.tx = []) (hat : z.at' < 4000000) (k c : Nat) (hk : k = 5 ∨ k = 6) (hc : c = 1 ∨ c = 2) : Stp z s (sLot z k c) := by
  unfold sLot
  by_cases h8 : z.op.length = 8
  · rw [if_pos h8]; exact stp_wrong rfl rfl (by omega)
  rw [if_neg h8]
  have h8' := hok.op.1
  have hbd := hlk.bd
  refine ⟨by simp; omega, rfl, by simp, fun h => by simp at h; omega, fun _ => ?_, ?_, fun _ => ?_⟩
  · refine ⟨⟨by simp; omega, ?_⟩, ?_, hok.tk, ?_, ?_, ?_, ?_, fun _ => htx⟩ <;> simp only
    · intro j hj
      rcases List.mem_append.1 hj with x | x
      · exact hok.op.2 j x
      rw [List.mem_singleton.1 x]; exact hk
    · intro _ e; simp at e
    all_goals intro h; exfalso; omega
  · refine ⟨⟨by simp, by simp; omega, by simp; omega, by simp, by simp, fun _ => ⟨hk, by rw [hlk.op]; omega, rfl, rfl, hbd⟩, by simp, by simp⟩, trivial⟩
  have e : shRun s [⟨0, k, z.at', 0, 0, []⟩] = ⟨s.op ++ [k], z.at' + 1⟩ := by simp [shRun, shTake]
  show Lk _ (shRun s [⟨0, k, z.at', 0, 0, []⟩])
  rw [e]
  refine ⟨by simp [hlk.op], by simp, ?_, ?_, ?_, ?_⟩ <;> simp only <;> intro h <;> exfalso <;> omega
theorem stp_bstr {z : Sn} {s : Sh} (hok : SOk z) (hlk : Lk z s) (htx : z.tx = []) (hat : z.at' < 4000000) (k : Nat) (hk : k = 3 ∨ k = 2 ∧ z.op ≠ []) : Stp z s (sBStr z k) := by
  have hbd := hlk.bd
  refine ⟨by simp [sBStr], rfl, by simp [sBStr], fun h => by simp [sBStr] at h, fun _ => ?_, trivial, fun _ => ?_⟩
  · refine ⟨hok.op, ?_, by simp only [sBStr]; omega, fun _ => by simp only [sBStr]; omega, ?_, ?_, ?_, fun _ => htx⟩ <;> simp only [sBStr] <;> intro h <;> exfalso <;> omega
  refine ⟨hlk.op, by simp only [sBStr, shRun, List.foldl]; omega, fun _ => ⟨hbd, Nat.lt_succ_self _, hat, rfl⟩, fun _ => ⟨rfl, rfl, ?_⟩, ?_, ?_⟩ <;> simp only [sBStr] <;> intro h
  · rcases hk with x | x
    · omega
    exact x.2
  · exfalso; omega
  exfalso; omega
theorem stp_bword {z : Sn} {s : Sh} (hok : SOk z) (hlk : Lk z s) (htx : z.tx = []) (hat : z.at' < 4000000) (k : Nat) (hk : k ≤ 2) (l : List UInt8) (hl : l ≠ [] ∧ l.length ≤ 4) : Stp z s (sBWord z k l) := by
  have hbd := hlk.bd
  refine ⟨by simp [sBWord], rfl, by simp [sBWord], fun h => by simp [sBWord] at h, fun _ => ?_, trivial, fun _ => ?_⟩
  · refine ⟨hok.op, ?_, by simp only [sBWord]; omega, ?_, fun _ => ⟨hl.1, hl.2, rfl⟩, ?_, ?_, fun _ => htx⟩ <;> simp only [sBWord] <;> intro h <;> exfalso <;> omega
  refine ⟨hlk.op, by simp only [sBWord, shRun, List.foldl]; omega, fun _ => ⟨hbd, Nat.lt_succ_self _, hat, rfl⟩, ?_, ?_, fun _ => ⟨hk, rfl, rfl⟩⟩ <;> simp only [sBWord] <;> intro h <;> exfalso <;> omega
theorem stp_bnum {z : Sn} {s : Sh} (hok : SOk z) (hlk : Lk z s) (htx : z.tx = []) (hat : z.at' < 4000000) (b : Nat) : Stp z s (sBNum z b) := by
  have hbd := hlk.bd
  unfold sBNum
  by_cases h1 : b = 45
  · rw [if_pos h1]
    refine ⟨by simp, rfl, by simp, fun h => by simp at h, fun _ => ?_, trivial, fun _ => ?_⟩
    · refine ⟨hok.op, ?_, by simp only; omega, ?_, ?_, fun _ => ⟨by simp, by simp, by simp, by simp, rfl⟩, fun _ => ⟨rfl, rfl⟩, fun _ => htx⟩ <;> simp only <;> intro h <;> exfalso <;> omega
    refine ⟨hlk.op, by simp only [shRun, List.foldl]; omega, fun _ => ⟨hbd, Nat.lt_succ_self _, hat, rfl⟩, ?_, fun _ => ⟨rfl, rfl⟩, ?_⟩ <;> simp only <;> intro h <;> exfalso <;> omega
  rw [if_neg h1]
  by_cases h2 : isDig b = true
  · rw [if_pos h2]
    exact stp_dig rfl rfl hok.op ⟨rfl, rfl, rfl, rfl⟩ htx ⟨by simp, by simp, by simp, by simp⟩ h2 hlk.op ⟨hbd, Nat.le_refl _, hat⟩
  rw [if_neg h2]
  exact stp_wrong (z' := { z with tk := ⟨3, 3, z.at', 0, 0, []⟩, sz := 0, sg := 1 }) rfl rfl (by omega)
theorem stp_begin {z : Sn} {s : Sh} (hok : SOk z) (hlk : Lk z s) (htx : z.tx = []) (hat : z.at' < 4000000) (b : Nat) : Stp z s (sBegin z b) := by
  unfold sBegin
  split
  · exact stp_lot hok hlk htx hat 5 1 (Or.inl rfl) (Or.inl rfl)
  split
  · exact stp_lot hok hlk htx hat 6 2 (Or.inr rfl) (Or.inr rfl)
  split
  · exact stp_bstr hok hlk htx hat 3 (Or.inl rfl)
  split
  · exact stp_bword hok hlk htx hat 2 (by omega) _ ⟨by simp, by simp⟩
  split
  · exact stp_bword hok hlk htx hat 1 (by omega) _ ⟨by simp, by simp⟩
  split
  · exact stp_bword hok hlk htx hat 0 (by omega) _ ⟨by simp, by simp⟩
  exact stp_bnum hok hlk htx hat b
theorem stp_betw {z : Sn} {s : Sh} (hok : SOk z) (hlk : Lk z s) (hst : z.st ≤ 5) (hat : z.at' < 4000000) (b : Nat) : Stp z s (sBetw z b) := by
  have htx : z.tx = [] := hok.x (by omega)
  unfold sBetw
  split
  · exact stp_behind hok hlk htx hat b
  split
  · exact stp_to hok hlk htx (by omega)
  split
  · exact stp_shut hok hlk htx (hok.ne (by omega)) hat
  split
  · exact stp_begin hok hlk htx hat b
  split
  · exact stp_bstr hok hlk htx hat 2 (Or.inr ⟨rfl, hok.ne (by omega)⟩)
  exact stp_wrong rfl rfl (by omega)
theorem stp_next {z : Sn} {s : Sh} (hok : SOk z) (hlk : Lk z s) (hst : z.st ≤ 10) (hat : z.at' < 4000000) (b : Nat) : Stp z s (sNext z b) := by
  unfold sNext
  split
  · exact stp_str hok hlk (by omega) hat b
  split
  · exact stp_esc hok hlk (by omega) b
  split
  · exact stp_num hok hlk (by omega) hat b
  split
  · exact stp_word hok hlk (by omega) hat b
  split
  · have htx : z.tx = [] := hok.x (by omega)
    refine stp_to hok hlk htx ?_
    by_cases h : z.st = 0 ∨ z.st = 5
    · omega
    exact Or.inr (Or.inr ⟨by omega, hok.ne (by omega)⟩)
  exact stp_betw hok hlk (by omega) hat b
structure Run (z : Sn) (s : Sh) (l : List UInt8) (f : Sf) : Prop where
  tok : OkL s f.ts
  ok : f.e = 0 → SOk f.z ∧ f.z.st ≤ 10 ∧ f.z.at' = z.at' + l.length ∧ Lk f.z (shRun s f.ts)
  e : f.e = 0 ∨ f.e = 2 ∨ f.e = 3
  at' : f.e ≠ 0 → z.at' ≤ f.z.at' ∧ f.z.at' < z.at' + l.length
  tx : f.z.tx.length ≤ z.tx.length + l.length
theorem run_ok' : ∀ (l : List UInt8) {z : Sn} {s : Sh}, SOk z → Lk z s → z.st ≤ 10 → z.at' + l.length ≤ 4000000 → Run z s l (sRun z l)
  | [], z, s, h1, h2, h3, _ => ⟨trivial, fun _ => ⟨h1, h3, rfl, h2⟩, Or.inl rfl, fun h => absurd rfl h, by simp [sRun]⟩
  | b :: l, z, s, h1, h2, h3, h4 => by
    have hl : z.at' + (l.length + 1) ≤ 4000000 := by simpa using h4
    have S := stp_next h1 h2 h3 (by omega) b.toNat
    rw [sRun]
    by_cases c12 : (sNext z b.toNat).z.st = 12
    · rw [if_pos c12]
      refine ⟨S.tok, fun h => by simp at h, Or.inr (Or.inl rfl), fun _ => ?_, ?_⟩
      · simp only [S.at', List.length_cons]; omega
      have := S.tx; simp only [List.length_cons]; omega
    rw [if_neg c12]
    by_cases c11 : (sNext z b.toNat).z.st = 11
    · rw [if_pos c11]
      refine ⟨S.tok, fun h => by simp at h, Or.inr (Or.inr rfl), fun _ => ?_, ?_⟩
      · simp only [S.at', List.length_cons]; omega
      have := S.tx; simp only [List.length_cons]; omega
    rw [if_neg c11]
    have c10 : (sNext z b.toNat).z.st ≤ 10 := by have := S.st; omega
    have hat := S.at'
    have o1 := S.ok c10
    have O : SOk { (sNext z b.toNat).z with at' := (sNext z b.toNat).z.at' + 1 } := ⟨o1.op, o1.ne, o1.tk, o1.st, o1.w, o1.n, o1.m, o1.x⟩
    have R := run_ok' l O (S.lk c10) c10 (by simp only [hat]; omega)
    refine ⟨S.tok.app R.tok, fun h => ?_, R.e, fun h => ?_, ?_⟩
    · obtain ⟨r1, r2, r3, r4⟩ := R.ok h
      refine ⟨r1, r2, r3.trans ?_, by rw [shRun_app]; exact r4⟩
      show (sNext z b.toNat).z.at' + 1 + l.length = _
      rw [hat, List.length_cons]; omega
    · have := R.at' h
      simp only [hat, List.length_cons] at this ⊢; omega
    have := R.tx
    have t2 := S.tx
    simp only [List.length_cons] at this ⊢; omega
theorem sInit_ok : SOk sInit ∧ Lk sInit ⟨[], 0⟩ := by
  refine ⟨⟨by simp [sInit], by simp [sInit], by simp [sInit], by simp [sInit], by simp [sInit], by simp [sInit], by simp [sInit], by simp [sInit]⟩, ⟨rfl, Nat.zero_le _, ?_, ?_, ?_, ?_⟩⟩ <;> simp [sInit]
theorem sRun_app : ∀ (a b : List UInt8) (z : Sn), (sRun z a).e = 0 → (sRun z (a ++ b)) = ⟨(sRun (sRun z a).z b).z, (sRun (sRun z a).z b).e, (sRun z a).ts ++ (sRun (sRun z a).z b).ts⟩
  | [], b, z, _ => rfl
  | x :: a, b, z, h => by
    rw [List.cons_append, sRun, sRun]
    rw [sRun] at h
    split at h
    · cases h
    rename_i c12
    split at h
    · cases h
    rename_i c11
    rw [if_neg c12, if_neg c11, if_neg c12, if_neg c11]
    have := sRun_app a b _ h
    simp only [this, List.append_assoc]
theorem sRun_bad : ∀ (a b : List UInt8) (z : Sn), (sRun z a).e ≠ 0 → sRun z (a ++ b) = sRun z a
  | [], _, _, h => absurd rfl h
  | x :: a, b, z, h => by
    rw [List.cons_append, sRun, sRun]
    rw [sRun] at h
    split
    · rfl
    rename_i c12
    rw [if_neg c12] at h
    split
    · rfl
    rename_i c11
    rw [if_neg c11] at h
    rw [sRun_bad a b _ h]
end Tr
namespace Tr
structure Fm where
  d : Dat
  ix : Nat
  kp : Bool
  ws : List Tv
structure Gs where
  st : List Fm
  nm : List UInt8
  ix : Nat
  bd : Nat
  last : Option Tv
def gInit : Gs := ⟨[], [], 0, 0, none⟩
def Fm.tv (f : Fm) (to : Nat) : Tv := ⟨{ f.d with to := to }, f.ws⟩
def kOf (of : Nat) : Nat := if of = 3 then 1 else if of = 4 then 2 else if of = 5 then 4 else if of = 6 then 5 else 3
def sOf (t : Tok) : List UInt8 := if t.of = 4 then t.t else if t.of = 2 then wTrue else if t.of = 1 then wFalse else if t.of = 0 then wNull else []
def kPath (kind : Nat) (path : List UInt8) (ix : Nat) (nm : List UInt8) : List UInt8 := if kind = 4 then path ++ [91] ++ dec ix ++ [93] else path ++ [91] ++ quoT nm ++ [93]
def gPath (st : List Fm) (ix : Nat) (nm : List UInt8) : List UInt8 := match st with
  | [] => [36]
  | f :: _ => kPath f.d.kind f.d.path ix nm
def gDat (g : Gs) (t : Tok) : Dat := ⟨kOf t.of, t.n, sOf t, g.nm, gPath g.st g.ix g.nm, t.frm, 0, 0⟩
def gBegin (g : Gs) (t : Tok) (kp : Bool) : Fm := ⟨gDat g t, g.ix, kp, []⟩
def gKeep (p : Fm) (kp : Bool) (t : Tv) : Fm := if kp = true then { p with ws := p.ws ++ [t] } else p
def gOn (r : List Fm) (kp : Bool) (t : Tv) : List Fm := match r with
  | [] => []
  | p :: q => gKeep p kp t :: q
def gClose (g : Gs) (f : Fm) (r : List Fm) (to : Nat) : Gs := { g with st := gOn r f.kp (f.tv to), ix := f.ix + 1, last := some (f.tv to) }
def gTake (g : Gs) (t : Tok) (kp : Bool) : Gs :=
  if t.k = 0 then { g with st := gBegin g t kp :: g.st, nm := [], ix := 0, bd := t.frm + 1 }
  else if t.k = 1 then (match g.st with
    | [] => g
    | f :: r => gClose g f r t.to)
  else if t.k = 2 then { g with nm := t.t }
  else gClose { g with nm := [], bd := t.frm + 1 } (gBegin g t kp) g.st t.to
def gRun (g : Gs) (ts : List Tok) : Gs := ts.foldl (fun g t => gTake g t true) g
theorem gRun_app (g : Gs) (a b : List Tok) : gRun g (a ++ b) = gRun (gRun g a) b := by simp [gRun]
def fk (f : Fm) : Nat := if f.d.kind = 4 then 5 else 6
def Gs.sh (g : Gs) : Sh := ⟨(g.st.map fk).reverse, g.bd⟩
theorem fk_keep (p : Fm) (kp : Bool) (t : Tv) : fk (gKeep p kp t) = fk p := by unfold gKeep; split <;> rfl
theorem gOn_map (r : List Fm) (kp : Bool) (t : Tv) : (gOn r kp t).map fk = r.map fk := by cases r <;> simp [gOn, fk_keep]
theorem sh_take (g : Gs) (t : Tok) (kp : Bool) (h : TokOk g.sh t) : (gTake g t kp).sh = shTake g.sh t := by
  unfold gTake shTake
  by_cases h0 : t.k = 0
  · rw [if_pos h0, if_pos h0]
    have := (h.k0 h0).1
    have e : fk (gBegin g t kp) = t.of := by rcases this with x | x <;> simp [fk, gBegin, gDat, kOf, x]
    simp [Gs.sh, e]
  rw [if_neg h0, if_neg h0]
  by_cases h1 : t.k = 1
  · rw [if_pos h1, if_pos h1]
    cases hs : g.st with
    | nil => simp [Gs.sh, hs]
    | cons f r => simp [Gs.sh, gClose, gOn_map, hs]
  rw [if_neg h1, if_neg h1]
  by_cases h2 : t.k = 2
  · rw [if_pos h2, if_pos h2]; rfl
  rw [if_neg h2, if_neg h2]
  simp [Gs.sh, gClose, gOn_map, gBegin, gDat]
def ixOk : List Fm → Nat → Prop
  | [], _ => True
  | f :: r, ix => ix = f.ws.length ∧ f.kp = true ∧ ixOk r f.ix
theorem ix_on {f : Fm} {r : List Fm} (to : Nat) (hkp : f.kp = true) (h : ixOk r f.ix) : ixOk (gOn r f.kp (f.tv to)) (f.ix + 1) := by
  cases r with
  | nil => trivial
  | cons p q =>
    obtain ⟨a1, a2, a3⟩ := h
    simp [gOn, gKeep, hkp, ixOk, a1, a2, a3]
theorem ix_take {g : Gs} {t : Tok} (h : ixOk g.st g.ix) : ixOk (gTake g t true).st (gTake g t true).ix := by
  unfold gTake
  by_cases h0 : t.k = 0
  · rw [if_pos h0]
    exact ⟨rfl, rfl, h⟩
  rw [if_neg h0]
  by_cases h1 : t.k = 1
  · rw [if_pos h1]
    cases hs : g.st with
    | nil => rw [hs] at h; simpa [hs] using h
    | cons f r =>
      rw [hs] at h
      exact ix_on t.to h.2.1 h.2.2
  rw [if_neg h1]
  by_cases h2 : t.k = 2
  · rw [if_pos h2]; exact h
  rw [if_neg h2]
  exact ix_on (f := gBegin g t true) t.to rfl h
def wsOk (bd : Nat) : List Fm → Nat → Prop
  | [], _ => True
  | f :: r, ix => f.ws.length ≤ ix ∧ f.ix ≤ f.d.frm ∧ f.d.frm < bd ∧ (f.d.kind = 4 ∨ f.d.kind = 5) ∧ (f.kp = true → ∀ p q, r = p :: q → f.ix = p.ws.length) ∧ wsOk bd r f.ix
theorem wsOk.up {bd bd' : Nat} (hb : bd ≤ bd') : ∀ {l : List Fm} {ix : Nat}, wsOk bd l ix → wsOk bd' l ix
  | [], _, _ => trivial
  | _ :: _, _, ⟨h1, h2, h3, h4, h5, h6⟩ => ⟨h1, h2, by omega, h4, h5, wsOk.up hb h6⟩
structure GOk (g : Gs) : Prop where
  len : g.st.length ≤ 8
  ix : g.ix ≤ g.bd
  bd : g.bd ≤ 4000000
  ws : wsOk g.bd g.st g.ix
theorem gInit_ok : GOk gInit := ⟨by simp [gInit], Nat.le_refl _, by simp [gInit], trivial⟩
def mayKeep (g : Gs) (kp : Bool) : Prop := kp = true → ∀ p q, g.st = p :: q → g.ix = p.ws.length
theorem ixOk.may {g : Gs} (h : ixOk g.st g.ix) (kp : Bool) : mayKeep g kp := fun _ p q e => by rw [e] at h; exact h.1
theorem ws_on {bd : Nat} {f : Fm} {r : List Fm} (to : Nat) (hw : wsOk bd r f.ix) : wsOk bd (gOn r f.kp (f.tv to)) (f.ix + 1) := by
  cases r with
  | nil => trivial
  | cons p q =>
    obtain ⟨a1, a2, a3, a4, a5, a6⟩ := hw
    show wsOk bd (gKeep p f.kp (f.tv to) :: q) (f.ix + 1)
    unfold gKeep
    by_cases hkp : f.kp = true
    · rw [if_pos hkp]; exact ⟨by simp; omega, a2, a3, a4, a5, a6⟩
    rw [if_neg hkp]; exact ⟨by omega, a2, a3, a4, a5, a6⟩
theorem gOn_len (r : List Fm) (kp : Bool) (t : Tv) : (gOn r kp t).length = r.length := by cases r <;> simp [gOn]
theorem gOk_take {g : Gs} {t : Tok} {kp : Bool} (h : GOk g) (ht : TokOk g.sh t) (hkp : mayKeep g kp) : GOk (gTake g t kp) := by
  have hl : g.sh.op.length = g.st.length := by simp [Gs.sh]
  have hbd : g.sh.bd = g.bd := rfl
  have h8 := h.len
  have hix := h.ix
  have hb := h.bd
  unfold gTake
  by_cases h0 : t.k = 0
  · rw [if_pos h0]
    have k0 := ht.k0 h0
    have hf := ht.frm
    refine ⟨by simp; omega, by simp, by simp; omega, ⟨by simp [gBegin], ?_, by simp [gBegin, gDat], ?_, fun hk p q e => hkp hk p q e, h.ws.up (show g.bd ≤ t.frm + 1 by omega)⟩⟩
    · show g.ix ≤ t.frm; omega
    show kOf t.of = 4 ∨ kOf t.of = 5
    rcases k0.1 with x | x <;> rw [x] <;> decide
  rw [if_neg h0]
  by_cases h1 : t.k = 1
  · rw [if_pos h1]
    cases hs : g.st with
    | nil => simp only; exact ⟨by simp [hs], hix, hb, by rw [hs]; trivial⟩
    | cons f r =>
      have hw := h.ws
      rw [hs] at hw h8
      obtain ⟨_, a2, a3, _, _, a6⟩ := hw
      refine ⟨by simp [gClose, gOn_len]; simp at h8; omega, by simp only [gClose]; omega, hb, ws_on t.to a6⟩
  rw [if_neg h1]
  by_cases h2 : t.k = 2
  · rw [if_pos h2]; exact ⟨h.len, h.ix, h.bd, h.ws⟩
  rw [if_neg h2]
  have k3 := ht.k3 (by have := ht.k; omega)
  have hf := ht.frm
  refine ⟨by simp [gClose, gOn_len]; omega, by simp only [gClose, gBegin]; omega, by simp only [gClose]; omega, ws_on (f := gBegin g t kp) t.to (h.ws.up (show g.bd ≤ t.frm + 1 by omega))⟩
def FB (bd : Nat) : Nat → Tv → Prop
  | 0, _ => False
  | n + 1, t => t.d.frm < bd ∧ ∀ i (h : i < t.ws.length), FB bd n t.ws[i] ∧ (t.ws[i]).d.path = kPath t.d.kind t.d.path i (t.ws[i]).d.name
theorem FB.up {bd bd' : Nat} (hb : bd ≤ bd') : ∀ {n : Nat} {t : Tv}, FB bd n t → FB bd' n t
  | 0, _, h => h
  | _ + 1, _, ⟨h1, h2⟩ => ⟨by omega, fun i h => ⟨FB.up hb (h2 i h).1, (h2 i h).2⟩⟩
def pthOk : List Fm → Prop
  | [] => True
  | f :: r => f.d.path = gPath r f.ix f.d.name ∧ pthOk r
end Tr
namespace Tr
structure Ct where
  its : Nat
  al : Nat
def tlGo (pk L i : Nat) (c : Tv) : List Sg → List Ct → List Ct
  | s :: r, p0 :: p1 :: ps => ⟨(if s.deep = true then p0.al else p0.its) * cntS s.l pk L i c, p1.al + (if s.deep = true then p0.al else p0.its) * cntS s.l pk L i c⟩ :: tlGo pk L i c r (p1 :: ps)
  | _, _ => []
def tlOf (xs : List Sg) (pk L i : Nat) (c : Tv) (par : List Ct) : List Ct := ⟨0, (par.headD ⟨0, 0⟩).al⟩ :: tlGo pk L i c xs par
def tlOut (n : Nat) : List Ct := ⟨1, 1⟩ :: List.replicate n ⟨0, 0⟩
def ctAt (tl : List Ct) (k : Nat) : Ct := tl.getD k ⟨0, 0⟩
def cntT (xs : List Sg) : Nat → Tv → List Ct → List (Tv × Nat)
  | 0, _, _ => []
  | n + 1, t, tl => (t.ws.zipIdx.flatMap (fun p => cntT xs n p.1 (tlOf xs t.d.kind t.ws.length p.2 p.1 tl))) ++ (if 0 < (ctAt tl xs.length).its then [(t, (ctAt tl xs.length).its)] else [])
structure Fw where
  g : Gs
  tl : List (List Ct)
  hd : Option Nat
  told : List (Tv × Nat)
def fInit : Fw := ⟨gInit, [], none, []⟩
def fTly (xs : List Sg) (s : Fw) (d : Dat) : List Ct := match s.g.st with
  | [] => tlOut xs.length
  | p :: _ => tlOf xs p.d.kind p.ws.length s.g.ix ⟨d, []⟩ (s.tl.getLastD [])
def fBeg (xs : List Sg) (s : Fw) (d : Dat) : Fw :=
  if s.hd.isSome = true then s
  else { s with tl := s.tl ++ [fTly xs s d], hd := if headS xs < xs.length ∧ 0 < (ctAt (fTly xs s d) (headS xs)).its then some s.g.st.length else none }
def fCls (xs : List Sg) (s : Fw) (t : Tv) (r : Nat) : Fw :=
  if s.hd.isSome = true ∧ s.hd ≠ some r then s
  else { s with tl := s.tl.dropLast, hd := none, told := s.told ++ cntT xs 10 t (s.tl.getLastD []) }
def fTake (xs : List Sg) (s : Fw) (t : Tok) : Fw :=
  if t.k = 0 then { fBeg xs s (gDat s.g t) with g := gTake s.g t s.hd.isSome }
  else if t.k = 1 then (match s.g.st with
    | [] => s
    | f :: r => { fCls xs s (f.tv t.to) r.length with g := gTake s.g t true })
  else if t.k = 2 then { s with g := gTake s.g t true }
  else { fCls xs (fBeg xs s (gDat s.g t)) ((gBegin s.g t true).tv t.to) s.g.st.length with g := gTake s.g t s.hd.isSome }
def fRun (xs : List Sg) (s : Fw) (ts : List Tok) : Fw := ts.foldl (fTake xs) s
theorem fRun_app (xs : List Sg) (s : Fw) (a b : List Tok) : fRun xs s (a ++ b) = fRun xs (fRun xs s a) b := by simp [fRun]
end Tr
