/- The program's reader: bytes and their kinds; the reader's block. -/
import Derived.Test.YtcbadebjpogmlaaGreatDoorJRefB
import Derived.Test.YtcbadebjpogmlaaGreatDoorJa
namespace Go.Proofs.YtcbadebjpogmlaaGreatDoor
open Go.RowKit Tr

/-- The kinds of bytes, as the program counts them. -/
def kindN (c : Nat) : Nat := if isLet c = true then 1 else if c = 48 then 2 else if isDig c = true then 3 else if c = 32 then 4 else 0

set_option maxHeartbeats 400000 in
theorem c_kindOf {w : World} (c : Nat) (hc : c < 256) :
    Calls Tryz.prog 147 #[.int .u8 (c : Int)] w fun r w' => r = .returned (.int .i64 (kindN c : Nat)) ∧ w' = w := by
  by_cases h1 : isLet c = true
  · have e : kindN c = 1 := by simp [kindN, h1]
    rw [e]
    simp [isLet] at h1
    have d1 : (97 : Int) ≤ (c : Int) := by omega
    have d2 : (c : Int) ≤ 122 := by omega
    clear e h1
    go_enter Tryz.func147, Tryz.ntmps147
    go_wp2
    go_ret
    exact ⟨rfl, rfl⟩
  · by_cases h2 : c = 48
    · subst h2
      have e : kindN 48 = 2 := rfl
      rw [e]
      clear e h1
      go_enter Tryz.func147, Tryz.ntmps147
      go_wp2
      go_ret
      exact ⟨rfl, rfl⟩
    · by_cases h3 : isDig c = true
      · have e : kindN c = 3 := by simp [kindN, h1, h2, h3]
        rw [e]
        simp [isDig] at h3
        have d1 : ¬ (97 : Int) ≤ (c : Int) := by omega
        have d2 : decide ((97 : Int) ≤ (c : Int)) = false := by simpa using d1
        have d3 : ((c : Int) == 48) = false := by rw [beq_eq_false_iff_ne]; omega
        have d4 : (49 : Int) ≤ (c : Int) := by omega
        have d5 : (c : Int) ≤ 57 := by omega
        clear e h1 h2 h3
        go_enter Tryz.func147, Tryz.ntmps147
        go_wp2
        go_ret
        exact ⟨rfl, rfl⟩
      · by_cases h4 : c = 32
        · subst h4
          have e : kindN 32 = 4 := rfl
          rw [e]
          clear e h1 h2 h3
          go_enter Tryz.func147, Tryz.ntmps147
          go_wp2
          go_ret
          exact ⟨rfl, rfl⟩
        · have e : kindN c = 0 := by simp [kindN, h1, h2, h3, h4]
          rw [e]
          simp [isLet] at h1
          simp [isDig] at h3
          have d3 : ((c : Int) == 48) = false := by rw [beq_eq_false_iff_ne]; omega
          have d6 : ((c : Int) == 32) = false := by rw [beq_eq_false_iff_ne]; omega
          by_cases h5 : 97 ≤ c
          · have d1 : (97 : Int) ≤ (c : Int) := by omega
            have d2 : decide ((c : Int) ≤ 122) = false := by simp; omega
            have d4 : (49 : Int) ≤ (c : Int) := by omega
            have d5 : decide ((c : Int) ≤ 57) = false := by simp; omega
            clear e h1 h2 h3 h4
            go_enter Tryz.func147, Tryz.ntmps147
            go_wp2
            go_ret
            exact ⟨rfl, rfl⟩
          · have d1 : decide ((97 : Int) ≤ (c : Int)) = false := by simp; omega
            by_cases h6 : 49 ≤ c
            · have d4 : (49 : Int) ≤ (c : Int) := by omega
              have d5 : decide ((c : Int) ≤ 57) = false := by simp; omega
              clear e h1 h2 h3 h4
              go_enter Tryz.func147, Tryz.ntmps147
              go_wp2
              go_ret
              exact ⟨rfl, rfl⟩
            · have d4 : decide ((49 : Int) ≤ (c : Int)) = false := by simp; omega
              clear e h1 h2 h3 h4
              go_enter Tryz.func147, Tryz.ntmps147
              go_wp2
              go_ret
              exact ⟨rfl, rfl⟩

theorem ret_bool {a b : Bool} (h : a = b) : Ending.returned (.bool a) = .returned (.bool b) := by rw [h]

theorem kind_let (c : Nat) : ((kindN c : Int) == 1) = isLet c := by
  unfold kindN; repeat' split
  all_goals simp_all
theorem kind_quo (c : Nat) : ((kindN c : Int) != 0) = isQuo c := by
  unfold kindN isQuo; repeat' split
  all_goals simp_all
  all_goals simp [isDig]
theorem kind_le (c : Nat) : kindN c ≤ 4 := by unfold kindN; repeat' split
                                              all_goals omega

set_option maxHeartbeats 400000 in
theorem c_isLetter {w : World} (c : Nat) (hc : c < 256) :
    Calls Tryz.prog 193 #[.int .u8 (c : Int)] w fun r w' => r = .returned (.bool (isLet c)) ∧ w' = w := by
  have HK := hide (kind_let c)
  go_enter Tryz.func193, Tryz.ntmps193
  go_wp2_with fail
  refine (c_kindOf c hc).mono ?_
  rintro r w1 ⟨rfl, rfl⟩
  generalize kindN c = k at *
  go_wp2
  go_ret
  exact ⟨ret_bool HK.out, rfl⟩

set_option maxHeartbeats 400000 in
theorem c_isQuoted {w : World} (c : Nat) (hc : c < 256) :
    Calls Tryz.prog 195 #[.int .u8 (c : Int)] w fun r w' => r = .returned (.bool (isQuo c)) ∧ w' = w := by
  have HK := hide (kind_quo c)
  go_enter Tryz.func195, Tryz.ntmps195
  go_wp2_with fail
  refine (c_kindOf c hc).mono ?_
  rintro r w1 ⟨rfl, rfl⟩
  generalize kindN c = k at *
  go_wp2
  go_ret
  exact ⟨ret_bool HK.out, rfl⟩

set_option maxHeartbeats 400000 in
theorem c_isDigit {w : World} (c : Nat) (hc : c < 256) :
    Calls Tryz.prog 194 #[.int .u8 (c : Int)] w fun r w' => r = .returned (.bool (isDig c)) ∧ w' = w := by
  by_cases h2 : kindN c = 2
  · have e : isDig c = true := by
      unfold kindN at h2
      repeat' split at h2
      all_goals simp_all
      simp [isDig]
    rw [e]
    have HK := hide h2
    clear e h2
    go_enter Tryz.func194, Tryz.ntmps194
    go_wp2_with fail
    refine (c_kindOf c hc).mono ?_
    rintro r w1 ⟨rfl, rfl⟩
    rw [HK.out]
    go_wp2
    go_ret
    exact ⟨rfl, rfl⟩
  · have e : isDig c = ((kindN c : Int) == 3) := by
      unfold kindN at h2 ⊢
      repeat' split at h2
      all_goals simp_all
      rename_i h1
      simp [isLet] at h1
      simp [isDig]
      omega
    rw [e]
    have d2 : ((kindN c : Int) == 2) = false := by rw [beq_eq_false_iff_ne]; omega
    have HK := hide (rfl : kindN c = kindN c)
    have hle := kind_le c
    clear e h2
    go_enter Tryz.func194, Tryz.ntmps194
    go_wp2_with fail
    refine (c_kindOf c hc).mono ?_
    rintro r w1 ⟨rfl, rfl⟩
    go_wp2_with fail
    refine (c_kindOf c hc).mono ?_
    rintro r w1 ⟨rfl, rfl⟩
    go_wp2
    go_ret
    exact ⟨rfl, rfl⟩

/-- The program's reader in memory; x: what its cell 'state' holds. -/
def HasG (w : World) (b : Nat) (x : Nat) (g : G) : Prop :=
  w.heap[b]? = some (.cells #[.int .i64 x, .int .i64 g.bh, .int .i64 g.sz, .string ⟨g.rs.toArray⟩, .string ⟨g.op.toArray⟩] 176)
theorem HasG.lt {w : World} {b x : Nat} {g : G} (h : HasG w b x g) : b < w.heap.size := lt_of_some h
theorem HasG.c0 {w : World} {b x : Nat} {g : G} (h : HasG w b x g) : w.cell? ⟨b, 0, none⟩ = some (.int .i64 x) := by unfold HasG at h; simp [World.cell?, h]
theorem HasG.c1 {w : World} {b x : Nat} {g : G} (h : HasG w b x g) : w.cell? ⟨b, 1, none⟩ = some (.int .i64 g.bh) := by unfold HasG at h; simp [World.cell?, h]
theorem HasG.c2 {w : World} {b x : Nat} {g : G} (h : HasG w b x g) : w.cell? ⟨b, 2, none⟩ = some (.int .i64 g.sz) := by unfold HasG at h; simp [World.cell?, h]
theorem HasG.c3 {w : World} {b x : Nat} {g : G} (h : HasG w b x g) : w.cell? ⟨b, 3, none⟩ = some (.string ⟨g.rs.toArray⟩) := by unfold HasG at h; simp [World.cell?, h]
theorem HasG.c4 {w : World} {b x : Nat} {g : G} (h : HasG w b x g) : w.cell? ⟨b, 4, none⟩ = some (.string ⟨g.op.toArray⟩) := by unfold HasG at h; simp [World.cell?, h]
theorem HasG.fz {w : World} {b x : Nat} {g : G} (h : HasG w b x g) (i : Nat) : w.frozen? ⟨b, i, none⟩ = false := by unfold HasG at h; simp [World.frozen?, h]
theorem HasG.set0 {w : World} {b x : Nat} {g : G} (h : HasG w b x g) (y : Nat) : HasG (w.setCell ⟨b, 0, none⟩ (.int .i64 y)) b y g := by
  unfold HasG at *; simp [World.setCell, Array.getElem?_modify, h]
theorem HasG.set1 {w : World} {b x : Nat} {g : G} (h : HasG w b x g) (y : Nat) : HasG (w.setCell ⟨b, 1, none⟩ (.int .i64 y)) b x { g with bh := y } := by
  unfold HasG at *; simp [World.setCell, Array.getElem?_modify, h]
theorem HasG.set2 {w : World} {b x : Nat} {g : G} (h : HasG w b x g) (y : Nat) : HasG (w.setCell ⟨b, 2, none⟩ (.int .i64 y)) b x { g with sz := y } := by
  unfold HasG at *; simp [World.setCell, Array.getElem?_modify, h]
theorem HasG.set3 {w : World} {b x : Nat} {g : G} (h : HasG w b x g) (y : List UInt8) : HasG (w.setCell ⟨b, 3, none⟩ (.string ⟨y.toArray⟩)) b x { g with rs := y } := by
  unfold HasG at *; simp [World.setCell, Array.getElem?_modify, h]
theorem HasG.set4 {w : World} {b x : Nat} {g : G} (h : HasG w b x g) (y : List UInt8) : HasG (w.setCell ⟨b, 4, none⟩ (.string ⟨y.toArray⟩)) b x { g with op := y } := by
  unfold HasG at *; simp [World.setCell, Array.getElem?_modify, h]

/-- Behind a call of the reader's. -/
structure Rg (b : Nat) (w : World) (x : Nat) (g : G) (w' : World) : Prop where
  m : HasG w' b x g
  f : Fr (PB b) w w'
theorem Rg.same {b : Nat} {w : World} {x : Nat} {g : G} (h : HasG w b x g) : Rg b w x g w := ⟨h, Fr.refl _ _⟩
theorem Rg.trans {b : Nat} {w w1 w2 : World} {x y : Nat} {g h : G} (a : Rg b w x g w1) (c : Rg b w1 y h w2) : Rg b w y h w2 := ⟨c.m, a.f.trans c.f⟩
theorem Rg.drewN {b : Nat} {w w1 : World} {x : Nat} {g : G} (a : Rg b w x g w1) (n : Nat) : Rg b w x g (w1.drewN n) := ⟨a.m, a.f.drewN n⟩
theorem Rg.drew {b : Nat} {w w1 : World} {x : Nat} {g : G} (a : Rg b w x g w1) : Rg b w x g w1.drew := ⟨a.m, a.f.drew⟩
theorem Rg.set0 {b : Nat} {w w1 : World} {x : Nat} {g : G} (a : Rg b w x g w1) (y : Nat) : Rg b w y g (w1.setCell ⟨b, 0, none⟩ (.int .i64 y)) := ⟨a.m.set0 y, a.f.setCell ⟨b, 0, none⟩ (Or.inl rfl) _⟩
theorem Rg.set1 {b : Nat} {w w1 : World} {x : Nat} {g : G} (a : Rg b w x g w1) (y : Nat) : Rg b w x { g with bh := y } (w1.setCell ⟨b, 1, none⟩ (.int .i64 y)) := ⟨a.m.set1 y, a.f.setCell ⟨b, 1, none⟩ (Or.inl rfl) _⟩
theorem Rg.set2 {b : Nat} {w w1 : World} {x : Nat} {g : G} (a : Rg b w x g w1) (y : Nat) : Rg b w x { g with sz := y } (w1.setCell ⟨b, 2, none⟩ (.int .i64 y)) := ⟨a.m.set2 y, a.f.setCell ⟨b, 2, none⟩ (Or.inl rfl) _⟩
theorem Rg.set3 {b : Nat} {w w1 : World} {x : Nat} {g : G} (a : Rg b w x g w1) (y : List UInt8) : Rg b w x { g with rs := y } (w1.setCell ⟨b, 3, none⟩ (.string ⟨y.toArray⟩)) := ⟨a.m.set3 y, a.f.setCell ⟨b, 3, none⟩ (Or.inl rfl) _⟩
theorem Rg.set4 {b : Nat} {w w1 : World} {x : Nat} {g : G} (a : Rg b w x g w1) (y : List UInt8) : Rg b w x { g with op := y } (w1.setCell ⟨b, 4, none⟩ (.string ⟨y.toArray⟩)) := ⟨a.m.set4 y, a.f.setCell ⟨b, 4, none⟩ (Or.inl rfl) _⟩

end Go.Proofs.YtcbadebjpogmlaaGreatDoor

/- The program's reader: word, quote, named, minus, count, signed, constant, within do what the plain functions say. -/
namespace Go.Proofs.YtcbadebjpogmlaaGreatDoor
open Go.RowKit Tr

/-- Behind a function of the reader's that answers a state. -/
def Ans (b : Nat) (w : World) (x : Nat) (g : G) (r : Ending) (w' : World) : Prop := r = .returned (.int .i64 (g.st : Nat)) ∧ Rg b w x g w'

theorem Rg.as {b : Nat} {w w' : World} {x : Nat} {g : G} (h : Rg b w x g w') (g' : G) (e1 : g'.bh = g.bh) (e2 : g'.sz = g.sz) (e3 : g'.rs = g.rs) (e4 : g'.op = g.op) : Rg b w x g' w' :=
  ⟨by have := h.m; unfold HasG at *; rw [e1, e2, e3, e4]; exact this, h.f⟩

set_option maxHeartbeats 400000 in
theorem g_word {w : World} {b x : Nat} {g : G} (h : HasG w b x g) (c : Nat) (hc : c < 256) (k : Nat) (ki : Int) (hk : ki = k) :
    Calls Tryz.prog 202 #[.pointer (some ⟨b, 0, none⟩), .int .u8 (c : Int), .int .i64 ki] w (Ans b w x (gWord g c k)) := by
  subst hk
  have f1 := h.fz 1
  have f2 := h.fz 2
  have c1 := h.c1
  have c2 := h.c2
  have HH := hide h
  clear h
  cases hl : isLet c
  · have e : gWord g c k = { g with st := 0 } := by simp [gWord, hl]
    rw [e]
    have HL := hide hl
    clear e hl
    go_enter Tryz.func202, Tryz.ntmps202
    go_wp2_with fail
    refine (c_isLetter c hc).mono ?_
    rintro r w1 ⟨rfl, rfl⟩
    rw [HL.out]
    go_wp2
    go_ret
    exact ⟨rfl, Rg.as (Rg.same HH.out) _ rfl rfl rfl rfl⟩
  · have e : gWord g c k = { g with st := 21, bh := k, sz := 1 } := by simp [gWord, hl]
    rw [e]
    have HL := hide hl
    clear e hl
    go_enter Tryz.func202, Tryz.ntmps202
    go_wp2_with fail
    refine (c_isLetter c hc).mono ?_
    rintro r w1 ⟨rfl, rfl⟩
    rw [HL.out]
    go_wp2
    go_ret
    exact ⟨rfl, Rg.as (((Rg.same HH.out).set1 k).set2 1) _ rfl rfl rfl rfl⟩

set_option maxHeartbeats 400000 in
theorem g_quote {w : World} {b x : Nat} {g : G} (h : HasG w b x g) (k : Nat) (ki : Int) (hk : ki = k) :
    Calls Tryz.prog 197 #[.pointer (some ⟨b, 0, none⟩), .int .i64 ki] w (Ans b w x (gQuote g k)) := by
  subst hk
  have f1 := h.fz 1
  have f2 := h.fz 2
  have c1 := h.c1
  have c2 := h.c2
  have HH := hide h
  clear h
  go_enter Tryz.func197, Tryz.ntmps197
  go_wp2
  go_ret
  exact ⟨rfl, Rg.as (((Rg.same HH.out).set1 k).set2 0) _ rfl rfl rfl rfl⟩

set_option maxHeartbeats 400000 in
theorem g_minus {w : World} {b x : Nat} {g : G} (h : HasG w b x g) (k : Nat) (ki : Int) (hk : ki = k) :
    Calls Tryz.prog 198 #[.pointer (some ⟨b, 0, none⟩), .int .i64 ki] w (Ans b w x (gMinus g k)) := by
  subst hk
  have f1 := h.fz 1
  have c1 := h.c1
  have HH := hide h
  clear h
  go_enter Tryz.func198, Tryz.ntmps198
  go_wp2
  go_ret
  exact ⟨rfl, Rg.as ((Rg.same HH.out).set1 k) _ rfl rfl rfl rfl⟩

set_option maxHeartbeats 400000 in
theorem g_named {w : World} {b x : Nat} {g : G} (h : HasG w b x g) (l : List UInt8) (k : Nat) (ki : Int) (hk : ki = k) :
    Calls Tryz.prog 146 #[.pointer (some ⟨b, 0, none⟩), .string ⟨l.toArray⟩, .int .i64 ki] w (Ans b w x (gNamed g l k)) := by
  subst hk
  have f1 := h.fz 1
  have f3 := h.fz 3
  have c1 := h.c1
  have c3 := h.c3
  have HH := hide h
  clear h
  cases l with
  | nil =>
    have e : gNamed g [] k = { g with st := k } := rfl
    rw [e]
    clear e
    go_enter Tryz.func146, Tryz.ntmps146
    go_wp2
    go_ret
    exact ⟨rfl, Rg.as (Rg.same HH.out) _ rfl rfl rfl rfl⟩
  | cons a r =>
    have e : gNamed g (a :: r) k = { g with st := 24, bh := k, rs := a :: r } := rfl
    rw [e]
    clear e
    go_enter Tryz.func146, Tryz.ntmps146
    go_wp2
    go_ret
    exact ⟨rfl, Rg.as (((Rg.same HH.out).set1 k).set3 (a :: r)) _ rfl rfl rfl rfl⟩

set_option maxHeartbeats 400000 in
theorem g_count {w : World} {b x : Nat} {g : G} (h : HasG w b x g) (c : Nat) (hc : c < 256) (k : Nat) (ki : Int) (hk : ki = k) :
    Calls Tryz.prog 148 #[.pointer (some ⟨b, 0, none⟩), .int .u8 (c : Int), .int .i64 ki] w (Ans b w x (gCount g c k)) := by
  subst hk
  have f1 := h.fz 1
  have f2 := h.fz 2
  have c1 := h.c1
  have c2 := h.c2
  have HH := hide h
  clear h
  by_cases h48 : c = 48
  · have e : gCount g c k = { g with st := k } := by simp [gCount, h48]
    have HK : Hid (kindN c = 2) := by unfold Hid; rw [h48]; rfl
    rw [e]
    clear e h48
    go_enter Tryz.func148, Tryz.ntmps148
    go_wp2_with fail
    refine (c_kindOf c hc).mono ?_
    rintro r w1 ⟨rfl, rfl⟩
    rw [HK.out]
    go_wp2
    go_ret
    exact ⟨rfl, Rg.as (Rg.same HH.out) _ rfl rfl rfl rfl⟩
  · cases hd : isDig c
    · have e : gCount g c k = { g with st := 0 } := by simp [gCount, h48, hd]
      have d1 : ((kindN c : Int) == 2) = false := by
        rw [beq_eq_false_iff_ne]; unfold kindN; repeat' split
        all_goals (first | omega | simp_all)
      have d2 : ((kindN c : Int) == 3) = false := by
        rw [beq_eq_false_iff_ne]; unfold kindN; repeat' split
        all_goals (first | omega | simp_all)
      rw [e]
      clear e h48 hd
      go_enter Tryz.func148, Tryz.ntmps148
      go_wp2_with fail
      refine (c_kindOf c hc).mono ?_
      rintro r w1 ⟨rfl, rfl⟩
      go_wp2
      go_ret
      exact ⟨rfl, Rg.as (Rg.same HH.out) _ rfl rfl rfl rfl⟩
    · have e : gCount g c k = { g with st := 22, bh := k, sz := 1 } := by simp [gCount, h48, hd]
      have HK : Hid (kindN c = 3) := by
        unfold Hid kindN
        have : isLet c = false := by simp [isDig] at hd; simp [isLet]; omega
        simp [this, h48, hd]
      rw [e]
      clear e h48 hd
      go_enter Tryz.func148, Tryz.ntmps148
      go_wp2_with fail
      refine (c_kindOf c hc).mono ?_
      rintro r w1 ⟨rfl, rfl⟩
      rw [HK.out]
      go_wp2
      go_ret
      exact ⟨rfl, Rg.as (((Rg.same HH.out).set1 k).set2 1) _ rfl rfl rfl rfl⟩

set_option maxHeartbeats 400000 in
theorem g_signed {w : World} {b x : Nat} {g : G} (h : HasG w b x g) (c : Nat) (hc : c < 256) (k : Nat) (ki : Int) (hk : ki = k) :
    Calls Tryz.prog 201 #[.pointer (some ⟨b, 0, none⟩), .int .u8 (c : Int), .int .i64 ki] w (Ans b w x (gSigned g c k)) := by
  subst hk
  have HH := hide h
  clear h
  by_cases h45 : c = 45
  · have e : gSigned g c k = gMinus g k := by simp [gSigned, h45]
    rw [e]
    have d : ((c : Int) == 45) = true := by rw [h45]; rfl
    clear e h45
    go_enter Tryz.func201, Tryz.ntmps201
    go_wp2_with fail
    refine (g_minus HH.out k _ rfl).mono ?_
    rintro r w1 ⟨rfl, hr⟩
    have HR := hide hr
    clear hr
    go_wp2
    go_ret
    exact ⟨rfl, HR.out⟩
  · have e : gSigned g c k = gCount g c k := by simp [gSigned, h45]
    rw [e]
    have d : ((c : Int) == 45) = false := by rw [beq_eq_false_iff_ne]; omega
    clear e h45
    go_enter Tryz.func201, Tryz.ntmps201
    go_wp2_with fail
    refine (g_count HH.out c hc k _ rfl).mono ?_
    rintro r w1 ⟨rfl, hr⟩
    have HR := hide hr
    clear hr
    generalize gCount g c k = g2 at *
    go_wp2
    go_ret
    exact ⟨rfl, HR.out⟩

end Go.Proofs.YtcbadebjpogmlaaGreatDoor
