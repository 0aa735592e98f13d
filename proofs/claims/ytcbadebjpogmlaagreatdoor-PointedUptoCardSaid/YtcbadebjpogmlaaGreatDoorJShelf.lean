import Derived.Test.YtcbadebjpogmlaaGreatDoorProg
import Derived.Shelf.LaysM
import Derived.Shelf.LaysC
import Derived.Shelf.Strconv.Atoi
import Derived.Shelf.Strconv.Clone
import Derived.Shelf.Strconv.AtoiErr
import Derived.Test.YtcbadebjpogmlaaGreatDoorJPlain8
import Derived.Test.YtcbadebjpogmlaaGreatDoorJMkA
import Derived.Lib.AtoiErrMem
namespace Go.Proofs
open Go.Shelf
def Tryz.lays172_ren : Go.Shelf.Ren := ⟨fun | 172 => 255 | 244 => 263 | 245 => 264 | 247 => 269 | 279 => 270 | 280 => 271 | 281 => 272 | 282 => 273 | 287 => 279 | 316 => 84 | 171 => 75 | 205 => 280 | 321 => 289 | 322 => 290 | 243 => 103 | 246 => 140 | 283 => 184 | 284 => 185 | 285 => 186 | 286 => 187 | 129 => 227 | 317 => 226 | 318 => 228 | 319 => 229 | 320 => 230 | 337 => 245 | 338 => 246 | n => n, fun | 9 => 9 | 3 => 3 | 75 => 180 | 76 => 181 | 4 => 4 | 5 => 5 | 167 => 311 | 37 => 110 | 0 => 0 | 85 => 312 | 2 => 2 | 168 => 314 | 53 => 258 | 175 => 324 | 46 => 281 | 210 => 327 | 127 => 209 | 145 => 336 | 143 => 334 | 21 => 21 | 171 => 257 | 173 => 261 | 212 => 277 | 51 => 278 | 20 => 20 | 213 => 279 | 232 => 304 | 233 => 305 | 80 => 52 | n => n, fun | 15 => 6 | 16 => 7 | 17 => 0 | 18 => 4 | 19 => 5 | n => n⟩
theorem Tryz.lays172 : Go.Proofs.Lays.n172 Tryz.prog Tryz.lays172_ren := {
  mixed := by kernel_rfl
  f129 := Tryz.func227.trans (congrArg some (by kernel_rfl))
  f171 := Tryz.func75.trans (congrArg some (by kernel_rfl))
  f172 := Tryz.func255.trans (congrArg some (by kernel_rfl))
  f205 := Tryz.func280.trans (congrArg some (by kernel_rfl))
  f243 := Tryz.func103.trans (congrArg some (by kernel_rfl))
  f244 := Tryz.func263.trans (congrArg some (by kernel_rfl))
  f245 := Tryz.func264.trans (congrArg some (by kernel_rfl))
  f246 := Tryz.func140.trans (congrArg some (by kernel_rfl))
  f247 := Tryz.func269.trans (congrArg some (by kernel_rfl))
  f279 := Tryz.func270.trans (congrArg some (by kernel_rfl))
  f280 := Tryz.func271.trans (congrArg some (by kernel_rfl))
  f281 := Tryz.func272.trans (congrArg some (by kernel_rfl))
  f282 := Tryz.func273.trans (congrArg some (by kernel_rfl))
  f283 := Tryz.func184.trans (congrArg some (by kernel_rfl))
  f284 := Tryz.func185.trans (congrArg some (by kernel_rfl))
  f285 := Tryz.func186.trans (congrArg some (by kernel_rfl))
  f286 := Tryz.func187.trans (congrArg some (by kernel_rfl))
  f287 := Tryz.func279.trans (congrArg some (by kernel_rfl))
  f316 := Tryz.func84.trans (congrArg some (by kernel_rfl))
  f317 := Tryz.func226.trans (congrArg some (by kernel_rfl))
  f318 := Tryz.func228.trans (congrArg some (by kernel_rfl))
  f319 := Tryz.func229.trans (congrArg some (by kernel_rfl))
  f320 := Tryz.func230.trans (congrArg some (by kernel_rfl))
  f321 := Tryz.func289.trans (congrArg some (by kernel_rfl))
  f322 := Tryz.func290.trans (congrArg some (by kernel_rfl))
  f337 := Tryz.func245.trans (congrArg some (by kernel_rfl))
  f338 := Tryz.func246.trans (congrArg some (by kernel_rfl))
  t0 := Tryz.underlying0
  a0 := Tryz.isAgg0
  z0 := Tryz.sizeOf0
  v0 := Tryz.zeroValue0
  t2 := Tryz.underlying2
  a2 := Tryz.isAgg2
  z2 := Tryz.sizeOf2
  v2 := Tryz.zeroValue2
  t3 := Tryz.underlying3
  a3 := Tryz.isAgg3
  z3 := Tryz.sizeOf3
  v3 := Tryz.zeroValue3
  t4 := Tryz.underlying4
  a4 := Tryz.isAgg4
  z4 := Tryz.sizeOf4
  v4 := Tryz.zeroValue4
  t5 := Tryz.underlying5
  a5 := Tryz.isAgg5
  z5 := Tryz.sizeOf5
  v5 := Tryz.zeroValue5
  t9 := Tryz.underlying9
  a9 := Tryz.isAgg9
  z9 := Tryz.sizeOf9
  v9 := Tryz.zeroValue9
  t20 := Tryz.underlying20
  a20 := Tryz.isAgg20
  z20 := Tryz.sizeOf20
  v20 := Tryz.zeroValue20
  t21 := Tryz.underlying21
  a21 := Tryz.isAgg21
  z21 := Tryz.sizeOf21
  v21 := Tryz.zeroValue21
  t37 := Tryz.underlying110
  a37 := Tryz.isAgg110
  z37 := Tryz.sizeOf110
  v37 := Tryz.zeroValue110
  t46 := Tryz.underlying281
  a46 := Tryz.isAgg281
  z46 := Tryz.sizeOf281
  v46 := Tryz.zeroValue281
  t51 := Tryz.underlying278
  a51 := Tryz.isAgg278
  z51 := Tryz.sizeOf278
  v51 := Tryz.zeroValue278
  t53 := Tryz.underlying258
  a53 := Tryz.isAgg258
  z53 := Tryz.sizeOf258
  v53 := Tryz.zeroValue258
  t75 := Tryz.underlying180
  a75 := Tryz.isAgg180
  z75 := Tryz.sizeOf180
  v75 := Tryz.zeroValue180
  t76 := Tryz.underlying181
  a76 := Tryz.isAgg181
  z76 := Tryz.sizeOf181
  v76 := Tryz.zeroValue181
  t85 := Tryz.underlying312
  a85 := Tryz.isAgg312
  z85 := Tryz.sizeOf312
  v85 := Tryz.zeroValue312
  t127 := Tryz.underlying209
  a127 := Tryz.isAgg209
  z127 := Tryz.sizeOf209
  v127 := Tryz.zeroValue209
  t143 := Tryz.underlying334
  a143 := Tryz.isAgg334
  z143 := Tryz.sizeOf334
  v143 := Tryz.zeroValue334
  t145 := Tryz.underlying336
  a145 := Tryz.isAgg336
  z145 := Tryz.sizeOf336
  v145 := Tryz.zeroValue336
  t167 := Tryz.underlying311
  a167 := Tryz.isAgg311
  z167 := Tryz.sizeOf311
  v167 := Tryz.zeroValue311
  t168 := Tryz.underlying314
  a168 := Tryz.isAgg314
  z168 := Tryz.sizeOf314
  v168 := Tryz.zeroValue314
  t171 := Tryz.underlying257
  a171 := Tryz.isAgg257
  z171 := Tryz.sizeOf257
  v171 := Tryz.zeroValue257
  t173 := Tryz.underlying261
  a173 := Tryz.isAgg261
  z173 := Tryz.sizeOf261
  v173 := Tryz.zeroValue261
  t175 := Tryz.underlying324
  a175 := Tryz.isAgg324
  z175 := Tryz.sizeOf324
  v175 := Tryz.zeroValue324
  t210 := Tryz.underlying327
  a210 := Tryz.isAgg327
  z210 := Tryz.sizeOf327
  v210 := Tryz.zeroValue327
  t212 := Tryz.underlying277
  a212 := Tryz.isAgg277
  z212 := Tryz.sizeOf277
  v212 := Tryz.zeroValue277
  t213 := Tryz.underlying279
  a213 := Tryz.isAgg279
  z213 := Tryz.sizeOf279
  t232 := Tryz.underlying304
  a232 := Tryz.isAgg304
  z232 := Tryz.sizeOf304
  v232 := Tryz.zeroValue304
  t233 := Tryz.underlying305
  a233 := Tryz.isAgg305
  z233 := Tryz.sizeOf305
  v233 := Tryz.zeroValue305
  g15 := by kernel_rfl
  g16 := by kernel_rfl
  g17 := by kernel_rfl
  g18 := by kernel_rfl
  g19 := by kernel_rfl }
def Tryz.laysM316_ren : Go.Shelf.Ren := ⟨fun | 316 => 84 | n => n, fun | 9 => 9 | 3 => 3 | 4 => 4 | 37 => 110 | 0 => 0 | 127 => 209 | 5 => 5 | n => n, fun | n => n⟩
theorem Tryz.laysM316 : Go.Proofs.LaysM.n316 Tryz.prog Tryz.laysM316_ren := {
  mixed := by kernel_rfl
  f316 := Tryz.func84.trans (congrArg some (by kernel_rfl))
  t0 := Tryz.underlying0
  a0 := Tryz.isAgg0
  z0 := Tryz.sizeOf0
  v0 := Tryz.zeroValue0
  t3 := Tryz.underlying3
  a3 := Tryz.isAgg3
  z3 := Tryz.sizeOf3
  v3 := Tryz.zeroValue3
  t4 := Tryz.underlying4
  a4 := Tryz.isAgg4
  z4 := Tryz.sizeOf4
  v4 := Tryz.zeroValue4
  t9 := Tryz.underlying9
  a9 := Tryz.isAgg9
  z9 := Tryz.sizeOf9
  v9 := Tryz.zeroValue9
  t37 := Tryz.underlying110
  a37 := Tryz.isAgg110
  z37 := Tryz.sizeOf110
  v37 := Tryz.zeroValue110
  t127 := Tryz.underlying209
  a127 := Tryz.isAgg209
  z127 := Tryz.sizeOf209
  v127 := Tryz.zeroValue209
  t5 := Tryz.underlying5
  a5 := Tryz.isAgg5
  z5 := Tryz.sizeOf5
  v5 := Tryz.zeroValue5
  i0 := by kernel_rfl
  i3 := by kernel_rfl
  i4 := by kernel_rfl
  i5 := by kernel_rfl
  i9 := by kernel_rfl
  i37 := by kernel_rfl
  i127 := by kernel_rfl }
def Tryz.laysC172_ren : Go.Shelf.Ren := ⟨fun | 172 => 255 | 244 => 263 | 245 => 264 | 247 => 269 | 279 => 270 | 280 => 271 | 281 => 272 | 282 => 273 | 287 => 279 | 316 => 84 | 171 => 75 | 205 => 280 | 321 => 289 | 322 => 290 | 243 => 103 | 246 => 140 | 283 => 184 | 284 => 185 | 285 => 186 | 286 => 187 | 129 => 227 | 317 => 226 | 318 => 228 | 319 => 229 | 320 => 230 | 337 => 245 | 338 => 246 | n => n, fun | 9 => 9 | 3 => 3 | 75 => 180 | 76 => 181 | 4 => 4 | 5 => 5 | 167 => 311 | 37 => 110 | 0 => 0 | 85 => 312 | 2 => 2 | 168 => 314 | 53 => 258 | 175 => 324 | 46 => 281 | 210 => 327 | 127 => 209 | 145 => 336 | 143 => 334 | 21 => 21 | 171 => 257 | 173 => 261 | 212 => 277 | 51 => 278 | 20 => 20 | 213 => 279 | 232 => 304 | 233 => 305 | 80 => 52 | n => n, fun | 15 => 6 | 16 => 7 | 17 => 0 | 18 => 4 | 19 => 5 | n => n⟩
theorem Tryz.laysC172 : Go.Proofs.LaysC.n172 Tryz.prog Tryz.laysC172_ren := {
  mixed := by kernel_rfl
  f129 := Tryz.func227.trans (congrArg some (by kernel_rfl))
  f171 := Tryz.func75.trans (congrArg some (by kernel_rfl))
  f172 := Tryz.func255.trans (congrArg some (by kernel_rfl))
  f205 := Tryz.func280.trans (congrArg some (by kernel_rfl))
  f243 := Tryz.func103.trans (congrArg some (by kernel_rfl))
  f244 := Tryz.func263.trans (congrArg some (by kernel_rfl))
  f245 := Tryz.func264.trans (congrArg some (by kernel_rfl))
  f246 := Tryz.func140.trans (congrArg some (by kernel_rfl))
  f247 := Tryz.func269.trans (congrArg some (by kernel_rfl))
  f279 := Tryz.func270.trans (congrArg some (by kernel_rfl))
  f280 := Tryz.func271.trans (congrArg some (by kernel_rfl))
  f281 := Tryz.func272.trans (congrArg some (by kernel_rfl))
  f282 := Tryz.func273.trans (congrArg some (by kernel_rfl))
  f283 := Tryz.func184.trans (congrArg some (by kernel_rfl))
  f284 := Tryz.func185.trans (congrArg some (by kernel_rfl))
  f285 := Tryz.func186.trans (congrArg some (by kernel_rfl))
  f286 := Tryz.func187.trans (congrArg some (by kernel_rfl))
  f287 := Tryz.func279.trans (congrArg some (by kernel_rfl))
  f316 := Tryz.func84.trans (congrArg some (by kernel_rfl))
  f317 := Tryz.func226.trans (congrArg some (by kernel_rfl))
  f318 := Tryz.func228.trans (congrArg some (by kernel_rfl))
  f319 := Tryz.func229.trans (congrArg some (by kernel_rfl))
  f320 := Tryz.func230.trans (congrArg some (by kernel_rfl))
  f321 := Tryz.func289.trans (congrArg some (by kernel_rfl))
  f322 := Tryz.func290.trans (congrArg some (by kernel_rfl))
  f337 := Tryz.func245.trans (congrArg some (by kernel_rfl))
  f338 := Tryz.func246.trans (congrArg some (by kernel_rfl))
  t0 := Tryz.underlying0
  a0 := Tryz.isAgg0
  z0 := Tryz.sizeOf0
  v0 := Tryz.zeroValue0
  t2 := Tryz.underlying2
  a2 := Tryz.isAgg2
  z2 := Tryz.sizeOf2
  v2 := Tryz.zeroValue2
  t3 := Tryz.underlying3
  a3 := Tryz.isAgg3
  z3 := Tryz.sizeOf3
  v3 := Tryz.zeroValue3
  t4 := Tryz.underlying4
  a4 := Tryz.isAgg4
  z4 := Tryz.sizeOf4
  v4 := Tryz.zeroValue4
  t5 := Tryz.underlying5
  a5 := Tryz.isAgg5
  z5 := Tryz.sizeOf5
  v5 := Tryz.zeroValue5
  t9 := Tryz.underlying9
  a9 := Tryz.isAgg9
  z9 := Tryz.sizeOf9
  v9 := Tryz.zeroValue9
  t20 := Tryz.underlying20
  a20 := Tryz.isAgg20
  z20 := Tryz.sizeOf20
  v20 := Tryz.zeroValue20
  t21 := Tryz.underlying21
  a21 := Tryz.isAgg21
  z21 := Tryz.sizeOf21
  v21 := Tryz.zeroValue21
  t37 := Tryz.underlying110
  a37 := Tryz.isAgg110
  z37 := Tryz.sizeOf110
  v37 := Tryz.zeroValue110
  t46 := Tryz.underlying281
  a46 := Tryz.isAgg281
  z46 := Tryz.sizeOf281
  v46 := Tryz.zeroValue281
  t51 := Tryz.underlying278
  a51 := Tryz.isAgg278
  z51 := Tryz.sizeOf278
  v51 := Tryz.zeroValue278
  t53 := Tryz.underlying258
  a53 := Tryz.isAgg258
  z53 := Tryz.sizeOf258
  v53 := Tryz.zeroValue258
  t75 := Tryz.underlying180
  a75 := Tryz.isAgg180
  z75 := Tryz.sizeOf180
  v75 := Tryz.zeroValue180
  t76 := Tryz.underlying181
  a76 := Tryz.isAgg181
  z76 := Tryz.sizeOf181
  v76 := Tryz.zeroValue181
  t85 := Tryz.underlying312
  a85 := Tryz.isAgg312
  z85 := Tryz.sizeOf312
  v85 := Tryz.zeroValue312
  t127 := Tryz.underlying209
  a127 := Tryz.isAgg209
  z127 := Tryz.sizeOf209
  v127 := Tryz.zeroValue209
  t143 := Tryz.underlying334
  a143 := Tryz.isAgg334
  z143 := Tryz.sizeOf334
  v143 := Tryz.zeroValue334
  t145 := Tryz.underlying336
  a145 := Tryz.isAgg336
  z145 := Tryz.sizeOf336
  v145 := Tryz.zeroValue336
  t167 := Tryz.underlying311
  a167 := Tryz.isAgg311
  z167 := Tryz.sizeOf311
  v167 := Tryz.zeroValue311
  t168 := Tryz.underlying314
  a168 := Tryz.isAgg314
  z168 := Tryz.sizeOf314
  v168 := Tryz.zeroValue314
  t171 := Tryz.underlying257
  a171 := Tryz.isAgg257
  z171 := Tryz.sizeOf257
  v171 := Tryz.zeroValue257
  t173 := Tryz.underlying261
  a173 := Tryz.isAgg261
  z173 := Tryz.sizeOf261
  v173 := Tryz.zeroValue261
  t175 := Tryz.underlying324
  a175 := Tryz.isAgg324
  z175 := Tryz.sizeOf324
  v175 := Tryz.zeroValue324
  t210 := Tryz.underlying327
  a210 := Tryz.isAgg327
  z210 := Tryz.sizeOf327
  v210 := Tryz.zeroValue327
  t212 := Tryz.underlying277
  a212 := Tryz.isAgg277
  z212 := Tryz.sizeOf277
  v212 := Tryz.zeroValue277
  t213 := Tryz.underlying279
  a213 := Tryz.isAgg279
  z213 := Tryz.sizeOf279
  t232 := Tryz.underlying304
  a232 := Tryz.isAgg304
  z232 := Tryz.sizeOf304
  v232 := Tryz.zeroValue304
  t233 := Tryz.underlying305
  a233 := Tryz.isAgg305
  z233 := Tryz.sizeOf305
  v233 := Tryz.zeroValue305
  g15 := by kernel_rfl
  g16 := by kernel_rfl
  g17 := by kernel_rfl
  g18 := by kernel_rfl
  g19 := by kernel_rfl
  t80 := Tryz.underlying52
  a80 := Tryz.isAgg52
  z80 := Tryz.sizeOf52
  v80 := Tryz.zeroValue52
  i0 := by kernel_rfl
  i2 := by kernel_rfl
  i3 := by kernel_rfl
  i4 := by kernel_rfl
  i5 := by kernel_rfl
  i9 := by kernel_rfl
  i20 := by kernel_rfl
  i21 := by kernel_rfl
  i37 := by kernel_rfl
  i46 := by kernel_rfl
  i51 := by kernel_rfl
  i53 := by kernel_rfl
  i75 := by kernel_rfl
  i76 := by kernel_rfl
  i80 := by kernel_rfl
  i85 := by kernel_rfl
  i127 := by kernel_rfl
  i143 := by kernel_rfl
  i145 := by kernel_rfl
  i167 := by kernel_rfl
  i168 := by kernel_rfl
  i171 := by kernel_rfl
  i173 := by kernel_rfl
  i175 := by kernel_rfl
  i210 := by kernel_rfl
  i212 := by kernel_rfl
  i232 := by kernel_rfl
  i233 := by kernel_rfl
  m15 := by kernel_rfl
  m16 := by kernel_rfl
  m17 := by kernel_rfl
  m18 := by kernel_rfl
  m19 := by kernel_rfl
  c0 := by kernel_rfl
  c2 := by kernel_rfl
  c3 := by kernel_rfl
  c4 := by kernel_rfl
  c5 := by kernel_rfl
  c9 := by kernel_rfl
  c20 := by kernel_rfl
  c21 := by kernel_rfl
  c37 := by kernel_rfl
  c46 := by kernel_rfl
  c51 := by kernel_rfl
  c53 := by kernel_rfl
  c75 := by kernel_rfl
  c76 := by kernel_rfl
  c80 := by kernel_rfl
  c85 := by kernel_rfl
  c127 := by kernel_rfl
  c143 := by kernel_rfl
  c145 := by kernel_rfl
  c167 := by kernel_rfl
  c168 := by kernel_rfl
  c171 := by kernel_rfl
  c173 := by kernel_rfl
  c175 := by kernel_rfl
  c210 := by kernel_rfl
  c212 := by kernel_rfl
  c213 := by kernel_rfl
  c232 := by kernel_rfl
  c233 := by kernel_rfl }
end Go.Proofs
namespace Tr
def FinP (s : List UInt8) : Prop := (M s (s.length + 1)).st = 26
theorem fin_up {s : List UInt8} (h : FinP s) {i : Nat} (hi : i ≤ s.length + 1) : 2 ≤ (M s i).st := by
  rcases Nat.lt_or_ge (M s i).st 2 with h1 | h1
  · have := absorb s i (by omega) (s.length + 1) hi
    unfold FinP at h; omega
  exact h1
theorem fin_bad {s : List UInt8} (h : FinP s) {n : Nat} {t : St} (hb : Bad s n t) : False := by
  have h1 := fin_up h (i := t.p + 1) (by have := hb.er.le; omega)
  have h2 := hb.er.st
  have h3 := hb.er.e3
  have h4 := hb.ne
  omega
theorem fin_live {s : List UInt8} (h : FinP s) {q c X n : Nat} {o : List UInt8} {t : St} (k : Ok s q c X o n t) : Live s q c X o n t := k.resolve_right (fun b => fin_bad h b)
theorem fin_nx {s : List UInt8} (h : FinP s) {q c X n : Nat} {o : List UInt8} {t : St} (k : Live s q c X o n t) : 2 ≤ (nx (cS X o) (bt s t.p)).st := by
  rw [← k.ac]
  exact fin_up h (i := t.p + 1) (by have := k.le; omega)
theorem nodig_low {X b : Nat} {o : List UInt8} (hX : X = 7 ∨ X = 9 ∨ X = 14 ∨ X = 18) (hb : isDig b = true) : (nx (cS X o) b).st = 0 := by
  simp only [isDig, Bool.and_eq_true, decide_eq_true_eq] at hb
  rw [nx_low (by omega) (by omega) (by omega)]
  have e : ∀ k, b ≠ k ∨ (48 ≤ k ∧ k ≤ 57) := fun k => by omega
  rcases hX with rfl | rfl | rfl | rfl
  · simp [gBetween, cS, gSelEnd, norm, show b ≠ 44 by omega, show b ≠ 93 by omega, show b ≠ 58 by omega]
  · simp [gBetween, cS, gSelEnd, norm, show b ≠ 44 by omega, show b ≠ 93 by omega, show b ≠ 58 by omega]
  · simp [gBetween, cS, gWithin, norm, show b ≠ 93 by omega]
  simp only [gBetween, cS, gPartEnd]
  simp [gSelEnd, norm, show b ≠ 44 by omega, show b ≠ 93 by omega, show b ≠ 58 by omega, show b ≠ 38 by omega, show b ≠ 124 by omega, show b ≠ 41 by omega]
theorem fin_nodig {s : List UInt8} (h : FinP s) {q c X n : Nat} {o : List UInt8} {t : St} (k : Live s q c X o n t) (hX : X = 7 ∨ X = 9 ∨ X = 14 ∨ X = 18) : isDig (bt s t.p) = false := by
  cases hb : isDig (bt s t.p) with
  | false => rfl
  | true =>
    have := fin_nx h k
    rw [nodig_low hX hb] at this
    omega
theorem nolet_low {b : Nat} {o : List UInt8} (hb : isLet b = true) : (nx (cS 11 o) b).st = 0 := by
  simp only [isLet, Bool.and_eq_true, decide_eq_true_eq] at hb
  rw [nx_low (by omega) (by omega) (by omega)]
  simp only [gBetween, cS, gStepEnd, gPartEnd]
  simp [gSelEnd, norm, show b ≠ 44 by omega, show b ≠ 93 by omega, show b ≠ 58 by omega, show b ≠ 38 by omega, show b ≠ 41 by omega, show b ≠ 46 by omega, show b ≠ 91 by omega, show b ≠ 61 by omega, show b ≠ 33 by omega, show b ≠ 60 by omega, show b ≠ 124 by omega]
theorem fin_nolet {s : List UInt8} (h : FinP s) {q c n : Nat} {o : List UInt8} {t : St} (k : Live s q c 11 o n t) : isLet (bt s t.p) = false := by
  cases hb : isLet (bt s t.p) with
  | false => rfl
  | true =>
    have := fin_nx h k
    rw [nolet_low hb] at this
    omega
theorem run_eq {ok : Nat → Bool} {s : List UInt8} {K a k : Nat} (hge : a ≤ k) (hall : ∀ i, a ≤ i → i < k → ok (bt s i) = true) (hstop : ok (bt s k) = false) (hr : ok (bt s (run ok s K a)) = false) : run ok s K a = k := by
  have h1 := run_ge ok s K a
  rcases Nat.lt_trichotomy (run ok s K a) k with h | h | h
  · rw [hall _ h1 h] at hr; cases hr
  · exact h
  rw [run_ok ok s K a k hge h] at hstop; cases hstop
def pfx (s : List UInt8) : List Nat → Nat → Bool
  | [], _ => true
  | b :: l, a => bt s a == b && pfx s l (a + 1)
theorem must1_e {s : List UInt8} {t : St} {b : Nat} (h : (must1 s t b).e = 0) : sees s t b = true ∧ must1 s t b = adv t := by
  unfold must1 at h ⊢
  by_cases hs : sees s t b = true
  · rw [if_pos hs]; exact ⟨hs, rfl⟩
  rw [if_neg hs] at h
  exfalso
  unfold wrong at h
  split at h
  · cases h
  contradiction
theorem must_e {s : List UInt8} : ∀ {l : List Nat} {t : St}, (must s t l).e = 0 → t.e = 0 ∧ pfx s l t.p = true ∧ must s t l = { t with p := t.p + l.length }
  | [], t, h => ⟨h, rfl, rfl⟩
  | b :: l, t, h => by
    have e : must s t (b :: l) = must s (must1 s t b) l := rfl
    rw [e] at h ⊢
    obtain ⟨h1, h2, h3⟩ := must_e h
    obtain ⟨h4, h5⟩ := must1_e h1
    rw [h5] at h2 h3
    have h6 : t.e = 0 ∧ bt s t.p = b := sees_e h4
    refine ⟨h6.1, ?_, ?_⟩
    · simp only [pfx, h6.2, beq_self_eq_true, Bool.true_and]; exact h2
    rw [h5, h3]; simp [adv, Nat.add_assoc, Nat.add_comm 1]
end Tr
namespace Tr
def isBl (b : Nat) : Bool := b == 32 || b == 10
def sk (s : List UInt8) (i : Nat) : Nat := run isBl s (s.length + 1) i
def dvT (s : List UInt8) (p : Nat) : Nat → Nat
  | 0 => 0
  | k + 1 => 10 * dvT s p k + (bt s (p + k) - 48)
structure Dat where
  kind : Nat
  n : Int
  s : List UInt8
  name : List UInt8
  path : List UInt8
  frm : Nat
  to : Nat
  cl : Int
structure Tv where
  d : Dat
  ws : List Tv
def decN : Nat → Nat → List UInt8
  | 0, _ => []
  | f + 1, n => if n < 10 then [UInt8.ofNat (48 + n)] else decN f (n / 10) ++ [UInt8.ofNat (48 + n % 10)]
def dec (n : Nat) : List UInt8 := decN (n + 1) n
theorem decN_eq : ∀ f g n, n < f → n < g → decN f n = decN g n
  | 0, _, _, h, _ => absurd h (Nat.not_lt_zero _)
  | _ + 1, 0, _, _, h => absurd h (Nat.not_lt_zero _)
  | f + 1, g + 1, n, h1, h2 => by
    unfold decN
    by_cases h : n < 10
    · rw [if_pos h, if_pos h]
    rw [if_neg h, if_neg h, decN_eq f g (n / 10) (by omega) (by omega)]
theorem dec_small {n : Nat} (h : n < 10) : dec n = [UInt8.ofNat (48 + n)] := by unfold dec decN; rw [if_pos h]
theorem dec_great {n : Nat} (h : ¬ n < 10) : dec n = dec (n / 10) ++ [UInt8.ofNat (48 + n % 10)] := by
  have e : dec n = decN n (n / 10) ++ [UInt8.ofNat (48 + n % 10)] := by unfold dec; rw [decN, if_neg h]
  rw [e, decN_eq n (n / 10 + 1) (n / 10) (by omega) (by omega)]
  rfl
theorem dec_len : ∀ n, (dec n).length ≤ n + 1 := by
  intro n
  induction n using Nat.strongRecOn with
  | _ n ih =>
    by_cases h : n < 10
    · rw [dec_small h]; simp
    rw [dec_great h, List.length_append]
    have := ih (n / 10) (by omega)
    simp; omega
def esc1 (b : UInt8) : List UInt8 := if b = 39 ∨ b = 92 then [92, b] else [b]
def quoT (l : List UInt8) : List UInt8 := [39] ++ l.flatMap esc1 ++ [39]
end Tr
namespace Tr
structure StA where
  word : Bool
  name : List UInt8
  n : Int
def idx (l : List Tv) (n : Int) : Option Tv := if n < 0 then none else l[n.toNat]?
def pickT (v : Tv) (st : StA) (k : Nat) : Option Tv :=
  if st.word = true then (if v.d.kind = 5 then (v.ws.take k).find? (fun c => c.d.name == st.name) else none)
  else (if v.d.kind = 4 then idx (v.ws.take k) (if st.n < 0 then st.n + v.ws.length else st.n) else none)
def leadT : Tv → List StA → Option Tv
  | v, [] => some v
  | v, st :: l => (pickT v st v.ws.length).bind (fun u => leadT u l)
structure Kt where
  k : Nat
  n : Int
  t : List UInt8
def bLess : List UInt8 → List UInt8 → Bool
  | _, [] => false
  | [], _ :: _ => true
  | a :: x, b :: y => decide (a < b) || (a == b && bLess x y)
def sameT (c : Kt) (o : Option Tv) : Bool := o.any (fun v => decide (v.d.kind < 4) && v.d.kind == c.k && v.d.n == c.n && v.d.s == c.t)
def lessT (c : Kt) (o : Option Tv) : Bool := o.any (fun v => v.d.kind == c.k && ((v.d.kind == 1 && decide (v.d.n < c.n)) || (v.d.kind == 2 && bLess v.d.s c.t)))
structure Sel where
  sort : Nat
  name : List UInt8
  n : Int
  frm : Int
  to : Int
  wh : Tv → Bool
def Sel.late (x : Sel) : Bool := x.sort == 5 || (x.sort == 3 && decide (x.n < 0))
def takes1 (x : Sel) (pk L i : Nat) (w : Tv) : Bool :=
  if x.sort = 1 then true
  else if x.sort = 2 then pk == 5 && w.d.name == x.name
  else if x.sort = 3 then pk == 4 && (i : Int) == (if x.n < 0 then x.n + L else x.n)
  else if x.sort = 4 then pk == 4 && decide (x.frm ≤ i) && (decide (x.to < 0) || decide ((i : Int) < x.to))
  else x.wh w
def takS (x : Sel) (v : Tv) : List Tv := (v.ws.zipIdx.filter (fun p => takes1 x v.d.kind v.ws.length p.2 p.1)).map (·.1)
structure Sg where
  deep : Bool
  l : List Sel
def Sg.late (g : Sg) : Bool := g.l.any Sel.late
def allT : Nat → Tv → List Tv
  | 0, _ => []
  | n + 1, t => t :: t.ws.flatMap (allT n)
def dirS (l : List Sel) (v : Tv) : List Tv := l.flatMap (fun x => takS x v)
def segS (g : Sg) (v : Tv) : List Tv := if g.deep = true then (allT 10 v).flatMap (dirS g.l) else dirS g.l v
def nodesS : List Sg → List Tv → List Tv
  | [], l => l
  | g :: r, l => nodesS r (l.flatMap (segS g))
def cntS (xs : List Sel) (pk L i : Nat) (c : Tv) : Nat := (xs.map (fun x => if takes1 x pk L i c = true then 1 else 0)).sum
def selN (xs : List Sg) : Nat := (xs.map (fun g => g.l.length)).sum
def headS (l : List Sg) : Nat := l.findIdx Sg.late
end Tr
namespace Tr
theorem bnd_next {s : List UInt8} (hf : FinP s) {c : Nat} {acc : List UInt8} {t : St} (h : Bnd s c acc t) : bt s t.p = 46 ∨ bt s t.p = 91 ∨ bt s t.p = 256 := by
  have h1 : 2 ≤ (M s (t.p + 1)).st := fin_up hf (by have := h.le; omega)
  simp only [M] at h1
  rw [h.ac] at h1
  by_cases h256 : bt s t.p = 256
  · exact Or.inr (Or.inr h256)
  rw [nx3 h256] at h1
  by_cases h46 : bt s t.p = 46
  · exact Or.inl h46
  by_cases h91 : bt s t.p = 91
  · exact Or.inr (Or.inl h91)
  simp [gSegment, cS, h46, h91, norm] at h1
theorem bnd_nolet {s : List UInt8} (hf : FinP s) {c : Nat} {acc : List UInt8} {t : St} (h : Bnd s c acc t) : isLet (bt s t.p) = false := by
  rcases bnd_next hf h with e | e | e <;> rw [e] <;> rfl
theorem dot5_no {s : List UInt8} (hf : FinP s) {c : Nat} {acc : List UInt8} {t : St} (h : Dot s c 5 acc t) : sees s t 46 = false := by
  rw [sees_live h.e0]
  by_cases hb : bt s t.p = 46
  · exfalso
    have h1 : 2 ≤ (M s (t.p + 1)).st := fin_up hf (by have := h.le; omega)
    simp only [M] at h1
    rw [h.mm, hb] at h1
    exact absurd h1 (by decide)
  simpa using hb
theorem out_len (m : G) (b : Nat) : (out m b).length ≤ 3 := by
  unfold out
  repeat' split
  all_goals simp
theorem T_len (s : List UInt8) : ∀ i, (T s i).length ≤ 3 * i
  | 0 => Nat.le_refl _
  | i + 1 => by
    have := T_len s i
    have := out_len (M s i) (bt s i)
    simp only [T, List.length_append]
    omega
theorem Bnd.len {s : List UInt8} {c : Nat} {acc : List UInt8} {t : St} (h : Bnd s c acc t) : acc.length ≤ 3 * t.p + 2 := by
  have := T_len s t.p
  rcases h.ty with ⟨_, h2⟩ | ⟨_, _, _, h4⟩
  · rw [← h2]; omega
  rw [← h4]; simp; omega
theorem sub_cons {s : List UInt8} {p p' : Nat} {b : UInt8} (hb : bt s p = b.toNat) (h : p < p') : sub s p p' = b :: sub s (p + 1) p' := by
  have hb2 : bt s p < 256 := by have := b.toNat_lt; omega
  rw [sub_trans (b := p + 1) (by omega) (by omega), sub_snoc (Nat.le_refl _) hb2, sub_self, hb]
  simp
theorem T_pos (s : List UInt8) : ∀ i, 0 < i → 0 < (T s i).length
  | 0, h => absurd h (by decide)
  | 1, _ => by simp [T, M, out, g0]
  | i + 2, _ => by
    have := T_pos s (i + 1) (by omega)
    rw [T, List.length_append]
    omega
theorem Bnd.ne {s : List UInt8} {c : Nat} {acc : List UInt8} {t : St} (h : Bnd s c acc t) (hp : 0 < t.p) : acc ≠ [] := by
  have h1 := T_pos s t.p hp
  intro e
  rcases h.ty with ⟨_, h2⟩ | ⟨_, _, _, h4⟩
  · rw [h2, e] at h1; simp at h1
  rw [e] at h4; simp at h4
end Tr
namespace Tr
def wTrue : List UInt8 := [116, 114, 117, 101]
def wFalse : List UInt8 := [102, 97, 108, 115, 101]
def wNull : List UInt8 := [110, 117, 108, 108]
def rEnd (ok : Nat → Bool) (s : List UInt8) (a : Nat) : Nat := run ok s (s.length + 1) a
theorem rEnd_stop (ok : Nat → Bool) (s : List UInt8) (a : Nat) (h : ok 256 = false) : ok (bt s (rEnd ok s a)) = false := by
  rcases run_stop ok s (s.length + 1) a with e | e
  · unfold rEnd; rw [e, bt_end (by omega)]; exact h
  exact e
def cVal (s : List UInt8) (a b : Nat) : Nat := dvT s a (b - a)
structure PS (α : Type) where
  v : α
  p : Nat
def pSteps (s : List UInt8) : Nat → Nat → List StA → PS (List StA)
  | 0, a, l => ⟨l, a⟩
  | n + 1, a, l =>
    if bt s a = 46 then pSteps s n (rEnd isLet s (a + 1)) (l ++ [⟨true, sub s (a + 1) (rEnd isLet s (a + 1)), 0⟩])
    else if bt s a = 91 then
      (if bt s (a + 1) = 45 then pSteps s n (rEnd isDig s (a + 2) + 1) (l ++ [⟨false, [], -(cVal s (a + 2) (rEnd isDig s (a + 2)) : Int)⟩])
      else pSteps s n (rEnd isDig s (a + 1) + 1) (l ++ [⟨false, [], (cVal s (a + 1) (rEnd isDig s (a + 1)) : Int)⟩]))
    else ⟨l, a⟩
def pConst (s : List UInt8) (a : Nat) : PS Kt :=
  if bt s a = 116 then ⟨⟨3, 0, wTrue⟩, a + 4⟩
  else if bt s a = 102 then ⟨⟨3, 0, wFalse⟩, a + 5⟩
  else if bt s a = 110 then ⟨⟨3, 0, wNull⟩, a + 4⟩
  else if bt s a = 39 then ⟨⟨2, 0, sub s (a + 1) (rEnd isQuo s (a + 1))⟩, rEnd isQuo s (a + 1) + 1⟩
  else if bt s a = 45 then ⟨⟨1, -(cVal s (a + 1) (rEnd isDig s (a + 1)) : Int), []⟩, rEnd isDig s (a + 1)⟩
  else ⟨⟨1, (cVal s a (rEnd isDig s a) : Int), []⟩, rEnd isDig s a⟩
def pOp (s : List UInt8) (l : List StA) (a : Nat) : PS (Tv → Bool) :=
  if bt s a = 61 then ⟨fun t => sameT (pConst s (a + 2)).v (leadT t l), (pConst s (a + 2)).p⟩
  else if bt s a = 33 then ⟨fun t => !(sameT (pConst s (a + 2)).v (leadT t l)), (pConst s (a + 2)).p⟩
  else if bt s a = 60 then
    (if bt s (a + 1) = 61 then ⟨fun t => sameT (pConst s (a + 2)).v (leadT t l) || lessT (pConst s (a + 2)).v (leadT t l), (pConst s (a + 2)).p⟩
    else ⟨fun t => lessT (pConst s (a + 1)).v (leadT t l), (pConst s (a + 1)).p⟩)
  else ⟨fun t => (leadT t l).isSome, a⟩
def pTest (s : List UInt8) (a : Nat) : PS (Tv → Bool) := pOp s (pSteps s (s.length + 1) (a + 1) []).v (pSteps s (s.length + 1) (a + 1) []).p
def pC (s : List UInt8) : Nat → Nat → Nat → (Tv → Bool) → PS (Tv → Bool)
  | 0, _, a, φ => ⟨φ, a⟩
  | n + 1, 0, a, φ =>
    if bt s a = 33 then ⟨fun t => !((pC s n 0 (a + 1) φ).v t), (pC s n 0 (a + 1) φ).p⟩
    else if bt s a = 40 then ⟨(pC s n 2 (a + 1) φ).v, (pC s n 2 (a + 1) φ).p + 1⟩
    else pTest s a
  | n + 1, 1, a, φ => pC s n 3 (pC s n 0 a φ).p (pC s n 0 a φ).v
  | n + 1, 2, a, φ => pC s n 4 (pC s n 1 a φ).p (pC s n 1 a φ).v
  | n + 1, 3, a, φ => if bt s a = 38 then pC s n 3 (pC s n 0 (a + 2) φ).p (fun t => φ t && (pC s n 0 (a + 2) φ).v t) else ⟨φ, a⟩
  | n + 1, _ + 4, a, φ => if bt s a = 124 then pC s n 4 (pC s n 1 (a + 2) φ).p (fun t => φ t || (pC s n 1 (a + 2) φ).v t) else ⟨φ, a⟩
def pSel (s : List UInt8) (a : Nat) : PS Sel :=
  if bt s a = 42 then ⟨⟨1, [], 0, 0, 0, fun _ => false⟩, a + 1⟩
  else if bt s a = 39 then ⟨⟨2, sub s (a + 1) (rEnd isQuo s (a + 1)), 0, 0, 0, fun _ => false⟩, rEnd isQuo s (a + 1) + 1⟩
  else if bt s a = 45 then ⟨⟨3, [], -(cVal s (a + 1) (rEnd isDig s (a + 1)) : Int), 0, 0, fun _ => false⟩, rEnd isDig s (a + 1)⟩
  else if bt s a = 63 then ⟨⟨5, [], 0, 0, 0, (pC s (4 * s.length + 9) 2 (a + 1) (fun _ => false)).v⟩, (pC s (4 * s.length + 9) 2 (a + 1) (fun _ => false)).p⟩
  else if bt s (rEnd isDig s a) = 58 then
    ⟨⟨4, [], 0, (cVal s a (rEnd isDig s a) : Int), (if rEnd isDig s (rEnd isDig s a + 1) = rEnd isDig s a + 1 then -1 else (cVal s (rEnd isDig s a + 1) (rEnd isDig s (rEnd isDig s a + 1)) : Int)), fun _ => false⟩, rEnd isDig s (rEnd isDig s a + 1)⟩
  else ⟨⟨3, [], (cVal s a (rEnd isDig s a) : Int), 0, 0, fun _ => false⟩, rEnd isDig s a⟩
def pSels (s : List UInt8) : Nat → Nat → List Sel → PS (List Sel)
  | 0, a, l => ⟨l, a⟩
  | n + 1, a, l => if bt s (pSel s a).p = 44 then pSels s n ((pSel s a).p + 1) (l ++ [(pSel s a).v]) else ⟨l ++ [(pSel s a).v], (pSel s a).p⟩
def pWord (s : List UInt8) (a : Nat) : PS (List Sel) :=
  if bt s a = 42 then ⟨[⟨1, [], 0, 0, 0, fun _ => false⟩], a + 1⟩ else ⟨[⟨2, sub s a (rEnd isLet s a), 0, 0, 0, fun _ => false⟩], rEnd isLet s a⟩
def pBr (s : List UInt8) (a : Nat) : PS (List Sel) := ⟨(pSels s (s.length + 1) (a + 1) []).v, (pSels s (s.length + 1) (a + 1) []).p + 1⟩
def pSeg (s : List UInt8) (a : Nat) : PS Sg :=
  if bt s a = 91 then ⟨⟨false, (pBr s a).v⟩, (pBr s a).p⟩
  else if bt s (a + 1) = 46 then (if bt s (a + 2) = 91 then ⟨⟨true, (pBr s (a + 2)).v⟩, (pBr s (a + 2)).p⟩ else ⟨⟨true, (pWord s (a + 2)).v⟩, (pWord s (a + 2)).p⟩)
  else ⟨⟨false, (pWord s (a + 1)).v⟩, (pWord s (a + 1)).p⟩
def pSegs (s : List UInt8) : Nat → Nat → List Sg → List Sg
  | 0, _, l => l
  | n + 1, a, l => if a < s.length then pSegs s n (pSeg s a).p (l ++ [(pSeg s a).v]) else l
def pQuery (s : List UInt8) : List Sg := pSegs s (s.length + 1) 1 []
end Tr
namespace Go.Proofs.YtcbadebjpogmlaaGreatDoor
open Go.RowKit Tr Go.Shelf
theorem l_clone (s : ByteArray) (w : World) (hlim : s.size ≤ 281474976710656) : Calls Tryz.prog 84 #[.string s] w fun e w' => e = .returned (.string s) ∧ Below w.heap.size w w' :=
  Any.stringslite_Clone Tryz.laysM316 s w hlim
theorem l_atoi (s : ByteArray) (n : Int) (hl : s.size ≤ 18) (h : Lib.atoi s.data.toList = some n) (w : World) :
    Calls Tryz.prog 255 #[.string s] w fun e w' => e = .returned (.tuple #[.int .i64 n, .nilIface]) ∧ ∃ t, w' = Lib.bytesWorld w 5 t := Any.strconv_Atoi Tryz.lays172 s n hl h w
theorem l_atoi_err (s : ByteArray) (hl : s.size ≤ 18) (h : Lib.atoi s.data.toList = none) (ev : Value) (w : World) (hv : w.cell? ⟨6, 0, none⟩ = some ev) (hev : ev = .nilIface ∨ ∃ te pe, ev = .iface te pe) :
    Calls Tryz.prog 255 #[.string s] w fun e w' => ∃ N, e = .returned (.tuple #[.int .i64 0, .iface 314 (.pointer (some ⟨N, 0, none⟩))]) ∧ Below w.heap.size w w' :=
  (Any.strconv_Atoi_err Tryz.laysC172 s hl h ev w hv hev).mono (fun _ _ ⟨N, h1, _, _, h2⟩ => ⟨N, h1, h2⟩)
theorem RunP.eq {ok : Nat → Bool} {q : ByteArray} {a k : Nat} (h : RunP ok q a k) (h256 : ok 256 = false) : rEnd ok (bs q) a = k := by
  refine run_eq h.ge h.all ?_ (rEnd_stop ok (bs q) a h256)
  rcases Nat.lt_or_ge k q.size with hk | hk
  · exact h.stop hk
  rw [bt_end (by rw [bs_len]; exact hk)]; exact h256
theorem decFrom_snoc : ∀ (l : List UInt8) (acc n d : Nat) (b : UInt8), Lib.decFrom acc l = some n → Lib.digitVal b = some d → Lib.decFrom acc (l ++ [b]) = some (n * 10 + d)
  | [], acc, n, d, b, h, hb => by
    cases h
    simp [Lib.decFrom, hb]
  | c :: l, acc, n, d, b, h, hb => by
    unfold Lib.decFrom at h
    show (match Lib.digitVal c with | some d => Lib.decFrom (acc * 10 + d) (l ++ [b]) | none => none) = _
    cases hc : Lib.digitVal c with
    | none => rw [hc] at h; cases h
    | some e => rw [hc] at h; exact decFrom_snoc l _ n d b h hb
theorem dig_val {c : Nat} (h : isDig c = true) : c < 256 ∧ Lib.digitVal (UInt8.ofNat c) = some (c - 48) := by
  simp [isDig] at h
  refine ⟨by omega, ?_⟩
  have e : (UInt8.ofNat c).toNat = c := by simp; omega
  unfold Lib.digitVal
  rw [e, if_pos (by omega)]
theorem dec_run {s : List UInt8} {a : Nat} : ∀ j, (∀ i, a ≤ i → i < a + j → isDig (bt s i) = true) → Lib.decFrom 0 (sub s a (a + j)) = some (dvT s a j)
  | 0, _ => by simp [sub, Lib.decFrom, dvT]
  | j + 1, h => by
    have hd := dig_val (h (a + j) (by omega) (by omega))
    rw [show a + (j + 1) = a + j + 1 by omega, sub_snoc (by omega) hd.1, decFrom_snoc _ _ _ _ _ (dec_run j (fun i h1 h2 => h i h1 (by omega))) hd.2]
    show some (dvT s a j * 10 + (bt s (a + j) - 48)) = some (10 * dvT s a j + (bt s (a + j) - 48))
    rw [Nat.mul_comm]
theorem dvT_lt {s : List UInt8} {a : Nat} : ∀ j, (∀ i, a ≤ i → i < a + j → isDig (bt s i) = true) → dvT s a j < 10 ^ j
  | 0, _ => by simp [dvT]
  | j + 1, h => by
    have := dvT_lt j (fun i h1 h2 => h i h1 (by omega))
    have hd := h (a + j) (by omega) (by omega)
    simp [isDig] at hd
    show 10 * dvT s a j + (bt s (a + j) - 48) < 10 ^ (j + 1)
    rw [Nat.pow_succ]
    omega
theorem dvT_pos {s : List UInt8} {a : Nat} (h0 : bt s a ≠ 48) (hd : isDig (bt s a) = true) : ∀ j, 0 < j → 0 < dvT s a j
  | 0, h => absurd h (Nat.lt_irrefl _)
  | 1, _ => by
    simp [isDig] at hd
    show 0 < 10 * 0 + (bt s (a + 0) - 48)
    simp; omega
  | j + 2, _ => by
    have := dvT_pos h0 hd (j + 1) (by omega)
    show 0 < 10 * dvT s a (j + 1) + _
    omega
theorem RunP.val {q : ByteArray} {a k : Nat} (h : RunP isDig q a k) (hk : k ≤ a + 3) : cVal (bs q) a k < 1000 := by
  have := dvT_lt (s := bs q) (a := a) (k - a) (fun i h1 h2 => h.all i h1 (by have := h.ge; omega))
  have e : (10 : Nat) ^ (k - a) ≤ 10 ^ 3 := Nat.pow_le_pow_right (by omega) (by omega)
  unfold cVal
  omega
theorem RunP.pos {q : ByteArray} {a k : Nat} (h : RunP isDig q a k) (hk : a < k) (h0 : bt (bs q) a ≠ 48) : 0 < cVal (bs q) a k := dvT_pos h0 (h.all a (Nat.le_refl _) hk) _ (by omega)
theorem atoi_run {q : ByteArray} {a k : Nat} (h : RunP isDig q a k) : Lib.atoi (q.extract a k).data.toList = if k = a then none else some ((cVal (bs q) a k : Nat) : Int) := by
  have e : (q.extract a k).data.toList = sub (bs q) a k := bs_extract q a k
  rw [e]
  by_cases hk : k = a
  · rw [if_pos hk, hk, sub_self]; rfl
  rw [if_neg hk]
  have hlt : a < k := by have := h.ge; omega
  have h1 := dig_val (h.all a (Nat.le_refl _) hlt)
  have hd := h.all a (Nat.le_refl _) hlt
  have e2 : sub (bs q) a k = UInt8.ofNat (bt (bs q) a) :: sub (bs q) (a + 1) k := sub_cons (b := UInt8.ofNat (bt (bs q) a)) (by simp; omega) hlt
  have e3 := dec_run (s := bs q) (a := a) (k - a) (fun i h1 h2 => h.all i h1 (by omega))
  rw [show a + (k - a) = k by omega] at e3
  simp [isDig] at hd
  rw [e2] at e3 ⊢
  have n1 : (UInt8.ofNat (bt (bs q) a) == 45) = false := by rw [beq_eq_false_iff_ne]; intro x; have := congrArg UInt8.toNat x; simp at this; omega
  have n2 : (UInt8.ofNat (bt (bs q) a) == 43) = false := by rw [beq_eq_false_iff_ne]; intro x; have := congrArg UInt8.toNat x; simp at this; omega
  simp only [Lib.atoi, n1, n2, Bool.false_eq_true, if_false, Lib.decNat, List.isEmpty_cons]
  rw [e3]
  rfl
structure Er (g : Nat) (w0 : World) : Prop where
  v : ∃ ev, w0.cell? ⟨6, 0, none⟩ = some ev ∧ (ev = .nilIface ∨ ∃ te pe, ev = .iface te pe)
  ne : 6 ≠ g
  lt : 6 < w0.heap.size
theorem Qt.below {g : Nat} {q : ByteArray} {p v : Value} {n : Nat} {w0 w w' : World} {a : Nat} (h : Qt g q p v n w0 a w) (hb : Below w.heap.size w w') : Qt g q p v n w0 a w' :=
  ⟨h.b.fr (Fr.of_below (K := fun _ => False) hb) id, h.f.trans (Fr.of_below hb), h.le⟩
set_option maxHeartbeats 1000000 in
theorem k_count {w0 w : World} {g : Nat} {q : ByteArray} {a : Nat} {p v : Value} {n : Nat} (h : Qt g q p v n w0 a w) (hq : q.size ≤ 1000) (he : Er g w0) (h18 : ∀ k, RunP isDig q a k → k ≤ a + 18) (i : Int) :
    Calls Tryz.prog 242 #[.pointer (some ⟨g, 0, none⟩), .int .i64 i] w fun r w' => ∃ k m, (RunP isDig q a k ∧ m = if k = a then i else ((cVal (bs q) a k : Nat) : Int)) ∧ r = .returned (.int .i64 m) ∧ Qt g q p v n w0 k w' := by
  have H := hide h
  have HE := hide he
  have H18 := hide h18
  clear h he h18
  go_enter Tryz.func242, Tryz.ntmps242
  go_wp2_with fail
  refine (c_run_isDigit H.out hq).mono ?_
  rintro r w1 ⟨k, hk, rfl, h1⟩
  have H1 := hide h1
  have HK := hide hk
  clear h1 hk H
  obtain ⟨ev, hv, hev⟩ := HE.out.v
  have hv1 : w1.cell? ⟨6, 0, none⟩ = some ev := (H1.out.f.cell (p := ⟨6, 0, none⟩) HE.out.lt HE.out.ne).trans hv
  have HV := hide hv1
  have HEV := hide hev
  clear hv hv1 hev
  have hl18 : (q.extract a k).size ≤ 18 := by
    have h1 := H18.out k HK.out
    have h2 := HK.out.le
    simp [ByteArray.size_extract]; omega
  have hat := atoi_run HK.out
  by_cases hka : k = a
  · rw [if_pos hka] at hat
    have HA := hide hka
    have HAT := hide hat
    clear hka hat
    go_wp2_with fail
    refine (l_atoi_err _ hl18 HAT.out ev _ HV.out HEV.out).mono ?_
    rintro r w2 ⟨N, rfl, hb⟩
    have H2 := hide (H1.out.below hb)
    clear hb H1 HV HEV
    go_wp2
    go_ret
    exact ⟨k, i, ⟨HK.out, by rw [if_pos HA.out]⟩, rfl, H2.out⟩
  rw [if_neg hka] at hat
  have HA := hide hka
  have HAT := hide hat
  clear hka hat
  go_wp2_with fail
  refine (l_atoi _ _ hl18 HAT.out _).mono ?_
  rintro r w2 ⟨rfl, t, rfl⟩
  have H2 := hide (H1.out.below (Lib.bytesWorld_below w1 5 t))
  clear H1 HV HEV
  go_wp2
  go_ret
  exact ⟨k, _, ⟨HK.out, by rw [if_neg HA.out]⟩, rfl, H2.out⟩
end Go.Proofs.YtcbadebjpogmlaaGreatDoor
namespace Go.Proofs.YtcbadebjpogmlaaGreatDoor
open Go.RowKit Tr
theorem pfx_drop (s : List UInt8) : ∀ (l : List UInt8) (a : Nat), l.isPrefixOf (s.drop a) = pfx s (l.map UInt8.toNat) a
  | [], a => by simp [pfx]
  | c :: l, a => by
    simp only [List.map_cons, pfx]
    rw [← pfx_drop s l (a + 1)]
    unfold bt
    cases h : s[a]? with
    | none =>
      have : s.drop a = [] := by simpa using h
      rw [this]
      have := c.toNat_lt
      simp; omega
    | some d =>
      have hd : s.drop a = d :: s.drop (a + 1) := by
        obtain ⟨hl, he⟩ := List.getElem?_eq_some_iff.1 h
        rw [List.drop_eq_getElem_cons hl, he]
      rw [hd]
      simp only [List.isPrefixOf]
      congr 1
      by_cases e : c = d
      · subst e; simp
      have : d.toNat ≠ c.toNat := fun x => e (UInt8.toNat_inj.1 x).symm
      have h1 : (c == d) = false := by simpa using e
      have h2 : (d.toNat == c.toNat) = false := by simpa using this
      rw [h1, h2]
theorem tk_pfx (q : ByteArray) (a : Nat) (sign : ByteArray) : tk q a sign = pfx (bs q) (nb sign) a := pfx_drop (bs q) (bs sign) a
theorem tk1 (q : ByteArray) {t : St} (he : t.e = 0) (c : UInt8) : tk q t.p ⟨#[c]⟩ = sees (bs q) t c.toNat := by
  rw [tk_pfx]
  show (bt (bs q) t.p == c.toNat && true) = _
  simp [sees, he]
theorem run_of {ok : Nat → Bool} {q : ByteArray} {a k K : Nat} (h : RunP ok q a k) (h256 : ok 256 = false) (hr : ok (bt (bs q) (run ok (bs q) K a)) = false) : run ok (bs q) K a = k := by
  refine run_eq h.ge h.all ?_ hr
  rcases Nat.lt_or_ge k q.size with hk | hk
  · exact h.stop hk
  rw [bt_end (by rw [bs_len]; exact hk)]; exact h256
end Go.Proofs.YtcbadebjpogmlaaGreatDoor
