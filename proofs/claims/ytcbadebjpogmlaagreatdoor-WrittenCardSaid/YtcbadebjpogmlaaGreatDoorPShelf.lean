import Derived.Test.YtcbadebjpogmlaaGreatDoorProg
import Derived.Shelf.LaysM
import Derived.Shelf.LaysC
import Derived.Shelf.Strconv.Atoi
import Derived.Shelf.Strconv.Clone
import Derived.Shelf.Strconv.AtoiErr
import Derived.Test.YtcbadebjpogmlaaGreatDoorPBase
namespace Go.Proofs
open Go.Shelf
def Tryz.lays172_ren:Go.Shelf.Ren:=⟨fun | 172=>255 | 244=>263 | 245=>264 | 247=>269 | 279=>270 | 280=>271 | 281=>272 | 282=>273 | 287=>279 | 316=>84 | 171=>75 | 205=>280 | 321=>289 | 322=>290 | 243=>103 | 246=>140 | 283=>184 | 284=>185 | 285=>186 | 286=>187 | 129=>227 | 317=>226 | 318=>228 | 319=>229 | 320=>230 | 337=>245 | 338=>246 | n=>n,fun | 9=>9 | 3=>3 | 75=>180 | 76=>181 | 4=>4 | 5=>5 | 167=>311 | 37=>110 | 0=>0 | 85=>312 | 2=>2 | 168=>314 | 53=>258 | 175=>324 | 46=>281 | 210=>327 | 127=>209 | 145=>336 | 143=>334 | 21=>21 | 171=>257 | 173=>261 | 212=>277 | 51=>278 | 20=>20 | 213=>279 | 232=>304 | 233=>305 | 80=>52 | n=>n,fun | 15=>6 | 16=>7 | 17=>0 | 18=>4 | 19=>5 | n=>n⟩
theorem Tryz.lays172:Go.Proofs.Lays.n172 Tryz.prog Tryz.lays172_ren:={
 mixed:=by kernel_rfl
 f129:=Tryz.func227.trans (congrArg some (by kernel_rfl))
 f171:=Tryz.func75.trans (congrArg some (by kernel_rfl))
 f172:=Tryz.func255.trans (congrArg some (by kernel_rfl))
 f205:=Tryz.func280.trans (congrArg some (by kernel_rfl))
 f243:=Tryz.func103.trans (congrArg some (by kernel_rfl))
 f244:=Tryz.func263.trans (congrArg some (by kernel_rfl))
 f245:=Tryz.func264.trans (congrArg some (by kernel_rfl))
 f246:=Tryz.func140.trans (congrArg some (by kernel_rfl))
 f247:=Tryz.func269.trans (congrArg some (by kernel_rfl))
 f279:=Tryz.func270.trans (congrArg some (by kernel_rfl))
 f280:=Tryz.func271.trans (congrArg some (by kernel_rfl))
 f281:=Tryz.func272.trans (congrArg some (by kernel_rfl))
 f282:=Tryz.func273.trans (congrArg some (by kernel_rfl))
 f283:=Tryz.func184.trans (congrArg some (by kernel_rfl))
 f284:=Tryz.func185.trans (congrArg some (by kernel_rfl))
 f285:=Tryz.func186.trans (congrArg some (by kernel_rfl))
 f286:=Tryz.func187.trans (congrArg some (by kernel_rfl))
 f287:=Tryz.func279.trans (congrArg some (by kernel_rfl))
 f316:=Tryz.func84.trans (congrArg some (by kernel_rfl))
 f317:=Tryz.func226.trans (congrArg some (by kernel_rfl))
 f318:=Tryz.func228.trans (congrArg some (by kernel_rfl))
 f319:=Tryz.func229.trans (congrArg some (by kernel_rfl))
 f320:=Tryz.func230.trans (congrArg some (by kernel_rfl))
 f321:=Tryz.func289.trans (congrArg some (by kernel_rfl))
 f322:=Tryz.func290.trans (congrArg some (by kernel_rfl))
 f337:=Tryz.func245.trans (congrArg some (by kernel_rfl))
 f338:=Tryz.func246.trans (congrArg some (by kernel_rfl))
 t0:=Tryz.underlying0
 a0:=Tryz.isAgg0
 z0:=Tryz.sizeOf0
 v0:=Tryz.zeroValue0
 t2:=Tryz.underlying2
 a2:=Tryz.isAgg2
 z2:=Tryz.sizeOf2
 v2:=Tryz.zeroValue2
 t3:=Tryz.underlying3
 a3:=Tryz.isAgg3
 z3:=Tryz.sizeOf3
 v3:=Tryz.zeroValue3
 t4:=Tryz.underlying4
 a4:=Tryz.isAgg4
 z4:=Tryz.sizeOf4
 v4:=Tryz.zeroValue4
 t5:=Tryz.underlying5
 a5:=Tryz.isAgg5
 z5:=Tryz.sizeOf5
 v5:=Tryz.zeroValue5
 t9:=Tryz.underlying9
 a9:=Tryz.isAgg9
 z9:=Tryz.sizeOf9
 v9:=Tryz.zeroValue9
 t20:=Tryz.underlying20
 a20:=Tryz.isAgg20
 z20:=Tryz.sizeOf20
 v20:=Tryz.zeroValue20
 t21:=Tryz.underlying21
 a21:=Tryz.isAgg21
 z21:=Tryz.sizeOf21
 v21:=Tryz.zeroValue21
 t37:=Tryz.underlying110
 a37:=Tryz.isAgg110
 z37:=Tryz.sizeOf110
 v37:=Tryz.zeroValue110
 t46:=Tryz.underlying281
 a46:=Tryz.isAgg281
 z46:=Tryz.sizeOf281
 v46:=Tryz.zeroValue281
 t51:=Tryz.underlying278
 a51:=Tryz.isAgg278
 z51:=Tryz.sizeOf278
 v51:=Tryz.zeroValue278
 t53:=Tryz.underlying258
 a53:=Tryz.isAgg258
 z53:=Tryz.sizeOf258
 v53:=Tryz.zeroValue258
 t75:=Tryz.underlying180
 a75:=Tryz.isAgg180
 z75:=Tryz.sizeOf180
 v75:=Tryz.zeroValue180
 t76:=Tryz.underlying181
 a76:=Tryz.isAgg181
 z76:=Tryz.sizeOf181
 v76:=Tryz.zeroValue181
 t85:=Tryz.underlying312
 a85:=Tryz.isAgg312
 z85:=Tryz.sizeOf312
 v85:=Tryz.zeroValue312
 t127:=Tryz.underlying209
 a127:=Tryz.isAgg209
 z127:=Tryz.sizeOf209
 v127:=Tryz.zeroValue209
 t143:=Tryz.underlying334
 a143:=Tryz.isAgg334
 z143:=Tryz.sizeOf334
 v143:=Tryz.zeroValue334
 t145:=Tryz.underlying336
 a145:=Tryz.isAgg336
 z145:=Tryz.sizeOf336
 v145:=Tryz.zeroValue336
 t167:=Tryz.underlying311
 a167:=Tryz.isAgg311
 z167:=Tryz.sizeOf311
 v167:=Tryz.zeroValue311
 t168:=Tryz.underlying314
 a168:=Tryz.isAgg314
 z168:=Tryz.sizeOf314
 v168:=Tryz.zeroValue314
 t171:=Tryz.underlying257
 a171:=Tryz.isAgg257
 z171:=Tryz.sizeOf257
 v171:=Tryz.zeroValue257
 t173:=Tryz.underlying261
 a173:=Tryz.isAgg261
 z173:=Tryz.sizeOf261
 v173:=Tryz.zeroValue261
 t175:=Tryz.underlying324
 a175:=Tryz.isAgg324
 z175:=Tryz.sizeOf324
 v175:=Tryz.zeroValue324
 t210:=Tryz.underlying327
 a210:=Tryz.isAgg327
 z210:=Tryz.sizeOf327
 v210:=Tryz.zeroValue327
 t212:=Tryz.underlying277
 a212:=Tryz.isAgg277
 z212:=Tryz.sizeOf277
 v212:=Tryz.zeroValue277
 t213:=Tryz.underlying279
 a213:=Tryz.isAgg279
 z213:=Tryz.sizeOf279
 t232:=Tryz.underlying304
 a232:=Tryz.isAgg304
 z232:=Tryz.sizeOf304
 v232:=Tryz.zeroValue304
 t233:=Tryz.underlying305
 a233:=Tryz.isAgg305
 z233:=Tryz.sizeOf305
 v233:=Tryz.zeroValue305
 g15:=by kernel_rfl
 g16:=by kernel_rfl
 g17:=by kernel_rfl
 g18:=by kernel_rfl
 g19:=by kernel_rfl }
def Tryz.laysM316_ren:Go.Shelf.Ren:=⟨fun | 316=>84 | n=>n,fun | 9=>9 | 3=>3 | 4=>4 | 37=>110 | 0=>0 | 127=>209 | 5=>5 | n=>n,fun | n=>n⟩
theorem Tryz.laysM316:Go.Proofs.LaysM.n316 Tryz.prog Tryz.laysM316_ren:={
 mixed:=by kernel_rfl
 f316:=Tryz.func84.trans (congrArg some (by kernel_rfl))
 t0:=Tryz.underlying0
 a0:=Tryz.isAgg0
 z0:=Tryz.sizeOf0
 v0:=Tryz.zeroValue0
 t3:=Tryz.underlying3
 a3:=Tryz.isAgg3
 z3:=Tryz.sizeOf3
 v3:=Tryz.zeroValue3
 t4:=Tryz.underlying4
 a4:=Tryz.isAgg4
 z4:=Tryz.sizeOf4
 v4:=Tryz.zeroValue4
 t9:=Tryz.underlying9
 a9:=Tryz.isAgg9
 z9:=Tryz.sizeOf9
 v9:=Tryz.zeroValue9
 t37:=Tryz.underlying110
 a37:=Tryz.isAgg110
 z37:=Tryz.sizeOf110
 v37:=Tryz.zeroValue110
 t127:=Tryz.underlying209
 a127:=Tryz.isAgg209
 z127:=Tryz.sizeOf209
 v127:=Tryz.zeroValue209
 t5:=Tryz.underlying5
 a5:=Tryz.isAgg5
 z5:=Tryz.sizeOf5
 v5:=Tryz.zeroValue5
 i0:=by kernel_rfl
 i3:=by kernel_rfl
 i4:=by kernel_rfl
 i5:=by kernel_rfl
 i9:=by kernel_rfl
 i37:=by kernel_rfl
 i127:=by kernel_rfl }
def Tryz.laysC172_ren:Go.Shelf.Ren:=⟨fun | 172=>255 | 244=>263 | 245=>264 | 247=>269 | 279=>270 | 280=>271 | 281=>272 | 282=>273 | 287=>279 | 316=>84 | 171=>75 | 205=>280 | 321=>289 | 322=>290 | 243=>103 | 246=>140 | 283=>184 | 284=>185 | 285=>186 | 286=>187 | 129=>227 | 317=>226 | 318=>228 | 319=>229 | 320=>230 | 337=>245 | 338=>246 | n=>n,fun | 9=>9 | 3=>3 | 75=>180 | 76=>181 | 4=>4 | 5=>5 | 167=>311 | 37=>110 | 0=>0 | 85=>312 | 2=>2 | 168=>314 | 53=>258 | 175=>324 | 46=>281 | 210=>327 | 127=>209 | 145=>336 | 143=>334 | 21=>21 | 171=>257 | 173=>261 | 212=>277 | 51=>278 | 20=>20 | 213=>279 | 232=>304 | 233=>305 | 80=>52 | n=>n,fun | 15=>6 | 16=>7 | 17=>0 | 18=>4 | 19=>5 | n=>n⟩
theorem Tryz.laysC172:Go.Proofs.LaysC.n172 Tryz.prog Tryz.laysC172_ren:={
 mixed:=by kernel_rfl
 f129:=Tryz.func227.trans (congrArg some (by kernel_rfl))
 f171:=Tryz.func75.trans (congrArg some (by kernel_rfl))
 f172:=Tryz.func255.trans (congrArg some (by kernel_rfl))
 f205:=Tryz.func280.trans (congrArg some (by kernel_rfl))
 f243:=Tryz.func103.trans (congrArg some (by kernel_rfl))
 f244:=Tryz.func263.trans (congrArg some (by kernel_rfl))
 f245:=Tryz.func264.trans (congrArg some (by kernel_rfl))
 f246:=Tryz.func140.trans (congrArg some (by kernel_rfl))
 f247:=Tryz.func269.trans (congrArg some (by kernel_rfl))
 f279:=Tryz.func270.trans (congrArg some (by kernel_rfl))
 f280:=Tryz.func271.trans (congrArg some (by kernel_rfl))
 f281:=Tryz.func272.trans (congrArg some (by kernel_rfl))
 f282:=Tryz.func273.trans (congrArg some (by kernel_rfl))
 f283:=Tryz.func184.trans (congrArg some (by kernel_rfl))
 f284:=Tryz.func185.trans (congrArg some (by kernel_rfl))
 f285:=Tryz.func186.trans (congrArg some (by kernel_rfl))
 f286:=Tryz.func187.trans (congrArg some (by kernel_rfl))
 f287:=Tryz.func279.trans (congrArg some (by kernel_rfl))
 f316:=Tryz.func84.trans (congrArg some (by kernel_rfl))
 f317:=Tryz.func226.trans (congrArg some (by kernel_rfl))
 f318:=Tryz.func228.trans (congrArg some (by kernel_rfl))
 f319:=Tryz.func229.trans (congrArg some (by kernel_rfl))
 f320:=Tryz.func230.trans (congrArg some (by kernel_rfl))
 f321:=Tryz.func289.trans (congrArg some (by kernel_rfl))
 f322:=Tryz.func290.trans (congrArg some (by kernel_rfl))
 f337:=Tryz.func245.trans (congrArg some (by kernel_rfl))
 f338:=Tryz.func246.trans (congrArg some (by kernel_rfl))
 t0:=Tryz.underlying0
 a0:=Tryz.isAgg0
 z0:=Tryz.sizeOf0
 v0:=Tryz.zeroValue0
 t2:=Tryz.underlying2
 a2:=Tryz.isAgg2
 z2:=Tryz.sizeOf2
 v2:=Tryz.zeroValue2
 t3:=Tryz.underlying3
 a3:=Tryz.isAgg3
 z3:=Tryz.sizeOf3
 v3:=Tryz.zeroValue3
 t4:=Tryz.underlying4
 a4:=Tryz.isAgg4
 z4:=Tryz.sizeOf4
 v4:=Tryz.zeroValue4
 t5:=Tryz.underlying5
 a5:=Tryz.isAgg5
 z5:=Tryz.sizeOf5
 v5:=Tryz.zeroValue5
 t9:=Tryz.underlying9
 a9:=Tryz.isAgg9
 z9:=Tryz.sizeOf9
 v9:=Tryz.zeroValue9
 t20:=Tryz.underlying20
 a20:=Tryz.isAgg20
 z20:=Tryz.sizeOf20
 v20:=Tryz.zeroValue20
 t21:=Tryz.underlying21
 a21:=Tryz.isAgg21
 z21:=Tryz.sizeOf21
 v21:=Tryz.zeroValue21
 t37:=Tryz.underlying110
 a37:=Tryz.isAgg110
 z37:=Tryz.sizeOf110
 v37:=Tryz.zeroValue110
 t46:=Tryz.underlying281
 a46:=Tryz.isAgg281
 z46:=Tryz.sizeOf281
 v46:=Tryz.zeroValue281
 t51:=Tryz.underlying278
 a51:=Tryz.isAgg278
 z51:=Tryz.sizeOf278
 v51:=Tryz.zeroValue278
 t53:=Tryz.underlying258
 a53:=Tryz.isAgg258
 z53:=Tryz.sizeOf258
 v53:=Tryz.zeroValue258
 t75:=Tryz.underlying180
 a75:=Tryz.isAgg180
 z75:=Tryz.sizeOf180
 v75:=Tryz.zeroValue180
 t76:=Tryz.underlying181
 a76:=Tryz.isAgg181
 z76:=Tryz.sizeOf181
 v76:=Tryz.zeroValue181
 t85:=Tryz.underlying312
 a85:=Tryz.isAgg312
 z85:=Tryz.sizeOf312
 v85:=Tryz.zeroValue312
 t127:=Tryz.underlying209
 a127:=Tryz.isAgg209
 z127:=Tryz.sizeOf209
 v127:=Tryz.zeroValue209
 t143:=Tryz.underlying334
 a143:=Tryz.isAgg334
 z143:=Tryz.sizeOf334
 v143:=Tryz.zeroValue334
 t145:=Tryz.underlying336
 a145:=Tryz.isAgg336
 z145:=Tryz.sizeOf336
 v145:=Tryz.zeroValue336
 t167:=Tryz.underlying311
 a167:=Tryz.isAgg311
 z167:=Tryz.sizeOf311
 v167:=Tryz.zeroValue311
 t168:=Tryz.underlying314
 a168:=Tryz.isAgg314
 z168:=Tryz.sizeOf314
 v168:=Tryz.zeroValue314
 t171:=Tryz.underlying257
 a171:=Tryz.isAgg257
 z171:=Tryz.sizeOf257
 v171:=Tryz.zeroValue257
 t173:=Tryz.underlying261
 a173:=Tryz.isAgg261
 z173:=Tryz.sizeOf261
 v173:=Tryz.zeroValue261
 t175:=Tryz.underlying324
 a175:=Tryz.isAgg324
 z175:=Tryz.sizeOf324
 v175:=Tryz.zeroValue324
 t210:=Tryz.underlying327
 a210:=Tryz.isAgg327
 z210:=Tryz.sizeOf327
 v210:=Tryz.zeroValue327
 t212:=Tryz.underlying277
 a212:=Tryz.isAgg277
 z212:=Tryz.sizeOf277
 v212:=Tryz.zeroValue277
 t213:=Tryz.underlying279
 a213:=Tryz.isAgg279
 z213:=Tryz.sizeOf279
 t232:=Tryz.underlying304
 a232:=Tryz.isAgg304
 z232:=Tryz.sizeOf304
 v232:=Tryz.zeroValue304
 t233:=Tryz.underlying305
 a233:=Tryz.isAgg305
 z233:=Tryz.sizeOf305
 v233:=Tryz.zeroValue305
 g15:=by kernel_rfl
 g16:=by kernel_rfl
 g17:=by kernel_rfl
 g18:=by kernel_rfl
 g19:=by kernel_rfl
 t80:=Tryz.underlying52
 a80:=Tryz.isAgg52
 z80:=Tryz.sizeOf52
 v80:=Tryz.zeroValue52
 i0:=by kernel_rfl
 i2:=by kernel_rfl
 i3:=by kernel_rfl
 i4:=by kernel_rfl
 i5:=by kernel_rfl
 i9:=by kernel_rfl
 i20:=by kernel_rfl
 i21:=by kernel_rfl
 i37:=by kernel_rfl
 i46:=by kernel_rfl
 i51:=by kernel_rfl
 i53:=by kernel_rfl
 i75:=by kernel_rfl
 i76:=by kernel_rfl
 i80:=by kernel_rfl
 i85:=by kernel_rfl
 i127:=by kernel_rfl
 i143:=by kernel_rfl
 i145:=by kernel_rfl
 i167:=by kernel_rfl
 i168:=by kernel_rfl
 i171:=by kernel_rfl
 i173:=by kernel_rfl
 i175:=by kernel_rfl
 i210:=by kernel_rfl
 i212:=by kernel_rfl
 i232:=by kernel_rfl
 i233:=by kernel_rfl
 m15:=by kernel_rfl
 m16:=by kernel_rfl
 m17:=by kernel_rfl
 m18:=by kernel_rfl
 m19:=by kernel_rfl
 c0:=by kernel_rfl
 c2:=by kernel_rfl
 c3:=by kernel_rfl
 c4:=by kernel_rfl
 c5:=by kernel_rfl
 c9:=by kernel_rfl
 c20:=by kernel_rfl
 c21:=by kernel_rfl
 c37:=by kernel_rfl
 c46:=by kernel_rfl
 c51:=by kernel_rfl
 c53:=by kernel_rfl
 c75:=by kernel_rfl
 c76:=by kernel_rfl
 c80:=by kernel_rfl
 c85:=by kernel_rfl
 c127:=by kernel_rfl
 c143:=by kernel_rfl
 c145:=by kernel_rfl
 c167:=by kernel_rfl
 c168:=by kernel_rfl
 c171:=by kernel_rfl
 c173:=by kernel_rfl
 c175:=by kernel_rfl
 c210:=by kernel_rfl
 c212:=by kernel_rfl
 c213:=by kernel_rfl
 c232:=by kernel_rfl
 c233:=by kernel_rfl }
end Go.Proofs
namespace Tr
structure Tok where
 k:Nat
 of:Nat
 frm:Nat
 to:Nat
 n:Int
 t:List UInt8
structure Sn where
 st:Nat
 at':Nat
 op:List Nat
 tk:Tok
 tx:List UInt8
 rs:List UInt8
 sz:Nat
 sg:Int
structure Sx where
 z:Sn
 ts:List Tok
def Sn.to (z:Sn) (s:Nat):Sx:=⟨{ z with st:=s },[]⟩
def inThing (op:List Nat):Bool:=op.getLast? == some 6
def mayF (op:List Nat) (b:Nat):Bool:=isBl b || (!op.isEmpty && (if inThing op then (b == 44 || b == 125) else (b == 44 || b == 93)))
def sShut (z:Sn):Sx:=⟨{ z with st:=5,op:=z.op.dropLast },[⟨1,0,0,z.at'+1,0,[]⟩]⟩
def sBehind (z:Sn) (b:Nat):Sx :=
 if mayF z.op b=false then z.to 12 else if isBl b=true then z.to 5 else if b≠44 then sShut z else if inThing z.op=true then z.to 3 else z.to 0
def sAdd (z:Sn) (b:Nat):Sx:=⟨{ z with st:=6,tx:=z.tx++[UInt8.ofNat b] },[]⟩
def sEndP (z:Sn):Sx:=⟨{ z with st:=5,tk:={ z.tk with to:=z.at'+1 } },[{ z.tk with to:=z.at'+1 }]⟩
def sEndS (z:Sn):Sx :=
 if z.tk.k=3 then sEndP { z with tk:={ z.tk with t:=z.tx },tx:=[] } else ⟨{ z with st:=4,tk:={ z.tk with t:=z.tx },tx:=[] },[{ z.tk with t:=z.tx }]⟩
def sStr (z:Sn) (b:Nat):Sx:=if b<32∨126<b then z.to 12 else if b=92 then z.to 7 else if b=34 then sEndS z else sAdd z b
def sEsc (z:Sn) (b:Nat):Sx:=if b≠34∧b≠92 then z.to 12 else sAdd z b
def sDig (z:Sn) (b:Nat):Sx:=⟨{ z with st:=9,tk:={ z.tk with n:=z.tk.n * 10+((b - 48:Nat):Int) },sz:=if z.tk.n * 10+((b - 48:Nat):Int)=0 then 9 else z.sz+1 },[]⟩
def sNumT (z:Sn):Tok:={ z.tk with n:=z.tk.n * z.sg,to:=z.at' }
def sNum (z:Sn) (b:Nat):Sx :=
 if z.st=8∧¬(49≤b∧b≤57) then z.to 12
 else if isDig b=true∧z.sz<9 then sDig z b
 else if mayF z.op b=false then z.to 12
 else ⟨(sBehind z b).z,sNumT z::(sBehind z b).ts⟩
def sWord (z:Sn) (b:Nat):Sx :=
 if b≠bt z.rs 0 then z.to 12 else if z.rs.tail=[] then sEndP { z with rs:=z.rs.tail } else ⟨{ z with st:=10,rs:=z.rs.tail },[]⟩
def sLot (z:Sn) (kind behind:Nat):Sx:=if z.op.length=8 then z.to 11 else ⟨{ z with st:=behind,op:=z.op++[kind] },[⟨0,kind,z.at',0,0,[]⟩]⟩
def sBStr (z:Sn) (kind:Nat):Sx:=⟨{ z with st:=6,tk:=⟨kind,4,z.at',0,0,[]⟩ },[]⟩
def sBWord (z:Sn) (of:Nat) (rest:List UInt8):Sx:=⟨{ z with st:=10,tk:=⟨3,of,z.at',0,0,[]⟩,rs:=rest },[]⟩
def sBNum (z:Sn) (b:Nat):Sx :=
 if b=45 then ⟨{ z with st:=8,tk:=⟨3,3,z.at',0,0,[]⟩,sz:=0,sg:=-1 },[]⟩
 else if isDig b=true then sDig { z with tk:=⟨3,3,z.at',0,0,[]⟩,sz:=0,sg:=1 } b
 else ⟨{ z with st:=12,tk:=⟨3,3,z.at',0,0,[]⟩,sz:=0,sg:=1 },[]⟩
def sBegin (z:Sn) (b:Nat):Sx :=
 if b=91 then sLot z 5 1 else if b=123 then sLot z 6 2 else if b=34 then sBStr z 3
 else if b=116 then sBWord z 2 [114,117,101] else if b=102 then sBWord z 1 [97,108,115,101] else if b=110 then sBWord z 0 [117,108,108] else sBNum z b
def sBetw (z:Sn) (b:Nat):Sx :=
 if z.st=5 then sBehind z b
 else if z.st=4∧b=58 then z.to 0
 else if (z.st=1∧b=93)∨(z.st=2∧b=125) then sShut z
 else if z.st=1∨z.st=0 then sBegin z b
 else if z.st≠4∧b=34 then sBStr z 2
 else z.to 12
def sNext (z:Sn) (b:Nat):Sx :=
 if z.st=6 then sStr z b else if z.st=7 then sEsc z b else if z.st=8∨z.st=9 then sNum z b else if z.st=10 then sWord z b
 else if isBl b=true then z.to z.st else sBetw z b
def sInit:Sn:=⟨0,0,[],⟨0,0,0,0,0,[]⟩,[],[],0,0⟩
structure Sf where
 z:Sn
 e:Nat
 ts:List Tok
def sRun:Sn→List UInt8→Sf
 | z,[]=>⟨z,0,[]⟩
 | z,b::l =>
  if (sNext z b.toNat).z.st=12 then ⟨(sNext z b.toNat).z,2,(sNext z b.toNat).ts⟩
  else if (sNext z b.toNat).z.st=11 then ⟨(sNext z b.toNat).z,3,(sNext z b.toNat).ts⟩
  else ⟨(sRun { (sNext z b.toNat).z with at':=(sNext z b.toNat).z.at'+1 } l).z,(sRun { (sNext z b.toNat).z with at':=(sNext z b.toNat).z.at'+1 } l).e,(sNext z b.toNat).ts++(sRun { (sNext z b.toNat).z with at':=(sNext z b.toNat).z.at'+1 } l).ts⟩
def sWhole (z:Sn):Bool:=(z.st == 5 || z.st == 9) && z.op.isEmpty
def sEnd (z:Sn):List Tok:=if z.st=9 then [sNumT z] else []
structure SOk (z:Sn):Prop where
 op:z.op.length≤8∧∀k ∈ z.op,k=5∨k=6
 ne:z.st=1∨z.st=2∨z.st=3∨z.st=4→z.op≠[]
 tk:z.tk.k≤3∧z.tk.of≤6
 st:z.st=6∨z.st=7→z.tk.k=2∨z.tk.k=3
 w:z.st=10→z.rs≠[]∧z.rs.length≤4∧z.tk.k=3
 n:z.st=8∨z.st=9→z.sz≤9∧0≤z.tk.n∧z.tk.n<((10 ^ z.sz:Nat):Int)∧(z.sg=1∨z.sg=-1)∧z.tk.k=3
 m:z.st=8→z.sz=0∧z.tk.n=0
 x:z.st≠6∧z.st≠7→z.tx=[]
end Tr
namespace Tr
structure Sh where
 op:List Nat
 bd:Nat
def shTake (s:Sh) (t:Tok):Sh :=
 if t.k=0 then ⟨s.op++[t.of],t.frm+1⟩ else if t.k=1 then ⟨s.op.dropLast,s.bd⟩ else if t.k=2 then s else ⟨s.op,t.frm+1⟩
def shRun (s:Sh) (ts:List Tok):Sh:=ts.foldl shTake s
structure TokOk (s:Sh) (t:Tok):Prop where
 k:t.k≤3
 of:t.of≤6
 frm:t.frm<4000000
 to:t.to≤4000000
 n:-1000000000<t.n∧t.n<1000000000
 k0:t.k=0→(t.of=5∨t.of=6)∧s.op.length<8∧t.n=0∧t.t=[]∧s.bd≤t.frm
 k1:t.k=1→s.op≠[]
 k3:t.k=3→t.of≤4∧s.op.length≤8∧(t.of≠4→t.t=[])∧(t.of≠3→t.n=0)∧s.bd≤t.frm
def OkL:Sh→List Tok→Prop
 | _,[]=>True
 | s,t::r=>TokOk s t∧OkL (shTake s t) r
theorem OkL.app:∀{a b:List Tok} {s:Sh},OkL s a→OkL (shRun s a) b→OkL s (a++b)
 | [],_,_,_,h=>h
 | _::_,_,_,h,k=>⟨h.1,OkL.app h.2 k⟩
theorem shRun_app (s:Sh) (a b:List Tok):shRun s (a++b)=shRun (shRun s a) b:=by simp [shRun]
structure Lk (z:Sn) (s:Sh):Prop where
 op:s.op=z.op
 bd:s.bd≤z.at'
 tk:6≤z.st∧z.st≤10→s.bd≤z.tk.frm∧z.tk.frm<z.at'∧z.tk.frm<4000000∧z.tk.to=0
 sS:z.st=6∨z.st=7→z.tk.n=0∧z.tk.of=4∧(z.tk.k=2→z.op≠[])
 sN:z.st=8∨z.st=9→z.tk.of=3∧z.tk.t=[]
 sW:z.st=10→z.tk.of≤2∧z.tk.t=[]∧z.tk.n=0
structure Stp (z:Sn) (s:Sh) (x:Sx):Prop where
 st:x.z.st≤12
 at':x.z.at'=z.at'
 tx:x.z.tx.length≤z.tx.length+1
 no:11≤x.z.st→x.ts=[]
 ok:x.z.st≤10→SOk x.z
 tok:OkL s x.ts
 lk:x.z.st≤10→Lk { x.z with at':=x.z.at'+1 } (shRun s x.ts)
theorem stp_wrong {z z':Sn} {s:Sh} {c:Nat} (h1:z'.at'=z.at') (h2:z'.tx=z.tx) (hc:11≤c∧c≤12):Stp z s ⟨{ z' with st:=c },[]⟩ where
 st:=hc.2
 at':=h1
 tx:=by simp [h2]
 no:=fun _=>rfl
 ok:=fun h=>absurd h (by simp; omega)
 tok:=trivial
 lk:=fun h=>absurd h (by simp; omega)
theorem stp_to {z:Sn} {s:Sh} {c:Nat} (hok:SOk z) (hlk:Lk z s) (htx:z.tx=[]) (hc:c=0∨c=5∨((c=1∨c=2∨c=3∨c=4)∧z.op≠[])):Stp z s (z.to c) where
 st:=by simp [Sn.to]; omega
 at':=rfl
 tx:=by simp [Sn.to]
 no:=fun _=>rfl
 ok:=fun _=>by
  refine ⟨hok.op,?_,hok.tk,?_,?_,?_,?_,?_⟩<;>simp only [Sn.to]<;>intro h
  ·rcases hc with h' | h' | h'
   ·omega
   ·omega
   exact h'.2
  all_goals first | exact htx | (exfalso; omega)
 tok:=trivial
 lk:=fun _=>by
  refine ⟨hlk.op,?_,?_,?_,?_,?_⟩<;>simp only [Sn.to,shRun,List.foldl]
  ·have:=hlk.bd; omega
  all_goals intro h; exfalso; omega
theorem stp_shut {z:Sn} {s:Sh} (hok:SOk z) (hlk:Lk z s) (htx:z.tx=[]) (hne:z.op≠[]) (hat:z.at'<4000000):Stp z s (sShut z) where
 st:=by simp [sShut]
 at':=rfl
 tx:=by simp [sShut]
 no:=fun h=>by simp [sShut] at h
 ok:=fun _=>by
  refine ⟨⟨?_,?_⟩,?_,hok.tk,?_,?_,?_,?_,?_⟩<;>simp only [sShut]
  ·have:=hok.op.1; simp; omega
  ·exact fun k hk=>hok.op.2 k (List.dropLast_subset _ hk)
  all_goals intro h; first | exact htx | (exfalso; omega)
 tok:=by
  refine ⟨⟨by simp,by simp,by simp,by simp; omega,by simp,by simp,fun _=>by rw [hlk.op]; exact hne,by simp⟩,trivial⟩
 lk:=fun _=>by
  have e:shRun s (sShut z).ts=⟨s.op.dropLast,s.bd⟩:=by simp [sShut,shRun,shTake]
  rw [e]
  refine ⟨by simp [sShut,hlk.op],?_,?_,?_,?_,?_⟩<;>simp only [sShut]
  ·have:=hlk.bd; omega
  all_goals intro h; exfalso; omega
theorem mayF_ne {op:List Nat} {b:Nat} (h:mayF op b=true) (hb:isBl b=false):op≠[]:=by
 intro e; simp [mayF,hb,e] at h
theorem stp_behind {z:Sn} {s:Sh} (hok:SOk z) (hlk:Lk z s) (htx:z.tx=[]) (hat:z.at'<4000000) (b:Nat):Stp z s (sBehind z b):=by
 unfold sBehind
 by_cases h1:mayF z.op b=false
 ·rw [if_pos h1]; exact stp_wrong rfl rfl (by omega)
 rw [if_neg h1]
 have h1:mayF z.op b=true:=by simpa using h1
 by_cases h2:isBl b=true
 ·rw [if_pos h2]; exact stp_to hok hlk htx (by omega)
 rw [if_neg h2]
 have hne:=mayF_ne h1 (by simpa using h2)
 by_cases h3:b≠44
 ·rw [if_pos h3]; exact stp_shut hok hlk htx hne hat
 rw [if_neg h3]
 by_cases h4:inThing z.op=true
 ·rw [if_pos h4]; exact stp_to hok hlk htx (Or.inr (Or.inr ⟨by omega,hne⟩))
 rw [if_neg h4]; exact stp_to hok hlk htx (by omega)
theorem stp_add {z:Sn} {s:Sh} (hok:SOk z) (hlk:Lk z s) (hst:z.st=6∨z.st=7) (b:Nat):Stp z s (sAdd z b) where
 st:=by simp [sAdd]
 at':=rfl
 tx:=by simp [sAdd]
 no:=fun h=>by simp [sAdd] at h
 ok:=fun _=>by
  refine ⟨hok.op,?_,hok.tk,fun _=>hok.st hst,?_,?_,?_,?_⟩<;>simp only [sAdd]<;>intro h<;>exfalso<;>omega
 tok:=trivial
 lk:=fun _=>by
  have h:=hlk.tk (by omega)
  refine ⟨hlk.op,?_,?_,fun _=>hlk.sS hst,?_,?_⟩<;>simp only [sAdd,shRun,List.foldl]
  ·have:=hlk.bd; omega
  ·intro _; exact ⟨h.1,by omega,h.2.2⟩
  all_goals intro h; exfalso; omega
theorem stp_bs {z:Sn} {s:Sh} (hok:SOk z) (hlk:Lk z s) (hst:z.st=6):Stp z s (z.to 7) where
 st:=by simp [Sn.to]
 at':=rfl
 tx:=by simp [Sn.to]
 no:=fun h=>by simp [Sn.to] at h
 ok:=fun _=>by
  refine ⟨hok.op,?_,hok.tk,fun _=>hok.st (Or.inl hst),?_,?_,?_,?_⟩<;>simp only [Sn.to]<;>intro h<;>exfalso<;>omega
 tok:=trivial
 lk:=fun _=>by
  have h:=hlk.tk (by omega)
  refine ⟨hlk.op,?_,?_,fun _=>hlk.sS (Or.inl hst),?_,?_⟩<;>simp only [Sn.to,shRun,List.foldl]
  ·have:=hlk.bd; omega
  ·intro _; exact ⟨h.1,by omega,h.2.2⟩
  all_goals intro h; exfalso; omega
theorem stp_plain {z z':Sn} {s:Sh} {t:Tok} {at0:Nat} (h1:z'.st=5) (hop:z'.op=z.op) (hok8:z.op.length≤8∧∀k ∈ z.op,k=5∨k=6) (hsop:s.op=z.op) (htk:z'.tk.k≤3∧z'.tk.of≤6) (htx:z'.tx=[]) (ha:z'.at'=z.at') (ht:TokOk s t) (hk:t.k=3) (hf:t.frm<at0) (ha0:at0≤z.at'+1):Stp z s ⟨z',[t]⟩ where
 st:=by show z'.st≤12; omega
 at':=ha
 tx:=by simp [htx]
 no:=fun h=>by have:11≤z'.st:=h; omega
 ok:=fun _=>by
  refine ⟨by rw [hop]; exact hok8,?_,htk,?_,?_,?_,?_,fun _=>htx⟩<;>intro h<;>exfalso<;>revert h<;>show _→False<;>rw [show (Sx.mk z' [t]).z=z' from rfl]<;>omega
 tok:=⟨ht,trivial⟩
 lk:=fun _=>by
  have e:shRun s [t]=⟨s.op,t.frm+1⟩:=by simp [shRun,shTake,hk]
  show Lk _ (shRun s [t])
  rw [e]
  refine ⟨by simp [hop,hsop],by simp; omega,?_,?_,?_,?_⟩<;>intro h<;>exfalso<;>revert h<;>simp only [h1]<;>omega
theorem stp_endP {z:Sn} {s:Sh} (hok:SOk z) (hlk:Lk z s) (hst:6≤z.st∧z.st≤10) (h4:z.tk.of≤4) (ht:z.tk.of≠4→z.tk.t=[]) (hn:z.tk.n=0) (hat:z.at'<4000000) {z2:Sn} (e1:z2.op=z.op) (e2:z2.at'=z.at') (e3:z2.tk.k=3) (e4:z2.tk.of=z.tk.of) (e5:z2.tk.frm=z.tk.frm) (e6:z2.tk.n=z.tk.n) (e7:z.tk.of≠4→z2.tk.t=z.tk.t) (e8:z2.tx=[]):Stp z s (sEndP z2):=by
 have h:=hlk.tk hst
 refine stp_plain (at0:=z.at') rfl e1 hok.op hlk.op ⟨by simp [e3],by simp [e4]; omega⟩ e8 e2 ?_ e3 (by show z2.tk.frm<z.at'; omega) (by omega)
 have h8:=hok.op.1
 refine ⟨by simp [e3],by simp [e4]; omega,?_,?_,?_,?_,?_,?_⟩<;>simp only [e2,e3,e4,e5,e6]
 ·omega
 ·omega
 ·rw [hn]; omega
 ·omega
 ·omega
 intro _
 exact ⟨h4,by rw [hlk.op]; exact h8,fun x=>(e7 x).trans (ht x),fun _=>hn,h.1⟩
theorem stp_endS {z:Sn} {s:Sh} (hok:SOk z) (hlk:Lk z s) (hst:z.st=6) (hat:z.at'<4000000):Stp z s (sEndS z):=by
 have hS:=hlk.sS (Or.inl hst)
 have h:=hlk.tk (by omega)
 unfold sEndS
 by_cases hk:z.tk.k=3
 ·rw [if_pos hk]
  exact stp_endP hok hlk (by omega) (by omega) (fun x=>absurd hS.2.1 x) hS.1 hat rfl rfl hk rfl rfl rfl (fun x=>absurd hS.2.1 x) rfl
 rw [if_neg hk]
 have hk2:z.tk.k=2:=by exact (hok.st (Or.inl hst)).resolve_right hk
 refine ⟨by simp,rfl,by simp,fun h=>by simp at h,fun _=>?_,?_,fun _=>?_⟩
 ·refine ⟨hok.op,?_,hok.tk,?_,?_,?_,?_,fun _=>rfl⟩<;>simp only<;>intro h
  ·exact hS.2.2 hk2
  all_goals exfalso; omega
 ·refine ⟨⟨hok.tk.1,hok.tk.2,?_,?_,?_,?_,?_,?_⟩,trivial⟩<;>simp only [hk2,hS.1]<;>omega
 have e:shRun s [{ z.tk with t:=z.tx }]=s:=by simp [shRun,shTake,hk2]
 simp only
 rw [e]
 refine ⟨hlk.op,by have:=hlk.bd; simp; omega,?_,?_,?_,?_⟩<;>simp only<;>intro h<;>exfalso<;>omega
theorem stp_str {z:Sn} {s:Sh} (hok:SOk z) (hlk:Lk z s) (hst:z.st=6) (hat:z.at'<4000000) (b:Nat):Stp z s (sStr z b):=by
 unfold sStr
 split
 ·exact stp_wrong rfl rfl (by omega)
 split
 ·exact stp_bs hok hlk hst
 split
 ·exact stp_endS hok hlk hst hat
 exact stp_add hok hlk (Or.inl hst) b
theorem stp_esc {z:Sn} {s:Sh} (hok:SOk z) (hlk:Lk z s) (hst:z.st=7) (b:Nat):Stp z s (sEsc z b):=by
 unfold sEsc
 split
 ·exact stp_wrong rfl rfl (by omega)
 exact stp_add hok hlk (Or.inr hst) b
theorem stp_dig {z0 z:Sn} {s:Sh} {b:Nat} (h0:z.at'=z0.at') (htx0:z.tx=z0.tx) (hop:z.op.length≤8∧∀k ∈ z.op,k=5∨k=6) (hk:z.tk.k=3∧z.tk.of=3∧z.tk.t=[]∧z.tk.to=0) (htx:z.tx=[]) (hn:z.sz<9∧0≤z.tk.n∧z.tk.n<((10 ^ z.sz:Nat):Int)∧(z.sg=1∨z.sg=-1)) (hb:isDig b=true)
 (hs:s.op=z.op) (hbd:s.bd≤z.tk.frm∧z.tk.frm≤z.at'∧z.tk.frm<4000000):Stp z0 s (sDig z b):=by
 have hd:b - 48≤9:=by simp [isDig] at hb; omega
 have hm:z.tk.n * 10+((b - 48:Nat):Int)<((10 ^ (z.sz+1):Nat):Int):=by
  rw [Nat.pow_succ]; push_cast; have:=hn.2.2.1; push_cast at this; omega
 refine ⟨by simp [sDig],h0,by simp [sDig,htx0],fun h=>by simp [sDig] at h,fun _=>?_,trivial,fun _=>?_⟩
 ·refine ⟨hop,?_,by simp only [sDig]; omega,?_,?_,?_,?_,fun _=>htx⟩<;>simp only [sDig]<;>intro h
  ·exfalso; omega
  ·exfalso; omega
  ·exfalso; omega
  ·by_cases h9:z.tk.n * 10+((b - 48:Nat):Int)=0
   ·rw [if_pos h9,h9]; exact ⟨by omega,by omega,by decide,hn.2.2.2,hk.1⟩
   rw [if_neg h9]; exact ⟨by omega,by omega,hm,hn.2.2.2,hk.1⟩
  exfalso; omega
 refine ⟨hs,by simp only [sDig,shRun,List.foldl]; omega,fun _=>?_,?_,fun _=>⟨hk.2.1,hk.2.2.1⟩,?_⟩<;>simp only [sDig,shRun,List.foldl]
 ·omega
 ·intro h; exfalso; omega
 intro h; exfalso; omega
theorem pow_le9 {k:Nat} (h:k≤9):((10 ^ k:Nat):Int)≤1000000000:=by
 have:10 ^ k≤10 ^ 9:=Nat.pow_le_pow_right (by omega) h
 have e:(10:Nat) ^ 9=1000000000:=by decide
 omega
theorem tokNum {z:Sn} {s:Sh} (hok:SOk z) (hlk:Lk z s) (hst:z.st=8∨z.st=9) (hat:z.at'≤4000000):TokOk s (sNumT z):=by
 have hN:=hlk.sN hst
 have hn:=hok.n hst
 have ht:=hlk.tk (by omega)
 have h8:=hok.op.1
 have hp:=pow_le9 hn.1
 have hab:-1000000000<z.tk.n * z.sg∧z.tk.n * z.sg<1000000000:=by
  rcases hn.2.2.2.1 with e | e<;>rw [e]<;>omega
 refine ⟨by simp [sNumT,hn.2.2.2.2],by simp [sNumT,hN.1],by simp only [sNumT]; omega,by simp only [sNumT]; omega,hab,?_,?_,?_⟩<;>simp only [sNumT,hn.2.2.2.2]
 ·omega
 ·omega
 intro _; exact ⟨by omega,by rw [hlk.op]; exact h8,fun _=>hN.2,fun x=>absurd hN.1 x,ht.1⟩
theorem stp_num {z:Sn} {s:Sh} (hok:SOk z) (hlk:Lk z s) (hst:z.st=8∨z.st=9) (hat:z.at'<4000000) (b:Nat):Stp z s (sNum z b):=by
 have htx:z.tx=[]:=hok.x (by omega)
 have hN:=hlk.sN hst
 have hn:=hok.n hst
 have ht:=hlk.tk (by omega)
 unfold sNum
 by_cases h1:z.st=8∧¬(49≤b∧b≤57)
 ·rw [if_pos h1]; exact stp_wrong rfl rfl (by omega)
 rw [if_neg h1]
 by_cases h2:isDig b=true∧z.sz<9
 ·rw [if_pos h2]
  exact stp_dig rfl rfl hok.op ⟨hn.2.2.2.2,hN.1,hN.2,ht.2.2.2⟩ htx ⟨h2.2,hn.2.1,hn.2.2.1,hn.2.2.2.1⟩ h2.1 hlk.op ⟨ht.1,by omega,ht.2.2.1⟩
 rw [if_neg h2]
 by_cases h3:mayF z.op b=false
 ·rw [if_pos h3]; exact stp_wrong rfl rfl (by omega)
 rw [if_neg h3]
 have hT:=tokNum hok hlk hst (by omega)
 have hk3:(sNumT z).k=3:=hn.2.2.2.2
 have e:shTake s (sNumT z)=⟨s.op,z.tk.frm+1⟩:=by simp [shTake,hk3]; rfl
 have L2:Lk { z with st:=5 } ⟨s.op,z.tk.frm+1⟩:=by
  refine ⟨hlk.op,by simp; omega,?_,?_,?_,?_⟩<;>simp only<;>intro h<;>exfalso<;>omega
 have O2:SOk { z with st:=5 }:=by
  refine ⟨hok.op,?_,hok.tk,?_,?_,?_,?_,fun _=>htx⟩<;>simp only<;>intro h<;>exfalso<;>omega
 have B:=stp_behind O2 L2 htx hat b
 have eB:sBehind { z with st:=5 } b=sBehind z b:=rfl
 rw [eB] at B
 have hno:(sBehind z b).z.st≤10:=by
  unfold sBehind
  rw [if_neg h3]
  split
  ·simp [Sn.to]
  split
  ·simp [sShut]
  split<;>simp [Sn.to]
 refine ⟨B.st,B.at',B.tx,fun h=>?_,B.ok,⟨hT,by rw [e]; exact B.tok⟩,fun h=>?_⟩
 ·have:11≤(sBehind z b).z.st:=h
  omega
 have:=B.lk h
 have e2:shRun s (sNumT z::(sBehind z b).ts)=shRun ⟨s.op,z.tk.frm+1⟩ (sBehind z b).ts:=by simp only [shRun,List.foldl,e]
 show Lk _ (shRun s (sNumT z::(sBehind z b).ts))
 rw [e2]; exact this
theorem stp_word {z:Sn} {s:Sh} (hok:SOk z) (hlk:Lk z s) (hst:z.st=10) (hat:z.at'<4000000) (b:Nat):Stp z s (sWord z b):=by
 have htx:z.tx=[]:=hok.x (by omega)
 have hW:=hlk.sW hst
 have hw:=hok.w hst
 have ht:=hlk.tk (by omega)
 unfold sWord
 by_cases h1:b≠bt z.rs 0
 ·rw [if_pos h1]; exact stp_wrong rfl rfl (by omega)
 rw [if_neg h1]
 by_cases h2:z.rs.tail=[]
 ·rw [if_pos h2]
  exact stp_endP hok hlk (by omega) (by omega) (fun _=>hW.2.1) hW.2.2 hat rfl rfl hw.2.2 rfl rfl rfl (fun _=>rfl) htx
 rw [if_neg h2]
 refine ⟨by simp,rfl,by simp,fun h=>by simp at h,fun _=>?_,trivial,fun _=>?_⟩
 ·refine ⟨hok.op,?_,hok.tk,?_,?_,?_,?_,fun _=>htx⟩<;>simp only<;>intro h
  ·exfalso; omega
  ·exfalso; omega
  ·exact ⟨h2,by have:=hw.2.1; simp; omega,hw.2.2⟩
  ·exfalso; omega
  exfalso; omega
 refine ⟨hlk.op,by have:=hlk.bd; simp [shRun]; omega,fun _=>?_,?_,?_,fun _=>hW⟩<;>simp only [shRun,List.foldl]
 ·exact ⟨ht.1,by omega,ht.2.2⟩
 ·intro h; exfalso; omega
 intro h; exfalso; omega
theorem stp_lot {z:Sn} {s:Sh} (hok:SOk z) (hlk:Lk z s) (htx:z.tx=[]) (hat:z.at'<4000000) (k c:Nat) (hk:k=5∨k=6) (hc:c=1∨c=2):Stp z s (sLot z k c):=by
 unfold sLot
 by_cases h8:z.op.length=8
 ·rw [if_pos h8]; exact stp_wrong rfl rfl (by omega)
 rw [if_neg h8]
 have h8':=hok.op.1
 have hbd:=hlk.bd
 refine ⟨by simp; omega,rfl,by simp,fun h=>by simp at h; omega,fun _=>?_,?_,fun _=>?_⟩
 ·refine ⟨⟨by simp; omega,?_⟩,?_,hok.tk,?_,?_,?_,?_,fun _=>htx⟩<;>simp only
  ·intro j hj
   rcases List.mem_append.1 hj with x | x
   ·exact hok.op.2 j x
   rw [List.mem_singleton.1 x]; exact hk
  ·intro _ e; simp at e
  all_goals intro h; exfalso; omega
 ·refine ⟨⟨by simp,by simp; omega,by simp; omega,by simp,by simp,fun _=>⟨hk,by rw [hlk.op]; omega,rfl,rfl,hbd⟩,by simp,by simp⟩,trivial⟩
 have e:shRun s [⟨0,k,z.at',0,0,[]⟩]=⟨s.op++[k],z.at'+1⟩:=by simp [shRun,shTake]
 show Lk _ (shRun s [⟨0,k,z.at',0,0,[]⟩])
 rw [e]
 refine ⟨by simp [hlk.op],by simp,?_,?_,?_,?_⟩<;>simp only<;>intro h<;>exfalso<;>omega
theorem stp_bstr {z:Sn} {s:Sh} (hok:SOk z) (hlk:Lk z s) (htx:z.tx=[]) (hat:z.at'<4000000) (k:Nat) (hk:k=3∨k=2∧z.op≠[]):Stp z s (sBStr z k):=by
 have hbd:=hlk.bd
 refine ⟨by simp [sBStr],rfl,by simp [sBStr],fun h=>by simp [sBStr] at h,fun _=>?_,trivial,fun _=>?_⟩
 ·refine ⟨hok.op,?_,by simp only [sBStr]; omega,fun _=>by simp only [sBStr]; omega,?_,?_,?_,fun _=>htx⟩<;>simp only [sBStr]<;>intro h<;>exfalso<;>omega
 refine ⟨hlk.op,by simp only [sBStr,shRun,List.foldl]; omega,fun _=>⟨hbd,Nat.lt_succ_self _,hat,rfl⟩,fun _=>⟨rfl,rfl,?_⟩,?_,?_⟩<;>simp only [sBStr]<;>intro h
 ·rcases hk with x | x
  ·omega
  exact x.2
 ·exfalso; omega
 exfalso; omega
theorem stp_bword {z:Sn} {s:Sh} (hok:SOk z) (hlk:Lk z s) (htx:z.tx=[]) (hat:z.at'<4000000) (k:Nat) (hk:k≤2) (l:List UInt8) (hl:l≠[]∧l.length≤4):Stp z s (sBWord z k l):=by
 have hbd:=hlk.bd
 refine ⟨by simp [sBWord],rfl,by simp [sBWord],fun h=>by simp [sBWord] at h,fun _=>?_,trivial,fun _=>?_⟩
 ·refine ⟨hok.op,?_,by simp only [sBWord]; omega,?_,fun _=>⟨hl.1,hl.2,rfl⟩,?_,?_,fun _=>htx⟩<;>simp only [sBWord]<;>intro h<;>exfalso<;>omega
 refine ⟨hlk.op,by simp only [sBWord,shRun,List.foldl]; omega,fun _=>⟨hbd,Nat.lt_succ_self _,hat,rfl⟩,?_,?_,fun _=>⟨hk,rfl,rfl⟩⟩<;>simp only [sBWord]<;>intro h<;>exfalso<;>omega
theorem stp_bnum {z:Sn} {s:Sh} (hok:SOk z) (hlk:Lk z s) (htx:z.tx=[]) (hat:z.at'<4000000) (b:Nat):Stp z s (sBNum z b):=by
 have hbd:=hlk.bd
 unfold sBNum
 by_cases h1:b=45
 ·rw [if_pos h1]
  refine ⟨by simp,rfl,by simp,fun h=>by simp at h,fun _=>?_,trivial,fun _=>?_⟩
  ·refine ⟨hok.op,?_,by simp only; omega,?_,?_,fun _=>⟨by simp,by simp,by simp,by simp,rfl⟩,fun _=>⟨rfl,rfl⟩,fun _=>htx⟩<;>simp only<;>intro h<;>exfalso<;>omega
  refine ⟨hlk.op,by simp only [shRun,List.foldl]; omega,fun _=>⟨hbd,Nat.lt_succ_self _,hat,rfl⟩,?_,fun _=>⟨rfl,rfl⟩,?_⟩<;>simp only<;>intro h<;>exfalso<;>omega
 rw [if_neg h1]
 by_cases h2:isDig b=true
 ·rw [if_pos h2]
  exact stp_dig rfl rfl hok.op ⟨rfl,rfl,rfl,rfl⟩ htx ⟨by simp,by simp,by simp,by simp⟩ h2 hlk.op ⟨hbd,Nat.le_refl _,hat⟩
 rw [if_neg h2]
 exact stp_wrong (z':={ z with tk:=⟨3,3,z.at',0,0,[]⟩,sz:=0,sg:=1 }) rfl rfl (by omega)
theorem stp_begin {z:Sn} {s:Sh} (hok:SOk z) (hlk:Lk z s) (htx:z.tx=[]) (hat:z.at'<4000000) (b:Nat):Stp z s (sBegin z b):=by
 unfold sBegin
 split
 ·exact stp_lot hok hlk htx hat 5 1 (Or.inl rfl) (Or.inl rfl)
 split
 ·exact stp_lot hok hlk htx hat 6 2 (Or.inr rfl) (Or.inr rfl)
 split
 ·exact stp_bstr hok hlk htx hat 3 (Or.inl rfl)
 split
 ·exact stp_bword hok hlk htx hat 2 (by omega) _ ⟨by simp,by simp⟩
 split
 ·exact stp_bword hok hlk htx hat 1 (by omega) _ ⟨by simp,by simp⟩
 split
 ·exact stp_bword hok hlk htx hat 0 (by omega) _ ⟨by simp,by simp⟩
 exact stp_bnum hok hlk htx hat b
theorem stp_betw {z:Sn} {s:Sh} (hok:SOk z) (hlk:Lk z s) (hst:z.st≤5) (hat:z.at'<4000000) (b:Nat):Stp z s (sBetw z b):=by
 have htx:z.tx=[]:=hok.x (by omega)
 unfold sBetw
 split
 ·exact stp_behind hok hlk htx hat b
 split
 ·exact stp_to hok hlk htx (by omega)
 split
 ·exact stp_shut hok hlk htx (hok.ne (by omega)) hat
 split
 ·exact stp_begin hok hlk htx hat b
 split
 ·exact stp_bstr hok hlk htx hat 2 (Or.inr ⟨rfl,hok.ne (by omega)⟩)
 exact stp_wrong rfl rfl (by omega)
theorem stp_next {z:Sn} {s:Sh} (hok:SOk z) (hlk:Lk z s) (hst:z.st≤10) (hat:z.at'<4000000) (b:Nat):Stp z s (sNext z b):=by
 unfold sNext
 split
 ·exact stp_str hok hlk (by omega) hat b
 split
 ·exact stp_esc hok hlk (by omega) b
 split
 ·exact stp_num hok hlk (by omega) hat b
 split
 ·exact stp_word hok hlk (by omega) hat b
 split
 ·have htx:z.tx=[]:=hok.x (by omega)
  refine stp_to hok hlk htx ?_
  by_cases h:z.st=0∨z.st=5
  ·omega
  exact Or.inr (Or.inr ⟨by omega,hok.ne (by omega)⟩)
 exact stp_betw hok hlk (by omega) hat b
structure Run (z:Sn) (s:Sh) (l:List UInt8) (f:Sf):Prop where
 tok:OkL s f.ts
 ok:f.e=0→SOk f.z∧f.z.st≤10∧f.z.at'=z.at'+l.length∧Lk f.z (shRun s f.ts)
 e:f.e=0∨f.e=2∨f.e=3
 at':f.e≠0→z.at'≤f.z.at'∧f.z.at'<z.at'+l.length
 tx:f.z.tx.length≤z.tx.length+l.length
theorem run_ok':∀(l:List UInt8) {z:Sn} {s:Sh},SOk z→Lk z s→z.st≤10→z.at'+l.length≤4000000→Run z s l (sRun z l)
 | [],z,s,h1,h2,h3,_=>⟨trivial,fun _=>⟨h1,h3,rfl,h2⟩,Or.inl rfl,fun h=>absurd rfl h,by simp [sRun]⟩
 | b::l,z,s,h1,h2,h3,h4=>by
  have hl:z.at'+(l.length+1)≤4000000:=by simpa using h4
  have S:=stp_next h1 h2 h3 (by omega) b.toNat
  rw [sRun]
  by_cases c12:(sNext z b.toNat).z.st=12
  ·rw [if_pos c12]
   refine ⟨S.tok,fun h=>by simp at h,Or.inr (Or.inl rfl),fun _=>?_,?_⟩
   ·simp only [S.at',List.length_cons]; omega
   have:=S.tx; simp only [List.length_cons]; omega
  rw [if_neg c12]
  by_cases c11:(sNext z b.toNat).z.st=11
  ·rw [if_pos c11]
   refine ⟨S.tok,fun h=>by simp at h,Or.inr (Or.inr rfl),fun _=>?_,?_⟩
   ·simp only [S.at',List.length_cons]; omega
   have:=S.tx; simp only [List.length_cons]; omega
  rw [if_neg c11]
  have c10:(sNext z b.toNat).z.st≤10:=by have:=S.st; omega
  have hat:=S.at'
  have o1:=S.ok c10
  have O:SOk { (sNext z b.toNat).z with at':=(sNext z b.toNat).z.at'+1 }:=⟨o1.op,o1.ne,o1.tk,o1.st,o1.w,o1.n,o1.m,o1.x⟩
  have R:=run_ok' l O (S.lk c10) c10 (by simp only [hat]; omega)
  refine ⟨S.tok.app R.tok,fun h=>?_,R.e,fun h=>?_,?_⟩
  ·obtain ⟨r1,r2,r3,r4⟩:=R.ok h
   refine ⟨r1,r2,r3.trans ?_,by rw [shRun_app]; exact r4⟩
   show (sNext z b.toNat).z.at'+1+l.length=_
   rw [hat,List.length_cons]; omega
  ·have:=R.at' h
   simp only [hat,List.length_cons] at this ⊢; omega
  have:=R.tx
  have t2:=S.tx
  simp only [List.length_cons] at this ⊢; omega
theorem sInit_ok:SOk sInit∧Lk sInit ⟨[],0⟩:=by
 refine ⟨⟨by simp [sInit],by simp [sInit],by simp [sInit],by simp [sInit],by simp [sInit],by simp [sInit],by simp [sInit],by simp [sInit]⟩,⟨rfl,Nat.zero_le _,?_,?_,?_,?_⟩⟩<;>simp [sInit]
theorem sRun_app:∀(a b:List UInt8) (z:Sn),(sRun z a).e=0→(sRun z (a++b))=⟨(sRun (sRun z a).z b).z,(sRun (sRun z a).z b).e,(sRun z a).ts++(sRun (sRun z a).z b).ts⟩
 | [],b,z,_=>rfl
 | x::a,b,z,h=>by
  rw [List.cons_append,sRun,sRun]
  rw [sRun] at h
  split at h
  ·cases h
  rename_i c12
  split at h
  ·cases h
  rename_i c11
  rw [if_neg c12,if_neg c11,if_neg c12,if_neg c11]
  have:=sRun_app a b _ h
  simp only [this,List.append_assoc]
theorem sRun_bad:∀(a b:List UInt8) (z:Sn),(sRun z a).e≠0→sRun z (a++b)=sRun z a
 | [],_,_,h=>absurd rfl h
 | x::a,b,z,h=>by
  rw [List.cons_append,sRun,sRun]
  rw [sRun] at h
  split
  ·rfl
  rename_i c12
  rw [if_neg c12] at h
  split
  ·rfl
  rename_i c11
  rw [if_neg c11] at h
  rw [sRun_bad a b _ h]
end Tr
