import Derived.Test.YtpmjnbmkippaiaaGreatDoorJ03
import Derived.Lib.ParseIntB
import Derived.Shelf.Strconv.ParseIntPublic10
import Derived.Shelf.GgClosure.StringsRunes
import Derived.Shelf.Strings.Prefix
import Derived.Shelf.Strings.Split
import Derived.Shelf.Slices.Turned
import Derived.Deep.AppendLies
import Derived.Laws.RangeAny
set_option maxRecDepth 100000
set_option maxHeartbeats 16000000
set_option linter.all false
namespace Go.Proofs.YtpmjnbmkippaiaaGreatDoor
section
open Go.RowKit Go.Shelf
variable {s:Bool} {f wd:ByteArray} {k m:Int} {L:List ByteArray} {ns:List TK} {B i lo n o:Nat} {e te:TypeId} {c:UInt8} {a b d pe v:Value} {w w' w1:World}
def Lb (c:UInt8):Bool:=decide (48≤c.toNat) && decide (c.toNat≤57)
theorem NF (c:UInt8):Lb c=true↔48≤c.toNat∧c.toNat≤57:=by unfold Lb;simp
def xM (acc:Nat) (l:List UInt8):Nat:=l.foldl (fun a c=>a*10+(c.toNat - 48)) acc
theorem BJ (acc:Nat):xM acc []=acc:=by unfold xM;exact List.foldl_nil
theorem FL (acc:Nat) (c:UInt8) (r:List UInt8):xM acc (c :: r)=xM (acc*10+(c.toNat - 48)) r:=by unfold xM;exact WS ..
theorem DB:∀(l:List UInt8) (acc:Nat),l.all Lb=true→xM acc l<(acc+1)*10 ^ l.length
 | [],acc,_=>by simp [BJ]
 | c :: r,acc,h=>by
  simp only [VR,ZA] at h
  have hc:=(NF c).1 h.1;have:=DB r (acc*10+(c.toNat - 48)) h.2;rw [FL];refine ZY this ?_;rw [ZE,Uc,Nat.mul_comm (10 ^ r.length) 10,←Nat.mul_assoc];exact Nat.mul_le_mul_right _ (by omega)
def FK (l:List UInt8):Option Int :=
 if l.length=0∨9<l.length∨(l.head?=some 48∧1<l.length) then none
 else if l.all Lb=true then some (xM 0 l:Nat) else none
def SR (l:List UInt8):Option Int :=
 if 1<l.length∧l.head?=some 45 then (if l.tail.head?=some 48∨l.tail.head?=some 45 then none else (FK l.tail).map fun v=>-v) else FK l
theorem xK:∀(l:List UInt8) (acc M:Nat),(acc+1)*10 ^ l.length≤1000000000→1000000000≤M→Lib.parseUintM M acc l=if l.all Lb=true then .ok (xM acc l) else Lib.parseUintB 64 []
 | [],acc,M,_,_=>by simp [Lib.parseUintM,BJ]
 | c :: r,acc,M,h,hM=>by
  have hp:1≤10 ^ r.length:=Nat.pos_of_ne_zero (by simp);have e:(acc+1)*10 ^ (c :: r).length=((acc+1)*10)*10 ^ r.length:=by
   rw [ZE,Uc,Nat.mul_comm (10 ^ r.length) 10,←Nat.mul_assoc]
  rw [e] at h;have h1:(acc+1)*10≤1000000000:=ZJ (Nat.le_mul_of_pos_right _ hp) h;unfold Lib.parseUintM
  by_cases hc:48≤c.toNat∧c.toNat≤57
  · rw [Z0 hc,Z1 (by omega),Z1 (by omega)]
    rw [xK r _ M (ZJ (Nat.mul_le_mul_right _ (by omega)) h) hM]
    simp only [VR,(NF c).2 hc,Xz,FL]
  rw [Z1 hc];have:Lb c=false:=by
   cases hd:Lb c with
   | false=>rfl
   | true=>exact absurd ((NF c).1 hd) hc
  simp [this]
  rfl
theorem oG (r:List UInt8):Lib.parseIntB 64 (45 :: r)=match Lib.parseUintB 64 r with | .range=>.range | .ok u=>if 9223372036854775808<u then .range else .ok (-(u:Int)) | _=>Lib.parseIntB 64 []:=by
 have e45:(45:UInt8).toNat=45:=rfl;unfold Lib.parseIntB
 simp [e45]
 cases Lib.parseUintB 64 r <;> rfl
theorem oE (c:UInt8) (r:List UInt8) (h:c.toNat≠43) (h2:c.toNat≠45):Lib.parseIntB 64 (c :: r)=match Lib.parseUintB 64 (c :: r) with | .range=>.range | .ok u=>if 9223372036854775808≤u then .range else .ok (u:Int) | _=>Lib.parseIntB 64 []:=by
 unfold Lib.parseIntB
 simp [h,h2]
 cases Lib.parseUintB 64 (c :: r) <;> rfl
theorem Ar {l d:List UInt8} (hd:d=if l.head?=some 45 then l.tail else l) (h0:l≠[48]) :
    (d=[]∨9<d.length∨(∃c,d.head?=some c∧(c.toNat<49∨57<c.toNat))→SR l=none) ∧
    (d≠[]→d.length≤9→(∀c,d.head?=some c→49≤c.toNat∧c.toNat≤57)→Lib.parseIntB 64 l=match SR l with | some v=>.ok v | none=>Lib.parseIntB 64 []):=by
 have key:∀x:List UInt8,x≠[48]→(x=[]∨9<x.length∨(∃c,x.head?=some c∧(c.toNat<49∨57<c.toNat)))→FK x=none:=by
  intro x hx h;unfold FK
  rcases h with rfl | h | ⟨c,hc,h⟩
  · simp
  · rw [Z0 (by omega)]
  by_cases h9:x.length=0∨9<x.length∨(x.head?=some 48∧1<x.length)
  · rw [Z0 h9]
  rw [Z1 h9,Z1];intro hall
  cases x with
  | nil=>simp at hc
  | cons y r =>
   simp only [List.head?_cons,ZK] at hc
   subst hc
   simp only [VR,ZA] at hall
   have hy:=(NF y).1 hall.1;have Y:y=48:=Uj (by show y.toNat=48;omega);subst Y
   cases r with
   | nil=>exact hx rfl
   | cons z r=>exact h9 (.inr (.inr ⟨rfl,by simp⟩))
 have tA:∀x:List UInt8,x≠[]→x.length≤9→(∀c,x.head?=some c→49≤c.toNat∧c.toNat≤57)→FK x=(if x.all Lb=true then some (xM 0 x:Int) else none)∧Lib.parseUintB 64 x=(if x.all Lb=true then .ok (xM 0 x) else Lib.parseUintB 64 []):=by
  intro x hx hl hc;refine ⟨?_,?_⟩
  · unfold FK
    rw [Z1];rintro (h | h | ⟨h,-⟩)
    · exact hx (Zg h)
    · omega
    have:=hc _ h;have e:(48:UInt8).toNat=48:=rfl;omega
  unfold Lib.parseUintB;rw [Z1 hx];refine xK x 0 _ ?_ (by decide);have:10 ^ x.length≤10 ^ 9:=Wx (by omega) hl;omega
 by_cases hm:l.head?=some 45
 · rw [Z0 hm] at hd
   subst hd
   cases l with
   | nil=>simp at hm
   | cons c r =>
    simp only [List.head?_cons,ZK] at hm
    subst hm
    simp only [List.tail_cons]
    cases r with
    | nil=>exact ⟨fun _=>by decide,fun h=>absurd rfl h⟩
    | cons c r =>
     have e1:SR (45 :: c :: r)=(if c=48∨c=45 then none else (FK (c :: r)).map fun v=>-v):=by
      unfold SR;simp
     refine ⟨fun h=>?_,fun h1 h2 h3=>?_⟩
     · rw [e1]
       by_cases hc:c=48∨c=45
       · rw [Z0 hc]
       rw [Z1 hc,key (c :: r) (fun e=>hc (.inl (by injection e))) h]
       rfl
     have hc:=h3 c rfl;have e48:(48:UInt8).toNat=48:=rfl;have e45:(45:UInt8).toNat=45:=rfl;rw [e1,Z1 (by rintro (rfl | rfl) <;> omega)];obtain ⟨d1,d2⟩:=tA (c :: r) h1 h2 h3;rw [oG,d1,d2]
     by_cases ha:(c :: r).all Lb=true
     · rw [Z0 ha,Z0 ha]
       have:=DB (c :: r) 0 ha;have h9:10 ^ (c :: r).length≤10 ^ 9:=Wx (by omega) h2
       simp only [Sy]
       rw [Z1 (by omega)]
     rw [Z1 ha,Z1 ha]
     rfl
 rw [Z1 hm] at hd;subst hd;have e1:SR d=FK d:=by
  unfold SR;rw [Z1 (fun h=>hm h.2)]
 refine ⟨fun h=>by rw [e1];exact key d h0 h,fun h1 h2 h3=>?_⟩;obtain ⟨d1,d2⟩:=tA d h1 h2 h3;rw [e1,d1]
 cases d with
 | nil=>exact absurd rfl h1
 | cons c r =>
  have hc:=h3 c rfl;rw [oE c r (by omega) (by omega),d2]
  by_cases ha:(c :: r).all Lb=true
  · rw [Z0 ha,Z0 ha]
    have:=DB (c :: r) 0 ha;have h9:10 ^ (c :: r).length≤10 ^ 9:=Wx (by omega) h2;show (if 9223372036854775808≤xM 0 (c :: r) then _ else _)=_;rw [Z1 (by omega)]
  rw [Z1 ha,Z1 ha]
  rfl
theorem Tx (b:ByteArray):b.data.toList.length=b.size:=by rw [YJ];rfl
theorem DA (b:ByteArray) (i:Nat) (h:i<b.size):b.data.toList[i]?=some b[i]:=by
 rw [Array.getElem?_toList];exact Xj h
theorem su (b:ByteArray) (h:0<b.size):b.data.toList.head?=some b[0]:=by
 rw [List.head?_eq_getElem?];exact DA b 0 h
def FJ (w:World) (b:ByteArray) (e:Ending) (w':World):Prop:=∃v ok,e=.returned (.tuple #[.int .i64 v,.bool ok])∧Zi w w'∧ok=(SR b.data.toList).isSome∧∀x,SR b.data.toList=some x→v=x
theorem FJ.no {b:ByteArray} {v:Int} (h:SR b.data.toList=none) (hb:Zi w w'):FJ w b (.returned (.tuple #[.int .i64 v,.bool false])) w':=⟨v,false,rfl,hb,by rw [h];rfl,fun x hx=>by rw [h] at hx;cases hx⟩
end
section
open Go.Shelf
variable {s:Bool} {f wd:ByteArray} {k m:Int} {L:List ByteArray} {ns:List TK} {B i lo n o:Nat} {e te:TypeId} {c:UInt8} {a b d pe v:Value} {w w' w1:World}
def Tryz.Is:Go.Shelf.Ren:=⟨fun | 174=>189 | 247=>214 | 245=>215 | 287=>235 | 279=>236 | 280=>237 | 281=>238 | 282=>239 | 321=>258 | 322=>259 | 316=>260 | 171=>262 | 205=>261 | 243=>270 | 246=>271 | 283=>216 | 284=>217 | 285=>218 | 286=>219 | 129=>241 | 317=>240 | 318=>242 | 319=>243 | 320=>244 | 337=>263 | 338=>264 | n=>n,fun | 9=>9 | 3=>3 | 2=>2 | 75=>182 | 85=>271 | 4=>4 | 167=>333 | 5=>5 | 53=>273 | 175=>334 | 46=>151 | 168=>336 | 37=>22 | 0=>0 | 210=>366 | 21=>21 | 127=>236 | 145=>376 | 143=>374 | 171=>313 | 173=>316 | 212=>340 | 51=>150 | 20=>20 | 213=>341 | 232=>377 | 233=>116 | 80=>84 | n=>n,fun | 15=>7 | 16=>8 | 17=>6 | 18=>9 | 19=>10 | n=>n⟩
theorem Tryz.FH:Go.Proofs.LaysC.n174 Tryz.prog Tryz.Is:={
 mixed:=by kernel_rfl
 f129:=Tryz.func241.trans (ZM some (by kernel_rfl))
 f171:=Tryz.func262.trans (ZM some (by kernel_rfl))
 f174:=Tryz.func189.trans (ZM some (by kernel_rfl))
 f205:=Tryz.func261.trans (ZM some (by kernel_rfl))
 f243:=Tryz.func270.trans (ZM some (by kernel_rfl))
 f245:=Tryz.func215.trans (ZM some (by kernel_rfl))
 f246:=Tryz.func271.trans (ZM some (by kernel_rfl))
 f247:=Tryz.func214.trans (ZM some (by kernel_rfl))
 f279:=Tryz.func236.trans (ZM some (by kernel_rfl))
 f280:=Tryz.func237.trans (ZM some (by kernel_rfl))
 f281:=Tryz.func238.trans (ZM some (by kernel_rfl))
 f282:=Tryz.func239.trans (ZM some (by kernel_rfl))
 f283:=Tryz.func216.trans (ZM some (by kernel_rfl))
 f284:=Tryz.func217.trans (ZM some (by kernel_rfl))
 f285:=Tryz.func218.trans (ZM some (by kernel_rfl))
 f286:=Tryz.func219.trans (ZM some (by kernel_rfl))
 f287:=Tryz.func235.trans (ZM some (by kernel_rfl))
 f316:=Tryz.func260.trans (ZM some (by kernel_rfl))
 f317:=Tryz.func240.trans (ZM some (by kernel_rfl))
 f318:=Tryz.func242.trans (ZM some (by kernel_rfl))
 f319:=Tryz.func243.trans (ZM some (by kernel_rfl))
 f320:=Tryz.func244.trans (ZM some (by kernel_rfl))
 f321:=Tryz.func258.trans (ZM some (by kernel_rfl))
 f322:=Tryz.func259.trans (ZM some (by kernel_rfl))
 f337:=Tryz.func263.trans (ZM some (by kernel_rfl))
 f338:=Tryz.func264.trans (ZM some (by kernel_rfl))
 t0:=Tryz.underlying0
 a0:=Tryz.isAgg0
 z0:=Tryz.sizeOf0
 v0:=Tryz.zeroValue0
 t2:=Tryz.underlying2
 a2:=Tryz.isAgg2
 z2:=Tryz.sizeOf2
 v2:=Tryz.zeroValue2
 t3:=Tryz.underlying3
 a3:=Tryz.isAgg3
 z3:=Tryz.sizeOf3
 v3:=Tryz.zeroValue3
 t4:=Tryz.underlying4
 a4:=Tryz.isAgg4
 z4:=Tryz.sizeOf4
 v4:=Tryz.zeroValue4
 t5:=Tryz.underlying5
 a5:=Tryz.isAgg5
 z5:=Tryz.sizeOf5
 v5:=Tryz.zeroValue5
 t9:=Tryz.underlying9
 a9:=Tryz.isAgg9
 z9:=Tryz.sizeOf9
 v9:=Tryz.zeroValue9
 t20:=Tryz.underlying20
 a20:=Tryz.isAgg20
 z20:=Tryz.sizeOf20
 v20:=Tryz.zeroValue20
 t21:=Tryz.underlying21
 a21:=Tryz.isAgg21
 z21:=Tryz.sizeOf21
 v21:=Tryz.zeroValue21
 t37:=Tryz.underlying22
 a37:=Tryz.isAgg22
 z37:=Tryz.sizeOf22
 v37:=Tryz.zeroValue22
 t46:=Tryz.underlying151
 a46:=Tryz.isAgg151
 z46:=Tryz.sizeOf151
 v46:=Tryz.zeroValue151
 t51:=Tryz.underlying150
 a51:=Tryz.isAgg150
 z51:=Tryz.sizeOf150
 v51:=Tryz.zeroValue150
 t53:=Tryz.underlying273
 a53:=Tryz.isAgg273
 z53:=Tryz.sizeOf273
 v53:=Tryz.zeroValue273
 t75:=Tryz.underlying182
 a75:=Tryz.isAgg182
 z75:=Tryz.sizeOf182
 v75:=Tryz.zeroValue182
 t85:=Tryz.underlying271
 a85:=Tryz.isAgg271
 z85:=Tryz.sizeOf271
 v85:=Tryz.zeroValue271
 t127:=Tryz.underlying236
 a127:=Tryz.isAgg236
 z127:=Tryz.sizeOf236
 v127:=Tryz.zeroValue236
 t143:=Tryz.underlying374
 a143:=Tryz.isAgg374
 z143:=Tryz.sizeOf374
 v143:=Tryz.zeroValue374
 t145:=Tryz.underlying376
 a145:=Tryz.isAgg376
 z145:=Tryz.sizeOf376
 v145:=Tryz.zeroValue376
 t167:=Tryz.underlying333
 a167:=Tryz.isAgg333
 z167:=Tryz.sizeOf333
 v167:=Tryz.zeroValue333
 t168:=Tryz.underlying336
 a168:=Tryz.isAgg336
 z168:=Tryz.sizeOf336
 v168:=Tryz.zeroValue336
 t171:=Tryz.underlying313
 a171:=Tryz.isAgg313
 z171:=Tryz.sizeOf313
 v171:=Tryz.zeroValue313
 t173:=Tryz.underlying316
 a173:=Tryz.isAgg316
 z173:=Tryz.sizeOf316
 v173:=Tryz.zeroValue316
 t175:=Tryz.underlying334
 a175:=Tryz.isAgg334
 z175:=Tryz.sizeOf334
 v175:=Tryz.zeroValue334
 t210:=Tryz.underlying366
 a210:=Tryz.isAgg366
 z210:=Tryz.sizeOf366
 v210:=Tryz.zeroValue366
 t212:=Tryz.underlying340
 a212:=Tryz.isAgg340
 z212:=Tryz.sizeOf340
 v212:=Tryz.zeroValue340
 t213:=Tryz.underlying341
 a213:=Tryz.isAgg341
 z213:=Tryz.sizeOf341
 t232:=Tryz.underlying377
 a232:=Tryz.isAgg377
 z232:=Tryz.sizeOf377
 v232:=Tryz.zeroValue377
 t233:=Tryz.underlying116
 a233:=Tryz.isAgg116
 z233:=Tryz.sizeOf116
 v233:=Tryz.zeroValue116
 g15:=by kernel_rfl
 g16:=by kernel_rfl
 g17:=by kernel_rfl
 g18:=by kernel_rfl
 g19:=by kernel_rfl
 t80:=Tryz.underlying84
 a80:=Tryz.isAgg84
 z80:=Tryz.sizeOf84
 v80:=Tryz.zeroValue84
 i0:=by kernel_rfl
 i2:=by kernel_rfl
 i3:=by kernel_rfl
 i4:=by kernel_rfl
 i5:=by kernel_rfl
 i9:=by kernel_rfl
 i20:=by kernel_rfl
 i21:=by kernel_rfl
 i37:=by kernel_rfl
 i46:=by kernel_rfl
 i51:=by kernel_rfl
 i53:=by kernel_rfl
 i75:=by kernel_rfl
 i80:=by kernel_rfl
 i85:=by kernel_rfl
 i127:=by kernel_rfl
 i143:=by kernel_rfl
 i145:=by kernel_rfl
 i167:=by kernel_rfl
 i168:=by kernel_rfl
 i171:=by kernel_rfl
 i173:=by kernel_rfl
 i175:=by kernel_rfl
 i210:=by kernel_rfl
 i212:=by kernel_rfl
 i232:=by kernel_rfl
 i233:=by kernel_rfl
 m15:=by kernel_rfl
 m16:=by kernel_rfl
 m17:=by kernel_rfl
 m18:=by kernel_rfl
 m19:=by kernel_rfl
 c0:=by kernel_rfl
 c2:=by kernel_rfl
 c3:=by kernel_rfl
 c4:=by kernel_rfl
 c5:=by kernel_rfl
 c9:=by kernel_rfl
 c20:=by kernel_rfl
 c21:=by kernel_rfl
 c37:=by kernel_rfl
 c46:=by kernel_rfl
 c51:=by kernel_rfl
 c53:=by kernel_rfl
 c75:=by kernel_rfl
 c80:=by kernel_rfl
 c85:=by kernel_rfl
 c127:=by kernel_rfl
 c143:=by kernel_rfl
 c145:=by kernel_rfl
 c167:=by kernel_rfl
 c168:=by kernel_rfl
 c171:=by kernel_rfl
 c173:=by kernel_rfl
 c175:=by kernel_rfl
 c210:=by kernel_rfl
 c212:=by kernel_rfl
 c213:=by kernel_rfl
 c232:=by kernel_rfl
 c233:=by kernel_rfl }
open Go.RowKit in
theorem Tryz.strconv_ParseInt_10_at64_ok (s:ByteArray) (hmax:s.size≤9223372036854775806) (v:Int) (h:Lib.parseIntB 64 s.data.toList=.ok v) (w:World) :
    Calls Tryz.prog 189 #[.string s,.int .i64 10,.int .i64 64] w fun e w'=>e=.returned (.tuple #[.int .i64 v,.nilIface])∧(w'=w∨∃t,w'=Lib.bytesWorld w 5 t):=Any.strconv_ParseInt_10_at64_ok Tryz.FH s hmax v h w
open Go.RowKit in
theorem Tryz.Ri (s:ByteArray) (hlim:s.size≤281474976710656) (h:Lib.parseIntB 64 s.data.toList=Lib.parseIntB 64 []) (ev:Value) (w:World) (hv:w.cell? ⟨7,0,none⟩=some ev) (hev:ev=.nilIface∨∃te pe,ev=.iface te pe) :
    Calls Tryz.prog 189 #[.string s,.int .i64 10,.int .i64 64] w fun e w'=>∃N,e=.returned (.tuple #[.int .i64 (0),.iface 336 (.pointer (some ⟨N,0,none⟩))])∧w.heap.size≤N∧w'.heap[N]?=some (.cells #[.string ⟨#[80,97,114,115,101,73,110,116]⟩,.string s,ev] 366 (0,0))∧Zi w w':=Any.strconv_ParseInt_10_at64_syntax Tryz.FH s hlim h ev w hv hev
def Tryz.Ir:Go.Shelf.Ren:=⟨fun | 17=>57 | 15=>100 | 20=>148 | n=>n,fun | 9=>9 | 23=>122 | 4=>4 | 3=>3 | 0=>0 | 21=>21 | n=>n,fun | n=>n⟩
theorem Tryz.xJ:Go.Proofs.LaysGw.n17 Tryz.prog Tryz.Ir:={
 mixed:=by kernel_rfl
 f15:=Tryz.func100.trans (ZM some (by kernel_rfl))
 f17:=Tryz.func57.trans (ZM some (by kernel_rfl))
 f20:=Tryz.func148.trans (ZM some (by kernel_rfl))
 t0:=Tryz.underlying0
 a0:=Tryz.isAgg0
 z0:=Tryz.sizeOf0
 v0:=Tryz.zeroValue0
 i0:=by kernel_rfl
 t3:=Tryz.underlying3
 a3:=Tryz.isAgg3
 z3:=Tryz.sizeOf3
 v3:=Tryz.zeroValue3
 i3:=by kernel_rfl
 t4:=Tryz.underlying4
 a4:=Tryz.isAgg4
 z4:=Tryz.sizeOf4
 v4:=Tryz.zeroValue4
 i4:=by kernel_rfl
 t9:=Tryz.underlying9
 a9:=Tryz.isAgg9
 z9:=Tryz.sizeOf9
 v9:=Tryz.zeroValue9
 i9:=by kernel_rfl
 t21:=Tryz.underlying21
 a21:=Tryz.isAgg21
 z21:=Tryz.sizeOf21
 v21:=Tryz.zeroValue21
 i21:=by kernel_rfl
 t23:=Tryz.underlying122
 a23:=Tryz.isAgg122
 z23:=Tryz.sizeOf122
 v23:=Tryz.zeroValue122
 i23:=by kernel_rfl }
open Go.RowKit Go.Lib in
theorem Tryz.strings_ContainsFunc_runes (g:Nat) (lb:Array Value) (eg:∀args w,(callFunc g args).run Tryz.prog w=.ok (.enter g args) w) (p:Nat→Bool) (s:ByteArray) (w:World) (hp:PredAtRunes Tryz.prog g lb p w) :
    Calls Tryz.prog 57 #[.string s,.func (.func g) #[] lb] w (Wj w (.bool (decide (0≤Lib.idxFunc p true s)))):=Any.strings_ContainsFunc_runes Tryz.xJ g lb eg p s w hp
def Tryz.FG:Go.Shelf.Ren:=⟨fun | 101=>188 | 208=>213 | 206=>221 | n=>n,fun | 9=>9 | 4=>4 | 3=>3 | n=>n,fun | n=>n⟩
theorem Tryz.so:Go.Proofs.Lays.n101 Tryz.prog Tryz.FG:={
 mixed:=by kernel_rfl
 f101:=Tryz.func188.trans (ZM some (by kernel_rfl))
 f206:=Tryz.func221.trans (ZM some (by kernel_rfl))
 f208:=Tryz.func213.trans (ZM some (by kernel_rfl))
 t3:=Tryz.underlying3
 a3:=Tryz.isAgg3
 z3:=Tryz.sizeOf3
 v3:=Tryz.zeroValue3
 t4:=Tryz.underlying4
 a4:=Tryz.isAgg4
 z4:=Tryz.sizeOf4
 v4:=Tryz.zeroValue4
 t9:=Tryz.underlying9
 a9:=Tryz.isAgg9
 z9:=Tryz.sizeOf9
 v9:=Tryz.zeroValue9 }
open Go.RowKit Go.Lib in
theorem Tryz.strings_TrimPrefix (s p:ByteArray) (w:World) :
    Calls Tryz.prog 188 #[.string s,.string p] w fun e w'=>e=.returned (.string ⟨(Lib.trimPrefix s.data.toList p.data.toList).toArray⟩)∧w'=w:=Any.strings_TrimPrefix Tryz.so s p w
def Tryz.FF:Go.Shelf.Ren:=⟨fun | 146=>23 | 221=>55 | 268=>97 | 138=>98 | 143=>99 | 195=>144 | 197=>145 | 218=>146 | 219=>147 | 260=>183 | 217=>184 | 225=>185 | 224=>186 | 267=>187 | 266=>211 | 314=>212 | n=>n,fun | 9=>9 | 31=>26 | 3=>3 | 4=>4 | 0=>0 | 105=>220 | 21=>21 | 5=>5 | 46=>151 | 119=>305 | 139=>308 | 138=>307 | 146=>309 | 51=>150 | n=>n,fun | 1=>1 | 3=>3 | 4=>4 | n=>n⟩
theorem Tryz.sm:Go.Proofs.Lays.n146 Tryz.prog Tryz.FF:={
 mixed:=by kernel_rfl
 f138:=Tryz.func98.trans (ZM some (by kernel_rfl))
 f143:=Tryz.func99.trans (ZM some (by kernel_rfl))
 f146:=Tryz.func23.trans (ZM some (by kernel_rfl))
 f195:=Tryz.func144.trans (ZM some (by kernel_rfl))
 f197:=Tryz.func145.trans (ZM some (by kernel_rfl))
 f217:=Tryz.func184.trans (ZM some (by kernel_rfl))
 f218:=Tryz.func146.trans (ZM some (by kernel_rfl))
 f219:=Tryz.func147.trans (ZM some (by kernel_rfl))
 f221:=Tryz.func55.trans (ZM some (by kernel_rfl))
 f224:=Tryz.func186.trans (ZM some (by kernel_rfl))
 f225:=Tryz.func185.trans (ZM some (by kernel_rfl))
 f260:=Tryz.func183.trans (ZM some (by kernel_rfl))
 f266:=Tryz.func211.trans (ZM some (by kernel_rfl))
 f267:=Tryz.func187.trans (ZM some (by kernel_rfl))
 f268:=Tryz.func97.trans (ZM some (by kernel_rfl))
 f314:=Tryz.func212.trans (ZM some (by kernel_rfl))
 t0:=Tryz.underlying0
 a0:=Tryz.isAgg0
 z0:=Tryz.sizeOf0
 v0:=Tryz.zeroValue0
 t3:=Tryz.underlying3
 a3:=Tryz.isAgg3
 z3:=Tryz.sizeOf3
 v3:=Tryz.zeroValue3
 t4:=Tryz.underlying4
 a4:=Tryz.isAgg4
 z4:=Tryz.sizeOf4
 v4:=Tryz.zeroValue4
 t5:=Tryz.underlying5
 a5:=Tryz.isAgg5
 z5:=Tryz.sizeOf5
 v5:=Tryz.zeroValue5
 t9:=Tryz.underlying9
 a9:=Tryz.isAgg9
 z9:=Tryz.sizeOf9
 v9:=Tryz.zeroValue9
 t21:=Tryz.underlying21
 a21:=Tryz.isAgg21
 z21:=Tryz.sizeOf21
 v21:=Tryz.zeroValue21
 t31:=Tryz.underlying26
 a31:=Tryz.isAgg26
 z31:=Tryz.sizeOf26
 v31:=Tryz.zeroValue26
 t46:=Tryz.underlying151
 a46:=Tryz.isAgg151
 z46:=Tryz.sizeOf151
 v46:=Tryz.zeroValue151
 t51:=Tryz.underlying150
 a51:=Tryz.isAgg150
 z51:=Tryz.sizeOf150
 v51:=Tryz.zeroValue150
 t105:=Tryz.underlying220
 a105:=Tryz.isAgg220
 z105:=Tryz.sizeOf220
 v105:=Tryz.zeroValue220
 t119:=Tryz.underlying305
 a119:=Tryz.isAgg305
 z119:=Tryz.sizeOf305
 t138:=Tryz.underlying307
 a138:=Tryz.isAgg307
 z138:=Tryz.sizeOf307
 v138:=Tryz.zeroValue307
 t139:=Tryz.underlying308
 a139:=Tryz.isAgg308
 z139:=Tryz.sizeOf308
 v139:=Tryz.zeroValue308
 t146:=Tryz.underlying309
 a146:=Tryz.isAgg309
 z146:=Tryz.sizeOf309
 v146:=Tryz.zeroValue309
 g1:=by kernel_rfl
 g3:=by kernel_rfl
 g4:=by kernel_rfl }
open Go.RowKit Go.Lib in
theorem Tryz.strings_Split (s sep:ByteArray) (m:Int) (w:World) (hs:s.size<4294967281) (hm:w.cell? ⟨1,0,none⟩=some (.int .i64 m)) (h1:1≤sep.size) :
    Calls Tryz.prog 23 #[.string s,.string sep] w fun e w' =>
     e=.returned (.slice (some ⟨w.heap.size,0,none⟩) (Lib.countB s sep+1) (Lib.countB s sep+1))∧w'=w.alloc (.cells ((Lib.splitB sep 0 (Lib.countB s sep) s).map Value.string).toArray 9):=Any.strings_Split Tryz.sm (by kernel_rfl) s sep m w hs hm h1
def Tryz.FE:Go.Shelf.Ren:=⟨fun | 110=>149 | 109=>102 | n=>n,fun | 31=>26 | 9=>9 | 4=>4 | 3=>3 | 0=>0 | n=>n,fun | n=>n⟩
theorem Tryz.sk:Go.Proofs.Lays.n110 Tryz.prog Tryz.FE:={
 mixed:=by kernel_rfl
 f109:=Tryz.func102.trans (ZM some (by kernel_rfl))
 f110:=Tryz.func149.trans (ZM some (by kernel_rfl))
 t0:=Tryz.underlying0
 a0:=Tryz.isAgg0
 z0:=Tryz.sizeOf0
 v0:=Tryz.zeroValue0
 t3:=Tryz.underlying3
 a3:=Tryz.isAgg3
 z3:=Tryz.sizeOf3
 v3:=Tryz.zeroValue3
 t4:=Tryz.underlying4
 a4:=Tryz.isAgg4
 z4:=Tryz.sizeOf4
 v4:=Tryz.zeroValue4
 t9:=Tryz.underlying9
 a9:=Tryz.isAgg9
 z9:=Tryz.sizeOf9
 v9:=Tryz.zeroValue9
 t31:=Tryz.underlying26
 a31:=Tryz.isAgg26
 z31:=Tryz.sizeOf26
 v31:=Tryz.zeroValue26 }
open Go.Lib in
theorem Tryz.slices_Contains_string (b off n c:Nat) (zs:List ByteArray) (x:ByteArray) (w:World) (hz:n≤zs.length) (hbig:n≤9223372036854775807) (hc:∀j,j<zs.length→w.cell? ⟨b,off+j,none⟩=some (.string (zs.getD j ByteArray.empty))) :
    Calls Tryz.prog 149 #[.slice (some ⟨b,off,none⟩) n c,.string x] w fun e w'=>e=.returned (.bool (Lib.containsS (zs.take n) x))∧w'=w:=Any.slices_Contains_string Tryz.sk b off n c zs x w hz hbig hc
end
section
open Go.RowKit Go.Shelf
variable {s:Bool} {f wd:ByteArray} {k m:Int} {L:List ByteArray} {ns:List TK} {B i lo n o:Nat} {e te:TypeId} {c:UInt8} {a b d pe v:Value} {w w' w1:World}
structure Aq (w:World) (m:Int) (te:TypeId) (pe:Value):Prop where
 mx:w.cell? ⟨1,0,none⟩=some (.int .i64 m)
 es:w.cell? ⟨7,0,none⟩=some (.iface te pe)
theorem Aq.later (h:Aq w m te pe) (hb:Zi w w'):Aq w' m te pe :=
 ⟨(hb.cell (p:=⟨1,0,none⟩) (ZG w _ h.mx)).trans h.mx,(hb.cell (p:=⟨7,0,none⟩) (ZG w _ h.es)).trans h.es⟩
theorem Mg (p:ByteArray):p.toList=p.data.toList:=by
 cases p with
 | mk a =>
  cases a with
  | mk l =>
   have e:(⟨l.toArray⟩:ByteArray).toList=l:=by simp
   exact e
theorem oD (l:List UInt8):Lib.trimPrefix l [45]=if l.head?=some 45 then l.tail else l:=by
 unfold Lib.trimPrefix Lib.hasPrefix
 cases l with
 | nil=>rfl
 | cons c r =>
  by_cases h:c=45
  · subst h;simp
  simp [h,Ne.symm h]
theorem Th (b:ByteArray) (w:World) (hs:b.size≤1048576) (hg:Aq w m te pe):Calls Tryz.prog 152 #[.string b] w fun e w'=>FJ w b e w':=by
 by_cases h0:(b.toList == [48])=true
 case pos =>
  have hb:b.data.toList=[48]:=by rw [←Mg];exact ZL.1 h0
  have hn:SR b.data.toList=some 0:=by rw [hb];rfl
  have HN:=ZU hn;clear hb hn
  go_enter Tryz.func152,Tryz.ntmps152
  go_wp2_with fail
  go_ret2
  exact ⟨0,true,rfl,Yy,by rw [HN.out];rfl,fun x hx=>by rw [HN.out] at hx;injection hx⟩
 case neg =>
  have h0':(b.toList == [48])=false:=by simpa using h0
  have hne:b.data.toList≠[48]:=fun e=>h0 (by rw [Mg,e];rfl)
  have HP:=ZU (Ar (l:=b.data.toList) rfl hne);have HG:=ZU hg;have HT:=ZU (Tryz.strings_TrimPrefix b ⟨#[45]⟩ w);rw [show (⟨#[45]⟩:ByteArray).data.toList=[45] from rfl,oD] at HT;clear h0 hne hg;generalize hd:(if b.data.toList.head?=some 45 then b.data.toList.tail else b.data.toList)=d at *;have HL:Hid (d.length≤1048576):=by
   show d.length≤_;rw [←hd];have:=Tx b
   split
   · rw [List.length_tail];omega
   omega
  clear hd;obtain ⟨D,hD⟩:∃D:ByteArray,D=⟨d.toArray⟩:=⟨_,rfl⟩;rw [←hD] at HT;have U:D.data.toList=d:=by rw [hD]
  subst U;clear hD;have hDl:=Tx D
  go_enter Tryz.func152,Tryz.ntmps152
  go_wp2_with fail
  refine HT.out.mono ?_;rintro e w1 ⟨rfl,rfl⟩;clear HT
  by_cases z:D.size=0
  case pos =>
   have hnil:D.data.toList=[]:=Zg (by omega);have hz:(D.toList == [])=true:=by rw [Mg,hnil];rfl
   have ST:=ZU (HP.out.1 (.inl hnil));clear hnil HP HL hDl z
   go_wp2_with fail
   go_ret2
   exact FJ.no ST.out Yy
  have hz:(D.toList == [])=false:=by
   rw [Mg]
   cases hx:D.data.toList with
   | nil=>rw [hx] at hDl;simp at hDl;omega
   | cons c r=>rfl
  by_cases z9:9<D.size
  case pos =>
   have T:(9:Int)<(D.size:Int):=by omega
   have ST:=ZU (HP.out.1 (.inr (.inl (by omega))));clear HP HL hDl z9
   go_wp2_with fail
   go_ret2
   exact FJ.no ST.out Yy
  have T:¬(9:Int)<(D.size:Int):=by omega
  have hD0:0<D.size:=by omega
  have hhd:=su D hD0
  by_cases z1:D[0].toNat<49
  case pos =>
   have yo:((D[0].toNat:Nat):Int)<49:=by omega
   have ST:=ZU (HP.out.1 (.inr (.inr ⟨_,hhd,.inl z1⟩)));clear HP HL hDl z1 hhd
   go_wp2_with fail
   go_ret2
   exact FJ.no ST.out Yy
  have yo:¬((D[0].toNat:Nat):Int)<49:=by omega
  by_cases z2:57<D[0].toNat
  case pos =>
   have lR:(57:Int)<((D[0].toNat:Nat):Int):=by omega
   have ST:=ZU (HP.out.1 (.inr (.inr ⟨_,hhd,.inr z2⟩)));clear HP HL hDl z2 hhd
   go_wp2_with fail
   go_ret2
   exact FJ.no ST.out Yy
  have lR:¬(57:Int)<((D[0].toNat:Nat):Int):=by omega
  have hpi:=HP.out.2 (fun e=>by rw [e] at hDl;simp at hDl;omega) (by omega) (fun c hc=>by
   rw [hhd] at hc
   injection hc with hc
   subst hc;omega)
  cases hx:SR b.data.toList with
  | some v =>
   rw [hx] at hpi;have HC:=ZU (Tryz.strconv_ParseInt_10_at64_ok b (by omega) v hpi w1);have HX:=ZU hx;clear HP HL hDl hhd hpi hx z1 z2
   go_wp2_with fail
   refine HC.out.mono ?_;rintro e w2 ⟨rfl,hw⟩;have B2:Hid (Zi w1 w2):=by
    rcases hw with rfl | ⟨t,rfl⟩
    · exact Yy
    exact Lib.bytesWorld_below _ _ _
   clear hw HC
   go_wp2_with fail
   go_quiet (fail)
   have B3:=ZU (B2.out.trans ((below_drewN' w2 nq).mono B2.out.size));generalize w2.drewN nq=w3 at *
   go_wp2_with fail
   go_ret2
   exact ⟨v,true,rfl,B3.out,by rw [HX.out];rfl,fun x hx=>by rw [HX.out] at hx;injection hx⟩
  | none =>
   rw [hx] at hpi;have HC:=ZU (Tryz.Ri b (by omega) hpi (.iface te pe) w1 HG.out.es (.inr ⟨te,pe,rfl⟩));have HX:=ZU hx;clear HP HL hDl hhd hpi hx z1 z2
   go_wp2_with fail
   refine HC.out.mono ?_;rintro e w2 ⟨N,rfl,-,-,b2⟩;have B2:=ZU b2;clear b2 HC
   go_wp2_with fail
   go_quiet (fail)
   have B3:=ZU (B2.out.trans ((below_drewN' w2 nq).mono B2.out.size));generalize w2.drewN nq=w3 at *
   go_wp2_with fail
   go_ret2
   exact FJ.no HX.out B3.out
def RK (c:UInt8):List UInt8→List UInt8→List (List UInt8)
 | cur,[]=>[cur]
 | cur,x :: l=>if x=c then cur :: RK c [] l else RK c (cur++[x]) l
theorem ND (c:UInt8) (cur:List UInt8):RK c cur []=[cur]:=by rw [RK]
theorem NA (c:UInt8) (cur l:List UInt8):RK c cur (c :: l)=cur :: RK c [] l:=by rw [RK,Z0 rfl]
theorem Nz {x:UInt8} (h:x≠c) (cur l:List UInt8):RK c cur (x :: l)=RK c (cur++[x]) l:=by rw [RK,Z1 h]
theorem RY :∀(l cur:List UInt8),c ∉ l→RK c cur l=[cur++l]
 | [],cur,_=>by rw [ND,YD]
 | x :: l,cur,h=>by
  rw [Nz (fun e=>h (by rw [e];exact YO ..)),RY l _ (fun hm=>h (Zp _ hm))]
  simp
theorem Rh :∀(a r cur:List UInt8),c ∉ a→RK c cur (a++c :: r)=(cur++a) :: RK c [] r
 | [],r,cur,_=>by rw [Zd,NA,YD]
 | x :: a,r,cur,h=>by
  rw [Y3,Nz (fun e=>h (by rw [e];exact YO ..)),Rh a r _ (fun hm=>h (Zp _ hm))]
  simp
theorem FC (c:UInt8):∀(l cur:List UInt8),0<(RK c cur l).length
 | [],cur=>by rw [ND];simp
 | x :: l,cur=>by
  by_cases h:x=c
  · subst h;rw [NA];simp
  rw [Nz h];exact FC c l _
theorem La (c:UInt8):∀(l cur:List UInt8),(RK c cur l).length≤l.length+1∧∀a ∈ RK c cur l,a.length≤cur.length+l.length
 | [],cur=>by rw [ND];simp
 | x :: l,cur=>by
  by_cases h:x=c
  · subst h
    obtain ⟨h1,h2⟩:=La x l [];rw [NA];refine ⟨by simp;omega,fun a ha=>?_⟩
    rcases Y9.1 ha with rfl | ha
    · simp
    have:=h2 a ha;simp at this ⊢;omega
  obtain ⟨h1,h2⟩:=La c l (cur++[x]);rw [Nz h];refine ⟨by simp;omega,fun a ha=>?_⟩;have:=h2 a ha;simp at this ⊢;omega
def UG (l:List UInt8):ByteArray:=⟨l.toArray⟩
theorem Ny (b:ByteArray):UG b.data.toList=b:=rfl
theorem Qy (l:List UInt8):(UG l).data.toList=l:=rfl
def UK (b:ByteArray):List ByteArray:=(RK 32 [] b.data.toList).map UG
theorem FB (s:ByteArray) (a b:Nat):(s.extract a b).data.toList=(s.data.toList.drop a).take (b - a):=by
 rw [Ve,UV,VL]
theorem sj:∀(k:Nat) (s:ByteArray),Lib.countB s ⟨#[32]⟩=k→Lib.splitB ⟨#[32]⟩ 0 k s=UK s:=by
 have hone:∀s:ByteArray,Lib.indexB s ⟨#[32]⟩=Lib.indexByte s.data.toList 32:=fun s=>Lib.index_one _ _
 intro k
 induction k with
 | zero =>
  intro s hk
  rcases Lib.indexB_cases s ⟨#[32]⟩ with h | ⟨i,h,-⟩
  · rw [Lib.splitB_miss _ _ _ _ h]
    have h9:=Lib.indexByte_none ((hone s).symm.trans h);unfold UK;rw [RY _ _ (fun hm=>by obtain ⟨j,hj,e⟩:=Up hm;exact h9 j (by rw [ZF hj,e]))]
    rfl
  rw [Lib.countB_hit s _ i (by decide) h] at hk;omega
 | succ k ih =>
  intro s hk
  rcases Lib.indexB_cases s ⟨#[32]⟩ with h | ⟨i,h,hi⟩
  · rw [Lib.countB_miss s _ h] at hk;omega
  rw [Lib.countB_hit s _ i (by decide) h] at hk;rw [Lib.splitB_hit _ _ _ _ i h,ih _ (by omega)];obtain ⟨h1,h2⟩:=Lib.indexByte_some ((hone s).symm.trans h);have hs1:(⟨#[32]⟩:ByteArray).size=1:=rfl;rw [hs1] at hi ⊢;have hil:i<s.data.toList.length:=by rw [Tx];omega
  have hsp:s.data.toList=s.data.toList.take i++32 :: s.data.toList.drop (i+1):=by
   rw [ZF hil] at h1
   injection h1 with h1
   rw [←h1,←Yg hil,YQ]
  unfold UK
  conv=>rhs;rw [hsp,Rh _ _ _ (fun hm=>by
   obtain ⟨j,hj,e⟩:=Up hm;rw [Zw] at hj;exact h2 j (by omega) (by rw [←e,List.getElem_take,ZF]))]
  rw [Yl]
  congr 1
  · apply WM
    apply Array.toList_inj.1;rw [FB s 0 (i+0)]
    simp [UG]
  rw [FB s (i+1) s.size,Y8 (by rw [ZS,Tx];omega)]
def bI (b:ByteArray):List Int:=b.data.toList.map fun x=>(x.toNat:Int)
theorem QT (b:ByteArray):(bI b).length=b.size:=by unfold bI;rw [Zl,Tx]
theorem oC (b:ByteArray) (i:Nat) (h:i<b.size):(bI b).getD i 0=(b[i].toNat:Int):=by
 unfold bI;rw [List.getD,Yo,DA b i h]
 rfl
theorem xI (b:ByteArray) (a n:Nat):strOfNums (((bI b).drop a).take n)=UG ((b.data.toList.drop a).take n):=by
 unfold bI strOfNums UG;rw [List.map_drop.symm,UD.symm,SF]
 congr 2
 conv=>rhs;rw [←List.map_id (List.take n (List.drop a b.data.toList))]
 refine Vw fun x _=>?_
 simp
def Rq (w:World) (lo:Nat) (v:Value) (L:List ByteArray):Prop:=w.ownsRow lo 9 1 v L.length (L.map Value.string)
theorem Tryz.xH:(Tryz.prog.info? 9).map (fun i=>(i.zero,i.size,i.bytes))=some (some (.string ByteArray.empty),1,16):=by kernel_rfl
theorem si (b:ByteArray) (fr i:Nat) (hf:fr≤i) (hi:i<b.size):(b.data.toList.drop fr).take (i+1 - fr)=(b.data.toList.drop fr).take (i - fr)++[b[i]]:=by
 rw [show i+1 - fr=(i - fr)+1 by omega,TF,Yt,show fr+(i - fr)=i by omega,DA b i hi]
 rfl
theorem drop_at (b:ByteArray) (i:Nat) (hi:i<b.size):b.data.toList.drop i=b[i] :: b.data.toList.drop (i+1):=by
 rw [Yg (by rw [Tx];exact hi)]
 congr 1
theorem oB {k:IntKind} {c:Nat} {ys:List Int} (h:Rd k w (.slice (some ⟨B,o,none⟩) n c) ys) (a m:Nat) (S:a+m≤n):Rd k w (.slice (some ⟨B,o+a,none⟩) m (c - a)) ((ys.drop a).take m):=by
 obtain ⟨ao,cap,e,h1,h2,h3⟩:=h
 simp only [ZC] at e
 obtain ⟨rfl,rfl,rfl⟩:=e;have hl:((ys.drop a).take m).length=m:=by rw [Zw,ZS];omega
 refine ⟨_,_,by rw [hl],by omega,by omega,?_⟩
 rcases h3 with rfl | ⟨b',o',e',hb,hc⟩
 · exact .inl (by simp)
 injection e' with e'
 injection e' with e1 e2
 subst e1 e2;refine .inr ⟨_,_,rfl,hb,fun i hi=>?_⟩;rw [hl] at hi;rw [Xu,hc (a+i) (by omega)]
 simp [List.getD,Yt,hi]
def K8 (c:UInt8):Bool:=decide (33≤c.toNat) && decide (c.toNat≤126)
theorem xG (c:UInt8):K8 c=true↔33≤c.toNat∧c.toNat≤126:=by unfold K8;simp
def Wi (b:ByteArray):Bool:=decide (0<b.size) && b.data.toList.all K8
def Yh (L:List ByteArray) (i:Nat):ByteArray:=L.getD i ⟨#[]⟩
theorem OY (h:i<L.length):Yh L i=L[i]:=by unfold Yh;rw [List.getD,ZF h];rfl
theorem Rq.cells (h:Rq w lo v L) (h0:0<L.length):∃g c,v=.slice (some ⟨g,0,none⟩) L.length c∧lo≤g∧g<w.heap.size∧L.length≤c∧c≤maxLen∧∀i,i<L.length→w.cell? ⟨g,i,none⟩=some (.string (Yh L i)):=by
 have h':=h
 rcases h.2 with ⟨-,h9⟩ | ⟨g,cap,cur,rfl,h1,h2,h3,h4,h5,h6⟩
 · omega
 refine ⟨g,cap,rfl,h1,(Z3.1 h2).1,h3,h4,fun i hi=>?_⟩;rw [Wv h' i (by omega),OY hi,Yo,ZF hi]
 rfl
theorem Rq.nil (w:World) (lo:Nat) (hl:lo≤w.heap.size):Rq (w.alloc (.cells #[] 9)) lo (.slice (some ⟨w.heap.size,0,none⟩) 0 0) []:=by
 have:=WX (base:=lo) (e:=9) (size:=1) w #[] 0 hl (by decide) rfl;show World.ownsRow _ _ _ _ _ _ _
 simpa using this
def TU (b:ByteArray):Bool:=b.toList == [59]
def Og (b:ByteArray):ByteArray:=if (b.toList == [45])=true then ⟨#[]⟩ else b
def JY (f0 f1 f2:ByteArray):Option TK :=
 if (f0.toList == [99,114,101,97,116,101])=true then some ⟨1,f1,Og f2,0,false⟩
 else if (f0.toList == [115,101,113])=true then some ⟨1,f1,Og f2,0,true⟩
 else if (f0.toList == [100,101,108,101,116,101])=true then (SR f2.data.toList).map fun v=>⟨2,f1,⟨#[]⟩,v,false⟩
 else if (f0.toList == [99,104,101,99,107])=true then (SR f2.data.toList).map fun v=>⟨4,f1,⟨#[]⟩,v,false⟩
 else none
def JX (f0 f1 f2 f3:ByteArray):Option TK :=
 if (f0.toList == [115,101,116])=true then (SR f3.data.toList).map fun v=>⟨3,f1,Og f2,v,false⟩ else none
def PV (L:List ByteArray):Option TK :=
 if L.any TU=true then none
 else if L.length=3 then JY (Yh L 0) (Yh L 1) (Yh L 2)
 else if L.length=4 then JX (Yh L 0) (Yh L 1) (Yh L 2) (Yh L 3)
 else none
def tU (w:World) (v:Value) (L:List ByteArray):Prop :=
 ∃ao cap,v=.slice ao L.length cap∧L.length≤cap∧cap≤maxLen ∧
  (L=[]∨∃b off,ao=some ⟨b,off,none⟩∧b<w.heap.size∧∀i,i<L.length→w.cell? ⟨b,off+i,none⟩=some (.string (Yh L i)))
theorem tU.below (h:tU w v L) (hb:Zi w w'):tU w' v L:=by
 obtain ⟨ao,cap,rfl,h1,h2,h3⟩:=h;refine ⟨ao,cap,rfl,h1,h2,h3.imp id ?_⟩;rintro ⟨b,off,rfl,hl,hc⟩;exact ⟨b,off,rfl,ZY hl hb.size,fun i hi=>(hb.cell (p:=⟨b,off+i,none⟩) hl).trans (hc i hi)⟩
def JW (w:World) (L:List ByteArray) (e:Ending) (w':World):Prop:=∃(o:TK) (ok:Bool),e=.returned (.tuple #[MW o,.bool ok])∧Zi w w'∧ok=(PV L).isSome∧∀x,PV L=some x→o=x
theorem JW.no {o:TK} (h:PV L=none) (hb:Zi w w'):JW w L (.returned (.tuple #[MW o,.bool false])) w':=⟨o,false,rfl,hb,by rw [h];rfl,fun x hx=>by rw [h] at hx;cases hx⟩
theorem JW.yes {o:TK} (h:PV L=some o) (hb:Zi w w'):JW w L (.returned (.tuple #[MW o,.bool true])) w':=⟨o,true,rfl,hb,by rw [h];rfl,fun x hx=>by rw [h] at hx;injection hx⟩
theorem QS (hb:Zi w w1) {c e:Value} (X:St w1 w.heap.size [a,b,c,d,e]) (o:TK) :
    Zi w (((((w1.setCell ⟨w.heap.size,0,none⟩ (.int .i64 o.kind)).setCell ⟨w.heap.size,1,none⟩ (.string o.path)).setCell ⟨w.heap.size,2,none⟩ (.string o.data)).setCell ⟨w.heap.size,3,none⟩ (.int .i64 o.XT)).setCell ⟨w.heap.size,4,none⟩ (.bool o.seq)) ∧
    St (((((w1.setCell ⟨w.heap.size,0,none⟩ (.int .i64 o.kind)).setCell ⟨w.heap.size,1,none⟩ (.string o.path)).setCell ⟨w.heap.size,2,none⟩ (.string o.data)).setCell ⟨w.heap.size,3,none⟩ (.int .i64 o.XT)).setCell ⟨w.heap.size,4,none⟩ (.bool o.seq)) w.heap.size [.int .i64 o.kind,.string o.path,.string o.data,.int .i64 o.XT,.bool o.seq] :=
 ⟨((((hb.setCell YR _).setCell YR _).setCell YR _).setCell YR _).setCell YR _,((((X.set 0 _).set 1 _).set 2 _).set 3 _).set 4 _⟩
def Pv (r:Nat):Bool:=decide (r<33) || decide (126<r)
theorem Nx (W:World) (x:Nat) (hx:x≤1114111):Calls Tryz.prog 58 #[.int .i32 (x:Int)] W fun e w'=>e=.returned (.bool (Pv x))∧w'=W:=by
 by_cases h1:x<33
 · have yo:(x:Int)<33:=by omega
   have HB:Hid (Pv x=true):=by show _=_;unfold Pv;rw [Zm h1];rfl
   go_enter Tryz.func58,Tryz.ntmps58
   go_wp2;go_ret;exact ⟨by rw [HB.out];rfl,rfl⟩
 have yo:¬(x:Int)<33:=by omega
 by_cases h2:126<x
 · have lR:(126:Int)<(x:Int):=by omega
   have HB:Hid (Pv x=true):=by show _=_;unfold Pv;rw [Zm h2,Bool.or_true]
   go_enter Tryz.func58,Tryz.ntmps58
   go_wp2;go_ret;exact ⟨by rw [HB.out];rfl,rfl⟩
 have lR:¬(126:Int)<(x:Int):=by omega
 have HB:Hid (Pv x=false):=by show _=_;unfold Pv;rw [Zo h1,Zo h2];rfl
 go_enter Tryz.func58,Tryz.ntmps58
 go_wp2;go_ret;exact ⟨by rw [HB.out];rfl,rfl⟩
theorem Ap (w:World):PredAtRunes Tryz.prog 58 #[] Pv w:=fun W x hx _=>by
 refine (Nx W x hx).mono ?_;rintro e w' ⟨rfl,rfl⟩;exact ⟨rfl,0,rfl⟩
theorem Fz:∀args w,(callFunc 58 args).run Tryz.prog w=.ok (.enter 58 args) w:=enters_of Tryz.func58 (by kernel_rfl) rfl
theorem BI (s:ByteArray):∀(f pos:Nat),s.size≤pos+f→(0≤Lib.idxFuncFrom Pv true s f pos↔(s.data.toList.drop pos).all K8=false)
 | 0,pos,h=>by
  have hd:s.data.toList.drop pos=[]:=XS (by rw [Tx];omega);rw [hd]
  simp [Lib.idxFuncFrom]
 | f+1,pos,h=>by
  by_cases hp:pos<s.size
  · rw [drop_at s pos hp,VR]
    unfold Lib.idxFuncFrom;rw [Z0 hp]
    by_cases ha:s[pos].toNat<128
    · rw [decode_ascii s pos hp ha]
      simp only []
      cases hb:Pv s[pos].toNat with
      | true =>
       rw [Z0 rfl];have hno:K8 s[pos]=false:=by
        unfold Pv at hb;unfold K8
        simp at hb ⊢
        omega
       rw [hno]
       simp
      | false =>
       rw [Z1 (by decide)];have sh:K8 s[pos]=true:=by
        unfold Pv at hb;rw [xG]
        simp at hb
        omega
       rw [sh,Xz];exact BI s f (pos+1) (by omega)
    have hh:=decode_high s pos hp (by omega);have hb:Pv (Utf8.decode s pos).1=true:=by unfold Pv;simp;omega
    rw [Z0 hb];have hno:K8 s[pos]=false:=by unfold K8;simp;omega
    rw [hno]
    simp
  rw [Lib.idxFuncFrom_end _ _ _ _ _ hp];have hd:s.data.toList.drop pos=[]:=XS (by rw [Tx];omega);rw [hd]
  simp
theorem JU (w:World) (b:ByteArray):Calls Tryz.prog 25 #[.string b] w (Wj w (.bool (!Wi b))):=by
 by_cases h0:b.size=0
 · have hn:b.data.toList=[]:=Zg (by rw [Tx];exact h0)
   have hz:(b.toList == [])=true:=by rw [Mg,hn];rfl
   have HG:Hid (Wi b=false):=by show _=_;unfold Wi;rw [Zo (by omega)];rfl
   clear h0 hn
   go_enter Tryz.func25,Tryz.ntmps25
   go_wp2_with fail
   go_ret;exact ⟨by rw [HG.out];rfl,Yy⟩
 have hz:(b.toList == [])=false:=by
  rw [Mg]
  cases hx:b.data.toList with
  | nil=>have:=Tx b;rw [hx] at this;simp at this;omega
  | cons c r=>rfl
 have hi:0≤Lib.idxFunc Pv true b↔(b.data.toList.drop 0).all K8=false:=BI b b.size 0 (by omega);rw [XR] at hi;have HG:Hid (decide (0≤Lib.idxFunc Pv true b)=!Wi b):=by
  show _=_;unfold Wi;rw [Zm (show 0<b.size by omega),Xz]
  cases hx:b.data.toList.all K8 with
  | true=>rw [Zo (fun h9=>by rw [hi.1 h9] at hx;cases hx)];rfl
  | false=>rw [Zm (hi.2 hx)];rfl
 have HC:=ZU (Tryz.strings_ContainsFunc_runes 58 #[] Fz Pv b w (Ap w));rw [HG.out] at HC;clear h0 hi HG
 go_enter Tryz.func25,Tryz.ntmps25
 go_wp2_with fail
 refine HC.out.mono ?_;rintro e w1 ⟨rfl,b1⟩;have B1:=ZU b1;clear b1 HC
 go_wp2_with fail
 go_ret;exact ⟨rfl,B1.out⟩
def oA (n:TK):List Value:=[.int .i64 n.kind,.string n.path,.string n.data,.int .i64 n.XT,.bool n.seq]
def xF (ns:List TK):List Value:=ns.flatMap oA
theorem Jk (n:TK) (ns:List TK):xF (n :: ns)=oA n++xF ns:=by simp [xF]
theorem Fy:∀(ns:List TK) (i j:Nat),i<ns.length→j<5→(xF ns)[i*5+j]?=(oA (Ql ns i))[j]?
 | [],i,j,h,_=>by simp at h
 | n :: ns,0,j,_,hj=>by
  rw [Jk,Xg,Za,Zy (by show j<5;exact hj)];rfl
 | n :: ns,i+1,j,h,hj=>by
  rw [Jk,Zv (by show 5≤_;omega),show (i+1)*5+j - (oA n).length=i*5+j by show (i+1)*5+j - 5=_;omega,Fy ns i j (by simpa using h) hj]
  rfl
def RQ (e:TypeId) (w:World) (lo:Nat) (v:Value) (ns:List TK):Prop:=w.ownsRow lo e 5 v ns.length (xF ns)
theorem RQ.rd (h:RQ e w lo v ns):JZ w v ns:=by
 rcases h.2 with ⟨rfl,h0⟩ | ⟨g,cap,cur,rfl,hb,hg,hn,hm,hs,ht⟩
 · have:ns=[]:=Zg h0
   subst this;exact ⟨none,0,rfl,YR,Zu _,.inl rfl⟩
 refine ⟨_,cap,rfl,hn,hm,.inr ⟨g,0,rfl,(Z3.1 hg).1,fun i hi=>?_⟩⟩;have c:∀j,j<5→w.cell? ⟨g,0+(i*5+j),none⟩=(oA (Ql ns i))[j]?:=fun j hj=>by
  have hh:=Fy ns i j hi hj;have h9:(oA (Ql ns i))[j]?=some ((oA (Ql ns i)).getD j undef):=by
   match j,hj with
   | 0,_=>rfl
   | 1,_=>rfl
   | 2,_=>rfl
   | 3,_=>rfl
   | 4,_=>rfl
  rw [h9] at hh;have:=Ys h (g:=g) rfl (i*5+j) _ hh;rw [YY] at this;rw [this,h9]
 exact ⟨c 0 (by omega),c 1 (by omega),c 2 (by omega),c 3 (by omega),c 4 (by omega)⟩
theorem RQ.below (h:RQ e w lo v ns) (hb:Zi w w'):RQ e w' lo v ns:=by
 refine ⟨h.1,?_⟩
 rcases h.2 with hn | ⟨g,cap,cur,rfl,hbg,hgg,rest⟩
 · exact .inl hn
 exact .inr ⟨g,cap,cur,rfl,hbg,by rw [hb.block g (Z3.1 hgg).1];exact hgg,rest⟩
theorem RQ.mono {lo':Nat} (h:RQ e w lo v ns) (hl:lo'≤lo):RQ e w lo' v ns:=by
 refine ⟨h.1,?_⟩
 rcases h.2 with hn | ⟨g,cap,cur,rfl,hbg,rest⟩
 · exact .inl hn
 exact .inr ⟨g,cap,cur,rfl,ZJ hl hbg,rest⟩
theorem RQ.slice (h:RQ e w lo v ns):∃a c,v=.slice a ns.length c:=by
 obtain ⟨a,c,h0,_⟩:=h.rd.len;exact ⟨a,c,h0⟩
def oz (L:List ByteArray):Prop:=∀i,(Yh L i).size≤1048576
def U8:List ByteArray→Option (List Int)
 | []=>some []
 | b :: L=>match SR b.data.toList with | none=>none | some v=>(U8 L).map fun r=>v :: r
theorem K7:∀(L:List ByteArray) (b:ByteArray),U8 (L++[b])=match U8 L with | none=>none | some r=>(SR b.data.toList).map fun v=>r++[v]
 | [],b=>by simp only [Zd,U8];cases SR b.data.toList <;> rfl
 | a :: L,b=>by
  simp only [Y3,U8,K7 L b]
  cases SR a.data.toList with
  | none=>rfl
  | some x =>
   cases U8 L with
   | none=>rfl
   | some r=>cases SR b.data.toList <;> rfl
theorem Ao :∀ {k:Nat},U8 (L.take k)=none→U8 L=none:=by
 intro k h;rw [←YQ k L];generalize L.take k=A at *;generalize L.drop k=B at *
 induction A with
 | nil=>simp [U8] at h
 | cons a A ih =>
  simp only [Y3,U8] at h ⊢
  cases hx:SR a.data.toList with
  | none=>rfl
  | some x =>
   rw [hx] at h
   cases hy:U8 A with
   | none=>rw [ih hy];rfl
   | some r=>rw [hy] at h;cases h
theorem ML:∀ {L:List ByteArray} {r:List Int},U8 L=some r→r.length=L.length
 | [],r,h=>by injection h with h;rw [←h];rfl
 | a :: L,r,h=>by
  simp only [U8] at h
  cases hx:SR a.data.toList with
  | none=>rw [hx] at h;cases h
  | some x =>
   rw [hx] at h
   cases hy:U8 L with
   | none=>rw [hy] at h;cases h
   | some q =>
    rw [hy] at h
    injection h with h
    rw [←h,ZE,ML hy,ZE]
theorem Tryz.oy:(Tryz.prog.info? 2).map (fun i=>(i.zero,i.size,i.bytes))=some (some (.int .i64 0),1,8):=by kernel_rfl
theorem xE {e:Nat} (h:i<e):Yh (L.take e) i=Yh L i:=by
 unfold Yh
 simp [List.getD,h]
theorem Fx (L:List ByteArray) (e i:Nat):Yh (L.drop e) i=Yh L (e+i):=by
 unfold Yh
 simp [List.getD,Yt]
theorem sf {c:Nat} (h:tU w (.slice (some ⟨B,o,none⟩) n c) L) (a m:Nat) (S:a+m≤n):tU w (.slice (some ⟨B,o+a,none⟩) m (c - a)) ((L.drop a).take m):=by
 obtain ⟨ao,cap,e,h1,h2,h3⟩:=h
 simp only [ZC] at e
 obtain ⟨rfl,rfl,rfl⟩:=e;have hl:((L.drop a).take m).length=m:=by rw [Zw,ZS];omega
 refine ⟨_,_,by rw [hl],by omega,by omega,?_⟩
 rcases h3 with rfl | ⟨b',o',e',hb,hc⟩
 · exact .inl (by simp)
 injection e' with e'
 injection e' with e1 e2
 subst e1 e2;refine .inr ⟨_,_,rfl,hb,fun i hi=>?_⟩;rw [hl] at hi;rw [Xu,hc (a+i) (by omega),xE hi,Fx]
def kG:Nat→List ByteArray→Option (List TK)
 | 0,_=>none
 | n+1,L=>match PV (L.take (L.findIdx TU)) with
  | none=>none
  | some o=>if L.findIdx TU<L.length then (kG n (L.drop (L.findIdx TU+1))).map fun r=>o :: r else some [o]
theorem xD (W:World) (lo:Nat) (hl:lo≤W.heap.size) (o:TK):RQ 159 (W.alloc (.cells #[.int .i64 o.kind,.string o.path,.string o.data,.int .i64 o.XT,.bool o.seq] 159)) lo (.slice (some ⟨W.heap.size,0,none⟩) 1 1) [o] :=
 WX (base:=lo) (e:=159) (size:=5) W #[.int .i64 o.kind,.string o.path,.string o.data,.int .i64 o.XT,.bool o.seq] 1 hl (by decide) rfl
theorem xC (w:World) (g cap:Nat) (L:List ByteArray) (hL:0<L.length) (qn:L.length≤cap) (hc:cap≤maxLen) (hcl:∀i,i<L.length→w.cell? ⟨g,i,none⟩=some (.string (Yh L i))) (hg:g<w.heap.size) :
    Calls Tryz.prog 56 #[.slice (some ⟨g,0,none⟩) L.length cap,.func (.func 25) #[] #[]] w fun e w'=>∃i:Int,e=.returned (.int .i64 i)∧decide (0≤i)=!(L.all Wi)∧Zi w w':=by
 unfold maxLen at hc;have Qs:=ZU hcl;clear hcl
 go_enter Tryz.func56,Tryz.ntmps56
 go_wp2_with fail
 go_loopw [8] (fun v8 wr=>∃i:Nat,v8=.int .i64 (i:Int)∧i≤L.length∧Hid (Zi w wr)∧Hid (∀j,j<i→Wi (Yh L j)=true)) (fun i _=>L.length - (intOf i).toNat)
 case atStart=>exact ⟨0,rfl,Zu _,Yy,fun j hj=>absurd hj (Nat.not_lt_zero _)⟩
 case round =>
  obtain ⟨i,rfl,hi,HB,HA⟩:=hrel
  by_cases hlt:i<L.length
  · have Rj:(i:Int)<(L.length:Int):=by omega
    have c0:=(HB.out.cell (p:=⟨g,i,none⟩) hg).trans (Qs.out i hlt);have R:Hid (Wi (Yh L i)=false→L.all Wi=false):=fun h9=>by
     rw [VQ];exact ⟨_,YP hlt,by rw [←OY hlt,h9];decide⟩
    have Of:Hid (Wi (Yh L i)=true→∀j,j<i+1→Wi (Yh L j)=true):=fun h9 j hj=>by
     by_cases e:j<i
     · exact HA.out j e
     rw [show j=i by omega];exact h9
    clear HA;generalize Yh L i=f at *
    go_wp2_with fail
    refine (JU wr f).mono ?_;rintro e w1 ⟨rfl,b1⟩;have B1:=ZU (WD HB.out b1);clear b1 HB c0
    cases hgd:Wi f with
    | false =>
     have HE:=ZU (R.out hgd);clear R Of hgd
     go_wp2_with fail
     go_ret;exact ⟨(i:Int),rfl,by rw [HE.out,Zm (by omega)];rfl,B1.out⟩
    | true =>
     have HN:=ZU (Of.out hgd);clear R Of hgd
     go_wp2_with fail
     exact ⟨⟨i+1,by go_num,hlt,B1,HN⟩,by simp [intOf];omega⟩
  have Rj:¬(i:Int)<(L.length:Int):=by omega
  have hall:L.all Wi=true:=by
   rw [Yw];intro x hx;obtain ⟨j,hj,e⟩:=Up hx;have:=HA.out j (by omega);rw [OY hj,e] at this;exact this
  have V:=ZU hall;clear hall HA
  go_wp2_with fail
  go_ret;exact ⟨-1,rfl,by rw [V.out];rfl,HB.out⟩
theorem An (w:World) (g cap:Nat) (L:List ByteArray) (hL:0<L.length) (qn:L.length≤cap) (hc:cap≤maxLen) (hcl:∀i,i<L.length→w.cell? ⟨g,i,none⟩=some (.string (Yh L i))) (hg:g<w.heap.size) :
    Calls Tryz.prog 24 #[.slice (some ⟨g,0,none⟩) L.length cap,.func (.func 25) #[] #[]] w (Wj w (.bool (!(L.all Wi)))):=by
 have HI:=ZU (xC w g cap L hL qn hc hcl hg);clear hcl
 go_enter Tryz.func24,Tryz.ntmps24
 go_wp2_with fail
 refine HI.out.mono ?_;rintro e w1 ⟨i,rfl,hi,b1⟩;have B1:=ZU b1;have HD:=ZU hi;clear b1 hi HI
 go_wp2_with fail
 go_ret;exact ⟨by rw [←HD.out];rfl,B1.out⟩
def xA (w:World) (L:List ByteArray) (e:Ending) (w':World):Prop:=∃(vo:Value) (ns:List Int) (ok:Bool),e=.returned (.tuple #[vo,.bool ok])∧Own .i64 2 w' w.heap.size vo ns∧Zi w w'∧ok=(U8 L).isSome∧∀x,U8 L=some x→ns=x
theorem MK (w:World) (b o cap:Nat) (L:List ByteArray) (hL:0<L.length) (qn:L.length≤cap) (hc:cap≤maxLen) (hL1:L.length≤1048577) (hsz:oz L) (hcl:∀i,i<L.length→w.cell? ⟨b,o+i,none⟩=some (.string (Yh L i))) (hb:b<w.heap.size) (hg:Aq w m te pe) :
    Calls Tryz.prog 106 #[.slice (some ⟨b,o,none⟩) L.length cap] w fun e w'=>xA w L e w':=by
 obtain ⟨iq,sd,hq0,sc,rZ⟩:=YN Tryz.oy;unfold maxLen at hc;have Qs:=ZU hcl;have LY:=ZU hsz;have HG:=ZU hg;clear hcl hsz hg
 go_enter Tryz.func106,Tryz.ntmps106
 go_wp2_with fail
 go_loopw [4,11] (fun v4 v11 wr=>∃(i:Nat) (a:Option Addr) (co:Nat) (ns:List Int),v4=.slice a i co∧v11=.int .i64 (i:Int)∧i≤L.length∧Hid (ns.length=i)∧Hid (Own .i64 2 wr w.heap.size (.slice a i co) ns)∧Hid (Zi w wr)∧Hid (U8 (L.take i)=some ns)) (fun _ i _=>L.length - (intOf i).toNat)
 case atStart=>exact ⟨0,none,0,[],rfl,rfl,Zu _,rfl,ZH _ _ _ _,Yy,rfl⟩
 case round =>
  obtain ⟨i,a,co,ns,rfl,rfl,hi,HL,HO,HB,HN⟩:=hrel;have sB:=HB.out.size
  by_cases hlt:i<L.length
  · have Rj:(i:Int)<(L.length:Int):=by omega
    have c0:=(HB.out.cell (p:=⟨b,o+i,none⟩) hb).trans (Qs.out i hlt);have z0:=LY.out i;have htk:U8 (L.take (i+1))=(SR (Yh L i).data.toList).map fun v=>ns++[v]:=by
     rw [TF,ZF hlt,OY hlt];show U8 (L.take i++[L[i]])=_;rw [K7,HN.out]
    have lQ:=ZU htk;clear htk;generalize Yh L i=f at *
    go_wp2_with fail
    refine (Th f wr z0 (HG.out.later HB.out)).mono ?_;rintro e w2 ⟨vv,ok,rfl,b2,hok,hvv⟩;have O2:Hid (Own .i64 2 w2 w.heap.size (.slice a i co) ns):=by
     have:=HO.out;exact ⟨this.1,this.2.imp id fun ⟨g,cap,cur,e1,e2,hg,r⟩=>⟨g,cap,cur,e1,e2,(b2.block _ (Z3.1 hg).1).trans hg,r⟩⟩
    have B2:=ZU (WD HB.out b2);have s2:=B2.out.size;have HQ:=ZU (And.intro hok hvv);clear b2 hok hvv HO HB c0
    cases ok with
    | false =>
     have hno:U8 L=none:=by
      refine Ao (k:=i+1) ?_;rw [lQ.out]
      cases hx:SR f.data.toList with
      | none=>rfl
      | some x=>have:=HQ.out.1;rw [hx] at this;cases this
     have ST:=ZU hno;clear hno lQ HQ HN
     go_wp2_with fail
     go_ret2
     exact ⟨_,[],false,rfl,ZH _ _ _ _,B2.out,by rw [ST.out];rfl,fun x hx=>by rw [ST.out] at hx;cases hx⟩
    | true =>
     have hsome:U8 (L.take (i+1))=some (ns++[vv]):=by
      rw [lQ.out];obtain ⟨x,hx⟩:=Option.isSome_iff_exists.1 HQ.out.1.symm;rw [hx,HQ.out.2 x hx]
      rfl
     have PB:=ZU hsome;have OR:Hid (w2.ownsRow w.heap.size 2 1 (.slice a i co) i (ns.map (Value.int .i64))):=by
      have h9:=O2.out;unfold Own at h9;rw [HL.out] at h9;exact h9
     clear hsome lQ HQ HN O2
     go_wp2_with (at_builtin;go_must (refine wpList_append_lies _ rfl _ _ 31 rfl w.heap.size 2 iq (.int .i64 0) 1 8 Tryz.underlying31 sd hq0 sc rZ rfl (by decide) _ _ _ rfl (OR.out.alloc _) ⟨w2.heap.size,0,none⟩ 1 1 [.int .i64 vv] rfl rfl (XW _ _ _) (by intro u hu;simp at hu;subst hu;rfl) (by decide) ?c3 ?c4 ?c5 _ rfl ?_))
     case c3=>unfold maxLen;omega
     case c4=>omega
     case c5=>first | omega | (simp;omega)
     intro g5 k5 w5 Rb hg5 MJ Nv;have O5:Hid (Own .i64 2 w5 w.heap.size (.slice (some ⟨g5,0,none⟩) (i+1) k5) (ns++[vv])):=by
      unfold Own;rw [ZZ,HL.out,Y6];exact Rb
     have B5:Hid (Zi w w5):=(B2.out.alloc s2 _).grown hg5 (by simp;omega) (fun q hq=>(ZT OR.out q hq).1);clear Rb hg5 MJ Nv OR B2
     go_wp2_with fail
     exact ⟨⟨i+1,some ⟨g5,0,none⟩,k5,ns++[vv],rfl,by go_num,hlt,by show _=_;rw [ZZ,HL.out];rfl,O5,B5,PB⟩,by simp [intOf];omega⟩
  have Rj:¬(i:Int)<(L.length:Int):=by omega
  have hfull:U8 L=some ns:=by
   have:=HN.out
   rwa [Y8 (by omega)] at this
  have HF:=ZU hfull;clear hfull HN
  go_wp2_with fail
  go_ret2
  exact ⟨_,ns,true,rfl,HO.out,HB.out,by rw [HF.out];rfl,fun x hx=>by rw [HF.out] at hx;injection hx⟩
theorem MI (w:World) (ao:Option Addr) (cap:Nat):Calls Tryz.prog 106 #[.slice ao 0 cap] w fun e w'=>xA w [] e w':=by
 go_enter Tryz.func106,Tryz.ntmps106
 go_wp2_with fail
 go_loopw [4,11] (fun v4 v11 wr=>v4=.slice none 0 0∧v11=.int .i64 0∧wr=w) (fun _ _ _=>0)
 case atStart=>exact ⟨rfl,rfl,rfl⟩
 case round =>
  obtain ⟨rfl,rfl,rfl⟩:=hrel
  go_wp2_with fail
  go_ret2
  exact ⟨_,[],true,rfl,ZH _ _ _ _,Yy,rfl,fun x hx=>by injection hx⟩
theorem MH (w:World) (v:Value) (L:List ByteArray) (h:tU w v L) (hL1:L.length≤1048577) (hsz:oz L) (hg:Aq w m te pe):Calls Tryz.prog 106 #[v] w fun e w'=>xA w L e w':=by
 obtain ⟨ao,cap,rfl,h1,h2,h3⟩:=h
 by_cases h0:0<L.length
 · rcases h3 with h3 | ⟨b,o,rfl,hb,hc⟩
   · rw [h3] at h0;simp at h0
   exact MK w b o cap L h0 h1 h2 hL1 hsz hc hb hg
 have hn:L=[]:=Zg (by omega);subst hn;exact MI w ao cap
def Fw:List Value:=[.string ⟨#[99,114,101,97,116,101]⟩,.int .i64 1,.bool false,.bool true,.bool false,.string ⟨#[115,101,113]⟩,.int .i64 1,.bool true,.bool true,.bool false,.string ⟨#[100,101,108,101,116,101]⟩,.int .i64 2,.bool false,.bool false,.bool true,.string ⟨#[115,101,116]⟩,.int .i64 3,.bool false,.bool true,.bool true,.string ⟨#[99,104,101,99,107]⟩,.int .i64 4,.bool false,.bool false,.bool true]
def tT (w:World):Prop:=2<w.heap.size∧w.rangeAt 2 0 Fw
theorem tT.later (h:tT w) (hb:Zi w w'):tT w':=⟨ZY h.1 hb.size,fun j v hv=>(hb.cell (p:=⟨2,0+j,none⟩) h.1).trans (h.2 j v hv)⟩
def Tl (f:ByteArray):Option (Int × Bool × Bool × Bool) :=
 if (f.toList == [99,114,101,97,116,101])=true then some (1,false,true,false)
 else if (f.toList == [115,101,113])=true then some (1,true,true,false)
 else if (f.toList == [100,101,108,101,116,101])=true then some (2,false,false,true)
 else if (f.toList == [115,101,116])=true then some (3,false,true,true)
 else if (f.toList == [99,104,101,99,107])=true then some (4,false,false,true)
 else none
def lP:List (List UInt8):=[[99,114,101,97,116,101],[115,101,113],[100,101,108,101,116,101],[115,101,116],[99,104,101,99,107]]
def xz (w:World) (f:ByteArray) (e:Ending) (w':World):Prop :=
 Zi w w'∧∃(wd:ByteArray) (k:Int) (s d v known:Bool),e=.returned (.tuple #[.agg #[.string wd,.int .i64 k,.bool s,.bool d,.bool v],.bool known])∧known=(Tl f).isSome∧∀x,Tl f=some x→x=(k,s,d,v)
theorem xz.yes {d v:Bool} (h:Tl f=some (k,s,d,v)) (hb:Zi w w'):xz w f (.returned (.tuple #[.agg #[.string wd,.int .i64 k,.bool s,.bool d,.bool v],.bool true])) w' :=
 ⟨hb,wd,k,s,d,v,true,rfl,by rw [h];rfl,fun x hx=>by rw [h] at hx;injection hx with hx;exact hx.symm⟩
theorem xz.no {d v:Bool} (h:Tl f=none) (hb:Zi w w'):xz w f (.returned (.tuple #[.agg #[.string wd,.int .i64 k,.bool s,.bool d,.bool v],.bool false])) w' :=
 ⟨hb,wd,k,s,d,v,false,rfl,by rw [h];rfl,fun x hx=>by rw [h] at hx;cases hx⟩
theorem gI (W:World):(Instr.index 269 (.agg Fw.toArray) (.int .i64 0)).run Tryz.prog W=.ok (.agg #[.string ⟨#[99,114,101,97,116,101]⟩,.int .i64 1,.bool false,.bool true,.bool false]) W:=by kernel_rfl
theorem gH (W:World):(Instr.index 269 (.agg Fw.toArray) (.int .i64 1)).run Tryz.prog W=.ok (.agg #[.string ⟨#[115,101,113]⟩,.int .i64 1,.bool true,.bool true,.bool false]) W:=by kernel_rfl
theorem gG (W:World):(Instr.index 269 (.agg Fw.toArray) (.int .i64 2)).run Tryz.prog W=.ok (.agg #[.string ⟨#[100,101,108,101,116,101]⟩,.int .i64 2,.bool false,.bool false,.bool true]) W:=by kernel_rfl
theorem gF (W:World):(Instr.index 269 (.agg Fw.toArray) (.int .i64 3)).run Tryz.prog W=.ok (.agg #[.string ⟨#[115,101,116]⟩,.int .i64 3,.bool false,.bool true,.bool true]) W:=by kernel_rfl
theorem gE (W:World):(Instr.index 269 (.agg Fw.toArray) (.int .i64 4)).run Tryz.prog W=.ok (.agg #[.string ⟨#[99,104,101,99,107]⟩,.int .i64 4,.bool false,.bool false,.bool true]) W:=by kernel_rfl
theorem MG (hb:Zi w w1) {c e:Value} (X:St w1 w.heap.size [a,b,c,d,e]) (wd:ByteArray) (k:Int) (s dd v:Bool) :
    Zi w (((((w1.setCell ⟨w.heap.size,0,none⟩ (.string wd)).setCell ⟨w.heap.size,1,none⟩ (.int .i64 k)).setCell ⟨w.heap.size,2,none⟩ (.bool s)).setCell ⟨w.heap.size,3,none⟩ (.bool dd)).setCell ⟨w.heap.size,4,none⟩ (.bool v)) ∧
    St (((((w1.setCell ⟨w.heap.size,0,none⟩ (.string wd)).setCell ⟨w.heap.size,1,none⟩ (.int .i64 k)).setCell ⟨w.heap.size,2,none⟩ (.bool s)).setCell ⟨w.heap.size,3,none⟩ (.bool dd)).setCell ⟨w.heap.size,4,none⟩ (.bool v)) w.heap.size [.string wd,.int .i64 k,.bool s,.bool dd,.bool v] :=
 ⟨((((hb.setCell YR _).setCell YR _).setCell YR _).setCell YR _).setCell YR _,((((X.set 0 _).set 1 _).set 2 _).set 3 _).set 4 _⟩
theorem Tk {x y:List UInt8} {t:Bool} (h:(x == y)=t):(y == x)=t:=by rw [←h];exact BEq.comm
theorem Dz (w:World) (f:ByteArray) (hg:tT w):Calls Tryz.prog 150 #[.string f] w fun e w'=>xz w f e w':=by
 have hA:Zi w (w.alloc (.cells #[.string ⟨#[]⟩,.int .i64 0,.bool false,.bool false,.bool false] 226)):=Yy.alloc YR _;have BA:=ZU hA;have X:=ZU (St.new w #[.string ⟨#[]⟩,.int .i64 0,.bool false,.bool false,.bool false] 226);have HG:=ZU (hg.later hA);have HX0:=ZU gI;have GL:=ZU gH;have Am:=ZU gG;have Ch:=ZU gF;have Z:=ZU gE;clear hA hg
 go_enter Tryz.func150,Tryz.ntmps150
 go_wp2_with (refine YM rfl 269 _ rfl 2 0 rfl Fw _ HG.out.2 Tryz.underlying269 rfl (by kernel_rfl) ?_)
 generalize w.alloc _=w1 at *;generalize Fw.toArray=FA at *
 go_loopw [7] (fun v7 wr=>∃i:Nat,v7=.int .i64 (i:Int)∧i≤5∧Hid (Zi w wr)∧Hid (St wr w.heap.size [.string ⟨#[]⟩,.int .i64 0,.bool false,.bool false,.bool false])∧Hid (∀(j:Nat) (l:List UInt8),j<i→lP[j]?=some l→(f.toList == l)=false)) (fun i _=>5 - (intOf i).toNat)
 case atStart=>exact ⟨0,rfl,by omega,BA,X,fun j l hj=>absurd hj (Nat.not_lt_zero _)⟩
 case round =>
  obtain ⟨i,rfl,hi,HB,HS,HN⟩:=hrel;clear BA X;have sB:=HB.out.size;have sX:=HS.out.lt;have hcase:i=0∨i=1∨i=2∨i=3∨i=4∨i=5:=by omega
  rcases hcase with rfl | rfl | rfl | rfl | rfl | rfl
  · have hx:=HX0.out wr
    have bA:Zi wr (wr.alloc (.cells #[.string ⟨#[99,114,101,97,116,101]⟩,.int .i64 1,.bool false,.bool true,.bool false] 226)):=Yy.alloc YR _;have BX:=ZU (WD HB.out bA);have SX:=ZU (HS.out.below bA);clear bA HX0 GL Am Ch Z
    by_cases q:(f.toList == [99,114,101,97,116,101])=true
    · have HF:Hid (Tl f=some (1,false,true,false)):=by
       show _=_;unfold Tl;rw [Z0 q]
      have q2:([99,114,101,97,116,101] == f.toList)=true:=Tk q;clear HN q;have x0:=HS.out.fz;have y0:=HS.out.cl 0 _ rfl;have y1:=HS.out.cl 1 _ rfl;have y2:=HS.out.cl 2 _ rfl;have y3:=HS.out.cl 3 _ rfl;have y4:=HS.out.cl 4 _ rfl
      go_wp2_with fail
      obtain ⟨b9,x9⟩:=MG HB.out HS.out ⟨#[99,114,101,97,116,101]⟩ 1 false true false;have s9:=b9.size
      replace x9:=x9.below (Yy.alloc YR (.cells #[.string ⟨#[99,114,101,97,116,101]⟩,.int .i64 1,.bool false,.bool true,.bool false] 226))
      replace b9:=b9.alloc s9 (.cells #[.string ⟨#[99,114,101,97,116,101]⟩,.int .i64 1,.bool false,.bool true,.bool false] 226)
      have d0:=x9.cl 0 _ rfl;have d1:=x9.cl 1 _ rfl;have d2:=x9.cl 2 _ rfl;have d3:=x9.cl 3 _ rfl;have d4:=x9.cl 4 _ rfl;exact ZW (v:=.tuple #[.agg #[.string ⟨#[99,114,101,97,116,101]⟩,.int .i64 1,.bool false,.bool true,.bool false],.bool true]) (by simp [results,Tryz.results150,go_sem,d0,d1,d2,d3,d4]) rfl (xz.yes HF.out b9)
    have q1:(f.toList == [99,114,101,97,116,101])=false:=by simpa using q
    have q2:([99,114,101,97,116,101] == f.toList)=false:=Tk q1;have PB:Hid (∀(j:Nat) (l:List UInt8),j<1→lP[j]?=some l→(f.toList == l)=false):=fun j l hj hl=>by
     by_cases e:j<0
     · exact HN.out j l e hl
     obtain rfl:j=0:=by omega
     injection hl with hl
     rw [←hl];exact q1
    clear HN q q1
    go_wp2_with fail
    exact ⟨⟨1,by go_num,by omega,BX,SX,PB⟩,by simp [intOf]⟩
  · have hx:=GL.out wr
    have n0:(f.toList == [99,114,101,97,116,101])=false:=HN.out 0 _ (by omega) rfl;have bA:Zi wr (wr.alloc (.cells #[.string ⟨#[115,101,113]⟩,.int .i64 1,.bool true,.bool true,.bool false] 226)):=Yy.alloc YR _;have BX:=ZU (WD HB.out bA);have SX:=ZU (HS.out.below bA);clear bA HX0 GL Am Ch Z
    by_cases q:(f.toList == [115,101,113])=true
    · have HF:Hid (Tl f=some (1,true,true,false)):=by
       show _=_;unfold Tl;rw [Z1 (by rw [n0];decide),Z0 q]
      have q2:([115,101,113] == f.toList)=true:=Tk q;clear HN q n0;have x0:=HS.out.fz;have y0:=HS.out.cl 0 _ rfl;have y1:=HS.out.cl 1 _ rfl;have y2:=HS.out.cl 2 _ rfl;have y3:=HS.out.cl 3 _ rfl;have y4:=HS.out.cl 4 _ rfl
      go_wp2_with fail
      obtain ⟨b9,x9⟩:=MG HB.out HS.out ⟨#[115,101,113]⟩ 1 true true false;have s9:=b9.size
      replace x9:=x9.below (Yy.alloc YR (.cells #[.string ⟨#[115,101,113]⟩,.int .i64 1,.bool true,.bool true,.bool false] 226))
      replace b9:=b9.alloc s9 (.cells #[.string ⟨#[115,101,113]⟩,.int .i64 1,.bool true,.bool true,.bool false] 226)
      have d0:=x9.cl 0 _ rfl;have d1:=x9.cl 1 _ rfl;have d2:=x9.cl 2 _ rfl;have d3:=x9.cl 3 _ rfl;have d4:=x9.cl 4 _ rfl;exact ZW (v:=.tuple #[.agg #[.string ⟨#[115,101,113]⟩,.int .i64 1,.bool true,.bool true,.bool false],.bool true]) (by simp [results,Tryz.results150,go_sem,d0,d1,d2,d3,d4]) rfl (xz.yes HF.out b9)
    have q1:(f.toList == [115,101,113])=false:=by simpa using q
    have q2:([115,101,113] == f.toList)=false:=Tk q1;have PB:Hid (∀(j:Nat) (l:List UInt8),j<2→lP[j]?=some l→(f.toList == l)=false):=fun j l hj hl=>by
     by_cases e:j<1
     · exact HN.out j l e hl
     obtain rfl:j=1:=by omega
     injection hl with hl
     rw [←hl];exact q1
    clear HN q q1 n0
    go_wp2_with fail
    exact ⟨⟨2,by go_num,by omega,BX,SX,PB⟩,by simp [intOf]⟩
  · have hx:=Am.out wr
    have n0:(f.toList == [99,114,101,97,116,101])=false:=HN.out 0 _ (by omega) rfl;have n1:(f.toList == [115,101,113])=false:=HN.out 1 _ (by omega) rfl;have bA:Zi wr (wr.alloc (.cells #[.string ⟨#[100,101,108,101,116,101]⟩,.int .i64 2,.bool false,.bool false,.bool true] 226)):=Yy.alloc YR _;have BX:=ZU (WD HB.out bA);have SX:=ZU (HS.out.below bA);clear bA HX0 GL Am Ch Z
    by_cases q:(f.toList == [100,101,108,101,116,101])=true
    · have HF:Hid (Tl f=some (2,false,false,true)):=by
       show _=_;unfold Tl;rw [Z1 (by rw [n0];decide),Z1 (by rw [n1];decide),Z0 q]
      have q2:([100,101,108,101,116,101] == f.toList)=true:=Tk q;clear HN q n0 n1;have x0:=HS.out.fz;have y0:=HS.out.cl 0 _ rfl;have y1:=HS.out.cl 1 _ rfl;have y2:=HS.out.cl 2 _ rfl;have y3:=HS.out.cl 3 _ rfl;have y4:=HS.out.cl 4 _ rfl
      go_wp2_with fail
      obtain ⟨b9,x9⟩:=MG HB.out HS.out ⟨#[100,101,108,101,116,101]⟩ 2 false false true;have s9:=b9.size
      replace x9:=x9.below (Yy.alloc YR (.cells #[.string ⟨#[100,101,108,101,116,101]⟩,.int .i64 2,.bool false,.bool false,.bool true] 226))
      replace b9:=b9.alloc s9 (.cells #[.string ⟨#[100,101,108,101,116,101]⟩,.int .i64 2,.bool false,.bool false,.bool true] 226)
      have d0:=x9.cl 0 _ rfl;have d1:=x9.cl 1 _ rfl;have d2:=x9.cl 2 _ rfl;have d3:=x9.cl 3 _ rfl;have d4:=x9.cl 4 _ rfl;exact ZW (v:=.tuple #[.agg #[.string ⟨#[100,101,108,101,116,101]⟩,.int .i64 2,.bool false,.bool false,.bool true],.bool true]) (by simp [results,Tryz.results150,go_sem,d0,d1,d2,d3,d4]) rfl (xz.yes HF.out b9)
    have q1:(f.toList == [100,101,108,101,116,101])=false:=by simpa using q
    have q2:([100,101,108,101,116,101] == f.toList)=false:=Tk q1;have PB:Hid (∀(j:Nat) (l:List UInt8),j<3→lP[j]?=some l→(f.toList == l)=false):=fun j l hj hl=>by
     by_cases e:j<2
     · exact HN.out j l e hl
     obtain rfl:j=2:=by omega
     injection hl with hl
     rw [←hl];exact q1
    clear HN q q1 n0 n1
    go_wp2_with fail
    exact ⟨⟨3,by go_num,by omega,BX,SX,PB⟩,by simp [intOf]⟩
  · have hx:=Ch.out wr
    have n0:(f.toList == [99,114,101,97,116,101])=false:=HN.out 0 _ (by omega) rfl;have n1:(f.toList == [115,101,113])=false:=HN.out 1 _ (by omega) rfl;have n2:(f.toList == [100,101,108,101,116,101])=false:=HN.out 2 _ (by omega) rfl;have bA:Zi wr (wr.alloc (.cells #[.string ⟨#[115,101,116]⟩,.int .i64 3,.bool false,.bool true,.bool true] 226)):=Yy.alloc YR _;have BX:=ZU (WD HB.out bA);have SX:=ZU (HS.out.below bA);clear bA HX0 GL Am Ch Z
    by_cases q:(f.toList == [115,101,116])=true
    · have HF:Hid (Tl f=some (3,false,true,true)):=by
       show _=_;unfold Tl;rw [Z1 (by rw [n0];decide),Z1 (by rw [n1];decide),Z1 (by rw [n2];decide),Z0 q]
      have q2:([115,101,116] == f.toList)=true:=Tk q;clear HN q n0 n1 n2;have x0:=HS.out.fz;have y0:=HS.out.cl 0 _ rfl;have y1:=HS.out.cl 1 _ rfl;have y2:=HS.out.cl 2 _ rfl;have y3:=HS.out.cl 3 _ rfl;have y4:=HS.out.cl 4 _ rfl
      go_wp2_with fail
      obtain ⟨b9,x9⟩:=MG HB.out HS.out ⟨#[115,101,116]⟩ 3 false true true;have s9:=b9.size
      replace x9:=x9.below (Yy.alloc YR (.cells #[.string ⟨#[115,101,116]⟩,.int .i64 3,.bool false,.bool true,.bool true] 226))
      replace b9:=b9.alloc s9 (.cells #[.string ⟨#[115,101,116]⟩,.int .i64 3,.bool false,.bool true,.bool true] 226)
      have d0:=x9.cl 0 _ rfl;have d1:=x9.cl 1 _ rfl;have d2:=x9.cl 2 _ rfl;have d3:=x9.cl 3 _ rfl;have d4:=x9.cl 4 _ rfl;exact ZW (v:=.tuple #[.agg #[.string ⟨#[115,101,116]⟩,.int .i64 3,.bool false,.bool true,.bool true],.bool true]) (by simp [results,Tryz.results150,go_sem,d0,d1,d2,d3,d4]) rfl (xz.yes HF.out b9)
    have q1:(f.toList == [115,101,116])=false:=by simpa using q
    have q2:([115,101,116] == f.toList)=false:=Tk q1;have PB:Hid (∀(j:Nat) (l:List UInt8),j<4→lP[j]?=some l→(f.toList == l)=false):=fun j l hj hl=>by
     by_cases e:j<3
     · exact HN.out j l e hl
     obtain rfl:j=3:=by omega
     injection hl with hl
     rw [←hl];exact q1
    clear HN q q1 n0 n1 n2
    go_wp2_with fail
    exact ⟨⟨4,by go_num,by omega,BX,SX,PB⟩,by simp [intOf]⟩
  · have hx:=Z.out wr
    have n0:(f.toList == [99,114,101,97,116,101])=false:=HN.out 0 _ (by omega) rfl;have n1:(f.toList == [115,101,113])=false:=HN.out 1 _ (by omega) rfl;have n2:(f.toList == [100,101,108,101,116,101])=false:=HN.out 2 _ (by omega) rfl;have n3:(f.toList == [115,101,116])=false:=HN.out 3 _ (by omega) rfl;have bA:Zi wr (wr.alloc (.cells #[.string ⟨#[99,104,101,99,107]⟩,.int .i64 4,.bool false,.bool false,.bool true] 226)):=Yy.alloc YR _;have BX:=ZU (WD HB.out bA);have SX:=ZU (HS.out.below bA);clear bA HX0 GL Am Ch Z
    by_cases q:(f.toList == [99,104,101,99,107])=true
    · have HF:Hid (Tl f=some (4,false,false,true)):=by
       show _=_;unfold Tl;rw [Z1 (by rw [n0];decide),Z1 (by rw [n1];decide),Z1 (by rw [n2];decide),Z1 (by rw [n3];decide),Z0 q]
      have q2:([99,104,101,99,107] == f.toList)=true:=Tk q;clear HN q n0 n1 n2 n3;have x0:=HS.out.fz;have y0:=HS.out.cl 0 _ rfl;have y1:=HS.out.cl 1 _ rfl;have y2:=HS.out.cl 2 _ rfl;have y3:=HS.out.cl 3 _ rfl;have y4:=HS.out.cl 4 _ rfl
      go_wp2_with fail
      obtain ⟨b9,x9⟩:=MG HB.out HS.out ⟨#[99,104,101,99,107]⟩ 4 false false true;have s9:=b9.size
      replace x9:=x9.below (Yy.alloc YR (.cells #[.string ⟨#[99,104,101,99,107]⟩,.int .i64 4,.bool false,.bool false,.bool true] 226))
      replace b9:=b9.alloc s9 (.cells #[.string ⟨#[99,104,101,99,107]⟩,.int .i64 4,.bool false,.bool false,.bool true] 226)
      have d0:=x9.cl 0 _ rfl;have d1:=x9.cl 1 _ rfl;have d2:=x9.cl 2 _ rfl;have d3:=x9.cl 3 _ rfl;have d4:=x9.cl 4 _ rfl;exact ZW (v:=.tuple #[.agg #[.string ⟨#[99,104,101,99,107]⟩,.int .i64 4,.bool false,.bool false,.bool true],.bool true]) (by simp [results,Tryz.results150,go_sem,d0,d1,d2,d3,d4]) rfl (xz.yes HF.out b9)
    have q1:(f.toList == [99,104,101,99,107])=false:=by simpa using q
    have q2:([99,104,101,99,107] == f.toList)=false:=Tk q1;have PB:Hid (∀(j:Nat) (l:List UInt8),j<5→lP[j]?=some l→(f.toList == l)=false):=fun j l hj hl=>by
     by_cases e:j<4
     · exact HN.out j l e hl
     obtain rfl:j=4:=by omega
     injection hl with hl
     rw [←hl];exact q1
    clear HN q q1 n0 n1 n2 n3
    go_wp2_with fail
    exact ⟨⟨5,by go_num,by omega,BX,SX,PB⟩,by simp [intOf]⟩
  have BX:=HB;have SX:=HS;have n0:(f.toList == [99,114,101,97,116,101])=false:=HN.out 0 _ (by omega) rfl;have n1:(f.toList == [115,101,113])=false:=HN.out 1 _ (by omega) rfl;have n2:(f.toList == [100,101,108,101,116,101])=false:=HN.out 2 _ (by omega) rfl;have n3:(f.toList == [115,101,116])=false:=HN.out 3 _ (by omega) rfl;have n4:(f.toList == [99,104,101,99,107])=false:=HN.out 4 _ (by omega) rfl;have HF:Hid (Tl f=none):=by
   show _=_;unfold Tl;rw [Z1 (by rw [n0];decide),Z1 (by rw [n1];decide),Z1 (by rw [n2];decide),Z1 (by rw [n3];decide),Z1 (by rw [n4];decide)]
  clear HN n0 n1 n2 n3 n4 HX0 GL Am Ch Z;have x0:=SX.out.fz;have y0:=SX.out.cl 0 _ rfl;have y1:=SX.out.cl 1 _ rfl;have y2:=SX.out.cl 2 _ rfl;have y3:=SX.out.cl 3 _ rfl;have y4:=SX.out.cl 4 _ rfl
  go_wp2_with fail
  obtain ⟨b9,x9⟩:=MG BX.out SX.out ⟨#[]⟩ 0 false false false;have d0:=x9.cl 0 _ rfl;have d1:=x9.cl 1 _ rfl;have d2:=x9.cl 2 _ rfl;have d3:=x9.cl 3 _ rfl;have d4:=x9.cl 4 _ rfl;exact ZW (v:=.tuple #[.agg #[.string ⟨#[]⟩,.int .i64 0,.bool false,.bool false,.bool false],.bool false]) (by simp [results,Tryz.results150,go_sem,d0,d1,d2,d3,d4]) rfl (xz.no HF.out b9)
end
end Go.Proofs.YtpmjnbmkippaiaaGreatDoor


