import Derived.LaidEql
import Derived.Stop.Asserts
import Derived.RowKitTokens
import Derived.Test.YtpmjnbmkippaiaaGreatDoorJ08
set_option maxRecDepth 100000
set_option maxHeartbeats 16000000
set_option linter.unusedVariables false
set_option linter.unusedSimpArgs false
namespace Go.Proofs.YtpmjnbmkippaiaaGreatDoor
section
open Go.RowKit Go.Extern.Stop Go.Stop Go.Extern
theorem sc (v:Value) (f:Value→Sem Value) (g:Array Value→Sem Value):ReflectliteValue.method.match_2 (fun _=>Sem Value) #[v] f g=f v:=rfl
theorem kp (v x:Value) (f:Value→Value→Sem Value) (g:Array Value→Sem Value):ReflectliteValue.set.match_3 (fun _=>Sem Value) #[v,x] f g=f v x:=rfl
theorem Tryz.lG (h : Value) (w : World) : (Go.method 324 345 (.agg #[h]) "Kind").run Tryz.prog w = .ok (292, h) w := by kernel_rfl
theorem Tryz.lF (h : Value) (w : World) : (Go.method 324 345 (.agg #[h]) "Elem").run Tryz.prog w = .ok (308, .agg #[h]) w := by kernel_rfl
theorem Tryz.lE (h : Value) (w : World) : (Go.method 324 345 (.agg #[h]) "Implements").run Tryz.prog w = .ok (309, .agg #[h]) w := by kernel_rfl
theorem Tryz.lD (h : Value) (w : World) : (Go.method 324 345 (.agg #[h]) "AssignableTo").run Tryz.prog w = .ok (306, .agg #[h]) w := by kernel_rfl
theorem Tryz.dX (v : Value) (w : World) : (Go.method 353 281 v "Unwrap").run Tryz.prog w = .ok (298, v) w := by kernel_rfl
theorem Tryz.qw (w : World) : (ReflectliteType.relation "AssignableTo" ReflectliteType.assignableTo #[.agg #[.pointer (some ⟨11, 240, none⟩)], .iface 345 (.agg #[.pointer (some ⟨11, 240, none⟩)])]).run Tryz.prog w = .ok (.bool true) w := by kernel_rfl
theorem Tryz.ko (w : World) : (ReflectliteType.relation "AssignableTo" ReflectliteType.assignableTo #[.agg #[.pointer (some ⟨11, 240, none⟩)], .iface 345 (.agg #[.pointer (some ⟨11, 281, none⟩)])]).run Tryz.prog w = .ok (.bool false) w := by kernel_rfl
theorem Tryz.kj (w : World) : (ReflectliteType.relation "AssignableTo" ReflectliteType.assignableTo #[.agg #[.pointer (some ⟨11, 281, none⟩)], .iface 345 (.agg #[.pointer (some ⟨11, 240, none⟩)])]).run Tryz.prog w = .ok (.bool false) w := by kernel_rfl
theorem Tryz.ki (w : World) : (ReflectliteType.relation "AssignableTo" ReflectliteType.assignableTo #[.agg #[.pointer (some ⟨11, 281, none⟩)], .iface 345 (.agg #[.pointer (some ⟨11, 281, none⟩)])]).run Tryz.prog w = .ok (.bool true) w := by kernel_rfl
theorem Tryz.gI (v:Value) (x:TypeId) (w:World):(Instr.typeAssert (.iface 240 v) x 350 true).run Tryz.prog w=.ok (.tuple #[.nilIface,.bool false]) w:=run_typeAssert_lacksB Tryz.underlying350 (by kernel_rfl) (by kernel_rfl) v x w
theorem Tryz.gH (v:Value) (x:TypeId) (w:World):(Instr.typeAssert (.iface 281 v) x 350 true).run Tryz.prog w=.ok (.tuple #[.nilIface,.bool false]) w:=run_typeAssert_lacksB Tryz.underlying350 (by kernel_rfl) (by kernel_rfl) v x w
theorem Tryz.gG (v:Value) (x:TypeId) (w:World):(Instr.typeAssert (.iface 240 v) x 353 true).run Tryz.prog w=.ok (.tuple #[.nilIface,.bool false]) w:=run_typeAssert_lacksB Tryz.underlying353 (by kernel_rfl) (by kernel_rfl) v x w
theorem Tryz.gF (v:Value) (x:TypeId) (w:World):(Instr.typeAssert (.iface 240 v) x 355 true).run Tryz.prog w=.ok (.tuple #[.nilIface,.bool false]) w:=run_typeAssert_lacksB Tryz.underlying355 (by kernel_rfl) (by kernel_rfl) v x w
theorem Tryz.gE (v:Value) (x:TypeId) (w:World):(Instr.typeAssert (.iface 281 v) x 353 true).run Tryz.prog w=.ok (.tuple #[.iface 281 v,.bool true]) w:=run_typeAssert_hasB Tryz.underlying353 (by kernel_rfl) v x w
theorem Tryz.gD (t:Addr) (w:World):(ReflectliteValue.unpack (.iface 283 (.pointer (some t)))).run Tryz.prog w=.ok (.agg #[.pointer (some ⟨11,283,none⟩),.pointer (some ⟨w.heap.size,0,none⟩),.int .u64 150]) (w.alloc (.cells #[.pointer (some t)] 283)):=by kernel_rfl
theorem Tryz.gC (a : Addr) (w : World) : (ReflectliteValue.methodAny (ReflectliteValue.valueError "reflectlite.Value.Type" 0) (fun t _ _ _ => ReflectliteType.toType t) #[.agg #[.pointer (some ⟨11, 283, none⟩), .pointer (some a), .int .u64 150]]).run Tryz.prog w = .ok (.iface 345 (.agg #[.pointer (some ⟨11, 283, none⟩)])) w := by kernel_rfl
theorem Tryz.gB (w:World):((ReflectliteType.abiMethod fun t=>Functor.map (fun a:Nat=>Value.int IntKind.u8 (a:Int)) (Rtype.kind t)) #[.pointer (some ⟨11,283,none⟩)]).run Tryz.prog w=.ok (.int .u8 22) w:=by kernel_rfl
theorem Tryz.gA (w:World):((ReflectliteType.abiMethod fun t=>Functor.map (fun a:Nat=>Value.int IntKind.u8 (a:Int)) (Rtype.kind t)) #[.pointer (some ⟨11,240,none⟩)]).run Tryz.prog w=.ok (.int .u8 25) w:=by kernel_rfl
theorem Tryz.kh (a:Addr) (w:World):(ReflectliteValue.parts (.agg #[.pointer (some ⟨11,283,none⟩),.pointer (some a),.int .u64 150])).run Tryz.prog w=.ok (some (283,a,150)) w:=by kernel_rfl
theorem Tryz.gz (a p : Addr) (W : World) (ha : W.cell? a = some (.pointer (some p))) : (ReflectliteValue.method (ReflectliteValue.valueError "reflectlite.Value.IsNil" 0) ReflectliteValue.isNil #[.agg #[.pointer (some ⟨11, 283, none⟩), .pointer (some a), .int .u64 150]]).run Tryz.prog W = .ok (.bool false) W := by
 delta ReflectliteValue.method
 rw [sc]
 simp only [Vz,Tryz.kh,Result.andThen]
 simp [ReflectliteValue.isNil,loadVar,isAgg,underlying,Tryz.underlying283,ha,Result.andThen]
theorem Tryz.gy (w:World):(ReflectliteType.method ReflectliteType.elem #[.agg #[.pointer (some ⟨11,283,none⟩)]]).run Tryz.prog w=.ok (.iface 345 (.agg #[.pointer (some ⟨11,240,none⟩)])) w:=by kernel_rfl
theorem Tryz.gx (w : World) : (ReflectliteType.relation "Implements" ReflectliteType.implements_ #[.agg #[.pointer (some ⟨11, 240, none⟩)], .iface 345 (.agg #[.pointer (some ⟨11, 182, none⟩)])]).run Tryz.prog w = .ok (.bool true) w := by kernel_rfl
theorem Tryz.nE (x:Value) (w:World):(ReflectliteType.typeOf #[.iface 240 x]).run Tryz.prog w=.ok (.iface 345 (.agg #[.pointer (some ⟨11,240,none⟩)])) w:=by kernel_rfl
theorem Tryz.kg (c:Int) (w:World):(ReflectliteValue.unpack (.iface 240 (.agg #[.int .i64 c]))).run Tryz.prog w=.ok (.agg #[.pointer (some ⟨11,240,none⟩),.pointer (some ⟨w.heap.size,0,none⟩),.int .u64 153]) (w.alloc (.cells #[.int .i64 c] 240)):=by kernel_rfl
theorem Tryz.gv (w:World):(Rtype.elem? 283).run Tryz.prog w=.ok (some 240) w:=by kernel_rfl
theorem Tryz.gt (p:Addr) (w:World):(ReflectliteValue.mk 240 p ReflectliteValue.flagAddr).run Tryz.prog w=.ok (.agg #[.pointer (some ⟨11,240,none⟩),.pointer (some p),.int .u64 409]) w:=by kernel_rfl
theorem Tryz.kf (a p : Addr) (W : World) (ha : W.cell? a = some (.pointer (some p))) : (ReflectliteValue.method (ReflectliteValue.valueError "reflectlite.Value.Elem" 0) ReflectliteValue.elem #[.agg #[.pointer (some ⟨11, 283, none⟩), .pointer (some a), .int .u64 150]]).run Tryz.prog W = .ok (.agg #[.pointer (some ⟨11, 240, none⟩), .pointer (some p), .int .u64 409]) W := by
 delta ReflectliteValue.method
 rw [sc]
 simp only [Vz,Tryz.kh,Result.andThen]
 simp [ReflectliteValue.elem,loadVar,isAgg,underlying,Tryz.underlying283,ha,Result.andThen,Tryz.gv,Tryz.gt]
theorem Tryz.gq (a:Addr) (w:World):(ReflectliteValue.parts (.agg #[.pointer (some ⟨11,240,none⟩),.pointer (some a),.int .u64 409])).run Tryz.prog w=.ok (some (240,a,409)) w:=by kernel_rfl
theorem Tryz.gp (a:Addr) (w:World):(ReflectliteValue.parts (.agg #[.pointer (some ⟨11,240,none⟩),.pointer (some a),.int .u64 153])).run Tryz.prog w=.ok (some (240,a,153)) w:=by kernel_rfl
theorem Tryz.go (w:World):(Rtype.directlyAssignable 240 240).run Tryz.prog w=.ok true w:=by kernel_rfl
theorem Tryz.gn (t:Addr) (w:World):(ReflectliteValue.unpack (.iface 284 (.pointer (some t)))).run Tryz.prog w=.ok (.agg #[.pointer (some ⟨11,284,none⟩),.pointer (some ⟨w.heap.size,0,none⟩),.int .u64 150]) (w.alloc (.cells #[.pointer (some t)] 284)):=by kernel_rfl
theorem Tryz.gm (a : Addr) (w : World) : (ReflectliteValue.methodAny (ReflectliteValue.valueError "reflectlite.Value.Type" 0) (fun t _ _ _ => ReflectliteType.toType t) #[.agg #[.pointer (some ⟨11, 284, none⟩), .pointer (some a), .int .u64 150]]).run Tryz.prog w = .ok (.iface 345 (.agg #[.pointer (some ⟨11, 284, none⟩)])) w := by kernel_rfl
theorem Tryz.gl (w:World):((ReflectliteType.abiMethod fun t=>Functor.map (fun a:Nat=>Value.int IntKind.u8 (a:Int)) (Rtype.kind t)) #[.pointer (some ⟨11,284,none⟩)]).run Tryz.prog w=.ok (.int .u8 22) w:=by kernel_rfl
theorem Tryz.gk (w:World):((ReflectliteType.abiMethod fun t=>Functor.map (fun a:Nat=>Value.int IntKind.u8 (a:Int)) (Rtype.kind t)) #[.pointer (some ⟨11,281,none⟩)]).run Tryz.prog w=.ok (.int .u8 25) w:=by kernel_rfl
theorem Tryz.ke (a:Addr) (w:World):(ReflectliteValue.parts (.agg #[.pointer (some ⟨11,284,none⟩),.pointer (some a),.int .u64 150])).run Tryz.prog w=.ok (some (284,a,150)) w:=by kernel_rfl
theorem Tryz.gj (a p : Addr) (W : World) (ha : W.cell? a = some (.pointer (some p))) : (ReflectliteValue.method (ReflectliteValue.valueError "reflectlite.Value.IsNil" 0) ReflectliteValue.isNil #[.agg #[.pointer (some ⟨11, 284, none⟩), .pointer (some a), .int .u64 150]]).run Tryz.prog W = .ok (.bool false) W := by
 delta ReflectliteValue.method
 rw [sc]
 simp only [Vz,Tryz.ke,Result.andThen]
 simp [ReflectliteValue.isNil,loadVar,isAgg,underlying,Tryz.underlying284,ha,Result.andThen]
theorem Tryz.gi (w:World):(ReflectliteType.method ReflectliteType.elem #[.agg #[.pointer (some ⟨11,284,none⟩)]]).run Tryz.prog w=.ok (.iface 345 (.agg #[.pointer (some ⟨11,281,none⟩)])) w:=by kernel_rfl
theorem Tryz.gh (w : World) : (ReflectliteType.relation "Implements" ReflectliteType.implements_ #[.agg #[.pointer (some ⟨11, 281, none⟩)], .iface 345 (.agg #[.pointer (some ⟨11, 182, none⟩)])]).run Tryz.prog w = .ok (.bool true) w := by kernel_rfl
theorem Tryz.ka (x:Value) (w:World):(ReflectliteType.typeOf #[.iface 281 x]).run Tryz.prog w=.ok (.iface 345 (.agg #[.pointer (some ⟨11,281,none⟩)])) w:=by kernel_rfl
theorem Tryz.ge (c:Int) (v:Value) (w:World):(ReflectliteValue.unpack (.iface 281 (.agg #[.int .i64 c,v]))).run Tryz.prog w=.ok (.agg #[.pointer (some ⟨11,281,none⟩),.pointer (some ⟨w.heap.size,0,none⟩),.int .u64 153]) (w.alloc (.cells #[.int .i64 c,v] 281)):=by kernel_rfl
theorem Tryz.fZ (w:World):(Rtype.elem? 284).run Tryz.prog w=.ok (some 281) w:=by kernel_rfl
theorem Tryz.fY (p:Addr) (w:World):(ReflectliteValue.mk 281 p ReflectliteValue.flagAddr).run Tryz.prog w=.ok (.agg #[.pointer (some ⟨11,281,none⟩),.pointer (some p),.int .u64 409]) w:=by kernel_rfl
theorem Tryz.fX (a p : Addr) (W : World) (ha : W.cell? a = some (.pointer (some p))) : (ReflectliteValue.method (ReflectliteValue.valueError "reflectlite.Value.Elem" 0) ReflectliteValue.elem #[.agg #[.pointer (some ⟨11, 284, none⟩), .pointer (some a), .int .u64 150]]).run Tryz.prog W = .ok (.agg #[.pointer (some ⟨11, 281, none⟩), .pointer (some p), .int .u64 409]) W := by
 delta ReflectliteValue.method
 rw [sc]
 simp only [Vz,Tryz.ke,Result.andThen]
 simp [ReflectliteValue.elem,loadVar,isAgg,underlying,Tryz.underlying284,ha,Result.andThen,Tryz.fZ,Tryz.fY]
theorem Tryz.fW (a:Addr) (w:World):(ReflectliteValue.parts (.agg #[.pointer (some ⟨11,281,none⟩),.pointer (some a),.int .u64 409])).run Tryz.prog w=.ok (some (281,a,409)) w:=by kernel_rfl
theorem Tryz.fV (a:Addr) (w:World):(ReflectliteValue.parts (.agg #[.pointer (some ⟨11,281,none⟩),.pointer (some a),.int .u64 153])).run Tryz.prog w=.ok (some (281,a,153)) w:=by kernel_rfl
theorem Tryz.fU (w:World):(Rtype.directlyAssignable 281 281).run Tryz.prog w=.ok true w:=by kernel_rfl
theorem Tryz.j9 (t b:Nat) (c:Int) (old:Value) (W:World) (hb:W.cell? ⟨b,0,none⟩=some (.int .i64 c)) (ht:W.cell? ⟨t,0,none⟩=some old) (hf:W.frozen? ⟨t,0,none⟩=false) :
    (ReflectliteValue.set #[.agg #[.pointer (some ⟨11,240,none⟩),.pointer (some ⟨t,0,none⟩),.int .u64 409],.agg #[.pointer (some ⟨11,240,none⟩),.pointer (some ⟨b,0,none⟩),.int .u64 153]]).run Tryz.prog W=.ok (.tuple #[]) (W.setCell ⟨t,0,none⟩ (.int .i64 c)):=by
 delta ReflectliteValue.set
 rw [kp]
 simp only [Vz,Tryz.gq,Tryz.gp,Result.andThen]
 go_simp;rw [Z1 (show ¬409 / ReflectliteValue.flagAddr % 2=0 by decide)]
 simp [Tryz.go,Result.andThen,ht,hf]
theorem Tryz.fT (t b:Nat) (c d:Int) (old J:Value) (W:World) (hb:W.cell? ⟨b,0,none⟩=some (.int .i64 c)) (hb1:W.cell? ⟨b,1,none⟩=some (.iface 240 (.agg #[.int .i64 d]))) (ht:W.cell? ⟨t,0,none⟩=some old) (hf:W.frozen? ⟨t,0,none⟩=false) (ht1:W.cell? ⟨t,1,none⟩=some J) (hf1:W.frozen? ⟨t,1,none⟩=false) :
    (ReflectliteValue.set #[.agg #[.pointer (some ⟨11,281,none⟩),.pointer (some ⟨t,0,none⟩),.int .u64 409],.agg #[.pointer (some ⟨11,281,none⟩),.pointer (some ⟨b,0,none⟩),.int .u64 153]]).run Tryz.prog W=.ok (.tuple #[]) ((W.setCell ⟨t,0,none⟩ (.int .i64 c)).setCell ⟨t,1,none⟩ (.iface 240 (.agg #[.int .i64 d]))):=by
 have ht2:(W.setCell ⟨t,0,none⟩ (.int .i64 c)).cell? ⟨t,1,none⟩=some J:=(Zs _ _ _ _ (by simp)).trans ht1
 delta ReflectliteValue.set
 rw [kp]
 simp only [Vz,Tryz.fW,Tryz.fV,Result.andThen]
 go_simp;rw [Z1 (show ¬409 / ReflectliteValue.flagAddr % 2=0 by decide)]
 simp [Tryz.fU,Result.andThen,ht,hf,ht2,hf1]
theorem Tg (w:World) (o1 o2:Obj):ZX w ((w.alloc o1).alloc o2):=(ZJ.alloc ZT _).alloc (by simp) _
theorem nD (w:World) (o1 o2 o3 o4:Obj):ZX w ((((w.alloc o1).alloc o2).alloc o3).alloc o4):=(Tg w o1 o2).trans ((Tg _ o3 o4).mono (by simp;omega))
set_option linter.defProp false
def Bh:=@run_callFunc_extern Tryz.prog 225 _ (fun args=>ReflectliteValue.unpack (args.getD 0 (.tuple #[]))) Tryz.func225 (by kernel_rfl) (by kernel_rfl) (by kernel_rfl) (by kernel_rfl)
def Bg := @run_callFunc_extern Tryz.prog 226 _ (ReflectliteValue.methodAny (ReflectliteValue.valueError "reflectlite.Value.Type" 0) (fun t _ _ _ => ReflectliteType.toType t)) Tryz.func226 (by kernel_rfl) (by kernel_rfl) (by kernel_rfl) (by kernel_rfl)
def Bf := @run_callFunc_extern Tryz.prog 227 _ (ReflectliteValue.method (ReflectliteValue.valueError "reflectlite.Value.IsNil" 0) ReflectliteValue.isNil) Tryz.func227 (by kernel_rfl) (by kernel_rfl) (by kernel_rfl) (by kernel_rfl)
def Bc:=@run_callFunc_extern Tryz.prog 292 _ (ReflectliteType.abiMethod fun t=>do pure (.int .u8 (←Rtype.kind t))) Tryz.func292 (by kernel_rfl) (by kernel_rfl) (by kernel_rfl) (by kernel_rfl)
def Bb:=@run_callFunc_extern Tryz.prog 308 _ (ReflectliteType.method ReflectliteType.elem) Tryz.func308 (by kernel_rfl) (by kernel_rfl) (by kernel_rfl) (by kernel_rfl)
def A8 := @run_callFunc_extern Tryz.prog 309 _ (ReflectliteType.relation "Implements" ReflectliteType.implements_) Tryz.func309 (by kernel_rfl) (by kernel_rfl) (by kernel_rfl) (by kernel_rfl)
def A7:=@run_callFunc_extern Tryz.prog 246 _ ReflectliteType.typeOf Tryz.func246 (by kernel_rfl) (by kernel_rfl) (by kernel_rfl) (by kernel_rfl)
def A6 := @run_callFunc_extern Tryz.prog 306 _ (ReflectliteType.relation "AssignableTo" ReflectliteType.assignableTo) Tryz.func306 (by kernel_rfl) (by kernel_rfl) (by kernel_rfl) (by kernel_rfl)
def A0 := @run_callFunc_extern Tryz.prog 247 _ (ReflectliteValue.method (ReflectliteValue.valueError "reflectlite.Value.Elem" 0) ReflectliteValue.elem) Tryz.func247 (by kernel_rfl) (by kernel_rfl) (by kernel_rfl) (by kernel_rfl)
def LB:=@run_callFunc_extern Tryz.prog 248 _ ReflectliteValue.set Tryz.func248 (by kernel_rfl) (by kernel_rfl) (by kernel_rfl) (by kernel_rfl)
theorem j8 (w:World) (c:Int) (t a:Nat) (tg:Value) (ha:w.cell? ⟨a,0,none⟩=some (.pointer (some ⟨t,0,none⟩))) (hal:a<w.heap.size) (ht:St w t [.int .i64 0]) :
    Calls Tryz.prog 228 #[.iface 240 (.agg #[.int .i64 c]),tg,.agg #[.pointer (some ⟨11,283,none⟩),.pointer (some ⟨a,0,none⟩),.int .u64 150],.iface 345 (.agg #[.pointer (some ⟨11,240,none⟩)])] w fun e w'=>e=.returned (.bool true)∧St w' t [.int .i64 c]∧Tw w t none w' none:=by
 have hx1:=Bh;have hx2:=Bg;have hx3:=Bf;have hx4:=Bc;have hx5:=Bb;have hx6:=A8;have hx7:=A7;have l8:=A6;have ZM:=A0;have Z:=LB;have l:=Tryz.lG;have mE:=Tryz.lF;have mI:=Tryz.lE;have mA:=Tryz.lD;have tO:=Tryz.nE;have H:=Tryz.qw;have vE:=Tryz.kg;have htl:=ht.lt;have B1:Hid (ZX w (w.alloc (.cells #[.pointer (some ⟨11,283,none⟩),.pointer (some ⟨a,0,none⟩),.int .u64 150] 321))):=ZJ.alloc ZT _;have B2:Hid (ZX w ((w.alloc (.cells #[.pointer (some ⟨11,283,none⟩),.pointer (some ⟨a,0,none⟩),.int .u64 150] 321)).alloc (.cells #[.int .i64 c] 240))):=B1.out.alloc B1.out.size _;have T2:=Z3 (ht.below B2.out);have el:=Tryz.kf ⟨a,0,none⟩ ⟨t,0,none⟩ (w.alloc (.cells #[.pointer (some ⟨11,283,none⟩),.pointer (some ⟨a,0,none⟩),.int .u64 150] 321)) ((B1.out.cell (p:=⟨a,0,none⟩) hal).trans ha);have se:=Tryz.j9 t (w.heap.size+1) c (.int .i64 0) ((w.alloc (.cells #[.pointer (some ⟨11,283,none⟩),.pointer (some ⟨a,0,none⟩),.int .u64 150] 321)).alloc (.cells #[.int .i64 c] 240)) (by rw [DW _ _ _ _ (by simp)];rfl) (T2.out.cl 0 _ rfl) (T2.out.fz 0)
 go_enter Tryz.func228,Tryz.ntmps228
 go_wp2;refine DP 1 ?_;rw [Jh];go_wp2;exact ZS (v:=.bool true) (by simp [results,Tryz.results228,go_sem]) rfl ⟨rfl,(ht.set 0 _).below (Tg _ _ _),(Tw.refl w t none).set.trans (Tw.ZV (Tg _ _ _) t none)⟩
theorem j7 (w:World) (c d:Int) (t a:Nat) (tg:Value) (ha:w.cell? ⟨a,0,none⟩=some (.pointer (some ⟨t,0,none⟩))) (hal:a<w.heap.size) (ht:St w t [.int .i64 0,.nilIface]) :
    Calls Tryz.prog 228 #[.iface 281 (.agg #[.int .i64 c,.iface 240 (.agg #[.int .i64 d])]),tg,.agg #[.pointer (some ⟨11,284,none⟩),.pointer (some ⟨a,0,none⟩),.int .u64 150],.iface 345 (.agg #[.pointer (some ⟨11,281,none⟩)])] w fun e w'=>e=.returned (.bool true)∧St w' t [.int .i64 c,.iface 240 (.agg #[.int .i64 d])]∧Tw w t none w' none:=by
 have hx1:=Bh;have hx2:=Bg;have hx3:=Bf;have hx4:=Bc;have hx5:=Bb;have hx6:=A8;have hx7:=A7;have l8:=A6;have ZM:=A0;have Z:=LB;have l:=Tryz.lG;have mE:=Tryz.lF;have mI:=Tryz.lE;have mA:=Tryz.lD;have tO:=Tryz.ka;have H:=Tryz.ki;have vE:=Tryz.ge;have htl:=ht.lt;have B1:Hid (ZX w (w.alloc (.cells #[.pointer (some ⟨11,284,none⟩),.pointer (some ⟨a,0,none⟩),.int .u64 150] 321))):=ZJ.alloc ZT _;have B2:Hid (ZX w ((w.alloc (.cells #[.pointer (some ⟨11,284,none⟩),.pointer (some ⟨a,0,none⟩),.int .u64 150] 321)).alloc (.cells #[.int .i64 c,.iface 240 (.agg #[.int .i64 d])] 281))):=B1.out.alloc B1.out.size _;have T2:=Z3 (ht.below B2.out);have el:=Tryz.fX ⟨a,0,none⟩ ⟨t,0,none⟩ (w.alloc (.cells #[.pointer (some ⟨11,284,none⟩),.pointer (some ⟨a,0,none⟩),.int .u64 150] 321)) ((B1.out.cell (p:=⟨a,0,none⟩) hal).trans ha);have se:=Tryz.fT t (w.heap.size+1) c d (.int .i64 0) .nilIface ((w.alloc (.cells #[.pointer (some ⟨11,284,none⟩),.pointer (some ⟨a,0,none⟩),.int .u64 150] 321)).alloc (.cells #[.int .i64 c,.iface 240 (.agg #[.int .i64 d])] 281)) (by rw [DW _ _ _ _ (by simp)];rfl) (by rw [DW _ _ _ _ (by simp)];rfl) (T2.out.cl 0 _ rfl) (T2.out.fz 0) (T2.out.cl 1 _ rfl) (T2.out.fz 1)
 go_enter Tryz.func228,Tryz.ntmps228
 go_wp2;refine DP 1 ?_;rw [Jh];go_wp2;exact ZS (v:=.bool true) (by simp [results,Tryz.results228,go_sem]) rfl ⟨rfl,((ht.set 0 _).set 1 _).below (Tg _ _ _),(Tw.refl w t none).set.set.trans (Tw.ZV (Tg _ _ _) t none)⟩
theorem j6 (w:World) (c:Int) (a:Nat) (tg:Value) :
    Calls Tryz.prog 228 #[.iface 240 (.agg #[.int .i64 c]),tg,.agg #[.pointer (some ⟨11,284,none⟩),.pointer (some ⟨a,0,none⟩),.int .u64 150],.iface 345 (.agg #[.pointer (some ⟨11,281,none⟩)])] w (YI w (.bool false)):=by
 have hx1:=Bh;have hx2:=Bg;have hx3:=Bf;have hx4:=Bc;have hx5:=Bb;have hx6:=A8;have hx7:=A7;have l8:=A6;have ZM:=A0;have Z:=LB;have l:=Tryz.lG;have mE:=Tryz.lF;have mI:=Tryz.lE;have mA:=Tryz.lD;have tO:=Tryz.nE;have H:=Tryz.ko;have n1:=Tryz.gI;have n2:=Tryz.gG;have n3:=Tryz.gF
 go_enter Tryz.func228,Tryz.ntmps228
 go_wp2;refine DP 1 ?_;rw [Jh];go_wp2;exact ZS (v:=.bool false) (by simp [results,Tryz.results228,go_sem]) rfl ⟨rfl,ZJ.alloc ZT _⟩
theorem ER (w:World) (c:Int) (v:Value):Calls Tryz.prog 298 #[.agg #[.int .i64 c,v]] w (YI w v):=by
 go_enter Tryz.func298,Tryz.ntmps298
 go_wp2;exact ZS (v:=v) (by simp [results,Tryz.results298,go_sem]) rfl ⟨rfl,ZJ.alloc ZT _⟩
theorem j5 (w:World) (c d:Int) (t a:Nat) (tg:Value) (ha:w.cell? ⟨a,0,none⟩=some (.pointer (some ⟨t,0,none⟩))) (hal:a<w.heap.size) (ht:St w t [.int .i64 0]) :
    Calls Tryz.prog 228 #[.iface 281 (.agg #[.int .i64 c,.iface 240 (.agg #[.int .i64 d])]),tg,.agg #[.pointer (some ⟨11,283,none⟩),.pointer (some ⟨a,0,none⟩),.int .u64 150],.iface 345 (.agg #[.pointer (some ⟨11,240,none⟩)])] w fun e w'=>e=.returned (.bool true)∧St w' t [.int .i64 d]∧Tw w t none w' none:=by
 have hx1:=Bh;have hx2:=Bg;have hx3:=Bf;have hx4:=Bc;have hx5:=Bb;have hx6:=A8;have hx7:=A7;have l8:=A6;have ZM:=A0;have Z:=LB;have l:=Tryz.lG;have mE:=Tryz.lF;have mI:=Tryz.lE;have mA:=Tryz.lD;have tO:=Tryz.ka;have tF:=Tryz.nE;have H:=Tryz.kj;have ZR:=Tryz.qw;have n1:=Tryz.gH;have n2:=Tryz.gE;have mU:=Tryz.dX;have vE:=Tryz.kg;have HT:=Z3 ht;have htl:=ht.lt;have B1:Hid (ZX w (w.alloc (.cells #[.pointer (some ⟨11,283,none⟩),.pointer (some ⟨a,0,none⟩),.int .u64 150] 321))):=ZJ.alloc ZT _;have X1:Hid (St (w.alloc (.cells #[.pointer (some ⟨11,283,none⟩),.pointer (some ⟨a,0,none⟩),.int .u64 150] 321)) w.heap.size [.pointer (some ⟨11,283,none⟩),.pointer (some ⟨a,0,none⟩),.int .u64 150]):=St.new _ _ _;have HA:=Z3 ha;clear ha ht
 go_enter Tryz.func228,Tryz.ntmps228
 go_wp2;refine DP 2 ?_;rw [Jh];generalize w.alloc _=w1 at *
 go_wp2_with (go_at_call 298;refine (ER w1 c _).mono ?_)
 rintro e w3 ⟨rfl,b3⟩;have B3:=Z3 (YV B1.out b3);have X3:=X1.out.below b3;have x0:=X3.cl 0 _ rfl;have x1:=X3.cl 1 _ rfl;have x2:=X3.cl 2 _ rfl;have T3:=Z3 (HT.out.below B3.out);have el:=Tryz.kf ⟨a,0,none⟩ ⟨t,0,none⟩ w3 ((B3.out.cell (p:=⟨a,0,none⟩) hal).trans HA.out);have A4:Hid (ZX w3 (w3.alloc (.cells #[.int .i64 d] 240))):=ZJ.alloc ZT _;have T4:=Z3 (T3.out.below A4.out);have se:=Tryz.j9 t w3.heap.size d (.int .i64 0) (w3.alloc (.cells #[.int .i64 d] 240)) (by rw [DW _ _ _ _ (by simp)];rfl) (T4.out.cl 0 _ rfl) (T4.out.fz 0);have Z2:=T3.out.lt;clear b3 X3;go_wp2;rw [Jh];go_wp2;exact ZS (v:=.bool true) (by simp [results,Tryz.results228,go_sem]) rfl ⟨rfl,(T3.out.set 0 _).below (ZJ.alloc ZT _),(Tw.ZV B3.out t none).set.trans (Tw.ZV (ZJ.alloc ZT _) t none)⟩
theorem eH (w:World) (et:TypeId) (ex:Value) (t:Nat) (b:Bool) (Q:World→Prop) (hg:w.cell? ⟨5,0,none⟩=some (.iface 345 (.agg #[.pointer (some ⟨11,182,none⟩)]))) (h0:5<w.heap.size)
    (h:∀W,ZX w W→W.cell? ⟨w.heap.size,0,none⟩=some (.pointer (some ⟨t,0,none⟩))→w.heap.size<W.heap.size→Calls Tryz.prog 228 #[.iface et ex,.iface 283 (.pointer (some ⟨t,0,none⟩)),.agg #[.pointer (some ⟨11,283,none⟩),.pointer (some ⟨w.heap.size,0,none⟩),.int .u64 150],.iface 345 (.agg #[.pointer (some ⟨11,240,none⟩)])] W fun e w'=>e=.returned (.bool b)∧Q w') :
    Calls Tryz.prog 199 #[.iface et ex,.iface 283 (.pointer (some ⟨t,0,none⟩))] w fun e w'=>e=.returned (.bool b)∧Q w':=by
 have hx1:=Bh;have hx2:=Bg;have hx3:=Bf;have hx4:=Bc;have hx5:=Bb;have hx6:=A8;have hx7:=A7;have l8:=A6;have ZM:=A0;have Z:=LB;have l:=Tryz.lG;have mE:=Tryz.lF;have mI:=Tryz.lE;have mA:=Tryz.lD;have f1:=Tryz.gD;have f2:=Tryz.gC;have k1:=Tryz.gB;have k2:=Tryz.gA;have e1:=Tryz.gy;have i1:=Tryz.gx;have B1:Hid (ZX w ((w.alloc (.cells #[.pointer (some ⟨t,0,none⟩)] 283)).alloc (.cells #[.pointer (some ⟨11,283,none⟩),.pointer (some ⟨w.heap.size,0,none⟩),.int .u64 150] 321))):=Tg w _ _;have hg2:=(B1.out.cell (p:=⟨5,0,none⟩) h0).trans hg;have hc2:((w.alloc (.cells #[.pointer (some ⟨t,0,none⟩)] 283)).alloc (.cells #[.pointer (some ⟨11,283,none⟩),.pointer (some ⟨w.heap.size,0,none⟩),.int .u64 150] 321)).cell? ⟨w.heap.size,0,none⟩=some (.pointer (some ⟨t,0,none⟩)):=by go_simp
 have n8:=Tryz.gz ⟨w.heap.size,0,none⟩ ⟨t,0,none⟩ ((w.alloc (.cells #[.pointer (some ⟨t,0,none⟩)] 283)).alloc (.cells #[.pointer (some ⟨11,283,none⟩),.pointer (some ⟨w.heap.size,0,none⟩),.int .u64 150] 321)) hc2;have HC:=Z3 (h _ B1.out hc2 (by simp;omega));clear h hc2 hg
 go_enter Tryz.func199,Tryz.ntmps199
 go_wp2_with (go_at_call 228;refine HC.out.mono ?_)
 rintro e w5 ⟨rfl,q5⟩;have Q5:=Z3 q5;clear q5 HC
 go_wp2_with fail
 exact ZS (v:=.bool b) (by simp [results,Tryz.results199,go_sem]) rfl ⟨rfl,Q5.out⟩
theorem eG (w:World) (et:TypeId) (ex:Value) (t:Nat) (b:Bool) (Q:World→Prop) (hg:w.cell? ⟨5,0,none⟩=some (.iface 345 (.agg #[.pointer (some ⟨11,182,none⟩)]))) (h0:5<w.heap.size)
    (h:∀W,ZX w W→W.cell? ⟨w.heap.size,0,none⟩=some (.pointer (some ⟨t,0,none⟩))→w.heap.size<W.heap.size→Calls Tryz.prog 228 #[.iface et ex,.iface 284 (.pointer (some ⟨t,0,none⟩)),.agg #[.pointer (some ⟨11,284,none⟩),.pointer (some ⟨w.heap.size,0,none⟩),.int .u64 150],.iface 345 (.agg #[.pointer (some ⟨11,281,none⟩)])] W fun e w'=>e=.returned (.bool b)∧Q w') :
    Calls Tryz.prog 199 #[.iface et ex,.iface 284 (.pointer (some ⟨t,0,none⟩))] w fun e w'=>e=.returned (.bool b)∧Q w':=by
 have hx1:=Bh;have hx2:=Bg;have hx3:=Bf;have hx4:=Bc;have hx5:=Bb;have hx6:=A8;have hx7:=A7;have l8:=A6;have ZM:=A0;have Z:=LB;have l:=Tryz.lG;have mE:=Tryz.lF;have mI:=Tryz.lE;have mA:=Tryz.lD;have f1:=Tryz.gn;have f2:=Tryz.gm;have k1:=Tryz.gl;have k2:=Tryz.gk;have e1:=Tryz.gi;have i1:=Tryz.gh;have B1:Hid (ZX w ((w.alloc (.cells #[.pointer (some ⟨t,0,none⟩)] 284)).alloc (.cells #[.pointer (some ⟨11,284,none⟩),.pointer (some ⟨w.heap.size,0,none⟩),.int .u64 150] 321))):=Tg w _ _;have hg2:=(B1.out.cell (p:=⟨5,0,none⟩) h0).trans hg;have hc2:((w.alloc (.cells #[.pointer (some ⟨t,0,none⟩)] 284)).alloc (.cells #[.pointer (some ⟨11,284,none⟩),.pointer (some ⟨w.heap.size,0,none⟩),.int .u64 150] 321)).cell? ⟨w.heap.size,0,none⟩=some (.pointer (some ⟨t,0,none⟩)):=by go_simp
 have n8:=Tryz.gj ⟨w.heap.size,0,none⟩ ⟨t,0,none⟩ ((w.alloc (.cells #[.pointer (some ⟨t,0,none⟩)] 284)).alloc (.cells #[.pointer (some ⟨11,284,none⟩),.pointer (some ⟨w.heap.size,0,none⟩),.int .u64 150] 321)) hc2;have HC:=Z3 (h _ B1.out hc2 (by simp;omega));clear h hc2 hg
 go_enter Tryz.func199,Tryz.ntmps199
 go_wp2_with (go_at_call 228;refine HC.out.mono ?_)
 rintro e w5 ⟨rfl,q5⟩;have Q5:=Z3 q5;clear q5 HC
 go_wp2_with fail
 exact ZS (v:=.bool b) (by simp [results,Tryz.results199,go_sem]) rfl ⟨rfl,Q5.out⟩
structure iF (w W:World):Prop where
 b:ZX w W
 r:St W w.heap.size [.int .i64 0,.int .i64 0,.slice none 0 0,.int .i64 0,.slice none 0 0]
 y:St W (w.heap.size+1) [.int .i64 0]
 z:St W (w.heap.size+2) [.int .i64 0,.nilIface]
 p:St W (w.heap.size+3) [.int .i64 0,.int .i64 0,.slice none 0 0,.int .i64 0,.slice none 0 0]
theorem iF.new (w:World):iF w ((((w.alloc (.cells #[.int .i64 0,.int .i64 0,.slice none 0 0,.int .i64 0,.slice none 0 0] 194)).alloc (.cells #[.int .i64 0] 240)).alloc (.cells #[.int .i64 0,.nilIface] 281)).alloc (.cells #[.int .i64 0,.int .i64 0,.slice none 0 0,.int .i64 0,.slice none 0 0] 194)):=by
 have e1:(w.alloc (.cells #[.int .i64 0,.int .i64 0,.slice none 0 0,.int .i64 0,.slice none 0 0] 194)).heap.size=w.heap.size+1:=by simp
 have e2:((w.alloc (.cells #[.int .i64 0,.int .i64 0,.slice none 0 0,.int .i64 0,.slice none 0 0] 194)).alloc (.cells #[.int .i64 0] 240)).heap.size=w.heap.size+2:=by simp
 have e3:(((w.alloc (.cells #[.int .i64 0,.int .i64 0,.slice none 0 0,.int .i64 0,.slice none 0 0] 194)).alloc (.cells #[.int .i64 0] 240)).alloc (.cells #[.int .i64 0,.nilIface] 281)).heap.size=w.heap.size+3:=by simp
 have a1:∀(W:World) (o:Obj),ZX W (W.alloc o):=fun W o=>ZJ.alloc ZT _
 have s0:=St.new w #[.int .i64 0,.int .i64 0,.slice none 0 0,.int .i64 0,.slice none 0 0] 194;have s1:=St.new (w.alloc (.cells #[.int .i64 0,.int .i64 0,.slice none 0 0,.int .i64 0,.slice none 0 0] 194)) #[.int .i64 0] 240;have s2:=St.new ((w.alloc (.cells #[.int .i64 0,.int .i64 0,.slice none 0 0,.int .i64 0,.slice none 0 0] 194)).alloc (.cells #[.int .i64 0] 240)) #[.int .i64 0,.nilIface] 281;have s3:=St.new (((w.alloc (.cells #[.int .i64 0,.int .i64 0,.slice none 0 0,.int .i64 0,.slice none 0 0] 194)).alloc (.cells #[.int .i64 0] 240)).alloc (.cells #[.int .i64 0,.nilIface] 281)) #[.int .i64 0,.int .i64 0,.slice none 0 0,.int .i64 0,.slice none 0 0] 194;rw [e1] at s1;rw [e2] at s2;rw [e3] at s3;exact ⟨nD w _ _ _ _,((s0.below (a1 _ _)).below (a1 _ _)).below (a1 _ _),(s1.below (a1 _ _)).below (a1 _ _),s2.below (a1 _ _),s3⟩
theorem AZ (w:World) (c:Int) (hg:w.cell? ⟨5,0,none⟩=some (.iface 345 (.agg #[.pointer (some ⟨11,182,none⟩)]))) (h0:5<w.heap.size) :
    Calls Tryz.prog 165 #[.iface 240 (.agg #[.int .i64 c])] w (YI w (.agg #[.int .i64 c,.int .i64 0,.slice none 0 0,.int .i64 0,.slice none 0 0])):=by
 have R4:=Z3 (iF.new w);have HG:=Z3 hg;clear hg
 go_enter Tryz.func165,Tryz.ntmps165
 go_wp2_with fail
 generalize ((((w.alloc _).alloc _).alloc _).alloc _)=w4 at *;have qx:=(R4.out.b.cell (p:=⟨5,0,none⟩) h0).trans HG.out;refine (eH w4 _ _ (w.heap.size+1) true (fun w'=>St w' (w.heap.size+1) [.int .i64 c]∧Tw w4 (w.heap.size+1) none w' none) qx (by have:=R4.out.b.size;omega) (fun W hW hc hl=>?_)).mono ?_
 · refine (j8 W c (w.heap.size+1) w4.heap.size _ hc hl (R4.out.y.below hW)).mono ?_
   rintro e w' ⟨rfl,s9,t9⟩;exact ⟨rfl,s9,(Tw.ZV hW _ none).trans t9⟩
 clear qx;rintro e w5 ⟨rfl,y5,t5⟩;have Y5:=Z3 y5;have B5:=Z3 (R4.out.b.trans (t5.below R4.out.b.size (by omega) (fun g h=>by cases h)));have M:=Z3 (t5.st R4.out.p (by omega) (by simp));have Z5:=Z3 (t5.st R4.out.z (by omega) (by simp));have R5:=Z3 (t5.st R4.out.r (by omega) (by simp));clear y5 t5 R4;have y0:=Y5.out.cl 0 _ rfl;have p0:=M.out.cl 0 _ rfl;have pf:=M.out.fz 0;have P6:=Z3 (M.out.set 0 (.int .i64 c));have Z6:=Z3 (Z5.out.other (c:=w.heap.size+3) (j:=0) (x:=.int .i64 c) (by omega));have R6:=Z3 (R5.out.other (c:=w.heap.size+3) (j:=0) (x:=.int .i64 c) (by omega));have B6:Hid (ZX w (w5.setCell ⟨w.heap.size+3,0,none⟩ (.int .i64 c))):=Below.setCell B5.out (by simp) _
 go_wp2_with fail
 clear y0 p0 pf M Z5 R5 B5 Y5;generalize w5.setCell _ _=w6 at *;have V:=(B6.out.cell (p:=⟨5,0,none⟩) h0).trans HG.out;refine (eG w6 _ _ (w.heap.size+2) false (fun w'=>ZX w6 w') V (by have:=B6.out.size;omega) (fun W hW hc hl=>?_)).mono ?_
 · refine (j6 W c w6.heap.size _).mono ?_
   rintro e w' ⟨rfl,b9⟩;exact ⟨rfl,YV hW b9⟩
 clear V;rintro e w7 ⟨rfl,b7⟩;have B7:=Z3 (YV B6.out b7);have P7:=P6.out.below b7;have R7:=R6.out.below b7;have p0:=P7.cl 0 _ rfl;have p1:=P7.cl 1 _ rfl;have p2:=P7.cl 2 _ rfl;have p3:=P7.cl 3 _ rfl;have p4:=P7.cl 4 _ rfl;have q1:=P7.fz 1;have r0:=R7.cl 0 _ rfl;have r1:=R7.cl 1 _ rfl;have r2:=R7.cl 2 _ rfl;have r3:=R7.cl 3 _ rfl;have r4:=R7.cl 4 _ rfl;have g0:=R7.fz 0;have g1:=R7.fz 1;have g2:=R7.fz 2;have g3:=R7.fz 3;have g4:=R7.fz 4;clear P6 Z6 R6 B6
 go_wp2_with fail
 refine ZS (v:=.agg #[.int .i64 c,.int .i64 0,.slice none 0 0,.int .i64 0,.slice none 0 0]) (by simp [results,Tryz.results165,go_sem,p0,p1,p2,p3,p4,r0,r1,r2,r3,r4]) rfl ⟨rfl,?_⟩
 repeat (first | exact B7.out | refine Below.setCell ?_ (by simp;try omega) _)
theorem AY (w:World) (j c:Int) (hg:w.cell? ⟨5,0,none⟩=some (.iface 345 (.agg #[.pointer (some ⟨11,182,none⟩)]))) (h0:5<w.heap.size) :
    Calls Tryz.prog 165 #[.iface 281 (.agg #[.int .i64 j,.iface 240 (.agg #[.int .i64 c])])] w (YI w (.agg #[.int .i64 c,.int .i64 j,.slice none 0 0,.int .i64 0,.slice none 0 0])):=by
 have R4:=Z3 (iF.new w);have HG:=Z3 hg;clear hg
 go_enter Tryz.func165,Tryz.ntmps165
 go_wp2_with fail
 generalize ((((w.alloc _).alloc _).alloc _).alloc _)=w4 at *;have qx:=(R4.out.b.cell (p:=⟨5,0,none⟩) h0).trans HG.out;refine (eH w4 _ _ (w.heap.size+1) true (fun w'=>St w' (w.heap.size+1) [.int .i64 c]∧Tw w4 (w.heap.size+1) none w' none) qx (by have:=R4.out.b.size;omega) (fun W hW hc hl=>?_)).mono ?_
 · refine (j5 W j c (w.heap.size+1) w4.heap.size _ hc hl (R4.out.y.below hW)).mono ?_
   rintro e w' ⟨rfl,s9,t9⟩;exact ⟨rfl,s9,(Tw.ZV hW _ none).trans t9⟩
 clear qx;rintro e w5 ⟨rfl,y5,t5⟩;have Y5:=Z3 y5;have B5:=Z3 (R4.out.b.trans (t5.below R4.out.b.size (by omega) (fun g h=>by cases h)));have M:=Z3 (t5.st R4.out.p (by omega) (by simp));have Z5:=Z3 (t5.st R4.out.z (by omega) (by simp));have R5:=Z3 (t5.st R4.out.r (by omega) (by simp));clear y5 t5 R4;have y0:=Y5.out.cl 0 _ rfl;have p0:=M.out.cl 0 _ rfl;have pf:=M.out.fz 0;have P6:=Z3 (M.out.set 0 (.int .i64 c));have Z6:=Z3 (Z5.out.other (c:=w.heap.size+3) (j:=0) (x:=.int .i64 c) (by omega));have R6:=Z3 (R5.out.other (c:=w.heap.size+3) (j:=0) (x:=.int .i64 c) (by omega));have B6:Hid (ZX w (w5.setCell ⟨w.heap.size+3,0,none⟩ (.int .i64 c))):=Below.setCell B5.out (by simp) _
 go_wp2_with fail
 clear y0 p0 pf M Z5 R5 B5 Y5;generalize w5.setCell _ _=w6 at *;have V:=(B6.out.cell (p:=⟨5,0,none⟩) h0).trans HG.out;refine (eG w6 _ _ (w.heap.size+2) true (fun w'=>St w' (w.heap.size+2) [.int .i64 j,.iface 240 (.agg #[.int .i64 c])]∧Tw w6 (w.heap.size+2) none w' none) V (by have:=B6.out.size;omega) (fun W hW hc hl=>?_)).mono ?_
 · refine (j7 W j c (w.heap.size+2) w6.heap.size _ hc hl (Z6.out.below hW)).mono ?_
   rintro e w' ⟨rfl,s9,t9⟩;exact ⟨rfl,s9,(Tw.ZV hW _ none).trans t9⟩
 clear V;rintro e w7 ⟨rfl,z7,t7⟩;have B7:=Z3 (B6.out.trans (t7.below B6.out.size (by omega) (fun g h=>by cases h)));have P7:=t7.st P6.out (by omega) (by simp);have R7:=t7.st R6.out (by omega) (by simp);have z0:=z7.cl 0 _ rfl;have p0:=P7.cl 0 _ rfl;have p1:=P7.cl 1 _ rfl;have p2:=P7.cl 2 _ rfl;have p3:=P7.cl 3 _ rfl;have p4:=P7.cl 4 _ rfl;have q1:=P7.fz 1;have r0:=R7.cl 0 _ rfl;have r1:=R7.cl 1 _ rfl;have r2:=R7.cl 2 _ rfl;have r3:=R7.cl 3 _ rfl;have r4:=R7.cl 4 _ rfl;have g0:=R7.fz 0;have g1:=R7.fz 1;have g2:=R7.fz 2;have g3:=R7.fz 3;have g4:=R7.fz 4;clear P6 Z6 R6 B6
 go_wp2_with fail
 refine ZS (v:=.agg #[.int .i64 c,.int .i64 j,.slice none 0 0,.int .i64 0,.slice none 0 0]) (by simp [results,Tryz.results165,go_sem,p0,p1,p2,p3,p4,r0,r1,r2,r3,r4]) rfl ⟨rfl,?_⟩
 repeat (first | exact B7.out | refine Below.setCell ?_ (by simp;try omega) _)
end
section
open Go.RowKit Go.Shelf
theorem Wx.AX {w:World} {ao:Option Addr} {c:Nat} {R:List Nd} (h:Wx w (.slice ao R.length c) R):∀ad,ao=some ad→∀j u,(ZO R)[j]?=some u→w.cell? (ad.add j)=some u:=by
 obtain ⟨a',c',e,-,-,h3⟩:=h
 simp only [Y4] at e
 obtain ⟨rfl,-,-⟩:=e;intro ad had j u hu;have hj:=(UG.1 hu).1;rw [Zq] at hj
 rcases h3 with rfl | ⟨b,off,rfl,hb,hc⟩
 · simp at hj
 obtain rfl:=Yv had;have hi:j / 7<R.length:=by omega
 have hm:j % 7<7:=SG _ (by omega);rw [show j=j / 7*7+j % 7 by omega,Q8 R (j / 7) (j % 7) hi hm] at hu;obtain ⟨k0,k1,k2,k3,k4,k5,k6⟩:=hc (j / 7) hi;rw [Sg,show off+j=off+j / 7*7+j % 7 by omega];generalize j % 7=m at *
 match m,hm with
 | 0,_=>exact k0.trans hu
 | 1,_=>exact k1.trans hu
 | 2,_=>exact k2.trans hu
 | 3,_=>exact k3.trans hu
 | 4,_=>exact k4.trans hu
 | 5,_=>exact k5.trans hu
 | 6,_=>exact k6.trans hu
theorem rZ (w:World) (ao:Option Addr) (cap:Nat) (ns:List Nd) (h:Wx w (.slice ao ns.length cap) ns) (hn:ns.length≤1000) :
    Calls Tryz.prog 166 #[.slice ao ns.length cap] w fun e w'=>∃v',e=.returned v'∧Zz 147 w' w.heap.size v' ns∧ZX w w':=by
 obtain ⟨i0,hi,hz0,hz1,hz2⟩:=Yq Tryz.PG;have q22:∀(w:World) (a:Option Addr) (n c n' c':Nat),(binOp .eql 61 (.slice a n c) (.slice none n' c')).run Tryz.prog w=.ok (.bool a.isNone) w:=fun w a n c n' c'=>pS w _ _ a n c n' c' Tryz.underlying61
 have HE:Hid ((w.alloc (.cells #[] 147)).ownsRow w.heap.size 147 7 (.slice (some ⟨w.heap.size,0,none⟩) 0 0) 0 []):=OO w #[] 0 ZT (Zu _) rfl;have HB:Hid (ZX w (w.alloc (.cells #[] 147))):=ZJ.alloc ZT _;have HR:=Z3 h
 cases ao with
 | none =>
  have hx:ns=[]:=by
   obtain ⟨a',c',e,-,-,h3⟩:=h
   simp only [Y4] at e
   rcases h3 with h3 | ⟨b,o,e2,_⟩
   · exact h3
   rw [←e.1] at e2;cases e2
  subst hx;clear h HR
  go_enter Tryz.func166,Tryz.ntmps166
  go_wp2;go_ret;exact ⟨_,rfl,Zl _ _ _ _,ZJ⟩
 | some a =>
  have li:Hid (∀j u,(ZO ns)[j]?=some u→(w.alloc (.cells #[] 147)).cell? (a.add j)=some u):=fun j u hu=>(HR.out.below HB.out).AX a rfl j u hu
  clear h;generalize hl:ns.length=m at *;have HL:=Z3 hl;clear hl
  go_enter Tryz.func166,Tryz.ntmps166
  go_wp2_with (at_builtin;go_must (refine UF _ rfl _ _ 61 rfl w.heap.size 147 i0 _ 7 72 Tryz.underlying61 hi hz0 hz1 hz2 rfl (by decide) _ _ _ rfl HE.out a m cap (ZO ns) rfl ?c0 li.out (SR _) ?c3 ?c4 ?c5 ?_))
  case c0=>rw [Zq,HL.out]
  case c3=>unfold maxLen;omega
  case c4=>omega
  case c5=>simp
  intro v2 w2 ho2 hg2 _;have FJ:Hid (Zz 147 w2 w.heap.size v2 ns):=by
   show World.ownsRow _ _ _ _ _ _ _;rw [HL.out];exact ho2
  have HG2:=Z3 (HB.out.grown hg2 (by simp) (by intro q hq;simp [Value.ownBlock] at hq;omega));clear ho2 hg2;go_wp2;go_ret;exact ⟨_,rfl,FJ.out,HG2.out⟩
theorem Hn (w:World) (z:Int):Calls Tryz.prog 164 #[.int .i64 z] w fun e w'=>e=.returned (.bool (decide (1≤z) && decide (z≤2147483647)))∧w'=w:=by
 obtain ⟨r,hr⟩:∃r,r=(decide (1≤z) && decide (z≤2147483647)):=⟨_,rfl⟩;rw [←hr]
 by_cases h1:1≤z
 · by_cases h2:z≤2147483647
   · rw [Y3 h1,Y3 h2] at hr
     have HR:=Z3 hr;clear hr
     go_enter Tryz.func164,Tryz.ntmps164
     go_wp2;go_ret;exact ⟨by rw [HR.out];rfl,rfl⟩
   rw [Y3 h1,YW h2] at hr;have HR:=Z3 hr;clear hr
   go_enter Tryz.func164,Tryz.ntmps164
   go_wp2;go_ret;exact ⟨by rw [HR.out];rfl,rfl⟩
 rw [YW h1] at hr;have HR:=Z3 hr;clear hr
 go_enter Tryz.func164,Tryz.ntmps164
 go_wp2;go_ret;exact ⟨by rw [HR.out];rfl,rfl⟩
theorem Vi {w W:World} {nm:String} {k:IntKind} {zs:List Int} (h:Lib.TabIs Tryz.prog w nm k zs) (hb:ZX w W):Lib.TabIs Tryz.prog W nm k zs:=by
 unfold Lib.TabIs World.var? at *
 cases hg:Tryz.prog.globalNamed nm with
 | none=>rw [hg] at h;cases h
 | some g =>
  rw [hg] at h
  simp only [Option.bind_some] at h ⊢
  by_cases hl:g<w.heap.size
  · rw [hb.block g hl];exact h
  rw [eR (by omega)] at h;cases h
theorem Kf (w:World) (v vo:Value) (ns:List Nd) (os:List Xd) (z:Int) (h:Wx w v ns) (ho:MJ w vo os) (hsz:∀i,(ZC ns i).path.size≤1048576∧(ZC ns i).data.size≤1048576) (hb:VW ns os z=false)
    (hg:w.cell? ⟨5,0,none⟩=some (.iface 345 (.agg #[.pointer (some ⟨11,182,none⟩)]))) (h0:5<w.heap.size) :
    Calls Tryz.prog 125 #[.agg #[v],.agg #[vo],.int .i64 z] w (YI w (.agg #[.int .i64 9,.int .i64 0,.slice none 0 0,.int .i64 0,.slice none 0 0])):=by
 obtain ⟨ao,ca,rfl,_,_⟩:=h.len;obtain ⟨bo,cb,rfl,_,_⟩:=ho.len;have HR:=Z3 h;have Pm:=Z3 hsz;have HG:=Z3 hg;have HBAD:=Z3 hb;have X0:Hid (Bp w (.slice ao ns.length ca) (.slice bo os.length cb) (((w.alloc (.cells #[.slice ao ns.length ca] 63)).alloc (.cells #[.slice bo os.length cb] 41)).alloc (.cells #[.int .i64 0,.int .i64 0,.slice none 0 0,.int .i64 0,.slice none 0 0] 194))):=Bp.new _ _ _ _ _ _;clear h ho hsz hb hg
 go_enter Tryz.func125,Tryz.ntmps125
 go_wp2_with fail
 generalize ((w.alloc _).alloc _).alloc _=w0 at *;refine (XE _ _ ns (HR.out.below X0.out.1) Pm.out).mono ?_;rintro e w1 ⟨rfl,b1⟩;have X1:=Z3 (X0.out.below b1);clear b1 X0;obtain ⟨-,zz,a0,a1,-⟩:=X1.out;have lC:=Z3 (AZ w1 9 ((X1.out.1.cell (p:=⟨5,0,none⟩) h0).trans HG.out) (by omega));have th:Hid (∀W,Calls Tryz.prog 164 #[.int .i64 z] W fun e w'=>e=.returned (.bool (decide (1≤z) && decide (z≤2147483647)))∧w'=W):=fun W=>Hn W z
 have hB:=HBAD.out;unfold VW at hB;clear HBAD
 cases ht:YY ns with
 | false =>
  clear hB
  go_wp2_with (first | (go_at_call 164;refine (th.out _).mono ?_;rintro e w' ⟨rfl,rfl⟩) | (go_at_call 165;refine lC.out.mono ?_))
  rintro e w2 ⟨rfl,b2⟩;have X2:=Z3 (X1.out.below b2);clear b2;obtain ⟨-,zz,-,-,⟨d0,d1,d2,d3,d4⟩,df⟩:=X2.out;have f0:=df 0;have f1:=df 1;have f2:=df 2;have f3:=df 3;have f4:=df 4;clear df
  go_wp2_with fail
  refine ZS (v:=.agg #[.int .i64 9,.int .i64 0,.slice none 0 0,.int .i64 0,.slice none 0 0]) (by simp [results,Tryz.results125,go_sem,d0,d1,d2,d3,d4]) rfl ⟨rfl,X2.out.1.trans ?_⟩
  repeat (first | exact ZJ | refine Below.setCell ?_ (by simp;try omega) _)
 | true =>
  rw [ht,Qv] at hB;clear ht
  by_cases h1:1≤os.length
  · rw [Y3 h1,Qv] at hB
    have yA:¬(os.length:Int)<1:=by omega
    by_cases h2:os.length≤64
    · rw [Y3 h2,Qv] at hB
      have lB:¬(64:Int)<(os.length:Int):=by omega
      rw [hB] at th;clear hB
      go_wp2_with (first | (go_at_call 164;refine (th.out _).mono ?_;rintro e w' ⟨rfl,rfl⟩) | (go_at_call 165;refine lC.out.mono ?_))
      rintro e w2 ⟨rfl,b2⟩;have X2:=Z3 (X1.out.below b2);clear b2;obtain ⟨-,zz,-,-,⟨d0,d1,d2,d3,d4⟩,df⟩:=X2.out;have f0:=df 0;have f1:=df 1;have f2:=df 2;have f3:=df 3;have f4:=df 4;clear df
      go_wp2_with fail
      refine ZS (v:=.agg #[.int .i64 9,.int .i64 0,.slice none 0 0,.int .i64 0,.slice none 0 0]) (by simp [results,Tryz.results125,go_sem,d0,d1,d2,d3,d4]) rfl ⟨rfl,X2.out.1.trans ?_⟩
      repeat (first | exact ZJ | refine Below.setCell ?_ (by simp;try omega) _)
    have lB:(64:Int)<(os.length:Int):=by omega
    clear hB
    go_wp2_with (first | (go_at_call 164;refine (th.out _).mono ?_;rintro e w' ⟨rfl,rfl⟩) | (go_at_call 165;refine lC.out.mono ?_))
    rintro e w2 ⟨rfl,b2⟩;have X2:=Z3 (X1.out.below b2);clear b2;obtain ⟨-,zz,-,-,⟨d0,d1,d2,d3,d4⟩,df⟩:=X2.out;have f0:=df 0;have f1:=df 1;have f2:=df 2;have f3:=df 3;have f4:=df 4;clear df
    go_wp2_with fail
    refine ZS (v:=.agg #[.int .i64 9,.int .i64 0,.slice none 0 0,.int .i64 0,.slice none 0 0]) (by simp [results,Tryz.results125,go_sem,d0,d1,d2,d3,d4]) rfl ⟨rfl,X2.out.1.trans ?_⟩
    repeat (first | exact ZJ | refine Below.setCell ?_ (by simp;try omega) _)
  have yA:(os.length:Int)<1:=by omega
  clear hB
  go_wp2_with (first | (go_at_call 164;refine (th.out _).mono ?_;rintro e w' ⟨rfl,rfl⟩) | (go_at_call 165;refine lC.out.mono ?_))
  rintro e w2 ⟨rfl,b2⟩;have X2:=Z3 (X1.out.below b2);clear b2;obtain ⟨-,zz,-,-,⟨d0,d1,d2,d3,d4⟩,df⟩:=X2.out;have f0:=df 0;have f1:=df 1;have f2:=df 2;have f3:=df 3;have f4:=df 4;clear df
  go_wp2_with fail
  refine ZS (v:=.agg #[.int .i64 9,.int .i64 0,.slice none 0 0,.int .i64 0,.slice none 0 0]) (by simp [results,Tryz.results125,go_sem,d0,d1,d2,d3,d4]) rfl ⟨rfl,X2.out.1.trans ?_⟩
  repeat (first | exact ZJ | refine Below.setCell ?_ (by simp;try omega) _)
theorem Xp.rd {w:World} {base:Nat} {v:Value} {xs:List Int} (h:Xp w base v xs):Rd .u8 w v xs:=by
 obtain ⟨g,cap,rfl,h2,h3,h4,h5,h6,h7⟩:=h;refine ⟨_,cap,rfl,h4,h5,.inr ⟨g,0,rfl,h3,fun i hi=>?_⟩⟩;refine h6 i _ ?_;rw [Qs,Xc hi]
 simp [List.getD,hi]
theorem nz (w:World) (s:ByteArray) (hs:s.size≤1000) :
    ∃v W,(convert 9 22 (.string s)).run Tryz.prog w=.ok v W∧ZX w W∧Xp W w.heap.size v (XS s):=by
 have hr:=Lib.run_convert_string_bytes (P:=Tryz.prog) w 9 22 5 s Tryz.underlying9 Tryz.underlying22 Tryz.underlying5;have hge:=Jk w s.size 0 5;have hle:=Jj w s.size 0 5 (by unfold maxLen;omega);have hsz:=Lib.bytesWorld_size w 5 s;have hn:=Lib.bytesWorld_at_new w 5 s;have hq:(Lib.bytesCells w 5 s).size=grownCap w s.size 0 5:=by
  unfold Lib.bytesCells;rw [pY,Array.size_map,Ac];have:s.data.size=s.size:=rfl;omega
 refine ⟨_,_,hr,⟨rfl,rfl,rfl,by omega,fun k hk=>Lib.bytesWorld_at_old w _ _ k hk⟩,w.heap.size,_,by rw [YP],ZT,by omega,by rw [YP];exact hge,hle,?_,?_⟩
 · intro j u hj
   have hlt:j<s.size:=by
    have:=(UG.1 hj).1;rw [XJ,YP] at this;exact this
   rw [YK,Lib.bytesWorld_cell w 5 s j hlt,←hj];unfold XS;have h2:j<s.data.toList.length:=by rw [Gc];exact hlt
   rw [Qs,Qs,Xc h2]
   simp [List.getD,lr (show j<s.data.size from hlt)]
 intro j hj;rw [YK,Xn _ w.heap.size j _ _ _ hn];refine ⟨by rw [lr (by omega)];rfl,?_⟩
 simp [World.frozen?,hn]
 omega
def Yx (s:ByteArray) (zs:List Nat):List Int:=XS s++zs.flatMap fun z=>32 :: UU z
theorem j0 {u:Nat} (h:u<1000000):Lib.nDigits u≤20:=by
 rcases Nat.eq_zero_or_pos u with rfl | h0
 · rw [Lib.nDigits_small (by omega)];omega
 have:=Lib.numDigits_eq u (by omega) (by omega);split at this <;> omega
theorem Hm (zs:List Nat) (hz:∀z ∈ zs,z<1000000):(zs.flatMap fun z=>32 :: UU z).length≤21*zs.length:=by
 induction zs with
 | nil=>simp
 | cons z zs ih =>
  rw [FQ,ZA,Yr,Nz,Yr];have:=ih (fun z hz'=>hz z (by simp [hz']));have:=j0 (hz z (by simp));omega
theorem Hl (w : World) (s : ByteArray) (v : Value) (zs : List Nat) (h : Rd .i64 w v (zs.map fun z : Nat => (z : Int))) (hs : s.size ≤ 1000) (hn : zs.length ≤ 1000) (hz : ∀ z ∈ zs, z < 1000000) (htab : Lib.TabIs Tryz.prog w "internal/strconv.uint64pow10" .u64 Lib.pow10Tab) :
    Calls Tryz.prog 71 #[.string s,v] w (YI w (.string (strOfNums (Yx s zs)))):=by
 obtain ⟨v5,w1,hr,hb1,ho1⟩:=nz w s hs;obtain ⟨ao,cp,rfl,hl1,hl2,hl3⟩:=h;rw [XJ] at hl1 hl3 ⊢;have HL:=Z3 hl3;have HT:=Z3 htab;have HZ:=Z3 hz;have O1:=Z3 ho1;have B1:=Z3 hb1;clear hl3 htab hz hb1 ho1
 go_enter Tryz.func71,Tryz.ntmps71
 go_wp2_with fail
 clear hr
 go_loopw [5,12] (fun v5 v12 wr=>∃i:Nat,v12=.int .i64 (i:Int)∧i≤zs.length∧Hid (Xp wr w.heap.size v5 (Yx s (zs.take i)))∧Hid (ZX w wr)) (fun _ v _=>((zs.length:Int) - intOf v).toNat)
 case atStart=>exact ⟨0,rfl,Zu _,by show Xp _ _ _ _;unfold Yx;rw [PO,uk,TX];exact O1.out,B1⟩
 case round =>
  obtain ⟨i,rfl,hi,OH,BH⟩:=hrel
  by_cases hc:i<zs.length
  · have hlen:(Yx s (zs.take i)).length≤1000+21*1000:=by
     unfold Yx;rw [ZA,YP];have:=Hm (zs.take i) (fun z hz=>HZ.out z (Ms hz));have:(zs.take i).length≤zs.length:=by rw [XU];omega
     omega
    have E:Hid (Yx s (zs.take (i+1))=Yx s (zs.take i)++XS ⟨#[32]⟩++UU zs[i]):=by
     show _=_;unfold Yx;rw [TL hc,MY,FQ,uk,TX]
     simp [XS]
    have hzi:=HZ.out zs[i] (UO hc);obtain ⟨b,off,rfl,hb,hcl⟩:=HL.out.resolve_left (fun e=>by rw [List.map_eq_nil_iff] at e;rw [e] at hc;simp at hc);have hci:wr.cell? ⟨b,off+i,none⟩=some (.int .i64 (zs[i]:Int)):=by
     rw [BH.out.cell (p:=⟨b,off+i,none⟩) hb,hcl i hc]
     simp [List.getD,hc]
    clear hcl;have sB:=BH.out.size;generalize zs[i]=z at *
    go_wp2_with (at_builtin;go_must (refine VD rfl _ _ rfl w.heap.size _ (Yx s (zs.take i)) ⟨#[32]⟩ rfl rfl OH.out sB (ZF (Nat.add_le_add_right hlen 1) (by decide)) ?_))
    intro v2 w2 o2 g2;have O2:=Z3 o2;have B2:=Z3 (BH.out.grown g2 sB OH.out.lt);have s2:=B2.out.size;have HI:=Z3 (Fc w2 w.heap.size v2 _ z hzi O2.out s2 (by rw [ZA];exact ZF (Nat.add_le_add_right hlen 1) (by decide)) (Vi HT.out B2.out));clear o2 g2 OH BH sB
    go_wp2_with fail
    refine HI.out.mono ?_;rintro e w3 ⟨v3,rfl,o3,b3⟩;have O3:=Z3 o3;have B3:=Z3 (B2.out.trans b3);clear o3 b3 HI O2 B2
    go_wp2_with fail
    refine ⟨⟨i+1,by go_num,by omega,?_,B3⟩,by simp [intOf];omega⟩;show Xp _ _ _ _;rw [E.out];exact O3.out
  have hie:i=zs.length:=by omega
  subst hie;rw [Rw] at OH;have hcv:=WS OH.out.rd;go_wp2;go_ret;exact ⟨rfl,BH.out⟩
end
section
open Go.RowKit Go.Conc
theorem wN {w:World} {v:Value} {ns:List Nd} {g:Nat} (h:Wx w v ns) (hn:ns≠[]) (hb:w.heap[g]?=some (.cells #[.int .i64 0,.slice none 0 0] 132 (0,0))):∀q,v.ownBlock=some q→q≠g:=by
 obtain ⟨ao,cp,rfl,h1,h2,h3⟩:=h;obtain ⟨b,off,rfl,hlt,hcl⟩:=h3.resolve_left hn;rintro q hq rfl
 simp only [Value.ownBlock,Zo] at hq
 subst hq;have c0:=(hcl 0 (List.length_pos_iff.2 hn)).c0;rw [cell_of hb] at c0
 simp only [TK,Wi] at c0
 match off,c0 with
 | 0,c0=>simp at c0
 | 1,c0=>simp at c0
 | k+2,c0=>simp at c0
theorem jZ {w:World} {v:Value} {xs:List Int} {g:Nat} (h:Rd .u8 w v xs) (hn:0<xs.length) (hb:w.heap[g]?=some (.cells #[.int .i64 0,.slice none 0 0] 132 (0,0))):∀q,v.ownBlock=some q→q≠g:=by
 obtain ⟨ao,cp,rfl,h1,h2,h3⟩:=h;obtain ⟨b,off,rfl,hlt,hcl⟩:=h3.resolve_left (fun e=>by rw [e] at hn;simp at hn);rintro q hq rfl
 simp only [Value.ownBlock,Zo] at hq
 subst hq;have c0:=hcl 0 hn;rw [cell_of hb] at c0
 simp only [Wi] at c0
 match off,c0 with
 | 0,c0=>simp at c0
 | 1,c0=>simp at c0
 | k+2,c0=>simp at c0
theorem LA {w w':World} {v:Value} {ns:List Nd} (h:Wx w v ns) (hs:w.heap.size≤w'.heap.size) (hb:ns≠[]→∀q,v.ownBlock=some q→q<w.heap.size→w'.heap[q]?=w.heap[q]?):Wx w' v ns:=by
 by_cases e:ns=[]
 · obtain ⟨ao,cp,rfl,h1,h2,h3⟩:=h
   exact ⟨ao,cp,rfl,h1,h2,.inl e⟩
 exact Ys h hs (hb e)
theorem Sv.pq {κ:Sc} {σ:Sx} {w:World} (h:Sv κ σ w):∃v0,Tk κ v0∧Ph σ.pw w κ.sB (.pointer (some ⟨κ.mB,0,none⟩)) κ.S κ.L v0 σ.k w:=by
 obtain ⟨vd,made,ZQ,a1,a2,a3,a4,a5⟩:=h.dk;refine ⟨vd,a5,vd,nY σ.pw,made,ZQ,[],fun _=>.slice none 0 0,a1,?_,a3,Zu _,fun i=>by simp [pD],a4,?_,.inl rfl,Gr.refl _,a1.lt⟩
 · cases hp:σ.pw with
   | none=>exact LK a2
   | some g =>
    obtain ⟨q1,q2,q3,q4,q5,q6⟩:=h.pw g hp;have hr:w.ownsRow (κ.sB+1) 132 2 (.slice (some ⟨g,0,none⟩) 0 1) 0 []:=⟨rfl,.inr ⟨g,1,_,rfl,q2,q1,Zu _,by decide,rfl,rfl⟩⟩;refine ⟨a2,⟨hr,fun i hi=>by simp at hi,fun i j hi=>by simp at hi,fun i hi=>by simp at hi⟩,fun q hq=>(ZD a2 q hq).2,fun q hq=>?_,fun i hi=>by simp at hi,?_,fun i hi=>by simp at hi⟩
    · exact (ZD hr q hq).2
    refine .inr (fun e=>?_)
    rcases a2.2 with ⟨rfl,-⟩ | ⟨g9,cap,cur,rfl,-,nZ,-⟩
    · simp [nY,Value.ownBlock] at e
    simp only [nY,Value.ownBlock,Zo] at e
    subst e;rw [nZ] at q1
    injection q1 with q1
    injection q1 with _ h2
    exact absurd h2 (by decide)
 intro g hg
 cases hp:σ.pw with
 | none=>rw [hp] at hg;simp [nY,Value.ownBlock] at hg
 | some g9=>rw [hp] at hg;simp only [nY,Value.ownBlock,Zo] at hg;exact .inr (by rw [hg])
theorem Sv.ended {κ:Sc} {σ:Sx} {w w':World} {v0:Value} {k:Nat} (h:Sv κ σ w) (hv:Tk κ v0) (hp:Pq σ.pw w κ.sB (.pointer (some ⟨κ.mB,0,none⟩)) κ.S κ.L v0 k w') (hsp:σ.pw=none∨σ.sn=none):Sv κ { σ with k:=k,pw:=none } w'∧Gw κ w w':=by
 obtain ⟨vd,made,ZQ,h1,h2,h3,h4,h5,h6,h7⟩:=hp;obtain ⟨vt,vq,cp,b1,b2,b3,b4,b5,b6,b7,b8⟩:=h.mm;obtain ⟨Lv,s,r,c1,c2,c3⟩:=h.ch;have hne:=h.ne;have hs:=h6.size;have hbl:∀q,q<w.heap.size→q≠κ.sB→(∀g,σ.pw=some g→q≠g)→w'.heap[q]?=w.heap[q]?:=fun q hq hn hg=>h6.block q hq hn (fun e=>hg q e.symm rfl)
 have hlb:κ.lb<w.heap.size:=(b7.lt κ.lb rfl).2;have hcb:κ.c<w.heap.size:=(Yh.mp c1).1;have hmb:=b1.lt;refine ⟨⟨hne,fun x hx=>⟨ZL (h.fx x hx).1 hs,(h.fx x hx).2⟩,⟨vd,made,ZQ,h1,h2,h3,h4,?_⟩,⟨vt,vq,cp,YN b1 hs (hbl _ b1.lt hne.1.symm (fun g hg=>Ne.symm (h.pw g hg).2.2.1)),LA b2 hs (fun e q hq hl=>hbl q hl (b5 q hq).1 (fun g hg=>wN b2 e (h.pw g hg).1 q hq)),LA b3 hs (fun e q hq hl=>hbl q hl (b6 q hq).1 (fun g hg=>wN b3 e (h.pw g hg).1 q hq)),b4,b5,b6,?_,b8⟩,⟨Lv,s,r,(hbl _ hcb hne.2.1.symm (fun g hg=>Ne.symm (h.pw g hg).2.2.2.1)).trans c1,⟨c2.1,fun i hi=>⟨Vo (c2.2 i hi).1 hs (fun q hq hl=>hbl q hl (c3 i hi q hq).1 (fun g hg=>jZ (c2.2 i hi).1 (c2.2 i hi).2 (h.pw g hg).1 q hq)),(c2.2 i hi).2⟩⟩,c3⟩,fun p hp=>?_,nX.none⟩,⟨h6.os,h6.tape,h6.output,hs,fun q hq a _ _ _ _ e=>hbl q hq a (fun g hg e9=>e (by rw [e9];exact (h.pw g hg).2.1) (by rw [e9,cell_of (h.pw g hg).1];rfl))⟩⟩
 · rcases h5 with rfl | h5
   · exact hv
   intro q hq;have:=h5 q hq;have h8:=Qe h2 q hq;refine ⟨by omega,by omega,by omega,by omega,fun hx=>?_⟩;have:=(h.fx q hx).1;omega
 · obtain ⟨g9,lo,fQ,pre,e1,e2,e3⟩:=b7
   refine ⟨g9,lo,fQ,pre,e1,e2,e3.1,e3.2.imp id ?_⟩;rintro ⟨q,cap,cur,e4,e5,e6,e7⟩;have hq:q=κ.lb:=by
    simp only [Y4,Zo,JB] at e4 e1
    omega
   refine ⟨q,cap,cur,e4,e5,(hbl q (Yh.mp e6).1 (by rw [hq];exact hne.2.2.1.symm) (fun g hg=>by rw [hq];exact Ne.symm (h.pw g hg).2.2.2.2.1)).trans e6,e7⟩
 obtain ⟨p1,p2⟩:=h.sn p hp;refine ⟨p1.same (hbl _ p1.lt (zE p2.1) (fun g hg=>?_)),p2⟩
 rcases hsp with e | e
 · rw [e] at hg;cases hg
 rw [show σ.sn=some p from hp] at e;cases e
def iE (κ : Sc) (w : World) : Prop := ∀ W, Gw κ w W → Lib.TabIs Tryz.prog W "internal/strconv.uint64pow10" .u64 Lib.pow10Tab
theorem Tf (w : World) (s : ByteArray) (z : Nat) (hs : s.size ≤ 1000) (hz : z < 1000000) (htab : Lib.TabIs Tryz.prog w "internal/strconv.uint64pow10" .u64 Lib.pow10Tab) :
    Calls Tryz.prog 71 #[.string s,.slice (some ⟨w.heap.size,0,none⟩) 1 1] (w.alloc (.cells #[.int .i64 (z:Int)] 2)) (YI w (.string (strOfNums (Yx s [z])))):=by
 have hb:=(Below.refl w.heap.size w).alloc ZT (.cells #[.int .i64 (z:Int)] 2);refine (Hl _ s _ [z] ⟨_,1,rfl,ZT,by decide,.inr ⟨w.heap.size,0,rfl,by simp,fun i hi=>?_⟩⟩ hs (by simp) (by simpa using hz) (Vi htab hb)).mono ?_
 · have:i=0:=by simpa using hi
   subst this;rw [Xn _ w.heap.size (0+0) _ _ _ (Y9 w _)]
   rfl
 rintro e w' ⟨rfl,b⟩;exact ⟨rfl,YV hb b⟩
theorem Sv.rY {κ:Sc} {σ:Sx} {w W:World} {x y:Nat} (h:Sv κ σ w) (hb:ZX w W) (hn:σ.sn=none) (hp:uB (W.setCell ⟨κ.mB,12,none⟩ (.pointer (some ⟨w.heap.size,0,none⟩))) (w.heap.size,x,y) false) :
    Sv κ { σ with sn:=some (w.heap.size,x,y),em:=false } (W.setCell ⟨κ.mB,12,none⟩ (.pointer (some ⟨w.heap.size,0,none⟩)))∧Gs κ w (W.setCell ⟨κ.mB,12,none⟩ (.pointer (some ⟨w.heap.size,0,none⟩))):=by
 obtain ⟨vd,made,ZQ,a1,a2,a3,a4,a5⟩:=h.dk;obtain ⟨vt,vq,cp,b1,b2,b3,b4,b5,b6,b7,b8⟩:=h.mm;obtain ⟨Lv,s,r,c1,c2,c3⟩:=h.ch;have hne:=h.ne;have hs:w.heap.size≤(W.setCell ⟨κ.mB,12,none⟩ (.pointer (some ⟨w.heap.size,0,none⟩))).heap.size:=by simpa using hb.size
 have hbl:∀q,q<w.heap.size→q≠κ.mB→(W.setCell ⟨κ.mB,12,none⟩ (.pointer (some ⟨w.heap.size,0,none⟩))).heap[q]?=w.heap[q]?:=fun q hq hn=>(Below.heap_setCell W ⟨κ.mB,12,none⟩ _ q hn).trans (hb.block q hq)
 have hlb:κ.lb<w.heap.size:=(b7.lt κ.lb rfl).2;have hcb:κ.c<w.heap.size:=(Yh.mp c1).1;have hmb:=b1.lt;have hsb:=a1.lt;refine ⟨⟨hne,fun x hx=>⟨ZL (h.fx x hx).1 hs,(h.fx x hx).2⟩,⟨vd,made,ZQ,YN a1 hs (hbl _ hsb hne.1),(a2.below hb).setAt (.inr (fun e=>(a5 _ e).2.1 rfl)),a3,a4,a5⟩,⟨vt,vq,cp,(b1.below hb).set 12 _,Ys b2 hs (fun q hq hl=>hbl q hl (b5 q hq).2.1),Ys b3 hs (fun q hq hl=>hbl q hl (b6 q hq).2.1),b4,b5,b6,(b7.below hb).setAt (.inr (by simp [Value.ownBlock];exact fun e=>hne.2.2.2.2.1 e.symm)),b8⟩,⟨Lv,s,r,(hbl _ hcb hne.2.2.2.1.symm).trans c1,⟨c2.1,fun i hi=>⟨Vo (c2.2 i hi).1 hs (fun q hq hl=>hbl q hl (c3 i hi q hq).2.1),(c2.2 i hi).2⟩⟩,c3⟩,fun p hp'=>?_,h.pw.keep (fun g hl _ h2 _ _ _ _=>hbl g hl h2)⟩,⟨hb.os,hb.tape,hb.output,hs,fun q hq _ h2 _ _=>hbl q hq h2⟩⟩
 cases hp'
 exact ⟨hp,by omega,by omega,by omega,by omega,fun hx=>by have:=(h.fx _ hx).1;omega⟩
theorem wM (κ:Sc) (σ:Sx) (w:World) (h:Sv κ σ w) (hk:σ.k≤9000) (hsn:σ.sn=none) (hz:σ.zf<1000000) (hfl:σ.full.length≤4096) (htab:iE κ w) :
    Calls Tryz.prog 76 #[.pointer (some ⟨κ.sB,0,none⟩)] w fun e w'=>e=.returned (.string (strOfNums (Yx ⟨#[115,116,97,114,116,101,100]⟩ [σ.zf])))∧Gw κ w w'∧∃pB,Sv κ { σ with k:=σ.k+1,pw:=none,sn:=some (pB,σ.zf,σ.full.length - σ.off),em:=false } w':=by
 obtain ⟨v0,hv0,hp⟩:=h.pq;obtain ⟨vt,vq,cp,b1,-⟩:=h.mm;obtain ⟨vd,made,ZQ,a1,-⟩:=h.dk;have c0:=a1.cl 0 _ rfl;have m13:=b1.cl 13 _ rfl;have m12:=b1.cl 12 _ rfl;rw [hsn] at m12;have D:Hid (Calls Tryz.prog 114 #[.pointer (some ⟨κ.sB,0,none⟩)] w fun e w'=>e=.returned (.tuple #[])∧Pq σ.pw w κ.sB (.pointer (some ⟨κ.mB,0,none⟩)) κ.S κ.L v0 (σ.k+1) w'∧KW κ.sB w w'):=Ks hp hk;have HV:=Z3 h;clear hp a1 b1 h
 go_enter Tryz.func76,Tryz.ntmps76
 go_wp2_with fail
 refine D.out.mono ?_;rintro e w1 ⟨rfl,p1,-⟩;obtain ⟨V1,G1⟩:=HV.out.ended hv0 p1 (.inr hsn);obtain ⟨fP,fO,Ag,b1,-⟩:=V1.mm;obtain ⟨fN,wK,jY,a1,-⟩:=V1.dk;have A1:Hid (St w1.drew κ.sB (Kt (.pointer (some ⟨κ.mB,0,none⟩)) κ.S κ.L fN (.slice none 0 0) wK)):=a1.below (below_drewN' w1 1);have M1:Hid (St w1.drew κ.mB (Ah κ { σ with k:=σ.k+1,pw:=none } fP fO Ag)):=b1.below (below_drewN' w1 1);have V2:Hid (Sv κ { σ with k:=σ.k+1,pw:=none } w1.drew):=V1.below (below_drewN' w1 1);have G2:Hid (Gw κ w w1.drew):=G1.trans (Gs.ZV (below_drewN' w1 1)).gw;clear c0 m13 m12 p1 a1 b1 D V1 G1 HV;have c0:w1.drew.cell? ⟨κ.sB,0,none⟩=some (.pointer (some ⟨κ.mB,0,none⟩)):=A1.out.cl 0 _ rfl;have m1:w1.drew.cell? ⟨κ.mB,1,none⟩=some (.int .i64 (σ.zf:Int)):=M1.out.cl 1 _ rfl;obtain ⟨la,hla⟩:∃x,x=κ.lo+(if σ.off=Ag then 0 else σ.off):=⟨_,rfl⟩;have m11:w1.drew.cell? ⟨κ.mB,11,none⟩=some (.slice (some ⟨κ.lb,la,none⟩) (σ.full.length - σ.off) (Ag - σ.off)):=by rw [hla];exact M1.out.cl 11 _ rfl
 have Sn:=Z3 hla;clear hla
 go_wp2_with fail
 refine ZH (S:=fun W=>W.cell? ⟨κ.sB,0,none⟩=some (.pointer (some ⟨κ.mB,0,none⟩))∧W.cell? ⟨κ.mB,1,none⟩=some (.int .i64 (σ.zf:Int))∧W.cell? ⟨κ.mB,11,none⟩=some (.slice (some ⟨κ.lb,la,none⟩) (σ.full.length - σ.off) (Ag - σ.off))) (by kernel_rfl) ⟨c0,m1,m11⟩ (fun Z9=>?_);clear c0 m1 m11;generalize w1.drew=w2 at *
 iterate 21 (refine ZW ?_ (by kernel_rfl) (fun _=>id) Z9 ?_ ?_;rotate_left;· intro w9 Z0;obtain ⟨k0,k1,k2⟩:=Z0;go_simp;try with_reducible rfl)
 refine ZU 21 rfl (by kernel_rfl) (fun K hK=>?_);go_simp;have bA:=(Below.refl w2.heap.size w2).alloc ZT (.cells #[.int .i64 (σ.zf:Int),.int .i64 ((σ.full.length - σ.off:Nat):Int),.string ⟨#[]⟩,.slice none 0 0] 186);refine hK.out _ _ ⟨(bA.cell (p:=⟨κ.sB,0,none⟩) A1.out.lt).trans Z9.1,(bA.cell (p:=⟨κ.mB,1,none⟩) M1.out.lt).trans Z9.2.1,(bA.cell (p:=⟨κ.mB,11,none⟩) M1.out.lt).trans Z9.2.2⟩ (fun ZM=>?_);clear hK K
 iterate 2 (refine ZW ?_ (by kernel_rfl) (fun _=>id) Z9 ?_ ?_;rotate_left;· intro w9 Z0;obtain ⟨k0,k1,k2⟩:=Z0;go_simp;try with_reducible rfl)
 refine ZU 24 rfl (by kernel_rfl) (fun K hK=>?_);have M2:=M1.out.Zc bA M1.out.lt;have A2:=A1.out.Zc bA A1.out.lt;have m12:=M2.cl 12 _ rfl;have f12:=M2.fz 12;go_simp;have M3:=M2.set 12 (.pointer (some ⟨w2.heap.size,0,none⟩));have A3:=A2.other (c:=κ.mB) (j:=12) (x:=.pointer (some ⟨w2.heap.size,0,none⟩)) V2.out.ne.1;have P3:=(St.new w2 #[.int .i64 (σ.zf:Int),.int .i64 ((σ.full.length - σ.off:Nat):Int),.string ⟨#[]⟩,.slice none 0 0] 186).other (c:=κ.mB) (j:=12) (x:=.pointer (some ⟨w2.heap.size,0,none⟩)) (by have:=M1.out.lt;omega);have SB:uB ((w2.alloc (.cells #[.int .i64 (σ.zf:Int),.int .i64 ((σ.full.length - σ.off:Nat):Int),.string ⟨#[]⟩,.slice none 0 0] 186)).setCell ⟨κ.mB,12,none⟩ (.pointer (some ⟨w2.heap.size,0,none⟩))) (w2.heap.size,σ.zf,σ.full.length - σ.off) false:=⟨by simp,fun _=>(Below.heap_setCell _ ⟨κ.mB,12,none⟩ _ w2.heap.size (by have:=M1.out.lt;show w2.heap.size≠κ.mB;omega)).trans (Y9 w2 _)⟩;have F3:=Z3 (V2.out.rY bA hsn SB);have T3:=Z3 (htab _ (G2.out.trans F3.out.2.gw));have G3:=Z3 (G2.out.trans F3.out.2.gw);refine hK.out _ _ ⟨A3.cl 0 _ rfl,M3.cl 1 _ rfl,by rw [Sn.out];exact M3.cl 11 _ rfl⟩ (fun ZM=>?_);have c0:=A3.cl 0 _ rfl;have ZZ:=M3.cl 12 _ rfl;have p0:=P3.cl 0 _ rfl;clear hK K SB m12 f12 bA M2 A2 M3 A3 P3 Z9 ZM;refine ZP (by kernel_rfl) ?_ _
 try simp only [Act.put,Y8,Y7,Y6]
 generalize (w2.alloc _).setCell _ _=w3 at *
 go_wp2_with fail
 refine (Tf w3 ⟨#[115,116,97,114,116,101,100]⟩ σ.zf (by decide) hz T3.out).mono ?_;rintro e w4 ⟨rfl,b4⟩;have FIN:=Z3 (And.intro (G3.out.trans (Gs.ZV b4).gw) (F3.out.1.below b4));clear b4 F3 T3 G3;go_wp2;go_ret;exact ⟨rfl,FIN.out.1,_,FIN.out.2⟩
theorem Sk (w:World) (sB mB:Nat) (b:Int) (hb:0≤b∧b≤1) (h0:w.cell? ⟨sB,0,none⟩=some (.pointer (some ⟨mB,0,none⟩))) (h7:w.cell? ⟨mB,7,none⟩=some (.int .i64 b)) :
    Calls Tryz.prog 123 #[.pointer (some ⟨sB,0,none⟩)] w (YI w (.int .i64 (1 - b))):=by
 go_enter Tryz.func123,Tryz.ntmps123
 go_wp2;go_ret;exact ⟨rfl,ZJ⟩
theorem MI (w:World) (pB:Nat) (v:Value) (ns:List Nd) (h2:w.cell? ⟨pB,2,none⟩=some (.string ⟨#[]⟩)) (h:Wx w v ns) (hn:ns.length≤1000) (hL:Low ns ⟨#[]⟩ 0) (hf:Q1 ns ⟨#[]⟩ 0=false) :
    Calls Tryz.prog 121 #[.pointer (some ⟨pB,0,none⟩),v] w (YI w v):=by
 have HF:=Z3 (Ul w v ns ⟨#[]⟩ 0 h hn hL);rw [hf] at HF;obtain ⟨ao,cp,rfl,h1,h3⟩:=h.len;clear h hL hf
 go_enter Tryz.func121,Tryz.ntmps121
 go_wp2_with fail
 refine HF.out.mono ?_;rintro e w1 ⟨rfl,b1⟩;have B1:=Z3 b1;clear b1 HF h2
 go_wp2_with fail
 exact ⟨rfl,_,by kernel_rfl,rfl,B1.out⟩
theorem wJ (w:World) (pB:Nat) (c0 c1:Value) (v:Value) (ns:List Nd) (hs:St w pB [c0,c1,.string ⟨#[]⟩,.slice none 0 0]) (h:Wx w v ns) (hn:ns.length≤1000) (hp:∀q,v.ownBlock=some q→q≠pB) (hok:∀i,i<ns.length→YL (ZC ns i)=true) (hl:(ns.flatMap Yi).length≤1000000) :
    Calls Tryz.prog 122 #[.pointer (some ⟨pB,0,none⟩),v] w fun e w'=>e=.returned (.tuple #[])∧∃l' v',St w' pB [c0,c1,.string l',v']∧Own .u8 5 w' w.heap.size v' (ns.flatMap Yi)∧w.grownBy w' (some pB):=by
 obtain ⟨ao,cp,rfl,h1,h3,h4⟩:=h;have HR:=Z3 h4;have HS:=Z3 hs;have HP:=Z3 hp;have HK:=Z3 hok;have HL:=Z3 hl;have hlt:=hs.lt;clear h4 hs hp hok hl
 go_enter Tryz.func122,Tryz.ntmps122
 go_wp2_with fail
 go_loopw [9] (fun v9 wr=>∃(i:Nat) (l':ByteArray) (v':Value),v9=.int .i64 (i:Int)∧i≤ns.length∧Hid (St wr pB [c0,c1,.string l',v'])∧Hid (Own .u8 5 wr w.heap.size v' ((ns.take i).flatMap Yi))∧Hid (w.grownBy wr (some pB))) (fun v _=>((ns.length:Int) - intOf v).toNat)
 case atStart=>exact ⟨0,⟨#[]⟩,.slice none 0 0,rfl,Zu _,HS,Zl _ _ _ _,YT _ _⟩
 case round =>
  obtain ⟨i,l',v',rfl,hi,SH,OH,I⟩:=hrel
  by_cases hc:i<ns.length
  · obtain ⟨b,off,rfl,hb,hcl⟩:=HR.out.resolve_left (fun e=>by rw [e] at hc;simp at hc)
    have hbp:=HP.out b rfl;have e9:∀j,wr.cell? ⟨b,j,none⟩=w.cell? ⟨b,j,none⟩:=fun j=>Zj (w:=w) (a:=⟨b,j,none⟩) (I.out.block b hb (fun e=>hbp (by injection e)))
    have hN:=hcl i hc;have k0:=(e9 _).trans hN.c0;have k1:=(e9 _).trans hN.c1;have k2:=(e9 _).trans hN.c2;have k3:=(e9 _).trans hN.c3;have k4:=(e9 _).trans hN.c4;have k5:=(e9 _).trans hN.c5;have k6:=(e9 _).trans hN.c6;have Z':=HK.out i hc;have p3:=SH.out.cl 3 _ rfl;have hle:((ns.take (i+1)).flatMap Yi)=((ns.take i).flatMap Yi)++Yi (ZC ns i):=by
     rw [TL hc,MY,YZ hc];simp
    have hll:((ns.take i).flatMap Yi).length≤1000000:=by
     refine ZF ?_ HL.out
     conv=>rhs;rw [←VC i ns,MY,ZA]
     omega
    have lV:=Z3 hle;have Z8:=Z3 hll;have gs:=I.out.size;have hpw:=SH.out.lt;clear hcl e9 hN hle hll;generalize hnd:ZC ns i=nd at *;have HB:=Z3 (Of.new wr (.cells #[.string nd.path,.string nd.data,.int .i64 nd.Zy,.int .i64 nd.Zw,.int .i64 nd.cz,.int .i64 nd.mz,.int .i64 nd.pz] 147) nd);have hb2:=((Below.refl wr.heap.size wr).alloc ZT (.cells #[.string nd.path,.string nd.data,.int .i64 nd.Zy,.int .i64 nd.Zw,.int .i64 nd.cz,.int .i64 nd.mz,.int .i64 nd.pz] 147)).alloc (by simp) (.cells #[.string nd.path,.string nd.data,.int .i64 nd.Zy,.int .i64 nd.Zw,.int .i64 nd.cz,.int .i64 nd.mz,.int .i64 nd.pz] 149);have Tq:Hid (((wr.alloc (.cells #[.string nd.path,.string nd.data,.int .i64 nd.Zy,.int .i64 nd.Zw,.int .i64 nd.cz,.int .i64 nd.mz,.int .i64 nd.pz] 147)).alloc (.cells #[.string nd.path,.string nd.data,.int .i64 nd.Zy,.int .i64 nd.Zw,.int .i64 nd.cz,.int .i64 nd.mz,.int .i64 nd.pz] 149)).heap[wr.heap.size]?=some (.cells #[.string nd.path,.string nd.data,.int .i64 nd.Zy,.int .i64 nd.Zw,.int .i64 nd.cz,.int .i64 nd.mz,.int .i64 nd.pz] 147)):=(Below.heap_alloc _ _ _ (by simp)).trans (Y9 wr _);have HC:=Z3 (Tr _ w.heap.size v' _ (wr.heap.size+1) nd (OH.out.below hb2) (ZF gs hb2.size) Z8.out HB.out Z');have C:=Z3 (SH.out.below hb2);have Y:=Z3 hb2;clear hb2
    go_wp2_with fail
    refine HC.out.mono ?_;rintro e w3 ⟨v3,rfl,o3,b3,B⟩;obtain ⟨a3,q3,rfl⟩:=o3.slice;have U:=C.out.Zc b3 hlt;have n3:=B.box Tq.out (by decide);have A:w.grownBy w3 (some pB):=⟨b3.os.trans (Y.out.os.trans I.out.os),b3.tape.trans (Y.out.tape.trans I.out.tape),b3.output.trans (Y.out.output.trans I.out.output),ZF gs (ZF Y.out.size b3.size),fun q hq hne=>(b3.block q hq).trans ((Y.out.block q (ZL hq gs)).trans (I.out.block q hq hne))⟩;have hnb:wr.heap.size≠pB:=by omega
    have f3:=U.fz 3;have ZN:=U.cl 3 _ rfl;have O:=U.set 3 (.slice a3 (((ns.take i).flatMap Yi)++Yi nd).length q3);have n4:(w3.setCell ⟨pB,3,none⟩ (.slice a3 (((ns.take i).flatMap Yi)++Yi nd).length q3)).cell? ⟨wr.heap.size,0,none⟩=some (.string nd.path):=by
     rw [Zs _ _ _ _ (by intro e;injection e with e1;first | exact hnb e1 | exact hnb e1.symm),cell_of n3 0]
     rfl
    have f2:=O.fz 2;have ZK:=O.cl 2 _ rfl;have Z7:=Z3 (O.set 2 (.string nd.path));have Z4:=Z3 (grownBy_set w _ pB 2 (.string nd.path) (grownBy_set w w3 pB 3 (.slice a3 (((ns.take i).flatMap Yi)++Yi nd).length q3) A));have O5:=Z3 ((o3.setAt (g:=pB) (j:=3) (u:=.slice a3 (((ns.take i).flatMap Yi)++Yi nd).length q3) (.inr (above o3 hlt))).setAt (g:=pB) (j:=2) (u:=.string nd.path) (.inr (above o3 hlt)));generalize hX:((ns.take i).flatMap Yi)++Yi nd=X at *;clear U O o3 b3 B n3 A HC HB Tq C Y SH OH I k0 k1 k2 k3 k4 k5 k6
    go_wp2_with fail
    refine ⟨⟨i+1,_,_,by go_num,by omega,Z7,?_,Z4⟩,by simp [intOf];omega⟩;show Own _ _ _ _ _ _;rw [lV.out];exact O5.out
  have hie:i=ns.length:=by omega
  subst hie;rw [Rw] at OH
  go_wp2_with fail
  exact ⟨rfl,_,by kernel_rfl,rfl,l',v',SH.out,OH.out,I.out⟩
theorem wI {P:Program} {c:Code} {Q Q':Exit→Act→World→Prop} {a:Act} {w:World} (h:JF P c Q a w) (hq:∀e a w,Q e a w→Q' e a w):JF P c Q' a w:=fun b k cs hb =>
 let ⟨e,a',w',q,r⟩:=h b k cs hb
 ⟨e,a',w',hq _ _ _ q,r⟩
theorem rX {P:Program} {x y:Code} {Q:Exit→Act→World→Prop} {a:Act} {w:World} (R:Act→World→Prop) (h2:∀a w,R a w→JF P y Q a w) (h1:JF P x (Exit.then R Q) a w):JF P (Code.seq x y) Q a w :=
 Dn (wI h1 fun e a w h=>by
  cases e with
  | normal=>exact h2 a w h
  | _=>exact h)
theorem AW {ns:List Nd} (h:∀i,i<ns.length→0<(ZC ns i).path.size):Low ns ⟨#[]⟩ 0∧Q1 ns ⟨#[]⟩ 0=false:=by
 have hc:∀p:ByteArray,0<p.size→¬Ts p ⟨#[]⟩<0∧Ts p ⟨#[]⟩≠0:=by
  intro p hp;unfold Ts;have:0<p.data.toList.length:=by rw [Gc];exact hp
  cases hl:p.data.toList with
  | nil=>rw [hl] at this;simp at this
  | cons x xs=>constructor <;> simp [Lib.compareBytes]
 refine ⟨⟨Zu _,fun i hi=>by omega,fun i _ hi=>(hc _ (h i hi)).1⟩,?_⟩;unfold Q1
 by_cases h0:0<ns.length
 · have:=(hc _ (h 0 h0)).2
   simp [this]
 simp at h0
 simp [h0]
end
section
open Go.RowKit Go.Shelf
theorem Hk (w:World):Calls Tryz.prog 29 #[.nilIface] w (YI w (.tuple #[.agg #[.slice none 0 0],.bool false])):=by
 go_enter Tryz.func29,Tryz.ntmps29
 go_wp2_with fail
 refine ZS (v:=.tuple #[.agg #[.slice none 0 0],.bool false]) (by simp [results,Tryz.results29,go_sem]) rfl ⟨rfl,?_⟩;exact ZJ.alloc ZT _
theorem AV (w:World) (p q:Value) :
    CallsD Tryz.prog 28 #[p,q] .returning w fun e u' w'=>e=.returned (.tuple #[])∧u'=.returning∧ZX w w':=by
 refine Jl Tryz.func28 rfl fun c₀ cs hu=>?_
 refine wpS_seq ?_;apply Mb
 simp [wpOpsS,go_sem,recoverD,hu,Tryz.ntmps28]
 refine (Hk w).mono ?_;rintro e w1 ⟨rfl,b1⟩
 simp [go_sem]
 have B2:ZX w (w1.alloc (.cells #[.slice none 0 0] 79)):=b1.alloc b1.size _;refine wpS_seq ?_;apply Mb
 simp [wpOpsS,go_sem]
 refine wpS_cond (t:=false) (by simp [go_sem]) ?_;refine wpS_of_wp ?_
 go_wp2_with fail
 cases c₀
 simp_all [bodyPostS,results,Tryz.results28]
end
section
open Go.RowKit Go.Conc
theorem Lz {w:World} {v:Value} {ns:List Nd} (h:Wx w v ns) (hn:ns≠[]):∀q,v.ownBlock=some q→q<w.heap.size:=by
 obtain ⟨ao,cp,rfl,h1,h2,h3⟩:=h;obtain ⟨b,off,rfl,hb,-⟩:=h3.resolve_left hn;intro q hq
 simp only [Value.ownBlock,Zo] at hq
 omega
theorem wH {k:IntKind} {w:World} {v:Value} {xs:List Int} (h:Rd k w v xs) (hn:0<xs.length):∀q,v.ownBlock=some q→q<w.heap.size:=by
 obtain ⟨ao,cp,rfl,h1,h2,h3⟩:=h;obtain ⟨b,off,rfl,hb,-⟩:=h3.resolve_left (fun e=>by rw [e] at hn;simp at hn);intro q hq
 simp only [Value.ownBlock,Zo] at hq
 omega
theorem Sv.boxed {κ:Sc} {σ:Sx} {w W:World} {b:Nat} (h:Sv κ σ w) (hb:ZX w W) (h1:w.heap.size≤b) (h2:b<W.heap.size) (hT:σ.T≠[]) (hQ:σ.Q≠[]):Sv { κ with X:=b :: κ.X } σ W:=by
 have hW:=h.below hb;obtain ⟨vd,made,ZQ,a1,a2,a3,a4,a5⟩:=h.dk;obtain ⟨vt,vq,cp,b1,b2,b3,b4,b5,b6,b7,b8⟩:=h.mm;obtain ⟨Lv,s,r,c1,c2,c3⟩:=h.ch;have hlb:κ.lb<w.heap.size:=(b7.lt κ.lb rfl).2;have hcb:κ.c<w.heap.size:=(Yh.mp c1).1;have hmb:=b1.lt;have hsb:=a1.lt;have far:∀v,Tk κ v→(∀q,v.ownBlock=some q→q<w.heap.size)→Tk { κ with X:=b :: κ.X } v:=fun v hv hl q hq =>
  ⟨(hv q hq).1,(hv q hq).2.1,(hv q hq).2.2.1,(hv q hq).2.2.2.1,by
   have:=hl q hq
   simp only [Yz,not_or]
   exact ⟨by omega,(hv q hq).2.2.2.2⟩⟩
 refine ⟨h.ne,fun x hx=>?_,⟨vd,made,ZQ,a1.below hb,a2.below hb,a3,a4,far vd a5 (fun q hq=>(ZD a2 q hq).2)⟩,⟨vt,vq,cp,b1.below hb,b2.below hb,b3.below hb,b4,far vt b5 (Lz b2 hT),far vq b6 (Lz b3 hQ),b7.below hb,b8⟩,⟨Lv,s,r,(hb.block _ hcb).trans c1,⟨c2.1,fun i hi=>⟨(c2.2 i hi).1.below hb,(c2.2 i hi).2⟩⟩,fun i hi=>far _ (c3 i hi) (wH (c2.2 i hi).1 (c2.2 i hi).2)⟩,fun p hp=>?_,fun g hg=>?_⟩
 · simp only [Yz] at hx
   rcases hx with rfl | hx
   · exact ⟨h2,by show _≠κ.sB;omega,by show _≠κ.mB;omega,by show _≠κ.c;omega,by show _≠κ.lb;omega⟩
   exact ⟨ZL (h.fx x hx).1 hb.size,(h.fx x hx).2⟩
 · obtain ⟨p1,p2,p3,p4,p5,p6⟩:=h.sn p hp
   refine ⟨p1.same (hb.block _ p1.lt),p2,p3,p4,p5,?_⟩;have:=p1.lt
   simp only [Yz,not_or]
   exact ⟨by omega,p6⟩
 obtain ⟨q1,q2,q3,q4,q5,q6⟩:=h.pw g hg;have hl:=(Yh.mp q1).1;refine ⟨(hb.block g hl).trans q1,q2,q3,q4,q5,?_⟩
 simp only [Yz,not_or]
 exact ⟨by omega,q6⟩
theorem Sv.rW {κ:Sc} {σ:Sx} {w:World} {b j:Nat} {x:Value} (h:Sv { κ with X:=b :: κ.X } σ w):Sv κ σ (w.setCell ⟨b,j,none⟩ x):=by
 obtain ⟨vd,made,ZQ,a1,a2,a3,a4,a5⟩:=h.dk;obtain ⟨vt,vq,cp,b1,b2,b3,b4,b5,b6,b7,b8⟩:=h.mm;obtain ⟨Lv,s,r,c1,c2,c3⟩:=h.ch;obtain ⟨f0,f1,f2,f3,f4⟩:=h.fx b (by simp);have hs:w.heap.size≤(w.setCell ⟨b,j,none⟩ x).heap.size:=by simp
 have hbl:∀q,q≠b→(w.setCell ⟨b,j,none⟩ x).heap[q]?=w.heap[q]?:=fun q hn=>Below.heap_setCell w ⟨b,j,none⟩ x q hn
 have nb:∀v,Tk { κ with X:=b :: κ.X } v→∀q,v.ownBlock=some q→q≠b:=fun v hv q hq e=>(hv q hq).2.2.2.2 (by rw [e];simp)
 have far:∀v,Tk { κ with X:=b :: κ.X } v→Tk κ v:=fun v hv q hq=>⟨(hv q hq).1,(hv q hq).2.1,(hv q hq).2.2.1,(hv q hq).2.2.2.1,fun e=>(hv q hq).2.2.2.2 (by simp [e])⟩
 refine ⟨h.ne,fun y hy=>?_,⟨vd,made,ZQ,YN a1 hs (hbl _ (Ne.symm f1)),a2.setAt (.inr (fun e=>nb vd a5 b e rfl)),a3,a4,far vd a5⟩,⟨vt,vq,cp,YN b1 hs (hbl _ (Ne.symm f2)),Ys b2 hs (fun q hq _=>hbl q (nb vt b5 q hq)),Ys b3 hs (fun q hq _=>hbl q (nb vq b6 q hq)),b4,far vt b5,far vq b6,b7.setAt (.inr (by simp [Value.ownBlock];exact fun e=>f4 e.symm)),b8⟩,⟨Lv,s,r,(hbl _ (Ne.symm f3)).trans c1,⟨c2.1,fun i hi=>⟨Vo (c2.2 i hi).1 hs (fun q hq _=>hbl q (nb _ (c3 i hi) q hq)),(c2.2 i hi).2⟩⟩,fun i hi=>far _ (c3 i hi)⟩,fun p hp=>?_,fun g hg=>?_⟩
 · have:=h.fx y (by simp [hy])
   exact ⟨ZL this.1 hs,this.2⟩
 · obtain ⟨p1,p2,p3,p4,p5,p6⟩:=h.sn p hp
   exact ⟨p1.same (hbl _ (fun e=>p6 (by simp [e]))),p2,p3,p4,p5,fun e=>p6 (by simp [e])⟩
 obtain ⟨q1,q2,q3,q4,q5,q6⟩:=h.pw g hg;exact ⟨(hbl g (fun e=>q6 (by simp [e]))).trans q1,q2,q3,q4,q5,fun e=>q6 (by simp [e])⟩
theorem jX {k:IntKind} {w w':World} {v:Value} {xs:List Int} (h:Rd k w v xs) (hs:w.heap.size≤w'.heap.size) (hc:∀p u,w.cell? p=some u→w'.cell? p=some u):Rd k w' v xs:=by
 obtain ⟨ao,cp,rfl,h1,h2,h3⟩:=h;refine ⟨ao,cp,rfl,h1,h2,h3.imp id ?_⟩;rintro ⟨b,off,rfl,hlt,hcl⟩;exact ⟨b,off,rfl,ZL hlt hs,fun i hi=>hc _ _ (hcl i hi)⟩
theorem wG {w w':World} {v:Value} {ns:List Nd} (h:Wx w v ns) (hs:w.heap.size≤w'.heap.size) (hc:∀p u,w.cell? p=some u→w'.cell? p=some u):Wx w' v ns:=by
 obtain ⟨ao,cp,rfl,h1,h2,h3⟩:=h;refine ⟨ao,cp,rfl,h1,h2,h3.imp id ?_⟩;rintro ⟨b,off,rfl,hlt,hcl⟩;refine ⟨b,off,rfl,ZL hlt hs,fun i hi=>?_⟩;have h9:=hcl i hi;exact ⟨hc _ _ h9.c0,hc _ _ h9.c1,hc _ _ h9.c2,hc _ _ h9.c3,hc _ _ h9.c4,hc _ _ h9.c5,hc _ _ h9.c6⟩
theorem Xy.Yj {W W':World} {v:Value} {xs:List Int} {row:Option Nat} (h:Xy W v xs) (hg:W.grownBy W' row) (hr:∀r,row=some r→∃o:Obj,W.heap[r]?=some o∧o.isCells=false):Xy W' v xs:=by
 obtain ⟨g,lo,cp,pre,h1,h2,h3⟩:=h;exact ⟨g,lo,cp,pre,h1,h2,Yn h3 hg hr⟩
theorem ny {W W':World} {row:Option Nat} {c:Nat} {p:Nat × Nat × Nat} {em:Bool} (h:uB W p em) (hs:W.heap.size≤W'.heap.size) (hg:W.grownBy W' row) (hr:∀r,row=some r→r≠c∧∃o:Obj,W.heap[r]?=some o∧o.isCells=false):uB W' p em:=by
 refine ⟨ZL h.1 hs,fun h9=>?_⟩;have e:=h.2 h9;refine (hg.block _ h.1 (fun e9=>?_)).trans e;obtain ⟨-,o,ho,hc⟩:=hr _ e9.symm;rw [e] at ho
 injection ho with ho
 rw [←ho] at hc
 cases hc
theorem Sv.Yj {κ:Sc} {σ:Sx} {W W':World} {row:Option Nat} (h:Sv κ σ W) (hg:W.grownBy W' row) (hr:∀r,row=some r→r≠κ.c∧∃o:Obj,W.heap[r]?=some o∧o.isCells=false):Sv κ σ W':=by
 have hs:=hg.size;have hb:∀(p:Addr) (u:Value),W.cell? p=some u→W'.heap[p.block]?=W.heap[p.block]?:=by
  intro p u hp;refine hg.block _ (YJ W _ hp) (fun e=>?_);obtain ⟨-,o,ho,hc⟩:=hr _ e.symm;unfold World.cell? at hp;rw [ho] at hp
  cases o <;> first | (simp at hp;done) | (cases hc)
 have hc:∀p u,W.cell? p=some u→W'.cell? p=some u:=fun p u hp=>(Zj (w:=W) (a:=p) (hb p u hp)).trans hp
 obtain ⟨vd,made,ZQ,a1,a2,a3,a4,a5⟩:=h.dk;obtain ⟨vt,vq,cp,b1,b2,b3,b4,b5,b6,b7,b8⟩:=h.mm;obtain ⟨Lv,s,r,c1,c2,c3⟩:=h.ch;refine ⟨h.ne,fun x hx=>⟨ZL (h.fx x hx).1 hs,(h.fx x hx).2⟩,⟨vd,made,ZQ,YN a1 hs (hb ⟨κ.sB,0,none⟩ _ (a1.cl 0 _ rfl)),Yn a2 hg (fun r e=>(hr r e).2),a3,a4,a5⟩,⟨vt,vq,cp,YN b1 hs (hb ⟨κ.mB,0,none⟩ _ (b1.cl 0 _ rfl)),wG b2 hs hc,wG b3 hs hc,b4,b5,b6,Xy.Yj b7 hg (fun r e=>(hr r e).2),b8⟩,⟨Lv,s,r,(hg.block _ (Yh.mp c1).1 (fun e=>(hr _ e.symm).1 rfl)).trans c1,⟨c2.1,fun i hi=>⟨jX (c2.2 i hi).1 hs hc,(c2.2 i hi).2⟩⟩,c3⟩,fun p hp=>⟨ny (h.sn p hp).1 (by omega) hg hr,(h.sn p hp).2⟩,h.pw.keep (fun g hl _ _ _ _ _ e=>hg.block g hl (fun e9=>by obtain ⟨-,o,ho,hc⟩:=hr g e9.symm;rw [e] at ho;injection ho with ho;rw [←ho] at hc;cases hc))⟩
theorem Sv.other {κ:Sc} {σ:Sx} {w w':World} {b:Nat} (h:Sv κ σ w) (hx:b ∈ κ.X) (hg:w.grownBy w' (some b)):Sv κ σ w':=by
 obtain ⟨vd,made,ZQ,a1,a2,a3,a4,a5⟩:=h.dk;obtain ⟨vt,vq,cp,b1,b2,b3,b4,b5,b6,b7,b8⟩:=h.mm;obtain ⟨Lv,s,r,c1,c2,c3⟩:=h.ch;obtain ⟨f0,f1,f2,f3,f4⟩:=h.fx b hx;have hs:=hg.size;have hbl:∀q,q<w.heap.size→q≠b→w'.heap[q]?=w.heap[q]?:=fun q hq hn=>hg.block q hq (fun e=>hn (by injection e))
 have nb:∀v,Tk κ v→∀q,v.ownBlock=some q→q≠b:=fun v hv q hq e=>(hv q hq).2.2.2.2 (by rw [e];exact hx)
 have hcb:κ.c<w.heap.size:=(Yh.mp c1).1;refine ⟨h.ne,fun y hy=>⟨ZL (h.fx y hy).1 hs,(h.fx y hy).2⟩,⟨vd,made,ZQ,YN a1 hs (hbl _ a1.lt (Ne.symm f1)),Yu a2 hg (.inr (fun e=>nb vd a5 b e rfl)),a3,a4,a5⟩,⟨vt,vq,cp,YN b1 hs (hbl _ b1.lt (Ne.symm f2)),Ys b2 hs (fun q hq hl=>hbl q hl (nb vt b5 q hq)),Ys b3 hs (fun q hq hl=>hbl q hl (nb vq b6 q hq)),b4,b5,b6,Xy.kept b7 hg (.inr (by simp [Value.ownBlock];exact fun e=>f4 e.symm)),b8⟩,⟨Lv,s,r,(hbl _ hcb (Ne.symm f3)).trans c1,⟨c2.1,fun i hi=>⟨Vo (c2.2 i hi).1 hs (fun q hq hl=>hbl q hl (nb _ (c3 i hi) q hq)),(c2.2 i hi).2⟩⟩,c3⟩,fun p hp=>?_,fun g nZ=>?_⟩
 · obtain ⟨p1,p2,p3,p4,p5,p6⟩:=h.sn p hp
   exact ⟨p1.same (hbl _ p1.lt (fun e=>p6 (by rw [e];exact hx))),p2,p3,p4,p5,p6⟩
 obtain ⟨q1,q2,q3,q4,q5,q6⟩:=h.pw g nZ;exact ⟨(hbl g (Yh.mp q1).1 (fun e=>q6 (by rw [e];exact hx))).trans q1,q2,q3,q4,q5,q6⟩
theorem Sj (w:World) (base:Nat) (ty:TypeId) (v:Value) (xs:List Int) (s:ByteArray) (h:Own .u8 5 w base v xs) (hs:0<s.size) (hl:xs.length+s.size≤1048576) (hb:base≤w.heap.size) :
    ∃v' w',(Builtin.append_ #[22,9] ty #[v,.string s]).run Tryz.prog w=.ok v' w'∧Own .u8 5 w' base v' (xs++XS s) ∧
     ((v'.ownBlock=v.ownBlock∧w.grownBy w' v.ownBlock)∨(ZX w w'∧∀g,v'.ownBlock=some g→w.heap.size≤g)):=by
 obtain ⟨i0,hi,hz0,hz1,hz2⟩:=Yq Tryz.Vh;have h63:xs.length+s.size≤maxLen:=by unfold maxLen;omega
 have hxl:(xs.map (Value.int .u8)).length=xs.length:=XJ ..;have hlen:(xs.map (Value.int .u8)++Lib.strCells s).length=(xs.length+s.size)*1:=by rw [ZA,hxl,pR,WV]
 have eO:∀(W:World) (u:Value),W.ownsRow base 5 1 u (xs.length+s.size) (xs.map (Value.int .u8)++Lib.strCells s)→Own .u8 5 W base u (xs++XS s):=fun W u hu=>by
  show World.ownsRow _ _ _ _ _ _ _;rw [ZA,YP,Wn,←Un];exact hu
 have grown:∀(old:Nat),old<xs.length+s.size →
     (w.drew.alloc (.cells ((xs.map (Value.int .u8)).toArray++(Lib.strCells s).toArray++Builtin.zeroCells (Value.int .u8 0).cells (grownCap w (xs.length+s.size) old 5 - (xs.length+s.size))) 5)).ownsRow base 5 1
      (.slice (some ⟨w.heap.size,0,none⟩) (xs.length+s.size) (grownCap w (xs.length+s.size) old 5)) (xs.length+s.size) (xs.map (Value.int .u8)++Lib.strCells s) ∧
     ZX w (w.drew.alloc (.cells ((xs.map (Value.int .u8)).toArray++(Lib.strCells s).toArray++Builtin.zeroCells (Value.int .u8 0).cells (grownCap w (xs.length+s.size) old 5 - (xs.length+s.size))) 5)):=by
  intro old ho;have hge:=Jk w (xs.length+s.size) old 5;have hcm:grownCap w (xs.length+s.size) old 5≤maxLen:=Jj w (xs.length+s.size) old 5 h63;refine ⟨⟨hlen,.inr ⟨w.heap.size,_,_,rfl,hb,Y9 w.drew _,hge,hcm,?_,?_⟩⟩,⟨rfl,rfl,rfl,by simp,fun k hk=>Below.heap_alloc w.drew _ k hk⟩⟩
  · have hz1':(Value.int IntKind.u8 0).cells.size=1:=rfl
    simp only [pY,Zm,DR,hz1',hxl,pR]
    omega
  simp only [uq,YM]
  rw [←YM,←hlen];exact Rx
 have h':=h
 rcases h.2 with ⟨rfl,h0⟩ | ⟨g,cap,cur,rfl,hbg,hg,hnc,hcm,hcs,htake⟩
 · have hx:xs=[]:=TN h0
   subst hx;have hr:=run_append_nil_string (P:=Tryz.prog) w 22 9 ty 5 i0 (.int .u8 0) Tryz.underlying22 Tryz.underlying9 hi hz0 s (by omega) (by simp at hl;omega) (by rw [hz2];simp at hl;omega);have hgr:=grown 0 (by simp;omega);have e1:(s.data.map fun b=>Value.int .u8 b.toNat)=(Lib.strCells s).toArray:=by
    apply pZ
    simp [Lib.strCells]
   rw [e1] at hr
   simp only [Wo,YK,MV,Yw,Array.empty_append] at hgr
   refine ⟨_,_,hr,eO _ _ ?_,.inr ⟨hgr.2,fun g hg=>?_⟩⟩
   · simpa using hgr.1
   simp only [Value.ownBlock,Zo] at hg;omega
 by_cases hroom:xs.length+s.size≤cap
 · have hcs':cur.size=cap:=by simpa using hcs
   have hr:=Lib.run_append_room_string (P:=Tryz.prog) w 22 9 ty 5 i0 Tryz.underlying22 Tryz.underlying9 hi hz1 g xs.length cap cur hg s hroom (by omega);refine ⟨_,_,hr,eO _ _ ⟨hlen,.inr ⟨g,cap,_,rfl,hbg,Sz w g cur _ 5 _ hg,hroom,hcm,?_,?_⟩⟩,.inl ⟨rfl,⟨rfl,rfl,rfl,by simp,fun k _ hk=>Jg w g k _ (fun e=>hk (by simp [Value.ownBlock,e]))⟩⟩⟩
   · simp only [Zm,ZA,XU,Zd,Gc,pR]
     omega
   have ht':cur.toList.take xs.length=xs.map (Value.int .u8):=by simpa using htake
   rw [ht',←hlen];exact Rx
 have holds:∀j u,(xs.map (Value.int .u8))[j]?=some u→w.cell? ((⟨g,0,none⟩:Addr).add j)=some u:=Ud (g:=g) h' rfl;have hr:=lm (P:=Tryz.prog) w 22 9 ty 5 i0 (.int .u8 0) Tryz.underlying22 Tryz.underlying9 hi hz0 ⟨g,0,none⟩ xs.length cap (xs.map (Value.int .u8)) (by rw [hz1,hxl,WV]) holds s (by omega) (by omega) (by rw [hz2];exact Ji (by omega) (by omega));have hgr:=grown cap (by omega);refine ⟨_,_,hr,eO _ _ hgr.1,.inr ⟨hgr.2,fun g hg=>?_⟩⟩
 simp only [Value.ownBlock,Zo] at hg;omega
theorem SI {F:Fence} {n:Nat} {w:World} {ops:Array Oper} {rest:List Oper} {o:Oper} {a:Act} {Q:Exit→Act→World→Prop}
    (hg:o.guard=none) (sl x:Operand) (hop:o.op=Op.call { callee:=Callee.builtin Builtin.append,args:=#[sl,x],argTypes:=#[22,9] })
    (base:Nat) (v:Value) (xs:List Int) (s:ByteArray) (hs:a.eval sl=v) (hx:a.eval x=.string s) (h:Own .u8 5 w base v xs) (hs0:0<s.size) (hl:xs.length+s.size≤1048576) (hb:base≤w.heap.size)
    (hK:∀v' w',Own .u8 5 w' base v' (xs++XS s)→((v'.ownBlock=v.ownBlock∧w.grownBy w' v.ownBlock)∨(ZX w w'∧∀g,v'.ownBlock=some g→w.heap.size≤g))→wpListIn F n Tryz.prog ops Q rest (a.put o.dst v') w') :
    wpListIn F n Tryz.prog ops Q (o :: rest) a w:=by
 refine zl hg fun K hK'=>?_
 obtain ⟨v',w',hrun,r1,r2⟩:=Sj w base o.type v xs s h hs0 hl hb;unfold Oper.wpIn;refine ⟨?_,?_⟩
 · simp [Oper.about,hop,resolve,Target.leads,Rv]
 rw [Oper.semAt_plain F _ _ (by rw [hop];intro c hc';cases hc')]
 simp [execOp,hop,resolve,invoke,builtin,hs,hx,hrun,Result.andThen]
 exact hK' _ _ (hK v' w' r1 r2)
theorem Pg {F:Fence} {nF:Nat} {op:Oper} {a:Act} {w:World} {K:Act→World→Prop} {Q:Exit→Act→World→Prop} (hro:F.round=none) (sl x:Operand) (hop:op.op=Op.call { callee:=Callee.builtin Builtin.append,args:=#[sl,x],argTypes:=#[22,9] })
    (base:Nat) (v:Value) (xs:List Int) (s:ByteArray) (hs:a.eval sl=v) (hx:a.eval x=.string s) (h:Own .u8 5 w base v xs) (hs0:0<s.size) (hl:xs.length+s.size≤1048576) (hb:base≤w.heap.size)
    (hK:∀v' w',Own .u8 5 w' base v' (xs++XS s)→((v'.ownBlock=v.ownBlock∧w.grownBy w' v.ownBlock)∨(ZX w w'∧∀g,v'.ownBlock=some g→w.heap.size≤g))→K (a.put op.dst v') w') :
    op.wpIn F nF Tryz.prog a w K Q:=by
 obtain ⟨v',w',hrun,r1,r2⟩:=Sj w base op.type v xs s h hs0 hl hb;unfold Oper.wpIn;refine ⟨?_,?_⟩
 · simp [Oper.about,hop,resolve,Target.leads,Rv]
 rw [hro,Oper.semAt_none]
 simp [execOp,hop,resolve,invoke,builtin,hs,hx,hrun,Result.andThen]
 exact hK v' w' r1 r2
theorem VM (κ:Sc) (σ:Sx) (p:Sx→Prop) (w:World) (h:Sv κ σ w) (hT:σ.T≠[]) (hQ:σ.Q≠[]) (kd:Int) (k0:kd≠0) (k8:kd≠8) (k10:kd≠10) (k11:kd≠11) (vo vn:Value) (mu:Bool) (pa s:ByteArray)
    (hU:∀W,Sv { κ with X:=(w.heap.size+2) :: κ.X } σ W→ZX w W→Calls Tryz.prog 34 #[.pointer (some ⟨κ.sB,0,none⟩),.agg #[.int .i64 kd,vo,.bool mu,.string pa,vn]] W fun e w'=>e=.returned (.string s)∧Gw { κ with X:=(w.heap.size+2) :: κ.X } W w'∧∃ σ',p σ'∧Sv { κ with X:=(w.heap.size+2) :: κ.X } σ' w') :
    Calls Tryz.prog 14 #[.pointer (some ⟨κ.sB,0,none⟩),.agg #[.int .i64 kd,vo,.bool mu,.string pa,vn]] w fun e w'=>e=.returned (.string s)∧Gw κ w w'∧∃ σ',p σ'∧Sv κ σ' w':=by
 have HU:=Z3 hU;have HV:=Z3 h;obtain ⟨vd,made,ZQ,a1,-⟩:=h.dk;have c0:w.cell? ⟨κ.sB,0,none⟩=some (.pointer (some ⟨κ.mB,0,none⟩)):=a1.cl 0 _ rfl;have hsb:=a1.lt;have hb3:=(((Below.refl w.heap.size w).alloc ZT (.cells #[.pointer (some ⟨κ.sB,0,none⟩)] 34)).alloc (by simp) (.cells #[.int .i64 kd,vo,.bool mu,.string pa,vn] 43)).alloc (by simp;omega) (.cells #[.string ⟨#[]⟩] 9);have c3:=(hb3.cell (p:=⟨κ.sB,0,none⟩) hsb).trans c0;have V3:=Z3 (HV.out.boxed hb3 (show w.heap.size≤w.heap.size+2 by omega) (by simp) hT hQ);have HC:=Z3 (HU.out _ V3.out hb3);have ZY:=hb3.size;clear hU h a1 c0;refine calls_of_wp_defers Tryz.func14 rfl ?_
 simp only [Tryz.ntmps14,Zm,Yr,Wo,Nat.reduceAdd,Nat.reduceSub,JO,JN,Wj,Ur,Yw,Vq]
 go_wp2_with fail
 refine HC.out.mono ?_;rintro e w4 ⟨rfl,G4,σ',hp',V4⟩;obtain ⟨f0,f1,f2,f3,f4⟩:=V3.out.fx (w.heap.size+2) (by simp);have n4:w4.heap[w.heap.size+1+1]?=some (.cells #[.string ⟨#[]⟩] 9):=by
  have n3:(((w.alloc (.cells #[.pointer (some ⟨κ.sB,0,none⟩)] 34)).alloc (.cells #[.int .i64 kd,vo,.bool mu,.string pa,vn] 43)).alloc (.cells #[.string ⟨#[]⟩] 9)).heap[w.heap.size+2]?=some (.cells #[.string ⟨#[]⟩] 9):=by
   have:=Y9 ((w.alloc (.cells #[.pointer (some ⟨κ.sB,0,none⟩)] 34)).alloc (.cells #[.int .i64 kd,vo,.bool mu,.string pa,vn] 43)) (.cells #[.string ⟨#[]⟩] 9)
   simpa using this
  refine (G4.block (w.heap.size+2) f0 f1 f2 f3 f4 (by rw [cell_of n3 3];simp) (by rw [cell_of n3 1];simp)).trans ?_;have:=Y9 ((w.alloc (.cells #[.pointer (some ⟨κ.sB,0,none⟩)] 34)).alloc (.cells #[.int .i64 kd,vo,.bool mu,.string pa,vn] 43)) (.cells #[.string ⟨#[]⟩] 9)
  simpa using this
 have n5:w4.cell? ⟨w.heap.size+1+1,0,none⟩=some (.string ⟨#[]⟩):=cell_of n4 0;have n6:w4.frozen? ⟨w.heap.size+1+1,0,none⟩=false:=by simp [World.frozen?,n4]
 have V5:Hid (Sv κ σ' (w4.setCell ⟨w.heap.size+1+1,0,none⟩ (.string s))):=V4.rW;have G5:Hid (Gw κ w (w4.setCell ⟨w.heap.size+1+1,0,none⟩ (.string s))):=by
  have g:Gw κ w w4:=(Gs.ZV hb3).gw.trans ⟨G4.os,G4.tape,G4.output,G4.size,G4.block⟩;exact ⟨g.os,g.tape,g.output,by simpa using g.size,fun q hq a b c d e9 e8=>(Below.heap_setCell w4 ⟨w.heap.size+1+1,0,none⟩ _ q (by show q≠w.heap.size+1+1;exact fun e=>absurd hq (by rw [e];omega))).trans (g.block q hq a b c d e9 e8)⟩
 have n7:Hid ((w4.setCell ⟨w.heap.size+1+1,0,none⟩ (.string s)).cell? ⟨w.heap.size+1+1,0,none⟩=some (.string s)):=Xo _ _ _ n5;have n8:Hid (w.heap.size+1+1<(w4.setCell ⟨w.heap.size+1+1,0,none⟩ (.string s)).heap.size):=by
  have:=(Yh.mp n4).1;show _<_
  simpa using this
 clear G4 V4 V3 HC c3 hb3 HU HV n4
 go_wp2_with fail
 refine Vv (f:=28) (args:=#[.pointer (some ⟨w.heap.size,0,none⟩),.pointer (some ⟨w.heap.size+1+1,0,none⟩)]) (by simp) (by simp [go_sem]) ?_;refine (AV _ _ _).mono ?_;rintro e u' w6 ⟨rfl,rfl,b6⟩;have n9:=(b6.cell (p:=⟨w.heap.size+1+1,0,none⟩) n8.out).trans n7.out;have FIN:=Z3 (And.intro (G5.out.trans (Gs.ZV b6).gw) (show ∃ σ',p σ'∧Sv κ σ' w6 from ⟨σ',hp',V5.out.below b6⟩));clear b6 n7 n8 G5 V5
 simp [Leaves,settle,results,Tryz.results14,go_sem,n9]
 exact FIN.out
end
section
open Go.RowKit Go.Shelf
section
variable (w:World) (p:Value) (vo vn:Value) (mu:Bool) (pa s:ByteArray) (R:World→Prop)
theorem Hj (hU:∀W,ZX w W→Calls Tryz.prog 72 #[p] W fun e w'=>e=.returned (.string s)∧R w') :
    Calls Tryz.prog 34 #[p,.agg #[.int .i64 2,vo,.bool mu,.string pa,vn]] w fun e w'=>e=.returned (.string s)∧R w':=by
 have HU:=Z3 (hU _ ((Below.refl w.heap.size w).alloc ZT (.cells #[.int .i64 2,vo,.bool mu,.string pa,vn] 43)));clear hU
 go_enter Tryz.func34,Tryz.ntmps34
 go_wp2_with fail
 refine HU.out.mono ?_;rintro e w4 ⟨rfl,r4⟩;have F:=Z3 r4;clear r4;go_wp2;go_ret;exact ⟨rfl,F.out⟩
theorem rV (hU:∀W,ZX w W→Calls Tryz.prog 76 #[p] W fun e w'=>e=.returned (.string s)∧R w') :
    Calls Tryz.prog 34 #[p,.agg #[.int .i64 6,vo,.bool mu,.string pa,vn]] w fun e w'=>e=.returned (.string s)∧R w':=by
 have HU:=Z3 (hU _ ((Below.refl w.heap.size w).alloc ZT (.cells #[.int .i64 6,vo,.bool mu,.string pa,vn] 43)));clear hU
 go_enter Tryz.func34,Tryz.ntmps34
 go_wp2_with fail
 refine HU.out.mono ?_;rintro e w4 ⟨rfl,r4⟩;have F:=Z3 r4;clear r4;go_wp2;go_ret;exact ⟨rfl,F.out⟩
theorem EQ (hU:∀W,ZX w W→Calls Tryz.prog 78 #[p,.agg #[.int .i64 1,vo,.bool mu,.string pa,vn]] W fun e w'=>e=.returned (.string s)∧R w') :
    Calls Tryz.prog 34 #[p,.agg #[.int .i64 1,vo,.bool mu,.string pa,vn]] w fun e w'=>e=.returned (.string s)∧R w':=by
 have HU:=Z3 (hU _ ((Below.refl w.heap.size w).alloc ZT (.cells #[.int .i64 1,vo,.bool mu,.string pa,vn] 43)));clear hU
 go_enter Tryz.func34,Tryz.ntmps34
 go_wp2_with fail
 refine HU.out.mono ?_;rintro e w4 ⟨rfl,r4⟩;have F:=Z3 r4;clear r4;go_wp2;go_ret;exact ⟨rfl,F.out⟩
theorem rU (z:Int) (hv:Rd .i64 w vn [z]) (hU:∀W,ZX w W→Calls Tryz.prog 77 #[p,.int .i64 z] W fun e w'=>e=.returned (.string s)∧R w') :
    Calls Tryz.prog 34 #[p,.agg #[.int .i64 7,vo,.bool mu,.string pa,vn]] w fun e w'=>e=.returned (.string s)∧R w':=by
 obtain ⟨ao,cp,rfl,h1,h2,h3⟩:=hv;obtain ⟨b,off,rfl,hb,hc⟩:=h3.resolve_left (by simp);have hc0:w.cell? ⟨b,off,none⟩=some (.int .i64 z):=hc 0 (by simp);have hb1:=(Below.refl w.heap.size w).alloc ZT (.cells #[.int .i64 7,vo,.bool mu,.string pa,.slice (some ⟨b,off,none⟩) 1 cp] 43);have HU:=Z3 (hU _ hb1);have c1:=(hb1.cell (p:=⟨b,off,none⟩) hb).trans hc0;have h1':1≤cp:=h1;clear hU hc h1 hb1;show Calls _ _ #[p,.agg #[.int .i64 7,vo,.bool mu,.string pa,.slice (some ⟨b,off,none⟩) 1 cp]] _ _
 go_enter Tryz.func34,Tryz.ntmps34
 go_wp2_with fail
 refine HU.out.mono ?_;rintro e w4 ⟨rfl,r4⟩;have F:=Z3 r4;clear r4;go_wp2;go_ret;exact ⟨rfl,F.out⟩
end
end
section
open Go.RowKit Go.Conc
theorem Hi (w : World) (s : ByteArray) (y z : Nat) (hs : s.size ≤ 1000) (hy : y < 1000000) (hz : z < 1000000) (htab : Lib.TabIs Tryz.prog w "internal/strconv.uint64pow10" .u64 Lib.pow10Tab) :
    Calls Tryz.prog 71 #[.string s,.slice (some ⟨w.heap.size,0,none⟩) 2 2] (w.alloc (.cells #[.int .i64 (y:Int),.int .i64 (z:Int)] 2)) (YI w (.string (strOfNums (Yx s [y,z])))):=by
 have hb:=(Below.refl w.heap.size w).alloc ZT (.cells #[.int .i64 (y:Int),.int .i64 (z:Int)] 2);refine (Hl _ s _ [y,z] ⟨_,2,rfl,ZT,by decide,.inr ⟨w.heap.size,0,rfl,by simp,fun i hi=>?_⟩⟩ hs (by simp) (by simpa using ⟨hy,hz⟩) (Vi htab hb)).mono ?_
 · have:i=0∨i=1:=by simp at hi;omega
   rcases this with rfl | rfl
   all_goals
    rw [Xn _ w.heap.size _ _ _ _ (Y9 w _)]
    rfl
 rintro e w' ⟨rfl,b⟩;exact ⟨rfl,YV hb b⟩
theorem Sv.taken {κ:Sc} {σ:Sx} {w w1:World} {s r:Nat} (h:Sv κ σ w) (hg:w.grownBy w1 (some κ.c)) (hc:w1.heap[κ.c]?=some (.chan κ.cap #[] false s r false)):Sv κ { σ with fs:=[] } w1∧Gs κ w w1:=by
 have G:=Gs.LH (κ:=κ) hg (.inr (.inr (.inl rfl)));have hne:=h.ne;obtain ⟨vd,made,ZQ,a1,-⟩:=h.dk;refine ⟨h.re G rfl (hg.block _ a1.lt (by simp;exact fun e=>hne.2.1 e)) rfl (fun vt vq cp b1 b2 b3 b4 b5 b6 b7 b8=>⟨vt,vq,cp,YN b1 hg.size (hg.block _ b1.lt (by simp;exact fun e=>hne.2.2.2.1 e)),b2,b3,b4,b5,b6,Xy.kept b7 hg (.inr (by simp [Value.ownBlock];exact fun e=>hne.2.2.2.2.2 e.symm)),b8⟩) (fun Lv s' r' _ _ _=>⟨[],s,r,hc,⟨rfl,fun i hi=>by simp at hi⟩,fun i hi=>by simp at hi⟩),G⟩
theorem EP (κ:Sc) (σ:Sx) (w:World) (h:Sv κ σ w) (hf:σ.fs=[]) (hz:σ.zf<1000000) (htab:iE κ w) :
    Calls Tryz.prog 72 #[.pointer (some ⟨κ.sB,0,none⟩)] w fun e w'=>e=.returned (.string (strOfNums (Yx ⟨#[102,108,117,115,104,101,100]⟩ [0,σ.zf])))∧Gs κ w w'∧Sv κ σ w':=by
 obtain ⟨vt,vq,cp,b1,-⟩:=h.mm;obtain ⟨vd,made,ZQ,a1,-⟩:=h.dk;obtain ⟨Lv,s,r,c1,c2,c3⟩:=h.ch;have HQ:=Z3 (qB w κ.sB κ.mB κ.c κ.cap s r false Lv σ.fs (a1.cl 0 _ rfl) (b1.cl 4 _ rfl) c1 c2 (by rw [hf];simp) (by rw [hf];simp));have HV:=Z3 h;clear a1 b1 c1 c2 c3 h
 go_enter Tryz.func72,Tryz.ntmps72
 go_wp2_with fail
 refine HQ.out.mono ?_;rintro e w1 ⟨v3,rfl,-,g1,r',c1⟩;obtain ⟨V1,G1⟩:=HV.out.taken g1 c1;have N:Sv κ σ w1:=by
  have e:{ σ with fs:=[] }=σ:=by cases σ;simp at hf;subst hf;rfl
  rw [e] at V1;exact V1
 obtain ⟨fP,fO,Ag,b1,-⟩:=N.mm;obtain ⟨fN,wK,jY,a1,-⟩:=N.dk;have c0:=a1.cl 0 _ rfl;have m1:=b1.cl 1 _ rfl;have T1:=Z3 (htab _ G1.gw);have F1:=Z3 (And.intro G1 N);clear g1 c1 V1 G1 N a1 b1 HQ HV;rw [hf]
 go_wp2_with fail
 refine (Hi w1 ⟨#[102,108,117,115,104,101,100]⟩ 0 σ.zf (by decide) (by decide) hz T1.out).mono ?_;rintro e w4 ⟨rfl,b4⟩;have FIN:=Z3 (And.intro (F1.out.1.trans (Gs.ZV b4)) (F1.out.2.below b4));clear b4 F1 T1;go_wp2;go_ret;exact ⟨rfl,FIN.out⟩
end
end Go.Proofs.YtpmjnbmkippaiaaGreatDoor


