import Derived.Test.YtpmjnbmkippaiaaGreatDoorJ03
import Derived.LaidEql
import Derived.Stop.Asserts
import Derived.RowKitTokens
set_option maxRecDepth 100000
set_option maxHeartbeats 16000000
set_option linter.all false
namespace Go.Proofs.YtpmjnbmkippaiaaGreatDoor
open Go.RowKit Go.Extern.Stop Go.Stop Go.Extern
theorem sy (v:Value) (f:Value→Sem Value) (g:Array Value→Sem Value):ReflectliteValue.method.match_2 (fun _=>Sem Value) #[v] f g=f v:=rfl
theorem kU (v x:Value) (f:Value→Value→Sem Value) (g:Array Value→Sem Value):ReflectliteValue.set.match_3 (fun _=>Sem Value) #[v,x] f g=f v x:=rfl
theorem Tryz.lW (h : Value) (w : World) : (Go.method 324 345 (.agg #[h]) "Kind").run Tryz.prog w = .ok (292, h) w := by kernel_rfl
theorem Tryz.lV (h : Value) (w : World) : (Go.method 324 345 (.agg #[h]) "Elem").run Tryz.prog w = .ok (308, .agg #[h]) w := by kernel_rfl
theorem Tryz.lU (h : Value) (w : World) : (Go.method 324 345 (.agg #[h]) "Implements").run Tryz.prog w = .ok (309, .agg #[h]) w := by kernel_rfl
theorem Tryz.lT (h : Value) (w : World) : (Go.method 324 345 (.agg #[h]) "AssignableTo").run Tryz.prog w = .ok (306, .agg #[h]) w := by kernel_rfl
theorem Tryz.eX (v : Value) (w : World) : (Go.method 353 281 v "Unwrap").run Tryz.prog w = .ok (298, v) w := by kernel_rfl
theorem Tryz.qo (w : World) : (ReflectliteType.relation "AssignableTo" ReflectliteType.assignableTo #[.agg #[.pointer (some ⟨11, 240, none⟩)], .iface 345 (.agg #[.pointer (some ⟨11, 240, none⟩)])]).run Tryz.prog w = .ok (.bool true) w := by kernel_rfl
theorem Tryz.kT (w : World) : (ReflectliteType.relation "AssignableTo" ReflectliteType.assignableTo #[.agg #[.pointer (some ⟨11, 240, none⟩)], .iface 345 (.agg #[.pointer (some ⟨11, 281, none⟩)])]).run Tryz.prog w = .ok (.bool false) w := by kernel_rfl
theorem Tryz.kS (w : World) : (ReflectliteType.relation "AssignableTo" ReflectliteType.assignableTo #[.agg #[.pointer (some ⟨11, 281, none⟩)], .iface 345 (.agg #[.pointer (some ⟨11, 240, none⟩)])]).run Tryz.prog w = .ok (.bool false) w := by kernel_rfl
theorem Tryz.kR (w : World) : (ReflectliteType.relation "AssignableTo" ReflectliteType.assignableTo #[.agg #[.pointer (some ⟨11, 281, none⟩)], .iface 345 (.agg #[.pointer (some ⟨11, 281, none⟩)])]).run Tryz.prog w = .ok (.bool true) w := by kernel_rfl
theorem Tryz.iC (v:Value) (x:TypeId) (w:World):(Instr.typeAssert (.iface 240 v) x 350 true).run Tryz.prog w=.ok (.tuple #[.nilIface,.bool false]) w:=run_typeAssert_lacksB Tryz.underlying350 (by kernel_rfl) (by kernel_rfl) v x w
theorem Tryz.iB (v:Value) (x:TypeId) (w:World):(Instr.typeAssert (.iface 281 v) x 350 true).run Tryz.prog w=.ok (.tuple #[.nilIface,.bool false]) w:=run_typeAssert_lacksB Tryz.underlying350 (by kernel_rfl) (by kernel_rfl) v x w
theorem Tryz.iA (v:Value) (x:TypeId) (w:World):(Instr.typeAssert (.iface 240 v) x 353 true).run Tryz.prog w=.ok (.tuple #[.nilIface,.bool false]) w:=run_typeAssert_lacksB Tryz.underlying353 (by kernel_rfl) (by kernel_rfl) v x w
theorem Tryz.iz (v:Value) (x:TypeId) (w:World):(Instr.typeAssert (.iface 240 v) x 355 true).run Tryz.prog w=.ok (.tuple #[.nilIface,.bool false]) w:=run_typeAssert_lacksB Tryz.underlying355 (by kernel_rfl) (by kernel_rfl) v x w
theorem Tryz.iy (v:Value) (x:TypeId) (w:World):(Instr.typeAssert (.iface 281 v) x 353 true).run Tryz.prog w=.ok (.tuple #[.iface 281 v,.bool true]) w:=run_typeAssert_hasB Tryz.underlying353 (by kernel_rfl) v x w
theorem Tryz.ix (t:Addr) (w:World):(ReflectliteValue.unpack (.iface 283 (.pointer (some t)))).run Tryz.prog w=.ok (.agg #[.pointer (some ⟨11,283,none⟩),.pointer (some ⟨w.heap.size,0,none⟩),.int .u64 150]) (w.alloc (.cells #[.pointer (some t)] 283)):=by kernel_rfl
theorem Tryz.iw (a : Addr) (w : World) : (ReflectliteValue.methodAny (ReflectliteValue.valueError "reflectlite.Value.Type" 0) (fun t _ _ _ => ReflectliteType.toType t) #[.agg #[.pointer (some ⟨11, 283, none⟩), .pointer (some a), .int .u64 150]]).run Tryz.prog w = .ok (.iface 345 (.agg #[.pointer (some ⟨11, 283, none⟩)])) w := by kernel_rfl
theorem Tryz.iv (w:World):((ReflectliteType.abiMethod fun t=>Functor.map (fun a:Nat=>Value.int IntKind.u8 (a:Int)) (Rtype.kind t)) #[.pointer (some ⟨11,283,none⟩)]).run Tryz.prog w=.ok (.int .u8 22) w:=by kernel_rfl
theorem Tryz.ir (w:World):((ReflectliteType.abiMethod fun t=>Functor.map (fun a:Nat=>Value.int IntKind.u8 (a:Int)) (Rtype.kind t)) #[.pointer (some ⟨11,240,none⟩)]).run Tryz.prog w=.ok (.int .u8 25) w:=by kernel_rfl
theorem Tryz.kQ (a:Addr) (w:World):(ReflectliteValue.parts (.agg #[.pointer (some ⟨11,283,none⟩),.pointer (some a),.int .u64 150])).run Tryz.prog w=.ok (some (283,a,150)) w:=by kernel_rfl
theorem Tryz.ip (a p : Addr) (W : World) (ha : W.cell? a = some (.pointer (some p))) : (ReflectliteValue.method (ReflectliteValue.valueError "reflectlite.Value.IsNil" 0) ReflectliteValue.isNil #[.agg #[.pointer (some ⟨11, 283, none⟩), .pointer (some a), .int .u64 150]]).run Tryz.prog W = .ok (.bool false) W := by
 delta ReflectliteValue.method
 rw [sy]
 simp only [XX,Tryz.kQ,Result.andThen]
 simp [ReflectliteValue.isNil,loadVar,isAgg,underlying,Tryz.underlying283,ha,Result.andThen]
theorem Tryz.io (w:World):(ReflectliteType.method ReflectliteType.elem #[.agg #[.pointer (some ⟨11,283,none⟩)]]).run Tryz.prog w=.ok (.iface 345 (.agg #[.pointer (some ⟨11,240,none⟩)])) w:=by kernel_rfl
theorem Tryz.ik (w : World) : (ReflectliteType.relation "Implements" ReflectliteType.implements_ #[.agg #[.pointer (some ⟨11, 240, none⟩)], .iface 345 (.agg #[.pointer (some ⟨11, 182, none⟩)])]).run Tryz.prog w = .ok (.bool true) w := by kernel_rfl
theorem Tryz.oI (x:Value) (w:World):(ReflectliteType.typeOf #[.iface 240 x]).run Tryz.prog w=.ok (.iface 345 (.agg #[.pointer (some ⟨11,240,none⟩)])) w:=by kernel_rfl
theorem Tryz.kP (c:Int) (w:World):(ReflectliteValue.unpack (.iface 240 (.agg #[.int .i64 c]))).run Tryz.prog w=.ok (.agg #[.pointer (some ⟨11,240,none⟩),.pointer (some ⟨w.heap.size,0,none⟩),.int .u64 153]) (w.alloc (.cells #[.int .i64 c] 240)):=by kernel_rfl
theorem Tryz.ij (w:World):(Rtype.elem? 283).run Tryz.prog w=.ok (some 240) w:=by kernel_rfl
theorem Tryz.ii (p:Addr) (w:World):(ReflectliteValue.mk 240 p ReflectliteValue.flagAddr).run Tryz.prog w=.ok (.agg #[.pointer (some ⟨11,240,none⟩),.pointer (some p),.int .u64 409]) w:=by kernel_rfl
theorem Tryz.kO (a p : Addr) (W : World) (ha : W.cell? a = some (.pointer (some p))) : (ReflectliteValue.method (ReflectliteValue.valueError "reflectlite.Value.Elem" 0) ReflectliteValue.elem #[.agg #[.pointer (some ⟨11, 283, none⟩), .pointer (some a), .int .u64 150]]).run Tryz.prog W = .ok (.agg #[.pointer (some ⟨11, 240, none⟩), .pointer (some p), .int .u64 409]) W := by
 delta ReflectliteValue.method
 rw [sy]
 simp only [XX,Tryz.kQ,Result.andThen]
 simp [ReflectliteValue.elem,loadVar,isAgg,underlying,Tryz.underlying283,ha,Result.andThen,Tryz.ij,Tryz.ii]
theorem Tryz.ig (a:Addr) (w:World):(ReflectliteValue.parts (.agg #[.pointer (some ⟨11,240,none⟩),.pointer (some a),.int .u64 409])).run Tryz.prog w=.ok (some (240,a,409)) w:=by kernel_rfl
theorem Tryz.ie (a:Addr) (w:World):(ReflectliteValue.parts (.agg #[.pointer (some ⟨11,240,none⟩),.pointer (some a),.int .u64 153])).run Tryz.prog w=.ok (some (240,a,153)) w:=by kernel_rfl
theorem Tryz.ib (w:World):(Rtype.directlyAssignable 240 240).run Tryz.prog w=.ok true w:=by kernel_rfl
theorem Tryz.gZ (t:Addr) (w:World):(ReflectliteValue.unpack (.iface 284 (.pointer (some t)))).run Tryz.prog w=.ok (.agg #[.pointer (some ⟨11,284,none⟩),.pointer (some ⟨w.heap.size,0,none⟩),.int .u64 150]) (w.alloc (.cells #[.pointer (some t)] 284)):=by kernel_rfl
theorem Tryz.gY (a : Addr) (w : World) : (ReflectliteValue.methodAny (ReflectliteValue.valueError "reflectlite.Value.Type" 0) (fun t _ _ _ => ReflectliteType.toType t) #[.agg #[.pointer (some ⟨11, 284, none⟩), .pointer (some a), .int .u64 150]]).run Tryz.prog w = .ok (.iface 345 (.agg #[.pointer (some ⟨11, 284, none⟩)])) w := by kernel_rfl
theorem Tryz.gX (w:World):((ReflectliteType.abiMethod fun t=>Functor.map (fun a:Nat=>Value.int IntKind.u8 (a:Int)) (Rtype.kind t)) #[.pointer (some ⟨11,284,none⟩)]).run Tryz.prog w=.ok (.int .u8 22) w:=by kernel_rfl
theorem Tryz.gW (w:World):((ReflectliteType.abiMethod fun t=>Functor.map (fun a:Nat=>Value.int IntKind.u8 (a:Int)) (Rtype.kind t)) #[.pointer (some ⟨11,281,none⟩)]).run Tryz.prog w=.ok (.int .u8 25) w:=by kernel_rfl
theorem Tryz.kN (a:Addr) (w:World):(ReflectliteValue.parts (.agg #[.pointer (some ⟨11,284,none⟩),.pointer (some a),.int .u64 150])).run Tryz.prog w=.ok (some (284,a,150)) w:=by kernel_rfl
theorem Tryz.gV (a p : Addr) (W : World) (ha : W.cell? a = some (.pointer (some p))) : (ReflectliteValue.method (ReflectliteValue.valueError "reflectlite.Value.IsNil" 0) ReflectliteValue.isNil #[.agg #[.pointer (some ⟨11, 284, none⟩), .pointer (some a), .int .u64 150]]).run Tryz.prog W = .ok (.bool false) W := by
 delta ReflectliteValue.method
 rw [sy]
 simp only [XX,Tryz.kN,Result.andThen]
 simp [ReflectliteValue.isNil,loadVar,isAgg,underlying,Tryz.underlying284,ha,Result.andThen]
theorem Tryz.gU (w:World):(ReflectliteType.method ReflectliteType.elem #[.agg #[.pointer (some ⟨11,284,none⟩)]]).run Tryz.prog w=.ok (.iface 345 (.agg #[.pointer (some ⟨11,281,none⟩)])) w:=by kernel_rfl
theorem Tryz.gT (w : World) : (ReflectliteType.relation "Implements" ReflectliteType.implements_ #[.agg #[.pointer (some ⟨11, 281, none⟩)], .iface 345 (.agg #[.pointer (some ⟨11, 182, none⟩)])]).run Tryz.prog w = .ok (.bool true) w := by kernel_rfl
theorem Tryz.kM (x:Value) (w:World):(ReflectliteType.typeOf #[.iface 281 x]).run Tryz.prog w=.ok (.iface 345 (.agg #[.pointer (some ⟨11,281,none⟩)])) w:=by kernel_rfl
theorem Tryz.gS (c:Int) (v:Value) (w:World):(ReflectliteValue.unpack (.iface 281 (.agg #[.int .i64 c,v]))).run Tryz.prog w=.ok (.agg #[.pointer (some ⟨11,281,none⟩),.pointer (some ⟨w.heap.size,0,none⟩),.int .u64 153]) (w.alloc (.cells #[.int .i64 c,v] 281)):=by kernel_rfl
theorem Tryz.gQ (w:World):(Rtype.elem? 284).run Tryz.prog w=.ok (some 281) w:=by kernel_rfl
theorem Tryz.gP (p:Addr) (w:World):(ReflectliteValue.mk 281 p ReflectliteValue.flagAddr).run Tryz.prog w=.ok (.agg #[.pointer (some ⟨11,281,none⟩),.pointer (some p),.int .u64 409]) w:=by kernel_rfl
theorem Tryz.gO (a p : Addr) (W : World) (ha : W.cell? a = some (.pointer (some p))) : (ReflectliteValue.method (ReflectliteValue.valueError "reflectlite.Value.Elem" 0) ReflectliteValue.elem #[.agg #[.pointer (some ⟨11, 284, none⟩), .pointer (some a), .int .u64 150]]).run Tryz.prog W = .ok (.agg #[.pointer (some ⟨11, 281, none⟩), .pointer (some p), .int .u64 409]) W := by
 delta ReflectliteValue.method
 rw [sy]
 simp only [XX,Tryz.kN,Result.andThen]
 simp [ReflectliteValue.elem,loadVar,isAgg,underlying,Tryz.underlying284,ha,Result.andThen,Tryz.gQ,Tryz.gP]
theorem Tryz.gN (a:Addr) (w:World):(ReflectliteValue.parts (.agg #[.pointer (some ⟨11,281,none⟩),.pointer (some a),.int .u64 409])).run Tryz.prog w=.ok (some (281,a,409)) w:=by kernel_rfl
theorem Tryz.gM (a:Addr) (w:World):(ReflectliteValue.parts (.agg #[.pointer (some ⟨11,281,none⟩),.pointer (some a),.int .u64 153])).run Tryz.prog w=.ok (some (281,a,153)) w:=by kernel_rfl
theorem Tryz.gK (w:World):(Rtype.directlyAssignable 281 281).run Tryz.prog w=.ok true w:=by kernel_rfl
theorem Tryz.kL (t b:Nat) (c:Int) (old:Value) (W:World) (hb:W.cell? ⟨b,0,none⟩=some (.int .i64 c)) (ht:W.cell? ⟨t,0,none⟩=some old) (hf:W.frozen? ⟨t,0,none⟩=false) :
    (ReflectliteValue.set #[.agg #[.pointer (some ⟨11,240,none⟩),.pointer (some ⟨t,0,none⟩),.int .u64 409],.agg #[.pointer (some ⟨11,240,none⟩),.pointer (some ⟨b,0,none⟩),.int .u64 153]]).run Tryz.prog W=.ok (.tuple #[]) (W.setCell ⟨t,0,none⟩ (.int .i64 c)):=by
 delta ReflectliteValue.set
 rw [kU]
 simp only [XX,Tryz.ig,Tryz.ie,Result.andThen]
 go_simp;rw [Z1 (show ¬409 / ReflectliteValue.flagAddr % 2=0 by decide)]
 simp [Tryz.ib,Result.andThen,ht,hf]
theorem Tryz.gJ (t b:Nat) (c d:Int) (old Y:Value) (W:World) (hb:W.cell? ⟨b,0,none⟩=some (.int .i64 c)) (hb1:W.cell? ⟨b,1,none⟩=some (.iface 240 (.agg #[.int .i64 d]))) (ht:W.cell? ⟨t,0,none⟩=some old) (hf:W.frozen? ⟨t,0,none⟩=false) (ht1:W.cell? ⟨t,1,none⟩=some Y) (hf1:W.frozen? ⟨t,1,none⟩=false) :
    (ReflectliteValue.set #[.agg #[.pointer (some ⟨11,281,none⟩),.pointer (some ⟨t,0,none⟩),.int .u64 409],.agg #[.pointer (some ⟨11,281,none⟩),.pointer (some ⟨b,0,none⟩),.int .u64 153]]).run Tryz.prog W=.ok (.tuple #[]) ((W.setCell ⟨t,0,none⟩ (.int .i64 c)).setCell ⟨t,1,none⟩ (.iface 240 (.agg #[.int .i64 d]))):=by
 have ht2:(W.setCell ⟨t,0,none⟩ (.int .i64 c)).cell? ⟨t,1,none⟩=some Y:=(ZV _ _ _ _ (by simp)).trans ht1
 delta ReflectliteValue.set
 rw [kU]
 simp only [XX,Tryz.gN,Tryz.gM,Result.andThen]
 go_simp;rw [Z1 (show ¬409 / ReflectliteValue.flagAddr % 2=0 by decide)]
 simp [Tryz.gK,Result.andThen,ht,hf,ht2,hf1]
theorem Pw (w:World) (o1 o2:Obj):Zi w ((w.alloc o1).alloc o2):=(Yy.alloc YR _).alloc (by simp) _
theorem oH (w:World) (o1 o2 o3 o4:Obj):Zi w ((((w.alloc o1).alloc o2).alloc o3).alloc o4):=(Pw w o1 o2).trans ((Pw _ o3 o4).mono (by simp;omega))
def AD:=@run_callFunc_extern Tryz.prog 225 _ (fun args=>ReflectliteValue.unpack (args.getD 0 (.tuple #[]))) Tryz.func225 (by kernel_rfl) (by kernel_rfl) (by kernel_rfl) (by kernel_rfl)
def AC := @run_callFunc_extern Tryz.prog 226 _ (ReflectliteValue.methodAny (ReflectliteValue.valueError "reflectlite.Value.Type" 0) (fun t _ _ _ => ReflectliteType.toType t)) Tryz.func226 (by kernel_rfl) (by kernel_rfl) (by kernel_rfl) (by kernel_rfl)
def AB := @run_callFunc_extern Tryz.prog 227 _ (ReflectliteValue.method (ReflectliteValue.valueError "reflectlite.Value.IsNil" 0) ReflectliteValue.isNil) Tryz.func227 (by kernel_rfl) (by kernel_rfl) (by kernel_rfl) (by kernel_rfl)
def AA:=@run_callFunc_extern Tryz.prog 292 _ (ReflectliteType.abiMethod fun t=>do pure (.int .u8 (←Rtype.kind t))) Tryz.func292 (by kernel_rfl) (by kernel_rfl) (by kernel_rfl) (by kernel_rfl)
def Az:=@run_callFunc_extern Tryz.prog 308 _ (ReflectliteType.method ReflectliteType.elem) Tryz.func308 (by kernel_rfl) (by kernel_rfl) (by kernel_rfl) (by kernel_rfl)
def Ay := @run_callFunc_extern Tryz.prog 309 _ (ReflectliteType.relation "Implements" ReflectliteType.implements_) Tryz.func309 (by kernel_rfl) (by kernel_rfl) (by kernel_rfl) (by kernel_rfl)
def Aw:=@run_callFunc_extern Tryz.prog 246 _ ReflectliteType.typeOf Tryz.func246 (by kernel_rfl) (by kernel_rfl) (by kernel_rfl) (by kernel_rfl)
def Av := @run_callFunc_extern Tryz.prog 306 _ (ReflectliteType.relation "AssignableTo" ReflectliteType.assignableTo) Tryz.func306 (by kernel_rfl) (by kernel_rfl) (by kernel_rfl) (by kernel_rfl)
def Au := @run_callFunc_extern Tryz.prog 247 _ (ReflectliteValue.method (ReflectliteValue.valueError "reflectlite.Value.Elem" 0) ReflectliteValue.elem) Tryz.func247 (by kernel_rfl) (by kernel_rfl) (by kernel_rfl) (by kernel_rfl)
def Jl:=@run_callFunc_extern Tryz.prog 248 _ ReflectliteValue.set Tryz.func248 (by kernel_rfl) (by kernel_rfl) (by kernel_rfl) (by kernel_rfl)
theorem kK (w:World) (c:Int) (t a:Nat) (tg:Value) (ha:w.cell? ⟨a,0,none⟩=some (.pointer (some ⟨t,0,none⟩))) (hal:a<w.heap.size) (ht:St w t [.int .i64 0]) :
    Calls Tryz.prog 228 #[.iface 240 (.agg #[.int .i64 c]),tg,.agg #[.pointer (some ⟨11,283,none⟩),.pointer (some ⟨a,0,none⟩),.int .u64 150],.iface 345 (.agg #[.pointer (some ⟨11,240,none⟩)])] w fun e w'=>e=.returned (.bool true)∧St w' t [.int .i64 c]∧Tw w t none w' none:=by
 have hx1:=AD;have hx2:=AC;have hx3:=AB;have hx4:=AA;have hx5:=Az;have hx6:=Ay;have hx7:=Aw;have me:=Av;have YA:=Au;have Z:=Jl;have V:=Tryz.lW;have U:=Tryz.lV;have T:=Tryz.lU;have mA:=Tryz.lT;have tO:=Tryz.oI;have X:=Tryz.qo;have vE:=Tryz.kP;have htl:=ht.lt;have B1:Hid (Zi w (w.alloc (.cells #[.pointer (some ⟨11,283,none⟩),.pointer (some ⟨a,0,none⟩),.int .u64 150] 321))):=Yy.alloc YR _;have B2:Hid (Zi w ((w.alloc (.cells #[.pointer (some ⟨11,283,none⟩),.pointer (some ⟨a,0,none⟩),.int .u64 150] 321)).alloc (.cells #[.int .i64 c] 240))):=B1.out.alloc B1.out.size _;have T2:=ZU (ht.below B2.out);have el:=Tryz.kO ⟨a,0,none⟩ ⟨t,0,none⟩ (w.alloc (.cells #[.pointer (some ⟨11,283,none⟩),.pointer (some ⟨a,0,none⟩),.int .u64 150] 321)) ((B1.out.cell (p:=⟨a,0,none⟩) hal).trans ha);have se:=Tryz.kL t (w.heap.size+1) c (.int .i64 0) ((w.alloc (.cells #[.pointer (some ⟨11,283,none⟩),.pointer (some ⟨a,0,none⟩),.int .u64 150] 321)).alloc (.cells #[.int .i64 c] 240)) (by rw [VJ _ _ _ _ (by simp)];rfl) (T2.out.cl 0 _ rfl) (T2.out.fz 0)
 go_enter Tryz.func228,Tryz.ntmps228
 go_wp2;refine TM 1 ?_;rw [Tp];go_wp2;exact ZW (v:=.bool true) (by simp [results,Tryz.results228,go_sem]) rfl ⟨rfl,(ht.set 0 _).below (Pw _ _ _),(Tw.refl w t none).set.trans (Tw.YZ (Pw _ _ _) t none)⟩
theorem kJ (w:World) (c d:Int) (t a:Nat) (tg:Value) (ha:w.cell? ⟨a,0,none⟩=some (.pointer (some ⟨t,0,none⟩))) (hal:a<w.heap.size) (ht:St w t [.int .i64 0,.nilIface]) :
    Calls Tryz.prog 228 #[.iface 281 (.agg #[.int .i64 c,.iface 240 (.agg #[.int .i64 d])]),tg,.agg #[.pointer (some ⟨11,284,none⟩),.pointer (some ⟨a,0,none⟩),.int .u64 150],.iface 345 (.agg #[.pointer (some ⟨11,281,none⟩)])] w fun e w'=>e=.returned (.bool true)∧St w' t [.int .i64 c,.iface 240 (.agg #[.int .i64 d])]∧Tw w t none w' none:=by
 have hx1:=AD;have hx2:=AC;have hx3:=AB;have hx4:=AA;have hx5:=Az;have hx6:=Ay;have hx7:=Aw;have me:=Av;have YA:=Au;have Z:=Jl;have V:=Tryz.lW;have U:=Tryz.lV;have T:=Tryz.lU;have mA:=Tryz.lT;have tO:=Tryz.kM;have X:=Tryz.kR;have vE:=Tryz.gS;have htl:=ht.lt;have B1:Hid (Zi w (w.alloc (.cells #[.pointer (some ⟨11,284,none⟩),.pointer (some ⟨a,0,none⟩),.int .u64 150] 321))):=Yy.alloc YR _;have B2:Hid (Zi w ((w.alloc (.cells #[.pointer (some ⟨11,284,none⟩),.pointer (some ⟨a,0,none⟩),.int .u64 150] 321)).alloc (.cells #[.int .i64 c,.iface 240 (.agg #[.int .i64 d])] 281))):=B1.out.alloc B1.out.size _;have T2:=ZU (ht.below B2.out);have el:=Tryz.gO ⟨a,0,none⟩ ⟨t,0,none⟩ (w.alloc (.cells #[.pointer (some ⟨11,284,none⟩),.pointer (some ⟨a,0,none⟩),.int .u64 150] 321)) ((B1.out.cell (p:=⟨a,0,none⟩) hal).trans ha);have se:=Tryz.gJ t (w.heap.size+1) c d (.int .i64 0) .nilIface ((w.alloc (.cells #[.pointer (some ⟨11,284,none⟩),.pointer (some ⟨a,0,none⟩),.int .u64 150] 321)).alloc (.cells #[.int .i64 c,.iface 240 (.agg #[.int .i64 d])] 281)) (by rw [VJ _ _ _ _ (by simp)];rfl) (by rw [VJ _ _ _ _ (by simp)];rfl) (T2.out.cl 0 _ rfl) (T2.out.fz 0) (T2.out.cl 1 _ rfl) (T2.out.fz 1)
 go_enter Tryz.func228,Tryz.ntmps228
 go_wp2;refine TM 1 ?_;rw [Tp];go_wp2;exact ZW (v:=.bool true) (by simp [results,Tryz.results228,go_sem]) rfl ⟨rfl,((ht.set 0 _).set 1 _).below (Pw _ _ _),(Tw.refl w t none).set.set.trans (Tw.YZ (Pw _ _ _) t none)⟩
theorem kI (w:World) (c:Int) (a:Nat) (tg:Value) :
    Calls Tryz.prog 228 #[.iface 240 (.agg #[.int .i64 c]),tg,.agg #[.pointer (some ⟨11,284,none⟩),.pointer (some ⟨a,0,none⟩),.int .u64 150],.iface 345 (.agg #[.pointer (some ⟨11,281,none⟩)])] w (Wj w (.bool false)):=by
 have hx1:=AD;have hx2:=AC;have hx3:=AB;have hx4:=AA;have hx5:=Az;have hx6:=Ay;have hx7:=Aw;have me:=Av;have YA:=Au;have Z:=Jl;have V:=Tryz.lW;have U:=Tryz.lV;have T:=Tryz.lU;have mA:=Tryz.lT;have tO:=Tryz.oI;have X:=Tryz.kT;have n1:=Tryz.iC;have n2:=Tryz.iA;have n3:=Tryz.iz
 go_enter Tryz.func228,Tryz.ntmps228
 go_wp2;refine TM 1 ?_;rw [Tp];go_wp2;exact ZW (v:=.bool false) (by simp [results,Tryz.results228,go_sem]) rfl ⟨rfl,Yy.alloc YR _⟩
theorem DC (w:World) (c:Int) (v:Value):Calls Tryz.prog 298 #[.agg #[.int .i64 c,v]] w (Wj w v):=by
 go_enter Tryz.func298,Tryz.ntmps298
 go_wp2;exact ZW (v:=v) (by simp [results,Tryz.results298,go_sem]) rfl ⟨rfl,Yy.alloc YR _⟩
theorem kH (w:World) (c d:Int) (t a:Nat) (tg:Value) (ha:w.cell? ⟨a,0,none⟩=some (.pointer (some ⟨t,0,none⟩))) (hal:a<w.heap.size) (ht:St w t [.int .i64 0]) :
    Calls Tryz.prog 228 #[.iface 281 (.agg #[.int .i64 c,.iface 240 (.agg #[.int .i64 d])]),tg,.agg #[.pointer (some ⟨11,283,none⟩),.pointer (some ⟨a,0,none⟩),.int .u64 150],.iface 345 (.agg #[.pointer (some ⟨11,240,none⟩)])] w fun e w'=>e=.returned (.bool true)∧St w' t [.int .i64 d]∧Tw w t none w' none:=by
 have hx1:=AD;have hx2:=AC;have hx3:=AB;have hx4:=AA;have hx5:=Az;have hx6:=Ay;have hx7:=Aw;have me:=Av;have YA:=Au;have Z:=Jl;have V:=Tryz.lW;have U:=Tryz.lV;have T:=Tryz.lU;have mA:=Tryz.lT;have tO:=Tryz.kM;have P:=Tryz.oI;have X:=Tryz.kS;have R:=Tryz.qo;have n1:=Tryz.iB;have n2:=Tryz.iy;have O:=Tryz.eX;have vE:=Tryz.kP;have HT:=ZU ht;have htl:=ht.lt;have B1:Hid (Zi w (w.alloc (.cells #[.pointer (some ⟨11,283,none⟩),.pointer (some ⟨a,0,none⟩),.int .u64 150] 321))):=Yy.alloc YR _;have X1:Hid (St (w.alloc (.cells #[.pointer (some ⟨11,283,none⟩),.pointer (some ⟨a,0,none⟩),.int .u64 150] 321)) w.heap.size [.pointer (some ⟨11,283,none⟩),.pointer (some ⟨a,0,none⟩),.int .u64 150]):=St.new _ _ _;have HA:=ZU ha;clear ha ht
 go_enter Tryz.func228,Tryz.ntmps228
 go_wp2;refine TM 2 ?_;rw [Tp];generalize w.alloc _=w1 at *
 go_wp2_with (go_at_call 298;refine (DC w1 c _).mono ?_)
 rintro e w3 ⟨rfl,b3⟩;have B3:=ZU (WD B1.out b3);have X3:=X1.out.below b3;have x0:=X3.cl 0 _ rfl;have x1:=X3.cl 1 _ rfl;have x2:=X3.cl 2 _ rfl;have T3:=ZU (HT.out.below B3.out);have el:=Tryz.kO ⟨a,0,none⟩ ⟨t,0,none⟩ w3 ((B3.out.cell (p:=⟨a,0,none⟩) hal).trans HA.out);have A4:Hid (Zi w3 (w3.alloc (.cells #[.int .i64 d] 240))):=Yy.alloc YR _;have T4:=ZU (T3.out.below A4.out);have se:=Tryz.kL t w3.heap.size d (.int .i64 0) (w3.alloc (.cells #[.int .i64 d] 240)) (by rw [VJ _ _ _ _ (by simp)];rfl) (T4.out.cl 0 _ rfl) (T4.out.fz 0);have S:=T3.out.lt;clear b3 X3;go_wp2;rw [Tp];go_wp2;exact ZW (v:=.bool true) (by simp [results,Tryz.results228,go_sem]) rfl ⟨rfl,(T3.out.set 0 _).below (Yy.alloc YR _),(Tw.YZ B3.out t none).set.trans (Tw.YZ (Yy.alloc YR _) t none)⟩
theorem fC (w:World) (et:TypeId) (ex:Value) (t:Nat) (b:Bool) (Q:World→Prop) (hg:w.cell? ⟨5,0,none⟩=some (.iface 345 (.agg #[.pointer (some ⟨11,182,none⟩)]))) (h0:5<w.heap.size)
    (h:∀W,Zi w W→W.cell? ⟨w.heap.size,0,none⟩=some (.pointer (some ⟨t,0,none⟩))→w.heap.size<W.heap.size→Calls Tryz.prog 228 #[.iface et ex,.iface 283 (.pointer (some ⟨t,0,none⟩)),.agg #[.pointer (some ⟨11,283,none⟩),.pointer (some ⟨w.heap.size,0,none⟩),.int .u64 150],.iface 345 (.agg #[.pointer (some ⟨11,240,none⟩)])] W fun e w'=>e=.returned (.bool b)∧Q w') :
    Calls Tryz.prog 199 #[.iface et ex,.iface 283 (.pointer (some ⟨t,0,none⟩))] w fun e w'=>e=.returned (.bool b)∧Q w':=by
 have hx1:=AD;have hx2:=AC;have hx3:=AB;have hx4:=AA;have hx5:=Az;have hx6:=Ay;have hx7:=Aw;have me:=Av;have YA:=Au;have Z:=Jl;have V:=Tryz.lW;have U:=Tryz.lV;have T:=Tryz.lU;have mA:=Tryz.lT;have f1:=Tryz.ix;have f2:=Tryz.iw;have k1:=Tryz.iv;have k2:=Tryz.ir;have e1:=Tryz.io;have i1:=Tryz.ik;have B1:Hid (Zi w ((w.alloc (.cells #[.pointer (some ⟨t,0,none⟩)] 283)).alloc (.cells #[.pointer (some ⟨11,283,none⟩),.pointer (some ⟨w.heap.size,0,none⟩),.int .u64 150] 321))):=Pw w _ _;have hg2:=(B1.out.cell (p:=⟨5,0,none⟩) h0).trans hg;have hc2:((w.alloc (.cells #[.pointer (some ⟨t,0,none⟩)] 283)).alloc (.cells #[.pointer (some ⟨11,283,none⟩),.pointer (some ⟨w.heap.size,0,none⟩),.int .u64 150] 321)).cell? ⟨w.heap.size,0,none⟩=some (.pointer (some ⟨t,0,none⟩)):=by go_simp
 have n8:=Tryz.ip ⟨w.heap.size,0,none⟩ ⟨t,0,none⟩ ((w.alloc (.cells #[.pointer (some ⟨t,0,none⟩)] 283)).alloc (.cells #[.pointer (some ⟨11,283,none⟩),.pointer (some ⟨w.heap.size,0,none⟩),.int .u64 150] 321)) hc2;have HC:=ZU (h _ B1.out hc2 (by simp;omega));clear h hc2 hg
 go_enter Tryz.func199,Tryz.ntmps199
 go_wp2_with (go_at_call 228;refine HC.out.mono ?_)
 rintro e w5 ⟨rfl,q5⟩;have Q5:=ZU q5;clear q5 HC
 go_wp2_with fail
 exact ZW (v:=.bool b) (by simp [results,Tryz.results199,go_sem]) rfl ⟨rfl,Q5.out⟩
theorem fB (w:World) (et:TypeId) (ex:Value) (t:Nat) (b:Bool) (Q:World→Prop) (hg:w.cell? ⟨5,0,none⟩=some (.iface 345 (.agg #[.pointer (some ⟨11,182,none⟩)]))) (h0:5<w.heap.size)
    (h:∀W,Zi w W→W.cell? ⟨w.heap.size,0,none⟩=some (.pointer (some ⟨t,0,none⟩))→w.heap.size<W.heap.size→Calls Tryz.prog 228 #[.iface et ex,.iface 284 (.pointer (some ⟨t,0,none⟩)),.agg #[.pointer (some ⟨11,284,none⟩),.pointer (some ⟨w.heap.size,0,none⟩),.int .u64 150],.iface 345 (.agg #[.pointer (some ⟨11,281,none⟩)])] W fun e w'=>e=.returned (.bool b)∧Q w') :
    Calls Tryz.prog 199 #[.iface et ex,.iface 284 (.pointer (some ⟨t,0,none⟩))] w fun e w'=>e=.returned (.bool b)∧Q w':=by
 have hx1:=AD;have hx2:=AC;have hx3:=AB;have hx4:=AA;have hx5:=Az;have hx6:=Ay;have hx7:=Aw;have me:=Av;have YA:=Au;have Z:=Jl;have V:=Tryz.lW;have U:=Tryz.lV;have T:=Tryz.lU;have mA:=Tryz.lT;have f1:=Tryz.gZ;have f2:=Tryz.gY;have k1:=Tryz.gX;have k2:=Tryz.gW;have e1:=Tryz.gU;have i1:=Tryz.gT;have B1:Hid (Zi w ((w.alloc (.cells #[.pointer (some ⟨t,0,none⟩)] 284)).alloc (.cells #[.pointer (some ⟨11,284,none⟩),.pointer (some ⟨w.heap.size,0,none⟩),.int .u64 150] 321))):=Pw w _ _;have hg2:=(B1.out.cell (p:=⟨5,0,none⟩) h0).trans hg;have hc2:((w.alloc (.cells #[.pointer (some ⟨t,0,none⟩)] 284)).alloc (.cells #[.pointer (some ⟨11,284,none⟩),.pointer (some ⟨w.heap.size,0,none⟩),.int .u64 150] 321)).cell? ⟨w.heap.size,0,none⟩=some (.pointer (some ⟨t,0,none⟩)):=by go_simp
 have n8:=Tryz.gV ⟨w.heap.size,0,none⟩ ⟨t,0,none⟩ ((w.alloc (.cells #[.pointer (some ⟨t,0,none⟩)] 284)).alloc (.cells #[.pointer (some ⟨11,284,none⟩),.pointer (some ⟨w.heap.size,0,none⟩),.int .u64 150] 321)) hc2;have HC:=ZU (h _ B1.out hc2 (by simp;omega));clear h hc2 hg
 go_enter Tryz.func199,Tryz.ntmps199
 go_wp2_with (go_at_call 228;refine HC.out.mono ?_)
 rintro e w5 ⟨rfl,q5⟩;have Q5:=ZU q5;clear q5 HC
 go_wp2_with fail
 exact ZW (v:=.bool b) (by simp [results,Tryz.results199,go_sem]) rfl ⟨rfl,Q5.out⟩
end Go.Proofs.YtpmjnbmkippaiaaGreatDoor


