import Derived.LaidEql
import Derived.Stop.Asserts
import Derived.RowKitTokens
import Derived.Test.YtpmjnbmkippaiaaGreatDoorJ08
set_option maxRecDepth 100000
set_option maxHeartbeats 16000000
set_option linter.unusedVariables false
set_option linter.unusedSimpArgs false
namespace Go.Proofs.YtpmjnbmkippaiaaGreatDoor
section
open Go.RowKit Go.Extern.Stop Go.Stop Go.Extern
theorem rm (v:Value) (f:Value→Sem Value) (g:Array Value→Sem Value):ReflectliteValue.method.match_2 (fun _=>Sem Value) #[v] f g=f v:=rfl
theorem kj (v x:Value) (f:Value→Value→Sem Value) (g:Array Value→Sem Value):ReflectliteValue.set.match_3 (fun _=>Sem Value) #[v,x] f g=f v x:=rfl
theorem Tryz.ly (h : Value) (w : World) : (Go.method 324 345 (.agg #[h]) "Kind").run Tryz.prog w = .ok (292, h) w := by kernel_rfl
theorem Tryz.lx (h : Value) (w : World) : (Go.method 324 345 (.agg #[h]) "Elem").run Tryz.prog w = .ok (308, .agg #[h]) w := by kernel_rfl
theorem Tryz.lv (h : Value) (w : World) : (Go.method 324 345 (.agg #[h]) "Implements").run Tryz.prog w = .ok (309, .agg #[h]) w := by kernel_rfl
theorem Tryz.lu (h : Value) (w : World) : (Go.method 324 345 (.agg #[h]) "AssignableTo").run Tryz.prog w = .ok (306, .agg #[h]) w := by kernel_rfl
theorem Tryz.dX (v : Value) (w : World) : (Go.method 353 281 v "Unwrap").run Tryz.prog w = .ok (298, v) w := by kernel_rfl
theorem Tryz.pR (w : World) : (ReflectliteType.relation "AssignableTo" ReflectliteType.assignableTo #[.agg #[.pointer (some ⟨11, 240, none⟩)], .iface 345 (.agg #[.pointer (some ⟨11, 240, none⟩)])]).run Tryz.prog w = .ok (.bool true) w := by kernel_rfl
theorem Tryz.ki (w : World) : (ReflectliteType.relation "AssignableTo" ReflectliteType.assignableTo #[.agg #[.pointer (some ⟨11, 240, none⟩)], .iface 345 (.agg #[.pointer (some ⟨11, 281, none⟩)])]).run Tryz.prog w = .ok (.bool false) w := by kernel_rfl
theorem Tryz.kh (w : World) : (ReflectliteType.relation "AssignableTo" ReflectliteType.assignableTo #[.agg #[.pointer (some ⟨11, 281, none⟩)], .iface 345 (.agg #[.pointer (some ⟨11, 240, none⟩)])]).run Tryz.prog w = .ok (.bool false) w := by kernel_rfl
theorem Tryz.kg (w : World) : (ReflectliteType.relation "AssignableTo" ReflectliteType.assignableTo #[.agg #[.pointer (some ⟨11, 281, none⟩)], .iface 345 (.agg #[.pointer (some ⟨11, 281, none⟩)])]).run Tryz.prog w = .ok (.bool true) w := by kernel_rfl
theorem Tryz.gH (v:Value) (x:TypeId) (w:World):(Instr.typeAssert (.iface 240 v) x 350 true).run Tryz.prog w=.ok (.tuple #[.nilIface,.bool false]) w:=run_typeAssert_lacksB Tryz.underlying350 (by kernel_rfl) (by kernel_rfl) v x w
theorem Tryz.gG (v:Value) (x:TypeId) (w:World):(Instr.typeAssert (.iface 281 v) x 350 true).run Tryz.prog w=.ok (.tuple #[.nilIface,.bool false]) w:=run_typeAssert_lacksB Tryz.underlying350 (by kernel_rfl) (by kernel_rfl) v x w
theorem Tryz.gF (v:Value) (x:TypeId) (w:World):(Instr.typeAssert (.iface 240 v) x 353 true).run Tryz.prog w=.ok (.tuple #[.nilIface,.bool false]) w:=run_typeAssert_lacksB Tryz.underlying353 (by kernel_rfl) (by kernel_rfl) v x w
theorem Tryz.gE (v:Value) (x:TypeId) (w:World):(Instr.typeAssert (.iface 240 v) x 355 true).run Tryz.prog w=.ok (.tuple #[.nilIface,.bool false]) w:=run_typeAssert_lacksB Tryz.underlying355 (by kernel_rfl) (by kernel_rfl) v x w
theorem Tryz.gD (v:Value) (x:TypeId) (w:World):(Instr.typeAssert (.iface 281 v) x 353 true).run Tryz.prog w=.ok (.tuple #[.iface 281 v,.bool true]) w:=run_typeAssert_hasB Tryz.underlying353 (by kernel_rfl) v x w
theorem Tryz.gC (t:Addr) (w:World):(ReflectliteValue.unpack (.iface 283 (.pointer (some t)))).run Tryz.prog w=.ok (.agg #[.pointer (some ⟨11,283,none⟩),.pointer (some ⟨w.heap.size,0,none⟩),.int .u64 150]) (w.alloc (.cells #[.pointer (some t)] 283)):=by kernel_rfl
theorem Tryz.gB (a : Addr) (w : World) : (ReflectliteValue.methodAny (ReflectliteValue.valueError "reflectlite.Value.Type" 0) (fun t _ _ _ => ReflectliteType.toType t) #[.agg #[.pointer (some ⟨11, 283, none⟩), .pointer (some a), .int .u64 150]]).run Tryz.prog w = .ok (.iface 345 (.agg #[.pointer (some ⟨11, 283, none⟩)])) w := by kernel_rfl
theorem Tryz.gA (w:World):((ReflectliteType.abiMethod fun t=>Functor.map (fun a:Nat=>Value.int IntKind.u8 (a:Int)) (Rtype.kind t)) #[.pointer (some ⟨11,283,none⟩)]).run Tryz.prog w=.ok (.int .u8 22) w:=by kernel_rfl
theorem Tryz.gz (w:World):((ReflectliteType.abiMethod fun t=>Functor.map (fun a:Nat=>Value.int IntKind.u8 (a:Int)) (Rtype.kind t)) #[.pointer (some ⟨11,240,none⟩)]).run Tryz.prog w=.ok (.int .u8 25) w:=by kernel_rfl
theorem Tryz.kf (a:Addr) (w:World):(ReflectliteValue.parts (.agg #[.pointer (some ⟨11,283,none⟩),.pointer (some a),.int .u64 150])).run Tryz.prog w=.ok (some (283,a,150)) w:=by kernel_rfl
theorem Tryz.gy (a p : Addr) (W : World) (ha : W.cell? a = some (.pointer (some p))) : (ReflectliteValue.method (ReflectliteValue.valueError "reflectlite.Value.IsNil" 0) ReflectliteValue.isNil #[.agg #[.pointer (some ⟨11, 283, none⟩), .pointer (some a), .int .u64 150]]).run Tryz.prog W = .ok (.bool false) W := by
 delta ReflectliteValue.method
 rw [rm]
 simp only [XX,Tryz.kf,Result.andThen]
 simp [ReflectliteValue.isNil,loadVar,isAgg,underlying,Tryz.underlying283,ha,Result.andThen]
theorem Tryz.gx (w:World):(ReflectliteType.method ReflectliteType.elem #[.agg #[.pointer (some ⟨11,283,none⟩)]]).run Tryz.prog w=.ok (.iface 345 (.agg #[.pointer (some ⟨11,240,none⟩)])) w:=by kernel_rfl
theorem Tryz.gv (w : World) : (ReflectliteType.relation "Implements" ReflectliteType.implements_ #[.agg #[.pointer (some ⟨11, 240, none⟩)], .iface 345 (.agg #[.pointer (some ⟨11, 182, none⟩)])]).run Tryz.prog w = .ok (.bool true) w := by kernel_rfl
theorem Tryz.nt (x:Value) (w:World):(ReflectliteType.typeOf #[.iface 240 x]).run Tryz.prog w=.ok (.iface 345 (.agg #[.pointer (some ⟨11,240,none⟩)])) w:=by kernel_rfl
theorem Tryz.ke (c:Int) (w:World):(ReflectliteValue.unpack (.iface 240 (.agg #[.int .i64 c]))).run Tryz.prog w=.ok (.agg #[.pointer (some ⟨11,240,none⟩),.pointer (some ⟨w.heap.size,0,none⟩),.int .u64 153]) (w.alloc (.cells #[.int .i64 c] 240)):=by kernel_rfl
theorem Tryz.gt (w:World):(Rtype.elem? 283).run Tryz.prog w=.ok (some 240) w:=by kernel_rfl
theorem Tryz.gq (p:Addr) (w:World):(ReflectliteValue.mk 240 p ReflectliteValue.flagAddr).run Tryz.prog w=.ok (.agg #[.pointer (some ⟨11,240,none⟩),.pointer (some p),.int .u64 409]) w:=by kernel_rfl
theorem Tryz.ka (a p : Addr) (W : World) (ha : W.cell? a = some (.pointer (some p))) : (ReflectliteValue.method (ReflectliteValue.valueError "reflectlite.Value.Elem" 0) ReflectliteValue.elem #[.agg #[.pointer (some ⟨11, 283, none⟩), .pointer (some a), .int .u64 150]]).run Tryz.prog W = .ok (.agg #[.pointer (some ⟨11, 240, none⟩), .pointer (some p), .int .u64 409]) W := by
 delta ReflectliteValue.method
 rw [rm]
 simp only [XX,Tryz.kf,Result.andThen]
 simp [ReflectliteValue.elem,loadVar,isAgg,underlying,Tryz.underlying283,ha,Result.andThen,Tryz.gt,Tryz.gq]
theorem Tryz.gp (a:Addr) (w:World):(ReflectliteValue.parts (.agg #[.pointer (some ⟨11,240,none⟩),.pointer (some a),.int .u64 409])).run Tryz.prog w=.ok (some (240,a,409)) w:=by kernel_rfl
theorem Tryz.go (a:Addr) (w:World):(ReflectliteValue.parts (.agg #[.pointer (some ⟨11,240,none⟩),.pointer (some a),.int .u64 153])).run Tryz.prog w=.ok (some (240,a,153)) w:=by kernel_rfl
theorem Tryz.gn (w:World):(Rtype.directlyAssignable 240 240).run Tryz.prog w=.ok true w:=by kernel_rfl
theorem Tryz.gm (t:Addr) (w:World):(ReflectliteValue.unpack (.iface 284 (.pointer (some t)))).run Tryz.prog w=.ok (.agg #[.pointer (some ⟨11,284,none⟩),.pointer (some ⟨w.heap.size,0,none⟩),.int .u64 150]) (w.alloc (.cells #[.pointer (some t)] 284)):=by kernel_rfl
theorem Tryz.gl (a : Addr) (w : World) : (ReflectliteValue.methodAny (ReflectliteValue.valueError "reflectlite.Value.Type" 0) (fun t _ _ _ => ReflectliteType.toType t) #[.agg #[.pointer (some ⟨11, 284, none⟩), .pointer (some a), .int .u64 150]]).run Tryz.prog w = .ok (.iface 345 (.agg #[.pointer (some ⟨11, 284, none⟩)])) w := by kernel_rfl
theorem Tryz.gk (w:World):((ReflectliteType.abiMethod fun t=>Functor.map (fun a:Nat=>Value.int IntKind.u8 (a:Int)) (Rtype.kind t)) #[.pointer (some ⟨11,284,none⟩)]).run Tryz.prog w=.ok (.int .u8 22) w:=by kernel_rfl
theorem Tryz.gj (w:World):((ReflectliteType.abiMethod fun t=>Functor.map (fun a:Nat=>Value.int IntKind.u8 (a:Int)) (Rtype.kind t)) #[.pointer (some ⟨11,281,none⟩)]).run Tryz.prog w=.ok (.int .u8 25) w:=by kernel_rfl
theorem Tryz.j9 (a:Addr) (w:World):(ReflectliteValue.parts (.agg #[.pointer (some ⟨11,284,none⟩),.pointer (some a),.int .u64 150])).run Tryz.prog w=.ok (some (284,a,150)) w:=by kernel_rfl
theorem Tryz.gi (a p : Addr) (W : World) (ha : W.cell? a = some (.pointer (some p))) : (ReflectliteValue.method (ReflectliteValue.valueError "reflectlite.Value.IsNil" 0) ReflectliteValue.isNil #[.agg #[.pointer (some ⟨11, 284, none⟩), .pointer (some a), .int .u64 150]]).run Tryz.prog W = .ok (.bool false) W := by
 delta ReflectliteValue.method
 rw [rm]
 simp only [XX,Tryz.j9,Result.andThen]
 simp [ReflectliteValue.isNil,loadVar,isAgg,underlying,Tryz.underlying284,ha,Result.andThen]
theorem Tryz.gh (w:World):(ReflectliteType.method ReflectliteType.elem #[.agg #[.pointer (some ⟨11,284,none⟩)]]).run Tryz.prog w=.ok (.iface 345 (.agg #[.pointer (some ⟨11,281,none⟩)])) w:=by kernel_rfl
theorem Tryz.ge (w : World) : (ReflectliteType.relation "Implements" ReflectliteType.implements_ #[.agg #[.pointer (some ⟨11, 281, none⟩)], .iface 345 (.agg #[.pointer (some ⟨11, 182, none⟩)])]).run Tryz.prog w = .ok (.bool true) w := by kernel_rfl
theorem Tryz.j8 (x:Value) (w:World):(ReflectliteType.typeOf #[.iface 281 x]).run Tryz.prog w=.ok (.iface 345 (.agg #[.pointer (some ⟨11,281,none⟩)])) w:=by kernel_rfl
theorem Tryz.fZ (c:Int) (v:Value) (w:World):(ReflectliteValue.unpack (.iface 281 (.agg #[.int .i64 c,v]))).run Tryz.prog w=.ok (.agg #[.pointer (some ⟨11,281,none⟩),.pointer (some ⟨w.heap.size,0,none⟩),.int .u64 153]) (w.alloc (.cells #[.int .i64 c,v] 281)):=by kernel_rfl
theorem Tryz.fY (w:World):(Rtype.elem? 284).run Tryz.prog w=.ok (some 281) w:=by kernel_rfl
theorem Tryz.fX (p:Addr) (w:World):(ReflectliteValue.mk 281 p ReflectliteValue.flagAddr).run Tryz.prog w=.ok (.agg #[.pointer (some ⟨11,281,none⟩),.pointer (some p),.int .u64 409]) w:=by kernel_rfl
theorem Tryz.fW (a p : Addr) (W : World) (ha : W.cell? a = some (.pointer (some p))) : (ReflectliteValue.method (ReflectliteValue.valueError "reflectlite.Value.Elem" 0) ReflectliteValue.elem #[.agg #[.pointer (some ⟨11, 284, none⟩), .pointer (some a), .int .u64 150]]).run Tryz.prog W = .ok (.agg #[.pointer (some ⟨11, 281, none⟩), .pointer (some p), .int .u64 409]) W := by
 delta ReflectliteValue.method
 rw [rm]
 simp only [XX,Tryz.j9,Result.andThen]
 simp [ReflectliteValue.elem,loadVar,isAgg,underlying,Tryz.underlying284,ha,Result.andThen,Tryz.fY,Tryz.fX]
theorem Tryz.fV (a:Addr) (w:World):(ReflectliteValue.parts (.agg #[.pointer (some ⟨11,281,none⟩),.pointer (some a),.int .u64 409])).run Tryz.prog w=.ok (some (281,a,409)) w:=by kernel_rfl
theorem Tryz.fU (a:Addr) (w:World):(ReflectliteValue.parts (.agg #[.pointer (some ⟨11,281,none⟩),.pointer (some a),.int .u64 153])).run Tryz.prog w=.ok (some (281,a,153)) w:=by kernel_rfl
theorem Tryz.fT (w:World):(Rtype.directlyAssignable 281 281).run Tryz.prog w=.ok true w:=by kernel_rfl
theorem Tryz.j7 (t b:Nat) (c:Int) (old:Value) (W:World) (hb:W.cell? ⟨b,0,none⟩=some (.int .i64 c)) (ht:W.cell? ⟨t,0,none⟩=some old) (hf:W.frozen? ⟨t,0,none⟩=false) :
    (ReflectliteValue.set #[.agg #[.pointer (some ⟨11,240,none⟩),.pointer (some ⟨t,0,none⟩),.int .u64 409],.agg #[.pointer (some ⟨11,240,none⟩),.pointer (some ⟨b,0,none⟩),.int .u64 153]]).run Tryz.prog W=.ok (.tuple #[]) (W.setCell ⟨t,0,none⟩ (.int .i64 c)):=by
 delta ReflectliteValue.set
 rw [kj]
 simp only [XX,Tryz.gp,Tryz.go,Result.andThen]
 go_simp;rw [Z1 (show ¬409 / ReflectliteValue.flagAddr % 2=0 by decide)]
 simp [Tryz.gn,Result.andThen,ht,hf]
theorem Tryz.fQ (t b:Nat) (c d:Int) (old J:Value) (W:World) (hb:W.cell? ⟨b,0,none⟩=some (.int .i64 c)) (hb1:W.cell? ⟨b,1,none⟩=some (.iface 240 (.agg #[.int .i64 d]))) (ht:W.cell? ⟨t,0,none⟩=some old) (hf:W.frozen? ⟨t,0,none⟩=false) (ht1:W.cell? ⟨t,1,none⟩=some J) (hf1:W.frozen? ⟨t,1,none⟩=false) :
    (ReflectliteValue.set #[.agg #[.pointer (some ⟨11,281,none⟩),.pointer (some ⟨t,0,none⟩),.int .u64 409],.agg #[.pointer (some ⟨11,281,none⟩),.pointer (some ⟨b,0,none⟩),.int .u64 153]]).run Tryz.prog W=.ok (.tuple #[]) ((W.setCell ⟨t,0,none⟩ (.int .i64 c)).setCell ⟨t,1,none⟩ (.iface 240 (.agg #[.int .i64 d]))):=by
 have ht2:(W.setCell ⟨t,0,none⟩ (.int .i64 c)).cell? ⟨t,1,none⟩=some J:=(ZV _ _ _ _ (by simp)).trans ht1
 delta ReflectliteValue.set
 rw [kj]
 simp only [XX,Tryz.fV,Tryz.fU,Result.andThen]
 go_simp;rw [Z1 (show ¬409 / ReflectliteValue.flagAddr % 2=0 by decide)]
 simp [Tryz.fT,Result.andThen,ht,hf,ht2,hf1]
theorem Pl (w:World) (o1 o2:Obj):Zi w ((w.alloc o1).alloc o2):=(Yy.alloc YR _).alloc (by simp) _
theorem nr (w:World) (o1 o2 o3 o4:Obj):Zi w ((((w.alloc o1).alloc o2).alloc o3).alloc o4):=(Pl w o1 o2).trans ((Pl _ o3 o4).mono (by simp;omega))
set_option linter.defProp false
def zH:=@run_callFunc_extern Tryz.prog 225 _ (fun args=>ReflectliteValue.unpack (args.getD 0 (.tuple #[]))) Tryz.func225 (by kernel_rfl) (by kernel_rfl) (by kernel_rfl) (by kernel_rfl)
def zG := @run_callFunc_extern Tryz.prog 226 _ (ReflectliteValue.methodAny (ReflectliteValue.valueError "reflectlite.Value.Type" 0) (fun t _ _ _ => ReflectliteType.toType t)) Tryz.func226 (by kernel_rfl) (by kernel_rfl) (by kernel_rfl) (by kernel_rfl)
def zF := @run_callFunc_extern Tryz.prog 227 _ (ReflectliteValue.method (ReflectliteValue.valueError "reflectlite.Value.IsNil" 0) ReflectliteValue.isNil) Tryz.func227 (by kernel_rfl) (by kernel_rfl) (by kernel_rfl) (by kernel_rfl)
def zE:=@run_callFunc_extern Tryz.prog 292 _ (ReflectliteType.abiMethod fun t=>do pure (.int .u8 (←Rtype.kind t))) Tryz.func292 (by kernel_rfl) (by kernel_rfl) (by kernel_rfl) (by kernel_rfl)
def zD:=@run_callFunc_extern Tryz.prog 308 _ (ReflectliteType.method ReflectliteType.elem) Tryz.func308 (by kernel_rfl) (by kernel_rfl) (by kernel_rfl) (by kernel_rfl)
def zC := @run_callFunc_extern Tryz.prog 309 _ (ReflectliteType.relation "Implements" ReflectliteType.implements_) Tryz.func309 (by kernel_rfl) (by kernel_rfl) (by kernel_rfl) (by kernel_rfl)
def zB:=@run_callFunc_extern Tryz.prog 246 _ ReflectliteType.typeOf Tryz.func246 (by kernel_rfl) (by kernel_rfl) (by kernel_rfl) (by kernel_rfl)
def zy := @run_callFunc_extern Tryz.prog 306 _ (ReflectliteType.relation "AssignableTo" ReflectliteType.assignableTo) Tryz.func306 (by kernel_rfl) (by kernel_rfl) (by kernel_rfl) (by kernel_rfl)
def zw := @run_callFunc_extern Tryz.prog 247 _ (ReflectliteValue.method (ReflectliteValue.valueError "reflectlite.Value.Elem" 0) ReflectliteValue.elem) Tryz.func247 (by kernel_rfl) (by kernel_rfl) (by kernel_rfl) (by kernel_rfl)
def I8:=@run_callFunc_extern Tryz.prog 248 _ ReflectliteValue.set Tryz.func248 (by kernel_rfl) (by kernel_rfl) (by kernel_rfl) (by kernel_rfl)
theorem j6 (w:World) (c:Int) (t a:Nat) (tg:Value) (ha:w.cell? ⟨a,0,none⟩=some (.pointer (some ⟨t,0,none⟩))) (hal:a<w.heap.size) (ht:St w t [.int .i64 0]) :
    Calls Tryz.prog 228 #[.iface 240 (.agg #[.int .i64 c]),tg,.agg #[.pointer (some ⟨11,283,none⟩),.pointer (some ⟨a,0,none⟩),.int .u64 150],.iface 345 (.agg #[.pointer (some ⟨11,240,none⟩)])] w fun e w'=>e=.returned (.bool true)∧St w' t [.int .i64 c]∧Tw w t none w' none:=by
 have hx1:=zH;have hx2:=zG;have hx3:=zF;have hx4:=zE;have hx5:=zD;have hx6:=zC;have hx7:=zB;have lS:=zy;have YA:=zw;have Z:=I8;have l:=Tryz.ly;have mE:=Tryz.lx;have mI:=Tryz.lv;have mA:=Tryz.lu;have tO:=Tryz.nt;have H:=Tryz.pR;have vE:=Tryz.ke;have htl:=ht.lt;have B1:Hid (Zi w (w.alloc (.cells #[.pointer (some ⟨11,283,none⟩),.pointer (some ⟨a,0,none⟩),.int .u64 150] 321))):=Yy.alloc YR _;have B2:Hid (Zi w ((w.alloc (.cells #[.pointer (some ⟨11,283,none⟩),.pointer (some ⟨a,0,none⟩),.int .u64 150] 321)).alloc (.cells #[.int .i64 c] 240))):=B1.out.alloc B1.out.size _;have T2:=ZU (ht.below B2.out);have el:=Tryz.ka ⟨a,0,none⟩ ⟨t,0,none⟩ (w.alloc (.cells #[.pointer (some ⟨11,283,none⟩),.pointer (some ⟨a,0,none⟩),.int .u64 150] 321)) ((B1.out.cell (p:=⟨a,0,none⟩) hal).trans ha);have se:=Tryz.j7 t (w.heap.size+1) c (.int .i64 0) ((w.alloc (.cells #[.pointer (some ⟨11,283,none⟩),.pointer (some ⟨a,0,none⟩),.int .u64 150] 321)).alloc (.cells #[.int .i64 c] 240)) (by rw [VJ _ _ _ _ (by simp)];rfl) (T2.out.cl 0 _ rfl) (T2.out.fz 0)
 go_enter Tryz.func228,Tryz.ntmps228
 go_wp2;refine TL 1 ?_;rw [Tp];go_wp2;exact ZW (v:=.bool true) (by simp [results,Tryz.results228,go_sem]) rfl ⟨rfl,(ht.set 0 _).below (Pl _ _ _),(Tw.refl w t none).set.trans (Tw.YZ (Pl _ _ _) t none)⟩
theorem j5 (w:World) (c d:Int) (t a:Nat) (tg:Value) (ha:w.cell? ⟨a,0,none⟩=some (.pointer (some ⟨t,0,none⟩))) (hal:a<w.heap.size) (ht:St w t [.int .i64 0,.nilIface]) :
    Calls Tryz.prog 228 #[.iface 281 (.agg #[.int .i64 c,.iface 240 (.agg #[.int .i64 d])]),tg,.agg #[.pointer (some ⟨11,284,none⟩),.pointer (some ⟨a,0,none⟩),.int .u64 150],.iface 345 (.agg #[.pointer (some ⟨11,281,none⟩)])] w fun e w'=>e=.returned (.bool true)∧St w' t [.int .i64 c,.iface 240 (.agg #[.int .i64 d])]∧Tw w t none w' none:=by
 have hx1:=zH;have hx2:=zG;have hx3:=zF;have hx4:=zE;have hx5:=zD;have hx6:=zC;have hx7:=zB;have lS:=zy;have YA:=zw;have Z:=I8;have l:=Tryz.ly;have mE:=Tryz.lx;have mI:=Tryz.lv;have mA:=Tryz.lu;have tO:=Tryz.j8;have H:=Tryz.kg;have vE:=Tryz.fZ;have htl:=ht.lt;have B1:Hid (Zi w (w.alloc (.cells #[.pointer (some ⟨11,284,none⟩),.pointer (some ⟨a,0,none⟩),.int .u64 150] 321))):=Yy.alloc YR _;have B2:Hid (Zi w ((w.alloc (.cells #[.pointer (some ⟨11,284,none⟩),.pointer (some ⟨a,0,none⟩),.int .u64 150] 321)).alloc (.cells #[.int .i64 c,.iface 240 (.agg #[.int .i64 d])] 281))):=B1.out.alloc B1.out.size _;have T2:=ZU (ht.below B2.out);have el:=Tryz.fW ⟨a,0,none⟩ ⟨t,0,none⟩ (w.alloc (.cells #[.pointer (some ⟨11,284,none⟩),.pointer (some ⟨a,0,none⟩),.int .u64 150] 321)) ((B1.out.cell (p:=⟨a,0,none⟩) hal).trans ha);have se:=Tryz.fQ t (w.heap.size+1) c d (.int .i64 0) .nilIface ((w.alloc (.cells #[.pointer (some ⟨11,284,none⟩),.pointer (some ⟨a,0,none⟩),.int .u64 150] 321)).alloc (.cells #[.int .i64 c,.iface 240 (.agg #[.int .i64 d])] 281)) (by rw [VJ _ _ _ _ (by simp)];rfl) (by rw [VJ _ _ _ _ (by simp)];rfl) (T2.out.cl 0 _ rfl) (T2.out.fz 0) (T2.out.cl 1 _ rfl) (T2.out.fz 1)
 go_enter Tryz.func228,Tryz.ntmps228
 go_wp2;refine TL 1 ?_;rw [Tp];go_wp2;exact ZW (v:=.bool true) (by simp [results,Tryz.results228,go_sem]) rfl ⟨rfl,((ht.set 0 _).set 1 _).below (Pl _ _ _),(Tw.refl w t none).set.set.trans (Tw.YZ (Pl _ _ _) t none)⟩
theorem j0 (w:World) (c:Int) (a:Nat) (tg:Value) :
    Calls Tryz.prog 228 #[.iface 240 (.agg #[.int .i64 c]),tg,.agg #[.pointer (some ⟨11,284,none⟩),.pointer (some ⟨a,0,none⟩),.int .u64 150],.iface 345 (.agg #[.pointer (some ⟨11,281,none⟩)])] w (Wj w (.bool false)):=by
 have hx1:=zH;have hx2:=zG;have hx3:=zF;have hx4:=zE;have hx5:=zD;have hx6:=zC;have hx7:=zB;have lS:=zy;have YA:=zw;have Z:=I8;have l:=Tryz.ly;have mE:=Tryz.lx;have mI:=Tryz.lv;have mA:=Tryz.lu;have tO:=Tryz.nt;have H:=Tryz.ki;have n1:=Tryz.gH;have n2:=Tryz.gF;have n3:=Tryz.gE
 go_enter Tryz.func228,Tryz.ntmps228
 go_wp2;refine TL 1 ?_;rw [Tp];go_wp2;exact ZW (v:=.bool false) (by simp [results,Tryz.results228,go_sem]) rfl ⟨rfl,Yy.alloc YR _⟩
theorem C5 (w:World) (c:Int) (v:Value):Calls Tryz.prog 298 #[.agg #[.int .i64 c,v]] w (Wj w v):=by
 go_enter Tryz.func298,Tryz.ntmps298
 go_wp2;exact ZW (v:=v) (by simp [results,Tryz.results298,go_sem]) rfl ⟨rfl,Yy.alloc YR _⟩
theorem jZ (w:World) (c d:Int) (t a:Nat) (tg:Value) (ha:w.cell? ⟨a,0,none⟩=some (.pointer (some ⟨t,0,none⟩))) (hal:a<w.heap.size) (ht:St w t [.int .i64 0]) :
    Calls Tryz.prog 228 #[.iface 281 (.agg #[.int .i64 c,.iface 240 (.agg #[.int .i64 d])]),tg,.agg #[.pointer (some ⟨11,283,none⟩),.pointer (some ⟨a,0,none⟩),.int .u64 150],.iface 345 (.agg #[.pointer (some ⟨11,240,none⟩)])] w fun e w'=>e=.returned (.bool true)∧St w' t [.int .i64 d]∧Tw w t none w' none:=by
 have hx1:=zH;have hx2:=zG;have hx3:=zF;have hx4:=zE;have hx5:=zD;have hx6:=zC;have hx7:=zB;have lS:=zy;have YA:=zw;have Z:=I8;have l:=Tryz.ly;have mE:=Tryz.lx;have mI:=Tryz.lv;have mA:=Tryz.lu;have tO:=Tryz.j8;have tF:=Tryz.nt;have H:=Tryz.kh;have ZM:=Tryz.pR;have n1:=Tryz.gG;have n2:=Tryz.gD;have mU:=Tryz.dX;have vE:=Tryz.ke;have HT:=ZU ht;have htl:=ht.lt;have B1:Hid (Zi w (w.alloc (.cells #[.pointer (some ⟨11,283,none⟩),.pointer (some ⟨a,0,none⟩),.int .u64 150] 321))):=Yy.alloc YR _;have X1:Hid (St (w.alloc (.cells #[.pointer (some ⟨11,283,none⟩),.pointer (some ⟨a,0,none⟩),.int .u64 150] 321)) w.heap.size [.pointer (some ⟨11,283,none⟩),.pointer (some ⟨a,0,none⟩),.int .u64 150]):=St.new _ _ _;have HA:=ZU ha;clear ha ht
 go_enter Tryz.func228,Tryz.ntmps228
 go_wp2;refine TL 2 ?_;rw [Tp];generalize w.alloc _=w1 at *
 go_wp2_with (go_at_call 298;refine (C5 w1 c _).mono ?_)
 rintro e w3 ⟨rfl,b3⟩;have B3:=ZU (WD B1.out b3);have X3:=X1.out.below b3;have x0:=X3.cl 0 _ rfl;have x1:=X3.cl 1 _ rfl;have x2:=X3.cl 2 _ rfl;have T3:=ZU (HT.out.below B3.out);have el:=Tryz.ka ⟨a,0,none⟩ ⟨t,0,none⟩ w3 ((B3.out.cell (p:=⟨a,0,none⟩) hal).trans HA.out);have A4:Hid (Zi w3 (w3.alloc (.cells #[.int .i64 d] 240))):=Yy.alloc YR _;have T4:=ZU (T3.out.below A4.out);have se:=Tryz.j7 t w3.heap.size d (.int .i64 0) (w3.alloc (.cells #[.int .i64 d] 240)) (by rw [VJ _ _ _ _ (by simp)];rfl) (T4.out.cl 0 _ rfl) (T4.out.fz 0);have Z2:=T3.out.lt;clear b3 X3;go_wp2;rw [Tp];go_wp2;exact ZW (v:=.bool true) (by simp [results,Tryz.results228,go_sem]) rfl ⟨rfl,(T3.out.set 0 _).below (Yy.alloc YR _),(Tw.YZ B3.out t none).set.trans (Tw.YZ (Yy.alloc YR _) t none)⟩
theorem eH (w:World) (et:TypeId) (ex:Value) (t:Nat) (b:Bool) (Q:World→Prop) (hg:w.cell? ⟨5,0,none⟩=some (.iface 345 (.agg #[.pointer (some ⟨11,182,none⟩)]))) (h0:5<w.heap.size)
    (h:∀W,Zi w W→W.cell? ⟨w.heap.size,0,none⟩=some (.pointer (some ⟨t,0,none⟩))→w.heap.size<W.heap.size→Calls Tryz.prog 228 #[.iface et ex,.iface 283 (.pointer (some ⟨t,0,none⟩)),.agg #[.pointer (some ⟨11,283,none⟩),.pointer (some ⟨w.heap.size,0,none⟩),.int .u64 150],.iface 345 (.agg #[.pointer (some ⟨11,240,none⟩)])] W fun e w'=>e=.returned (.bool b)∧Q w') :
    Calls Tryz.prog 199 #[.iface et ex,.iface 283 (.pointer (some ⟨t,0,none⟩))] w fun e w'=>e=.returned (.bool b)∧Q w':=by
 have hx1:=zH;have hx2:=zG;have hx3:=zF;have hx4:=zE;have hx5:=zD;have hx6:=zC;have hx7:=zB;have lS:=zy;have YA:=zw;have Z:=I8;have l:=Tryz.ly;have mE:=Tryz.lx;have mI:=Tryz.lv;have mA:=Tryz.lu;have f1:=Tryz.gC;have f2:=Tryz.gB;have k1:=Tryz.gA;have k2:=Tryz.gz;have e1:=Tryz.gx;have i1:=Tryz.gv;have B1:Hid (Zi w ((w.alloc (.cells #[.pointer (some ⟨t,0,none⟩)] 283)).alloc (.cells #[.pointer (some ⟨11,283,none⟩),.pointer (some ⟨w.heap.size,0,none⟩),.int .u64 150] 321))):=Pl w _ _;have hg2:=(B1.out.cell (p:=⟨5,0,none⟩) h0).trans hg;have hc2:((w.alloc (.cells #[.pointer (some ⟨t,0,none⟩)] 283)).alloc (.cells #[.pointer (some ⟨11,283,none⟩),.pointer (some ⟨w.heap.size,0,none⟩),.int .u64 150] 321)).cell? ⟨w.heap.size,0,none⟩=some (.pointer (some ⟨t,0,none⟩)):=by go_simp
 have n8:=Tryz.gy ⟨w.heap.size,0,none⟩ ⟨t,0,none⟩ ((w.alloc (.cells #[.pointer (some ⟨t,0,none⟩)] 283)).alloc (.cells #[.pointer (some ⟨11,283,none⟩),.pointer (some ⟨w.heap.size,0,none⟩),.int .u64 150] 321)) hc2;have HC:=ZU (h _ B1.out hc2 (by simp;omega));clear h hc2 hg
 go_enter Tryz.func199,Tryz.ntmps199
 go_wp2_with (go_at_call 228;refine HC.out.mono ?_)
 rintro e w5 ⟨rfl,q5⟩;have Q5:=ZU q5;clear q5 HC
 go_wp2_with fail
 exact ZW (v:=.bool b) (by simp [results,Tryz.results199,go_sem]) rfl ⟨rfl,Q5.out⟩
theorem eG (w:World) (et:TypeId) (ex:Value) (t:Nat) (b:Bool) (Q:World→Prop) (hg:w.cell? ⟨5,0,none⟩=some (.iface 345 (.agg #[.pointer (some ⟨11,182,none⟩)]))) (h0:5<w.heap.size)
    (h:∀W,Zi w W→W.cell? ⟨w.heap.size,0,none⟩=some (.pointer (some ⟨t,0,none⟩))→w.heap.size<W.heap.size→Calls Tryz.prog 228 #[.iface et ex,.iface 284 (.pointer (some ⟨t,0,none⟩)),.agg #[.pointer (some ⟨11,284,none⟩),.pointer (some ⟨w.heap.size,0,none⟩),.int .u64 150],.iface 345 (.agg #[.pointer (some ⟨11,281,none⟩)])] W fun e w'=>e=.returned (.bool b)∧Q w') :
    Calls Tryz.prog 199 #[.iface et ex,.iface 284 (.pointer (some ⟨t,0,none⟩))] w fun e w'=>e=.returned (.bool b)∧Q w':=by
 have hx1:=zH;have hx2:=zG;have hx3:=zF;have hx4:=zE;have hx5:=zD;have hx6:=zC;have hx7:=zB;have lS:=zy;have YA:=zw;have Z:=I8;have l:=Tryz.ly;have mE:=Tryz.lx;have mI:=Tryz.lv;have mA:=Tryz.lu;have f1:=Tryz.gm;have f2:=Tryz.gl;have k1:=Tryz.gk;have k2:=Tryz.gj;have e1:=Tryz.gh;have i1:=Tryz.ge;have B1:Hid (Zi w ((w.alloc (.cells #[.pointer (some ⟨t,0,none⟩)] 284)).alloc (.cells #[.pointer (some ⟨11,284,none⟩),.pointer (some ⟨w.heap.size,0,none⟩),.int .u64 150] 321))):=Pl w _ _;have hg2:=(B1.out.cell (p:=⟨5,0,none⟩) h0).trans hg;have hc2:((w.alloc (.cells #[.pointer (some ⟨t,0,none⟩)] 284)).alloc (.cells #[.pointer (some ⟨11,284,none⟩),.pointer (some ⟨w.heap.size,0,none⟩),.int .u64 150] 321)).cell? ⟨w.heap.size,0,none⟩=some (.pointer (some ⟨t,0,none⟩)):=by go_simp
 have n8:=Tryz.gi ⟨w.heap.size,0,none⟩ ⟨t,0,none⟩ ((w.alloc (.cells #[.pointer (some ⟨t,0,none⟩)] 284)).alloc (.cells #[.pointer (some ⟨11,284,none⟩),.pointer (some ⟨w.heap.size,0,none⟩),.int .u64 150] 321)) hc2;have HC:=ZU (h _ B1.out hc2 (by simp;omega));clear h hc2 hg
 go_enter Tryz.func199,Tryz.ntmps199
 go_wp2_with (go_at_call 228;refine HC.out.mono ?_)
 rintro e w5 ⟨rfl,q5⟩;have Q5:=ZU q5;clear q5 HC
 go_wp2_with fail
 exact ZW (v:=.bool b) (by simp [results,Tryz.results199,go_sem]) rfl ⟨rfl,Q5.out⟩
structure iD (w W:World):Prop where
 b:Zi w W
 r:St W w.heap.size [.int .i64 0,.int .i64 0,.slice none 0 0,.int .i64 0,.slice none 0 0]
 y:St W (w.heap.size+1) [.int .i64 0]
 z:St W (w.heap.size+2) [.int .i64 0,.nilIface]
 p:St W (w.heap.size+3) [.int .i64 0,.int .i64 0,.slice none 0 0,.int .i64 0,.slice none 0 0]
theorem iD.new (w:World):iD w ((((w.alloc (.cells #[.int .i64 0,.int .i64 0,.slice none 0 0,.int .i64 0,.slice none 0 0] 194)).alloc (.cells #[.int .i64 0] 240)).alloc (.cells #[.int .i64 0,.nilIface] 281)).alloc (.cells #[.int .i64 0,.int .i64 0,.slice none 0 0,.int .i64 0,.slice none 0 0] 194)):=by
 have e1:(w.alloc (.cells #[.int .i64 0,.int .i64 0,.slice none 0 0,.int .i64 0,.slice none 0 0] 194)).heap.size=w.heap.size+1:=by simp
 have e2:((w.alloc (.cells #[.int .i64 0,.int .i64 0,.slice none 0 0,.int .i64 0,.slice none 0 0] 194)).alloc (.cells #[.int .i64 0] 240)).heap.size=w.heap.size+2:=by simp
 have e3:(((w.alloc (.cells #[.int .i64 0,.int .i64 0,.slice none 0 0,.int .i64 0,.slice none 0 0] 194)).alloc (.cells #[.int .i64 0] 240)).alloc (.cells #[.int .i64 0,.nilIface] 281)).heap.size=w.heap.size+3:=by simp
 have a1:∀(W:World) (o:Obj),Zi W (W.alloc o):=fun W o=>Yy.alloc YR _
 have s0:=St.new w #[.int .i64 0,.int .i64 0,.slice none 0 0,.int .i64 0,.slice none 0 0] 194;have s1:=St.new (w.alloc (.cells #[.int .i64 0,.int .i64 0,.slice none 0 0,.int .i64 0,.slice none 0 0] 194)) #[.int .i64 0] 240;have s2:=St.new ((w.alloc (.cells #[.int .i64 0,.int .i64 0,.slice none 0 0,.int .i64 0,.slice none 0 0] 194)).alloc (.cells #[.int .i64 0] 240)) #[.int .i64 0,.nilIface] 281;have s3:=St.new (((w.alloc (.cells #[.int .i64 0,.int .i64 0,.slice none 0 0,.int .i64 0,.slice none 0 0] 194)).alloc (.cells #[.int .i64 0] 240)).alloc (.cells #[.int .i64 0,.nilIface] 281)) #[.int .i64 0,.int .i64 0,.slice none 0 0,.int .i64 0,.slice none 0 0] 194;rw [e1] at s1;rw [e2] at s2;rw [e3] at s3;exact ⟨nr w _ _ _ _,((s0.below (a1 _ _)).below (a1 _ _)).below (a1 _ _),(s1.below (a1 _ _)).below (a1 _ _),s2.below (a1 _ _),s3⟩
theorem zv (w:World) (c:Int) (hg:w.cell? ⟨5,0,none⟩=some (.iface 345 (.agg #[.pointer (some ⟨11,182,none⟩)]))) (h0:5<w.heap.size) :
    Calls Tryz.prog 165 #[.iface 240 (.agg #[.int .i64 c])] w (Wj w (.agg #[.int .i64 c,.int .i64 0,.slice none 0 0,.int .i64 0,.slice none 0 0])):=by
 have R4:=ZU (iD.new w);have HG:=ZU hg;clear hg
 go_enter Tryz.func165,Tryz.ntmps165
 go_wp2_with fail
 generalize ((((w.alloc _).alloc _).alloc _).alloc _)=w4 at *;have pS:=(R4.out.b.cell (p:=⟨5,0,none⟩) h0).trans HG.out;refine (eH w4 _ _ (w.heap.size+1) true (fun w'=>St w' (w.heap.size+1) [.int .i64 c]∧Tw w4 (w.heap.size+1) none w' none) pS (by have:=R4.out.b.size;omega) (fun W hW hc hl=>?_)).mono ?_
 · refine (j6 W c (w.heap.size+1) w4.heap.size _ hc hl (R4.out.y.below hW)).mono ?_
   rintro e w' ⟨rfl,s9,t9⟩;exact ⟨rfl,s9,(Tw.YZ hW _ none).trans t9⟩
 clear pS;rintro e w5 ⟨rfl,y5,t5⟩;have Y5:=ZU y5;have B5:=ZU (R4.out.b.trans (t5.below R4.out.b.size (by omega) (fun g h=>by cases h)));have M:=ZU (t5.st R4.out.p (by omega) (by simp));have Z5:=ZU (t5.st R4.out.z (by omega) (by simp));have R5:=ZU (t5.st R4.out.r (by omega) (by simp));clear y5 t5 R4;have y0:=Y5.out.cl 0 _ rfl;have p0:=M.out.cl 0 _ rfl;have pf:=M.out.fz 0;have P6:=ZU (M.out.set 0 (.int .i64 c));have Z6:=ZU (Z5.out.other (c:=w.heap.size+3) (j:=0) (x:=.int .i64 c) (by omega));have R6:=ZU (R5.out.other (c:=w.heap.size+3) (j:=0) (x:=.int .i64 c) (by omega));have B6:Hid (Zi w (w5.setCell ⟨w.heap.size+3,0,none⟩ (.int .i64 c))):=Below.setCell B5.out (by simp) _
 go_wp2_with fail
 clear y0 p0 pf M Z5 R5 B5 Y5;generalize w5.setCell _ _=w6 at *;have V:=(B6.out.cell (p:=⟨5,0,none⟩) h0).trans HG.out;refine (eG w6 _ _ (w.heap.size+2) false (fun w'=>Zi w6 w') V (by have:=B6.out.size;omega) (fun W hW hc hl=>?_)).mono ?_
 · refine (j0 W c w6.heap.size _).mono ?_
   rintro e w' ⟨rfl,b9⟩;exact ⟨rfl,WD hW b9⟩
 clear V;rintro e w7 ⟨rfl,b7⟩;have B7:=ZU (WD B6.out b7);have P7:=P6.out.below b7;have R7:=R6.out.below b7;have p0:=P7.cl 0 _ rfl;have p1:=P7.cl 1 _ rfl;have p2:=P7.cl 2 _ rfl;have p3:=P7.cl 3 _ rfl;have p4:=P7.cl 4 _ rfl;have q1:=P7.fz 1;have r0:=R7.cl 0 _ rfl;have r1:=R7.cl 1 _ rfl;have r2:=R7.cl 2 _ rfl;have r3:=R7.cl 3 _ rfl;have r4:=R7.cl 4 _ rfl;have g0:=R7.fz 0;have g1:=R7.fz 1;have g2:=R7.fz 2;have g3:=R7.fz 3;have g4:=R7.fz 4;clear P6 Z6 R6 B6
 go_wp2_with fail
 refine ZW (v:=.agg #[.int .i64 c,.int .i64 0,.slice none 0 0,.int .i64 0,.slice none 0 0]) (by simp [results,Tryz.results165,go_sem,p0,p1,p2,p3,p4,r0,r1,r2,r3,r4]) rfl ⟨rfl,?_⟩
 repeat (first | exact B7.out | refine Below.setCell ?_ (by simp;try omega) _)
theorem zu (w:World) (j c:Int) (hg:w.cell? ⟨5,0,none⟩=some (.iface 345 (.agg #[.pointer (some ⟨11,182,none⟩)]))) (h0:5<w.heap.size) :
    Calls Tryz.prog 165 #[.iface 281 (.agg #[.int .i64 j,.iface 240 (.agg #[.int .i64 c])])] w (Wj w (.agg #[.int .i64 c,.int .i64 j,.slice none 0 0,.int .i64 0,.slice none 0 0])):=by
 have R4:=ZU (iD.new w);have HG:=ZU hg;clear hg
 go_enter Tryz.func165,Tryz.ntmps165
 go_wp2_with fail
 generalize ((((w.alloc _).alloc _).alloc _).alloc _)=w4 at *;have pS:=(R4.out.b.cell (p:=⟨5,0,none⟩) h0).trans HG.out;refine (eH w4 _ _ (w.heap.size+1) true (fun w'=>St w' (w.heap.size+1) [.int .i64 c]∧Tw w4 (w.heap.size+1) none w' none) pS (by have:=R4.out.b.size;omega) (fun W hW hc hl=>?_)).mono ?_
 · refine (jZ W j c (w.heap.size+1) w4.heap.size _ hc hl (R4.out.y.below hW)).mono ?_
   rintro e w' ⟨rfl,s9,t9⟩;exact ⟨rfl,s9,(Tw.YZ hW _ none).trans t9⟩
 clear pS;rintro e w5 ⟨rfl,y5,t5⟩;have Y5:=ZU y5;have B5:=ZU (R4.out.b.trans (t5.below R4.out.b.size (by omega) (fun g h=>by cases h)));have M:=ZU (t5.st R4.out.p (by omega) (by simp));have Z5:=ZU (t5.st R4.out.z (by omega) (by simp));have R5:=ZU (t5.st R4.out.r (by omega) (by simp));clear y5 t5 R4;have y0:=Y5.out.cl 0 _ rfl;have p0:=M.out.cl 0 _ rfl;have pf:=M.out.fz 0;have P6:=ZU (M.out.set 0 (.int .i64 c));have Z6:=ZU (Z5.out.other (c:=w.heap.size+3) (j:=0) (x:=.int .i64 c) (by omega));have R6:=ZU (R5.out.other (c:=w.heap.size+3) (j:=0) (x:=.int .i64 c) (by omega));have B6:Hid (Zi w (w5.setCell ⟨w.heap.size+3,0,none⟩ (.int .i64 c))):=Below.setCell B5.out (by simp) _
 go_wp2_with fail
 clear y0 p0 pf M Z5 R5 B5 Y5;generalize w5.setCell _ _=w6 at *;have V:=(B6.out.cell (p:=⟨5,0,none⟩) h0).trans HG.out;refine (eG w6 _ _ (w.heap.size+2) true (fun w'=>St w' (w.heap.size+2) [.int .i64 j,.iface 240 (.agg #[.int .i64 c])]∧Tw w6 (w.heap.size+2) none w' none) V (by have:=B6.out.size;omega) (fun W hW hc hl=>?_)).mono ?_
 · refine (j5 W j c (w.heap.size+2) w6.heap.size _ hc hl (Z6.out.below hW)).mono ?_
   rintro e w' ⟨rfl,s9,t9⟩;exact ⟨rfl,s9,(Tw.YZ hW _ none).trans t9⟩
 clear V;rintro e w7 ⟨rfl,z7,t7⟩;have B7:=ZU (B6.out.trans (t7.below B6.out.size (by omega) (fun g h=>by cases h)));have P7:=t7.st P6.out (by omega) (by simp);have R7:=t7.st R6.out (by omega) (by simp);have z0:=z7.cl 0 _ rfl;have p0:=P7.cl 0 _ rfl;have p1:=P7.cl 1 _ rfl;have p2:=P7.cl 2 _ rfl;have p3:=P7.cl 3 _ rfl;have p4:=P7.cl 4 _ rfl;have q1:=P7.fz 1;have r0:=R7.cl 0 _ rfl;have r1:=R7.cl 1 _ rfl;have r2:=R7.cl 2 _ rfl;have r3:=R7.cl 3 _ rfl;have r4:=R7.cl 4 _ rfl;have g0:=R7.fz 0;have g1:=R7.fz 1;have g2:=R7.fz 2;have g3:=R7.fz 3;have g4:=R7.fz 4;clear P6 Z6 R6 B6
 go_wp2_with fail
 refine ZW (v:=.agg #[.int .i64 c,.int .i64 j,.slice none 0 0,.int .i64 0,.slice none 0 0]) (by simp [results,Tryz.results165,go_sem,p0,p1,p2,p3,p4,r0,r1,r2,r3,r4]) rfl ⟨rfl,?_⟩
 repeat (first | exact B7.out | refine Below.setCell ?_ (by simp;try omega) _)
end
section
open Go.RowKit Go.Shelf
theorem SK.zp {w:World} {ao:Option Addr} {c:Nat} {R:List Nd} (h:SK w (.slice ao R.length c) R):∀ad,ao=some ad→∀j u,(YE R)[j]?=some u→w.cell? (ad.add j)=some u:=by
 obtain ⟨a',c',e,-,-,h3⟩:=h
 simp only [ZC] at e
 obtain ⟨rfl,-,-⟩:=e;intro ad had j u hu;have hj:=(Zh.1 hu).1;rw [Xw] at hj
 rcases h3 with rfl | ⟨b,off,rfl,hb,hc⟩
 · simp at hj
 obtain rfl:=Zc had;have hi:j / 7<R.length:=by omega
 have hm:j % 7<7:=Wg _ (by omega);rw [show j=j / 7*7+j % 7 by omega,NA R (j / 7) (j % 7) hi hm] at hu;obtain ⟨k0,k1,k2,k3,k4,k5,k6⟩:=hc (j / 7) hi;rw [YY,show off+j=off+j / 7*7+j % 7 by omega];generalize j % 7=m at *
 match m,hm with
 | 0,_=>exact k0.trans hu
 | 1,_=>exact k1.trans hu
 | 2,_=>exact k2.trans hu
 | 3,_=>exact k3.trans hu
 | 4,_=>exact k4.trans hu
 | 5,_=>exact k5.trans hu
 | 6,_=>exact k6.trans hu
theorem rk (w:World) (ao:Option Addr) (cap:Nat) (ns:List Nd) (h:SK w (.slice ao ns.length cap) ns) (hn:ns.length≤1000) :
    Calls Tryz.prog 166 #[.slice ao ns.length cap] w fun e w'=>∃v',e=.returned v'∧XU 147 w' w.heap.size v' ns∧Zi w w':=by
 obtain ⟨i0,hi,hz0,hz1,hz2⟩:=YM Tryz.Mi;have q22:∀(w:World) (a:Option Addr) (n c n' c':Nat),(binOp .eql 61 (.slice a n c) (.slice none n' c')).run Tryz.prog w=.ok (.bool a.isNone) w:=fun w a n c n' c'=>U7 w _ _ a n c n' c' Tryz.underlying61
 have HE:Hid ((w.alloc (.cells #[] 147)).ownsRow w.heap.size 147 7 (.slice (some ⟨w.heap.size,0,none⟩) 0 0) 0 []):=WX w #[] 0 YR (Zu _) rfl;have HB:Hid (Zi w (w.alloc (.cells #[] 147))):=Yy.alloc YR _;have HR:=ZU h
 cases ao with
 | none =>
  have hx:ns=[]:=by
   obtain ⟨a',c',e,-,-,h3⟩:=h
   simp only [ZC] at e
   rcases h3 with h3 | ⟨b,o,e2,_⟩
   · exact h3
   rw [←e.1] at e2;cases e2
  subst hx;clear h HR
  go_enter Tryz.func166,Tryz.ntmps166
  go_wp2;go_ret;exact ⟨_,rfl,ZH _ _ _ _,Yy⟩
 | some a =>
  have lf:Hid (∀j u,(YE ns)[j]?=some u→(w.alloc (.cells #[] 147)).cell? (a.add j)=some u):=fun j u hu=>(HR.out.below HB.out).zp a rfl j u hu
  clear h;generalize hl:ns.length=m at *;have HL:=ZU hl;clear hl
  go_enter Tryz.func166,Tryz.ntmps166
  go_wp2_with (at_builtin;go_must (refine Yn _ rfl _ _ 61 rfl w.heap.size 147 i0 _ 7 72 Tryz.underlying61 hi hz0 hz1 hz2 rfl (by decide) _ _ _ rfl HE.out a m cap (YE ns) rfl ?c0 lf.out (OU _) ?c3 ?c4 ?c5 ?_))
  case c0=>rw [Xw,HL.out]
  case c3=>unfold maxLen;omega
  case c4=>omega
  case c5=>simp
  intro v2 w2 ho2 hg2 _;have DR:Hid (XU 147 w2 w.heap.size v2 ns):=by
   show World.ownsRow _ _ _ _ _ _ _;rw [HL.out];exact ho2
  have HG2:=ZU (HB.out.grown hg2 (by simp) (by intro q hq;simp [Value.ownBlock] at hq;omega));clear ho2 hg2;go_wp2;go_ret;exact ⟨_,rfl,DR.out,HG2.out⟩
theorem Fc (w:World) (z:Int):Calls Tryz.prog 164 #[.int .i64 z] w fun e w'=>e=.returned (.bool (decide (1≤z) && decide (z≤2147483647)))∧w'=w:=by
 obtain ⟨r,hr⟩:∃r,r=(decide (1≤z) && decide (z≤2147483647)):=⟨_,rfl⟩;rw [←hr]
 by_cases h1:1≤z
 · by_cases h2:z≤2147483647
   · rw [Zm h1,Zm h2] at hr
     have HR:=ZU hr;clear hr
     go_enter Tryz.func164,Tryz.ntmps164
     go_wp2;go_ret;exact ⟨by rw [HR.out];rfl,rfl⟩
   rw [Zm h1,Zo h2] at hr;have HR:=ZU hr;clear hr
   go_enter Tryz.func164,Tryz.ntmps164
   go_wp2;go_ret;exact ⟨by rw [HR.out];rfl,rfl⟩
 rw [Zo h1] at hr;have HR:=ZU hr;clear hr
 go_enter Tryz.func164,Tryz.ntmps164
 go_wp2;go_ret;exact ⟨by rw [HR.out];rfl,rfl⟩
theorem Ra {w W:World} {nm:String} {k:IntKind} {zs:List Int} (h:Lib.TabIs Tryz.prog w nm k zs) (hb:Zi w W):Lib.TabIs Tryz.prog W nm k zs:=by
 unfold Lib.TabIs World.var? at *
 cases hg:Tryz.prog.globalNamed nm with
 | none=>rw [hg] at h;cases h
 | some g =>
  rw [hg] at h
  simp only [Option.bind_some] at h ⊢
  by_cases hl:g<w.heap.size
  · rw [hb.block g hl];exact h
  rw [Ts (by omega)] at h;cases h
theorem Hn (w:World) (v vo:Value) (ns:List Nd) (os:List TO) (z:Int) (h:SK w v ns) (ho:JR w vo os) (hsz:∀i,(Ye ns i).path.size≤1048576∧(Ye ns i).data.size≤1048576) (hb:RY ns os z=false)
    (hg:w.cell? ⟨5,0,none⟩=some (.iface 345 (.agg #[.pointer (some ⟨11,182,none⟩)]))) (h0:5<w.heap.size) :
    Calls Tryz.prog 125 #[.agg #[v],.agg #[vo],.int .i64 z] w (Wj w (.agg #[.int .i64 9,.int .i64 0,.slice none 0 0,.int .i64 0,.slice none 0 0])):=by
 obtain ⟨ao,ca,rfl,_,_⟩:=h.len;obtain ⟨bo,cb,rfl,_,_⟩:=ho.len;have HR:=ZU h;have LW:=ZU hsz;have HG:=ZU hg;have HBAD:=ZU hb;have X0:Hid (zL w (.slice ao ns.length ca) (.slice bo os.length cb) (((w.alloc (.cells #[.slice ao ns.length ca] 63)).alloc (.cells #[.slice bo os.length cb] 41)).alloc (.cells #[.int .i64 0,.int .i64 0,.slice none 0 0,.int .i64 0,.slice none 0 0] 194))):=zL.new _ _ _ _ _ _;clear h ho hsz hb hg
 go_enter Tryz.func125,Tryz.ntmps125
 go_wp2_with fail
 generalize ((w.alloc _).alloc _).alloc _=w0 at *;refine (UL _ _ ns (HR.out.below X0.out.1) LW.out).mono ?_;rintro e w1 ⟨rfl,b1⟩;have X1:=ZU (X0.out.below b1);clear b1 X0;obtain ⟨-,zz,a0,a1,-⟩:=X1.out;have lr:=ZU (zv w1 9 ((X1.out.1.cell (p:=⟨5,0,none⟩) h0).trans HG.out) (by omega));have rV:Hid (∀W,Calls Tryz.prog 164 #[.int .i64 z] W fun e w'=>e=.returned (.bool (decide (1≤z) && decide (z≤2147483647)))∧w'=W):=fun W=>Fc W z
 have hB:=HBAD.out;unfold RY at hB;clear HBAD
 cases ht:WE ns with
 | false =>
  clear hB
  go_wp2_with (first | (go_at_call 164;refine (rV.out _).mono ?_;rintro e w' ⟨rfl,rfl⟩) | (go_at_call 165;refine lr.out.mono ?_))
  rintro e w2 ⟨rfl,b2⟩;have X2:=ZU (X1.out.below b2);clear b2;obtain ⟨-,zz,-,-,⟨d0,d1,d2,d3,d4⟩,df⟩:=X2.out;have f0:=df 0;have f1:=df 1;have f2:=df 2;have f3:=df 3;have f4:=df 4;clear df
  go_wp2_with fail
  refine ZW (v:=.agg #[.int .i64 9,.int .i64 0,.slice none 0 0,.int .i64 0,.slice none 0 0]) (by simp [results,Tryz.results125,go_sem,d0,d1,d2,d3,d4]) rfl ⟨rfl,X2.out.1.trans ?_⟩
  repeat (first | exact Yy | refine Below.setCell ?_ (by simp;try omega) _)
 | true =>
  rw [ht,Xz] at hB;clear ht
  by_cases h1:1≤os.length
  · rw [Zm h1,Xz] at hB
    have xF:¬(os.length:Int)<1:=by omega
    by_cases h2:os.length≤64
    · rw [Zm h2,Xz] at hB
      have lq:¬(64:Int)<(os.length:Int):=by omega
      rw [hB] at rV;clear hB
      go_wp2_with (first | (go_at_call 164;refine (rV.out _).mono ?_;rintro e w' ⟨rfl,rfl⟩) | (go_at_call 165;refine lr.out.mono ?_))
      rintro e w2 ⟨rfl,b2⟩;have X2:=ZU (X1.out.below b2);clear b2;obtain ⟨-,zz,-,-,⟨d0,d1,d2,d3,d4⟩,df⟩:=X2.out;have f0:=df 0;have f1:=df 1;have f2:=df 2;have f3:=df 3;have f4:=df 4;clear df
      go_wp2_with fail
      refine ZW (v:=.agg #[.int .i64 9,.int .i64 0,.slice none 0 0,.int .i64 0,.slice none 0 0]) (by simp [results,Tryz.results125,go_sem,d0,d1,d2,d3,d4]) rfl ⟨rfl,X2.out.1.trans ?_⟩
      repeat (first | exact Yy | refine Below.setCell ?_ (by simp;try omega) _)
    have lq:(64:Int)<(os.length:Int):=by omega
    clear hB
    go_wp2_with (first | (go_at_call 164;refine (rV.out _).mono ?_;rintro e w' ⟨rfl,rfl⟩) | (go_at_call 165;refine lr.out.mono ?_))
    rintro e w2 ⟨rfl,b2⟩;have X2:=ZU (X1.out.below b2);clear b2;obtain ⟨-,zz,-,-,⟨d0,d1,d2,d3,d4⟩,df⟩:=X2.out;have f0:=df 0;have f1:=df 1;have f2:=df 2;have f3:=df 3;have f4:=df 4;clear df
    go_wp2_with fail
    refine ZW (v:=.agg #[.int .i64 9,.int .i64 0,.slice none 0 0,.int .i64 0,.slice none 0 0]) (by simp [results,Tryz.results125,go_sem,d0,d1,d2,d3,d4]) rfl ⟨rfl,X2.out.1.trans ?_⟩
    repeat (first | exact Yy | refine Below.setCell ?_ (by simp;try omega) _)
  have xF:(os.length:Int)<1:=by omega
  clear hB
  go_wp2_with (first | (go_at_call 164;refine (rV.out _).mono ?_;rintro e w' ⟨rfl,rfl⟩) | (go_at_call 165;refine lr.out.mono ?_))
  rintro e w2 ⟨rfl,b2⟩;have X2:=ZU (X1.out.below b2);clear b2;obtain ⟨-,zz,-,-,⟨d0,d1,d2,d3,d4⟩,df⟩:=X2.out;have f0:=df 0;have f1:=df 1;have f2:=df 2;have f3:=df 3;have f4:=df 4;clear df
  go_wp2_with fail
  refine ZW (v:=.agg #[.int .i64 9,.int .i64 0,.slice none 0 0,.int .i64 0,.slice none 0 0]) (by simp [results,Tryz.results125,go_sem,d0,d1,d2,d3,d4]) rfl ⟨rfl,X2.out.1.trans ?_⟩
  repeat (first | exact Yy | refine Below.setCell ?_ (by simp;try omega) _)
theorem Ul.rd {w:World} {base:Nat} {v:Value} {xs:List Int} (h:Ul w base v xs):Rd .u8 w v xs:=by
 obtain ⟨g,cap,rfl,h2,h3,h4,h5,h6,h7⟩:=h;refine ⟨_,cap,rfl,h4,h5,.inr ⟨g,0,rfl,h3,fun i hi=>?_⟩⟩;refine h6 i _ ?_;rw [Yo,ZF hi]
 simp [List.getD,hi]
theorem np (w:World) (s:ByteArray) (hs:s.size≤1000) :
    ∃v W,(convert 9 22 (.string s)).run Tryz.prog w=.ok v W∧Zi w W∧Ul W w.heap.size v (U0 s):=by
 have hr:=Lib.run_convert_string_bytes (P:=Tryz.prog) w 9 22 5 s Tryz.underlying9 Tryz.underlying22 Tryz.underlying5;have hge:=Tq w s.size 0 5;have hle:=We w s.size 0 5 (by unfold maxLen;omega);have hsz:=Lib.bytesWorld_size w 5 s;have hn:=Lib.bytesWorld_at_new w 5 s;have hq:(Lib.bytesCells w 5 s).size=grownCap w s.size 0 5:=by
  unfold Lib.bytesCells;rw [TJ,Array.size_map,Wz];have:s.data.size=s.size:=rfl;omega
 refine ⟨_,_,hr,⟨rfl,rfl,rfl,by omega,fun k hk=>Lib.bytesWorld_at_old w _ _ k hk⟩,w.heap.size,_,by rw [Wq],YR,by omega,by rw [Wq];exact hge,hle,?_,?_⟩
 · intro j u hj
   have hlt:j<s.size:=by
    have:=(Zh.1 hj).1;rw [Zl,Wq] at this;exact this
   rw [Za,Lib.bytesWorld_cell w 5 s j hlt,←hj];unfold U0;have h2:j<s.data.toList.length:=by rw [YJ];exact hlt
   rw [Yo,Yo,ZF h2]
   simp [List.getD,Xj (show j<s.data.size from hlt)]
 intro j hj;rw [Za,Yz _ w.heap.size j _ _ _ hn];refine ⟨by rw [Xj (by omega)];rfl,?_⟩
 simp [World.frozen?,hn]
 omega
def VS (s:ByteArray) (zs:List Nat):List Int:=U0 s++zs.flatMap fun z=>32 :: QC z
theorem jY {u:Nat} (h:u<1000000):Lib.nDigits u≤20:=by
 rcases Nat.eq_zero_or_pos u with rfl | h0
 · rw [Lib.nDigits_small (by omega)];omega
 have:=Lib.numDigits_eq u (by omega) (by omega);split at this <;> omega
theorem Fb (zs:List Nat) (hz:∀z ∈ zs,z<1000000):(zs.flatMap fun z=>32 :: QC z).length≤21*zs.length:=by
 induction zs with
 | nil=>simp
 | cons z zs ih =>
  rw [WY,ZZ,ZE,KC,ZE];have:=ih (fun z hz'=>hz z (by simp [hz']));have:=jY (hz z (by simp));omega
theorem Fa (w : World) (s : ByteArray) (v : Value) (zs : List Nat) (h : Rd .i64 w v (zs.map fun z : Nat => (z : Int))) (hs : s.size ≤ 1000) (hn : zs.length ≤ 1000) (hz : ∀ z ∈ zs, z < 1000000) (htab : Lib.TabIs Tryz.prog w "internal/strconv.uint64pow10" .u64 Lib.pow10Tab) :
    Calls Tryz.prog 71 #[.string s,v] w (Wj w (.string (strOfNums (VS s zs)))):=by
 obtain ⟨v5,w1,hr,hb1,ho1⟩:=np w s hs;obtain ⟨ao,cp,rfl,hl1,hl2,hl3⟩:=h;rw [Zl] at hl1 hl3 ⊢;have HL:=ZU hl3;have HT:=ZU htab;have HZ:=ZU hz;have O1:=ZU ho1;have B1:=ZU hb1;clear hl3 htab hz hb1 ho1
 go_enter Tryz.func71,Tryz.ntmps71
 go_wp2_with fail
 clear hr
 go_loopw [5,12] (fun v5 v12 wr=>∃i:Nat,v12=.int .i64 (i:Int)∧i≤zs.length∧Hid (Ul wr w.heap.size v5 (VS s (zs.take i)))∧Hid (Zi w wr)) (fun _ v _=>((zs.length:Int) - intOf v).toNat)
 case atStart=>exact ⟨0,rfl,Zu _,by show Ul _ _ _ _;unfold VS;rw [WI,UU,YD];exact O1.out,B1⟩
 case round =>
  obtain ⟨i,rfl,hi,OH,BH⟩:=hrel
  by_cases hc:i<zs.length
  · have hlen:(VS s (zs.take i)).length≤1000+21*1000:=by
     unfold VS;rw [ZZ,Wq];have:=Fb (zs.take i) (fun z hz=>HZ.out z (Xa hz));have:(zs.take i).length≤zs.length:=by rw [Zw];omega
     omega
    have E:Hid (VS s (zs.take (i+1))=VS s (zs.take i)++U0 ⟨#[32]⟩++QC zs[i]):=by
     show _=_;unfold VS;rw [YW hc,XZ,WY,UU,YD]
     simp [U0]
    have hzi:=HZ.out zs[i] (YP hc);obtain ⟨b,off,rfl,hb,hcl⟩:=HL.out.resolve_left (fun e=>by rw [List.map_eq_nil_iff] at e;rw [e] at hc;simp at hc);have hci:wr.cell? ⟨b,off+i,none⟩=some (.int .i64 (zs[i]:Int)):=by
     rw [BH.out.cell (p:=⟨b,off+i,none⟩) hb,hcl i hc]
     simp [List.getD,hc]
    clear hcl;have sB:=BH.out.size;generalize zs[i]=z at *
    go_wp2_with (at_builtin;go_must (refine Rr rfl _ _ rfl w.heap.size _ (VS s (zs.take i)) ⟨#[32]⟩ rfl rfl OH.out sB (ZJ (Nat.add_le_add_right hlen 1) (by decide)) ?_))
    intro v2 w2 o2 g2;have O2:=ZU o2;have B2:=ZU (BH.out.grown g2 sB OH.out.lt);have s2:=B2.out.size;have HI:=ZU (Do w2 w.heap.size v2 _ z hzi O2.out s2 (by rw [ZZ];exact ZJ (Nat.add_le_add_right hlen 1) (by decide)) (Ra HT.out B2.out));clear o2 g2 OH BH sB
    go_wp2_with fail
    refine HI.out.mono ?_;rintro e w3 ⟨v3,rfl,o3,b3⟩;have O3:=ZU o3;have B3:=ZU (B2.out.trans b3);clear o3 b3 HI O2 B2
    go_wp2_with fail
    refine ⟨⟨i+1,by go_num,by omega,?_,B3⟩,by simp [intOf];omega⟩;show Ul _ _ _ _;rw [E.out];exact O3.out
  have hie:i=zs.length:=by omega
  subst hie;rw [Xp] at OH;have hcv:=To OH.out.rd;go_wp2;go_ret;exact ⟨rfl,BH.out⟩
end
section
open Go.RowKit Go.Conc
theorem vH {w:World} {v:Value} {ns:List Nd} {g:Nat} (h:SK w v ns) (hn:ns≠[]) (hb:w.heap[g]?=some (.cells #[.int .i64 0,.slice none 0 0] 132 (0,0))):∀q,v.ownBlock=some q→q≠g:=by
 obtain ⟨ao,cp,rfl,h1,h2,h3⟩:=h;obtain ⟨b,off,rfl,hlt,hcl⟩:=h3.resolve_left hn;rintro q hq rfl
 simp only [Value.ownBlock,ZK] at hq
 subst hq;have c0:=(hcl 0 (List.length_pos_iff.2 hn)).c0;rw [cell_of hb] at c0
 simp only [Xg,Yj] at c0
 match off,c0 with
 | 0,c0=>simp at c0
 | 1,c0=>simp at c0
 | k+2,c0=>simp at c0
theorem jX {w:World} {v:Value} {xs:List Int} {g:Nat} (h:Rd .u8 w v xs) (hn:0<xs.length) (hb:w.heap[g]?=some (.cells #[.int .i64 0,.slice none 0 0] 132 (0,0))):∀q,v.ownBlock=some q→q≠g:=by
 obtain ⟨ao,cp,rfl,h1,h2,h3⟩:=h;obtain ⟨b,off,rfl,hlt,hcl⟩:=h3.resolve_left (fun e=>by rw [e] at hn;simp at hn);rintro q hq rfl
 simp only [Value.ownBlock,ZK] at hq
 subst hq;have c0:=hcl 0 hn;rw [cell_of hb] at c0
 simp only [Yj] at c0
 match off,c0 with
 | 0,c0=>simp at c0
 | 1,c0=>simp at c0
 | k+2,c0=>simp at c0
theorem I4 {w w':World} {v:Value} {ns:List Nd} (h:SK w v ns) (hs:w.heap.size≤w'.heap.size) (hb:ns≠[]→∀q,v.ownBlock=some q→q<w.heap.size→w'.heap[q]?=w.heap[q]?):SK w' v ns:=by
 by_cases e:ns=[]
 · obtain ⟨ao,cp,rfl,h1,h2,h3⟩:=h
   exact ⟨ao,cp,rfl,h1,h2,.inl e⟩
 exact VM h hs (hb e)
theorem Sv.pq {κ:Sc} {σ:Sx} {w:World} (h:Sv κ σ w):∃v0,Pp κ v0∧Ph σ.pw w κ.sB (.pointer (some ⟨κ.mB,0,none⟩)) κ.S κ.L v0 σ.k w:=by
 obtain ⟨vd,made,YN,a1,a2,a3,a4,a5⟩:=h.dk;refine ⟨vd,a5,vd,nP σ.pw,made,YN,[],fun _=>.slice none 0 0,a1,?_,a3,Zu _,fun i=>by simp [pD],a4,?_,.inl rfl,Gr.refl _,a1.lt⟩
 · cases hp:σ.pw with
   | none=>exact Je a2
   | some g =>
    obtain ⟨q1,q2,q3,q4,q5,q6⟩:=h.pw g hp;have hr:w.ownsRow (κ.sB+1) 132 2 (.slice (some ⟨g,0,none⟩) 0 1) 0 []:=⟨rfl,.inr ⟨g,1,_,rfl,q2,q1,Zu _,by decide,rfl,rfl⟩⟩;refine ⟨a2,⟨hr,fun i hi=>by simp at hi,fun i j hi=>by simp at hi,fun i hi=>by simp at hi⟩,fun q hq=>(ZT a2 q hq).2,fun q hq=>?_,fun i hi=>by simp at hi,?_,fun i hi=>by simp at hi⟩
    · exact (ZT hr q hq).2
    refine .inr (fun e=>?_)
    rcases a2.2 with ⟨rfl,-⟩ | ⟨g9,cap,cur,rfl,-,nQ,-⟩
    · simp [nP,Value.ownBlock] at e
    simp only [nP,Value.ownBlock,ZK] at e
    subst e;rw [nQ] at q1
    injection q1 with q1
    injection q1 with _ h2
    exact absurd h2 (by decide)
 intro g hg
 cases hp:σ.pw with
 | none=>rw [hp] at hg;simp [nP,Value.ownBlock] at hg
 | some g9=>rw [hp] at hg;simp only [nP,Value.ownBlock,ZK] at hg;exact .inr (by rw [hg])
theorem Sv.ended {κ:Sc} {σ:Sx} {w w':World} {v0:Value} {k:Nat} (h:Sv κ σ w) (hv:Pp κ v0) (hp:Pq σ.pw w κ.sB (.pointer (some ⟨κ.mB,0,none⟩)) κ.S κ.L v0 k w') (hsp:σ.pw=none∨σ.sn=none):Sv κ { σ with k:=k,pw:=none } w'∧Gw κ w w':=by
 obtain ⟨vd,made,YN,h1,h2,h3,h4,h5,h6,h7⟩:=hp;obtain ⟨vt,vq,cp,b1,b2,b3,b4,b5,b6,b7,b8⟩:=h.mm;obtain ⟨Lv,s,r,c1,c2,c3⟩:=h.ch;have hne:=h.ne;have hs:=h6.size;have hbl:∀q,q<w.heap.size→q≠κ.sB→(∀g,σ.pw=some g→q≠g)→w'.heap[q]?=w.heap[q]?:=fun q hq hn hg=>h6.block q hq hn (fun e=>hg q e.symm rfl)
 have hlb:κ.lb<w.heap.size:=(b7.lt κ.lb rfl).2;have hcb:κ.c<w.heap.size:=(Z3.mp c1).1;have hmb:=b1.lt;refine ⟨⟨hne,fun x hx=>⟨ZY (h.fx x hx).1 hs,(h.fx x hx).2⟩,⟨vd,made,YN,h1,h2,h3,h4,?_⟩,⟨vt,vq,cp,Wo b1 hs (hbl _ b1.lt hne.1.symm (fun g hg=>Ne.symm (h.pw g hg).2.2.1)),I4 b2 hs (fun e q hq hl=>hbl q hl (b5 q hq).1 (fun g hg=>vH b2 e (h.pw g hg).1 q hq)),I4 b3 hs (fun e q hq hl=>hbl q hl (b6 q hq).1 (fun g hg=>vH b3 e (h.pw g hg).1 q hq)),b4,b5,b6,?_,b8⟩,⟨Lv,s,r,(hbl _ hcb hne.2.1.symm (fun g hg=>Ne.symm (h.pw g hg).2.2.2.1)).trans c1,⟨c2.1,fun i hi=>⟨Ri (c2.2 i hi).1 hs (fun q hq hl=>hbl q hl (c3 i hi q hq).1 (fun g hg=>jX (c2.2 i hi).1 (c2.2 i hi).2 (h.pw g hg).1 q hq)),(c2.2 i hi).2⟩⟩,c3⟩,fun p hp=>?_,nO.none⟩,⟨h6.os,h6.tape,h6.output,hs,fun q hq a _ _ _ _ e=>hbl q hq a (fun g hg e9=>e (by rw [e9];exact (h.pw g hg).2.1) (by rw [e9,cell_of (h.pw g hg).1];rfl))⟩⟩
 · rcases h5 with rfl | h5
   · exact hv
   intro q hq;have:=h5 q hq;have h8:=MH h2 q hq;refine ⟨by omega,by omega,by omega,by omega,fun hx=>?_⟩;have:=(h.fx q hx).1;omega
 · obtain ⟨g9,lo,fP,pre,e1,e2,e3⟩:=b7
   refine ⟨g9,lo,fP,pre,e1,e2,e3.1,e3.2.imp id ?_⟩;rintro ⟨q,cap,cur,e4,e5,e6,e7⟩;have hq:q=κ.lb:=by
    simp only [ZC,ZK,Ym] at e4 e1
    omega
   refine ⟨q,cap,cur,e4,e5,(hbl q (Z3.mp e6).1 (by rw [hq];exact hne.2.2.1.symm) (fun g hg=>by rw [hq];exact Ne.symm (h.pw g hg).2.2.2.2.1)).trans e6,e7⟩
 obtain ⟨p1,p2⟩:=h.sn p hp;refine ⟨p1.same (hbl _ p1.lt (Q2 p2.1) (fun g hg=>?_)),p2⟩
 rcases hsp with e | e
 · rw [e] at hg;cases hg
 rw [show σ.sn=some p from hp] at e;cases e
def iC (κ : Sc) (w : World) : Prop := ∀ W, Gw κ w W → Lib.TabIs Tryz.prog W "internal/strconv.uint64pow10" .u64 Lib.pow10Tab
theorem Pk (w : World) (s : ByteArray) (z : Nat) (hs : s.size ≤ 1000) (hz : z < 1000000) (htab : Lib.TabIs Tryz.prog w "internal/strconv.uint64pow10" .u64 Lib.pow10Tab) :
    Calls Tryz.prog 71 #[.string s,.slice (some ⟨w.heap.size,0,none⟩) 1 1] (w.alloc (.cells #[.int .i64 (z:Int)] 2)) (Wj w (.string (strOfNums (VS s [z])))):=by
 have hb:=(Below.refl w.heap.size w).alloc YR (.cells #[.int .i64 (z:Int)] 2);refine (Fa _ s _ [z] ⟨_,1,rfl,YR,by decide,.inr ⟨w.heap.size,0,rfl,by simp,fun i hi=>?_⟩⟩ hs (by simp) (by simpa using hz) (Ra htab hb)).mono ?_
 · have:i=0:=by simpa using hi
   subst this;rw [Yz _ w.heap.size (0+0) _ _ _ (Zs w _)]
   rfl
 rintro e w' ⟨rfl,b⟩;exact ⟨rfl,WD hb b⟩
theorem Sv.rj {κ:Sc} {σ:Sx} {w W:World} {x y:Nat} (h:Sv κ σ w) (hb:Zi w W) (hn:σ.sn=none) (hp:tA (W.setCell ⟨κ.mB,12,none⟩ (.pointer (some ⟨w.heap.size,0,none⟩))) (w.heap.size,x,y) false) :
    Sv κ { σ with sn:=some (w.heap.size,x,y),em:=false } (W.setCell ⟨κ.mB,12,none⟩ (.pointer (some ⟨w.heap.size,0,none⟩)))∧Gs κ w (W.setCell ⟨κ.mB,12,none⟩ (.pointer (some ⟨w.heap.size,0,none⟩))):=by
 obtain ⟨vd,made,YN,a1,a2,a3,a4,a5⟩:=h.dk;obtain ⟨vt,vq,cp,b1,b2,b3,b4,b5,b6,b7,b8⟩:=h.mm;obtain ⟨Lv,s,r,c1,c2,c3⟩:=h.ch;have hne:=h.ne;have hs:w.heap.size≤(W.setCell ⟨κ.mB,12,none⟩ (.pointer (some ⟨w.heap.size,0,none⟩))).heap.size:=by simpa using hb.size
 have hbl:∀q,q<w.heap.size→q≠κ.mB→(W.setCell ⟨κ.mB,12,none⟩ (.pointer (some ⟨w.heap.size,0,none⟩))).heap[q]?=w.heap[q]?:=fun q hq hn=>(Below.heap_setCell W ⟨κ.mB,12,none⟩ _ q hn).trans (hb.block q hq)
 have hlb:κ.lb<w.heap.size:=(b7.lt κ.lb rfl).2;have hcb:κ.c<w.heap.size:=(Z3.mp c1).1;have hmb:=b1.lt;have hsb:=a1.lt;refine ⟨⟨hne,fun x hx=>⟨ZY (h.fx x hx).1 hs,(h.fx x hx).2⟩,⟨vd,made,YN,Wo a1 hs (hbl _ hsb hne.1),(a2.below hb).setAt (.inr (fun e=>(a5 _ e).2.1 rfl)),a3,a4,a5⟩,⟨vt,vq,cp,(b1.below hb).set 12 _,VM b2 hs (fun q hq hl=>hbl q hl (b5 q hq).2.1),VM b3 hs (fun q hq hl=>hbl q hl (b6 q hq).2.1),b4,b5,b6,(b7.below hb).setAt (.inr (by simp [Value.ownBlock];exact fun e=>hne.2.2.2.2.1 e.symm)),b8⟩,⟨Lv,s,r,(hbl _ hcb hne.2.2.2.1.symm).trans c1,⟨c2.1,fun i hi=>⟨Ri (c2.2 i hi).1 hs (fun q hq hl=>hbl q hl (c3 i hi q hq).2.1),(c2.2 i hi).2⟩⟩,c3⟩,fun p hp'=>?_,h.pw.keep (fun g hl _ h2 _ _ _ _=>hbl g hl h2)⟩,⟨hb.os,hb.tape,hb.output,hs,fun q hq _ h2 _ _=>hbl q hq h2⟩⟩
 cases hp'
 exact ⟨hp,by omega,by omega,by omega,by omega,fun hx=>by have:=(h.fx _ hx).1;omega⟩
theorem vG (κ:Sc) (σ:Sx) (w:World) (h:Sv κ σ w) (hk:σ.k≤9000) (hsn:σ.sn=none) (hz:σ.zf<1000000) (hfl:σ.full.length≤4096) (htab:iC κ w) :
    Calls Tryz.prog 76 #[.pointer (some ⟨κ.sB,0,none⟩)] w fun e w'=>e=.returned (.string (strOfNums (VS ⟨#[115,116,97,114,116,101,100]⟩ [σ.zf])))∧Gw κ w w'∧∃pB,Sv κ { σ with k:=σ.k+1,pw:=none,sn:=some (pB,σ.zf,σ.full.length - σ.off),em:=false } w':=by
 obtain ⟨v0,hv0,hp⟩:=h.pq;obtain ⟨vt,vq,cp,b1,-⟩:=h.mm;obtain ⟨vd,made,YN,a1,-⟩:=h.dk;have c0:=a1.cl 0 _ rfl;have m13:=b1.cl 13 _ rfl;have m12:=b1.cl 12 _ rfl;rw [hsn] at m12;have D:Hid (Calls Tryz.prog 114 #[.pointer (some ⟨κ.sB,0,none⟩)] w fun e w'=>e=.returned (.tuple #[])∧Pq σ.pw w κ.sB (.pointer (some ⟨κ.mB,0,none⟩)) κ.S κ.L v0 (σ.k+1) w'∧KW κ.sB w w'):=Hz hp hk;have HV:=ZU h;clear hp a1 b1 h
 go_enter Tryz.func76,Tryz.ntmps76
 go_wp2_with fail
 refine D.out.mono ?_;rintro e w1 ⟨rfl,p1,-⟩;obtain ⟨V1,G1⟩:=HV.out.ended hv0 p1 (.inr hsn);obtain ⟨fO,fN,yA,b1,-⟩:=V1.mm;obtain ⟨fM,vF,jW,a1,-⟩:=V1.dk;have A1:Hid (St w1.drew κ.sB (Ia (.pointer (some ⟨κ.mB,0,none⟩)) κ.S κ.L fM (.slice none 0 0) vF)):=a1.below (below_drewN' w1 1);have M1:Hid (St w1.drew κ.mB (yB κ { σ with k:=σ.k+1,pw:=none } fO fN yA)):=b1.below (below_drewN' w1 1);have V2:Hid (Sv κ { σ with k:=σ.k+1,pw:=none } w1.drew):=V1.below (below_drewN' w1 1);have G2:Hid (Gw κ w w1.drew):=G1.trans (Gs.YZ (below_drewN' w1 1)).gw;clear c0 m13 m12 p1 a1 b1 D V1 G1 HV;have c0:w1.drew.cell? ⟨κ.sB,0,none⟩=some (.pointer (some ⟨κ.mB,0,none⟩)):=A1.out.cl 0 _ rfl;have m1:w1.drew.cell? ⟨κ.mB,1,none⟩=some (.int .i64 (σ.zf:Int)):=M1.out.cl 1 _ rfl;obtain ⟨la,hla⟩:∃x,x=κ.lo+(if σ.off=yA then 0 else σ.off):=⟨_,rfl⟩;have m11:w1.drew.cell? ⟨κ.mB,11,none⟩=some (.slice (some ⟨κ.lb,la,none⟩) (σ.full.length - σ.off) (yA - σ.off)):=by rw [hla];exact M1.out.cl 11 _ rfl
 have Ov:=ZU hla;clear hla
 go_wp2_with fail
 refine ZX (S:=fun W=>W.cell? ⟨κ.sB,0,none⟩=some (.pointer (some ⟨κ.mB,0,none⟩))∧W.cell? ⟨κ.mB,1,none⟩=some (.int .i64 (σ.zf:Int))∧W.cell? ⟨κ.mB,11,none⟩=some (.slice (some ⟨κ.lb,la,none⟩) (σ.full.length - σ.off) (yA - σ.off))) (by kernel_rfl) ⟨c0,m1,m11⟩ (fun Z9=>?_);clear c0 m1 m11;generalize w1.drew=w2 at *
 iterate 21 (refine Zf ?_ (by kernel_rfl) (fun _=>id) (by assumption) ?_ ?_;rotate_left;· intro w9 ZQ;obtain ⟨k0,k1,k2⟩:=ZQ;go_simp;try with_reducible rfl)
 refine YS 21 rfl (by kernel_rfl) (fun K hK=>?_);go_simp;have bA:=(Below.refl w2.heap.size w2).alloc YR (.cells #[.int .i64 (σ.zf:Int),.int .i64 ((σ.full.length - σ.off:Nat):Int),.string ⟨#[]⟩,.slice none 0 0] 186);refine hK.out _ _ ⟨(bA.cell (p:=⟨κ.sB,0,none⟩) A1.out.lt).trans Z9.1,(bA.cell (p:=⟨κ.mB,1,none⟩) M1.out.lt).trans Z9.2.1,(bA.cell (p:=⟨κ.mB,11,none⟩) M1.out.lt).trans Z9.2.2⟩ (fun YA=>?_);clear hK K
 iterate 2 (refine Zf ?_ (by kernel_rfl) (fun _=>id) (by assumption) ?_ ?_;rotate_left;· intro w9 ZQ;obtain ⟨k0,k1,k2⟩:=ZQ;go_simp;try with_reducible rfl)
 refine YS 24 rfl (by kernel_rfl) (fun K hK=>?_);have M2:=M1.out.Xe bA M1.out.lt;have A2:=A1.out.Xe bA A1.out.lt;have m12:=M2.cl 12 _ rfl;have f12:=M2.fz 12;go_simp;have M3:=M2.set 12 (.pointer (some ⟨w2.heap.size,0,none⟩));have A3:=A2.other (c:=κ.mB) (j:=12) (x:=.pointer (some ⟨w2.heap.size,0,none⟩)) V2.out.ne.1;have P3:=(St.new w2 #[.int .i64 (σ.zf:Int),.int .i64 ((σ.full.length - σ.off:Nat):Int),.string ⟨#[]⟩,.slice none 0 0] 186).other (c:=κ.mB) (j:=12) (x:=.pointer (some ⟨w2.heap.size,0,none⟩)) (by have:=M1.out.lt;omega);have SB:tA ((w2.alloc (.cells #[.int .i64 (σ.zf:Int),.int .i64 ((σ.full.length - σ.off:Nat):Int),.string ⟨#[]⟩,.slice none 0 0] 186)).setCell ⟨κ.mB,12,none⟩ (.pointer (some ⟨w2.heap.size,0,none⟩))) (w2.heap.size,σ.zf,σ.full.length - σ.off) false:=⟨by simp,fun _=>(Below.heap_setCell _ ⟨κ.mB,12,none⟩ _ w2.heap.size (by have:=M1.out.lt;show w2.heap.size≠κ.mB;omega)).trans (Zs w2 _)⟩;have F3:=ZU (V2.out.rj bA hsn SB);have T3:=ZU (htab _ (G2.out.trans F3.out.2.gw));have G3:=ZU (G2.out.trans F3.out.2.gw);refine hK.out _ _ ⟨A3.cl 0 _ rfl,M3.cl 1 _ rfl,by rw [Ov.out];exact M3.cl 11 _ rfl⟩ (fun YA=>?_);have c0:=A3.cl 0 _ rfl;have Z0:=M3.cl 12 _ rfl;have p0:=P3.cl 0 _ rfl;clear hK K SB m12 f12 bA M2 A2 M3 A3 P3 Z9 YA;refine ZR (by kernel_rfl) ?_ _
 try simp only [Act.put,WV,WU,WT]
 generalize (w2.alloc _).setCell _ _=w3 at *
 go_wp2_with fail
 refine (Pk w3 ⟨#[115,116,97,114,116,101,100]⟩ σ.zf (by decide) hz T3.out).mono ?_;rintro e w4 ⟨rfl,b4⟩;have FIN:=ZU (And.intro (G3.out.trans (Gs.YZ b4).gw) (F3.out.1.below b4));clear b4 F3 T3 G3;go_wp2;go_ret;exact ⟨rfl,FIN.out.1,_,FIN.out.2⟩
theorem Ot (w:World) (sB mB:Nat) (b:Int) (hb:0≤b∧b≤1) (h0:w.cell? ⟨sB,0,none⟩=some (.pointer (some ⟨mB,0,none⟩))) (h7:w.cell? ⟨mB,7,none⟩=some (.int .i64 b)) :
    Calls Tryz.prog 123 #[.pointer (some ⟨sB,0,none⟩)] w (Wj w (.int .i64 (1 - b))):=by
 go_enter Tryz.func123,Tryz.ntmps123
 go_wp2;go_ret;exact ⟨rfl,Yy⟩
theorem JQ (w:World) (pB:Nat) (v:Value) (ns:List Nd) (h2:w.cell? ⟨pB,2,none⟩=some (.string ⟨#[]⟩)) (h:SK w v ns) (hn:ns.length≤1000) (hL:Low ns ⟨#[]⟩ 0) (hf:Nx ns ⟨#[]⟩ 0=false) :
    Calls Tryz.prog 121 #[.pointer (some ⟨pB,0,none⟩),v] w (Wj w v):=by
 have HF:=ZU (P9 w v ns ⟨#[]⟩ 0 h hn hL);rw [hf] at HF;obtain ⟨ao,cp,rfl,h1,h3⟩:=h.len;clear h hL hf
 go_enter Tryz.func121,Tryz.ntmps121
 go_wp2_with fail
 refine HF.out.mono ?_;rintro e w1 ⟨rfl,b1⟩;have B1:=ZU b1;clear b1 HF h2
 go_wp2_with fail
 exact ⟨rfl,_,by kernel_rfl,rfl,B1.out⟩
theorem vD (w:World) (pB:Nat) (c0 c1:Value) (v:Value) (ns:List Nd) (hs:St w pB [c0,c1,.string ⟨#[]⟩,.slice none 0 0]) (h:SK w v ns) (hn:ns.length≤1000) (hp:∀q,v.ownBlock=some q→q≠pB) (hok:∀i,i<ns.length→Wl (Ye ns i)=true) (hl:(ns.flatMap Vy).length≤1000000) :
    Calls Tryz.prog 122 #[.pointer (some ⟨pB,0,none⟩),v] w fun e w'=>e=.returned (.tuple #[])∧∃l' v',St w' pB [c0,c1,.string l',v']∧Own .u8 5 w' w.heap.size v' (ns.flatMap Vy)∧w.grownBy w' (some pB):=by
 obtain ⟨ao,cp,rfl,h1,h3,h4⟩:=h;have HR:=ZU h4;have HS:=ZU hs;have HP:=ZU hp;have HK:=ZU hok;have HL:=ZU hl;have hlt:=hs.lt;clear h4 hs hp hok hl
 go_enter Tryz.func122,Tryz.ntmps122
 go_wp2_with fail
 go_loopw [9] (fun v9 wr=>∃(i:Nat) (l':ByteArray) (v':Value),v9=.int .i64 (i:Int)∧i≤ns.length∧Hid (St wr pB [c0,c1,.string l',v'])∧Hid (Own .u8 5 wr w.heap.size v' ((ns.take i).flatMap Vy))∧Hid (w.grownBy wr (some pB))) (fun v _=>((ns.length:Int) - intOf v).toNat)
 case atStart=>exact ⟨0,⟨#[]⟩,.slice none 0 0,rfl,Zu _,HS,ZH _ _ _ _,Zz _ _⟩
 case round =>
  obtain ⟨i,l',v',rfl,hi,SH,OH,I⟩:=hrel
  by_cases hc:i<ns.length
  · obtain ⟨b,off,rfl,hb,hcl⟩:=HR.out.resolve_left (fun e=>by rw [e] at hc;simp at hc)
    have hbp:=HP.out b rfl;have e9:∀j,wr.cell? ⟨b,j,none⟩=w.cell? ⟨b,j,none⟩:=fun j=>ZP (w:=w) (a:=⟨b,j,none⟩) (I.out.block b hb (fun e=>hbp (by injection e)))
    have hN:=hcl i hc;have k0:=(e9 _).trans hN.c0;have k1:=(e9 _).trans hN.c1;have k2:=(e9 _).trans hN.c2;have k3:=(e9 _).trans hN.c3;have k4:=(e9 _).trans hN.c4;have k5:=(e9 _).trans hN.c5;have k6:=(e9 _).trans hN.c6;have Z':=HK.out i hc;have p3:=SH.out.cl 3 _ rfl;have hle:((ns.take (i+1)).flatMap Vy)=((ns.take i).flatMap Vy)++Vy (Ye ns i):=by
     rw [YW hc,XZ,WF hc];simp
    have hll:((ns.take i).flatMap Vy).length≤1000000:=by
     refine ZJ ?_ HL.out
     conv=>rhs;rw [←YQ i ns,XZ,ZZ]
     omega
    have lN:=ZU hle;have Z8:=ZU hll;have gs:=I.out.size;have hpw:=SH.out.lt;clear hcl e9 hN hle hll;generalize hnd:Ye ns i=nd at *;have HB:=ZU (Lb.new wr (.cells #[.string nd.path,.string nd.data,.int .i64 nd.XT,.int .i64 nd.XQ,.int .i64 nd.cz,.int .i64 nd.mz,.int .i64 nd.pz] 147) nd);have hb2:=((Below.refl wr.heap.size wr).alloc YR (.cells #[.string nd.path,.string nd.data,.int .i64 nd.XT,.int .i64 nd.XQ,.int .i64 nd.cz,.int .i64 nd.mz,.int .i64 nd.pz] 147)).alloc (by simp) (.cells #[.string nd.path,.string nd.data,.int .i64 nd.XT,.int .i64 nd.XQ,.int .i64 nd.cz,.int .i64 nd.mz,.int .i64 nd.pz] 149);have Pw:Hid (((wr.alloc (.cells #[.string nd.path,.string nd.data,.int .i64 nd.XT,.int .i64 nd.XQ,.int .i64 nd.cz,.int .i64 nd.mz,.int .i64 nd.pz] 147)).alloc (.cells #[.string nd.path,.string nd.data,.int .i64 nd.XT,.int .i64 nd.XQ,.int .i64 nd.cz,.int .i64 nd.mz,.int .i64 nd.pz] 149)).heap[wr.heap.size]?=some (.cells #[.string nd.path,.string nd.data,.int .i64 nd.XT,.int .i64 nd.XQ,.int .i64 nd.cz,.int .i64 nd.mz,.int .i64 nd.pz] 147)):=(Below.heap_alloc _ _ _ (by simp)).trans (Zs wr _);have HC:=ZU (Px _ w.heap.size v' _ (wr.heap.size+1) nd (OH.out.below hb2) (ZJ gs hb2.size) Z8.out HB.out Z');have C:=ZU (SH.out.below hb2);have Y:=ZU hb2;clear hb2
    go_wp2_with fail
    refine HC.out.mono ?_;rintro e w3 ⟨v3,rfl,o3,b3,B⟩;obtain ⟨a3,q3,rfl⟩:=o3.slice;have U:=C.out.Xe b3 hlt;have n3:=B.box Pw.out (by decide);have A:w.grownBy w3 (some pB):=⟨b3.os.trans (Y.out.os.trans I.out.os),b3.tape.trans (Y.out.tape.trans I.out.tape),b3.output.trans (Y.out.output.trans I.out.output),ZJ gs (ZJ Y.out.size b3.size),fun q hq hne=>(b3.block q hq).trans ((Y.out.block q (ZY hq gs)).trans (I.out.block q hq hne))⟩;have hnb:wr.heap.size≠pB:=by omega
    have f3:=U.fz 3;have ZL:=U.cl 3 _ rfl;have O:=U.set 3 (.slice a3 (((ns.take i).flatMap Vy)++Vy nd).length q3);have n4:(w3.setCell ⟨pB,3,none⟩ (.slice a3 (((ns.take i).flatMap Vy)++Vy nd).length q3)).cell? ⟨wr.heap.size,0,none⟩=some (.string nd.path):=by
     rw [ZV _ _ _ _ (by intro e;injection e with e1;first | exact hnb e1 | exact hnb e1.symm),cell_of n3 0]
     rfl
    have f2:=O.fz 2;have ZD:=O.cl 2 _ rfl;have Z7:=ZU (O.set 2 (.string nd.path));have Z4:=ZU (grownBy_set w _ pB 2 (.string nd.path) (grownBy_set w w3 pB 3 (.slice a3 (((ns.take i).flatMap Vy)++Vy nd).length q3) A));have O5:=ZU ((o3.setAt (g:=pB) (j:=3) (u:=.slice a3 (((ns.take i).flatMap Vy)++Vy nd).length q3) (.inr (above o3 hlt))).setAt (g:=pB) (j:=2) (u:=.string nd.path) (.inr (above o3 hlt)));generalize hX:((ns.take i).flatMap Vy)++Vy nd=X at *;clear U O o3 b3 B n3 A HC HB Pw C Y SH OH I k0 k1 k2 k3 k4 k5 k6
    go_wp2_with fail
    refine ⟨⟨i+1,_,_,by go_num,by omega,Z7,?_,Z4⟩,by simp [intOf];omega⟩;show Own _ _ _ _ _ _;rw [lN.out];exact O5.out
  have hie:i=ns.length:=by omega
  subst hie;rw [Xp] at OH
  go_wp2_with fail
  exact ⟨rfl,_,by kernel_rfl,rfl,l',v',SH.out,OH.out,I.out⟩
theorem vC {P:Program} {c:Code} {Q Q':Exit→Act→World→Prop} {a:Act} {w:World} (h:GL P c Q a w) (hq:∀e a w,Q e a w→Q' e a w):GL P c Q' a w:=fun b k cs hb =>
 let ⟨e,a',w',q,r⟩:=h b k cs hb
 ⟨e,a',w',hq _ _ _ q,r⟩
theorem ri {P:Program} {x y:Code} {Q:Exit→Act→World→Prop} {a:Act} {w:World} (R:Act→World→Prop) (h2:∀a w,R a w→GL P y Q a w) (h1:GL P x (Exit.then R Q) a w):GL P (Code.seq x y) Q a w :=
 Bt (vC h1 fun e a w h=>by
  cases e with
  | normal=>exact h2 a w h
  | _=>exact h)
theorem zl {ns:List Nd} (h:∀i,i<ns.length→0<(Ye ns i).path.size):Low ns ⟨#[]⟩ 0∧Nx ns ⟨#[]⟩ 0=false:=by
 have hc:∀p:ByteArray,0<p.size→¬Py p ⟨#[]⟩<0∧Py p ⟨#[]⟩≠0:=by
  intro p hp;unfold Py;have:0<p.data.toList.length:=by rw [YJ];exact hp
  cases hl:p.data.toList with
  | nil=>rw [hl] at this;simp at this
  | cons x xs=>constructor <;> simp [Lib.compareBytes]
 refine ⟨⟨Zu _,fun i hi=>by omega,fun i _ hi=>(hc _ (h i hi)).1⟩,?_⟩;unfold Nx
 by_cases h0:0<ns.length
 · have:=(hc _ (h 0 h0)).2
   simp [this]
 simp at h0
 simp [h0]
end
section
open Go.RowKit Go.Shelf
theorem E9 (w:World):Calls Tryz.prog 29 #[.nilIface] w (Wj w (.tuple #[.agg #[.slice none 0 0],.bool false])):=by
 go_enter Tryz.func29,Tryz.ntmps29
 go_wp2_with fail
 refine ZW (v:=.tuple #[.agg #[.slice none 0 0],.bool false]) (by simp [results,Tryz.results29,go_sem]) rfl ⟨rfl,?_⟩;exact Yy.alloc YR _
theorem zk (w:World) (p q:Value) :
    CallsD Tryz.prog 28 #[p,q] .returning w fun e u' w'=>e=.returned (.tuple #[])∧u'=.returning∧Zi w w':=by
 refine UA Tryz.func28 rfl fun c₀ cs hu=>?_
 refine wpS_seq ?_;apply TM
 simp [wpOpsS,go_sem,recoverD,hu,Tryz.ntmps28]
 refine (E9 w).mono ?_;rintro e w1 ⟨rfl,b1⟩
 simp [go_sem]
 have B2:Zi w (w1.alloc (.cells #[.slice none 0 0] 79)):=b1.alloc b1.size _;refine wpS_seq ?_;apply TM
 simp [wpOpsS,go_sem]
 refine wpS_cond (t:=false) (by simp [go_sem]) ?_;refine wpS_of_wp ?_
 go_wp2_with fail
 cases c₀
 simp_all [bodyPostS,results,Tryz.results28]
end
section
open Go.RowKit Go.Conc
theorem I3 {w:World} {v:Value} {ns:List Nd} (h:SK w v ns) (hn:ns≠[]):∀q,v.ownBlock=some q→q<w.heap.size:=by
 obtain ⟨ao,cp,rfl,h1,h2,h3⟩:=h;obtain ⟨b,off,rfl,hb,-⟩:=h3.resolve_left hn;intro q hq
 simp only [Value.ownBlock,ZK] at hq
 omega
theorem vz {k:IntKind} {w:World} {v:Value} {xs:List Int} (h:Rd k w v xs) (hn:0<xs.length):∀q,v.ownBlock=some q→q<w.heap.size:=by
 obtain ⟨ao,cp,rfl,h1,h2,h3⟩:=h;obtain ⟨b,off,rfl,hb,-⟩:=h3.resolve_left (fun e=>by rw [e] at hn;simp at hn);intro q hq
 simp only [Value.ownBlock,ZK] at hq
 omega
theorem Sv.boxed {κ:Sc} {σ:Sx} {w W:World} {b:Nat} (h:Sv κ σ w) (hb:Zi w W) (h1:w.heap.size≤b) (h2:b<W.heap.size) (hT:σ.T≠[]) (hQ:σ.Q≠[]):Sv { κ with X:=b :: κ.X } σ W:=by
 have hW:=h.below hb;obtain ⟨vd,made,YN,a1,a2,a3,a4,a5⟩:=h.dk;obtain ⟨vt,vq,cp,b1,b2,b3,b4,b5,b6,b7,b8⟩:=h.mm;obtain ⟨Lv,s,r,c1,c2,c3⟩:=h.ch;have hlb:κ.lb<w.heap.size:=(b7.lt κ.lb rfl).2;have hcb:κ.c<w.heap.size:=(Z3.mp c1).1;have hmb:=b1.lt;have hsb:=a1.lt;have far:∀v,Pp κ v→(∀q,v.ownBlock=some q→q<w.heap.size)→Pp { κ with X:=b :: κ.X } v:=fun v hv hl q hq =>
  ⟨(hv q hq).1,(hv q hq).2.1,(hv q hq).2.2.1,(hv q hq).2.2.2.1,by
   have:=hl q hq
   simp only [Y9,not_or]
   exact ⟨by omega,(hv q hq).2.2.2.2⟩⟩
 refine ⟨h.ne,fun x hx=>?_,⟨vd,made,YN,a1.below hb,a2.below hb,a3,a4,far vd a5 (fun q hq=>(ZT a2 q hq).2)⟩,⟨vt,vq,cp,b1.below hb,b2.below hb,b3.below hb,b4,far vt b5 (I3 b2 hT),far vq b6 (I3 b3 hQ),b7.below hb,b8⟩,⟨Lv,s,r,(hb.block _ hcb).trans c1,⟨c2.1,fun i hi=>⟨(c2.2 i hi).1.below hb,(c2.2 i hi).2⟩⟩,fun i hi=>far _ (c3 i hi) (vz (c2.2 i hi).1 (c2.2 i hi).2)⟩,fun p hp=>?_,fun g hg=>?_⟩
 · simp only [Y9] at hx
   rcases hx with rfl | hx
   · exact ⟨h2,by show _≠κ.sB;omega,by show _≠κ.mB;omega,by show _≠κ.c;omega,by show _≠κ.lb;omega⟩
   exact ⟨ZY (h.fx x hx).1 hb.size,(h.fx x hx).2⟩
 · obtain ⟨p1,p2,p3,p4,p5,p6⟩:=h.sn p hp
   refine ⟨p1.same (hb.block _ p1.lt),p2,p3,p4,p5,?_⟩;have:=p1.lt
   simp only [Y9,not_or]
   exact ⟨by omega,p6⟩
 obtain ⟨q1,q2,q3,q4,q5,q6⟩:=h.pw g hg;have hl:=(Z3.mp q1).1;refine ⟨(hb.block g hl).trans q1,q2,q3,q4,q5,?_⟩
 simp only [Y9,not_or]
 exact ⟨by omega,q6⟩
theorem Sv.rh {κ:Sc} {σ:Sx} {w:World} {b j:Nat} {x:Value} (h:Sv { κ with X:=b :: κ.X } σ w):Sv κ σ (w.setCell ⟨b,j,none⟩ x):=by
 obtain ⟨vd,made,YN,a1,a2,a3,a4,a5⟩:=h.dk;obtain ⟨vt,vq,cp,b1,b2,b3,b4,b5,b6,b7,b8⟩:=h.mm;obtain ⟨Lv,s,r,c1,c2,c3⟩:=h.ch;obtain ⟨f0,f1,f2,f3,f4⟩:=h.fx b (by simp);have hs:w.heap.size≤(w.setCell ⟨b,j,none⟩ x).heap.size:=by simp
 have hbl:∀q,q≠b→(w.setCell ⟨b,j,none⟩ x).heap[q]?=w.heap[q]?:=fun q hn=>Below.heap_setCell w ⟨b,j,none⟩ x q hn
 have nb:∀v,Pp { κ with X:=b :: κ.X } v→∀q,v.ownBlock=some q→q≠b:=fun v hv q hq e=>(hv q hq).2.2.2.2 (by rw [e];simp)
 have far:∀v,Pp { κ with X:=b :: κ.X } v→Pp κ v:=fun v hv q hq=>⟨(hv q hq).1,(hv q hq).2.1,(hv q hq).2.2.1,(hv q hq).2.2.2.1,fun e=>(hv q hq).2.2.2.2 (by simp [e])⟩
 refine ⟨h.ne,fun y hy=>?_,⟨vd,made,YN,Wo a1 hs (hbl _ (Ne.symm f1)),a2.setAt (.inr (fun e=>nb vd a5 b e rfl)),a3,a4,far vd a5⟩,⟨vt,vq,cp,Wo b1 hs (hbl _ (Ne.symm f2)),VM b2 hs (fun q hq _=>hbl q (nb vt b5 q hq)),VM b3 hs (fun q hq _=>hbl q (nb vq b6 q hq)),b4,far vt b5,far vq b6,b7.setAt (.inr (by simp [Value.ownBlock];exact fun e=>f4 e.symm)),b8⟩,⟨Lv,s,r,(hbl _ (Ne.symm f3)).trans c1,⟨c2.1,fun i hi=>⟨Ri (c2.2 i hi).1 hs (fun q hq _=>hbl q (nb _ (c3 i hi) q hq)),(c2.2 i hi).2⟩⟩,fun i hi=>far _ (c3 i hi)⟩,fun p hp=>?_,fun g hg=>?_⟩
 · have:=h.fx y (by simp [hy])
   exact ⟨ZY this.1 hs,this.2⟩
 · obtain ⟨p1,p2,p3,p4,p5,p6⟩:=h.sn p hp
   exact ⟨p1.same (hbl _ (fun e=>p6 (by simp [e]))),p2,p3,p4,p5,fun e=>p6 (by simp [e])⟩
 obtain ⟨q1,q2,q3,q4,q5,q6⟩:=h.pw g hg;exact ⟨(hbl g (fun e=>q6 (by simp [e]))).trans q1,q2,q3,q4,q5,fun e=>q6 (by simp [e])⟩
theorem jV {k:IntKind} {w w':World} {v:Value} {xs:List Int} (h:Rd k w v xs) (hs:w.heap.size≤w'.heap.size) (hc:∀p u,w.cell? p=some u→w'.cell? p=some u):Rd k w' v xs:=by
 obtain ⟨ao,cp,rfl,h1,h2,h3⟩:=h;refine ⟨ao,cp,rfl,h1,h2,h3.imp id ?_⟩;rintro ⟨b,off,rfl,hlt,hcl⟩;exact ⟨b,off,rfl,ZY hlt hs,fun i hi=>hc _ _ (hcl i hi)⟩
theorem vy {w w':World} {v:Value} {ns:List Nd} (h:SK w v ns) (hs:w.heap.size≤w'.heap.size) (hc:∀p u,w.cell? p=some u→w'.cell? p=some u):SK w' v ns:=by
 obtain ⟨ao,cp,rfl,h1,h2,h3⟩:=h;refine ⟨ao,cp,rfl,h1,h2,h3.imp id ?_⟩;rintro ⟨b,off,rfl,hlt,hcl⟩;refine ⟨b,off,rfl,ZY hlt hs,fun i hi=>?_⟩;have h9:=hcl i hi;exact ⟨hc _ _ h9.c0,hc _ _ h9.c1,hc _ _ h9.c2,hc _ _ h9.c3,hc _ _ h9.c4,hc _ _ h9.c5,hc _ _ h9.c6⟩
theorem UJ.Vz {W W':World} {v:Value} {xs:List Int} {row:Option Nat} (h:UJ W v xs) (hg:W.grownBy W' row) (hr:∀r,row=some r→∃o:Obj,W.heap[r]?=some o∧o.isCells=false):UJ W' v xs:=by
 obtain ⟨g,lo,cp,pre,h1,h2,h3⟩:=h;exact ⟨g,lo,cp,pre,h1,h2,VD h3 hg hr⟩
theorem nj {W W':World} {row:Option Nat} {c:Nat} {p:Nat × Nat × Nat} {em:Bool} (h:tA W p em) (hs:W.heap.size≤W'.heap.size) (hg:W.grownBy W' row) (hr:∀r,row=some r→r≠c∧∃o:Obj,W.heap[r]?=some o∧o.isCells=false):tA W' p em:=by
 refine ⟨ZY h.1 hs,fun h9=>?_⟩;have e:=h.2 h9;refine (hg.block _ h.1 (fun e9=>?_)).trans e;obtain ⟨-,o,ho,hc⟩:=hr _ e9.symm;rw [e] at ho
 injection ho with ho
 rw [←ho] at hc
 cases hc
theorem Sv.Vz {κ:Sc} {σ:Sx} {W W':World} {row:Option Nat} (h:Sv κ σ W) (hg:W.grownBy W' row) (hr:∀r,row=some r→r≠κ.c∧∃o:Obj,W.heap[r]?=some o∧o.isCells=false):Sv κ σ W':=by
 have hs:=hg.size;have hb:∀(p:Addr) (u:Value),W.cell? p=some u→W'.heap[p.block]?=W.heap[p.block]?:=by
  intro p u hp;refine hg.block _ (ZG W _ hp) (fun e=>?_);obtain ⟨-,o,ho,hc⟩:=hr _ e.symm;unfold World.cell? at hp;rw [ho] at hp
  cases o <;> first | (simp at hp;done) | (cases hc)
 have hc:∀p u,W.cell? p=some u→W'.cell? p=some u:=fun p u hp=>(ZP (w:=W) (a:=p) (hb p u hp)).trans hp
 obtain ⟨vd,made,YN,a1,a2,a3,a4,a5⟩:=h.dk;obtain ⟨vt,vq,cp,b1,b2,b3,b4,b5,b6,b7,b8⟩:=h.mm;obtain ⟨Lv,s,r,c1,c2,c3⟩:=h.ch;refine ⟨h.ne,fun x hx=>⟨ZY (h.fx x hx).1 hs,(h.fx x hx).2⟩,⟨vd,made,YN,Wo a1 hs (hb ⟨κ.sB,0,none⟩ _ (a1.cl 0 _ rfl)),VD a2 hg (fun r e=>(hr r e).2),a3,a4,a5⟩,⟨vt,vq,cp,Wo b1 hs (hb ⟨κ.mB,0,none⟩ _ (b1.cl 0 _ rfl)),vy b2 hs hc,vy b3 hs hc,b4,b5,b6,UJ.Vz b7 hg (fun r e=>(hr r e).2),b8⟩,⟨Lv,s,r,(hg.block _ (Z3.mp c1).1 (fun e=>(hr _ e.symm).1 rfl)).trans c1,⟨c2.1,fun i hi=>⟨jV (c2.2 i hi).1 hs hc,(c2.2 i hi).2⟩⟩,c3⟩,fun p hp=>⟨nj (h.sn p hp).1 (by omega) hg hr,(h.sn p hp).2⟩,h.pw.keep (fun g hl _ _ _ _ _ e=>hg.block g hl (fun e9=>by obtain ⟨-,o,ho,hc⟩:=hr g e9.symm;rw [e] at ho;injection ho with ho;rw [←ho] at hc;cases hc))⟩
theorem Sv.other {κ:Sc} {σ:Sx} {w w':World} {b:Nat} (h:Sv κ σ w) (hx:b ∈ κ.X) (hg:w.grownBy w' (some b)):Sv κ σ w':=by
 obtain ⟨vd,made,YN,a1,a2,a3,a4,a5⟩:=h.dk;obtain ⟨vt,vq,cp,b1,b2,b3,b4,b5,b6,b7,b8⟩:=h.mm;obtain ⟨Lv,s,r,c1,c2,c3⟩:=h.ch;obtain ⟨f0,f1,f2,f3,f4⟩:=h.fx b hx;have hs:=hg.size;have hbl:∀q,q<w.heap.size→q≠b→w'.heap[q]?=w.heap[q]?:=fun q hq hn=>hg.block q hq (fun e=>hn (by injection e))
 have nb:∀v,Pp κ v→∀q,v.ownBlock=some q→q≠b:=fun v hv q hq e=>(hv q hq).2.2.2.2 (by rw [e];exact hx)
 have hcb:κ.c<w.heap.size:=(Z3.mp c1).1;refine ⟨h.ne,fun y hy=>⟨ZY (h.fx y hy).1 hs,(h.fx y hy).2⟩,⟨vd,made,YN,Wo a1 hs (hbl _ a1.lt (Ne.symm f1)),Zn a2 hg (.inr (fun e=>nb vd a5 b e rfl)),a3,a4,a5⟩,⟨vt,vq,cp,Wo b1 hs (hbl _ b1.lt (Ne.symm f2)),VM b2 hs (fun q hq hl=>hbl q hl (nb vt b5 q hq)),VM b3 hs (fun q hq hl=>hbl q hl (nb vq b6 q hq)),b4,b5,b6,UJ.kept b7 hg (.inr (by simp [Value.ownBlock];exact fun e=>f4 e.symm)),b8⟩,⟨Lv,s,r,(hbl _ hcb (Ne.symm f3)).trans c1,⟨c2.1,fun i hi=>⟨Ri (c2.2 i hi).1 hs (fun q hq hl=>hbl q hl (nb _ (c3 i hi) q hq)),(c2.2 i hi).2⟩⟩,c3⟩,fun p hp=>?_,fun g nQ=>?_⟩
 · obtain ⟨p1,p2,p3,p4,p5,p6⟩:=h.sn p hp
   exact ⟨p1.same (hbl _ p1.lt (fun e=>p6 (by rw [e];exact hx))),p2,p3,p4,p5,p6⟩
 obtain ⟨q1,q2,q3,q4,q5,q6⟩:=h.pw g nQ;exact ⟨(hbl g (Z3.mp q1).1 (fun e=>q6 (by rw [e];exact hx))).trans q1,q2,q3,q4,q5,q6⟩
theorem Oq (w:World) (base:Nat) (ty:TypeId) (v:Value) (xs:List Int) (s:ByteArray) (h:Own .u8 5 w base v xs) (hs:0<s.size) (hl:xs.length+s.size≤1048576) (hb:base≤w.heap.size) :
    ∃v' w',(Builtin.append_ #[22,9] ty #[v,.string s]).run Tryz.prog w=.ok v' w'∧Own .u8 5 w' base v' (xs++U0 s) ∧
     ((v'.ownBlock=v.ownBlock∧w.grownBy w' v.ownBlock)∨(Zi w w'∧∀g,v'.ownBlock=some g→w.heap.size≤g)):=by
 obtain ⟨i0,hi,hz0,hz1,hz2⟩:=YM Tryz.QZ;have h63:xs.length+s.size≤maxLen:=by unfold maxLen;omega
 have hxl:(xs.map (Value.int .u8)).length=xs.length:=Zl ..;have hlen:(xs.map (Value.int .u8)++Lib.strCells s).length=(xs.length+s.size)*1:=by rw [ZZ,hxl,Us,Yr]
 have eO:∀(W:World) (u:Value),W.ownsRow base 5 1 u (xs.length+s.size) (xs.map (Value.int .u8)++Lib.strCells s)→Own .u8 5 W base u (xs++U0 s):=fun W u hu=>by
  show World.ownsRow _ _ _ _ _ _ _;rw [ZZ,Wq,Y6,←Qb];exact hu
 have grown:∀(old:Nat),old<xs.length+s.size →
     (w.drew.alloc (.cells ((xs.map (Value.int .u8)).toArray++(Lib.strCells s).toArray++Builtin.zeroCells (Value.int .u8 0).cells (grownCap w (xs.length+s.size) old 5 - (xs.length+s.size))) 5)).ownsRow base 5 1
      (.slice (some ⟨w.heap.size,0,none⟩) (xs.length+s.size) (grownCap w (xs.length+s.size) old 5)) (xs.length+s.size) (xs.map (Value.int .u8)++Lib.strCells s) ∧
     Zi w (w.drew.alloc (.cells ((xs.map (Value.int .u8)).toArray++(Lib.strCells s).toArray++Builtin.zeroCells (Value.int .u8 0).cells (grownCap w (xs.length+s.size) old 5 - (xs.length+s.size))) 5)):=by
  intro old ho;have hge:=Tq w (xs.length+s.size) old 5;have hcm:grownCap w (xs.length+s.size) old 5≤maxLen:=We w (xs.length+s.size) old 5 h63;refine ⟨⟨hlen,.inr ⟨w.heap.size,_,_,rfl,hb,Zs w.drew _,hge,hcm,?_,?_⟩⟩,⟨rfl,rfl,rfl,by simp,fun k hk=>Below.heap_alloc w.drew _ k hk⟩⟩
  · have hz1':(Value.int IntKind.u8 0).cells.size=1:=rfl
    simp only [TJ,ZI,TN,hz1',hxl,Us]
    omega
  simp only [Vx,ZO]
  rw [←ZO,←hlen];exact W8
 have h':=h
 rcases h.2 with ⟨rfl,h0⟩ | ⟨g,cap,cur,rfl,hbg,hg,hnc,hcm,hcs,htake⟩
 · have hx:xs=[]:=Zg h0
   subst hx;have hr:=run_append_nil_string (P:=Tryz.prog) w 22 9 ty 5 i0 (.int .u8 0) Tryz.underlying22 Tryz.underlying9 hi hz0 s (by omega) (by simp at hl;omega) (by rw [hz2];simp at hl;omega);have hgr:=grown 0 (by simp;omega);have e1:(s.data.map fun b=>Value.int .u8 b.toNat)=(Lib.strCells s).toArray:=by
    apply UW
    simp [Lib.strCells]
   rw [e1] at hr
   simp only [Y7,Za,WO,Zd,Array.empty_append] at hgr
   refine ⟨_,_,hr,eO _ _ ?_,.inr ⟨hgr.2,fun g hg=>?_⟩⟩
   · simpa using hgr.1
   simp only [Value.ownBlock,ZK] at hg;omega
 by_cases hroom:xs.length+s.size≤cap
 · have hcs':cur.size=cap:=by simpa using hcs
   have hr:=Lib.run_append_room_string (P:=Tryz.prog) w 22 9 ty 5 i0 Tryz.underlying22 Tryz.underlying9 hi hz1 g xs.length cap cur hg s hroom (by omega);refine ⟨_,_,hr,eO _ _ ⟨hlen,.inr ⟨g,cap,_,rfl,hbg,WB w g cur _ 5 _ hg,hroom,hcm,?_,?_⟩⟩,.inl ⟨rfl,⟨rfl,rfl,rfl,by simp,fun k _ hk=>Ua w g k _ (fun e=>hk (by simp [Value.ownBlock,e]))⟩⟩⟩
   · simp only [ZI,ZZ,Zw,ZS,YJ,Us]
     omega
   have ht':cur.toList.take xs.length=xs.map (Value.int .u8):=by simpa using htake
   rw [ht',←hlen];exact W8
 have holds:∀j u,(xs.map (Value.int .u8))[j]?=some u→w.cell? ((⟨g,0,none⟩:Addr).add j)=some u:=Ys (g:=g) h' rfl;have hr:=UE (P:=Tryz.prog) w 22 9 ty 5 i0 (.int .u8 0) Tryz.underlying22 Tryz.underlying9 hi hz0 ⟨g,0,none⟩ xs.length cap (xs.map (Value.int .u8)) (by rw [hz1,hxl,Yr]) holds s (by omega) (by omega) (by rw [hz2];exact U2 (by omega) (by omega));have hgr:=grown cap (by omega);refine ⟨_,_,hr,eO _ _ hgr.1,.inr ⟨hgr.2,fun g hg=>?_⟩⟩
 simp only [Value.ownBlock,ZK] at hg;omega
theorem OJ {F:Fence} {n:Nat} {w:World} {ops:Array Oper} {rest:List Oper} {o:Oper} {a:Act} {Q:Exit→Act→World→Prop}
    (hg:o.guard=none) (sl x:Operand) (hop:o.op=Op.call { callee:=Callee.builtin Builtin.append,args:=#[sl,x],argTypes:=#[22,9] })
    (base:Nat) (v:Value) (xs:List Int) (s:ByteArray) (hs:a.eval sl=v) (hx:a.eval x=.string s) (h:Own .u8 5 w base v xs) (hs0:0<s.size) (hl:xs.length+s.size≤1048576) (hb:base≤w.heap.size)
    (hK:∀v' w',Own .u8 5 w' base v' (xs++U0 s)→((v'.ownBlock=v.ownBlock∧w.grownBy w' v.ownBlock)∨(Zi w w'∧∀g,v'.ownBlock=some g→w.heap.size≤g))→wpListIn F n Tryz.prog ops Q rest (a.put o.dst v') w') :
    wpListIn F n Tryz.prog ops Q (o :: rest) a w:=by
 refine Sf hg fun K hK'=>?_
 obtain ⟨v',w',hrun,r1,r2⟩:=Oq w base o.type v xs s h hs0 hl hb;unfold Oper.wpIn;refine ⟨?_,?_⟩
 · simp [Oper.about,hop,resolve,Target.leads,Ww]
 rw [Oper.semAt_plain F _ _ (by rw [hop];intro c hc';cases hc')]
 simp [execOp,hop,resolve,invoke,builtin,hs,hx,hrun,Result.andThen]
 exact hK' _ _ (hK v' w' r1 r2)
theorem LQ {F:Fence} {nF:Nat} {op:Oper} {a:Act} {w:World} {K:Act→World→Prop} {Q:Exit→Act→World→Prop} (hro:F.round=none) (sl x:Operand) (hop:op.op=Op.call { callee:=Callee.builtin Builtin.append,args:=#[sl,x],argTypes:=#[22,9] })
    (base:Nat) (v:Value) (xs:List Int) (s:ByteArray) (hs:a.eval sl=v) (hx:a.eval x=.string s) (h:Own .u8 5 w base v xs) (hs0:0<s.size) (hl:xs.length+s.size≤1048576) (hb:base≤w.heap.size)
    (hK:∀v' w',Own .u8 5 w' base v' (xs++U0 s)→((v'.ownBlock=v.ownBlock∧w.grownBy w' v.ownBlock)∨(Zi w w'∧∀g,v'.ownBlock=some g→w.heap.size≤g))→K (a.put op.dst v') w') :
    op.wpIn F nF Tryz.prog a w K Q:=by
 obtain ⟨v',w',hrun,r1,r2⟩:=Oq w base op.type v xs s h hs0 hl hb;unfold Oper.wpIn;refine ⟨?_,?_⟩
 · simp [Oper.about,hop,resolve,Target.leads,Ww]
 rw [hro,Oper.semAt_none]
 simp [execOp,hop,resolve,invoke,builtin,hs,hx,hrun,Result.andThen]
 exact hK v' w' r1 r2
theorem RF (κ:Sc) (σ:Sx) (p:Sx→Prop) (w:World) (h:Sv κ σ w) (hT:σ.T≠[]) (hQ:σ.Q≠[]) (kd:Int) (k0:kd≠0) (k8:kd≠8) (k10:kd≠10) (k11:kd≠11) (vo vn:Value) (mu:Bool) (pa s:ByteArray)
    (hU:∀W,Sv { κ with X:=(w.heap.size+2) :: κ.X } σ W→Zi w W→Calls Tryz.prog 34 #[.pointer (some ⟨κ.sB,0,none⟩),.agg #[.int .i64 kd,vo,.bool mu,.string pa,vn]] W fun e w'=>e=.returned (.string s)∧Gw { κ with X:=(w.heap.size+2) :: κ.X } W w'∧∃ σ',p σ'∧Sv { κ with X:=(w.heap.size+2) :: κ.X } σ' w') :
    Calls Tryz.prog 14 #[.pointer (some ⟨κ.sB,0,none⟩),.agg #[.int .i64 kd,vo,.bool mu,.string pa,vn]] w fun e w'=>e=.returned (.string s)∧Gw κ w w'∧∃ σ',p σ'∧Sv κ σ' w':=by
 have HU:=ZU hU;have HV:=ZU h;obtain ⟨vd,made,YN,a1,-⟩:=h.dk;have c0:w.cell? ⟨κ.sB,0,none⟩=some (.pointer (some ⟨κ.mB,0,none⟩)):=a1.cl 0 _ rfl;have hsb:=a1.lt;have hb3:=(((Below.refl w.heap.size w).alloc YR (.cells #[.pointer (some ⟨κ.sB,0,none⟩)] 34)).alloc (by simp) (.cells #[.int .i64 kd,vo,.bool mu,.string pa,vn] 43)).alloc (by simp;omega) (.cells #[.string ⟨#[]⟩] 9);have c3:=(hb3.cell (p:=⟨κ.sB,0,none⟩) hsb).trans c0;have V3:=ZU (HV.out.boxed hb3 (show w.heap.size≤w.heap.size+2 by omega) (by simp) hT hQ);have HC:=ZU (HU.out _ V3.out hb3);have ZN:=hb3.size;clear hU h a1 c0;refine calls_of_wp_defers Tryz.func14 rfl ?_
 simp only [Tryz.ntmps14,ZI,ZE,Y7,Nat.reduceAdd,Nat.reduceSub,YV,YU,YI,YT,Zd,Y3]
 go_wp2_with fail
 refine HC.out.mono ?_;rintro e w4 ⟨rfl,G4,σ',hp',V4⟩;obtain ⟨f0,f1,f2,f3,f4⟩:=V3.out.fx (w.heap.size+2) (by simp);have n4:w4.heap[w.heap.size+1+1]?=some (.cells #[.string ⟨#[]⟩] 9):=by
  have n3:(((w.alloc (.cells #[.pointer (some ⟨κ.sB,0,none⟩)] 34)).alloc (.cells #[.int .i64 kd,vo,.bool mu,.string pa,vn] 43)).alloc (.cells #[.string ⟨#[]⟩] 9)).heap[w.heap.size+2]?=some (.cells #[.string ⟨#[]⟩] 9):=by
   have:=Zs ((w.alloc (.cells #[.pointer (some ⟨κ.sB,0,none⟩)] 34)).alloc (.cells #[.int .i64 kd,vo,.bool mu,.string pa,vn] 43)) (.cells #[.string ⟨#[]⟩] 9)
   simpa using this
  refine (G4.block (w.heap.size+2) f0 f1 f2 f3 f4 (by rw [cell_of n3 3];simp) (by rw [cell_of n3 1];simp)).trans ?_;have:=Zs ((w.alloc (.cells #[.pointer (some ⟨κ.sB,0,none⟩)] 34)).alloc (.cells #[.int .i64 kd,vo,.bool mu,.string pa,vn] 43)) (.cells #[.string ⟨#[]⟩] 9)
  simpa using this
 have n5:w4.cell? ⟨w.heap.size+1+1,0,none⟩=some (.string ⟨#[]⟩):=cell_of n4 0;have n6:w4.frozen? ⟨w.heap.size+1+1,0,none⟩=false:=by simp [World.frozen?,n4]
 have V5:Hid (Sv κ σ' (w4.setCell ⟨w.heap.size+1+1,0,none⟩ (.string s))):=V4.rh;have G5:Hid (Gw κ w (w4.setCell ⟨w.heap.size+1+1,0,none⟩ (.string s))):=by
  have g:Gw κ w w4:=(Gs.YZ hb3).gw.trans ⟨G4.os,G4.tape,G4.output,G4.size,G4.block⟩;exact ⟨g.os,g.tape,g.output,by simpa using g.size,fun q hq a b c d e9 e8=>(Below.heap_setCell w4 ⟨w.heap.size+1+1,0,none⟩ _ q (by show q≠w.heap.size+1+1;exact fun e=>absurd hq (by rw [e];omega))).trans (g.block q hq a b c d e9 e8)⟩
 have n7:Hid ((w4.setCell ⟨w.heap.size+1+1,0,none⟩ (.string s)).cell? ⟨w.heap.size+1+1,0,none⟩=some (.string s)):=Zk _ _ _ n5;have n8:Hid (w.heap.size+1+1<(w4.setCell ⟨w.heap.size+1+1,0,none⟩ (.string s)).heap.size):=by
  have:=(Z3.mp n4).1;show _<_
  simpa using this
 clear G4 V4 V3 HC c3 hb3 HU HV n4
 go_wp2_with fail
 refine XE (f:=28) (args:=#[.pointer (some ⟨w.heap.size,0,none⟩),.pointer (some ⟨w.heap.size+1+1,0,none⟩)]) (by simp) (by simp [go_sem]) ?_;refine (zk _ _ _).mono ?_;rintro e u' w6 ⟨rfl,rfl,b6⟩;have n9:=(b6.cell (p:=⟨w.heap.size+1+1,0,none⟩) n8.out).trans n7.out;have FIN:=ZU (And.intro (G5.out.trans (Gs.YZ b6).gw) (show ∃ σ',p σ'∧Sv κ σ' w6 from ⟨σ',hp',V5.out.below b6⟩));clear b6 n7 n8 G5 V5
 simp [Leaves,settle,results,Tryz.results14,go_sem,n9]
 exact FIN.out
end
section
open Go.RowKit Go.Shelf
section
variable (w:World) (p:Value) (vo vn:Value) (mu:Bool) (pa s:ByteArray) (R:World→Prop)
theorem E8 (hU:∀W,Zi w W→Calls Tryz.prog 72 #[p] W fun e w'=>e=.returned (.string s)∧R w') :
    Calls Tryz.prog 34 #[p,.agg #[.int .i64 2,vo,.bool mu,.string pa,vn]] w fun e w'=>e=.returned (.string s)∧R w':=by
 have HU:=ZU (hU _ ((Below.refl w.heap.size w).alloc YR (.cells #[.int .i64 2,vo,.bool mu,.string pa,vn] 43)));clear hU
 go_enter Tryz.func34,Tryz.ntmps34
 go_wp2_with fail
 refine HU.out.mono ?_;rintro e w4 ⟨rfl,r4⟩;have F:=ZU r4;clear r4;go_wp2;go_ret;exact ⟨rfl,F.out⟩
theorem rg (hU:∀W,Zi w W→Calls Tryz.prog 76 #[p] W fun e w'=>e=.returned (.string s)∧R w') :
    Calls Tryz.prog 34 #[p,.agg #[.int .i64 6,vo,.bool mu,.string pa,vn]] w fun e w'=>e=.returned (.string s)∧R w':=by
 have HU:=ZU (hU _ ((Below.refl w.heap.size w).alloc YR (.cells #[.int .i64 6,vo,.bool mu,.string pa,vn] 43)));clear hU
 go_enter Tryz.func34,Tryz.ntmps34
 go_wp2_with fail
 refine HU.out.mono ?_;rintro e w4 ⟨rfl,r4⟩;have F:=ZU r4;clear r4;go_wp2;go_ret;exact ⟨rfl,F.out⟩
theorem C3 (hU:∀W,Zi w W→Calls Tryz.prog 78 #[p,.agg #[.int .i64 1,vo,.bool mu,.string pa,vn]] W fun e w'=>e=.returned (.string s)∧R w') :
    Calls Tryz.prog 34 #[p,.agg #[.int .i64 1,vo,.bool mu,.string pa,vn]] w fun e w'=>e=.returned (.string s)∧R w':=by
 have HU:=ZU (hU _ ((Below.refl w.heap.size w).alloc YR (.cells #[.int .i64 1,vo,.bool mu,.string pa,vn] 43)));clear hU
 go_enter Tryz.func34,Tryz.ntmps34
 go_wp2_with fail
 refine HU.out.mono ?_;rintro e w4 ⟨rfl,r4⟩;have F:=ZU r4;clear r4;go_wp2;go_ret;exact ⟨rfl,F.out⟩
theorem rf (z:Int) (hv:Rd .i64 w vn [z]) (hU:∀W,Zi w W→Calls Tryz.prog 77 #[p,.int .i64 z] W fun e w'=>e=.returned (.string s)∧R w') :
    Calls Tryz.prog 34 #[p,.agg #[.int .i64 7,vo,.bool mu,.string pa,vn]] w fun e w'=>e=.returned (.string s)∧R w':=by
 obtain ⟨ao,cp,rfl,h1,h2,h3⟩:=hv;obtain ⟨b,off,rfl,hb,hc⟩:=h3.resolve_left (by simp);have hc0:w.cell? ⟨b,off,none⟩=some (.int .i64 z):=hc 0 (by simp);have hb1:=(Below.refl w.heap.size w).alloc YR (.cells #[.int .i64 7,vo,.bool mu,.string pa,.slice (some ⟨b,off,none⟩) 1 cp] 43);have HU:=ZU (hU _ hb1);have c1:=(hb1.cell (p:=⟨b,off,none⟩) hb).trans hc0;have h1':1≤cp:=h1;clear hU hc h1 hb1;show Calls _ _ #[p,.agg #[.int .i64 7,vo,.bool mu,.string pa,.slice (some ⟨b,off,none⟩) 1 cp]] _ _
 go_enter Tryz.func34,Tryz.ntmps34
 go_wp2_with fail
 refine HU.out.mono ?_;rintro e w4 ⟨rfl,r4⟩;have F:=ZU r4;clear r4;go_wp2;go_ret;exact ⟨rfl,F.out⟩
end
end
section
open Go.RowKit Go.Conc
theorem E2 (w : World) (s : ByteArray) (y z : Nat) (hs : s.size ≤ 1000) (hy : y < 1000000) (hz : z < 1000000) (htab : Lib.TabIs Tryz.prog w "internal/strconv.uint64pow10" .u64 Lib.pow10Tab) :
    Calls Tryz.prog 71 #[.string s,.slice (some ⟨w.heap.size,0,none⟩) 2 2] (w.alloc (.cells #[.int .i64 (y:Int),.int .i64 (z:Int)] 2)) (Wj w (.string (strOfNums (VS s [y,z])))):=by
 have hb:=(Below.refl w.heap.size w).alloc YR (.cells #[.int .i64 (y:Int),.int .i64 (z:Int)] 2);refine (Fa _ s _ [y,z] ⟨_,2,rfl,YR,by decide,.inr ⟨w.heap.size,0,rfl,by simp,fun i hi=>?_⟩⟩ hs (by simp) (by simpa using ⟨hy,hz⟩) (Ra htab hb)).mono ?_
 · have:i=0∨i=1:=by simp at hi;omega
   rcases this with rfl | rfl
   all_goals
    rw [Yz _ w.heap.size _ _ _ _ (Zs w _)]
    rfl
 rintro e w' ⟨rfl,b⟩;exact ⟨rfl,WD hb b⟩
theorem Sv.taken {κ:Sc} {σ:Sx} {w w1:World} {s r:Nat} (h:Sv κ σ w) (hg:w.grownBy w1 (some κ.c)) (hc:w1.heap[κ.c]?=some (.chan κ.cap #[] false s r false)):Sv κ { σ with fs:=[] } w1∧Gs κ w w1:=by
 have G:=Gs.Jb (κ:=κ) hg (.inr (.inr (.inl rfl)));have hne:=h.ne;obtain ⟨vd,made,YN,a1,-⟩:=h.dk;refine ⟨h.re G rfl (hg.block _ a1.lt (by simp;exact fun e=>hne.2.1 e)) rfl (fun vt vq cp b1 b2 b3 b4 b5 b6 b7 b8=>⟨vt,vq,cp,Wo b1 hg.size (hg.block _ b1.lt (by simp;exact fun e=>hne.2.2.2.1 e)),b2,b3,b4,b5,b6,UJ.kept b7 hg (.inr (by simp [Value.ownBlock];exact fun e=>hne.2.2.2.2.2 e.symm)),b8⟩) (fun Lv s' r' _ _ _=>⟨[],s,r,hc,⟨rfl,fun i hi=>by simp at hi⟩,fun i hi=>by simp at hi⟩),G⟩
theorem CZ (κ:Sc) (σ:Sx) (w:World) (h:Sv κ σ w) (hf:σ.fs=[]) (hz:σ.zf<1000000) (htab:iC κ w) :
    Calls Tryz.prog 72 #[.pointer (some ⟨κ.sB,0,none⟩)] w fun e w'=>e=.returned (.string (strOfNums (VS ⟨#[102,108,117,115,104,101,100]⟩ [0,σ.zf])))∧Gs κ w w'∧Sv κ σ w':=by
 obtain ⟨vt,vq,cp,b1,-⟩:=h.mm;obtain ⟨vd,made,YN,a1,-⟩:=h.dk;obtain ⟨Lv,s,r,c1,c2,c3⟩:=h.ch;have HQ:=ZU (pW w κ.sB κ.mB κ.c κ.cap s r false Lv σ.fs (a1.cl 0 _ rfl) (b1.cl 4 _ rfl) c1 c2 (by rw [hf];simp) (by rw [hf];simp));have HV:=ZU h;clear a1 b1 c1 c2 c3 h
 go_enter Tryz.func72,Tryz.ntmps72
 go_wp2_with fail
 refine HQ.out.mono ?_;rintro e w1 ⟨v3,rfl,-,g1,r',c1⟩;obtain ⟨V1,G1⟩:=HV.out.taken g1 c1;have N:Sv κ σ w1:=by
  have e:{ σ with fs:=[] }=σ:=by cases σ;simp at hf;subst hf;rfl
  rw [e] at V1;exact V1
 obtain ⟨fO,fN,yA,b1,-⟩:=N.mm;obtain ⟨fM,vF,jW,a1,-⟩:=N.dk;have c0:=a1.cl 0 _ rfl;have m1:=b1.cl 1 _ rfl;have T1:=ZU (htab _ G1.gw);have F1:=ZU (And.intro G1 N);clear g1 c1 V1 G1 N a1 b1 HQ HV;rw [hf]
 go_wp2_with fail
 refine (E2 w1 ⟨#[102,108,117,115,104,101,100]⟩ 0 σ.zf (by decide) (by decide) hz T1.out).mono ?_;rintro e w4 ⟨rfl,b4⟩;have FIN:=ZU (And.intro (F1.out.1.trans (Gs.YZ b4)) (F1.out.2.below b4));clear b4 F1 T1;go_wp2;go_ret;exact ⟨rfl,FIN.out⟩
end
end Go.Proofs.YtpmjnbmkippaiaaGreatDoor


