import Derived.Test.YtdiingonnddkcaaGreatDoorJ16
import Derived.Test.YtdiingonnddkcaaGreatDoorJ15
import Derived.Test.YtdiingonnddkcaaGreatDoorJ05
import Derived.Test.YtdiingonnddkcaaGreatDoorJ08
namespace Go.Proofs.YtdiingonnddkcaaGreatDoor
open Go.RowKit Go.Extern.Stop Go.Stop Go.Extern

set_option linter.unusedSimpArgs false in
set_option maxHeartbeats 4000000 in
set_option maxRecDepth 100000 in
theorem as_oo (w : World) (c d : Int) (t a : Nat) (tg : Value) (ha : w.cell? ⟨a, 0, none⟩ = some (.pointer (some ⟨t, 0, none⟩))) (hal : a < w.heap.size) (ht : St w t [.int .i64 0, .nilIface]) :
    Calls Tryz.prog 91 #[.iface 115 (.agg #[.int .i64 c, .iface 71 (.agg #[.int .i64 d])]), tg, .agg #[.pointer (some ⟨7, 118, none⟩), .pointer (some ⟨a, 0, none⟩), .int .u64 150], .iface 171 (.agg #[.pointer (some ⟨7, 115, none⟩)])] w fun e w' => e = .returned (.bool true) ∧ St w' t [.int .i64 c, .iface 71 (.agg #[.int .i64 d])] ∧ Tw w t none w' none := by
  have hx1 := @run_callFunc_extern Tryz.prog 88 _ (fun args => ReflectliteValue.unpack (args.getD 0 (.tuple #[]))) Tryz.func88 (by kernel_rfl) (by kernel_rfl) (by kernel_rfl) (by kernel_rfl)
  have hx2 := @run_callFunc_extern Tryz.prog 89 _ (ReflectliteValue.methodAny (ReflectliteValue.valueError "reflectlite.Value.Type" 0) (fun t _ _ _ => ReflectliteType.toType t)) Tryz.func89 (by kernel_rfl) (by kernel_rfl) (by kernel_rfl) (by kernel_rfl)
  have hx3 := @run_callFunc_extern Tryz.prog 90 _ (ReflectliteValue.method (ReflectliteValue.valueError "reflectlite.Value.IsNil" 0) ReflectliteValue.isNil) Tryz.func90 (by kernel_rfl) (by kernel_rfl) (by kernel_rfl) (by kernel_rfl)
  have hx4 := @run_callFunc_extern Tryz.prog 171 _ (ReflectliteType.abiMethod fun t => do pure (.int .u8 (← Rtype.kind t))) Tryz.func171 (by kernel_rfl) (by kernel_rfl) (by kernel_rfl) (by kernel_rfl)
  have hx5 := @run_callFunc_extern Tryz.prog 183 _ (ReflectliteType.method ReflectliteType.elem) Tryz.func183 (by kernel_rfl) (by kernel_rfl) (by kernel_rfl) (by kernel_rfl)
  have hx6 := @run_callFunc_extern Tryz.prog 184 _ (ReflectliteType.relation "Implements" ReflectliteType.implements_) Tryz.func184 (by kernel_rfl) (by kernel_rfl) (by kernel_rfl) (by kernel_rfl)
  have hx7 := @run_callFunc_extern Tryz.prog 104 _ ReflectliteType.typeOf Tryz.func104 (by kernel_rfl) (by kernel_rfl) (by kernel_rfl) (by kernel_rfl)
  have hx8 := @run_callFunc_extern Tryz.prog 181 _ (ReflectliteType.relation "AssignableTo" ReflectliteType.assignableTo) Tryz.func181 (by kernel_rfl) (by kernel_rfl) (by kernel_rfl) (by kernel_rfl)
  have hx9 := @run_callFunc_extern Tryz.prog 105 _ (ReflectliteValue.method (ReflectliteValue.valueError "reflectlite.Value.Elem" 0) ReflectliteValue.elem) Tryz.func105 (by kernel_rfl) (by kernel_rfl) (by kernel_rfl) (by kernel_rfl)
  have hx10 := @run_callFunc_extern Tryz.prog 106 _ ReflectliteValue.set Tryz.func106 (by kernel_rfl) (by kernel_rfl) (by kernel_rfl) (by kernel_rfl)
  have mK := Tryz.rmK
  have mE := Tryz.rmE
  have mI := Tryz.rmI
  have mA := Tryz.rmA
  have tO := Tryz.rtoO
  have as1 := Tryz.rasoo
  have vE := Tryz.rvEO
  have htl := ht.lt
  have B1 : Hid (Below w.heap.size w (w.alloc (.cells #[.pointer (some ⟨7, 118, none⟩), .pointer (some ⟨a, 0, none⟩), .int .u64 150] 153))) := (Below.refl _ _).alloc (Nat.le_refl _) _
  have B2 : Hid (Below w.heap.size w ((w.alloc (.cells #[.pointer (some ⟨7, 118, none⟩), .pointer (some ⟨a, 0, none⟩), .int .u64 150] 153)).alloc (.cells #[.int .i64 c, .iface 71 (.agg #[.int .i64 d])] 115))) := B1.out.alloc B1.out.size _
  have T2 := hd9 (ht.below B2.out)
  have el := Tryz.revO ⟨a, 0, none⟩ ⟨t, 0, none⟩ (w.alloc (.cells #[.pointer (some ⟨7, 118, none⟩), .pointer (some ⟨a, 0, none⟩), .int .u64 150] 153)) ((B1.out.cell (p := ⟨a, 0, none⟩) hal).trans ha)
  have se := Tryz.rseO t (w.heap.size + 1) c d (.int .i64 0) .nilIface ((w.alloc (.cells #[.pointer (some ⟨7, 118, none⟩), .pointer (some ⟨a, 0, none⟩), .int .u64 150] 153)).alloc (.cells #[.int .i64 c, .iface 71 (.agg #[.int .i64 d])] 115)) (by rw [World.cell?_alloc_at _ _ _ _ (by simp)]; rfl) (by rw [World.cell?_alloc_at _ _ _ _ (by simp)]; rfl) (T2.out.cl 0 _ rfl) (T2.out.fz 0) (T2.out.cl 1 _ rfl) (T2.out.fz 1)
  go_enter Tryz.func91, Tryz.ntmps91
  go_wp2
  refine wp_loop_rounds 1 ?_
  rw [rounds_succ]
  go_wp2
  exact bodyPost_ret (v := .bool true) (by simp [results, Tryz.results91, go_sem]) rfl ⟨rfl, ((ht.set 0 _).set 1 _).below (below2 _ _ _), (Tw.refl w t none).set.set.trans (Tw.ofBelow (below2 _ _ _) t none)⟩

set_option linter.unusedSimpArgs false in
set_option maxHeartbeats 4000000 in
set_option maxRecDepth 100000 in
theorem as_fo (w : World) (c : Int) (a : Nat) (tg : Value) :
    Calls Tryz.prog 91 #[.iface 71 (.agg #[.int .i64 c]), tg, .agg #[.pointer (some ⟨7, 118, none⟩), .pointer (some ⟨a, 0, none⟩), .int .u64 150], .iface 171 (.agg #[.pointer (some ⟨7, 115, none⟩)])] w fun e w' => e = .returned (.bool false) ∧ Below w.heap.size w w' := by
  have hx1 := @run_callFunc_extern Tryz.prog 88 _ (fun args => ReflectliteValue.unpack (args.getD 0 (.tuple #[]))) Tryz.func88 (by kernel_rfl) (by kernel_rfl) (by kernel_rfl) (by kernel_rfl)
  have hx2 := @run_callFunc_extern Tryz.prog 89 _ (ReflectliteValue.methodAny (ReflectliteValue.valueError "reflectlite.Value.Type" 0) (fun t _ _ _ => ReflectliteType.toType t)) Tryz.func89 (by kernel_rfl) (by kernel_rfl) (by kernel_rfl) (by kernel_rfl)
  have hx3 := @run_callFunc_extern Tryz.prog 90 _ (ReflectliteValue.method (ReflectliteValue.valueError "reflectlite.Value.IsNil" 0) ReflectliteValue.isNil) Tryz.func90 (by kernel_rfl) (by kernel_rfl) (by kernel_rfl) (by kernel_rfl)
  have hx4 := @run_callFunc_extern Tryz.prog 171 _ (ReflectliteType.abiMethod fun t => do pure (.int .u8 (← Rtype.kind t))) Tryz.func171 (by kernel_rfl) (by kernel_rfl) (by kernel_rfl) (by kernel_rfl)
  have hx5 := @run_callFunc_extern Tryz.prog 183 _ (ReflectliteType.method ReflectliteType.elem) Tryz.func183 (by kernel_rfl) (by kernel_rfl) (by kernel_rfl) (by kernel_rfl)
  have hx6 := @run_callFunc_extern Tryz.prog 184 _ (ReflectliteType.relation "Implements" ReflectliteType.implements_) Tryz.func184 (by kernel_rfl) (by kernel_rfl) (by kernel_rfl) (by kernel_rfl)
  have hx7 := @run_callFunc_extern Tryz.prog 104 _ ReflectliteType.typeOf Tryz.func104 (by kernel_rfl) (by kernel_rfl) (by kernel_rfl) (by kernel_rfl)
  have hx8 := @run_callFunc_extern Tryz.prog 181 _ (ReflectliteType.relation "AssignableTo" ReflectliteType.assignableTo) Tryz.func181 (by kernel_rfl) (by kernel_rfl) (by kernel_rfl) (by kernel_rfl)
  have hx9 := @run_callFunc_extern Tryz.prog 105 _ (ReflectliteValue.method (ReflectliteValue.valueError "reflectlite.Value.Elem" 0) ReflectliteValue.elem) Tryz.func105 (by kernel_rfl) (by kernel_rfl) (by kernel_rfl) (by kernel_rfl)
  have hx10 := @run_callFunc_extern Tryz.prog 106 _ ReflectliteValue.set Tryz.func106 (by kernel_rfl) (by kernel_rfl) (by kernel_rfl) (by kernel_rfl)
  have mK := Tryz.rmK
  have mE := Tryz.rmE
  have mI := Tryz.rmI
  have mA := Tryz.rmA
  have tO := Tryz.rtoF
  have as1 := Tryz.rasfo
  have n1 := Tryz.rnAf
  have n2 := Tryz.rnUf
  have n3 := Tryz.rnVf
  go_enter Tryz.func91, Tryz.ntmps91
  go_wp2
  refine wp_loop_rounds 1 ?_
  rw [rounds_succ]
  go_wp2
  exact bodyPost_ret (v := .bool false) (by simp [results, Tryz.results91, go_sem]) rfl ⟨rfl, (Below.refl _ _).alloc (Nat.le_refl _) _⟩

theorem unwrap_any (w : World) (c : Int) (v : Value) : Calls Tryz.prog 176 #[.agg #[.int .i64 c, v]] w fun e w' => e = .returned v ∧ Below w.heap.size w w' := by
  go_enter Tryz.func176, Tryz.ntmps176
  go_wp2
  exact bodyPost_ret (v := v) (by simp [results, Tryz.results176, go_sem]) rfl ⟨rfl, (Below.refl _ _).alloc (Nat.le_refl _) _⟩

set_option linter.unusedSimpArgs false in
set_option maxHeartbeats 4000000 in
set_option maxRecDepth 100000 in
theorem as_of (w : World) (c d : Int) (t a : Nat) (tg : Value) (ha : w.cell? ⟨a, 0, none⟩ = some (.pointer (some ⟨t, 0, none⟩))) (hal : a < w.heap.size) (ht : St w t [.int .i64 0]) :
    Calls Tryz.prog 91 #[.iface 115 (.agg #[.int .i64 c, .iface 71 (.agg #[.int .i64 d])]), tg, .agg #[.pointer (some ⟨7, 117, none⟩), .pointer (some ⟨a, 0, none⟩), .int .u64 150], .iface 171 (.agg #[.pointer (some ⟨7, 71, none⟩)])] w fun e w' => e = .returned (.bool true) ∧ St w' t [.int .i64 d] ∧ Tw w t none w' none := by
  have hx1 := @run_callFunc_extern Tryz.prog 88 _ (fun args => ReflectliteValue.unpack (args.getD 0 (.tuple #[]))) Tryz.func88 (by kernel_rfl) (by kernel_rfl) (by kernel_rfl) (by kernel_rfl)
  have hx2 := @run_callFunc_extern Tryz.prog 89 _ (ReflectliteValue.methodAny (ReflectliteValue.valueError "reflectlite.Value.Type" 0) (fun t _ _ _ => ReflectliteType.toType t)) Tryz.func89 (by kernel_rfl) (by kernel_rfl) (by kernel_rfl) (by kernel_rfl)
  have hx3 := @run_callFunc_extern Tryz.prog 90 _ (ReflectliteValue.method (ReflectliteValue.valueError "reflectlite.Value.IsNil" 0) ReflectliteValue.isNil) Tryz.func90 (by kernel_rfl) (by kernel_rfl) (by kernel_rfl) (by kernel_rfl)
  have hx4 := @run_callFunc_extern Tryz.prog 171 _ (ReflectliteType.abiMethod fun t => do pure (.int .u8 (← Rtype.kind t))) Tryz.func171 (by kernel_rfl) (by kernel_rfl) (by kernel_rfl) (by kernel_rfl)
  have hx5 := @run_callFunc_extern Tryz.prog 183 _ (ReflectliteType.method ReflectliteType.elem) Tryz.func183 (by kernel_rfl) (by kernel_rfl) (by kernel_rfl) (by kernel_rfl)
  have hx6 := @run_callFunc_extern Tryz.prog 184 _ (ReflectliteType.relation "Implements" ReflectliteType.implements_) Tryz.func184 (by kernel_rfl) (by kernel_rfl) (by kernel_rfl) (by kernel_rfl)
  have hx7 := @run_callFunc_extern Tryz.prog 104 _ ReflectliteType.typeOf Tryz.func104 (by kernel_rfl) (by kernel_rfl) (by kernel_rfl) (by kernel_rfl)
  have hx8 := @run_callFunc_extern Tryz.prog 181 _ (ReflectliteType.relation "AssignableTo" ReflectliteType.assignableTo) Tryz.func181 (by kernel_rfl) (by kernel_rfl) (by kernel_rfl) (by kernel_rfl)
  have hx9 := @run_callFunc_extern Tryz.prog 105 _ (ReflectliteValue.method (ReflectliteValue.valueError "reflectlite.Value.Elem" 0) ReflectliteValue.elem) Tryz.func105 (by kernel_rfl) (by kernel_rfl) (by kernel_rfl) (by kernel_rfl)
  have hx10 := @run_callFunc_extern Tryz.prog 106 _ ReflectliteValue.set Tryz.func106 (by kernel_rfl) (by kernel_rfl) (by kernel_rfl) (by kernel_rfl)
  have mK := Tryz.rmK
  have mE := Tryz.rmE
  have mI := Tryz.rmI
  have mA := Tryz.rmA
  have tO := Tryz.rtoO
  have tF := Tryz.rtoF
  have as1 := Tryz.rasof
  have as2 := Tryz.rasff
  have n1 := Tryz.rnAo
  have n2 := Tryz.ryUo
  have mU := Tryz.rmU
  have vE := Tryz.rvEF
  have HT := hd9 ht
  have htl := ht.lt
  have B1 : Hid (Below w.heap.size w (w.alloc (.cells #[.pointer (some ⟨7, 117, none⟩), .pointer (some ⟨a, 0, none⟩), .int .u64 150] 153))) := (Below.refl _ _).alloc (Nat.le_refl _) _
  have X1 : Hid (St (w.alloc (.cells #[.pointer (some ⟨7, 117, none⟩), .pointer (some ⟨a, 0, none⟩), .int .u64 150] 153)) w.heap.size [.pointer (some ⟨7, 117, none⟩), .pointer (some ⟨a, 0, none⟩), .int .u64 150]) := St.new _ _ _
  have HA := hd9 ha
  clear ha ht
  go_enter Tryz.func91, Tryz.ntmps91
  go_wp2
  refine wp_loop_rounds 2 ?_
  rw [rounds_succ]
  generalize w.alloc (.cells #[.pointer (some ⟨7, 117, none⟩), .pointer (some ⟨a, 0, none⟩), .int .u64 150] 153) = w1 at *
  go_wp2_with (go_at_call 176; refine (unwrap_any w1 c _).mono ?_)
  rintro e w3 ⟨rfl, b3⟩
  have B3 := hd9 (B1.out.trans (b3.mono B1.out.size))
  have X3 := X1.out.below b3
  have x0 := X3.cl 0 _ rfl
  have x1 := X3.cl 1 _ rfl
  have x2 := X3.cl 2 _ rfl
  have T3 := hd9 (HT.out.below B3.out)
  have el := Tryz.revF ⟨a, 0, none⟩ ⟨t, 0, none⟩ w3 ((B3.out.cell (p := ⟨a, 0, none⟩) hal).trans HA.out)
  have A4 : Hid (Below w3.heap.size w3 (w3.alloc (.cells #[.int .i64 d] 71))) := (Below.refl _ _).alloc (Nat.le_refl _) _
  have T4 := hd9 (T3.out.below A4.out)
  have se := Tryz.rseF t w3.heap.size d (.int .i64 0) (w3.alloc (.cells #[.int .i64 d] 71)) (by rw [World.cell?_alloc_at _ _ _ _ (by simp)]; rfl) (T4.out.cl 0 _ rfl) (T4.out.fz 0)
  have htl3 := T3.out.lt
  clear b3 X3
  go_wp2
  rw [rounds_succ]
  go_wp2
  exact bodyPost_ret (v := .bool true) (by simp [results, Tryz.results91, go_sem]) rfl ⟨rfl, (T3.out.set 0 _).below ((Below.refl _ _).alloc (Nat.le_refl _) _), (Tw.ofBelow B3.out t none).set.trans (Tw.ofBelow ((Below.refl _ _).alloc (Nat.le_refl _) _) t none)⟩


set_option linter.unusedSimpArgs false in
set_option maxHeartbeats 4000000 in
set_option maxRecDepth 100000 in
/-- errors.As, by errors.as. -/
theorem AsF (w : World) (et : TypeId) (ex : Value) (t : Nat) (b : Bool) (Q : World → Prop) (hg : w.cell? ⟨0, 0, none⟩ = some (.iface 171 (.agg #[.pointer (some ⟨7, 77, none⟩)]))) (h0 : 0 < w.heap.size)
    (h : ∀ W, Below w.heap.size w W → W.cell? ⟨w.heap.size, 0, none⟩ = some (.pointer (some ⟨t, 0, none⟩)) → w.heap.size < W.heap.size → Calls Tryz.prog 91 #[.iface et ex, .iface 117 (.pointer (some ⟨t, 0, none⟩)), .agg #[.pointer (some ⟨7, 117, none⟩), .pointer (some ⟨w.heap.size, 0, none⟩), .int .u64 150], .iface 171 (.agg #[.pointer (some ⟨7, 71, none⟩)])] W fun e w' => e = .returned (.bool b) ∧ Q w') :
    Calls Tryz.prog 57 #[.iface et ex, .iface 117 (.pointer (some ⟨t, 0, none⟩))] w fun e w' => e = .returned (.bool b) ∧ Q w' := by
  have hx1 := @run_callFunc_extern Tryz.prog 88 _ (fun args => ReflectliteValue.unpack (args.getD 0 (.tuple #[]))) Tryz.func88 (by kernel_rfl) (by kernel_rfl) (by kernel_rfl) (by kernel_rfl)
  have hx2 := @run_callFunc_extern Tryz.prog 89 _ (ReflectliteValue.methodAny (ReflectliteValue.valueError "reflectlite.Value.Type" 0) (fun t _ _ _ => ReflectliteType.toType t)) Tryz.func89 (by kernel_rfl) (by kernel_rfl) (by kernel_rfl) (by kernel_rfl)
  have hx3 := @run_callFunc_extern Tryz.prog 90 _ (ReflectliteValue.method (ReflectliteValue.valueError "reflectlite.Value.IsNil" 0) ReflectliteValue.isNil) Tryz.func90 (by kernel_rfl) (by kernel_rfl) (by kernel_rfl) (by kernel_rfl)
  have hx4 := @run_callFunc_extern Tryz.prog 171 _ (ReflectliteType.abiMethod fun t => do pure (.int .u8 (← Rtype.kind t))) Tryz.func171 (by kernel_rfl) (by kernel_rfl) (by kernel_rfl) (by kernel_rfl)
  have hx5 := @run_callFunc_extern Tryz.prog 183 _ (ReflectliteType.method ReflectliteType.elem) Tryz.func183 (by kernel_rfl) (by kernel_rfl) (by kernel_rfl) (by kernel_rfl)
  have hx6 := @run_callFunc_extern Tryz.prog 184 _ (ReflectliteType.relation "Implements" ReflectliteType.implements_) Tryz.func184 (by kernel_rfl) (by kernel_rfl) (by kernel_rfl) (by kernel_rfl)
  have hx7 := @run_callFunc_extern Tryz.prog 104 _ ReflectliteType.typeOf Tryz.func104 (by kernel_rfl) (by kernel_rfl) (by kernel_rfl) (by kernel_rfl)
  have hx8 := @run_callFunc_extern Tryz.prog 181 _ (ReflectliteType.relation "AssignableTo" ReflectliteType.assignableTo) Tryz.func181 (by kernel_rfl) (by kernel_rfl) (by kernel_rfl) (by kernel_rfl)
  have hx9 := @run_callFunc_extern Tryz.prog 105 _ (ReflectliteValue.method (ReflectliteValue.valueError "reflectlite.Value.Elem" 0) ReflectliteValue.elem) Tryz.func105 (by kernel_rfl) (by kernel_rfl) (by kernel_rfl) (by kernel_rfl)
  have hx10 := @run_callFunc_extern Tryz.prog 106 _ ReflectliteValue.set Tryz.func106 (by kernel_rfl) (by kernel_rfl) (by kernel_rfl) (by kernel_rfl)
  have mK := Tryz.rmK
  have mE := Tryz.rmE
  have mI := Tryz.rmI
  have mA := Tryz.rmA
  have f1 := Tryz.rvPF
  have f2 := Tryz.rtyF
  have k1 := Tryz.rkPF
  have k2 := Tryz.rkEF
  have e1 := Tryz.relF
  have i1 := Tryz.rimF
  have B1 : Hid (Below w.heap.size w ((w.alloc (.cells #[.pointer (some ⟨t, 0, none⟩)] 117)).alloc (.cells #[.pointer (some ⟨7, 117, none⟩), .pointer (some ⟨w.heap.size, 0, none⟩), .int .u64 150] 153))) := below2 w _ _
  have hg2 := (B1.out.cell (p := ⟨0, 0, none⟩) h0).trans hg
  have hc2 : ((w.alloc (.cells #[.pointer (some ⟨t, 0, none⟩)] 117)).alloc (.cells #[.pointer (some ⟨7, 117, none⟩), .pointer (some ⟨w.heap.size, 0, none⟩), .int .u64 150] 153)).cell? ⟨w.heap.size, 0, none⟩ = some (.pointer (some ⟨t, 0, none⟩)) := by go_simp
  have n8 := Tryz.rinF ⟨w.heap.size, 0, none⟩ ⟨t, 0, none⟩ ((w.alloc (.cells #[.pointer (some ⟨t, 0, none⟩)] 117)).alloc (.cells #[.pointer (some ⟨7, 117, none⟩), .pointer (some ⟨w.heap.size, 0, none⟩), .int .u64 150] 153)) hc2
  have HC := hd9 (h _ B1.out hc2 (by simp; omega))
  clear h hc2 hg
  go_enter Tryz.func57, Tryz.ntmps57
  go_wp2_with (go_at_call 91; refine HC.out.mono ?_)
  rintro e w5 ⟨rfl, q5⟩
  have Q5 := hd9 q5
  clear q5 HC
  go_wp2_with fail
  exact bodyPost_ret (v := .bool b) (by simp [results, Tryz.results57, go_sem]) rfl ⟨rfl, Q5.out⟩

set_option linter.unusedSimpArgs false in
set_option maxHeartbeats 4000000 in
set_option maxRecDepth 100000 in
/-- errors.As, by errors.as. -/
theorem AsO (w : World) (et : TypeId) (ex : Value) (t : Nat) (b : Bool) (Q : World → Prop) (hg : w.cell? ⟨0, 0, none⟩ = some (.iface 171 (.agg #[.pointer (some ⟨7, 77, none⟩)]))) (h0 : 0 < w.heap.size)
    (h : ∀ W, Below w.heap.size w W → W.cell? ⟨w.heap.size, 0, none⟩ = some (.pointer (some ⟨t, 0, none⟩)) → w.heap.size < W.heap.size → Calls Tryz.prog 91 #[.iface et ex, .iface 118 (.pointer (some ⟨t, 0, none⟩)), .agg #[.pointer (some ⟨7, 118, none⟩), .pointer (some ⟨w.heap.size, 0, none⟩), .int .u64 150], .iface 171 (.agg #[.pointer (some ⟨7, 115, none⟩)])] W fun e w' => e = .returned (.bool b) ∧ Q w') :
    Calls Tryz.prog 57 #[.iface et ex, .iface 118 (.pointer (some ⟨t, 0, none⟩))] w fun e w' => e = .returned (.bool b) ∧ Q w' := by
  have hx1 := @run_callFunc_extern Tryz.prog 88 _ (fun args => ReflectliteValue.unpack (args.getD 0 (.tuple #[]))) Tryz.func88 (by kernel_rfl) (by kernel_rfl) (by kernel_rfl) (by kernel_rfl)
  have hx2 := @run_callFunc_extern Tryz.prog 89 _ (ReflectliteValue.methodAny (ReflectliteValue.valueError "reflectlite.Value.Type" 0) (fun t _ _ _ => ReflectliteType.toType t)) Tryz.func89 (by kernel_rfl) (by kernel_rfl) (by kernel_rfl) (by kernel_rfl)
  have hx3 := @run_callFunc_extern Tryz.prog 90 _ (ReflectliteValue.method (ReflectliteValue.valueError "reflectlite.Value.IsNil" 0) ReflectliteValue.isNil) Tryz.func90 (by kernel_rfl) (by kernel_rfl) (by kernel_rfl) (by kernel_rfl)
  have hx4 := @run_callFunc_extern Tryz.prog 171 _ (ReflectliteType.abiMethod fun t => do pure (.int .u8 (← Rtype.kind t))) Tryz.func171 (by kernel_rfl) (by kernel_rfl) (by kernel_rfl) (by kernel_rfl)
  have hx5 := @run_callFunc_extern Tryz.prog 183 _ (ReflectliteType.method ReflectliteType.elem) Tryz.func183 (by kernel_rfl) (by kernel_rfl) (by kernel_rfl) (by kernel_rfl)
  have hx6 := @run_callFunc_extern Tryz.prog 184 _ (ReflectliteType.relation "Implements" ReflectliteType.implements_) Tryz.func184 (by kernel_rfl) (by kernel_rfl) (by kernel_rfl) (by kernel_rfl)
  have hx7 := @run_callFunc_extern Tryz.prog 104 _ ReflectliteType.typeOf Tryz.func104 (by kernel_rfl) (by kernel_rfl) (by kernel_rfl) (by kernel_rfl)
  have hx8 := @run_callFunc_extern Tryz.prog 181 _ (ReflectliteType.relation "AssignableTo" ReflectliteType.assignableTo) Tryz.func181 (by kernel_rfl) (by kernel_rfl) (by kernel_rfl) (by kernel_rfl)
  have hx9 := @run_callFunc_extern Tryz.prog 105 _ (ReflectliteValue.method (ReflectliteValue.valueError "reflectlite.Value.Elem" 0) ReflectliteValue.elem) Tryz.func105 (by kernel_rfl) (by kernel_rfl) (by kernel_rfl) (by kernel_rfl)
  have hx10 := @run_callFunc_extern Tryz.prog 106 _ ReflectliteValue.set Tryz.func106 (by kernel_rfl) (by kernel_rfl) (by kernel_rfl) (by kernel_rfl)
  have mK := Tryz.rmK
  have mE := Tryz.rmE
  have mI := Tryz.rmI
  have mA := Tryz.rmA
  have f1 := Tryz.rvPO
  have f2 := Tryz.rtyO
  have k1 := Tryz.rkPO
  have k2 := Tryz.rkEO
  have e1 := Tryz.relO
  have i1 := Tryz.rimO
  have B1 : Hid (Below w.heap.size w ((w.alloc (.cells #[.pointer (some ⟨t, 0, none⟩)] 118)).alloc (.cells #[.pointer (some ⟨7, 118, none⟩), .pointer (some ⟨w.heap.size, 0, none⟩), .int .u64 150] 153))) := below2 w _ _
  have hg2 := (B1.out.cell (p := ⟨0, 0, none⟩) h0).trans hg
  have hc2 : ((w.alloc (.cells #[.pointer (some ⟨t, 0, none⟩)] 118)).alloc (.cells #[.pointer (some ⟨7, 118, none⟩), .pointer (some ⟨w.heap.size, 0, none⟩), .int .u64 150] 153)).cell? ⟨w.heap.size, 0, none⟩ = some (.pointer (some ⟨t, 0, none⟩)) := by go_simp
  have n8 := Tryz.rinO ⟨w.heap.size, 0, none⟩ ⟨t, 0, none⟩ ((w.alloc (.cells #[.pointer (some ⟨t, 0, none⟩)] 118)).alloc (.cells #[.pointer (some ⟨7, 118, none⟩), .pointer (some ⟨w.heap.size, 0, none⟩), .int .u64 150] 153)) hc2
  have HC := hd9 (h _ B1.out hc2 (by simp; omega))
  clear h hc2 hg
  go_enter Tryz.func57, Tryz.ntmps57
  go_wp2_with (go_at_call 91; refine HC.out.mono ?_)
  rintro e w5 ⟨rfl, q5⟩
  have Q5 := hd9 q5
  clear q5 HC
  go_wp2_with fail
  exact bodyPost_ret (v := .bool b) (by simp [results, Tryz.results57, go_sem]) rfl ⟨rfl, Q5.out⟩


/-- The boxes of 'refused'. -/
structure Rf4 (w W : World) : Prop where
  b : Below w.heap.size w W
  r : St W w.heap.size [.int .i64 0, .int .i64 0, .slice none 0 0, .int .i64 0, .slice none 0 0]
  y : St W (w.heap.size + 1) [.int .i64 0]
  z : St W (w.heap.size + 2) [.int .i64 0, .nilIface]
  p : St W (w.heap.size + 3) [.int .i64 0, .int .i64 0, .slice none 0 0, .int .i64 0, .slice none 0 0]
theorem Rf4.new (w : World) : Rf4 w ((((w.alloc (.cells #[.int .i64 0, .int .i64 0, .slice none 0 0, .int .i64 0, .slice none 0 0] 37)).alloc (.cells #[.int .i64 0] 71)).alloc (.cells #[.int .i64 0, .nilIface] 115)).alloc (.cells #[.int .i64 0, .int .i64 0, .slice none 0 0, .int .i64 0, .slice none 0 0] 37)) := by
  have e1 : (w.alloc (.cells #[.int .i64 0, .int .i64 0, .slice none 0 0, .int .i64 0, .slice none 0 0] 37)).heap.size = w.heap.size + 1 := by simp
  have e2 : ((w.alloc (.cells #[.int .i64 0, .int .i64 0, .slice none 0 0, .int .i64 0, .slice none 0 0] 37)).alloc (.cells #[.int .i64 0] 71)).heap.size = w.heap.size + 2 := by simp
  have e3 : (((w.alloc (.cells #[.int .i64 0, .int .i64 0, .slice none 0 0, .int .i64 0, .slice none 0 0] 37)).alloc (.cells #[.int .i64 0] 71)).alloc (.cells #[.int .i64 0, .nilIface] 115)).heap.size = w.heap.size + 3 := by simp
  have a1 : ∀ (W : World) (o : Obj), Below W.heap.size W (W.alloc o) := fun W o => (Below.refl _ _).alloc (Nat.le_refl _) _
  have s0 := St.new w #[.int .i64 0, .int .i64 0, .slice none 0 0, .int .i64 0, .slice none 0 0] 37
  have s1 := St.new (w.alloc (.cells #[.int .i64 0, .int .i64 0, .slice none 0 0, .int .i64 0, .slice none 0 0] 37)) #[.int .i64 0] 71
  have s2 := St.new ((w.alloc (.cells #[.int .i64 0, .int .i64 0, .slice none 0 0, .int .i64 0, .slice none 0 0] 37)).alloc (.cells #[.int .i64 0] 71)) #[.int .i64 0, .nilIface] 115
  have s3 := St.new (((w.alloc (.cells #[.int .i64 0, .int .i64 0, .slice none 0 0, .int .i64 0, .slice none 0 0] 37)).alloc (.cells #[.int .i64 0] 71)).alloc (.cells #[.int .i64 0, .nilIface] 115)) #[.int .i64 0, .int .i64 0, .slice none 0 0, .int .i64 0, .slice none 0 0] 37
  rw [e1] at s1
  rw [e2] at s2
  rw [e3] at s3
  exact ⟨below4 w _ _ _ _, ((s0.below (a1 _ _)).below (a1 _ _)).below (a1 _ _), (s1.below (a1 _ _)).below (a1 _ _), s2.below (a1 _ _), s3⟩

set_option linter.unusedSimpArgs false in
set_option maxHeartbeats 4000000 in
set_option maxRecDepth 100000 in
theorem refused_f (w : World) (c : Int) (hg : w.cell? ⟨0, 0, none⟩ = some (.iface 171 (.agg #[.pointer (some ⟨7, 77, none⟩)]))) (h0 : 0 < w.heap.size) :
    Calls Tryz.prog 28 #[.iface 71 (.agg #[.int .i64 c])] w fun e w' => e = .returned (.agg #[.int .i64 c, .int .i64 0, .slice none 0 0, .int .i64 0, .slice none 0 0]) ∧ Below w.heap.size w w' := by
  have R4 := hd9 (Rf4.new w)
  have HG := hd9 hg
  clear hg
  go_enter Tryz.func28, Tryz.ntmps28
  go_wp2_with fail
  generalize ((((w.alloc (.cells #[.int .i64 0, .int .i64 0, .slice none 0 0, .int .i64 0, .slice none 0 0] 37)).alloc (.cells #[.int .i64 0] 71)).alloc (.cells #[.int .i64 0, .nilIface] 115)).alloc (.cells #[.int .i64 0, .int .i64 0, .slice none 0 0, .int .i64 0, .slice none 0 0] 37)) = w4 at *
  have HG4 := (R4.out.b.cell (p := ⟨0, 0, none⟩) h0).trans HG.out
  refine (AsF w4 _ _ (w.heap.size + 1) true (fun w' => St w' (w.heap.size + 1) [.int .i64 c] ∧ Tw w4 (w.heap.size + 1) none w' none) HG4 (by have := R4.out.b.size; omega) (fun W hW hc hl => ?_)).mono ?_
  · refine (as_ff W c (w.heap.size + 1) w4.heap.size _ hc hl (R4.out.y.below hW)).mono ?_
    rintro e w' ⟨rfl, s9, t9⟩
    exact ⟨rfl, s9, (Tw.ofBelow hW _ none).trans t9⟩
  clear HG4
  rintro e w5 ⟨rfl, y5, t5⟩
  have Y5 := hd9 y5
  have B5 := hd9 (R4.out.b.trans (t5.below R4.out.b.size (by omega) (fun g h => by cases h)))
  have P5 := hd9 (t5.st R4.out.p (by omega) (by simp))
  have Z5 := hd9 (t5.st R4.out.z (by omega) (by simp))
  have R5 := hd9 (t5.st R4.out.r (by omega) (by simp))
  clear y5 t5 R4
  have y0 := Y5.out.cl 0 _ rfl
  have p0 := P5.out.cl 0 _ rfl
  have pf := P5.out.fz 0
  have P6 := hd9 (P5.out.set 0 (.int .i64 c))
  have Z6 := hd9 (Z5.out.other (c := w.heap.size + 3) (j := 0) (x := .int .i64 c) (by omega))
  have R6 := hd9 (R5.out.other (c := w.heap.size + 3) (j := 0) (x := .int .i64 c) (by omega))
  have B6 : Hid (Below w.heap.size w (w5.setCell ⟨w.heap.size + 3, 0, none⟩ (.int .i64 c))) := Below.setCell B5.out (by simp) _
  go_wp2_with fail
  clear y0 p0 pf P5 Z5 R5 B5 Y5
  generalize w5.setCell _ _ = w6 at *
  have HG6 := (B6.out.cell (p := ⟨0, 0, none⟩) h0).trans HG.out
  refine (AsO w6 _ _ (w.heap.size + 2) false (fun w' => Below w6.heap.size w6 w') HG6 (by have := B6.out.size; omega) (fun W hW hc hl => ?_)).mono ?_
  · refine (as_fo W c w6.heap.size _).mono ?_
    rintro e w' ⟨rfl, b9⟩
    exact ⟨rfl, hW.trans (b9.mono hW.size)⟩
  clear HG6
  rintro e w7 ⟨rfl, b7⟩
  have B7 := hd9 (B6.out.trans (b7.mono B6.out.size))
  have P7 := P6.out.below b7
  have R7 := R6.out.below b7
  have p0 := P7.cl 0 _ rfl
  have p1 := P7.cl 1 _ rfl
  have p2 := P7.cl 2 _ rfl
  have p3 := P7.cl 3 _ rfl
  have p4 := P7.cl 4 _ rfl
  have q1 := P7.fz 1
  have r0 := R7.cl 0 _ rfl
  have r1 := R7.cl 1 _ rfl
  have r2 := R7.cl 2 _ rfl
  have r3 := R7.cl 3 _ rfl
  have r4 := R7.cl 4 _ rfl
  have g0 := R7.fz 0
  have g1 := R7.fz 1
  have g2 := R7.fz 2
  have g3 := R7.fz 3
  have g4 := R7.fz 4
  clear P6 Z6 R6 B6
  go_wp2_with fail
  refine bodyPost_ret (v := .agg #[.int .i64 c, .int .i64 0, .slice none 0 0, .int .i64 0, .slice none 0 0]) (by simp [results, Tryz.results28, go_sem, p0, p1, p2, p3, p4, r0, r1, r2, r3, r4]) rfl ⟨rfl, ?_⟩
  repeat (first | exact B7.out | refine Below.setCell ?_ (by simp; try omega) _)

set_option linter.unusedSimpArgs false in
set_option maxHeartbeats 4000000 in
set_option maxRecDepth 100000 in
theorem refused_o (w : World) (j c : Int) (hg : w.cell? ⟨0, 0, none⟩ = some (.iface 171 (.agg #[.pointer (some ⟨7, 77, none⟩)]))) (h0 : 0 < w.heap.size) :
    Calls Tryz.prog 28 #[.iface 115 (.agg #[.int .i64 j, .iface 71 (.agg #[.int .i64 c])])] w fun e w' => e = .returned (.agg #[.int .i64 c, .int .i64 j, .slice none 0 0, .int .i64 0, .slice none 0 0]) ∧ Below w.heap.size w w' := by
  have R4 := hd9 (Rf4.new w)
  have HG := hd9 hg
  clear hg
  go_enter Tryz.func28, Tryz.ntmps28
  go_wp2_with fail
  generalize ((((w.alloc (.cells #[.int .i64 0, .int .i64 0, .slice none 0 0, .int .i64 0, .slice none 0 0] 37)).alloc (.cells #[.int .i64 0] 71)).alloc (.cells #[.int .i64 0, .nilIface] 115)).alloc (.cells #[.int .i64 0, .int .i64 0, .slice none 0 0, .int .i64 0, .slice none 0 0] 37)) = w4 at *
  have HG4 := (R4.out.b.cell (p := ⟨0, 0, none⟩) h0).trans HG.out
  refine (AsF w4 _ _ (w.heap.size + 1) true (fun w' => St w' (w.heap.size + 1) [.int .i64 c] ∧ Tw w4 (w.heap.size + 1) none w' none) HG4 (by have := R4.out.b.size; omega) (fun W hW hc hl => ?_)).mono ?_
  · refine (as_of W j c (w.heap.size + 1) w4.heap.size _ hc hl (R4.out.y.below hW)).mono ?_
    rintro e w' ⟨rfl, s9, t9⟩
    exact ⟨rfl, s9, (Tw.ofBelow hW _ none).trans t9⟩
  clear HG4
  rintro e w5 ⟨rfl, y5, t5⟩
  have Y5 := hd9 y5
  have B5 := hd9 (R4.out.b.trans (t5.below R4.out.b.size (by omega) (fun g h => by cases h)))
  have P5 := hd9 (t5.st R4.out.p (by omega) (by simp))
  have Z5 := hd9 (t5.st R4.out.z (by omega) (by simp))
  have R5 := hd9 (t5.st R4.out.r (by omega) (by simp))
  clear y5 t5 R4
  have y0 := Y5.out.cl 0 _ rfl
  have p0 := P5.out.cl 0 _ rfl
  have pf := P5.out.fz 0
  have P6 := hd9 (P5.out.set 0 (.int .i64 c))
  have Z6 := hd9 (Z5.out.other (c := w.heap.size + 3) (j := 0) (x := .int .i64 c) (by omega))
  have R6 := hd9 (R5.out.other (c := w.heap.size + 3) (j := 0) (x := .int .i64 c) (by omega))
  have B6 : Hid (Below w.heap.size w (w5.setCell ⟨w.heap.size + 3, 0, none⟩ (.int .i64 c))) := Below.setCell B5.out (by simp) _
  go_wp2_with fail
  clear y0 p0 pf P5 Z5 R5 B5 Y5
  generalize w5.setCell _ _ = w6 at *
  have HG6 := (B6.out.cell (p := ⟨0, 0, none⟩) h0).trans HG.out
  refine (AsO w6 _ _ (w.heap.size + 2) true (fun w' => St w' (w.heap.size + 2) [.int .i64 j, .iface 71 (.agg #[.int .i64 c])] ∧ Tw w6 (w.heap.size + 2) none w' none) HG6 (by have := B6.out.size; omega) (fun W hW hc hl => ?_)).mono ?_
  · refine (as_oo W j c (w.heap.size + 2) w6.heap.size _ hc hl (Z6.out.below hW)).mono ?_
    rintro e w' ⟨rfl, s9, t9⟩
    exact ⟨rfl, s9, (Tw.ofBelow hW _ none).trans t9⟩
  clear HG6
  rintro e w7 ⟨rfl, z7, t7⟩
  have B7 := hd9 (B6.out.trans (t7.below B6.out.size (by omega) (fun g h => by cases h)))
  have P7 := t7.st P6.out (by omega) (by simp)
  have R7 := t7.st R6.out (by omega) (by simp)
  have z0 := z7.cl 0 _ rfl
  have p0 := P7.cl 0 _ rfl
  have p1 := P7.cl 1 _ rfl
  have p2 := P7.cl 2 _ rfl
  have p3 := P7.cl 3 _ rfl
  have p4 := P7.cl 4 _ rfl
  have q1 := P7.fz 1
  have r0 := R7.cl 0 _ rfl
  have r1 := R7.cl 1 _ rfl
  have r2 := R7.cl 2 _ rfl
  have r3 := R7.cl 3 _ rfl
  have r4 := R7.cl 4 _ rfl
  have g0 := R7.fz 0
  have g1 := R7.fz 1
  have g2 := R7.fz 2
  have g3 := R7.fz 3
  have g4 := R7.fz 4
  clear P6 Z6 R6 B6
  go_wp2_with fail
  refine bodyPost_ret (v := .agg #[.int .i64 c, .int .i64 j, .slice none 0 0, .int .i64 0, .slice none 0 0]) (by simp [results, Tryz.results28, go_sem, p0, p1, p2, p3, p4, r0, r1, r2, r3, r4]) rfl ⟨rfl, ?_⟩
  repeat (first | exact B7.out | refine Below.setCell ?_ (by simp; try omega) _)

end Go.Proofs.YtdiingonnddkcaaGreatDoor
namespace Go.Proofs.YtdiingonnddkcaaGreatDoor
open Go.RowKit Go.Shelf

theorem RdN.rowCells9 {w : World} {ao : Option Addr} {c : Nat} {R : List Nd} (h : RdN w (.slice ao R.length c) R) : ∀ ad, ao = some ad → ∀ j u, (nrow R)[j]? = some u → w.cell? (ad.add j) = some u := by
  obtain ⟨a', c', e, -, -, h3⟩ := h
  simp only [Value.slice.injEq] at e
  obtain ⟨rfl, -, -⟩ := e
  intro ad had j u hu
  have hj := (List.getElem?_eq_some_iff.1 hu).1
  rw [nrow_length] at hj
  rcases h3 with rfl | ⟨b, off, rfl, hb, hc⟩
  · simp at hj
  · obtain rfl := Option.some.inj had
    have hi : j / 7 < R.length := by omega
    have hm : j % 7 < 7 := Nat.mod_lt _ (by omega)
    rw [show j = j / 7 * 7 + j % 7 by omega, nrow_get R (j / 7) (j % 7) hi hm] at hu
    obtain ⟨k0, k1, k2, k3, k4, k5, k6⟩ := hc (j / 7) hi
    rw [Addr.add_lit, show off + j = off + j / 7 * 7 + j % 7 by omega]
    generalize j % 7 = m at *
    match m, hm with
    | 0, _ => exact k0.trans hu
    | 1, _ => exact k1.trans hu
    | 2, _ => exact k2.trans hu
    | 3, _ => exact k3.trans hu
    | 4, _ => exact k4.trans hu
    | 5, _ => exact k5.trans hu
    | 6, _ => exact k6.trans hu

set_option maxHeartbeats 1000000 in
set_option maxRecDepth 100000 in
theorem cloneN9 (w : World) (ao : Option Addr) (cap : Nat) (ns : List Nd) (h : RdN w (.slice ao ns.length cap) ns) (hn : ns.length ≤ 1000) :
    Calls Tryz.prog 29 #[.slice ao ns.length cap] w fun e w' => ∃ v', e = .returned v' ∧ OwnN 42 w' w.heap.size v' ns ∧ Below w.heap.size w w' := by
  obtain ⟨i0, hi, hz0, hz1, hz2⟩ := info_parts Tryz.infoN
  have q22 : ∀ (w : World) (a : Option Addr) (n c n' c' : Nat), (binOp .eql 23 (.slice a n c) (.slice none n' c')).run Tryz.prog w = .ok (.bool a.isNone) w := fun w a n c n' c' => Lib.run_eql_slice_nil w _ _ a n c n' c' Tryz.underlying23
  have HE : Hid ((w.alloc (.cells #[] 42)).ownsRow w.heap.size 42 7 (.slice (some ⟨w.heap.size, 0, none⟩) 0 0) 0 []) := World.ownsRow_lit w #[] 0 (Nat.le_refl _) (Nat.zero_le _) rfl
  have HB : Hid (Below w.heap.size w (w.alloc (.cells #[] 42))) := (Below.refl _ _).alloc (Nat.le_refl _) _
  have HR := hd9 h
  cases ao with
  | none =>
    have hx : ns = [] := by
      obtain ⟨a', c', e, -, -, h3⟩ := h
      simp only [Value.slice.injEq] at e
      rcases h3 with h3 | ⟨b, o, e2, _⟩
      · exact h3
      · rw [← e.1] at e2; cases e2
    subst hx
    clear h HR
    go_enter Tryz.func29, Tryz.ntmps29
    go_wp2
    go_ret
    exact ⟨_, rfl, World.ownsRow_nil _ _ _ _, Below.refl _ _⟩
  | some a =>
    have HCS : Hid (∀ j u, (nrow ns)[j]? = some u → (w.alloc (.cells #[] 42)).cell? (a.add j) = some u) := fun j u hu => (HR.out.below HB.out).rowCells9 a rfl j u hu
    clear h
    generalize hl : ns.length = m at *
    have HL := hd9 hl
    clear hl
    go_enter Tryz.func29, Tryz.ntmps29
    go_wp2_with (at_builtin; go_must (refine wpList_append_own _ rfl _ _ 23 rfl w.heap.size 42 i0 _ 7 72 Tryz.underlying23 hi hz0 hz1 hz2 rfl (by decide) _ _ _ rfl HE.out a m cap (nrow ns) rfl ?c0 HCS.out (nrow_one7 _) ?c3 ?c4 ?c5 ?_))
    case c0 => rw [nrow_length, HL.out]
    case c3 => unfold maxLen; omega
    case c4 => omega
    case c5 => simp
    intro v2 w2 ho2 hg2 _
    have HO2 : Hid (OwnN 42 w2 w.heap.size v2 ns) := by
      show World.ownsRow _ _ _ _ _ _ _
      rw [HL.out]
      exact ho2
    have HG2 := hd9 (HB.out.grown hg2 (by simp) (by intro q hq; simp [Value.ownBlock] at hq; omega))
    clear ho2 hg2
    go_wp2
    go_ret
    exact ⟨_, rfl, HO2.out, HG2.out⟩
theorem zxid_any (w : World) (z : Int) : Calls Tryz.prog 27 #[.int .i64 z] w fun e w' => e = .returned (.bool (decide (1 ≤ z) && decide (z ≤ 2147483647))) ∧ w' = w := by
  obtain ⟨r, hr⟩ : ∃ r, r = (decide (1 ≤ z) && decide (z ≤ 2147483647)) := ⟨_, rfl⟩
  rw [← hr]
  by_cases h1 : 1 ≤ z
  · by_cases h2 : z ≤ 2147483647
    · rw [decide_eq_true h1, decide_eq_true h2] at hr
      have HR := hd9 hr
      clear hr
      go_enter Tryz.func27, Tryz.ntmps27
      go_wp2
      go_ret
      exact ⟨by rw [HR.out]; rfl, rfl⟩
    · rw [decide_eq_true h1, decide_eq_false h2] at hr
      have HR := hd9 hr
      clear hr
      go_enter Tryz.func27, Tryz.ntmps27
      go_wp2
      go_ret
      exact ⟨by rw [HR.out]; rfl, rfl⟩
  · rw [decide_eq_false h1] at hr
    have HR := hd9 hr
    clear hr
    go_enter Tryz.func27, Tryz.ntmps27
    go_wp2
    go_ret
    exact ⟨by rw [HR.out]; rfl, rfl⟩
theorem tab_below {w W : World} {nm : String} {k : IntKind} {zs : List Int} (h : Lib.TabIs Tryz.prog w nm k zs) (hb : Below w.heap.size w W) : Lib.TabIs Tryz.prog W nm k zs := by
  unfold Lib.TabIs World.var? at *
  cases hg : Tryz.prog.globalNamed nm with
  | none => rw [hg] at h; cases h
  | some g =>
    rw [hg] at h
    simp only [Option.bind_some] at h ⊢
    by_cases hl : g < w.heap.size
    · rw [hb.block g hl]; exact h
    · rw [Array.getElem?_eq_none (by omega)] at h; cases h

set_option linter.unusedSimpArgs false in
set_option maxHeartbeats 4000000 in
set_option maxRecDepth 100000 in
theorem implPrep_bad (w : World) (v vo : Value) (ns : List Nd) (os : List Op5) (z : Int) (h : RdN w v ns) (ho : RdO w vo os) (hsz : ∀ i, (nAt ns i).path.size ≤ 1048576 ∧ (nAt ns i).data.size ≤ 1048576) (hb : okPrep ns os z = false)
    (hg : w.cell? ⟨0, 0, none⟩ = some (.iface 171 (.agg #[.pointer (some ⟨7, 77, none⟩)]))) (h0 : 0 < w.heap.size) :
    Calls Tryz.prog 8 #[.agg #[v], .agg #[vo], .int .i64 z] w fun e w' => e = .returned (.agg #[.int .i64 9, .int .i64 0, .slice none 0 0, .int .i64 0, .slice none 0 0]) ∧ Below w.heap.size w w' := by
  obtain ⟨ao, ca, rfl, _, _⟩ := h.len
  obtain ⟨bo, cb, rfl, _, _⟩ := ho.len
  have HR := hd9 h
  have HSZ := hd9 hsz
  have HG := hd9 hg
  have HBAD := hd9 hb
  have X0 : Hid (PrB w (.slice ao ns.length ca) (.slice bo os.length cb) (((w.alloc (.cells #[.slice ao ns.length ca] 25)).alloc (.cells #[.slice bo os.length cb] 28)).alloc (.cells #[.int .i64 0, .int .i64 0, .slice none 0 0, .int .i64 0, .slice none 0 0] 37))) := PrB.new _ _ _ _ _ _
  clear h ho hsz hb hg
  go_enter Tryz.func8, Tryz.ntmps8
  go_wp2_with fail
  generalize ((w.alloc (.cells #[.slice ao ns.length ca] 25)).alloc (.cells #[.slice bo os.length cb] 28)).alloc (.cells #[.int .i64 0, .int .i64 0, .slice none 0 0, .int .i64 0, .slice none 0 0] 37) = w0 at *
  refine (implTree_any _ _ ns (HR.out.below X0.out.1) HSZ.out).mono ?_
  rintro e w1 ⟨rfl, b1⟩
  have X1 : Hid (PrB w (.slice ao ns.length ca) (.slice bo os.length cb) w1) := X0.out.below b1
  clear b1 X0
  obtain ⟨-, zz, a0, a1, -⟩ := X1.out
  have HRF := hd9 (refused_f w1 9 ((X1.out.1.cell (p := ⟨0, 0, none⟩) h0).trans HG.out) (by omega))
  have HZX : Hid (∀ W, Calls Tryz.prog 27 #[.int .i64 z] W fun e w' => e = .returned (.bool (decide (1 ≤ z) && decide (z ≤ 2147483647))) ∧ w' = W) := fun W => zxid_any W z
  have hB := HBAD.out
  unfold okPrep at hB
  clear HBAD
  cases ht : okTree ns with
  | false =>
    clear hB
    go_wp2_with (first | (go_at_call 27; refine (HZX.out _).mono ?_; rintro e w' ⟨rfl, rfl⟩) | (go_at_call 28; refine HRF.out.mono ?_))
    rintro e w2 ⟨rfl, b2⟩
    have X2 := hd9 (X1.out.below b2)
    clear b2
    obtain ⟨-, zz, -, -, ⟨d0, d1, d2, d3, d4⟩, df⟩ := X2.out
    have f0 := df 0
    have f1 := df 1
    have f2 := df 2
    have f3 := df 3
    have f4 := df 4
    clear df
    go_wp2_with fail
    refine bodyPost_ret (v := .agg #[.int .i64 9, .int .i64 0, .slice none 0 0, .int .i64 0, .slice none 0 0]) (by simp [results, Tryz.results8, go_sem, d0, d1, d2, d3, d4]) rfl ⟨rfl, X2.out.1.trans ?_⟩
    repeat (first | exact Below.refl _ _ | refine Below.setCell ?_ (by simp; try omega) _)
  | true =>
    rw [ht, Bool.true_and] at hB
    clear ht
    by_cases h1 : 1 ≤ os.length
    · rw [decide_eq_true h1, Bool.true_and] at hB
      have h1I : ¬ (os.length : Int) < 1 := by omega
      by_cases h2 : os.length ≤ 64
      · rw [decide_eq_true h2, Bool.true_and] at hB
        have h2I : ¬ (64 : Int) < (os.length : Int) := by omega
        rw [hB] at HZX
        clear hB
        go_wp2_with (first | (go_at_call 27; refine (HZX.out _).mono ?_; rintro e w' ⟨rfl, rfl⟩) | (go_at_call 28; refine HRF.out.mono ?_))
        rintro e w2 ⟨rfl, b2⟩
        have X2 := hd9 (X1.out.below b2)
        clear b2
        obtain ⟨-, zz, -, -, ⟨d0, d1, d2, d3, d4⟩, df⟩ := X2.out
        have f0 := df 0
        have f1 := df 1
        have f2 := df 2
        have f3 := df 3
        have f4 := df 4
        clear df
        go_wp2_with fail
        refine bodyPost_ret (v := .agg #[.int .i64 9, .int .i64 0, .slice none 0 0, .int .i64 0, .slice none 0 0]) (by simp [results, Tryz.results8, go_sem, d0, d1, d2, d3, d4]) rfl ⟨rfl, X2.out.1.trans ?_⟩
        repeat (first | exact Below.refl _ _ | refine Below.setCell ?_ (by simp; try omega) _)
      · have h2I : (64 : Int) < (os.length : Int) := by omega
        clear hB
        go_wp2_with (first | (go_at_call 27; refine (HZX.out _).mono ?_; rintro e w' ⟨rfl, rfl⟩) | (go_at_call 28; refine HRF.out.mono ?_))
        rintro e w2 ⟨rfl, b2⟩
        have X2 := hd9 (X1.out.below b2)
        clear b2
        obtain ⟨-, zz, -, -, ⟨d0, d1, d2, d3, d4⟩, df⟩ := X2.out
        have f0 := df 0
        have f1 := df 1
        have f2 := df 2
        have f3 := df 3
        have f4 := df 4
        clear df
        go_wp2_with fail
        refine bodyPost_ret (v := .agg #[.int .i64 9, .int .i64 0, .slice none 0 0, .int .i64 0, .slice none 0 0]) (by simp [results, Tryz.results8, go_sem, d0, d1, d2, d3, d4]) rfl ⟨rfl, X2.out.1.trans ?_⟩
        repeat (first | exact Below.refl _ _ | refine Below.setCell ?_ (by simp; try omega) _)
    · have h1I : (os.length : Int) < 1 := by omega
      clear hB
      go_wp2_with (first | (go_at_call 27; refine (HZX.out _).mono ?_; rintro e w' ⟨rfl, rfl⟩) | (go_at_call 28; refine HRF.out.mono ?_))
      rintro e w2 ⟨rfl, b2⟩
      have X2 := hd9 (X1.out.below b2)
      clear b2
      obtain ⟨-, zz, -, -, ⟨d0, d1, d2, d3, d4⟩, df⟩ := X2.out
      have f0 := df 0
      have f1 := df 1
      have f2 := df 2
      have f3 := df 3
      have f4 := df 4
      clear df
      go_wp2_with fail
      refine bodyPost_ret (v := .agg #[.int .i64 9, .int .i64 0, .slice none 0 0, .int .i64 0, .slice none 0 0]) (by simp [results, Tryz.results8, go_sem, d0, d1, d2, d3, d4]) rfl ⟨rfl, X2.out.1.trans ?_⟩
      repeat (first | exact Below.refl _ _ | refine Below.setCell ?_ (by simp; try omega) _)


set_option linter.unusedSimpArgs false in
set_option maxHeartbeats 4000000 in
set_option maxRecDepth 100000 in
theorem implPrep_ok (w : World) (v vo : Value) (ns : List Nd) (os : List Op5) (z : Int) (h : RdN w v ns) (ho : RdO w vo os) (hos : ∀ i, i < os.length → (oAt os i).path.size ≤ 1048576 ∧ (oAt os i).data.size ≤ 1048576) (hb : okPrep ns os z = true)
    (hg : w.cell? ⟨0, 0, none⟩ = some (.iface 171 (.agg #[.pointer (some ⟨7, 77, none⟩)]))) (h0 : 0 < w.heap.size) (htab : Lib.TabIs Tryz.prog w "internal/strconv.uint64pow10" .u64 Lib.pow10Tab) :
    Calls Tryz.prog 8 #[.agg #[v], .agg #[vo], .int .i64 z] w fun e w' => PrOk w ns z (runO z os ns 0 []) e w' := by
  unfold okPrep at hb
  simp only [Bool.and_eq_true, decide_eq_true_eq] at hb
  obtain ⟨hok, h1, h2, h3, h4⟩ := hb
  have HSND := hd9 (okTree_snd.1 hok)
  have HOK := hd9 hok
  have hn : ns.length ≤ 1000 := HSND.out.2.2
  obtain ⟨ao, ca, rfl, _, _⟩ := h.len
  obtain ⟨bo, cb, rfl, _, _⟩ := ho.len
  have HR := hd9 h
  have HOR := hd9 ho
  have HOS := hd9 hos
  have HG := hd9 hg
  have HT := hd9 htab
  have HSZ : Hid (∀ i, (nAt ns i).path.size ≤ 1048576 ∧ (nAt ns i).data.size ≤ 1048576) := by
    intro i
    by_cases hi : i < ns.length
    · have := okNd_all (HSND.out.2.1 _ (List.getElem_mem hi))
      rw [nAt_get hi]; omega
    · have : nAt ns i = nd0 := by unfold nAt; simp [List.getD, List.getElem?_eq_none (show ns.length ≤ i by omega)]
      rw [this]; simp [nd0]
  have HSF : Hid (∀ W, Below w.heap.size w W → ∀ n : Int, 0 ≤ n → n ≤ 2147483647 → Calls Tryz.prog 107 #[.int .i64 n] W fun e w' => e = .returned (.string ⟨(six 12 n.toNat 6).toArray⟩) ∧ Below W.heap.size W w') := fun W hW n a b => suffix_any W n a b (tab_below HT.out hW)
  have h1I : ¬ (os.length : Int) < 1 := by omega
  have h2I : ¬ (64 : Int) < (os.length : Int) := by omega
  have HZ : Hid (okS z = true) := by show _ = _; unfold okS; simp; omega
  have HZX : Hid (∀ W, Calls Tryz.prog 27 #[.int .i64 z] W fun e w' => e = .returned (.bool true) ∧ W = w') := fun W => by
    have := zxid_any W z
    rw [decide_eq_true h3, decide_eq_true h4] at this
    exact this.mono fun e w' h9 => ⟨h9.1, h9.2.symm⟩
  have X0 : Hid (PrB w (.slice ao ns.length ca) (.slice bo os.length cb) (((w.alloc (.cells #[.slice ao ns.length ca] 25)).alloc (.cells #[.slice bo os.length cb] 28)).alloc (.cells #[.int .i64 0, .int .i64 0, .slice none 0 0, .int .i64 0, .slice none 0 0] 37))) := PrB.new _ _ _ _ _ _
  obtain ⟨res, hres⟩ : ∃ res, res = runO z os ns 0 [] := ⟨_, rfl⟩
  rw [← hres]
  have HRE := hd9 hres
  clear h ho hos hok hg htab hres
  go_enter Tryz.func8, Tryz.ntmps8
  go_wp2_with fail
  generalize ((w.alloc (.cells #[.slice ao ns.length ca] 25)).alloc (.cells #[.slice bo os.length cb] 28)).alloc (.cells #[.int .i64 0, .int .i64 0, .slice none 0 0, .int .i64 0, .slice none 0 0] 37) = w0 at *
  refine (implTree_any _ _ ns (HR.out.below X0.out.1) HSZ.out).mono ?_
  rintro e w1 ⟨rfl, b1⟩
  rw [HOK.out]
  have X1 : Hid (PrB w (.slice ao ns.length ca) (.slice bo os.length cb) w1) := X0.out.below b1
  clear b1 X0 HOK
  have zz : w.heap.size + 3 ≤ w1.heap.size := X1.out.2.1
  obtain ⟨-, -, a0, a1, -⟩ := X1.out
  have HCL := hd9 (cloneN9 w1 ao ca ns (HR.out.below X1.out.1) hn)
  go_wp2_with (first | (go_at_call 27; refine (HZX.out _).mono ?_; rintro e w' ⟨rfl, rfl⟩) | (go_at_call 29; refine HCL.out.mono ?_))
  rintro e w2 ⟨v2, rfl, o2, b2⟩
  have X2 := hd9 (X1.out.below b2)
  have B2 := hd9 b2
  have O2 := hd9 o2
  have V2 : Hid (∀ g, v2.ownBlock = some g → g < w2.heap.size) := fun g hg => (World.ownsRow.lt o2 g hg).2
  have s2 := b2.size
  obtain ⟨va2, vc2, rfl⟩ := o2.slice9
  clear o2 b2 HCL a0 a1
  have B3 : Hid (Below w2.heap.size w2 (w2.alloc (.cells #[.slice va2 ns.length vc2, .int .i64 z] 75))) := (Below.refl _ _).alloc (Nat.le_refl _) _
  have D3 : Hid (Df (w2.alloc (.cells #[.slice va2 ns.length vc2, .int .i64 z] 75)) w2.heap.size w1.heap.size z (.slice va2 ns.length vc2) ns) := ⟨St.new _ _ _, O2.out.below B3.out, fun e => by have := V2.out _ e; omega, HSND.out⟩
  have X3 := hd9 (X2.out.below B3.out)
  have e3 : (w2.alloc (.cells #[.slice va2 ns.length vc2, .int .i64 z] 75)).heap.size = w2.heap.size + 1 := by simp
  have E3 := hd9 e3
  clear e3 O2 V2 X2
  obtain ⟨-, -, a0, a1, -⟩ := X3.out
  go_wp2_with fail
  clear a0 a1
  generalize w2.alloc _ = w3 at *
  have B3w := hd9 (B2.out.trans (B3.out.mono B2.out.size))
  refine (doAll_any w1 w3 w2.heap.size z _ _ ns os B3w.out D3.out B2.out.size (HOR.out.below X1.out.1) HOS.out HZ.out h1 h2 (fun W hW => HSF.out W (X1.out.1.trans (hW.mono X1.out.1.size)))).mono ?_
  rw [← HRE.out]
  rintro e w4 ⟨b4, hA | hA⟩
  · obtain ⟨hne, rfl⟩ := hA
    have X4 := hd9 (X1.out.belowB b4 zz)
    have HRF := hd9 (refused_o w4 (res.2.1 : Int) res.1 ((X4.out.1.cell (p := ⟨0, 0, none⟩) h0).trans HG.out) (by have := b4.size; omega))
    clear b4
    unfold flt
    go_wp2_with (go_at_call 28; refine HRF.out.mono ?_)
    rintro e w5 ⟨rfl, b5⟩
    have X5 := hd9 (X4.out.below b5)
    clear b5
    obtain ⟨-, z5, -, -, ⟨d0, d1, d2, d3, d4⟩, df⟩ := X5.out
    have f0 := df 0
    have f1 := df 1
    have f2 := df 2
    have f3 := df 3
    have f4 := df 4
    clear df
    go_wp2_with fail
    refine bodyPost_ret (v := .agg #[.int .i64 res.1, .int .i64 (res.2.1 : Int), .slice none 0 0, .int .i64 0, .slice none 0 0]) (by simp [results, Tryz.results8, go_sem, d0, d1, d2, d3, d4]) rfl ⟨X5.out.1.trans ?_, .inl ⟨hne, rfl⟩⟩
    repeat (first | exact Below.refl _ _ | refine Below.setCell ?_ (by simp; try omega) _)
  · obtain ⟨he0, vn, v4, rfl, hvn, d4⟩ := hA
    have X4 := hd9 (X1.out.belowB b4 zz)
    have s4 := b4.size
    have D4 := hd9 d4
    have N4 := hd9 hvn
    clear b4 d4 hvn
    go_wp2_with fail
    have s3 := B3w.out.size
    have e3 := E3.out
    have X5 : Hid (PrB w (.slice ao ns.length ca) (.slice bo os.length cb) w4.drew) := X4.out.below (below_drewN' w4 1)
    have D5 : Hid (Df w4.drew w2.heap.size w1.heap.size z v4 res.2.2.1) := D4.out.below (below_drewN' w4 1)
    have N5 : Hid (w4.drew.ownsRow w3.heap.size 9 1 vn res.2.2.2.length (res.2.2.2.map Value.string)) := N4.out
    have s5 : w1.heap.size ≤ w4.drew.heap.size := s4
    clear X4 D4 N4 s4
    refine wp_region_held_drew (S := fun W => W.cell? ⟨w.heap.size, 0, none⟩ = some (.slice ao ns.length ca) ∧ W.cell? ⟨w2.heap.size, 0, none⟩ = some v4) (by kernel_rfl) ⟨X5.out.2.2.1, D5.out.s.cl 0 _ rfl⟩ (fun hHeld => ?_)
    generalize w4.drew = w5 at *
    iterate 8 (refine tkI9 ?_ (by kernel_rfl) (fun _ => id) hHeld ?_ ?_; rotate_left; · intro w9 hS9; obtain ⟨k0, k1⟩ := hS9; go_simp; try with_reducible rfl)
    refine rdA9 8 rfl (by kernel_rfl) (fun K hK => ?_)
    go_simp
    refine (diffs_any w5 _ _ ns res.2.2.1 (HR.out.below X5.out.1) D5.out.o.rd hn D5.out.n.2.2).mono ?_
    rintro e w6 ⟨v6, rfl, o6, b6⟩
    have X6 := hd9 (X5.out.below b6)
    have D6 := hd9 (D5.out.below b6)
    have N6 := hd9 (rowP_below N5.out b6)
    obtain ⟨ea, ec, rfl⟩ := o6.slice9
    have E6 := hd9 o6
    have s6 := b6.size
    clear o6 b6 hHeld X5 D5 N5
    refine hK.out _ _ ⟨X6.out.2.2.1, D6.out.s.cl 0 _ rfl⟩ (fun hHeld => ?_)
    clear hK K
    have hun : ∃ ua uc, vn = .slice ua res.2.2.2.length uc := by
      rcases N6.out.2 with ⟨rfl, hx⟩ | ⟨g, cap, cur, rfl, -⟩
      · exact ⟨_, _, by rw [hx]⟩
      · exact ⟨_, _, rfl⟩
    obtain ⟨ua, uc, rfl⟩ := hun
    iterate 2 (refine tkI9 ?_ (by kernel_rfl) (fun _ => id) hHeld ?_ ?_; rotate_left; · intro w9 hS9; clear hS9; go_simp; try with_reducible rfl)
    obtain ⟨-, z6, -, -, ⟨d0, d1, d2, d3, d4⟩, df⟩ := X6.out
    have f0 := df 0
    have f1 := df 1
    have f2 := df 2
    have f3 := df 3
    have f4 := df 4
    clear df
    refine rdA9 11 rfl (by kernel_rfl) (fun K hK => ?_)
    go_simp
    have T9 := hd9 ((((((Tw.refl w6 (w.heap.size + 1 + 1) none).set (j := 0) (x := .int .i64 0)).set (j := 1) (x := .int .i64 0)).set (j := 2) (x := .slice ua res.2.2.2.length uc)).set (j := 3) (x := .int .i64 z)).set (j := 4) (x := .slice ea (dif ns res.2.2.1).length ec))
    have k0 := (World.cell?_of_block (w := w6) (a := ⟨w.heap.size, 0, none⟩) (T9.out.block w.heap.size (by omega) (by omega) (by simp))).trans X6.out.2.2.1
    have k1 := (T9.out.st D6.out.s (by omega) (by simp)).cl 0 _ rfl
    refine hK.out _ _ ⟨k0, k1⟩ (fun hHeld => ?_)
    clear hK K k0 k1
    refine wpAnyH_done (by kernel_rfl) ?_ _
    try simp only [Act.put, sT9, sZ9, sS9]
    clear hHeld
    have HF : Hid (PrOk w ns z res (.returned (.agg #[.int .i64 0, .int .i64 0, .slice ua res.2.2.2.length uc, .int .i64 z, .slice ea (dif ns res.2.2.1).length ec])) (((((w6.setCell ⟨w.heap.size + 1 + 1, 0, none⟩ (.int .i64 0)).setCell ⟨w.heap.size + 1 + 1, 1, none⟩ (.int .i64 0)).setCell ⟨w.heap.size + 1 + 1, 2, none⟩ (.slice ua res.2.2.2.length uc)).setCell ⟨w.heap.size + 1 + 1, 3, none⟩ (.int .i64 z)).setCell ⟨w.heap.size + 1 + 1, 4, none⟩ (.slice ea (dif ns res.2.2.1).length ec))) := by
      refine ⟨X6.out.1.trans (T9.out.below (by omega) (by omega) (fun g h => by cases h)), .inr ⟨he0, _, _, rfl, ?_, ?_⟩⟩
      · refine rowP_mono (lo := w3.heap.size) (rowP_tw N6.out T9.out (fun g hg => ?_) (fun g hg => by simp)) (by omega)
        have := (World.ownsRow.lt N6.out g hg).1
        omega
      · unfold OwnE
        refine rowP_mono (lo := w5.heap.size) (rowP_tw E6.out T9.out (fun g hg => ?_) (fun g hg => by simp)) (by omega)
        have := (World.ownsRow.lt E6.out g hg).1
        omega
    clear T9 N6 E6 X6 D6
    go_wp2_with fail
    exact bodyPost_ret (v := .agg #[.int .i64 0, .int .i64 0, .slice ua res.2.2.2.length uc, .int .i64 z, .slice ea (dif ns res.2.2.1).length ec]) (by simp [results, Tryz.results8, go_sem, d0, d1, d2, d3, d4]) rfl HF.out


/-- Names as lists of bytes. -/
def nmL (nm : List ByteArray) : List (List UInt8) := nm.map fun s => s.data.toList
theorem nmL_map (nm : List ByteArray) : (nmL nm).map sV = nm.map Value.string := by
  unfold nmL
  rw [List.map_map]
  apply List.map_congr_left
  intro s _
  simp [sV]
/-- What Prepare answers. -/
structure Pa where
  c : Int
  i : Int
  z : Int
  L : List (List UInt8)
  es : List Ef
def prF (ns : List Nd) (os : List Op5) (z : Int) : Pa :=
  if okPrep ns os z = true then
    (if (runO z os ns 0 []).1 = 0 then ⟨0, 0, z, nmL (runO z os ns 0 []).2.2.2, dif ns (runO z os ns 0 []).2.2.1⟩
     else ⟨(runO z os ns 0 []).1, ((runO z os ns 0 []).2.1 : Nat), 0, [], []⟩)
  else ⟨9, 0, 0, [], []⟩
def PA (w : World) (a : Pa) (e : Ending) (w' : World) : Prop :=
  ∃ vn ve, e = .returned (.agg #[.int .i64 a.c, .int .i64 a.i, vn, .int .i64 a.z, ve]) ∧ OwnS w' w.heap.size vn a.L ∧ OwnE 59 w' w.heap.size ve a.es ∧ Below w.heap.size w w'
theorem PA.bad {w w' : World} {c i z : Int} {e : Ending} (he : e = .returned (.agg #[.int .i64 c, .int .i64 i, .slice none 0 0, .int .i64 z, .slice none 0 0])) (hb : Below w.heap.size w w') : PA w ⟨c, i, z, [], []⟩ e w' :=
  ⟨_, _, he, World.ownsRow_nil _ _ _ _, World.ownsRow_nil _ _ _ _, hb⟩
theorem PA.ok {w w' : World} {ns : List Nd} {os : List Op5} {z : Int} {e : Ending} (hk : okPrep ns os z = true) (h : PrOk w ns z (runO z os ns 0 []) e w') : PA w (prF ns os z) e w' := by
  obtain ⟨hb, h⟩ := h
  unfold prF
  rw [if_pos hk]
  rcases h with ⟨h0, he⟩ | ⟨h0, vn, ve, he, h1, h2⟩
  · rw [if_neg h0]
    exact PA.bad he hb
  · rw [if_pos h0]
    refine ⟨vn, ve, he, ?_, h2, hb⟩
    show World.ownsRow _ _ _ _ _ _ _
    rw [nmL_map]
    have : (nmL (runO z os ns 0 []).2.2.2).length = (runO z os ns 0 []).2.2.2.length := by simp [nmL]
    rw [this]
    exact h1
theorem runO_sl {z : Int} (hz : okS z = true) : ∀ (os : List Op5) (ns : List Nd) (i : Nat) (nm : List ByteArray), Snd ns → Snd (runO z os ns i nm).2.2.1 ∧ (runO z os ns i nm).2.2.2.length ≤ nm.length + os.length
  | [], ns, i, nm, h => ⟨h, Nat.le_refl _⟩
  | o :: os, ns, i, nm, h => by
    unfold runO
    split
    · exact ⟨h, by simp⟩
    · have := runO_sl hz os (doO ns o z).2.1 (i + 1) (nm ++ [(doO ns o z).2.2]) (doO_snd h o hz)
      refine ⟨this.1, Nat.le_trans this.2 ?_⟩
      simp; omega
theorem specP_any (w : World) (v vo : Value) (ns : List Nd) (os : List Op5) (z : Int) (h : RdN w v ns) (ho : RdO w vo os) (hn : ns.length ≤ 1048576) (hsz : ∀ i, (nAt ns i).path.size ≤ 1048576 ∧ (nAt ns i).data.size ≤ 1048576) (hos : ∀ i, (oAt os i).path.size ≤ 1048576 ∧ (oAt os i).data.size ≤ 1048576) :
    Calls Tryz.prog 9 #[.agg #[v], .agg #[vo], .int .i64 z] w fun e w' => PA w (prF ns os z) e w' := by
  by_cases hk : okPrep ns os z = true
  · exact (specPrep_ok w v vo ns os z h ho (fun i _ => hos i) hk).mono fun e w' h9 => PA.ok hk h9
  · refine (specPrep_bad w v vo ns os z h ho hn hsz (by simpa using hk)).mono fun e w' h9 => ?_
    unfold prF
    rw [if_neg hk]
    exact PA.bad h9.1 h9.2
theorem implP_any (w : World) (v vo : Value) (ns : List Nd) (os : List Op5) (z : Int) (h : RdN w v ns) (ho : RdO w vo os) (hsz : ∀ i, (nAt ns i).path.size ≤ 1048576 ∧ (nAt ns i).data.size ≤ 1048576) (hos : ∀ i, (oAt os i).path.size ≤ 1048576 ∧ (oAt os i).data.size ≤ 1048576)
    (hg : w.cell? ⟨0, 0, none⟩ = some (.iface 171 (.agg #[.pointer (some ⟨7, 77, none⟩)]))) (h0 : 0 < w.heap.size) (htab : Lib.TabIs Tryz.prog w "internal/strconv.uint64pow10" .u64 Lib.pow10Tab) :
    Calls Tryz.prog 8 #[.agg #[v], .agg #[vo], .int .i64 z] w fun e w' => PA w (prF ns os z) e w' := by
  by_cases hk : okPrep ns os z = true
  · exact (implPrep_ok w v vo ns os z h ho (fun i _ => hos i) hk hg h0 htab).mono fun e w' h9 => PA.ok hk h9
  · refine (implPrep_bad w v vo ns os z h ho hsz (by simpa using hk) hg h0).mono fun e w' h9 => ?_
    unfold prF
    rw [if_neg hk]
    exact PA.bad h9.1 h9.2

end Go.Proofs.YtdiingonnddkcaaGreatDoor


