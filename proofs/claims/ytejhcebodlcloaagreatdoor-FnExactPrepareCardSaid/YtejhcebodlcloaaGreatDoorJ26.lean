import Derived.Test.YtejhcebodlcloaaGreatDoorJ25
namespace Go.Proofs.YtejhcebodlcloaaGreatDoor
open Go.RowKit Go.Extern.Stop Go.Stop Go.Extern

set_option linter.unusedSimpArgs false in
set_option maxHeartbeats 4000000 in
set_option maxRecDepth 100000 in
theorem as_oo (w : World) (c d : Int) (t a : Nat) (tg : Value) (ha : w.cell? ⟨a, 0, none⟩ = some (.pointer (some ⟨t, 0, none⟩))) (hal : a < w.heap.size) (ht : St w t [.int .i64 0, .nilIface]) :
    Calls Tryz.prog 73 #[.iface 105 (.agg #[.int .i64 c, .iface 66 (.agg #[.int .i64 d])]), tg, .agg #[.pointer (some ⟨7, 108, none⟩), .pointer (some ⟨a, 0, none⟩), .int .u64 150], .iface 142 (.agg #[.pointer (some ⟨7, 105, none⟩)])] w fun e w' => e = .returned (.bool true) ∧ St w' t [.int .i64 c, .iface 66 (.agg #[.int .i64 d])] ∧ Tw w t none w' none := by
  have hx1 := @run_callFunc_extern Tryz.prog 70 _ (fun args => ReflectliteValue.unpack (args.getD 0 (.tuple #[]))) Tryz.func70 (by kernel_rfl) (by kernel_rfl) (by kernel_rfl) (by kernel_rfl)
  have hx2 := @run_callFunc_extern Tryz.prog 71 _ (ReflectliteValue.methodAny (ReflectliteValue.valueError "reflectlite.Value.Type" 0) (fun t _ _ _ => ReflectliteType.toType t)) Tryz.func71 (by kernel_rfl) (by kernel_rfl) (by kernel_rfl) (by kernel_rfl)
  have hx3 := @run_callFunc_extern Tryz.prog 72 _ (ReflectliteValue.method (ReflectliteValue.valueError "reflectlite.Value.IsNil" 0) ReflectliteValue.isNil) Tryz.func72 (by kernel_rfl) (by kernel_rfl) (by kernel_rfl) (by kernel_rfl)
  have hx4 := @run_callFunc_extern Tryz.prog 161 _ (ReflectliteType.abiMethod fun t => do pure (.int .u8 (← Rtype.kind t))) Tryz.func161 (by kernel_rfl) (by kernel_rfl) (by kernel_rfl) (by kernel_rfl)
  have hx5 := @run_callFunc_extern Tryz.prog 173 _ (ReflectliteType.method ReflectliteType.elem) Tryz.func173 (by kernel_rfl) (by kernel_rfl) (by kernel_rfl) (by kernel_rfl)
  have hx6 := @run_callFunc_extern Tryz.prog 174 _ (ReflectliteType.relation "Implements" ReflectliteType.implements_) Tryz.func174 (by kernel_rfl) (by kernel_rfl) (by kernel_rfl) (by kernel_rfl)
  have hx7 := @run_callFunc_extern Tryz.prog 83 _ ReflectliteType.typeOf Tryz.func83 (by kernel_rfl) (by kernel_rfl) (by kernel_rfl) (by kernel_rfl)
  have hx8 := @run_callFunc_extern Tryz.prog 171 _ (ReflectliteType.relation "AssignableTo" ReflectliteType.assignableTo) Tryz.func171 (by kernel_rfl) (by kernel_rfl) (by kernel_rfl) (by kernel_rfl)
  have hx9 := @run_callFunc_extern Tryz.prog 84 _ (ReflectliteValue.method (ReflectliteValue.valueError "reflectlite.Value.Elem" 0) ReflectliteValue.elem) Tryz.func84 (by kernel_rfl) (by kernel_rfl) (by kernel_rfl) (by kernel_rfl)
  have hx10 := @run_callFunc_extern Tryz.prog 85 _ ReflectliteValue.set Tryz.func85 (by kernel_rfl) (by kernel_rfl) (by kernel_rfl) (by kernel_rfl)
  have mK := Tryz.rmK
  have mE := Tryz.rmE
  have mI := Tryz.rmI
  have mA := Tryz.rmA
  have tO := Tryz.rtoO
  have as1 := Tryz.rasoo
  have vE := Tryz.rvEO
  have htl := ht.lt
  have B1 : Hid (Below w.heap.size w (w.alloc (.cells #[.pointer (some ⟨7, 108, none⟩), .pointer (some ⟨a, 0, none⟩), .int .u64 150] 125))) := (Below.refl _ _).alloc (Nat.le_refl _) _
  have B2 : Hid (Below w.heap.size w ((w.alloc (.cells #[.pointer (some ⟨7, 108, none⟩), .pointer (some ⟨a, 0, none⟩), .int .u64 150] 125)).alloc (.cells #[.int .i64 c, .iface 66 (.agg #[.int .i64 d])] 105))) := B1.out.alloc B1.out.size _
  have T2 := hd9 (ht.below B2.out)
  have el := Tryz.revO ⟨a, 0, none⟩ ⟨t, 0, none⟩ (w.alloc (.cells #[.pointer (some ⟨7, 108, none⟩), .pointer (some ⟨a, 0, none⟩), .int .u64 150] 125)) ((B1.out.cell (p := ⟨a, 0, none⟩) hal).trans ha)
  have se := Tryz.rseO t (w.heap.size + 1) c d (.int .i64 0) .nilIface ((w.alloc (.cells #[.pointer (some ⟨7, 108, none⟩), .pointer (some ⟨a, 0, none⟩), .int .u64 150] 125)).alloc (.cells #[.int .i64 c, .iface 66 (.agg #[.int .i64 d])] 105)) (by rw [World.cell?_alloc_at _ _ _ _ (by simp)]; rfl) (by rw [World.cell?_alloc_at _ _ _ _ (by simp)]; rfl) (T2.out.cl 0 _ rfl) (T2.out.fz 0) (T2.out.cl 1 _ rfl) (T2.out.fz 1)
  go_enter Tryz.func73, Tryz.ntmps73
  go_wp2
  refine wp_loop_rounds 1 ?_
  rw [rounds_succ]
  go_wp2
  exact bodyPost_ret (v := .bool true) (by simp [results, Tryz.results73, go_sem]) rfl ⟨rfl, ((ht.set 0 _).set 1 _).below (below2 _ _ _), (Tw.refl w t none).set.set.trans (Tw.ofBelow (below2 _ _ _) t none)⟩

set_option linter.unusedSimpArgs false in
set_option maxHeartbeats 4000000 in
set_option maxRecDepth 100000 in
theorem as_fo (w : World) (c : Int) (a : Nat) (tg : Value) :
    Calls Tryz.prog 73 #[.iface 66 (.agg #[.int .i64 c]), tg, .agg #[.pointer (some ⟨7, 108, none⟩), .pointer (some ⟨a, 0, none⟩), .int .u64 150], .iface 142 (.agg #[.pointer (some ⟨7, 105, none⟩)])] w fun e w' => e = .returned (.bool false) ∧ Below w.heap.size w w' := by
  have hx1 := @run_callFunc_extern Tryz.prog 70 _ (fun args => ReflectliteValue.unpack (args.getD 0 (.tuple #[]))) Tryz.func70 (by kernel_rfl) (by kernel_rfl) (by kernel_rfl) (by kernel_rfl)
  have hx2 := @run_callFunc_extern Tryz.prog 71 _ (ReflectliteValue.methodAny (ReflectliteValue.valueError "reflectlite.Value.Type" 0) (fun t _ _ _ => ReflectliteType.toType t)) Tryz.func71 (by kernel_rfl) (by kernel_rfl) (by kernel_rfl) (by kernel_rfl)
  have hx3 := @run_callFunc_extern Tryz.prog 72 _ (ReflectliteValue.method (ReflectliteValue.valueError "reflectlite.Value.IsNil" 0) ReflectliteValue.isNil) Tryz.func72 (by kernel_rfl) (by kernel_rfl) (by kernel_rfl) (by kernel_rfl)
  have hx4 := @run_callFunc_extern Tryz.prog 161 _ (ReflectliteType.abiMethod fun t => do pure (.int .u8 (← Rtype.kind t))) Tryz.func161 (by kernel_rfl) (by kernel_rfl) (by kernel_rfl) (by kernel_rfl)
  have hx5 := @run_callFunc_extern Tryz.prog 173 _ (ReflectliteType.method ReflectliteType.elem) Tryz.func173 (by kernel_rfl) (by kernel_rfl) (by kernel_rfl) (by kernel_rfl)
  have hx6 := @run_callFunc_extern Tryz.prog 174 _ (ReflectliteType.relation "Implements" ReflectliteType.implements_) Tryz.func174 (by kernel_rfl) (by kernel_rfl) (by kernel_rfl) (by kernel_rfl)
  have hx7 := @run_callFunc_extern Tryz.prog 83 _ ReflectliteType.typeOf Tryz.func83 (by kernel_rfl) (by kernel_rfl) (by kernel_rfl) (by kernel_rfl)
  have hx8 := @run_callFunc_extern Tryz.prog 171 _ (ReflectliteType.relation "AssignableTo" ReflectliteType.assignableTo) Tryz.func171 (by kernel_rfl) (by kernel_rfl) (by kernel_rfl) (by kernel_rfl)
  have hx9 := @run_callFunc_extern Tryz.prog 84 _ (ReflectliteValue.method (ReflectliteValue.valueError "reflectlite.Value.Elem" 0) ReflectliteValue.elem) Tryz.func84 (by kernel_rfl) (by kernel_rfl) (by kernel_rfl) (by kernel_rfl)
  have hx10 := @run_callFunc_extern Tryz.prog 85 _ ReflectliteValue.set Tryz.func85 (by kernel_rfl) (by kernel_rfl) (by kernel_rfl) (by kernel_rfl)
  have mK := Tryz.rmK
  have mE := Tryz.rmE
  have mI := Tryz.rmI
  have mA := Tryz.rmA
  have tO := Tryz.rtoF
  have as1 := Tryz.rasfo
  have n1 := Tryz.rnAf
  have n2 := Tryz.rnUf
  have n3 := Tryz.rnVf
  go_enter Tryz.func73, Tryz.ntmps73
  go_wp2
  refine wp_loop_rounds 1 ?_
  rw [rounds_succ]
  go_wp2
  exact bodyPost_ret (v := .bool false) (by simp [results, Tryz.results73, go_sem]) rfl ⟨rfl, (Below.refl _ _).alloc (Nat.le_refl _) _⟩

theorem unwrap_any (w : World) (c : Int) (v : Value) : Calls Tryz.prog 166 #[.agg #[.int .i64 c, v]] w fun e w' => e = .returned v ∧ Below w.heap.size w w' := by
  go_enter Tryz.func166, Tryz.ntmps166
  go_wp2
  exact bodyPost_ret (v := v) (by simp [results, Tryz.results166, go_sem]) rfl ⟨rfl, (Below.refl _ _).alloc (Nat.le_refl _) _⟩

set_option linter.unusedSimpArgs false in
set_option maxHeartbeats 4000000 in
set_option maxRecDepth 100000 in
theorem as_of (w : World) (c d : Int) (t a : Nat) (tg : Value) (ha : w.cell? ⟨a, 0, none⟩ = some (.pointer (some ⟨t, 0, none⟩))) (hal : a < w.heap.size) (ht : St w t [.int .i64 0]) :
    Calls Tryz.prog 73 #[.iface 105 (.agg #[.int .i64 c, .iface 66 (.agg #[.int .i64 d])]), tg, .agg #[.pointer (some ⟨7, 107, none⟩), .pointer (some ⟨a, 0, none⟩), .int .u64 150], .iface 142 (.agg #[.pointer (some ⟨7, 66, none⟩)])] w fun e w' => e = .returned (.bool true) ∧ St w' t [.int .i64 d] ∧ Tw w t none w' none := by
  have hx1 := @run_callFunc_extern Tryz.prog 70 _ (fun args => ReflectliteValue.unpack (args.getD 0 (.tuple #[]))) Tryz.func70 (by kernel_rfl) (by kernel_rfl) (by kernel_rfl) (by kernel_rfl)
  have hx2 := @run_callFunc_extern Tryz.prog 71 _ (ReflectliteValue.methodAny (ReflectliteValue.valueError "reflectlite.Value.Type" 0) (fun t _ _ _ => ReflectliteType.toType t)) Tryz.func71 (by kernel_rfl) (by kernel_rfl) (by kernel_rfl) (by kernel_rfl)
  have hx3 := @run_callFunc_extern Tryz.prog 72 _ (ReflectliteValue.method (ReflectliteValue.valueError "reflectlite.Value.IsNil" 0) ReflectliteValue.isNil) Tryz.func72 (by kernel_rfl) (by kernel_rfl) (by kernel_rfl) (by kernel_rfl)
  have hx4 := @run_callFunc_extern Tryz.prog 161 _ (ReflectliteType.abiMethod fun t => do pure (.int .u8 (← Rtype.kind t))) Tryz.func161 (by kernel_rfl) (by kernel_rfl) (by kernel_rfl) (by kernel_rfl)
  have hx5 := @run_callFunc_extern Tryz.prog 173 _ (ReflectliteType.method ReflectliteType.elem) Tryz.func173 (by kernel_rfl) (by kernel_rfl) (by kernel_rfl) (by kernel_rfl)
  have hx6 := @run_callFunc_extern Tryz.prog 174 _ (ReflectliteType.relation "Implements" ReflectliteType.implements_) Tryz.func174 (by kernel_rfl) (by kernel_rfl) (by kernel_rfl) (by kernel_rfl)
  have hx7 := @run_callFunc_extern Tryz.prog 83 _ ReflectliteType.typeOf Tryz.func83 (by kernel_rfl) (by kernel_rfl) (by kernel_rfl) (by kernel_rfl)
  have hx8 := @run_callFunc_extern Tryz.prog 171 _ (ReflectliteType.relation "AssignableTo" ReflectliteType.assignableTo) Tryz.func171 (by kernel_rfl) (by kernel_rfl) (by kernel_rfl) (by kernel_rfl)
  have hx9 := @run_callFunc_extern Tryz.prog 84 _ (ReflectliteValue.method (ReflectliteValue.valueError "reflectlite.Value.Elem" 0) ReflectliteValue.elem) Tryz.func84 (by kernel_rfl) (by kernel_rfl) (by kernel_rfl) (by kernel_rfl)
  have hx10 := @run_callFunc_extern Tryz.prog 85 _ ReflectliteValue.set Tryz.func85 (by kernel_rfl) (by kernel_rfl) (by kernel_rfl) (by kernel_rfl)
  have mK := Tryz.rmK
  have mE := Tryz.rmE
  have mI := Tryz.rmI
  have mA := Tryz.rmA
  have tO := Tryz.rtoO
  have tF := Tryz.rtoF
  have as1 := Tryz.rasof
  have as2 := Tryz.rasff
  have n1 := Tryz.rnAo
  have n2 := Tryz.ryUo
  have mU := Tryz.rmU
  have vE := Tryz.rvEF
  have HT := hd9 ht
  have htl := ht.lt
  have B1 : Hid (Below w.heap.size w (w.alloc (.cells #[.pointer (some ⟨7, 107, none⟩), .pointer (some ⟨a, 0, none⟩), .int .u64 150] 125))) := (Below.refl _ _).alloc (Nat.le_refl _) _
  have X1 : Hid (St (w.alloc (.cells #[.pointer (some ⟨7, 107, none⟩), .pointer (some ⟨a, 0, none⟩), .int .u64 150] 125)) w.heap.size [.pointer (some ⟨7, 107, none⟩), .pointer (some ⟨a, 0, none⟩), .int .u64 150]) := St.new _ _ _
  have HA := hd9 ha
  clear ha ht
  go_enter Tryz.func73, Tryz.ntmps73
  go_wp2
  refine wp_loop_rounds 2 ?_
  rw [rounds_succ]
  generalize w.alloc (.cells #[.pointer (some ⟨7, 107, none⟩), .pointer (some ⟨a, 0, none⟩), .int .u64 150] 125) = w1 at *
  go_wp2_with (go_at_call 166; refine (unwrap_any w1 c _).mono ?_)
  rintro e w3 ⟨rfl, b3⟩
  have B3 := hd9 (B1.out.trans (b3.mono B1.out.size))
  have X3 := X1.out.below b3
  have x0 := X3.cl 0 _ rfl
  have x1 := X3.cl 1 _ rfl
  have x2 := X3.cl 2 _ rfl
  have T3 := hd9 (HT.out.below B3.out)
  have el := Tryz.revF ⟨a, 0, none⟩ ⟨t, 0, none⟩ w3 ((B3.out.cell (p := ⟨a, 0, none⟩) hal).trans HA.out)
  have A4 : Hid (Below w3.heap.size w3 (w3.alloc (.cells #[.int .i64 d] 66))) := (Below.refl _ _).alloc (Nat.le_refl _) _
  have T4 := hd9 (T3.out.below A4.out)
  have se := Tryz.rseF t w3.heap.size d (.int .i64 0) (w3.alloc (.cells #[.int .i64 d] 66)) (by rw [World.cell?_alloc_at _ _ _ _ (by simp)]; rfl) (T4.out.cl 0 _ rfl) (T4.out.fz 0)
  have htl3 := T3.out.lt
  clear b3 X3
  go_wp2
  rw [rounds_succ]
  go_wp2
  exact bodyPost_ret (v := .bool true) (by simp [results, Tryz.results73, go_sem]) rfl ⟨rfl, (T3.out.set 0 _).below ((Below.refl _ _).alloc (Nat.le_refl _) _), (Tw.ofBelow B3.out t none).set.trans (Tw.ofBelow ((Below.refl _ _).alloc (Nat.le_refl _) _) t none)⟩


set_option linter.unusedSimpArgs false in
set_option maxHeartbeats 4000000 in
set_option maxRecDepth 100000 in
/-- errors.As, by errors.as. -/
theorem AsF (w : World) (et : TypeId) (ex : Value) (t : Nat) (b : Bool) (Q : World → Prop) (hg : w.cell? ⟨0, 0, none⟩ = some (.iface 142 (.agg #[.pointer (some ⟨7, 74, none⟩)]))) (h0 : 0 < w.heap.size)
    (h : ∀ W, Below w.heap.size w W → W.cell? ⟨w.heap.size, 0, none⟩ = some (.pointer (some ⟨t, 0, none⟩)) → w.heap.size < W.heap.size → Calls Tryz.prog 73 #[.iface et ex, .iface 107 (.pointer (some ⟨t, 0, none⟩)), .agg #[.pointer (some ⟨7, 107, none⟩), .pointer (some ⟨w.heap.size, 0, none⟩), .int .u64 150], .iface 142 (.agg #[.pointer (some ⟨7, 66, none⟩)])] W fun e w' => e = .returned (.bool b) ∧ Q w') :
    Calls Tryz.prog 56 #[.iface et ex, .iface 107 (.pointer (some ⟨t, 0, none⟩))] w fun e w' => e = .returned (.bool b) ∧ Q w' := by
  have hx1 := @run_callFunc_extern Tryz.prog 70 _ (fun args => ReflectliteValue.unpack (args.getD 0 (.tuple #[]))) Tryz.func70 (by kernel_rfl) (by kernel_rfl) (by kernel_rfl) (by kernel_rfl)
  have hx2 := @run_callFunc_extern Tryz.prog 71 _ (ReflectliteValue.methodAny (ReflectliteValue.valueError "reflectlite.Value.Type" 0) (fun t _ _ _ => ReflectliteType.toType t)) Tryz.func71 (by kernel_rfl) (by kernel_rfl) (by kernel_rfl) (by kernel_rfl)
  have hx3 := @run_callFunc_extern Tryz.prog 72 _ (ReflectliteValue.method (ReflectliteValue.valueError "reflectlite.Value.IsNil" 0) ReflectliteValue.isNil) Tryz.func72 (by kernel_rfl) (by kernel_rfl) (by kernel_rfl) (by kernel_rfl)
  have hx4 := @run_callFunc_extern Tryz.prog 161 _ (ReflectliteType.abiMethod fun t => do pure (.int .u8 (← Rtype.kind t))) Tryz.func161 (by kernel_rfl) (by kernel_rfl) (by kernel_rfl) (by kernel_rfl)
  have hx5 := @run_callFunc_extern Tryz.prog 173 _ (ReflectliteType.method ReflectliteType.elem) Tryz.func173 (by kernel_rfl) (by kernel_rfl) (by kernel_rfl) (by kernel_rfl)
  have hx6 := @run_callFunc_extern Tryz.prog 174 _ (ReflectliteType.relation "Implements" ReflectliteType.implements_) Tryz.func174 (by kernel_rfl) (by kernel_rfl) (by kernel_rfl) (by kernel_rfl)
  have hx7 := @run_callFunc_extern Tryz.prog 83 _ ReflectliteType.typeOf Tryz.func83 (by kernel_rfl) (by kernel_rfl) (by kernel_rfl) (by kernel_rfl)
  have hx8 := @run_callFunc_extern Tryz.prog 171 _ (ReflectliteType.relation "AssignableTo" ReflectliteType.assignableTo) Tryz.func171 (by kernel_rfl) (by kernel_rfl) (by kernel_rfl) (by kernel_rfl)
  have hx9 := @run_callFunc_extern Tryz.prog 84 _ (ReflectliteValue.method (ReflectliteValue.valueError "reflectlite.Value.Elem" 0) ReflectliteValue.elem) Tryz.func84 (by kernel_rfl) (by kernel_rfl) (by kernel_rfl) (by kernel_rfl)
  have hx10 := @run_callFunc_extern Tryz.prog 85 _ ReflectliteValue.set Tryz.func85 (by kernel_rfl) (by kernel_rfl) (by kernel_rfl) (by kernel_rfl)
  have mK := Tryz.rmK
  have mE := Tryz.rmE
  have mI := Tryz.rmI
  have mA := Tryz.rmA
  have f1 := Tryz.rvPF
  have f2 := Tryz.rtyF
  have k1 := Tryz.rkPF
  have k2 := Tryz.rkEF
  have e1 := Tryz.relF
  have i1 := Tryz.rimF
  have B1 : Hid (Below w.heap.size w ((w.alloc (.cells #[.pointer (some ⟨t, 0, none⟩)] 107)).alloc (.cells #[.pointer (some ⟨7, 107, none⟩), .pointer (some ⟨w.heap.size, 0, none⟩), .int .u64 150] 125))) := below2 w _ _
  have hg2 := (B1.out.cell (p := ⟨0, 0, none⟩) h0).trans hg
  have hc2 : ((w.alloc (.cells #[.pointer (some ⟨t, 0, none⟩)] 107)).alloc (.cells #[.pointer (some ⟨7, 107, none⟩), .pointer (some ⟨w.heap.size, 0, none⟩), .int .u64 150] 125)).cell? ⟨w.heap.size, 0, none⟩ = some (.pointer (some ⟨t, 0, none⟩)) := by go_simp
  have n8 := Tryz.rinF ⟨w.heap.size, 0, none⟩ ⟨t, 0, none⟩ ((w.alloc (.cells #[.pointer (some ⟨t, 0, none⟩)] 107)).alloc (.cells #[.pointer (some ⟨7, 107, none⟩), .pointer (some ⟨w.heap.size, 0, none⟩), .int .u64 150] 125)) hc2
  have HC := hd9 (h _ B1.out hc2 (by simp; omega))
  clear h hc2 hg
  go_enter Tryz.func56, Tryz.ntmps56
  go_wp2_with (go_at_call 73; refine HC.out.mono ?_)
  rintro e w5 ⟨rfl, q5⟩
  have Q5 := hd9 q5
  clear q5 HC
  go_wp2_with fail
  exact bodyPost_ret (v := .bool b) (by simp [results, Tryz.results56, go_sem]) rfl ⟨rfl, Q5.out⟩

set_option linter.unusedSimpArgs false in
set_option maxHeartbeats 4000000 in
set_option maxRecDepth 100000 in
/-- errors.As, by errors.as. -/
theorem AsO (w : World) (et : TypeId) (ex : Value) (t : Nat) (b : Bool) (Q : World → Prop) (hg : w.cell? ⟨0, 0, none⟩ = some (.iface 142 (.agg #[.pointer (some ⟨7, 74, none⟩)]))) (h0 : 0 < w.heap.size)
    (h : ∀ W, Below w.heap.size w W → W.cell? ⟨w.heap.size, 0, none⟩ = some (.pointer (some ⟨t, 0, none⟩)) → w.heap.size < W.heap.size → Calls Tryz.prog 73 #[.iface et ex, .iface 108 (.pointer (some ⟨t, 0, none⟩)), .agg #[.pointer (some ⟨7, 108, none⟩), .pointer (some ⟨w.heap.size, 0, none⟩), .int .u64 150], .iface 142 (.agg #[.pointer (some ⟨7, 105, none⟩)])] W fun e w' => e = .returned (.bool b) ∧ Q w') :
    Calls Tryz.prog 56 #[.iface et ex, .iface 108 (.pointer (some ⟨t, 0, none⟩))] w fun e w' => e = .returned (.bool b) ∧ Q w' := by
  have hx1 := @run_callFunc_extern Tryz.prog 70 _ (fun args => ReflectliteValue.unpack (args.getD 0 (.tuple #[]))) Tryz.func70 (by kernel_rfl) (by kernel_rfl) (by kernel_rfl) (by kernel_rfl)
  have hx2 := @run_callFunc_extern Tryz.prog 71 _ (ReflectliteValue.methodAny (ReflectliteValue.valueError "reflectlite.Value.Type" 0) (fun t _ _ _ => ReflectliteType.toType t)) Tryz.func71 (by kernel_rfl) (by kernel_rfl) (by kernel_rfl) (by kernel_rfl)
  have hx3 := @run_callFunc_extern Tryz.prog 72 _ (ReflectliteValue.method (ReflectliteValue.valueError "reflectlite.Value.IsNil" 0) ReflectliteValue.isNil) Tryz.func72 (by kernel_rfl) (by kernel_rfl) (by kernel_rfl) (by kernel_rfl)
  have hx4 := @run_callFunc_extern Tryz.prog 161 _ (ReflectliteType.abiMethod fun t => do pure (.int .u8 (← Rtype.kind t))) Tryz.func161 (by kernel_rfl) (by kernel_rfl) (by kernel_rfl) (by kernel_rfl)
  have hx5 := @run_callFunc_extern Tryz.prog 173 _ (ReflectliteType.method ReflectliteType.elem) Tryz.func173 (by kernel_rfl) (by kernel_rfl) (by kernel_rfl) (by kernel_rfl)
  have hx6 := @run_callFunc_extern Tryz.prog 174 _ (ReflectliteType.relation "Implements" ReflectliteType.implements_) Tryz.func174 (by kernel_rfl) (by kernel_rfl) (by kernel_rfl) (by kernel_rfl)
  have hx7 := @run_callFunc_extern Tryz.prog 83 _ ReflectliteType.typeOf Tryz.func83 (by kernel_rfl) (by kernel_rfl) (by kernel_rfl) (by kernel_rfl)
  have hx8 := @run_callFunc_extern Tryz.prog 171 _ (ReflectliteType.relation "AssignableTo" ReflectliteType.assignableTo) Tryz.func171 (by kernel_rfl) (by kernel_rfl) (by kernel_rfl) (by kernel_rfl)
  have hx9 := @run_callFunc_extern Tryz.prog 84 _ (ReflectliteValue.method (ReflectliteValue.valueError "reflectlite.Value.Elem" 0) ReflectliteValue.elem) Tryz.func84 (by kernel_rfl) (by kernel_rfl) (by kernel_rfl) (by kernel_rfl)
  have hx10 := @run_callFunc_extern Tryz.prog 85 _ ReflectliteValue.set Tryz.func85 (by kernel_rfl) (by kernel_rfl) (by kernel_rfl) (by kernel_rfl)
  have mK := Tryz.rmK
  have mE := Tryz.rmE
  have mI := Tryz.rmI
  have mA := Tryz.rmA
  have f1 := Tryz.rvPO
  have f2 := Tryz.rtyO
  have k1 := Tryz.rkPO
  have k2 := Tryz.rkEO
  have e1 := Tryz.relO
  have i1 := Tryz.rimO
  have B1 : Hid (Below w.heap.size w ((w.alloc (.cells #[.pointer (some ⟨t, 0, none⟩)] 108)).alloc (.cells #[.pointer (some ⟨7, 108, none⟩), .pointer (some ⟨w.heap.size, 0, none⟩), .int .u64 150] 125))) := below2 w _ _
  have hg2 := (B1.out.cell (p := ⟨0, 0, none⟩) h0).trans hg
  have hc2 : ((w.alloc (.cells #[.pointer (some ⟨t, 0, none⟩)] 108)).alloc (.cells #[.pointer (some ⟨7, 108, none⟩), .pointer (some ⟨w.heap.size, 0, none⟩), .int .u64 150] 125)).cell? ⟨w.heap.size, 0, none⟩ = some (.pointer (some ⟨t, 0, none⟩)) := by go_simp
  have n8 := Tryz.rinO ⟨w.heap.size, 0, none⟩ ⟨t, 0, none⟩ ((w.alloc (.cells #[.pointer (some ⟨t, 0, none⟩)] 108)).alloc (.cells #[.pointer (some ⟨7, 108, none⟩), .pointer (some ⟨w.heap.size, 0, none⟩), .int .u64 150] 125)) hc2
  have HC := hd9 (h _ B1.out hc2 (by simp; omega))
  clear h hc2 hg
  go_enter Tryz.func56, Tryz.ntmps56
  go_wp2_with (go_at_call 73; refine HC.out.mono ?_)
  rintro e w5 ⟨rfl, q5⟩
  have Q5 := hd9 q5
  clear q5 HC
  go_wp2_with fail
  exact bodyPost_ret (v := .bool b) (by simp [results, Tryz.results56, go_sem]) rfl ⟨rfl, Q5.out⟩


/-- The boxes of 'refused'. -/
structure Rf4 (w W : World) : Prop where
  b : Below w.heap.size w W
  r : St W w.heap.size [.int .i64 0, .int .i64 0, .slice none 0 0, .int .i64 0, .slice none 0 0]
  y : St W (w.heap.size + 1) [.int .i64 0]
  z : St W (w.heap.size + 2) [.int .i64 0, .nilIface]
  p : St W (w.heap.size + 3) [.int .i64 0, .int .i64 0, .slice none 0 0, .int .i64 0, .slice none 0 0]
theorem Rf4.new (w : World) : Rf4 w ((((w.alloc (.cells #[.int .i64 0, .int .i64 0, .slice none 0 0, .int .i64 0, .slice none 0 0] 35)).alloc (.cells #[.int .i64 0] 66)).alloc (.cells #[.int .i64 0, .nilIface] 105)).alloc (.cells #[.int .i64 0, .int .i64 0, .slice none 0 0, .int .i64 0, .slice none 0 0] 35)) := by
  have e1 : (w.alloc (.cells #[.int .i64 0, .int .i64 0, .slice none 0 0, .int .i64 0, .slice none 0 0] 35)).heap.size = w.heap.size + 1 := by simp
  have e2 : ((w.alloc (.cells #[.int .i64 0, .int .i64 0, .slice none 0 0, .int .i64 0, .slice none 0 0] 35)).alloc (.cells #[.int .i64 0] 66)).heap.size = w.heap.size + 2 := by simp
  have e3 : (((w.alloc (.cells #[.int .i64 0, .int .i64 0, .slice none 0 0, .int .i64 0, .slice none 0 0] 35)).alloc (.cells #[.int .i64 0] 66)).alloc (.cells #[.int .i64 0, .nilIface] 105)).heap.size = w.heap.size + 3 := by simp
  have a1 : ∀ (W : World) (o : Obj), Below W.heap.size W (W.alloc o) := fun W o => (Below.refl _ _).alloc (Nat.le_refl _) _
  have s0 := St.new w #[.int .i64 0, .int .i64 0, .slice none 0 0, .int .i64 0, .slice none 0 0] 35
  have s1 := St.new (w.alloc (.cells #[.int .i64 0, .int .i64 0, .slice none 0 0, .int .i64 0, .slice none 0 0] 35)) #[.int .i64 0] 66
  have s2 := St.new ((w.alloc (.cells #[.int .i64 0, .int .i64 0, .slice none 0 0, .int .i64 0, .slice none 0 0] 35)).alloc (.cells #[.int .i64 0] 66)) #[.int .i64 0, .nilIface] 105
  have s3 := St.new (((w.alloc (.cells #[.int .i64 0, .int .i64 0, .slice none 0 0, .int .i64 0, .slice none 0 0] 35)).alloc (.cells #[.int .i64 0] 66)).alloc (.cells #[.int .i64 0, .nilIface] 105)) #[.int .i64 0, .int .i64 0, .slice none 0 0, .int .i64 0, .slice none 0 0] 35
  rw [e1] at s1
  rw [e2] at s2
  rw [e3] at s3
  exact ⟨below4 w _ _ _ _, ((s0.below (a1 _ _)).below (a1 _ _)).below (a1 _ _), (s1.below (a1 _ _)).below (a1 _ _), s2.below (a1 _ _), s3⟩

set_option linter.unusedSimpArgs false in
set_option maxHeartbeats 4000000 in
set_option maxRecDepth 100000 in
theorem refused_f (w : World) (c : Int) (hg : w.cell? ⟨0, 0, none⟩ = some (.iface 142 (.agg #[.pointer (some ⟨7, 74, none⟩)]))) (h0 : 0 < w.heap.size) :
    Calls Tryz.prog 26 #[.iface 66 (.agg #[.int .i64 c])] w fun e w' => e = .returned (.agg #[.int .i64 c, .int .i64 0, .slice none 0 0, .int .i64 0, .slice none 0 0]) ∧ Below w.heap.size w w' := by
  have R4 := hd9 (Rf4.new w)
  have HG := hd9 hg
  clear hg
  go_enter Tryz.func26, Tryz.ntmps26
  go_wp2_with fail
  generalize ((((w.alloc (.cells #[.int .i64 0, .int .i64 0, .slice none 0 0, .int .i64 0, .slice none 0 0] 35)).alloc (.cells #[.int .i64 0] 66)).alloc (.cells #[.int .i64 0, .nilIface] 105)).alloc (.cells #[.int .i64 0, .int .i64 0, .slice none 0 0, .int .i64 0, .slice none 0 0] 35)) = w4 at *
  have HG4 := (R4.out.b.cell (p := ⟨0, 0, none⟩) h0).trans HG.out
  refine (AsF w4 _ _ (w.heap.size + 1) true (fun w' => St w' (w.heap.size + 1) [.int .i64 c] ∧ Tw w4 (w.heap.size + 1) none w' none) HG4 (by have := R4.out.b.size; omega) (fun W hW hc hl => ?_)).mono ?_
  · refine (as_ff W c (w.heap.size + 1) w4.heap.size _ hc hl (R4.out.y.below hW)).mono ?_
    rintro e w' ⟨rfl, s9, t9⟩
    exact ⟨rfl, s9, (Tw.ofBelow hW _ none).trans t9⟩
  clear HG4
  rintro e w5 ⟨rfl, y5, t5⟩
  have Y5 := hd9 y5
  have B5 := hd9 (R4.out.b.trans (t5.below R4.out.b.size (by omega) (fun g h => by cases h)))
  have P5 := hd9 (t5.st R4.out.p (by omega) (by simp))
  have Z5 := hd9 (t5.st R4.out.z (by omega) (by simp))
  have R5 := hd9 (t5.st R4.out.r (by omega) (by simp))
  clear y5 t5 R4
  have y0 := Y5.out.cl 0 _ rfl
  have p0 := P5.out.cl 0 _ rfl
  have pf := P5.out.fz 0
  have P6 := hd9 (P5.out.set 0 (.int .i64 c))
  have Z6 := hd9 (Z5.out.other (c := w.heap.size + 3) (j := 0) (x := .int .i64 c) (by omega))
  have R6 := hd9 (R5.out.other (c := w.heap.size + 3) (j := 0) (x := .int .i64 c) (by omega))
  have B6 : Hid (Below w.heap.size w (w5.setCell ⟨w.heap.size + 3, 0, none⟩ (.int .i64 c))) := Below.setCell B5.out (by simp) _
  go_wp2_with fail
  clear y0 p0 pf P5 Z5 R5 B5 Y5
  generalize w5.setCell _ _ = w6 at *
  have HG6 := (B6.out.cell (p := ⟨0, 0, none⟩) h0).trans HG.out
  refine (AsO w6 _ _ (w.heap.size + 2) false (fun w' => Below w6.heap.size w6 w') HG6 (by have := B6.out.size; omega) (fun W hW hc hl => ?_)).mono ?_
  · refine (as_fo W c w6.heap.size _).mono ?_
    rintro e w' ⟨rfl, b9⟩
    exact ⟨rfl, hW.trans (b9.mono hW.size)⟩
  clear HG6
  rintro e w7 ⟨rfl, b7⟩
  have B7 := hd9 (B6.out.trans (b7.mono B6.out.size))
  have P7 := P6.out.below b7
  have R7 := R6.out.below b7
  have p0 := P7.cl 0 _ rfl
  have p1 := P7.cl 1 _ rfl
  have p2 := P7.cl 2 _ rfl
  have p3 := P7.cl 3 _ rfl
  have p4 := P7.cl 4 _ rfl
  have q1 := P7.fz 1
  have r0 := R7.cl 0 _ rfl
  have r1 := R7.cl 1 _ rfl
  have r2 := R7.cl 2 _ rfl
  have r3 := R7.cl 3 _ rfl
  have r4 := R7.cl 4 _ rfl
  have g0 := R7.fz 0
  have g1 := R7.fz 1
  have g2 := R7.fz 2
  have g3 := R7.fz 3
  have g4 := R7.fz 4
  clear P6 Z6 R6 B6
  go_wp2_with fail
  refine bodyPost_ret (v := .agg #[.int .i64 c, .int .i64 0, .slice none 0 0, .int .i64 0, .slice none 0 0]) (by simp [results, Tryz.results26, go_sem, p0, p1, p2, p3, p4, r0, r1, r2, r3, r4]) rfl ⟨rfl, ?_⟩
  repeat (first | exact B7.out | refine Below.setCell ?_ (by simp; try omega) _)

set_option linter.unusedSimpArgs false in
set_option maxHeartbeats 4000000 in
set_option maxRecDepth 100000 in
theorem refused_o (w : World) (j c : Int) (hg : w.cell? ⟨0, 0, none⟩ = some (.iface 142 (.agg #[.pointer (some ⟨7, 74, none⟩)]))) (h0 : 0 < w.heap.size) :
    Calls Tryz.prog 26 #[.iface 105 (.agg #[.int .i64 j, .iface 66 (.agg #[.int .i64 c])])] w fun e w' => e = .returned (.agg #[.int .i64 c, .int .i64 j, .slice none 0 0, .int .i64 0, .slice none 0 0]) ∧ Below w.heap.size w w' := by
  have R4 := hd9 (Rf4.new w)
  have HG := hd9 hg
  clear hg
  go_enter Tryz.func26, Tryz.ntmps26
  go_wp2_with fail
  generalize ((((w.alloc (.cells #[.int .i64 0, .int .i64 0, .slice none 0 0, .int .i64 0, .slice none 0 0] 35)).alloc (.cells #[.int .i64 0] 66)).alloc (.cells #[.int .i64 0, .nilIface] 105)).alloc (.cells #[.int .i64 0, .int .i64 0, .slice none 0 0, .int .i64 0, .slice none 0 0] 35)) = w4 at *
  have HG4 := (R4.out.b.cell (p := ⟨0, 0, none⟩) h0).trans HG.out
  refine (AsF w4 _ _ (w.heap.size + 1) true (fun w' => St w' (w.heap.size + 1) [.int .i64 c] ∧ Tw w4 (w.heap.size + 1) none w' none) HG4 (by have := R4.out.b.size; omega) (fun W hW hc hl => ?_)).mono ?_
  · refine (as_of W j c (w.heap.size + 1) w4.heap.size _ hc hl (R4.out.y.below hW)).mono ?_
    rintro e w' ⟨rfl, s9, t9⟩
    exact ⟨rfl, s9, (Tw.ofBelow hW _ none).trans t9⟩
  clear HG4
  rintro e w5 ⟨rfl, y5, t5⟩
  have Y5 := hd9 y5
  have B5 := hd9 (R4.out.b.trans (t5.below R4.out.b.size (by omega) (fun g h => by cases h)))
  have P5 := hd9 (t5.st R4.out.p (by omega) (by simp))
  have Z5 := hd9 (t5.st R4.out.z (by omega) (by simp))
  have R5 := hd9 (t5.st R4.out.r (by omega) (by simp))
  clear y5 t5 R4
  have y0 := Y5.out.cl 0 _ rfl
  have p0 := P5.out.cl 0 _ rfl
  have pf := P5.out.fz 0
  have P6 := hd9 (P5.out.set 0 (.int .i64 c))
  have Z6 := hd9 (Z5.out.other (c := w.heap.size + 3) (j := 0) (x := .int .i64 c) (by omega))
  have R6 := hd9 (R5.out.other (c := w.heap.size + 3) (j := 0) (x := .int .i64 c) (by omega))
  have B6 : Hid (Below w.heap.size w (w5.setCell ⟨w.heap.size + 3, 0, none⟩ (.int .i64 c))) := Below.setCell B5.out (by simp) _
  go_wp2_with fail
  clear y0 p0 pf P5 Z5 R5 B5 Y5
  generalize w5.setCell _ _ = w6 at *
  have HG6 := (B6.out.cell (p := ⟨0, 0, none⟩) h0).trans HG.out
  refine (AsO w6 _ _ (w.heap.size + 2) true (fun w' => St w' (w.heap.size + 2) [.int .i64 j, .iface 66 (.agg #[.int .i64 c])] ∧ Tw w6 (w.heap.size + 2) none w' none) HG6 (by have := B6.out.size; omega) (fun W hW hc hl => ?_)).mono ?_
  · refine (as_oo W j c (w.heap.size + 2) w6.heap.size _ hc hl (Z6.out.below hW)).mono ?_
    rintro e w' ⟨rfl, s9, t9⟩
    exact ⟨rfl, s9, (Tw.ofBelow hW _ none).trans t9⟩
  clear HG6
  rintro e w7 ⟨rfl, z7, t7⟩
  have B7 := hd9 (B6.out.trans (t7.below B6.out.size (by omega) (fun g h => by cases h)))
  have P7 := t7.st P6.out (by omega) (by simp)
  have R7 := t7.st R6.out (by omega) (by simp)
  have z0 := z7.cl 0 _ rfl
  have p0 := P7.cl 0 _ rfl
  have p1 := P7.cl 1 _ rfl
  have p2 := P7.cl 2 _ rfl
  have p3 := P7.cl 3 _ rfl
  have p4 := P7.cl 4 _ rfl
  have q1 := P7.fz 1
  have r0 := R7.cl 0 _ rfl
  have r1 := R7.cl 1 _ rfl
  have r2 := R7.cl 2 _ rfl
  have r3 := R7.cl 3 _ rfl
  have r4 := R7.cl 4 _ rfl
  have g0 := R7.fz 0
  have g1 := R7.fz 1
  have g2 := R7.fz 2
  have g3 := R7.fz 3
  have g4 := R7.fz 4
  clear P6 Z6 R6 B6
  go_wp2_with fail
  refine bodyPost_ret (v := .agg #[.int .i64 c, .int .i64 j, .slice none 0 0, .int .i64 0, .slice none 0 0]) (by simp [results, Tryz.results26, go_sem, p0, p1, p2, p3, p4, r0, r1, r2, r3, r4]) rfl ⟨rfl, ?_⟩
  repeat (first | exact B7.out | refine Below.setCell ?_ (by simp; try omega) _)

end Go.Proofs.YtejhcebodlcloaaGreatDoor


