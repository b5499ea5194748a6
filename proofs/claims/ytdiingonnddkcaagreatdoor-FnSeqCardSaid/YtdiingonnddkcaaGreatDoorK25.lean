import Derived.Test.YtdiingonnddkcaaGreatDoorK24
import Derived.Test.YtdiingonnddkcaaGreatDoorK05
import Derived.Test.YtdiingonnddkcaaGreatDoorK20
import Derived.Test.YtdiingonnddkcaaGreatDoorK21
import Derived.LaidEql
import Derived.Stop.Asserts
import Derived.RowKitTokens
namespace Go.Proofs.YtdiingonnddkcaaGreatDoor
open Go.RowKit Go.Shelf

theorem dd_ne (v : Nat) : 1 ≤ (Lib.decDigits v).length := by
  unfold Lib.decDigits
  split
  · simp
  · simp
theorem dd_small {v : Nat} (h : v < 10) : Lib.decDigits v = [UInt8.ofNat (48 + v)] := by rw [Lib.decDigits, dif_pos h]
theorem dd_big {v : Nat} (h : ¬ v < 10) : Lib.decDigits v = Lib.decDigits (v / 10) ++ [UInt8.ofNat (48 + v % 10)] := by rw [Lib.decDigits, dif_neg h]
theorem six_dd : ∀ f v d, v < 10 ^ f → d ≤ f → six f v d = if v = 0 ∧ d = 0 then [] else List.replicate (d - (Lib.decDigits v).length) 48 ++ Lib.decDigits v
  | 0, v, d, hv, hd => by
    have h1 : v = 0 := by simpa using hv
    have h2 : d = 0 := by omega
    rw [if_pos ⟨h1, h2⟩]; rfl
  | f + 1, v, d, hv, hd => by
    unfold six
    by_cases h0 : v = 0 ∧ d = 0
    · rw [if_pos h0, if_pos h0]
    · rw [if_neg h0, if_neg h0, six_dd f (v / 10) (d - 1) (by rw [Nat.pow_succ] at hv; omega) (by omega)]
      by_cases hs : v < 10
      · rw [dd_small hs, show v / 10 = 0 by omega, show v % 10 = v by omega]
        by_cases hd1 : d - 1 = 0
        · rw [if_pos ⟨rfl, hd1⟩]
          have : d - [UInt8.ofNat (48 + v)].length = 0 := by simp; omega
          rw [this]
          rfl
        · rw [if_neg (fun h => hd1 h.2), dd_small (v := 0) (by omega)]
          show List.replicate (d - 1 - 1) 48 ++ [UInt8.ofNat 48] ++ _ = List.replicate (d - 1) 48 ++ _
          congr 1
          rw [show d - 1 = (d - 1 - 1) + 1 by omega, List.replicate_succ']
          rfl
      · rw [if_neg (fun h => by omega), dd_big hs, List.append_assoc, List.length_append]
        congr 2
        show d - 1 - _ = d - (_ + 1)
        omega
theorem dd_len : ∀ f v, v < 10 ^ f → 1 ≤ f → (Lib.decDigits v).length ≤ f
  | 0, _, _, h => by omega
  | f + 1, v, hv, _ => by
    by_cases hs : v < 10
    · rw [dd_small hs]; simp
    · rw [dd_big hs, List.length_append]
      have h1 : v / 10 < 10 ^ f := by rw [Nat.pow_succ] at hv; omega
      have hf : 1 ≤ f := by
        rcases Nat.eq_zero_or_pos f with h | h
        · subst h; simp at h1; omega
        · exact h
      have := dd_len f (v / 10) h1 hf
      simp; omega
theorem rep_zero (c : Nat) : Lib.repeatL [48] c = List.replicate c (48 : UInt8) := by
  have := Lib.repeatL_replicate 48 1 c
  rw [Nat.mul_one] at this
  exact this
theorem below_grow9 (w : World) (k : Nat) (os : Array Obj) : Below w.heap.size w (Sort.grow (w.drewN k) os) :=
  ⟨rfl, rfl, rfl, by simp [Sort.grow, World.drewN], fun q hq => by simp [Sort.grow, World.drewN, Array.getElem?_append_left hq]⟩

set_option linter.unusedSimpArgs false in
set_option maxHeartbeats 2000000 in
set_option maxRecDepth 100000 in
theorem suffix_any (w : World) (n : Int) (h0 : 0 ≤ n) (h1 : n ≤ 2147483647) (htab : Lib.TabIs Tryz.prog w "internal/strconv.uint64pow10" .u64 Lib.pow10Tab) :
    Calls Tryz.prog 107 #[.int .i64 n] w fun e w' => e = .returned (.string ⟨(six 12 n.toNat 6).toArray⟩) ∧ Below w.heap.size w w' := by
  have HFI : Hid (Calls Tryz.prog 119 #[.int .i64 n, .int .i64 10] w fun e w' => e = .returned (.string ⟨(Lib.decDigits n.toNat).toArray⟩) ∧ Below w.heap.size w w') := by
    refine (Tryz.strconv_FormatInt_10 n (by omega) (by omega) w htab).mono ?_
    rintro e w' ⟨rfl, k, os, rfl⟩
    refine ⟨?_, below_grow9 w k os⟩
    unfold Lib.itoa
    rw [if_neg (by omega)]
  have hv : n.toNat < 10 ^ 12 := by omega
  have hl := dd_len 12 n.toNat hv (by omega)
  have hl1 := dd_ne n.toNat
  have HS : Hid (six 12 n.toNat 6 = List.replicate (6 - (Lib.decDigits n.toNat).length) 48 ++ Lib.decDigits n.toNat) := by
    show _ = _
    rw [six_dd 12 _ _ hv (by omega), if_neg (by omega)]
  obtain ⟨s, hs⟩ : ∃ s : ByteArray, s = ⟨(Lib.decDigits n.toNat).toArray⟩ := ⟨_, rfl⟩
  have hsz : s.size = (Lib.decDigits n.toNat).length := by rw [hs]; show (List.toArray _).size = _; rw [List.size_toArray]
  rw [← hs] at HFI
  have HSD := hd9 hs
  have HSZ := hd9 hsz
  have hs1 : 1 ≤ s.size := by omega
  have hs2 : s.size ≤ 12 := by omega
  clear htab hv hs hl hl1 hsz
  obtain ⟨c, hc⟩ : ∃ c : Nat, c = 6 - s.size := ⟨_, rfl⟩
  have HRE : Hid (∀ W, Calls Tryz.prog 120 #[.string ⟨#[48]⟩, .int .i64 (c : Int)] W fun e w' => e = .returned (.string ⟨(List.replicate c (48 : UInt8)).toArray⟩) ∧ Below W.heap.size W w') := fun W => by
    have h9 := Tryz.strings_Repeat ⟨#[48]⟩ c W (by omega) (by show 1 * c ≤ _; omega)
    rw [show (⟨#[48]⟩ : ByteArray).data.toList = [48] from rfl, rep_zero] at h9
    exact h9
  have hcm : max (0 : Int) (6 - (s.size : Int)) = (c : Int) := by omega
  go_enter Tryz.func107, Tryz.ntmps107
  go_wp2_with fail
  refine HFI.out.mono ?_
  rintro e w1 ⟨rfl, b1⟩
  have B1 := hd9 b1
  clear b1 HFI
  go_wp2_with fail
  rw [← hc]
  refine (HRE.out w1).mono ?_
  rintro e w2 ⟨rfl, b2⟩
  have B2 := hd9 (B1.out.trans (b2.mono B1.out.size))
  clear b2 HRE B1 hcm
  obtain ⟨t, ht⟩ : ∃ t : ByteArray, t = ⟨(List.replicate c (48 : UInt8)).toArray⟩ := ⟨_, rfl⟩
  have hts : t.size = c := by rw [ht]; show (List.toArray _).size = _; rw [List.size_toArray, List.length_replicate]
  rw [← ht]
  have HFIN : Hid (t ++ s = ⟨(six 12 n.toNat 6).toArray⟩) := by
    show _ = _
    rw [HS.out, ← HSZ.out, ← hc, ht, HSD.out]
    apply ByteArray.ext
    rw [ByteArray.data_append]
    apply Array.ext'
    simp
  clear ht
  have hcc : t.size + s.size ≤ 9223372036854775807 := by omega
  clear hc
  go_wp2_with fail
  refine bodyPost_ret (v := .string (t ++ s)) (by simp [results, Tryz.results107, go_sem]) rfl ⟨by rw [HFIN.out], B2.out⟩

end Go.Proofs.YtdiingonnddkcaaGreatDoor
namespace Go.Proofs.YtdiingonnddkcaaGreatDoor
open Go.RowKit Go.Extern.Stop Go.Stop Go.Extern

theorem rlm9 (v : Value) (f : Value → Sem Value) (g : Array Value → Sem Value) : ReflectliteValue.method.match_2 (fun _ => Sem Value) #[v] f g = f v := rfl
theorem rls9 (v x : Value) (f : Value → Value → Sem Value) (g : Array Value → Sem Value) : ReflectliteValue.set.match_3 (fun _ => Sem Value) #[v, x] f g = f v x := rfl
theorem Tryz.rmK (h : Value) (w : World) : (Go.method 156 171 (.agg #[h]) "Kind").run Tryz.prog w = .ok (171, h) w := by kernel_rfl
theorem Tryz.rmE (h : Value) (w : World) : (Go.method 156 171 (.agg #[h]) "Elem").run Tryz.prog w = .ok (183, .agg #[h]) w := by kernel_rfl
theorem Tryz.rmI (h : Value) (w : World) : (Go.method 156 171 (.agg #[h]) "Implements").run Tryz.prog w = .ok (184, .agg #[h]) w := by kernel_rfl
theorem Tryz.rmA (h : Value) (w : World) : (Go.method 156 171 (.agg #[h]) "AssignableTo").run Tryz.prog w = .ok (181, .agg #[h]) w := by kernel_rfl
theorem Tryz.rmU (v : Value) (w : World) : (Go.method 179 115 v "Unwrap").run Tryz.prog w = .ok (176, v) w := by kernel_rfl
theorem Tryz.rasff (w : World) : (ReflectliteType.relation "AssignableTo" ReflectliteType.assignableTo #[.agg #[.pointer (some ⟨7, 71, none⟩)], .iface 171 (.agg #[.pointer (some ⟨7, 71, none⟩)])]).run Tryz.prog w = .ok (.bool true) w := by kernel_rfl
theorem Tryz.rasfo (w : World) : (ReflectliteType.relation "AssignableTo" ReflectliteType.assignableTo #[.agg #[.pointer (some ⟨7, 71, none⟩)], .iface 171 (.agg #[.pointer (some ⟨7, 115, none⟩)])]).run Tryz.prog w = .ok (.bool false) w := by kernel_rfl
theorem Tryz.rasof (w : World) : (ReflectliteType.relation "AssignableTo" ReflectliteType.assignableTo #[.agg #[.pointer (some ⟨7, 115, none⟩)], .iface 171 (.agg #[.pointer (some ⟨7, 71, none⟩)])]).run Tryz.prog w = .ok (.bool false) w := by kernel_rfl
theorem Tryz.rasoo (w : World) : (ReflectliteType.relation "AssignableTo" ReflectliteType.assignableTo #[.agg #[.pointer (some ⟨7, 115, none⟩)], .iface 171 (.agg #[.pointer (some ⟨7, 115, none⟩)])]).run Tryz.prog w = .ok (.bool true) w := by kernel_rfl
theorem Tryz.rnAf (v : Value) (x : TypeId) (w : World) : (Instr.typeAssert (.iface 71 v) x 176 true).run Tryz.prog w = .ok (.tuple #[.nilIface, .bool false]) w := run_typeAssert_lacksB Tryz.underlying176 (by kernel_rfl) (by kernel_rfl) v x w
theorem Tryz.rnAo (v : Value) (x : TypeId) (w : World) : (Instr.typeAssert (.iface 115 v) x 176 true).run Tryz.prog w = .ok (.tuple #[.nilIface, .bool false]) w := run_typeAssert_lacksB Tryz.underlying176 (by kernel_rfl) (by kernel_rfl) v x w
theorem Tryz.rnUf (v : Value) (x : TypeId) (w : World) : (Instr.typeAssert (.iface 71 v) x 179 true).run Tryz.prog w = .ok (.tuple #[.nilIface, .bool false]) w := run_typeAssert_lacksB Tryz.underlying179 (by kernel_rfl) (by kernel_rfl) v x w
theorem Tryz.rnVf (v : Value) (x : TypeId) (w : World) : (Instr.typeAssert (.iface 71 v) x 181 true).run Tryz.prog w = .ok (.tuple #[.nilIface, .bool false]) w := run_typeAssert_lacksB Tryz.underlying181 (by kernel_rfl) (by kernel_rfl) v x w
theorem Tryz.ryUo (v : Value) (x : TypeId) (w : World) : (Instr.typeAssert (.iface 115 v) x 179 true).run Tryz.prog w = .ok (.tuple #[.iface 115 v, .bool true]) w := run_typeAssert_hasB Tryz.underlying179 (by kernel_rfl) v x w

theorem Tryz.rvPF (t : Addr) (w : World) : (ReflectliteValue.unpack (.iface 117 (.pointer (some t)))).run Tryz.prog w = .ok (.agg #[.pointer (some ⟨7, 117, none⟩), .pointer (some ⟨w.heap.size, 0, none⟩), .int .u64 150]) (w.alloc (.cells #[.pointer (some t)] 117)) := by kernel_rfl
theorem Tryz.rtyF (a : Addr) (w : World) : (ReflectliteValue.methodAny (ReflectliteValue.valueError "reflectlite.Value.Type" 0) (fun t _ _ _ => ReflectliteType.toType t) #[.agg #[.pointer (some ⟨7, 117, none⟩), .pointer (some a), .int .u64 150]]).run Tryz.prog w = .ok (.iface 171 (.agg #[.pointer (some ⟨7, 117, none⟩)])) w := by kernel_rfl
theorem Tryz.rkPF (w : World) : ((ReflectliteType.abiMethod fun t => Functor.map (fun a : Nat => Value.int IntKind.u8 (a : Int)) (Rtype.kind t)) #[.pointer (some ⟨7, 117, none⟩)]).run Tryz.prog w = .ok (.int .u8 22) w := by kernel_rfl
theorem Tryz.rkEF (w : World) : ((ReflectliteType.abiMethod fun t => Functor.map (fun a : Nat => Value.int IntKind.u8 (a : Int)) (Rtype.kind t)) #[.pointer (some ⟨7, 71, none⟩)]).run Tryz.prog w = .ok (.int .u8 25) w := by kernel_rfl
theorem Tryz.rptF (a : Addr) (w : World) : (ReflectliteValue.parts (.agg #[.pointer (some ⟨7, 117, none⟩), .pointer (some a), .int .u64 150])).run Tryz.prog w = .ok (some (117, a, 150)) w := by kernel_rfl
theorem Tryz.rinF (a p : Addr) (W : World) (ha : W.cell? a = some (.pointer (some p))) : (ReflectliteValue.method (ReflectliteValue.valueError "reflectlite.Value.IsNil" 0) ReflectliteValue.isNil #[.agg #[.pointer (some ⟨7, 117, none⟩), .pointer (some a), .int .u64 150]]).run Tryz.prog W = .ok (.bool false) W := by
  delta ReflectliteValue.method
  rw [rlm9]
  simp only [Sem.run_bind, Tryz.rptF, Result.andThen]
  simp [ReflectliteValue.isNil, loadVar, isAgg, underlying, Tryz.underlying117, ha, Result.andThen]
theorem Tryz.relF (w : World) : (ReflectliteType.method ReflectliteType.elem #[.agg #[.pointer (some ⟨7, 117, none⟩)]]).run Tryz.prog w = .ok (.iface 171 (.agg #[.pointer (some ⟨7, 71, none⟩)])) w := by kernel_rfl
theorem Tryz.rimF (w : World) : (ReflectliteType.relation "Implements" ReflectliteType.implements_ #[.agg #[.pointer (some ⟨7, 71, none⟩)], .iface 171 (.agg #[.pointer (some ⟨7, 77, none⟩)])]).run Tryz.prog w = .ok (.bool true) w := by kernel_rfl
theorem Tryz.rtoF (x : Value) (w : World) : (ReflectliteType.typeOf #[.iface 71 x]).run Tryz.prog w = .ok (.iface 171 (.agg #[.pointer (some ⟨7, 71, none⟩)])) w := by kernel_rfl
theorem Tryz.rvEF (c : Int) (w : World) : (ReflectliteValue.unpack (.iface 71 (.agg #[.int .i64 c]))).run Tryz.prog w = .ok (.agg #[.pointer (some ⟨7, 71, none⟩), .pointer (some ⟨w.heap.size, 0, none⟩), .int .u64 153]) (w.alloc (.cells #[.int .i64 c] 71)) := by kernel_rfl
theorem Tryz.reoF (w : World) : (Rtype.elem? 117).run Tryz.prog w = .ok (some 71) w := by kernel_rfl
theorem Tryz.rmkF (p : Addr) (w : World) : (ReflectliteValue.mk 71 p ReflectliteValue.flagAddr).run Tryz.prog w = .ok (.agg #[.pointer (some ⟨7, 71, none⟩), .pointer (some p), .int .u64 409]) w := by kernel_rfl
theorem Tryz.revF (a p : Addr) (W : World) (ha : W.cell? a = some (.pointer (some p))) : (ReflectliteValue.method (ReflectliteValue.valueError "reflectlite.Value.Elem" 0) ReflectliteValue.elem #[.agg #[.pointer (some ⟨7, 117, none⟩), .pointer (some a), .int .u64 150]]).run Tryz.prog W = .ok (.agg #[.pointer (some ⟨7, 71, none⟩), .pointer (some p), .int .u64 409]) W := by
  delta ReflectliteValue.method
  rw [rlm9]
  simp only [Sem.run_bind, Tryz.rptF, Result.andThen]
  simp [ReflectliteValue.elem, loadVar, isAgg, underlying, Tryz.underlying117, ha, Result.andThen, Tryz.reoF, Tryz.rmkF]
theorem Tryz.rpaF (a : Addr) (w : World) : (ReflectliteValue.parts (.agg #[.pointer (some ⟨7, 71, none⟩), .pointer (some a), .int .u64 409])).run Tryz.prog w = .ok (some (71, a, 409)) w := by kernel_rfl
theorem Tryz.rpbF (a : Addr) (w : World) : (ReflectliteValue.parts (.agg #[.pointer (some ⟨7, 71, none⟩), .pointer (some a), .int .u64 153])).run Tryz.prog w = .ok (some (71, a, 153)) w := by kernel_rfl
theorem Tryz.rdaF (w : World) : (Rtype.directlyAssignable 71 71).run Tryz.prog w = .ok true w := by kernel_rfl
theorem Tryz.rvPO (t : Addr) (w : World) : (ReflectliteValue.unpack (.iface 118 (.pointer (some t)))).run Tryz.prog w = .ok (.agg #[.pointer (some ⟨7, 118, none⟩), .pointer (some ⟨w.heap.size, 0, none⟩), .int .u64 150]) (w.alloc (.cells #[.pointer (some t)] 118)) := by kernel_rfl
theorem Tryz.rtyO (a : Addr) (w : World) : (ReflectliteValue.methodAny (ReflectliteValue.valueError "reflectlite.Value.Type" 0) (fun t _ _ _ => ReflectliteType.toType t) #[.agg #[.pointer (some ⟨7, 118, none⟩), .pointer (some a), .int .u64 150]]).run Tryz.prog w = .ok (.iface 171 (.agg #[.pointer (some ⟨7, 118, none⟩)])) w := by kernel_rfl
theorem Tryz.rkPO (w : World) : ((ReflectliteType.abiMethod fun t => Functor.map (fun a : Nat => Value.int IntKind.u8 (a : Int)) (Rtype.kind t)) #[.pointer (some ⟨7, 118, none⟩)]).run Tryz.prog w = .ok (.int .u8 22) w := by kernel_rfl
theorem Tryz.rkEO (w : World) : ((ReflectliteType.abiMethod fun t => Functor.map (fun a : Nat => Value.int IntKind.u8 (a : Int)) (Rtype.kind t)) #[.pointer (some ⟨7, 115, none⟩)]).run Tryz.prog w = .ok (.int .u8 25) w := by kernel_rfl
theorem Tryz.rptO (a : Addr) (w : World) : (ReflectliteValue.parts (.agg #[.pointer (some ⟨7, 118, none⟩), .pointer (some a), .int .u64 150])).run Tryz.prog w = .ok (some (118, a, 150)) w := by kernel_rfl
theorem Tryz.rinO (a p : Addr) (W : World) (ha : W.cell? a = some (.pointer (some p))) : (ReflectliteValue.method (ReflectliteValue.valueError "reflectlite.Value.IsNil" 0) ReflectliteValue.isNil #[.agg #[.pointer (some ⟨7, 118, none⟩), .pointer (some a), .int .u64 150]]).run Tryz.prog W = .ok (.bool false) W := by
  delta ReflectliteValue.method
  rw [rlm9]
  simp only [Sem.run_bind, Tryz.rptO, Result.andThen]
  simp [ReflectliteValue.isNil, loadVar, isAgg, underlying, Tryz.underlying118, ha, Result.andThen]
theorem Tryz.relO (w : World) : (ReflectliteType.method ReflectliteType.elem #[.agg #[.pointer (some ⟨7, 118, none⟩)]]).run Tryz.prog w = .ok (.iface 171 (.agg #[.pointer (some ⟨7, 115, none⟩)])) w := by kernel_rfl
theorem Tryz.rimO (w : World) : (ReflectliteType.relation "Implements" ReflectliteType.implements_ #[.agg #[.pointer (some ⟨7, 115, none⟩)], .iface 171 (.agg #[.pointer (some ⟨7, 77, none⟩)])]).run Tryz.prog w = .ok (.bool true) w := by kernel_rfl
theorem Tryz.rtoO (x : Value) (w : World) : (ReflectliteType.typeOf #[.iface 115 x]).run Tryz.prog w = .ok (.iface 171 (.agg #[.pointer (some ⟨7, 115, none⟩)])) w := by kernel_rfl
theorem Tryz.rvEO (c : Int) (v : Value) (w : World) : (ReflectliteValue.unpack (.iface 115 (.agg #[.int .i64 c, v]))).run Tryz.prog w = .ok (.agg #[.pointer (some ⟨7, 115, none⟩), .pointer (some ⟨w.heap.size, 0, none⟩), .int .u64 153]) (w.alloc (.cells #[.int .i64 c, v] 115)) := by kernel_rfl
theorem Tryz.reoO (w : World) : (Rtype.elem? 118).run Tryz.prog w = .ok (some 115) w := by kernel_rfl
theorem Tryz.rmkO (p : Addr) (w : World) : (ReflectliteValue.mk 115 p ReflectliteValue.flagAddr).run Tryz.prog w = .ok (.agg #[.pointer (some ⟨7, 115, none⟩), .pointer (some p), .int .u64 409]) w := by kernel_rfl
theorem Tryz.revO (a p : Addr) (W : World) (ha : W.cell? a = some (.pointer (some p))) : (ReflectliteValue.method (ReflectliteValue.valueError "reflectlite.Value.Elem" 0) ReflectliteValue.elem #[.agg #[.pointer (some ⟨7, 118, none⟩), .pointer (some a), .int .u64 150]]).run Tryz.prog W = .ok (.agg #[.pointer (some ⟨7, 115, none⟩), .pointer (some p), .int .u64 409]) W := by
  delta ReflectliteValue.method
  rw [rlm9]
  simp only [Sem.run_bind, Tryz.rptO, Result.andThen]
  simp [ReflectliteValue.elem, loadVar, isAgg, underlying, Tryz.underlying118, ha, Result.andThen, Tryz.reoO, Tryz.rmkO]
theorem Tryz.rpaO (a : Addr) (w : World) : (ReflectliteValue.parts (.agg #[.pointer (some ⟨7, 115, none⟩), .pointer (some a), .int .u64 409])).run Tryz.prog w = .ok (some (115, a, 409)) w := by kernel_rfl
theorem Tryz.rpbO (a : Addr) (w : World) : (ReflectliteValue.parts (.agg #[.pointer (some ⟨7, 115, none⟩), .pointer (some a), .int .u64 153])).run Tryz.prog w = .ok (some (115, a, 153)) w := by kernel_rfl
theorem Tryz.rdaO (w : World) : (Rtype.directlyAssignable 115 115).run Tryz.prog w = .ok true w := by kernel_rfl
theorem Tryz.rseF (t b : Nat) (c : Int) (old : Value) (W : World) (hb : W.cell? ⟨b, 0, none⟩ = some (.int .i64 c)) (ht : W.cell? ⟨t, 0, none⟩ = some old) (hf : W.frozen? ⟨t, 0, none⟩ = false) :
    (ReflectliteValue.set #[.agg #[.pointer (some ⟨7, 71, none⟩), .pointer (some ⟨t, 0, none⟩), .int .u64 409], .agg #[.pointer (some ⟨7, 71, none⟩), .pointer (some ⟨b, 0, none⟩), .int .u64 153]]).run Tryz.prog W = .ok (.tuple #[]) (W.setCell ⟨t, 0, none⟩ (.int .i64 c)) := by
  delta ReflectliteValue.set
  rw [rls9]
  simp only [Sem.run_bind, Tryz.rpaF, Tryz.rpbF, Result.andThen]
  go_simp
  rw [if_neg (show ¬ 409 / ReflectliteValue.flagAddr % 2 = 0 by decide)]
  simp [Tryz.rdaF, Result.andThen, ht, hf]
theorem Tryz.rseO (t b : Nat) (c d : Int) (old old2 : Value) (W : World) (hb : W.cell? ⟨b, 0, none⟩ = some (.int .i64 c)) (hb1 : W.cell? ⟨b, 1, none⟩ = some (.iface 71 (.agg #[.int .i64 d]))) (ht : W.cell? ⟨t, 0, none⟩ = some old) (hf : W.frozen? ⟨t, 0, none⟩ = false) (ht1 : W.cell? ⟨t, 1, none⟩ = some old2) (hf1 : W.frozen? ⟨t, 1, none⟩ = false) :
    (ReflectliteValue.set #[.agg #[.pointer (some ⟨7, 115, none⟩), .pointer (some ⟨t, 0, none⟩), .int .u64 409], .agg #[.pointer (some ⟨7, 115, none⟩), .pointer (some ⟨b, 0, none⟩), .int .u64 153]]).run Tryz.prog W = .ok (.tuple #[]) ((W.setCell ⟨t, 0, none⟩ (.int .i64 c)).setCell ⟨t, 1, none⟩ (.iface 71 (.agg #[.int .i64 d]))) := by
  have ht2 : (W.setCell ⟨t, 0, none⟩ (.int .i64 c)).cell? ⟨t, 1, none⟩ = some old2 := (World.cell?_setCell_other _ _ _ _ (by simp)).trans ht1
  delta ReflectliteValue.set
  rw [rls9]
  simp only [Sem.run_bind, Tryz.rpaO, Tryz.rpbO, Result.andThen]
  go_simp
  rw [if_neg (show ¬ 409 / ReflectliteValue.flagAddr % 2 = 0 by decide)]
  simp [Tryz.rdaO, Result.andThen, ht, hf, ht2, hf1]


theorem below2 (w : World) (o1 o2 : Obj) : Below w.heap.size w ((w.alloc o1).alloc o2) := ((Below.refl _ _).alloc (Nat.le_refl _) _).alloc (by simp) _
theorem below4 (w : World) (o1 o2 o3 o4 : Obj) : Below w.heap.size w ((((w.alloc o1).alloc o2).alloc o3).alloc o4) := (below2 w o1 o2).trans ((below2 _ o3 o4).mono (by simp; omega))
set_option linter.unusedSimpArgs false in
set_option maxHeartbeats 4000000 in
set_option maxRecDepth 100000 in
/-- errors.as, the error of the very type of the target: fault. -/
theorem as_ff (w : World) (c : Int) (t a : Nat) (tg : Value) (ha : w.cell? ⟨a, 0, none⟩ = some (.pointer (some ⟨t, 0, none⟩))) (hal : a < w.heap.size) (ht : St w t [.int .i64 0]) :
    Calls Tryz.prog 91 #[.iface 71 (.agg #[.int .i64 c]), tg, .agg #[.pointer (some ⟨7, 117, none⟩), .pointer (some ⟨a, 0, none⟩), .int .u64 150], .iface 171 (.agg #[.pointer (some ⟨7, 71, none⟩)])] w fun e w' => e = .returned (.bool true) ∧ St w' t [.int .i64 c] ∧ Tw w t none w' none := by
  have hx1 := @run_callFunc_extern Tryz.prog 88 _ (fun args => ReflectliteValue.unpack (args.getD 0 (.tuple #[]))) Tryz.func88 (by kernel_rfl) (by kernel_rfl) (by kernel_rfl) (by kernel_rfl)
  have hx2 := @run_callFunc_extern Tryz.prog 89 _ (ReflectliteValue.methodAny (ReflectliteValue.valueError "reflectlite.Value.Type" 0) (fun t _ _ _ => ReflectliteType.toType t)) Tryz.func89 (by kernel_rfl) (by kernel_rfl) (by kernel_rfl) (by kernel_rfl)
  have hx3 := @run_callFunc_extern Tryz.prog 90 _ (ReflectliteValue.method (ReflectliteValue.valueError "reflectlite.Value.IsNil" 0) ReflectliteValue.isNil) Tryz.func90 (by kernel_rfl) (by kernel_rfl) (by kernel_rfl) (by kernel_rfl)
  have hx4 := @run_callFunc_extern Tryz.prog 171 _ (ReflectliteType.abiMethod fun t => do pure (.int .u8 (← Rtype.kind t))) Tryz.func171 (by kernel_rfl) (by kernel_rfl) (by kernel_rfl) (by kernel_rfl)
  have hx5 := @run_callFunc_extern Tryz.prog 183 _ (ReflectliteType.method ReflectliteType.elem) Tryz.func183 (by kernel_rfl) (by kernel_rfl) (by kernel_rfl) (by kernel_rfl)
  have hx6 := @run_callFunc_extern Tryz.prog 184 _ (ReflectliteType.relation "Implements" ReflectliteType.implements_) Tryz.func184 (by kernel_rfl) (by kernel_rfl) (by kernel_rfl) (by kernel_rfl)
  have hx7 := @run_callFunc_extern Tryz.prog 104 _ ReflectliteType.typeOf Tryz.func104 (by kernel_rfl) (by kernel_rfl) (by kernel_rfl) (by kernel_rfl)
  have hx8 := @run_callFunc_extern Tryz.prog 181 _ (ReflectliteType.relation "AssignableTo" ReflectliteType.assignableTo) Tryz.func181 (by kernel_rfl) (by kernel_rfl) (by kernel_rfl) (by kernel_rfl)
  have hx9 := @run_callFunc_extern Tryz.prog 105 _ (ReflectliteValue.method (ReflectliteValue.valueError "reflectlite.Value.Elem" 0) ReflectliteValue.elem) Tryz.func105 (by kernel_rfl) (by kernel_rfl) (by kernel_rfl) (by kernel_rfl)
  have hx10 := @run_callFunc_extern Tryz.prog 106 _ ReflectliteValue.set Tryz.func106 (by kernel_rfl) (by kernel_rfl) (by kernel_rfl) (by kernel_rfl)
  have mK := Tryz.rmK
  have mE := Tryz.rmE
  have mI := Tryz.rmI
  have mA := Tryz.rmA
  have tO := Tryz.rtoF
  have as1 := Tryz.rasff
  have vE := Tryz.rvEF
  have htl := ht.lt
  have B1 : Hid (Below w.heap.size w (w.alloc (.cells #[.pointer (some ⟨7, 117, none⟩), .pointer (some ⟨a, 0, none⟩), .int .u64 150] 153))) := (Below.refl _ _).alloc (Nat.le_refl _) _
  have B2 : Hid (Below w.heap.size w ((w.alloc (.cells #[.pointer (some ⟨7, 117, none⟩), .pointer (some ⟨a, 0, none⟩), .int .u64 150] 153)).alloc (.cells #[.int .i64 c] 71))) := B1.out.alloc B1.out.size _
  have T2 := hd9 (ht.below B2.out)
  have el := Tryz.revF ⟨a, 0, none⟩ ⟨t, 0, none⟩ (w.alloc (.cells #[.pointer (some ⟨7, 117, none⟩), .pointer (some ⟨a, 0, none⟩), .int .u64 150] 153)) ((B1.out.cell (p := ⟨a, 0, none⟩) hal).trans ha)
  have se := Tryz.rseF t (w.heap.size + 1) c (.int .i64 0) ((w.alloc (.cells #[.pointer (some ⟨7, 117, none⟩), .pointer (some ⟨a, 0, none⟩), .int .u64 150] 153)).alloc (.cells #[.int .i64 c] 71)) (by rw [World.cell?_alloc_at _ _ _ _ (by simp)]; rfl) (T2.out.cl 0 _ rfl) (T2.out.fz 0)
  go_enter Tryz.func91, Tryz.ntmps91
  go_wp2
  refine wp_loop_rounds 1 ?_
  rw [rounds_succ]
  go_wp2
  exact bodyPost_ret (v := .bool true) (by simp [results, Tryz.results91, go_sem]) rfl ⟨rfl, (ht.set 0 _).below (below2 _ _ _), (Tw.refl w t none).set.trans (Tw.ofBelow (below2 _ _ _) t none)⟩


set_option linter.unusedSimpArgs false in
set_option maxHeartbeats 4000000 in
set_option maxRecDepth 100000 in
theorem as_oo (w : World) (c d : Int) (t a : Nat) (tg : Value) (ha : w.cell? ⟨a, 0, none⟩ = some (.pointer (some ⟨t, 0, none⟩))) (hal : a < w.heap.size) (ht : St w t [.int .i64 0, .nilIface]) :
    Calls Tryz.prog 91 #[.iface 115 (.agg #[.int .i64 c, .iface 71 (.agg #[.int .i64 d])]), tg, .agg #[.pointer (some ⟨7, 118, none⟩), .pointer (some ⟨a, 0, none⟩), .int .u64 150], .iface 171 (.agg #[.pointer (some ⟨7, 115, none⟩)])] w fun e w' => e = .returned (.bool true) ∧ St w' t [.int .i64 c, .iface 71 (.agg #[.int .i64 d])] ∧ Tw w t none w' none := by
  have hx1 := @run_callFunc_extern Tryz.prog 88 _ (fun args => ReflectliteValue.unpack (args.getD 0 (.tuple #[]))) Tryz.func88 (by kernel_rfl) (by kernel_rfl) (by kernel_rfl) (by kernel_rfl)
  have hx2 := @run_callFunc_extern Tryz.prog 89 _ (ReflectliteValue.methodAny (ReflectliteValue.valueError "reflectlite.Value.Type" 0) (fun t _ _ _ => ReflectliteType.toType t)) Tryz.func89 (by kernel_rfl) (by kernel_rfl) (by kernel_rfl) (by kernel_rfl)
  have hx3 := @run_callFunc_extern Tryz.prog 90 _ (ReflectliteValue.method (ReflectliteValue.valueError "reflectlite.Value.IsNil" 0) ReflectliteValue.isNil) Tryz.func90 (by kernel_rfl) (by kernel_rfl) (by kernel_rfl) (by kernel_rfl)
  have hx4 := @run_callFunc_extern Tryz.prog 171 _ (ReflectliteType.abiMethod fun t => do pure (.int .u8 (← Rtype.kind t))) Tryz.func171 (by kernel_rfl) (by kernel_rfl) (by kernel_rfl) (by kernel_rfl)
  have hx5 := @run_callFunc_extern Tryz.prog 183 _ (ReflectliteType.method ReflectliteType.elem) Tryz.func183 (by kernel_rfl) (by kernel_rfl) (by kernel_rfl) (by kernel_rfl)
  have hx6 := @run_callFunc_extern Tryz.prog 184 _ (ReflectliteType.relation "Implements" ReflectliteType.implements_) Tryz.func184 (by kernel_rfl) (by kernel_rfl) (by kernel_rfl) (by kernel_rfl)
  have hx7 := @run_callFunc_extern Tryz.prog 104 _ ReflectliteType.typeOf Tryz.func104 (by kernel_rfl) (by kernel_rfl) (by kernel_rfl) (by kernel_rfl)
  have hx8 := @run_callFunc_extern Tryz.prog 181 _ (ReflectliteType.relation "AssignableTo" ReflectliteType.assignableTo) Tryz.func181 (by kernel_rfl) (by kernel_rfl) (by kernel_rfl) (by kernel_rfl)
  have hx9 := @run_callFunc_extern Tryz.prog 105 _ (ReflectliteValue.method (ReflectliteValue.valueError "reflectlite.Value.Elem" 0) ReflectliteValue.elem) Tryz.func105 (by kernel_rfl) (by kernel_rfl) (by kernel_rfl) (by kernel_rfl)
  have hx10 := @run_callFunc_extern Tryz.prog 106 _ ReflectliteValue.set Tryz.func106 (by kernel_rfl) (by kernel_rfl) (by kernel_rfl) (by kernel_rfl)
  have mK := Tryz.rmK
  have mE := Tryz.rmE
  have mI := Tryz.rmI
  have mA := Tryz.rmA
  have tO := Tryz.rtoO
  have as1 := Tryz.rasoo
  have vE := Tryz.rvEO
  have htl := ht.lt
  have B1 : Hid (Below w.heap.size w (w.alloc (.cells #[.pointer (some ⟨7, 118, none⟩), .pointer (some ⟨a, 0, none⟩), .int .u64 150] 153))) := (Below.refl _ _).alloc (Nat.le_refl _) _
  have B2 : Hid (Below w.heap.size w ((w.alloc (.cells #[.pointer (some ⟨7, 118, none⟩), .pointer (some ⟨a, 0, none⟩), .int .u64 150] 153)).alloc (.cells #[.int .i64 c, .iface 71 (.agg #[.int .i64 d])] 115))) := B1.out.alloc B1.out.size _
  have T2 := hd9 (ht.below B2.out)
  have el := Tryz.revO ⟨a, 0, none⟩ ⟨t, 0, none⟩ (w.alloc (.cells #[.pointer (some ⟨7, 118, none⟩), .pointer (some ⟨a, 0, none⟩), .int .u64 150] 153)) ((B1.out.cell (p := ⟨a, 0, none⟩) hal).trans ha)
  have se := Tryz.rseO t (w.heap.size + 1) c d (.int .i64 0) .nilIface ((w.alloc (.cells #[.pointer (some ⟨7, 118, none⟩), .pointer (some ⟨a, 0, none⟩), .int .u64 150] 153)).alloc (.cells #[.int .i64 c, .iface 71 (.agg #[.int .i64 d])] 115)) (by rw [World.cell?_alloc_at _ _ _ _ (by simp)]; rfl) (by rw [World.cell?_alloc_at _ _ _ _ (by simp)]; rfl) (T2.out.cl 0 _ rfl) (T2.out.fz 0) (T2.out.cl 1 _ rfl) (T2.out.fz 1)
  go_enter Tryz.func91, Tryz.ntmps91
  go_wp2
  refine wp_loop_rounds 1 ?_
  rw [rounds_succ]
  go_wp2
  exact bodyPost_ret (v := .bool true) (by simp [results, Tryz.results91, go_sem]) rfl ⟨rfl, ((ht.set 0 _).set 1 _).below (below2 _ _ _), (Tw.refl w t none).set.set.trans (Tw.ofBelow (below2 _ _ _) t none)⟩

set_option linter.unusedSimpArgs false in
set_option maxHeartbeats 4000000 in
set_option maxRecDepth 100000 in
theorem as_fo (w : World) (c : Int) (a : Nat) (tg : Value) :
    Calls Tryz.prog 91 #[.iface 71 (.agg #[.int .i64 c]), tg, .agg #[.pointer (some ⟨7, 118, none⟩), .pointer (some ⟨a, 0, none⟩), .int .u64 150], .iface 171 (.agg #[.pointer (some ⟨7, 115, none⟩)])] w fun e w' => e = .returned (.bool false) ∧ Below w.heap.size w w' := by
  have hx1 := @run_callFunc_extern Tryz.prog 88 _ (fun args => ReflectliteValue.unpack (args.getD 0 (.tuple #[]))) Tryz.func88 (by kernel_rfl) (by kernel_rfl) (by kernel_rfl) (by kernel_rfl)
  have hx2 := @run_callFunc_extern Tryz.prog 89 _ (ReflectliteValue.methodAny (ReflectliteValue.valueError "reflectlite.Value.Type" 0) (fun t _ _ _ => ReflectliteType.toType t)) Tryz.func89 (by kernel_rfl) (by kernel_rfl) (by kernel_rfl) (by kernel_rfl)
  have hx3 := @run_callFunc_extern Tryz.prog 90 _ (ReflectliteValue.method (ReflectliteValue.valueError "reflectlite.Value.IsNil" 0) ReflectliteValue.isNil) Tryz.func90 (by kernel_rfl) (by kernel_rfl) (by kernel_rfl) (by kernel_rfl)
  have hx4 := @run_callFunc_extern Tryz.prog 171 _ (ReflectliteType.abiMethod fun t => do pure (.int .u8 (← Rtype.kind t))) Tryz.func171 (by kernel_rfl) (by kernel_rfl) (by kernel_rfl) (by kernel_rfl)
  have hx5 := @run_callFunc_extern Tryz.prog 183 _ (ReflectliteType.method ReflectliteType.elem) Tryz.func183 (by kernel_rfl) (by kernel_rfl) (by kernel_rfl) (by kernel_rfl)
  have hx6 := @run_callFunc_extern Tryz.prog 184 _ (ReflectliteType.relation "Implements" ReflectliteType.implements_) Tryz.func184 (by kernel_rfl) (by kernel_rfl) (by kernel_rfl) (by kernel_rfl)
  have hx7 := @run_callFunc_extern Tryz.prog 104 _ ReflectliteType.typeOf Tryz.func104 (by kernel_rfl) (by kernel_rfl) (by kernel_rfl) (by kernel_rfl)
  have hx8 := @run_callFunc_extern Tryz.prog 181 _ (ReflectliteType.relation "AssignableTo" ReflectliteType.assignableTo) Tryz.func181 (by kernel_rfl) (by kernel_rfl) (by kernel_rfl) (by kernel_rfl)
  have hx9 := @run_callFunc_extern Tryz.prog 105 _ (ReflectliteValue.method (ReflectliteValue.valueError "reflectlite.Value.Elem" 0) ReflectliteValue.elem) Tryz.func105 (by kernel_rfl) (by kernel_rfl) (by kernel_rfl) (by kernel_rfl)
  have hx10 := @run_callFunc_extern Tryz.prog 106 _ ReflectliteValue.set Tryz.func106 (by kernel_rfl) (by kernel_rfl) (by kernel_rfl) (by kernel_rfl)
  have mK := Tryz.rmK
  have mE := Tryz.rmE
  have mI := Tryz.rmI
  have mA := Tryz.rmA
  have tO := Tryz.rtoF
  have as1 := Tryz.rasfo
  have n1 := Tryz.rnAf
  have n2 := Tryz.rnUf
  have n3 := Tryz.rnVf
  go_enter Tryz.func91, Tryz.ntmps91
  go_wp2
  refine wp_loop_rounds 1 ?_
  rw [rounds_succ]
  go_wp2
  exact bodyPost_ret (v := .bool false) (by simp [results, Tryz.results91, go_sem]) rfl ⟨rfl, (Below.refl _ _).alloc (Nat.le_refl _) _⟩

theorem unwrap_any (w : World) (c : Int) (v : Value) : Calls Tryz.prog 176 #[.agg #[.int .i64 c, v]] w fun e w' => e = .returned v ∧ Below w.heap.size w w' := by
  go_enter Tryz.func176, Tryz.ntmps176
  go_wp2
  exact bodyPost_ret (v := v) (by simp [results, Tryz.results176, go_sem]) rfl ⟨rfl, (Below.refl _ _).alloc (Nat.le_refl _) _⟩

set_option linter.unusedSimpArgs false in
set_option maxHeartbeats 4000000 in
set_option maxRecDepth 100000 in
theorem as_of (w : World) (c d : Int) (t a : Nat) (tg : Value) (ha : w.cell? ⟨a, 0, none⟩ = some (.pointer (some ⟨t, 0, none⟩))) (hal : a < w.heap.size) (ht : St w t [.int .i64 0]) :
    Calls Tryz.prog 91 #[.iface 115 (.agg #[.int .i64 c, .iface 71 (.agg #[.int .i64 d])]), tg, .agg #[.pointer (some ⟨7, 117, none⟩), .pointer (some ⟨a, 0, none⟩), .int .u64 150], .iface 171 (.agg #[.pointer (some ⟨7, 71, none⟩)])] w fun e w' => e = .returned (.bool true) ∧ St w' t [.int .i64 d] ∧ Tw w t none w' none := by
  have hx1 := @run_callFunc_extern Tryz.prog 88 _ (fun args => ReflectliteValue.unpack (args.getD 0 (.tuple #[]))) Tryz.func88 (by kernel_rfl) (by kernel_rfl) (by kernel_rfl) (by kernel_rfl)
  have hx2 := @run_callFunc_extern Tryz.prog 89 _ (ReflectliteValue.methodAny (ReflectliteValue.valueError "reflectlite.Value.Type" 0) (fun t _ _ _ => ReflectliteType.toType t)) Tryz.func89 (by kernel_rfl) (by kernel_rfl) (by kernel_rfl) (by kernel_rfl)
  have hx3 := @run_callFunc_extern Tryz.prog 90 _ (ReflectliteValue.method (ReflectliteValue.valueError "reflectlite.Value.IsNil" 0) ReflectliteValue.isNil) Tryz.func90 (by kernel_rfl) (by kernel_rfl) (by kernel_rfl) (by kernel_rfl)
  have hx4 := @run_callFunc_extern Tryz.prog 171 _ (ReflectliteType.abiMethod fun t => do pure (.int .u8 (← Rtype.kind t))) Tryz.func171 (by kernel_rfl) (by kernel_rfl) (by kernel_rfl) (by kernel_rfl)
  have hx5 := @run_callFunc_extern Tryz.prog 183 _ (ReflectliteType.method ReflectliteType.elem) Tryz.func183 (by kernel_rfl) (by kernel_rfl) (by kernel_rfl) (by kernel_rfl)
  have hx6 := @run_callFunc_extern Tryz.prog 184 _ (ReflectliteType.relation "Implements" ReflectliteType.implements_) Tryz.func184 (by kernel_rfl) (by kernel_rfl) (by kernel_rfl) (by kernel_rfl)
  have hx7 := @run_callFunc_extern Tryz.prog 104 _ ReflectliteType.typeOf Tryz.func104 (by kernel_rfl) (by kernel_rfl) (by kernel_rfl) (by kernel_rfl)
  have hx8 := @run_callFunc_extern Tryz.prog 181 _ (ReflectliteType.relation "AssignableTo" ReflectliteType.assignableTo) Tryz.func181 (by kernel_rfl) (by kernel_rfl) (by kernel_rfl) (by kernel_rfl)
  have hx9 := @run_callFunc_extern Tryz.prog 105 _ (ReflectliteValue.method (ReflectliteValue.valueError "reflectlite.Value.Elem" 0) ReflectliteValue.elem) Tryz.func105 (by kernel_rfl) (by kernel_rfl) (by kernel_rfl) (by kernel_rfl)
  have hx10 := @run_callFunc_extern Tryz.prog 106 _ ReflectliteValue.set Tryz.func106 (by kernel_rfl) (by kernel_rfl) (by kernel_rfl) (by kernel_rfl)
  have mK := Tryz.rmK
  have mE := Tryz.rmE
  have mI := Tryz.rmI
  have mA := Tryz.rmA
  have tO := Tryz.rtoO
  have tF := Tryz.rtoF
  have as1 := Tryz.rasof
  have as2 := Tryz.rasff
  have n1 := Tryz.rnAo
  have n2 := Tryz.ryUo
  have mU := Tryz.rmU
  have vE := Tryz.rvEF
  have HT := hd9 ht
  have htl := ht.lt
  have B1 : Hid (Below w.heap.size w (w.alloc (.cells #[.pointer (some ⟨7, 117, none⟩), .pointer (some ⟨a, 0, none⟩), .int .u64 150] 153))) := (Below.refl _ _).alloc (Nat.le_refl _) _
  have X1 : Hid (St (w.alloc (.cells #[.pointer (some ⟨7, 117, none⟩), .pointer (some ⟨a, 0, none⟩), .int .u64 150] 153)) w.heap.size [.pointer (some ⟨7, 117, none⟩), .pointer (some ⟨a, 0, none⟩), .int .u64 150]) := St.new _ _ _
  have HA := hd9 ha
  clear ha ht
  go_enter Tryz.func91, Tryz.ntmps91
  go_wp2
  refine wp_loop_rounds 2 ?_
  rw [rounds_succ]
  generalize w.alloc (.cells #[.pointer (some ⟨7, 117, none⟩), .pointer (some ⟨a, 0, none⟩), .int .u64 150] 153) = w1 at *
  go_wp2_with (go_at_call 176; refine (unwrap_any w1 c _).mono ?_)
  rintro e w3 ⟨rfl, b3⟩
  have B3 := hd9 (B1.out.trans (b3.mono B1.out.size))
  have X3 := X1.out.below b3
  have x0 := X3.cl 0 _ rfl
  have x1 := X3.cl 1 _ rfl
  have x2 := X3.cl 2 _ rfl
  have T3 := hd9 (HT.out.below B3.out)
  have el := Tryz.revF ⟨a, 0, none⟩ ⟨t, 0, none⟩ w3 ((B3.out.cell (p := ⟨a, 0, none⟩) hal).trans HA.out)
  have A4 : Hid (Below w3.heap.size w3 (w3.alloc (.cells #[.int .i64 d] 71))) := (Below.refl _ _).alloc (Nat.le_refl _) _
  have T4 := hd9 (T3.out.below A4.out)
  have se := Tryz.rseF t w3.heap.size d (.int .i64 0) (w3.alloc (.cells #[.int .i64 d] 71)) (by rw [World.cell?_alloc_at _ _ _ _ (by simp)]; rfl) (T4.out.cl 0 _ rfl) (T4.out.fz 0)
  have htl3 := T3.out.lt
  clear b3 X3
  go_wp2
  rw [rounds_succ]
  go_wp2
  exact bodyPost_ret (v := .bool true) (by simp [results, Tryz.results91, go_sem]) rfl ⟨rfl, (T3.out.set 0 _).below ((Below.refl _ _).alloc (Nat.le_refl _) _), (Tw.ofBelow B3.out t none).set.trans (Tw.ofBelow ((Below.refl _ _).alloc (Nat.le_refl _) _) t none)⟩


set_option linter.unusedSimpArgs false in
set_option maxHeartbeats 4000000 in
set_option maxRecDepth 100000 in
/-- errors.As, by errors.as. -/
theorem AsF (w : World) (et : TypeId) (ex : Value) (t : Nat) (b : Bool) (Q : World → Prop) (hg : w.cell? ⟨0, 0, none⟩ = some (.iface 171 (.agg #[.pointer (some ⟨7, 77, none⟩)]))) (h0 : 0 < w.heap.size)
    (h : ∀ W, Below w.heap.size w W → W.cell? ⟨w.heap.size, 0, none⟩ = some (.pointer (some ⟨t, 0, none⟩)) → w.heap.size < W.heap.size → Calls Tryz.prog 91 #[.iface et ex, .iface 117 (.pointer (some ⟨t, 0, none⟩)), .agg #[.pointer (some ⟨7, 117, none⟩), .pointer (some ⟨w.heap.size, 0, none⟩), .int .u64 150], .iface 171 (.agg #[.pointer (some ⟨7, 71, none⟩)])] W fun e w' => e = .returned (.bool b) ∧ Q w') :
    Calls Tryz.prog 57 #[.iface et ex, .iface 117 (.pointer (some ⟨t, 0, none⟩))] w fun e w' => e = .returned (.bool b) ∧ Q w' := by
  have hx1 := @run_callFunc_extern Tryz.prog 88 _ (fun args => ReflectliteValue.unpack (args.getD 0 (.tuple #[]))) Tryz.func88 (by kernel_rfl) (by kernel_rfl) (by kernel_rfl) (by kernel_rfl)
  have hx2 := @run_callFunc_extern Tryz.prog 89 _ (ReflectliteValue.methodAny (ReflectliteValue.valueError "reflectlite.Value.Type" 0) (fun t _ _ _ => ReflectliteType.toType t)) Tryz.func89 (by kernel_rfl) (by kernel_rfl) (by kernel_rfl) (by kernel_rfl)
  have hx3 := @run_callFunc_extern Tryz.prog 90 _ (ReflectliteValue.method (ReflectliteValue.valueError "reflectlite.Value.IsNil" 0) ReflectliteValue.isNil) Tryz.func90 (by kernel_rfl) (by kernel_rfl) (by kernel_rfl) (by kernel_rfl)
  have hx4 := @run_callFunc_extern Tryz.prog 171 _ (ReflectliteType.abiMethod fun t => do pure (.int .u8 (← Rtype.kind t))) Tryz.func171 (by kernel_rfl) (by kernel_rfl) (by kernel_rfl) (by kernel_rfl)
  have hx5 := @run_callFunc_extern Tryz.prog 183 _ (ReflectliteType.method ReflectliteType.elem) Tryz.func183 (by kernel_rfl) (by kernel_rfl) (by kernel_rfl) (by kernel_rfl)
  have hx6 := @run_callFunc_extern Tryz.prog 184 _ (ReflectliteType.relation "Implements" ReflectliteType.implements_) Tryz.func184 (by kernel_rfl) (by kernel_rfl) (by kernel_rfl) (by kernel_rfl)
  have hx7 := @run_callFunc_extern Tryz.prog 104 _ ReflectliteType.typeOf Tryz.func104 (by kernel_rfl) (by kernel_rfl) (by kernel_rfl) (by kernel_rfl)
  have hx8 := @run_callFunc_extern Tryz.prog 181 _ (ReflectliteType.relation "AssignableTo" ReflectliteType.assignableTo) Tryz.func181 (by kernel_rfl) (by kernel_rfl) (by kernel_rfl) (by kernel_rfl)
  have hx9 := @run_callFunc_extern Tryz.prog 105 _ (ReflectliteValue.method (ReflectliteValue.valueError "reflectlite.Value.Elem" 0) ReflectliteValue.elem) Tryz.func105 (by kernel_rfl) (by kernel_rfl) (by kernel_rfl) (by kernel_rfl)
  have hx10 := @run_callFunc_extern Tryz.prog 106 _ ReflectliteValue.set Tryz.func106 (by kernel_rfl) (by kernel_rfl) (by kernel_rfl) (by kernel_rfl)
  have mK := Tryz.rmK
  have mE := Tryz.rmE
  have mI := Tryz.rmI
  have mA := Tryz.rmA
  have f1 := Tryz.rvPF
  have f2 := Tryz.rtyF
  have k1 := Tryz.rkPF
  have k2 := Tryz.rkEF
  have e1 := Tryz.relF
  have i1 := Tryz.rimF
  have B1 : Hid (Below w.heap.size w ((w.alloc (.cells #[.pointer (some ⟨t, 0, none⟩)] 117)).alloc (.cells #[.pointer (some ⟨7, 117, none⟩), .pointer (some ⟨w.heap.size, 0, none⟩), .int .u64 150] 153))) := below2 w _ _
  have hg2 := (B1.out.cell (p := ⟨0, 0, none⟩) h0).trans hg
  have hc2 : ((w.alloc (.cells #[.pointer (some ⟨t, 0, none⟩)] 117)).alloc (.cells #[.pointer (some ⟨7, 117, none⟩), .pointer (some ⟨w.heap.size, 0, none⟩), .int .u64 150] 153)).cell? ⟨w.heap.size, 0, none⟩ = some (.pointer (some ⟨t, 0, none⟩)) := by go_simp
  have n8 := Tryz.rinF ⟨w.heap.size, 0, none⟩ ⟨t, 0, none⟩ ((w.alloc (.cells #[.pointer (some ⟨t, 0, none⟩)] 117)).alloc (.cells #[.pointer (some ⟨7, 117, none⟩), .pointer (some ⟨w.heap.size, 0, none⟩), .int .u64 150] 153)) hc2
  have HC := hd9 (h _ B1.out hc2 (by simp; omega))
  clear h hc2 hg
  go_enter Tryz.func57, Tryz.ntmps57
  go_wp2_with (go_at_call 91; refine HC.out.mono ?_)
  rintro e w5 ⟨rfl, q5⟩
  have Q5 := hd9 q5
  clear q5 HC
  go_wp2_with fail
  exact bodyPost_ret (v := .bool b) (by simp [results, Tryz.results57, go_sem]) rfl ⟨rfl, Q5.out⟩

set_option linter.unusedSimpArgs false in
set_option maxHeartbeats 4000000 in
set_option maxRecDepth 100000 in
/-- errors.As, by errors.as. -/
theorem AsO (w : World) (et : TypeId) (ex : Value) (t : Nat) (b : Bool) (Q : World → Prop) (hg : w.cell? ⟨0, 0, none⟩ = some (.iface 171 (.agg #[.pointer (some ⟨7, 77, none⟩)]))) (h0 : 0 < w.heap.size)
    (h : ∀ W, Below w.heap.size w W → W.cell? ⟨w.heap.size, 0, none⟩ = some (.pointer (some ⟨t, 0, none⟩)) → w.heap.size < W.heap.size → Calls Tryz.prog 91 #[.iface et ex, .iface 118 (.pointer (some ⟨t, 0, none⟩)), .agg #[.pointer (some ⟨7, 118, none⟩), .pointer (some ⟨w.heap.size, 0, none⟩), .int .u64 150], .iface 171 (.agg #[.pointer (some ⟨7, 115, none⟩)])] W fun e w' => e = .returned (.bool b) ∧ Q w') :
    Calls Tryz.prog 57 #[.iface et ex, .iface 118 (.pointer (some ⟨t, 0, none⟩))] w fun e w' => e = .returned (.bool b) ∧ Q w' := by
  have hx1 := @run_callFunc_extern Tryz.prog 88 _ (fun args => ReflectliteValue.unpack (args.getD 0 (.tuple #[]))) Tryz.func88 (by kernel_rfl) (by kernel_rfl) (by kernel_rfl) (by kernel_rfl)
  have hx2 := @run_callFunc_extern Tryz.prog 89 _ (ReflectliteValue.methodAny (ReflectliteValue.valueError "reflectlite.Value.Type" 0) (fun t _ _ _ => ReflectliteType.toType t)) Tryz.func89 (by kernel_rfl) (by kernel_rfl) (by kernel_rfl) (by kernel_rfl)
  have hx3 := @run_callFunc_extern Tryz.prog 90 _ (ReflectliteValue.method (ReflectliteValue.valueError "reflectlite.Value.IsNil" 0) ReflectliteValue.isNil) Tryz.func90 (by kernel_rfl) (by kernel_rfl) (by kernel_rfl) (by kernel_rfl)
  have hx4 := @run_callFunc_extern Tryz.prog 171 _ (ReflectliteType.abiMethod fun t => do pure (.int .u8 (← Rtype.kind t))) Tryz.func171 (by kernel_rfl) (by kernel_rfl) (by kernel_rfl) (by kernel_rfl)
  have hx5 := @run_callFunc_extern Tryz.prog 183 _ (ReflectliteType.method ReflectliteType.elem) Tryz.func183 (by kernel_rfl) (by kernel_rfl) (by kernel_rfl) (by kernel_rfl)
  have hx6 := @run_callFunc_extern Tryz.prog 184 _ (ReflectliteType.relation "Implements" ReflectliteType.implements_) Tryz.func184 (by kernel_rfl) (by kernel_rfl) (by kernel_rfl) (by kernel_rfl)
  have hx7 := @run_callFunc_extern Tryz.prog 104 _ ReflectliteType.typeOf Tryz.func104 (by kernel_rfl) (by kernel_rfl) (by kernel_rfl) (by kernel_rfl)
  have hx8 := @run_callFunc_extern Tryz.prog 181 _ (ReflectliteType.relation "AssignableTo" ReflectliteType.assignableTo) Tryz.func181 (by kernel_rfl) (by kernel_rfl) (by kernel_rfl) (by kernel_rfl)
  have hx9 := @run_callFunc_extern Tryz.prog 105 _ (ReflectliteValue.method (ReflectliteValue.valueError "reflectlite.Value.Elem" 0) ReflectliteValue.elem) Tryz.func105 (by kernel_rfl) (by kernel_rfl) (by kernel_rfl) (by kernel_rfl)
  have hx10 := @run_callFunc_extern Tryz.prog 106 _ ReflectliteValue.set Tryz.func106 (by kernel_rfl) (by kernel_rfl) (by kernel_rfl) (by kernel_rfl)
  have mK := Tryz.rmK
  have mE := Tryz.rmE
  have mI := Tryz.rmI
  have mA := Tryz.rmA
  have f1 := Tryz.rvPO
  have f2 := Tryz.rtyO
  have k1 := Tryz.rkPO
  have k2 := Tryz.rkEO
  have e1 := Tryz.relO
  have i1 := Tryz.rimO
  have B1 : Hid (Below w.heap.size w ((w.alloc (.cells #[.pointer (some ⟨t, 0, none⟩)] 118)).alloc (.cells #[.pointer (some ⟨7, 118, none⟩), .pointer (some ⟨w.heap.size, 0, none⟩), .int .u64 150] 153))) := below2 w _ _
  have hg2 := (B1.out.cell (p := ⟨0, 0, none⟩) h0).trans hg
  have hc2 : ((w.alloc (.cells #[.pointer (some ⟨t, 0, none⟩)] 118)).alloc (.cells #[.pointer (some ⟨7, 118, none⟩), .pointer (some ⟨w.heap.size, 0, none⟩), .int .u64 150] 153)).cell? ⟨w.heap.size, 0, none⟩ = some (.pointer (some ⟨t, 0, none⟩)) := by go_simp
  have n8 := Tryz.rinO ⟨w.heap.size, 0, none⟩ ⟨t, 0, none⟩ ((w.alloc (.cells #[.pointer (some ⟨t, 0, none⟩)] 118)).alloc (.cells #[.pointer (some ⟨7, 118, none⟩), .pointer (some ⟨w.heap.size, 0, none⟩), .int .u64 150] 153)) hc2
  have HC := hd9 (h _ B1.out hc2 (by simp; omega))
  clear h hc2 hg
  go_enter Tryz.func57, Tryz.ntmps57
  go_wp2_with (go_at_call 91; refine HC.out.mono ?_)
  rintro e w5 ⟨rfl, q5⟩
  have Q5 := hd9 q5
  clear q5 HC
  go_wp2_with fail
  exact bodyPost_ret (v := .bool b) (by simp [results, Tryz.results57, go_sem]) rfl ⟨rfl, Q5.out⟩


/-- The boxes of 'refused'. -/
structure Rf4 (w W : World) : Prop where
  b : Below w.heap.size w W
  r : St W w.heap.size [.int .i64 0, .int .i64 0, .slice none 0 0, .int .i64 0, .slice none 0 0]
  y : St W (w.heap.size + 1) [.int .i64 0]
  z : St W (w.heap.size + 2) [.int .i64 0, .nilIface]
  p : St W (w.heap.size + 3) [.int .i64 0, .int .i64 0, .slice none 0 0, .int .i64 0, .slice none 0 0]
theorem Rf4.new (w : World) : Rf4 w ((((w.alloc (.cells #[.int .i64 0, .int .i64 0, .slice none 0 0, .int .i64 0, .slice none 0 0] 37)).alloc (.cells #[.int .i64 0] 71)).alloc (.cells #[.int .i64 0, .nilIface] 115)).alloc (.cells #[.int .i64 0, .int .i64 0, .slice none 0 0, .int .i64 0, .slice none 0 0] 37)) := by
  have e1 : (w.alloc (.cells #[.int .i64 0, .int .i64 0, .slice none 0 0, .int .i64 0, .slice none 0 0] 37)).heap.size = w.heap.size + 1 := by simp
  have e2 : ((w.alloc (.cells #[.int .i64 0, .int .i64 0, .slice none 0 0, .int .i64 0, .slice none 0 0] 37)).alloc (.cells #[.int .i64 0] 71)).heap.size = w.heap.size + 2 := by simp
  have e3 : (((w.alloc (.cells #[.int .i64 0, .int .i64 0, .slice none 0 0, .int .i64 0, .slice none 0 0] 37)).alloc (.cells #[.int .i64 0] 71)).alloc (.cells #[.int .i64 0, .nilIface] 115)).heap.size = w.heap.size + 3 := by simp
  have a1 : ∀ (W : World) (o : Obj), Below W.heap.size W (W.alloc o) := fun W o => (Below.refl _ _).alloc (Nat.le_refl _) _
  have s0 := St.new w #[.int .i64 0, .int .i64 0, .slice none 0 0, .int .i64 0, .slice none 0 0] 37
  have s1 := St.new (w.alloc (.cells #[.int .i64 0, .int .i64 0, .slice none 0 0, .int .i64 0, .slice none 0 0] 37)) #[.int .i64 0] 71
  have s2 := St.new ((w.alloc (.cells #[.int .i64 0, .int .i64 0, .slice none 0 0, .int .i64 0, .slice none 0 0] 37)).alloc (.cells #[.int .i64 0] 71)) #[.int .i64 0, .nilIface] 115
  have s3 := St.new (((w.alloc (.cells #[.int .i64 0, .int .i64 0, .slice none 0 0, .int .i64 0, .slice none 0 0] 37)).alloc (.cells #[.int .i64 0] 71)).alloc (.cells #[.int .i64 0, .nilIface] 115)) #[.int .i64 0, .int .i64 0, .slice none 0 0, .int .i64 0, .slice none 0 0] 37
  rw [e1] at s1
  rw [e2] at s2
  rw [e3] at s3
  exact ⟨below4 w _ _ _ _, ((s0.below (a1 _ _)).below (a1 _ _)).below (a1 _ _), (s1.below (a1 _ _)).below (a1 _ _), s2.below (a1 _ _), s3⟩

set_option linter.unusedSimpArgs false in
set_option maxHeartbeats 4000000 in
set_option maxRecDepth 100000 in
theorem refused_f (w : World) (c : Int) (hg : w.cell? ⟨0, 0, none⟩ = some (.iface 171 (.agg #[.pointer (some ⟨7, 77, none⟩)]))) (h0 : 0 < w.heap.size) :
    Calls Tryz.prog 28 #[.iface 71 (.agg #[.int .i64 c])] w fun e w' => e = .returned (.agg #[.int .i64 c, .int .i64 0, .slice none 0 0, .int .i64 0, .slice none 0 0]) ∧ Below w.heap.size w w' := by
  have R4 := hd9 (Rf4.new w)
  have HG := hd9 hg
  clear hg
  go_enter Tryz.func28, Tryz.ntmps28
  go_wp2_with fail
  generalize ((((w.alloc (.cells #[.int .i64 0, .int .i64 0, .slice none 0 0, .int .i64 0, .slice none 0 0] 37)).alloc (.cells #[.int .i64 0] 71)).alloc (.cells #[.int .i64 0, .nilIface] 115)).alloc (.cells #[.int .i64 0, .int .i64 0, .slice none 0 0, .int .i64 0, .slice none 0 0] 37)) = w4 at *
  have HG4 := (R4.out.b.cell (p := ⟨0, 0, none⟩) h0).trans HG.out
  refine (AsF w4 _ _ (w.heap.size + 1) true (fun w' => St w' (w.heap.size + 1) [.int .i64 c] ∧ Tw w4 (w.heap.size + 1) none w' none) HG4 (by have := R4.out.b.size; omega) (fun W hW hc hl => ?_)).mono ?_
  · refine (as_ff W c (w.heap.size + 1) w4.heap.size _ hc hl (R4.out.y.below hW)).mono ?_
    rintro e w' ⟨rfl, s9, t9⟩
    exact ⟨rfl, s9, (Tw.ofBelow hW _ none).trans t9⟩
  clear HG4
  rintro e w5 ⟨rfl, y5, t5⟩
  have Y5 := hd9 y5
  have B5 := hd9 (R4.out.b.trans (t5.below R4.out.b.size (by omega) (fun g h => by cases h)))
  have P5 := hd9 (t5.st R4.out.p (by omega) (by simp))
  have Z5 := hd9 (t5.st R4.out.z (by omega) (by simp))
  have R5 := hd9 (t5.st R4.out.r (by omega) (by simp))
  clear y5 t5 R4
  have y0 := Y5.out.cl 0 _ rfl
  have p0 := P5.out.cl 0 _ rfl
  have pf := P5.out.fz 0
  have P6 := hd9 (P5.out.set 0 (.int .i64 c))
  have Z6 := hd9 (Z5.out.other (c := w.heap.size + 3) (j := 0) (x := .int .i64 c) (by omega))
  have R6 := hd9 (R5.out.other (c := w.heap.size + 3) (j := 0) (x := .int .i64 c) (by omega))
  have B6 : Hid (Below w.heap.size w (w5.setCell ⟨w.heap.size + 3, 0, none⟩ (.int .i64 c))) := Below.setCell B5.out (by simp) _
  go_wp2_with fail
  clear y0 p0 pf P5 Z5 R5 B5 Y5
  generalize w5.setCell _ _ = w6 at *
  have HG6 := (B6.out.cell (p := ⟨0, 0, none⟩) h0).trans HG.out
  refine (AsO w6 _ _ (w.heap.size + 2) false (fun w' => Below w6.heap.size w6 w') HG6 (by have := B6.out.size; omega) (fun W hW hc hl => ?_)).mono ?_
  · refine (as_fo W c w6.heap.size _).mono ?_
    rintro e w' ⟨rfl, b9⟩
    exact ⟨rfl, hW.trans (b9.mono hW.size)⟩
  clear HG6
  rintro e w7 ⟨rfl, b7⟩
  have B7 := hd9 (B6.out.trans (b7.mono B6.out.size))
  have P7 := P6.out.below b7
  have R7 := R6.out.below b7
  have p0 := P7.cl 0 _ rfl
  have p1 := P7.cl 1 _ rfl
  have p2 := P7.cl 2 _ rfl
  have p3 := P7.cl 3 _ rfl
  have p4 := P7.cl 4 _ rfl
  have q1 := P7.fz 1
  have r0 := R7.cl 0 _ rfl
  have r1 := R7.cl 1 _ rfl
  have r2 := R7.cl 2 _ rfl
  have r3 := R7.cl 3 _ rfl
  have r4 := R7.cl 4 _ rfl
  have g0 := R7.fz 0
  have g1 := R7.fz 1
  have g2 := R7.fz 2
  have g3 := R7.fz 3
  have g4 := R7.fz 4
  clear P6 Z6 R6 B6
  go_wp2_with fail
  refine bodyPost_ret (v := .agg #[.int .i64 c, .int .i64 0, .slice none 0 0, .int .i64 0, .slice none 0 0]) (by simp [results, Tryz.results28, go_sem, p0, p1, p2, p3, p4, r0, r1, r2, r3, r4]) rfl ⟨rfl, ?_⟩
  repeat (first | exact B7.out | refine Below.setCell ?_ (by simp; try omega) _)

set_option linter.unusedSimpArgs false in
set_option maxHeartbeats 4000000 in
set_option maxRecDepth 100000 in
theorem refused_o (w : World) (j c : Int) (hg : w.cell? ⟨0, 0, none⟩ = some (.iface 171 (.agg #[.pointer (some ⟨7, 77, none⟩)]))) (h0 : 0 < w.heap.size) :
    Calls Tryz.prog 28 #[.iface 115 (.agg #[.int .i64 j, .iface 71 (.agg #[.int .i64 c])])] w fun e w' => e = .returned (.agg #[.int .i64 c, .int .i64 j, .slice none 0 0, .int .i64 0, .slice none 0 0]) ∧ Below w.heap.size w w' := by
  have R4 := hd9 (Rf4.new w)
  have HG := hd9 hg
  clear hg
  go_enter Tryz.func28, Tryz.ntmps28
  go_wp2_with fail
  generalize ((((w.alloc (.cells #[.int .i64 0, .int .i64 0, .slice none 0 0, .int .i64 0, .slice none 0 0] 37)).alloc (.cells #[.int .i64 0] 71)).alloc (.cells #[.int .i64 0, .nilIface] 115)).alloc (.cells #[.int .i64 0, .int .i64 0, .slice none 0 0, .int .i64 0, .slice none 0 0] 37)) = w4 at *
  have HG4 := (R4.out.b.cell (p := ⟨0, 0, none⟩) h0).trans HG.out
  refine (AsF w4 _ _ (w.heap.size + 1) true (fun w' => St w' (w.heap.size + 1) [.int .i64 c] ∧ Tw w4 (w.heap.size + 1) none w' none) HG4 (by have := R4.out.b.size; omega) (fun W hW hc hl => ?_)).mono ?_
  · refine (as_of W j c (w.heap.size + 1) w4.heap.size _ hc hl (R4.out.y.below hW)).mono ?_
    rintro e w' ⟨rfl, s9, t9⟩
    exact ⟨rfl, s9, (Tw.ofBelow hW _ none).trans t9⟩
  clear HG4
  rintro e w5 ⟨rfl, y5, t5⟩
  have Y5 := hd9 y5
  have B5 := hd9 (R4.out.b.trans (t5.below R4.out.b.size (by omega) (fun g h => by cases h)))
  have P5 := hd9 (t5.st R4.out.p (by omega) (by simp))
  have Z5 := hd9 (t5.st R4.out.z (by omega) (by simp))
  have R5 := hd9 (t5.st R4.out.r (by omega) (by simp))
  clear y5 t5 R4
  have y0 := Y5.out.cl 0 _ rfl
  have p0 := P5.out.cl 0 _ rfl
  have pf := P5.out.fz 0
  have P6 := hd9 (P5.out.set 0 (.int .i64 c))
  have Z6 := hd9 (Z5.out.other (c := w.heap.size + 3) (j := 0) (x := .int .i64 c) (by omega))
  have R6 := hd9 (R5.out.other (c := w.heap.size + 3) (j := 0) (x := .int .i64 c) (by omega))
  have B6 : Hid (Below w.heap.size w (w5.setCell ⟨w.heap.size + 3, 0, none⟩ (.int .i64 c))) := Below.setCell B5.out (by simp) _
  go_wp2_with fail
  clear y0 p0 pf P5 Z5 R5 B5 Y5
  generalize w5.setCell _ _ = w6 at *
  have HG6 := (B6.out.cell (p := ⟨0, 0, none⟩) h0).trans HG.out
  refine (AsO w6 _ _ (w.heap.size + 2) true (fun w' => St w' (w.heap.size + 2) [.int .i64 j, .iface 71 (.agg #[.int .i64 c])] ∧ Tw w6 (w.heap.size + 2) none w' none) HG6 (by have := B6.out.size; omega) (fun W hW hc hl => ?_)).mono ?_
  · refine (as_oo W j c (w.heap.size + 2) w6.heap.size _ hc hl (Z6.out.below hW)).mono ?_
    rintro e w' ⟨rfl, s9, t9⟩
    exact ⟨rfl, s9, (Tw.ofBelow hW _ none).trans t9⟩
  clear HG6
  rintro e w7 ⟨rfl, z7, t7⟩
  have B7 := hd9 (B6.out.trans (t7.below B6.out.size (by omega) (fun g h => by cases h)))
  have P7 := t7.st P6.out (by omega) (by simp)
  have R7 := t7.st R6.out (by omega) (by simp)
  have z0 := z7.cl 0 _ rfl
  have p0 := P7.cl 0 _ rfl
  have p1 := P7.cl 1 _ rfl
  have p2 := P7.cl 2 _ rfl
  have p3 := P7.cl 3 _ rfl
  have p4 := P7.cl 4 _ rfl
  have q1 := P7.fz 1
  have r0 := R7.cl 0 _ rfl
  have r1 := R7.cl 1 _ rfl
  have r2 := R7.cl 2 _ rfl
  have r3 := R7.cl 3 _ rfl
  have r4 := R7.cl 4 _ rfl
  have g0 := R7.fz 0
  have g1 := R7.fz 1
  have g2 := R7.fz 2
  have g3 := R7.fz 3
  have g4 := R7.fz 4
  clear P6 Z6 R6 B6
  go_wp2_with fail
  refine bodyPost_ret (v := .agg #[.int .i64 c, .int .i64 j, .slice none 0 0, .int .i64 0, .slice none 0 0]) (by simp [results, Tryz.results28, go_sem, p0, p1, p2, p3, p4, r0, r1, r2, r3, r4]) rfl ⟨rfl, ?_⟩
  repeat (first | exact B7.out | refine Below.setCell ?_ (by simp; try omega) _)

end Go.Proofs.YtdiingonnddkcaaGreatDoor


