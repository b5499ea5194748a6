import Derived.Test.YtdiingonnddkcaaGreatDoorJ08
import Derived.Test.YtdiingonnddkcaaGreatDoorJ05
import Derived.Test.YtdiingonnddkcaaGreatDoorJ10
import Derived.Test.YtdiingonnddkcaaGreatDoorJ21
import Derived.Test.YtdiingonnddkcaaGreatDoorChecked
import Derived.Test.YtdiingonnddkcaaGreatDoorJ01
import Derived.Deep.QuietTactic
import Derived.BigQuiet
import Derived.Deep.RegionWith
import Derived.Test.YtdiingonnddkcaaGreatDoorJ03
import Derived.Test.YtdiingonnddkcaaGreatDoorJ20
import Derived.Test.YtdiingonnddkcaaGreatDoorJ15
import Derived.Deep.RegionLaw
import Derived.Deep.AppendLies
namespace Go.Proofs.YtdiingonnddkcaaGreatDoor
open Go.RowKit Go.Shelf

/-- A local transaction, of a type. -/
def BxX (w : World) (B : Nat) (t : TypeId) (z : Int) (v : Value) : Prop := w.heap[B]? = some (.cells #[.int .i64 z, v] t (0, 0))
theorem BxX.lt {w : World} {B : Nat} {t : TypeId} {z : Int} {v : Value} (h : BxX w B t z v) : B < w.heap.size := (Array.getElem?_eq_some_iff.1 h).1
theorem BxX.new (w : World) (t : TypeId) (z : Int) (v : Value) : BxX (w.alloc (.cells #[.int .i64 z, v] t)) w.heap.size t z v := heap_alloc_new w _
theorem BxX.later {w w' : World} {B : Nat} {t : TypeId} {z : Int} {v : Value} (hb : Below w.heap.size w w') (h : BxX w B t z v) : BxX w' B t z v := (hb.block _ h.lt).trans h
theorem BxX.cells {w : World} {B : Nat} {t : TypeId} {z : Int} {v : Value} (h : BxX w B t z v) : w.cell? ⟨B, 0, none⟩ = some (.int .i64 z) ∧ w.cell? ⟨B, 1, none⟩ = some v := ⟨(cell_of h _).trans rfl, (cell_of h _).trans rfl⟩

/-- The boxes of a call of ApplyTxn. -/
structure ApB (s : Nat) (v : Value) (z : Int) (vx : Value) (W : World) : Prop where
  t : Boxed W s 25 v
  x : BxX W (s + 1) 35 z vx
  r : Boxed W (s + 2) 25 (.slice none 0 0)
theorem ApB.new (w : World) (v : Value) (z : Int) (vx : Value) : ApB w.heap.size v z vx (((w.alloc (.cells #[v] 25)).alloc (.cells #[.int .i64 z, vx] 35)).alloc (.cells #[.slice none 0 0] 25)) := by
  have s1 : (w.alloc (.cells #[v] 25)).heap.size = w.heap.size + 1 := by simp
  have s2 : ((w.alloc (.cells #[v] 25)).alloc (.cells #[.int .i64 z, vx] 35)).heap.size = w.heap.size + 2 := by simp
  have h2 := BxX.new (w.alloc (.cells #[v] 25)) 35 z vx
  rw [s1] at h2
  have h3 := Boxed.new ((w.alloc (.cells #[v] 25)).alloc (.cells #[.int .i64 z, vx] 35)) 25 (.slice none 0 0)
  rw [s2] at h3
  exact ⟨((Boxed.new w _ _).alloc _).alloc _, h2.later ((Below.refl _ _).alloc (Nat.le_refl _) _), h3⟩
theorem ApB.below {s m : Nat} {v : Value} {z : Int} {vx : Value} {W W' : World} (h : ApB s v z vx W) (hb : Below m W W') (hm : s + 3 ≤ m) : ApB s v z vx W' :=
  ⟨(hb.block _ (by omega)).trans h.t, (hb.block _ (by omega)).trans h.x, (hb.block _ (by omega)).trans h.r⟩
theorem ApB.size {s : Nat} {v : Value} {z : Int} {vx : Value} {W : World} (h : ApB s v z vx W) : s + 3 ≤ W.heap.size := by have := h.r.lt; omega

set_option maxHeartbeats 1000000 in
set_option maxRecDepth 100000 in
theorem specApply_any (w : World) (v : Value) (ns : List Nd) (z : Int) (vx : Value) (es : List Ef) (h : RdN w v ns) (hx : RdE w vx es) (hn : ns.length ≤ 1048576)
    (hsz : ∀ i, (nAt ns i).path.size ≤ 1048576 ∧ (nAt ns i).data.size ≤ 1048576) (hsx : ∀ i, (eAt es i).nd.path.size ≤ 1048576 ∧ (eAt es i).nd.data.size ≤ 1048576) :
    Calls Tryz.prog 12 #[.agg #[v], .agg #[.int .i64 z, vx]] w fun e w' => ∃ v', e = .returned (.agg #[v']) ∧ OwnN 42 w' w.heap.size v' (resA ns z es) ∧ Below w.heap.size w w' := by
  obtain ⟨ao, ca, rfl, _, _⟩ := h.len
  obtain ⟨xo, cx, rfl, _, _⟩ := hx.len
  have HR := hd9 h
  have HX := hd9 hx
  have HZ := hd9 hsz
  have HZX := hd9 hsx
  have B0 : Hid (Below w.heap.size w (((w.alloc (.cells #[.slice ao ns.length ca] 25)).alloc (.cells #[.int .i64 z, .slice xo es.length cx] 35)).alloc (.cells #[.slice none 0 0] 25))) := (((Below.refl _ _).alloc (Nat.le_refl _) _).alloc (by simp) _).alloc (by simp; omega) _
  have X0 : Hid (ApB w.heap.size (.slice ao ns.length ca) z (.slice xo es.length cx) (((w.alloc (.cells #[.slice ao ns.length ca] 25)).alloc (.cells #[.int .i64 z, .slice xo es.length cx] 35)).alloc (.cells #[.slice none 0 0] 25))) := ApB.new _ _ _ _
  clear h hx hsz hsx
  go_enter Tryz.func12, Tryz.ntmps12
  go_wp2_with fail
  generalize ((w.alloc (.cells #[.slice ao ns.length ca] 25)).alloc (.cells #[.int .i64 z, .slice xo es.length cx] 35)).alloc (.cells #[.slice none 0 0] 25) = w0 at *
  refine (specTree_any _ _ ns (HR.out.below B0.out) hn HZ.out).mono ?_
  rintro e w1 ⟨rfl, b1⟩
  have B1 := hd9 (B0.out.trans (b1.mono B0.out.size))
  have X1 := hd9 (X0.out.below b1 X0.out.size)
  clear b1 X0 B0
  by_cases hok : okTree ns = true
  rotate_left
  · have hok' : okTree ns = false := by simpa using hok
    have HT : Hid (resA ns z es = []) := by show _ = _; unfold resA; rw [hok']; rfl
    rw [hok']
    clear hok hok'
    have c0 := X1.out.r.cell
    have f0 := X1.out.r.frozen
    go_wp2
    refine bodyPost_ret (v := .agg #[.slice none 0 0]) (by simp [results, Tryz.results12, go_sem, c0]) rfl ⟨_, rfl, (by rw [HT.out]; exact World.ownsRow_nil _ _ _ _), ?_⟩
    repeat (first | exact B1.out | refine Below.setCell ?_ (by simp; try omega) _)
  rw [hok]
  have cx0 := X1.out.x.cells
  go_wp2_with fail
  clear cx0
  refine (specTxn_any _ _ _ es (HX.out.below B1.out) HZX.out).mono ?_
  rintro e w2 ⟨rfl, b2⟩
  have B2 := hd9 (B1.out.trans (b2.mono B1.out.size))
  have X2 := hd9 (X1.out.below b2 X1.out.size)
  clear b2 X1 B1
  by_cases hpp : okTxn z es = true
  rotate_left
  · have hpp' : okTxn z es = false := by simpa using hpp
    have HT : Hid (resA ns z es = []) := by show _ = _; unfold resA; rw [hpp']; simp
    rw [hpp']
    clear hpp hpp' hok
    have c0 := X2.out.r.cell
    have f0 := X2.out.r.frozen
    go_wp2
    refine bodyPost_ret (v := .agg #[.slice none 0 0]) (by simp [results, Tryz.results12, go_sem, c0]) rfl ⟨_, rfl, (by rw [HT.out]; exact World.ownsRow_nil _ _ _ _), ?_⟩
    repeat (first | exact B2.out | refine Below.setCell ?_ (by simp; try omega) _)
  have hn1 := okTree_len hok
  have he1 := (okTxn_es hpp).2
  have HT : Hid (resA ns z es = apL ns es) := by show _ = _; unfold resA; rw [hok, hpp]; rfl
  have HA := hd9 (okTree_asc hok)
  have HE := hd9 (okEs_asc (okTxn_es hpp).1)
  have HW0 : Hid (woN ns { data := #[] } = ns) := wo_empty (fun k hk => okTree_nd hok k hk) _ (by rw [ByteArray.toList_eq])
  rw [hpp]
  clear hok hpp
  have ct := X2.out.t.cell
  go_wp2_with fail
  clear ct
  refine (without_any _ _ ns _ (HR.out.below B2.out) (by omega)).mono ?_
  rintro e w3 ⟨v3, rfl, o3, b3⟩
  have B3 := hd9 (B2.out.trans (b3.mono B2.out.size))
  have X3 := hd9 (X2.out.below b3 X2.out.size)
  have O3 : Hid (OwnN 42 w3 (w.heap.size + 3) v3 (apL ns (es.take 0))) := by
    have := o3.mono X2.out.size
    rw [HW0.out] at this
    exact this
  clear o3 b3 X2 B2 HW0
  generalize hen : es.length = n at *
  have HP := hd9 hen
  clear hen
  go_wp2
  go_loopw [5, 6] (fun vo vk wr => ∃ k : Nat, k ≤ n ∧ vk = .int .i64 k ∧ Hid (OwnN 42 wr (w.heap.size + 3) vo (apL ns (es.take k))) ∧ Hid (Below w.heap.size w wr) ∧ Hid (ApB w.heap.size (.slice ao ns.length ca) z (.slice xo n cx) wr)) (fun _ i _ => n - (intOf i).toNat)
  case atStart => exact ⟨0, Nat.zero_le _, rfl, O3, B3, X3⟩
  case round =>
    obtain ⟨k, hk, rfl, HW, HB, HBX⟩ := hrel
    have sB := HBX.out.size
    obtain ⟨y0, y1⟩ := HBX.out.x.cells
    by_cases hlt : k < n
    · have hltI : (k : Int) < (n : Int) := by omega
      obtain ⟨b, o, hao, hb, hc⟩ : ∃ b o, xo = some ⟨b, o, none⟩ ∧ b < w.heap.size ∧ CellsE w b (o + k * 8) (eAt es k) := by
        obtain ⟨ao', cap', e', -, -, h3⟩ := HX.out
        simp only [Value.slice.injEq] at e'
        obtain ⟨rfl, -, -⟩ := e'
        rcases h3 with h3 | ⟨b, o, rfl, hb, hc⟩
        · have := HP.out; rw [h3] at this; simp at this; omega
        · exact ⟨b, o, rfl, hb, hc k (by rw [HP.out]; exact hlt)⟩
      subst hao
      obtain ⟨c0, c1, c2, c3, c4, c5, c6, c7⟩ := hc.below HB.out hb
      clear hc
      have hll : (apL ns (es.take k)).length ≤ 100000 := by
        have := apL_len HA.out HE.out k
        omega
      have HS := hd9 (apL_succ ns es k (by rw [HP.out]; exact hlt))
      have HQ : Hid (apQ (apL ns (es.take k)) (eAt es k) = if (eAt es k).del then woN (apL ns (es.take k)) (eAt es k).nd.path else wiN (apL ns (es.take k)) (eAt es k).nd) := rfl
      cases hA : (eAt es k).del with
      | true =>
        rw [hA] at c0
        go_wp2_with fail
        refine (without_any _ _ _ _ HW.out.rd (by omega)).mono ?_
        rintro e w4 ⟨v4, rfl, o4, b4⟩
        have B4 := hd9 (HB.out.trans (b4.mono HB.out.size))
        have X4 := hd9 (HBX.out.below b4 sB)
        have O4 : Hid (OwnN 42 w4 (w.heap.size + 3) v4 (apL ns (es.take (k + 1)))) := by
          rw [HS.out, HQ.out, hA]
          exact o4.mono sB
        clear o4 b4 HS HQ hA HW HB HBX c0 c1 c2 c3 c4 c5 c6 c7 y0 y1
        go_wp2
        exact ⟨⟨k + 1, by omega, by go_num, O4, B4, X4⟩, by simp [intOf]; omega⟩
      | false =>
        rw [hA] at c0
        go_wp2_with fail
        refine (with_any _ _ _ _ HW.out.rd hll).mono ?_
        rintro e w4 ⟨v4, rfl, o4, b4⟩
        have B4 := hd9 (HB.out.trans (b4.mono HB.out.size))
        have X4 := hd9 (HBX.out.below b4 sB)
        have O4 : Hid (OwnN 42 w4 (w.heap.size + 3) v4 (apL ns (es.take (k + 1)))) := by
          rw [HS.out, HQ.out, hA]
          exact o4.mono sB
        clear o4 b4 HS HQ hA HW HB HBX c0 c1 c2 c3 c4 c5 c6 c7 y0 y1
        go_wp2
        exact ⟨⟨k + 1, by omega, by go_num, O4, B4, X4⟩, by simp [intOf]; omega⟩
    · have hkn : k = n := by omega
      subst hkn
      have c0 := HBX.out.r.cell
      have f0 := HBX.out.r.frozen
      have HF : Hid (OwnN 42 wr (w.heap.size + 3) u5 (resA ns z es)) := by
        have := HW.out
        rw [List.take_of_length_le (by rw [HP.out]; exact Nat.le_refl _)] at this
        rw [HT.out]
        exact this
      clear HW
      obtain ⟨a5, c5, rfl⟩ := HF.out.slice
      go_wp2
      refine bodyPost_ret (v := .agg #[.slice a5 (resA ns z es).length c5]) (by simp [results, Tryz.results12, go_sem, c0]) rfl ⟨_, rfl, ?_, ?_⟩
      · refine OwnN.mono ?_ (show w.heap.size ≤ w.heap.size + 3 by omega)
        repeat (first | exact HF.out | refine OwnN.setBelow ?_ (by simp; try omega) _)
      · repeat (first | exact HB.out | refine Below.setCell ?_ (by simp; try omega) _)

end Go.Proofs.YtdiingonnddkcaaGreatDoor
namespace Go.Proofs.YtdiingonnddkcaaGreatDoor
open Go.RowKit

/-- One node of the call's own in block B. -/
def Node7 (w : World) (B : Nat) (p d : ByteArray) (a b c e f : Int) : Prop :=
  w.heap[B]? = some (.cells #[.string p, .string d, .int .i64 a, .int .i64 b, .int .i64 c, .int .i64 e, .int .i64 f] 42 (0, 0))

theorem Node7.lt {w : World} {B : Nat} {p d : ByteArray} {a b c e f : Int} (h : Node7 w B p d a b c e f) : B < w.heap.size := (Array.getElem?_eq_some_iff.1 h).1
def slashT : ByteArray := ⟨#[47]⟩
def empty : ByteArray := ⟨#[]⟩


set_option maxHeartbeats 400000 in
theorem specNewTree_any (w : World) : Calls Tryz.prog 84 #[] w fun e w' => e = .returned (.agg #[.slice (some ⟨w.heap.size + 1, 0, none⟩) 1 1]) ∧ Node7 w' (w.heap.size + 1) slashT empty 0 0 0 0 0 ∧ Below w.heap.size w w' := by
  go_enter Tryz.func84, Tryz.ntmps84
  go_wp2
  refine bodyPost_ret (v := .agg #[.slice (some ⟨w.heap.size + 1, 0, none⟩) 1 1]) (by simp [results, Tryz.results84, go_sem]) rfl ⟨rfl, ?_, ((Below.refl _ _).alloc (Nat.le_refl _) _).alloc (by simp) _⟩
  have := heap_alloc_new (w.alloc (.cells #[.slice (some ⟨w.heap.size + 1, 0, none⟩) 1 1] 25)) (.cells #[.string slashT, .string empty, .int .i64 0, .int .i64 0, .int .i64 0, .int .i64 0, .int .i64 0] 42)
  rw [World.size_alloc] at this
  exact this



def m1 : ByteArray := ⟨#[109, 49]⟩
def m2 : ByteArray := ⟨#[109, 50]⟩


/-- The root alone. -/
def rootN : Nd := ⟨slashT, empty, 0, 0, 0, 0, 0⟩
end Go.Proofs.YtdiingonnddkcaaGreatDoor
namespace Go.Proofs.YtdiingonnddkcaaGreatDoor
open Go.RowKit Go.Shelf

theorem ownN_root {w : World} {B lo : Nat} (h : Node7 w B slashT empty 0 0 0 0 0) (hl : lo ≤ B) : OwnN 42 w lo (.slice (some ⟨B, 0, none⟩) 1 1) [rootN] :=
  ⟨rfl, .inr ⟨B, 1, _, rfl, hl, h, Nat.le_refl _, by unfold maxLen; omega, rfl, rfl⟩⟩
/-- The operation of a growing tree's round. -/
def Sr.gop (s : Sr) (ns : List Nd) (i : Nat) : Op5 × Sr := if i < 3 then (⟨1, ((s.op ns).2.near ns).1, ⟨#[120]⟩, 0, false⟩, ((s.op ns).2.near ns).2) else s.op ns
/-- A tree that grows. -/
def Sr.grow (s : Sr) : Nat → List Nd × Nat × Sr
  | 0 => ([rootN], 0, s)
  | i + 1 =>
    if (doO (s.grow i).1 ((s.grow i).2.2.gop (s.grow i).1 i).1 (((s.grow i).2.1 + 1 : Nat) : Int)).1 = 0
    then ((doO (s.grow i).1 ((s.grow i).2.2.gop (s.grow i).1 i).1 (((s.grow i).2.1 + 1 : Nat) : Int)).2.1, (s.grow i).2.1 + 1, ((s.grow i).2.2.gop (s.grow i).1 i).2)
    else ((s.grow i).1, (s.grow i).2.1, ((s.grow i).2.2.gop (s.grow i).1 i).2)
theorem snd_root : Snd [rootN] := okTree_snd.1 (by decide)
theorem Sr.grow_inv (s : Sr) : ∀ i, i ≤ 1000000 → Snd (s.grow i).1 ∧ (s.grow i).1.length ≤ i + 1 ∧ (s.grow i).2.1 ≤ i
  | 0, _ => ⟨snd_root, by simp [Sr.grow], by simp [Sr.grow]⟩
  | i + 1, h => by
    obtain ⟨h1, h2, h3⟩ := s.grow_inv i (by omega)
    unfold Sr.grow
    split
    · refine ⟨doO_snd h1 _ (by unfold okS; simp; omega), ?_, ?_⟩
      · exact Nat.le_trans (doO_len h1.1 _ _) (by omega)
      · show (s.grow i).2.1 + 1 ≤ i + 1; omega
    · exact ⟨h1, by show (s.grow i).1.length ≤ _; omega, by show (s.grow i).2.1 ≤ _; omega⟩
theorem snd_sz {ns : List Nd} (h : Snd ns) (i : Nat) : (nAt ns i).path.size ≤ 1000 ∧ (nAt ns i).data.size ≤ 1000 := by
  by_cases hi : i < ns.length
  · have := okNd_all (h.2.1 _ (List.getElem_mem hi))
    rw [nAt_get hi]; omega
  · have : nAt ns i = nd0 := by unfold nAt; simp [List.getD, List.getElem?_eq_none (show ns.length ≤ i by omega)]
    rw [this]; simp [nd0]
theorem Sr.near_size (s : Sr) {ns : List Nd} (h : Snd ns) : (s.near ns).1.size ≤ 2000 := by
  unfold Sr.near
  split
  · have := s.path_len
    show s.path.1.toArray.size ≤ _
    simp; omega
  · split
    · have := (snd_sz h (s.next ns.length).1).1
      show (nAt ns (s.next ns.length).1).path.size ≤ _; omega
    · have := (snd_sz h (s.next ns.length).1).1
      have e0 : (⟨#[]⟩ : ByteArray).size = 0 := rfl
      have e1 : (⟨#[47]⟩ : ByteArray).size = 1 := rfl
      have e2 : ∀ x, (⟨#[x]⟩ : ByteArray).size = 1 := fun _ => rfl
      split
      · simp only [ByteArray.size_append]
        rw [e0, e1, e2]; omega
      · simp only [ByteArray.size_append]
        rw [e1, e2]; omega
theorem Sr.op_size (s : Sr) {ns : List Nd} (h : Snd ns) : (s.op ns).1.path.size ≤ 2000 ∧ (s.op ns).1.data.size ≤ 64 := by
  unfold Sr.op
  have z : (⟨#[]⟩ : ByteArray).size = 0 := rfl
  split
  · exact ⟨Sr.near_size _ h, Sr.data_len _⟩
  · split
    · exact ⟨Sr.near_size _ h, by rw [z]; omega⟩
    · split
      · exact ⟨Sr.near_size _ h, Sr.data_len _⟩
      · exact ⟨Sr.near_size _ h, by rw [z]; omega⟩
theorem Sr.gop_size (s : Sr) {ns : List Nd} (h : Snd ns) (i : Nat) : (s.gop ns i).1.path.size ≤ 2000 ∧ (s.gop ns i).1.data.size ≤ 64 := by
  unfold Sr.gop
  split
  · exact ⟨Sr.near_size _ h, by show (⟨#[120]⟩ : ByteArray).size ≤ 64; decide⟩
  · exact s.op_size h
theorem runO_one (z : Int) (o : Op5) (ns : List Nd) : runO z [o] ns 0 [] = if (doO ns o z).1 ≠ 0 then ((doO ns o z).1, 0, ns, []) else (0, 1, (doO ns o z).2.1, [(doO ns o z).2.2]) := rfl

theorem dif_sz {A B : List Nd} (hA : Snd A) (hB : Snd B) (i : Nat) : (eAt (dif A B) i).nd.path.size ≤ 1048576 ∧ (eAt (dif A B) i).nd.data.size ≤ 1048576 := by
  by_cases hi : i < (dif A B).length
  · have h := dif_ok A B hA.2.1 hB.2.1 _ (List.getElem_mem hi)
    rw [eAt_get hi]
    unfold okEf at h
    simp only [Bool.and_eq_true] at h
    have := okNd_all h.1
    omega
  · have : eAt (dif A B) i = ef0 := by unfold eAt; simp [List.getD, List.getElem?_eq_none (show (dif A B).length ≤ i by omega)]
    rw [this]; simp [ef0, nd0]

/-- What a growing tree holds. -/
structure GR (W : World) (k B TB : Nat) (v : Value) (ns : List Nd) (s : Sr) (w : World) : Prop where
  src : SRX w k B s
  tch : Tch k W w
  own : OwnN 42 w W.heap.size v ns
  ct : w.cell? ⟨TB, 0, none⟩ = some v
  ft : w.frozen? ⟨TB, 0, none⟩ = false
  cr : w.cell? ⟨W.heap.size, 0, none⟩ = some (.slice none 0 0)
  fr : w.frozen? ⟨W.heap.size, 0, none⟩ = false
  tb : W.heap.size < TB
  lt : TB < w.heap.size
  vt : v.ownBlock ≠ some TB
  vr : v.ownBlock ≠ some W.heap.size
theorem GR.next {W w w' : World} {k B TB : Nat} {v : Value} {ns : List Nd} {s s' : Sr} (h : GR W k B TB v ns s w) (hs : SRX w' k B s') (t : Tch k w w') (hk : k < W.heap.size) : GR W k B TB v ns s' w' := by
  have a := t.2 W.heap.size (by omega) (by have := h.lt; have := h.tb; omega)
  have b := t.2 TB (by have := h.tb; omega) h.lt
  exact ⟨hs, h.tch.trans t, rowTch h.own t hk, (World.cell?_of_block (w := w) (a := ⟨TB, 0, none⟩) b).trans h.ct, (World.frozen?_of_block (w := w) b).trans h.ft, (World.cell?_of_block (w := w) (a := ⟨W.heap.size, 0, none⟩) a).trans h.cr, (World.frozen?_of_block (w := w) a).trans h.fr, h.tb, Nat.lt_of_lt_of_le h.lt t.size, h.vt, h.vr⟩
theorem GR.below {W w w' : World} {k B TB : Nat} {v : Value} {ns : List Nd} {s : Sr} (h : GR W k B TB v ns s w) (hb : Below w.heap.size w w') (hk : k < W.heap.size) : GR W k B TB v ns s w' :=
  h.next (h.src.keep (hb.mono h.src.lt)) (Tch.of hb) hk

theorem GR.far {W w w' : World} {k B TB m : Nat} {v : Value} {ns : List Nd} {s : Sr} (h : GR W k B TB v ns s w) (hb : Below m w w') (hm : TB < m) (hB : B ≤ TB) (hv : ∀ g, v.ownBlock = some g → g < m) : GR W k B TB v ns s w' := by
  have htb := h.tb
  refine ⟨h.src.keep (hb.mono (by omega)), h.tch.then (hb.mono (by omega)), ?_, (hb.cell (p := ⟨TB, 0, none⟩) hm).trans h.ct, (hb.frozen (p := ⟨TB, 0, none⟩) hm).trans h.ft, (hb.cell (p := ⟨W.heap.size, 0, none⟩) (show W.heap.size < m by omega)).trans h.cr, (hb.frozen (p := ⟨W.heap.size, 0, none⟩) (show W.heap.size < m by omega)).trans h.fr, h.tb, Nat.lt_of_lt_of_le h.lt hb.size, h.vt, h.vr⟩
  refine ⟨h.own.1, ?_⟩
  rcases h.own.2 with hn | ⟨g, cap, cur, rfl, hbg, hgg, rest⟩
  · exact .inl hn
  · exact .inr ⟨g, cap, cur, rfl, hbg, by rw [hb.block g (hv g rfl)]; exact hgg, rest⟩
theorem GR.put {W w : World} {k B TB lo : Nat} {v v' : Value} {ns ns' : List Nd} {s : Sr} (h : GR W k B TB v ns s w) (o : OwnN 42 w lo v' ns') (hlo : TB < lo) (hB : B ≤ TB) : GR W k B TB v' ns' s (w.setCell ⟨TB, 0, none⟩ v') := by
  have htb := h.tb
  have hne : v'.ownBlock ≠ some TB := fun e => by have := (World.ownsRow.lt o _ e).1; omega
  have hne2 : v'.ownBlock ≠ some W.heap.size := fun e => by have := (World.ownsRow.lt o _ e).1; omega
  refine ⟨h.src.keep ((Below.refl _ _).setCell hB _), h.tch.then ((Below.refl _ _).setCell (by show _ ≤ TB; omega) _), (OwnN.setO o hne _).mono (by omega), World.cell?_setCell_same _ _ _ h.ct, by rw [World.frozen?_setCell]; exact h.ft, (World.cell?_setCell_other _ _ _ _ (by intro e; injection e with e; omega)).trans h.cr, by rw [World.frozen?_setCell]; exact h.fr, h.tb, by simpa using h.lt, hne, hne2⟩
theorem rdO_one (w : World) (o : Op5) (t : TypeId) : RdO (w.alloc (.cells #[.int .i64 o.kind, .string o.path, .string o.data, .int .i64 o.ver, .bool o.seq] t)) (.slice (some ⟨w.heap.size, 0, none⟩) 1 1) [o] := by
  refine ⟨_, 1, rfl, Nat.le_refl _, by unfold maxLen; omega, .inr ⟨w.heap.size, 0, rfl, by simp, fun i hi => ?_⟩⟩
  obtain rfl : i = 0 := by simp at hi; omega
  have hc := fun j => cell_of (heap_alloc_new w (.cells #[.int .i64 o.kind, .string o.path, .string o.data, .int .i64 o.ver, .bool o.seq] t)) j
  refine ⟨?_, ?_, ?_, ?_, ?_⟩ <;> simp [hc, oAt]

set_option maxHeartbeats 4000000 in
set_option maxRecDepth 100000 in
theorem grow_x (W : World) (k B n : Nat) (s : Sr) (h : SRX W k B s) (hn : n ≤ 60) :
    Calls Tryz.prog 53 #[.pointer (some ⟨k, 0, none⟩), .int .i64 (n : Int)] W fun e w' => ∃ v, e = .returned (.tuple #[.agg #[v], .int .i64 ((s.grow n).2.1 : Int)]) ∧ OwnN 42 w' W.heap.size v (s.grow n).1 ∧ SRX w' k B (s.grow n).2.2 ∧ Tch k W w' := by
  have hk1 := h.kB
  have hk2 := h.lt
  have hkW : k < W.heap.size := by omega
  have HS : Hid (SRX W k B s) := h
  have HINV : Hid (∀ i, i ≤ 60 → Snd (s.grow i).1 ∧ (s.grow i).1.length ≤ i + 1 ∧ (s.grow i).2.1 ≤ i) := fun i hi => s.grow_inv i (by omega)
  have BR : Hid (Below W.heap.size W (W.alloc (.cells #[.slice none 0 0] 25))) := (Below.refl _ _).alloc (Nat.le_refl _) _
  clear h
  go_enter Tryz.func53, Tryz.ntmps53
  go_wp2_with fail
  refine (specNewTree_any _).mono ?_
  rintro e w1 ⟨rfl, n1, b1⟩
  have hsz : (W.alloc (.cells #[.slice none 0 0] 25)).heap.size = W.heap.size + 1 := by simp
  rw [hsz] at n1 b1 ⊢
  have s1 := n1.lt
  have c1 := (b1.cell (p := ⟨W.heap.size, 0, none⟩) (show W.heap.size < _ by omega)).trans (show (W.alloc (.cells #[.slice none 0 0] 25)).cell? ⟨W.heap.size, 0, none⟩ = some (.slice none 0 0) by simp)
  have f1 := (b1.frozen (p := ⟨W.heap.size, 0, none⟩) (show W.heap.size < _ by omega)).trans (show (W.alloc (.cells #[.slice none 0 0] 25)).frozen? ⟨W.heap.size, 0, none⟩ = false by simp)
  have bA : Below w1.heap.size w1 (w1.alloc (.cells #[.slice (some ⟨W.heap.size + 1 + 1, 0, none⟩) 1 1] 25)) := (Below.refl _ _).alloc (Nat.le_refl _) _
  have bW : Below W.heap.size W w1 := BR.out.trans (b1.mono (by omega))
  have G1 : Hid (GR W k B w1.heap.size (.slice (some ⟨W.heap.size + 1 + 1, 0, none⟩) 1 1) [rootN] s (w1.alloc (.cells #[.slice (some ⟨W.heap.size + 1 + 1, 0, none⟩) 1 1] 25))) := by
    refine ⟨HS.out.keep ((bW.trans (bA.mono (by omega))).mono hk2), Tch.of (bW.trans (bA.mono (by omega))), (ownN_root n1 (by omega)).below bA, by simp, by simp, (bA.cell (p := ⟨W.heap.size, 0, none⟩) (show W.heap.size < _ by omega)).trans c1, (bA.frozen (p := ⟨W.heap.size, 0, none⟩) (show W.heap.size < _ by omega)).trans f1, by omega, by simp, ?_, ?_⟩
    · simp [Value.ownBlock]; omega
    · simp [Value.ownBlock]; omega
  clear n1 b1 c1 f1 bA bW BR hsz
  go_wp2
  generalize w1.alloc (.cells #[.slice (some ⟨W.heap.size + 1 + 1, 0, none⟩) 1 1] 25) = w2 at *
  generalize w1.heap.size = TB at *
  go_loopw [7, 8] (fun z i wr => ∃ (j : Nat) (v : Value), j ≤ n ∧ i = .int .i64 j ∧ z = .int .i64 ((s.grow j).2.1 : Int) ∧ Hid (GR W k B TB v (s.grow j).1 (s.grow j).2.2 wr)) (fun _ i _ => n - (intOf i).toNat)
  case atStart => exact ⟨0, _, Nat.zero_le _, rfl, rfl, G1⟩
  case round =>
    clear G1
    obtain ⟨j, v, hj, rfl, rfl, HG⟩ := hrel
    obtain ⟨av, cv, rfl⟩ := HG.out.own.slice
    by_cases hlt : j < n
    · have hltI : (j : Int) < (n : Int) := by omega
      obtain ⟨hsnd, hlen, hzj⟩ := HINV.out j (by omega)
      have HSN : Hid (Snd (s.grow j).1) := hsnd
      have HST : Hid (s.grow (j + 1) = if (doO (s.grow j).1 ((s.grow j).2.2.gop (s.grow j).1 j).1 (((s.grow j).2.1 + 1 : Nat) : Int)).1 = 0
        then ((doO (s.grow j).1 ((s.grow j).2.2.gop (s.grow j).1 j).1 (((s.grow j).2.1 + 1 : Nat) : Int)).2.1, (s.grow j).2.1 + 1, ((s.grow j).2.2.gop (s.grow j).1 j).2)
        else ((s.grow j).1, (s.grow j).2.1, ((s.grow j).2.2.gop (s.grow j).1 j).2)) := rfl
      have HGS := (s.grow j).2.2.gop_size hsnd j
      have e1 : (((s.grow j).2.1 + 1 : Nat) : Int) = ((s.grow j).2.1 : Int) + 1 := by omega
      rw [e1] at HST
      have HPK : Hid (∀ o : Op5, okPrep (s.grow j).1 [o] (((s.grow j).2.1 : Int) + 1) = true) := by
        intro o
        unfold okPrep
        rw [okTree_snd.2 hsnd]
        simp
        omega
      have HND : Hid (∀ o : Op5, Snd (doO (s.grow j).1 o (((s.grow j).2.1 : Int) + 1)).2.1 ∧ (doO (s.grow j).1 o (((s.grow j).2.1 : Int) + 1)).2.1.length ≤ j + 2) := fun o => ⟨doO_snd hsnd o (by unfold okS; simp; omega), Nat.le_trans (doO_len hsnd.1 _ _) (by omega)⟩
      clear hsnd e1
      generalize s.grow j = q at *
      have ct := HG.out.ct
      go_wp2_with fail
      clear ct
      refine (op_x _ k B W.heap.size q.2.2 _ q.1 HG.out.src HG.out.own hkW (by omega) (fun i _ => (snd_sz HSN.out i).1)).mono ?_
      rintro e w3 ⟨rfl, s3, t3⟩
      have G3 : Hid (GR W k B TB (.slice av q.1.length cv) q.1 (q.2.2.op q.1).2 w3) := HG.out.next s3 t3 hkW
      have HGP : Hid (q.2.2.gop q.1 j = if j < 3 then (⟨1, ((q.2.2.op q.1).2.near q.1).1, ⟨#[120]⟩, 0, false⟩, ((q.2.2.op q.1).2.near q.1).2) else q.2.2.op q.1) := rfl
      have hBT : B ≤ TB := by have := HG.out.tb; omega
      clear s3 t3 HG
      generalize q.2.2.op q.1 = oq at *
      have bA : Below w3.heap.size w3 (w3.alloc (.cells #[.int .i64 oq.1.kind, .string oq.1.path, .string oq.1.data, .int .i64 oq.1.ver, .bool oq.1.seq] 40)) := (Below.refl _ _).alloc (Nat.le_refl _) _
      have G4 : Hid (GR W k B TB (.slice av q.1.length cv) q.1 oq.2 (w3.alloc (.cells #[.int .i64 oq.1.kind, .string oq.1.path, .string oq.1.data, .int .i64 oq.1.ver, .bool oq.1.seq] 40))) := G3.out.below bA hkW
      have X4 : Hid (BoxO (w3.alloc (.cells #[.int .i64 oq.1.kind, .string oq.1.path, .string oq.1.data, .int .i64 oq.1.ver, .bool oq.1.seq] 40)) w3.heap.size oq.1) := BoxO.new _ _ _
      have F4 : Hid (∀ i, (w3.alloc (.cells #[.int .i64 oq.1.kind, .string oq.1.path, .string oq.1.data, .int .i64 oq.1.ver, .bool oq.1.seq] 40)).frozen? ⟨w3.heap.size, i, none⟩ = false) := fun i => by simp
      have hOB : TB < w3.heap.size := G3.out.lt
      have HVB : Hid (∀ g, Value.ownBlock (.slice av q.1.length cv) = some g → g < w3.heap.size) := fun g e => (World.ownsRow.lt G3.out.own g e).2
      clear bA G3
      have ct := G4.out.ct
      by_cases h3 : j < 3
      · have h3I : (j : Int) < 3 := by omega
        rw [if_pos h3] at HGP
        go_wp2_with fail
        clear ct
        generalize w3.alloc (.cells #[.int .i64 oq.1.kind, .string oq.1.path, .string oq.1.data, .int .i64 oq.1.ver, .bool oq.1.seq] 40) = w4 at *
        generalize w3.heap.size = OB at *
        refine (near_x _ k B W.heap.size oq.2 _ q.1 G4.out.src G4.out.own hkW (by omega) (fun i _ => (snd_sz HSN.out i).1)).mono ?_
        rintro e w5 ⟨rfl, s5, t5⟩
        have G5 : Hid (GR W k B TB (.slice av q.1.length cv) q.1 (oq.2.near q.1).2 w5) := G4.out.next s5 t5 hkW
        have hkO : OB ≠ k := by have := G4.out.tb; omega
        have X5 : Hid (BoxO w5 OB oq.1) := by
          obtain ⟨xl, c0, c1, c2, c3, c4⟩ := X4.out
          have b := t5.2 OB hkO xl
          exact ⟨Nat.lt_of_lt_of_le xl t5.size, (World.cell?_of_block (w := w4) (a := ⟨OB, 0, none⟩) b).trans c0, (World.cell?_of_block (w := w4) (a := ⟨OB, 1, none⟩) b).trans c1, (World.cell?_of_block (w := w4) (a := ⟨OB, 2, none⟩) b).trans c2, (World.cell?_of_block (w := w4) (a := ⟨OB, 3, none⟩) b).trans c3, (World.cell?_of_block (w := w4) (a := ⟨OB, 4, none⟩) b).trans c4⟩
        have F5 : Hid (∀ i, w5.frozen? ⟨OB, i, none⟩ = false) := fun i => (World.frozen?_of_block (w := w4) (t5.2 OB hkO X4.out.1)).trans (F4.out i)
        clear s5 t5 G4 X4 F4
        generalize oq.2.near q.1 = pq at *
        obtain ⟨xl, c0, c1, c2, c3, c4⟩ := X5.out
        have f0 := F5.out 0
        have f1 := F5.out 1
        have f2 := F5.out 2
        have f3 := F5.out 3
        have f4 := F5.out 4
        have ct := G5.out.ct
        have hnTB : TB ≠ OB := by omega
        go_wp2_with fail
        have bS : Below OB w5 (((((w5.setCell ⟨OB, 0, none⟩ (.int .i64 1)).setCell ⟨OB, 1, none⟩ (.string pq.1)).setCell ⟨OB, 2, none⟩ (.string ⟨#[120]⟩)).setCell ⟨OB, 3, none⟩ (.int .i64 0)).setCell ⟨OB, 4, none⟩ (.bool false)) := by
          iterate 5 refine Below.setCell ?_ (by show OB ≤ OB; exact Nat.le_refl _) _
          exact Below.refl _ _
        have G6 : Hid (GR W k B TB (.slice av q.1.length cv) q.1 pq.2 (((((w5.setCell ⟨OB, 0, none⟩ (.int .i64 1)).setCell ⟨OB, 1, none⟩ (.string pq.1)).setCell ⟨OB, 2, none⟩ (.string ⟨#[120]⟩)).setCell ⟨OB, 3, none⟩ (.int .i64 0)).setCell ⟨OB, 4, none⟩ (.bool false))) := G5.out.far bS hOB hBT HVB.out
        have hs6 : (((((w5.setCell ⟨OB, 0, none⟩ (.int .i64 1)).setCell ⟨OB, 1, none⟩ (.string pq.1)).setCell ⟨OB, 2, none⟩ (.string ⟨#[120]⟩)).setCell ⟨OB, 3, none⟩ (.int .i64 0)).setCell ⟨OB, 4, none⟩ (.bool false)).heap.size = w5.heap.size := by simp
        rw [← hs6]
        clear bS xl c0 c1 c2 c3 c4 f0 f1 f2 f3 f4 ct G5 X5 F5
        generalize ((((w5.setCell ⟨OB, 0, none⟩ (.int .i64 1)).setCell ⟨OB, 1, none⟩ (.string pq.1)).setCell ⟨OB, 2, none⟩ (.string ⟨#[120]⟩)).setCell ⟨OB, 3, none⟩ (.int .i64 0)).setCell ⟨OB, 4, none⟩ (.bool false) = w6 at *
        have HGO : Hid (q.2.2.gop q.1 j = (⟨1, pq.1, ⟨#[120]⟩, 0, false⟩, pq.2)) := HGP.out
        have hsz1 : (⟨1, pq.1, ⟨#[120]⟩, 0, false⟩ : Op5).path.size ≤ 2000 ∧ (⟨1, pq.1, ⟨#[120]⟩, 0, false⟩ : Op5).data.size ≤ 64 := by
          rw [HGO.out] at HGS; exact HGS
        rw [HGO.out] at HST
        have HDD : Hid (Snd (doO q.1 ⟨1, pq.1, ⟨#[120]⟩, 0, false⟩ ((q.2.1 : Int) + 1)).2.1 ∧ (doO q.1 ⟨1, pq.1, ⟨#[120]⟩, 0, false⟩ ((q.2.1 : Int) + 1)).2.1.length ≤ j + 2) := HND.out ⟨1, pq.1, ⟨#[120]⟩, 0, false⟩
        have CP := fun W' v' (hv : RdN W' v' q.1) (vo : Value) (ho : RdO W' vo [⟨1, pq.1, ⟨#[120]⟩, 0, false⟩]) => specPrep_ok W' v' vo q.1 [⟨1, pq.1, ⟨#[120]⟩, 0, false⟩] ((q.2.1 : Int) + 1) hv ho (fun i hi => by
          obtain rfl : i = 0 := by simp at hi; omega
          show (⟨1, pq.1, ⟨#[120]⟩, 0, false⟩ : Op5).path.size ≤ _ ∧ (⟨1, pq.1, ⟨#[120]⟩, 0, false⟩ : Op5).data.size ≤ _
          omega) (HPK.out _)
        have HRO : Hid (runO ((q.2.1 : Int) + 1) [⟨1, pq.1, ⟨#[120]⟩, 0, false⟩] q.1 0 [] = if (doO q.1 ⟨1, pq.1, ⟨#[120]⟩, 0, false⟩ ((q.2.1 : Int) + 1)).1 ≠ 0 then ((doO q.1 ⟨1, pq.1, ⟨#[120]⟩, 0, false⟩ ((q.2.1 : Int) + 1)).1, 0, q.1, []) else (0, 1, (doO q.1 ⟨1, pq.1, ⟨#[120]⟩, 0, false⟩ ((q.2.1 : Int) + 1)).2.1, [(doO q.1 ⟨1, pq.1, ⟨#[120]⟩, 0, false⟩ ((q.2.1 : Int) + 1)).2.2])) := runO_one _ _ _
        have RO := rdO_one w6 ⟨1, pq.1, ⟨#[120]⟩, 0, false⟩ 40
        have b7 : Below w6.heap.size w6 (w6.alloc (.cells #[.int .i64 (⟨1, pq.1, ⟨#[120]⟩, 0, false⟩ : Op5).kind, .string (⟨1, pq.1, ⟨#[120]⟩, 0, false⟩ : Op5).path, .string (⟨1, pq.1, ⟨#[120]⟩, 0, false⟩ : Op5).data, .int .i64 (⟨1, pq.1, ⟨#[120]⟩, 0, false⟩ : Op5).ver, .bool (⟨1, pq.1, ⟨#[120]⟩, 0, false⟩ : Op5).seq] 40)) := (Below.refl _ _).alloc (Nat.le_refl _) _
        have G7 : Hid (GR W k B TB (.slice av q.1.length cv) q.1 pq.2 (w6.alloc (.cells #[.int .i64 (⟨1, pq.1, ⟨#[120]⟩, 0, false⟩ : Op5).kind, .string (⟨1, pq.1, ⟨#[120]⟩, 0, false⟩ : Op5).path, .string (⟨1, pq.1, ⟨#[120]⟩, 0, false⟩ : Op5).data, .int .i64 (⟨1, pq.1, ⟨#[120]⟩, 0, false⟩ : Op5).ver, .bool (⟨1, pq.1, ⟨#[120]⟩, 0, false⟩ : Op5).seq] 40))) := G6.out.below b7 hkW
        try dsimp only at RO b7 G7
        have CC := CP _ _ G7.out.own.rd _ RO
        clear CP RO b7
        generalize w6.alloc (.cells #[_, _, _, _, _] 40) = w7 at *
        refine CC.mono ?_
        rintro e w8 ⟨b8, hres⟩
        clear CC
        rw [HRO.out] at hres
        have G8 : Hid (GR W k B TB (.slice av q.1.length cv) q.1 pq.2 w8) := G7.out.below b8 hkW
        clear G6 G7 b8 HRO HGO HND HPK
        generalize doO q.1 ⟨1, pq.1, ⟨#[120]⟩, 0, false⟩ ((q.2.1 : Int) + 1) = dd at *
        by_cases hd : dd.1 = 0
        · rw [if_neg (by simpa using hd)] at hres
          rw [if_pos hd] at HST
          rcases hres with ⟨hne, -⟩ | ⟨-, vn, ve, rfl, on, oe⟩
          · exact absurd rfl hne
          obtain ⟨ea, ec, rfl, _, _⟩ := (OwnE.rd oe).len
          obtain ⟨na, nl, nc, rfl⟩ : ∃ a n c, vn = .slice a n c := by
            rcases on.2 with ⟨rfl, -⟩ | ⟨g, cap, cur, rfl, -⟩
            · exact ⟨_, _, _, rfl⟩
            · exact ⟨_, _, _, rfl⟩
          have bA : Below w8.heap.size w8 (w8.alloc (.cells #[.int .i64 0, .int .i64 0, .slice na nl nc, .int .i64 ((q.2.1 : Int) + 1), .slice ea (dif q.1 dd.2.1).length ec] 37)) := (Below.refl _ _).alloc (Nat.le_refl _) _
          have G9 : Hid (GR W k B TB (.slice av q.1.length cv) q.1 pq.2 (w8.alloc (.cells #[.int .i64 0, .int .i64 0, .slice na nl nc, .int .i64 ((q.2.1 : Int) + 1), .slice ea (dif q.1 dd.2.1).length ec] 37))) := G8.out.below bA hkW
          have E9 : Hid (RdE (w8.alloc (.cells #[.int .i64 0, .int .i64 0, .slice na nl nc, .int .i64 ((q.2.1 : Int) + 1), .slice ea (dif q.1 dd.2.1).length ec] 37)) (.slice ea (dif q.1 dd.2.1).length ec) (dif q.1 dd.2.1)) := (OwnE.rd oe).below bA
          have HSZ9 : Hid (∀ i, (eAt (dif q.1 dd.2.1) i).nd.path.size ≤ 1048576 ∧ (eAt (dif q.1 dd.2.1) i).nd.data.size ≤ 1048576) := dif_sz HSN.out HDD.out.1
          have HRA : Hid (resA q.1 ((q.2.1 : Int) + 1) (dif q.1 dd.2.1) = dd.2.1) := resA_dif HSN.out HDD.out.1 (by have := HDD.out.2; omega) (by omega)
          have ct := G9.out.ct
          clear on oe bA G8
          generalize dif q.1 dd.2.1 = DF at *
          go_wp2_with fail
          clear ct
          refine (specApply_any _ _ q.1 ((q.2.1 : Int) + 1) _ DF G9.out.own.rd E9.out (by omega) (fun i => by have := snd_sz HSN.out i; omega) HSZ9.out).mono ?_
          rintro e w10 ⟨v10, rfl, o10, b10⟩
          rw [HRA.out] at o10
          have G10 : Hid (GR W k B TB (.slice av q.1.length cv) q.1 pq.2 w10) := G9.out.below b10 hkW
          have HL9 : TB < (w8.alloc (.cells #[.int .i64 0, .int .i64 0, .slice na nl nc, .int .i64 ((q.2.1 : Int) + 1), .slice ea DF.length ec] 37)).heap.size := G9.out.lt
          have G11 : Hid (GR W k B TB v10 dd.2.1 pq.2 (w10.setCell ⟨TB, 0, none⟩ v10)) := G10.out.put o10 HL9 hBT
          have ct := G10.out.ct
          have ft := G10.out.ft
          obtain ⟨a10, c10, rfl⟩ := OwnN.slice9 o10
          clear o10 b10 G9 E9 G10 HL9 HRA HSZ9
          go_wp2
          go_roundw
          case rel => exact ⟨j + 1, _, by omega, by go_num, by rw [HST.out]; go_num, by rw [HST.out]; exact G11⟩
          case measure => simp [intOf]; omega
        · rw [if_pos (by simpa using hd)] at hres
          rw [if_neg hd] at HST
          rcases hres with ⟨-, rfl⟩ | ⟨heq, -⟩
          rotate_left
          · exact absurd heq hd
          have bA : Below w8.heap.size w8 (w8.alloc (.cells #[.int .i64 dd.1, .int .i64 0, .slice none 0 0, .int .i64 0, .slice none 0 0] 37)) := (Below.refl _ _).alloc (Nat.le_refl _) _
          have G9 : Hid (GR W k B TB (.slice av q.1.length cv) q.1 pq.2 (w8.alloc (.cells #[.int .i64 dd.1, .int .i64 0, .slice none 0 0, .int .i64 0, .slice none 0 0] 37))) := G8.out.below bA hkW
          have hdb : (dd.1 == 0) = false := by simpa using hd
          clear bA G8
          go_wp2
          go_roundw
          case rel => exact ⟨j + 1, _, by omega, by go_num, by rw [HST.out], by rw [HST.out]; exact G9⟩
          case measure => simp [intOf]; omega
      · have h3I : ¬ (j : Int) < 3 := by omega
        rw [if_neg h3] at HGP
        obtain ⟨xl, c0, c1, c2, c3, c4⟩ := X4.out
        have HG6 : Hid (GR W k B TB (.slice av q.1.length cv) q.1 oq.2 (w3.alloc (.cells #[.int .i64 oq.1.kind, .string oq.1.path, .string oq.1.data, .int .i64 oq.1.ver, .bool oq.1.seq] 40))) := G4.out
        go_wp2_with fail
        have G6 := HG6
        clear ct xl c0 c1 c2 c3 c4 G4 X4 F4 HG6
        have hs6 : (w3.alloc (.cells #[.int .i64 oq.1.kind, .string oq.1.path, .string oq.1.data, .int .i64 oq.1.ver, .bool oq.1.seq] 40)).heap.size = w3.heap.size + 1 := by simp
        rw [← hs6]
        generalize w3.alloc (.cells #[.int .i64 oq.1.kind, .string oq.1.path, .string oq.1.data, .int .i64 oq.1.ver, .bool oq.1.seq] 40) = w6 at *
        have HGO : Hid (q.2.2.gop q.1 j = (oq.1, oq.2)) := HGP.out
        have hsz1 : (oq.1 : Op5).path.size ≤ 2000 ∧ (oq.1 : Op5).data.size ≤ 64 := by
          rw [HGO.out] at HGS; exact HGS
        rw [HGO.out] at HST
        have HDD : Hid (Snd (doO q.1 oq.1 ((q.2.1 : Int) + 1)).2.1 ∧ (doO q.1 oq.1 ((q.2.1 : Int) + 1)).2.1.length ≤ j + 2) := HND.out oq.1
        have CP := fun W' v' (hv : RdN W' v' q.1) (vo : Value) (ho : RdO W' vo [oq.1]) => specPrep_ok W' v' vo q.1 [oq.1] ((q.2.1 : Int) + 1) hv ho (fun i hi => by
          obtain rfl : i = 0 := by simp at hi; omega
          show (oq.1 : Op5).path.size ≤ _ ∧ (oq.1 : Op5).data.size ≤ _
          omega) (HPK.out _)
        have HRO : Hid (runO ((q.2.1 : Int) + 1) [oq.1] q.1 0 [] = if (doO q.1 oq.1 ((q.2.1 : Int) + 1)).1 ≠ 0 then ((doO q.1 oq.1 ((q.2.1 : Int) + 1)).1, 0, q.1, []) else (0, 1, (doO q.1 oq.1 ((q.2.1 : Int) + 1)).2.1, [(doO q.1 oq.1 ((q.2.1 : Int) + 1)).2.2])) := runO_one _ _ _
        have RO := rdO_one w6 oq.1 40
        have b7 : Below w6.heap.size w6 (w6.alloc (.cells #[.int .i64 (oq.1 : Op5).kind, .string (oq.1 : Op5).path, .string (oq.1 : Op5).data, .int .i64 (oq.1 : Op5).ver, .bool (oq.1 : Op5).seq] 40)) := (Below.refl _ _).alloc (Nat.le_refl _) _
        have G7 : Hid (GR W k B TB (.slice av q.1.length cv) q.1 oq.2 (w6.alloc (.cells #[.int .i64 (oq.1 : Op5).kind, .string (oq.1 : Op5).path, .string (oq.1 : Op5).data, .int .i64 (oq.1 : Op5).ver, .bool (oq.1 : Op5).seq] 40))) := G6.out.below b7 hkW
        try dsimp only at RO b7 G7
        have CC := CP _ _ G7.out.own.rd _ RO
        clear CP RO b7
        generalize w6.alloc (.cells #[_, _, _, _, _] 40) = w7 at *
        refine CC.mono ?_
        rintro e w8 ⟨b8, hres⟩
        clear CC
        rw [HRO.out] at hres
        have G8 : Hid (GR W k B TB (.slice av q.1.length cv) q.1 oq.2 w8) := G7.out.below b8 hkW
        clear G6 G7 b8 HRO HGO HND HPK
        generalize doO q.1 oq.1 ((q.2.1 : Int) + 1) = dd at *
        by_cases hd : dd.1 = 0
        · rw [if_neg (by simpa using hd)] at hres
          rw [if_pos hd] at HST
          rcases hres with ⟨hne, -⟩ | ⟨-, vn, ve, rfl, on, oe⟩
          · exact absurd rfl hne
          obtain ⟨ea, ec, rfl, _, _⟩ := (OwnE.rd oe).len
          obtain ⟨na, nl, nc, rfl⟩ : ∃ a n c, vn = .slice a n c := by
            rcases on.2 with ⟨rfl, -⟩ | ⟨g, cap, cur, rfl, -⟩
            · exact ⟨_, _, _, rfl⟩
            · exact ⟨_, _, _, rfl⟩
          have bA : Below w8.heap.size w8 (w8.alloc (.cells #[.int .i64 0, .int .i64 0, .slice na nl nc, .int .i64 ((q.2.1 : Int) + 1), .slice ea (dif q.1 dd.2.1).length ec] 37)) := (Below.refl _ _).alloc (Nat.le_refl _) _
          have G9 : Hid (GR W k B TB (.slice av q.1.length cv) q.1 oq.2 (w8.alloc (.cells #[.int .i64 0, .int .i64 0, .slice na nl nc, .int .i64 ((q.2.1 : Int) + 1), .slice ea (dif q.1 dd.2.1).length ec] 37))) := G8.out.below bA hkW
          have E9 : Hid (RdE (w8.alloc (.cells #[.int .i64 0, .int .i64 0, .slice na nl nc, .int .i64 ((q.2.1 : Int) + 1), .slice ea (dif q.1 dd.2.1).length ec] 37)) (.slice ea (dif q.1 dd.2.1).length ec) (dif q.1 dd.2.1)) := (OwnE.rd oe).below bA
          have HSZ9 : Hid (∀ i, (eAt (dif q.1 dd.2.1) i).nd.path.size ≤ 1048576 ∧ (eAt (dif q.1 dd.2.1) i).nd.data.size ≤ 1048576) := dif_sz HSN.out HDD.out.1
          have HRA : Hid (resA q.1 ((q.2.1 : Int) + 1) (dif q.1 dd.2.1) = dd.2.1) := resA_dif HSN.out HDD.out.1 (by have := HDD.out.2; omega) (by omega)
          have ct := G9.out.ct
          clear on oe bA G8
          generalize dif q.1 dd.2.1 = DF at *
          go_wp2_with fail
          clear ct
          refine (specApply_any _ _ q.1 ((q.2.1 : Int) + 1) _ DF G9.out.own.rd E9.out (by omega) (fun i => by have := snd_sz HSN.out i; omega) HSZ9.out).mono ?_
          rintro e w10 ⟨v10, rfl, o10, b10⟩
          rw [HRA.out] at o10
          have G10 : Hid (GR W k B TB (.slice av q.1.length cv) q.1 oq.2 w10) := G9.out.below b10 hkW
          have HL9 : TB < (w8.alloc (.cells #[.int .i64 0, .int .i64 0, .slice na nl nc, .int .i64 ((q.2.1 : Int) + 1), .slice ea DF.length ec] 37)).heap.size := G9.out.lt
          have G11 : Hid (GR W k B TB v10 dd.2.1 oq.2 (w10.setCell ⟨TB, 0, none⟩ v10)) := G10.out.put o10 HL9 hBT
          have ct := G10.out.ct
          have ft := G10.out.ft
          obtain ⟨a10, c10, rfl⟩ := OwnN.slice9 o10
          clear o10 b10 G9 E9 G10 HL9 HRA HSZ9
          go_wp2
          go_roundw
          case rel => exact ⟨j + 1, _, by omega, by go_num, by rw [HST.out]; go_num, by rw [HST.out]; exact G11⟩
          case measure => simp [intOf]; omega
        · rw [if_pos (by simpa using hd)] at hres
          rw [if_neg hd] at HST
          rcases hres with ⟨-, rfl⟩ | ⟨heq, -⟩
          rotate_left
          · exact absurd heq hd
          have bA : Below w8.heap.size w8 (w8.alloc (.cells #[.int .i64 dd.1, .int .i64 0, .slice none 0 0, .int .i64 0, .slice none 0 0] 37)) := (Below.refl _ _).alloc (Nat.le_refl _) _
          have G9 : Hid (GR W k B TB (.slice av q.1.length cv) q.1 oq.2 (w8.alloc (.cells #[.int .i64 dd.1, .int .i64 0, .slice none 0 0, .int .i64 0, .slice none 0 0] 37))) := G8.out.below bA hkW
          have hdb : (dd.1 == 0) = false := by simpa using hd
          clear bA G8
          go_wp2
          go_roundw
          case rel => exact ⟨j + 1, _, by omega, by go_num, by rw [HST.out], by rw [HST.out]; exact G9⟩
          case measure => simp [intOf]; omega
    · have hjn : j = n := by omega
      subst hjn
      have ct := HG.out.ct
      have cr := HG.out.cr
      have fr := HG.out.fr
      have hne : TB ≠ W.heap.size := by have := HG.out.tb; omega
      have F : Hid (OwnN 42 (wr.setCell ⟨W.heap.size, 0, none⟩ (.slice av (s.grow j).1.length cv)) W.heap.size (.slice av (s.grow j).1.length cv) (s.grow j).1 ∧ SRX (wr.setCell ⟨W.heap.size, 0, none⟩ (.slice av (s.grow j).1.length cv)) k B (s.grow j).2.2 ∧ Tch k W (wr.setCell ⟨W.heap.size, 0, none⟩ (.slice av (s.grow j).1.length cv))) :=
        ⟨OwnN.setO HG.out.own HG.out.vr _, HG.out.src.keep ((Below.refl _ _).setCell hk2 _), HG.out.tch.then ((Below.refl _ _).setCell (by show W.heap.size ≤ W.heap.size; exact Nat.le_refl _) _)⟩
      clear HG
      go_wp2
      exact bodyPost_ret (v := .tuple #[.agg #[.slice av (s.grow j).1.length cv], .int .i64 ((s.grow j).2.1 : Int)]) (by simp [results, Tryz.results53, go_sem, cr]) rfl ⟨_, rfl, F.out.1, F.out.2.1, F.out.2.2⟩


/-- The code that the model's Prepare gives a request of one operation. -/
def prC (ns : List Nd) (o : Op5) : Int := if okPrep ns [o] 1 = true then (doO ns o 1).1 else 9
/-- Up to so many tries for an operation that goes well. -/
def Sr.tries (ns : List Nd) : Nat → Op5 × Sr → Op5 × Sr
  | 0, q => q
  | n + 1, q => if prC ns q.1 = 0 then q else Sr.tries ns n (q.2.op ns)
/-- One operation of a request of n. -/
def Sr.rop (s : Sr) (ns : List Nd) (n : Nat) : Op5 × Sr :=
  if 1 < n then (if ((s.op ns).2.next 4).1 = 0 then ((s.op ns).1, ((s.op ns).2.next 4).2) else Sr.tries ns 4 ((s.op ns).1, ((s.op ns).2.next 4).2)) else s.op ns
/-- The first j operations of a request of n. -/
def Sr.rops (s : Sr) (ns : List Nd) (n : Nat) : Nat → List Op5 × Sr
  | 0 => ([], s)
  | j + 1 => ((s.rops ns n j).1 ++ [((s.rops ns n j).2.rop ns n).1], ((s.rops ns n j).2.rop ns n).2)
/-- How many operations a request has. -/
def Sr.reqN (s : Sr) : Nat × Sr := if (s.next 3).1 = 0 then (1 + ((s.next 3).2.next 5).1, ((s.next 3).2.next 5).2) else (1, (s.next 3).2)
/-- A drawn request. -/
def Sr.req (s : Sr) (ns : List Nd) : List Op5 × Sr := s.reqN.2.rops ns s.reqN.1 s.reqN.1
theorem Sr.reqN_le (s : Sr) : 1 ≤ s.reqN.1 ∧ s.reqN.1 ≤ 5 := by
  unfold Sr.reqN
  split
  · have := (s.next 3).2.next_lt 5 (by omega)
    exact ⟨by show 1 ≤ 1 + _; omega, by show 1 + _ ≤ 5; omega⟩
  · exact ⟨Nat.le_refl _, by show (1 : Nat) ≤ 5; omega⟩
theorem Sr.rops_len (s : Sr) (ns : List Nd) (n : Nat) : ∀ j, (s.rops ns n j).1.length = j
  | 0 => rfl
  | j + 1 => by
    show (_ ++ [_]).length = _
    rw [List.length_append, s.rops_len ns n j]; rfl
theorem Sr.req_len (s : Sr) (ns : List Nd) : 1 ≤ (s.req ns).1.length ∧ (s.req ns).1.length ≤ 5 := by
  unfold Sr.req
  rw [Sr.rops_len]
  exact s.reqN_le
/-- Bytes of an operation that are few. -/
def SzO (o : Op5) : Prop := o.path.size ≤ 2000 ∧ o.data.size ≤ 64
/-- Nodes whose bytes are few. -/
def SzT (ns : List Nd) : Prop := ∀ i, (nAt ns i).path.size ≤ 1000 ∧ (nAt ns i).data.size ≤ 1000
theorem Sr.near_sz (s : Sr) {ns : List Nd} (h : SzT ns) : (s.near ns).1.size ≤ 2000 := by
  unfold Sr.near
  split
  · have := s.path_len
    show s.path.1.toArray.size ≤ _
    simp; omega
  · split
    · have := (h (s.next ns.length).1).1
      show (nAt ns (s.next ns.length).1).path.size ≤ _; omega
    · have := (h (s.next ns.length).1).1
      have e0 : (⟨#[]⟩ : ByteArray).size = 0 := rfl
      have e1 : (⟨#[47]⟩ : ByteArray).size = 1 := rfl
      have e2 : ∀ x, (⟨#[x]⟩ : ByteArray).size = 1 := fun _ => rfl
      split
      · simp only [ByteArray.size_append]
        rw [e0, e1, e2]; omega
      · simp only [ByteArray.size_append]
        rw [e1, e2]; omega
theorem Sr.op_sz (s : Sr) {ns : List Nd} (h : SzT ns) : SzO (s.op ns).1 := by
  unfold Sr.op
  have z : (⟨#[]⟩ : ByteArray).size = 0 := rfl
  split
  · exact ⟨Sr.near_sz _ h, Sr.data_len _⟩
  · split
    · exact ⟨Sr.near_sz _ h, by rw [z]; omega⟩
    · split
      · exact ⟨Sr.near_sz _ h, Sr.data_len _⟩
      · exact ⟨Sr.near_sz _ h, by rw [z]; omega⟩
theorem Sr.tries_sz {ns : List Nd} (h : SzT ns) : ∀ (n : Nat) (q : Op5 × Sr), SzO q.1 → SzO (Sr.tries ns n q).1
  | 0, _, hq => hq
  | n + 1, q, hq => by
    unfold Sr.tries
    split
    · exact hq
    · exact Sr.tries_sz h n _ (q.2.op_sz h)
theorem Sr.rop_sz (s : Sr) {ns : List Nd} (h : SzT ns) (n : Nat) : SzO (s.rop ns n).1 := by
  unfold Sr.rop
  split
  · split
    · exact s.op_sz h
    · exact Sr.tries_sz h 4 _ (s.op_sz h)
  · exact s.op_sz h
theorem Sr.rops_sz (s : Sr) {ns : List Nd} (h : SzT ns) (n : Nat) : ∀ j, ∀ o ∈ (s.rops ns n j).1, SzO o
  | 0, o, ho => by simp [Sr.rops] at ho
  | j + 1, o, ho => by
    rcases List.mem_append.1 (show o ∈ (s.rops ns n j).1 ++ [_] from ho) with h1 | h1
    · exact s.rops_sz h n j o h1
    · simp only [List.mem_singleton] at h1
      rw [h1]; exact Sr.rop_sz _ h n

set_option maxHeartbeats 1000000 in
theorem prep1 (w : World) (v vo : Value) (ns : List Nd) (o : Op5) (h : RdN w v ns) (ho : RdO w vo [o]) (hn : ns.length ≤ 1048576) (hsz : SzT ns) (hos : SzO o) :
    Calls Tryz.prog 9 #[.agg #[v], .agg #[vo], .int .i64 1] w fun e w' => ∃ (i : Int) (a1 : Option Addr) (n1 c1 : Nat) (z : Int) (a2 : Option Addr) (n2 c2 : Nat), e = .returned (.agg #[.int .i64 (prC ns o), .int .i64 i, .slice a1 n1 c1, .int .i64 z, .slice a2 n2 c2]) ∧ Below w.heap.size w w' := by
  cases hb : okPrep ns [o] 1 with
  | false =>
    refine (specPrep_bad w v vo ns [o] 1 h ho hn (fun i => by have := hsz i; omega) hb).mono ?_
    rintro e w' ⟨rfl, b⟩
    have e1 : prC ns o = 9 := by unfold prC; rw [if_neg (by rw [hb]; simp)]
    rw [e1]
    exact ⟨_, _, _, _, _, _, _, _, rfl, b⟩
  | true =>
    have e1 : prC ns o = (doO ns o 1).1 := by unfold prC; rw [if_pos hb]
    refine (specPrep_ok w v vo ns [o] 1 h ho (fun i hi => by
      obtain rfl : i = 0 := by simp at hi; omega
      show o.path.size ≤ _ ∧ o.data.size ≤ _
      have := hos.1; have := hos.2; omega) hb).mono ?_
    rintro e w' ⟨b, hres⟩
    rw [runO_one] at hres
    rw [e1]
    by_cases hd : (doO ns o 1).1 = 0
    · rw [if_neg (by simpa using hd)] at hres
      rcases hres with ⟨hne, -⟩ | ⟨-, vn, ve, rfl, on, oe⟩
      · exact absurd rfl hne
      obtain ⟨ea, ec, rfl, _, _⟩ := (OwnE.rd oe).len
      obtain ⟨na, nl, nc, rfl⟩ : ∃ a n c, vn = .slice a n c := by
        rcases on.2 with ⟨rfl, -⟩ | ⟨g, cap, cur, rfl, -⟩
        · exact ⟨_, _, _, rfl⟩
        · exact ⟨_, _, _, rfl⟩
      rw [hd]
      exact ⟨_, _, _, _, _, _, _, _, rfl, b⟩
    · rw [if_pos (by simpa using hd)] at hres
      rcases hres with ⟨-, rfl⟩ | ⟨heq, -⟩
      · exact ⟨_, _, _, _, _, _, _, _, rfl, b⟩
      · exact absurd heq hd


def opL (o : Op5) : List Value := [.int .i64 o.kind, .string o.path, .string o.data, .int .i64 o.ver, .bool o.seq]
def orow (os : List Op5) : List Value := os.flatMap opL
theorem orow_cons (o : Op5) (os : List Op5) : orow (o :: os) = opL o ++ orow os := by simp [orow]
theorem orow_one (os : List Op5) (o : Op5) : orow (os ++ [o]) = orow os ++ opL o := by simp [orow]
theorem orow_get : ∀ (os : List Op5) (i j : Nat), i < os.length → j < 5 → (orow os)[i * 5 + j]? = (opL (oAt os i))[j]?
  | [], i, j, h, _ => by simp at h
  | o :: os, 0, j, _, hj => by
    rw [orow_cons, Nat.zero_mul, Nat.zero_add, List.getElem?_append_left (by show j < 5; exact hj)]; rfl
  | o :: os, i + 1, j, h, hj => by
    rw [orow_cons, List.getElem?_append_right (by show 5 ≤ _; omega), show (i + 1) * 5 + j - (opL o).length = i * 5 + j by show (i + 1) * 5 + j - 5 = _; omega, orow_get os i j (by simpa using h) hj]
    rfl
theorem opL_cells (w : World) (o : Op5) (t : TypeId) : ∀ j u, (opL o)[j]? = some u → (w.alloc (.cells #[.int .i64 o.kind, .string o.path, .string o.data, .int .i64 o.ver, .bool o.seq] t)).cell? ((⟨w.heap.size, 0, none⟩ : Addr).add j) = some u := by
  intro j u hj
  rw [Addr.add_lit, Nat.zero_add, cell_of (heap_alloc_new w _) j, ← hj]
  simp [opL]
theorem opL_one (o : Op5) : ∀ u ∈ opL o, u.oneCell' = true := by
  intro u hu
  simp only [opL, List.mem_cons, List.mem_nil_iff, or_false] at hu
  rcases hu with rfl | rfl | rfl | rfl | rfl <;> rfl
theorem Tryz.infoO9 : (Tryz.prog.info? 40).map (fun i => (i.zero, i.size, i.bytes)) = some (some (.agg #[.int .i64 0, .string ByteArray.empty, .string ByteArray.empty, .int .i64 0, .bool false]), 5, 56) := by kernel_rfl
/-- Operations in a row of the call's own. -/
def OwnOps (w : World) (lo : Nat) (u : Value) (os : List Op5) : Prop := w.ownsRow lo 40 5 u os.length (orow os)
theorem OwnOps.rd {w : World} {lo : Nat} {v : Value} {os : List Op5} (h : OwnOps w lo v os) : RdO w v os := by
  rcases h.2 with ⟨rfl, h0⟩ | ⟨g, cap, cur, rfl, hb, hg, hn, hm, hs, ht⟩
  · have : os = [] := List.eq_nil_of_length_eq_zero h0
    subst this
    exact ⟨none, 0, rfl, Nat.le_refl _, Nat.zero_le _, .inl rfl⟩
  · refine ⟨_, cap, rfl, hn, hm, .inr ⟨g, 0, rfl, (Array.getElem?_eq_some_iff.1 hg).1, fun i hi => ?_⟩⟩
    have c : ∀ j, j < 5 → w.cell? ⟨g, 0 + (i * 5 + j), none⟩ = (opL (oAt os i))[j]? := fun j hj => by
      have hh := orow_get os i j hi hj
      have h9 : (opL (oAt os i))[j]? = some ((opL (oAt os i)).getD j undef) := by
        match j, hj with
        | 0, _ => rfl
        | 1, _ => rfl
        | 2, _ => rfl
        | 3, _ => rfl
        | 4, _ => rfl
      rw [h9] at hh
      have := World.ownsRow.cells h (g := g) rfl (i * 5 + j) _ hh
      rw [Addr.add_lit] at this
      rw [this, h9]
    exact ⟨c 0 (by omega), c 1 (by omega), c 2 (by omega), c 3 (by omega), c 4 (by omega)⟩
theorem OwnOps.slice {w : World} {lo : Nat} {v : Value} {os : List Op5} (h : OwnOps w lo v os) : ∃ a c, v = .slice a os.length c := by
  rcases h.2 with ⟨rfl, h0⟩ | ⟨g, cap, cur, rfl, -⟩
  · exact ⟨none, 0, by rw [h0]⟩
  · exact ⟨_, _, rfl⟩

/-- What a drawing of a request holds. -/
structure QR (W : World) (k B : Nat) (v u : Value) (os : List Op5) (s : Sr) (w : World) : Prop where
  src : SRX w k B s
  tch : Tch k W w
  ct : w.cell? ⟨W.heap.size, 0, none⟩ = some v
  cr : w.cell? ⟨W.heap.size + 1, 0, none⟩ = some (.slice none 0 0)
  fr : w.frozen? ⟨W.heap.size + 1, 0, none⟩ = false
  co : w.cell? ⟨W.heap.size + 2, 0, none⟩ = some u
  fo : w.frozen? ⟨W.heap.size + 2, 0, none⟩ = false
  own : OwnOps w (W.heap.size + 3) u os
  lt : W.heap.size + 3 ≤ w.heap.size
theorem QR.next {W w w' : World} {k B : Nat} {v u : Value} {os : List Op5} {s s' : Sr} (h : QR W k B v u os s w) (hs : SRX w' k B s') (t : Tch k w w') (hk : k < W.heap.size) : QR W k B v u os s' w' := by
  have hl := h.lt
  have a := t.2 W.heap.size (by omega) (by omega)
  have b := t.2 (W.heap.size + 1) (by omega) (by omega)
  have c := t.2 (W.heap.size + 2) (by omega) (by omega)
  exact ⟨hs, h.tch.trans t, (World.cell?_of_block (w := w) (a := ⟨W.heap.size, 0, none⟩) a).trans h.ct, (World.cell?_of_block (w := w) (a := ⟨W.heap.size + 1, 0, none⟩) b).trans h.cr, (World.frozen?_of_block (w := w) b).trans h.fr, (World.cell?_of_block (w := w) (a := ⟨W.heap.size + 2, 0, none⟩) c).trans h.co, (World.frozen?_of_block (w := w) c).trans h.fo, rowTch h.own t (by omega), Nat.le_trans hl t.size⟩
theorem QR.below {W w w' : World} {k B : Nat} {v u : Value} {os : List Op5} {s : Sr} (h : QR W k B v u os s w) (hb : Below w.heap.size w w') (hk : k < W.heap.size) : QR W k B v u os s w' :=
  h.next (h.src.keep (hb.mono h.src.lt)) (Tch.of hb) hk
theorem QR.far {W w w' : World} {k B m : Nat} {v u : Value} {os : List Op5} {s : Sr} (h : QR W k B v u os s w) (hb : Below m w w') (hm : W.heap.size + 3 ≤ m) (hB : B ≤ W.heap.size) (hu : ∀ g, u.ownBlock = some g → g < m) : QR W k B v u os s w' := by
  have hl := h.lt
  refine ⟨h.src.keep (hb.mono (by omega)), h.tch.then (hb.mono (by omega)), (hb.cell (p := ⟨W.heap.size, 0, none⟩) (show W.heap.size < m by omega)).trans h.ct, (hb.cell (p := ⟨W.heap.size + 1, 0, none⟩) (show W.heap.size + 1 < m by omega)).trans h.cr, (hb.frozen (p := ⟨W.heap.size + 1, 0, none⟩) (show W.heap.size + 1 < m by omega)).trans h.fr, (hb.cell (p := ⟨W.heap.size + 2, 0, none⟩) (show W.heap.size + 2 < m by omega)).trans h.co, (hb.frozen (p := ⟨W.heap.size + 2, 0, none⟩) (show W.heap.size + 2 < m by omega)).trans h.fo, ?_, Nat.le_trans hl hb.size⟩
  refine ⟨h.own.1, ?_⟩
  rcases h.own.2 with hn | ⟨g, cap, cur, rfl, hbg, hgg, rest⟩
  · exact .inl hn
  · exact .inr ⟨g, cap, cur, rfl, hbg, by rw [hb.block g (hu g rfl)]; exact hgg, rest⟩
theorem QR.push {W w w4 : World} {k B g cap : Nat} {v u : Value} {os : List Op5} {o : Op5} {s : Sr} {ob : Obj} (h : QR W k B v u os s w) (hB : B ≤ W.heap.size) (ho : w4.ownsRow (W.heap.size + 3) 40 5 (.slice (some ⟨g, 0, none⟩) (os.length + 1) cap) (os.length + 1) (orow os ++ opL o)) (hg : (w.alloc ob).grownBy w4 u.ownBlock) :
    QR W k B v (.slice (some ⟨g, 0, none⟩) (os.length + 1) cap) (os ++ [o]) s (w4.setCell ⟨W.heap.size + 2, 0, none⟩ (.slice (some ⟨g, 0, none⟩) (os.length + 1) cap)) ∧ w4.cell? ⟨W.heap.size + 2, 0, none⟩ = some u ∧ w4.frozen? ⟨W.heap.size + 2, 0, none⟩ = false := by
  have G : w.grownBy w4 u.ownBlock := World.grownBy.trans (World.grownBy_alloc w ob _) hg
  have hlt := h.lt
  have hs4 := G.size
  have far : ∀ q, q < W.heap.size + 3 → some q ≠ u.ownBlock := fun q hq e => by have := (World.ownsRow.lt h.own q e.symm).1; omega
  have B4 : Below (W.heap.size + 3) w w4 := ⟨G.os, G.tape, G.output, G.size, fun q hq => G.block q (by omega) (far q hq)⟩
  have hg3 : W.heap.size + 3 ≤ g := (World.ownsRow.lt ho g rfl).1
  have q1 : w4.cell? ⟨W.heap.size + 2, 0, none⟩ = some u := (B4.cell (p := ⟨W.heap.size + 2, 0, none⟩) (show W.heap.size + 2 < _ by omega)).trans h.co
  have q2 : w4.frozen? ⟨W.heap.size + 2, 0, none⟩ = false := (B4.frozen (p := ⟨W.heap.size + 2, 0, none⟩) (show W.heap.size + 2 < _ by omega)).trans h.fo
  have hne : Value.ownBlock (.slice (some ⟨g, 0, none⟩) (os.length + 1) cap) ≠ some (W.heap.size + 2) := by simp [Value.ownBlock]; omega
  have ho' : OwnOps w4 (W.heap.size + 3) (.slice (some ⟨g, 0, none⟩) (os.length + 1) cap) (os ++ [o]) := by
    unfold OwnOps
    rw [List.length_append, orow_one]
    exact ho
  have B5 : Below (W.heap.size + 2) w (w4.setCell ⟨W.heap.size + 2, 0, none⟩ (.slice (some ⟨g, 0, none⟩) (os.length + 1) cap)) := (B4.mono (by omega)).setCell (by show _ ≤ W.heap.size + 2; omega) _
  refine ⟨⟨h.src.keep (B5.mono (by omega)), h.tch.then (B5.mono (by omega)), (B5.cell (p := ⟨W.heap.size, 0, none⟩) (show W.heap.size < _ by omega)).trans h.ct, (B5.cell (p := ⟨W.heap.size + 1, 0, none⟩) (show W.heap.size + 1 < _ by omega)).trans h.cr, (B5.frozen (p := ⟨W.heap.size + 1, 0, none⟩) (show W.heap.size + 1 < _ by omega)).trans h.fr, World.cell?_setCell_same _ _ _ q1, by rw [World.frozen?_setCell]; exact q2, ?_, by simp; omega⟩, q1, q2⟩
  exact World.ownsRow.kept ho' (grownBy_set _ _ _ _ _ (World.grownBy.refl _ _)) (.inr (fun e => hne e))

end Go.Proofs.YtdiingonnddkcaaGreatDoor


