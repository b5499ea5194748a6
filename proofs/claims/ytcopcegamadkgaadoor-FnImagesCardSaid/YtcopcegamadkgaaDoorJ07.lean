import Derived.Test.YtcopcegamadkgaaDoorJ04
import Derived.Test.YtcopcegamadkgaaDoorJ06
import Derived.Deep.RegionLaw
import Derived.Deep.AppendLies
import Derived.Test.YtcopcegamadkgaaDoorJ01
import Derived.Test.YtcopcegamadkgaaDoorJ03
import Derived.Deep.QuietTactic
import Derived.Lib.AppendZeros
import Derived.Lib.AppendStr
import Derived.Test.YtcopcegamadkgaaDoorJ02
import Derived.Test.YtcopcegamadkgaaDoorRows
namespace Go.Proofs.YtcopcegamadkgaaDoor
open Go.RowKit Go.Shelf

theorem ownN_root {w : World} {B lo : Nat} (h : Node7 w B slashT empty 0 0 0 0 0) (hl : lo ≤ B) : OwnN 84 w lo (.slice (some ⟨B, 0, none⟩) 1 1) [rootN] :=
  ⟨rfl, .inr ⟨B, 1, _, rfl, hl, h, Nat.le_refl _, by unfold maxLen; omega, rfl, rfl⟩⟩
/-- The operation of a growing tree's round. -/
def Sr.gop (s : Sr) (ns : List Nd) (i : Nat) : Op5 × Sr := if i < 3 then (⟨1, ((s.op ns).2.near ns).1, ⟨#[120]⟩, 0, false⟩, ((s.op ns).2.near ns).2) else s.op ns
/-- A tree that grows. -/
def Sr.grow (s : Sr) : Nat → List Nd × Nat × Sr
  | 0 => ([rootN], 0, s)
  | i + 1 =>
    if (doO (s.grow i).1 ((s.grow i).2.2.gop (s.grow i).1 i).1 (((s.grow i).2.1 + 1 : Nat) : Int)).1 = 0
    then ((doO (s.grow i).1 ((s.grow i).2.2.gop (s.grow i).1 i).1 (((s.grow i).2.1 + 1 : Nat) : Int)).2.1, (s.grow i).2.1 + 1, ((s.grow i).2.2.gop (s.grow i).1 i).2)
    else ((s.grow i).1, (s.grow i).2.1, ((s.grow i).2.2.gop (s.grow i).1 i).2)
theorem snd_root : Snd [rootN] := okTree_snd.1 (by decide)
theorem Sr.grow_inv (s : Sr) : ∀ i, i ≤ 1000000 → Snd (s.grow i).1 ∧ (s.grow i).1.length ≤ i + 1 ∧ (s.grow i).2.1 ≤ i
  | 0, _ => ⟨snd_root, by simp [Sr.grow], by simp [Sr.grow]⟩
  | i + 1, h => by
    obtain ⟨h1, h2, h3⟩ := s.grow_inv i (by omega)
    unfold Sr.grow
    split
    · refine ⟨doO_snd h1 _ (by unfold okS; simp; omega), ?_, ?_⟩
      · exact Nat.le_trans (doO_len h1.1 _ _) (by omega)
      · show (s.grow i).2.1 + 1 ≤ i + 1; omega
    · exact ⟨h1, by show (s.grow i).1.length ≤ _; omega, by show (s.grow i).2.1 ≤ _; omega⟩
theorem snd_sz {ns : List Nd} (h : Snd ns) (i : Nat) : (nAt ns i).path.size ≤ 1000 ∧ (nAt ns i).data.size ≤ 1000 := by
  by_cases hi : i < ns.length
  · have := okNd_all (h.2.1 _ (List.getElem_mem hi))
    rw [nAt_get hi]; omega
  · have : nAt ns i = nd0 := by unfold nAt; simp [List.getD, List.getElem?_eq_none (show ns.length ≤ i by omega)]
    rw [this]; simp [nd0]
theorem Sr.near_size (s : Sr) {ns : List Nd} (h : Snd ns) : (s.near ns).1.size ≤ 2000 := by
  unfold Sr.near
  split
  · have := s.path_len
    show s.path.1.toArray.size ≤ _
    simp; omega
  · split
    · have := (snd_sz h (s.next ns.length).1).1
      show (nAt ns (s.next ns.length).1).path.size ≤ _; omega
    · have := (snd_sz h (s.next ns.length).1).1
      have e0 : (⟨#[]⟩ : ByteArray).size = 0 := rfl
      have e1 : (⟨#[47]⟩ : ByteArray).size = 1 := rfl
      have e2 : ∀ x, (⟨#[x]⟩ : ByteArray).size = 1 := fun _ => rfl
      split
      · simp only [ByteArray.size_append]
        rw [e0, e1, e2]; omega
      · simp only [ByteArray.size_append]
        rw [e1, e2]; omega
theorem Sr.op_size (s : Sr) {ns : List Nd} (h : Snd ns) : (s.op ns).1.path.size ≤ 2000 ∧ (s.op ns).1.data.size ≤ 64 := by
  unfold Sr.op
  have z : (⟨#[]⟩ : ByteArray).size = 0 := rfl
  split
  · exact ⟨Sr.near_size _ h, Sr.data_len _⟩
  · split
    · exact ⟨Sr.near_size _ h, by rw [z]; omega⟩
    · split
      · exact ⟨Sr.near_size _ h, Sr.data_len _⟩
      · exact ⟨Sr.near_size _ h, by rw [z]; omega⟩
theorem Sr.gop_size (s : Sr) {ns : List Nd} (h : Snd ns) (i : Nat) : (s.gop ns i).1.path.size ≤ 2000 ∧ (s.gop ns i).1.data.size ≤ 64 := by
  unfold Sr.gop
  split
  · exact ⟨Sr.near_size _ h, by show (⟨#[120]⟩ : ByteArray).size ≤ 64; decide⟩
  · exact s.op_size h
theorem runO_one (z : Int) (o : Op5) (ns : List Nd) : runO z [o] ns 0 [] = if (doO ns o z).1 ≠ 0 then ((doO ns o z).1, 0, ns, []) else (0, 1, (doO ns o z).2.1, [(doO ns o z).2.2]) := rfl

theorem dif_sz {A B : List Nd} (hA : Snd A) (hB : Snd B) (i : Nat) : (eAt (dif A B) i).nd.path.size ≤ 1048576 ∧ (eAt (dif A B) i).nd.data.size ≤ 1048576 := by
  by_cases hi : i < (dif A B).length
  · have h := dif_ok A B hA.2.1 hB.2.1 _ (List.getElem_mem hi)
    rw [eAt_get hi]
    unfold okEf at h
    simp only [Bool.and_eq_true] at h
    have := okNd_all h.1
    omega
  · have : eAt (dif A B) i = ef0 := by unfold eAt; simp [List.getD, List.getElem?_eq_none (show (dif A B).length ≤ i by omega)]
    rw [this]; simp [ef0, nd0]

/-- What a growing tree holds. -/
structure GR (W : World) (k B TB : Nat) (v : Value) (ns : List Nd) (s : Sr) (w : World) : Prop where
  src : SRX w k B s
  tch : Tch k W w
  own : OwnN 84 w W.heap.size v ns
  ct : w.cell? ⟨TB, 0, none⟩ = some v
  ft : w.frozen? ⟨TB, 0, none⟩ = false
  cr : w.cell? ⟨W.heap.size, 0, none⟩ = some (.slice none 0 0)
  fr : w.frozen? ⟨W.heap.size, 0, none⟩ = false
  tb : W.heap.size < TB
  lt : TB < w.heap.size
  vt : v.ownBlock ≠ some TB
  vr : v.ownBlock ≠ some W.heap.size
theorem GR.next {W w w' : World} {k B TB : Nat} {v : Value} {ns : List Nd} {s s' : Sr} (h : GR W k B TB v ns s w) (hs : SRX w' k B s') (t : Tch k w w') (hk : k < W.heap.size) : GR W k B TB v ns s' w' := by
  have a := t.2 W.heap.size (by omega) (by have := h.lt; have := h.tb; omega)
  have b := t.2 TB (by have := h.tb; omega) h.lt
  exact ⟨hs, h.tch.trans t, rowTch h.own t hk, (World.cell?_of_block (w := w) (a := ⟨TB, 0, none⟩) b).trans h.ct, (World.frozen?_of_block (w := w) b).trans h.ft, (World.cell?_of_block (w := w) (a := ⟨W.heap.size, 0, none⟩) a).trans h.cr, (World.frozen?_of_block (w := w) a).trans h.fr, h.tb, Nat.lt_of_lt_of_le h.lt t.size, h.vt, h.vr⟩
theorem GR.below {W w w' : World} {k B TB : Nat} {v : Value} {ns : List Nd} {s : Sr} (h : GR W k B TB v ns s w) (hb : Below w.heap.size w w') (hk : k < W.heap.size) : GR W k B TB v ns s w' :=
  h.next (h.src.keep (hb.mono h.src.lt)) (Tch.of hb) hk

theorem GR.far {W w w' : World} {k B TB m : Nat} {v : Value} {ns : List Nd} {s : Sr} (h : GR W k B TB v ns s w) (hb : Below m w w') (hm : TB < m) (hB : B ≤ TB) (hv : ∀ g, v.ownBlock = some g → g < m) : GR W k B TB v ns s w' := by
  have htb := h.tb
  refine ⟨h.src.keep (hb.mono (by omega)), h.tch.then (hb.mono (by omega)), ?_, (hb.cell (p := ⟨TB, 0, none⟩) hm).trans h.ct, (hb.frozen (p := ⟨TB, 0, none⟩) hm).trans h.ft, (hb.cell (p := ⟨W.heap.size, 0, none⟩) (show W.heap.size < m by omega)).trans h.cr, (hb.frozen (p := ⟨W.heap.size, 0, none⟩) (show W.heap.size < m by omega)).trans h.fr, h.tb, Nat.lt_of_lt_of_le h.lt hb.size, h.vt, h.vr⟩
  refine ⟨h.own.1, ?_⟩
  rcases h.own.2 with hn | ⟨g, cap, cur, rfl, hbg, hgg, rest⟩
  · exact .inl hn
  · exact .inr ⟨g, cap, cur, rfl, hbg, by rw [hb.block g (hv g rfl)]; exact hgg, rest⟩
theorem GR.put {W w : World} {k B TB lo : Nat} {v v' : Value} {ns ns' : List Nd} {s : Sr} (h : GR W k B TB v ns s w) (o : OwnN 84 w lo v' ns') (hlo : TB < lo) (hB : B ≤ TB) : GR W k B TB v' ns' s (w.setCell ⟨TB, 0, none⟩ v') := by
  have htb := h.tb
  have hne : v'.ownBlock ≠ some TB := fun e => by have := (World.ownsRow.lt o _ e).1; omega
  have hne2 : v'.ownBlock ≠ some W.heap.size := fun e => by have := (World.ownsRow.lt o _ e).1; omega
  refine ⟨h.src.keep ((Below.refl _ _).setCell hB _), h.tch.then ((Below.refl _ _).setCell (by show _ ≤ TB; omega) _), (OwnN.setO o hne _).mono (by omega), World.cell?_setCell_same _ _ _ h.ct, by rw [World.frozen?_setCell]; exact h.ft, (World.cell?_setCell_other _ _ _ _ (by intro e; injection e with e; omega)).trans h.cr, by rw [World.frozen?_setCell]; exact h.fr, h.tb, by simpa using h.lt, hne, hne2⟩
theorem rdO_one (w : World) (o : Op5) (t : TypeId) : RdO (w.alloc (.cells #[.int .i64 o.kind, .string o.path, .string o.data, .int .i64 o.ver, .bool o.seq] t)) (.slice (some ⟨w.heap.size, 0, none⟩) 1 1) [o] := by
  refine ⟨_, 1, rfl, Nat.le_refl _, by unfold maxLen; omega, .inr ⟨w.heap.size, 0, rfl, by simp, fun i hi => ?_⟩⟩
  obtain rfl : i = 0 := by simp at hi; omega
  have hc := fun j => cell_of (heap_alloc_new w (.cells #[.int .i64 o.kind, .string o.path, .string o.data, .int .i64 o.ver, .bool o.seq] t)) j
  refine ⟨?_, ?_, ?_, ?_, ?_⟩ <;> simp [hc, oAt]

set_option maxHeartbeats 4000000 in
set_option maxRecDepth 100000 in
theorem grow_x (W : World) (k B n : Nat) (s : Sr) (h : SRX W k B s) (hn : n ≤ 60) :
    Calls Tryd.prog 90 #[.pointer (some ⟨k, 0, none⟩), .int .i64 (n : Int)] W fun e w' => ∃ v, e = .returned (.tuple #[.agg #[v], .int .i64 ((s.grow n).2.1 : Int)]) ∧ OwnN 84 w' W.heap.size v (s.grow n).1 ∧ SRX w' k B (s.grow n).2.2 ∧ Tch k W w' := by
  have hk1 := h.kB
  have hk2 := h.lt
  have hkW : k < W.heap.size := by omega
  have HS : Hid (SRX W k B s) := h
  have HINV : Hid (∀ i, i ≤ 60 → Snd (s.grow i).1 ∧ (s.grow i).1.length ≤ i + 1 ∧ (s.grow i).2.1 ≤ i) := fun i hi => s.grow_inv i (by omega)
  have BR : Hid (Below W.heap.size W (W.alloc (.cells #[.slice none 0 0] 36))) := (Below.refl _ _).alloc (Nat.le_refl _) _
  clear h
  go_enter Tryd.func90, Tryd.ntmps90
  go_wp2_with fail
  refine (specNewTree_any _).mono ?_
  rintro e w1 ⟨rfl, n1, b1⟩
  have hsz : (W.alloc (.cells #[.slice none 0 0] 36)).heap.size = W.heap.size + 1 := by simp
  rw [hsz] at n1 b1 ⊢
  have s1 := n1.lt
  have c1 := (b1.cell (p := ⟨W.heap.size, 0, none⟩) (show W.heap.size < _ by omega)).trans (show (W.alloc (.cells #[.slice none 0 0] 36)).cell? ⟨W.heap.size, 0, none⟩ = some (.slice none 0 0) by simp)
  have f1 := (b1.frozen (p := ⟨W.heap.size, 0, none⟩) (show W.heap.size < _ by omega)).trans (show (W.alloc (.cells #[.slice none 0 0] 36)).frozen? ⟨W.heap.size, 0, none⟩ = false by simp)
  have bA : Below w1.heap.size w1 (w1.alloc (.cells #[.slice (some ⟨W.heap.size + 1 + 1, 0, none⟩) 1 1] 36)) := (Below.refl _ _).alloc (Nat.le_refl _) _
  have bW : Below W.heap.size W w1 := BR.out.trans (b1.mono (by omega))
  have G1 : Hid (GR W k B w1.heap.size (.slice (some ⟨W.heap.size + 1 + 1, 0, none⟩) 1 1) [rootN] s (w1.alloc (.cells #[.slice (some ⟨W.heap.size + 1 + 1, 0, none⟩) 1 1] 36))) := by
    refine ⟨HS.out.keep ((bW.trans (bA.mono (by omega))).mono hk2), Tch.of (bW.trans (bA.mono (by omega))), (ownN_root n1 (by omega)).below bA, by simp, by simp, (bA.cell (p := ⟨W.heap.size, 0, none⟩) (show W.heap.size < _ by omega)).trans c1, (bA.frozen (p := ⟨W.heap.size, 0, none⟩) (show W.heap.size < _ by omega)).trans f1, by omega, by simp, ?_, ?_⟩
    · simp [Value.ownBlock]; omega
    · simp [Value.ownBlock]; omega
  clear n1 b1 c1 f1 bA bW BR hsz
  go_wp2
  generalize w1.alloc (.cells #[.slice (some ⟨W.heap.size + 1 + 1, 0, none⟩) 1 1] 36) = w2 at *
  generalize w1.heap.size = TB at *
  go_loopw [7, 8] (fun z i wr => ∃ (j : Nat) (v : Value), j ≤ n ∧ i = .int .i64 j ∧ z = .int .i64 ((s.grow j).2.1 : Int) ∧ Hid (GR W k B TB v (s.grow j).1 (s.grow j).2.2 wr)) (fun _ i _ => n - (intOf i).toNat)
  case atStart => exact ⟨0, _, Nat.zero_le _, rfl, rfl, G1⟩
  case round =>
    clear G1
    obtain ⟨j, v, hj, rfl, rfl, HG⟩ := hrel
    obtain ⟨av, cv, rfl⟩ := HG.out.own.slice
    by_cases hlt : j < n
    · have hltI : (j : Int) < (n : Int) := by omega
      obtain ⟨hsnd, hlen, hzj⟩ := HINV.out j (by omega)
      have HSN : Hid (Snd (s.grow j).1) := hsnd
      have HST : Hid (s.grow (j + 1) = if (doO (s.grow j).1 ((s.grow j).2.2.gop (s.grow j).1 j).1 (((s.grow j).2.1 + 1 : Nat) : Int)).1 = 0
        then ((doO (s.grow j).1 ((s.grow j).2.2.gop (s.grow j).1 j).1 (((s.grow j).2.1 + 1 : Nat) : Int)).2.1, (s.grow j).2.1 + 1, ((s.grow j).2.2.gop (s.grow j).1 j).2)
        else ((s.grow j).1, (s.grow j).2.1, ((s.grow j).2.2.gop (s.grow j).1 j).2)) := rfl
      have HGS := (s.grow j).2.2.gop_size hsnd j
      have e1 : (((s.grow j).2.1 + 1 : Nat) : Int) = ((s.grow j).2.1 : Int) + 1 := by omega
      rw [e1] at HST
      have HPK : Hid (∀ o : Op5, okPrep (s.grow j).1 [o] (((s.grow j).2.1 : Int) + 1) = true) := by
        intro o
        unfold okPrep
        rw [okTree_snd.2 hsnd]
        simp
        omega
      have HND : Hid (∀ o : Op5, Snd (doO (s.grow j).1 o (((s.grow j).2.1 : Int) + 1)).2.1 ∧ (doO (s.grow j).1 o (((s.grow j).2.1 : Int) + 1)).2.1.length ≤ j + 2) := fun o => ⟨doO_snd hsnd o (by unfold okS; simp; omega), Nat.le_trans (doO_len hsnd.1 _ _) (by omega)⟩
      clear hsnd e1
      generalize s.grow j = q at *
      have ct := HG.out.ct
      go_wp2_with fail
      clear ct
      refine (op_x _ k B W.heap.size q.2.2 _ q.1 HG.out.src HG.out.own hkW (by omega) (fun i _ => (snd_sz HSN.out i).1)).mono ?_
      rintro e w3 ⟨rfl, s3, t3⟩
      have G3 : Hid (GR W k B TB (.slice av q.1.length cv) q.1 (q.2.2.op q.1).2 w3) := HG.out.next s3 t3 hkW
      have HGP : Hid (q.2.2.gop q.1 j = if j < 3 then (⟨1, ((q.2.2.op q.1).2.near q.1).1, ⟨#[120]⟩, 0, false⟩, ((q.2.2.op q.1).2.near q.1).2) else q.2.2.op q.1) := rfl
      have hBT : B ≤ TB := by have := HG.out.tb; omega
      clear s3 t3 HG
      generalize q.2.2.op q.1 = oq at *
      have bA : Below w3.heap.size w3 (w3.alloc (.cells #[.int .i64 oq.1.kind, .string oq.1.path, .string oq.1.data, .int .i64 oq.1.ver, .bool oq.1.seq] 176)) := (Below.refl _ _).alloc (Nat.le_refl _) _
      have G4 : Hid (GR W k B TB (.slice av q.1.length cv) q.1 oq.2 (w3.alloc (.cells #[.int .i64 oq.1.kind, .string oq.1.path, .string oq.1.data, .int .i64 oq.1.ver, .bool oq.1.seq] 176))) := G3.out.below bA hkW
      have X4 : Hid (BoxO (w3.alloc (.cells #[.int .i64 oq.1.kind, .string oq.1.path, .string oq.1.data, .int .i64 oq.1.ver, .bool oq.1.seq] 176)) w3.heap.size oq.1) := BoxO.new _ _ _
      have F4 : Hid (∀ i, (w3.alloc (.cells #[.int .i64 oq.1.kind, .string oq.1.path, .string oq.1.data, .int .i64 oq.1.ver, .bool oq.1.seq] 176)).frozen? ⟨w3.heap.size, i, none⟩ = false) := fun i => by simp
      have hOB : TB < w3.heap.size := G3.out.lt
      have HVB : Hid (∀ g, Value.ownBlock (.slice av q.1.length cv) = some g → g < w3.heap.size) := fun g e => (World.ownsRow.lt G3.out.own g e).2
      clear bA G3
      have ct := G4.out.ct
      by_cases h3 : j < 3
      · have h3I : (j : Int) < 3 := by omega
        rw [if_pos h3] at HGP
        go_wp2_with fail
        clear ct
        generalize w3.alloc (.cells #[.int .i64 oq.1.kind, .string oq.1.path, .string oq.1.data, .int .i64 oq.1.ver, .bool oq.1.seq] 176) = w4 at *
        generalize w3.heap.size = OB at *
        refine (near_x _ k B W.heap.size oq.2 _ q.1 G4.out.src G4.out.own hkW (by omega) (fun i _ => (snd_sz HSN.out i).1)).mono ?_
        rintro e w5 ⟨rfl, s5, t5⟩
        have G5 : Hid (GR W k B TB (.slice av q.1.length cv) q.1 (oq.2.near q.1).2 w5) := G4.out.next s5 t5 hkW
        have hkO : OB ≠ k := by have := G4.out.tb; omega
        have X5 : Hid (BoxO w5 OB oq.1) := by
          obtain ⟨xl, c0, c1, c2, c3, c4⟩ := X4.out
          have b := t5.2 OB hkO xl
          exact ⟨Nat.lt_of_lt_of_le xl t5.size, (World.cell?_of_block (w := w4) (a := ⟨OB, 0, none⟩) b).trans c0, (World.cell?_of_block (w := w4) (a := ⟨OB, 1, none⟩) b).trans c1, (World.cell?_of_block (w := w4) (a := ⟨OB, 2, none⟩) b).trans c2, (World.cell?_of_block (w := w4) (a := ⟨OB, 3, none⟩) b).trans c3, (World.cell?_of_block (w := w4) (a := ⟨OB, 4, none⟩) b).trans c4⟩
        have F5 : Hid (∀ i, w5.frozen? ⟨OB, i, none⟩ = false) := fun i => (World.frozen?_of_block (w := w4) (t5.2 OB hkO X4.out.1)).trans (F4.out i)
        clear s5 t5 G4 X4 F4
        generalize oq.2.near q.1 = pq at *
        obtain ⟨xl, c0, c1, c2, c3, c4⟩ := X5.out
        have f0 := F5.out 0
        have f1 := F5.out 1
        have f2 := F5.out 2
        have f3 := F5.out 3
        have f4 := F5.out 4
        have ct := G5.out.ct
        have hnTB : TB ≠ OB := by omega
        go_wp2_with fail
        have bS : Below OB w5 (((((w5.setCell ⟨OB, 0, none⟩ (.int .i64 1)).setCell ⟨OB, 1, none⟩ (.string pq.1)).setCell ⟨OB, 2, none⟩ (.string ⟨#[120]⟩)).setCell ⟨OB, 3, none⟩ (.int .i64 0)).setCell ⟨OB, 4, none⟩ (.bool false)) := by
          iterate 5 refine Below.setCell ?_ (by show OB ≤ OB; exact Nat.le_refl _) _
          exact Below.refl _ _
        have G6 : Hid (GR W k B TB (.slice av q.1.length cv) q.1 pq.2 (((((w5.setCell ⟨OB, 0, none⟩ (.int .i64 1)).setCell ⟨OB, 1, none⟩ (.string pq.1)).setCell ⟨OB, 2, none⟩ (.string ⟨#[120]⟩)).setCell ⟨OB, 3, none⟩ (.int .i64 0)).setCell ⟨OB, 4, none⟩ (.bool false))) := G5.out.far bS hOB hBT HVB.out
        have hs6 : (((((w5.setCell ⟨OB, 0, none⟩ (.int .i64 1)).setCell ⟨OB, 1, none⟩ (.string pq.1)).setCell ⟨OB, 2, none⟩ (.string ⟨#[120]⟩)).setCell ⟨OB, 3, none⟩ (.int .i64 0)).setCell ⟨OB, 4, none⟩ (.bool false)).heap.size = w5.heap.size := by simp
        rw [← hs6]
        clear bS xl c0 c1 c2 c3 c4 f0 f1 f2 f3 f4 ct G5 X5 F5
        generalize ((((w5.setCell ⟨OB, 0, none⟩ (.int .i64 1)).setCell ⟨OB, 1, none⟩ (.string pq.1)).setCell ⟨OB, 2, none⟩ (.string ⟨#[120]⟩)).setCell ⟨OB, 3, none⟩ (.int .i64 0)).setCell ⟨OB, 4, none⟩ (.bool false) = w6 at *
        have HGO : Hid (q.2.2.gop q.1 j = (⟨1, pq.1, ⟨#[120]⟩, 0, false⟩, pq.2)) := HGP.out
        have hsz1 : (⟨1, pq.1, ⟨#[120]⟩, 0, false⟩ : Op5).path.size ≤ 2000 ∧ (⟨1, pq.1, ⟨#[120]⟩, 0, false⟩ : Op5).data.size ≤ 64 := by
          rw [HGO.out] at HGS; exact HGS
        rw [HGO.out] at HST
        have HDD : Hid (Snd (doO q.1 ⟨1, pq.1, ⟨#[120]⟩, 0, false⟩ ((q.2.1 : Int) + 1)).2.1 ∧ (doO q.1 ⟨1, pq.1, ⟨#[120]⟩, 0, false⟩ ((q.2.1 : Int) + 1)).2.1.length ≤ j + 2) := HND.out ⟨1, pq.1, ⟨#[120]⟩, 0, false⟩
        have CP := fun W' v' (hv : RdN W' v' q.1) (vo : Value) (ho : RdO W' vo [⟨1, pq.1, ⟨#[120]⟩, 0, false⟩]) => specPrep_ok W' v' vo q.1 [⟨1, pq.1, ⟨#[120]⟩, 0, false⟩] ((q.2.1 : Int) + 1) hv ho (fun i hi => by
          obtain rfl : i = 0 := by simp at hi; omega
          show (⟨1, pq.1, ⟨#[120]⟩, 0, false⟩ : Op5).path.size ≤ _ ∧ (⟨1, pq.1, ⟨#[120]⟩, 0, false⟩ : Op5).data.size ≤ _
          omega) (HPK.out _)
        have HRO : Hid (runO ((q.2.1 : Int) + 1) [⟨1, pq.1, ⟨#[120]⟩, 0, false⟩] q.1 0 [] = if (doO q.1 ⟨1, pq.1, ⟨#[120]⟩, 0, false⟩ ((q.2.1 : Int) + 1)).1 ≠ 0 then ((doO q.1 ⟨1, pq.1, ⟨#[120]⟩, 0, false⟩ ((q.2.1 : Int) + 1)).1, 0, q.1, []) else (0, 1, (doO q.1 ⟨1, pq.1, ⟨#[120]⟩, 0, false⟩ ((q.2.1 : Int) + 1)).2.1, [(doO q.1 ⟨1, pq.1, ⟨#[120]⟩, 0, false⟩ ((q.2.1 : Int) + 1)).2.2])) := runO_one _ _ _
        have RO := rdO_one w6 ⟨1, pq.1, ⟨#[120]⟩, 0, false⟩ 176
        have b7 : Below w6.heap.size w6 (w6.alloc (.cells #[.int .i64 (⟨1, pq.1, ⟨#[120]⟩, 0, false⟩ : Op5).kind, .string (⟨1, pq.1, ⟨#[120]⟩, 0, false⟩ : Op5).path, .string (⟨1, pq.1, ⟨#[120]⟩, 0, false⟩ : Op5).data, .int .i64 (⟨1, pq.1, ⟨#[120]⟩, 0, false⟩ : Op5).ver, .bool (⟨1, pq.1, ⟨#[120]⟩, 0, false⟩ : Op5).seq] 176)) := (Below.refl _ _).alloc (Nat.le_refl _) _
        have G7 : Hid (GR W k B TB (.slice av q.1.length cv) q.1 pq.2 (w6.alloc (.cells #[.int .i64 (⟨1, pq.1, ⟨#[120]⟩, 0, false⟩ : Op5).kind, .string (⟨1, pq.1, ⟨#[120]⟩, 0, false⟩ : Op5).path, .string (⟨1, pq.1, ⟨#[120]⟩, 0, false⟩ : Op5).data, .int .i64 (⟨1, pq.1, ⟨#[120]⟩, 0, false⟩ : Op5).ver, .bool (⟨1, pq.1, ⟨#[120]⟩, 0, false⟩ : Op5).seq] 176))) := G6.out.below b7 hkW
        try dsimp only at RO b7 G7
        have CC := CP _ _ G7.out.own.rd _ RO
        clear CP RO b7
        generalize w6.alloc (.cells #[_, _, _, _, _] 176) = w7 at *
        refine CC.mono ?_
        rintro e w8 ⟨b8, hres⟩
        clear CC
        rw [HRO.out] at hres
        have G8 : Hid (GR W k B TB (.slice av q.1.length cv) q.1 pq.2 w8) := G7.out.below b8 hkW
        clear G6 G7 b8 HRO HGO HND HPK
        generalize doO q.1 ⟨1, pq.1, ⟨#[120]⟩, 0, false⟩ ((q.2.1 : Int) + 1) = dd at *
        by_cases hd : dd.1 = 0
        · rw [if_neg (by simpa using hd)] at hres
          rw [if_pos hd] at HST
          rcases hres with ⟨hne, -⟩ | ⟨-, vn, ve, rfl, on, oe⟩
          · exact absurd rfl hne
          obtain ⟨ea, ec, rfl, _, _⟩ := (OwnE.rd oe).len
          obtain ⟨na, nl, nc, rfl⟩ : ∃ a n c, vn = .slice a n c := by
            rcases on.2 with ⟨rfl, -⟩ | ⟨g, cap, cur, rfl, -⟩
            · exact ⟨_, _, _, rfl⟩
            · exact ⟨_, _, _, rfl⟩
          have bA : Below w8.heap.size w8 (w8.alloc (.cells #[.int .i64 0, .int .i64 0, .slice na nl nc, .int .i64 ((q.2.1 : Int) + 1), .slice ea (dif q.1 dd.2.1).length ec] 181)) := (Below.refl _ _).alloc (Nat.le_refl _) _
          have G9 : Hid (GR W k B TB (.slice av q.1.length cv) q.1 pq.2 (w8.alloc (.cells #[.int .i64 0, .int .i64 0, .slice na nl nc, .int .i64 ((q.2.1 : Int) + 1), .slice ea (dif q.1 dd.2.1).length ec] 181))) := G8.out.below bA hkW
          have E9 : Hid (RdE (w8.alloc (.cells #[.int .i64 0, .int .i64 0, .slice na nl nc, .int .i64 ((q.2.1 : Int) + 1), .slice ea (dif q.1 dd.2.1).length ec] 181)) (.slice ea (dif q.1 dd.2.1).length ec) (dif q.1 dd.2.1)) := (OwnE.rd oe).below bA
          have HSZ9 : Hid (∀ i, (eAt (dif q.1 dd.2.1) i).nd.path.size ≤ 1048576 ∧ (eAt (dif q.1 dd.2.1) i).nd.data.size ≤ 1048576) := dif_sz HSN.out HDD.out.1
          have HRA : Hid (resA q.1 ((q.2.1 : Int) + 1) (dif q.1 dd.2.1) = dd.2.1) := resA_dif HSN.out HDD.out.1 (by have := HDD.out.2; omega) (by omega)
          have ct := G9.out.ct
          clear on oe bA G8
          generalize dif q.1 dd.2.1 = DF at *
          go_wp2_with fail
          clear ct
          refine (specApply_any _ _ q.1 ((q.2.1 : Int) + 1) _ DF G9.out.own.rd E9.out (by omega) (fun i => by have := snd_sz HSN.out i; omega) HSZ9.out).mono ?_
          rintro e w10 ⟨v10, rfl, o10, b10⟩
          rw [HRA.out] at o10
          have G10 : Hid (GR W k B TB (.slice av q.1.length cv) q.1 pq.2 w10) := G9.out.below b10 hkW
          have HL9 : TB < (w8.alloc (.cells #[.int .i64 0, .int .i64 0, .slice na nl nc, .int .i64 ((q.2.1 : Int) + 1), .slice ea DF.length ec] 181)).heap.size := G9.out.lt
          have G11 : Hid (GR W k B TB v10 dd.2.1 pq.2 (w10.setCell ⟨TB, 0, none⟩ v10)) := G10.out.put o10 HL9 hBT
          have ct := G10.out.ct
          have ft := G10.out.ft
          obtain ⟨a10, c10, rfl⟩ := OwnN.slice9 o10
          clear o10 b10 G9 E9 G10 HL9 HRA HSZ9
          go_wp2
          go_roundw
          case rel => exact ⟨j + 1, _, by omega, by go_num, by rw [HST.out]; go_num, by rw [HST.out]; exact G11⟩
          case measure => simp [intOf]; omega
        · rw [if_pos (by simpa using hd)] at hres
          rw [if_neg hd] at HST
          rcases hres with ⟨-, rfl⟩ | ⟨heq, -⟩
          rotate_left
          · exact absurd heq hd
          have bA : Below w8.heap.size w8 (w8.alloc (.cells #[.int .i64 dd.1, .int .i64 0, .slice none 0 0, .int .i64 0, .slice none 0 0] 181)) := (Below.refl _ _).alloc (Nat.le_refl _) _
          have G9 : Hid (GR W k B TB (.slice av q.1.length cv) q.1 pq.2 (w8.alloc (.cells #[.int .i64 dd.1, .int .i64 0, .slice none 0 0, .int .i64 0, .slice none 0 0] 181))) := G8.out.below bA hkW
          have hdb : (dd.1 == 0) = false := by simpa using hd
          clear bA G8
          go_wp2
          go_roundw
          case rel => exact ⟨j + 1, _, by omega, by go_num, by rw [HST.out], by rw [HST.out]; exact G9⟩
          case measure => simp [intOf]; omega
      · have h3I : ¬ (j : Int) < 3 := by omega
        rw [if_neg h3] at HGP
        obtain ⟨xl, c0, c1, c2, c3, c4⟩ := X4.out
        have HG6 : Hid (GR W k B TB (.slice av q.1.length cv) q.1 oq.2 (w3.alloc (.cells #[.int .i64 oq.1.kind, .string oq.1.path, .string oq.1.data, .int .i64 oq.1.ver, .bool oq.1.seq] 176))) := G4.out
        go_wp2_with fail
        have G6 := HG6
        clear ct xl c0 c1 c2 c3 c4 G4 X4 F4 HG6
        have hs6 : (w3.alloc (.cells #[.int .i64 oq.1.kind, .string oq.1.path, .string oq.1.data, .int .i64 oq.1.ver, .bool oq.1.seq] 176)).heap.size = w3.heap.size + 1 := by simp
        rw [← hs6]
        generalize w3.alloc (.cells #[.int .i64 oq.1.kind, .string oq.1.path, .string oq.1.data, .int .i64 oq.1.ver, .bool oq.1.seq] 176) = w6 at *
        have HGO : Hid (q.2.2.gop q.1 j = (oq.1, oq.2)) := HGP.out
        have hsz1 : (oq.1 : Op5).path.size ≤ 2000 ∧ (oq.1 : Op5).data.size ≤ 64 := by
          rw [HGO.out] at HGS; exact HGS
        rw [HGO.out] at HST
        have HDD : Hid (Snd (doO q.1 oq.1 ((q.2.1 : Int) + 1)).2.1 ∧ (doO q.1 oq.1 ((q.2.1 : Int) + 1)).2.1.length ≤ j + 2) := HND.out oq.1
        have CP := fun W' v' (hv : RdN W' v' q.1) (vo : Value) (ho : RdO W' vo [oq.1]) => specPrep_ok W' v' vo q.1 [oq.1] ((q.2.1 : Int) + 1) hv ho (fun i hi => by
          obtain rfl : i = 0 := by simp at hi; omega
          show (oq.1 : Op5).path.size ≤ _ ∧ (oq.1 : Op5).data.size ≤ _
          omega) (HPK.out _)
        have HRO : Hid (runO ((q.2.1 : Int) + 1) [oq.1] q.1 0 [] = if (doO q.1 oq.1 ((q.2.1 : Int) + 1)).1 ≠ 0 then ((doO q.1 oq.1 ((q.2.1 : Int) + 1)).1, 0, q.1, []) else (0, 1, (doO q.1 oq.1 ((q.2.1 : Int) + 1)).2.1, [(doO q.1 oq.1 ((q.2.1 : Int) + 1)).2.2])) := runO_one _ _ _
        have RO := rdO_one w6 oq.1 176
        have b7 : Below w6.heap.size w6 (w6.alloc (.cells #[.int .i64 (oq.1 : Op5).kind, .string (oq.1 : Op5).path, .string (oq.1 : Op5).data, .int .i64 (oq.1 : Op5).ver, .bool (oq.1 : Op5).seq] 176)) := (Below.refl _ _).alloc (Nat.le_refl _) _
        have G7 : Hid (GR W k B TB (.slice av q.1.length cv) q.1 oq.2 (w6.alloc (.cells #[.int .i64 (oq.1 : Op5).kind, .string (oq.1 : Op5).path, .string (oq.1 : Op5).data, .int .i64 (oq.1 : Op5).ver, .bool (oq.1 : Op5).seq] 176))) := G6.out.below b7 hkW
        try dsimp only at RO b7 G7
        have CC := CP _ _ G7.out.own.rd _ RO
        clear CP RO b7
        generalize w6.alloc (.cells #[_, _, _, _, _] 176) = w7 at *
        refine CC.mono ?_
        rintro e w8 ⟨b8, hres⟩
        clear CC
        rw [HRO.out] at hres
        have G8 : Hid (GR W k B TB (.slice av q.1.length cv) q.1 oq.2 w8) := G7.out.below b8 hkW
        clear G6 G7 b8 HRO HGO HND HPK
        generalize doO q.1 oq.1 ((q.2.1 : Int) + 1) = dd at *
        by_cases hd : dd.1 = 0
        · rw [if_neg (by simpa using hd)] at hres
          rw [if_pos hd] at HST
          rcases hres with ⟨hne, -⟩ | ⟨-, vn, ve, rfl, on, oe⟩
          · exact absurd rfl hne
          obtain ⟨ea, ec, rfl, _, _⟩ := (OwnE.rd oe).len
          obtain ⟨na, nl, nc, rfl⟩ : ∃ a n c, vn = .slice a n c := by
            rcases on.2 with ⟨rfl, -⟩ | ⟨g, cap, cur, rfl, -⟩
            · exact ⟨_, _, _, rfl⟩
            · exact ⟨_, _, _, rfl⟩
          have bA : Below w8.heap.size w8 (w8.alloc (.cells #[.int .i64 0, .int .i64 0, .slice na nl nc, .int .i64 ((q.2.1 : Int) + 1), .slice ea (dif q.1 dd.2.1).length ec] 181)) := (Below.refl _ _).alloc (Nat.le_refl _) _
          have G9 : Hid (GR W k B TB (.slice av q.1.length cv) q.1 oq.2 (w8.alloc (.cells #[.int .i64 0, .int .i64 0, .slice na nl nc, .int .i64 ((q.2.1 : Int) + 1), .slice ea (dif q.1 dd.2.1).length ec] 181))) := G8.out.below bA hkW
          have E9 : Hid (RdE (w8.alloc (.cells #[.int .i64 0, .int .i64 0, .slice na nl nc, .int .i64 ((q.2.1 : Int) + 1), .slice ea (dif q.1 dd.2.1).length ec] 181)) (.slice ea (dif q.1 dd.2.1).length ec) (dif q.1 dd.2.1)) := (OwnE.rd oe).below bA
          have HSZ9 : Hid (∀ i, (eAt (dif q.1 dd.2.1) i).nd.path.size ≤ 1048576 ∧ (eAt (dif q.1 dd.2.1) i).nd.data.size ≤ 1048576) := dif_sz HSN.out HDD.out.1
          have HRA : Hid (resA q.1 ((q.2.1 : Int) + 1) (dif q.1 dd.2.1) = dd.2.1) := resA_dif HSN.out HDD.out.1 (by have := HDD.out.2; omega) (by omega)
          have ct := G9.out.ct
          clear on oe bA G8
          generalize dif q.1 dd.2.1 = DF at *
          go_wp2_with fail
          clear ct
          refine (specApply_any _ _ q.1 ((q.2.1 : Int) + 1) _ DF G9.out.own.rd E9.out (by omega) (fun i => by have := snd_sz HSN.out i; omega) HSZ9.out).mono ?_
          rintro e w10 ⟨v10, rfl, o10, b10⟩
          rw [HRA.out] at o10
          have G10 : Hid (GR W k B TB (.slice av q.1.length cv) q.1 oq.2 w10) := G9.out.below b10 hkW
          have HL9 : TB < (w8.alloc (.cells #[.int .i64 0, .int .i64 0, .slice na nl nc, .int .i64 ((q.2.1 : Int) + 1), .slice ea DF.length ec] 181)).heap.size := G9.out.lt
          have G11 : Hid (GR W k B TB v10 dd.2.1 oq.2 (w10.setCell ⟨TB, 0, none⟩ v10)) := G10.out.put o10 HL9 hBT
          have ct := G10.out.ct
          have ft := G10.out.ft
          obtain ⟨a10, c10, rfl⟩ := OwnN.slice9 o10
          clear o10 b10 G9 E9 G10 HL9 HRA HSZ9
          go_wp2
          go_roundw
          case rel => exact ⟨j + 1, _, by omega, by go_num, by rw [HST.out]; go_num, by rw [HST.out]; exact G11⟩
          case measure => simp [intOf]; omega
        · rw [if_pos (by simpa using hd)] at hres
          rw [if_neg hd] at HST
          rcases hres with ⟨-, rfl⟩ | ⟨heq, -⟩
          rotate_left
          · exact absurd heq hd
          have bA : Below w8.heap.size w8 (w8.alloc (.cells #[.int .i64 dd.1, .int .i64 0, .slice none 0 0, .int .i64 0, .slice none 0 0] 181)) := (Below.refl _ _).alloc (Nat.le_refl _) _
          have G9 : Hid (GR W k B TB (.slice av q.1.length cv) q.1 oq.2 (w8.alloc (.cells #[.int .i64 dd.1, .int .i64 0, .slice none 0 0, .int .i64 0, .slice none 0 0] 181))) := G8.out.below bA hkW
          have hdb : (dd.1 == 0) = false := by simpa using hd
          clear bA G8
          go_wp2
          go_roundw
          case rel => exact ⟨j + 1, _, by omega, by go_num, by rw [HST.out], by rw [HST.out]; exact G9⟩
          case measure => simp [intOf]; omega
    · have hjn : j = n := by omega
      subst hjn
      have ct := HG.out.ct
      have cr := HG.out.cr
      have fr := HG.out.fr
      have hne : TB ≠ W.heap.size := by have := HG.out.tb; omega
      have F : Hid (OwnN 84 (wr.setCell ⟨W.heap.size, 0, none⟩ (.slice av (s.grow j).1.length cv)) W.heap.size (.slice av (s.grow j).1.length cv) (s.grow j).1 ∧ SRX (wr.setCell ⟨W.heap.size, 0, none⟩ (.slice av (s.grow j).1.length cv)) k B (s.grow j).2.2 ∧ Tch k W (wr.setCell ⟨W.heap.size, 0, none⟩ (.slice av (s.grow j).1.length cv))) :=
        ⟨OwnN.setO HG.out.own HG.out.vr _, HG.out.src.keep ((Below.refl _ _).setCell hk2 _), HG.out.tch.then ((Below.refl _ _).setCell (by show W.heap.size ≤ W.heap.size; exact Nat.le_refl _) _)⟩
      clear HG
      go_wp2
      exact bodyPost_ret (v := .tuple #[.agg #[.slice av (s.grow j).1.length cv], .int .i64 ((s.grow j).2.1 : Int)]) (by simp [results, Tryd.results90, go_sem, cr]) rfl ⟨_, rfl, F.out.1, F.out.2.1, F.out.2.2⟩

end Go.Proofs.YtcopcegamadkgaaDoor

namespace Go.Proofs.YtcopcegamadkgaaDoor
open Go.RowKit Go.Shelf

/-- A node of a wide tree. -/
def widO (i : Nat) : Nd := ⟨⟨#[47, 110]⟩ ++ ⟨(six 5 i 4).toArray⟩, ByteArray.empty, 0, 0, 0, 0, 0⟩
/-- The root and so many nodes below it. -/
def widN : Nat → List Nd
  | 0 => [rootN]
  | n + 1 => widN n ++ [widO (n + 1)]
theorem widN_len : ∀ n, (widN n).length = n + 1
  | 0 => rfl
  | n + 1 => by show (widN n ++ [_]).length = _; rw [List.length_append, widN_len n]; rfl

/-- What a wide tree's making holds. -/
structure WD (W : World) (TB : Nat) (v : Value) (ns : List Nd) (w : World) : Prop where
  bel : Below W.heap.size W w
  own : OwnN 84 w W.heap.size v ns
  ct : w.cell? ⟨TB, 0, none⟩ = some v
  ft : w.frozen? ⟨TB, 0, none⟩ = false
  cr : w.cell? ⟨W.heap.size, 0, none⟩ = some (.slice none 0 0)
  fr : w.frozen? ⟨W.heap.size, 0, none⟩ = false
  tb : W.heap.size < TB
  lt : TB < w.heap.size
  vt : v.ownBlock ≠ some TB
  vr : v.ownBlock ≠ some W.heap.size
theorem WD.push {W w w' w4 : World} {TB g cap : Nat} {v : Value} {ns : List Nd} {n : Nd} {ob : Obj} (h : WD W TB v ns w) (bw : Below w.heap.size w w') (ho : w4.ownsRow W.heap.size 84 7 (.slice (some ⟨g, 0, none⟩) (ns.length + 1) cap) (ns.length + 1) (nrow ns ++ ndL n)) (hg : (w'.alloc ob).grownBy w4 v.ownBlock) (hat : v.ownBlock = some g ∨ g = w'.heap.size + 1) :
    WD W TB (.slice (some ⟨g, 0, none⟩) (ns.length + 1) cap) (ns ++ [n]) (w4.setCell ⟨TB, 0, none⟩ (.slice (some ⟨g, 0, none⟩) (ns.length + 1) cap)) ∧ w4.cell? ⟨TB, 0, none⟩ = some v ∧ w4.frozen? ⟨TB, 0, none⟩ = false := by
  have G : w'.grownBy w4 v.ownBlock := World.grownBy.trans (World.grownBy_alloc w' ob _) hg
  have htb := h.tb
  have hlt := h.lt
  have hs := bw.size
  have hs4 := G.size
  have B4 : Below W.heap.size w' w4 := ⟨G.os, G.tape, G.output, G.size, fun q hq => G.block q (by omega) (fun e => by have := (World.ownsRow.lt h.own q e.symm).1; omega)⟩
  have q1 : w4.cell? ⟨TB, 0, none⟩ = some v := (G.cell_far ⟨TB, 0, none⟩ (by show TB < _; omega) (fun e => h.vt e.symm)).trans ((bw.cell (p := ⟨TB, 0, none⟩) hlt).trans h.ct)
  have q2 : w4.frozen? ⟨TB, 0, none⟩ = false := (G.frozen_far ⟨TB, 0, none⟩ (by show TB < _; omega) (fun e => h.vt e.symm)).trans ((bw.frozen (p := ⟨TB, 0, none⟩) hlt).trans h.ft)
  have q3 : w4.cell? ⟨W.heap.size, 0, none⟩ = some (.slice none 0 0) := (G.cell_far ⟨W.heap.size, 0, none⟩ (by show W.heap.size < _; omega) (fun e => h.vr e.symm)).trans ((bw.cell (p := ⟨W.heap.size, 0, none⟩) (by show W.heap.size < _; omega)).trans h.cr)
  have q4 : w4.frozen? ⟨W.heap.size, 0, none⟩ = false := (G.frozen_far ⟨W.heap.size, 0, none⟩ (by show W.heap.size < _; omega) (fun e => h.vr e.symm)).trans ((bw.frozen (p := ⟨W.heap.size, 0, none⟩) (by show W.heap.size < _; omega)).trans h.fr)
  have hne : Value.ownBlock (.slice (some ⟨g, 0, none⟩) (ns.length + 1) cap) ≠ some TB := by
    rcases hat with e | e
    · rw [show Value.ownBlock (.slice (some ⟨g, 0, none⟩) (ns.length + 1) cap) = some g from rfl, ← e]; exact h.vt
    · simp [Value.ownBlock]; omega
  have hne2 : Value.ownBlock (.slice (some ⟨g, 0, none⟩) (ns.length + 1) cap) ≠ some W.heap.size := by
    rcases hat with e | e
    · rw [show Value.ownBlock (.slice (some ⟨g, 0, none⟩) (ns.length + 1) cap) = some g from rfl, ← e]; exact h.vr
    · simp [Value.ownBlock]; omega
  have ho' : OwnN 84 w4 W.heap.size (.slice (some ⟨g, 0, none⟩) (ns.length + 1) cap) (ns ++ [n]) := by
    unfold OwnN
    rw [List.length_append, nrow_one]
    exact ho
  refine ⟨⟨(h.bel.trans ((bw.mono (by omega)).trans B4)).setCell (by show _ ≤ TB; omega) _, OwnN.setO ho' hne _, World.cell?_setCell_same _ _ _ q1, by rw [World.frozen?_setCell]; exact q2, (World.cell?_setCell_other _ _ _ _ (by intro e; injection e with e; omega)).trans q3, by rw [World.frozen?_setCell]; exact q4, htb, by simp; omega, hne, hne2⟩, q1, q2⟩

set_option maxHeartbeats 4000000 in
set_option maxRecDepth 100000 in
theorem wide_x (W : World) (N : Nat) (h1 : 1 ≤ N) (hN : N ≤ 1001) :
    Calls Tryd.prog 92 #[.int .i64 (N : Int)] W fun e w' => ∃ v, e = .returned (.agg #[v]) ∧ OwnN 84 w' W.heap.size v (widN (N - 1)) ∧ Below W.heap.size W w' := by
  obtain ⟨i0, hi, hz0, hz1, hz2⟩ := info_parts Tryd.infoN
  have BR : Hid (Below W.heap.size W (W.alloc (.cells #[.slice none 0 0] 36))) := (Below.refl _ _).alloc (Nat.le_refl _) _
  go_enter Tryd.func92, Tryd.ntmps92
  go_wp2_with fail
  refine (specNewTree_any _).mono ?_
  rintro e w1 ⟨rfl, n1, b1⟩
  have hsz : (W.alloc (.cells #[.slice none 0 0] 36)).heap.size = W.heap.size + 1 := by simp
  rw [hsz] at n1 b1 ⊢
  have s1 := n1.lt
  have c1 := (b1.cell (p := ⟨W.heap.size, 0, none⟩) (show W.heap.size < _ by omega)).trans (show (W.alloc (.cells #[.slice none 0 0] 36)).cell? ⟨W.heap.size, 0, none⟩ = some (.slice none 0 0) by simp)
  have f1 := (b1.frozen (p := ⟨W.heap.size, 0, none⟩) (show W.heap.size < _ by omega)).trans (show (W.alloc (.cells #[.slice none 0 0] 36)).frozen? ⟨W.heap.size, 0, none⟩ = false by simp)
  have bA : Below w1.heap.size w1 (w1.alloc (.cells #[.slice (some ⟨W.heap.size + 1 + 1, 0, none⟩) 1 1] 36)) := (Below.refl _ _).alloc (Nat.le_refl _) _
  have bW : Below W.heap.size W w1 := BR.out.trans (b1.mono (by omega))
  have G1 : Hid (WD W w1.heap.size (.slice (some ⟨W.heap.size + 1 + 1, 0, none⟩) 1 1) [rootN] (w1.alloc (.cells #[.slice (some ⟨W.heap.size + 1 + 1, 0, none⟩) 1 1] 36))) := by
    refine ⟨bW.trans (bA.mono (by omega)), (ownN_root n1 (by omega)).below bA, by simp, by simp, (bA.cell (p := ⟨W.heap.size, 0, none⟩) (show W.heap.size < _ by omega)).trans c1, (bA.frozen (p := ⟨W.heap.size, 0, none⟩) (show W.heap.size < _ by omega)).trans f1, by omega, by simp, ?_, ?_⟩
    · simp [Value.ownBlock]; omega
    · simp [Value.ownBlock]; omega
  clear n1 b1 c1 f1 bA bW BR hsz
  go_wp2
  generalize w1.alloc (.cells #[.slice (some ⟨W.heap.size + 1 + 1, 0, none⟩) 1 1] 36) = w2 at *
  generalize w1.heap.size = TB at *
  go_loopw [4] (fun i wr => ∃ (j : Nat) (v : Value), j + 1 ≤ N ∧ i = .int .i64 ((j : Int) + 1) ∧ Hid (WD W TB v (widN j) wr)) (fun i _ => N - (intOf i).toNat)
  case atStart => exact ⟨0, _, by omega, rfl, G1⟩
  case round =>
    clear G1
    obtain ⟨j, v, hj, rfl, HG⟩ := hrel
    obtain ⟨av, cv, rfl⟩ := OwnN.slice9 HG.out.own
    by_cases hlt : j + 1 < N
    · have hltI : (j : Int) + 1 < (N : Int) := by omega
      have HNX : Hid (widN (j + 1) = widN j ++ [widO (j + 1)]) := rfl
      have hwl : (widN j).length ≤ 1001 := by rw [widN_len j]; omega
      have HWO : Hid (widO (j + 1) = ⟨⟨#[47, 110]⟩ ++ ⟨(six 5 (j + 1) 4).toArray⟩, ByteArray.empty, 0, 0, 0, 0, 0⟩) := rfl
      generalize widN j = ns at *
      have ct := HG.out.ct
      have ft := HG.out.ft
      have zr := HG.out.lt
      have HCL : Hid (Calls Tryd.prog 126 #[.int .i64 ((j : Int) + 1), .int .i64 4] wr.drew fun e w' => e = .returned (.string ⟨(six 5 (j + 1) 4).toArray⟩) ∧ w'.cell? ⟨TB, 0, none⟩ = some (.slice av ns.length cv) ∧ w'.frozen? ⟨TB, 0, none⟩ = false ∧ (∀ ob, (w'.alloc ob).cell? ⟨TB, 0, none⟩ = some (.slice av ns.length cv)) ∧ Hid (Below wr.heap.size wr w')) := by
        have hh := l3Six_any 4 wr.drew (j + 1) 4 (by omega) (by omega) (by omega) (by decide) (by omega) (by omega)
        rw [show ((j + 1 : Nat) : Int) = (j : Int) + 1 by omega] at hh
        refine hh.mono ?_
        rintro e w' ⟨rfl, b⟩
        have bb : Below wr.heap.size wr w' := (below_drewN' wr 1).trans b
        have q1 := (bb.cell (p := ⟨TB, 0, none⟩) HG.out.lt).trans HG.out.ct
        refine ⟨rfl, q1, (bb.frozen (p := ⟨TB, 0, none⟩) HG.out.lt).trans HG.out.ft, fun ob => ?_, bb⟩
        have ba : Below w'.heap.size w' (w'.alloc ob) := (Below.refl _ _).alloc (Nat.le_refl _) _
        exact (ba.cell (p := ⟨TB, 0, none⟩) (Nat.lt_of_lt_of_le HG.out.lt bb.size)).trans q1
      have hsl := six_len 5 (j + 1) 4
      have HOW : Hid (∀ W' ob, Below wr.heap.size wr W' → (World.alloc W' ob).ownsRow W.heap.size 84 7 (.slice av ns.length cv) ns.length (nrow ns)) := fun W' ob hW' => World.ownsRow.alloc (HG.out.own.below hW') ob
      have HBS : Hid (∀ W', Below wr.heap.size wr W' → W.heap.size ≤ W'.heap.size) := fun W' hW' => by have := HG.out.tb; have := hW'.size; show _ ≤ _; omega
      generalize six 5 (j + 1) 4 = L at *
      have hL9 : ¬ 9223372036854775807 < 2 + L.length := by omega
      go_wp2_with fail
      go_region_law (first
        | (refine step_append_lies _ (by rfl) _ _ _ (by rfl) W.heap.size 84 i0 _ 7 72 Tryd.underlying34 hi hz0 hz1 hz2 rfl (by omega) (.slice av ns.length cv) ns.length (nrow ns) (by rfl) (HOW.out w' _ bw.out) ⟨w'.heap.size, 0, none⟩ 1 1 (ndL ⟨⟨#[47, 110]⟩ ++ ⟨L.toArray⟩, ByteArray.empty, 0, 0, 0, 0, 0⟩) (by rfl) (by rfl) (ndL_cells w' ⟨⟨#[47, 110]⟩ ++ ⟨L.toArray⟩, ByteArray.empty, 0, 0, 0, 0, 0⟩ _) (ndL_one _)
            (by omega) (by unfold maxLen; omega) (by omega) (by have := HBS.out w' bw.out; simp; omega) (w'.heap.size + 1) (by simp) ?_; intro g4 cap4 w4 ho4 hg4 hat4 hlt4; obtain ⟨P4, q4, q5⟩ := HG.out.push bw.out ho4 hg4 hat4)
        | (go_simp; go_at_call 126; refine HCL.out.mono ?_; rintro e w' ⟨rfl, k4, k5, k6, bw⟩))
      all_goals
        have HP : Hid (WD W TB (.slice (some ⟨g4, 0, none⟩) (ns.length + 1) cap4) (widN (j + 1)) (w4.setCell ⟨TB, 0, none⟩ (.slice (some ⟨g4, 0, none⟩) (ns.length + 1) cap4))) := by
          rw [HNX.out, HWO.out]; exact P4
        clear P4 q4 q5 ho4 hg4 hat4 hlt4 k4 k5 k6 bw HG HOW HBS HCL ct ft
        go_wp2
        go_roundw
        case rel => exact ⟨j + 1, _, by omega, by go_num, HP⟩
        case measure => simp [intOf]; omega
    · have hjn : j + 1 = N := by omega
      have hjI : (j : Int) + 1 = (N : Int) := by omega
      have HJ : Hid (N - 1 = j) := by show _ = _; omega
      have hltI : ¬ (j : Int) + 1 < (N : Int) := by omega
      have ct := HG.out.ct
      have cr := HG.out.cr
      have fr := HG.out.fr
      have F : Hid (OwnN 84 (wr.setCell ⟨W.heap.size, 0, none⟩ (.slice av (widN j).length cv)) W.heap.size (.slice av (widN j).length cv) (widN (N - 1)) ∧ Below W.heap.size W (wr.setCell ⟨W.heap.size, 0, none⟩ (.slice av (widN j).length cv))) := by
        rw [HJ.out]
        exact ⟨OwnN.setO HG.out.own HG.out.vr _, HG.out.bel.setCell (by show W.heap.size ≤ W.heap.size; exact Nat.le_refl _) _⟩
      clear HG hjn
      go_wp2
      exact bodyPost_ret (v := .agg #[.slice av (widN j).length cv]) (by simp [results, Tryd.results92, go_sem, cr]) rfl ⟨_, rfl, F.out.1, F.out.2⟩

end Go.Proofs.YtcopcegamadkgaaDoor

namespace Go.Proofs.YtcopcegamadkgaaDoor
open Go.RowKit Go.Shelf

theorem wi_keep {ns : List Nd} (h : Asc ns) (n : Nd) {a : Nd} (ha : a ∈ ns) (hne : (a.path.toList == n.path.toList) = false) : a ∈ wiN ns n := by
  rw [wi_form n h]
  rw [← List.take_append_drop (plc ns n.path) ns] at ha
  rcases List.mem_append.1 ha with ha | ha
  · exact List.mem_append.2 (.inl ha)
  · refine List.mem_append.2 (.inr (List.mem_cons_of_mem _ ?_))
    rw [← wo_drop ns n.path h]
    exact List.mem_filter.2 ⟨ha, by rw [hne]; rfl⟩
/-- The root stays. -/
def HasR (ns : List Nd) : Prop := ∃ a ∈ ns, (a.path.toList == [47]) = true
theorem HasR.wi {ns : List Nd} (h : HasR ns) (ha : Asc ns) (n : Nd) : HasR (wiN ns n) := by
  obtain ⟨a, h1, h2⟩ := h
  cases e : (a.path.toList == n.path.toList) with
  | false => exact ⟨a, wi_keep ha n h1 e, h2⟩
  | true =>
    refine ⟨n, ?_, ?_⟩
    · rw [wi_form n ha]; exact List.mem_append.2 (.inr (List.mem_cons_self ..))
    · rw [beq_iff_eq] at e h2 ⊢; rw [← e]; exact h2
theorem HasR.wo {ns : List Nd} (h : HasR ns) {p : ByteArray} (hp : (p.toList == [47]) = false) : HasR (woN ns p) := by
  obtain ⟨a, h1, h2⟩ := h
  refine ⟨a, List.mem_filter.2 ⟨h1, ?_⟩, h2⟩
  cases e : (a.path.toList == p.toList) with
  | false => rfl
  | true => rw [beq_iff_eq] at e h2; rw [← e, h2] at hp; simp at hp
theorem HasR.to {ns : List Nd} (h : HasR ns) (ha : Asc ns) (p : ByteArray) (z : Int) : HasR (toN ns p z) := by
  unfold toN
  split
  · exact h.wi ha _
  · exact h
theorem wfO_root {o : Op5} (h : wfO o = true) (hk : o.kind = 2) : (o.path.toList == [47]) = false := by
  unfold wfO at h
  simp only [hk] at h
  simp at h
  simpa using h.2.2
theorem doO_root {ns : List Nd} (h : HasR ns) (ha : Asc ns) (o : Op5) (z : Int) : HasR (doO ns o z).2.1 := by
  unfold doO
  cases hw : wfO o with
  | false => exact h
  | true =>
    simp only [Bool.not_true, Bool.false_eq_true, if_false]
    by_cases h1 : o.kind = 1
    · rw [if_pos h1]
      repeat' split
      all_goals (first | exact h | exact (h.wi ha _).to (asc_wi ha _) _ _)
    · rw [if_neg h1]
      by_cases h2 : o.kind = 2
      · rw [if_pos h2]
        repeat' split
        all_goals (first | exact h | exact (h.wo (wfO_root hw h2)).to (asc_wo ha _) _ _)
      · rw [if_neg h2]
        repeat' split
        all_goals (first | exact h | exact h.wi ha _)
theorem Sr.grow_root (s : Sr) : ∀ i, i ≤ 1000000 → HasR (s.grow i).1
  | 0, _ => ⟨rootN, by simp [Sr.grow], by rw [ByteArray.toList_eq]; rfl⟩
  | i + 1, h => by
    have ih := s.grow_root i (by omega)
    unfold Sr.grow
    split
    · exact doO_root ih (s.grow_inv i (by omega)).1.1 _ _
    · exact ih
theorem HasR.pos {ns : List Nd} (h : HasR ns) : 0 < ns.length := by obtain ⟨a, h1, -⟩ := h; exact List.length_pos_of_mem h1


end Go.Proofs.YtcopcegamadkgaaDoor

namespace Go.Proofs.YtcopcegamadkgaaDoor
open Go.RowKit Go.Shelf

theorem grown_set9 {w w' : World} {g : Nat} (h : w.grownBy w' (some g)) (j : Nat) (u : Value) : w.grownBy (w'.setCell ⟨g, j, none⟩ u) (some g) := World.grownBy.trans h (grownBy_set w' w' g j u (World.grownBy.refl _ _))
theorem GR.setNd {W w6 : World} {k B TB g cv i : Nat} {ns : List Nd} {s : Sr} (hg : GR W k B TB (.slice (some ⟨g, 0, none⟩) ns.length cv) ns s w6) (hil : i < ns.length) (hk2 : B ≤ W.heap.size) (x : Nd) :
    GR W k B TB (.slice (some ⟨g, 0, none⟩) ns.length cv) (ns.set i x) s (((((((w6.setCell ⟨g, i * 7, none⟩ (.string x.path)).setCell ⟨g, i * 7 + 1, none⟩ (.string x.data)).setCell ⟨g, i * 7 + 2, none⟩ (.int .i64 x.ver)).setCell ⟨g, i * 7 + 3, none⟩ (.int .i64 x.cver)).setCell ⟨g, i * 7 + 4, none⟩ (.int .i64 x.cz)).setCell ⟨g, i * 7 + 5, none⟩ (.int .i64 x.mz)).setCell ⟨g, i * 7 + 6, none⟩ (.int .i64 x.pz)) := by
  have hgW : W.heap.size ≤ g := (World.ownsRow.lt hg.own g rfl).1
  have hgT : g ≠ TB := fun e => hg.vt (by rw [← e]; rfl)
  have hgR : g ≠ W.heap.size := fun e => hg.vr (by rw [← e]; rfl)
  have h1 := nstored hg.own i hil x
  have G := grown_set9 (grown_set9 (grown_set9 (grown_set9 (grown_set9 (grown_set9 (grown_set9 (World.grownBy.refl w6 (some g)) (i * 7) (.string x.path)) (i * 7 + 1) (.string x.data)) (i * 7 + 2) (.int .i64 x.ver)) (i * 7 + 3) (.int .i64 x.cver)) (i * 7 + 4) (.int .i64 x.cz)) (i * 7 + 5) (.int .i64 x.mz)) (i * 7 + 6) (.int .i64 x.pz)
  revert h1 G
  generalize ((((((w6.setCell ⟨g, i * 7, none⟩ (.string x.path)).setCell ⟨g, i * 7 + 1, none⟩ (.string x.data)).setCell ⟨g, i * 7 + 2, none⟩ (.int .i64 x.ver)).setCell ⟨g, i * 7 + 3, none⟩ (.int .i64 x.cver)).setCell ⟨g, i * 7 + 4, none⟩ (.int .i64 x.cz)).setCell ⟨g, i * 7 + 5, none⟩ (.int .i64 x.mz)).setCell ⟨g, i * 7 + 6, none⟩ (.int .i64 x.pz) = w7
  intro h1 G
  have h2 : OwnN 84 w7 W.heap.size (.slice (some ⟨g, 0, none⟩) ns.length cv) (ns.set i x) := by
    unfold OwnN; rw [List.length_set]; exact h1
  have hb : Below W.heap.size w6 w7 := ⟨G.os, G.tape, G.output, G.size, fun q hq => G.block q (by have := hg.lt; have := hg.tb; omega) (fun e => by injection e with e; omega)⟩
  have htb := hg.tb
  have hlt := hg.lt
  exact ⟨hg.src.keep (hb.mono hk2), hg.tch.then hb, h2, (G.cell_far ⟨TB, 0, none⟩ hlt (fun e => hgT (by injection e with e; exact e.symm))).trans hg.ct, (G.frozen_far ⟨TB, 0, none⟩ hlt (fun e => hgT (by injection e with e; exact e.symm))).trans hg.ft, (G.cell_far ⟨W.heap.size, 0, none⟩ (by show W.heap.size < _; omega) (fun e => hgR (by injection e with e; exact e.symm))).trans hg.cr, (G.frozen_far ⟨W.heap.size, 0, none⟩ (by show W.heap.size < _; omega) (fun e => hgR (by injection e with e; exact e.symm))).trans hg.fr, hg.tb, Nat.lt_of_lt_of_le hg.lt hb.size, hg.vt, hg.vr⟩
theorem GR.outN {W w7 : World} {k B TB g cv n : Nat} {ms : List Nd} {s : Sr} (hg : GR W k B TB (.slice (some ⟨g, 0, none⟩) n cv) ms s w7) (hk2 : B ≤ W.heap.size) :
    RdN (w7.setCell ⟨W.heap.size, 0, none⟩ (.slice (some ⟨g, 0, none⟩) n cv)) (.slice (some ⟨g, 0, none⟩) n cv) ms ∧ SRX (w7.setCell ⟨W.heap.size, 0, none⟩ (.slice (some ⟨g, 0, none⟩) n cv)) k B s ∧ Tch k W (w7.setCell ⟨W.heap.size, 0, none⟩ (.slice (some ⟨g, 0, none⟩) n cv)) := by
  have hb : Below W.heap.size w7 (w7.setCell ⟨W.heap.size, 0, none⟩ (.slice (some ⟨g, 0, none⟩) n cv)) := (Below.refl _ _).setCell (by show W.heap.size ≤ W.heap.size; exact Nat.le_refl _) _
  exact ⟨(OwnN.setO hg.own hg.vr _).rd, hg.src.keep (hb.mono hk2), hg.tch.then hb⟩

end Go.Proofs.YtcopcegamadkgaaDoor

namespace Go.Proofs.YtcopcegamadkgaaDoor
open Go.RowKit Go.Shelf

/-- A slice without an address has no room. -/
def NilOk (v : Value) : Prop := ∀ n c, v = .slice none n c → n = 0 ∧ c = 0
theorem OwnN.nilOk {e : TypeId} {w : World} {lo : Nat} {v : Value} {ns : List Nd} (h : OwnN e w lo v ns) : NilOk v := by
  intro n c hv
  rcases h.2 with ⟨rfl, _⟩ | ⟨g, cap, cur, rfl, _⟩
  · simp only [Value.slice.injEq, true_and] at hv
    exact ⟨hv.1.symm, hv.2.symm⟩
  · simp at hv
theorem run_tail (ao : Option Addr) (n c L : Nat) (h1 : L ≤ n) (W : World) : (Instr.slice 34 (.slice ao n c) (some (.int .i64 (L : Int))) none none).run Tryd.prog W = .ok (.slice (if c = L then ao else ao.map (·.add (L * 7))) (n - L) (c - L)) W := by
  have h : (0 : Int) ≤ (L : Int) := by omega
  have h' : (L : Int) ≤ (n : Int) := by omega
  have he : Tryd.prog.elem 34 = 84 := by kernel_rfl
  rw [run_slice_l W 34 ao n c (by rw [he]; exact Tryd.underlying34) .i64 (L : Int) h h', he]
  go_simp
theorem slice_tail {w : World} {ao : Option Addr} {c : Nat} {R : List Nd} (h : RdN w (.slice ao R.length c) R) (hn : NilOk (.slice ao R.length c)) (L : Nat) (hL : L ≤ R.length) :
    ∃ a2, (∀ W, (Instr.slice 34 (.slice ao R.length c) (some (.int .i64 (L : Int))) none none).run Tryd.prog W = .ok (.slice a2 (R.length - L) (c - L)) W) ∧ RdN w (.slice a2 (R.length - L) (c - L)) (R.drop L) ∧ NilOk (.slice a2 (R.length - L) (c - L)) := by
  obtain ⟨ao', c', e, h1, h2, h3⟩ := h
  simp only [Value.slice.injEq] at e
  obtain ⟨rfl, -, rfl⟩ := e
  refine ⟨if c = L then ao else ao.map (·.add (L * 7)), run_tail ao _ c L hL, ⟨_, _, by rw [List.length_drop], by rw [List.length_drop]; omega, by omega, ?_⟩, ?_⟩
  · rcases h3 with rfl | ⟨b, o, rfl, hb, hc⟩
    · exact .inl (by simp)
    · by_cases hcl : c = L
      · exact .inl (List.drop_eq_nil_of_le (by omega))
      · refine .inr ⟨b, o + L * 7, by rw [if_neg hcl, Option.map_some, Addr.add_lit], hb, fun i hi => ?_⟩
        rw [List.length_drop] at hi
        have := hc (L + i) (by omega)
        have e1 : nAt (R.drop L) i = nAt R (L + i) := by unfold nAt; simp [List.getD]
        rw [e1, show o + L * 7 + i * 7 = o + (L + i) * 7 by omega]
        exact this
  · intro n' c2 hv
    simp only [Value.slice.injEq] at hv
    obtain ⟨ha, rfl, rfl⟩ := hv
    have hao : ao = none := by
      by_cases hcl : c = L
      · rw [if_pos hcl] at ha; exact ha
      · rw [if_neg hcl] at ha; simpa using ha
    subst hao
    have := hn _ _ rfl
    omega
theorem BoxE.grown {w w' : World} {B g : Nat} {n : Ef} (h : BoxE w B n) (hg : w.grownBy w' (some g)) (hne : B ≠ g) : BoxE w' B n := by
  have e := hg.block B h.lt (by simpa using hne)
  have cc : ∀ i, w'.cell? ⟨B, i, none⟩ = w.cell? ⟨B, i, none⟩ := fun i => by simp [World.cell?, e]
  have hs : w.heap.size ≤ w'.heap.size := hg.size
  exact ⟨Nat.lt_of_lt_of_le h.lt hs, (cc _).trans h.c0, (cc _).trans h.c1, (cc _).trans h.c2, (cc _).trans h.c3, (cc _).trans h.c4, (cc _).trans h.c5, (cc _).trans h.c6, (cc _).trans h.c7⟩

end Go.Proofs.YtcopcegamadkgaaDoor

namespace Go.Proofs.YtcopcegamadkgaaDoor
open Go.RowKit Go.Shelf

/-- What becomes of a grown tree. -/
def treeK (kk : Nat) (ns : List Nd) (i : Nat) (s2 : Sr) : List Nd × Sr :=
  if kk = 0 then (widN (999 + (s2.next 2).1), (s2.next 2).2)
  else if kk = 1 then (ns.set i { nAt ns i with ver := 2147483647, cver := 2147483647 }, s2)
  else if kk = 2 then (ns.set i { nAt ns i with mz := -1 }, s2)
  else if kk = 3 then (ns.set i { nAt ns i with path := ⟨#[47, 65]⟩ }, s2)
  else if kk = 4 then (ns.set i { nAt ns i with data := strOfNums (s2.bytes 65).1 }, (s2.bytes 65).2)
  else if kk = 5 then (ns.set i { nAt ns i with path := if 1 < ns.length then (nAt ns 0).path else (nAt ns i).path }, s2)
  else if kk = 6 then (ns.set i { nAt ns i with cver := 999999 + ((s2.next 2).1 : Int) }, (s2.next 2).2)
  else if kk = 7 then (ns.drop i, s2)
  else if kk = 8 then ([], s2)
  else (ns.set i (nAt ns i), s2)
def treeD (ns : List Nd) (s0 : Sr) : List Nd × Sr := treeK (s0.next 40).1 ns ((s0.next 40).2.next ns.length).1 ((s0.next 40).2.next ns.length).2
/-- A drawn tree. -/
def Sr.tree (s : Sr) : List Nd × Sr := treeD (s.grow (4 + 3 * s.size)).1 (s.grow (4 + 3 * s.size)).2.2

theorem NB.turn9 {W W' : World} {B k : Nat} {n : Nd} (h : NB W B n) (t : Tch k W W') (hne : B ≠ k) : NB W' B n := by
  obtain ⟨⟨nl, n0, n1, n2, n3, n4, n5, n6⟩, nf⟩ := h
  have b := t.2 B hne nl
  have q : ∀ j, W'.cell? ⟨B, j, none⟩ = W.cell? ⟨B, j, none⟩ := fun j => World.cell?_of_block (a := ⟨B, j, none⟩) b
  exact ⟨⟨Nat.lt_of_lt_of_le nl t.size, (q _).trans n0, (q _).trans n1, (q _).trans n2, (q _).trans n3, (q _).trans n4, (q _).trans n5, (q _).trans n6⟩, fun j => (World.frozen?_of_block b).trans (nf j)⟩

set_option maxHeartbeats 8000000 in
set_option maxRecDepth 100000 in
theorem tree_x (W : World) (k B : Nat) (s : Sr) (h : SRX W k B s) :
    Calls Tryd.prog 52 #[.pointer (some ⟨k, 0, none⟩)] W fun e w' => ∃ v, e = .returned (.agg #[v]) ∧ RdN w' v s.tree.1 ∧ SRX w' k B s.tree.2 ∧ Tch k W w' ∧ ∀ b o n c, v = .slice (some ⟨b, o, none⟩) n c → W.heap.size ≤ b := by
  have hk1 := h.kB
  have hk2 := h.lt
  have hkW : k < W.heap.size := by omega
  have hsz := h.sz
  have BR : Hid (Below W.heap.size W (W.alloc (.cells #[.slice none 0 0] 36))) := (Below.refl _ _).alloc (Nat.le_refl _) _
  have S0 : Hid (SRX (W.alloc (.cells #[.slice none 0 0] 36)) k B s) := h.keep (BR.out.mono hk2)
  have c3 := S0.out.c3
  have cr0 : Hid ((W.alloc (.cells #[.slice none 0 0] 36)).cell? ⟨W.heap.size, 0, none⟩ = some (.slice none 0 0)) := by show _ = _; simp
  have fr0 : Hid ((W.alloc (.cells #[.slice none 0 0] 36)).frozen? ⟨W.heap.size, 0, none⟩ = false) := by show _ = _; simp
  have hs0 : (W.alloc (.cells #[.slice none 0 0] 36)).heap.size = W.heap.size + 1 := by simp
  have HGI := s.grow_inv (4 + 3 * s.size) (by omega)
  have HPOS := (s.grow_root (4 + 3 * s.size) (by omega)).pos
  obtain ⟨res, hres⟩ : ∃ res, res = s.tree := ⟨_, rfl⟩
  have HRES : Hid (treeD (s.grow (4 + 3 * s.size)).1 (s.grow (4 + 3 * s.size)).2.2 = res) := hres.symm
  rw [← hres]
  have CG := grow_x (W.alloc (.cells #[.slice none 0 0] 36)) k B (4 + 3 * s.size) s S0.out (by omega)
  rw [show ((4 + 3 * s.size : Nat) : Int) = 4 + 3 * (s.size : Int) by omega] at CG
  clear h hres
  generalize s.grow (4 + 3 * s.size) = q at *
  go_enter Tryd.func52, Tryd.ntmps52
  go_wp2_with fail
  refine CG.mono ?_
  rintro e w1 ⟨v, rfl, o1, s1, t1⟩
  rw [hs0] at o1
  have hs1 := t1.size
  obtain ⟨av, cv, rfl⟩ := OwnN.slice9 o1
  have bA : Below w1.heap.size w1 (w1.alloc (.cells #[.slice av q.1.length cv] 36)) := (Below.refl _ _).alloc (Nat.le_refl _) _
  have G1 : Hid (GR W k B w1.heap.size (.slice av q.1.length cv) q.1 q.2.2 (w1.alloc (.cells #[.slice av q.1.length cv] 36))) := by
    have a := t1.2 W.heap.size (by omega) (by omega)
    refine ⟨s1.keep (bA.mono s1.lt), (Tch.of BR.out).trans (t1.trans (Tch.of bA)), (o1.mono (by omega)).below bA, by simp, by simp, (bA.cell (p := ⟨W.heap.size, 0, none⟩) (show W.heap.size < _ by omega)).trans ((World.cell?_of_block (a := ⟨W.heap.size, 0, none⟩) a).trans cr0.out), (bA.frozen (p := ⟨W.heap.size, 0, none⟩) (show W.heap.size < _ by omega)).trans ((World.frozen?_of_block a).trans fr0.out), by omega, by simp, ?_, ?_⟩
    · intro e; have := (World.ownsRow.lt o1 _ e).2; omega
    · intro e; have := (World.ownsRow.lt o1 _ e).1; omega
  obtain ⟨hsnd, hlen, -⟩ := HGI
  have HSN : Hid (Snd q.1) := hsnd
  have hgv : ∃ g, av = some ⟨g, 0, none⟩ := by
    rcases o1.2 with ⟨-, h0⟩ | ⟨g, cap, cur, h0, -⟩
    · omega
    · simp only [Value.slice.injEq] at h0; exact ⟨g, h0.1⟩
  obtain ⟨g, rfl⟩ := hgv
  clear o1 s1 t1 bA CG S0 BR cr0 fr0 c3 hsnd
  generalize q.1 = ns at *
  generalize q.2.2 = s0 at *
  generalize hTB : w1.heap.size = TB at *
  go_wp2_with fail
  generalize w1.alloc (.cells #[.slice (some ⟨g, 0, none⟩) ns.length cv] 36) = w2 at *
  refine (next_x _ k B 40 s0 G1.out.src (by omega)).mono ?_
  rintro e w3 ⟨rfl, s3, t3⟩
  have hk40 := s0.next_lt 40 (by omega)
  have HR3 : Hid (treeK (s0.next 40).1 ns ((s0.next 40).2.next ns.length).1 ((s0.next 40).2.next ns.length).2 = res) := HRES.out
  have G3 : Hid (GR W k B TB (.slice (some ⟨g, 0, none⟩) ns.length cv) ns (s0.next 40).2 w3) := G1.out.next s3 t3 hkW
  clear s3 t3 G1 HRES
  generalize (s0.next 40).2 = s1 at *
  generalize (s0.next 40).1 = kk at *
  have ct := G3.out.ct
  go_wp2_with fail
  clear ct
  refine (next_x _ k B ns.length s1 G3.out.src (by omega)).mono ?_
  rintro e w4 ⟨rfl, s4, t4⟩
  have hil := s1.next_lt ns.length HPOS
  have G4 : Hid (GR W k B TB (.slice (some ⟨g, 0, none⟩) ns.length cv) ns (s1.next ns.length).2 w4) := G3.out.next s4 t4 hkW
  clear s4 t4 G3
  generalize (s1.next ns.length).2 = s2 at *
  generalize (s1.next ns.length).1 = i at *
  have hiI : (i : Int) < (ns.length : Int) := by omega
  obtain ⟨m, hm⟩ : ∃ m, m = nAt ns i := ⟨_, rfl⟩
  have HCE : Hid (CellsN w4 g (i * 7) m) := by
    obtain ⟨ao', c', e', -, -, h3⟩ := G4.out.own.rd
    simp only [Value.slice.injEq] at e'
    obtain ⟨rfl, -, -⟩ := e'
    rcases h3 with h3 | ⟨b, o, h4, hb, hc⟩
    · rw [h3] at hil; simp at hil
    · have := hc i hil
      simp at h4
      obtain ⟨rfl, rfl⟩ := h4
      rw [Nat.zero_add] at this
      rw [hm]; exact this
  obtain ⟨e0, e1, e2, e3, e4, e5, e6⟩ := HCE.out
  have ct := G4.out.ct
  have bB : Below w4.heap.size w4 (w4.alloc (.cells #[.string m.path, .string m.data, .int .i64 m.ver, .int .i64 m.cver, .int .i64 m.cz, .int .i64 m.mz, .int .i64 m.pz] 84)) := (Below.refl _ _).alloc (Nat.le_refl _) _
  have G5 : Hid (GR W k B TB (.slice (some ⟨g, 0, none⟩) ns.length cv) ns s2 (w4.alloc (.cells #[.string m.path, .string m.data, .int .i64 m.ver, .int .i64 m.cver, .int .i64 m.cz, .int .i64 m.mz, .int .i64 m.pz] 84))) := G4.out.below bB hkW
  have N5 : Hid (NB (w4.alloc (.cells #[.string m.path, .string m.data, .int .i64 m.ver, .int .i64 m.cver, .int .i64 m.cz, .int .i64 m.mz, .int .i64 m.pz] 84)) w4.heap.size m) := NB.new _ _ _
  have hTN : TB < w4.heap.size := G4.out.lt
  have hgN : g < w4.heap.size := (World.ownsRow.lt G4.out.own g rfl).2
  have hgW : W.heap.size ≤ g := (World.ownsRow.lt G4.out.own g rfl).1
  have hgT : g ≠ TB := fun e => G4.out.vt (by rw [← e]; rfl)
  have hgR : g ≠ W.heap.size := fun e => G4.out.vr (by rw [← e]; rfl)
  have hBT : B ≤ TB := by have := G4.out.tb; omega
  have hTW : W.heap.size < TB := G4.out.tb
  clear bB
  unfold treeK at HR3
  rw [← hm] at HR3
  clear hm
  have HROW : Hid (∀ (w6 : World) (sx : Sr), GR W k B TB (.slice (some ⟨g, 0, none⟩) ns.length cv) ns sx w6 → ∀ j, j < 7 → (∃ c, w6.cell? ⟨g, i * 7 + j, none⟩ = some c) ∧ w6.frozen? ⟨g, i * 7 + j, none⟩ = false) := by
    intro w6 sx hg j hj
    refine ⟨⟨_, (World.ownsRow.cellAt hg.own (i * 7 + j) (by omega)).trans (List.getElem?_eq_getElem (by rw [nrow_length]; omega))⟩, World.ownsRow.frozenAt hg.own (i * 7 + j)⟩
  iterate 40 (try (first | go_values | go_skip | go_guarded | go_step | go_upon | go_back | go_simp))
  clear e0 e1 e2 e3 e4 e5 e6 ct HCE G4
  generalize w4.alloc (.cells #[.string m.path, .string m.data, .int .i64 m.ver, .int .i64 m.cver, .int .i64 m.cz, .int .i64 m.mz, .int .i64 m.pz] 84) = w5 at *
  generalize w4.heap.size = NK at *
  clear hTB hs1 hs0
  have hNR : NK ≠ W.heap.size := by omega
  have hNT : NK ≠ TB := by omega
  have hNg : NK ≠ g := by omega
  have hgK : g ≠ NK := by omega
  have hNk : NK ≠ k := by omega
  by_cases h9 : 9 ≤ kk
  · rw [if_neg (by omega), if_neg (by omega), if_neg (by omega), if_neg (by omega), if_neg (by omega), if_neg (by omega), if_neg (by omega), if_neg (by omega), if_neg (by omega)] at HR3
    have q0 : ((kk : Int) == 0) = false := beq_eq_false_iff_ne.2 (by omega)
    have q1 : ((kk : Int) == 1) = false := beq_eq_false_iff_ne.2 (by omega)
    have q2 : ((kk : Int) == 2) = false := beq_eq_false_iff_ne.2 (by omega)
    have q3 : ((kk : Int) == 3) = false := beq_eq_false_iff_ne.2 (by omega)
    have q4 : ((kk : Int) == 4) = false := beq_eq_false_iff_ne.2 (by omega)
    have q5 : ((kk : Int) == 5) = false := beq_eq_false_iff_ne.2 (by omega)
    have q6 : ((kk : Int) == 6) = false := beq_eq_false_iff_ne.2 (by omega)
    have q7 : ((kk : Int) == 7) = false := beq_eq_false_iff_ne.2 (by omega)
    have q8 : ((kk : Int) == 8) = false := beq_eq_false_iff_ne.2 (by omega)
    have GM : Hid (GR W k B TB (.slice (some ⟨g, 0, none⟩) ns.length cv) ns s2 (w5)) := G5
    have HG7 : Hid (GR W k B TB (.slice (some ⟨g, 0, none⟩) ns.length cv) (ns.set i m) s2 ((((((((w5).setCell ⟨g, i * 7, none⟩ (.string m.path)).setCell ⟨g, i * 7 + 1, none⟩ (.string m.data)).setCell ⟨g, i * 7 + 2, none⟩ (.int .i64 m.ver)).setCell ⟨g, i * 7 + 3, none⟩ (.int .i64 m.cver)).setCell ⟨g, i * 7 + 4, none⟩ (.int .i64 m.cz)).setCell ⟨g, i * 7 + 5, none⟩ (.int .i64 m.mz)).setCell ⟨g, i * 7 + 6, none⟩ (.int .i64 m.pz))) := GM.out.setNd hil hk2 m
    have HF : Hid (RdN (((((((((w5).setCell ⟨g, i * 7, none⟩ (.string m.path)).setCell ⟨g, i * 7 + 1, none⟩ (.string m.data)).setCell ⟨g, i * 7 + 2, none⟩ (.int .i64 m.ver)).setCell ⟨g, i * 7 + 3, none⟩ (.int .i64 m.cver)).setCell ⟨g, i * 7 + 4, none⟩ (.int .i64 m.cz)).setCell ⟨g, i * 7 + 5, none⟩ (.int .i64 m.mz)).setCell ⟨g, i * 7 + 6, none⟩ (.int .i64 m.pz)).setCell ⟨W.heap.size, 0, none⟩ (.slice (some ⟨g, 0, none⟩) ns.length cv)) (.slice (some ⟨g, 0, none⟩) ns.length cv) (ns.set i m) ∧ SRX (((((((((w5).setCell ⟨g, i * 7, none⟩ (.string m.path)).setCell ⟨g, i * 7 + 1, none⟩ (.string m.data)).setCell ⟨g, i * 7 + 2, none⟩ (.int .i64 m.ver)).setCell ⟨g, i * 7 + 3, none⟩ (.int .i64 m.cver)).setCell ⟨g, i * 7 + 4, none⟩ (.int .i64 m.cz)).setCell ⟨g, i * 7 + 5, none⟩ (.int .i64 m.mz)).setCell ⟨g, i * 7 + 6, none⟩ (.int .i64 m.pz)).setCell ⟨W.heap.size, 0, none⟩ (.slice (some ⟨g, 0, none⟩) ns.length cv)) k B s2 ∧ Tch k W (((((((((w5).setCell ⟨g, i * 7, none⟩ (.string m.path)).setCell ⟨g, i * 7 + 1, none⟩ (.string m.data)).setCell ⟨g, i * 7 + 2, none⟩ (.int .i64 m.ver)).setCell ⟨g, i * 7 + 3, none⟩ (.int .i64 m.cver)).setCell ⟨g, i * 7 + 4, none⟩ (.int .i64 m.cz)).setCell ⟨g, i * 7 + 5, none⟩ (.int .i64 m.mz)).setCell ⟨g, i * 7 + 6, none⟩ (.int .i64 m.pz)).setCell ⟨W.heap.size, 0, none⟩ (.slice (some ⟨g, 0, none⟩) ns.length cv))) := HG7.out.outN hk2
    have ct := G5.out.ct
    have cr := G5.out.cr
    have fr := G5.out.fr
    obtain ⟨⟨nl, n0, n1, n2, n3, n4, n5, n6⟩, nf⟩ := N5.out
    obtain ⟨⟨r0, k0⟩, f0⟩ := HROW.out _ _ G5.out 0 (by omega)
    obtain ⟨⟨r1, k1⟩, f1⟩ := HROW.out _ _ G5.out 1 (by omega)
    obtain ⟨⟨r2, k2⟩, f2⟩ := HROW.out _ _ G5.out 2 (by omega)
    obtain ⟨⟨r3, k3⟩, f3⟩ := HROW.out _ _ G5.out 3 (by omega)
    obtain ⟨⟨r4, k4⟩, f4⟩ := HROW.out _ _ G5.out 4 (by omega)
    obtain ⟨⟨r5, k5⟩, f5⟩ := HROW.out _ _ G5.out 5 (by omega)
    obtain ⟨⟨r6, k6⟩, f6⟩ := HROW.out _ _ G5.out 6 (by omega)
    rw [Nat.add_zero] at k0 f0
    have HNB : Hid (∀ b o n c, (Value.slice (some ⟨g, 0, none⟩) ns.length cv) = .slice (some ⟨b, o, none⟩) n c → W.heap.size ≤ b) := fun b o n c e => by simp at e; omega
    clear HROW HG7 GM G5 N5 HSN
    iterate 260 (try (first | go_values | go_skip | go_guarded | go_step | go_upon))
    refine bodyPost_ret (v := .agg #[(.slice (some ⟨g, 0, none⟩) ns.length cv)]) ?a1 ?a2 ?a3
    case a1 => simp [results, Tryd.results52, go_sem, cr]
    case a2 => rfl
    case a3 => exact ⟨_, rfl, by rw [← HR3.out]; exact HF.out.1, by rw [← HR3.out]; exact HF.out.2.1, HF.out.2.2, HNB.out⟩
  by_cases h1 : kk = 1
  · subst h1
    rw [if_neg (by decide), if_pos rfl] at HR3
    have bM : Below NK w5 (((w5).setCell ⟨NK, 2, none⟩ (.int .i64 2147483647)).setCell ⟨NK, 3, none⟩ (.int .i64 2147483647)) := by
      iterate 2 refine Below.setCell ?_ (by show NK ≤ NK; exact Nat.le_refl _) _
      exact Below.refl _ _
    have GM : Hid (GR W k B TB (.slice (some ⟨g, 0, none⟩) ns.length cv) ns s2 (((w5).setCell ⟨NK, 2, none⟩ (.int .i64 2147483647)).setCell ⟨NK, 3, none⟩ (.int .i64 2147483647))) := G5.out.far bM hTN hBT (fun q e => by simp [Value.ownBlock] at e; omega)
    clear bM
    have HG7 : Hid (GR W k B TB (.slice (some ⟨g, 0, none⟩) ns.length cv) (ns.set i ⟨m.path, m.data, 2147483647, 2147483647, m.cz, m.mz, m.pz⟩) s2 ((((((((((w5).setCell ⟨NK, 2, none⟩ (.int .i64 2147483647)).setCell ⟨NK, 3, none⟩ (.int .i64 2147483647)).setCell ⟨g, i * 7, none⟩ (.string m.path)).setCell ⟨g, i * 7 + 1, none⟩ (.string m.data)).setCell ⟨g, i * 7 + 2, none⟩ (.int .i64 2147483647)).setCell ⟨g, i * 7 + 3, none⟩ (.int .i64 2147483647)).setCell ⟨g, i * 7 + 4, none⟩ (.int .i64 m.cz)).setCell ⟨g, i * 7 + 5, none⟩ (.int .i64 m.mz)).setCell ⟨g, i * 7 + 6, none⟩ (.int .i64 m.pz))) := GM.out.setNd hil hk2 ⟨m.path, m.data, 2147483647, 2147483647, m.cz, m.mz, m.pz⟩
    have HF : Hid (RdN (((((((((((w5).setCell ⟨NK, 2, none⟩ (.int .i64 2147483647)).setCell ⟨NK, 3, none⟩ (.int .i64 2147483647)).setCell ⟨g, i * 7, none⟩ (.string m.path)).setCell ⟨g, i * 7 + 1, none⟩ (.string m.data)).setCell ⟨g, i * 7 + 2, none⟩ (.int .i64 2147483647)).setCell ⟨g, i * 7 + 3, none⟩ (.int .i64 2147483647)).setCell ⟨g, i * 7 + 4, none⟩ (.int .i64 m.cz)).setCell ⟨g, i * 7 + 5, none⟩ (.int .i64 m.mz)).setCell ⟨g, i * 7 + 6, none⟩ (.int .i64 m.pz)).setCell ⟨W.heap.size, 0, none⟩ (.slice (some ⟨g, 0, none⟩) ns.length cv)) (.slice (some ⟨g, 0, none⟩) ns.length cv) (ns.set i ⟨m.path, m.data, 2147483647, 2147483647, m.cz, m.mz, m.pz⟩) ∧ SRX (((((((((((w5).setCell ⟨NK, 2, none⟩ (.int .i64 2147483647)).setCell ⟨NK, 3, none⟩ (.int .i64 2147483647)).setCell ⟨g, i * 7, none⟩ (.string m.path)).setCell ⟨g, i * 7 + 1, none⟩ (.string m.data)).setCell ⟨g, i * 7 + 2, none⟩ (.int .i64 2147483647)).setCell ⟨g, i * 7 + 3, none⟩ (.int .i64 2147483647)).setCell ⟨g, i * 7 + 4, none⟩ (.int .i64 m.cz)).setCell ⟨g, i * 7 + 5, none⟩ (.int .i64 m.mz)).setCell ⟨g, i * 7 + 6, none⟩ (.int .i64 m.pz)).setCell ⟨W.heap.size, 0, none⟩ (.slice (some ⟨g, 0, none⟩) ns.length cv)) k B s2 ∧ Tch k W (((((((((((w5).setCell ⟨NK, 2, none⟩ (.int .i64 2147483647)).setCell ⟨NK, 3, none⟩ (.int .i64 2147483647)).setCell ⟨g, i * 7, none⟩ (.string m.path)).setCell ⟨g, i * 7 + 1, none⟩ (.string m.data)).setCell ⟨g, i * 7 + 2, none⟩ (.int .i64 2147483647)).setCell ⟨g, i * 7 + 3, none⟩ (.int .i64 2147483647)).setCell ⟨g, i * 7 + 4, none⟩ (.int .i64 m.cz)).setCell ⟨g, i * 7 + 5, none⟩ (.int .i64 m.mz)).setCell ⟨g, i * 7 + 6, none⟩ (.int .i64 m.pz)).setCell ⟨W.heap.size, 0, none⟩ (.slice (some ⟨g, 0, none⟩) ns.length cv))) := HG7.out.outN hk2
    have ct := G5.out.ct
    have cr := G5.out.cr
    have fr := G5.out.fr
    obtain ⟨⟨nl, n0, n1, n2, n3, n4, n5, n6⟩, nf⟩ := N5.out
    obtain ⟨⟨r0, k0⟩, f0⟩ := HROW.out _ _ G5.out 0 (by omega)
    obtain ⟨⟨r1, k1⟩, f1⟩ := HROW.out _ _ G5.out 1 (by omega)
    obtain ⟨⟨r2, k2⟩, f2⟩ := HROW.out _ _ G5.out 2 (by omega)
    obtain ⟨⟨r3, k3⟩, f3⟩ := HROW.out _ _ G5.out 3 (by omega)
    obtain ⟨⟨r4, k4⟩, f4⟩ := HROW.out _ _ G5.out 4 (by omega)
    obtain ⟨⟨r5, k5⟩, f5⟩ := HROW.out _ _ G5.out 5 (by omega)
    obtain ⟨⟨r6, k6⟩, f6⟩ := HROW.out _ _ G5.out 6 (by omega)
    rw [Nat.add_zero] at k0 f0
    have HNB : Hid (∀ b o n c, (Value.slice (some ⟨g, 0, none⟩) ns.length cv) = .slice (some ⟨b, o, none⟩) n c → W.heap.size ≤ b) := fun b o n c e => by simp at e; omega
    clear HROW HG7 GM G5 N5 HSN
    iterate 260 (try (first | go_values | go_skip | go_guarded | go_step | go_upon))
    refine bodyPost_ret (v := .agg #[(.slice (some ⟨g, 0, none⟩) ns.length cv)]) ?a1 ?a2 ?a3
    case a1 => simp [results, Tryd.results52, go_sem, cr]
    case a2 => rfl
    case a3 => exact ⟨_, rfl, by rw [← HR3.out]; exact HF.out.1, by rw [← HR3.out]; exact HF.out.2.1, HF.out.2.2, HNB.out⟩
  by_cases h2 : kk = 2
  · subst h2
    rw [if_neg (by decide), if_neg (by decide), if_pos rfl] at HR3
    have bM : Below NK w5 ((w5).setCell ⟨NK, 5, none⟩ (.int .i64 (-1))) := by
      iterate 1 refine Below.setCell ?_ (by show NK ≤ NK; exact Nat.le_refl _) _
      exact Below.refl _ _
    have GM : Hid (GR W k B TB (.slice (some ⟨g, 0, none⟩) ns.length cv) ns s2 ((w5).setCell ⟨NK, 5, none⟩ (.int .i64 (-1)))) := G5.out.far bM hTN hBT (fun q e => by simp [Value.ownBlock] at e; omega)
    clear bM
    have HG7 : Hid (GR W k B TB (.slice (some ⟨g, 0, none⟩) ns.length cv) (ns.set i ⟨m.path, m.data, m.ver, m.cver, m.cz, (-1), m.pz⟩) s2 (((((((((w5).setCell ⟨NK, 5, none⟩ (.int .i64 (-1))).setCell ⟨g, i * 7, none⟩ (.string m.path)).setCell ⟨g, i * 7 + 1, none⟩ (.string m.data)).setCell ⟨g, i * 7 + 2, none⟩ (.int .i64 m.ver)).setCell ⟨g, i * 7 + 3, none⟩ (.int .i64 m.cver)).setCell ⟨g, i * 7 + 4, none⟩ (.int .i64 m.cz)).setCell ⟨g, i * 7 + 5, none⟩ (.int .i64 (-1))).setCell ⟨g, i * 7 + 6, none⟩ (.int .i64 m.pz))) := GM.out.setNd hil hk2 ⟨m.path, m.data, m.ver, m.cver, m.cz, (-1), m.pz⟩
    have HF : Hid (RdN ((((((((((w5).setCell ⟨NK, 5, none⟩ (.int .i64 (-1))).setCell ⟨g, i * 7, none⟩ (.string m.path)).setCell ⟨g, i * 7 + 1, none⟩ (.string m.data)).setCell ⟨g, i * 7 + 2, none⟩ (.int .i64 m.ver)).setCell ⟨g, i * 7 + 3, none⟩ (.int .i64 m.cver)).setCell ⟨g, i * 7 + 4, none⟩ (.int .i64 m.cz)).setCell ⟨g, i * 7 + 5, none⟩ (.int .i64 (-1))).setCell ⟨g, i * 7 + 6, none⟩ (.int .i64 m.pz)).setCell ⟨W.heap.size, 0, none⟩ (.slice (some ⟨g, 0, none⟩) ns.length cv)) (.slice (some ⟨g, 0, none⟩) ns.length cv) (ns.set i ⟨m.path, m.data, m.ver, m.cver, m.cz, (-1), m.pz⟩) ∧ SRX ((((((((((w5).setCell ⟨NK, 5, none⟩ (.int .i64 (-1))).setCell ⟨g, i * 7, none⟩ (.string m.path)).setCell ⟨g, i * 7 + 1, none⟩ (.string m.data)).setCell ⟨g, i * 7 + 2, none⟩ (.int .i64 m.ver)).setCell ⟨g, i * 7 + 3, none⟩ (.int .i64 m.cver)).setCell ⟨g, i * 7 + 4, none⟩ (.int .i64 m.cz)).setCell ⟨g, i * 7 + 5, none⟩ (.int .i64 (-1))).setCell ⟨g, i * 7 + 6, none⟩ (.int .i64 m.pz)).setCell ⟨W.heap.size, 0, none⟩ (.slice (some ⟨g, 0, none⟩) ns.length cv)) k B s2 ∧ Tch k W ((((((((((w5).setCell ⟨NK, 5, none⟩ (.int .i64 (-1))).setCell ⟨g, i * 7, none⟩ (.string m.path)).setCell ⟨g, i * 7 + 1, none⟩ (.string m.data)).setCell ⟨g, i * 7 + 2, none⟩ (.int .i64 m.ver)).setCell ⟨g, i * 7 + 3, none⟩ (.int .i64 m.cver)).setCell ⟨g, i * 7 + 4, none⟩ (.int .i64 m.cz)).setCell ⟨g, i * 7 + 5, none⟩ (.int .i64 (-1))).setCell ⟨g, i * 7 + 6, none⟩ (.int .i64 m.pz)).setCell ⟨W.heap.size, 0, none⟩ (.slice (some ⟨g, 0, none⟩) ns.length cv))) := HG7.out.outN hk2
    have ct := G5.out.ct
    have cr := G5.out.cr
    have fr := G5.out.fr
    obtain ⟨⟨nl, n0, n1, n2, n3, n4, n5, n6⟩, nf⟩ := N5.out
    obtain ⟨⟨r0, k0⟩, f0⟩ := HROW.out _ _ G5.out 0 (by omega)
    obtain ⟨⟨r1, k1⟩, f1⟩ := HROW.out _ _ G5.out 1 (by omega)
    obtain ⟨⟨r2, k2⟩, f2⟩ := HROW.out _ _ G5.out 2 (by omega)
    obtain ⟨⟨r3, k3⟩, f3⟩ := HROW.out _ _ G5.out 3 (by omega)
    obtain ⟨⟨r4, k4⟩, f4⟩ := HROW.out _ _ G5.out 4 (by omega)
    obtain ⟨⟨r5, k5⟩, f5⟩ := HROW.out _ _ G5.out 5 (by omega)
    obtain ⟨⟨r6, k6⟩, f6⟩ := HROW.out _ _ G5.out 6 (by omega)
    rw [Nat.add_zero] at k0 f0
    have HNB : Hid (∀ b o n c, (Value.slice (some ⟨g, 0, none⟩) ns.length cv) = .slice (some ⟨b, o, none⟩) n c → W.heap.size ≤ b) := fun b o n c e => by simp at e; omega
    clear HROW HG7 GM G5 N5 HSN
    iterate 260 (try (first | go_values | go_skip | go_guarded | go_step | go_upon))
    refine bodyPost_ret (v := .agg #[(.slice (some ⟨g, 0, none⟩) ns.length cv)]) ?a1 ?a2 ?a3
    case a1 => simp [results, Tryd.results52, go_sem, cr]
    case a2 => rfl
    case a3 => exact ⟨_, rfl, by rw [← HR3.out]; exact HF.out.1, by rw [← HR3.out]; exact HF.out.2.1, HF.out.2.2, HNB.out⟩
  by_cases h3 : kk = 3
  · subst h3
    rw [if_neg (by decide), if_neg (by decide), if_neg (by decide), if_pos rfl] at HR3
    have bM : Below NK w5 ((w5).setCell ⟨NK, 0, none⟩ (.string ⟨#[47, 65]⟩)) := by
      iterate 1 refine Below.setCell ?_ (by show NK ≤ NK; exact Nat.le_refl _) _
      exact Below.refl _ _
    have GM : Hid (GR W k B TB (.slice (some ⟨g, 0, none⟩) ns.length cv) ns s2 ((w5).setCell ⟨NK, 0, none⟩ (.string ⟨#[47, 65]⟩))) := G5.out.far bM hTN hBT (fun q e => by simp [Value.ownBlock] at e; omega)
    clear bM
    have HG7 : Hid (GR W k B TB (.slice (some ⟨g, 0, none⟩) ns.length cv) (ns.set i ⟨⟨#[47, 65]⟩, m.data, m.ver, m.cver, m.cz, m.mz, m.pz⟩) s2 (((((((((w5).setCell ⟨NK, 0, none⟩ (.string ⟨#[47, 65]⟩)).setCell ⟨g, i * 7, none⟩ (.string ⟨#[47, 65]⟩)).setCell ⟨g, i * 7 + 1, none⟩ (.string m.data)).setCell ⟨g, i * 7 + 2, none⟩ (.int .i64 m.ver)).setCell ⟨g, i * 7 + 3, none⟩ (.int .i64 m.cver)).setCell ⟨g, i * 7 + 4, none⟩ (.int .i64 m.cz)).setCell ⟨g, i * 7 + 5, none⟩ (.int .i64 m.mz)).setCell ⟨g, i * 7 + 6, none⟩ (.int .i64 m.pz))) := GM.out.setNd hil hk2 ⟨⟨#[47, 65]⟩, m.data, m.ver, m.cver, m.cz, m.mz, m.pz⟩
    have HF : Hid (RdN ((((((((((w5).setCell ⟨NK, 0, none⟩ (.string ⟨#[47, 65]⟩)).setCell ⟨g, i * 7, none⟩ (.string ⟨#[47, 65]⟩)).setCell ⟨g, i * 7 + 1, none⟩ (.string m.data)).setCell ⟨g, i * 7 + 2, none⟩ (.int .i64 m.ver)).setCell ⟨g, i * 7 + 3, none⟩ (.int .i64 m.cver)).setCell ⟨g, i * 7 + 4, none⟩ (.int .i64 m.cz)).setCell ⟨g, i * 7 + 5, none⟩ (.int .i64 m.mz)).setCell ⟨g, i * 7 + 6, none⟩ (.int .i64 m.pz)).setCell ⟨W.heap.size, 0, none⟩ (.slice (some ⟨g, 0, none⟩) ns.length cv)) (.slice (some ⟨g, 0, none⟩) ns.length cv) (ns.set i ⟨⟨#[47, 65]⟩, m.data, m.ver, m.cver, m.cz, m.mz, m.pz⟩) ∧ SRX ((((((((((w5).setCell ⟨NK, 0, none⟩ (.string ⟨#[47, 65]⟩)).setCell ⟨g, i * 7, none⟩ (.string ⟨#[47, 65]⟩)).setCell ⟨g, i * 7 + 1, none⟩ (.string m.data)).setCell ⟨g, i * 7 + 2, none⟩ (.int .i64 m.ver)).setCell ⟨g, i * 7 + 3, none⟩ (.int .i64 m.cver)).setCell ⟨g, i * 7 + 4, none⟩ (.int .i64 m.cz)).setCell ⟨g, i * 7 + 5, none⟩ (.int .i64 m.mz)).setCell ⟨g, i * 7 + 6, none⟩ (.int .i64 m.pz)).setCell ⟨W.heap.size, 0, none⟩ (.slice (some ⟨g, 0, none⟩) ns.length cv)) k B s2 ∧ Tch k W ((((((((((w5).setCell ⟨NK, 0, none⟩ (.string ⟨#[47, 65]⟩)).setCell ⟨g, i * 7, none⟩ (.string ⟨#[47, 65]⟩)).setCell ⟨g, i * 7 + 1, none⟩ (.string m.data)).setCell ⟨g, i * 7 + 2, none⟩ (.int .i64 m.ver)).setCell ⟨g, i * 7 + 3, none⟩ (.int .i64 m.cver)).setCell ⟨g, i * 7 + 4, none⟩ (.int .i64 m.cz)).setCell ⟨g, i * 7 + 5, none⟩ (.int .i64 m.mz)).setCell ⟨g, i * 7 + 6, none⟩ (.int .i64 m.pz)).setCell ⟨W.heap.size, 0, none⟩ (.slice (some ⟨g, 0, none⟩) ns.length cv))) := HG7.out.outN hk2
    have ct := G5.out.ct
    have cr := G5.out.cr
    have fr := G5.out.fr
    obtain ⟨⟨nl, n0, n1, n2, n3, n4, n5, n6⟩, nf⟩ := N5.out
    obtain ⟨⟨r0, k0⟩, f0⟩ := HROW.out _ _ G5.out 0 (by omega)
    obtain ⟨⟨r1, k1⟩, f1⟩ := HROW.out _ _ G5.out 1 (by omega)
    obtain ⟨⟨r2, k2⟩, f2⟩ := HROW.out _ _ G5.out 2 (by omega)
    obtain ⟨⟨r3, k3⟩, f3⟩ := HROW.out _ _ G5.out 3 (by omega)
    obtain ⟨⟨r4, k4⟩, f4⟩ := HROW.out _ _ G5.out 4 (by omega)
    obtain ⟨⟨r5, k5⟩, f5⟩ := HROW.out _ _ G5.out 5 (by omega)
    obtain ⟨⟨r6, k6⟩, f6⟩ := HROW.out _ _ G5.out 6 (by omega)
    rw [Nat.add_zero] at k0 f0
    have HNB : Hid (∀ b o n c, (Value.slice (some ⟨g, 0, none⟩) ns.length cv) = .slice (some ⟨b, o, none⟩) n c → W.heap.size ≤ b) := fun b o n c e => by simp at e; omega
    clear HROW HG7 GM G5 N5 HSN
    iterate 260 (try (first | go_values | go_skip | go_guarded | go_step | go_upon))
    refine bodyPost_ret (v := .agg #[(.slice (some ⟨g, 0, none⟩) ns.length cv)]) ?a1 ?a2 ?a3
    case a1 => simp [results, Tryd.results52, go_sem, cr]
    case a2 => rfl
    case a3 => exact ⟨_, rfl, by rw [← HR3.out]; exact HF.out.1, by rw [← HR3.out]; exact HF.out.2.1, HF.out.2.2, HNB.out⟩
  by_cases h5 : kk = 5
  · subst h5
    rw [if_neg (by decide), if_neg (by decide), if_neg (by decide), if_neg (by decide), if_neg (by decide), if_pos rfl] at HR3
    by_cases hl1 : 1 < ns.length
    · rw [if_pos hl1] at HR3
      have hl1I : (1 : Int) < (ns.length : Int) := by omega
      have hl0I : (0 : Int) < (ns.length : Int) := by omega
      have kz : w5.cell? ⟨g, 0, none⟩ = some (.string (nAt ns 0).path) := by
        have := World.ownsRow.cellAt G5.out.own 0 (by omega)
        rw [this]
        have hh := nrow_get ns 0 0 (by omega) (by omega)
        simpa [ndL] using hh
      have bM : Below NK w5 ((w5).setCell ⟨NK, 0, none⟩ (.string (nAt ns 0).path)) := by
        iterate 1 refine Below.setCell ?_ (by show NK ≤ NK; exact Nat.le_refl _) _
        exact Below.refl _ _
      have GM : Hid (GR W k B TB (.slice (some ⟨g, 0, none⟩) ns.length cv) ns s2 ((w5).setCell ⟨NK, 0, none⟩ (.string (nAt ns 0).path))) := G5.out.far bM hTN hBT (fun q e => by simp [Value.ownBlock] at e; omega)
      clear bM
      have HG7 : Hid (GR W k B TB (.slice (some ⟨g, 0, none⟩) ns.length cv) (ns.set i ⟨(nAt ns 0).path, m.data, m.ver, m.cver, m.cz, m.mz, m.pz⟩) s2 (((((((((w5).setCell ⟨NK, 0, none⟩ (.string (nAt ns 0).path)).setCell ⟨g, i * 7, none⟩ (.string (nAt ns 0).path)).setCell ⟨g, i * 7 + 1, none⟩ (.string m.data)).setCell ⟨g, i * 7 + 2, none⟩ (.int .i64 m.ver)).setCell ⟨g, i * 7 + 3, none⟩ (.int .i64 m.cver)).setCell ⟨g, i * 7 + 4, none⟩ (.int .i64 m.cz)).setCell ⟨g, i * 7 + 5, none⟩ (.int .i64 m.mz)).setCell ⟨g, i * 7 + 6, none⟩ (.int .i64 m.pz))) := GM.out.setNd hil hk2 ⟨(nAt ns 0).path, m.data, m.ver, m.cver, m.cz, m.mz, m.pz⟩
      have HF : Hid (RdN ((((((((((w5).setCell ⟨NK, 0, none⟩ (.string (nAt ns 0).path)).setCell ⟨g, i * 7, none⟩ (.string (nAt ns 0).path)).setCell ⟨g, i * 7 + 1, none⟩ (.string m.data)).setCell ⟨g, i * 7 + 2, none⟩ (.int .i64 m.ver)).setCell ⟨g, i * 7 + 3, none⟩ (.int .i64 m.cver)).setCell ⟨g, i * 7 + 4, none⟩ (.int .i64 m.cz)).setCell ⟨g, i * 7 + 5, none⟩ (.int .i64 m.mz)).setCell ⟨g, i * 7 + 6, none⟩ (.int .i64 m.pz)).setCell ⟨W.heap.size, 0, none⟩ (.slice (some ⟨g, 0, none⟩) ns.length cv)) (.slice (some ⟨g, 0, none⟩) ns.length cv) (ns.set i ⟨(nAt ns 0).path, m.data, m.ver, m.cver, m.cz, m.mz, m.pz⟩) ∧ SRX ((((((((((w5).setCell ⟨NK, 0, none⟩ (.string (nAt ns 0).path)).setCell ⟨g, i * 7, none⟩ (.string (nAt ns 0).path)).setCell ⟨g, i * 7 + 1, none⟩ (.string m.data)).setCell ⟨g, i * 7 + 2, none⟩ (.int .i64 m.ver)).setCell ⟨g, i * 7 + 3, none⟩ (.int .i64 m.cver)).setCell ⟨g, i * 7 + 4, none⟩ (.int .i64 m.cz)).setCell ⟨g, i * 7 + 5, none⟩ (.int .i64 m.mz)).setCell ⟨g, i * 7 + 6, none⟩ (.int .i64 m.pz)).setCell ⟨W.heap.size, 0, none⟩ (.slice (some ⟨g, 0, none⟩) ns.length cv)) k B s2 ∧ Tch k W ((((((((((w5).setCell ⟨NK, 0, none⟩ (.string (nAt ns 0).path)).setCell ⟨g, i * 7, none⟩ (.string (nAt ns 0).path)).setCell ⟨g, i * 7 + 1, none⟩ (.string m.data)).setCell ⟨g, i * 7 + 2, none⟩ (.int .i64 m.ver)).setCell ⟨g, i * 7 + 3, none⟩ (.int .i64 m.cver)).setCell ⟨g, i * 7 + 4, none⟩ (.int .i64 m.cz)).setCell ⟨g, i * 7 + 5, none⟩ (.int .i64 m.mz)).setCell ⟨g, i * 7 + 6, none⟩ (.int .i64 m.pz)).setCell ⟨W.heap.size, 0, none⟩ (.slice (some ⟨g, 0, none⟩) ns.length cv))) := HG7.out.outN hk2
      have ct := G5.out.ct
      have cr := G5.out.cr
      have fr := G5.out.fr
      obtain ⟨⟨nl, n0, n1, n2, n3, n4, n5, n6⟩, nf⟩ := N5.out
      obtain ⟨⟨r0, k0⟩, f0⟩ := HROW.out _ _ G5.out 0 (by omega)
      obtain ⟨⟨r1, k1⟩, f1⟩ := HROW.out _ _ G5.out 1 (by omega)
      obtain ⟨⟨r2, k2⟩, f2⟩ := HROW.out _ _ G5.out 2 (by omega)
      obtain ⟨⟨r3, k3⟩, f3⟩ := HROW.out _ _ G5.out 3 (by omega)
      obtain ⟨⟨r4, k4⟩, f4⟩ := HROW.out _ _ G5.out 4 (by omega)
      obtain ⟨⟨r5, k5⟩, f5⟩ := HROW.out _ _ G5.out 5 (by omega)
      obtain ⟨⟨r6, k6⟩, f6⟩ := HROW.out _ _ G5.out 6 (by omega)
      rw [Nat.add_zero] at k0 f0
      have HNB : Hid (∀ b o n c, (Value.slice (some ⟨g, 0, none⟩) ns.length cv) = .slice (some ⟨b, o, none⟩) n c → W.heap.size ≤ b) := fun b o n c e => by simp at e; omega
      clear HROW HG7 GM G5 N5 HSN
      iterate 260 (try (first | go_values | go_skip | go_guarded | go_step | go_upon))
      refine bodyPost_ret (v := .agg #[(.slice (some ⟨g, 0, none⟩) ns.length cv)]) ?a1 ?a2 ?a3
      case a1 => simp [results, Tryd.results52, go_sem, cr]
      case a2 => rfl
      case a3 => exact ⟨_, rfl, by rw [← HR3.out]; exact HF.out.1, by rw [← HR3.out]; exact HF.out.2.1, HF.out.2.2, HNB.out⟩
    · rw [if_neg hl1] at HR3
      have hl1I : ¬ (1 : Int) < (ns.length : Int) := by omega
      have hl1d : decide ((1 : Int) < (ns.length : Int)) = false := by simpa using hl1I
      have GM : Hid (GR W k B TB (.slice (some ⟨g, 0, none⟩) ns.length cv) ns s2 (w5)) := G5
      have HG7 : Hid (GR W k B TB (.slice (some ⟨g, 0, none⟩) ns.length cv) (ns.set i m) s2 ((((((((w5).setCell ⟨g, i * 7, none⟩ (.string m.path)).setCell ⟨g, i * 7 + 1, none⟩ (.string m.data)).setCell ⟨g, i * 7 + 2, none⟩ (.int .i64 m.ver)).setCell ⟨g, i * 7 + 3, none⟩ (.int .i64 m.cver)).setCell ⟨g, i * 7 + 4, none⟩ (.int .i64 m.cz)).setCell ⟨g, i * 7 + 5, none⟩ (.int .i64 m.mz)).setCell ⟨g, i * 7 + 6, none⟩ (.int .i64 m.pz))) := GM.out.setNd hil hk2 m
      have HF : Hid (RdN (((((((((w5).setCell ⟨g, i * 7, none⟩ (.string m.path)).setCell ⟨g, i * 7 + 1, none⟩ (.string m.data)).setCell ⟨g, i * 7 + 2, none⟩ (.int .i64 m.ver)).setCell ⟨g, i * 7 + 3, none⟩ (.int .i64 m.cver)).setCell ⟨g, i * 7 + 4, none⟩ (.int .i64 m.cz)).setCell ⟨g, i * 7 + 5, none⟩ (.int .i64 m.mz)).setCell ⟨g, i * 7 + 6, none⟩ (.int .i64 m.pz)).setCell ⟨W.heap.size, 0, none⟩ (.slice (some ⟨g, 0, none⟩) ns.length cv)) (.slice (some ⟨g, 0, none⟩) ns.length cv) (ns.set i m) ∧ SRX (((((((((w5).setCell ⟨g, i * 7, none⟩ (.string m.path)).setCell ⟨g, i * 7 + 1, none⟩ (.string m.data)).setCell ⟨g, i * 7 + 2, none⟩ (.int .i64 m.ver)).setCell ⟨g, i * 7 + 3, none⟩ (.int .i64 m.cver)).setCell ⟨g, i * 7 + 4, none⟩ (.int .i64 m.cz)).setCell ⟨g, i * 7 + 5, none⟩ (.int .i64 m.mz)).setCell ⟨g, i * 7 + 6, none⟩ (.int .i64 m.pz)).setCell ⟨W.heap.size, 0, none⟩ (.slice (some ⟨g, 0, none⟩) ns.length cv)) k B s2 ∧ Tch k W (((((((((w5).setCell ⟨g, i * 7, none⟩ (.string m.path)).setCell ⟨g, i * 7 + 1, none⟩ (.string m.data)).setCell ⟨g, i * 7 + 2, none⟩ (.int .i64 m.ver)).setCell ⟨g, i * 7 + 3, none⟩ (.int .i64 m.cver)).setCell ⟨g, i * 7 + 4, none⟩ (.int .i64 m.cz)).setCell ⟨g, i * 7 + 5, none⟩ (.int .i64 m.mz)).setCell ⟨g, i * 7 + 6, none⟩ (.int .i64 m.pz)).setCell ⟨W.heap.size, 0, none⟩ (.slice (some ⟨g, 0, none⟩) ns.length cv))) := HG7.out.outN hk2
      have ct := G5.out.ct
      have cr := G5.out.cr
      have fr := G5.out.fr
      obtain ⟨⟨nl, n0, n1, n2, n3, n4, n5, n6⟩, nf⟩ := N5.out
      obtain ⟨⟨r0, k0⟩, f0⟩ := HROW.out _ _ G5.out 0 (by omega)
      obtain ⟨⟨r1, k1⟩, f1⟩ := HROW.out _ _ G5.out 1 (by omega)
      obtain ⟨⟨r2, k2⟩, f2⟩ := HROW.out _ _ G5.out 2 (by omega)
      obtain ⟨⟨r3, k3⟩, f3⟩ := HROW.out _ _ G5.out 3 (by omega)
      obtain ⟨⟨r4, k4⟩, f4⟩ := HROW.out _ _ G5.out 4 (by omega)
      obtain ⟨⟨r5, k5⟩, f5⟩ := HROW.out _ _ G5.out 5 (by omega)
      obtain ⟨⟨r6, k6⟩, f6⟩ := HROW.out _ _ G5.out 6 (by omega)
      rw [Nat.add_zero] at k0 f0
      have HNB : Hid (∀ b o n c, (Value.slice (some ⟨g, 0, none⟩) ns.length cv) = .slice (some ⟨b, o, none⟩) n c → W.heap.size ≤ b) := fun b o n c e => by simp at e; omega
      clear HROW HG7 GM G5 N5 HSN
      iterate 260 (try (first | go_values | go_skip | go_guarded | go_step | go_upon))
      refine bodyPost_ret (v := .agg #[(.slice (some ⟨g, 0, none⟩) ns.length cv)]) ?a1 ?a2 ?a3
      case a1 => simp [results, Tryd.results52, go_sem, cr]
      case a2 => rfl
      case a3 => exact ⟨_, rfl, by rw [← HR3.out]; exact HF.out.1, by rw [← HR3.out]; exact HF.out.2.1, HF.out.2.2, HNB.out⟩
  by_cases h4 : kk = 4
  · subst h4
    rw [if_neg (by decide), if_neg (by decide), if_neg (by decide), if_neg (by decide), if_pos rfl] at HR3
    have CB := bytes_x w5 k B 65 s2 G5.out.src (by omega)
    generalize s2.bytes 65 = bq at *
    iterate 260 (try (first | go_values | go_skip | go_guarded | go_step | go_upon))
    refine CB.mono ?_
    rintro e w6 ⟨v6, rfl, o6, s6, t6⟩
    clear CB
    have hcv := conv_any o6.rd
    obtain ⟨a6, c6, rfl, -⟩ := o6.rd.len
    have G6 : Hid (GR W k B TB (.slice (some ⟨g, 0, none⟩) ns.length cv) ns bq.2 w6) := G5.out.next s6 t6 hkW
    have N6 : Hid (NB w6 NK m) := N5.out.turn9 t6 hNk
    clear o6 s6 t6 G5 N5
    simp only []
    have bM : Below NK w6 ((w6).setCell ⟨NK, 1, none⟩ (.string (strOfNums bq.1))) := by
      iterate 1 refine Below.setCell ?_ (by show NK ≤ NK; exact Nat.le_refl _) _
      exact Below.refl _ _
    have GM : Hid (GR W k B TB (.slice (some ⟨g, 0, none⟩) ns.length cv) ns bq.2 ((w6).setCell ⟨NK, 1, none⟩ (.string (strOfNums bq.1)))) := G6.out.far bM hTN hBT (fun q e => by simp [Value.ownBlock] at e; omega)
    clear bM
    have HG7 : Hid (GR W k B TB (.slice (some ⟨g, 0, none⟩) ns.length cv) (ns.set i ⟨m.path, strOfNums bq.1, m.ver, m.cver, m.cz, m.mz, m.pz⟩) bq.2 (((((((((w6).setCell ⟨NK, 1, none⟩ (.string (strOfNums bq.1))).setCell ⟨g, i * 7, none⟩ (.string m.path)).setCell ⟨g, i * 7 + 1, none⟩ (.string (strOfNums bq.1))).setCell ⟨g, i * 7 + 2, none⟩ (.int .i64 m.ver)).setCell ⟨g, i * 7 + 3, none⟩ (.int .i64 m.cver)).setCell ⟨g, i * 7 + 4, none⟩ (.int .i64 m.cz)).setCell ⟨g, i * 7 + 5, none⟩ (.int .i64 m.mz)).setCell ⟨g, i * 7 + 6, none⟩ (.int .i64 m.pz))) := GM.out.setNd hil hk2 ⟨m.path, strOfNums bq.1, m.ver, m.cver, m.cz, m.mz, m.pz⟩
    have HF : Hid (RdN ((((((((((w6).setCell ⟨NK, 1, none⟩ (.string (strOfNums bq.1))).setCell ⟨g, i * 7, none⟩ (.string m.path)).setCell ⟨g, i * 7 + 1, none⟩ (.string (strOfNums bq.1))).setCell ⟨g, i * 7 + 2, none⟩ (.int .i64 m.ver)).setCell ⟨g, i * 7 + 3, none⟩ (.int .i64 m.cver)).setCell ⟨g, i * 7 + 4, none⟩ (.int .i64 m.cz)).setCell ⟨g, i * 7 + 5, none⟩ (.int .i64 m.mz)).setCell ⟨g, i * 7 + 6, none⟩ (.int .i64 m.pz)).setCell ⟨W.heap.size, 0, none⟩ (.slice (some ⟨g, 0, none⟩) ns.length cv)) (.slice (some ⟨g, 0, none⟩) ns.length cv) (ns.set i ⟨m.path, strOfNums bq.1, m.ver, m.cver, m.cz, m.mz, m.pz⟩) ∧ SRX ((((((((((w6).setCell ⟨NK, 1, none⟩ (.string (strOfNums bq.1))).setCell ⟨g, i * 7, none⟩ (.string m.path)).setCell ⟨g, i * 7 + 1, none⟩ (.string (strOfNums bq.1))).setCell ⟨g, i * 7 + 2, none⟩ (.int .i64 m.ver)).setCell ⟨g, i * 7 + 3, none⟩ (.int .i64 m.cver)).setCell ⟨g, i * 7 + 4, none⟩ (.int .i64 m.cz)).setCell ⟨g, i * 7 + 5, none⟩ (.int .i64 m.mz)).setCell ⟨g, i * 7 + 6, none⟩ (.int .i64 m.pz)).setCell ⟨W.heap.size, 0, none⟩ (.slice (some ⟨g, 0, none⟩) ns.length cv)) k B bq.2 ∧ Tch k W ((((((((((w6).setCell ⟨NK, 1, none⟩ (.string (strOfNums bq.1))).setCell ⟨g, i * 7, none⟩ (.string m.path)).setCell ⟨g, i * 7 + 1, none⟩ (.string (strOfNums bq.1))).setCell ⟨g, i * 7 + 2, none⟩ (.int .i64 m.ver)).setCell ⟨g, i * 7 + 3, none⟩ (.int .i64 m.cver)).setCell ⟨g, i * 7 + 4, none⟩ (.int .i64 m.cz)).setCell ⟨g, i * 7 + 5, none⟩ (.int .i64 m.mz)).setCell ⟨g, i * 7 + 6, none⟩ (.int .i64 m.pz)).setCell ⟨W.heap.size, 0, none⟩ (.slice (some ⟨g, 0, none⟩) ns.length cv))) := HG7.out.outN hk2
    have ct := G6.out.ct
    have cr := G6.out.cr
    have fr := G6.out.fr
    obtain ⟨⟨nl, n0, n1, n2, n3, n4, n5, n6⟩, nf⟩ := N6.out
    obtain ⟨⟨r0, k0⟩, f0⟩ := HROW.out _ _ G6.out 0 (by omega)
    obtain ⟨⟨r1, k1⟩, f1⟩ := HROW.out _ _ G6.out 1 (by omega)
    obtain ⟨⟨r2, k2⟩, f2⟩ := HROW.out _ _ G6.out 2 (by omega)
    obtain ⟨⟨r3, k3⟩, f3⟩ := HROW.out _ _ G6.out 3 (by omega)
    obtain ⟨⟨r4, k4⟩, f4⟩ := HROW.out _ _ G6.out 4 (by omega)
    obtain ⟨⟨r5, k5⟩, f5⟩ := HROW.out _ _ G6.out 5 (by omega)
    obtain ⟨⟨r6, k6⟩, f6⟩ := HROW.out _ _ G6.out 6 (by omega)
    rw [Nat.add_zero] at k0 f0
    have HNB : Hid (∀ b o n c, (Value.slice (some ⟨g, 0, none⟩) ns.length cv) = .slice (some ⟨b, o, none⟩) n c → W.heap.size ≤ b) := fun b o n c e => by simp at e; omega
    clear HROW HG7 GM G6 N6 HSN
    iterate 260 (try (first | go_values | go_skip | go_guarded | go_step | go_upon))
    refine bodyPost_ret (v := .agg #[(.slice (some ⟨g, 0, none⟩) ns.length cv)]) ?a1 ?a2 ?a3
    case a1 => simp [results, Tryd.results52, go_sem, cr]
    case a2 => rfl
    case a3 => exact ⟨_, rfl, by rw [← HR3.out]; exact HF.out.1, by rw [← HR3.out]; exact HF.out.2.1, HF.out.2.2, HNB.out⟩
  by_cases h6 : kk = 6
  · subst h6
    rw [if_neg (by decide), if_neg (by decide), if_neg (by decide), if_neg (by decide), if_neg (by decide), if_neg (by decide), if_pos rfl] at HR3
    iterate 260 (try (first | go_values | go_skip | go_guarded | go_step | go_upon))
    refine (next_x _ k B 2 s2 G5.out.src (by omega)).mono ?_
    rintro e w6 ⟨rfl, s6, t6⟩
    have hn6 := s2.next_lt 2 (by omega)
    have G6 : Hid (GR W k B TB (.slice (some ⟨g, 0, none⟩) ns.length cv) ns (s2.next 2).2 w6) := G5.out.next s6 t6 hkW
    have N6 : Hid (NB w6 NK m) := N5.out.turn9 t6 hNk
    clear s6 t6 G5 N5
    generalize (s2.next 2).2 = s6 at *
    generalize (s2.next 2).1 = n6' at *
    simp only []
    have bM : Below NK w6 ((w6).setCell ⟨NK, 3, none⟩ (.int .i64 (999999 + (n6' : Int)))) := by
      iterate 1 refine Below.setCell ?_ (by show NK ≤ NK; exact Nat.le_refl _) _
      exact Below.refl _ _
    have GM : Hid (GR W k B TB (.slice (some ⟨g, 0, none⟩) ns.length cv) ns s6 ((w6).setCell ⟨NK, 3, none⟩ (.int .i64 (999999 + (n6' : Int))))) := G6.out.far bM hTN hBT (fun q e => by simp [Value.ownBlock] at e; omega)
    clear bM
    have HG7 : Hid (GR W k B TB (.slice (some ⟨g, 0, none⟩) ns.length cv) (ns.set i ⟨m.path, m.data, m.ver, 999999 + (n6' : Int), m.cz, m.mz, m.pz⟩) s6 (((((((((w6).setCell ⟨NK, 3, none⟩ (.int .i64 (999999 + (n6' : Int)))).setCell ⟨g, i * 7, none⟩ (.string m.path)).setCell ⟨g, i * 7 + 1, none⟩ (.string m.data)).setCell ⟨g, i * 7 + 2, none⟩ (.int .i64 m.ver)).setCell ⟨g, i * 7 + 3, none⟩ (.int .i64 (999999 + (n6' : Int)))).setCell ⟨g, i * 7 + 4, none⟩ (.int .i64 m.cz)).setCell ⟨g, i * 7 + 5, none⟩ (.int .i64 m.mz)).setCell ⟨g, i * 7 + 6, none⟩ (.int .i64 m.pz))) := GM.out.setNd hil hk2 ⟨m.path, m.data, m.ver, 999999 + (n6' : Int), m.cz, m.mz, m.pz⟩
    have HF : Hid (RdN ((((((((((w6).setCell ⟨NK, 3, none⟩ (.int .i64 (999999 + (n6' : Int)))).setCell ⟨g, i * 7, none⟩ (.string m.path)).setCell ⟨g, i * 7 + 1, none⟩ (.string m.data)).setCell ⟨g, i * 7 + 2, none⟩ (.int .i64 m.ver)).setCell ⟨g, i * 7 + 3, none⟩ (.int .i64 (999999 + (n6' : Int)))).setCell ⟨g, i * 7 + 4, none⟩ (.int .i64 m.cz)).setCell ⟨g, i * 7 + 5, none⟩ (.int .i64 m.mz)).setCell ⟨g, i * 7 + 6, none⟩ (.int .i64 m.pz)).setCell ⟨W.heap.size, 0, none⟩ (.slice (some ⟨g, 0, none⟩) ns.length cv)) (.slice (some ⟨g, 0, none⟩) ns.length cv) (ns.set i ⟨m.path, m.data, m.ver, 999999 + (n6' : Int), m.cz, m.mz, m.pz⟩) ∧ SRX ((((((((((w6).setCell ⟨NK, 3, none⟩ (.int .i64 (999999 + (n6' : Int)))).setCell ⟨g, i * 7, none⟩ (.string m.path)).setCell ⟨g, i * 7 + 1, none⟩ (.string m.data)).setCell ⟨g, i * 7 + 2, none⟩ (.int .i64 m.ver)).setCell ⟨g, i * 7 + 3, none⟩ (.int .i64 (999999 + (n6' : Int)))).setCell ⟨g, i * 7 + 4, none⟩ (.int .i64 m.cz)).setCell ⟨g, i * 7 + 5, none⟩ (.int .i64 m.mz)).setCell ⟨g, i * 7 + 6, none⟩ (.int .i64 m.pz)).setCell ⟨W.heap.size, 0, none⟩ (.slice (some ⟨g, 0, none⟩) ns.length cv)) k B s6 ∧ Tch k W ((((((((((w6).setCell ⟨NK, 3, none⟩ (.int .i64 (999999 + (n6' : Int)))).setCell ⟨g, i * 7, none⟩ (.string m.path)).setCell ⟨g, i * 7 + 1, none⟩ (.string m.data)).setCell ⟨g, i * 7 + 2, none⟩ (.int .i64 m.ver)).setCell ⟨g, i * 7 + 3, none⟩ (.int .i64 (999999 + (n6' : Int)))).setCell ⟨g, i * 7 + 4, none⟩ (.int .i64 m.cz)).setCell ⟨g, i * 7 + 5, none⟩ (.int .i64 m.mz)).setCell ⟨g, i * 7 + 6, none⟩ (.int .i64 m.pz)).setCell ⟨W.heap.size, 0, none⟩ (.slice (some ⟨g, 0, none⟩) ns.length cv))) := HG7.out.outN hk2
    have ct := G6.out.ct
    have cr := G6.out.cr
    have fr := G6.out.fr
    obtain ⟨⟨nl, n0, n1, n2, n3, n4, n5, n6⟩, nf⟩ := N6.out
    obtain ⟨⟨r0, k0⟩, f0⟩ := HROW.out _ _ G6.out 0 (by omega)
    obtain ⟨⟨r1, k1⟩, f1⟩ := HROW.out _ _ G6.out 1 (by omega)
    obtain ⟨⟨r2, k2⟩, f2⟩ := HROW.out _ _ G6.out 2 (by omega)
    obtain ⟨⟨r3, k3⟩, f3⟩ := HROW.out _ _ G6.out 3 (by omega)
    obtain ⟨⟨r4, k4⟩, f4⟩ := HROW.out _ _ G6.out 4 (by omega)
    obtain ⟨⟨r5, k5⟩, f5⟩ := HROW.out _ _ G6.out 5 (by omega)
    obtain ⟨⟨r6, k6⟩, f6⟩ := HROW.out _ _ G6.out 6 (by omega)
    rw [Nat.add_zero] at k0 f0
    have HNB : Hid (∀ b o n c, (Value.slice (some ⟨g, 0, none⟩) ns.length cv) = .slice (some ⟨b, o, none⟩) n c → W.heap.size ≤ b) := fun b o n c e => by simp at e; omega
    clear HROW HG7 GM G6 N6 HSN
    iterate 260 (try (first | go_values | go_skip | go_guarded | go_step | go_upon))
    refine bodyPost_ret (v := .agg #[(.slice (some ⟨g, 0, none⟩) ns.length cv)]) ?a1 ?a2 ?a3
    case a1 => simp [results, Tryd.results52, go_sem, cr]
    case a2 => rfl
    case a3 => exact ⟨_, rfl, by rw [← HR3.out]; exact HF.out.1, by rw [← HR3.out]; exact HF.out.2.1, HF.out.2.2, HNB.out⟩
  by_cases h0 : kk = 0
  · subst h0
    rw [if_pos rfl] at HR3
    iterate 260 (try (first | go_values | go_skip | go_guarded | go_step | go_upon))
    refine (next_x _ k B 2 s2 G5.out.src (by omega)).mono ?_
    rintro e w6 ⟨rfl, s6, t6⟩
    have hn6 := s2.next_lt 2 (by omega)
    have G6 : Hid (GR W k B TB (.slice (some ⟨g, 0, none⟩) ns.length cv) ns (s2.next 2).2 w6) := G5.out.next s6 t6 hkW
    clear s6 t6 G5 N5
    generalize (s2.next 2).2 = s6 at *
    generalize (s2.next 2).1 = n6' at *
    have CW := wide_x w6 (1000 + n6') (by omega) (by omega)
    rw [show ((1000 + n6' : Nat) : Int) = 1000 + (n6' : Int) by omega, show 1000 + n6' - 1 = 999 + n6' by omega] at CW
    generalize widN (999 + n6') = WN at *
    simp only []
    iterate 260 (try (first | go_values | go_skip | go_guarded | go_step | go_upon))
    refine CW.mono ?_
    rintro e w7 ⟨v7, rfl, o7, b7⟩
    obtain ⟨a7, c7, rfl⟩ := OwnN.slice9 o7
    have G7 : Hid (GR W k B TB (.slice (some ⟨g, 0, none⟩) ns.length cv) ns s6 w7) := G6.out.below b7 hkW
    have cr := G7.out.cr
    have fr := G7.out.fr
    have hvr : Value.ownBlock (.slice a7 WN.length c7) ≠ some W.heap.size := fun e => by have h1 := (World.ownsRow.lt o7 _ e).1; have h2 := G6.out.lt; omega
    have bS : Below W.heap.size w7 (w7.setCell ⟨W.heap.size, 0, none⟩ (.slice a7 WN.length c7)) := (Below.refl _ _).setCell (by show W.heap.size ≤ W.heap.size; exact Nat.le_refl _) _
    have HF : Hid (RdN (w7.setCell ⟨W.heap.size, 0, none⟩ (.slice a7 WN.length c7)) (.slice a7 WN.length c7) WN ∧ SRX (w7.setCell ⟨W.heap.size, 0, none⟩ (.slice a7 WN.length c7)) k B s6 ∧ Tch k W (w7.setCell ⟨W.heap.size, 0, none⟩ (.slice a7 WN.length c7))) := ⟨(OwnN.setO o7 hvr _).rd, G7.out.src.keep (bS.mono hk2), G7.out.tch.then bS⟩
    have HNB : Hid (∀ b o n c, (Value.slice a7 WN.length c7) = .slice (some ⟨b, o, none⟩) n c → W.heap.size ≤ b) := fun b o n c e => by
      have h1 := (World.ownsRow.lt o7 b (by rw [e]; rfl)).1
      have h2 := G6.out.lt
      omega
    clear CW o7 b7 G6 G7 bS HROW HSN
    simp only []
    iterate 260 (try (first | go_values | go_skip | go_guarded | go_step | go_upon))
    refine bodyPost_ret (v := .agg #[.slice a7 WN.length c7]) ?a1 ?a2 ?a3
    case a1 => simp [results, Tryd.results52, go_sem, cr]
    case a2 => rfl
    case a3 => exact ⟨_, rfl, by rw [← HR3.out]; exact HF.out.1, by rw [← HR3.out]; exact HF.out.2.1, HF.out.2.2, HNB.out⟩
  by_cases h7 : kk = 7
  · subst h7
    rw [if_neg (by decide), if_neg (by decide), if_neg (by decide), if_neg (by decide), if_neg (by decide), if_neg (by decide), if_neg (by decide), if_pos rfl] at HR3
    obtain ⟨a2, hrt, hrd, -⟩ := slice_tail G5.out.own.rd (OwnN.nilOk G5.out.own) i (by omega)
    have hrt5 := hrt w5
    have ct := G5.out.ct
    have cr := G5.out.cr
    have fr := G5.out.fr
    have bS : Below W.heap.size w5 (w5.setCell ⟨W.heap.size, 0, none⟩ (.slice a2 (ns.length - i) (cv - i))) := (Below.refl _ _).setCell (by show W.heap.size ≤ W.heap.size; exact Nat.le_refl _) _
    have HF : Hid (RdN (w5.setCell ⟨W.heap.size, 0, none⟩ (.slice a2 (ns.length - i) (cv - i))) (.slice a2 (ns.length - i) (cv - i)) (ns.drop i) ∧ SRX (w5.setCell ⟨W.heap.size, 0, none⟩ (.slice a2 (ns.length - i) (cv - i))) k B s2 ∧ Tch k W (w5.setCell ⟨W.heap.size, 0, none⟩ (.slice a2 (ns.length - i) (cv - i)))) := by
      have h3 := slice_tail (OwnN.setO (b := W.heap.size) (j := 0) G5.out.own G5.out.vr (.slice a2 (ns.length - i) (cv - i))).rd (OwnN.nilOk G5.out.own) i (by omega)
      obtain ⟨a3, hr3, hrd3, -⟩ := h3
      have e3 := (hrt w5).symm.trans (hr3 w5)
      simp only [Result.ok.injEq, Value.slice.injEq, and_true] at e3
      rw [← e3] at hrd3
      exact ⟨hrd3, G5.out.src.keep (bS.mono hk2), G5.out.tch.then bS⟩
    have HNB : Hid (∀ b o n c, (Value.slice a2 (ns.length - i) (cv - i)) = .slice (some ⟨b, o, none⟩) n c → W.heap.size ≤ b) := fun b o n c e => by
      have e3 := (hrt w5).symm.trans (run_tail (some ⟨g, 0, none⟩) ns.length cv i (by omega) w5)
      simp only [Result.ok.injEq, Value.slice.injEq, and_true] at e3
      simp only [Value.slice.injEq] at e
      rw [e3] at e
      obtain ⟨e, -, -⟩ := e
      by_cases hc : cv = i
      · rw [if_pos hc] at e; simp at e; omega
      · rw [if_neg hc, Option.map_some, Addr.add_lit] at e; simp at e; omega
    clear hrt hrd bS G5 N5 HROW HSN
    iterate 260 (try (first | go_values | go_skip | go_guarded | go_step | go_upon))
    refine bodyPost_ret (v := .agg #[.slice a2 (ns.length - i) (cv - i)]) ?a1 ?a2 ?a3
    case a1 => simp [results, Tryd.results52, go_sem, cr]
    case a2 => rfl
    case a3 => exact ⟨_, rfl, by rw [← HR3.out]; exact HF.out.1, by rw [← HR3.out]; exact HF.out.2.1, HF.out.2.2, HNB.out⟩
  have h8k : kk = 8 := by omega
  subst h8k
  rw [if_neg (by decide), if_neg (by decide), if_neg (by decide), if_neg (by decide), if_neg (by decide), if_neg (by decide), if_neg (by decide), if_neg (by decide), if_pos rfl] at HR3
  have cr := G5.out.cr
  have fr := G5.out.fr
  have bS : Below W.heap.size w5 (w5.setCell ⟨W.heap.size, 0, none⟩ (.slice none 0 0)) := (Below.refl _ _).setCell (by show W.heap.size ≤ W.heap.size; exact Nat.le_refl _) _
  have HF : Hid (RdN (w5.setCell ⟨W.heap.size, 0, none⟩ (.slice none 0 0)) (.slice none 0 0) [] ∧ SRX (w5.setCell ⟨W.heap.size, 0, none⟩ (.slice none 0 0)) k B s2 ∧ Tch k W (w5.setCell ⟨W.heap.size, 0, none⟩ (.slice none 0 0))) := ⟨⟨none, 0, rfl, Nat.le_refl _, Nat.zero_le _, .inl rfl⟩, G5.out.src.keep (bS.mono hk2), G5.out.tch.then bS⟩
  have HNB : Hid (∀ b o n c, (Value.slice none 0 0) = .slice (some ⟨b, o, none⟩) n c → W.heap.size ≤ b) := fun b o n c e => by simp at e
  clear bS G5 N5 HROW HSN
  iterate 260 (try (first | go_values | go_skip | go_guarded | go_step | go_upon))
  refine bodyPost_ret (v := .agg #[.slice none 0 0]) ?a1 ?a2 ?a3
  case a1 => simp [results, Tryd.results52, go_sem, cr]
  case a2 => rfl
  case a3 => exact ⟨_, rfl, by rw [← HR3.out]; exact HF.out.1, by rw [← HR3.out]; exact HF.out.2.1, HF.out.2.2, HNB.out⟩

end Go.Proofs.YtcopcegamadkgaaDoor

namespace Go.Proofs.YtcopcegamadkgaaDoor
open Go.RowKit

theorem strOf_strN (s : ByteArray) : strOfNums (strN s) = s := by
  cases s with
  | mk a =>
    unfold strOfNums strN
    simp only [ByteArray.mk.injEq]
    apply Array.toList_inj.1
    simp only [List.map_map]
    conv => rhs; rw [← List.map_id a.toList]
    apply List.map_congr_left
    intro b _
    simp
theorem rdT_tx (s : ByteArray) (r : List Int) : rdT (txB s ++ r) = some (s, r) := by
  show (if ((s.size : Int)).toNat ≤ (strN s ++ r).length then some (strOfNums ((strN s ++ r).take ((s.size : Int)).toNat), (strN s ++ r).drop ((s.size : Int)).toNat) else none) = _
  have h : (strN s).length = s.size := strN_len s
  rw [show ((s.size : Int)).toNat = (strN s).length by rw [h]; rfl, if_pos (by simp), List.take_left, List.drop_left, strOf_strN]
theorem num4_big (A : List Int) (v : Int) (R : List Int) (i : Nat) (hA : A.length = 4 * i) (h0 : 0 ≤ v) (h1 : v ≤ 2147483647) : num4 (A ++ (bigR v.toNat 4 ++ R)) i = v := by
  unfold num4
  rw [← hA, List.drop_left, List.take_append_of_le_length (Nat.le_of_eq (bigR_len 4 _).symm), List.take_of_length_le (Nat.le_of_eq (bigR_len 4 _)), numB_bigR 4 _ (by omega)]
  omega
theorem rdNd_node {n : Nd} (h : okNd n = true) (r : List Int) : rdNd (nodeB n ++ r) = some (n, r) := by
  obtain ⟨-, -, ⟨a0, a1⟩, ⟨b0, b1⟩, ⟨c0, c1⟩, ⟨d0, d1⟩, ⟨e0, e1⟩⟩ := okNd_all h
  unfold rdNd nodeB
  rw [List.append_assoc, List.append_assoc, rdT_tx]
  dsimp only
  rw [rdT_tx]
  dsimp only
  have hl : (stB n).length = 20 := by unfold stB; simp [bigR_len]
  rw [if_pos (by rw [List.length_append]; omega)]
  have q : ∀ v : Int, (bigR v.toNat 4).length = 4 := fun v => bigR_len 4 _
  have n0 := num4_big [] n.ver (bigR n.cver.toNat 4 ++ bigR n.cz.toNat 4 ++ bigR n.mz.toNat 4 ++ bigR n.pz.toNat 4 ++ r) 0 rfl a0 a1
  have n1 := num4_big (bigR n.ver.toNat 4) n.cver (bigR n.cz.toNat 4 ++ bigR n.mz.toNat 4 ++ bigR n.pz.toNat 4 ++ r) 1 (by simp [q]) b0 b1
  have n2 := num4_big (bigR n.ver.toNat 4 ++ bigR n.cver.toNat 4) n.cz (bigR n.mz.toNat 4 ++ bigR n.pz.toNat 4 ++ r) 2 (by simp [q]) c0 c1
  have n3 := num4_big (bigR n.ver.toNat 4 ++ bigR n.cver.toNat 4 ++ bigR n.cz.toNat 4) n.mz (bigR n.pz.toNat 4 ++ r) 3 (by simp [q]) d0 d1
  have n4 := num4_big (bigR n.ver.toNat 4 ++ bigR n.cver.toNat 4 ++ bigR n.cz.toNat 4 ++ bigR n.mz.toNat 4) n.pz r 4 (by simp [q]) e0 e1
  have e : stB n ++ r = bigR n.ver.toNat 4 ++ (bigR n.cver.toNat 4 ++ (bigR n.cz.toNat 4 ++ (bigR n.mz.toNat 4 ++ (bigR n.pz.toNat 4 ++ r)))) := by unfold stB; simp only [List.append_assoc]
  simp only [List.append_assoc, List.nil_append] at n0 n1 n2 n3 n4
  rw [e, n0, n1, n2, n3, n4, ← e, show 20 = (stB n).length from hl.symm, List.drop_left]
theorem pNs_nodes : ∀ (ns : List Nd) (f : Nat), (∀ n ∈ ns, okNd n = true) → ns.length ≤ f → pNs f (nodesB ns) = some ns
  | [], f, _, _ => pNs_nil f
  | n :: ns, f, h, hf => by
    cases f with
    | zero => simp at hf
    | succ f =>
      have hn := h n (List.mem_cons_self ..)
      have e : nodesB (n :: ns) = nodeB n ++ nodesB ns := rfl
      rw [e, pNs_some (n := n) (r := nodesB ns) (by intro h0; have := congrArg List.length h0; rw [List.length_append, nodeB_len] at this; simp at this) (rdNd_node hn _), pNs_nodes ns f (fun m hm => h m (List.mem_cons_of_mem _ hm)) (by simp at hf; omega)]
      rfl
theorem nodes_ge : ∀ ns : List Nd, ns.length ≤ (nodesB ns).length
  | [] => Nat.le_refl _
  | n :: ns => by
    have := nodes_ge ns
    have e : nodesB (n :: ns) = nodeB n ++ nodesB ns := rfl
    rw [e, List.length_append, nodeB_len, List.length_cons]
    omega
/-- The image of a tree is read back as the tree. -/
theorem decT_tree {ns : List Nd} (h : okTree ns = true) : decT (treeB ns) = some ns := by
  unfold decT treeB
  rw [if_pos h, pNs_nodes ns _ (fun n hn => by
    obtain ⟨i, hi, rfl⟩ := List.mem_iff_getElem.1 hn
    have := okTree_nd h i hi
    rw [nAt_get hi] at this
    exact this) (nodes_ge ns)]
  dsimp only
  rw [if_pos h]

end Go.Proofs.YtcopcegamadkgaaDoor

namespace Go.Proofs.YtcopcegamadkgaaDoor
open Go.RowKit Go.Shelf

theorem widO_sz (i : Nat) : (widO i).path.size ≤ 1000 ∧ (widO i).data.size ≤ 1000 := by
  unfold widO
  constructor
  · show ((⟨#[47, 110]⟩ : ByteArray) ++ ⟨(six 5 i 4).toArray⟩).size ≤ 1000
    have := six_len 5 i 4
    rw [ByteArray.size_append]
    show 2 + (six 5 i 4).toArray.size ≤ 1000
    simp; omega
  · exact Nat.zero_le _
def Sz9 (ns : List Nd) : Prop := ∀ n ∈ ns, n.path.size ≤ 1000 ∧ n.data.size ≤ 1000
theorem Sz9.at {ns : List Nd} (h : Sz9 ns) (i : Nat) : (nAt ns i).path.size ≤ 1048576 ∧ (nAt ns i).data.size ≤ 1048576 := by
  by_cases hi : i < ns.length
  · have := h _ (List.getElem_mem hi)
    rw [nAt_get hi]; omega
  · have : nAt ns i = nd0 := by unfold nAt; simp [List.getD, List.getElem?_eq_none (show ns.length ≤ i by omega)]
    rw [this]; simp [nd0]
theorem snd_sz9 {ns : List Nd} (h : Snd ns) : Sz9 ns := fun n hn => by have := okNd_all (h.2.1 n hn); omega
theorem Sz9.set {ns : List Nd} (h : Sz9 ns) (i : Nat) {x : Nd} (hx : x.path.size ≤ 1000 ∧ x.data.size ≤ 1000) : Sz9 (ns.set i x) := fun n hn => by
  rcases List.mem_or_eq_of_mem_set hn with h1 | h1
  · exact h n h1
  · rw [h1]; exact hx
theorem wid_sz9 : ∀ n, Sz9 (widN n)
  | 0 => fun n hn => by
    have : n = rootN := by simpa [widN] using hn
    rw [this]; decide
  | k + 1 => fun n hn => by
    rcases List.mem_append.1 hn with h | h
    · exact wid_sz9 k n h
    · have : n = widO (k + 1) := by simpa using h
      rw [this]; exact widO_sz _
theorem tree_sz9 (s : Sr) (hs : s.size ≤ 7) : Sz9 s.tree.1 ∧ s.tree.1.length ≤ 1048576 := by
  obtain ⟨h1, h2, -⟩ := s.grow_inv (4 + 3 * s.size) (by omega)
  have hz := snd_sz9 h1
  unfold Sr.tree treeD
  generalize (s.grow (4 + 3 * s.size)).1 = ns at *
  generalize (s.grow (4 + 3 * s.size)).2.2 = s0 at *
  generalize ((s0.next 40).2.next ns.length).1 = i
  generalize ((s0.next 40).2.next ns.length).2 = s2
  have hm : ∀ j, (nAt ns j).path.size ≤ 1000 ∧ (nAt ns j).data.size ≤ 1000 := snd_sz h1
  have hmi := hm i
  have hm0 := hm 0
  have e2 : (⟨#[47, 65]⟩ : ByteArray).size = 2 := rfl
  have hset : ∀ x : Nd, x.path.size ≤ 1000 ∧ x.data.size ≤ 1000 → Sz9 (ns.set i x) ∧ (ns.set i x).length ≤ 1048576 := fun x hx => ⟨hz.set _ hx, by rw [List.length_set]; omega⟩
  unfold treeK
  split
  · exact ⟨wid_sz9 _, by show (widN _).length ≤ _; rw [widN_len]; have := s2.next_lt 2 (by omega); omega⟩
  split
  · exact hset _ hmi
  split
  · exact hset _ hmi
  split
  · exact hset _ ⟨by show (⟨#[47, 65]⟩ : ByteArray).size ≤ _; rw [e2]; omega, hmi.2⟩
  split
  · exact hset _ ⟨hmi.1, by show (strOfNums _).size ≤ _; rw [strOfNums_size, Sr.bytes_len]; omega⟩
  split
  · refine hset _ ⟨?_, hmi.2⟩
    show (if 1 < ns.length then (nAt ns 0).path else (nAt ns i).path).size ≤ _
    split
    · exact hm0.1
    · exact hmi.1
  split
  · exact hset _ hmi
  split
  · exact ⟨fun n hn => hz n (List.mem_of_mem_drop hn), by show (ns.drop i).length ≤ _; rw [List.length_drop]; omega⟩
  split
  · exact ⟨fun n hn => (by cases hn), Nat.zero_le _⟩
  · exact hset _ hmi

set_option maxHeartbeats 1000000 in
set_option maxRecDepth 100000 in
theorem drawEncT_x (w : World) (v : Value) (xs : List Int) (h : Rd .u8 w v xs) (hby : Byt xs) (hn : xs.length ≤ 1048576) :
    Calls Tryd.prog 12 #[v] w fun e w' => ∃ u, e = .returned (.agg #[u]) ∧ RdN w' u (srcOf xs).tree.1 ∧ Below w.heap.size w w' := by
  have BR : Hid (Below w.heap.size w (w.alloc (.cells #[.slice none 0 0] 36))) := (Below.refl _ _).alloc (Nat.le_refl _) _
  have HR : Hid (Rd .u8 (w.alloc (.cells #[.slice none 0 0] 36)) v xs) := h.below BR.out
  have c0 : Hid ((w.alloc (.cells #[.slice none 0 0] 36)).cell? ⟨w.heap.size, 0, none⟩ = some (.slice none 0 0)) := by show _ = _; simp
  have f0 : Hid ((w.alloc (.cells #[.slice none 0 0] 36)).frozen? ⟨w.heap.size, 0, none⟩ = false) := by show _ = _; simp
  have hs : (w.alloc (.cells #[.slice none 0 0] 36)).heap.size = w.heap.size + 1 := by simp
  obtain ⟨va, vc, rfl, -⟩ := h.len
  obtain ⟨tq, htq⟩ : ∃ q, q = (srcOf xs).tree := ⟨_, rfl⟩
  rw [← htq]
  have HTQ : Hid (tq = (srcOf xs).tree) := htq
  clear h htq
  go_enter Tryd.func12, Tryd.ntmps12
  go_wp2_with fail
  generalize w.alloc (.cells #[.slice none 0 0] 36) = w0 at *
  refine (sourceX_any w0 _ xs HR.out hby hn).mono ?_
  rintro e w1 ⟨k, rfl, hk, s1, b1⟩
  go_wp2_with fail
  have hz1 := b1.size
  refine (tree_x w1 k w1.heap.size (srcOf xs) s1).mono ?_
  rintro e w2 ⟨u, rfl, r2, s2, t2, hnb⟩
  rw [← HTQ.out] at r2
  have b2 : Below (w.heap.size + 1) w1 w2 := t2.below (by omega) (by omega)
  have b02 : Below w0.heap.size w0 w2 := b1.trans (by rw [hs]; exact b2)
  have c2 := (b02.cell (p := ⟨w.heap.size, 0, none⟩) (by rw [hs]; show w.heap.size < _; omega)).trans c0.out
  have f2 := (b02.frozen (p := ⟨w.heap.size, 0, none⟩) (by rw [hs]; show w.heap.size < _; omega)).trans f0.out
  obtain ⟨ua, uc, rfl, _, _⟩ := r2.len
  have F : Hid (RdN (w2.setCell ⟨w.heap.size, 0, none⟩ (.slice ua tq.1.length uc)) (.slice ua tq.1.length uc) tq.1 ∧ Below w.heap.size w (w2.setCell ⟨w.heap.size, 0, none⟩ (.slice ua tq.1.length uc))) := by
    refine ⟨RdN.grown (u := .slice (some ⟨w.heap.size, 0, none⟩) 0 0) r2 (grownBy_set _ _ _ _ _ (World.grownBy.refl _ _)) (.inr (fun b o n c e => ?_)), ((BR.out.trans (b02.mono (by rw [hs]; omega))).setCell (by show w.heap.size ≤ w.heap.size; exact Nat.le_refl _) _)⟩
    have := hnb b o n c e
    simp [Value.ownBlock]
    omega
  clear hnb r2 s2 t2 b2 b02 s1 b1 HR c0 f0
  go_wp2
  exact bodyPost_ret (v := .agg #[.slice ua tq.1.length uc]) (by simp [results, Tryd.results12, go_sem, c2]) rfl ⟨_, rfl, F.out.1, F.out.2⟩

end Go.Proofs.YtcopcegamadkgaaDoor

namespace Go.Proofs.YtcopcegamadkgaaDoor
open Go.RowKit Go.Shelf

set_option maxHeartbeats 2000000 in
set_option maxRecDepth 100000 in
theorem sameTree_yes (w : World) (va vb : Value) (ns : List Nd) (ha : RdN w va ns) (hb : RdN w vb ns) (hn : ns.length ≤ 1048576) :
    Calls Tryd.prog 17 #[.agg #[va], .agg #[vb]] w fun e w' => e = .returned (.bool true) ∧ Below w.heap.size w w' := by
  obtain ⟨ao, ca, rfl, _, _⟩ := ha.len
  obtain ⟨bo, cb, rfl, _, _⟩ := hb.len
  have HA : Hid (RdN w (.slice ao ns.length ca) ns) := ha
  have HB : Hid (RdN w (.slice bo ns.length cb) ns) := hb
  have B0 : Hid (Below w.heap.size w ((w.alloc (.cells #[.slice ao ns.length ca] 36)).alloc (.cells #[.slice bo ns.length cb] 36))) := ((Below.refl _ _).alloc (Nat.le_refl _) _).alloc (by simp) _
  have c0 : Hid (((w.alloc (.cells #[.slice ao ns.length ca] 36)).alloc (.cells #[.slice bo ns.length cb] 36)).cell? ⟨w.heap.size, 0, none⟩ = some (.slice ao ns.length ca)) := by show _ = _; go_simp
  have c1 : Hid (((w.alloc (.cells #[.slice ao ns.length ca] 36)).alloc (.cells #[.slice bo ns.length cb] 36)).cell? ⟨w.heap.size + 1, 0, none⟩ = some (.slice bo ns.length cb)) := by show _ = _; go_simp
  have hs : Hid (((w.alloc (.cells #[.slice ao ns.length ca] 36)).alloc (.cells #[.slice bo ns.length cb] 36)).heap.size = w.heap.size + 2) := by show _ = _; simp
  clear ha hb
  have HAT : Hid (∀ W, Below w.heap.size w W → ∀ (ao : Option Addr) (c : Nat), RdN w (.slice ao ns.length c) ns → ∀ i, i < ns.length → ∃ b o, ao = some ⟨b, o, none⟩ ∧ CellsN W b (o + i * 7) (nAt ns i)) := by
    intro W hW ao c hr i hi
    obtain ⟨ao', c', e', -, -, h3⟩ := hr.below hW
    simp only [Value.slice.injEq] at e'
    obtain ⟨rfl, -, -⟩ := e'
    rcases h3 with h3 | ⟨b, o, rfl, -, hc⟩
    · rw [h3] at hi; simp at hi
    · exact ⟨b, o, rfl, hc i hi⟩
  have d0 := c0.out
  have d1 := c1.out
  go_enter Tryd.func17, Tryd.ntmps17
  go_wp2
  clear d0 d1
  generalize (w.alloc (.cells #[.slice ao ns.length ca] 36)).alloc (.cells #[.slice bo ns.length cb] 36) = w0 at *
  go_loopw [5] (fun i wr => ∃ j : Nat, j ≤ ns.length ∧ i = .int .i64 j ∧ Hid (Below w0.heap.size w0 wr)) (fun i _ => ns.length - (intOf i).toNat)
  case atStart => exact ⟨0, Nat.zero_le _, rfl, Below.refl _ _⟩
  case round =>
    obtain ⟨j, hj, rfl, BK⟩ := hrel
    have d0 := (BK.out.cell (p := ⟨w.heap.size, 0, none⟩) (by rw [hs.out]; show w.heap.size < _; omega)).trans c0.out
    have d1 := (BK.out.cell (p := ⟨w.heap.size + 1, 0, none⟩) (by rw [hs.out]; show w.heap.size + 1 < _; omega)).trans c1.out
    have bW : Below w.heap.size w wr := B0.out.trans (BK.out.mono (by rw [hs.out]; omega))
    by_cases hlt : j < ns.length
    · have hltI : (j : Int) < (ns.length : Int) := by omega
      obtain ⟨b, o, rfl, hc⟩ := HAT.out wr bW ao ca HA.out j hlt
      obtain ⟨b', o', rfl, hc'⟩ := HAT.out wr bW bo cb HB.out j hlt
      obtain ⟨a0, a1, a2, a3, a4, a5, a6⟩ := hc
      obtain ⟨e0, e1, e2, e3, e4, e5, e6⟩ := hc'
      generalize nAt ns j = m at *
      have BD : Hid (∀ q, Below w0.heap.size w0 (wr.drewN q)) := fun q => BK.out.trans ((below_drewN' wr q).mono BK.out.size)
      clear bW
      go_wp2
      go_quiet (fail)
      go_wp2
      go_roundw
      case rel => exact ⟨j + 1, by omega, by go_num, BD.out _⟩
      case measure => simp [intOf]; omega
    · go_wp2
      go_ret
      exact ⟨rfl, bW⟩

end Go.Proofs.YtcopcegamadkgaaDoor

namespace Go.Proofs.YtcopcegamadkgaaDoor
open Go.RowKit Go.Shelf

theorem BxN.new (w : World) (o : Obj) (n : Nd) : BxN ((w.alloc o).alloc (.cells #[.string n.path, .string n.data, .int .i64 n.ver, .int .i64 n.cver, .int .i64 n.cz, .int .i64 n.mz, .int .i64 n.pz] 86)) (w.heap.size + 1) n := by
  have := heap_alloc_new (w.alloc o) (.cells #[.string n.path, .string n.data, .int .i64 n.ver, .int .i64 n.cver, .int .i64 n.cz, .int .i64 n.mz, .int .i64 n.pz] 86)
  rw [show (w.alloc o).heap.size = w.heap.size + 1 by simp] at this
  exact ⟨⟨_, _, _, this, by decide⟩, (cell_of this _).trans rfl, (cell_of this _).trans rfl, (cell_of this _).trans rfl, (cell_of this _).trans rfl, (cell_of this _).trans rfl, (cell_of this _).trans rfl, (cell_of this _).trans rfl⟩

set_option maxHeartbeats 1000000 in
set_option maxRecDepth 100000 in
theorem encTree_row (w : World) (b o n cap : Nat) (ns : List Nd) (hp : ns.length = n) (hb : b < w.heap.size) (hc : ∀ i, i < n → CellsN w b (o + i * 7) (nAt ns i)) (hR : RdN w (.slice (some ⟨b, o, none⟩) n cap) ns)
    (hsz : ∀ i, (nAt ns i).path.size ≤ 1048576 ∧ (nAt ns i).data.size ≤ 1048576) :
    Calls Tryd.prog 13 #[.agg #[.slice (some ⟨b, o, none⟩) n cap]] w fun e w' => ∃ v', e = .returned v' ∧ Own .u8 5 w' w.heap.size v' (treeB ns) ∧ Below w.heap.size w w' := by
  have HC : Hid (∀ i, i < n → CellsN w b (o + i * 7) (nAt ns i)) := hc
  have HP : Hid (ns.length = n) := hp
  have HR : Hid (RdN w (.slice (some ⟨b, o, none⟩) n cap) ns) := hR
  have HZ : Hid (∀ i, (nAt ns i).path.size ≤ 1048576 ∧ (nAt ns i).data.size ≤ 1048576) := hsz
  have B0 : Hid (Below w.heap.size w (w.alloc (.cells #[.slice (some ⟨b, o, none⟩) n cap] 36))) := (Below.refl _ _).alloc (Nat.le_refl _) _
  have X0 : Hid (Boxed (w.alloc (.cells #[.slice (some ⟨b, o, none⟩) n cap] 36)) w.heap.size 36 (.slice (some ⟨b, o, none⟩) n cap)) := Boxed.new _ _ _
  clear hc hp hR hsz
  go_enter Tryd.func13, Tryd.ntmps13
  go_wp2_with fail
  generalize w.alloc (.cells #[.slice (some ⟨b, o, none⟩) n cap] 36) = w0 at *
  refine (implTree_any _ _ ns (HR.out.below B0.out) HZ.out).mono ?_
  rintro e w1 ⟨rfl, b1⟩
  have B1 : Hid (Below w.heap.size w w1) := B0.out.trans (b1.mono B0.out.size)
  have X1 : Hid (Boxed w1 w.heap.size 36 (.slice (some ⟨b, o, none⟩) n cap)) := boxed_below b1 X0.out
  clear b1 X0 B0
  by_cases hok : okTree ns = true
  rotate_left
  · have hok' : okTree ns = false := by simpa using hok
    have HT : Hid (treeB ns = []) := by show _ = _; unfold treeB; rw [if_neg hok]
    rw [hok']
    clear hok hok'
    go_wp2
    go_ret
    exact ⟨_, rfl, (by rw [HT.out]; exact World.ownsRow_nil _ _ _ _), B1.out⟩
  have hn : n ≤ 1000 := by have := okTree_len hok; rw [HP.out] at this; exact this
  have HT : Hid (treeB ns = nodesB ns) := by show _ = _; unfold treeB; rw [if_pos hok]
  have HOK : Hid (∀ k, k < n → okNd (nAt ns k) = true) := fun k hk => okTree_nd hok k (by rw [HP.out]; exact hk)
  have HLN : Hid (∀ k, k ≤ n → (nodesB (ns.take k)).length ≤ k * 188) := fun k hk => nodesB_len (okTree_nd hok) k (by rw [HP.out]; exact hk)
  rw [hok]
  clear hok
  have c0 := X1.out.cell
  go_wp2
  go_loopw [3, 13] (fun vi vk wr => ∃ k : Nat, k ≤ n ∧ vk = .int .i64 k ∧ Hid (Own .u8 5 wr w.heap.size vi (nodesB (ns.take k))) ∧ Hid (Below w.heap.size w wr)) (fun _ i _ => n - (intOf i).toNat)
  case atStart => exact ⟨0, Nat.zero_le _, rfl, World.ownsRow_nil _ _ _ _, B1⟩
  case round =>
    clear c0
    obtain ⟨k, hk, rfl, HW, HB⟩ := hrel
    have sB := HB.out.size
    by_cases hlt : k < n
    · have hltI : (k : Int) < (n : Int) := by omega
      obtain ⟨c0, c1, c2, c3, c4, c5, c6⟩ := (HC.out k hlt).below HB.out hb
      go_wp2_with fail
      clear c0 c1 c2 c3 c4 c5 c6
      refine (encNode_any _ w.heap.size u3 (nodesB (ns.take k)) (wr.heap.size + 1) (nAt ns k) ?e1 ?e2 ?e3 ?e4 (HOK.out k hlt)).mono ?_
      case e1 => exact (HW.out.below ((Below.refl _ _).alloc (Nat.le_refl _) _)).below ((Below.refl _ _).alloc (Nat.le_refl _) _)
      case e2 => simp; omega
      case e3 => have := HLN.out k hk; omega
      case e4 => exact BxN.new _ _ _
      rintro e w4 ⟨v4, rfl, o4, b4, -⟩
      have O4 : Hid (Own .u8 5 w4 w.heap.size v4 (nodesB (ns.take (k + 1)))) := by
        rw [nodesB_succ ns k (by rw [HP.out]; exact hlt)] at o4; exact o4
      have B4 : Hid (Below w.heap.size w w4) := ((HB.out.alloc sB _).alloc (by simp; omega) _).trans b4
      clear o4 b4 HW HB
      go_wp2
      exact ⟨⟨k + 1, by omega, by go_num, O4, B4⟩, by simp [intOf]; omega⟩
    · have hkn : k = n := by omega
      subst hkn
      go_wp2
      go_ret
      refine ⟨_, rfl, ?_, HB.out⟩
      rw [HT.out, ← nodesB_all ns k (by rw [HP.out]; exact Nat.le_refl _)]
      exact HW.out

set_option maxHeartbeats 1000000 in
set_option maxRecDepth 100000 in
theorem encTree_nil (w : World) (ao : Option Addr) (cap : Nat) (hc : cap ≤ maxLen) :
    Calls Tryd.prog 13 #[.agg #[.slice ao 0 cap]] w fun e w' => ∃ v', e = .returned v' ∧ Own .u8 5 w' w.heap.size v' [] ∧ Below w.heap.size w w' := by
  have HR : Hid (RdN w (.slice ao 0 cap) []) := ⟨ao, cap, rfl, Nat.zero_le _, hc, .inl rfl⟩
  have B0 : Hid (Below w.heap.size w (w.alloc (.cells #[.slice ao 0 cap] 36))) := (Below.refl _ _).alloc (Nat.le_refl _) _
  have X0 : Hid (Boxed (w.alloc (.cells #[.slice ao 0 cap] 36)) w.heap.size 36 (.slice ao 0 cap)) := Boxed.new _ _ _
  go_enter Tryd.func13, Tryd.ntmps13
  go_wp2_with fail
  generalize w.alloc (.cells #[.slice ao 0 cap] 36) = w0 at *
  refine (implTree_any _ _ [] (HR.out.below B0.out) (fun i => by simp [nAt, nd0])).mono ?_
  rintro e w1 ⟨rfl, b1⟩
  have B1 : Hid (Below w.heap.size w w1) := B0.out.trans (b1.mono B0.out.size)
  have X1 : Hid (Boxed w1 w.heap.size 36 (.slice ao 0 cap)) := boxed_below b1 X0.out
  clear b1 X0 B0
  rw [show okTree [] = true from rfl]
  have c0 := X1.out.cell
  go_wp2
  go_rounds 1
  go_ret
  exact ⟨_, rfl, World.ownsRow_nil _ _ _ _, B1.out⟩

theorem encTree_any (w : World) (v : Value) (ns : List Nd) (h : RdN w v ns) (hsz : ∀ i, (nAt ns i).path.size ≤ 1048576 ∧ (nAt ns i).data.size ≤ 1048576) :
    Calls Tryd.prog 13 #[.agg #[v]] w fun e w' => ∃ v', e = .returned v' ∧ Own .u8 5 w' w.heap.size v' (treeB ns) ∧ Below w.heap.size w w' := by
  have h0 := h
  obtain ⟨ao, cap, rfl, h1, h2, h3⟩ := h
  rcases h3 with rfl | ⟨b, o, rfl, hb, hc⟩
  · exact encTree_nil w ao cap h2
  · exact encTree_row w b o ns.length cap ns rfl hb hc h0 hsz

end Go.Proofs.YtcopcegamadkgaaDoor

namespace Go.Proofs.YtcopcegamadkgaaDoor
open Go.RowKit Go.Shelf

theorem own_full {e : TypeId} {w : World} {base : Nat} {v : Value} {xs : List Int} (h : Own .u8 e w base v xs) (hn : 0 < xs.length) : ∃ g c, v = .slice (some ⟨g, 0, none⟩) xs.length c := by
  rcases h.2 with ⟨-, h0⟩ | ⟨g, cap, cur, rfl, -⟩
  · omega
  · exact ⟨g, cap, rfl⟩
end Go.Proofs.YtcopcegamadkgaaDoor

namespace Go.Proofs.YtcopcegamadkgaaDoor
open Go.RowKit

section
variable {P : Program} (w : World)

theorem zeros_list (m : Nat) : (Builtin.zeroCells (Value.int .u8 0).cells m).toList = List.replicate m (Value.int .u8 0) := by
  apply List.ext_getElem
  · simp [Builtin.zeroCells, Value.cells]
  · intro j h1 h2
    simp [Builtin.zeroCells, Value.cells, Nat.mod_one]

theorem run_append_own_zeros (base : Nat) (t tn ty e : TypeId) (i : TypeInfo) (k kn : IntKind) (ht : P.underlying t = some (.slice e)) (htn : P.underlying tn = some (.int kn)) (hi : P.info? e = some i) (hz : i.zero = some (.int .u8 0))
    (hsize : i.size = 1) (hby : i.bytes = 1) (g n cap : Nat) (xs : List Value) (hown : w.ownsRow base e 1 (.slice (some ⟨g, 0, none⟩) n cap) n xs) (m : Nat) (h0 : 0 < m) (hm : n + m ≤ 1048576) (hbase : base ≤ w.heap.size) :
    ∃ v' w', (Builtin.append_ #[t, tn] ty #[.slice (some ⟨g, 0, none⟩) n cap, .int k m]).run P w = .ok v' w' ∧ w'.ownsRow base e 1 v' (n + m) (xs ++ List.replicate m (Value.int .u8 0)) ∧ w.grownBy w' (some g) := by
  have hxl : xs.length = n := by simpa using hown.1
  have hlen : (xs ++ List.replicate m (Value.int .u8 0)).length = (n + m) * 1 := by rw [List.length_append, hxl, List.length_replicate, Nat.mul_one]
  have hw : IntKind.i64.wrap (m : Int) = m := by rw [IntKind.wrap_i64]; omega
  have h63' : ¬ (9223372036854775807 < ((n : Int) + (m : Int))) := by omega
  have h48i : ¬ (281474976710656 < (m : Int)) := by omega
  have hneg : ¬ ((m : Int) < 0) := by omega
  have hns : ¬ (m = 0) := by omega
  have hcells := zeros_list m
  have hone : ∀ u ∈ List.replicate m (Value.int .u8 0), u.oneCell' = true := by intro u hu; rw [List.eq_of_mem_replicate hu]; rfl
  rcases hown.2 with ⟨h1, -⟩ | ⟨g', cap', cur, h1, hbg, hg, hnc, hcm, hcs, htake⟩
  · simp at h1
  · simp only [Value.slice.injEq, Option.some.injEq, Addr.mk.injEq, and_true] at h1
    obtain ⟨rfl, -, rfl⟩ := h1
    by_cases hroom : n + m ≤ cap
    · have hcs' : cur.size = cap := by simpa using hcs
      have hst := run_storeCells_at P g n e (List.replicate m (Value.int .u8 0)) 0 cur w hg (by simp; omega) hone
      simp only [Nat.add_zero, List.length_replicate] at hst
      refine ⟨.slice (some ⟨g, 0, none⟩) (n + m) cap, w.setRow g (cur.toList.take n ++ List.replicate m (Value.int .u8 0) ++ cur.toList.drop (n + m)).toArray, ?_, ⟨hlen, .inr ⟨g, cap, _, rfl, hbg, setRow_heap w g cur _ e _ hg, hroom, hcm, ?_, ?_⟩⟩, ⟨rfl, rfl, rfl, by simp, fun k _ hk => setRow_other w g k _ (fun e => hk (by simp [e]))⟩⟩
      · simp [Builtin.append_, run_underlying ht, run_underlying htn, sizeOf, typeInfo, zeroValue, hi, hz, hsize, hby, asInt, asIntOf, hw, hneg, hns, h48i, hroom, hcells, Addr.add_lit, hst]
      · simp only [List.size_toArray, List.length_append, List.length_take, List.length_drop, Array.length_toList, List.length_replicate]
        omega
      · have ht' : cur.toList.take n = xs := by simpa using htake
        rw [ht', ← hlen]
        exact List.take_left
    · have holds : ∀ j u, xs[j]? = some u → w.cell? ((⟨g, 0, none⟩ : Addr).add j) = some u := hown.cells (g := g) rfl
      have hn : ¬ (n + m ≤ cap) := hroom
      have h48' : ¬ (281474976710656 < Builtin.nextslicecap (n + m) cap) := by
        have := growslice_fits (need := n + m) (old := cap) (bytes := 1) (by omega) (by omega)
        omega
      have hfo := run_firstCells_some (P := P) w.drew 1 n ⟨g, 0, none⟩ n cap xs (by omega) (by simpa using holds)
      have hge := grownCap_ge w (n + m) cap e
      have hcm2 : grownCap w (n + m) cap e ≤ maxLen := grownCap_le_maxLen w (n + m) cap e (by unfold maxLen; omega)
      refine ⟨.slice (some ⟨w.heap.size, 0, none⟩) (n + m) (grownCap w (n + m) cap e), w.drew.alloc (.cells (xs.toArray ++ (Builtin.zeroCells (Value.int .u8 0).cells m) ++ Builtin.zeroCells (Value.int .u8 0).cells (grownCap w (n + m) cap e - (n + m))) e), ?_, ⟨hlen, .inr ⟨w.heap.size, _, _, rfl, hbase, heap_alloc_new w.drew _, hge, hcm2, ?_, ?_⟩⟩, ⟨rfl, rfl, rfl, by simp, fun k hk _ => Below.heap_alloc w.drew _ k hk⟩⟩
      · simp [Builtin.append_, run_underlying ht, run_underlying htn, sizeOf, typeInfo, zeroValue, hi, hz, hsize, hby, asInt, asIntOf, hw, hneg, hns, h48i, hn, h63', h48', Question.forced, hfo, newRow, grownCap]
      · have hz1 : (Value.int IntKind.u8 0).cells.size = 1 := rfl
        simp only [Array.size_append, List.size_toArray, size_zeroCells, hz1, hxl]
        omega
      · simp only [Array.toList_append, List.append_assoc, hcells]
        rw [← List.append_assoc, ← hlen]
        exact List.take_left

theorem wpList_append_zeros {ops : Array Oper} {rest : List Oper} {o : Oper} {a : Act} {Q : Exit → Act → World → Prop} (hgd : o.guard = none) (sl x : Operand) (t tn : TypeId)
    (ho : o.op = .call { callee := .builtin .append, args := #[sl, x], argTypes := #[t, tn] })
    (base : Nat) (e : TypeId) (i : TypeInfo) (k kn : IntKind) (ht : P.underlying t = some (.slice e)) (htn : P.underlying tn = some (.int kn)) (hi : P.info? e = some i) (hz : i.zero = some (.int .u8 0))
    (hsize : i.size = 1) (hby : i.bytes = 1) (g n cap : Nat) (xs : List Value) (hs : a.eval sl = .slice (some ⟨g, 0, none⟩) n cap) (hown : w.ownsRow base e 1 (.slice (some ⟨g, 0, none⟩) n cap) n xs) (m : Nat) (hx : a.eval x = .int k m)
    (h0 : 0 < m) (hm : n + m ≤ 1048576) (hbase : base ≤ w.heap.size)
    (h : ∀ v' w', w'.ownsRow base e 1 v' (n + m) (xs ++ List.replicate m (Value.int .u8 0)) → w.grownBy w' (some g) → wpList P ops Q rest (a.put o.dst v') w') : wpList P ops Q (o :: rest) a w := by
  obtain ⟨v', w', hr, h2, h3⟩ := run_append_own_zeros (P := P) w base t tn o.type e i k kn ht htn hi hz hsize hby g n cap xs hown m h0 hm hbase
  exact Lib.wpList_append_run w hgd sl x t tn ho _ _ hs hx v' w' hr (h v' w' h2 h3)

end
end Go.Proofs.YtcopcegamadkgaaDoor

namespace Go.Proofs.YtcopcegamadkgaaDoor
open Go.RowKit

set_option maxHeartbeats 1000000 in
set_option maxRecDepth 100000 in
theorem implNumberS_any (w : World) (base : Nat) (v : Value) (xs : List Int) (N n : Nat) (h : Own .u8 5 w base v xs) (hb : base ≤ w.heap.size) (hl : xs.length ≤ 1048576) (hn : n ≤ 8) :
    Calls Tryd.prog 88 #[v, .int .i64 N, .int .i64 n] w fun e w' => ∃ v', e = .returned v' ∧ Own .u8 5 w' base v' (xs ++ bigR N n) ∧ Below base w w' := by
  obtain ⟨i0, hi, hz0, hz1, hz2⟩ := info_parts Tryd.infoB
  have HO : Hid (Own .u8 5 w base v xs) := h
  clear h
  go_enter Tryd.func88, Tryd.ntmps88
  go_wp2
  go_loopw [0, 7] (fun vi vl wr => ∃ (k : Nat) (z : Int), k ≤ n ∧ vl = .int .i64 z ∧ z + 1 + (k : Int) = (n : Int) ∧ Hid (Own .u8 5 wr base vi (xs ++ bigR (N / 2 ^ (8 * (n - k))) k)) ∧ Hid (Below base w wr)) (fun _ i _ => ((intOf i) + 1).toNat)
  case atStart => exact ⟨0, (n : Int) - 1, Nat.zero_le _, rfl, by omega, by show Own _ _ _ _ _ _; unfold bigR; rw [List.append_nil]; exact HO.out, Below.refl _ _⟩
  case round =>
    obtain ⟨k, z, hk, rfl, hz, HW, HB⟩ := hrel
    have sB := HB.out.size
    by_cases hz0' : 0 ≤ z
    · obtain ⟨l, rfl⟩ : ∃ l : Nat, z = (l : Int) := ⟨z.toNat, by omega⟩
      have hl8 : l ≤ 7 := by omega
      have HST : Hid (bigR (N / 2 ^ (8 * (n - k))) k ++ [((N / 2 ^ (8 * l) % 256 : Nat) : Int)] = bigR (N / 2 ^ (8 * (n - (k + 1)))) (k + 1)) := by
        show _ = _
        rw [show n - k = l + 1 by omega, show n - (k + 1) = l by omega]; exact bigR_step N l k
      obtain ⟨ys, hys⟩ : ∃ ys, ys = xs ++ bigR (N / 2 ^ (8 * (n - k))) k := ⟨_, rfl⟩
      have HYS : Hid (ys = xs ++ bigR (N / 2 ^ (8 * (n - k))) k) := hys
      have HW1 : Hid (wr.ownsRow base 5 1 u0 ys.length (ys.map (Value.int .u8))) := by rw [hys]; exact HW.out
      have hyl : ys.length ≤ 1048600 := by rw [hys, List.length_append, bigR_len]; omega
      clear hys HW
      have HV : Hid ((N : Int) / 2 ^ (8 * l) % 256 = ((N / 2 ^ (8 * l) % 256 : Nat) : Int)) := by show _ = _; rw [shr_cast]; rfl
      go_wp2_with (at_builtin; go_must (refine wpList_append_own _ rfl _ _ 24 rfl base 5 i0 (.int .u8 0) 1 1 Tryd.underlying24 hi hz0 hz1 hz2 rfl (by decide) _ _ _ rfl (World.ownsRow.alloc HW1.out _) ⟨wr.heap.size, 0, none⟩ 1 1 [.int .u8 ((N : Int) / 2 ^ (8 * l) % 256)] rfl rfl (cell_one_new _ _ _) (by intro u hu; simp at hu; subst hu; rfl) ?c3 ?c4 ?c5 ?_))
      case c3 => unfold maxLen; omega
      case c4 => omega
      case c5 => simp; omega
      intro v2 w2 ho2 hg2 _
      have HO2 : Hid (Own .u8 5 w2 base v2 (xs ++ bigR (N / 2 ^ (8 * (n - (k + 1)))) (k + 1))) := by
        rw [HV.out] at ho2
        refine own_of (q := ys.length + 1) (ys := ys ++ [((N / 2 ^ (8 * l) % 256 : Nat) : Int)]) (by simp) ?_ (by rw [List.map_append]; exact ho2)
        rw [← HST.out, ← List.append_assoc, ← HYS.out]
      have HB2 : Hid (Below base w w2) := (HB.out.alloc (by omega) _).grown hg2 (by simp; omega) (fun q hq => (World.ownsRow.lt HW1.out q hq).1)
      clear ho2 hg2 HW1 HB
      go_wp2
      exact ⟨⟨k + 1, (l : Int) - 1, by omega, by go_num, by omega, HO2, HB2⟩, by simp [intOf]⟩
    · have hkn : k = n := by omega
      subst hkn
      have hzI : ¬ (0 : Int) ≤ z := hz0'
      go_wp2
      go_ret
      refine ⟨_, rfl, ?_, HB.out⟩
      have := HW.out
      rw [Nat.sub_self, Nat.mul_zero, Nat.pow_zero, Nat.div_one] at this
      exact this

set_option maxHeartbeats 1000000 in
set_option maxRecDepth 100000 in
theorem implOk_any (w : World) (g b s l c : Int) :
    Calls Tryd.prog 87 #[.agg #[.int .i64 g, .int .i64 b, .int .i64 s, .int .i64 l, .int .i64 c]] w fun e w' => e = .returned (.bool (supOk g b s l c)) ∧ Below w.heap.size w w' := by
  go_enter Tryd.func87, Tryd.ntmps87
  go_wp2
  all_goals
    go_ret
    refine ⟨ret_bool ?_, (Below.refl _ _).alloc (Nat.le_refl _) _⟩
    unfold supOk
    rw [Bool.eq_iff_iff]
    simp only [Bool.and_eq_true, Bool.or_eq_true, decide_eq_true_eq, Bool.false_eq_true, false_iff]
    omega

theorem own_some {k : IntKind} {e : TypeId} {w : World} {lo : Nat} {v : Value} {xs : List Int} (h : Own k e w lo v xs) (h0 : 0 < xs.length) : ∃ g c, v = .slice (some ⟨g, 0, none⟩) xs.length c := by
  rcases h.2 with ⟨rfl, h1⟩ | ⟨g, cap, cur, rfl, -⟩
  · omega
  · exact ⟨g, cap, rfl⟩

/-- A local superblock: five cells. -/
def Bx5 (w : World) (k : Nat) (g b s l c : Int) : Prop :=
  k < w.heap.size ∧ w.cell? ⟨k, 0, none⟩ = some (.int .i64 g) ∧ w.cell? ⟨k, 1, none⟩ = some (.int .i64 b) ∧ w.cell? ⟨k, 2, none⟩ = some (.int .i64 s) ∧ w.cell? ⟨k, 3, none⟩ = some (.int .i64 l) ∧ w.cell? ⟨k, 4, none⟩ = some (.int .i64 c)
theorem Bx5.new (w : World) (g b s l c : Int) (t : TypeId) : Bx5 (w.alloc (.cells #[.int .i64 g, .int .i64 b, .int .i64 s, .int .i64 l, .int .i64 c] t)) w.heap.size g b s l c :=
  ⟨by simp, (by go_simp), (by go_simp), (by go_simp), (by go_simp), (by go_simp)⟩
theorem Bx5.below {w w' : World} {k B : Nat} {g b s l c : Int} (h : Bx5 w k g b s l c) (hb : Below B w w') (hk : k < B) : Bx5 w' k g b s l c := by
  obtain ⟨h0, h1, h2, h3, h4, h5⟩ := h
  exact ⟨Nat.lt_of_lt_of_le h0 hb.size, (hb.cell (p := ⟨k, 0, none⟩) hk).trans h1, (hb.cell (p := ⟨k, 1, none⟩) hk).trans h2, (hb.cell (p := ⟨k, 2, none⟩) hk).trans h3, (hb.cell (p := ⟨k, 3, none⟩) hk).trans h4, (hb.cell (p := ⟨k, 4, none⟩) hk).trans h5⟩

set_option maxHeartbeats 1000000 in
set_option maxRecDepth 100000 in
theorem implSuper_no (w : World) (g b s l c : Int) (h : supOk g b s l c = false) :
    Calls Tryd.prog 47 #[.agg #[.int .i64 g, .int .i64 b, .int .i64 s, .int .i64 l, .int .i64 c]] w fun e w' => ∃ v', e = .returned v' ∧ Own .u8 5 w' w.heap.size v' [] ∧ Below w.heap.size w w' := by
  have H : Hid (supOk g b s l c = false) := h
  clear h
  go_enter Tryd.func47, Tryd.ntmps47
  go_wp2_with fail
  refine (implOk_any _ g b s l c).mono ?_
  rintro e w1 ⟨rfl, b1⟩
  rw [H.out]
  have B1 : Hid (Below w.heap.size w w1) := ((Below.refl _ _).alloc (Nat.le_refl _) _).trans (b1.mono (by simp))
  clear b1
  go_wp2
  go_ret
  exact ⟨_, rfl, World.ownsRow_nil _ _ _ _, B1.out⟩

set_option maxHeartbeats 2000000 in
set_option maxRecDepth 100000 in
theorem implSuper_yes (w : World) (g b s l c : Nat) (h : supOk g b s l c = true) :
    Calls Tryd.prog 47 #[.agg #[.int .i64 g, .int .i64 b, .int .i64 s, .int .i64 l, .int .i64 c]] w fun e w' => ∃ v', e = .returned v' ∧ Own .u8 5 w' w.heap.size v' (supB g b s l c) ∧ Below w.heap.size w w' := by
  obtain ⟨i0, hi, hz0, hz1, hz2⟩ := info_parts Tryd.infoB
  have H : Hid (supOk g b s l c = true) := h
  clear h
  go_enter Tryd.func47, Tryd.ntmps47
  go_wp2_with fail
  refine (implOk_any _ g b s l c).mono ?_
  rintro e w1 ⟨rfl, b1⟩
  rw [H.out]
  have X1 : Hid (Bx5 w1 w.heap.size g b s l c) := (Bx5.new w g b s l c _).below b1 (by simp)
  have B1 : Hid (Below w.heap.size w w1) := ((Below.refl _ _).alloc (Nat.le_refl _) _).trans (b1.mono (by simp))
  have s1 : w.heap.size + 1 ≤ w1.heap.size := by have := b1.size; simpa using this
  clear b1
  have O1 : Hid (Own .u8 5 w1 (w.heap.size + 1) (.slice none 0 0) []) := World.ownsRow_nil _ _ _ _
  obtain ⟨-, x0, x1, x2, x3, x4⟩ := X1.out
  go_wp2_with fail
  refine (implNumberS_any _ (w.heap.size + 1) _ ([]) g 8 O1.out s1 (by simp) (by omega)).mono ?_
  rintro e w2 ⟨v2, rfl, o2, b2⟩
  have X2 : Hid (Bx5 w2 w.heap.size g b s l c) := X1.out.below b2 (by omega)
  have B2 : Hid (Below w.heap.size w w2) := B1.out.trans (b2.mono (by omega))
  have s2 : w.heap.size + 1 ≤ w2.heap.size := Nat.le_trans s1 b2.size
  have O2 : Hid (Own .u8 5 w2 (w.heap.size + 1) v2 ([] ++ bigR g 8)) := o2
  clear x0 x1 x2 x3 x4 o2 b2 X1 B1 O1
  obtain ⟨-, x0, x1, x2, x3, x4⟩ := X2.out
  go_wp2_with fail
  refine (implNumberS_any _ (w.heap.size + 1) _ ([] ++ bigR g 8) b 1 O2.out s2 (by simp [bigR_len]) (by omega)).mono ?_
  rintro e w3 ⟨v3, rfl, o3, b3⟩
  have X3 : Hid (Bx5 w3 w.heap.size g b s l c) := X2.out.below b3 (by omega)
  have B3 : Hid (Below w.heap.size w w3) := B2.out.trans (b3.mono (by omega))
  have s3 : w.heap.size + 1 ≤ w3.heap.size := Nat.le_trans s2 b3.size
  have O3 : Hid (Own .u8 5 w3 (w.heap.size + 1) v3 ([] ++ bigR g 8 ++ bigR b 1)) := o3
  clear x0 x1 x2 x3 x4 o3 b3 X2 B2 O2
  obtain ⟨-, x0, x1, x2, x3, x4⟩ := X3.out
  go_wp2_with fail
  refine (implNumberS_any _ (w.heap.size + 1) _ ([] ++ bigR g 8 ++ bigR b 1) s 4 O3.out s3 (by simp [bigR_len]) (by omega)).mono ?_
  rintro e w4 ⟨v4, rfl, o4, b4⟩
  have X4 : Hid (Bx5 w4 w.heap.size g b s l c) := X3.out.below b4 (by omega)
  have B4 : Hid (Below w.heap.size w w4) := B3.out.trans (b4.mono (by omega))
  have s4 : w.heap.size + 1 ≤ w4.heap.size := Nat.le_trans s3 b4.size
  have O4 : Hid (Own .u8 5 w4 (w.heap.size + 1) v4 ([] ++ bigR g 8 ++ bigR b 1 ++ bigR s 4)) := o4
  clear x0 x1 x2 x3 x4 o4 b4 X3 B3 O3
  obtain ⟨-, x0, x1, x2, x3, x4⟩ := X4.out
  go_wp2_with fail
  refine (implNumberS_any _ (w.heap.size + 1) _ ([] ++ bigR g 8 ++ bigR b 1 ++ bigR s 4) l 4 O4.out s4 (by simp [bigR_len]) (by omega)).mono ?_
  rintro e w5 ⟨v5, rfl, o5, b5⟩
  have X5 : Hid (Bx5 w5 w.heap.size g b s l c) := X4.out.below b5 (by omega)
  have B5 : Hid (Below w.heap.size w w5) := B4.out.trans (b5.mono (by omega))
  have s5 : w.heap.size + 1 ≤ w5.heap.size := Nat.le_trans s4 b5.size
  have O5 : Hid (Own .u8 5 w5 (w.heap.size + 1) v5 ([] ++ bigR g 8 ++ bigR b 1 ++ bigR s 4 ++ bigR l 4)) := o5
  clear x0 x1 x2 x3 x4 o5 b5 X4 B4 O4
  obtain ⟨-, x0, x1, x2, x3, x4⟩ := X5.out
  go_wp2_with fail
  refine (implNumberS_any _ (w.heap.size + 1) _ ([] ++ bigR g 8 ++ bigR b 1 ++ bigR s 4 ++ bigR l 4) c 4 O5.out s5 (by simp [bigR_len]) (by omega)).mono ?_
  rintro e w6 ⟨v6, rfl, o6, b6⟩
  have X6 : Hid (Bx5 w6 w.heap.size g b s l c) := X5.out.below b6 (by omega)
  have B6 : Hid (Below w.heap.size w w6) := B5.out.trans (b6.mono (by omega))
  have s6 : w.heap.size + 1 ≤ w6.heap.size := Nat.le_trans s5 b6.size
  have O6 : Hid (Own .u8 5 w6 (w.heap.size + 1) v6 ([] ++ bigR g 8 ++ bigR b 1 ++ bigR s 4 ++ bigR l 4 ++ bigR c 4)) := o6
  clear x0 x1 x2 x3 x4 o6 b6 X5 B5 O5
  have hlen6 : ([] ++ bigR g 8 ++ bigR b 1 ++ bigR s 4 ++ bigR l 4 ++ bigR c 4).length = 21 := by simp [bigR_len]
  obtain ⟨g6, c6, hv6⟩ := own_some O6.out (by rw [hlen6]; omega)
  rw [hlen6] at hv6
  subst hv6
  have O6' : Hid (w6.ownsRow (w.heap.size + 1) 5 1 (.slice (some ⟨g6, 0, none⟩) 21 c6) 21 (([] ++ bigR g 8 ++ bigR b 1 ++ bigR s 4 ++ bigR l 4 ++ bigR c 4).map (Value.int .u8))) := by have := O6.out; unfold Own at this; rw [hlen6] at this; exact this
  clear O6 hlen6
  generalize hLg : ([] ++ bigR g 8 ++ bigR b 1 ++ bigR s 4 ++ bigR l 4 ++ bigR c 4) = L6 at *
  have HLg : Hid (([] ++ bigR g 8 ++ bigR b 1 ++ bigR s 4 ++ bigR l 4 ++ bigR c 4) = L6) := hLg
  clear hLg
  obtain ⟨-, x0, x1, x2, x3, x4⟩ := X6.out
  go_wp2_with (at_builtin; go_must (refine wpList_append_zeros _ rfl _ _ 24 3 rfl (w.heap.size + 1) 5 i0 .i64 .i64 Tryd.underlying24 Tryd.underlying3 hi hz0 hz1 hz2 g6 21 c6 _ rfl O6'.out 35 rfl (by omega) (by omega) s6 ?_))
  intro v7 w7 ho7 hg7
  have b7 : Below (w.heap.size + 1) w6 w7 := (Below.refl _ _).grown hg7 s6 (fun q hq => by injection hq with hq; subst hq; exact (World.ownsRow.lt O6'.out _ rfl).1)
  have O7 : Hid (Own .u8 5 w7 (w.heap.size + 1) v7 (L6 ++ List.replicate 35 0)) := own_of (q := 21 + 35) (by rw [← HLg.out]; simp [bigR_len]) rfl (by rw [List.map_append, List.map_replicate]; exact ho7)
  have X7 : Hid (Bx5 w7 w.heap.size g b s l c) := X6.out.below b7 (by omega)
  have B7 : Hid (Below w.heap.size w w7) := B6.out.trans (b7.mono (by omega))
  have s7 : w.heap.size + 1 ≤ w7.heap.size := Nat.le_trans s6 b7.size
  clear x0 x1 x2 x3 x4 ho7 hg7 b7 X6 B6 O6'
  obtain ⟨-, x0, x1, x2, x3, x4⟩ := X7.out
  go_wp2_with fail
  refine (implNumberS_any _ (w.heap.size + 1) _ (L6 ++ List.replicate 35 0) g 8 O7.out s7 (by rw [← HLg.out]; simp [bigR_len]) (by omega)).mono ?_
  rintro e w8 ⟨v8, rfl, o8, b8⟩
  have B8 : Hid (Below w.heap.size w w8) := B7.out.trans (b8.mono (by omega))
  have O8 : Hid (Own .u8 5 w8 w.heap.size v8 (supB g b s l c)) := by
    have h8 := o8.mono (show w.heap.size ≤ w.heap.size + 1 by omega)
    rw [← HLg.out, List.nil_append] at h8
    exact h8
  clear o8 b8
  go_wp2
  go_ret
  exact ⟨_, rfl, O8.out, B8.out⟩

theorem supOk_nat {g b s l c : Int} (h : supOk g b s l c = true) : ∃ g' b' s' l' c' : Nat, g = g' ∧ b = b' ∧ s = s' ∧ l = l' ∧ c = c' := by
  unfold supOk at h
  simp only [Bool.and_eq_true, Bool.or_eq_true, decide_eq_true_eq] at h
  exact ⟨g.toNat, b.toNat, s.toNat, l.toNat, c.toNat, by omega, by omega, by omega, by omega, by omega⟩

theorem implSuper_any (w : World) (g b s l c : Int) :
    Calls Tryd.prog 47 #[.agg #[.int .i64 g, .int .i64 b, .int .i64 s, .int .i64 l, .int .i64 c]] w fun e w' => ∃ v', e = .returned v' ∧ Own .u8 5 w' w.heap.size v' (sup g b s l c) ∧ Below w.heap.size w w' := by
  unfold sup
  by_cases h : supOk g b s l c = true
  · rw [if_pos h]
    obtain ⟨g, b, s, l, c, rfl, rfl, rfl, rfl, rfl⟩ := supOk_nat h
    exact implSuper_yes w g b s l c h
  · rw [if_neg h]
    exact implSuper_no w g b s l c (by simpa using h)

end Go.Proofs.YtcopcegamadkgaaDoor

namespace Go.Proofs.YtcopcegamadkgaaDoor
open Go.RowKit

theorem bcell {W w1 : World} (hb : Below W.heap.size W w1) : (∀ b o, b < W.heap.size → w1.cell? ⟨b, o, none⟩ = W.cell? ⟨b, o, none⟩) ∧ (∀ b o, b < W.heap.size → w1.frozen? ⟨b, o, none⟩ = W.frozen? ⟨b, o, none⟩) :=
  ⟨fun b o h => hb.cell (p := ⟨b, o, none⟩) h, fun b o h => hb.frozen (p := ⟨b, o, none⟩) h⟩

theorem Own.setBelow {k : IntKind} {e : TypeId} {w : World} {base : Nat} {v : Value} {xs : List Int} (h : Own k e w base v xs) {a : Addr} (ha : a.block < base) (u : Value) : Own k e (w.setCell a u) base v xs := ownsRow_setCell_below h ha u

end Go.Proofs.YtcopcegamadkgaaDoor

namespace Go.Proofs.YtcopcegamadkgaaDoor
open Go.RowKit




/-- A local struct of one cell. -/
def Box (w : World) (b : Nat) (v : Value) : Prop := b < w.heap.size ∧ w.cell? ⟨b, 0, none⟩ = some v
theorem Box.below {w w' : World} {b : Nat} {v : Value} (h : Box w b v) (hb : Below w.heap.size w w') : Box w' b v :=
  ⟨Nat.lt_of_lt_of_le h.1 hb.size, (hb.cell (p := ⟨b, 0, none⟩) h.1).trans h.2⟩
theorem Box.other {w w' : World} {b : Nat} {v : Value} {row : Option Nat} (h : Box w b v) (hg : w.grownBy w' row) (hne : some b ≠ row) : Box w' b v :=
  ⟨Nat.lt_of_lt_of_le h.1 hg.size, hg.cell h.2 hne⟩
theorem Box.new (w : World) (v : Value) (t : TypeId) : Box (w.alloc (.cells #[v] t)) w.heap.size v := ⟨by simp, by simp⟩
theorem Box.drewN {w : World} {b : Nat} {v : Value} (h : Box w b v) (n : Nat) : Box (w.drewN n) b v := h

end Go.Proofs.YtcopcegamadkgaaDoor

namespace Go.Proofs.YtcopcegamadkgaaDoor
open Go.RowKit

def zeros (n : Nat) : List Int := List.replicate n 0
theorem zeros_len (n : Nat) : (zeros n).length = n := by simp [zeros]

/-- How many bytes a new disk has. -/
def ndl (k : Int) : Nat := if 1 ≤ k ∧ k ≤ 300 then k.toNat * 64 else 0

theorem box2_later {w w1 : World} {x y : Value} {t : TypeId} (hb : Below (w.alloc (.cells #[x, y] t)).heap.size (w.alloc (.cells #[x, y] t)) w1) :
    w1.cell? ⟨w.heap.size, 0, none⟩ = some x ∧ w1.cell? ⟨w.heap.size, 1, none⟩ = some y ∧ w1.frozen? ⟨w.heap.size, 0, none⟩ = false ∧ w1.frozen? ⟨w.heap.size, 1, none⟩ = false ∧ w.heap.size < w1.heap.size := by
  obtain ⟨hc, hf⟩ := bcell hb
  have hs := hb.size
  simp at hs
  refine ⟨?_, ?_, ?_, ?_, by omega⟩
  · rw [hc _ _ (by simp)]; simp
  · rw [hc _ _ (by simp)]; simp
  · rw [hf _ _ (by simp)]; simp
  · rw [hf _ _ (by simp)]; simp

set_option maxHeartbeats 400000 in
set_option maxRecDepth 100000 in
theorem implNewDisk_any (w : World) (k : Int) :
    Calls Tryd.prog 40 #[.int .i64 k] w fun e w' => ∃ v', e = .returned (.agg #[v', .slice none 0 0]) ∧ Own .u8 5 w' w.heap.size v' (zeros (ndl k)) ∧ Below w.heap.size w w' := by
  obtain ⟨i0, hi, hz0, hz1, hz2⟩ := info_parts Tryd.infoB
  by_cases h1 : k < 1
  · have e : ndl k = 0 := if_neg (by omega)
    rw [e]
    go_enter Tryd.func40, Tryd.ntmps40
    go_wp2
    exact bodyPost_ret (v := .agg #[.slice none 0 0, .slice none 0 0]) (by simp [results, Tryd.results40, go_sem]) rfl ⟨_, rfl, World.ownsRow_nil _ _ _ _, (Below.refl _ _).alloc (Nat.le_refl _) _⟩
  · by_cases h2 : 300 < k
    · have e : ndl k = 0 := if_neg (by omega)
      rw [e]
      go_enter Tryd.func40, Tryd.ntmps40
      go_wp2
      exact bodyPost_ret (v := .agg #[.slice none 0 0, .slice none 0 0]) (by simp [results, Tryd.results40, go_sem]) rfl ⟨_, rfl, World.ownsRow_nil _ _ _ _, (Below.refl _ _).alloc (Nat.le_refl _) _⟩
    · obtain ⟨n, rfl⟩ : ∃ n : Nat, k = (n : Int) := ⟨k.toNat, by omega⟩
      have e : ndl (n : Int) = n * 64 := by unfold ndl; rw [if_pos (by omega), Int.toNat_natCast]
      rw [e]
      clear e
      go_enter Tryd.func40, Tryd.ntmps40
      go_wp2_with (at_make; go_must (refine wpList_make_full _ rfl _ _ 24 rfl (w.heap.size + 1) 5 i0 (.int .u8 0) 1 Tryd.underlying24 hi hz0 hz1 _ _ _ _ (n * 64) rfl rfl ?a1 ?a2 ?b2 ?b3 ?b4 ?_))
      case b2 => omega
      case b3 => unfold maxLen; omega
      intro w1 hown hgrow
      have B1 : Below (w.alloc (.cells #[.slice none 0 0, .slice none 0 0] 27)).heap.size (w.alloc (.cells #[.slice none 0 0, .slice none 0 0] 27)) w1 := (Below.refl _ _).grown hgrow (Nat.le_refl _) (by simp)
      obtain ⟨c0, c1, f0, f1, z1⟩ := box2_later B1
      have HB : Hid (Below w.heap.size w w1) := ((Below.refl _ _).alloc (Nat.le_refl _) _).trans (B1.mono (by simp))
      have HO : Hid (Own .u8 5 w1 (w.heap.size + 1) (.slice (some ⟨w.heap.size + 1, 0, none⟩) (n * 64) (n * 64)) (List.replicate (n * 64) 0)) := own_zeros (by simpa using hown)
      clear hown hgrow B1
      go_wp2
      refine bodyPost_ret (v := .agg #[.slice (some ⟨w.heap.size + 1, 0, none⟩) (n * 64) (n * 64), .slice none 0 0]) (by simp [results, Tryd.results40, go_sem, c0, c1]) rfl ⟨_, rfl, ?_, ?_⟩
      · exact (Own.setBelow (Own.setBelow HO.out (a := ⟨w.heap.size, 0, none⟩) (by simp) _) (a := ⟨w.heap.size, 1, none⟩) (by simp) _).mono (by omega)
      · exact (HB.out.setCell (Nat.le_refl _) _).setCell (Nat.le_refl _) _


end Go.Proofs.YtcopcegamadkgaaDoor

namespace Go.Proofs.YtcopcegamadkgaaDoor
open Go.RowKit

/-- A local struct of two cells. -/
def Box2 (w : World) (b : Nat) (x y : Value) : Prop := b < w.heap.size ∧ w.cell? ⟨b, 0, none⟩ = some x ∧ w.cell? ⟨b, 1, none⟩ = some y
theorem Box2.below {w w' : World} {b : Nat} {x y : Value} (h : Box2 w b x y) (hb : Below w.heap.size w w') : Box2 w' b x y :=
  ⟨Nat.lt_of_lt_of_le h.1 hb.size, (hb.cell (p := ⟨b, 0, none⟩) h.1).trans h.2.1, (hb.cell (p := ⟨b, 1, none⟩) h.1).trans h.2.2⟩
theorem Box2.other {w w' : World} {b : Nat} {x y : Value} {row : Option Nat} (h : Box2 w b x y) (hg : w.grownBy w' row) (hne : some b ≠ row) : Box2 w' b x y :=
  ⟨Nat.lt_of_lt_of_le h.1 hg.size, hg.cell h.2.1 hne, hg.cell h.2.2 hne⟩
theorem Box2.new (w : World) (x y : Value) (t : TypeId) : Box2 (w.alloc (.cells #[x, y] t)) w.heap.size x y := ⟨by simp, by simp, by simp⟩


end Go.Proofs.YtcopcegamadkgaaDoor

namespace Go.Proofs.YtcopcegamadkgaaDoor
open Go.RowKit

def pB (ps : List (Int × List Int)) (i : Nat) : Int := (ps.getD i (0, [])).1
def pD (ps : List (Int × List Int)) (i : Nat) : List Int := (ps.getD i (0, [])).2

/-- A slice of records (a number and a list of bytes) that reads as ps. -/
def RdW (w : World) (v : Value) (ps : List (Int × List Int)) : Prop :=
  ∃ ao cap, v = .slice ao ps.length cap ∧ ps.length ≤ cap ∧ cap ≤ maxLen ∧
    (ps = [] ∨ ∃ b off, ao = some ⟨b, off, none⟩ ∧ b < w.heap.size ∧ ∀ i, i < ps.length →
      w.cell? ⟨b, off + i * 2, none⟩ = some (.int .i64 (pB ps i)) ∧ ∃ da c, w.cell? ⟨b, off + i * 2 + 1, none⟩ = some (.slice da (pD ps i).length c) ∧ Rd .u8 w (.slice da (pD ps i).length c) (pD ps i))

theorem RdW.len {w : World} {v : Value} {ps : List (Int × List Int)} (h : RdW w v ps) : ∃ ao cap, v = .slice ao ps.length cap ∧ ps.length ≤ cap ∧ cap ≤ maxLen := by
  obtain ⟨ao, cap, h0, h1, h2, _⟩ := h
  exact ⟨ao, cap, h0, h1, h2⟩

theorem RdW.below {w w' : World} {v : Value} {ps : List (Int × List Int)} (h : RdW w v ps) (hb : Below w.heap.size w w') : RdW w' v ps := by
  obtain ⟨ao, cap, rfl, h1, h2, h3⟩ := h
  refine ⟨ao, cap, rfl, h1, h2, ?_⟩
  rcases h3 with h3 | ⟨b, off, rfl, hlt, hc⟩
  · exact .inl h3
  · refine .inr ⟨b, off, rfl, Nat.lt_of_lt_of_le hlt hb.size, fun i hi => ?_⟩
    obtain ⟨c1, da, c, c2, r⟩ := hc i hi
    exact ⟨(hb.cell (p := ⟨b, _, none⟩) hlt).trans c1, da, c, (hb.cell (p := ⟨b, _, none⟩) hlt).trans c2, r.below hb⟩

end Go.Proofs.YtcopcegamadkgaaDoor

