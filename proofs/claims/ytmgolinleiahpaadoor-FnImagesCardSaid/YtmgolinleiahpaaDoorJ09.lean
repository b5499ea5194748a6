import Derived.Test.YtmgolinleiahpaaDoorJ05
import Derived.Test.YtmgolinleiahpaaDoorJ06
import Derived.Test.YtmgolinleiahpaaDoorJ07
import Derived.Test.YtmgolinleiahpaaDoorJ08
import Derived.Deep.RegionLaw
import Derived.Deep.AppendLies
import Derived.Test.YtmgolinleiahpaaDoorJ02
import Derived.Test.YtmgolinleiahpaaDoorJ04
import Derived.Test.YtmgolinleiahpaaDoorJ03
import Derived.Deep.QuietTactic
namespace Go.Proofs.YtmgolinleiahpaaDoor
open Go.RowKit Go.Shelf

theorem ownN_root {w : World} {B lo : Nat} (h : Node7 w B slashT empty 0 0 0 0 0) (hl : lo ≤ B) : OwnN 84 w lo (.slice (some ⟨B, 0, none⟩) 1 1) [rootN] :=
  ⟨rfl, .inr ⟨B, 1, _, rfl, hl, h, Nat.le_refl _, by unfold maxLen; omega, rfl, rfl⟩⟩
/-- The operation of a growing tree's round. -/
def Sr.gop (s : Sr) (ns : List Nd) (i : Nat) : Op5 × Sr := if i < 3 then (⟨1, ((s.op ns).2.near ns).1, ⟨#[120]⟩, 0, false⟩, ((s.op ns).2.near ns).2) else s.op ns
/-- A tree that grows. -/
def Sr.grow (s : Sr) : Nat → List Nd × Nat × Sr
  | 0 => ([rootN], 0, s)
  | i + 1 =>
    if (doO (s.grow i).1 ((s.grow i).2.2.gop (s.grow i).1 i).1 (((s.grow i).2.1 + 1 : Nat) : Int)).1 = 0
    then ((doO (s.grow i).1 ((s.grow i).2.2.gop (s.grow i).1 i).1 (((s.grow i).2.1 + 1 : Nat) : Int)).2.1, (s.grow i).2.1 + 1, ((s.grow i).2.2.gop (s.grow i).1 i).2)
    else ((s.grow i).1, (s.grow i).2.1, ((s.grow i).2.2.gop (s.grow i).1 i).2)
theorem snd_root : Snd [rootN] := okTree_snd.1 (by decide)
theorem Sr.grow_inv (s : Sr) : ∀ i, i ≤ 1000000 → Snd (s.grow i).1 ∧ (s.grow i).1.length ≤ i + 1 ∧ (s.grow i).2.1 ≤ i
  | 0, _ => ⟨snd_root, by simp [Sr.grow], by simp [Sr.grow]⟩
  | i + 1, h => by
    obtain ⟨h1, h2, h3⟩ := s.grow_inv i (by omega)
    unfold Sr.grow
    split
    · refine ⟨doO_snd h1 _ (by unfold okS; simp; omega), ?_, ?_⟩
      · exact Nat.le_trans (doO_len h1.1 _ _) (by omega)
      · show (s.grow i).2.1 + 1 ≤ i + 1; omega
    · exact ⟨h1, by show (s.grow i).1.length ≤ _; omega, by show (s.grow i).2.1 ≤ _; omega⟩
theorem snd_sz {ns : List Nd} (h : Snd ns) (i : Nat) : (nAt ns i).path.size ≤ 1000 ∧ (nAt ns i).data.size ≤ 1000 := by
  by_cases hi : i < ns.length
  · have := okNd_all (h.2.1 _ (List.getElem_mem hi))
    rw [nAt_get hi]; omega
  · have : nAt ns i = nd0 := by unfold nAt; simp [List.getD, List.getElem?_eq_none (show ns.length ≤ i by omega)]
    rw [this]; simp [nd0]
theorem Sr.near_size (s : Sr) {ns : List Nd} (h : Snd ns) : (s.near ns).1.size ≤ 2000 := by
  unfold Sr.near
  split
  · have := s.path_len
    show s.path.1.toArray.size ≤ _
    simp; omega
  · split
    · have := (snd_sz h (s.next ns.length).1).1
      show (nAt ns (s.next ns.length).1).path.size ≤ _; omega
    · have := (snd_sz h (s.next ns.length).1).1
      have e0 : (⟨#[]⟩ : ByteArray).size = 0 := rfl
      have e1 : (⟨#[47]⟩ : ByteArray).size = 1 := rfl
      have e2 : ∀ x, (⟨#[x]⟩ : ByteArray).size = 1 := fun _ => rfl
      split
      · simp only [ByteArray.size_append]
        rw [e0, e1, e2]; omega
      · simp only [ByteArray.size_append]
        rw [e1, e2]; omega
theorem Sr.op_size (s : Sr) {ns : List Nd} (h : Snd ns) : (s.op ns).1.path.size ≤ 2000 ∧ (s.op ns).1.data.size ≤ 64 := by
  unfold Sr.op
  have z : (⟨#[]⟩ : ByteArray).size = 0 := rfl
  split
  · exact ⟨Sr.near_size _ h, Sr.data_len _⟩
  · split
    · exact ⟨Sr.near_size _ h, by rw [z]; omega⟩
    · split
      · exact ⟨Sr.near_size _ h, Sr.data_len _⟩
      · exact ⟨Sr.near_size _ h, by rw [z]; omega⟩
theorem Sr.gop_size (s : Sr) {ns : List Nd} (h : Snd ns) (i : Nat) : (s.gop ns i).1.path.size ≤ 2000 ∧ (s.gop ns i).1.data.size ≤ 64 := by
  unfold Sr.gop
  split
  · exact ⟨Sr.near_size _ h, by show (⟨#[120]⟩ : ByteArray).size ≤ 64; decide⟩
  · exact s.op_size h
theorem runO_one (z : Int) (o : Op5) (ns : List Nd) : runO z [o] ns 0 [] = if (doO ns o z).1 ≠ 0 then ((doO ns o z).1, 0, ns, []) else (0, 1, (doO ns o z).2.1, [(doO ns o z).2.2]) := rfl

theorem dif_sz {A B : List Nd} (hA : Snd A) (hB : Snd B) (i : Nat) : (eAt (dif A B) i).nd.path.size ≤ 1048576 ∧ (eAt (dif A B) i).nd.data.size ≤ 1048576 := by
  by_cases hi : i < (dif A B).length
  · have h := dif_ok A B hA.2.1 hB.2.1 _ (List.getElem_mem hi)
    rw [eAt_get hi]
    unfold okEf at h
    simp only [Bool.and_eq_true] at h
    have := okNd_all h.1
    omega
  · have : eAt (dif A B) i = ef0 := by unfold eAt; simp [List.getD, List.getElem?_eq_none (show (dif A B).length ≤ i by omega)]
    rw [this]; simp [ef0, nd0]

/-- What a growing tree holds. -/
structure GR (W : World) (k B TB : Nat) (v : Value) (ns : List Nd) (s : Sr) (w : World) : Prop where
  src : SRX w k B s
  tch : Tch k W w
  own : OwnN 84 w W.heap.size v ns
  ct : w.cell? ⟨TB, 0, none⟩ = some v
  ft : w.frozen? ⟨TB, 0, none⟩ = false
  cr : w.cell? ⟨W.heap.size, 0, none⟩ = some (.slice none 0 0)
  fr : w.frozen? ⟨W.heap.size, 0, none⟩ = false
  tb : W.heap.size < TB
  lt : TB < w.heap.size
  vt : v.ownBlock ≠ some TB
  vr : v.ownBlock ≠ some W.heap.size
theorem GR.next {W w w' : World} {k B TB : Nat} {v : Value} {ns : List Nd} {s s' : Sr} (h : GR W k B TB v ns s w) (hs : SRX w' k B s') (t : Tch k w w') (hk : k < W.heap.size) : GR W k B TB v ns s' w' := by
  have a := t.2 W.heap.size (by omega) (by have := h.lt; have := h.tb; omega)
  have b := t.2 TB (by have := h.tb; omega) h.lt
  exact ⟨hs, h.tch.trans t, rowTch h.own t hk, (World.cell?_of_block (w := w) (a := ⟨TB, 0, none⟩) b).trans h.ct, (World.frozen?_of_block (w := w) b).trans h.ft, (World.cell?_of_block (w := w) (a := ⟨W.heap.size, 0, none⟩) a).trans h.cr, (World.frozen?_of_block (w := w) a).trans h.fr, h.tb, Nat.lt_of_lt_of_le h.lt t.size, h.vt, h.vr⟩
theorem GR.below {W w w' : World} {k B TB : Nat} {v : Value} {ns : List Nd} {s : Sr} (h : GR W k B TB v ns s w) (hb : Below w.heap.size w w') (hk : k < W.heap.size) : GR W k B TB v ns s w' :=
  h.next (h.src.keep (hb.mono h.src.lt)) (Tch.of hb) hk

theorem GR.far {W w w' : World} {k B TB m : Nat} {v : Value} {ns : List Nd} {s : Sr} (h : GR W k B TB v ns s w) (hb : Below m w w') (hm : TB < m) (hB : B ≤ TB) (hv : ∀ g, v.ownBlock = some g → g < m) : GR W k B TB v ns s w' := by
  have htb := h.tb
  refine ⟨h.src.keep (hb.mono (by omega)), h.tch.then (hb.mono (by omega)), ?_, (hb.cell (p := ⟨TB, 0, none⟩) hm).trans h.ct, (hb.frozen (p := ⟨TB, 0, none⟩) hm).trans h.ft, (hb.cell (p := ⟨W.heap.size, 0, none⟩) (show W.heap.size < m by omega)).trans h.cr, (hb.frozen (p := ⟨W.heap.size, 0, none⟩) (show W.heap.size < m by omega)).trans h.fr, h.tb, Nat.lt_of_lt_of_le h.lt hb.size, h.vt, h.vr⟩
  refine ⟨h.own.1, ?_⟩
  rcases h.own.2 with hn | ⟨g, cap, cur, rfl, hbg, hgg, rest⟩
  · exact .inl hn
  · exact .inr ⟨g, cap, cur, rfl, hbg, by rw [hb.block g (hv g rfl)]; exact hgg, rest⟩
theorem GR.put {W w : World} {k B TB lo : Nat} {v v' : Value} {ns ns' : List Nd} {s : Sr} (h : GR W k B TB v ns s w) (o : OwnN 84 w lo v' ns') (hlo : TB < lo) (hB : B ≤ TB) : GR W k B TB v' ns' s (w.setCell ⟨TB, 0, none⟩ v') := by
  have htb := h.tb
  have hne : v'.ownBlock ≠ some TB := fun e => by have := (World.ownsRow.lt o _ e).1; omega
  have hne2 : v'.ownBlock ≠ some W.heap.size := fun e => by have := (World.ownsRow.lt o _ e).1; omega
  refine ⟨h.src.keep ((Below.refl _ _).setCell hB _), h.tch.then ((Below.refl _ _).setCell (by show _ ≤ TB; omega) _), (OwnN.setO o hne _).mono (by omega), World.cell?_setCell_same _ _ _ h.ct, by rw [World.frozen?_setCell]; exact h.ft, (World.cell?_setCell_other _ _ _ _ (by intro e; injection e with e; omega)).trans h.cr, by rw [World.frozen?_setCell]; exact h.fr, h.tb, by simpa using h.lt, hne, hne2⟩
theorem rdO_one (w : World) (o : Op5) (t : TypeId) : RdO (w.alloc (.cells #[.int .i64 o.kind, .string o.path, .string o.data, .int .i64 o.ver, .bool o.seq] t)) (.slice (some ⟨w.heap.size, 0, none⟩) 1 1) [o] := by
  refine ⟨_, 1, rfl, Nat.le_refl _, by unfold maxLen; omega, .inr ⟨w.heap.size, 0, rfl, by simp, fun i hi => ?_⟩⟩
  obtain rfl : i = 0 := by simp at hi; omega
  have hc := fun j => cell_of (heap_alloc_new w (.cells #[.int .i64 o.kind, .string o.path, .string o.data, .int .i64 o.ver, .bool o.seq] t)) j
  refine ⟨?_, ?_, ?_, ?_, ?_⟩ <;> simp [hc, oAt]

set_option maxHeartbeats 4000000 in
set_option maxRecDepth 100000 in
theorem grow_x (W : World) (k B n : Nat) (s : Sr) (h : SRX W k B s) (hn : n ≤ 60) :
    Calls Tryd.prog 90 #[.pointer (some ⟨k, 0, none⟩), .int .i64 (n : Int)] W fun e w' => ∃ v, e = .returned (.tuple #[.agg #[v], .int .i64 ((s.grow n).2.1 : Int)]) ∧ OwnN 84 w' W.heap.size v (s.grow n).1 ∧ SRX w' k B (s.grow n).2.2 ∧ Tch k W w' := by
  have hk1 := h.kB
  have hk2 := h.lt
  have hkW : k < W.heap.size := by omega
  have HS : Hid (SRX W k B s) := h
  have HINV : Hid (∀ i, i ≤ 60 → Snd (s.grow i).1 ∧ (s.grow i).1.length ≤ i + 1 ∧ (s.grow i).2.1 ≤ i) := fun i hi => s.grow_inv i (by omega)
  have BR : Hid (Below W.heap.size W (W.alloc (.cells #[.slice none 0 0] 36))) := (Below.refl _ _).alloc (Nat.le_refl _) _
  clear h
  go_enter Tryd.func90, Tryd.ntmps90
  go_wp2_with fail
  refine (specNewTree_any _).mono ?_
  rintro e w1 ⟨rfl, n1, b1⟩
  have hsz : (W.alloc (.cells #[.slice none 0 0] 36)).heap.size = W.heap.size + 1 := by simp
  rw [hsz] at n1 b1 ⊢
  have s1 := n1.lt
  have c1 := (b1.cell (p := ⟨W.heap.size, 0, none⟩) (show W.heap.size < _ by omega)).trans (show (W.alloc (.cells #[.slice none 0 0] 36)).cell? ⟨W.heap.size, 0, none⟩ = some (.slice none 0 0) by simp)
  have f1 := (b1.frozen (p := ⟨W.heap.size, 0, none⟩) (show W.heap.size < _ by omega)).trans (show (W.alloc (.cells #[.slice none 0 0] 36)).frozen? ⟨W.heap.size, 0, none⟩ = false by simp)
  have bA : Below w1.heap.size w1 (w1.alloc (.cells #[.slice (some ⟨W.heap.size + 1 + 1, 0, none⟩) 1 1] 36)) := (Below.refl _ _).alloc (Nat.le_refl _) _
  have bW : Below W.heap.size W w1 := BR.out.trans (b1.mono (by omega))
  have G1 : Hid (GR W k B w1.heap.size (.slice (some ⟨W.heap.size + 1 + 1, 0, none⟩) 1 1) [rootN] s (w1.alloc (.cells #[.slice (some ⟨W.heap.size + 1 + 1, 0, none⟩) 1 1] 36))) := by
    refine ⟨HS.out.keep ((bW.trans (bA.mono (by omega))).mono hk2), Tch.of (bW.trans (bA.mono (by omega))), (ownN_root n1 (by omega)).below bA, by simp, by simp, (bA.cell (p := ⟨W.heap.size, 0, none⟩) (show W.heap.size < _ by omega)).trans c1, (bA.frozen (p := ⟨W.heap.size, 0, none⟩) (show W.heap.size < _ by omega)).trans f1, by omega, by simp, ?_, ?_⟩
    · simp [Value.ownBlock]; omega
    · simp [Value.ownBlock]; omega
  clear n1 b1 c1 f1 bA bW BR hsz
  go_wp2
  generalize w1.alloc (.cells #[.slice (some ⟨W.heap.size + 1 + 1, 0, none⟩) 1 1] 36) = w2 at *
  generalize w1.heap.size = TB at *
  go_loopw [7, 8] (fun z i wr => ∃ (j : Nat) (v : Value), j ≤ n ∧ i = .int .i64 j ∧ z = .int .i64 ((s.grow j).2.1 : Int) ∧ Hid (GR W k B TB v (s.grow j).1 (s.grow j).2.2 wr)) (fun _ i _ => n - (intOf i).toNat)
  case atStart => exact ⟨0, _, Nat.zero_le _, rfl, rfl, G1⟩
  case round =>
    clear G1
    obtain ⟨j, v, hj, rfl, rfl, HG⟩ := hrel
    obtain ⟨av, cv, rfl⟩ := HG.out.own.slice
    by_cases hlt : j < n
    · have hltI : (j : Int) < (n : Int) := by omega
      obtain ⟨hsnd, hlen, hzj⟩ := HINV.out j (by omega)
      have HSN : Hid (Snd (s.grow j).1) := hsnd
      have HST : Hid (s.grow (j + 1) = if (doO (s.grow j).1 ((s.grow j).2.2.gop (s.grow j).1 j).1 (((s.grow j).2.1 + 1 : Nat) : Int)).1 = 0
        then ((doO (s.grow j).1 ((s.grow j).2.2.gop (s.grow j).1 j).1 (((s.grow j).2.1 + 1 : Nat) : Int)).2.1, (s.grow j).2.1 + 1, ((s.grow j).2.2.gop (s.grow j).1 j).2)
        else ((s.grow j).1, (s.grow j).2.1, ((s.grow j).2.2.gop (s.grow j).1 j).2)) := rfl
      have HGS := (s.grow j).2.2.gop_size hsnd j
      have e1 : (((s.grow j).2.1 + 1 : Nat) : Int) = ((s.grow j).2.1 : Int) + 1 := by omega
      rw [e1] at HST
      have HPK : Hid (∀ o : Op5, okPrep (s.grow j).1 [o] (((s.grow j).2.1 : Int) + 1) = true) := by
        intro o
        unfold okPrep
        rw [okTree_snd.2 hsnd]
        simp
        omega
      have HND : Hid (∀ o : Op5, Snd (doO (s.grow j).1 o (((s.grow j).2.1 : Int) + 1)).2.1 ∧ (doO (s.grow j).1 o (((s.grow j).2.1 : Int) + 1)).2.1.length ≤ j + 2) := fun o => ⟨doO_snd hsnd o (by unfold okS; simp; omega), Nat.le_trans (doO_len hsnd.1 _ _) (by omega)⟩
      clear hsnd e1
      generalize s.grow j = q at *
      have ct := HG.out.ct
      go_wp2_with fail
      clear ct
      refine (op_x _ k B W.heap.size q.2.2 _ q.1 HG.out.src HG.out.own hkW (by omega) (fun i _ => (snd_sz HSN.out i).1)).mono ?_
      rintro e w3 ⟨rfl, s3, t3⟩
      have G3 : Hid (GR W k B TB (.slice av q.1.length cv) q.1 (q.2.2.op q.1).2 w3) := HG.out.next s3 t3 hkW
      have HGP : Hid (q.2.2.gop q.1 j = if j < 3 then (⟨1, ((q.2.2.op q.1).2.near q.1).1, ⟨#[120]⟩, 0, false⟩, ((q.2.2.op q.1).2.near q.1).2) else q.2.2.op q.1) := rfl
      have hBT : B ≤ TB := by have := HG.out.tb; omega
      clear s3 t3 HG
      generalize q.2.2.op q.1 = oq at *
      have bA : Below w3.heap.size w3 (w3.alloc (.cells #[.int .i64 oq.1.kind, .string oq.1.path, .string oq.1.data, .int .i64 oq.1.ver, .bool oq.1.seq] 176)) := (Below.refl _ _).alloc (Nat.le_refl _) _
      have G4 : Hid (GR W k B TB (.slice av q.1.length cv) q.1 oq.2 (w3.alloc (.cells #[.int .i64 oq.1.kind, .string oq.1.path, .string oq.1.data, .int .i64 oq.1.ver, .bool oq.1.seq] 176))) := G3.out.below bA hkW
      have X4 : Hid (BoxO (w3.alloc (.cells #[.int .i64 oq.1.kind, .string oq.1.path, .string oq.1.data, .int .i64 oq.1.ver, .bool oq.1.seq] 176)) w3.heap.size oq.1) := BoxO.new _ _ _
      have F4 : Hid (∀ i, (w3.alloc (.cells #[.int .i64 oq.1.kind, .string oq.1.path, .string oq.1.data, .int .i64 oq.1.ver, .bool oq.1.seq] 176)).frozen? ⟨w3.heap.size, i, none⟩ = false) := fun i => by simp
      have hOB : TB < w3.heap.size := G3.out.lt
      have HVB : Hid (∀ g, Value.ownBlock (.slice av q.1.length cv) = some g → g < w3.heap.size) := fun g e => (World.ownsRow.lt G3.out.own g e).2
      clear bA G3
      have ct := G4.out.ct
      by_cases h3 : j < 3
      · have h3I : (j : Int) < 3 := by omega
        rw [if_pos h3] at HGP
        go_wp2_with fail
        clear ct
        generalize w3.alloc (.cells #[.int .i64 oq.1.kind, .string oq.1.path, .string oq.1.data, .int .i64 oq.1.ver, .bool oq.1.seq] 176) = w4 at *
        generalize w3.heap.size = OB at *
        refine (near_x _ k B W.heap.size oq.2 _ q.1 G4.out.src G4.out.own hkW (by omega) (fun i _ => (snd_sz HSN.out i).1)).mono ?_
        rintro e w5 ⟨rfl, s5, t5⟩
        have G5 : Hid (GR W k B TB (.slice av q.1.length cv) q.1 (oq.2.near q.1).2 w5) := G4.out.next s5 t5 hkW
        have hkO : OB ≠ k := by have := G4.out.tb; omega
        have X5 : Hid (BoxO w5 OB oq.1) := by
          obtain ⟨xl, c0, c1, c2, c3, c4⟩ := X4.out
          have b := t5.2 OB hkO xl
          exact ⟨Nat.lt_of_lt_of_le xl t5.size, (World.cell?_of_block (w := w4) (a := ⟨OB, 0, none⟩) b).trans c0, (World.cell?_of_block (w := w4) (a := ⟨OB, 1, none⟩) b).trans c1, (World.cell?_of_block (w := w4) (a := ⟨OB, 2, none⟩) b).trans c2, (World.cell?_of_block (w := w4) (a := ⟨OB, 3, none⟩) b).trans c3, (World.cell?_of_block (w := w4) (a := ⟨OB, 4, none⟩) b).trans c4⟩
        have F5 : Hid (∀ i, w5.frozen? ⟨OB, i, none⟩ = false) := fun i => (World.frozen?_of_block (w := w4) (t5.2 OB hkO X4.out.1)).trans (F4.out i)
        clear s5 t5 G4 X4 F4
        generalize oq.2.near q.1 = pq at *
        obtain ⟨xl, c0, c1, c2, c3, c4⟩ := X5.out
        have f0 := F5.out 0
        have f1 := F5.out 1
        have f2 := F5.out 2
        have f3 := F5.out 3
        have f4 := F5.out 4
        have ct := G5.out.ct
        have hnTB : TB ≠ OB := by omega
        go_wp2_with fail
        have bS : Below OB w5 (((((w5.setCell ⟨OB, 0, none⟩ (.int .i64 1)).setCell ⟨OB, 1, none⟩ (.string pq.1)).setCell ⟨OB, 2, none⟩ (.string ⟨#[120]⟩)).setCell ⟨OB, 3, none⟩ (.int .i64 0)).setCell ⟨OB, 4, none⟩ (.bool false)) := by
          iterate 5 refine Below.setCell ?_ (by show OB ≤ OB; exact Nat.le_refl _) _
          exact Below.refl _ _
        have G6 : Hid (GR W k B TB (.slice av q.1.length cv) q.1 pq.2 (((((w5.setCell ⟨OB, 0, none⟩ (.int .i64 1)).setCell ⟨OB, 1, none⟩ (.string pq.1)).setCell ⟨OB, 2, none⟩ (.string ⟨#[120]⟩)).setCell ⟨OB, 3, none⟩ (.int .i64 0)).setCell ⟨OB, 4, none⟩ (.bool false))) := G5.out.far bS hOB hBT HVB.out
        have hs6 : (((((w5.setCell ⟨OB, 0, none⟩ (.int .i64 1)).setCell ⟨OB, 1, none⟩ (.string pq.1)).setCell ⟨OB, 2, none⟩ (.string ⟨#[120]⟩)).setCell ⟨OB, 3, none⟩ (.int .i64 0)).setCell ⟨OB, 4, none⟩ (.bool false)).heap.size = w5.heap.size := by simp
        rw [← hs6]
        clear bS xl c0 c1 c2 c3 c4 f0 f1 f2 f3 f4 ct G5 X5 F5
        generalize ((((w5.setCell ⟨OB, 0, none⟩ (.int .i64 1)).setCell ⟨OB, 1, none⟩ (.string pq.1)).setCell ⟨OB, 2, none⟩ (.string ⟨#[120]⟩)).setCell ⟨OB, 3, none⟩ (.int .i64 0)).setCell ⟨OB, 4, none⟩ (.bool false) = w6 at *
        have HGO : Hid (q.2.2.gop q.1 j = (⟨1, pq.1, ⟨#[120]⟩, 0, false⟩, pq.2)) := HGP.out
        have hsz1 : (⟨1, pq.1, ⟨#[120]⟩, 0, false⟩ : Op5).path.size ≤ 2000 ∧ (⟨1, pq.1, ⟨#[120]⟩, 0, false⟩ : Op5).data.size ≤ 64 := by
          rw [HGO.out] at HGS; exact HGS
        rw [HGO.out] at HST
        have HDD : Hid (Snd (doO q.1 ⟨1, pq.1, ⟨#[120]⟩, 0, false⟩ ((q.2.1 : Int) + 1)).2.1 ∧ (doO q.1 ⟨1, pq.1, ⟨#[120]⟩, 0, false⟩ ((q.2.1 : Int) + 1)).2.1.length ≤ j + 2) := HND.out ⟨1, pq.1, ⟨#[120]⟩, 0, false⟩
        have CP := fun W' v' (hv : RdN W' v' q.1) (vo : Value) (ho : RdO W' vo [⟨1, pq.1, ⟨#[120]⟩, 0, false⟩]) => specPrep_ok W' v' vo q.1 [⟨1, pq.1, ⟨#[120]⟩, 0, false⟩] ((q.2.1 : Int) + 1) hv ho (fun i hi => by
          obtain rfl : i = 0 := by simp at hi; omega
          show (⟨1, pq.1, ⟨#[120]⟩, 0, false⟩ : Op5).path.size ≤ _ ∧ (⟨1, pq.1, ⟨#[120]⟩, 0, false⟩ : Op5).data.size ≤ _
          omega) (HPK.out _)
        have HRO : Hid (runO ((q.2.1 : Int) + 1) [⟨1, pq.1, ⟨#[120]⟩, 0, false⟩] q.1 0 [] = if (doO q.1 ⟨1, pq.1, ⟨#[120]⟩, 0, false⟩ ((q.2.1 : Int) + 1)).1 ≠ 0 then ((doO q.1 ⟨1, pq.1, ⟨#[120]⟩, 0, false⟩ ((q.2.1 : Int) + 1)).1, 0, q.1, []) else (0, 1, (doO q.1 ⟨1, pq.1, ⟨#[120]⟩, 0, false⟩ ((q.2.1 : Int) + 1)).2.1, [(doO q.1 ⟨1, pq.1, ⟨#[120]⟩, 0, false⟩ ((q.2.1 : Int) + 1)).2.2])) := runO_one _ _ _
        have RO := rdO_one w6 ⟨1, pq.1, ⟨#[120]⟩, 0, false⟩ 176
        have b7 : Below w6.heap.size w6 (w6.alloc (.cells #[.int .i64 (⟨1, pq.1, ⟨#[120]⟩, 0, false⟩ : Op5).kind, .string (⟨1, pq.1, ⟨#[120]⟩, 0, false⟩ : Op5).path, .string (⟨1, pq.1, ⟨#[120]⟩, 0, false⟩ : Op5).data, .int .i64 (⟨1, pq.1, ⟨#[120]⟩, 0, false⟩ : Op5).ver, .bool (⟨1, pq.1, ⟨#[120]⟩, 0, false⟩ : Op5).seq] 176)) := (Below.refl _ _).alloc (Nat.le_refl _) _
        have G7 : Hid (GR W k B TB (.slice av q.1.length cv) q.1 pq.2 (w6.alloc (.cells #[.int .i64 (⟨1, pq.1, ⟨#[120]⟩, 0, false⟩ : Op5).kind, .string (⟨1, pq.1, ⟨#[120]⟩, 0, false⟩ : Op5).path, .string (⟨1, pq.1, ⟨#[120]⟩, 0, false⟩ : Op5).data, .int .i64 (⟨1, pq.1, ⟨#[120]⟩, 0, false⟩ : Op5).ver, .bool (⟨1, pq.1, ⟨#[120]⟩, 0, false⟩ : Op5).seq] 176))) := G6.out.below b7 hkW
        try dsimp only at RO b7 G7
        have CC := CP _ _ G7.out.own.rd _ RO
        clear CP RO b7
        generalize w6.alloc (.cells #[_, _, _, _, _] 176) = w7 at *
        refine CC.mono ?_
        rintro e w8 ⟨b8, hres⟩
        clear CC
        rw [HRO.out] at hres
        have G8 : Hid (GR W k B TB (.slice av q.1.length cv) q.1 pq.2 w8) := G7.out.below b8 hkW
        clear G6 G7 b8 HRO HGO HND HPK
        generalize doO q.1 ⟨1, pq.1, ⟨#[120]⟩, 0, false⟩ ((q.2.1 : Int) + 1) = dd at *
        by_cases hd : dd.1 = 0
        · rw [if_neg (by simpa using hd)] at hres
          rw [if_pos hd] at HST
          rcases hres with ⟨hne, -⟩ | ⟨-, vn, ve, rfl, on, oe⟩
          · exact absurd rfl hne
          obtain ⟨ea, ec, rfl, _, _⟩ := (OwnE.rd oe).len
          obtain ⟨na, nl, nc, rfl⟩ : ∃ a n c, vn = .slice a n c := by
            rcases on.2 with ⟨rfl, -⟩ | ⟨g, cap, cur, rfl, -⟩
            · exact ⟨_, _, _, rfl⟩
            · exact ⟨_, _, _, rfl⟩
          have bA : Below w8.heap.size w8 (w8.alloc (.cells #[.int .i64 0, .int .i64 0, .slice na nl nc, .int .i64 ((q.2.1 : Int) + 1), .slice ea (dif q.1 dd.2.1).length ec] 181)) := (Below.refl _ _).alloc (Nat.le_refl _) _
          have G9 : Hid (GR W k B TB (.slice av q.1.length cv) q.1 pq.2 (w8.alloc (.cells #[.int .i64 0, .int .i64 0, .slice na nl nc, .int .i64 ((q.2.1 : Int) + 1), .slice ea (dif q.1 dd.2.1).length ec] 181))) := G8.out.below bA hkW
          have E9 : Hid (RdE (w8.alloc (.cells #[.int .i64 0, .int .i64 0, .slice na nl nc, .int .i64 ((q.2.1 : Int) + 1), .slice ea (dif q.1 dd.2.1).length ec] 181)) (.slice ea (dif q.1 dd.2.1).length ec) (dif q.1 dd.2.1)) := (OwnE.rd oe).below bA
          have HSZ9 : Hid (∀ i, (eAt (dif q.1 dd.2.1) i).nd.path.size ≤ 1048576 ∧ (eAt (dif q.1 dd.2.1) i).nd.data.size ≤ 1048576) := dif_sz HSN.out HDD.out.1
          have HRA : Hid (resA q.1 ((q.2.1 : Int) + 1) (dif q.1 dd.2.1) = dd.2.1) := resA_dif HSN.out HDD.out.1 (by have := HDD.out.2; omega) (by omega)
          have ct := G9.out.ct
          clear on oe bA G8
          generalize dif q.1 dd.2.1 = DF at *
          go_wp2_with fail
          clear ct
          refine (specApply_any _ _ q.1 ((q.2.1 : Int) + 1) _ DF G9.out.own.rd E9.out (by omega) (fun i => by have := snd_sz HSN.out i; omega) HSZ9.out).mono ?_
          rintro e w10 ⟨v10, rfl, o10, b10⟩
          rw [HRA.out] at o10
          have G10 : Hid (GR W k B TB (.slice av q.1.length cv) q.1 pq.2 w10) := G9.out.below b10 hkW
          have HL9 : TB < (w8.alloc (.cells #[.int .i64 0, .int .i64 0, .slice na nl nc, .int .i64 ((q.2.1 : Int) + 1), .slice ea DF.length ec] 181)).heap.size := G9.out.lt
          have G11 : Hid (GR W k B TB v10 dd.2.1 pq.2 (w10.setCell ⟨TB, 0, none⟩ v10)) := G10.out.put o10 HL9 hBT
          have ct := G10.out.ct
          have ft := G10.out.ft
          obtain ⟨a10, c10, rfl⟩ := OwnN.slice9 o10
          clear o10 b10 G9 E9 G10 HL9 HRA HSZ9
          go_wp2
          go_roundw
          case rel => exact ⟨j + 1, _, by omega, by go_num, by rw [HST.out]; go_num, by rw [HST.out]; exact G11⟩
          case measure => simp [intOf]; omega
        · rw [if_pos (by simpa using hd)] at hres
          rw [if_neg hd] at HST
          rcases hres with ⟨-, rfl⟩ | ⟨heq, -⟩
          rotate_left
          · exact absurd heq hd
          have bA : Below w8.heap.size w8 (w8.alloc (.cells #[.int .i64 dd.1, .int .i64 0, .slice none 0 0, .int .i64 0, .slice none 0 0] 181)) := (Below.refl _ _).alloc (Nat.le_refl _) _
          have G9 : Hid (GR W k B TB (.slice av q.1.length cv) q.1 pq.2 (w8.alloc (.cells #[.int .i64 dd.1, .int .i64 0, .slice none 0 0, .int .i64 0, .slice none 0 0] 181))) := G8.out.below bA hkW
          have hdb : (dd.1 == 0) = false := by simpa using hd
          clear bA G8
          go_wp2
          go_roundw
          case rel => exact ⟨j + 1, _, by omega, by go_num, by rw [HST.out], by rw [HST.out]; exact G9⟩
          case measure => simp [intOf]; omega
      · have h3I : ¬ (j : Int) < 3 := by omega
        rw [if_neg h3] at HGP
        obtain ⟨xl, c0, c1, c2, c3, c4⟩ := X4.out
        have HG6 : Hid (GR W k B TB (.slice av q.1.length cv) q.1 oq.2 (w3.alloc (.cells #[.int .i64 oq.1.kind, .string oq.1.path, .string oq.1.data, .int .i64 oq.1.ver, .bool oq.1.seq] 176))) := G4.out
        go_wp2_with fail
        have G6 := HG6
        clear ct xl c0 c1 c2 c3 c4 G4 X4 F4 HG6
        have hs6 : (w3.alloc (.cells #[.int .i64 oq.1.kind, .string oq.1.path, .string oq.1.data, .int .i64 oq.1.ver, .bool oq.1.seq] 176)).heap.size = w3.heap.size + 1 := by simp
        rw [← hs6]
        generalize w3.alloc (.cells #[.int .i64 oq.1.kind, .string oq.1.path, .string oq.1.data, .int .i64 oq.1.ver, .bool oq.1.seq] 176) = w6 at *
        have HGO : Hid (q.2.2.gop q.1 j = (oq.1, oq.2)) := HGP.out
        have hsz1 : (oq.1 : Op5).path.size ≤ 2000 ∧ (oq.1 : Op5).data.size ≤ 64 := by
          rw [HGO.out] at HGS; exact HGS
        rw [HGO.out] at HST
        have HDD : Hid (Snd (doO q.1 oq.1 ((q.2.1 : Int) + 1)).2.1 ∧ (doO q.1 oq.1 ((q.2.1 : Int) + 1)).2.1.length ≤ j + 2) := HND.out oq.1
        have CP := fun W' v' (hv : RdN W' v' q.1) (vo : Value) (ho : RdO W' vo [oq.1]) => specPrep_ok W' v' vo q.1 [oq.1] ((q.2.1 : Int) + 1) hv ho (fun i hi => by
          obtain rfl : i = 0 := by simp at hi; omega
          show (oq.1 : Op5).path.size ≤ _ ∧ (oq.1 : Op5).data.size ≤ _
          omega) (HPK.out _)
        have HRO : Hid (runO ((q.2.1 : Int) + 1) [oq.1] q.1 0 [] = if (doO q.1 oq.1 ((q.2.1 : Int) + 1)).1 ≠ 0 then ((doO q.1 oq.1 ((q.2.1 : Int) + 1)).1, 0, q.1, []) else (0, 1, (doO q.1 oq.1 ((q.2.1 : Int) + 1)).2.1, [(doO q.1 oq.1 ((q.2.1 : Int) + 1)).2.2])) := runO_one _ _ _
        have RO := rdO_one w6 oq.1 176
        have b7 : Below w6.heap.size w6 (w6.alloc (.cells #[.int .i64 (oq.1 : Op5).kind, .string (oq.1 : Op5).path, .string (oq.1 : Op5).data, .int .i64 (oq.1 : Op5).ver, .bool (oq.1 : Op5).seq] 176)) := (Below.refl _ _).alloc (Nat.le_refl _) _
        have G7 : Hid (GR W k B TB (.slice av q.1.length cv) q.1 oq.2 (w6.alloc (.cells #[.int .i64 (oq.1 : Op5).kind, .string (oq.1 : Op5).path, .string (oq.1 : Op5).data, .int .i64 (oq.1 : Op5).ver, .bool (oq.1 : Op5).seq] 176))) := G6.out.below b7 hkW
        try dsimp only at RO b7 G7
        have CC := CP _ _ G7.out.own.rd _ RO
        clear CP RO b7
        generalize w6.alloc (.cells #[_, _, _, _, _] 176) = w7 at *
        refine CC.mono ?_
        rintro e w8 ⟨b8, hres⟩
        clear CC
        rw [HRO.out] at hres
        have G8 : Hid (GR W k B TB (.slice av q.1.length cv) q.1 oq.2 w8) := G7.out.below b8 hkW
        clear G6 G7 b8 HRO HGO HND HPK
        generalize doO q.1 oq.1 ((q.2.1 : Int) + 1) = dd at *
        by_cases hd : dd.1 = 0
        · rw [if_neg (by simpa using hd)] at hres
          rw [if_pos hd] at HST
          rcases hres with ⟨hne, -⟩ | ⟨-, vn, ve, rfl, on, oe⟩
          · exact absurd rfl hne
          obtain ⟨ea, ec, rfl, _, _⟩ := (OwnE.rd oe).len
          obtain ⟨na, nl, nc, rfl⟩ : ∃ a n c, vn = .slice a n c := by
            rcases on.2 with ⟨rfl, -⟩ | ⟨g, cap, cur, rfl, -⟩
            · exact ⟨_, _, _, rfl⟩
            · exact ⟨_, _, _, rfl⟩
          have bA : Below w8.heap.size w8 (w8.alloc (.cells #[.int .i64 0, .int .i64 0, .slice na nl nc, .int .i64 ((q.2.1 : Int) + 1), .slice ea (dif q.1 dd.2.1).length ec] 181)) := (Below.refl _ _).alloc (Nat.le_refl _) _
          have G9 : Hid (GR W k B TB (.slice av q.1.length cv) q.1 oq.2 (w8.alloc (.cells #[.int .i64 0, .int .i64 0, .slice na nl nc, .int .i64 ((q.2.1 : Int) + 1), .slice ea (dif q.1 dd.2.1).length ec] 181))) := G8.out.below bA hkW
          have E9 : Hid (RdE (w8.alloc (.cells #[.int .i64 0, .int .i64 0, .slice na nl nc, .int .i64 ((q.2.1 : Int) + 1), .slice ea (dif q.1 dd.2.1).length ec] 181)) (.slice ea (dif q.1 dd.2.1).length ec) (dif q.1 dd.2.1)) := (OwnE.rd oe).below bA
          have HSZ9 : Hid (∀ i, (eAt (dif q.1 dd.2.1) i).nd.path.size ≤ 1048576 ∧ (eAt (dif q.1 dd.2.1) i).nd.data.size ≤ 1048576) := dif_sz HSN.out HDD.out.1
          have HRA : Hid (resA q.1 ((q.2.1 : Int) + 1) (dif q.1 dd.2.1) = dd.2.1) := resA_dif HSN.out HDD.out.1 (by have := HDD.out.2; omega) (by omega)
          have ct := G9.out.ct
          clear on oe bA G8
          generalize dif q.1 dd.2.1 = DF at *
          go_wp2_with fail
          clear ct
          refine (specApply_any _ _ q.1 ((q.2.1 : Int) + 1) _ DF G9.out.own.rd E9.out (by omega) (fun i => by have := snd_sz HSN.out i; omega) HSZ9.out).mono ?_
          rintro e w10 ⟨v10, rfl, o10, b10⟩
          rw [HRA.out] at o10
          have G10 : Hid (GR W k B TB (.slice av q.1.length cv) q.1 oq.2 w10) := G9.out.below b10 hkW
          have HL9 : TB < (w8.alloc (.cells #[.int .i64 0, .int .i64 0, .slice na nl nc, .int .i64 ((q.2.1 : Int) + 1), .slice ea DF.length ec] 181)).heap.size := G9.out.lt
          have G11 : Hid (GR W k B TB v10 dd.2.1 oq.2 (w10.setCell ⟨TB, 0, none⟩ v10)) := G10.out.put o10 HL9 hBT
          have ct := G10.out.ct
          have ft := G10.out.ft
          obtain ⟨a10, c10, rfl⟩ := OwnN.slice9 o10
          clear o10 b10 G9 E9 G10 HL9 HRA HSZ9
          go_wp2
          go_roundw
          case rel => exact ⟨j + 1, _, by omega, by go_num, by rw [HST.out]; go_num, by rw [HST.out]; exact G11⟩
          case measure => simp [intOf]; omega
        · rw [if_pos (by simpa using hd)] at hres
          rw [if_neg hd] at HST
          rcases hres with ⟨-, rfl⟩ | ⟨heq, -⟩
          rotate_left
          · exact absurd heq hd
          have bA : Below w8.heap.size w8 (w8.alloc (.cells #[.int .i64 dd.1, .int .i64 0, .slice none 0 0, .int .i64 0, .slice none 0 0] 181)) := (Below.refl _ _).alloc (Nat.le_refl _) _
          have G9 : Hid (GR W k B TB (.slice av q.1.length cv) q.1 oq.2 (w8.alloc (.cells #[.int .i64 dd.1, .int .i64 0, .slice none 0 0, .int .i64 0, .slice none 0 0] 181))) := G8.out.below bA hkW
          have hdb : (dd.1 == 0) = false := by simpa using hd
          clear bA G8
          go_wp2
          go_roundw
          case rel => exact ⟨j + 1, _, by omega, by go_num, by rw [HST.out], by rw [HST.out]; exact G9⟩
          case measure => simp [intOf]; omega
    · have hjn : j = n := by omega
      subst hjn
      have ct := HG.out.ct
      have cr := HG.out.cr
      have fr := HG.out.fr
      have hne : TB ≠ W.heap.size := by have := HG.out.tb; omega
      have F : Hid (OwnN 84 (wr.setCell ⟨W.heap.size, 0, none⟩ (.slice av (s.grow j).1.length cv)) W.heap.size (.slice av (s.grow j).1.length cv) (s.grow j).1 ∧ SRX (wr.setCell ⟨W.heap.size, 0, none⟩ (.slice av (s.grow j).1.length cv)) k B (s.grow j).2.2 ∧ Tch k W (wr.setCell ⟨W.heap.size, 0, none⟩ (.slice av (s.grow j).1.length cv))) :=
        ⟨OwnN.setO HG.out.own HG.out.vr _, HG.out.src.keep ((Below.refl _ _).setCell hk2 _), HG.out.tch.then ((Below.refl _ _).setCell (by show W.heap.size ≤ W.heap.size; exact Nat.le_refl _) _)⟩
      clear HG
      go_wp2
      exact bodyPost_ret (v := .tuple #[.agg #[.slice av (s.grow j).1.length cv], .int .i64 ((s.grow j).2.1 : Int)]) (by simp [results, Tryd.results90, go_sem, cr]) rfl ⟨_, rfl, F.out.1, F.out.2.1, F.out.2.2⟩

end Go.Proofs.YtmgolinleiahpaaDoor

namespace Go.Proofs.YtmgolinleiahpaaDoor
open Go.RowKit Go.Shelf

/-- A node of a wide tree. -/
def widO (i : Nat) : Nd := ⟨⟨#[47, 110]⟩ ++ ⟨(six 5 i 4).toArray⟩, ByteArray.empty, 0, 0, 0, 0, 0⟩
/-- The root and so many nodes below it. -/
def widN : Nat → List Nd
  | 0 => [rootN]
  | n + 1 => widN n ++ [widO (n + 1)]
theorem widN_len : ∀ n, (widN n).length = n + 1
  | 0 => rfl
  | n + 1 => by show (widN n ++ [_]).length = _; rw [List.length_append, widN_len n]; rfl

/-- What a wide tree's making holds. -/
structure WD (W : World) (TB : Nat) (v : Value) (ns : List Nd) (w : World) : Prop where
  bel : Below W.heap.size W w
  own : OwnN 84 w W.heap.size v ns
  ct : w.cell? ⟨TB, 0, none⟩ = some v
  ft : w.frozen? ⟨TB, 0, none⟩ = false
  cr : w.cell? ⟨W.heap.size, 0, none⟩ = some (.slice none 0 0)
  fr : w.frozen? ⟨W.heap.size, 0, none⟩ = false
  tb : W.heap.size < TB
  lt : TB < w.heap.size
  vt : v.ownBlock ≠ some TB
  vr : v.ownBlock ≠ some W.heap.size
theorem WD.push {W w w' w4 : World} {TB g cap : Nat} {v : Value} {ns : List Nd} {n : Nd} {ob : Obj} (h : WD W TB v ns w) (bw : Below w.heap.size w w') (ho : w4.ownsRow W.heap.size 84 7 (.slice (some ⟨g, 0, none⟩) (ns.length + 1) cap) (ns.length + 1) (nrow ns ++ ndL n)) (hg : (w'.alloc ob).grownBy w4 v.ownBlock) (hat : v.ownBlock = some g ∨ g = w'.heap.size + 1) :
    WD W TB (.slice (some ⟨g, 0, none⟩) (ns.length + 1) cap) (ns ++ [n]) (w4.setCell ⟨TB, 0, none⟩ (.slice (some ⟨g, 0, none⟩) (ns.length + 1) cap)) ∧ w4.cell? ⟨TB, 0, none⟩ = some v ∧ w4.frozen? ⟨TB, 0, none⟩ = false := by
  have G : w'.grownBy w4 v.ownBlock := World.grownBy.trans (World.grownBy_alloc w' ob _) hg
  have htb := h.tb
  have hlt := h.lt
  have hs := bw.size
  have hs4 := G.size
  have B4 : Below W.heap.size w' w4 := ⟨G.os, G.tape, G.output, G.size, fun q hq => G.block q (by omega) (fun e => by have := (World.ownsRow.lt h.own q e.symm).1; omega)⟩
  have q1 : w4.cell? ⟨TB, 0, none⟩ = some v := (G.cell_far ⟨TB, 0, none⟩ (by show TB < _; omega) (fun e => h.vt e.symm)).trans ((bw.cell (p := ⟨TB, 0, none⟩) hlt).trans h.ct)
  have q2 : w4.frozen? ⟨TB, 0, none⟩ = false := (G.frozen_far ⟨TB, 0, none⟩ (by show TB < _; omega) (fun e => h.vt e.symm)).trans ((bw.frozen (p := ⟨TB, 0, none⟩) hlt).trans h.ft)
  have q3 : w4.cell? ⟨W.heap.size, 0, none⟩ = some (.slice none 0 0) := (G.cell_far ⟨W.heap.size, 0, none⟩ (by show W.heap.size < _; omega) (fun e => h.vr e.symm)).trans ((bw.cell (p := ⟨W.heap.size, 0, none⟩) (by show W.heap.size < _; omega)).trans h.cr)
  have q4 : w4.frozen? ⟨W.heap.size, 0, none⟩ = false := (G.frozen_far ⟨W.heap.size, 0, none⟩ (by show W.heap.size < _; omega) (fun e => h.vr e.symm)).trans ((bw.frozen (p := ⟨W.heap.size, 0, none⟩) (by show W.heap.size < _; omega)).trans h.fr)
  have hne : Value.ownBlock (.slice (some ⟨g, 0, none⟩) (ns.length + 1) cap) ≠ some TB := by
    rcases hat with e | e
    · rw [show Value.ownBlock (.slice (some ⟨g, 0, none⟩) (ns.length + 1) cap) = some g from rfl, ← e]; exact h.vt
    · simp [Value.ownBlock]; omega
  have hne2 : Value.ownBlock (.slice (some ⟨g, 0, none⟩) (ns.length + 1) cap) ≠ some W.heap.size := by
    rcases hat with e | e
    · rw [show Value.ownBlock (.slice (some ⟨g, 0, none⟩) (ns.length + 1) cap) = some g from rfl, ← e]; exact h.vr
    · simp [Value.ownBlock]; omega
  have ho' : OwnN 84 w4 W.heap.size (.slice (some ⟨g, 0, none⟩) (ns.length + 1) cap) (ns ++ [n]) := by
    unfold OwnN
    rw [List.length_append, nrow_one]
    exact ho
  refine ⟨⟨(h.bel.trans ((bw.mono (by omega)).trans B4)).setCell (by show _ ≤ TB; omega) _, OwnN.setO ho' hne _, World.cell?_setCell_same _ _ _ q1, by rw [World.frozen?_setCell]; exact q2, (World.cell?_setCell_other _ _ _ _ (by intro e; injection e with e; omega)).trans q3, by rw [World.frozen?_setCell]; exact q4, htb, by simp; omega, hne, hne2⟩, q1, q2⟩

set_option maxHeartbeats 4000000 in
set_option maxRecDepth 100000 in
theorem wide_x (W : World) (N : Nat) (h1 : 1 ≤ N) (hN : N ≤ 1001) :
    Calls Tryd.prog 92 #[.int .i64 (N : Int)] W fun e w' => ∃ v, e = .returned (.agg #[v]) ∧ OwnN 84 w' W.heap.size v (widN (N - 1)) ∧ Below W.heap.size W w' := by
  obtain ⟨i0, hi, hz0, hz1, hz2⟩ := info_parts Tryd.infoN
  have BR : Hid (Below W.heap.size W (W.alloc (.cells #[.slice none 0 0] 36))) := (Below.refl _ _).alloc (Nat.le_refl _) _
  go_enter Tryd.func92, Tryd.ntmps92
  go_wp2_with fail
  refine (specNewTree_any _).mono ?_
  rintro e w1 ⟨rfl, n1, b1⟩
  have hsz : (W.alloc (.cells #[.slice none 0 0] 36)).heap.size = W.heap.size + 1 := by simp
  rw [hsz] at n1 b1 ⊢
  have s1 := n1.lt
  have c1 := (b1.cell (p := ⟨W.heap.size, 0, none⟩) (show W.heap.size < _ by omega)).trans (show (W.alloc (.cells #[.slice none 0 0] 36)).cell? ⟨W.heap.size, 0, none⟩ = some (.slice none 0 0) by simp)
  have f1 := (b1.frozen (p := ⟨W.heap.size, 0, none⟩) (show W.heap.size < _ by omega)).trans (show (W.alloc (.cells #[.slice none 0 0] 36)).frozen? ⟨W.heap.size, 0, none⟩ = false by simp)
  have bA : Below w1.heap.size w1 (w1.alloc (.cells #[.slice (some ⟨W.heap.size + 1 + 1, 0, none⟩) 1 1] 36)) := (Below.refl _ _).alloc (Nat.le_refl _) _
  have bW : Below W.heap.size W w1 := BR.out.trans (b1.mono (by omega))
  have G1 : Hid (WD W w1.heap.size (.slice (some ⟨W.heap.size + 1 + 1, 0, none⟩) 1 1) [rootN] (w1.alloc (.cells #[.slice (some ⟨W.heap.size + 1 + 1, 0, none⟩) 1 1] 36))) := by
    refine ⟨bW.trans (bA.mono (by omega)), (ownN_root n1 (by omega)).below bA, by simp, by simp, (bA.cell (p := ⟨W.heap.size, 0, none⟩) (show W.heap.size < _ by omega)).trans c1, (bA.frozen (p := ⟨W.heap.size, 0, none⟩) (show W.heap.size < _ by omega)).trans f1, by omega, by simp, ?_, ?_⟩
    · simp [Value.ownBlock]; omega
    · simp [Value.ownBlock]; omega
  clear n1 b1 c1 f1 bA bW BR hsz
  go_wp2
  generalize w1.alloc (.cells #[.slice (some ⟨W.heap.size + 1 + 1, 0, none⟩) 1 1] 36) = w2 at *
  generalize w1.heap.size = TB at *
  go_loopw [4] (fun i wr => ∃ (j : Nat) (v : Value), j + 1 ≤ N ∧ i = .int .i64 ((j : Int) + 1) ∧ Hid (WD W TB v (widN j) wr)) (fun i _ => N - (intOf i).toNat)
  case atStart => exact ⟨0, _, by omega, rfl, G1⟩
  case round =>
    clear G1
    obtain ⟨j, v, hj, rfl, HG⟩ := hrel
    obtain ⟨av, cv, rfl⟩ := OwnN.slice9 HG.out.own
    by_cases hlt : j + 1 < N
    · have hltI : (j : Int) + 1 < (N : Int) := by omega
      have HNX : Hid (widN (j + 1) = widN j ++ [widO (j + 1)]) := rfl
      have hwl : (widN j).length ≤ 1001 := by rw [widN_len j]; omega
      have HWO : Hid (widO (j + 1) = ⟨⟨#[47, 110]⟩ ++ ⟨(six 5 (j + 1) 4).toArray⟩, ByteArray.empty, 0, 0, 0, 0, 0⟩) := rfl
      generalize widN j = ns at *
      have ct := HG.out.ct
      have ft := HG.out.ft
      have zr := HG.out.lt
      have HCL : Hid (Calls Tryd.prog 126 #[.int .i64 ((j : Int) + 1), .int .i64 4] wr.drew fun e w' => e = .returned (.string ⟨(six 5 (j + 1) 4).toArray⟩) ∧ w'.cell? ⟨TB, 0, none⟩ = some (.slice av ns.length cv) ∧ w'.frozen? ⟨TB, 0, none⟩ = false ∧ (∀ ob, (w'.alloc ob).cell? ⟨TB, 0, none⟩ = some (.slice av ns.length cv)) ∧ Hid (Below wr.heap.size wr w')) := by
        have hh := l3Six_any 4 wr.drew (j + 1) 4 (by omega) (by omega) (by omega) (by decide) (by omega) (by omega)
        rw [show ((j + 1 : Nat) : Int) = (j : Int) + 1 by omega] at hh
        refine hh.mono ?_
        rintro e w' ⟨rfl, b⟩
        have bb : Below wr.heap.size wr w' := (below_drewN' wr 1).trans b
        have q1 := (bb.cell (p := ⟨TB, 0, none⟩) HG.out.lt).trans HG.out.ct
        refine ⟨rfl, q1, (bb.frozen (p := ⟨TB, 0, none⟩) HG.out.lt).trans HG.out.ft, fun ob => ?_, bb⟩
        have ba : Below w'.heap.size w' (w'.alloc ob) := (Below.refl _ _).alloc (Nat.le_refl _) _
        exact (ba.cell (p := ⟨TB, 0, none⟩) (Nat.lt_of_lt_of_le HG.out.lt bb.size)).trans q1
      have hsl := six_len 5 (j + 1) 4
      have HOW : Hid (∀ W' ob, Below wr.heap.size wr W' → (World.alloc W' ob).ownsRow W.heap.size 84 7 (.slice av ns.length cv) ns.length (nrow ns)) := fun W' ob hW' => World.ownsRow.alloc (HG.out.own.below hW') ob
      have HBS : Hid (∀ W', Below wr.heap.size wr W' → W.heap.size ≤ W'.heap.size) := fun W' hW' => by have := HG.out.tb; have := hW'.size; show _ ≤ _; omega
      generalize six 5 (j + 1) 4 = L at *
      have hL9 : ¬ 9223372036854775807 < 2 + L.length := by omega
      go_wp2_with fail
      go_region_law (first
        | (refine step_append_lies _ (by rfl) _ _ _ (by rfl) W.heap.size 84 i0 _ 7 72 Tryd.underlying34 hi hz0 hz1 hz2 rfl (by omega) (.slice av ns.length cv) ns.length (nrow ns) (by rfl) (HOW.out w' _ bw.out) ⟨w'.heap.size, 0, none⟩ 1 1 (ndL ⟨⟨#[47, 110]⟩ ++ ⟨L.toArray⟩, ByteArray.empty, 0, 0, 0, 0, 0⟩) (by rfl) (by rfl) (ndL_cells w' ⟨⟨#[47, 110]⟩ ++ ⟨L.toArray⟩, ByteArray.empty, 0, 0, 0, 0, 0⟩ _) (ndL_one _)
            (by omega) (by unfold maxLen; omega) (by omega) (by have := HBS.out w' bw.out; simp; omega) (w'.heap.size + 1) (by simp) ?_; intro g4 cap4 w4 ho4 hg4 hat4 hlt4; obtain ⟨P4, q4, q5⟩ := HG.out.push bw.out ho4 hg4 hat4)
        | (go_simp; go_at_call 126; refine HCL.out.mono ?_; rintro e w' ⟨rfl, k4, k5, k6, bw⟩))
      all_goals
        have HP : Hid (WD W TB (.slice (some ⟨g4, 0, none⟩) (ns.length + 1) cap4) (widN (j + 1)) (w4.setCell ⟨TB, 0, none⟩ (.slice (some ⟨g4, 0, none⟩) (ns.length + 1) cap4))) := by
          rw [HNX.out, HWO.out]; exact P4
        clear P4 q4 q5 ho4 hg4 hat4 hlt4 k4 k5 k6 bw HG HOW HBS HCL ct ft
        go_wp2
        go_roundw
        case rel => exact ⟨j + 1, _, by omega, by go_num, HP⟩
        case measure => simp [intOf]; omega
    · have hjn : j + 1 = N := by omega
      have hjI : (j : Int) + 1 = (N : Int) := by omega
      have HJ : Hid (N - 1 = j) := by show _ = _; omega
      have hltI : ¬ (j : Int) + 1 < (N : Int) := by omega
      have ct := HG.out.ct
      have cr := HG.out.cr
      have fr := HG.out.fr
      have F : Hid (OwnN 84 (wr.setCell ⟨W.heap.size, 0, none⟩ (.slice av (widN j).length cv)) W.heap.size (.slice av (widN j).length cv) (widN (N - 1)) ∧ Below W.heap.size W (wr.setCell ⟨W.heap.size, 0, none⟩ (.slice av (widN j).length cv))) := by
        rw [HJ.out]
        exact ⟨OwnN.setO HG.out.own HG.out.vr _, HG.out.bel.setCell (by show W.heap.size ≤ W.heap.size; exact Nat.le_refl _) _⟩
      clear HG hjn
      go_wp2
      exact bodyPost_ret (v := .agg #[.slice av (widN j).length cv]) (by simp [results, Tryd.results92, go_sem, cr]) rfl ⟨_, rfl, F.out.1, F.out.2⟩

end Go.Proofs.YtmgolinleiahpaaDoor

namespace Go.Proofs.YtmgolinleiahpaaDoor
open Go.RowKit Go.Shelf

theorem wi_keep {ns : List Nd} (h : Asc ns) (n : Nd) {a : Nd} (ha : a ∈ ns) (hne : (a.path.toList == n.path.toList) = false) : a ∈ wiN ns n := by
  rw [wi_form n h]
  rw [← List.take_append_drop (plc ns n.path) ns] at ha
  rcases List.mem_append.1 ha with ha | ha
  · exact List.mem_append.2 (.inl ha)
  · refine List.mem_append.2 (.inr (List.mem_cons_of_mem _ ?_))
    rw [← wo_drop ns n.path h]
    exact List.mem_filter.2 ⟨ha, by rw [hne]; rfl⟩
/-- The root stays. -/
def HasR (ns : List Nd) : Prop := ∃ a ∈ ns, (a.path.toList == [47]) = true
theorem HasR.wi {ns : List Nd} (h : HasR ns) (ha : Asc ns) (n : Nd) : HasR (wiN ns n) := by
  obtain ⟨a, h1, h2⟩ := h
  cases e : (a.path.toList == n.path.toList) with
  | false => exact ⟨a, wi_keep ha n h1 e, h2⟩
  | true =>
    refine ⟨n, ?_, ?_⟩
    · rw [wi_form n ha]; exact List.mem_append.2 (.inr (List.mem_cons_self ..))
    · rw [beq_iff_eq] at e h2 ⊢; rw [← e]; exact h2
theorem HasR.wo {ns : List Nd} (h : HasR ns) {p : ByteArray} (hp : (p.toList == [47]) = false) : HasR (woN ns p) := by
  obtain ⟨a, h1, h2⟩ := h
  refine ⟨a, List.mem_filter.2 ⟨h1, ?_⟩, h2⟩
  cases e : (a.path.toList == p.toList) with
  | false => rfl
  | true => rw [beq_iff_eq] at e h2; rw [← e, h2] at hp; simp at hp
theorem HasR.to {ns : List Nd} (h : HasR ns) (ha : Asc ns) (p : ByteArray) (z : Int) : HasR (toN ns p z) := by
  unfold toN
  split
  · exact h.wi ha _
  · exact h
theorem wfO_root {o : Op5} (h : wfO o = true) (hk : o.kind = 2) : (o.path.toList == [47]) = false := by
  unfold wfO at h
  simp only [hk] at h
  simp at h
  simpa using h.2.2
theorem doO_root {ns : List Nd} (h : HasR ns) (ha : Asc ns) (o : Op5) (z : Int) : HasR (doO ns o z).2.1 := by
  unfold doO
  cases hw : wfO o with
  | false => exact h
  | true =>
    simp only [Bool.not_true, Bool.false_eq_true, if_false]
    by_cases h1 : o.kind = 1
    · rw [if_pos h1]
      repeat' split
      all_goals (first | exact h | exact (h.wi ha _).to (asc_wi ha _) _ _)
    · rw [if_neg h1]
      by_cases h2 : o.kind = 2
      · rw [if_pos h2]
        repeat' split
        all_goals (first | exact h | exact (h.wo (wfO_root hw h2)).to (asc_wo ha _) _ _)
      · rw [if_neg h2]
        repeat' split
        all_goals (first | exact h | exact h.wi ha _)
theorem Sr.grow_root (s : Sr) : ∀ i, i ≤ 1000000 → HasR (s.grow i).1
  | 0, _ => ⟨rootN, by simp [Sr.grow], by rw [ByteArray.toList_eq]; rfl⟩
  | i + 1, h => by
    have ih := s.grow_root i (by omega)
    unfold Sr.grow
    split
    · exact doO_root ih (s.grow_inv i (by omega)).1.1 _ _
    · exact ih
theorem HasR.pos {ns : List Nd} (h : HasR ns) : 0 < ns.length := by obtain ⟨a, h1, -⟩ := h; exact List.length_pos_of_mem h1


end Go.Proofs.YtmgolinleiahpaaDoor

namespace Go.Proofs.YtmgolinleiahpaaDoor
open Go.RowKit Go.Shelf

theorem grown_set9 {w w' : World} {g : Nat} (h : w.grownBy w' (some g)) (j : Nat) (u : Value) : w.grownBy (w'.setCell ⟨g, j, none⟩ u) (some g) := World.grownBy.trans h (grownBy_set w' w' g j u (World.grownBy.refl _ _))
theorem GR.setNd {W w6 : World} {k B TB g cv i : Nat} {ns : List Nd} {s : Sr} (hg : GR W k B TB (.slice (some ⟨g, 0, none⟩) ns.length cv) ns s w6) (hil : i < ns.length) (hk2 : B ≤ W.heap.size) (x : Nd) :
    GR W k B TB (.slice (some ⟨g, 0, none⟩) ns.length cv) (ns.set i x) s (((((((w6.setCell ⟨g, i * 7, none⟩ (.string x.path)).setCell ⟨g, i * 7 + 1, none⟩ (.string x.data)).setCell ⟨g, i * 7 + 2, none⟩ (.int .i64 x.ver)).setCell ⟨g, i * 7 + 3, none⟩ (.int .i64 x.cver)).setCell ⟨g, i * 7 + 4, none⟩ (.int .i64 x.cz)).setCell ⟨g, i * 7 + 5, none⟩ (.int .i64 x.mz)).setCell ⟨g, i * 7 + 6, none⟩ (.int .i64 x.pz)) := by
  have hgW : W.heap.size ≤ g := (World.ownsRow.lt hg.own g rfl).1
  have hgT : g ≠ TB := fun e => hg.vt (by rw [← e]; rfl)
  have hgR : g ≠ W.heap.size := fun e => hg.vr (by rw [← e]; rfl)
  have h1 := nstored hg.own i hil x
  have G := grown_set9 (grown_set9 (grown_set9 (grown_set9 (grown_set9 (grown_set9 (grown_set9 (World.grownBy.refl w6 (some g)) (i * 7) (.string x.path)) (i * 7 + 1) (.string x.data)) (i * 7 + 2) (.int .i64 x.ver)) (i * 7 + 3) (.int .i64 x.cver)) (i * 7 + 4) (.int .i64 x.cz)) (i * 7 + 5) (.int .i64 x.mz)) (i * 7 + 6) (.int .i64 x.pz)
  revert h1 G
  generalize ((((((w6.setCell ⟨g, i * 7, none⟩ (.string x.path)).setCell ⟨g, i * 7 + 1, none⟩ (.string x.data)).setCell ⟨g, i * 7 + 2, none⟩ (.int .i64 x.ver)).setCell ⟨g, i * 7 + 3, none⟩ (.int .i64 x.cver)).setCell ⟨g, i * 7 + 4, none⟩ (.int .i64 x.cz)).setCell ⟨g, i * 7 + 5, none⟩ (.int .i64 x.mz)).setCell ⟨g, i * 7 + 6, none⟩ (.int .i64 x.pz) = w7
  intro h1 G
  have h2 : OwnN 84 w7 W.heap.size (.slice (some ⟨g, 0, none⟩) ns.length cv) (ns.set i x) := by
    unfold OwnN; rw [List.length_set]; exact h1
  have hb : Below W.heap.size w6 w7 := ⟨G.os, G.tape, G.output, G.size, fun q hq => G.block q (by have := hg.lt; have := hg.tb; omega) (fun e => by injection e with e; omega)⟩
  have htb := hg.tb
  have hlt := hg.lt
  exact ⟨hg.src.keep (hb.mono hk2), hg.tch.then hb, h2, (G.cell_far ⟨TB, 0, none⟩ hlt (fun e => hgT (by injection e with e; exact e.symm))).trans hg.ct, (G.frozen_far ⟨TB, 0, none⟩ hlt (fun e => hgT (by injection e with e; exact e.symm))).trans hg.ft, (G.cell_far ⟨W.heap.size, 0, none⟩ (by show W.heap.size < _; omega) (fun e => hgR (by injection e with e; exact e.symm))).trans hg.cr, (G.frozen_far ⟨W.heap.size, 0, none⟩ (by show W.heap.size < _; omega) (fun e => hgR (by injection e with e; exact e.symm))).trans hg.fr, hg.tb, Nat.lt_of_lt_of_le hg.lt hb.size, hg.vt, hg.vr⟩
theorem GR.outN {W w7 : World} {k B TB g cv n : Nat} {ms : List Nd} {s : Sr} (hg : GR W k B TB (.slice (some ⟨g, 0, none⟩) n cv) ms s w7) (hk2 : B ≤ W.heap.size) :
    RdN (w7.setCell ⟨W.heap.size, 0, none⟩ (.slice (some ⟨g, 0, none⟩) n cv)) (.slice (some ⟨g, 0, none⟩) n cv) ms ∧ SRX (w7.setCell ⟨W.heap.size, 0, none⟩ (.slice (some ⟨g, 0, none⟩) n cv)) k B s ∧ Tch k W (w7.setCell ⟨W.heap.size, 0, none⟩ (.slice (some ⟨g, 0, none⟩) n cv)) := by
  have hb : Below W.heap.size w7 (w7.setCell ⟨W.heap.size, 0, none⟩ (.slice (some ⟨g, 0, none⟩) n cv)) := (Below.refl _ _).setCell (by show W.heap.size ≤ W.heap.size; exact Nat.le_refl _) _
  exact ⟨(OwnN.setO hg.own hg.vr _).rd, hg.src.keep (hb.mono hk2), hg.tch.then hb⟩

end Go.Proofs.YtmgolinleiahpaaDoor

namespace Go.Proofs.YtmgolinleiahpaaDoor
open Go.RowKit Go.Shelf

/-- A slice without an address has no room. -/
def NilOk (v : Value) : Prop := ∀ n c, v = .slice none n c → n = 0 ∧ c = 0
theorem OwnN.nilOk {e : TypeId} {w : World} {lo : Nat} {v : Value} {ns : List Nd} (h : OwnN e w lo v ns) : NilOk v := by
  intro n c hv
  rcases h.2 with ⟨rfl, _⟩ | ⟨g, cap, cur, rfl, _⟩
  · simp only [Value.slice.injEq, true_and] at hv
    exact ⟨hv.1.symm, hv.2.symm⟩
  · simp at hv
theorem run_tail (ao : Option Addr) (n c L : Nat) (h1 : L ≤ n) (W : World) : (Instr.slice 34 (.slice ao n c) (some (.int .i64 (L : Int))) none none).run Tryd.prog W = .ok (.slice (if c = L then ao else ao.map (·.add (L * 7))) (n - L) (c - L)) W := by
  have h : (0 : Int) ≤ (L : Int) := by omega
  have h' : (L : Int) ≤ (n : Int) := by omega
  have he : Tryd.prog.elem 34 = 84 := by kernel_rfl
  rw [run_slice_l W 34 ao n c (by rw [he]; exact Tryd.underlying34) .i64 (L : Int) h h', he]
  go_simp
theorem slice_tail {w : World} {ao : Option Addr} {c : Nat} {R : List Nd} (h : RdN w (.slice ao R.length c) R) (hn : NilOk (.slice ao R.length c)) (L : Nat) (hL : L ≤ R.length) :
    ∃ a2, (∀ W, (Instr.slice 34 (.slice ao R.length c) (some (.int .i64 (L : Int))) none none).run Tryd.prog W = .ok (.slice a2 (R.length - L) (c - L)) W) ∧ RdN w (.slice a2 (R.length - L) (c - L)) (R.drop L) ∧ NilOk (.slice a2 (R.length - L) (c - L)) := by
  obtain ⟨ao', c', e, h1, h2, h3⟩ := h
  simp only [Value.slice.injEq] at e
  obtain ⟨rfl, -, rfl⟩ := e
  refine ⟨if c = L then ao else ao.map (·.add (L * 7)), run_tail ao _ c L hL, ⟨_, _, by rw [List.length_drop], by rw [List.length_drop]; omega, by omega, ?_⟩, ?_⟩
  · rcases h3 with rfl | ⟨b, o, rfl, hb, hc⟩
    · exact .inl (by simp)
    · by_cases hcl : c = L
      · exact .inl (List.drop_eq_nil_of_le (by omega))
      · refine .inr ⟨b, o + L * 7, by rw [if_neg hcl, Option.map_some, Addr.add_lit], hb, fun i hi => ?_⟩
        rw [List.length_drop] at hi
        have := hc (L + i) (by omega)
        have e1 : nAt (R.drop L) i = nAt R (L + i) := by unfold nAt; simp [List.getD]
        rw [e1, show o + L * 7 + i * 7 = o + (L + i) * 7 by omega]
        exact this
  · intro n' c2 hv
    simp only [Value.slice.injEq] at hv
    obtain ⟨ha, rfl, rfl⟩ := hv
    have hao : ao = none := by
      by_cases hcl : c = L
      · rw [if_pos hcl] at ha; exact ha
      · rw [if_neg hcl] at ha; simpa using ha
    subst hao
    have := hn _ _ rfl
    omega
theorem BoxE.grown {w w' : World} {B g : Nat} {n : Ef} (h : BoxE w B n) (hg : w.grownBy w' (some g)) (hne : B ≠ g) : BoxE w' B n := by
  have e := hg.block B h.lt (by simpa using hne)
  have cc : ∀ i, w'.cell? ⟨B, i, none⟩ = w.cell? ⟨B, i, none⟩ := fun i => by simp [World.cell?, e]
  have hs : w.heap.size ≤ w'.heap.size := hg.size
  exact ⟨Nat.lt_of_lt_of_le h.lt hs, (cc _).trans h.c0, (cc _).trans h.c1, (cc _).trans h.c2, (cc _).trans h.c3, (cc _).trans h.c4, (cc _).trans h.c5, (cc _).trans h.c6, (cc _).trans h.c7⟩

end Go.Proofs.YtmgolinleiahpaaDoor

namespace Go.Proofs.YtmgolinleiahpaaDoor
open Go.RowKit Go.Shelf

/-- What becomes of a grown tree. -/
def treeK (kk : Nat) (ns : List Nd) (i : Nat) (s2 : Sr) : List Nd × Sr :=
  if kk = 0 then (widN (999 + (s2.next 2).1), (s2.next 2).2)
  else if kk = 1 then (ns.set i { nAt ns i with ver := 2147483647, cver := 2147483647 }, s2)
  else if kk = 2 then (ns.set i { nAt ns i with mz := -1 }, s2)
  else if kk = 3 then (ns.set i { nAt ns i with path := ⟨#[47, 65]⟩ }, s2)
  else if kk = 4 then (ns.set i { nAt ns i with data := strOfNums (s2.bytes 65).1 }, (s2.bytes 65).2)
  else if kk = 5 then (ns.set i { nAt ns i with path := if 1 < ns.length then (nAt ns 0).path else (nAt ns i).path }, s2)
  else if kk = 6 then (ns.set i { nAt ns i with cver := 999999 + ((s2.next 2).1 : Int) }, (s2.next 2).2)
  else if kk = 7 then (ns.drop i, s2)
  else if kk = 8 then ([], s2)
  else (ns.set i (nAt ns i), s2)
def treeD (ns : List Nd) (s0 : Sr) : List Nd × Sr := treeK (s0.next 40).1 ns ((s0.next 40).2.next ns.length).1 ((s0.next 40).2.next ns.length).2
/-- A drawn tree. -/
def Sr.tree (s : Sr) : List Nd × Sr := treeD (s.grow (4 + 3 * s.size)).1 (s.grow (4 + 3 * s.size)).2.2

theorem NB.turn9 {W W' : World} {B k : Nat} {n : Nd} (h : NB W B n) (t : Tch k W W') (hne : B ≠ k) : NB W' B n := by
  obtain ⟨⟨nl, n0, n1, n2, n3, n4, n5, n6⟩, nf⟩ := h
  have b := t.2 B hne nl
  have q : ∀ j, W'.cell? ⟨B, j, none⟩ = W.cell? ⟨B, j, none⟩ := fun j => World.cell?_of_block (a := ⟨B, j, none⟩) b
  exact ⟨⟨Nat.lt_of_lt_of_le nl t.size, (q _).trans n0, (q _).trans n1, (q _).trans n2, (q _).trans n3, (q _).trans n4, (q _).trans n5, (q _).trans n6⟩, fun j => (World.frozen?_of_block b).trans (nf j)⟩

set_option maxHeartbeats 8000000 in
set_option maxRecDepth 100000 in
theorem tree_x (W : World) (k B : Nat) (s : Sr) (h : SRX W k B s) :
    Calls Tryd.prog 52 #[.pointer (some ⟨k, 0, none⟩)] W fun e w' => ∃ v, e = .returned (.agg #[v]) ∧ RdN w' v s.tree.1 ∧ SRX w' k B s.tree.2 ∧ Tch k W w' ∧ ∀ b o n c, v = .slice (some ⟨b, o, none⟩) n c → W.heap.size ≤ b := by
  have hk1 := h.kB
  have hk2 := h.lt
  have hkW : k < W.heap.size := by omega
  have hsz := h.sz
  have BR : Hid (Below W.heap.size W (W.alloc (.cells #[.slice none 0 0] 36))) := (Below.refl _ _).alloc (Nat.le_refl _) _
  have S0 : Hid (SRX (W.alloc (.cells #[.slice none 0 0] 36)) k B s) := h.keep (BR.out.mono hk2)
  have c3 := S0.out.c3
  have cr0 : Hid ((W.alloc (.cells #[.slice none 0 0] 36)).cell? ⟨W.heap.size, 0, none⟩ = some (.slice none 0 0)) := by show _ = _; simp
  have fr0 : Hid ((W.alloc (.cells #[.slice none 0 0] 36)).frozen? ⟨W.heap.size, 0, none⟩ = false) := by show _ = _; simp
  have hs0 : (W.alloc (.cells #[.slice none 0 0] 36)).heap.size = W.heap.size + 1 := by simp
  have HGI := s.grow_inv (4 + 3 * s.size) (by omega)
  have HPOS := (s.grow_root (4 + 3 * s.size) (by omega)).pos
  obtain ⟨res, hres⟩ : ∃ res, res = s.tree := ⟨_, rfl⟩
  have HRES : Hid (treeD (s.grow (4 + 3 * s.size)).1 (s.grow (4 + 3 * s.size)).2.2 = res) := hres.symm
  rw [← hres]
  have CG := grow_x (W.alloc (.cells #[.slice none 0 0] 36)) k B (4 + 3 * s.size) s S0.out (by omega)
  rw [show ((4 + 3 * s.size : Nat) : Int) = 4 + 3 * (s.size : Int) by omega] at CG
  clear h hres
  generalize s.grow (4 + 3 * s.size) = q at *
  go_enter Tryd.func52, Tryd.ntmps52
  go_wp2_with fail
  refine CG.mono ?_
  rintro e w1 ⟨v, rfl, o1, s1, t1⟩
  rw [hs0] at o1
  have hs1 := t1.size
  obtain ⟨av, cv, rfl⟩ := OwnN.slice9 o1
  have bA : Below w1.heap.size w1 (w1.alloc (.cells #[.slice av q.1.length cv] 36)) := (Below.refl _ _).alloc (Nat.le_refl _) _
  have G1 : Hid (GR W k B w1.heap.size (.slice av q.1.length cv) q.1 q.2.2 (w1.alloc (.cells #[.slice av q.1.length cv] 36))) := by
    have a := t1.2 W.heap.size (by omega) (by omega)
    refine ⟨s1.keep (bA.mono s1.lt), (Tch.of BR.out).trans (t1.trans (Tch.of bA)), (o1.mono (by omega)).below bA, by simp, by simp, (bA.cell (p := ⟨W.heap.size, 0, none⟩) (show W.heap.size < _ by omega)).trans ((World.cell?_of_block (a := ⟨W.heap.size, 0, none⟩) a).trans cr0.out), (bA.frozen (p := ⟨W.heap.size, 0, none⟩) (show W.heap.size < _ by omega)).trans ((World.frozen?_of_block a).trans fr0.out), by omega, by simp, ?_, ?_⟩
    · intro e; have := (World.ownsRow.lt o1 _ e).2; omega
    · intro e; have := (World.ownsRow.lt o1 _ e).1; omega
  obtain ⟨hsnd, hlen, -⟩ := HGI
  have HSN : Hid (Snd q.1) := hsnd
  have hgv : ∃ g, av = some ⟨g, 0, none⟩ := by
    rcases o1.2 with ⟨-, h0⟩ | ⟨g, cap, cur, h0, -⟩
    · omega
    · simp only [Value.slice.injEq] at h0; exact ⟨g, h0.1⟩
  obtain ⟨g, rfl⟩ := hgv
  clear o1 s1 t1 bA CG S0 BR cr0 fr0 c3 hsnd
  generalize q.1 = ns at *
  generalize q.2.2 = s0 at *
  generalize hTB : w1.heap.size = TB at *
  go_wp2_with fail
  generalize w1.alloc (.cells #[.slice (some ⟨g, 0, none⟩) ns.length cv] 36) = w2 at *
  refine (next_x _ k B 40 s0 G1.out.src (by omega)).mono ?_
  rintro e w3 ⟨rfl, s3, t3⟩
  have hk40 := s0.next_lt 40 (by omega)
  have HR3 : Hid (treeK (s0.next 40).1 ns ((s0.next 40).2.next ns.length).1 ((s0.next 40).2.next ns.length).2 = res) := HRES.out
  have G3 : Hid (GR W k B TB (.slice (some ⟨g, 0, none⟩) ns.length cv) ns (s0.next 40).2 w3) := G1.out.next s3 t3 hkW
  clear s3 t3 G1 HRES
  generalize (s0.next 40).2 = s1 at *
  generalize (s0.next 40).1 = kk at *
  have ct := G3.out.ct
  go_wp2_with fail
  clear ct
  refine (next_x _ k B ns.length s1 G3.out.src (by omega)).mono ?_
  rintro e w4 ⟨rfl, s4, t4⟩
  have hil := s1.next_lt ns.length HPOS
  have G4 : Hid (GR W k B TB (.slice (some ⟨g, 0, none⟩) ns.length cv) ns (s1.next ns.length).2 w4) := G3.out.next s4 t4 hkW
  clear s4 t4 G3
  generalize (s1.next ns.length).2 = s2 at *
  generalize (s1.next ns.length).1 = i at *
  have hiI : (i : Int) < (ns.length : Int) := by omega
  obtain ⟨m, hm⟩ : ∃ m, m = nAt ns i := ⟨_, rfl⟩
  have HCE : Hid (CellsN w4 g (i * 7) m) := by
    obtain ⟨ao', c', e', -, -, h3⟩ := G4.out.own.rd
    simp only [Value.slice.injEq] at e'
    obtain ⟨rfl, -, -⟩ := e'
    rcases h3 with h3 | ⟨b, o, h4, hb, hc⟩
    · rw [h3] at hil; simp at hil
    · have := hc i hil
      simp at h4
      obtain ⟨rfl, rfl⟩ := h4
      rw [Nat.zero_add] at this
      rw [hm]; exact this
  obtain ⟨e0, e1, e2, e3, e4, e5, e6⟩ := HCE.out
  have ct := G4.out.ct
  have bB : Below w4.heap.size w4 (w4.alloc (.cells #[.string m.path, .string m.data, .int .i64 m.ver, .int .i64 m.cver, .int .i64 m.cz, .int .i64 m.mz, .int .i64 m.pz] 84)) := (Below.refl _ _).alloc (Nat.le_refl _) _
  have G5 : Hid (GR W k B TB (.slice (some ⟨g, 0, none⟩) ns.length cv) ns s2 (w4.alloc (.cells #[.string m.path, .string m.data, .int .i64 m.ver, .int .i64 m.cver, .int .i64 m.cz, .int .i64 m.mz, .int .i64 m.pz] 84))) := G4.out.below bB hkW
  have N5 : Hid (NB (w4.alloc (.cells #[.string m.path, .string m.data, .int .i64 m.ver, .int .i64 m.cver, .int .i64 m.cz, .int .i64 m.mz, .int .i64 m.pz] 84)) w4.heap.size m) := NB.new _ _ _
  have hTN : TB < w4.heap.size := G4.out.lt
  have hgN : g < w4.heap.size := (World.ownsRow.lt G4.out.own g rfl).2
  have hgW : W.heap.size ≤ g := (World.ownsRow.lt G4.out.own g rfl).1
  have hgT : g ≠ TB := fun e => G4.out.vt (by rw [← e]; rfl)
  have hgR : g ≠ W.heap.size := fun e => G4.out.vr (by rw [← e]; rfl)
  have hBT : B ≤ TB := by have := G4.out.tb; omega
  have hTW : W.heap.size < TB := G4.out.tb
  clear bB
  unfold treeK at HR3
  rw [← hm] at HR3
  clear hm
  have HROW : Hid (∀ (w6 : World) (sx : Sr), GR W k B TB (.slice (some ⟨g, 0, none⟩) ns.length cv) ns sx w6 → ∀ j, j < 7 → (∃ c, w6.cell? ⟨g, i * 7 + j, none⟩ = some c) ∧ w6.frozen? ⟨g, i * 7 + j, none⟩ = false) := by
    intro w6 sx hg j hj
    refine ⟨⟨_, (World.ownsRow.cellAt hg.own (i * 7 + j) (by omega)).trans (List.getElem?_eq_getElem (by rw [nrow_length]; omega))⟩, World.ownsRow.frozenAt hg.own (i * 7 + j)⟩
  iterate 40 (try (first | go_values | go_skip | go_guarded | go_step | go_upon | go_back | go_simp))
  clear e0 e1 e2 e3 e4 e5 e6 ct HCE G4
  generalize w4.alloc (.cells #[.string m.path, .string m.data, .int .i64 m.ver, .int .i64 m.cver, .int .i64 m.cz, .int .i64 m.mz, .int .i64 m.pz] 84) = w5 at *
  generalize w4.heap.size = NK at *
  clear hTB hs1 hs0
  have hNR : NK ≠ W.heap.size := by omega
  have hNT : NK ≠ TB := by omega
  have hNg : NK ≠ g := by omega
  have hgK : g ≠ NK := by omega
  have hNk : NK ≠ k := by omega
  by_cases h9 : 9 ≤ kk
  · rw [if_neg (by omega), if_neg (by omega), if_neg (by omega), if_neg (by omega), if_neg (by omega), if_neg (by omega), if_neg (by omega), if_neg (by omega), if_neg (by omega)] at HR3
    have q0 : ((kk : Int) == 0) = false := beq_eq_false_iff_ne.2 (by omega)
    have q1 : ((kk : Int) == 1) = false := beq_eq_false_iff_ne.2 (by omega)
    have q2 : ((kk : Int) == 2) = false := beq_eq_false_iff_ne.2 (by omega)
    have q3 : ((kk : Int) == 3) = false := beq_eq_false_iff_ne.2 (by omega)
    have q4 : ((kk : Int) == 4) = false := beq_eq_false_iff_ne.2 (by omega)
    have q5 : ((kk : Int) == 5) = false := beq_eq_false_iff_ne.2 (by omega)
    have q6 : ((kk : Int) == 6) = false := beq_eq_false_iff_ne.2 (by omega)
    have q7 : ((kk : Int) == 7) = false := beq_eq_false_iff_ne.2 (by omega)
    have q8 : ((kk : Int) == 8) = false := beq_eq_false_iff_ne.2 (by omega)
    have GM : Hid (GR W k B TB (.slice (some ⟨g, 0, none⟩) ns.length cv) ns s2 (w5)) := G5
    have HG7 : Hid (GR W k B TB (.slice (some ⟨g, 0, none⟩) ns.length cv) (ns.set i m) s2 ((((((((w5).setCell ⟨g, i * 7, none⟩ (.string m.path)).setCell ⟨g, i * 7 + 1, none⟩ (.string m.data)).setCell ⟨g, i * 7 + 2, none⟩ (.int .i64 m.ver)).setCell ⟨g, i * 7 + 3, none⟩ (.int .i64 m.cver)).setCell ⟨g, i * 7 + 4, none⟩ (.int .i64 m.cz)).setCell ⟨g, i * 7 + 5, none⟩ (.int .i64 m.mz)).setCell ⟨g, i * 7 + 6, none⟩ (.int .i64 m.pz))) := GM.out.setNd hil hk2 m
    have HF : Hid (RdN (((((((((w5).setCell ⟨g, i * 7, none⟩ (.string m.path)).setCell ⟨g, i * 7 + 1, none⟩ (.string m.data)).setCell ⟨g, i * 7 + 2, none⟩ (.int .i64 m.ver)).setCell ⟨g, i * 7 + 3, none⟩ (.int .i64 m.cver)).setCell ⟨g, i * 7 + 4, none⟩ (.int .i64 m.cz)).setCell ⟨g, i * 7 + 5, none⟩ (.int .i64 m.mz)).setCell ⟨g, i * 7 + 6, none⟩ (.int .i64 m.pz)).setCell ⟨W.heap.size, 0, none⟩ (.slice (some ⟨g, 0, none⟩) ns.length cv)) (.slice (some ⟨g, 0, none⟩) ns.length cv) (ns.set i m) ∧ SRX (((((((((w5).setCell ⟨g, i * 7, none⟩ (.string m.path)).setCell ⟨g, i * 7 + 1, none⟩ (.string m.data)).setCell ⟨g, i * 7 + 2, none⟩ (.int .i64 m.ver)).setCell ⟨g, i * 7 + 3, none⟩ (.int .i64 m.cver)).setCell ⟨g, i * 7 + 4, none⟩ (.int .i64 m.cz)).setCell ⟨g, i * 7 + 5, none⟩ (.int .i64 m.mz)).setCell ⟨g, i * 7 + 6, none⟩ (.int .i64 m.pz)).setCell ⟨W.heap.size, 0, none⟩ (.slice (some ⟨g, 0, none⟩) ns.length cv)) k B s2 ∧ Tch k W (((((((((w5).setCell ⟨g, i * 7, none⟩ (.string m.path)).setCell ⟨g, i * 7 + 1, none⟩ (.string m.data)).setCell ⟨g, i * 7 + 2, none⟩ (.int .i64 m.ver)).setCell ⟨g, i * 7 + 3, none⟩ (.int .i64 m.cver)).setCell ⟨g, i * 7 + 4, none⟩ (.int .i64 m.cz)).setCell ⟨g, i * 7 + 5, none⟩ (.int .i64 m.mz)).setCell ⟨g, i * 7 + 6, none⟩ (.int .i64 m.pz)).setCell ⟨W.heap.size, 0, none⟩ (.slice (some ⟨g, 0, none⟩) ns.length cv))) := HG7.out.outN hk2
    have ct := G5.out.ct
    have cr := G5.out.cr
    have fr := G5.out.fr
    obtain ⟨⟨nl, n0, n1, n2, n3, n4, n5, n6⟩, nf⟩ := N5.out
    obtain ⟨⟨r0, k0⟩, f0⟩ := HROW.out _ _ G5.out 0 (by omega)
    obtain ⟨⟨r1, k1⟩, f1⟩ := HROW.out _ _ G5.out 1 (by omega)
    obtain ⟨⟨r2, k2⟩, f2⟩ := HROW.out _ _ G5.out 2 (by omega)
    obtain ⟨⟨r3, k3⟩, f3⟩ := HROW.out _ _ G5.out 3 (by omega)
    obtain ⟨⟨r4, k4⟩, f4⟩ := HROW.out _ _ G5.out 4 (by omega)
    obtain ⟨⟨r5, k5⟩, f5⟩ := HROW.out _ _ G5.out 5 (by omega)
    obtain ⟨⟨r6, k6⟩, f6⟩ := HROW.out _ _ G5.out 6 (by omega)
    rw [Nat.add_zero] at k0 f0
    have HNB : Hid (∀ b o n c, (Value.slice (some ⟨g, 0, none⟩) ns.length cv) = .slice (some ⟨b, o, none⟩) n c → W.heap.size ≤ b) := fun b o n c e => by simp at e; omega
    clear HROW HG7 GM G5 N5 HSN
    iterate 260 (try (first | go_values | go_skip | go_guarded | go_step | go_upon))
    refine bodyPost_ret (v := .agg #[(.slice (some ⟨g, 0, none⟩) ns.length cv)]) ?a1 ?a2 ?a3
    case a1 => simp [results, Tryd.results52, go_sem, cr]
    case a2 => rfl
    case a3 => exact ⟨_, rfl, by rw [← HR3.out]; exact HF.out.1, by rw [← HR3.out]; exact HF.out.2.1, HF.out.2.2, HNB.out⟩
  by_cases h1 : kk = 1
  · subst h1
    rw [if_neg (by decide), if_pos rfl] at HR3
    have bM : Below NK w5 (((w5).setCell ⟨NK, 2, none⟩ (.int .i64 2147483647)).setCell ⟨NK, 3, none⟩ (.int .i64 2147483647)) := by
      iterate 2 refine Below.setCell ?_ (by show NK ≤ NK; exact Nat.le_refl _) _
      exact Below.refl _ _
    have GM : Hid (GR W k B TB (.slice (some ⟨g, 0, none⟩) ns.length cv) ns s2 (((w5).setCell ⟨NK, 2, none⟩ (.int .i64 2147483647)).setCell ⟨NK, 3, none⟩ (.int .i64 2147483647))) := G5.out.far bM hTN hBT (fun q e => by simp [Value.ownBlock] at e; omega)
    clear bM
    have HG7 : Hid (GR W k B TB (.slice (some ⟨g, 0, none⟩) ns.length cv) (ns.set i ⟨m.path, m.data, 2147483647, 2147483647, m.cz, m.mz, m.pz⟩) s2 ((((((((((w5).setCell ⟨NK, 2, none⟩ (.int .i64 2147483647)).setCell ⟨NK, 3, none⟩ (.int .i64 2147483647)).setCell ⟨g, i * 7, none⟩ (.string m.path)).setCell ⟨g, i * 7 + 1, none⟩ (.string m.data)).setCell ⟨g, i * 7 + 2, none⟩ (.int .i64 2147483647)).setCell ⟨g, i * 7 + 3, none⟩ (.int .i64 2147483647)).setCell ⟨g, i * 7 + 4, none⟩ (.int .i64 m.cz)).setCell ⟨g, i * 7 + 5, none⟩ (.int .i64 m.mz)).setCell ⟨g, i * 7 + 6, none⟩ (.int .i64 m.pz))) := GM.out.setNd hil hk2 ⟨m.path, m.data, 2147483647, 2147483647, m.cz, m.mz, m.pz⟩
    have HF : Hid (RdN (((((((((((w5).setCell ⟨NK, 2, none⟩ (.int .i64 2147483647)).setCell ⟨NK, 3, none⟩ (.int .i64 2147483647)).setCell ⟨g, i * 7, none⟩ (.string m.path)).setCell ⟨g, i * 7 + 1, none⟩ (.string m.data)).setCell ⟨g, i * 7 + 2, none⟩ (.int .i64 2147483647)).setCell ⟨g, i * 7 + 3, none⟩ (.int .i64 2147483647)).setCell ⟨g, i * 7 + 4, none⟩ (.int .i64 m.cz)).setCell ⟨g, i * 7 + 5, none⟩ (.int .i64 m.mz)).setCell ⟨g, i * 7 + 6, none⟩ (.int .i64 m.pz)).setCell ⟨W.heap.size, 0, none⟩ (.slice (some ⟨g, 0, none⟩) ns.length cv)) (.slice (some ⟨g, 0, none⟩) ns.length cv) (ns.set i ⟨m.path, m.data, 2147483647, 2147483647, m.cz, m.mz, m.pz⟩) ∧ SRX (((((((((((w5).setCell ⟨NK, 2, none⟩ (.int .i64 2147483647)).setCell ⟨NK, 3, none⟩ (.int .i64 2147483647)).setCell ⟨g, i * 7, none⟩ (.string m.path)).setCell ⟨g, i * 7 + 1, none⟩ (.string m.data)).setCell ⟨g, i * 7 + 2, none⟩ (.int .i64 2147483647)).setCell ⟨g, i * 7 + 3, none⟩ (.int .i64 2147483647)).setCell ⟨g, i * 7 + 4, none⟩ (.int .i64 m.cz)).setCell ⟨g, i * 7 + 5, none⟩ (.int .i64 m.mz)).setCell ⟨g, i * 7 + 6, none⟩ (.int .i64 m.pz)).setCell ⟨W.heap.size, 0, none⟩ (.slice (some ⟨g, 0, none⟩) ns.length cv)) k B s2 ∧ Tch k W (((((((((((w5).setCell ⟨NK, 2, none⟩ (.int .i64 2147483647)).setCell ⟨NK, 3, none⟩ (.int .i64 2147483647)).setCell ⟨g, i * 7, none⟩ (.string m.path)).setCell ⟨g, i * 7 + 1, none⟩ (.string m.data)).setCell ⟨g, i * 7 + 2, none⟩ (.int .i64 2147483647)).setCell ⟨g, i * 7 + 3, none⟩ (.int .i64 2147483647)).setCell ⟨g, i * 7 + 4, none⟩ (.int .i64 m.cz)).setCell ⟨g, i * 7 + 5, none⟩ (.int .i64 m.mz)).setCell ⟨g, i * 7 + 6, none⟩ (.int .i64 m.pz)).setCell ⟨W.heap.size, 0, none⟩ (.slice (some ⟨g, 0, none⟩) ns.length cv))) := HG7.out.outN hk2
    have ct := G5.out.ct
    have cr := G5.out.cr
    have fr := G5.out.fr
    obtain ⟨⟨nl, n0, n1, n2, n3, n4, n5, n6⟩, nf⟩ := N5.out
    obtain ⟨⟨r0, k0⟩, f0⟩ := HROW.out _ _ G5.out 0 (by omega)
    obtain ⟨⟨r1, k1⟩, f1⟩ := HROW.out _ _ G5.out 1 (by omega)
    obtain ⟨⟨r2, k2⟩, f2⟩ := HROW.out _ _ G5.out 2 (by omega)
    obtain ⟨⟨r3, k3⟩, f3⟩ := HROW.out _ _ G5.out 3 (by omega)
    obtain ⟨⟨r4, k4⟩, f4⟩ := HROW.out _ _ G5.out 4 (by omega)
    obtain ⟨⟨r5, k5⟩, f5⟩ := HROW.out _ _ G5.out 5 (by omega)
    obtain ⟨⟨r6, k6⟩, f6⟩ := HROW.out _ _ G5.out 6 (by omega)
    rw [Nat.add_zero] at k0 f0
    have HNB : Hid (∀ b o n c, (Value.slice (some ⟨g, 0, none⟩) ns.length cv) = .slice (some ⟨b, o, none⟩) n c → W.heap.size ≤ b) := fun b o n c e => by simp at e; omega
    clear HROW HG7 GM G5 N5 HSN
    iterate 260 (try (first | go_values | go_skip | go_guarded | go_step | go_upon))
    refine bodyPost_ret (v := .agg #[(.slice (some ⟨g, 0, none⟩) ns.length cv)]) ?a1 ?a2 ?a3
    case a1 => simp [results, Tryd.results52, go_sem, cr]
    case a2 => rfl
    case a3 => exact ⟨_, rfl, by rw [← HR3.out]; exact HF.out.1, by rw [← HR3.out]; exact HF.out.2.1, HF.out.2.2, HNB.out⟩
  by_cases h2 : kk = 2
  · subst h2
    rw [if_neg (by decide), if_neg (by decide), if_pos rfl] at HR3
    have bM : Below NK w5 ((w5).setCell ⟨NK, 5, none⟩ (.int .i64 (-1))) := by
      iterate 1 refine Below.setCell ?_ (by show NK ≤ NK; exact Nat.le_refl _) _
      exact Below.refl _ _
    have GM : Hid (GR W k B TB (.slice (some ⟨g, 0, none⟩) ns.length cv) ns s2 ((w5).setCell ⟨NK, 5, none⟩ (.int .i64 (-1)))) := G5.out.far bM hTN hBT (fun q e => by simp [Value.ownBlock] at e; omega)
    clear bM
    have HG7 : Hid (GR W k B TB (.slice (some ⟨g, 0, none⟩) ns.length cv) (ns.set i ⟨m.path, m.data, m.ver, m.cver, m.cz, (-1), m.pz⟩) s2 (((((((((w5).setCell ⟨NK, 5, none⟩ (.int .i64 (-1))).setCell ⟨g, i * 7, none⟩ (.string m.path)).setCell ⟨g, i * 7 + 1, none⟩ (.string m.data)).setCell ⟨g, i * 7 + 2, none⟩ (.int .i64 m.ver)).setCell ⟨g, i * 7 + 3, none⟩ (.int .i64 m.cver)).setCell ⟨g, i * 7 + 4, none⟩ (.int .i64 m.cz)).setCell ⟨g, i * 7 + 5, none⟩ (.int .i64 (-1))).setCell ⟨g, i * 7 + 6, none⟩ (.int .i64 m.pz))) := GM.out.setNd hil hk2 ⟨m.path, m.data, m.ver, m.cver, m.cz, (-1), m.pz⟩
    have HF : Hid (RdN ((((((((((w5).setCell ⟨NK, 5, none⟩ (.int .i64 (-1))).setCell ⟨g, i * 7, none⟩ (.string m.path)).setCell ⟨g, i * 7 + 1, none⟩ (.string m.data)).setCell ⟨g, i * 7 + 2, none⟩ (.int .i64 m.ver)).setCell ⟨g, i * 7 + 3, none⟩ (.int .i64 m.cver)).setCell ⟨g, i * 7 + 4, none⟩ (.int .i64 m.cz)).setCell ⟨g, i * 7 + 5, none⟩ (.int .i64 (-1))).setCell ⟨g, i * 7 + 6, none⟩ (.int .i64 m.pz)).setCell ⟨W.heap.size, 0, none⟩ (.slice (some ⟨g, 0, none⟩) ns.length cv)) (.slice (some ⟨g, 0, none⟩) ns.length cv) (ns.set i ⟨m.path, m.data, m.ver, m.cver, m.cz, (-1), m.pz⟩) ∧ SRX ((((((((((w5).setCell ⟨NK, 5, none⟩ (.int .i64 (-1))).setCell ⟨g, i * 7, none⟩ (.string m.path)).setCell ⟨g, i * 7 + 1, none⟩ (.string m.data)).setCell ⟨g, i * 7 + 2, none⟩ (.int .i64 m.ver)).setCell ⟨g, i * 7 + 3, none⟩ (.int .i64 m.cver)).setCell ⟨g, i * 7 + 4, none⟩ (.int .i64 m.cz)).setCell ⟨g, i * 7 + 5, none⟩ (.int .i64 (-1))).setCell ⟨g, i * 7 + 6, none⟩ (.int .i64 m.pz)).setCell ⟨W.heap.size, 0, none⟩ (.slice (some ⟨g, 0, none⟩) ns.length cv)) k B s2 ∧ Tch k W ((((((((((w5).setCell ⟨NK, 5, none⟩ (.int .i64 (-1))).setCell ⟨g, i * 7, none⟩ (.string m.path)).setCell ⟨g, i * 7 + 1, none⟩ (.string m.data)).setCell ⟨g, i * 7 + 2, none⟩ (.int .i64 m.ver)).setCell ⟨g, i * 7 + 3, none⟩ (.int .i64 m.cver)).setCell ⟨g, i * 7 + 4, none⟩ (.int .i64 m.cz)).setCell ⟨g, i * 7 + 5, none⟩ (.int .i64 (-1))).setCell ⟨g, i * 7 + 6, none⟩ (.int .i64 m.pz)).setCell ⟨W.heap.size, 0, none⟩ (.slice (some ⟨g, 0, none⟩) ns.length cv))) := HG7.out.outN hk2
    have ct := G5.out.ct
    have cr := G5.out.cr
    have fr := G5.out.fr
    obtain ⟨⟨nl, n0, n1, n2, n3, n4, n5, n6⟩, nf⟩ := N5.out
    obtain ⟨⟨r0, k0⟩, f0⟩ := HROW.out _ _ G5.out 0 (by omega)
    obtain ⟨⟨r1, k1⟩, f1⟩ := HROW.out _ _ G5.out 1 (by omega)
    obtain ⟨⟨r2, k2⟩, f2⟩ := HROW.out _ _ G5.out 2 (by omega)
    obtain ⟨⟨r3, k3⟩, f3⟩ := HROW.out _ _ G5.out 3 (by omega)
    obtain ⟨⟨r4, k4⟩, f4⟩ := HROW.out _ _ G5.out 4 (by omega)
    obtain ⟨⟨r5, k5⟩, f5⟩ := HROW.out _ _ G5.out 5 (by omega)
    obtain ⟨⟨r6, k6⟩, f6⟩ := HROW.out _ _ G5.out 6 (by omega)
    rw [Nat.add_zero] at k0 f0
    have HNB : Hid (∀ b o n c, (Value.slice (some ⟨g, 0, none⟩) ns.length cv) = .slice (some ⟨b, o, none⟩) n c → W.heap.size ≤ b) := fun b o n c e => by simp at e; omega
    clear HROW HG7 GM G5 N5 HSN
    iterate 260 (try (first | go_values | go_skip | go_guarded | go_step | go_upon))
    refine bodyPost_ret (v := .agg #[(.slice (some ⟨g, 0, none⟩) ns.length cv)]) ?a1 ?a2 ?a3
    case a1 => simp [results, Tryd.results52, go_sem, cr]
    case a2 => rfl
    case a3 => exact ⟨_, rfl, by rw [← HR3.out]; exact HF.out.1, by rw [← HR3.out]; exact HF.out.2.1, HF.out.2.2, HNB.out⟩
  by_cases h3 : kk = 3
  · subst h3
    rw [if_neg (by decide), if_neg (by decide), if_neg (by decide), if_pos rfl] at HR3
    have bM : Below NK w5 ((w5).setCell ⟨NK, 0, none⟩ (.string ⟨#[47, 65]⟩)) := by
      iterate 1 refine Below.setCell ?_ (by show NK ≤ NK; exact Nat.le_refl _) _
      exact Below.refl _ _
    have GM : Hid (GR W k B TB (.slice (some ⟨g, 0, none⟩) ns.length cv) ns s2 ((w5).setCell ⟨NK, 0, none⟩ (.string ⟨#[47, 65]⟩))) := G5.out.far bM hTN hBT (fun q e => by simp [Value.ownBlock] at e; omega)
    clear bM
    have HG7 : Hid (GR W k B TB (.slice (some ⟨g, 0, none⟩) ns.length cv) (ns.set i ⟨⟨#[47, 65]⟩, m.data, m.ver, m.cver, m.cz, m.mz, m.pz⟩) s2 (((((((((w5).setCell ⟨NK, 0, none⟩ (.string ⟨#[47, 65]⟩)).setCell ⟨g, i * 7, none⟩ (.string ⟨#[47, 65]⟩)).setCell ⟨g, i * 7 + 1, none⟩ (.string m.data)).setCell ⟨g, i * 7 + 2, none⟩ (.int .i64 m.ver)).setCell ⟨g, i * 7 + 3, none⟩ (.int .i64 m.cver)).setCell ⟨g, i * 7 + 4, none⟩ (.int .i64 m.cz)).setCell ⟨g, i * 7 + 5, none⟩ (.int .i64 m.mz)).setCell ⟨g, i * 7 + 6, none⟩ (.int .i64 m.pz))) := GM.out.setNd hil hk2 ⟨⟨#[47, 65]⟩, m.data, m.ver, m.cver, m.cz, m.mz, m.pz⟩
    have HF : Hid (RdN ((((((((((w5).setCell ⟨NK, 0, none⟩ (.string ⟨#[47, 65]⟩)).setCell ⟨g, i * 7, none⟩ (.string ⟨#[47, 65]⟩)).setCell ⟨g, i * 7 + 1, none⟩ (.string m.data)).setCell ⟨g, i * 7 + 2, none⟩ (.int .i64 m.ver)).setCell ⟨g, i * 7 + 3, none⟩ (.int .i64 m.cver)).setCell ⟨g, i * 7 + 4, none⟩ (.int .i64 m.cz)).setCell ⟨g, i * 7 + 5, none⟩ (.int .i64 m.mz)).setCell ⟨g, i * 7 + 6, none⟩ (.int .i64 m.pz)).setCell ⟨W.heap.size, 0, none⟩ (.slice (some ⟨g, 0, none⟩) ns.length cv)) (.slice (some ⟨g, 0, none⟩) ns.length cv) (ns.set i ⟨⟨#[47, 65]⟩, m.data, m.ver, m.cver, m.cz, m.mz, m.pz⟩) ∧ SRX ((((((((((w5).setCell ⟨NK, 0, none⟩ (.string ⟨#[47, 65]⟩)).setCell ⟨g, i * 7, none⟩ (.string ⟨#[47, 65]⟩)).setCell ⟨g, i * 7 + 1, none⟩ (.string m.data)).setCell ⟨g, i * 7 + 2, none⟩ (.int .i64 m.ver)).setCell ⟨g, i * 7 + 3, none⟩ (.int .i64 m.cver)).setCell ⟨g, i * 7 + 4, none⟩ (.int .i64 m.cz)).setCell ⟨g, i * 7 + 5, none⟩ (.int .i64 m.mz)).setCell ⟨g, i * 7 + 6, none⟩ (.int .i64 m.pz)).setCell ⟨W.heap.size, 0, none⟩ (.slice (some ⟨g, 0, none⟩) ns.length cv)) k B s2 ∧ Tch k W ((((((((((w5).setCell ⟨NK, 0, none⟩ (.string ⟨#[47, 65]⟩)).setCell ⟨g, i * 7, none⟩ (.string ⟨#[47, 65]⟩)).setCell ⟨g, i * 7 + 1, none⟩ (.string m.data)).setCell ⟨g, i * 7 + 2, none⟩ (.int .i64 m.ver)).setCell ⟨g, i * 7 + 3, none⟩ (.int .i64 m.cver)).setCell ⟨g, i * 7 + 4, none⟩ (.int .i64 m.cz)).setCell ⟨g, i * 7 + 5, none⟩ (.int .i64 m.mz)).setCell ⟨g, i * 7 + 6, none⟩ (.int .i64 m.pz)).setCell ⟨W.heap.size, 0, none⟩ (.slice (some ⟨g, 0, none⟩) ns.length cv))) := HG7.out.outN hk2
    have ct := G5.out.ct
    have cr := G5.out.cr
    have fr := G5.out.fr
    obtain ⟨⟨nl, n0, n1, n2, n3, n4, n5, n6⟩, nf⟩ := N5.out
    obtain ⟨⟨r0, k0⟩, f0⟩ := HROW.out _ _ G5.out 0 (by omega)
    obtain ⟨⟨r1, k1⟩, f1⟩ := HROW.out _ _ G5.out 1 (by omega)
    obtain ⟨⟨r2, k2⟩, f2⟩ := HROW.out _ _ G5.out 2 (by omega)
    obtain ⟨⟨r3, k3⟩, f3⟩ := HROW.out _ _ G5.out 3 (by omega)
    obtain ⟨⟨r4, k4⟩, f4⟩ := HROW.out _ _ G5.out 4 (by omega)
    obtain ⟨⟨r5, k5⟩, f5⟩ := HROW.out _ _ G5.out 5 (by omega)
    obtain ⟨⟨r6, k6⟩, f6⟩ := HROW.out _ _ G5.out 6 (by omega)
    rw [Nat.add_zero] at k0 f0
    have HNB : Hid (∀ b o n c, (Value.slice (some ⟨g, 0, none⟩) ns.length cv) = .slice (some ⟨b, o, none⟩) n c → W.heap.size ≤ b) := fun b o n c e => by simp at e; omega
    clear HROW HG7 GM G5 N5 HSN
    iterate 260 (try (first | go_values | go_skip | go_guarded | go_step | go_upon))
    refine bodyPost_ret (v := .agg #[(.slice (some ⟨g, 0, none⟩) ns.length cv)]) ?a1 ?a2 ?a3
    case a1 => simp [results, Tryd.results52, go_sem, cr]
    case a2 => rfl
    case a3 => exact ⟨_, rfl, by rw [← HR3.out]; exact HF.out.1, by rw [← HR3.out]; exact HF.out.2.1, HF.out.2.2, HNB.out⟩
  by_cases h5 : kk = 5
  · subst h5
    rw [if_neg (by decide), if_neg (by decide), if_neg (by decide), if_neg (by decide), if_neg (by decide), if_pos rfl] at HR3
    by_cases hl1 : 1 < ns.length
    · rw [if_pos hl1] at HR3
      have hl1I : (1 : Int) < (ns.length : Int) := by omega
      have hl0I : (0 : Int) < (ns.length : Int) := by omega
      have kz : w5.cell? ⟨g, 0, none⟩ = some (.string (nAt ns 0).path) := by
        have := World.ownsRow.cellAt G5.out.own 0 (by omega)
        rw [this]
        have hh := nrow_get ns 0 0 (by omega) (by omega)
        simpa [ndL] using hh
      have bM : Below NK w5 ((w5).setCell ⟨NK, 0, none⟩ (.string (nAt ns 0).path)) := by
        iterate 1 refine Below.setCell ?_ (by show NK ≤ NK; exact Nat.le_refl _) _
        exact Below.refl _ _
      have GM : Hid (GR W k B TB (.slice (some ⟨g, 0, none⟩) ns.length cv) ns s2 ((w5).setCell ⟨NK, 0, none⟩ (.string (nAt ns 0).path))) := G5.out.far bM hTN hBT (fun q e => by simp [Value.ownBlock] at e; omega)
      clear bM
      have HG7 : Hid (GR W k B TB (.slice (some ⟨g, 0, none⟩) ns.length cv) (ns.set i ⟨(nAt ns 0).path, m.data, m.ver, m.cver, m.cz, m.mz, m.pz⟩) s2 (((((((((w5).setCell ⟨NK, 0, none⟩ (.string (nAt ns 0).path)).setCell ⟨g, i * 7, none⟩ (.string (nAt ns 0).path)).setCell ⟨g, i * 7 + 1, none⟩ (.string m.data)).setCell ⟨g, i * 7 + 2, none⟩ (.int .i64 m.ver)).setCell ⟨g, i * 7 + 3, none⟩ (.int .i64 m.cver)).setCell ⟨g, i * 7 + 4, none⟩ (.int .i64 m.cz)).setCell ⟨g, i * 7 + 5, none⟩ (.int .i64 m.mz)).setCell ⟨g, i * 7 + 6, none⟩ (.int .i64 m.pz))) := GM.out.setNd hil hk2 ⟨(nAt ns 0).path, m.data, m.ver, m.cver, m.cz, m.mz, m.pz⟩
      have HF : Hid (RdN ((((((((((w5).setCell ⟨NK, 0, none⟩ (.string (nAt ns 0).path)).setCell ⟨g, i * 7, none⟩ (.string (nAt ns 0).path)).setCell ⟨g, i * 7 + 1, none⟩ (.string m.data)).setCell ⟨g, i * 7 + 2, none⟩ (.int .i64 m.ver)).setCell ⟨g, i * 7 + 3, none⟩ (.int .i64 m.cver)).setCell ⟨g, i * 7 + 4, none⟩ (.int .i64 m.cz)).setCell ⟨g, i * 7 + 5, none⟩ (.int .i64 m.mz)).setCell ⟨g, i * 7 + 6, none⟩ (.int .i64 m.pz)).setCell ⟨W.heap.size, 0, none⟩ (.slice (some ⟨g, 0, none⟩) ns.length cv)) (.slice (some ⟨g, 0, none⟩) ns.length cv) (ns.set i ⟨(nAt ns 0).path, m.data, m.ver, m.cver, m.cz, m.mz, m.pz⟩) ∧ SRX ((((((((((w5).setCell ⟨NK, 0, none⟩ (.string (nAt ns 0).path)).setCell ⟨g, i * 7, none⟩ (.string (nAt ns 0).path)).setCell ⟨g, i * 7 + 1, none⟩ (.string m.data)).setCell ⟨g, i * 7 + 2, none⟩ (.int .i64 m.ver)).setCell ⟨g, i * 7 + 3, none⟩ (.int .i64 m.cver)).setCell ⟨g, i * 7 + 4, none⟩ (.int .i64 m.cz)).setCell ⟨g, i * 7 + 5, none⟩ (.int .i64 m.mz)).setCell ⟨g, i * 7 + 6, none⟩ (.int .i64 m.pz)).setCell ⟨W.heap.size, 0, none⟩ (.slice (some ⟨g, 0, none⟩) ns.length cv)) k B s2 ∧ Tch k W ((((((((((w5).setCell ⟨NK, 0, none⟩ (.string (nAt ns 0).path)).setCell ⟨g, i * 7, none⟩ (.string (nAt ns 0).path)).setCell ⟨g, i * 7 + 1, none⟩ (.string m.data)).setCell ⟨g, i * 7 + 2, none⟩ (.int .i64 m.ver)).setCell ⟨g, i * 7 + 3, none⟩ (.int .i64 m.cver)).setCell ⟨g, i * 7 + 4, none⟩ (.int .i64 m.cz)).setCell ⟨g, i * 7 + 5, none⟩ (.int .i64 m.mz)).setCell ⟨g, i * 7 + 6, none⟩ (.int .i64 m.pz)).setCell ⟨W.heap.size, 0, none⟩ (.slice (some ⟨g, 0, none⟩) ns.length cv))) := HG7.out.outN hk2
      have ct := G5.out.ct
      have cr := G5.out.cr
      have fr := G5.out.fr
      obtain ⟨⟨nl, n0, n1, n2, n3, n4, n5, n6⟩, nf⟩ := N5.out
      obtain ⟨⟨r0, k0⟩, f0⟩ := HROW.out _ _ G5.out 0 (by omega)
      obtain ⟨⟨r1, k1⟩, f1⟩ := HROW.out _ _ G5.out 1 (by omega)
      obtain ⟨⟨r2, k2⟩, f2⟩ := HROW.out _ _ G5.out 2 (by omega)
      obtain ⟨⟨r3, k3⟩, f3⟩ := HROW.out _ _ G5.out 3 (by omega)
      obtain ⟨⟨r4, k4⟩, f4⟩ := HROW.out _ _ G5.out 4 (by omega)
      obtain ⟨⟨r5, k5⟩, f5⟩ := HROW.out _ _ G5.out 5 (by omega)
      obtain ⟨⟨r6, k6⟩, f6⟩ := HROW.out _ _ G5.out 6 (by omega)
      rw [Nat.add_zero] at k0 f0
      have HNB : Hid (∀ b o n c, (Value.slice (some ⟨g, 0, none⟩) ns.length cv) = .slice (some ⟨b, o, none⟩) n c → W.heap.size ≤ b) := fun b o n c e => by simp at e; omega
      clear HROW HG7 GM G5 N5 HSN
      iterate 260 (try (first | go_values | go_skip | go_guarded | go_step | go_upon))
      refine bodyPost_ret (v := .agg #[(.slice (some ⟨g, 0, none⟩) ns.length cv)]) ?a1 ?a2 ?a3
      case a1 => simp [results, Tryd.results52, go_sem, cr]
      case a2 => rfl
      case a3 => exact ⟨_, rfl, by rw [← HR3.out]; exact HF.out.1, by rw [← HR3.out]; exact HF.out.2.1, HF.out.2.2, HNB.out⟩
    · rw [if_neg hl1] at HR3
      have hl1I : ¬ (1 : Int) < (ns.length : Int) := by omega
      have hl1d : decide ((1 : Int) < (ns.length : Int)) = false := by simpa using hl1I
      have GM : Hid (GR W k B TB (.slice (some ⟨g, 0, none⟩) ns.length cv) ns s2 (w5)) := G5
      have HG7 : Hid (GR W k B TB (.slice (some ⟨g, 0, none⟩) ns.length cv) (ns.set i m) s2 ((((((((w5).setCell ⟨g, i * 7, none⟩ (.string m.path)).setCell ⟨g, i * 7 + 1, none⟩ (.string m.data)).setCell ⟨g, i * 7 + 2, none⟩ (.int .i64 m.ver)).setCell ⟨g, i * 7 + 3, none⟩ (.int .i64 m.cver)).setCell ⟨g, i * 7 + 4, none⟩ (.int .i64 m.cz)).setCell ⟨g, i * 7 + 5, none⟩ (.int .i64 m.mz)).setCell ⟨g, i * 7 + 6, none⟩ (.int .i64 m.pz))) := GM.out.setNd hil hk2 m
      have HF : Hid (RdN (((((((((w5).setCell ⟨g, i * 7, none⟩ (.string m.path)).setCell ⟨g, i * 7 + 1, none⟩ (.string m.data)).setCell ⟨g, i * 7 + 2, none⟩ (.int .i64 m.ver)).setCell ⟨g, i * 7 + 3, none⟩ (.int .i64 m.cver)).setCell ⟨g, i * 7 + 4, none⟩ (.int .i64 m.cz)).setCell ⟨g, i * 7 + 5, none⟩ (.int .i64 m.mz)).setCell ⟨g, i * 7 + 6, none⟩ (.int .i64 m.pz)).setCell ⟨W.heap.size, 0, none⟩ (.slice (some ⟨g, 0, none⟩) ns.length cv)) (.slice (some ⟨g, 0, none⟩) ns.length cv) (ns.set i m) ∧ SRX (((((((((w5).setCell ⟨g, i * 7, none⟩ (.string m.path)).setCell ⟨g, i * 7 + 1, none⟩ (.string m.data)).setCell ⟨g, i * 7 + 2, none⟩ (.int .i64 m.ver)).setCell ⟨g, i * 7 + 3, none⟩ (.int .i64 m.cver)).setCell ⟨g, i * 7 + 4, none⟩ (.int .i64 m.cz)).setCell ⟨g, i * 7 + 5, none⟩ (.int .i64 m.mz)).setCell ⟨g, i * 7 + 6, none⟩ (.int .i64 m.pz)).setCell ⟨W.heap.size, 0, none⟩ (.slice (some ⟨g, 0, none⟩) ns.length cv)) k B s2 ∧ Tch k W (((((((((w5).setCell ⟨g, i * 7, none⟩ (.string m.path)).setCell ⟨g, i * 7 + 1, none⟩ (.string m.data)).setCell ⟨g, i * 7 + 2, none⟩ (.int .i64 m.ver)).setCell ⟨g, i * 7 + 3, none⟩ (.int .i64 m.cver)).setCell ⟨g, i * 7 + 4, none⟩ (.int .i64 m.cz)).setCell ⟨g, i * 7 + 5, none⟩ (.int .i64 m.mz)).setCell ⟨g, i * 7 + 6, none⟩ (.int .i64 m.pz)).setCell ⟨W.heap.size, 0, none⟩ (.slice (some ⟨g, 0, none⟩) ns.length cv))) := HG7.out.outN hk2
      have ct := G5.out.ct
      have cr := G5.out.cr
      have fr := G5.out.fr
      obtain ⟨⟨nl, n0, n1, n2, n3, n4, n5, n6⟩, nf⟩ := N5.out
      obtain ⟨⟨r0, k0⟩, f0⟩ := HROW.out _ _ G5.out 0 (by omega)
      obtain ⟨⟨r1, k1⟩, f1⟩ := HROW.out _ _ G5.out 1 (by omega)
      obtain ⟨⟨r2, k2⟩, f2⟩ := HROW.out _ _ G5.out 2 (by omega)
      obtain ⟨⟨r3, k3⟩, f3⟩ := HROW.out _ _ G5.out 3 (by omega)
      obtain ⟨⟨r4, k4⟩, f4⟩ := HROW.out _ _ G5.out 4 (by omega)
      obtain ⟨⟨r5, k5⟩, f5⟩ := HROW.out _ _ G5.out 5 (by omega)
      obtain ⟨⟨r6, k6⟩, f6⟩ := HROW.out _ _ G5.out 6 (by omega)
      rw [Nat.add_zero] at k0 f0
      have HNB : Hid (∀ b o n c, (Value.slice (some ⟨g, 0, none⟩) ns.length cv) = .slice (some ⟨b, o, none⟩) n c → W.heap.size ≤ b) := fun b o n c e => by simp at e; omega
      clear HROW HG7 GM G5 N5 HSN
      iterate 260 (try (first | go_values | go_skip | go_guarded | go_step | go_upon))
      refine bodyPost_ret (v := .agg #[(.slice (some ⟨g, 0, none⟩) ns.length cv)]) ?a1 ?a2 ?a3
      case a1 => simp [results, Tryd.results52, go_sem, cr]
      case a2 => rfl
      case a3 => exact ⟨_, rfl, by rw [← HR3.out]; exact HF.out.1, by rw [← HR3.out]; exact HF.out.2.1, HF.out.2.2, HNB.out⟩
  by_cases h4 : kk = 4
  · subst h4
    rw [if_neg (by decide), if_neg (by decide), if_neg (by decide), if_neg (by decide), if_pos rfl] at HR3
    have CB := bytes_x w5 k B 65 s2 G5.out.src (by omega)
    generalize s2.bytes 65 = bq at *
    iterate 260 (try (first | go_values | go_skip | go_guarded | go_step | go_upon))
    refine CB.mono ?_
    rintro e w6 ⟨v6, rfl, o6, s6, t6⟩
    clear CB
    have hcv := conv_any o6.rd
    obtain ⟨a6, c6, rfl⟩ := o6.slice
    have G6 : Hid (GR W k B TB (.slice (some ⟨g, 0, none⟩) ns.length cv) ns bq.2 w6) := G5.out.next s6 t6 hkW
    have N6 : Hid (NB w6 NK m) := N5.out.turn9 t6 hNk
    clear o6 s6 t6 G5 N5
    simp only []
    have bM : Below NK w6 ((w6).setCell ⟨NK, 1, none⟩ (.string (strOfNums bq.1))) := by
      iterate 1 refine Below.setCell ?_ (by show NK ≤ NK; exact Nat.le_refl _) _
      exact Below.refl _ _
    have GM : Hid (GR W k B TB (.slice (some ⟨g, 0, none⟩) ns.length cv) ns bq.2 ((w6).setCell ⟨NK, 1, none⟩ (.string (strOfNums bq.1)))) := G6.out.far bM hTN hBT (fun q e => by simp [Value.ownBlock] at e; omega)
    clear bM
    have HG7 : Hid (GR W k B TB (.slice (some ⟨g, 0, none⟩) ns.length cv) (ns.set i ⟨m.path, strOfNums bq.1, m.ver, m.cver, m.cz, m.mz, m.pz⟩) bq.2 (((((((((w6).setCell ⟨NK, 1, none⟩ (.string (strOfNums bq.1))).setCell ⟨g, i * 7, none⟩ (.string m.path)).setCell ⟨g, i * 7 + 1, none⟩ (.string (strOfNums bq.1))).setCell ⟨g, i * 7 + 2, none⟩ (.int .i64 m.ver)).setCell ⟨g, i * 7 + 3, none⟩ (.int .i64 m.cver)).setCell ⟨g, i * 7 + 4, none⟩ (.int .i64 m.cz)).setCell ⟨g, i * 7 + 5, none⟩ (.int .i64 m.mz)).setCell ⟨g, i * 7 + 6, none⟩ (.int .i64 m.pz))) := GM.out.setNd hil hk2 ⟨m.path, strOfNums bq.1, m.ver, m.cver, m.cz, m.mz, m.pz⟩
    have HF : Hid (RdN ((((((((((w6).setCell ⟨NK, 1, none⟩ (.string (strOfNums bq.1))).setCell ⟨g, i * 7, none⟩ (.string m.path)).setCell ⟨g, i * 7 + 1, none⟩ (.string (strOfNums bq.1))).setCell ⟨g, i * 7 + 2, none⟩ (.int .i64 m.ver)).setCell ⟨g, i * 7 + 3, none⟩ (.int .i64 m.cver)).setCell ⟨g, i * 7 + 4, none⟩ (.int .i64 m.cz)).setCell ⟨g, i * 7 + 5, none⟩ (.int .i64 m.mz)).setCell ⟨g, i * 7 + 6, none⟩ (.int .i64 m.pz)).setCell ⟨W.heap.size, 0, none⟩ (.slice (some ⟨g, 0, none⟩) ns.length cv)) (.slice (some ⟨g, 0, none⟩) ns.length cv) (ns.set i ⟨m.path, strOfNums bq.1, m.ver, m.cver, m.cz, m.mz, m.pz⟩) ∧ SRX ((((((((((w6).setCell ⟨NK, 1, none⟩ (.string (strOfNums bq.1))).setCell ⟨g, i * 7, none⟩ (.string m.path)).setCell ⟨g, i * 7 + 1, none⟩ (.string (strOfNums bq.1))).setCell ⟨g, i * 7 + 2, none⟩ (.int .i64 m.ver)).setCell ⟨g, i * 7 + 3, none⟩ (.int .i64 m.cver)).setCell ⟨g, i * 7 + 4, none⟩ (.int .i64 m.cz)).setCell ⟨g, i * 7 + 5, none⟩ (.int .i64 m.mz)).setCell ⟨g, i * 7 + 6, none⟩ (.int .i64 m.pz)).setCell ⟨W.heap.size, 0, none⟩ (.slice (some ⟨g, 0, none⟩) ns.length cv)) k B bq.2 ∧ Tch k W ((((((((((w6).setCell ⟨NK, 1, none⟩ (.string (strOfNums bq.1))).setCell ⟨g, i * 7, none⟩ (.string m.path)).setCell ⟨g, i * 7 + 1, none⟩ (.string (strOfNums bq.1))).setCell ⟨g, i * 7 + 2, none⟩ (.int .i64 m.ver)).setCell ⟨g, i * 7 + 3, none⟩ (.int .i64 m.cver)).setCell ⟨g, i * 7 + 4, none⟩ (.int .i64 m.cz)).setCell ⟨g, i * 7 + 5, none⟩ (.int .i64 m.mz)).setCell ⟨g, i * 7 + 6, none⟩ (.int .i64 m.pz)).setCell ⟨W.heap.size, 0, none⟩ (.slice (some ⟨g, 0, none⟩) ns.length cv))) := HG7.out.outN hk2
    have ct := G6.out.ct
    have cr := G6.out.cr
    have fr := G6.out.fr
    obtain ⟨⟨nl, n0, n1, n2, n3, n4, n5, n6⟩, nf⟩ := N6.out
    obtain ⟨⟨r0, k0⟩, f0⟩ := HROW.out _ _ G6.out 0 (by omega)
    obtain ⟨⟨r1, k1⟩, f1⟩ := HROW.out _ _ G6.out 1 (by omega)
    obtain ⟨⟨r2, k2⟩, f2⟩ := HROW.out _ _ G6.out 2 (by omega)
    obtain ⟨⟨r3, k3⟩, f3⟩ := HROW.out _ _ G6.out 3 (by omega)
    obtain ⟨⟨r4, k4⟩, f4⟩ := HROW.out _ _ G6.out 4 (by omega)
    obtain ⟨⟨r5, k5⟩, f5⟩ := HROW.out _ _ G6.out 5 (by omega)
    obtain ⟨⟨r6, k6⟩, f6⟩ := HROW.out _ _ G6.out 6 (by omega)
    rw [Nat.add_zero] at k0 f0
    have HNB : Hid (∀ b o n c, (Value.slice (some ⟨g, 0, none⟩) ns.length cv) = .slice (some ⟨b, o, none⟩) n c → W.heap.size ≤ b) := fun b o n c e => by simp at e; omega
    clear HROW HG7 GM G6 N6 HSN
    iterate 260 (try (first | go_values | go_skip | go_guarded | go_step | go_upon))
    refine bodyPost_ret (v := .agg #[(.slice (some ⟨g, 0, none⟩) ns.length cv)]) ?a1 ?a2 ?a3
    case a1 => simp [results, Tryd.results52, go_sem, cr]
    case a2 => rfl
    case a3 => exact ⟨_, rfl, by rw [← HR3.out]; exact HF.out.1, by rw [← HR3.out]; exact HF.out.2.1, HF.out.2.2, HNB.out⟩
  by_cases h6 : kk = 6
  · subst h6
    rw [if_neg (by decide), if_neg (by decide), if_neg (by decide), if_neg (by decide), if_neg (by decide), if_neg (by decide), if_pos rfl] at HR3
    iterate 260 (try (first | go_values | go_skip | go_guarded | go_step | go_upon))
    refine (next_x _ k B 2 s2 G5.out.src (by omega)).mono ?_
    rintro e w6 ⟨rfl, s6, t6⟩
    have hn6 := s2.next_lt 2 (by omega)
    have G6 : Hid (GR W k B TB (.slice (some ⟨g, 0, none⟩) ns.length cv) ns (s2.next 2).2 w6) := G5.out.next s6 t6 hkW
    have N6 : Hid (NB w6 NK m) := N5.out.turn9 t6 hNk
    clear s6 t6 G5 N5
    generalize (s2.next 2).2 = s6 at *
    generalize (s2.next 2).1 = n6' at *
    simp only []
    have bM : Below NK w6 ((w6).setCell ⟨NK, 3, none⟩ (.int .i64 (999999 + (n6' : Int)))) := by
      iterate 1 refine Below.setCell ?_ (by show NK ≤ NK; exact Nat.le_refl _) _
      exact Below.refl _ _
    have GM : Hid (GR W k B TB (.slice (some ⟨g, 0, none⟩) ns.length cv) ns s6 ((w6).setCell ⟨NK, 3, none⟩ (.int .i64 (999999 + (n6' : Int))))) := G6.out.far bM hTN hBT (fun q e => by simp [Value.ownBlock] at e; omega)
    clear bM
    have HG7 : Hid (GR W k B TB (.slice (some ⟨g, 0, none⟩) ns.length cv) (ns.set i ⟨m.path, m.data, m.ver, 999999 + (n6' : Int), m.cz, m.mz, m.pz⟩) s6 (((((((((w6).setCell ⟨NK, 3, none⟩ (.int .i64 (999999 + (n6' : Int)))).setCell ⟨g, i * 7, none⟩ (.string m.path)).setCell ⟨g, i * 7 + 1, none⟩ (.string m.data)).setCell ⟨g, i * 7 + 2, none⟩ (.int .i64 m.ver)).setCell ⟨g, i * 7 + 3, none⟩ (.int .i64 (999999 + (n6' : Int)))).setCell ⟨g, i * 7 + 4, none⟩ (.int .i64 m.cz)).setCell ⟨g, i * 7 + 5, none⟩ (.int .i64 m.mz)).setCell ⟨g, i * 7 + 6, none⟩ (.int .i64 m.pz))) := GM.out.setNd hil hk2 ⟨m.path, m.data, m.ver, 999999 + (n6' : Int), m.cz, m.mz, m.pz⟩
    have HF : Hid (RdN ((((((((((w6).setCell ⟨NK, 3, none⟩ (.int .i64 (999999 + (n6' : Int)))).setCell ⟨g, i * 7, none⟩ (.string m.path)).setCell ⟨g, i * 7 + 1, none⟩ (.string m.data)).setCell ⟨g, i * 7 + 2, none⟩ (.int .i64 m.ver)).setCell ⟨g, i * 7 + 3, none⟩ (.int .i64 (999999 + (n6' : Int)))).setCell ⟨g, i * 7 + 4, none⟩ (.int .i64 m.cz)).setCell ⟨g, i * 7 + 5, none⟩ (.int .i64 m.mz)).setCell ⟨g, i * 7 + 6, none⟩ (.int .i64 m.pz)).setCell ⟨W.heap.size, 0, none⟩ (.slice (some ⟨g, 0, none⟩) ns.length cv)) (.slice (some ⟨g, 0, none⟩) ns.length cv) (ns.set i ⟨m.path, m.data, m.ver, 999999 + (n6' : Int), m.cz, m.mz, m.pz⟩) ∧ SRX ((((((((((w6).setCell ⟨NK, 3, none⟩ (.int .i64 (999999 + (n6' : Int)))).setCell ⟨g, i * 7, none⟩ (.string m.path)).setCell ⟨g, i * 7 + 1, none⟩ (.string m.data)).setCell ⟨g, i * 7 + 2, none⟩ (.int .i64 m.ver)).setCell ⟨g, i * 7 + 3, none⟩ (.int .i64 (999999 + (n6' : Int)))).setCell ⟨g, i * 7 + 4, none⟩ (.int .i64 m.cz)).setCell ⟨g, i * 7 + 5, none⟩ (.int .i64 m.mz)).setCell ⟨g, i * 7 + 6, none⟩ (.int .i64 m.pz)).setCell ⟨W.heap.size, 0, none⟩ (.slice (some ⟨g, 0, none⟩) ns.length cv)) k B s6 ∧ Tch k W ((((((((((w6).setCell ⟨NK, 3, none⟩ (.int .i64 (999999 + (n6' : Int)))).setCell ⟨g, i * 7, none⟩ (.string m.path)).setCell ⟨g, i * 7 + 1, none⟩ (.string m.data)).setCell ⟨g, i * 7 + 2, none⟩ (.int .i64 m.ver)).setCell ⟨g, i * 7 + 3, none⟩ (.int .i64 (999999 + (n6' : Int)))).setCell ⟨g, i * 7 + 4, none⟩ (.int .i64 m.cz)).setCell ⟨g, i * 7 + 5, none⟩ (.int .i64 m.mz)).setCell ⟨g, i * 7 + 6, none⟩ (.int .i64 m.pz)).setCell ⟨W.heap.size, 0, none⟩ (.slice (some ⟨g, 0, none⟩) ns.length cv))) := HG7.out.outN hk2
    have ct := G6.out.ct
    have cr := G6.out.cr
    have fr := G6.out.fr
    obtain ⟨⟨nl, n0, n1, n2, n3, n4, n5, n6⟩, nf⟩ := N6.out
    obtain ⟨⟨r0, k0⟩, f0⟩ := HROW.out _ _ G6.out 0 (by omega)
    obtain ⟨⟨r1, k1⟩, f1⟩ := HROW.out _ _ G6.out 1 (by omega)
    obtain ⟨⟨r2, k2⟩, f2⟩ := HROW.out _ _ G6.out 2 (by omega)
    obtain ⟨⟨r3, k3⟩, f3⟩ := HROW.out _ _ G6.out 3 (by omega)
    obtain ⟨⟨r4, k4⟩, f4⟩ := HROW.out _ _ G6.out 4 (by omega)
    obtain ⟨⟨r5, k5⟩, f5⟩ := HROW.out _ _ G6.out 5 (by omega)
    obtain ⟨⟨r6, k6⟩, f6⟩ := HROW.out _ _ G6.out 6 (by omega)
    rw [Nat.add_zero] at k0 f0
    have HNB : Hid (∀ b o n c, (Value.slice (some ⟨g, 0, none⟩) ns.length cv) = .slice (some ⟨b, o, none⟩) n c → W.heap.size ≤ b) := fun b o n c e => by simp at e; omega
    clear HROW HG7 GM G6 N6 HSN
    iterate 260 (try (first | go_values | go_skip | go_guarded | go_step | go_upon))
    refine bodyPost_ret (v := .agg #[(.slice (some ⟨g, 0, none⟩) ns.length cv)]) ?a1 ?a2 ?a3
    case a1 => simp [results, Tryd.results52, go_sem, cr]
    case a2 => rfl
    case a3 => exact ⟨_, rfl, by rw [← HR3.out]; exact HF.out.1, by rw [← HR3.out]; exact HF.out.2.1, HF.out.2.2, HNB.out⟩
  by_cases h0 : kk = 0
  · subst h0
    rw [if_pos rfl] at HR3
    iterate 260 (try (first | go_values | go_skip | go_guarded | go_step | go_upon))
    refine (next_x _ k B 2 s2 G5.out.src (by omega)).mono ?_
    rintro e w6 ⟨rfl, s6, t6⟩
    have hn6 := s2.next_lt 2 (by omega)
    have G6 : Hid (GR W k B TB (.slice (some ⟨g, 0, none⟩) ns.length cv) ns (s2.next 2).2 w6) := G5.out.next s6 t6 hkW
    clear s6 t6 G5 N5
    generalize (s2.next 2).2 = s6 at *
    generalize (s2.next 2).1 = n6' at *
    have CW := wide_x w6 (1000 + n6') (by omega) (by omega)
    rw [show ((1000 + n6' : Nat) : Int) = 1000 + (n6' : Int) by omega, show 1000 + n6' - 1 = 999 + n6' by omega] at CW
    generalize widN (999 + n6') = WN at *
    simp only []
    iterate 260 (try (first | go_values | go_skip | go_guarded | go_step | go_upon))
    refine CW.mono ?_
    rintro e w7 ⟨v7, rfl, o7, b7⟩
    obtain ⟨a7, c7, rfl⟩ := OwnN.slice9 o7
    have G7 : Hid (GR W k B TB (.slice (some ⟨g, 0, none⟩) ns.length cv) ns s6 w7) := G6.out.below b7 hkW
    have cr := G7.out.cr
    have fr := G7.out.fr
    have hvr : Value.ownBlock (.slice a7 WN.length c7) ≠ some W.heap.size := fun e => by have h1 := (World.ownsRow.lt o7 _ e).1; have h2 := G6.out.lt; omega
    have bS : Below W.heap.size w7 (w7.setCell ⟨W.heap.size, 0, none⟩ (.slice a7 WN.length c7)) := (Below.refl _ _).setCell (by show W.heap.size ≤ W.heap.size; exact Nat.le_refl _) _
    have HF : Hid (RdN (w7.setCell ⟨W.heap.size, 0, none⟩ (.slice a7 WN.length c7)) (.slice a7 WN.length c7) WN ∧ SRX (w7.setCell ⟨W.heap.size, 0, none⟩ (.slice a7 WN.length c7)) k B s6 ∧ Tch k W (w7.setCell ⟨W.heap.size, 0, none⟩ (.slice a7 WN.length c7))) := ⟨(OwnN.setO o7 hvr _).rd, G7.out.src.keep (bS.mono hk2), G7.out.tch.then bS⟩
    have HNB : Hid (∀ b o n c, (Value.slice a7 WN.length c7) = .slice (some ⟨b, o, none⟩) n c → W.heap.size ≤ b) := fun b o n c e => by
      have h1 := (World.ownsRow.lt o7 b (by rw [e]; rfl)).1
      have h2 := G6.out.lt
      omega
    clear CW o7 b7 G6 G7 bS HROW HSN
    simp only []
    iterate 260 (try (first | go_values | go_skip | go_guarded | go_step | go_upon))
    refine bodyPost_ret (v := .agg #[.slice a7 WN.length c7]) ?a1 ?a2 ?a3
    case a1 => simp [results, Tryd.results52, go_sem, cr]
    case a2 => rfl
    case a3 => exact ⟨_, rfl, by rw [← HR3.out]; exact HF.out.1, by rw [← HR3.out]; exact HF.out.2.1, HF.out.2.2, HNB.out⟩
  by_cases h7 : kk = 7
  · subst h7
    rw [if_neg (by decide), if_neg (by decide), if_neg (by decide), if_neg (by decide), if_neg (by decide), if_neg (by decide), if_neg (by decide), if_pos rfl] at HR3
    obtain ⟨a2, hrt, hrd, -⟩ := slice_tail G5.out.own.rd (OwnN.nilOk G5.out.own) i (by omega)
    have hrt5 := hrt w5
    have ct := G5.out.ct
    have cr := G5.out.cr
    have fr := G5.out.fr
    have bS : Below W.heap.size w5 (w5.setCell ⟨W.heap.size, 0, none⟩ (.slice a2 (ns.length - i) (cv - i))) := (Below.refl _ _).setCell (by show W.heap.size ≤ W.heap.size; exact Nat.le_refl _) _
    have HF : Hid (RdN (w5.setCell ⟨W.heap.size, 0, none⟩ (.slice a2 (ns.length - i) (cv - i))) (.slice a2 (ns.length - i) (cv - i)) (ns.drop i) ∧ SRX (w5.setCell ⟨W.heap.size, 0, none⟩ (.slice a2 (ns.length - i) (cv - i))) k B s2 ∧ Tch k W (w5.setCell ⟨W.heap.size, 0, none⟩ (.slice a2 (ns.length - i) (cv - i)))) := by
      have h3 := slice_tail (OwnN.setO (b := W.heap.size) (j := 0) G5.out.own G5.out.vr (.slice a2 (ns.length - i) (cv - i))).rd (OwnN.nilOk G5.out.own) i (by omega)
      obtain ⟨a3, hr3, hrd3, -⟩ := h3
      have e3 := (hrt w5).symm.trans (hr3 w5)
      simp only [Result.ok.injEq, Value.slice.injEq, and_true] at e3
      rw [← e3] at hrd3
      exact ⟨hrd3, G5.out.src.keep (bS.mono hk2), G5.out.tch.then bS⟩
    have HNB : Hid (∀ b o n c, (Value.slice a2 (ns.length - i) (cv - i)) = .slice (some ⟨b, o, none⟩) n c → W.heap.size ≤ b) := fun b o n c e => by
      have e3 := (hrt w5).symm.trans (run_tail (some ⟨g, 0, none⟩) ns.length cv i (by omega) w5)
      simp only [Result.ok.injEq, Value.slice.injEq, and_true] at e3
      simp only [Value.slice.injEq] at e
      rw [e3] at e
      obtain ⟨e, -, -⟩ := e
      by_cases hc : cv = i
      · rw [if_pos hc] at e; simp at e; omega
      · rw [if_neg hc, Option.map_some, Addr.add_lit] at e; simp at e; omega
    clear hrt hrd bS G5 N5 HROW HSN
    iterate 260 (try (first | go_values | go_skip | go_guarded | go_step | go_upon))
    refine bodyPost_ret (v := .agg #[.slice a2 (ns.length - i) (cv - i)]) ?a1 ?a2 ?a3
    case a1 => simp [results, Tryd.results52, go_sem, cr]
    case a2 => rfl
    case a3 => exact ⟨_, rfl, by rw [← HR3.out]; exact HF.out.1, by rw [← HR3.out]; exact HF.out.2.1, HF.out.2.2, HNB.out⟩
  have h8k : kk = 8 := by omega
  subst h8k
  rw [if_neg (by decide), if_neg (by decide), if_neg (by decide), if_neg (by decide), if_neg (by decide), if_neg (by decide), if_neg (by decide), if_neg (by decide), if_pos rfl] at HR3
  have cr := G5.out.cr
  have fr := G5.out.fr
  have bS : Below W.heap.size w5 (w5.setCell ⟨W.heap.size, 0, none⟩ (.slice none 0 0)) := (Below.refl _ _).setCell (by show W.heap.size ≤ W.heap.size; exact Nat.le_refl _) _
  have HF : Hid (RdN (w5.setCell ⟨W.heap.size, 0, none⟩ (.slice none 0 0)) (.slice none 0 0) [] ∧ SRX (w5.setCell ⟨W.heap.size, 0, none⟩ (.slice none 0 0)) k B s2 ∧ Tch k W (w5.setCell ⟨W.heap.size, 0, none⟩ (.slice none 0 0))) := ⟨⟨none, 0, rfl, Nat.le_refl _, Nat.zero_le _, .inl rfl⟩, G5.out.src.keep (bS.mono hk2), G5.out.tch.then bS⟩
  have HNB : Hid (∀ b o n c, (Value.slice none 0 0) = .slice (some ⟨b, o, none⟩) n c → W.heap.size ≤ b) := fun b o n c e => by simp at e
  clear bS G5 N5 HROW HSN
  iterate 260 (try (first | go_values | go_skip | go_guarded | go_step | go_upon))
  refine bodyPost_ret (v := .agg #[.slice none 0 0]) ?a1 ?a2 ?a3
  case a1 => simp [results, Tryd.results52, go_sem, cr]
  case a2 => rfl
  case a3 => exact ⟨_, rfl, by rw [← HR3.out]; exact HF.out.1, by rw [← HR3.out]; exact HF.out.2.1, HF.out.2.2, HNB.out⟩

end Go.Proofs.YtmgolinleiahpaaDoor

namespace Go.Proofs.YtmgolinleiahpaaDoor
open Go.RowKit

theorem strOf_strN (s : ByteArray) : strOfNums (strN s) = s := by
  cases s with
  | mk a =>
    unfold strOfNums strN
    simp only [ByteArray.mk.injEq]
    apply Array.toList_inj.1
    simp only [List.map_map]
    conv => rhs; rw [← List.map_id a.toList]
    apply List.map_congr_left
    intro b _
    simp
theorem rdT_tx (s : ByteArray) (r : List Int) : rdT (txB s ++ r) = some (s, r) := by
  show (if ((s.size : Int)).toNat ≤ (strN s ++ r).length then some (strOfNums ((strN s ++ r).take ((s.size : Int)).toNat), (strN s ++ r).drop ((s.size : Int)).toNat) else none) = _
  have h : (strN s).length = s.size := strN_len s
  rw [show ((s.size : Int)).toNat = (strN s).length by rw [h]; rfl, if_pos (by simp), List.take_left, List.drop_left, strOf_strN]
theorem num4_big (A : List Int) (v : Int) (R : List Int) (i : Nat) (hA : A.length = 4 * i) (h0 : 0 ≤ v) (h1 : v ≤ 2147483647) : num4 (A ++ (bigR v.toNat 4 ++ R)) i = v := by
  unfold num4
  rw [← hA, List.drop_left, List.take_append_of_le_length (Nat.le_of_eq (bigR_len 4 _).symm), List.take_of_length_le (Nat.le_of_eq (bigR_len 4 _)), numB_bigR 4 _ (by omega)]
  omega
theorem rdNd_node {n : Nd} (h : okNd n = true) (r : List Int) : rdNd (nodeB n ++ r) = some (n, r) := by
  obtain ⟨-, -, ⟨a0, a1⟩, ⟨b0, b1⟩, ⟨c0, c1⟩, ⟨d0, d1⟩, ⟨e0, e1⟩⟩ := okNd_all h
  unfold rdNd nodeB
  rw [List.append_assoc, List.append_assoc, rdT_tx]
  dsimp only
  rw [rdT_tx]
  dsimp only
  have hl : (stB n).length = 20 := by unfold stB; simp [bigR_len]
  rw [if_pos (by rw [List.length_append]; omega)]
  have q : ∀ v : Int, (bigR v.toNat 4).length = 4 := fun v => bigR_len 4 _
  have n0 := num4_big [] n.ver (bigR n.cver.toNat 4 ++ bigR n.cz.toNat 4 ++ bigR n.mz.toNat 4 ++ bigR n.pz.toNat 4 ++ r) 0 rfl a0 a1
  have n1 := num4_big (bigR n.ver.toNat 4) n.cver (bigR n.cz.toNat 4 ++ bigR n.mz.toNat 4 ++ bigR n.pz.toNat 4 ++ r) 1 (by simp [q]) b0 b1
  have n2 := num4_big (bigR n.ver.toNat 4 ++ bigR n.cver.toNat 4) n.cz (bigR n.mz.toNat 4 ++ bigR n.pz.toNat 4 ++ r) 2 (by simp [q]) c0 c1
  have n3 := num4_big (bigR n.ver.toNat 4 ++ bigR n.cver.toNat 4 ++ bigR n.cz.toNat 4) n.mz (bigR n.pz.toNat 4 ++ r) 3 (by simp [q]) d0 d1
  have n4 := num4_big (bigR n.ver.toNat 4 ++ bigR n.cver.toNat 4 ++ bigR n.cz.toNat 4 ++ bigR n.mz.toNat 4) n.pz r 4 (by simp [q]) e0 e1
  have e : stB n ++ r = bigR n.ver.toNat 4 ++ (bigR n.cver.toNat 4 ++ (bigR n.cz.toNat 4 ++ (bigR n.mz.toNat 4 ++ (bigR n.pz.toNat 4 ++ r)))) := by unfold stB; simp only [List.append_assoc]
  simp only [List.append_assoc, List.nil_append] at n0 n1 n2 n3 n4
  rw [e, n0, n1, n2, n3, n4, ← e, show 20 = (stB n).length from hl.symm, List.drop_left]
theorem pNs_nodes : ∀ (ns : List Nd) (f : Nat), (∀ n ∈ ns, okNd n = true) → ns.length ≤ f → pNs f (nodesB ns) = some ns
  | [], f, _, _ => pNs_nil f
  | n :: ns, f, h, hf => by
    cases f with
    | zero => simp at hf
    | succ f =>
      have hn := h n (List.mem_cons_self ..)
      have e : nodesB (n :: ns) = nodeB n ++ nodesB ns := rfl
      rw [e, pNs_some (n := n) (r := nodesB ns) (by intro h0; have := congrArg List.length h0; rw [List.length_append, nodeB_len] at this; simp at this) (rdNd_node hn _), pNs_nodes ns f (fun m hm => h m (List.mem_cons_of_mem _ hm)) (by simp at hf; omega)]
      rfl
theorem nodes_ge : ∀ ns : List Nd, ns.length ≤ (nodesB ns).length
  | [] => Nat.le_refl _
  | n :: ns => by
    have := nodes_ge ns
    have e : nodesB (n :: ns) = nodeB n ++ nodesB ns := rfl
    rw [e, List.length_append, nodeB_len, List.length_cons]
    omega
/-- The image of a tree is read back as the tree. -/
theorem decT_tree {ns : List Nd} (h : okTree ns = true) : decT (treeB ns) = some ns := by
  unfold decT treeB
  rw [if_pos h, pNs_nodes ns _ (fun n hn => by
    obtain ⟨i, hi, rfl⟩ := List.mem_iff_getElem.1 hn
    have := okTree_nd h i hi
    rw [nAt_get hi] at this
    exact this) (nodes_ge ns)]
  dsimp only
  rw [if_pos h]

end Go.Proofs.YtmgolinleiahpaaDoor

namespace Go.Proofs.YtmgolinleiahpaaDoor
open Go.RowKit Go.Shelf

theorem widO_sz (i : Nat) : (widO i).path.size ≤ 1000 ∧ (widO i).data.size ≤ 1000 := by
  unfold widO
  constructor
  · show ((⟨#[47, 110]⟩ : ByteArray) ++ ⟨(six 5 i 4).toArray⟩).size ≤ 1000
    have := six_len 5 i 4
    rw [ByteArray.size_append]
    show 2 + (six 5 i 4).toArray.size ≤ 1000
    simp; omega
  · exact Nat.zero_le _
def Sz9 (ns : List Nd) : Prop := ∀ n ∈ ns, n.path.size ≤ 1000 ∧ n.data.size ≤ 1000
theorem Sz9.at {ns : List Nd} (h : Sz9 ns) (i : Nat) : (nAt ns i).path.size ≤ 1048576 ∧ (nAt ns i).data.size ≤ 1048576 := by
  by_cases hi : i < ns.length
  · have := h _ (List.getElem_mem hi)
    rw [nAt_get hi]; omega
  · have : nAt ns i = nd0 := by unfold nAt; simp [List.getD, List.getElem?_eq_none (show ns.length ≤ i by omega)]
    rw [this]; simp [nd0]
theorem snd_sz9 {ns : List Nd} (h : Snd ns) : Sz9 ns := fun n hn => by have := okNd_all (h.2.1 n hn); omega
theorem Sz9.set {ns : List Nd} (h : Sz9 ns) (i : Nat) {x : Nd} (hx : x.path.size ≤ 1000 ∧ x.data.size ≤ 1000) : Sz9 (ns.set i x) := fun n hn => by
  rcases List.mem_or_eq_of_mem_set hn with h1 | h1
  · exact h n h1
  · rw [h1]; exact hx
theorem wid_sz9 : ∀ n, Sz9 (widN n)
  | 0 => fun n hn => by
    have : n = rootN := by simpa [widN] using hn
    rw [this]; decide
  | k + 1 => fun n hn => by
    rcases List.mem_append.1 hn with h | h
    · exact wid_sz9 k n h
    · have : n = widO (k + 1) := by simpa using h
      rw [this]; exact widO_sz _
theorem tree_sz9 (s : Sr) (hs : s.size ≤ 7) : Sz9 s.tree.1 ∧ s.tree.1.length ≤ 1048576 := by
  obtain ⟨h1, h2, -⟩ := s.grow_inv (4 + 3 * s.size) (by omega)
  have hz := snd_sz9 h1
  unfold Sr.tree treeD
  generalize (s.grow (4 + 3 * s.size)).1 = ns at *
  generalize (s.grow (4 + 3 * s.size)).2.2 = s0 at *
  generalize ((s0.next 40).2.next ns.length).1 = i
  generalize ((s0.next 40).2.next ns.length).2 = s2
  have hm : ∀ j, (nAt ns j).path.size ≤ 1000 ∧ (nAt ns j).data.size ≤ 1000 := snd_sz h1
  have hmi := hm i
  have hm0 := hm 0
  have e2 : (⟨#[47, 65]⟩ : ByteArray).size = 2 := rfl
  have hset : ∀ x : Nd, x.path.size ≤ 1000 ∧ x.data.size ≤ 1000 → Sz9 (ns.set i x) ∧ (ns.set i x).length ≤ 1048576 := fun x hx => ⟨hz.set _ hx, by rw [List.length_set]; omega⟩
  unfold treeK
  split
  · exact ⟨wid_sz9 _, by show (widN _).length ≤ _; rw [widN_len]; have := s2.next_lt 2 (by omega); omega⟩
  split
  · exact hset _ hmi
  split
  · exact hset _ hmi
  split
  · exact hset _ ⟨by show (⟨#[47, 65]⟩ : ByteArray).size ≤ _; rw [e2]; omega, hmi.2⟩
  split
  · exact hset _ ⟨hmi.1, by show (strOfNums _).size ≤ _; rw [strOfNums_size, Sr.bytes_len]; omega⟩
  split
  · refine hset _ ⟨?_, hmi.2⟩
    show (if 1 < ns.length then (nAt ns 0).path else (nAt ns i).path).size ≤ _
    split
    · exact hm0.1
    · exact hmi.1
  split
  · exact hset _ hmi
  split
  · exact ⟨fun n hn => hz n (List.mem_of_mem_drop hn), by show (ns.drop i).length ≤ _; rw [List.length_drop]; omega⟩
  split
  · exact ⟨fun n hn => (by cases hn), Nat.zero_le _⟩
  · exact hset _ hmi

set_option maxHeartbeats 1000000 in
set_option maxRecDepth 100000 in
theorem drawEncT_x (w : World) (v : Value) (xs : List Int) (h : Rd .u8 w v xs) (hby : Byt xs) (hn : xs.length ≤ 1048576) :
    Calls Tryd.prog 12 #[v] w fun e w' => ∃ u, e = .returned (.agg #[u]) ∧ RdN w' u (srcOf xs).tree.1 ∧ Below w.heap.size w w' := by
  have BR : Hid (Below w.heap.size w (w.alloc (.cells #[.slice none 0 0] 36))) := (Below.refl _ _).alloc (Nat.le_refl _) _
  have HR : Hid (Rd .u8 (w.alloc (.cells #[.slice none 0 0] 36)) v xs) := h.below BR.out
  have c0 : Hid ((w.alloc (.cells #[.slice none 0 0] 36)).cell? ⟨w.heap.size, 0, none⟩ = some (.slice none 0 0)) := by show _ = _; simp
  have f0 : Hid ((w.alloc (.cells #[.slice none 0 0] 36)).frozen? ⟨w.heap.size, 0, none⟩ = false) := by show _ = _; simp
  have hs : (w.alloc (.cells #[.slice none 0 0] 36)).heap.size = w.heap.size + 1 := by simp
  obtain ⟨va, vc, rfl, -⟩ := h.len
  obtain ⟨tq, htq⟩ : ∃ q, q = (srcOf xs).tree := ⟨_, rfl⟩
  rw [← htq]
  have HTQ : Hid (tq = (srcOf xs).tree) := htq
  clear h htq
  go_enter Tryd.func12, Tryd.ntmps12
  go_wp2_with fail
  generalize w.alloc (.cells #[.slice none 0 0] 36) = w0 at *
  refine (sourceX_any w0 _ xs HR.out hby hn).mono ?_
  rintro e w1 ⟨k, rfl, hk, s1, b1⟩
  go_wp2_with fail
  have hz1 := b1.size
  refine (tree_x w1 k w1.heap.size (srcOf xs) s1).mono ?_
  rintro e w2 ⟨u, rfl, r2, s2, t2, hnb⟩
  rw [← HTQ.out] at r2
  have b2 : Below (w.heap.size + 1) w1 w2 := t2.below (by omega) (by omega)
  have b02 : Below w0.heap.size w0 w2 := b1.trans (by rw [hs]; exact b2)
  have c2 := (b02.cell (p := ⟨w.heap.size, 0, none⟩) (by rw [hs]; show w.heap.size < _; omega)).trans c0.out
  have f2 := (b02.frozen (p := ⟨w.heap.size, 0, none⟩) (by rw [hs]; show w.heap.size < _; omega)).trans f0.out
  obtain ⟨ua, uc, rfl, _, _⟩ := r2.len
  have F : Hid (RdN (w2.setCell ⟨w.heap.size, 0, none⟩ (.slice ua tq.1.length uc)) (.slice ua tq.1.length uc) tq.1 ∧ Below w.heap.size w (w2.setCell ⟨w.heap.size, 0, none⟩ (.slice ua tq.1.length uc))) := by
    refine ⟨RdN.grown (u := .slice (some ⟨w.heap.size, 0, none⟩) 0 0) r2 (grownBy_set _ _ _ _ _ (World.grownBy.refl _ _)) (.inr (fun b o n c e => ?_)), ((BR.out.trans (b02.mono (by rw [hs]; omega))).setCell (by show w.heap.size ≤ w.heap.size; exact Nat.le_refl _) _)⟩
    have := hnb b o n c e
    simp [Value.ownBlock]
    omega
  clear hnb r2 s2 t2 b2 b02 s1 b1 HR c0 f0
  go_wp2
  exact bodyPost_ret (v := .agg #[.slice ua tq.1.length uc]) (by simp [results, Tryd.results12, go_sem, c2]) rfl ⟨_, rfl, F.out.1, F.out.2⟩

end Go.Proofs.YtmgolinleiahpaaDoor

namespace Go.Proofs.YtmgolinleiahpaaDoor
open Go.RowKit Go.Shelf

set_option maxHeartbeats 2000000 in
set_option maxRecDepth 100000 in
theorem sameTree_yes (w : World) (va vb : Value) (ns : List Nd) (ha : RdN w va ns) (hb : RdN w vb ns) (hn : ns.length ≤ 1048576) :
    Calls Tryd.prog 17 #[.agg #[va], .agg #[vb]] w fun e w' => e = .returned (.bool true) ∧ Below w.heap.size w w' := by
  obtain ⟨ao, ca, rfl, _, _⟩ := ha.len
  obtain ⟨bo, cb, rfl, _, _⟩ := hb.len
  have HA : Hid (RdN w (.slice ao ns.length ca) ns) := ha
  have HB : Hid (RdN w (.slice bo ns.length cb) ns) := hb
  have B0 : Hid (Below w.heap.size w ((w.alloc (.cells #[.slice ao ns.length ca] 36)).alloc (.cells #[.slice bo ns.length cb] 36))) := ((Below.refl _ _).alloc (Nat.le_refl _) _).alloc (by simp) _
  have c0 : Hid (((w.alloc (.cells #[.slice ao ns.length ca] 36)).alloc (.cells #[.slice bo ns.length cb] 36)).cell? ⟨w.heap.size, 0, none⟩ = some (.slice ao ns.length ca)) := by show _ = _; go_simp
  have c1 : Hid (((w.alloc (.cells #[.slice ao ns.length ca] 36)).alloc (.cells #[.slice bo ns.length cb] 36)).cell? ⟨w.heap.size + 1, 0, none⟩ = some (.slice bo ns.length cb)) := by show _ = _; go_simp
  have hs : Hid (((w.alloc (.cells #[.slice ao ns.length ca] 36)).alloc (.cells #[.slice bo ns.length cb] 36)).heap.size = w.heap.size + 2) := by show _ = _; simp
  clear ha hb
  have HAT : Hid (∀ W, Below w.heap.size w W → ∀ (ao : Option Addr) (c : Nat), RdN w (.slice ao ns.length c) ns → ∀ i, i < ns.length → ∃ b o, ao = some ⟨b, o, none⟩ ∧ CellsN W b (o + i * 7) (nAt ns i)) := by
    intro W hW ao c hr i hi
    obtain ⟨ao', c', e', -, -, h3⟩ := hr.below hW
    simp only [Value.slice.injEq] at e'
    obtain ⟨rfl, -, -⟩ := e'
    rcases h3 with h3 | ⟨b, o, rfl, -, hc⟩
    · rw [h3] at hi; simp at hi
    · exact ⟨b, o, rfl, hc i hi⟩
  have d0 := c0.out
  have d1 := c1.out
  go_enter Tryd.func17, Tryd.ntmps17
  go_wp2
  clear d0 d1
  generalize (w.alloc (.cells #[.slice ao ns.length ca] 36)).alloc (.cells #[.slice bo ns.length cb] 36) = w0 at *
  go_loopw [5] (fun i wr => ∃ j : Nat, j ≤ ns.length ∧ i = .int .i64 j ∧ Hid (Below w0.heap.size w0 wr)) (fun i _ => ns.length - (intOf i).toNat)
  case atStart => exact ⟨0, Nat.zero_le _, rfl, Below.refl _ _⟩
  case round =>
    obtain ⟨j, hj, rfl, BK⟩ := hrel
    have d0 := (BK.out.cell (p := ⟨w.heap.size, 0, none⟩) (by rw [hs.out]; show w.heap.size < _; omega)).trans c0.out
    have d1 := (BK.out.cell (p := ⟨w.heap.size + 1, 0, none⟩) (by rw [hs.out]; show w.heap.size + 1 < _; omega)).trans c1.out
    have bW : Below w.heap.size w wr := B0.out.trans (BK.out.mono (by rw [hs.out]; omega))
    by_cases hlt : j < ns.length
    · have hltI : (j : Int) < (ns.length : Int) := by omega
      obtain ⟨b, o, rfl, hc⟩ := HAT.out wr bW ao ca HA.out j hlt
      obtain ⟨b', o', rfl, hc'⟩ := HAT.out wr bW bo cb HB.out j hlt
      obtain ⟨a0, a1, a2, a3, a4, a5, a6⟩ := hc
      obtain ⟨e0, e1, e2, e3, e4, e5, e6⟩ := hc'
      generalize nAt ns j = m at *
      have BD : Hid (∀ q, Below w0.heap.size w0 (wr.drewN q)) := fun q => BK.out.trans ((below_drewN' wr q).mono BK.out.size)
      clear bW
      go_wp2
      go_quiet (fail)
      go_wp2
      go_roundw
      case rel => exact ⟨j + 1, by omega, by go_num, BD.out _⟩
      case measure => simp [intOf]; omega
    · go_wp2
      go_ret
      exact ⟨rfl, bW⟩

end Go.Proofs.YtmgolinleiahpaaDoor

namespace Go.Proofs.YtmgolinleiahpaaDoor
open Go.RowKit

/-- The boxes at the head of a format. -/
def FmS (w : World) (S L : Int) (W : World) : Prop := Below w.heap.size w W ∧ Box2 W w.heap.size (.int .i64 S) (.int .i64 L) ∧ BoxF W (w.heap.size + 1) (.slice none 0 0) (.slice none 0 0)
theorem FmS.below {w : World} {S L : Int} {W W' : World} (h : FmS w S L W) (hb : Below W.heap.size W W') : FmS w S L W' := ⟨h.1.trans (hb.mono h.1.size), h.2.1.below hb, h.2.2.below hb⟩
theorem FmS.lt {w : World} {S L : Int} {W : World} (h : FmS w S L W) : w.heap.size + 2 ≤ W.heap.size := h.2.2.1.1
theorem FmS.belowB {w : World} {S L : Int} {W W' : World} {B : Nat} (h : FmS w S L W) (hb : Below B W W') (hB : w.heap.size + 2 ≤ B) : FmS w S L W' :=
  ⟨h.1.trans (hb.mono (by omega)), ⟨Nat.lt_of_lt_of_le h.2.1.1 hb.size, (hb.cell (p := ⟨w.heap.size, 0, none⟩) (by show w.heap.size < _; omega)).trans h.2.1.2.1, (hb.cell (p := ⟨w.heap.size, 1, none⟩) (by show w.heap.size < _; omega)).trans h.2.1.2.2⟩, h.2.2.belowB hb (by omega)⟩
theorem FmS.new (w : World) (S L : Int) : FmS w S L ((w.alloc (.cells #[.int .i64 S, .int .i64 L] 29)).alloc (.cells #[.slice none 0 0, .slice none 0 0] 27)) := by
  refine ⟨((Below.refl _ _).alloc (Nat.le_refl _) _).alloc (by simp) _, (Box2.new w _ _ _).below ((Below.refl _ _).alloc (Nat.le_refl _) _), ?_⟩
  have := BoxF.new (w.alloc (.cells #[.int .i64 S, .int .i64 L] 29)) (.slice none 0 0) (.slice none 0 0) 27
  simpa using this

end Go.Proofs.YtmgolinleiahpaaDoor

namespace Go.Proofs.YtmgolinleiahpaaDoor
open Go.RowKit

/-- A superblock's box. -/
def Sup5 (W : World) (b : Nat) (c : Int) : Prop := b < W.heap.size ∧ W.cell? ⟨b, 0, none⟩ = some (.int .i64 1) ∧ W.cell? ⟨b, 1, none⟩ = some (.int .i64 0) ∧ W.cell? ⟨b, 2, none⟩ = some (.int .i64 0) ∧ W.cell? ⟨b, 3, none⟩ = some (.int .i64 23) ∧ W.cell? ⟨b, 4, none⟩ = some (.int .i64 c)
theorem Sup5.below {W W' : World} {b : Nat} {c : Int} (h : Sup5 W b c) (hb : Below W.heap.size W W') : Sup5 W' b c :=
  ⟨Nat.lt_of_lt_of_le h.1 hb.size, (hb.cell (p := ⟨b, 0, none⟩) h.1).trans h.2.1, (hb.cell (p := ⟨b, 1, none⟩) h.1).trans h.2.2.1, (hb.cell (p := ⟨b, 2, none⟩) h.1).trans h.2.2.2.1, (hb.cell (p := ⟨b, 3, none⟩) h.1).trans h.2.2.2.2.1, (hb.cell (p := ⟨b, 4, none⟩) h.1).trans h.2.2.2.2.2⟩
theorem Sup5.other {W W' : World} {b g : Nat} {c : Int} (h : Sup5 W b c) (hg : W.grownBy W' (some g)) (hn : b ≠ g) : Sup5 W' b c := by
  have hbl := hg.block b h.1 (fun e => hn (by simpa using e))
  exact ⟨Nat.lt_of_lt_of_le h.1 hg.size, (World.cell?_of_block (a := ⟨b, 0, none⟩) hbl).trans h.2.1, (World.cell?_of_block (a := ⟨b, 1, none⟩) hbl).trans h.2.2.1, (World.cell?_of_block (a := ⟨b, 2, none⟩) hbl).trans h.2.2.2.1, (World.cell?_of_block (a := ⟨b, 3, none⟩) hbl).trans h.2.2.2.2.1, (World.cell?_of_block (a := ⟨b, 4, none⟩) hbl).trans h.2.2.2.2.2⟩
theorem box2_other {W W' : World} {b g : Nat} {x y : Value} (h : Box2 W b x y) (hg : W.grownBy W' (some g)) (hn : b ≠ g) : Box2 W' b x y := by
  have hbl := hg.block b h.1 (fun e => hn (by simpa using e))
  exact ⟨Nat.lt_of_lt_of_le h.1 hg.size, (World.cell?_of_block (a := ⟨b, 0, none⟩) hbl).trans h.2.1, (World.cell?_of_block (a := ⟨b, 1, none⟩) hbl).trans h.2.2⟩
theorem boxF_other {W W' : World} {b g : Nat} {x y : Value} (h : BoxF W b x y) (hg : W.grownBy W' (some g)) (hn : b ≠ g) : BoxF W' b x y := by
  have hbl := hg.block b h.1.1 (fun e => hn (by simpa using e))
  exact ⟨box2_other h.1 hg hn, (World.frozen?_of_block (a := ⟨b, 0, none⟩) hbl).trans h.2.1, (World.frozen?_of_block (a := ⟨b, 1, none⟩) hbl).trans h.2.2⟩
theorem FmS.other {w : World} {S L : Int} {W W' : World} {g : Nat} (h : FmS w S L W) (hg : W.grownBy W' (some g)) (hn : w.heap.size + 2 ≤ g) : FmS w S L W' :=
  ⟨h.1.grown hg (by have := h.lt; omega) (fun q hq => by simp at hq; omega), box2_other h.2.1 hg (by omega), boxF_other h.2.2 hg (by omega)⟩

/-- What a format has in its boxes. -/
def FmI (w : World) (S L : Int) (Bd Bs g N cap : Nat) (C9 : Int) (W : World) : Prop :=
  Hid (FmS w S L W ∧ Box2 W Bd (.slice (some ⟨g, 0, none⟩) N cap) (.slice none 0 0) ∧ Sup5 W Bs C9) ∧ W.cell? ⟨w.heap.size, 0, none⟩ = some (.int .i64 S) ∧ W.cell? ⟨w.heap.size, 1, none⟩ = some (.int .i64 L) ∧
    W.cell? ⟨Bd, 0, none⟩ = some (.slice (some ⟨g, 0, none⟩) N cap) ∧ W.cell? ⟨Bd, 1, none⟩ = some (.slice none 0 0) ∧
    W.cell? ⟨Bs, 0, none⟩ = some (.int .i64 1) ∧ W.cell? ⟨Bs, 1, none⟩ = some (.int .i64 0) ∧ W.cell? ⟨Bs, 2, none⟩ = some (.int .i64 0) ∧ W.cell? ⟨Bs, 3, none⟩ = some (.int .i64 23) ∧ W.cell? ⟨Bs, 4, none⟩ = some (.int .i64 C9)
theorem FmI.mk {w : World} {S L : Int} {Bd Bs g N cap : Nat} {C9 : Int} {W : World} (h1 : FmS w S L W) (h2 : Box2 W Bd (.slice (some ⟨g, 0, none⟩) N cap) (.slice none 0 0)) (h3 : Sup5 W Bs C9) : FmI w S L Bd Bs g N cap C9 W :=
  ⟨⟨h1, h2, h3⟩, h1.2.1.2.1, h1.2.1.2.2, h2.2.1, h2.2.2, h3.2⟩
theorem FmI.below {w : World} {S L : Int} {Bd Bs g N cap : Nat} {C9 : Int} {W W' : World} (h : FmI w S L Bd Bs g N cap C9 W) (hb : Below W.heap.size W W') : FmI w S L Bd Bs g N cap C9 W' :=
  FmI.mk (h.1.out.1.below hb) (h.1.out.2.1.below hb) (h.1.out.2.2.below hb)
theorem FmI.other {w : World} {S L : Int} {Bd Bs g N cap : Nat} {C9 : Int} {W W' : World} (h : FmI w S L Bd Bs g N cap C9 W) (hg : W.grownBy W' (some g)) (h1 : w.heap.size + 2 ≤ g) (h2 : Bd ≠ g) (h3 : Bs ≠ g) : FmI w S L Bd Bs g N cap C9 W' :=
  FmI.mk (h.1.out.1.other hg h1) (box2_other h.1.out.2.1 hg h2) (h.1.out.2.2.other hg h3)

/-- A row that a piece was laid into. -/
theorem own_spliced {W W' : World} {base g N cap : Nat} {D C : List Int} {off : Nat} {cur : List Value} (ho : Own .u8 5 W base (.slice (some ⟨g, 0, none⟩) N cap) D) (hD : D.length = N) (hgb : W.heap[g]? = some (.cells cur.toArray 5 (0, 0))) (hoff : off + C.length ≤ N)
    (hg : W'.heap[g]? = some (.cells (splice cur off (C.map (Value.int .u8))).toArray 5 (0, 0))) : Own .u8 5 W' base (.slice (some ⟨g, 0, none⟩) N cap) (splice D off C) := by
  rcases ho.2 with ⟨h, -⟩ | ⟨g', cap', cur', e, hb, h2, h3, h4, h5, h6⟩
  · simp at h
  · simp only [Value.slice.injEq, Option.some.injEq, Addr.mk.injEq] at e
    obtain ⟨⟨rfl, -⟩, -, rfl⟩ := e
    rw [hgb] at h2
    simp only [Option.some.injEq, Obj.cells.injEq] at h2
    obtain ⟨rfl, -⟩ := h2
    rw [hD] at h3 h6
    rw [Nat.mul_one] at h5 h6
    have hcl : cur.length = cap := by simpa using h5
    have hl : (splice D off C).length = N := by rw [length_splice _ _ _ (by omega), hD]
    refine ⟨by rw [List.length_map, hl]; omega, .inr ⟨g, cap, _, by rw [hl], hb, hg, by rw [hl]; exact h3, h4, ?_, ?_⟩⟩
    · rw [List.size_toArray, length_splice _ _ _ (by rw [List.length_map]; omega), hcl, Nat.mul_one]
    · rw [hl, Nat.mul_one, splice_map, ← h6]
      apply List.ext_getElem?
      intro j
      rw [splice_get _ _ _ (by rw [List.length_take, List.length_map]; simp; omega), List.getElem?_take]
      by_cases hj : j < N
      · rw [if_pos hj, splice_get _ _ _ (by rw [List.length_map]; omega)]
        simp only [List.getElem?_take_of_lt hj]
      · rw [if_neg hj, if_neg (by omega), if_neg (by rw [List.length_map]; omega), List.getElem?_take, if_neg hj]

set_option maxHeartbeats 400000 in
theorem slotOf_any (w : World) : Calls Tryd.prog 46 #[.int .i64 1] w fun e w' => e = .returned (.int .i64 ((1 : Nat) : Int)) ∧ w' = w := by
  go_enter Tryd.func46, Tryd.ntmps46
  go_wp2
  go_ret
  exact ⟨rfl, rfl⟩

theorem arr_at (g c : Nat) (W : World) : (Instr.arrayAt 77 (.slice (some ⟨g, 0, none⟩) 64 c)).run Tryd.prog W = .ok (.pointer (some ⟨g, 0, none⟩)) W := by kernel_rfl

theorem own_block {W : World} {base g N cap : Nat} {D : List Int} (ho : Own .u8 5 W base (.slice (some ⟨g, 0, none⟩) N cap) D) : ∃ cur : List Value, W.heap[g]? = some (.cells cur.toArray 5 (0, 0)) ∧ cur.length = cap := by
  rcases ho.2 with ⟨h, -⟩ | ⟨g', cap', cur, e, -, h2, h3, h4, h5, h6⟩
  · simp at h
  · simp only [Value.slice.injEq, Option.some.injEq, Addr.mk.injEq] at e
    obtain ⟨⟨rfl, -⟩, -, rfl⟩ := e
    exact ⟨cur.toList, by simpa using h2, by simpa using h5⟩

set_option linter.unusedSimpArgs false in
set_option maxHeartbeats 4000000 in
set_option maxRecDepth 100000 in
theorem implFormat_yes (w : World) (S L : Int) (hc : cfgOk S L = true) (hT : TabC w) (h0 : 0 < w.heap.size) :
    Calls Tryd.prog 8 #[.agg #[.int .i64 S, .int .i64 L]] w fun e w' => ∃ v', e = .returned (.agg #[v', .slice none 0 0]) ∧ Own .u8 5 w' (w.heap.size + 2) v' (fmN (fmK S L)) ∧ Below w.heap.size w w' := by
  have HC : Hid (cfgOk S L = true) := hc
  have HT : Hid (TabC w) := hT
  have H0 : Hid (0 < w.heap.size) := h0
  obtain ⟨hk1, hk2, hk3⟩ := fmK_in hc
  obtain ⟨⟨hS1, hS2⟩, hL1, hL2⟩ := (cfgOk_iff S L).1 hc
  have HK : Hid (2 + 2 * (S + L) = ((fmK S L : Nat) : Int)) := hk1
  have HND : Hid (∀ W, Calls Tryd.prog 40 #[.int .i64 (2 + 2 * (S + L))] W fun e w' => ∃ g cap, e = .returned (.agg #[.slice (some ⟨g, 0, none⟩) (fmK S L * 64) cap, .slice none 0 0]) ∧ Own .u8 5 w' W.heap.size (.slice (some ⟨g, 0, none⟩) (fmK S L * 64) cap) (zeros (fmK S L * 64)) ∧ (fmK S L * 64 ≤ cap ∧ cap ≤ maxLen) ∧ Below W.heap.size W w') := by
    intro W
    rw [HK.out]
    refine (implNewDisk_any W _).mono ?_
    rintro e w' ⟨v', rfl, o, b⟩
    have hn : ndl ((fmK S L : Nat) : Int) = fmK S L * 64 := by unfold ndl; rw [if_pos (by omega)]; rfl
    rw [hn] at o
    rcases o.row with ⟨rfl, hz⟩ | ⟨g, c, rfl, hg, h1, h2⟩
    · have := congrArg List.length hz; rw [zeros_len] at this; simp at this; omega
    · rw [zeros_len] at o h1 ⊢
      exact ⟨g, c, rfl, o, ⟨h1, h2⟩, b⟩
  obtain ⟨l, hl⟩ : ∃ l : Nat, (l : Int) = S := ⟨S.toNat, by omega⟩
  have hl1 : 1 ≤ l := by omega
  have HSN : Hid (∀ W, Calls Tryd.prog 43 #[.agg #[.int .i64 S, .int .i64 L], .int .i64 0] W fun e w' => e = .returned (.agg #[.int .i64 ((2 : Nat) : Int), .int .i64 (l : Int)]) ∧ Below W.heap.size W w') := by
    intro W
    have := snapArea_any W S L 0 HC.out ⟨by omega, by omega⟩
    unfold arF arL at this
    rw [hl]
    simpa using this
  obtain ⟨N, hN⟩ : ∃ N, N = fmK S L * 64 := ⟨_, rfl⟩
  have hNl : (2 + l) * 64 ≤ N := by omega
  have hNm : N ≤ 1048576 := by omega
  have HN : Hid (N = fmK S L * 64) := hN
  rw [← hN] at HND
  clear hN hc hT h0 hk1 hl
  go_enter Tryd.func8, Tryd.ntmps8
  go_wp2_with fail
  have F0 : Hid (FmS w S L ((w.alloc (.cells #[.int .i64 S, .int .i64 L] 29)).alloc (.cells #[.slice none 0 0, .slice none 0 0] 27))) := FmS.new _ _ _
  generalize (w.alloc (.cells #[.int .i64 S, .int .i64 L] 29)).alloc (.cells #[.slice none 0 0, .slice none 0 0] 27) = w0 at *
  refine (validConfig_any _ S L).mono ?_
  rintro e w1 ⟨rfl, b1⟩
  rw [HC.out]
  have F1 : Hid (FmS w S L w1) := F0.out.below b1
  clear b1 F0
  obtain ⟨-, x0, x1⟩ := F1.out.2.1
  go_wp2_with fail
  refine (diskBlocks_any _ S L hS1 hS2 hL1 hL2).mono ?_
  rintro e w2 ⟨rfl, b2⟩
  have F2 : Hid (FmS w S L w2) := F1.out.below b2
  clear b2 F1 x0 x1
  go_wp2_with fail
  refine (HND.out _).mono ?_
  rintro e w3 ⟨g, cap, rfl, o3, ⟨hNc, hcm⟩, b3⟩
  have F3 : Hid (FmS w S L w3) := F2.out.below b3
  have O3 : Hid (Own .u8 5 w3 w2.heap.size (.slice (some ⟨g, 0, none⟩) N cap) (zeros N)) := o3
  have s2 := F2.out.lt
  have hg2 : w.heap.size + 2 ≤ g := Nat.le_trans s2 (o3.lt g rfl).1
  have hg3 : g < w3.heap.size := (o3.lt g rfl).2
  clear o3 b3 F2
  go_wp2_with fail
  have BA : Hid (Below w3.heap.size w3 (w3.alloc (.cells #[(.slice (some ⟨g, 0, none⟩) N cap), .slice none 0 0] 27))) := (Below.refl _ _).alloc (Nat.le_refl _) _
  have XD0 : Hid (Box2 (w3.alloc (.cells #[(.slice (some ⟨g, 0, none⟩) N cap), .slice none 0 0] 27)) w3.heap.size (.slice (some ⟨g, 0, none⟩) N cap) (.slice none 0 0)) := Box2.new _ _ _ _
  generalize w3.alloc (.cells #[(.slice (some ⟨g, 0, none⟩) N cap), .slice none 0 0] 27) = wd at *
  obtain ⟨Bd, hBdE⟩ : ∃ Bd, Bd = w3.heap.size := ⟨_, rfl⟩
  have Fd : Hid (FmS w S L wd) := F3.out.below BA.out
  have Od : Hid (Own .u8 5 wd (w.heap.size + 2) (.slice (some ⟨g, 0, none⟩) N cap) (zeros N)) := (O3.out.below BA.out).mono s2
  have hBd : Bd ≠ g := by omega
  rw [← hBdE] at XD0
  refine (implNewTree_any _).mono ?_
  rintro e w4 ⟨rfl, hN4, b4⟩
  have N4 : Hid (RdN w4 (.slice (some ⟨wd.heap.size + 1, 0, none⟩) 1 1) [rootN]) := rdN_root hN4
  have F4 : Hid (FmS w S L w4) := Fd.out.below b4
  have O4 : Hid (Own .u8 5 w4 (w.heap.size + 2) (.slice (some ⟨g, 0, none⟩) N cap) (zeros N)) := Od.out.below b4
  have X4 : Hid (Box2 w4 Bd (.slice (some ⟨g, 0, none⟩) N cap) (.slice none 0 0)) := XD0.out.below b4
  have hgd4 : g < w4.heap.size := (O4.out.lt g rfl).2
  clear b4 hN4 Fd Od XD0 BA F3 O3
  rw [← hBdE]
  clear hBdE
  go_wp2_with fail
  refine (encTree_any _ _ [rootN] N4.out root_sz).mono ?_
  rintro e w5 ⟨v5, rfl, o5, b5⟩
  have o5' : Own .u8 5 w5 w4.heap.size v5 I0 := o5
  obtain ⟨g4, c4, hv5⟩ := own_full o5' (by rw [I0_len]; omega)
  rw [I0_len] at hv5
  subst hv5
  have I5 : Hid (Own .u8 5 w5 w4.heap.size (.slice (some ⟨g4, 0, none⟩) 23 c4) I0) := o5'
  have F5 : Hid (FmS w S L w5) := F4.out.below b5
  have O5 : Hid (Own .u8 5 w5 (w.heap.size + 2) (.slice (some ⟨g, 0, none⟩) N cap) (zeros N)) := O4.out.below b5
  have X5 : Hid (Box2 w5 Bd (.slice (some ⟨g, 0, none⟩) N cap) (.slice none 0 0)) := X4.out.below b5
  have s45 := b5.size
  clear o5 o5' b5 N4 F4 O4 X4
  go_wp2_with fail
  refine (implCrc_any _ _ I0 I5.out.rd I0_byt (by rw [I0_len]; omega) (HT.out.below H0.out F5.out.1)).mono ?_
  rintro e wq ⟨rfl, hwq⟩
  rw [hwq]
  clear hwq
  have HSP : Hid (∀ W, Calls Tryd.prog 47 #[.agg #[.int .i64 1, .int .i64 0, .int .i64 0, .int .i64 23, .int .i64 ((4294967295 - crcL 4294967295 I0 : Nat) : Int)]] W fun e w' => ∃ g c, e = .returned (.slice (some ⟨g, 0, none⟩) 64 c) ∧ Own .u8 5 w' W.heap.size (.slice (some ⟨g, 0, none⟩) 64 c) Sp0 ∧ Below W.heap.size W w') := by
    intro W
    refine (implSuper_any W 1 0 0 23 _).mono ?_
    rintro e w' ⟨v, rfl, o, b⟩
    have o' : Own .u8 5 w' W.heap.size v Sp0 := o
    obtain ⟨g, c, hv⟩ := own_full o' (by rw [Sp0_len]; omega)
    rw [Sp0_len] at hv
    subst hv
    exact ⟨g, c, rfl, o', b⟩
  generalize ((4294967295 - crcL 4294967295 I0 : Nat) : Int) = C9 at *
  go_wp2_with fail
  have BA : Hid (Below w5.heap.size w5 (w5.alloc (.cells #[.int .i64 1, .int .i64 0, .int .i64 0, .int .i64 23, .int .i64 C9] 67))) := (Below.refl _ _).alloc (Nat.le_refl _) _
  have XS0 : Hid (Sup5 (w5.alloc (.cells #[.int .i64 1, .int .i64 0, .int .i64 0, .int .i64 23, .int .i64 C9] 67)) w5.heap.size C9) := ⟨by simp, by simp, by simp, by simp, by simp, by simp⟩
  generalize w5.alloc (.cells #[.int .i64 1, .int .i64 0, .int .i64 0, .int .i64 23, .int .i64 C9] 67) = w6 at *
  obtain ⟨Bs, hBsE⟩ : ∃ Bs, Bs = w5.heap.size := ⟨_, rfl⟩
  have hBs : Bs ≠ g := by omega
  rw [← hBsE] at XS0 ⊢
  have bP : Below w6.heap.size w6 w6.drew := below_drewN' w6 1
  have FP : Hid (FmI w S L Bd Bs g N cap C9 w6.drew) := FmI.mk ((F5.out.below BA.out).below bP) ((X5.out.below BA.out).below bP) (XS0.out.below bP)
  have OP : Hid (Own .u8 5 w6.drew (w.heap.size + 2) (.slice (some ⟨g, 0, none⟩) N cap) (zeros N)) := (O5.out.below BA.out).below bP
  have IP : Hid (Own .u8 5 w6.drew w4.heap.size (.slice (some ⟨g4, 0, none⟩) 23 c4) I0) := (I5.out.below BA.out).below bP
  clear bP BA XS0 X5 O5 I5 F5 hBsE
  refine wp_region_held_drew (S := FmI w S L Bd Bs g N cap C9) (by kernel_rfl) (FP.out) (fun hHeld => ?_)
  generalize w6.drew = p6 at *
  refine wpAnyH_take (i := 0) (oi := { dst := some 20, op := _, type := _, pos := _, after := _, guard := _ }) (v := ?v1) rfl (by kernel_rfl) (by kernel_rfl) (by kernel_rfl) (fun _ _ _ h => h) (Or.inl ⟨by rfl, ?hy1⟩) (by assumption) ?rest1
  case hy1 =>
    intro w9 hS9
    obtain ⟨-, k0, k1, k2, k3, k4, k5, k6, k7, k8⟩ := hS9
    go_simp
    try with_reducible rfl
  try simp only [Act.put, List.setIfInBounds_toArray, List.set_cons_zero, List.set_cons_succ]
  refine wpAnyH_take (i := 1) (oi := { dst := some 21, op := _, type := _, pos := _, after := _, guard := _ }) (v := ?v2) rfl (by kernel_rfl) (by kernel_rfl) (by kernel_rfl) (fun _ _ _ h => h) (Or.inl ⟨by rfl, ?hy2⟩) (by assumption) ?rest2
  case hy2 =>
    intro w9 hS9
    obtain ⟨-, k0, k1, k2, k3, k4, k5, k6, k7, k8⟩ := hS9
    go_simp
    try with_reducible rfl
  try simp only [Act.put, List.setIfInBounds_toArray, List.set_cons_zero, List.set_cons_succ]
  refine wpAnyH_take (i := 2) (oi := { dst := some 22, op := _, type := _, pos := _, after := _, guard := _ }) (v := ?v3) rfl (by kernel_rfl) (by kernel_rfl) (by kernel_rfl) (fun _ _ _ h => h) (Or.inl ⟨by rfl, ?hy3⟩) (by assumption) ?rest3
  case hy3 =>
    intro w9 hS9
    obtain ⟨-, k0, k1, k2, k3, k4, k5, k6, k7, k8⟩ := hS9
    go_simp
    try with_reducible rfl
  try simp only [Act.put, List.setIfInBounds_toArray, List.set_cons_zero, List.set_cons_succ]
  refine wpAnyH_take (i := 4) (oi := { dst := some 24, op := _, type := _, pos := _, after := _, guard := _ }) (v := ?v4) rfl (by kernel_rfl) (by kernel_rfl) (by kernel_rfl) (fun _ _ _ h => h) (Or.inl ⟨by rfl, ?hy4⟩) (by assumption) ?rest4
  case hy4 =>
    intro w9 hS9
    obtain ⟨-, k0, k1, k2, k3, k4, k5, k6, k7, k8⟩ := hS9
    go_simp
    try with_reducible rfl
  try simp only [Act.put, List.setIfInBounds_toArray, List.set_cons_zero, List.set_cons_succ]
  refine wpAnyH_take (i := 5) (oi := { dst := some 25, op := _, type := _, pos := _, after := _, guard := _ }) (v := ?v5) rfl (by kernel_rfl) (by kernel_rfl) (by kernel_rfl) (fun _ _ _ h => h) (Or.inl ⟨by rfl, ?hy5⟩) (by assumption) ?rest5
  case hy5 =>
    intro w9 hS9
    obtain ⟨-, k0, k1, k2, k3, k4, k5, k6, k7, k8⟩ := hS9
    go_simp
    try with_reducible rfl
  try simp only [Act.put, List.setIfInBounds_toArray, List.set_cons_zero, List.set_cons_succ]
  refine wpAnyH_take (i := 7) (oi := { dst := some 27, op := _, type := _, pos := _, after := _, guard := _ }) (v := ?v6) rfl (by kernel_rfl) (by kernel_rfl) (by kernel_rfl) (fun _ _ _ h => h) (Or.inl ⟨by rfl, ?hy6⟩) (by assumption) ?rest6
  case hy6 =>
    intro w9 hS9
    obtain ⟨-, k0, k1, k2, k3, k4, k5, k6, k7, k8⟩ := hS9
    go_simp
    try with_reducible rfl
  try simp only [Act.put, List.setIfInBounds_toArray, List.set_cons_zero, List.set_cons_succ]
  refine wpAnyH_ready (rs := [3]) (by kernel_rfl) (by simp) ?_
  refine AllReadyH.cons (o := { dst := some 23, op := _, type := _, pos := _, after := _, guard := _ }) rfl (fun K hK => ?_) AllReadyH.nil
  go_simp
  refine (HSN.out _).mono ?_
  rintro e w6b ⟨rfl, b6⟩
  have F6 : Hid (FmI w S L Bd Bs g N cap C9 w6b) := hHeld.below b6
  have O6 : Hid (Own .u8 5 w6b (w.heap.size + 2) (.slice (some ⟨g, 0, none⟩) N cap) (zeros N)) := OP.out.below b6
  have I6 : Hid (Own .u8 5 w6b w4.heap.size (.slice (some ⟨g4, 0, none⟩) 23 c4) I0) := IP.out.below b6
  clear b6 OP IP
  refine hK.out _ _ (F6.out) (fun hx9 => ?_)
  clear hK K hHeld hx9
  have hHeld := F6.out
  try simp only [Act.put, List.setIfInBounds_toArray, List.set_cons_zero, List.set_cons_succ]
  refine wpAnyH_ready (rs := [6]) (by kernel_rfl) (by simp) ?_
  refine AllReadyH.cons (o := { dst := some 26, op := _, type := _, pos := _, after := _, guard := _ }) rfl (fun K hK => ?_) AllReadyH.nil
  go_simp
  refine (areaOf_any _ g N cap 2 l hNl hl1 hNc hNm).mono ?_
  rintro e w7 ⟨rfl, b7⟩
  have F7 : Hid (FmI w S L Bd Bs g N cap C9 w7) := F6.out.below b7
  have O7 : Hid (Own .u8 5 w7 (w.heap.size + 2) (.slice (some ⟨g, 0, none⟩) N cap) (zeros N)) := O6.out.below b7
  have I7 : Hid (Own .u8 5 w7 w4.heap.size (.slice (some ⟨g4, 0, none⟩) 23 c4) I0) := I6.out.below b7
  clear b7 O6 I6 F6
  obtain ⟨cur, hgb, hcur⟩ := own_block O7.out
  have N7 : Hid (∀ j u, (I0.map (Value.int .u8))[j]? = some u → w7.cell? ((⟨g4, 0, none⟩ : Addr).add j) = some u) := World.ownsRow.cells I7.out rfl
  have HGB : Hid (w7.heap[g]? = some (.cells cur.toArray 5 (0, 0))) := hgb
  have HCU : Hid (cur.length = cap) := hcur
  clear hgb hcur
  refine hK.out _ _ (F7.out) (fun hx9 => ?_)
  clear hK K hHeld hx9
  have hHeld := F7.out
  try simp only [Act.put, List.setIfInBounds_toArray, List.set_cons_zero, List.set_cons_succ]
  refine wpAnyH_ready (rs := [8]) (by kernel_rfl) (by simp) ?_
  refine AllReadyH.cons (o := { dst := some 28, op := _, type := _, pos := _, after := _, guard := _ }) rfl (fun K hK => ?_) AllReadyH.nil
  refine step_copy_grown rfl (.tmp 26) (.tmp 27) 24 24 rfl 5 Tryd.underlying24 sizeB _ _ _ _ _ _ rfl rfl g 128 cur 5 HGB.out (I0.map (Value.int .u8)) (by rw [List.length_map, I0_len]; exact (Nat.min_eq_left (show 23 ≤ l * 64 by omega)).symm) (fun _ => ⟨rfl, ⟨g4, 0, none⟩, rfl, N7.out⟩) (by rw [List.length_map, I0_len, HCU.out]; omega) (ints_oneCell _ _) ?_
  intro w8 hg8 hb8
  have F8 : Hid (FmI w S L Bd Bs g N cap C9 w8) := F7.out.other hb8.out hg2 hBd hBs
  have O8 : Hid (Own .u8 5 w8 (w.heap.size + 2) (.slice (some ⟨g, 0, none⟩) N cap) (splice (zeros N) 128 I0)) := own_spliced O7.out (zeros_len _) HGB.out (by rw [I0_len]; omega) hg8.out
  clear hg8 hb8 O7 I7 N7 HGB HCU F7
  refine hK.out _ _ (F8.out) (fun hx9 => ?_)
  clear hK K hHeld hx9
  have hHeld := F8.out
  try simp only [Act.put, List.setIfInBounds_toArray, List.set_cons_zero, List.set_cons_succ]
  refine wpAnyH_done (by kernel_rfl) ?_ _
  clear hHeld
  go_wp2_with fail
  have HSB : Hid (∀ W, Own .u8 5 W (w.heap.size + 2) (.slice (some ⟨g, 0, none⟩) N cap) (splice (zeros N) 128 I0) → Calls Tryd.prog 45 #[(.slice (some ⟨g, 0, none⟩) N cap), .int .i64 ((1 : Nat) : Int), .agg (Sp0.map (Value.int .u8)).toArray] W fun e w' => e = .returned (.tuple #[]) ∧ Own .u8 5 w' (w.heap.size + 2) (.slice (some ⟨g, 0, none⟩) N cap) (fmN (fmK S L)) ∧ W.grownBy w' (some g)) := by
    intro W hW
    have hlz : (splice (zeros N) 128 I0).length = N := by rw [length_splice _ _ _ (by rw [zeros_len, I0_len]; omega), zeros_len]
    refine (setBlock_any W (w.heap.size + 2) g N cap 1 (splice (zeros N) 128 I0) Sp0 hW hlz Sp0_len (by omega) hNm).mono ?_
    rintro e w' ⟨rfl, o, hg⟩
    rw [show 1 * 64 = 64 from rfl, HN.out, fmN_made _ (by omega)] at o
    rw [HN.out]
    exact ⟨rfl, o, hg⟩
  have bP : Below w8.heap.size w8 w8.drew := below_drewN' w8 1
  have FP : Hid (FmI w S L Bd Bs g N cap C9 w8.drew) := F8.out.below bP
  have OP : Hid (Own .u8 5 w8.drew (w.heap.size + 2) (.slice (some ⟨g, 0, none⟩) N cap) (splice (zeros N) 128 I0)) := O8.out.below bP
  clear bP O8 F8
  refine wp_region_held_drew (S := FmI w S L Bd Bs g N cap C9) (by kernel_rfl) (FP.out) (fun hHeld => ?_)
  generalize w8.drew = p8 at *
  refine wpAnyH_take (i := 0) (oi := { dst := some 29, op := _, type := _, pos := _, after := _, guard := _ }) (v := ?v7) rfl (by kernel_rfl) (by kernel_rfl) (by kernel_rfl) (fun _ _ _ h => h) (Or.inl ⟨by rfl, ?hy7⟩) (by assumption) ?rest7
  case hy7 =>
    intro w9 hS9
    obtain ⟨-, k0, k1, k2, k3, k4, k5, k6, k7, k8⟩ := hS9
    go_simp
    try with_reducible rfl
  try simp only [Act.put, List.setIfInBounds_toArray, List.set_cons_zero, List.set_cons_succ]
  refine wpAnyH_take (i := 1) (oi := { dst := some 30, op := _, type := _, pos := _, after := _, guard := _ }) (v := ?v8) rfl (by kernel_rfl) (by kernel_rfl) (by kernel_rfl) (fun _ _ _ h => h) (Or.inl ⟨by rfl, ?hy8⟩) (by assumption) ?rest8
  case hy8 =>
    intro w9 hS9
    obtain ⟨-, k0, k1, k2, k3, k4, k5, k6, k7, k8⟩ := hS9
    go_simp
    try with_reducible rfl
  try simp only [Act.put, List.setIfInBounds_toArray, List.set_cons_zero, List.set_cons_succ]
  refine wpAnyH_take (i := 2) (oi := { dst := some 31, op := _, type := _, pos := _, after := _, guard := _ }) (v := ?v9) rfl (by kernel_rfl) (by kernel_rfl) (by kernel_rfl) (fun _ _ _ h => h) (Or.inl ⟨by rfl, ?hy9⟩) (by assumption) ?rest9
  case hy9 =>
    intro w9 hS9
    obtain ⟨-, k0, k1, k2, k3, k4, k5, k6, k7, k8⟩ := hS9
    go_simp
    try with_reducible rfl
  try simp only [Act.put, List.setIfInBounds_toArray, List.set_cons_zero, List.set_cons_succ]
  refine wpAnyH_take (i := 3) (oi := { dst := some 32, op := _, type := _, pos := _, after := _, guard := _ }) (v := ?v10) rfl (by kernel_rfl) (by kernel_rfl) (by kernel_rfl) (fun _ _ _ h => h) (Or.inl ⟨by rfl, ?hy10⟩) (by assumption) ?rest10
  case hy10 =>
    intro w9 hS9
    obtain ⟨-, k0, k1, k2, k3, k4, k5, k6, k7, k8⟩ := hS9
    go_simp
    try with_reducible rfl
  try simp only [Act.put, List.setIfInBounds_toArray, List.set_cons_zero, List.set_cons_succ]
  refine wpAnyH_take (i := 5) (oi := { dst := some 34, op := _, type := _, pos := _, after := _, guard := _ }) (v := ?v11) rfl (by kernel_rfl) (by kernel_rfl) (by kernel_rfl) (fun _ _ _ h => h) (Or.inl ⟨by rfl, ?hy11⟩) (by assumption) ?rest11
  case hy11 =>
    intro w9 hS9
    obtain ⟨-, k0, k1, k2, k3, k4, k5, k6, k7, k8⟩ := hS9
    go_simp
    try with_reducible rfl
  try simp only [Act.put, List.setIfInBounds_toArray, List.set_cons_zero, List.set_cons_succ]
  refine wpAnyH_ready (rs := [4]) (by kernel_rfl) (by simp) ?_
  refine AllReadyH.cons (o := { dst := some 33, op := _, type := _, pos := _, after := _, guard := _ }) rfl (fun K hK => ?_) AllReadyH.nil
  go_simp
  refine (slotOf_any _).mono ?_
  rintro e wq ⟨rfl, hwq⟩
  rw [hwq]
  clear hwq
  refine hK.out _ _ (FP.out) (fun hx9 => ?_)
  clear hK K hHeld hx9
  have hHeld := FP.out
  try simp only [Act.put, List.setIfInBounds_toArray, List.set_cons_zero, List.set_cons_succ]
  refine wpAnyH_ready (rs := [6]) (by kernel_rfl) (by simp) ?_
  refine AllReadyH.cons (o := { dst := some 35, op := _, type := _, pos := _, after := _, guard := _ }) rfl (fun K hK => ?_) AllReadyH.nil
  go_simp
  refine (HSP.out _).mono ?_
  rintro e w9b ⟨g9, c9, rfl, o9, b9⟩
  have F9 : Hid (FmI w S L Bd Bs g N cap C9 w9b) := hHeld.below b9
  have O9 : Hid (Own .u8 5 w9b (w.heap.size + 2) (.slice (some ⟨g, 0, none⟩) N cap) (splice (zeros N) 128 I0)) := OP.out.below b9
  have RG : Hid (w9b.rangeAt g9 0 (Sp0.map (Value.int .u8))) := fun j v hj => by have := World.ownsRow.cells o9 rfl j v hj; rw [Addr.add_lit] at this; exact this
  clear o9 b9 OP
  refine hK.out _ _ (F9.out) (fun hx9 => ?_)
  clear hK K hHeld hx9
  have hHeld := F9.out
  try simp only [Act.put, List.setIfInBounds_toArray, List.set_cons_zero, List.set_cons_succ]
  refine wpAnyH_take (i := 7) (oi := { dst := some 36, op := _, type := _, pos := _, after := _, guard := _ }) (v := (.pointer (some ⟨g9, 0, none⟩))) rfl (by kernel_rfl) (by kernel_rfl) (by kernel_rfl) (fun _ _ _ h => h) (Or.inl ⟨by rfl, ?hy12⟩) (by assumption) ?rest12
  case hy12 =>
    intro w9 hS9
    have ha9 := arr_at g9 c9 w9
    go_simp
  try simp only [Act.put, List.setIfInBounds_toArray, List.set_cons_zero, List.set_cons_succ]
  refine wpAnyH_ready (rs := [8]) (by kernel_rfl) (by simp) ?_
  refine AllReadyH.cons (o := { dst := some 37, op := _, type := _, pos := _, after := _, guard := _ }) rfl (fun K hK => ?_) AllReadyH.nil
  rw [if_pos (by rfl)]
  refine wp_load_mid 77 _ rfl g9 0 rfl (Sp0.map (Value.int .u8)) _ RG.out Tryd.underlying77 rfl (sizeA _ (by rw [List.length_map, Sp0_len])) ?_
  refine hK.out _ _ (F9.out) (fun hx9 => ?_)
  clear hK K hHeld hx9
  have hHeld := F9.out
  try simp only [Act.put, List.setIfInBounds_toArray, List.set_cons_zero, List.set_cons_succ]
  refine wpAnyH_ready (rs := [9]) (by kernel_rfl) (by simp) ?_
  refine AllReadyH.cons (o := { dst := some 38, op := _, type := _, pos := _, after := _, guard := _ }) rfl (fun K hK => ?_) AllReadyH.nil
  go_simp
  refine (HSB.out _ O9.out).mono ?_
  rintro e w10 ⟨rfl, o10, g10⟩
  have F10 : Hid (FmI w S L Bd Bs g N cap C9 w10) := F9.out.other g10 hg2 hBd hBs
  have O10 : Hid (Own .u8 5 w10 (w.heap.size + 2) (.slice (some ⟨g, 0, none⟩) N cap) (fmN (fmK S L))) := o10
  clear o10 g10 O9 F9 RG
  refine hK.out _ _ (F10.out) (fun hx9 => ?_)
  clear hK K hHeld hx9
  have hHeld := F10.out
  try simp only [Act.put, List.setIfInBounds_toArray, List.set_cons_zero, List.set_cons_succ]
  refine wpAnyH_done (by kernel_rfl) ?_ _
  clear hHeld
  obtain ⟨-, -, -, k2, k3, -⟩ := F10.out
  have zr := F10.out.1.out.1.2.2.1.1
  obtain ⟨⟨-, d0, d1⟩, f0, f1⟩ := F10.out.1.out.1.2.2
  go_wp2
  refine bodyPost_ret (v := .agg #[(.slice (some ⟨g, 0, none⟩) N cap), .slice none 0 0]) (by simp [results, Tryd.results8, go_sem, d0, d1]) rfl ⟨_, rfl, ?_, ?_⟩
  · repeat (first | exact O10.out | refine Own.setBelow ?_ (show w.heap.size + 1 < w.heap.size + 2 by omega) _)
  · repeat (first | exact F10.out.1.out.1.1 | refine Below.setCell ?_ (by simp) _)

end Go.Proofs.YtmgolinleiahpaaDoor

namespace Go.Proofs.YtmgolinleiahpaaDoor
open Go.RowKit Go.Shelf

theorem txB_byt {s : ByteArray} (h : s.size < 256) : Byt (txB s) := by
  intro x hx
  unfold txB at hx
  rcases List.mem_append.1 hx with hx | hx
  · simp at hx; omega
  · unfold strN at hx
    obtain ⟨b, -, rfl⟩ := List.mem_map.1 hx
    have := b.toNat_lt
    omega
theorem nodeB_byt {n : Nd} (h : okNd n = true) : Byt (nodeB n) := by
  have hs := okNd_all h
  intro x hx
  unfold nodeB stB at hx
  simp only [List.mem_append] at hx
  rcases hx with (hx | hx) | ((((hx | hx) | hx) | hx) | hx)
  · exact txB_byt (by omega) x hx
  · exact txB_byt (by omega) x hx
  all_goals exact bigR_byt _ _ x hx
theorem treeB_byt (ns : List Nd) : Byt (treeB ns) := by
  unfold treeB
  split
  · rename_i h
    intro x hx
    obtain ⟨n, hn, hx⟩ := List.mem_flatMap.1 hx
    exact nodeB_byt ((okTree_snd.1 h).2.1 n hn) x hx
  · intro x hx; cases hx

theorem rd_pre9 {W : World} {g o n c : Nat} {xs : List Int} (h : Rd .u8 W (.slice (some ⟨g, o, none⟩) n c) xs) (m : Nat) (hm : m ≤ n) : Rd .u8 W (.slice (some ⟨g, o, none⟩) m c) (xs.take m) := by
  by_cases h0 : 0 < m
  · exact (Rd.split h m hm h0).1
  · obtain rfl : m = 0 := by omega
    obtain ⟨ao', c', e, h1, h2, h3⟩ := h
    simp only [Value.slice.injEq] at e
    obtain ⟨rfl, -, rfl⟩ := e
    exact ⟨_, c, rfl, Nat.zero_le _, h2, .inl (List.take_zero)⟩

theorem syD_nil (dur : List Int) (h : vldD dur.length [] = true) : syD dur [] = dur := by
  unfold syD
  rw [if_pos h]
  rfl
theorem img_area {S L : Int} (h : cfgOk S L = true) : (arA (fmN (fmK S L)) [] S L 0 false).length = S.toNat * 64 ∧ (arA (fmN (fmK S L)) [] S L 0 false).take 23 = I0 := by
  obtain ⟨⟨h1, h2⟩, h3, h4⟩ := (cfgOk_iff S L).1 h
  obtain ⟨k1, k2, k3⟩ := fmK_in h
  have hl := fmN_len (fmK S L) (by omega)
  have hv : vldD (fmN (fmK S L)).length [] = true := by
    rw [vldD_iff, hl]
    refine ⟨by omega, by omega, by omega, by simp, fun i hi => by simp at hi⟩
  have hok : arOk S L (fmN (fmK S L)).length [] 0 = true := by
    unfold arOk
    rw [Bool.and_eq_true]
    exact ⟨(fitD_iff _ _ _ _).2 ⟨h, hv, by rw [hl]; omega⟩, by simp⟩
  have hF : (arF S L 0 false).toNat = 2 := by unfold arF; simp
  have hL : (arL S L false).toNat = S.toNat := by unfold arL; simp
  unfold arA
  rw [if_pos hok, hF, hL, syD_nil _ hv]
  unfold arN fmN
  have e1 : zeros 64 ++ Sp0 ++ I0 ++ zeros (fmK S L * 64 - 151) = (zeros 64 ++ Sp0) ++ (I0 ++ zeros (fmK S L * 64 - 151)) := by simp only [List.append_assoc]
  have e2 : (zeros 64 ++ Sp0).length = 2 * 64 := by rw [List.length_append, Sp0_len, zeros_len]
  rw [e1, ← e2, List.drop_left]
  refine ⟨?_, ?_⟩
  · rw [List.length_take, List.length_append, I0_len, zeros_len]; omega
  · rw [List.take_take, Nat.min_eq_left (by omega), List.take_append_of_le_length (by rw [I0_len]; exact Nat.le_refl _), List.take_of_length_le (by rw [I0_len]; exact Nat.le_refl _)]

end Go.Proofs.YtmgolinleiahpaaDoor

