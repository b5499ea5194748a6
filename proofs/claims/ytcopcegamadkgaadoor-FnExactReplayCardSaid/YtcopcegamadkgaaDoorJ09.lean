import Derived.Test.YtcopcegamadkgaaDoorJ08
import Derived.Test.YtcopcegamadkgaaDoorJ07
import Derived.Test.YtcopcegamadkgaaDoorJ03
import Derived.Test.YtcopcegamadkgaaDoorJ01
import Derived.Lib.AppendStr
import Derived.Test.YtcopcegamadkgaaDoorJ05
import Derived.Deep.RegionHeld3
import Derived.Lib.SmallJoins
import Derived.Deep.Slices
import Derived.Deep.DeepHandedRow
import Derived.ShutString
import Derived.ChangeOld
import Derived.ChangeMaps5
import Derived.Test.YtcopcegamadkgaaDoorCards
import Derived.Test.YtcopcegamadkgaaDoorTie
import Derived.Lib.LaidIn
namespace Go.Proofs.YtcopcegamadkgaaDoor
open Go.RowKit Go.Shelf

attribute [local go_sem] Oper.semAt_some

theorem B4F.other {W W' : World} {b : Nat} {x0 x1 x2 x3 : Value} {row : Option Nat} (h : B4F W b x0 x1 x2 x3) (hg : W.grownBy W' row) (hne : some b ≠ row) : B4F W' b x0 x1 x2 x3 := by
  have hbl := hg.block b h.1 hne
  exact ⟨Nat.lt_of_lt_of_le h.1 hg.size, ⟨(World.cell?_of_block (a := ⟨b, 0, none⟩) hbl).trans h.2.1.1, (World.cell?_of_block (a := ⟨b, 1, none⟩) hbl).trans h.2.1.2.1, (World.cell?_of_block (a := ⟨b, 2, none⟩) hbl).trans h.2.1.2.2.1, (World.cell?_of_block (a := ⟨b, 3, none⟩) hbl).trans h.2.1.2.2.2⟩,
    (World.frozen?_of_block (a := ⟨b, 0, none⟩) hbl).trans h.2.2.1, (World.frozen?_of_block (a := ⟨b, 1, none⟩) hbl).trans h.2.2.2.1, (World.frozen?_of_block (a := ⟨b, 2, none⟩) hbl).trans h.2.2.2.2.1, (World.frozen?_of_block (a := ⟨b, 3, none⟩) hbl).trans h.2.2.2.2.2⟩
theorem RpS.other {w : World} {vt : Value} {W W' : World} {row : Option Nat} (h : RpS w vt W) (hg : W.grownBy W' row) (hr : ∀ r, row = some r → w.heap.size + 2 ≤ r) : RpS w vt W' :=
  ⟨h.1.grown hg (by have := h.2.1; omega) (fun q e => by have := hr q e; omega), Nat.le_trans h.2.1 hg.size, (World.cell?_of_block (a := ⟨w.heap.size, 0, none⟩) (hg.block w.heap.size (by have := h.2.1; omega) (fun e => by have := hr _ e.symm; omega))).trans h.2.2.1, h.2.2.2.other hg (fun e => by have := hr _ e.symm; omega)⟩
/-- A box of one cell that may be written. -/
def B1F (W : World) (b : Nat) (x : Value) : Prop := b < W.heap.size ∧ W.cell? ⟨b, 0, none⟩ = some x ∧ W.frozen? ⟨b, 0, none⟩ = false
theorem B1F.below {W W' : World} {b : Nat} {x : Value} (h : B1F W b x) (hb : Below W.heap.size W W') : B1F W' b x := ⟨Nat.lt_of_lt_of_le h.1 hb.size, (hb.cell (p := ⟨b, 0, none⟩) h.1).trans h.2.1, (hb.frozen (p := ⟨b, 0, none⟩) h.1).trans h.2.2⟩
theorem B1F.other {W W' : World} {b : Nat} {x : Value} {row : Option Nat} (h : B1F W b x) (hg : W.grownBy W' row) (hne : some b ≠ row) : B1F W' b x := by
  have hbl := hg.block b h.1 hne
  exact ⟨Nat.lt_of_lt_of_le h.1 hg.size, (World.cell?_of_block (a := ⟨b, 0, none⟩) hbl).trans h.2.1, (World.frozen?_of_block (a := ⟨b, 0, none⟩) hbl).trans h.2.2⟩

/-- The replay under way in the program. -/
structure RpI (w : World) (vt : Value) (Bo : Nat) (ao : Option Addr) (n cap : Nat) (R : List (List Int × Nat)) (start : Int) (res : List Nd × Int × Nat) (k : Nat) (v : Value) (ns : List Nd) (zx last : Int) (W : World) : Prop where
  head : RpS w vt W
  out : B4F W Bo v (.int .i64 zx) (.int .i64 (k : Int)) (.int .i64 ((pos R k : Nat) : Int))
  own : OwnN 84 W (w.heap.size + 2) v ns
  ne : v.ownBlock ≠ some Bo ∧ v.ownBlock ≠ some (Bo + 1)
  lastb : B1F W (Bo + 1) (.int .i64 last)
  area : Boxed W (Bo + 2) 24 (.slice ao n cap)
  size : Bo + 3 ≤ W.heap.size
  low : w.heap.size + 2 ≤ Bo
  good : Good ns
  len : ns.length ≤ 1000
  zx0 : -1 ≤ zx ∧ zx ≤ 2147483647
  last0 : 0 < k → 1 ≤ last ∧ last ≤ 2147483647
  first : k = 0 → zx = start
  kle : k ≤ R.length
  goes : rpl start k ((R.drop k).map (·.1)) ns zx last = res
theorem RpI.later {w : World} {vt : Value} {Bo : Nat} {ao : Option Addr} {n cap : Nat} {R : List (List Int × Nat)} {start : Int} {res : List Nd × Int × Nat} {k : Nat} {v : Value} {ns : List Nd} {zx last : Int} {W W' : World} (h : RpI w vt Bo ao n cap R start res k v ns zx last W) (hb : Below W.heap.size W W') : RpI w vt Bo ao n cap R start res k v ns zx last W' :=
  ⟨h.head.below hb, h.out.below hb, h.own.below hb, h.ne, h.lastb.below hb, (hb.block _ (by have := h.size; omega)).trans h.area, Nat.le_trans h.size hb.size, h.low, h.good, h.len, h.zx0, h.last0, h.first, h.kle, h.goes⟩
theorem OwnN.notCells {W W' : World} {row : Option Nat} {lo : Nat} {v : Value} {ns : List Nd} (h : OwnN 84 W lo v ns) (hg : W.grownBy W' row) (hr : ∀ r, row = some r → ∃ o : Obj, W.heap[r]? = some o ∧ o.isCells = false) : OwnN 84 W' lo v ns := ownsRow_notCells h hg hr
theorem RpI.notCells {w : World} {vt : Value} {Bo : Nat} {ao : Option Addr} {n cap : Nat} {R : List (List Int × Nat)} {start : Int} {res : List Nd × Int × Nat} {k : Nat} {v : Value} {ns : List Nd} {zx last : Int} {W W' : World} {row : Option Nat} (h : RpI w vt Bo ao n cap R start res k v ns zx last W) (hg : W.grownBy W' row) (hr : ∀ r, row = some r → Bo + 3 ≤ r ∧ ∃ o : Obj, W.heap[r]? = some o ∧ o.isCells = false) : RpI w vt Bo ao n cap R start res k v ns zx last W' :=
  ⟨h.head.other hg (fun r e => by have := (hr r e).1; have := h.low; omega), h.out.other hg (fun e => by have := (hr _ e.symm).1; omega), h.own.notCells hg (fun r e => (hr r e).2), h.ne, h.lastb.other hg (fun e => by have := (hr _ e.symm).1; omega),
   (hg.block _ (by have := h.size; omega) (fun e => by have := (hr _ e.symm).1; omega)).trans h.area, Nat.le_trans h.size hg.size, h.low, h.good, h.len, h.zx0, h.last0, h.first, h.kle, h.goes⟩
/-- The replay at its end. -/
def RpX (w : World) (vt : Value) (Bo : Nat) (R : List (List Int × Nat)) (res : List Nd × Int × Nat) (W : World) : Prop :=
  ∃ v ns zx k, RpS w vt W ∧ B4F W Bo v (.int .i64 zx) (.int .i64 ((k : Nat) : Int)) (.int .i64 ((pos R k : Nat) : Int)) ∧ OwnN 84 W (w.heap.size + 2) v ns ∧ res = (ns, zx, k) ∧ w.heap.size + 2 ≤ Bo ∧ Bo + 3 ≤ W.heap.size
theorem RpX.notCells {w : World} {vt : Value} {Bo : Nat} {R : List (List Int × Nat)} {res : List Nd × Int × Nat} {W W' : World} {row : Option Nat} (h : RpX w vt Bo R res W) (hg : W.grownBy W' row) (hr : ∀ r, row = some r → Bo + 3 ≤ r ∧ ∃ o : Obj, W.heap[r]? = some o ∧ o.isCells = false) : RpX w vt Bo R res W' := by
  obtain ⟨v, ns, zx, k, h1, h2, h3, h4, h5, h6⟩ := h
  exact ⟨v, ns, zx, k, h1.other hg (fun r e => by have := (hr r e).1; omega), h2.other hg (fun e => by have := (hr _ e.symm).1; omega), h3.notCells hg (fun r e => (hr r e).2), h4, h5, Nat.le_trans h6 hg.size⟩
theorem RpI.stop {w : World} {vt : Value} {Bo : Nat} {ao : Option Addr} {n cap : Nat} {R : List (List Int × Nat)} {start : Int} {res : List Nd × Int × Nat} {k : Nat} {v : Value} {ns : List Nd} {zx last : Int} {W : World} (h : RpI w vt Bo ao n cap R start res k v ns zx last W) (hr : res = (ns, zx, k)) : RpX w vt Bo R res W :=
  ⟨v, ns, zx, k, h.head, h.out, h.own, hr, h.low, h.size⟩

theorem rpI_next {w : World} {vt : Value} {Bo : Nat} {ao : Option Addr} {n cap : Nat} {R : List (List Int × Nat)} {start : Int} {res : List Nd × Int × Nat} {k : Nat} {v x : Value} {ns : List Nd} {zx z : Int} {W : World} (h1 : RpS w vt W) (h2 : B4F W Bo v (.int .i64 zx) (.int .i64 (k : Int)) (.int .i64 ((pos R k : Nat) : Int))) (h3 : OwnN 84 W (w.heap.size + 2) v ns) (h4 : v.ownBlock ≠ some Bo ∧ v.ownBlock ≠ some (Bo + 1)) (h5 : B1F W (Bo + 1) x) (h6 : Boxed W (Bo + 2) 24 (.slice ao n cap)) (h7 : Bo + 3 ≤ W.heap.size) (h8 : w.heap.size + 2 ≤ Bo) (h9 : Good ns) (h10 : ns.length ≤ 1000) (h11 : -1 ≤ zx ∧ zx ≤ 2147483647) (h12 : 1 ≤ z ∧ z ≤ 2147483647) (h13 : k + 1 ≤ R.length) (h14 : rpl start (k + 1) ((R.drop (k + 1)).map (·.1)) ns zx z = res) :
    RpI w vt Bo ao n cap R start res (k + 1) v ns zx z (((W.setCell ⟨Bo + 1, 0, none⟩ (.int .i64 z)).setCell ⟨Bo, 2, none⟩ (.int .i64 ((k : Int) + 1))).setCell ⟨Bo, 3, none⟩ (.int .i64 ((pos R (k + 1) : Nat) : Int))) := by
  refine ⟨((h1.setO (by omega) _).setO h8 _).setO h8 _, ?_, ((h3.setO h4.2 _).setO h4.1 _).setO h4.1 _, h4, ?_, ?_, by simpa using h7, h8, h9, h10, h11, fun _ => h12, fun h => by omega, h13, h14⟩
  · have hb : Below (Bo + 1) W (W.setCell ⟨Bo + 1, 0, none⟩ (.int .i64 z)) := by refine Below.setCell (Below.refl _ _) ?_ _; exact Nat.le_refl _
    have := ((h2.belowB hb (by omega)).set2 (.int .i64 ((k : Int) + 1))).set3 (.int .i64 ((pos R (k + 1) : Nat) : Int))
    rw [show ((k + 1 : Nat) : Int) = (k : Int) + 1 by omega]
    exact this
  · have h : B1F (W.setCell ⟨Bo + 1, 0, none⟩ (.int .i64 z)) (Bo + 1) (.int .i64 z) := ⟨by simpa using h5.1, World.cell?_setCell_same _ _ _ h5.2.1, by simpa using h5.2.2⟩
    exact (h.other (gset _ Bo 2 _) (by simp)).other (gset _ Bo 3 _) (by simp)
  · show _ = _
    rw [Below.heap_setCell _ _ _ _ (by simp), Below.heap_setCell _ _ _ _ (by simp), Below.heap_setCell _ _ _ _ (by simp)]
    exact h6
theorem keeps_other {B Br : Nat} {X Y : World} (hg : X.grownBy Y (some Br)) (h : Br < B) : KeepsFrom B X Y := ⟨hg.size, fun k _ hB hk _ => (hg.block k (Array.getElem?_eq_some_iff.1 hk).1 (fun e => by simp at e; omega)).trans hk⟩

/-- What the body finds. -/
def AxR (w : World) (vt : Value) (Bo : Nat) (ao : Option Addr) (n cap : Nat) (R : List (List Int × Nat)) (start : Int) (res : List Nd × Int × Nat) (tm : Value → Value → Value → Array Value) (s : List Value) (vs : Array Value) (a' : Act) (W : World) : Prop :=
  ∃ ua uc v ns' zx last Bx, uOf vs = .slice ua (pR (R.map (·.1)) s.length).length uc ∧ s.length < R.length ∧ RpI w vt Bo ao n cap R start res s.length v ns' zx last W ∧ Own .u8 5 W (Bo + 3) (.slice ua (pR (R.map (·.1)) s.length).length uc) (pR (R.map (·.1)) s.length) ∧
    Boxed W Bx 111 (.slice ua (pR (R.map (·.1)) s.length).length uc) ∧ a' = { tmps := tm (.int .i64 ((pos R (s.length + 1) : Nat) : Int)) (.pointer (some ⟨Bx, 0, none⟩)) (.agg #[.slice ua (pR (R.map (·.1)) s.length).length uc]), defers := [] }

set_option maxHeartbeats 4000000 in
set_option maxRecDepth 100000 in
theorem implReplay_yes (w : World) (ta : Option Addr) (tc : Nat) (ns : List Nd) (start : Int) (ao : Option Addr) (n cap : Nat) (a : List Int) (ht : RdN w (.slice ta ns.length tc) ns) (hok : okTree ns = true) (hs : okS start = true) (hr : Rd .u8 w (.slice ao n cap) a) (hl : a.length = n) (hby : Byt a) (hn : n ≤ 8192) (hform : (ao = none ∧ n = 0 ∧ cap = 0) ∨ ∃ blk o, ao = some ⟨blk, o, none⟩) :
    Calls Tryd.prog 25 #[.agg #[.slice ta ns.length tc], .int .i64 start, .slice ao n cap] w (RpPost w (scn n a) (rpl start 0 ((scn n a).map (·.1)) ns start 0)) := by
  have HN : Hid (RdN w (.slice ta ns.length tc) ns) := ht
  have HOK : Hid (okTree ns = true) := hok
  have HR : Hid (Rd .u8 w (.slice ao n cap) a) := hr
  have HL : Hid (a.length = n) := hl
  have HBY : Hid (Byt a) := hby
  have HF : Hid ((ao = none ∧ n = 0 ∧ cap = 0) ∨ ∃ blk o, ao = some ⟨blk, o, none⟩) := hform
  have hnl : ns.length ≤ 1000 := by unfold okTree at hok; simp only [Bool.and_eq_true, decide_eq_true_eq] at hok; exact hok.1
  have hst : 0 ≤ start ∧ start ≤ 2147483647 := by unfold okS at hs; simpa using hs
  have HST : Hid (decide (0 ≤ start ∧ start ≤ 2147483647) = true) := by show _ = _; rw [decide_eq_true_eq]; exact hst
  have HG : Hid (Good ns) := good_tree hok
  obtain ⟨res, hres⟩ : ∃ res, res = rpl start 0 ((scn n a).map (·.1)) ns start 0 := ⟨_, rfl⟩
  have HRES : Hid (rpl start 0 ((scn n a).map (·.1)) ns start 0 = res) := hres.symm
  rw [← hres]
  have hn2 : ¬ (8192 : Int) < (n : Int) := by omega
  have hn2d : decide ((8192 : Int) < (n : Int)) = false := by simpa using hn2
  clear ht hok hs hr hl hby hres hform
  refine (callsIn_wide (n := 6)).1 ?_
  refine callsIn_of_wp_marks Tryd.func25 rfl trivial ?_ rfl
  simp only [Tryd.ntmps25, List.size_toArray, List.length_cons, List.length_nil, Nat.reduceAdd, Nat.reduceSub, Array.replicate_succ, Array.replicate_zero, List.push_toArray, List.append_toArray, List.nil_append, List.cons_append]
  gi_wp2_with fail
  have F0 : Hid (RpS w (.slice ta ns.length tc) ((w.alloc (.cells #[.slice ta ns.length tc] 36)).alloc (.cells #[.slice none 0 0, .int .i64 0, .int .i64 0, .int .i64 0] 53))) := RpS.new _ _ _ _
  generalize (w.alloc (.cells #[.slice ta ns.length tc] 36)).alloc (.cells #[.slice none 0 0, .int .i64 0, .int .i64 0, .int .i64 0] 53) = w0 at *
  refine ⟨trivial, ?_⟩
  refine (callsIn_wide.2 (implTree_any _ _ ns (HN.out.below F0.out.1) (good_sz HG.out))).mono ?_
  rintro e w1 ⟨rfl, b1⟩
  rw [HOK.out]
  have F1 : Hid (RpS w (.slice ta ns.length tc) w1) := F0.out.below b1
  clear b1 F0
  gi_wp2_with fail
  refine ⟨trivial, ?_⟩
  refine (callsIn_wide.2 (implStat_any _ start)).mono ?_
  rintro e wq ⟨rfl, hwq⟩
  rw [HST.out, hwq]
  clear hwq
  obtain ⟨-, -, x0, -⟩ := F1.out
  gi_wp2_with fail
  clear x0
  refine ⟨trivial, ?_⟩
  refine (callsIn_wide.2 (cloneN_any _ ta tc ns (HN.out.below F1.out.1) hnl)).mono ?_
  rintro e w2 ⟨v2, rfl, o2, b2⟩
  obtain ⟨na, nc, rfl⟩ := OwnN.slice9 o2
  have F2 : Hid (RpS w (.slice ta ns.length tc) w2) := F1.out.below b2
  have O2 : Hid (OwnN 84 w2 w1.heap.size (.slice na ns.length nc) ns) := o2
  have s1 := F1.out.2.1
  clear o2 b2 F1
  gi_wp2_with fail
  refine ⟨trivial, ?_⟩
  refine (frames_in Fence.wide _ trivial rfl _ _ _ _).mono ?_
  rintro e w5 ⟨rfl, hw5⟩
  gi_wp2_with fail
  have s2 : w.heap.size + 2 ≤ w2.heap.size := F2.out.2.1
  have HST0 : Hid (RpI w (.slice ta ns.length tc) w2.heap.size ao n cap (scn n a) start res 0 (.slice na ns.length nc) ns start 0 w5) := by
    rw [hw5]
    have bA : Below w2.heap.size w2 (w2.alloc (.cells #[.slice na ns.length nc, .int .i64 start, .int .i64 0, .int .i64 0] 53)) := (Below.refl _ _).alloc (Nat.le_refl _) _
    have hO := O2.out.below bA
    have hF := F2.out.below bA
    have hX := B4F.new w2 (.slice na ns.length nc) (.int .i64 start) (.int .i64 0) (.int .i64 0) 53
    have sA : (w2.alloc (.cells #[.slice na ns.length nc, .int .i64 start, .int .i64 0, .int .i64 0] 53)).heap.size = w2.heap.size + 1 := by simp
    have hlt := fun q hq => World.ownsRow.lt O2.out q hq
    generalize w2.alloc (.cells #[.slice na ns.length nc, .int .i64 start, .int .i64 0, .int .i64 0] 53) = wA at *
    have bB : Below wA.heap.size wA (wA.alloc (.cells #[.int .i64 0] 2)) := (Below.refl _ _).alloc (Nat.le_refl _) _
    have hL : B1F (wA.alloc (.cells #[.int .i64 0] 2)) (w2.heap.size + 1) (.int .i64 0) := by rw [← sA]; exact ⟨by simp, by simp, by simp⟩
    have sB : (wA.alloc (.cells #[.int .i64 0] 2)).heap.size = w2.heap.size + 2 := by simp [sA]
    generalize wA.alloc (.cells #[.int .i64 0] 2) = wB at *
    have bC : Below wB.heap.size wB (wB.alloc (.cells #[.slice ao n cap] 24)) := (Below.refl _ _).alloc (Nat.le_refl _) _
    refine ⟨(hF.below bB).below bC, by rw [pos_zero]; exact (hX.below bB).below bC, ((hO.below bB).below bC).mono (by omega), ⟨fun e => by have := hlt _ e; omega, fun e => by have := hlt _ e; omega⟩, hL.below bC, ?_, by simp [sB], s2, HG.out, hnl, ⟨by omega, by omega⟩, fun h => by omega, fun _ => rfl, Nat.zero_le _, by rw [List.drop_zero]; exact HRES.out⟩
    have := Boxed.new wB 24 (.slice ao n cap)
    rw [sB] at this
    exact this
  have s5 : w5.heap.size = w2.heap.size + 3 := by rw [hw5]; simp
  rw [← hw5]
  clear hw5 O2 F2
  refine range_breaks (L := 0) (F := Fence.wide) (n := 6) rfl (by omega) (gf := 112) (lb := #[.pointer (some ⟨w2.heap.size + 2, 0, none⟩)]) rfl trivial (enters_of Tryd.func112 (by kernel_rfl) rfl)
    (fun s W => ∃ v ns' zx last, RpI w (.slice ta ns.length tc) w2.heap.size ao n cap (scn n a) start res s.length v ns' zx last W) (PreS (scn n a) (fun s W => ∃ v ns' zx last, RpI w (.slice ta ns.length tc) w2.heap.size ao n cap (scn n a) start res s.length v ns' zx last W)) (fun s vs => s ++ [uOf vs]) (fun _ _ => True) (fun s => s.length = (scn n a).length) (RpX w (.slice ta ns.length tc) w2.heap.size (scn n a) res)
    (fun s X Y row hs hg hr => hs.notCells hg (fun r e => by have := hr r e; rw [s5] at this; exact this)) []
    (fun s X Y row hs hg hr => by obtain ⟨v, ns', zx, last, hs⟩ := hs; exact ⟨v, ns', zx, last, hs.notCells hg (fun r e => by have := hr r e; rw [s5] at this; exact this)⟩) (fun _ _ => trivial) (fun _ _ _ _ _ _ _ _ => trivial)
    (fun s vs W hp => by obtain ⟨u, W0, rfl, -⟩ := hp; rfl) ⟨_, _, _, _, HST0.out⟩ (AxR w (.slice ta ns.length tc) w2.heap.size ao n cap (scn n a) start res (fun e b p => #[.agg #[.slice ta ns.length tc], .int .i64 start, .slice ao n cap, .pointer (some ⟨w.heap.size, 0, none⟩), undef, undef, .pointer (some ⟨w.heap.size + 1, 0, none⟩), .pointer (some ⟨w2.heap.size, 0, none⟩), .pointer (some ⟨w2.heap.size + 1, 0, none⟩), e, b, undef, .agg #[.slice ta ns.length tc], .bool true, .bool false, .bool false, .int .i64 start, .bool true, .bool false, .bool false, .bool false, .slice ao n cap, .int .i64 n, .bool false, .bool false, undef, .pointer (some ⟨w.heap.size, 0, none⟩), .slice ta ns.length tc, .slice na ns.length nc, .agg #[.slice na ns.length nc], .int .i64 start, .agg #[.slice na ns.length nc, .int .i64 start, .int .i64 0, .int .i64 0], .slice ao n cap, .func (.func 112) #[] #[.pointer (some ⟨w2.heap.size + 2, 0, none⟩)], e, p, undef, undef, undef, undef, undef, undef, undef, undef, undef, undef, undef, undef, undef, undef, undef, undef, undef, undef, undef, undef, undef, undef, undef, undef, undef, undef, undef, undef, undef]))
    ?ax ?assign ?body ?call ?done ?stop
  case ax =>
    rintro s vs a' _ X Y row ⟨ua, uc, v, ns', zx, last, Bx, h1, h2, h3, h6, h7, h8⟩ hg hr
    refine ⟨ua, uc, v, ns', zx, last, Bx, h1, h2, h3.notCells hg (fun r e => by have := hr r e; rw [s5] at this; exact this), ownsRow_notCells h6 hg (fun r e => (hr r e).2), ?_, h8⟩
    exact (hg.block Bx (Array.getElem?_eq_some_iff.1 h7).1 (fun e => by obtain ⟨-, o, ho, hc⟩ := hr Bx e.symm; rw [h7] at ho; injection ho with ho; rw [← ho] at hc; cases hc)).trans h7
  case assign =>
    rintro l s vs W K - ⟨u, W0, rfl, hlt, ⟨v, ns', zx, last, hs⟩, hb, ho⟩ hK
    have hpr : ((scn n a).getD s.length ([], 0)).1 = pR ((scn n a).map (·.1)) s.length := (pR_map _ _ hlt).symm
    rw [hpr] at ho
    obtain ⟨ua, uc, rfl⟩ := Own.slice ho
    have HO : Hid (Own .u8 5 W W0.heap.size (.slice ua (pR ((scn n a).map (·.1)) s.length).length uc) (pR ((scn n a).map (·.1)) s.length)) := ho
    have HS : Hid (RpI w (.slice ta ns.length tc) w2.heap.size ao n cap (scn n a) start res s.length v ns' zx last W0) := hs
    have HB : Hid (Below W0.heap.size W0 W) := hb
    have HK : Hid (∀ a' W', KeepsFrom w5.heap.size W W' → True → (AxR w (.slice ta ns.length tc) w2.heap.size ao n cap (scn n a) start res (fun e b p => #[.agg #[.slice ta ns.length tc], .int .i64 start, .slice ao n cap, .pointer (some ⟨w.heap.size, 0, none⟩), undef, undef, .pointer (some ⟨w.heap.size + 1, 0, none⟩), .pointer (some ⟨w2.heap.size, 0, none⟩), .pointer (some ⟨w2.heap.size + 1, 0, none⟩), e, b, undef, .agg #[.slice ta ns.length tc], .bool true, .bool false, .bool false, .int .i64 start, .bool true, .bool false, .bool false, .bool false, .slice ao n cap, .int .i64 n, .bool false, .bool false, undef, .pointer (some ⟨w.heap.size, 0, none⟩), .slice ta ns.length tc, .slice na ns.length nc, .agg #[.slice na ns.length nc], .int .i64 start, .agg #[.slice na ns.length nc, .int .i64 start, .int .i64 0, .int .i64 0], .slice ao n cap, .func (.func 112) #[] #[.pointer (some ⟨w2.heap.size + 2, 0, none⟩)], e, p, undef, undef, undef, undef, undef, undef, undef, undef, undef, undef, undef, undef, undef, undef, undef, undef, undef, undef, undef, undef, undef, undef, undef, undef, undef, undef, undef, undef, undef])) s _ a' W' → K a' W') := hK
    clear ho hs hb hK hpr
    generalize hq : pR ((scn n a).map (·.1)) s.length = q at *
    have HLT0 : Hid (s.length < (scn n a).length) := hlt
    clear hlt
    gi_wp2
    refine HK.out _ _ (below_keeps ((Below.refl _ _).alloc (Nat.le_refl _) _)) trivial ⟨ua, uc, v, ns', zx, last, W.heap.size, by rw [hq]; rfl, HLT0.out, (HS.out.later HB.out).later ((Below.refl _ _).alloc (Nat.le_refl _) _), by rw [hq]; exact (HO.out.below ((Below.refl _ _).alloc (Nat.le_refl _) _)).mono HS.out.size, by rw [hq]; exact Boxed.new _ _ _, by rw [hq]⟩
  case body =>
    rintro l s vs a' W ⟨ua, uc, v, ns', zx, last, Bx, hu, hlt, hS, ho, hx, rfl⟩
    obtain ⟨va, vc, rfl⟩ := OwnN.slice9 hS.own
    have HS : Hid (RpI w (.slice ta ns.length tc) w2.heap.size ao n cap (scn n a) start res s.length (.slice va ns'.length vc) ns' zx last W) := hS
    have HO : Hid (Own .u8 5 W (w2.heap.size + 3) (.slice ua (pR ((scn n a).map (·.1)) s.length).length uc) (pR ((scn n a).map (·.1)) s.length)) := ho
    have HU : Hid (uOf vs = .slice ua (pR ((scn n a).map (·.1)) s.length).length uc) := hu
    have hbt := rec_byt HL.out s.length hlt
    have HBT : Hid (Byt (pR ((scn n a).map (·.1)) s.length)) := hbt.1
    have hpl := hbt.2.1
    have cx := hx.cell
    have zx9 : Bx < W.heap.size := (Array.getElem?_eq_some_iff.1 hx).1
    have hdrop := rec_drop (scn n a) s.length hlt
    have HDR : Hid (((scn n a).drop s.length).map (·.1) = pR ((scn n a).map (·.1)) s.length :: ((scn n a).drop (s.length + 1)).map (·.1)) := hdrop
    have hk1 : Hid (s.length + 1 ≤ (scn n a).length) := hlt
    have hps := (scn_all n a (by rw [HL.out]; exact Nat.le_refl _)).2.2 (s.length + 1) hlt
    rw [HL.out] at hps
    have hsl : s.length ≤ 8192 := by have := scn_len n a; omega
    clear hS ho hu hbt hx hdrop hlt
    generalize pR ((scn n a).map (·.1)) s.length = p9 at *
    generalize scn n a = R at *
    generalize hk : s.length = k at *
    have HKE : Hid (s.length = k) := hk
    clear hk
    have sW := HS.out.size
    have slo := HS.out.low
    gi_wp2_with fail
    refine ⟨trivial, ?_⟩
    refine (callsIn_wide.2 (implDecX_any _ _ p9 HO.out.rd HBT.out (by omega))).mono ?_
    rintro e W1 ⟨b1, hd⟩
    rename_i K10 hK10 K9 hK9
    have HK10 : Hid _ := hK10
    clear hK10
    have HS1 : Hid (RpI w (.slice ta ns.length tc) w2.heap.size ao n cap R start res k (.slice va ns'.length vc) ns' zx last W1) := HS.out.later b1
    have KP1 : Hid (KeepsFrom (w2.heap.size + 3) W W1) := below_keeps b1
    clear b1 HS cx
    rcases hd with ⟨hd, rfl⟩ | ⟨z, es, vx, hd, rfl, ox⟩
    · have HRES9 : Hid (res = (ns', zx, k)) := by
        have := HS1.out.goes
        rw [HDR.out, rpl_none hd] at this
        exact this.symm
      clear hd
      have bA : Below W1.heap.size W1 (W1.alloc (.cells #[.bool false, .int .i64 0, .slice none 0 0] 108)) := (Below.refl _ _).alloc (Nat.le_refl _) _
      have HX2 : Hid (RpI w (.slice ta ns.length tc) w2.heap.size ao n cap R start res k (.slice va ns'.length vc) ns' zx last (W1.alloc (.cells #[.bool false, .int .i64 0, .slice none 0 0] 108))) := HS1.out.later bA
      have KP2 : Hid (KeepsFrom (w2.heap.size + 3) W (W1.alloc (.cells #[.bool false, .int .i64 0, .slice none 0 0] 108))) := KP1.out.trans (below_keeps bA)
      have t0 : (W1.alloc (.cells #[.bool false, .int .i64 0, .slice none 0 0] 108)).cell? ⟨W1.heap.size, 0, none⟩ = some (.bool false) := by simp
      clear bA HS1 KP1
      unfold zeroX
      gi_wp2_with fail
      generalize W1.alloc (.cells #[.bool false, .int .i64 0, .slice none 0 0] 108) = W2 at *
      refine HK10.out _ _ ?_
      clear HK10
      gi_wp2
      refine ⟨trivial, ?_⟩
      gi_wp2
      refine ⟨trivial, ?_⟩
      gi_wp2
      exact ⟨KP2.out, HX2.out.stop HRES9.out⟩
    · have hzz := okTxn_z (decX_ok hd)
      have HD : Hid (decX p9 = some (z, es)) := hd
      obtain ⟨xa, xc, rfl⟩ := OwnE.slice9 ox
      have bA : Below W1.heap.size W1 (W1.alloc (.cells #[.bool true, .int .i64 z, .slice xa es.length xc] 108)) := (Below.refl _ _).alloc (Nat.le_refl _) _
      have HX2 : Hid (RpI w (.slice ta ns.length tc) w2.heap.size ao n cap R start res k (.slice va ns'.length vc) ns' zx last (W1.alloc (.cells #[.bool true, .int .i64 z, .slice xa es.length xc] 108))) := HS1.out.later bA
      have KP2 : Hid (KeepsFrom (w2.heap.size + 3) W (W1.alloc (.cells #[.bool true, .int .i64 z, .slice xa es.length xc] 108))) := KP1.out.trans (below_keeps bA)
      have OX2 : Hid (RdE (W1.alloc (.cells #[.bool true, .int .i64 z, .slice xa es.length xc] 108)) (.slice xa es.length xc) es) := (OwnE.rd ox).below bA
      have t0 : (W1.alloc (.cells #[.bool true, .int .i64 z, .slice xa es.length xc] 108)).cell? ⟨W1.heap.size, 0, none⟩ = some (.bool true) := by simp
      have t1 : (W1.alloc (.cells #[.bool true, .int .i64 z, .slice xa es.length xc] 108)).cell? ⟨W1.heap.size, 1, none⟩ = some (.int .i64 z) := by simp
      have t2 : (W1.alloc (.cells #[.bool true, .int .i64 z, .slice xa es.length xc] 108)).cell? ⟨W1.heap.size, 2, none⟩ = some (.slice xa es.length xc) := by simp
      have T2 : Hid (W1.heap.size < (W1.alloc (.cells #[.bool true, .int .i64 z, .slice xa es.length xc] 108)).heap.size ∧ (W1.alloc (.cells #[.bool true, .int .i64 z, .slice xa es.length xc] 108)).cell? ⟨W1.heap.size, 1, none⟩ = some (.int .i64 z) ∧ (W1.alloc (.cells #[.bool true, .int .i64 z, .slice xa es.length xc] 108)).cell? ⟨W1.heap.size, 2, none⟩ = some (.slice xa es.length xc)) := ⟨by simp, t1, t2⟩
      have S1 : Hid (w2.heap.size + 3 ≤ W1.heap.size) := HS1.out.size
      clear bA HS1 KP1 ox hd
      gi_wp2_with fail
      generalize W1.alloc (.cells #[.bool true, .int .i64 z, .slice xa es.length xc] 108) = W2 at *
      generalize hBt : W1.heap.size = Bt at *
      clear hBt
      refine HK10.out _ _ ?_
      clear HK10
      obtain ⟨zl, l0, lf⟩ := HX2.out.lastb
      gi_wp2_with fail
      clear l0 lf zl t0 t1 t2
      have hzx := HX2.out.zx0
      refine ⟨trivial, ?_⟩
      refine (callsIn_wide.2 (follows_any W2 w2.heap.size (.slice va ns'.length vc) zx _ last z k xa es.length xc HX2.out.out hzx HX2.out.last0)).mono ?_
      rintro e W3 ⟨rfl, b3⟩
      have HX3 : Hid (RpI w (.slice ta ns.length tc) w2.heap.size ao n cap R start res k (.slice va ns'.length vc) ns' zx last W3) := HX2.out.later b3
      have KP3 : Hid (KeepsFrom (w2.heap.size + 3) W W3) := KP2.out.trans (below_keeps b3)
      have OX3 : Hid (RdE W3 (.slice xa es.length xc) es) := OX2.out.below b3
      have T3 : Hid (Bt < W3.heap.size ∧ W3.cell? ⟨Bt, 1, none⟩ = some (.int .i64 z) ∧ W3.cell? ⟨Bt, 2, none⟩ = some (.slice xa es.length xc)) := ⟨Nat.lt_of_lt_of_le T2.out.1 b3.size, (b3.cell (p := ⟨Bt, 1, none⟩) T2.out.1).trans T2.out.2.1, (b3.cell (p := ⟨Bt, 2, none⟩) T2.out.1).trans T2.out.2.2⟩
      clear b3 HX2 KP2 OX2 T2
      obtain ⟨fl, hfl⟩ : ∃ fl, fl = (if k = 0 then decide (z ≤ zx + 1) else decide (z = last + 1)) := ⟨_, rfl⟩
      have HBAD : Hid ((if k = 0 then decide (start + 1 < z) else decide (z ≠ last + 1)) = !fl) := by
        rw [hfl]
        show _ = _
        by_cases hk0 : k = 0
        · rw [if_pos hk0, if_pos hk0, HX3.out.first hk0]
          by_cases h : z ≤ start + 1
          · rw [decide_eq_false (by omega), decide_eq_true h]; rfl
          · rw [decide_eq_true (by omega), decide_eq_false h]; rfl
        · rw [if_neg hk0, if_neg hk0]
          by_cases h : z = last + 1
          · rw [decide_eq_false (by omega), decide_eq_true h]; rfl
          · rw [decide_eq_true h, decide_eq_false h]; rfl
      rw [← hfl]
      clear hfl
      cases fl with
      | false =>
        have HRES9 : Hid (res = (ns', zx, k)) := by
          have := HX3.out.goes
          rw [HDR.out, rpl_bad HD.out HBAD.out] at this
          exact this.symm
        gi_wp2
        refine ⟨trivial, ?_⟩
        gi_wp2
        exact ⟨KP3.out, HX3.out.stop HRES9.out⟩
      | true =>
        obtain ⟨-, t1, t2⟩ := T3.out
        gi_wp2_with fail
        clear t1 t2
        refine ⟨trivial, ?_⟩
        refine (callsIn_wide.2 (reach_any W3 w2.heap.size va vc ns' zx _ z k xa xc es HX3.out.out HX3.out.own.rd HX3.out.own.nilOk HX3.out.good OX3.out (decX_ok HD.out))).mono ?_
        rintro e W4 hrp
        rcases hrp with ⟨hz, rfl, b4⟩ | ⟨hz, hbig, rfl, b4⟩ | ⟨hz, hbig, rfl, v4, x4, o4, g4⟩
        · have GOES : Hid (rpl start (k + 1) ((R.drop (k + 1)).map (·.1)) ns' zx z = res) := by
            have := HX3.out.goes
            rw [HDR.out, rpl_pass HD.out HBAD.out (by omega)] at this
            exact this
          have HX4 : Hid (RpI w (.slice ta ns.length tc) w2.heap.size ao n cap R start res k (.slice va ns'.length vc) ns' zx last W4) := HX3.out.later b4
          have KP4 : Hid (KeepsFrom (w2.heap.size + 3) W W4) := KP3.out.trans (below_keeps b4)
          have t1 := (b4.cell (p := ⟨Bt, 1, none⟩) T3.out.1).trans T3.out.2.1
          have FIN : Hid (RpI w (.slice ta ns.length tc) w2.heap.size ao n cap R start res (k + 1) (.slice va ns'.length vc) ns' zx z (((W4.setCell ⟨w2.heap.size + 1, 0, none⟩ (.int .i64 z)).setCell ⟨w2.heap.size, 2, none⟩ (.int .i64 ((k : Int) + 1))).setCell ⟨w2.heap.size, 3, none⟩ (.int .i64 ((pos R (k + 1) : Nat) : Int)))) := rpI_next HX4.out.head HX4.out.out HX4.out.own HX4.out.ne HX4.out.lastb HX4.out.area HX4.out.size HX4.out.low HX4.out.good HX4.out.len HX4.out.zx0 hzz hk1.out GOES.out
          have KP5 : Hid (KeepsFrom (w2.heap.size + 3) W (((W4.setCell ⟨w2.heap.size + 1, 0, none⟩ (.int .i64 z)).setCell ⟨w2.heap.size, 2, none⟩ (.int .i64 ((k : Int) + 1))).setCell ⟨w2.heap.size, 3, none⟩ (.int .i64 ((pos R (k + 1) : Nat) : Int)))) := KP4.out.trans ((((KeepsOthers.setCell _ _ _).from _).trans ((KeepsOthers.setCell _ _ _).from _)).trans ((KeepsOthers.setCell _ _ _).from _))
          obtain ⟨zo, ⟨e0, e1, e2, e3⟩, f0, f1, f2, f3⟩ := HX4.out.out
          obtain ⟨zl, l0, lf⟩ := HX4.out.lastb
          have hbt1 : Bt ≠ w2.heap.size + 1 := by have := S1.out; omega
          have hbt2 : Bt ≠ w2.heap.size := by have := S1.out; omega
          clear b4 HX3 KP3 OX3 T3 HX4 KP4
          gi_wp2
          refine ⟨KP5.out, .slice va ns'.length vc, ns', zx, z, ?_⟩
          rw [HKE.out]
          exact FIN.out
        · have HRES9 : Hid (res = (ns', zx, k)) := by
            have := HX3.out.goes
            rw [HDR.out, rpl_big HD.out HBAD.out hz hbig] at this
            exact this.symm
          have HX4 : Hid (RpI w (.slice ta ns.length tc) w2.heap.size ao n cap R start res k (.slice va ns'.length vc) ns' zx last W4) := HX3.out.later b4
          have KP4 : Hid (KeepsFrom (w2.heap.size + 3) W W4) := KP3.out.trans (below_keeps b4)
          clear b4
          gi_wp2
          exact ⟨KP4.out, HX4.out.stop HRES9.out⟩
        · have GOES : Hid (rpl start (k + 1) ((R.drop (k + 1)).map (·.1)) (resA ns' z es) z z = res) := by
            have := HX3.out.goes
            rw [HDR.out, rpl_app HD.out HBAD.out hz hbig] at this
            exact this
          have KP4 : Hid (KeepsFrom (w2.heap.size + 3) W W4) := KP3.out.trans (keeps_other g4 (by omega))
          have s3W := HX3.out.size
          have t1 := (World.cell?_of_block (a := ⟨Bt, 1, none⟩) (g4.block Bt T3.out.1 (fun e => by simp at e; have := S1.out; omega))).trans T3.out.2.1
          have LB4 : Hid (B1F W4 (w2.heap.size + 1) (.int .i64 last)) := HX3.out.lastb.other g4 (by simp)
          have X4 : Hid (B4F W4 w2.heap.size v4 (.int .i64 z) (.int .i64 (k : Int)) (.int .i64 ((pos R k : Nat) : Int))) := x4
          have AR4 : Hid (Boxed W4 (w2.heap.size + 2) 24 (.slice ao n cap)) := (g4.block (w2.heap.size + 2) (by omega) (by simp)).trans HX3.out.area
          have HD4 : Hid (RpS w (.slice ta ns.length tc) W4) := HX3.out.head.other g4 (fun r e => by simp at e; omega)
          have NE4 : Hid (v4.ownBlock ≠ some w2.heap.size ∧ v4.ownBlock ≠ some (w2.heap.size + 1)) := ⟨fun e => by have := (World.ownsRow.lt o4 _ e).1; omega, fun e => by have := (World.ownsRow.lt o4 _ e).1; omega⟩
          have O4 : Hid (OwnN 84 W4 (w.heap.size + 2) v4 (resA ns' z es)) := o4.mono (by omega)
          have FIN : Hid (RpI w (.slice ta ns.length tc) w2.heap.size ao n cap R start res (k + 1) v4 (resA ns' z es) z z (((W4.setCell ⟨w2.heap.size + 1, 0, none⟩ (.int .i64 z)).setCell ⟨w2.heap.size, 2, none⟩ (.int .i64 ((k : Int) + 1))).setCell ⟨w2.heap.size, 3, none⟩ (.int .i64 ((pos R (k + 1) : Nat) : Int)))) := rpI_next HD4.out X4.out O4.out NE4.out LB4.out AR4.out (Nat.le_trans s3W g4.size) HX3.out.low (good_resA HX3.out.good (decX_ok HD.out)) (by omega) ⟨by omega, by omega⟩ hzz hk1.out GOES.out
          have KP5 : Hid (KeepsFrom (w2.heap.size + 3) W (((W4.setCell ⟨w2.heap.size + 1, 0, none⟩ (.int .i64 z)).setCell ⟨w2.heap.size, 2, none⟩ (.int .i64 ((k : Int) + 1))).setCell ⟨w2.heap.size, 3, none⟩ (.int .i64 ((pos R (k + 1) : Nat) : Int)))) := KP4.out.trans ((((KeepsOthers.setCell _ _ _).from _).trans ((KeepsOthers.setCell _ _ _).from _)).trans ((KeepsOthers.setCell _ _ _).from _))
          obtain ⟨zo, ⟨e0, e1, e2, e3⟩, f0, f1, f2, f3⟩ := X4.out
          obtain ⟨zl, l0, lf⟩ := LB4.out
          have hbt1 : Bt ≠ w2.heap.size + 1 := by have := S1.out; omega
          have hbt2 : Bt ≠ w2.heap.size := by have := S1.out; omega
          clear g4 x4 o4 HX3 KP3 OX3 T3 X4 LB4 AR4 HD4 NE4 O4 KP4
          gi_wp2
          refine ⟨KP5.out, v4, resA ns' z es, z, z, ?_⟩
          rw [HKE.out]
          exact FIN.out
  case call =>
    intro Bk BkX W1 hBk hBkX hY _ _ hs0 hb0
    have hY' : ∀ s vs W, (fun s W => ∃ v ns' zx last, RpI w (.slice ta ns.length tc) w2.heap.size ao n cap (scn n a) start res s.length v ns' zx last W) s W → Bk W → PreS (scn n a) (fun s W => ∃ v ns' zx last, RpI w (.slice ta ns.length tc) w2.heap.size ao n cap (scn n a) start res s.length v ns' zx last W) s vs W → YieldAt Fence.wide (5 - 1) Tryd.prog (w5.heap.size + 1) vs W fun e W' => (e = .returned (.bool true) ∧ (fun s W => ∃ v ns' zx last, RpI w (.slice ta ns.length tc) w2.heap.size ao n cap (scn n a) start res s.length v ns' zx last W) (s ++ [uOf vs]) W' ∧ Bk W') ∨ (e = .returned (.bool false) ∧ (RpX w (.slice ta ns.length tc) w2.heap.size (scn n a) res) W' ∧ BkX W') := by
      intro s vs W hs hb hp
      obtain ⟨fn, tm, asg, bd, hy, hR⟩ := hY s vs W hs hb hp
      exact ⟨fn, tm, asg, bd, hy, hR.mono (fun e W' h => by rcases h with h | h; exact .inl ⟨h.1, h.2.1, h.2.2.1⟩; exact .inr h)⟩
    rcases HF.out with ⟨ho, hn0, hc0⟩ | ⟨blk, o, ho⟩
    · have ha : a = [] := List.eq_nil_of_length_eq_zero (by rw [HL.out]; exact hn0)
      have hr := frames1_brnil 5 (by omega) (w5.heap.size + 1) (w2.heap.size + 2) (fun s W => ∃ v ns' zx last, RpI w (.slice ta ns.length tc) w2.heap.size ao n cap (scn n a) start res s.length v ns' zx last W) Bk (RpX w (.slice ta ns.length tc) w2.heap.size (scn n a) res) BkX (fun s X Y hb ⟨v, ns', zx, last, h⟩ => ⟨v, ns', zx, last, h.later hb⟩) (fun X Y hb h => hBk X Y (below_keeps hb) h) (fun s W ⟨v, ns', zx, last, h⟩ => by have := h.area.cell; rw [ho, hn0, hc0] at this; exact this) W1 hs0 hb0
      refine hr.mono ?_
      rintro e W' ⟨h1, (⟨s, h2, h3⟩ | h3)⟩
      · exact ⟨h1, .inl ⟨s, by rw [h2, hn0, ha], h3⟩⟩
      · exact ⟨h1, .inr h3⟩
    · exact frames1_br 5 (by omega) (w5.heap.size + 1) (w2.heap.size + 2) blk o n cap a HL.out HBY.out hn (fun s W => ∃ v ns' zx last, RpI w (.slice ta ns.length tc) w2.heap.size ao n cap (scn n a) start res s.length v ns' zx last W) Bk (RpX w (.slice ta ns.length tc) w2.heap.size (scn n a) res) BkX (fun s X Y hb ⟨v, ns', zx, last, h⟩ => ⟨v, ns', zx, last, h.later hb⟩) (fun X Y hb h => hBk X Y (below_keeps hb) h) (fun s W ⟨v, ns', zx, last, h⟩ => by rw [← ho]; exact ⟨h.area.cell, HR.out.below h.head.1⟩) hY' W1 hs0 hb0
  case done =>
    rintro D s W hD hfin ⟨v, ns', zx, last, hS⟩ hK
    obtain ⟨hH, hX, hO, hlow, hsz⟩ := (⟨hS.head, hS.out, hS.own, hS.low, hS.size⟩ : _ ∧ _ ∧ _ ∧ _ ∧ _)
    have hres : res = (ns', zx, s.length) := by
      have := hS.goes
      rw [hfin, List.drop_length, List.map_nil, rpl] at this
      rw [← this, hfin]
    clear hS hfin
    generalize s.length = k at *
    obtain ⟨va, vc, rfl⟩ := OwnN.slice9 hO
    have HO : Hid (OwnN 84 W (w.heap.size + 2) (.slice va ns'.length vc) ns') := hO
    have HH : Hid (RpS w (.slice ta ns.length tc) W) := hH
    have HRES9 : Hid (res = (ns', zx, k)) := hres
    have HKD : Hid (W.heap[D]? = some (.deferred (some []))) := hK
    have hB : Below w.heap.size w W := hH.1
    obtain ⟨zo, ⟨e0, e1, e2, e3⟩, -⟩ := hX
    obtain ⟨zr, ⟨d0, d1, d2, d3⟩, f0, f1, f2, f3⟩ := hH.2.2.2
    clear hO hH hres hK
    obtain ⟨ps, hps⟩ : ∃ ps, ps = pos (scn n a) k := ⟨_, rfl⟩
    rw [← hps] at e3
    have HPS : Hid (ps = pos (scn n a) k) := hps
    clear hps
    gi_wp2
    have hK2 : ((((W.setCell ⟨w.heap.size + 1, 0, none⟩ (.slice va ns'.length vc)).setCell ⟨w.heap.size + 1, 1, none⟩ (.int .i64 zx)).setCell ⟨w.heap.size + 1, 2, none⟩ (.int .i64 (k : Int))).setCell ⟨w.heap.size + 1, 3, none⟩ (.int .i64 (ps : Int))).heap[D]? = some (.deferred (some [])) := (KeepsOthers.setCell _ _ _).same D _ ((KeepsOthers.setCell _ _ _).same D _ ((KeepsOthers.setCell _ _ _).same D _ ((KeepsOthers.setCell _ _ _).same D _ HKD.out rfl) rfl) rfl) rfl
    refine ⟨by simp, .inl ⟨_, _, rfl, run_takeDeferred hK2, ?_⟩⟩
    have XB : B4F ((((W.setCell ⟨w.heap.size + 1, 0, none⟩ (.slice va ns'.length vc)).setCell ⟨w.heap.size + 1, 1, none⟩ (.int .i64 zx)).setCell ⟨w.heap.size + 1, 2, none⟩ (.int .i64 (k : Int))).setCell ⟨w.heap.size + 1, 3, none⟩ (.int .i64 (ps : Int))) (w.heap.size + 1) (.slice va ns'.length vc) (.int .i64 zx) (.int .i64 (k : Int)) (.int .i64 (ps : Int)) := (((HH.out.2.2.2.set0 _).set1 _).set2 _).set3 _
    have OX : OwnN 84 ((((W.setCell ⟨w.heap.size + 1, 0, none⟩ (.slice va ns'.length vc)).setCell ⟨w.heap.size + 1, 1, none⟩ (.int .i64 zx)).setCell ⟨w.heap.size + 1, 2, none⟩ (.int .i64 (k : Int))).setCell ⟨w.heap.size + 1, 3, none⟩ (.int .i64 (ps : Int))) (w.heap.size + 2) (.slice va ns'.length vc) ns' := (((HO.out.setBelow (show w.heap.size + 1 < w.heap.size + 2 by omega) _).setBelow (show w.heap.size + 1 < w.heap.size + 2 by omega) _).setBelow (show w.heap.size + 1 < w.heap.size + 2 by omega) _).setBelow (show w.heap.size + 1 < w.heap.size + 2 by omega) _
    have BX : Below w.heap.size w ((((W.setCell ⟨w.heap.size + 1, 0, none⟩ (.slice va ns'.length vc)).setCell ⟨w.heap.size + 1, 1, none⟩ (.int .i64 zx)).setCell ⟨w.heap.size + 1, 2, none⟩ (.int .i64 (k : Int))).setCell ⟨w.heap.size + 1, 3, none⟩ (.int .i64 (ps : Int))) := (((hB.setCell (by simp) _).setCell (by simp) _).setCell (by simp) _).setCell (by simp) _
    have SX : ((((W.setCell ⟨w.heap.size + 1, 0, none⟩ (.slice va ns'.length vc)).setCell ⟨w.heap.size + 1, 1, none⟩ (.int .i64 zx)).setCell ⟨w.heap.size + 1, 2, none⟩ (.int .i64 (k : Int))).setCell ⟨w.heap.size + 1, 3, none⟩ (.int .i64 (ps : Int))).heap.size = W.heap.size := by simp
    generalize ((((W.setCell ⟨w.heap.size + 1, 0, none⟩ (.slice va ns'.length vc)).setCell ⟨w.heap.size + 1, 1, none⟩ (.int .i64 zx)).setCell ⟨w.heap.size + 1, 2, none⟩ (.int .i64 (k : Int))).setCell ⟨w.heap.size + 1, 3, none⟩ (.int .i64 (ps : Int))) = X at *
    have GX := grownBy_putObj' X D (.deferred none)
    have hDw : w.heap.size + 1 < D := by omega
    have YB := XB.other GX (by simp; omega)
    have OF : OwnN 84 (X.putObj D (.deferred none)) (w.heap.size + 2) (.slice va ns'.length vc) ns' := OX.notCells GX (fun r e => by injection e with e; subst e; exact ⟨_, hK2, rfl⟩)
    have BF : Below w.heap.size w (X.putObj D (.deferred none)) := BX.grown GX (by omega) (fun q e => by injection e with e; omega)
    generalize X.putObj D (.deferred none) = Z at *
    obtain ⟨-, ⟨y0, y1, y2, y3⟩, -⟩ := YB
    refine ⟨.agg #[.slice va ns'.length vc, .int .i64 zx, .int .i64 (k : Int), .int .i64 (ps : Int)], ?_, ?_⟩
    · simp [results, Tryd.results25, go_sem, y0, y1, y2, y3]
    · rw [HRES9.out, HPS.out]
      exact ⟨_, rfl, OF.mono (by omega), BF⟩
  case stop =>
    rintro D W hD ⟨v, ns', zx, k, hH, hX, hO, hres, hlow, hsz⟩ hK
    obtain ⟨va, vc, rfl⟩ := OwnN.slice9 hO
    have HO : Hid (OwnN 84 W (w.heap.size + 2) (.slice va ns'.length vc) ns') := hO
    have HH : Hid (RpS w (.slice ta ns.length tc) W) := hH
    have HRES9 : Hid (res = (ns', zx, k)) := hres
    have HKD : Hid (W.heap[D]? = some (.deferred (some []))) := hK
    have hB : Below w.heap.size w W := hH.1
    obtain ⟨zo, ⟨e0, e1, e2, e3⟩, -⟩ := hX
    obtain ⟨zr, ⟨d0, d1, d2, d3⟩, f0, f1, f2, f3⟩ := hH.2.2.2
    clear hO hH hres hK
    obtain ⟨ps, hps⟩ : ∃ ps, ps = pos (scn n a) k := ⟨_, rfl⟩
    rw [← hps] at e3
    have HPS : Hid (ps = pos (scn n a) k) := hps
    clear hps
    gi_wp2
    have hK2 : ((((W.setCell ⟨w.heap.size + 1, 0, none⟩ (.slice va ns'.length vc)).setCell ⟨w.heap.size + 1, 1, none⟩ (.int .i64 zx)).setCell ⟨w.heap.size + 1, 2, none⟩ (.int .i64 (k : Int))).setCell ⟨w.heap.size + 1, 3, none⟩ (.int .i64 (ps : Int))).heap[D]? = some (.deferred (some [])) := (KeepsOthers.setCell _ _ _).same D _ ((KeepsOthers.setCell _ _ _).same D _ ((KeepsOthers.setCell _ _ _).same D _ ((KeepsOthers.setCell _ _ _).same D _ HKD.out rfl) rfl) rfl) rfl
    refine ⟨by simp, .inl ⟨_, _, rfl, run_takeDeferred hK2, ?_⟩⟩
    have XB : B4F ((((W.setCell ⟨w.heap.size + 1, 0, none⟩ (.slice va ns'.length vc)).setCell ⟨w.heap.size + 1, 1, none⟩ (.int .i64 zx)).setCell ⟨w.heap.size + 1, 2, none⟩ (.int .i64 (k : Int))).setCell ⟨w.heap.size + 1, 3, none⟩ (.int .i64 (ps : Int))) (w.heap.size + 1) (.slice va ns'.length vc) (.int .i64 zx) (.int .i64 (k : Int)) (.int .i64 (ps : Int)) := (((HH.out.2.2.2.set0 _).set1 _).set2 _).set3 _
    have OX : OwnN 84 ((((W.setCell ⟨w.heap.size + 1, 0, none⟩ (.slice va ns'.length vc)).setCell ⟨w.heap.size + 1, 1, none⟩ (.int .i64 zx)).setCell ⟨w.heap.size + 1, 2, none⟩ (.int .i64 (k : Int))).setCell ⟨w.heap.size + 1, 3, none⟩ (.int .i64 (ps : Int))) (w.heap.size + 2) (.slice va ns'.length vc) ns' := (((HO.out.setBelow (show w.heap.size + 1 < w.heap.size + 2 by omega) _).setBelow (show w.heap.size + 1 < w.heap.size + 2 by omega) _).setBelow (show w.heap.size + 1 < w.heap.size + 2 by omega) _).setBelow (show w.heap.size + 1 < w.heap.size + 2 by omega) _
    have BX : Below w.heap.size w ((((W.setCell ⟨w.heap.size + 1, 0, none⟩ (.slice va ns'.length vc)).setCell ⟨w.heap.size + 1, 1, none⟩ (.int .i64 zx)).setCell ⟨w.heap.size + 1, 2, none⟩ (.int .i64 (k : Int))).setCell ⟨w.heap.size + 1, 3, none⟩ (.int .i64 (ps : Int))) := (((hB.setCell (by simp) _).setCell (by simp) _).setCell (by simp) _).setCell (by simp) _
    have SX : ((((W.setCell ⟨w.heap.size + 1, 0, none⟩ (.slice va ns'.length vc)).setCell ⟨w.heap.size + 1, 1, none⟩ (.int .i64 zx)).setCell ⟨w.heap.size + 1, 2, none⟩ (.int .i64 (k : Int))).setCell ⟨w.heap.size + 1, 3, none⟩ (.int .i64 (ps : Int))).heap.size = W.heap.size := by simp
    generalize ((((W.setCell ⟨w.heap.size + 1, 0, none⟩ (.slice va ns'.length vc)).setCell ⟨w.heap.size + 1, 1, none⟩ (.int .i64 zx)).setCell ⟨w.heap.size + 1, 2, none⟩ (.int .i64 (k : Int))).setCell ⟨w.heap.size + 1, 3, none⟩ (.int .i64 (ps : Int))) = X at *
    have GX := grownBy_putObj' X D (.deferred none)
    have hDw : w.heap.size + 1 < D := by omega
    have YB := XB.other GX (by simp; omega)
    have OF : OwnN 84 (X.putObj D (.deferred none)) (w.heap.size + 2) (.slice va ns'.length vc) ns' := OX.notCells GX (fun r e => by injection e with e; subst e; exact ⟨_, hK2, rfl⟩)
    have BF : Below w.heap.size w (X.putObj D (.deferred none)) := BX.grown GX (by omega) (fun q e => by injection e with e; omega)
    generalize X.putObj D (.deferred none) = Z at *
    obtain ⟨-, ⟨y0, y1, y2, y3⟩, -⟩ := YB
    refine ⟨.agg #[.slice va ns'.length vc, .int .i64 zx, .int .i64 (k : Int), .int .i64 (ps : Int)], ?_, ?_⟩
    · simp [results, Tryd.results25, go_sem, y0, y1, y2, y3]
    · rw [HRES9.out, HPS.out]
      exact ⟨_, rfl, OF.mono (by omega), BF⟩

end Go.Proofs.YtcopcegamadkgaaDoor

namespace Go.Proofs.YtcopcegamadkgaaDoor
open Go.RowKit Go.Shelf

/-- Is there a replay? -/
def rpOk (ns : List Nd) (start : Int) (n : Nat) : Bool := okTree ns && okS start && decide (n ≤ 8192)
def rpR (ns : List Nd) (start : Int) (a : List Int) : List Nd × Int × Nat := if rpOk ns start a.length then rpl start 0 ((scn a.length a).map (·.1)) ns start 0 else ([], 0, 0)
def rpE (ns : List Nd) (start : Int) (a : List Int) : Int := if rpOk ns start a.length then ((pos (scn a.length a) (rpR ns start a).2.2 : Nat) : Int) else 0
/-- What Replay answers. -/
def RqPost (w : World) (ns : List Nd) (start : Int) (a : List Int) (e : Ending) (w' : World) : Prop :=
  ∃ va vc, e = .returned (.agg #[.slice va (rpR ns start a).1.length vc, .int .i64 (rpR ns start a).2.1, .int .i64 (((rpR ns start a).2.2 : Nat) : Int), .int .i64 (rpE ns start a)]) ∧ OwnN 84 w' w.heap.size (.slice va (rpR ns start a).1.length vc) (rpR ns start a).1 ∧ Below w.heap.size w w'
theorem rq_yes {w w' : World} {ns : List Nd} {start : Int} {a : List Int} {e : Ending} (hok : rpOk ns start a.length = true) (h : RpPost w (scn a.length a) (rpl start 0 ((scn a.length a).map (·.1)) ns start 0) e w') : RqPost w ns start a e w' := by
  have e1 : rpR ns start a = rpl start 0 ((scn a.length a).map (·.1)) ns start 0 := if_pos hok
  have e2 : rpE ns start a = ((pos (scn a.length a) (rpR ns start a).2.2 : Nat) : Int) := if_pos hok
  obtain ⟨v, rfl, o, b⟩ := h
  rw [← e1] at o ⊢
  obtain ⟨va, vc, rfl⟩ := OwnN.slice9 o
  exact ⟨va, vc, by rw [e2], o, b⟩
theorem rq_no {w w' : World} {ns : List Nd} {start : Int} {a : List Int} {e : Ending} (hok : rpOk ns start a.length = false) (h : e = .returned (.agg #[.slice none 0 0, .int .i64 0, .int .i64 0, .int .i64 0]) ∧ Below w.heap.size w w') : RqPost w ns start a e w' := by
  have e1 : rpR ns start a = ([], 0, 0) := if_neg (by rw [hok]; simp)
  have e2 : rpE ns start a = 0 := if_neg (by rw [hok]; simp)
  unfold RqPost
  rw [e1, e2]
  exact ⟨none, 0, h.1, World.ownsRow_nil _ _ _ _, h.2⟩
theorem rpR_sz {ns : List Nd} {start : Int} {a : List Int} : (rpR ns start a).1.length ≤ 2000 ∧ Good (rpR ns start a).1 := by
  have key : ∀ (R : List (List Int)) (k : Nat) (ns : List Nd) (zx last : Int), ns.length ≤ 1000 → Good ns → (rpl start k R ns zx last).1.length ≤ 2000 ∧ Good (rpl start k R ns zx last).1 := by
    intro R
    induction R with
    | nil => intro k ns zx last h1 h2; exact ⟨by simp only [rpl]; omega, by simp only [rpl]; exact h2⟩
    | cons p R ih =>
      intro k ns zx last h1 h2
      rw [rpl]
      split
      · exact ⟨by simp only; omega, h2⟩
      · rename_i z es hd
        generalize (if k = 0 then decide (start + 1 < z) else decide (z ≠ last + 1)) = c
        split
        · exact ⟨by simp only; omega, h2⟩
        · split
          · split
            · exact ⟨by simp only; omega, h2⟩
            · exact ih _ _ _ _ (by omega) (good_resA h2 (decX_ok hd))
          · exact ih _ _ _ _ h1 h2
  unfold rpR
  split
  · rename_i h
    unfold rpOk at h
    simp only [Bool.and_eq_true] at h
    refine key _ _ _ _ _ ?_ (good_tree h.1.1)
    have h3 := h.1.1
    unfold okTree at h3
    simp only [Bool.and_eq_true, decide_eq_true_eq] at h3
    exact h3.1
  · exact ⟨by simp, fun n hn => by simp at hn⟩

set_option maxHeartbeats 1000000 in
set_option maxRecDepth 100000 in
theorem specReplay_no (w : World) (ta : Option Addr) (tc : Nat) (ns : List Nd) (start : Int) (ao : Option Addr) (n cap : Nat) (ht : RdN w (.slice ta ns.length tc) ns) (hn : ns.length ≤ 1048576) (hsz : ∀ i, (nAt ns i).path.size ≤ 1048576 ∧ (nAt ns i).data.size ≤ 1048576) (hm : n ≤ 1048576) (hno : rpOk ns start n = false) :
    Calls Tryd.prog 22 #[.agg #[.slice ta ns.length tc], .int .i64 start, .slice ao n cap] w fun e w' => e = .returned (.agg #[.slice none 0 0, .int .i64 0, .int .i64 0, .int .i64 0]) ∧ Below w.heap.size w w' := by
  have HN : Hid (RdN w (.slice ta ns.length tc) ns) := ht
  have HSZ : Hid (∀ i, (nAt ns i).path.size ≤ 1048576 ∧ (nAt ns i).data.size ≤ 1048576) := hsz
  have HNO : Hid (rpOk ns start n = false) := hno
  clear ht hsz hno
  go_enter Tryd.func22, Tryd.ntmps22
  go_wp2_with fail
  have F0 : Hid (RpS w (.slice ta ns.length tc) ((w.alloc (.cells #[.slice ta ns.length tc] 36)).alloc (.cells #[.slice none 0 0, .int .i64 0, .int .i64 0, .int .i64 0] 53))) := RpS.new _ _ _ _
  generalize (w.alloc (.cells #[.slice ta ns.length tc] 36)).alloc (.cells #[.slice none 0 0, .int .i64 0, .int .i64 0, .int .i64 0] 53) = w0 at *
  refine (specTree_any _ _ ns (HN.out.below F0.out.1) hn HSZ.out).mono ?_
  rintro e w1 ⟨rfl, b1⟩
  have F1 : Hid (RpS w (.slice ta ns.length tc) w1) := F0.out.below b1
  clear b1 F0
  obtain ⟨zr, ⟨d0, d1, d2, d3⟩, f0, f1, f2, f3⟩ := F1.out.2.2.2
  cases hT : okTree ns with
  | false =>
    clear hT
    go_wp2
    refine bodyPost_ret (v := .agg #[.slice none 0 0, .int .i64 0, .int .i64 0, .int .i64 0]) (by simp [results, Tryd.results22, go_sem, d0, d1, d2, d3]) rfl ⟨rfl, ?_⟩
    repeat (first | exact F1.out.1 | refine Below.setCell ?_ (by simp) _)
  | true =>
    have HT : Hid (okTree ns = true) := hT
    clear hT
    go_wp2_with fail
    refine (stat_any _ start).mono ?_
    rintro e wq ⟨rfl, hwq⟩
    rw [hwq]
    clear hwq
    obtain ⟨b, hb⟩ : ∃ b, b = okS start := ⟨_, rfl⟩
    rw [← hb]
    have HB : Hid (okS start = b) := hb.symm
    clear hb
    cases b with
    | false =>
      go_wp2
      refine bodyPost_ret (v := .agg #[.slice none 0 0, .int .i64 0, .int .i64 0, .int .i64 0]) (by simp [results, Tryd.results22, go_sem, d0, d1, d2, d3]) rfl ⟨rfl, ?_⟩
      repeat (first | exact F1.out.1 | refine Below.setCell ?_ (by simp) _)
    | true =>
      have hbig : ¬ n ≤ 8192 := fun h => by
        have h2 := HNO.out
        unfold rpOk at h2
        rw [HT.out, HB.out, decide_eq_true h] at h2
        cases h2
      have hbI : (8192 : Int) < (n : Int) := by omega
      have hbD : decide ((8192 : Int) < (n : Int)) = true := by simpa using hbI
      clear hbig
      go_wp2
      refine bodyPost_ret (v := .agg #[.slice none 0 0, .int .i64 0, .int .i64 0, .int .i64 0]) (by simp [results, Tryd.results22, go_sem, d0, d1, d2, d3]) rfl ⟨rfl, ?_⟩
      repeat (first | exact F1.out.1 | refine Below.setCell ?_ (by simp) _)

set_option maxHeartbeats 1000000 in
set_option maxRecDepth 100000 in
theorem implReplay_no (w : World) (ta : Option Addr) (tc : Nat) (ns : List Nd) (start : Int) (ao : Option Addr) (n cap : Nat) (ht : RdN w (.slice ta ns.length tc) ns) (_hn : ns.length ≤ 1048576) (hsz : ∀ i, (nAt ns i).path.size ≤ 1048576 ∧ (nAt ns i).data.size ≤ 1048576) (hm : n ≤ 1048576) (hno : rpOk ns start n = false) :
    Calls Tryd.prog 25 #[.agg #[.slice ta ns.length tc], .int .i64 start, .slice ao n cap] w fun e w' => e = .returned (.agg #[.slice none 0 0, .int .i64 0, .int .i64 0, .int .i64 0]) ∧ Below w.heap.size w w' := by
  have HN : Hid (RdN w (.slice ta ns.length tc) ns) := ht
  have HSZ : Hid (∀ i, (nAt ns i).path.size ≤ 1048576 ∧ (nAt ns i).data.size ≤ 1048576) := hsz
  have HNO : Hid (rpOk ns start n = false) := hno
  clear ht hsz hno
  go_enter Tryd.func25, Tryd.ntmps25
  go_wp2_with fail
  have F0 : Hid (RpS w (.slice ta ns.length tc) ((w.alloc (.cells #[.slice ta ns.length tc] 36)).alloc (.cells #[.slice none 0 0, .int .i64 0, .int .i64 0, .int .i64 0] 53))) := RpS.new _ _ _ _
  generalize (w.alloc (.cells #[.slice ta ns.length tc] 36)).alloc (.cells #[.slice none 0 0, .int .i64 0, .int .i64 0, .int .i64 0] 53) = w0 at *
  refine (implTree_any _ _ ns (HN.out.below F0.out.1) HSZ.out).mono ?_
  rintro e w1 ⟨rfl, b1⟩
  have F1 : Hid (RpS w (.slice ta ns.length tc) w1) := F0.out.below b1
  clear b1 F0
  obtain ⟨zr, ⟨d0, d1, d2, d3⟩, f0, f1, f2, f3⟩ := F1.out.2.2.2
  cases hT : okTree ns with
  | false =>
    clear hT
    go_wp2
    refine bodyPost_ret (v := .agg #[.slice none 0 0, .int .i64 0, .int .i64 0, .int .i64 0]) (by simp [results, Tryd.results25, go_sem, d0, d1, d2, d3]) rfl ⟨rfl, ?_⟩
    repeat (first | exact F1.out.1 | refine Below.setCell ?_ (by simp) _)
  | true =>
    have HT : Hid (okTree ns = true) := hT
    clear hT
    go_wp2_with fail
    refine (implStat_any _ start).mono ?_
    rintro e wq ⟨rfl, hwq⟩
    rw [hwq]
    clear hwq
    obtain ⟨b, hb⟩ : ∃ b, b = okS start := ⟨_, rfl⟩
    rw [show decide (0 ≤ start ∧ start ≤ 2147483647) = b by rw [hb]; unfold okS; rw [Bool.decide_and]]
    have HB : Hid (okS start = b) := hb.symm
    clear hb
    cases b with
    | false =>
      go_wp2
      refine bodyPost_ret (v := .agg #[.slice none 0 0, .int .i64 0, .int .i64 0, .int .i64 0]) (by simp [results, Tryd.results25, go_sem, d0, d1, d2, d3]) rfl ⟨rfl, ?_⟩
      repeat (first | exact F1.out.1 | refine Below.setCell ?_ (by simp) _)
    | true =>
      have hbig : ¬ n ≤ 8192 := fun h => by
        have h2 := HNO.out
        unfold rpOk at h2
        rw [HT.out, HB.out, decide_eq_true h] at h2
        cases h2
      have hbI : (8192 : Int) < (n : Int) := by omega
      have hbD : decide ((8192 : Int) < (n : Int)) = true := by simpa using hbI
      clear hbig
      go_wp2
      refine bodyPost_ret (v := .agg #[.slice none 0 0, .int .i64 0, .int .i64 0, .int .i64 0]) (by simp [results, Tryd.results25, go_sem, d0, d1, d2, d3]) rfl ⟨rfl, ?_⟩
      repeat (first | exact F1.out.1 | refine Below.setCell ?_ (by simp) _)

theorem specReplay_any (w : World) (ta : Option Addr) (tc : Nat) (ns : List Nd) (start : Int) (ao : Option Addr) (cap : Nat) (a : List Int) (ht : RdN w (.slice ta ns.length tc) ns) (hn : ns.length ≤ 1048576) (hsz : ∀ i, (nAt ns i).path.size ≤ 1048576 ∧ (nAt ns i).data.size ≤ 1048576) (hr : Rd .u8 w (.slice ao a.length cap) a) (hby : Byt a) (hm : a.length ≤ 1048576) :
    Calls Tryd.prog 22 #[.agg #[.slice ta ns.length tc], .int .i64 start, .slice ao a.length cap] w (RqPost w ns start a) := by
  cases h : rpOk ns start a.length with
  | true =>
    have h2 := h
    unfold rpOk at h2
    simp only [Bool.and_eq_true, decide_eq_true_eq] at h2
    exact (specReplay_yes w ta tc ns start ao a.length cap a ht h2.1.1 h2.1.2 hr rfl hby h2.2).mono (fun e w' hp => rq_yes h hp)
  | false => exact (specReplay_no w ta tc ns start ao a.length cap ht hn hsz hm h).mono (fun e w' hp => rq_no h hp)
theorem implReplay_any (w : World) (ta : Option Addr) (tc : Nat) (ns : List Nd) (start : Int) (ao : Option Addr) (cap : Nat) (a : List Int) (ht : RdN w (.slice ta ns.length tc) ns) (hn : ns.length ≤ 1048576) (hsz : ∀ i, (nAt ns i).path.size ≤ 1048576 ∧ (nAt ns i).data.size ≤ 1048576) (hr : Rd .u8 w (.slice ao a.length cap) a) (hby : Byt a) (hm : a.length ≤ 1048576) (hform : (ao = none ∧ a.length = 0 ∧ cap = 0) ∨ ∃ blk o, ao = some ⟨blk, o, none⟩) :
    Calls Tryd.prog 25 #[.agg #[.slice ta ns.length tc], .int .i64 start, .slice ao a.length cap] w (RqPost w ns start a) := by
  cases h : rpOk ns start a.length with
  | true =>
    have h2 := h
    unfold rpOk at h2
    simp only [Bool.and_eq_true, decide_eq_true_eq] at h2
    exact (implReplay_yes w ta tc ns start ao a.length cap a ht h2.1.1 h2.1.2 hr rfl hby h2.2 hform).mono (fun e w' hp => rq_yes h hp)
  | false => exact (implReplay_no w ta tc ns start ao a.length cap ht hn hsz hm h).mono (fun e w' hp => rq_no h hp)

end Go.Proofs.YtcopcegamadkgaaDoor

namespace Go.Proofs.YtcopcegamadkgaaDoor
open Go.RowKit

def digsF : Nat → Nat → List UInt8 → List UInt8
  | 0, _, acc => acc
  | f + 1, k, acc => if k = 0 then acc else digsF f (k / 10) (UInt8.ofNat (48 + k % 10) :: acc)
theorem digsF_more : ∀ (f g k : Nat) (acc : List UInt8), k ≤ f → k ≤ g → digsF f k acc = digsF g k acc
  | 0, g, k, acc, h1, h2 => by
    obtain rfl : k = 0 := by omega
    cases g <;> simp [digsF]
  | f + 1, 0, k, acc, h1, h2 => by
    obtain rfl : k = 0 := by omega
    simp [digsF]
  | f + 1, g + 1, k, acc, h1, h2 => by
    unfold digsF
    by_cases h : k = 0
    · rw [if_pos h, if_pos h]
    · rw [if_neg h, if_neg h]
      exact digsF_more f g (k / 10) _ (by omega) (by omega)
def digs (k : Nat) (acc : List UInt8) : List UInt8 := digsF k k acc
theorem digs_zero (acc : List UInt8) : digs 0 acc = acc := rfl
theorem digs_pos {k : Nat} (h : 0 < k) (acc : List UInt8) : digs k acc = digs (k / 10) (UInt8.ofNat (48 + k % 10) :: acc) := by
  unfold digs
  obtain ⟨j, rfl⟩ : ∃ j, k = j + 1 := ⟨k - 1, by omega⟩
  conv => lhs; unfold digsF
  rw [if_neg (by omega)]
  exact digsF_more _ _ _ _ (by omega) (Nat.le_refl _)
def mtx (k : Nat) : ByteArray := if k = 0 then ⟨#[109, 48]⟩ else ⟨(109 :: digs k []).toArray⟩

theorem ba_app (a b : List UInt8) : (⟨a.toArray⟩ ++ ⟨b.toArray⟩ : ByteArray) = ⟨(a ++ b).toArray⟩ := by
  apply ByteArray.ext
  simp [ByteArray.data_append]

set_option maxHeartbeats 1000000 in
set_option maxRecDepth 100000 in
theorem markText_any (w : World) (k : Nat) (h : k ≤ 1099511627776) :
    Calls Tryd.prog 120 #[.int .i64 k] w fun e w' => e = .returned (.string (mtx k)) ∧ Below w.heap.size w w' := by
  go_enter Tryd.func120, Tryd.ntmps120
  by_cases h0 : k = 0
  · subst h0
    go_wp2
    go_ret
    exact ⟨rfl, Below.refl _ _⟩
  · have hI : ¬ (k : Int) ≤ 0 := by omega
    go_wp2
    go_loopw [0, 3] (fun vk vo wr => ∃ (j d : Nat) (acc : List UInt8), vk = .int .i64 j ∧ vo = .string ⟨acc.toArray⟩ ∧ j < 10 ^ d ∧ acc.length + d ≤ 13 ∧ j ≤ 1099511627776 ∧ Hid (digs j acc = digs k []) ∧ Hid (Below w.heap.size w wr)) (fun i _ _ => (intOf i).toNat)
    case atStart => exact ⟨k, 13, [], rfl, rfl, by omega, by simp, h, rfl, Below.refl _ _⟩
    case round =>
      obtain ⟨j, d, acc, rfl, rfl, hjd, had, hj, HD, HB⟩ := hrel
      by_cases hp : 0 < j
      · have hpI : (0 : Int) < (j : Int) := by omega
        obtain ⟨u, hu⟩ : ∃ u, u = UInt8.ofNat (48 + j % 10) := ⟨_, rfl⟩
        have HD2 : Hid (digs (j / 10) (u :: acc) = digs k []) := by show _ = _; rw [hu, ← digs_pos hp]; exact HD.out
        have hcv : (convert 24 9 (.slice (some ⟨wr.heap.size, 0, none⟩) 1 1)).run Tryd.prog (wr.alloc (.cells #[.int .u8 (48 + (j : Int) % 10)] 5)) = .ok (.string ⟨[u].toArray⟩) (wr.alloc (.cells #[.int .u8 (48 + (j : Int) % 10)] 5)) := by
          have O1 : Own .u8 5 (wr.alloc (.cells #[.int .u8 (48 + (j : Int) % 10)] 5)) wr.heap.size (.slice (some ⟨wr.heap.size, 0, none⟩) 1 1) [48 + (j : Int) % 10] := World.ownsRow_lit wr #[.int .u8 (48 + (j : Int) % 10)] 1 (Nat.le_refl _) (by unfold maxLen; omega) rfl
          have := conv_any O1.rd
          rw [this]
          have e : (48 + (j : Int) % 10).toNat = 48 + j % 10 := by omega
          rw [hu]
          simp only [strOfNums, List.map_cons, List.map_nil, e]
        clear hu
        obtain ⟨d', rfl⟩ : ∃ d', d = d' + 1 := by
          cases d with
          | zero => simp at hjd; omega
          | succ d' => exact ⟨d', rfl⟩
        rw [Nat.pow_succ] at hjd
        have HJ : Hid (j / 10 < 10 ^ d') := by show _ < _; omega
        clear hjd
        go_wp2
        refine ⟨⟨j / 10, d', u :: acc, by rw [show ((j / 10 : Nat) : Int) = (j : Int) / 10 by omega], congrArg Value.string (ba_app [u] acc), HJ.out, by simp; omega, by omega, HD2, HB.out.alloc HB.out.size _⟩, ?_⟩
        simp [intOf]
        omega
      · have hj0 : j = 0 := by omega
        subst hj0
        clear hI
        go_wp2
        go_ret
        refine ⟨?_, HB.out⟩
        have e := HD.out
        rw [digs_zero] at e
        rw [e, mtx, if_neg h0]
        exact congrArg (fun x => Ending.returned (.string x)) (ba_app [109] (digs k []))

end Go.Proofs.YtcopcegamadkgaaDoor

namespace Go.Proofs.YtcopcegamadkgaaDoor
open Go.RowKit Go.Shelf

theorem rowcell {w : World} {lo g n cap z : Nat} {e : TypeId} {us : List Value} (h : w.ownsRow lo e z (.slice (some ⟨g, 0, none⟩) n cap) n us) (i : Nat) (hi : i < n * z) : ∃ u, w.cell? ⟨g, i, none⟩ = some u ∧ w.frozen? ⟨g, i, none⟩ = false := by
  have hl : i < us.length := by rw [h.1]; exact hi
  have h1 := World.ownsRow.cells h (g := g) rfl i us[i] (List.getElem?_eq_getElem hl)
  rw [Addr.add_lit, Nat.zero_add] at h1
  exact ⟨_, h1, World.ownsRow.frozenAt h i⟩
theorem row_keep {w w' : World} {lo n z : Nat} {e : TypeId} {v : Value} {us : List Value} (ho : w.ownsRow lo e z v n us) (hb : Below w.heap.size w w') : w'.ownsRow lo e z v n us := by
  refine ⟨ho.1, ?_⟩
  rcases ho.2 with hn | ⟨g, cap, cur, rfl, hbg, hgg, rest⟩
  · exact .inl hn
  · exact .inr ⟨g, cap, cur, rfl, hbg, by rw [hb.block g (Array.getElem?_eq_some_iff.1 hgg).1]; exact hgg, rest⟩
/-- A row that is written on the way. -/
def RowW (w : World) (lo g n cap z : Nat) (e : TypeId) (w' : World) : Prop := (∃ us, w'.ownsRow lo e z (.slice (some ⟨g, 0, none⟩) n cap) n us) ∧ Below lo w w' ∧ KT e w w'
theorem RowW.set {w w' : World} {lo g n cap z : Nat} {e : TypeId} (h : RowW w lo g n cap z e w') (i : Nat) (u : Value) : RowW w lo g n cap z e (w'.setCell ⟨g, i, none⟩ u) := by
  obtain ⟨⟨us, h1⟩, h2, h3⟩ := h
  have hs := World.ownsRow.stored h1 i u
  have hg := (World.ownsRow.lt h1 g rfl).1
  exact ⟨⟨_, hs.1⟩, h2.setCell hg _, h3.grown h1 hs.2⟩
theorem RowW.below {w w' w2 : World} {lo g n cap z : Nat} {e : TypeId} (h : RowW w lo g n cap z e w') (hb : Below w'.heap.size w' w2) : RowW w lo g n cap z e w2 := by
  obtain ⟨⟨us, h1⟩, h2, h3⟩ := h
  refine ⟨⟨_, row_keep h1 hb⟩, h2.trans (hb.mono ?_), h3.below hb⟩
  have := World.ownsRow.lt h1 g rfl
  omega
theorem RowW.cell {w w' : World} {lo g n cap z : Nat} {e : TypeId} (h : RowW w lo g n cap z e w') (i : Nat) (hi : i < n * z) : ∃ u, w'.cell? ⟨g, i, none⟩ = some u ∧ w'.frozen? ⟨g, i, none⟩ = false := by
  obtain ⟨⟨us, h1⟩, -, -⟩ := h
  exact rowcell h1 i hi

set_option maxHeartbeats 400000 in
theorem markNodeS_nil (w : World) (ao : Option Addr) (cap k : Nat) : Calls Tryd.prog 79 #[.slice ao 0 cap, .int .i64 k] w fun e w' => e = .returned (.int .i64 k) ∧ w' = w := by
  go_enter Tryd.func79, Tryd.ntmps79
  go_wp2
  go_rounds 1
  go_ret
  exact ⟨rfl, rfl⟩

end Go.Proofs.YtcopcegamadkgaaDoor

namespace Go.Proofs.YtcopcegamadkgaaDoor
open Go.RowKit Go.Shelf

/-- A marked node. -/
def mkN (K : Nat) : Nd := ⟨mtx K, mtx (K + 1), (K : Int) + 1 + 1, (K : Int) + 1 + 1 + 1, (K : Int) + 1 + 1 + 1 + 1, (K : Int) + 1 + 1 + 1 + 1 + 1, (K : Int) + 1 + 1 + 1 + 1 + 1 + 1⟩
def mkNs (k n : Nat) : List Nd := (List.range n).map fun j => mkN (k + 7 * j)
theorem mkNs_len (k n : Nat) : (mkNs k n).length = n := by simp [mkNs]
theorem mkNs_at (k n j : Nat) (h : j < n) : nAt (mkNs k n) j = mkN (k + 7 * j) := by unfold nAt mkNs; simp [List.getD, h]
def mkMix (k : Nat) (ns : List Nd) (j : Nat) : List Nd := mkNs k j ++ ns.drop j
theorem mkMix_len (k : Nat) (ns : List Nd) (j : Nat) (h : j ≤ ns.length) : (mkMix k ns j).length = ns.length := by unfold mkMix; rw [List.length_append, mkNs_len, List.length_drop]; omega
theorem mkMix_set (k : Nat) (ns : List Nd) (j : Nat) (h : j < ns.length) : (mkMix k ns j).set j (mkN (k + 7 * j)) = mkMix k ns (j + 1) := by
  unfold mkMix
  rw [List.set_append_right _ _ (by rw [mkNs_len]; exact Nat.le_refl _), mkNs_len, Nat.sub_self, List.drop_eq_getElem_cons h, List.set_cons_zero]
  unfold mkNs
  rw [List.range_succ, List.map_append, List.append_assoc]
  rfl
theorem mkMix_all (k : Nat) (ns : List Nd) : mkMix k ns ns.length = mkNs k ns.length := by unfold mkMix; simp
/-- A row of nodes on the way. -/
def RowL (w : World) (lo g n cap : Nat) (us : List Value) (w' : World) : Prop := w'.ownsRow lo 84 7 (.slice (some ⟨g, 0, none⟩) n cap) n us ∧ Below lo w w' ∧ KT 84 w w'
theorem RowL.set {w w' : World} {lo g n cap : Nat} {us : List Value} (h : RowL w lo g n cap us w') (i : Nat) (u : Value) : RowL w lo g n cap (us.set i u) (w'.setCell ⟨g, i, none⟩ u) := by
  obtain ⟨h1, h2, h3⟩ := h
  have hs := World.ownsRow.stored h1 i u
  exact ⟨hs.1, h2.setCell (World.ownsRow.lt h1 g rfl).1 _, h3.grown h1 hs.2⟩
theorem RowL.below {w w' w2 : World} {lo g n cap : Nat} {us : List Value} (h : RowL w lo g n cap us w') (hb : Below w'.heap.size w' w2) : RowL w lo g n cap us w2 := by
  obtain ⟨h1, h2, h3⟩ := h
  refine ⟨row_keep h1 hb, h2.trans (hb.mono ?_), h3.below hb⟩
  have := World.ownsRow.lt h1 g rfl
  omega
theorem RowL.cell {w w' : World} {lo g n cap : Nat} {us : List Value} (h : RowL w lo g n cap us w') (i : Nat) (hi : i < n * 7) : ∃ u, w'.cell? ⟨g, i, none⟩ = some u ∧ w'.frozen? ⟨g, i, none⟩ = false := rowcell h.1 i hi

set_option maxHeartbeats 2000000 in
set_option maxRecDepth 100000 in
theorem heldNodeS_row (w : World) (b o n cap k : Nat) (hb : b < w.heap.size) (hc : ∀ i, i < n → CellsN w b (o + i * 7) (nAt (mkNs k n) i)) (hk : k ≤ 1048576) (hn : n ≤ 1048576) :
    Calls Tryd.prog 121 #[.slice (some ⟨b, o, none⟩) n cap, .int .i64 k] w fun e w' => e = .returned (.int .i64 ((k + 7 * n : Nat) : Int)) ∧ Below w.heap.size w w' := by
  have HC : Hid (∀ i, i < n → CellsN w b (o + i * 7) (mkN (k + 7 * i))) := fun i hi => by have := hc i hi; rw [mkNs_at k n i hi] at this; exact this
  clear hc
  go_enter Tryd.func121, Tryd.ntmps121
  go_wp2
  go_loopw [1, 5] (fun vk vi wr => ∃ j K : Nat, j ≤ n ∧ K = k + 7 * j ∧ vi = .int .i64 j ∧ vk = .int .i64 K ∧ Hid (Below w.heap.size w wr)) (fun _ i _ => n - (intOf i).toNat)
  case atStart => exact ⟨0, k, Nat.zero_le _, by omega, rfl, rfl, Below.refl _ _⟩
  case round =>
    obtain ⟨j, K, hj, hK, rfl, rfl, HB⟩ := hrel
    have HKE : Hid (K = k + 7 * j) := hK
    by_cases hlt : j < n
    · have hltI : (j : Int) < (n : Int) := by omega
      have hK2 : K ≤ 10000000 := by omega
      have HCJ : Hid (CellsN w b (o + j * 7) (mkN K)) := by have := HC.out j hlt; rw [← hK] at this; exact this
      have hm0 : Hid (∀ W, Calls Tryd.prog 120 #[.int .i64 (K : Int)] W fun e w' => e = .returned (.string (mtx K)) ∧ Below W.heap.size W w') := fun W => markText_any W K (by omega)
      have hm1 : Hid (∀ W, Calls Tryd.prog 120 #[.int .i64 ((K : Int) + 1)] W fun e w' => e = .returned (.string (mtx (K + 1))) ∧ Below W.heap.size W w') := by
        intro W
        have hm := markText_any W (K + 1) (by omega)
        rw [show ((K + 1 : Nat) : Int) = (K : Int) + 1 by omega] at hm
        exact hm
      have hpp : ((mtx K).toList == (mtx K).toList) = true := by simp
      have hpp1 : ((mtx (K + 1)).toList == (mtx (K + 1)).toList) = true := by simp
      clear hK
      go_wp2
      refine wp_region_held_drew (S := fun W => Hid (Below w.heap.size w W) ∧ W.cell? ⟨b, o + j * 7, none⟩ = some (.string (mtx K))) (by kernel_rfl) (⟨HB.out.trans ((below_drewN' _ 1).mono HB.out.size), ((HCJ.out.below HB.out hb).below (below_drewN' _ 1) (Nat.lt_of_lt_of_le hb HB.out.size)).c0⟩) (fun hHeld => ?_)
      refine wpAnyH_take (i := 0) (oi := { dst := some 12, op := _, type := _, pos := _, after := _, guard := _ }) (v := (.slice (some ⟨b, o, none⟩) n cap)) rfl (by kernel_rfl) (by kernel_rfl) (by kernel_rfl) (fun _ _ _ h => h) (Or.inl ⟨by rfl, ?hy1⟩) (by assumption) ?rest1
      case hy1 =>
        intro w9 hS9
        obtain ⟨-, y0⟩ := hS9
        go_simp
        try with_reducible rfl
      try simp only [Act.put, List.setIfInBounds_toArray, List.set_cons_zero, List.set_cons_succ]
      refine wpAnyH_take (i := 1) (oi := { dst := some 13, op := _, type := _, pos := _, after := _, guard := _ }) (v := (.int .i64 (j : Int))) rfl (by kernel_rfl) (by kernel_rfl) (by kernel_rfl) (fun _ _ _ h => h) (Or.inl ⟨by rfl, ?hy2⟩) (by assumption) ?rest2
      case hy2 =>
        intro w9 hS9
        obtain ⟨-, y0⟩ := hS9
        go_simp
        try with_reducible rfl
      try simp only [Act.put, List.setIfInBounds_toArray, List.set_cons_zero, List.set_cons_succ]
      refine wpAnyH_take (i := 2) (oi := { dst := some 14, op := _, type := _, pos := _, after := _, guard := _ }) (v := (.pointer (some ⟨b, o + j * 7, none⟩))) rfl (by kernel_rfl) (by kernel_rfl) (by kernel_rfl) (fun _ _ _ h => h) (Or.inl ⟨by rfl, ?hy3⟩) (by assumption) ?rest3
      case hy3 =>
        intro w9 hS9
        obtain ⟨-, y0⟩ := hS9
        go_simp
        try with_reducible rfl
      try simp only [Act.put, List.setIfInBounds_toArray, List.set_cons_zero, List.set_cons_succ]
      refine wpAnyH_take (i := 3) (oi := { dst := some 15, op := _, type := _, pos := _, after := _, guard := _ }) (v := (.pointer (some ⟨b, o + j * 7, none⟩))) rfl (by kernel_rfl) (by kernel_rfl) (by kernel_rfl) (fun _ _ _ h => h) (Or.inl ⟨by rfl, ?hy4⟩) (by assumption) ?rest4
      case hy4 =>
        intro w9 hS9
        obtain ⟨-, y0⟩ := hS9
        go_simp
        try with_reducible rfl
      try simp only [Act.put, List.setIfInBounds_toArray, List.set_cons_zero, List.set_cons_succ]
      refine wpAnyH_take (i := 4) (oi := { dst := some 16, op := _, type := _, pos := _, after := _, guard := _ }) (v := (.string (mtx K))) rfl (by kernel_rfl) (by kernel_rfl) (by kernel_rfl) (fun _ _ _ h => h) (Or.inl ⟨by rfl, ?hy5⟩) (by assumption) ?rest5
      case hy5 =>
        intro w9 hS9
        obtain ⟨-, y0⟩ := hS9
        go_simp
        try with_reducible rfl
      try simp only [Act.put, List.setIfInBounds_toArray, List.set_cons_zero, List.set_cons_succ]
      refine wpAnyH_take (i := 5) (oi := { dst := some 17, op := _, type := _, pos := _, after := _, guard := _ }) (v := (.int .i64 (K : Int))) rfl (by kernel_rfl) (by kernel_rfl) (by kernel_rfl) (fun _ _ _ h => h) (Or.inl ⟨by rfl, ?hy6⟩) (by assumption) ?rest6
      case hy6 =>
        intro w9 hS9
        obtain ⟨-, y0⟩ := hS9
        go_simp
        try with_reducible rfl
      try simp only [Act.put, List.setIfInBounds_toArray, List.set_cons_zero, List.set_cons_succ]
      refine wpAnyH_ready (rs := [6]) (by kernel_rfl) (by simp) ?_
      refine AllReadyH.cons (o := { dst := some 18, op := _, type := _, pos := _, after := _, guard := _ }) rfl (fun KK hK => ?_) AllReadyH.nil
      go_simp
      refine (hm0.out _).mono ?_
      rintro e w4 ⟨rfl, b4⟩
      have HB4 : Hid (Below w.heap.size w w4) := (HB.out.trans ((below_drewN' _ 1).mono HB.out.size)).trans (b4.mono HB.out.size)
      clear b4
      refine hK.out _ _ ((show Hid (Below w.heap.size w w4) ∧ w4.cell? ⟨b, o + j * 7, none⟩ = some (.string (mtx K)) from ⟨HB4, (HCJ.out.below HB4.out hb).c0⟩)) (fun hx9 => ?_)
      clear hK KK hHeld hx9
      have hHeld := (show Hid (Below w.heap.size w w4) ∧ w4.cell? ⟨b, o + j * 7, none⟩ = some (.string (mtx K)) from ⟨HB4, (HCJ.out.below HB4.out hb).c0⟩)
      try simp only [Act.put, List.setIfInBounds_toArray, List.set_cons_zero, List.set_cons_succ]
      refine wpAnyH_take (i := 7) (oi := { dst := some 19, op := _, type := _, pos := _, after := _, guard := _ }) (v := (.bool false)) rfl (by kernel_rfl) (by kernel_rfl) (by kernel_rfl) (fun _ _ _ h => h) (Or.inl ⟨by rfl, ?hy7⟩) (by assumption) ?rest7
      case hy7 =>
        intro w9 hS9
        go_simp
        try with_reducible rfl
      try simp only [Act.put, List.setIfInBounds_toArray, List.set_cons_zero, List.set_cons_succ]
      refine wpAnyH_done (by kernel_rfl) ?_ _
      clear hHeld
      go_wp2
      refine wp_region_held_drew (S := fun W => Hid (Below w.heap.size w W) ∧ W.cell? ⟨b, o + j * 7 + 1, none⟩ = some (.string (mtx (K + 1)))) (by kernel_rfl) (⟨HB4.out.trans ((below_drewN' _ 1).mono HB4.out.size), ((HCJ.out.below HB4.out hb).below (below_drewN' _ 1) (Nat.lt_of_lt_of_le hb HB4.out.size)).c1⟩) (fun hHeld => ?_)
      refine wpAnyH_take (i := 0) (oi := { dst := some 22, op := _, type := _, pos := _, after := _, guard := _ }) (v := (.slice (some ⟨b, o, none⟩) n cap)) rfl (by kernel_rfl) (by kernel_rfl) (by kernel_rfl) (fun _ _ _ h => h) (Or.inl ⟨by rfl, ?hy8⟩) (by assumption) ?rest8
      case hy8 =>
        intro w9 hS9
        obtain ⟨-, y0⟩ := hS9
        go_simp
        try with_reducible rfl
      try simp only [Act.put, List.setIfInBounds_toArray, List.set_cons_zero, List.set_cons_succ]
      refine wpAnyH_take (i := 1) (oi := { dst := some 23, op := _, type := _, pos := _, after := _, guard := _ }) (v := (.int .i64 (j : Int))) rfl (by kernel_rfl) (by kernel_rfl) (by kernel_rfl) (fun _ _ _ h => h) (Or.inl ⟨by rfl, ?hy9⟩) (by assumption) ?rest9
      case hy9 =>
        intro w9 hS9
        obtain ⟨-, y0⟩ := hS9
        go_simp
        try with_reducible rfl
      try simp only [Act.put, List.setIfInBounds_toArray, List.set_cons_zero, List.set_cons_succ]
      refine wpAnyH_take (i := 2) (oi := { dst := some 24, op := _, type := _, pos := _, after := _, guard := _ }) (v := (.pointer (some ⟨b, o + j * 7, none⟩))) rfl (by kernel_rfl) (by kernel_rfl) (by kernel_rfl) (fun _ _ _ h => h) (Or.inl ⟨by rfl, ?hy10⟩) (by assumption) ?rest10
      case hy10 =>
        intro w9 hS9
        obtain ⟨-, y0⟩ := hS9
        go_simp
        try with_reducible rfl
      try simp only [Act.put, List.setIfInBounds_toArray, List.set_cons_zero, List.set_cons_succ]
      refine wpAnyH_take (i := 3) (oi := { dst := some 25, op := _, type := _, pos := _, after := _, guard := _ }) (v := (.pointer (some ⟨b, o + j * 7 + 1, none⟩))) rfl (by kernel_rfl) (by kernel_rfl) (by kernel_rfl) (fun _ _ _ h => h) (Or.inl ⟨by rfl, ?hy11⟩) (by assumption) ?rest11
      case hy11 =>
        intro w9 hS9
        obtain ⟨-, y0⟩ := hS9
        go_simp
        try with_reducible rfl
      try simp only [Act.put, List.setIfInBounds_toArray, List.set_cons_zero, List.set_cons_succ]
      refine wpAnyH_take (i := 4) (oi := { dst := some 26, op := _, type := _, pos := _, after := _, guard := _ }) (v := (.string (mtx (K + 1)))) rfl (by kernel_rfl) (by kernel_rfl) (by kernel_rfl) (fun _ _ _ h => h) (Or.inl ⟨by rfl, ?hy12⟩) (by assumption) ?rest12
      case hy12 =>
        intro w9 hS9
        obtain ⟨-, y0⟩ := hS9
        go_simp
        try with_reducible rfl
      try simp only [Act.put, List.setIfInBounds_toArray, List.set_cons_zero, List.set_cons_succ]
      refine wpAnyH_take (i := 5) (oi := { dst := some 27, op := _, type := _, pos := _, after := _, guard := _ }) (v := (.int .i64 ((K : Int) + 1))) rfl (by kernel_rfl) (by kernel_rfl) (by kernel_rfl) (fun _ _ _ h => h) (Or.inl ⟨by rfl, ?hy13⟩) (by assumption) ?rest13
      case hy13 =>
        intro w9 hS9
        obtain ⟨-, y0⟩ := hS9
        go_simp
        try with_reducible rfl
      try simp only [Act.put, List.setIfInBounds_toArray, List.set_cons_zero, List.set_cons_succ]
      refine wpAnyH_ready (rs := [6]) (by kernel_rfl) (by simp) ?_
      refine AllReadyH.cons (o := { dst := some 28, op := _, type := _, pos := _, after := _, guard := _ }) rfl (fun KK hK => ?_) AllReadyH.nil
      go_simp
      refine (hm1.out _).mono ?_
      rintro e w5 ⟨rfl, b5⟩
      have HB5 : Hid (Below w.heap.size w w5) := (HB4.out.trans ((below_drewN' _ 1).mono HB4.out.size)).trans (b5.mono HB4.out.size)
      clear b5
      refine hK.out _ _ ((show Hid (Below w.heap.size w w5) ∧ w5.cell? ⟨b, o + j * 7 + 1, none⟩ = some (.string (mtx (K + 1))) from ⟨HB5, (HCJ.out.below HB5.out hb).c1⟩)) (fun hx9 => ?_)
      clear hK KK hHeld hx9
      have hHeld := (show Hid (Below w.heap.size w w5) ∧ w5.cell? ⟨b, o + j * 7 + 1, none⟩ = some (.string (mtx (K + 1))) from ⟨HB5, (HCJ.out.below HB5.out hb).c1⟩)
      try simp only [Act.put, List.setIfInBounds_toArray, List.set_cons_zero, List.set_cons_succ]
      refine wpAnyH_take (i := 7) (oi := { dst := some 29, op := _, type := _, pos := _, after := _, guard := _ }) (v := (.bool false)) rfl (by kernel_rfl) (by kernel_rfl) (by kernel_rfl) (fun _ _ _ h => h) (Or.inl ⟨by rfl, ?hy14⟩) (by assumption) ?rest14
      case hy14 =>
        intro w9 hS9
        go_simp
        try with_reducible rfl
      try simp only [Act.put, List.setIfInBounds_toArray, List.set_cons_zero, List.set_cons_succ]
      refine wpAnyH_done (by kernel_rfl) ?_ _
      clear hHeld
      obtain ⟨-, -, y2, y3, y4, y5, y6⟩ := HCJ.out.below HB5.out hb
      unfold mkN at y2 y3 y4 y5 y6
      simp only at y2 y3 y4 y5 y6
      go_wp2
      exact ⟨⟨j + 1, K + 7, by omega, by have := HKE.out; omega, by go_num, by go_num, HB5⟩, by simp [intOf]; omega⟩
    · have hjn : j = n := by omega
      subst hjn
      subst hK
      go_wp2
      go_ret
      exact ⟨rfl, HB.out⟩

set_option maxHeartbeats 400000 in
theorem heldNodeS_nil (w : World) (ao : Option Addr) (cap k : Nat) : Calls Tryd.prog 121 #[.slice ao 0 cap, .int .i64 k] w fun e w' => e = .returned (.int .i64 k) ∧ w' = w := by
  go_enter Tryd.func121, Tryd.ntmps121
  go_wp2
  go_rounds 1
  go_ret
  exact ⟨rfl, rfl⟩

theorem heldNodeS_any (w : World) (v : Value) (k n : Nat) (h : RdN w v (mkNs k n)) (hk : k ≤ 1048576) (hn : n ≤ 1048576) :
    Calls Tryd.prog 121 #[v, .int .i64 k] w fun e w' => e = .returned (.int .i64 ((k + 7 * n : Nat) : Int)) ∧ Below w.heap.size w w' := by
  obtain ⟨ao, cap, rfl, h1, h2, h3⟩ := h
  rw [mkNs_len] at h1 h3 ⊢
  rcases h3 with h3 | ⟨b, o, rfl, hb, hc⟩
  · have : n = 0 := by have := congrArg List.length h3; rw [mkNs_len] at this; exact this
    subst this
    refine (heldNodeS_nil w ao cap k).mono ?_
    rintro e w' ⟨rfl, rfl⟩
    exact ⟨rfl, Below.refl _ _⟩
  · exact heldNodeS_row w b o n cap k hb hc hk hn

end Go.Proofs.YtcopcegamadkgaaDoor

namespace Go.Proofs.YtcopcegamadkgaaDoor
open Go.RowKit Go.Shelf

theorem OwnN.belowM {w w' : World} {lo m : Nat} {v : Value} {ns : List Nd} (h : OwnN 84 w lo v ns) (hb : Below m w w') (hlt : ∀ g, v.ownBlock = some g → g < m) : OwnN 84 w' lo v ns := by
  refine ⟨h.1, ?_⟩
  rcases h.2 with hn | ⟨g, cap, cur, rfl, hbg, hgg, rest⟩
  · exact .inl hn
  · exact .inr ⟨g, cap, cur, rfl, hbg, (hb.block g (hlt g rfl)).trans hgg, rest⟩

set_option maxHeartbeats 400000 in
theorem heldTree_any (w : World) (k n : Nat) (v : Value) (h : RdN w v (mkNs k n)) (hk : k ≤ 1048576) (hn : n ≤ 1048576) :
    Calls Tryd.prog 80 #[.agg #[v], .int .i64 k] w fun e w' => e = .returned (.int .i64 ((k + 7 * n : Nat) : Int)) ∧ Below w.heap.size w w' := by
  have B0 : Hid (Below w.heap.size w (w.alloc (.cells #[v] 36))) := (Below.refl _ _).alloc (Nat.le_refl _) _
  have H : Hid (RdN (w.alloc (.cells #[v] 36)) v (mkNs k n)) := h.below B0.out
  clear h
  go_enter Tryd.func80, Tryd.ntmps80
  go_wp2_with fail
  refine (heldNodeS_any _ _ k n H.out hk hn).mono ?_
  rintro e w1 ⟨rfl, b1⟩
  have B1 : Hid (Below w.heap.size w w1) := B0.out.trans (b1.mono (by simp))
  have hI : ¬ ((k + 7 * n : Nat) : Int) < 0 := by omega
  clear b1
  go_wp2
  go_ret
  exact ⟨rfl, B1.out⟩

end Go.Proofs.YtcopcegamadkgaaDoor

namespace Go.Proofs.YtcopcegamadkgaaDoor
open Go.RowKit Go.Shelf

/-- Of the blocks that were there only one has turned. -/
def Onl (w : World) (row : Option Nat) (w' : World) : Prop := w.heap.size ≤ w'.heap.size ∧ ∀ b, b < w.heap.size → some b ≠ row → w'.heap[b]? = w.heap[b]?
theorem Onl.refl (w : World) (row : Option Nat) : Onl w row w := ⟨Nat.le_refl _, fun _ _ _ => rfl⟩
theorem Onl.grown {w w1 w2 : World} {row : Option Nat} (h : Onl w row w1) (hg : w1.grownBy w2 row) : Onl w row w2 := ⟨Nat.le_trans h.1 hg.size, fun b hb hne => (hg.block b (Nat.lt_of_lt_of_le hb h.1) hne).trans (h.2 b hb hne)⟩
theorem Onl.below {w w1 w2 : World} {row : Option Nat} (h : Onl w row w1) (hb : Below w1.heap.size w1 w2) : Onl w row w2 := ⟨Nat.le_trans h.1 hb.size, fun b hl hne => (hb.block b (Nat.lt_of_lt_of_le hl h.1)).trans (h.2 b hl hne)⟩
theorem Onl.after {w w1 w2 : World} {row : Option Nat} (hb : Below w.heap.size w w1) (h : Onl w1 row w2) : Onl w row w2 := ⟨Nat.le_trans hb.size h.1, fun b hl hne => (h.2 b (Nat.lt_of_lt_of_le hl hb.size) hne).trans (hb.block b hl)⟩
theorem OwnN.onl {w w' : World} {lo : Nat} {v : Value} {ns : List Nd} {row : Option Nat} (h : OwnN 84 w lo v ns) (ho : Onl w row w') (hne : ∀ g, v.ownBlock = some g → row ≠ some g) : OwnN 84 w' lo v ns := by
  refine ⟨h.1, ?_⟩
  rcases h.2 with hn | ⟨g, cap, cur, rfl, hbg, hgg, rest⟩
  · exact .inl hn
  · exact .inr ⟨g, cap, cur, rfl, hbg, (ho.2 g (Array.getElem?_eq_some_iff.1 hgg).1 (fun e => hne g rfl e.symm)).trans hgg, rest⟩
/-- A row of nodes on the way. -/
def RowO (w : World) (lo g n cap : Nat) (us : List Value) (w' : World) : Prop := w'.ownsRow lo 84 7 (.slice (some ⟨g, 0, none⟩) n cap) n us ∧ Below lo w w' ∧ KT 84 w w' ∧ Onl w (some g) w'
theorem RowO.set {w w' : World} {lo g n cap : Nat} {us : List Value} (h : RowO w lo g n cap us w') (i : Nat) (u : Value) : RowO w lo g n cap (us.set i u) (w'.setCell ⟨g, i, none⟩ u) := by
  obtain ⟨h1, h2, h3, h4⟩ := h
  have hs := World.ownsRow.stored h1 i u
  exact ⟨hs.1, h2.setCell (World.ownsRow.lt h1 g rfl).1 _, h3.grown h1 hs.2, h4.grown hs.2⟩
theorem RowO.below {w w' w2 : World} {lo g n cap : Nat} {us : List Value} (h : RowO w lo g n cap us w') (hb : Below w'.heap.size w' w2) : RowO w lo g n cap us w2 := by
  obtain ⟨h1, h2, h3, h4⟩ := h
  refine ⟨row_keep h1 hb, h2.trans (hb.mono ?_), h3.below hb, h4.below hb⟩
  have := World.ownsRow.lt h1 g rfl
  omega
theorem RowO.cell {w w' : World} {lo g n cap : Nat} {us : List Value} (h : RowO w lo g n cap us w') (i : Nat) (hi : i < n * 7) : ∃ u, w'.cell? ⟨g, i, none⟩ = some u ∧ w'.frozen? ⟨g, i, none⟩ = false := rowcell h.1 i hi

set_option maxHeartbeats 2000000 in
set_option maxRecDepth 100000 in
theorem markNodeO_row (w : World) (lo g n cap k : Nat) (ns : List Nd) (hp : ns.length = n) (ho : w.ownsRow lo 84 7 (.slice (some ⟨g, 0, none⟩) n cap) n (nrow ns)) (hk : k ≤ 1048576) (hn : n ≤ 1048576) :
    Calls Tryd.prog 79 #[.slice (some ⟨g, 0, none⟩) n cap, .int .i64 k] w fun e w' => e = .returned (.int .i64 ((k + 7 * n : Nat) : Int)) ∧ RowO w lo g n cap (nrow (mkNs k n)) w' := by
  have R0 : Hid (RowO w lo g n cap (nrow (mkMix k ns 0)) w) := ⟨by unfold mkMix mkNs; simpa using ho, Below.refl _ _, KT.refl _ _, Onl.refl _ _⟩
  have HP : Hid (ns.length = n) := hp
  clear ho hp
  go_enter Tryd.func79, Tryd.ntmps79
  go_wp2
  go_loopw [1, 5] (fun vk vi wr => ∃ j K : Nat, j ≤ n ∧ K = k + 7 * j ∧ vi = .int .i64 j ∧ vk = .int .i64 K ∧ Hid (RowO w lo g n cap (nrow (mkMix k ns j)) wr)) (fun _ i _ => n - (intOf i).toNat)
  case atStart => exact ⟨0, k, Nat.zero_le _, by omega, rfl, rfl, R0⟩
  case round =>
    obtain ⟨j, K, hj, hK, rfl, rfl, HR⟩ := hrel
    have HKE : Hid (K = k + 7 * j) := hK
    by_cases hlt : j < n
    · have hltI : (j : Int) < (n : Int) := by omega
      have hK2 : K ≤ 10000000 := by omega
      have HS : Hid (set7 (nrow (mkMix k ns j)) (j * 7) (mkN K) = nrow (mkMix k ns (j + 1))) := by
        show _ = _
        rw [nrow_set _ _ _ (by rw [mkMix_len _ _ _ (by rw [HP.out]; omega), HP.out]; exact hlt), hK, mkMix_set _ _ _ (by rw [HP.out]; exact hlt)]
      generalize nrow (mkMix k ns j) = us at *
      clear hK
      go_wp2_with fail
      refine (markText_any _ K (by omega)).mono ?_
      rintro e w1 ⟨rfl, b1⟩
      have R1 : Hid (RowO w lo g n cap us w1) := HR.out.below b1
      clear b1 HR
      obtain ⟨x0, d0, f0⟩ := R1.out.cell (j * 7) (by omega)
      have R2 : Hid (RowO w lo g n cap (us.set (j * 7) (.string (mtx K))) (w1.setCell ⟨g, j * 7, none⟩ (.string (mtx K)))) := R1.out.set _ _
      go_wp2_with fail
      generalize w1.setCell ⟨g, j * 7, none⟩ (.string (mtx K)) = w2 at *
      clear d0 f0 R1
      have hm := markText_any w2 (K + 1) (by omega)
      rw [show ((K + 1 : Nat) : Int) = (K : Int) + 1 by omega] at hm
      refine hm.mono ?_
      clear hm
      rintro e w3 ⟨rfl, b3⟩
      have R3 : Hid (RowO w lo g n cap (us.set (j * 7) (.string (mtx K))) w3) := R2.out.below b3
      clear b3 R2
      obtain ⟨x1, d1, f1⟩ := R3.out.cell (j * 7 + 1) (by omega)
      obtain ⟨x2, d2, f2⟩ := R3.out.cell (j * 7 + 2) (by omega)
      obtain ⟨x3, d3, f3⟩ := R3.out.cell (j * 7 + 3) (by omega)
      obtain ⟨x4, d4, f4⟩ := R3.out.cell (j * 7 + 4) (by omega)
      obtain ⟨x5, d5, f5⟩ := R3.out.cell (j * 7 + 5) (by omega)
      obtain ⟨x6, d6, f6⟩ := R3.out.cell (j * 7 + 6) (by omega)
      go_wp2
      refine ⟨⟨j + 1, K + 7, by omega, by have := HKE.out; omega, by go_num, by go_num, ?_⟩, by simp [intOf]; omega⟩
      show RowO _ _ _ _ _ _ _
      rw [← HS.out]
      exact ((((((R3.out.set _ _).set _ _).set _ _).set _ _).set _ _).set _ _)
    · have hjn : j = n := by omega
      subst hjn
      subst hK
      have HF : Hid (RowO w lo g j cap (nrow (mkNs k j)) wr) := by have := HR.out; rw [← HP.out, mkMix_all, HP.out] at this; exact this
      go_wp2
      go_ret
      exact ⟨rfl, HF.out⟩

theorem markNodeO_any (w : World) (lo k : Nat) (v : Value) (ns : List Nd) (h : OwnN 84 w lo v ns) (hk : k ≤ 1048576) (hn : ns.length ≤ 1048576) :
    Calls Tryd.prog 79 #[v, .int .i64 k] w fun e w' => e = .returned (.int .i64 ((k + 7 * ns.length : Nat) : Int)) ∧ OwnN 84 w' lo v (mkNs k ns.length) ∧ Below lo w w' ∧ KT 84 w w' ∧ Onl w v.ownBlock w' := by
  have h0 := h
  rcases h.2 with ⟨rfl, h1⟩ | ⟨g, cap, cur, rfl, rest⟩
  · refine (markNodeS_nil w none 0 k).mono ?_
    rintro e w' ⟨rfl, rfl⟩
    rw [h1]
    exact ⟨rfl, World.ownsRow_nil _ _ _ _, Below.refl _ _, KT.refl _ _, Onl.refl _ _⟩
  · refine (markNodeO_row w lo g ns.length cap k ns rfl h0 hk hn).mono ?_
    rintro e w' ⟨rfl, h1, h2, h3, h4⟩
    exact ⟨rfl, by unfold OwnN; rw [mkNs_len]; exact h1, h2, h3, h4⟩

set_option maxHeartbeats 400000 in
theorem markTreeO_any (w : World) (lo k : Nat) (v : Value) (ns : List Nd) (h : OwnN 84 w lo v ns) (hl : lo ≤ w.heap.size) (hk : k ≤ 1048576) (hn : ns.length ≤ 1048576) :
    Calls Tryd.prog 29 #[.agg #[v], .int .i64 k] w fun e w' => e = .returned (.int .i64 ((k + 7 * ns.length : Nat) : Int)) ∧ OwnN 84 w' lo v (mkNs k ns.length) ∧ Below lo w w' ∧ KT 84 w w' ∧ Onl w v.ownBlock w' := by
  have H : Hid (OwnN 84 w lo v ns) := h
  clear h
  go_enter Tryd.func29, Tryd.ntmps29
  go_wp2_with fail
  refine (markNodeO_any _ lo k v ns (H.out.below ((Below.refl _ _).alloc (Nat.le_refl _) _)) hk hn).mono ?_
  rintro e w1 ⟨rfl, o1, b1, k1, n1⟩
  have O1 : Hid (OwnN 84 w1 lo v (mkNs k ns.length)) := o1
  have B1 : Hid (Below lo w w1) := ((Below.refl _ _).alloc hl _).trans b1
  have K1 : Hid (KT 84 w w1) := ((KT.refl _ _).alloc _).trans k1
  have N1 : Hid (Onl w v.ownBlock w1) := Onl.after ((Below.refl _ _).alloc (Nat.le_refl _) _) n1
  clear b1 k1 o1 n1
  go_wp2
  go_ret
  exact ⟨rfl, O1.out, B1.out, K1.out, N1.out⟩

end Go.Proofs.YtcopcegamadkgaaDoor

namespace Go.Proofs.YtcopcegamadkgaaDoor
open Go.RowKit Go.Shelf

/-- A box of four cells, with its type. -/
def B4T (W : World) (b : Nat) (x0 x1 x2 x3 : Value) : Prop := W.heap[b]? = some (.cells #[x0, x1, x2, x3] 53 (0, 0))
theorem B4T.lt {W : World} {b : Nat} {x0 x1 x2 x3 : Value} (h : B4T W b x0 x1 x2 x3) : b < W.heap.size := (Array.getElem?_eq_some_iff.1 h).1
theorem B4T.new (W : World) (x0 x1 x2 x3 : Value) : B4T (W.alloc (.cells #[x0, x1, x2, x3] 53)) W.heap.size x0 x1 x2 x3 := heap_alloc_new W _
theorem B4T.below {W W' : World} {b : Nat} {x0 x1 x2 x3 : Value} (h : B4T W b x0 x1 x2 x3) (hb : Below W.heap.size W W') : B4T W' b x0 x1 x2 x3 := (hb.block _ h.lt).trans h
theorem B4T.cells {W : World} {b : Nat} {x0 x1 x2 x3 : Value} (h : B4T W b x0 x1 x2 x3) : W.cell? ⟨b, 0, none⟩ = some x0 ∧ W.cell? ⟨b, 1, none⟩ = some x1 ∧ W.cell? ⟨b, 2, none⟩ = some x2 ∧ W.cell? ⟨b, 3, none⟩ = some x3 :=
  ⟨by rw [cell_of h]; rfl, by rw [cell_of h]; rfl, by rw [cell_of h]; rfl, by rw [cell_of h]; rfl⟩

set_option maxHeartbeats 1000000 in
set_option maxRecDepth 100000 in
theorem eqRp_same (w : World) (va vb : Value) (x y z : Int) (ns : List Nd) (ha : RdN w va ns) (hb : RdN w vb ns) (hn : ns.length ≤ 1048576) :
    Calls Tryd.prog 26 #[.agg #[va, .int .i64 x, .int .i64 y, .int .i64 z], .agg #[vb, .int .i64 x, .int .i64 y, .int .i64 z]] w fun e w' => e = .returned (.bool true) ∧ Below w.heap.size w w' := by
  obtain ⟨a1, c1, rfl, _, _⟩ := ha.len
  obtain ⟨a2, c2, rfl, _, _⟩ := hb.len
  have B0 : Hid (Below w.heap.size w ((w.alloc (.cells #[.slice a1 ns.length c1, .int .i64 x, .int .i64 y, .int .i64 z] 53)).alloc (.cells #[.slice a2 ns.length c2, .int .i64 x, .int .i64 y, .int .i64 z] 53))) := ((Below.refl _ _).alloc (Nat.le_refl _) _).alloc (by simp) _
  have X1 : Hid (B4T ((w.alloc (.cells #[.slice a1 ns.length c1, .int .i64 x, .int .i64 y, .int .i64 z] 53)).alloc (.cells #[.slice a2 ns.length c2, .int .i64 x, .int .i64 y, .int .i64 z] 53)) w.heap.size (.slice a1 ns.length c1) (.int .i64 x) (.int .i64 y) (.int .i64 z)) := (B4T.new _ _ _ _ _).below ((Below.refl _ _).alloc (Nat.le_refl _) _)
  have X2 : Hid (B4T ((w.alloc (.cells #[.slice a1 ns.length c1, .int .i64 x, .int .i64 y, .int .i64 z] 53)).alloc (.cells #[.slice a2 ns.length c2, .int .i64 x, .int .i64 y, .int .i64 z] 53)) (w.heap.size + 1) (.slice a2 ns.length c2) (.int .i64 x) (.int .i64 y) (.int .i64 z)) := by
    have := B4T.new (w.alloc (.cells #[.slice a1 ns.length c1, .int .i64 x, .int .i64 y, .int .i64 z] 53)) (.slice a2 ns.length c2) (.int .i64 x) (.int .i64 y) (.int .i64 z)
    rw [World.size_alloc] at this
    exact this
  have RA : Hid (RdN w (.slice a1 ns.length c1) ns) := ha
  have RB : Hid (RdN w (.slice a2 ns.length c2) ns) := hb
  clear ha hb
  go_enter Tryd.func26, Tryd.ntmps26
  go_wp2_with fail
  generalize (w.alloc (.cells #[.slice a1 ns.length c1, .int .i64 x, .int .i64 y, .int .i64 z] 53)).alloc (.cells #[.slice a2 ns.length c2, .int .i64 x, .int .i64 y, .int .i64 z] 53) = w0 at *
  refine (eqTree_same _ _ _ ns (RA.out.below B0.out) (RB.out.below B0.out) hn).mono ?_
  rintro e w1 ⟨rfl, b1⟩
  have B1 : Hid (Below w.heap.size w w1) := B0.out.trans (b1.mono B0.out.size)
  obtain ⟨-, c1', c2', c3'⟩ := (X1.out.below b1).cells
  obtain ⟨-, d1', d2', d3'⟩ := (X2.out.below b1).cells
  clear b1
  go_wp2
  go_ret
  exact ⟨rfl, B1.out⟩

set_option maxHeartbeats 1000000 in
theorem markRp_any (w : World) (lo k : Nat) (v : Value) (x y z : Int) (ns : List Nd) (h : OwnN 84 w lo v ns) (hl : lo ≤ w.heap.size) (hk : k ≤ 1048576) (hn : ns.length ≤ 1048576) :
    Calls Tryd.prog 31 #[.agg #[v, .int .i64 x, .int .i64 y, .int .i64 z], .int .i64 k] w fun e w' => e = .returned (.int .i64 ((k + 7 * ns.length : Nat) : Int)) ∧ OwnN 84 w' lo v (mkNs k ns.length) ∧ Below lo w w' ∧ KT 84 w w' := by
  obtain ⟨va, vc, rfl⟩ := OwnN.slice9 h
  have HO : Hid (OwnN 84 w lo (.slice va ns.length vc) ns) := h
  have bA : Hid (Below w.heap.size w (w.alloc (.cells #[.slice va ns.length vc, .int .i64 x, .int .i64 y, .int .i64 z] 53))) := (Below.refl _ _).alloc (Nat.le_refl _) _
  have kA : Hid (KT 84 w (w.alloc (.cells #[.slice va ns.length vc, .int .i64 x, .int .i64 y, .int .i64 z] 53))) := (KT.refl _ _).alloc _
  clear h
  go_enter Tryd.func31, Tryd.ntmps31
  go_wp2_with fail
  generalize w.alloc (.cells #[.slice va ns.length vc, .int .i64 x, .int .i64 y, .int .i64 z] 53) = w0 at *
  refine (markTreeO_any _ lo k _ ns (HO.out.below bA.out) (Nat.le_trans hl bA.out.size) hk hn).mono ?_
  rintro e w1 ⟨rfl, o1, b1, t1, -⟩
  have O1 : Hid (OwnN 84 w1 lo (.slice va ns.length vc) (mkNs k ns.length)) := o1
  have B1 : Hid (Below lo w w1) := (bA.out.mono hl).trans b1
  have K1 : Hid (KT 84 w w1) := kA.out.trans t1
  clear o1 b1 t1
  go_wp2
  go_ret
  exact ⟨ret_int (by omega), O1.out, B1.out, K1.out⟩

set_option maxHeartbeats 1000000 in
theorem heldRp_any (w : World) (k n : Nat) (va : Option Addr) (vl vc : Nat) (x y z : Int) (h : RdN w (.slice va vl vc) (mkNs k n)) (hk : k ≤ 1048576) (hn : n ≤ 1048576) :
    Calls Tryd.prog 32 #[.agg #[.slice va vl vc, .int .i64 x, .int .i64 y, .int .i64 z], .int .i64 k] w fun e w' => e = .returned (.int .i64 ((k + 7 * n : Nat) : Int)) ∧ Below w.heap.size w w' := by
  have HO : Hid (RdN w (.slice va vl vc) (mkNs k n)) := h
  have bA : Hid (Below w.heap.size w (w.alloc (.cells #[.slice va vl vc, .int .i64 x, .int .i64 y, .int .i64 z] 53))) := (Below.refl _ _).alloc (Nat.le_refl _) _
  clear h
  go_enter Tryd.func32, Tryd.ntmps32
  go_wp2_with fail
  generalize w.alloc (.cells #[.slice va vl vc, .int .i64 x, .int .i64 y, .int .i64 z] 53) = w0 at *
  refine (heldTree_any _ k n _ (HO.out.below bA.out) hk hn).mono ?_
  rintro e w1 ⟨rfl, b1⟩
  have B1 : Hid (Below w.heap.size w w1) := bA.out.trans (b1.mono bA.out.size)
  clear b1
  go_wp2
  go_ret
  exact ⟨ret_int (by omega), B1.out⟩

end Go.Proofs.YtcopcegamadkgaaDoor

namespace Go.Proofs.YtcopcegamadkgaaDoor
open Go.RowKit Go.Shelf

theorem KT.own {w w' : World} {lo : Nat} {v : Value} {xs : List Int} (h : KT 84 w w') (ho : Own .u8 5 w lo v xs) : Own .u8 5 w' lo v xs := by
  rcases ho.2 with ⟨rfl, h0⟩ | ⟨g, cap, cur, rfl, hb, hg, r⟩
  · exact ⟨ho.1, .inl ⟨rfl, h0⟩⟩
  · exact ⟨ho.1, .inr ⟨g, cap, cur, rfl, hb, h.box hg (by decide), r⟩⟩
theorem OwnN.belowB9 {w w' : World} {lo B : Nat} {v : Value} {ns : List Nd} (h : OwnN 84 w lo v ns) (hb : Below B w w') (hv : ∀ g, v.ownBlock = some g → g < B) : OwnN 84 w' lo v ns := by
  rcases h.2 with ⟨rfl, h0⟩ | ⟨g, cap, cur, rfl, hb', hg, r⟩
  · exact ⟨h.1, .inl ⟨rfl, h0⟩⟩
  · exact ⟨h.1, .inr ⟨g, cap, cur, rfl, hb', (hb.block g (hv g rfl)).trans hg, r⟩⟩

set_option linter.unusedSimpArgs false in
set_option maxHeartbeats 4000000 in
set_option maxRecDepth 100000 in
theorem lawReplay_walk (w : World) (v : Value) (ns : List Nd) (h : InT w v ns) (st : Int) (va : Value) (xs : List Int) (hx : Rd .u8 w va xs) (hby : Byt xs) :
    Calls Tryd.prog 5 #[.agg #[v], .int .i64 st, va] w fun e w' => e = .returned (.bool true) ∧ Below w.heap.size w w' := by
  obtain ⟨hr, hsz⟩ := h
  obtain ⟨ao, ca, rfl, _, _⟩ := hr.len
  obtain ⟨xo, cx, rfl, hl1, hl2⟩ := hx.len
  unfold maxLen at hl2
  have B0 : Hid (Below w.heap.size w (w.alloc (.cells #[.slice ao ns.length ca] 50))) := (Below.refl _ _).alloc (Nat.le_refl _) _
  have X0 : Hid (Boxed (w.alloc (.cells #[.slice ao ns.length ca] 50)) w.heap.size 50 (.slice ao ns.length ca)) := Boxed.new _ _ _
  have HR : Hid (RdN w (.slice ao ns.length ca) ns) := hr
  have HZ : Hid (∀ i, (nAt ns i).path.size ≤ maxLen ∧ (nAt ns i).data.size ≤ maxLen) := hsz
  have HA : Hid (Rd .u8 w (.slice xo xs.length cx) xs) := hx
  have HBY : Hid (Byt xs) := hby
  clear hr hsz hx hby
  by_cases hbig : 1048576 < xs.length
  · have hbI : (1048576 : Int) < (xs.length : Int) := by omega
    go_enter Tryd.func5, Tryd.ntmps5
    go_wp2
    go_ret
    exact ⟨rfl, B0.out⟩
  have hbI : ¬ (1048576 : Int) < (xs.length : Int) := by omega
  go_enter Tryd.func5, Tryd.ntmps5
  go_wp2_with fail
  generalize w.alloc (.cells #[.slice ao ns.length ca] 50) = w0 at *
  refine (szTree_any _ _ ns (HR.out.below B0.out) HZ.out 1048576 (by omega) (by omega)).mono ?_
  rintro e w1 ⟨r, rfl, hsz, b1⟩
  have B1 : Hid (Below w.heap.size w w1) := B0.out.trans (b1.mono B0.out.size)
  have XT1 : Hid (Boxed w1 w.heap.size 50 (.slice ao ns.length ca)) := boxed_below b1 X0.out
  have zw1 : w.heap.size < w1.heap.size := XT1.out.lt
  clear b1 X0 B0
  by_cases hneg : r < 0
  · clear hsz
    go_wp2
    go_ret
    exact ⟨rfl, B1.out⟩
  have hsz' : r + ns.length + totN ns = 1048576 := by omega
  have hn : ns.length ≤ 1048576 := by omega
  have hd : Hid (∀ i, (nAt ns i).path.size ≤ 1048576 ∧ (nAt ns i).data.size ≤ 1048576) := fun i => by have := totN_ge ns i; omega
  clear hsz hsz'
  obtain ⟨rs, zx, cn, en, HS, HI, hrl⟩ : ∃ (rs : List Nd) (zx cn en : Int), Hid (∀ (W : World) (ta : Option Addr) (tc : Nat) (ya : Option Addr) (yc : Nat), RdN W (.slice ta ns.length tc) ns → Rd .u8 W (.slice ya xs.length yc) xs → Calls Tryd.prog 22 #[.agg #[.slice ta ns.length tc], .int .i64 st, .slice ya xs.length yc] W fun e w' => ∃ va vc, e = .returned (.agg #[.slice va rs.length vc, .int .i64 zx, .int .i64 cn, .int .i64 en]) ∧ OwnN 84 w' W.heap.size (.slice va rs.length vc) rs ∧ Below W.heap.size W w') ∧
      Hid (∀ (W : World) (ta : Option Addr) (tc : Nat) (ya : Option Addr) (yc lo : Nat), RdN W (.slice ta ns.length tc) ns → Own .u8 5 W lo (.slice ya xs.length yc) xs → Calls Tryd.prog 25 #[.agg #[.slice ta ns.length tc], .int .i64 st, .slice ya xs.length yc] W fun e w' => ∃ va vc, e = .returned (.agg #[.slice va rs.length vc, .int .i64 zx, .int .i64 cn, .int .i64 en]) ∧ OwnN 84 w' W.heap.size (.slice va rs.length vc) rs ∧ Below W.heap.size W w') ∧ rs.length ≤ 2000 := by
    refine ⟨(rpR ns st xs).1, (rpR ns st xs).2.1, (((rpR ns st xs).2.2 : Nat) : Int), rpE ns st xs, ?_, ?_, rpR_sz.1⟩
    · intro W ta tc ya yc h1 h2
      exact specReplay_any W ta tc ns st ya yc xs h1 hn hd.out h2 HBY.out (by omega)
    · intro W ta tc ya yc lo h1 h2
      refine implReplay_any W ta tc ns st ya yc xs h1 hn hd.out h2.rd HBY.out (by omega) ?_
      rcases h2.2 with ⟨h, h0⟩ | ⟨g, cap, cur, h, -⟩
      · simp only [Value.slice.injEq] at h
        exact .inl ⟨h.1, h.2.1, h.2.2⟩
      · simp only [Value.slice.injEq] at h
        exact .inr ⟨g, 0, h.1⟩
  have c0 := XT1.out.cell
  go_wp2_with fail
  clear c0
  refine (toTree_any _ _ ns (HR.out.below B1.out) hn).mono ?_
  rintro e w2 ⟨ta, tc, rfl, o2, b2⟩
  have T2 : Hid (RdN w2 (.slice ta ns.length tc) ns) := o2.rd
  clear o2
  have s2 := b2.size
  have B2 : Hid (Below w.heap.size w w2) := B1.out.trans (b2.mono B1.out.size)
  have XT2 : Hid (Boxed w2 w.heap.size 50 (.slice ao ns.length ca)) := boxed_below b2 XT1.out
  clear b2 B1 XT1
  go_wp2_with fail
  refine (toByteS_any _ _ xs (HA.out.below B2.out) (by omega)).mono ?_
  rintro e w3 ⟨v3, rfl, o3, b3⟩
  obtain ⟨ua, uc, rfl⟩ := Own.slice o3
  have T3 : Hid (RdN w3 (.slice ta ns.length tc) ns) := T2.out.below b3
  have U3 : Hid (Own .u8 5 w3 w2.heap.size (.slice ua xs.length uc) xs) := o3
  clear o3 T2
  have s3 := b3.size
  have B3 : Hid (Below w.heap.size w w3) := B2.out.trans (b3.mono B2.out.size)
  have XT3 : Hid (Boxed w3 w.heap.size 50 (.slice ao ns.length ca)) := boxed_below b3 XT2.out
  clear b3 B2 XT2
  go_wp2_with fail
  refine (HS.out _ _ _ _ _ T3.out U3.out.rd).mono ?_
  rintro e w4 ⟨wa, wc, rfl, o4, b4⟩
  have WO4 : Hid (OwnN 84 w4 w1.heap.size (.slice wa rs.length wc) rs) := o4.mono (by omega)
  have LW : Hid (∀ g, Value.ownBlock (.slice wa rs.length wc) = some g → g < w4.heap.size) := fun g hg => (World.ownsRow.lt WO4.out g hg).2
  clear o4 T3 U3
  have s4 := b4.size
  have B4 : Hid (Below w.heap.size w w4) := B3.out.trans (b4.mono B3.out.size)
  have XT4 : Hid (Boxed w4 w.heap.size 50 (.slice ao ns.length ca)) := boxed_below b4 XT3.out
  clear b4 B3 XT3
  have bA : Below w4.heap.size w4 (w4.alloc (.cells #[(.slice wa rs.length wc), .int .i64 zx, .int .i64 cn, .int .i64 en] 53)) := (Below.refl _ _).alloc (Nat.le_refl _) _
  have c0 := (boxed_below bA XT4.out).cell
  go_wp2_with fail
  have NB : Hid (B4T (w4.alloc (.cells #[(.slice wa rs.length wc), .int .i64 zx, .int .i64 cn, .int .i64 en] 53)) w4.heap.size (.slice wa rs.length wc) (.int .i64 zx) (.int .i64 cn) (.int .i64 en)) := B4T.new _ _ _ _ _
  have zA : w4.heap.size < (w4.alloc (.cells #[(.slice wa rs.length wc), .int .i64 zx, .int .i64 cn, .int .i64 en] 53)).heap.size := by simp
  generalize (w4.alloc (.cells #[(.slice wa rs.length wc), .int .i64 zx, .int .i64 cn, .int .i64 en] 53)) = w5 at *
  have s5 := bA.size
  have B5 : Hid (Below w.heap.size w w5) := B4.out.trans (bA.mono B4.out.size)
  have XT5 : Hid (Boxed w5 w.heap.size 50 (.slice ao ns.length ca)) := boxed_below bA XT4.out
  have WO5 : Hid (OwnN 84 w5 w1.heap.size (.slice wa rs.length wc) rs) := WO4.out.below bA
  clear bA B4 XT4 WO4
  have WB5 : Hid (B4T w5 w4.heap.size (.slice wa rs.length wc) (.int .i64 zx) (.int .i64 cn) (.int .i64 en)) := NB.out
  clear NB
  clear c0
  refine (toTree_any _ _ ns (HR.out.below B5.out) hn).mono ?_
  rintro e w6 ⟨xa, xc, rfl, o6, b6⟩
  have XO6 : Hid (OwnN 84 w6 w5.heap.size (.slice xa ns.length xc) ns) := o6
  have LX : Hid (∀ g, Value.ownBlock (.slice xa ns.length xc) = some g → g < w6.heap.size) := fun g hg => (World.ownsRow.lt XO6.out g hg).2
  clear o6
  have s6 := b6.size
  have B6 : Hid (Below w.heap.size w w6) := B5.out.trans (b6.mono B5.out.size)
  have XT6 : Hid (Boxed w6 w.heap.size 50 (.slice ao ns.length ca)) := boxed_below b6 XT5.out
  have WB6 : Hid (B4T w6 w4.heap.size (.slice wa rs.length wc) (.int .i64 zx) (.int .i64 cn) (.int .i64 en)) := WB5.out.below b6
  have WO6 : Hid (OwnN 84 w6 w1.heap.size (.slice wa rs.length wc) rs) := WO5.out.below b6
  clear b6 B5 XT5 WB5 WO5
  have bA : Below w6.heap.size w6 (w6.alloc (.cells #[(.slice xa ns.length xc)] 36)) := (Below.refl _ _).alloc (Nat.le_refl _) _
  go_wp2_with fail
  have NB : Hid (Boxed (w6.alloc (.cells #[(.slice xa ns.length xc)] 36)) w6.heap.size 36 (.slice xa ns.length xc)) := Boxed.new _ _ _
  have zA : w6.heap.size < (w6.alloc (.cells #[(.slice xa ns.length xc)] 36)).heap.size := by simp
  generalize (w6.alloc (.cells #[(.slice xa ns.length xc)] 36)) = w7 at *
  have s7 := bA.size
  have B7 : Hid (Below w.heap.size w w7) := B6.out.trans (bA.mono B6.out.size)
  have XT7 : Hid (Boxed w7 w.heap.size 50 (.slice ao ns.length ca)) := boxed_below bA XT6.out
  have WB7 : Hid (B4T w7 w4.heap.size (.slice wa rs.length wc) (.int .i64 zx) (.int .i64 cn) (.int .i64 en)) := WB6.out.below bA
  have WO7 : Hid (OwnN 84 w7 w1.heap.size (.slice wa rs.length wc) rs) := WO6.out.below bA
  have XO7 : Hid (OwnN 84 w7 w5.heap.size (.slice xa ns.length xc) ns) := XO6.out.below bA
  clear bA B6 XT6 WB6 WO6 XO6
  have XB7 : Hid (Boxed w7 w6.heap.size 36 (.slice xa ns.length xc)) := NB.out
  clear NB
  refine (toByteS_any _ _ xs (HA.out.below B7.out) (by omega)).mono ?_
  rintro e w8 ⟨v8, rfl, o8, b8⟩
  obtain ⟨ya, yc, rfl⟩ := Own.slice o8
  have YO8 : Hid (Own .u8 5 w8 w7.heap.size (.slice ya xs.length yc) xs) := o8
  have LY : Hid (∀ g, Value.ownBlock (.slice ya xs.length yc) = some g → g < w8.heap.size) := fun g hg => (YO8.out.lt g hg).2
  clear o8
  have s8 := b8.size
  have B8 : Hid (Below w.heap.size w w8) := B7.out.trans (b8.mono B7.out.size)
  have XT8 : Hid (Boxed w8 w.heap.size 50 (.slice ao ns.length ca)) := boxed_below b8 XT7.out
  have WB8 : Hid (B4T w8 w4.heap.size (.slice wa rs.length wc) (.int .i64 zx) (.int .i64 cn) (.int .i64 en)) := WB7.out.below b8
  have WO8 : Hid (OwnN 84 w8 w1.heap.size (.slice wa rs.length wc) rs) := WO7.out.below b8
  have XB8 : Hid (Boxed w8 w6.heap.size 36 (.slice xa ns.length xc)) := boxed_below b8 XB7.out
  have XO8 : Hid (OwnN 84 w8 w5.heap.size (.slice xa ns.length xc) ns) := XO7.out.below b8
  clear b8 B7 XT7 WB7 WO7 XB7 XO7
  have c0 := XB8.out.cell
  go_wp2_with fail
  clear c0
  refine (HI.out _ _ _ _ _ _ XO8.out.rd YO8.out).mono ?_
  rintro e w9 ⟨ga, gc, rfl, o9, b9⟩
  have GO9 : Hid (OwnN 84 w9 w8.heap.size (.slice ga rs.length gc) rs) := o9
  clear o9
  have s9 := b9.size
  have B9 : Hid (Below w.heap.size w w9) := B8.out.trans (b9.mono B8.out.size)
  have XT9 : Hid (Boxed w9 w.heap.size 50 (.slice ao ns.length ca)) := boxed_below b9 XT8.out
  have WB9 : Hid (B4T w9 w4.heap.size (.slice wa rs.length wc) (.int .i64 zx) (.int .i64 cn) (.int .i64 en)) := WB8.out.below b9
  have WO9 : Hid (OwnN 84 w9 w1.heap.size (.slice wa rs.length wc) rs) := WO8.out.below b9
  have XB9 : Hid (Boxed w9 w6.heap.size 36 (.slice xa ns.length xc)) := boxed_below b9 XB8.out
  have XO9 : Hid (OwnN 84 w9 w5.heap.size (.slice xa ns.length xc) ns) := XO8.out.below b9
  have YO9 : Hid (Own .u8 5 w9 w7.heap.size (.slice ya xs.length yc) xs) := YO8.out.below b9
  clear b9 B8 XT8 WB8 WO8 XB8 XO8 YO8
  have bA : Below w9.heap.size w9 (w9.alloc (.cells #[(.slice ga rs.length gc), .int .i64 zx, .int .i64 cn, .int .i64 en] 53)) := (Below.refl _ _).alloc (Nat.le_refl _) _
  obtain ⟨d0, d1, d2, d3⟩ := (WB9.out.below bA).cells
  go_wp2_with fail
  have NB : Hid (B4T (w9.alloc (.cells #[(.slice ga rs.length gc), .int .i64 zx, .int .i64 cn, .int .i64 en] 53)) w9.heap.size (.slice ga rs.length gc) (.int .i64 zx) (.int .i64 cn) (.int .i64 en)) := B4T.new _ _ _ _ _
  have zA : w9.heap.size < (w9.alloc (.cells #[(.slice ga rs.length gc), .int .i64 zx, .int .i64 cn, .int .i64 en] 53)).heap.size := by simp
  generalize (w9.alloc (.cells #[(.slice ga rs.length gc), .int .i64 zx, .int .i64 cn, .int .i64 en] 53)) = w10 at *
  have s10 := bA.size
  have B10 : Hid (Below w.heap.size w w10) := B9.out.trans (bA.mono B9.out.size)
  have XT10 : Hid (Boxed w10 w.heap.size 50 (.slice ao ns.length ca)) := boxed_below bA XT9.out
  have WB10 : Hid (B4T w10 w4.heap.size (.slice wa rs.length wc) (.int .i64 zx) (.int .i64 cn) (.int .i64 en)) := WB9.out.below bA
  have WO10 : Hid (OwnN 84 w10 w1.heap.size (.slice wa rs.length wc) rs) := WO9.out.below bA
  have XB10 : Hid (Boxed w10 w6.heap.size 36 (.slice xa ns.length xc)) := boxed_below bA XB9.out
  have XO10 : Hid (OwnN 84 w10 w5.heap.size (.slice xa ns.length xc) ns) := XO9.out.below bA
  have YO10 : Hid (Own .u8 5 w10 w7.heap.size (.slice ya xs.length yc) xs) := YO9.out.below bA
  have GO10 : Hid (OwnN 84 w10 w8.heap.size (.slice ga rs.length gc) rs) := GO9.out.below bA
  clear bA B9 XT9 WB9 WO9 XB9 XO9 YO9 GO9
  have GB10 : Hid (B4T w10 w9.heap.size (.slice ga rs.length gc) (.int .i64 zx) (.int .i64 cn) (.int .i64 en)) := NB.out
  clear NB
  clear d0 d1 d2 d3
  refine (eqRp_same _ _ _ zx cn en rs GO10.out.rd WO10.out.rd (by omega)).mono ?_
  rintro e w11 ⟨rfl, b11⟩
  have s11 := b11.size
  have B11 : Hid (Below w.heap.size w w11) := B10.out.trans (b11.mono B10.out.size)
  have XT11 : Hid (Boxed w11 w.heap.size 50 (.slice ao ns.length ca)) := boxed_below b11 XT10.out
  have WB11 : Hid (B4T w11 w4.heap.size (.slice wa rs.length wc) (.int .i64 zx) (.int .i64 cn) (.int .i64 en)) := WB10.out.below b11
  have WO11 : Hid (OwnN 84 w11 w1.heap.size (.slice wa rs.length wc) rs) := WO10.out.below b11
  have XB11 : Hid (Boxed w11 w6.heap.size 36 (.slice xa ns.length xc)) := boxed_below b11 XB10.out
  have XO11 : Hid (OwnN 84 w11 w5.heap.size (.slice xa ns.length xc) ns) := XO10.out.below b11
  have YO11 : Hid (Own .u8 5 w11 w7.heap.size (.slice ya xs.length yc) xs) := YO10.out.below b11
  have GO11 : Hid (OwnN 84 w11 w8.heap.size (.slice ga rs.length gc) rs) := GO10.out.below b11
  have GB11 : Hid (B4T w11 w9.heap.size (.slice ga rs.length gc) (.int .i64 zx) (.int .i64 cn) (.int .i64 en)) := GB10.out.below b11
  clear b11 B10 XT10 WB10 WO10 XB10 XO10 YO10 GO10 GB10
  go_wp2_with fail
  have bP : Below w11.heap.size w11 w11.drew := below_drewN' w11 1
  refine wp_region_held_drew (S := fun W => Boxed W w6.heap.size 36 (.slice xa ns.length xc) ∧ Boxed W w.heap.size 50 (.slice ao ns.length ca)) (by kernel_rfl) ⟨boxed_below bP XB11.out, boxed_below bP XT11.out⟩ (fun hHeld => ?_)
  have BP : Hid (Below w11.heap.size w11 w11.drew) := bP
  clear bP
  generalize w11.drew = p11 at *
  refine wpAnyH_take (i := 0) (oi := { dst := some 42, op := _, type := _, pos := _, after := _, guard := _ }) (v := ?v1) rfl (by kernel_rfl) (by kernel_rfl) (by kernel_rfl) (fun _ _ _ h => h) (Or.inl ⟨by rfl, ?hy1⟩) (by assumption) ?rest1
  case hy1 =>
    intro w9 hS9
    have k0 := hS9.1.cell
    have k1 := hS9.2.cell
    go_simp
    try with_reducible rfl
  try simp only [Act.put, List.setIfInBounds_toArray, List.set_cons_zero, List.set_cons_succ]
  refine wpAnyH_take (i := 1) (oi := { dst := some 43, op := _, type := _, pos := _, after := _, guard := _ }) (v := ?v2) rfl (by kernel_rfl) (by kernel_rfl) (by kernel_rfl) (fun _ _ _ h => h) (Or.inl ⟨by rfl, ?hy2⟩) (by assumption) ?rest2
  case hy2 =>
    intro w9 hS9
    have k0 := hS9.1.cell
    have k1 := hS9.2.cell
    go_simp
    try with_reducible rfl
  try simp only [Act.put, List.setIfInBounds_toArray, List.set_cons_zero, List.set_cons_succ]
  refine wpAnyH_ready (rs := [2]) (by kernel_rfl) (by simp) ?_
  refine AllReadyH.cons (o := { dst := some 44, op := _, type := _, pos := _, after := _, guard := _ }) rfl (fun K hK => ?_) AllReadyH.nil
  go_simp
  refine (toTree_any _ _ ns (HR.out.below (B11.out.trans (BP.out.mono B11.out.size))) hn).mono ?_
  rintro e w12 ⟨qa, qc, rfl, o12, b12'⟩
  have Q12 : Hid (RdN w12 (.slice qa ns.length qc) ns) := o12.rd
  have b12 : Hid (Below w11.heap.size w11 w12) := BP.out.trans (b12'.mono BP.out.size)
  clear o12 b12'
  refine hK.out _ _ ((⟨boxed_below b12.out XB11.out, boxed_below b12.out XT11.out⟩ : (fun W => Boxed W w6.heap.size 36 (.slice xa ns.length xc) ∧ Boxed W w.heap.size 50 (.slice ao ns.length ca)) w12)) (fun hx9 => ?_)
  clear hK K hHeld hx9
  have hHeld := (⟨boxed_below b12.out XB11.out, boxed_below b12.out XT11.out⟩ : (fun W => Boxed W w6.heap.size 36 (.slice xa ns.length xc) ∧ Boxed W w.heap.size 50 (.slice ao ns.length ca)) w12)
  try simp only [Act.put, List.setIfInBounds_toArray, List.set_cons_zero, List.set_cons_succ]
  refine wpAnyH_ready (rs := [3]) (by kernel_rfl) (by simp) ?_
  refine AllReadyH.cons (o := { dst := some 45, op := _, type := _, pos := _, after := _, guard := _ }) rfl (fun K hK => ?_) AllReadyH.nil
  go_simp
  refine (eqTree_same _ _ _ ns (XO11.out.rd.below b12.out) Q12.out hn).mono ?_
  rintro e w13 ⟨rfl, b13'⟩
  have b13 : Below w11.heap.size w11 w13 := b12.out.trans (b13'.mono b12.out.size)
  clear b13' Q12 b12 BP
  refine hK.out _ _ ((⟨boxed_below b13 XB11.out, boxed_below b13 XT11.out⟩ : (fun W => Boxed W w6.heap.size 36 (.slice xa ns.length xc) ∧ Boxed W w.heap.size 50 (.slice ao ns.length ca)) w13)) (fun hx9 => ?_)
  clear hK K hHeld hx9
  have hHeld := (⟨boxed_below b13 XB11.out, boxed_below b13 XT11.out⟩ : (fun W => Boxed W w6.heap.size 36 (.slice xa ns.length xc) ∧ Boxed W w.heap.size 50 (.slice ao ns.length ca)) w13)
  try simp only [Act.put, List.setIfInBounds_toArray, List.set_cons_zero, List.set_cons_succ]
  refine wpAnyH_take (i := 4) (oi := { dst := some 46, op := _, type := _, pos := _, after := _, guard := _ }) (v := ?v3) rfl (by kernel_rfl) (by kernel_rfl) (by kernel_rfl) (fun _ _ _ h => h) (Or.inl ⟨by rfl, ?hy3⟩) (by assumption) ?rest3
  case hy3 =>
    intro w9 hS9
    have k0 := hS9.1.cell
    have k1 := hS9.2.cell
    go_simp
    try with_reducible rfl
  try simp only [Act.put, List.setIfInBounds_toArray, List.set_cons_zero, List.set_cons_succ]
  refine wpAnyH_done (by kernel_rfl) ?_ _
  clear hHeld
  have s13 := b13.size
  have B13 : Hid (Below w.heap.size w w13) := B11.out.trans (b13.mono B11.out.size)
  have XT13 : Hid (Boxed w13 w.heap.size 50 (.slice ao ns.length ca)) := boxed_below b13 XT11.out
  have WB13 : Hid (B4T w13 w4.heap.size (.slice wa rs.length wc) (.int .i64 zx) (.int .i64 cn) (.int .i64 en)) := WB11.out.below b13
  have WO13 : Hid (OwnN 84 w13 w1.heap.size (.slice wa rs.length wc) rs) := WO11.out.below b13
  have XB13 : Hid (Boxed w13 w6.heap.size 36 (.slice xa ns.length xc)) := boxed_below b13 XB11.out
  have XO13 : Hid (OwnN 84 w13 w5.heap.size (.slice xa ns.length xc) ns) := XO11.out.below b13
  have YO13 : Hid (Own .u8 5 w13 w7.heap.size (.slice ya xs.length yc) xs) := YO11.out.below b13
  have GO13 : Hid (OwnN 84 w13 w8.heap.size (.slice ga rs.length gc) rs) := GO11.out.below b13
  have GB13 : Hid (B4T w13 w9.heap.size (.slice ga rs.length gc) (.int .i64 zx) (.int .i64 cn) (.int .i64 en)) := GB11.out.below b13
  clear b13 B11 XT11 WB11 WO11 XB11 XO11 YO11 GO11 GB11
  go_wp2_with fail
  refine (toByteS_any _ _ xs (HA.out.below B13.out) (by omega)).mono ?_
  rintro e w14 ⟨v14, rfl, o14, b14⟩
  have Z14 : Hid (Rd .u8 w14 v14 xs) := o14.rd
  clear o14
  have s14 := b14.size
  have B14 : Hid (Below w.heap.size w w14) := B13.out.trans (b14.mono B13.out.size)
  have XT14 : Hid (Boxed w14 w.heap.size 50 (.slice ao ns.length ca)) := boxed_below b14 XT13.out
  have WB14 : Hid (B4T w14 w4.heap.size (.slice wa rs.length wc) (.int .i64 zx) (.int .i64 cn) (.int .i64 en)) := WB13.out.below b14
  have WO14 : Hid (OwnN 84 w14 w1.heap.size (.slice wa rs.length wc) rs) := WO13.out.below b14
  have XB14 : Hid (Boxed w14 w6.heap.size 36 (.slice xa ns.length xc)) := boxed_below b14 XB13.out
  have XO14 : Hid (OwnN 84 w14 w5.heap.size (.slice xa ns.length xc) ns) := XO13.out.below b14
  have YO14 : Hid (Own .u8 5 w14 w7.heap.size (.slice ya xs.length yc) xs) := YO13.out.below b14
  have GO14 : Hid (OwnN 84 w14 w8.heap.size (.slice ga rs.length gc) rs) := GO13.out.below b14
  have GB14 : Hid (B4T w14 w9.heap.size (.slice ga rs.length gc) (.int .i64 zx) (.int .i64 cn) (.int .i64 en)) := GB13.out.below b14
  clear b14 B13 XT13 WB13 WO13 XB13 XO13 YO13 GO13 GB13
  obtain ⟨za, zc, hz14, -, -⟩ := Z14.out.len
  subst hz14
  go_wp2_with fail
  refine (eqByteS_any _ _ _ xs xs YO14.out.rd Z14.out).mono ?_
  rintro e w15 ⟨rfl, q15, hw15⟩
  rw [show decide (xs = xs) = true by simp]
  have b15 : Below w14.heap.size w14 w15 := by rw [hw15]; exact below_drewN' w14 q15
  clear hw15 Z14
  have s15 := b15.size
  have B15 : Hid (Below w.heap.size w w15) := B14.out.trans (b15.mono B14.out.size)
  have XT15 : Hid (Boxed w15 w.heap.size 50 (.slice ao ns.length ca)) := boxed_below b15 XT14.out
  have WB15 : Hid (B4T w15 w4.heap.size (.slice wa rs.length wc) (.int .i64 zx) (.int .i64 cn) (.int .i64 en)) := WB14.out.below b15
  have WO15 : Hid (OwnN 84 w15 w1.heap.size (.slice wa rs.length wc) rs) := WO14.out.below b15
  have XB15 : Hid (Boxed w15 w6.heap.size 36 (.slice xa ns.length xc)) := boxed_below b15 XB14.out
  have XO15 : Hid (OwnN 84 w15 w5.heap.size (.slice xa ns.length xc) ns) := XO14.out.below b15
  have YO15 : Hid (Own .u8 5 w15 w7.heap.size (.slice ya xs.length yc) xs) := YO14.out.below b15
  have GO15 : Hid (OwnN 84 w15 w8.heap.size (.slice ga rs.length gc) rs) := GO14.out.below b15
  have GB15 : Hid (B4T w15 w9.heap.size (.slice ga rs.length gc) (.int .i64 zx) (.int .i64 cn) (.int .i64 en)) := GB14.out.below b15
  clear b15 B14 XT14 WB14 WO14 XB14 XO14 YO14 GO14 GB14
  have c0 := XB15.out.cell
  go_wp2_with fail
  clear c0
  refine (markTreeO_any _ w5.heap.size 1 _ ns XO15.out (by omega) (by omega) hn).mono ?_
  rintro e w16 ⟨rfl, -, bl16, kt16, on16⟩
  have s16 := on16.1
  have B16 : Hid (Below w.heap.size w w16) := B15.out.trans (bl16.mono (by omega))
  have XT16 : Hid (Boxed w16 w.heap.size 50 (.slice ao ns.length ca)) := kt16.box XT15.out (by decide)
  have WB16 : Hid (B4T w16 w4.heap.size (.slice wa rs.length wc) (.int .i64 zx) (.int .i64 cn) (.int .i64 en)) := kt16.box WB15.out (by decide)
  have WO16 : Hid (OwnN 84 w16 w1.heap.size (.slice wa rs.length wc) rs) := WO15.out.onl on16 (fun g hg e => by have h1 := (World.ownsRow.lt XO15.out g e).1; have h2 := LW.out g hg; omega)
  have YO16 : Hid (Own .u8 5 w16 w7.heap.size (.slice ya xs.length yc) xs) := KT.own kt16 YO15.out
  have GB16 : Hid (B4T w16 w9.heap.size (.slice ga rs.length gc) (.int .i64 zx) (.int .i64 cn) (.int .i64 en)) := kt16.box GB15.out (by decide)
  have GO16 : Hid (OwnN 84 w16 w8.heap.size (.slice ga rs.length gc) rs) := GO15.out.onl on16 (fun g hg e => by have h1 := (World.ownsRow.lt GO15.out g hg).1; have h2 := LX.out g e; omega)
  clear bl16 kt16 on16 B15 XT15 WB15 WO15 XB15 XO15 YO15 GB15 GO15
  have hkk : ((1 + 7 * ns.length : Nat) : Int) ≤ 8388608 := by omega
  have hkk0 : (0 : Int) ≤ ((1 + 7 * ns.length : Nat) : Int) := by omega
  generalize ((1 + 7 * ns.length : Nat) : Int) = K1 at *
  go_wp2_with fail
  refine (markByteS_any _ _ _ xs K1 YO16.out hkk0 (by omega) (by omega)).mono ?_
  rintro e w17 ⟨rfl, -, g17⟩
  have s17 := g17.size
  have B17 : Hid (Below w.heap.size w w17) := B16.out.grown g17 (by omega) (fun j hj => by have := (YO16.out.lt j hj).1; omega)
  have XT17 : Hid (Boxed w17 w.heap.size 50 (.slice ao ns.length ca)) := (g17.block _ XT16.out.lt (fun e => by have h1 : w7.heap.size ≤ w.heap.size := (YO16.out.lt _ e.symm).1; omega)).trans XT16.out
  have WB17 : Hid (B4T w17 w4.heap.size (.slice wa rs.length wc) (.int .i64 zx) (.int .i64 cn) (.int .i64 en)) := (g17.block _ WB16.out.lt (fun e => by have h1 : w7.heap.size ≤ w4.heap.size := (YO16.out.lt _ e.symm).1; omega)).trans WB16.out
  have WO17 : Hid (OwnN 84 w17 w1.heap.size (.slice wa rs.length wc) rs) := WO16.out.onl ⟨g17.size, g17.block⟩ (fun g hg e => by have h1 := (YO16.out.lt g e).1; have h2 := LW.out g hg; omega)
  have GB17 : Hid (B4T w17 w9.heap.size (.slice ga rs.length gc) (.int .i64 zx) (.int .i64 cn) (.int .i64 en)) := (g17.block _ GB16.out.lt (fun e => by have h1 := LY.out _ e.symm; omega)).trans GB16.out
  have GO17 : Hid (OwnN 84 w17 w8.heap.size (.slice ga rs.length gc) rs) := GO16.out.onl ⟨g17.size, g17.block⟩ (fun g hg e => by have h1 := (World.ownsRow.lt GO16.out g hg).1; have h2 := LY.out g e; omega)
  clear g17 B16 XT16 WB16 WO16 YO16 GB16 GO16
  have hk2 : ¬ K1 + (xs.length : Int) < 0 := by omega
  have hk2d : decide (K1 + (xs.length : Int) < 0) = false := by simpa using hk2
  obtain ⟨d0, d1, d2, d3⟩ := WB17.out.cells
  obtain ⟨e0, e1, e2, e3⟩ := GB17.out.cells
  go_wp2_with fail
  clear d0 d1 d2 d3 e0 e1 e2 e3
  refine (eqRp_same _ _ _ zx cn en rs GO17.out.rd WO17.out.rd (by omega)).mono ?_
  rintro e w18 ⟨rfl, b18⟩
  have s18 := b18.size
  have B18 : Hid (Below w.heap.size w w18) := B17.out.trans (b18.mono B17.out.size)
  have XT18 : Hid (Boxed w18 w.heap.size 50 (.slice ao ns.length ca)) := boxed_below b18 XT17.out
  have WB18 : Hid (B4T w18 w4.heap.size (.slice wa rs.length wc) (.int .i64 zx) (.int .i64 cn) (.int .i64 en)) := WB17.out.below b18
  have WO18 : Hid (OwnN 84 w18 w1.heap.size (.slice wa rs.length wc) rs) := WO17.out.below b18
  have GB18 : Hid (B4T w18 w9.heap.size (.slice ga rs.length gc) (.int .i64 zx) (.int .i64 cn) (.int .i64 en)) := GB17.out.below b18
  have GO18 : Hid (OwnN 84 w18 w8.heap.size (.slice ga rs.length gc) rs) := GO17.out.below b18
  clear b18 B17 XT17 WB17 WO17 GB17 GO17
  obtain ⟨e0, e1, e2, e3⟩ := GB18.out.cells
  go_wp2_with fail
  clear e0 e1 e2 e3
  refine (markRp_any _ w8.heap.size 1 _ zx cn en rs GO18.out (by omega) (by omega) (by omega)).mono ?_
  rintro e w19 ⟨rfl, o19, bl19, kt19⟩
  have s19 := kt19.1
  have B19 : Hid (Below w.heap.size w w19) := B18.out.trans (bl19.mono (by omega))
  have XT19 : Hid (Boxed w19 w.heap.size 50 (.slice ao ns.length ca)) := kt19.box XT18.out (by decide)
  have WB19 : Hid (B4T w19 w4.heap.size (.slice wa rs.length wc) (.int .i64 zx) (.int .i64 cn) (.int .i64 en)) := kt19.box WB18.out (by decide)
  have WO19 : Hid (OwnN 84 w19 w1.heap.size (.slice wa rs.length wc) rs) := WO18.out.belowB9 bl19 (fun g hg => by have := LW.out g hg; omega)
  have GB19 : Hid (B4T w19 w9.heap.size (.slice ga rs.length gc) (.int .i64 zx) (.int .i64 cn) (.int .i64 en)) := kt19.box GB18.out (by decide)
  have M19 : Hid (RdN w19 (.slice ga rs.length gc) (mkNs 1 rs.length)) := o19.rd
  clear o19 bl19 kt19 B18 XT18 WB18 WO18 GB18 GO18
  obtain ⟨e0, e1, e2, e3⟩ := GB19.out.cells
  go_wp2_with fail
  clear e0 e1 e2 e3
  refine (heldRp_any _ 1 rs.length ga rs.length gc zx cn en M19.out (by omega) (by omega)).mono ?_
  rintro e w20 ⟨rfl, b20⟩
  clear M19
  have s20 := b20.size
  have B20 : Hid (Below w.heap.size w w20) := B19.out.trans (b20.mono B19.out.size)
  have XT20 : Hid (Boxed w20 w.heap.size 50 (.slice ao ns.length ca)) := boxed_below b20 XT19.out
  have WB20 : Hid (B4T w20 w4.heap.size (.slice wa rs.length wc) (.int .i64 zx) (.int .i64 cn) (.int .i64 en)) := WB19.out.below b20
  have WO20 : Hid (OwnN 84 w20 w1.heap.size (.slice wa rs.length wc) rs) := WO19.out.below b20
  clear b20 B19 XT19 WB19 WO19
  have hq0 : ¬ ((1 + 7 * rs.length : Nat) : Int) < 0 := by omega
  have c0 := XT20.out.cell
  go_wp2_with fail
  clear c0
  refine (toTree_any _ _ ns (HR.out.below B20.out) hn).mono ?_
  rintro e w21 ⟨ra, rc, rfl, o21, b21⟩
  have T21 : Hid (RdN w21 (.slice ra ns.length rc) ns) := o21.rd
  clear o21
  have s21 := b21.size
  have B21 : Hid (Below w.heap.size w w21) := B20.out.trans (b21.mono B20.out.size)
  have WB21 : Hid (B4T w21 w4.heap.size (.slice wa rs.length wc) (.int .i64 zx) (.int .i64 cn) (.int .i64 en)) := WB20.out.below b21
  have WO21 : Hid (OwnN 84 w21 w1.heap.size (.slice wa rs.length wc) rs) := WO20.out.below b21
  clear b21 B20 WB20 WO20
  go_wp2_with fail
  refine (toByteS_any _ _ xs (HA.out.below B21.out) (by omega)).mono ?_
  rintro e w22 ⟨v22, rfl, o22, b22⟩
  obtain ⟨va9, vc9, rfl⟩ := Own.slice o22
  have T22 : Hid (RdN w22 (.slice ra ns.length rc) ns) := T21.out.below b22
  have U22 : Hid (Own .u8 5 w22 w21.heap.size (.slice va9 xs.length vc9) xs) := o22
  clear o22 T21
  have s22 := b22.size
  have B22 : Hid (Below w.heap.size w w22) := B21.out.trans (b22.mono B21.out.size)
  have WB22 : Hid (B4T w22 w4.heap.size (.slice wa rs.length wc) (.int .i64 zx) (.int .i64 cn) (.int .i64 en)) := WB21.out.below b22
  have WO22 : Hid (OwnN 84 w22 w1.heap.size (.slice wa rs.length wc) rs) := WO21.out.below b22
  clear b22 B21 WB21 WO21
  go_wp2_with fail
  refine (HI.out _ _ _ _ _ _ T22.out U22.out).mono ?_
  rintro e w23 ⟨ha, hc, rfl, o23, b23⟩
  have HO23 : Hid (OwnN 84 w23 w22.heap.size (.slice ha rs.length hc) rs) := o23
  clear o23 T22 U22
  have s23 := b23.size
  have B23 : Hid (Below w.heap.size w w23) := B22.out.trans (b23.mono B22.out.size)
  have WB23 : Hid (B4T w23 w4.heap.size (.slice wa rs.length wc) (.int .i64 zx) (.int .i64 cn) (.int .i64 en)) := WB22.out.below b23
  have WO23 : Hid (OwnN 84 w23 w1.heap.size (.slice wa rs.length wc) rs) := WO22.out.below b23
  clear b23 B22 WB22 WO22
  have bA : Hid (Below w23.heap.size w23 (w23.alloc (.cells #[.slice ha rs.length hc, .int .i64 zx, .int .i64 cn, .int .i64 en] 53))) := (Below.refl _ _).alloc (Nat.le_refl _) _
  obtain ⟨d0, d1, d2, d3⟩ := (WB23.out.below bA.out).cells
  go_wp2_with fail
  generalize w23.alloc (.cells #[.slice ha rs.length hc, .int .i64 zx, .int .i64 cn, .int .i64 en] 53) = w24 at *
  refine (eqRp_same _ _ _ zx cn en rs (HO23.out.below bA.out).rd (WO23.out.below bA.out).rd (by omega)).mono ?_
  rintro e w25 ⟨rfl, b25⟩
  have B25 : Hid (Below w.heap.size w w25) := (B23.out.trans (bA.out.mono B23.out.size)).trans (b25.mono (Nat.le_trans B23.out.size bA.out.size))
  clear b25
  go_wp2
  go_ret
  exact ⟨rfl, B25.out⟩

end Go.Proofs.YtcopcegamadkgaaDoor

namespace Go.Proofs.YtcopcegamadkgaaDoor
open Go.ChangeShapes Go.WideShapes Go.ChangeAt Go.RowKit

theorem cells_T : Tryd.prog.cellsOf 50 = 1 := by kernel_rfl
theorem cells_N : Tryd.prog.cellsOf 154 = 7 := by kernel_rfl
theorem cells_I : Tryd.prog.cellsOf 2 = 1 := by kernel_rfl
theorem cells_St : Tryd.prog.cellsOf 9 = 1 := by kernel_rfl
theorem cells_Ns : Tryd.prog.cellsOf 48 = 1 := by kernel_rfl
theorem addr_none (b o i : Nat) : (⟨b, o, none⟩ : Addr).add i = ⟨b, o + i, none⟩ := Addr.add_lit ..

section
variable {H : Type} {enc : TypeId × Value → H} {W : World} {base : Nat} {held : Bool}

set_option maxRecDepth 100000 in
theorem open_node_cells {m : Nat} {cs : List Value} {y : DataW H × List MemPlace} (h : DataW.trod enc Tryd.prog W base (fun _ => true) held m 154 cs = some y) :
    ∃ n : Nd, cs = ndL n ∧ n.path.size ≤ maxLen ∧ n.data.size ≤ maxLen := by
  obtain ⟨xs, k, -, -, hl, hlen, hfs⟩ := DataW.trod_struct Tryd.underlying154 h
  rw [cells_N] at hl
  match xs, hlen with
  | [y0, y1, y2, y3, y4, y5, y6], _ =>
    match cs, hl with
    | [c0, c1, c2, c3, c4, c5, c6], _ =>
      have h0 : DataW.trod enc Tryd.prog W base (fun _ => true) held k 9 [c0] = some y0 := by
        have := hfs 0 _ rfl
        simpa [cells_I, cells_St] using this
      have h1 : DataW.trod enc Tryd.prog W base (fun _ => true) held k 9 [c1] = some y1 := by
        have := hfs 1 _ rfl
        simpa [cells_I, cells_St] using this
      have h2 : DataW.trod enc Tryd.prog W base (fun _ => true) held k 2 [c2] = some y2 := by
        have := hfs 2 _ rfl
        simpa [cells_I, cells_St] using this
      have h3 : DataW.trod enc Tryd.prog W base (fun _ => true) held k 2 [c3] = some y3 := by
        have := hfs 3 _ rfl
        simpa [cells_I, cells_St] using this
      have h4 : DataW.trod enc Tryd.prog W base (fun _ => true) held k 2 [c4] = some y4 := by
        have := hfs 4 _ rfl
        simpa [cells_I, cells_St] using this
      have h5 : DataW.trod enc Tryd.prog W base (fun _ => true) held k 2 [c5] = some y5 := by
        have := hfs 5 _ rfl
        simpa [cells_I, cells_St] using this
      have h6 : DataW.trod enc Tryd.prog W base (fun _ => true) held k 2 [c6] = some y6 := by
        have := hfs 6 _ rfl
        simpa [cells_I, cells_St] using this
      obtain ⟨p, e0, -, l0⟩ := DataW.trod_string Tryd.underlying9 h0
      obtain ⟨q, e1, -, l1⟩ := DataW.trod_string Tryd.underlying9 h1
      obtain ⟨a2, e2, -, -⟩ := DataW.trod_int Tryd.underlying2 h2
      obtain ⟨a3, e3, -, -⟩ := DataW.trod_int Tryd.underlying2 h3
      obtain ⟨a4, e4, -, -⟩ := DataW.trod_int Tryd.underlying2 h4
      obtain ⟨a5, e5, -, -⟩ := DataW.trod_int Tryd.underlying2 h5
      obtain ⟨a6, e6, -, -⟩ := DataW.trod_int Tryd.underlying2 h6
      simp only [List.cons.injEq, and_true] at e0 e1 e2 e3 e4 e5 e6
      subst e0 e1 e2 e3 e4 e5 e6
      exact ⟨⟨p, q, a2, a3, a4, a5, a6⟩, rfl, l0, l1⟩

theorem nAt_mk {n : Nat} (Z : Nat → Nd) (i : Nat) (h : i < n) : nAt ((List.range n).map Z) i = Z i := by unfold nAt; simp [List.getD, h]
theorem nAt_out {ns : List Nd} {i : Nat} (h : ns.length ≤ i) : nAt ns i = nd0 := by unfold nAt; rw [List.getD, List.getElem?_eq_none h]; rfl

set_option maxRecDepth 100000 in
theorem open_nodes_cell {m : Nat} {c : Value} {y : DataW H × List MemPlace} (h : DataW.trod enc Tryd.prog W base (fun _ => true) held m 48 [c] = some y) : ∃ ns, InT W c ns := by
  rcases Deep.open_slice Tryd.underlying48 h with ⟨hcs, _⟩ | ⟨a, len, cap, m, q, D, Pl, hcs, hb, hl, hm, hme, _, hall⟩
  · simp at hcs
    subst hcs
    exact ⟨[], ⟨none, 0, rfl, Nat.le_refl _, Nat.zero_le _, .inl rfl⟩, fun i => ⟨Nat.zero_le _, Nat.zero_le _⟩⟩
  · simp at hcs
    subst hcs
    rw [cells_N] at hall
    simp only [if_true] at hme
    subst hme
    by_cases h0 : len = 0
    · subst h0
      exact ⟨[], ⟨some a, m, rfl, Nat.zero_le _, hm, .inl rfl⟩, fun i => ⟨Nat.zero_le _, Nat.zero_le _⟩⟩
    have hex : ∀ i, i < len → ∃ n : Nd, (∀ j, j < 7 → W.cell? ((a.add (i * 7)).add j) = (ndL n)[j]?) ∧ n.path.size ≤ maxLen ∧ n.data.size ≤ maxLen := by
      intro i hi
      obtain ⟨cs', hc, ht⟩ := hall i (by omega)
      obtain ⟨n, rfl, l0, l1⟩ := open_node_cells ht
      have hs := (World.cells?_some hc).2
      refine ⟨n, fun j hj => ?_, l0, l1⟩
      rw [hs.2 j (by omega)]
    haveI : Inhabited Nd := ⟨nd0⟩
    obtain ⟨Z, hZ⟩ := Deep.choose_lt (α := Nd) hex
    obtain ⟨b, off, spot⟩ := a
    have hspot : spot = none := by
      have := World.cell?_spot ((hZ 0 (by omega)).1 0 (by omega))
      simpa [Addr.add] using this
    subst hspot
    have hblt : b < W.heap.size := by
      have := World.block_lt_of_cell? W _ ((hZ 0 (by omega)).1 0 (by omega))
      simpa [Addr.add] using this
    refine ⟨(List.range len).map Z, ⟨some ⟨b, off, none⟩, m, by simp, by simpa using hl, hm, .inr ⟨b, off, rfl, hblt, fun i hi => ?_⟩⟩, fun i => ?_⟩
    · have hi' : i < len := by simpa using hi
      rw [nAt_mk Z i hi']
      have c := (hZ i hi').1
      have c' : ∀ j, j < 7 → W.cell? ⟨b, off + i * 7 + j, none⟩ = (ndL (Z i))[j]? := fun j hj => by have := c j hj; rwa [addr_none, addr_none] at this
      exact ⟨c' 0 (by omega), c' 1 (by omega), c' 2 (by omega), c' 3 (by omega), c' 4 (by omega), c' 5 (by omega), c' 6 (by omega)⟩
    · by_cases hi : i < len
      · rw [nAt_mk Z i hi]; exact (hZ i hi).2
      · rw [nAt_out (by simp; omega)]; exact ⟨Nat.zero_le _, Nat.zero_le _⟩

theorem array1 {α : Type} {cs : Array α} (h : cs.size = 1) : ∃ c0, cs = #[c0] := by
  obtain ⟨l⟩ := cs
  match l, h with
  | [c0], _ => exact ⟨c0, rfl⟩

set_option maxRecDepth 100000 in
/-- A tree that came in. -/
theorem open_tree {b0 : Nat} {v : Value} {d : DataW H} {p : List MemPlace} (hv : Value.okWide Tryd.prog W .any b0 50 v) (h : DataW.Trod enc Tryd.prog W base (fun _ => true) held 50 v d p) :
    ∃ c ns, v = .agg #[c] ∧ InT W c ns := by
  obtain ⟨cs, rfl, hsz⟩ := okWide_struct Tryd.underlying50 hv
  obtain ⟨c0, rfl⟩ := array1 (hsz.trans cells_T)
  obtain ⟨fuel, hf⟩ := h
  obtain ⟨xs, n, -, -, hl, hlen, hfs⟩ := DataW.trod_struct Tryd.underlying50 hf
  match xs, hlen with
  | [y0], _ =>
    have h0 : DataW.trod enc Tryd.prog W base (fun _ => true) held n 48 [c0] = some y0 := by
      have := hfs 0 _ rfl
      simpa [cells_Ns, Value.cells] using this
    obtain ⟨ns, hn⟩ := open_nodes_cell h0
    exact ⟨c0, ns, rfl, hn⟩
end

end Go.Proofs.YtcopcegamadkgaaDoor

namespace Go.Proofs.YtcopcegamadkgaaDoor
open Go.ChangeShapes Go.WideShapes Go.ChangeAt Go.RowKit

theorem addr_add_none (b o i : Nat) : (⟨b, o, none⟩ : Addr).add i = ⟨b, o + i, none⟩ := Addr.add_lit ..

theorem rd_of {k : IntKind} {w : World} {x : Addr} {len cap : Nat} {zs : List Int} (hl : len ≤ cap) (hm : cap ≤ maxLen) (hz : zs.length = cap)
    (hcell : ∀ i, i < zs.length → w.cell? (x.add i) = some (.int k (zs.getD i 0))) : Rd k w (.slice (some x) len cap) (zs.take len) := by
  have hlen : (zs.take len).length = len := by simp; omega
  refine ⟨some x, cap, by rw [hlen], by rw [hlen]; exact hl, hm, ?_⟩
  by_cases h0 : len = 0
  · subst h0; exact .inl rfl
  · right
    obtain ⟨b, off, spot⟩ := x
    have hc := hcell 0 (by omega)
    have hspot : spot = none := by simpa [Addr.add] using World.cell?_spot hc
    subst hspot
    refine ⟨b, off, rfl, ?_, fun i hi => ?_⟩
    · have := World.block_lt_of_cell? w _ hc
      simpa [Addr.add] using this
    · rw [hlen] at hi
      have := hcell i (by omega)
      rw [addr_add_none] at this
      rw [this]
      simp [List.getD, List.getElem?_take_of_lt hi]

theorem byt_of {zs : List Int} {len : Nat} (h : ∀ n ∈ zs, (Lit.int .u8 n).wf = true) : Byt (zs.take len) := by
  intro x hx
  have := h x (List.mem_of_mem_take hx)
  have b := bounds_u8 this
  omega

/-- A []byte that came in. -/
theorem open_bytes {H : Type} {enc : TypeId × Value → H} {W : World} {a0 : Option Addr} {len0 cap0 : Nat} {d0 : DataW H} {p0 : List MemPlace} {base : Nat} {b : Bool}
    (h0 : DataW.Trod enc Tryd.prog W base (fun _ => true) b 24 (.slice a0 len0 cap0) d0 p0) : ∃ xs, Rd .u8 W (.slice a0 len0 cap0) xs ∧ Byt xs := by
  obtain ⟨fuel, hf⟩ := h0
  rcases open_ints Tryd.underlying24 Tryd.underlying5 (by kernel_rfl) hf with ⟨hcs, _⟩ | ⟨x, l, c, zs, hcs, _, hl, hm, hz, _, hcell, hwz⟩
  · simp [Value.cells] at hcs
    obtain ⟨rfl, rfl, rfl⟩ := hcs
    exact ⟨[], ⟨none, 0, rfl, Nat.le_refl _, Nat.zero_le _, .inl rfl⟩, fun x hx => by cases hx⟩
  · simp [Value.cells] at hcs
    obtain ⟨rfl, rfl, rfl⟩ := hcs
    exact ⟨zs.take len0, rd_of hl hm (by simpa using hz) hcell, byt_of hwz⟩

end Go.Proofs.YtcopcegamadkgaaDoor

namespace Go.Proofs.YtcopcegamadkgaaDoor
open Go.ChangeShapes Go.WideShapes Go.ChangeAt Go.RowKit

theorem knob : ownKnob Tryd.prog.godebug = none := by kernel_rfl
theorem laidOut : laidOutB Tryd.prog = true := by kernel_rfl

def gFirst (P : Program) : Nat := (P.globalNamed "unicode/utf8.first").getD 0
def gAccept (P : Program) : Nat := (P.globalNamed "unicode/utf8.acceptRanges").getD 0

/-- The witness: the two tables as they are laid. -/
def laidWorld (P : Program) (os : Os) : World :=
  let w0 := World.holding P os ⟨#[], #[], []⟩
  let put (h : Array Obj) (g : Nat) (cs : Array Value) : Array Obj := h.modify g fun
    | .cells _ t frozen => .cells cs t frozen
    | o => o
  let h1 := put w0.heap (gFirst P) (Go.Pinned.utf8FirstZ.map fun (z : Nat) => Value.int .u8 (z : Int)).toArray
  let h2 := put h1 (gAccept P) ((([128, 191, 160, 191, 128, 159, 144, 191, 128, 143] : List Int) ++ List.replicate 22 0).map fun (z : Int) => Value.int .u8 z).toArray
  { w0 with heap := h2 }
theorem laid_met (os : Os) (args : Array Value) : laidMet Tryd.prog [("unicode/utf8.acceptRanges", Rows.laid_unicode_utf8_acceptRanges), ("unicode/utf8.first", Rows.laid_unicode_utf8_first)] ((laidWorld Tryd.prog os).forCall (fun _ _ => 0) ⟨#[], args, []⟩).memory :=
  (LaidIn.of_run (l := [("unicode/utf8.acceptRanges", Rows.laid_unicode_utf8_acceptRanges), ("unicode/utf8.first", Rows.laid_unicode_utf8_first)]) [gAccept Tryd.prog, gFirst Tryd.prog] 8 (by kernel_rfl) (by kernel_rfl) (by kernel_rfl) (by kernel_rfl)).met

end Go.Proofs.YtcopcegamadkgaaDoor

