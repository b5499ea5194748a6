import Derived.Test.YtdiingonnddkcaaGreatDoorJ27
import Derived.Test.YtdiingonnddkcaaGreatDoorJ09
import Derived.Test.YtdiingonnddkcaaGreatDoorJ21
import Derived.Test.YtdiingonnddkcaaGreatDoorJ16
import Derived.Test.YtdiingonnddkcaaGreatDoorJ07
import Derived.Test.YtdiingonnddkcaaGreatDoorJ17
namespace Go.Proofs.YtdiingonnddkcaaGreatDoor
open Go.RowKit

/-- A node that shows its path alone. -/
def ndP (s : ByteArray) : Nd := ⟨s, ByteArray.empty, 0, 0, 0, 0, 0⟩
/-- An effect at the head of bytes, and what is behind it. -/
def rdE : List Int → Option (Ef × List Int)
  | [] => none
  | y :: r => if y = 1 then (rdNd r).map (fun q => (⟨false, q.1⟩, q.2)) else if y = 2 then (rdT r).map (fun q => (⟨true, ndP q.1⟩, q.2)) else none
theorem rdE_byt {ys r : List Int} {e : Ef} (h : rdE ys = some (e, r)) (hb : Byt ys) : Byt r ∧ r.length < ys.length ∧ e.nd.path.size < 256 ∧ e.nd.data.size < 256 := by
  cases ys with
  | nil => simp [rdE] at h
  | cons y t =>
    have ht : Byt t := fun x hx => hb x (List.mem_cons_of_mem _ hx)
    simp only [rdE] at h
    split at h
    · obtain ⟨⟨n, r'⟩, h1, h2⟩ := Option.map_eq_some_iff.1 h
      simp only [Prod.mk.injEq] at h2
      obtain ⟨rfl, rfl⟩ := h2
      have := rdNd_byt h1 ht
      exact ⟨this.1, by simp; omega, this.2.2.1, this.2.2.2⟩
    · split at h
      · obtain ⟨⟨s, r'⟩, h1, h2⟩ := Option.map_eq_some_iff.1 h
        simp only [Prod.mk.injEq] at h2
        obtain ⟨rfl, rfl⟩ := h2
        have := rdT_byt h1 ht
        exact ⟨this.1, by simp; omega, this.2.2, by show ByteArray.empty.size < 256; decide⟩
      · cases h
/-- So many effects, and what is behind them. -/
def pEs : Nat → List Int → Option (List Ef × List Int)
  | 0, ys => some ([], ys)
  | c + 1, ys =>
    match rdE ys with
    | none => none
    | some (e, r) => (pEs c r).map fun q => (e :: q.1, q.2)
def ParE (C : Nat) (ys : List Int) (es : List Ef) (r : List Int) (c : Nat) : Prop := pEs C ys = (pEs c r).map (fun q => (es ++ q.1, q.2)) ∧ es.length + r.length ≤ ys.length
theorem ParE.start (C : Nat) (ys : List Int) : ParE C ys [] ys C := ⟨by simp, by simp⟩
theorem ParE.step {C c : Nat} {ys : List Int} {es : List Ef} {r r' : List Int} {e : Ef} (h : ParE C ys es r (c + 1)) (hb : Byt r) (hr : rdE r = some (e, r')) : ParE C ys (es ++ [e]) r' c := by
  obtain ⟨he, hl⟩ := h
  have h1 := (rdE_byt hr hb).2.1
  refine ⟨?_, by simp; omega⟩
  rw [he]
  simp only [pEs, hr, Option.map_map]
  congr 1
  funext q
  simp
theorem ParE.done {C : Nat} {ys : List Int} {es : List Ef} {r : List Int} (h : ParE C ys es r 0) : pEs C ys = some (es, r) := by
  rw [h.1]; simp [pEs]
theorem ParE.bad {C c : Nat} {ys : List Int} {es : List Ef} {r : List Int} (h : ParE C ys es r (c + 1)) (hr : rdE r = none) : pEs C ys = none := by
  rw [h.1]; simp [pEs, hr]
def cntX (ys : List Int) : Nat := numB ((ys.drop 4).take 2)
def zX (ys : List Int) : Nat := numB (ys.take 4)
/-- What bytes are, read as a transaction. -/
def decX (ys : List Int) : Option (Int × List Ef) :=
  if ys.length < 6 then none else
  match pEs (cntX ys) (ys.drop 6) with
  | none => none
  | some (es, r) => if r = [] ∧ okTxn (zX ys) es = true then some ((zX ys : Int), es) else none
theorem wrap2 {ys : List Int} (h : Byt ys) : wrap64 ((numB (ys.take 2) : Nat) : Int) = ((numB (ys.take 2) : Nat) : Int) ∧ numB (ys.take 2) < 65536 := by
  have hb := (bigR_numB (ys.take 2).length (ys.take 2) rfl (fun x hx => h x (List.mem_of_mem_take hx))).2
  have h1 : 256 ^ (ys.take 2).length ≤ 256 ^ 2 := Nat.pow_le_pow_right (by omega) (by rw [List.length_take]; omega)
  have h2 : numB (ys.take 2) < 65536 := Nat.lt_of_lt_of_le hb h1
  unfold wrap64
  omega
def SzE (es : List Ef) : Prop := ∀ n ∈ es, n.nd.path.size < 256 ∧ n.nd.data.size < 256
theorem SzE.at {ns : List Ef} (h : SzE ns) (i : Nat) : (eAt ns i).nd.path.size ≤ 1048576 ∧ (eAt ns i).nd.data.size ≤ 1048576 := by
  by_cases hi : i < ns.length
  · rw [eAt_get hi]
    have := h _ (List.getElem_mem hi)
    omega
  · unfold eAt; rw [List.getD, List.getElem?_eq_none (by omega)]; exact ⟨Nat.zero_le _, Nat.zero_le _⟩
theorem SzE.snoc {es : List Ef} {e : Ef} (h : SzE es) (h1 : e.nd.path.size < 256) (h2 : e.nd.data.size < 256) : SzE (es ++ [e]) := by
  intro m hm
  rcases List.mem_append.1 hm with hm | hm
  · exact h m hm
  · simp at hm; subst hm; exact ⟨h1, h2⟩

/-- A local image of an effect that may be written. -/
def EB (W : World) (B : Nat) (n : Nd) (m : Int) : Prop := NB W B n ∧ W.cell? ⟨B, 7, none⟩ = some (.int .u8 m)
theorem EB.turn {W W' : World} {B : Nat} {n : Nd} {m : Int} {row : Option Nat} (h : EB W B n m) (hg : W.grownBy W' row) (hne : some B ≠ row) : EB W' B n m :=
  ⟨h.1.turn hg hne, (World.cell?_of_block (a := ⟨B, 7, none⟩) (hg.block B h.1.1.lt hne)).trans h.2⟩
theorem EB.other {W : World} {B B' : Nat} {n : Nd} {m : Int} (h : EB W B n m) (hne : B ≠ B') (i : Nat) (u : Value) : EB (W.setCell ⟨B', i, none⟩ u) B n m :=
  ⟨h.1.other hne i u, (World.cell?_setCell_other _ _ _ _ (by intro e; injection e with e; omega)).trans h.2⟩
theorem EB.new (w : World) (n : Nd) (m : Int) (t : TypeId) : EB (w.alloc (.cells #[.string n.path, .string n.data, .int .i64 n.ver, .int .i64 n.cver, .int .i64 n.cz, .int .i64 n.mz, .int .i64 n.pz, .int .u8 m] t)) w.heap.size n m := by
  have := heap_alloc_new w (.cells #[.string n.path, .string n.data, .int .i64 n.ver, .int .i64 n.cver, .int .i64 n.cz, .int .i64 n.mz, .int .i64 n.pz, .int .u8 m] t)
  exact ⟨⟨⟨by simp, (cell_of this _).trans rfl, (cell_of this _).trans rfl, (cell_of this _).trans rfl, (cell_of this _).trans rfl, (cell_of this _).trans rfl, (cell_of this _).trans rfl, (cell_of this _).trans rfl⟩, fun j => (by go_simp)⟩, (cell_of this _).trans rfl⟩
theorem cell7_set {W : World} {B i : Nat} {u x : Value} (h : W.cell? ⟨B, 7, none⟩ = some x) (hi : i ≠ 7) : (W.setCell ⟨B, i, none⟩ u).cell? ⟨B, 7, none⟩ = some x :=
  (World.cell?_setCell_other _ _ _ _ (by intro e; injection e with _ e; omega)).trans h
theorem EB.putN {W : World} {B : Nat} {n : Nd} {m : Int} (h : EB W B n m) (n' : Nd) :
    EB (((((((W.setCell ⟨B, 0, none⟩ (.string n'.path)).setCell ⟨B, 1, none⟩ (.string n'.data)).setCell ⟨B, 2, none⟩ (.int .i64 n'.ver)).setCell ⟨B, 3, none⟩ (.int .i64 n'.cver)).setCell ⟨B, 4, none⟩ (.int .i64 n'.cz)).setCell ⟨B, 5, none⟩ (.int .i64 n'.mz)).setCell ⟨B, 6, none⟩ (.int .i64 n'.pz)) B n' m := by
  refine ⟨((((((h.1.put0 n'.path).put1 n'.data).put2 n'.ver).put3 n'.cver).put4 n'.cz).put5 n'.mz).put6 n'.pz, ?_⟩
  iterate 7 refine cell7_set ?_ (by omega)
  exact h.2
theorem EB.putP {W : World} {B : Nat} {n : Nd} {m : Int} (h : EB W B n m) (s : ByteArray) : EB (W.setCell ⟨B, 0, none⟩ (.string s)) B { n with path := s } m :=
  ⟨h.1.put0 s, cell7_set h.2 (by omega)⟩
def efIV (e : Ef) : Value := .agg #[.string e.nd.path, .string e.nd.data, .int .i64 e.nd.ver, .int .i64 e.nd.cver, .int .i64 e.nd.cz, .int .i64 e.nd.mz, .int .i64 e.nd.pz, .int .u8 (mkB e)]

end Go.Proofs.YtdiingonnddkcaaGreatDoor
namespace Go.Proofs.YtdiingonnddkcaaGreatDoor
open Go.RowKit Go.Shelf

theorem blank_nd {n : Nd} (h : blank n = true) : n = ndP n.path := by
  unfold blank at h
  simp only [Bool.and_eq_true, beq_iff_eq] at h
  obtain ⟨⟨⟨⟨⟨h1, h2⟩, h3⟩, h4⟩, h5⟩, h6⟩ := h
  have hd : n.data = ByteArray.empty := eqL_bytes (by rw [h1]; show ([] == (⟨([] : List UInt8).toArray⟩ : ByteArray).toList) = true; simp)
  cases n
  simp only at *
  subst hd h2 h3 h4 h5 h6
  rfl
theorem rdE_eff {e : Ef} (h : okEf e = true) (r : List Int) : rdE (effB e ++ r) = some (e, r) := by
  obtain ⟨d, n⟩ := e
  cases d with
  | false =>
    rw [okEf_false rfl] at h
    have e : rdE (effB ⟨false, n⟩ ++ r) = (rdNd (nodeB n ++ r)).map (fun q => ((⟨false, q.1⟩ : Ef), q.2)) := rfl
    rw [e, rdNd_node h]
    rfl
  | true =>
    rw [okEf_true rfl] at h
    simp only [Bool.and_eq_true] at h
    have e : rdE (effB ⟨true, n⟩ ++ r) = (rdT (txB n.path ++ r)).map (fun q => ((⟨true, ndP q.1⟩ : Ef), q.2)) := rfl
    rw [e, rdT_tx]
    show some ((⟨true, ndP n.path⟩ : Ef), r) = _
    rw [← blank_nd h.2]
theorem pEs_effs : ∀ (es : List Ef) (r : List Int), (∀ e ∈ es, okEf e = true) → pEs es.length (effsB es ++ r) = some (es, r)
  | [], r, _ => rfl
  | e :: es, r, h => by
    have e1 : effsB (e :: es) ++ r = effB e ++ (effsB es ++ r) := by unfold effsB; simp
    rw [e1]
    rw [List.length_cons]
    unfold pEs
    rw [rdE_eff (h e (List.mem_cons_self ..))]
    dsimp only
    rw [pEs_effs es r (fun x hx => h x (List.mem_cons_of_mem _ hx))]
    rfl
/-- The image of a transaction is read back as the transaction. -/
theorem decX_txn {z : Int} {es : List Ef} (h : okTxn z es = true) : decX (txnB z es) = some (z, es) := by
  obtain ⟨h1, h2, h3, h4⟩ := okTxn_all h
  have hz : numB (bigR z.toNat 4) = z.toNat := numB_bigR 4 _ (by omega)
  have hc : numB (bigR es.length 2) = es.length := numB_bigR 2 _ (by omega)
  have l4 : (bigR z.toNat 4).length = 4 := bigR_len 4 _
  have l2 : (bigR es.length 2).length = 2 := bigR_len 2 _
  have e0 : txnB z es = bigR z.toNat 4 ++ (bigR es.length 2 ++ effsB es) := by unfold txnB; rw [if_pos h, List.append_assoc]
  have a1 : zX (txnB z es) = z.toNat := by
    unfold zX
    rw [e0, List.take_append_of_le_length (by omega), List.take_of_length_le (by omega), hz]
  have d4 : (bigR z.toNat 4 ++ (bigR es.length 2 ++ effsB es)).drop 4 = bigR es.length 2 ++ effsB es := List.drop_left' l4
  have a2 : cntX (txnB z es) = es.length := by
    unfold cntX
    rw [e0, d4, List.take_append_of_le_length (by omega), List.take_of_length_le (by omega), hc]
  have a3 : (txnB z es).drop 6 = effsB es := by
    rw [e0, ← List.append_assoc]
    exact List.drop_left' (by rw [List.length_append]; omega)
  have a4 := pEs_effs es [] (fun e he => by
    obtain ⟨i, hi, rfl⟩ := List.mem_iff_getElem.1 he
    have := h4 i hi
    rw [eAt_get hi] at this
    exact this)
  rw [List.append_nil] at a4
  unfold decX
  rw [if_neg (by rw [e0]; simp only [List.length_append]; omega), a1, a2, a3, a4]
  dsimp only
  have hzz : ((z.toNat : Nat) : Int) = z := by omega
  rw [hzz, if_pos ⟨rfl, h⟩]


theorem byt_app9 {xs ys : List Int} (h : Byt xs) (h' : Byt ys) : Byt (xs ++ ys) := fun x hx => by
  rcases List.mem_append.1 hx with hx | hx
  · exact h x hx
  · exact h' x hx
theorem txB_byt9 {s : ByteArray} (h : s.size < 256) : Byt (txB s) := by
  intro x hx
  unfold txB at hx
  rcases List.mem_append.1 hx with hx | hx
  · simp at hx; omega
  · unfold strN at hx
    obtain ⟨b, -, rfl⟩ := List.mem_map.1 hx
    have := b.toNat_lt
    omega
theorem nodeB_byt9 {n : Nd} (h : okNd n = true) : Byt (nodeB n) := by
  have hs := okNd_all h
  intro x hx
  unfold nodeB stB at hx
  simp only [List.mem_append] at hx
  rcases hx with (hx | hx) | ((((hx | hx) | hx) | hx) | hx)
  · exact txB_byt9 (by omega) x hx
  · exact txB_byt9 (by omega) x hx
  all_goals exact bigR_byt _ _ x hx
theorem txnB_byt (z : Int) (es : List Ef) : Byt (txnB z es) := by
  unfold txnB
  split
  · rename_i h
    obtain ⟨-, -, -, h4⟩ := okTxn_all h
    refine byt_app9 (byt_app9 (bigR_byt 4 _) (bigR_byt 2 _)) ?_
    intro x hx
    unfold effsB at hx
    obtain ⟨e, he, hx⟩ := List.mem_flatMap.1 hx
    obtain ⟨i, hi, rfl⟩ := List.mem_iff_getElem.1 he
    have h5 := okEf_nd' (h4 i hi)
    rw [eAt_get hi] at h5
    have h6 := okNd_all h5
    unfold effB at hx
    split at hx
    · rcases List.mem_append.1 hx with h | h
      · simp at h; subst h; omega
      · exact txB_byt9 (by omega) x h
    · rcases List.mem_append.1 hx with h | h
      · simp at h; subst h; omega
      · exact nodeB_byt9 h5 x h
  · intro x hx; cases hx



/-- A local transaction. -/
def BoxX (w : World) (B : Nat) (z : Int) (v : Value) : Prop := B < w.heap.size ∧ w.cell? ⟨B, 0, none⟩ = some (.int .i64 z) ∧ w.cell? ⟨B, 1, none⟩ = some v
theorem BoxX.below {w w' : World} {b : Nat} {x : Int} {y : Value} (h : BoxX w b x y) (hb : Below w.heap.size w w') : BoxX w' b x y :=
  ⟨Nat.lt_of_lt_of_le h.1 hb.size, (hb.cell (p := ⟨b, 0, none⟩) h.1).trans h.2.1, (hb.cell (p := ⟨b, 1, none⟩) h.1).trans h.2.2⟩
theorem BoxX.new (w : World) (x : Int) (y : Value) (t : TypeId) : BoxX (w.alloc (.cells #[.int .i64 x, y] t)) w.heap.size x y := ⟨by simp, by simp, by simp⟩


theorem BxE.new (w : World) (e : Ef) : BxE (w.alloc (.cells #[.string e.nd.path, .string e.nd.data, .int .i64 e.nd.ver, .int .i64 e.nd.cver, .int .i64 e.nd.cz, .int .i64 e.nd.mz, .int .i64 e.nd.pz, .int .u8 (mkB e)] 99)) w.heap.size e := by
  have := heap_alloc_new w (.cells #[.string e.nd.path, .string e.nd.data, .int .i64 e.nd.ver, .int .i64 e.nd.cver, .int .i64 e.nd.cz, .int .i64 e.nd.mz, .int .i64 e.nd.pz, .int .u8 (mkB e)] 99)
  exact ⟨⟨⟨_, _, _, this, by decide⟩, (cell_of this _).trans rfl, (cell_of this _).trans rfl, (cell_of this _).trans rfl, (cell_of this _).trans rfl, (cell_of this _).trans rfl, (cell_of this _).trans rfl, (cell_of this _).trans rfl⟩, (cell_of this _).trans rfl⟩

set_option maxHeartbeats 1000000 in
set_option maxRecDepth 100000 in
theorem encTxn_row (w : World) (z : Int) (b o n cap : Nat) (ns : List Ef) (hp : ns.length = n) (hb : b < w.heap.size) (hc : ∀ i, i < n → CellsE w b (o + i * 8) (eAt ns i)) (hR : RdE w (.slice (some ⟨b, o, none⟩) n cap) ns)
    (hsz : ∀ i, (eAt ns i).nd.path.size ≤ 1048576 ∧ (eAt ns i).nd.data.size ≤ 1048576) :
    Calls Tryz.prog 16 #[.agg #[.int .i64 z, .slice (some ⟨b, o, none⟩) n cap]] w fun e w' => ∃ v', e = .returned v' ∧ Own .u8 5 w' w.heap.size v' (txnB z ns) ∧ Below w.heap.size w w' := by
  have HC : Hid (∀ i, i < n → CellsE w b (o + i * 8) (eAt ns i)) := hc
  have HP : Hid (ns.length = n) := hp
  have HR : Hid (RdE w (.slice (some ⟨b, o, none⟩) n cap) ns) := hR
  have HZ : Hid (∀ i, (eAt ns i).nd.path.size ≤ 1048576 ∧ (eAt ns i).nd.data.size ≤ 1048576) := hsz
  have B0 : Hid (Below w.heap.size w (w.alloc (.cells #[.int .i64 z, .slice (some ⟨b, o, none⟩) n cap] 35))) := (Below.refl _ _).alloc (Nat.le_refl _) _
  have X0 : Hid (BoxX (w.alloc (.cells #[.int .i64 z, .slice (some ⟨b, o, none⟩) n cap] 35)) w.heap.size z (.slice (some ⟨b, o, none⟩) n cap)) := BoxX.new _ _ _ _
  clear hc hp hR hsz
  go_enter Tryz.func16, Tryz.ntmps16
  go_wp2_with fail
  generalize w.alloc (.cells #[.int .i64 z, .slice (some ⟨b, o, none⟩) n cap] 35) = w0 at *
  refine (implTxn_any _ _ _ ns (HR.out.below B0.out) HZ.out).mono ?_
  rintro e w1 ⟨rfl, b1⟩
  have B1 : Hid (Below w.heap.size w w1) := B0.out.trans (b1.mono B0.out.size)
  have X1 : Hid (BoxX w1 w.heap.size z (.slice (some ⟨b, o, none⟩) n cap)) := X0.out.below b1
  clear b1 X0 B0
  by_cases hok : okTxn z ns = true
  rotate_left
  · have hok' : okTxn z ns = false := by simpa using hok
    have HT : Hid (txnB z ns = []) := by show _ = _; unfold txnB; rw [if_neg hok]
    rw [hok']
    clear hok hok'
    go_wp2
    go_ret
    exact ⟨_, rfl, (by rw [HT.out]; exact World.ownsRow_nil _ _ _ _), B1.out⟩
  obtain ⟨g1, g2, g3, g4⟩ := okTxn_all hok
  rw [HP.out] at g3 g4
  obtain ⟨Z, rfl⟩ : ∃ Z : Nat, z = (Z : Int) := ⟨z.toNat, by omega⟩
  have HT : Hid (txnB Z ns = bigR Z 4 ++ bigR n 2 ++ effsB ns) := by show _ = _; unfold txnB; rw [if_pos hok, HP.out, Int.toNat_natCast]
  have HOK : Hid (∀ k, k < n → okEf (eAt ns k) = true) := g4
  have HLN : Hid (∀ k, k ≤ n → (effsB (ns.take k)).length ≤ k * 189) := fun k hk => effsB_len (fun k hk => g4 k (by rw [← HP.out]; exact hk)) k (by rw [HP.out]; exact hk)
  rw [hok]
  clear hok g4
  obtain ⟨z1, c0, c1⟩ := X1.out
  have s1 : w.heap.size + 1 ≤ w1.heap.size := z1
  have D1 : Hid (Below (w.heap.size + 1) w1 w1) := Below.refl _ _
  have C1 : Hid (w1.cell? ⟨w.heap.size, 1, none⟩ = some (.slice (some ⟨b, o, none⟩) n cap)) := c1
  go_wp2_with fail
  refine (implNumber_any w1 (w.heap.size + 1) (.slice none 0 0) [] Z 4 (World.ownsRow_nil _ _ _ _) s1 (by simp) (by omega)).mono ?_
  rintro e w2 ⟨v2, rfl, o2, b2, -⟩
  have O2 : Hid (Own .u8 5 w2 (w.heap.size + 1) v2 (bigR Z 4)) := o2
  have D2 : Hid (Below (w.heap.size + 1) w1 w2) := b2
  clear o2 b2 c0 c1 D1
  have c1 := (D2.out.cell (p := ⟨w.heap.size, 1, none⟩) (Nat.lt_succ_self _)).trans C1.out
  have s2 : w.heap.size + 1 ≤ w2.heap.size := Nat.le_trans s1 D2.out.size
  go_wp2_with fail
  refine (implNumber_any w2 (w.heap.size + 1) v2 (bigR Z 4) n 2 O2.out s2 (by rw [bigR_len]; omega) (by omega)).mono ?_
  rintro e w3 ⟨v3, rfl, o3, b3, -⟩
  obtain ⟨H, hH⟩ : ∃ H, H = bigR Z 4 ++ bigR n 2 := ⟨_, rfl⟩
  have HH : Hid (H.length = 6) := by show _ = _; rw [hH, List.length_append, bigR_len, bigR_len]
  rw [← hH] at o3 HT
  have O3 : Hid (Own .u8 5 w3 (w.heap.size + 1) v3 (H ++ effsB (ns.take 0))) := by show Own _ _ _ _ _ _; rw [List.take_zero, show effsB [] = [] from rfl, List.append_nil]; exact o3
  have D3 : Hid (Below (w.heap.size + 1) w1 w3) := D2.out.trans b3
  clear o3 b3 hH O2 D2 c1
  have c1 := (D3.out.cell (p := ⟨w.heap.size, 1, none⟩) (Nat.lt_succ_self _)).trans C1.out
  go_wp2
  go_loopw [3, 21] (fun vi vk wr => ∃ k : Nat, k ≤ n ∧ vk = .int .i64 k ∧ Hid (Own .u8 5 wr (w.heap.size + 1) vi (H ++ effsB (ns.take k))) ∧ Hid (Below (w.heap.size + 1) w1 wr)) (fun _ i _ => n - (intOf i).toNat)
  case atStart => exact ⟨0, Nat.zero_le _, rfl, O3, D3⟩
  case round =>
    clear c1
    obtain ⟨k, hk, rfl, HW, HD⟩ := hrel
    have sD : w.heap.size + 1 ≤ wr.heap.size := Nat.le_trans s1 HD.out.size
    by_cases hlt : k < n
    · have hltI : (k : Int) < (n : Int) := by omega
      obtain ⟨c0, c1, c2, c3, c4, c5, c6, c7⟩ := ((HC.out k hlt).below B1.out hb).below HD.out (Nat.lt_succ_of_lt hb)
      go_wp2_with fail
      clear c0 c1 c2 c3 c4 c5 c6 c7
      refine (imageOf_any _ (eAt ns k)).mono ?_
      rintro e w4 ⟨rfl, b4⟩
      have D4 : Hid (Below (w.heap.size + 1) w1 w4) := (HD.out.alloc sD _).trans (b4.mono (by simp; omega))
      have O4 : Hid (Own .u8 5 w4 (w.heap.size + 1) u3 (H ++ effsB (ns.take k))) := (HW.out.below ((Below.refl _ _).alloc (Nat.le_refl _) _)).below b4
      have s4 : w.heap.size + 1 ≤ w4.heap.size := Nat.le_trans s1 D4.out.size
      clear b4 HW HD
      go_wp2_with fail
      refine (encEff_any _ (w.heap.size + 1) u3 (H ++ effsB (ns.take k)) w4.heap.size (eAt ns k) ?e1 ?e2 ?e3 ?e4 (HOK.out k hlt)).mono ?_
      case e1 => exact O4.out.below ((Below.refl _ _).alloc (Nat.le_refl _) _)
      case e2 => simp; omega
      case e3 => have := HLN.out k hk; rw [List.length_append, HH.out]; omega
      case e4 => exact BxE.new _ _
      rintro e w5 ⟨v5, rfl, o5, b5, -⟩
      have O5 : Hid (Own .u8 5 w5 (w.heap.size + 1) v5 (H ++ effsB (ns.take (k + 1)))) := by
        rw [List.append_assoc, effsB_succ ns k (by rw [HP.out]; exact hlt)] at o5; exact o5
      have D5 : Hid (Below (w.heap.size + 1) w1 w5) := (D4.out.alloc s4 _).trans b5
      clear o5 b5 O4 D4
      go_wp2
      exact ⟨⟨k + 1, by omega, by go_num, O5, D5⟩, by simp [intOf]; omega⟩
    · have hkn : k = n := by omega
      subst hkn
      go_wp2
      go_ret
      refine ⟨_, rfl, ?_, B1.out.trans (HD.out.mono (Nat.le_succ _))⟩
      rw [HT.out, ← effsB_all ns k (by rw [HP.out]; exact Nat.le_refl _)]
      exact HW.out.mono (Nat.le_succ _)

set_option maxHeartbeats 1000000 in
set_option maxRecDepth 100000 in
theorem encTxn_nil (w : World) (z : Int) (ao : Option Addr) (cap : Nat) (hc : cap ≤ maxLen) :
    Calls Tryz.prog 16 #[.agg #[.int .i64 z, .slice ao 0 cap]] w fun e w' => ∃ v', e = .returned v' ∧ Own .u8 5 w' w.heap.size v' (txnB z []) ∧ Below w.heap.size w w' := by
  have HR : Hid (RdE w (.slice ao 0 cap) []) := ⟨ao, cap, rfl, Nat.zero_le _, hc, .inl rfl⟩
  have B0 : Hid (Below w.heap.size w (w.alloc (.cells #[.int .i64 z, .slice ao 0 cap] 35))) := (Below.refl _ _).alloc (Nat.le_refl _) _
  have X0 : Hid (BoxX (w.alloc (.cells #[.int .i64 z, .slice ao 0 cap] 35)) w.heap.size z (.slice ao 0 cap)) := BoxX.new _ _ _ _
  clear hc
  go_enter Tryz.func16, Tryz.ntmps16
  go_wp2_with fail
  generalize w.alloc (.cells #[.int .i64 z, .slice ao 0 cap] 35) = w0 at *
  refine (implTxn_any _ _ _ [] (HR.out.below B0.out) (fun i => by simp [eAt, ef0, nd0])).mono ?_
  rintro e w1 ⟨rfl, b1⟩
  have B1 : Hid (Below w.heap.size w w1) := B0.out.trans (b1.mono B0.out.size)
  have X1 : Hid (BoxX w1 w.heap.size z (.slice ao 0 cap)) := X0.out.below b1
  clear b1 X0 B0
  by_cases hok : okTxn z [] = true
  rotate_left
  · have hok' : okTxn z [] = false := by simpa using hok
    have HT : Hid (txnB z [] = []) := by show _ = _; unfold txnB; rw [if_neg hok]
    rw [hok']
    clear hok hok'
    go_wp2
    go_ret
    exact ⟨_, rfl, (by rw [HT.out]; exact World.ownsRow_nil _ _ _ _), B1.out⟩
  obtain ⟨g1, g2, -, -⟩ := okTxn_all hok
  obtain ⟨Z, rfl⟩ : ∃ Z : Nat, z = (Z : Int) := ⟨z.toNat, by omega⟩
  have HT : Hid (txnB Z [] = bigR Z 4 ++ bigR 0 2) := by show _ = _; unfold txnB; rw [if_pos hok, Int.toNat_natCast]; simp [effsB]
  rw [hok]
  clear hok
  obtain ⟨z1, c0, c1⟩ := X1.out
  have s1 : w.heap.size + 1 ≤ w1.heap.size := z1
  have C1 : Hid (w1.cell? ⟨w.heap.size, 1, none⟩ = some (.slice ao 0 cap)) := c1
  go_wp2_with fail
  refine (implNumber_any w1 (w.heap.size + 1) (.slice none 0 0) [] Z 4 (World.ownsRow_nil _ _ _ _) s1 (by simp) (by omega)).mono ?_
  rintro e w2 ⟨v2, rfl, o2, b2, -⟩
  have O2 : Hid (Own .u8 5 w2 (w.heap.size + 1) v2 (bigR Z 4)) := o2
  have D2 : Hid (Below (w.heap.size + 1) w1 w2) := b2
  clear o2 b2 c0 c1
  have c1 := (D2.out.cell (p := ⟨w.heap.size, 1, none⟩) (Nat.lt_succ_self _)).trans C1.out
  have s2 : w.heap.size + 1 ≤ w2.heap.size := Nat.le_trans s1 D2.out.size
  go_wp2_with fail
  refine (implNumber_any w2 (w.heap.size + 1) v2 (bigR Z 4) 0 2 O2.out s2 (by rw [bigR_len]; omega) (by omega)).mono ?_
  rintro e w3 ⟨v3, rfl, o3, b3, -⟩
  have O3 : Hid (Own .u8 5 w3 w.heap.size v3 (txnB Z [])) := by rw [HT.out]; exact o3.mono (Nat.le_succ _)
  have D3 : Hid (Below (w.heap.size + 1) w1 w3) := D2.out.trans b3
  clear o3 b3 O2 D2 c1
  have c1 := (D3.out.cell (p := ⟨w.heap.size, 1, none⟩) (Nat.lt_succ_self _)).trans C1.out
  go_wp2
  go_rounds 1
  go_ret
  exact ⟨_, rfl, O3.out, B1.out.trans (D3.out.mono (Nat.le_succ _))⟩

theorem encTxn_any (w : World) (z : Int) (v : Value) (ns : List Ef) (h : RdE w v ns) (hsz : ∀ i, (eAt ns i).nd.path.size ≤ 1048576 ∧ (eAt ns i).nd.data.size ≤ 1048576) :
    Calls Tryz.prog 16 #[.agg #[.int .i64 z, v]] w fun e w' => ∃ v', e = .returned v' ∧ Own .u8 5 w' w.heap.size v' (txnB z ns) ∧ Below w.heap.size w w' := by
  have h0 := h
  obtain ⟨ao, cap, rfl, h1, h2, h3⟩ := h
  rcases h3 with rfl | ⟨b, o, rfl, hb, hc⟩
  · exact encTxn_nil w z ao cap h2
  · exact encTxn_row w z b o ns.length cap ns rfl hb hc h0 hsz

end Go.Proofs.YtdiingonnddkcaaGreatDoor
namespace Go.Proofs.YtdiingonnddkcaaGreatDoor
open Go.RowKit

def EfPost (w0 w : World) (k : Nat) (ys : List Int) (e : Ending) (w' : World) : Prop :=
  w.grownBy w' (some k) ∧ ((rdE ys = none ∧ e = .panicked badChain) ∨ ∃ ef r, rdE ys = some (ef, r) ∧ e = .returned (efIV ef) ∧ RS w0 w' k r)

set_option maxHeartbeats 2000000 in
set_option maxRecDepth 100000 in
theorem effectImage_any (w0 w : World) (k : Nat) (ys : List Int) (h : RS w0 w k ys) (hby : Byt ys) :
    Calls Tryz.prog 45 #[.pointer (some ⟨k, 0, none⟩)] w fun e w' => EfPost w0 w k ys e w' := by
  have hk := h.2.1
  have hk0 := h.1
  have HS : Hid (RS w0 (w.alloc (.cells #[.string ⟨#[]⟩, .string ⟨#[]⟩, .int .i64 0, .int .i64 0, .int .i64 0, .int .i64 0, .int .i64 0, .int .u8 0] 99)) k ys) := h.new ((Below.refl _ _).alloc (Nat.le_refl _) _)
  have E1 : Hid (EB (w.alloc (.cells #[.string ⟨#[]⟩, .string ⟨#[]⟩, .int .i64 0, .int .i64 0, .int .i64 0, .int .i64 0, .int .i64 0, .int .u8 0] 99)) w.heap.size nd0 0) := EB.new w nd0 0 _
  have G1 : Hid (w.grownBy (w.alloc (.cells #[.string ⟨#[]⟩, .string ⟨#[]⟩, .int .i64 0, .int .i64 0, .int .i64 0, .int .i64 0, .int .i64 0, .int .u8 0] 99)) (some k)) := grown_alloc _ _ _
  have s1 : w.heap.size + 1 ≤ (w.alloc (.cells #[.string ⟨#[]⟩, .string ⟨#[]⟩, .int .i64 0, .int .i64 0, .int .i64 0, .int .i64 0, .int .i64 0, .int .u8 0] 99)).heap.size := by simp
  clear h
  go_enter Tryz.func45, Tryz.ntmps45
  go_wp2_with fail
  generalize w.alloc (.cells #[.string ⟨#[]⟩, .string ⟨#[]⟩, .int .i64 0, .int .i64 0, .int .i64 0, .int .i64 0, .int .i64 0, .int .u8 0] 99) = w1 at *
  cases ys with
  | nil =>
    refine (oneByte_none w0 w1 k HS.out).mono ?_
    rintro e w2 ⟨rfl, rfl⟩
    exact ⟨rfl, G1.out, .inl ⟨rfl, rfl⟩⟩
  | cons y r =>
    have hy := hby y (by simp)
    have HBR : Hid (Byt r) := fun x hx => hby x (List.mem_cons_of_mem _ hx)
    obtain ⟨m, rfl⟩ : ∃ m : Nat, y = (m : Int) := ⟨y.toNat, by omega⟩
    have hm : m < 256 := by omega
    clear hby hy
    refine (oneByte_any w0 w1 k m r HS.out).mono ?_
    rintro e w2 ⟨rfl, r2, g2⟩
    have s2 := g2.size
    have R2 := hd9 r2
    have G2 := hd9 (G1.out.trans g2)
    have E2 := hd9 (E1.out.turn g2 (by simp; omega))
    clear r2 g2 HS E1 G1
    have R3 : Hid (RS w0 (w2.alloc (.cells #[.string ⟨#[]⟩, .string ⟨#[]⟩, .int .i64 0, .int .i64 0, .int .i64 0, .int .i64 0, .int .i64 0, .int .u8 (m : Int)] 99)) k r) := R2.out.new ((Below.refl _ _).alloc (Nat.le_refl _) _)
    have G3 : Hid (w.grownBy (w2.alloc (.cells #[.string ⟨#[]⟩, .string ⟨#[]⟩, .int .i64 0, .int .i64 0, .int .i64 0, .int .i64 0, .int .i64 0, .int .u8 (m : Int)] 99)) (some k)) := G2.out.trans (grown_alloc _ _ _)
    have E3 : Hid (EB (w2.alloc (.cells #[.string ⟨#[]⟩, .string ⟨#[]⟩, .int .i64 0, .int .i64 0, .int .i64 0, .int .i64 0, .int .i64 0, .int .u8 (m : Int)] 99)) w.heap.size nd0 0) := E2.out.turn (grown_alloc _ _ none) (by simp)
    have F3 : Hid (EB (w2.alloc (.cells #[.string ⟨#[]⟩, .string ⟨#[]⟩, .int .i64 0, .int .i64 0, .int .i64 0, .int .i64 0, .int .i64 0, .int .u8 (m : Int)] 99)) w2.heap.size nd0 m) := EB.new w2 nd0 m _
    clear R2 G2 E2
    have hw2 : w.heap.size < w2.heap.size := by omega
    have hk2 : k < w2.heap.size := by omega
    by_cases h1 : m = 1
    · subst h1
      go_wp2_with fail
      generalize w2.alloc (.cells #[.string ⟨#[]⟩, .string ⟨#[]⟩, .int .i64 0, .int .i64 0, .int .i64 0, .int .i64 0, .int .i64 0, .int .u8 1] 99) = w3 at *
      generalize w2.heap.size = B3 at *
      refine (nodeImage_any w0 w3 k r R3.out HBR.out).mono ?_
      rintro e w4 ⟨g4, hp⟩
      rcases hp with ⟨hp, rfl⟩ | ⟨n, r', hp, rfl, hr4⟩
      · exact ⟨rfl, G3.out.trans g4, .inl ⟨by simp [rdE, hp], rfl⟩⟩
      have HRD : Hid (rdE (((1 : Nat) : Int) :: r) = some (⟨false, n⟩, r')) := by show _ = _; simp [rdE, hp]
      have G4 := hd9 (G3.out.trans g4)
      have R4 := hd9 hr4
      have E4 := hd9 (E3.out.turn g4 (by simp; omega))
      have F4 : Hid (EB w4 B3 nd0 1) := F3.out.turn g4 (by simp; omega)
      clear g4 hp hr4 G3 R3 E3 F3
      rename_i K1 a1 K0 a0
      have HK1 : Hid _ := a1
      clear a1
      have hne : w.heap.size ≠ B3 := by omega
      have F5 := hd9 (F4.out.putN n)
      have E5 : Hid (EB (((((((w4.setCell ⟨B3, 0, none⟩ (.string n.path)).setCell ⟨B3, 1, none⟩ (.string n.data)).setCell ⟨B3, 2, none⟩ (.int .i64 n.ver)).setCell ⟨B3, 3, none⟩ (.int .i64 n.cver)).setCell ⟨B3, 4, none⟩ (.int .i64 n.cz)).setCell ⟨B3, 5, none⟩ (.int .i64 n.mz)).setCell ⟨B3, 6, none⟩ (.int .i64 n.pz)) w.heap.size nd0 0) := (((((((E4.out.other hne _ _).other hne _ _).other hne _ _).other hne _ _).other hne _ _).other hne _ _).other hne _ _)
      have R5 : Hid (RS w0 (((((((w4.setCell ⟨B3, 0, none⟩ (.string n.path)).setCell ⟨B3, 1, none⟩ (.string n.data)).setCell ⟨B3, 2, none⟩ (.int .i64 n.ver)).setCell ⟨B3, 3, none⟩ (.int .i64 n.cver)).setCell ⟨B3, 4, none⟩ (.int .i64 n.cz)).setCell ⟨B3, 5, none⟩ (.int .i64 n.mz)).setCell ⟨B3, 6, none⟩ (.int .i64 n.pz)) k r') := (((((((R4.out.setOther (by omega) (by omega) _ _).setOther (by omega) (by omega) _ _).setOther (by omega) (by omega) _ _).setOther (by omega) (by omega) _ _).setOther (by omega) (by omega) _ _).setOther (by omega) (by omega) _ _).setOther (by omega) (by omega) _ _)
      have G5 : Hid (w.grownBy (((((((w4.setCell ⟨B3, 0, none⟩ (.string n.path)).setCell ⟨B3, 1, none⟩ (.string n.data)).setCell ⟨B3, 2, none⟩ (.int .i64 n.ver)).setCell ⟨B3, 3, none⟩ (.int .i64 n.cver)).setCell ⟨B3, 4, none⟩ (.int .i64 n.cz)).setCell ⟨B3, 5, none⟩ (.int .i64 n.mz)).setCell ⟨B3, 6, none⟩ (.int .i64 n.pz)) (some k)) := (grown_new (grown_new (grown_new (grown_new (grown_new (grown_new (grown_new G4.out (Nat.le_of_lt hw2) _ _) (Nat.le_of_lt hw2) _ _) (Nat.le_of_lt hw2) _ _) (Nat.le_of_lt hw2) _ _) (Nat.le_of_lt hw2) _ _) (Nat.le_of_lt hw2) _ _) (Nat.le_of_lt hw2) _ _)
      obtain ⟨⟨⟨dl, d0, d1, d2, d3, d4, d5, d6⟩, df⟩, d7⟩ := F4.out
      unfold ndV
      go_wp2
      refine HK1.out _ _ ?_
      clear dl d0 d1 d2 d3 d4 d5 d6 df d7 F4 E4 R4 G4 HK1
      generalize (((((((w4.setCell ⟨B3, 0, none⟩ (.string n.path)).setCell ⟨B3, 1, none⟩ (.string n.data)).setCell ⟨B3, 2, none⟩ (.int .i64 n.ver)).setCell ⟨B3, 3, none⟩ (.int .i64 n.cver)).setCell ⟨B3, 4, none⟩ (.int .i64 n.cz)).setCell ⟨B3, 5, none⟩ (.int .i64 n.mz)).setCell ⟨B3, 6, none⟩ (.int .i64 n.pz)) = w5 at *
      obtain ⟨⟨⟨dl, d0, d1, d2, d3, d4, d5, d6⟩, df⟩, d7⟩ := F5.out
      obtain ⟨⟨⟨xl, x0, x1, x2, x3, x4, x5, x6⟩, xf⟩, x7⟩ := E5.out
      clear dl df xl
      go_wp2
      refine bodyPost_ret (v := efIV ⟨false, n⟩) (by simp [results, Tryz.results45, go_sem, efIV, mkB, x0, x1, x2, x3, x4, x5, x6, x7]) rfl ⟨?_, .inr ⟨_, r', HRD.out, rfl, ?_⟩⟩
      · iterate 8 refine grown_new ?_ (Nat.le_refl _) _ _
        exact G5.out
      · iterate 8 refine RS.setOther ?_ (by omega) (by omega) _ _
        exact R5.out
    · have h1b : ((m : Int) == 1) = false := beq_eq_false_iff_ne.2 (by omega)
      by_cases h2 : m = 2
      · subst h2
        go_wp2_with fail
        generalize w2.alloc (.cells #[.string ⟨#[]⟩, .string ⟨#[]⟩, .int .i64 0, .int .i64 0, .int .i64 0, .int .i64 0, .int .i64 0, .int .u8 2] 99) = w3 at *
        generalize w2.heap.size = B3 at *
        refine (text_any w0 w3 k r R3.out HBR.out).mono ?_
        rintro e w4 ⟨g4, hp⟩
        rcases hp with ⟨hp, rfl⟩ | ⟨s, r', hp, rfl, hr4⟩
        · exact ⟨rfl, G3.out.trans g4, .inl ⟨by simp [rdE, hp], rfl⟩⟩
        have HRD : Hid (rdE (((2 : Nat) : Int) :: r) = some (⟨true, ndP s⟩, r')) := by show _ = _; simp [rdE, hp]
        have G4 := hd9 (G3.out.trans g4)
        have R4 := hd9 hr4
        have E4 := hd9 (E3.out.turn g4 (by simp; omega))
        have F4 : Hid (EB w4 B3 nd0 2) := F3.out.turn g4 (by simp; omega)
        clear g4 hp hr4 G3 R3 E3 F3
        rename_i K1 a1 K0 a0
        have HK1 : Hid _ := a1
        clear a1
        have hne : w.heap.size ≠ B3 := by omega
        have F5 : Hid (EB (w4.setCell ⟨B3, 0, none⟩ (.string s)) B3 (ndP s) 2) := F4.out.putP s
        have E5 : Hid (EB (w4.setCell ⟨B3, 0, none⟩ (.string s)) w.heap.size nd0 0) := E4.out.other hne _ _
        have R5 : Hid (RS w0 (w4.setCell ⟨B3, 0, none⟩ (.string s)) k r') := R4.out.setOther (by omega) (by omega) _ _
        have G5 : Hid (w.grownBy (w4.setCell ⟨B3, 0, none⟩ (.string s)) (some k)) := grown_new G4.out (Nat.le_of_lt hw2) _ _
        obtain ⟨⟨⟨dl, d0, d1, d2, d3, d4, d5, d6⟩, df⟩, d7⟩ := F4.out
        go_wp2
        refine HK1.out _ _ ?_
        clear dl d0 d1 d2 d3 d4 d5 d6 df d7 F4 E4 R4 G4 HK1
        generalize (w4.setCell ⟨B3, 0, none⟩ (.string s)) = w5 at *
        obtain ⟨⟨⟨dl, d0, d1, d2, d3, d4, d5, d6⟩, df⟩, d7⟩ := F5.out
        obtain ⟨⟨⟨xl, x0, x1, x2, x3, x4, x5, x6⟩, xf⟩, x7⟩ := E5.out
        clear dl df xl
        go_wp2
        refine bodyPost_ret (v := efIV ⟨true, ndP s⟩) (by simp [results, Tryz.results45, go_sem, efIV, mkB, x0, x1, x2, x3, x4, x5, x6, x7]) rfl ⟨?_, .inr ⟨_, r', HRD.out, rfl, ?_⟩⟩
        · iterate 8 refine grown_new ?_ (Nat.le_refl _) _ _
          exact G5.out
        · iterate 8 refine RS.setOther ?_ (by omega) (by omega) _ _
          exact R5.out
      · have h2b : ((m : Int) == 2) = false := beq_eq_false_iff_ne.2 (by omega)
        have HRD : Hid (rdE ((m : Int) :: r) = none) := by show _ = _; simp only [rdE]; rw [if_neg (by omega), if_neg (by omega)]
        go_wp2
        exact ⟨rfl, G3.out, .inl ⟨HRD.out, rfl⟩⟩


def efV (e : Ef) : Value := .agg #[.bool e.del, .string e.nd.path, .string e.nd.data, .int .i64 e.nd.ver, .int .i64 e.nd.cver, .int .i64 e.nd.cz, .int .i64 e.nd.mz, .int .i64 e.nd.pz]

set_option maxHeartbeats 1000000 in
set_option maxRecDepth 100000 in
theorem effect_m (w : World) (b : Nat) (n : Nd) (M : Int) (D : Bool) (hM : (M == 2) = D) (h : EB w b n M) :
    Calls Tryz.prog 46 #[.pointer (some ⟨b, 0, none⟩)] w fun e w' => e = .returned (efV ⟨D, n⟩) ∧ Below w.heap.size w w' := by
  have hb := h.1.1.lt
  have H : Hid (EB (w.alloc (.cells #[.bool false, .string ⟨#[]⟩, .string ⟨#[]⟩, .int .i64 0, .int .i64 0, .int .i64 0, .int .i64 0, .int .i64 0] 59)) b n M) := h.turn (grown_alloc _ _ none) (by simp)
  have HM := hd9 hM
  clear h hM
  obtain ⟨⟨⟨-, x0, x1, x2, x3, x4, x5, x6⟩, -⟩, x7⟩ := H.out
  have B0 : Hid (Below w.heap.size w (w.alloc (.cells #[.bool false, .string ⟨#[]⟩, .string ⟨#[]⟩, .int .i64 0, .int .i64 0, .int .i64 0, .int .i64 0, .int .i64 0] 59))) := (Below.refl _ _).alloc (Nat.le_refl _) _
  go_enter Tryz.func46, Tryz.ntmps46
  go_wp2
  refine wp_region_held_drew (S := fun W => W.cell? ⟨b, 7, none⟩ = some (.int .u8 M) ∧ W.cell? ⟨b, 0, none⟩ = some (.string n.path) ∧ W.cell? ⟨b, 1, none⟩ = some (.string n.data) ∧ W.cell? ⟨b, 2, none⟩ = some (.int .i64 n.ver) ∧ W.cell? ⟨b, 3, none⟩ = some (.int .i64 n.cver) ∧ W.cell? ⟨b, 4, none⟩ = some (.int .i64 n.cz) ∧ W.cell? ⟨b, 5, none⟩ = some (.int .i64 n.mz) ∧ W.cell? ⟨b, 6, none⟩ = some (.int .i64 n.pz)) (by kernel_rfl) (⟨x7, x0, x1, x2, x3, x4, x5, x6⟩) (fun hHeld => ?_)
  refine wpAnyH_take (i := 0) (oi := { dst := some 3, op := _, type := _, pos := _, after := _, guard := _ }) (v := (.pointer (some ⟨b, 0, none⟩))) rfl (by kernel_rfl) (by kernel_rfl) (by kernel_rfl) (fun _ _ _ h => h) (Or.inl ⟨by rfl, ?hy1⟩) (by assumption) ?rest1
  case hy1 =>
    intro w9 hS9
    obtain ⟨y7, y0, y1, y2, y3, y4, y5, y6⟩ := hS9
    go_simp
  try simp only [Act.put, List.setIfInBounds_toArray, List.set_cons_zero, List.set_cons_succ]
  refine wpAnyH_take (i := 1) (oi := { dst := some 4, op := _, type := _, pos := _, after := _, guard := _ }) (v := (.pointer (some ⟨b, 0, none⟩))) rfl (by kernel_rfl) (by kernel_rfl) (by kernel_rfl) (fun _ _ _ h => h) (Or.inl ⟨by rfl, ?hy2⟩) (by assumption) ?rest2
  case hy2 =>
    intro w9 hS9
    obtain ⟨y7, y0, y1, y2, y3, y4, y5, y6⟩ := hS9
    go_simp
  try simp only [Act.put, List.setIfInBounds_toArray, List.set_cons_zero, List.set_cons_succ]
  refine wpAnyH_take (i := 2) (oi := { dst := some 5, op := _, type := _, pos := _, after := _, guard := _ }) (v := (.pointer (some ⟨b, 7, none⟩))) rfl (by kernel_rfl) (by kernel_rfl) (by kernel_rfl) (fun _ _ _ h => h) (Or.inl ⟨by rfl, ?hy3⟩) (by assumption) ?rest3
  case hy3 =>
    intro w9 hS9
    obtain ⟨y7, y0, y1, y2, y3, y4, y5, y6⟩ := hS9
    go_simp
  try simp only [Act.put, List.setIfInBounds_toArray, List.set_cons_zero, List.set_cons_succ]
  refine wpAnyH_take (i := 3) (oi := { dst := some 6, op := _, type := _, pos := _, after := _, guard := _ }) (v := (.int .u8 M)) rfl (by kernel_rfl) (by kernel_rfl) (by kernel_rfl) (fun _ _ _ h => h) (Or.inl ⟨by rfl, ?hy4⟩) (by assumption) ?rest4
  case hy4 =>
    intro w9 hS9
    obtain ⟨y7, y0, y1, y2, y3, y4, y5, y6⟩ := hS9
    go_simp
  try simp only [Act.put, List.setIfInBounds_toArray, List.set_cons_zero, List.set_cons_succ]
  refine wpAnyH_take (i := 4) (oi := { dst := some 7, op := _, type := _, pos := _, after := _, guard := _ }) (v := (.bool D)) rfl (by kernel_rfl) (by kernel_rfl) (by kernel_rfl) (fun _ _ _ h => h) (Or.inl ⟨by rfl, ?hy5⟩) (by assumption) ?rest5
  case hy5 =>
    intro w9 hS9
    go_simp
    exact HM.out
  try simp only [Act.put, List.setIfInBounds_toArray, List.set_cons_zero, List.set_cons_succ]
  refine wpAnyH_take (i := 5) (oi := { dst := some 8, op := _, type := _, pos := _, after := _, guard := _ }) (v := (.pointer (some ⟨b, 0, none⟩))) rfl (by kernel_rfl) (by kernel_rfl) (by kernel_rfl) (fun _ _ _ h => h) (Or.inl ⟨by rfl, ?hy6⟩) (by assumption) ?rest6
  case hy6 =>
    intro w9 hS9
    obtain ⟨y7, y0, y1, y2, y3, y4, y5, y6⟩ := hS9
    go_simp
  try simp only [Act.put, List.setIfInBounds_toArray, List.set_cons_zero, List.set_cons_succ]
  refine wpAnyH_take (i := 6) (oi := { dst := some 9, op := _, type := _, pos := _, after := _, guard := _ }) (v := (.pointer (some ⟨b, 0, none⟩))) rfl (by kernel_rfl) (by kernel_rfl) (by kernel_rfl) (fun _ _ _ h => h) (Or.inl ⟨by rfl, ?hy7⟩) (by assumption) ?rest7
  case hy7 =>
    intro w9 hS9
    obtain ⟨y7, y0, y1, y2, y3, y4, y5, y6⟩ := hS9
    go_simp
  try simp only [Act.put, List.setIfInBounds_toArray, List.set_cons_zero, List.set_cons_succ]
  refine wpAnyH_take (i := 7) (oi := { dst := some 10, op := _, type := _, pos := _, after := _, guard := _ }) (v := (.pointer (some ⟨b, 0, none⟩))) rfl (by kernel_rfl) (by kernel_rfl) (by kernel_rfl) (fun _ _ _ h => h) (Or.inl ⟨by rfl, ?hy8⟩) (by assumption) ?rest8
  case hy8 =>
    intro w9 hS9
    obtain ⟨y7, y0, y1, y2, y3, y4, y5, y6⟩ := hS9
    go_simp
  try simp only [Act.put, List.setIfInBounds_toArray, List.set_cons_zero, List.set_cons_succ]
  refine wpAnyH_take (i := 8) (oi := { dst := some 11, op := _, type := _, pos := _, after := _, guard := _ }) (v := (.pointer (some ⟨b, 0, none⟩))) rfl (by kernel_rfl) (by kernel_rfl) (by kernel_rfl) (fun _ _ _ h => h) (Or.inl ⟨by rfl, ?hy9⟩) (by assumption) ?rest9
  case hy9 =>
    intro w9 hS9
    obtain ⟨y7, y0, y1, y2, y3, y4, y5, y6⟩ := hS9
    go_simp
  try simp only [Act.put, List.setIfInBounds_toArray, List.set_cons_zero, List.set_cons_succ]
  refine wpAnyH_take (i := 9) (oi := { dst := some 12, op := _, type := _, pos := _, after := _, guard := _ }) (v := (.agg #[.string n.path, .string n.data, .int .i64 n.ver, .int .i64 n.cver, .int .i64 n.cz, .int .i64 n.mz, .int .i64 n.pz])) rfl (by kernel_rfl) (by kernel_rfl) (by kernel_rfl) (fun _ _ _ h => h) (Or.inl ⟨by rfl, ?hy10⟩) (by assumption) ?rest10
  case hy10 =>
    intro w9 hS9
    obtain ⟨y7, y0, y1, y2, y3, y4, y5, y6⟩ := hS9
    go_simp
  try simp only [Act.put, List.setIfInBounds_toArray, List.set_cons_zero, List.set_cons_succ]
  refine wpAnyH_take (i := 10) (oi := { dst := some 13, op := _, type := _, pos := _, after := _, guard := _ }) (v := (.agg #[.bool D, .string n.path, .string n.data, .int .i64 n.ver, .int .i64 n.cver, .int .i64 n.cz, .int .i64 n.mz, .int .i64 n.pz])) rfl (by kernel_rfl) (by kernel_rfl) (by kernel_rfl) (fun _ _ _ h => h) (Or.inl ⟨by rfl, ?hy11⟩) (by assumption) ?rest11
  case hy11 =>
    intro w9 hS9
    obtain ⟨y7, y0, y1, y2, y3, y4, y5, y6⟩ := hS9
    go_simp
  try simp only [Act.put, List.setIfInBounds_toArray, List.set_cons_zero, List.set_cons_succ]
  refine wpAnyH_ready (rs := [11]) (by kernel_rfl) (by simp) ?_
  refine AllReadyH.cons (o := { dst := none, op := _, type := _, pos := _, after := _, guard := _ }) rfl (fun K hK => ?_) AllReadyH.nil
  go_simp
  have H2 : EB (w.alloc (.cells #[.bool D, .string n.path, .string n.data, .int .i64 n.ver, .int .i64 n.cver, .int .i64 n.cz, .int .i64 n.mz, .int .i64 n.pz] 59)) b n M := by
    have h0 : EB w b n M := by
      have hbl := B0.out.block b hb
      have e : ∀ q, w.cell? ⟨b, q, none⟩ = (w.alloc (.cells #[.bool false, .string ⟨#[]⟩, .string ⟨#[]⟩, .int .i64 0, .int .i64 0, .int .i64 0, .int .i64 0, .int .i64 0] 59)).cell? ⟨b, q, none⟩ := fun q => (World.cell?_of_block (a := ⟨b, q, none⟩) hbl).symm
      exact ⟨⟨⟨hb, (e _).trans x0, (e _).trans x1, (e _).trans x2, (e _).trans x3, (e _).trans x4, (e _).trans x5, (e _).trans x6⟩, fun j => by rw [← World.frozen?_of_block (a := ⟨b, j, none⟩) hbl]; exact H.out.1.2 j⟩, (e _).trans x7⟩
    exact h0.turn (grown_alloc _ _ none) (by simp)
  obtain ⟨⟨⟨-, z0, z1, z2, z3, z4, z5, z6⟩, -⟩, z7⟩ := H2
  refine hK.out _ _ ⟨z7, z0, z1, z2, z3, z4, z5, z6⟩ (fun hx9 => ?_)
  clear hK K hHeld hx9
  refine wpAnyH_done (by kernel_rfl) ?_ _
  go_wp2
  refine bodyPost_ret (v := efV ⟨D, n⟩) (by simp [results, Tryz.results46, go_sem, efV]) rfl ⟨rfl, ?_⟩
  exact ((Below.refl _ _).alloc (Nat.le_refl _) _).trans ((below_drewN' _ 1).mono (by simp))

theorem effect_any (w : World) (b : Nat) (e : Ef) (h : EB w b e.nd (mkB e)) :
    Calls Tryz.prog 46 #[.pointer (some ⟨b, 0, none⟩)] w fun r w' => r = .returned (efV e) ∧ Below w.heap.size w w' := by
  obtain ⟨d, n⟩ := e
  cases d with
  | true => exact effect_m w b n 2 true rfl h
  | false => exact effect_m w b n 1 false rfl h

end Go.Proofs.YtdiingonnddkcaaGreatDoor


