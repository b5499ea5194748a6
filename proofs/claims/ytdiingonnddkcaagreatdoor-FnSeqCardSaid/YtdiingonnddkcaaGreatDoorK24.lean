import Derived.Test.YtdiingonnddkcaaGreatDoorK23
import Derived.Test.YtdiingonnddkcaaGreatDoorK15
import Derived.Test.YtdiingonnddkcaaGreatDoorK20
import Derived.Test.YtdiingonnddkcaaGreatDoorK21
import Derived.Test.YtdiingonnddkcaaGreatDoorK17
import Derived.Test.YtdiingonnddkcaaGreatDoorK05
import Derived.Shelf.LaysM
import Derived.Shelf.Strconv.Itoa4
import Derived.Shelf.Strings.Repeat
namespace Go.Proofs.YtdiingonnddkcaaGreatDoor
open Go.RowKit Go.Shelf

/-- The judges of a draft. -/
def judL (D : Nat) : List Value := [.nilFunc, .func (.func 92) #[.pointer (some ⟨D, 0, none⟩)] #[], .func (.func 93) #[.pointer (some ⟨D, 0, none⟩)] #[], .func (.func 94) #[.pointer (some ⟨D, 0, none⟩)] #[], .func (.func 95) #[.pointer (some ⟨D, 0, none⟩)] #[]]

set_option maxHeartbeats 2000000 in
set_option maxRecDepth 100000 in
theorem judges_any (w : World) (D : Nat) :
    Calls Tryz.prog 58 #[.pointer (some ⟨D, 0, none⟩)] w fun e w' => e = .returned (.agg (judL D).toArray) ∧ Below w.heap.size w w' := by
  have o1 : ∀ (W : World) (a : Addr) (m : Mode), (store a .nilFunc m).run Tryz.prog W = stored Tryz.prog W a .nilFunc m := fun W a m => run_store _ W a _ m rfl
  have o2 : ∀ (W : World) (a : Addr) (m : Mode) (f : Fn) (x y : Array Value), (store a (.func f x y) m).run Tryz.prog W = stored Tryz.prog W a (.func f x y) m := fun W a m f x y => run_store _ W a _ m rfl
  go_enter Tryz.func58, Tryz.ntmps58
  go_wp2
  exact bodyPost_ret (v := .agg (judL D).toArray) (by simp [results, Tryz.results58, go_sem, judL]) rfl ⟨rfl, (Below.refl _ _).alloc (Nat.le_refl _) _⟩

theorem St.grown {W W' : World} {b : Nat} {L : List Value} {r : Option Nat} (h : St W b L) (hg : W.grownBy W' r) (hr : some b ≠ r) : St W' b L := by
  have e := hg.block b h.lt hr
  refine ⟨Nat.lt_of_lt_of_le h.lt hg.size, fun j => ?_, fun j v hv => (World.cell?_of_block (w := W) (a := ⟨b, j, none⟩) e).trans (h.cl j v hv)⟩
  have := h.fz j
  unfold World.frozen? at this ⊢
  rw [e]; exact this
theorem Df.grown {W W' : World} {D lo : Nat} {z : Int} {v : Value} {ns : List Nd} {r : Option Nat} (h : Df W D lo z v ns) (hg : W.grownBy W' r) (hr : some D ≠ r) (hv : ∀ g, v.ownBlock = some g → some g ≠ r) : Df W' D lo z v ns :=
  ⟨h.s.grown hg hr, World.ownsRow.kept h.o hg (by
    cases hb : v.ownBlock with
    | none => exact .inl rfl
    | some g => exact .inr (hv g hb)), h.ne, h.n⟩
/-- Rows of different kinds lie apart. -/
theorem rows_apart {w : World} {lo lo' n n' k k' : Nat} {e e' : TypeId} {v v' : Value} {xs xs' : List Value} (h : w.ownsRow lo e k v n xs) (h' : w.ownsRow lo' e' k' v' n' xs') (hne : e ≠ e') : ∀ g, v.ownBlock = some g → some g ≠ v'.ownBlock := by
  intro g hg e9
  rcases h.2 with ⟨rfl, _⟩ | ⟨g1, c1, cur1, rfl, _, h1, _⟩
  · cases hg
  rcases h'.2 with ⟨rfl, _⟩ | ⟨g2, c2, cur2, rfl, _, h2, _⟩
  · cases e9
  simp only [Value.ownBlock, Option.some.injEq] at hg e9
  subst hg
  subst e9
  rw [h1] at h2
  simp at h2
  exact hne h2.2
theorem rowP_tw {w w' : World} {b lo k n : Nat} {o o' : Option Nat} {e : TypeId} {v : Value} {xs : List Value} (h : w.ownsRow lo e k v n xs) (t : Tw w b o w' o') (hb : ∀ g, v.ownBlock = some g → g ≠ b) (ho : ∀ g, v.ownBlock = some g → o ≠ some g) : w'.ownsRow lo e k v n xs := by
  refine ⟨h.1, ?_⟩
  rcases h.2 with hn | ⟨g, cap, cur, rfl, hbg, hgg, rest⟩
  · exact .inl hn
  · exact .inr ⟨g, cap, cur, rfl, hbg, by rw [t.block g (Array.getElem?_eq_some_iff.1 hgg).1 (hb g rfl) (ho g rfl)]; exact hgg, rest⟩
/-- The judge of an operation. -/
theorem judge_any (W : World) (D lo : Nat) (z : Int) (v : Value) (ns : List Nd) (o : Op5) (h : Df W D lo z v ns) (hw : wfO o = true) (hz : okS z = true) (hlo : lo ≤ W.heap.size)
    (hsf : ∀ W', Below W.heap.size W W' → ∀ n : Int, 0 ≤ n → n ≤ 2147483647 → Calls Tryz.prog 107 #[.int .i64 n] W' fun e w' => e = .returned (.string ⟨(six 12 n.toNat 6).toArray⟩) ∧ Below W'.heap.size W' w') :
    (o.kind = 1 → Calls Tryz.prog 92 #[.pointer (some ⟨D, 0, none⟩), .agg #[.int .i64 o.kind, .string o.path, .string o.data, .int .i64 o.ver, .bool o.seq]] W (JP W D lo z v (doO ns o z))) ∧
    (o.kind = 2 → Calls Tryz.prog 93 #[.pointer (some ⟨D, 0, none⟩), .agg #[.int .i64 o.kind, .string o.path, .string o.data, .int .i64 o.ver, .bool o.seq]] W (JP W D lo z v (doO ns o z))) ∧
    (o.kind = 3 → Calls Tryz.prog 94 #[.pointer (some ⟨D, 0, none⟩), .agg #[.int .i64 o.kind, .string o.path, .string o.data, .int .i64 o.ver, .bool o.seq]] W (JP W D lo z v (doO ns o z))) ∧
    (o.kind = 4 → Calls Tryz.prog 95 #[.pointer (some ⟨D, 0, none⟩), .agg #[.int .i64 o.kind, .string o.path, .string o.data, .int .i64 o.ver, .bool o.seq]] W (JP W D lo z v (doO ns o z))) :=
  ⟨fun hk => create_judge W D lo z v ns o h hw hk hz hlo hsf, fun hk => remove_judge W D lo z v ns o h hw hk hz, fun hk => set_judge W D lo z v ns o h hw hk hz, fun hk => check_judge W D lo z v ns o h hw hk⟩
/-- What doAll leaves behind. -/
def AllP (w0 : World) (lb D : Nat) (z : Int) (res : Int × Nat × List Nd × List ByteArray) (e : Ending) (w' : World) : Prop :=
  Below w0.heap.size w0 w' ∧
    ((res.1 ≠ 0 ∧ e = .returned (.tuple #[.slice none 0 0, .iface 115 (.agg #[.int .i64 (res.2.1 : Int), flt res.1])])) ∨
     (res.1 = 0 ∧ ∃ vn v', e = .returned (.tuple #[vn, .nilIface]) ∧ w'.ownsRow lb 9 1 vn res.2.2.2.length (res.2.2.2.map Value.string) ∧ Df w' D w0.heap.size z v' res.2.2.1))

set_option linter.unusedSimpArgs false in
set_option maxHeartbeats 4000000 in
set_option maxRecDepth 100000 in
theorem doAll_any (w0 w : World) (D : Nat) (z : Int) (v vo : Value) (ns : List Nd) (os : List Op5) (hB : Below w0.heap.size w0 w) (h : Df w D w0.heap.size z v ns) (hDlo : w0.heap.size ≤ D) (ho : RdO w0 vo os) (hos : ∀ i, i < os.length → (oAt os i).path.size ≤ 1048576 ∧ (oAt os i).data.size ≤ 1048576) (hz : okS z = true) (h1 : 1 ≤ os.length) (h2 : os.length ≤ 64)
    (hsf : ∀ W, Below w0.heap.size w0 W → ∀ n : Int, 0 ≤ n → n ≤ 2147483647 → Calls Tryz.prog 107 #[.int .i64 n] W fun e w' => e = .returned (.string ⟨(six 12 n.toNat 6).toArray⟩) ∧ Below W.heap.size W w') :
    Calls Tryz.prog 30 #[.pointer (some ⟨D, 0, none⟩), vo] w (AllP w0 w.heap.size D z (runO z os ns 0 [])) := by
  obtain ⟨i0, hi, hz0, hz1, hz2⟩ := info_parts Tryz.infoStr9
  obtain ⟨bo, cb, rfl, _, _⟩ := ho.len
  obtain ⟨res, hres⟩ : ∃ res, res = runO z os ns 0 [] := ⟨_, rfl⟩
  have HRES : Hid (runO z (os.drop 0) ns 0 [] = res) := hres.symm
  rw [← hres]
  have HB := hd9 hB
  have HD := hd9 h
  have HOS := hd9 hos
  have HZ := hd9 hz
  have HSF := hd9 hsf
  obtain ⟨bb, bof, rfl, hbb, HC⟩ : ∃ b off, bo = some ⟨b, off, none⟩ ∧ b < w0.heap.size ∧ Hid (∀ i, i < os.length → CellsO w0 b (off + i * 5) (oAt os i)) := by
    obtain ⟨ao', cap', e', -, -, h3⟩ := ho
    simp only [Value.slice.injEq] at e'
    obtain ⟨rfl, -, -⟩ := e'
    rcases h3 with h3 | ⟨b, o, rfl, hb, hc⟩
    · rw [h3] at h1; simp at h1
    · exact ⟨b, o, rfl, hb, hc⟩
  clear h ho hos hres hz hB hsf
  have hlt := HD.out.s.lt
  go_enter Tryz.func30, Tryz.ntmps30
  go_wp2_with fail
  refine (judges_any w D).mono ?_
  rintro e w1 ⟨rfl, b1⟩
  have B1 := hd9 b1
  have J2 : Hid (St (w1.alloc (.cells (judL D).toArray 121)) w1.heap.size (judL D)) := St.new _ _ _
  have B2 : Hid (Below w.heap.size w (w1.alloc (.cells (judL D).toArray 121))) := B1.out.alloc B1.out.size _
  unfold judL
  clear b1
  have o1 : ∀ (W : World) (a : Addr) (m : Mode), (store a .nilFunc m).run Tryz.prog W = stored Tryz.prog W a .nilFunc m := fun W a m => run_store _ W a _ m rfl
  have o2 : ∀ (W : World) (a : Addr) (m : Mode) (f : Fn) (x y : Array Value), (store a (.func f x y) m).run Tryz.prog W = stored Tryz.prog W a (.func f x y) m := fun W a m f x y => run_store _ W a _ m rfl
  go_wp2_with (at_make; go_must (refine wpList_make_own _ rfl _ _ 32 rfl (w1.heap.size + 1) 9 i0 (.string ByteArray.empty) 1 Tryz.underlying32 hi hz0 hz1 _ _ _ os.length rfl rfl ?b1 ?b2 ?b3 ?b4 ?_))
  case b1 => omega
  case b2 => rw [hz2]; omega
  case b3 => unfold maxLen; omega
  case b4 => simp
  intro w3 hown hgrow
  clear o1 o2
  have hs2 : (w1.alloc (.cells (judL D).toArray 121)).heap.size = w1.heap.size + 1 := by simp
  have HS2 := hd9 hs2
  change Hid (St _ _ _) at J2
  have B3 : Hid (Below (w1.heap.size + 1) (w1.alloc (.cells (judL D).toArray 121)) w3) := (Below.refl _ _).grown hgrow (by rw [hs2]; exact Nat.le_refl _) (by simp)
  have J3 := hd9 (J2.out.belowB B3.out (Nat.lt_succ_self _))
  have B3w := hd9 (B2.out.trans (B3.out.mono (by have := B1.out.size; omega)))
  have D3 := hd9 (HD.out.below B3w.out)
  have B30 := hd9 (HB.out.trans (B3w.out.mono HB.out.size))
  have hDJ : D < w1.heap.size := by have := B1.out.size; omega
  have O3 := hd9 hown
  have HDL := hd9 HD.out.o
  clear hgrow hs2 B3 J2 B2 hown HD
  have NJ0 : Hid (∀ g, v.ownBlock = some g → g ≠ w1.heap.size) := fun g hg => by have := (World.ownsRow.lt HDL.out g hg).2; have := B1.out.size; omega
  go_wp2_with fail
  go_loopw [7, 19] (fun vn i wr => ∃ (j : Nat) (un uv : Value) (nk : List Nd) (nm : List ByteArray), j ≤ os.length ∧ un = vn ∧ i = .int .i64 j ∧ Hid (Df wr D w0.heap.size z uv nk) ∧ Hid (St wr w1.heap.size (judL D)) ∧ Hid (nm.length = j) ∧ Hid (wr.ownsRow (w1.heap.size + 1) 9 1 un j (nm.map Value.string)) ∧ Hid (runO z (os.drop j) nk j nm = res) ∧ Hid (Below w0.heap.size w0 wr) ∧ Hid (∀ g, uv.ownBlock = some g → g ≠ w1.heap.size)) (fun _ i _ => os.length - (intOf i).toNat)
  case atStart => exact ⟨0, _, v, ns, [], Nat.zero_le _, rfl, rfl, D3, J3, (show _ = _ from rfl), O3, HRES, B30, NJ0⟩
  case round =>
    clear HRES D3 J3 O3 B30 NJ0 B3w
    obtain ⟨j, un, uv, nk, nm, hj, rfl, rfl, DK, JK, NL, ON, HRS, BK, NJ⟩ := hrel
    by_cases hlt : j < os.length
    · have hltI : (j : Int) < (os.length : Int) := by omega
      obtain ⟨q0, q1, q2, q3, q4⟩ := (HC.out j hlt).below BK.out hbb
      have HGO : Hid ((doO nk (oAt os j) z).1 ≠ 0 → ((doO nk (oAt os j) z).1, j, nk, nm) = res) := fun hne => (runO_bad hlt hne).symm.trans HRS.out
      have HGN : Hid ((doO nk (oAt os j) z).1 = 0 → runO z (os.drop (j + 1)) (doO nk (oAt os j) z).2.1 (j + 1) (nm ++ [(doO nk (oAt os j) z).2.2]) = res) := fun he => (runO_good hlt he).symm.trans HRS.out
      have HIW : Hid (∀ W, Calls Tryz.prog 59 #[.agg #[.int .i64 (oAt os j).kind, .string (oAt os j).path, .string (oAt os j).data, .int .i64 (oAt os j).ver, .bool (oAt os j).seq]] W fun e w' => e = .returned (.bool (wfO (oAt os j))) ∧ Below W.heap.size W w') := fun W => iwell_any W _ (HOS.out j hlt).2
      clear HRS
      generalize oAt os j = oj at *
      have BA : Hid (Below wr.heap.size wr (wr.alloc (.cells #[.int .i64 oj.kind, .string oj.path, .string oj.data, .int .i64 oj.ver, .bool oj.seq] 40))) := (Below.refl _ _).alloc (Nat.le_refl _) _
      have XA : Hid (St (wr.alloc (.cells #[.int .i64 oj.kind, .string oj.path, .string oj.data, .int .i64 oj.ver, .bool oj.seq] 40)) wr.heap.size [.int .i64 oj.kind, .string oj.path, .string oj.data, .int .i64 oj.ver, .bool oj.seq]) := St.new _ _ _
      go_wp2_with fail
      clear q0 q1 q2 q3 q4
      generalize wr.alloc _ = wa at *
      refine (HIW.out _).mono ?_
      rintro e w2 ⟨rfl, b2⟩
      have X2 := hd9 (XA.out.below b2)
      have B2 := hd9 (BA.out.trans (b2.mono BA.out.size))
      clear b2 XA BA HIW
      have D2 := hd9 (DK.out.below B2.out)
      have J2 := hd9 (JK.out.below B2.out)
      have O2 := hd9 (rowP_below ON.out B2.out)
      have BW := hd9 (BK.out.trans (B2.out.mono BK.out.size))
      have hJr : w1.heap.size < wr.heap.size := JK.out.lt
      have HUV : Hid (∀ g, uv.ownBlock = some g → g < wr.heap.size) := fun g hg => (World.ownsRow.lt DK.out.o g hg).2
      clear DK JK ON BK B2
      cases hwf : wfO oj with
      | false =>
        have HR9 : Hid ((1, j, nk, nm) = res) := by
          have e9 : doO nk oj z = (1, nk, ⟨#[]⟩) := by unfold doO; rw [hwf]; rfl
          have := HGO.out
          rw [e9] at this
          exact this (show (1 : Int) ≠ 0 by decide)
        clear HGO HGN hwf
        go_wp2_with fail
        rw [← HR9.out]
        exact bodyPost_ret (v := .tuple #[.slice none 0 0, .iface 115 (.agg #[.int .i64 (j : Int), flt 1])]) (by simp [results, Tryz.results30, go_sem, flt]) rfl ⟨BW.out, .inl ⟨show (1 : Int) ≠ 0 by decide, rfl⟩⟩
      | true =>
        obtain ⟨kk, pp, da, vv, sq⟩ := oj
        have D3 : Hid (Df w2.drew D w0.heap.size z uv nk) := D2.out.below (below_drewN' w2 1)
        have J3 : Hid (St w2.drew w1.heap.size (judL D)) := J2.out.below (below_drewN' w2 1)
        have O3 : Hid (w2.drew.ownsRow (w1.heap.size + 1) 9 1 un j (nm.map Value.string)) := O2.out
        have X3 : Hid (St w2.drew wr.heap.size [.int .i64 kk, .string pp, .string da, .int .i64 vv, .bool sq]) := X2.out.below (below_drewN' w2 1)
        have B3 : Hid (Below w0.heap.size w0 w2.drew) := BW.out.trans ((below_drewN' w2 1).mono BW.out.size)
        obtain ⟨HC1, HC2, HC3, HC4⟩ : Hid _ ∧ Hid _ ∧ Hid _ ∧ Hid _ := judge_any w2.drew D w0.heap.size z uv nk ⟨kk, pp, da, vv, sq⟩ D3.out hwf HZ.out B3.out.size (fun W' hW' => HSF.out W' (B3.out.trans (hW'.mono B3.out.size)))
        have hkk : kk = 1 ∨ kk = 2 ∨ kk = 3 ∨ kk = 4 := wfO_kind hwf
        clear D2 J2 O2 X2 BW hwf
        go_wp2_with fail
        generalize doO nk ⟨kk, pp, da, vv, sq⟩ z = dd at *
        have SN9 : Hid (∃ F, w2.drew.cell? ⟨w1.heap.size, kk.toNat, none⟩ = some F ∧ F = (judL D).getD kk.toNat undef) := by
          rcases hkk with rfl | rfl | rfl | rfl
          · exact ⟨_, J3.out.cl 1 _ rfl, rfl⟩
          · exact ⟨_, J3.out.cl 2 _ rfl, rfl⟩
          · exact ⟨_, J3.out.cl 3 _ rfl, rfl⟩
          · exact ⟨_, J3.out.cl 4 _ rfl, rfl⟩
        obtain ⟨F, hF, hF2⟩ := SN9.out
        have HS9 : Hid (∀ W : World, St W wr.heap.size [.int .i64 kk, .string pp, .string da, .int .i64 vv, .bool sq] → St W w1.heap.size (judL D) → W.cell? ⟨wr.heap.size, 0, none⟩ = some (.int .i64 kk) ∧ W.cell? ⟨wr.heap.size, 1, none⟩ = some (.string pp) ∧ W.cell? ⟨wr.heap.size, 2, none⟩ = some (.string da) ∧ W.cell? ⟨wr.heap.size, 3, none⟩ = some (.int .i64 vv) ∧ W.cell? ⟨wr.heap.size, 4, none⟩ = some (.bool sq) ∧ W.cell? ⟨w1.heap.size, kk.toNat, none⟩ = some F) := by
          intro W hx hj
          refine ⟨hx.cl 0 _ rfl, hx.cl 1 _ rfl, hx.cl 2 _ rfl, hx.cl 3 _ rfl, hx.cl 4 _ rfl, hj.cl _ _ ?_⟩
          rw [hF2]
          rcases hkk with rfl | rfl | rfl | rfl <;> rfl
        clear SN9 hF
        refine wp_region_held_drew (S := fun W => W.cell? ⟨wr.heap.size, 0, none⟩ = some (.int .i64 kk) ∧ W.cell? ⟨wr.heap.size, 1, none⟩ = some (.string pp) ∧ W.cell? ⟨wr.heap.size, 2, none⟩ = some (.string da) ∧ W.cell? ⟨wr.heap.size, 3, none⟩ = some (.int .i64 vv) ∧ W.cell? ⟨wr.heap.size, 4, none⟩ = some (.bool sq) ∧ W.cell? ⟨w1.heap.size, kk.toNat, none⟩ = some F) (by kernel_rfl) (HS9.out _ X3.out J3.out) (fun hHeld => ?_)
        generalize w2.drew = w3 at *
        have hDb : wr.heap.size ≠ D := by omega
        have hJD : w1.heap.size ≠ D := by omega
        rcases hkk with rfl | rfl | rfl | rfl
        all_goals
          simp only [judL, List.getD_cons_succ, List.getD_cons_zero, show Int.toNat 1 = 1 from rfl, show Int.toNat 2 = 2 from rfl, show Int.toNat 3 = 3 from rfl, show Int.toNat 4 = 4 from rfl] at hF2
          subst hF2
          iterate 5 (refine tkI9 ?_ (by kernel_rfl) (fun _ => id) hHeld ?_ ?_; rotate_left; · intro w9 hS9; obtain ⟨k0, k1, k2, k3, k4, k5⟩ := hS9; simp only [show Int.toNat 1 = 1 from rfl, show Int.toNat 2 = 2 from rfl, show Int.toNat 3 = 3 from rfl, show Int.toNat 4 = 4 from rfl] at k5; go_simp; try with_reducible rfl)
          refine rdA9 5 rfl (by kernel_rfl) (fun K hK => ?_)
          go_simp
          first | refine (HC1.out rfl).mono ?_ | refine (HC2.out rfl).mono ?_ | refine (HC3.out rfl).mono ?_ | refine (HC4.out rfl).mono ?_
          rintro e w4 ⟨v4, rfl, d4, t4⟩
          have X4 := hd9 (t4.st X3.out hDb (fun e => by have := HUV.out _ e; omega))
          have J4 := hd9 (t4.st J3.out hJD (fun e => NJ.out _ e rfl))
          have O4 := hd9 (rowP_tw O3.out t4 (fun g hg => by have := (World.ownsRow.lt O3.out g hg).1; omega) (fun g hg e => rows_apart O3.out D3.out.o (by decide) g hg e.symm))
          have B4 := hd9 (B3.out.trans (t4.below B3.out.size hDlo (fun g hg => (World.ownsRow.lt D3.out.o g hg).1)))
          have NJ4 : Hid (∀ g, v4.ownBlock = some g → g ≠ w1.heap.size) := fun g hg => by
            rcases t4.own with e | e | ⟨q, e, hq⟩
            · exact NJ.out g (e ▸ hg)
            · rw [e] at hg; cases hg
            · rw [e] at hg; have := Option.some.inj hg; have := J3.out.lt; omega
          have D4 := hd9 d4
          clear d4 t4 hHeld HC1 HC2 HC3 HC4
          refine hK.out _ _ (HS9.out _ X4.out J4.out) (fun hHeld => ?_)
          clear hK K
          by_cases hc : dd.1 = 0
          · have HN2 := hd9 (HGN.out hc)
            have HJV : JV dd = #[.string dd.2.2, .nilIface] := by unfold JV; rw [if_pos hc]
            rw [HJV]
            clear HGO HGN HJV hc
            iterate 5 (refine tkI9 ?_ (by kernel_rfl) (fun _ => id) hHeld ?_ ?_; rotate_left; · intro w9 hS9; clear hS9; go_simp; try with_reducible rfl)
            refine wpAnyH_done (by kernel_rfl) ?_ _
            simp only [Act.put, sT9, sZ9, sS9]
            clear hHeld HS9 X3 J3 O3 B3 D3 X4
            have hJ4 := J4.out.lt
            go_wp2_with (at_builtin; go_must (refine wpList_append_lies _ rfl _ _ 32 rfl (w1.heap.size + 1) 9 i0 (.string ByteArray.empty) 1 16 Tryz.underlying32 hi hz0 hz1 hz2 rfl (by decide) _ _ _ rfl (O4.out.alloc _) ⟨w4.heap.size, 0, none⟩ 1 1 [.string dd.2.2] rfl rfl (cell_one_new _ _ _) (by intro u hu; simp at hu; subst hu; rfl) (by decide) ?c3 ?c4 ?c5 (w4.heap.size + 1) (by simp) ?_))
            case c3 => unfold maxLen; omega
            case c4 => omega
            case c5 => simp; omega
            intro g5 cap5 w5 ho5 hg5 hat _
            have A5 : Below w4.heap.size w4 (w4.alloc (.cells #[.string dd.2.2] 9)) := (Below.refl _ _).alloc (Nat.le_refl _) _
            have D5 := hd9 ((D4.out.below A5).grown hg5 (fun e => by have := (World.ownsRow.lt O4.out D e.symm).1; omega) (fun g hg e => rows_apart O4.out D4.out.o (by decide) g e.symm hg.symm))
            have J5 := hd9 ((J4.out.below A5).grown hg5 (fun e => by have := (World.ownsRow.lt O4.out _ e.symm).1; omega))
            have B5 := hd9 ((B4.out.trans (A5.mono B4.out.size)).grown hg5 (Nat.le_trans B4.out.size A5.size) (fun k hk => by have := (World.ownsRow.lt O4.out k hk).1; omega))
            have NL5 : Hid ((nm ++ [dd.2.2]).length = j + 1) := by show _ = _; rw [List.length_append, NL.out]; rfl
            have O5 : Hid (w5.ownsRow (w1.heap.size + 1) 9 1 (.slice (some ⟨g5, 0, none⟩) (j + 1) cap5) (j + 1) ((nm ++ [dd.2.2]).map Value.string)) := by
              show World.ownsRow _ _ _ _ _ _ _; rw [List.map_append]; exact ho5
            clear ho5 hg5 hat A5 D4 J4 O4 B4
            go_wp2
            go_roundw
            case rel => exact ⟨j + 1, _, v4, dd.2.1, nm ++ [dd.2.2], by omega, rfl, by go_num, D5, J5, NL5, O5, HN2, B5, NJ4⟩
            case measure => simp [intOf]; omega
          · have HN2 := hd9 (HGO.out hc)
            have HJV : JV dd = #[.string ByteArray.empty, flt dd.1] := by unfold JV; rw [if_neg hc]
            rw [HJV]
            clear HGO HGN HJV
            unfold flt
            iterate 5 (refine tkI9 ?_ (by kernel_rfl) (fun _ => id) hHeld ?_ ?_; rotate_left; · intro w9 hS9; clear hS9; go_simp; try with_reducible rfl)
            refine wpAnyH_done (by kernel_rfl) ?_ _
            simp only [Act.put, sT9, sZ9, sS9]
            clear hHeld HS9 X3 J3 O3 B3 D3 X4
            go_wp2_with fail
            rw [← HN2.out]
            exact bodyPost_ret (v := .tuple #[.slice none 0 0, .iface 115 (.agg #[.int .i64 (j : Int), flt dd.1])]) (by simp [results, Tryz.results30, go_sem, flt]) rfl ⟨B4.out, .inl ⟨hc, rfl⟩⟩
    · have hjn : j = os.length := by omega
      have HN2 : Hid ((0, j, nk, nm) = res) := by
        have := HRS.out
        rw [List.drop_of_length_le (by omega)] at this
        exact this
      subst hjn
      have hun : ∃ ua uc, un = .slice ua os.length uc := by
        rcases ON.out.2 with ⟨rfl, h0⟩ | ⟨g, cap, cur, rfl, -⟩
        · exact ⟨_, _, by rw [h0]⟩
        · exact ⟨_, _, rfl⟩
      obtain ⟨ua, uc, rfl⟩ := hun
      go_wp2_with fail
      rw [← HN2.out]
      refine bodyPost_ret (v := .tuple #[.slice ua os.length uc, .nilIface]) (by simp [results, Tryz.results30, go_sem]) rfl ⟨BK.out, .inr ⟨rfl, _, uv, rfl, ?_, DK.out⟩⟩
      show World.ownsRow _ _ _ _ _ nm.length (nm.map Value.string)
      rw [NL.out]
      exact rowP_mono ON.out (by have := B1.out.size; omega)


/-- The head of what is read, and the rest. -/
theorem RdN.head9 {w : World} {ao : Option Addr} {n c : Nat} {a : Nd} {R : List Nd} (h : RdN w (.slice ao n c) (a :: R)) : n = R.length + 1 ∧ n ≤ c ∧ c ≤ maxLen ∧ ∃ b off, ao = some ⟨b, off, none⟩ ∧ b < w.heap.size ∧ CellsN w b off a ∧ RdN w (.slice (if c = 1 then some ⟨b, off, none⟩ else some ⟨b, off + 7, none⟩) R.length (c - 1)) R := by
  obtain ⟨a', c', e, h1, h2, h3⟩ := h
  simp only [Value.slice.injEq, List.length_cons] at e
  obtain ⟨rfl, rfl, rfl⟩ := e
  refine ⟨rfl, h1, h2, ?_⟩
  rcases h3 with h3 | ⟨b, off, rfl, hb, hc⟩
  · cases h3
  refine ⟨b, off, rfl, hb, ?_, ?_⟩
  · have := hc 0 (by simp)
    simpa [nAt] using this
  · refine ⟨_, _, rfl, by simp at h1; omega, by omega, ?_⟩
    by_cases hR : R = []
    · exact .inl hR
    · have : 0 < R.length := List.length_pos_iff.2 hR
      simp at h1
      rw [if_neg (by omega)]
      refine .inr ⟨b, off + 7, rfl, hb, fun i hi => ?_⟩
      have := hc (i + 1) (by simp; omega)
      rw [show off + (i + 1) * 7 = off + 7 + i * 7 by omega] at this
      simpa [nAt] using this
theorem dif_del9 (a : Nd) (R : List Nd) : dif (a :: R) [] = delE a :: dif R [] := by
  cases R with
  | nil => simp [dif]
  | cons x R => simp [dif]
theorem dif_put9 (b : Nd) (R : List Nd) : dif [] (b :: R) = putE b :: dif [] R := by simp [dif]
theorem dif_lt9 {a b : Nd} (A B : List Nd) (h : ltP a.path b.path = true) : dif (a :: A) (b :: B) = delE a :: dif A (b :: B) := by
  rw [dif, if_neg (by rw [ltP_asymm h]; decide), if_pos h]
theorem dif_gt9 {a b : Nd} (A B : List Nd) (h : ltP b.path a.path = true) : dif (a :: A) (b :: B) = putE b :: dif (a :: A) B := by
  rw [dif, if_pos h]
theorem dif_eq9 {a b : Nd} (A B : List Nd) (h : ltP a.path b.path = false) (h2 : ltP b.path a.path = false) : dif (a :: A) (b :: B) = if eqNd a b then dif A B else putE b :: dif A B := by
  rw [dif, if_neg (by rw [h2]; decide), if_neg (by rw [h]; decide)]

set_option linter.unusedSimpArgs false in
set_option maxHeartbeats 4000000 in
set_option maxRecDepth 100000 in
theorem diffs_any (w : World) (va vb : Value) (Al Bl : List Nd) (ha : RdN w va Al) (hb : RdN w vb Bl) (hna : Al.length ≤ 1000) (hnb : Bl.length ≤ 1000) :
    Calls Tryz.prog 31 #[va, vb] w fun e w' => ∃ v', e = .returned v' ∧ OwnE 59 w' w.heap.size v' (dif Al Bl) ∧ Below w.heap.size w w' := by
  obtain ⟨i0, hi0, hz0, hz1, hz2⟩ := info_parts Tryz.infoEP
  obtain ⟨res, hres⟩ : ∃ res, res = dif Al Bl := ⟨_, rfl⟩
  have HDL : Hid (res.length ≤ 2000) := by show _ ≤ _; rw [hres]; have := dif_len Al Bl; omega
  have HA := hd9 ha
  have HB := hd9 hb
  have HRS : Hid ([] ++ dif Al Bl = res) := by show _ = _; rw [hres]; rfl
  rw [← hres]
  clear ha hb hres
  go_enter Tryz.func31, Tryz.ntmps31
  go_wp2_with fail
  go_loopw [0, 1, 5] (fun ua ub ue wr => ∃ (Ak Bk : List Nd) (acc : List Ef) (xa xb xe : Value), xa = ua ∧ xb = ub ∧ xe = ue ∧ Ak.length + Bk.length ≤ 2000 ∧ Hid (RdN w xa Ak) ∧ Hid (RdN w xb Bk) ∧ Hid (acc ++ dif Ak Bk = res) ∧ Hid (OwnE 59 wr w.heap.size xe acc) ∧ Hid (Below w.heap.size w wr)) (fun ua ub _ _ => (match ua with | .slice _ n _ => n | _ => 0) + (match ub with | .slice _ n _ => n | _ => 0))
  case atStart => exact ⟨Al, Bl, [], _, _, _, rfl, rfl, rfl, by omega, HA, HB, HRS, World.ownsRow_nil _ _ _ _, Below.refl _ _⟩
  case round =>
    clear HA HB HRS
    obtain ⟨Ak, Bk, acc, xa, xb, xe, rfl, rfl, rfl, hlen, RA, RB, HRS, OE, BK⟩ := hrel
    obtain ⟨aa, ca, rfl, -, -⟩ := RA.out.len
    obtain ⟨ab, cb, rfl, -, -⟩ := RB.out.len
    obtain ⟨ae, ce, rfl⟩ := OE.out.slice9
    have sB := BK.out.size
    cases Ak with
    | nil =>
      cases Bk with
      | nil =>
        have HN : Hid (acc = res) := by have := HRS.out; simp [dif] at this; exact this
        go_wp2_with fail
        rw [← HN.out]
        exact bodyPost_ret (v := .slice ae acc.length ce) (by simp [results, Tryz.results31, go_sem]) rfl ⟨_, rfl, OE.out, BK.out⟩
      | cons b Bs =>
        obtain ⟨-, hncb, hcmb, b2, o2, rfl, hb2, hce, hrd⟩ := RB.out.head9
        have RT := hd9 hrd
        have HCB := hd9 hce
        have HN : Hid ((acc ++ [putE b]) ++ dif [] Bs = res) := by have := HRS.out; rw [dif_put9] at this; show _ = _; rw [List.append_assoc]; exact this
        have hal : acc.length + 1 ≤ 2000 := by have := HDL.out; rw [← HN.out] at this; simp at this; omega
        have hB1 : ¬ ((Bs.length : Int) + 1 = 0) := by omega
        clear RB hce hrd HRS
        go_wp2_with fail
        have OE2 : Hid (OwnE 59 wr.drew w.heap.size (.slice ae acc.length ce) acc) := OE.out.below (below_drewN' wr 1)
        have BK2 : Hid (Below w.heap.size w wr.drew) := BK.out.trans ((below_drewN' wr 1).mono BK.out.size)
        clear OE BK
        have OE := OE2
        have BK := BK2
        clear OE2 BK2
        refine wp_region_held_drew (S := fun W => True) (by kernel_rfl) trivial (fun hHeld => ?_)
        generalize wr.drew = wa at *
        iterate 2 (refine tkI9 ?_ (by kernel_rfl) (fun _ => id) hHeld ?_ ?_; rotate_left; · intro w9 hS9; clear hS9; go_simp; try with_reducible rfl)
        refine tkI9 (.bool false) (by kernel_rfl) (fun _ => id) hHeld ?_ ?_
        · intro w9 hS9; clear hS9; go_simp; try (first | rfl | omega | simp_all)
        iterate 5 (refine tkI9 ?_ (by kernel_rfl) (fun _ => id) hHeld ?_ ?_; rotate_left; · intro w9 hS9; clear hS9; go_simp; try with_reducible rfl)
        iterate 9 (refine tkN9 (by kernel_rfl) (fun _ => id) hHeld ?_)
        iterate 3 (refine tkI9 ?_ (by kernel_rfl) (fun _ => id) hHeld ?_ ?_; rotate_left; · intro w9 hS9; clear hS9; go_simp; try with_reducible rfl)
        refine wpAnyH_done (by kernel_rfl) ?_ _
        simp only [Act.put, sT9, sZ9, sS9]
        clear hHeld
        go_wp2_with fail
        have OE2 : Hid (OwnE 59 wa.drew w.heap.size (.slice ae acc.length ce) acc) := OE.out.below (below_drewN' wa 1)
        have BK2 : Hid (Below w.heap.size w wa.drew) := BK.out.trans ((below_drewN' wa 1).mono BK.out.size)
        clear OE BK
        have OE := OE2
        have BK := BK2
        clear OE2 BK2
        refine wp_region_held_drew (S := fun W => True) (by kernel_rfl) trivial (fun hHeld => ?_)
        generalize wa.drew = wb at *
        iterate 4 (refine tkI9 ?_ (by kernel_rfl) (fun _ => id) hHeld ?_ ?_; rotate_left; · intro w9 hS9; clear hS9; go_simp; try with_reducible rfl)
        iterate 9 (refine tkN9 (by kernel_rfl) (fun _ => id) hHeld ?_)
        iterate 2 (refine tkI9 ?_ (by kernel_rfl) (fun _ => id) hHeld ?_ ?_; rotate_left; · intro w9 hS9; clear hS9; go_simp; try with_reducible rfl)
        refine wpAnyH_done (by kernel_rfl) ?_ _
        simp only [Act.put, sT9, sZ9, sS9]
        clear hHeld
        obtain ⟨y0, y1, y2, y3, y4, y5, y6⟩ := (HCB.out.below BK.out hb2).all
        have sB := BK.out.size
        have HO9 : Hid (OwnE 59 wb w.heap.size (.slice ae acc.length ce) acc) := OE
        have HB9 : Hid (Below w.heap.size w wb) := BK
        go_wp2_with (at_builtin; go_must (refine wpList_append_own _ rfl _ _ 33 rfl w.heap.size 59 i0 (.agg #[.bool false, .string ByteArray.empty, .string ByteArray.empty, .int .i64 0, .int .i64 0, .int .i64 0, .int .i64 0, .int .i64 0]) 8 80 Tryz.underlying33 hi0 hz0 hz1 hz2 rfl (by decide) _ _ _ rfl (HO9.out.alloc _) ⟨wb.heap.size, 0, none⟩ 1 1 (efL (putE b)) rfl rfl (efLP_cells _ _ _) (efLP_one _) ?c1 ?c2 ?c3 ?_))
        case c1 => unfold maxLen; omega
        case c2 => omega
        case c3 => simp; omega
        intro v5 w5 ho5 hg5 _
        obtain ⟨o5, b5⟩ := HO9.out.snocP HB9.out ho5 hg5
        have O5 : Hid (OwnE 59 w5 w.heap.size v5 (acc ++ [putE b])) := o5
        have B5 : Hid (Below w.heap.size w w5) := b5
        clear o5 b5 ho5 hg5 HO9 HB9
        go_wp2_with fail
        exact ⟨⟨[], Bs, acc ++ [putE b], _, _, _, rfl, rfl, rfl, by simp at hlen ⊢; omega, RA, RT, HN, O5, B5⟩, by simp⟩
    | cons a As =>
      obtain ⟨-, hnca, hcma, b1, o1, rfl, hb1, hce, hrd⟩ := RA.out.head9
      have RTA := hd9 hrd
      have HCA := hd9 hce
      clear hce hrd
      cases Bk with
      | nil =>
        obtain ⟨x0, x1, x2, x3, x4, x5, x6⟩ := (HCA.out.below BK.out hb1).all
        have HN : Hid ((acc ++ [delE a]) ++ dif As [] = res) := by have := HRS.out; rw [dif_del9] at this; show _ = _; rw [List.append_assoc]; exact this
        have hal : acc.length + 1 ≤ 2000 := by have := HDL.out; rw [← HN.out] at this; simp at this; omega
        clear RA HRS
        go_wp2_with fail
        go_quiet (fail)
        have HO9 : Hid (OwnE 59 (wr.drewN nq) w.heap.size (.slice ae acc.length ce) acc) := OE.out.below (below_drewN' wr nq)
        have HB9 : Hid (Below w.heap.size w (wr.drewN nq)) := BK.out.trans ((below_drewN' wr nq).mono BK.out.size)
        go_wp2_with (at_builtin; go_must (refine wpList_append_own _ rfl _ _ 33 rfl w.heap.size 59 i0 (.agg #[.bool false, .string ByteArray.empty, .string ByteArray.empty, .int .i64 0, .int .i64 0, .int .i64 0, .int .i64 0, .int .i64 0]) 8 80 Tryz.underlying33 hi0 hz0 hz1 hz2 rfl (by decide) _ _ _ rfl (HO9.out.alloc _) ⟨(wr.drewN nq).heap.size, 0, none⟩ 1 1 (efL (delE a)) rfl rfl (efLP_cells _ _ _) (efLP_one _) ?c1 ?c2 ?c3 ?_))
        case c1 => unfold maxLen; omega
        case c2 => omega
        case c3 => simp; omega
        intro v5 w5 ho5 hg5 _
        obtain ⟨o5, b5⟩ := HO9.out.snocP HB9.out ho5 hg5
        have O5 : Hid (OwnE 59 w5 w.heap.size v5 (acc ++ [delE a])) := o5
        have B5 : Hid (Below w.heap.size w w5) := b5
        clear o5 b5 ho5 hg5 HO9 HB9
        go_wp2_with fail
        exact ⟨⟨As, [], acc ++ [delE a], _, _, _, rfl, rfl, rfl, by simp at hlen ⊢; omega, RTA, RB, HN, O5, B5⟩, by simp⟩
      | cons b Bs =>
        obtain ⟨-, hncb, hcmb, b2, o2, rfl, hb2, hce, hrd⟩ := RB.out.head9
        have RTB := hd9 hrd
        have HCB := hd9 hce
        clear hce hrd
        have hA1 : ¬ ((As.length : Int) + 1 = 0) := by omega
        have hB1 : ¬ ((Bs.length : Int) + 1 = 0) := by omega
        have hA2 : (0 : Int) < (As.length : Int) + 1 := by omega
        go_wp2_with fail
        have OE2 : Hid (OwnE 59 wr.drew w.heap.size (.slice ae acc.length ce) acc) := OE.out.below (below_drewN' wr 1)
        have BK2 : Hid (Below w.heap.size w wr.drew) := BK.out.trans ((below_drewN' wr 1).mono BK.out.size)
        clear OE BK
        have OE := OE2
        have BK := BK2
        clear OE2 BK2
        refine wp_region_held_drew (S := fun W => W.cell? ⟨b1, o1, none⟩ = some (.string a.path) ∧ W.cell? ⟨b2, o2, none⟩ = some (.string b.path)) (by kernel_rfl) ⟨(HCA.out.below BK.out hb1).all.1, (HCB.out.below BK.out hb2).all.1⟩ (fun hHeld => ?_)
        generalize wr.drew = wa at *
        cases hl1 : Op.bytesLess a.path.toList b.path.toList with
        | true =>
          have HN : Hid ((acc ++ [delE a]) ++ dif As (b :: Bs) = res) := by have := HRS.out; rw [dif_lt9 As Bs hl1] at this; show _ = _; rw [List.append_assoc]; exact this
          have hal : acc.length + 1 ≤ 2000 := by have := HDL.out; rw [← HN.out] at this; simp at this; omega
          iterate 2 (refine tkI9 ?_ (by kernel_rfl) (fun _ => id) hHeld ?_ ?_; rotate_left; · intro w9 hS9; clear hS9; go_simp; try with_reducible rfl)
          refine tkI9 (.bool false) (by kernel_rfl) (fun _ => id) hHeld ?_ ?_
          · intro w9 hS9; clear hS9; go_simp; try (first | rfl | omega | simp_all)
          iterate 3 (refine tkI9 ?_ (by kernel_rfl) (fun _ => id) hHeld ?_ ?_; rotate_left; · intro w9 hS9; clear hS9; go_simp; try with_reducible rfl)
          refine tkI9 (.bool true) (by kernel_rfl) (fun _ => id) hHeld ?_ ?_
          · intro w9 hS9; clear hS9; go_simp; try (first | rfl | omega | simp_all)
          iterate 1 (refine tkI9 ?_ (by kernel_rfl) (fun _ => id) hHeld ?_ ?_; rotate_left; · intro w9 hS9; clear hS9; go_simp; try with_reducible rfl)
          iterate 8 (refine tkI9 ?_ (by kernel_rfl) (fun _ => id) hHeld ?_ ?_; rotate_left; · intro w9 hS9; obtain ⟨k0, k1⟩ := hS9; go_simp; try with_reducible rfl)
          refine tkI9 (.bool true) (by kernel_rfl) (fun _ => id) hHeld ?_ ?_
          · intro w9 hS9; clear hS9; go_simp; try (first | rfl | omega | simp_all)
          iterate 3 (refine tkI9 ?_ (by kernel_rfl) (fun _ => id) hHeld ?_ ?_; rotate_left; · intro w9 hS9; clear hS9; go_simp; try with_reducible rfl)
          refine wpAnyH_done (by kernel_rfl) ?_ _
          simp only [Act.put, sT9, sZ9, sS9]
          clear hHeld hl1
          obtain ⟨x0, x1, x2, x3, x4, x5, x6⟩ := (HCA.out.below BK.out hb1).all
          have sB := BK.out.size
          have HO9 : Hid (OwnE 59 wa w.heap.size (.slice ae acc.length ce) acc) := OE
          have HB9 : Hid (Below w.heap.size w wa) := BK
          go_wp2_with (at_builtin; go_must (refine wpList_append_own _ rfl _ _ 33 rfl w.heap.size 59 i0 (.agg #[.bool false, .string ByteArray.empty, .string ByteArray.empty, .int .i64 0, .int .i64 0, .int .i64 0, .int .i64 0, .int .i64 0]) 8 80 Tryz.underlying33 hi0 hz0 hz1 hz2 rfl (by decide) _ _ _ rfl (HO9.out.alloc _) ⟨wa.heap.size, 0, none⟩ 1 1 (efL (delE a)) rfl rfl (efLP_cells _ _ _) (efLP_one _) ?c1 ?c2 ?c3 ?_))
          case c1 => unfold maxLen; omega
          case c2 => omega
          case c3 => simp; omega
          intro v5 w5 ho5 hg5 _
          obtain ⟨o5, b5⟩ := HO9.out.snocP HB9.out ho5 hg5
          have O5 : Hid (OwnE 59 w5 w.heap.size v5 (acc ++ [delE a])) := o5
          have B5 : Hid (Below w.heap.size w w5) := b5
          clear o5 b5 ho5 hg5 HO9 HB9
          go_wp2_with fail
          exact ⟨⟨As, b :: Bs, acc ++ [delE a], _, _, _, rfl, rfl, rfl, by simp at hlen ⊢; omega, RTA, RB, HN, O5, B5⟩, by simp⟩
        | false =>
          have HL1 := hd9 hl1
          iterate 2 (refine tkI9 ?_ (by kernel_rfl) (fun _ => id) hHeld ?_ ?_; rotate_left; · intro w9 hS9; clear hS9; go_simp; try with_reducible rfl)
          refine tkI9 (.bool false) (by kernel_rfl) (fun _ => id) hHeld ?_ ?_
          · intro w9 hS9; clear hS9; go_simp; try (first | rfl | omega | simp_all)
          iterate 3 (refine tkI9 ?_ (by kernel_rfl) (fun _ => id) hHeld ?_ ?_; rotate_left; · intro w9 hS9; clear hS9; go_simp; try with_reducible rfl)
          refine tkI9 (.bool true) (by kernel_rfl) (fun _ => id) hHeld ?_ ?_
          · intro w9 hS9; clear hS9; go_simp; try (first | rfl | omega | simp_all)
          iterate 1 (refine tkI9 ?_ (by kernel_rfl) (fun _ => id) hHeld ?_ ?_; rotate_left; · intro w9 hS9; clear hS9; go_simp; try with_reducible rfl)
          iterate 8 (refine tkI9 ?_ (by kernel_rfl) (fun _ => id) hHeld ?_ ?_; rotate_left; · intro w9 hS9; obtain ⟨k0, k1⟩ := hS9; go_simp; try with_reducible rfl)
          refine tkI9 (.bool false) (by kernel_rfl) (fun _ => id) hHeld ?_ ?_
          · intro w9 hS9; clear hS9; go_simp; try (first | rfl | omega | simp_all)
          iterate 3 (refine tkI9 ?_ (by kernel_rfl) (fun _ => id) hHeld ?_ ?_; rotate_left; · intro w9 hS9; clear hS9; go_simp; try with_reducible rfl)
          refine wpAnyH_done (by kernel_rfl) ?_ _
          simp only [Act.put, sT9, sZ9, sS9]
          clear hHeld hl1
          go_wp2_with fail
          have OE2 : Hid (OwnE 59 wa.drew w.heap.size (.slice ae acc.length ce) acc) := OE.out.below (below_drewN' wa 1)
          have BK2 : Hid (Below w.heap.size w wa.drew) := BK.out.trans ((below_drewN' wa 1).mono BK.out.size)
          clear OE BK
          have OE := OE2
          have BK := BK2
          clear OE2 BK2
          refine wp_region_held_drew (S := fun W => W.cell? ⟨b1, o1, none⟩ = some (.string a.path) ∧ W.cell? ⟨b2, o2, none⟩ = some (.string b.path)) (by kernel_rfl) ⟨(HCA.out.below BK.out hb1).all.1, (HCB.out.below BK.out hb2).all.1⟩ (fun hHeld => ?_)
          generalize wa.drew = wb at *
          cases hl2 : Op.bytesLess b.path.toList a.path.toList with
          | true =>
            have HN : Hid ((acc ++ [putE b]) ++ dif (a :: As) Bs = res) := by have := HRS.out; rw [dif_gt9 As Bs hl2] at this; show _ = _; rw [List.append_assoc]; exact this
            have hal : acc.length + 1 ≤ 2000 := by have := HDL.out; rw [← HN.out] at this; simp at this; omega
            iterate 2 (refine tkI9 ?_ (by kernel_rfl) (fun _ => id) hHeld ?_ ?_; rotate_left; · intro w9 hS9; clear hS9; go_simp; try with_reducible rfl)
            refine tkI9 (.bool false) (by kernel_rfl) (fun _ => id) hHeld ?_ ?_
            · intro w9 hS9; clear hS9; go_simp; try (first | rfl | omega | simp_all)
            iterate 1 (refine tkI9 ?_ (by kernel_rfl) (fun _ => id) hHeld ?_ ?_; rotate_left; · intro w9 hS9; clear hS9; go_simp; try with_reducible rfl)
            iterate 8 (refine tkI9 ?_ (by kernel_rfl) (fun _ => id) hHeld ?_ ?_; rotate_left; · intro w9 hS9; obtain ⟨k0, k1⟩ := hS9; go_simp; try with_reducible rfl)
            refine tkI9 (.bool true) (by kernel_rfl) (fun _ => id) hHeld ?_ ?_
            · intro w9 hS9; clear hS9; go_simp; try (first | rfl | omega | simp_all)
            iterate 2 (refine tkI9 ?_ (by kernel_rfl) (fun _ => id) hHeld ?_ ?_; rotate_left; · intro w9 hS9; clear hS9; go_simp; try with_reducible rfl)
            refine wpAnyH_done (by kernel_rfl) ?_ _
            simp only [Act.put, sT9, sZ9, sS9]
            clear hHeld hl2
            obtain ⟨y0, y1, y2, y3, y4, y5, y6⟩ := (HCB.out.below BK.out hb2).all
            have sB := BK.out.size
            have HO9 : Hid (OwnE 59 wb w.heap.size (.slice ae acc.length ce) acc) := OE
            have HB9 : Hid (Below w.heap.size w wb) := BK
            go_wp2_with (at_builtin; go_must (refine wpList_append_own _ rfl _ _ 33 rfl w.heap.size 59 i0 (.agg #[.bool false, .string ByteArray.empty, .string ByteArray.empty, .int .i64 0, .int .i64 0, .int .i64 0, .int .i64 0, .int .i64 0]) 8 80 Tryz.underlying33 hi0 hz0 hz1 hz2 rfl (by decide) _ _ _ rfl (HO9.out.alloc _) ⟨wb.heap.size, 0, none⟩ 1 1 (efL (putE b)) rfl rfl (efLP_cells _ _ _) (efLP_one _) ?c1 ?c2 ?c3 ?_))
            case c1 => unfold maxLen; omega
            case c2 => omega
            case c3 => simp; omega
            intro v5 w5 ho5 hg5 _
            obtain ⟨o5, b5⟩ := HO9.out.snocP HB9.out ho5 hg5
            have O5 : Hid (OwnE 59 w5 w.heap.size v5 (acc ++ [putE b])) := o5
            have B5 : Hid (Below w.heap.size w w5) := b5
            clear o5 b5 ho5 hg5 HO9 HB9
            go_wp2_with fail
            exact ⟨⟨a :: As, Bs, acc ++ [putE b], _, _, _, rfl, rfl, rfl, by simp at hlen ⊢; omega, RA, RTB, HN, O5, B5⟩, by simp⟩
          | false =>
            have HL2 := hd9 hl2
            iterate 2 (refine tkI9 ?_ (by kernel_rfl) (fun _ => id) hHeld ?_ ?_; rotate_left; · intro w9 hS9; clear hS9; go_simp; try with_reducible rfl)
            refine tkI9 (.bool false) (by kernel_rfl) (fun _ => id) hHeld ?_ ?_
            · intro w9 hS9; clear hS9; go_simp; try (first | rfl | omega | simp_all)
            iterate 1 (refine tkI9 ?_ (by kernel_rfl) (fun _ => id) hHeld ?_ ?_; rotate_left; · intro w9 hS9; clear hS9; go_simp; try with_reducible rfl)
            iterate 8 (refine tkI9 ?_ (by kernel_rfl) (fun _ => id) hHeld ?_ ?_; rotate_left; · intro w9 hS9; obtain ⟨k0, k1⟩ := hS9; go_simp; try with_reducible rfl)
            refine tkI9 (.bool false) (by kernel_rfl) (fun _ => id) hHeld ?_ ?_
            · intro w9 hS9; clear hS9; go_simp; try (first | rfl | omega | simp_all)
            iterate 2 (refine tkI9 ?_ (by kernel_rfl) (fun _ => id) hHeld ?_ ?_; rotate_left; · intro w9 hS9; clear hS9; go_simp; try with_reducible rfl)
            refine wpAnyH_done (by kernel_rfl) ?_ _
            simp only [Act.put, sT9, sZ9, sS9]
            clear hHeld hl2
            go_wp2_with fail
            have OE2 : Hid (OwnE 59 wb.drew w.heap.size (.slice ae acc.length ce) acc) := OE.out.below (below_drewN' wb 1)
            have BK2 : Hid (Below w.heap.size w wb.drew) := BK.out.trans ((below_drewN' wb 1).mono BK.out.size)
            clear OE BK
            have OE := OE2
            have BK := BK2
            clear OE2 BK2
            refine wp_region_held_drew (S := fun W => CellsN W b1 o1 a ∧ CellsN W b2 o2 b) (by kernel_rfl) ⟨HCA.out.below BK.out hb1, HCB.out.below BK.out hb2⟩ (fun hHeld => ?_)
            generalize wb.drew = wc at *
            iterate 6 (refine tkI9 ?_ (by kernel_rfl) (fun _ => id) hHeld ?_ ?_; rotate_left; · intro w9 hS9; obtain ⟨hca, hcb⟩ := hS9; obtain ⟨x0, x1, x2, x3, x4, x5, x6⟩ := hca.all; obtain ⟨y0, y1, y2, y3, y4, y5, y6⟩ := hcb.all; go_simp; try with_reducible rfl)
            have HRS2 : Hid (acc ++ (if eqNd a b then dif As Bs else putE b :: dif As Bs) = res) := by have := HRS.out; rw [dif_eq9 As Bs HL1.out HL2.out] at this; exact this
            refine tkI9 (.bool (!eqNd a b)) (by kernel_rfl) (fun _ => id) hHeld ?_ ?_
            · intro w9 hS9; clear hS9; unfold eqNd
              cases e0 : (a.path.toList == b.path.toList) with
              | false => go_simp
              | true =>
                cases e1 : (a.data.toList == b.data.toList) with
                | false => go_simp
                | true =>
                  cases e2 : (a.ver == b.ver) with
                  | false => go_simp
                  | true =>
                    cases e3 : (a.cver == b.cver) with
                    | false => go_simp
                    | true =>
                      cases e4 : (a.cz == b.cz) with
                      | false => go_simp
                      | true =>
                        cases e5 : (a.mz == b.mz) with
                        | false => go_simp
                        | true =>
                          cases e6 : (a.pz == b.pz) with
                          | false => go_simp
                          | true => go_simp
            refine wpAnyH_done (by kernel_rfl) ?_ _
            simp only [Act.put, sT9, sZ9, sS9]
            clear hHeld
            have sB := BK.out.size
            cases heq : eqNd a b with
            | true =>
              have HN : Hid (acc ++ dif As Bs = res) := by have := HRS2.out; rw [heq, if_pos rfl] at this; exact this
              go_wp2_with fail
              have OE2 : Hid (OwnE 59 wc.drew w.heap.size (.slice ae acc.length ce) acc) := OE.out.below (below_drewN' wc 1)
              have BK2 : Hid (Below w.heap.size w wc.drew) := BK.out.trans ((below_drewN' wc 1).mono BK.out.size)
              refine wp_region_held_drew (S := fun W => True) (by kernel_rfl) trivial (fun hHeld => ?_)
              generalize wc.drew = wd at *
              iterate 1 (refine tkI9 ?_ (by kernel_rfl) (fun _ => id) hHeld ?_ ?_; rotate_left; · intro w9 hS9; clear hS9; go_simp; try with_reducible rfl)
              refine tkI9 (.slice (if ca = 1 then some ⟨b1, o1, none⟩ else some ⟨b1, o1 + 7, none⟩) As.length (ca - 1)) (by kernel_rfl) (fun _ => id) hHeld ?_ ?_
              · intro w9 hS9; clear hS9; go_simp; try (intro h9; omega)
              iterate 1 (refine tkI9 ?_ (by kernel_rfl) (fun _ => id) hHeld ?_ ?_; rotate_left; · intro w9 hS9; clear hS9; go_simp; try with_reducible rfl)
              refine tkI9 (.slice (if cb = 1 then some ⟨b2, o2, none⟩ else some ⟨b2, o2 + 7, none⟩) Bs.length (cb - 1)) (by kernel_rfl) (fun _ => id) hHeld ?_ ?_
              · intro w9 hS9; clear hS9; go_simp; try (intro h9; omega)
              iterate 2 (refine tkI9 ?_ (by kernel_rfl) (fun _ => id) hHeld ?_ ?_; rotate_left; · intro w9 hS9; clear hS9; go_simp; try with_reducible rfl)
              refine wpAnyH_done (by kernel_rfl) ?_ _
              simp only [Act.put, sT9, sZ9, sS9]
              clear hHeld
              go_wp2_with fail
              exact ⟨⟨As, Bs, acc, _, _, _, rfl, rfl, rfl, by simp at hlen ⊢; omega, RTA, RTB, HN, OE2, BK2⟩, by simp; omega⟩
            | false =>
              have HN : Hid ((acc ++ [putE b]) ++ dif As Bs = res) := by have := HRS2.out; rw [heq, if_neg (by decide)] at this; show _ = _; rw [List.append_assoc]; exact this
              have hal : acc.length + 1 ≤ 2000 := by have := HDL.out; rw [← HN.out] at this; simp at this; omega
              obtain ⟨y0, y1, y2, y3, y4, y5, y6⟩ := (HCB.out.below BK.out hb2).all
              have HO9 : Hid (OwnE 59 wc w.heap.size (.slice ae acc.length ce) acc) := OE
              have HB9 : Hid (Below w.heap.size w wc) := BK
              go_wp2_with (at_builtin; go_must (refine wpList_append_own _ rfl _ _ 33 rfl w.heap.size 59 i0 (.agg #[.bool false, .string ByteArray.empty, .string ByteArray.empty, .int .i64 0, .int .i64 0, .int .i64 0, .int .i64 0, .int .i64 0]) 8 80 Tryz.underlying33 hi0 hz0 hz1 hz2 rfl (by decide) _ _ _ rfl (HO9.out.alloc _) ⟨wc.heap.size, 0, none⟩ 1 1 (efL (putE b)) rfl rfl (efLP_cells _ _ _) (efLP_one _) ?c1 ?c2 ?c3 ?_))
              case c1 => unfold maxLen; omega
              case c2 => omega
              case c3 => simp; omega
              intro v5 w5 ho5 hg5 _
              obtain ⟨o5, b5⟩ := HO9.out.snocP HB9.out ho5 hg5
              have O5 : Hid (OwnE 59 w5 w.heap.size v5 (acc ++ [putE b])) := o5
              have B5 : Hid (Below w.heap.size w w5) := b5
              clear o5 b5 ho5 hg5 HO9 HB9
              go_wp2_with fail
              have OE2 : Hid (OwnE 59 w5.drew w.heap.size v5 (acc ++ [putE b])) := O5.out.below (below_drewN' w5 1)
              have BK2 : Hid (Below w.heap.size w w5.drew) := B5.out.trans ((below_drewN' w5 1).mono B5.out.size)
              refine wp_region_held_drew (S := fun W => True) (by kernel_rfl) trivial (fun hHeld => ?_)
              generalize w5.drew = wd at *
              iterate 1 (refine tkI9 ?_ (by kernel_rfl) (fun _ => id) hHeld ?_ ?_; rotate_left; · intro w9 hS9; clear hS9; go_simp; try with_reducible rfl)
              refine tkI9 (.slice (if ca = 1 then some ⟨b1, o1, none⟩ else some ⟨b1, o1 + 7, none⟩) As.length (ca - 1)) (by kernel_rfl) (fun _ => id) hHeld ?_ ?_
              · intro w9 hS9; clear hS9; go_simp; try (intro h9; omega)
              iterate 1 (refine tkI9 ?_ (by kernel_rfl) (fun _ => id) hHeld ?_ ?_; rotate_left; · intro w9 hS9; clear hS9; go_simp; try with_reducible rfl)
              refine tkI9 (.slice (if cb = 1 then some ⟨b2, o2, none⟩ else some ⟨b2, o2 + 7, none⟩) Bs.length (cb - 1)) (by kernel_rfl) (fun _ => id) hHeld ?_ ?_
              · intro w9 hS9; clear hS9; go_simp; try (intro h9; omega)
              iterate 2 (refine tkI9 ?_ (by kernel_rfl) (fun _ => id) hHeld ?_ ?_; rotate_left; · intro w9 hS9; clear hS9; go_simp; try with_reducible rfl)
              refine wpAnyH_done (by kernel_rfl) ?_ _
              simp only [Act.put, sT9, sZ9, sS9]
              clear hHeld
              go_wp2_with fail
              exact ⟨⟨As, Bs, acc ++ [putE b], _, _, _, rfl, rfl, rfl, by simp at hlen ⊢; omega, RTA, RTB, HN, OE2, BK2⟩, by simp; omega⟩

end Go.Proofs.YtdiingonnddkcaaGreatDoor
namespace Go.Proofs.YtdiingonnddkcaaGreatDoor
open Go.Shelf
def Tryz.laysM173_ren : Go.Shelf.Ren := ⟨fun | 173 => 119 | 246 => 126 | 283 => 137 | 284 => 138 | 285 => 139 | 286 => 140 | 129 => 149 | 317 => 148 | 318 => 150 | 319 => 151 | 320 => 152 | 337 => 155 | 338 => 156 | n => n, fun | 2 => 2 | 3 => 3 | 9 => 9 | 4 => 4 | 171 => 211 | 0 => 0 | 53 => 212 | 37 => 22 | 5 => 5 | 173 => 215 | 212 => 226 | 51 => 217 | 20 => 20 | 213 => 227 | 46 => 141 | 232 => 232 | 233 => 233 | n => n, fun | 17 => 4 | 18 => 5 | 19 => 6 | n => n⟩
theorem Tryz.laysM173 : Go.Proofs.LaysM.n173 Tryz.prog Tryz.laysM173_ren := {
  mixed := by kernel_rfl
  f129 := Tryz.func149.trans (congrArg some (by kernel_rfl))
  f173 := Tryz.func119.trans (congrArg some (by kernel_rfl))
  f246 := Tryz.func126.trans (congrArg some (by kernel_rfl))
  f283 := Tryz.func137.trans (congrArg some (by kernel_rfl))
  f284 := Tryz.func138.trans (congrArg some (by kernel_rfl))
  f285 := Tryz.func139.trans (congrArg some (by kernel_rfl))
  f286 := Tryz.func140.trans (congrArg some (by kernel_rfl))
  f317 := Tryz.func148.trans (congrArg some (by kernel_rfl))
  f318 := Tryz.func150.trans (congrArg some (by kernel_rfl))
  f319 := Tryz.func151.trans (congrArg some (by kernel_rfl))
  f320 := Tryz.func152.trans (congrArg some (by kernel_rfl))
  f337 := Tryz.func155.trans (congrArg some (by kernel_rfl))
  f338 := Tryz.func156.trans (congrArg some (by kernel_rfl))
  t0 := Tryz.underlying0
  a0 := Tryz.isAgg0
  z0 := Tryz.sizeOf0
  v0 := Tryz.zeroValue0
  t2 := Tryz.underlying2
  a2 := Tryz.isAgg2
  z2 := Tryz.sizeOf2
  v2 := Tryz.zeroValue2
  t3 := Tryz.underlying3
  a3 := Tryz.isAgg3
  z3 := Tryz.sizeOf3
  v3 := Tryz.zeroValue3
  t4 := Tryz.underlying4
  a4 := Tryz.isAgg4
  z4 := Tryz.sizeOf4
  v4 := Tryz.zeroValue4
  t5 := Tryz.underlying5
  a5 := Tryz.isAgg5
  z5 := Tryz.sizeOf5
  v5 := Tryz.zeroValue5
  t9 := Tryz.underlying9
  a9 := Tryz.isAgg9
  z9 := Tryz.sizeOf9
  v9 := Tryz.zeroValue9
  t20 := Tryz.underlying20
  a20 := Tryz.isAgg20
  z20 := Tryz.sizeOf20
  v20 := Tryz.zeroValue20
  t37 := Tryz.underlying22
  a37 := Tryz.isAgg22
  z37 := Tryz.sizeOf22
  v37 := Tryz.zeroValue22
  t46 := Tryz.underlying141
  a46 := Tryz.isAgg141
  z46 := Tryz.sizeOf141
  v46 := Tryz.zeroValue141
  t51 := Tryz.underlying217
  a51 := Tryz.isAgg217
  z51 := Tryz.sizeOf217
  v51 := Tryz.zeroValue217
  t53 := Tryz.underlying212
  a53 := Tryz.isAgg212
  z53 := Tryz.sizeOf212
  v53 := Tryz.zeroValue212
  t171 := Tryz.underlying211
  a171 := Tryz.isAgg211
  z171 := Tryz.sizeOf211
  v171 := Tryz.zeroValue211
  t173 := Tryz.underlying215
  a173 := Tryz.isAgg215
  z173 := Tryz.sizeOf215
  v173 := Tryz.zeroValue215
  t212 := Tryz.underlying226
  a212 := Tryz.isAgg226
  z212 := Tryz.sizeOf226
  v212 := Tryz.zeroValue226
  t213 := Tryz.underlying227
  a213 := Tryz.isAgg227
  z213 := Tryz.sizeOf227
  t232 := Tryz.underlying232
  a232 := Tryz.isAgg232
  z232 := Tryz.sizeOf232
  v232 := Tryz.zeroValue232
  t233 := Tryz.underlying233
  a233 := Tryz.isAgg233
  z233 := Tryz.sizeOf233
  v233 := Tryz.zeroValue233
  g17 := by kernel_rfl
  g18 := by kernel_rfl
  g19 := by kernel_rfl
  i0 := by kernel_rfl
  i2 := by kernel_rfl
  i3 := by kernel_rfl
  i4 := by kernel_rfl
  i5 := by kernel_rfl
  i9 := by kernel_rfl
  i20 := by kernel_rfl
  i37 := by kernel_rfl
  i46 := by kernel_rfl
  i51 := by kernel_rfl
  i53 := by kernel_rfl
  i171 := by kernel_rfl
  i173 := by kernel_rfl
  i212 := by kernel_rfl
  i232 := by kernel_rfl
  i233 := by kernel_rfl
  m17 := by kernel_rfl
  m18 := by kernel_rfl
  m19 := by kernel_rfl }
open Go.RowKit Go.Sort Go.Lib in
theorem Tryz.strconv_FormatInt_10 (n : Int) (h0 : -9223372036854775808 ≤ n) (h1 : n ≤ 9223372036854775807) (w : World) (htab : Lib.TabIs Tryz.prog w "internal/strconv.uint64pow10" .u64 Lib.pow10Tab) :
    Calls Tryz.prog 119 #[.int .i64 n, .int .i64 10] w fun e w' => e = .returned (.string ⟨(Lib.itoa n).toArray⟩) ∧ ∃ k os, w' = grow (w.drewN k) os := Any.strconv_FormatInt_10 Tryz.laysM173 n h0 h1 w htab
def Tryz.lays105_ren : Go.Shelf.Ren := ⟨fun | 105 => 120 | 212 => 127 | 99 => 72 | 165 => 128 | 166 => 129 | 170 => 130 | 169 => 131 | 263 => 141 | 264 => 142 | 206 => 99 | 240 => 143 | 241 => 144 | 276 => 153 | 277 => 154 | n => n, fun | 9 => 9 | 3 => 3 | 4 => 4 | 20 => 20 | 0 => 0 | 46 => 141 | 109 => 197 | 5 => 5 | 72 => 201 | 76 => 186 | 51 => 217 | 146 => 218 | 53 => 212 | 148 => 220 | 70 => 199 | 37 => 22 | 75 => 77 | 127 => 222 | 164 => 150 | 80 => 144 | n => n, fun | n => n⟩
theorem Tryz.lays105 : Go.Proofs.Lays.n105 Tryz.prog Tryz.lays105_ren := {
  mixed := by kernel_rfl
  f99 := Tryz.func72.trans (congrArg some (by kernel_rfl))
  f105 := Tryz.func120.trans (congrArg some (by kernel_rfl))
  f165 := Tryz.func128.trans (congrArg some (by kernel_rfl))
  f166 := Tryz.func129.trans (congrArg some (by kernel_rfl))
  f169 := Tryz.func131.trans (congrArg some (by kernel_rfl))
  f170 := Tryz.func130.trans (congrArg some (by kernel_rfl))
  f206 := Tryz.func99.trans (congrArg some (by kernel_rfl))
  f212 := Tryz.func127.trans (congrArg some (by kernel_rfl))
  f240 := Tryz.func143.trans (congrArg some (by kernel_rfl))
  f241 := Tryz.func144.trans (congrArg some (by kernel_rfl))
  f263 := Tryz.func141.trans (congrArg some (by kernel_rfl))
  f264 := Tryz.func142.trans (congrArg some (by kernel_rfl))
  f276 := Tryz.func153.trans (congrArg some (by kernel_rfl))
  f277 := Tryz.func154.trans (congrArg some (by kernel_rfl))
  t0 := Tryz.underlying0
  a0 := Tryz.isAgg0
  z0 := Tryz.sizeOf0
  v0 := Tryz.zeroValue0
  t3 := Tryz.underlying3
  a3 := Tryz.isAgg3
  z3 := Tryz.sizeOf3
  v3 := Tryz.zeroValue3
  t4 := Tryz.underlying4
  a4 := Tryz.isAgg4
  z4 := Tryz.sizeOf4
  v4 := Tryz.zeroValue4
  t5 := Tryz.underlying5
  a5 := Tryz.isAgg5
  z5 := Tryz.sizeOf5
  v5 := Tryz.zeroValue5
  t9 := Tryz.underlying9
  a9 := Tryz.isAgg9
  z9 := Tryz.sizeOf9
  v9 := Tryz.zeroValue9
  t20 := Tryz.underlying20
  a20 := Tryz.isAgg20
  z20 := Tryz.sizeOf20
  v20 := Tryz.zeroValue20
  t37 := Tryz.underlying22
  a37 := Tryz.isAgg22
  z37 := Tryz.sizeOf22
  v37 := Tryz.zeroValue22
  t46 := Tryz.underlying141
  a46 := Tryz.isAgg141
  z46 := Tryz.sizeOf141
  v46 := Tryz.zeroValue141
  t51 := Tryz.underlying217
  a51 := Tryz.isAgg217
  z51 := Tryz.sizeOf217
  v51 := Tryz.zeroValue217
  t53 := Tryz.underlying212
  a53 := Tryz.isAgg212
  z53 := Tryz.sizeOf212
  v53 := Tryz.zeroValue212
  t70 := Tryz.underlying199
  a70 := Tryz.isAgg199
  z70 := Tryz.sizeOf199
  v70 := Tryz.zeroValue199
  t72 := Tryz.underlying201
  a72 := Tryz.isAgg201
  z72 := Tryz.sizeOf201
  v72 := Tryz.zeroValue201
  t75 := Tryz.underlying77
  a75 := Tryz.isAgg77
  z75 := Tryz.sizeOf77
  v75 := Tryz.zeroValue77
  t76 := Tryz.underlying186
  a76 := Tryz.isAgg186
  z76 := Tryz.sizeOf186
  v76 := Tryz.zeroValue186
  t109 := Tryz.underlying197
  a109 := Tryz.isAgg197
  z109 := Tryz.sizeOf197
  v109 := Tryz.zeroValue197
  t127 := Tryz.underlying222
  a127 := Tryz.isAgg222
  z127 := Tryz.sizeOf222
  v127 := Tryz.zeroValue222
  t146 := Tryz.underlying218
  a146 := Tryz.isAgg218
  z146 := Tryz.sizeOf218
  v146 := Tryz.zeroValue218
  t148 := Tryz.underlying220
  a148 := Tryz.isAgg220
  z148 := Tryz.sizeOf220
  v148 := Tryz.zeroValue220
  t164 := Tryz.underlying150
  a164 := Tryz.isAgg150
  z164 := Tryz.sizeOf150
  v164 := Tryz.zeroValue150 }
theorem Tryz.Builder_Extra_105 : Builder.Extra Tryz.prog Tryz.lays105_ren := {
  sizeBuilder := by kernel_rfl
  liesBuilder := by kernel_rfl
  t5 := Tryz.underlying5
  a5 := Tryz.isAgg5
  z5 := Tryz.sizeOf5
  v5 := Tryz.zeroValue5
  infoByte := by kernel_rfl
  cellsByte := by kernel_rfl
  sizeByte := by kernel_rfl
  neB5 := by decide }
open Go.RowKit Go.Lib in
theorem Tryz.strings_Repeat (s : ByteArray) (c : Nat) (w : World) (hc : c ≤ 9223372036854775807) (hlen : s.size * c ≤ 140737488355328) :
    Calls Tryz.prog 120 #[.string s, .int .i64 c] w fun e w' => e = .returned (.string ⟨(Lib.repeatL s.data.toList c).toArray⟩) ∧ Below w.heap.size w w' := Any.strings_Repeat Tryz.lays105 Tryz.Builder_Extra_105 s c w hc hlen
end Go.Proofs.YtdiingonnddkcaaGreatDoor


