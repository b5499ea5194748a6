import Derived.Test.YtejhcebodlcloaaGreatDoorJ20
import Derived.Test.YtejhcebodlcloaaGreatDoorJ22
namespace Go.Proofs.YtejhcebodlcloaaGreatDoor
open Go.RowKit Go.Shelf

/-- The judges of a draft. -/
def judL (D : Nat) : List Value := [.nilFunc, .func (.func 74) #[.pointer (some ⟨D, 0, none⟩)] #[], .func (.func 75) #[.pointer (some ⟨D, 0, none⟩)] #[], .func (.func 76) #[.pointer (some ⟨D, 0, none⟩)] #[], .func (.func 77) #[.pointer (some ⟨D, 0, none⟩)] #[]]

set_option maxHeartbeats 2000000 in
set_option maxRecDepth 100000 in
theorem judges_any (w : World) (D : Nat) :
    Calls Tryz.prog 57 #[.pointer (some ⟨D, 0, none⟩)] w fun e w' => e = .returned (.agg (judL D).toArray) ∧ Below w.heap.size w w' := by
  have o1 : ∀ (W : World) (a : Addr) (m : Mode), (store a .nilFunc m).run Tryz.prog W = stored Tryz.prog W a .nilFunc m := fun W a m => run_store _ W a _ m rfl
  have o2 : ∀ (W : World) (a : Addr) (m : Mode) (f : Fn) (x y : Array Value), (store a (.func f x y) m).run Tryz.prog W = stored Tryz.prog W a (.func f x y) m := fun W a m f x y => run_store _ W a _ m rfl
  go_enter Tryz.func57, Tryz.ntmps57
  go_wp2
  exact bodyPost_ret (v := .agg (judL D).toArray) (by simp [results, Tryz.results57, go_sem, judL]) rfl ⟨rfl, (Below.refl _ _).alloc (Nat.le_refl _) _⟩

theorem St.grown {W W' : World} {b : Nat} {L : List Value} {r : Option Nat} (h : St W b L) (hg : W.grownBy W' r) (hr : some b ≠ r) : St W' b L := by
  have e := hg.block b h.lt hr
  refine ⟨Nat.lt_of_lt_of_le h.lt hg.size, fun j => ?_, fun j v hv => (World.cell?_of_block (w := W) (a := ⟨b, j, none⟩) e).trans (h.cl j v hv)⟩
  have := h.fz j
  unfold World.frozen? at this ⊢
  rw [e]; exact this
theorem Df.grown {W W' : World} {D lo : Nat} {z : Int} {v : Value} {ns : List Nd} {r : Option Nat} (h : Df W D lo z v ns) (hg : W.grownBy W' r) (hr : some D ≠ r) (hv : ∀ g, v.ownBlock = some g → some g ≠ r) : Df W' D lo z v ns :=
  ⟨h.s.grown hg hr, World.ownsRow.kept h.o hg (by
    cases hb : v.ownBlock with
    | none => exact .inl rfl
    | some g => exact .inr (hv g hb)), h.ne, h.n⟩
/-- Rows of different kinds lie apart. -/
theorem rows_apart {w : World} {lo lo' n n' k k' : Nat} {e e' : TypeId} {v v' : Value} {xs xs' : List Value} (h : w.ownsRow lo e k v n xs) (h' : w.ownsRow lo' e' k' v' n' xs') (hne : e ≠ e') : ∀ g, v.ownBlock = some g → some g ≠ v'.ownBlock := by
  intro g hg e9
  rcases h.2 with ⟨rfl, _⟩ | ⟨g1, c1, cur1, rfl, _, h1, _⟩
  · cases hg
  rcases h'.2 with ⟨rfl, _⟩ | ⟨g2, c2, cur2, rfl, _, h2, _⟩
  · cases e9
  simp only [Value.ownBlock, Option.some.injEq] at hg e9
  subst hg
  subst e9
  rw [h1] at h2
  simp at h2
  exact hne h2.2
theorem rowP_tw {w w' : World} {b lo k n : Nat} {o o' : Option Nat} {e : TypeId} {v : Value} {xs : List Value} (h : w.ownsRow lo e k v n xs) (t : Tw w b o w' o') (hb : ∀ g, v.ownBlock = some g → g ≠ b) (ho : ∀ g, v.ownBlock = some g → o ≠ some g) : w'.ownsRow lo e k v n xs := by
  refine ⟨h.1, ?_⟩
  rcases h.2 with hn | ⟨g, cap, cur, rfl, hbg, hgg, rest⟩
  · exact .inl hn
  · exact .inr ⟨g, cap, cur, rfl, hbg, by rw [t.block g (Array.getElem?_eq_some_iff.1 hgg).1 (hb g rfl) (ho g rfl)]; exact hgg, rest⟩
/-- The judge of an operation. -/
theorem judge_any (W : World) (D lo : Nat) (z : Int) (v : Value) (ns : List Nd) (o : Op5) (h : Df W D lo z v ns) (hw : wfO o = true) (hz : okS z = true) (hlo : lo ≤ W.heap.size)
    (hsf : ∀ W', Below W.heap.size W W' → ∀ n : Int, 0 ≤ n → n ≤ 2147483647 → Calls Tryz.prog 88 #[.int .i64 n] W' fun e w' => e = .returned (.string ⟨(six 12 n.toNat 6).toArray⟩) ∧ Below W'.heap.size W' w') :
    (o.kind = 1 → Calls Tryz.prog 74 #[.pointer (some ⟨D, 0, none⟩), .agg #[.int .i64 o.kind, .string o.path, .string o.data, .int .i64 o.ver, .bool o.seq]] W (JP W D lo z v (doO ns o z))) ∧
    (o.kind = 2 → Calls Tryz.prog 75 #[.pointer (some ⟨D, 0, none⟩), .agg #[.int .i64 o.kind, .string o.path, .string o.data, .int .i64 o.ver, .bool o.seq]] W (JP W D lo z v (doO ns o z))) ∧
    (o.kind = 3 → Calls Tryz.prog 76 #[.pointer (some ⟨D, 0, none⟩), .agg #[.int .i64 o.kind, .string o.path, .string o.data, .int .i64 o.ver, .bool o.seq]] W (JP W D lo z v (doO ns o z))) ∧
    (o.kind = 4 → Calls Tryz.prog 77 #[.pointer (some ⟨D, 0, none⟩), .agg #[.int .i64 o.kind, .string o.path, .string o.data, .int .i64 o.ver, .bool o.seq]] W (JP W D lo z v (doO ns o z))) :=
  ⟨fun hk => create_judge W D lo z v ns o h hw hk hz hlo hsf, fun hk => remove_judge W D lo z v ns o h hw hk hz, fun hk => set_judge W D lo z v ns o h hw hk hz, fun hk => check_judge W D lo z v ns o h hw hk⟩
/-- What doAll leaves behind. -/
def AllP (w0 : World) (lb D : Nat) (z : Int) (res : Int × Nat × List Nd × List ByteArray) (e : Ending) (w' : World) : Prop :=
  Below w0.heap.size w0 w' ∧
    ((res.1 ≠ 0 ∧ e = .returned (.tuple #[.slice none 0 0, .iface 105 (.agg #[.int .i64 (res.2.1 : Int), flt res.1])])) ∨
     (res.1 = 0 ∧ ∃ vn v', e = .returned (.tuple #[vn, .nilIface]) ∧ w'.ownsRow lb 9 1 vn res.2.2.2.length (res.2.2.2.map Value.string) ∧ Df w' D w0.heap.size z v' res.2.2.1))

set_option linter.unusedSimpArgs false in
set_option maxHeartbeats 4000000 in
set_option maxRecDepth 100000 in
theorem doAll_any (w0 w : World) (D : Nat) (z : Int) (v vo : Value) (ns : List Nd) (os : List Op5) (hB : Below w0.heap.size w0 w) (h : Df w D w0.heap.size z v ns) (hDlo : w0.heap.size ≤ D) (ho : RdO w0 vo os) (hos : ∀ i, i < os.length → (oAt os i).path.size ≤ 1048576 ∧ (oAt os i).data.size ≤ 1048576) (hz : okS z = true) (h1 : 1 ≤ os.length) (h2 : os.length ≤ 64)
    (hsf : ∀ W, Below w0.heap.size w0 W → ∀ n : Int, 0 ≤ n → n ≤ 2147483647 → Calls Tryz.prog 88 #[.int .i64 n] W fun e w' => e = .returned (.string ⟨(six 12 n.toNat 6).toArray⟩) ∧ Below W.heap.size W w') :
    Calls Tryz.prog 28 #[.pointer (some ⟨D, 0, none⟩), vo] w (AllP w0 w.heap.size D z (runO z os ns 0 [])) := by
  obtain ⟨i0, hi, hz0, hz1, hz2⟩ := info_parts Tryz.infoStr9
  obtain ⟨bo, cb, rfl, _, _⟩ := ho.len
  obtain ⟨res, hres⟩ : ∃ res, res = runO z os ns 0 [] := ⟨_, rfl⟩
  have HRES : Hid (runO z (os.drop 0) ns 0 [] = res) := hres.symm
  rw [← hres]
  have HB := hd9 hB
  have HD := hd9 h
  have HOS := hd9 hos
  have HZ := hd9 hz
  have HSF := hd9 hsf
  obtain ⟨bb, bof, rfl, hbb, HC⟩ : ∃ b off, bo = some ⟨b, off, none⟩ ∧ b < w0.heap.size ∧ Hid (∀ i, i < os.length → CellsO w0 b (off + i * 5) (oAt os i)) := by
    obtain ⟨ao', cap', e', -, -, h3⟩ := ho
    simp only [Value.slice.injEq] at e'
    obtain ⟨rfl, -, -⟩ := e'
    rcases h3 with h3 | ⟨b, o, rfl, hb, hc⟩
    · rw [h3] at h1; simp at h1
    · exact ⟨b, o, rfl, hb, hc⟩
  clear h ho hos hres hz hB hsf
  have hlt := HD.out.s.lt
  go_enter Tryz.func28, Tryz.ntmps28
  go_wp2_with fail
  refine (judges_any w D).mono ?_
  rintro e w1 ⟨rfl, b1⟩
  have B1 := hd9 b1
  have J2 : Hid (St (w1.alloc (.cells (judL D).toArray 111)) w1.heap.size (judL D)) := St.new _ _ _
  have B2 : Hid (Below w.heap.size w (w1.alloc (.cells (judL D).toArray 111))) := B1.out.alloc B1.out.size _
  unfold judL
  clear b1
  have o1 : ∀ (W : World) (a : Addr) (m : Mode), (store a .nilFunc m).run Tryz.prog W = stored Tryz.prog W a .nilFunc m := fun W a m => run_store _ W a _ m rfl
  have o2 : ∀ (W : World) (a : Addr) (m : Mode) (f : Fn) (x y : Array Value), (store a (.func f x y) m).run Tryz.prog W = stored Tryz.prog W a (.func f x y) m := fun W a m f x y => run_store _ W a _ m rfl
  go_wp2_with (at_make; go_must (refine wpList_make_own _ rfl _ _ 30 rfl (w1.heap.size + 1) 9 i0 (.string ByteArray.empty) 1 Tryz.underlying30 hi hz0 hz1 _ _ _ os.length rfl rfl ?b1 ?b2 ?b3 ?b4 ?_))
  case b1 => omega
  case b2 => rw [hz2]; omega
  case b3 => unfold maxLen; omega
  case b4 => simp
  intro w3 hown hgrow
  clear o1 o2
  have hs2 : (w1.alloc (.cells (judL D).toArray 111)).heap.size = w1.heap.size + 1 := by simp
  have HS2 := hd9 hs2
  change Hid (St _ _ _) at J2
  have B3 : Hid (Below (w1.heap.size + 1) (w1.alloc (.cells (judL D).toArray 111)) w3) := (Below.refl _ _).grown hgrow (by rw [hs2]; exact Nat.le_refl _) (by simp)
  have J3 := hd9 (J2.out.belowB B3.out (Nat.lt_succ_self _))
  have B3w := hd9 (B2.out.trans (B3.out.mono (by have := B1.out.size; omega)))
  have D3 := hd9 (HD.out.below B3w.out)
  have B30 := hd9 (HB.out.trans (B3w.out.mono HB.out.size))
  have hDJ : D < w1.heap.size := by have := B1.out.size; omega
  have O3 := hd9 hown
  have HDL := hd9 HD.out.o
  clear hgrow hs2 B3 J2 B2 hown HD
  have NJ0 : Hid (∀ g, v.ownBlock = some g → g ≠ w1.heap.size) := fun g hg => by have := (World.ownsRow.lt HDL.out g hg).2; have := B1.out.size; omega
  go_wp2_with fail
  go_loopw [7, 19] (fun vn i wr => ∃ (j : Nat) (un uv : Value) (nk : List Nd) (nm : List ByteArray), j ≤ os.length ∧ un = vn ∧ i = .int .i64 j ∧ Hid (Df wr D w0.heap.size z uv nk) ∧ Hid (St wr w1.heap.size (judL D)) ∧ Hid (nm.length = j) ∧ Hid (wr.ownsRow (w1.heap.size + 1) 9 1 un j (nm.map Value.string)) ∧ Hid (runO z (os.drop j) nk j nm = res) ∧ Hid (Below w0.heap.size w0 wr) ∧ Hid (∀ g, uv.ownBlock = some g → g ≠ w1.heap.size)) (fun _ i _ => os.length - (intOf i).toNat)
  case atStart => exact ⟨0, _, v, ns, [], Nat.zero_le _, rfl, rfl, D3, J3, (show _ = _ from rfl), O3, HRES, B30, NJ0⟩
  case round =>
    clear HRES D3 J3 O3 B30 NJ0 B3w
    obtain ⟨j, un, uv, nk, nm, hj, rfl, rfl, DK, JK, NL, ON, HRS, BK, NJ⟩ := hrel
    by_cases hlt : j < os.length
    · have hltI : (j : Int) < (os.length : Int) := by omega
      obtain ⟨q0, q1, q2, q3, q4⟩ := (HC.out j hlt).below BK.out hbb
      have HGO : Hid ((doO nk (oAt os j) z).1 ≠ 0 → ((doO nk (oAt os j) z).1, j, nk, nm) = res) := fun hne => (runO_bad hlt hne).symm.trans HRS.out
      have HGN : Hid ((doO nk (oAt os j) z).1 = 0 → runO z (os.drop (j + 1)) (doO nk (oAt os j) z).2.1 (j + 1) (nm ++ [(doO nk (oAt os j) z).2.2]) = res) := fun he => (runO_good hlt he).symm.trans HRS.out
      have HIW : Hid (∀ W, Calls Tryz.prog 58 #[.agg #[.int .i64 (oAt os j).kind, .string (oAt os j).path, .string (oAt os j).data, .int .i64 (oAt os j).ver, .bool (oAt os j).seq]] W fun e w' => e = .returned (.bool (wfO (oAt os j))) ∧ Below W.heap.size W w') := fun W => iwell_any W _ (HOS.out j hlt).2
      clear HRS
      generalize oAt os j = oj at *
      have BA : Hid (Below wr.heap.size wr (wr.alloc (.cells #[.int .i64 oj.kind, .string oj.path, .string oj.data, .int .i64 oj.ver, .bool oj.seq] 58))) := (Below.refl _ _).alloc (Nat.le_refl _) _
      have XA : Hid (St (wr.alloc (.cells #[.int .i64 oj.kind, .string oj.path, .string oj.data, .int .i64 oj.ver, .bool oj.seq] 58)) wr.heap.size [.int .i64 oj.kind, .string oj.path, .string oj.data, .int .i64 oj.ver, .bool oj.seq]) := St.new _ _ _
      go_wp2_with fail
      clear q0 q1 q2 q3 q4
      generalize wr.alloc _ = wa at *
      refine (HIW.out _).mono ?_
      rintro e w2 ⟨rfl, b2⟩
      have X2 := hd9 (XA.out.below b2)
      have B2 := hd9 (BA.out.trans (b2.mono BA.out.size))
      clear b2 XA BA HIW
      have D2 := hd9 (DK.out.below B2.out)
      have J2 := hd9 (JK.out.below B2.out)
      have O2 := hd9 (rowP_below ON.out B2.out)
      have BW := hd9 (BK.out.trans (B2.out.mono BK.out.size))
      have hJr : w1.heap.size < wr.heap.size := JK.out.lt
      have HUV : Hid (∀ g, uv.ownBlock = some g → g < wr.heap.size) := fun g hg => (World.ownsRow.lt DK.out.o g hg).2
      clear DK JK ON BK B2
      cases hwf : wfO oj with
      | false =>
        have HR9 : Hid ((1, j, nk, nm) = res) := by
          have e9 : doO nk oj z = (1, nk, ⟨#[]⟩) := by unfold doO; rw [hwf]; rfl
          have := HGO.out
          rw [e9] at this
          exact this (show (1 : Int) ≠ 0 by decide)
        clear HGO HGN hwf
        go_wp2_with fail
        rw [← HR9.out]
        exact bodyPost_ret (v := .tuple #[.slice none 0 0, .iface 105 (.agg #[.int .i64 (j : Int), flt 1])]) (by simp [results, Tryz.results28, go_sem, flt]) rfl ⟨BW.out, .inl ⟨show (1 : Int) ≠ 0 by decide, rfl⟩⟩
      | true =>
        obtain ⟨kk, pp, da, vv, sq⟩ := oj
        have D3 : Hid (Df w2.drew D w0.heap.size z uv nk) := D2.out.below (below_drewN' w2 1)
        have J3 : Hid (St w2.drew w1.heap.size (judL D)) := J2.out.below (below_drewN' w2 1)
        have O3 : Hid (w2.drew.ownsRow (w1.heap.size + 1) 9 1 un j (nm.map Value.string)) := O2.out
        have X3 : Hid (St w2.drew wr.heap.size [.int .i64 kk, .string pp, .string da, .int .i64 vv, .bool sq]) := X2.out.below (below_drewN' w2 1)
        have B3 : Hid (Below w0.heap.size w0 w2.drew) := BW.out.trans ((below_drewN' w2 1).mono BW.out.size)
        obtain ⟨HC1, HC2, HC3, HC4⟩ : Hid _ ∧ Hid _ ∧ Hid _ ∧ Hid _ := judge_any w2.drew D w0.heap.size z uv nk ⟨kk, pp, da, vv, sq⟩ D3.out hwf HZ.out B3.out.size (fun W' hW' => HSF.out W' (B3.out.trans (hW'.mono B3.out.size)))
        have hkk : kk = 1 ∨ kk = 2 ∨ kk = 3 ∨ kk = 4 := wfO_kind hwf
        clear D2 J2 O2 X2 BW hwf
        go_wp2_with fail
        generalize doO nk ⟨kk, pp, da, vv, sq⟩ z = dd at *
        have SN9 : Hid (∃ F, w2.drew.cell? ⟨w1.heap.size, kk.toNat, none⟩ = some F ∧ F = (judL D).getD kk.toNat undef) := by
          rcases hkk with rfl | rfl | rfl | rfl
          · exact ⟨_, J3.out.cl 1 _ rfl, rfl⟩
          · exact ⟨_, J3.out.cl 2 _ rfl, rfl⟩
          · exact ⟨_, J3.out.cl 3 _ rfl, rfl⟩
          · exact ⟨_, J3.out.cl 4 _ rfl, rfl⟩
        obtain ⟨F, hF, hF2⟩ := SN9.out
        have HS9 : Hid (∀ W : World, St W wr.heap.size [.int .i64 kk, .string pp, .string da, .int .i64 vv, .bool sq] → St W w1.heap.size (judL D) → W.cell? ⟨wr.heap.size, 0, none⟩ = some (.int .i64 kk) ∧ W.cell? ⟨wr.heap.size, 1, none⟩ = some (.string pp) ∧ W.cell? ⟨wr.heap.size, 2, none⟩ = some (.string da) ∧ W.cell? ⟨wr.heap.size, 3, none⟩ = some (.int .i64 vv) ∧ W.cell? ⟨wr.heap.size, 4, none⟩ = some (.bool sq) ∧ W.cell? ⟨w1.heap.size, kk.toNat, none⟩ = some F) := by
          intro W hx hj
          refine ⟨hx.cl 0 _ rfl, hx.cl 1 _ rfl, hx.cl 2 _ rfl, hx.cl 3 _ rfl, hx.cl 4 _ rfl, hj.cl _ _ ?_⟩
          rw [hF2]
          rcases hkk with rfl | rfl | rfl | rfl <;> rfl
        clear SN9 hF
        refine wp_region_held_drew (S := fun W => W.cell? ⟨wr.heap.size, 0, none⟩ = some (.int .i64 kk) ∧ W.cell? ⟨wr.heap.size, 1, none⟩ = some (.string pp) ∧ W.cell? ⟨wr.heap.size, 2, none⟩ = some (.string da) ∧ W.cell? ⟨wr.heap.size, 3, none⟩ = some (.int .i64 vv) ∧ W.cell? ⟨wr.heap.size, 4, none⟩ = some (.bool sq) ∧ W.cell? ⟨w1.heap.size, kk.toNat, none⟩ = some F) (by kernel_rfl) (HS9.out _ X3.out J3.out) (fun hHeld => ?_)
        generalize w2.drew = w3 at *
        have hDb : wr.heap.size ≠ D := by omega
        have hJD : w1.heap.size ≠ D := by omega
        rcases hkk with rfl | rfl | rfl | rfl
        all_goals
          simp only [judL, List.getD_cons_succ, List.getD_cons_zero, show Int.toNat 1 = 1 from rfl, show Int.toNat 2 = 2 from rfl, show Int.toNat 3 = 3 from rfl, show Int.toNat 4 = 4 from rfl] at hF2
          subst hF2
          iterate 5 (refine tkI9 ?_ (by kernel_rfl) (fun _ => id) hHeld ?_ ?_; rotate_left; · intro w9 hS9; obtain ⟨k0, k1, k2, k3, k4, k5⟩ := hS9; simp only [show Int.toNat 1 = 1 from rfl, show Int.toNat 2 = 2 from rfl, show Int.toNat 3 = 3 from rfl, show Int.toNat 4 = 4 from rfl] at k5; go_simp; try with_reducible rfl)
          refine rdA9 5 rfl (by kernel_rfl) (fun K hK => ?_)
          go_simp
          first | refine (HC1.out rfl).mono ?_ | refine (HC2.out rfl).mono ?_ | refine (HC3.out rfl).mono ?_ | refine (HC4.out rfl).mono ?_
          rintro e w4 ⟨v4, rfl, d4, t4⟩
          have X4 := hd9 (t4.st X3.out hDb (fun e => by have := HUV.out _ e; omega))
          have J4 := hd9 (t4.st J3.out hJD (fun e => NJ.out _ e rfl))
          have O4 := hd9 (rowP_tw O3.out t4 (fun g hg => by have := (World.ownsRow.lt O3.out g hg).1; omega) (fun g hg e => rows_apart O3.out D3.out.o (by decide) g hg e.symm))
          have B4 := hd9 (B3.out.trans (t4.below B3.out.size hDlo (fun g hg => (World.ownsRow.lt D3.out.o g hg).1)))
          have NJ4 : Hid (∀ g, v4.ownBlock = some g → g ≠ w1.heap.size) := fun g hg => by
            rcases t4.own with e | e | ⟨q, e, hq⟩
            · exact NJ.out g (e ▸ hg)
            · rw [e] at hg; cases hg
            · rw [e] at hg; have := Option.some.inj hg; have := J3.out.lt; omega
          have D4 := hd9 d4
          clear d4 t4 hHeld HC1 HC2 HC3 HC4
          refine hK.out _ _ (HS9.out _ X4.out J4.out) (fun hHeld => ?_)
          clear hK K
          by_cases hc : dd.1 = 0
          · have HN2 := hd9 (HGN.out hc)
            have HJV : JV dd = #[.string dd.2.2, .nilIface] := by unfold JV; rw [if_pos hc]
            rw [HJV]
            clear HGO HGN HJV hc
            iterate 5 (refine tkI9 ?_ (by kernel_rfl) (fun _ => id) hHeld ?_ ?_; rotate_left; · intro w9 hS9; clear hS9; go_simp; try with_reducible rfl)
            refine wpAnyH_done (by kernel_rfl) ?_ _
            simp only [Act.put, sT9, sZ9, sS9]
            clear hHeld HS9 X3 J3 O3 B3 D3 X4
            have hJ4 := J4.out.lt
            go_wp2_with (at_builtin; go_must (refine wpList_append_lies _ rfl _ _ 30 rfl (w1.heap.size + 1) 9 i0 (.string ByteArray.empty) 1 16 Tryz.underlying30 hi hz0 hz1 hz2 rfl (by decide) _ _ _ rfl (O4.out.alloc _) ⟨w4.heap.size, 0, none⟩ 1 1 [.string dd.2.2] rfl rfl (cell_one_new _ _ _) (by intro u hu; simp at hu; subst hu; rfl) (by decide) ?c3 ?c4 ?c5 (w4.heap.size + 1) (by simp) ?_))
            case c3 => unfold maxLen; omega
            case c4 => omega
            case c5 => simp; omega
            intro g5 cap5 w5 ho5 hg5 hat _
            have A5 : Below w4.heap.size w4 (w4.alloc (.cells #[.string dd.2.2] 9)) := (Below.refl _ _).alloc (Nat.le_refl _) _
            have D5 := hd9 ((D4.out.below A5).grown hg5 (fun e => by have := (World.ownsRow.lt O4.out D e.symm).1; omega) (fun g hg e => rows_apart O4.out D4.out.o (by decide) g e.symm hg.symm))
            have J5 := hd9 ((J4.out.below A5).grown hg5 (fun e => by have := (World.ownsRow.lt O4.out _ e.symm).1; omega))
            have B5 := hd9 ((B4.out.trans (A5.mono B4.out.size)).grown hg5 (Nat.le_trans B4.out.size A5.size) (fun k hk => by have := (World.ownsRow.lt O4.out k hk).1; omega))
            have NL5 : Hid ((nm ++ [dd.2.2]).length = j + 1) := by show _ = _; rw [List.length_append, NL.out]; rfl
            have O5 : Hid (w5.ownsRow (w1.heap.size + 1) 9 1 (.slice (some ⟨g5, 0, none⟩) (j + 1) cap5) (j + 1) ((nm ++ [dd.2.2]).map Value.string)) := by
              show World.ownsRow _ _ _ _ _ _ _; rw [List.map_append]; exact ho5
            clear ho5 hg5 hat A5 D4 J4 O4 B4
            go_wp2
            go_roundw
            case rel => exact ⟨j + 1, _, v4, dd.2.1, nm ++ [dd.2.2], by omega, rfl, by go_num, D5, J5, NL5, O5, HN2, B5, NJ4⟩
            case measure => simp [intOf]; omega
          · have HN2 := hd9 (HGO.out hc)
            have HJV : JV dd = #[.string ByteArray.empty, flt dd.1] := by unfold JV; rw [if_neg hc]
            rw [HJV]
            clear HGO HGN HJV
            unfold flt
            iterate 5 (refine tkI9 ?_ (by kernel_rfl) (fun _ => id) hHeld ?_ ?_; rotate_left; · intro w9 hS9; clear hS9; go_simp; try with_reducible rfl)
            refine wpAnyH_done (by kernel_rfl) ?_ _
            simp only [Act.put, sT9, sZ9, sS9]
            clear hHeld HS9 X3 J3 O3 B3 D3 X4
            go_wp2_with fail
            rw [← HN2.out]
            exact bodyPost_ret (v := .tuple #[.slice none 0 0, .iface 105 (.agg #[.int .i64 (j : Int), flt dd.1])]) (by simp [results, Tryz.results28, go_sem, flt]) rfl ⟨B4.out, .inl ⟨hc, rfl⟩⟩
    · have hjn : j = os.length := by omega
      have HN2 : Hid ((0, j, nk, nm) = res) := by
        have := HRS.out
        rw [List.drop_of_length_le (by omega)] at this
        exact this
      subst hjn
      have hun : ∃ ua uc, un = .slice ua os.length uc := by
        rcases ON.out.2 with ⟨rfl, h0⟩ | ⟨g, cap, cur, rfl, -⟩
        · exact ⟨_, _, by rw [h0]⟩
        · exact ⟨_, _, rfl⟩
      obtain ⟨ua, uc, rfl⟩ := hun
      go_wp2_with fail
      rw [← HN2.out]
      refine bodyPost_ret (v := .tuple #[.slice ua os.length uc, .nilIface]) (by simp [results, Tryz.results28, go_sem]) rfl ⟨BK.out, .inr ⟨rfl, _, uv, rfl, ?_, DK.out⟩⟩
      show World.ownsRow _ _ _ _ _ nm.length (nm.map Value.string)
      rw [NL.out]
      exact rowP_mono ON.out (by have := B1.out.size; omega)

end Go.Proofs.YtejhcebodlcloaaGreatDoor


