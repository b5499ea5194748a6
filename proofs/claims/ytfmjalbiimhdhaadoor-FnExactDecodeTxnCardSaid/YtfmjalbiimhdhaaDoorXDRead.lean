import Derived.Test.YtfmjalbiimhdhaaDoorXDMath
namespace Go.Proofs.YtfmjalbiimhdhaaDoor
open Go.RowKit

def EfPost (w0 w : World) (k : Nat) (ys : List Int) (e : Ending) (w' : World) : Prop :=
  w.grownBy w' (some k) ∧ ((rdE ys = none ∧ e = .panicked badChain) ∨ ∃ ef r, rdE ys = some (ef, r) ∧ e = .returned (efIV ef) ∧ RS w0 w' k r)

set_option maxHeartbeats 2000000 in
set_option maxRecDepth 100000 in
theorem effectImage_any (w0 w : World) (k : Nat) (ys : List Int) (h : RS w0 w k ys) (hby : Byt ys) :
    Calls Tryd.prog 66 #[.pointer (some ⟨k, 0, none⟩)] w fun e w' => EfPost w0 w k ys e w' := by
  have hk := h.2.1
  have hk0 := h.1
  have HS : Hid (RS w0 (w.alloc (.cells #[.string ⟨#[]⟩, .string ⟨#[]⟩, .int .i64 0, .int .i64 0, .int .i64 0, .int .i64 0, .int .i64 0, .int .u8 0] 97)) k ys) := h.new ((Below.refl _ _).alloc (Nat.le_refl _) _)
  have E1 : Hid (EB (w.alloc (.cells #[.string ⟨#[]⟩, .string ⟨#[]⟩, .int .i64 0, .int .i64 0, .int .i64 0, .int .i64 0, .int .i64 0, .int .u8 0] 97)) w.heap.size nd0 0) := EB.new w nd0 0 _
  have G1 : Hid (w.grownBy (w.alloc (.cells #[.string ⟨#[]⟩, .string ⟨#[]⟩, .int .i64 0, .int .i64 0, .int .i64 0, .int .i64 0, .int .i64 0, .int .u8 0] 97)) (some k)) := grown_alloc _ _ _
  have s1 : w.heap.size + 1 ≤ (w.alloc (.cells #[.string ⟨#[]⟩, .string ⟨#[]⟩, .int .i64 0, .int .i64 0, .int .i64 0, .int .i64 0, .int .i64 0, .int .u8 0] 97)).heap.size := by simp
  clear h
  go_enter Tryd.func66, Tryd.ntmps66
  go_wp2_with fail
  generalize w.alloc (.cells #[.string ⟨#[]⟩, .string ⟨#[]⟩, .int .i64 0, .int .i64 0, .int .i64 0, .int .i64 0, .int .i64 0, .int .u8 0] 97) = w1 at *
  cases ys with
  | nil =>
    refine (oneByte_none w0 w1 k HS.out).mono ?_
    rintro e w2 ⟨rfl, rfl⟩
    exact ⟨rfl, G1.out, .inl ⟨rfl, rfl⟩⟩
  | cons y r =>
    have hy := hby y (by simp)
    have HBR : Hid (Byt r) := fun x hx => hby x (List.mem_cons_of_mem _ hx)
    obtain ⟨m, rfl⟩ : ∃ m : Nat, y = (m : Int) := ⟨y.toNat, by omega⟩
    have hm : m < 256 := by omega
    clear hby hy
    refine (oneByte_any w0 w1 k m r HS.out).mono ?_
    rintro e w2 ⟨rfl, r2, g2⟩
    have s2 := g2.size
    have R2 : Hid (RS w0 w2 k r) := r2
    have G2 : Hid (w.grownBy w2 (some k)) := G1.out.trans g2
    have E2 : Hid (EB w2 w.heap.size nd0 0) := E1.out.turn g2 (by simp; omega)
    clear r2 g2 HS E1 G1
    have R3 : Hid (RS w0 (w2.alloc (.cells #[.string ⟨#[]⟩, .string ⟨#[]⟩, .int .i64 0, .int .i64 0, .int .i64 0, .int .i64 0, .int .i64 0, .int .u8 (m : Int)] 97)) k r) := R2.out.new ((Below.refl _ _).alloc (Nat.le_refl _) _)
    have G3 : Hid (w.grownBy (w2.alloc (.cells #[.string ⟨#[]⟩, .string ⟨#[]⟩, .int .i64 0, .int .i64 0, .int .i64 0, .int .i64 0, .int .i64 0, .int .u8 (m : Int)] 97)) (some k)) := G2.out.trans (grown_alloc _ _ _)
    have E3 : Hid (EB (w2.alloc (.cells #[.string ⟨#[]⟩, .string ⟨#[]⟩, .int .i64 0, .int .i64 0, .int .i64 0, .int .i64 0, .int .i64 0, .int .u8 (m : Int)] 97)) w.heap.size nd0 0) := E2.out.turn (grown_alloc _ _ none) (by simp)
    have F3 : Hid (EB (w2.alloc (.cells #[.string ⟨#[]⟩, .string ⟨#[]⟩, .int .i64 0, .int .i64 0, .int .i64 0, .int .i64 0, .int .i64 0, .int .u8 (m : Int)] 97)) w2.heap.size nd0 m) := EB.new w2 nd0 m _
    clear R2 G2 E2
    have hw2 : w.heap.size < w2.heap.size := by omega
    have hk2 : k < w2.heap.size := by omega
    by_cases h1 : m = 1
    · subst h1
      go_wp2_with fail
      generalize w2.alloc (.cells #[.string ⟨#[]⟩, .string ⟨#[]⟩, .int .i64 0, .int .i64 0, .int .i64 0, .int .i64 0, .int .i64 0, .int .u8 1] 97) = w3 at *
      generalize w2.heap.size = B3 at *
      refine (nodeImage_any w0 w3 k r R3.out HBR.out).mono ?_
      rintro e w4 ⟨g4, hp⟩
      rcases hp with ⟨hp, rfl⟩ | ⟨n, r', hp, rfl, hr4⟩
      · exact ⟨rfl, G3.out.trans g4, .inl ⟨by simp [rdE, hp], rfl⟩⟩
      have HRD : Hid (rdE (((1 : Nat) : Int) :: r) = some (⟨false, n⟩, r')) := by show _ = _; simp [rdE, hp]
      have G4 : Hid (w.grownBy w4 (some k)) := G3.out.trans g4
      have R4 : Hid (RS w0 w4 k r') := hr4
      have E4 : Hid (EB w4 w.heap.size nd0 0) := E3.out.turn g4 (by simp; omega)
      have F4 : Hid (EB w4 B3 nd0 1) := F3.out.turn g4 (by simp; omega)
      clear g4 hp hr4 G3 R3 E3 F3
      rename_i K1 a1 K0 a0
      have HK1 : Hid _ := a1
      clear a1
      have hne : w.heap.size ≠ B3 := by omega
      have F5 : Hid (EB (((((((w4.setCell ⟨B3, 0, none⟩ (.string n.path)).setCell ⟨B3, 1, none⟩ (.string n.data)).setCell ⟨B3, 2, none⟩ (.int .i64 n.ver)).setCell ⟨B3, 3, none⟩ (.int .i64 n.cver)).setCell ⟨B3, 4, none⟩ (.int .i64 n.cz)).setCell ⟨B3, 5, none⟩ (.int .i64 n.mz)).setCell ⟨B3, 6, none⟩ (.int .i64 n.pz)) B3 n 1) := F4.out.putN n
      have E5 : Hid (EB (((((((w4.setCell ⟨B3, 0, none⟩ (.string n.path)).setCell ⟨B3, 1, none⟩ (.string n.data)).setCell ⟨B3, 2, none⟩ (.int .i64 n.ver)).setCell ⟨B3, 3, none⟩ (.int .i64 n.cver)).setCell ⟨B3, 4, none⟩ (.int .i64 n.cz)).setCell ⟨B3, 5, none⟩ (.int .i64 n.mz)).setCell ⟨B3, 6, none⟩ (.int .i64 n.pz)) w.heap.size nd0 0) := (((((((E4.out.other hne _ _).other hne _ _).other hne _ _).other hne _ _).other hne _ _).other hne _ _).other hne _ _)
      have R5 : Hid (RS w0 (((((((w4.setCell ⟨B3, 0, none⟩ (.string n.path)).setCell ⟨B3, 1, none⟩ (.string n.data)).setCell ⟨B3, 2, none⟩ (.int .i64 n.ver)).setCell ⟨B3, 3, none⟩ (.int .i64 n.cver)).setCell ⟨B3, 4, none⟩ (.int .i64 n.cz)).setCell ⟨B3, 5, none⟩ (.int .i64 n.mz)).setCell ⟨B3, 6, none⟩ (.int .i64 n.pz)) k r') := (((((((R4.out.setOther (by omega) (by omega) _ _).setOther (by omega) (by omega) _ _).setOther (by omega) (by omega) _ _).setOther (by omega) (by omega) _ _).setOther (by omega) (by omega) _ _).setOther (by omega) (by omega) _ _).setOther (by omega) (by omega) _ _)
      have G5 : Hid (w.grownBy (((((((w4.setCell ⟨B3, 0, none⟩ (.string n.path)).setCell ⟨B3, 1, none⟩ (.string n.data)).setCell ⟨B3, 2, none⟩ (.int .i64 n.ver)).setCell ⟨B3, 3, none⟩ (.int .i64 n.cver)).setCell ⟨B3, 4, none⟩ (.int .i64 n.cz)).setCell ⟨B3, 5, none⟩ (.int .i64 n.mz)).setCell ⟨B3, 6, none⟩ (.int .i64 n.pz)) (some k)) := (grown_new (grown_new (grown_new (grown_new (grown_new (grown_new (grown_new G4.out (Nat.le_of_lt hw2) _ _) (Nat.le_of_lt hw2) _ _) (Nat.le_of_lt hw2) _ _) (Nat.le_of_lt hw2) _ _) (Nat.le_of_lt hw2) _ _) (Nat.le_of_lt hw2) _ _) (Nat.le_of_lt hw2) _ _)
      obtain ⟨⟨⟨dl, d0, d1, d2, d3, d4, d5, d6⟩, df⟩, d7⟩ := F4.out
      unfold ndV
      go_wp2
      refine HK1.out _ _ ?_
      clear dl d0 d1 d2 d3 d4 d5 d6 df d7 F4 E4 R4 G4 HK1
      generalize (((((((w4.setCell ⟨B3, 0, none⟩ (.string n.path)).setCell ⟨B3, 1, none⟩ (.string n.data)).setCell ⟨B3, 2, none⟩ (.int .i64 n.ver)).setCell ⟨B3, 3, none⟩ (.int .i64 n.cver)).setCell ⟨B3, 4, none⟩ (.int .i64 n.cz)).setCell ⟨B3, 5, none⟩ (.int .i64 n.mz)).setCell ⟨B3, 6, none⟩ (.int .i64 n.pz)) = w5 at *
      obtain ⟨⟨⟨dl, d0, d1, d2, d3, d4, d5, d6⟩, df⟩, d7⟩ := F5.out
      obtain ⟨⟨⟨xl, x0, x1, x2, x3, x4, x5, x6⟩, xf⟩, x7⟩ := E5.out
      clear dl df xl
      go_wp2
      refine bodyPost_ret (v := efIV ⟨false, n⟩) (by simp [results, Tryd.results66, go_sem, efIV, mkB, x0, x1, x2, x3, x4, x5, x6, x7]) rfl ⟨?_, .inr ⟨_, r', HRD.out, rfl, ?_⟩⟩
      · iterate 8 refine grown_new ?_ (Nat.le_refl _) _ _
        exact G5.out
      · iterate 8 refine RS.setOther ?_ (by omega) (by omega) _ _
        exact R5.out
    · have h1b : ((m : Int) == 1) = false := beq_eq_false_iff_ne.2 (by omega)
      by_cases h2 : m = 2
      · subst h2
        go_wp2_with fail
        generalize w2.alloc (.cells #[.string ⟨#[]⟩, .string ⟨#[]⟩, .int .i64 0, .int .i64 0, .int .i64 0, .int .i64 0, .int .i64 0, .int .u8 2] 97) = w3 at *
        generalize w2.heap.size = B3 at *
        refine (text_any w0 w3 k r R3.out HBR.out).mono ?_
        rintro e w4 ⟨g4, hp⟩
        rcases hp with ⟨hp, rfl⟩ | ⟨s, r', hp, rfl, hr4⟩
        · exact ⟨rfl, G3.out.trans g4, .inl ⟨by simp [rdE, hp], rfl⟩⟩
        have HRD : Hid (rdE (((2 : Nat) : Int) :: r) = some (⟨true, ndP s⟩, r')) := by show _ = _; simp [rdE, hp]
        have G4 : Hid (w.grownBy w4 (some k)) := G3.out.trans g4
        have R4 : Hid (RS w0 w4 k r') := hr4
        have E4 : Hid (EB w4 w.heap.size nd0 0) := E3.out.turn g4 (by simp; omega)
        have F4 : Hid (EB w4 B3 nd0 2) := F3.out.turn g4 (by simp; omega)
        clear g4 hp hr4 G3 R3 E3 F3
        rename_i K1 a1 K0 a0
        have HK1 : Hid _ := a1
        clear a1
        have hne : w.heap.size ≠ B3 := by omega
        have F5 : Hid (EB (w4.setCell ⟨B3, 0, none⟩ (.string s)) B3 (ndP s) 2) := F4.out.putP s
        have E5 : Hid (EB (w4.setCell ⟨B3, 0, none⟩ (.string s)) w.heap.size nd0 0) := E4.out.other hne _ _
        have R5 : Hid (RS w0 (w4.setCell ⟨B3, 0, none⟩ (.string s)) k r') := R4.out.setOther (by omega) (by omega) _ _
        have G5 : Hid (w.grownBy (w4.setCell ⟨B3, 0, none⟩ (.string s)) (some k)) := grown_new G4.out (Nat.le_of_lt hw2) _ _
        obtain ⟨⟨⟨dl, d0, d1, d2, d3, d4, d5, d6⟩, df⟩, d7⟩ := F4.out
        go_wp2
        refine HK1.out _ _ ?_
        clear dl d0 d1 d2 d3 d4 d5 d6 df d7 F4 E4 R4 G4 HK1
        generalize (w4.setCell ⟨B3, 0, none⟩ (.string s)) = w5 at *
        obtain ⟨⟨⟨dl, d0, d1, d2, d3, d4, d5, d6⟩, df⟩, d7⟩ := F5.out
        obtain ⟨⟨⟨xl, x0, x1, x2, x3, x4, x5, x6⟩, xf⟩, x7⟩ := E5.out
        clear dl df xl
        go_wp2
        refine bodyPost_ret (v := efIV ⟨true, ndP s⟩) (by simp [results, Tryd.results66, go_sem, efIV, mkB, x0, x1, x2, x3, x4, x5, x6, x7]) rfl ⟨?_, .inr ⟨_, r', HRD.out, rfl, ?_⟩⟩
        · iterate 8 refine grown_new ?_ (Nat.le_refl _) _ _
          exact G5.out
        · iterate 8 refine RS.setOther ?_ (by omega) (by omega) _ _
          exact R5.out
      · have h2b : ((m : Int) == 2) = false := beq_eq_false_iff_ne.2 (by omega)
        have HRD : Hid (rdE ((m : Int) :: r) = none) := by show _ = _; simp only [rdE]; rw [if_neg (by omega), if_neg (by omega)]
        go_wp2
        exact ⟨rfl, G3.out, .inl ⟨HRD.out, rfl⟩⟩

end Go.Proofs.YtfmjalbiimhdhaaDoor
