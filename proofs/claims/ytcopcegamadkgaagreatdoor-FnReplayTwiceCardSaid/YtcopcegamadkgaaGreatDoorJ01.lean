import Derived.OrdersHeld
import Derived.WalkKit
import Derived.ProofKit
import Derived.OpenShut
import Derived.Handy
import Derived.Carry
import Derived.WalkSpells
import Derived.WalkSmall
import Derived.Test.YtcopcegamadkgaaGreatDoorChecked
import Derived.Deep.QuietTactic
import Derived.BigQuiet
import Derived.Deep.RegionHeld3
import Derived.Deep.RegionLaw
import Derived.Laws.BytesArg
import Derived.Lib.Bytealg
import Derived.Laws.Externs
import Derived.Lib.IndexLaws
import Derived.RangeFuncNested
import Derived.RangeFuncLeaves
import Derived.Shelf.Abstract
import Derived.OwnWalkIn
import Derived.TacticsInMore
import Derived.LoopNIn
import Derived.LoopIn
import Derived.RangeFuncBox
import Derived.Deep.RegionWith
set_option maxRecDepth 100000
set_option maxHeartbeats 16000000
namespace Go.Proofs.YtcopcegamadkgaaGreatDoor
open Go.RowKit
def Rd (k : IntKind) (w : World) (v : Value) (xs : List Int) : Prop :=
 ∃ ao cap, v = .slice ao xs.length cap ∧ xs.length ≤ cap ∧ cap ≤ maxLen ∧
  (xs = [] ∨ ∃ b off, ao = some ⟨b, off, none⟩ ∧ b < w.heap.size ∧ ∀ i, i < xs.length → w.cell? ⟨b, off + i, none⟩ = some (.int k (xs.getD i 0)))
def Own (k : IntKind) (e : TypeId) (w : World) (base : Nat) (v : Value) (xs : List Int) : Prop :=
 w.ownsRow base e 1 v xs.length (xs.map (Value.int k))
theorem Own.rd {k : IntKind} {e : TypeId} {w : World} {base : Nat} {v : Value} {xs : List Int} (h : Own k e w base v xs) : Rd k w v xs := by
 rcases h.2 with ⟨rfl, h0⟩ | ⟨g, cap, cur, rfl, hb, hg, hn, hm, hs, ht⟩
 · have : xs = [] := List.eq_nil_of_length_eq_zero h0
   subst this
   exact ⟨none, 0, rfl, Nat.le_refl _, Nat.zero_le _, .inl rfl⟩
 · refine ⟨_, cap, rfl, hn, hm, .inr ⟨g, 0, rfl, (Array.getElem?_eq_some_iff.1 hg).1, fun i hi => ?_⟩⟩
   have h1 := World.ownsRow.cells h (g := g) rfl i (.int k (xs.getD i 0)) (by simp [List.getD, hi])
   rw [Addr.add_lit] at h1
   exact h1
theorem Own.below {k : IntKind} {e : TypeId} {w w' : World} {base : Nat} {v : Value} {xs : List Int} (h : Own k e w base v xs) (hb : Below w.heap.size w w') : Own k e w' base v xs := by
 refine ⟨h.1, ?_⟩
 rcases h.2 with hn | ⟨g, cap, cur, rfl, hbg, hgg, rest⟩
 · exact .inl hn
 · exact .inr ⟨g, cap, cur, rfl, hbg, by rw [hb.block g (Array.getElem?_eq_some_iff.1 hgg).1]; exact hgg, rest⟩
theorem Own.mono {k : IntKind} {e : TypeId} {w : World} {base base' : Nat} {v : Value} {xs : List Int} (h : Own k e w base v xs) (hb : base' ≤ base) : Own k e w base' v xs := by
 refine ⟨h.1, ?_⟩
 rcases h.2 with hn | ⟨g, cap, cur, rfl, hbg, rest⟩
 · exact .inl hn
 · exact .inr ⟨g, cap, cur, rfl, by omega, rest⟩
theorem Rd.below {k : IntKind} {w w' : World} {v : Value} {xs : List Int} (h : Rd k w v xs) (hb : Below w.heap.size w w') : Rd k w' v xs := by
 obtain ⟨ao, cap, rfl, h1, h2, h3⟩ := h
 refine ⟨ao, cap, rfl, h1, h2, ?_⟩
 rcases h3 with h3 | ⟨b, off, rfl, hlt, hc⟩
 · exact .inl h3
 · exact .inr ⟨b, off, rfl, Nat.lt_of_lt_of_le hlt hb.size, fun i hi => by rw [hb.cell (p := ⟨b, off + i, none⟩) hlt]; exact hc i hi⟩
theorem Rd.drewN {k : IntKind} {w : World} {v : Value} {xs : List Int} (h : Rd k w v xs) (n : Nat) : Rd k (w.drewN n) v xs := h.below ⟨rfl, rfl, rfl, Nat.le_refl _, fun _ _ => rfl⟩
theorem Own.drewN {k : IntKind} {e : TypeId} {w : World} {base : Nat} {v : Value} {xs : List Int} (h : Own k e w base v xs) (n : Nat) : Own k e (w.drewN n) base v xs := h
theorem below_drewN' (w : World) (n : Nat) : Below w.heap.size w (w.drewN n) := ⟨rfl, rfl, rfl, Nat.le_refl _, fun _ _ => rfl⟩
theorem Own.other {k : IntKind} {e : TypeId} {w w' : World} {base : Nat} {v : Value} {xs : List Int} {row : Option Nat} (h : Own k e w base v xs) (hg : w.grownBy w' row) (hne : v.ownBlock = none ∨ v.ownBlock ≠ row) : Own k e w' base v xs :=
 World.ownsRow.kept h hg hne
theorem Own.lt {k : IntKind} {e : TypeId} {w : World} {base : Nat} {v : Value} {xs : List Int} (h : Own k e w base v xs) : ∀ g, v.ownBlock = some g → base ≤ g ∧ g < w.heap.size := World.ownsRow.lt h
theorem Rd.len {k : IntKind} {w : World} {v : Value} {xs : List Int} (h : Rd k w v xs) : ∃ ao cap, v = .slice ao xs.length cap ∧ xs.length ≤ cap ∧ cap ≤ maxLen := by
 obtain ⟨ao, cap, h0, h1, h2, _⟩ := h
 exact ⟨ao, cap, h0, h1, h2⟩
theorem hd9 {p : Prop} (h : p) : Hid p := h
theorem sT9 {α : Type} (l : List α) (i : Nat) (a : α) : l.toArray.setIfInBounds i a = (l.set i a).toArray := List.setIfInBounds_toArray ..
theorem sZ9 {α : Type} (a b : α) (l : List α) : (a :: l).set 0 b = b :: l := rfl
theorem sS9 {α : Type} (a b : α) (l : List α) (n : Nat) : (a :: l).set (n + 1) b = a :: l.set n b := rfl
theorem tk9 {P : Program} {md : Region.Mode} {ops : Array Oper} {Q : Exit → Act → World → Prop} {S : World → Prop} {i : Nat} {oi : Oper} {v : Value} {fuel : Nat} {listed : Array Bool} {a : Act} {w : World} (hi : ops[i]? = some oi)
    (hb : (Region.noSelect ops && (Region.free md ops listed i && (Region.ready md ops listed).contains i)) = true)
    (hQ : ∀ c a w, Q (.panic c) (a.put oi.dst v) w → Q (.panic c) a w) (hy : YieldsIf P ops S oi v a) (hS : S w)
    (h : wpAnyH P md ops Q S fuel (listed.setIfInBounds i true) (a.put oi.dst v) w) : wpAnyH P md ops Q S (fuel + 1) listed a w := by
 simp only [Bool.and_eq_true] at hb
 exact wpAnyH_take hi hb.1 hb.2.1 hb.2.2 hQ hy hS h
theorem tkL9 {P : Program} {md : Region.Mode} {ops : Array Oper} {Q : Exit → Act → World → Prop} {S : World → Prop} {i : Nat} {oi : Oper} {v : Value} {fuel : Nat} {listed : Array Bool} {a : Act} {w : World} (hi : ops[i]? = some oi)
    (hb : (Region.noSelect ops && (Region.free md ops listed i && (Region.ready md ops listed).contains i)) = true)
    (hQ : ∀ c a w, Q (.panic c) (a.put oi.dst v) w → Q (.panic c) a w) (hw : Region.wanted oi (yielded ops a.tmps) = true) (hS : S w) (hy : ∀ w, S w → (execOp a.eval oi).run P w = .ok (.value v) w)
    (h : wpAnyH P md ops Q S fuel (listed.setIfInBounds i true) (a.put oi.dst v) w) : wpAnyH P md ops Q S (fuel + 1) listed a w := tk9 hi hb hQ (Or.inl ⟨hw, hy⟩) hS h
theorem tkR9 {P : Program} {md : Region.Mode} {ops : Array Oper} {Q : Exit → Act → World → Prop} {S : World → Prop} {i : Nat} {oi : Oper} {fuel : Nat} {listed : Array Bool} {a : Act} {w : World} (hi : ops[i]? = some oi)
    (hb : (Region.noSelect ops && (Region.free md ops listed i && (Region.ready md ops listed).contains i)) = true)
    (hQ : ∀ c a w, Q (.panic c) (a.put oi.dst undef) w → Q (.panic c) a w) (hw : Region.wanted oi (yielded ops a.tmps) = false) (hS : S w)
    (h : wpAnyH P md ops Q S fuel (listed.setIfInBounds i true) (a.put oi.dst undef) w) : wpAnyH P md ops Q S (fuel + 1) listed a w := tk9 hi hb hQ (Or.inr ⟨hw, rfl⟩) hS h
theorem Tryz.infoB : (Tryz.prog.info? 5).map (fun i => (i.zero, i.size, i.bytes)) = some (some (.int .u8 0), 1, 1) := by kernel_rfl
theorem ret_bool {a b : Bool} (h : a = b) : Ending.returned (.bool a) = .returned (.bool b) := by rw [h]
theorem ret_int {k : IntKind} {a b : Int} (h : a = b) : Ending.returned (.int k a) = .returned (.int k b) := by rw [h]
def mix (ys xs : List Int) (i : Nat) : List Int := ys.take i ++ xs.drop i
theorem grownBy_set (w w' : World) (g i : Nat) (u : Value) (h : w.grownBy w' (some g)) : w.grownBy (w'.setCell ⟨g, i, none⟩ u) (some g) :=
 ⟨h.os, h.tape, h.output, by simpa using h.size, fun k hk hne => by
  have hs := h.size
  rw [← h.block k hk hne]
  exact Below.heap_setCell _ _ _ _ (fun e => hne (by rw [e]))⟩
theorem Own.row {k : IntKind} {e : TypeId} {w : World} {base : Nat} {v : Value} {xs : List Int} (h : Own k e w base v xs) :
    (v = .slice none 0 0 ∧ xs = []) ∨ ∃ g cap, v = .slice (some ⟨g, 0, none⟩) xs.length cap ∧ base ≤ g ∧ xs.length ≤ cap ∧ cap ≤ maxLen := by
 rcases h.2 with ⟨rfl, h0⟩ | ⟨g, cap, cur, rfl, hb, hg, hn, hm, _⟩
 · exact .inl ⟨rfl, List.eq_nil_of_length_eq_zero h0⟩
 · exact .inr ⟨g, cap, rfl, hb, hn, hm⟩
end Go.Proofs.YtcopcegamadkgaaGreatDoor
namespace Go.Proofs.YtcopcegamadkgaaGreatDoor
def numW (w : Nat) (xs : List Int) : Nat := xs.foldl (fun a x => a * 2 ^ w + x.toNat % 2 ^ w) 0
theorem numW_snoc (w : Nat) (xs : List Int) (x : Int) : numW w (xs ++ [x]) = numW w xs * 2 ^ w + x.toNat % 2 ^ w := by
 simp [numW, List.foldl_append]
theorem pow_pos2 (k : Nat) : 0 < 2 ^ k := Nat.two_pow_pos k
theorem take_succ_getD (xs : List Int) (k : Nat) (h : k < xs.length) : xs.take (k + 1) = xs.take k ++ [xs.getD k 0] := by
 rw [List.take_succ_eq_append_getElem h]; simp [List.getD, h]
theorem numW_take_succ (w : Nat) (xs : List Int) (k : Nat) (h : k < xs.length) : numW w (xs.take (k + 1)) = numW w (xs.take k) * 2 ^ w + (xs.getD k 0).toNat % 2 ^ w := by
 rw [take_succ_getD xs k h, numW_snoc]
theorem numW_cut (w : Nat) (xs : List Int) (k : Nat) : ∀ d, k + d ≤ xs.length → numW w (xs.take (k + d)) / 2 ^ (w * d) = numW w (xs.take k) := by
 intro d
 induction d with
 | zero => intro _; simp
 | succ d ih =>
  intro h
  rw [← Nat.add_assoc, numW_take_succ w xs (k + d) (by omega), Nat.mul_succ, Nat.add_comm (w * d) w, Nat.pow_add, ← Nat.div_div_eq_div_mul]
  have h2 : (xs.getD (k + d) 0).toNat % 2 ^ w < 2 ^ w := Nat.mod_lt _ (pow_pos2 w)
  rw [Nat.add_comm, Nat.add_mul_div_right _ _ (pow_pos2 w), Nat.div_eq_of_lt h2, Nat.zero_add]
  exact ih (by omega)
def dig (w v : Nat) (xs : List Int) (q : Nat) : Nat := numW w xs / 2 ^ (w * xs.length - v * (q + 1)) % 2 ^ v
theorem dig_lt (w v : Nat) (xs : List Int) (q : Nat) : dig w v xs q < 2 ^ v := Nat.mod_lt _ (pow_pos2 v)
theorem dig_take (w v : Nat) (xs : List Int) (k q : Nat) (hk : k ≤ xs.length) (hq : v * (q + 1) ≤ w * k) :
    dig w v xs q = numW w (xs.take k) / 2 ^ (w * k - v * (q + 1)) % 2 ^ v := by
 unfold dig
 have e1 : w * xs.length - v * (q + 1) = w * (xs.length - k) + (w * k - v * (q + 1)) := by
  rw [Nat.mul_sub]
  have : w * k ≤ w * xs.length := Nat.mul_le_mul_left _ hk
  omega
 rw [e1, Nat.pow_add, ← Nat.div_div_eq_div_mul]
 have e2 := numW_cut w xs k (xs.length - k) (by omega)
 rw [show k + (xs.length - k) = xs.length by omega, List.take_length] at e2
 rw [e2]
theorem reg_dig (r N a v : Nat) (h : r % 2 ^ (a + v) = N % 2 ^ (a + v)) : r / 2 ^ a % 2 ^ v = N / 2 ^ a % 2 ^ v := by
 have key : ∀ x, x / 2 ^ a % 2 ^ v = x % 2 ^ (a + v) / 2 ^ a := by
  intro x
  rw [Nat.pow_add, Nat.mod_mul_right_div_self]
 rw [key, key, h]
theorem mod_low {r N a b : Nat} (hab : a ≤ b) (h : r % 2 ^ b = N % 2 ^ b) : r % 2 ^ a = N % 2 ^ a := by
 have hd : 2 ^ a ∣ 2 ^ b := Nat.pow_dvd_pow 2 hab
 rw [← Nat.mod_mod_of_dvd r hd, h, Nat.mod_mod_of_dvd N hd]
theorem reg_step (r N x a w K : Nat) (hK : a + w ≤ K) (h : r % 2 ^ a = N % 2 ^ a) :
    (r * 2 ^ w % 2 ^ K + x) % 2 ^ (a + w) = (N * 2 ^ w + x) % 2 ^ (a + w) := by
 have hd : 2 ^ (a + w) ∣ 2 ^ K := Nat.pow_dvd_pow 2 hK
 have e : r * 2 ^ w % 2 ^ (a + w) = N * 2 ^ w % 2 ^ (a + w) := by
  rw [Nat.pow_add, Nat.mul_mod_mul_right, Nat.mul_mod_mul_right, h]
 rw [Nat.add_mod, Nat.mod_mod_of_dvd _ hd, e, ← Nat.add_mod]
def pk (xs : List Int) : List Int :=
 (List.range (8 * xs.length / 7)).map (fun q => ((128 + dig 8 7 xs q : Nat) : Int)) ++
  (if 8 * xs.length % 7 = 0 then [] else [((128 + numW 8 xs % 2 ^ (8 * xs.length % 7) * 2 ^ (7 - 8 * xs.length % 7) : Nat) : Int)])
theorem pk_length (xs : List Int) : (pk xs).length = (8 * xs.length + 6) / 7 := by
 unfold pk
 by_cases h : 8 * xs.length % 7 = 0
 · simp [h]; omega
 · simp [h]; omega
def up (ps : List Int) : List Int := (List.range (7 * ps.length / 8)).map (fun q => ((dig 7 8 ps q : Nat) : Int))
theorem up_length (ps : List Int) : (up ps).length = 7 * ps.length / 8 := by simp [up]
theorem range_snoc (f : Nat → Int) (q : Nat) : (List.range (q + 1)).map f = (List.range q).map f ++ [f q] := by
 rw [List.range_succ, List.map_append]; rfl
theorem shift_lt {N a : Nat} (h : N < 2 ^ a) (v : Nat) (hav : a ≤ v) : N * 2 ^ (v - a) < 2 ^ v := by
 have : 2 ^ v = 2 ^ a * 2 ^ (v - a) := by rw [← Nat.pow_add]; congr 1; omega
 rw [this]
 exact (Nat.mul_lt_mul_right (pow_pos2 _)).2 h
theorem pk_range (xs : List Int) : ∀ x ∈ pk xs, 128 ≤ x ∧ x < 256 := by
 intro x hx
 unfold pk at hx
 rw [List.mem_append] at hx
 rcases hx with hx | hx
 · obtain ⟨q, _, rfl⟩ := List.mem_map.1 hx
   have := dig_lt 8 7 xs q
   simp only [Nat.reducePow] at this
   omega
 · by_cases h : 8 * xs.length % 7 = 0
   · simp [h] at hx
   · simp only [h, if_false, List.mem_singleton] at hx
     have h1 : numW 8 xs % 2 ^ (8 * xs.length % 7) < 2 ^ (8 * xs.length % 7) := Nat.mod_lt _ (pow_pos2 _)
     have h2 := shift_lt h1 7 (by omega)
     simp only [Nat.reducePow] at h2
     omega
theorem up_range (ps : List Int) : ∀ x ∈ up ps, 0 ≤ x ∧ x < 256 := by
 intro x hx
 unfold up at hx
 obtain ⟨q, _, rfl⟩ := List.mem_map.1 hx
 have := dig_lt 7 8 ps q
 simp only [Nat.reducePow] at this
 omega
end Go.Proofs.YtcopcegamadkgaaGreatDoor
namespace Go.Proofs.YtcopcegamadkgaaGreatDoor
open Go.RowKit
theorem u16_low7 (r : Int) (h0 : 0 ≤ r) (h1 : r < 65536) : bits .and .u16 r 127 = r % 128 := by
 rw [u16_and r 127 h0 h1 (by omega) (by omega)]
 rw [show ((127 : Int).toNat) = 127 from rfl, nat_mask7]
 omega
theorem u8_mark (x : Int) (h0 : 0 ≤ x) (h1 : x < 128) : bits .or .u8 128 x = 128 + x := by
 rw [u8_or 128 x (by omega) (by omega) h0 (by omega)]
 rw [show ((128 : Int).toNat) = 128 from rfl, nat_join 7 128 x.toNat (by decide) (by simp only [Nat.reducePow]; omega)]
 omega
theorem groupByte_any (w : World) (r : Int) (h0 : 0 ≤ r) (h1 : r < 65536) : Calls Tryz.prog 193 #[.int .u16 r] w fun e w' => e = .returned (.int .u8 (128 + r % 128)) ∧ w' = w := by
 have e1 := u16_low7 r h0 h1
 have e2 := u8_mark (r % 128) (by omega) (by omega)
 go_enter Tryz.func193, Tryz.ntmps193
 go_wp2
 go_ret
 exact ⟨rfl, rfl⟩
def Byt (xs : List Int) : Prop := ∀ x ∈ xs, 0 ≤ x ∧ x < 256
theorem byt_at {xs : List Int} (h : Byt xs) (k : Nat) : ∃ x : Nat, x < 256 ∧ xs.getD k 0 = (x : Int) := by
 by_cases hk : k < xs.length
 · have := h xs[k] (List.getElem_mem hk)
   exact ⟨xs[k].toNat, by omega, by simp only [List.getD, List.getElem?_eq_getElem hk, Option.getD_some]; omega⟩
 · exact ⟨0, by omega, by simp [List.getD, show xs.length ≤ k by omega]⟩
theorem reg_in (R x A N : Nat) (hx : x < 256) (hA : A ≤ 6) (h : R % 2 ^ A = N % 2 ^ A) :
    ∃ R' : Nat, R' < 65536 ∧ bits .or .u16 (IntKind.u16.wrap ((R : Int) * 256)) (x : Int) = (R' : Int) ∧ R' % 2 ^ (A + 8) = (N * 256 + x) % 2 ^ (A + 8) := by
 have hs := reg_step R N x A 8 16 (by omega) h
 simp only [show (2 : Nat) ^ 8 = 256 from rfl, show (2 : Nat) ^ 16 = 65536 from rfl] at hs
 refine ⟨R * 256 % 65536 + x, by omega, ?_, hs⟩
 have e : IntKind.u16.wrap ((R : Int) * 256) = ((R * 256 % 65536 : Nat) : Int) := by rw [IntKind.wrap_u16]; omega
 rw [e, u16_or_nat _ _ (by omega) (by omega), nat_join 8 (R * 256 % 65536) x (by simp only [Nat.reducePow]; omega) (by simpa using hx)]
theorem shr_nonneg (R A : Nat) : (0 : Int) ≤ (R : Int) / 2 ^ A := Int.ediv_nonneg (by omega) (by exact_mod_cast Nat.zero_le _)
theorem shr_cast (R A : Nat) : (R : Int) / 2 ^ A = ((R / 2 ^ A : Nat) : Int) := by simp
theorem shr_lt (R A : Nat) (h : R < 65536) : (R : Int) / 2 ^ A < 65536 := by
 rw [shr_cast]
 have := Nat.div_le_self R (2 ^ A)
 omega
theorem reg_out (xs : List Int) (R A k q : Nat) (hk : k ≤ xs.length) (hq : 7 * q + (A + 7) = 8 * k) (h : R % 2 ^ (A + 7) = numW 8 (xs.take k) % 2 ^ (A + 7)) :
    (128 + (R : Int) / 2 ^ A % 128) = ((128 + dig 8 7 xs q : Nat) : Int) := by
 rw [shr_cast, dig_take 8 7 xs k q hk (by omega), show 8 * k - 7 * (q + 1) = A by omega, ← reg_dig R _ A 7 h]
 simp only [Nat.reducePow]
 omega
theorem wrap16 (x : Int) : 0 ≤ IntKind.u16.wrap x ∧ IntKind.u16.wrap x < 65536 := by rw [IntKind.wrap_u16]; omega
theorem reg_last (R N A : Nat) (hA : A ≤ 7) (h : R % 2 ^ A = N % 2 ^ A) : (128 + IntKind.u16.wrap ((R : Int) * 2 ^ (7 - A)) % 128) = ((128 + N % 2 ^ A * 2 ^ (7 - A) : Nat) : Int) := by
 have e : (R : Int) * 2 ^ (7 - A) = ((R * 2 ^ (7 - A) : Nat) : Int) := by simp
 rw [e, IntKind.wrap_u16]
 have e2 : R * 2 ^ (7 - A) % 128 = N % 2 ^ A * 2 ^ (7 - A) := by
  have e3 : 128 = 2 ^ A * 2 ^ (7 - A) := by rw [← Nat.pow_add, show A + (7 - A) = 7 by omega]
  conv => lhs; rw [e3]
  rw [Nat.mul_mod_mul_right, h]
 rw [← e2]
 generalize R * 2 ^ (7 - A) = z
 omega
def pkE (xs : List Int) (q : Nat) : List Int := (List.range q).map (fun j => ((128 + dig 8 7 xs j : Nat) : Int))
theorem pkE_len (xs : List Int) (q : Nat) : (pkE xs q).length = q := by simp [pkE]
theorem pk_even {xs : List Int} {q : Nat} (h : 7 * q + 0 = 8 * xs.length) : pk xs = pkE xs q := by
 unfold pk pkE
 rw [show 8 * xs.length / 7 = q by omega, if_pos (by omega), List.append_nil]
theorem pk_odd {xs : List Int} {q A : Nat} (h : 7 * q + A = 8 * xs.length) (h0 : 0 < A) (h6 : A ≤ 6) : pk xs = pkE xs q ++ [((128 + numW 8 xs % 2 ^ A * 2 ^ (7 - A) : Nat) : Int)] := by
 unfold pk pkE
 rw [show 8 * xs.length / 7 = q by omega, show 8 * xs.length % 7 = A by omega, if_neg (by omega)]
theorem own_of {k : IntKind} {e : TypeId} {w : World} {base q : Nat} {v : Value} {ys xs : List Int} (hl : ys.length = q) (he : xs = ys) (h : w.ownsRow base e 1 v q (ys.map (Value.int k))) : Own k e w base v xs := by
 subst he; unfold Own; rw [hl]; exact h
theorem implPack_row (w : World) (b o n cap : Nat) (xs : List Int) (hx : xs.length = n) (hb : b < w.heap.size) (hc : ∀ i, i < n → w.cell? ⟨b, o + i, none⟩ = some (.int .u8 (xs.getD i 0))) (hby : Byt xs) (hn : n ≤ 1099511627776) :
    Calls Tryz.prog 180 #[.slice (some ⟨b, o, none⟩) n cap] w fun e w' => ∃ v', e = .returned v' ∧ Own .u8 5 w' w.heap.size v' (pk xs) ∧ Below w.heap.size w w' := by
 obtain ⟨i0, hi, hz0, hz1, hz2⟩ := info_parts Tryz.infoB
 have HC : Hid (∀ i, i < n → w.cell? ⟨b, o + i, none⟩ = some (.int .u8 (xs.getD i 0))) := hc
 have HX : Hid (xs.length = n) := hx
 clear hc hx
 go_enter Tryz.func180, Tryz.ntmps180
 go_wp2_with (at_make; refine wpList_make_own _ rfl _ _ 22 rfl w.heap.size 5 i0 (.int .u8 0) 1 Tryz.underlying22 hi hz0 hz1 _ _ _ ((8 * n + 6) / 7) rfl rfl ?b1 ?b2 ?b3 ?b4 ?_)
 case b1 => omega
 case b2 => rw [hz2]; omega
 case b3 => unfold maxLen; omega
 case b4 => exact Nat.le_refl _
 intro w1 hown hgrow
 go_wp2
 have HO : Hid (w1.ownsRow w.heap.size 5 1 (.slice (some ⟨w.heap.size, 0, none⟩) 0 ((8 * n + 6) / 7)) 0 []) := hown
 have HG : Hid (Below w.heap.size w w1) := (Below.refl _ _).grown hgrow (Nat.le_refl _) (by simp)
 clear hown hgrow
 go_loopw [3, 4, 5, 16] (fun v r a i wr => ∃ k q A R : Nat, k ≤ n ∧ i = .int .i64 k ∧ A ≤ 6 ∧ Hid (7 * q + A = 8 * k) ∧ a = .int .u8 A ∧ R < 65536 ∧ r = .int .u16 R ∧ Hid (R % 2 ^ A = numW 8 (xs.take k) % 2 ^ A) ∧
     v = .slice (some ⟨w.heap.size, 0, none⟩) q ((8 * n + 6) / 7) ∧ wr.ownsRow w.heap.size 5 1 (.slice (some ⟨w.heap.size, 0, none⟩) q ((8 * n + 6) / 7)) q ((pkE xs q).map (Value.int .u8)) ∧ Below w.heap.size w wr) (fun _ _ _ i _ => n - (intOf i).toNat)
 case atStart => exact ⟨0, 0, 0, 0, Nat.zero_le _, rfl, by omega, rfl, rfl, by omega, rfl, rfl, rfl, HO.out, HG.out⟩
 case round =>
  obtain ⟨k, q, A, R, hk, rfl, hA, HQ, rfl, hR, rfl, HR, rfl, ho, hg⟩ := hrel
  by_cases hlt : k < n
  · obtain ⟨x, hx, hxe⟩ := byt_at hby k
    have hsrc : wr.cell? ⟨b, o + k, none⟩ = some (.int .u8 (x : Int)) := by rw [← hxe]; exact (hg.cell (p := ⟨b, o + k, none⟩) hb).trans (HC.out k hlt)
    have hltI : (k : Int) < (n : Int) := by omega
    obtain ⟨R', hR', hreg, HR'⟩ := reg_in R x A (numW 8 (xs.take k)) hx hA HR.out
    have HN : Hid (numW 8 (xs.take (k + 1)) = numW 8 (xs.take k) * 256 + x) := by
     have := numW_take_succ 8 xs k (by rw [HX.out]; exact hlt)
     rw [hxe] at this
     show _ = _
     rw [this, Int.toNat_natCast, Nat.mod_eq_of_lt (show x < 2 ^ 8 from hx)]
    rw [← HN.out] at HR'
    have HR2 : Hid (R' % 2 ^ (A + 8) = numW 8 (xs.take (k + 1)) % 2 ^ (A + 8)) := HR'
    have HQ2 : Hid (7 * q + (A + 8) = 8 * (k + 1)) := by have := HQ.out; show _ = _; omega
    clear hxe HR' HR HN HQ
    go_wp2
    go_loopw [3, 5] (fun v a wr => ∃ q A : Nat, A ≤ 14 ∧ Hid (7 * q + A = 8 * (k + 1)) ∧ a = .int .u8 A ∧ Hid (R' % 2 ^ A = numW 8 (xs.take (k + 1)) % 2 ^ A) ∧
        v = .slice (some ⟨w.heap.size, 0, none⟩) q ((8 * n + 6) / 7) ∧ wr.ownsRow w.heap.size 5 1 (.slice (some ⟨w.heap.size, 0, none⟩) q ((8 * n + 6) / 7)) q ((pkE xs q).map (Value.int .u8)) ∧ Below w.heap.size w wr) (fun _ a _ => (intOf a).toNat)
    case atStart => exact ⟨q, A + 8, by omega, HQ2, by go_num, HR2, rfl, ho, hg⟩
    case round =>
     clear HQ2 HR2 ho hg hsrc hreg
     obtain ⟨q', A', hA', HQ', rfl, HR', rfl, ho, hg⟩ := hrel
     by_cases h7 : 7 ≤ A'
     · obtain ⟨A2, rfl⟩ : ∃ A2, A' = A2 + 7 := ⟨A' - 7, by omega⟩
       have h7I : (7 : Int) ≤ ((A2 + 7 : Nat) : Int) := by omega
       have HD : Hid ((128 + (R' : Int) / 2 ^ A2 % 128) = ((128 + dig 8 7 xs q' : Nat) : Int)) := reg_out xs R' A2 (k + 1) q' (by rw [HX.out]; omega) HQ'.out HR'.out
       have hcap : q' + 1 ≤ (8 * n + 6) / 7 := by have := HQ'.out; omega
       go_wp2_with fail
       refine (groupByte_any _ _ (shr_nonneg R' A2) (shr_lt R' A2 hR')).mono ?_
       rintro e wr ⟨rfl, rfl⟩
       go_wp2_with (at_builtin; refine wpList_append_fits _ rfl _ _ 22 rfl w.heap.size 5 i0 1 Tryz.underlying22 hi hz1 w.heap.size q' ((8 * n + 6) / 7) _ rfl (ho.alloc _) ⟨wr.heap.size, 0, none⟩ 1 1 [.int .u8 (128 + (R' : Int) / 2 ^ A2 % 128)] rfl rfl (cell_one_new _ _ _) (by intro u hu; simp at hu; subst hu; rfl) hcap ?_)
       intro w2 ho2 hg2
       have HO2 : Hid (w2.ownsRow w.heap.size 5 1 (.slice (some ⟨w.heap.size, 0, none⟩) (q' + 1) ((8 * n + 6) / 7)) (q' + 1) ((pkE xs (q' + 1)).map (Value.int .u8))) := by
        rw [HD.out] at ho2; unfold pkE; rw [range_snoc, List.map_append]; exact ho2
       have HG2 : Hid (Below w.heap.size w w2) := (hg.alloc (hg.size) _).grown hg2 (by have := hg.size; simp; omega) (by intro k hk; simp at hk; omega)
       clear ho2 hg2 ho hg
       go_wp2
       go_roundw
       case rel => exact ⟨q' + 1, A2, by omega, (by have := HQ'.out; show _ = _; omega), by go_num, mod_low (by omega) HR'.out, rfl, HO2.out, HG2.out⟩
       case measure => simp [intOf]; omega
     · have h7I : ((A' : Nat) : Int) < 7 := by omega
       go_wp2
       go_roundw
       case rel => exact ⟨k + 1, q', A', R', by omega, by go_num, by omega, HQ', rfl, hR', rfl, HR', rfl, ho, hg⟩
       case measure => simp [intOf]; omega
  · have hkn : k = n := by omega
    subst hkn
    by_cases hA0 : A = 0
    · subst hA0
      go_wp2
      go_ret
      exact ⟨_, rfl, own_of (pkE_len xs q) (pk_even (by rw [HX.out]; exact HQ.out)) ho, hg⟩
    · have hA1 : (0 : Int) < (A : Int) := by omega
      have HD : Hid ((128 + IntKind.u16.wrap ((R : Int) * 2 ^ (7 - A)) % 128) = ((128 + numW 8 xs % 2 ^ A * 2 ^ (7 - A) : Nat) : Int)) := reg_last R _ A (by omega) (by have := HR.out; rw [List.take_of_length_le (by rw [HX.out]; exact Nat.le_refl _)] at this; exact this)
      have hcap : q + 1 ≤ (8 * k + 6) / 7 := by have := HQ.out; omega
      go_wp2_with fail
      refine (groupByte_any _ _ (wrap16 _).1 (wrap16 _).2).mono ?_
      rintro e wr ⟨rfl, rfl⟩
      go_wp2_with (at_builtin; refine wpList_append_fits _ rfl _ _ 22 rfl w.heap.size 5 i0 1 Tryz.underlying22 hi hz1 w.heap.size q ((8 * k + 6) / 7) _ rfl (ho.alloc _) ⟨wr.heap.size, 0, none⟩ 1 1 [.int .u8 (128 + IntKind.u16.wrap ((R : Int) * 2 ^ (7 - A)) % 128)] rfl rfl (cell_one_new _ _ _) (by intro u hu; simp at hu; subst hu; rfl) hcap ?_)
      intro w2 ho2 hg2
      have HO2 : Hid (Own .u8 5 w2 w.heap.size (.slice (some ⟨w.heap.size, 0, none⟩) (q + 1) ((8 * k + 6) / 7)) (pk xs)) := by
       rw [HD.out] at ho2
       exact own_of (q := q + 1) (ys := pkE xs q ++ [((128 + numW 8 xs % 2 ^ A * 2 ^ (7 - A) : Nat) : Int)]) (by simp [pkE_len]) (pk_odd (by rw [HX.out]; exact HQ.out) (by omega) (by omega)) (by rw [List.map_append]; exact ho2)
      have HG2 : Hid (Below w.heap.size w w2) := (hg.alloc (hg.size) _).grown hg2 (by have := hg.size; simp; omega) (by intro k hk; simp at hk; omega)
      clear ho2 hg2 ho hg
      go_wp2
      go_ret
      exact ⟨_, rfl, HO2.out, HG2.out⟩
theorem implPack_nil (w : World) (ao : Option Addr) (cap : Nat) :
    Calls Tryz.prog 180 #[.slice ao 0 cap] w fun e w' => ∃ v', e = .returned v' ∧ Own .u8 5 w' w.heap.size v' [] ∧ Below w.heap.size w w' := by
 obtain ⟨i0, hi, hz0, hz1, hz2⟩ := info_parts Tryz.infoB
 go_enter Tryz.func180, Tryz.ntmps180
 go_wp2_with (at_make; refine wpList_make_own _ rfl _ _ 22 rfl w.heap.size 5 i0 (.int .u8 0) 1 Tryz.underlying22 hi hz0 hz1 _ _ _ 0 rfl rfl ?b1 ?b2 ?b3 ?b4 ?_)
 case b1 => rfl
 case b2 => rw [hz2]; omega
 case b3 => unfold maxLen; omega
 case b4 => exact Nat.le_refl _
 intro w1 hown hgrow
 have HO : Hid (w1.ownsRow w.heap.size 5 1 (.slice (some ⟨w.heap.size, 0, none⟩) 0 0) 0 []) := hown
 have HG : Hid (Below w.heap.size w w1) := (Below.refl _ _).grown hgrow (Nat.le_refl _) (by simp)
 clear hown hgrow
 go_wp2
 go_rounds 1
 go_ret
 exact ⟨_, rfl, HO.out, HG.out⟩
theorem implPack_any (w : World) (v : Value) (xs : List Int) (h : Rd .u8 w v xs) (hby : Byt xs) (hn : xs.length ≤ 1099511627776) :
    Calls Tryz.prog 180 #[v] w fun e w' => ∃ v', e = .returned v' ∧ Own .u8 5 w' w.heap.size v' (pk xs) ∧ Below w.heap.size w w' := by
 obtain ⟨ao, cap, rfl, h1, h2, h3⟩ := h
 rcases h3 with rfl | ⟨b, o, rfl, hb, hc⟩
 · exact implPack_nil w ao cap
 · exact implPack_row w b o xs.length cap xs rfl hb hc hby hn
structure Sr where
 code : List Int
 used : Nat
 mix : Nat
 size : Nat
def Sr.next (s : Sr) (n : Nat) : Nat × Sr :=
 if n ≤ 1 then (0, s)
 else if s.used < s.code.length ∧ n ≤ 256 then ((s.code.getD s.used 0).toNat % n, { s with used := s.used + 1 })
 else ((s.mix * 1103 + 12347) % 1000003 / 3 % n, { s with mix := (s.mix * 1103 + 12347) % 1000003 })
theorem Sr.next_lt (s : Sr) (n : Nat) (h : 1 ≤ n) : (s.next n).1 < n := by
 unfold Sr.next
 split
 · exact h
 · split <;> exact Nat.mod_lt _ (by omega)
def Tch (k : Nat) (a b : World) : Prop := Below 0 a b ∧ ∀ j, j ≠ k → j < a.heap.size → b.heap[j]? = a.heap[j]?
theorem Tch.refl (k : Nat) (a : World) : Tch k a a := ⟨Below.refl _ _, fun _ _ _ => rfl⟩
theorem Tch.trans {k : Nat} {a b c : World} (h : Tch k a b) (h' : Tch k b c) : Tch k a c := ⟨h.1.trans h'.1, fun j hj hl => (h'.2 j hj (Nat.lt_of_lt_of_le hl h.1.size)).trans (h.2 j hj hl)⟩
theorem Tch.set (k i : Nat) (a : World) (q : Nat) (v : Value) : Tch k a ((a.drewN q).setCell ⟨k, i, none⟩ v) := ⟨((below_drewN' a q).mono (Nat.zero_le _)).setCell (Nat.zero_le _) _, fun _ hj _ => Below.heap_setCell (a.drewN q) _ _ _ hj⟩
theorem Tch.size {k : Nat} {a b : World} (h : Tch k a b) : a.heap.size ≤ b.heap.size := h.1.size
theorem Tch.below {k B : Nat} {a b : World} (h : Tch k a b) (hk : B ≤ k) (hB : B ≤ a.heap.size) : Below B a b := ⟨h.1.os, h.1.tape, h.1.output, h.1.size, fun j hj => h.2 j (by omega) (by omega)⟩
theorem Tch.of {k : Nat} {a b : World} (h : Below a.heap.size a b) : Tch k a b := ⟨h.mono (Nat.zero_le _), fun j _ hl => h.block j hl⟩
theorem Tch.then {k : Nat} {a b c : World} (h : Tch k a b) (h' : Below a.heap.size b c) : Tch k a c := ⟨h.1.trans (h'.mono (Nat.zero_le _)), fun j hj hl => (h'.block j hl).trans (h.2 j hj hl)⟩
structure SRX (W : World) (k B : Nat) (s : Sr) : Prop where
 kB : k < B
 lt : B ≤ W.heap.size
 fr : ∀ j, W.frozen? ⟨k, j, none⟩ = false
 row : ∃ ca cc, W.cell? ⟨k, 0, none⟩ = some (.slice ca s.code.length cc) ∧ (s.code = [] ∨ ∃ g, ca = some ⟨g, 0, none⟩ ∧ g ≠ k ∧ g < B ∧ ∀ i, i < s.code.length → W.cell? ⟨g, i, none⟩ = some (.int .u8 (s.code.getD i 0)))
 c1 : W.cell? ⟨k, 1, none⟩ = some (.int .i64 (s.used : Int))
 c2 : W.cell? ⟨k, 2, none⟩ = some (.int .i64 (s.mix : Int))
 c3 : W.cell? ⟨k, 3, none⟩ = some (.int .i64 (s.size : Int))
 mx : s.mix < 1000003
 len : s.code.length ≤ 4000
 us : s.used ≤ 4000
 byt : Byt s.code
 sz : 1 ≤ s.size ∧ s.size ≤ 7
theorem SRX.keep {W W' : World} {k B : Nat} {s : Sr} (h : SRX W k B s) (hb : Below B W W') : SRX W' k B s := by
 have hk := h.kB
 have e : ∀ i, W'.cell? ⟨k, i, none⟩ = W.cell? ⟨k, i, none⟩ := fun i => hb.cell (p := ⟨k, i, none⟩) hk
 obtain ⟨ca, cc, c0, hrow⟩ := h.row
 refine ⟨hk, Nat.le_trans h.lt hb.size, fun j => (World.frozen?_of_block (w := W) (hb.block k hk)).trans (h.fr j), ⟨ca, cc, (e 0).trans c0, ?_⟩, (e 1).trans h.c1, (e 2).trans h.c2, (e 3).trans h.c3, h.mx, h.len, h.us, h.byt, h.sz⟩
 rcases hrow with h0 | ⟨g, rfl, hgk, hgB, hx⟩
 · exact .inl h0
 · exact .inr ⟨g, rfl, hgk, hgB, fun i hi => (hb.cell (p := ⟨g, i, none⟩) hgB).trans (hx i hi)⟩
theorem SRX.mono {W : World} {k B B' : Nat} {s : Sr} (h : SRX W k B s) (hB : B ≤ B') (hl : B' ≤ W.heap.size) : SRX W k B' s := by
 obtain ⟨ca, cc, c0, hrow⟩ := h.row
 refine ⟨Nat.lt_of_lt_of_le h.kB hB, hl, h.fr, ⟨ca, cc, c0, ?_⟩, h.c1, h.c2, h.c3, h.mx, h.len, h.us, h.byt, h.sz⟩
 rcases hrow with h0 | ⟨g, rfl, hgk, hgB, hx⟩
 · exact .inl h0
 · exact .inr ⟨g, rfl, hgk, Nat.lt_of_lt_of_le hgB hB, hx⟩
theorem SRX.put1 {W : World} {k B q a : Nat} {s : Sr} (h : SRX W k B s) (ha : a ≤ 4000) : SRX ((W.drewN q).setCell ⟨k, 1, none⟩ (.int .i64 (a : Int))) k B { s with used := a } := by
 have e : ∀ (p : Addr), p ≠ ⟨k, 1, none⟩ → ((W.drewN q).setCell ⟨k, 1, none⟩ (.int .i64 (a : Int))).cell? p = W.cell? p := fun p hp => World.cell?_setCell_other _ _ _ _ (fun h => hp (by first | exact h | exact h.symm))
 obtain ⟨ca, cc, c0, hrow⟩ := h.row
 refine ⟨h.kB, by simpa using h.lt, fun j => by rw [World.frozen?_setCell]; exact h.fr j, ⟨ca, cc, (e _ (by simp)).trans c0, ?_⟩, World.cell?_setCell_same _ _ _ h.c1, (e _ (by simp)).trans h.c2, (e _ (by simp)).trans h.c3, h.mx, h.len, ha, h.byt, h.sz⟩
 rcases hrow with h0 | ⟨g, rfl, hgk, hgB, hx⟩
 · exact .inl h0
 · exact .inr ⟨g, rfl, hgk, hgB, fun i hi => (e _ (by intro h; injection h with h; exact hgk h)).trans (hx i hi)⟩
theorem SRX.put2 {W : World} {k B q m : Nat} {s : Sr} (h : SRX W k B s) (hm : m < 1000003) : SRX ((W.drewN q).setCell ⟨k, 2, none⟩ (.int .i64 (m : Int))) k B { s with mix := m } := by
 have e : ∀ (p : Addr), p ≠ ⟨k, 2, none⟩ → ((W.drewN q).setCell ⟨k, 2, none⟩ (.int .i64 (m : Int))).cell? p = W.cell? p := fun p hp => World.cell?_setCell_other _ _ _ _ (fun h => hp (by first | exact h | exact h.symm))
 obtain ⟨ca, cc, c0, hrow⟩ := h.row
 refine ⟨h.kB, by simpa using h.lt, fun j => by rw [World.frozen?_setCell]; exact h.fr j, ⟨ca, cc, (e _ (by simp)).trans c0, ?_⟩, (e _ (by simp)).trans h.c1, World.cell?_setCell_same _ _ _ h.c2, (e _ (by simp)).trans h.c3, hm, h.len, h.us, h.byt, h.sz⟩
 rcases hrow with h0 | ⟨g, rfl, hgk, hgB, hx⟩
 · exact .inl h0
 · exact .inr ⟨g, rfl, hgk, hgB, fun i hi => (e _ (by intro h; injection h with h; exact hgk h)).trans (hx i hi)⟩
theorem next_x (W : World) (k B n : Nat) (s : Sr) (h : SRX W k B s) (hn1 : n ≤ 1000000) :
    Calls Tryz.prog 26 #[.pointer (some ⟨k, 0, none⟩), .int .i64 (n : Int)] W fun e w' => e = .returned (.int .i64 ((s.next n).1 : Int)) ∧ SRX w' k B (s.next n).2 ∧ Tch k W w' := by
 by_cases h0 : n ≤ 1
 · have hn0 : (n : Int) ≤ 1 := by omega
   have HN : Hid (s.next n = (0, s)) := by show _ = _; unfold Sr.next; rw [if_pos h0]
   have HS : Hid (SRX W k B s) := h
   clear h
   go_enter Tryz.func26, Tryz.ntmps26
   go_wp2
   go_ret
   rw [HN.out]
   exact ⟨rfl, HS.out, Tch.refl _ _⟩
 have HS : Hid (SRX W k B s) := h
 obtain ⟨ca, cc, c0, hrow⟩ := h.row
 have c1 := h.c1
 have c2 := h.c2
 have hf1 := h.fr 1
 have hf2 := h.fr 2
 have hmx := h.mx
 have hN := h.len
 have hat := h.us
 have hn0 : ¬ (n : Int) ≤ 1 := by omega
 have hz : ((n : Int) == 0) = false := beq_eq_false_iff_ne.2 (by omega)
 by_cases hc : s.used < s.code.length ∧ n ≤ 256
 · have HN : Hid (s.next n = ((s.code.getD s.used 0).toNat % n, { s with used := s.used + 1 })) := by show _ = _; unfold Sr.next; rw [if_neg h0, if_pos hc]
   obtain ⟨hc1, hc2⟩ := hc
   rcases hrow with h00 | ⟨g, rfl, hgk, hgB, hx⟩
   · rw [h00] at hc1; simp at hc1
   obtain ⟨x, hx8, hxe⟩ := byt_at h.byt s.used
   have cx := hx s.used hc1
   rw [hxe] at cx
   have HX : Hid ((s.code.getD s.used 0).toNat = x) := by show _ = _; omega
   generalize hA : s.used = at_ at *
   generalize hL : s.code.length = N at *
   have HA : Hid (s.used = at_) := hA
   clear hA hL h hx hxe
   have hI1 : (at_ : Int) < (N : Int) := by omega
   have hI2 : (n : Int) ≤ 256 := by omega
   go_enter Tryz.func26, Tryz.ntmps26
   go_wp2
   go_quiet (fail)
   go_wp2
   go_quiet (fail)
   go_wp2
   go_ret
   rw [HN.out, HX.out]
   refine ⟨ret_int (by simp), ?_, Tch.set k 1 W _ _⟩
   have e : ((at_ : Int) + 1) = ((at_ + 1 : Nat) : Int) := by omega
   rw [e]
   exact HS.out.put1 (by omega)
 · have HN : Hid (s.next n = ((s.mix * 1103 + 12347) % 1000003 / 3 % n, { s with mix := (s.mix * 1103 + 12347) % 1000003 })) := by show _ = _; unfold Sr.next; rw [if_neg h0, if_neg hc]
   generalize hA : s.used = at_ at *
   generalize hL : s.code.length = N at *
   generalize hM : s.mix = mx at *
   have HA : Hid (s.used = at_) := hA
   clear hA hL hM h hrow
   have hcase : (¬ (at_ : Int) < (N : Int)) ∨ ((at_ : Int) < (N : Int) ∧ ¬ (n : Int) ≤ 256) := by omega
   clear hc
   rcases hcase with h1 | ⟨h1, h2⟩
   · have h1n : N ≤ at_ := by omega
     have h1m : ¬ at_ < N := by omega
     have h1e : (N : Int) ≤ (at_ : Int) := by omega
     go_enter Tryz.func26, Tryz.ntmps26
     go_wp2
     go_quiet (fail)
     go_wp2
     go_ret
     rw [HN.out]
     refine ⟨ret_int (by rw [Int.natCast_emod, show ((mx : Int) * 1103 + 12347) % 1000003 / 3 = (((mx * 1103 + 12347) % 1000003 / 3 : Nat) : Int) by omega]), ?_, Tch.set k 2 W _ _⟩
     have e : ((mx : Int) * 1103 + 12347) % 1000003 = (((mx * 1103 + 12347) % 1000003 : Nat) : Int) := by omega
     rw [e, ← HA.out]
     exact HS.out.put2 (Nat.mod_lt _ (by omega))
   · have h1n : at_ < N := by omega
     have h2n : 256 < n := by omega
     have h2m : ¬ n ≤ 256 := by omega
     go_enter Tryz.func26, Tryz.ntmps26
     go_wp2
     go_quiet (fail)
     go_wp2
     go_ret
     rw [HN.out]
     refine ⟨ret_int (by rw [Int.natCast_emod, show ((mx : Int) * 1103 + 12347) % 1000003 / 3 = (((mx * 1103 + 12347) % 1000003 / 3 : Nat) : Int) by omega]), ?_, Tch.set k 2 W _ _⟩
     have e : ((mx : Int) * 1103 + 12347) % 1000003 = (((mx * 1103 + 12347) % 1000003 : Nat) : Int) := by omega
     rw [e, ← HA.out]
     exact HS.out.put2 (Nat.mod_lt _ (by omega))
theorem step_append {P : Program} {ops : Array Oper} {o : Oper} {a : Act} {w : World} {K : Act → World → Prop} {Q : Exit → Act → World → Prop} {E : Prop}
    (hg : o.guard = none) (s x : Operand) (t : TypeId) (hop : o.op = Op.call { callee := Callee.builtin Builtin.append, args := #[s, x], argTypes := #[t, t] })
    (base : Nat) (e : TypeId) (i : TypeInfo) (z : Value) (size bytes : Nat) (h1 : P.underlying t = some (.slice e)) (h2 : P.info? e = some i) (h3 : i.zero = some z) (h4 : i.size = size) (h5 : i.bytes = bytes) (h6 : z.cells.size = size) (h7 : 0 < size)
    (v : Value) (n : Nat) (xs : List Value) (hs : a.eval s = v) (hown : w.ownsRow base e size v n xs) (ad : Addr) (m c : Nat) (news : List Value) (hx : a.eval x = .slice (some ad) m c) (hn : news.length = m * size)
    (hc : ∀ j u, news[j]? = some u → w.cell? (ad.add j) = some u) (h1c : ∀ u ∈ news, u.oneCell' = true) (b1 : n + m ≤ maxLen) (b2 : (n + m) * bytes ≤ 140737488355328) (hb : base ≤ w.heap.size)
    (hK : ∀ v' w', w'.ownsRow base e size v' (n + m) (xs ++ news) → w.grownBy w' v.ownBlock → K (a.put o.dst v') w') :
    if Region.wanted o (yielded ops a.tmps) = true then Oper.wp P o a w K Q else E := by
 have hw : Region.wanted o (yielded ops a.tmps) = true := by simp [Region.wanted, hg]
 rw [if_pos hw]
 obtain ⟨v', w', hrun, r1, r2, _⟩ := run_append_own (P := P) w base t o.type e i z size bytes h1 h2 h3 h4 h5 h6 h7 v n xs hown ad m c news hn hc h1c b1 b2 hb
 unfold Oper.wp
 simp [execOp, hop, resolve, invoke, builtin, hs, hx, hrun, Result.andThen]
 exact hK v' w' r1 r2
theorem Tch_grown (w : World) (k i : Nat) (v : Value) : w.grownBy (w.setCell ⟨k, i, none⟩ v) (some k) := grownBy_set w w k i v (World.grownBy.refl _ _)
theorem rowX3 {w : World} {lo n : Nat} {e : TypeId} {v : Value} {us : List Value} (h : w.ownsRow lo e 1 v n us) : ∃ a c, v = .slice a n c ∧ n ≤ c ∧ c ≤ maxLen := by
 rcases h.2 with ⟨rfl, rfl⟩ | ⟨g, cap, cur, rfl, -, -, h1, h2, -⟩
 · exact ⟨none, 0, rfl, Nat.le_refl _, Nat.zero_le _⟩
 · exact ⟨_, _, rfl, h1, h2⟩
theorem rowXs {w : World} {lo n : Nat} {e : TypeId} {v : Value} {us : List Value} (h : w.ownsRow lo e 1 v n us) (h0 : 0 < n) : ∃ g c, v = .slice (some ⟨g, 0, none⟩) n c := by
 rcases h.2 with ⟨rfl, h1⟩ | ⟨g, cap, cur, rfl, -⟩
 · omega
 · exact ⟨g, cap, rfl⟩
theorem rowXc {w : World} {lo i g c j x : Nat} {v : Value} {ys : List Int} (h : w.ownsRow lo 5 1 v ys.length (ys.map (Value.int .u8))) (hv : v = .slice (some ⟨g, 0, none⟩) i c) (hl : ys.length = i) (hj : j < i) (hx : ys.getD j 0 = (x : Int)) : w.cell? ⟨g, j, none⟩ = some (.int .u8 (x : Int)) := by
 subst hv
 rw [hl] at h
 rw [World.ownsRow.cellAt h j (by omega), ← hx]
 simp [List.getD, hl, hj]
def SBX (w wr : World) (v : Value) (xs : List Int) (mx : Int) : Prop :=
 w.heap.size < wr.heap.size ∧ (∀ j, wr.frozen? ⟨w.heap.size, j, none⟩ = false) ∧ wr.cell? ⟨w.heap.size, 0, none⟩ = some v ∧ wr.cell? ⟨w.heap.size, 1, none⟩ = some (.int .i64 0) ∧ wr.cell? ⟨w.heap.size, 2, none⟩ = some (.int .i64 mx) ∧ wr.cell? ⟨w.heap.size, 3, none⟩ = some (.int .i64 0) ∧
  wr.ownsRow (w.heap.size + 1) 5 1 v xs.length (xs.map (Value.int .u8)) ∧ Below w.heap.size w wr
theorem SBX.push {w wr w3 : World} {v v3 : Value} {ys : List Int} {x : Int} {mx : Int} (h : SBX w wr v ys mx) (hb : Below (w.heap.size + 1) wr w3) (ho : w3.ownsRow (w.heap.size + 1) 5 1 v3 (ys.length + 1) (ys.map (Value.int .u8) ++ [.int .u8 x])) : SBX w (w3.setCell ⟨w.heap.size, 0, none⟩ v3) v3 (ys ++ [x]) mx := by
 obtain ⟨sz, fr, c0, c1, c2, c3, ow, bl⟩ := h
 have e : ∀ i, i ≠ 0 → (w3.setCell ⟨w.heap.size, 0, none⟩ v3).cell? ⟨w.heap.size, i, none⟩ = wr.cell? ⟨w.heap.size, i, none⟩ := fun i hi => by
  rw [World.cell?_setCell_other _ _ _ _ (by intro e; injection e with _ e; omega)]
  exact hb.cell (p := ⟨w.heap.size, i, none⟩) (Nat.lt_succ_self _)
 have k0 : w3.cell? ⟨w.heap.size, 0, none⟩ = some v := (hb.cell (p := ⟨w.heap.size, 0, none⟩) (Nat.lt_succ_self _)).trans c0
 refine ⟨by have := hb.size; simp; omega, fun j => ?_, World.cell?_setCell_same _ _ _ k0, (e 1 (by omega)).trans c1, (e 2 (by omega)).trans c2, (e 3 (by omega)).trans c3, ?_, (bl.trans (hb.mono (by omega))).setCell (Nat.le_refl _) _⟩
 · rw [World.frozen?_setCell]; exact (hb.frozen (p := ⟨w.heap.size, j, none⟩) (Nat.lt_succ_self _)).trans (fr j)
 · rw [List.length_append, List.map_append]
   refine World.ownsRow.kept ho (row := some w.heap.size) (Tch_grown _ _ _ _) ?_
   cases hv : v3.ownBlock with
   | none => exact .inl rfl
   | some g => exact .inr (fun e => by have := (World.ownsRow.lt ho g hv).1; injection e with e; omega)
theorem SBX.mix {w wr : World} {v : Value} {ys : List Int} {mx : Int} (h : SBX w wr v ys mx) (q : Nat) (mx' : Int) : SBX w ((wr.drewN q).setCell ⟨w.heap.size, 2, none⟩ (.int .i64 mx')) v ys mx' := by
 obtain ⟨sz, fr, c0, c1, c2, c3, ow, bl⟩ := h
 have e : ∀ i, i ≠ 2 → ((wr.drewN q).setCell ⟨w.heap.size, 2, none⟩ (.int .i64 mx')).cell? ⟨w.heap.size, i, none⟩ = wr.cell? ⟨w.heap.size, i, none⟩ := fun i hi => World.cell?_setCell_other _ _ _ _ (by intro e; injection e with _ e; omega)
 refine ⟨by show _ < (World.setCell _ _ _).heap.size; simpa using sz, fun j => ?_, (e 0 (by omega)).trans c0, (e 1 (by omega)).trans c1, World.cell?_setCell_same _ _ _ c2, (e 3 (by omega)).trans c3, ?_, (bl.trans ((below_drewN' wr q).mono (by omega))).setCell (Nat.le_refl _) _⟩
 · rw [World.frozen?_setCell]; exact fr j
 · refine World.ownsRow.kept (w := wr.drewN q) ow (row := some w.heap.size) (Tch_grown _ _ _ _) ?_
   cases hv : v.ownBlock with
   | none => exact .inl rfl
   | some g => exact .inr (fun e => by have := (World.ownsRow.lt ow g hv).1; injection e with e; omega)
theorem SBX.drew {w wr : World} {v : Value} {ys : List Int} {mx : Int} (h : SBX w wr v ys mx) : SBX w wr.drew v ys mx := ⟨h.1, h.2.1, h.2.2.1, h.2.2.2.1, h.2.2.2.2.1, h.2.2.2.2.2.1, h.2.2.2.2.2.2.1, h.2.2.2.2.2.2.2.drew⟩
def mixR (m : Nat) (ys : List Int) : Nat := ys.foldl (fun m x => (m * 257 + x.toNat + 1) % 1000003) m
theorem mixR_succ (m : Nat) (ys : List Int) (j x : Nat) (h : j < ys.length) (hx : ys.getD j 0 = (x : Int)) : mixR m (ys.take (j + 1)) = (mixR m (ys.take j) * 257 + x + 1) % 1000003 := by
 unfold mixR
 rw [List.take_succ_eq_append_getElem h, List.foldl_append]
 simp only [List.getD, List.getElem?_eq_getElem h, Option.getD_some] at hx
 simp [hx]
def srcOf (xs : List Int) : Sr := ⟨xs.take 4000, 0, mixR (xs.length % 1000 + 53) (xs.take 4000), min 7 (1 + (xs.take 4000).length / 50)⟩
theorem SBX.src {w wr : World} {v : Value} {ys : List Int} {m z : Nat} (h : SBX w wr v ys (m : Int)) (h1 : m < 1000003) (hl : ys.length ≤ 4000) (hby : Byt ys) (hz : 1 ≤ z ∧ z ≤ 7) : ∀ w2, (w2 = wr.setCell ⟨w.heap.size, 3, none⟩ (.int .i64 (z : Int)) ∨ ∃ u, w2 = (wr.setCell ⟨w.heap.size, 3, none⟩ u).setCell ⟨w.heap.size, 3, none⟩ (.int .i64 (z : Int))) → SRX w2 w.heap.size wr.heap.size ⟨ys, 0, m, z⟩ ∧ Below w.heap.size w w2 := by
 obtain ⟨sz, fr, c0, c1, c2, c3, ow, bl⟩ := h
 intro w2 hw2
 have e : ∀ (p : Addr), p ≠ ⟨w.heap.size, 3, none⟩ → w2.cell? p = wr.cell? p := by
  intro p hp
  rcases hw2 with rfl | ⟨u, rfl⟩
  · exact World.cell?_setCell_other _ _ _ _ (fun h => hp (by first | exact h | exact h.symm))
  · rw [World.cell?_setCell_other _ _ _ _ (fun h => hp (by first | exact h | exact h.symm))]
    exact World.cell?_setCell_other _ _ _ _ (fun h => hp (by first | exact h | exact h.symm))
 have e3 : w2.cell? ⟨w.heap.size, 3, none⟩ = some (.int .i64 (z : Int)) := by
  rcases hw2 with rfl | ⟨u, rfl⟩
  · exact World.cell?_setCell_same _ _ _ c3
  · exact World.cell?_setCell_same _ _ _ (World.cell?_setCell_same _ _ _ c3)
 have ef : ∀ j, w2.frozen? ⟨w.heap.size, j, none⟩ = false := by
  intro j
  rcases hw2 with rfl | ⟨u, rfl⟩
  · rw [World.frozen?_setCell]; exact fr j
  · rw [World.frozen?_setCell, World.frozen?_setCell]; exact fr j
 have es : w2.heap.size = wr.heap.size := by
  rcases hw2 with rfl | ⟨u, rfl⟩ <;> simp
 have eb : Below w.heap.size w w2 := by
  rcases hw2 with rfl | ⟨u, rfl⟩
  · exact bl.setCell (Nat.le_refl _) _
  · exact (bl.setCell (Nat.le_refl _) _).setCell (Nat.le_refl _) _
 obtain ⟨va, vc, hv, -, -⟩ := rowX3 ow
 refine ⟨⟨sz, by rw [es]; exact Nat.le_refl _, ef, ⟨va, vc, by rw [e _ (by simp), c0, hv], ?_⟩, (e _ (by simp)).trans c1, (e _ (by simp)).trans c2, e3, h1, hl, Nat.zero_le _, hby, hz⟩, eb⟩
 by_cases hz : ys = []
 · exact .inl hz
 · have hp : 0 < ys.length := List.length_pos_iff.2 hz
   obtain ⟨g, c, hv2⟩ := rowXs ow hp
   have hva : va = some ⟨g, 0, none⟩ := by rw [hv] at hv2; simp only [Value.slice.injEq] at hv2; exact hv2.1
   have hg : w.heap.size + 1 ≤ g := (World.ownsRow.lt ow g (by rw [hv2]; rfl)).1
   refine .inr ⟨g, hva, by omega, (World.ownsRow.lt ow g (by rw [hv2]; rfl)).2, fun i hi => ?_⟩
   obtain ⟨x, hx, hxe⟩ := byt_at hby i
   show w2.cell? _ = some (.int .u8 (ys.getD i 0))
   rw [hxe]
   exact (e _ (by intro h; injection h with h; omega)).trans (rowXc ow hv2 rfl hi hxe)
theorem mixX_ok (mx x : Nat) (h1 : mx < 1000003) (hx : x < 256) : (IntKind.i64.wrap (IntKind.i64.wrap (IntKind.i64.wrap ((mx : Int) * 257) + IntKind.i64.wrap (x : Int)) + 1)).tmod 1000003 = (((mx * 257 + x + 1) % 1000003 : Nat) : Int) := by
 have e1 : IntKind.i64.wrap ((mx : Int) * 257) = (mx : Int) * 257 := by rw [IntKind.wrap_i64]; omega
 have e2 : IntKind.i64.wrap (x : Int) = (x : Int) := by rw [IntKind.wrap_i64]; omega
 have e3 : IntKind.i64.wrap ((mx : Int) * 257 + (x : Int)) = (mx : Int) * 257 + (x : Int) := by rw [IntKind.wrap_i64]; omega
 have e4 : IntKind.i64.wrap ((mx : Int) * 257 + (x : Int) + 1) = (mx : Int) * 257 + (x : Int) + 1 := by rw [IntKind.wrap_i64]; omega
 rw [e1, e2, e3, e4, Int.tmod_eq_emod_of_nonneg (by omega)]
 omega
theorem sourceX_row (w : World) (b o n cap : Nat) (xs : List Int) (hx : xs.length = n) (hb : b < w.heap.size) (hc : ∀ i, i < n → w.cell? ⟨b, o + i, none⟩ = some (.int .u8 (xs.getD i 0))) (hby : Byt xs) (hn : n ≤ 1048576) :
    Calls Tryz.prog 23 #[.slice (some ⟨b, o, none⟩) n cap] w fun e w' => ∃ k, e = .returned (.pointer (some ⟨k, 0, none⟩)) ∧ w.heap.size ≤ k ∧ SRX w' k w'.heap.size (srcOf xs) ∧ Below w.heap.size w w' := by
 obtain ⟨i0, hi, hz0, hz1, hz2⟩ := info_parts Tryz.infoB
 have HC : Hid (∀ i, i < n → w.cell? ⟨b, o + i, none⟩ = some (.int .u8 (xs.getD i 0))) := hc
 have HX : Hid (xs.length = n) := hx
 have HBY : Hid (Byt xs) := hby
 clear hc hx hby
 go_enter Tryz.func23, Tryz.ntmps23
 go_wp2
 go_loopw [4] (fun vi wr => ∃ (i : Nat) (v : Value), i ≤ n ∧ i ≤ 4000 ∧ vi = .int .i64 i ∧ Hid (SBX w wr v (xs.take i) 0)) (fun i _ => n - (intOf i).toNat)
 case atStart =>
  refine ⟨0, .slice none 0 0, Nat.zero_le _, Nat.zero_le _, rfl, ?_⟩
  refine ⟨by simp, fun j => (by go_simp), (by go_simp), (by go_simp), (by go_simp), (by go_simp), ?_, (Below.refl _ _).alloc (Nat.le_refl _) _⟩
  rw [List.take_zero]; exact World.ownsRow_nil _ _ _ _
 case round =>
  obtain ⟨i, v, hi1, hi2, rfl, HSB⟩ := hrel
  by_cases hlt : i < n ∧ i < 4000
  · obtain ⟨hl1, hl2⟩ := hlt
    have hI1 : (i : Int) < (n : Int) := by omega
    have hI2 : (i : Int) < 4000 := by omega
    obtain ⟨sz, fr, c0, c1, c2, c3, ow, bl⟩ := HSB.out
    have f0 := fr 0
    obtain ⟨va, vc, rfl, -, -⟩ := rowX3 ow
    have hl : (xs.take i).length = i := by rw [List.length_take, HX.out]; omega
    rw [hl] at c0 ow
    obtain ⟨x, hx8, hxe⟩ := byt_at HBY.out i
    have cx : wr.cell? ⟨b, o + i, none⟩ = some (.int .u8 (x : Int)) := by rw [bl.cell (p := ⟨b, o + i, none⟩) hb, HC.out i hl1, hxe]
    have HOW : Hid (wr.ownsRow (w.heap.size + 1) 5 1 (.slice va i vc) i ((xs.take i).map (Value.int .u8))) := ow
    have HBL : Hid (Below w.heap.size w wr) := bl
    have hsz1 : w.heap.size + 1 ≤ wr.heap.size := sz
    have HXT : Hid (xs.take (i + 1) = xs.take i ++ [(x : Int)]) := by
     have hl' : i < xs.length := by rw [HX.out]; exact hl1
     have he := hxe
     simp only [List.getD, List.getElem?_eq_getElem hl', Option.getD_some] at he
     show _ = _
     rw [List.take_succ_eq_append_getElem hl', he]
    have HLEN : Hid ((xs.take i).length = i) := hl
    have HSB0 : Hid (SBX w wr (.slice va i vc) (xs.take i) 0) := by have h := HSB.out; rw [hl] at h; exact h
    clear fr ow bl hl hxe HSB
    generalize hL : (xs.take i).map (Value.int .u8) = L at *
    have HL : Hid ((xs.take i).map (Value.int .u8) = L) := hL
    clear hL
    go_wp2
    go_region_law (first | (refine step_append rfl (.tmp 18) (.tmp 23) 22 rfl (w.heap.size + 1) 5 i0 (.int .u8 0) 1 1 Tryz.underlying22 hi hz0 hz1 hz2 rfl (by decide) (.slice va i vc) i L rfl (HOW.out.alloc _) ⟨wr.heap.size, 0, none⟩ 1 1 [.int .u8 (x : Int)] rfl rfl (cell_one_new _ _ _) (by intro u hu; simp at hu; subst hu; rfl) (by unfold maxLen; omega) (by omega) (by simp; omega) ?_; intro v3 w3 ho3 hg3; have b3 : Hid (Below (w.heap.size + 1) wr w3) := Below.grown (by first | exact ((Below.refl _ _).alloc hsz1 _).drew | exact ((Below.refl _ _).drew).alloc hsz1 _) hg3 (by simp; omega) (fun q hq => (World.ownsRow.lt HOW.out q hq).1); have k0 : w3.cell? ⟨w.heap.size, 0, none⟩ = some (.slice va i vc) := (b3.out.cell (p := ⟨w.heap.size, 0, none⟩) (Nat.lt_succ_self _)).trans c0; have k1 : w3.frozen? ⟨w.heap.size, 0, none⟩ = false := (b3.out.frozen (p := ⟨w.heap.size, 0, none⟩) (Nat.lt_succ_self _)).trans f0; obtain ⟨a3, c3', hv3, -, -⟩ := rowX3 ho3; subst hv3; have HO3 : Hid (w3.ownsRow (w.heap.size + 1) 5 1 (.slice a3 (i + 1) c3') (i + 1) (L ++ [.int .u8 (x : Int)])) := ho3; clear ho3 hg3))
    all_goals
     have HSB2 : Hid (SBX w (w3.setCell ⟨w.heap.size, 0, none⟩ (.slice a3 (i + 1) c3')) (.slice a3 (i + 1) c3') (xs.take (i + 1)) 0) := by
      have hp := HSB0.out.push (x := (x : Int)) b3.out (by rw [HLEN.out, HL.out]; exact HO3.out)
      rw [← HXT.out] at hp
      exact hp
     clear k0 k1 HO3 b3
     generalize w3.setCell ⟨w.heap.size, 0, none⟩ (.slice a3 (i + 1) c3') = w4 at *
     go_wp2
     exact ⟨⟨i + 1, _, by omega, by omega, by go_num, HSB2⟩, by simp [intOf]; omega⟩
  · have hex : (¬ (i : Int) < (n : Int)) ∨ ((i : Int) < (n : Int) ∧ ¬ (i : Int) < 4000) := by omega
    clear hlt
    obtain ⟨ys, hys⟩ : ∃ ys, ys = xs.take i := ⟨_, rfl⟩
    have HSO : Hid (srcOf xs = ⟨ys, 0, mixR (n % 1000 + 53) ys, min 7 (1 + i / 50)⟩) := by
     have ht : xs.take 4000 = ys := by
      rw [hys]
      by_cases h4 : i < 4000
      · have hin : i = n := by omega
        rw [List.take_of_length_le (by rw [HX.out]; omega), List.take_of_length_le (by rw [HX.out]; omega)]
      · rw [show i = 4000 by omega]
     show _ = _
     unfold srcOf
     rw [ht, HX.out]
     congr 3
     rw [hys, List.length_take, HX.out]
     congr 1
     omega
    rw [← hys] at HSB
    have hyl : ys.length = i := by rw [hys, List.length_take, HX.out]; omega
    have HYB : Hid (Byt ys) := by rw [hys]; exact fun y hy => HBY.out y (List.mem_of_mem_take hy)
    have HYL : Hid (ys.length = i) := hyl
    clear hys hyl
    obtain ⟨sz, fr, c0, c1, c2, c3, ow, bl⟩ := HSB.out
    have f2 := fr 2
    clear fr ow bl
    rcases hex with h1 | ⟨h1, h2⟩
    all_goals
     go_wp2
     have HS1 : Hid (SBX w (wr.setCell ⟨w.heap.size, 2, none⟩ (.int .i64 ((n : Int) % 1000 + 53))) v ys ((n : Int) % 1000 + 53)) := HSB.out.mix 0 _
     have hmx : n % 1000 + 53 < 1000003 := by omega
     have hme : (n : Int) % 1000 + 53 = ((n % 1000 + 53 : Nat) : Int) := by omega
     rw [hme] at HS1
     rw [hme]
     clear hme
     generalize n % 1000 + 53 = m0 at *
     clear c0 c1 c2 c3 f2 HSB sz
     generalize wr.setCell ⟨w.heap.size, 2, none⟩ (.int .i64 (m0 : Int)) = w5 at *
     go_loopw [5] (fun vi wr => ∃ (j mx : Nat), j ≤ i ∧ vi = .int .i64 j ∧ Hid (mx = mixR m0 (ys.take j)) ∧ mx < 1000003 ∧ Hid (SBX w wr v ys (mx : Int))) (fun x _ => i - (intOf x).toNat)
     case atStart => exact ⟨0, m0, Nat.zero_le _, rfl, rfl, hmx, HS1⟩
     case round =>
      clear HS1 hmx
      obtain ⟨j, mx, hj, rfl, HM, hm1, HSJ⟩ := hrel
      obtain ⟨sz, fr, c0, c1, c2, c3, ow, bl⟩ := HSJ.out
      have f2 := fr 2
      have f3 := fr 3
      by_cases hji : j < i
      · have hjI : (j : Int) < (i : Int) := by omega
        obtain ⟨g, vc, hva⟩ := rowXs ow (by rw [HYL.out]; omega)
        rw [HYL.out] at hva
        obtain ⟨x, hx8, hxe⟩ := byt_at HYB.out j
        have cx : wr.cell? ⟨g, j, none⟩ = some (.int .u8 (x : Int)) := rowXc ow hva HYL.out hji hxe
        rw [hva] at c0
        have HM2 : Hid ((mx * 257 + x + 1) % 1000003 = mixR m0 (ys.take (j + 1))) := by
         show _ = _
         rw [mixR_succ m0 ys j x (by rw [HYL.out]; exact hji) hxe, HM.out]
        clear ow bl hxe hva fr HM
        go_wp2
        go_region_law (fail)
        all_goals
         rw [mixX_ok mx x hm1 hx8]
         have hmk : (mx * 257 + x + 1) % 1000003 < 1000003 := Nat.mod_lt _ (by omega)
         generalize (mx * 257 + x + 1) % 1000003 = m2 at *
         have HS2 : Hid (SBX w ((wr.setCell ⟨w.heap.size, 2, none⟩ (.int .i64 (m2 : Int))).drew) v ys (m2 : Int)) := (HSJ.out.mix 0 (m2 : Int)).drew
         generalize (wr.setCell ⟨w.heap.size, 2, none⟩ (.int .i64 (m2 : Int))).drew = w6 at *
         clear c0 c1 c2 c3 cx f2 f3 HSJ
         go_wp2
         exact ⟨⟨j + 1, m2, by omega, by go_num, HM2, hmk, HS2⟩, by simp [intOf]; omega⟩
      · have hjI : ¬ (j : Int) < (i : Int) := by omega
        have hji2 : j = i := by omega
        obtain ⟨va, vc, hva, -, -⟩ := rowX3 ow
        rw [HYL.out] at hva
        rw [hva] at c0
        have HMY : Hid (mx = mixR m0 ys) := by
         have := HM.out
         rw [hji2, ← HYL.out, List.take_length] at this
         exact this
        have HSR := HSJ.out.src hm1 (by rw [HYL.out]; omega) HYB.out (z := min 7 (1 + i / 50)) (by omega)
        have HSS : Hid (∀ w2, (w2 = wr.setCell ⟨w.heap.size, 3, none⟩ (.int .i64 (min 7 (1 + i / 50) : Nat)) ∨ ∃ u, w2 = (wr.setCell ⟨w.heap.size, 3, none⟩ u).setCell ⟨w.heap.size, 3, none⟩ (.int .i64 (min 7 (1 + i / 50) : Nat))) → SRX w2 w.heap.size wr.heap.size (srcOf xs) ∧ Below w.heap.size w w2) := by
         intro w2 hw2
         have := HSR w2 hw2
         rw [HSO.out, ← HMY.out]
         exact this
        clear bl HSR ow HM HMY HSO
        by_cases h7 : 7 < 1 + i / 50
        · have h7I : (7 : Int) < 1 + (i : Int) / 50 := by omega
          have e7 : min 7 (1 + i / 50) = 7 := by omega
          rw [e7] at HSS
          go_wp2
          go_ret
          refine ⟨_, rfl, Nat.le_refl _, SRX.mono (HSS.out _ (.inr ⟨_, rfl⟩)).1 (by simp) (by simp), (HSS.out _ (.inr ⟨_, rfl⟩)).2⟩
        · first
           | (exfalso; omega)
           | (have h7I : ¬ (7 : Int) < 1 + (i : Int) / 50 := by omega
              have e7 : ((min 7 (1 + i / 50) : Nat) : Int) = 1 + (i : Int) / 50 := by omega
              rw [e7] at HSS
              clear e7
              go_wp2
              go_ret
              refine ⟨_, rfl, Nat.le_refl _, SRX.mono (HSS.out _ (.inl rfl)).1 (by simp) (by simp), (HSS.out _ (.inl rfl)).2⟩)
theorem sourceX_nil (w : World) (ao : Option Addr) (cap : Nat) :
    Calls Tryz.prog 23 #[.slice ao 0 cap] w fun e w' => ∃ k, e = .returned (.pointer (some ⟨k, 0, none⟩)) ∧ w.heap.size ≤ k ∧ SRX w' k w'.heap.size (srcOf []) ∧ Below w.heap.size w w' := by
 go_enter Tryz.func23, Tryz.ntmps23
 go_wp2
 go_rounds 1
 go_rounds 1
 go_ret
 refine ⟨_, rfl, Nat.le_refl _, ⟨by simp, by simp, fun j => (by go_simp), ⟨none, 0, (by go_simp; rfl), .inl rfl⟩, (by go_simp; rfl), (by go_simp; rfl), (by go_simp; rfl), by decide, by decide, by decide, fun x hx => by simp [srcOf] at hx, by decide⟩, ?_⟩
 repeat (first | exact Below.refl _ _ | refine Below.setCell ?_ (by simp) _ | refine Below.alloc ?_ (by simp) _)
theorem sourceX_any (w : World) (v : Value) (xs : List Int) (h : Rd .u8 w v xs) (hby : Byt xs) (hn : xs.length ≤ 1048576) :
    Calls Tryz.prog 23 #[v] w fun e w' => ∃ k, e = .returned (.pointer (some ⟨k, 0, none⟩)) ∧ w.heap.size ≤ k ∧ SRX w' k w'.heap.size (srcOf xs) ∧ Below w.heap.size w w' := by
 obtain ⟨ao, cap, rfl, h1, h2, h3⟩ := h
 rcases h3 with rfl | ⟨b, o, rfl, hb, hc⟩
 · exact sourceX_nil w ao cap
 · exact sourceX_row w b o xs.length cap xs rfl hb hc hby hn
theorem rowTch {w w' : World} {lo k m n : Nat} {e : TypeId} {v : Value} {us : List Value} (h : w.ownsRow lo e m v n us) (t : Tch k w w') (hk : k < lo) : w'.ownsRow lo e m v n us := by
 refine ⟨h.1, ?_⟩
 rcases h.2 with hn | ⟨g, cap, cur, rfl, hbg, hgg, rest⟩
 · exact .inl hn
 · exact .inr ⟨g, cap, cur, rfl, hbg, (t.2 g (by omega) (Array.getElem?_eq_some_iff.1 hgg).1).trans hgg, rest⟩
def Sr.bytes (s : Sr) : Nat → List Int × Sr
 | 0 => ([], s)
 | n + 1 => ((s.bytes n).1 ++ [(((s.bytes n).2.next 256).1 : Int)], ((s.bytes n).2.next 256).2)
theorem Sr.bytes_len (s : Sr) : ∀ n, (s.bytes n).1.length = n
 | 0 => rfl
 | n + 1 => by show ((s.bytes n).1 ++ [_]).length = _; rw [List.length_append, s.bytes_len n]; rfl
theorem Sr.bytes_byt (s : Sr) : ∀ n, Byt (s.bytes n).1
 | 0 => fun x hx => by cases hx
 | n + 1 => by
  intro x hx
  rcases List.mem_append.1 hx with h | h
  · exact s.bytes_byt n x h
  · have hl := (s.bytes n).2.next_lt 256 (by omega)
    simp at h
    omega
theorem bytes_x (W : World) (k B n : Nat) (s : Sr) (h : SRX W k B s) (hn : n ≤ 1000) :
    Calls Tryz.prog 80 #[.pointer (some ⟨k, 0, none⟩), .int .i64 (n : Int)] W fun e w' => ∃ v', e = .returned v' ∧ Own .u8 5 w' W.heap.size v' (s.bytes n).1 ∧ SRX w' k B (s.bytes n).2 ∧ Tch k W w' := by
 obtain ⟨i0, hi, hz0, hz1, hz2⟩ := info_parts Tryz.infoB
 have HS : Hid (SRX W k B s) := h
 have HLEN : Hid (∀ n, (s.bytes n).1.length = n) := s.bytes_len
 have hk1 := h.kB
 have hk2 := h.lt
 clear h
 go_enter Tryz.func80, Tryz.ntmps80
 go_wp2
 go_loopw [5, 6] (fun v i wr => ∃ (j : Nat) (u : Value), j ≤ n ∧ u = v ∧ i = .int .i64 j ∧ Hid (wr.ownsRow W.heap.size 5 1 u j ((s.bytes j).1.map (Value.int .u8))) ∧ Hid (SRX wr k B (s.bytes j).2) ∧ Hid (Tch k W wr)) (fun _ i _ => n - (intOf i).toNat)
 case atStart =>
  have bA : Below W.heap.size W (W.alloc (.cells #[] 5)) := (Below.refl _ _).alloc (Nat.le_refl _) _
  exact ⟨0, _, Nat.zero_le _, rfl, rfl, World.ownsRow_lit W #[] 0 (Nat.le_refl _) (Nat.zero_le _) rfl, HS.out.keep (bA.mono hk2), Tch.of bA⟩
 case round =>
  obtain ⟨j, u, hj, rfl, rfl, HO, HR, HT⟩ := hrel
  by_cases hlt : j < n
  · have hltI : (j : Int) < (n : Int) := by omega
    have HNX : Hid ((s.bytes (j + 1)) = ((s.bytes j).1 ++ [(((s.bytes j).2.next 256).1 : Int)], ((s.bytes j).2.next 256).2)) := rfl
    have HNL : Hid ((s.bytes j).1.length = j) := HLEN.out j
    generalize s.bytes j = q at *
    go_wp2_with fail
    refine (next_x _ k B 256 q.2 HR.out (by omega)).mono ?_
    rintro e w1 ⟨rfl, s1, t1⟩
    have hn1 := q.2.next_lt 256 (by omega)
    generalize (q.2.next 256).2 = r1 at *
    generalize (q.2.next 256).1 = n1 at *
    have S1 : Hid (SRX w1 k B r1) := s1
    have T1 := hd9 (HT.out.trans t1)
    have O1 : Hid (w1.ownsRow W.heap.size 5 1 u j (q.1.map (Value.int .u8))) := rowTch HO.out t1 (by omega)
    have zz := T1.out.size
    clear s1 t1 HR HT HO
    go_wp2_with (at_builtin; go_must (refine wpList_append_own _ rfl _ _ 22 rfl W.heap.size 5 i0 (.int .u8 0) 1 1 Tryz.underlying22 hi hz0 hz1 hz2 rfl (by decide) _ _ _ rfl (O1.out.alloc _) ⟨w1.heap.size, 0, none⟩ 1 1 [.int .u8 (n1 : Int)] rfl rfl (cell_one_new _ _ _) (by intro u hu; simp at hu; subst hu; rfl) ?c3 ?c4 ?c5 ?_))
    case c3 => unfold maxLen; omega
    case c4 => omega
    case c5 => simp; omega
    intro v2 w2 ho2 hg2 _
    have bg : Below W.heap.size w1 w2 := ((Below.refl _ w1).alloc zz _).grown hg2 (by simp; omega) (fun q hq => (O1.out.lt q hq).1)
    have HO2 : Hid (w2.ownsRow W.heap.size 5 1 v2 (j + 1) ((s.bytes (j + 1)).1.map (Value.int .u8))) := by
     show World.ownsRow _ _ _ _ _ _ _; rw [HNX.out, List.map_append]; exact ho2
    have HR2 : Hid (SRX w2 k B (s.bytes (j + 1)).2) := by
     show SRX _ _ _ _; rw [HNX.out]; exact S1.out.keep (bg.mono hk2)
    have HT2 : Hid (Tch k W w2) := T1.out.then bg
    clear ho2 hg2 bg O1 S1 T1
    go_wp2
    exact ⟨⟨j + 1, _, by omega, rfl, by go_num, HO2, HR2, HT2⟩, by simp [intOf]; omega⟩
  · have hjn : j = n := by omega
    subst hjn
    go_wp2
    go_ret
    exact ⟨_, rfl, by unfold Own; rw [HLEN.out]; exact HO.out, HR.out, HT.out⟩
theorem ret_b {a b : Bool} (h : a = b) : Ending.returned (.bool a) = .returned (.bool b) := by rw [h]
def okB (x : Nat) : Bool := (decide (97 ≤ x) && decide (x ≤ 122)) || (decide (48 ≤ x) && decide (x ≤ 57))
def bN (s : ByteArray) (j : Nat) : Nat := (s.data.toList.getD j 0).toNat
def okN (s : ByteArray) : Bool := decide (1 ≤ s.size) && decide (s.size ≤ 16) && (List.range s.size).all (fun j => okB (bN s j))
theorem bN_get (s : ByteArray) (j : Nat) (h : j < s.size) : bN s j = s[j].toNat := by
 have h' : j < s.data.toList.length := h
 unfold bN
 simp only [List.getD, List.getElem?_eq_getElem h', Option.getD_some]
 rfl
theorem okN_no {s : ByteArray} {j : Nat} (h : j < s.size) (hb : okB (bN s j) = false) : okN s = false := by
 unfold okN
 have : (List.range s.size).all (fun j => okB (bN s j)) = false := by
  rw [List.all_eq_false]
  exact ⟨j, List.mem_range.2 h, by rw [hb]; simp⟩
 rw [this, Bool.and_false]
theorem okN_yes {s : ByteArray} (h1 : 1 ≤ s.size) (h2 : s.size ≤ 16) (h : ∀ j, j < s.size → okB (bN s j) = true) : okN s = true := by
 unfold okN
 rw [decide_eq_true h1, decide_eq_true h2]
 simp only [Bool.true_and, List.all_eq_true, List.mem_range]
 exact h
theorem letter_any (w : World) (x : Nat) (hx : x < 256) :
    Calls Tryz.prog 186 #[.int .u8 (x : Int)] w fun e w' => e = .returned (.bool (okB x)) ∧ w' = w := by
 go_enter Tryz.func186, Tryz.ntmps186
 go_wp2
 all_goals
  go_ret
  refine ⟨ret_b ?_, rfl⟩
  unfold okB
  rw [Bool.eq_iff_iff]
  simp only [Bool.and_eq_true, Bool.or_eq_true, decide_eq_true_eq, Bool.false_eq_true, false_iff, true_iff]
  omega
theorem Tryz.infoT : (Tryz.prog.info? 9).map (fun i => (i.zero, i.size, i.bytes)) = some (some (.string ByteArray.empty), 1, 16) := by kernel_rfl
def splA : List UInt8 → List UInt8 → List (List UInt8)
 | cur, [] => [cur]
 | cur, x :: l => if x = 47 then cur :: splA [] l else splA (cur ++ [x]) l
theorem splA_sl (cur l : List UInt8) : splA cur (47 :: l) = cur :: splA [] l := by simp [splA]
theorem splA_ch {x : UInt8} (h : ¬ x = 47) (cur l : List UInt8) : splA cur (x :: l) = splA (cur ++ [x]) l := by simp [splA, h]
def nm (s : ByteArray) : List (List UInt8) := splA [] (s.data.toList.drop 1)
def seg (s : ByteArray) (a b : Nat) : List UInt8 := (s.data.toList.drop a).take (b - a)
def sV (l : List UInt8) : Value := .string ⟨l.toArray⟩
theorem seg_self (s : ByteArray) (a : Nat) : seg s a a = [] := by unfold seg; simp
theorem seg_succ (s : ByteArray) (a i : Nat) (ha : a ≤ i) (hi : i < s.size) : seg s a (i + 1) = seg s a i ++ [s[i]] := by
 have hl : i < s.data.toList.length := hi
 unfold seg
 rw [show i + 1 - a = (i - a) + 1 by omega, List.take_succ_eq_append_getElem (by rw [List.length_drop]; omega)]
 congr 1
 rw [List.getElem_drop]
 simp only [show a + (i - a) = i by omega]
 rfl
theorem drop_cons (s : ByteArray) (i : Nat) (hi : i < s.size) : s.data.toList.drop i = s[i] :: s.data.toList.drop (i + 1) := by
 have hl : i < s.data.toList.length := hi
 rw [List.drop_eq_getElem_cons hl]; rfl
theorem extract_seg (s : ByteArray) (a b : Nat) : s.extract a b = ⟨(seg s a b).toArray⟩ := by
 apply ByteArray.ext
 rw [ByteArray.data_extract]
 apply Array.ext'
 unfold seg
 rw [Array.toList_extract, List.extract_eq_take_drop]
theorem row_slice {w : World} {lo n : Nat} {e : TypeId} {v : Value} {us : List Value} (h : w.ownsRow lo e 1 v n us) : ∃ a c, v = .slice a n c ∧ n ≤ c ∧ c ≤ maxLen := by
 rcases h.2 with ⟨rfl, rfl⟩ | ⟨g, cap, cur, rfl, -, -, h1, h2, -⟩
 · exact ⟨none, 0, rfl, Nat.le_refl _, Nat.zero_le _⟩
 · exact ⟨_, _, rfl, h1, h2⟩
theorem names_any (w : World) (s : ByteArray) (h1 : 1 ≤ s.size) (h2 : s.size ≤ 1048576) :
    Calls Tryz.prog 185 #[.string s] w fun e w' => ∃ v, e = .returned v ∧ w'.ownsRow w.heap.size 9 1 v (nm s).length ((nm s).map sV) ∧ Below w.heap.size w w' := by
 obtain ⟨i0, hi, hz0, hz1, hz2⟩ := info_parts Tryz.infoT
 go_enter Tryz.func185, Tryz.ntmps185
 go_wp2
 go_loopw [3, 4, 5] (fun vo vf vi wr => ∃ (i fr : Nat) (acc : List (List UInt8)), 1 ≤ fr ∧ i ≤ s.size + 1 ∧ vi = .int .i64 i ∧ vf = .int .i64 fr ∧ acc.length ≤ i ∧ ((i ≤ s.size ∧ fr ≤ i ∧ Hid (nm s = acc ++ splA (seg s fr i) (s.data.toList.drop i))) ∨ (i = s.size + 1 ∧ fr = s.size + 1 ∧ Hid (nm s = acc))) ∧ Hid (wr.ownsRow w.heap.size 9 1 vo acc.length (acc.map sV)) ∧ Hid (Below w.heap.size w wr)) (fun _ _ i _ => s.size + 1 - (intOf i).toNat)
 case atStart =>
  refine ⟨1, 1, [], Nat.le_refl _, by omega, rfl, rfl, by simp, .inl ⟨h1, Nat.le_refl _, ?_⟩, World.ownsRow_lit w #[] 0 (Nat.le_refl _) (Nat.zero_le _) rfl, (Below.refl _ _).alloc (Nat.le_refl _) _⟩
  show nm s = _
  rw [seg_self]; rfl
 case round =>
  obtain ⟨i, fr, acc, hf1, hi1, rfl, rfl, hal, hst, HO, HB⟩ := hrel
  have sB := HB.out.size
  obtain ⟨a, c, hv, -, -⟩ := row_slice HO.out
  rcases hst with ⟨hi2, hfi, HN⟩ | ⟨hi2, hf2, HN⟩
  · have hI : (i : Int) ≤ (s.size : Int) := by omega
    by_cases hend : i = s.size
    · have he : ((i : Int) == (s.size : Int)) = true := by rw [hend]; simp
      have HN2 : Hid (nm s = acc ++ [seg s fr i]) := by
       show _ = _
       rw [HN.out, List.drop_eq_nil_of_le (by show s.size ≤ i; omega)]; rfl
      have HEX : Hid (Value.string (s.extract fr i) = sV (seg s fr i)) := by show _ = _; rw [extract_seg]; rfl
      have hk1 : (fr : Int) ≤ (i : Int) := by omega
      have hk2 : fr ≤ i := by omega
      have HEND : Hid (i = s.size) := hend
      clear hend
      subst hv
      go_wp2_with (at_builtin; go_must (refine wpList_append_own _ rfl _ _ 126 rfl w.heap.size 9 i0 (.string ByteArray.empty) 1 16 Tryz.underlying126 hi hz0 hz1 hz2 rfl (by decide) _ _ _ rfl (HO.out.alloc _) ⟨wr.heap.size, 0, none⟩ 1 1 [.string (s.extract fr i)] rfl rfl (cell_one_new _ _ _) (by intro u hu; simp at hu; subst hu; rfl) ?_ ?_ ?_ ?_))
      · unfold maxLen; omega
      · omega
      · simp; omega
      intro v2 w2 ho2 hg2 _
      have HO2 : Hid (w2.ownsRow w.heap.size 9 1 v2 (acc ++ [seg s fr i]).length ((acc ++ [seg s fr i]).map sV)) := by
       rw [HEX.out] at ho2
       show World.ownsRow _ _ _ _ _ _ _
       rw [List.length_append, List.map_append]; exact ho2
      have HB2 : Hid (Below w.heap.size w w2) := (HB.out.alloc sB _).grown hg2 (by simp; omega) (fun q hq => (World.ownsRow.lt HO.out q hq).1)
      clear ho2 hg2 HO HB
      go_wp2
      exact ⟨⟨i + 1, i + 1, acc ++ [seg s fr i], by omega, by have := HEND.out; omega, by go_num, by go_num, by rw [List.length_append]; simp; omega, .inr ⟨by have := HEND.out; omega, by have := HEND.out; omega, HN2⟩, HO2, HB2⟩, by simp [intOf]; omega⟩
    · have hlt : i < s.size := by omega
      have he : ((i : Int) == (s.size : Int)) = false := beq_eq_false_iff_ne.2 (by omega)
      have hltI : (i : Int) < (s.size : Int) := by omega
      have HC : Hid (s.data.toList.drop i = s[i] :: s.data.toList.drop (i + 1)) := drop_cons s i hlt
      have HEX : Hid (Value.string (s.extract fr i) = sV (seg s fr i)) := by show _ = _; rw [extract_seg]; rfl
      have hk1 : (fr : Int) ≤ (i : Int) := by omega
      have hk2 : fr ≤ i := by omega
      by_cases h47 : s[i] = 47
      · have e47 : ((s[i].toNat : Int) == 47) = true := by rw [h47]; rfl
        have HN2 : Hid (nm s = (acc ++ [seg s fr i]) ++ splA (seg s (i + 1) (i + 1)) (s.data.toList.drop (i + 1))) := by
         show _ = _
         rw [HN.out, HC.out, h47, splA_sl, seg_self, List.append_assoc]
         rfl
        clear h47
        subst hv
        go_wp2_with (at_builtin; go_must (refine wpList_append_own _ rfl _ _ 126 rfl w.heap.size 9 i0 (.string ByteArray.empty) 1 16 Tryz.underlying126 hi hz0 hz1 hz2 rfl (by decide) _ _ _ rfl (HO.out.alloc _) ⟨wr.heap.size, 0, none⟩ 1 1 [.string (s.extract fr i)] rfl rfl (cell_one_new _ _ _) (by intro u hu; simp at hu; subst hu; rfl) ?_ ?_ ?_ ?_))
        · unfold maxLen; omega
        · omega
        · simp; omega
        intro v2 w2 ho2 hg2 _
        have HO2 : Hid (w2.ownsRow w.heap.size 9 1 v2 (acc ++ [seg s fr i]).length ((acc ++ [seg s fr i]).map sV)) := by
         rw [HEX.out] at ho2
         show World.ownsRow _ _ _ _ _ _ _
         rw [List.length_append, List.map_append]; exact ho2
        have HB2 : Hid (Below w.heap.size w w2) := (HB.out.alloc sB _).grown hg2 (by simp; omega) (fun q hq => (World.ownsRow.lt HO.out q hq).1)
        clear ho2 hg2 HO HB
        go_wp2
        exact ⟨⟨i + 1, i + 1, acc ++ [seg s fr i], by omega, by omega, by go_num, by go_num, by rw [List.length_append]; simp; omega, .inl ⟨by omega, Nat.le_refl _, HN2⟩, HO2, HB2⟩, by simp [intOf]; omega⟩
      · have e47 : ((s[i].toNat : Int) == 47) = false := by
         rw [beq_eq_false_iff_ne]
         intro h
         apply h47
         apply UInt8.toNat_inj.1
         have : s[i].toNat = 47 := by omega
         rw [this]; rfl
        have HN2 : Hid (nm s = acc ++ splA (seg s fr (i + 1)) (s.data.toList.drop (i + 1))) := by
         show _ = _
         rw [HN.out, HC.out, splA_ch h47, seg_succ s fr i hk2 hlt]
        clear h47 hv
        go_wp2
        exact ⟨⟨i + 1, fr, acc, hf1, by omega, by go_num, rfl, by omega, .inl ⟨by omega, by omega, HN2⟩, HO, HB⟩, by simp [intOf]; omega⟩
  · have hI : ¬ (i : Int) ≤ (s.size : Int) := by omega
    clear hv
    go_wp2
    go_ret
    exact ⟨_, rfl, by rw [HN.out]; exact HO.out, HB.out⟩
def okL (l : List UInt8) : Bool := okN ⟨l.toArray⟩
def okPath (s : ByteArray) : Bool := decide (s.data.toList = [47]) || (decide (2 ≤ s.size) && decide (bN s 0 = 47) && decide ((nm s).length ≤ 6) && (nm s).all okL)
theorem splA_pos : ∀ (l cur : List UInt8), 0 < (splA cur l).length
 | [], cur => by simp [splA]
 | x :: l, cur => by
  by_cases h : x = 47
  · subst h; rw [splA_sl]; simp
  · rw [splA_ch h]; exact splA_pos l _
theorem splA_len : ∀ (l cur : List UInt8), (splA cur l).length ≤ l.length + 1
 | [], cur => by simp [splA]
 | x :: l, cur => by
  by_cases h : x = 47
  · subst h; rw [splA_sl]; have := splA_len l []; simp only [List.length_cons]; omega
  · rw [splA_ch h]; have := splA_len l (cur ++ [x]); simp only [List.length_cons]; omega
theorem nm_pos (s : ByteArray) : 0 < (nm s).length := splA_pos _ _
theorem nm_len (s : ByteArray) : (nm s).length ≤ s.size + 1 := by
 have := splA_len (s.data.toList.drop 1) []
 have h2 : (s.data.toList.drop 1).length ≤ s.size := by rw [List.length_drop]; show s.size - 1 ≤ _; omega
 unfold nm; omega
theorem okPath_root {s : ByteArray} (h : s.data.toList = [47]) : okPath s = true := by unfold okPath; rw [decide_eq_true h]; rfl
theorem okPath_not {s : ByteArray} (h : ¬ s.data.toList = [47]) : okPath s = (decide (2 ≤ s.size) && decide (bN s 0 = 47) && decide ((nm s).length ≤ 6) && (nm s).all okL) := by unfold okPath; rw [decide_eq_false h]; rfl
def pN (rs : List (List UInt8)) (i : Nat) : ByteArray := ⟨(rs.getD i []).toArray⟩
theorem all_no {rs : List (List UInt8)} {i : Nat} (h : i < rs.length) (hn : okN (pN rs i) = false) : rs.all okL = false := by
 rw [List.all_eq_false]
 refine ⟨rs[i], List.getElem_mem h, ?_⟩
 unfold okL
 have : pN rs i = ⟨rs[i].toArray⟩ := by unfold pN; simp [List.getD, h]
 rw [← this, hn]; simp
theorem all_yes {rs : List (List UInt8)} (hn : ∀ i, i < rs.length → okN (pN rs i) = true) : rs.all okL = true := by
 rw [List.all_eq_true]
 intro l hl
 obtain ⟨i, hi, rfl⟩ := List.mem_iff_getElem.1 hl
 have := hn i hi
 unfold okL
 have e : pN rs i = ⟨rs[i].toArray⟩ := by unfold pN; simp [List.getD, hi]
 rw [← e]; exact this
theorem specPath_any (w : World) (s : ByteArray) (h2 : s.size ≤ 1048576) :
    Calls Tryz.prog 148 #[.string s] w fun e w' => e = .returned (.bool (okPath s)) ∧ Below w.heap.size w w' := by
 by_cases hr : s.data.toList = [47]
 · have hrt : (s.toList == [47]) = true := by rw [ByteArray.toList_eq, hr]; rfl
   have HP : Hid (okPath s = true) := okPath_root hr
   clear hr
   go_enter Tryz.func148, Tryz.ntmps148
   go_wp2
   go_ret
   exact ⟨ret_b HP.out.symm, Below.refl _ _⟩
 · have hrt : (s.toList == [47]) = false := by rw [ByteArray.toList_eq, beq_eq_false_iff_ne]; exact hr
   have HP : Hid (okPath s = (decide (2 ≤ s.size) && decide (bN s 0 = 47) && decide ((nm s).length ≤ 6) && (nm s).all okL)) := okPath_not hr
   clear hr
   by_cases hs : s.size < 2
   · have hsI : (s.size : Int) < 2 := by omega
     have HP2 : Hid (okPath s = false) := by show _ = _; rw [HP.out, decide_eq_false (by omega)]; rfl
     go_enter Tryz.func148, Tryz.ntmps148
     go_wp2
     go_ret
     exact ⟨ret_b HP2.out.symm, Below.refl _ _⟩
   · have hsI : ¬ (s.size : Int) < 2 := by omega
     have h0 : 0 < s.size := by omega
     have hb0 := bN_get s 0 h0
     by_cases h47 : s[0].toNat = 47
     · have e47 : ((s[0].toNat : Int) != 47) = false := by rw [h47]; rfl
       have HP2 : Hid (okPath s = (decide ((nm s).length ≤ 6) && (nm s).all okL)) := by show _ = _; rw [HP.out, decide_eq_true (show 2 ≤ s.size by omega), decide_eq_true (hb0.trans h47)]; rfl
       clear h47 hb0 HP
       go_enter Tryz.func148, Tryz.ntmps148
       go_wp2_with fail
       refine (names_any _ s (by omega) h2).mono ?_
       rintro e w1 ⟨v, rfl, ho, hb⟩
       have hnl := nm_len s
       have hnp := nm_pos s
       obtain ⟨rs, hrs⟩ : ∃ rs, rs = nm s := ⟨_, rfl⟩
       rw [← hrs] at ho hnl hnp
       rw [← hrs] at HP2
       clear hrs
       obtain ⟨g, c, rfl⟩ : ∃ g c, v = .slice (some ⟨g, 0, none⟩) rs.length c := by
        rcases ho.2 with ⟨rfl, h1⟩ | ⟨g, cap, cur, rfl, -⟩
        · omega
        · exact ⟨g, cap, rfl⟩
       have HC : Hid (∀ i, i < rs.length → w1.cell? ⟨g, i, none⟩ = some (.string (pN rs i))) := fun i hi => by
        rw [World.ownsRow.cellAt ho i (by omega)]
        simp [pN, List.getD, hi, sV]
       have HB : Hid (Below w.heap.size w w1) := hb
       clear ho hb
       by_cases h6 : rs.length ≤ 6
       · have h6I : ¬ (6 : Int) < (rs.length : Int) := by omega
         have HP3 : Hid (okPath s = rs.all okL) := by show _ = _; rw [HP2.out, decide_eq_true h6]; rfl
         clear HP2
         go_wp2
         go_loopw [4] (fun vi wr => ∃ i : Nat, i ≤ rs.length ∧ vi = .int .i64 i ∧ Hid (∀ t, t < i → okN (pN rs t) = true) ∧ ∃ q, wr = w1.drewN q) (fun i _ => rs.length - (intOf i).toNat)
         case atStart => exact ⟨0, Nat.zero_le _, rfl, (fun t ht => by omega), 0, rfl⟩
         case round =>
          obtain ⟨i, hi, rfl, HK, q, rfl⟩ := hrel
          by_cases hlt : i < rs.length
          · have hltI : (i : Int) < (rs.length : Int) := by omega
            have c1 := HC.out i hlt
            obtain ⟨p, hp⟩ : ∃ p, p = pN rs i := ⟨_, rfl⟩
            have HPI : Hid (p = pN rs i) := hp
            rw [← hp] at c1
            clear hp
            by_cases hp1 : p.size < 1
            · have hpI : (p.size : Int) < 1 := by omega
              have HF : Hid (okPath s = false) := by show _ = _; rw [HP3.out]; exact all_no hlt (by rw [← HPI.out]; unfold okN; rw [decide_eq_false (by omega)]; rfl)
              have BQ : Hid (Below w.heap.size w (w1.drewN q)) := HB.out.trans ((below_drewN' w1 q).mono HB.out.size)
              go_wp2
              go_ret
              exact ⟨ret_b HF.out.symm, BQ.out⟩
            · have hpI : ¬ (p.size : Int) < 1 := by omega
              by_cases hp2 : 16 < p.size
              · have hpI2 : (16 : Int) < (p.size : Int) := by omega
                have HF : Hid (okPath s = false) := by show _ = _; rw [HP3.out]; exact all_no hlt (by rw [← HPI.out]; unfold okN; rw [decide_eq_false (show ¬ p.size ≤ 16 by omega)]; simp)
                have BQ : Hid (Below w.heap.size w (w1.drewN q)) := HB.out.trans ((below_drewN' w1 q).mono HB.out.size)
                go_wp2
                go_ret
                exact ⟨ret_b HF.out.symm, BQ.out⟩
              · have hpI2 : ¬ (16 : Int) < (p.size : Int) := by omega
                go_wp2
                go_loopw [5] (fun vj wr => ∃ j : Nat, j ≤ p.size ∧ vj = .int .i64 j ∧ Hid (∀ t, t < j → okB (bN p t) = true) ∧ ∃ q, wr = w1.drewN q) (fun j _ => p.size - (intOf j).toNat)
                case atStart => exact ⟨0, Nat.zero_le _, rfl, (fun t ht => by omega), q, rfl⟩
                case round =>
                 obtain ⟨j, hj, rfl, HJ, q2, rfl⟩ := hrel
                 by_cases hjl : j < p.size
                 · have hjI : (j : Int) < (p.size : Int) := by omega
                   have hbn := bN_get p j hjl
                   have hx8 : p[j].toNat < 256 := p[j].toNat_lt
                   go_wp2_with fail
                   refine (letter_any _ p[j].toNat hx8).mono ?_
                   rintro e w3 ⟨rfl, rfl⟩
                   by_cases hok : okB (bN p j) = true
                   · have HOK : Hid (okB (bN p j) = true) := hok
                     rw [hbn] at hok
                     rw [hok]
                     clear hok hbn
                     go_wp2
                     exact ⟨⟨j + 1, by omega, by go_num, (fun t ht => by by_cases e : t = j; (subst e; exact HOK.out); exact HJ.out t (by omega)), q2, rfl⟩, by simp [intOf]; omega⟩
                   · have hok' : okB (bN p j) = false := by simpa using hok
                     have HF : Hid (okPath s = false) := by show _ = _; rw [HP3.out]; exact all_no hlt (by rw [← HPI.out]; exact okN_no hjl hok')
                     have BQ : Hid (Below w.heap.size w (w1.drewN q2)) := HB.out.trans ((below_drewN' w1 q2).mono HB.out.size)
                     rw [hbn] at hok'
                     rw [hok']
                     clear hok hok' hbn
                     go_wp2
                     go_ret
                     exact ⟨ret_b HF.out.symm, BQ.out⟩
                 · have hjI : ¬ (j : Int) < (p.size : Int) := by omega
                   have HOK : Hid (okN (pN rs i) = true) := by
                    show _ = _
                    rw [← HPI.out]
                    exact okN_yes (by omega) (by omega) (fun t ht => HJ.out t (by omega))
                   go_wp2
                   exact ⟨⟨i + 1, by omega, by go_num, (fun t ht => by by_cases e : t = i; (subst e; exact HOK.out); exact HK.out t (by omega)), q2, rfl⟩, by simp [intOf]; omega⟩
          · have hltI : ¬ (i : Int) < (rs.length : Int) := by omega
            have HT : Hid (okPath s = true) := by show _ = _; rw [HP3.out]; exact all_yes (fun t ht => HK.out t (by omega))
            have BQ : Hid (Below w.heap.size w (w1.drewN q)) := HB.out.trans ((below_drewN' w1 q).mono HB.out.size)
            go_wp2
            go_ret
            exact ⟨ret_b HT.out.symm, BQ.out⟩
       · have h6I : (6 : Int) < (rs.length : Int) := by omega
         have HP3 : Hid (okPath s = false) := by show _ = _; rw [HP2.out, decide_eq_false h6]; rfl
         go_wp2
         go_ret
         exact ⟨ret_b HP3.out.symm, HB.out⟩
     · have e47 : ((s[0].toNat : Int) != 47) = true := by rw [bne_iff_ne]; omega
       have HP2 : Hid (okPath s = false) := by show _ = _; rw [HP.out, decide_eq_false (show ¬ bN s 0 = 47 by omega), Bool.and_false]; rfl
       clear HP
       go_enter Tryz.func148, Tryz.ntmps148
       go_wp2
       go_ret
       exact ⟨ret_b HP2.out.symm, Below.refl _ _⟩
theorem idxByte_any (w : World) (s : ByteArray) (c : Int) :
    Calls Tryz.prog 203 #[.string s, .int .u8 c] w fun e w' => e = .returned (.int .i64 (Lib.indexByte s.data.toList c.toNat.toUInt8)) ∧ w' = w := by
 go_enter Tryz.func203, Tryz.ntmps203
 go_wp2
 rw [run_callFunc_extern Tryz.func207 (by kernel_rfl) (by kernel_rfl) (by kernel_rfl) (e := Extern.BytealgIndexByte.indexByte) (by kernel_rfl), Lib.run_indexByteString]
 simp only [Result.andThen]
 rw [Oper.upon_value]
 go_wp2
 go_ret
 exact ⟨rfl, rfl⟩
theorem idxLite_any (w : World) (s : ByteArray) :
    Calls Tryz.prog 202 #[.string s, .string ⟨#[47]⟩] w fun e w' => e = .returned (.int .i64 (Lib.indexByte s.data.toList 47)) ∧ w' = w := by
 by_cases he : s.data.toList = [47]
 · have hb : ([47] == s.toList) = true := by rw [ByteArray.toList_eq, he]; rfl
   have HX : Hid (Lib.indexByte s.data.toList 47 = 0) := by show _ = _; rw [he]; rfl
   clear he
   go_enter Tryz.func202, Tryz.ntmps202
   go_wp2
   go_ret
   exact ⟨by rw [HX.out]; rfl, rfl⟩
 · have hb : ([47] == s.toList) = false := by rw [ByteArray.toList_eq, beq_eq_false_iff_ne]; exact fun h => he h.symm
   clear he
   go_enter Tryz.func202, Tryz.ntmps202
   go_wp2_with fail
   refine (idxByte_any w s 47).mono ?_
   rintro e w2 ⟨rfl, rfl⟩
   go_wp2
   go_ret
   exact ⟨rfl, rfl⟩
theorem idx_any (w : World) (s : ByteArray) :
    Calls Tryz.prog 199 #[.string s, .string ⟨#[47]⟩] w fun e w' => e = .returned (.int .i64 (Lib.indexByte s.data.toList 47)) ∧ w' = w := by
 go_enter Tryz.func199, Tryz.ntmps199
 go_wp2_with fail
 refine (idxLite_any w s).mono ?_
 rintro e w2 ⟨rfl, rfl⟩
 go_wp2
 go_ret
 exact ⟨rfl, rfl⟩
theorem pre_eq (s : ByteArray) (h : 1 ≤ s.size) : ((s.extract 0 1).toList == [47]) = decide (bN s 0 = 47) := by
 have h0 : 0 < s.data.toList.length := h
 rw [ByteArray.toList_eq, ByteArray.data_extract, Array.toList_extract, List.extract_eq_take_drop]
 unfold bN
 cases e : s.data.toList with
 | nil => rw [e] at h0; simp at h0
 | cons x l =>
  simp only [List.drop_zero, Nat.sub_zero, List.take_succ_cons, List.take_zero, List.getD_cons_zero]
  by_cases hx : x = 47
  · subst hx; rfl
  · have h1 : ¬ x.toNat = 47 := fun hh => hx (UInt8.toNat_inj.1 hh)
    rw [decide_eq_false h1, beq_eq_false_iff_ne]
    simpa using hx
theorem preLite_any (w : World) (s : ByteArray) (hs : 1 ≤ s.size) :
    Calls Tryz.prog 191 #[.string s, .string ⟨#[47]⟩] w fun e w' => e = .returned (.bool (decide (bN s 0 = 47))) ∧ w' = w := by
 have HE : Hid (((s.extract 0 1).toList == [47]) = decide (bN s 0 = 47)) := pre_eq s hs
 have h1 : (1 : Int) ≤ (s.size : Int) := by omega
 go_enter Tryz.func191, Tryz.ntmps191
 go_wp2
 go_ret
 exact ⟨by rw [← HE.out]; rfl, rfl⟩
theorem pre_any (w : World) (s : ByteArray) (hs : 1 ≤ s.size) :
    Calls Tryz.prog 175 #[.string s, .string ⟨#[47]⟩] w fun e w' => e = .returned (.bool (decide (bN s 0 = 47))) ∧ w' = w := by
 go_enter Tryz.func175, Tryz.ntmps175
 go_wp2_with fail
 refine (preLite_any w s hs).mono ?_
 rintro e w2 ⟨rfl, rfl⟩
 go_wp2
 go_ret
 exact ⟨rfl, rfl⟩
theorem pre_none (w : World) (s : ByteArray) (hs : s.size = 0) :
    Calls Tryz.prog 175 #[.string s, .string ⟨#[47]⟩] w fun e w' => e = .returned (.bool false) ∧ w' = w := by
 have h1 : ¬ (1 : Int) ≤ (s.size : Int) := by omega
 clear hs
 go_enter Tryz.func175, Tryz.ntmps175
 go_wp2_with fail
 refine (show Calls Tryz.prog 191 #[.string s, .string ⟨#[47]⟩] w (fun e w' => e = .returned (.bool false) ∧ w' = w) from ?_).mono ?_
 · go_enter Tryz.func191, Tryz.ntmps191
   go_wp2
   go_ret
   exact ⟨rfl, rfl⟩
 rintro e w2 ⟨rfl, rfl⟩
 go_wp2
 go_ret
 exact ⟨rfl, rfl⟩
theorem validName_any (w : World) (p : ByteArray) :
    Calls Tryz.prog 177 #[.string p] w fun e w' => e = .returned (.bool (okN p)) ∧ ∃ q, w' = w.drewN q := by
 by_cases hp1 : p.size < 1
 · have hpI : (p.size : Int) < 1 := by omega
   have HF : Hid (okN p = false) := by show _ = _; unfold okN; rw [decide_eq_false (by omega)]; rfl
   go_enter Tryz.func177, Tryz.ntmps177
   go_wp2
   go_ret
   exact ⟨ret_b HF.out.symm, 0, rfl⟩
 · have hpI : ¬ (p.size : Int) < 1 := by omega
   by_cases hp2 : 16 < p.size
   · have hpI2 : (16 : Int) < (p.size : Int) := by omega
     have HF : Hid (okN p = false) := by show _ = _; unfold okN; rw [decide_eq_false (show ¬ p.size ≤ 16 by omega)]; simp
     go_enter Tryz.func177, Tryz.ntmps177
     go_wp2
     go_ret
     exact ⟨ret_b HF.out.symm, 0, rfl⟩
   · have hpI2 : ¬ (16 : Int) < (p.size : Int) := by omega
     go_enter Tryz.func177, Tryz.ntmps177
     go_wp2
     go_loopw [16] (fun vj wr => ∃ j : Nat, j ≤ p.size ∧ vj = .int .i64 j ∧ Hid (∀ t, t < j → okB (bN p t) = true) ∧ ∃ q, wr = w.drewN q) (fun j _ => p.size - (intOf j).toNat)
     case atStart => exact ⟨0, Nat.zero_le _, rfl, (fun t ht => by omega), 0, rfl⟩
     case round =>
      obtain ⟨j, hj, rfl, HJ, q, rfl⟩ := hrel
      by_cases hjl : j < p.size
      · have hjI : (j : Int) < (p.size : Int) := by omega
        have hbn := bN_get p j hjl
        have hx8 : p[j].toNat < 256 := p[j].toNat_lt
        obtain ⟨x, hx⟩ : ∃ x, x = p[j].toNat := ⟨_, rfl⟩
        have HX : Hid (x = p[j].toNat) := hx
        have HBN : Hid (bN p j = x) := by show _ = _; rw [hbn, hx]
        clear hx hbn
        by_cases c1 : x < 48
        · have k1 : ¬ (97 : Int) ≤ (p[j].toNat : Int) := by have := HX.out; omega
          have k2 : ¬ (48 : Int) ≤ (p[j].toNat : Int) := by have := HX.out; omega
          have HF : Hid (okN p = false) := okN_no hjl (by rw [HBN.out]; unfold okB; rw [decide_eq_false (show ¬ 97 ≤ x by omega), decide_eq_false (show ¬ 48 ≤ x by omega)]; rfl)
          go_wp2
          go_ret
          exact ⟨ret_b HF.out.symm, _, rfl⟩
        · by_cases c2 : x ≤ 57
          · have k1 : ¬ (97 : Int) ≤ (p[j].toNat : Int) := by have := HX.out; omega
            have k2 : (48 : Int) ≤ (p[j].toNat : Int) := by have := HX.out; omega
            have k3 : (p[j].toNat : Int) ≤ 57 := by have := HX.out; omega
            have HOK : Hid (okB (bN p j) = true) := by show _ = _; rw [HBN.out]; unfold okB; rw [decide_eq_true (show 48 ≤ x by omega), decide_eq_true (show x ≤ 57 by omega)]; simp
            go_wp2
            exact ⟨⟨j + 1, by omega, by go_num, (fun t ht => by by_cases e : t = j; (subst e; exact HOK.out); exact HJ.out t (by omega)), q, rfl⟩, by simp [intOf]; omega⟩
          · by_cases c3 : x < 97
            · have k1 : ¬ (97 : Int) ≤ (p[j].toNat : Int) := by have := HX.out; omega
              have k2 : (48 : Int) ≤ (p[j].toNat : Int) := by have := HX.out; omega
              have k3 : ¬ (p[j].toNat : Int) ≤ 57 := by have := HX.out; omega
              have HF : Hid (okN p = false) := okN_no hjl (by rw [HBN.out]; unfold okB; rw [decide_eq_false (show ¬ 97 ≤ x by omega), decide_eq_false (show ¬ x ≤ 57 by omega)]; simp)
              go_wp2
              go_ret
              exact ⟨ret_b HF.out.symm, _, rfl⟩
            · by_cases c4 : x ≤ 122
              · have k1 : (97 : Int) ≤ (p[j].toNat : Int) := by have := HX.out; omega
                have k2 : (p[j].toNat : Int) ≤ 122 := by have := HX.out; omega
                have k3 : (48 : Int) ≤ (p[j].toNat : Int) := by omega
                have k4 : ¬ (p[j].toNat : Int) ≤ 57 := by omega
                have HOK : Hid (okB (bN p j) = true) := by show _ = _; rw [HBN.out]; unfold okB; rw [decide_eq_true (show 97 ≤ x by omega), decide_eq_true (show x ≤ 122 by omega)]; simp
                go_wp2
                exact ⟨⟨j + 1, by omega, by go_num, (fun t ht => by by_cases e : t = j; (subst e; exact HOK.out); exact HJ.out t (by omega)), q, rfl⟩, by simp [intOf]; omega⟩
              · have k1 : (97 : Int) ≤ (p[j].toNat : Int) := by have := HX.out; omega
                have k2 : ¬ (p[j].toNat : Int) ≤ 122 := by have := HX.out; omega
                have k3 : (48 : Int) ≤ (p[j].toNat : Int) := by omega
                have k4 : ¬ (p[j].toNat : Int) ≤ 57 := by omega
                have HF : Hid (okN p = false) := okN_no hjl (by rw [HBN.out]; unfold okB; rw [decide_eq_false (show ¬ x ≤ 122 by omega), decide_eq_false (show ¬ x ≤ 57 by omega)]; simp)
                go_wp2
                go_ret
                exact ⟨ret_b HF.out.symm, _, rfl⟩
      · have hjI : ¬ (j : Int) < (p.size : Int) := by omega
        have HOK : Hid (okN p = true) := okN_yes (by omega) (by omega) (fun t ht => HJ.out t (by omega))
        go_wp2
        go_ret
        exact ⟨ret_b HOK.out.symm, _, rfl⟩
end Go.Proofs.YtcopcegamadkgaaGreatDoor
namespace Go.Proofs.YtcopcegamadkgaaGreatDoor
open Go.RowKit Go.Shelf
def Book (r : Loop) (M : Nat) (W : World) : Prop := W.heap[M + 1]? = some (.loop r) ∧ W.heap[M]? = some (.deferred (some []))
theorem Book.keep {r : Loop} {M : Nat} {X Y : World} (h : Book r M X) (hk : KeepsFrom M X Y) : Book r M Y := ⟨hk.same _ _ (by omega) h.1 rfl, hk.same _ _ (Nat.le_refl _) h.2 rfl⟩
theorem range_leaves {F : Fence} {n : Nat} {P : Program} {β : Type} {g : Operand} {ps : Array Tmp} {assign body : Code} {Q : Exit → Act → World → Prop} {a : Act} {w : World}
    (hro : F.round = none) (h1 : 1 ≤ n) {gf : Nat} {lb : Array Value} (hg : a.eval g = .func (.func gf) #[] lb) (hFg : F.fn gf) (eg : ∀ args w, (callFunc gf args).run P w = .ok (.enter gf args) w)
    (St : β → World → Prop) (Pre : β → Array Value → World → Prop) (step : β → Array Value → β) (Kp : World → World → Prop) (Fin : β → Prop) (StX : World → Prop) (hStX : OwnFrom w.heap.size (fun (_ : Unit) W => StX W)) (s0 : β)
    (hSt : OwnFrom w.heap.size St) (hKt : ∀ {A B C : World}, Kp A B → Kp B C → Kp A C)
    (hKb : ∀ (W : World) (l : Nat) (o o' : Obj), w.heap.size ≤ l → W.heap[l]? = some o → o.isCells = false → o.isWalk = false → Kp W (W.putObj l o'))
    (hps : ∀ s vs W, Pre s vs W → vs.size = ps.size) (h0 : St s0 w)
    (Ax : β → Array Value → Act → World → Prop) (hAx : ∀ s vs a', OwnFrom w.heap.size (fun (_ : Unit) W => Ax s vs a' W))
    (hassign : ∀ (l : Nat) (s : β) (vs : Array Value) (W : World) (K : Act → World → Prop), St s W → Pre s vs W → (∀ a' W', KeepsFrom w.heap.size W W' → Kp W W' → Ax s vs a' W' → K a' W') →
     assign.wpIn (F.inRound l) (n - 1 - 1) P (Exit.then K (fun _ _ _ => False)) { tmps := (ps.zip vs).foldl (fun t (p, v) => t.setIfInBounds p v) a.tmps, defers := [] } W)
    (hbody : ∀ (l : Nat) (s : β) (vs : Array Value) (a' : Act) (W : World), Ax s vs a' W → body.wpIn (F.inRound l) (n - 1 - 1) P (fun e _ W' => (e = .normal ∧ KeepsFrom w.heap.size W W' ∧ Kp W W' ∧ St (step s vs) W') ∨ (e = .ret ∧ KeepsFrom w.heap.size W W' ∧ StX W')) a' W)
    (hcall : ∀ (Bk BkX : World → Prop) (W1 : World), (∀ X Y, KeepsFrom w.heap.size X Y → Bk X → Bk Y) → (∀ X Y, KeepsFrom w.heap.size X Y → BkX X → BkX Y) →
     (∀ s vs W, St s W → Bk W → Pre s vs W → YieldAt F (n - 1 - 1) P (w.heap.size + 1) vs W fun e W' => (e = .returned (.bool true) ∧ St (step s vs) W' ∧ Bk W' ∧ Kp W W') ∨ (e = .returned (.bool false) ∧ StX W' ∧ BkX W')) →
     Below w.heap.size w W1 → w.heap.size + 2 ≤ W1.heap.size → St s0 W1 → Bk W1 →
     CallsIn F (n - 1) P gf (#[.func (.yield (w.heap.size + 1)) #[] #[]] ++ lb) W1 fun e W' => (∃ v, e = .returned v) ∧ ((∃ s, Fin s ∧ St s W' ∧ Bk W') ∨ (StX W' ∧ BkX W')))
    (hdone : ∀ (D : Nat) (s : β) (W : World), w.heap.size ≤ D → Fin s → St s W → W.heap[D]? = some (.deferred (some [])) → Q .normal { a with defers := { target := .collected D, args := #[] } :: a.defers } W)
    (hstop : ∀ (D : Nat) (W : World), w.heap.size ≤ D → StX W → W.heap[D]? = some (.deferred (some [])) → Code.ret.wpIn F n P Q { a with defers := { target := .collected D, args := #[] } :: a.defers } W) :
    (Code.rangeFunc g ps assign body).wpIn F n P Q a w := by
 refine wpIn_rangeFunc ?_
 intro fn hfn
 rw [hro]
 obtain ⟨r0, hr0⟩ : ∃ r : Loop, r = { state := .ready, pending := none, fn, tmps := a.tmps, params := ps, assign, body, defers := w.heap.size } := ⟨_, rfl⟩
 have hst : r0.state = .ready := by rw [hr0]
 have hpe : r0.pending = none := by rw [hr0]
 have hgrow : Below w.heap.size w ((w.alloc (.deferred (some []))).alloc (.loop r0)) := ((Below.refl _ w).alloc (Nat.le_refl _) _).alloc (by simp) _
 have hbook : Book r0 w.heap.size ((w.alloc (.deferred (some []))).alloc (.loop r0)) := by
  constructor
  · have := heap_alloc_new (w.alloc (.deferred (some []))) (.loop r0)
    rwa [World.size_alloc] at this
  · exact (Below.heap_alloc _ _ _ (by simp)).trans (heap_alloc_new w _)
 have hst1 : St s0 ((w.alloc (.deferred (some []))).alloc (.loop r0)) := hSt.alloc _ (hSt.alloc _ h0)
 have hsz : w.heap.size + 2 ≤ ((w.alloc (.deferred (some []))).alloc (.loop r0)).heap.size := by simp
 have henter : (Instr.enterLoop fn a.tmps ps assign body none).run P w = .ok (w.heap.size + 1, [{ target := .collected w.heap.size, args := #[] }]) ((w.alloc (.deferred (some []))).alloc (.loop r0)) := by
  rw [hr0]; exact run_enterLoop_outer _ _ _ _ _
 generalize (w.alloc (.deferred (some []))).alloc (.loop r0) = W1 at *
 refine ⟨_, _, W1, { target := .fn (.func gf) lb, args := #[.func (.yield (w.heap.size + 1)) #[] #[]] }, W1, gf, #[.func (.yield (w.heap.size + 1)) #[] #[]] ++ lb, W1, henter, ?_, ?_, ?_, fun _ => h1, ?_⟩
 · simp only [resolve, hg]
   simp [go_sem]
 · intro f' hf'
   simp [Target.leads] at hf'
   subst hf'
   exact hFg
 · simp [invoke, go_sem, eg]
 refine (hcall (Book r0 w.heap.size) (Book { r0 with state := .done, pending := some .ret } w.heap.size) W1 (fun X Y hk hb => hb.keep hk) (fun X Y hk hb => hb.keep hk) ?_ hgrow hsz hst1 hbook).mono ?_
 · intro s vs W hs hb hp
   have hy := run_yield (P := P) (args := vs) hb.1 (by rw [hr0]; exact hps s vs W hp)
   rw [hr0] at hy
   refine ⟨fn, _, assign, body, hy, roundIn_of_wpIn hfn (hassign _ s vs W _ hs hp ?_)⟩
   clear hy
   intro a' Wa hka hkp hax
   have hba := hb.keep hka
   have hlt : w.heap.size + 1 < Wa.heap.size := (Array.getElem?_eq_some_iff.1 hba.1).1
   refine ⟨_, run_beginRound hba.1 hst, ?_⟩
   have hl2 : (Wa.putObj (w.heap.size + 1) (.loop { r0 with state := .busy })).heap[w.heap.size + 1]? = some (.loop { r0 with state := .busy }) := World.putObj_heap_same hlt
   have hk2 : (Wa.putObj (w.heap.size + 1) (.loop { r0 with state := .busy })).heap[w.heap.size]? = some (.deferred (some [])) := (World.putObj_heap_other (by omega)).trans hba.2
   have hkb : Kp Wa (Wa.putObj (w.heap.size + 1) (.loop { r0 with state := .busy })) := hKb _ _ _ _ (by omega) hba.1 rfl rfl
   refine wpIn_mono (hbody _ s vs a' _ ((hAx s vs a').putObj (s := ()) _ hax (by omega) hba.1 rfl)) ?_
   rintro e a3 W3 (⟨rfl, hk3, hp3, hs3⟩ | ⟨rfl, hk3, hs3⟩)
   · have hl3 := hk3.same _ _ (by omega) hl2 rfl
     have hd3 := hk3.same _ _ (Nat.le_refl _) hk2 rfl
     have hend := run_endRound (P := P) none hl3
     have hr1 : ({ { r0 with state := .busy } with state := if (none : Option Code).isNone then .ready else .done, pending := none } : Loop) = r0 := by rw [hr0]; rfl
     rw [hr1] at hend
     exact ⟨_, _, hend, .inl ⟨rfl, hSt.putObj _ hs3 (by omega) hl3 rfl, ⟨World.putObj_heap_same (Array.getElem?_eq_some_iff.1 hl3).1, (World.putObj_heap_other (by omega)).trans hd3⟩, hKt hkp (hKt (hKt hkb hp3) (hKb _ _ _ _ (by omega) hl3 rfl rfl))⟩⟩
   · have hl3 := hk3.same _ _ (by omega) hl2 rfl
     have hd3 := hk3.same _ _ (Nat.le_refl _) hk2 rfl
     have hend := run_endRound (P := P) (some .ret) hl3
     have hr1 : ({ { r0 with state := .busy } with state := if (some Code.ret : Option Code).isNone then .ready else .done, pending := some .ret } : Loop) = { r0 with state := .done, pending := some .ret } := by rw [hr0]; rfl
     rw [hr1] at hend
     exact ⟨_, _, hend, .inr ⟨rfl, hStX.putObj (s := ()) _ hs3 (by omega) hl3 rfl, ⟨World.putObj_heap_same (Array.getElem?_eq_some_iff.1 hl3).1, (World.putObj_heap_other (by omega)).trans hd3⟩⟩⟩
 · rintro e W2 ⟨⟨v, rfl⟩, (⟨s, hF, hs, hb⟩ | ⟨hs, hb⟩)⟩
   · have hend := run_endLoop (P := P) hb.1 (by rw [hst]; simp)
     rw [hpe] at hend
     exact ⟨none, _, hend, hdone _ s _ (Nat.le_refl _) hF (hSt.putObj _ hs (by omega) hb.1 rfl) ((World.putObj_heap_other (by omega)).trans hb.2)⟩
   · have hend := run_endLoop (P := P) hb.1 (by simp)
     exact ⟨some .ret, _, hend, hstop _ _ (Nat.le_refl _) (hStX.putObj (s := ()) _ hs (by omega) hb.1 rfl) ((World.putObj_heap_other (by omega)).trans hb.2)⟩
attribute [local go_sem] Oper.semAt_some
theorem splA_none : ∀ (l cur : List UInt8), Lib.indexByte l 47 = -1 → splA cur l = [cur ++ l]
 | [], cur, _ => by simp [splA]
 | x :: l, cur, h => by
  unfold Lib.indexByte at h
  by_cases hx : x = 47
  · rw [hx] at h; simp at h
  · have hb : (x == 47) = false := beq_eq_false_iff_ne.2 hx
    rw [hb] at h
    simp only [Bool.false_eq_true, if_false] at h
    have hge := Lib.indexByte_ge l 47
    have h1 : Lib.indexByte l 47 = -1 := by
     by_cases e : Lib.indexByte l 47 = -1
     · exact e
     · rw [if_neg (by simpa using e)] at h; omega
    rw [splA_ch hx, splA_none l _ h1]; simp
theorem splA_some : ∀ (l cur : List UInt8) (k : Nat), Lib.indexByte l 47 = (k : Int) → k < l.length ∧ splA cur l = (cur ++ l.take k) :: splA [] (l.drop (k + 1))
 | [], cur, k, h => by simp [Lib.indexByte] at h
 | x :: l, cur, k, h => by
  unfold Lib.indexByte at h
  by_cases hx : x = 47
  · rw [hx] at h
    have hk : k = 0 := by simp at h; omega
    subst hk
    rw [hx, splA_sl]; simp
  · have hb : (x == 47) = false := beq_eq_false_iff_ne.2 hx
    rw [hb] at h
    simp only [Bool.false_eq_true, if_false] at h
    by_cases e : Lib.indexByte l 47 = -1
    · rw [if_pos (by simpa using e)] at h; omega
    · rw [if_neg (by simpa using e)] at h
      have hge := Lib.indexByte_ge l 47
      obtain ⟨j, rfl⟩ : ∃ j, k = j + 1 := ⟨k - 1, by omega⟩
      obtain ⟨h1, h2⟩ := splA_some l (cur ++ [x]) j (by omega)
      refine ⟨by simp; omega, ?_⟩
      rw [splA_ch hx, h2]; simp
def lenIn (B : Nat) (W : World) : Nat := match W.cell? ⟨B, 0, none⟩ with
 | some (.string x) => x.size
 | _ => 0
def YPost (Bs : Nat) (St : Nat → World → Prop) (StX Bk BkX : World → Prop) (k : Nat) (W : World) (e : Ending) (W' : World) : Prop :=
 (e = .returned (.bool true) ∧ St (k + 1) W' ∧ Bk W' ∧ ∀ v, Boxed W Bs 9 v → Boxed W' Bs 9 v) ∨ (e = .returned (.bool false) ∧ StX W' ∧ BkX W')
theorem split1_any (nn : Nat) (hn1 : 1 ≤ nn) (l Bs Be Bv : Nat) (R : List (List UInt8)) (s0 : ByteArray)
    (St : Nat → World → Prop) (StX Bk BkX : World → Prop)
    (hSB : ∀ k X Y, Below X.heap.size X Y → St k X → St k Y) (hBB : ∀ X Y, Below X.heap.size X Y → Bk X → Bk Y)
    (hSW : ∀ k X v, St k X → St k (X.setCell ⟨Bs, 0, none⟩ v)) (hBW : ∀ X v, Bk X → Bk (X.setCell ⟨Bs, 0, none⟩ v))
    (hSR : ∀ k W, St k W → W.cell? ⟨Be, 0, none⟩ = some (.string ⟨#[47]⟩) ∧ W.cell? ⟨Bv, 0, none⟩ = some (.int .i64 0))
    (hY : ∀ k vs W, St k W → Bk W → (k < R.length ∧ vs = #[sV (R.getD k [])]) → YieldAt Fence.wide (nn - 1) Tryz.prog l vs W (YPost Bs St StX Bk BkX k W))
    (W : World) (h0 : St 0 W) (h1 : Bk W) (hs : Boxed W Bs 9 (.string s0)) (hz : s0.size ≤ 1048576) (hR : R = splA [] s0.data.toList) :
    CallsIn Fence.wide nn Tryz.prog 197 #[.func (.yield l) #[] #[], .pointer (some ⟨Be, 0, none⟩), .pointer (some ⟨Bs, 0, none⟩), .pointer (some ⟨Bv, 0, none⟩)] W fun e W' => (∃ v, e = .returned v) ∧ ((∃ s, s = R.length ∧ St s W' ∧ Bk W') ∨ (StX W' ∧ BkX W')) := by
 have HY : Hid (∀ k vs W, St k W → Bk W → (k < R.length ∧ vs = #[sV (R.getD k [])]) → YieldAt Fence.wide (nn - 1) Tryz.prog l vs W (YPost Bs St StX Bk BkX k W)) := hY
 have HSB : Hid (∀ k X Y, Below X.heap.size X Y → St k X → St k Y) := hSB
 have HBB : Hid (∀ X Y, Below X.heap.size X Y → Bk X → Bk Y) := hBB
 have HSW : Hid (∀ k X v, St k X → St k (X.setCell ⟨Bs, 0, none⟩ v)) := hSW
 have HBW : Hid (∀ X v, Bk X → Bk (X.setCell ⟨Bs, 0, none⟩ v)) := hBW
 have HSR : Hid (∀ k W, St k W → W.cell? ⟨Be, 0, none⟩ = some (.string ⟨#[47]⟩) ∧ W.cell? ⟨Bv, 0, none⟩ = some (.int .i64 0)) := hSR
 have H0 : Hid (St 0 W) := h0
 have H1 : Hid (Bk W) := h1
 have HS0 : Hid (Boxed W Bs 9 (.string s0)) := hs
 have HR : Hid (R.drop 0 = splA [] s0.data.toList) := hR
 obtain ⟨cE, cV⟩ := hSR 0 W h0
 have cS := hs.cell
 clear hY hSB hBB hSW hBW hSR h0 h1 hs hR
 refine callsIn_of_wp Tryz.func197 rfl trivial ?_ rfl
 simp only [Tryz.ntmps197, List.size_toArray, List.length_cons, List.length_nil, Nat.reduceAdd, Nat.reduceSub, Array.replicate_succ, Array.replicate_zero, List.push_toArray, List.append_toArray, List.nil_append, List.cons_append]
 gi_wp2
 gi_loopw [] (fun wr => ∃ (k : Nat) (r : ByteArray), Hid (St k wr) ∧ Hid (Bk wr) ∧ r.size ≤ 1048576 ∧ Hid (Boxed wr Bs 9 (.string r)) ∧ Hid (R.drop k = splA [] r.data.toList)) (fun wr => lenIn Bs wr)
 case atStart => exact ⟨0, s0, H0, H1, hz, HS0, HR⟩
 case round =>
  obtain ⟨k, r, HS, HB, hrz, HX, HD⟩ := hrel
  obtain ⟨cE, cV⟩ := HSR.out k wr HS.out
  have cS := HX.out.cell
  gi_wp2_with fail
  refine ⟨trivial, ?_⟩
  refine (callsIn_wide.2 (idx_any _ r)).mono ?_
  rintro e w2 ⟨rfl, rfl⟩
  by_cases hneg : Lib.indexByte r.data.toList 47 = -1
  · have hd := HD.out
    rw [splA_none _ _ hneg, List.nil_append] at hd
    have hlt : k < R.length := by
     by_cases h : k < R.length
     · exact h
     · rw [List.drop_eq_nil_of_le (by omega)] at hd; cases hd
    have hend : Hid (k + 1 = R.length) := by
     have := congrArg List.length hd
     rw [List.length_drop] at this
     simp at this
     show _ = _; omega
    have hget : R.getD k [] = r.data.toList := by
     have := congrArg (fun x => x.getD 0 []) hd
     simpa [List.getD, List.getElem?_drop] using this
    have hYx := HY.out k #[.string r] w2 HS.out HB.out ⟨hlt, by rw [hget]; rfl⟩
    rw [hneg]
    clear hneg hd hlt hget
    obtain ⟨fn, tmps, assign, body, hy, hR⟩ := hYx
    gi_wp2
    refine hR.mono ?_
    rintro e W3 (⟨rfl, hS3, hB3, -⟩ | ⟨rfl, hS3, hB3⟩)
    · have HS3 : Hid (St (k + 1) W3) := hS3
      have HB3 : Hid (Bk W3) := hB3
      clear hS3 hB3 hy hR
      gi_wp2
      refine bodyPost_end (results_none rfl _ _ _) rfl ?_
      exact ⟨⟨_, rfl⟩, .inl ⟨k + 1, hend.out, HS3.out, HB3.out⟩⟩
    · have HS3 : Hid (StX W3) := hS3
      have HB3 : Hid (BkX W3) := hB3
      clear hS3 hB3 hy hR
      gi_wp2
      refine bodyPost_end (results_none rfl _ _ _) rfl ?_
      exact ⟨⟨_, rfl⟩, .inr ⟨HS3.out, HB3.out⟩⟩
  · have hge := Lib.indexByte_ge r.data.toList 47
    obtain ⟨j, hj⟩ : ∃ j : Nat, Lib.indexByte r.data.toList 47 = (j : Int) := ⟨(Lib.indexByte r.data.toList 47).toNat, by omega⟩
    have hd := HD.out
    obtain ⟨hjl, hsp⟩ := splA_some _ [] j hj
    have hjr : j < r.size := hjl
    rw [hsp, List.nil_append] at hd
    have hlt : k < R.length := by
     by_cases h : k < R.length
     · exact h
     · rw [List.drop_eq_nil_of_le (by omega)] at hd; cases hd
    have hget : R.getD k [] = r.data.toList.take j := by
     have := congrArg (fun x => x.getD 0 []) hd
     simpa [List.getD, List.getElem?_drop] using this
    have hD2 : Hid (R.drop (k + 1) = splA [] (r.extract (j + 1) r.size).data.toList) := by
     have h1 := congrArg (List.drop 1) hd
     rw [List.drop_drop, List.drop_succ_cons, List.drop_zero] at h1
     show _ = _
     rw [extract_seg, h1]
     unfold seg
     congr 1
     rw [List.take_of_length_le (by rw [List.length_drop]; show r.size - _ ≤ _; omega)]
    have hYx := HY.out k #[.string (r.extract 0 j)] w2 HS.out HB.out ⟨hlt, by rw [hget, extract_seg]; unfold seg; simp [sV]⟩
    rw [hj]
    have hsz : (r.extract (j + 1) r.size).size = r.size - (j + 1) := by simp
    have HSZ : Hid ((r.extract (j + 1) r.size).size = r.size - (j + 1)) := hsz
    clear hneg hd hlt hget hj hsp hjl hge hsz
    have hjI : ¬ (j : Int) < 0 := by omega
    have hjI2 : (j : Int) ≤ (r.size : Int) := by omega
    have hjI3 : (j : Int) + 1 ≤ (r.size : Int) := by omega
    obtain ⟨fn, tmps, assign, body, hy, hR⟩ := hYx
    gi_wp2
    refine hR.mono ?_
    rintro e W3 (⟨rfl, hS3, hB3, hK3⟩ | ⟨rfl, hS3, hB3⟩)
    · have HS3 : Hid (St (k + 1) W3) := hS3
      have HB3 : Hid (Bk W3) := hB3
      have HX3 : Hid (Boxed W3 Bs 9 (.string r)) := hK3 _ HX.out
      clear hS3 hB3 hy hR hK3 cE cV cS
      obtain ⟨cE, cV⟩ := HSR.out (k + 1) W3 HS3.out
      have cS := HX3.out.cell
      have fS := HX3.out.frozen
      gi_wp2
      go_roundw
      case rel => exact ⟨k + 1, _, HSW.out _ _ _ HS3.out, HBW.out _ _ HB3.out, by rw [HSZ.out]; omega, HX3.out.set _, hD2⟩
      case measure =>
       have e1 := (HX3.out.set (.string (r.extract (j + 1) r.size))).cell
       have e2 := HX.out.cell
       unfold lenIn
       rw [e1, e2]
       show (r.extract (j + 1) r.size).size < r.size
       rw [HSZ.out]; omega
    · have HS3 : Hid (StX W3) := hS3
      have HB3 : Hid (BkX W3) := hB3
      clear hS3 hB3 hy hR
      gi_wp2
      refine bodyPost_ret (results_none rfl _ _ _) rfl ?_
      exact ⟨⟨_, rfl⟩, .inr ⟨HS3.out, HB3.out⟩⟩
attribute [local go_sem] Oper.semAt_some
def SeqPost (s : ByteArray) (w : World) (e : Ending) (w' : World) : Prop :=
 e = .returned (.func (.func 197) #[] #[.pointer (some ⟨w.heap.size + 1, 0, none⟩), .pointer (some ⟨w.heap.size, 0, none⟩), .pointer (some ⟨w.heap.size + 2, 0, none⟩)]) ∧
 w' = ((w.alloc (.cells #[.string s] 9)).alloc (.cells #[.string ⟨#[47]⟩] 9)).alloc (.cells #[.int .i64 0] 3)
theorem splitSeq_in (F : Fence) (n : Nat) (h87 : F.fn 192) (hro : F.round = none) (s : ByteArray) (w : World) :
    CallsIn F n Tryz.prog 192 #[.string s, .string ⟨#[47]⟩, .int .i64 0] w (SeqPost s w) := by
 refine callsIn_of_wp Tryz.func192 rfl h87 ?_ hro
 simp only [Tryz.ntmps192, List.size_toArray, List.length_cons, List.length_nil, Nat.reduceAdd, Nat.reduceSub, Array.replicate_succ, Array.replicate_zero, List.push_toArray, List.append_toArray, List.nil_append, List.cons_append]
 gi_wp2
 go_ret
 exact ⟨rfl, rfl⟩
theorem SplitSeq_in (n : Nat) (hn : 1 ≤ n) (s : ByteArray) (w : World) :
    CallsIn Fence.wide n Tryz.prog 176 #[.string s, .string ⟨#[47]⟩] w (SeqPost s w) := by
 refine callsIn_of_wp Tryz.func176 rfl trivial ?_ rfl
 simp only [Tryz.ntmps176, List.size_toArray, List.length_cons, List.length_nil, Nat.reduceAdd, Nat.reduceSub, Array.replicate_succ, Array.replicate_zero, List.push_toArray, List.append_toArray, List.nil_append, List.cons_append]
 gi_wp2_with fail
 refine ⟨trivial, ?_⟩
 refine (splitSeq_in Fence.wide _ trivial rfl s w).mono ?_
 rintro e w5 ⟨rfl, hw5⟩
 have HW : Hid (w5 = ((w.alloc (.cells #[.string s] 9)).alloc (.cells #[.string ⟨#[47]⟩] 9)).alloc (.cells #[.int .i64 0] 3)) := hw5
 clear hw5
 gi_wp2
 go_ret
 exact ⟨rfl, HW.out⟩
theorem splA_sum : ∀ (l cur : List UInt8), ((splA cur l).map (fun p => p.length + 1)).sum = cur.length + l.length + 1
 | [], cur => by simp [splA]
 | x :: l, cur => by
  by_cases h : x = 47
  · subst h; rw [splA_sl]; have := splA_sum l []; simp only [List.map_cons, List.sum_cons, this, List.length_cons, List.length_nil]; omega
  · rw [splA_ch h, splA_sum l (cur ++ [x])]; simp only [List.length_append, List.length_cons, List.length_nil]; omega
theorem sum_ok : ∀ (rs : List (List UInt8)), rs.all okL = true → (rs.map (fun p => p.length + 1)).sum ≤ 17 * rs.length
 | [], _ => by simp
 | p :: rs, h => by
  rw [List.all_cons, Bool.and_eq_true] at h
  have h1 := sum_ok rs h.2
  have h2 : p.length ≤ 16 := by
   have := h.1
   unfold okL okN at this
   simp only [Bool.and_eq_true, decide_eq_true_eq] at this
   exact this.1.2
  simp only [List.map_cons, List.sum_cons, List.length_cons]; omega
theorem okPath_long {s : ByteArray} (h : 102 < s.size) : okPath s = false := by
 have h1 : ¬ s.data.toList = [47] := fun e => by
  have : s.data.toList.length = 1 := by rw [e]; rfl
  have h2 : s.data.toList.length = s.size := rfl
  omega
 rw [okPath_not h1]
 cases hn : (decide ((nm s).length ≤ 6)) with
 | false => simp
 | true =>
  cases ha : (nm s).all okL with
  | false => simp
  | true =>
   exfalso
   have h3 := sum_ok _ ha
   have h4 := splA_sum (s.data.toList.drop 1) []
   have h5 : (s.data.toList.drop 1).length = s.size - 1 := by rw [List.length_drop]; rfl
   rw [h5] at h4
   unfold nm at h3 hn
   rw [h4] at h3
   simp at h3 hn
   omega
attribute [local go_sem] Oper.semAt_some
structure VSt (w : World) (R : List (List UInt8)) (k : Nat) (W : World) : Prop where
 le : k ≤ R.length
 ok : (R.take k).all okL = true
 res : Boxed W w.heap.size 4 (.bool false)
 dep : Boxed W (w.heap.size + 1) 3 (.int .i64 (k : Int))
 txt : ∃ v, Boxed W (w.heap.size + 2) 9 v
 sep : Boxed W (w.heap.size + 3) 9 (.string ⟨#[47]⟩)
 sav : Boxed W (w.heap.size + 4) 3 (.int .i64 0)
 below : Below w.heap.size w W
 size : w.heap.size + 5 ≤ W.heap.size
structure VSx (w : World) (R : List (List UInt8)) (W : World) : Prop where
 no : R.all okL = false
 res : Boxed W w.heap.size 4 (.bool false)
 below : Below w.heap.size w W
 size : w.heap.size + 5 ≤ W.heap.size
theorem boxed_below {X Y : World} {B : Nat} {t : TypeId} {v : Value} (hb : Below X.heap.size X Y) (h : Boxed X B t v) : Boxed Y B t v := (hb.block _ h.lt).trans h
theorem VSt.later {w : World} {R : List (List UInt8)} {k : Nat} {X Y : World} (h : VSt w R k X) (hb : Below X.heap.size X Y) : VSt w R k Y :=
 ⟨h.le, h.ok, boxed_below hb h.res, boxed_below hb h.dep, h.txt.imp (fun _ hv => boxed_below hb hv), boxed_below hb h.sep, boxed_below hb h.sav, h.below.trans (hb.mono (by have := h.size; omega)), Nat.le_trans h.size hb.size⟩
theorem VSt.notCells {w : World} {R : List (List UInt8)} {k : Nat} {X Y : World} {row : Option Nat} (h : VSt w R k X) (hg : X.grownBy Y row) (hr : ∀ r, row = some r → w.heap.size + 5 ≤ r ∧ ∃ o : Obj, X.heap[r]? = some o ∧ o.isCells = false) : VSt w R k Y :=
 ⟨h.le, h.ok, h.res.kept hg (fun e => by have := (hr _ e.symm).1; omega), h.dep.kept hg (fun e => by have := (hr _ e.symm).1; omega), h.txt.imp (fun _ hv => hv.kept hg (fun e => by have := (hr _ e.symm).1; omega)), h.sep.kept hg (fun e => by have := (hr _ e.symm).1; omega), h.sav.kept hg (fun e => by have := (hr _ e.symm).1; omega),
  h.below.grown hg (by have := h.size; omega) (fun q e => by have := (hr q e).1; omega), Nat.le_trans h.size hg.size⟩
theorem VSx.notCells {w : World} {R : List (List UInt8)} {X Y : World} {row : Option Nat} (h : VSx w R X) (hg : X.grownBy Y row) (hr : ∀ r, row = some r → w.heap.size + 5 ≤ r ∧ ∃ o : Obj, X.heap[r]? = some o ∧ o.isCells = false) : VSx w R Y :=
 ⟨h.no, h.res.kept hg (fun e => by have := (hr _ e.symm).1; omega), h.below.grown hg (by have := h.size; omega) (fun q e => by have := (hr q e).1; omega), Nat.le_trans h.size hg.size⟩
theorem VSt.put {w : World} {R : List (List UInt8)} {k : Nat} {X : World} (h : VSt w R k X) (v : Value) : VSt w R k (X.setCell ⟨w.heap.size + 2, 0, none⟩ v) := by
 obtain ⟨u, hu⟩ := h.txt
 exact ⟨h.le, h.ok, h.res.other (by omega) _, h.dep.other (by omega) _, ⟨v, hu.set v⟩, h.sep.other (by omega) _, h.sav.other (by omega) _, h.below.setCell (by simp) _, by simpa using h.size⟩
theorem VSt.step {w : World} {R : List (List UInt8)} {k : Nat} {X : World} (h : VSt w R k X) (hk : k < R.length) (ho : okN (pN R k) = true) : VSt w R (k + 1) (X.setCell ⟨w.heap.size + 1, 0, none⟩ (.int .i64 ((k + 1 : Nat) : Int))) := by
 obtain ⟨u, hu⟩ := h.txt
 refine ⟨hk, ?_, h.res.other (by omega) _, h.dep.set _, ⟨u, hu.other (by omega) _⟩, h.sep.other (by omega) _, h.sav.other (by omega) _, h.below.setCell (by simp) _, by simpa using h.size⟩
 rw [List.take_succ_eq_append_getElem hk, List.all_append, h.ok]
 have e : pN R k = ⟨R[k].toArray⟩ := by unfold pN; simp [List.getD, hk]
 rw [e] at ho
 simp [okL, ho]
theorem VSt.left {w : World} {R : List (List UInt8)} {k : Nat} {X : World} (h : VSt w R k X) (hk : k < R.length) (ho : okN (pN R k) = false) : VSx w R (X.setCell ⟨w.heap.size, 0, none⟩ (.bool false)) :=
 ⟨all_no hk ho, h.res.set _, h.below.setCell (by simp) _, by simpa using h.size⟩
theorem keeps_of_below {B : Nat} {X Y : World} (h : Below X.heap.size X Y) : KeepsFrom B X Y := ⟨h.size, fun k _ _ hk _ => (h.block k (Array.getElem?_eq_some_iff.1 hk).1).trans hk⟩
def AxV (w : World) (R : List (List UInt8)) (tm : Value → Array Value) (k : Nat) (a' : Act) (W : World) : Prop := k < R.length ∧ VSt w R k W ∧ a' = { tmps := tm (.string (pN R k)), defers := [] }
theorem implPath_yes (w : World) (s : ByteArray) (hnr : (s.toList == [47]) = false) (hs1 : 1 ≤ s.size) (hs2 : s.size ≤ 102) (hb0 : bN s 0 = 47) :
    Calls Tryz.prog 139 #[.string s] w fun e w' => e = .returned (.bool (decide ((nm s).length ≤ 6) && (nm s).all okL)) ∧ Below w.heap.size w w' := by
 have h0 : ¬ (102 : Int) < (s.size : Int) := by omega
 have h1 : (1 : Int) ≤ (s.size : Int) := by omega
 have HB0 : Hid (bN s 0 = 47) := hb0
 clear hb0
 refine (callsIn_wide (n := 6)).1 ?_
 refine callsIn_of_wp_marks Tryz.func139 rfl trivial ?_ rfl
 simp only [Tryz.ntmps139, List.size_toArray, List.length_cons, List.length_nil, Nat.reduceAdd, Nat.reduceSub, Array.replicate_succ, Array.replicate_zero, List.push_toArray, List.append_toArray, List.nil_append, List.cons_append]
 gi_wp2_with fail
 refine ⟨trivial, ?_⟩
 refine (callsIn_wide.2 (pre_any _ s hs1)).mono ?_
 rintro e w5 ⟨rfl, hw5⟩
 rw [decide_eq_true HB0.out]
 subst hw5
 gi_wp2_with fail
 refine ⟨trivial, ?_⟩
 refine (SplitSeq_in _ (by omega) (s.extract 1 s.size) _).mono ?_
 rintro e w5 ⟨rfl, hw5⟩
 gi_wp2_with fail
 have s5 : w5.heap.size = w.heap.size + 5 := by rw [hw5]; simp
 have HT0 : Hid (Boxed w5 (w.heap.size + 2) 9 (.string (s.extract 1 s.size))) := by
  rw [hw5]
  have := (((Boxed.new ((w.alloc (.cells #[.bool false] 4)).alloc (.cells #[.int .i64 0] 3)) 9 (.string (s.extract 1 s.size))).alloc (.cells #[.string ⟨#[47]⟩] 9)).alloc (.cells #[.int .i64 0] 3))
  rw [World.size_alloc, World.size_alloc] at this
  exact this
 have HR : Hid (nm s = splA [] (s.extract 1 s.size).data.toList) := by
  show _ = _
  rw [extract_seg]
  unfold nm seg
  congr 1
  rw [List.take_of_length_le (by rw [List.length_drop]; exact Nat.le_refl _)]
 have HST0 : Hid (VSt w (nm s) 0 w5) := by
  have hsz : ∀ (X : World) (o : Obj), (X.alloc o).heap.size = X.heap.size + 1 := fun X o => World.size_alloc X o
  refine ⟨Nat.zero_le _, by simp, ?_, ?_, ⟨_, HT0.out⟩, ?_, ?_, ?_, by omega⟩
  · rw [hw5]; exact ((((Boxed.new w 4 (.bool false)).alloc _).alloc _).alloc _).alloc _
  · rw [hw5]
    have := (((Boxed.new (w.alloc (.cells #[.bool false] 4)) 3 (.int .i64 0)).alloc (.cells #[.string (s.extract 1 s.size)] 9)).alloc (.cells #[.string ⟨#[47]⟩] 9)).alloc (.cells #[.int .i64 0] 3)
    simpa using this
  · rw [hw5]
    have := (Boxed.new (((w.alloc (.cells #[.bool false] 4)).alloc (.cells #[.int .i64 0] 3)).alloc (.cells #[.string (s.extract 1 s.size)] 9)) 9 (.string ⟨#[47]⟩)).alloc (.cells #[.int .i64 0] 3)
    simpa using this
  · rw [hw5]
    have := Boxed.new ((((w.alloc (.cells #[.bool false] 4)).alloc (.cells #[.int .i64 0] 3)).alloc (.cells #[.string (s.extract 1 s.size)] 9)).alloc (.cells #[.string ⟨#[47]⟩] 9)) 3 (.int .i64 0)
    simpa using this
  · rw [hw5]
    exact (((((Below.refl _ _).alloc (Nat.le_refl _) _).alloc (by simp) _).alloc (by simp; omega) _).alloc (by simp; omega) _).alloc (by simp; omega) _
 rw [← hw5]
 clear hw5
 have HNL : Hid ((nm s).length ≤ 103) := by have := nm_len s; show _ ≤ _; omega
 have HEX : Hid ((s.extract 1 s.size).size ≤ 1048576) := by show _ ≤ _; simp; omega
 generalize s.extract 1 s.size = sx at *
 generalize hRn : nm s = R at HR HST0 HNL
 have HRN : Hid (nm s = R) := hRn
 clear hRn
 refine range_leaves (F := Fence.wide) (n := 6) rfl (by omega) (gf := 197) (lb := #[.pointer (some ⟨w.heap.size + 1 + 1 + 1, 0, none⟩), .pointer (some ⟨w.heap.size + 1 + 1, 0, none⟩), .pointer (some ⟨w.heap.size + 1 + 1 + 2, 0, none⟩)]) rfl trivial (enters_of Tryz.func197 (by kernel_rfl) rfl)
  (fun k W => VSt w R k W) (fun k vs W => k < R.length ∧ vs = #[sV (R.getD k [])]) (fun k _ => k + 1) (fun X Y => ∀ v, Boxed X (w.heap.size + 2) 9 v → Boxed Y (w.heap.size + 2) 9 v) (fun k => k = R.length) (VSx w R)
  (fun _ X Y row hs hg hr => hs.notCells hg (fun r e => by have := hr r e; rw [s5] at this; exact this)) 0
  (fun k X Y row hs hg hr => hs.notCells hg (fun r e => by have := hr r e; rw [s5] at this; exact this)) (fun h1 h2 v hv => h2 v (h1 v hv))
  (fun W l o o' hl ho _ _ v hv => hv.kept (grownBy_putObj' W l o') (fun e => by injection e with e; omega))
  (fun k vs W hp => by rw [hp.2]; rfl) HST0.out
  (fun k vs a' W => AxV w R (fun p => #[.string s, undef, .pointer (some ⟨w.heap.size, 0, none⟩), .pointer (some ⟨w.heap.size + 1, 0, none⟩), p, .string s, .bool false, .string s, .int .i64 s.size, .bool false, .bool false, .string s, .bool true, .bool false, .bool false, .string s, .string sx, .func (.func 197) #[] #[.pointer (some ⟨w.heap.size + 1 + 1 + 1, 0, none⟩), .pointer (some ⟨w.heap.size + 1 + 1, 0, none⟩), .pointer (some ⟨w.heap.size + 1 + 1 + 2, 0, none⟩)], p, undef, undef, undef, undef, undef, undef, undef]) k a' W)
  ?ax ?assign ?body ?call ?done ?stop
 case ax =>
  rintro k vs a' _ X Y row ⟨h1, h2, h3⟩ hg hr
  exact ⟨h1, h2.notCells hg (fun r e => by have := hr r e; rw [s5] at this; exact this), h3⟩
 case assign =>
  rintro l k vs W K hs ⟨hlt, rfl⟩ hK
  have HS : Hid (VSt w R k W) := hs
  have HK : Hid (∀ a' W', _ → _ → _ → K a' W') := hK
  have HLT : Hid (k < R.length) := hlt
  clear hs hK hlt
  gi_wp2
  refine HK.out _ _ (keeps_of_below (Below.refl _ _)) (fun v h => h) ⟨HLT.out, HS.out, rfl⟩
 case body =>
  rintro l k vs a' W ⟨hlt, hS, rfl⟩
  have HS : Hid (VSt w R k W) := hS
  have HLT : Hid (k < R.length) := hlt
  have hk : k ≤ 103 := by have := HNL.out; omega
  clear hS hlt
  gi_wp2_with fail
  refine ⟨trivial, ?_⟩
  refine (callsIn_wide.2 (validName_any _ (pN R k))).mono ?_
  rintro e w6 ⟨rfl, q, rfl⟩
  have HS2 : Hid (VSt w R k (W.drewN q)) := HS.out.later (below_drewN' W q)
  have HKF : Hid (KeepsFrom (w.heap.size + 5) W (W.drewN q)) := keeps_of_below (below_drewN' W q)
  have HKP : Hid (∀ v, Boxed W (w.heap.size + 2) 9 v → Boxed (W.drewN q) (w.heap.size + 2) 9 v) := fun v hv => boxed_below (below_drewN' W q) hv
  have cR := HS.out.res.cell
  have fR := HS.out.res.frozen
  have cD := HS.out.dep.cell
  have fD := HS.out.dep.frozen
  by_cases hok : okN (pN R k) = true
  · have HST : Hid _ := HS2.out.step HLT.out hok
    rw [hok]
    clear hok
    gi_wp2
    refine ⟨HKF.out.trans ((KeepsOthers.setCell _ _ _).from _), fun v hv => (HKP.out v hv).other (by omega) _, HST.out⟩
  · have hok' : okN (pN R k) = false := by simpa using hok
    have HST : Hid _ := HS2.out.left HLT.out hok'
    rw [hok']
    clear hok hok'
    gi_wp2
    refine ⟨HKF.out.trans ((KeepsOthers.setCell _ _ _).from _), HST.out⟩
 case call =>
  intro Bk BkX W1 hBk hBkX hY hb5 hsz5 hs0 hb0
  refine (split1_any 5 (by omega) (w5.heap.size + 1) (w.heap.size + 2) (w.heap.size + 3) (w.heap.size + 4) R sx (fun k W => VSt w R k W) (VSx w R) Bk BkX (fun k X Y hb h => h.later hb) (fun X Y hb h => hBk X Y (keeps_of_below hb) h) (fun k X v h => h.put v) (fun X v h => hBk _ _ ((KeepsOthers.setCell _ _ _).from _) h) (fun k W h => ⟨h.sep.cell, h.sav.cell⟩) (fun k vs W hs hb hp => ?_) W1 hs0 hb0 ?_ HEX.out HR.out)
  · obtain ⟨fn, tm, asg, bd, hy, hR⟩ := hY k vs W hs hb hp
    exact ⟨fn, tm, asg, bd, hy, hR⟩
  · exact (hb5.block _ (by omega)).trans HT0.out
 case done =>
  rintro D k W hD hfin hS hK
  have hfin2 : k = R.length := hfin
  have hk : k ≤ 103 := by have := HNL.out; omega
  have HAL : Hid (R.all okL = true) := by have := hS.ok; rw [hfin2, List.take_length] at this; exact this
  have HFN : Hid (k = R.length) := hfin2
  have hB : Below w.heap.size w W := hS.below
  have zW := hS.size
  have cR := hS.res.cell
  have fR := hS.res.frozen
  have cD := hS.dep.cell
  have HRS : Hid (Boxed W w.heap.size 4 (.bool false)) := hS.res
  clear hS hfin hfin2
  gi_wp2
  have BX : Below w.heap.size w (W.setCell ⟨w.heap.size, 0, none⟩ (.bool (decide ((k : Int) ≤ 6)))) := hB.setCell (by simp) _
  have hK2 : (W.setCell ⟨w.heap.size, 0, none⟩ (.bool (decide ((k : Int) ≤ 6)))).heap[D]? = some (.deferred (some [])) := (KeepsOthers.setCell _ _ _).same D _ hK rfl
  have RX : Boxed (W.setCell ⟨w.heap.size, 0, none⟩ (.bool (decide ((k : Int) ≤ 6)))) w.heap.size 4 (.bool (decide ((k : Int) ≤ 6))) := HRS.out.set _
  have SX : (W.setCell ⟨w.heap.size, 0, none⟩ (.bool (decide ((k : Int) ≤ 6)))).heap.size = W.heap.size := by simp
  refine ⟨by simp, .inl ⟨_, _, rfl, run_takeDeferred hK2, ?_⟩⟩
  generalize W.setCell ⟨w.heap.size, 0, none⟩ (.bool (decide ((k : Int) ≤ 6))) = X at *
  have GX := grownBy_putObj' X D (.deferred none)
  have y0 := (RX.kept GX (by simp; omega)).cell
  have BF : Below w.heap.size w (X.putObj D (.deferred none)) := BX.grown GX (by omega) (fun q e => by injection e with e; omega)
  generalize X.putObj D (.deferred none) = Z at *
  refine ⟨.bool (decide ((k : Int) ≤ 6)), ?_, ?_, BF⟩
  · simp [results, Tryz.results139, go_sem, y0]
  · refine ret_b ?_
    rw [HRN.out, HAL.out, ← HFN.out, Bool.and_true]
    apply decide_eq_decide.2; omega
 case stop =>
  rintro D W hD hS hK
  have zW := hS.size
  have HX : Hid (VSx w R W) := hS
  clear hS
  gi_wp2
  refine ⟨by simp, .inl ⟨_, _, rfl, run_takeDeferred hK, ?_⟩⟩
  have GX := grownBy_putObj' W D (.deferred none)
  have y0 := (HX.out.res.kept GX (by simp; omega)).cell
  have BF : Below w.heap.size w (W.putObj D (.deferred none)) := HX.out.below.grown GX (by omega) (fun q e => by injection e with e; omega)
  have HNO : Hid (R.all okL = false) := HX.out.no
  generalize W.putObj D (.deferred none) = Z at *
  refine ⟨.bool false, ?_, ?_, BF⟩
  · simp [results, Tryz.results139, go_sem, y0]
  · refine ret_b ?_
    rw [HRN.out, HNO.out, Bool.and_false]
theorem implPath_any (w : World) (s : ByteArray) :
    Calls Tryz.prog 139 #[.string s] w fun e w' => e = .returned (.bool (okPath s)) ∧ Below w.heap.size w w' := by
 by_cases hr : s.data.toList = [47]
 · have hrt : (s.toList == [47]) = true := by rw [ByteArray.toList_eq, hr]; rfl
   have HP : Hid (okPath s = true) := okPath_root hr
   clear hr
   go_enter Tryz.func139, Tryz.ntmps139
   go_wp2
   refine bodyPost_ret (v := .bool true) ?_ rfl ?_
   · simp [results, Tryz.results139, go_sem]
   · exact ⟨ret_b HP.out.symm, (Below.refl _ _).alloc (Nat.le_refl _) _⟩
 · have hrt : (s.toList == [47]) = false := by rw [ByteArray.toList_eq, beq_eq_false_iff_ne]; exact hr
   have HP : Hid (okPath s = (decide (2 ≤ s.size) && decide (bN s 0 = 47) && decide ((nm s).length ≤ 6) && (nm s).all okL)) := okPath_not hr
   by_cases hl : 102 < s.size
   · have hlI : (102 : Int) < (s.size : Int) := by omega
     have HP2 : Hid (okPath s = false) := okPath_long hl
     clear hr HP
     go_enter Tryz.func139, Tryz.ntmps139
     go_wp2
     refine bodyPost_ret (v := .bool false) ?_ rfl ?_
     · simp [results, Tryz.results139, go_sem]
     · exact ⟨ret_b HP2.out.symm, (Below.refl _ _).alloc (Nat.le_refl _) _⟩
   · have hlI : ¬ (102 : Int) < (s.size : Int) := by omega
     by_cases h0 : s.size = 0
     · have HP2 : Hid (okPath s = false) := by show _ = _; rw [HP.out, decide_eq_false (by omega)]; rfl
       have HZ : Hid (s.size = 0) := h0
       clear hr HP h0
       go_enter Tryz.func139, Tryz.ntmps139
       go_wp2_with fail
       refine (pre_none _ s HZ.out).mono ?_
       rintro e w5 ⟨rfl, rfl⟩
       go_wp2
       refine bodyPost_ret (v := .bool false) ?_ rfl ?_
       · simp [results, Tryz.results139, go_sem]
       · exact ⟨ret_b HP2.out.symm, (Below.refl _ _).alloc (Nat.le_refl _) _⟩
     · by_cases hb : bN s 0 = 47
       · have h2 : 2 ≤ s.size := by
          by_cases h2 : 2 ≤ s.size
          · exact h2
          · exfalso
            apply hr
            have h3 : s.data.toList.length = 1 := by show s.size = 1; omega
            unfold bN at hb
            cases e : s.data.toList with
            | nil => rw [e] at h3; cases h3
            | cons x l =>
             rw [e] at h3 hb
             cases l with
             | nil => simp only [List.getD_cons_zero] at hb; rw [show x = 47 from UInt8.toNat_inj.1 hb]
             | cons y l => simp at h3
         have := implPath_yes w s hrt (by omega) (by omega) hb
         rw [HP.out, decide_eq_true h2, decide_eq_true hb]
         exact this
       · have HP2 : Hid (okPath s = false) := by show _ = _; rw [HP.out, decide_eq_false hb, Bool.and_false]; rfl
         have HBF : Hid (decide (bN s 0 = 47) = false) := decide_eq_false hb
         clear hr HP hb
         go_enter Tryz.func139, Tryz.ntmps139
         go_wp2_with fail
         refine (pre_any _ s (by omega)).mono ?_
         rintro e w5 ⟨rfl, rfl⟩
         rw [HBF.out]
         go_wp2
         refine bodyPost_ret (v := .bool false) ?_ rfl ?_
         · simp [results, Tryz.results139, go_sem]
         · exact ⟨ret_b HP2.out.symm, (Below.refl _ _).alloc (Nat.le_refl _) _⟩
end Go.Proofs.YtcopcegamadkgaaGreatDoor
namespace Go.Proofs.YtcopcegamadkgaaGreatDoor
open Go.RowKit
structure Nd where
 path : ByteArray
 data : ByteArray
 ver : Int
 cver : Int
 cz : Int
 mz : Int
 pz : Int
def ndL (n : Nd) : List Value := [.string n.path, .string n.data, .int .i64 n.ver, .int .i64 n.cver, .int .i64 n.cz, .int .i64 n.mz, .int .i64 n.pz]
def nd0 : Nd := ⟨ByteArray.empty, ByteArray.empty, 0, 0, 0, 0, 0⟩
def nAt (ns : List Nd) (i : Nat) : Nd := ns.getD i nd0
theorem nAt_get {ns : List Nd} {i : Nat} (h : i < ns.length) : nAt ns i = ns[i] := by unfold nAt; simp [List.getD, h]
structure CellsN (w : World) (b p : Nat) (n : Nd) : Prop where
 c0 : w.cell? ⟨b, p, none⟩ = some (.string n.path)
 c1 : w.cell? ⟨b, p + 1, none⟩ = some (.string n.data)
 c2 : w.cell? ⟨b, p + 2, none⟩ = some (.int .i64 n.ver)
 c3 : w.cell? ⟨b, p + 3, none⟩ = some (.int .i64 n.cver)
 c4 : w.cell? ⟨b, p + 4, none⟩ = some (.int .i64 n.cz)
 c5 : w.cell? ⟨b, p + 5, none⟩ = some (.int .i64 n.mz)
 c6 : w.cell? ⟨b, p + 6, none⟩ = some (.int .i64 n.pz)
theorem CellsN.below {w w' : World} {m b p : Nat} {n : Nd} (h : CellsN w b p n) (hb : Below m w w') (hl : b < m) : CellsN w' b p n :=
 ⟨(hb.cell (p := ⟨b, _, none⟩) hl).trans h.c0, (hb.cell (p := ⟨b, _, none⟩) hl).trans h.c1, (hb.cell (p := ⟨b, _, none⟩) hl).trans h.c2, (hb.cell (p := ⟨b, _, none⟩) hl).trans h.c3,
  (hb.cell (p := ⟨b, _, none⟩) hl).trans h.c4, (hb.cell (p := ⟨b, _, none⟩) hl).trans h.c5, (hb.cell (p := ⟨b, _, none⟩) hl).trans h.c6⟩
def RdN (w : World) (v : Value) (ns : List Nd) : Prop :=
 ∃ ao cap, v = .slice ao ns.length cap ∧ ns.length ≤ cap ∧ cap ≤ maxLen ∧
  (ns = [] ∨ ∃ b off, ao = some ⟨b, off, none⟩ ∧ b < w.heap.size ∧ ∀ i, i < ns.length → CellsN w b (off + i * 7) (nAt ns i))
theorem RdN.len {w : World} {v : Value} {ns : List Nd} (h : RdN w v ns) : ∃ ao cap, v = .slice ao ns.length cap ∧ ns.length ≤ cap ∧ cap ≤ maxLen := by
 obtain ⟨ao, cap, h0, h1, h2, _⟩ := h
 exact ⟨ao, cap, h0, h1, h2⟩
theorem RdN.below {w w' : World} {v : Value} {ns : List Nd} (h : RdN w v ns) (hb : Below w.heap.size w w') : RdN w' v ns := by
 obtain ⟨ao, cap, rfl, h1, h2, h3⟩ := h
 refine ⟨ao, cap, rfl, h1, h2, ?_⟩
 rcases h3 with h3 | ⟨b, off, rfl, hlt, hc⟩
 · exact .inl h3
 · exact .inr ⟨b, off, rfl, Nat.lt_of_lt_of_le hlt hb.size, fun i hi => (hc i hi).below hb hlt⟩
def nrow (ns : List Nd) : List Value := ns.flatMap ndL
theorem nrow_cons (n : Nd) (ns : List Nd) : nrow (n :: ns) = ndL n ++ nrow ns := by simp [nrow]
theorem nrow_append (ns ms : List Nd) : nrow (ns ++ ms) = nrow ns ++ nrow ms := by simp [nrow]
theorem nrow_length : ∀ ns : List Nd, (nrow ns).length = ns.length * 7
 | [] => rfl
 | n :: ns => by rw [nrow_cons, List.length_append, nrow_length ns, List.length_cons]; show 7 + _ = _; omega
theorem nrow_get : ∀ (ns : List Nd) (i j : Nat), i < ns.length → j < 7 → (nrow ns)[i * 7 + j]? = (ndL (nAt ns i))[j]?
 | [], i, j, h, _ => by simp at h
 | n :: ns, 0, j, _, hj => by
  rw [nrow_cons, Nat.zero_mul, Nat.zero_add, List.getElem?_append_left (by show j < 7; exact hj)]; rfl
 | n :: ns, i + 1, j, h, hj => by
  rw [nrow_cons, List.getElem?_append_right (by show 7 ≤ _; omega), show (i + 1) * 7 + j - (ndL n).length = i * 7 + j by show (i + 1) * 7 + j - 7 = _; omega, nrow_get ns i j (by simpa using h) hj]
  rfl
def set7 (L : List Value) (p : Nat) (n : Nd) : List Value :=
 ((((((L.set p (.string n.path)).set (p + 1) (.string n.data)).set (p + 2) (.int .i64 n.ver)).set (p + 3) (.int .i64 n.cver)).set (p + 4) (.int .i64 n.cz)).set (p + 5) (.int .i64 n.mz)).set (p + 6) (.int .i64 n.pz)
theorem set7_app (a L : List Value) (p : Nat) (n : Nd) (h : a.length = 7) : set7 (a ++ L) (7 + p) n = a ++ set7 L p n := by
 unfold set7
 have e : ∀ (M : List Value) (q : Nat) (v : Value), (a ++ M).set (7 + q) v = a ++ M.set q v := fun M q v => by
  rw [List.set_append_right _ _ (by omega)]; congr 2; omega
 rw [e, show 7 + p + 1 = 7 + (p + 1) by omega, e, show 7 + p + 2 = 7 + (p + 2) by omega, e, show 7 + p + 3 = 7 + (p + 3) by omega, e, show 7 + p + 4 = 7 + (p + 4) by omega, e, show 7 + p + 5 = 7 + (p + 5) by omega, e, show 7 + p + 6 = 7 + (p + 6) by omega, e]
theorem nrow_set : ∀ (ns : List Nd) (k : Nat) (n : Nd), k < ns.length → set7 (nrow ns) (k * 7) n = nrow (ns.set k n)
 | [], k, n, h => by simp at h
 | m :: ns, 0, n, _ => by
  rw [nrow_cons, List.set_cons_zero, nrow_cons]
  rfl
 | m :: ns, k + 1, n, h => by
  rw [nrow_cons, List.set_cons_succ, nrow_cons, show (k + 1) * 7 = 7 + k * 7 by omega, set7_app _ _ _ _ rfl, nrow_set ns k n (by simpa using h)]
def OwnN (e : TypeId) (w : World) (lo : Nat) (v : Value) (ns : List Nd) : Prop := w.ownsRow lo e 7 v ns.length (nrow ns)
theorem OwnN.rd {e : TypeId} {w : World} {lo : Nat} {v : Value} {ns : List Nd} (h : OwnN e w lo v ns) : RdN w v ns := by
 rcases h.2 with ⟨rfl, h0⟩ | ⟨g, cap, cur, rfl, hb, hg, hn, hm, hs, ht⟩
 · have : ns = [] := List.eq_nil_of_length_eq_zero h0
   subst this
   exact ⟨none, 0, rfl, Nat.le_refl _, Nat.zero_le _, .inl rfl⟩
 · refine ⟨_, cap, rfl, hn, hm, .inr ⟨g, 0, rfl, (Array.getElem?_eq_some_iff.1 hg).1, fun i hi => ?_⟩⟩
   have c : ∀ j, j < 7 → w.cell? ⟨g, 0 + (i * 7 + j), none⟩ = (ndL (nAt ns i))[j]? := fun j hj => by
    have hh := nrow_get ns i j hi hj
    have h9 : (ndL (nAt ns i))[j]? = some ((ndL (nAt ns i)).getD j undef) := by
     match j, hj with
     | 0, _ => rfl
     | 1, _ => rfl
     | 2, _ => rfl
     | 3, _ => rfl
     | 4, _ => rfl
     | 5, _ => rfl
     | 6, _ => rfl
    rw [h9] at hh
    have := World.ownsRow.cells h (g := g) rfl (i * 7 + j) _ hh
    rw [Addr.add_lit] at this
    rw [this, h9]
   exact ⟨c 0 (by omega), c 1 (by omega), c 2 (by omega), c 3 (by omega), c 4 (by omega), c 5 (by omega), c 6 (by omega)⟩
theorem OwnN.below {e : TypeId} {w w' : World} {lo : Nat} {v : Value} {ns : List Nd} (h : OwnN e w lo v ns) (hb : Below w.heap.size w w') : OwnN e w' lo v ns := by
 refine ⟨h.1, ?_⟩
 rcases h.2 with hn | ⟨g, cap, cur, rfl, hbg, hgg, rest⟩
 · exact .inl hn
 · exact .inr ⟨g, cap, cur, rfl, hbg, by rw [hb.block g (Array.getElem?_eq_some_iff.1 hgg).1]; exact hgg, rest⟩
theorem OwnN.mono {e : TypeId} {w : World} {lo lo' : Nat} {v : Value} {ns : List Nd} (h : OwnN e w lo v ns) (hl : lo' ≤ lo) : OwnN e w lo' v ns := by
 refine ⟨h.1, ?_⟩
 rcases h.2 with hn | ⟨g, cap, cur, rfl, hbg, rest⟩
 · exact .inl hn
 · exact .inr ⟨g, cap, cur, rfl, Nat.le_trans hl hbg, rest⟩
theorem OwnN.slice {e : TypeId} {w : World} {lo : Nat} {v : Value} {ns : List Nd} (h : OwnN e w lo v ns) : ∃ a c, v = .slice a ns.length c := by
 obtain ⟨a, c, h0, _⟩ := h.rd.len
 exact ⟨a, c, h0⟩
theorem Tryz.infoN : (Tryz.prog.info? 85).map (fun i => (i.zero, i.size, i.bytes)) = some (some (.agg #[.string ByteArray.empty, .string ByteArray.empty, .int .i64 0, .int .i64 0, .int .i64 0, .int .i64 0, .int .i64 0]), 7, 72) := by kernel_rfl
theorem nstored {w : World} {lo g n cap : Nat} {e : TypeId} {ms : List Nd} (ho : w.ownsRow lo e 7 (.slice (some ⟨g, 0, none⟩) n cap) n (nrow ms)) (k : Nat) (hk : k < ms.length) (m : Nd) :
    (((((((w.setCell ⟨g, k * 7, none⟩ (.string m.path)).setCell ⟨g, k * 7 + 1, none⟩ (.string m.data)).setCell ⟨g, k * 7 + 2, none⟩ (.int .i64 m.ver)).setCell ⟨g, k * 7 + 3, none⟩ (.int .i64 m.cver)).setCell ⟨g, k * 7 + 4, none⟩ (.int .i64 m.cz)).setCell ⟨g, k * 7 + 5, none⟩ (.int .i64 m.mz)).setCell ⟨g, k * 7 + 6, none⟩ (.int .i64 m.pz)).ownsRow lo e 7 (.slice (some ⟨g, 0, none⟩) n cap) n (nrow (ms.set k m)) := by
 have s0 := (World.ownsRow.stored ho (k * 7) (.string m.path)).1
 have s1 := (World.ownsRow.stored s0 (k * 7 + 1) (.string m.data)).1
 have s2 := (World.ownsRow.stored s1 (k * 7 + 2) (.int .i64 m.ver)).1
 have s3 := (World.ownsRow.stored s2 (k * 7 + 3) (.int .i64 m.cver)).1
 have s4 := (World.ownsRow.stored s3 (k * 7 + 4) (.int .i64 m.cz)).1
 have s5 := (World.ownsRow.stored s4 (k * 7 + 5) (.int .i64 m.mz)).1
 have s6 := (World.ownsRow.stored s5 (k * 7 + 6) (.int .i64 m.pz)).1
 rw [← nrow_set ms k m hk]
 exact s6
theorem OwnN.setBelow {e : TypeId} {w : World} {lo : Nat} {v : Value} {ns : List Nd} (h : OwnN e w lo v ns) {a : Addr} (ha : a.block < lo) (u : Value) : OwnN e (w.setCell a u) lo v ns := ownsRow_setCell_below h ha u
def okS (v : Int) : Bool := decide (0 ≤ v) && decide (v ≤ 2147483647)
def okNd (n : Nd) : Bool := okPath n.path && decide (n.data.size ≤ 64) && okS n.ver && okS n.cver && okS n.cz && okS n.mz && okS n.pz
theorem stat_any (w : World) (v : Int) : Calls Tryz.prog 29 #[.int .i64 v] w fun e w' => e = .returned (.bool (okS v)) ∧ w' = w := by
 by_cases h1 : 0 ≤ v
 · by_cases h2 : v ≤ 2147483647
   · have HO : Hid (okS v = true) := by show _ = _; unfold okS; rw [decide_eq_true h1, decide_eq_true h2]; rfl
     go_enter Tryz.func29, Tryz.ntmps29
     go_wp2
     go_ret
     exact ⟨ret_b HO.out.symm, rfl⟩
   · have HO : Hid (okS v = false) := by show _ = _; unfold okS; rw [decide_eq_false h2]; simp
     go_enter Tryz.func29, Tryz.ntmps29
     go_wp2
     go_ret
     exact ⟨ret_b HO.out.symm, rfl⟩
 · have HO : Hid (okS v = false) := by show _ = _; unfold okS; rw [decide_eq_false h1]; rfl
   go_enter Tryz.func29, Tryz.ntmps29
   go_wp2
   go_ret
   exact ⟨ret_b HO.out.symm, rfl⟩
theorem istat_any (w : World) (v : Int) : Calls Tryz.prog 34 #[.int .i64 v] w fun e w' => e = .returned (.bool (okS v)) ∧ w' = w := by
 by_cases h1 : 0 ≤ v
 · by_cases h2 : v ≤ 2147483647
   · have HO : Hid (okS v = true) := by show _ = _; unfold okS; rw [decide_eq_true h1, decide_eq_true h2]; rfl
     go_enter Tryz.func34, Tryz.ntmps34
     go_wp2
     go_ret
     exact ⟨ret_b HO.out.symm, rfl⟩
   · have HO : Hid (okS v = false) := by show _ = _; unfold okS; rw [decide_eq_false h2]; simp
     go_enter Tryz.func34, Tryz.ntmps34
     go_wp2
     go_ret
     exact ⟨ret_b HO.out.symm, rfl⟩
 · have HO : Hid (okS v = false) := by show _ = _; unfold okS; rw [decide_eq_false h1]; rfl
   go_enter Tryz.func34, Tryz.ntmps34
   go_wp2
   go_ret
   exact ⟨ret_b HO.out.symm, rfl⟩
structure BoxN (w : World) (B : Nat) (n : Nd) : Prop where
 lt : B < w.heap.size
 c0 : w.cell? ⟨B, 0, none⟩ = some (.string n.path)
 c1 : w.cell? ⟨B, 1, none⟩ = some (.string n.data)
 c2 : w.cell? ⟨B, 2, none⟩ = some (.int .i64 n.ver)
 c3 : w.cell? ⟨B, 3, none⟩ = some (.int .i64 n.cver)
 c4 : w.cell? ⟨B, 4, none⟩ = some (.int .i64 n.cz)
 c5 : w.cell? ⟨B, 5, none⟩ = some (.int .i64 n.mz)
 c6 : w.cell? ⟨B, 6, none⟩ = some (.int .i64 n.pz)
theorem BoxN.new (w : World) (n : Nd) (t : TypeId) : BoxN (w.alloc (.cells #[.string n.path, .string n.data, .int .i64 n.ver, .int .i64 n.cver, .int .i64 n.cz, .int .i64 n.mz, .int .i64 n.pz] t)) w.heap.size n :=
 ⟨by simp, by simp, by simp, by simp, by simp, by simp, by simp, by simp⟩
theorem BoxN.below {w w' : World} {B : Nat} {n : Nd} (h : BoxN w B n) (hb : Below w.heap.size w w') : BoxN w' B n :=
 ⟨Nat.lt_of_lt_of_le h.lt hb.size, (hb.cell (p := ⟨B, _, none⟩) h.lt).trans h.c0, (hb.cell (p := ⟨B, _, none⟩) h.lt).trans h.c1, (hb.cell (p := ⟨B, _, none⟩) h.lt).trans h.c2, (hb.cell (p := ⟨B, _, none⟩) h.lt).trans h.c3,
  (hb.cell (p := ⟨B, _, none⟩) h.lt).trans h.c4, (hb.cell (p := ⟨B, _, none⟩) h.lt).trans h.c5, (hb.cell (p := ⟨B, _, none⟩) h.lt).trans h.c6⟩
theorem specNode_any (w : World) (n : Nd) (hp : n.path.size ≤ 1048576) (hd : n.data.size ≤ 1048576) :
    Calls Tryz.prog 99 #[.agg #[.string n.path, .string n.data, .int .i64 n.ver, .int .i64 n.cver, .int .i64 n.cz, .int .i64 n.mz, .int .i64 n.pz]] w fun e w' => e = .returned (.bool (okNd n)) ∧ Below w.heap.size w w' := by
 have X0 : Hid (BoxN (w.alloc (.cells #[.string n.path, .string n.data, .int .i64 n.ver, .int .i64 n.cver, .int .i64 n.cz, .int .i64 n.mz, .int .i64 n.pz] 85)) w.heap.size n) := BoxN.new _ _ _
 have B0 : Hid (Below w.heap.size w (w.alloc (.cells #[.string n.path, .string n.data, .int .i64 n.ver, .int .i64 n.cver, .int .i64 n.cz, .int .i64 n.mz, .int .i64 n.pz] 85))) := (Below.refl _ _).alloc (Nat.le_refl _) _
 go_enter Tryz.func99, Tryz.ntmps99
 go_wp2_with fail
 generalize w.alloc (.cells #[.string n.path, .string n.data, .int .i64 n.ver, .int .i64 n.cver, .int .i64 n.cz, .int .i64 n.mz, .int .i64 n.pz] 85) = w0 at *
 refine (specPath_any _ n.path hp).mono ?_
 rintro e w1 ⟨rfl, b1⟩
 have B1 := hd9 (B0.out.trans (b1.mono B0.out.size))
 obtain ⟨-, c0, c1, c2, c3, c4, c5, c6⟩ := X0.out.below b1
 clear b1 X0 B0
 cases hP : okPath n.path with
 | false =>
  have HO : Hid (okNd n = false) := by show _ = _; unfold okNd; rw [hP]; simp
  go_wp2
  go_ret
  exact ⟨ret_b HO.out.symm, B1.out⟩
 | true =>
  have HP : Hid (okPath n.path = true) := hP
  clear hP
  by_cases hD : 64 < n.data.size
  · have hDI : (64 : Int) < (n.data.size : Int) := by omega
    have HO : Hid (okNd n = false) := by show _ = _; unfold okNd; rw [decide_eq_false (show ¬ n.data.size ≤ 64 by omega)]; simp
    go_wp2
    go_ret
    exact ⟨ret_b HO.out.symm, B1.out⟩
  · have hDI : ¬ (64 : Int) < (n.data.size : Int) := by omega
    have HDD : Hid (decide (n.data.size ≤ 64) = true) := decide_eq_true (show n.data.size ≤ 64 by omega)
    go_wp2_with fail
    refine (stat_any _ n.ver).mono ?_
    rintro e w2 ⟨rfl, rfl⟩
    cases h_ver : okS n.ver with
    | false =>
     have HO : Hid (okNd n = false) := by show _ = _; unfold okNd; rw [h_ver]; simp
     go_wp2
     go_ret
     exact ⟨ret_b HO.out.symm, B1.out⟩
    | true =>
     have H_ver : Hid (okS n.ver = true) := h_ver
     clear h_ver
     go_wp2_with fail
     refine (stat_any _ n.cver).mono ?_
     rintro e w2 ⟨rfl, rfl⟩
     cases h_cver : okS n.cver with
     | false =>
      have HO : Hid (okNd n = false) := by show _ = _; unfold okNd; rw [h_cver]; simp
      go_wp2
      go_ret
      exact ⟨ret_b HO.out.symm, B1.out⟩
     | true =>
      have H_cver : Hid (okS n.cver = true) := h_cver
      clear h_cver
      go_wp2_with fail
      refine (stat_any _ n.cz).mono ?_
      rintro e w2 ⟨rfl, rfl⟩
      cases h_cz : okS n.cz with
      | false =>
       have HO : Hid (okNd n = false) := by show _ = _; unfold okNd; rw [h_cz]; simp
       go_wp2
       go_ret
       exact ⟨ret_b HO.out.symm, B1.out⟩
      | true =>
       have H_cz : Hid (okS n.cz = true) := h_cz
       clear h_cz
       go_wp2_with fail
       refine (stat_any _ n.mz).mono ?_
       rintro e w2 ⟨rfl, rfl⟩
       cases h_mz : okS n.mz with
       | false =>
        have HO : Hid (okNd n = false) := by show _ = _; unfold okNd; rw [h_mz]; simp
        go_wp2
        go_ret
        exact ⟨ret_b HO.out.symm, B1.out⟩
       | true =>
        have H_mz : Hid (okS n.mz = true) := h_mz
        clear h_mz
        go_wp2_with fail
        refine (stat_any _ n.pz).mono ?_
        rintro e w2 ⟨rfl, rfl⟩
        cases h_pz : okS n.pz with
        | false =>
         have HO : Hid (okNd n = false) := by show _ = _; unfold okNd; rw [h_pz]; simp
         go_wp2
         go_ret
         exact ⟨ret_b HO.out.symm, B1.out⟩
        | true =>
         have H_pz : Hid (okS n.pz = true) := h_pz
         clear h_pz
         have HO : Hid (okNd n = true) := by show _ = _; unfold okNd; rw [HP.out, HDD.out, H_ver.out, H_cver.out, H_cz.out, H_mz.out, H_pz.out]; rfl
         go_wp2
         go_ret
         exact ⟨ret_b HO.out.symm, B1.out⟩
theorem implNode_any (w : World) (n : Nd) (hd : n.data.size ≤ 1048576) :
    Calls Tryz.prog 88 #[.agg #[.string n.path, .string n.data, .int .i64 n.ver, .int .i64 n.cver, .int .i64 n.cz, .int .i64 n.mz, .int .i64 n.pz]] w fun e w' => e = .returned (.bool (okNd n)) ∧ Below w.heap.size w w' := by
 have X0 : Hid (BoxN (w.alloc (.cells #[.string n.path, .string n.data, .int .i64 n.ver, .int .i64 n.cver, .int .i64 n.cz, .int .i64 n.mz, .int .i64 n.pz] 85)) w.heap.size n) := BoxN.new _ _ _
 have B0 : Hid (Below w.heap.size w (w.alloc (.cells #[.string n.path, .string n.data, .int .i64 n.ver, .int .i64 n.cver, .int .i64 n.cz, .int .i64 n.mz, .int .i64 n.pz] 85))) := (Below.refl _ _).alloc (Nat.le_refl _) _
 go_enter Tryz.func88, Tryz.ntmps88
 go_wp2_with fail
 generalize w.alloc (.cells #[.string n.path, .string n.data, .int .i64 n.ver, .int .i64 n.cver, .int .i64 n.cz, .int .i64 n.mz, .int .i64 n.pz] 85) = w0 at *
 refine (implPath_any _ n.path).mono ?_
 rintro e w1 ⟨rfl, b1⟩
 have B1 := hd9 (B0.out.trans (b1.mono B0.out.size))
 obtain ⟨-, c0, c1, c2, c3, c4, c5, c6⟩ := X0.out.below b1
 clear b1 X0 B0
 cases hP : okPath n.path with
 | false =>
  have HO : Hid (okNd n = false) := by show _ = _; unfold okNd; rw [hP]; simp
  go_wp2
  go_ret
  exact ⟨ret_b HO.out.symm, B1.out⟩
 | true =>
  have HP : Hid (okPath n.path = true) := hP
  clear hP
  by_cases hD : 64 < n.data.size
  · have hDI : (64 : Int) < (n.data.size : Int) := by omega
    have HO : Hid (okNd n = false) := by show _ = _; unfold okNd; rw [decide_eq_false (show ¬ n.data.size ≤ 64 by omega)]; simp
    go_wp2
    go_ret
    exact ⟨ret_b HO.out.symm, B1.out⟩
  · have hDI : ¬ (64 : Int) < (n.data.size : Int) := by omega
    have HDD : Hid (decide (n.data.size ≤ 64) = true) := decide_eq_true (show n.data.size ≤ 64 by omega)
    go_wp2_with fail
    refine (istat_any _ n.ver).mono ?_
    rintro e w2 ⟨rfl, rfl⟩
    cases h_ver : okS n.ver with
    | false =>
     have HO : Hid (okNd n = false) := by show _ = _; unfold okNd; rw [h_ver]; simp
     go_wp2
     go_ret
     exact ⟨ret_b HO.out.symm, B1.out⟩
    | true =>
     have H_ver : Hid (okS n.ver = true) := h_ver
     clear h_ver
     go_wp2_with fail
     refine (istat_any _ n.cver).mono ?_
     rintro e w2 ⟨rfl, rfl⟩
     cases h_cver : okS n.cver with
     | false =>
      have HO : Hid (okNd n = false) := by show _ = _; unfold okNd; rw [h_cver]; simp
      go_wp2
      go_ret
      exact ⟨ret_b HO.out.symm, B1.out⟩
     | true =>
      have H_cver : Hid (okS n.cver = true) := h_cver
      clear h_cver
      go_wp2_with fail
      refine (istat_any _ n.cz).mono ?_
      rintro e w2 ⟨rfl, rfl⟩
      cases h_cz : okS n.cz with
      | false =>
       have HO : Hid (okNd n = false) := by show _ = _; unfold okNd; rw [h_cz]; simp
       go_wp2
       go_ret
       exact ⟨ret_b HO.out.symm, B1.out⟩
      | true =>
       have H_cz : Hid (okS n.cz = true) := h_cz
       clear h_cz
       go_wp2_with fail
       refine (istat_any _ n.mz).mono ?_
       rintro e w2 ⟨rfl, rfl⟩
       cases h_mz : okS n.mz with
       | false =>
        have HO : Hid (okNd n = false) := by show _ = _; unfold okNd; rw [h_mz]; simp
        go_wp2
        go_ret
        exact ⟨ret_b HO.out.symm, B1.out⟩
       | true =>
        have H_mz : Hid (okS n.mz = true) := h_mz
        clear h_mz
        go_wp2_with fail
        refine (istat_any _ n.pz).mono ?_
        rintro e w2 ⟨rfl, rfl⟩
        cases h_pz : okS n.pz with
        | false =>
         have HO : Hid (okNd n = false) := by show _ = _; unfold okNd; rw [h_pz]; simp
         go_wp2
         go_ret
         exact ⟨ret_b HO.out.symm, B1.out⟩
        | true =>
         have H_pz : Hid (okS n.pz = true) := h_pz
         clear h_pz
         have HO : Hid (okNd n = true) := by show _ = _; unfold okNd; rw [HP.out, HDD.out, H_ver.out, H_cver.out, H_cz.out, H_mz.out, H_pz.out]; rfl
         go_wp2
         go_ret
         exact ⟨ret_b HO.out.symm, B1.out⟩
end Go.Proofs.YtcopcegamadkgaaGreatDoor


