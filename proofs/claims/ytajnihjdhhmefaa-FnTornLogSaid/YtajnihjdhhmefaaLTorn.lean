import Derived.Test.YtajnihjdhhmefaaTornWalk
import Derived.Test.YtajnihjdhhmefaaTornWalk0
namespace Go.Proofs.Ytajnihjdhhmefaa
open Go.RowKit

set_option maxHeartbeats 400000 in
set_option maxRecDepth 100000 in
theorem lawTorn_big (w : World) (ca am : Option Addr) (N cc m cm : Nat) (h : 1048576 < N ∨ 1048576 < m) :
    Calls Try.prog 3 #[.slice ca N cc, .slice am m cm] w fun e w' => e = .returned (.bool true) ∧ Below w.heap.size w w' := by
  by_cases h1 : 1048576 < N
  · have hI : (1048576 : Int) < (N : Int) := by omega
    go_enter Try.func3, Try.ntmps3
    go_wp2
    go_ret
    exact ⟨rfl, Below.refl _ _⟩
  · have hI : ¬ (1048576 : Int) < (N : Int) := by omega
    have hI2 : (1048576 : Int) < (m : Int) := by omega
    go_enter Try.func3, Try.ntmps3
    go_wp2
    go_ret
    exact ⟨rfl, Below.refl _ _⟩

theorem lawTorn_walk (w : World) (v : Value) (xs : List Int) (h : Rd .u8 w v xs) (hby : Byt xs) (u : Value) (ms : List Int) (hm : Rd .u8 w u ms) (hmy : Byt ms) :
    Calls Try.prog 3 #[v, u] w fun e w' => e = .returned (.bool true) ∧ Below w.heap.size w w' := by
  obtain ⟨am, cm, rfl, hm1, hm2⟩ := hm.len
  have h' := h
  obtain ⟨ca, cc, rfl, h1, h2, h3⟩ := h'
  by_cases hb : 1048576 < xs.length ∨ 1048576 < ms.length
  · exact lawTorn_big w ca am _ cc _ cm hb
  · rcases h3 with rfl | ⟨b, o, rfl, -, -⟩
    · exact lawTorn_core0 w ca _ cc am cm _ ms rfl hm hmy rfl (by omega)
    · exact lawTorn_core w b o _ cc am cm _ xs ms rfl (by omega) h hby hm hmy rfl (by omega)

end Go.Proofs.Ytajnihjdhhmefaa
