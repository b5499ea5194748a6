import Derived.Test.YtmgolinleiahpaaLWrite
namespace Go.Proofs.Ytmgolinleiahpaa
open Go.RowKit

theorem lawWrite_row (w : World) (vd vp : Value) (dur : List Int) (ps : List (Int × List Int)) (h : InD w vd vp dur ps) (x : Int) (_hx : (Lit.int .i64 x).wf = true) (v : Value) (xs : List Int) (hb : Rd .u8 w v xs) (_hby : Byt xs) :
    Calls Try.prog 6 #[.agg #[vd, vp], .int .i64 x, v] w fun e w' => e = .returned (.bool true) ∧ Below w.heap.size w w' := lawWrite_walk w vd vp dur ps x v xs h hb

end Go.Proofs.Ytmgolinleiahpaa
