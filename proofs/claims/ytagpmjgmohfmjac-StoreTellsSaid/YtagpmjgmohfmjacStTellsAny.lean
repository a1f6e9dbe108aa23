/- The walk of the law StoreTells, for whatever numbers. -/
import Derived.Test.YtagpmjgmohfmjacStTellsOk
import Derived.Test.YtagpmjgmohfmjacStTellsLo
import Derived.Test.YtagpmjgmohfmjacStTellsHi
namespace Go.Proofs.Ytagpmjgmohfmjac
open Go.RowKit

theorem tellsSt_any (v : Value) (fs : List Fl) (cnt k x n : Int) (w : World) (hv : FilesAt w v fs) :
    Calls Try.prog 4 #[.agg #[v, .int .i64 cnt], .int .i64 k, .int .i64 x, .int .i64 n] w fun e w' => e = .returned (.bool true) ∧ Grew w w' := by
  by_cases h0 : n < 0
  · exact tellsLo_any v fs cnt k x n h0 w hv
  · by_cases h1 : 80 < n
    · exact tellsHi_any v fs cnt k x n h1 w hv
    · exact tellsOk_any v fs cnt k x n (by omega) (by omega) w hv

end Go.Proofs.Ytagpmjgmohfmjac
