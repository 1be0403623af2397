/- Layer 11's code by contracts, as the laws ask for them. -/
import Derived.Test.YtfangllkfcmefaaGreatRdF
namespace Go.Proofs.YtfangllkfcmefaaGreat.W
open Go.RowKit Go.Sort
set_option linter.unusedVariables false
theorem hstart_any (p : Pm) (t : p.Typed) (now draw : Int) (n0 : -9223372036854775808 ≤ now) (n1 : now ≤ 9223372036854775807) (d0 : 0 ≤ draw) (d1 : draw < 4294967296) (w : World) :
    Calls Tryz.prog 17 #[p.val, .int .i64 now, .int .u32 draw] w fun e w' => e = .returned (startS p now draw).val ∧ Below w.heap.size w w' := gstart_any p now draw n0 n1 d0 d1 w
theorem hsent_any (p : Pm) (t : p.Typed) (s : Rs) (st : s.Typed) (now draw : Int) (n0 : -9223372036854775808 ≤ now) (n1 : now ≤ 9223372036854775807) (d0 : 0 ≤ draw) (d1 : draw < 4294967296) (w : World) :
    Calls Tryz.prog 5 #[p.val, s.val, .int .i64 now, .int .u32 draw] w fun e w' => e = .returned (sentS p s now draw).val ∧ Below w.heap.size w w' := by
  by_cases h : 0 < s.burst
  · exact gsent_burst p t s st now draw n0 n1 d0 d1 h w
  · exact gsent_idle p t s st now draw n0 n1 d0 d1 h w
theorem hheard_any (p : Pm) (t : p.Typed) (s : Rs) (st : s.Typed) (poll : Int) (n0 : -9223372036854775808 ≤ poll) (n1 : poll ≤ 9223372036854775807) (w : World) :
    Calls Tryz.prog 16 #[p.val, s.val, .int .i64 poll] w fun e w' => e = .returned (heardS p s poll).val ∧ Below w.heap.size w w' := gheard_any p s st poll w
theorem hpoll_any (p : Pm) (t : p.Typed) (s : Rs) (st : s.Typed) (w : World) :
    Calls Tryz.prog 20 #[p.val, s.val] w fun e w' => e = .returned (.int .i64 (pollS p s)) ∧ Below w.heap.size w w' := gpoll_any p s w
theorem hdue_any (s : Rs) (st : s.Typed) (now : Int) (n0 : -9223372036854775808 ≤ now) (n1 : now ≤ 9223372036854775807) (w : World) :
    Calls Tryz.prog 19 #[s.val, .int .i64 now] w fun e w' => e = .returned (.bool (decide (s.next ≤ now))) ∧ Below w.heap.size w w' := gdue_any s now w
theorem hans_any (s : Rs) (st : s.Typed) (w : World) :
    Calls Tryz.prog 18 #[s.val] w fun e w' => e = .returned (.int .i64 (ansI s)) ∧ Below w.heap.size w w' := gans_any s st w
end Go.Proofs.YtfangllkfcmefaaGreat.W
