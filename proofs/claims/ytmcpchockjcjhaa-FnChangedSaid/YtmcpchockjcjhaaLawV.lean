
/- The exact laws on words changed and backwards, walked. -/
import Derived.Test.YtmcpchockjcjhaaSpecC2
namespace Go.Proofs.Ytmcpchockjcjhaa
open Go.RowKit

theorem WordChanged' (s : ByteArray) (hs : s.size ≤ 9223372036854775807) (w : World) : Calls Try.prog 25 #[.string s] w (fun E' W' => E' = .returned (.tuple #[.string (wch s.data.toList).1, .bool (wch s.data.toList).2]) ∧ Below w.heap.size w W') := by
  have h := WordChanged_ s hs w
  unfold wch
  cases e : wdL s.data.toList <;> simpa [e] using h
end Go.Proofs.Ytmcpchockjcjhaa
