
/- The program's double forms and joins, walked. No condition on what is exported. -/
import Derived.Test.YtkihoccfmjigiaaLaE
import Derived.Test.YtkihoccfmjigiaaLaQ
namespace Go.Proofs.Ytkihoccfmjigiaa
open Go.RowKit

def mDouble (m : M) : (Int × Int) × Bool := if inB m && numB (dbl m).2 then (dbl m, true) else ((0, 0), false)
theorem run_fieldL (a b c d : Int) (W : World) : (Instr.field 39 (.agg #[.int .i64 a, .int .i64 b, .int .i64 c, .int .i64 d]) 0).run Try.prog W = .ok (.agg #[.int .i64 a, .int .i64 b, .int .i64 c, .int .i64 d]) W := by
  first | rfl | (go_simp; done) | (simp [Instr.field, go_sem]; done) | go_show
noncomputable def mJoin (m n : M) : M × Bool := if ltB 100 m && ltB 100 n then (jnM (nf m) (nf n), true) else (zm, false)
end Go.Proofs.Ytkihoccfmjigiaa
