
/- What the card's condition gives the walks of Execute: the library's table of powers of ten lies as its text lays it; a world that meets the condition; a call that ends quiet ends with none but leavers. -/
import Derived.Test.YtpalgnfimelioaaGreatDoorExC
import Derived.Test.YtpalgnfimelioaaGreatDoorRows
import Derived.LaidLaws
import Derived.LaidHandle
import Derived.Stop.Joined
import Derived.ChangeVars
import Derived.Lib.LaidTab
import Derived.Conc.Holds
namespace Go.Proofs.YtpalgnfimelioaaGreatDoor
open Go.RowKit

def laidD : List (String × DataW Unit) := [("math/bits.deBruijn32tab", Rows.laid_math_bits_deBruijn32tab), ("math/bits.deBruijn64tab", Rows.laid_math_bits_deBruijn64tab), ("internal/strconv.uint64pow10", Rows.laid_internal_strconv_uint64pow10), ("unicode/utf8.acceptRanges", Rows.laid_unicode_utf8_acceptRanges), ("strconv.ErrRange", Rows.laid_strconv_ErrRange), ("strconv.ErrSyntax", Rows.laid_strconv_ErrSyntax), ("unicode/utf8.first", Rows.laid_unicode_utf8_first)]
def laidL8 : List (String × DataW Unit) := [("math/bits.deBruijn32tab", Rows.laid_math_bits_deBruijn32tab), ("math/bits.deBruijn64tab", Rows.laid_math_bits_deBruijn64tab), ("internal/strconv.uint64pow10", Rows.laid_internal_strconv_uint64pow10), ("unicode/utf8.acceptRanges", Rows.laid_unicode_utf8_acceptRanges), ("errors.errorType", Rows.laid_errors_errorType), ("strconv.ErrRange", Rows.laid_strconv_ErrRange), ("strconv.ErrSyntax", Rows.laid_strconv_ErrSyntax), ("unicode/utf8.first", Rows.laid_unicode_utf8_first)]
theorem dSome : (laidL8.filter fun x => x.2.handleName?.isSome) = [("errors.errorType", Rows.laid_errors_errorType)] := by kernel_rfl
theorem dNone : (laidL8.filter fun x => x.2.handleName?.isNone) = laidD := by kernel_rfl
theorem dPow : Tryz.prog.globalNamed "internal/strconv.uint64pow10" = some 2 := by kernel_rfl
theorem dPowT : (Tryz.prog.globals[2]?).map (·.type) = some 294 := by kernel_rfl
theorem dPowIs : (Rows.laid_internal_strconv_uint64pow10 : DataW Unit) = Lib.tabData .u64 Lib.pow10Tab := by kernel_rfl
theorem tab_of_laid {W : World} (h : laidMetH Tryz.prog laidL8 W) : TabB W.heap.size W := by
  unfold laidMetH at h
  rw [dSome, dNone] at h
  obtain ⟨⟨ps, hv, _⟩, _⟩ := h
  obtain ⟨_, _, _, _, _, _, _, _, _, _, hv2, _⟩ := hv
  obtain ⟨_, _, _, _, _, _, _, _, _, _, hv3, _⟩ := hv2
  obtain ⟨g', t', cs, fuel, p, q, hg', ht', hvar, hd, _, _⟩ := hv3
  obtain rfl := Option.some.inj (dPow.symm.trans hg')
  obtain rfl := Option.some.inj (dPowT.symm.trans ht')
  rw [dPowIs] at hd
  refine Lib.tabBelow_of_tabIs ?_
  unfold Lib.TabIs
  rw [hvar, ← Lib.cells_of_tab Tryz.underlying294 Tryz.underlying180 (by kernel_rfl) (by kernel_rfl) hd]

/-- the cells that such a datum reads from: numbers, or rows of numbers -/
def numOf (d : DataW Unit) : List Value := match d with | .lit (.int k z) => [.int k z] | _ => []
def rowOf (d : DataW Unit) : List Value := match d with | .agg xs => xs.flatMap numOf | _ => []
def cellsAs (d : DataW Unit) : Array Value := match d with | .agg xs => (xs.flatMap fun x => numOf x ++ rowOf x).toArray | _ => #[]
def put (cs : Array Value) (o : Obj) : Obj := match o with | .cells _ t frozen => .cells cs t frozen | o => o
/-- a world that meets the condition: the settled one, the variables' cells laid -/
noncomputable def laidWorld8 (os : Os) : World :=
  let w0 := World.holding Tryz.prog os ⟨#[], #[], []⟩
  let n := w0.heap.size
  { w0 with heap := (((((((((w0.heap.modify 1 (put #[.iface 246 (.agg #[typeHandle Tryz.prog 61])])).modify 2 (put (cellsAs Rows.laid_internal_strconv_uint64pow10))).modify 3 (put (cellsAs Rows.laid_unicode_utf8_first))).modify 4 (put (cellsAs Rows.laid_unicode_utf8_acceptRanges))).modify 5 (put #[.iface 316 (.pointer (some ⟨n + 1, 0, none⟩))])).modify 6 (put #[.iface 316 (.pointer (some ⟨n, 0, none⟩))])).modify 7 (put (cellsAs Rows.laid_math_bits_deBruijn32tab))).modify 8 (put (cellsAs Rows.laid_math_bits_deBruijn64tab))).push (.cells #[.string ⟨#[118, 97, 108, 117, 101, 32, 111, 117, 116, 32, 111, 102, 32, 114, 97, 110, 103, 101]⟩] 318 (0, 0))).push (.cells #[.string ⟨#[105, 110, 118, 97, 108, 105, 100, 32, 115, 121, 110, 116, 97, 120]⟩] 318 (0, 0)) }
theorem laidWorld8_met (os : Os) (args : Array Value) : laidMetH Tryz.prog laidL8 ((laidWorld8 os).forCall (fun _ _ => 0) ⟨#[], args, []⟩).memory :=
  laidMetH_of_parts (by rw [dNone]; exact laidMet_of_run' 8 (by kernel_rfl) (by kernel_rfl)) (by kernel_rfl)

theorem finished_of {g : Goroutine} (h : (g.status == .finished) = true) : g.status = .finished := by
  revert h
  cases g.status <;> intro h <;> first | rfl | exact absurd h (by decide) | simp at h
theorem leaves_of_quiet {a : Assume} {C : Checked} {os : Os} {f : FuncId} {r : Reach} {Pre : World → Array Value → Prop} {Post : World → Array Value → Value → World → Prop}
    (h : ReturnsInHanded a C os f r Pre Post) : ReturnsInLeavingWide a C os f r Pre Post := fun enter =>
  ReturnsInOpen.mono (fun _ _ _ ⟨hq, hh, he⟩ => ⟨hh, ⟨fun g hg => ⟨0, finished_of (List.all_eq_true.1 hq.1 g hg)⟩, hq.2⟩, he⟩) (fun _ x => x) (h enter)
end Go.Proofs.YtpalgnfimelioaaGreatDoor
