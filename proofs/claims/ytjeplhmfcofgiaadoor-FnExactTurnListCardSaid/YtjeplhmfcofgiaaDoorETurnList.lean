
/- 'FnExactTurnList' returns true for every input (four numbers), and its arguments read as before. Condition: package errors' variable 'errorType' holds the handle of the type 'error' when the call begins: the card ties it to the program's text. -/
import Derived.Test.YtjeplhmfcofgiaaDoorTurnE
import Derived.Test.YtjeplhmfcofgiaaDoorFactsA
import Derived.Test.YtjeplhmfcofgiaaDoorFactsB
import Derived.Test.YtjeplhmfcofgiaaDoorFactsC
import Derived.Test.YtjeplhmfcofgiaaDoorFactsD
import Derived.Test.YtjeplhmfcofgiaaDoorDoor
import Derived.Test.YtjeplhmfcofgiaaDoorCards
import Derived.Test.YtjeplhmfcofgiaaDoorTie
import Derived.SevenTiedAt
import Derived.ProofKit
import Derived.OpenShut
import Derived.ShutString
import Derived.ChangeOld
import Derived.Lib.SmallJoins
namespace Go.Proofs.YtjeplhmfcofgiaaDoor.fnExactTurnList
open Go.ChangeShapes Go.WideShapes Go.ChangeAt Go.RowKit Go.Joins
open Go.ChangeMaps (open_string shut_string)
set_option linter.unusedVariables false

theorem cells_mat : Tryd.prog.cellsOf 31 = 4 := by kernel_rfl

set_option maxRecDepth 100000 in
theorem lifted (os : Os) (started : os.Started) (H : Type) (enc : TypeId × Value → H) :
    ReturnsInHanded {} Tryd.checked os 4 .any (fun w args => (Rows.fnExactTurnListSpec.pre enc Tryd.prog Tryd.f4 Rows.fnExactTurnListRow.domain false w args ∧ laidMetH Tryd.prog laidL w) ∧ sizedMet enc Tryd.prog Tryd.f4 (OpenSpec.ofChange Rows.fnExactTurnListSpec) false w args) (Rows.fnExactTurnListSpec.post enc Tryd.prog Tryd.f4 false true false false) := by
  refine returnsInHanded_of_change_and (C := Tryd.checked) (X := fun w _ => laidMetH Tryd.prog laidL w) (fun _ _ _ hh h => h.of_heap hh) pOwn started (by kernel_rfl) Tryd.func4
    (ChangeSpec.witness_at (enc := enc) (C := Tryd.checked) (os := os) (X := fun w _ => laidMetH Tryd.prog laidL w) false (laidWorld os) #[.agg #[.int .i64 0, .int .i64 0, .int .i64 0, .int .i64 0]] 8 rfl (by kernel_rfl) (by kernel_rfl) (by kernel_rfl) (by kernel_rfl) (by kernel_rfl) (laidWorld_met os _)) ?_
  intro W base args ds gs before hval0 hW hcnd _ hL _
  have hnd0 := hnd_of_laid hL
  have hval : ∀ (j : Nat) t v, Tryd.f4.params[j]? = some t → args[j]? = some v → Value.okWide Tryd.prog W .any base t v := hval0
  have hW' := hW
  obtain ⟨p, q, hA0, hV, rfl, hfz, hnd⟩ := hW
  have hA : DataW.TrodAll enc Tryd.prog W 0 (fun _ => true) true Tryd.f4.params.toList args.toList ds p := hA0
  rw [Tryd.params4] at hA hval
  obtain ⟨v0, vs0, d0, ds0, p0, q0, hargs, rfl, rfl, h0, r0⟩ := trodAll_cons hA
  obtain ⟨rfl, rfl, rfl⟩ := trodAll_nil r0
  obtain rfl : args = #[v0] := by cases args; simp_all
  obtain ⟨rfl, rfl⟩ := trodVars_none hV
  obtain ⟨c0a, c0b, c0c, c0d, y0a, y0b, y0c, y0d, m0, rfl, rfl, rfl, hy0a, hy0b, hy0c, hy0d⟩ := open_agg4 Tryd.underlying31 (by kernel_rfl) cells_mat (hval 0 31 v0 rfl rfl) h0
  obtain ⟨a0a, e0a, rfl, w0a⟩ := DataW.trod_int Tryd.underlying3 hy0a
  obtain ⟨a0b, e0b, rfl, w0b⟩ := DataW.trod_int Tryd.underlying3 hy0b
  obtain ⟨a0c, e0c, rfl, w0c⟩ := DataW.trod_int Tryd.underlying3 hy0c
  obtain ⟨a0d, e0d, rfl, w0d⟩ := DataW.trod_int Tryd.underlying3 hy0d
  simp at e0a e0b e0c e0d
  subst e0a e0b e0c e0d
  have sr0 : ∀ (W' : World) (sp : Nat → Bool), DataW.Trod enc Tryd.prog W' 0 sp true 31 (.agg #[.int .i64 a0a, .int .i64 a0b, .int .i64 a0c, .int .i64 a0d]) (.agg [.lit (.int .i64 a0a), .lit (.int .i64 a0b), .lit (.int .i64 a0c), .lit (.int .i64 a0d)]) [] := fun W' sp =>
    shut_agg4 (y0 := (.lit (.int .i64 a0a), [])) (y1 := (.lit (.int .i64 a0b), [])) (y2 := (.lit (.int .i64 a0c), [])) (y3 := (.lit (.int .i64 a0d), [])) Tryd.underlying31 (by kernel_rfl) cells_mat ⟨1, by simp [DataW.trod, Tryd.underlying3, w0a]⟩ ⟨1, by simp [DataW.trod, Tryd.underlying3, w0b]⟩ ⟨1, by simp [DataW.trod, Tryd.underlying3, w0c]⟩ ⟨1, by simp [DataW.trod, Tryd.underlying3, w0d]⟩
  clear hA0 hval0
  refine (goTurnList a0a a0b a0c a0d W hnd0).mono fun e W' ⟨he, bel⟩ => ?_
  subst he
  exact ⟨_, rfl, _, _, _, [], _, [], hW', trodAll_mk1 (shut_bool Tryd.underlying4 _), (trodAll_cons_mk (sr0 _ _) trodAll_mk0), rfl, bel.frame _, fun h => by cases h⟩

theorem closed : joinedFacts Tryd.prog 4 Tryd.f4 Rows.fnExactTurnListSpec Rows.fnExactTurnListRow = true := by
  unfold joinedFacts
  simp only [Bool.and_eq_true]
  repeat' (refine And.intro ?_ ?_)
  · as_aux_lemma => kernel_rfl
  · exact pLaid
  · exact pMaps
  · as_aux_lemma => kernel_rfl
  · as_aux_lemma => kernel_rfl
  · rfl
  · exact pStops
  · rfl
  · exact pKnobs
  · as_aux_lemma => kernel_rfl
  · as_aux_lemma => kernel_rfl
  · as_aux_lemma => kernel_rfl
  · as_aux_lemma => kernel_rfl
  · as_aux_lemma => kernel_rfl
  · as_aux_lemma => kernel_rfl
  · as_aux_lemma => kernel_rfl
  · as_aux_lemma => kernel_rfl
  · as_aux_lemma => kernel_rfl
  · as_aux_lemma => kernel_rfl
  · as_aux_lemma => kernel_rfl
  · as_aux_lemma => kernel_rfl
  · as_aux_lemma => kernel_rfl
  · exact pKeys
  · rfl
  · exact pHeard
  · exact pEnter
  · exact pLift
  · exact pMake
  · as_aux_lemma => kernel_rfl
  · as_aux_lemma => kernel_rfl
  · as_aux_lemma => kernel_rfl
  · as_aux_lemma => kernel_rfl
theorem over : Rows.fnExactTurnListRow.holds Tryd.pinned (OpenSpec.ofChange Rows.fnExactTurnListSpec) :=
  OpenClaim.holds_of_wide 4 Tryd.f4 rfl rfl rfl rfl rfl rfl rfl ⟨rfl, rfl, rfl, rfl, rfl⟩ rfl rfl rfl rfl rfl (by kernel_rfl) Tryd.func4 closed
    (of_decide_eq_true (by kernel_rfl)) (by unfold Func.isWrapper; first | (rw [if_pos (by decide +kernel)]; kernel_rfl) | (rw [if_neg (by decide +kernel)]; exact ⟨rfl, rfl⟩))
    (fun os started H enc _ => lifted os started H enc)

theorem proved : Rows.FnExactTurnListCardSaid :=
  Claim7.holds_tied_plain_at .later [] [.handle] true (true, "4798eee84a5e49dcb2efa06b5c93a29eb3cbeac339d18cec9ff3cfde8cd6f882") true
    over (fun _ h => by cases h) (by kernel_rfl) (fun _ h => by cases h) fnExactTurnList_row_tie rfl ⟨rfl, rfl⟩ (by kernel_rfl) rfl
    (fun f fn hf hfn => by
      obtain rfl : f = 4 := Option.some.inj ((show Tryd.prog.funcNamed "loop.example/tworows/laws.FnExactTurnList" = some 4 by kernel_rfl).symm.trans hf) |>.symm
      obtain rfl : fn = Tryd.f4 := (Option.some.inj (Tryd.func4.symm.trans hfn)).symm
      exact ⟨by kernel_rfl, fun j t ht => by
        have hm : t ∈ Tryd.f4.params.toList := by simpa using Array.mem_of_getElem? ht
        have h3 := List.all_eq_true.1 (show (Tryd.f4.params.toList.all fun t => !Tryd.prog.wantsStandIn t) = true by kernel_rfl) t hm
        exact (show Tryd.prog.wantsStandIn t = false by simpa using h3)⟩)
    (by kernel_rfl)
end Go.Proofs.YtjeplhmfcofgiaaDoor.fnExactTurnList
