
/- 'FnExecuteDet' returns true for every input (a list of bytes), and its arguments read as before. Condition: eight package variables of the library read as their texts lay them when the call begins: the card ties them to the program's text. -/
import Derived.Test.YtpalgnfimelioaaGreatDoorLawEd
import Derived.Test.YtpalgnfimelioaaGreatDoorFactsG
import Derived.Test.YtpalgnfimelioaaGreatDoorFactsB
import Derived.Test.YtpalgnfimelioaaGreatDoorFactsC
import Derived.Test.YtpalgnfimelioaaGreatDoorFactsD
import Derived.Test.YtpalgnfimelioaaGreatDoorExDoor
import Derived.Test.YtpalgnfimelioaaGreatDoorCards
import Derived.Test.YtpalgnfimelioaaGreatDoorTie
import Derived.SevenTiedAt
import Derived.SevenTold
import Derived.Conc.Holds
import Derived.ProofKit
import Derived.OpenShut
import Derived.ShutString
import Derived.ChangeOld
import Derived.Lib.SmallJoins
namespace Go.Proofs.YtpalgnfimelioaaGreatDoor.fnExecuteDet
open Go.ChangeShapes Go.WideShapes Go.ChangeAt Go.RowKit Go.Joins
open Go.ChangeMaps (open_string shut_string)
set_option linter.unusedVariables false


set_option maxRecDepth 100000 in
theorem lifted (os : Os) (started : os.Started) (H : Type) (enc : TypeId × Value → H) :
    ReturnsInHanded {} Tryz.checked os 4 .any (fun w args => (Rows.fnExecuteDetSpec.pre enc Tryz.prog Tryz.f4 Rows.fnExecuteDetRow.domain false w args ∧ laidMetH Tryz.prog laidL8 w) ∧ sizedMet enc Tryz.prog Tryz.f4 (OpenSpec.ofChange Rows.fnExecuteDetSpec) false w args) (Rows.fnExecuteDetSpec.post enc Tryz.prog Tryz.f4 false true false false) := by
  refine returnsInHanded_of_change_and (C := Tryz.checked) (X := fun w _ => laidMetH Tryz.prog laidL8 w) (fun _ _ _ hh h => h.of_heap hh) pOwn started (by kernel_rfl) Tryz.func4
    (ChangeSpec.witness_at (enc := enc) (C := Tryz.checked) (os := os) (X := fun w _ => laidMetH Tryz.prog laidL8 w) false (laidWorld8 os) #[.slice none 0 0] 8 rfl (by kernel_rfl) (by kernel_rfl) (by kernel_rfl) (by kernel_rfl) (by kernel_rfl) (laidWorld8_met os _)) ?_
  intro W base args ds gs before hval0 hW hcnd _ hL _
  have hnd0 := tab_of_laid hL
  have hval : ∀ (j : Nat) t v, Tryz.f4.params[j]? = some t → args[j]? = some v → Value.okWide Tryz.prog W .any base t v := hval0
  have hW' := hW
  obtain ⟨p, q, hA0, hV, rfl, hfz, hnd⟩ := hW
  have hA : DataW.TrodAll enc Tryz.prog W 0 (fun _ => true) true Tryz.f4.params.toList args.toList ds p := hA0
  rw [Tryz.params4] at hA hval
  obtain ⟨v0, vs0, d0, ds0, p0, q0, hargs, rfl, rfl, h0, r0⟩ := trodAll_cons hA
  obtain ⟨rfl, rfl, rfl⟩ := trodAll_nil r0
  obtain rfl : args = #[v0] := by cases args; simp_all
  obtain ⟨rfl, rfl⟩ := trodVars_none hV
  obtain ⟨a0, len0, cap0, rfl⟩ := okWide_slice Tryz.underlying22 (hval 0 22 v0 rfl rfl)
  have k0 := h0
  have lt0 : ∀ x ∈ p0, x.block < W.heap.size := by obtain ⟨m, hm⟩ := k0; exact DataW.trod_lt m _ _ _ hm
  obtain ⟨z0, w0⟩ : ∃ zs, IsRow .u8 W a0 len0 cap0 zs := by
    obtain ⟨fuel, hf⟩ := h0
    rcases open_ints Tryz.underlying22 Tryz.underlying5 (by kernel_rfl) hf with ⟨hcs, _⟩ | ⟨x, l, c, zs, hcs, _, hl, hm, hz, _, hcell, hwz⟩
    · simp [Value.cells] at hcs
      obtain ⟨rfl, rfl, rfl⟩ := hcs
      exact ⟨[], .inl ⟨rfl, rfl, rfl, rfl⟩⟩
    · simp [Value.cells] at hcs
      obtain ⟨rfl, rfl, rfl⟩ := hcs
      exact ⟨zs, .inr ⟨_, rfl, hl, hm, by simpa using hz, hcell, hwz⟩⟩
  clear hA0 hval0
  refine (goExecuteDet a0 len0 cap0 z0 W hnd0 w0).mono fun e W' ⟨he, bel⟩ => ?_
  subst he
  exact ⟨_, rfl, _, _, _, [], _, [], hW', trodAll_mk1 (shut_bool Tryz.underlying4 _), (trodAll_cons_mk (Below.trod pLaid (by kernel_rfl) (of_decide_eq_true (by kernel_rfl)) k0 bel lt0) trodAll_mk0), rfl, bel.frame _, fun h => by cases h⟩

theorem c_inPlace : (Rows.fnExecuteDetRow.inPlace == Tryz.prog.inPlace 4) = true := by kernel_rfl
theorem c_unfollowed : (Rows.fnExecuteDetRow.unfollowed == Tryz.prog.unfollowed 4) = true := by kernel_rfl
theorem c_recurses : (Rows.fnExecuteDetRow.recurses == Tryz.prog.recurses 4) = true := by kernel_rfl
theorem c_named : (Rows.fnExecuteDetRow.named == Tryz.prog.varsNamed 4) = true := by kernel_rfl
theorem closed : joinedFacts Tryz.prog 4 Tryz.f4 Rows.fnExecuteDetSpec Rows.fnExecuteDetRow = true := by
  unfold joinedFacts
  simp only [Bool.and_eq_true]
  repeat' (refine And.intro ?_ ?_)
  · as_aux_lemma => kernel_rfl
  · exact pLaid
  · exact pMaps
  · as_aux_lemma => kernel_rfl
  · as_aux_lemma => kernel_rfl
  · rfl
  · exact pStops
  · rfl
  · exact pKnobs
  · exact c_inPlace
  · exact c_unfollowed
  · exact c_recurses
  · exact c_named
  · as_aux_lemma => kernel_rfl
  · as_aux_lemma => kernel_rfl
  · as_aux_lemma => kernel_rfl
  · as_aux_lemma => kernel_rfl
  · as_aux_lemma => kernel_rfl
  · as_aux_lemma => kernel_rfl
  · as_aux_lemma => kernel_rfl
  · as_aux_lemma => kernel_rfl
  · as_aux_lemma => kernel_rfl
  · exact pKeys
  · rfl
  · exact pHeard
  · exact pEnter
  · exact pLift
  · exact pMake
  · as_aux_lemma => kernel_rfl
  · as_aux_lemma => kernel_rfl
  · as_aux_lemma => kernel_rfl
  · as_aux_lemma => kernel_rfl
theorem over : Rows.fnExecuteDetRow.holds Tryz.pinned (OpenSpec.ofChange Rows.fnExecuteDetSpec) :=
  OpenClaim.holds_of_wide_leaving 4 Tryz.f4 rfl rfl rfl rfl rfl rfl rfl ⟨rfl, rfl, rfl, rfl, rfl⟩ rfl rfl rfl rfl rfl (by kernel_rfl) Tryz.func4 closed
    (of_decide_eq_true (by kernel_rfl)) (by unfold Func.isWrapper; first | (rw [if_pos (by decide +kernel)]; kernel_rfl) | (rw [if_neg (by decide +kernel)]; exact ⟨rfl, rfl⟩))
    (fun os started H enc _ => leaves_of_quiet (lifted os started H enc))

theorem isn : Claim7.isSixth { stood := { row := Rows.fnExecuteDetRow, standIns := [], harness := (true, "1e51421b8c9d176efb4cf9793c6a93e992455ea221c2303d4fd6697064608690"), looks := true }, kinds := [] } = false := by simp [Claim7.isSixth]
theorem hlk : ∀ f fn, Tryz.prog.funcNamed Rows.fnExecuteDetRow.func = some f → Tryz.prog.funcs[f]? = some fn → true = Tryz.prog.looks [] ∧ ∀ (j : Nat) t, fn.params[j]? = some t → Tryz.prog.wantsStandIn t = false := fun f fn hf hfn => by
  obtain rfl : f = 4 := Option.some.inj ((show Tryz.prog.funcNamed "loop.example/tworows/laws.FnExecuteDet" = some 4 by kernel_rfl).symm.trans hf) |>.symm
  obtain rfl : fn = Tryz.f4 := (Option.some.inj (Tryz.func4.symm.trans hfn)).symm
  exact ⟨by kernel_rfl, fun j t ht => by
    have hm : t ∈ Tryz.f4.params.toList := by simpa using Array.mem_of_getElem? ht
    have h3 := List.all_eq_true.1 (show (Tryz.f4.params.toList.all fun t => !Tryz.prog.wantsStandIn t) = true by kernel_rfl) t hm
    exact (show Tryz.prog.wantsStandIn t = false by simpa using h3)⟩
theorem goes : true = Rows.fnExecuteDetRow.goesBy Tryz.prog := by kernel_rfl
theorem wfText : Rows.fnExecuteDetRow.wfByText (OpenSpec.ofChange Rows.fnExecuteDetSpec) = true := by kernel_rfl
theorem mainIs_ : Tryz.prog.mainIs = some (true, "1e51421b8c9d176efb4cf9793c6a93e992455ea221c2303d4fd6697064608690".toList) := by kernel_rfl
theorem proved : Rows.FnExecuteDetCardSaid :=
  ⟨Claim7.tied_new_at .later [.data, .data, .data, .data, .handle, .sentinel, .sentinel, .pinned] true (Claim7.new_of_sixth over (true, "1e51421b8c9d176efb4cf9793c6a93e992455ea221c2303d4fd6697064608690") true rfl ⟨rfl, rfl⟩ mainIs_ isn hlk) wfText, (fun _ h => by cases h), fnExecuteDet_row_tie, (fun h => by cases h), goes⟩
end Go.Proofs.YtpalgnfimelioaaGreatDoor.fnExecuteDet
