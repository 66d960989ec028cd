
/- A walk of our own for a region that draws its order: loads are taken first under a condition on the world that every operation keeps but the last one (a store that may hit what is loaded); an operation whose guard is off is passed over. Of no program. -/
import Derived.Test.YtpalgnfimelioaaGreatDoorBase
import Derived.OrdersHeld
namespace Go.Proofs.YtpalgnfimelioaaGreatDoor
open Go.RowKit

section
variable {P : Program} {ops : Array Oper} {Q : Exit → Act → World → Prop} {md : Region.Mode} {S : World → Prop} {n : Nat}
/-- whatever order is picked; S holds behind every operation but number n -/
def wpT (P : Program) (md : Region.Mode) (ops : Array Oper) (Q : Exit → Act → World → Prop) (S : World → Prop) (n : Nat) : Nat → Array Bool → Act → World → Prop
  | 0, listed, a, w => Region.ready md ops listed = [] ∧ Q .normal a w
  | f + 1, listed, a, w => (Region.ready md ops listed = [] → Q .normal a w) ∧
    ∀ i ∈ Region.ready md ops listed, wpOp P ops Q i (fun a' w' => (i ≠ n → S w') ∧ wpT P md ops Q S n f (listed.setIfInBounds i true) a' w') a w
theorem wpAny_of_T : ∀ (f : Nat) (listed : Array Bool) (a : Act) (w : World), wpT P md ops Q S n f listed a w → wpAny P md ops Q f listed a w
  | 0, _, _, _, h => h
  | f + 1, _, _, _, h => ⟨h.1, fun i hi => wpOp_mono (fun a' w' k => wpAny_of_T f _ a' w' k.2) (h.2 i hi)⟩
theorem wp_region_T (S : World → Prop) (n : Nat) {id : Nat} {a : Act} {w : World} (hm : P.follows .mixedOrders = true) (h : wpT P .any ops Q S n ops.size (Array.replicate ops.size false) a w.drew) :
    (Code.region id ops true).wp P Q a w := wp_region_any hm (wpAny_of_T _ _ _ _ h)
theorem wp_region_T2 (S : World → Prop) (n : Nat) {id : Nat} {a : Act} {w : World} (hm : P.follows .mixedOrders = true) (hS : S w.drew) (h : S w.drew → wpT P .any ops Q S n ops.size (Array.replicate ops.size false) a w.drew) :
    (Code.region id ops true).wp P Q a w := wp_region_T S n hm (h hS)
/-- number n waits for number i -/
def sinkB (md : Region.Mode) (ops : Array Oper) (n i : Nat) : Bool := ((ops[n]?).map fun o => o.after.any fun e => Region.binds md e && e.on == i).getD true
theorem not_listed {listed : Array Bool} {i : Nat} (h : listed.getD i true = false) : listed.getD i false = false := by
  rcases Nat.lt_or_ge i listed.size with k | k
  · simp [k] at h ⊢; exact h
  · simp [Array.getElem?_eq_none k] at h
theorem wpT_first {i : Nat} {oi : Oper} {v : Value} (hi : ops[i]? = some oi) (hin : i ≠ n) (hsel : ∀ (j : Nat) (o : Oper) cs b, ops[j]? = some o → o.op ≠ .select cs b)
    (hQ : ∀ c a w, Q (.panic c) (a.put oi.dst v) w → Q (.panic c) a w) (hsink : sinkB md ops n i = true) :
    ∀ (f : Nat) (listed : Array Bool) (a : Act) (w : World),
      (∀ j oj, ops[j]? = some oj → j ≠ i → listed.getD j true = false → (∀ e ∈ oj.after, Region.binds md e = true → e.on ≠ i) → oi.apart ops oj = true) →
      i ∈ Region.ready md ops listed → YieldsIf P ops S oi v a → S w →
      wpT P md ops Q S n f (listed.setIfInBounds i true) (a.put oi.dst v) w → wpT P md ops Q S n (f + 1) listed a w := by
  intro f
  induction f with
  | zero =>
    intro listed a w _ hr hy hS H
    constructor
    · intro h; rw [h] at hr; cases hr
    · intro j hj
      by_cases e : j = i
      · subst e; exact hy.wpOp hi hS ⟨fun _ => hS, H⟩
      · have := ready_mono hj e
        rw [H.1] at this
        cases this
  | succ f ih =>
    intro listed a w hfree hr hy hS H
    constructor
    · intro h; rw [h] at hr; cases hr
    · intro j hj
      by_cases e : j = i
      · subst e; exact hy.wpOp hi hS ⟨fun _ => hS, H⟩
      · obtain ⟨hjun, oj, hoj, hall⟩ := mem_ready.1 hj
        have hun := not_listed (mem_ready.1 hr).1
        have hno : ∀ e ∈ oj.after, Region.binds md e = true → e.on ≠ i := by
          intro e he hb k
          have := hall e he hb
          rw [k, hun] at this
          cases this
        have hjn : j ≠ n := by
          rintro rfl
          simp only [sinkB, hoj, Option.map_some, Option.getD_some, Array.any_eq_true', Bool.and_eq_true, beq_iff_eq] at hsink
          obtain ⟨e, he, hb, ho⟩ := hsink
          exact hno e he hb ho
        have h1 := wpOp_putIf hoj (hfree j oj hoj e hjun hno) (fun cs b => hsel i oi cs b hi) (fun cs b => hsel j oj cs b hoj) hQ hy (H.2 j (ready_mono hj e))
        refine wpOp_mono (fun a' w' k => ⟨fun _ => k.2.1 hjn, ih (listed.setIfInBounds j true) a' w' ?_ (ready_mono hr (Ne.symm e)) k.1 (k.2.1 hjn) ?_⟩) h1
        · intro m om hm hmi hmu hmo
          refine hfree m om hm hmi ?_ hmo
          by_cases q : j = m
          · subst q; exact hjun
          · rw [getD_set_ne true q] at hmu; exact hmu
        · rw [Array.setIfInBounds_comm _ _ e]; exact k.2.2
theorem wpT_take {i : Nat} {oi : Oper} {v : Value} {f : Nat} {listed : Array Bool} {a : Act} {w : World} (hS : S w) (hi : ops[i]? = some oi)
    (hb : (Region.noSelect ops && Region.free md ops listed i && (Region.ready md ops listed).contains i && sinkB md ops n i && i != n) = true)
    (hw : Region.wanted oi (yielded ops a.tmps) = true) (hy : ∀ w, S w → (execOp a.eval oi).run P w = .ok (.value v) w)
    (hQ : ∀ c a w, Q (.panic c) (a.put oi.dst v) w → Q (.panic c) a w)
    (h : wpT P md ops Q S n f (listed.setIfInBounds i true) (a.put oi.dst v) w) : wpT P md ops Q S n (f + 1) listed a w := by
  simp only [Bool.and_eq_true] at hb
  exact wpT_first hi (by simpa using hb.2) (Region.noSelect_spec hb.1.1.1.1) hQ hb.1.2 f listed a w (Region.free_spec hi hb.1.1.1.2) (by simpa using hb.1.1.2) (.inl ⟨hw, hy⟩) hS h
/-- its guard is off -/
theorem wpT_pass {i : Nat} {oi : Oper} {f : Nat} {listed : Array Bool} {a : Act} {w : World} (hS : S w) (hi : ops[i]? = some oi)
    (hb : (Region.noSelect ops && Region.free md ops listed i && (Region.ready md ops listed).contains i && sinkB md ops n i && i != n) = true)
    (hw : Region.wanted oi (yielded ops a.tmps) = false)
    (hQ : ∀ c a w, Q (.panic c) (a.put oi.dst undef) w → Q (.panic c) a w)
    (h : wpT P md ops Q S n f (listed.setIfInBounds i true) (a.put oi.dst undef) w) : wpT P md ops Q S n (f + 1) listed a w := by
  simp only [Bool.and_eq_true] at hb
  exact wpT_first hi (by simpa using hb.2) (Region.noSelect_spec hb.1.1.1.1) hQ hb.1.2 f listed a w (Region.free_spec hi hb.1.1.1.2) (by simpa using hb.1.1.2) (.inr ⟨hw, rfl⟩) hS h
/-- one alone may come up, and it is carried out -/
theorem wpT_one {i : Nat} {oi : Oper} {f : Nat} {listed : Array Bool} {a : Act} {w : World} (hr : Region.ready md ops listed = [i]) (hi : ops[i]? = some oi)
    (hw : Region.wanted oi (yielded ops a.tmps) = true)
    (h : oi.wp P a w (fun a' w' => (i ≠ n → S w') ∧ wpT P md ops Q S n f (listed.setIfInBounds i true) a' w') Q) : wpT P md ops Q S n (f + 1) listed a w := by
  refine ⟨fun e => ?_, fun j hj => ?_⟩
  · rw [hr] at e; cases e
  · rw [hr] at hj
    obtain rfl : j = i := by simpa using hj
    unfold wpOp
    simp only [hi, hw, if_true]
    exact .inl h
/-- two may come up, in either order -/
theorem wpT_two {i j : Nat} {oi oj : Oper} {f : Nat} {listed : Array Bool} {a : Act} {w : World} (hr : Region.ready md ops listed = [i, j]) (hi : ops[i]? = some oi)
    (hw : Region.wanted oi (yielded ops a.tmps) = true) (hj : ops[j]? = some oj) (hwj : Region.wanted oj (yielded ops a.tmps) = true)
    (h : oi.wp P a w (fun a' w' => (i ≠ n → S w') ∧ wpT P md ops Q S n f (listed.setIfInBounds i true) a' w') Q)
    (k : oj.wp P a w (fun a' w' => (j ≠ n → S w') ∧ wpT P md ops Q S n f (listed.setIfInBounds j true) a' w') Q) : wpT P md ops Q S n (f + 1) listed a w := by
  refine ⟨fun e => ?_, fun m hm => ?_⟩
  · rw [hr] at e; cases e
  · rw [hr] at hm
    simp only [List.mem_cons, List.not_mem_nil, or_false] at hm
    rcases hm with rfl | rfl
    · unfold wpOp
      simp only [hi, hw, if_true]
      exact .inl h
    · unfold wpOp
      simp only [hj, hwj, if_true]
      exact .inl k
/-- three may come up, in any order -/
theorem wpT_three {i j m : Nat} {oi oj om : Oper} {f : Nat} {listed : Array Bool} {a : Act} {w : World} (hr : Region.ready md ops listed = [i, j, m]) (hi : ops[i]? = some oi)
    (hw : Region.wanted oi (yielded ops a.tmps) = true) (hj : ops[j]? = some oj) (hwj : Region.wanted oj (yielded ops a.tmps) = true) (hm : ops[m]? = some om) (hwm : Region.wanted om (yielded ops a.tmps) = true)
    (h : oi.wp P a w (fun a' w' => (i ≠ n → S w') ∧ wpT P md ops Q S n f (listed.setIfInBounds i true) a' w') Q)
    (k : oj.wp P a w (fun a' w' => (j ≠ n → S w') ∧ wpT P md ops Q S n f (listed.setIfInBounds j true) a' w') Q)
    (l : om.wp P a w (fun a' w' => (m ≠ n → S w') ∧ wpT P md ops Q S n f (listed.setIfInBounds m true) a' w') Q) : wpT P md ops Q S n (f + 1) listed a w := by
  refine ⟨fun e => ?_, fun x hx => ?_⟩
  · rw [hr] at e; cases e
  · rw [hr] at hx
    simp only [List.mem_cons, List.not_mem_nil, or_false] at hx
    rcases hx with rfl | rfl | rfl
    · unfold wpOp
      simp only [hi, hw, if_true]
      exact .inl h
    · unfold wpOp
      simp only [hj, hwj, if_true]
      exact .inl k
    · unfold wpOp
      simp only [hm, hwm, if_true]
      exact .inl l
theorem wpT_hold {f : Nat} {listed : Array Bool} {a : Act} {w : World} (h : S w) (k : S w → wpT P md ops Q S n f listed a w) : wpT P md ops Q S n f listed a w := k h
theorem wpT_done {listed : Array Bool} {a : Act} {w : World} (hr : Region.ready md ops listed = []) (h : Q .normal a w) : ∀ f, wpT P md ops Q S n f listed a w
  | 0 => ⟨hr, h⟩
  | _ + 1 => ⟨fun _ => h, by rw [hr]; simp⟩
end
theorem held_intro {A B : Prop} (h : A) (k : A → B) : A ∧ B := ⟨h, k h⟩
end Go.Proofs.YtpalgnfimelioaaGreatDoor
