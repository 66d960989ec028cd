
/- The two lists of necklaces with a trace are one: plain. -/
import Derived.Test.YthpbdcookhpdaaaNecN
namespace Go.Proofs.Ythpbdcookhpdaaa
open Go.RowKit Go.Lib

/-- shorter, or of one length and ahead as texts -/
def slB (x y : List UInt8) : Bool := decide (x.length < y.length) || (decide (x.length = y.length) && bl x y)
theorem slB_iff {x y : List UInt8} : slB x y = true ↔ sl x y := by simp [slB, sl]
theorem sl_irr (x : List UInt8) : ¬ sl x x := by
  rintro (h | ⟨_, h⟩)
  · omega
  · rw [bl_irr] at h; cases h
theorem sl_trans {x y z : List UInt8} (h1 : sl x y) (h2 : sl y z) : sl x z := by
  rcases h1 with h1 | ⟨h1, h3⟩ <;> rcases h2 with h2 | ⟨h2, h4⟩
  · exact .inl (by omega)
  · exact .inl (by omega)
  · exact .inl (by omega)
  · exact .inr ⟨by omega, bl_trans h3 h4⟩
theorem sl_tot (x y : List UInt8) : sl x y ∨ x = y ∨ sl y x := by
  rcases Nat.lt_trichotomy x.length y.length with h | h | h
  · exact .inl (.inl h)
  · rcases bl_tot x y with h2 | h2 | h2
    · exact .inl (.inr ⟨h, h2⟩)
    · exact .inr (.inl h2)
    · exact .inr (.inr (.inr ⟨h.symm, h2⟩))
  · exact .inr (.inr (.inl h))
/-- where x goes, looked for from place k down -/
def bkN (L : List (List UInt8)) (x : List UInt8) : Nat → Nat
  | 0 => 0
  | k + 1 => if slB x (L.getD k []) then bkN L x k else k + 1
theorem bkN_le (L : List (List UInt8)) (x : List UInt8) : ∀ k, bkN L x k ≤ k
  | 0 => Nat.le_refl _
  | k + 1 => by
    unfold bkN
    split
    · exact Nat.le_succ_of_le (bkN_le L x k)
    · exact Nat.le_refl _
theorem bkN_aft (L : List (List UInt8)) (x : List UInt8) : ∀ k j, bkN L x k ≤ j → j < k → slB x (L.getD j []) = true
  | 0, j, _, h => by omega
  | k + 1, j, h, h2 => by
    unfold bkN at h
    split at h
    · rename_i h3
      rcases Nat.lt_or_ge j k with h4 | h4
      · exact bkN_aft L x k j h h4
      · rw [show j = k from by omega]; exact h3
    · omega
theorem bkN_at (L : List (List UInt8)) (x : List UInt8) : ∀ k, 0 < bkN L x k → slB x (L.getD (bkN L x k - 1) []) = false
  | 0, h => by simp [bkN] at h
  | k + 1, h => by
    by_cases h3 : slB x (L.getD k []) = true
    · have e : bkN L x (k + 1) = bkN L x k := by rw [bkN, if_pos h3]
      rw [e] at h ⊢
      exact bkN_at L x k h
    · have e : bkN L x (k + 1) = k + 1 := by rw [bkN, if_neg h3]
      rw [e]
      simpa using h3
def plc (L : List (List UInt8)) (x : List UInt8) : Nat := bkN L x L.length
def putN (L : List (List UInt8)) (x : List UInt8) : List (List UInt8) := if 0 < plc L x ∧ L.getD (plc L x - 1) [] = x then L else L.take (plc L x) ++ [x] ++ L.drop (plc L x)
theorem getD_mem {L : List (List UInt8)} {j : Nat} (h : j < L.length) : L.getD j [] ∈ L := by
  simp [List.getD, h]
theorem mem_putN (L : List (List UInt8)) (x y : List UInt8) : y ∈ putN L x ↔ y ∈ L ∨ y = x := by
  have hle : plc L x ≤ L.length := bkN_le L x _
  unfold putN
  split
  · rename_i h
    constructor
    · exact .inl
    · rintro (h2 | rfl)
      · exact h2
      · have := getD_mem (L := L) (j := plc L y - 1) (by omega)
        rwa [h.2] at this
  · have h0 : y ∈ L ↔ y ∈ L.take (plc L x) ∨ y ∈ L.drop (plc L x) := by
      rw [← List.mem_append, List.take_append_drop]
    rw [h0]
    simp only [List.mem_append, List.mem_singleton]
    constructor
    · rintro ((h | h) | h)
      · exact .inl (.inl h)
      · exact .inr h
      · exact .inl (.inr h)
    · rintro ((h | h) | h)
      · exact .inl (.inl h)
      · exact .inr h
      · exact .inl (.inr h)
theorem pw_get {L : List (List UInt8)} (h : L.Pairwise sl) {i j : Nat} (hij : i < j) (hj : j < L.length) : sl (L.getD i []) (L.getD j []) := by
  have := List.pairwise_iff_getElem.1 h i j (by omega) hj hij
  simpa [List.getD, hj, (show i < L.length by omega)] using this
theorem putN_sorted {L : List (List UInt8)} (h : L.Pairwise sl) (x : List UInt8) : (putN L x).Pairwise sl := by
  have hle : plc L x ≤ L.length := bkN_le L x _
  unfold putN
  split
  · exact h
  · rename_i hn
    have hp := List.pairwise_append.1 (show (L.take (plc L x) ++ L.drop (plc L x)).Pairwise sl by rw [List.take_append_drop]; exact h)
    have haft : ∀ y ∈ L.drop (plc L x), sl x y := by
      intro y hy
      obtain ⟨i, hi, rfl⟩ := List.getElem_of_mem hy
      rw [List.length_drop] at hi
      have := bkN_aft L x L.length (plc L x + i) (Nat.le_add_right _ _) (by omega)
      rw [slB_iff] at this
      rw [List.getElem_drop]
      simpa [List.getD, (show plc L x + i < L.length by omega)] using this
    have hbef : ∀ y ∈ L.take (plc L x), sl y x := by
      intro y hy
      obtain ⟨i, hi, rfl⟩ := List.getElem_of_mem hy
      rw [List.length_take] at hi
      have hpos : 0 < plc L x := by omega
      have h1 := bkN_at L x L.length hpos
      have h2 : sl (L.getD (plc L x - 1) []) x := by
        rcases sl_tot x (L.getD (plc L x - 1) []) with h3 | h3 | h3
        · rw [← slB_iff] at h3
          have h1' : slB x (L.getD (plc L x - 1) []) = false := h1
          rw [h3] at h1'; cases h1'
        · exact absurd ⟨hpos, h3.symm⟩ hn
        · exact h3
      rw [List.getElem_take]
      have e : L[i] = L.getD i [] := by simp [List.getD, (show i < L.length by omega)]
      rw [e]
      rcases Nat.lt_or_ge i (plc L x - 1) with h4 | h4
      · exact sl_trans (pw_get h h4 (by omega)) h2
      · rw [show i = plc L x - 1 from by omega]; exact h2
    refine List.pairwise_append.2 ⟨List.pairwise_append.2 ⟨hp.1, by simp, ?_⟩, hp.2.1, ?_⟩
    · intro a ha b hb
      rw [List.mem_singleton] at hb
      rw [hb]; exact hbef a ha
    · intro a ha b hb
      rcases List.mem_append.1 ha with h1 | h1
      · exact hp.2.2 a h1 b hb
      · rw [List.mem_singleton] at h1
        rw [h1]; exact haft b hb
theorem putN_len (L : List (List UInt8)) (x : List UInt8) : (putN L x).length ≤ L.length + 1 := by
  have hle : plc L x ≤ L.length := bkN_le L x _
  unfold putN
  split
  · omega
  · simp; omega
/-- the model's list of the words -/
def modN (ws : List (List UInt8)) : List (List UInt8) := ws.foldl (fun L v => putN L (nk v)) []
theorem modN_snoc (ws : List (List UInt8)) (v : List UInt8) : modN (ws ++ [v]) = putN (modN ws) (nk v) := by simp [modN]
theorem modN_sorted (ws : List (List UInt8)) : (modN ws).Pairwise sl := by
  induction ws using rev_ind with
  | h0 => simp [modN]
  | h1 ws v ih => rw [modN_snoc]; exact putN_sorted ih _
theorem mem_modN (ws : List (List UInt8)) (x : List UInt8) : x ∈ modN ws ↔ ∃ v ∈ ws, x = nk v := by
  induction ws using rev_ind with
  | h0 => simp [modN]
  | h1 ws v ih =>
    rw [modN_snoc, mem_putN, ih]
    constructor
    · rintro (⟨u, hu, rfl⟩ | rfl)
      · exact ⟨u, by simp [hu], rfl⟩
      · exact ⟨v, by simp, rfl⟩
    · rintro ⟨u, hu, rfl⟩
      rcases List.mem_append.1 hu with h | h
      · exact .inl ⟨u, h, rfl⟩
      · rw [List.mem_singleton] at h
        exact .inr (by rw [h])
theorem modN_len (ws : List (List UInt8)) : (modN ws).length ≤ ws.length := by
  induction ws using rev_ind with
  | h0 => simp [modN]
  | h1 ws v ih =>
    rw [modN_snoc, List.length_append, List.length_singleton]
    exact Nat.le_trans (putN_len _ _) (Nat.succ_le_succ ih)
theorem sl_one {A B : List (List UInt8)} (ha : A.Pairwise sl) (hb : B.Pairwise sl) (hm : ∀ x, x ∈ A ↔ x ∈ B) : A = B := by
  have nd : ∀ {L : List (List UInt8)}, L.Pairwise sl → L.Nodup := by
    intro L h
    unfold List.Nodup
    exact h.imp fun {x y} h (e : x = y) => sl_irr y (by rw [e] at h; exact h)
  refine List.Perm.eq_of_pairwise (le := sl) (fun a b _ _ h1 h2 => absurd (sl_trans h1 h2) (sl_irr a)) ha hb ?_
  exact (List.perm_ext_iff_of_nodup (nd ha) (nd hb)).2 hm
/-- of a word: its matrix has no number below 0, and its length is at most what is beside the line, and less than the trace if both are there -/
theorem pm_facts : ∀ l : List UInt8, l.all letB = true → 1 ≤ (pm l).a ∧ 1 ≤ (pm l).d ∧ 0 ≤ (pm l).b ∧ 0 ≤ (pm l).c ∧ (l.length : Int) ≤ (pm l).b + (pm l).c ∧ (1 ≤ (pm l).b → 1 ≤ (pm l).c → (l.length : Int) + 1 ≤ (pm l).a + (pm l).d)
  | [], _ => by simp [pm, unitM]
  | x :: l, h => by
    have hx : letB x = true ∧ l.all letB = true := by simpa using h
    obtain ⟨h1, h2, h3, h4, h5, h6⟩ := pm_facts l hx.2
    rw [pm_cons, fx, List.length_cons]
    by_cases e : x = 76
    · simp only [e, if_true]
      refine ⟨by omega, by omega, by omega, by omega, by omega, fun h7 h8 => ?_⟩
      by_cases h9 : 1 ≤ (pm l).c
      · have := h6 h7 h9; omega
      · omega
    · simp only [if_neg e]
      refine ⟨by omega, by omega, by omega, by omega, by omega, fun h7 h8 => ?_⟩
      by_cases h9 : 1 ≤ (pm l).b
      · have := h6 h9 h8; omega
      · omega
theorem two_len {l : List UInt8} (h : 1 ≤ (pm l).b ∧ 1 ≤ (pm l).c) : 2 ≤ l.length := by
  match l, h with
  | [], h => simp [pm, unitM] at h
  | [x], h =>
    rw [pm_cons] at h
    by_cases e : x = 76
    · simp [fx, e, pm, unitM] at h
    · simp [fx, e, pm, unitM] at h
  | _ :: _ :: _, _ => simp
theorem wk1_facts {t a b : Nat} (ha : 1 ≤ a ∧ a < t) (ht : 3 ≤ t) (hb : 1 ≤ b ∧ b ≤ pdN t a) {v : List UInt8} (h : wk1 t a b = some v) : 2 ≤ v.length ∧ v.length ≤ t - 1 := by
  unfold wk1 at h
  split at h
  · rename_i hd
    cases h
    have hq : pdN t a = b * (pdN t a / b) := by
      have := Nat.div_add_mod (pdN t a) b
      omega
    have hq1 : 1 ≤ pdN t a / b := Nat.div_pos hb.2 (by omega)
    have hpd := pdN_int ha.1 ha.2
    generalize pdN t a / b = c at *
    have hw : lets (a + b) (c + (t - a)) = wl ⟨a, b, c, (t - a : Nat)⟩ := by
      unfold wl P1 P2
      rw [show ((a : Int) + (b : Int)).toNat = a + b from by omega, show ((c : Int) + ((t - a : Nat) : Int)).toNat = c + (t - a) from by omega]
    have hdet : xd ⟨a, b, c, (t - a : Nat)⟩ = 1 := by
      have e1 : ((b * c : Nat) : Int) = (b : Int) * (c : Int) := Int.natCast_mul _ _
      have e2 : ((t - a : Nat) : Int) = (t : Int) - (a : Int) := by omega
      rw [← hq] at e1
      simp only [xd]
      rw [e2, ← e1]
      omega
    have hpm := pm_wl ⟨a, b, c, (t - a : Nat)⟩ ⟨by simp, by simp, by simp, by simp⟩ hdet
    have hf := pm_facts (wl ⟨a, b, c, (t - a : Nat)⟩) (lets_all _ _)
    have h2 := two_len (l := wl ⟨a, b, c, (t - a : Nat)⟩) (by rw [hpm]; exact ⟨by simp; omega, by simp; omega⟩)
    rw [hpm] at hf
    rw [hw]
    have h6 := hf.2.2.2.2.2 (by simp; omega) (by simp; omega)
    simp only at h6
    exact ⟨h2, by omega⟩
  · cases h
theorem wsO_facts {t : Nat} (ht : 3 ≤ t) : ∀ v ∈ wsO t (t - 1), 2 ≤ v.length ∧ v.length ≤ t - 1 := by
  intro v hv
  unfold wsO wsI at hv
  obtain ⟨i, hi, hi2⟩ := List.mem_flatMap.1 hv
  obtain ⟨j, hj, hj2⟩ := List.mem_filterMap.1 hi2
  rw [List.mem_range] at hi hj
  exact wk1_facts ⟨by omega, by omega⟩ ht ⟨by omega, by omega⟩ hj2
/-- the list of the program is the model's -/
theorem all_one {t : Nat} (ht : 3 ≤ t) : allN (wsO t (t - 1)) (t - 2) = modN (wsO t (t - 1)) := by
  refine sl_one (allN_sorted _ _) (modN_sorted _) fun x => ?_
  rw [mem_allN, mem_modN]
  constructor
  · rintro ⟨v, hv, rfl, _⟩
    exact ⟨v, hv, rfl⟩
  · rintro ⟨v, hv, rfl⟩
    obtain ⟨h1, h2⟩ := wsO_facts ht v hv
    exact ⟨v, hv, rfl, h1, by omega⟩
end Go.Proofs.Ythpbdcookhpdaaa
