
/- What the runs of a word are: plain. -/
import Derived.Test.YtmcpchockjcjhaaSpecR
import Derived.Test.YtmcpchockjcjhaaInts
import Derived.Test.YtmcpchockjcjhaaWordsB
namespace Go.Proofs.Ytmcpchockjcjhaa
open Go.RowKit

def isum : List Int → Int
  | [] => 0
  | x :: l => x + isum l
theorem isum_app (l k : List Int) : isum (l ++ k) = isum l + isum k := by
  induction l with
  | nil => simp [isum]
  | cons x l ih => simp only [List.cons_append, isum, ih]; omega
theorem snoc_ind {P : List UInt8 → Prop} (h0 : P []) (hs : ∀ l c, P l → P (l ++ [c])) (l : List UInt8) : P l := by
  have : ∀ suf pre : List UInt8, P pre → P (pre ++ suf) := by
    intro suf
    induction suf with
    | nil => intro pre h; simpa using h
    | cons c suf ih => intro pre h; have := ih (pre ++ [c]) (hs pre c h); simpa using this
  simpa using this l [] h0
def RunInv (l : List UInt8) (r : RS) : Prop :=
  isum r.ini + r.cur = (l.length : Int) ∧ (∀ k, 0 ≤ isum (r.ini.take k) ∧ isum (r.ini.take k) ≤ isum r.ini) ∧ (∀ x ∈ r.ini.tail, 1 ≤ x) ∧ (r.ini ≠ [] → 1 ≤ r.cur) ∧ 0 ≤ r.cur ∧ (l = [] → r.ini = [] ∧ r.cur = 0 ∧ r.last = 82) ∧
    (∀ c t, l = c :: t → (r.ini = [] → c = 82 ∧ 1 ≤ r.cur ∧ r.last = 82) ∧ (∀ x s, r.ini = x :: s → 0 ≤ x ∧ (x = 0 ↔ c ≠ 82)))
theorem take_isum (l : List Int) (y : Int) (hy : 0 ≤ y) (h : ∀ k, 0 ≤ isum (l.take k) ∧ isum (l.take k) ≤ isum l) (k : Nat) : 0 ≤ isum ((l ++ [y]).take k) ∧ isum ((l ++ [y]).take k) ≤ isum (l ++ [y]) := by
  have hl := h l.length
  rw [List.take_of_length_le (Nat.le_refl _)] at hl
  rw [List.take_append, isum_app, isum_app]
  have h1 := h k
  by_cases hk : k ≤ l.length
  · rw [show k - l.length = 0 from by omega]
    simp [isum]; omega
  · rw [List.take_of_length_le (by omega), List.take_of_length_le (by simp; omega)]
    simp [isum]; omega
theorem runInv (l : List UInt8) : RunInv l (rfold l) := by
  refine snoc_ind (P := fun l => RunInv l (rfold l)) ?_ ?_ l
  · refine ⟨rfl, fun k => ?_, by simp [rfold], by simp [rfold], Int.le_refl _, fun _ => ⟨rfl, rfl, rfl⟩, by simp⟩
    simp [rfold, isum]
  · intro l c h
    rw [rfold_snoc]
    generalize rfold l = r at h
    obtain ⟨ini, cur, last⟩ := r
    obtain ⟨h1, h2, h3, h4, h5, h6, h7⟩ := h
    dsimp only at h1 h2 h3 h4 h5 h6 h7
    unfold rstep
    by_cases e : c = last
    · rw [if_pos e]
      refine ⟨by simp; omega, h2, h3, fun hn => by have := h4 hn; dsimp only; omega, by dsimp only; omega, by simp, fun d t hd => ?_⟩
      dsimp only
      cases l with
      | nil =>
        obtain ⟨rfl, rfl, rfl⟩ := h6 rfl
        simp at hd
        exact ⟨fun _ => ⟨by rw [← hd.1, e], by omega, rfl⟩, by simp⟩
      | cons d' t' =>
        simp at hd
        obtain ⟨rfl, _⟩ := hd
        obtain ⟨g1, g2⟩ := h7 d' t' rfl
        exact ⟨fun hn => ⟨(g1 hn).1, by have := (g1 hn).2.1; omega, (g1 hn).2.2⟩, g2⟩
    · rw [if_neg e]
      refine ⟨by rw [isum_app]; simp [isum]; omega, take_isum ini cur h5 h2, ?_, fun _ => Int.le_refl _, by dsimp only; omega, by simp, fun d t hd => ?_⟩
      · intro x hx
        cases ini with
        | nil => simp at hx
        | cons y ini =>
          simp at hx
          rcases hx with hx | rfl
          · exact h3 x (by simpa using hx)
          · exact h4 (by simp)
      · dsimp only
        refine ⟨by simp, fun x s hx => ?_⟩
        cases ini with
        | nil =>
          simp at hx
          obtain ⟨rfl, _⟩ := hx
          cases l with
          | nil =>
            obtain ⟨_, rfl, rfl⟩ := h6 rfl
            simp at hd
            rw [← hd.1]
            exact ⟨Int.le_refl _, by simp [e]⟩
          | cons d' t' =>
            simp at hd
            obtain ⟨rfl, _⟩ := hd
            obtain ⟨g1, _⟩ := h7 d' t' rfl
            have := g1 rfl
            exact ⟨h5, fun h => by omega, fun h => absurd this.1 h⟩
        | cons y ini =>
          simp at hx
          obtain ⟨rfl, _⟩ := hx
          cases l with
          | nil => have := (h6 rfl).1; simp at this
          | cons d' t' =>
            simp at hd
            obtain ⟨rfl, _⟩ := hd
            exact (h7 d' t' rfl).2 y ini rfl
/-- what the law asks of the runs -/
theorem runs_sum (l : List UInt8) : isum (runs l) = (l.length : Int) ∧ ∀ k, 0 ≤ isum ((runs l).take k) ∧ isum ((runs l).take k) ≤ (l.length : Int) := by
  unfold runs
  by_cases h : l = []
  · subst h; simp [isum]
  · rw [if_neg h]
    obtain ⟨h1, h2, h3, h4, h5, h6, h7⟩ := runInv l
    have e : isum (rl (rfold l)) = (l.length : Int) := by rw [rl, isum_app]; simp [isum]; omega
    refine ⟨e, fun k => ?_⟩
    have := take_isum _ _ h5 h2 k
    rw [← e]
    exact this
theorem runs_tail (l : List UInt8) (i : Nat) (h0 : 1 ≤ i) (hi : i < (runs l).length) : 1 ≤ (runs l).getD i 0 := by
  unfold runs at hi ⊢
  by_cases h : l = []
  · rw [if_pos h] at hi; simp at hi
  · rw [if_neg h] at hi ⊢
    obtain ⟨h1, h2, h3, h4, h5, h6, h7⟩ := runInv l
    unfold rl at hi ⊢
    generalize rfold l = r at *
    obtain ⟨ini, cur, last⟩ := r
    dsimp only at *
    simp at hi
    by_cases hl : i < ini.length
    · have : (ini ++ [cur]).getD i 0 = ini[i] := by simp [List.getD, List.getElem?_append, hl]
      rw [this]
      refine h3 _ ?_
      cases ini with
      | nil => simp at hl
      | cons y ini =>
        obtain ⟨j, rfl⟩ : ∃ j, i = j + 1 := ⟨i - 1, by omega⟩
        simp
    · have : i = ini.length := by omega
      subst this
      have e : (ini ++ [cur]).getD ini.length 0 = cur := by simp [List.getD]
      rw [e]
      exact h4 (by intro e; subst e; simp at h0)
theorem runs_nil (l : List UInt8) : runs l = [] ↔ l = [] := by
  unfold runs
  by_cases h : l = []
  · simp [h]
  · simp [h, rl]
theorem runs_head {c : UInt8} {t : List UInt8} : (runs (c :: t)).getD 0 0 = 0 ↔ c ≠ 82 := by
  obtain ⟨h1, h2, h3, h4, h5, h6, h7⟩ := runInv (c :: t)
  obtain ⟨g1, g2⟩ := h7 c t rfl
  rw [runs, if_neg (by simp), rl]
  generalize rfold (c :: t) = r at *
  obtain ⟨ini, cur, last⟩ := r
  dsimp only at *
  cases ini with
  | nil =>
    have := g1 rfl
    simp [List.getD]
    constructor
    · intro h; omega
    · intro h; exact absurd this.1 h
  | cons y ini =>
    have := (g2 y ini rfl).2
    simpa [List.getD] using this
end Go.Proofs.Ytmcpchockjcjhaa
