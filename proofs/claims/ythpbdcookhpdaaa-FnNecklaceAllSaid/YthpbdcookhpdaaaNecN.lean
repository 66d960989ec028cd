
/- The necklaces of a list of words, by their lengths, put in order: plain. -/
import Derived.Test.YthpbdcookhpdaaaAsk
namespace Go.Proofs.Ythpbdcookhpdaaa
open Go.RowKit Go.Shelf Go.Maps Go.Sort Go.Lib Go.ChangeMaps

/-- texts put in order, each once -/
def necN (ks : List (List UInt8)) : List (List UInt8) := srtT (strKeys (setN (H := Unit) ks))
theorem srtT_perm {a b : List (List UInt8)} (h : a.Perm b) : srtT a = srtT b := by
  have hle : ∀ x y : List UInt8, (!(ltOf cmpT) y x) = !bl y x := fun x y => by rw [ltT]
  have tr : ∀ a b c : List UInt8, (!(ltOf cmpT) b a) = true → (!(ltOf cmpT) c b) = true → (!(ltOf cmpT) c a) = true := by
    intro a b c h1 h2
    simp only [Bool.not_eq_true'] at *
    exact swoT.ntrans _ _ _ h2 h1
  have tl : ∀ a b : List UInt8, ((!(ltOf cmpT) b a) || (!(ltOf cmpT) a b)) = true := by
    intro a b
    rw [hle, hle]
    cases h1 : bl a b
    · simp
    · simp [bl_asym h1]
  refine List.Perm.eq_of_pairwise (le := fun a b => (!(ltOf cmpT) b a) = true) (fun a b _ _ h1 h2 => ?_) (List.pairwise_mergeSort tr tl a) (List.pairwise_mergeSort tr tl b) (((List.mergeSort_perm _ _).trans h).trans (List.mergeSort_perm _ _).symm)
  simp only [Bool.not_eq_true'] at h1 h2
  exact totT _ _ h2 h1
theorem insert_perm {H : Type} (x : Lit × DataW H) : ∀ l : List (Lit × DataW H), (DataW.insert x l).Perm (x :: l)
  | [] => by simp [DataW.insert]
  | y :: r => by
    unfold DataW.insert
    split
    · exact .refl _
    · exact ((insert_perm x r).cons y).trans (List.Perm.swap x y r)
theorem rev_ind {α : Type} {P : List α → Prop} (h0 : P []) (h1 : ∀ l x, P l → P (l ++ [x])) (l : List α) : P l := by
  have h : ∀ l : List α, P l.reverse := by
    intro l
    induction l with
    | nil => exact h0
    | cons x l ih => rw [List.reverse_cons]; exact h1 _ _ ih
  have := h l.reverse
  rwa [List.reverse_reverse] at this
theorem setN_facts (ks : List (List UInt8)) : ∃ es : List (Lit × DataW Unit), setN ks = .map es ∧ es.Pairwise (fun p q => p.1 ≠ q.1) ∧ (∀ p ∈ es, ∃ x, p.1 = .string x) ∧ (∀ x, (∃ p ∈ es, p.1 = .string x) ↔ x ∈ ks) ∧ es.length ≤ ks.length := by
  induction ks using rev_ind with
  | h0 => exact ⟨[], rfl, by simp, by simp, by simp, by simp⟩
  | h1 ks x ih =>
    obtain ⟨es, h1, h2, h3, h4, h5⟩ := ih
    have hp := insert_perm (litT x, (DataW.lit (.bool true) : DataW Unit)) (es.filter fun p => !p.1.sameKey (litT x))
    refine ⟨_, by rw [setN_snoc, h1]; rfl, ?_, ?_, ?_, ?_⟩
    · refine (hp.pairwise_iff (fun h e => h e.symm)).2 (List.pairwise_cons.2 ⟨?_, h2.filter _⟩)
      intro q hq e
      have := (List.mem_filter.1 hq).2
      rw [← e] at this
      simp [litT, Lit.sameKey] at this
    · intro p hp'
      rcases List.mem_cons.1 (hp.mem_iff.1 hp') with h | h
      · exact ⟨x, by rw [h]; rfl⟩
      · exact h3 p ((List.mem_filter.1 h).1)
    · intro y
      rw [List.mem_append, List.mem_singleton, ← h4 y]
      constructor
      · rintro ⟨p, hp', e⟩
        rcases List.mem_cons.1 (hp.mem_iff.1 hp') with h | h
        · right
          rw [h] at e
          simpa [litT] using e.symm
        · exact .inl ⟨p, (List.mem_filter.1 h).1, e⟩
      · rintro (⟨p, hp', e⟩ | rfl)
        · by_cases hxy : y = x
          · exact ⟨_, hp.mem_iff.2 (List.mem_cons_self ..), by rw [hxy]; rfl⟩
          · refine ⟨p, hp.mem_iff.2 (List.mem_cons_of_mem _ (List.mem_filter.2 ⟨hp', ?_⟩)), e⟩
            rw [e]
            simp [litT, Lit.sameKey, hxy]
        · exact ⟨_, hp.mem_iff.2 (List.mem_cons_self ..), rfl⟩
    · rw [hp.length_eq, List.length_cons, List.length_append, List.length_singleton]
      exact Nat.succ_le_succ (Nat.le_trans (List.length_filter_le _ _) h5)
theorem strKeys_facts (ks : List (List UInt8)) : (strKeys (setN (H := Unit) ks)).Nodup ∧ (∀ x, x ∈ strKeys (setN (H := Unit) ks) ↔ x ∈ ks) ∧ (strKeys (setN (H := Unit) ks)).length ≤ ks.length := by
  obtain ⟨es, h1, h2, h3, h4, h5⟩ := setN_facts ks
  rw [h1]
  refine ⟨?_, ?_, by simpa [strKeys] using h5⟩
  · show (es.map fun p => strOf p.1).Nodup
    refine List.pairwise_map.2 (h2.imp_of_mem fun {p q} hp hq hne e => hne ?_)
    obtain ⟨a, ha⟩ := h3 p hp
    obtain ⟨b, hb⟩ := h3 q hq
    rw [ha, hb] at e ⊢
    exact congrArg _ e
  · intro x
    rw [← h4 x]
    show x ∈ es.map (fun p => strOf p.1) ↔ _
    rw [List.mem_map]
    constructor
    · rintro ⟨p, hp, rfl⟩
      obtain ⟨a, ha⟩ := h3 p hp
      exact ⟨p, hp, by rw [ha]; rfl⟩
    · rintro ⟨p, hp, e⟩
      exact ⟨p, hp, by rw [e]; rfl⟩
theorem size_setN (ks : List (List UInt8)) : Maps.size (setN (H := Unit) ks) ≤ ks.length := by
  obtain ⟨es, h1, _, _, _, h5⟩ := setN_facts ks
  rw [h1]; exact h5
theorem necN_sorted (ks : List (List UInt8)) : (necN ks).Pairwise (fun x y => bl x y = true) := by
  have hle : ∀ x y : List UInt8, (!(ltOf cmpT) y x) = !bl y x := fun x y => by rw [ltT]
  have tr : ∀ a b c : List UInt8, (!(ltOf cmpT) b a) = true → (!(ltOf cmpT) c b) = true → (!(ltOf cmpT) c a) = true := by
    intro a b c h1 h2
    simp only [Bool.not_eq_true'] at *
    exact swoT.ntrans _ _ _ h2 h1
  have tl : ∀ a b : List UInt8, ((!(ltOf cmpT) b a) || (!(ltOf cmpT) a b)) = true := by
    intro a b
    rw [hle, hle]
    cases h1 : bl a b
    · simp
    · simp [bl_asym h1]
  have h1 : (necN ks).Pairwise (fun a b => (!(ltOf cmpT) b a) = true) := List.pairwise_mergeSort tr tl _
  have h2 : (necN ks).Nodup := (List.mergeSort_perm _ _).nodup_iff.2 (strKeys_facts ks).1
  refine (h1.and h2).imp fun {x y} h => ?_
  have h3 := h.1
  rw [hle] at h3
  rcases bl_tot x y with h4 | h4 | h4
  · exact h4
  · exact absurd h4 h.2
  · rw [h4] at h3; cases h3
theorem mem_necN (ks : List (List UInt8)) (x : List UInt8) : x ∈ necN ks ↔ x ∈ ks := by
  unfold necN srtT
  rw [(List.mergeSort_perm _ _).mem_iff]
  exact (strKeys_facts ks).2.1 x
theorem necN_len (ks : List (List UInt8)) : (necN ks).length ≤ ks.length := by
  unfold necN srtT
  rw [(List.mergeSort_perm _ _).length_eq]
  exact (strKeys_facts ks).2.2
/-- those of 2 letters, of 3, .., of n + 1 -/
def allN (ws : List (List UInt8)) (n : Nat) : List (List UInt8) := (List.range n).flatMap fun i => necN (keyN ws (i + 2))
theorem allN_succ (ws : List (List UInt8)) (n : Nat) : allN ws (n + 1) = allN ws n ++ necN (keyN ws (n + 2)) := by
  unfold allN
  rw [List.range_succ, List.flatMap_append]; simp
theorem keyN_len (ws : List (List UInt8)) (n : Nat) : (keyN ws n).length ≤ ws.length := by
  unfold keyN
  rw [List.length_map]
  exact List.length_filter_le _ _
theorem allN_len (ws : List (List UInt8)) : ∀ n, (allN ws n).length ≤ n * ws.length
  | 0 => by simp [allN]
  | n + 1 => by
    rw [allN_succ, List.length_append, Nat.succ_mul]
    have h1 := allN_len ws n
    have h2 := necN_len (keyN ws (n + 2))
    have h3 := keyN_len ws (n + 2)
    omega
theorem mem_allN (ws : List (List UInt8)) (x : List UInt8) (n : Nat) : x ∈ allN ws n ↔ ∃ v ∈ ws, x = nk v ∧ 2 ≤ v.length ∧ v.length ≤ n + 1 := by
  unfold allN
  simp only [List.mem_flatMap, List.mem_range, mem_necN]
  unfold keyN
  simp only [List.mem_map, List.mem_filter, beq_iff_eq]
  constructor
  · rintro ⟨i, hi, v, ⟨hv, hl⟩, rfl⟩
    exact ⟨v, hv, rfl, by omega, by omega⟩
  · rintro ⟨v, hv, rfl, h1, h2⟩
    exact ⟨v.length - 2, by omega, v, ⟨hv, by omega⟩, rfl⟩
/-- shorter ones first, those of one length as texts -/
def sl (x y : List UInt8) : Prop := x.length < y.length ∨ (x.length = y.length ∧ bl x y = true)
theorem allN_sorted (ws : List (List UInt8)) : ∀ n, (allN ws n).Pairwise sl
  | 0 => by simp [allN]
  | n + 1 => by
    rw [allN_succ]
    refine List.pairwise_append.2 ⟨allN_sorted ws n, ?_, ?_⟩
    · refine (necN_sorted _).imp_of_mem fun {x y} hx hy h => ?_
      rw [mem_necN] at hx hy
      unfold keyN at hx hy
      simp only [List.mem_map, List.mem_filter, beq_iff_eq] at hx hy
      obtain ⟨u, ⟨_, hu⟩, rfl⟩ := hx
      obtain ⟨v, ⟨_, hv⟩, rfl⟩ := hy
      exact .inr ⟨by rw [nk_len, nk_len]; omega, h⟩
    · intro x hx y hy
      rw [mem_necN] at hy
      unfold keyN at hy
      simp only [List.mem_map, List.mem_filter, beq_iff_eq] at hy
      obtain ⟨u, _, rfl, _, hu⟩ := (mem_allN ws x n).1 hx
      obtain ⟨v, ⟨_, hv⟩, rfl⟩ := hy
      exact .inl (by rw [nk_len, nk_len]; omega)
end Go.Proofs.Ythpbdcookhpdaaa
