
/- Conjugates and necklaces, plain: two words whose matrices are conjugate come from each other by taking letters round; the least of such words; the program's and the model's way from a matrix to one of positive numbers. No condition. -/
import Derived.Test.YthmlkmlgehheoaaWords
import Derived.Test.YthmlkmlgehheoaaTurnQ
namespace Go.Proofs.Ythmlkmlgehheoaa
open Go.RowKit

/-! ### two words whose matrices are conjugate come from each other by taking letters round -/
theorem xm_fx (c : UInt8) (m n : M) : xm (fx c m) n = fx c (xm m n) := by
  unfold xm fx
  by_cases e : c = 76 <;> simp only [e, if_true, if_false] <;> apply M.ext' <;> dsimp only <;> grind
theorem pm_app : ∀ a b : List UInt8, pm (a ++ b) = xm (pm a) (pm b)
  | [], b => (unit_xm _).symm
  | c :: a, b => by rw [List.cons_append, pm_cons, pm_cons, xm_fx, pm_app a b]
theorem xm_sx (c : UInt8) (m n : M) : xm m (sx n c) = sx (xm m n) c := by
  unfold xm sx
  by_cases e : c = 76 <;> simp only [e, if_true, if_false] <;> apply M.ext' <;> dsimp only <;> grind
theorem xm_fold (m : M) : ∀ (l : List UInt8) (n : M), l.foldl sx (xm m n) = xm m (l.foldl sx n)
  | [], _ => rfl
  | c :: l, n => by rw [List.foldl_cons, List.foldl_cons, ← xm_sx, xm_fold m l]
theorem xm_pm (m : M) (l : List UInt8) : xm m (pm l) = l.foldl sx m := by rw [pm, ← xm_fold, xm_unit]
theorem pm_xm : ∀ (l : List UInt8) (m : M), xm (pm l) m = l.foldr fx m
  | [], m => unit_xm m
  | c :: l, m => by rw [pm_cons, xm_fx, pm_xm l m]; rfl
/-- both numbers have one sign -/
def os (x y : Int) : Prop := (0 ≤ x ∧ 0 ≤ y) ∨ (x ≤ 0 ∧ y ≤ 0)
def rowOs (m : M) : Prop := os m.a m.b ∧ os m.c m.d
def colOs (m : M) : Prop := os m.a m.c ∧ os m.b m.d
theorem sx_os {m : M} (h : os m.a m.b) (c : UInt8) : os (sx m c).a (sx m c).b := by
  unfold sx; unfold os at *
  by_cases e : c = 76 <;> simp only [e, if_true, if_false] <;> omega
theorem sx_os2 {m : M} (h : os m.c m.d) (c : UInt8) : os (sx m c).c (sx m c).d := by
  unfold sx; unfold os at *
  by_cases e : c = 76 <;> simp only [e, if_true, if_false] <;> omega
theorem fold_os : ∀ (l : List UInt8) (m : M), os m.a m.b → os (l.foldl sx m).a (l.foldl sx m).b
  | [], _, h => h
  | c :: l, m, h => fold_os l (sx m c) (sx_os h c)
theorem fold_os2 : ∀ (l : List UInt8) (m : M), os m.c m.d → os (l.foldl sx m).c (l.foldl sx m).d
  | [], _, h => h
  | c :: l, m, h => fold_os2 l (sx m c) (sx_os2 h c)
theorem fold_os_long : ∀ (l : List UInt8) (m : M), m.a.natAbs + m.b.natAbs ≤ l.length → os (l.foldl sx m).a (l.foldl sx m).b
  | [], m, h => by simp only [List.length_nil] at h; simp only [List.foldl_nil, os]; omega
  | c :: l, m, h => by
    rw [List.foldl_cons]
    by_cases e : os (sx m c).a (sx m c).b
    · exact fold_os l _ e
    · apply fold_os_long l
      simp only [List.length_cons] at h
      unfold sx at *; unfold os at *
      by_cases k : c = 76 <;> simp only [k, if_true, if_false] at * <;> omega
theorem fold_os2_long : ∀ (l : List UInt8) (m : M), m.c.natAbs + m.d.natAbs ≤ l.length → os (l.foldl sx m).c (l.foldl sx m).d
  | [], m, h => by simp only [List.length_nil] at h; simp only [List.foldl_nil, os]; omega
  | c :: l, m, h => by
    rw [List.foldl_cons]
    by_cases e : os (sx m c).c (sx m c).d
    · exact fold_os2 l _ e
    · apply fold_os2_long l
      simp only [List.length_cons] at h
      unfold sx at *; unfold os at *
      by_cases k : c = 76 <;> simp only [k, if_true, if_false] at * <;> omega
theorem fx_os {m : M} (h : os m.a m.c) (c : UInt8) : os (fx c m).a (fx c m).c := by
  unfold fx; unfold os at *
  by_cases e : c = 76 <;> simp only [e, if_true, if_false] <;> omega
theorem fx_os2 {m : M} (h : os m.b m.d) (c : UInt8) : os (fx c m).b (fx c m).d := by
  unfold fx; unfold os at *
  by_cases e : c = 76 <;> simp only [e, if_true, if_false] <;> omega
theorem foldr_os (m : M) (h : os m.a m.c) : ∀ (l : List UInt8), os (l.foldr fx m).a (l.foldr fx m).c
  | [] => h
  | c :: l => fx_os (foldr_os m h l) c
theorem foldr_os2 (m : M) (h : os m.b m.d) : ∀ (l : List UInt8), os (l.foldr fx m).b (l.foldr fx m).d
  | [] => h
  | c :: l => fx_os2 (foldr_os2 m h l) c
/-- taken from the end: after the letters l either a column has one sign or its size has dropped by their number -/
theorem foldr_size (m : M) : ∀ (l : List UInt8), os (l.foldr fx m).a (l.foldr fx m).c ∨ (l.foldr fx m).a.natAbs + (l.foldr fx m).c.natAbs + l.length ≤ m.a.natAbs + m.c.natAbs
  | [] => .inr (by simp)
  | c :: l => by
    rw [List.foldr_cons]
    rcases foldr_size m l with h | h
    · exact .inl (fx_os h c)
    · generalize l.foldr fx m = n at *
      by_cases e : os (fx c n).a (fx c n).c
      · exact .inl e
      · right
        simp only [List.length_cons]
        unfold fx at *; unfold os at *
        by_cases k : c = 76 <;> simp only [k, if_true, if_false] at * <;> omega
theorem foldr_size2 (m : M) : ∀ (l : List UInt8), os (l.foldr fx m).b (l.foldr fx m).d ∨ (l.foldr fx m).b.natAbs + (l.foldr fx m).d.natAbs + l.length ≤ m.b.natAbs + m.d.natAbs
  | [] => .inr (by simp)
  | c :: l => by
    rw [List.foldr_cons]
    rcases foldr_size2 m l with h | h
    · exact .inl (fx_os2 h c)
    · generalize l.foldr fx m = n at *
      by_cases e : os (fx c n).b (fx c n).d
      · exact .inl e
      · right
        simp only [List.length_cons]
        unfold fx at *; unfold os at *
        by_cases k : c = 76 <;> simp only [k, if_true, if_false] at * <;> omega
/-- a word k times -/
def rep (u : List UInt8) : Nat → List UInt8
  | 0 => []
  | k + 1 => u ++ rep u k
theorem rep_len (u : List UInt8) : ∀ k, (rep u k).length = k * u.length
  | 0 => by simp [rep]
  | k + 1 => by rw [rep, List.length_append, rep_len u k, Nat.succ_mul, Nat.add_comm]
theorem rep_len' {u : List UInt8} (h : u ≠ []) (k : Nat) : k ≤ (rep u k).length := by
  rw [rep_len]
  have : 1 ≤ u.length := by cases u <;> simp_all
  exact Nat.le_mul_of_pos_right _ this
theorem rep_conj {X : M} {u v : List UInt8} (h : xm X (pm u) = xm (pm v) X) : ∀ k, xm X (pm (rep u k)) = xm (pm (rep v k)) X
  | 0 => by rw [rep, rep, show pm [] = unitM from rfl, xm_unit, unit_xm]
  | k + 1 => by rw [rep, rep, pm_app, pm_app, ← xm_assoc, h, xm_assoc, rep_conj h k, xm_assoc]
theorem xd_xm (m n : M) : xd (xm m n) = xd m * xd n := by unfold xd xm; grind
theorem rep_com (u : List UInt8) : ∀ k, xm (pm u) (pm (rep u k)) = xm (pm (rep u k)) (pm u)
  | 0 => by rw [rep, show pm [] = unitM from rfl, xm_unit, unit_xm]
  | k + 1 => by rw [rep, pm_app, xm_assoc, ← rep_com u k]
/-- four positive numbers -/
def pos (m : M) : Prop := 1 ≤ m.a ∧ 1 ≤ m.b ∧ 1 ≤ m.c ∧ 1 ≤ m.d
/-- conjugate by a matrix: by one whose rows and columns have one sign each -/
theorem conj_os {X : M} {u v : List UInt8} (hu : u ≠ []) (hv : v ≠ []) (hX : xd X = 1) (h : xm X (pm u) = xm (pm v) X) :
    ∃ Y : M, xd Y = 1 ∧ xm Y (pm u) = xm (pm v) Y ∧ rowOs Y ∧ colOs Y := by
  obtain ⟨k, hk⟩ : ∃ k, k = X.a.natAbs + X.b.natAbs + X.c.natAbs + X.d.natAbs := ⟨_, rfl⟩
  obtain ⟨Z, hZ⟩ : ∃ Z, Z = xm X (pm (rep u k)) := ⟨_, rfl⟩
  have hl := rep_len' hu k
  have hZr : rowOs Z := by
    rw [hZ, xm_pm]
    exact ⟨fold_os_long _ _ (by omega), fold_os2_long _ _ (by omega)⟩
  have hZc : xm Z (pm u) = xm (pm v) Z := by
    rw [hZ, xm_assoc, ← rep_com, ← xm_assoc, h, xm_assoc]
  have hZd : xd Z = 1 := by rw [hZ, xd_xm, hX, pm_det]; rfl
  obtain ⟨j, hj⟩ : ∃ j, j = Z.a.natAbs + Z.b.natAbs + Z.c.natAbs + Z.d.natAbs + 1 := ⟨_, rfl⟩
  have hlj := rep_len' hv j
  refine ⟨xm Z (pm (rep u j)), by rw [xd_xm, hZd, pm_det]; rfl, ?_, ?_, ?_⟩
  · rw [xm_assoc, ← rep_com, ← xm_assoc, hZc, xm_assoc]
  · rw [xm_pm]
    exact ⟨fold_os _ _ hZr.1, fold_os2 _ _ hZr.2⟩
  · rw [rep_conj hZc, pm_xm]
    refine ⟨?_, ?_⟩
    · rcases foldr_size Z (rep v j) with e | e
      · exact e
      · omega
    · rcases foldr_size2 Z (rep v j) with e | e
      · exact e
      · omega
theorem mul_pos_eq {x y : Int} (hx : 0 ≤ x) (hy : 0 ≤ y) (h : x * y = 1) : x = 1 ∧ y = 1 := by
  have hx1 : 1 ≤ x := by
    apply Int.not_lt.1; intro hx2
    obtain rfl : x = 0 := by omega
    rw [Int.zero_mul] at h; omega
  have hy1 : 1 ≤ y := by
    apply Int.not_lt.1; intro hy2
    obtain rfl : y = 0 := by omega
    rw [Int.mul_zero] at h; omega
  have h1 := Int.mul_nonneg (show 0 ≤ x - 1 by omega) (show 0 ≤ y - 1 by omega)
  grind
/-- so by one without negative numbers -/
theorem conj_nn {X : M} {u v : List UInt8} (hu : pos (pm u)) (hv : pos (pm v)) (hX : xd X = 1) (h : xm X (pm u) = xm (pm v) X) :
    ∃ Y : M, xd Y = 1 ∧ xm Y (pm u) = xm (pm v) Y ∧ nnM Y := by
  have hu0 : u ≠ [] := by rintro rfl; exact absurd hu.2.1 (by decide)
  have hv0 : v ≠ [] := by rintro rfl; exact absurd hv.2.1 (by decide)
  obtain ⟨Y, hd, hc, hr, hk⟩ := conj_os hu0 hv0 hX h
  obtain ⟨a, b, c, d⟩ := Y
  obtain ⟨h1, h2⟩ := hr
  obtain ⟨h3, h4⟩ := hk
  unfold xd at hd
  dsimp only [os] at h1 h2 h3 h4 hd
  by_cases k1 : 0 ≤ a ∧ 0 ≤ b ∧ 0 ≤ c ∧ 0 ≤ d
  · exact ⟨_, by unfold xd; exact hd, hc, k1⟩
  · by_cases k2 : a ≤ 0 ∧ b ≤ 0 ∧ c ≤ 0 ∧ d ≤ 0
    · refine ⟨⟨-a, -b, -c, -d⟩, by unfold xd; dsimp only; grind, ?_, by unfold nnM; dsimp only; omega⟩
      unfold xm at *
      simp only [M.mk.injEq] at hc ⊢
      grind
    · exfalso
      obtain ⟨e1, e2, e3, e4⟩ := hu
      obtain ⟨f1, f2, f3, f4⟩ := hv
      unfold xm at hc
      simp only [M.mk.injEq] at hc
      obtain ⟨g1, g2, g3, g4⟩ := hc
      generalize (pm u).a = p1 at *
      generalize (pm u).b = p2 at *
      generalize (pm u).c = p3 at *
      generalize (pm u).d = p4 at *
      generalize (pm v).a = q1 at *
      generalize (pm v).b = q2 at *
      generalize (pm v).c = q3 at *
      generalize (pm v).d = q4 at *
      clear hX h hu0 hv0
      have hz : (a = 0 ∧ d = 0) ∨ (b = 0 ∧ c = 0) := by omega
      rcases hz with ⟨rfl, rfl⟩ | ⟨rfl, rfl⟩
      · by_cases hb : 0 < b
        · have := mul_pos_eq (x := b) (y := -c) (by omega) (by omega) (by grind)
          obtain ⟨rfl, hc'⟩ := this
          obtain rfl : c = -1 := by omega
          omega
        · have := mul_pos_eq (x := -b) (y := c) (by omega) (by omega) (by grind)
          obtain ⟨hb', rfl⟩ := this
          obtain rfl : b = -1 := by omega
          omega
      · by_cases hb : 0 < a
        · have := Int.mul_nonneg (show 0 ≤ a by omega) (show 0 ≤ -d by omega)
          grind
        · have := Int.mul_nonneg (show 0 ≤ -a by omega) (show 0 ≤ d by omega)
          grind
/-- what is moved over is moved round -/
theorem app_rot : ∀ (n : Nat) (y u v : List UInt8), y.length ≤ n → v ≠ [] → y ++ u = v ++ y → ∃ i, i ≤ u.length ∧ v = u.drop i ++ u.take i
  | n, y, u, v, hn, hv, h => by
    have hl : u.length = v.length := by have := congrArg List.length h; simp at this; omega
    by_cases hy : y.length ≤ v.length
    · obtain ⟨z, hz⟩ : ∃ z, v = y ++ z := by
        have := congrArg (List.take y.length) h
        rw [List.take_left, List.take_append_of_le_length hy] at this
        refine ⟨v.drop y.length, ?_⟩
        conv => lhs; rw [← List.take_append_drop y.length v]
        rw [← this]
      subst hz
      rw [List.append_assoc] at h
      have hu := List.append_cancel_left h
      subst hu
      refine ⟨z.length, by simp, ?_⟩
      rw [List.drop_left, List.take_left]
    · have hn1 : 1 ≤ v.length := by cases v <;> simp_all
      obtain ⟨z, hz⟩ : ∃ z, y = v ++ z := by
        have := congrArg (List.take v.length) h
        rw [List.take_left, List.take_append_of_le_length (by omega)] at this
        refine ⟨y.drop v.length, ?_⟩
        conv => lhs; rw [← List.take_append_drop v.length y]
        rw [this]
      subst hz
      rw [List.append_assoc] at h
      have hu := List.append_cancel_left h
      cases n with
      | zero => rw [List.length_append] at hn; omega
      | succ n => exact app_rot n z u v (by rw [List.length_append] at hn; omega) hv hu
/-- letters taken from the beginning to the end -/
def rotW (l : List UInt8) (i : Nat) : List UInt8 := l.drop i ++ l.take i
theorem conj_words {X : M} {u v : List UInt8} (lu : u.all letB = true) (lv : v.all letB = true) (hu : pos (pm u)) (hv : pos (pm v)) (hX : xd X = 1) (h : xm X (pm u) = xm (pm v) X) :
    ∃ i, i ≤ u.length ∧ v = rotW u i := by
  obtain ⟨Y, hd, hc, hn⟩ := conj_nn hu hv hX h
  have hv0 : v ≠ [] := by rintro rfl; exact absurd hv.2.1 (by decide)
  have hy := pm_wl Y hn hd
  have ly : (wl Y).all letB = true := lets_all _ _
  rw [← hy, ← pm_app, ← pm_app] at hc
  have e := congrArg wl hc
  rw [wl_pm (by simp only [List.all_append, ly, lu]; rfl), wl_pm (by simp only [List.all_append, ly, lv]; rfl)] at e
  exact app_rot _ _ _ _ (Nat.le_refl _) hv0 e
/-- the order of texts, on lists of bytes -/
def bl (x y : List UInt8) : Bool := Op.bytesLess x y
theorem bl_n (x : List UInt8) : bl x [] = false := by cases x <;> rfl
theorem bl_c (b : UInt8) (y : List UInt8) : bl [] (b :: y) = true := rfl
theorem bl_cc (a b : UInt8) (x y : List UInt8) : bl (a :: x) (b :: y) = (decide (a < b) || (a == b && bl x y)) := rfl
/-! ### the order of texts, and the least of all words that come round -/
theorem bl_irr : ∀ x : List UInt8, bl x x = false
  | [] => rfl
  | a :: x => by simp [bl_cc, bl_irr x]
theorem bl_trans : ∀ {x y z : List UInt8}, bl x y = true → bl y z = true → bl x z = true
  | _, [], _, h, _ => by simp [bl_n] at h
  | _, _ :: _, [], _, h => by simp [bl_n] at h
  | [], _ :: _, _ :: _, _, _ => rfl
  | a :: x, b :: y, c :: z, h1, h2 => by
    simp only [bl_cc, Bool.or_eq_true, Bool.and_eq_true, decide_eq_true_eq, beq_iff_eq] at *
    rcases h1 with h1 | ⟨rfl, h1⟩
    · rcases h2 with h2 | ⟨rfl, h2⟩
      · exact .inl (UInt8.lt_trans h1 h2)
      · exact .inl h1
    · rcases h2 with h2 | ⟨rfl, h2⟩
      · exact .inl h2
      · exact .inr ⟨rfl, bl_trans h1 h2⟩
theorem bl_tot : ∀ x y : List UInt8, bl x y = true ∨ x = y ∨ bl y x = true
  | [], [] => .inr (.inl rfl)
  | [], _ :: _ => .inl rfl
  | _ :: _, [] => .inr (.inr rfl)
  | a :: x, b :: y => by
    simp only [bl_cc, Bool.or_eq_true, Bool.and_eq_true, decide_eq_true_eq, beq_iff_eq]
    by_cases h1 : a < b
    · exact .inl (.inl h1)
    · by_cases h2 : b < a
      · exact .inr (.inr (.inl h2))
      · have e : a = b := by
          apply UInt8.le_antisymm
          · exact UInt8.not_lt.1 h2
          · exact UInt8.not_lt.1 h1
        subst e
        rcases bl_tot x y with h | rfl | h
        · exact .inl (.inr ⟨rfl, h⟩)
        · exact .inr (.inl rfl)
        · exact .inr (.inr (.inr ⟨rfl, h⟩))
/-- not greater -/
def le8 (x y : List UInt8) : Bool := bl x y || x == y
theorem le8_iff {x y : List UInt8} : le8 x y = true ↔ bl x y = true ∨ x = y := by simp [le8]
theorem le8_refl (x : List UInt8) : le8 x x = true := le8_iff.2 (.inr rfl)
theorem le8_trans {x y z : List UInt8} (h1 : le8 x y = true) (h2 : le8 y z = true) : le8 x z = true := by
  rcases le8_iff.1 h1 with h1 | rfl
  · rcases le8_iff.1 h2 with h2 | rfl
    · exact le8_iff.2 (.inl (bl_trans h1 h2))
    · exact le8_iff.2 (.inl h1)
  · exact h2
theorem le8_anti {x y : List UInt8} (h1 : le8 x y = true) (h2 : le8 y x = true) : x = y := by
  rcases le8_iff.1 h1 with h1 | rfl
  · rcases le8_iff.1 h2 with h2 | rfl
    · have := bl_trans h1 h2; rw [bl_irr] at this; cases this
    · rfl
  · rfl
theorem le8_not {x y : List UInt8} (h : ¬ le8 x y = true) : le8 y x = true := by
  rw [le8_iff] at h
  rcases bl_tot x y with k | k | k
  · exact absurd (.inl k) h
  · exact absurd (.inr k) h
  · exact le8_iff.2 (.inl k)
def mn (x y : List UInt8) : List UInt8 := if le8 x y then x else y
theorem mn_cases (x y : List UInt8) : (mn x y = x ∧ le8 x y = true) ∨ (mn x y = y ∧ le8 y x = true) := by
  unfold mn
  by_cases h : le8 x y = true
  · rw [if_pos h]; exact .inl ⟨rfl, h⟩
  · rw [if_neg h]; exact .inr ⟨rfl, le8_not h⟩
theorem mn_self (x : List UInt8) : mn x x = x := by rcases mn_cases x x with h | h <;> exact h.1
theorem fold_mn_mem : ∀ (l : List (List UInt8)) (x : List UInt8), l.foldl mn x = x ∨ l.foldl mn x ∈ l
  | [], _ => .inl rfl
  | y :: l, x => by
    rw [List.foldl_cons]
    rcases fold_mn_mem l (mn x y) with h | h
    · rcases mn_cases x y with ⟨e, _⟩ | ⟨e, _⟩
      · exact .inl (h.trans e)
      · exact .inr (by rw [h, e]; exact List.mem_cons_self)
    · exact .inr (List.mem_cons_of_mem _ h)
theorem fold_mn_le : ∀ (l : List (List UInt8)) (x : List UInt8), le8 (l.foldl mn x) x = true ∧ ∀ y ∈ l, le8 (l.foldl mn x) y = true
  | [], x => ⟨le8_refl x, by simp⟩
  | y :: l, x => by
    rw [List.foldl_cons]
    obtain ⟨h1, h2⟩ := fold_mn_le l (mn x y)
    have h3 : le8 (mn x y) x = true ∧ le8 (mn x y) y = true := by
      rcases mn_cases x y with ⟨e, h⟩ | ⟨e, h⟩
      · rw [e]; exact ⟨le8_refl _, h⟩
      · rw [e]; exact ⟨h, le8_refl _⟩
    refine ⟨le8_trans h1 h3.1, fun z hz => ?_⟩
    rcases List.mem_cons.1 hz with rfl | hz
    · exact le8_trans h1 h3.2
    · exact h2 z hz
/-- all words that come round -/
def rotsW (l : List UInt8) : List (List UInt8) := (List.range l.length).map (rotW l)
/-- the least of them -/
def nk (l : List UInt8) : List UInt8 := (rotsW l).foldl mn l
theorem rotW_zero (l : List UInt8) : rotW l 0 = l := by simp [rotW]
theorem rotW_all (l : List UInt8) : rotW l l.length = l := by simp [rotW]
theorem rotW_len (l : List UInt8) (i : Nat) : (rotW l i).length = l.length := by simp [rotW]; omega
theorem rotW_mem {l : List UInt8} {i : Nat} (h : i ≤ l.length) (h0 : l ≠ []) : rotW l i ∈ rotsW l := by
  unfold rotsW
  rw [List.mem_map]
  have h1 : 0 < l.length := List.length_pos_iff.2 h0
  by_cases e : i = l.length
  · subst e; exact ⟨0, List.mem_range.2 h1, by rw [rotW_zero, rotW_all]⟩
  · exact ⟨i, List.mem_range.2 (by omega), rfl⟩
theorem drop_more (A B : List UInt8) (k : Nat) : (A ++ B).drop (A.length + k) = B.drop k := by
  rw [List.drop_append, List.drop_of_length_le (by omega), List.nil_append, Nat.add_sub_cancel_left]
theorem take_more (A B : List UInt8) (k : Nat) : (A ++ B).take (A.length + k) = A ++ B.take k := by
  rw [List.take_append, List.take_of_length_le (by omega), Nat.add_sub_cancel_left]
theorem rotW_rotW {l : List UInt8} {i j : Nat} (hi : i ≤ l.length) (hj : j ≤ l.length) : ∃ k, k ≤ l.length ∧ rotW (rotW l i) j = rotW l k := by
  by_cases h : j ≤ l.length - i
  · refine ⟨i + j, by omega, ?_⟩
    unfold rotW
    rw [List.drop_append_of_le_length (by simp; omega), List.take_append_of_le_length (by simp; omega), List.drop_drop, List.append_assoc, ← List.take_add]
  · refine ⟨j - (l.length - i), by omega, ?_⟩
    obtain ⟨k, hk⟩ : ∃ k, k = j - (l.length - i) := ⟨_, rfl⟩
    have e : j = (l.drop i).length + k := by simp; omega
    rw [← hk]
    unfold rotW
    have hk2 : k ≤ i := by simp at e; omega
    rw [e, drop_more, take_more, List.take_take, Nat.min_eq_left hk2, ← List.append_assoc]
    congr 1
    conv => rhs; rw [← List.take_append_drop i l]
    rw [List.drop_append_of_le_length (by simp; omega)]
theorem nk_mem {l : List UInt8} (h0 : l ≠ []) : nk l ∈ rotsW l := by
  rcases fold_mn_mem (rotsW l) l with h | h
  · unfold nk; rw [h]; have := rotW_mem (l := l) (i := 0) (by omega) h0; rwa [rotW_zero] at this
  · exact h
theorem nk_rotW (l : List UInt8) : ∃ i, i ≤ l.length ∧ nk l = rotW l i := by
  by_cases h0 : l = []
  · subst h0; exact ⟨0, Nat.le_refl _, rfl⟩
  · have := nk_mem h0
    unfold rotsW at this
    rw [List.mem_map] at this
    obtain ⟨i, h1, h2⟩ := this
    exact ⟨i, by have := List.mem_range.1 h1; omega, h2.symm⟩
theorem nk_le {l : List UInt8} {i : Nat} (h : i ≤ l.length) : le8 (nk l) (rotW l i) = true := by
  by_cases h0 : l = []
  · subst h0; simp at h; subst h; rfl
  · exact (fold_mn_le (rotsW l) l).2 _ (rotW_mem h h0)
theorem rotW_back {l : List UInt8} {i : Nat} (hi : i ≤ l.length) : ∃ j, j ≤ l.length ∧ rotW (rotW l i) j = l := by
  refine ⟨l.length - i, by omega, ?_⟩
  unfold rotW
  rw [List.drop_left' (by simp), List.take_left' (by simp), List.take_append_drop]
theorem nk_rot {l : List UInt8} {i : Nat} (hi : i ≤ l.length) : nk (rotW l i) = nk l := by
  apply le8_anti
  · obtain ⟨j, hj, e⟩ := nk_rotW l
    obtain ⟨k, hk, e2⟩ := rotW_back hi
    obtain ⟨n, hn, e3⟩ := rotW_rotW (l := rotW l i) (i := k) (j := j) (by rw [rotW_len]; exact hk) (by rw [rotW_len]; exact hj)
    rw [e2] at e3
    rw [e, e3]
    exact nk_le hn
  · obtain ⟨j, hj, e⟩ := nk_rotW (rotW l i)
    rw [rotW_len] at hj
    obtain ⟨n, hn, e3⟩ := rotW_rotW hi hj
    rw [e, e3]
    exact nk_le hn
theorem nk_nk (l : List UInt8) : nk (nk l) = nk l := by
  obtain ⟨i, hi, e⟩ := nk_rotW l
  conv => lhs; rw [e]
  exact nk_rot hi
theorem nk_len (l : List UInt8) : (nk l).length = l.length := by
  obtain ⟨i, hi, e⟩ := nk_rotW l
  rw [e, rotW_len]
/-- the model leaves the word itself out -/
theorem nk_model (l : List UInt8) : ((List.range l.length).tail.map (rotW l)).foldl mn l = nk l := by
  unfold nk rotsW
  cases h : List.range l.length with
  | nil => rfl
  | cons x r =>
    have : x = 0 := by
      have h1 : (List.range l.length)[0]? = some x := by rw [h]; rfl
      rw [List.getElem?_range] at h1
      · exact (Option.some.inj h1).symm
      · cases l
        · simp at h
        · simp
    subst this
    rw [List.map_cons, List.foldl_cons, rotW_zero, mn_self]; rfl
theorem rotW_mem_iff {l : List UInt8} {i : Nat} {c : UInt8} : c ∈ rotW l i ↔ c ∈ l := by
  unfold rotW
  conv => rhs; rw [← List.take_append_drop i l]
  simp only [List.mem_append]
  exact Or.comm
theorem rotW_letB {l : List UInt8} {i : Nat} : (rotW l i).all letB = l.all letB := by
  rw [Bool.eq_iff_iff]; simp only [List.all_eq_true, rotW_mem_iff]
/-- a word of both letters -/
def mxB (l : List UInt8) : Bool := l.all letB && decide (l.length ≤ 40) && l.contains 76 && l.contains 82
theorem rotW_mx {l : List UInt8} {i : Nat} : mxB (rotW l i) = mxB l := by
  unfold mxB
  rw [rotW_letB, rotW_len]
  have h : ∀ c : UInt8, (rotW l i).contains c = l.contains c := fun c => by
    rw [Bool.eq_iff_iff]; simp only [List.contains_iff_mem, rotW_mem_iff]
  rw [h, h]
theorem nk_mx (l : List UInt8) : mxB (nk l) = mxB l := by
  obtain ⟨i, hi, e⟩ := nk_rotW l
  rw [e, rotW_mx]
/-- both letters: four positive numbers -/
theorem pm_pos' : ∀ l : List UInt8, l.all letB = true → nnM (pm l) ∧ 1 ≤ (pm l).a ∧ 1 ≤ (pm l).d ∧ (82 ∈ l ↔ 1 ≤ (pm l).b) ∧ (76 ∈ l ↔ 1 ≤ (pm l).c)
  | [], _ => by simp [pm, unitM, nnM]
  | c :: l, h => by
    simp only [List.all_cons, Bool.and_eq_true] at h
    obtain ⟨h1, h2, h3, h4, h5⟩ := pm_pos' l h.2
    rw [pm_cons]
    unfold nnM at *
    rcases letB_iff.1 h.1 with rfl | rfl
    · simp only [fx, if_true, List.mem_cons, show ((82 : UInt8) = 76) = False from by simp, false_or, true_or, h4, h5]
      grind
    · simp only [fx, if_false, List.mem_cons, show ((82 : UInt8) = 76) = False from by simp, show ((76 : UInt8) = 82) = False from by simp, false_or, true_or, h4, h5]
      grind
theorem mx_pos {l : List UInt8} (h : mxB l = true) : l.all letB = true ∧ pos (pm l) := by
  simp only [mxB, Bool.and_eq_true, List.contains_iff_mem] at h
  obtain ⟨h1, h2, h3, h4, h5⟩ := pm_pos' l h.1.1.1
  exact ⟨h.1.1.1, h2, h4.1 h.2, h5.1 h.1.2, h3⟩
theorem pos_mx {l : List UInt8} (ha : l.all letB = true) (h40 : l.length ≤ 40) (h : pos (pm l)) : mxB l = true := by
  obtain ⟨h1, h2, h3, h4, h5⟩ := pm_pos' l ha
  simp only [mxB, Bool.and_eq_true, List.contains_iff_mem, decide_eq_true_eq]
  exact ⟨⟨⟨ha, h40⟩, h5.2 h.2.2.1⟩, h4.2 h.2.1⟩
/-- taking letters round keeps the trace, and is conjugate -/
theorem rotW_conj {l : List UInt8} {i : Nat} (hi : i ≤ l.length) : ∃ X : M, xd X = 1 ∧ xm X (pm l) = xm (pm (rotW l i)) X ∧ (pm (rotW l i)).a + (pm (rotW l i)).d = (pm l).a + (pm l).d := by
  refine ⟨pm (l.drop i), pm_det _, ?_, ?_⟩
  · conv => lhs; rw [← List.take_append_drop i l]
    rw [rotW, ← pm_app, ← pm_app, List.drop_append, List.drop_of_length_le (by simp; omega)]
    simp [Nat.min_eq_left hi]
  · conv => rhs; rw [← List.take_append_drop i l]
    rw [rotW, pm_app, pm_app]
    generalize pm (l.drop i) = x
    generalize pm (l.take i) = y
    unfold xm
    dsimp only
    grind
/-! ### an even matrix with a trace greater than 2 is conjugate to one of positive numbers: the program's way and the model's -/
def goodM (m : M) : Prop := inB m = true ∧ xd m = 1 ∧ 3 ≤ m.a + m.d ∧ m.a + m.d ≤ 2000
/-- conjugate by an even matrix -/
def cj (m n : M) : Prop := ∃ X : M, xd X = 1 ∧ xm X m = xm n X
theorem cj_refl (m : M) : cj m m := ⟨unitM, rfl, by rw [unit_xm, xm_unit]⟩
theorem cj_trans {m n p : M} (h1 : cj m n) (h2 : cj n p) : cj m p := by
  obtain ⟨X, e1, e2⟩ := h1
  obtain ⟨Y, f1, f2⟩ := h2
  exact ⟨xm Y X, by rw [xd_xm, e1, f1]; rfl, by rw [xm_assoc, e2, ← xm_assoc, f2, xm_assoc]⟩
def adj (m : M) : M := ⟨m.d, -m.b, -m.c, m.a⟩
theorem adj_xm {m : M} (h : xd m = 1) : xm (adj m) m = unitM := by
  unfold xd at h; unfold xm adj unitM; apply M.ext' <;> dsimp only <;> grind
theorem xm_adj {m : M} (h : xd m = 1) : xm m (adj m) = unitM := by
  unfold xd at h; unfold xm adj unitM; apply M.ext' <;> dsimp only <;> grind
theorem cj_symm {m n : M} (h : cj m n) : cj n m := by
  obtain ⟨X, e1, e2⟩ := h
  refine ⟨adj X, by unfold xd adj at *; dsimp only at *; grind, ?_⟩
  have : xm (adj X) (xm n X) = m := by rw [← e2, ← xm_assoc, adj_xm e1, unit_xm]
  conv => rhs; rw [← this]
  rw [xm_assoc, xm_assoc, xm_adj e1, xm_unit]
theorem cj_tr {m n : M} (h : cj m n) : m.a + m.d = n.a + n.d := by
  obtain ⟨X, e1, e2⟩ := h
  unfold xd at e1
  unfold xm at e2
  simp only [M.mk.injEq] at e2
  obtain ⟨g1, g2, g3, g4⟩ := e2
  grind
theorem cj_xd {m n : M} (h : cj m n) : xd m = xd n := by
  obtain ⟨X, e1, e2⟩ := h
  have := congrArg xd e2
  rw [xd_xm, xd_xm, e1] at this
  omega
/-- conjugated by the turn; by a shift -/
def cT (m : M) : M := ⟨m.d, -m.c, -m.b, m.a⟩
def cS (m : M) (k : Int) : M := ⟨m.a + k * m.c, m.b + k * m.d - k * (m.a + k * m.c), m.c, m.d - k * m.c⟩
theorem cT_cj (m : M) : cj m (cT m) := ⟨tu, rfl, by unfold xm tu cT; apply M.ext' <;> dsimp only <;> omega⟩
theorem cS_cj (m : M) (k : Int) : cj m (cS m k) := ⟨sh k, by simp [xd, sh], by unfold xm sh cS; apply M.ext' <;> dsimp only <;> grind⟩
theorem cT_in {m : M} (h : inB m = true) : inB (cT m) = true := by
  rw [inB_iff] at *; unfold cT; dsimp only; omega
theorem cT_good {m : M} (h : goodM m) : goodM (cT m) := by
  refine ⟨cT_in h.1, (cj_xd (cT_cj m)).symm.trans h.2.1, ?_⟩
  have := cj_tr (cT_cj m); have := h.2.2; omega
theorem good_nz {m : M} (h : goodM m) : m.b ≠ 0 ∧ m.c ≠ 0 := by
  obtain ⟨a, b, c, d⟩ := m
  obtain ⟨-, h2, h3, -⟩ := h
  unfold xd at h2
  dsimp only at *
  have key : ¬ a * d = 1 := by
    intro e
    by_cases ha : 0 ≤ a
    · by_cases hd : 0 ≤ d
      · have := mul_pos_eq ha hd e; omega
      · have := Int.mul_nonneg (show 0 ≤ a by omega) (show 0 ≤ -d by omega); grind
    · by_cases hd : 0 ≤ d
      · have := Int.mul_nonneg (show 0 ≤ -a by omega) (show 0 ≤ d by omega); grind
      · have := mul_pos_eq (x := -a) (y := -d) (by omega) (by omega) (by grind); omega
  constructor
  · rintro rfl; apply key; grind
  · rintro rfl; apply key; grind
/-- what a shift to the next number leaves -/
theorem sq_le {x y : Int} (h1 : -y ≤ x) (h2 : x ≤ y) : x * x ≤ y * y := by
  have := Int.mul_nonneg (show 0 ≤ y - x by omega) (show 0 ≤ y + x by omega)
  grind
theorem cS_bd {m : M} (h : goodM m) {k : Int} (hk : -(m.c.natAbs : Int) ≤ 2 * k * m.c - (m.d - m.a) ∧ 2 * k * m.c - (m.d - m.a) ≤ m.c.natAbs) :
    goodM (cS m k) ∧ ((cS m k).b < 0 ↔ ¬ 0 < (cS m k).b) ∧ (((cS m k).b < 0 ∧ 0 < (cS m k).c ∨ 0 < (cS m k).b ∧ (cS m k).c < 0) → 4 * (cS m k).b.natAbs < (cS m k).c.natAbs) := by
  have hx := (cj_xd (cS_cj m k)).symm.trans h.2.1
  have ht := cj_tr (cS_cj m k)
  have hc0 := (good_nz h).2
  obtain ⟨hin, -, h3, h4⟩ := h
  rw [inB_iff] at hin
  have hcc : (cS m k).c = m.c := rfl
  have hxy : (cS m k).a - (cS m k).d = 2 * k * m.c - (m.d - m.a) := by unfold cS; dsimp only; grind
  rw [← hxy] at hk
  generalize cS m k = n at *
  obtain ⟨x, y, c, z⟩ := n
  dsimp only at *
  subst hcc
  unfold xd at hx
  dsimp only at hx
  have hq := sq_le hk.1 hk.2
  have hcq : (m.c.natAbs : Int) * m.c.natAbs = m.c * m.c := Int.natAbs_mul_self' _
  rw [hcq] at hq
  have e4 : 4 * (y * m.c) = (x + z) * (x + z) - (x - z) * (x - z) - 4 := by grind
  have ht1 := sq_le (x := x + z) (y := 2000) (by omega) (by omega)
  have ht2 := Int.mul_nonneg (show 0 ≤ x + z - 3 by omega) (show 0 ≤ x + z - 3 by omega)
  have ht3 : 9 ≤ (x + z) * (x + z) := by grind
  have hsq := Int.mul_nonneg (show 0 ≤ ((x - z).natAbs : Int) by omega) (show 0 ≤ ((x - z).natAbs : Int) by omega)
  have hsq' : 0 ≤ (x - z) * (x - z) := by rw [← Int.natAbs_mul_self' (x - z)]; exact hsq
  have hy0 : y ≠ 0 := by
    have hg : ∀ (g : M), goodM g → g.b ≠ 0 := fun g hg => (good_nz hg).1
    rintro rfl
    have key : ¬ x * z = 1 := by
      intro e
      by_cases ha : 0 ≤ x
      · by_cases hd : 0 ≤ z
        · have := mul_pos_eq ha hd e; omega
        · have := Int.mul_nonneg (show 0 ≤ x by omega) (show 0 ≤ -z by omega); grind
      · by_cases hd : 0 ≤ z
        · have := Int.mul_nonneg (show 0 ≤ -x by omega) (show 0 ≤ z by omega); grind
        · have := mul_pos_eq (x := -x) (y := -z) (by omega) (by omega) (by grind); omega
    apply key; grind
  have hneg : (y < 0 ∧ 0 < m.c ∨ 0 < y ∧ m.c < 0) → 4 * y.natAbs < m.c.natAbs := by
    intro hs
    apply Nat.lt_of_not_le
    intro hle
    have e5 : y * m.c = -((y.natAbs : Int) * m.c.natAbs) := by
      rcases hs with ⟨s1, s2⟩ | ⟨s1, s2⟩
      · rw [show (y.natAbs : Int) = -y from by omega, show (m.c.natAbs : Int) = m.c from by omega]; grind
      · rw [show (y.natAbs : Int) = y from by omega, show (m.c.natAbs : Int) = -m.c from by omega]; grind
    have e6 := Int.mul_nonneg (show 0 ≤ 4 * (y.natAbs : Int) - m.c.natAbs by omega) (show 0 ≤ (m.c.natAbs : Int) by omega)
    grind
  have hpos : ¬ (y < 0 ∧ 0 < m.c ∨ 0 < y ∧ m.c < 0) → y.natAbs ≤ 1000000 := by
    intro hs
    have e5 : y * m.c = (y.natAbs : Int) * m.c.natAbs := by
      by_cases s1 : 0 < y
      · rw [show (y.natAbs : Int) = y from by omega, show (m.c.natAbs : Int) = m.c from by omega]
      · rw [show (y.natAbs : Int) = -y from by omega, show (m.c.natAbs : Int) = -m.c from by omega]; grind
    have e6 := Int.mul_nonneg (show 0 ≤ (m.c.natAbs : Int) - 1 by omega) (show 0 ≤ (y.natAbs : Int) by omega)
    grind
  refine ⟨⟨inB_iff.2 ⟨by dsimp only; omega, ?_, by dsimp only; omega, by dsimp only; omega⟩, hx, by dsimp only; omega, by dsimp only; omega⟩, by omega, hneg⟩
  dsimp only
  by_cases hs : (y < 0 ∧ 0 < m.c ∨ 0 < y ∧ m.c < 0)
  · have := hneg hs; omega
  · have := hpos hs; omega
/-- the next number is near enough -/
theorem near_ok {u c : Int} (hc : c ≠ 0) : -(c.natAbs : Int) ≤ 2 * near u (2 * c) * c - u ∧ 2 * near u (2 * c) * c - u ≤ c.natAbs := by
  obtain ⟨b1, b2⟩ := near_bd (a := u) (c := 2 * c) (by omega)
  generalize near u (2 * c) = k at *
  rw [show k * (2 * c) = 2 * k * c from by grind] at b1 b2
  by_cases h : 0 < c
  · have := b1 (by omega); omega
  · have := b2 (by omega); omega
theorem near_ok' {u c : Int} (hc : c ≠ 0) : -(c.natAbs : Int) ≤ 2 * -near u (2 * c) * c - -u ∧ 2 * -near u (2 * c) * c - -u ≤ c.natAbs := by
  have := near_ok (u := u) hc
  rw [show 2 * -near u (2 * c) * c = -(2 * near u (2 * c) * c) from by grind]
  omega
/-- one round of the program's way -/
def nP (m : M) : Int := near ((cT m).d - (cT m).a) (2 * (cT m).c)
def stepP (m : M) : M := cS (cT m) (nP m)
theorem stepP_good {m : M} (h : goodM m) : goodM (stepP m) ∧ cj m (stepP m) := by
  refine ⟨(cS_bd (cT_good h) (near_ok (good_nz (cT_good h)).2)).1, cj_trans (cT_cj m) (cS_cj _ _)⟩
def isPos (m : M) : Bool := decide (1 ≤ m.b) && decide (1 ≤ m.c)
def muP (m : M) : Nat := if 1 ≤ m.b ∧ 1 ≤ m.c then 0 else if m.b < 0 ∧ m.c < 0 then 1 else 2 + m.b.natAbs
/-- the square of a nearer number -/
theorem near_mul {x z y b c a d : Int} (h1 : x * z - y * -b = 1) (h2 : a * d - b * c = 1) (h3 : a + d = x + z) (h4 : (x - z) * (x - z) ≤ (a - d) * (a - d)) (h5 : 1 ≤ b * c) : 1 ≤ y * -b := by
  have e1 : 4 * (x * z) = (x + z) * (x + z) - (x - z) * (x - z) := by grind
  have e2 : 4 * (a * d) = (a + d) * (a + d) - (a - d) * (a - d) := by grind
  rw [← h3] at e1
  generalize (a + d) * (a + d) = t at *
  generalize (x - z) * (x - z) = u at *
  generalize (a - d) * (a - d) = v at *
  generalize y * -b = r at *
  generalize b * c = q at *
  omega
theorem stepP_mu {m : M} (h : goodM m) (hp : ¬ (1 ≤ m.b ∧ 1 ≤ m.c)) : muP (stepP m) < muP m := by
  have hT := cT_good h
  have hn := near_ok (u := (cT m).d - (cT m).a) (good_nz hT).2
  obtain ⟨hg, -, hneg⟩ := cS_bd hT hn
  have hz := good_nz hg
  have hz0 := good_nz h
  have hc : (stepP m).c = -m.b := rfl
  change goodM (stepP m) at hg
  change (stepP m).b ≠ 0 ∧ (stepP m).c ≠ 0 at hz
  change ((stepP m).b < 0 ∧ 0 < (stepP m).c ∨ 0 < (stepP m).b ∧ (stepP m).c < 0) → 4 * (stepP m).b.natAbs < (stepP m).c.natAbs at hneg
  have hmul : m.b < 0 ∧ m.c < 0 → 0 < (stepP m).b := by
    rintro ⟨hb, hc0⟩
    have hxd := hg.2.1
    have hxd0 := h.2.1
    have htr := cj_tr (stepP_good h).2
    have hd : (stepP m).a - (stepP m).d = 2 * nP m * -m.b - (m.a - m.d) := by
      show ((cT m).a + nP m * (cT m).c) - ((cT m).d - nP m * (cT m).c) = _
      unfold cT; dsimp only; grind
    have hk : -(m.b.natAbs : Int) ≤ 2 * nP m * -m.b - (m.a - m.d) ∧ 2 * nP m * -m.b - (m.a - m.d) ≤ m.b.natAbs := by
      have : ((cT m).c).natAbs = m.b.natAbs := by show (-m.b).natAbs = _; omega
      rw [this] at hn
      exact hn
    have hs : ((stepP m).a - (stepP m).d) * ((stepP m).a - (stepP m).d) ≤ (m.a - m.d) * (m.a - m.d) := by
      rw [hd]
      generalize nP m = k at *
      by_cases hle : (m.b.natAbs : Int) ≤ (m.a - m.d).natAbs
      · have := sq_le (x := 2 * k * -m.b - (m.a - m.d)) (y := ((m.a - m.d).natAbs : Int)) (by omega) (by omega)
        rw [Int.natAbs_mul_self'] at this
        exact this
      · have hk0 : k = 0 := by
          apply Classical.byContradiction
          intro hk0
          by_cases hkp : 0 < k
          · have := Int.mul_nonneg (show 0 ≤ k - 1 by omega) (show 0 ≤ -m.b by omega)
            grind
          · have := Int.mul_nonneg (show 0 ≤ -k - 1 by omega) (show 0 ≤ -m.b by omega)
            grind
        subst hk0
        rw [show 2 * 0 * -m.b - (m.a - m.d) = -(m.a - m.d) from by omega, Int.neg_mul_neg]
        exact Int.le_refl _
    have hbc : 1 ≤ m.b * m.c := by
      have := Int.mul_nonneg (show 0 ≤ -m.b - 1 by omega) (show 0 ≤ -m.c - 1 by omega)
      grind
    unfold xd at hxd hxd0
    rw [hc] at hxd
    have hyb : 1 ≤ (stepP m).b * -m.b := near_mul hxd hxd0 htr hs hbc
    apply Classical.byContradiction
    intro hn0
    have := Int.mul_nonneg (show 0 ≤ -(stepP m).b by omega) (show 0 ≤ -m.b by omega)
    grind
  rw [hc] at hneg hz
  unfold muP
  rw [if_neg hp, hc]
  generalize (stepP m).b = y at *
  by_cases h1 : m.b < 0 ∧ m.c < 0
  · rw [if_pos h1]
    have := hmul h1
    rw [if_pos (by omega)]
    omega
  · rw [if_neg h1]
    by_cases h2 : 1 ≤ y ∧ 1 ≤ -m.b
    · rw [if_pos h2]; omega
    · rw [if_neg h2]
      by_cases h3 : y < 0 ∧ -m.b < 0
      · rw [if_pos h3]; omega
      · rw [if_neg h3]
        have := hneg (by omega)
        omega
def posF : Nat → M → M
  | 0, m => m
  | n + 1, m => if 1 ≤ m.b ∧ 1 ≤ m.c then m else posF n (stepP m)
def posP (m : M) : M := posF (muP m) m
theorem posF_pos {m : M} (h : 1 ≤ m.b ∧ 1 ≤ m.c) : ∀ n, posF n m = m
  | 0 => rfl
  | n + 1 => by rw [posF, if_pos h]
theorem posF_step {m : M} (h : ¬ (1 ≤ m.b ∧ 1 ≤ m.c)) {n : Nat} (hn : 1 ≤ n) : posF n m = posF (n - 1) (stepP m) := by
  obtain ⟨k, rfl⟩ : ∃ k, n = k + 1 := ⟨n - 1, by omega⟩
  rw [posF, if_neg h]; rfl
theorem posF_all : ∀ (n : Nat) (m : M), goodM m → muP m ≤ n → goodM (posF n m) ∧ cj m (posF n m) ∧ 1 ≤ (posF n m).b ∧ 1 ≤ (posF n m).c
  | 0, m, h, hm => by
    have : 1 ≤ m.b ∧ 1 ≤ m.c := by
      unfold muP at hm
      by_cases e : 1 ≤ m.b ∧ 1 ≤ m.c
      · exact e
      · rw [if_neg e] at hm; by_cases e2 : m.b < 0 ∧ m.c < 0
        · rw [if_pos e2] at hm; omega
        · rw [if_neg e2] at hm; omega
    exact ⟨h, cj_refl m, this⟩
  | n + 1, m, h, hm => by
    by_cases e : 1 ≤ m.b ∧ 1 ≤ m.c
    · rw [posF_pos e]; exact ⟨h, cj_refl m, e⟩
    · rw [posF, if_neg e]
      obtain ⟨h1, h2⟩ := stepP_good h
      obtain ⟨k1, k2, k3⟩ := posF_all n (stepP m) h1 (by have := stepP_mu h e; omega)
      exact ⟨k1, cj_trans h2 k2, k3⟩
theorem posP_all {m : M} (h : goodM m) : goodM (posP m) ∧ cj m (posP m) ∧ 1 ≤ (posP m).b ∧ 1 ≤ (posP m).c := posF_all _ m h (Nat.le_refl _)
/-- with such a trace all four are positive -/
theorem good_pos {m : M} (h : goodM m) (hb : 1 ≤ m.b ∧ 1 ≤ m.c) : pos m := by
  obtain ⟨-, h2, h3, -⟩ := h
  unfold xd at h2
  have h1 := Int.mul_nonneg (show 0 ≤ m.b - 1 by omega) (show 0 ≤ m.c - 1 by omega)
  have h4 : 2 ≤ m.a * m.d := by grind
  refine ⟨?_, hb.1, hb.2, ?_⟩
  · apply Classical.byContradiction; intro e
    have := Int.mul_nonneg (show 0 ≤ -m.a by omega) (show 0 ≤ m.d by omega)
    grind
  · apply Classical.byContradiction; intro e
    have := Int.mul_nonneg (show 0 ≤ m.a by omega) (show 0 ≤ -m.d by omega)
    grind
/-! the model's way -/
def nM (m : M) : Int := near (m.a - m.d) (2 * m.c)
def stM (m : M) : M := cS m (-nM m)
def stepM (m : M) : M := if (stM m).b < 0 ∧ ¬ (stM m).c < 0 ∨ ¬ (stM m).b < 0 ∧ (stM m).c < 0 then cT (stM m) else stM m
theorem stM_bd {m : M} (h : goodM m) : goodM (stM m) ∧ (((stM m).b < 0 ∧ 0 < (stM m).c ∨ 0 < (stM m).b ∧ (stM m).c < 0) → 4 * (stM m).b.natAbs < (stM m).c.natAbs) := by
  have hn := near_ok' (u := m.a - m.d) (good_nz h).2
  rw [show -(m.a - m.d) = m.d - m.a from by omega] at hn
  obtain ⟨h1, -, h3⟩ := cS_bd h hn
  exact ⟨h1, h3⟩
theorem stepM_good {m : M} (h : goodM m) : goodM (stepM m) ∧ cj m (stepM m) := by
  obtain ⟨h1, -⟩ := stM_bd h
  unfold stepM
  by_cases e : (stM m).b < 0 ∧ ¬ (stM m).c < 0 ∨ ¬ (stM m).b < 0 ∧ (stM m).c < 0
  · rw [if_pos e]; exact ⟨cT_good h1, cj_trans (cS_cj m _) (cT_cj _)⟩
  · rw [if_neg e]; exact ⟨h1, cS_cj m _⟩
def muM (m : M) : Nat := if (1 ≤ m.b ∧ 1 ≤ m.c) ∨ (m.b < 0 ∧ m.c < 0) then 0 else 1 + m.c.natAbs
theorem stepM_mu {m : M} (h : goodM m) (hp : ¬ ((1 ≤ m.b ∧ 1 ≤ m.c) ∨ (m.b < 0 ∧ m.c < 0))) : muM (stepM m) < muM m := by
  obtain ⟨h1, h2⟩ := stM_bd h
  have hz := good_nz h1
  have hc : (stM m).c = m.c := rfl
  rw [hc] at h2 hz
  unfold muM
  rw [if_neg hp]
  unfold stepM
  rw [hc]
  by_cases e : (stM m).b < 0 ∧ ¬ m.c < 0 ∨ ¬ (stM m).b < 0 ∧ m.c < 0
  · rw [if_pos e]
    have h3 := h2 (by omega)
    have : (cT (stM m)).c = -(stM m).b := rfl
    rw [this]
    by_cases e2 : (1 ≤ (cT (stM m)).b ∧ 1 ≤ -(stM m).b) ∨ ((cT (stM m)).b < 0 ∧ -(stM m).b < 0)
    · rw [if_pos e2]; omega
    · rw [if_neg e2]; omega
  · rw [if_neg e, hc, if_pos (by omega)]; omega
def monF : Nat → M → M
  | 0, m => if 1 ≤ m.b ∧ 1 ≤ m.c then m else cT m
  | n + 1, m => if 1 ≤ m.b ∧ 1 ≤ m.c then m else if m.b < 0 ∧ m.c < 0 then cT m else monF n (stepM m)
def monP (m : M) : M := monF (muM m) m
theorem monF_pos {m : M} (h : 1 ≤ m.b ∧ 1 ≤ m.c) : ∀ n, monF n m = m
  | 0 => by rw [monF, if_pos h]
  | n + 1 => by rw [monF, if_pos h]
theorem monF_neg {m : M} (h : m.b < 0 ∧ m.c < 0) : ∀ n, monF n m = cT m
  | 0 => by rw [monF, if_neg (by omega)]
  | n + 1 => by rw [monF, if_neg (by omega), if_pos h]
theorem monF_step {m : M} (h : ¬ ((1 ≤ m.b ∧ 1 ≤ m.c) ∨ (m.b < 0 ∧ m.c < 0))) {n : Nat} (hn : 1 ≤ n) : monF n m = monF (n - 1) (stepM m) := by
  obtain ⟨k, rfl⟩ : ∃ k, n = k + 1 := ⟨n - 1, by omega⟩
  rw [monF, if_neg (by omega), if_neg (by omega)]; rfl
theorem monF_all : ∀ (n : Nat) (m : M), goodM m → muM m ≤ n → goodM (monF n m) ∧ cj m (monF n m) ∧ 1 ≤ (monF n m).b ∧ 1 ≤ (monF n m).c := by
  intro n
  induction n with
  | zero =>
    intro m h hm
    by_cases e : 1 ≤ m.b ∧ 1 ≤ m.c
    · rw [monF_pos e]; exact ⟨h, cj_refl m, e⟩
    · by_cases e2 : m.b < 0 ∧ m.c < 0
      · rw [monF_neg e2]; refine ⟨cT_good h, cT_cj m, ?_⟩; unfold cT; dsimp only; omega
      · unfold muM at hm; rw [if_neg (by omega)] at hm; omega
  | succ n ih =>
    intro m h hm
    by_cases e : 1 ≤ m.b ∧ 1 ≤ m.c
    · rw [monF_pos e]; exact ⟨h, cj_refl m, e⟩
    · by_cases e2 : m.b < 0 ∧ m.c < 0
      · rw [monF_neg e2]; refine ⟨cT_good h, cT_cj m, ?_⟩; unfold cT; dsimp only; omega
      · rw [monF_step (by omega) (by omega)]
        obtain ⟨h1, h2⟩ := stepM_good h
        obtain ⟨k1, k2, k3⟩ := ih (stepM m) h1 (by have := stepM_mu h (by omega); omega)
        exact ⟨k1, cj_trans h2 k2, k3⟩
theorem monP_all {m : M} (h : goodM m) : goodM (monP m) ∧ cj m (monP m) ∧ 1 ≤ (monP m).b ∧ 1 ≤ (monP m).c := monF_all _ m h (Nat.le_refl _)
/-- the words of two conjugate positive matrices have one necklace -/
theorem nk_cj {m n : M} (hm : pos m) (hn : pos n) (dm : xd m = 1) (h : cj m n) : (wl m).length = (wl n).length ∧ nk (wl m) = nk (wl n) := by
  have dn : xd n = 1 := (cj_xd h).symm.trans dm
  have hm' : nnM m := ⟨by have := hm.1; omega, by have := hm.2.1; omega, by have := hm.2.2.1; omega, by have := hm.2.2.2; omega⟩
  have hn' : nnM n := ⟨by have := hn.1; omega, by have := hn.2.1; omega, by have := hn.2.2.1; omega, by have := hn.2.2.2; omega⟩
  obtain ⟨X, e1, e2⟩ := h
  have pm1 := pm_wl m hm' dm
  have pm2 := pm_wl n hn' dn
  obtain ⟨i, hi, e⟩ := conj_words (X := X) (u := wl m) (v := wl n) (lets_all _ _) (lets_all _ _) (by rw [pm1]; exact hm) (by rw [pm2]; exact hn) e1 (by rw [pm1, pm2]; exact e2)
  rw [e, rotW_len, nk_rot hi]
  exact ⟨rfl, rfl⟩
end Go.Proofs.Ythmlkmlgehheoaa
