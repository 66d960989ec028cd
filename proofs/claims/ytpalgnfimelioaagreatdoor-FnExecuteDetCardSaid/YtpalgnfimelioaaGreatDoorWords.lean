
/- Words of two letters, plain: letters, matrices of words, fractions and their letters, the way from one to the other. No walk. -/
import Derived.Test.YtpalgnfimelioaaGreatDoorPlain
namespace Go.Proofs.YtpalgnfimelioaaGreatDoor
open Go.RowKit

def letB (c : UInt8) : Bool := c == 76 || c == 82
def wdL (l : List UInt8) : Bool := l.all letB && decide (l.length ≤ 40)
/-- the text of a list of bytes -/
def txt (l : List UInt8) : ByteArray := ⟨l.toArray⟩
theorem txt_size (l : List UInt8) : (txt l).size = l.length := by simp [txt, ByteArray.size]
theorem txt_list (l : List UInt8) : (txt l).data.toList = l := by simp [txt]
theorem txt_of (s : ByteArray) : txt s.data.toList = s := by cases s; simp [txt]
def oth (c : UInt8) : UInt8 := if c = 76 then 82 else 76
theorem letB_iff {c : UInt8} : letB c = true ↔ c = 76 ∨ c = 82 := by simp [letB]
theorem oth_let (c : UInt8) : letB (oth c) = true := by unfold oth letB; by_cases h : c = 76 <;> simp [h]
theorem oth_oth {c : UInt8} (h : letB c = true) : oth (oth c) = c := by
  rcases letB_iff.1 h with rfl | rfl <;> decide

/-- a letter more behind, exact; as the model adds; the matrix of a letter -/
def sx (m : M) (c : UInt8) : M := if c = 76 then ⟨m.a + m.b, m.b, m.c + m.d, m.d⟩ else ⟨m.a, m.a + m.b, m.c, m.c + m.d⟩
def st (m : M) (c : UInt8) : M := if c = 76 then ⟨wrap64 (m.a + m.b), m.b, wrap64 (m.c + m.d), m.d⟩ else ⟨m.a, wrap64 (m.a + m.b), m.c, wrap64 (m.c + m.d)⟩
def lm (c : UInt8) : M := if c = 76 then ⟨1, 0, 1, 1⟩ else ⟨1, 1, 0, 1⟩
def pm (l : List UInt8) : M := l.foldl sx unitM
def sm (l : List UInt8) : M := l.foldl st unitM
def im (l : List UInt8) : M := l.foldl (fun m c => tm m (lm c)) unitM
theorem sm_snoc (l : List UInt8) (c : UInt8) : sm (l ++ [c]) = st (sm l) c := by simp [sm]
theorem im_snoc (l : List UInt8) (c : UInt8) : im (l ++ [c]) = tm (im l) (lm c) := by simp [im]

def nn (B : Nat) (m : M) : Prop := (0 ≤ m.a ∧ m.a ≤ B) ∧ (0 ≤ m.b ∧ m.b ≤ B) ∧ (0 ≤ m.c ∧ m.c ≤ B) ∧ (0 ≤ m.d ∧ m.d ≤ B)
theorem sx_nn {B : Nat} {m : M} (h : nn B m) (c : UInt8) : nn (B * 2) (sx m c) := by
  obtain ⟨h1, h2, h3, h4⟩ := h
  unfold sx nn
  by_cases e : c = 76 <;> simp only [e, if_true, if_false] <;> omega
theorem st_sx {B : Nat} {m : M} (h : nn B m) (hB : B ≤ 2000000000000000000) (c : UInt8) : st m c = sx m c := by
  obtain ⟨h1, h2, h3, h4⟩ := h
  unfold st sx
  rw [wrap_mid (x := m.a + m.b) (by omega), wrap_mid (x := m.c + m.d) (by omega)]
theorem tm_sx {B : Nat} {m : M} (h : nn B m) (hB : B ≤ 2000000000000000000) (c : UInt8) : tm m (lm c) = sx m c := by
  obtain ⟨h1, h2, h3, h4⟩ := h
  unfold tm lm sx
  by_cases e : c = 76
  · simp only [e, if_true, Int.mul_one, Int.mul_zero]
    rw [wrap_mid (x := m.a) (by omega), wrap_mid (x := m.b) (by omega), wrap_mid (x := m.c) (by omega), wrap_mid (x := m.d) (by omega), wrap_mid (x := (0 : Int)) (by omega),
      wrap_mid (x := m.a + m.b) (by omega), wrap_mid (x := m.c + m.d) (by omega), wrap_mid (x := 0 + m.b) (by omega), wrap_mid (x := 0 + m.d) (by omega)]
    simp
  · simp only [e, if_false, Int.mul_one, Int.mul_zero]
    rw [wrap_mid (x := m.a) (by omega), wrap_mid (x := m.b) (by omega), wrap_mid (x := m.c) (by omega), wrap_mid (x := m.d) (by omega), wrap_mid (x := (0 : Int)) (by omega),
      wrap_mid (x := m.a + m.b) (by omega), wrap_mid (x := m.c + m.d) (by omega), wrap_mid (x := m.a + 0) (by omega), wrap_mid (x := m.c + 0) (by omega)]
    simp
theorem pow_le {k : Nat} (h : k ≤ 60) : 2 ^ k ≤ 1152921504606846976 := Nat.le_trans (Nat.pow_le_pow_right (by omega) h) (by decide)
theorem folds_eq : ∀ (l : List UInt8) (k : Nat) (m : M), k + l.length ≤ 60 → nn (2 ^ k) m →
    l.foldl st m = l.foldl sx m ∧ l.foldl (fun m c => tm m (lm c)) m = l.foldl sx m ∧ nn (2 ^ (k + l.length)) (l.foldl sx m)
  | [], k, m, _, h => ⟨rfl, rfl, h⟩
  | c :: l, k, m, hk, h => by
    have hp := pow_le (k := k) (by simp at hk; omega)
    have h' : nn (2 ^ (k + 1)) (sx m c) := by rw [Nat.pow_succ]; exact sx_nn h c
    obtain ⟨e1, e2, e3⟩ := folds_eq l (k + 1) (sx m c) (by simp at hk; omega) h'
    simp only [List.foldl_cons, st_sx h (by omega) c, tm_sx h (by omega) c]
    exact ⟨e1, e2, by rw [List.length_cons, show k + (l.length + 1) = k + 1 + l.length from by omega]; exact e3⟩
theorem unit_nn : nn (2 ^ 0) unitM := by unfold nn unitM; decide
theorem sm_pm {l : List UInt8} (h : l.length ≤ 60) : sm l = pm l := (folds_eq l 0 unitM (by omega) unit_nn).1
theorem im_pm {l : List UInt8} (h : l.length ≤ 60) : im l = pm l := (folds_eq l 0 unitM (by omega) unit_nn).2.1
theorem pm_nn {l : List UInt8} (h : l.length ≤ 40) : nn 1099511627776 (pm l) := by
  have := (folds_eq l 0 unitM (by omega) unit_nn).2.2
  have hp : 2 ^ (0 + l.length) ≤ 1099511627776 := Nat.le_trans (Nat.pow_le_pow_right (by omega) (show 0 + l.length ≤ 40 by omega)) (by decide)
  obtain ⟨h1, h2, h3, h4⟩ := this
  unfold pm
  refine ⟨⟨h1.1, ?_⟩, ⟨h2.1, ?_⟩, ⟨h3.1, ?_⟩, ⟨h4.1, ?_⟩⟩ <;> omega
theorem sx_det (m : M) (c : UInt8) : xd (sx m c) = xd m := by
  unfold sx xd
  by_cases e : c = 76
  · simp only [e, if_true, Int.add_mul, Int.mul_add]; omega
  · simp only [e, if_false, Int.add_mul, Int.mul_add]; omega
theorem fold_det : ∀ (l : List UInt8) (m : M), xd (l.foldl sx m) = xd m
  | [], _ => rfl
  | c :: l, m => by rw [List.foldl_cons, fold_det l, sx_det]
theorem pm_det (l : List UInt8) : xd (pm l) = 1 := by rw [pm, fold_det]; rfl

/-- a letter more in front -/
def fx (c : UInt8) (m : M) : M := if c = 76 then ⟨m.a, m.b, m.a + m.c, m.b + m.d⟩ else ⟨m.a + m.c, m.b + m.d, m.c, m.d⟩
theorem sx_fx (c x : UInt8) (m : M) : sx (fx c m) x = fx c (sx m x) := by
  unfold sx fx
  by_cases e : c = 76 <;> by_cases k : x = 76 <;> simp only [e, k, if_true, if_false] <;> apply M.ext' <;> dsimp only <;> omega
theorem fold_fx (c : UInt8) : ∀ (l : List UInt8) (m : M), l.foldl sx (fx c m) = fx c (l.foldl sx m)
  | [], _ => rfl
  | x :: l, m => by rw [List.foldl_cons, List.foldl_cons, sx_fx, fold_fx c l]
theorem sx_unit (c : UInt8) : sx unitM c = fx c unitM := by unfold sx fx unitM; by_cases e : c = 76 <;> simp [e]
theorem pm_cons (c : UInt8) (l : List UInt8) : pm (c :: l) = fx c (pm l) := by rw [pm, List.foldl_cons, sx_unit, fold_fx]; rfl

/-- both numbers of the fraction of a word -/
def fp : List UInt8 → Nat × Nat
  | [] => (1, 1)
  | c :: l => if c = 76 then ((fp l).1, (fp l).2 + (fp l).1) else ((fp l).1 + (fp l).2, (fp l).2)
theorem fp_pos : ∀ l : List UInt8, 1 ≤ (fp l).1 ∧ 1 ≤ (fp l).2
  | [] => ⟨Nat.le_refl _, Nat.le_refl _⟩
  | c :: l => by
    have := fp_pos l
    unfold fp
    by_cases e : c = 76 <;> simp only [e, if_true, if_false] <;> omega
theorem pm_fp : ∀ l : List UInt8, (pm l).a + (pm l).b = ((fp l).1 : Int) ∧ (pm l).c + (pm l).d = ((fp l).2 : Int)
  | [] => ⟨rfl, rfl⟩
  | c :: l => by
    have := pm_fp l
    rw [pm_cons]
    unfold fp fx
    by_cases e : c = 76 <;> simp only [e, if_true, if_false] <;> omega
theorem fp_gcd : ∀ l : List UInt8, Nat.gcd (fp l).1 (fp l).2 = 1
  | [] => rfl
  | c :: l => by
    have := fp_gcd l
    unfold fp
    by_cases e : c = 76
    · simp only [e, if_true]; rw [Nat.gcd_add_self_right]; exact this
    · simp only [e, if_false]; rw [Nat.gcd_comm, Nat.gcd_add_self_right, Nat.gcd_comm]; exact this

/-- the letters of a fraction: R takes the lower number off the upper one, L the upper one off the lower one -/
def lets (p q : Nat) : List UInt8 :=
  if _h : p = q ∨ p = 0 ∨ q = 0 then [] else if q < p then 82 :: lets (p - q) q else 76 :: lets p (q - p)
termination_by p + q
decreasing_by all_goals omega
theorem lets_self (p : Nat) : lets p p = [] := by rw [lets]; simp
theorem lets_gt {p q : Nat} (hq : 0 < q) (h : q < p) : lets p q = 82 :: lets (p - q) q := by rw [lets, dif_neg (by omega), if_pos h]
theorem lets_lt {p q : Nat} (hp : 0 < p) (h : p < q) : lets p q = 76 :: lets p (q - p) := by rw [lets, dif_neg (by omega), if_neg (by omega)]
theorem lets_all (p q : Nat) : (lets p q).all letB = true := by
  induction h : p + q using Nat.strongRecOn generalizing p q with
  | ind n ih =>
    by_cases e : p = q ∨ p = 0 ∨ q = 0
    · rw [lets, dif_pos e]; rfl
    · by_cases k : q < p
      · rw [lets_gt (by omega) k, List.all_cons, ih (p - q + q) (by omega) (p - q) q rfl]; rfl
      · rw [lets_lt (by omega) (by omega), List.all_cons, ih (p + (q - p)) (by omega) p (q - p) rfl]; rfl
theorem lets_len (p q : Nat) : (lets p q).length ≤ p + q := by
  induction h : p + q using Nat.strongRecOn generalizing p q with
  | ind n ih =>
    by_cases e : p = q ∨ p = 0 ∨ q = 0
    · rw [lets, dif_pos e]; simp
    · by_cases k : q < p
      · have := ih (p - q + q) (by omega) (p - q) q rfl
        rw [lets_gt (by omega) k, List.length_cons]; omega
      · have := ih (p + (q - p)) (by omega) p (q - p) rfl
        rw [lets_lt (by omega) (by omega), List.length_cons]; omega
theorem lets_fp : ∀ {l : List UInt8}, l.all letB = true → lets (fp l).1 (fp l).2 = l
  | [], _ => lets_self 1
  | c :: l, h => by
    simp only [List.all_cons, Bool.and_eq_true] at h
    have := fp_pos l
    have ih := lets_fp h.2
    unfold fp
    rcases letB_iff.1 h.1 with rfl | rfl
    · simp only [if_true]
      rw [lets_lt (by omega) (by omega), show (fp l).2 + (fp l).1 - (fp l).1 = (fp l).2 from by omega, ih]
    · simp only [show ((82 : UInt8) = 76) = False from by simp, if_false]
      rw [lets_gt (by omega) (by omega), show (fp l).1 + (fp l).2 - (fp l).2 = (fp l).1 from by omega, ih]
theorem gcd_sub {p q : Nat} (h : q ≤ p) : Nat.gcd (p - q) q = Nat.gcd p q := by
  conv => rhs; rw [show p = q + (p - q) from by omega, Nat.gcd_comm, Nat.add_comm, Nat.gcd_add_self_right, Nat.gcd_comm]
theorem fp_lets (p q : Nat) (hp : 0 < p) (hq : 0 < q) (hg : Nat.gcd p q = 1) : fp (lets p q) = (p, q) := by
  induction h : p + q using Nat.strongRecOn generalizing p q with
  | ind n ih =>
    by_cases e : p = q
    · subst e; rw [Nat.gcd_self] at hg; subst hg; rw [lets_self]; rfl
    · by_cases k : q < p
      · rw [lets_gt hq k, fp, ih (p - q + q) (by omega) (p - q) q (by omega) hq (by rw [gcd_sub (by omega)]; exact hg) rfl]
        simp; omega
      · rw [lets_lt hp (by omega), fp, ih (p + (q - p)) (by omega) p (q - p) hp (by omega) (by rw [Nat.gcd_comm, gcd_sub (by omega), Nat.gcd_comm]; exact hg) rfl]
        simp; omega

/-! ### rows of an even matrix without negative numbers -/
theorem rows_cmp {a b c d : Int} (ha : 0 ≤ a) (hb : 0 ≤ b) (hc : 0 ≤ c) (hd : 0 ≤ d) (h : a * d - b * c = 1) (hne : ¬ (a = 1 ∧ b = 0 ∧ c = 0 ∧ d = 1)) :
    (c ≤ a ∧ d ≤ b ∧ c + d < a + b) ∨ (a ≤ c ∧ b ≤ d ∧ a + b < c + d) := by
  by_cases h1 : c ≤ a
  · by_cases h2 : d ≤ b
    · refine .inl ⟨h1, h2, ?_⟩
      by_cases e : c + d < a + b
      · exact e
      · obtain rfl : a = c := by omega
        obtain rfl : b = d := by omega
        rw [Int.mul_comm] at h; omega
    · by_cases e : a = c
      · exact .inr ⟨by omega, by omega, by omega⟩
      · exfalso
        have k1 := Int.mul_nonneg (show 0 ≤ a - (c + 1) by omega) hd
        have k2 := Int.mul_nonneg (show 0 ≤ c + 1 by omega) (show 0 ≤ d - (b + 1) by omega)
        simp only [Int.sub_mul, Int.mul_sub, Int.add_mul, Int.mul_add, Int.one_mul, Int.mul_one] at k1 k2
        have k3 := Int.mul_comm b c
        have hb0 : b = 0 := by omega
        have hc0 : c = 0 := by omega
        subst hb0 hc0
        have h' : a * d = 1 := by omega
        have ha1 : a = 1 := by
          by_cases e1 : a = 1
          · exact e1
          · have := Int.mul_nonneg (show 0 ≤ a - 2 by omega) (show 0 ≤ d - 1 by omega)
            simp only [Int.sub_mul, Int.mul_sub, Int.mul_one] at this
            omega
        subst ha1
        exact hne ⟨rfl, rfl, rfl, by omega⟩
  · by_cases h2 : b ≤ d
    · exact .inr ⟨by omega, h2, by omega⟩
    · exfalso
      have k1 := Int.mul_nonneg (show 0 ≤ b - (d + 1) by omega) hc
      have k2 := Int.mul_nonneg (show 0 ≤ d + 1 by omega) (show 0 ≤ c - (a + 1) by omega)
      simp only [Int.sub_mul, Int.mul_sub, Int.add_mul, Int.mul_add, Int.one_mul, Int.mul_one] at k1 k2
      have k3 := Int.mul_comm d a
      omega
def nnM (m : M) : Prop := 0 ≤ m.a ∧ 0 ≤ m.b ∧ 0 ≤ m.c ∧ 0 ≤ m.d
theorem unit_iff {m : M} : m = unitM ↔ (m.a = 1 ∧ m.b = 0 ∧ m.c = 0 ∧ m.d = 1) := by
  constructor
  · rintro rfl; exact ⟨rfl, rfl, rfl, rfl⟩
  · rintro ⟨h1, h2, h3, h4⟩; exact M.ext' h1 h2 h3 h4
/-- one step of the model's way from a matrix to its word, and of the program's from its fraction -/
def lesR (m : M) : M := ⟨m.a - m.c, m.b - m.d, m.c, m.d⟩
def lesL (m : M) : M := ⟨m.a, m.b, m.c - m.a, m.d - m.b⟩
def P1 (m : M) : Nat := (m.a + m.b).toNat
def P2 (m : M) : Nat := (m.c + m.d).toNat
theorem ev_pos {m : M} (h : nnM m) (hd : xd m = 1) : 0 < P1 m ∧ 0 < P2 m := by
  obtain ⟨h1, h2, h3, h4⟩ := h
  unfold P1 P2
  unfold xd at hd
  refine ⟨?_, ?_⟩
  · by_cases e : m.a + m.b = 0
    · have e1 : m.a = 0 := by omega
      have e2 : m.b = 0 := by omega
      rw [e1, e2] at hd; simp at hd
    · omega
  · by_cases e : m.c + m.d = 0
    · have e1 : m.c = 0 := by omega
      have e2 : m.d = 0 := by omega
      rw [e1, e2] at hd; simp at hd
    · omega
theorem ev_R {m : M} (h : nnM m) (hd : xd m = 1) (hne : m ≠ unitM) (h1 : m.c ≤ m.a) (h2 : m.d ≤ m.b) :
    nnM (lesR m) ∧ xd (lesR m) = 1 ∧ P2 m < P1 m ∧ P1 (lesR m) = P1 m - P2 m ∧ P2 (lesR m) = P2 m := by
  obtain ⟨k1, k2, k3, k4⟩ := h
  have hd' := hd
  unfold xd at hd'
  have hc := rows_cmp k1 k2 k3 k4 hd' (fun e => hne (unit_iff.2 e))
  refine ⟨⟨by simp only [lesR]; omega, by simp only [lesR]; omega, k3, k4⟩, ?_, ?_, ?_, rfl⟩
  · simp only [xd, lesR, Int.sub_mul]; have := Int.mul_comm m.d m.c; omega
  · unfold P1 P2; omega
  · unfold P1 P2 lesR; dsimp only; omega
theorem ev_L {m : M} (h : nnM m) (hd : xd m = 1) (hne : m ≠ unitM) (h1 : ¬ (m.c ≤ m.a ∧ m.d ≤ m.b)) :
    nnM (lesL m) ∧ xd (lesL m) = 1 ∧ P1 m < P2 m ∧ P2 (lesL m) = P2 m - P1 m ∧ P1 (lesL m) = P1 m := by
  obtain ⟨k1, k2, k3, k4⟩ := h
  have hd' := hd
  unfold xd at hd'
  have hc := rows_cmp k1 k2 k3 k4 hd' (fun e => hne (unit_iff.2 e))
  refine ⟨⟨k1, k2, by simp only [lesL]; omega, by simp only [lesL]; omega⟩, ?_, ?_, ?_, rfl⟩
  · simp only [xd, lesL, Int.mul_sub]; have := Int.mul_comm m.b m.a; omega
  · unfold P1 P2; omega
  · unfold P1 P2 lesL; dsimp only; omega
/-- the letters of an even matrix without negative numbers -/
def wl (m : M) : List UInt8 := lets (P1 m) (P2 m)
theorem wl_unit : wl unitM = [] := lets_self 1
theorem wl_R {m : M} (h : nnM m) (hd : xd m = 1) (hne : m ≠ unitM) (h1 : m.c ≤ m.a) (h2 : m.d ≤ m.b) : wl m = 82 :: wl (lesR m) := by
  obtain ⟨_, _, e3, e4, e5⟩ := ev_R h hd hne h1 h2
  unfold wl
  rw [e4, e5]
  exact lets_gt (ev_pos h hd).2 e3
theorem wl_L {m : M} (h : nnM m) (hd : xd m = 1) (hne : m ≠ unitM) (h1 : ¬ (m.c ≤ m.a ∧ m.d ≤ m.b)) : wl m = 76 :: wl (lesL m) := by
  obtain ⟨_, _, e3, e4, e5⟩ := ev_L h hd hne h1
  unfold wl
  rw [e4, e5]
  exact lets_lt (ev_pos h hd).1 e3
theorem pm_wl (m : M) (h : nnM m) (hd : xd m = 1) : pm (wl m) = m := by
  induction hn : P1 m + P2 m using Nat.strongRecOn generalizing m with
  | ind n ih =>
    by_cases e : m = unitM
    · subst e; rw [wl_unit]; rfl
    · have hp := ev_pos h hd
      by_cases k : m.c ≤ m.a ∧ m.d ≤ m.b
      · obtain ⟨e1, e2, e3, e4, e5⟩ := ev_R h hd e k.1 k.2
        rw [wl_R h hd e k.1 k.2, pm_cons, ih _ (by omega) (lesR m) e1 e2 rfl]
        unfold fx lesR
        refine M.ext' ?_ ?_ ?_ ?_ <;> simp
      · obtain ⟨e1, e2, e3, e4, e5⟩ := ev_L h hd e k
        rw [wl_L h hd e k, pm_cons, ih _ (by omega) (lesL m) e1 e2 rfl]
        unfold fx lesL
        refine M.ext' ?_ ?_ ?_ ?_ <;> simp <;> omega
theorem pm_nnM {l : List UInt8} (h : l.length ≤ 40) : nnM (pm l) := by
  obtain ⟨h1, h2, h3, h4⟩ := pm_nn h
  exact ⟨h1.1, h2.1, h3.1, h4.1⟩
theorem wl_pm {l : List UInt8} (h : l.all letB = true) : wl (pm l) = l := by
  have := pm_fp l
  unfold wl P1 P2
  rw [this.1, this.2]
  exact lets_fp h
end Go.Proofs.YtpalgnfimelioaaGreatDoor
