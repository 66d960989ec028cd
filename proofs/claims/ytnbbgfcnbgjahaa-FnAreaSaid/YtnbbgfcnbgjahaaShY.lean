
/- Areas and edges of a list turned round, and of one moved: plain. No condition. -/
import Derived.Test.YtnbbgfcnbgjahaaShW
namespace Go.Proofs.Ytnbbgfcnbgjahaa
open Go.RowKit

def sumI (f : Nat → Int) : Nat → Int
  | 0 => 0
  | n + 1 => sumI f n + f n
theorem sumI_congr {f g : Nat → Int} : ∀ {n : Nat}, (∀ i, i < n → f i = g i) → sumI f n = sumI g n
  | 0, _ => rfl
  | n + 1, h => by rw [sumI, sumI, sumI_congr fun i hi => h i (by omega), h n (by omega)]
theorem sumI_first (f : Nat → Int) : ∀ n, sumI f (n + 1) = f 0 + sumI (fun i => f (i + 1)) n
  | 0 => by simp [sumI]
  | n + 1 => by rw [sumI, sumI_first f n, sumI]; omega
theorem sumI_rev (f : Nat → Int) : ∀ n, sumI f n = sumI (fun i => f (n - 1 - i)) n
  | 0 => rfl
  | n + 1 => by
    rw [sumI_first, sumI, sumI_rev (fun i => f (i + 1)) n, Int.add_comm]
    have e : sumI (fun i => f (n - 1 - i + 1)) n = sumI (fun i => f (n + 1 - 1 - i)) n := sumI_congr fun i hi => by rw [show n - 1 - i + 1 = n + 1 - 1 - i by omega]
    rw [e, show n + 1 - 1 - n = 0 by omega]
theorem sumI_neg (f : Nat → Int) : ∀ n, sumI (fun i => -f i) n = -sumI f n
  | 0 => rfl
  | n + 1 => by rw [sumI, sumI, sumI_neg f n]; omega
theorem sumI_add (f g : Nat → Int) : ∀ n, sumI (fun i => f i + g i) n = sumI f n + sumI g n
  | 0 => rfl
  | n + 1 => by rw [sumI, sumI, sumI, sumI_add f g n]; omega
theorem arS_sum (ps : List Pr2) : ∀ n, arS ps n = sumI (fun i => crsP (prevP ps i) (atP ps i)) n
  | 0 => rfl
  | n + 1 => by rw [arS, sumI, arS_sum ps n]
theorem mS_sum (ps : List Pr2) : ∀ n, mS ps n = sumI (fun i => crsP (atP ps i) (nextP ps i)) n
  | 0 => rfl
  | n + 1 => by rw [mS, sumI, mS_sum ps n]
def gdP (p q : Pr2) : Int := (Int.gcd (q.x - p.x) (q.y - p.y) : Nat)
theorem edS_sum (ps : List Pr2) : ∀ n, ((edS ps n : Nat) : Int) = sumI (fun i => gdP (prevP ps i) (atP ps i)) n
  | 0 => rfl
  | n + 1 => by rw [edS, sumI, ← edS_sum ps n]; simp [gdP]
theorem mE_sum (ps : List Pr2) : ∀ n, ((mE ps n : Nat) : Int) = sumI (fun i => gdP (atP ps i) (nextP ps i)) n
  | 0 => rfl
  | n + 1 => by rw [mE, sumI, ← mE_sum ps n]; simp [gdP]
theorem gdP_comm (p q : Pr2) : gdP p q = gdP q p := by
  unfold gdP
  rw [show q.x - p.x = -(p.x - q.x) by omega, show q.y - p.y = -(p.y - q.y) by omega, Int.neg_gcd, Int.gcd_neg]
theorem at_rev {ps : List Pr2} {i : Nat} (h : i < ps.length) : atP ps.reverse i = atP ps (ps.length - 1 - i) := by
  have h2 : ps.length - 1 - i < ps.length := by omega
  simp [atP, List.getD, h, h2]
theorem prev_rev {ps : List Pr2} {i : Nat} (h : i < ps.length) : prevP ps.reverse i = nextP ps (ps.length - 1 - i) := by
  unfold prevP nextP
  rw [List.length_reverse]
  split
  · rename_i h0
    subst h0
    rw [at_rev (by omega), show ps.length - 1 - 0 + 1 = ps.length by omega, Nat.mod_self, show ps.length - 1 - (ps.length - 1) = 0 by omega]
  · rw [at_rev (by omega), Nat.mod_eq_of_lt (by omega), show ps.length - 1 - (i - 1) = ps.length - 1 - i + 1 by omega]
theorem arS_rev {ps : List Pr2} (h : 1 ≤ ps.length) : arS ps.reverse ps.reverse.length = -arS ps ps.length := by
  rw [← mS_all h, mS_sum, arS_sum, List.length_reverse, ← sumI_neg, sumI_rev (fun i => -crsP (atP ps i) (nextP ps i))]
  exact sumI_congr fun i hi => by rw [at_rev hi, prev_rev hi, crs_swap]
theorem edS_rev {ps : List Pr2} (h : 1 ≤ ps.length) : edS ps.reverse ps.reverse.length = edS ps ps.length := by
  have e : ((edS ps.reverse ps.reverse.length : Nat) : Int) = (edS ps ps.length : Nat) := by
    rw [← mE_all h, mE_sum, edS_sum, List.length_reverse, sumI_rev (fun i => gdP (atP ps i) (nextP ps i))]
    exact sumI_congr fun i hi => by rw [at_rev hi, prev_rev hi, gdP_comm]
  exact Int.ofNat.inj e
/-- a pair that is 1 greater in X -/
def shX (p : Pr2) : Pr2 := ⟨p.x + 1, p.y⟩
theorem at_map {ps : List Pr2} {i : Nat} (h : i < ps.length) : atP (ps.map shX) i = shX (atP ps i) := by simp [atP, List.getD, h]
theorem prev_map {ps : List Pr2} {i : Nat} (h : i < ps.length) : prevP (ps.map shX) i = shX (prevP ps i) := by
  unfold prevP
  rw [List.length_map]
  split
  · exact at_map (by omega)
  · exact at_map (by omega)
theorem tel_y (ps : List Pr2) : ∀ n, sumI (fun i => (atP ps i).y - (prevP ps i).y) (n + 1) = (atP ps n).y - (atP ps (ps.length - 1)).y
  | 0 => by simp [sumI, prevP]
  | n + 1 => by
    rw [sumI, tel_y ps n]
    have : prevP ps (n + 1) = atP ps n := if_neg (by omega)
    rw [this]; omega
theorem arS_map {ps : List Pr2} (h : 1 ≤ ps.length) : arS (ps.map shX) (ps.map shX).length = arS ps ps.length := by
  obtain ⟨n, hn⟩ : ∃ n, ps.length = n + 1 := ⟨ps.length - 1, by omega⟩
  have e : arS (ps.map shX) (ps.map shX).length = sumI (fun i => crsP (prevP ps i) (atP ps i) + ((atP ps i).y - (prevP ps i).y)) ps.length := by
    rw [arS_sum, List.length_map]
    exact sumI_congr fun i hi => by rw [at_map hi, prev_map hi]; simp only [crsP, shX]; grind
  rw [e, sumI_add, arS_sum, hn, tel_y, hn, Nat.add_sub_cancel]; omega
theorem edS_map {ps : List Pr2} : edS (ps.map shX) (ps.map shX).length = edS ps ps.length := by
  have e : ((edS (ps.map shX) (ps.map shX).length : Nat) : Int) = (edS ps ps.length : Nat) := by
    rw [edS_sum, edS_sum, List.length_map]
    exact sumI_congr fun i hi => by
      rw [at_map hi, prev_map hi]
      simp only [gdP, shX]
      rw [show (atP ps i).x + 1 - ((prevP ps i).x + 1) = (atP ps i).x - (prevP ps i).x by omega]
  exact Int.ofNat.inj e
theorem absI_neg7 (x : Int) : absI (-x) = absI x := by unfold absI; split <;> split <;> omega
theorem area_facts {ps : List Pr2} (h : (mArea ps).2 = true) : mArea ps.reverse = mArea ps ∧ ((mArea (ps.reverse.map shX)).2 = true → mArea (ps.reverse.map shX) = mArea ps) := by
  have hk : arOk ps = true := by
    unfold mArea at h
    split at h
    · assumption
    · cases h
  have h3 : 1 ≤ ps.length := by
    simp only [arOk, Bool.and_eq_true, decide_eq_true_eq] at hk
    omega
  have hr : arOk ps.reverse = true := by
    simp only [arOk, Bool.and_eq_true, List.length_reverse] at hk ⊢
    refine ⟨hk.1, ?_⟩
    unfold inAll at hk ⊢
    rw [List.all_reverse]; exact hk.2
  have e1 : mArea ps.reverse = mArea ps := by
    simp only [mArea, hk, hr, if_true]
    rw [arS_rev h3, edS_rev h3, absI_neg7]
  refine ⟨e1, fun h2 => ?_⟩
  have hm : arOk (ps.reverse.map shX) = true := by
    unfold mArea at h2
    split at h2
    · assumption
    · cases h2
  rw [← e1]
  simp only [mArea, hm, hr, if_true]
  rw [arS_map (by rw [List.length_reverse]; exact h3), edS_map]
end Go.Proofs.Ytnbbgfcnbgjahaa
