
/- First pairs are first, moves lead back: plain, and the laws walked over every slice of bytes. -/
import Derived.Test.YthblmkpannfbaaaLawMs
import Derived.Test.YthblmkpannfbaaaMoT
namespace Go.Proofs.Ythblmkpannfbaaa
open Go.RowKit

/-- pairs one ahead of the other -/
theorem fst_ok {k x y : Nat} (h : ptB k x y = true) : oneP k x y (fstP k x y) = true ∧ (fstP k x y).1 < k ∧ (fstP k x y).2 < k := by
  have hp := ptB_nat h
  obtain ⟨x', y', e1, e2, h1, h2⟩ := hp
  have : ((prs k).find? (oneP k x y)).isSome = true := by
    rw [List.find?_isSome]
    exact ⟨(x, y), prs_has (by omega) (by omega), by simp [oneP, h, saB, Int.mul_comm]⟩
  obtain ⟨q, hq⟩ := Option.isSome_iff_exists.1 this
  have e : fstP k x y = q := by simp [fstP, hq]
  rw [e]
  exact ⟨List.find?_some hq, prs_mem (List.mem_of_find?_eq_some hq)⟩
theorem prs_split (k : Nat) {x y u v : Nat} (hu : u < k) (hv : v < k) (l1 l2 : List (Nat × Nat)) (hs : prs k = l1 ++ (x, y) :: l2) (hm : (u, v) ∉ l1) : x < u ∨ x = u ∧ y ≤ v := by
  have hx : (x, y) ∈ prs k := by rw [hs]; simp
  obtain ⟨hx1, hy1⟩ := prs_mem hx
  have hn : (prs k).length = k * k := prs_len k
  have g : ∀ i (h : i < (prs k).length), (prs k)[i] = (i / k, i % k) := fun i h => by simp [prs]
  have hl : l1.length < (prs k).length := by rw [hs]; simp
  have e1 : (prs k)[l1.length] = (x, y) := by simp [hs]
  rw [g] at e1
  have hk : 0 < k := by omega
  have ei : l1.length = k * x + y := by
    have := Nat.div_add_mod l1.length k
    obtain ⟨a1, a2⟩ := Prod.mk.inj e1
    rw [a1, a2] at this
    omega
  have hj : k * u + v < (prs k).length := by
    rw [hn]
    have : k * (u + 1) ≤ k * k := Nat.mul_le_mul_left k hu
    rw [Nat.mul_succ] at this
    omega
  have gj : (prs k)[k * u + v] = (u, v) := by
    rw [g]
    simp only [Nat.mul_add_div hk, Nat.div_eq_of_lt hv, Nat.mul_add_mod, Nat.mod_eq_of_lt hv, Nat.add_zero]
  have hge : l1.length ≤ k * u + v := by
    rcases Nat.lt_or_ge (k * u + v) l1.length with hlt | hge
    · exfalso
      apply hm
      have : (prs k)[k * u + v] = l1[k * u + v] := by simp [hs, List.getElem_append_left hlt]
      rw [gj] at this
      rw [this]
      exact List.getElem_mem hlt
    · exact hge
  rcases Nat.lt_trichotomy x u with h | h | h
  · exact .inl h
  · subst h; exact .inr ⟨rfl, by omega⟩
  · exfalso
    have : k * (u + 1) ≤ k * x := Nat.mul_le_mul_left k h
    rw [Nat.mul_succ] at this
    omega
theorem fst_le {k x y : Nat} {q : Nat × Nat} (h : (prs k).find? (oneP k x y) = some q) {u v : Nat} (hu : u < k) (hv : v < k) (ho : oneP k x y (u, v) = true) : q.1 < u ∨ q.1 = u ∧ q.2 ≤ v := by
  rw [List.find?_eq_some_iff_append] at h
  obtain ⟨_, l1, l2, hs, hall⟩ := h
  refine prs_split k hu hv l1 l2 hs fun hm => ?_
  have := hall _ hm
  simp [ho] at this
theorem sa_iff {k x y u v : Int} : saB k x y u v = true ↔ k ∣ x * v - y * u := by
  rw [saB, beq_iff_eq]
  exact ⟨Int.dvd_of_emod_eq_zero, Int.emod_eq_zero_of_dvd⟩
theorem sa_symm {k x y u v : Int} (h : saB k x y u v = true) : saB k u v x y = true := by
  rw [sa_iff] at h ⊢
  obtain ⟨t, ht⟩ := h
  exact ⟨-t, by grind⟩
theorem sa_trans {k x y u v r s : Nat} (hp : ptB k u v = true) (h1 : saB k x y u v = true) (h2 : saB k u v r s = true) : saB k x y r s = true := by
  rw [sa_iff] at h1 h2 ⊢
  obtain ⟨t1, e1⟩ := h1
  obtain ⟨t2, e2⟩ := h2
  have d1 : (k : Int) ∣ u * ((x : Int) * s - y * r) := ⟨x * t2 + r * t1, by grind⟩
  have d2 : (k : Int) ∣ v * ((x : Int) * s - y * r) := ⟨s * t1 + y * t2, by grind⟩
  simp only [ptB, Bool.and_eq_true, rsB_iff, beq_iff_eq, Int.toNat_natCast] at hp
  obtain ⟨_, hg⟩ := hp
  generalize (x : Int) * s - y * r = D at *
  have n1 : k ∣ u * D.natAbs := by
    have := Int.natAbs_dvd_natAbs.2 d1
    rwa [Int.natAbs_mul, Int.natAbs_natCast, Int.natAbs_natCast] at this
  have n2 : k ∣ v * D.natAbs := by
    have := Int.natAbs_dvd_natAbs.2 d2
    rwa [Int.natAbs_mul, Int.natAbs_natCast, Int.natAbs_natCast] at this
  have n3 : k ∣ Nat.gcd (Nat.gcd (k * D.natAbs) (u * D.natAbs)) (v * D.natAbs) := Nat.dvd_gcd (Nat.dvd_gcd (Nat.dvd_mul_right _ _) n1) n2
  rw [Nat.gcd_mul_right, Nat.gcd_mul_right, hg, Nat.one_mul] at n3
  exact Int.dvd_natAbs.1 (Int.natCast_dvd_natCast.2 n3)
theorem fst_eq {k x y u v : Nat} (h1 : ptB k x y = true) (h2 : ptB k u v = true) (hs : saB k x y u v = true) : fstP k x y = fstP k u v := by
  have e : (prs k).find? (oneP k x y) = (prs k).find? (oneP k u v) := by
    refine congrArg (fun f => (prs k).find? f) (funext fun q => ?_)
    simp only [oneP]
    have : saB k x y q.1 q.2 = saB k u v q.1 q.2 := by
      rw [Bool.eq_iff_iff]
      exact ⟨fun h => sa_trans h1 (sa_symm hs) h, fun h => sa_trans h2 hs h⟩
    rw [this]
  have i1 : ((prs k).find? (oneP k u v)).isSome = true := by
    obtain ⟨x', y', e1, e2, g1, g2⟩ := ptB_nat h2
    rw [List.find?_isSome]
    exact ⟨(u, v), prs_has (by omega) (by omega), by simp [oneP, h2, saB, Int.mul_comm]⟩
  obtain ⟨q, hq⟩ := Option.isSome_iff_exists.1 i1
  simp [fstP, e, hq]
theorem point_facts {n x y : Int} (h : (mPt n x y).2 = true) : ∃ p q : Int, mPt n x y = ((p, q), true) ∧ mPt n p q = ((p, q), true) ∧ (p < x ∨ p = x ∧ q ≤ y) := by
  unfold mPt at h
  cases h1 : mdB n
  · simp [h1] at h
  · cases h2 : ptB n x y
    · simp [h2] at h
    · obtain ⟨k, rfl, hk1, hk2⟩ := mdB_nat h1
      obtain ⟨x, y, rfl, rfl, hx, hy⟩ := ptB_nat h2
      obtain ⟨ho, g1, g2⟩ := fst_ok h2
      have hle : (fstP k x y).1 < x ∨ (fstP k x y).1 = x ∧ (fstP k x y).2 ≤ y := by
        have i1 : ((prs k).find? (oneP k x y)).isSome = true := by
          rw [List.find?_isSome]
          exact ⟨(x, y), prs_has (by omega) (by omega), by simp [oneP, h2, saB, Int.mul_comm]⟩
        obtain ⟨q, hq⟩ := Option.isSome_iff_exists.1 i1
        have e : fstP k x y = q := by simp [fstP, hq]
        rw [e]
        exact fst_le hq (by omega) (by omega) (by simp [oneP, h2, saB, Int.mul_comm])
      simp only [oneP, Bool.and_eq_true] at ho
      have e2 := fst_eq ho.2 h2 (sa_symm ho.1)
      refine ⟨(fstP k x y).1, (fstP k x y).2, by simp [mPt, h1, h2], ?_, by omega⟩
      have : fstP k (fstP k x y).1 (fstP k x y).2 = fstP k x y := e2
      simp [mPt, h1, ho.2, this]
theorem pt_none {n x y : Int} (h : (mPt n x y).2 = false) : mPt n x y = ((0, 0), false) := by
  unfold mPt at h ⊢
  split
  · rename_i hh; rw [if_pos hh] at h; cases h
  · rfl
theorem mv_none {m : M} {n x y : Int} (h : (mMv m n x y).2 = false) : mMv m n x y = ((0, 0), false) := by
  unfold mMv at h ⊢
  split
  · rename_i hh; rw [if_pos hh] at h; cases h
  · rfl
theorem back_dvd {k x y a b c d p q X Y t1 t2 d0 b0 c0 a0 w1 w2 w3 w4 X' Y' t3 t4 e : Int} (q1 : X + k * t1 = a * x + b * y) (q2 : Y + k * t2 = c * x + d * y) (q3 : X' + k * t3 = d0 * p + b0 * q) (q4 : Y' + k * t4 = c0 * p + a0 * q)
    (s1 : d0 + k * w1 = d) (s2 : b0 + k * w2 = -b) (s3 : c0 + k * w3 = -c) (s4 : a0 + k * w4 = a) (he : X * q - Y * p = k * e) :
    X' * y - Y' * x = k * -(e + q * t1 - p * t2 - x * (w3 * p + w4 * q + t4) + y * (w1 * p + w2 * q + t3)) := by
  obtain rfl : b = -(b0 + k * w2) := by omega
  obtain rfl : c = -(c0 + k * w3) := by omega
  subst s1 s4
  obtain rfl : X' = d0 * p + b0 * q - k * t3 := by omega
  obtain rfl : Y' = c0 * p + a0 * q - k * t4 := by omega
  grind
theorem move_rest_facts {m : M} {n x y : Int} (h : (mMv m n x y).2 = true) : ∃ p q u v : Int, mMv m n x y = ((p, q), true) ∧ mmi m = (mi m, true) ∧ mRestOf (mi m) n = (rsM n (mi m), true) ∧
    mMv (rsM n (mi m)) n p q = ((u, v), true) ∧ mPt n x y = ((u, v), true) := by
  unfold mMv at h
  cases h1 : mRestEven m n
  · simp [h1] at h
  · cases h2 : ptB n x y
    · simp [h2] at h
    · obtain ⟨f1, f2, _, _, f5, _⟩ := even_rest_facts h1
      have h1' := h1
      simp only [mRestEven, Bool.and_eq_true] at h1'
      have hmd := h1'.1
      obtain ⟨k, rfl, hk1, hk2⟩ := mdB_nat hmd
      obtain ⟨x, y, rfl, rfl, hx, hy⟩ := ptB_nat h2
      have hk : 2 ≤ k ∧ k ≤ 12 := ⟨hk1, hk2⟩
      have hin : inB m = true := by
        have := h1'.2
        simp only [reB, Bool.and_eq_true] at this
        exact rbM_in hmd this.1
      have hP := ptB_led hk h1'.2 h2
      obtain ⟨ho, g1, g2⟩ := fst_ok hP
      have hq : ledP k m x y = fstP k (ldX m x y % k).toNat (ldY m x y % k).toNat := rfl
      rw [← hq] at ho g1 g2
      obtain ⟨Q, hL⟩ : ∃ Q, ledP k m x y = Q := ⟨_, rfl⟩
      rw [hL] at ho g1 g2
      clear hq
      obtain ⟨p, q⟩ := Q
      simp only [oneP, Bool.and_eq_true] at ho
      obtain ⟨ho1, ho2⟩ := ho
      dsimp only at g1 g2
      have f5' := f5
      simp only [mRestEven, Bool.and_eq_true] at f5'
      have hP2 := ptB_led hk f5'.2 ho2
      have b1 := rs_bd (x := ldX m x y) (n := k) (by omega)
      have b2 := rs_bd (x := ldY m x y) (n := k) (by omega)
      have b3 := rs_bd (x := ldX (rsM k (mi m)) p q) (n := k) (by omega)
      have b4 := rs_bd (x := ldY (rsM k (mi m)) p q) (n := k) (by omega)
      have hs : saB k (((ldX (rsM k (mi m)) p q % k).toNat : Nat)) (((ldY (rsM k (mi m)) p q % k).toNat : Nat)) x y = true := by
        rw [sa_iff] at ho1 ⊢
        obtain ⟨e, he⟩ := ho1
        rw [Int.toNat_of_nonneg b1.1, Int.toNat_of_nonneg b2.1] at he
        rw [Int.toNat_of_nonneg b3.1, Int.toNat_of_nonneg b4.1]
        have q1 := Int.emod_add_mul_ediv (ldX m x y) k
        have q2 := Int.emod_add_mul_ediv (ldY m x y) k
        have q3 := Int.emod_add_mul_ediv (ldX (rsM k (mi m)) p q) k
        have q4 := Int.emod_add_mul_ediv (ldY (rsM k (mi m)) p q) k
        have s1 := Int.emod_add_mul_ediv m.d k
        have s2 := Int.emod_add_mul_ediv (-m.b) k
        have s3 := Int.emod_add_mul_ediv (-m.c) k
        have s4 := Int.emod_add_mul_ediv m.a k
        generalize ldX m x y % k = X at *
        generalize ldY m x y % k = Y at *
        generalize ldX m x y / k = t1 at *
        generalize ldY m x y / k = t2 at *
        generalize ldX (rsM k (mi m)) p q % k = X' at *
        generalize ldY (rsM k (mi m)) p q % k = Y' at *
        generalize ldX (rsM k (mi m)) p q / k = t3 at *
        generalize ldY (rsM k (mi m)) p q / k = t4 at *
        rw [mi_x hin] at q3 q4
        simp only [ldX, ldY, rsM] at q1 q2 q3 q4
        generalize m.d % k = d0 at *
        generalize (-m.b) % k = b0 at *
        generalize (-m.c) % k = c0 at *
        generalize m.a % k = a0 at *
        generalize m.d / k = w1 at *
        generalize (-m.b) / k = w2 at *
        generalize (-m.c) / k = w3 at *
        generalize m.a / k = w4 at *
        exact ⟨_, back_dvd q1 q2 q3 q4 s1 s2 s3 s4 he⟩
      refine ⟨p, q, (fstP k x y).1, (fstP k x y).2, ?_, f1, f2, ?_, by simp [mPt, hmd, h2]⟩
      · simp only [mMv, h1, h2, Bool.and_self, if_true, Int.toNat_natCast]
        rw [hL]
      · simp only [mMv, f5, ho2, Bool.and_self, if_true, Int.toNat_natCast]
        rw [show ledP k (rsM k (mi m)) p q = fstP k x y from fst_eq hP2 h2 hs]
end Go.Proofs.Ythblmkpannfbaaa
