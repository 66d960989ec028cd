
/- The model's points, walked. No condition. -/
import Derived.Test.YthblmkpannfbaaaMoS
import Derived.Test.YthblmkpannfbaaaMoR
namespace Go.Proofs.Ythblmkpannfbaaa
open Go.RowKit

theorem tmod_nat' (x y : Nat) : (x : Int).tmod (y : Int) = ((x % y : Nat) : Int) := by rw [Int.tmod_eq_emod_of_nonneg (by omega)]; omega
set_option maxHeartbeats 1000000 in
theorem gcdS_ (a b : Nat) (ha : a ≤ 1000000000000) (hb : b ≤ 1000000000000) (w : World) : Calls Try.prog 57 #[.int .i64 a, .int .i64 b] w (fun E' W' => E' = .returned (.int .i64 (Nat.gcd a b : Nat)) ∧ w = W') := by
  go_enter Try.func57, Try.ntmps57
  go_wp2
  go_loop [0, 1] (fun v0 v1 => ∃ x y : Nat, v0 = .int .i64 x ∧ v1 = .int .i64 y ∧ x ≤ 1000000000000 ∧ y ≤ 1000000000000 ∧ Nat.gcd x y = Nat.gcd a b) (fun _ v1 => (intOf v1).toNat)
  case atStart => exact ⟨a, b, rfl, rfl, ha, hb, rfl⟩
  case round =>
    obtain ⟨x, y, rfl, rfl, hx, hy, hg⟩ := hrel
    have HG := Lib.hid hg
    clear hg
    by_cases h0 : y = 0
    · subst h0
      have hlt : ((0 : Int) - (x : Int) > (x : Int)) = False := by simp
      go_wp2
      go_ret
      have := HG.out
      rw [Nat.gcd_zero_right] at this
      refine ⟨?_, rfl⟩
      rw [← this]
      simp
    · have hy0 : ((y : Int) == 0) = false := by simp; omega
      have hy1 : ((y : Int) != 0) = true := by simp; omega
      have ht := tmod_nat' x y
      have hlt : x % y < y := Nat.mod_lt _ (by omega)
      have HE := Lib.hid (show Nat.gcd y (x % y) = Nat.gcd x y from by rw [Nat.gcd_comm, ← Nat.gcd_rec, Nat.gcd_comm])
      go_wp2
      go_round
      case rel => exact ⟨y, x % y, rfl, by simp, by omega, by omega, by rw [HE.out, HG.out]⟩
      case measure => simp [intOf]; omega
theorem l6B_rs {n x : Int} : l6B x 0 (n - 1) = rsB n x := by
  rw [Bool.eq_iff_iff]; simp [l6B, rsB]; omega
theorem l5Point_ (k : Nat) (x y : Int) (hk : 2 ≤ k ∧ k ≤ 12) (w : World) : Calls Try.prog 43 #[.int .i64 k, .int .i64 x, .int .i64 y] w (fun E' W' => E' = .returned (.bool (ptB k x y)) ∧ w = W') := by
  have h0 : l6B k 2 12 = true := mdB_iff.2 ⟨by omega, by omega⟩
  cases h1 : rsB k x
  · have h1' := h1
    rw [← l6B_rs] at h1'
    have HR := Lib.hid (show ptB k x y = false by simp [ptB, h1])
    go_enter Try.func43, Try.ntmps43
    go_wp2_with (go_at_call 29; refine (l6In_ _ _ _ _).mono ?_; rintro e w' ⟨rfl, rfl⟩)
    go_ret
    exact ⟨by rw [HR.out]; rfl, rfl⟩
  · cases h2 : rsB k y
    · have h1' := h1
      have h2' := h2
      rw [← l6B_rs] at h1' h2'
      have HR := Lib.hid (show ptB k x y = false by simp [ptB, h2])
      go_enter Try.func43, Try.ntmps43
      go_wp2_with (go_at_call 29; refine (l6In_ _ _ _ _).mono ?_; rintro e w' ⟨rfl, rfl⟩)
      go_ret
      exact ⟨by rw [HR.out]; rfl, rfl⟩
    · obtain ⟨a1, a2⟩ := rsB_iff.1 h1
      obtain ⟨b1, b2⟩ := rsB_iff.1 h2
      have h1' := h1
      have h2' := h2
      rw [← l6B_rs] at h1' h2'
      obtain ⟨x', rfl⟩ : ∃ x' : Nat, x = x' := ⟨x.toNat, by omega⟩
      obtain ⟨y', rfl⟩ : ∃ y' : Nat, y = y' := ⟨y.toNat, by omega⟩
      have HR := Lib.hid (show ptB k x' y' = (((Nat.gcd (Nat.gcd x' y') k : Nat) : Int) == 1) by
        rw [ptB, h1, h2, Bool.true_and, Bool.true_and, Bool.eq_iff_iff, show Nat.gcd (Nat.gcd x' y') k = Nat.gcd (Nat.gcd k x') y' by rw [Nat.gcd_comm, Nat.gcd_assoc]]; simp; omega)
      have c1 := fun W => gcdS_ x' y' (by omega) (by omega) W
      have c2 := fun W (h : Nat.gcd x' y' ≤ 1000000000000) => gcdS_ (Nat.gcd x' y') k h (by omega) W
      have hg : Nat.gcd x' y' ≤ 1000000000000 := by
        rcases Nat.eq_zero_or_pos x' with e | e
        · subst e; rw [Nat.gcd_zero_left]; omega
        · have := Nat.gcd_le_left y' e; omega
      replace c2 := fun W => c2 W hg
      clear hg a1 a2 b1 b2
      generalize Nat.gcd x' y' = g1 at *
      generalize Nat.gcd g1 k = g3 at *
      go_enter Try.func43, Try.ntmps43
      go_wp2_with (first | (go_at_call 29; refine (l6In_ _ _ _ _).mono ?_; rintro e w' ⟨rfl, rfl⟩) | ((go_at_call 57; refine (c1 _).mono ?_; rintro e w' ⟨rfl, rfl⟩); clear c1) | (go_at_call 57; refine (c2 _).mono ?_; rintro e w' ⟨rfl, rfl⟩))
      go_ret
      exact ⟨by rw [HR.out]; rfl, rfl⟩
def sFst (k x y : Nat) : Nat × Nat := ((prs k).find? (oneP k x y)).getD (0, 0)
theorem all_none {k x y : Nat} {l : List (Nat × Nat)} (h : l.all (fun q => !oneP k x y q) = true) : l.find? (oneP k x y) = none := by
  rw [List.find?_eq_none]
  intro q hq
  have := List.all_eq_true.1 h q hq
  simpa using this
theorem l5First_ (k x y : Nat) (hk : 2 ≤ k ∧ k ≤ 12) (hx : x ≤ 12) (hy : y ≤ 12) (w : World) : Calls Try.prog 44 #[.int .i64 k, .int .i64 x, .int .i64 y] w (fun E' W' => E' = .returned (.tuple #[.int .i64 (sFst k x y).1, .int .i64 (sFst k x y).2]) ∧ w = W') := by
  have hk' : mdB k = true := mdB_iff.2 ⟨by omega, by omega⟩
  go_enter Try.func44, Try.ntmps44
  go_wp2
  go_loop [8] (fun v8 => ∃ u : Nat, u ≤ k ∧ v8 = .int .i64 u ∧ ((prs k).take (u * k)).all (fun q => !oneP k x y q) = true) (fun v8 => k - (intOf v8).toNat)
  case atStart => exact ⟨0, Nat.zero_le _, rfl, by simp⟩
  case round =>
    obtain ⟨u, hu, rfl, hp⟩ := hrel
    have HP := Lib.hid hp
    clear hp
    by_cases hlt : u < k
    · go_wp2
      go_loop [9] (fun v9 => ∃ v : Nat, v ≤ k ∧ v9 = .int .i64 v ∧ ((prs k).take (u * k + v)).all (fun q => !oneP k x y q) = true) (fun v9 => k - (intOf v9).toNat)
      case atStart => exact ⟨0, Nat.zero_le _, rfl, HP.out⟩
      case round =>
        clear HP
        obtain ⟨v, hv, rfl, hp⟩ := hrel
        have HP := Lib.hid hp
        clear hp
        by_cases hlv : v < k
        · have e1 := mul_bd (x := x) (y := v) (a := 12) (b := 12) ⟨by omega, by omega⟩ ⟨by omega, by omega⟩
          have e2 := mul_bd (x := y) (y := u) (a := 12) (b := 12) ⟨by omega, by omega⟩ ⟨by omega, by omega⟩
          have cR := fun W => l5Rest_ k (x * v - y * u) hk' W
          have HS := Lib.hid (show saB k x y u v = (((x : Int) * v - y * u) % k == 0) from rfl)
          have HN := Lib.hid (prs_snoc hlt hlv)
          have cP := fun W => l5Point_ k u v hk W
          generalize ((x : Int) * v - y * u) % k = R at *
          cases h1 : ptB k u v
          · rw [h1] at cP
            have HO := Lib.hid (show oneP k x y (u, v) = false by simp [oneP, h1])
            go_wp2_with (first | (go_at_call 43; refine (cP _).mono ?_; rintro e w' ⟨rfl, rfl⟩) | (go_at_call 35; refine (cR _).mono ?_; rintro e w' ⟨rfl, rfl⟩))
            go_round
            case rel => exact ⟨v + 1, by omega, by simp, by rw [← Nat.add_assoc, HN.out, List.all_append, HP.out]; simp [HO.out]⟩
            case measure => simp [intOf]; omega
          · rw [h1] at cP
            cases h2 : R == 0
            · have HO := Lib.hid (show oneP k x y (u, v) = false by simp [oneP, HS.out, h2])
              go_wp2_with (first | (go_at_call 43; refine (cP _).mono ?_; rintro e w' ⟨rfl, rfl⟩) | (go_at_call 35; refine (cR _).mono ?_; rintro e w' ⟨rfl, rfl⟩))
              go_round
              case rel => exact ⟨v + 1, by omega, by simp, by rw [← Nat.add_assoc, HN.out, List.all_append, HP.out]; simp [HO.out]⟩
              case measure => simp [intOf]; omega
            · have HO := Lib.hid (show oneP k x y (u, v) = true by simp [oneP, HS.out, h1, h2])
              go_wp2_with (first | (go_at_call 43; refine (cP _).mono ?_; rintro e w' ⟨rfl, rfl⟩) | (go_at_call 35; refine (cR _).mono ?_; rintro e w' ⟨rfl, rfl⟩))
              go_ret2
              refine ⟨?_, rfl⟩
              have : sFst k x y = (u, v) := by
                have hpre : (prs k).take (u * k + v + 1) <+: prs k := List.take_prefix _ _
                obtain ⟨r, hr⟩ := hpre
                rw [HN.out] at hr
                simp only [sFst]
                rw [← hr, List.find?_append, List.find?_append, all_none HP.out]
                simp [HO.out]
              rw [this]
              rfl
        · obtain rfl : v = k := by omega
          go_wp2
          go_round
          case rel => exact ⟨u + 1, by omega, by simp, by rw [Nat.succ_mul]; exact HP.out⟩
          case measure => simp [intOf]; omega
    · obtain rfl : u = k := by omega
      go_wp2
      go_ret2
      refine ⟨?_, rfl⟩
      have := HP.out
      rw [List.take_of_length_le (by rw [prs_len]; omega)] at this
      simp only [sFst, all_none this]
      rfl
theorem sFst_eq {k x y : Nat} (h : ptB k x y = true) : sFst k x y = fstP k x y := by
  obtain ⟨x', y', e1, e2, h1, h2⟩ := ptB_nat h
  have hx : x < k := by omega
  have hy : y < k := by omega
  have : ((prs k).find? (oneP k x y)).isSome = true := by
    rw [List.find?_isSome]
    exact ⟨(x, y), prs_has hx hy, by simp [oneP, h, saB, Int.mul_comm]⟩
  obtain ⟨q, hq⟩ := Option.isSome_iff_exists.1 this
  simp [sFst, fstP, hq]
theorem sRestPoint_ (n x y : Int) (w : World) : Calls Try.prog 18 #[.int .i64 n, .int .i64 x, .int .i64 y] w (fun E' W' => E' = .returned (.tuple #[.int .i64 (mPt n x y).1.1, .int .i64 (mPt n x y).1.2, .bool (mPt n x y).2]) ∧ w = W') := by
  cases h1 : mdB n
  · have h1' : l6B n 2 12 = false := h1
    have HR := Lib.hid (show mPt n x y = ((0, 0), false) by simp [mPt, h1])
    have cN : ∀ W, Calls Try.prog 43 #[.int .i64 n, .int .i64 x, .int .i64 y] W (fun E' W' => E' = .returned (.bool false) ∧ W = W') := by
      intro w
      go_enter Try.func43, Try.ntmps43
      go_wp2_with (go_at_call 29; refine (l6In_ _ _ _ _).mono ?_; rintro e w' ⟨rfl, rfl⟩)
      go_ret
      exact ⟨rfl, rfl⟩
    go_enter Try.func18, Try.ntmps18
    go_wp2_with (go_at_call 43; refine (cN _).mono ?_; rintro e w' ⟨rfl, rfl⟩)
    go_ret3
    exact ⟨by rw [HR.out]; rfl, rfl⟩
  · obtain ⟨k, rfl, hk1, hk2⟩ := mdB_nat h1
    have cP := fun W => l5Point_ k x y ⟨hk1, hk2⟩ W
    cases h2 : ptB k x y
    · have HR := Lib.hid (show mPt k x y = ((0, 0), false) by simp [mPt, h2])
      rw [h2] at cP
      go_enter Try.func18, Try.ntmps18
      go_wp2_with (go_at_call 43; refine (cP _).mono ?_; rintro e w' ⟨rfl, rfl⟩)
      go_ret3
      exact ⟨by rw [HR.out]; rfl, rfl⟩
    · obtain ⟨x, y, rfl, rfl, hx, hy⟩ := ptB_nat h2
      have cF := fun W => l5First_ k x y ⟨hk1, hk2⟩ (by omega) (by omega) W
      have HR := Lib.hid (show mPt k x y = (((((fstP k x y).1 : Nat) : Int), (((fstP k x y).2 : Nat) : Int)), true) by simp [mPt, h1, h2])
      rw [h2] at cP
      rw [sFst_eq h2] at cF
      generalize fstP k x y = q at *
      obtain ⟨u, v⟩ := q
      dsimp only at cF
      go_enter Try.func18, Try.ntmps18
      go_wp2_with (first | (go_at_call 43; refine (cP _).mono ?_; rintro e w' ⟨rfl, rfl⟩) | (go_at_call 44; refine (cF _).mono ?_; rintro e w' ⟨rfl, rfl⟩))
      go_ret3
      exact ⟨by rw [HR.out]; rfl, rfl⟩
/-- a point is led to a point -/
theorem ptB_led {k : Nat} {m : M} {x y : Nat} (hk : 2 ≤ k ∧ k ≤ 12) (h : reB k m = true) (hp : ptB k x y = true) : ptB k (((ldX m x y % k).toNat : Nat)) (((ldY m x y % k).toNat : Nat)) = true := by
  have b1 := rs_bd (x := ldX m x y) (n := k) (by omega)
  have b2 := rs_bd (x := ldY m x y) (n := k) (by omega)
  simp only [reB, Bool.and_eq_true, beq_iff_eq] at h
  obtain ⟨_, hd⟩ := h
  simp only [ptB, Bool.and_eq_true, rsB_iff, beq_iff_eq] at hp ⊢
  obtain ⟨_, hg⟩ := hp
  refine ⟨⟨⟨by omega, by omega⟩, by omega, by omega⟩, ?_⟩
  simp only [Int.toNat_natCast] at hg ⊢
  obtain ⟨g, hgd⟩ : ∃ g, g = Nat.gcd (Nat.gcd k (ldX m x y % k).toNat) (ldY m x y % k).toNat := ⟨_, rfl⟩
  rw [← hgd]
  have d0 : g ∣ k := hgd ▸ Nat.dvd_trans (Nat.gcd_dvd_left _ _) (Nat.gcd_dvd_left _ _)
  have d1 : g ∣ (ldX m x y % k).toNat := hgd ▸ Nat.dvd_trans (Nat.gcd_dvd_left _ _) (Nat.gcd_dvd_right _ _)
  have d2 : g ∣ (ldY m x y % k).toNat := hgd ▸ Nat.gcd_dvd_right _ _
  have e0 : (g : Int) ∣ (k : Int) := Int.natCast_dvd_natCast.2 d0
  have e1 : (g : Int) ∣ ldX m x y % k := by
    have := Int.natCast_dvd_natCast.2 d1
    rwa [Int.toNat_of_nonneg b1.1] at this
  have e2 : (g : Int) ∣ ldY m x y % k := by
    have := Int.natCast_dvd_natCast.2 d2
    rwa [Int.toNat_of_nonneg b2.1] at this
  have f1 : (g : Int) ∣ ldX m x y := by
    rw [← Int.emod_add_mul_ediv (ldX m x y) k]
    exact Int.dvd_add e1 (Int.dvd_mul_of_dvd_left e0)
  have f2 : (g : Int) ∣ ldY m x y := by
    rw [← Int.emod_add_mul_ediv (ldY m x y) k]
    exact Int.dvd_add e2 (Int.dvd_mul_of_dvd_left e0)
  have f3 : (g : Int) ∣ xd m - 1 := by
    have : (k : Int) ∣ xd m - 1 := by
      rw [← Int.emod_add_mul_ediv (xd m) k, hd]
      exact ⟨xd m / k, by omega⟩
    exact Int.dvd_trans e0 this
  have g1 : (g : Int) ∣ x := by
    have h1 : (g : Int) ∣ m.d * ldX m x y - m.b * ldY m x y - (xd m - 1) * x := Int.dvd_sub (Int.dvd_sub (Int.dvd_mul_of_dvd_right f1) (Int.dvd_mul_of_dvd_right f2)) (Int.dvd_mul_of_dvd_left f3)
    have e : m.d * ldX m x y - m.b * ldY m x y - (xd m - 1) * x = x := by simp only [ldX, ldY, xd]; grind
    rwa [e] at h1
  have g2 : (g : Int) ∣ y := by
    have h1 : (g : Int) ∣ m.a * ldY m x y - m.c * ldX m x y - (xd m - 1) * y := Int.dvd_sub (Int.dvd_sub (Int.dvd_mul_of_dvd_right f2) (Int.dvd_mul_of_dvd_right f1)) (Int.dvd_mul_of_dvd_left f3)
    have e : m.a * ldY m x y - m.c * ldX m x y - (xd m - 1) * y = y := by simp only [ldX, ldY, xd]; grind
    rwa [e] at h1
  have : g ∣ Nat.gcd (Nat.gcd k x) y := Nat.dvd_gcd (Nat.dvd_gcd d0 (Int.natCast_dvd_natCast.1 g1)) (Int.natCast_dvd_natCast.1 g2)
  rw [hg] at this
  exact Nat.dvd_one.1 this
set_option maxHeartbeats 1000000 in
theorem l5Move_ (k : Nat) (a b c d : Int) (x y : Nat) (hk : 2 ≤ k ∧ k ≤ 12) (h : reB k ⟨a, b, c, d⟩ = true) (hp : ptB k x y = true) (w : World) :
    Calls Try.prog 47 #[.agg #[.int .i64 a, .int .i64 b, .int .i64 c, .int .i64 d], .int .i64 k, .int .i64 x, .int .i64 y] w (fun E' W' => E' = .returned (.tuple #[.int .i64 (ledP k ⟨a, b, c, d⟩ x y).1, .int .i64 (ledP k ⟨a, b, c, d⟩ x y).2]) ∧ Below w.heap.size w W') := by
  have hk' : mdB k = true := mdB_iff.2 ⟨by omega, by omega⟩
  have hxy : x < k ∧ y < k := by
    obtain ⟨x', y', q1, q2, hx, hy⟩ := ptB_nat hp
    exact ⟨by omega, by omega⟩
  obtain ⟨hx, hy⟩ := hxy
  have h' := h
  simp only [reB, Bool.and_eq_true] at h'
  obtain ⟨k1, k2, k3, k4⟩ := rbM_iff.1 h'.1
  dsimp only at k1 k2 k3 k4
  have hled := ptB_led hk h hp
  have HR := Lib.hid (show ledP k ⟨a, b, c, d⟩ x y = fstP k (ldX ⟨a, b, c, d⟩ x y % k).toNat (ldY ⟨a, b, c, d⟩ x y % k).toNat from rfl)
  rw [← sFst_eq hled] at HR
  clear hled h' h hp
  have e1 := mul_bd (x := a) (y := x) (a := 12) (b := 12) ⟨by omega, by omega⟩ ⟨by omega, by omega⟩
  have e2 := mul_bd (x := b) (y := y) (a := 12) (b := 12) ⟨by omega, by omega⟩ ⟨by omega, by omega⟩
  have e3 := mul_bd (x := c) (y := x) (a := 12) (b := 12) ⟨by omega, by omega⟩ ⟨by omega, by omega⟩
  have e4 := mul_bd (x := d) (y := y) (a := 12) (b := 12) ⟨by omega, by omega⟩ ⟨by omega, by omega⟩
  have c1 := fun W => l5Rest_ k (a * x + b * y) hk' W
  have c2 := fun W => l5Rest_ k (c * x + d * y) hk' W
  simp only [ldX, ldY] at HR
  have b1 := rs_bd (x := a * x + b * y) (mdB_iff.1 hk').1
  have b2 := rs_bd (x := c * x + d * y) (mdB_iff.1 hk').1
  obtain ⟨X', hX⟩ : ∃ X' : Nat, (a * x + b * y) % k = X' := ⟨((a * x + b * y) % k).toNat, by omega⟩
  obtain ⟨Y', hY⟩ : ∃ Y' : Nat, (c * x + d * y) % k = Y' := ⟨((c * x + d * y) % k).toNat, by omega⟩
  rw [hX, hY] at HR
  rw [hX] at b1 c1
  rw [hY] at b2 c2
  rw [show (((X' : Nat) : Int)).toNat = X' by omega, show (((Y' : Nat) : Int)).toNat = Y' by omega] at HR
  have cF := fun W => l5First_ k X' Y' hk (by omega) (by omega) W
  generalize sFst k X' Y' = q at *
  generalize ledP k ⟨a, b, c, d⟩ x y = R at *
  obtain ⟨u, v⟩ := q
  obtain ⟨r, s⟩ := R
  obtain ⟨rfl, rfl⟩ := Prod.mk.inj HR.out
  clear HR hX hY
  rw [← i64dot (a := a) (x := x) (b := b) (y := y) (by omega) (by omega)] at c1
  rw [← i64dot (a := c) (x := x) (b := d) (y := y) (by omega) (by omega)] at c2
  have hM := mem_nil w; have hB := Below.refl w.heap.size w; have hC := True.intro
  go_enter Try.func47, Try.ntmps47
  go_wp2_with fail
  (refine wp_region_T2 (fun W' => (W'.cell? ⟨w.heap.size, 0, none⟩ = some (.int .i64 a) ∧ W'.cell? ⟨w.heap.size, 1, none⟩ = some (.int .i64 b) ∧ W'.cell? ⟨w.heap.size, 2, none⟩ = some (.int .i64 c) ∧ W'.cell? ⟨w.heap.size, 3, none⟩ = some (.int .i64 d))) 100 (by kernel_rfl) ?_ ?_; (focus (simp [*, go_sem]; done)); intro hS)
  (refine wpT_take (i := 0) (oi := ?_) (v := ?_) hS ?_ ?_ ?_ ?_ ?_ ?_; rotate_left 2; (focus (simp only [List.getElem?_toArray, List.getElem?_cons_zero]; exact rfl)); (focus (kernel_rfl)); (focus (rfl)); (focus (intro w' hW; (try dsimp only at hW); go_simp; (try with_reducible rfl); done)); (focus (exact fun _ _ _ h => h)); (try simp only [Act.put, List.setIfInBounds_toArray, List.set_cons_zero, List.set_cons_succ])); (refine wpT_take (i := 1) (oi := ?_) (v := ?_) hS ?_ ?_ ?_ ?_ ?_ ?_; rotate_left 2; (focus (simp only [List.getElem?_toArray, List.getElem?_cons_zero, List.getElem?_cons_succ]; exact rfl)); (focus (kernel_rfl)); (focus (rfl)); (focus (intro w' hW; (try dsimp only at hW); go_simp; (try with_reducible rfl); done)); (focus (exact fun _ _ _ h => h)); (try simp only [Act.put, List.setIfInBounds_toArray, List.set_cons_zero, List.set_cons_succ])); (refine wpT_take (i := 2) (oi := ?_) (v := ?_) hS ?_ ?_ ?_ ?_ ?_ ?_; rotate_left 2; (focus (simp only [List.getElem?_toArray, List.getElem?_cons_zero, List.getElem?_cons_succ]; exact rfl)); (focus (kernel_rfl)); (focus (rfl)); (focus (intro w' hW; (try dsimp only at hW); go_simp; (try with_reducible rfl); done)); (focus (exact fun _ _ _ h => h)); (try simp only [Act.put, List.setIfInBounds_toArray, List.set_cons_zero, List.set_cons_succ])); (refine wpT_take (i := 3) (oi := ?_) (v := ?_) hS ?_ ?_ ?_ ?_ ?_ ?_; rotate_left 2; (focus (simp only [List.getElem?_toArray, List.getElem?_cons_zero, List.getElem?_cons_succ]; exact rfl)); (focus (kernel_rfl)); (focus (rfl)); (focus (intro w' hW; (try dsimp only at hW); go_simp; (try with_reducible rfl); done)); (focus (exact fun _ _ _ h => h)); (try simp only [Act.put, List.setIfInBounds_toArray, List.set_cons_zero, List.set_cons_succ])); (refine wpT_take (i := 4) (oi := ?_) (v := ?_) hS ?_ ?_ ?_ ?_ ?_ ?_; rotate_left 2; (focus (simp only [List.getElem?_toArray, List.getElem?_cons_zero, List.getElem?_cons_succ]; exact rfl)); (focus (kernel_rfl)); (focus (rfl)); (focus (intro w' hW; (try dsimp only at hW); go_simp; (try with_reducible rfl); done)); (focus (exact fun _ _ _ h => h)); (try simp only [Act.put, List.setIfInBounds_toArray, List.set_cons_zero, List.set_cons_succ])); (refine wpT_take (i := 5) (oi := ?_) (v := ?_) hS ?_ ?_ ?_ ?_ ?_ ?_; rotate_left 2; (focus (simp only [List.getElem?_toArray, List.getElem?_cons_zero, List.getElem?_cons_succ]; exact rfl)); (focus (kernel_rfl)); (focus (rfl)); (focus (intro w' hW; (try dsimp only at hW); go_simp; (try with_reducible rfl); done)); (focus (exact fun _ _ _ h => h)); (try simp only [Act.put, List.setIfInBounds_toArray, List.set_cons_zero, List.set_cons_succ])); (refine wpT_take (i := 6) (oi := ?_) (v := ?_) hS ?_ ?_ ?_ ?_ ?_ ?_; rotate_left 2; (focus (simp only [List.getElem?_toArray, List.getElem?_cons_zero, List.getElem?_cons_succ]; exact rfl)); (focus (kernel_rfl)); (focus (rfl)); (focus (intro w' hW; (try dsimp only at hW); go_simp; (try with_reducible rfl); done)); (focus (exact fun _ _ _ h => h)); (try simp only [Act.put, List.setIfInBounds_toArray, List.set_cons_zero, List.set_cons_succ])); (refine wpT_take (i := 7) (oi := ?_) (v := ?_) hS ?_ ?_ ?_ ?_ ?_ ?_; rotate_left 2; (focus (simp only [List.getElem?_toArray, List.getElem?_cons_zero, List.getElem?_cons_succ]; exact rfl)); (focus (kernel_rfl)); (focus (rfl)); (focus (intro w' hW; (try dsimp only at hW); go_simp; (try with_reducible rfl); done)); (focus (exact fun _ _ _ h => h)); (try simp only [Act.put, List.setIfInBounds_toArray, List.set_cons_zero, List.set_cons_succ])); (refine wpT_take (i := 8) (oi := ?_) (v := ?_) hS ?_ ?_ ?_ ?_ ?_ ?_; rotate_left 2; (focus (simp only [List.getElem?_toArray, List.getElem?_cons_zero, List.getElem?_cons_succ]; exact rfl)); (focus (kernel_rfl)); (focus (rfl)); (focus (intro w' hW; (try dsimp only at hW); go_simp; (try with_reducible rfl); done)); (focus (exact fun _ _ _ h => h)); (try simp only [Act.put, List.setIfInBounds_toArray, List.set_cons_zero, List.set_cons_succ])); (refine wpT_take (i := 9) (oi := ?_) (v := ?_) hS ?_ ?_ ?_ ?_ ?_ ?_; rotate_left 2; (focus (simp only [List.getElem?_toArray, List.getElem?_cons_zero, List.getElem?_cons_succ]; exact rfl)); (focus (kernel_rfl)); (focus (rfl)); (focus (intro w' hW; (try dsimp only at hW); go_simp; (try with_reducible rfl); done)); (focus (exact fun _ _ _ h => h)); (try simp only [Act.put, List.setIfInBounds_toArray, List.set_cons_zero, List.set_cons_succ])); (refine wpT_take (i := 10) (oi := ?_) (v := ?_) hS ?_ ?_ ?_ ?_ ?_ ?_; rotate_left 2; (focus (simp only [List.getElem?_toArray, List.getElem?_cons_zero, List.getElem?_cons_succ]; exact rfl)); (focus (kernel_rfl)); (focus (rfl)); (focus (intro w' hW; (try dsimp only at hW); go_simp; (try with_reducible rfl); done)); (focus (exact fun _ _ _ h => h)); (try simp only [Act.put, List.setIfInBounds_toArray, List.set_cons_zero, List.set_cons_succ])); (refine wpT_take (i := 12) (oi := ?_) (v := ?_) hS ?_ ?_ ?_ ?_ ?_ ?_; rotate_left 2; (focus (simp only [List.getElem?_toArray, List.getElem?_cons_zero, List.getElem?_cons_succ]; exact rfl)); (focus (kernel_rfl)); (focus (rfl)); (focus (intro w' hW; (try dsimp only at hW); go_simp; (try with_reducible rfl); done)); (focus (exact fun _ _ _ h => h)); (try simp only [Act.put, List.setIfInBounds_toArray, List.set_cons_zero, List.set_cons_succ])); (refine wpT_take (i := 13) (oi := ?_) (v := ?_) hS ?_ ?_ ?_ ?_ ?_ ?_; rotate_left 2; (focus (simp only [List.getElem?_toArray, List.getElem?_cons_zero, List.getElem?_cons_succ]; exact rfl)); (focus (kernel_rfl)); (focus (rfl)); (focus (intro w' hW; (try dsimp only at hW); go_simp; (try with_reducible rfl); done)); (focus (exact fun _ _ _ h => h)); (try simp only [Act.put, List.setIfInBounds_toArray, List.set_cons_zero, List.set_cons_succ])); (refine wpT_take (i := 14) (oi := ?_) (v := ?_) hS ?_ ?_ ?_ ?_ ?_ ?_; rotate_left 2; (focus (simp only [List.getElem?_toArray, List.getElem?_cons_zero, List.getElem?_cons_succ]; exact rfl)); (focus (kernel_rfl)); (focus (rfl)); (focus (intro w' hW; (try dsimp only at hW); go_simp; (try with_reducible rfl); done)); (focus (exact fun _ _ _ h => h)); (try simp only [Act.put, List.setIfInBounds_toArray, List.set_cons_zero, List.set_cons_succ])); (refine wpT_take (i := 15) (oi := ?_) (v := ?_) hS ?_ ?_ ?_ ?_ ?_ ?_; rotate_left 2; (focus (simp only [List.getElem?_toArray, List.getElem?_cons_zero, List.getElem?_cons_succ]; exact rfl)); (focus (kernel_rfl)); (focus (rfl)); (focus (intro w' hW; (try dsimp only at hW); go_simp; (try with_reducible rfl); done)); (focus (exact fun _ _ _ h => h)); (try simp only [Act.put, List.setIfInBounds_toArray, List.set_cons_zero, List.set_cons_succ])); (refine wpT_take (i := 16) (oi := ?_) (v := ?_) hS ?_ ?_ ?_ ?_ ?_ ?_; rotate_left 2; (focus (simp only [List.getElem?_toArray, List.getElem?_cons_zero, List.getElem?_cons_succ]; exact rfl)); (focus (kernel_rfl)); (focus (rfl)); (focus (intro w' hW; (try dsimp only at hW); go_simp; (try with_reducible rfl); done)); (focus (exact fun _ _ _ h => h)); (try simp only [Act.put, List.setIfInBounds_toArray, List.set_cons_zero, List.set_cons_succ])); (refine wpT_take (i := 17) (oi := ?_) (v := ?_) hS ?_ ?_ ?_ ?_ ?_ ?_; rotate_left 2; (focus (simp only [List.getElem?_toArray, List.getElem?_cons_zero, List.getElem?_cons_succ]; exact rfl)); (focus (kernel_rfl)); (focus (rfl)); (focus (intro w' hW; (try dsimp only at hW); go_simp; (try with_reducible rfl); done)); (focus (exact fun _ _ _ h => h)); (try simp only [Act.put, List.setIfInBounds_toArray, List.set_cons_zero, List.set_cons_succ])); (refine wpT_take (i := 18) (oi := ?_) (v := ?_) hS ?_ ?_ ?_ ?_ ?_ ?_; rotate_left 2; (focus (simp only [List.getElem?_toArray, List.getElem?_cons_zero, List.getElem?_cons_succ]; exact rfl)); (focus (kernel_rfl)); (focus (rfl)); (focus (intro w' hW; (try dsimp only at hW); go_simp; (try with_reducible rfl); done)); (focus (exact fun _ _ _ h => h)); (try simp only [Act.put, List.setIfInBounds_toArray, List.set_cons_zero, List.set_cons_succ])); (refine wpT_take (i := 19) (oi := ?_) (v := ?_) hS ?_ ?_ ?_ ?_ ?_ ?_; rotate_left 2; (focus (simp only [List.getElem?_toArray, List.getElem?_cons_zero, List.getElem?_cons_succ]; exact rfl)); (focus (kernel_rfl)); (focus (rfl)); (focus (intro w' hW; (try dsimp only at hW); go_simp; (try with_reducible rfl); done)); (focus (exact fun _ _ _ h => h)); (try simp only [Act.put, List.setIfInBounds_toArray, List.set_cons_zero, List.set_cons_succ])); (refine wpT_take (i := 20) (oi := ?_) (v := ?_) hS ?_ ?_ ?_ ?_ ?_ ?_; rotate_left 2; (focus (simp only [List.getElem?_toArray, List.getElem?_cons_zero, List.getElem?_cons_succ]; exact rfl)); (focus (kernel_rfl)); (focus (rfl)); (focus (intro w' hW; (try dsimp only at hW); go_simp; (try with_reducible rfl); done)); (focus (exact fun _ _ _ h => h)); (try simp only [Act.put, List.setIfInBounds_toArray, List.set_cons_zero, List.set_cons_succ])); (refine wpT_take (i := 21) (oi := ?_) (v := ?_) hS ?_ ?_ ?_ ?_ ?_ ?_; rotate_left 2; (focus (simp only [List.getElem?_toArray, List.getElem?_cons_zero, List.getElem?_cons_succ]; exact rfl)); (focus (kernel_rfl)); (focus (rfl)); (focus (intro w' hW; (try dsimp only at hW); go_simp; (try with_reducible rfl); done)); (focus (exact fun _ _ _ h => h)); (try simp only [Act.put, List.setIfInBounds_toArray, List.set_cons_zero, List.set_cons_succ]))
  (refine wpT_one (i := 11) (oi := ?_) ?_ ?_ ?_ ?_; rotate_left 1; (focus (kernel_rfl)); (focus (simp only [List.getElem?_toArray, List.getElem?_cons_zero, List.getElem?_cons_succ]; exact rfl)); (focus (rfl)); go_simp)
  (go_at_call 35; refine (c1 _).mono ?_; rintro e w' ⟨rfl, rfl⟩)
  (first | (with_reducible refine wpT_hold ?_ ?_; (focus (simp [*, go_sem]; done)); clear hS; intro hS; (try dsimp only at hS)) | (refine held_intro ?_ ?_; (focus (simp [*, go_sem]; done)); clear hS; intro hS))
  (refine wpT_one (i := 22) (oi := ?_) ?_ ?_ ?_ ?_; rotate_left 1; (focus (kernel_rfl)); (focus (simp only [List.getElem?_toArray, List.getElem?_cons_zero, List.getElem?_cons_succ]; exact rfl)); (focus (rfl)); go_simp)
  (go_at_call 35; refine (c2 _).mono ?_; rintro e w' ⟨rfl, rfl⟩)
  (first | (with_reducible refine wpT_hold ?_ ?_; (focus (simp [*, go_sem]; done)); clear hS; intro hS; (try dsimp only at hS)) | (refine held_intro ?_ ?_; (focus (simp [*, go_sem]; done)); clear hS; intro hS))
  (refine wpT_one (i := 23) (oi := ?_) ?_ ?_ ?_ ?_; rotate_left 1; (focus (kernel_rfl)); (focus (simp only [List.getElem?_toArray, List.getElem?_cons_zero, List.getElem?_cons_succ]; exact rfl)); (focus (rfl)); go_simp)
  (go_at_call 44; refine (cF _).mono ?_; rintro e w' ⟨rfl, rfl⟩)
  (first | (with_reducible refine wpT_hold ?_ ?_; (focus (simp [*, go_sem]; done)); clear hS; intro hS; (try dsimp only at hS)) | (refine held_intro ?_ ?_; (focus (simp [*, go_sem]; done)); clear hS; intro hS))
  (refine wpT_take (i := 24) (oi := ?_) (v := ?_) hS ?_ ?_ ?_ ?_ ?_ ?_; rotate_left 2; (focus (simp only [List.getElem?_toArray, List.getElem?_cons_zero, List.getElem?_cons_succ]; exact rfl)); (focus (kernel_rfl)); (focus (rfl)); (focus (intro w' hW; (try dsimp only at hW); go_simp; (try with_reducible rfl); done)); (focus (exact fun _ _ _ h => h)); (try simp only [Act.put, List.setIfInBounds_toArray, List.set_cons_zero, List.set_cons_succ])); (refine wpT_take (i := 25) (oi := ?_) (v := ?_) hS ?_ ?_ ?_ ?_ ?_ ?_; rotate_left 2; (focus (simp only [List.getElem?_toArray, List.getElem?_cons_zero, List.getElem?_cons_succ]; exact rfl)); (focus (kernel_rfl)); (focus (rfl)); (focus (intro w' hW; (try dsimp only at hW); go_simp; (try with_reducible rfl); done)); (focus (exact fun _ _ _ h => h)); (try simp only [Act.put, List.setIfInBounds_toArray, List.set_cons_zero, List.set_cons_succ])); (refine wpT_take (i := 26) (oi := ?_) (v := ?_) hS ?_ ?_ ?_ ?_ ?_ ?_; rotate_left 2; (focus (simp only [List.getElem?_toArray, List.getElem?_cons_zero, List.getElem?_cons_succ]; exact rfl)); (focus (kernel_rfl)); (focus (rfl)); (focus (intro w' hW; (try dsimp only at hW); go_simp; (try with_reducible rfl); done)); (focus (exact fun _ _ _ h => h)); (try simp only [Act.put, List.setIfInBounds_toArray, List.set_cons_zero, List.set_cons_succ])); (refine wpT_take (i := 27) (oi := ?_) (v := ?_) hS ?_ ?_ ?_ ?_ ?_ ?_; rotate_left 2; (focus (simp only [List.getElem?_toArray, List.getElem?_cons_zero, List.getElem?_cons_succ]; exact rfl)); (focus (kernel_rfl)); (focus (rfl)); (focus (intro w' hW; (try dsimp only at hW); go_simp; (try with_reducible rfl); done)); (focus (exact fun _ _ _ h => h)); (try simp only [Act.put, List.setIfInBounds_toArray, List.set_cons_zero, List.set_cons_succ]))
  refine wpT_done (by kernel_rfl) ?_ _
  go_wp2_with fail
  go_ret2
  exact ⟨rfl, by (repeat' (first | (with_reducible exact hB) | (with_reducible exact Below.refl _ _) | (with_reducible refine Below.alloc ?_ ?_ _) | (with_reducible refine Below.setCell ?_ ?_ _) | (with_reducible refine Below.drew ?_) | (with_reducible refine below_drewN ?_ _) | (with_reducible exact Nat.le_refl _) | (with_reducible exact hB.size) | (simp [go_sem]; done) | (have := hB.size; simp [go_sem]; omega)))⟩
theorem sRestMove_ (a b c d n x y : Int) (w : World) : Calls Try.prog 21 #[.agg #[.int .i64 a, .int .i64 b, .int .i64 c, .int .i64 d], .int .i64 n, .int .i64 x, .int .i64 y] w (fun E' W' => E' = .returned (.tuple #[.int .i64 (mMv ⟨a, b, c, d⟩ n x y).1.1, .int .i64 (mMv ⟨a, b, c, d⟩ n x y).1.2, .bool (mMv ⟨a, b, c, d⟩ n x y).2]) ∧ Below w.heap.size w W') := by
  cases h1 : mRestEven ⟨a, b, c, d⟩ n
  · have HR := Lib.hid (show mMv ⟨a, b, c, d⟩ n x y = ((0, 0), false) by simp [mMv, h1])
    have hM := mem_nil w; have hB := Below.refl w.heap.size w; have hC := True.intro
    go_enter Try.func21, Try.ntmps21
    go_wp2_with (go_at_call 13; refine (sRestEven_ _ _ _ _ _ _).mono ?_; rintro e w' ⟨rfl, hb⟩; apply after_call (w := w) hb; (focus ((repeat' (first | (with_reducible exact hM) | (with_reducible apply mem_alloc) | (with_reducible apply mem_set) | (with_reducible apply mem_drew) | (with_reducible apply mem_drewN))); done)); (focus ((repeat' (first | (with_reducible exact hB) | (with_reducible exact Below.refl _ _) | (with_reducible refine Below.alloc ?_ ?_ _) | (with_reducible refine Below.setCell ?_ ?_ _) | (with_reducible refine Below.drew ?_) | (with_reducible refine below_drewN ?_ _) | (with_reducible exact Nat.le_refl _) | (with_reducible exact hB.size) | (simp [go_sem]; done) | (have := hB.size; simp [go_sem]; omega))); done)); (focus ((repeat' (first | (with_reducible exact hB) | (with_reducible exact Below.refl _ _) | (with_reducible refine Below.alloc ?_ ?_ _) | (with_reducible refine Below.setCell ?_ ?_ _) | (with_reducible refine Below.drew ?_) | (with_reducible refine below_drewN ?_ _) | (with_reducible exact Nat.le_refl _) | (with_reducible exact hB.size) | (simp [go_sem]; done) | (have := hB.size; simp [go_sem]; omega))); done)); clear hM hB hb; intro hM hB; (try clear hC); have hC := mem_facts hM; simp at hC)
    go_ret3
    exact ⟨by rw [HR.out]; rfl, by (repeat' (first | (with_reducible exact hB) | (with_reducible exact Below.refl _ _) | (with_reducible refine Below.alloc ?_ ?_ _) | (with_reducible refine Below.setCell ?_ ?_ _) | (with_reducible refine Below.drew ?_) | (with_reducible refine below_drewN ?_ _) | (with_reducible exact Nat.le_refl _) | (with_reducible exact hB.size) | (simp [go_sem]; done) | (have := hB.size; simp [go_sem]; omega)))⟩
  · have h1' := h1
    simp only [mRestEven, Bool.and_eq_true] at h1'
    obtain ⟨k, rfl, hk1, hk2⟩ := mdB_nat h1'.1
    have cP := fun W => l5Point_ k x y ⟨hk1, hk2⟩ W
    cases h2 : ptB k x y
    · have HR := Lib.hid (show mMv ⟨a, b, c, d⟩ k x y = ((0, 0), false) by simp [mMv, h2])
      rw [h2] at cP
      clear h1'
      have hM := mem_nil w; have hB := Below.refl w.heap.size w; have hC := True.intro
      go_enter Try.func21, Try.ntmps21
      go_wp2_with (first | (go_at_call 13; refine (sRestEven_ _ _ _ _ _ _).mono ?_; rintro e w' ⟨rfl, hb⟩; apply after_call (w := w) hb; (focus ((repeat' (first | (with_reducible exact hM) | (with_reducible apply mem_alloc) | (with_reducible apply mem_set) | (with_reducible apply mem_drew) | (with_reducible apply mem_drewN))); done)); (focus ((repeat' (first | (with_reducible exact hB) | (with_reducible exact Below.refl _ _) | (with_reducible refine Below.alloc ?_ ?_ _) | (with_reducible refine Below.setCell ?_ ?_ _) | (with_reducible refine Below.drew ?_) | (with_reducible refine below_drewN ?_ _) | (with_reducible exact Nat.le_refl _) | (with_reducible exact hB.size) | (simp [go_sem]; done) | (have := hB.size; simp [go_sem]; omega))); done)); (focus ((repeat' (first | (with_reducible exact hB) | (with_reducible exact Below.refl _ _) | (with_reducible refine Below.alloc ?_ ?_ _) | (with_reducible refine Below.setCell ?_ ?_ _) | (with_reducible refine Below.drew ?_) | (with_reducible refine below_drewN ?_ _) | (with_reducible exact Nat.le_refl _) | (with_reducible exact hB.size) | (simp [go_sem]; done) | (have := hB.size; simp [go_sem]; omega))); done)); clear hM hB hb; intro hM hB; (try clear hC); have hC := mem_facts hM; simp at hC) | (go_at_call 43; refine (cP _).mono ?_; rintro e w' ⟨rfl, rfl⟩))
      go_ret3
      exact ⟨by rw [HR.out]; rfl, by (repeat' (first | (with_reducible exact hB) | (with_reducible exact Below.refl _ _) | (with_reducible refine Below.alloc ?_ ?_ _) | (with_reducible refine Below.setCell ?_ ?_ _) | (with_reducible refine Below.drew ?_) | (with_reducible refine below_drewN ?_ _) | (with_reducible exact Nat.le_refl _) | (with_reducible exact hB.size) | (simp [go_sem]; done) | (have := hB.size; simp [go_sem]; omega)))⟩
    · obtain ⟨x, y, rfl, rfl, hx, hy⟩ := ptB_nat h2
      have cF := fun W => l5Move_ k a b c d x y ⟨hk1, hk2⟩ h1'.2 h2 W
      have HR := Lib.hid (show mMv ⟨a, b, c, d⟩ k x y = (((((ledP k ⟨a, b, c, d⟩ x y).1 : Nat) : Int), (((ledP k ⟨a, b, c, d⟩ x y).2 : Nat) : Int)), true) by simp [mMv, h1, h2])
      rw [h2] at cP
      clear h1'
      generalize ledP k ⟨a, b, c, d⟩ x y = q at *
      obtain ⟨u, v⟩ := q
      dsimp only at cF
      have hM := mem_nil w; have hB := Below.refl w.heap.size w; have hC := True.intro
      go_enter Try.func21, Try.ntmps21
      go_wp2_with (first | (go_at_call 13; refine (sRestEven_ _ _ _ _ _ _).mono ?_; rintro e w' ⟨rfl, hb⟩; apply after_call (w := w) hb; (focus ((repeat' (first | (with_reducible exact hM) | (with_reducible apply mem_alloc) | (with_reducible apply mem_set) | (with_reducible apply mem_drew) | (with_reducible apply mem_drewN))); done)); (focus ((repeat' (first | (with_reducible exact hB) | (with_reducible exact Below.refl _ _) | (with_reducible refine Below.alloc ?_ ?_ _) | (with_reducible refine Below.setCell ?_ ?_ _) | (with_reducible refine Below.drew ?_) | (with_reducible refine below_drewN ?_ _) | (with_reducible exact Nat.le_refl _) | (with_reducible exact hB.size) | (simp [go_sem]; done) | (have := hB.size; simp [go_sem]; omega))); done)); (focus ((repeat' (first | (with_reducible exact hB) | (with_reducible exact Below.refl _ _) | (with_reducible refine Below.alloc ?_ ?_ _) | (with_reducible refine Below.setCell ?_ ?_ _) | (with_reducible refine Below.drew ?_) | (with_reducible refine below_drewN ?_ _) | (with_reducible exact Nat.le_refl _) | (with_reducible exact hB.size) | (simp [go_sem]; done) | (have := hB.size; simp [go_sem]; omega))); done)); clear hM hB hb; intro hM hB; (try clear hC); have hC := mem_facts hM; simp at hC) | (go_at_call 43; refine (cP _).mono ?_; rintro e w' ⟨rfl, rfl⟩) | (go_at_call 47; refine (cF _).mono ?_; rintro e w' ⟨rfl, hb⟩; apply after_call (w := w) hb; (focus ((repeat' (first | (with_reducible exact hM) | (with_reducible apply mem_alloc) | (with_reducible apply mem_set) | (with_reducible apply mem_drew) | (with_reducible apply mem_drewN))); done)); (focus ((repeat' (first | (with_reducible exact hB) | (with_reducible exact Below.refl _ _) | (with_reducible refine Below.alloc ?_ ?_ _) | (with_reducible refine Below.setCell ?_ ?_ _) | (with_reducible refine Below.drew ?_) | (with_reducible refine below_drewN ?_ _) | (with_reducible exact Nat.le_refl _) | (with_reducible exact hB.size) | (simp [go_sem]; done) | (have := hB.size; simp [go_sem]; omega))); done)); (focus ((repeat' (first | (with_reducible exact hB) | (with_reducible exact Below.refl _ _) | (with_reducible refine Below.alloc ?_ ?_ _) | (with_reducible refine Below.setCell ?_ ?_ _) | (with_reducible refine Below.drew ?_) | (with_reducible refine below_drewN ?_ _) | (with_reducible exact Nat.le_refl _) | (with_reducible exact hB.size) | (simp [go_sem]; done) | (have := hB.size; simp [go_sem]; omega))); done)); clear hM hB hb; intro hM hB; (try clear hC); have hC := mem_facts hM; simp at hC))
      go_ret3
      exact ⟨by rw [HR.out]; rfl, by (repeat' (first | (with_reducible exact hB) | (with_reducible exact Below.refl _ _) | (with_reducible refine Below.alloc ?_ ?_ _) | (with_reducible refine Below.setCell ?_ ?_ _) | (with_reducible refine Below.drew ?_) | (with_reducible refine below_drewN ?_ _) | (with_reducible exact Nat.le_refl _) | (with_reducible exact hB.size) | (simp [go_sem]; done) | (have := hB.size; simp [go_sem]; omega)))⟩
end Go.Proofs.Ythblmkpannfbaaa
