
/- The model's necklaces with a trace; walked. -/
import Derived.Test.YthpbdcookhpdaaaBefP
import Derived.Test.YthpbdcookhpdaaaNecC
import Derived.Test.YthpbdcookhpdaaaSpecY
namespace Go.Proofs.Ythpbdcookhpdaaa
open Go.RowKit Go.Shelf Go.Lib

/-- an own list of texts that is no nil -/
def RowS (W : World) (base : Nat) (v : Value) (L : List (List UInt8)) : Prop := ∃ g cap, v = .slice (some ⟨g, 0, none⟩) L.length cap ∧ W.ownsRow base 9 1 v L.length (L.map strV)
def MoO (t : Nat) (w : World) (g : Nat) (v a : Value) (wr : World) : Prop := ∃ n : Nat, 1 ≤ n ∧ n + g = t ∧ a = .int .i64 (n : Int) ∧ RowS wr w.heap.size v (modN (wsO t (n - 1))) ∧ Below w.heap.size w wr
def MoI (t a : Nat) (w : World) (g : Nat) (v b : Value) (wr : World) : Prop := ∃ n : Nat, 1 ≤ n ∧ n + g = pdN t a + 1 ∧ b = .int .i64 (n : Int) ∧ RowS wr w.heap.size v (modN (wsO t (a - 1) ++ wsI t a (n - 1))) ∧ Below w.heap.size w wr
theorem rowS_of {w W : World} {L : List (List UInt8)} {g cap : Nat} (h : W.ownsRow w.heap.size 9 1 (.slice (some ⟨g, 0, none⟩) L.length cap) L.length (L.map strV)) : RowS W w.heap.size (.slice (some ⟨g, 0, none⟩) L.length cap) L := ⟨g, cap, rfl, h⟩
set_option maxRecDepth 100000 in
set_option maxHeartbeats 4000000 in
theorem l4All_ (t : Nat) (ht : 3 ≤ t ∧ t ≤ 30) (w : World) : Calls Try.prog 16 #[.int .i64 t] w fun e w' => ∃ v, e = .returned v ∧ RowS w' w.heap.size v (nkl t) ∧ Below w.heap.size w w' := by
  have hM := mem_nil w; have hB := Below.refl w.heap.size w; have hC := True.intro
  go_enter Try.func16, Try.ntmps16
  go_wp2
  go_loopg [3, 4] (t - 1) (fun gk v a wr => MoO t w gk v a wr)
  case atStart => exact ⟨1, Nat.le_refl _, by omega, rfl, ⟨w.heap.size, 0, rfl, row_ofS (L := [(w.heap.size, #[], 9)]) (by (repeat' (first | (with_reducible exact hM) | (with_reducible apply mem_alloc) | (with_reducible apply mem_set) | (with_reducible apply mem_drew) | (with_reducible apply mem_drewN)))) (by simp) (Nat.le_refl _)⟩, by (repeat' (first | (with_reducible exact hB) | (with_reducible exact Below.refl _ _) | (with_reducible refine Below.alloc ?_ ?_ _) | (with_reducible refine Below.setCell ?_ ?_ _) | (with_reducible refine Below.drew ?_) | (with_reducible refine below_drewN ?_ _) | (with_reducible exact Nat.le_refl _) | (with_reducible exact hB.size) | (simp [go_sem]; done) | (have := hB.size; simp [go_sem]; omega)))⟩
  case round =>
    obtain ⟨a, ha1, ha, rfl, hR, hB'⟩ := hrel
    clear hM hC hB
    have hB := hB'
    clear hB'
    have HR := Lib.hid hR
    clear hR
    by_cases hlt : a < t
    · have hpd : pdN t a ≤ 225 := pdN_le ht.2 a
      have hpx : (a : Int) * ((t : Int) - (a : Int)) - 1 = (pdN t a : Int) := pdN_int ha1 hlt
      go_wp2
      obtain ⟨go, hgo⟩ : ∃ x : Nat, x = gk := ⟨_, rfl⟩
      go_loopg [3, 6] (pdN t a) (fun gk v b wr => MoI t a w gk v b wr)
      case atStart => exact ⟨1, Nat.le_refl _, by omega, rfl, by simpa [wsI] using HR.out, by (repeat' (first | (with_reducible exact hB) | (with_reducible exact Below.refl _ _) | (with_reducible refine Below.alloc ?_ ?_ _) | (with_reducible refine Below.setCell ?_ ?_ _) | (with_reducible refine Below.drew ?_) | (with_reducible refine below_drewN ?_ _) | (with_reducible exact Nat.le_refl _) | (with_reducible exact hB.size) | (simp [go_sem]; done) | (have := hB.size; simp [go_sem]; omega)))⟩
      case round =>
        obtain ⟨b, hb1, hbg, rfl, hR2, hB'⟩ := hrel
        clear hB HR
        have hB := hB'
        clear hB'
        have HR := Lib.hid hR2
        clear hR2
        have HL0 := Lib.hid (show wsO t (a - 1) ++ wsI t a b = (wsO t (a - 1) ++ wsI t a (b - 1)) ++ (wk1 t a b).toList from by
          have := wsI_succ t a (b - 1)
          rw [show b - 1 + 1 = b from by omega] at this
          rw [this, List.append_assoc])
        have HF0 := Lib.hid (show b = pdN t a + 1 → wsO t (a - 1) ++ wsI t a (b - 1) = wsO t a from fun h => by
          have := wsO_succ t (a - 1)
          rw [show a - 1 + 1 = a from by omega] at this
          rw [this, h]; rfl)
        have hlen : (modN (wsO t (a - 1) ++ wsI t a (b - 1))).length ≤ 10000 := by
          have h0 := modN_len (wsO t (a - 1) ++ wsI t a (b - 1))
          have h1 := wsO_len ht.2 (a - 1)
          have h2 := wsI_len t a (b - 1)
          rw [List.length_append] at h0
          omega
        by_cases hble : b ≤ pdN t a
        · have hb0 : ((b : Int) = 0) = False := by simp; omega
          have htm := tmod_nat (pdN t a) b
          by_cases hdv : pdN t a % b = 0
          · have hz : ((pdN t a % b : Nat) : Int) = 0 := by omega
            have hle : pdN t a / b ≤ 225 := Nat.le_trans (Nat.div_le_self _ _) hpd
            have htd : ((pdN t a : Nat) : Int).tdiv (b : Int) = ((pdN t a / b : Nat) : Int) := rfl
            have hq : pdN t a = b * (pdN t a / b) := by
              have := Nat.div_add_mod (pdN t a) b
              omega
            have hwk0 : wk1 t a b = if (lets (a + b) (pdN t a / b + (t - a))).length ≤ 40 then some (lets (a + b) (pdN t a / b + (t - a))) else none := by
              rw [wk1]
              by_cases h40 : (lets (a + b) (pdN t a / b + (t - a))).length ≤ 40
              · rw [if_pos ⟨hdv, h40⟩, if_pos h40]
              · rw [if_neg (fun h => h40 h.2), if_neg h40]
            generalize pdN t a / b = d at *
            have hW : ∀ W : World, Calls Try.prog 28 #[.agg #[.int .i64 (a : Int), .int .i64 (b : Int), .int .i64 (d : Int), .int .i64 ((t : Int) - (a : Int))]] W (fun E' W' => E' = .returned (.tuple #[.string (fwd (a + b) (d + (t - a))).1, .bool (fwd (a + b) (d + (t - a))).2]) ∧ Below W.heap.size W W') := fun W => by
              have hin : inB ⟨(a : Int), (b : Int), (d : Int), (t : Int) - (a : Int)⟩ = true := inB_iff.2 ⟨⟨by simp only; omega, by simp only; omega⟩, ⟨by simp only; omega, by simp only; omega⟩, ⟨by simp only; omega, by simp only; omega⟩, ⟨by simp only; omega, by simp only; omega⟩⟩
              have hdet : xd ⟨(a : Int), (b : Int), (d : Int), (t : Int) - (a : Int)⟩ = 1 := by
                have e1 : ((b * d : Nat) : Int) = (b : Int) * (d : Int) := Int.natCast_mul _ _
                rw [← hq] at e1
                simp only [xd]
                rw [← e1]
                omega
              have h := sWordOf_yes (a : Int) (b : Int) (d : Int) ((t : Int) - (a : Int)) hin ((evB_iff hin).2 hdet) ⟨by simp only; omega, by simp only; omega, by simp only; omega, by simp only; omega⟩ W
              rwa [show P1 ⟨(a : Int), (b : Int), (d : Int), (t : Int) - (a : Int)⟩ = a + b from by simp only [P1]; omega, show P2 ⟨(a : Int), (b : Int), (d : Int), (t : Int) - (a : Int)⟩ = d + (t - a) from by simp only [P2]; omega] at h
            unfold fwd at hW
            generalize a + b = pp at *
            generalize d + (t - a) = qq at *
            have HK := Lib.hid hwk0
            clear hwk0 hq
            by_cases h40 : (lets pp qq).length ≤ 40
            · simp only [if_pos h40] at hW
              obtain ⟨g, cap, rfl, hR⟩ := HR.out
              have hM := mem_nil wr
              have hC : True := trivial
              have hle1 : ∀ W : World, Calls Try.prog 30 #[.string (txt (lets pp qq))] W (fun E' W' => E' = .returned (.string (txt (nk (lets pp qq)))) ∧ Below W.heap.size W W') := fun W => by
                have := l4Least_ (txt (lets pp qq)) (by rw [txt_size]; omega) W
                rwa [txt_list] at this
              go_wp2_with fail
              go_at_call 28
              refine (hW _).mono ?_
              rintro e w1 ⟨rfl, hb⟩
              have hR1 := row_keep hR hb
              have hB1 : Below w.heap.size w w1 := hB.trans (hb.mono hB.size)
              clear hb hR hM
              go_wp2_with fail
              go_at_call 30
              refine (hle1 _).mono ?_
              rintro e w2 ⟨rfl, hb⟩
              have hR2 := row_keep hR1 hb
              have hB2 : Below w.heap.size w w2 := hB1.trans (hb.mono hB1.size)
              clear hb hR1
              go_wp2_with fail
              go_at_call 29
              refine (l4Put_ _ _ (by omega) _ g cap w2 hR2 hB2.size).mono ?_
              rintro e w3 ⟨g', cap', rfl, hR3, hb⟩
              have hB3 : Below w.heap.size w w3 := hB2.trans (hb.mono hB2.size)
              clear hb
              go_wp2_with fail
              go_roundg (gk - 1)
              case measure => omega
              case rel =>
                refine ⟨b + 1, by omega, by omega, by go_num, ?_, hB3⟩
                rw [show b + 1 - 1 = b from by omega, HL0.out, HK.out, if_pos h40]
                show RowS _ _ _ (modN (_ ++ [lets pp qq]))
                rw [modN_snoc]
                exact ⟨g', cap', rfl, hR3⟩
            · simp only [if_neg h40] at hW
              have hM := mem_nil wr
              have hC : True := trivial
              go_wp2_with fail
              go_at_call 28
              refine (hW _).mono ?_
              rintro e w1 ⟨rfl, hb⟩
              have hR1 : RowS w1 w.heap.size u3 (modN (wsO t (a - 1) ++ wsI t a (b - 1))) := by
                obtain ⟨g, cap, hv, hR⟩ := HR.out
                exact ⟨g, cap, hv, row_keep hR hb⟩
              have hB1 : Below w.heap.size w w1 := hB.trans (hb.mono hB.size)
              have HR1 := Lib.hid hR1
              clear hb hM hR1
              go_wp2_with fail
              go_roundg (gk - 1)
              case measure => omega
              case rel =>
                refine ⟨b + 1, by omega, by omega, by go_num, ?_, hB1⟩
                rw [show b + 1 - 1 = b from by omega, HL0.out, HK.out, if_neg h40]
                simpa using HR1.out
          · have hz : (((pdN t a % b : Nat) : Int) == 0) = false := by simp; omega
            have hwk : wk1 t a b = none := by rw [wk1, if_neg (fun h => hdv h.1)]
            have HK := Lib.hid hwk
            clear hwk
            go_wp2
            go_roundg (gk - 1)
            case measure => omega
            case rel =>
              refine ⟨b + 1, by omega, by omega, by go_num, ?_, by (repeat' (first | (with_reducible exact hB) | (with_reducible exact Below.refl _ _) | (with_reducible refine Below.alloc ?_ ?_ _) | (with_reducible refine Below.setCell ?_ ?_ _) | (with_reducible refine Below.drew ?_) | (with_reducible refine below_drewN ?_ _) | (with_reducible exact Nat.le_refl _) | (with_reducible exact hB.size) | (simp [go_sem]; done) | (have := hB.size; simp [go_sem]; omega)))⟩
              rw [show b + 1 - 1 = b from by omega, HL0.out, HK.out]
              simpa using HR.out
        · have hbe : b = pdN t a + 1 := by omega
          have HE := Lib.hid (HF0.out hbe)
          clear hbe
          go_wp2
          go_roundg (go - 1)
          case measure => omega
          case rel =>
            refine ⟨a + 1, by omega, by omega, by go_num, ?_, by (repeat' (first | (with_reducible exact hB) | (with_reducible exact Below.refl _ _) | (with_reducible refine Below.alloc ?_ ?_ _) | (with_reducible refine Below.setCell ?_ ?_ _) | (with_reducible refine Below.drew ?_) | (with_reducible refine below_drewN ?_ _) | (with_reducible exact Nat.le_refl _) | (with_reducible exact hB.size) | (simp [go_sem]; done) | (have := hB.size; simp [go_sem]; omega)))⟩
            rw [show a + 1 - 1 = a from by omega, ← HE.out]
            exact HR.out
    · go_wp2
      go_ret
      obtain rfl : a = t := by omega
      exact ⟨_, rfl, HR.out, by (repeat' (first | (with_reducible exact hB) | (with_reducible exact Below.refl _ _) | (with_reducible refine Below.alloc ?_ ?_ _) | (with_reducible refine Below.setCell ?_ ?_ _) | (with_reducible refine Below.drew ?_) | (with_reducible refine below_drewN ?_ _) | (with_reducible exact Nat.le_refl _) | (with_reducible exact hB.size) | (simp [go_sem]; done) | (have := hB.size; simp [go_sem]; omega)))⟩
theorem l6In4_ (t : Int) (w : World) : Calls Try.prog 15 #[.int .i64 t, .int .i64 3, .int .i64 30] w (fun E' W' => E' = .returned (.bool (trB t)) ∧ w = W') := by
  by_cases h1 : 3 ≤ t
  · by_cases h2 : t ≤ 30
    · have hr : trB t = true := trB_iff.2 ⟨h1, h2⟩
      go_enter Try.func15, Try.ntmps15
      go_wp2
      go_ret
      exact ⟨by first | rfl | (rw [hr]; rfl), rfl⟩
    · have hr : trB t = false := by simp [trB, h2]
      have h3 : (t ≤ 30) = False := by simp; omega
      go_enter Try.func15, Try.ntmps15
      go_wp2
      go_ret
      exact ⟨by first | rfl | (rw [hr]; rfl), rfl⟩
  · have hr : trB t = false := by simp [trB, h1]
    have h3 : (3 ≤ t) = False := by simp; omega
    go_enter Try.func15, Try.ntmps15
    go_wp2
    go_ret
    exact ⟨by first | rfl | (rw [hr]; rfl), rfl⟩
end Go.Proofs.Ythpbdcookhpdaaa
