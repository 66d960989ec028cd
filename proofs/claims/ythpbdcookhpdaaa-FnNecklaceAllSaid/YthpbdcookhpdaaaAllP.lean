
/- The program's words with a trace, walked. For the traces up to 30. -/
import Derived.Test.YthpbdcookhpdaaaFracWord
import Derived.Test.YthpbdcookhpdaaaImplW
import Derived.Test.YthpbdcookhpdaaaHeld
import Derived.Test.YthpbdcookhpdaaaConj
import Derived.Deep.LoopGhost
import Derived.Deep.DeepCutAuto
namespace Go.Proofs.Ythpbdcookhpdaaa
open Go.RowKit Go.Shelf

/-- the word of the even matrix a, b, .., t - a of positive numbers, where b divides, and it has one of at most 40 letters -/
def pdN (t a : Nat) : Nat := a * (t - a) - 1
def wk1 (t a b : Nat) : Option (List UInt8) := if pdN t a % b = 0 ∧ (lets (a + b) (pdN t a / b + (t - a))).length ≤ 40 then some (lets (a + b) (pdN t a / b + (t - a))) else none
/-- those of b up to n, of a up to n -/
def wsI (t a n : Nat) : List (List UInt8) := (List.range n).filterMap fun i => wk1 t a (i + 1)
def wsO (t n : Nat) : List (List UInt8) := (List.range n).flatMap fun i => wsI t (i + 1) (pdN t (i + 1))
theorem wsI_succ (t a n : Nat) : wsI t a (n + 1) = wsI t a n ++ (wk1 t a (n + 1)).toList := by
  unfold wsI
  rw [List.range_succ, List.filterMap_append]
  cases h : wk1 t a (n + 1) <;> simp [h]
theorem wsO_succ (t n : Nat) : wsO t (n + 1) = wsO t n ++ wsI t (n + 1) (pdN t (n + 1)) := by
  unfold wsO
  rw [List.range_succ, List.flatMap_append]; simp
theorem pdN_int {t a : Nat} (h1 : 1 ≤ a) (h2 : a < t) : (a : Int) * ((t : Int) - (a : Int)) - 1 = (pdN t a : Int) := by
  unfold pdN
  have h3 : 1 ≤ a * (t - a) := Nat.mul_pos (by omega) (by omega)
  rw [Int.natCast_sub h3, Int.natCast_mul, Int.natCast_sub (by omega)]; rfl
theorem pdN_le {t : Nat} (ht : t ≤ 30) (a : Nat) : pdN t a ≤ 225 := by
  unfold pdN
  by_cases h : a ≤ t
  · obtain ⟨b, rfl⟩ : ∃ b, t = a + b := ⟨t - a, by omega⟩
    rw [Nat.add_sub_cancel_left]
    have h1 : (a : Int) * (b : Int) ≤ 225 := by
      have h2 := sq_le (x := (a : Int) + b) (y := 30) (by omega) (by omega)
      have h3 : 0 ≤ ((a : Int) - b) * ((a : Int) - b) := by rw [← Int.natAbs_mul_self' ((a : Int) - b)]; exact Int.mul_nonneg (by omega) (by omega)
      grind
    have : ((a * b : Nat) : Int) = (a : Int) * b := Int.natCast_mul _ _
    omega
  · rw [show t - a = 0 from by omega]; simp
def strV (l : List UInt8) : Value := .string (txt l)
theorem row_keep {W W' : World} {base n : Nat} {e : TypeId} {v : Value} {xs : List Value} (h : W.ownsRow base e 1 v n xs) (hb : Below W.heap.size W W') : W'.ownsRow base e 1 v n xs := by
  refine h.kept (row := none) ⟨hb.os, hb.tape, hb.output, hb.size, fun i hi _ => hb.block i hi⟩ ?_
  cases v.ownBlock
  · exact .inl rfl
  · exact .inr (by simp)
theorem infoWd : (Try.prog.info? 42).map (fun i => (i.zero, i.size, i.bytes)) = some (some (.string ⟨#[]⟩), 1, 16) := by kernel_rfl
theorem wsI_len (t a n : Nat) : (wsI t a n).length ≤ n := by
  have := List.length_filterMap_le (fun i => wk1 t a (i + 1)) (List.range n)
  rwa [List.length_range] at this
theorem wsO_len {t : Nat} (ht : t ≤ 30) : ∀ n, (wsO t n).length ≤ n * 225
  | 0 => by simp [wsO]
  | n + 1 => by
    rw [wsO_succ, List.length_append]
    have h1 := wsO_len ht n
    have h2 := wsI_len t (n + 1) (pdN t (n + 1))
    have h3 := pdN_le ht (n + 1)
    omega
/-- what holds at the head of the rounds over a, over b -/
def WoR (t : Nat) (w : World) (g : Nat) (v a : Value) (wr : World) : Prop := ∃ n : Nat, 1 ≤ n ∧ n + g = t ∧ a = .int .i64 (n : Int) ∧ wr.ownsRow w.heap.size 42 1 v (wsO t (n - 1)).length ((wsO t (n - 1)).map strV) ∧ Below w.heap.size w wr
def WiR (t a : Nat) (w : World) (g : Nat) (v b : Value) (wr : World) : Prop := ∃ n : Nat, 1 ≤ n ∧ n + g = pdN t a + 1 ∧ b = .int .i64 (n : Int) ∧ wr.ownsRow w.heap.size 42 1 v (wsO t (a - 1) ++ wsI t a (n - 1)).length ((wsO t (a - 1) ++ wsI t a (n - 1)).map strV) ∧ Below w.heap.size w wr
set_option maxRecDepth 100000 in
set_option maxHeartbeats 4000000 in
theorem wordsWith_ (t : Nat) (ht : 3 ≤ t ∧ t ≤ 30) (w : World) : Calls Try.prog 24 #[.int .i64 t] w fun e w' => ∃ v, e = .returned v ∧ w'.ownsRow w.heap.size 42 1 v (wsO t (t - 1)).length ((wsO t (t - 1)).map strV) ∧ Below w.heap.size w w' := by
  have hM := mem_nil w; have hB := Below.refl w.heap.size w; have hC := True.intro
  go_enter Try.func24, Try.ntmps24
  go_wp2
  go_loopg [3, 4] (t - 1) (fun gk v a wr => WoR t w gk v a wr)
  case atStart => exact ⟨1, Nat.le_refl _, by omega, rfl, World.ownsRow_nil _ _ _ _, by (repeat' (first | (with_reducible exact hB) | (with_reducible exact Below.refl _ _) | (with_reducible refine Below.alloc ?_ ?_ _) | (with_reducible refine Below.setCell ?_ ?_ _) | (with_reducible refine Below.drew ?_) | (with_reducible refine below_drewN ?_ _) | (with_reducible exact Nat.le_refl _) | (with_reducible exact hB.size) | (simp [go_sem]; done) | (have := hB.size; simp [go_sem]; omega)))⟩
  case round =>
    obtain ⟨a, ha1, ha, rfl, hR, hB'⟩ := hrel
    clear hM hC hB
    have hB := hB'
    clear hB'
    have HR := Lib.hid hR
    clear hR
    by_cases hlt : a < t
    · have hpd : pdN t a ≤ 225 := pdN_le ht.2 a
      have hpx : (a : Int) * ((t : Int) - (a : Int)) - 1 = (pdN t a : Int) := pdN_int ha1 hlt
      go_wp2
      obtain ⟨go, hgo⟩ : ∃ x : Nat, x = gk := ⟨_, rfl⟩
      go_loopg [3, 6] (pdN t a) (fun gk v b wr => WiR t a w gk v b wr)
      case atStart => exact ⟨1, Nat.le_refl _, by omega, rfl, by simpa [wsI] using HR.out, by (repeat' (first | (with_reducible exact hB) | (with_reducible exact Below.refl _ _) | (with_reducible refine Below.alloc ?_ ?_ _) | (with_reducible refine Below.setCell ?_ ?_ _) | (with_reducible refine Below.drew ?_) | (with_reducible refine below_drewN ?_ _) | (with_reducible exact Nat.le_refl _) | (with_reducible exact hB.size) | (simp [go_sem]; done) | (have := hB.size; simp [go_sem]; omega)))⟩
      case round =>
        obtain ⟨b, hb1, hbg, rfl, hR2, hB'⟩ := hrel
        clear hB HR
        have hB := hB'
        clear hB'
        have HR := Lib.hid hR2
        clear hR2
        have HL0 := Lib.hid (show wsO t (a - 1) ++ wsI t a b = (wsO t (a - 1) ++ wsI t a (b - 1)) ++ (wk1 t a b).toList from by
          have := wsI_succ t a (b - 1)
          rw [show b - 1 + 1 = b from by omega] at this
          rw [this, List.append_assoc])
        have HF0 := Lib.hid (show b = pdN t a + 1 → wsO t (a - 1) ++ wsI t a (b - 1) = wsO t a from fun h => by
          have := wsO_succ t (a - 1)
          rw [show a - 1 + 1 = a from by omega] at this
          rw [this, h]; rfl)
        have hlen : (wsO t (a - 1) ++ wsI t a (b - 1)).length ≤ 10000 := by
          have h1 := wsO_len ht.2 (a - 1)
          have h2 := wsI_len t a (b - 1)
          rw [List.length_append]
          omega
        generalize wsO t (a - 1) ++ wsI t a (b - 1) = L at *
        by_cases hble : b ≤ pdN t a
        · have hb0 : ((b : Int) = 0) = False := by simp; omega
          have htm := tmod_nat (pdN t a) b
          by_cases hdv : pdN t a % b = 0
          · have hz : ((pdN t a % b : Nat) : Int) = 0 := by omega
            have hle : pdN t a / b ≤ 225 := Nat.le_trans (Nat.div_le_self _ _) hpd
            have htd : ((pdN t a : Nat) : Int).tdiv (b : Int) = ((pdN t a / b : Nat) : Int) := rfl
            have hwk0 : wk1 t a b = if (lets (a + b) (pdN t a / b + (t - a))).length ≤ 40 then some (lets (a + b) (pdN t a / b + (t - a))) else none := by
              rw [wk1]
              by_cases h40 : (lets (a + b) (pdN t a / b + (t - a))).length ≤ 40
              · rw [if_pos ⟨hdv, h40⟩, if_pos h40]
              · rw [if_neg (fun h => h40 h.2), if_neg h40]
            generalize pdN t a / b = d at *
            have hF : ∀ W : World, Calls Try.prog 39 #[.agg #[.int .i64 (a : Int), .int .i64 (b : Int), .int .i64 (d : Int), .int .i64 ((t : Int) - (a : Int))]] W (fun E' W' => E' = .returned (.agg #[.int .i64 ((a + b : Nat) : Int), .int .i64 ((d + (t - a) : Nat) : Int)]) ∧ Below W.heap.size W W') := fun W => by
              have := fraction_ (a : Int) (b : Int) (d : Int) ((t : Int) - (a : Int)) W
              rw [wrap_mid (x := (a : Int) + b) (by omega), wrap_mid (x := (d : Int) + ((t : Int) - a)) (by omega), show (a : Int) + b = ((a + b : Nat) : Int) from by omega, show (d : Int) + ((t : Int) - a) = ((d + (t - a) : Nat) : Int) from by omega] at this
              exact this
            have hW := fun W => fracWord_ (a + b) (d + (t - a)) (by omega) (by omega) (by omega) W
            unfold fwd at hW
            generalize a + b = pp at *
            generalize d + (t - a) = qq at *
            have HK := Lib.hid hwk0
            clear hwk0
            by_cases h40 : (lets pp qq).length ≤ 40
            · simp only [if_pos h40] at hW
              have hR := HR.out
              obtain ⟨ao, cap, rfl⟩ := row_form hR
              have hM := mem_nil wr
              have hC : True := trivial
              obtain ⟨i0, hi, hz0, hz1, hz2⟩ := info_parts infoWd
              go_wp2_with fail
              go_at_call 39
              refine (hF _).mono ?_
              rintro e w' ⟨rfl, hb⟩
              replace hR := row_keep (hR.alloc _) hb
              apply after_call (w := w) hb; (focus ((repeat' (first | (with_reducible exact hM) | (with_reducible apply mem_alloc) | (with_reducible apply mem_set) | (with_reducible apply mem_drew) | (with_reducible apply mem_drewN))); done)); (focus ((repeat' (first | (with_reducible exact hB) | (with_reducible exact Below.refl _ _) | (with_reducible refine Below.alloc ?_ ?_ _) | (with_reducible refine Below.setCell ?_ ?_ _) | (with_reducible refine Below.drew ?_) | (with_reducible refine below_drewN ?_ _) | (with_reducible exact Nat.le_refl _) | (with_reducible exact hB.size) | (simp [go_sem]; done) | (have := hB.size; simp [go_sem]; omega))); done)); (focus ((repeat' (first | (with_reducible exact hB) | (with_reducible exact Below.refl _ _) | (with_reducible refine Below.alloc ?_ ?_ _) | (with_reducible refine Below.setCell ?_ ?_ _) | (with_reducible refine Below.drew ?_) | (with_reducible refine below_drewN ?_ _) | (with_reducible exact Nat.le_refl _) | (with_reducible exact hB.size) | (simp [go_sem]; done) | (have := hB.size; simp [go_sem]; omega))); done)); clear hM hB hb; intro hM hB; (try clear hC); have hC := mem_facts hM; simp at hC
              go_wp2_with fail
              go_at_call 40
              refine (hW _).mono ?_
              rintro e w' ⟨rfl, hb⟩
              replace hR := row_keep hR hb
              apply after_call (w := w) hb; (focus ((repeat' (first | (with_reducible exact hM) | (with_reducible apply mem_alloc) | (with_reducible apply mem_set) | (with_reducible apply mem_drew) | (with_reducible apply mem_drewN))); done)); (focus ((repeat' (first | (with_reducible exact hB) | (with_reducible exact Below.refl _ _) | (with_reducible refine Below.alloc ?_ ?_ _) | (with_reducible refine Below.setCell ?_ ?_ _) | (with_reducible refine Below.drew ?_) | (with_reducible refine below_drewN ?_ _) | (with_reducible exact Nat.le_refl _) | (with_reducible exact hB.size) | (simp [go_sem]; done) | (have := hB.size; simp [go_sem]; omega))); done)); (focus ((repeat' (first | (with_reducible exact hB) | (with_reducible exact Below.refl _ _) | (with_reducible refine Below.alloc ?_ ?_ _) | (with_reducible refine Below.setCell ?_ ?_ _) | (with_reducible refine Below.drew ?_) | (with_reducible refine below_drewN ?_ _) | (with_reducible exact Nat.le_refl _) | (with_reducible exact hB.size) | (simp [go_sem]; done) | (have := hB.size; simp [go_sem]; omega))); done)); clear hM hB hb; intro hM hB; (try clear hC); have hC := mem_facts hM; simp at hC
              obtain ⟨wr, rfl⟩ : ∃ x : World, x = w' := ⟨_, rfl⟩
              go_wp2_with (at_builtin; refine wpList_append_own _ rfl _ _ 40 rfl w.heap.size 42 i0 (.string ⟨#[]⟩) 1 16 Try.underlying40 hi hz0 hz1 hz2 rfl (by decide) _ _ _ rfl (hR.alloc _) ⟨_, 0, none⟩ 1 1 [.string (txt (lets pp qq))] rfl rfl (cell_one_new _ _ _) (by simp [Value.oneCell']) (by simp [maxLen]; omega) (by first | omega | (simp; omega)) (by have := hB.size; simp; omega) ?_; intro v' w1 hown' hgrow hnn; clear hnn; obtain ⟨g', cap', rfl⟩ := ownsRow_succ hown'; apply after_app (w := w) (A := wr) hgrow (hR.alloc _) (mem_alloc0 hM _) (by simp) (hB.alloc hB.size _) (by have := hB.size; simp; omega) (keeps_alloc (KeepsOthers.refl wr) _); clear hM hB hgrow hR; intro hM hB _; have hR := hown'; clear hown'; (try clear hC); have hC := mem_facts hM; simp at hC)
              go_roundg (gk - 1)
              case measure => omega
              case rel =>
                refine ⟨b + 1, by omega, by omega, by go_num, ?_, by (repeat' (first | (with_reducible exact hB) | (with_reducible exact Below.refl _ _) | (with_reducible refine Below.alloc ?_ ?_ _) | (with_reducible refine Below.setCell ?_ ?_ _) | (with_reducible refine Below.drew ?_) | (with_reducible refine below_drewN ?_ _) | (with_reducible exact Nat.le_refl _) | (with_reducible exact hB.size) | (simp [go_sem]; done) | (have := hB.size; simp [go_sem]; omega)))⟩
                rw [show b + 1 - 1 = b from by omega, HL0.out, HK.out, if_pos h40]
                simpa [strV] using hR
            · simp only [if_neg h40] at hW
              have hR := HR.out
              have hM := mem_nil wr
              have hC : True := trivial
              go_wp2_with fail
              go_at_call 39
              refine (hF _).mono ?_
              rintro e w' ⟨rfl, hb⟩
              replace hR := row_keep (hR.alloc _) hb
              apply after_call (w := w) hb; (focus ((repeat' (first | (with_reducible exact hM) | (with_reducible apply mem_alloc) | (with_reducible apply mem_set) | (with_reducible apply mem_drew) | (with_reducible apply mem_drewN))); done)); (focus ((repeat' (first | (with_reducible exact hB) | (with_reducible exact Below.refl _ _) | (with_reducible refine Below.alloc ?_ ?_ _) | (with_reducible refine Below.setCell ?_ ?_ _) | (with_reducible refine Below.drew ?_) | (with_reducible refine below_drewN ?_ _) | (with_reducible exact Nat.le_refl _) | (with_reducible exact hB.size) | (simp [go_sem]; done) | (have := hB.size; simp [go_sem]; omega))); done)); (focus ((repeat' (first | (with_reducible exact hB) | (with_reducible exact Below.refl _ _) | (with_reducible refine Below.alloc ?_ ?_ _) | (with_reducible refine Below.setCell ?_ ?_ _) | (with_reducible refine Below.drew ?_) | (with_reducible refine below_drewN ?_ _) | (with_reducible exact Nat.le_refl _) | (with_reducible exact hB.size) | (simp [go_sem]; done) | (have := hB.size; simp [go_sem]; omega))); done)); clear hM hB hb; intro hM hB; (try clear hC); have hC := mem_facts hM; simp at hC
              go_wp2_with fail
              go_at_call 40
              refine (hW _).mono ?_
              rintro e w' ⟨rfl, hb⟩
              replace hR := row_keep hR hb
              apply after_call (w := w) hb; (focus ((repeat' (first | (with_reducible exact hM) | (with_reducible apply mem_alloc) | (with_reducible apply mem_set) | (with_reducible apply mem_drew) | (with_reducible apply mem_drewN))); done)); (focus ((repeat' (first | (with_reducible exact hB) | (with_reducible exact Below.refl _ _) | (with_reducible refine Below.alloc ?_ ?_ _) | (with_reducible refine Below.setCell ?_ ?_ _) | (with_reducible refine Below.drew ?_) | (with_reducible refine below_drewN ?_ _) | (with_reducible exact Nat.le_refl _) | (with_reducible exact hB.size) | (simp [go_sem]; done) | (have := hB.size; simp [go_sem]; omega))); done)); (focus ((repeat' (first | (with_reducible exact hB) | (with_reducible exact Below.refl _ _) | (with_reducible refine Below.alloc ?_ ?_ _) | (with_reducible refine Below.setCell ?_ ?_ _) | (with_reducible refine Below.drew ?_) | (with_reducible refine below_drewN ?_ _) | (with_reducible exact Nat.le_refl _) | (with_reducible exact hB.size) | (simp [go_sem]; done) | (have := hB.size; simp [go_sem]; omega))); done)); clear hM hB hb; intro hM hB; (try clear hC); have hC := mem_facts hM; simp at hC
              go_wp2_with fail
              go_roundg (gk - 1)
              case measure => omega
              case rel =>
                refine ⟨b + 1, by omega, by omega, by go_num, ?_, by (repeat' (first | (with_reducible exact hB) | (with_reducible exact Below.refl _ _) | (with_reducible refine Below.alloc ?_ ?_ _) | (with_reducible refine Below.setCell ?_ ?_ _) | (with_reducible refine Below.drew ?_) | (with_reducible refine below_drewN ?_ _) | (with_reducible exact Nat.le_refl _) | (with_reducible exact hB.size) | (simp [go_sem]; done) | (have := hB.size; simp [go_sem]; omega)))⟩
                rw [show b + 1 - 1 = b from by omega, HL0.out, HK.out, if_neg h40]
                simpa using hR
          · have hz : (((pdN t a % b : Nat) : Int) == 0) = false := by simp; omega
            have hwk : wk1 t a b = none := by rw [wk1, if_neg (fun h => hdv h.1)]
            have HK := Lib.hid hwk
            clear hwk
            go_wp2
            go_roundg (gk - 1)
            case measure => omega
            case rel =>
              refine ⟨b + 1, by omega, by omega, by go_num, ?_, by (repeat' (first | (with_reducible exact hB) | (with_reducible exact Below.refl _ _) | (with_reducible refine Below.alloc ?_ ?_ _) | (with_reducible refine Below.setCell ?_ ?_ _) | (with_reducible refine Below.drew ?_) | (with_reducible refine below_drewN ?_ _) | (with_reducible exact Nat.le_refl _) | (with_reducible exact hB.size) | (simp [go_sem]; done) | (have := hB.size; simp [go_sem]; omega)))⟩
              rw [show b + 1 - 1 = b from by omega, HL0.out, HK.out]
              simpa using HR.out
        · have hbe : b = pdN t a + 1 := by omega
          have HE := Lib.hid (HF0.out hbe)
          clear hbe
          go_wp2
          go_roundg (go - 1)
          case measure => omega
          case rel =>
            refine ⟨a + 1, by omega, by omega, by go_num, ?_, by (repeat' (first | (with_reducible exact hB) | (with_reducible exact Below.refl _ _) | (with_reducible refine Below.alloc ?_ ?_ _) | (with_reducible refine Below.setCell ?_ ?_ _) | (with_reducible refine Below.drew ?_) | (with_reducible refine below_drewN ?_ _) | (with_reducible exact Nat.le_refl _) | (with_reducible exact hB.size) | (simp [go_sem]; done) | (have := hB.size; simp [go_sem]; omega)))⟩
            rw [show a + 1 - 1 = a from by omega, ← HE.out]
            exact HR.out
    · go_wp2
      go_ret
      obtain rfl : a = t := by omega
      exact ⟨_, rfl, HR.out, by (repeat' (first | (with_reducible exact hB) | (with_reducible exact Below.refl _ _) | (with_reducible refine Below.alloc ?_ ?_ _) | (with_reducible refine Below.setCell ?_ ?_ _) | (with_reducible refine Below.drew ?_) | (with_reducible refine below_drewN ?_ _) | (with_reducible exact Nat.le_refl _) | (with_reducible exact hB.size) | (simp [go_sem]; done) | (have := hB.size; simp [go_sem]; omega)))⟩
end Go.Proofs.Ythpbdcookhpdaaa
