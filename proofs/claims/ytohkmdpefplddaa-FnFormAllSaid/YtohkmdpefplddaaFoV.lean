
/- All plain short forms with a discriminant, walked: the program's. No condition on what is exported. -/
import Derived.Test.YtohkmdpefplddaaFoQ
import Derived.Test.YtohkmdpefplddaaFoL
import Derived.Laws.OwnMore
namespace Go.Proofs.Ytohkmdpefplddaa
open Go.RowKit

theorem gcd8_ (a b : Nat) (ha : a ≤ 1000000000000) (hb : b ≤ 1000000000000) (w : World) : Calls Try.prog 35 #[.int .i64 a, .int .i64 b] w (fun E' W' => E' = .returned (.int .i64 (Nat.gcd a b : Nat)) ∧ Below w.heap.size w W') := by
  have hM := mem_nil w; have hB := Below.refl w.heap.size w; have hC := True.intro
  go_enter Try.func35, Try.ntmps35
  go_wp2
  go_loopw [0, 1] (fun v0 v1 wr => ∃ x y : Nat, v0 = .int .i64 x ∧ v1 = .int .i64 y ∧ x ≤ 1000000000000 ∧ y ≤ 1000000000000 ∧ Nat.gcd x y = Nat.gcd a b ∧ Below w.heap.size w wr) (fun _ v1 _ => (intOf v1).toNat)
  case atStart => exact ⟨a, b, rfl, rfl, ha, hb, rfl, by (repeat' (first | (with_reducible exact hB) | (with_reducible exact Below.refl _ _) | (with_reducible refine Below.alloc ?_ ?_ _) | (with_reducible refine Below.setCell ?_ ?_ _) | (with_reducible refine Below.drew ?_) | (with_reducible refine below_drewN ?_ _) | (with_reducible exact Nat.le_refl _) | (with_reducible exact hB.size) | (simp [go_sem]; done) | (have := hB.size; simp [go_sem]; omega)))⟩
  case round =>
    obtain ⟨x, y, rfl, rfl, hx, hy, hg, hB'⟩ := hrel
    clear hB hC hM
    have hB := hB'
    clear hB'
    have HG := Lib.hid hg
    clear hg
    by_cases h0 : y = 0
    · subst h0
      go_wp2
      go_ret
      have := HG.out
      rw [Nat.gcd_zero_right] at this
      exact ⟨by rw [this]; rfl, by (repeat' (first | (with_reducible exact hB) | (with_reducible exact Below.refl _ _) | (with_reducible refine Below.alloc ?_ ?_ _) | (with_reducible refine Below.setCell ?_ ?_ _) | (with_reducible refine Below.drew ?_) | (with_reducible refine below_drewN ?_ _) | (with_reducible exact Nat.le_refl _) | (with_reducible exact hB.size) | (simp [go_sem]; done) | (have := hB.size; simp [go_sem]; omega)))⟩
    · have hy0 : ((y : Int) == 0) = false := by simp; omega
      have hy1 : ((y : Int) != 0) = true := by simp; omega
      have ht : (x : Int).tmod (y : Int) = ((x % y : Nat) : Int) := by rw [Int.tmod_eq_emod_of_nonneg (by omega)]; omega
      have hlt : x % y < y := Nat.mod_lt _ (by omega)
      have HE := Lib.hid (show Nat.gcd y (x % y) = Nat.gcd x y from by rw [Nat.gcd_comm, ← Nat.gcd_rec, Nat.gcd_comm])
      go_wp2_with fail
      go_quiet (fail)
      go_wp2
      go_roundw
      case rel => exact ⟨y, x % y, rfl, by simp, by omega, by omega, by rw [HE.out, HG.out], by (repeat' (first | (with_reducible exact hB) | (with_reducible exact Below.refl _ _) | (with_reducible refine Below.alloc ?_ ?_ _) | (with_reducible refine Below.setCell ?_ ?_ _) | (with_reducible refine Below.drew ?_) | (with_reducible refine below_drewN ?_ _) | (with_reducible exact Nat.le_refl _) | (with_reducible exact hB.size) | (simp [go_sem]; done) | (have := hB.size; simp [go_sem]; omega)))⟩
      case measure => simp [intOf]; omega
theorem absN_ (x : Int) (hx : -1000000000000 ≤ x ∧ x ≤ 1000000000000) (w : World) : Calls Try.prog 34 #[.int .i64 x] w (fun E' W' => E' = .returned (.int .i64 (x.natAbs : Nat)) ∧ w = W') := by
  have := fAbs_ x (by omega) w
  rw [absI_nat] at this
  exact this
theorem fPlain_ (a b c : Int) (ha : -1000000000 ≤ a ∧ a ≤ 1000000000) (hb : -1000000000 ≤ b ∧ b ≤ 1000000000) (hc : -1000000000 ≤ c ∧ c ≤ 1000000000) (w : World) : Calls Try.prog 28 #[.agg #[.int .i64 a, .int .i64 b, .int .i64 c]] w (fun E' W' => E' = .returned (.bool (plB ⟨a, b, c⟩)) ∧ Below w.heap.size w W') := by
  have c1 := fun W => absN_ a (by omega) W
  have c2 := fun W => absN_ b (by omega) W
  have c3 := fun W => absN_ c (by omega) W
  have c4 := fun W => gcd8_ a.natAbs b.natAbs (by omega) (by omega) W
  have hle : Nat.gcd a.natAbs b.natAbs ≤ 1000000000 := by
    rcases Nat.eq_zero_or_pos a.natAbs with h | h
    · rw [h, Nat.gcd_zero_left]; omega
    · exact Nat.le_trans (Nat.gcd_le_left _ h) (by omega)
  have c5 := fun W => gcd8_ (Nat.gcd a.natAbs b.natAbs) c.natAbs (by omega) (by omega) W
  have HE := Lib.hid (show (((Nat.gcd (Nat.gcd a.natAbs b.natAbs) c.natAbs : Nat) : Int) == 1) = plB ⟨a, b, c⟩ from by
    rw [Bool.eq_iff_iff]; simp only [plB, beq_iff_eq]; omega)
  generalize Nat.gcd (Nat.gcd a.natAbs b.natAbs) c.natAbs = G at *
  generalize Nat.gcd a.natAbs b.natAbs = H at *
  generalize a.natAbs = a1 at *
  generalize b.natAbs = b1 at *
  generalize c.natAbs = d1 at *
  generalize plB ⟨a, b, c⟩ = v at *
  clear ha hb hc hle
  have hM := mem_nil w; have hB := Below.refl w.heap.size w; have hC := True.intro
  go_enter Try.func28, Try.ntmps28
  go_wp2
  (refine wp_region_T2 (fun W' => W'.cell? ⟨w.heap.size, 0, none⟩ = some (.int .i64 a) ∧ W'.cell? ⟨w.heap.size, 1, none⟩ = some (.int .i64 b) ∧ W'.cell? ⟨w.heap.size, 2, none⟩ = some (.int .i64 c)) 100 (by kernel_rfl) ?_ ?_; (focus (simp [*, go_sem]; done)); intro hS)
  (refine wpT_take (i := 0) (oi := ?_) (v := ?_) hS ?_ ?_ ?_ ?_ ?_ ?_; rotate_left 2; (focus (simp only [List.getElem?_toArray, List.getElem?_cons_zero]; exact rfl)); (focus (kernel_rfl)); (focus (rfl)); (focus (intro w' hW; (try dsimp only at hW); go_simp; (try with_reducible rfl); done)); (focus (exact fun _ _ _ h => h)); (try simp only [Act.put, List.setIfInBounds_toArray, List.set_cons_zero, List.set_cons_succ])); (refine wpT_take (i := 1) (oi := ?_) (v := ?_) hS ?_ ?_ ?_ ?_ ?_ ?_; rotate_left 2; (focus (simp only [List.getElem?_toArray, List.getElem?_cons_zero, List.getElem?_cons_succ]; exact rfl)); (focus (kernel_rfl)); (focus (rfl)); (focus (intro w' hW; (try dsimp only at hW); go_simp; (try with_reducible rfl); done)); (focus (exact fun _ _ _ h => h)); (try simp only [Act.put, List.setIfInBounds_toArray, List.set_cons_zero, List.set_cons_succ])); (refine wpT_take (i := 3) (oi := ?_) (v := ?_) hS ?_ ?_ ?_ ?_ ?_ ?_; rotate_left 2; (focus (simp only [List.getElem?_toArray, List.getElem?_cons_zero, List.getElem?_cons_succ]; exact rfl)); (focus (kernel_rfl)); (focus (rfl)); (focus (intro w' hW; (try dsimp only at hW); go_simp; (try with_reducible rfl); done)); (focus (exact fun _ _ _ h => h)); (try simp only [Act.put, List.setIfInBounds_toArray, List.set_cons_zero, List.set_cons_succ])); (refine wpT_take (i := 4) (oi := ?_) (v := ?_) hS ?_ ?_ ?_ ?_ ?_ ?_; rotate_left 2; (focus (simp only [List.getElem?_toArray, List.getElem?_cons_zero, List.getElem?_cons_succ]; exact rfl)); (focus (kernel_rfl)); (focus (rfl)); (focus (intro w' hW; (try dsimp only at hW); go_simp; (try with_reducible rfl); done)); (focus (exact fun _ _ _ h => h)); (try simp only [Act.put, List.setIfInBounds_toArray, List.set_cons_zero, List.set_cons_succ])); (refine wpT_take (i := 7) (oi := ?_) (v := ?_) hS ?_ ?_ ?_ ?_ ?_ ?_; rotate_left 2; (focus (simp only [List.getElem?_toArray, List.getElem?_cons_zero, List.getElem?_cons_succ]; exact rfl)); (focus (kernel_rfl)); (focus (rfl)); (focus (intro w' hW; (try dsimp only at hW); go_simp; (try with_reducible rfl); done)); (focus (exact fun _ _ _ h => h)); (try simp only [Act.put, List.setIfInBounds_toArray, List.set_cons_zero, List.set_cons_succ])); (refine wpT_take (i := 8) (oi := ?_) (v := ?_) hS ?_ ?_ ?_ ?_ ?_ ?_; rotate_left 2; (focus (simp only [List.getElem?_toArray, List.getElem?_cons_zero, List.getElem?_cons_succ]; exact rfl)); (focus (kernel_rfl)); (focus (rfl)); (focus (intro w' hW; (try dsimp only at hW); go_simp; (try with_reducible rfl); done)); (focus (exact fun _ _ _ h => h)); (try simp only [Act.put, List.setIfInBounds_toArray, List.set_cons_zero, List.set_cons_succ]))
  (refine wpT_one (i := 2) (oi := ?_) ?_ ?_ ?_ ?_; rotate_left 1; (focus (kernel_rfl)); (focus (simp only [List.getElem?_toArray, List.getElem?_cons_zero, List.getElem?_cons_succ]; exact rfl)); (focus (rfl)); go_simp)
  (go_at_call 34; refine (c1 _).mono ?_; rintro e w' ⟨rfl, rfl⟩)
  clear c1
  (first | (with_reducible refine wpT_hold ?_ ?_; (focus (simp [*, go_sem]; done)); clear hS; intro hS; (try dsimp only at hS)) | (refine held_intro ?_ ?_; (focus (simp [*, go_sem]; done)); clear hS; intro hS))
  (refine wpT_one (i := 5) (oi := ?_) ?_ ?_ ?_ ?_; rotate_left 1; (focus (kernel_rfl)); (focus (simp only [List.getElem?_toArray, List.getElem?_cons_zero, List.getElem?_cons_succ]; exact rfl)); (focus (rfl)); go_simp)
  (go_at_call 34; refine (c2 _).mono ?_; rintro e w' ⟨rfl, rfl⟩)
  clear c2
  (first | (with_reducible refine wpT_hold ?_ ?_; (focus (simp [*, go_sem]; done)); clear hS; intro hS; (try dsimp only at hS)) | (refine held_intro ?_ ?_; (focus (simp [*, go_sem]; done)); clear hS; intro hS))
  (refine wpT_one (i := 6) (oi := ?_) ?_ ?_ ?_ ?_; rotate_left 1; (focus (kernel_rfl)); (focus (simp only [List.getElem?_toArray, List.getElem?_cons_zero, List.getElem?_cons_succ]; exact rfl)); (focus (rfl)); go_simp)
  (go_at_call 35; refine (c4 _).mono ?_; rintro e w' ⟨rfl, hb⟩; apply after_call (w := w) hb; (focus ((repeat' (first | (with_reducible exact hM) | (with_reducible apply mem_alloc) | (with_reducible apply mem_set) | (with_reducible apply mem_drew) | (with_reducible apply mem_drewN))); done)); (focus ((repeat' (first | (with_reducible exact hB) | (with_reducible exact Below.refl _ _) | (with_reducible refine Below.alloc ?_ ?_ _) | (with_reducible refine Below.setCell ?_ ?_ _) | (with_reducible refine Below.drew ?_) | (with_reducible refine below_drewN ?_ _) | (with_reducible exact Nat.le_refl _) | (with_reducible exact hB.size) | (simp [go_sem]; done) | (have := hB.size; simp [go_sem]; omega))); done)); (focus ((repeat' (first | (with_reducible exact hB) | (with_reducible exact Below.refl _ _) | (with_reducible refine Below.alloc ?_ ?_ _) | (with_reducible refine Below.setCell ?_ ?_ _) | (with_reducible refine Below.drew ?_) | (with_reducible refine below_drewN ?_ _) | (with_reducible exact Nat.le_refl _) | (with_reducible exact hB.size) | (simp [go_sem]; done) | (have := hB.size; simp [go_sem]; omega))); done)); clear hM hB hb; intro hM hB; (try clear hC); have hC := mem_facts hM; simp at hC)
  clear c4
  (first | (with_reducible refine wpT_hold ?_ ?_; (focus (simp [*, go_sem]; done)); clear hS; intro hS; (try dsimp only at hS)) | (refine held_intro ?_ ?_; (focus (simp [*, go_sem]; done)); clear hS; intro hS))
  (refine wpT_one (i := 9) (oi := ?_) ?_ ?_ ?_ ?_; rotate_left 1; (focus (kernel_rfl)); (focus (simp only [List.getElem?_toArray, List.getElem?_cons_zero, List.getElem?_cons_succ]; exact rfl)); (focus (rfl)); go_simp)
  (go_at_call 34; refine (c3 _).mono ?_; rintro e w' ⟨rfl, rfl⟩)
  clear c3
  (first | (with_reducible refine wpT_hold ?_ ?_; (focus (simp [*, go_sem]; done)); clear hS; intro hS; (try dsimp only at hS)) | (refine held_intro ?_ ?_; (focus (simp [*, go_sem]; done)); clear hS; intro hS))
  (refine wpT_one (i := 10) (oi := ?_) ?_ ?_ ?_ ?_; rotate_left 1; (focus (kernel_rfl)); (focus (simp only [List.getElem?_toArray, List.getElem?_cons_zero, List.getElem?_cons_succ]; exact rfl)); (focus (rfl)); go_simp)
  (go_at_call 35; refine (c5 _).mono ?_; rintro e w' ⟨rfl, hb⟩; apply after_call (w := w) hb; (focus ((repeat' (first | (with_reducible exact hM) | (with_reducible apply mem_alloc) | (with_reducible apply mem_set) | (with_reducible apply mem_drew) | (with_reducible apply mem_drewN))); done)); (focus ((repeat' (first | (with_reducible exact hB) | (with_reducible exact Below.refl _ _) | (with_reducible refine Below.alloc ?_ ?_ _) | (with_reducible refine Below.setCell ?_ ?_ _) | (with_reducible refine Below.drew ?_) | (with_reducible refine below_drewN ?_ _) | (with_reducible exact Nat.le_refl _) | (with_reducible exact hB.size) | (simp [go_sem]; done) | (have := hB.size; simp [go_sem]; omega))); done)); (focus ((repeat' (first | (with_reducible exact hB) | (with_reducible exact Below.refl _ _) | (with_reducible refine Below.alloc ?_ ?_ _) | (with_reducible refine Below.setCell ?_ ?_ _) | (with_reducible refine Below.drew ?_) | (with_reducible refine below_drewN ?_ _) | (with_reducible exact Nat.le_refl _) | (with_reducible exact hB.size) | (simp [go_sem]; done) | (have := hB.size; simp [go_sem]; omega))); done)); clear hM hB hb; intro hM hB; (try clear hC); have hC := mem_facts hM; simp at hC)
  (first | (with_reducible refine wpT_hold ?_ ?_; (focus (simp [*, go_sem]; done)); clear hS; intro hS; (try dsimp only at hS)) | (refine held_intro ?_ ?_; (focus (simp [*, go_sem]; done)); clear hS; intro hS))
  (refine wpT_take (i := 11) (oi := ?_) (v := ?_) hS ?_ ?_ ?_ ?_ ?_ ?_; rotate_left 2; (focus (simp only [List.getElem?_toArray, List.getElem?_cons_zero, List.getElem?_cons_succ]; exact rfl)); (focus (kernel_rfl)); (focus (rfl)); (focus (intro w' hW; (try dsimp only at hW); go_simp; (try with_reducible rfl); done)); (focus (exact fun _ _ _ h => h)); (try simp only [Act.put, List.setIfInBounds_toArray, List.set_cons_zero, List.set_cons_succ])); (refine wpT_take (i := 12) (oi := ?_) (v := ?_) hS ?_ ?_ ?_ ?_ ?_ ?_; rotate_left 2; (focus (simp only [List.getElem?_toArray, List.getElem?_cons_zero, List.getElem?_cons_succ]; exact rfl)); (focus (kernel_rfl)); (focus (rfl)); (focus (intro w' hW; (try dsimp only at hW); go_simp; (try with_reducible rfl); done)); (focus (exact fun _ _ _ h => h)); (try simp only [Act.put, List.setIfInBounds_toArray, List.set_cons_zero, List.set_cons_succ]))
  refine wpT_done (by kernel_rfl) ?_ _
  go_wp2_with fail
  go_ret
  exact ⟨by rw [← HE.out]; rfl, by (repeat' (first | (with_reducible exact hB) | (with_reducible exact Below.refl _ _) | (with_reducible refine Below.alloc ?_ ?_ _) | (with_reducible refine Below.setCell ?_ ?_ _) | (with_reducible refine Below.drew ?_) | (with_reducible refine below_drewN ?_ _) | (with_reducible exact Nat.le_refl _) | (with_reducible exact hB.size) | (simp [go_sem]; done) | (have := hB.size; simp [go_sem]; omega)))⟩
theorem after_call2 {w wr W w' : World} {L : List (Nat × Array Value × TypeId)} {G : Prop} (hb : Below W.heap.size W w') (hm : Mem W L) (hB : Below w.heap.size w W) (hs : w.heap.size ≤ W.heap.size) (hR : Below wr.heap.size wr W) (hs2 : wr.heap.size ≤ W.heap.size)
    (k : Mem w' L → Below w.heap.size w w' → Below wr.heap.size wr w' → G) : G := k (mem_below hb hm) (below_call hB hs hb) (below_call hR hs2 hb)
/-- behind an append of one form -/
theorem after_app3 {w wr w1 : World} {v : Value} {k : Nat} {xs : List Value} {c : Obj} {e : TypeId} {G : Prop} (hgrow : (wr.alloc c).grownBy w1 v.ownBlock) (hrow : wr.ownsRow w.heap.size e 3 v k xs) (hB : Below w.heap.size w wr)
    (g : Below w.heap.size w w1 → G) : G := by
  refine g ((hB.alloc hB.size _).grown hgrow ?_ fun j ej => (hrow.lt j ej).1)
  have := hB.size; simp; omega
theorem infoForm : (Try.prog.info? 29).map (fun i => (i.zero, i.size, i.bytes)) = some (some (.agg #[.int .i64 0, .int .i64 0, .int .i64 0]), 3, 24) := by kernel_rfl
theorem info_parts3 {P : Program} {t : TypeId} {z : Value} {s b : Nat} (h : (P.info? t).map (fun i => (i.zero, i.size, i.bytes)) = some (some z, s, b)) : ∃ i, P.info? t = some i ∧ i.zero = some z ∧ i.size = s ∧ i.bytes = b := by
  cases hi : P.info? t with
  | none => rw [hi] at h; cases h
  | some i =>
    rw [hi] at h
    simp only [Option.map_some, Option.some.injEq, Prod.mk.injEq] at h
    exact ⟨i, rfl, h.1, h.2.1, h.2.2⟩
theorem cell_three_new (w : World) (a b c : Value) (t : TypeId) : ∀ j u, [a, b, c][j]? = some u → (w.alloc (.cells #[a, b, c] t)).cell? ((⟨w.heap.size, 0, none⟩ : Addr).add j) = some u := by
  intro j u h
  match j, h with
  | 0, h => simpa [go_sem, Addr.add] using h
  | 1, h => simpa [go_sem, Addr.add] using h
  | 2, h => simpa [go_sem, Addr.add] using h
  | j + 3, h => simp at h
/-- at the heads of the rounds: the forms that are told so far -/
def FaO (d : Nat) (w : World) (v3 v4 : Value) (wr : World) : Prop := ∃ a : Nat, 1 ≤ a ∧ a ≤ 12 ∧ 3 * ((a - 1) * (a - 1)) ≤ d ∧ v4 = .int .i64 (a : Int) ∧ FormRow w.heap.size wr v3 (allF d (a - 1)) ∧ Below w.heap.size w wr
def FaI (d a : Nat) (w : World) (v3 v5 : Value) (wr : World) : Prop := ∃ n : Nat, n ≤ 2 * a + 1 ∧ v5 = .int .i64 ((n : Int) - (a : Int)) ∧ FormRow w.heap.size wr v3 (allF d (a - 1) ++ rowF d a n) ∧ Below w.heap.size w wr
theorem allF_row {d a : Nat} (ha : 1 ≤ a) : allF d a = allF d (a - 1) ++ rowF d a (2 * a + 1) := by
  obtain ⟨k, rfl⟩ : ∃ k, a = k + 1 := ⟨a - 1, by omega⟩
  rw [allF, Nat.add_sub_cancel]
theorem fa_snoc {xs : List F3} {x y z : Int} {base : Nat} {W : World} {v : Value} (h : W.ownsRow base 29 3 v (xs.length + 1) (cs3 xs ++ [.int .i64 x, .int .i64 y, .int .i64 z])) : FormRow base W v (xs ++ [⟨x, y, z⟩]) := by
  unfold FormRow
  rw [cs3_append, List.length_append]
  simpa [cs3, c3] using h
def FaPost (fs : List F3) (w : World) (e : Ending) (W' : World) : Prop := ∃ v, e = .returned v ∧ FormRow w.heap.size W' v fs ∧ Below w.heap.size w W'
theorem disc8_ (d a : Nat) (b : Int) (ha : 1 ≤ a ∧ a ≤ 11) (hb : -(a : Int) ≤ b ∧ b ≤ a) (hd : d ≤ 400) (w : World) : Calls Try.prog 22 #[.agg #[.int .i64 (a : Int), .int .i64 b, .int .i64 (cF d a b)]] w (fun E' W' => E' = .returned (.int .i64 (dF (fF d a b))) ∧ Below w.heap.size w W') := fDisc1_ _ _ _ (fF_in ha hb hd) w
theorem short8_ (d a : Nat) (b : Int) (ha : 1 ≤ a ∧ a ≤ 11) (hb : -(a : Int) ≤ b ∧ b ≤ a) (w : World) : Calls Try.prog 27 #[.agg #[.int .i64 (a : Int), .int .i64 b, .int .i64 (cF d a b)]] w (fun E' W' => E' = .returned (.bool (shtB (fF d a b))) ∧ Below w.heap.size w W') := fShort_ _ _ _ (by omega) w
theorem plain8_ (d a : Nat) (b : Int) (ha : 1 ≤ a ∧ a ≤ 11) (hb : -(a : Int) ≤ b ∧ b ≤ a) (hd : d ≤ 400) (w : World) : Calls Try.prog 28 #[.agg #[.int .i64 (a : Int), .int .i64 b, .int .i64 (cF d a b)]] w (fun E' W' => E' = .returned (.bool (plB (fF d a b))) ∧ Below w.heap.size w W') := by
  have h := cF_bd ha hb hd
  exact fPlain_ _ _ _ (by omega) (by omega) (by omega) w
set_option maxHeartbeats 1000000 in
theorem shortWith_ (d : Nat) (h1 : 1 ≤ d) (h2 : d ≤ 400) (w : World) : Calls Try.prog 16 #[.int .i64 d] w (FaPost (allF d (topF d)) w) := by
  obtain ⟨i0, hi, hz0, hz1, hz2⟩ := info_parts3 infoForm
  have hM := mem_nil w; have hB := Below.refl w.heap.size w; have hC := True.intro
  go_enter Try.func16, Try.ntmps16
  go_wp2
  go_loopw [3, 4] (fun v3 v4 wr => FaO d w v3 v4 wr) (fun _ v4 _ => 13 - (intOf v4).toNat)
  case atStart => exact ⟨1, Nat.le_refl _, by omega, Nat.zero_le _, rfl, World.ownsRow_nil _ _ _ _, by (repeat' (first | (with_reducible exact hB) | (with_reducible exact Below.refl _ _) | (with_reducible refine Below.alloc ?_ ?_ _) | (with_reducible refine Below.setCell ?_ ?_ _) | (with_reducible refine Below.drew ?_) | (with_reducible refine below_drewN ?_ _) | (with_reducible exact Nat.le_refl _) | (with_reducible exact hB.size) | (simp [go_sem]; done) | (have := hB.size; simp [go_sem]; omega)))⟩
  case round =>
    obtain ⟨a, ha1, ha2, had, rfl, hR, hB'⟩ := hrel
    clear hB hM hC
    have hB := hB'
    clear hB'
    have hlen := allF_len d (a - 1) (by omega)
    obtain ⟨ao, cap, rfl⟩ := row_form3 hR
    have hsq : ((a * a : Nat) : Int) = (a : Int) * a := by simp
    have hsq2 := Nat.mul_le_mul ha2 ha2
    have w1 : wrap64 (3 * (a : Int)) = 3 * (a : Int) := wrap_mid (by omega)
    have w2 : wrap64 (3 * (a : Int) * a) = 3 * (a : Int) * a := wrap_mid (by rw [Int.mul_assoc, ← hsq]; omega)
    by_cases hlt : 3 * (a * a) ≤ d
    · have ha3 : a ≤ 11 := by
        apply Nat.le_of_not_lt; intro h
        obtain rfl : a = 12 := by omega
        omega
      have e0 : decide (3 * (a : Int) * a ≤ (d : Int)) = true := decide_eq_true (by rw [Int.mul_assoc, ← hsq]; omega)
      have w3 : wrap64 (-(a : Int)) = -(a : Int) := wrap_mid (by omega)
      have HF := Lib.hid (allF_row (d := d) ha1)
      have HR := Lib.hid hR
      clear hR hsq hsq2
      go_wp2_with fail
      clear w2
      go_loopw [3, 5] (fun v3 v5 wr => FaI d a w v3 v5 wr) (fun _ v5 _ => (12 - intOf v5).toNat)
      case atStart => exact ⟨0, Nat.zero_le _, by simp, by simpa [rowF, FormRow] using HR.out, by (repeat' (first | (with_reducible exact hB) | (with_reducible exact Below.refl _ _) | (with_reducible refine Below.alloc ?_ ?_ _) | (with_reducible refine Below.setCell ?_ ?_ _) | (with_reducible refine Below.drew ?_) | (with_reducible refine below_drewN ?_ _) | (with_reducible exact Nat.le_refl _) | (with_reducible exact hB.size) | (simp [go_sem]; done) | (have := hB.size; simp [go_sem]; omega)))⟩
      case round =>
        obtain ⟨n, hn, rfl, hR, hB'⟩ := hrel
        clear hB HR
        have hB := hB'
        clear hB'
        obtain ⟨xs, hxs⟩ : ∃ xs, xs = allF d (a - 1) ++ rowF d a n := ⟨_, rfl⟩
        have hL : xs.length ≤ 3700 := by
          have := rowF_len d a n
          rw [hxs, List.length_append]; omega
        rw [← hxs] at hR
        have HX := Lib.hid hxs
        clear hxs
        obtain ⟨ao, cap, rfl⟩ := row_form3 hR
        obtain ⟨b, hb⟩ : ∃ b : Int, b = (n : Int) - a := ⟨_, rfl⟩
        by_cases hlb : n < 2 * a + 1
        · have e1 : decide ((n : Int) - a ≤ (a : Int)) = true := decide_eq_true (by omega)
          have hbb : -(a : Int) ≤ b ∧ b ≤ a := by omega
          obtain ⟨b1, b2, b3, b4⟩ := cF_bd (d := d) ⟨ha1, ha3⟩ hbb h2
          have w4 : wrap64 (b * b) = b * b := wrap_mid (by omega)
          have w5 : wrap64 (b * b + d) = b * b + d := wrap_mid (by omega)
          have w6 : wrap64 (4 * (a : Int)) = 4 * (a : Int) := wrap_mid (by omega)
          have w7 : (b * b + d).tdiv (4 * (a : Int)) = cF d a b := by rw [Int.tdiv_eq_ediv_of_nonneg (by omega), cF]
          have w8 : (4 * (a : Int) == 0) = false := by simp; omega
          have w9 : wrap64 (cF d a b) = cF d a b := wrap_mid (by omega)
          have q1 := fun W => disc8_ d a b ⟨ha1, ha3⟩ hbb h2 W
          have q2 := fun W => short8_ d a b ⟨ha1, ha3⟩ hbb W
          have q3 := fun W => plain8_ d a b ⟨ha1, ha3⟩ hbb h2 W
          have w10 : wrap64 (-(d : Int)) = -(d : Int) := wrap_mid (by omega)
          have w11 : wrap64 (b + 1) = b + 1 := wrap_mid (by omega)
          have HY := Lib.hid (fun h : okF d a b = true => rowF_yes (d := d) (a := a) (n := n) (by rw [← hb]; exact h))
          have HN := Lib.hid (fun h : okF d a b = false => rowF_no (d := d) (a := a) (n := n) (by rw [← hb]; exact h))
          rw [← hb] at HY e1
          rw [← hb]
          have HO := Lib.hid (show okF d a b = ((dF (fF d a b) == -(d : Int)) && (shtB (fF d a b) && plB (fF d a b))) from rfl)
          rw [show fF d a b = ⟨(a : Int), b, cF d a b⟩ from rfl] at HY
          have HBB := Lib.hid hb
          clear hb b1 b2 b3 b4 hbb
          generalize okF d a b = ok at *
          generalize dF (fF d a b) = D at *
          generalize shtB (fF d a b) = S1 at *
          generalize plB (fF d a b) = P1 at *
          generalize cF d a b = c at *
          have hM := mem_nil wr
          have hC := True.intro
          have hRB := Below.refl wr.heap.size wr
          have HR := Lib.hid hR
          clear hR
          cases hD : (D == -(d : Int))
          · have HN1 := Lib.hid (HN.out (by rw [HO.out, hD]; rfl))
            clear HN HY HO
            go_wp2_with (first | (go_at_call 22; refine (q1 _).mono ?_; rintro e w' ⟨rfl, hb⟩; apply after_call2 (w := w) (wr := wr) hb; (focus ((repeat' (first | (with_reducible exact hM) | (with_reducible apply mem_alloc) | (with_reducible apply mem_set) | (with_reducible apply mem_drew) | (with_reducible apply mem_drewN))); done)); (focus ((repeat' (first | (with_reducible exact hB) | (with_reducible exact Below.refl _ _) | (with_reducible refine Below.alloc ?_ ?_ _) | (with_reducible refine Below.setCell ?_ ?_ _) | (with_reducible refine Below.drew ?_) | (with_reducible refine below_drewN ?_ _) | (with_reducible exact Nat.le_refl _) | (with_reducible exact hB.size) | (simp [go_sem]; done) | (have := hB.size; simp [go_sem]; omega))); done)); (focus ((repeat' (first | (with_reducible exact hB) | (with_reducible exact Below.refl _ _) | (with_reducible refine Below.alloc ?_ ?_ _) | (with_reducible refine Below.setCell ?_ ?_ _) | (with_reducible refine Below.drew ?_) | (with_reducible refine below_drewN ?_ _) | (with_reducible exact Nat.le_refl _) | (with_reducible exact hB.size) | (simp [go_sem]; done) | (have := hB.size; simp [go_sem]; omega))); done)); (focus ((repeat' (first | (with_reducible exact hRB) | (with_reducible exact Below.refl _ _) | (with_reducible refine Below.alloc ?_ ?_ _) | (with_reducible refine Below.setCell ?_ ?_ _) | (with_reducible refine Below.drew ?_) | (with_reducible refine below_drewN ?_ _) | (with_reducible exact Nat.le_refl _) | (with_reducible exact hRB.size) | (simp [go_sem]; done) | (have := hRB.size; simp [go_sem]; omega))); done)); (focus ((repeat' (first | (with_reducible exact hRB) | (with_reducible exact Below.refl _ _) | (with_reducible refine Below.alloc ?_ ?_ _) | (with_reducible refine Below.setCell ?_ ?_ _) | (with_reducible refine Below.drew ?_) | (with_reducible refine below_drewN ?_ _) | (with_reducible exact Nat.le_refl _) | (with_reducible exact hRB.size) | (simp [go_sem]; done) | (have := hRB.size; simp [go_sem]; omega))); done)); clear hM hB hRB hb; intro hM hB hRB; (try clear hC); have hC := mem_facts hM; simp at hC))
            go_roundw
            case rel => exact ⟨n + 1, by omega, by have hq := HBB.out; (try simp only [w11]); refine congrArg (Value.int IntKind.i64) ?_; omega, by rw [HN1.out, ← HX.out]; exact HR.out.below (by (repeat' (first | (with_reducible exact hRB) | (with_reducible exact Below.refl _ _) | (with_reducible refine Below.alloc ?_ ?_ _) | (with_reducible refine Below.setCell ?_ ?_ _) | (with_reducible refine Below.drew ?_) | (with_reducible refine below_drewN ?_ _) | (with_reducible exact Nat.le_refl _) | (with_reducible exact hRB.size) | (simp [go_sem]; done) | (have := hRB.size; simp [go_sem]; omega)))), by (repeat' (first | (with_reducible exact hB) | (with_reducible exact Below.refl _ _) | (with_reducible refine Below.alloc ?_ ?_ _) | (with_reducible refine Below.setCell ?_ ?_ _) | (with_reducible refine Below.drew ?_) | (with_reducible refine below_drewN ?_ _) | (with_reducible exact Nat.le_refl _) | (with_reducible exact hB.size) | (simp [go_sem]; done) | (have := hB.size; simp [go_sem]; omega)))⟩
            case measure => have := HBB.out; simp [intOf]; omega
          · cases S1
            · have HN1 := Lib.hid (HN.out (by rw [HO.out, hD]; rfl))
              clear HN HY HO
              go_wp2_with (first | (go_at_call 22; refine (q1 _).mono ?_; rintro e w' ⟨rfl, hb⟩; apply after_call2 (w := w) (wr := wr) hb; (focus ((repeat' (first | (with_reducible exact hM) | (with_reducible apply mem_alloc) | (with_reducible apply mem_set) | (with_reducible apply mem_drew) | (with_reducible apply mem_drewN))); done)); (focus ((repeat' (first | (with_reducible exact hB) | (with_reducible exact Below.refl _ _) | (with_reducible refine Below.alloc ?_ ?_ _) | (with_reducible refine Below.setCell ?_ ?_ _) | (with_reducible refine Below.drew ?_) | (with_reducible refine below_drewN ?_ _) | (with_reducible exact Nat.le_refl _) | (with_reducible exact hB.size) | (simp [go_sem]; done) | (have := hB.size; simp [go_sem]; omega))); done)); (focus ((repeat' (first | (with_reducible exact hB) | (with_reducible exact Below.refl _ _) | (with_reducible refine Below.alloc ?_ ?_ _) | (with_reducible refine Below.setCell ?_ ?_ _) | (with_reducible refine Below.drew ?_) | (with_reducible refine below_drewN ?_ _) | (with_reducible exact Nat.le_refl _) | (with_reducible exact hB.size) | (simp [go_sem]; done) | (have := hB.size; simp [go_sem]; omega))); done)); (focus ((repeat' (first | (with_reducible exact hRB) | (with_reducible exact Below.refl _ _) | (with_reducible refine Below.alloc ?_ ?_ _) | (with_reducible refine Below.setCell ?_ ?_ _) | (with_reducible refine Below.drew ?_) | (with_reducible refine below_drewN ?_ _) | (with_reducible exact Nat.le_refl _) | (with_reducible exact hRB.size) | (simp [go_sem]; done) | (have := hRB.size; simp [go_sem]; omega))); done)); (focus ((repeat' (first | (with_reducible exact hRB) | (with_reducible exact Below.refl _ _) | (with_reducible refine Below.alloc ?_ ?_ _) | (with_reducible refine Below.setCell ?_ ?_ _) | (with_reducible refine Below.drew ?_) | (with_reducible refine below_drewN ?_ _) | (with_reducible exact Nat.le_refl _) | (with_reducible exact hRB.size) | (simp [go_sem]; done) | (have := hRB.size; simp [go_sem]; omega))); done)); clear hM hB hRB hb; intro hM hB hRB; (try clear hC); have hC := mem_facts hM; simp at hC) | (go_at_call 27; refine (q2 _).mono ?_; rintro e w' ⟨rfl, hb⟩; apply after_call2 (w := w) (wr := wr) hb; (focus ((repeat' (first | (with_reducible exact hM) | (with_reducible apply mem_alloc) | (with_reducible apply mem_set) | (with_reducible apply mem_drew) | (with_reducible apply mem_drewN))); done)); (focus ((repeat' (first | (with_reducible exact hB) | (with_reducible exact Below.refl _ _) | (with_reducible refine Below.alloc ?_ ?_ _) | (with_reducible refine Below.setCell ?_ ?_ _) | (with_reducible refine Below.drew ?_) | (with_reducible refine below_drewN ?_ _) | (with_reducible exact Nat.le_refl _) | (with_reducible exact hB.size) | (simp [go_sem]; done) | (have := hB.size; simp [go_sem]; omega))); done)); (focus ((repeat' (first | (with_reducible exact hB) | (with_reducible exact Below.refl _ _) | (with_reducible refine Below.alloc ?_ ?_ _) | (with_reducible refine Below.setCell ?_ ?_ _) | (with_reducible refine Below.drew ?_) | (with_reducible refine below_drewN ?_ _) | (with_reducible exact Nat.le_refl _) | (with_reducible exact hB.size) | (simp [go_sem]; done) | (have := hB.size; simp [go_sem]; omega))); done)); (focus ((repeat' (first | (with_reducible exact hRB) | (with_reducible exact Below.refl _ _) | (with_reducible refine Below.alloc ?_ ?_ _) | (with_reducible refine Below.setCell ?_ ?_ _) | (with_reducible refine Below.drew ?_) | (with_reducible refine below_drewN ?_ _) | (with_reducible exact Nat.le_refl _) | (with_reducible exact hRB.size) | (simp [go_sem]; done) | (have := hRB.size; simp [go_sem]; omega))); done)); (focus ((repeat' (first | (with_reducible exact hRB) | (with_reducible exact Below.refl _ _) | (with_reducible refine Below.alloc ?_ ?_ _) | (with_reducible refine Below.setCell ?_ ?_ _) | (with_reducible refine Below.drew ?_) | (with_reducible refine below_drewN ?_ _) | (with_reducible exact Nat.le_refl _) | (with_reducible exact hRB.size) | (simp [go_sem]; done) | (have := hRB.size; simp [go_sem]; omega))); done)); clear hM hB hRB hb; intro hM hB hRB; (try clear hC); have hC := mem_facts hM; simp at hC))
              go_roundw
              case rel => exact ⟨n + 1, by omega, by have hq := HBB.out; (try simp only [w11]); refine congrArg (Value.int IntKind.i64) ?_; omega, by rw [HN1.out, ← HX.out]; exact HR.out.below (by (repeat' (first | (with_reducible exact hRB) | (with_reducible exact Below.refl _ _) | (with_reducible refine Below.alloc ?_ ?_ _) | (with_reducible refine Below.setCell ?_ ?_ _) | (with_reducible refine Below.drew ?_) | (with_reducible refine below_drewN ?_ _) | (with_reducible exact Nat.le_refl _) | (with_reducible exact hRB.size) | (simp [go_sem]; done) | (have := hRB.size; simp [go_sem]; omega)))), by (repeat' (first | (with_reducible exact hB) | (with_reducible exact Below.refl _ _) | (with_reducible refine Below.alloc ?_ ?_ _) | (with_reducible refine Below.setCell ?_ ?_ _) | (with_reducible refine Below.drew ?_) | (with_reducible refine below_drewN ?_ _) | (with_reducible exact Nat.le_refl _) | (with_reducible exact hB.size) | (simp [go_sem]; done) | (have := hB.size; simp [go_sem]; omega)))⟩
              case measure => have := HBB.out; simp [intOf]; omega
            · cases P1
              · have HN1 := Lib.hid (HN.out (by rw [HO.out, hD]; rfl))
                clear HN HY HO
                go_wp2_with (first | (go_at_call 22; refine (q1 _).mono ?_; rintro e w' ⟨rfl, hb⟩; apply after_call2 (w := w) (wr := wr) hb; (focus ((repeat' (first | (with_reducible exact hM) | (with_reducible apply mem_alloc) | (with_reducible apply mem_set) | (with_reducible apply mem_drew) | (with_reducible apply mem_drewN))); done)); (focus ((repeat' (first | (with_reducible exact hB) | (with_reducible exact Below.refl _ _) | (with_reducible refine Below.alloc ?_ ?_ _) | (with_reducible refine Below.setCell ?_ ?_ _) | (with_reducible refine Below.drew ?_) | (with_reducible refine below_drewN ?_ _) | (with_reducible exact Nat.le_refl _) | (with_reducible exact hB.size) | (simp [go_sem]; done) | (have := hB.size; simp [go_sem]; omega))); done)); (focus ((repeat' (first | (with_reducible exact hB) | (with_reducible exact Below.refl _ _) | (with_reducible refine Below.alloc ?_ ?_ _) | (with_reducible refine Below.setCell ?_ ?_ _) | (with_reducible refine Below.drew ?_) | (with_reducible refine below_drewN ?_ _) | (with_reducible exact Nat.le_refl _) | (with_reducible exact hB.size) | (simp [go_sem]; done) | (have := hB.size; simp [go_sem]; omega))); done)); (focus ((repeat' (first | (with_reducible exact hRB) | (with_reducible exact Below.refl _ _) | (with_reducible refine Below.alloc ?_ ?_ _) | (with_reducible refine Below.setCell ?_ ?_ _) | (with_reducible refine Below.drew ?_) | (with_reducible refine below_drewN ?_ _) | (with_reducible exact Nat.le_refl _) | (with_reducible exact hRB.size) | (simp [go_sem]; done) | (have := hRB.size; simp [go_sem]; omega))); done)); (focus ((repeat' (first | (with_reducible exact hRB) | (with_reducible exact Below.refl _ _) | (with_reducible refine Below.alloc ?_ ?_ _) | (with_reducible refine Below.setCell ?_ ?_ _) | (with_reducible refine Below.drew ?_) | (with_reducible refine below_drewN ?_ _) | (with_reducible exact Nat.le_refl _) | (with_reducible exact hRB.size) | (simp [go_sem]; done) | (have := hRB.size; simp [go_sem]; omega))); done)); clear hM hB hRB hb; intro hM hB hRB; (try clear hC); have hC := mem_facts hM; simp at hC) | (go_at_call 27; refine (q2 _).mono ?_; rintro e w' ⟨rfl, hb⟩; apply after_call2 (w := w) (wr := wr) hb; (focus ((repeat' (first | (with_reducible exact hM) | (with_reducible apply mem_alloc) | (with_reducible apply mem_set) | (with_reducible apply mem_drew) | (with_reducible apply mem_drewN))); done)); (focus ((repeat' (first | (with_reducible exact hB) | (with_reducible exact Below.refl _ _) | (with_reducible refine Below.alloc ?_ ?_ _) | (with_reducible refine Below.setCell ?_ ?_ _) | (with_reducible refine Below.drew ?_) | (with_reducible refine below_drewN ?_ _) | (with_reducible exact Nat.le_refl _) | (with_reducible exact hB.size) | (simp [go_sem]; done) | (have := hB.size; simp [go_sem]; omega))); done)); (focus ((repeat' (first | (with_reducible exact hB) | (with_reducible exact Below.refl _ _) | (with_reducible refine Below.alloc ?_ ?_ _) | (with_reducible refine Below.setCell ?_ ?_ _) | (with_reducible refine Below.drew ?_) | (with_reducible refine below_drewN ?_ _) | (with_reducible exact Nat.le_refl _) | (with_reducible exact hB.size) | (simp [go_sem]; done) | (have := hB.size; simp [go_sem]; omega))); done)); (focus ((repeat' (first | (with_reducible exact hRB) | (with_reducible exact Below.refl _ _) | (with_reducible refine Below.alloc ?_ ?_ _) | (with_reducible refine Below.setCell ?_ ?_ _) | (with_reducible refine Below.drew ?_) | (with_reducible refine below_drewN ?_ _) | (with_reducible exact Nat.le_refl _) | (with_reducible exact hRB.size) | (simp [go_sem]; done) | (have := hRB.size; simp [go_sem]; omega))); done)); (focus ((repeat' (first | (with_reducible exact hRB) | (with_reducible exact Below.refl _ _) | (with_reducible refine Below.alloc ?_ ?_ _) | (with_reducible refine Below.setCell ?_ ?_ _) | (with_reducible refine Below.drew ?_) | (with_reducible refine below_drewN ?_ _) | (with_reducible exact Nat.le_refl _) | (with_reducible exact hRB.size) | (simp [go_sem]; done) | (have := hRB.size; simp [go_sem]; omega))); done)); clear hM hB hRB hb; intro hM hB hRB; (try clear hC); have hC := mem_facts hM; simp at hC) | (go_at_call 28; refine (q3 _).mono ?_; rintro e w' ⟨rfl, hb⟩; apply after_call2 (w := w) (wr := wr) hb; (focus ((repeat' (first | (with_reducible exact hM) | (with_reducible apply mem_alloc) | (with_reducible apply mem_set) | (with_reducible apply mem_drew) | (with_reducible apply mem_drewN))); done)); (focus ((repeat' (first | (with_reducible exact hB) | (with_reducible exact Below.refl _ _) | (with_reducible refine Below.alloc ?_ ?_ _) | (with_reducible refine Below.setCell ?_ ?_ _) | (with_reducible refine Below.drew ?_) | (with_reducible refine below_drewN ?_ _) | (with_reducible exact Nat.le_refl _) | (with_reducible exact hB.size) | (simp [go_sem]; done) | (have := hB.size; simp [go_sem]; omega))); done)); (focus ((repeat' (first | (with_reducible exact hB) | (with_reducible exact Below.refl _ _) | (with_reducible refine Below.alloc ?_ ?_ _) | (with_reducible refine Below.setCell ?_ ?_ _) | (with_reducible refine Below.drew ?_) | (with_reducible refine below_drewN ?_ _) | (with_reducible exact Nat.le_refl _) | (with_reducible exact hB.size) | (simp [go_sem]; done) | (have := hB.size; simp [go_sem]; omega))); done)); (focus ((repeat' (first | (with_reducible exact hRB) | (with_reducible exact Below.refl _ _) | (with_reducible refine Below.alloc ?_ ?_ _) | (with_reducible refine Below.setCell ?_ ?_ _) | (with_reducible refine Below.drew ?_) | (with_reducible refine below_drewN ?_ _) | (with_reducible exact Nat.le_refl _) | (with_reducible exact hRB.size) | (simp [go_sem]; done) | (have := hRB.size; simp [go_sem]; omega))); done)); (focus ((repeat' (first | (with_reducible exact hRB) | (with_reducible exact Below.refl _ _) | (with_reducible refine Below.alloc ?_ ?_ _) | (with_reducible refine Below.setCell ?_ ?_ _) | (with_reducible refine Below.drew ?_) | (with_reducible refine below_drewN ?_ _) | (with_reducible exact Nat.le_refl _) | (with_reducible exact hRB.size) | (simp [go_sem]; done) | (have := hRB.size; simp [go_sem]; omega))); done)); clear hM hB hRB hb; intro hM hB hRB; (try clear hC); have hC := mem_facts hM; simp at hC))
                go_roundw
                case rel => exact ⟨n + 1, by omega, by have hq := HBB.out; (try simp only [w11]); refine congrArg (Value.int IntKind.i64) ?_; omega, by rw [HN1.out, ← HX.out]; exact HR.out.below (by (repeat' (first | (with_reducible exact hRB) | (with_reducible exact Below.refl _ _) | (with_reducible refine Below.alloc ?_ ?_ _) | (with_reducible refine Below.setCell ?_ ?_ _) | (with_reducible refine Below.drew ?_) | (with_reducible refine below_drewN ?_ _) | (with_reducible exact Nat.le_refl _) | (with_reducible exact hRB.size) | (simp [go_sem]; done) | (have := hRB.size; simp [go_sem]; omega)))), by (repeat' (first | (with_reducible exact hB) | (with_reducible exact Below.refl _ _) | (with_reducible refine Below.alloc ?_ ?_ _) | (with_reducible refine Below.setCell ?_ ?_ _) | (with_reducible refine Below.drew ?_) | (with_reducible refine below_drewN ?_ _) | (with_reducible exact Nat.le_refl _) | (with_reducible exact hB.size) | (simp [go_sem]; done) | (have := hB.size; simp [go_sem]; omega)))⟩
                case measure => have := HBB.out; simp [intOf]; omega
              · have HN1 := Lib.hid (HY.out (by rw [HO.out, hD]; rfl))
                clear HN HY HO
                go_wp2_with (first | (go_at_call 22; refine (q1 _).mono ?_; rintro e w' ⟨rfl, hb⟩; apply after_call2 (w := w) (wr := wr) hb; (focus ((repeat' (first | (with_reducible exact hM) | (with_reducible apply mem_alloc) | (with_reducible apply mem_set) | (with_reducible apply mem_drew) | (with_reducible apply mem_drewN))); done)); (focus ((repeat' (first | (with_reducible exact hB) | (with_reducible exact Below.refl _ _) | (with_reducible refine Below.alloc ?_ ?_ _) | (with_reducible refine Below.setCell ?_ ?_ _) | (with_reducible refine Below.drew ?_) | (with_reducible refine below_drewN ?_ _) | (with_reducible exact Nat.le_refl _) | (with_reducible exact hB.size) | (simp [go_sem]; done) | (have := hB.size; simp [go_sem]; omega))); done)); (focus ((repeat' (first | (with_reducible exact hB) | (with_reducible exact Below.refl _ _) | (with_reducible refine Below.alloc ?_ ?_ _) | (with_reducible refine Below.setCell ?_ ?_ _) | (with_reducible refine Below.drew ?_) | (with_reducible refine below_drewN ?_ _) | (with_reducible exact Nat.le_refl _) | (with_reducible exact hB.size) | (simp [go_sem]; done) | (have := hB.size; simp [go_sem]; omega))); done)); (focus ((repeat' (first | (with_reducible exact hRB) | (with_reducible exact Below.refl _ _) | (with_reducible refine Below.alloc ?_ ?_ _) | (with_reducible refine Below.setCell ?_ ?_ _) | (with_reducible refine Below.drew ?_) | (with_reducible refine below_drewN ?_ _) | (with_reducible exact Nat.le_refl _) | (with_reducible exact hRB.size) | (simp [go_sem]; done) | (have := hRB.size; simp [go_sem]; omega))); done)); (focus ((repeat' (first | (with_reducible exact hRB) | (with_reducible exact Below.refl _ _) | (with_reducible refine Below.alloc ?_ ?_ _) | (with_reducible refine Below.setCell ?_ ?_ _) | (with_reducible refine Below.drew ?_) | (with_reducible refine below_drewN ?_ _) | (with_reducible exact Nat.le_refl _) | (with_reducible exact hRB.size) | (simp [go_sem]; done) | (have := hRB.size; simp [go_sem]; omega))); done)); clear hM hB hRB hb; intro hM hB hRB; (try clear hC); have hC := mem_facts hM; simp at hC) | (go_at_call 27; refine (q2 _).mono ?_; rintro e w' ⟨rfl, hb⟩; apply after_call2 (w := w) (wr := wr) hb; (focus ((repeat' (first | (with_reducible exact hM) | (with_reducible apply mem_alloc) | (with_reducible apply mem_set) | (with_reducible apply mem_drew) | (with_reducible apply mem_drewN))); done)); (focus ((repeat' (first | (with_reducible exact hB) | (with_reducible exact Below.refl _ _) | (with_reducible refine Below.alloc ?_ ?_ _) | (with_reducible refine Below.setCell ?_ ?_ _) | (with_reducible refine Below.drew ?_) | (with_reducible refine below_drewN ?_ _) | (with_reducible exact Nat.le_refl _) | (with_reducible exact hB.size) | (simp [go_sem]; done) | (have := hB.size; simp [go_sem]; omega))); done)); (focus ((repeat' (first | (with_reducible exact hB) | (with_reducible exact Below.refl _ _) | (with_reducible refine Below.alloc ?_ ?_ _) | (with_reducible refine Below.setCell ?_ ?_ _) | (with_reducible refine Below.drew ?_) | (with_reducible refine below_drewN ?_ _) | (with_reducible exact Nat.le_refl _) | (with_reducible exact hB.size) | (simp [go_sem]; done) | (have := hB.size; simp [go_sem]; omega))); done)); (focus ((repeat' (first | (with_reducible exact hRB) | (with_reducible exact Below.refl _ _) | (with_reducible refine Below.alloc ?_ ?_ _) | (with_reducible refine Below.setCell ?_ ?_ _) | (with_reducible refine Below.drew ?_) | (with_reducible refine below_drewN ?_ _) | (with_reducible exact Nat.le_refl _) | (with_reducible exact hRB.size) | (simp [go_sem]; done) | (have := hRB.size; simp [go_sem]; omega))); done)); (focus ((repeat' (first | (with_reducible exact hRB) | (with_reducible exact Below.refl _ _) | (with_reducible refine Below.alloc ?_ ?_ _) | (with_reducible refine Below.setCell ?_ ?_ _) | (with_reducible refine Below.drew ?_) | (with_reducible refine below_drewN ?_ _) | (with_reducible exact Nat.le_refl _) | (with_reducible exact hRB.size) | (simp [go_sem]; done) | (have := hRB.size; simp [go_sem]; omega))); done)); clear hM hB hRB hb; intro hM hB hRB; (try clear hC); have hC := mem_facts hM; simp at hC) | (go_at_call 28; refine (q3 _).mono ?_; rintro e w' ⟨rfl, hb⟩; apply after_call2 (w := w) (wr := wr) hb; (focus ((repeat' (first | (with_reducible exact hM) | (with_reducible apply mem_alloc) | (with_reducible apply mem_set) | (with_reducible apply mem_drew) | (with_reducible apply mem_drewN))); done)); (focus ((repeat' (first | (with_reducible exact hB) | (with_reducible exact Below.refl _ _) | (with_reducible refine Below.alloc ?_ ?_ _) | (with_reducible refine Below.setCell ?_ ?_ _) | (with_reducible refine Below.drew ?_) | (with_reducible refine below_drewN ?_ _) | (with_reducible exact Nat.le_refl _) | (with_reducible exact hB.size) | (simp [go_sem]; done) | (have := hB.size; simp [go_sem]; omega))); done)); (focus ((repeat' (first | (with_reducible exact hB) | (with_reducible exact Below.refl _ _) | (with_reducible refine Below.alloc ?_ ?_ _) | (with_reducible refine Below.setCell ?_ ?_ _) | (with_reducible refine Below.drew ?_) | (with_reducible refine below_drewN ?_ _) | (with_reducible exact Nat.le_refl _) | (with_reducible exact hB.size) | (simp [go_sem]; done) | (have := hB.size; simp [go_sem]; omega))); done)); (focus ((repeat' (first | (with_reducible exact hRB) | (with_reducible exact Below.refl _ _) | (with_reducible refine Below.alloc ?_ ?_ _) | (with_reducible refine Below.setCell ?_ ?_ _) | (with_reducible refine Below.drew ?_) | (with_reducible refine below_drewN ?_ _) | (with_reducible exact Nat.le_refl _) | (with_reducible exact hRB.size) | (simp [go_sem]; done) | (have := hRB.size; simp [go_sem]; omega))); done)); (focus ((repeat' (first | (with_reducible exact hRB) | (with_reducible exact Below.refl _ _) | (with_reducible refine Below.alloc ?_ ?_ _) | (with_reducible refine Below.setCell ?_ ?_ _) | (with_reducible refine Below.drew ?_) | (with_reducible refine below_drewN ?_ _) | (with_reducible exact Nat.le_refl _) | (with_reducible exact hRB.size) | (simp [go_sem]; done) | (have := hRB.size; simp [go_sem]; omega))); done)); clear hM hB hRB hb; intro hM hB hRB; (try clear hC); have hC := mem_facts hM; simp at hC) | (at_builtin; have hR : w'.ownsRow w.heap.size 29 3 (.slice ao xs.length cap) xs.length (cs3 xs) := HR.out.below hRB; refine wpList_append_own _ rfl _ _ 24 rfl w.heap.size 29 i0 (.agg #[.int .i64 0, .int .i64 0, .int .i64 0]) 3 24 Try.underlying24 hi hz0 hz1 hz2 rfl (by decide) _ _ _ rfl (hR.alloc _) ⟨_, 0, none⟩ 1 1 [.int .i64 (a : Int), .int .i64 b, .int .i64 c] rfl rfl (cell_three_new _ _ _ _ _) (by simp [Value.oneCell']) (by unfold maxLen; omega) (by omega) (by have := hB.size; simp; omega) ?_; intro v' w1 hown' hgrow _; apply after_app3 hgrow hR hB; clear hB hgrow hR; intro hB; have hR := hown'; clear hown'))
                go_roundw
                case rel => exact ⟨n + 1, by omega, by have hq := HBB.out; (try simp only [w11]); refine congrArg (Value.int IntKind.i64) ?_; omega, by rw [HN1.out, ← List.append_assoc, ← HX.out]; exact fa_snoc hR, by (repeat' (first | (with_reducible exact hB) | (with_reducible exact Below.refl _ _) | (with_reducible refine Below.alloc ?_ ?_ _) | (with_reducible refine Below.setCell ?_ ?_ _) | (with_reducible refine Below.drew ?_) | (with_reducible refine below_drewN ?_ _) | (with_reducible exact Nat.le_refl _) | (with_reducible exact hB.size) | (simp [go_sem]; done) | (have := hB.size; simp [go_sem]; omega)))⟩
                case measure => have := HBB.out; simp [intOf]; omega
        · obtain rfl : n = 2 * a + 1 := by omega
          have HR := Lib.hid hR
          clear hR
          go_wp2_with fail
          go_roundw
          case rel => exact ⟨a + 1, by omega, by omega, by simpa using hlt, by go_num, by rw [Nat.add_sub_cancel, HF.out, ← HX.out]; exact HR.out, by (repeat' (first | (with_reducible exact hB) | (with_reducible exact Below.refl _ _) | (with_reducible refine Below.alloc ?_ ?_ _) | (with_reducible refine Below.setCell ?_ ?_ _) | (with_reducible refine Below.drew ?_) | (with_reducible refine below_drewN ?_ _) | (with_reducible exact Nat.le_refl _) | (with_reducible exact hB.size) | (simp [go_sem]; done) | (have := hB.size; simp [go_sem]; omega)))⟩
          case measure => simp [intOf]; omega
    · have e0 : decide (3 * (a : Int) * a ≤ (d : Int)) = false := decide_eq_false (by rw [Int.mul_assoc, ← hsq]; omega)
      have HT := Lib.hid (show topF d = a - 1 from top_eq (by omega) had (by rw [show a - 1 + 1 = a from by omega]; omega))
      have HR := Lib.hid hR
      clear hR
      go_wp2
      go_ret
      exact ⟨_, rfl, by rw [HT.out]; exact HR.out, by (repeat' (first | (with_reducible exact hB) | (with_reducible exact Below.refl _ _) | (with_reducible refine Below.alloc ?_ ?_ _) | (with_reducible refine Below.setCell ?_ ?_ _) | (with_reducible refine Below.drew ?_) | (with_reducible refine below_drewN ?_ _) | (with_reducible exact Nat.le_refl _) | (with_reducible exact hB.size) | (simp [go_sem]; done) | (have := hB.size; simp [go_sem]; omega)))⟩
/-- what both return -/
def FaOk (x : Int) (w : World) (e : Ending) (W' : World) : Prop := ∃ v, e = .returned (.tuple #[v, .bool (fAll x).2]) ∧ FormRow w.heap.size W' v (fAll x).1 ∧ Below w.heap.size w W'
set_option maxHeartbeats 1000000 in
theorem FormAll_ (x : Int) (w : World) : Calls Try.prog 6 #[.int .i64 x] w (FaOk x w) := by
  by_cases h : 1 ≤ x ∧ x ≤ 400
  · obtain ⟨n, rfl⟩ : ∃ n : Nat, x = n := ⟨x.toNat, by omega⟩
    have HE := Lib.hid (show fAll (n : Int) = (allF n (topF n), true) by unfold fAll; rw [if_pos h, Int.toNat_natCast])
    have c1 := fun W => shortWith_ n (by omega) (by omega) W
    have h3 : decide ((n : Int) < 1) = false := decide_eq_false (by omega)
    have h4 : decide ((n : Int) > 400) = false := decide_eq_false (by omega)
    have h5 : decide ((400 : Int) < (n : Int)) = false := decide_eq_false (by omega)
    have hM := mem_nil w; have hB := Below.refl w.heap.size w; have hC := True.intro
    go_enter Try.func6, Try.ntmps6
    go_wp2_with fail
    refine (c1 _).mono ?_
    rintro e w1 ⟨v, rfl, hR, hb⟩
    have HR := Lib.hid hR
    have HB := Lib.hid hb
    clear hR hb
    go_wp2_with fail
    go_ret2
    exact ⟨v, by rw [HE.out]; rfl, by rw [HE.out]; exact HR.out, HB.out⟩
  · have HE := Lib.hid (show fAll x = ([], false) by unfold fAll; rw [if_neg h])
    by_cases h1 : x < 1
    · have hM := mem_nil w; have hB := Below.refl w.heap.size w; have hC := True.intro
      go_enter Try.func6, Try.ntmps6
      go_wp2_with fail
      go_ret2
      exact ⟨_, by rw [HE.out]; rfl, by rw [HE.out]; exact World.ownsRow_nil _ _ _ _, by (repeat' (first | (with_reducible exact hB) | (with_reducible exact Below.refl _ _) | (with_reducible refine Below.alloc ?_ ?_ _) | (with_reducible refine Below.setCell ?_ ?_ _) | (with_reducible refine Below.drew ?_) | (with_reducible refine below_drewN ?_ _) | (with_reducible exact Nat.le_refl _) | (with_reducible exact hB.size) | (simp [go_sem]; done) | (have := hB.size; simp [go_sem]; omega)))⟩
    · have h2 : 400 < x := by omega
      have hM := mem_nil w; have hB := Below.refl w.heap.size w; have hC := True.intro
      go_enter Try.func6, Try.ntmps6
      go_wp2_with fail
      go_ret2
      exact ⟨_, by rw [HE.out]; rfl, by rw [HE.out]; exact World.ownsRow_nil _ _ _ _, by (repeat' (first | (with_reducible exact hB) | (with_reducible exact Below.refl _ _) | (with_reducible refine Below.alloc ?_ ?_ _) | (with_reducible refine Below.setCell ?_ ?_ _) | (with_reducible refine Below.drew ?_) | (with_reducible refine below_drewN ?_ _) | (with_reducible exact Nat.le_refl _) | (with_reducible exact hB.size) | (simp [go_sem]; done) | (have := hB.size; simp [go_sem]; omega)))⟩
end Go.Proofs.Ytohkmdpefplddaa
