
/- The model's lattices, walked: the row form. Under bounds on the numbers alone. -/
import Derived.Test.YtcnhjnmnflehhaaLaB
import Derived.Test.YtcnhjnmnflehhaaSpecA
namespace Go.Proofs.Ytcnhjnmnflehhaa
open Go.RowKit

theorem sSize_ (x : Int) (hx : -4000000000000000000 ≤ x ∧ x ≤ 4000000000000000000) (w : World) : Calls Try.prog 54 #[.int .i64 x] w (fun E' W' => E' = .returned (.int .i64 (absI x)) ∧ w = W') := by
  have h1 : wrap64 (0 - x) = 0 - x := wrap_mid (by omega)
  by_cases h : x < 0
  · have e : absI x = 0 - x := by unfold absI; rw [if_pos h]; omega
    have h2 : (0 - x > x) = True := by simp; omega
    have h3 : (-x > x) = True := by simp; omega
    have h4 : wrap64 (-x) = -x := wrap_mid (by omega)
    go_enter Try.func54, Try.ntmps54
    go_wp2
    go_ret
    exact ⟨by first | rfl | (rw [e]; rfl) | (rw [e]; simp; done), rfl⟩
  · have e : absI x = x := by unfold absI; rw [if_neg h]
    have h2 : (0 - x > x) = False := by simp; omega
    have h3 : (-x > x) = False := by simp; omega
    have h4 : wrap64 (-x) = -x := wrap_mid (by omega)
    go_enter Try.func54, Try.ntmps54
    go_wp2
    go_ret
    exact ⟨by first | rfl | (rw [e]; rfl), rfl⟩
theorem sRest_num {Q D : Int} (hD : 1 ≤ D ∧ D ≤ 4000000000000) : (IntKind.i64.wrap (Q.tmod D + D)).tmod D = Q % D := by
  obtain ⟨e1, e2, e3⟩ := rest_eq1 (x := Q) hD.1
  rw [iw, wrap_mid (by omega), e1]
set_option maxHeartbeats 4000000 in
theorem sForm_ (a b c d : Int) (h : clG ⟨a, b, c, d⟩ ⟨a, b, c, d⟩) (h0 : xd ⟨a, b, c, d⟩ ≠ 0) (w : World) : Calls Try.prog 36 #[.agg #[.int .i64 a, .int .i64 b, .int .i64 c, .int .i64 d]] w (fun E' W' => E' = .returned (.agg #[.int .i64 ((nf ⟨a, b, c, d⟩)).a, .int .i64 ((nf ⟨a, b, c, d⟩)).b, .int .i64 ((nf ⟨a, b, c, d⟩)).c, .int .i64 ((nf ⟨a, b, c, d⟩)).d]) ∧ Below w.heap.size w W') := by
  have H0 := Lib.hid h0
  have hM := mem_nil w; have hB := Below.refl w.heap.size w; have hC := True.intro
  go_enter Try.func36, Try.ntmps36
  go_wp2
  go_loopg [] c.natAbs (fun gk wr => ClRel ⟨a, b, c, d⟩ w gk wr)
  case atStart =>
    refine ⟨⟨a, b, c, d⟩, rfl, h, ?_, by (repeat' (first | (with_reducible exact hB) | (with_reducible exact Below.refl _ _) | (with_reducible refine Below.alloc ?_ ?_ _) | (with_reducible refine Below.setCell ?_ ?_ _) | (with_reducible refine Below.drew ?_) | (with_reducible refine below_drewN ?_ _) | (with_reducible exact Nat.le_refl _) | (with_reducible exact hB.size) | (simp [go_sem]; done) | (have := hB.size; simp [go_sem]; omega)))⟩
    apply mem_drop 0
    · (repeat' (first | (with_reducible exact hM) | (with_reducible apply mem_alloc) | (with_reducible apply mem_set) | (with_reducible apply mem_drew) | (with_reducible apply mem_drewN)))
    · simp
  case round =>
    obtain ⟨⟨p, q, r, t⟩, rfl, hcl, hM', hB'⟩ := hrel
    (try clear hC); clear hM hB; have hM := hM'; have hB := hB'; clear hM' hB'; have hC := mem_facts hM; simp at hC
    clear h h0
    by_cases hr : r = 0
    · subst hr
      have hn := nf_of (m := ⟨a, b, c, d⟩) (r := ⟨p, q, 0, t⟩) H0.out rfl hcl.1 hcl.2.1
      have hbd := hcl.2.2
      have k1 := absI_bd p
      have k2 := absI_bd q
      have k3 := absI_bd t
      have hr0 : t ≠ 0 := by
        intro e
        have h3 := hcl.2.1
        subst e
        have e2 : xd ⟨p, q, 0, 0⟩ = 0 := by simp [xd]
        have := absI_bd (xd ⟨a, b, c, d⟩)
        have h0 := H0.out
        rw [e2] at h3
        have e0 : absI 0 = 0 := rfl
        omega
      dsimp only at hbd
      have HN := Lib.hid hn
      have hr1 : 1 ≤ absI t := by unfold absI; split <;> omega
      have hd1 := hbd.2.2.2.2
      have ha1 := hbd.1
      have hb1 := hbd.2.2.2.1
      have hV := fun W => sSize_ t (by omega) W
      have hw3 : wrap64 (-p) = -p := wrap_mid (by omega)
      have hw4 : wrap64 (-q) = -q := wrap_mid (by omega)
      have hw5 : wrap64 (0 - p) = -p := by rw [wrap_mid (by omega)]; omega
      have hw6 : wrap64 (0 - q) = -q := by rw [wrap_mid (by omega)]; omega
      clear hcl hn hbd k1 k2 k3
      obtain ⟨Q, hQ⟩ : ∃ Q, Q = if p < 0 then -q else q := ⟨_, rfl⟩
      have e1 : nrm ⟨p, q, 0, t⟩ = ⟨absI p, Q % absI t, 0, absI t⟩ := by rw [nrm_eq, hQ]
      have HE := Lib.hid (HN.out.symm.trans e1)
      have HP := Lib.hid (show (p < 0 → absI p = -p ∧ Q = -q) ∧ (¬p < 0 → absI p = p ∧ Q = q) from ⟨fun h => ⟨by unfold absI; rw [if_pos h], by rw [hQ, if_pos h]⟩, fun h => ⟨by unfold absI; rw [if_neg h], by rw [hQ, if_neg h]⟩⟩)
      have HZ := Lib.hid (sRest_num (Q := Q) (D := absI t) ⟨hr1, by omega⟩)
      clear e1 HN hQ
      generalize absI t = D at *
      generalize absI p = P at *
      have hz : (D = 0) = False := by simp; omega
      clear hr0 hr1 hd1 ha1 hb1
      go_upto_if 34 with fail
      go_cut [] (fun wx => Mem wx [(w.heap.size + 1, #[.int .i64 0, .int .i64 0, .int .i64 0, .int .i64 0], 24), (w.heap.size, #[.int .i64 P, .int .i64 Q, .int .i64 0, .int .i64 t], 24)] ∧ Below w.heap.size w wx)
      case first =>
        by_cases hp : p < 0
        · have H := HP.out.1 hp
          have H1 := Lib.hid H.1
          have H2 := Lib.hid H.2
          clear H HP
          go_wp2_with fail
          go_meet
          refine ⟨?_, by (repeat' (first | (with_reducible exact hB) | (with_reducible exact Below.refl _ _) | (with_reducible refine Below.alloc ?_ ?_ _) | (with_reducible refine Below.setCell ?_ ?_ _) | (with_reducible refine Below.drew ?_) | (with_reducible refine below_drewN ?_ _) | (with_reducible exact Nat.le_refl _) | (with_reducible exact hB.size) | (simp [go_sem]; done) | (have := hB.size; simp [go_sem]; omega)))⟩
          apply mem_drop 0
          · (repeat' (first | (with_reducible exact hM) | (with_reducible apply mem_alloc) | (with_reducible apply mem_set) | (with_reducible apply mem_drew) | (with_reducible apply mem_drewN)))
          · simp [H1.out, H2.out]
        · have H := HP.out.2 (by omega)
          have H1 := Lib.hid H.1
          have H2 := Lib.hid H.2
          clear H HP
          go_wp2_with fail
          go_meet
          refine ⟨?_, by (repeat' (first | (with_reducible exact hB) | (with_reducible exact Below.refl _ _) | (with_reducible refine Below.alloc ?_ ?_ _) | (with_reducible refine Below.setCell ?_ ?_ _) | (with_reducible refine Below.drew ?_) | (with_reducible refine below_drewN ?_ _) | (with_reducible exact Nat.le_refl _) | (with_reducible exact hB.size) | (simp [go_sem]; done) | (have := hB.size; simp [go_sem]; omega)))⟩
          apply mem_drop 0
          · (repeat' (first | (with_reducible exact hM) | (with_reducible apply mem_alloc) | (with_reducible apply mem_set) | (with_reducible apply mem_drew) | (with_reducible apply mem_drewN)))
          · simp [H1.out, H2.out]
      case rest =>
        clear hM hB hC
        obtain ⟨hM', hB'⟩ := hcut
        clear HP
        have hM := hM'
        have hB := hB'
        clear hM' hB'
        have hC := mem_facts hM
        simp at hC
        go_wp2_with (first | (go_at_call 54; refine (hV _).mono ?_; rintro e w' ⟨rfl, rfl⟩))
        (refine wp_region_T2 (fun W' => (W'.cell? ⟨w.heap.size, 0, none⟩ = some (.int .i64 P) ∧ W'.cell? ⟨w.heap.size, 1, none⟩ = some (.int .i64 Q) ∧ W'.cell? ⟨w.heap.size, 2, none⟩ = some (.int .i64 0) ∧ W'.cell? ⟨w.heap.size, 3, none⟩ = some (.int .i64 t))) 12 (by kernel_rfl) ?_ ?_; (focus (simp [*, go_sem]; done)); intro hS)
        (refine wpT_take (i := 0) (oi := ?_) (v := ?_) hS ?_ ?_ ?_ ?_ ?_ ?_; rotate_left 2; (focus (simp only [List.getElem?_toArray, List.getElem?_cons_zero]; exact rfl)); (focus (kernel_rfl)); (focus (rfl)); (focus (intro w' hW; (try dsimp only at hW); go_simp; (try with_reducible rfl); done)); (focus (exact fun _ _ _ h => h)); (try simp only [Act.put, List.setIfInBounds_toArray, List.set_cons_zero, List.set_cons_succ])); (refine wpT_take (i := 1) (oi := ?_) (v := ?_) hS ?_ ?_ ?_ ?_ ?_ ?_; rotate_left 2; (focus (simp only [List.getElem?_toArray, List.getElem?_cons_zero, List.getElem?_cons_succ]; exact rfl)); (focus (kernel_rfl)); (focus (rfl)); (focus (intro w' hW; (try dsimp only at hW); go_simp; (try with_reducible rfl); done)); (focus (exact fun _ _ _ h => h)); (try simp only [Act.put, List.setIfInBounds_toArray, List.set_cons_zero, List.set_cons_succ])); (refine wpT_take (i := 2) (oi := ?_) (v := ?_) hS ?_ ?_ ?_ ?_ ?_ ?_; rotate_left 2; (focus (simp only [List.getElem?_toArray, List.getElem?_cons_zero, List.getElem?_cons_succ]; exact rfl)); (focus (kernel_rfl)); (focus (rfl)); (focus (intro w' hW; (try dsimp only at hW); go_simp; (try with_reducible rfl); done)); (focus (exact fun _ _ _ h => h)); (try simp only [Act.put, List.setIfInBounds_toArray, List.set_cons_zero, List.set_cons_succ])); (refine wpT_take (i := 3) (oi := ?_) (v := ?_) hS ?_ ?_ ?_ ?_ ?_ ?_; rotate_left 2; (focus (simp only [List.getElem?_toArray, List.getElem?_cons_zero, List.getElem?_cons_succ]; exact rfl)); (focus (kernel_rfl)); (focus (rfl)); (focus (intro w' hW; (try dsimp only at hW); go_simp; (try with_reducible rfl); done)); (focus (exact fun _ _ _ h => h)); (try simp only [Act.put, List.setIfInBounds_toArray, List.set_cons_zero, List.set_cons_succ])); (refine wpT_take (i := 4) (oi := ?_) (v := ?_) hS ?_ ?_ ?_ ?_ ?_ ?_; rotate_left 2; (focus (simp only [List.getElem?_toArray, List.getElem?_cons_zero, List.getElem?_cons_succ]; exact rfl)); (focus (kernel_rfl)); (focus (rfl)); (focus (intro w' hW; (try dsimp only at hW); go_simp; (try with_reducible rfl); done)); (focus (exact fun _ _ _ h => h)); (try simp only [Act.put, List.setIfInBounds_toArray, List.set_cons_zero, List.set_cons_succ])); (refine wpT_take (i := 5) (oi := ?_) (v := ?_) hS ?_ ?_ ?_ ?_ ?_ ?_; rotate_left 2; (focus (simp only [List.getElem?_toArray, List.getElem?_cons_zero, List.getElem?_cons_succ]; exact rfl)); (focus (kernel_rfl)); (focus (rfl)); (focus (intro w' hW; (try dsimp only at hW); go_simp; (try with_reducible rfl); done)); (focus (exact fun _ _ _ h => h)); (try simp only [Act.put, List.setIfInBounds_toArray, List.set_cons_zero, List.set_cons_succ])); (refine wpT_take (i := 6) (oi := ?_) (v := ?_) hS ?_ ?_ ?_ ?_ ?_ ?_; rotate_left 2; (focus (simp only [List.getElem?_toArray, List.getElem?_cons_zero, List.getElem?_cons_succ]; exact rfl)); (focus (kernel_rfl)); (focus (rfl)); (focus (intro w' hW; (try dsimp only at hW); go_simp; (try with_reducible rfl); done)); (focus (exact fun _ _ _ h => h)); (try simp only [Act.put, List.setIfInBounds_toArray, List.set_cons_zero, List.set_cons_succ])); (refine wpT_take (i := 7) (oi := ?_) (v := ?_) hS ?_ ?_ ?_ ?_ ?_ ?_; rotate_left 2; (focus (simp only [List.getElem?_toArray, List.getElem?_cons_zero, List.getElem?_cons_succ]; exact rfl)); (focus (kernel_rfl)); (focus (rfl)); (focus (intro w' hW; (try dsimp only at hW); go_simp; (try with_reducible rfl); done)); (focus (exact fun _ _ _ h => h)); (try simp only [Act.put, List.setIfInBounds_toArray, List.set_cons_zero, List.set_cons_succ])); (refine wpT_take (i := 8) (oi := ?_) (v := ?_) hS ?_ ?_ ?_ ?_ ?_ ?_; rotate_left 2; (focus (simp only [List.getElem?_toArray, List.getElem?_cons_zero, List.getElem?_cons_succ]; exact rfl)); (focus (kernel_rfl)); (focus (rfl)); (focus (intro w' hW; (try dsimp only at hW); go_simp; (try with_reducible rfl); done)); (focus (exact fun _ _ _ h => h)); (try simp only [Act.put, List.setIfInBounds_toArray, List.set_cons_zero, List.set_cons_succ])); (refine wpT_take (i := 9) (oi := ?_) (v := ?_) hS ?_ ?_ ?_ ?_ ?_ ?_; rotate_left 2; (focus (simp only [List.getElem?_toArray, List.getElem?_cons_zero, List.getElem?_cons_succ]; exact rfl)); (focus (kernel_rfl)); (focus (rfl)); (focus (intro w' hW; (try dsimp only at hW); go_simp; (try with_reducible rfl); done)); (focus (exact fun _ _ _ h => h)); (try simp only [Act.put, List.setIfInBounds_toArray, List.set_cons_zero, List.set_cons_succ])); (refine wpT_take (i := 10) (oi := ?_) (v := ?_) hS ?_ ?_ ?_ ?_ ?_ ?_; rotate_left 2; (focus (simp only [List.getElem?_toArray, List.getElem?_cons_zero, List.getElem?_cons_succ]; exact rfl)); (focus (kernel_rfl)); (focus (rfl)); (focus (intro w' hW; (try dsimp only at hW); go_simp; (try with_reducible rfl); done)); (focus (exact fun _ _ _ h => h)); (try simp only [Act.put, List.setIfInBounds_toArray, List.set_cons_zero, List.set_cons_succ])); (refine wpT_take (i := 11) (oi := ?_) (v := ?_) hS ?_ ?_ ?_ ?_ ?_ ?_; rotate_left 2; (focus (simp only [List.getElem?_toArray, List.getElem?_cons_zero, List.getElem?_cons_succ]; exact rfl)); (focus (kernel_rfl)); (focus (rfl)); (focus (intro w' hW; (try dsimp only at hW); go_simp; (try with_reducible rfl); done)); (focus (exact fun _ _ _ h => h)); (try simp only [Act.put, List.setIfInBounds_toArray, List.set_cons_zero, List.set_cons_succ]))
        (refine wpT_one (i := 12) (oi := ?_) ?_ ?_ ?_ ?_; rotate_left 1; (focus (kernel_rfl)); (focus (simp only [List.getElem?_toArray, List.getElem?_cons_zero, List.getElem?_cons_succ]; exact rfl)); (focus (rfl)); go_simp)
        refine wpT_done (by kernel_rfl) ?_ _
        go_wp2_with fail
        refine bodyPost_ret (by (simp [results, Try.results36, go_sem, *]; try rfl)) rfl ?_
        exact ⟨by rw [HE.out, HZ.out], by (repeat' (first | (with_reducible exact hB) | (with_reducible exact Below.refl _ _) | (with_reducible refine Below.alloc ?_ ?_ _) | (with_reducible refine Below.setCell ?_ ?_ _) | (with_reducible refine Below.drew ?_) | (with_reducible refine below_drewN ?_ _) | (with_reducible exact Nat.le_refl _) | (with_reducible exact hB.size) | (simp [go_sem]; done) | (have := hB.size; simp [go_sem]; omega)))⟩
    · have hr2 : (r = 0) = False := by simp [hr]
      have hr1 : (r == 0) = false := by simp [hr]
      have hr4 : (r != 0) = true := by simp [hr]
      obtain ⟨g1, g2⟩ := clG_next hcl hr
      have hb := hcl.2.2
      dsimp only at hb
      have hq1 := absI_bd (p.tdiv r)
      have hp1 := absI_bd p
      have hq2 := absI_bd q
      have hr3 := absI_bd r
      have ht2 := absI_bd t
      have m1 := mul_bd (x := p.tdiv r) (y := r) (a := 1000000) (b := 1000000) ⟨by omega, by omega⟩ ⟨by omega, by omega⟩
      have m2 := mul_bd (x := p.tdiv r) (y := t) (a := 1000000) (b := 2000000000000) ⟨by omega, by omega⟩ ⟨by omega, by omega⟩
      have w1 : wrap64 (p.tdiv r) = p.tdiv r := wrap_mid (by omega)
      have w2 : wrap64 (p.tdiv r * r) = p.tdiv r * r := wrap_mid (by omega)
      have w3 : wrap64 (p.tdiv r * t) = p.tdiv r * t := wrap_mid (by omega)
      have w4 : wrap64 (p - p.tdiv r * r) = p - p.tdiv r * r := wrap_mid (by omega)
      have w5 : wrap64 (q - p.tdiv r * t) = q - p.tdiv r * t := wrap_mid (by omega)
      have HT := Lib.hid (tmod_lt' (a := p) hr)
      have HC := Lib.hid g1
      clear hb g1 g2 hcl hq1 hp1 hq2 hr3 ht2 m1 m2 hr
      go_wp2_with fail
      go_roundg (p - p.tdiv r * r).natAbs
      case measure => exact HT.out
      case rel =>
        refine ⟨⟨r, t, p - p.tdiv r * r, q - p.tdiv r * t⟩, rfl, HC.out, ?_, by (repeat' (first | (with_reducible exact hB) | (with_reducible exact Below.refl _ _) | (with_reducible refine Below.alloc ?_ ?_ _) | (with_reducible refine Below.setCell ?_ ?_ _) | (with_reducible refine Below.drew ?_) | (with_reducible refine below_drewN ?_ _) | (with_reducible exact Nat.le_refl _) | (with_reducible exact hB.size) | (simp [go_sem]; done) | (have := hB.size; simp [go_sem]; omega)))⟩
        apply mem_drop 0
        · (repeat' (first | (with_reducible exact hM) | (with_reducible apply mem_alloc) | (with_reducible apply mem_set) | (with_reducible apply mem_drew) | (with_reducible apply mem_drewN)))
        · simp
end Go.Proofs.Ytcnhjnmnflehhaa
