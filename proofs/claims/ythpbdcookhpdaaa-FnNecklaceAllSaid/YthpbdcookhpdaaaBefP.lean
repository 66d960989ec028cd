
/- The model's list in order, walked. -/
import Derived.Test.YthpbdcookhpdaaaNecX
import Derived.Test.YthpbdcookhpdaaaNecW
import Derived.Test.YthpbdcookhpdaaaApp
import Derived.Test.YthpbdcookhpdaaaNeckS
namespace Go.Proofs.Ythpbdcookhpdaaa
open Go.RowKit Go.Shelf Go.Lib

set_option maxHeartbeats 2000000 in
theorem l4Before_ (x y : List UInt8) (w : World) : Calls Try.prog 46 #[.string (txt x), .string (txt y)] w (fun E' W' => E' = .returned (.bool (slB x y)) ∧ w = W') := by
  have hsx := txt_size x
  have hsy := txt_size y
  have hx1 : (txt x).toList = x := (ByteArray.toList_eq _).trans (txt_list x)
  have hy1 : (txt y).toList = y := (ByteArray.toList_eq _).trans (txt_list y)
  have hl : ∀ a b : List UInt8, Op.bytesLess a b = bl a b := fun _ _ => rfl
  rcases Nat.lt_trichotomy x.length y.length with h | h | h
  · have h1 : slB x y = true := by simp [slB, h]
    go_enter Try.func46, Try.ntmps46
    go_wp2
    go_ret
    exact ⟨by rw [h1]; rfl, rfl⟩
  · have h1 : slB x y = bl x y := by simp [slB, h]
    go_enter Try.func46, Try.ntmps46
    go_wp2
    go_ret
    exact ⟨by rw [h1]; simp [*], rfl⟩
  · have h1 : slB x y = false := by
      have e1 : ¬ x.length < y.length := by omega
      have e2 : ¬ x.length = y.length := by omega
      simp [slB, e1, e2]
    go_enter Try.func46, Try.ntmps46
    go_wp2
    go_ret
    exact ⟨by rw [h1]; simp [*], rfl⟩
theorem row_ofS {W : World} {L : List (Nat × Array Value × TypeId)} {base g : Nat} (h : Mem W L) (hin : (g, #[], 9) ∈ L) (hb : base ≤ g) : W.ownsRow base 9 1 (.slice (some ⟨g, 0, none⟩) 0 0) 0 [] :=
  ⟨rfl, .inr ⟨g, 0, #[], rfl, hb, h.1 _ hin, Nat.le_refl _, by decide, rfl, rfl⟩⟩
theorem app_keep {w W w1 : World} {b1 : Nat} {L : List (Nat × Array Value × TypeId)} {G : Prop} (hgrow : W.grownBy w1 (some b1)) (hm : Mem W L) (hB : Below w.heap.size w W) (hb : w.heap.size ≤ b1) (g : Mem w1 (L.filter fun p => p.1 != b1) → Below w.heap.size w w1 → G) : G :=
  g (mem_grown' (mem_filter' _ hm) hgrow fun p hp => by have := (List.mem_filter.1 hp).2; simpa using this) (hB.grown hgrow hB.size fun j ej => by cases ej; exact hb)
theorem news_of {W : World} {L : List (Nat × Array Value × TypeId)} {b : Nat} {c : Value} {t : TypeId} (h : Mem W L) (hin : (b, #[c], t) ∈ L) : ∀ j u, [c][j]? = some u → W.cell? ((⟨b, 0, none⟩ : Addr).add j) = some u := by
  intro j u hu
  have hg := h.1 _ hin
  have ha : (⟨b, 0, none⟩ : Addr).add j = ⟨b, j, none⟩ := by
    by_cases h0 : j = 0 <;> simp [Addr.add, h0]
  rw [ha]
  have h2 : (#[c] : Array Value)[j]? = some u := by simpa using hu
  simp [World.cell?, hg, h2]
theorem putN_new {L : List (List UInt8)} {x : List UInt8} {k : Nat} (hk : k = plc L x) (h : k = 0 ∨ L.getD (k - 1) [] ≠ x) : putN L x = L.take k ++ [x] ++ L.drop k := by
  unfold putN
  rw [if_neg, ← hk]
  rw [← hk]
  rintro ⟨h1, h2⟩
  rcases h with h | h
  · omega
  · exact h h2
theorem put_done {L : List (List UInt8)} {x : List UInt8} {k : Nat} {base : Nat} {v : Value} {w w' : World} (hp : putN L x = L.take k ++ [x] ++ L.drop k) (hk : k ≤ L.length) (hown : w'.ownsRow w.heap.size 9 1 v (0 + k + 1 + (L.length - k)) ([] ++ (L.take k).map strV ++ [.string (txt x)] ++ (L.drop k).map strV)) (hB : Below w.heap.size w w') (hb : base ≤ w.heap.size) :
    ∃ g' cap', Ending.returned v = .returned (.slice (some ⟨g', 0, none⟩) (putN L x).length cap') ∧ w'.ownsRow base 9 1 (.slice (some ⟨g', 0, none⟩) (putN L x).length cap') (putN L x).length ((putN L x).map strV) ∧ Below w.heap.size w w' := by
  have hl : (putN L x).length = 0 + k + 1 + (L.length - k) := by rw [hp]; simp; omega
  rw [← hl] at hown
  have hx : (putN L x).map strV = [] ++ (L.take k).map strV ++ [.string (txt x)] ++ (L.drop k).map strV := by rw [hp]; simp [strV]
  rw [← hx] at hown
  rcases hown.2 with ⟨_, h0⟩ | ⟨g', cap', cur, rfl, _⟩
  · omega
  exact ⟨g', cap', rfl, ownsRow_base_a hown hb, hB⟩
/-- at the head of a round: what is behind place k is behind x -/
def PuR (L : List (List UInt8)) (x : List UInt8) (w : World) (k : Value) (wr : World) : Prop := ∃ j : Nat, j ≤ L.length ∧ k = .int .i64 (j : Int) ∧ bkN L x j = plc L x ∧ w = wr
theorem infoStr : (Try.prog.info? 9).map (fun i => (i.zero, i.size, i.bytes)) = some (some (.string ⟨#[]⟩), 1, 16) := by kernel_rfl
set_option maxRecDepth 100000 in
set_option maxHeartbeats 4000000 in
theorem l4Put_ (L : List (List UInt8)) (x : List UInt8) (hL : L.length ≤ 100000) (base g cap : Nat) (w : World) (hown : w.ownsRow base 9 1 (.slice (some ⟨g, 0, none⟩) L.length cap) L.length (L.map strV)) (hbs : base ≤ w.heap.size) :
    Calls Try.prog 29 #[.slice (some ⟨g, 0, none⟩) L.length cap, .string (txt x)] w fun e w' => ∃ g' cap', e = .returned (.slice (some ⟨g', 0, none⟩) (putN L x).length cap') ∧ w'.ownsRow base 9 1 (.slice (some ⟨g', 0, none⟩) (putN L x).length cap') (putN L x).length ((putN L x).map strV) ∧ Below w.heap.size w w' := by
  have hcap : L.length ≤ cap := by
    obtain ⟨_, ⟨h0, _⟩ | ⟨g', cap', cur, h0, _, _, hn, _⟩⟩ := hown
    · cases h0
    · cases h0; exact hn
  have hall : ∀ j u, (L.map strV)[j]? = some u → w.cell? ((⟨g, 0, none⟩ : Addr).add j) = some u := row_cells hown
  have hadd : ∀ j : Nat, (⟨g, 0, none⟩ : Addr).add j = ⟨g, j, none⟩ := fun j => by
    by_cases h0 : j = 0 <;> simp [Addr.add, h0]
  have hc : ∀ j, j < L.length → w.cell? ⟨g, j, none⟩ = some (.string (txt (L.getD j []))) := fun j hj => by
    have := hall j (strV (L.getD j [])) (by simp [List.getD, hj])
    rwa [hadd] at this
  have HC := Lib.hid hc
  have HO := Lib.hid hown
  have hple : plc L x ≤ L.length := bkN_le L x _
  have hgl : g < w.heap.size ∨ L.length = 0 := by
    rcases Nat.eq_zero_or_pos L.length with h | h
    · exact .inr h
    · exact .inl (World.block_lt_of_cell? w _ (hc 0 h))
  have ht1 : ∀ W : World, Below w.heap.size w W → ∀ p : Nat, ∀ j u, ((L.take p).map strV)[j]? = some u → W.cell? ((⟨g, 0, none⟩ : Addr).add j) = some u := fun W hb p j u hu => by
    have hj : j < L.length := by
      have := (List.getElem?_eq_some_iff.1 hu).1
      simp at this
      omega
    have h1 : (L.map strV)[j]? = some u := by
      rw [List.getElem?_map] at hu ⊢
      rw [List.getElem?_take] at hu
      split at hu
      · exact hu
      · simp at hu
    have := hall j u h1
    rw [hadd] at this ⊢
    rw [hb.cell (p := ⟨g, j, none⟩) (by show g < _; omega), this]
  have ht2 : ∀ W : World, Below w.heap.size w W → ∀ p o : Nat, (o = p ∨ L.length ≤ p) → ∀ j u, ((L.drop p).map strV)[j]? = some u → W.cell? ((⟨g, o, none⟩ : Addr).add j) = some u := fun W hb p o ho j u hu => by
    have hj : p + j < L.length := by
      have := (List.getElem?_eq_some_iff.1 hu).1
      simp at this
      omega
    obtain rfl : o = p := by omega
    have h1 : (L.map strV)[o + j]? = some u := by
      rw [List.getElem?_map] at hu ⊢
      rwa [List.getElem?_drop] at hu
    have := hall (o + j) u h1
    rw [hadd] at this
    rw [Addr.add_lit, hb.cell (p := ⟨g, o + j, none⟩) (by show g < _; omega), this]
  have HT := Lib.hid ht1
  have HU := Lib.hid ht2
  obtain ⟨i0, hi, hz0, hz1, hz2⟩ := info_parts infoStr
  clear hc hown hall ht1 ht2 hadd hgl
  have hM := mem_nil w; have hB := Below.refl w.heap.size w; have hC := True.intro
  go_enter Try.func29, Try.ntmps29
  go_wp2_with fail
  go_loopw [5] (fun k wr => PuR L x w k wr) (fun k _ => (intOf k).toNat)
  case atStart => exact ⟨L.length, Nat.le_refl _, rfl, rfl, rfl⟩
  case round =>
    obtain ⟨j, hj, rfl, hbk, rfl⟩ := hrel
    by_cases hj0 : j = 0
    · subst hj0
      have hp0 := putN_new (L := L) (x := x) (k := 0) (by simpa [bkN] using hbk) (.inl rfl)
      have HP := Lib.hid hp0
      have HT1 := Lib.hid (fun W hb => HT.out W hb 0)
      have HT2 := Lib.hid (fun W hb => HU.out W hb 0)
      clear hp0 hbk
      go_wp2_with fail
      go_region_held3 (fun _ => True) (trivial) (first
        | (refine step_append_any (by rfl) (.tmp 33) (.tmp 36) _ (by rfl) w.heap.size 9 i0 (.string ⟨#[]⟩) 1 16 Try.underlying24 hi hz0 hz1 hz2 rfl (by decide) _ 0 [] (by rfl) ?_ ⟨g, 0, none⟩ 0 cap ((L.take 0).map strV) (by rfl) ?_ (HT1.out _ ?_) ?_ ?_ ?_ ?_ ?_; (focus (first | (apply row_ofS; (focus ((repeat' (first | (with_reducible exact hM) | (with_reducible apply mem_alloc) | (with_reducible apply mem_set) | (with_reducible apply mem_drew) | (with_reducible apply mem_drewN))); done)); (focus (simp; done)); (have := hB.size; first | omega | (simp; done) | (simp; omega))))); (focus (first | (first | (simp; done) | (simp; omega)))); (focus (first | (exact (by (repeat' (first | (with_reducible exact hB) | (with_reducible exact Below.refl _ _) | (with_reducible refine Below.alloc ?_ ?_ _) | (with_reducible refine Below.setCell ?_ ?_ _) | (with_reducible refine Below.drew ?_) | (with_reducible refine below_drewN ?_ _) | (with_reducible exact Nat.le_refl _) | (with_reducible exact hB.size) | (simp [go_sem]; done) | (have := hB.size; simp [go_sem]; omega))))))); (focus (first | (intro u hu; obtain ⟨x, _, rfl⟩ := List.mem_map.1 hu; rfl))); (focus (first | (first | (simp [maxLen]; done) | (simp [maxLen]; omega) | (unfold maxLen; omega)))); (focus (first | (first | omega | (simp; omega)))); (focus (first | (have := hB.size; first | omega | (simp; done) | (simp; omega)))); intro v1 w1 hown1 hgrow1; refine app_keep (w := w) hgrow1 (by (repeat' (first | (with_reducible exact hM) | (with_reducible apply mem_alloc) | (with_reducible apply mem_set) | (with_reducible apply mem_drew) | (with_reducible apply mem_drewN)))) (by (repeat' (first | (with_reducible exact hB) | (with_reducible exact Below.refl _ _) | (with_reducible refine Below.alloc ?_ ?_ _) | (with_reducible refine Below.setCell ?_ ?_ _) | (with_reducible refine Below.drew ?_) | (with_reducible refine below_drewN ?_ _) | (with_reducible exact Nat.le_refl _) | (with_reducible exact hB.size) | (simp [go_sem]; done) | (have := hB.size; simp [go_sem]; omega)))) (by have := hB.size; first | omega | (simp; done) | (simp; omega)) ?_; clear hM hB hgrow1; intro hM hB; have hs1 := hB.size; (try simp at hM))
        | (refine step_append_any (by rfl) (.tmp 37) (.tmp 39) _ (by rfl) w.heap.size 9 i0 (.string ⟨#[]⟩) 1 16 Try.underlying24 hi hz0 hz1 hz2 rfl (by decide) v1 _ _ rfl (by first | exact hown1 | exact hown1.alloc _) ⟨_, 0, none⟩ 1 1 [.string (txt x)] rfl rfl ?_ ?_ ?_ ?_ ?_ ?_; (focus (first | (first | exact cell_one_new _ _ _ | exact news_of (t := 9) hM (by simp)))); (focus (first | (simp [Value.oneCell']))); (focus (first | (first | (simp [maxLen]; done) | (simp [maxLen]; omega) | (unfold maxLen; omega)))); (focus (first | (first | omega | (simp; omega)))); (focus (first | (have := hB.size; first | omega | (simp; done) | (simp; omega)))); intro v2 w2 hown2 hgrow2; refine after_app (w := w) (L := []) hgrow2 (by first | exact hown1 | exact hown1.alloc _) (mem_nil _) ?_ ?_ ?_ (KeepsOthers.refl _) ?_; (focus (first | (simp))); (focus (first | (exact (by (repeat' (first | (with_reducible exact hB) | (with_reducible exact Below.refl _ _) | (with_reducible refine Below.alloc ?_ ?_ _) | (with_reducible refine Below.setCell ?_ ?_ _) | (with_reducible refine Below.drew ?_) | (with_reducible refine below_drewN ?_ _) | (with_reducible exact Nat.le_refl _) | (with_reducible exact hB.size) | (simp [go_sem]; done) | (have := hB.size; simp [go_sem]; omega))))))); (focus (first | (have := hB.size; first | omega | (simp; done) | (simp; omega)))); clear hM hB hgrow2 hown1; intro hM hB hKK; clear hKK; have hs2 := hB.size)
        | (refine step_append_any (by rfl) (.tmp 40) (.tmp 43) _ (by rfl) w.heap.size 9 i0 (.string ⟨#[]⟩) 1 16 Try.underlying24 hi hz0 hz1 hz2 rfl (by decide) v2 _ _ rfl (by first | exact hown2 | exact hown2.alloc _) ⟨g, _, none⟩ (L.length - 0) _ ((L.drop 0).map strV) rfl ?_ (HT2.out _ ?_ _ ?_) ?_ ?_ ?_ ?_ ?_; (focus (first | (first | (simp; done) | (simp; omega)))); (focus (first | (exact (by (repeat' (first | (with_reducible exact hB) | (with_reducible exact Below.refl _ _) | (with_reducible refine Below.alloc ?_ ?_ _) | (with_reducible refine Below.setCell ?_ ?_ _) | (with_reducible refine Below.drew ?_) | (with_reducible refine below_drewN ?_ _) | (with_reducible exact Nat.le_refl _) | (with_reducible exact hB.size) | (simp [go_sem]; done) | (have := hB.size; simp [go_sem]; omega))))))); (focus (first | (first | (left; rfl) | (left; omega) | (right; omega) | (right; have h9 := of_eq_true hcp; omega)))); (focus (first | (intro u hu; obtain ⟨x, _, rfl⟩ := List.mem_map.1 hu; rfl))); (focus (first | (first | (simp [maxLen]; done) | (simp [maxLen]; omega) | (unfold maxLen; omega)))); (focus (first | (first | omega | (simp; omega)))); (focus (first | (have := hB.size; first | omega | (simp; done) | (simp; omega)))); intro v3 w3 hown3 hgrow3; refine after_app (w := w) (L := []) hgrow3 (by first | exact hown2 | exact hown2.alloc _) (mem_nil _) ?_ ?_ ?_ (KeepsOthers.refl _) ?_; (focus (first | (simp))); (focus (first | (exact (by (repeat' (first | (with_reducible exact hB) | (with_reducible exact Below.refl _ _) | (with_reducible refine Below.alloc ?_ ?_ _) | (with_reducible refine Below.setCell ?_ ?_ _) | (with_reducible refine Below.drew ?_) | (with_reducible refine below_drewN ?_ _) | (with_reducible exact Nat.le_refl _) | (with_reducible exact hB.size) | (simp [go_sem]; done) | (have := hB.size; simp [go_sem]; omega))))))); (focus (first | (have := hB.size; first | omega | (simp; done) | (simp; omega)))); clear hM hB hgrow3 hown2; intro hM hB hKK; clear hKK; have hs3 := hB.size))
      all_goals
        go_wp2_with fail
        go_ret
        exact put_done HP.out (Nat.zero_le _) hown3 hB hbs
    · obtain ⟨i, rfl⟩ : ∃ i, j = i + 1 := ⟨j - 1, by omega⟩
      have hci := HC.out i (by omega)
      obtain ⟨y, hy⟩ : ∃ y, y = L.getD i [] := ⟨_, rfl⟩
      rw [← hy] at hci
      have hb2 : bkN L x (i + 1) = if slB x y then bkN L x i else i + 1 := by rw [bkN, hy]
      by_cases hsl : slB x y = true
      · rw [if_pos hsl] at hb2
        have hb3 := Lib.hid (hb2.symm.trans hbk)
        clear hb2 hbk hy
        go_wp2_with fail
        go_at_call 46
        refine (l4Before_ x y _).mono ?_
        rintro e w' ⟨rfl, rfl⟩
        go_wp2_with fail
        go_roundw
        case rel => exact ⟨i, by omega, by go_num, hb3.out, rfl⟩
        case measure => simp [intOf]
      · rw [if_neg hsl] at hb2
        have hpl : i + 1 = plc L x := hb2.symm.trans hbk
        have hsl2 : slB x y = false := by simpa using hsl
        by_cases hxy : y = x
        · have hxy2 : putN L x = L := by
            unfold putN
            rw [← hpl, if_pos ⟨by omega, by rw [show i + 1 - 1 = i from by omega, ← hy, hxy]⟩]
          have HP := Lib.hid hxy2
          have hyx : ((txt y).toList == (txt x).toList) = true := by rw [hxy]; simp
          clear hxy2 hpl hb2 hbk hy hsl hxy
          go_wp2_with fail
          go_at_call 46
          refine (l4Before_ x y _).mono ?_
          rintro e w' ⟨rfl, rfl⟩
          go_wp2_with fail
          go_ret
          rw [HP.out]
          exact ⟨g, cap, rfl, HO.out, by (repeat' (first | (with_reducible exact hB) | (with_reducible exact Below.refl _ _) | (with_reducible refine Below.alloc ?_ ?_ _) | (with_reducible refine Below.setCell ?_ ?_ _) | (with_reducible refine Below.drew ?_) | (with_reducible refine below_drewN ?_ _) | (with_reducible exact Nat.le_refl _) | (with_reducible exact hB.size) | (simp [go_sem]; done) | (have := hB.size; simp [go_sem]; omega)))⟩
        · have hp0 := putN_new (L := L) (x := x) (k := i + 1) hpl (.inr (by rw [show i + 1 - 1 = i from by omega, ← hy]; exact hxy))
          have hyx : ((txt y).toList == (txt x).toList) = false := by
            rw [(ByteArray.toList_eq _).trans (txt_list y), (ByteArray.toList_eq _).trans (txt_list x)]
            simpa using hxy
          have HP := Lib.hid hp0
          have HT1 := Lib.hid (fun W hb => HT.out W hb (i + 1))
          have HT2 := Lib.hid (fun W hb => HU.out W hb (i + 1))
          clear hp0 hbk hb2 hpl hsl hy hxy
          go_wp2_with fail
          go_at_call 46
          refine (l4Before_ x y _).mono ?_
          rintro e w' ⟨rfl, rfl⟩
          go_wp2_with fail
          clear hsl2 hci hyx
          obtain ⟨k, hk1⟩ : ∃ k, k = i + 1 := ⟨_, rfl⟩
          have hki : ((i : Int) + 1) = (k : Int) := by omega
          rw [hki]
          rw [← hk1] at hj HP HT1 HT2
          clear hki hk1 hj0
          have hk := hj
          have hk0 : (0 : Int) ≤ (k : Int) := by omega
          have hkn : (k : Int) ≤ (L.length : Int) := by omega
          have hkc : (L.length : Int) ≤ (cap : Int) := by omega
          have hkc2 : (k : Int) ≤ (cap : Int) := by omega
          have hcp : (cap = k) = True ∨ (cap = k) = False := by by_cases h : cap = k <;> simp [h]
          rcases hcp with hcp | hcp
          · go_region_held3 (fun _ => True) (trivial) (first
              | (refine step_append_any (by rfl) (.tmp 33) (.tmp 36) _ (by rfl) w.heap.size 9 i0 (.string ⟨#[]⟩) 1 16 Try.underlying24 hi hz0 hz1 hz2 rfl (by decide) _ 0 [] (by rfl) ?_ ⟨g, 0, none⟩ k cap ((L.take k).map strV) (by rfl) ?_ (HT1.out _ ?_) ?_ ?_ ?_ ?_ ?_; (focus (first | (apply row_ofS; (focus ((repeat' (first | (with_reducible exact hM) | (with_reducible apply mem_alloc) | (with_reducible apply mem_set) | (with_reducible apply mem_drew) | (with_reducible apply mem_drewN))); done)); (focus (simp; done)); (have := hB.size; first | omega | (simp; done) | (simp; omega))))); (focus (first | (first | (simp; done) | (simp; omega)))); (focus (first | (exact (by (repeat' (first | (with_reducible exact hB) | (with_reducible exact Below.refl _ _) | (with_reducible refine Below.alloc ?_ ?_ _) | (with_reducible refine Below.setCell ?_ ?_ _) | (with_reducible refine Below.drew ?_) | (with_reducible refine below_drewN ?_ _) | (with_reducible exact Nat.le_refl _) | (with_reducible exact hB.size) | (simp [go_sem]; done) | (have := hB.size; simp [go_sem]; omega))))))); (focus (first | (intro u hu; obtain ⟨x, _, rfl⟩ := List.mem_map.1 hu; rfl))); (focus (first | (first | (simp [maxLen]; done) | (simp [maxLen]; omega) | (unfold maxLen; omega)))); (focus (first | (first | omega | (simp; omega)))); (focus (first | (have := hB.size; first | omega | (simp; done) | (simp; omega)))); intro v1 w1 hown1 hgrow1; refine app_keep (w := w) hgrow1 (by (repeat' (first | (with_reducible exact hM) | (with_reducible apply mem_alloc) | (with_reducible apply mem_set) | (with_reducible apply mem_drew) | (with_reducible apply mem_drewN)))) (by (repeat' (first | (with_reducible exact hB) | (with_reducible exact Below.refl _ _) | (with_reducible refine Below.alloc ?_ ?_ _) | (with_reducible refine Below.setCell ?_ ?_ _) | (with_reducible refine Below.drew ?_) | (with_reducible refine below_drewN ?_ _) | (with_reducible exact Nat.le_refl _) | (with_reducible exact hB.size) | (simp [go_sem]; done) | (have := hB.size; simp [go_sem]; omega)))) (by have := hB.size; first | omega | (simp; done) | (simp; omega)) ?_; clear hM hB hgrow1; intro hM hB; have hs1 := hB.size; (try simp at hM))
              | (refine step_append_any (by rfl) (.tmp 37) (.tmp 39) _ (by rfl) w.heap.size 9 i0 (.string ⟨#[]⟩) 1 16 Try.underlying24 hi hz0 hz1 hz2 rfl (by decide) v1 _ _ rfl (by first | exact hown1 | exact hown1.alloc _) ⟨_, 0, none⟩ 1 1 [.string (txt x)] rfl rfl ?_ ?_ ?_ ?_ ?_ ?_; (focus (first | (first | exact cell_one_new _ _ _ | exact news_of (t := 9) hM (by simp)))); (focus (first | (simp [Value.oneCell']))); (focus (first | (first | (simp [maxLen]; done) | (simp [maxLen]; omega) | (unfold maxLen; omega)))); (focus (first | (first | omega | (simp; omega)))); (focus (first | (have := hB.size; first | omega | (simp; done) | (simp; omega)))); intro v2 w2 hown2 hgrow2; refine after_app (w := w) (L := []) hgrow2 (by first | exact hown1 | exact hown1.alloc _) (mem_nil _) ?_ ?_ ?_ (KeepsOthers.refl _) ?_; (focus (first | (simp))); (focus (first | (exact (by (repeat' (first | (with_reducible exact hB) | (with_reducible exact Below.refl _ _) | (with_reducible refine Below.alloc ?_ ?_ _) | (with_reducible refine Below.setCell ?_ ?_ _) | (with_reducible refine Below.drew ?_) | (with_reducible refine below_drewN ?_ _) | (with_reducible exact Nat.le_refl _) | (with_reducible exact hB.size) | (simp [go_sem]; done) | (have := hB.size; simp [go_sem]; omega))))))); (focus (first | (have := hB.size; first | omega | (simp; done) | (simp; omega)))); clear hM hB hgrow2 hown1; intro hM hB hKK; clear hKK; have hs2 := hB.size)
              | (refine step_append_any (by rfl) (.tmp 40) (.tmp 43) _ (by rfl) w.heap.size 9 i0 (.string ⟨#[]⟩) 1 16 Try.underlying24 hi hz0 hz1 hz2 rfl (by decide) v2 _ _ rfl (by first | exact hown2 | exact hown2.alloc _) ⟨g, _, none⟩ (L.length - k) _ ((L.drop k).map strV) rfl ?_ (HT2.out _ ?_ _ ?_) ?_ ?_ ?_ ?_ ?_; (focus (first | (first | (simp; done) | (simp; omega)))); (focus (first | (exact (by (repeat' (first | (with_reducible exact hB) | (with_reducible exact Below.refl _ _) | (with_reducible refine Below.alloc ?_ ?_ _) | (with_reducible refine Below.setCell ?_ ?_ _) | (with_reducible refine Below.drew ?_) | (with_reducible refine below_drewN ?_ _) | (with_reducible exact Nat.le_refl _) | (with_reducible exact hB.size) | (simp [go_sem]; done) | (have := hB.size; simp [go_sem]; omega))))))); (focus (first | (first | (left; rfl) | (left; omega) | (right; omega) | (right; have h9 := of_eq_true hcp; omega)))); (focus (first | (intro u hu; obtain ⟨x, _, rfl⟩ := List.mem_map.1 hu; rfl))); (focus (first | (first | (simp [maxLen]; done) | (simp [maxLen]; omega) | (unfold maxLen; omega)))); (focus (first | (first | omega | (simp; omega)))); (focus (first | (have := hB.size; first | omega | (simp; done) | (simp; omega)))); intro v3 w3 hown3 hgrow3; refine after_app (w := w) (L := []) hgrow3 (by first | exact hown2 | exact hown2.alloc _) (mem_nil _) ?_ ?_ ?_ (KeepsOthers.refl _) ?_; (focus (first | (simp))); (focus (first | (exact (by (repeat' (first | (with_reducible exact hB) | (with_reducible exact Below.refl _ _) | (with_reducible refine Below.alloc ?_ ?_ _) | (with_reducible refine Below.setCell ?_ ?_ _) | (with_reducible refine Below.drew ?_) | (with_reducible refine below_drewN ?_ _) | (with_reducible exact Nat.le_refl _) | (with_reducible exact hB.size) | (simp [go_sem]; done) | (have := hB.size; simp [go_sem]; omega))))))); (focus (first | (have := hB.size; first | omega | (simp; done) | (simp; omega)))); clear hM hB hgrow3 hown2; intro hM hB hKK; clear hKK; have hs3 := hB.size))
            all_goals
              go_wp2_with fail
              go_ret
              exact put_done HP.out hk hown3 hB hbs
          · go_region_held3 (fun _ => True) (trivial) (first
              | (refine step_append_any (by rfl) (.tmp 33) (.tmp 36) _ (by rfl) w.heap.size 9 i0 (.string ⟨#[]⟩) 1 16 Try.underlying24 hi hz0 hz1 hz2 rfl (by decide) _ 0 [] (by rfl) ?_ ⟨g, 0, none⟩ k cap ((L.take k).map strV) (by rfl) ?_ (HT1.out _ ?_) ?_ ?_ ?_ ?_ ?_; (focus (first | (apply row_ofS; (focus ((repeat' (first | (with_reducible exact hM) | (with_reducible apply mem_alloc) | (with_reducible apply mem_set) | (with_reducible apply mem_drew) | (with_reducible apply mem_drewN))); done)); (focus (simp; done)); (have := hB.size; first | omega | (simp; done) | (simp; omega))))); (focus (first | (first | (simp; done) | (simp; omega)))); (focus (first | (exact (by (repeat' (first | (with_reducible exact hB) | (with_reducible exact Below.refl _ _) | (with_reducible refine Below.alloc ?_ ?_ _) | (with_reducible refine Below.setCell ?_ ?_ _) | (with_reducible refine Below.drew ?_) | (with_reducible refine below_drewN ?_ _) | (with_reducible exact Nat.le_refl _) | (with_reducible exact hB.size) | (simp [go_sem]; done) | (have := hB.size; simp [go_sem]; omega))))))); (focus (first | (intro u hu; obtain ⟨x, _, rfl⟩ := List.mem_map.1 hu; rfl))); (focus (first | (first | (simp [maxLen]; done) | (simp [maxLen]; omega) | (unfold maxLen; omega)))); (focus (first | (first | omega | (simp; omega)))); (focus (first | (have := hB.size; first | omega | (simp; done) | (simp; omega)))); intro v1 w1 hown1 hgrow1; refine app_keep (w := w) hgrow1 (by (repeat' (first | (with_reducible exact hM) | (with_reducible apply mem_alloc) | (with_reducible apply mem_set) | (with_reducible apply mem_drew) | (with_reducible apply mem_drewN)))) (by (repeat' (first | (with_reducible exact hB) | (with_reducible exact Below.refl _ _) | (with_reducible refine Below.alloc ?_ ?_ _) | (with_reducible refine Below.setCell ?_ ?_ _) | (with_reducible refine Below.drew ?_) | (with_reducible refine below_drewN ?_ _) | (with_reducible exact Nat.le_refl _) | (with_reducible exact hB.size) | (simp [go_sem]; done) | (have := hB.size; simp [go_sem]; omega)))) (by have := hB.size; first | omega | (simp; done) | (simp; omega)) ?_; clear hM hB hgrow1; intro hM hB; have hs1 := hB.size; (try simp at hM))
              | (refine step_append_any (by rfl) (.tmp 37) (.tmp 39) _ (by rfl) w.heap.size 9 i0 (.string ⟨#[]⟩) 1 16 Try.underlying24 hi hz0 hz1 hz2 rfl (by decide) v1 _ _ rfl (by first | exact hown1 | exact hown1.alloc _) ⟨_, 0, none⟩ 1 1 [.string (txt x)] rfl rfl ?_ ?_ ?_ ?_ ?_ ?_; (focus (first | (first | exact cell_one_new _ _ _ | exact news_of (t := 9) hM (by simp)))); (focus (first | (simp [Value.oneCell']))); (focus (first | (first | (simp [maxLen]; done) | (simp [maxLen]; omega) | (unfold maxLen; omega)))); (focus (first | (first | omega | (simp; omega)))); (focus (first | (have := hB.size; first | omega | (simp; done) | (simp; omega)))); intro v2 w2 hown2 hgrow2; refine after_app (w := w) (L := []) hgrow2 (by first | exact hown1 | exact hown1.alloc _) (mem_nil _) ?_ ?_ ?_ (KeepsOthers.refl _) ?_; (focus (first | (simp))); (focus (first | (exact (by (repeat' (first | (with_reducible exact hB) | (with_reducible exact Below.refl _ _) | (with_reducible refine Below.alloc ?_ ?_ _) | (with_reducible refine Below.setCell ?_ ?_ _) | (with_reducible refine Below.drew ?_) | (with_reducible refine below_drewN ?_ _) | (with_reducible exact Nat.le_refl _) | (with_reducible exact hB.size) | (simp [go_sem]; done) | (have := hB.size; simp [go_sem]; omega))))))); (focus (first | (have := hB.size; first | omega | (simp; done) | (simp; omega)))); clear hM hB hgrow2 hown1; intro hM hB hKK; clear hKK; have hs2 := hB.size)
              | (refine step_append_any (by rfl) (.tmp 40) (.tmp 43) _ (by rfl) w.heap.size 9 i0 (.string ⟨#[]⟩) 1 16 Try.underlying24 hi hz0 hz1 hz2 rfl (by decide) v2 _ _ rfl (by first | exact hown2 | exact hown2.alloc _) ⟨g, _, none⟩ (L.length - k) _ ((L.drop k).map strV) rfl ?_ (HT2.out _ ?_ _ ?_) ?_ ?_ ?_ ?_ ?_; (focus (first | (first | (simp; done) | (simp; omega)))); (focus (first | (exact (by (repeat' (first | (with_reducible exact hB) | (with_reducible exact Below.refl _ _) | (with_reducible refine Below.alloc ?_ ?_ _) | (with_reducible refine Below.setCell ?_ ?_ _) | (with_reducible refine Below.drew ?_) | (with_reducible refine below_drewN ?_ _) | (with_reducible exact Nat.le_refl _) | (with_reducible exact hB.size) | (simp [go_sem]; done) | (have := hB.size; simp [go_sem]; omega))))))); (focus (first | (first | (left; rfl) | (left; omega) | (right; omega) | (right; have h9 := of_eq_true hcp; omega)))); (focus (first | (intro u hu; obtain ⟨x, _, rfl⟩ := List.mem_map.1 hu; rfl))); (focus (first | (first | (simp [maxLen]; done) | (simp [maxLen]; omega) | (unfold maxLen; omega)))); (focus (first | (first | omega | (simp; omega)))); (focus (first | (have := hB.size; first | omega | (simp; done) | (simp; omega)))); intro v3 w3 hown3 hgrow3; refine after_app (w := w) (L := []) hgrow3 (by first | exact hown2 | exact hown2.alloc _) (mem_nil _) ?_ ?_ ?_ (KeepsOthers.refl _) ?_; (focus (first | (simp))); (focus (first | (exact (by (repeat' (first | (with_reducible exact hB) | (with_reducible exact Below.refl _ _) | (with_reducible refine Below.alloc ?_ ?_ _) | (with_reducible refine Below.setCell ?_ ?_ _) | (with_reducible refine Below.drew ?_) | (with_reducible refine below_drewN ?_ _) | (with_reducible exact Nat.le_refl _) | (with_reducible exact hB.size) | (simp [go_sem]; done) | (have := hB.size; simp [go_sem]; omega))))))); (focus (first | (have := hB.size; first | omega | (simp; done) | (simp; omega)))); clear hM hB hgrow3 hown2; intro hM hB hKK; clear hKK; have hs3 := hB.size))
            all_goals
              go_wp2_with fail
              go_ret
              exact put_done HP.out hk hown3 hB hbs
end Go.Proofs.Ythpbdcookhpdaaa
