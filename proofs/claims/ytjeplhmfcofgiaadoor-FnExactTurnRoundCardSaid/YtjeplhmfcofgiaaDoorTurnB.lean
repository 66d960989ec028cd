
/- The model's question of the lists that come round, walked. No condition. -/
import Derived.Test.YtjeplhmfcofgiaaDoorTurnS
import Derived.Test.YtjeplhmfcofgiaaDoorTurnT
import Derived.Test.YtjeplhmfcofgiaaDoorTurnW
import Derived.Deep.RegionLaw
namespace Go.Proofs.YtjeplhmfcofgiaaDoor
open Go.RowKit

/-- an append onto a slice of the call's own, as a step of a region that draws: of nothing, too -/
theorem step_append_any {P : Program} {w : World} {ops : Array Oper} {o : Oper} {a : Act} {K : Act → World → Prop} {Q : Exit → Act → World → Prop} {E : Prop} (hgd : o.guard = none) (s x : Operand) (t : TypeId)
    (ho : o.op = .call { callee := .builtin .append, args := #[s, x], argTypes := #[t, t] })
    (base : Nat) (e : TypeId) (i : TypeInfo) (z : Value) (size bytes : Nat) (ht : P.underlying t = some (.slice e)) (hi : P.info? e = some i) (hz : i.zero = some z)
    (hsize : i.size = size) (hby : i.bytes = bytes) (hzs : z.cells.size = size) (hsz : 0 < size)
    (v : Value) (n : Nat) (xs : List Value) (hs : a.eval s = v) (hown : w.ownsRow base e size v n xs)
    (ad : Addr) (m c : Nat) (news : List Value) (hx : a.eval x = .slice (some ad) m c) (hl : news.length = m * size) (hnews : ∀ j u, news[j]? = some u → w.cell? (ad.add j) = some u) (h1 : ∀ u ∈ news, u.oneCell' = true)
    (h63 : n + m ≤ maxLen) (hbytes : (n + m) * bytes ≤ 140737488355328) (hbase : base ≤ w.heap.size)
    (h : ∀ v' w', w'.ownsRow base e size v' (n + m) (xs ++ news) → w.grownBy w' v.ownBlock → K (a.put o.dst v') w') :
    if Region.wanted o (yielded ops a.tmps) = true then Oper.wp P o a w K Q else E := by
  have hw : Region.wanted o (yielded ops a.tmps) = true := by simp [Region.wanted, hgd]
  rw [if_pos hw]
  obtain ⟨v', w', hrun, hown', hgrow, _⟩ := run_append_own (P := P) w base t o.type e i z size bytes ht hi hz hsize hby hzs hsz v n xs hown ad m c news hl hnews h1 h63 hbytes hbase
  unfold Oper.wp
  simp [execOp, ho, resolve, invoke, builtin, hs, hx, hrun, Result.andThen]
  exact h _ _ hown' hgrow
theorem filt_m (b : Nat) (cs : Array Value) (L : List (Nat × Array Value × TypeId)) : List.filter (fun p => p.2.2 != 3) ((b, cs, 24) :: L) = (b, cs, 24) :: List.filter (fun p => p.2.2 != 3) L := rfl
theorem filt_i (b : Nat) (cs : Array Value) (L : List (Nat × Array Value × TypeId)) : List.filter (fun p => p.2.2 != 3) ((b, cs, 3) :: L) = List.filter (fun p => p.2.2 != 3) L := rfl
theorem row_of {W : World} {L : List (Nat × Array Value × TypeId)} {base g : Nat} (h : Mem W L) (hin : (g, #[], 3) ∈ L) (hb : base ≤ g) : IntRow base W (.slice (some ⟨g, 0, none⟩) 0 0) [] := row_empty (h.1 _ hin) hb
theorem mem_filter' {W : World} {L : List (Nat × Array Value × TypeId)} (f : Nat × Array Value × TypeId → Bool) (h : Mem W L) : Mem W (L.filter f) :=
  ⟨fun p hp => h.1 p (List.mem_filter.1 hp).1, h.2.filter f⟩
theorem after_app2 {w W w1 : World} {L : List (Nat × Array Value × TypeId)} {e : TypeId} {v : Value} {k : Nat} {xs : List Value} {G : Prop} (hgrow : W.grownBy w1 v.ownBlock) (hrow : W.ownsRow w.heap.size e 1 v k xs) (hm : Mem W L)
    (hB : Below w.heap.size w W) (hs : w.heap.size ≤ W.heap.size) (g : Mem w1 (L.filter fun p => p.2.2 != e) → Below w.heap.size w w1 → G) : G :=
  after_app (A := W) hgrow hrow (mem_filter' _ hm) (fun p hp => by have := (List.mem_filter.1 hp).2; simpa using this) hB hs (KeepsOthers.refl W) fun h1 h2 _ => g h1 h2
/-- the trace that the model makes -/
theorem tr_ltu {m : M} (h : inB m = true) : wrap64 ((ltu m).a + (ltu m).d) = tr (tm m tu) := by
  obtain ⟨h1, h2, h3, h4⟩ := inB_iff.1 h
  rw [tu_tm h]
  simp only [ltu, tr]
  rw [wrap_mid (x := 0 - m.c) (by omega), Int.zero_sub]
theorem tof_rot_no {zs : List Int} {k : Nat} (hk : k < zs.length) (h : (tof (rot zs k)).2 = false) : rnB zs = false := by
  cases hl : lsB zs
  · exact rnB_no1 hl
  · refine rnB_no3 hk ?_
    rw [← rot_ls zs (Nat.le_of_lt hk)] at hl
    rw [tof_ls hl] at h
    cases h2 : (lmat (rot zs k)).2
    · simp [gdB, h2]
    · rw [h2] at h; simp at h
theorem tof_rot_yes {zs : List Int} {k : Nat} (hk : k < zs.length) (h : (tof (rot zs k)).2 = true) : lsB zs = true ∧ (lmat (rot zs k)).2 = true ∧ (tof (rot zs k)).1 = (lmat (rot zs k)).1 ∧ inB (tof (rot zs k)).1 = true := by
  cases hl : lsB (rot zs k)
  · rw [tof_no hl] at h; cases h
  · have hl' := hl
    rw [rot_ls zs (Nat.le_of_lt hk)] at hl'
    rw [tof_ls hl] at h ⊢
    cases h2 : (lmat (rot zs k)).2
    · rw [h2] at h; simp at h
    · rw [if_pos rfl]
      exact ⟨hl', rfl, rfl, (lmat_in hl h2).1⟩
theorem row_rot {W : World} {base k : Nat} {v : Value} {zs : List Int} (hk : k ≤ zs.length) (h : W.ownsRow base 3 1 v (0 + (zs.length - k) + k) ([] ++ ((zs.drop k).take (zs.length - k)).map (Value.int .i64) ++ ((zs.drop 0).take k).map (Value.int .i64))) : IntRow base W v (rot zs k) := by
  unfold IntRow
  have e : (zs.drop k).take (zs.length - k) = zs.drop k := List.take_of_length_le (by simp)
  rw [e] at h
  have e2 : 0 + (zs.length - k) + k = (rot zs k).length := by rw [rot_len zs hk]; omega
  rw [e2] at h
  simpa [rot] using h
/-- at the head of a round: k lists have been asked -/
def SrRel (zs : List Int) (w : World) (g : Nat) (t i : Value) (wr : World) : Prop := ∃ (k : Nat) (t0 : Int), k + g = zs.length ∧ i = .int .i64 k ∧ t = .int .i64 t0 ∧ (0 < k → t0 = rtr zs) ∧ (∀ j, j < k → gdB zs j = true) ∧ (0 < k → lsB zs = true) ∧ Below w.heap.size w wr
theorem rnB_end {zs : List Int} (h1 : ∀ j, j < zs.length → gdB zs j = true) : lsB zs = rnB zs := by
  cases hl : lsB zs
  · rw [rnB_no1 hl]
  · have h0 := (lsB_iff.1 hl).1.1
    have hg := h1 0 h0
    rw [gdB, rot_zero, Bool.and_eq_true] at hg
    rw [rnB_yes hl hg.1 h1]
set_option maxRecDepth 100000 in
set_option maxHeartbeats 4000000 in
theorem sTurnRound_ (v : Value) (zs : List Int) (hz : zs.length ≤ 1000000000) (w : World) (hv : RdO w v zs) : Calls Tryd.prog 19 #[v] w (fun E' W' => E' = .returned (.bool (rnB zs)) ∧ Below w.heap.size w W') := by
  have hv0 := hv
  obtain ⟨ao, cap, rfl, hcap, hc⟩ := hv
  obtain ⟨i0, hi, hz0, hz1, hz2⟩ := info_parts infoI64
  have HC := Lib.hid hc
  clear hc
  have hM := mem_nil w; have hB := Below.refl w.heap.size w; have hC := True.intro
  go_enter Tryd.func19, Tryd.ntmps19
  go_wp2_with fail
  go_loopg [3, 4] zs.length (fun gk t i wr => SrRel zs w gk t i wr)
  case atStart => exact ⟨0, 0, by omega, rfl, rfl, fun h => by omega, fun j hj => by omega, fun h => by omega, hB⟩
  case round =>
    obtain ⟨k, t0, hkg, rfl, rfl, ht0, hgd, hls, hB'⟩ := hrel
    clear hM hB hC
    have hM := mem_nil wr
    have hB := hB'
    have hC := True.intro
    have HG := Lib.hid hgd
    have HLS := Lib.hid hls
    have HT0 := Lib.hid ht0
    clear hB' hgd hls ht0
    by_cases hlt : k < zs.length
    · obtain ⟨g, o, rfl, hck⟩ := HC.out k hlt
      have hg : g < w.heap.size := World.block_lt_of_cell? w _ hck
      have hsrc : ∀ W : World, Below w.heap.size w W → ∀ p q : Nat, p + q ≤ zs.length → ∀ j u, (((zs.drop p).take q).map (Value.int .i64))[j]? = some u → W.cell? ((⟨g, o + p, none⟩ : Addr).add j) = some u := fun W hb p q hpq j u hu => by
        have hj : j < q := by
          have := (List.getElem?_eq_some_iff.1 hu).1
          simp at this
          omega
        obtain ⟨g', o', e', h3⟩ := HC.out (p + j) (by omega)
        injection e' with e'
        injection e' with e1 e2
        subst e1 e2
        rw [Addr.add_lit, hb.cell (p := ⟨g, o + p + j, none⟩) hg, Nat.add_assoc, h3]
        simp [hj] at hu
        obtain ⟨a, ha, rfl⟩ := hu
        simp [List.getD, ha]
      have HS := Lib.hid hsrc
      clear hsrc hck
      have hk0 : (0 : Int) ≤ (k : Int) := by omega
      have hkn : (k : Int) ≤ (zs.length : Int) := by omega
      have hkc : (zs.length : Int) ≤ (cap : Int) := by omega
      have hkc2 : (k : Int) ≤ (cap : Int) := by omega
      have hs0 := hB.size
      have hkc3 : (cap = k) = False := by simp; omega
      have hT := fun v W hv => sTurnOf_ v (rot zs k) (by rw [rot_len zs (Nat.le_of_lt hlt)]; exact hz) W hv
      have HN := Lib.hid (fun h => tof_rot_no hlt h)
      have HY := Lib.hid (fun h => tof_rot_yes hlt h)
      generalize tof (rot zs k) = r at *
      obtain ⟨⟨a, b, c, d⟩, ok⟩ := r
      dsimp only at hT HN HY
      go_upto_region 5 with fail
      go_cut [5, 6] (fun s5 s6 wx => ∃ b5 : Nat, s5 = .pointer (some ⟨b5, 0, none⟩) ∧ s6 = .bool ok ∧ Mem wx [(b5, #[.int .i64 a, .int .i64 b, .int .i64 c, .int .i64 d], 24)] ∧ Below w.heap.size w wx)
      case first =>
        go_region_held3 (fun _ => True) (trivial) (first
            | ((refine step_append_any (by rfl) (.tmp 15) (.tmp 18) _ (by rfl) w.heap.size 3 i0 (.int .i64 0) 1 8 Tryd.underlying22 hi hz0 hz1 hz2 rfl (by omega) _ 0 [] (by rfl) (by apply row_of; (focus ((repeat' (first | (with_reducible exact hM) | (with_reducible apply mem_alloc) | (with_reducible apply mem_set) | (with_reducible apply mem_drew) | (with_reducible apply mem_drewN))); done)); (focus (simp; done)); (have := hB.size; first | omega | (simp; omega))) ⟨g, o + k, none⟩ (zs.length - k) (cap - k) (((zs.drop k).take (zs.length - k)).map (Value.int .i64)) (by rfl) (by simp) (HS.out _ (by (repeat' (first | (with_reducible exact hB) | (with_reducible exact Below.refl _ _) | (with_reducible refine Below.alloc ?_ ?_ _) | (with_reducible refine Below.setCell ?_ ?_ _) | (with_reducible refine Below.drew ?_) | (with_reducible refine below_drewN ?_ _) | (with_reducible exact Nat.le_refl _) | (with_reducible exact hB.size) | (simp [go_sem]; done) | (have := hB.size; simp [go_sem]; omega)))) k _ (by omega)) (by intro u hu; obtain ⟨x, _, rfl⟩ := List.mem_map.1 hu; rfl) (by simp [maxLen]; omega) (by omega) (by have := hB.size; simp; omega) ?_; intro v1 w1 hown1 hgrow1; refine after_app2 (w := w) hgrow1 (by apply row_of; (focus ((repeat' (first | (with_reducible exact hM) | (with_reducible apply mem_alloc) | (with_reducible apply mem_set) | (with_reducible apply mem_drew) | (with_reducible apply mem_drewN))); done)); (focus (simp; done)); (have := hB.size; first | omega | (simp; omega))) (by (repeat' (first | (with_reducible exact hM) | (with_reducible apply mem_alloc) | (with_reducible apply mem_set) | (with_reducible apply mem_drew) | (with_reducible apply mem_drewN)))) (by (repeat' (first | (with_reducible exact hB) | (with_reducible exact Below.refl _ _) | (with_reducible refine Below.alloc ?_ ?_ _) | (with_reducible refine Below.setCell ?_ ?_ _) | (with_reducible refine Below.drew ?_) | (with_reducible refine below_drewN ?_ _) | (with_reducible exact Nat.le_refl _) | (with_reducible exact hB.size) | (simp [go_sem]; done) | (have := hB.size; simp [go_sem]; omega)))) (by have := hB.size; simp; omega) ?_; clear hM hB hgrow1; intro hM hB; have hs1 := hB.size; (repeat (first | rw [filt_m] at hM | rw [filt_i] at hM | rw [List.filter_nil] at hM)); (try clear hC); have hC := mem_facts hM; (try simp at hC)))
            | ((refine step_append_any (by rfl) (.tmp 19) (.tmp 22) _ (by rfl) w.heap.size 3 i0 (.int .i64 0) 1 8 Tryd.underlying22 hi hz0 hz1 hz2 rfl (by omega) v1 _ _ (by rfl) (by first | exact hown1 | exact hown1.alloc _) ⟨g, o, none⟩ k cap (((zs.drop 0).take k).map (Value.int .i64)) (by rfl) (by simp; omega) (HS.out _ (by (repeat' (first | (with_reducible exact hB) | (with_reducible exact Below.refl _ _) | (with_reducible refine Below.alloc ?_ ?_ _) | (with_reducible refine Below.setCell ?_ ?_ _) | (with_reducible refine Below.drew ?_) | (with_reducible refine below_drewN ?_ _) | (with_reducible exact Nat.le_refl _) | (with_reducible exact hB.size) | (simp [go_sem]; done) | (have := hB.size; simp [go_sem]; omega)))) 0 _ (by omega)) (by intro u hu; obtain ⟨x, _, rfl⟩ := List.mem_map.1 hu; rfl) (by simp [maxLen]; omega) (by omega) (by have := hB.size; simp; omega) ?_; intro v2 w2 hown2 hgrow2; refine after_app2 (w := w) hgrow2 (by first | exact hown1 | exact hown1.alloc _) (by (repeat' (first | (with_reducible exact hM) | (with_reducible apply mem_alloc) | (with_reducible apply mem_set) | (with_reducible apply mem_drew) | (with_reducible apply mem_drewN)))) (by (repeat' (first | (with_reducible exact hB) | (with_reducible exact Below.refl _ _) | (with_reducible refine Below.alloc ?_ ?_ _) | (with_reducible refine Below.setCell ?_ ?_ _) | (with_reducible refine Below.drew ?_) | (with_reducible refine below_drewN ?_ _) | (with_reducible exact Nat.le_refl _) | (with_reducible exact hB.size) | (simp [go_sem]; done) | (have := hB.size; simp [go_sem]; omega)))) (by have := hB.size; simp; omega) ?_; clear hM hB hgrow2 hown1; intro hM hB; have hs2 := hB.size; replace hown2 := row_rot (Nat.le_of_lt hlt) hown2; (repeat (first | rw [filt_m] at hM | rw [filt_i] at hM | rw [List.filter_nil] at hM)); (try clear hC); have hC := mem_facts hM; (try simp at hC)))
            | (go_at_call 7; refine (hT _ _ (by first | exact hown2.rdO | exact IntRow.rdO (World.ownsRow.alloc hown2 _))).mono ?_; rintro e w' ⟨rfl, hb⟩; apply after_call (w := w) hb; (focus ((repeat' (first | (with_reducible exact hM) | (with_reducible apply mem_alloc) | (with_reducible apply mem_set) | (with_reducible apply mem_drew) | (with_reducible apply mem_drewN))); done)); (focus ((repeat' (first | (with_reducible exact hB) | (with_reducible exact Below.refl _ _) | (with_reducible refine Below.alloc ?_ ?_ _) | (with_reducible refine Below.setCell ?_ ?_ _) | (with_reducible refine Below.drew ?_) | (with_reducible refine below_drewN ?_ _) | (with_reducible exact Nat.le_refl _) | (with_reducible exact hB.size) | (simp [go_sem]; done) | (have := hB.size; simp [go_sem]; omega))); done)); (focus ((repeat' (first | (with_reducible exact hB) | (with_reducible exact Below.refl _ _) | (with_reducible refine Below.alloc ?_ ?_ _) | (with_reducible refine Below.setCell ?_ ?_ _) | (with_reducible refine Below.drew ?_) | (with_reducible refine below_drewN ?_ _) | (with_reducible exact Nat.le_refl _) | (with_reducible exact hB.size) | (simp [go_sem]; done) | (have := hB.size; simp [go_sem]; omega))); done)); clear hM hB hb; intro hM hB; (try clear hC); have hC := mem_facts hM; simp at hC))
        all_goals
          go_wp2_with fail
          go_meet
          refine ⟨_, rfl, rfl, ?_, by (repeat' (first | (with_reducible exact hB) | (with_reducible exact Below.refl _ _) | (with_reducible refine Below.alloc ?_ ?_ _) | (with_reducible refine Below.setCell ?_ ?_ _) | (with_reducible refine Below.drew ?_) | (with_reducible refine below_drewN ?_ _) | (with_reducible exact Nat.le_refl _) | (with_reducible exact hB.size) | (simp [go_sem]; done) | (have := hB.size; simp [go_sem]; omega)))⟩
          apply mem_drop 0
          · (repeat' (first | (with_reducible exact hM) | (with_reducible apply mem_alloc) | (with_reducible apply mem_set) | (with_reducible apply mem_drew) | (with_reducible apply mem_drewN)))
          · simp
      case rest =>
        obtain ⟨b5, rfl, rfl, hM', hB'⟩ := hcut
        (try clear hC); clear hM hB; have hM := hM'; have hB := hB'; clear hM' hB'; have hC := mem_facts hM; simp at hC
        clear hT HS
        cases ok
        · have HE := Lib.hid (HN.out rfl)
          go_wp2_with fail
          go_ret
          exact ⟨by rw [HE.out]; rfl, by (repeat' (first | (with_reducible exact hB) | (with_reducible exact Below.refl _ _) | (with_reducible refine Below.alloc ?_ ?_ _) | (with_reducible refine Below.setCell ?_ ?_ _) | (with_reducible refine Below.drew ?_) | (with_reducible refine below_drewN ?_ _) | (with_reducible exact Nat.le_refl _) | (with_reducible exact hB.size) | (simp [go_sem]; done) | (have := hB.size; simp [go_sem]; omega)))⟩
        · obtain ⟨hl, h2, h3, h4⟩ := HY.out rfl
          have h5 := tr_ltu h4
          have h6 : wrap64 ((ltu ⟨a, b, c, d⟩).a + (ltu ⟨a, b, c, d⟩).d) = rtr (rot zs k) := by rw [rtr, ← h3]; exact h5
          have hg2 : gdB zs k = (rtr (rot zs k) == rtr zs) := by simp [gdB, h2]
          have HG2 := Lib.hid hg2
          have HT := Lib.hid h6
          have HL := Lib.hid hl
          clear hl h2 h3 h4 h5 h6 hg2 HY HN
          have HR0 := Lib.hid (show k = 0 → rtr (rot zs k) = rtr zs from fun h => by rw [h, rot_zero])
          generalize rtr (rot zs k) = T at *
          have HL3 := Lib.hid (l3Turn_ a b c d)
          generalize ltu ⟨a, b, c, d⟩ = m at *
          obtain ⟨a1, b1, c1, d1⟩ := m
          replace HT := HT.out
          dsimp only at HT
          have hnext : T = rtr zs → ∀ j, j < k + 1 → gdB zs j = true := fun h j hj => by
            rcases Nat.lt_or_eq_of_le (Nat.le_of_lt_succ hj) with hj | rfl
            · exact HG.out j hj
            · rw [HG2.out, h]; simp
          have HX := Lib.hid hnext
          clear hnext
          by_cases hk : k = 0
          · have hT := HR0.out hk
            go_wp2_with (first | (go_at_call 25; refine (HL3.out _).mono ?_; rintro e w' ⟨rfl, hb⟩; apply after_call (w := w) hb; (focus ((repeat' (first | (with_reducible exact hM) | (with_reducible apply mem_alloc) | (with_reducible apply mem_set) | (with_reducible apply mem_drew) | (with_reducible apply mem_drewN))); done)); (focus ((repeat' (first | (with_reducible exact hB) | (with_reducible exact Below.refl _ _) | (with_reducible refine Below.alloc ?_ ?_ _) | (with_reducible refine Below.setCell ?_ ?_ _) | (with_reducible refine Below.drew ?_) | (with_reducible refine below_drewN ?_ _) | (with_reducible exact Nat.le_refl _) | (with_reducible exact hB.size) | (simp [go_sem]; done) | (have := hB.size; simp [go_sem]; omega))); done)); (focus ((repeat' (first | (with_reducible exact hB) | (with_reducible exact Below.refl _ _) | (with_reducible refine Below.alloc ?_ ?_ _) | (with_reducible refine Below.setCell ?_ ?_ _) | (with_reducible refine Below.drew ?_) | (with_reducible refine below_drewN ?_ _) | (with_reducible exact Nat.le_refl _) | (with_reducible exact hB.size) | (simp [go_sem]; done) | (have := hB.size; simp [go_sem]; omega))); done)); clear hM hB hb; intro hM hB; (try clear hC); have hC := mem_facts hM; simp at hC))
            go_roundg (zs.length - (k + 1))
            case measure => omega
            case rel => exact ⟨k + 1, T, by omega, by rw [hk]; rfl, by rw [HT], fun _ => hT, HX.out hT, fun _ => HL.out, by (repeat' (first | (with_reducible exact hB) | (with_reducible exact Below.refl _ _) | (with_reducible refine Below.alloc ?_ ?_ _) | (with_reducible refine Below.setCell ?_ ?_ _) | (with_reducible refine Below.drew ?_) | (with_reducible refine below_drewN ?_ _) | (with_reducible exact Nat.le_refl _) | (with_reducible exact hB.size) | (simp [go_sem]; done) | (have := hB.size; simp [go_sem]; omega)))⟩
          · have hT0 := HT0.out (by omega)
            have hk1 : ((k : Int) = 0) = False := by simp; omega
            by_cases he : T = t0
            · have heq : (T = t0) = True := by simp [he]
              go_wp2_with (first | (go_at_call 25; refine (HL3.out _).mono ?_; rintro e w' ⟨rfl, hb⟩; apply after_call (w := w) hb; (focus ((repeat' (first | (with_reducible exact hM) | (with_reducible apply mem_alloc) | (with_reducible apply mem_set) | (with_reducible apply mem_drew) | (with_reducible apply mem_drewN))); done)); (focus ((repeat' (first | (with_reducible exact hB) | (with_reducible exact Below.refl _ _) | (with_reducible refine Below.alloc ?_ ?_ _) | (with_reducible refine Below.setCell ?_ ?_ _) | (with_reducible refine Below.drew ?_) | (with_reducible refine below_drewN ?_ _) | (with_reducible exact Nat.le_refl _) | (with_reducible exact hB.size) | (simp [go_sem]; done) | (have := hB.size; simp [go_sem]; omega))); done)); (focus ((repeat' (first | (with_reducible exact hB) | (with_reducible exact Below.refl _ _) | (with_reducible refine Below.alloc ?_ ?_ _) | (with_reducible refine Below.setCell ?_ ?_ _) | (with_reducible refine Below.drew ?_) | (with_reducible refine below_drewN ?_ _) | (with_reducible exact Nat.le_refl _) | (with_reducible exact hB.size) | (simp [go_sem]; done) | (have := hB.size; simp [go_sem]; omega))); done)); clear hM hB hb; intro hM hB; (try clear hC); have hC := mem_facts hM; simp at hC))
              go_roundg (zs.length - (k + 1))
              case measure => omega
              case rel => exact ⟨k + 1, rtr zs, by omega, by go_num, by first | rfl | rw [hT0], fun _ => rfl, HX.out (he.trans hT0), fun _ => HL.out, by (repeat' (first | (with_reducible exact hB) | (with_reducible exact Below.refl _ _) | (with_reducible refine Below.alloc ?_ ?_ _) | (with_reducible refine Below.setCell ?_ ?_ _) | (with_reducible refine Below.drew ?_) | (with_reducible refine below_drewN ?_ _) | (with_reducible exact Nat.le_refl _) | (with_reducible exact hB.size) | (simp [go_sem]; done) | (have := hB.size; simp [go_sem]; omega)))⟩
            · have HE := Lib.hid (rnB_no3 hlt (by rw [HG2.out, ← hT0]; simpa using he))
              have hne : (wrap64 (a1 + d1) = t0) = False := by simp; rw [HT]; exact he
              go_wp2_with (first | (go_at_call 25; refine (HL3.out _).mono ?_; rintro e w' ⟨rfl, hb⟩; apply after_call (w := w) hb; (focus ((repeat' (first | (with_reducible exact hM) | (with_reducible apply mem_alloc) | (with_reducible apply mem_set) | (with_reducible apply mem_drew) | (with_reducible apply mem_drewN))); done)); (focus ((repeat' (first | (with_reducible exact hB) | (with_reducible exact Below.refl _ _) | (with_reducible refine Below.alloc ?_ ?_ _) | (with_reducible refine Below.setCell ?_ ?_ _) | (with_reducible refine Below.drew ?_) | (with_reducible refine below_drewN ?_ _) | (with_reducible exact Nat.le_refl _) | (with_reducible exact hB.size) | (simp [go_sem]; done) | (have := hB.size; simp [go_sem]; omega))); done)); (focus ((repeat' (first | (with_reducible exact hB) | (with_reducible exact Below.refl _ _) | (with_reducible refine Below.alloc ?_ ?_ _) | (with_reducible refine Below.setCell ?_ ?_ _) | (with_reducible refine Below.drew ?_) | (with_reducible refine below_drewN ?_ _) | (with_reducible exact Nat.le_refl _) | (with_reducible exact hB.size) | (simp [go_sem]; done) | (have := hB.size; simp [go_sem]; omega))); done)); clear hM hB hb; intro hM hB; (try clear hC); have hC := mem_facts hM; simp at hC))
              go_ret
              exact ⟨by rw [HE.out]; rfl, by (repeat' (first | (with_reducible exact hB) | (with_reducible exact Below.refl _ _) | (with_reducible refine Below.alloc ?_ ?_ _) | (with_reducible refine Below.setCell ?_ ?_ _) | (with_reducible refine Below.drew ?_) | (with_reducible refine below_drewN ?_ _) | (with_reducible exact Nat.le_refl _) | (with_reducible exact hB.size) | (simp [go_sem]; done) | (have := hB.size; simp [go_sem]; omega)))⟩
    · obtain rfl : k = zs.length := by omega
      have HE := Lib.hid (rnB_end HG.out)
      go_wp2_with (first | (go_at_call 21; refine (l3List_ _ zs hz _ (hv0.below (by (repeat' (first | (with_reducible exact hB) | (with_reducible exact Below.refl _ _) | (with_reducible refine Below.alloc ?_ ?_ _) | (with_reducible refine Below.setCell ?_ ?_ _) | (with_reducible refine Below.drew ?_) | (with_reducible refine below_drewN ?_ _) | (with_reducible exact Nat.le_refl _) | (with_reducible exact hB.size) | (simp [go_sem]; done) | (have := hB.size; simp [go_sem]; omega)))))).mono ?_; rintro e w' ⟨rfl, rfl⟩))
      go_ret
      exact ⟨by rw [← HE.out]; rfl, by (repeat' (first | (with_reducible exact hB) | (with_reducible exact Below.refl _ _) | (with_reducible refine Below.alloc ?_ ?_ _) | (with_reducible refine Below.setCell ?_ ?_ _) | (with_reducible refine Below.drew ?_) | (with_reducible refine below_drewN ?_ _) | (with_reducible exact Nat.le_refl _) | (with_reducible exact hB.size) | (simp [go_sem]; done) | (have := hB.size; simp [go_sem]; omega)))⟩
end Go.Proofs.YtjeplhmfcofgiaaDoor
