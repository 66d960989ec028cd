
/- Lists of pairs that are drawn. -/
import Derived.Test.YtnbbgfcnbgjahaaDrawP
import Derived.Test.YtnbbgfcnbgjahaaPrL
import Derived.Deep.DeepCutAuto
namespace Go.Proofs.Ytnbbgfcnbgjahaa
open Go.RowKit

theorem row_since2 {R base : Nat} {W W' : World} {e : TypeId} {v : Value} {n : Nat} {xs : List Value} (h : W.ownsRow base e 2 v n xs) (hs : Since R W W') (hR : R < base) : W'.ownsRow base e 2 v n xs := by
  refine ⟨h.1, ?_⟩
  rcases h.2 with h2 | ⟨g, cap, cur, hv, hb, hg, h3⟩
  · exact .inl h2
  · exact .inr ⟨g, cap, cur, hv, hb, (hs.block g (mem_lt hg) (by intro e; injection e; omega)).trans hg, h3⟩
theorem inv_app2 {R B q : Nat} {w W w1 : World} {e : TypeId} {v : Value} {n : Nat} {xs : List Value} (h : Inv R B q w W []) (hr : W.ownsRow (R + 1) e 2 v n xs) (hg : W.grownBy w1 v.ownBlock) (hw : w.heap.size ≤ R) : Inv R B q w w1 [] := by
  obtain ⟨_, _, h3, h4, h5, h6⟩ := h
  have hl := h4.lt
  have hv : ∀ j, v.ownBlock = some j → R + 1 ≤ j := by
    intro j ej
    rcases hr.2 with ⟨rfl, _⟩ | ⟨g, cap, cur, rfl, hgb, _, _⟩
    · simp [Value.ownBlock] at ej
    · obtain rfl : g = j := by simpa [Value.ownBlock] using ej
      omega
  have hbl : ∀ k, k ≤ R → w1.heap[k]? = W.heap[k]? := fun k hk => hg.block k (by omega) (fun e => by have := hv k e.symm; omega)
  exact ⟨mem_nil _, (fun p hp => by cases hp), ⟨hg.os.trans h3.os, hg.tape.trans h3.tape, hg.output.trans h3.output, Nat.le_trans h3.size hg.size, fun i hi hne => (hbl i (by omega)).trans (h3.block i hi hne)⟩, h4.keep hbl, Nat.le_trans h5 hg.size, h6⟩
theorem use_rdS2 {P : Program} {f : FuncId} {args : Array Value} {w W : World} {R B q q' K : Nat} {L : List (Nat × Array Value × TypeId)} {Good : Value → Prop} {Q : Ending → World → Prop}
    (hc : B ≤ W.heap.size → Rdr W R B q → q ≤ K → Calls P f args W (DPost Good R B q' W)) (hI : Inv R B q w W L) (hq : q ≤ K) (h : ∀ v w', Good v → Since R W w' → Inv R B q' w w' L → Q (.returned v) w') : Calls P f args W Q := by
  obtain ⟨h1, h2, h3, h4, h5, h6⟩ := hI
  refine (hc (Nat.le_trans h6 h5) h4 hq).mono ?_
  rintro e w' ⟨v, rfl, hg, hr, hs⟩
  exact h v w' hg hs ⟨mem_since hs h1 (fun p hp => (h2 p hp).2), h2, h3.trans hs, hr, Nat.le_trans h5 hs.size, h6⟩
theorem inv_dropL2 {R B q : Nat} {w W : World} {L : List (Nat × Array Value × TypeId)} (h : Inv R B q w W L) : Inv R B q w W [] := ⟨mem_nil _, (fun p hp => by cases hp), h.2.2⟩
theorem quo24p {y : Int} (h0 : 0 ≤ y) (h1 : y < 24) : 0 ≤ y.tdiv 23 ∧ y.tdiv 23 ≤ 1 := by
  rw [Int.tdiv_eq_ediv_of_nonneg h0]; omega
/-- how many pairs are drawn -/
def CutN (R B : Nat) (w : World) (v s5 : Value) (wx : World) : Prop := ∃ n : Nat, (2 ≤ n ∧ n ≤ 12) ∧ s5 = .int .i64 n ∧ wx.ownsRow (R + 1) 24 2 v 0 [] ∧ Inv R B 2 w wx []
theorem cutN_of {R B q : Nat} {w wx : World} {v : Value} {E : Int} (h : 2 ≤ E ∧ E ≤ 14) (h12 : E ≤ 12) (hS : wx.ownsRow (R + 1) 24 2 v 0 []) (hI : Inv R B q w wx []) (hq : q ≤ 2) : CutN R B w v (.int .i64 E) wx :=
  ⟨E.toNat, ⟨by omega, by omega⟩, by rw [Int.toNat_of_nonneg (by omega)], hS, inv_mono hI hq⟩
/-- at the head of a round -/
def ArD (R : Nat) (w : World) (n g : Nat) (v i : Value) (wr : World) : Prop := ∃ acc : List Pr2, acc.length + g = n ∧ i = .int .i64 acc.length ∧ wr.ownsRow (R + 1) 24 2 v acc.length (cs2 acc) ∧ Inv R w.heap.size (2 + 10 * acc.length) w wr []
/-- what a draw of a list of pairs leaves -/
def PlPost (w : World) (e : Ending) (w' : World) : Prop := ∃ (g cap : Nat) (ps : List Pr2) (cur : Array Value), e = .returned (.slice (some ⟨g, 0, none⟩) ps.length cap) ∧ w'.heap[g]? = some (.cells cur 24 (0, 0)) ∧ w.heap.size ≤ g ∧
  (∀ W' : World, W'.heap[g]? = some (.cells cur 24 (0, 0)) → ReadsP W' (.slice (some ⟨g, 0, none⟩) ps.length cap) ps) ∧ (2 ≤ ps.length ∧ ps.length ≤ 12) ∧ Below w.heap.size w w'
theorem plpost_of {R q : Nat} {w W : World} {v : Value} {ps : List Pr2} (hS : W.ownsRow (R + 1) 24 2 v ps.length (cs2 ps)) (hI : Inv R w.heap.size q w W []) (hw : w.heap.size ≤ R) (hl : 2 ≤ ps.length ∧ ps.length ≤ 12) : PlPost w (.returned v) W := by
  obtain ⟨g, cap, rfl, h1, h2⟩ := hS.form (by omega)
  obtain ⟨cur, h3, h4, h5⟩ := row_cur2 hS
  exact ⟨g, cap, ps, cur, rfl, h3, by omega, fun W' hW => row_reads2 (h5 W' hW) rfl, hl, hI.2.2.1.below hw⟩
theorem ard_next {R n g : Nat} {w wr : World} {v : Value} {acc : List Pr2} {p : Pr2} (hS : wr.ownsRow (R + 1) 24 2 v (acc.length + 1) (cs2 acc ++ [.int .i64 p.x, .int .i64 p.y])) (hI : Inv R w.heap.size (2 + 10 * acc.length + 10) w wr []) (hg : acc.length + 1 + g = n) :
    ArD R w n g v (.int .i64 (acc.length + 1)) wr :=
  ⟨acc ++ [p], by simp; omega, by simp, by rw [List.length_append, cs2_append]; exact hS, inv_mono hI (by simp; omega)⟩
set_option maxHeartbeats 4000000 in
theorem DrawShortArea_ (A : Option Addr) (len cap : Nat) (zs : List Int) (w : World) (hRow : RowB .u8 w w.heap.size A len cap zs) : Calls Try.prog 22 #[.slice A len cap] w (PlPost w) := by
  obtain ⟨i0, hi, hz0, hz1, hz2⟩ := info_parts2 infoPair
  have hM := mem_nil w; have hB := Below.refl w.heap.size w; have hC := True.intro
  go_enter Try.func22, Try.ntmps22
  go_upto_region 3 with (go_at_call 26; apply use_open (w := w) hRow; (focus ((repeat' (first | (with_reducible exact hM) | (with_reducible apply mem_alloc) | (with_reducible apply mem_set) | (with_reducible apply mem_drew) | (with_reducible apply mem_drewN))); done)); (focus ((repeat' (first | (with_reducible exact hB) | (with_reducible exact Below.refl _ _) | (with_reducible refine Below.alloc ?_ ?_ _) | (with_reducible refine Below.setCell ?_ ?_ _) | (with_reducible refine Below.drew ?_) | (with_reducible refine below_drewN ?_ _) | (with_reducible exact Nat.le_refl _) | (with_reducible exact hB.size) | (simp [go_sem]; done) | (have := hB.size; simp [go_sem]; omega))); done)); (focus ((repeat' (first | (with_reducible exact hB) | (with_reducible exact Below.refl _ _) | (with_reducible refine Below.alloc ?_ ?_ _) | (with_reducible refine Below.setCell ?_ ?_ _) | (with_reducible refine Below.drew ?_) | (with_reducible refine below_drewN ?_ _) | (with_reducible exact Nat.le_refl _) | (with_reducible exact hB.size) | (simp [go_sem]; done) | (have := hB.size; simp [go_sem]; omega))); done)); (focus (first | (simp; done) | (simp <;> omega))); rintro R w' hI hRge; clear hM hB; (try simp at hI); (try clear hC); have hC := mem_facts hI.1; simp at hC)
  have hRl := hI.2.2.2.1.lt
  have hS : (w'.alloc (.cells #[] 24)).ownsRow (R + 1) 24 2 (.slice (some ⟨w'.heap.size, 0, none⟩) 0 0) 0 [] := row_mt2 (heap_alloc_new w' _) (by omega)
  replace hI := inv_dropL2 (inv_alloc hI #[] 24)
  obtain ⟨w2, hw2⟩ : ∃ w2 : World, w2 = w'.alloc (.cells #[] 24) := ⟨_, rfl⟩
  rw [← hw2] at hS hI ⊢
  clear hw2
  go_cut [5] (fun s5 wx => CutN R w.heap.size w (.slice (some ⟨w'.heap.size, 0, none⟩) 0 0) s5 wx)
  case first =>
    go_wp2_with (go_at_call 31; apply use_rdS2 (w := w) (R := R) (fun hb hr hq => pickD _ _ _ _ _ hb hr hq); (focus ((repeat' (first | (with_reducible exact hI) | (with_reducible apply inv_alloc) | (with_reducible apply inv_drew) | (with_reducible apply inv_drewN) | (with_reducible apply inv_set) | (simp only [setL_map]; simp; done) | (simp; done))); done)); (focus omega); rintro v' w' ⟨x, rfl, hx0, hx1, _⟩ hsi; clear hI; intro hI; replace hx1 := hx1 (by decide); (try have hxq := quo24p hx0 hx1); replace hS := row_since2 hS hsi (by omega); clear hsi)
    go_meet
    exact cutN_of (by omega) (by omega) hS hI (by omega)
  case rest =>
  obtain ⟨n, hn, rfl, hS, hI⟩ := hcut
  go_wp2_with fail
  go_loopg [4, 6] n (fun gk v i wr => ArD R w n gk v i wr)
  case atStart => exact ⟨[], by simp, rfl, hS, hI⟩
  case round =>
    obtain ⟨acc, hkg, rfl, hR, hI'⟩ := hrel
    clear hI hS
    have hI := hI'
    clear hI'
    obtain ⟨ao, cap, rfl⟩ := row_form2 hR
    have hRs := hI.2.2.2.1.lt
    by_cases hlt : acc.length < n
    · have hlt2 : (acc.length : Int) < (n : Int) := by omega
      go_wp2_with (first | (go_at_call 25; apply use_rdS2 (w := w) (R := R) (fun hb hr hq => l92Pair_ _ _ _ _ hb hr hq); (focus ((repeat' (first | (with_reducible exact hI) | (with_reducible apply inv_alloc) | (with_reducible apply inv_drew) | (with_reducible apply inv_drewN) | (with_reducible apply inv_set) | (simp only [setL_map]; simp; done) | (simp; done))); done)); (focus omega); rintro v' w' ⟨x, y, rfl, hx, hy⟩ hsi; clear hI; intro hI; replace hR := row_since2 hR hsi (by omega); have hRs2 := hI.2.2.2.1.lt; clear hsi) | (at_builtin; refine wpList_append_own _ rfl _ _ 39 rfl (R + 1) 24 i0 (.agg #[.int .i64 0, .int .i64 0]) 2 16 Try.underlying39 hi hz0 hz1 hz2 rfl (by decide) _ _ _ rfl (hR.alloc _) ⟨_, 0, none⟩ 1 1 [.int .i64 x, .int .i64 y] rfl rfl (cell_two_new _ _ _ _) (by simp [Value.oneCell']) (by unfold maxLen; omega) (by omega) (by simp; omega) ?_; intro v' w1 hown' hgrow hnn; clear hnn; replace hI := inv_app2 (inv_dropL2 (inv_alloc hI _ _)) (hR.alloc _) hgrow hRge; clear hgrow hR; have hR := hown'; clear hown'))
      go_roundg (n - (acc.length + 1))
      case measure => omega
      case rel => exact ard_next (p := ⟨x, y⟩) hR hI (by omega)
    · have hge : ((acc.length : Int) < (n : Int)) = False := by simp; omega
      have HL := Lib.hid (show acc.length = n by omega)
      clear hlt hkg
      go_wp2_with fail
      go_ret
      exact plpost_of hR hI hRge (by have := HL.out; omega)
end Go.Proofs.Ytnbbgfcnbgjahaa
