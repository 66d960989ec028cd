
/- The program's runs of a word: plain, and walked. -/
import Derived.Test.YtmcpchockjcjhaaRow
import Derived.Test.YtmcpchockjcjhaaImplW
import Derived.Deep.Onto
namespace Go.Proofs.Ytmcpchockjcjhaa
open Go.RowKit Go.Shelf
attribute [local go_sem] Oper.semAt_some

structure RS where
  ini : List Int
  cur : Int
  last : UInt8
def rstep (r : RS) (c : UInt8) : RS := if c = r.last then ⟨r.ini, r.cur + 1, r.last⟩ else ⟨r.ini ++ [r.cur], 1, c⟩
def rfold (l : List UInt8) : RS := l.foldl rstep ⟨[], 0, 82⟩
theorem rfold_snoc (l : List UInt8) (c : UInt8) : rfold (l ++ [c]) = rstep (rfold l) c := by simp [rfold]
def rl (r : RS) : List Int := r.ini ++ [r.cur]
/-- the runs of a word -/
def runs (l : List UInt8) : List Int := if l = [] then [] else rl (rfold l)
theorem rfold_bd : ∀ (l : List UInt8) (r : RS) (n : Nat), 0 ≤ r.cur → r.cur ≤ n → r.ini.length ≤ n → 0 ≤ (l.foldl rstep r).cur ∧ (l.foldl rstep r).cur ≤ (n + l.length : Nat) ∧ (l.foldl rstep r).ini.length ≤ n + l.length
  | [], r, n, h0, h1, h2 => ⟨h0, by simpa using h1, by simpa using h2⟩
  | c :: l, r, n, h0, h1, h2 => by
    rw [List.foldl_cons]
    have : 0 ≤ (rstep r c).cur ∧ (rstep r c).cur ≤ (n + 1 : Nat) ∧ (rstep r c).ini.length ≤ n + 1 := by
      unfold rstep
      by_cases e : c = r.last <;> simp [e] <;> omega
    have ih := rfold_bd l (rstep r c) (n + 1) this.1 this.2.1 this.2.2
    simp only [List.length_cons]
    omega
theorem rfold_le (l : List UInt8) : 0 ≤ (rfold l).cur ∧ (rfold l).cur ≤ (l.length : Int) ∧ (rfold l).ini.length ≤ l.length := by
  have := rfold_bd l ⟨[], 0, 82⟩ 0 (Int.le_refl _) (Int.le_refl _) (Nat.le_refl _)
  simpa [rfold] using this
theorem infoI64 : (Try.prog.info? 3).map (fun i => (i.zero, i.size, i.bytes)) = some (some (.int .i64 0), 1, 8) := by kernel_rfl
/-- a slice of whole numbers of the call's own -/
def IntRow (base : Nat) (W : World) (v : Value) (zs : List Int) : Prop := W.ownsRow base 3 1 v (zs.map (Value.int .i64)).length (zs.map (Value.int .i64))
def RunsPost (w : World) (zs : List Int) (e : Ending) (W' : World) : Prop := ∃ v, e = .returned v ∧ IntRow w.heap.size W' v zs ∧ Below w.heap.size w W'

set_option maxRecDepth 100000 in
set_option maxHeartbeats 4000000 in
theorem runs_ (s : ByteArray) (hs : s.size ≤ 1000000) (w : World) : Calls Try.prog 42 #[.string s] w (RunsPost w (runs s.data.toList)) := by
  obtain ⟨i0, hi, hz0, hz1, hz2⟩ := info_parts infoI64
  by_cases h0 : s.data.toList = []
  · refine (callsIn_wide (n := 6)).1 ?_
    refine callsIn_of_wp_marks Try.func42 rfl trivial ?_ rfl
    simp only [Try.ntmps42, List.size_toArray, List.length_cons, List.length_nil, Nat.reduceAdd, Nat.reduceSub, Array.replicate_succ, Array.replicate_zero, List.push_toArray, List.append_toArray, List.nil_append, List.cons_append]
    obtain rfl : s = ⟨#[]⟩ := by cases s; simp_all
    gi_wp2
    exact ⟨_, results_tmp rfl _ _ _, .slice none 0 0, rfl, by simp [IntRow, runs, World.ownsRow_nil], Below.refl _ _⟩
  · refine (callsIn_wide (n := 6)).1 ?_
    refine callsIn_of_wp_marks Try.func42 rfl trivial ?_ rfl
    simp only [Try.ntmps42, List.size_toArray, List.length_cons, List.length_nil, Nat.reduceAdd, Nat.reduceSub, Array.replicate_succ, Array.replicate_zero, List.push_toArray, List.append_toArray, List.nil_append, List.cons_append]
    have he : s.toList.isEmpty = false := by
      rw [ByteArray.toList_eq]; simpa using h0
    have HN := Lib.hid h0
    clear h0
    have hM := mem_nil w; have hB := Below.refl w.heap.size w; have hC := True.intro
    gi_wp2_with (refine ⟨trivial, ?_⟩; gi_at_call 52; refine (callsIn_wide.2 (letters_ _ _)).mono ?_; rintro e w' ⟨rfl, rfl⟩)
    refine wpIn_rangeFunc_ownF rfl (by omega) (gf := 66) (lb := #[.pointer (some ⟨w.heap.size + 1 + 1 + 1, 0, none⟩)]) rfl trivial (enters_of Try.func66 (by kernel_rfl) rfl)
      (letters_stops Fence.wide 5 trivial rfl (by omega) (w.heap.size + 1 + 1 + 1) s (by omega) _ (by simp) ?cell) kc_t (kc_b (by simp)) (Below.refl _ _) (fun _ => rfl)
      (fun pre W => pre.length ≤ s.size ∧ MR w 3 (fun pre v => [(w.heap.size + 1 + 1 + 1, #[.string s], 45), (w.heap.size + 1 + 1, #[.int .u8 ((rfold pre).last.toNat : Int)], 64), (w.heap.size + 1, #[v], 31)]) (fun pre => (rl (rfold pre)).map (Value.int .i64)) pre W)
      (fun _ _ _ => False)
      (OwnFrom.and (ownFrom_pure _ _) (mr_own (by simp; omega) _ _ _)) (fun _ _ _ _ _ hs _ _ => hs) ?start
      (fun x => { tmps := #[.string s, undef, .slice none 0 0, .pointer (some ⟨w.heap.size + 1, 0, none⟩), .pointer (some ⟨w.heap.size + 1 + 1, 0, none⟩), .int .u8 (x.toNat : Int), .string s, .bool false, .slice (some ⟨w.heap.size, 0, none⟩) 1 1, .string s, .func (.func 66) #[] #[.pointer (some ⟨w.heap.size + 1 + 1 + 1, 0, none⟩)], .int .u8 (x.toNat : Int), undef, undef, undef, undef, undef, undef, undef, undef, undef, undef, undef, undef, undef, undef, undef, undef], defers := [] }) ?assign ?body ?done ?stop
    case cell => simp [go_sem]
    case start =>
      refine ⟨by simp, .slice (some ⟨w.heap.size, 0, none⟩) 1 1, ?_, ?_, by (repeat' (first | (with_reducible exact hB) | (with_reducible exact Below.refl _ _) | (with_reducible refine Below.alloc ?_ ?_ _) | (with_reducible refine Below.setCell ?_ ?_ _) | (with_reducible refine Below.drew ?_) | (with_reducible refine below_drewN ?_ _) | (with_reducible exact Nat.le_refl _) | (with_reducible exact hB.size) | (simp [go_sem]; done) | (have := hB.size; simp [go_sem]; omega)))⟩
      · apply mem_drop 0
        · apply mem_alloc
          apply mem_alloc
          apply mem_alloc
          exact mem_alloc0 (mem_nil w) _
        · simp [rfold]
      · exact (((World.ownsRow_lit w #[.int .i64 0] 1 (Nat.le_refl _) (by decide) rfl).alloc _).alloc _).alloc _
    case assign =>
      intro l x W K hK
      simp only [encL]
      gi_wp2
      exact hK
    case body =>
      rintro l pre x W ⟨hlen, v, hM', hR, hB'⟩ hlt
      have hbd := rfold_le pre
      have HF := Lib.hid (rfold_snoc pre x)
      cases hr : rfold pre with | mk ini cur last => ?_
      dsimp only at hM' hR
      rw [hr] at hM' hR hbd
      have HE := Lib.hid hr
      clear hr
      dsimp only at hbd hM'
      replace hR : W.ownsRow w.heap.size 3 1 v (ini.length + 1) (ini.map (Value.int .i64) ++ [.int .i64 cur]) := by simpa [rl] using hR
      obtain ⟨g, cap, rfl⟩ := ownsRow_succ hR
      (try clear hC); clear hM hB; have hM := hM'; have hB := hB'; clear hM' hB'; have hC := mem_facts hM; simp at hC
      have hK := KeepsOthers.refl W
      have hM0 := Lib.hid hM
      have hge : w.heap.size ≤ g := (hR.lt g rfl).1
      have hb0 := hbd.1
      have hb1 : cur ≤ 1000000 := by omega
      have hb2 : ini.length ≤ 1000000 := by omega
      have hcell : W.cell? ⟨g, ini.length, none⟩ = some (.int .i64 cur) := by rw [hR.cellAt _ (by omega)]; simp
      have hfro : W.frozen? ⟨g, ini.length, none⟩ = false := hR.frozenAt _
      by_cases e : x = last
      · have e1 : ((x.toNat : Int) == (last.toNat : Int)) = true := by rw [e]; simp
        have e2 : ((x.toNat : Int) != (last.toNat : Int)) = false := by rw [e]; simp
        have HX := Lib.hid e
        clear e
        have hst := hR.stored ini.length (.int .i64 (cur + 1))
        have hM2 := mem_grown' hM hst.2 (row_ne hM hR (by simp))
        have hR2 := hst.1
        rw [show (ini.map (Value.int .i64) ++ [Value.int .i64 cur]).set ini.length (Value.int .i64 (cur + 1)) = ini.map (Value.int .i64) ++ [Value.int .i64 (cur + 1)] from by
          rw [List.set_append_right _ _ (by simp)]; simp] at hR2
        have HR2 := Lib.hid hR2
        have HM2 := Lib.hid hM2
        clear hst hM2 hR2
        gi_wp2
        have hF : rfold (pre ++ [x]) = ⟨ini, cur + 1, last⟩ := by rw [HF.out, HE.out, rstep, if_pos HX.out]
        refine ⟨(by repeat' (first | (with_reducible exact hK) | (with_reducible exact KeepsOthers.refl _) | (with_reducible apply keeps_alloc) | (with_reducible apply keeps_set) | (with_reducible apply keeps_drew) | (with_reducible apply keeps_drewN))), kc_mem hM0.out HM2.out List.mem_cons_self List.mem_cons_self, ⟨by simp; omega, .slice (some ⟨g, 0, none⟩) (ini.length + 1) cap, ?_, ?_, by (repeat' (first | (with_reducible exact hB) | (with_reducible exact Below.refl _ _) | (with_reducible refine Below.alloc ?_ ?_ _) | (with_reducible refine Below.setCell ?_ ?_ _) | (with_reducible refine Below.drew ?_) | (with_reducible refine below_drewN ?_ _) | (with_reducible exact Nat.le_refl _) | (with_reducible exact hB.size) | (simp [go_sem]; done) | (have := hB.size; simp [go_sem]; omega)))⟩⟩
        · dsimp only; rw [hF]; exact HM2.out
        · dsimp only
          rw [hF]
          simpa [rl] using HR2.out
      · have e0 : x.toNat ≠ last.toNat := fun h => e (UInt8.toNat_inj.1 h)
        have e1 : ((x.toNat : Int) == (last.toNat : Int)) = false := by simp; omega
        have e2 : ((x.toNat : Int) != (last.toNat : Int)) = true := by simp; omega
        have HX := Lib.hid e
        clear e e0 hcell hfro
        gi_wp2_with (((gi_at_builtin; refine wpListIn_append_own _ rfl _ _ 31 rfl w.heap.size 3 i0 (.int .i64 0) 1 8 Try.underlying31 hi hz0 hz1 hz2 rfl (by decide) _ _ _ rfl (hR.alloc _) ⟨_, 0, none⟩ 1 1 [.int .i64 0] rfl rfl (cell_one_new _ _ _) (by simp [Value.oneCell']) (by simp [maxLen]; omega) (by first | omega | (simp; omega)) (by have := hB.size; simp; omega) ?_; intro v' w1 hown' hgrow _; obtain ⟨g', cap', rfl⟩ := ownsRow_succ hown'; apply after_app (w := w) (A := W) hgrow (hR.alloc _) (mem_alloc0 hM _) (by simp) (hB.alloc hB.size _) (by have := hB.size; simp; omega) (keeps_alloc hK _); clear hM hB hK hgrow hR; intro hM hB hK; have hR := hown'; clear hown'; (try clear hC); have hC := mem_facts hM; simp at hC)); have hc2 : w1.cell? ⟨g', ini.length + 1, none⟩ = some (.int .i64 0) := (by rw [hR.cellAt _ (by omega)]; simp); have hf2 : w1.frozen? ⟨g', ini.length + 1, none⟩ = false := hR.frozenAt _; have hge2 : w.heap.size ≤ g' := (hR.lt g' rfl).1; have n1 : (w.heap.size + 1 = g') = False := (by have := row_ne hM hR (by simp) (w.heap.size + 1, _, _) (List.mem_cons_of_mem _ (List.mem_cons_of_mem _ List.mem_cons_self)); simp [Value.ownBlock] at this ⊢; omega); have n2 : (w.heap.size + 1 + 1 = g') = False := (by have := row_ne hM hR (by simp) (w.heap.size + 1 + 1, _, _) (List.mem_cons_of_mem _ List.mem_cons_self); simp [Value.ownBlock] at this ⊢; omega); have n3 : (w.heap.size + 1 + 1 + 1 = g') = False := (by have := row_ne hM hR (by simp) (w.heap.size + 1 + 1 + 1, _, _) List.mem_cons_self; simp [Value.ownBlock] at this ⊢; omega))
        have hF : rfold (pre ++ [x]) = ⟨ini ++ [cur], 1, x⟩ := by rw [HF.out, HE.out, rstep, if_neg HX.out]
        have hne : (Value.slice (some ⟨g', 0, none⟩) (ini.length + 1 + 1) cap').ownBlock = some g' := rfl
        have hM2 : Mem ((w1.setCell ⟨w.heap.size + 1, 0, none⟩ (.slice (some ⟨g', 0, none⟩) (ini.length + 1 + 1) cap')).setCell ⟨w.heap.size + 1 + 1, 0, none⟩ (.int .u8 (x.toNat : Int)))
            [(w.heap.size + 1 + 1 + 1, #[.string s], 45), (w.heap.size + 1 + 1, #[.int .u8 (x.toNat : Int)], 64), (w.heap.size + 1, #[.slice (some ⟨g', 0, none⟩) (ini.length + 1 + 1) cap'], 31)] := by
          apply mem_drop 0
          · (repeat' (first | (with_reducible exact hM) | (with_reducible apply mem_alloc) | (with_reducible apply mem_set) | (with_reducible apply mem_drew) | (with_reducible apply mem_drewN)))
          · simp [show (w.heap.size + 1 + 1 = w.heap.size) = False from by simp; omega] <;> omega
        have hR2 := (hR.kept (grownBy_setCell' w1 (w.heap.size + 1) (.slice (some ⟨g', 0, none⟩) (ini.length + 1 + 1) cap')) (.inr (by rw [hne]; intro e; injection e with e; rw [← e] at n1; simp at n1))).kept
          (grownBy_setCell' (w1.setCell ⟨w.heap.size + 1, 0, none⟩ (.slice (some ⟨g', 0, none⟩) (ini.length + 1 + 1) cap')) (w.heap.size + 1 + 1) (.int .u8 (x.toNat : Int))) (.inr (by rw [hne]; intro e; injection e with e; rw [← e] at n2; simp at n2))
        have hst := hR2.stored (ini.length + 1) (.int .i64 1)
        have hM3 := mem_grown' hM2 hst.2 (row_ne hM2 hR2 (by simp))
        refine ⟨(by repeat' (first | (with_reducible exact hK) | (with_reducible exact KeepsOthers.refl _) | (with_reducible apply keeps_alloc) | (with_reducible apply keeps_set) | (with_reducible apply keeps_drew) | (with_reducible apply keeps_drewN))), kc_mem hM0.out hM3 List.mem_cons_self List.mem_cons_self, ⟨by simp; omega, .slice (some ⟨g', 0, none⟩) (ini.length + 1 + 1) cap', ?_, ?_, by (repeat' (first | (with_reducible exact hB) | (with_reducible exact Below.refl _ _) | (with_reducible refine Below.alloc ?_ ?_ _) | (with_reducible refine Below.setCell ?_ ?_ _) | (with_reducible refine Below.drew ?_) | (with_reducible refine below_drewN ?_ _) | (with_reducible exact Nat.le_refl _) | (with_reducible exact hB.size) | (simp [go_sem]; done) | (have := hB.size; simp [go_sem]; omega)))⟩⟩
        · dsimp only; rw [hF]; exact hM3
        · dsimp only
          rw [hF]
          have h3 := hst.1
          rw [show (ini.map (Value.int .i64) ++ [Value.int .i64 cur] ++ [Value.int .i64 0]).set (ini.length + 1) (Value.int .i64 1) = ini.map (Value.int .i64) ++ [Value.int .i64 cur] ++ [Value.int .i64 1] from by
            rw [List.set_append_right _ _ (by simp)]; simp] at h3
          simpa [rl] using h3
    case done =>
      rintro D ys W hD rfl ⟨hlen, v, hM', hR, hB'⟩ hd
      (try clear hC); clear hM hB; have hM := hM'; have hB := hB'; clear hM' hB'; have hC := mem_facts hM; simp at hC
      have hr2 : runs s.data.toList = rl (rfold s.data.toList) := by rw [runs, if_neg HN.out]
      gi_wp2
      refine ⟨by simp, .inl ⟨_, _, rfl, run_takeDeferred hd, ?_⟩⟩
      refine ⟨_, results_tmp rfl _ _ _, v, rfl, ?_, hB.trans (belowK_b (w := w) (Nat.le_refl _) W D _ _ (by simp at hD; omega) hd rfl rfl)⟩
      first | rw [hr2] | skip
      exact ownsRow_putObj hR _ hd rfl
    case stop =>
      rintro D c pre W hD hpre h hd
      exact h.elim

/-- what the program's 'WordRuns' leaves -/
def RunsOk (w : World) (zs : List Int) (ok : Bool) (e : Ending) (W' : World) : Prop := ∃ v, e = .returned (.tuple #[v, .bool ok]) ∧ IntRow w.heap.size W' v zs ∧ Below w.heap.size w W'
def wrs (l : List UInt8) : List Int × Bool := if wdL l then (runs l, true) else ([], false)
set_option maxHeartbeats 1000000 in
theorem WordRuns_ (s : ByteArray) (hs : s.size ≤ 9223372036854775807) (w : World) : Calls Try.prog 16 #[.string s] w (RunsOk w (wrs s.data.toList).1 (wrs s.data.toList).2) := by
  cases h : wdL s.data.toList
  · have HE := Lib.hid (show wrs s.data.toList = ([], false) from by simp [wrs, h])
    have hM := mem_nil w; have hB := Below.refl w.heap.size w; have hC := True.intro
    go_enter Try.func16, Try.ntmps16
    go_wp2_with (first | (go_at_call 21; refine (WordIn_ _ hs _).mono ?_; rintro e w' ⟨rfl, hb⟩; apply after_call (w := w) hb; (focus ((repeat' (first | (with_reducible exact hM) | (with_reducible apply mem_alloc) | (with_reducible apply mem_set) | (with_reducible apply mem_drew) | (with_reducible apply mem_drewN))); done)); (focus ((repeat' (first | (with_reducible exact hB) | (with_reducible exact Below.refl _ _) | (with_reducible refine Below.alloc ?_ ?_ _) | (with_reducible refine Below.setCell ?_ ?_ _) | (with_reducible refine Below.drew ?_) | (with_reducible refine below_drewN ?_ _) | (with_reducible exact Nat.le_refl _) | (with_reducible exact hB.size) | (simp [go_sem]; done) | (have := hB.size; simp [go_sem]; omega))); done)); (focus ((repeat' (first | (with_reducible exact hB) | (with_reducible exact Below.refl _ _) | (with_reducible refine Below.alloc ?_ ?_ _) | (with_reducible refine Below.setCell ?_ ?_ _) | (with_reducible refine Below.drew ?_) | (with_reducible refine below_drewN ?_ _) | (with_reducible exact Nat.le_refl _) | (with_reducible exact hB.size) | (simp [go_sem]; done) | (have := hB.size; simp [go_sem]; omega))); done)); clear hM hB hb; intro hM hB; (try clear hC); have hC := mem_facts hM; simp at hC))
    go_ret2
    exact ⟨.slice none 0 0, by rw [HE.out]; rfl, by rw [HE.out]; exact World.ownsRow_nil _ _ _ _, by (repeat' (first | (with_reducible exact hB) | (with_reducible exact Below.refl _ _) | (with_reducible refine Below.alloc ?_ ?_ _) | (with_reducible refine Below.setCell ?_ ?_ _) | (with_reducible refine Below.drew ?_) | (with_reducible refine below_drewN ?_ _) | (with_reducible exact Nat.le_refl _) | (with_reducible exact hB.size) | (simp [go_sem]; done) | (have := hB.size; simp [go_sem]; omega)))⟩
  · have h40 := wdL_size h
    have HE := Lib.hid (show wrs s.data.toList = (runs s.data.toList, true) from by simp [wrs, h])
    have hM := mem_nil w; have hB := Below.refl w.heap.size w; have hC := True.intro
    go_enter Try.func16, Try.ntmps16
    go_wp2_with (first | (go_at_call 21; refine (WordIn_ _ hs _).mono ?_; rintro e w' ⟨rfl, hb⟩; apply after_call (w := w) hb; (focus ((repeat' (first | (with_reducible exact hM) | (with_reducible apply mem_alloc) | (with_reducible apply mem_set) | (with_reducible apply mem_drew) | (with_reducible apply mem_drewN))); done)); (focus ((repeat' (first | (with_reducible exact hB) | (with_reducible exact Below.refl _ _) | (with_reducible refine Below.alloc ?_ ?_ _) | (with_reducible refine Below.setCell ?_ ?_ _) | (with_reducible refine Below.drew ?_) | (with_reducible refine below_drewN ?_ _) | (with_reducible exact Nat.le_refl _) | (with_reducible exact hB.size) | (simp [go_sem]; done) | (have := hB.size; simp [go_sem]; omega))); done)); (focus ((repeat' (first | (with_reducible exact hB) | (with_reducible exact Below.refl _ _) | (with_reducible refine Below.alloc ?_ ?_ _) | (with_reducible refine Below.setCell ?_ ?_ _) | (with_reducible refine Below.drew ?_) | (with_reducible refine below_drewN ?_ _) | (with_reducible exact Nat.le_refl _) | (with_reducible exact hB.size) | (simp [go_sem]; done) | (have := hB.size; simp [go_sem]; omega))); done)); clear hM hB hb; intro hM hB; (try clear hC); have hC := mem_facts hM; simp at hC) | (go_at_call 42; refine (runs_ _ (by omega) _).mono ?_; rintro e w2 ⟨v, rfl, hv, hb2⟩; have HV := Lib.hid hv; have HB2 := Lib.hid hb2; clear hv hb2))
    go_ret2
    refine ⟨v, by rw [HE.out]; rfl, ?_, hB.trans (HB2.out.mono hB.size)⟩
    rw [HE.out]
    exact World.ownsRow.mono HV.out hB.size
end Go.Proofs.Ytmcpchockjcjhaa
