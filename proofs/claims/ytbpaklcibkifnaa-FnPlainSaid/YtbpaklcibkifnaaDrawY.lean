
/- Lists of numbers that are drawn. -/
import Derived.Test.YtbpaklcibkifnaaDrawG
import Derived.Test.YtbpaklcibkifnaaTurnC
import Derived.Deep.AppendLies
import Derived.Deep.DeepCutAuto
namespace Go.Proofs.Ytbpaklcibkifnaa
open Go.RowKit

theorem row_since {R base : Nat} {W W' : World} {e : TypeId} {v : Value} {n : Nat} {xs : List Value} (h : W.ownsRow base e 1 v n xs) (hs : Since R W W') (hR : R < base) : W'.ownsRow base e 1 v n xs := by
  refine ⟨h.1, ?_⟩
  rcases h.2 with h2 | ⟨g, cap, cur, hv, hb, hg, h3⟩
  · exact .inl h2
  · exact .inr ⟨g, cap, cur, hv, hb, (hs.block g (mem_lt hg) (by intro e; injection e; omega)).trans hg, h3⟩
theorem inv_app {R B q : Nat} {w W w1 : World} {base : Nat} {e : TypeId} {v : Value} {n : Nat} {xs : List Value} (h : Inv R B q w W []) (hr : W.ownsRow base e 1 v n xs) (hg : W.grownBy w1 v.ownBlock) (hR : R < w.heap.size) (hb : w.heap.size ≤ base) : Inv R B q w w1 [] := by
  obtain ⟨_, _, h3, h4, h5, h6⟩ := h
  have hv : ∀ j, v.ownBlock = some j → w.heap.size ≤ j := by
    intro j ej
    rcases hr.2 with ⟨rfl, _⟩ | ⟨g, cap, cur, rfl, hgb, _, _⟩
    · simp [Value.ownBlock] at ej
    · obtain rfl : g = j := by simpa [Value.ownBlock] using ej
      omega
  have hbl : ∀ k, k < w.heap.size → w1.heap[k]? = W.heap[k]? := fun k hk => hg.block k (by omega) (fun e => by have := hv k e.symm; omega)
  refine ⟨mem_nil _, (fun p hp => by cases hp), ⟨hg.os.trans h3.os, hg.tape.trans h3.tape, hg.output.trans h3.output, Nat.le_trans h3.size hg.size, fun i hi hne => (hbl i hi).trans (h3.block i hi hne)⟩, h4.keep fun k hk => hbl k (by omega), Nat.le_trans h5 hg.size, h6⟩
theorem use_rdS {P : Program} {f : FuncId} {args : Array Value} {w W : World} {R B q q' K : Nat} {L : List (Nat × Array Value × TypeId)} {Good : Value → Prop} {Q : Ending → World → Prop}
    (hc : B ≤ W.heap.size → Rdr W R B q → q ≤ K → Calls P f args W (DPost Good R B q' W)) (hI : Inv R B q w W L) (hq : q ≤ K) (h : ∀ v w', Good v → Since R W w' → Inv R B q' w w' L → Q (.returned v) w') : Calls P f args W Q := by
  obtain ⟨h1, h2, h3, h4, h5, h6⟩ := hI
  refine (hc (Nat.le_trans h6 h5) h4 hq).mono ?_
  rintro e w' ⟨v, rfl, hg, hr, hs⟩
  exact h v w' hg hs ⟨mem_since hs h1 (fun p hp => (h2 p hp).2), h2, h3.trans hs, hr, Nat.le_trans h5 hs.size, h6⟩
theorem inv_dropL {R B q : Nat} {w W : World} {L : List (Nat × Array Value × TypeId)} (h : Inv R B q w W L) : Inv R B q w W [] := ⟨mem_nil _, (fun p hp => by cases hp), h.2.2⟩
theorem mem_one {W : World} {g : Nat} {cs : Array Value} {t : TypeId} (hg : W.heap[g]? = some (.cells cs t (0, 0))) : Mem W [(g, cs, t)] :=
  ⟨(fun p hp => by rw [List.mem_singleton.1 hp]; exact hg), by simp⟩
theorem row_mt {W : World} {base g : Nat} (h : W.heap[g]? = some (.cells #[] 3 (0, 0))) (hb : base ≤ g) : IntRow base W (.slice (some ⟨g, 0, none⟩) 0 0) [] :=
  ⟨rfl, .inr ⟨g, 0, #[], rfl, hb, h, Nat.le_refl _, Nat.zero_le _, rfl, rfl⟩⟩
theorem row_cur {W : World} {base g n cap : Nat} {e : TypeId} {xs : List Value} (h : W.ownsRow base e 1 (.slice (some ⟨g, 0, none⟩) n cap) n xs) :
    ∃ cur, W.heap[g]? = some (.cells cur e (0, 0)) ∧ base ≤ g ∧ ∀ W' : World, W'.heap[g]? = some (.cells cur e (0, 0)) → W'.ownsRow base e 1 (.slice (some ⟨g, 0, none⟩) n cap) n xs := by
  have h1 := h.1
  rcases h.2 with ⟨h2, _⟩ | ⟨g', cap', cur, h2, h3, h4, h5⟩
  · simp at h2
  · simp at h2
    obtain ⟨rfl, rfl⟩ := h2
    exact ⟨cur, h4, h3, fun W' hW => ⟨h1, .inr ⟨g, cap, cur, rfl, h3, hW, h5⟩⟩⟩
/-- a list of numbers in a block of its own: where it lies, and that it hangs on that block alone -/
def LRow (base : Nat) (W : World) (v : Value) (zs : List Int) : Prop := ∃ g cap cur, v = .slice (some ⟨g, 0, none⟩) zs.length cap ∧ W.heap[g]? = some (.cells cur 3 (0, 0)) ∧ base ≤ g ∧
  ∀ W' : World, W'.heap[g]? = some (.cells cur 3 (0, 0)) → RdO W' (.slice (some ⟨g, 0, none⟩) zs.length cap) zs
theorem lrow_some {base g cap : Nat} {W : World} {zs : List Int} (h : IntRow base W (.slice (some ⟨g, 0, none⟩) zs.length cap) zs) : LRow base W (.slice (some ⟨g, 0, none⟩) zs.length cap) zs := by
  have h' : W.ownsRow base 3 1 (.slice (some ⟨g, 0, none⟩) (zs.map (Value.int .i64)).length cap) (zs.map (Value.int .i64)).length (zs.map (Value.int .i64)) := by simpa [IntRow] using h
  obtain ⟨cur, h1, h2, h3⟩ := row_cur h'
  refine ⟨g, cap, cur, rfl, h1, h2, fun W' hW => ?_⟩
  have := IntRow.rdO (base := base) (W := W') (v := .slice (some ⟨g, 0, none⟩) (zs.map (Value.int .i64)).length cap) (zs := zs) (h3 W' hW)
  simpa using this
theorem lrow_of {base : Nat} {W : World} {v : Value} {zs : List Int} (h : IntRow base W v zs) (h0 : 0 < zs.length) : LRow base W v zs := by
  have h' : W.ownsRow base 3 1 v (zs.map (Value.int .i64)).length (zs.map (Value.int .i64)) := h
  obtain ⟨g, cap, rfl, _, _⟩ := h'.form (by simpa using h0)
  rw [List.length_map] at h ⊢
  exact lrow_some h
/-- what a draw of a list leaves -/
def TPost (R B q : Nat) (w : World) (e : Ending) (w' : World) : Prop := ∃ v zs, e = .returned v ∧ LRow w.heap.size w' v zs ∧ zs.length ≤ 6 ∧ Rdr w' R B q ∧ Since R w w'
def TuRel (R B q : Nat) (w : World) (n : Nat) (g : Nat) (v i : Value) (wr : World) : Prop := ∃ acc : List Int, acc.length + g = n ∧ i = .int .i64 acc.length ∧ IntRow w.heap.size wr v acc ∧ Inv R B (q + 1 + acc.length) w wr []
theorem row_next {base : Nat} {W : World} {v : Value} {acc : List Int} {z : Int} (hR : W.ownsRow base 3 1 v (acc.length + 1) (acc.map (Value.int .i64) ++ [.int .i64 z])) : IntRow base W v (acc ++ [z]) := by
  unfold IntRow
  rw [List.length_map, List.map_append, List.length_append]
  exact hR
theorem row_intro {base : Nat} {W : World} {v : Value} {acc : List Int} (hR : W.ownsRow base 3 1 v acc.length (acc.map (Value.int .i64))) : IntRow base W v acc := by
  unfold IntRow
  rw [List.length_map]
  exact hR
theorem turel_next {R B q : Nat} {w wr : World} {n g : Nat} {v : Value} {acc : List Int} {z : Int} (hR : wr.ownsRow w.heap.size 3 1 v (acc.length + 1) (acc.map (Value.int .i64) ++ [.int .i64 z])) (hI : Inv R B (q + 1 + acc.length + 1) w wr []) (hg : acc.length + 1 + g = n) :
    TuRel R B q w n g v (.int .i64 (acc.length + 1)) wr :=
  ⟨acc ++ [z], by simp; omega, by rw [List.length_append]; rfl, row_next hR, inv_mono hI (by simp; omega)⟩
theorem tpost_of {R B q q' : Nat} {w W : World} {L : List (Nat × Array Value × TypeId)} {v : Value} {zs : List Int} (hI : Inv R B q' w W L) (hr : LRow w.heap.size W v zs) (hl : zs.length ≤ 6) (hq : q' ≤ q) : TPost R B q w (.returned v) W :=
  ⟨v, zs, rfl, hr, hl, hI.2.2.2.1.mono hq, hI.2.2.1⟩
set_option maxRecDepth 100000 in
set_option maxHeartbeats 4000000 in
theorem l91Turns_ (R B q : Nat) (w : World) (hB : B ≤ w.heap.size) (hR : Rdr w R B q) (hq : q ≤ 700000) : Calls Try.prog 45 #[.pointer (some ⟨R, 0, none⟩)] w (TPost R B (q + 10) w) := by
  obtain ⟨i0, hi, hz0, hz1, hz2⟩ := info_parts infoI64
  have hRl := hR.lt
  have hI := inv_start hR hB
  clear hR
  go_enter Try.func45, Try.ntmps45
  go_wp2_with (go_at_call 16; apply use_rd (w := w) (R := R) (fun hb hr hq => pickD _ _ _ _ _ hb hr hq); (focus ((repeat' (first | (with_reducible exact hI) | (with_reducible apply inv_alloc) | (with_reducible apply inv_drew) | (with_reducible apply inv_drewN) | (with_reducible apply inv_set) | (simp only [setL_map]; simp; done) | (simp; done))); done)); (focus omega); rintro v' w' ⟨x, rfl, hx0, hx1, _⟩; clear hI; intro hI; (try simp at hI); (try clear hC); have hC := mem_facts hI.1; simp at hC)
  obtain ⟨n, rfl⟩ : ∃ n : Nat, x = n := ⟨x.toNat, by omega⟩
  have hn : n < 5 := by have := hx1 (by omega); omega
  have hS : IntRow w.heap.size w' (.slice (some ⟨w.heap.size, 0, none⟩) 0 0) [] := row_mt (hI.1.1 _ List.mem_cons_self) (Nat.le_refl _)
  replace hI := inv_dropL hI
  clear hC
  go_loopg [3, 5] (n + 1) (fun gk v i wr => TuRel R B q w (n + 1) gk v i wr)
  case atStart => exact ⟨[], by simp, rfl, hS, hI⟩
  case round =>
    obtain ⟨acc, hkg, rfl, hR, hI'⟩ := hrel
    clear hI hS
    have hI := hI'
    clear hI'
    obtain ⟨ao, cap, rfl⟩ := row_form hR
    replace hR : wr.ownsRow w.heap.size 3 1 (.slice ao acc.length cap) acc.length (acc.map (Value.int .i64)) := by simpa [IntRow] using hR
    simp only [List.length_map]
    by_cases hlt : acc.length < n + 1
    · have hlt2 : (acc.length : Int) < 1 + (n : Int) := by omega
      have hlt3 := hlt
      clear hlt
      go_wp2_with (first | (go_at_call 16; apply use_rdS (w := w) (R := R) (fun hb hr hq => pickD _ _ _ _ _ hb hr hq); (focus ((repeat' (first | (with_reducible exact hI) | (with_reducible apply inv_alloc) | (with_reducible apply inv_drew) | (with_reducible apply inv_drewN) | (with_reducible apply inv_set) | (simp only [setL_map]; simp; done) | (simp; done))); done)); (focus omega); rintro v' w' ⟨x, rfl, hx0, hx1, _⟩ hsi; clear hI; intro hI; replace hR := row_since hR hsi hRl; clear hsi) | (at_builtin; refine wpList_append_own _ rfl _ _ 32 rfl w.heap.size 3 i0 (.int .i64 0) 1 8 Try.underlying32 hi hz0 hz1 hz2 rfl (by decide) _ _ _ rfl (hR.alloc _) ⟨_, 0, none⟩ 1 1 [_] rfl rfl (cell_one_new _ _ _) (by simp [Value.oneCell']) (by simp [maxLen]; omega) (by first | omega | (simp; omega)) (by have := hI.2.2.2.2.1; simp; omega) ?_; intro v' w1 hown' hgrow hnn; clear hnn; replace hI := inv_app (inv_dropL (inv_alloc hI _ _)) (hR.alloc _) hgrow hRl (Nat.le_refl _); clear hgrow hR; have hR := hown'; clear hown'; obtain ⟨g', cap', rfl⟩ := ownsRow_succ hR))
      go_roundg (n + 1 - (acc.length + 1))
      case measure => omega
      case rel => exact turel_next hR hI (by omega)
    · have hge : ((acc.length : Int) < 1 + (n : Int)) = False := by simp; omega
      have HL := Lib.hid (show acc.length = n + 1 by omega)
      have HG := Lib.hid hkg
      clear hlt hkg
      have hl6 : acc.length ≤ 5 := by have := HL.out; omega
      go_wp2_with (first | (go_at_call 16; apply use_rdS (w := w) (R := R) (fun hb hr hq => pickD _ _ _ _ _ hb hr hq); (focus ((repeat' (first | (with_reducible exact hI) | (with_reducible apply inv_alloc) | (with_reducible apply inv_drew) | (with_reducible apply inv_drewN) | (with_reducible apply inv_set) | (simp only [setL_map]; simp; done) | (simp; done))); done)); (focus omega); rintro v' w' ⟨x, rfl, hx0, hx1, _⟩ hsi; clear hI; intro hI; replace hR := row_since hR hsi hRl; clear hsi) | (at_builtin; refine wpList_append_own _ rfl _ _ 32 rfl w.heap.size 3 i0 (.int .i64 0) 1 8 Try.underlying32 hi hz0 hz1 hz2 rfl (by decide) _ _ _ rfl (hR.alloc _) ⟨_, 0, none⟩ 1 1 [_] rfl rfl (cell_one_new _ _ _) (by simp [Value.oneCell']) (by simp [maxLen]; omega) (by first | omega | (simp; omega)) (by have := hI.2.2.2.2.1; simp; omega) ?_; intro v' w1 hown' hgrow hnn; clear hnn; replace hI := inv_app (inv_dropL (inv_alloc hI _ _)) (hR.alloc _) hgrow hRl (Nat.le_refl _); clear hgrow hR; have hR := hown'; clear hown'; obtain ⟨g', cap', rfl⟩ := ownsRow_succ hR))
      · go_ret
        exact tpost_of (zs := []) (inv_alloc hI _ _) (lrow_some (row_mt (heap_alloc_new _ _) hI.2.2.2.2.1)) (by simp) (by omega)
      · go_ret
        exact tpost_of hI (lrow_of (row_next hR) (by simp)) (by simp; omega) (by omega)
      · go_ret
        exact tpost_of hI (lrow_of (row_intro hR) (by have := HL.out; omega)) (by omega) (by omega)
/-- what a draw of a list over the argument's bytes leaves -/
def LPost (w : World) (e : Ending) (w' : World) : Prop := ∃ v zs, e = .returned v ∧ LRow w.heap.size w' v zs ∧ zs.length ≤ 6 ∧ Below w.heap.size w w'
theorem lpost_of {w W : World} {v : Value} {zs : List Int} {b : Nat} (hr : LRow b W v zs) (hb : w.heap.size ≤ b) (hl : zs.length ≤ 6) (h : Below w.heap.size w W) : LPost w (.returned v) W := by
  obtain ⟨g, cap, cur, rfl, h1, h2, h3⟩ := hr
  exact ⟨_, zs, rfl, ⟨g, cap, cur, rfl, h1, Nat.le_trans hb h2, h3⟩, hl, h⟩
theorem l91List_ (a : Option Addr) (len cap : Nat) (zs : List Int) (w : World) (hRow : RowB .u8 w w.heap.size a len cap zs) : Calls Try.prog 29 #[.slice a len cap] w (LPost w) := by
  have hM := mem_nil w; have hB := Below.refl w.heap.size w; have hC := True.intro
  go_enter Try.func29, Try.ntmps29
  go_wp2_with (first | (go_at_call 14; apply use_open (w := w) hRow; (focus ((repeat' (first | (with_reducible exact hM) | (with_reducible apply mem_alloc) | (with_reducible apply mem_set) | (with_reducible apply mem_drew) | (with_reducible apply mem_drewN))); done)); (focus ((repeat' (first | (with_reducible exact hB) | (with_reducible exact Below.refl _ _) | (with_reducible refine Below.alloc ?_ ?_ _) | (with_reducible refine Below.setCell ?_ ?_ _) | (with_reducible refine Below.drew ?_) | (with_reducible refine below_drewN ?_ _) | (with_reducible exact Nat.le_refl _) | (with_reducible exact hB.size) | (simp [go_sem]; done) | (have := hB.size; simp [go_sem]; omega))); done)); (focus ((repeat' (first | (with_reducible exact hB) | (with_reducible exact Below.refl _ _) | (with_reducible refine Below.alloc ?_ ?_ _) | (with_reducible refine Below.setCell ?_ ?_ _) | (with_reducible refine Below.drew ?_) | (with_reducible refine below_drewN ?_ _) | (with_reducible exact Nat.le_refl _) | (with_reducible exact hB.size) | (simp [go_sem]; done) | (have := hB.size; simp [go_sem]; omega))); done)); (focus (simp; done)); rintro R w' hI hRge; clear hM hB; (try simp at hI); (try clear hC); have hC := mem_facts hI.1; simp at hC) | (go_at_call 45; refine (l91Turns_ R w.heap.size 0 _ (Nat.le_trans (Nat.le_refl _) hI.2.2.2.2.1) hI.2.2.2.1 (by omega)).mono ?_; rintro e w2 ⟨v, qs, rfl, hrow, hl, hrd, hsi⟩))
  have hb := hI.2.2.2.2.1
  have hs := (hI.2.2.1.trans hsi).below hRge
  have HR := Lib.hid hrow
  clear hrow hsi hrd
  go_wp2
  go_ret
  exact lpost_of HR.out hb hl hs
theorem use_listrow {P : Program} {f : FuncId} {w W : World} {a : Option Addr} {len cap : Nat} {zs : List Int} {Q : Ending → World → Prop} (hRow : RowB .u8 w w.heap.size a len cap zs)
    (hc : ∀ W : World, RowB .u8 W W.heap.size a len cap zs → Calls P f #[.slice a len cap] W (LPost W)) (hB : Below w.heap.size w W) (hs : w.heap.size ≤ W.heap.size)
    (h : ∀ v qs w', LRow W.heap.size w' v qs → qs.length ≤ 6 → Below W.heap.size W w' → Q (.returned v) w') : Calls P f #[.slice a len cap] W Q :=
  (hc W (hRow.at_ hB hs)).mono fun e w' ⟨v, qs, he, h1, h2, h3⟩ => by rw [he]; exact h v qs w' h1 h2 h3
theorem DrawTurnPlain_ (A : Option Addr) (len cap : Nat) (zs : List Int) (w : World) (hRow : RowB .u8 w w.heap.size A len cap zs) : Calls Try.prog 11 #[.slice A len cap] w (LPost w) := by
  have hM := mem_nil w; have hB := Below.refl w.heap.size w; have hC := True.intro
  go_enter Try.func11, Try.ntmps11
  go_wp2_with (first | (go_at_call 29; apply use_listrow (w := w) hRow (l91List_ _ _ _ _) hB (Nat.le_refl _); rintro v qs w' hrow hl hb))
  have HR := Lib.hid hrow
  clear hrow
  go_wp2
  go_ret
  exact lpost_of HR.out (Nat.le_refl _) hl hb
end Go.Proofs.Ytbpaklcibkifnaa
