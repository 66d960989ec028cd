
/- The draws of moduli and of rest matrices, for every slice of bytes. -/
import Derived.Test.YtkallllpjkkhhaaDrawH
import Derived.Test.YtkallllpjkkhhaaMoS
import Derived.Deep.DeepCutAuto
namespace Go.Proofs.Ytkallllpjkkhhaa
open Go.RowKit

/-- a number from -5 to 20 -/
def IsMod (v : Value) : Prop := ∃ x : Int, v = .int .i64 x ∧ -5 ≤ x ∧ x ≤ 20
theorem quo23 {y : Int} (h0 : 0 ≤ y) (h1 : y < 24) : 0 ≤ y.tdiv 23 ∧ y.tdiv 23 ≤ 1 := by
  rw [Int.tdiv_eq_ediv_of_nonneg h0]; omega
set_option maxHeartbeats 1000000 in
theorem l92Mod_ (R B q : Nat) (w : World) (hB : B ≤ w.heap.size) (hR : Rdr w R B q) (hq : q ≤ 800000) : Calls Try.prog 31 #[.pointer (some ⟨R, 0, none⟩)] w (DPost IsMod R B (q + 10) w) := by
  have hI := inv_start hR hB
  clear hR
  go_enter Try.func31, Try.ntmps31
  go_wp2_with ((go_at_call 32; apply use_rd (w := w) (R := R) (fun hb hr hq => pickD _ _ _ _ _ hb hr hq); (focus ((repeat' (first | (with_reducible exact hI) | (with_reducible apply inv_alloc) | (with_reducible apply inv_drew) | (with_reducible apply inv_drewN) | (with_reducible apply inv_set) | (simp only [setL_map]; simp; done) | (simp; done))); done)); (focus omega); rintro v' w' ⟨x, rfl, hx0, hx1, _⟩; clear hI; intro hI; (try simp at hI); (try clear hC); have hC := mem_facts hI.1; simp at hC); replace hx1 := hx1 (by decide); (try have hxq := quo23 hx0 hx1))
  refine bodyPost_ret (by (simp [results, Try.results31, go_sem, *]; try rfl)) rfl ?_
  apply dpost_use (w := w)
  · (repeat' (first | (with_reducible exact hI) | (with_reducible apply inv_alloc) | (with_reducible apply inv_drew) | (with_reducible apply inv_drewN) | (with_reducible apply inv_set) | (simp only [setL_map]; simp; done) | (simp; done)))
  intro hJ
  exact inv_end hJ (by omega) ⟨_, rfl, by omega, by omega⟩
theorem l5RestG_ (n x : Int) (hn : 2 ≤ n ∧ n ≤ 100) (w : World) : Calls Try.prog 34 #[.int .i64 x, .int .i64 n] w (fun E' W' => E' = .returned (.int .i64 (x % n)) ∧ w = W') := by
  obtain ⟨h1, h2⟩ := hn
  obtain ⟨e1, e2, e3⟩ := rest_eq (x := x) h1
  have hz : (n == 0) = false := by simp; omega
  obtain ⟨r, hr⟩ : ∃ r, r = x.tmod n := ⟨_, rfl⟩
  rw [← hr] at e1 e2 e3
  have hr' := hr.symm
  clear hr
  have hb := rs_bd (x := x) h1
  generalize x % n = y at *
  go_enter Try.func34, Try.ntmps34
  go_wp2
  go_ret
  exact ⟨rfl, rfl⟩
theorem l5MatG_ (n a b c d : Int) (hn : 2 ≤ n ∧ n ≤ 100) (w : World) :
    Calls Try.prog 16 #[.agg #[.int .i64 a, .int .i64 b, .int .i64 c, .int .i64 d], .int .i64 n] w (fun E' W' => E' = .returned (.agg #[.int .i64 (a % n), .int .i64 (b % n), .int .i64 (c % n), .int .i64 (d % n)]) ∧ Below w.heap.size w W') := by
  have c1 := fun W => l5RestG_ n a hn W
  have c2 := fun W => l5RestG_ n b hn W
  have c3 := fun W => l5RestG_ n c hn W
  have c4 := fun W => l5RestG_ n d hn W
  generalize a % n = a' at *
  generalize b % n = b' at *
  generalize c % n = c' at *
  generalize d % n = d' at *
  have hM := mem_nil w; have hB := Below.refl w.heap.size w; have hC := True.intro
  go_enter Try.func16, Try.ntmps16
  go_wp2_with fail
  go_region_held3 (fun W' => (W'.cell? ⟨w.heap.size, 0, none⟩ = some (.int .i64 a) ∧ W'.cell? ⟨w.heap.size, 1, none⟩ = some (.int .i64 b) ∧ W'.cell? ⟨w.heap.size, 2, none⟩ = some (.int .i64 c) ∧ W'.cell? ⟨w.heap.size, 3, none⟩ = some (.int .i64 d))) ((simp [*, go_sem]; done)) (first | ((go_at_call 34; refine (c1 _).mono ?_; rintro e w' ⟨rfl, rfl⟩); clear c1) | ((go_at_call 34; refine (c2 _).mono ?_; rintro e w' ⟨rfl, rfl⟩); clear c2) | ((go_at_call 34; refine (c3 _).mono ?_; rintro e w' ⟨rfl, rfl⟩); clear c3) | (go_at_call 34; refine (c4 _).mono ?_; rintro e w' ⟨rfl, rfl⟩))
  all_goals
    go_wp2_with fail
    refine bodyPost_ret (by (simp [results, Try.results16, go_sem, *]; try rfl)) rfl ?_
    exact ⟨rfl, by (repeat' (first | (with_reducible exact hB) | (with_reducible exact Below.refl _ _) | (with_reducible refine Below.alloc ?_ ?_ _) | (with_reducible refine Below.setCell ?_ ?_ _) | (with_reducible refine Below.drew ?_) | (with_reducible refine below_drewN ?_ _) | (with_reducible exact Nat.le_refl _) | (with_reducible exact hB.size) | (simp [go_sem]; done) | (have := hB.size; simp [go_sem]; omega)))⟩
/-- a matrix and a number from -5 to 20 -/
def IsMatMod (v : Value) : Prop := ∃ a b c d k : Int, v = .tuple #[.agg #[.int .i64 a, .int .i64 b, .int .i64 c, .int .i64 d], .int .i64 k] ∧ -5 ≤ k ∧ k ≤ 20
set_option maxHeartbeats 2000000 in
theorem l92Even_ (R B q : Nat) (w : World) (hB : B ≤ w.heap.size) (hR : Rdr w R B q) (hq : q ≤ 300000) : Calls Try.prog 15 #[.pointer (some ⟨R, 0, none⟩)] w (DPost IsMatMod R B (q + 600) w) := by
  have hI := inv_start hR hB
  clear hR
  go_enter Try.func15, Try.ntmps15
  go_wp2_with (first | (go_at_call 31; apply use_rd (w := w) (R := R) (fun hb hr hq => l92Mod_ _ _ _ _ hb hr hq); (focus ((repeat' (first | (with_reducible exact hI) | (with_reducible apply inv_alloc) | (with_reducible apply inv_drew) | (with_reducible apply inv_drewN) | (with_reducible apply inv_set) | (simp only [setL_map]; simp; done) | (simp; done))); done)); (focus omega); rintro v' w' ⟨k, rfl, hk0, hk1⟩; clear hI; intro hI; (try simp at hI); (try clear hC); have hC := mem_facts hI.1; simp at hC) | (go_at_call 17; apply use_rd (w := w) (R := R) (fun hb hr hq => l91Even_ _ _ _ _ hb hr hq); (focus ((repeat' (first | (with_reducible exact hI) | (with_reducible apply inv_alloc) | (with_reducible apply inv_drew) | (with_reducible apply inv_drewN) | (with_reducible apply inv_set) | (simp only [setL_map]; simp; done) | (simp; done))); done)); (focus omega); rintro v' w' ⟨x, y, z, t, rfl⟩; clear hI; intro hI; (try simp at hI); (try clear hC); have hC := mem_facts hI.1; simp at hC) | (go_at_call 32; apply use_rd (w := w) (R := R) (fun hb hr hq => pickD _ _ _ _ _ hb hr hq); (focus ((repeat' (first | (with_reducible exact hI) | (with_reducible apply inv_alloc) | (with_reducible apply inv_drew) | (with_reducible apply inv_drewN) | (with_reducible apply inv_set) | (simp only [setL_map]; simp; done) | (simp; done))); done)); (focus omega); rintro v' w' ⟨p, rfl, hp0, hp1, _⟩; clear hI; intro hI; (try simp at hI); (try clear hC); have hC := mem_facts hI.1; simp at hC) | (go_at_call 33; apply use_rd (w := w) (R := R) (fun hb hr hq => l91Mat_ _ _ _ _ hb hr hq); (focus ((repeat' (first | (with_reducible exact hI) | (with_reducible apply inv_alloc) | (with_reducible apply inv_drew) | (with_reducible apply inv_drewN) | (with_reducible apply inv_set) | (simp only [setL_map]; simp; done) | (simp; done))); done)); (focus omega); rintro v' w' ⟨e, f, g, h, rfl⟩; clear hI; intro hI; (try simp at hI); (try clear hC); have hC := mem_facts hI.1; simp at hC) | (go_at_call 16; refine (l5MatG_ _ _ _ _ _ (by simp at *; omega) _).mono ?_; rintro e w' ⟨rfl, hb⟩; apply inv_below (w := w) (R := R) hb; (focus ((repeat' (first | (with_reducible exact hI) | (with_reducible apply inv_alloc) | (with_reducible apply inv_drew) | (with_reducible apply inv_drewN) | (with_reducible apply inv_set) | (simp only [setL_map]; simp; done) | (simp; done))); done)); clear hI hb; intro hI; (try simp at hI); (try clear hC); have hC := mem_facts hI.1; simp at hC))
  all_goals
    refine bodyPost_ret (by (simp [results, Try.results15, go_sem, *]; try rfl)) rfl ?_
    apply dpost_use (w := w)
    · (repeat' (first | (with_reducible exact hI) | (with_reducible apply inv_alloc) | (with_reducible apply inv_drew) | (with_reducible apply inv_drewN) | (with_reducible apply inv_set) | (simp only [setL_map]; simp; done) | (simp; done)))
    intro hJ
    exact inv_end hJ (by omega) ⟨_, _, _, _, _, rfl, by omega, by omega⟩
theorem mm_use {R B q : Nat} {w W : World} {L : List (Nat × Array Value × TypeId)} {v : Value} (h : Inv R B q w W L) (k : Inv R B q w W L → MatNumPost w (.returned v) W) : MatNumPost w (.returned v) W := k h
theorem use_mnrow {P : Program} {f : FuncId} {w W : World} {a : Option Addr} {len cap : Nat} {zs : List Int} {Q : Ending → World → Prop} (hRow : RowB .u8 w w.heap.size a len cap zs)
    (hc : ∀ W : World, RowB .u8 W W.heap.size a len cap zs → Calls P f #[.slice a len cap] W (MatNumPost W)) (hB : Below w.heap.size w W) (hs : w.heap.size ≤ W.heap.size)
    (h : ∀ a b c d k w', Below W.heap.size W w' → Q (.returned (.tuple #[.agg #[.int .i64 a, .int .i64 b, .int .i64 c, .int .i64 d], .int .i64 k])) w') : Calls P f #[.slice a len cap] W Q :=
  (hc W (hRow.at_ hB hs)).mono fun e w' ⟨a, b, c, d, k, he, hb⟩ => by rw [he]; exact h a b c d k w' hb
theorem l92Some_ (A : Option Addr) (len cap : Nat) (zs : List Int) (w : World) (hRow : RowB .u8 w w.heap.size A len cap zs) : Calls Try.prog 26 #[.slice A len cap] w (MatNumPost w) := by
  have hM := mem_nil w; have hB := Below.refl w.heap.size w; have hC := True.intro
  go_enter Try.func26, Try.ntmps26
  go_wp2_with (first | (go_at_call 14; apply use_open (w := w) hRow; (focus ((repeat' (first | (with_reducible exact hM) | (with_reducible apply mem_alloc) | (with_reducible apply mem_set) | (with_reducible apply mem_drew) | (with_reducible apply mem_drewN))); done)); (focus ((repeat' (first | (with_reducible exact hB) | (with_reducible exact Below.refl _ _) | (with_reducible refine Below.alloc ?_ ?_ _) | (with_reducible refine Below.setCell ?_ ?_ _) | (with_reducible refine Below.drew ?_) | (with_reducible refine below_drewN ?_ _) | (with_reducible exact Nat.le_refl _) | (with_reducible exact hB.size) | (simp [go_sem]; done) | (have := hB.size; simp [go_sem]; omega))); done)); (focus ((repeat' (first | (with_reducible exact hB) | (with_reducible exact Below.refl _ _) | (with_reducible refine Below.alloc ?_ ?_ _) | (with_reducible refine Below.setCell ?_ ?_ _) | (with_reducible refine Below.drew ?_) | (with_reducible refine below_drewN ?_ _) | (with_reducible exact Nat.le_refl _) | (with_reducible exact hB.size) | (simp [go_sem]; done) | (have := hB.size; simp [go_sem]; omega))); done)); (focus (first | (simp; done) | (simp <;> omega))); rintro R w' hI hRge; clear hM hB; (try simp at hI); (try clear hC); have hC := mem_facts hI.1; simp at hC) | (go_at_call 15; apply use_rd (w := w) (R := R) (fun hb hr hq => l92Even_ _ _ _ _ hb hr hq); (focus ((repeat' (first | (with_reducible exact hI) | (with_reducible apply inv_alloc) | (with_reducible apply inv_drew) | (with_reducible apply inv_drewN) | (with_reducible apply inv_set) | (simp only [setL_map]; simp; done) | (simp; done))); done)); (focus omega); rintro v' w' ⟨a, b, c, d, k, rfl, hk0, hk1⟩; clear hI; intro hI; (try simp at hI); (try clear hC); have hC := mem_facts hI.1; simp at hC))
  refine bodyPost_ret (by (simp [results, Try.results26, go_sem, *]; try rfl)) rfl ?_
  apply mm_use (w := w)
  · (repeat' (first | (with_reducible exact hI) | (with_reducible apply inv_alloc) | (with_reducible apply inv_drew) | (with_reducible apply inv_drewN) | (with_reducible apply inv_set) | (simp only [setL_map]; simp; done) | (simp; done)))
  intro hJ
  exact ⟨_, _, _, _, _, rfl, hJ.2.2.1.below hRge⟩
theorem DrawRestOrder_ (A : Option Addr) (len cap : Nat) (zs : List Int) (w : World) (hRow : RowB .u8 w w.heap.size A len cap zs) : Calls Try.prog 10 #[.slice A len cap] w (MatNumPost w) := by
  have hM := mem_nil w; have hB := Below.refl w.heap.size w; have hC := True.intro
  go_enter Try.func10, Try.ntmps10
  go_wp2_with (go_at_call 26; apply use_mnrow (w := w) hRow (l92Some_ _ _ _ _); (focus ((repeat' (first | (with_reducible exact hB) | (with_reducible exact Below.refl _ _) | (with_reducible refine Below.alloc ?_ ?_ _) | (with_reducible refine Below.setCell ?_ ?_ _) | (with_reducible refine Below.drew ?_) | (with_reducible refine below_drewN ?_ _) | (with_reducible exact Nat.le_refl _) | (with_reducible exact hB.size) | (simp [go_sem]; done) | (have := hB.size; simp [go_sem]; omega))); done)); (focus ((repeat' (first | (with_reducible exact hB) | (with_reducible exact Below.refl _ _) | (with_reducible refine Below.alloc ?_ ?_ _) | (with_reducible refine Below.setCell ?_ ?_ _) | (with_reducible refine Below.drew ?_) | (with_reducible refine below_drewN ?_ _) | (with_reducible exact Nat.le_refl _) | (with_reducible exact hB.size) | (simp [go_sem]; done) | (have := hB.size; simp [go_sem]; omega))); done)); rintro a b c d k w' hb; apply after_call (w := w) hb; (focus ((repeat' (first | (with_reducible exact hM) | (with_reducible apply mem_alloc) | (with_reducible apply mem_set) | (with_reducible apply mem_drew) | (with_reducible apply mem_drewN))); done)); (focus ((repeat' (first | (with_reducible exact hB) | (with_reducible exact Below.refl _ _) | (with_reducible refine Below.alloc ?_ ?_ _) | (with_reducible refine Below.setCell ?_ ?_ _) | (with_reducible refine Below.drew ?_) | (with_reducible refine below_drewN ?_ _) | (with_reducible exact Nat.le_refl _) | (with_reducible exact hB.size) | (simp [go_sem]; done) | (have := hB.size; simp [go_sem]; omega))); done)); (focus ((repeat' (first | (with_reducible exact hB) | (with_reducible exact Below.refl _ _) | (with_reducible refine Below.alloc ?_ ?_ _) | (with_reducible refine Below.setCell ?_ ?_ _) | (with_reducible refine Below.drew ?_) | (with_reducible refine below_drewN ?_ _) | (with_reducible exact Nat.le_refl _) | (with_reducible exact hB.size) | (simp [go_sem]; done) | (have := hB.size; simp [go_sem]; omega))); done)); clear hM hB hb; intro hM hB; (try clear hC); have hC := mem_facts hM; simp at hC)
  refine bodyPost_ret (by (simp [results, Try.results10, go_sem, *]; try rfl)) rfl ?_
  exact ⟨_, _, _, _, _, rfl, by (repeat' (first | (with_reducible exact hB) | (with_reducible exact Below.refl _ _) | (with_reducible refine Below.alloc ?_ ?_ _) | (with_reducible refine Below.setCell ?_ ?_ _) | (with_reducible refine Below.drew ?_) | (with_reducible refine below_drewN ?_ _) | (with_reducible exact Nat.le_refl _) | (with_reducible exact hB.size) | (simp [go_sem]; done) | (have := hB.size; simp [go_sem]; omega)))⟩
set_option maxHeartbeats 1000000 in
theorem DrawRestLift_ (A : Option Addr) (len cap : Nat) (zs : List Int) (w : World) (hRow : RowB .u8 w w.heap.size A len cap zs) : Calls Try.prog 5 #[.slice A len cap] w (MatNumPost w) := by
  have hM := mem_nil w; have hB := Below.refl w.heap.size w; have hC := True.intro
  go_enter Try.func5, Try.ntmps5
  go_wp2_with (first | (go_at_call 14; apply use_open (w := w) hRow; (focus ((repeat' (first | (with_reducible exact hM) | (with_reducible apply mem_alloc) | (with_reducible apply mem_set) | (with_reducible apply mem_drew) | (with_reducible apply mem_drewN))); done)); (focus ((repeat' (first | (with_reducible exact hB) | (with_reducible exact Below.refl _ _) | (with_reducible refine Below.alloc ?_ ?_ _) | (with_reducible refine Below.setCell ?_ ?_ _) | (with_reducible refine Below.drew ?_) | (with_reducible refine below_drewN ?_ _) | (with_reducible exact Nat.le_refl _) | (with_reducible exact hB.size) | (simp [go_sem]; done) | (have := hB.size; simp [go_sem]; omega))); done)); (focus ((repeat' (first | (with_reducible exact hB) | (with_reducible exact Below.refl _ _) | (with_reducible refine Below.alloc ?_ ?_ _) | (with_reducible refine Below.setCell ?_ ?_ _) | (with_reducible refine Below.drew ?_) | (with_reducible refine below_drewN ?_ _) | (with_reducible exact Nat.le_refl _) | (with_reducible exact hB.size) | (simp [go_sem]; done) | (have := hB.size; simp [go_sem]; omega))); done)); (focus (first | (simp; done) | (simp <;> omega))); rintro R w' hI hRge; clear hM hB; (try simp at hI); (try clear hC); have hC := mem_facts hI.1; simp at hC) | (go_at_call 15; apply use_rd (w := w) (R := R) (fun hb hr hq => l92Even_ _ _ _ _ hb hr hq); (focus ((repeat' (first | (with_reducible exact hI) | (with_reducible apply inv_alloc) | (with_reducible apply inv_drew) | (with_reducible apply inv_drewN) | (with_reducible apply inv_set) | (simp only [setL_map]; simp; done) | (simp; done))); done)); (focus omega); rintro v' w' ⟨a, b, c, d, k, rfl, hk0, hk1⟩; clear hI; intro hI; (try simp at hI); (try clear hC); have hC := mem_facts hI.1; simp at hC) | (go_at_call 17; apply use_rd (w := w) (R := R) (fun hb hr hq => l91Even_ _ _ _ _ hb hr hq); (focus ((repeat' (first | (with_reducible exact hI) | (with_reducible apply inv_alloc) | (with_reducible apply inv_drew) | (with_reducible apply inv_drewN) | (with_reducible apply inv_set) | (simp only [setL_map]; simp; done) | (simp; done))); done)); (focus omega); rintro v' w' ⟨x, y, z, t, rfl⟩; clear hI; intro hI; (try simp at hI); (try clear hC); have hC := mem_facts hI.1; simp at hC) | (go_at_call 16; refine (l5MatG_ _ _ _ _ _ (by decide) _).mono ?_; rintro e w' ⟨rfl, hb⟩; apply inv_below (w := w) (R := R) hb; (focus ((repeat' (first | (with_reducible exact hI) | (with_reducible apply inv_alloc) | (with_reducible apply inv_drew) | (with_reducible apply inv_drewN) | (with_reducible apply inv_set) | (simp only [setL_map]; simp; done) | (simp; done))); done)); clear hI hb; intro hI; (try simp at hI); (try clear hC); have hC := mem_facts hI.1; simp at hC))
  all_goals
    refine bodyPost_ret (by (simp [results, Try.results5, go_sem, *]; try rfl)) rfl ?_
    apply mm_use (w := w)
    · (repeat' (first | (with_reducible exact hI) | (with_reducible apply inv_alloc) | (with_reducible apply inv_drew) | (with_reducible apply inv_drewN) | (with_reducible apply inv_set) | (simp only [setL_map]; simp; done) | (simp; done)))
    intro hJ
    exact ⟨_, _, _, _, _, rfl, hJ.2.2.1.below hRge⟩
/-- three numbers; a matrix and three numbers -/
def ThreePost (w : World) (e : Ending) (w' : World) : Prop := ∃ n x y : Int, e = .returned (.tuple #[.int .i64 n, .int .i64 x, .int .i64 y]) ∧ Below w.heap.size w w'
theorem t3_use {R B q : Nat} {w W : World} {L : List (Nat × Array Value × TypeId)} {v : Value} (h : Inv R B q w W L) (k : Inv R B q w W L → ThreePost w (.returned v) W) : ThreePost w (.returned v) W := k h
theorem use_t3row {P : Program} {f : FuncId} {w W : World} {a : Option Addr} {len cap : Nat} {zs : List Int} {Q : Ending → World → Prop} (hRow : RowB .u8 w w.heap.size a len cap zs)
    (hc : ∀ W : World, RowB .u8 W W.heap.size a len cap zs → Calls P f #[.slice a len cap] W (ThreePost W)) (hB : Below w.heap.size w W) (hs : w.heap.size ≤ W.heap.size)
    (h : ∀ n x y w', Below W.heap.size W w' → Q (.returned (.tuple #[.int .i64 n, .int .i64 x, .int .i64 y])) w') : Calls P f #[.slice a len cap] W Q :=
  (hc W (hRow.at_ hB hs)).mono fun e w' ⟨n, x, y, he, hb⟩ => by rw [he]; exact h n x y w' hb
def MatThreePost (w : World) (e : Ending) (w' : World) : Prop := ∃ a b c d n x y : Int, e = .returned (.tuple #[.agg #[.int .i64 a, .int .i64 b, .int .i64 c, .int .i64 d], .int .i64 n, .int .i64 x, .int .i64 y]) ∧ Below w.heap.size w w'
theorem m3_use {R B q : Nat} {w W : World} {L : List (Nat × Array Value × TypeId)} {v : Value} (h : Inv R B q w W L) (k : Inv R B q w W L → MatThreePost w (.returned v) W) : MatThreePost w (.returned v) W := k h
theorem use_m3row {P : Program} {f : FuncId} {w W : World} {a : Option Addr} {len cap : Nat} {zs : List Int} {Q : Ending → World → Prop} (hRow : RowB .u8 w w.heap.size a len cap zs)
    (hc : ∀ W : World, RowB .u8 W W.heap.size a len cap zs → Calls P f #[.slice a len cap] W (MatThreePost W)) (hB : Below w.heap.size w W) (hs : w.heap.size ≤ W.heap.size)
    (h : ∀ a b c d n x y w', Below W.heap.size W w' → Q (.returned (.tuple #[.agg #[.int .i64 a, .int .i64 b, .int .i64 c, .int .i64 d], .int .i64 n, .int .i64 x, .int .i64 y])) w') : Calls P f #[.slice a len cap] W Q :=
  (hc W (hRow.at_ hB hs)).mono fun e w' ⟨a, b, c, d, n, x, y, he, hb⟩ => by rw [he]; exact h a b c d n x y w' hb
end Go.Proofs.Ytkallllpjkkhhaa
