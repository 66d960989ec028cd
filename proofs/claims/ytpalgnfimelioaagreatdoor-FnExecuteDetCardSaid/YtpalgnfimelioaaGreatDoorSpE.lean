
/- Chapter 9's Execute over the script of FnExecuteDet: mat, det, trace. Condition: the library's table of powers of ten lies as its text lays it. -/
import Derived.Test.YtpalgnfimelioaaGreatDoorSpD
import Derived.Test.YtpalgnfimelioaaGreatDoorLawEw
namespace Go.Proofs.YtpalgnfimelioaaGreatDoor
open Go.RowKit Go.Shelf

set_option maxHeartbeats 1000000 in
theorem det9_ (b : Nat) (m : M) (n : Int) (hn : mdet m = (n, true)) (h0 : -9223372036854775808 ≤ n) (h1 : n ≤ 9223372036854775807) (w : World) (hT : TabB w.heap.size w) (h : BenchAt b m w) : Calls Tryz.prog 49 #[.pointer (some ⟨b, 0, none⟩)] w
    fun e w' => e = .returned (.string (tx (Lib.itoa n))) ∧ Below w.heap.size (st4 w b m) w' := by
  have hM := bench_mem h
  have hB := Below.refl w.heap.size w
  have hC := mem_facts hM
  simp at hC
  have hW := fun w => MatDet_ m.a m.b m.c m.d w
  change ∀ w, Calls _ _ _ _ (fun E' W' => E' = .returned (.tuple #[.int .i64 (mdet m).1, .bool (mdet m).2]) ∧ _) at hW
  rw [hn] at hW
  go_enter Tryz.func49, Tryz.ntmps49
  go_wp2_with (first | (go_at_call 11; refine (hW _).mono ?_; rintro e w' ⟨rfl, hb⟩; apply after_call (w := w) hb; (focus ((repeat' (first | (with_reducible exact hM) | (with_reducible apply mem_alloc) | (with_reducible apply mem_set) | (with_reducible apply mem_drew) | (with_reducible apply mem_drewN))); done)); (focus ((repeat' (first | (with_reducible exact hB) | (with_reducible exact Below.refl _ _) | (with_reducible refine Below.alloc ?_ ?_ _) | (with_reducible refine Below.setCell ?_ ?_ _) | (with_reducible refine Below.drew ?_) | (with_reducible refine below_drewN ?_ _) | (with_reducible exact Nat.le_refl _) | (with_reducible exact hB.size) | (simp [go_sem]; done) | (have := hB.size; simp [go_sem]; omega))); done)); (focus ((repeat' (first | (with_reducible exact hB) | (with_reducible exact Below.refl _ _) | (with_reducible refine Below.alloc ?_ ?_ _) | (with_reducible refine Below.setCell ?_ ?_ _) | (with_reducible refine Below.drew ?_) | (with_reducible refine below_drewN ?_ _) | (with_reducible exact Nat.le_refl _) | (with_reducible exact hB.size) | (simp [go_sem]; done) | (have := hB.size; simp [go_sem]; omega))); done)); clear hM hB hb; intro hM hB; (try clear hC); have hC := mem_facts hM; simp at hC) | (go_at_call 77; refine (told1_ n h0 h1 _ _ _ (hT.later (by (repeat' (first | (with_reducible exact hB) | (with_reducible exact Below.refl _ _) | (with_reducible refine Below.alloc ?_ ?_ _) | (with_reducible refine Below.setCell ?_ ?_ _) | (with_reducible refine Below.drew ?_) | (with_reducible refine below_drewN ?_ _) | (with_reducible exact Nat.le_refl _) | (with_reducible exact hB.size) | (simp [go_sem]; done) | (have := hB.size; simp [go_sem]; omega))))) (by simp [*, go_sem]; done) (by simp)).mono ?_; rintro e w' ⟨rfl, hb⟩; apply after_call (w := w) hb; (focus ((repeat' (first | (with_reducible exact hM) | (with_reducible apply mem_alloc) | (with_reducible apply mem_set) | (with_reducible apply mem_drew) | (with_reducible apply mem_drewN))); done)); (focus ((repeat' (first | (with_reducible exact hB) | (with_reducible exact Below.refl _ _) | (with_reducible refine Below.alloc ?_ ?_ _) | (with_reducible refine Below.setCell ?_ ?_ _) | (with_reducible refine Below.drew ?_) | (with_reducible refine below_drewN ?_ _) | (with_reducible exact Nat.le_refl _) | (with_reducible exact hB.size) | (simp [go_sem]; done) | (have := hB.size; simp [go_sem]; omega))); done)); (focus ((repeat' (first | (with_reducible exact hB) | (with_reducible exact Below.refl _ _) | (with_reducible refine Below.alloc ?_ ?_ _) | (with_reducible refine Below.setCell ?_ ?_ _) | (with_reducible refine Below.drew ?_) | (with_reducible refine below_drewN ?_ _) | (with_reducible exact Nat.le_refl _) | (with_reducible exact hB.size) | (simp [go_sem]; done) | (have := hB.size; simp [go_sem]; omega))); done)); clear hM hB hb; intro hM hB; (try clear hC); have hC := mem_facts hM; simp at hC))
  go_ret
  exact ⟨rfl, st4_same' h (by (repeat' (first | (with_reducible exact hB) | (with_reducible exact Below.refl _ _) | (with_reducible refine Below.alloc ?_ ?_ _) | (with_reducible refine Below.setCell ?_ ?_ _) | (with_reducible refine Below.drew ?_) | (with_reducible refine below_drewN ?_ _) | (with_reducible exact Nat.le_refl _) | (with_reducible exact hB.size) | (simp [go_sem]; done) | (have := hB.size; simp [go_sem]; omega))))⟩
def lsD (a b c d : Int) : List (List UInt8) := [[109, 97, 116] ++ 32 :: matT a b c d, [100, 101, 116], [116, 114, 97, 99, 101]]
/-- what the script's lines come to -/
def stD (a b c d D n : Int) (pre : List (List UInt8)) : M × List UInt8 :=
  match pre with
  | [] => (unitM, [])
  | [_] => (⟨a, b, c, d⟩, [111, 107, 10])
  | [_, _] => (⟨a, b, c, d⟩, [111, 107, 10] ++ (Lib.itoa D ++ [10]))
  | _ => (⟨a, b, c, d⟩, [111, 107, 10] ++ (Lib.itoa D ++ [10]) ++ (Lib.itoa n ++ [10]))
theorem no10_spl : ∀ (ns : List Int), (10 : UInt8) ∉ spL (ns.map Lib.itoa)
  | [] => by simp [spL]
  | [n] => itoa_no10 n
  | n :: m :: ns => by
    have h1 := itoa_no10 n
    have h2 := no10_spl (m :: ns)
    simp only [List.map_cons, spL_cons] at h2 ⊢
    simp only [List.mem_append, List.mem_cons, not_or]
    exact ⟨h1, by decide, h2⟩
set_option maxHeartbeats 2000000 in
set_option maxRecDepth 100000 in
/-- as answerA_, the method being asked only in worlds in which what was there stands -/
theorem answerB_ (p q b : Nat) (m m' : M) (word out : List UInt8) (k : Nat) (hk : findW word aloneL = some k) (hw : (32 : UInt8) ∉ word) (w : World) (hp : MapsAt p q w) (hb : BenchAt b m w)
    (hent : ∀ args w, (callFunc k args).run Tryz.prog w = .ok (.enter k args) w) (hdo : ∀ w', BenchAt b m w' → Below w.heap.size w w' → Calls Tryz.prog k #[.pointer (some ⟨b, 0, none⟩)] w' fun e w'' => e = .returned (.string (tx out)) ∧ Below w'.heap.size (st4 w' b m') w'') :
    Calls Tryz.prog 30 #[.agg #[.map (some p), .map (some q)], .pointer (some ⟨b, 0, none⟩), .string (tx word)] w fun e w' => e = .returned (.string (tx out)) ∧ Below w.heap.size (st4 w b m') w' := by
  have hmf : ∀ (fn : Fn) (first cap : Array Value) (w : World), (Instr.makeFunc fn first cap).run Tryz.prog w = .ok (.func fn first cap) w := fun _ _ _ _ => rfl
  have hcut := cut0_ word 32 hw
  have hM := mem_nil w; have hB := Below.refl w.heap.size w; have hC := True.intro
  go_enter_defers Tryz.func30, Tryz.ntmps30
  go_wp2_with (go_at_call 75; refine (hcut _).mono ?_; rintro e w' ⟨rfl, hb⟩; apply after_call (w := w) hb; (focus ((repeat' (first | (with_reducible exact hM) | (with_reducible apply mem_alloc) | (with_reducible apply mem_set) | (with_reducible apply mem_drew) | (with_reducible apply mem_drewN))); done)); (focus ((repeat' (first | (with_reducible exact hB) | (with_reducible exact Below.refl _ _) | (with_reducible refine Below.alloc ?_ ?_ _) | (with_reducible refine Below.setCell ?_ ?_ _) | (with_reducible refine Below.drew ?_) | (with_reducible refine below_drewN ?_ _) | (with_reducible exact Nat.le_refl _) | (with_reducible exact hB.size) | (simp [go_sem]; done) | (have := hB.size; simp [go_sem]; omega))); done)); (focus ((repeat' (first | (with_reducible exact hB) | (with_reducible exact Below.refl _ _) | (with_reducible refine Below.alloc ?_ ?_ _) | (with_reducible refine Below.setCell ?_ ?_ _) | (with_reducible refine Below.drew ?_) | (with_reducible refine below_drewN ?_ _) | (with_reducible exact Nat.le_refl _) | (with_reducible exact hB.size) | (simp [go_sem]; done) | (have := hB.size; simp [go_sem]; omega))); done)); clear hM hB hb; intro hM hB; (try clear hC); have hC := mem_facts hM; simp at hC)
  have hl := run_look Tryz.underlying47 Tryz.underlying9 Tryz.zeroValue80 w' p aloneL aloneL.length word (hp.below hB).1
  rw [hk] at hl
  simp only at hl
  rw [hl]
  simp only [Result.andThen]
  rw [Oper.upon_value]
  go_wp2
  have hbl : b < w.heap.size := mem_lt hb
  refine (hdo _ ((hB.block b hbl).trans hb) (by (repeat' (first | (with_reducible exact hB) | (with_reducible exact Below.refl _ _) | (with_reducible refine Below.alloc ?_ ?_ _) | (with_reducible refine Below.setCell ?_ ?_ _) | (with_reducible refine Below.drew ?_) | (with_reducible refine below_drewN ?_ _) | (with_reducible exact Nat.le_refl _) | (with_reducible exact hB.size) | (simp [go_sem]; done) | (have := hB.size; simp [go_sem]; omega))))).mono ?_
  rintro e w2 ⟨rfl, hb2⟩
  have hM2 := mem_below (by rw [st4_size]; exact hb2) (mem_st4 (b := b) m' hM (by simp; omega))
  have hB2 : Below w.heap.size (st4 w b m') w2 := (st4_below b m' hbl hB).trans (hb2.mono hB.size)
  clear hM hB hC hl
  have hM := hM2
  have hB := hB2
  clear hM2 hB2
  have hC := mem_facts hM
  simp at hC
  go_wp2
  have hM1 := mem_set (w.heap.size + 1) 0 (.string (tx out)) hM
  have hB1 : Below w.heap.size (st4 w b m') (w2.setCell ⟨w.heap.size + 1, 0, none⟩ (.string (tx out))) := hB.setCell (p := ⟨w.heap.size + 1, 0, none⟩) (by simp) _
  simp at hM1
  refine leaves_cons (f := 74) (args := #[.pointer (some ⟨w.heap.size + 1, 0, none⟩)]) (by simp) (by simp [go_sem]) ?_
  refine (answer1_ _ _).mono ?_
  rintro e u' w3 ⟨rfl, rfl, hb3⟩
  have hM3 := mem_below hb3 hM1
  have hB3 : Below w.heap.size (st4 w b m') w3 := below_call hB1 (by have := hB1.size; rw [st4_size] at this; exact this) hb3
  have hC3 := mem_facts hM3
  simp at hC3
  simp [Leaves, settle, results, Tryz.results30, go_sem, hC3]
  exact hB3
set_option maxHeartbeats 1000000 in
theorem ExecuteD_ (a b c d D n : Int) (sa : Sm a) (sb : Sm b) (sc : Sm c) (sd : Sm d) (hD : mdet ⟨a, b, c, d⟩ = (D, true)) (hD0 : -1000000000000 ≤ D) (hD1 : D ≤ 1000000000000) (hn : mtr ⟨a, b, c, d⟩ = (n, true)) (hn0 : -1000000 ≤ n) (hn1 : n ≤ 1000000) (w : World) (hT : TabB w.heap.size w) :
    Calls Tryz.prog 8 #[.string (tx (nlL (lsD a b c d)))] w (fun E' W' => E' = .returned (.string (tx ([111, 107, 10] ++ (Lib.itoa D ++ [10]) ++ (Lib.itoa n ++ [10]) ++ ([116, 114, 97, 99, 101, 32] ++ Lib.itoa n ++ [10])))) ∧ Below w.heap.size w W') := by
  have hml := matT_len sa sb sc sd
  have hi1 := Lib.itoa_length_le D (by omega) (by omega)
  have hi2 := Lib.itoa_length_le n (by omega) (by omega)
  refine Execute_ (lsD a b c d) ?_ ?_ (stD a b c d D n) rfl ?_ n hn (by omega) (by omega) w hT ?_
  · intro l hl
    simp only [lsD, List.mem_cons, List.mem_nil_iff, or_false] at hl
    rcases hl with rfl | rfl | rfl
    · have := no10_spl [a, b, c, d]
      simp only [List.mem_append, List.mem_cons, not_or]
      exact ⟨by decide, by decide, this⟩
    · decide
    · decide
  · simp [lsD, nlL]
    omega
  · intro pre
    unfold stD
    split <;> simp <;> omega
  · intro pre x post hx
    rcases pre with _ | ⟨p1, pre⟩
    · obtain ⟨rfl, rfl⟩ : [109, 97, 116] ++ 32 :: matT a b c d = x ∧ [[100, 101, 116], [116, 114, 97, 99, 101]] = post := by simpa [lsD] using hx
      refine ⟨[111, 107], rfl, fun p q k W hp hb _ => ?_⟩
      exact answerR_ p q k unitM ⟨a, b, c, d⟩ [109, 97, 116] (matT a b c d) [111, 107] 55 (by decide) (by decide) (by simp; omega) W hp hb (enters_of Tryz.func55 (by kernel_rfl) rfl) fun w' h' => mat9_ k unitM a b c d sa sb sc sd w' h'
    · rcases pre with _ | ⟨p2, pre⟩
      · obtain ⟨rfl, rfl, rfl⟩ : [109, 97, 116] ++ 32 :: matT a b c d = p1 ∧ [100, 101, 116] = x ∧ [[116, 114, 97, 99, 101]] = post := by simpa [lsD] using hx
        refine ⟨Lib.itoa D, rfl, fun p q k W hp hb hTW => ?_⟩
        exact answerB_ p q k ⟨a, b, c, d⟩ ⟨a, b, c, d⟩ [100, 101, 116] (Lib.itoa D) 49 (by decide) (by decide) W hp hb (enters_of Tryz.func49 (by kernel_rfl) rfl) fun w' h' hw' => det9_ k ⟨a, b, c, d⟩ D hD (by omega) (by omega) w' (hTW.later hw') h'
      · rcases pre with _ | ⟨p3, pre⟩
        · obtain ⟨rfl, rfl, rfl, rfl⟩ : [109, 97, 116] ++ 32 :: matT a b c d = p1 ∧ [100, 101, 116] = p2 ∧ [116, 114, 97, 99, 101] = x ∧ [] = post := by simpa [lsD] using hx
          refine ⟨Lib.itoa n, rfl, fun p q k W hp hb hTW => ?_⟩
          exact answerB_ p q k ⟨a, b, c, d⟩ ⟨a, b, c, d⟩ [116, 114, 97, 99, 101] (Lib.itoa n) 31 (by decide) (by decide) W hp hb (enters_of Tryz.func31 (by kernel_rfl) rfl) fun w' h' hw' => trace9_ k ⟨a, b, c, d⟩ n hn (by omega) (by omega) w' (hTW.later hw') h'
        · simp [lsD] at hx
end Go.Proofs.YtpalgnfimelioaaGreatDoor
