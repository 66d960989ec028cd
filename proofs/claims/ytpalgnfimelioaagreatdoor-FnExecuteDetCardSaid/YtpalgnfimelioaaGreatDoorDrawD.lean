
/- Texts that are drawn: a text n times; a word, seldom another text; and the matrix of a word. -/
import Derived.Test.YtpalgnfimelioaaGreatDoorDrawC
import Derived.Test.YtpalgnfimelioaaGreatDoorSpecA
namespace Go.Proofs.YtpalgnfimelioaaGreatDoor
open Go.RowKit

def ManyPost (N : Nat) (w : World) (e : Ending) (w' : World) : Prop := ∃ s : ByteArray, e = .returned (.string s) ∧ s.size ≤ N ∧ w = w'
def ManyRel (N : Nat) (s n o : Value) : Prop := ∃ (S O : ByteArray) (k : Nat), s = .string S ∧ n = .int .i64 k ∧ o = .string O ∧ O.size + k * S.size ≤ N ∧ S.size ≤ 2 * N ∧ k ≤ 100
theorem many_ (S0 : ByteArray) (n0 N : Nat) (h1 : n0 * S0.size ≤ N) (h2 : S0.size ≤ 2 * N) (h3 : n0 ≤ 100) (h4 : N ≤ 1000) (w : World) :
    Calls Tryz.prog 16 #[.string S0, .int .i64 n0] w (ManyPost N w) := by
  go_enter Tryz.func16, Tryz.ntmps16
  go_wp2
  go_loop [0, 1, 5] (ManyRel N) (fun _ n _ => (intOf n).toNat)
  case atStart => exact ⟨S0, _, n0, rfl, rfl, rfl, by show 0 + _ ≤ _; omega, h2, h3⟩
  case round =>
    obtain ⟨S, O, k, rfl, rfl, rfl, hO, hS, hk⟩ := hrel
    by_cases hk0 : k = 0
    · subst hk0
      go_wp2
      go_ret
      exact ⟨O, rfl, by omega, rfl⟩
    · by_cases hodd : k % 2 = 1
      · have e : k * S.size = 2 * (k / 2 * S.size) + S.size := by
          have : k = 2 * (k / 2) + 1 := by omega
          calc k * S.size = (2 * (k / 2) + 1) * S.size := by rw [← this]
            _ = _ := by rw [Nat.add_mul, Nat.mul_assoc, Nat.one_mul]
        have E := Lib.hid e
        clear e
        have hodd' : (k : Int) % 2 = 1 := by omega
        have HO := Lib.hid hodd
        clear hodd
        go_wp2
        go_round
        case rel => exact ⟨S ++ S, O ++ S, k / 2, rfl, by go_num, rfl, by have := E.out; simp only [ByteArray.size_append, Nat.mul_add]; omega, by have := E.out; simp only [ByteArray.size_append]; omega, by omega⟩
        case measure => simp [intOf]; omega
      · have e : k * S.size = 2 * (k / 2 * S.size) := by
          have : k = 2 * (k / 2) := by omega
          calc k * S.size = (2 * (k / 2)) * S.size := by rw [← this]
            _ = _ := by rw [Nat.mul_assoc]
        have e3 : S.size ≤ k / 2 * S.size := Nat.le_mul_of_pos_left _ (by omega)
        have E := Lib.hid e
        have E3 := Lib.hid e3
        clear e e3
        have hodd' : (k : Int) % 2 = 0 := by omega
        have HO := Lib.hid hodd
        clear hodd
        go_wp2
        go_round
        case rel => exact ⟨S ++ S, O, k / 2, rfl, by go_num, rfl, by have := E.out; simp only [ByteArray.size_append, Nat.mul_add]; omega, by have := E.out; have := E3.out; simp only [ByteArray.size_append]; omega, by omega⟩
        case measure => simp [intOf]; omega
theorem many21 (w : World) : Calls Tryz.prog 16 #[.string ⟨#[76, 82]⟩, .int .i64 21] w (ManyPost 42 w) := many_ ⟨#[76, 82]⟩ 21 42 (by decide) (by decide) (by decide) (by decide) w
theorem many20 (w : World) : Calls Tryz.prog 16 #[.string ⟨#[76, 82]⟩, .int .i64 20] w (ManyPost 40 w) := many_ ⟨#[76, 82]⟩ 20 40 (by decide) (by decide) (by decide) (by decide) w

theorem l3Turn_ (a b c d : Int) (w : World) : Calls Tryz.prog 159 #[.agg #[.int .i64 a, .int .i64 b, .int .i64 c, .int .i64 d]] w (fun E' W' => E' = .returned (.agg #[.int .i64 b, .int .i64 (wrap64 (-a)), .int .i64 d, .int .i64 (wrap64 (-c))]) ∧ Below w.heap.size w W') := by
  have hM := mem_nil w; have hB := Below.refl w.heap.size w; have hC := True.intro
  go_enter Tryz.func159, Tryz.ntmps159
  go_wp2
  refine bodyPost_ret (by (simp [results, Tryz.results159, go_sem, *]; try rfl)) rfl ?_
  exact ⟨by simp, by (repeat' (first | (with_reducible exact hB) | (with_reducible exact Below.refl _ _) | (with_reducible refine Below.alloc ?_ ?_ _) | (with_reducible refine Below.setCell ?_ ?_ _) | (with_reducible refine Below.drew ?_) | (with_reducible refine below_drewN ?_ _) | (with_reducible exact Nat.le_refl _) | (with_reducible exact hB.size) | (simp [go_sem]; done) | (have := hB.size; simp [go_sem]; omega)))⟩

/-- what a function leaves that makes a matrix and changes nothing -/
def MatPost (w : World) (e : Ending) (w' : World) : Prop := ∃ a b c d : Int, e = .returned (.agg #[.int .i64 a, .int .i64 b, .int .i64 c, .int .i64 d]) ∧ Below w.heap.size w w'
def L2Rel (w w0 : World) (n : Nat) (v : Value) (wr : World) : Prop := ∃ (j : Nat) (a b c d : Int), j ≤ n ∧ v = .int .i64 j ∧
  Mem wr [(w0.heap.size, #[.int .i64 a, .int .i64 b, .int .i64 c, .int .i64 d], 25), (w.heap.size, #[.int .i64 0, .int .i64 0, .int .i64 0, .int .i64 0], 25)] ∧ Below w.heap.size w wr
theorem l2Mat_ (s : ByteArray) (hs : s.size ≤ 1000) (w : World) : Calls Tryz.prog 24 #[.string s] w (MatPost w) := by
  have hM := mem_nil w; have hB := Below.refl w.heap.size w; have hC := True.intro
  go_enter Tryz.func24, Tryz.ntmps24
  go_wp2_with (first | (go_at_call 43; refine (l1Unit_ _).mono ?_; rintro e w' ⟨rfl, hb⟩; apply after_call (w := w) hb; (focus ((repeat' (first | (with_reducible exact hM) | (with_reducible apply mem_alloc) | (with_reducible apply mem_set) | (with_reducible apply mem_drew) | (with_reducible apply mem_drewN))); done)); (focus ((repeat' (first | (with_reducible exact hB) | (with_reducible exact Below.refl _ _) | (with_reducible refine Below.alloc ?_ ?_ _) | (with_reducible refine Below.setCell ?_ ?_ _) | (with_reducible refine Below.drew ?_) | (with_reducible refine below_drewN ?_ _) | (with_reducible exact Nat.le_refl _) | (with_reducible exact hB.size) | (simp [go_sem]; done) | (have := hB.size; simp [go_sem]; omega))); done)); (focus ((repeat' (first | (with_reducible exact hB) | (with_reducible exact Below.refl _ _) | (with_reducible refine Below.alloc ?_ ?_ _) | (with_reducible refine Below.setCell ?_ ?_ _) | (with_reducible refine Below.drew ?_) | (with_reducible refine below_drewN ?_ _) | (with_reducible exact Nat.le_refl _) | (with_reducible exact hB.size) | (simp [go_sem]; done) | (have := hB.size; simp [go_sem]; omega))); done)); clear hM hB hb; intro hM hB; (try clear hC); have hC := mem_facts hM; simp at hC))
  obtain ⟨w0, rfl⟩ : ∃ w0 : World, w0 = w' := ⟨_, rfl⟩
  go_loopw [4] (L2Rel w w0 s.size) (fun v _ => s.size - (intOf v).toNat)
  case atStart =>
    refine ⟨0, 1, 0, 0, 1, Nat.zero_le _, rfl, ?_, by (repeat' (first | (with_reducible exact hB) | (with_reducible exact Below.refl _ _) | (with_reducible refine Below.alloc ?_ ?_ _) | (with_reducible refine Below.setCell ?_ ?_ _) | (with_reducible refine Below.drew ?_) | (with_reducible refine below_drewN ?_ _) | (with_reducible exact Nat.le_refl _) | (with_reducible exact hB.size) | (simp [go_sem]; done) | (have := hB.size; simp [go_sem]; omega)))⟩
    apply mem_drop 0
    · (repeat' (first | (with_reducible exact hM) | (with_reducible apply mem_alloc) | (with_reducible apply mem_set) | (with_reducible apply mem_drew) | (with_reducible apply mem_drewN)))
    · simp
  case round =>
    obtain ⟨j, a, b, c, d, hj, rfl, hM', hB'⟩ := hrel
    (try clear hC); clear hM hB; have hM := hM'; have hB := hB'; clear hM' hB'; have hC := mem_facts hM; simp at hC
    by_cases hlt : j < s.size
    · go_wp2
      · go_roundw
        case rel =>
          refine ⟨j + 1, wrap64 (a + b), b, wrap64 (c + d), d, by omega, by go_num, ?_, by (repeat' (first | (with_reducible exact hB) | (with_reducible exact Below.refl _ _) | (with_reducible refine Below.alloc ?_ ?_ _) | (with_reducible refine Below.setCell ?_ ?_ _) | (with_reducible refine Below.drew ?_) | (with_reducible refine below_drewN ?_ _) | (with_reducible exact Nat.le_refl _) | (with_reducible exact hB.size) | (simp [go_sem]; done) | (have := hB.size; simp [go_sem]; omega)))⟩
          apply mem_drop 0
          · (repeat' (first | (with_reducible exact hM) | (with_reducible apply mem_alloc) | (with_reducible apply mem_set) | (with_reducible apply mem_drew) | (with_reducible apply mem_drewN)))
          · simp [*]
        case measure => simp [intOf]; omega
      · go_roundw
        case rel =>
          refine ⟨j + 1, a, wrap64 (a + b), c, wrap64 (c + d), by omega, by go_num, ?_, by (repeat' (first | (with_reducible exact hB) | (with_reducible exact Below.refl _ _) | (with_reducible refine Below.alloc ?_ ?_ _) | (with_reducible refine Below.setCell ?_ ?_ _) | (with_reducible refine Below.drew ?_) | (with_reducible refine below_drewN ?_ _) | (with_reducible exact Nat.le_refl _) | (with_reducible exact hB.size) | (simp [go_sem]; done) | (have := hB.size; simp [go_sem]; omega)))⟩
          apply mem_drop 0
          · (repeat' (first | (with_reducible exact hM) | (with_reducible apply mem_alloc) | (with_reducible apply mem_set) | (with_reducible apply mem_drew) | (with_reducible apply mem_drewN)))
          · simp [*]
        case measure => simp [intOf]; omega
    · go_wp2
      refine bodyPost_ret (by (simp [results, Tryz.results24, go_sem, *]; try rfl)) rfl ?_
      exact ⟨a, b, c, d, rfl, by (repeat' (first | (with_reducible exact hB) | (with_reducible exact Below.refl _ _) | (with_reducible refine Below.alloc ?_ ?_ _) | (with_reducible refine Below.setCell ?_ ?_ _) | (with_reducible refine Below.drew ?_) | (with_reducible refine below_drewN ?_ _) | (with_reducible exact Nat.le_refl _) | (with_reducible exact hB.size) | (simp [go_sem]; done) | (have := hB.size; simp [go_sem]; omega)))⟩

theorem of_new (R B q m k : Nat) (ss : Array Value) (wr : World) (hm : 1 ≤ m ∧ m ≤ 100) (hs : ∀ i, i < m → ∃ s : ByteArray, s.size ≤ k ∧ ss[i]? = some (.string s))
    (hR : Rdr (wr.alloc (.cells ss 9)) R B q) (hq : q ≤ 900000) :
    Calls Tryz.prog 38 #[.pointer (some ⟨R, 0, none⟩), .slice (some ⟨wr.heap.size, 0, none⟩) m m] (wr.alloc (.cells ss 9)) (DPost (IsText k) R B (q + 1) (wr.alloc (.cells ss 9))) := by
  refine of_ R B q wr.heap.size m k _ hm ⟨by simp, fun e => ?_⟩ (fun i hi => ?_) hR hq
  · obtain ⟨A, n, c, p, z, h1, _⟩ := hR
    rw [← e, heap_alloc_new] at h1
    injection h1 with h1
    injection h1 with _ h1
    exact absurd h1 (by decide)
  · obtain ⟨s, h1, h2⟩ := hs i hi
    exact ⟨s, h1, by rw [World.cell?_alloc_new]; exact h2⟩
theorem of2 (R B q : Nat) (wr : World) (_hB : B ≤ (wr.alloc (.cells #[.string ⟨#[76]⟩, .string ⟨#[82]⟩] 9)).heap.size) (hR : Rdr (wr.alloc (.cells #[.string ⟨#[76]⟩, .string ⟨#[82]⟩] 9)) R B q) (hq : q ≤ 900000) :
    Calls Tryz.prog 38 #[.pointer (some ⟨R, 0, none⟩), .slice (some ⟨wr.heap.size, 0, none⟩) 2 2] (wr.alloc (.cells #[.string ⟨#[76]⟩, .string ⟨#[82]⟩] 9)) (DPost (IsText 1) R B (q + 1) (wr.alloc (.cells #[.string ⟨#[76]⟩, .string ⟨#[82]⟩] 9))) :=
  of_new R B q 2 1 _ wr (by decide) (fun i hi => by
    rcases i with _ | _ | i
    · exact ⟨⟨#[76]⟩, by decide, rfl⟩
    · exact ⟨⟨#[82]⟩, by decide, rfl⟩
    · omega) hR hq
theorem of3 (R B q : Nat) (t : ByteArray) (ht : t.size ≤ 42) (wr : World) (_hB : B ≤ (wr.alloc (.cells #[.string ⟨#[120]⟩, .string ⟨#[108]⟩, .string t] 9)).heap.size) (hR : Rdr (wr.alloc (.cells #[.string ⟨#[120]⟩, .string ⟨#[108]⟩, .string t] 9)) R B q) (hq : q ≤ 900000) :
    Calls Tryz.prog 38 #[.pointer (some ⟨R, 0, none⟩), .slice (some ⟨wr.heap.size, 0, none⟩) 3 3] (wr.alloc (.cells #[.string ⟨#[120]⟩, .string ⟨#[108]⟩, .string t] 9)) (DPost (IsText 42) R B (q + 1) (wr.alloc (.cells #[.string ⟨#[120]⟩, .string ⟨#[108]⟩, .string t] 9))) :=
  of_new R B q 3 42 _ wr (by decide) (fun i hi => by
    rcases i with _ | _ | _ | i
    · exact ⟨⟨#[120]⟩, by decide, rfl⟩
    · exact ⟨⟨#[108]⟩, by decide, rfl⟩
    · exact ⟨t, ht, rfl⟩
    · omega) hR hq

/-- a word, seldom another text: of at most 100 letters -/
def WordRel (R B q : Nat) (w : World) (t i : Value) (wr : World) : Prop := ∃ (j : Nat) (s : ByteArray) , j ≤ 50 ∧ i = .int .i64 j ∧ t = .string s ∧ s.size ≤ j ∧ Inv R B (q + 1 + j) w wr []
theorem inv_nil {R B q : Nat} {w W : World} {L : List (Nat × Array Value × TypeId)} (h : Inv R B q w W L) : Inv R B q w W [] := ⟨mem_nil W, fun p hp => by (cases hp), h.2.2⟩
set_option maxHeartbeats 1000000 in
theorem l91Word_ (R B q : Nat) (most : Int) (w : World) (h1 : 0 ≤ most ∧ most ≤ 40) (hB : B ≤ w.heap.size) (hR : Rdr w R B q) (hq : q ≤ 800000) : Calls Tryz.prog 17 #[.pointer (some ⟨R, 0, none⟩), .int .i64 most] w (DPost (IsText 100) R B (q + 60) w) := by
  have hI := inv_start hR hB
  clear hR
  go_enter Tryz.func17, Tryz.ntmps17
  go_wp2_with (go_at_call 15; apply use_rd (w := w) (R := R) (fun hb hr hq => pickD _ _ _ _ _ hb hr hq); (focus ((repeat' (first | (with_reducible exact hI) | (with_reducible apply inv_alloc) | (with_reducible apply inv_drew) | (with_reducible apply inv_drewN) | (with_reducible apply inv_set) | (simp only [setL_map]; simp; done) | (simp; done))); done)); (focus omega); rintro v' w' ⟨x, rfl, hx0, hx1, _⟩; clear hI; intro hI; (try simp at hI); (try clear hC); have hC := mem_facts hI.1; simp at hC)
  have hx := hx1 (by omega)
  clear hx1
  go_loopw [5, 7] (WordRel R B q w) (fun _ i _ => (x - intOf i).toNat)
  case atStart => exact ⟨0, _, by omega, rfl, rfl, Nat.le_refl _, hI⟩
  case round =>
    obtain ⟨j, s, hj, rfl, rfl, hs, hI'⟩ := hrel
    clear hI
    have hI := hI'
    clear hI'
    by_cases hlt : (j : Int) < x
    · go_wp2_with (go_at_call 38; apply use_rd (w := w) (R := R) (fun hb hr hq => of2 _ _ _ _ hb hr hq); (focus ((repeat' (first | (with_reducible exact hI) | (with_reducible apply inv_alloc) | (with_reducible apply inv_drew) | (with_reducible apply inv_drewN) | (with_reducible apply inv_set) | (simp only [setL_map]; simp; done) | (simp; done))); done)); (focus omega); rintro v' w' ⟨s', rfl, hs'⟩; clear hI; intro hI; (try simp at hI); (try clear hC); have hC := mem_facts hI.1; simp at hC)
      go_roundw
      case rel => exact ⟨j + 1, s ++ s', by omega, by go_num, rfl, by simp only [ByteArray.size_append]; omega, inv_nil (inv_mono hI (by omega))⟩
      case measure => simp [intOf]; omega
    · go_wp2_with (first | (go_at_call 15; apply use_rd (w := w) (R := R) (fun hb hr hq => pickD _ _ _ _ _ hb hr hq); (focus ((repeat' (first | (with_reducible exact hI) | (with_reducible apply inv_alloc) | (with_reducible apply inv_drew) | (with_reducible apply inv_drewN) | (with_reducible apply inv_set) | (simp only [setL_map]; simp; done) | (simp; done))); done)); (focus omega); rintro v' w' ⟨y, rfl, hy0, hy1, _⟩; clear hI; intro hI; (try simp at hI); (try clear hC); have hC := mem_facts hI.1; simp at hC))
      · refine (many21 _).mono ?_
        rintro e w1 ⟨t, rfl, ht, rfl⟩
        go_wp2_with (go_at_call 38; apply use_rd (w := w) (R := R) (fun hb hr hq => of3 _ _ _ _ ht _ hb hr hq); (focus ((repeat' (first | (with_reducible exact hI) | (with_reducible apply inv_alloc) | (with_reducible apply inv_drew) | (with_reducible apply inv_drewN) | (with_reducible apply inv_set) | (simp only [setL_map]; simp; done) | (simp; done))); done)); (focus omega); rintro v' w' ⟨s', rfl, hs'⟩; clear hI; intro hI; (try simp at hI); (try clear hC); have hC := mem_facts hI.1; simp at hC)
        go_ret
        exact inv_end hI (by omega) ⟨_, rfl, by simp only [ByteArray.size_append]; omega⟩
      · go_ret
        exact inv_end hI (by omega) ⟨_, rfl, by omega⟩

theorem word (R B q : Nat) (most : Int) (h1 : 0 ≤ most ∧ most ≤ 40) (w : World) (hB : B ≤ w.heap.size) (hR : Rdr w R B q) (hq : q ≤ 800000) : Calls Tryz.prog 17 #[.pointer (some ⟨R, 0, none⟩), .int .i64 most] w (DPost (IsText 100) R B (q + 60) w) := l91Word_ R B q most w h1 hB hR hq
theorem word6 (R B q : Nat) (w : World) (hB : B ≤ w.heap.size) (hR : Rdr w R B q) (hq : q ≤ 800000) : Calls Tryz.prog 17 #[.pointer (some ⟨R, 0, none⟩), .int .i64 6] w (DPost (IsText 100) R B (q + 60) w) := l91Word_ R B q 6 w (by decide) hB hR hq
theorem word3 (R B q : Nat) (w : World) (hB : B ≤ w.heap.size) (hR : Rdr w R B q) (hq : q ≤ 800000) : Calls Tryz.prog 17 #[.pointer (some ⟨R, 0, none⟩), .int .i64 3] w (DPost (IsText 100) R B (q + 60) w) := l91Word_ R B q 3 w (by decide) hB hR hq
end Go.Proofs.YtpalgnfimelioaaGreatDoor
