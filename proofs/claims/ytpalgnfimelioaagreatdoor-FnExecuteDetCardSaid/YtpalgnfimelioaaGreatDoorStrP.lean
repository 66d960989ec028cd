
/- The library's small functions on texts, walked: IndexByte, Index of one byte, Cut, CutSuffix, CutPrefix, Join of one text. No condition. -/
import Derived.Test.YtpalgnfimelioaaGreatDoorIter
import Derived.Lib.Strings
import Derived.Lib.Slices
import Derived.Lib.Walk
import Derived.Lib.Bytealg
import Derived.Laws.Strings3
namespace Go.Proofs.YtpalgnfimelioaaGreatDoor
open Go.RowKit

/-- a text of these bytes -/
def tx (l : List UInt8) : ByteArray := ⟨l.toArray⟩
theorem tx_list (l : List UInt8) : (tx l).data.toList = l := rfl
theorem tx_size (l : List UInt8) : (tx l).size = l.length := rfl
theorem tx_eta (s : ByteArray) : s = tx s.data.toList := rfl
theorem ba_ext {s t : ByteArray} (h : s.data.toList = t.data.toList) : s = t := by
  rw [tx_eta s, tx_eta t, h]
theorem tx_inj {l m : List UInt8} : tx l = tx m ↔ l = m := ⟨fun h => by rw [← tx_list l, h, tx_list], fun h => by rw [h]⟩

theorem idx_hit {c : UInt8} : ∀ {l m : List UInt8}, c ∉ l → Lib.indexByte (l ++ c :: m) c = l.length
  | [], m, _ => by simp [Lib.indexByte]
  | b :: l, m, h => by
    have hb : (b == c) = false := by simpa using fun e => h (by simp [e])
    have ih := idx_hit (c := c) (l := l) (m := m) (fun hm => h (List.mem_cons_of_mem _ hm))
    simp only [List.cons_append, Lib.indexByte, hb, ih]
    simp
theorem idx_miss {c : UInt8} : ∀ {l : List UInt8}, c ∉ l → Lib.indexByte l c = -1
  | [], _ => rfl
  | b :: l, h => by
    have hb : (b == c) = false := by simpa using fun e => h (by simp [e])
    have ih := idx_miss (c := c) (l := l) (fun hm => h (List.mem_cons_of_mem _ hm))
    simp only [Lib.indexByte, hb, ih]
    rfl

set_option maxHeartbeats 1000000 in
set_option maxRecDepth 100000 in
theorem xSliteIndexByte_ (s : ByteArray) (c : Int) (w : World) : Calls Tryz.prog 111 #[.string s, .int .u8 c] w (fun E' W' => E' = .returned (.int .i64 (Lib.indexByte s.data.toList c.toNat.toUInt8)) ∧ w = W') := by
  go_enter Tryz.func111, Tryz.ntmps111
  go_wp2
  rw [run_callFunc_extern Tryz.func155 (by kernel_rfl) (by kernel_rfl) (by kernel_rfl) (e := Extern.BytealgIndexByte.indexByte) (by kernel_rfl), Lib.run_indexByteString]
  simp only [Result.andThen]
  rw [Oper.upon_value]
  go_wp2
  go_ret
  exact ⟨rfl, rfl⟩
theorem xIndexByte_ (s : ByteArray) (c : Int) (w : World) : Calls Tryz.prog 71 #[.string s, .int .u8 c] w (fun E' W' => E' = .returned (.int .i64 (Lib.indexByte s.data.toList c.toNat.toUInt8)) ∧ w = W') := by
  go_enter Tryz.func71, Tryz.ntmps71
  go_wp2_with (go_at_call 111; refine (xSliteIndexByte_ _ _ _).mono ?_; rintro e w' ⟨rfl, rfl⟩)
  go_ret
  exact ⟨rfl, rfl⟩
set_option maxHeartbeats 2000000 in
set_option maxRecDepth 100000 in
theorem sliteIndex1_ (s : ByteArray) (c : UInt8) (w : World) : Calls Tryz.prog 156 #[.string s, .string ⟨#[c]⟩] w (fun E' W' => E' = .returned (.int .i64 (Lib.indexByte s.data.toList c)) ∧ w = W') := by
  go_enter Tryz.func156, Tryz.ntmps156
  go_wp2_with (go_at_call 111; refine (xSliteIndexByte_ _ _ _).mono ?_; rintro e w' ⟨rfl, rfl⟩)
  · have h : ([c] == s.toList) = true := by assumption
    go_ret
    refine ⟨?_, rfl⟩
    have e : s.data.toList = [c] := by rw [← Lib.toList_data]; exact (beq_iff_eq.1 h).symm
    rw [e]
    simp [Lib.indexByte]
  · go_ret
    exact ⟨rfl, rfl⟩
theorem w64 {x : Int} (h0 : 0 ≤ x) (h1 : x ≤ 9223372036854775807) : wrap64 x = x := by simp only [wrap64]; omega
theorem tx_take (l m : List UInt8) : (tx (l ++ m)).extract 0 l.length = tx l := ba_ext (by simp [tx])
theorem tx_drop (l m : List UInt8) : (tx (l ++ m)).extract l.length (l.length + m.length) = tx m := ba_ext (by simp [tx])
theorem tx_drop1 (l m : List UInt8) (c : UInt8) : (tx (l ++ c :: m)).extract (l.length + 1) (l.length + (m.length + 1)) = tx m := ba_ext (by
  have : l.length + (m.length + 1) - (l.length + 1) = m.length := by omega
  simp [tx, this])
set_option maxHeartbeats 1000000 in
set_option maxRecDepth 100000 in
theorem sliteCut1_ (l m : List UInt8) (c : UInt8) (h : c ∉ l) (hs : (l ++ c :: m).length ≤ 9223372036854775807) (w : World) : Calls Tryz.prog 114 #[.string (tx (l ++ c :: m)), .string ⟨#[c]⟩] w
    (fun E' W' => E' = .returned (.tuple #[.string (tx l), .string (tx m), .bool true]) ∧ Below w.heap.size w W') := by
  have hi : Lib.indexByte (tx (l ++ c :: m)).data.toList c = (l.length : Int) := by rw [tx_list]; exact idx_hit h
  have hsz : (tx (l ++ c :: m)).size = l.length + (m.length + 1) := by rw [tx_size]; simp
  have hs' : l.length + (m.length + 1) ≤ 9223372036854775807 := by simpa using hs
  have hw : wrap64 ((l.length : Int) + 1) = (l.length : Int) + 1 := w64 (by omega) (by omega)
  have c1 : (l.length : Int) ≤ (l.length : Int) + ((m.length : Int) + 1) := by omega
  have c2 : (l.length : Int) + 1 ≤ (l.length : Int) + ((m.length : Int) + 1) := by omega
  have c3 : (0 : Int) ≤ (l.length : Int) + 1 := by omega
  have e1 := tx_take l (c :: m)
  have e2 := tx_drop1 l m c
  have n1 : ((l.length : Int) + 1).toNat = l.length + 1 := by omega
  have hM := mem_nil w; have hB := Below.refl w.heap.size w; have hC := True.intro
  go_enter Tryz.func114, Tryz.ntmps114
  go_wp2_with ((go_at_call 156; refine (sliteIndex1_ _ _ _).mono ?_; rintro e w' ⟨rfl, rfl⟩); rw [hi])
  go_region
  go_wp2
  go_ret3
  exact ⟨rfl, by (repeat' (first | (with_reducible exact hB) | (with_reducible exact Below.refl _ _) | (with_reducible refine Below.alloc ?_ ?_ _) | (with_reducible refine Below.setCell ?_ ?_ _) | (with_reducible refine Below.drew ?_) | (with_reducible refine below_drewN ?_ _) | (with_reducible exact Nat.le_refl _) | (with_reducible exact hB.size) | (simp [go_sem]; done) | (have := hB.size; simp [go_sem]; omega)))⟩
theorem cut1_ (l m : List UInt8) (c : UInt8) (h : c ∉ l) (hs : (l ++ c :: m).length ≤ 9223372036854775807) (w : World) : Calls Tryz.prog 75 #[.string (tx (l ++ c :: m)), .string ⟨#[c]⟩] w
    (fun E' W' => E' = .returned (.tuple #[.string (tx l), .string (tx m), .bool true]) ∧ Below w.heap.size w W') := by
  have hM := mem_nil w; have hB := Below.refl w.heap.size w; have hC := True.intro
  go_enter Tryz.func75, Tryz.ntmps75
  go_wp2_with (go_at_call 114; refine (sliteCut1_ l m c h hs _).mono ?_; rintro e w' ⟨rfl, hb⟩; apply after_call (w := w) hb; (focus ((repeat' (first | (with_reducible exact hM) | (with_reducible apply mem_alloc) | (with_reducible apply mem_set) | (with_reducible apply mem_drew) | (with_reducible apply mem_drewN))); done)); (focus ((repeat' (first | (with_reducible exact hB) | (with_reducible exact Below.refl _ _) | (with_reducible refine Below.alloc ?_ ?_ _) | (with_reducible refine Below.setCell ?_ ?_ _) | (with_reducible refine Below.drew ?_) | (with_reducible refine below_drewN ?_ _) | (with_reducible exact Nat.le_refl _) | (with_reducible exact hB.size) | (simp [go_sem]; done) | (have := hB.size; simp [go_sem]; omega))); done)); (focus ((repeat' (first | (with_reducible exact hB) | (with_reducible exact Below.refl _ _) | (with_reducible refine Below.alloc ?_ ?_ _) | (with_reducible refine Below.setCell ?_ ?_ _) | (with_reducible refine Below.drew ?_) | (with_reducible refine below_drewN ?_ _) | (with_reducible exact Nat.le_refl _) | (with_reducible exact hB.size) | (simp [go_sem]; done) | (have := hB.size; simp [go_sem]; omega))); done)); clear hM hB hb; intro hM hB; (try clear hC); have hC := mem_facts hM; simp at hC)
  go_ret3
  exact ⟨rfl, by (repeat' (first | (with_reducible exact hB) | (with_reducible exact Below.refl _ _) | (with_reducible refine Below.alloc ?_ ?_ _) | (with_reducible refine Below.setCell ?_ ?_ _) | (with_reducible refine Below.drew ?_) | (with_reducible refine below_drewN ?_ _) | (with_reducible exact Nat.le_refl _) | (with_reducible exact hB.size) | (simp [go_sem]; done) | (have := hB.size; simp [go_sem]; omega)))⟩
set_option maxHeartbeats 1000000 in
set_option maxRecDepth 100000 in
theorem sliteCut0_ (l : List UInt8) (c : UInt8) (h : c ∉ l) (w : World) : Calls Tryz.prog 114 #[.string (tx l), .string ⟨#[c]⟩] w
    (fun E' W' => E' = .returned (.tuple #[.string (tx l), .string (tx []), .bool false]) ∧ Below w.heap.size w W') := by
  have hi : Lib.indexByte (tx l).data.toList c = -1 := by rw [tx_list]; exact idx_miss h
  have hM := mem_nil w; have hB := Below.refl w.heap.size w; have hC := True.intro
  go_enter Tryz.func114, Tryz.ntmps114
  go_wp2_with ((go_at_call 156; refine (sliteIndex1_ _ _ _).mono ?_; rintro e w' ⟨rfl, rfl⟩); rw [hi])
  go_ret3
  exact ⟨rfl, by (repeat' (first | (with_reducible exact hB) | (with_reducible exact Below.refl _ _) | (with_reducible refine Below.alloc ?_ ?_ _) | (with_reducible refine Below.setCell ?_ ?_ _) | (with_reducible refine Below.drew ?_) | (with_reducible refine below_drewN ?_ _) | (with_reducible exact Nat.le_refl _) | (with_reducible exact hB.size) | (simp [go_sem]; done) | (have := hB.size; simp [go_sem]; omega)))⟩
theorem cut0_ (l : List UInt8) (c : UInt8) (h : c ∉ l) (w : World) : Calls Tryz.prog 75 #[.string (tx l), .string ⟨#[c]⟩] w
    (fun E' W' => E' = .returned (.tuple #[.string (tx l), .string (tx []), .bool false]) ∧ Below w.heap.size w W') := by
  have hM := mem_nil w; have hB := Below.refl w.heap.size w; have hC := True.intro
  go_enter Tryz.func75, Tryz.ntmps75
  go_wp2_with (go_at_call 114; refine (sliteCut0_ l c h _).mono ?_; rintro e w' ⟨rfl, hb⟩; apply after_call (w := w) hb; (focus ((repeat' (first | (with_reducible exact hM) | (with_reducible apply mem_alloc) | (with_reducible apply mem_set) | (with_reducible apply mem_drew) | (with_reducible apply mem_drewN))); done)); (focus ((repeat' (first | (with_reducible exact hB) | (with_reducible exact Below.refl _ _) | (with_reducible refine Below.alloc ?_ ?_ _) | (with_reducible refine Below.setCell ?_ ?_ _) | (with_reducible refine Below.drew ?_) | (with_reducible refine below_drewN ?_ _) | (with_reducible exact Nat.le_refl _) | (with_reducible exact hB.size) | (simp [go_sem]; done) | (have := hB.size; simp [go_sem]; omega))); done)); (focus ((repeat' (first | (with_reducible exact hB) | (with_reducible exact Below.refl _ _) | (with_reducible refine Below.alloc ?_ ?_ _) | (with_reducible refine Below.setCell ?_ ?_ _) | (with_reducible refine Below.drew ?_) | (with_reducible refine below_drewN ?_ _) | (with_reducible exact Nat.le_refl _) | (with_reducible exact hB.size) | (simp [go_sem]; done) | (have := hB.size; simp [go_sem]; omega))); done)); clear hM hB hb; intro hM hB; (try clear hC); have hC := mem_facts hM; simp at hC)
  go_ret3
  exact ⟨rfl, by (repeat' (first | (with_reducible exact hB) | (with_reducible exact Below.refl _ _) | (with_reducible refine Below.alloc ?_ ?_ _) | (with_reducible refine Below.setCell ?_ ?_ _) | (with_reducible refine Below.drew ?_) | (with_reducible refine below_drewN ?_ _) | (with_reducible exact Nat.le_refl _) | (with_reducible exact hB.size) | (simp [go_sem]; done) | (have := hB.size; simp [go_sem]; omega)))⟩
set_option maxHeartbeats 1000000 in
/-- a line that ends with a newline, without it -/
theorem cutNl_ (l : List UInt8) (hs : l.length < 9223372036854775807) (w : World) : Calls Tryz.prog 28 #[.string (tx (l ++ [10])), .string ⟨#[10]⟩] w
    (fun E' W' => E' = .returned (.tuple #[.string (tx l), .bool true]) ∧ Below w.heap.size w W') := by
  have hsz : (tx (l ++ [10])).size = l.length + 1 := by rw [tx_size]; simp
  have he : ((tx (l ++ [10])).extract l.length (l.length + 1)).toList = [10] := by rw [Lib.toList_data]; simp [tx]
  have e1 := tx_take l [10]
  have c1 : (1 : Int) ≤ (l.length : Int) + 1 := by omega
  have c2 : (l.length : Int) ≤ (l.length : Int) + 1 := by omega
  have hM := mem_nil w; have hB := Below.refl w.heap.size w; have hC := True.intro
  go_enter Tryz.func28, Tryz.ntmps28
  go_wp2
  go_ret2
  exact ⟨rfl, by (repeat' (first | (with_reducible exact hB) | (with_reducible exact Below.refl _ _) | (with_reducible refine Below.alloc ?_ ?_ _) | (with_reducible refine Below.setCell ?_ ?_ _) | (with_reducible refine Below.drew ?_) | (with_reducible refine below_drewN ?_ _) | (with_reducible exact Nat.le_refl _) | (with_reducible exact hB.size) | (simp [go_sem]; done) | (have := hB.size; simp [go_sem]; omega)))⟩
set_option maxHeartbeats 1000000 in
/-- a text with a minus in front -/
theorem cutMinus_ (l : List UInt8) (hs : l.length < 9223372036854775807) (w : World) : Calls Tryz.prog 173 #[.string (tx (45 :: l)), .string ⟨#[45]⟩] w
    (fun E' W' => E' = .returned (.tuple #[.string (tx l), .bool true]) ∧ Below w.heap.size w W') := by
  have hsz : (tx (45 :: l)).size = l.length + 1 := by rw [tx_size]; simp
  have he : ((tx (45 :: l)).extract 0 1).toList = [45] := by rw [Lib.toList_data]; simp [tx]
  have e1 : (tx (45 :: l)).extract 1 (l.length + 1) = tx l := ba_ext (by simp [tx])
  have c1 : (1 : Int) ≤ (l.length : Int) + 1 := by omega
  have hM := mem_nil w; have hB := Below.refl w.heap.size w; have hC := True.intro
  go_enter Tryz.func173, Tryz.ntmps173
  go_wp2
  go_ret2
  exact ⟨rfl, by (repeat' (first | (with_reducible exact hB) | (with_reducible exact Below.refl _ _) | (with_reducible refine Below.alloc ?_ ?_ _) | (with_reducible refine Below.setCell ?_ ?_ _) | (with_reducible refine Below.drew ?_) | (with_reducible refine below_drewN ?_ _) | (with_reducible exact Nat.le_refl _) | (with_reducible exact hB.size) | (simp [go_sem]; done) | (have := hB.size; simp [go_sem]; omega)))⟩
set_option maxHeartbeats 1000000 in
theorem cutPlain_ (c : UInt8) (l : List UInt8) (hc : c ≠ 45) (hs : l.length < 9223372036854775807) (w : World) : Calls Tryz.prog 173 #[.string (tx (c :: l)), .string ⟨#[45]⟩] w
    (fun E' W' => E' = .returned (.tuple #[.string (tx (c :: l)), .bool false]) ∧ Below w.heap.size w W') := by
  have hsz : (tx (c :: l)).size = l.length + 1 := by rw [tx_size]; simp
  have he : (((tx (c :: l)).extract 0 1).toList == [45]) = false := by rw [Lib.toList_data]; simp [tx, hc]
  have c1 : (1 : Int) ≤ (l.length : Int) + 1 := by omega
  have hM := mem_nil w; have hB := Below.refl w.heap.size w; have hC := True.intro
  go_enter Tryz.func173, Tryz.ntmps173
  go_wp2
  go_ret2
  exact ⟨rfl, by (repeat' (first | (with_reducible exact hB) | (with_reducible exact Below.refl _ _) | (with_reducible refine Below.alloc ?_ ?_ _) | (with_reducible refine Below.setCell ?_ ?_ _) | (with_reducible refine Below.drew ?_) | (with_reducible refine below_drewN ?_ _) | (with_reducible exact Nat.le_refl _) | (with_reducible exact hB.size) | (simp [go_sem]; done) | (have := hB.size; simp [go_sem]; omega)))⟩
set_option maxHeartbeats 1000000 in
/-- the texts of a slice of one, joined -/
theorem join1_ (s sep : ByteArray) (g c : Nat) (w : World) (hg : w.cell? ⟨g, 0, none⟩ = some (.string s)) : Calls Tryz.prog 128 #[.slice (some ⟨g, 0, none⟩) 1 c, .string sep] w (fun E' W' => E' = .returned (.string s) ∧ Below w.heap.size w W') := by
  have hM := mem_nil w; have hB := Below.refl w.heap.size w; have hC := True.intro
  go_enter Tryz.func128, Tryz.ntmps128
  go_wp2
  go_ret
  exact ⟨rfl, by (repeat' (first | (with_reducible exact hB) | (with_reducible exact Below.refl _ _) | (with_reducible refine Below.alloc ?_ ?_ _) | (with_reducible refine Below.setCell ?_ ?_ _) | (with_reducible refine Below.drew ?_) | (with_reducible refine below_drewN ?_ _) | (with_reducible exact Nat.le_refl _) | (with_reducible exact hB.size) | (simp [go_sem]; done) | (have := hB.size; simp [go_sem]; omega)))⟩
end Go.Proofs.YtpalgnfimelioaaGreatDoor
