
/- The library's reversal of a slice of bytes, walked; the program's words backwards. -/
import Derived.Test.YtmcpchockjcjhaaChanged
import Derived.ChangeAlike
namespace Go.Proofs.Ytmcpchockjcjhaa
open Go.RowKit

/-- what place m holds when k exchanges have been made -/
def rvAt (l : List UInt8) (k m : Nat) : UInt8 := if m < k ∨ l.length ≤ m + k then l.getD (l.length - 1 - m) 0 else l.getD m 0
theorem rvAt_zero (l : List UInt8) {m : Nat} (h : m < l.length) : rvAt l 0 m = l.getD m 0 := by
  unfold rvAt; rw [if_neg (by omega)]
theorem rvAt_succ (l : List UInt8) (k m : Nat) (hk : k + k + 1 < l.length) :
    rvAt l (k + 1) m = if m = l.length - 1 - k then rvAt l k k else if m = k then rvAt l k (l.length - 1 - k) else rvAt l k m := by
  unfold rvAt
  by_cases h1 : m = l.length - 1 - k
  · rw [if_pos h1, if_pos (by omega), if_neg (by omega), show l.length - 1 - m = k from by omega]
  · rw [if_neg h1]
    by_cases h2 : m = k
    · rw [if_pos h2, if_pos (by omega), if_neg (by omega), h2]
    · rw [if_neg h2]
      by_cases h3 : m < k ∨ l.length ≤ m + k
      · rw [if_pos h3, if_pos (by omega)]
      · rw [if_neg h3, if_neg (by omega)]
theorem rvAt_end (l : List UInt8) {k m : Nat} (hk : l.length ≤ k + k + 1) (hm : m < l.length) : rvAt l k m = l.reverse.getD m 0 := by
  have e : l.reverse.getD m 0 = l.getD (l.length - 1 - m) 0 := by
    simp [List.getD, List.getElem?_reverse hm]
  rw [e]
  unfold rvAt
  by_cases h3 : m < k ∨ l.length ≤ m + k
  · rw [if_pos h3]
  · rw [if_neg h3, show l.length - 1 - m = m from by omega]
/-- the cells of block b from its beginning on are bytes that may be written -/
def BytesAt (W : World) (b n : Nat) (f : Nat → UInt8) : Prop := ∀ m, m < n → W.cell? ⟨b, m, none⟩ = some (byteV (f m)) ∧ W.frozen? ⟨b, m, none⟩ = false
theorem bytesAt_set {W : World} {b n i : Nat} {f : Nat → UInt8} (h : BytesAt W b n f) (c : UInt8) (hi : i < n) : BytesAt (W.setCell ⟨b, i, none⟩ (byteV c)) b n (fun m => if m = i then c else f m) := by
  intro m hm
  refine ⟨?_, by rw [World.frozen?_setCell]; exact (h m hm).2⟩
  by_cases e : m = i
  · subst e; dsimp only; rw [if_pos rfl]; exact World.cell?_setCell_same' _ _ _ (by rw [(h m hm).1]; rfl)
  · dsimp only; rw [if_neg e]; exact (World.cell?_setCell_other W _ _ _ (by intro e2; injection e2 with _ e2; exact e e2.symm)).trans (h m hm).1
theorem grown_set {w W : World} {b : Nat} (h : w.grownBy W (some b)) (i : Nat) (v : Value) : w.grownBy (W.setCell ⟨b, i, none⟩ v) (some b) :=
  ⟨h.os, h.tape, h.output, by simpa [World.setCell] using h.size, fun k hk hne => (Below.heap_setCell W ⟨b, i, none⟩ v k (fun e => hne (by rw [e]))).trans (h.block k hk hne)⟩
theorem grown_drew {w W : World} {r : Option Nat} (h : w.grownBy W r) : w.grownBy W.drew r := ⟨h.os, h.tape, h.output, h.size, h.block⟩
set_option maxHeartbeats 2000000 in
theorem rev_ (b : Nat) (l : List UInt8) (cap : Nat) (hn : l.length ≤ 1000000) (w : World) (h : BytesAt w b l.length (fun m => l.getD m 0)) :
    Calls Try.prog 62 #[.slice (some ⟨b, 0, none⟩) l.length cap] w (fun E' W' => E' = .returned (.tuple #[]) ∧ w.grownBy W' (some b) ∧ BytesAt W' b l.length (fun m => l.reverse.getD m 0)) := by
  have H := Lib.hid h
  clear h
  go_enter Try.func62, Try.ntmps62
  go_wp2_with fail
  go_loopw [2, 3] (fun v2 v3 wr => ∃ (k : Nat) (jj : Int), v2 = .int .i64 k ∧ v3 = .int .i64 jj ∧ jj = (l.length : Int) - 1 - k ∧ k ≤ l.length ∧ w.grownBy wr (some b) ∧ BytesAt wr b l.length (rvAt l k)) (fun v2 v3 _ => (intOf v3 - intOf v2 + 1).toNat)
  case atStart =>
    refine ⟨0, (l.length : Int) - 1, rfl, rfl, by simp, Nat.zero_le _, World.grownBy.refl w _, fun m hm => ?_⟩
    rw [rvAt_zero l hm]
    exact H.out m hm
  case round =>
    obtain ⟨k, jj, rfl, rfl, hjj, hk, hgr, hby⟩ := hrel
    have HB := Lib.hid hby
    have HG := Lib.hid hgr
    have HJ := Lib.hid hjj
    clear hby hgr hjj
    by_cases hlt : (k : Int) < jj
    · obtain ⟨j, rfl⟩ : ∃ j : Nat, jj = j := ⟨jj.toNat, by omega⟩
      have hkj : k < j := by omega
      have hjl : j < l.length := by have := HJ.out; omega
      have hj2 : j = l.length - 1 - k := by have := HJ.out; omega
      have HJ2 := Lib.hid hj2
      clear hj2
      have c1 : wr.cell? ⟨b, k, none⟩ = some (.int .u8 ((rvAt l k k).toNat : Int)) := (HB.out k (by omega)).1
      have c2 : wr.cell? ⟨b, j, none⟩ = some (.int .u8 ((rvAt l k j).toNat : Int)) := (HB.out j (by omega)).1
      have f1 := (HB.out k (by omega)).2
      have f2 := (HB.out j (by omega)).2
      have hne : (k = j) = False := by simp; omega
      have hne' : (j = k) = False := by simp; omega
      go_wp2_with fail
      go_region
      all_goals
        go_wp2
        go_roundw
        case rel =>
          refine ⟨k + 1, (j : Int) - 1, by go_num, rfl, by have := HJ.out; omega, by omega, ?_, ?_⟩
          · repeat (first | exact HG.out | apply grown_set | apply grown_drew)
          · intro m hm
            have h2 := bytesAt_set (bytesAt_set HB.out (rvAt l k j) (i := k) (by omega)) (rvAt l k k) hjl m hm
            rw [rvAt_succ l k m (by have := HJ2.out; omega), ← HJ2.out]
            exact h2
        case measure => simp [intOf]; omega
    · go_wp2
      go_end0
      refine ⟨rfl, HG.out, fun m hm => ?_⟩
      have h1 := HB.out m hm
      rw [rvAt_end l (by have := HJ.out; omega) hm] at h1
      exact h1

theorem conv_bytes {P : Program} (w : World) {src dst e : TypeId} (s : ByteArray) (hs : P.underlying src = some .string) (hd : P.underlying dst = some (.slice e)) (he : P.underlying e = some (.int .u8)) :
    ∃ cap w1, (convert src dst (.string s)).run P w = .ok (.slice (some ⟨w.heap.size, 0, none⟩) s.size cap) w1 ∧ Below w.heap.size w w1 ∧ w.heap.size < w1.heap.size ∧ BytesAt w1 w.heap.size s.size (fun m => s.data.toList.getD m 0) := by
  refine ⟨_, _, run_bytes_of_string w src dst e s hs hd he, (Below.refl _ w).drew.alloc (Nat.le_refl _) _, by rw [World.size_alloc]; exact Nat.lt_succ_self _, fun m hm => ⟨?_, ?_⟩⟩
  · refine (World.cell?_alloc_mark w.drew _ e _ m).trans ?_
    rw [bytesRow_at s _ m hm]
    have e : s.data.toList.getD m 0 = s.data[m] := by
      rw [List.getD_eq_getElem?_getD, List.getElem?_eq_getElem (by simpa using hm)]; simp
    dsimp only; rw [e]; rfl
  · refine (World.frozen?_alloc_mark w.drew _ e _ _ m).trans ?_
    have : m < (bytesRow s (grownCap w s.size 0 e)).size := by
      have := (Array.getElem?_eq_some_iff.1 (bytesRow_at s (grownCap w s.size 0 e) m hm)).1
      exact this
    simp; omega
theorem back_bytes {P : Program} {w : World} {src dst e : TypeId} {b n cap : Nat} {l : List UInt8} (hs : P.underlying src = some (.slice e)) (he : P.underlying e = some (.int .u8)) (hd : P.underlying dst = some .string) (hn : n = l.length)
    (h : BytesAt w b n (fun m => l.getD m 0)) : (convert src dst (.slice (some ⟨b, 0, none⟩) n cap)).run P w = .ok (.string (txt l)) w := by
  subst hn
  refine run_convert_bytes_back w src dst e ⟨b, 0, none⟩ cap l hs he hd fun j hj => ?_
  have := (h j hj).1
  have e : l.getD j 0 = l[j] := by rw [List.getD_eq_getElem?_getD, List.getElem?_eq_getElem hj]; rfl
  dsimp only at this
  rw [Addr.add_lit, Nat.zero_add, this, e]
  rfl

set_option maxHeartbeats 1000000 in
theorem backwards_ (s : ByteArray) (hs : s.size ≤ 1000000) (w : World) : Calls Try.prog 45 #[.string s] w (fun E' W' => E' = .returned (.string (txt s.data.toList.reverse)) ∧ Below w.heap.size w W') := by
  obtain ⟨cap, w1, hcv, hB1, hlt, hby⟩ := conv_bytes (P := Try.prog) w (src := 45) (dst := 22) (e := 5) s Try.underlying45 Try.underlying22 Try.underlying5
  have HY := Lib.hid hby
  clear hby
  have hsz : s.data.toList.length = s.size := by simp
  have hrev : ∀ W : World, BytesAt W w.heap.size s.size (fun m => s.data.toList.getD m 0) → Calls Try.prog 62 #[.slice (some ⟨w.heap.size, 0, none⟩) s.size cap] W (fun E' W' => E' = .returned (.tuple #[]) ∧ W.grownBy W' (some w.heap.size) ∧ BytesAt W' w.heap.size s.size (fun m => s.data.toList.reverse.getD m 0)) := fun W hW => by
    have := rev_ w.heap.size s.data.toList cap (by omega) W (by rw [hsz]; exact hW)
    rwa [hsz] at this
  clear hsz
  have HR := Lib.hid hrev
  clear hrev
  go_enter Try.func45, Try.ntmps45
  go_wp2_with (go_at_call 62; refine (HR.out _ HY.out).mono ?_; rintro e w2 ⟨rfl, hg, hby2⟩; have hcb := back_bytes (P := Try.prog) (cap := cap) (src := 22) (dst := 45) (e := 5) Try.underlying22 Try.underlying5 Try.underlying45 (l := s.data.toList.reverse) (by simp) hby2; have HG := Lib.hid hg; clear hg hby2)
  go_ret
  exact ⟨rfl, hB1.grown HG.out hB1.size (fun k e => by cases e; exact Nat.le_refl _)⟩

/-- the word backwards with each letter changed -/
def wbk (l : List UInt8) : ByteArray × Bool := if wdL l then (txt (l.map oth).reverse, true) else (⟨#[]⟩, false)
set_option maxHeartbeats 1000000 in
theorem WordBack_ (s : ByteArray) (hs : s.size ≤ 9223372036854775807) (w : World) : Calls Try.prog 23 #[.string s] w (fun E' W' => E' = .returned (.tuple #[.string (wbk s.data.toList).1, .bool (wbk s.data.toList).2]) ∧ Below w.heap.size w W') := by
  cases h : wdL s.data.toList
  · have HE := Lib.hid (show wbk s.data.toList = (⟨#[]⟩, false) from by simp [wbk, h])
    have hM := mem_nil w; have hB := Below.refl w.heap.size w; have hC := True.intro
    go_enter Try.func23, Try.ntmps23
    go_wp2_with (first | (go_at_call 21; refine (WordIn_ _ hs _).mono ?_; rintro e w' ⟨rfl, hb⟩; apply after_call (w := w) hb; (focus ((repeat' (first | (with_reducible exact hM) | (with_reducible apply mem_alloc) | (with_reducible apply mem_set) | (with_reducible apply mem_drew) | (with_reducible apply mem_drewN))); done)); (focus ((repeat' (first | (with_reducible exact hB) | (with_reducible exact Below.refl _ _) | (with_reducible refine Below.alloc ?_ ?_ _) | (with_reducible refine Below.setCell ?_ ?_ _) | (with_reducible refine Below.drew ?_) | (with_reducible refine below_drewN ?_ _) | (with_reducible exact Nat.le_refl _) | (with_reducible exact hB.size) | (simp [go_sem]; done) | (have := hB.size; simp [go_sem]; omega))); done)); (focus ((repeat' (first | (with_reducible exact hB) | (with_reducible exact Below.refl _ _) | (with_reducible refine Below.alloc ?_ ?_ _) | (with_reducible refine Below.setCell ?_ ?_ _) | (with_reducible refine Below.drew ?_) | (with_reducible refine below_drewN ?_ _) | (with_reducible exact Nat.le_refl _) | (with_reducible exact hB.size) | (simp [go_sem]; done) | (have := hB.size; simp [go_sem]; omega))); done)); clear hM hB hb; intro hM hB; (try clear hC); have hC := mem_facts hM; simp at hC))
    go_ret2
    exact ⟨by rw [HE.out]; rfl, by (repeat' (first | (with_reducible exact hB) | (with_reducible exact Below.refl _ _) | (with_reducible refine Below.alloc ?_ ?_ _) | (with_reducible refine Below.setCell ?_ ?_ _) | (with_reducible refine Below.drew ?_) | (with_reducible refine below_drewN ?_ _) | (with_reducible exact Nat.le_refl _) | (with_reducible exact hB.size) | (simp [go_sem]; done) | (have := hB.size; simp [go_sem]; omega)))⟩
  · have h40 := wdL_size h
    have HE := Lib.hid (show wbk s.data.toList = (txt (s.data.toList.map oth).reverse, true) from by simp [wbk, h])
    have hB2 : ∀ W : World, Calls Try.prog 45 #[.string (txt (s.data.toList.map oth))] W (fun E' W' => E' = .returned (.string (txt (s.data.toList.map oth).reverse)) ∧ Below W.heap.size W W') := fun W => by
      have := backwards_ (txt (s.data.toList.map oth)) (by rw [txt_size]; simp; omega) W
      rwa [txt_list] at this
    have hM := mem_nil w; have hB := Below.refl w.heap.size w; have hC := True.intro
    go_enter Try.func23, Try.ntmps23
    go_wp2_with (first | (go_at_call 21; refine (WordIn_ _ hs _).mono ?_; rintro e w' ⟨rfl, hb⟩; apply after_call (w := w) hb; (focus ((repeat' (first | (with_reducible exact hM) | (with_reducible apply mem_alloc) | (with_reducible apply mem_set) | (with_reducible apply mem_drew) | (with_reducible apply mem_drewN))); done)); (focus ((repeat' (first | (with_reducible exact hB) | (with_reducible exact Below.refl _ _) | (with_reducible refine Below.alloc ?_ ?_ _) | (with_reducible refine Below.setCell ?_ ?_ _) | (with_reducible refine Below.drew ?_) | (with_reducible refine below_drewN ?_ _) | (with_reducible exact Nat.le_refl _) | (with_reducible exact hB.size) | (simp [go_sem]; done) | (have := hB.size; simp [go_sem]; omega))); done)); (focus ((repeat' (first | (with_reducible exact hB) | (with_reducible exact Below.refl _ _) | (with_reducible refine Below.alloc ?_ ?_ _) | (with_reducible refine Below.setCell ?_ ?_ _) | (with_reducible refine Below.drew ?_) | (with_reducible refine below_drewN ?_ _) | (with_reducible exact Nat.le_refl _) | (with_reducible exact hB.size) | (simp [go_sem]; done) | (have := hB.size; simp [go_sem]; omega))); done)); clear hM hB hb; intro hM hB; (try clear hC); have hC := mem_facts hM; simp at hC) | (go_at_call 44; refine (changed_ _ (by omega) _).mono ?_; rintro e w' ⟨rfl, hb⟩; apply after_call (w := w) hb; (focus ((repeat' (first | (with_reducible exact hM) | (with_reducible apply mem_alloc) | (with_reducible apply mem_set) | (with_reducible apply mem_drew) | (with_reducible apply mem_drewN))); done)); (focus ((repeat' (first | (with_reducible exact hB) | (with_reducible exact Below.refl _ _) | (with_reducible refine Below.alloc ?_ ?_ _) | (with_reducible refine Below.setCell ?_ ?_ _) | (with_reducible refine Below.drew ?_) | (with_reducible refine below_drewN ?_ _) | (with_reducible exact Nat.le_refl _) | (with_reducible exact hB.size) | (simp [go_sem]; done) | (have := hB.size; simp [go_sem]; omega))); done)); (focus ((repeat' (first | (with_reducible exact hB) | (with_reducible exact Below.refl _ _) | (with_reducible refine Below.alloc ?_ ?_ _) | (with_reducible refine Below.setCell ?_ ?_ _) | (with_reducible refine Below.drew ?_) | (with_reducible refine below_drewN ?_ _) | (with_reducible exact Nat.le_refl _) | (with_reducible exact hB.size) | (simp [go_sem]; done) | (have := hB.size; simp [go_sem]; omega))); done)); clear hM hB hb; intro hM hB; (try clear hC); have hC := mem_facts hM; simp at hC) | (go_at_call 45; refine (hB2 _).mono ?_; rintro e w' ⟨rfl, hb⟩; apply after_call (w := w) hb; (focus ((repeat' (first | (with_reducible exact hM) | (with_reducible apply mem_alloc) | (with_reducible apply mem_set) | (with_reducible apply mem_drew) | (with_reducible apply mem_drewN))); done)); (focus ((repeat' (first | (with_reducible exact hB) | (with_reducible exact Below.refl _ _) | (with_reducible refine Below.alloc ?_ ?_ _) | (with_reducible refine Below.setCell ?_ ?_ _) | (with_reducible refine Below.drew ?_) | (with_reducible refine below_drewN ?_ _) | (with_reducible exact Nat.le_refl _) | (with_reducible exact hB.size) | (simp [go_sem]; done) | (have := hB.size; simp [go_sem]; omega))); done)); (focus ((repeat' (first | (with_reducible exact hB) | (with_reducible exact Below.refl _ _) | (with_reducible refine Below.alloc ?_ ?_ _) | (with_reducible refine Below.setCell ?_ ?_ _) | (with_reducible refine Below.drew ?_) | (with_reducible refine below_drewN ?_ _) | (with_reducible exact Nat.le_refl _) | (with_reducible exact hB.size) | (simp [go_sem]; done) | (have := hB.size; simp [go_sem]; omega))); done)); clear hM hB hb; intro hM hB; (try clear hC); have hC := mem_facts hM; simp at hC))
    go_ret2
    exact ⟨by rw [HE.out]; rfl, by (repeat' (first | (with_reducible exact hB) | (with_reducible exact Below.refl _ _) | (with_reducible refine Below.alloc ?_ ?_ _) | (with_reducible refine Below.setCell ?_ ?_ _) | (with_reducible refine Below.drew ?_) | (with_reducible refine below_drewN ?_ _) | (with_reducible exact Nat.le_refl _) | (with_reducible exact hB.size) | (simp [go_sem]; done) | (have := hB.size; simp [go_sem]; omega)))⟩
end Go.Proofs.Ytmcpchockjcjhaa
