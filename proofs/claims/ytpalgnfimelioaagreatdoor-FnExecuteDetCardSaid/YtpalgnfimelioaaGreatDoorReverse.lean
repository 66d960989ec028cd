
/- The library's reversal of a slice of bytes, walked; the program's words backwards. -/
import Derived.Test.YtpalgnfimelioaaGreatDoorChanged
import Derived.ChangeAlike
namespace Go.Proofs.YtpalgnfimelioaaGreatDoor
open Go.RowKit

/-- what place m holds when k exchanges have been made -/
def rvAt (l : List UInt8) (k m : Nat) : UInt8 := if m < k ∨ l.length ≤ m + k then l.getD (l.length - 1 - m) 0 else l.getD m 0
theorem rvAt_zero (l : List UInt8) {m : Nat} (h : m < l.length) : rvAt l 0 m = l.getD m 0 := by
  unfold rvAt; rw [if_neg (by omega)]
theorem rvAt_succ (l : List UInt8) (k m : Nat) (hk : k + k + 1 < l.length) :
    rvAt l (k + 1) m = if m = l.length - 1 - k then rvAt l k k else if m = k then rvAt l k (l.length - 1 - k) else rvAt l k m := by
  unfold rvAt
  by_cases h1 : m = l.length - 1 - k
  · rw [if_pos h1, if_pos (by omega), if_neg (by omega), show l.length - 1 - m = k from by omega]
  · rw [if_neg h1]
    by_cases h2 : m = k
    · rw [if_pos h2, if_pos (by omega), if_neg (by omega), h2]
    · rw [if_neg h2]
      by_cases h3 : m < k ∨ l.length ≤ m + k
      · rw [if_pos h3, if_pos (by omega)]
      · rw [if_neg h3, if_neg (by omega)]
theorem rvAt_end (l : List UInt8) {k m : Nat} (hk : l.length ≤ k + k + 1) (hm : m < l.length) : rvAt l k m = l.reverse.getD m 0 := by
  have e : l.reverse.getD m 0 = l.getD (l.length - 1 - m) 0 := by
    simp [List.getD, List.getElem?_reverse hm]
  rw [e]
  unfold rvAt
  by_cases h3 : m < k ∨ l.length ≤ m + k
  · rw [if_pos h3]
  · rw [if_neg h3, show l.length - 1 - m = m from by omega]
/-- the cells of block b from its beginning on are bytes that may be written -/
def BytesAt (W : World) (b n : Nat) (f : Nat → UInt8) : Prop := ∀ m, m < n → W.cell? ⟨b, m, none⟩ = some (byteV (f m)) ∧ W.frozen? ⟨b, m, none⟩ = false
theorem bytesAt_set {W : World} {b n i : Nat} {f : Nat → UInt8} (h : BytesAt W b n f) (c : UInt8) (hi : i < n) : BytesAt (W.setCell ⟨b, i, none⟩ (byteV c)) b n (fun m => if m = i then c else f m) := by
  intro m hm
  refine ⟨?_, by rw [World.frozen?_setCell]; exact (h m hm).2⟩
  by_cases e : m = i
  · subst e; dsimp only; rw [if_pos rfl]; exact World.cell?_setCell_same' _ _ _ (by rw [(h m hm).1]; rfl)
  · dsimp only; rw [if_neg e]; exact (World.cell?_setCell_other W _ _ _ (by intro e2; injection e2 with _ e2; exact e e2.symm)).trans (h m hm).1
theorem grown_set {w W : World} {b : Nat} (h : w.grownBy W (some b)) (i : Nat) (v : Value) : w.grownBy (W.setCell ⟨b, i, none⟩ v) (some b) :=
  ⟨h.os, h.tape, h.output, by simpa [World.setCell] using h.size, fun k hk hne => (Below.heap_setCell W ⟨b, i, none⟩ v k (fun e => hne (by rw [e]))).trans (h.block k hk hne)⟩
theorem grown_drew {w W : World} {r : Option Nat} (h : w.grownBy W r) : w.grownBy W.drew r := ⟨h.os, h.tape, h.output, h.size, h.block⟩
theorem conv_bytes {P : Program} (w : World) {src dst e : TypeId} (s : ByteArray) (hs : P.underlying src = some .string) (hd : P.underlying dst = some (.slice e)) (he : P.underlying e = some (.int .u8)) :
    ∃ cap w1, (convert src dst (.string s)).run P w = .ok (.slice (some ⟨w.heap.size, 0, none⟩) s.size cap) w1 ∧ Below w.heap.size w w1 ∧ w.heap.size < w1.heap.size ∧ BytesAt w1 w.heap.size s.size (fun m => s.data.toList.getD m 0) := by
  refine ⟨_, _, run_bytes_of_string w src dst e s hs hd he, (Below.refl _ w).drew.alloc (Nat.le_refl _) _, by rw [World.size_alloc]; exact Nat.lt_succ_self _, fun m hm => ⟨?_, ?_⟩⟩
  · refine (World.cell?_alloc_mark w.drew _ e _ m).trans ?_
    rw [bytesRow_at s _ m hm]
    have e : s.data.toList.getD m 0 = s.data[m] := by
      rw [List.getD_eq_getElem?_getD, List.getElem?_eq_getElem (by simpa using hm)]; simp
    dsimp only; rw [e]; rfl
  · refine (World.frozen?_alloc_mark w.drew _ e _ _ m).trans ?_
    have : m < (bytesRow s (grownCap w s.size 0 e)).size := by
      have := (Array.getElem?_eq_some_iff.1 (bytesRow_at s (grownCap w s.size 0 e) m hm)).1
      exact this
    simp; omega
theorem back_bytes {P : Program} {w : World} {src dst e : TypeId} {b n cap : Nat} {l : List UInt8} (hs : P.underlying src = some (.slice e)) (he : P.underlying e = some (.int .u8)) (hd : P.underlying dst = some .string) (hn : n = l.length)
    (h : BytesAt w b n (fun m => l.getD m 0)) : (convert src dst (.slice (some ⟨b, 0, none⟩) n cap)).run P w = .ok (.string (txt l)) w := by
  subst hn
  refine run_convert_bytes_back w src dst e ⟨b, 0, none⟩ cap l hs he hd fun j hj => ?_
  have := (h j hj).1
  have e : l.getD j 0 = l[j] := by rw [List.getD_eq_getElem?_getD, List.getElem?_eq_getElem hj]; rfl
  dsimp only at this
  rw [Addr.add_lit, Nat.zero_add, this, e]
  rfl

/-- the word backwards with each letter changed -/
def wbk (l : List UInt8) : ByteArray × Bool := if wdL l then (txt (l.map oth).reverse, true) else (⟨#[]⟩, false)
end Go.Proofs.YtpalgnfimelioaaGreatDoor
