
/- The reader from which the model draws: what it is, what is kept of it over calls; 'pick', for every reader and every number. -/
import Derived.Test.YtpalgnfimelioaaGreatDoorBase
import Derived.Laws.BitsAllLaws
import Derived.Laws.BitsLemmas
namespace Go.Proofs.YtpalgnfimelioaaGreatDoor
open Go.RowKit

/-- block R is a reader of at most q steps so far, over bytes that lie in an older block -/
def Rdr (w : World) (R B q : Nat) : Prop :=
  ∃ (A : Option Addr) (n c : Nat) (p : Int) (z : Nat → Int), w.heap[R]? = some (.cells #[.slice A n c, .int .i64 p] 72 (0, 0)) ∧ 0 ≤ p ∧ p ≤ q ∧ n ≤ 2000 ∧ n ≤ c ∧
    (∀ i, 0 ≤ z i ∧ z i ≤ 255) ∧ (0 < n → ∃ b off, A = some ⟨b, off, none⟩ ∧ (b < R ∧ b < B) ∧ ∀ i, i < n → w.cell? ⟨b, off + i, none⟩ = some (.int .u8 (z i)))
theorem Rdr.lt {w : World} {R B q : Nat} (h : Rdr w R B q) : R < w.heap.size := by obtain ⟨A, n, c, p, z, h1, _⟩ := h; exact mem_lt h1
theorem Rdr.mono {w : World} {R B q q' : Nat} (h : Rdr w R B q) (hq : q ≤ q') : Rdr w R B q' := by
  obtain ⟨A, n, c, p, z, h1, h2, h3, h4⟩ := h
  exact ⟨A, n, c, p, z, h1, h2, by omega, h4⟩
theorem Rdr.keep {w w' : World} {R B q : Nat} (h : Rdr w R B q) (hk : ∀ k, k ≤ R → w'.heap[k]? = w.heap[k]?) : Rdr w' R B q := by
  obtain ⟨A, n, c, p, z, h1, h2, h3, h4, h5, h6, h7⟩ := h
  refine ⟨A, n, c, p, z, (hk R (Nat.le_refl R)).trans h1, h2, h3, h4, h5, h6, fun hn => ?_⟩
  obtain ⟨b, off, e, hb, hc⟩ := h7 hn
  exact ⟨b, off, e, hb, fun i hi => (World.cell?_of_block (hk b (Nat.le_of_lt hb.1))).trans (hc i hi)⟩
theorem Rdr.drew {w : World} {R B q : Nat} (h : Rdr w R B q) : Rdr w.drew R B q := h
theorem Rdr.drewN {w : World} {R B q : Nat} (h : Rdr w R B q) (n : Nat) : Rdr (w.drewN n) R B q := h
theorem Rdr.alloc {w : World} {R B q : Nat} (h : Rdr w R B q) (o : Obj) : Rdr (w.alloc o) R B q :=
  h.keep fun k hk => Below.heap_alloc w o k (Nat.lt_of_le_of_lt hk h.lt)
theorem Rdr.setCell {w : World} {R B q : Nat} (h : Rdr w R B q) {a : Addr} (ha : R < a.block) (v : Value) : Rdr (w.setCell a v) R B q :=
  h.keep fun k hk => Below.heap_setCell w a v k (by omega)
theorem Rdr.below {w w' : World} {R B q : Nat} (h : Rdr w R B q) (hb : Below w.heap.size w w') : Rdr w' R B q :=
  h.keep fun k hk => hb.block k (Nat.lt_of_le_of_lt hk h.lt)

/-- w' is w with new blocks, and with other cells in block R alone -/
def Since (R : Nat) (w w' : World) : Prop := w.grownBy w' (some R)
theorem Since.refl (R : Nat) (w : World) : Since R w w := World.grownBy.refl w _
theorem Since.of_below {R : Nat} {w w' : World} (h : Below w.heap.size w w') : Since R w w' := ⟨h.os, h.tape, h.output, h.size, fun i hi _ => h.block i hi⟩
theorem Since.trans {R : Nat} {a b c : World} (h : Since R a b) (k : Since R b c) : Since R a c :=
  ⟨k.os.trans h.os, k.tape.trans h.tape, k.output.trans h.output, Nat.le_trans h.size k.size, fun i hi hne => (k.block i (Nat.lt_of_lt_of_le hi h.size) hne).trans (h.block i hi hne)⟩
theorem Since.alloc {R : Nat} {a w : World} (h : Since R a w) (o : Obj) : Since R a (w.alloc o) := h.trans (World.grownBy_alloc w o _)
theorem Since.drew {R : Nat} {a w : World} (h : Since R a w) : Since R a w.drew := ⟨h.os, h.tape, h.output, h.size, h.block⟩
theorem Since.drewN {R : Nat} {a w : World} (h : Since R a w) (n : Nat) : Since R a (w.drewN n) := ⟨h.os, h.tape, h.output, h.size, h.block⟩
theorem Since.setCell {R : Nat} {a w : World} (h : Since R a w) {p : Addr} (hp : p.block = R ∨ a.heap.size ≤ p.block) (v : Value) : Since R a (w.setCell p v) :=
  ⟨h.os, h.tape, h.output, by simpa [World.setCell] using h.size, fun i hi hne => (Below.heap_setCell w p v i (by
    rintro rfl
    rcases hp with hp | hp
    · exact hne (by rw [hp])
    · omega)).trans (h.block i hi hne)⟩
theorem Since.below {R : Nat} {w w' : World} (h : Since R w w') (hR : w.heap.size ≤ R) : Below w.heap.size w w' :=
  ⟨h.os, h.tape, h.output, h.size, fun i hi => h.block i hi (by intro e; injection e; omega)⟩
theorem mem_since {R : Nat} {W w' : World} {L : List (Nat × Array Value × TypeId)} (hs : Since R W w') (h : Mem W L) (hR : ∀ p ∈ L, p.1 ≠ R) : Mem w' L :=
  ⟨fun p hp => (hs.block p.1 (mem_lt (h.1 p hp)) (by intro e; injection e with e; exact hR p hp e)).trans (h.1 p hp), h.2⟩

/-- what 'pick' leaves -/
def PickPost (n : Int) (R B q : Nat) (w : World) (e : Ending) (w' : World) : Prop :=
  ∃ v : Int, e = .returned (.int .i64 v) ∧ (0 ≤ v ∧ (1 ≤ n → v < n) ∧ (n < 1 → v = 0)) ∧ Rdr w' R B (q + 1) ∧ Since R w w'
theorem xor_nonneg {x y : Int} (hx : 0 ≤ x ∧ x < 9223372036854775808) (hy : 0 ≤ y ∧ y < 9223372036854775808) : 0 ≤ bits .xor .i64 x y ∧ bits .xor .i64 x y < 9223372036854775808 := by
  obtain ⟨a, rfl⟩ : ∃ a : Nat, x = a := ⟨x.toNat, by omega⟩
  obtain ⟨b, rfl⟩ : ∃ b : Nat, y = b := ⟨y.toNat, by omega⟩
  have hlt : a ^^^ b < 2 ^ 63 := Nat.xor_lt_two_pow (by omega) (by omega)
  have ho : ∀ k : Nat, k < 9223372036854775808 → (BitVec.ofInt 64 (k : Int)).toNat = k := fun k hk => by
    rw [BitVec.ofInt_natCast, BitVec.toNat_ofNat]; exact Nat.mod_eq_of_lt (by omega)
  have e : bits .xor .i64 (a : Int) (b : Int) = ((a ^^^ b : Nat) : Int) := by
    show IntKind.i64.wrap ((BitVec.ofInt 64 (a : Int) ^^^ BitVec.ofInt 64 (b : Int)).toNat : Int) = _
    rw [BitVec.toNat_xor, ho a (by omega), ho b (by omega), IntKind.wrap_i64]
    omega
  rw [e]
  omega
end Go.Proofs.YtpalgnfimelioaaGreatDoor
