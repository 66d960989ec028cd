
/- Walks of what draws from a reader: one condition that is kept from call to call; 'of', 'l6Many', 'l91Word'. -/
import Derived.Test.YtpalgnfimelioaaGreatDoorDrawB
import Derived.Deep.LoopGhost
import Derived.ShutString
namespace Go.Proofs.YtpalgnfimelioaaGreatDoor
open Go.RowKit

/-- the walk's own blocks L; what was there ahead of the call stands, but for the reader's block R; the reader has made at most q steps -/
def Inv (R B q : Nat) (w W : World) (L : List (Nat × Array Value × TypeId)) : Prop :=
  Mem W L ∧ (∀ p ∈ L, w.heap.size ≤ p.1 ∧ p.1 ≠ R) ∧ Since R w W ∧ Rdr W R B q ∧ w.heap.size ≤ W.heap.size ∧ B ≤ w.heap.size
theorem inv_start {R B q : Nat} {w : World} (h : Rdr w R B q) (hB : B ≤ w.heap.size) : Inv R B q w w [] := ⟨mem_nil w, fun p hp => by (cases hp), Since.refl R w, h, Nat.le_refl _, hB⟩
theorem inv_alloc {R B q : Nat} {w W : World} {L : List (Nat × Array Value × TypeId)} (h : Inv R B q w W L) (cs : Array Value) (t : TypeId) : Inv R B q w (W.alloc (.cells cs t)) ((W.heap.size, cs, t) :: L) := by
  obtain ⟨h1, h2, h3, h4, h5, h6⟩ := h
  refine ⟨mem_alloc h1 cs t, fun p hp => ?_, h3.alloc _, h4.alloc _, by simp; omega, h6⟩
  rcases List.mem_cons.1 hp with rfl | hp
  · have := h4.lt
    exact ⟨h5, by dsimp only; omega⟩
  · exact h2 p hp
theorem inv_drew {R B q : Nat} {w W : World} {L : List (Nat × Array Value × TypeId)} (h : Inv R B q w W L) : Inv R B q w W.drew L := ⟨h.1, h.2.1, h.2.2.1.drew, h.2.2.2.1, h.2.2.2.2⟩
theorem inv_drewN {R B q : Nat} {w W : World} {L : List (Nat × Array Value × TypeId)} (n : Nat) (h : Inv R B q w W L) : Inv R B q w (W.drewN n) L := ⟨h.1, h.2.1, h.2.2.1.drewN n, h.2.2.2.1.drewN n, h.2.2.2.2⟩
theorem setL_fst {b i : Nat} {v : Value} {L : List (Nat × Array Value × TypeId)} {p : Nat × Array Value × TypeId} (h : p ∈ setL b i v L) : ∃ q ∈ L, p.1 = q.1 := by
  obtain ⟨q, hq, e, _⟩ := setL_mem h; exact ⟨q, hq, e⟩
@[simp] theorem setL_map {b i : Nat} {v : Value} : ∀ L : List (Nat × Array Value × TypeId), (setL b i v L).map (fun p => p.1) = L.map (fun p => p.1)
  | [] => rfl
  | (c, cs, t) :: L => by by_cases e : c = b <;> simp [setL, e, setL_map L]
theorem inv_set {R B q : Nat} {w W : World} {L : List (Nat × Array Value × TypeId)} {b i : Nat} {v : Value} (h : Inv R B q w W L) (hb : b ∈ L.map (fun p => p.1)) : Inv R B q w (W.setCell ⟨b, i, none⟩ v) (setL b i v L) := by
  obtain ⟨h1, h2, h3, h4, h5, h6⟩ := h
  obtain ⟨p, hp, rfl⟩ := List.mem_map.1 hb
  have hs : Since R w (W.setCell ⟨p.1, i, none⟩ v) := h3.setCell (.inr (h2 p hp).1) v
  refine ⟨mem_set _ i v h1, fun r hr => ?_, hs, ?_, by simpa [World.setCell] using h5, h6⟩
  · obtain ⟨s, hs, e⟩ := setL_fst hr
    rw [e]; exact h2 s hs
  · obtain ⟨A, n, c, x, z, k1, k2, k3, k4, k5, k6, k7⟩ := h4
    refine ⟨A, n, c, x, z, (Below.heap_setCell W _ v R (fun e => (h2 p hp).2 e.symm)).trans k1, k2, k3, k4, k5, k6, fun hn => ?_⟩
    obtain ⟨b, off, e, hb, hc⟩ := k7 hn
    refine ⟨b, off, e, hb, fun j hj => ?_⟩
    have := (h2 p hp).1
    exact (World.cell?_setCell_other W _ _ _ (by intro e3; injection e3 with e3; omega)).trans (hc j hj)
theorem inv_below {R B q : Nat} {w W w' : World} {L : List (Nat × Array Value × TypeId)} {G : Prop} (hb : Below W.heap.size W w') (h : Inv R B q w W L) (k : Inv R B q w w' L → G) : G := by
  obtain ⟨h1, h2, h3, h4, h5, h6⟩ := h
  exact k ⟨mem_below hb h1, h2, h3.trans (Since.of_below hb), h4.below hb, Nat.le_trans h5 hb.size, h6⟩
theorem inv_mono {R B q q' : Nat} {w W : World} {L : List (Nat × Array Value × TypeId)} (h : Inv R B q w W L) (hq : q ≤ q') : Inv R B q' w W L := ⟨h.1, h.2.1, h.2.2.1, h.2.2.2.1.mono hq, h.2.2.2.2⟩

/-- what a function that draws leaves: a value as 'Good' says, the reader some steps on, nothing else changed -/
def DPost (Good : Value → Prop) (R B q : Nat) (w : World) (e : Ending) (w' : World) : Prop := ∃ v, e = .returned v ∧ Good v ∧ Rdr w' R B q ∧ Since R w w'
theorem inv_end {Good : Value → Prop} {R B q q' : Nat} {w W : World} {L : List (Nat × Array Value × TypeId)} {v : Value} (h : Inv R B q w W L) (hq : q ≤ q') (hg : Good v) : DPost Good R B q' w (.returned v) W :=
  ⟨v, rfl, hg, h.2.2.2.1.mono hq, h.2.2.1⟩
theorem use_rd {P : Program} {f : FuncId} {args : Array Value} {w W : World} {R B q q' K : Nat} {L : List (Nat × Array Value × TypeId)} {Good : Value → Prop} {Q : Ending → World → Prop}
    (hc : B ≤ W.heap.size → Rdr W R B q → q ≤ K → Calls P f args W (DPost Good R B q' W)) (hI : Inv R B q w W L) (hq : q ≤ K) (h : ∀ v w', Good v → Inv R B q' w w' L → Q (.returned v) w') : Calls P f args W Q := by
  obtain ⟨h1, h2, h3, h4, h5, h6⟩ := hI
  refine (hc (Nat.le_trans h6 h5) h4 hq).mono ?_
  rintro e w' ⟨v, rfl, hg, hr, hs⟩
  exact h v w' hg ⟨mem_since hs h1 (fun p hp => (h2 p hp).2), h2, h3.trans hs, hr, Nat.le_trans h5 hs.size, h6⟩

def IsNum (n : Int) (v : Value) : Prop := ∃ x : Int, v = .int .i64 x ∧ 0 ≤ x ∧ (1 ≤ n → x < n) ∧ (n < 1 → x = 0)
def IsText (k : Nat) (v : Value) : Prop := ∃ s : ByteArray, v = .string s ∧ s.size ≤ k
def IsMat (v : Value) : Prop := ∃ a b c d : Int, v = .agg #[.int .i64 a, .int .i64 b, .int .i64 c, .int .i64 d]
theorem pickD (R B q : Nat) (n : Int) (w : World) (_hB : B ≤ w.heap.size) (hR : Rdr w R B q) (hq : q ≤ 900000) : Calls Tryz.prog 15 #[.pointer (some ⟨R, 0, none⟩), .int .i64 n] w (DPost (IsNum n) R B (q + 1) w) := by
  refine (pick_ R B q n w hR (by omega)).mono ?_
  rintro e w' ⟨v, rfl, hv, hr, hs⟩
  exact ⟨_, rfl, ⟨v, rfl, hv⟩, hr, hs⟩

/-- one of a list's texts -/
theorem of_ (R B q : Nat) (g m : Nat) (k : Nat) (w : World) (hm : 1 ≤ m ∧ m ≤ 100) (hg : g < w.heap.size ∧ g ≠ R) (hs : ∀ i, i < m → ∃ s : ByteArray, s.size ≤ k ∧ w.cell? ⟨g, i, none⟩ = some (.string s))
    (hR : Rdr w R B q) (hq : q ≤ 900000) : Calls Tryz.prog 38 #[.pointer (some ⟨R, 0, none⟩), .slice (some ⟨g, 0, none⟩) m m] w (DPost (IsText k) R B (q + 1) w) := by
  have HS := Lib.hid hs
  clear hs
  go_enter Tryz.func38, Tryz.ntmps38
  go_wp2_with fail
  refine (pick_ R B q m w hR (by omega)).mono ?_
  rintro e w' ⟨v, rfl, ⟨hv0, hv1, _⟩, hr, hsi⟩
  have hlt := hv1 (by omega)
  obtain ⟨i, rfl⟩ : ∃ i : Nat, v = i := ⟨v.toNat, by omega⟩
  obtain ⟨s, hsz, hcell⟩ := HS.out i (by omega)
  have hcell' : w'.cell? ⟨g, i, none⟩ = some (.string s) := (World.cell?_of_block (hsi.block g hg.1 (by intro e; injection e with e; exact hg.2 e))).trans hcell
  clear hv1 hcell
  have HR := Lib.hid hr
  have HSI := Lib.hid hsi
  clear hr hsi
  go_wp2
  go_ret
  exact ⟨_, rfl, ⟨s, rfl, hsz⟩, HR.out, HSI.out⟩
end Go.Proofs.YtpalgnfimelioaaGreatDoor
