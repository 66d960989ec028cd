
/- Chapter 9's script: the builder of the output beside the bench, the two maps and the lines' own variable; what keeps them. No condition. -/
import Derived.Test.YtpalgnfimelioaaGreatDoorExD
import Derived.Test.YtpalgnfimelioaaGreatDoorStrL
namespace Go.Proofs.YtpalgnfimelioaaGreatDoor
open Go.RowKit Go.Shelf

theorem bldW : Go.Proofs.Builder.Extra Tryz.prog laysWS_ren where
  sizeBuilder := by kernel_rfl
  liesBuilder := by kernel_rfl
  t5 := Tryz.underlying5
  a5 := Tryz.isAgg5
  z5 := Tryz.sizeOf5
  v5 := Tryz.zeroValue5
  infoByte := by kernel_rfl
  cellsByte := by kernel_rfl
  sizeByte := by kernel_rfl
  neB5 := by decide
theorem bldS : Go.Proofs.Builder.Extra Tryz.prog laysSt_ren where
  sizeBuilder := by kernel_rfl
  liesBuilder := by kernel_rfl
  t5 := Tryz.underlying5
  a5 := Tryz.isAgg5
  z5 := Tryz.sizeOf5
  v5 := Tryz.zeroValue5
  infoByte := by kernel_rfl
  cellsByte := by kernel_rfl
  sizeByte := by kernel_rfl
  neB5 := by decide
/-- block o is a strings.Builder of the call's own (from B on) that holds the bytes l -/
def Bld (B o : Nat) (l : List UInt8) (w : World) : Prop := Lib.IsBuilderF 54 5 B o (Lib.byteCells l) w
theorem writeString_ (B o : Nat) (l : List UInt8) (s : List UInt8) (w : World) (h : Bld B o l w) (hlen : l.length + s.length ≤ 1000000000) (hB : B ≤ w.heap.size) :
    Calls Tryz.prog 29 #[.pointer (some ⟨o, 0, none⟩), .string (tx s)] w fun e w' => e = .returned (.tuple #[.int .i64 s.length, .nilIface]) ∧ Bld B o (l ++ s) w' ∧ Below B w w' ∧ Lib.OthersKept 5 (some o) w w' := by
  refine (show Calls Tryz.prog 29 #[.pointer (some ⟨o, 0, none⟩), .string (tx s)] w _ from
    Any.Builder_WriteString_k laysWS bldW B o (Lib.byteCells l) (tx s) w h (by rw [tx_size]; simp [Lib.byteCells]; omega) hB).mono ?_
  rintro e w' ⟨rfl, h1, h2, h3⟩
  refine ⟨rfl, ?_, h2, h3⟩
  unfold Bld
  rw [Lib.byteCells_append]
  exact Or.inr h1
theorem string_ (B o : Nat) (l : List UInt8) (w : World) (h : Bld B o l w) (hB : B ≤ w.heap.size) :
    Calls Tryz.prog 32 #[.pointer (some ⟨o, 0, none⟩)] w fun e w' => e = .returned (.string (tx l)) ∧ Below B w w' ∧ Lib.OthersKept 5 (some o) w w' := by
  refine (show Calls Tryz.prog 32 #[.pointer (some ⟨o, 0, none⟩)] w _ from Any.Builder_String_any_k laysSt bldS B o l w h hB).mono ?_
  rintro e w' ⟨rfl, _, h2, h3⟩
  exact ⟨rfl, h2, h3⟩
theorem Bld.keep {B o : Nat} {l : List UInt8} {w w' : World} (h : Bld B o l w) (hk : ∀ (k : Nat) (c : Array Value) (t : TypeId) (fz : Nat × Nat), w.heap[k]? = some (Obj.cells c t fz) → t = 54 ∨ t = 5 → w'.heap[k]? = some (Obj.cells c t fz)) : Bld B o l w' := by
  have one : ∀ p, Lib.BuilderAtF 54 5 B o p (Lib.byteCells l) w → Lib.BuilderAtF 54 5 B o p (Lib.byteCells l) w' := by
    rintro p ⟨hB, v, hb, hown, hne⟩
    refine ⟨hB, v, hk _ _ _ _ hb (.inl rfl), ⟨hown.1, ?_⟩, hne⟩
    rcases hown.2 with h | ⟨g, cap, cur, fz, h1, h2, h3, h4⟩
    · exact .inl h
    · exact .inr ⟨g, cap, cur, fz, h1, h2, hk _ _ _ _ h3 (.inr rfl), h4⟩
  exact h.imp (one _) (one _)
theorem cells2_cell {W : World} {B : Nat} {v x : Value} {t : TypeId} (h : W.heap[B]? = some (Obj.cells #[v, x] t (0, 0))) : W.cell? ⟨B, 0, none⟩ = some v ∧ W.cell? ⟨B, 1, none⟩ = some x := by simp [World.cell?, h]
/-- what a script's run holds: the maps in p and q, the table in k, the bench in b with the matrix m, the builder in o with the text l, the lines' own variable in s; nothing that was there in w has changed -/
structure ExI (p q b k o s : Nat) (w : World) (m : M) (l : List UInt8) (W : World) : Prop where
  maps : MapsAt p q W
  bench : BenchAt b m W
  know : W.heap[k]? = some (Obj.cells #[.map (some p), .map (some q)] 50 (0, 0))
  bld : Bld w.heap.size o l W
  var : ∃ v, W.heap[s]? = some (Obj.cells #[v] 9 (0, 0))
  below : Below w.heap.size w W
section
variable {p q b k o s : Nat} {w W W' : World} {m : M} {l : List UInt8}
/-- where all that was there stands -/
theorem ExI.same (h : ExI p q b k o s w m l W) (hb : Below W.heap.size W W') : ExI p q b k o s w m l W' :=
  have kp : ∀ {i : Nat} {x : Obj}, W.heap[i]? = some x → W'.heap[i]? = some x := fun hx => (hb.block _ (mem_lt hx)).trans hx
  ⟨⟨kp h.maps.1, kp h.maps.2⟩, kp h.bench, kp h.know, Bld.keep h.bld fun _ _ _ _ hx _ => kp hx, h.var.imp fun _ hx => kp hx, below_call h.below h.below.size hb⟩
/-- where the lines' own variable turns -/
theorem ExI.turn (h : ExI p q b k o s w m l W) (hw : w.heap.size ≤ s) (v : Value) : ExI p q b k o s w m l (W.setCell ⟨s, 0, none⟩ v) := by
  obtain ⟨x, hx⟩ := h.var
  have ne : ∀ {i : Nat} {y : Obj}, W.heap[i]? = some y → (∀ c, y ≠ Obj.cells c 9 (0, 0)) → (W.setCell ⟨s, 0, none⟩ v).heap[i]? = some y := fun {i y} hy hc => by
    refine (heap_set_ne v fun e => ?_).trans hy
    subst e
    rw [hx] at hy
    exact hc _ (Option.some.inj hy).symm
  refine ⟨⟨ne h.maps.1 (fun c e => by unfold mapO at e; cases e), ne h.maps.2 (fun c e => by unfold mapO at e; cases e)⟩, ne h.bench (fun c e => by injection e with _ e _; exact absurd e (by decide)), ne h.know (fun c e => by injection e with _ e _; exact absurd e (by decide)), Bld.keep h.bld fun k c t fz hk ht => ne hk fun c' e => ?_, ⟨v, set_cells hx⟩, h.below.setCell (p := ⟨s, 0, none⟩) hw v⟩
  injection e with _ e _
  rw [e] at ht
  rcases ht with ht | ht <;> exact absurd ht (by decide)
/-- where a block turns that is no cells and lies behind the maps -/
theorem ExI.grown {B : Nat} (h : ExI p q b k o s w m l W) {row : Option Nat} (hg : W.grownBy W' row) (hr : ∀ r, row = some r → B ≤ r ∧ ∃ x : Obj, W.heap[r]? = some x ∧ x.isCells = false) (hB : w.heap.size ≤ B) (hp : p < B) (hq : q < B) : ExI p q b k o s w m l W' := by
  have ne : ∀ {i : Nat} {y : Obj}, W.heap[i]? = some y → (y.isCells = true ∨ i < B) → W'.heap[i]? = some y := fun {i y} hy hc => by
    refine (hg.block _ (mem_lt hy) fun e => ?_).trans hy
    obtain ⟨h1, x, h2, h3⟩ := hr i e.symm
    rw [hy] at h2
    obtain rfl := Option.some.inj h2
    rcases hc with hc | hc
    · rw [h3] at hc; cases hc
    · omega
  exact ⟨⟨ne h.maps.1 (.inr hp), ne h.maps.2 (.inr hq)⟩, ne h.bench (.inl rfl), ne h.know (.inl rfl), Bld.keep h.bld fun k c t fz hk _ => ne hk (.inl rfl), h.var.imp fun _ hx => ne hx (.inl rfl),
    h.below.grown hg h.below.size fun k e => Nat.le_trans hB (hr k e).1⟩
/-- where the bench's matrix turns -/
theorem ExI.bench4 (h : ExI p q b k o s w m l W) (hw : w.heap.size ≤ b) (m' : M) : ExI p q b k o s w m' l (st4 W b m') := by
  have hb := h.bench
  unfold BenchAt at hb
  have ne : ∀ {i : Nat} {y : Obj}, W.heap[i]? = some y → (∀ c, y ≠ Obj.cells c 46 (0, 0)) → (st4 W b m').heap[i]? = some y := fun {i y} hy hc => by
    refine (st4_ne W m' fun e => ?_).trans hy
    subst e
    rw [hb] at hy
    exact hc _ (Option.some.inj hy).symm
  refine ⟨⟨ne h.maps.1 (fun c e => by unfold mapO at e; cases e), ne h.maps.2 (fun c e => by unfold mapO at e; cases e)⟩, ?_, ne h.know (fun c e => by injection e with _ e _; exact absurd e (by decide)), Bld.keep h.bld fun k c t fz hk ht => ne hk fun c' e => ?_, h.var.imp fun _ hx => ne hx fun c e => ?_, ?_⟩
  · simp [BenchAt, st4, World.setCell, Array.getElem?_modify, hb]
  · injection e with _ e _
    rw [e] at ht
    rcases ht with ht | ht <;> exact absurd ht (by decide)
  · injection e with _ e _
    exact absurd e (by decide)
  · exact (((h.below.setCell (p := ⟨b, 0, none⟩) hw _).setCell (p := ⟨b, 1, none⟩) hw _).setCell (p := ⟨b, 2, none⟩) hw _).setCell (p := ⟨b, 3, none⟩) hw _
/-- where the builder is written -/
theorem ExI.wrote (h : ExI p q b k o s w m l W) {l' : List UInt8} (hbo : b ≠ o) (hso : s ≠ o) (h1 : Bld w.heap.size o l' W') (h2 : Below w.heap.size W W') (h3 : Lib.OthersKept 5 (some o) W W') (hpo : p ≠ o) (hqo : q ≠ o) (hko : k ≠ o) : ExI p q b k o s w m l' W' := by
  refine ⟨⟨h3 _ _ h.maps.1 (by simpa using hpo) (fun c fz e => by unfold mapO at e; cases e), h3 _ _ h.maps.2 (by simpa using hqo) (fun c fz e => by unfold mapO at e; cases e)⟩, h3 _ _ h.bench (by simpa using hbo) fun c fz e => ?_, h3 _ _ h.know (by simpa using hko) fun c fz e => ?_, h1, h.var.imp fun _ hx => h3 _ _ hx (by simpa using hso) fun c fz e => ?_, h.below.trans h2⟩
  · injection e with _ e _
    exact absurd e (by decide)
  · injection e with _ e _
    exact absurd e (by decide)
  · injection e with _ e _
    exact absurd e (by decide)
end
theorem keeps_st4 {w w' : World} {b : Nat} {m : M} (hb : Below w.heap.size (st4 w b m) w') : KeepsOthers w w' := by
  have h1 : KeepsOthers w (st4 w b m) := (((KeepsOthers.setCell w _ _).trans (KeepsOthers.setCell _ _ _)).trans (KeepsOthers.setCell _ _ _)).trans (KeepsOthers.setCell _ _ _)
  exact h1.trans (keeps_below (by rw [st4_size]; exact hb))
theorem Bld.cells {B o : Nat} {l : List UInt8} {w : World} (h : Bld B o l w) : ∃ c, w.heap[o]? = some (Obj.cells c 54 (0, 0)) := by
  rcases h with ⟨_, v, hb, _⟩ | ⟨_, v, hb, _⟩ <;> exact ⟨_, hb⟩
theorem keeps_bld {B o : Nat} {l : List UInt8} {w w' : World} (h : Bld B o l w) (hb : Below B w w') (ho : Lib.OthersKept 5 (some o) w w') : KeepsOthers w w' :=
  ⟨hb.size, fun k x hk hc => ho k x hk (fun e => by
    obtain rfl := Option.some.inj e
    obtain ⟨c, hcs⟩ := h.cells
    rw [hk] at hcs
    obtain rfl := Option.some.inj hcs
    cases hc) (fun c fz e => by subst e; cases hc)⟩
end Go.Proofs.YtpalgnfimelioaaGreatDoor
