
/- errors.As at the program's own error type, walked: that error: true, the variable is set; and the program's question of it. Condition: the package's variable 'errorType' holds the handle of the type 'error', as the card ties it. -/
import Derived.Test.YtbpaklcibkifnaaDoorAs
namespace Go.Proofs.YtbpaklcibkifnaaDoor
open Go.RowKit Go.Extern.Stop Go.Stop Go.Extern

set_option maxRecDepth 100000 in
theorem eSet (tb b : Nat) (x y z u : Int) (W : World) (hb : W.heap[b]? = some (.cells #[.int .i64 x, .int .i64 y, .int .i64 z, .int .i64 u] 66 (0, 0)))
    (ht : W.heap[tb]? = some (.cells #[.int .i64 0, .int .i64 0, .int .i64 0, .int .i64 0] 66 (0, 0))) :
    (ReflectliteValue.set #[.agg #[.pointer (some ⟨1, 66, none⟩), .pointer (some ⟨tb, 0, none⟩), .int .u64 409], .agg #[.pointer (some ⟨1, 66, none⟩), .pointer (some ⟨b, 0, none⟩), .int .u64 153]]).run Tryd.prog W
      = .ok (.tuple #[]) ((((W.setCell ⟨tb, 0, none⟩ (.int .i64 x)).setCell ⟨tb, 1, none⟩ (.int .i64 y)).setCell ⟨tb, 2, none⟩ (.int .i64 z)).setCell ⟨tb, 3, none⟩ (.int .i64 u)) := by
  have hc : ∀ o, W.cell? ⟨b, o, none⟩ = _ := fun o => cell_of_row W b o _ _ _ hb
  have hd : ∀ o, W.cell? ⟨tb, o, none⟩ = _ := fun o => cell_of_row W tb o _ _ _ ht
  have hf : ∀ o, W.frozen? ⟨tb, o, none⟩ = false := fun o => by simp [World.frozen?, ht]
  have hn : ∀ (V : World) (i j : Nat) (v : Value), i ≠ j → (V.setCell ⟨tb, i, none⟩ v).cell? ⟨tb, j, none⟩ = V.cell? ⟨tb, j, none⟩ := fun V i j v h => World.cell?_setCell_other V _ _ v (fun e => h (congrArg Addr.off e))
  change Sem.run _ (ReflectliteValue.parts (.agg #[.pointer (some ⟨1, 66, none⟩), .pointer (some ⟨tb, 0, none⟩), .int .u64 409]) >>= _) _ = _
  simp only [Sem.run_bind, ePartsEa, Result.andThen]
  erw [ePartsE ⟨b, 0, none⟩ W]
  dsimp only
  simp [ReflectliteValue.flagAddr, loadVar, Result.andThen, eDirect, storeVar, Value.cells, storeCells, Addr.add, loadCells, loadCellsFrom, hc]
  rw [run_store Tryd.prog W ⟨tb, 0, none⟩ _ _ (by rfl)]
  simp [hd, hf]
  rw [run_store Tryd.prog _ ⟨tb, 1, none⟩ _ _ (by rfl), hn _ 0 1 _ (by decide), hd]
  simp [hf]
  rw [run_store Tryd.prog _ ⟨tb, 2, none⟩ _ _ (by rfl), hn _ 1 2 _ (by decide), hn _ 0 2 _ (by decide), hd]
  simp [hf]
  rw [run_store Tryd.prog _ ⟨tb, 3, none⟩ _ _ (by rfl), hn _ 2 3 _ (by decide), hn _ 1 3 _ (by decide), hn _ 0 3 _ (by decide), hd]
  simp [hf]

set_option maxHeartbeats 4000000 in
theorem as_hit (x y z u : Int) (tb : Nat) (w : World) (hg : Hnd w) (ht : w.heap[tb]? = some (.cells #[.int .i64 0, .int .i64 0, .int .i64 0, .int .i64 0] 66 (0, 0))) :
    Calls Tryd.prog 48 #[.iface 66 (.agg #[.int .i64 x, .int .i64 y, .int .i64 z, .int .i64 u]), .iface 68 (.pointer (some ⟨tb, 0, none⟩))] w fun ev w' => ev = .returned (.bool true) ∧
      w' = ((((((((w.alloc (.cells #[.pointer (some ⟨tb, 0, none⟩)] 68)).alloc (.cells #[.pointer (some ⟨1, 68, none⟩), .pointer (some ⟨w.heap.size, 0, none⟩), .int .u64 150] 81)).alloc
        (.cells #[.pointer (some ⟨1, 68, none⟩), .pointer (some ⟨w.heap.size, 0, none⟩), .int .u64 150] 81)).alloc (.cells #[.int .i64 x, .int .i64 y, .int .i64 z, .int .i64 u] 66)).setCell ⟨tb, 0, none⟩ (.int .i64 x)).setCell ⟨tb, 1, none⟩ (.int .i64 y)).setCell ⟨tb, 2, none⟩ (.int .i64 z)).setCell ⟨tb, 3, none⟩ (.int .i64 u)) := by
  have h6 := @run_callFunc_extern Tryd.prog 60 _ (fun args => ReflectliteValue.unpack (args.getD 0 (.tuple #[]))) Tryd.func60 (by kernel_rfl) (by kernel_rfl) (by kernel_rfl) (by kernel_rfl)
  have h7 := @run_callFunc_extern Tryd.prog 61 _ (ReflectliteValue.methodAny (ReflectliteValue.valueError "reflectlite.Value.Type" 0) (fun t _ _ _ => ReflectliteType.toType t)) Tryd.func61 (by kernel_rfl) (by kernel_rfl) (by kernel_rfl) (by kernel_rfl)
  have h8 := @run_callFunc_extern Tryd.prog 62 _ (ReflectliteValue.method (ReflectliteValue.valueError "reflectlite.Value.IsNil" 0) ReflectliteValue.isNil) Tryd.func62 (by kernel_rfl) (by kernel_rfl) (by kernel_rfl) (by kernel_rfl)
  have h27 := @run_callFunc_extern Tryd.prog 84 _ (ReflectliteType.abiMethod fun t => do pure (.int .u8 (← Rtype.kind t))) Tryd.func84 (by kernel_rfl) (by kernel_rfl) (by kernel_rfl) (by kernel_rfl)
  have h37 := @run_callFunc_extern Tryd.prog 94 _ (ReflectliteType.method ReflectliteType.elem) Tryd.func94 (by kernel_rfl) (by kernel_rfl) (by kernel_rfl) (by kernel_rfl)
  have h38 := @run_callFunc_extern Tryd.prog 95 _ (ReflectliteType.relation "Implements" ReflectliteType.implements_) Tryd.func95 (by kernel_rfl) (by kernel_rfl) (by kernel_rfl) (by kernel_rfl)
  have h10 := @run_callFunc_extern Tryd.prog 67 _ ReflectliteType.typeOf Tryd.func67 (by kernel_rfl) (by kernel_rfl) (by kernel_rfl) (by kernel_rfl)
  have h35 := @run_callFunc_extern Tryd.prog 92 _ (ReflectliteType.relation "AssignableTo" ReflectliteType.assignableTo) Tryd.func92 (by kernel_rfl) (by kernel_rfl) (by kernel_rfl) (by kernel_rfl)
  have h11 := @run_callFunc_extern Tryd.prog 68 _ (ReflectliteValue.method (ReflectliteValue.valueError "reflectlite.Value.Elem" 0) ReflectliteValue.elem) Tryd.func68 (by kernel_rfl) (by kernel_rfl) (by kernel_rfl) (by kernel_rfl)
  have h12 := @run_callFunc_extern Tryd.prog 69 _ ReflectliteValue.set Tryd.func69 (by kernel_rfl) (by kernel_rfl) (by kernel_rfl) (by kernel_rfl)
  have q1 := eTypeOf
  have q2 := eMethodAssign
  have q3 := eAssign
  have q4 := eValueOfE
  have q5 := eValueOfP
  have q6 := eTypeP
  have q7 := eMethodKind
  have q8 := eMethodElem
  have q9 := eMethodImpl
  have q10 := eKindP
  have q11 := eKindE
  have q12 := eElem
  have q13 := eImpl
  have hlt := hg.pos
  have htl : tb < w.heap.size := mem_lt ht
  have n8 := eIsNil ⟨w.heap.size, 0, none⟩ ⟨tb, 0, none⟩ ((w.alloc (.cells #[.pointer (some ⟨tb, 0, none⟩)] 68)).alloc (.cells #[.pointer (some ⟨1, 68, none⟩), .pointer (some ⟨w.heap.size, 0, none⟩), .int .u64 150] 81)) (by simp)
  have hg2 : ((w.alloc (.cells #[.pointer (some ⟨tb, 0, none⟩)] 68)).alloc (.cells #[.pointer (some ⟨1, 68, none⟩), .pointer (some ⟨w.heap.size, 0, none⟩), .int .u64 150] 81)).cell? ⟨0, 0, none⟩ = some (.iface 94 (.agg #[.pointer (some ⟨1, 42, none⟩)])) := by
    rw [World.cell?_alloc_lt _ _ ⟨0, 0, none⟩ (by simp), World.cell?_alloc_lt _ _ ⟨0, 0, none⟩ hlt]; exact hg
  have el := eElemV ⟨w.heap.size, 0, none⟩ ⟨tb, 0, none⟩ (((w.alloc (.cells #[.pointer (some ⟨tb, 0, none⟩)] 68)).alloc (.cells #[.pointer (some ⟨1, 68, none⟩), .pointer (some ⟨w.heap.size, 0, none⟩), .int .u64 150] 81)).alloc (.cells #[.pointer (some ⟨1, 68, none⟩), .pointer (some ⟨w.heap.size, 0, none⟩), .int .u64 150] 81)) (by rw [World.cell?_alloc_lt _ _ ⟨w.heap.size, 0, none⟩ (by simp; omega)]; simp)
  have st := eSet tb (w.heap.size + 1 + 1 + 1) x y z u ((((w.alloc (.cells #[.pointer (some ⟨tb, 0, none⟩)] 68)).alloc (.cells #[.pointer (some ⟨1, 68, none⟩), .pointer (some ⟨w.heap.size, 0, none⟩), .int .u64 150] 81)).alloc (.cells #[.pointer (some ⟨1, 68, none⟩), .pointer (some ⟨w.heap.size, 0, none⟩), .int .u64 150] 81)).alloc (.cells #[.int .i64 x, .int .i64 y, .int .i64 z, .int .i64 u] 66))
    (by have := heap_alloc_new (((w.alloc (.cells #[.pointer (some ⟨tb, 0, none⟩)] 68)).alloc (.cells #[.pointer (some ⟨1, 68, none⟩), .pointer (some ⟨w.heap.size, 0, none⟩), .int .u64 150] 81)).alloc (.cells #[.pointer (some ⟨1, 68, none⟩), .pointer (some ⟨w.heap.size, 0, none⟩), .int .u64 150] 81)) (.cells #[.int .i64 x, .int .i64 y, .int .i64 z, .int .i64 u] 66); simpa using this)
    (by rw [Below.heap_alloc _ _ tb (by simp; omega), Below.heap_alloc _ _ tb (by simp; omega), Below.heap_alloc _ _ tb (by simp; omega), Below.heap_alloc _ _ tb htl]; exact ht)
  go_enter Tryd.func48, Tryd.ntmps48
  go_wp2
  refine wp_loop_rounds 1 ?_
  rw [rounds_succ]
  go_wp2
  go_ret
  exact ⟨rfl, rfl⟩

/-- the program's error: nothing is wrong, or an even matrix is missing -/
def errV (m : M) (ok : Bool) : Value := if ok then .nilIface else .iface 66 (.agg #[.int .i64 m.a, .int .i64 m.b, .int .i64 m.c, .int .i64 m.d])
set_option maxHeartbeats 1000000 in
theorem isNotEven_ (m : M) (ok : Bool) (w : World) (hg : Hnd w) : Calls Tryd.prog 24 #[errV m ok] w (fun E' W' => E' = .returned (.bool (!ok)) ∧ Below w.heap.size w W') := by
  cases ok
  · have hgA : Hnd (w.alloc (.cells #[.int .i64 0, .int .i64 0, .int .i64 0, .int .i64 0] 66)) := hg.of (Below.alloc (Below.refl _ _) (Nat.le_refl _) _)
    have htA := heap_alloc_new w (.cells #[.int .i64 0, .int .i64 0, .int .i64 0, .int .i64 0] 66)
    simp only [errV]
    have hM := mem_nil w; have hB := Below.refl w.heap.size w; have hC := True.intro
    go_enter Tryd.func24, Tryd.ntmps24
    go_wp2_with (go_at_call 48; refine (as_hit _ _ _ _ _ _ hgA htA).mono ?_; rintro e w' ⟨rfl, rfl⟩)
    go_ret
    exact ⟨rfl, by (repeat' (first | (with_reducible exact hB) | (with_reducible exact Below.refl _ _) | (with_reducible refine Below.alloc ?_ ?_ _) | (with_reducible refine Below.setCell ?_ ?_ _) | (with_reducible refine Below.drew ?_) | (with_reducible refine below_drewN ?_ _) | (with_reducible exact Nat.le_refl _) | (with_reducible exact hB.size) | (simp [go_sem]; done) | (have := hB.size; simp [go_sem]; omega)))⟩
  · simp only [errV]
    have hM := mem_nil w; have hB := Below.refl w.heap.size w; have hC := True.intro
    go_enter Tryd.func24, Tryd.ntmps24
    go_wp2_with (go_at_call 48; refine (as_nil _ _).mono ?_; rintro e w' ⟨rfl, rfl⟩)
    go_ret
    exact ⟨rfl, by (repeat' (first | (with_reducible exact hB) | (with_reducible exact Below.refl _ _) | (with_reducible refine Below.alloc ?_ ?_ _) | (with_reducible refine Below.setCell ?_ ?_ _) | (with_reducible refine Below.drew ?_) | (with_reducible refine below_drewN ?_ _) | (with_reducible exact Nat.le_refl _) | (with_reducible exact hB.size) | (simp [go_sem]; done) | (have := hB.size; simp [go_sem]; omega)))⟩
end Go.Proofs.YtbpaklcibkifnaaDoor
