
/- Chapter 9's rest of a line: its numbers, walked for numbers of at most five digits with a blank between each two. No condition. -/
import Derived.Test.YtpalgnfimelioaaGreatDoorSpB
import Derived.Test.YtpalgnfimelioaaGreatDoorExD
namespace Go.Proofs.YtpalgnfimelioaaGreatDoor
open Go.RowKit Go.Shelf
attribute [local go_sem] Oper.semAt_some
attribute [local go_sem ↓] app_held

/-- what the reading of a rest holds: the slice of the numbers read, the splitter's own three variables -/
structure LsI (w : World) (v : Value) (k : Nat) (xs : List Value) (W : World) : Prop where
  cell : W.heap[w.heap.size]? = some (.cells #[v] 100 (0, 0))
  row : W.ownsRow (w.heap.size + 4) 3 1 v k xs
  var : ∃ u, W.heap[w.heap.size + 1]? = some (.cells #[u] 9 (0, 0))
  sep : W.heap[w.heap.size + 1 + 1]? = some (.cells #[.string ⟨#[32]⟩] 9 (0, 0))
  zero : W.heap[w.heap.size + 1 + 2]? = some (.cells #[.int .i64 0] 3 (0, 0))
  size : w.heap.size + 4 ≤ W.heap.size
  below : Below w.heap.size w W
section
variable {w W W' : World} {v : Value} {k : Nat} {xs : List Value}
theorem own_ge {base : Nat} {e : TypeId} (h : W.ownsRow base e 1 v k xs) {r : Nat} (hr : v.ownBlock = some r) : base ≤ r := by
  rcases h.2 with ⟨rfl, _⟩ | ⟨g, cap, cur, rfl, hb, _, _⟩
  · simp [Value.ownBlock] at hr
  · obtain rfl : g = r := by simpa [Value.ownBlock] using hr
    exact hb
theorem own_cells {base : Nat} {e : TypeId} (h : W.ownsRow base e 1 v k xs) {r : Nat} (hr : v.ownBlock = some r) : ∃ cur, W.heap[r]? = some (.cells cur e (0, 0)) := by
  rcases h.2 with ⟨rfl, _⟩ | ⟨g, cap, cur, rfl, _, hg, _⟩
  · simp [Value.ownBlock] at hr
  · obtain rfl : g = r := by simpa [Value.ownBlock] using hr
    exact ⟨cur, hg⟩
theorem LsI.drew (h : LsI w v k xs W) : LsI w v k xs W.drew := ⟨h.cell, h.row, h.var, h.sep, h.zero, h.size, ⟨h.below.os, h.below.tape, h.below.output, h.below.size, h.below.block⟩⟩
theorem LsI.grown (h : LsI w v k xs W) {row : Option Nat} (hg : W.grownBy W' row) (hr : ∀ r, row = some r → w.heap.size + 4 ≤ r ∧ v.ownBlock ≠ some r) : LsI w v k xs W' := by
  have hs := h.size
  have kp : ∀ i, i < w.heap.size + 4 → W'.heap[i]? = W.heap[i]? := fun i hi => hg.block i (by omega) fun e => by have := (hr i e.symm).1; omega
  refine ⟨(kp _ (by omega)).trans h.cell, h.row.kept hg ?_, h.var.imp fun _ hx => (kp _ (by omega)).trans hx, (kp _ (by omega)).trans h.sep, (kp _ (by omega)).trans h.zero, Nat.le_trans hs hg.size, h.below.grown hg h.below.size fun r e => by have := (hr r e).1; omega⟩
  cases row with
  | none => cases hv : v.ownBlock <;> simp
  | some r => exact .inr (hr r rfl).2
theorem LsI.same (h : LsI w v k xs W) (hb : Below W.heap.size W W') : LsI w v k xs W' :=
  h.grown (row := none) ⟨hb.os, hb.tape, hb.output, hb.size, fun k hk _ => hb.block k hk⟩ (fun r e => by cases e)
theorem LsI.alloc (h : LsI w v k xs W) (o : Obj) : LsI w v k xs (W.alloc o) := h.grown (World.grownBy_alloc W o none) (fun r e => by cases e)
theorem LsI.turn (h : LsI w v k xs W) (u : Value) : LsI w v k xs (W.setCell ⟨w.heap.size + 1, 0, none⟩ u) := by
  have ne : ∀ i, i ≠ w.heap.size + 1 → (W.setCell ⟨w.heap.size + 1, 0, none⟩ u).heap[i]? = W.heap[i]? := fun i hi => heap_set_ne u hi
  have hs := h.size
  obtain ⟨x, hx⟩ := h.var
  refine ⟨(ne _ (by omega)).trans h.cell, ?_, ⟨_, set_cells hx⟩, (ne _ (by omega)).trans h.sep, (ne _ (by omega)).trans h.zero, by simp [World.setCell]; omega, h.below.setCell (p := ⟨w.heap.size + 1, 0, none⟩) (by simp) u⟩
  refine h.row.kept (row := some (w.heap.size + 1)) ⟨rfl, rfl, rfl, by simp [World.setCell], fun j _ hj => ne j (fun e => hj (by rw [e]))⟩ (.inr fun e => ?_)
  have := own_ge h.row e
  omega
theorem LsI.appended (h : LsI w v k xs W) {v' : Value} {k' : Nat} {xs' : List Value} (hg : W.grownBy W' v.ownBlock) (ho : W'.ownsRow (w.heap.size + 4) 3 1 v' k' xs') : LsI w v' k' xs' (W'.setCell ⟨w.heap.size, 0, none⟩ v') := by
  have hs := h.size
  have kp : ∀ i, i < w.heap.size + 4 → W'.heap[i]? = W.heap[i]? := fun i hi => hg.block i (by omega) fun e => by have := own_ge h.row e.symm; omega
  have ne : ∀ i, i ≠ w.heap.size → (W'.setCell ⟨w.heap.size, 0, none⟩ v').heap[i]? = W'.heap[i]? := fun i hi => heap_set_ne v' hi
  have hb : Below w.heap.size w W' := h.below.grown hg h.below.size fun r e => by have := own_ge h.row e; omega
  refine ⟨set_cells ((kp _ (by omega)).trans h.cell), ?_, h.var.imp fun _ hx => (ne _ (by omega)).trans ((kp _ (by omega)).trans hx), (ne _ (by omega)).trans ((kp _ (by omega)).trans h.sep), (ne _ (by omega)).trans ((kp _ (by omega)).trans h.zero), by
    have := hg.size
    simp [World.setCell]; omega, hb.setCell (p := ⟨w.heap.size, 0, none⟩) (by simp) _⟩
  refine ho.kept (row := some w.heap.size) ⟨rfl, rfl, rfl, by simp [World.setCell], fun j _ hj => ne j (fun e => hj (by rw [e]))⟩ (.inr fun e => ?_)
  have := own_ge ho e
  omega
theorem mem_one {b : Nat} {c : Array Value} {t : TypeId} (h : W.heap[b]? = some (.cells c t (0, 0))) : Mem W [(b, c, t)] :=
  ⟨fun p hp => by obtain rfl := List.mem_singleton.1 hp; exact h, List.pairwise_singleton _ _⟩
theorem LsI.cellApp (h : LsI w v k xs W) (hg : W.grownBy W' v.ownBlock) : W'.heap[w.heap.size]? = some (.cells #[v] 100 (0, 0)) := by
  have hs := h.size
  exact (hg.block _ (by omega) fun e => by have := own_ge h.row e.symm; omega).trans h.cell
theorem LsI.blocksApp (h : LsI w v k xs W) (hg : W.grownBy W' v.ownBlock) : ∀ i, i < w.heap.size + 4 → W'.heap[i]? = W.heap[i]? := fun i hi => by
  have hs := h.size
  exact hg.block i (by omega) fun e => by have := own_ge h.row e.symm; omega
theorem LsI.keepsApp (h : LsI w v k xs W) (hg : W.grownBy W' v.ownBlock) : KeepsOthers W W' := KeepsOthers.of_grownBy hg fun j o ej hj => by
  obtain ⟨cur, hc⟩ := own_cells h.row ej
  rw [hc] at hj
  obtain rfl := Option.some.inj hj
  rfl
end
theorem itoa_digits {n : Int} {c : UInt8} (h : c ∈ Lib.itoa n) : c = 45 ∨ 48 ≤ c.toNat := by
  unfold Lib.itoa at h
  split at h
  · rcases List.mem_cons.1 h with rfl | h
    · exact .inl rfl
    · exact .inr (dec_digits _ c h).1
  · exact .inr (dec_digits _ c h).1
theorem itoa_no32 (n : Int) : (32 : UInt8) ∉ Lib.itoa n := fun h => by
  rcases itoa_digits h with h | h <;> revert h <;> decide
theorem itoa_no10 (n : Int) : (10 : UInt8) ∉ Lib.itoa n := fun h => by
  rcases itoa_digits h with h | h <;> revert h <;> decide
def iv (n : Int) : Value := .int .i64 n

set_option maxRecDepth 100000 in
set_option maxHeartbeats 2000000 in
theorem restList_ (ns : List Int) (hne : ns ≠ []) (hlen : ns.length ≤ 100) (h : ∀ n ∈ ns, -99999 ≤ n ∧ n ≤ 99999) (hsz : (spL (ns.map Lib.itoa)).length ≤ 600) (w : World) :
    Calls Tryz.prog 96 #[.string (tx (spL (ns.map Lib.itoa)))] w fun e w' => ∃ v, e = .returned v ∧ w'.ownsRow (w.heap.size + 4) 3 1 v ns.length (ns.map iv) ∧ Below w.heap.size w w' := by
  refine (callsIn_wide (n := 6)).1 ?_
  refine callsIn_of_wp_marks Tryz.func96 rfl trivial ?_ rfl
  simp only [Tryz.ntmps96, List.size_toArray, List.length_cons, List.length_nil, Nat.reduceAdd, Nat.reduceSub, Array.replicate_succ, Array.replicate_zero, List.push_toArray, List.append_toArray, List.nil_append, List.cons_append]
  obtain ⟨i0, hi, hz0, hz1, hz2⟩ := info_parts infoI64
  gi_wp2_with (refine ⟨trivial, ?_⟩; gi_at_call 137; refine (callsIn_wide.2 (splitSeq_ _ _)).mono ?_; rintro e w3 ⟨rfl, rfl⟩)
  obtain ⟨W4, hW4⟩ : ∃ W4, W4 = ((((w.alloc (.cells #[.slice none 0 0] 100)).alloc (.cells #[.string (tx (spL (ns.map Lib.itoa)))] 9)).alloc (.cells #[.string ⟨#[32]⟩] 9)).alloc (.cells #[.int .i64 0] 3)) := ⟨_, rfl⟩
  rw [← hW4]
  have hM4 : Mem W4 [(w.heap.size + 1 + 1 + 1, #[.int .i64 0], 3), (w.heap.size + 1 + 1, #[.string ⟨#[32]⟩], 9), (w.heap.size + 1, #[.string (tx (spL (ns.map Lib.itoa)))], 9), (w.heap.size, #[.slice none 0 0], 100)] := by
    rw [hW4]
    have hM := mem_nil w
    apply mem_drop 0
    · (repeat' (first | (with_reducible exact hM) | (with_reducible apply mem_alloc) | (with_reducible apply mem_set) | (with_reducible apply mem_drew) | (with_reducible apply mem_drewN)))
    · simp
  have hb4 : Below w.heap.size w W4 := by rw [hW4]; exact ((((Below.refl _ w).alloc (Nat.le_refl _) _).alloc (by simp only [World.size_alloc]; omega) _).alloc (by simp only [World.size_alloc]; omega) _).alloc (by simp only [World.size_alloc]; omega) _
  have hsz4 : W4.heap.size = w.heap.size + 4 := by rw [hW4]; simp
  have hI4 : LsI w (.slice none 0 0) 0 [] W4 :=
    ⟨hM4.1 _ (List.mem_cons_of_mem _ (List.mem_cons_of_mem _ (List.mem_cons_of_mem _ List.mem_cons_self))), World.ownsRow_nil _ _ _ _, ⟨_, hM4.1 _ (List.mem_cons_of_mem _ (List.mem_cons_of_mem _ List.mem_cons_self))⟩, hM4.1 _ (List.mem_cons_of_mem _ List.mem_cons_self), hM4.1 _ List.mem_cons_self, by omega, hb4⟩
  have hv4 := hM4.1 _ (List.mem_cons_of_mem _ (List.mem_cons_of_mem _ List.mem_cons_self))
  have hps : ∀ p ∈ ns.map Lib.itoa, (32 : UInt8) ∉ p := fun p hp => by obtain ⟨n, _, rfl⟩ := List.mem_map.1 hp; exact itoa_no32 n
  clear hM4 hW4
  refine range_vars rfl (by omega) (gf := 203) (lb := #[.pointer (some ⟨w.heap.size + 1 + 1, 0, none⟩), .pointer (some ⟨w.heap.size + 1, 0, none⟩), .pointer (some ⟨w.heap.size + 1 + 2, 0, none⟩)]) rfl trivial (enters_of Tryz.func203 (by kernel_rfl) rfl) (B := w.heap.size + 1) (Ks := [w.heap.size + 1, w.heap.size + 1 + 1, w.heap.size + 1 + 2]) (by omega) (by simp; omega)
    (split_stops 5 (by omega) _ (ns.map Lib.itoa) hps (by simpa using hne) (by omega) W4 (by omega) hv4 hI4.sep hI4.zero) (Below.refl _ _)
    (fun pre W => ∃ v, LsI w v pre.length ((ns.take pre.length).map iv) W)
    (fun s A C row hs hg hr => hs.imp fun v hs => hs.grown hg fun r e => ⟨by have := (hr r e).1; omega, fun e' => by
      obtain ⟨o, ho, hc⟩ := (hr r e).2
      obtain ⟨cur, hcur⟩ := own_cells hs.row e'
      rw [hcur] at ho
      obtain rfl := Option.some.inj ho
      cases hc⟩) (fun s W v hs => hs.imp fun _ hs => hs.turn v) ⟨_, hI4⟩
    (fun x => { tmps := #[.string (tx (spL (ns.map Lib.itoa))), undef, .slice none 0 0, .pointer (some ⟨w.heap.size, 0, none⟩), encP x, .string (tx (spL (ns.map Lib.itoa))), .func (.func 203) #[] #[.pointer (some ⟨w.heap.size + 1 + 1, 0, none⟩), .pointer (some ⟨w.heap.size + 1, 0, none⟩), .pointer (some ⟨w.heap.size + 1 + 2, 0, none⟩)], encP x, undef, undef, undef, undef, undef, undef], defers := [] }) ?assign ?body ?done
  case assign =>
    intro l x W K hK
    simp only [encP] at hK ⊢
    gi_wp2
    exact hK
  case body =>
    rintro l pre x post W hx ⟨v, hI⟩
    obtain ⟨n1, n2, hns, rfl, h2⟩ := List.map_eq_append_iff.1 hx
    obtain ⟨n, n3, rfl, rfl, _⟩ := List.map_eq_cons_iff.1 h2
    have hn := h n (by rw [hns]; simp)
    have hnum := fun w => numberOf_ n hn.1 hn.2 w
    rw [List.length_map] at hI
    have ht1 : ns.take n1.length = n1 := by rw [hns]; simp
    have ht2 : ns.take (n1.length + 1) = n1 ++ [n] := by rw [hns, List.take_append]; simp [List.take_of_length_le]
    have hl1 : n1.length < 100 := by rw [hns] at hlen; simp at hlen; omega
    rw [ht1] at hI
    have HT := Lib.hid ht2
    clear ht1 ht2 hx h2 h hns hps hlen hne
    have hK := KeepsOthers.refl W
    have hC := mem_facts (mem_one hI.cell)
    simp at hC
    have hmx : Tryz.prog.follows .mixedOrders = true := by kernel_rfl
    simp only [encP]
    gi_wp2
    gi_region_with_o (first
      | (refine ⟨trivial, ?_⟩; gi_at_call 138; refine (CallsIn.inRound l (callsIn_wide.2 (hnum _))).mono ?_; rintro e W5 ⟨rfl, hb5⟩; have h5 := hI.drew.same hb5; have hk5 : KeepsOthers W W5 := (KeepsOthers.drew W).trans (keeps_below hb5); have hC5 := mem_facts (mem_one h5.cell); simp at hC5)
      | (obtain ⟨v', w1, hrun, hown', hgrow, _⟩ := run_append_own (P := Tryz.prog) _ (w.heap.size + 4) 100 100 3 i0 (.int .i64 0) 1 8 Tryz.underlying100 hi hz0 hz1 hz2 rfl (by decide) _ _ _ (h5.alloc (.cells #[.int .i64 n] 3)).row ⟨W5.heap.size, 0, none⟩ 1 1 [.int .i64 n] rfl (cell_one_new _ _ _) (by simp [Value.oneCell']) (by simp [maxLen]; omega) (by first | omega | (simp; omega)) (by have := h5.size; simp; omega);
         rw [app_held] at hrun; rw [hrun]; obtain ⟨g', cap', rfl⟩ := ownsRow_succ hown'; have h7 := (h5.alloc (.cells #[.int .i64 n] 3)).appended hgrow hown'; have hk7 := (h5.alloc (.cells #[.int .i64 n] 3)).keepsApp hgrow; have hC7 := mem_facts (mem_one ((h5.alloc (.cells #[.int .i64 n] 3)).cellApp hgrow)); simp at hC7; have hq7 := (h5.alloc (.cells #[.int .i64 n] 3)).blocksApp hgrow; clear hrun hgrow hown'))
    all_goals
      have hkf : KeepsOthers W (w1.setCell ⟨w.heap.size, 0, none⟩ (.slice (some ⟨g', 0, none⟩) (n1.length + 1) cap')) := keeps_set ((hk5.trans (KeepsOthers.alloc W5 _)).trans hk7) _ _
      refine ⟨hkf, ?_, ⟨.slice (some ⟨g', 0, none⟩) (n1.length + 1) cap', ?_⟩⟩
      · have hs := hI.size
        have hs5 := h5.size
        intro k hk
        have hk' : w.heap.size < k ∧ k < w.heap.size + 4 := by
          simp only [List.mem_cons, List.mem_nil_iff, or_false] at hk
          omega
        exact (heap_set_ne _ (by omega)).trans ((hq7 k hk'.2).trans ((Below.heap_alloc _ _ _ (by omega)).trans (hb5.block k (by show k < W.heap.size; omega))))
      · rw [List.length_append, List.length_map, List.length_singleton, HT.out, List.map_append]
        exact h7
  case done =>
    rintro D W hD ⟨v, hI⟩ hd
    rw [List.length_map, List.take_length] at hI
    have hC := mem_facts (mem_one hI.cell)
    simp at hC
    gi_wp2
    refine ⟨by simp, .inl ⟨_, _, rfl, run_takeDeferred hd, ?_⟩⟩
    exact ⟨_, results_tmp rfl _ _ _, v, rfl, ownsRow_putObj hI.row _ hd rfl, hI.below.trans (belowK_b (w := w) (Nat.le_refl _) W D _ _ (by omega) hd rfl rfl)⟩
end Go.Proofs.YtpalgnfimelioaaGreatDoor
