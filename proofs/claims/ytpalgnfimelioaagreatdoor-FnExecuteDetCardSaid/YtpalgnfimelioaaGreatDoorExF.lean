
/- Chapter 9's Execute, walked for a script of complete lines each of which is answered as told. Condition: the library's table of powers of ten lies as its text lays it. -/
import Derived.Test.YtpalgnfimelioaaGreatDoorExE
import Derived.Test.YtpalgnfimelioaaGreatDoorImplC
namespace Go.Proofs.YtpalgnfimelioaaGreatDoor
open Go.RowKit Go.Shelf
attribute [local go_sem] Oper.semAt_some

set_option maxRecDepth 100000 in
set_option maxHeartbeats 4000000 in
theorem Execute_ (ls : List (List UInt8)) (hls : ∀ l ∈ ls, (10 : UInt8) ∉ l) (hlen : (nlL ls).length ≤ 600) (st : List (List UInt8) → M × List UInt8) (hs0 : st [] = (unitM, [])) (hlim : ∀ pre, (st pre).2.length ≤ 100000)
    (n : Int) (hn : mtr (st ls).1 = (n, true)) (hn0 : -1000000000 ≤ n) (hn1 : n ≤ 1000000000) (w : World) (hT : TabB w.heap.size w)
    (hstep : ∀ pre x post, ls = pre ++ x :: post → ∃ out, (st (pre ++ [x])).2 = (st pre).2 ++ (out ++ [10]) ∧ ∀ p q b W, MapsAt p q W → BenchAt b (st pre).1 W → TabB W.heap.size W →
      Calls Tryz.prog 30 #[.agg #[.map (some p), .map (some q)], .pointer (some ⟨b, 0, none⟩), .string (tx x)] W fun e w' => e = .returned (.string (tx out)) ∧ Below W.heap.size (st4 W b (st (pre ++ [x])).1) w') :
    Calls Tryz.prog 8 #[.string (tx (nlL ls))] w (fun E' W' => E' = .returned (.string (tx ((st ls).2 ++ ([116, 114, 97, 99, 101, 32] ++ Lib.itoa n ++ [10])))) ∧ Below w.heap.size w W') := by
  have hz : (tx (nlL ls)).size = (nlL ls).length := tx_size _
  have hd : decide ((600 : Int) < ((nlL ls).length : Int)) = false := by simp; omega
  refine (callsIn_wide (n := 6)).1 ?_
  refine callsIn_of_wp_marks Tryz.func8 rfl trivial ?_ rfl
  simp only [Tryz.ntmps8, List.size_toArray, List.length_cons, List.length_nil, Nat.reduceAdd, Nat.reduceSub, Array.replicate_succ, Array.replicate_zero, List.push_toArray, List.append_toArray, List.nil_append, List.cons_append]
  have hM := mem_nil w; have hB := Below.refl w.heap.size w; have hC := True.intro
  have HST := Lib.hid hstep
  have HS0 := Lib.hid hs0
  have HLS := Lib.hid hls
  have HLIM := Lib.hid hlim
  have HN := Lib.hid hn
  clear hstep hs0 hls hlim hn
  gi_wp2_with (first | (refine ⟨trivial, ?_⟩; gi_at_call 25; refine (callsIn_wide.2 (unit_ _)).mono ?_; rintro e w' ⟨rfl, hb⟩; apply after_call (w := w) hb; (focus ((repeat' (first | (with_reducible exact hM) | (with_reducible apply mem_alloc) | (with_reducible apply mem_set) | (with_reducible apply mem_drew) | (with_reducible apply mem_drewN))); done)); (focus ((repeat' (first | (with_reducible exact hB) | (with_reducible exact Below.refl _ _) | (with_reducible refine Below.alloc ?_ ?_ _) | (with_reducible refine Below.setCell ?_ ?_ _) | (with_reducible refine Below.drew ?_) | (with_reducible refine below_drewN ?_ _) | (with_reducible exact Nat.le_refl _) | (with_reducible exact hB.size) | (simp [go_sem]; done) | (have := hB.size; simp [go_sem]; omega))); done)); (focus ((repeat' (first | (with_reducible exact hB) | (with_reducible exact Below.refl _ _) | (with_reducible refine Below.alloc ?_ ?_ _) | (with_reducible refine Below.setCell ?_ ?_ _) | (with_reducible refine Below.drew ?_) | (with_reducible refine below_drewN ?_ _) | (with_reducible exact Nat.le_refl _) | (with_reducible exact hB.size) | (simp [go_sem]; done) | (have := hB.size; simp [go_sem]; omega))); done)); clear hM hB hb; intro hM hB; (try clear hC); have hC := mem_facts hM; simp at hC))
  refine ⟨trivial, ?_⟩
  refine (callsIn_wide.2 (allCommands_ _)).mono ?_
  rintro e w2 ⟨p, q, rfl, hmp, hp0, hq0, hb⟩
  apply after_call (w := w) hb; (focus ((repeat' (first | (with_reducible exact hM) | (with_reducible apply mem_alloc) | (with_reducible apply mem_set) | (with_reducible apply mem_drew) | (with_reducible apply mem_drewN))); done)); (focus ((repeat' (first | (with_reducible exact hB) | (with_reducible exact Below.refl _ _) | (with_reducible refine Below.alloc ?_ ?_ _) | (with_reducible refine Below.setCell ?_ ?_ _) | (with_reducible refine Below.drew ?_) | (with_reducible refine below_drewN ?_ _) | (with_reducible exact Nat.le_refl _) | (with_reducible exact hB.size) | (simp [go_sem]; done) | (have := hB.size; simp [go_sem]; omega))); done)); (focus ((repeat' (first | (with_reducible exact hB) | (with_reducible exact Below.refl _ _) | (with_reducible refine Below.alloc ?_ ?_ _) | (with_reducible refine Below.setCell ?_ ?_ _) | (with_reducible refine Below.drew ?_) | (with_reducible refine below_drewN ?_ _) | (with_reducible exact Nat.le_refl _) | (with_reducible exact hB.size) | (simp [go_sem]; done) | (have := hB.size; simp [go_sem]; omega))); done)); clear hM hB hb; intro hM hB; (try clear hC); have hC := mem_facts hM; simp at hC
  gi_wp2_with (refine ⟨trivial, ?_⟩; gi_at_call 27; refine (callsIn_wide.2 (lines_ _ _)).mono ?_; rintro e w3 ⟨rfl, rfl⟩)
  have hsw := hB.size
  have hp1 := mem_lt hmp.1
  have hq1 := mem_lt hmp.2
  obtain ⟨W4, hW4⟩ : ∃ W4, W4 = ((((w2.alloc (.cells #[.int .i64 1, .int .i64 0, .int .i64 0, .int .i64 1] 46)).alloc (.cells #[.map (some p), .map (some q)] 50)).alloc (.cells #[.pointer none, .slice none 0 0] 54)).alloc (.cells #[.string (tx (nlL ls))] 9)) := ⟨_, rfl⟩
  have hM4 : Mem W4 [(w2.heap.size + 1 + 1 + 1, #[.string (tx (nlL ls))], 9), (w2.heap.size + 1 + 1, #[.pointer none, .slice none 0 0], 54), (w2.heap.size + 1, #[.map (some p), .map (some q)], 50), (w2.heap.size, #[.int .i64 1, .int .i64 0, .int .i64 0, .int .i64 1], 46)] := by
    rw [hW4]
    apply mem_drop 0
    · (repeat' (first | (with_reducible exact hM) | (with_reducible apply mem_alloc) | (with_reducible apply mem_set) | (with_reducible apply mem_drew) | (with_reducible apply mem_drewN)))
    · simp
  have hb4 : Below w2.heap.size w2 W4 := by rw [hW4]; exact ((((Below.refl _ w2).alloc (Nat.le_refl _) _).alloc (by simp only [World.size_alloc]; omega) _).alloc (by simp only [World.size_alloc]; omega) _).alloc (by simp only [World.size_alloc]; omega) _
  have hsz4 : W4.heap.size = w2.heap.size + 4 := by rw [hW4]; simp
  rw [← hW4]
  have hI4 : ExI p q w2.heap.size (w2.heap.size + 1) (w2.heap.size + 1 + 1) (w2.heap.size + 1 + 1 + 1) w unitM [] W4 :=
    ⟨hmp.below hb4, hM4.1 _ (List.mem_cons_of_mem _ (List.mem_cons_of_mem _ (List.mem_cons_of_mem _ List.mem_cons_self))), hM4.1 _ (List.mem_cons_of_mem _ (List.mem_cons_of_mem _ List.mem_cons_self)),
      .inl ⟨by omega, .slice none 0 0, hM4.1 _ (List.mem_cons_of_mem _ List.mem_cons_self), World.ownsRowF_of (World.ownsRow_nil _ _ _ _), by simp [Value.ownBlock]⟩, ⟨_, hM4.1 _ List.mem_cons_self⟩, hB.trans (hb4.mono hB.size)⟩
  have hv4 := hM4.1 _ List.mem_cons_self
  clear hM4 hM hC hW4
  refine range_var rfl (by omega) (gf := 70) (lb := #[.pointer (some ⟨w2.heap.size + 1 + 1 + 1, 0, none⟩)]) rfl trivial (enters_of Tryz.func70 (by kernel_rfl) rfl) (B := w2.heap.size + 1 + 1 + 1) (by omega)
    (lines_stops 5 (by omega) _ ls HLS.out (by omega) W4 (by omega) hv4) (Below.refl _ _)
    (fun pre W => ExI p q w2.heap.size (w2.heap.size + 1) (w2.heap.size + 1 + 1) (w2.heap.size + 1 + 1 + 1) w (st pre).1 (st pre).2 W)
    (fun s A C row hs hg hr => ExI.grown hs hg hr (by omega) (by omega) (by omega)) (fun s W v hs => ExI.turn hs (by omega) v) (by rw [HS0.out]; exact hI4)
    (fun x => { tmps := #[.string (tx (nlL ls)), undef, .string ⟨#[]⟩, .pointer (some ⟨w2.heap.size, 0, none⟩), .pointer (some ⟨w2.heap.size + 1, 0, none⟩), .pointer (some ⟨w2.heap.size + 1 + 1, 0, none⟩), encT x, undef, undef, .string (tx (nlL ls)), .int .i64 ((nlL ls).length : Int), .bool false,
      .agg #[.int .i64 1, .int .i64 0, .int .i64 0, .int .i64 1], .agg #[.int .i64 1, .int .i64 0, .int .i64 0, .int .i64 1], .agg #[.map (some p), .map (some q)], .string (tx (nlL ls)), .func (.func 70) #[] #[.pointer (some ⟨w2.heap.size + 1 + 1 + 1, 0, none⟩)], encT x, undef, undef, undef, undef, undef, undef, undef, undef, undef, undef, undef, undef, undef, undef, undef, undef], defers := [] }) ?assign ?body ?done
  case assign =>
    intro l x W K hK
    simp only [encT] at hK ⊢
    gi_wp2
    exact hK
  case body =>
    intro l pre x post W hx hI
    obtain ⟨out, ho, hcall⟩ := HST.out pre x post hx
    have hxl : x.length ≤ 600 := by
      rw [hx, nlL_append, nlL_cons] at hlen
      simp at hlen
      omega
    have HO := Lib.hid ho
    have HX := Lib.hid hx
    have HC := Lib.hid hcall
    clear ho hx hcall
    have hK := KeepsOthers.refl W
    simp only [encT]
    gi_wp2_with (refine ⟨trivial, ?_⟩; gi_at_call 28; refine (CallsIn.inRound l (callsIn_wide.2 (cutNl_ x (by omega) _))).mono ?_; rintro e w5 ⟨rfl, hb5⟩; have h5 := hI.same hb5; have hk5 := keeps_below hb5; have hv5 := hb5.block (w2.heap.size + 1 + 1 + 1) (by obtain ⟨v, hv⟩ := hI.var; exact mem_lt hv); have hc5 := cells2_cell h5.know)
    refine ⟨trivial, ?_⟩
    refine (CallsIn.inRound l (callsIn_wide.2 (HC.out p q _ _ h5.maps h5.bench (hT.later h5.below)))).mono ?_
    rintro e w6 ⟨rfl, hb6⟩
    have h6 := (h5.bench4 hsw (st (pre ++ [x])).1).same (by rw [st4_size]; exact hb6)
    have hk6 : KeepsOthers W w6 := hk5.trans (keeps_st4 hb6)
    have hv6 : w6.heap[w2.heap.size + 1 + 1 + 1]? = W.heap[w2.heap.size + 1 + 1 + 1]? := by
      refine (hb6.block _ ?_).trans ((st4_ne _ _ (by omega)).trans hv5)
      obtain ⟨v, hv⟩ := h5.var
      exact mem_lt hv
    have hcat : tx out ++ ⟨#[10]⟩ = tx (out ++ [10]) := ba_ext (by simp [tx])
    have hol : (out ++ [10]).length ≤ 100000 := by
      have := HLIM.out (pre ++ [x])
      rw [HO.out] at this
      simp at this ⊢
      omega
    have hpl := HLIM.out pre
    have hso := tx_size out
    have hno : ¬ (9223372036854775807 < out.length + 1) := by simp at hol; omega
    gi_wp2_with (refine ⟨trivial, ?_⟩; gi_at_call 29; refine (CallsIn.inRound l (callsIn_wide.2 (writeString_ _ _ _ (out ++ [10]) _ h6.bld (by omega) h6.below.size))).mono ?_; rintro e w7 ⟨rfl, hbl7, hb7, ho7⟩)
    have h7 := h6.wrote (by omega) (by omega) hbl7 hb7 ho7 (by omega) (by omega) (by omega)
    rw [← HO.out] at h7
    refine ⟨hk6.trans (keeps_bld h6.bld hb7 ho7), ?_, h7⟩
    obtain ⟨v, hv⟩ := h6.var
    rw [← hv6, hv]
    exact ho7 _ _ hv (by simp) fun c fz e => by
      injection e with _ e _
      exact absurd e (by decide)
  case done =>
    intro D W hD hI hd
    have hK := KeepsOthers.refl W
    have hTW := hT.later hI.below
    have hN := HN.out
    have hpl := HLIM.out ls
    obtain ⟨it, hit⟩ : ∃ it, it = Lib.itoa n := ⟨_, rfl⟩
    have hil : it.length ≤ 21 := by rw [hit]; exact Lib.itoa_length_le n (by omega) (by omega)
    have htr := trace9_ _ _ n hN (by omega) (by omega) _ hTW hI.bench
    rw [← hit] at htr
    have HIT := Lib.hid hit
    clear hit hN
    obtain ⟨tl, htl⟩ : ∃ tl, tl = [116, 114, 97, 99, 101, 32] ++ it := ⟨_, rfl⟩
    have hc1 : (⟨#[116, 114, 97, 99, 101, 32]⟩ : ByteArray) ++ tx it = tx tl := by rw [htl]; exact ba_ext (by simp [tx])
    have hc2 : tx tl ++ ⟨#[10]⟩ = tx (tl ++ [10]) := ba_ext (by simp [tx])
    have htll : tl.length ≤ 27 := by rw [htl]; simp; omega
    have hz1 := tx_size it
    have hz2 := tx_size tl
    have hn1' : ¬ (9223372036854775807 < 6 + it.length) := by omega
    have hn2' : ¬ (9223372036854775807 < tl.length + 1) := by omega
    have HTL := Lib.hid htl
    clear htl
    gi_wp2_with (first
      | (refine ⟨trivial, ?_⟩; gi_at_call 31; refine (callsIn_wide.2 htr).mono ?_; rintro e w5 ⟨rfl, hb5⟩; have h5 := (hI.bench4 hsw (st ls).1).same (by rw [st4_size]; exact hb5); have hk5 := keeps_st4 hb5)
      | (refine ⟨trivial, ?_⟩; gi_at_call 29; refine (callsIn_wide.2 (writeString_ _ _ _ (tl ++ [10]) _ h5.bld (by simp; omega) h5.below.size)).mono ?_; rintro e w7 ⟨rfl, hbl7, hb7, ho7⟩; have hk7 := keeps_bld h5.bld hb7 ho7; have hB7 := h5.below.trans hb7)
      | (refine ⟨trivial, ?_⟩; gi_at_call 32; refine (callsIn_wide.2 (string_ _ _ _ _ hbl7 hB7.size)).mono ?_; rintro e w8 ⟨rfl, hb8, ho8⟩))
    have hk8 := (hk5.trans hk7).trans (keeps_bld hbl7 hb8 ho8)
    refine fin_marks (w := w) hd hD (by omega) hk8 (L := []) (mem_nil _) (hB7.trans hb8) ?_
    intro W' _ hB'
    refine ⟨_, results_tmp rfl _ _ _, ?_, hB'⟩
    show Ending.returned (.string (tx ((st ls).2 ++ (tl ++ [10])))) = _
    rw [HTL.out, HIT.out]
    simp
end Go.Proofs.YtpalgnfimelioaaGreatDoor
