
/- strings.Lines and strings.SplitSeq: what their iterators give, each line with its newline, each piece between two blanks. No condition. -/
import Derived.Test.YtpalgnfimelioaaGreatDoorStrP
import Derived.Test.YtpalgnfimelioaaGreatDoorRgC
namespace Go.Proofs.YtpalgnfimelioaaGreatDoor
open Go.RowKit Go.Shelf
attribute [local go_sem] Oper.semAt_some

theorem lines_ (s : ByteArray) (w : World) : Calls Tryz.prog 27 #[.string s] w fun e w' => e = .returned (.func (.func 70) #[] #[.pointer (some ⟨w.heap.size, 0, none⟩)]) ∧ w' = w.alloc (.cells #[.string s] 9) := by
  go_enter Tryz.func27, Tryz.ntmps27
  go_wp2
  go_ret
  exact ⟨rfl, rfl⟩
/-- lines, each with its newline behind it -/
def nlL (ls : List (List UInt8)) : List UInt8 := (ls.map (· ++ [10])).flatten
def encT (l : List UInt8) : Value := .string (tx (l ++ [10]))
theorem nlL_cons (l : List UInt8) (ls : List (List UInt8)) : nlL (l :: ls) = l ++ 10 :: nlL ls := by simp [nlL]
theorem nlL_append (a b : List (List UInt8)) : nlL (a ++ b) = nlL a ++ nlL b := by simp [nlL]
theorem set_cells {W : World} {B : Nat} {v x : Value} {t : TypeId} (h : W.heap[B]? = some (.cells #[v] t (0, 0))) : (W.setCell ⟨B, 0, none⟩ x).heap[B]? = some (.cells #[x] t (0, 0)) := by
  simp [World.setCell, Array.getElem?_modify, h]
theorem cells_cell {W : World} {B : Nat} {v : Value} {t : TypeId} (h : W.heap[B]? = some (.cells #[v] t (0, 0))) : W.cell? ⟨B, 0, none⟩ = some v := by simp [World.cell?, h]
theorem cells_frozen {W : World} {B : Nat} {v : Value} {t : TypeId} (h : W.heap[B]? = some (.cells #[v] t (0, 0))) : W.frozen? ⟨B, 0, none⟩ = false := by simp [World.frozen?, h]
theorem abides_drew {β : Type} {B : Nat} {J : β → World → Prop} (h : AbidesFrom B J) {s : β} {W : World} (hs : J s W) : J s W.drew := h s W _ none hs ⟨rfl, rfl, rfl, Nat.le_refl _, fun _ _ _ => rfl⟩ (fun r e => by cases e)

theorem len_facts {a b : Nat} (h : a + (b + 1) ≤ 1000000000) : wrap64 ((a : Int) + 1) = (a : Int) + 1 ∧ (a : Int) + 1 ≤ (a : Int) + ((b : Int) + 1) ∧ (0 : Int) ≤ (a : Int) + 1 ∧ (0 : Int) < (a : Int) + ((b : Int) + 1) ∧ ((a : Int) + 1).toNat = a + 1 :=
  ⟨w64 (by omega) (by omega), by omega, by omega, by omega, by omega⟩
/-- how many bytes lie in block B's text -/
def leftB (B : Nat) (w : World) : Nat := match w.heap[B]? with | some (.cells cs _ _) => (match (cs[0]? : Option Value) with | some (Value.string s) => s.size | _ => 0) | _ => 0
set_option maxRecDepth 100000 in
set_option maxHeartbeats 2000000 in
theorem lines_stops (n : Nat) (hn : 3 ≤ n) (B : Nat) (ls : List (List UInt8)) (hls : ∀ l ∈ ls, (10 : UInt8) ∉ l) (hsz : (nlL ls).length ≤ 1000000000) (w : World) (hB : B < w.heap.size)
    (hc : w.heap[B]? = some (.cells #[.string (tx (nlL ls))] 9 (0, 0))) :
    SeqVar Fence.wide n Tryz.prog 70 #[.pointer (some ⟨B, 0, none⟩)] encT B ls w := by
  intro l J W hW hJ hA hY h0
  have h1 : 1 ≤ n := by omega
  have hcW : W.heap[B]? = some (.cells #[.string (tx (nlL ls))] 9 (0, 0)) := (hW.block B hB).trans hc
  refine callsIn_of_wp Tryz.func70 rfl trivial ?_ rfl
  simp only [Tryz.ntmps70, List.size_toArray, List.length_cons, List.length_nil, Nat.reduceAdd, Nat.reduceSub, Array.replicate_succ, Array.replicate_zero, List.push_toArray, List.append_toArray, List.nil_append, List.cons_append]
  gi_wp2
  gi_loopw [3] (fun _ wr => ∃ pre post, ls = pre ++ post ∧ J pre wr ∧ wr.heap[B]? = some (.cells #[.string (tx (nlL post))] 9 (0, 0)))
    (fun _ wr => leftB B wr)
  case atStart => exact ⟨[], ls, rfl, h0, hcW⟩
  case round =>
    obtain ⟨pre, post, hls', hJs, hb⟩ := hrel
    have hcell := cells_cell hb
    have hfr := cells_frozen hb
    have hleft : leftB B wr = (nlL post).length := by simp [leftB, hb, tx_size]
    cases post with
    | nil =>
      have hz : (tx (nlL [])).size = 0 := rfl
      obtain rfl : ls = pre := by simpa using hls'
      clear hls'
      gi_wp2
      go_end0
      exact ⟨⟨_, rfl⟩, hJs⟩
    | cons x post =>
      have hx : (10 : UInt8) ∉ x := hls x (by rw [hls']; simp)
      rw [nlL_cons] at hcell hleft
      have hlen : x.length + ((nlL post).length + 1) ≤ 1000000000 := by rw [hls', nlL_append, nlL_cons] at hsz; simp at hsz; omega
      obtain ⟨r, hr⟩ : ∃ r, nlL post = r := ⟨_, rfl⟩
      rw [hr] at hcell hleft hlen
      have HL := Lib.hid hls'
      have HS := Lib.hid hls
      have HR := Lib.hid hr
      have HZ := Lib.hid hleft
      have HX := Lib.hid hx
      have HB := Lib.hid hb
      clear hls' hls hr hb hsz hc hcW hleft
      have hz : (tx (x ++ 10 :: r)).size = x.length + (r.length + 1) := by rw [tx_size]; simp
      have hi : Lib.indexByte (tx (x ++ 10 :: r)).data.toList (Int.toNat 10).toUInt8 = (x.length : Int) := by rw [tx_list, show (Int.toNat 10).toUInt8 = (10 : UInt8) from rfl]; exact idx_hit hx
      have e1 : (tx (x ++ 10 :: r)).extract 0 (x.length + 1) = tx (x ++ [10]) := by have := tx_take (x ++ [10]) r; simpa using this
      have e2 := tx_drop1 x r 10
      clear hx
      obtain ⟨hw, c1, c3, c4, n1⟩ := len_facts hlen
      gi_wp2_with ((refine ⟨trivial, ?_⟩; gi_at_call 71; refine (callsIn_wide.2 (xIndexByte_ _ _ _)).mono ?_; rintro e w' ⟨rfl, rfl⟩); rw [hi])
      gi_region
      have hJ5 : J pre (wr.setCell ⟨B, 0, none⟩ (.string (tx r))).drew := abides_drew hJ (hA _ _ _ hJs)
      obtain ⟨fn, tmps, assign, body, hy, hR⟩ := hY pre x post _ HL.out hJ5
      unfold encT at hy
      gi_wp2
      refine hR.mono ?_
      rintro e W3 ⟨rfl, hJ3, hk3⟩
      gi_wp2
      go_roundw
      case rel =>
        have hb3 := hk3.trans (set_cells (x := .string (tx r)) HB.out)
        exact ⟨pre ++ [x], post, by rw [HL.out]; simp, hJ3, by rw [HR.out]; exact hb3⟩
      case measure =>
        have hb3 := hk3.trans (set_cells (x := .string (tx r)) HB.out)
        rw [HZ.out]
        simp [leftB, hb3, tx_size]
        omega
end Go.Proofs.YtpalgnfimelioaaGreatDoor
