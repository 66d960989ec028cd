
/- The exact law on all plain short forms with a discriminant, walked. -/
import Derived.Test.YtflcgokibpimlaaFoW
namespace Go.Proofs.Ytflcgokibpimlaa
open Go.RowKit

theorem top_le {d : Nat} (h : d ≤ 400) : topF d ≤ 11 := by
  obtain ⟨t1, t2, _⟩ := topN_spec d 12
  rw [topF]
  generalize topN d 12 = t at *
  apply Nat.le_of_not_lt; intro h2
  obtain rfl : t = 12 := by omega
  omega
theorem fAll_len (x : Int) : (fAll x).1.length ≤ 3600 := by
  unfold fAll
  split
  · have h1 := top_le (d := x.toNat) (by omega)
    have := allF_len x.toNat (topF x.toNat) h1
    dsimp only
    omega
  · simp
set_option maxHeartbeats 2000000 in
theorem lawFormAll (x : Int) (w : World) : Calls Try.prog 9 #[.int .i64 x] w (fun E' W' => E' = .returned (.bool true) ∧ Below w.heap.size w W') := by
  have hz := fAll_len x
  have HS := Lib.hid (fun W => sFormAll_ x W)
  have HI := Lib.hid (fun W => FormAll_ x W)
  unfold FaOk at HS HI
  generalize (fAll x).1 = zs at *
  generalize (fAll x).2 = ok at *
  go_enter Try.func9, Try.ntmps9
  go_wp2_with fail
  refine (HS.out _).mono ?_
  rintro e w1 ⟨v0, rfl, hv0, hb1⟩
  have HV0 := Lib.hid hv0
  have HB1 := Lib.hid hb1
  clear hv0 hb1
  go_wp2_with fail
  refine (HI.out _).mono ?_
  rintro e w2 ⟨v1, rfl, hv1, hb2⟩
  have HV1 := Lib.hid hv1
  have HB2 := Lib.hid hb2
  clear hv1 hb2
  go_wp2_with fail
  refine (eqFormS_same v1 v0 zs (by omega) _ HV1.out.reads (HV0.out.below HB2.out).reads).mono ?_
  rintro e w3 ⟨rfl, hb3⟩
  have HB3 := Lib.hid hb3
  clear hb3
  go_wp2_with fail
  refine (markFormS_ w1.heap.size v1 zs (by omega) _ (HV1.out.below HB3.out)).mono ?_
  rintro e w4 ⟨rfl, hm4, hg4⟩
  have HM4 := Lib.hid hm4
  have HG4 := Lib.hid hg4
  clear hm4 hg4
  go_wp2_with fail
  refine (heldFormS_ v1 zs.length (by omega) _ HM4.out.reads).mono ?_
  rintro e w' ⟨rfl, rfl⟩
  have hn0 : decide (3 * (zs.length : Int) + 1 < 0) = false := by simp; omega
  have hnn : ((3 * (zs.length : Int) + 1) == (3 * (zs.length : Int) + 1)) = true := by simp
  go_wp2_with fail
  refine (HI.out _).mono ?_
  rintro e w5 ⟨v2, rfl, hv2, hb5⟩
  have HV2 := Lib.hid hv2
  have HB5 := Lib.hid hb5
  clear hv2 hb5
  have hsep : v0.ownBlock = none ∨ v0.ownBlock ≠ v1.ownBlock := by
    cases h0 : v0.ownBlock with
    | none => exact .inl rfl
    | some k =>
      refine .inr fun e => ?_
      have h1 := (HV0.out.lt k h0).2
      have h2 := (HV1.out.lt k e.symm).1
      omega
  have HV4 : FormRow w.heap.size w4 v0 zs := ((HV0.out.below HB2.out).below HB3.out).kept HG4.out hsep
  have HV4' := Lib.hid HV4
  clear HV4 hsep
  go_wp2_with fail
  refine (eqFormS_same v2 v0 zs (by omega) _ HV2.out.reads (HV4'.out.below HB5.out).reads).mono ?_
  rintro e w6 ⟨rfl, hb6⟩
  have HB6 := Lib.hid hb6
  clear hb6
  go_wp2_with fail
  refine (heldFormS_ v1 zs.length (by omega) _ ((HM4.out.below HB5.out).below HB6.out).reads).mono ?_
  rintro e w' ⟨rfl, rfl⟩
  go_wp2_with fail
  go_ret
  refine ⟨rfl, ?_⟩
  have s1 := HB1.out.size
  have s2 := HB2.out.size
  have s3 := HB3.out.size
  have s4 := HG4.out.size
  have s5 := HB5.out.size
  have b3 : Below w.heap.size w w3 := (HB1.out.trans (HB2.out.mono s1)).trans (HB3.out.mono (by omega))
  have b4 : Below w.heap.size w w4 := b3.grown HG4.out (by omega) fun k e => by
    have := (HV1.out.lt k e).1
    omega
  exact (b4.trans (HB5.out.mono (by omega))).trans (HB6.out.mono (by omega))
end Go.Proofs.Ytflcgokibpimlaa
