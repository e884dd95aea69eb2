/- The walk of DeltaTakes over this translation. No condition. -/
import Derived.Test.YthndcgaelcilnaaDh
namespace Go.Proofs.Ythndcgaelcilnaa.LDeltaTakes
open Go.RowKit Vi

set_option maxRecDepth 100000 in
set_option maxHeartbeats 4000000 in
theorem walk (B S : ByteArray) (w : World) :
    Calls Try.prog 4 #[.string B, .string S] w fun e w' => e = .returned (.bool true) ∧ Below w.heap.size w w' := by
  by_cases hb : B.size ≤ 1000
  · have hd1 : decide ((1000 : Int) < (B.size : Int)) = false := decide_eq_false (by omega)
    by_cases ht : S.size ≤ 1000
    · have hd2 : decide ((1000 : Int) < (S.size : Int)) = false := decide_eq_false (by omega)
      by_cases hD : ∃ l, IsD S l
      · obtain ⟨l, hl⟩ := hD
        have hll := hl.len
        obtain ⟨Z, z, hz⟩ : ∃ Z z, jn B l ⟨#[]⟩ = (Z, z) := ⟨_, _, rfl⟩
        have CT1 := Lib.hid (fun W : World => (dtake_any S W (by omega)).mono (takeY hl))
        have CT2 := Lib.hid (fun W : World => (drtake_any S W (by omega)).mono (takeY hl))
        have CA1 := Lib.hid (fun W : World => dapply_yes B S l W (by omega) (by omega) hl Z z hz)
        have CA2 := Lib.hid (fun W : World => rdapply_yes B S l W (by omega) (by omega) hl Z z hz)
        have hqz : (Z.toList == Z.toList) = true := by simp
        clear hz hl
        go_enter Try.func4, Try.ntmps4
        go_wp2_with fail
        refine (CT1.out w).mono ?_
        rintro e w1 ⟨v, rfl, hox, hb1, hz1⟩
        obtain ⟨A, c, rfl, hrd, _, _⟩ := hox.rd pcC_len
        have HR1 := Lib.hid hrd
        have HB1 := Lib.hid hb1
        clear hox hb1 hrd
        go_wp2_with fail
        refine (CT2.out w1).mono ?_
        rintro e w2 ⟨v2, rfl, hox, hb2, hz2⟩
        obtain ⟨A2, c2, rfl, hrd, _, _⟩ := hox.rd pcC_len
        have HR2 := Lib.hid (HR1.out.below hb2)
        have HQ2 := Lib.hid hrd
        have HB2 := Lib.hid (HB1.out.trans (hb2.mono hz1))
        have hz2' := Nat.le_trans hz1 hb2.size
        clear hox hb2 hrd
        go_wp2_with fail
        refine (CA1.out w2).mono ?_
        rintro e w3 ⟨rfl, hb3⟩
        have HR3 := Lib.hid (HR2.out.below hb3)
        have HQ3 := Lib.hid (HQ2.out.below hb3)
        have HB3 := Lib.hid (HB2.out.trans (hb3.mono hz2'))
        have hz3 := Nat.le_trans hz2' hb3.size
        clear hb3
        go_wp2_with fail
        refine (CA2.out w3).mono ?_
        rintro e w4 ⟨rfl, hb4⟩
        have HR4 := Lib.hid (HR3.out.below hb4)
        have HQ4 := Lib.hid (HQ3.out.below hb4)
        have HB4 := Lib.hid (HB3.out.trans (hb4.mono hz3))
        have hz4 := Nat.le_trans hz3 hb4.size
        clear hb4
        go_wp2_with fail
        refine (same_any A A2 l.length l.length c c2 l l w4 HR4.out HQ4.out (by omega) (by omega)).mono ?_
        rintro e w5 ⟨rfl, hb5⟩
        have HB5 := Lib.hid (HB4.out.trans (hb5.mono hz4))
        have hz5 := Nat.le_trans hz4 hb5.size
        clear hb5
        rw [decide_eq_true (rfl : l = l)]
        go_wp2_with fail
        refine (awake11 w5).mono ?_
        rintro e w6 ⟨rfl, hb6⟩
        have HB6 := Lib.hid (HB5.out.trans (hb6.mono hz5))
        clear hb6
        go_wp2_with fail
        go_ret
        exact ⟨rfl, HB6.out⟩
      · have hD : ∀ l, ¬ IsD S l := fun l hl => hD ⟨l, hl⟩
        have CT1 := Lib.hid (fun W : World => (dtake_any S W (by omega)).mono (takeN hD))
        have CT2 := Lib.hid (fun W : World => (drtake_any S W (by omega)).mono (takeN hD))
        have CA1 := Lib.hid (fun W : World => dapply_no B S W (by omega) hD)
        have CA2 := Lib.hid (fun W : World => rdapply_no B S W (by omega) hD)
        clear hD
        have HB1 := Lib.hid (Below.refl w.heap.size w)
        go_enter Try.func4, Try.ntmps4
        go_wp2_with fail
        refine (CT1.out w).mono ?_
        rintro e w1 ⟨rfl, hb1⟩
        have HB2 := Lib.hid (HB1.out.trans (hb1.mono HB1.out.size))
        clear hb1 HB1 
        go_wp2_with fail
        refine (CT2.out w1).mono ?_
        rintro e w2 ⟨rfl, hb2⟩
        have HB3 := Lib.hid (HB2.out.trans (hb2.mono HB2.out.size))
        clear hb2 HB2 
        go_wp2_with fail
        refine (CA1.out w2).mono ?_
        rintro e w3 ⟨rfl, hb3⟩
        have HB4 := Lib.hid (HB3.out.trans (hb3.mono HB3.out.size))
        clear hb3 HB3 
        go_wp2_with fail
        refine (CA2.out w3).mono ?_
        rintro e w4 ⟨rfl, hb4⟩
        have HB5 := Lib.hid (HB4.out.trans (hb4.mono HB4.out.size))
        clear hb4 HB4 
        go_wp2_with fail
        have HS := Lib.hid (same_any none none 0 0 0 0 [] [] w4 RdX.nil RdX.nil (by omega) (by omega))
        rw [decide_eq_true (rfl : ([] : List Pc) = [])] at HS
        refine (HS.out).mono ?_
        rintro e w5 ⟨rfl, hb5⟩
        have HB6 := Lib.hid (HB5.out.trans (hb5.mono HB5.out.size))
        clear hb5 HB5 
        go_wp2_with fail
        refine (awake11 w5).mono ?_
        rintro e w6 ⟨rfl, hb6⟩
        have HB7 := Lib.hid (HB6.out.trans (hb6.mono HB6.out.size))
        clear hb6 HB6 
        go_wp2_with fail
        go_ret
        exact ⟨rfl, HB7.out⟩
    · have hd2 : decide ((1000 : Int) < (S.size : Int)) = true := decide_eq_true (by omega)
      clear ht
      clear hb
      go_enter Try.func4, Try.ntmps4
      go_wp2_with fail
      refine (awake11 w).mono ?_
      rintro e w6 ⟨rfl, hb6⟩
      have HB6 := Lib.hid hb6
      clear hb6
      go_wp2_with fail
      go_ret
      exact ⟨rfl, HB6.out⟩
  · have hd1 : decide ((1000 : Int) < (B.size : Int)) = true := decide_eq_true (by omega)
    clear hb
    go_enter Try.func4, Try.ntmps4
    go_wp2_with fail
    refine (awake11 w).mono ?_
    rintro e w6 ⟨rfl, hb6⟩
    have HB6 := Lib.hid hb6
    clear hb6
    go_wp2_with fail
    go_ret
    exact ⟨rfl, HB6.out⟩
end Go.Proofs.Ythndcgaelcilnaa.LDeltaTakes
