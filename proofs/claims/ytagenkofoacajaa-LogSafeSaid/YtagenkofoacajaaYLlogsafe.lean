/- P15.3: what grew and was flushed is opened again, behind any crash of one more Grow. No condition. -/
import Derived.Test.YtagenkofoacajaaG1
namespace Go.Proofs.Ytagenkofoacajaa
open Go.RowKit Vi Ar

set_option maxRecDepth 100000 in
set_option maxHeartbeats 4000000 in
theorem logsafe_any (a b : ByteArray) (st : Int) (A : Option Addr) (kn kc : Nat) (ks : List Int) (w : World) (hst : st ≤ 9223372036854775807) (h3 : RdX inC 1 w A kn ks) (hks : ∀ x ∈ ks, (Lit.int .i64 x).wf = true) (hm3 : kn ≤ maxLen) :
    Calls Try.prog 3 #[.string a, .string b, .int .i64 st, .slice A kn kc] w fun e w' => e = .returned (.bool true) ∧ Below w.heap.size w w' := by
  by_cases qa : 1000 < a.size
  · have t1 : decide ((a.size : Int) > 1000) = true := decide_eq_true (by omega)
    have t2 : decide (1000 < (a.size : Int)) = true := decide_eq_true (by omega)
    go_enter Try.func3, Try.ntmps3
    go_wp2_with fail
    refine (awake15_any _).mono ?_
    rintro e wz ⟨rfl, hbz⟩
    go_wp2_with fail
    go_ret
    exact ⟨rfl, hbz⟩
  have t1 : decide ((a.size : Int) > 1000) = false := decide_eq_false (by omega)
  have t2 : decide (1000 < (a.size : Int)) = false := decide_eq_false (by omega)
  by_cases qb : 1000 < b.size
  · have t3 : decide ((b.size : Int) > 1000) = true := decide_eq_true (by omega)
    have t4 : decide (1000 < (b.size : Int)) = true := decide_eq_true (by omega)
    go_enter Try.func3, Try.ntmps3
    go_wp2_with fail
    refine (awake15_any _).mono ?_
    rintro e wz ⟨rfl, hbz⟩
    go_wp2_with fail
    go_ret
    exact ⟨rfl, hbz⟩
  have t3 : decide ((b.size : Int) > 1000) = false := decide_eq_false (by omega)
  have t4 : decide (1000 < (b.size : Int)) = false := decide_eq_false (by omega)
  by_cases qk : 100 < kn
  · have t5 : decide ((kn : Int) > 100) = true := decide_eq_true (by omega)
    have t6 : decide (100 < (kn : Int)) = true := decide_eq_true (by omega)
    go_enter Try.func3, Try.ntmps3
    go_wp2_with fail
    refine (awake15_any _).mono ?_
    rintro e wz ⟨rfl, hbz⟩
    go_wp2_with fail
    go_ret
    exact ⟨rfl, hbz⟩
  have t5 : decide ((kn : Int) > 100) = false := decide_eq_false (by omega)
  have t6 : decide (100 < (kn : Int)) = false := decide_eq_false (by omega)
  by_cases qs : st < 0
  · have t7 : decide (st < 0) = true := decide_eq_true qs
    go_enter Try.func3, Try.ntmps3
    go_wp2_with fail
    refine (awake15_any _).mono ?_
    rintro e wz ⟨rfl, hbz⟩
    go_wp2_with fail
    go_ret
    exact ⟨rfl, hbz⟩
  have t7 : decide (st < 0) = false := decide_eq_false qs
  have HN := Lib.hid (fun W : World => show Calls Try.prog 7 #[.int .i64 24] W (NewD (List.replicate 24 noZ) [] W) from dnew_yes 24 W (by decide) (by decide))
  have HD0 := Lib.hid (dsok_new 24 (by decide) (by decide))
  have hS : (List.replicate 24 noZ).length = 24 := List.length_replicate
  have hZ : ∀ (q : Nat) (t : ByteArray), (List.replicate 24 noZ)[q]? = some t → t.size = 128 := fun q t h => by
    rw [List.getElem?_replicate] at h
    split at h
    · injection h with h; subst h; exact noZ_size
    · cases h
  generalize List.replicate 24 noZ = S at HN HD0 hS hZ
  have HS := Lib.hid hS
  have HZ := Lib.hid hZ
  have H3 := Lib.hid h3
  have HKS := Lib.hid (And.intro hks hm3)
  clear hS hZ h3 hks hm3
  go_enter Try.func3, Try.ntmps3
  go_wp2_with fail
  refine (HN.out _).mono ?_
  rintro e w1 ⟨D, rfl, hd, hi, hb⟩
  have HW1 : Hid (DW w.heap.size w D ⟨S, [], 0, false, 0⟩ w1) := Lib.hid ⟨hd, hi, hb, hb.size⟩
  clear hd hi hb HN
  go_wp2_with fail
  refine (lopen_any w.heap.size w D S [] 0 0 0 2 22 0 w1 HW1.out HD0.out (by decide) (by decide) (by decide) (by rw [HS.out]; decide) (by decide) (fun j hj => absurd hj (by show ¬ j < scN 0; simp [scN]))).mono ?_
  rintro e w2 ⟨L, rfl, hl, _, _⟩
  have e0 : (0 : Int) + ((scN 0 : Nat) : Int) = 0 := by rfl
  rw [e0, lgT_zero] at hl
  have HL2 := Lib.hid hl
  clear hl e0 HW1
  go_wp2_with fail
  refine (lgrow_up HL2.out HD0.out (by decide) (by decide) (by decide) (by decide) (by rw [HS.out]; decide) (by decide) a (by omega) (by show ((0 : Nat) : Int) + _ ≤ _; omega) (by decide)).mono ?_
  rintro e w3 ⟨rfl, ho, hl⟩
  have e2 : (⟨#[]⟩ : ByteArray) ++ a = a := by apply ByteArray.ext; simp
  rw [e2] at hl
  have HO3 := Lib.hid ho
  have HL3 := Lib.hid hl
  have hC : (∀ x ∈ lgC [] 2 ⟨#[]⟩ a, AgP a x.1.toNat x.2) ∧ ∀ i, 128 * i < a.size → ∃ x ∈ lgC [] 2 ⟨#[]⟩ a, x.1.toNat = 2 + i := by
    unfold lgC
    have e3 : lgR ⟨#[]⟩ a = a := by
      unfold lgR
      rw [e2]
      show a.extract 0 a.size = a
      exact ByteArray.extract_zero_size
    have e4 : (2 : Int) + (((⟨#[]⟩ : ByteArray).size / 128 : Nat) : Int) = 2 := rfl
    rw [e3, e4]
    split
    · next hz => exact ⟨fun x hx => by (cases hx), fun i hi => by omega⟩
    · next hz =>
      rw [List.nil_append]
      refine ⟨fun x hx => ?_, fun i hi => ?_⟩
      · obtain ⟨i, _, _, rfl⟩ := wrL_mem _ _ hx
        exact ag_own a i
      · exact ⟨_, wrL_has 2 a (scN a.size) 0 i (Nat.zero_le _) (by unfold scN; omega), by show ((2 : Int) + (i : Int)).toNat = 2 + i; omega⟩
  have HC := Lib.hid hC
  clear ho hl e2 hC HL2 HD0
  generalize lgC [] 2 ⟨#[]⟩ a = C1 at *
  generalize (0 : Int) + lgN 22 ⟨#[]⟩ (a.size : Int) = op at *
  go_wp2_with fail
  have HP := pflush HL3.out.dw HO3.out (by decide)
  have HO4 := HO3.out.fls
  have ef : Ds.fls ⟨S, C1, 0, false, op⟩ = ⟨setP allK 0 C1 S, [], 0, false, op + 1⟩ := rfl
  have eg : Ds.flE ⟨S, C1, 0, false, op⟩ = 0 := rfl
  rw [ef, eg] at HP
  rw [ef] at HO4
  have hA : ∀ (q : Nat) (t : ByteArray), (setP allK 0 C1 S)[q]? = some t → AgP a q t := setP_allok (AgP a) C1 0 S HC.out.1 (fun q t hq => by
    by_cases hx : ∃ x ∈ C1, x.1.toNat = q
    · exact .inr hx
    · refine .inl ⟨HZ.out q t hq, fun i e j hj hs => ?_⟩
      exact absurd (HC.out.2 i (by omega)) (by rw [← e]; exact hx))
  have hl4 : (setP allK 0 C1 S).length = 24 := by rw [setP_len]; exact HS.out
  have HA := Lib.hid hA
  have HS4 := Lib.hid hl4
  have HO4 := Lib.hid HO4
  clear ef eg hA hl4 HC HZ HS
  generalize setP allK 0 C1 S = S4 at *
  generalize op + 1 = op4 at *
  refine HP.mono ?_
  rintro e w4 ⟨rfl, hd, hk⟩
  have HL4 := Lib.hid (HL3.out.kd hd hk)
  clear hd hk HP HL3 HO3
  go_wp2_with fail
  have HP := parm HL4.out.dw st
  have HO5 := HO4.out.arm st hst
  have ea : Ds.arm ⟨S4, [], 0, false, op4⟩ st = ⟨S4, [], st, false, op4⟩ := by unfold Ds.arm armE; rw [if_neg Bool.false_ne_true, if_neg (show ¬ st < 0 by omega), if_pos rfl]
  rw [ea] at HP HO5
  have HO5 := Lib.hid HO5
  clear ea
  generalize armE (Ds.go ⟨S4, [], 0, false, op4⟩) st = za at *
  refine HP.mono ?_
  rintro e w5 ⟨rfl, hd, hk⟩
  have HL5 := Lib.hid (HL4.out.kd hd hk)
  clear hd hk HP HL4 HO4
  go_wp2_with fail
  have hG : Calls Try.prog 9 #[.pointer (some ⟨L, 0, none⟩), .string b] w5 fun e w' => ∃ z d, e = .returned (.int .i64 z) ∧ d.S = S4 ∧ (∀ x ∈ d.C, AgP a x.1.toNat x.2) ∧ DsOk 400 d ∧ DW w.heap.size w D d w' := by
    by_cases hz : b.size = 0
    · obtain rfl := nil_of_size hz
      refine (lgrow_none HL5.out (by decide) (by decide) (by omega) (by omega)).mono ?_
      rintro e w' ⟨rfl, hl⟩
      exact ⟨_, _, rfl, rfl, fun x hx => by (cases hx), HO5.out.leM (by decide), hl.dw⟩
    · have hr := lgR_size a b
      have hcc : scN (lgR a b).size ≤ 20 := by rw [hr]; unfold scN; omega
      refine (lgrow_lay HL5.out HO5.out (by decide) (by decide) (by decide) (by decide) (by omega) b hz (by omega) (by omega) (by omega)).mono ?_
      rintro e w' ⟨rfl, t2, _, hl⟩
      refine ⟨_, _, rfl, layN_S _ _ _ _ _, layN_C _ _ (fun x => AgP a x.1.toNat x.2) _ _ _ (fun x hx => by (cases hx)) (fun i _ _ => ag_more a b i), (layN_ok _ _ _ _ _ _ HO5.out).leM (by omega), hl.dw⟩
  refine hG.mono ?_
  rintro e w6 ⟨z6, ⟨S6, C6, ar6, go6, op6⟩, rfl, hs6, hc6, ho6, hd6⟩
  obtain rfl : S6 = S4 := hs6
  have HC6 := Lib.hid hc6
  have HO6 := Lib.hid ho6
  have HW6 := Lib.hid hd6
  clear hc6 ho6 hd6 hG HL5 HO5
  go_wp2_with fail
  have HP := pcrash HW6.out HO6.out (by decide) A kn kc ks (H3.out.below HW6.out.bel) HKS.out.1 HKS.out.2
  have HO7 := Lib.hid (HO6.out.crash ks)
  refine HP.mono ?_
  rintro e w7 ⟨rfl, hd, _⟩
  have HW7 := Lib.hid hd
  clear hd HP HW6 HO6
  go_wp2_with fail
  refine (pboot HW7.out).mono ?_
  rintro e w8 ⟨rfl, hd, _⟩
  have eb : Ds.boot (Ds.crash ⟨S6, C6, ar6, go6, op6⟩ ks) = ⟨setP (inK ks) 0 C6 S6, [], 0, false, op6⟩ := rfl
  have HO8 := HO7.out.boot
  rw [eb] at hd HO8
  have hA8 := setP_ok (AgP a) (inK ks) C6 0 S6 HC6.out HA.out
  have hl8 : (setP (inK ks) 0 C6 S6).length = 24 := by rw [setP_len]; exact HS4.out
  have HA8 := Lib.hid hA8
  have HS8 := Lib.hid hl8
  have HW8 := Lib.hid hd
  have HO8 := Lib.hid HO8
  clear eb hd hA8 hl8 HC6 HA HS4 HW7 HO7
  generalize setP (inK ks) 0 C6 S6 = S8 at *
  have hsc : scN a.size ≤ 20 := by unfold scN; omega
  have HT := Lib.hid (lgT_eq HA8.out (by rw [HS8.out]; omega))
  go_wp2_with fail
  refine (lopen_any w.heap.size w D S8 [] 0 op6 402 2 22 a.size w8 HW8.out HO8.out (by omega) (by decide) (by decide) (by rw [HS8.out]; decide) (by omega) (fun j hj => shw_128 HA8.out j (by rw [HS8.out]; omega))).mono ?_
  rintro e w9 ⟨M, rfl, hl, _, _⟩
  rw [HT.out] at hl
  have HL9 := Lib.hid hl
  clear hl HW8 HO8 HA8 HT
  go_wp2_with fail
  refine (ltext_any HL9.out).mono ?_
  rintro e w' ⟨rfl, rfl⟩
  have tt : (a.toList == a.toList) = true := by simp
  go_wp2_with fail
  refine (awake15_any _).mono ?_
  rintro e wz ⟨rfl, hbz⟩
  have HBZ := Lib.hid (HL9.out.dw.bel.trans (hbz.mono HL9.out.dw.bel.size))
  clear hbz
  go_wp2_with fail
  go_ret
  exact ⟨rfl, HBZ.out⟩
end Go.Proofs.Ytagenkofoacajaa
