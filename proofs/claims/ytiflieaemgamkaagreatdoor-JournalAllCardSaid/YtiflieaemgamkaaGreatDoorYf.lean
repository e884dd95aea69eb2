/- The contract of the document's Bare of layer 8 over this translation. Condition: texts of at most a thousand bytes. -/
import Derived.Test.YtiflieaemgamkaaGreatDoorYe
namespace Go.Proofs.YtiflieaemgamkaaGreatDoor
open Go.RowKit Vi Cm

theorem all_at (S : ByteArray) (q : Nat) : (S.data.toList.drop q).all (fun c => c == 0) = true ↔ ∀ k (h : k < S.size), q ≤ k → S[k] = 0 := by
  rw [List.all_eq_true]
  constructor
  · intro h k hk hq
    have hm : S[k] ∈ S.data.toList.drop q := by
      rw [List.mem_drop_iff_getElem]
      refine ⟨k - q, by rw [ba_len]; omega, ?_⟩
      have e : q + (k - q) = k := by omega
      simp only [e]
      rfl
    simpa using h _ hm
  · intro h c hc
    rw [List.mem_drop_iff_getElem] at hc
    obtain ⟨i, hi, rfl⟩ := hc
    rw [ba_len] at hi
    have h1 := h (q + i) (by omega) (by omega)
    have e : S.data.toList[q + i]'(by rw [ba_len]; omega) = S[q + i]'(by omega) := rfl
    rw [e, h1]
    rfl
theorem rbareV_no {S : ByteArray} (h : bareB S = false) : rbareV S = .tuple #[.string ⟨#[]⟩, .bool false] := by unfold rbareV; rw [h]; rfl
set_option maxHeartbeats 1000000 in
set_option maxRecDepth 100000 in
theorem rbare_any (S : ByteArray) (w : World) (hS : S.size ≤ 1000) :
    Calls Tryz.prog 143 #[.string S] w fun e w' => e = .returned (rbareV S) ∧ Below w.heap.size w w' := by
  obtain ⟨t, q, er, hR⟩ : ∃ t q er, Rd.text S 0 0 128 = (t, q, er) := ⟨_, _, _, rfl⟩
  obtain ⟨hts, hq⟩ := bare_text S t q er hR
  have HX := Lib.hid (fun W : World => rText_any S 0 0 128 W (by omega) (Nat.zero_le _) (by omega) (by omega))
  rw [hR] at HX
  dsimp only at HX
  unfold sv at HX
  have HR := Lib.hid hR
  clear hR
  by_cases he : er = 0
  · subst he
    by_cases h1 : S.size = 128
    · have hd : ((S.size : Int) != 128) = false := by rw [h1]; rfl
      have hd' : ((S.size : Int) == 128) = true := by rw [h1]; rfl
      have HZ := Lib.hid h1
      have hq2 : q ≤ 128 := by omega
      clear h1 hts hq hS
      go_enter Tryz.func143, Tryz.ntmps143
      go_wp2_with fail
      refine (HX.out _).mono ?_
      rintro e w1 ⟨rfl, hb1⟩
      have HB := Lib.hid (hb1.alloc hb1.size (.cells #[.string S, .int .i64 (q : Int), .int .i64 0] 213))
      clear hb1
      go_wp2_with fail
      go_loop [6] (fun i => ∃ k : Nat, i = .int .i64 (k : Int) ∧ q ≤ k ∧ k ≤ 128 ∧ Hid (∀ j (h : j < S.size), q ≤ j → j < k → S[j] = 0)) (fun i => 128 - (intOf i).toNat)
      case atStart => exact ⟨q, rfl, Nat.le_refl _, hq2, fun j _ h2 h3 => by omega⟩
      case round =>
        obtain ⟨k, rfl, hk1, hk2, HK⟩ := hrel
        by_cases hlt : k < 128
        · have hks : k < S.size := by rw [HZ.out]; exact hlt
          have hdl : decide ((k : Int) < 128) = true := decide_eq_true (by omega)
          by_cases hc : S[k] = 0
          · have HK2 := Lib.hid (show ∀ j (h : j < S.size), q ≤ j → j < k + 1 → S[j] = 0 from fun j h a b => by
              rcases Nat.lt_or_eq_of_le (Nat.le_of_lt_succ b) with g | g
              · exact HK.out j h a g
              · subst g; exact hc)
            have hcd : ((S[k].toNat : Int) != 0) = false := by rw [hc]; rfl
            have hcd' : ((S[k].toNat : Int) == 0) = true := by rw [hc]; rfl
            clear HK hc
            generalize hck : S[k] = c at hcd hcd'
            have HCK := Lib.hid hck
            go_wp2
            go_round
            case rel => exact ⟨k + 1, by go_num, by omega, by omega, HK2.out⟩
            case measure => simp [intOf]; omega
          · have HV := Lib.hid (rbareV_no (bareB_no S t q 0 HR.out (fun h => hc ((all_at S q).1 h.2.2 k hks hk1))))
            have hcz : S[k].toNat ≠ 0 := fun h => hc (UInt8.toNat_inj.1 h)
            have hcd : ((S[k].toNat : Int) != 0) = true := by simp; omega
            have hcd' : ((S[k].toNat : Int) == 0) = false := by simp; omega
            clear HK hc hcz
            generalize hck : S[k] = c at hcd hcd'
            have HCK := Lib.hid hck
            go_wp2
            go_ret2
            exact ⟨by rw [HV.out]; rfl, HB.out⟩
        · obtain rfl : k = 128 := by omega
          have hall := (all_at S q).2 (fun j h a => HK.out j h a (by rw [HZ.out] at h; exact h))
          have hv := bareV_yes S t q HR.out HZ.out hall
          have HV := Lib.hid (show rbareV S = .tuple #[.string t, .bool true] by unfold rbareV; rw [hv.1, hv.2]; rfl)
          clear hall hv HK hlt
          go_wp2
          go_ret2
          exact ⟨by rw [HV.out]; rfl, HB.out⟩
    · have hd : ((S.size : Int) != 128) = true := by simp; omega
      have hd' : ((S.size : Int) == 128) = false := by simp; omega
      have HV := Lib.hid (rbareV_no (bareB_no S t q 0 HR.out (fun h => h1 h.1)))
      clear h1 hts hq hS
      go_enter Tryz.func143, Tryz.ntmps143
      go_wp2_with fail
      refine (HX.out _).mono ?_
      rintro e w1 ⟨rfl, hb1⟩
      have HB := Lib.hid (hb1.alloc hb1.size (.cells #[.string S, .int .i64 (q : Int), .int .i64 0] 213))
      clear hb1
      go_wp2_with fail
      go_ret2
      exact ⟨by rw [HV.out]; rfl, HB.out⟩
  · have hn : (er != 0) = true := by simpa using he
    have hn' : (er == 0) = false := by simpa using he
    have HV := Lib.hid (rbareV_no (bareB_no S t q er HR.out (fun h => he h.2.1)))
    clear he hts hq hS
    go_enter Tryz.func143, Tryz.ntmps143
    go_wp2_with fail
    refine (HX.out _).mono ?_
    rintro e w1 ⟨rfl, hb1⟩
    have HB := Lib.hid (hb1.alloc hb1.size (.cells #[.string S, .int .i64 (q : Int), .int .i64 er] 213))
    clear hb1
    go_wp2_with fail
    go_ret2
    exact ⟨by rw [HV.out]; rfl, HB.out⟩
end Go.Proofs.YtiflieaemgamkaaGreatDoor
