/- The contract of the document's own Get of layer 1 over this translation, for every text that fits a string. -/
import Derived.Test.YtiflieaemgamkaaGreatDoorVrput
import Derived.Test.YtiflieaemgamkaaGreatDoorVget
import Derived.Deep.RegionWith
import Derived.RegionTactic
namespace Go.Proofs.YtiflieaemgamkaaGreatDoor
open Go.RowKit Vi

theorem horner (n c : Nat) : IntKind.u64.wrap (IntKind.u64.wrap ((n : Int) * 128) + (c : Int) % 128) = (((n * 128 + c % 128) % 18446744073709551616 : Nat) : Int) := by
  rw [IntKind.wrap_u64, IntKind.wrap_u64]; omega

theorem ext_list (s : ByteArray) (n : Nat) : (s.extract 0 n).toList = s.data.toList.take n := by
  rw [ByteArray.toList_eq, ByteArray.data_extract, Array.toList_extract]; simp [List.extract]

set_option maxHeartbeats 400000 in
set_option maxRecDepth 100000 in
theorem refGet_any (s : ByteArray) (w : World) (hs : s.size ≤ maxLen) :
    Calls Tryz.prog 195 #[.string s] w fun e w' => e = .returned (gv s.data.toList) ∧ Below w.heap.size w w' := by
  unfold maxLen at hs
  have hle := hi_le s.data.toList
  have hsz : s.data.toList.length = s.size := by simp
  have HSZ := Lib.hid hsz
  rw [hsz] at hle
  clear hsz
  go_enter Tryz.func195, Tryz.ntmps195
  go_wp2
  go_loop [5] (fun i => ∃ k : Nat, i = .int .i64 (k : Int) ∧ k ≤ Vi.hi s.data.toList) (fun i => s.size - (intOf i).toNat)
  case atStart => exact ⟨0, rfl, by omega⟩
  case round =>
    obtain ⟨k, rfl, hk⟩ := hrel
    by_cases hlt : k < Vi.hi s.data.toList
    · obtain ⟨h1, h2⟩ := hi_at _ k hlt
      have h1' : k < s.size := by rw [← HSZ.out]; exact h1
      have hb : 128 ≤ (s[k].toNat : Int) := by
        have : s.data.toList[k] = s[k] := by rw [Array.getElem_toList]; rfl
        rw [this] at h2; omega
      clear h1 h2
      go_wp2
      go_round
      case rel => exact ⟨k + 1, by go_num, by omega⟩
      case measure => simp [intOf]; omega
    · have hk2 : k = Vi.hi s.data.toList := by omega
      by_cases hend : k < s.size
      · have hb : (s[k].toNat : Int) < 128 := by
          have h3 := hi_end s.data.toList (by rw [HSZ.out, ← hk2]; exact hend)
          have : s.data.toList[Vi.hi s.data.toList]'(by rw [HSZ.out, ← hk2]; exact hend) = s[k] := by rw [Array.getElem_toList]; simp only [← hk2]; rfl
          rw [this] at h3; omega
        by_cases h9 : (9 : Int) < k
        · have hf := gv_none (get_long (l := s.data.toList) (Or.inr (by omega)))
          have HF := Lib.hid hf
          clear hf hlt hk2
          go_wp2
          go_ret3
          exact ⟨congrArg Ending.returned HF.out.symm, Below.refl _ _⟩
        · have HK := Lib.hid hk2
          clear hlt hk2
          go_wp2
          go_loop [6, 7] (fun n i => ∃ (i0 : Int) (a : Nat), i = .int .i64 i0 ∧ -1 ≤ i0 ∧ i0 ≤ k ∧ n = .int .u64 (a : Int) ∧ (a : Int) ≤ 18446744073709551615 ∧ a = hz ((s.data.toList.take (k + 1)).drop (i0 + 1).toNat) % 18446744073709551616) (fun _ i => (intOf i + 1).toNat)
          case atStart =>
            refine ⟨k, 0, rfl, by omega, by omega, rfl, by omega, ?_⟩
            rw [List.drop_eq_nil_of_le (by simp; omega)]; rfl
          case round =>
            obtain ⟨i0, a, rfl, hi1, hi2, rfl, ha, hae⟩ := hrel
            have HA := Lib.hid hae
            clear hae
            by_cases h0 : 0 ≤ i0
            · obtain ⟨j, rfl⟩ := Int.eq_ofNat_of_zero_le h0
              have hjs : j < s.size := by omega
              have hb8 : (s[j].toNat : Int) ≤ 255 := by have := s[j].toNat_lt; omega
              have hst := hz_take_step s.data.toList j (k + 1) (by omega) (by rw [HSZ.out]; omega) a (by have := HA.out; rwa [show ((j : Int) + 1).toNat = j + 1 by omega] at this)
              have e3 : s.data.toList[j]'(by rw [HSZ.out]; exact hjs) = s[j] := by rw [Array.getElem_toList]; rfl
              rw [e3] at hst
              have HST := Lib.hid hst
              clear hst e3
              go_wp2
              go_round
              case rel =>
                refine ⟨(j : Int) - 1, (a * 128 + s[j].toNat % 128) % 18446744073709551616, by go_num, by omega, by omega, ?_, by omega, ?_⟩
                · rw [horner]
                · rw [show ((j : Int) - 1 + 1).toNat = j by omega]; exact HST.out
              case measure => simp [intOf]
            · have hm1 : i0 = -1 := by omega
              have ha2 : a = hz (s.data.toList.take (k + 1)) % 18446744073709551616 := by
                have := HA.out; rw [hm1] at this; simpa using this
              subst hm1
              have HA2 := Lib.hid ha2
              clear ha2 HA
              go_wp2
              have hw1 : IntKind.i64.wrap ((k : Int) + 1) = (k : Int) + 1 := IntWalk.i64_in _ (by omega)
              have hw2 : 0 ≤ (k : Int) + 1 := by omega
              have hw3 : ((k : Int) + 1).toNat = k + 1 := by omega
              have hw4 : (k : Int) + 1 ≤ s.size := by omega
              go_region_with (go_at_call 197; refine (refPut_any a _ ha).mono ?_; rintro e w' ⟨rfl, hb'⟩)
              have hext := ext_list s (k + 1)
              have HX := Lib.hid hext
              have hbb : Below w.heap.size w w' := ((Below.refl w.heap.size w).drew).trans hb'
              clear hext hb'
              go_wp2
              · have hq : (!put a == (s.extract 0 (k + 1)).toList) = true := by assumption
                rw [HX.out] at hq
                have hg := gv_none (get_no (l := s.data.toList) (by rw [← HK.out, ← HA2.out]; simpa using hq))
                go_ret3
                exact ⟨congrArg Ending.returned hg.symm, hbb⟩
              · have hq : (!put a == (s.extract 0 (k + 1)).toList) = false := by assumption
                rw [HX.out] at hq
                have hp : put a = s.data.toList.take (k + 1) := by simpa using hq
                have hy := get_yes (l := s.data.toList) (by rw [← HK.out, ← HA2.out]; exact hp) (by rw [HSZ.out, ← HK.out]; exact hend)
                rw [← HK.out, ← HA2.out] at hy
                have hg : gv s.data.toList = .tuple #[.int .u64 a, .int .i64 ((k : Int) + 1), .bool true] := by
                  simp [gv, gn, gk, gb, hy]
                go_ret3
                exact ⟨congrArg Ending.returned hg.symm, hbb⟩
      · have hf := gv_none (get_long (l := s.data.toList) (Or.inl (by rw [HSZ.out]; omega)))
        have HF := Lib.hid hf
        clear hf hlt hk2
        go_wp2
        go_ret3
        exact ⟨congrArg Ending.returned HF.out.symm, Below.refl _ _⟩
end Go.Proofs.YtiflieaemgamkaaGreatDoor
