/- Contracts of scan.PutNum, PutText and PutInt and of the document's own PutNum and PutText over this translation. Conditions: texts of at most a million bytes. -/
import Derived.Test.YtiflieaemgamkaaGreatDoorVrput
namespace Go.Proofs.YtiflieaemgamkaaGreatDoor
open Go.RowKit Vi

set_option maxHeartbeats 400000 in
set_option maxRecDepth 100000 in
theorem putNum_any (n : Int) (w : World) (h1 : n ≤ 9223372036854775807) :
    Calls Tryz.prog 160 #[.int .i64 n] w fun e w' => e = .returned (.string ⟨(put n.toNat).toArray⟩) ∧ Below w.heap.size w w' := by
  by_cases h : 0 < n
  · obtain ⟨m, rfl⟩ := Int.eq_ofNat_of_zero_le (show 0 ≤ n by omega)
    rw [Int.toNat_natCast]
    go_enter Tryz.func160, Tryz.ntmps160
    go_wp2_with fail
    refine (put_any m w (by omega)).mono ?_
    rintro e w1 ⟨rfl, hb⟩
    go_wp2_with fail
    go_ret
    exact ⟨rfl, hb⟩
  · have h0 : n.toNat = 0 := by omega
    rw [h0]
    clear h0
    have hcase : n = 0 ∨ n < 0 := by omega
    clear h
    rcases hcase with rfl | h
    all_goals
      go_enter Tryz.func160, Tryz.ntmps160
      go_wp2_with fail
      refine (put_any 0 w (by omega)).mono ?_
      rintro e w1 ⟨rfl, hb⟩
      go_wp2_with fail
      go_ret
      exact ⟨rfl, hb⟩

set_option maxHeartbeats 400000 in
set_option maxRecDepth 100000 in
theorem putText_any (s : ByteArray) (w : World) (h1 : s.size ≤ 1000000) :
    Calls Tryz.prog 103 #[.string s] w fun e w' => e = .returned (.string (⟨(put s.size).toArray⟩ ++ s)) ∧ Below w.heap.size w w' := by
  have hpl := put_len s.size
  go_enter Tryz.func103, Tryz.ntmps103
  go_wp2_with fail
  refine (putNum_any (s.size : Int) w (by omega)).mono ?_
  rintro e w1 ⟨rfl, hb⟩
  rw [Int.toNat_natCast]
  go_wp2_with fail
  go_ret
  exact ⟨rfl, hb⟩


set_option maxHeartbeats 400000 in
set_option maxRecDepth 100000 in
theorem refPutNum_any (n : Int) (w : World) (h1 : n ≤ 9223372036854775807) :
    Calls Tryz.prog 150 #[.int .i64 n] w fun e w' => e = .returned (.string ⟨(put n.toNat).toArray⟩) ∧ Below w.heap.size w w' := by
  by_cases h : 0 ≤ n
  · obtain ⟨m, rfl⟩ := Int.eq_ofNat_of_zero_le h
    rw [Int.toNat_natCast]
    go_enter Tryz.func150, Tryz.ntmps150
    go_wp2_with fail
    refine (refPut_any m w (by omega)).mono ?_
    rintro e w1 ⟨rfl, hb⟩
    go_wp2_with fail
    go_ret
    exact ⟨rfl, hb⟩
  · have h0 : n.toNat = 0 := by omega
    rw [h0]
    clear h0
    go_enter Tryz.func150, Tryz.ntmps150
    go_wp2_with fail
    refine (refPut_any 0 w (by omega)).mono ?_
    rintro e w1 ⟨rfl, hb⟩
    go_wp2_with fail
    go_ret
    exact ⟨rfl, hb⟩

set_option maxHeartbeats 400000 in
set_option maxRecDepth 100000 in
theorem refPutText_any (s : ByteArray) (w : World) (h1 : s.size ≤ 1000000) :
    Calls Tryz.prog 151 #[.string s] w fun e w' => e = .returned (.string (⟨(put s.size).toArray⟩ ++ s)) ∧ Below w.heap.size w w' := by
  have hpl := put_len s.size
  go_enter Tryz.func151, Tryz.ntmps151
  go_wp2_with fail
  refine (refPut_any s.size w (by omega)).mono ?_
  rintro e w1 ⟨rfl, hb⟩
  go_wp2_with fail
  go_ret
  exact ⟨rfl, hb⟩
end Go.Proofs.YtiflieaemgamkaaGreatDoor
