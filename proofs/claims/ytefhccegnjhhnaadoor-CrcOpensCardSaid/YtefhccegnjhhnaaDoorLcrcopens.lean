/- CrcOpens: any text sealed, and any text opened or not, are the document's, and what was sealed is opened, where the table holds what the program's text lays. -/
import Derived.Test.YtefhccegnjhhnaaDoorCa
namespace Go.Proofs.YtefhccegnjhhnaaDoor.LCrcOpens
open Go.RowKit Cm

theorem sealed_size (s : ByteArray) (l : List UInt8) (hl : l.length = 4) : (s ++ ByteArray.mk l.toArray).size = s.size + 4 := by
  rw [ByteArray.size_append]; show s.size + l.toArray.size = _; simp [hl]
theorem opened_sealed (s : ByteArray) : opened (s ++ ByteArray.mk (tl (on 0 s.data.toList)).toArray) = .tuple #[.string s, .bool true] := by
  have hsz := sealed_size s (tl (on 0 s.data.toList)) rfl
  have hd : (s ++ ByteArray.mk (tl (on 0 s.data.toList)).toArray).data.toList = s.data.toList ++ tl (on 0 s.data.toList) := by simp
  have hl : s.data.toList.length = s.size := by simp
  have hse : sealed (s ++ ByteArray.mk (tl (on 0 s.data.toList)).toArray) = true := by
    unfold sealed
    rw [hsz, hd, Nat.add_sub_cancel, decide_eq_true (by omega), Bool.true_and, ← hl, List.drop_left, List.take_left]
    simp
  have hx : (s ++ ByteArray.mk (tl (on 0 s.data.toList)).toArray).extract 0 s.size = s := by
    apply ByteArray.ext
    rw [← Array.toList_inj, Lib.extract_from_zero, hd, ← hl, List.take_left]
  unfold opened
  rw [hse, hsz, Nat.add_sub_cancel, hx]
  rfl

set_option maxHeartbeats 1600000 in
set_option maxRecDepth 100000 in
theorem walk (s t : ByteArray) (w : World) (hT : Tab w) (hs : s.size ≤ maxLen) (ht : t.size ≤ maxLen) :
    Calls Tryd.prog 4 #[.string s, .string t] w fun e w' => e = .returned (.bool true) ∧ Below w.heap.size w w' := by
  have hs2 := hs
  have ht2 := ht
  unfold maxLen at hs2 ht2
  have HT := Lib.hid hT
  clear hT
  by_cases hb : 1000 < (s.size : Int)
  · go_enter Tryd.func4, Tryd.ntmps4
    go_wp2_with fail
    refine (awake2_any _ HT.out).mono ?_
    rintro e w1 ⟨rfl, hb1⟩
    go_wp2_with fail
    go_ret
    exact ⟨rfl, hb1⟩
  by_cases hbt : 1000 < (t.size : Int)
  · go_enter Tryd.func4, Tryd.ntmps4
    go_wp2_with fail
    refine (awake2_any _ HT.out).mono ?_
    rintro e w1 ⟨rfl, hb1⟩
    go_wp2_with fail
    go_ret
    exact ⟨rfl, hb1⟩
  have HO := Lib.hid (opened_sealed s)
  obtain ⟨z, so, hop⟩ : ∃ z so, opened t = .tuple #[.string z, .bool so] := ⟨_, _, rfl⟩
  have HOP := Lib.hid hop
  clear hop
  have hzz := sealed_size s (tl (on 0 s.data.toList)) rfl
  have HZZ := Lib.hid hzz
  have hon := on_lt 0 s.data.toList
  have hl4 : (tl (on 0 s.data.toList)).length ≤ 4 := Nat.le_refl _
  clear hzz
  go_enter Tryd.func4, Tryd.ntmps4
  go_wp2_with fail
  refine (open_any t w HT.out (by omega)).mono ?_
  rintro e w1 ⟨rfl, hb1⟩
  rw [HOP.out]
  go_wp2_with fail
  refine (refOpen_any t w1 (by omega)).mono ?_
  rintro e w2 ⟨rfl, k⟩
  rw [HOP.out]
  have hb2 := hb1.trans (k.mono hb1.size)
  clear hb1 k
  go_wp2_with fail
  refine (seal_any s w2 (HT.out.later hb2) (by omega)).mono ?_
  rintro e w3 ⟨rfl, k⟩
  have hb3 := hb2.trans (k.mono hb2.size)
  clear hb2 k
  go_wp2_with fail
  refine (open_any _ w3 (HT.out.later hb3) (by rw [HZZ.out]; omega)).mono ?_
  rintro e w4 ⟨rfl, k⟩
  rw [HO.out]
  have hb4 := hb3.trans (k.mono hb3.size)
  clear hb3 k
  go_wp2_with fail
  refine (seal_any s w4 (HT.out.later hb4) (by omega)).mono ?_
  rintro e w5 ⟨rfl, k⟩
  have hb5 := hb4.trans (k.mono hb4.size)
  clear hb4 k
  go_wp2_with fail
  refine (refOn_any 0 s w5 (by omega) (by omega)).mono ?_
  rintro e w6 ⟨rfl, k⟩
  have hb6 := hb5.trans (k.mono hb5.size)
  clear hb5 k
  go_wp2_with fail
  refine (refTail_any _ w6 hon).mono ?_
  rintro e w7 ⟨rfl, k⟩
  have hb7 := hb6.trans (k.mono hb6.size)
  clear hb6 k
  have q1 : (z.toList == z.toList) = true := by simp
  have q2 : (so == so) = true := by simp
  have q3 : (s.toList == s.toList) = true := by simp
  go_wp2_with fail
  refine (awake2_any w7 (HT.out.later hb7)).mono ?_
  rintro e w8 ⟨rfl, k⟩
  have hb8 := hb7.trans (k.mono hb7.size)
  go_wp2_with fail
  go_ret
  exact ⟨rfl, hb8⟩
end Go.Proofs.YtefhccegnjhhnaaDoor.LCrcOpens
