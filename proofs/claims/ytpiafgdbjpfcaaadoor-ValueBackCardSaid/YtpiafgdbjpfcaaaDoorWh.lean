/- The contract of sha.Hex over this translation. Conditions: texts of at most a million bytes. -/
import Derived.Test.YtpiafgdbjpfcaaaDoorO
import Derived.Test.YtpiafgdbjpfcaaaDoorHp
import Derived.Lib.Hide
import Derived.Laws.Rows
import Derived.Laws.CopyOwn
import Derived.Laws.BitsAllLaws
import Derived.LoopTactic
import Derived.Deep.QuietTactic
import Derived.BigQuiet
import Derived.RegionTactic
namespace Go.Proofs.YtpiafgdbjpfcaaaDoor
open Go.RowKit Hm

def u8h (c : UInt8) : Value := .int .u8 (c.toNat : Int)

theorem run_digW (k : IntKind) (n : Nat) (hn : n < 16) (z : Int) (hz : z = (n : Int)) (W : World) : (Instr.index 9 (.string ⟨#[48, 49, 50, 51, 52, 53, 54, 55, 56, 57, 97, 98, 99, 100, 101, 102]⟩) (.int k z)).run Tryd.prog W = .ok (.int .u8 ((hexd n).toNat : Int)) W := by
  subst hz
  rw [run_index_string W _ _ k _ Tryd.underlying9]
  rcases (show n = 0 ∨ n = 1 ∨ n = 2 ∨ n = 3 ∨ n = 4 ∨ n = 5 ∨ n = 6 ∨ n = 7 ∨ n = 8 ∨ n = 9 ∨ n = 10 ∨ n = 11 ∨ n = 12 ∨ n = 13 ∨ n = 14 ∨ n = 15 by omega) with rfl | rfl | rfl | rfl | rfl | rfl | rfl | rfl | rfl | rfl | rfl | rfl | rfl | rfl | rfl | rfl <;> rfl
theorem info_b8h : (Tryd.prog.info? 5).map (fun i => (i.zero, i.size, i.bytes)) = some (some (.int .u8 0), 1, 1) := by kernel_rfl
theorem conv_ownH {w : World} {B : Nat} {v : Value} {xs : List UInt8} (h : Own 5 w B v (xs.map u8h)) :
    (convert 59 9 v).run Tryd.prog w = .ok (.string ⟨xs.toArray⟩) w := by
  rcases Nat.eq_zero_or_pos xs.length with h0 | hp
  · have hx : xs = [] := List.length_eq_zero_iff.1 h0
    subst hx
    rcases h.2 with ⟨rfl, _⟩ | ⟨g, cap, cur, rfl, _⟩
    · exact run_convert_bytes_nil _ _ _ Tryd.underlying59 Tryd.underlying5 _ _ _ Tryd.underlying9
    · exact run_convert_bytes_back w 59 9 5 ⟨g, 0, none⟩ cap [] Tryd.underlying59 Tryd.underlying5 Tryd.underlying9 (fun j hj => by simp at hj)
  · obtain ⟨g, cap, rfl, _, _, _, hc⟩ := h.cellAt (by simpa using hp)
    have e := run_convert_bytes_back (P := Tryd.prog) w 59 9 5 ⟨g, 0, none⟩ cap xs Tryd.underlying59 Tryd.underlying5 Tryd.underlying9 (fun j hj => by
      rw [Addr.add_lit, Nat.zero_add, hc j (by simpa using hj)]
      simp [u8h])
    rw [List.length_map]
    exact e
theorem and15W (c : UInt8) : bits BinOp.and IntKind.u8 (c.toNat : Int) 15 = ((c.toNat % 16 : Nat) : Int) := by
  have h := u8_and_nat c.toNat 15 c.toNat_lt (by omega)
  rw [show (15 : Nat) = 2 ^ 4 - 1 by rfl, Nat.and_two_pow_sub_one_eq_mod] at h
  exact h
set_option maxRecDepth 100000 in
set_option maxHeartbeats 1000000 in
theorem hex_any (s : ByteArray) (w : World) (hs : s.size ≤ 1000000) :
    Calls Tryd.prog 36 #[.string s] w fun e w' => e = .returned (.string ⟨(hexL s.data.toList).toArray⟩) ∧ Below w.heap.size w w' := by
  obtain ⟨i0, hi, hz0, hz1, hz2⟩ := info_parts info_b8h
  have hi0 : i0.bytes * (2 * s.size) ≤ 281474976710656 := by rw [hz2]; omega
  go_enter Tryd.func36, Tryd.ntmps36
  go_wp2_with (refine wpList_make_own w rfl _ _ 59 rfl w.heap.size 5 i0 (.int .u8 0) 1 Tryd.underlying59 hi hz0 hz1 .i64 .i64 (2 * (s.size : Int)) (2 * s.size) rfl rfl (by omega) hi0 (by unfold maxLen; omega) (Nat.le_refl _) ?_)
  intro w1 ho1 hg1
  have HO1 := Lib.hid (show Own 5 w1 w.heap.size (.slice (some ⟨w.heap.size, 0, none⟩) 0 (2 * s.size)) (([] : List UInt8).map u8h) from ho1)
  have HB1 := Lib.hid ((Below.refl w.heap.size w).grown hg1 (Nat.le_refl _) (fun _ h => by cases h))
  clear ho1 hg1 hi hz0 hz1 hz2 hi0
  go_wp2_with fail
  go_loopw [3, 4, 11] (fun v _ i wr => ∃ (k : Nat), i = .int .i64 (k : Int) ∧ k ≤ s.size ∧ Own 5 wr w.heap.size v ((hexL (s.data.toList.take k)).map u8h) ∧ Below w.heap.size w wr) (fun _ _ i _ => s.size - (intOf i).toNat)
  case atStart => exact ⟨0, rfl, Nat.zero_le _, HO1.out, HB1.out⟩
  case round =>
    obtain ⟨k, rfl, hk, ho, hb⟩ := hrel
    have HO := Lib.hid ho
    have HB := Lib.hid hb
    clear ho hb
    by_cases hlt2 : k < s.size
    · obtain ⟨c, hc⟩ : ∃ c, s[k] = c := ⟨_, rfl⟩
      have HT := Lib.hid (show hexL (s.data.toList.take (k + 1)) = hexL (s.data.toList.take k) ++ [hexd (c.toNat / 16), hexd (c.toNat % 16)] by
        rw [List.take_succ_eq_append_getElem (by simpa using hlt2), hexL_snoc, ← hc]
        rfl)
      have hd1 := run_digW .u8 (c.toNat / 16) (by have := c.toNat_lt; omega) ((c.toNat : Int) / 16) (by omega)
      have hd2 := run_digW .u8 (c.toNat % 16) (by omega) ((c.toNat : Int) % 16) (by omega)
      have ha : bits BinOp.and IntKind.u8 (c.toNat : Int) 15 = (c.toNat : Int) % 16 := by rw [and15W]; omega
      obtain ⟨xs, hxs⟩ : ∃ xs, xs = (hexL (s.data.toList.take k)).map u8h := ⟨_, rfl⟩
      have hxl : xs.length = 2 * k := by
        have e2 : s.data.toList.length = s.size := by simp
        rw [hxs, List.length_map, hexL_len, List.length_take, e2]
        omega
      rw [← hxs] at HO
      have HX := Lib.hid hxs
      have HXL := Lib.hid hxl
      clear hxs hxl
      go_wp2_with fail
      go_region_law ((refine step_appV ?_ (.tmp 14) (.tmp 25) 59 5 (.int .u8 0) 1 ?_ Tryd.underlying59 info_b8h ?_ ?_ w.heap.size w ?_ ?_ u3 xs ?_ ?_ ⟨wr.heap.size, 0, none⟩ 2 2 [.int .u8 ((hexd (c.toNat / 16)).toNat : Int), .int .u8 ((hexd (c.toNat % 16)).toNat : Int)] ?_ ?_ ?_ ?_ ?_ ?_; (rfl); (rfl); (rfl); (omega); (first | exact HB.out.alloc HB.out.size _ | exact HB.out.drew.alloc HB.out.size _); (have := HB.out.size; simp; omega); (rfl); (first | exact HO.out.alloc _ | exact HO.out.drew.alloc _); (rfl); (rfl); (first | exact Lay.new wr _ _ | exact Lay.new wr.drew _ _); (intro u hu; simp at hu; rcases hu with rfl | rfl <;> rfl); (rw [HXL.out]; simp; omega); (intro v2 w2 HO2 HB2 HZ2)))
      all_goals
        go_wp2_with fail
        go_roundw
        case rel => exact ⟨k + 1, by go_num, by omega, by
          have h := HO2.out
          rw [HX.out] at h
          rw [HT.out, List.map_append]
          exact h, HB2.out⟩
        case measure => simp [intOf]; omega
    · obtain rfl : k = s.size := by omega
      have hcv := conv_ownH HO.out
      have e2 : s.data.toList.take s.size = s.data.toList := List.take_of_length_le (by simp)
      rw [e2] at hcv
      clear e2
      go_wp2_with fail
      go_ret
      exact ⟨rfl, HB.out⟩
end Go.Proofs.YtpiafgdbjpfcaaaDoor
