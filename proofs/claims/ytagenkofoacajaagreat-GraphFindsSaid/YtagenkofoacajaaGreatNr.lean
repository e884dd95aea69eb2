/- Contracts of the document's Rises, Less and In over rows of texts. -/
import Derived.Test.YtagenkofoacajaaGreatNp
namespace Go.Proofs.YtagenkofoacajaaGreat
open Go.RowKit

theorem riseB_short : ∀ l : List ByteArray, l.length ≤ 1 → riseB l = true
  | [], _ => rfl
  | [_], _ => rfl
  | _ :: _ :: _, h => by simp at h
theorem riseB_no (a b : ByteArray) (t : List ByteArray) (h : leS b a = true) : riseB (a :: b :: t) = false := by simp [riseB, h]
theorem riseB_go (a b : ByteArray) (t : List ByteArray) (h : leS b a = false) : riseB (a :: b :: t) = riseB (b :: t) := by simp [riseB, h]

theorem in_take (ss : List ByteArray) (x : ByteArray) (k : Nat) (h : k < ss.length) : inB (ss.take (k + 1)) x = (inB (ss.take k) x || (ss[k].toList == x.toList)) := by
  unfold inB
  rw [List.take_succ_eq_append_getElem h, List.any_append]
  simp
theorem in_hit (ss : List ByteArray) (x : ByteArray) (k : Nat) (h : k < ss.length) (he : (ss[k].toList == x.toList) = true) : inB ss x = true := by
  unfold inB
  rw [List.any_eq_true]
  exact ⟨ss[k], List.getElem_mem h, he⟩
set_option maxHeartbeats 800000 in
set_option maxRecDepth 100000 in
theorem refIn_any (a : Option Addr) (len cap : Nat) (ss : List ByteArray) (x : ByteArray) (w : World) (hsl : SlN w a len ss) (hlm : len ≤ 1000000) :
    Calls Tryz.prog 43 #[.slice a len cap, .string x] w fun e w' => e = .returned (.bool (inB ss x)) ∧ w = w' := by
  have HSL := Lib.hid hsl.2
  have HL := Lib.hid hsl.1
  clear hsl
  go_enter Tryz.func43, Tryz.ntmps43
  go_wp2
  go_loop [5] (fun i => ∃ (k : Nat), k ≤ len ∧ i = .int .i64 (k : Int) ∧ inB (ss.take k) x = false) (fun i => len - (intOf i).toNat)
  case atStart => exact ⟨0, Nat.zero_le _, rfl, rfl⟩
  case round =>
    obtain ⟨k, hk, rfl, heq⟩ := hrel
    have HE := Lib.hid heq
    clear heq
    by_cases hlt : k < len
    · obtain ⟨b, off, rfl, hcell⟩ := HSL.out (by omega)
      have hkn : k < ss.length := by rw [HL.out]; exact hlt
      have hc := hcell k hkn
      have HT := Lib.hid (in_take ss x k hkn)
      have HH := Lib.hid (in_hit ss x k hkn)
      clear hcell
      generalize ss[k] = s at hc HT HH
      cases hq : (s.toList == x.toList) with
      | true =>
        have HR := Lib.hid (HH.out hq)
        go_wp2
        go_ret
        exact ⟨ret_b2 HR.out.symm, rfl⟩
      | false =>
        have HR := Lib.hid (HT.out.trans (by rw [HE.out, hq, Bool.or_false]))
        go_wp2
        go_round
        case rel => exact ⟨k + 1, by omega, by go_num, HR.out⟩
        case measure => simp [intOf]; omega
    · have HR := Lib.hid (show inB ss x = false by rw [← HE.out, List.take_of_length_le (by rw [HL.out]; omega)])
      go_wp2
      go_ret
      exact ⟨ret_b2 HR.out.symm, rfl⟩
end Go.Proofs.YtagenkofoacajaaGreat
