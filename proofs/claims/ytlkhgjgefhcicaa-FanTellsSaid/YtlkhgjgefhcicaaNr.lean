/- Contracts of the document's Rises, Less and In over rows of texts. -/
import Derived.Test.YtlkhgjgefhcicaaNp
namespace Go.Proofs.Ytlkhgjgefhcicaa
open Go.RowKit

theorem riseB_short : ∀ l : List ByteArray, l.length ≤ 1 → riseB l = true
  | [], _ => rfl
  | [_], _ => rfl
  | _ :: _ :: _, h => by simp at h
theorem riseB_no (a b : ByteArray) (t : List ByteArray) (h : leS b a = true) : riseB (a :: b :: t) = false := by simp [riseB, h]
theorem riseB_go (a b : ByteArray) (t : List ByteArray) (h : leS b a = false) : riseB (a :: b :: t) = riseB (b :: t) := by simp [riseB, h]

set_option maxHeartbeats 1600000 in
set_option maxRecDepth 100000 in
theorem refRises_any (a : Option Addr) (len cap : Nat) (ss : List ByteArray) (w : World) (hsl : SlN w a len ss) (hlm : len ≤ maxLen) :
    Calls Try.prog 11 #[.slice a len cap] w fun e w' => e = .returned (.bool (riseB ss)) ∧ ∃ q, w' = w.drewN q := by
  unfold maxLen at hlm
  have HSL := Lib.hid hsl.2
  have HL := Lib.hid hsl.1
  clear hsl
  go_enter Try.func11, Try.ntmps11
  go_wp2
  go_loopw [3] (fun i wr => ∃ (m : Nat), i = .int .i64 ((m : Int) + 1) ∧ (m < len ∨ m = 0) ∧ riseB ss = riseB (ss.drop m) ∧ ∃ q, wr = w.drewN q) (fun i _ => len - (intOf i).toNat)
  case atStart => exact ⟨0, rfl, Or.inr rfl, rfl, 0, rfl⟩
  case round =>
    obtain ⟨m, rfl, hk, heq, q, rfl⟩ := hrel
    have HE := Lib.hid heq
    clear heq
    by_cases hlt : m + 1 < len
    · obtain ⟨b, off, rfl, hcell⟩ := HSL.out (by omega)
      have hkn : m + 1 < ss.length := by rw [HL.out]; exact hlt
      have hm : m < ss.length := by omega
      have hk1 := hcell (m + 1) hkn
      have hcm := hcell m hm
      have HD := Lib.hid (show ss.drop m = ss[m] :: ss[m + 1] :: ss.drop (m + 2) by rw [List.drop_eq_getElem_cons hm, List.drop_eq_getElem_cons hkn])
      have HD2 := Lib.hid (show ss.drop (m + 1) = ss[m + 1] :: ss.drop (m + 2) from List.drop_eq_getElem_cons hkn)
      have hi0 : (0 : Int) ≤ (m : Int) := by omega
      have hi1 : (m : Int) < (len : Int) := by omega
      have hi2 : (m : Int) + 1 < (len : Int) := by omega
      clear hcell
      obtain ⟨s, hs1⟩ : ∃ s, s = ss[m + 1] := ⟨_, rfl⟩
      obtain ⟨p, hp1⟩ : ∃ p, p = ss[m] := ⟨_, rfl⟩
      rw [← hs1] at hk1 HD HD2
      rw [← hp1] at hcm HD
      clear hs1 hp1
      rcases leS_cases s p with ⟨g1, hg⟩ | ⟨g1, g2, hg⟩ | ⟨g1, g2, hg⟩
      · have HR := Lib.hid (HE.out.trans (by rw [HD.out, riseB_no p s _ hg]))
        clear hg
        go_wp2_with fail
        go_quiet (fail)
        go_wp2
        go_ret
        exact ⟨ret_b2 HR.out.symm, _, World.drewN_drewN _ _ _⟩
      · have HR := Lib.hid (HE.out.trans (by rw [HD.out, riseB_no p s _ hg]))
        clear hg
        go_wp2_with fail
        go_quiet (fail)
        go_wp2
        go_ret
        exact ⟨ret_b2 HR.out.symm, _, World.drewN_drewN _ _ _⟩
      · have HR := Lib.hid (HE.out.trans (by rw [HD.out, riseB_go p s _ hg, ← HD2.out]))
        clear hg
        go_wp2_with fail
        go_quiet (fail)
        go_wp2
        go_roundw
        case rel => exact ⟨m + 1, by go_num, Or.inl hlt, HR.out, _, rfl⟩
        case measure => simp [intOf]; omega
    · have HR := Lib.hid (HE.out.trans (riseB_short _ (by rw [List.length_drop, HL.out]; omega)))
      go_wp2
      go_ret
      exact ⟨ret_b2 HR.out.symm, q, rfl⟩

set_option maxHeartbeats 800000 in
set_option maxRecDepth 100000 in
theorem refLess_any (a : Option Addr) (len cap : Nat) (ss : List ByteArray) (x : ByteArray) (w : World) (hsl : SlN w a len ss) (hlm : len ≤ 1000000) :
    Calls Try.prog 16 #[.slice a len cap, .string x] w fun e w' => e = .returned (.int .i64 (lessN ss x : Int)) ∧ w = w' := by
  have HSL := Lib.hid hsl.2
  have HL := Lib.hid hsl.1
  clear hsl
  go_enter Try.func16, Try.ntmps16
  go_wp2
  go_loop [5, 6] (fun v i => ∃ (k n : Nat), k ≤ len ∧ i = .int .i64 (k : Int) ∧ v = .int .i64 (n : Int) ∧ n ≤ k ∧ lessN (ss.take k) x = n) (fun _ i => len - (intOf i).toNat)
  case atStart => exact ⟨0, 0, Nat.zero_le _, rfl, rfl, Nat.le_refl _, rfl⟩
  case round =>
    obtain ⟨k, n, hk, rfl, rfl, hnk, heq⟩ := hrel
    have HE := Lib.hid heq
    clear heq
    by_cases hlt : k < len
    · obtain ⟨b, off, rfl, hcell⟩ := HSL.out (by omega)
      have hkn : k < ss.length := by rw [HL.out]; exact hlt
      have hc := hcell k hkn
      have HY := fun h => Lib.hid (lessN_yes ss x k hkn h)
      have HN := fun h => Lib.hid (lessN_no ss x k hkn h)
      have HY2 := Lib.hid HY
      have HN2 := Lib.hid HN
      clear hcell HY HN
      generalize ss[k] = s at hc HY2 HN2
      cases hq : Op.bytesLess s.toList x.toList with
      | true =>
        have HR := Lib.hid ((HY2.out hq).out.trans (by rw [HE.out]))
        go_wp2
        go_round
        case rel => exact ⟨k + 1, n + 1, by omega, by go_num, by go_num, by omega, HR.out⟩
        case measure => simp [intOf]; omega
      | false =>
        have HR := Lib.hid ((HN2.out hq).out.trans HE.out)
        go_wp2
        go_round
        case rel => exact ⟨k + 1, n, by omega, by go_num, rfl, by omega, HR.out⟩
        case measure => simp [intOf]; omega
    · have HR := Lib.hid (show lessN ss x = n by rw [← HE.out, List.take_of_length_le (by rw [HL.out]; omega)])
      go_wp2
      go_ret
      exact ⟨ret_n (by rw [HR.out]), rfl⟩

theorem in_take (ss : List ByteArray) (x : ByteArray) (k : Nat) (h : k < ss.length) : inB (ss.take (k + 1)) x = (inB (ss.take k) x || (ss[k].toList == x.toList)) := by
  unfold inB
  rw [List.take_succ_eq_append_getElem h, List.any_append]
  simp
theorem in_hit (ss : List ByteArray) (x : ByteArray) (k : Nat) (h : k < ss.length) (he : (ss[k].toList == x.toList) = true) : inB ss x = true := by
  unfold inB
  rw [List.any_eq_true]
  exact ⟨ss[k], List.getElem_mem h, he⟩
set_option maxHeartbeats 800000 in
set_option maxRecDepth 100000 in
theorem refIn_any (a : Option Addr) (len cap : Nat) (ss : List ByteArray) (x : ByteArray) (w : World) (hsl : SlN w a len ss) (hlm : len ≤ 1000000) :
    Calls Try.prog 17 #[.slice a len cap, .string x] w fun e w' => e = .returned (.bool (inB ss x)) ∧ w = w' := by
  have HSL := Lib.hid hsl.2
  have HL := Lib.hid hsl.1
  clear hsl
  go_enter Try.func17, Try.ntmps17
  go_wp2
  go_loop [5] (fun i => ∃ (k : Nat), k ≤ len ∧ i = .int .i64 (k : Int) ∧ inB (ss.take k) x = false) (fun i => len - (intOf i).toNat)
  case atStart => exact ⟨0, Nat.zero_le _, rfl, rfl⟩
  case round =>
    obtain ⟨k, hk, rfl, heq⟩ := hrel
    have HE := Lib.hid heq
    clear heq
    by_cases hlt : k < len
    · obtain ⟨b, off, rfl, hcell⟩ := HSL.out (by omega)
      have hkn : k < ss.length := by rw [HL.out]; exact hlt
      have hc := hcell k hkn
      have HT := Lib.hid (in_take ss x k hkn)
      have HH := Lib.hid (in_hit ss x k hkn)
      clear hcell
      generalize ss[k] = s at hc HT HH
      cases hq : (s.toList == x.toList) with
      | true =>
        have HR := Lib.hid (HH.out hq)
        go_wp2
        go_ret
        exact ⟨ret_b2 HR.out.symm, rfl⟩
      | false =>
        have HR := Lib.hid (HT.out.trans (by rw [HE.out, hq, Bool.or_false]))
        go_wp2
        go_round
        case rel => exact ⟨k + 1, by omega, by go_num, HR.out⟩
        case measure => simp [intOf]; omega
    · have HR := Lib.hid (show inB ss x = false by rw [← HE.out, List.take_of_length_le (by rw [HL.out]; omega)])
      go_wp2
      go_ret
      exact ⟨ret_b2 HR.out.symm, rfl⟩
end Go.Proofs.Ytlkhgjgefhcicaa
