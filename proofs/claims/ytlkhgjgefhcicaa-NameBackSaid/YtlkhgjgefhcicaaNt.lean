/- Contracts of name.Only, name.past, name.All and of the document's Only over rows of texts. -/
import Derived.Test.YtlkhgjgefhcicaaNs
import Derived.Test.YtlkhgjgefhcicaaNr
import Derived.Lib.MinMaxS
namespace Go.Proofs.Ytlkhgjgefhcicaa
open Go.RowKit

set_option maxRecDepth 100000 in
set_option maxHeartbeats 1600000 in
theorem only_any (a : Option Addr) (la ca : Nat) (xs : List ByteArray) (b : Option Addr) (lb cb : Nat) (ys : List ByteArray) (w : World) (ha : SlN w a la xs) (hb : SlN w b lb ys) (h1 : la ≤ 100000) (h2 : lb ≤ 100000) (hr : Rise ys) :
    Calls Try.prog 21 #[.slice a la ca, .slice b lb cb] w (RetTS w (onlyL xs ys)) := by
  have HA := Lib.hid ha
  have HB0 := Lib.hid hb
  have HL := Lib.hid ha.1
  have HR := Lib.hid hr
  clear ha hb hr
  go_enter Try.func21, Try.ntmps21
  go_wp2
  go_loopw [5, 7, 8, 9, 12] (fun v _ _ _ i wr => ∃ (k : Nat) (L : List ByteArray), k ≤ la ∧ i = .int .i64 (k : Int) ∧ OwnS wr w.heap.size v L ∧ L = onlyL (xs.take k) ys ∧ Below w.heap.size w wr) (fun _ _ _ _ i _ => la - (intOf i).toNat)
  case atStart => exact ⟨0, [], Nat.zero_le _, rfl, own_nil w _, rfl, Below.refl _ _⟩
  case round =>
    obtain ⟨k, L, hk, rfl, ho, hL, hbw⟩ := hrel
    have HO := Lib.hid ho
    have HLL := Lib.hid hL
    have HB := Lib.hid hbw
    clear ho hL hbw
    by_cases hlt : k < la
    · have hkn : k < xs.length := by rw [HL.out]; exact hlt
      obtain ⟨bb, off, rfl, hcell⟩ := (HA.out.later HB.out).2 (by omega)
      have hc := hcell k hkn
      have HY := Lib.hid (only_yes xs ys k hkn)
      have HN := Lib.hid (only_no xs ys k hkn)
      clear hcell
      generalize xs[k] = s at hc HY HN
      have HM := Lib.hid (in_met (x := s) HR.out)
      have hlen : L.length ≤ k := by rw [HLL.out]; have := only_len (xs.take k) ys; rw [List.length_take] at this; omega
      cases hq : inB ys s with
      | true =>
        have HQ := Lib.hid hq
        clear hq
        go_wp2_with fail
        refine (find_any b lb cb ys s (lessN ys s) _ (HB0.out.later HB.out) (by omega) (cut_of ys s HR.out)).mono ?_
        rintro e w' ⟨rfl, rfl⟩
        rw [HM.out, HQ.out]
        go_wp2
        go_roundw
        case rel => exact ⟨k + 1, L, by omega, by go_num, HO.out, by rw [HLL.out]; exact (HY.out HQ.out).symm, HB.out⟩
        case measure => simp [intOf]; omega
      | false =>
        have HQ := Lib.hid hq
        clear hq
        go_wp2_with fail
        refine (find_any b lb cb ys s (lessN ys s) _ (HB0.out.later HB.out) (by omega) (cut_of ys s HR.out)).mono ?_
        rintro e w' ⟨rfl, rfl⟩
        rw [HM.out, HQ.out]
        go_wp2_with (at_builtin; refine wpList_app rfl _ _ rfl w.heap.size w (HB.out.alloc HB.out.size _) (by have := HB.out.size; simp; omega) _ L rfl (HO.out.alloc _) _ 1 1 [s] rfl (sl_one _ s) (by omega) ?_)
        intro v2 w2 HO2 HB2 HZ2
        go_wp2
        go_roundw
        case rel => exact ⟨k + 1, L ++ [s], by omega, by go_num, HO2.out, by rw [HLL.out]; exact (HN.out HQ.out).symm, HB2.out⟩
        case measure => simp [intOf]; omega
    · have hf : xs.take k = xs := List.take_of_length_le (by rw [HL.out]; omega)
      have HF := Lib.hid hf
      clear hf
      go_wp2
      go_ret
      exact ⟨_, rfl, by have := TS.of_own HO.out; rw [HLL.out, HF.out] at this; exact this, HB.out⟩

set_option maxRecDepth 100000 in
set_option maxHeartbeats 1600000 in
theorem refOnly_any (a : Option Addr) (la ca : Nat) (xs : List ByteArray) (b : Option Addr) (lb cb : Nat) (ys : List ByteArray) (w : World) (ha : SlN w a la xs) (hb : SlN w b lb ys) (h1 : la ≤ 100000) (h2 : lb ≤ 100000) :
    Calls Try.prog 20 #[.slice a la ca, .slice b lb cb] w (RetTS w (onlyL xs ys)) := by
  have HA := Lib.hid ha
  have HB0 := Lib.hid hb
  have HL := Lib.hid ha.1
  clear ha hb
  go_enter Try.func20, Try.ntmps20
  go_wp2
  go_loopw [5, 6] (fun v i wr => ∃ (k : Nat) (L : List ByteArray), k ≤ la ∧ i = .int .i64 (k : Int) ∧ OwnS wr w.heap.size v L ∧ L = onlyL (xs.take k) ys ∧ Below w.heap.size w wr) (fun _ i _ => la - (intOf i).toNat)
  case atStart => exact ⟨0, [], Nat.zero_le _, rfl, own_nil w _, rfl, Below.refl _ _⟩
  case round =>
    obtain ⟨k, L, hk, rfl, ho, hL, hbw⟩ := hrel
    have HO := Lib.hid ho
    have HLL := Lib.hid hL
    have HB := Lib.hid hbw
    clear ho hL hbw
    by_cases hlt : k < la
    · have hkn : k < xs.length := by rw [HL.out]; exact hlt
      obtain ⟨bb, off, rfl, hcell⟩ := (HA.out.later HB.out).2 (by omega)
      have hc := hcell k hkn
      have HY := Lib.hid (only_yes xs ys k hkn)
      have HN := Lib.hid (only_no xs ys k hkn)
      clear hcell
      generalize xs[k] = s at hc HY HN
      have hlen : L.length ≤ k := by rw [HLL.out]; have := only_len (xs.take k) ys; rw [List.length_take] at this; omega
      cases hq : inB ys s with
      | true =>
        have HQ := Lib.hid hq
        clear hq
        go_wp2_with fail
        refine (refIn_any b lb cb ys s _ (HB0.out.later HB.out) (by omega)).mono ?_
        rintro e w' ⟨rfl, rfl⟩
        rw [HQ.out]
        go_wp2
        go_roundw
        case rel => exact ⟨k + 1, L, by omega, by go_num, HO.out, by rw [HLL.out]; exact (HY.out HQ.out).symm, HB.out⟩
        case measure => simp [intOf]; omega
      | false =>
        have HQ := Lib.hid hq
        clear hq
        go_wp2_with fail
        refine (refIn_any b lb cb ys s _ (HB0.out.later HB.out) (by omega)).mono ?_
        rintro e w' ⟨rfl, rfl⟩
        rw [HQ.out]
        go_wp2_with (at_builtin; refine wpList_app rfl _ _ rfl w.heap.size w (HB.out.alloc HB.out.size _) (by have := HB.out.size; simp; omega) _ L rfl (HO.out.alloc _) _ 1 1 [s] rfl (sl_one _ s) (by omega) ?_)
        intro v2 w2 HO2 HB2 HZ2
        go_wp2
        go_roundw
        case rel => exact ⟨k + 1, L ++ [s], by omega, by go_num, HO2.out, by rw [HLL.out]; exact (HN.out HQ.out).symm, HB2.out⟩
        case measure => simp [intOf]; omega
    · have hf : xs.take k = xs := List.take_of_length_le (by rw [HL.out]; omega)
      have HF := Lib.hid hf
      clear hf
      go_wp2
      go_ret
      exact ⟨_, rfl, by have := TS.of_own HO.out; rw [HLL.out, HF.out] at this; exact this, HB.out⟩

theorem slice_one (a : Option Addr) (n c : Nat) (hk : 1 ≤ n) (W : World) : (Instr.slice 22 (.slice a n c) (some (.int .i64 1)) none none).run Try.prog W = .ok (.slice (cutA a c 1) (n - 1) (c - 1)) W := slice_from a n c 1 hk W
set_option maxRecDepth 100000 in
set_option maxHeartbeats 400000 in
theorem past_any (b off n c : Nat) (x s : ByteArray) (w : World) (hn : 1 ≤ n) (hnm : n ≤ 200000) (hc : w.cell? ⟨b, off, none⟩ = some (.string x)) :
    Calls Try.prog 49 #[.slice (some ⟨b, off, none⟩) n c, .string s] w fun e w' => e = .returned (if (x.toList == s.toList) = true then .slice (cutA (some ⟨b, off, none⟩) c 1) (n - 1) (c - 1) else .slice (some ⟨b, off, none⟩) n c) ∧ w = w' := by
  have e1 := slice_one (some ⟨b, off, none⟩) n c hn
  have hn0 : (0 : Int) < (n : Int) := by omega
  have hn1 : 0 < n := hn
  have hc0 : w.cell? ⟨b, off + 0, none⟩ = some (.string x) := hc
  cases hq : (x.toList == s.toList) with
  | true =>
    go_enter Try.func49, Try.ntmps49
    go_wp2
    go_ret
    exact ⟨rfl, rfl⟩
  | false =>
    go_enter Try.func49, Try.ntmps49
    go_wp2
    go_ret
    exact ⟨rfl, rfl⟩
end Go.Proofs.Ytlkhgjgefhcicaa
