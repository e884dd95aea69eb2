/- facts.Parted (strings.Cut at a nought) over this translation. Condition: texts of at most a million bytes. -/
import Derived.Test.YtjnichiblljmjaaId
import Derived.Test.YtjnichiblljmjaaSk
import Derived.Lib.Bytealg
namespace Go.Proofs.Ytjnichiblljmjaa
open Go.RowKit Vi

theorem ixB (l : List UInt8) : Lib.indexByte l 0 = if (l.takeWhile (· != 0)).length = l.length then -1 else ((l.takeWhile (· != 0)).length : Int) := by
  induction l with
  | nil => rfl
  | cons b l ih =>
    unfold Lib.indexByte
    by_cases h : b = 0
    · subst h; simp
    · have h1 : (b == 0) = false := by simpa using h
      have h2 : (b != 0) = true := by simpa using h
      rw [h1, List.takeWhile_cons, if_pos h2]
      simp only [List.length_cons]
      by_cases h3 : (l.takeWhile (· != 0)).length = l.length
      · rw [if_pos h3] at ih
        rw [ih, if_pos (show (l.takeWhile (· != 0)).length + 1 = l.length + 1 by omega)]
        rfl
      · rw [if_neg h3] at ih
        have h4 : (((l.takeWhile (· != 0)).length : Int) == -1) = false := by rw [beq_eq_false_iff_ne]; omega
        rw [ih, if_neg (show ¬ (l.takeWhile (· != 0)).length + 1 = l.length + 1 by omega), h4]
        simp
theorem zN_le (s : ByteArray) : zN s ≤ s.size := by
  have h := (List.takeWhile_sublist (l := s.data.toList) (· != 0)).length_le
  have hl : s.data.toList.length = s.size := by simp
  unfold zN
  omega
set_option maxRecDepth 100000 in
set_option maxHeartbeats 1000000 in
theorem lcut_any (s : ByteArray) (w : World) (hs : s.size ≤ 1000000) :
    Calls Try.prog 117 #[.string s, .string ⟨#[0]⟩] w fun e w' => (∃ b, e = .returned (.tuple #[.string (partA s), .string (partB s), .bool b])) ∧ Below w.heap.size w w' := by
  have HI := Lib.hid (fun W : World => Try.stringslite_Index_one s 0 W)
  have hle := zN_le s
  have hl : s.data.toList.length = s.size := by simp
  by_cases h : zN s = s.size
  · have HV := Lib.hid (show Lib.indexByte s.data.toList 0 = -1 by rw [ixB, if_pos (by rw [hl]; exact h)])
    rw [HV.out] at HI
    go_enter Try.func117, Try.ntmps117
    go_wp2_with fail
    refine (HI.out _).mono ?_
    rintro e w' ⟨rfl, rfl⟩
    go_wp2_with fail
    go_ret3
    exact ⟨⟨false, by unfold partA partB; rw [h]; simp; rfl⟩, Below.refl _ _⟩
  · obtain ⟨k, hk⟩ : ∃ k, k = zN s := ⟨_, rfl⟩
    have HV := Lib.hid (show Lib.indexByte s.data.toList 0 = (k : Int) by rw [ixB, if_neg (by rw [hl]; exact h), hk]; rfl)
    rw [HV.out] at HI
    have d1 : decide ((0 : Int) ≤ (k : Int)) = true := decide_eq_true (by omega)
    have c0 : (0 : Int) ≤ (k : Int) := by omega
    have c1 : (k : Int) ≤ (s.size : Int) := by omega
    have c2 : (0 : Int) ≤ (k : Int) + 1 := by omega
    have c3 : (k : Int) + 1 ≤ (s.size : Int) := by omega
    have hw : IntKind.i64.wrap ((k : Int) + 1) = (k : Int) + 1 := IntWalk.i64_in _ (by omega)
    have HK := Lib.hid hk
    clear hk h hle
    go_enter Try.func117, Try.ntmps117
    go_wp2_with fail
    refine (HI.out _).mono ?_
    rintro e w' ⟨rfl, rfl⟩
    go_wp2_with fail
    go_region
    go_wp2_with fail
    go_ret3
    exact ⟨⟨true, by unfold partA partB; rw [← HK.out]; rfl⟩, (Below.refl _ _).drew⟩
set_option maxRecDepth 100000 in
theorem scut_any (s : ByteArray) (w : World) (hs : s.size ≤ 1000000) :
    Calls Try.prog 60 #[.string s, .string ⟨#[0]⟩] w fun e w' => (∃ b, e = .returned (.tuple #[.string (partA s), .string (partB s), .bool b])) ∧ Below w.heap.size w w' := by
  have HI := Lib.hid (fun W : World => lcut_any s W hs)
  generalize partA s = pa at *
  generalize partB s = pb at *
  go_enter Try.func60, Try.ntmps60
  go_wp2_with fail
  refine (HI.out _).mono ?_
  rintro e w' ⟨⟨b, rfl⟩, hb⟩
  have HB := Lib.hid hb
  clear hb
  go_wp2_with fail
  go_ret3
  exact ⟨⟨b, rfl⟩, HB.out⟩
set_option maxRecDepth 100000 in
theorem fparted_any (s : ByteArray) (w : World) (hs : s.size ≤ 1000000) :
    Calls Try.prog 38 #[.string s] w fun e w' => e = .returned (.tuple #[.string (partA s), .string (partB s)]) ∧ Below w.heap.size w w' := by
  have HI := Lib.hid (fun W : World => scut_any s W hs)
  generalize partA s = pa at *
  generalize partB s = pb at *
  go_enter Try.func38, Try.ntmps38
  go_wp2_with fail
  refine (HI.out _).mono ?_
  rintro e w' ⟨⟨b, rfl⟩, hb⟩
  have HB := Lib.hid hb
  clear hb
  go_wp2_with fail
  go_ret2
  exact ⟨rfl, HB.out⟩
end Go.Proofs.Ytjnichiblljmjaa
