/- The contracts of frame.All and of the statements' Texts over this translation. Conditions: bytes of at most eighty thousand; the table of crc. -/
import Derived.Test.YtjmfmbokphagaaaDoorGe
import Derived.Test.YtjmfmbokphagaaaDoorGw
namespace Go.Proofs.YtjmfmbokphagaaaDoor
open Go.RowKit Vi Cm

set_option maxRecDepth 100000 in
set_option maxHeartbeats 800000 in
theorem ttexts_same (a : Option Addr) (ca : Nat) (b : Option Addr) (cb len : Nat) (ss : List ByteArray) (w : World) (ha : StrS w a len ss) (hb : StrS w b len ss) (hlm : len ≤ 1000000) :
    Calls Tryd.prog 43 #[.slice a len ca, .slice b len cb] w fun e w' => e = .returned (.bool true) ∧ ∃ q, w' = w.drewN q := by
  have HA := Lib.hid ha.2
  have HB := Lib.hid hb.2
  have HL := Lib.hid ha.1
  clear ha hb
  go_enter Tryd.func43, Tryd.ntmps43
  go_wp2
  go_loopw [5, 13] (fun _ i wr => ∃ k : Nat, k ≤ len ∧ i = .int .i64 (k : Int) ∧ ∃ q, wr = w.drewN q) (fun _ i _ => len - (intOf i).toNat)
  case atStart => exact ⟨0, Nat.zero_le _, rfl, 0, rfl⟩
  case round =>
    obtain ⟨k, hk, rfl, q, rfl⟩ := hrel
    by_cases hlt : k < len
    · obtain ⟨b1, o1, rfl, h1⟩ := HA.out (by omega)
      obtain ⟨b2, o2, rfl, h2⟩ := HB.out (by omega)
      have hkn : k < ss.length := by rw [HL.out]; exact hlt
      have c1 := h1 k hkn
      have c2 := h2 k hkn
      clear h1 h2
      generalize ss[k] = s at c1 c2
      have hi0 : (0 : Int) ≤ (k : Int) := by omega
      have hi1 : (k : Int) < (len : Int) := by omega
      have hne : (s.toList != s.toList) = false := by simp
      go_wp2_with fail
      go_quiet (fail)
      go_wp2
      go_roundw
      case rel => exact ⟨k + 1, by omega, by go_num, _, rfl⟩
      case measure => simp [intOf]; omega
    · go_wp2
      go_ret
      exact ⟨rfl, q, rfl⟩
theorem ttexts_below (a : Option Addr) (ca : Nat) (b : Option Addr) (cb len : Nat) (ss : List ByteArray) (w : World) (ha : StrS w a len ss) (hb : StrS w b len ss) (hlm : len ≤ 1000000) :
    Calls Tryd.prog 43 #[.slice a len ca, .slice b len cb] w fun e w' => e = .returned (.bool true) ∧ Below w.heap.size w w' :=
  (ttexts_same a ca b cb len ss w ha hb hlm).mono fun e w' ⟨he, q, hq⟩ => ⟨he, by rw [hq]; exact ⟨rfl, rfl, rfl, Nat.le_refl _, fun _ _ => rfl⟩⟩
/-- what All answers, where all of it is frames -/
def RetA (w : World) (L : List ByteArray) (e : Ending) (w' : World) : Prop := ∃ a c, e = .returned (.tuple #[.slice a L.length c, .int .i64 0]) ∧ StrS w' a L.length L ∧ Below w.heap.size w w'
set_option maxHeartbeats 800000 in
set_option maxRecDepth 100000 in
theorem all_yes (S : ByteArray) (w : World) (hS : S.size ≤ 80000) (hT : Tab w) (h : (wh S).2 = S.size) :
    Calls Tryd.prog 42 #[.string S] w (RetA w (wh S).1) := by
  have HW := Lib.hid (whole_any S w hS hT)
  rw [h] at HW
  obtain ⟨L, hL⟩ : ∃ L, (wh S).1 = L := ⟨_, rfl⟩
  rw [hL] at HW ⊢
  clear hT h hL
  go_enter Tryd.func42, Tryd.ntmps42
  go_wp2_with fail
  refine HW.out.mono ?_
  rintro e w1 ⟨a, c, rfl, h1, h2, h3, h4⟩
  have HF := Lib.hid (show RetA w L (.returned (.tuple #[.slice a L.length c, .int .i64 0])) w1 from ⟨a, c, rfl, h1, h4⟩)
  clear h1 h2 h3 h4 HW
  go_wp2_with fail
  go_ret2
  exact HF.out
set_option maxHeartbeats 800000 in
set_option maxRecDepth 100000 in
theorem all_no (S : ByteArray) (w : World) (hS : S.size ≤ 80000) (hT : Tab w) (h : (wh S).2 ≠ S.size) :
    Calls Tryd.prog 42 #[.string S] w fun e w' => e = .returned (.tuple #[.slice none 0 0, .int .i64 3]) ∧ Below w.heap.size w w' := by
  have HW := Lib.hid (whole_any S w hS hT)
  obtain ⟨L, hL⟩ : ∃ L, (wh S).1 = L := ⟨_, rfl⟩
  obtain ⟨n, hn⟩ : ∃ n, (wh S).2 = n := ⟨_, rfl⟩
  rw [hL, hn] at HW
  rw [hn] at h
  have hd : ((n : Int) == (S.size : Int)) = false := by rw [beq_eq_false_iff_ne]; omega
  have hd2 : ((n : Int) != (S.size : Int)) = true := by rw [bne, hd]; rfl
  clear hT h hL hn
  go_enter Tryd.func42, Tryd.ntmps42
  go_wp2_with fail
  refine HW.out.mono ?_
  rintro e w1 ⟨a, c, rfl, h1, h2, h3, h4⟩
  have HB := Lib.hid h4
  clear h1 h2 h3 h4 HW
  go_wp2_with fail
  go_ret2
  exact ⟨rfl, HB.out⟩
/-- how far the texts at the front reach -/
theorem whN_le : ∀ (f : Nat) (S : ByteArray) (p : Nat), p ≤ S.size → (whN f S p).2 ≤ S.size
  | 0, S, p, h => h
  | f + 1, S, p, h => by
    obtain ⟨t, q, e, hR⟩ : ∃ t q e, fr (S.extract p S.size) 0 0 = (t, q, e) := ⟨_, _, _, rfl⟩
    by_cases he : e = 0
    · subst he
      obtain ⟨h1, h2, h3⟩ := fr_pos _ t q hR
      rw [ext_sz] at h2
      rw [whN_yes f S p t q hR]
      exact whN_le f S (p + q) (by omega)
    · rw [whN_no f S p t q e hR he]
      exact h
theorem whN_len : ∀ (f : Nat) (S : ByteArray) (p : Nat), p ≤ S.size → p + (whN f S p).1.length ≤ S.size
  | 0, S, p, h => h
  | f + 1, S, p, h => by
    obtain ⟨t, q, e, hR⟩ : ∃ t q e, fr (S.extract p S.size) 0 0 = (t, q, e) := ⟨_, _, _, rfl⟩
    by_cases he : e = 0
    · subst he
      obtain ⟨h1, h2, h3⟩ := fr_pos _ t q hR
      rw [ext_sz] at h2
      rw [whN_yes f S p t q hR]
      have := whN_len f S (p + q) (by omega)
      rw [List.length_cons]
      omega
    · rw [whN_no f S p t q e hR he]
      exact h
theorem wh_len (S : ByteArray) : (wh S).1.length ≤ S.size := by
  have := whN_len (S.size + 1) S 0 (Nat.zero_le _)
  unfold wh
  omega
theorem fr_err (S X : ByteArray) (q q1 : Nat) (er e : Int) (h : fr S q er = (X, q1, e)) (he : e ≠ 0) : X = ⟨#[]⟩ := by
  obtain ⟨u, q2, e1, hR⟩ : ∃ u q1 e1, Rd.text S q er 65540 = (u, q1, e1) := ⟨_, _, _, rfl⟩
  by_cases hs : sealed u = true ∧ 4 < u.size
  · have hy := h.symm.trans (fr_good S q er u q2 e1 hR hs)
    simp only [Prod.mk.injEq] at hy
    have hu := rdtext_err S q er _ u q2 e1 hR (by rw [← hy.2.2]; exact he)
    rw [hu] at hs
    exact absurd hs.2 (by decide)
  · have hy := h.symm.trans (fr_bad S q er u q2 e1 hR hs)
    simp only [Prod.mk.injEq] at hy
    exact hy.1
theorem wh_le (S : ByteArray) : (wh S).2 ≤ S.size := whN_le _ S 0 (Nat.zero_le _)
end Go.Proofs.YtjmfmbokphagaaaDoor
