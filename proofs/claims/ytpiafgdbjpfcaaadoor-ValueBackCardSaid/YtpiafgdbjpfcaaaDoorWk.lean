/- Plain facts: what Take answers of a value's bytes, and of which bytes it answers a value. No condition. -/
import Derived.Test.YtpiafgdbjpfcaaaDoorWs
import Derived.Test.YtpiafgdbjpfcaaaDoorWp
import Derived.Test.YtpiafgdbjpfcaaaDoorZp
namespace Go.Proofs.YtpiafgdbjpfcaaaDoor
open Go.RowKit Vi Hm

theorem vput_list (k n : Int) (t : ByteArray) (hv : vok k n t = true) : (vput k n t).data.toList = UInt8.ofNat (k % 256).toNat :: (vrest k n t).data.toList := by
  unfold vput
  rw [if_pos hv, app_data]; rfl
theorem tk_good {S : ByteArray} {k n : Int} {t : ByteArray} {q : Nat} (hM : rvM S 0 0 = (k, n, t, q, 0)) (hv : vok k n t = true) (hq : S.data.toList.drop q = []) : tkE S = 0 ∧ tkV S = (k, n, t) := by
  obtain ⟨r1, r2⟩ := rv_good hM hv
  have he : tkE S = 0 := by unfold tkE; rw [r1, hM]; exact Zp.fin_is S q hq
  exact ⟨he, by unfold tkV; rw [if_pos he, r2]⟩
theorem byte0 (S : ByteArray) (c : UInt8) (r : List UInt8) (h : S.data.toList = c :: r) (k : Int) (hk : (c.toNat : Int) = k) : Rd.byte S 0 0 = (k, 1, 0) := by
  rw [← hk]; exact Zp.byte_is S 0 c r h
theorem tk_is (k n : Int) (t : ByteArray) (h0 : -9223372036854775808 ≤ n) (h1 : n ≤ 9223372036854775807) (hv : vok k n t = true) : tkE (vput k n t) = 0 ∧ tkV (vput k n t) = (k, n, t) := by
  have hl := vput_list k n t hv
  generalize vput k n t = S at hl
  have hd : S.data.toList.drop 1 = (vrest k n t).data.toList := by rw [hl]; rfl
  have one : ∀ m : UInt8, S.data.toList = [1, m] → (m.toNat : Int) = n → vok 1 n ⟨#[]⟩ = true → tkE S = 0 ∧ tkV S = (1, n, ⟨#[]⟩) := by
    intro m hm hn hv
    have b1 := Zp.byte_is S 1 m [] (by rw [hm]; rfl)
    rw [hn] at b1
    have hM : rvM S 0 0 = (1, n, ⟨#[]⟩, 2, 0) := by
      rw [rvM_is (byte0 S 1 _ hm 1 rfl), if_pos rfl, b1]
    exact tk_good hM hv (by rw [hm]; rfl)
  rcases vok_cases hv with ⟨rfl, rfl, rfl⟩ | ⟨rfl, rfl, rfl⟩ | ⟨rfl, rfl⟩ | ⟨rfl, rfl, ht⟩
  · exact one 0 (by rw [hl]; rfl) rfl hv
  · exact one 1 (by rw [hl]; rfl) rfl hv
  · have e : (vrest 2 n ⟨#[]⟩).data.toList = put (zig n) := by
      unfold vrest; rw [if_neg (by decide), if_pos rfl]
    rw [e] at hd
    have b1 := Zp.int_is S 1 n [] (by rw [hd]; simp) h0 h1
    have hM : rvM S 0 0 = (2, n, ⟨#[]⟩, 1 + (put (zig n)).length, 0) := by
      rw [rvM_is (byte0 S 2 _ hl 2 rfl), if_neg (by decide), if_pos rfl, b1]
    refine tk_good hM hv ?_
    rw [← List.drop_drop, hd, List.drop_length]
  · have e : (vrest 3 0 t).data.toList = put t.size ++ t.data.toList := by
      unfold vrest; rw [if_neg (by decide), if_neg (by decide), app_data]
    rw [e] at hd
    have b1 := Zp.text_is S 1 64 t [] (by rw [hd]; simp) (by omega) (by omega)
    obtain ⟨v, q', e', hb⟩ : ∃ a b c, Rd.text S 1 0 64 = (a, b, c) := ⟨_, _, _, rfl⟩
    have b2 := b1
    rw [hb] at b2
    simp only [Prod.mk.injEq] at b2
    obtain ⟨rfl, hq, rfl⟩ := b2
    have hM : rvM S 0 0 = (3, 0, v, q', 0) := by
      rw [rvM_is (byte0 S 3 _ hl 3 rfl), if_neg (by decide), if_neg (by decide), if_pos rfl, hb]
    refine tk_good hM hv ?_
    have hlen := congrArg List.length hd
    have hsl : S.data.toList.length = S.size := by simp
    rw [List.length_drop, List.length_append] at hlen
    apply List.drop_eq_nil_of_le
    have hvl : v.data.toList.length = v.size := by simp
    have hpl : 1 ≤ (put v.size).length := by unfold put; rw [leb]; split <;> simp
    omega
theorem u8_back (c : UInt8) (k : Int) (h : k = (c.toNat : Int)) : UInt8.ofNat (k % 256).toNat = c := by
  subst h
  have := c.toNat_lt
  rw [show ((c.toNat : Int) % 256).toNat = c.toNat by omega]
  exact UInt8.ofNat_toNat
theorem tk_of (S : ByteArray) (k n : Int) (t : ByteArray) (he : tkE S = 0) (hV : tkV S = (k, n, t)) :
    vok k n t = true ∧ vput k n t = S ∧ -9223372036854775808 ≤ n ∧ n ≤ 9223372036854775807 ∧ t.size ≤ 64 := by
  unfold tkV at hV
  rw [if_pos he] at hV
  unfold tkE at he
  obtain ⟨e1, e2⟩ := Zp.fin_of S _ _ he
  unfold rvV at hV
  rw [if_pos e1] at hV
  have hv : vok (rvM S 0 0).1 (rvM S 0 0).2.1 (rvM S 0 0).2.2.1 = true := by
    cases h : vok (rvM S 0 0).1 (rvM S 0 0).2.1 (rvM S 0 0).2.2.1 with
    | true => rfl
    | false =>
      unfold rvE at e1
      rw [if_neg (by rw [h]; simp)] at e1
      exact absurd e1 (fail_ne _)
  unfold rvE at e1
  rw [if_pos hv] at e1
  obtain ⟨k', q1, e1', hb⟩ : ∃ a b c, Rd.byte S 0 0 = (a, b, c) := ⟨_, _, _, rfl⟩
  have hM := rvM_is hb
  simp only [Prod.mk.injEq] at hV
  obtain ⟨rfl, rfl, rfl⟩ := hV
  have hb0 : S.data.toList.drop 0 = S.data.toList := rfl
  by_cases k1 : k' = 1
  · subst k1
    rw [if_pos rfl] at hM
    obtain ⟨m, q2, e3, hb2⟩ : ∃ a b c, Rd.byte S q1 e1' = (a, b, c) := ⟨_, _, _, rfl⟩
    rw [hb2] at hM
    rw [hM] at hv e1 e2 ⊢
    dsimp only at hv e1 e2 ⊢
    subst e1
    obtain ⟨rfl, c2, rfl, rfl, h2⟩ := Zp.byte_of S q1 _ _ _ hb2
    obtain ⟨_, c1, hc1, rfl, h1⟩ := Zp.byte_of S 0 _ _ _ hb
    refine ⟨hv, ?_, by omega, by have := c2.toNat_lt; omega, by decide⟩
    apply ba_ext
    rw [vput_list _ _ _ hv, u8_back c1 1 hc1]
    rw [h2, e2] at h1
    rw [hb0] at h1
    rw [h1]
    unfold vrest
    rw [if_pos rfl, u8_back c2 _ rfl]
  · rw [if_neg k1] at hM
    by_cases k2 : k' = 2
    · subst k2
      rw [if_pos rfl] at hM
      obtain ⟨m, q2, e3, hb2⟩ : ∃ a b c, Rd.int S q1 e1' = (a, b, c) := ⟨_, _, _, rfl⟩
      rw [hb2] at hM
      rw [hM] at hv e1 e2 ⊢
      dsimp only at hv e1 e2 ⊢
      subst e1
      obtain ⟨rfl, rfl, h2, r0, r1⟩ := Zp.int_of S q1 _ _ _ hb2
      obtain ⟨_, c1, hc1, rfl, h1⟩ := Zp.byte_of S 0 _ _ _ hb
      refine ⟨hv, ?_, r0, r1, by decide⟩
      apply ba_ext
      rw [vput_list _ _ _ hv, u8_back c1 2 hc1]
      rw [h2, e2, hb0] at h1
      rw [h1]
      unfold vrest
      rw [if_neg (by decide), if_pos rfl]
      simp
    · rw [if_neg k2] at hM
      by_cases k3 : k' = 3
      · subst k3
        rw [if_pos rfl] at hM
        obtain ⟨m, q2, e3, hb2⟩ : ∃ a b c, Rd.text S q1 e1' 64 = (a, b, c) := ⟨_, _, _, rfl⟩
        rw [hb2] at hM
        rw [hM] at hv e1 e2 ⊢
        dsimp only at hv e1 e2 ⊢
        subst e1
        have hq1 : q1 ≤ S.size := by
          have := Rd.byte_le S 0 0 (Nat.zero_le _)
          rw [hb] at this
          exact this
        obtain ⟨rfl, _, _, hT⟩ := Zp.text_of S q1 _ _ _ _ hq1 hb2
        obtain ⟨_, c1, hc1, rfl, h1⟩ := Zp.byte_of S 0 _ _ _ hb
        have hm : m.size ≤ 64 := by
          rcases vok_cases hv with ⟨h, _⟩ | ⟨h, _⟩ | ⟨h, _⟩ | ⟨_, _, h⟩
          · exact absurd h (by decide)
          · exact absurd h (by decide)
          · exact absurd h (by decide)
          · exact h
        refine ⟨hv, ?_, by omega, by omega, hm⟩
        apply ba_ext
        rw [vput_list _ _ _ hv, u8_back c1 3 hc1]
        have h2 : S.data.toList.drop (0 + 1) = put m.size ++ (m.data.toList ++ S.data.toList.drop q2) := hT
        rw [h2, e2, hb0] at h1
        rw [h1]
        unfold vrest
        rw [if_neg (by decide), if_neg (by decide), app_data]
        simp
      · rw [if_neg k3] at hM
        rw [hM] at hv
        unfold vok at hv
        dsimp only at hv
        rw [if_neg k1, if_neg k2] at hv
        simp [k3] at hv
end Go.Proofs.YtpiafgdbjpfcaaaDoor
