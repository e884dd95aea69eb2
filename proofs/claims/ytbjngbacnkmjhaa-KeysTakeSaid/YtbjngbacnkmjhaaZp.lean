/- Plain facts: what is read of bytes at whose front numbers and texts stand, and what was read is what stands there. No condition. -/
import Derived.Test.YtbjngbacnkmjhaaVi
import Derived.Test.YtbjngbacnkmjhaaVm
import Derived.Test.YtbjngbacnkmjhaaVd
import Derived.Test.YtbjngbacnkmjhaaSp
namespace Go.Proofs.Ytbjngbacnkmjhaa.Zp
open Go.RowKit Vi

theorem ba_ext {a b : ByteArray} (h : a.data.toList = b.data.toList) : a = b := by
  apply ByteArray.ext
  exact Array.toList_inj.1 h
theorem ba_len (a : ByteArray) : a.data.toList.length = a.size := by simp
theorem ba_app (a b : ByteArray) : (a ++ b).data.toList = a.data.toList ++ b.data.toList := by simp
theorem ba_from (s : ByteArray) (p : Nat) : (s.extract p s.size).data.toList = s.data.toList.drop p := by
  rw [ByteArray.data_extract, Array.toList_extract]
  simp only [List.extract]
  exact List.take_of_length_le (by simp)
theorem ba_upto (s : ByteArray) (n : Nat) : (s.extract 0 n).data.toList = s.data.toList.take n := by
  rw [ByteArray.data_extract, Array.toList_extract]
  simp [List.extract]
theorem gb_some {l : List UInt8} (h : gb l = true) : ∃ t, l = put (gn l) ++ t ∧ gk l = (put (gn l)).length ∧ gn l < 18446744073709551616 := by
  unfold gb at h
  cases hg : get l with
  | none => rw [hg] at h; cases h
  | some p =>
    obtain ⟨m, k⟩ := p
    have h1 := get_some hg
    unfold gn gk
    rw [hg]
    exact h1
theorem num_is (S : ByteArray) (q m : Nat) (n : Int) (t : List UInt8) (h : S.data.toList.drop q = put m ++ t) (hm : m < 18446744073709551616) (hn : (m : Int) ≤ n) : Rd.num S q 0 n = ((m : Int), q + (put m).length, 0) := by
  have hg := get_put m t hm
  have e1 : gn (put m ++ t) = m := by unfold gn; rw [hg]
  have e2 : gk (put m ++ t) = (put m).length := by unfold gk; rw [hg]
  have e3 : gb (put m ++ t) = true := by unfold gb; rw [hg]
  unfold Rd.num
  rw [h, e1, e2, e3, if_neg (by simp), if_neg (by simp), if_neg (by omega)]
theorem num_of (S : ByteArray) (q : Nat) (er n v : Int) (q' : Nat) (h : Rd.num S q er n = (v, q', 0)) :
    er = 0 ∧ ∃ m : Nat, v = m ∧ q' = q + (put m).length ∧ S.data.toList.drop q = put m ++ S.data.toList.drop q' ∧ (m : Int) ≤ n := by
  unfold Rd.num at h
  by_cases he : er = 0
  · subst he
    rw [if_neg (by simp)] at h
    by_cases hb : gb (S.data.toList.drop q) = true
    · rw [if_neg (by simp [hb])] at h
      by_cases hm : n < 0 ∨ n < gn (S.data.toList.drop q)
      · rw [if_pos hm] at h
        simp at h
      · rw [if_neg hm] at h
        simp only [Prod.mk.injEq, and_true] at h
        obtain ⟨h1, h2⟩ := h
        obtain ⟨t, ht, hk, _⟩ := gb_some hb
        refine ⟨rfl, gn (S.data.toList.drop q), h1.symm, by rw [← h2, hk], ?_, by omega⟩
        rw [← h2, ← List.drop_drop, hk]
        generalize gn (S.data.toList.drop q) = m at ht
        have e := congrArg (List.drop (put m).length) ht
        rw [List.drop_left] at e
        rw [e]
        exact ht
    · rw [if_pos (by simpa using hb)] at h
      simp at h
  · rw [if_pos he] at h
    simp only [Prod.mk.injEq] at h
    exact absurd h.2.2 he
theorem fix_is (S : ByteArray) (q : Nat) (x : ByteArray) (t : List UInt8) (hq : q ≤ S.size) (h : S.data.toList.drop q = x.data.toList ++ t) : Rd.fix S q 0 (x.size : Int) = (x, q + x.size, 0) := by
  have hl := congrArg List.length h
  simp only [List.length_drop, List.length_append, ba_len] at hl
  unfold Rd.fix
  rw [if_neg (by simp), if_neg (by omega)]
  have e : (S.extract q S.size).extract 0 (x.size : Int).toNat = x := by
    apply ba_ext
    rw [ba_upto, ba_from, h, show (x.size : Int).toNat = x.data.toList.length by rw [ba_len]; omega, List.take_left]
  rw [e]
  rfl
theorem fix_of (S : ByteArray) (q : Nat) (er n : Int) (x : ByteArray) (q' : Nat) (hq : q ≤ S.size) (h : Rd.fix S q er n = (x, q', 0)) :
    er = 0 ∧ n = (x.size : Int) ∧ q' = q + x.size ∧ S.data.toList.drop q = x.data.toList ++ S.data.toList.drop q' := by
  unfold Rd.fix at h
  by_cases he : er = 0
  · subst he
    rw [if_neg (by simp)] at h
    by_cases hn : n < 0 ∨ (S.size : Int) - q < n
    · rw [if_pos hn] at h
      simp at h
    · rw [if_neg hn] at h
      simp only [Prod.mk.injEq, and_true] at h
      obtain ⟨h1, h2⟩ := h
      have hx : x.size = n.toNat := by
        rw [← h1, ByteArray.size_extract, ByteArray.size_extract]
        omega
      refine ⟨rfl, by omega, by omega, ?_⟩
      rw [← h2, ← List.drop_drop, ← h1, ba_upto, ba_from, List.take_append_drop]
  · rw [if_pos he] at h
    simp only [Prod.mk.injEq] at h
    exact absurd h.2.2 he
theorem text_is (S : ByteArray) (q : Nat) (n : Int) (x : ByteArray) (t : List UInt8) (h : S.data.toList.drop q = put x.size ++ (x.data.toList ++ t)) (hx : x.size < 18446744073709551616) (hn : (x.size : Int) ≤ n) :
    Rd.text S q 0 n = (x, q + (put x.size).length + x.size, 0) := by
  have hl := congrArg List.length h
  simp only [List.length_drop, List.length_append, ba_len] at hl
  unfold Rd.text
  rw [num_is S q x.size n _ h hx hn]
  refine fix_is S (q + (put x.size).length) x t ?_ ?_
  · by_cases hq : q ≤ S.size
    · omega
    · have : 1 ≤ (put x.size).length := by unfold put; rw [leb]; split <;> simp
      omega
  · rw [← List.drop_drop, h, List.drop_left]
theorem text_of (S : ByteArray) (q : Nat) (er n : Int) (x : ByteArray) (q' : Nat) (hq : q ≤ S.size) (h : Rd.text S q er n = (x, q', 0)) :
    er = 0 ∧ (x.size : Int) ≤ n ∧ q' = q + (put x.size).length + x.size ∧ S.data.toList.drop q = put x.size ++ (x.data.toList ++ S.data.toList.drop q') := by
  unfold Rd.text at h
  obtain ⟨v, q1, e1, hR⟩ : ∃ v q1 e1, Rd.num S q er n = (v, q1, e1) := ⟨_, _, _, rfl⟩
  have hq1 := Rd.num_le S q er n hq
  rw [hR] at h hq1
  obtain ⟨h1, h2, h3, h4⟩ := fix_of S q1 e1 v x q' hq1 h
  subst h1
  obtain ⟨k1, m, k2, k3, k4, k5⟩ := num_of S q er n v q1 hR
  have hm : m = x.size := by omega
  subst hm
  exact ⟨k1, k5, by omega, by rw [k4, h4]⟩
theorem fin_of (S : ByteArray) (q : Nat) (er : Int) (h : Rd.fin S q er = 0) : er = 0 ∧ S.data.toList.drop q = [] := by
  unfold Rd.fin at h
  by_cases he : er = 0
  · refine ⟨he, ?_⟩
    rw [if_neg (by simpa using he)] at h
    by_cases hq : q < S.size
    · rw [if_pos hq] at h; exact absurd h (by decide)
    · exact List.drop_eq_nil_of_le (by rw [ba_len]; omega)
  · rw [if_pos he] at h; exact absurd h he
theorem fin_is (S : ByteArray) (q : Nat) (h : S.data.toList.drop q = []) : Rd.fin S q 0 = 0 := by
  have hl := congrArg List.length h
  simp only [List.length_drop, ba_len, List.length_nil] at hl
  unfold Rd.fin
  rw [if_neg (by simp), if_neg (by omega)]
theorem num_er (S : ByteArray) (q : Nat) (er n : Int) (he : er ≠ 0) : Rd.num S q er n = (0, q, er) := by unfold Rd.num; rw [if_pos he]

/-! ### a sector -/
/-- has a sector a text at its front, and noughts alone behind? -/
theorem byte_is (S : ByteArray) (q : Nat) (c : UInt8) (t : List UInt8) (h : S.data.toList.drop q = c :: t) : Rd.byte S q 0 = ((c.toNat : Int), q + 1, 0) := by
  have hl := congrArg List.length h
  rw [List.length_drop, ba_len, List.length_cons] at hl
  have hq : q < S.size := by omega
  have hc : S[q] = c := by
    have h1 : (S.data.toList.drop q)[0]? = some c := by rw [h]; rfl
    rw [List.getElem?_drop, Nat.add_zero] at h1
    have h2 : S.data.toList[q]? = some S[q] := by
      rw [List.getElem?_eq_getElem (by rw [ba_len]; exact hq)]; rfl
    rw [h2] at h1
    exact Option.some.inj h1
  unfold Rd.byte
  rw [if_neg (by simp), dif_pos hq, hc]
theorem byte_of (S : ByteArray) (q : Nat) (er v : Int) (q' : Nat) (h : Rd.byte S q er = (v, q', 0)) :
    er = 0 ∧ ∃ c : UInt8, v = (c.toNat : Int) ∧ q' = q + 1 ∧ S.data.toList.drop q = c :: S.data.toList.drop q' := by
  unfold Rd.byte at h
  by_cases he : er = 0
  · subst he
    rw [if_neg (by simp)] at h
    by_cases hq : q < S.size
    · rw [dif_pos hq] at h
      simp only [Prod.mk.injEq, and_true] at h
      obtain ⟨h1, h2⟩ := h
      refine ⟨rfl, S[q], h1.symm, h2.symm, ?_⟩
      rw [← h2, List.drop_eq_getElem_cons (by rw [ba_len]; exact hq)]
      rfl
    · rw [dif_neg hq] at h
      simp at h
  · rw [if_pos he] at h
    simp only [Prod.mk.injEq] at h
    exact absurd h.2.2 he
theorem zag_zig (n : Int) : zag (zig n) = n := by
  unfold zag zig
  split
  · split <;> omega
  · split <;> omega
theorem zig_zag (u : Nat) : zig (zag u) = u := by
  unfold zag zig
  split
  · rw [if_neg (by omega)]; omega
  · rw [if_pos (by omega)]; omega
theorem zig_lt (n : Int) (h0 : -9223372036854775808 ≤ n) (h1 : n ≤ 9223372036854775807) : zig n < 18446744073709551616 := by
  unfold zig; split <;> omega
theorem zag_bd (u : Nat) (h : u < 18446744073709551616) : -9223372036854775808 ≤ zag u ∧ zag u ≤ 9223372036854775807 := by
  unfold zag; split <;> omega
theorem int_is (S : ByteArray) (q : Nat) (n : Int) (t : List UInt8) (h : S.data.toList.drop q = put (zig n) ++ t) (h0 : -9223372036854775808 ≤ n) (h1 : n ≤ 9223372036854775807) : Rd.int S q 0 = (n, q + (put (zig n)).length, 0) := by
  have hg := get_put (zig n) t (zig_lt n h0 h1)
  have e1 : gn (put (zig n) ++ t) = zig n := by unfold gn; rw [hg]
  have e2 : gk (put (zig n) ++ t) = (put (zig n)).length := by unfold gk; rw [hg]
  have e3 : gb (put (zig n) ++ t) = true := by unfold gb; rw [hg]
  unfold Rd.int
  rw [h, e1, e2, e3, if_neg (by simp), if_neg (by simp), zag_zig]
theorem int_of (S : ByteArray) (q : Nat) (er v : Int) (q' : Nat) (h : Rd.int S q er = (v, q', 0)) :
    er = 0 ∧ q' = q + (put (zig v)).length ∧ S.data.toList.drop q = put (zig v) ++ S.data.toList.drop q' ∧ -9223372036854775808 ≤ v ∧ v ≤ 9223372036854775807 := by
  unfold Rd.int at h
  by_cases he : er = 0
  · subst he
    rw [if_neg (by simp)] at h
    by_cases hb : gb (S.data.toList.drop q) = true
    · rw [if_neg (by simp [hb])] at h
      simp only [Prod.mk.injEq, and_true] at h
      obtain ⟨h1, h2⟩ := h
      obtain ⟨t, ht, hk, hlt⟩ := gb_some hb
      have hz : zig v = gn (S.data.toList.drop q) := by rw [← h1, zig_zag]
      refine ⟨rfl, by rw [hz, ← h2, hk], ?_, by rw [← h1]; exact zag_bd _ hlt⟩
      rw [hz, ← h2, ← List.drop_drop, hk]
      generalize gn (S.data.toList.drop q) = m at ht
      have e := congrArg (List.drop (put m).length) ht
      rw [List.drop_left] at e
      rw [e]
      exact ht
    · rw [if_pos (by simpa using hb)] at h
      simp at h
  · rw [if_pos he] at h
    simp only [Prod.mk.injEq] at h
    exact absurd h.2.2 he
end Go.Proofs.Ytbjngbacnkmjhaa.Zp
