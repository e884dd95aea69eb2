/- Plain facts: decimal digits and what they count; the one value that a word shows. No condition. -/
import Derived.Test.YtpiafgdbjpfcaaaDoorWf
import Derived.Test.YtpiafgdbjpfcaaaDoorWz
import Derived.Lib.ItoaNum
import Derived.Lib.AtoiAllCases
namespace Go.Proofs.YtpiafgdbjpfcaaaDoor.Pv
open Go.Lib

theorem parse_app : ∀ (l r : List UInt8) (acc a : Nat), parseUint10 acc l = .ok a → parseUint10 acc (l ++ r) = parseUint10 a r
  | [], r, acc, a, h => by
    simp only [parseUint10] at h
    injection h with h
    rw [h]; rfl
  | c :: l, r, acc, a, h => by
    simp only [parseUint10, List.cons_append] at h ⊢
    split at h
    · rename_i h1
      rw [if_pos h1]
      split at h
      · cases h
      · rename_i h2
        rw [if_neg h2]
        split at h
        · cases h
        · rename_i h3
          rw [if_neg h3]
          exact parse_app l r _ a h
    · cases h
theorem dgt (k : Nat) (hk : k < 10) : (UInt8.ofNat (48 + k)).toNat = 48 + k := by
  rw [UInt8.toNat_ofNat', Nat.mod_eq_of_lt (by omega)]
theorem parse_one (a k : Nat) (hk : k < 10) (M : Nat) (hM : M = 18446744073709551616) (h : a * 10 + k < M) : parseUint10 a [UInt8.ofNat (48 + k)] = .ok (a * 10 + k) := by
  simp only [parseUint10]
  rw [dgt k hk, if_pos (by omega), if_neg (by omega), if_neg (by omega)]
  rw [show 48 + k - 48 = k by omega]
theorem parse_dec (M : Nat) (hM : M = 18446744073709551616) (u : Nat) (h : u < M) : parseUint10 0 (decDigits u) = .ok u := by
  induction u using Nat.strongRecOn with
  | _ u ih =>
    by_cases hs : u < 10
    · rw [decDigits, dif_pos hs, parse_one 0 u hs M hM (by omega)]
      simp
    · rw [decDigits, dif_neg hs, parse_app _ _ 0 (u / 10) (ih (u / 10) (by omega) (by omega)), parse_one _ _ (by omega) M hM (by omega)]
      congr 1
      omega
theorem dec_ne (u : Nat) : decDigits u ≠ [] := by
  rw [decDigits]; split <;> simp
theorem dec_digits (u : Nat) : ∀ c ∈ decDigits u, 48 ≤ c.toNat ∧ c.toNat ≤ 57 := by
  induction u using Nat.strongRecOn with
  | _ u ih =>
    intro c hc
    by_cases hs : u < 10
    · rw [decDigits, dif_pos hs] at hc
      obtain rfl := List.mem_singleton.1 hc
      rw [dgt u hs]; omega
    · rw [decDigits, dif_neg hs] at hc
      rcases List.mem_append.1 hc with h | h
      · exact ih _ (by omega) c h
      · obtain rfl := List.mem_singleton.1 h
        rw [dgt _ (by omega)]; omega
theorem mag_dec (u : Nat) (h : u < 18446744073709551616) : parseMag (decDigits u) = .ok u := by
  unfold parseMag
  rw [if_neg (dec_ne u)]
  exact parse_dec _ rfl u h
theorem atoi_itoa (n : Int) (h0 : -9223372036854775808 ≤ n) (h1 : n ≤ 9223372036854775807) : atoiAll (itoa n) = .ok n := by
  unfold itoa
  split
  · rw [atoiAll_minus, mag_dec _ (by omega)]
    simp only [signed]
    rw [if_neg (by omega)]
    congr 1
    omega
  · cases hd : decDigits n.toNat with
    | nil => exact absurd hd (dec_ne _)
    | cons c r =>
      have hc := dec_digits n.toNat c (by rw [hd]; simp)
      rw [atoiAll_plain c r (by omega) (by omega), ← hd, mag_dec _ (by omega)]
      simp only [signless]
      rw [if_neg (by omega)]
      congr 1
      omega
/-- what digits count -/
def dv (l : List UInt8) : Nat := l.foldl (fun a c => a * 10 + (c.toNat - 48)) 0
theorem dv_snoc (l : List UInt8) (c : UInt8) : dv (l ++ [c]) = dv l * 10 + (c.toNat - 48) := by
  unfold dv; rw [List.foldl_append]; rfl
theorem dv_dec (u : Nat) : dv (decDigits u) = u := by
  induction u using Nat.strongRecOn with
  | _ u ih =>
    by_cases hs : u < 10
    · rw [decDigits, dif_pos hs]
      show 0 * 10 + _ = _
      rw [dgt u hs]; omega
    · rw [decDigits, dif_neg hs, dv_snoc, ih _ (by omega), dgt _ (by omega)]
      omega
theorem fold_ge : ∀ (r : List UInt8) (a : Nat), a ≤ r.foldl (fun a c => a * 10 + (c.toNat - 48)) a
  | [], a => Nat.le_refl _
  | c :: r, a => Nat.le_trans (by omega) (fold_ge r (a * 10 + (c.toNat - 48)))
theorem dv_mono (l r : List UInt8) : dv l ≤ dv (l ++ r) := by
  unfold dv
  rw [List.foldl_append]
  exact fold_ge r _
theorem dv_take (u k : Nat) : dv ((decDigits u).take k) ≤ u := by
  have h := dv_mono ((decDigits u).take k) ((decDigits u).drop k)
  rw [List.take_append_drop, dv_dec] at h
  exact h
theorem dv_step (u k : Nat) (c : UInt8) (h : (decDigits u)[k]? = some c) : dv ((decDigits u).take (k + 1)) = dv ((decDigits u).take k) * 10 + (c.toNat - 48) ∧ 48 ≤ c.toNat ∧ c.toNat ≤ 57 := by
  obtain ⟨hl, hc⟩ := List.getElem?_eq_some_iff.1 h
  have hm := dec_digits u c (by rw [← hc]; exact List.getElem_mem hl)
  refine ⟨?_, hm⟩
  rw [List.take_succ_eq_append_getElem hl, dv_snoc, hc]
theorem dec_len : ∀ (f u : Nat), u < 10 ^ (f + 1) → (decDigits u).length ≤ f + 1
  | 0, u, h => by rw [decDigits, dif_pos (by simpa using h)]; simp
  | f + 1, u, h => by
    by_cases hs : u < 10
    · rw [decDigits, dif_pos hs]; simp
    · rw [decDigits, dif_neg hs, List.length_append]
      have := dec_len f (u / 10) (by rw [Nat.pow_succ] at h; omega)
      simp; omega
end Go.Proofs.YtpiafgdbjpfcaaaDoor.Pv
namespace Go.Proofs.YtpiafgdbjpfcaaaDoor
open Go.RowKit Vi Hm
theorem ba_ext {a b : ByteArray} (h : a.data.toList = b.data.toList) : a = b := by
  apply ByteArray.ext
  exact Array.ext' h
theorem ba_nil {t : ByteArray} (h : t.toList.isEmpty = true) : t = ⟨#[]⟩ := by
  have h1 : t.toList = [] := by simpa using h
  rw [Lib.toList_data] at h1
  exact ba_ext h1
def wT : ByteArray := ⟨#[116, 114, 117, 101]⟩
def wF : ByteArray := ⟨#[102, 97, 108, 115, 101]⟩
def unhexT (l : List UInt8) : ByteArray := match unhexL l with
  | some m => ⟨m.toArray⟩
  | none => ⟨#[]⟩
def atV (l : List UInt8) : Int := match Lib.atoiAll l with
  | .ok v => v
  | .syntax => 0
  | .range => Lib.atoiSat l
def gsV (S : ByteArray) : Int × Int × ByteArray :=
  if S = wT then (1, 1, ⟨#[]⟩) else if S = wF then (1, 0, ⟨#[]⟩) else if Lib.hasPrefix S.data.toList [39] = true then (3, 0, ⟨(S.data.toList.drop 1).toArray⟩)
  else if Lib.hasPrefix S.data.toList [35] = true then (3, 0, unhexT (S.data.toList.drop 1)) else (2, atV S.data.toList, ⟨#[]⟩)
theorem pre_cons (c b : UInt8) (r : List UInt8) : Lib.hasPrefix (c :: r) [b] = (b == c) := by
  simp [Lib.hasPrefix, List.isPrefixOf]
theorem vok_cases {k n : Int} {t : ByteArray} (h : vok k n t = true) : (k = 1 ∧ n = 0 ∧ t = ⟨#[]⟩) ∨ (k = 1 ∧ n = 1 ∧ t = ⟨#[]⟩) ∨ (k = 2 ∧ t = ⟨#[]⟩) ∨ (k = 3 ∧ n = 0 ∧ t.size ≤ 64) := by
  unfold vok at h
  split at h
  · rename_i k1
    rw [Bool.and_eq_true, Bool.or_eq_true] at h
    obtain ⟨h1, h2⟩ := h
    rcases h1 with h1 | h1
    · exact .inl ⟨k1, by simpa using h1, ba_nil h2⟩
    · exact .inr (.inl ⟨k1, by simpa using h1, ba_nil h2⟩)
  · split at h
    · rename_i k2
      exact .inr (.inr (.inl ⟨k2, ba_nil h⟩))
    · rw [Bool.and_eq_true, Bool.and_eq_true] at h
      obtain ⟨⟨h1, h2⟩, h3⟩ := h
      exact .inr (.inr (.inr ⟨by simpa using h1, by simpa using h2, by simpa using h3⟩))
theorem show_1 (n : Int) (b : Bool) (hb : (n == 1) = b) (hv : vok 1 n ⟨#[]⟩ = true) : vshow 1 n ⟨#[]⟩ = if b = true then wT else wF := by
  unfold vshow
  rw [if_pos hv, if_pos rfl, hb]; rfl
theorem show_2 (n : Int) : vshow 2 n ⟨#[]⟩ = ⟨(Lib.itoa n).toArray⟩ := by
  unfold vshow
  rw [if_pos (by unfold vok; rw [if_neg (by decide), if_pos rfl, Lib.toList_data]; rfl), if_neg (by decide), if_pos rfl]
theorem show_3 (t : ByteArray) (ht : t.size ≤ 64) : vshow 3 0 t = if plainB t.data.toList = true then ⟨#[39]⟩ ++ t else ⟨#[35]⟩ ++ ⟨(hexL t.data.toList).toArray⟩ := by
  unfold vshow
  rw [if_pos (by unfold vok; simp [ht]), if_neg (by decide), if_neg (by decide)]
theorem app_data (a b : ByteArray) : (a ++ b).data.toList = a.data.toList ++ b.data.toList := by simp
theorem ne_of_list {a b : ByteArray} (h : a.data.toList ≠ b.data.toList) : a ≠ b := fun e => h (by rw [e])
theorem gs_2 (S : ByteArray) (c : UInt8) (r : List UInt8) (hS : S.data.toList = c :: r) (hc : c.toNat ≤ 57) (h39 : c ≠ 39) (h35 : c ≠ 35) : gsV S = (2, atV S.data.toList, ⟨#[]⟩) := by
  unfold gsV
  rw [if_neg, if_neg, if_neg, if_neg]
  · rw [hS, pre_cons]; simpa using Ne.symm h35
  · rw [hS, pre_cons]; simpa using Ne.symm h39
  · apply ne_of_list; rw [hS]
    intro e
    injection e with e
    subst e
    revert hc; decide
  · apply ne_of_list; rw [hS]
    intro e
    injection e with e
    subst e
    revert hc; decide
theorem gs_39 (S : ByteArray) (r : List UInt8) (hS : S.data.toList = 39 :: r) : gsV S = (3, 0, ⟨r.toArray⟩) := by
  unfold gsV
  rw [if_neg, if_neg, if_pos]
  · rw [hS]; rfl
  · rw [hS, pre_cons]; rfl
  · apply ne_of_list; rw [hS]
    intro e
    injection e with e
    revert e; decide
  · apply ne_of_list; rw [hS]
    intro e
    injection e with e
    revert e; decide
theorem gs_35 (S : ByteArray) (r : List UInt8) (hS : S.data.toList = 35 :: r) : gsV S = (3, 0, unhexT r) := by
  unfold gsV
  rw [if_neg, if_neg, if_neg, if_pos]
  · rw [hS]; rfl
  · rw [hS, pre_cons]; rfl
  · rw [hS, pre_cons]; decide
  · apply ne_of_list; rw [hS]
    intro e
    injection e with e
    revert e; decide
  · apply ne_of_list; rw [hS]
    intro e
    injection e with e
    revert e; decide
theorem itoa_cons (n : Int) : ∃ c r, Lib.itoa n = c :: r ∧ c.toNat ≤ 57 ∧ c ≠ 39 ∧ c ≠ 35 := by
  unfold Lib.itoa
  split
  · exact ⟨45, _, rfl, by decide, by decide, by decide⟩
  · cases hd : Lib.decDigits n.toNat with
    | nil => exact absurd hd (Pv.dec_ne _)
    | cons c r =>
      have hc := Pv.dec_digits n.toNat c (by rw [hd]; simp)
      refine ⟨c, r, rfl, hc.2, ?_, ?_⟩
      · rintro rfl; have := hc.1; revert this; decide
      · rintro rfl; have := hc.1; revert this; decide
/-- the one value that a word shows is guessed -/
theorem gs_show (k n : Int) (t : ByteArray) (h0 : -9223372036854775808 ≤ n) (h1 : n ≤ 9223372036854775807) (hv : vok k n t = true) : gsV (vshow k n t) = (k, n, t) ∧ vshow k n t ≠ ⟨#[]⟩ := by
  rcases vok_cases hv with ⟨rfl, rfl, rfl⟩ | ⟨rfl, rfl, rfl⟩ | ⟨rfl, rfl⟩ | ⟨rfl, rfl, ht⟩
  · rw [show_1 0 false rfl hv, show (if false = true then wT else wF) = wF from rfl]
    exact ⟨by unfold gsV; rw [if_neg (by decide), if_pos rfl], by decide⟩
  · rw [show_1 1 true rfl hv, show (if true = true then wT else wF) = wT from rfl]
    exact ⟨by unfold gsV; rw [if_pos rfl], by decide⟩
  · rw [show_2]
    obtain ⟨c, r, hi, hc, hc1, hc2⟩ := itoa_cons n
    refine ⟨?_, ?_⟩
    · rw [gs_2 ⟨(Lib.itoa n).toArray⟩ c r (by simpa using hi) hc hc1 hc2]
      show (2, atV (Lib.itoa n).toArray.toList, _) = _
      rw [List.toList_toArray]
      unfold atV
      rw [Pv.atoi_itoa n h0 h1]
    · apply ne_of_list
      rw [show (⟨(Lib.itoa n).toArray⟩ : ByteArray).data.toList = c :: r by simpa using hi]
      intro e; cases e
  · rw [show_3 t ht]
    split
    · refine ⟨?_, ?_⟩
      · rw [gs_39 _ t.data.toList (by rw [app_data]; rfl)]
      · apply ne_of_list; rw [app_data]; intro e; cases e
    · refine ⟨?_, ?_⟩
      · rw [gs_35 _ (hexL t.data.toList) (by rw [app_data]; rfl)]
        unfold unhexT
        rw [unhex_hex]
      · apply ne_of_list; rw [app_data]; intro e; cases e
theorem show_no (k n : Int) (t : ByteArray) (hv : vok k n t = false) : vshow k n t = ⟨#[]⟩ := by unfold vshow; rw [if_neg (by rw [hv]; simp)]
theorem gs_range (S : ByteArray) : -9223372036854775808 ≤ (gsV S).2.1 ∧ (gsV S).2.1 ≤ 9223372036854775807 := by
  unfold gsV
  split
  · exact ⟨by show (_ : Int) ≤ 1; omega, by show (1 : Int) ≤ _; omega⟩
  split
  · exact ⟨by show (_ : Int) ≤ 0; omega, by show (0 : Int) ≤ _; omega⟩
  split
  · exact ⟨by show (_ : Int) ≤ 0; omega, by show (0 : Int) ≤ _; omega⟩
  split
  · exact ⟨by show (_ : Int) ≤ 0; omega, by show (0 : Int) ≤ _; omega⟩
  show _ ≤ atV _ ∧ atV _ ≤ _
  unfold atV
  split
  · rename_i h; exact Lib.atoiAll_bounds h
  · omega
  · unfold Lib.atoiSat; split <;> omega
theorem unhexT_size (l : List UInt8) : (unhexT l).size ≤ l.length := by
  unfold unhexT
  split
  · rename_i m h
    have := unhexL_len _ l m (Nat.le_refl _) h
    show m.toArray.size ≤ _
    rw [List.size_toArray]; omega
  · show 0 ≤ _; omega
theorem gs_size (S : ByteArray) : (gsV S).2.2.size ≤ S.size := by
  have hs : S.data.toList.length = S.size := by simp
  unfold gsV
  split
  · exact Nat.zero_le _
  split
  · exact Nat.zero_le _
  split
  · show (S.data.toList.drop 1).toArray.size ≤ _
    rw [List.size_toArray, List.length_drop]; omega
  split
  · have := unhexT_size (S.data.toList.drop 1)
    rw [List.length_drop] at this
    show (unhexT _).size ≤ _
    omega
  · exact Nat.zero_le _
/-- what Parse answers -/
def pvB (S : ByteArray) : Bool := decide (S ≠ ⟨#[]⟩ ∧ vshow (gsV S).1 (gsV S).2.1 (gsV S).2.2 = S)
def pvV (S : ByteArray) : Int × Int × ByteArray := if pvB S = true then gsV S else (0, 0, ⟨#[]⟩)
theorem pv_yes (k n : Int) (t : ByteArray) (h0 : -9223372036854775808 ≤ n) (h1 : n ≤ 9223372036854775807) (hv : vok k n t = true) : pvB (vshow k n t) = true ∧ pvV (vshow k n t) = (k, n, t) := by
  obtain ⟨g1, g2⟩ := gs_show k n t h0 h1 hv
  have hb : pvB (vshow k n t) = true := by unfold pvB; rw [g1]; exact decide_eq_true ⟨g2, rfl⟩
  exact ⟨hb, by unfold pvV; rw [if_pos hb, g1]⟩
end Go.Proofs.YtpiafgdbjpfcaaaDoor
