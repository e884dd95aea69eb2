/- Plain arithmetic of layer 9: how many sectors are for what, where all fits. No condition. -/
import Derived.Test.YtgbagifmelkkhaaRm
namespace Ar
/-- how many of the first k have the value j -/
def ct (f : Nat → Int) (j : Int) : Nat → Int
  | 0 => 0
  | k + 1 => ct f j k + if f k = j then 1 else 0
theorem ct_bd (f : Nat → Int) (j : Int) (k : Nat) : 0 ≤ ct f j k ∧ ct f j k ≤ k := by
  induction k with
  | zero => simp [ct]
  | succ k ih => simp only [ct]; push_cast; split <;> omega
theorem ct_yes (f : Nat → Int) (j : Int) (k : Nat) (h : f k = j) : ct f j (k + 1) = ct f j k + 1 := by simp only [ct]; rw [if_pos h]
theorem ct_no (f : Nat → Int) (j : Int) (k : Nat) (h : ¬ f k = j) : ct f j (k + 1) = ct f j k := by simp only [ct]; rw [if_neg h]; omega
/-- the sectors where all fits -/
def lay (F E L T r : Int) (k : Nat) : Int := if (k : Int) < 2 then 0 else if (k : Int) < F ∨ E ≤ k then 5 else if (k : Int) < L then 1 else if (k : Int) < T then 2 else if E - 1 - k < r then 3 else 4
theorem lay_bd (F E L T r : Int) (k : Nat) : 0 ≤ lay F E L T r k ∧ lay F E L T r k ≤ 5 := by 
  unfold lay; repeat' split
  all_goals omega
theorem ct_0 (F E L T r : Int) (k : Nat) : ct (lay F E L T r) 0 k = min k 2 := by
  induction k with
  | zero => simp [ct]
  | succ k ih =>
    by_cases h : lay F E L T r k = 0
    · rw [ct_yes _ _ _ h, ih]; unfold lay at h; repeat' split at h
      all_goals omega
    · rw [ct_no _ _ _ h, ih]; unfold lay at h; repeat' split at h
      all_goals omega
theorem ct_6 (F E L T r : Int) (k : Nat) : ct (lay F E L T r) 6 k = 0 := by
  induction k with
  | zero => simp [ct]
  | succ k ih =>
    have := lay_bd F E L T r k
    rw [ct_no _ _ _ (by omega), ih]
theorem ct_1 (F E L T r : Int) (G : 2 ≤ F ∧ F ≤ L ∧ L ≤ T ∧ 0 ≤ r ∧ T + r ≤ E - 1) (k : Nat) : ct (lay F E L T r) 1 k = max 0 (min (k : Int) L - F) := by
  induction k with
  | zero => simp [ct]; omega
  | succ k ih =>
    by_cases h : lay F E L T r k = 1
    · rw [ct_yes _ _ _ h, ih]; unfold lay at h; repeat' split at h
      all_goals omega
    · rw [ct_no _ _ _ h, ih]; unfold lay at h; repeat' split at h
      all_goals omega
theorem ct_2 (F E L T r : Int) (G : 2 ≤ F ∧ F ≤ L ∧ L ≤ T ∧ 0 ≤ r ∧ T + r ≤ E - 1) (k : Nat) : ct (lay F E L T r) 2 k = max 0 (min (k : Int) T - L) := by
  induction k with
  | zero => simp [ct]; omega
  | succ k ih =>
    by_cases h : lay F E L T r k = 2
    · rw [ct_yes _ _ _ h, ih]; unfold lay at h; repeat' split at h
      all_goals omega
    · rw [ct_no _ _ _ h, ih]; unfold lay at h; repeat' split at h
      all_goals omega
theorem ct_3 (F E L T r : Int) (G : 2 ≤ F ∧ F ≤ L ∧ L ≤ T ∧ 0 ≤ r ∧ T + r ≤ E - 1) (k : Nat) : ct (lay F E L T r) 3 k = max 0 (min (k : Int) E - (E - r)) := by
  induction k with
  | zero => simp [ct]; omega
  | succ k ih =>
    by_cases h : lay F E L T r k = 3
    · rw [ct_yes _ _ _ h, ih]; unfold lay at h; repeat' split at h
      all_goals omega
    · rw [ct_no _ _ _ h, ih]; unfold lay at h; repeat' split at h
      all_goals omega
/-- where all fits -/
structure Fit (n h p t r : Int) : Prop where
  n0 : 16 ≤ n
  n1 : n ≤ 400
  h0 : 0 ≤ h
  h1 : h ≤ 1
  p0 : 0 ≤ p
  t0 : 0 ≤ t
  r0 : 0 ≤ r
  rh : r < hf n
  e1 : lg n h p = fs n h + sc p
  e2 : lg n h p + sc t + r ≤ fs n h + hf n - 1
  e3 : fs n h + hf n ≤ n
  s0 : 0 ≤ sc p
  s1 : 0 ≤ sc t
  f0 : 2 ≤ fs n h
theorem fit_of (n h p t r : Int) (hf' : ft n p t r = true) (n1 : n ≤ 400) (h0 : 0 ≤ h) (h1 : h ≤ 1) (p0 : 0 ≤ p) (t0 : 0 ≤ t) (r0 : 0 ≤ r) (hp1 : p ≤ 9223372036854775807) (ht1 : t ≤ 9223372036854775807) : Fit n h p t r := by
  have b1 := hf_bd n
  have b2 := sc_bd p hp1
  have b3 := sc_bd t ht1
  have b4 := fs_bd n h
  have hfit : sc t ≤ fr n p r := by simpa [ft] using hf'
  unfold fr at hfit
  have n0 : 16 ≤ n := by
    by_cases g : n < 16
    · have := hf_out n (Or.inl g); omega
    · omega
  have hn := hf_in n n0 (by omega)
  have hfs : fs n h ≤ 2 + hf n := by unfold fs; split <;> omega
  refine ⟨n0, n1, h0, h1, p0, t0, r0, by omega, by unfold lg; omega, by unfold lg; omega, by omega, b2.1, b3.1, b4.1⟩
theorem fit_lay {n h p t r : Int} (H : Fit n h p t r) (k : Nat) (hk : (k : Int) < n) : ofv n h p t r k = lay (fs n h) (fs n h + hf n) (lg n h p) (lg n h p + sc t) r k := by
  have := H.n0; have := H.n1
  unfold ofv lay; rw [if_neg (by omega)]
/-- the value of a sector -/
def vl (n h p t r : Int) (k : Nat) : Int := lay (fs n h) (fs n h + hf n) (lg n h p) (lg n h p + sc t) r k
theorem fit_cts {n h p t r : Int} (H : Fit n h p t r) (m : Nat) (hm : (m : Int) = n) :
    ct (vl n h p t r) 0 m = 2 ∧ ct (vl n h p t r) 1 m = sc p ∧ ct (vl n h p t r) 2 m = sc t ∧ ct (vl n h p t r) 3 m = r ∧ ct (vl n h p t r) 6 m = 0 := by
  obtain ⟨n0, n1, h0, h1, p0, t0, r0, rh, e1, e2, e3, s0, s1, f0⟩ := H
  unfold vl
  have G : 2 ≤ fs n h ∧ fs n h ≤ lg n h p ∧ lg n h p ≤ lg n h p + sc t ∧ 0 ≤ r ∧ lg n h p + sc t + r ≤ fs n h + hf n - 1 := by omega
  rw [ct_0, ct_1 _ _ _ _ _ G, ct_2 _ _ _ _ _ G,
    ct_3 _ _ _ _ _ G, ct_6]
  omega
theorem fit_rec {n h p t r : Int} (H : Fit n h p t r) (s : Int) (h0 : 0 ≤ s) (h1 : s < r) : ofv n h p t r (fs n h + hf n - 1 - s) = 3 := by
  obtain ⟨n0, n1, h0, h1, p0, t0, r0, rh, e1, e2, e3, s0, s1, f0⟩ := H
  unfold ofv; repeat' split
  all_goals omega
theorem fit_empty {n h p t r : Int} (H : Fit n h p t r) : ofv n h p t r (fs n h + hf n - 1 - r) = 4 := by
  obtain ⟨n0, n1, h0, h1, p0, t0, r0, rh, e1, e2, e3, s0, s1, f0⟩ := H
  unfold ofv; repeat' split
  all_goals omega
end Ar
