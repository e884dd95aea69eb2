/- Plain arithmetic of layer 9: halves, sectors, what is left, and for what a sector is. No condition. -/
namespace Ar
/-- how many sectors a half has -/
def hf (n : Int) : Int := if n < 16 ∨ 4096 < n then 0 else (n - 2) / 2
/-- the first sector of a half -/
def fs (n h : Int) : Int := if h = 1 then 2 + hf n else 2
/-- how many sectors so many bytes take -/
def sc (b : Int) : Int := if b ≤ 0 then 0 else (b - 1) / 128 + 1
/-- the first sector of the log -/
def lg (n h p : Int) : Int := fs n h + min (sc p) (hf n)
/-- what a log may have -/
def fr (n p r : Int) : Int := hf n - min (sc p) (hf n) - min (max r 0) (hf n) - 1
/-- what is left -/
def lf (n p r : Int) : Int := if hf n - 1 < r ∨ hf n - 1 < sc p then -1 else if 0 < r then hf n - 1 - r - sc p else hf n - 1 - sc p
/-- does it fit -/
def ft (n p t r : Int) : Bool := decide (sc t ≤ fr n p r)
/-- for what a sector is -/
def ofv (n h p t r s : Int) : Int :=
  if n < 16 ∨ 4096 < n ∨ s < 0 ∨ n ≤ s then 6 else if s < 2 then 0
  else if s < fs n h ∨ fs n h + hf n ≤ s then 5
  else if s < lg n h p then 1 else if s < lg n h p + sc t then 2
  else if fs n h + hf n - 1 - s < r then 3 else 4

theorem hf_bd (n : Int) : 0 ≤ hf n ∧ hf n ≤ 2047 := by unfold hf; split <;> omega
theorem hf_in (n : Int) (h0 : 16 ≤ n) (h1 : n ≤ 4096) : hf n = (n - 2) / 2 := by unfold hf; rw [if_neg (by omega)]
theorem hf_out (n : Int) (h : n < 16 ∨ 4096 < n) : hf n = 0 := by unfold hf; rw [if_pos h]
theorem fs_bd (n h : Int) : 2 ≤ fs n h ∧ fs n h ≤ 2049 := by have := hf_bd n; unfold fs; split <;> omega
theorem sc_bd (b : Int) (h : b ≤ 9223372036854775807) : 0 ≤ sc b ∧ sc b ≤ 72057594037927936 := by unfold sc; split <;> omega
theorem sc_le (b : Int) (h : b ≤ 0) : sc b = 0 := by unfold sc; rw [if_pos h]
theorem sc_gt (b : Int) (h : 0 < b) : sc b = (b - 1) / 128 + 1 := by unfold sc; rw [if_neg (by omega)]
theorem sc_ref0 (b : Int) (h : 0 < b) (h1 : b % 128 = 0) : sc b = b / 128 := by rw [sc_gt b h]; omega
theorem sc_ref1 (b : Int) (h : 0 < b) (h1 : 0 < b % 128) : sc b = b / 128 + 1 := by rw [sc_gt b h]; omega
theorem lg_bd (n h p : Int) (hp : p ≤ 9223372036854775807) : 2 ≤ lg n h p ∧ lg n h p ≤ 4096 := by
  have := hf_bd n; have := fs_bd n h; have := sc_bd p hp; unfold lg; omega
theorem fr_bd (n p r : Int) (hp : p ≤ 9223372036854775807) : -4095 ≤ fr n p r ∧ fr n p r ≤ 2046 := by
  have := hf_bd n; have := sc_bd p hp; unfold fr; omega
theorem fr_lf (n p r : Int) (hp : p ≤ 9223372036854775807) : (fr n p r < 0 ∧ lf n p r < 0) ∨ (0 ≤ fr n p r ∧ lf n p r = fr n p r) := by
  have := hf_bd n; have := sc_bd p hp; unfold fr lf
  split
  · omega
  · split <;> omega
theorem lf_bd (n p r : Int) (hp : p ≤ 9223372036854775807) : -4095 ≤ lf n p r ∧ lf n p r ≤ 2046 := by
  have := hf_bd n; have := sc_bd p hp; unfold lf
  split
  · omega
  · split <;> omega
end Ar
