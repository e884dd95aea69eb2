/- Plain facts on digits to the base 16. No program stands here. -/
import Derived.WalkKit
namespace Go.Proofs.YtagenkofoacajaaGreat.Hm
open Go.RowKit

def hexd (n : Nat) : UInt8 := if n < 10 then UInt8.ofNat (48 + n) else UInt8.ofNat (87 + n)
def hexL (l : List UInt8) : List UInt8 := l.flatMap fun c => [hexd (c.toNat / 16), hexd (c.toNat % 16)]
theorem hexL_len (l : List UInt8) : (hexL l).length = 2 * l.length := by
  induction l with
  | nil => rfl
  | cons c l ih => simp [hexL] at ih ⊢; omega
theorem hexL_snoc (l : List UInt8) (c : UInt8) : hexL (l ++ [c]) = hexL l ++ [hexd (c.toNat / 16), hexd (c.toNat % 16)] := by
  simp [hexL]
/-- which digit a byte is -/
def dig (c : UInt8) : Option Nat := if 48 ≤ c.toNat ∧ c.toNat ≤ 57 then some (c.toNat - 48) else if 97 ≤ c.toNat ∧ c.toNat ≤ 102 then some (c.toNat - 87) else none
def unhexL : List UInt8 → Option (List UInt8)
  | [] => some []
  | [_] => none
  | a :: b :: r => match dig a, dig b with
    | some x, some y => (unhexL r).map (UInt8.ofNat (16 * x + y) :: ·)
    | _, _ => none
theorem dig_hexd : ∀ n, n < 16 → dig (hexd n) = some n := by decide
theorem unhex_hex (l : List UInt8) : unhexL (hexL l) = some l := by
  induction l with
  | nil => rfl
  | cons c l ih =>
    have h : hexL (c :: l) = hexd (c.toNat / 16) :: hexd (c.toNat % 16) :: hexL l := rfl
    have hc : c.toNat < 256 := c.toNat_lt
    rw [h, unhexL, dig_hexd _ (by omega), dig_hexd _ (by omega)]
    simp only
    rw [ih, show 16 * (c.toNat / 16) + c.toNat % 16 = c.toNat by omega]
    simp
theorem hexd_dig : ∀ c : UInt8, ∀ x, dig c = some x → x < 16 ∧ hexd x = c := by
  intro c x h
  have hc : c.toNat < 256 := c.toNat_lt
  unfold dig at h
  split at h
  · rename_i hh
    injection h with h
    subst h
    refine ⟨by omega, ?_⟩
    unfold hexd
    rw [if_pos (by omega), show 48 + (c.toNat - 48) = c.toNat by omega]
    simp
  · split at h
    · rename_i hh
      injection h with h
      subst h
      refine ⟨by omega, ?_⟩
      unfold hexd
      rw [if_neg (by omega), show 87 + (c.toNat - 87) = c.toNat by omega]
      simp
    · cases h
theorem hex_unhex : ∀ (n : Nat) (t l : List UInt8), t.length ≤ n → unhexL t = some l → hexL l = t
  | _, [], l, _, h => by simp [unhexL] at h; subst h; rfl
  | _, [_], l, _, h => by simp [unhexL] at h
  | 0, _ :: _ :: _, _, hn, _ => by simp at hn
  | n + 1, a :: b :: r, l, hn, h => by
    rw [unhexL] at h
    cases ha : dig a with
    | none => rw [ha] at h; cases h
    | some x =>
      cases hb : dig b with
      | none => rw [ha, hb] at h; cases h
      | some y =>
        rw [ha, hb] at h
        simp only [Option.map_eq_some_iff] at h
        obtain ⟨m, hm, rfl⟩ := h
        obtain ⟨x1, x2⟩ := hexd_dig a x ha
        obtain ⟨y1, y2⟩ := hexd_dig b y hb
        have hq : (UInt8.ofNat (16 * x + y)).toNat = 16 * x + y := by rw [UInt8.toNat_ofNat']; omega
        show hexd ((UInt8.ofNat (16 * x + y)).toNat / 16) :: hexd ((UInt8.ofNat (16 * x + y)).toNat % 16) :: hexL m = _
        rw [hq, show (16 * x + y) / 16 = x by omega, show (16 * x + y) % 16 = y by omega, x2, y2, hex_unhex n r m (by simp at hn; omega) hm]
end Go.Proofs.YtagenkofoacajaaGreat.Hm
