/- Plain facts on a round's words. No program stands here. -/
import Derived.Test.YtiflieaemgamkaaDoorHg
namespace Go.Proofs.YtiflieaemgamkaaDoor
open Go.RowKit Hm

theorem xor_ones (x : Nat) (h : x < 4294967296) : 4294967295 ^^^ x = 4294967295 - x := by
  have := congrArg BitVec.toNat (BitVec.not_def (x := BitVec.ofNat 32 x))
  rw [BitVec.toNat_not, BitVec.toNat_xor, BitVec.toNat_allOnes, BitVec.toNat_ofNat, Nat.mod_eq_of_lt (by omega)] at this
  exact this.symm
theorem not_ex (x : Nat) (hx : x < 4294967296) : ∃ c : Nat, c < 4294967296 ∧ Hid (c = 4294967295 - x) ∧ bits .xor .u32 IntKind.u32.max (x : Int) = (c : Int) :=
  ⟨4294967295 - x, by omega, rfl, by
    have e2 : IntKind.u32.max = ((4294967295 : Nat) : Int) := by decide
    rw [e2, u32_xor_nat _ _ (by omega) hx, xor_ones x hx]⟩
theorem consts_all : ∀ x ∈ consts, x < 4294967296 := by decide
theorem consts_lt (j : Nat) : consts.getD j 0 < 4294967296 := by
  rw [List.getD_eq_getElem?_getD]
  rcases Nat.lt_or_ge j consts.length with h | h
  · rw [List.getElem?_eq_getElem h]; exact consts_all _ (List.getElem_mem h)
  · rw [List.getElem?_eq_none h]; decide
/-- the words, one after the other -/
def addK (h : List Nat) (s : List Nat) : Nat → List Nat
  | 0 => h
  | k + 1 => (addK h s k).set k ((h.getD k 0 + s.getD k 0) % 4294967296)
theorem addK_len (h s : List Nat) : ∀ k, (addK h s k).length = h.length
  | 0 => rfl
  | k + 1 => by rw [addK, List.length_set, addK_len]
theorem addK_at (h s : List Nat) : ∀ k j, k ≤ j → (addK h s k).getD j 0 = h.getD j 0
  | 0, j, _ => rfl
  | k + 1, j, hj => by
    rw [addK, List.getD_eq_getElem?_getD, List.getElem?_set_ne (by omega), ← List.getD_eq_getElem?_getD, addK_at h s k j (by omega)]
theorem list8 (h : List Nat) (hl : h.length = 8) : ∃ a b c d e f g i, h = [a, b, c, d, e, f, g, i] := by
  match h, hl with
  | [a, b, c, d, e, f, g, i], _ => exact ⟨a, b, c, d, e, f, g, i, rfl⟩
theorem addK_zip (h : List Nat) (s : St) (hl : h.length = 8) : addK h s.list 8 = List.zipWith (fun x y => (x + y) % 4294967296) h s.list := by
  obtain ⟨a0, a1, a2, a3, a4, a5, a6, a7, rfl⟩ := list8 h hl
  rfl
theorem addK_mix (h : List Nat) (b : List UInt8) (s : St) (hs : s = rounds (sched b) 64 (St.of h)) (hl : h.length = 8) : addK h s.list 8 = mix h b := by
  rw [addK_zip h s hl, hs, mix]
end Go.Proofs.YtiflieaemgamkaaDoor
