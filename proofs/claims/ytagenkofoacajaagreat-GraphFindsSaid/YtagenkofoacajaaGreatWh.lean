/- The contract of sha.Hex over this translation. Conditions: texts of at most a million bytes. -/
import Derived.Test.YtagenkofoacajaaGreatO
import Derived.Test.YtagenkofoacajaaGreatHp
import Derived.Lib.Hide
import Derived.Laws.Rows
import Derived.Laws.CopyOwn
import Derived.Laws.BitsAllLaws
import Derived.LoopTactic
import Derived.Deep.QuietTactic
import Derived.BigQuiet
import Derived.RegionTactic
namespace Go.Proofs.YtagenkofoacajaaGreat
open Go.RowKit Hm

def u8h (c : UInt8) : Value := .int .u8 (c.toNat : Int)

theorem run_digW (k : IntKind) (n : Nat) (hn : n < 16) (z : Int) (hz : z = (n : Int)) (W : World) : (Instr.index 9 (.string ⟨#[48, 49, 50, 51, 52, 53, 54, 55, 56, 57, 97, 98, 99, 100, 101, 102]⟩) (.int k z)).run Tryz.prog W = .ok (.int .u8 ((hexd n).toNat : Int)) W := by
  subst hz
  rw [run_index_string W _ _ k _ Tryz.underlying9]
  rcases (show n = 0 ∨ n = 1 ∨ n = 2 ∨ n = 3 ∨ n = 4 ∨ n = 5 ∨ n = 6 ∨ n = 7 ∨ n = 8 ∨ n = 9 ∨ n = 10 ∨ n = 11 ∨ n = 12 ∨ n = 13 ∨ n = 14 ∨ n = 15 by omega) with rfl | rfl | rfl | rfl | rfl | rfl | rfl | rfl | rfl | rfl | rfl | rfl | rfl | rfl | rfl | rfl <;> rfl
theorem info_b8h : (Tryz.prog.info? 5).map (fun i => (i.zero, i.size, i.bytes)) = some (some (.int .u8 0), 1, 1) := by kernel_rfl
theorem conv_ownH {w : World} {B : Nat} {v : Value} {xs : List UInt8} (h : Own 5 w B v (xs.map u8h)) :
    (convert 151 9 v).run Tryz.prog w = .ok (.string ⟨xs.toArray⟩) w := by
  rcases Nat.eq_zero_or_pos xs.length with h0 | hp
  · have hx : xs = [] := List.length_eq_zero_iff.1 h0
    subst hx
    rcases h.2 with ⟨rfl, _⟩ | ⟨g, cap, cur, rfl, _⟩
    · exact run_convert_bytes_nil _ _ _ Tryz.underlying151 Tryz.underlying5 _ _ _ Tryz.underlying9
    · exact run_convert_bytes_back w 151 9 5 ⟨g, 0, none⟩ cap [] Tryz.underlying151 Tryz.underlying5 Tryz.underlying9 (fun j hj => by simp at hj)
  · obtain ⟨g, cap, rfl, _, _, _, hc⟩ := h.cellAt (by simpa using hp)
    have e := run_convert_bytes_back (P := Tryz.prog) w 151 9 5 ⟨g, 0, none⟩ cap xs Tryz.underlying151 Tryz.underlying5 Tryz.underlying9 (fun j hj => by
      rw [Addr.add_lit, Nat.zero_add, hc j (by simpa using hj)]
      simp [u8h])
    rw [List.length_map]
    exact e
theorem and15W (c : UInt8) : bits BinOp.and IntKind.u8 (c.toNat : Int) 15 = ((c.toNat % 16 : Nat) : Int) := by
  have h := u8_and_nat c.toNat 15 c.toNat_lt (by omega)
  rw [show (15 : Nat) = 2 ^ 4 - 1 by rfl, Nat.and_two_pow_sub_one_eq_mod] at h
  exact h
end Go.Proofs.YtagenkofoacajaaGreat
