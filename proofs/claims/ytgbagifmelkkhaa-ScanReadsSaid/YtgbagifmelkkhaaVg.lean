/- Contracts of varint.grow, varint.Put, varint.Int, varint.Zig and varint.Zag over this translation: what each call answers, for all numbers of their kinds. -/
import Derived.Test.YtgbagifmelkkhaaProg
import Derived.Test.YtgbagifmelkkhaaVi
import Derived.WalkKit
import Derived.Lib.Hide
import Derived.WalkSpells
import Derived.WalkLawsBesides
import Derived.Laws.DeepNot64
namespace Go.Proofs.Ytgbagifmelkkhaa
open Go.RowKit Vi

theorem info_u8 : (Try.prog.info? 5).map (fun i => (i.zero, i.size, i.bytes)) = some (some (.int .u8 0), 1, 1) := by kernel_rfl

theorem ret_val {k : IntKind} {a b : Int} (h : a = b) : Ending.returned (.int k a) = .returned (.int k b) := by rw [h]

theorem conv_own {w : World} {B : Nat} {v : Value} {xs : List UInt8} (h : w.ownsRow B 5 1 v xs.length (xs.map bv)) :
    (convert 140 9 v).run Try.prog w = .ok (.string ⟨xs.toArray⟩) w := by
  have h0 := h
  rcases h.2 with ⟨rfl, he⟩ | ⟨g, cap, cur, rfl, hg, hh, hnc, hcp, hcs, htake⟩
  · obtain rfl : xs = [] := List.length_eq_zero_iff.1 he
    exact run_convert_bytes_nil _ _ _ Try.underlying140 Try.underlying5 _ _ _ Try.underlying9
  · refine run_convert_bytes_back w 140 9 5 ⟨g, 0, none⟩ cap xs Try.underlying140 Try.underlying5 Try.underlying9 ?_
    intro j hj
    rw [Addr.add_lit, Nat.zero_add, h0.cellAt j (by omega)]
    simp [bv, hj]




theorem and_one_t (u : Nat) (h : (u : Int) ≤ 18446744073709551615) (h2 : u % 2 = 1) : (bits BinOp.and IntKind.u64 (u : Int) 1 == 1) = true := by
  rw [and_one_u64 _ (by omega) h]; simp; omega
theorem and_one_f (u : Nat) (h : (u : Int) ≤ 18446744073709551615) (h2 : u % 2 = 0) : (bits BinOp.and IntKind.u64 (u : Int) 1 == 1) = false := by
  rw [and_one_u64 _ (by omega) h]; simp; omega
theorem not_half (u : Nat) (h : (u : Int) ≤ 18446744073709551615) (h2 : u % 2 = 1) : bits BinOp.xor IntKind.i64 (-1) ((u : Int) / 2) = zag u := by
  have : ((u : Int) / 2) = ((u / 2 : Nat) : Int) := by omega
  rw [this, i64_not _ (by omega)]
  unfold zag; rw [if_neg (by omega)]
theorem half_of (u : Nat) (h2 : u % 2 = 0) : (u : Int) / 2 = zag u := by
  unfold zag; rw [if_pos h2]; omega

set_option maxHeartbeats 400000 in
theorem zag_any (u : Nat) (w : World) (h : (u : Int) ≤ 18446744073709551615) :
    Calls Try.prog 140 #[.int .u64 u] w fun e w' => e = .returned (.int .i64 (zag u)) ∧ w = w' := by
  rcases Nat.mod_two_eq_zero_or_one u with h2 | h2
  · have ha := and_one_f u h h2
    have hz := Lib.hid (half_of u h2)
    have hsg : IntKind.i64.signed = true := by decide
    clear h2
    go_enter Try.func140, Try.ntmps140
    go_wp2
    go_ret
    exact ⟨ret_val hz.out, rfl⟩
  · have ha := and_one_t u h h2
    have hz := Lib.hid (not_half u h h2)
    have hsg : IntKind.i64.signed = true := by decide
    clear h2
    go_enter Try.func140, Try.ntmps140
    go_wp2
    go_ret
    exact ⟨ret_val hz.out, rfl⟩


end Go.Proofs.Ytgbagifmelkkhaa
