/- The contracts of the document's own Hex and Unhex of layer 3 over this translation. Conditions: texts of at most a million bytes. -/
import Derived.Test.YtpjpegmjcgkonaaDoorHv
namespace Go.Proofs.YtpjpegmjcgkonaaDoor
open Go.RowKit Hm

theorem run_digs (n : Nat) (hn : n < 16) (z z1 : Int) (hz : z = (n : Int)) (hz1 : z1 = (n : Int) + 1) (W : World) : (Instr.slice 9 (.string ⟨#[48, 49, 50, 51, 52, 53, 54, 55, 56, 57, 97, 98, 99, 100, 101, 102]⟩) (some (.int .i64 z)) (some (.int .i64 z1)) none).run Tryd.prog W = .ok (.string ⟨#[hexd n]⟩) W := by
  subst hz
  subst hz1
  rw [run_slice_string _ _ _ _ _ _ _ Tryd.underlying9 (by omega) (by omega) (by show (n : Int) + 1 ≤ 16; omega)]
  rcases (show n = 0 ∨ n = 1 ∨ n = 2 ∨ n = 3 ∨ n = 4 ∨ n = 5 ∨ n = 6 ∨ n = 7 ∨ n = 8 ∨ n = 9 ∨ n = 10 ∨ n = 11 ∨ n = 12 ∨ n = 13 ∨ n = 14 ∨ n = 15 by omega) with rfl | rfl | rfl | rfl | rfl | rfl | rfl | rfl | rfl | rfl | rfl | rfl | rfl | rfl | rfl | rfl <;> rfl
theorem str_two (S : ByteArray) (l : List UInt8) (a b : UInt8) (h : S.data.toList = l) : (S ++ ⟨#[a]⟩ ++ ⟨#[b]⟩).data.toList = l ++ [a, b] := by
  subst h
  simp
theorem conv_oneB (w : World) (x : Int) (b : UInt8) (hx : x = (b.toNat : Int)) :
    (convert 117 9 (.slice (some ⟨w.heap.size, 0, none⟩) 1 1)).run Tryd.prog (w.alloc (.cells #[.int .u8 x] 5)) = .ok (.string ⟨#[b]⟩) (w.alloc (.cells #[.int .u8 x] 5)) := by
  subst hx
  exact conv_ownB (xs := [b]) (B := w.heap.size) ⟨rfl, .inr ⟨w.heap.size, 1, #[u8v b], rfl, Nat.le_refl _, heap_alloc_new _ _, by simp, by unfold maxLen; omega, rfl, rfl⟩⟩
theorem str_snocH (S : ByteArray) (m : List UInt8) (a : UInt8) (h : S.data.toList = m) : (S ++ ⟨#[a]⟩).data.toList = m ++ [a] := by
  subst h
  simp
end Go.Proofs.YtpjpegmjcgkonaaDoor
