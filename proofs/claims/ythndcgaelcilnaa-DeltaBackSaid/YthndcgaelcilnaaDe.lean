/- delta.Encode over this translation. Condition: texts of at most 3000 bytes. -/
import Derived.Test.YthndcgaelcilnaaDz
import Derived.Test.YthndcgaelcilnaaDv
namespace Go.Proofs.Ythndcgaelcilnaa
open Go.RowKit Vi

theorem encode_any (B T : ByteArray) (L : List Pc) (S : ByteArray) (w : World) (hB : B.size ≤ 3000) (hT : T.size ≤ 3000) (hL : pcsW B.data.toList T.data.toList 0 0 [] = L) (hS : S = ⟨(putLs L).toArray⟩) :
    Calls Try.prog 28 #[.string B, .string T] w fun e w' => e = .returned (.tuple #[.string S, .int .i64 0]) ∧ Below w.heap.size w w' := by
  obtain ⟨h1, h2, h3⟩ := pcs_top B T hB hT
  rw [hL] at h1 h2 h3
  have HP := Lib.hid (hL ▸ pieces_any B T w hB hT)
  have HD := Lib.hid (show dputV L = .tuple #[.string S, .int .i64 0] by unfold dputV; rw [if_pos (pcs_okP L h1), hS])
  clear h1 hL hS
  have hbi : (B.size : Int) ≤ 3000 := by omega
  have hti : (T.size : Int) ≤ 3000 := by omega
  have hd1 : decide ((65536 : Int) < (B.size : Int)) = false := decide_eq_false (by omega)
  have hd2 : decide ((65536 : Int) < (T.size : Int)) = false := decide_eq_false (by omega)
  by_cases hab : (B.size : Int) < (T.size : Int)
  all_goals
    go_enter Try.func28, Try.ntmps28
    go_wp2_with fail
    refine HP.out.mono ?_
    rintro e w1 ⟨v, rfl, hox, hb1, hz1⟩
    obtain ⟨A, c, rfl, hrd, _, _⟩ := hox.rd pcC_len
    have HR := Lib.hid hrd
    have HB1 := Lib.hid hb1
    clear hox hb1 hrd
    go_wp2_with fail
    refine (dput_any A L.length c L w1 HR.out (by omega) (fun k _ => Nat.le_trans (putLs_take L k) (by omega))).mono ?_
    rintro e w2 ⟨rfl, hb2⟩
    have HB2 := Lib.hid (HB1.out.trans (hb2.mono hz1))
    clear hb2
    rw [HD.out]
    go_wp2_with fail
    go_ret2
    exact ⟨rfl, HB2.out⟩
end Go.Proofs.Ythndcgaelcilnaa
