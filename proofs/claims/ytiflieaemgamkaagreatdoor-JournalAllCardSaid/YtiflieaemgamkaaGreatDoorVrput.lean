/- The contract of the document's own Put of layer 1 over this translation, for every number of 64 bits. -/
import Derived.Test.YtiflieaemgamkaaGreatDoorVref
namespace Go.Proofs.YtiflieaemgamkaaGreatDoor
open Go.RowKit Vi

theorem str_snoc (l : List UInt8) (b : UInt8) : (ByteArray.mk l.toArray ++ ByteArray.mk #[b]) = ByteArray.mk (l ++ [b]).toArray := ByteArray.mk_append_mk l [b]

set_option maxHeartbeats 400000 in
set_option maxRecDepth 100000 in
theorem refPut_any (n : Nat) (w : World) (hn : (n : Int) ≤ 18446744073709551615) :
    Calls Tryz.prog 197 #[.int .u64 n] w fun e w' => e = .returned (.string ⟨(put n).toArray⟩) ∧ Below w.heap.size w w' := by
  go_enter Tryz.func197, Tryz.ntmps197
  go_wp2_with fail
  refine (digits_any n _ hn).mono ?_
  rintro e w1 ⟨v, rfl, hown, hb⟩
  have hlen := digs_len n hn
  have hpl := put_len n
  have hat := put_at n
  rcases hown.2 with ⟨rfl, he⟩ | ⟨g, cap, cur, rfl, hg, hh, hnc, hcp, hcs, htake⟩
  · simp [digs] at he
  have hcell : ∀ k, (h : k < (digs n).length) → w1.cell? ⟨g, k, none⟩ = some (.int .i64 ((digs n)[k] : Int)) := fun k h => by
    rw [hown.cellAt k (by omega)]; simp [iv, h]
  have HC := Lib.hid hcell
  have HL := Lib.hid hlen
  have HAT := Lib.hid hat
  have hgs := (hown.lt g rfl).2
  have hlq : (digs n).length ≤ 10 := by omega
  clear hcell hlen hat hown htake hcs hh hcp
  go_wp2
  go_loopw [4, 5, 6] (fun s i c wr => ∃ (k : Nat), i = .int .i64 (k : Int) ∧ k ≤ (digs n).length ∧ s = .string ⟨((put n).take k).toArray⟩ ∧ Below w1.heap.size w1 wr) (fun _ i _ _ => (digs n).length - (intOf i).toNat)
  case atStart => exact ⟨0, rfl, by omega, rfl, Below.refl _ _⟩
  case round =>
    obtain ⟨k, rfl, hk, rfl, hbr⟩ := hrel
    have hs := hbr.size
    by_cases hlt : k < (digs n).length
    · have hc := (hbr.cell (p := ⟨g, k, none⟩) hgs).trans (HC.out k hlt)
      have hkp : k < (put n).length := by rw [← HL.out]; exact hlt
      have HAK := Lib.hid (HAT.out k hn hkp hlt)
      have hd : ((digs n)[k] : Int) < 128 := by have := HAK.out.2; omega
      have htk : ((put n).take k).length ≤ 10 := by simp; omega
      have HTK := Lib.hid (take_more (put n) k hkp)
      by_cases hl : k + 1 < (digs n).length
      · have hcv := conv_one wr (((digs n)[k] : Int) + 128) (put n)[k] (by
          rw [HAK.out.1, if_pos (by rw [← HL.out]; exact hl)]; rfl)
        have happ := Lib.hid (str_snoc ((put n).take k) (put n)[k])
        go_wp2
        go_roundw
        case rel => exact ⟨k + 1, by go_num, by omega, by rw [HTK.out, ← happ.out], hbr.alloc (by omega) _⟩
        case measure => simp [intOf]; omega
      · have hcv := conv_one wr ((digs n)[k] : Int) (put n)[k] (by
          rw [HAK.out.1, if_neg (by rw [← HL.out]; exact hl)]; rfl)
        have happ := Lib.hid (str_snoc ((put n).take k) (put n)[k])
        go_wp2
        go_roundw
        case rel => exact ⟨k + 1, by go_num, by omega, by rw [HTK.out, ← happ.out], hbr.alloc (by omega) _⟩
        case measure => simp [intOf]; omega
    · have hfin : (put n).take k = put n := List.take_of_length_le (by rw [← HL.out]; omega)
      have HFin := Lib.hid hfin; clear hfin
      go_wp2
      go_ret
      refine ⟨?_, hb.trans (hbr.mono hb.size)⟩
      rw [HFin.out]; rfl
end Go.Proofs.YtiflieaemgamkaaGreatDoor
