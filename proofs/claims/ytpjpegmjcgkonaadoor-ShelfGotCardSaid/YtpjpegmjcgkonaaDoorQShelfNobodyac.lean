/- Several texts of one family, merged for a claim. Conditions as in its parts. -/
import Derived.Test.YtpjpegmjcgkonaaDoorQShelfNobodyaa
import Derived.Test.YtpjpegmjcgkonaaDoorQShelfNobodySend
import Derived.Test.YtpjpegmjcgkonaaDoorVg
namespace Go.Proofs.YtpjpegmjcgkonaaDoor
open Go.RowKit Vi

theorem fixU (w : World) (B : Nat) (S : ByteArray) (q : Nat) (er n : Int) (hS : S.size ≤ 1000000) (hq : q ≤ S.size) (h : Sc w B true S q er) :
    Calls Tryd.prog 89 #[.pointer (some ⟨B, 0, none⟩), .int .i64 n] w fun e w' => e = .returned (.string (Rd.fix S q er n).1) ∧ Sc w' B true S (Rd.fix S q er n).2.1 (Rd.fix S q er n).2.2 ∧ But B w w' := by
  unfold Rd.fix
  by_cases he : er = 0
  · subst he
    rw [if_neg (by simp)]
    by_cases hn : n < 0 ∨ (S.size : Int) - q < n
    · rw [if_pos hn]; exact fix_no w B S q n hS hq h hn
    · rw [if_neg hn]
      obtain ⟨m, rfl⟩ := Int.eq_ofNat_of_zero_le (show 0 ≤ n by omega)
      exact fix_yes w B S q m hS hq h (by omega)
  · rw [if_pos he]; exact fix_err w B true S q er n h (Or.inr he)

theorem numU (w : World) (B : Nat) (S : ByteArray) (q : Nat) (er most : Int) (hS : S.size ≤ 1000000) (hq : q ≤ S.size) (h : Sc w B true S q er) (hm1 : most ≤ 9223372036854775807) :
    Calls Tryd.prog 90 #[.pointer (some ⟨B, 0, none⟩), .int .i64 most] w fun e w' => e = .returned (.int .i64 (Rd.num S q er most).1) ∧ Sc w' B true S (Rd.num S q er most).2.1 (Rd.num S q er most).2.2 ∧ But B w w' := by
  unfold Rd.num
  by_cases he : er = 0
  · subst he
    rw [if_neg (by simp)]
    cases hg : gb (S.data.toList.drop q) with
    | false => rw [if_pos rfl]; exact num_form w B S q most hS hq h hg
    | true =>
      rw [if_neg (by simp)]
      by_cases hm : most < 0 ∨ most < gn (S.data.toList.drop q)
      · rw [if_pos hm]; exact num_limit w B S q most hS hq h hg hm1 hm
      · rw [if_neg hm]; exact num_yes w B S q most hS hq h hg (by omega) hm1 (by omega)
  · rw [if_pos he]; exact num_err w B true S q er most h (Or.inr he)






theorem textU (w : World) (B : Nat) (S : ByteArray) (q : Nat) (er most : Int) (hS : S.size ≤ 1000000) (hq : q ≤ S.size) (h : Sc w B true S q er) (hm1 : most ≤ 9223372036854775807) :
    Calls Tryd.prog 91 #[.pointer (some ⟨B, 0, none⟩), .int .i64 most] w fun e w' => e = .returned (.string (Rd.text S q er most).1) ∧ Sc w' B true S (Rd.text S q er most).2.1 (Rd.text S q er most).2.2 ∧ But B w w' := by
  have hq1 := Rd.num_le S q er most hq
  have HT := Lib.hid (show Rd.text S q er most = Rd.fix S (Rd.num S q er most).2.1 (Rd.num S q er most).2.2 (Rd.num S q er most).1 from rfl)
  rw [HT.out]
  go_enter Tryd.func91, Tryd.ntmps91
  go_wp2_with fail
  refine (numU w B S q er most hS hq h hm1).mono ?_
  rintro e w1 ⟨rfl, hs1, hb1⟩
  go_wp2_with fail
  refine (fixU w1 B S _ _ _ hS hq1 hs1).mono ?_
  rintro e w2 ⟨rfl, hs2, hb2⟩
  have hb := hb1.trans hb2
  have HS := Lib.hid hs2
  clear hs1 hs2 hb1 hb2 HT
  go_wp2_with fail
  go_ret
  exact ⟨rfl, HS.out, hb⟩
end Go.Proofs.YtpjpegmjcgkonaaDoor

namespace Go.Proofs.YtpjpegmjcgkonaaDoor
open Go.RowKit Vi

theorem info_int : (Tryd.prog.info? 3).map (fun i => (i.zero, i.size, i.bytes)) = some (some (.int .i64 0), 1, 8) := by kernel_rfl

theorem own_one (w : World) (e : TypeId) (x : Value) : (w.alloc (.cells #[x] e)).ownsRow w.heap.size e 1 (.slice (some ⟨w.heap.size, 0, none⟩) 1 1) 1 [x] :=
  ⟨by simp, .inr ⟨w.heap.size, 1, #[x], rfl, Nat.le_refl _, heap_alloc_new _ _, by omega, by unfold maxLen; omega, rfl, rfl⟩⟩

theorem conv_one (w : World) (x : Int) (b : UInt8) (hx : x = (b.toNat : Int)) :
    (convert 117 9 (.slice (some ⟨w.heap.size, 0, none⟩) 1 1)).run Tryd.prog (w.alloc (.cells #[.int .u8 x] 5)) = .ok (.string ⟨#[b]⟩) (w.alloc (.cells #[.int .u8 x] 5)) := by
  subst hx
  exact conv_own (xs := [b]) (own_one w 5 (bv b))

set_option maxHeartbeats 400000 in
set_option maxRecDepth 100000 in
theorem digits_any (n : Nat) (w : World) (hn : (n : Int) ≤ 18446744073709551615) :
    Calls Tryd.prog 105 #[.int .u64 n] w fun e w' => ∃ v, e = .returned v ∧ w'.ownsRow w.heap.size 3 1 v (digs n).length ((digs n).map iv) ∧ Below w.heap.size w w' := by
  obtain ⟨i0, hi, hz0, hz1, hz2⟩ := info_parts info_int
  go_enter Tryd.func105, Tryd.ntmps105
  go_wp2
  go_loopw [0, 3] (fun n' v wr => ∃ (ds : List Nat) (m f : Nat), n' = .int .u64 (m : Int) ∧ m < 128 ^ f ∧ f ≤ 9 ∧ (m : Int) ≤ 18446744073709551615 ∧ ds.length + f ≤ 10 ∧ ds ++ dgt f m = digs n ∧ wr.ownsRow w.heap.size 3 1 v ds.length (ds.map iv) ∧ Below w.heap.size w wr) (fun i _ _ => (intOf i).toNat)
  case atStart =>
    refine ⟨[n % 128], n / 128, 9, by go_num, by omega, by omega, by omega, by simp, rfl, ?_, (Below.refl _ _).alloc (Nat.le_refl _) _⟩
    have := own_one w 3 (iv (n % 128))
    simpa [iv] using this
  case round =>
    obtain ⟨ds, m, f, rfl, hf, hf10, hm, hlen', heq, hown', hb⟩ := hrel
    have HE := Lib.hid heq; clear heq
    have HF := Lib.hid hf; clear hf
    have hs := hb.size
    clear hn
    by_cases h : 0 < m
    · have hmm : ((m % 128 : Nat) : Int) = (m : Int) % 128 := by omega
      have HM := Lib.hid hmm; clear hmm
      go_wp2_with (at_builtin; refine wpList_append_own _ rfl _ _ 151 rfl w.heap.size 3 i0 (.int .i64 0) 1 8 Tryd.underlying151 hi hz0 hz1 hz2 rfl (by decide) _ _ _ rfl (hown'.alloc _) ⟨wr.heap.size, 0, none⟩ 1 1 [.int .i64 ((m : Int) % 128)] rfl rfl ?c1 ?c2 ?c3 ?c4 ?c5 ?_)
      case c1 => exact cell_one_new _ _ _
      case c2 => intro u hu; simp at hu; subst hu; rfl
      case c3 => unfold maxLen; omega
      case c4 => omega
      case c5 => simp; omega
      intro v' w1 hown1 hgrow _
      obtain ⟨g, rfl⟩ : ∃ g, f = g + 1 := by
        cases f with
        | zero => have := HF.out; simp at this; omega
        | succ g => exact ⟨g, rfl⟩
      have HFin := Lib.hid (dgt_split g m ds h _ HE.out)
      have hb1 : Below w.heap.size w w1 := (hb.alloc (by omega) _).grown hgrow (by simp; omega) (fun j hj => (hown'.lt j hj).1)
      have ho : w1.ownsRow w.heap.size 3 1 v' (ds ++ [m % 128]).length ((ds ++ [m % 128]).map iv) := by
        simpa [iv, HM.out] using hown1
      clear hown' hown1 hgrow hb hs
      go_wp2
      go_roundw
      case rel => exact ⟨_, m / 128, g, by first | rfl | go_num, by have := HF.out; rw [Nat.pow_succ] at this; omega, by omega, by omega, by simp; omega, HFin.out, ho, hb1⟩
      case measure => simp [intOf]; omega
    · obtain rfl : m = 0 := by omega
      have hfin : ds = digs n := by rw [← HE.out, dgt_zero]; simp
      have HFin := Lib.hid hfin; clear hfin
      go_wp2
      go_ret
      exact ⟨_, rfl, by rw [← HFin.out]; exact hown', hb⟩


end Go.Proofs.YtpjpegmjcgkonaaDoor

namespace Go.Proofs.YtpjpegmjcgkonaaDoor
open Go.RowKit Vi

theorem str_snoc (l : List UInt8) (b : UInt8) : (ByteArray.mk l.toArray ++ ByteArray.mk #[b]) = ByteArray.mk (l ++ [b]).toArray := ByteArray.mk_append_mk l [b]

set_option maxHeartbeats 400000 in
set_option maxRecDepth 100000 in
theorem refPut_any (n : Nat) (w : World) (hn : (n : Int) ≤ 18446744073709551615) :
    Calls Tryd.prog 86 #[.int .u64 n] w fun e w' => e = .returned (.string ⟨(put n).toArray⟩) ∧ Below w.heap.size w w' := by
  go_enter Tryd.func86, Tryd.ntmps86
  go_wp2_with fail
  refine (digits_any n _ hn).mono ?_
  rintro e w1 ⟨v, rfl, hown, hb⟩
  have hlen := digs_len n hn
  have hpl := put_len n
  have hat := put_at n
  rcases hown.2 with ⟨rfl, he⟩ | ⟨g, cap, cur, rfl, hg, hh, hnc, hcp, hcs, htake⟩
  · simp [digs] at he
  have hcell : ∀ k, (h : k < (digs n).length) → w1.cell? ⟨g, k, none⟩ = some (.int .i64 ((digs n)[k] : Int)) := fun k h => by
    rw [hown.cellAt k (by omega)]; simp [iv, h]
  have HC := Lib.hid hcell
  have HL := Lib.hid hlen
  have HAT := Lib.hid hat
  have hgs := (hown.lt g rfl).2
  have hlq : (digs n).length ≤ 10 := by omega
  clear hcell hlen hat hown htake hcs hh hcp
  go_wp2
  go_loopw [4, 5, 6] (fun s i c wr => ∃ (k : Nat), i = .int .i64 (k : Int) ∧ k ≤ (digs n).length ∧ s = .string ⟨((put n).take k).toArray⟩ ∧ Below w1.heap.size w1 wr) (fun _ i _ _ => (digs n).length - (intOf i).toNat)
  case atStart => exact ⟨0, rfl, by omega, rfl, Below.refl _ _⟩
  case round =>
    obtain ⟨k, rfl, hk, rfl, hbr⟩ := hrel
    have hs := hbr.size
    by_cases hlt : k < (digs n).length
    · have hc := (hbr.cell (p := ⟨g, k, none⟩) hgs).trans (HC.out k hlt)
      have hkp : k < (put n).length := by rw [← HL.out]; exact hlt
      have HAK := Lib.hid (HAT.out k hn hkp hlt)
      have hd : ((digs n)[k] : Int) < 128 := by have := HAK.out.2; omega
      have htk : ((put n).take k).length ≤ 10 := by simp; omega
      have HTK := Lib.hid (take_more (put n) k hkp)
      by_cases hl : k + 1 < (digs n).length
      · have hcv := conv_one wr (((digs n)[k] : Int) + 128) (put n)[k] (by
          rw [HAK.out.1, if_pos (by rw [← HL.out]; exact hl)]; rfl)
        have happ := Lib.hid (str_snoc ((put n).take k) (put n)[k])
        go_wp2
        go_roundw
        case rel => exact ⟨k + 1, by go_num, by omega, by rw [HTK.out, ← happ.out], hbr.alloc (by omega) _⟩
        case measure => simp [intOf]; omega
      · have hcv := conv_one wr ((digs n)[k] : Int) (put n)[k] (by
          rw [HAK.out.1, if_neg (by rw [← HL.out]; exact hl)]; rfl)
        have happ := Lib.hid (str_snoc ((put n).take k) (put n)[k])
        go_wp2
        go_roundw
        case rel => exact ⟨k + 1, by go_num, by omega, by rw [HTK.out, ← happ.out], hbr.alloc (by omega) _⟩
        case measure => simp [intOf]; omega
    · have hfin : (put n).take k = put n := List.take_of_length_le (by rw [← HL.out]; omega)
      have HFin := Lib.hid hfin; clear hfin
      go_wp2
      go_ret
      refine ⟨?_, hb.trans (hbr.mono hb.size)⟩
      rw [HFin.out]; rfl
end Go.Proofs.YtpjpegmjcgkonaaDoor
