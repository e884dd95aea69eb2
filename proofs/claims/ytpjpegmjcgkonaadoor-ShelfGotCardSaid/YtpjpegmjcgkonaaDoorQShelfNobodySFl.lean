/- The chapter's example of layer 16; Only on no shelf. Condition: the table that the program's text lays. -/
import Derived.Test.YtpjpegmjcgkonaaDoorQShelfNobodySFk
import Derived.Test.YtpjpegmjcgkonaaDoorQShelfNobodySFg
import Derived.Test.YtpjpegmjcgkonaaDoorQShelfNobodyHn
namespace Go.Proofs.YtpjpegmjcgkonaaDoor
open Go.RowKit Vi Hm

theorem get_one (t : ByteArray) : getO [(nmS t, t)] (nmS t) = some t := by simp [getO]
theorem aw16 : getO [] (nmS ⟨#[97]⟩) = none := rfl
set_option maxRecDepth 100000 in
set_option maxHeartbeats 2000000 in
theorem awake16_any (w : World) (hT : HTab w) : Calls Tryd.prog 10 #[] w fun e w' => e = .returned (.bool true) ∧ Below w.heap.size w w' := by
  have HT := Lib.hid hT
  clear hT
  obtain ⟨t, ht⟩ : ∃ t : ByteArray, t = ⟨#[97]⟩ := ⟨_, rfl⟩
  have P1 := Lib.hid (put_none (L := []) (t := ⟨#[97]⟩) (by decide) (by decide) rfl ⟨#[]⟩ ⟨#[]⟩)
  have P2 := Lib.hid (put_same (L := [(nmS ⟨#[97]⟩, ⟨#[97]⟩)]) (t := ⟨#[97]⟩) (by decide) (by decide) (get_one _) ⟨#[]⟩ ⟨#[]⟩)
  go_enter Tryd.func10, Tryd.ntmps10
  go_wp2_with fail
  refine (snew_any w).mono ?_
  rintro e w1 hr
  obtain ⟨D, rfl, h1⟩ := NewS.sw (Below.refl _ w) hr
  have H1 := Lib.hid h1
  clear h1 hr
  go_wp2_with fail
  refine (sputT_any _ _ D _ _ _ 0 _ w1 H1.out HT.out (Nat.le_refl _) (by decide) (by decide)).mono ?_
  rintro e w2 ⟨rfl, h2⟩
  rw [P1.out.1, P1.out.2.1]
  rw [P1.out.2.2.1, P1.out.2.2.2.1, P1.out.2.2.2.2] at h2
  have H2 := Lib.hid h2
  clear h2 H1
  go_wp2_with fail
  refine (sputT_any _ _ D _ _ _ 1 _ w2 H2.out HT.out (Nat.le_refl _) (by decide) (by decide)).mono ?_
  rintro e w3 ⟨rfl, h3⟩
  rw [show ([] : List Ob) ++ [(nmS ⟨#[97]⟩, ⟨#[97]⟩)] = [(nmS ⟨#[97]⟩, ⟨#[97]⟩)] from rfl] at h3 ⊢
  rw [P2.out.1, P2.out.2.1]
  rw [P2.out.2.2.1, P2.out.2.2.2.1, P2.out.2.2.2.2] at h3
  have H3 := Lib.hid h3
  clear h3 H2
  obtain ⟨N, hN⟩ : ∃ N, N = nmS ⟨#[97]⟩ := ⟨_, rfl⟩
  have HN := Lib.hid hN
  rw [← hN]
  clear hN P1 P2 ht
  go_wp2_with fail
  refine (slen_any D _ _ _ _ w3 H3.out.sk).mono ?_
  rintro e w4 ⟨rfl, rfl⟩
  go_wp2_with fail
  refine (rsum_any ⟨#[97]⟩ w3 (by decide)).mono ?_
  rintro e w5 ⟨rfl, hb⟩
  have H5 := Lib.hid (H3.out.below hb)
  clear hb
  rw [show (⟨(Hm.sum (⟨#[97]⟩ : ByteArray).data.toList).toArray⟩ : ByteArray) = N from HN.out.symm]
  go_wp2_with fail
  go_ret
  exact ⟨rfl, H5.out.bel⟩
theorem nsonly {p : Option Addr} {w : World} (h : NoSh p w) (f : Value) : Calls Tryd.prog 27 #[.pointer p, f] w fun e w' => e = .returned (.pointer none) ∧ Below w.heap.size w w' := by
  have HR := Lib.hid (nsmade h)
  clear h
  go_enter Tryd.func27, Tryd.ntmps27
  go_wp2_with fail
  refine HR.out.mono ?_
  rintro e w' ⟨rfl, rfl⟩
  go_wp2_with fail
  go_ret
  exact ⟨rfl, Below.refl _ _⟩
end Go.Proofs.YtpjpegmjcgkonaaDoor
