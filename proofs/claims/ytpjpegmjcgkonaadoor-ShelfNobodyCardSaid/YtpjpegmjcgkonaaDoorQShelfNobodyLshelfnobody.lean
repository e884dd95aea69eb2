/- P16.1: a shelf that no call made has nothing, and takes nothing. Condition: the table that the program's text lays. -/
import Derived.Test.YtpjpegmjcgkonaaDoorQShelfNobodySFl
import Derived.Lib.QuietBelow
import Derived.BigQuiet
namespace Go.Proofs.YtpjpegmjcgkonaaDoor
open Go.RowKit Vi Hm

set_option maxRecDepth 100000 in
set_option maxHeartbeats 4000000 in
theorem LShelfNobody (t : ByteArray) (n : Int) (b : Bool) (w : World) (hT : HTab w) :
    Calls Tryd.prog 6 #[.string t, .int .i64 n, .bool b] w fun e w' => e = .returned (.bool true) ∧ Below w.heap.size w w' := by
  have HT := Lib.hid hT
  clear hT
  by_cases h : 1000 < t.size
  · have d1 : decide ((1000 : Int) < (t.size : Int)) = true := decide_eq_true (by omega)
    have d2 : decide (1000 < t.size) = true := decide_eq_true h
    clear h
    go_enter Tryd.func6, Tryd.ntmps6
    go_wp2_with fail
    refine (awake16_any w HT.out).mono ?_
    rintro e w1 ⟨rfl, hb⟩
    have HB := Lib.hid hb
    clear hb
    go_wp2_with fail
    go_ret
    exact ⟨rfl, HB.out⟩
  have d1 : decide ((1000 : Int) < (t.size : Int)) = false := decide_eq_false (by omega)
  have d2 : decide (1000 < t.size) = false := decide_eq_false h
  clear h
  cases b with
  | false =>
    have HN0 : Hid (NoSh none w) := Lib.hid (.inl rfl)
    have HB0 := Lib.hid (Below.refl w.heap.size w)
    obtain ⟨v, hv⟩ : ∃ v, v = w := ⟨_, rfl⟩
    have HV := Lib.hid hv
    have HN0 : Hid (NoSh none v) := Lib.hid (by rw [hv]; exact HN0.out)
    have HB0 : Hid (Below w.heap.size w v) := Lib.hid (by rw [hv]; exact HB0.out)
    clear hv
    go_enter Tryd.func6, Tryd.ntmps6
    go_upto_region 6 with (fail)
    rw [← HV.out]
    go_wp2_with fail
    refine (nsput HN0.out t).mono ?_
    rintro e w1 ⟨rfl, hb⟩
    have HN1 := Lib.hid (HN0.out.kept hb)
    have HB1 := Lib.hid (HB0.out.trans (hb.mono HB0.out.size))
    clear hb HN0 HB0
    go_wp2_with fail
    refine (nsget HN1.out t).mono ?_
    rintro e w2 ⟨rfl, hb⟩
    have HN2 := Lib.hid (HN1.out.kept hb)
    have HB2 := Lib.hid (HB1.out.trans (hb.mono HB1.out.size))
    clear hb HN1 HB1
    go_wp2_with fail
    refine (nsclash HN2.out).mono ?_
    rintro e w3 ⟨rfl, hb⟩
    have HN3 := Lib.hid (HN2.out.kept hb)
    have HB3 := Lib.hid (HB2.out.trans (hb.mono HB2.out.size))
    clear hb HN2 HB2
    go_wp2_with fail
    refine (nshas HN3.out t).mono ?_
    rintro e w4 ⟨rfl, hb⟩
    have HN4 := Lib.hid (HN3.out.kept hb)
    have HB4 := Lib.hid (HB3.out.trans (hb.mono HB3.out.size))
    clear hb HN3 HB3
    go_wp2_with fail
    refine (nslen HN4.out).mono ?_
    rintro e w5 ⟨rfl, hb⟩
    have HN5 := Lib.hid (HN4.out.kept hb)
    have HB5 := Lib.hid (HB4.out.trans (hb.mono HB4.out.size))
    clear hb HN4 HB4
    go_wp2_with fail
    refine (nstexts HN5.out n).mono ?_
    rintro e w6 ⟨rfl, hb⟩
    have HN6 := Lib.hid (HN5.out.kept hb)
    have HB6 := Lib.hid (HB5.out.trans (hb.mono HB5.out.size))
    clear hb HN5 HB5
    go_wp2_with fail
    refine (nsnames HN6.out).mono ?_
    rintro e w7 ⟨rfl, hb⟩
    have HN7 := Lib.hid (HN6.out.kept hb)
    have HB7 := Lib.hid (HB6.out.trans (hb.mono HB6.out.size))
    clear hb HN6 HB6
    go_wp2_with fail
    refine (nscut HN7.out n).mono ?_
    rintro e w8 ⟨rfl, hb⟩
    have HN8 := Lib.hid (HN7.out.kept hb)
    have HB8 := Lib.hid (HB7.out.trans (hb.mono HB7.out.size))
    clear hb HN7 HB7
    go_wp2_with fail
    refine (nsonly HN8.out _).mono ?_
    rintro e w9 ⟨rfl, hb⟩
    have HN9 := Lib.hid (HN8.out.kept hb)
    have HB9 := Lib.hid (HB8.out.trans (hb.mono HB8.out.size))
    clear hb HN8 HB8
    go_wp2_with fail
    refine (nscopy HN9.out).mono ?_
    rintro e w10 ⟨rfl, hb⟩
    have HN10 := Lib.hid (HN9.out.kept hb)
    have HB10 := Lib.hid (HB9.out.trans (hb.mono HB9.out.size))
    clear hb HN9 HB9
    go_wp2_with fail
    refine (awake16_any _ (HT.out.later HB10.out)).mono ?_
    rintro e w11 ⟨rfl, hb⟩
    have HB11 := Lib.hid (HB10.out.trans (hb.mono HB10.out.size))
    go_wp2_with fail
    go_ret
    exact ⟨rfl, HB11.out⟩
  | true =>
    have HN0 : Hid (NoSh (some ⟨w.heap.size, 0, none⟩) (w.alloc (.cells #[.slice none 0 0, .map none, .string ⟨#[]⟩, .string ⟨#[]⟩] 55 (0, 0)))) := Lib.hid (.inr ⟨_, rfl, blk_new w _⟩)
    have HB0 := Lib.hid ((Below.refl w.heap.size w).alloc (Nat.le_refl _) (.cells #[.slice none 0 0, .map none, .string ⟨#[]⟩, .string ⟨#[]⟩] 55 (0, 0)))
    obtain ⟨v, hv⟩ : ∃ v, v = (w.alloc (.cells #[.slice none 0 0, .map none, .string ⟨#[]⟩, .string ⟨#[]⟩] 55 (0, 0))) := ⟨_, rfl⟩
    have HV := Lib.hid hv
    rw [← hv] at HN0 HB0
    clear hv
    go_enter Tryd.func6, Tryd.ntmps6
    go_upto_region 6 with (fail)
    rw [← HV.out]
    go_wp2_with fail
    refine (nsput HN0.out t).mono ?_
    rintro e w1 ⟨rfl, hb⟩
    have HN1 := Lib.hid (HN0.out.kept hb)
    have HB1 := Lib.hid (HB0.out.trans (hb.mono HB0.out.size))
    clear hb HN0 HB0
    go_wp2_with fail
    refine (nsget HN1.out t).mono ?_
    rintro e w2 ⟨rfl, hb⟩
    have HN2 := Lib.hid (HN1.out.kept hb)
    have HB2 := Lib.hid (HB1.out.trans (hb.mono HB1.out.size))
    clear hb HN1 HB1
    go_wp2_with fail
    refine (nsclash HN2.out).mono ?_
    rintro e w3 ⟨rfl, hb⟩
    have HN3 := Lib.hid (HN2.out.kept hb)
    have HB3 := Lib.hid (HB2.out.trans (hb.mono HB2.out.size))
    clear hb HN2 HB2
    go_wp2_with fail
    refine (nshas HN3.out t).mono ?_
    rintro e w4 ⟨rfl, hb⟩
    have HN4 := Lib.hid (HN3.out.kept hb)
    have HB4 := Lib.hid (HB3.out.trans (hb.mono HB3.out.size))
    clear hb HN3 HB3
    go_wp2_with fail
    refine (nslen HN4.out).mono ?_
    rintro e w5 ⟨rfl, hb⟩
    have HN5 := Lib.hid (HN4.out.kept hb)
    have HB5 := Lib.hid (HB4.out.trans (hb.mono HB4.out.size))
    clear hb HN4 HB4
    go_wp2_with fail
    refine (nstexts HN5.out n).mono ?_
    rintro e w6 ⟨rfl, hb⟩
    have HN6 := Lib.hid (HN5.out.kept hb)
    have HB6 := Lib.hid (HB5.out.trans (hb.mono HB5.out.size))
    clear hb HN5 HB5
    go_wp2_with fail
    refine (nsnames HN6.out).mono ?_
    rintro e w7 ⟨rfl, hb⟩
    have HN7 := Lib.hid (HN6.out.kept hb)
    have HB7 := Lib.hid (HB6.out.trans (hb.mono HB6.out.size))
    clear hb HN6 HB6
    go_wp2_with fail
    refine (nscut HN7.out n).mono ?_
    rintro e w8 ⟨rfl, hb⟩
    have HN8 := Lib.hid (HN7.out.kept hb)
    have HB8 := Lib.hid (HB7.out.trans (hb.mono HB7.out.size))
    clear hb HN7 HB7
    go_wp2_with fail
    refine (nsonly HN8.out _).mono ?_
    rintro e w9 ⟨rfl, hb⟩
    have HN9 := Lib.hid (HN8.out.kept hb)
    have HB9 := Lib.hid (HB8.out.trans (hb.mono HB8.out.size))
    clear hb HN8 HB8
    go_wp2_with fail
    refine (nscopy HN9.out).mono ?_
    rintro e w10 ⟨rfl, hb⟩
    have HN10 := Lib.hid (HN9.out.kept hb)
    have HB10 := Lib.hid (HB9.out.trans (hb.mono HB9.out.size))
    clear hb HN9 HB9
    go_wp2_with fail
    refine (awake16_any _ (HT.out.later HB10.out)).mono ?_
    rintro e w11 ⟨rfl, hb⟩
    have HB11 := Lib.hid (HB10.out.trans (hb.mono HB10.out.size))
    go_wp2_with fail
    go_ret
    exact ⟨rfl, HB11.out⟩
end Go.Proofs.YtpjpegmjcgkonaaDoor
