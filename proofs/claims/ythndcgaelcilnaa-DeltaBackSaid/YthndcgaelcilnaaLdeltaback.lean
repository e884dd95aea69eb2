/- The walk of DeltaBack over this translation. No condition. -/
import Derived.Test.YthndcgaelcilnaaDh
import Derived.Test.YthndcgaelcilnaaDe
namespace Go.Proofs.Ythndcgaelcilnaa.LDeltaBack
open Go.RowKit Vi

theorem rd_later {A : Option Addr} {n : Nat} {l : List Pc} {w w' : World} (h : RdX pcC 4 w A n l) (hb : Below w.heap.size w w') : RdX pcC 4 w' A n l := h.below hb
set_option maxRecDepth 100000 in
set_option maxHeartbeats 4000000 in
theorem walk (B T : ByteArray) (A : Option Addr) (n c : Nat) (l : List Pc) (w : World) (h : RdX pcC 4 w A n l) (hm : n ≤ maxLen) :
    Calls Try.prog 5 #[.string B, .string T, .slice A n c] w fun e w' => e = .returned (.bool true) ∧ Below w.heap.size w w' := by
  unfold maxLen at hm
  have hni : (n : Int) ≤ 9223372036854775807 := by omega
  have H := Lib.hid h
  have LL := Lib.hid h.1
  clear h
  by_cases hb : B.size ≤ 3000
  · have hd1 : decide ((3000 : Int) < (B.size : Int)) = false := decide_eq_false (by omega)
    by_cases ht : T.size ≤ 3000
    · have hd2 : decide ((3000 : Int) < (T.size : Int)) = false := decide_eq_false (by omega)
      have HFW := Lib.hid (few11_any A n c l w H.out hni)
      cases hf : fewB l with
      | false =>
        rw [hf] at HFW
        clear hf hb ht
        have HB1 := Lib.hid (Below.refl w.heap.size w)
        go_enter Try.func5, Try.ntmps5
        go_wp2_with fail
        refine (HFW.out).mono ?_
        rintro e w1 ⟨rfl, hb1⟩
        have HB2 := Lib.hid (HB1.out.trans (hb1.mono HB1.out.size))
        clear hb1 HB1 
        go_wp2_with fail
        refine (awake11 w1).mono ?_
        rintro e w2 ⟨rfl, hb2⟩
        have HB3 := Lib.hid (HB2.out.trans (hb2.mono HB2.out.size))
        clear hb2 HB2 
        go_wp2_with fail
        go_ret
        exact ⟨rfl, HB3.out⟩
      | true =>
        rw [hf] at HFW
        obtain ⟨L, hL⟩ : ∃ L, pcsW B.data.toList T.data.toList 0 0 [] = L := ⟨_, rfl⟩
        obtain ⟨S, hS⟩ : ∃ S : ByteArray, S = ⟨(putLs L).toArray⟩ := ⟨_, rfl⟩
        obtain ⟨p1, p2, p3⟩ := pcs_top B T hb ht
        have hj := jn_back B T hb ht
        rw [hL] at p1 p2 p3 hj
        have hD : IsD S L := ⟨pcs_okP L p1, by rw [hS]⟩
        have hSz : S.size ≤ 100000 := by rw [hS, bytes_size]; omega
        have CE := Lib.hid (fun W : World => encode_any B T L S W hb ht hL hS)
        have CA := Lib.hid (fun W : World => dapply_yes B S L W hSz (by omega) hD T 0 hj)
        have hqt : (T.toList == T.toList) = true := by simp
        have hqt2 : (T.toList != T.toList) = false := by simp
        have h60 : n ≤ 60 := by
          unfold fewB at hf
          simp only [Bool.and_eq_true, decide_eq_true_eq] at hf
          have := LL.out
          omega
        have HM : ∀ k, (l.take k).all okP = true → (putLs (l.take k)).length ≤ 5000000 := by
          intro k hk
          have h1 := few_size _ hk
          have h2 : (l.take k).length ≤ 60 := by rw [List.length_take]; have := LL.out; omega
          have h3 := fewS_le (l.take k)
          omega
        have CP := Lib.hid (fun (W : World) (g : RdX pcC 4 W A n l) => dput_any A n c l W g (by omega) HM)
        clear HM hS hL p1 p2 p3 hj hD hSz hb ht
        cases hall : l.all okP with
        | false =>
          have HV := Lib.hid (show dputV l = .tuple #[.string ⟨#[]⟩, .int .i64 2] by unfold dputV; rw [if_neg (by rw [hall]; simp)])
          rw [HV.out] at CP
          clear hall hf HV
          have HB1 := Lib.hid (Below.refl w.heap.size w)
          go_enter Try.func5, Try.ntmps5
          go_wp2_with fail
          refine (HFW.out).mono ?_
          rintro e w1 ⟨rfl, hb1⟩
          have HB2 := Lib.hid (HB1.out.trans (hb1.mono HB1.out.size))
          clear hb1 HB1 
          go_wp2_with fail
          refine (CE.out w1).mono ?_
          rintro e w2 ⟨rfl, hb2⟩
          have HB3 := Lib.hid (HB2.out.trans (hb2.mono HB2.out.size))
          clear hb2 HB2 
          go_wp2_with fail
          refine (CA.out w2).mono ?_
          rintro e w3 ⟨rfl, hb3⟩
          have HB4 := Lib.hid (HB3.out.trans (hb3.mono HB3.out.size))
          clear hb3 HB3 
          go_wp2_with fail
          refine (CP.out w3 (rd_later H.out HB4.out)).mono ?_
          rintro e w4 ⟨rfl, hb4⟩
          have HB5 := Lib.hid (HB4.out.trans (hb4.mono HB4.out.size))
          clear hb4 HB4 
          go_wp2_with fail
          refine (awake11 w4).mono ?_
          rintro e w5 ⟨rfl, hb5⟩
          have HB6 := Lib.hid (HB5.out.trans (hb5.mono HB5.out.size))
          clear hb5 HB5 
          go_wp2_with fail
          go_ret
          exact ⟨rfl, HB6.out⟩
        | true =>
          obtain ⟨U, hU⟩ : ∃ U : ByteArray, U = ⟨(putLs l).toArray⟩ := ⟨_, rfl⟩
          have HV := Lib.hid (show dputV l = .tuple #[.string U, .int .i64 0] by unfold dputV; rw [if_pos hall, hU])
          rw [HV.out] at CP
          have hUD : IsD U l := ⟨hall, by rw [hU]⟩
          have hUz : U.size ≤ 100000 := by rw [hU, bytes_size]; exact (few_bytes l hf hall).1
          have CT := Lib.hid (fun W : World => (dtake_any U W (by omega)).mono (takeY hUD))
          have hll : l.length ≤ 60 := (few_bytes l hf hall).2
          clear hall hf HV hU hUD hUz
          have HB1 := Lib.hid (Below.refl w.heap.size w)
          go_enter Try.func5, Try.ntmps5
          go_wp2_with fail
          refine (HFW.out).mono ?_
          rintro e w1 ⟨rfl, hb1⟩
          have HB2 := Lib.hid (HB1.out.trans (hb1.mono HB1.out.size))
          clear hb1 HB1 
          go_wp2_with fail
          refine (CE.out w1).mono ?_
          rintro e w2 ⟨rfl, hb2⟩
          have HB3 := Lib.hid (HB2.out.trans (hb2.mono HB2.out.size))
          clear hb2 HB2 
          go_wp2_with fail
          refine (CA.out w2).mono ?_
          rintro e w3 ⟨rfl, hb3⟩
          have HB4 := Lib.hid (HB3.out.trans (hb3.mono HB3.out.size))
          clear hb3 HB3 
          go_wp2_with fail
          refine (CP.out w3 (rd_later H.out HB4.out)).mono ?_
          rintro e w4 ⟨rfl, hb4⟩
          have HB5 := Lib.hid (HB4.out.trans (hb4.mono HB4.out.size))
          clear hb4 HB4 
          go_wp2_with fail
          refine (CT.out w4).mono ?_
          rintro e w5 ⟨v, rfl, hox, hb5, hz5⟩
          obtain ⟨A2, c2, rfl, hrd, _, _⟩ := hox.rd pcC_len
          have HB5 := Lib.hid (HB5.out.trans (hb5.mono HB5.out.size))
          have HR5 := Lib.hid (rd_later H.out HB5.out)
          have HQ5 := Lib.hid hrd
          clear hox hb5 hrd
          go_wp2_with fail
          refine (same_any A A2 n l.length c c2 l l w5 HR5.out HQ5.out (by have := LL.out; omega) (by omega)).mono ?_
          rintro e w6 ⟨rfl, hb6⟩
          have HB6 := Lib.hid (HB5.out.trans (hb6.mono HB5.out.size))
          clear hb6
          rw [decide_eq_true (rfl : l = l)]
          go_wp2_with fail
          refine (awake11 w6).mono ?_
          rintro e w7 ⟨rfl, hb7⟩
          have HB7 := Lib.hid (HB6.out.trans (hb7.mono HB6.out.size))
          clear hb7
          go_wp2_with fail
          go_ret
          exact ⟨rfl, HB7.out⟩
    · have hd2 : decide ((3000 : Int) < (T.size : Int)) = true := decide_eq_true (by omega)
      clear ht
      clear hb
      go_enter Try.func5, Try.ntmps5
      go_wp2_with fail
      refine (awake11 w).mono ?_
      rintro e w6 ⟨rfl, hb6⟩
      have HB6 := Lib.hid hb6
      clear hb6
      go_wp2_with fail
      go_ret
      exact ⟨rfl, HB6.out⟩
  · have hd1 : decide ((3000 : Int) < (B.size : Int)) = true := decide_eq_true (by omega)
    clear hb
    go_enter Try.func5, Try.ntmps5
    go_wp2_with fail
    refine (awake11 w).mono ?_
    rintro e w6 ⟨rfl, hb6⟩
    have HB6 := Lib.hid hb6
    clear hb6
    go_wp2_with fail
    go_ret
    exact ⟨rfl, HB6.out⟩
end Go.Proofs.Ythndcgaelcilnaa.LDeltaBack
