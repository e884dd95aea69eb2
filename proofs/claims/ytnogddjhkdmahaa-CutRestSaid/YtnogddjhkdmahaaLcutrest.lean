/- CutRest: behind an end a row is cut as what is left of it alone; each chunk but the last one has two to eight keys. No condition. -/
import Derived.Test.YtnogddjhkdmahaaRows
import Derived.Test.YtnogddjhkdmahaaJd
namespace Go.Proofs.Ytnogddjhkdmahaa.LCutRest
open Go.RowKit Rm Jm

theorem nat_cell {L : List Nat} {n : Nat} {pre rest : List Nat} {e : Nat} (h : L = pre ++ e :: rest) (hn : n = pre.length) (hk : n < (natI L).length) : (natI L)[n] = (e : Int) := by
  subst h hn
  simp [natI]
/-- what was raised by x -/
def up (x : Nat) (l : List Nat) : List Int := l.map fun (y : Nat) => (y : Int) + (x : Int)
theorem up_len (x : Nat) (l : List Nat) : (up x l).length = l.length := by simp [up]
theorem up_rest (h : ByteArray → Bool) (ss : List ByteArray) (k x : Nat) (hk : k < (cuts h ss).length) (hx : x = (cuts h ss)[k]) : up x (cuts h (ss.drop x)) = (natI (cuts h ss)).drop (k + 1) := by
  subst hx
  have := cuts_rest h ss k hk
  have h2 : natI ((cuts h ss).drop (k + 1)) = (natI (cuts h ss)).drop (k + 1) := by unfold natI; rw [List.map_drop]
  rw [← h2, ← this]
  simp [natI, up]
set_option maxRecDepth 100000 in
set_option maxHeartbeats 4000000 in
theorem walk (level kk : Int) (a : Option Addr) (len cap : Nat) (ss : List ByteArray) (w : World) (hsl : StrS w a len ss) (hcap : len ≤ cap) (hz : ∀ s ∈ ss, s.size ≤ maxLen) (hk2 : kk ≤ 9223372036854775807) :
    Calls Try.prog 8 #[.int .i64 level, .slice a len cap, .int .i64 kk] w fun e w' => e = .returned (.bool true) ∧ Below w.heap.size w w' := by
  have HFW := Lib.hid (few18_any a len cap ss w hsl hz)
  have HS := Lib.hid hsl
  have HL := Lib.hid hsl.1
  have HCP := Lib.hid hcap
  have HZM := Lib.hid hz
  clear hsl hz hcap
  go_enter Try.func8, Try.ntmps8
  go_wp2_with fail
  refine HFW.out.mono ?_
  rintro e w1 ⟨⟨b, rfl, hf⟩, rfl⟩
  cases b with
  | false =>
    clear hf HFW
    go_wp2_with fail
    refine (awake18 _).mono ?_
    rintro e w1 ⟨rfl, hb⟩
    have HB := Lib.hid hb
    clear hb
    go_wp2_with fail
    go_ret
    exact ⟨rfl, HB.out⟩
  | true =>
    obtain ⟨hle, -⟩ := hf rfl
    have hlen := hle
    have HCE := Lib.hid (cends_any level a len cap ss w HS.out (by omega) HZM.out)
    have HLL := Lib.hid (show (cuts (hitOf level) ss).length ≤ 200 by have := cut_len (hitOf level) ss 0 0; have := HL.out; unfold cuts; omega)
    have HA0 := Lib.hid (At.start (hitOf level) ss)
    have HRS := Lib.hid (fun (k x : Nat) (hk : k < (cuts (hitOf level) ss).length) (hx : x = (cuts (hitOf level) ss)[k]) => up_rest (hitOf level) ss k x hk hx)
    have HLE := Lib.hid (show ∀ x ∈ cuts (hitOf level) ss, x ≤ len from fun x hx => by have := cut_le (hitOf level) ss 0 0 x hx; have := HL.out; omega)
    clear hf HFW hle
    generalize cuts (hitOf level) ss = L at HCE HLL HA0 HRS HLE
    go_wp2_with fail
    refine HCE.out.mono ?_
    rintro e w1 ⟨v, rfl, h1, h2⟩
    have H2 := Lib.hid h2
    clear HCE
    obtain ⟨av, c, hv, hint, hc1, hcm⟩ := IS.of_own h1
    rw [natI_len] at hv hint hc1
    subst hv
    have HI := Lib.hid hint
    have HC1 := Lib.hid hc1
    have HCM := Lib.hid hcm
    have hLi : (L.length : Int) ≤ 200 := by have := HLL.out; omega
    clear h1 h2 hint hc1 hcm
    go_wp2_with fail
    go_loop [8, 22] (fun b i => ∃ (done rest : List Nat) (was : Nat), b = .int .i64 (was : Int) ∧ i = .int .i64 (done.length : Int) ∧ Hid (L = done ++ rest) ∧ Hid (At (hitOf level) ss was rest)) (fun _ i => L.length - (intOf i).toNat)
    case atStart => exact ⟨[], L, 0, rfl, rfl, rfl, HA0.out⟩
    case round =>
      obtain ⟨done, rest, was, rfl, rfl, HD, HAT⟩ := hrel
      cases rest with
      | cons e rest =>
        obtain ⟨n, hn⟩ : ∃ n, n = done.length := ⟨_, rfl⟩
        have hln : n < L.length := by rw [HD.out, List.length_append, List.length_cons]; omega
        obtain ⟨b, off, hav, hcell⟩ := HI.out.2 (by omega)
        have hnl : n < (natI L).length := by rw [natI_len]; exact hln
        have hc := hcell n hnl
        rw [nat_cell HD.out hn hnl] at hc
        unfold i64v at hc
        obtain ⟨hst, b1, b2, b3, b4, -⟩ := HAT.out.step
        have HAT2 := Lib.hid hst
        have HD2 := Lib.hid (show L = (done ++ [e]) ++ rest by rw [HD.out]; simp)
        have HN := Lib.hid hn
        rw [HL.out] at b3
        have t1 : decide ((len : Int) < (e : Int)) = false := decide_eq_false (by omega)
        have t1' : decide (len < e) = false := decide_eq_false (by omega)
        have t2 : decide ((e : Int) ≤ (was : Int)) = false := decide_eq_false (by omega)
        have t2' : decide (e ≤ was) = false := decide_eq_false (by omega)
        have t3 : decide ((8 : Int) < (e : Int) - (was : Int)) = false := decide_eq_false (by omega)
        have hei : (e : Int) ≤ 200 := by omega
        have hwi : (was : Int) ≤ 200 := by omega
        have hnli : (n : Int) < (L.length : Int) := by omega
        subst hav
        rw [← hn]
        by_cases hr : rest = []
        · have hnn : n + 1 = L.length := by rw [HD.out, hr, List.length_append, List.length_cons, List.length_nil]; omega
          have t4 : decide ((n : Int) + 1 < (L.length : Int)) = false := decide_eq_false (by omega)
          have t4' : decide (n + 1 < L.length) = false := decide_eq_false (by omega)
          clear hcell hnl hst b1 b2 b3 b4 hn hr hnn HD HAT hln
          go_wp2_with fail
          go_round
          case rel => exact ⟨done ++ [e], rest, e, rfl, by rw [List.length_append, ← HN.out]; go_num, HD2.out, HAT2.out⟩
          case measure => simp [intOf]; omega
        · have hnn : n + 1 < L.length := by
            have := List.length_pos_iff.2 hr
            rw [HD.out, List.length_append, List.length_cons]
            omega
          have t4 : decide ((n : Int) + 1 < (L.length : Int)) = true := decide_eq_true (by omega)
          have t4' : decide (n + 1 < L.length) = true := decide_eq_true (by omega)
          have t5 : decide ((e : Int) - (was : Int) < 2) = false := decide_eq_false (by have := b4 hr; omega)
          clear hcell hnl hst b1 b2 b3 b4 hn hr hnn HD HAT hln
          go_wp2_with fail
          go_round
          case rel => exact ⟨done ++ [e], rest, e, rfl, by rw [List.length_append, ← HN.out]; go_num, HD2.out, HAT2.out⟩
          case measure => simp [intOf]; omega
      | nil =>
        have hn : (done.length : Int) = (L.length : Int) := by rw [HD.out]; simp
        obtain rfl : was = len := by rw [HAT.out.end, HL.out]
        have HN := Lib.hid hn
        rw [hn]
        clear HD HAT hn
        by_cases hneg : kk < 0
        · go_wp2_with fail
          refine (awake18 _).mono ?_
          rintro e w2 ⟨rfl, hb⟩
          have HB := Lib.hid (H2.out.trans (hb.mono H2.out.size))
          clear hb
          go_wp2_with fail
          go_ret
          exact ⟨rfl, HB.out⟩
        · obtain ⟨K, rfl⟩ := Int.eq_ofNat_of_zero_le (show 0 ≤ kk by omega)
          by_cases hK : K < L.length
          · obtain ⟨b, off, hav, hcell⟩ := HI.out.2 (by omega)
            have hKl : K < (natI L).length := by rw [natI_len]; exact hK
            have hc := hcell K hKl
            have hx0 : (natI L)[K] = ((L[K] : Nat) : Int) := by simp [natI]
            rw [hx0] at hc
            unfold i64v at hc
            have HRX := Lib.hid (HRS.out K L[K] hK rfl)
            have hxl : L[K] ≤ was := HLE.out _ (List.getElem_mem hK)
            obtain ⟨x, hx⟩ : ∃ x, x = L[K] := ⟨_, rfl⟩
            rw [← hx] at hc HRX hxl
            have hsl := strs_from a was cap x (x : Int) rfl hxl
            have HS2 := Lib.hid (((HS.out.later H2.out).cut cap x hxl HCP.out))
            have HCE2 := Lib.hid (cends_any level (cutU a cap x) (was - x) (cap - x) (ss.drop x) w1 HS2.out (by omega) (fun s hs => HZM.out s (List.mem_of_mem_drop hs)))
            have HRL := Lib.hid (show (cuts (hitOf level) (ss.drop x)).length ≤ 200 by
              have q1 : (cuts (hitOf level) (ss.drop x)).length ≤ (ss.drop x).length := cut_len (hitOf level) (ss.drop x) 0 0
              have q2 := HL.out
              rw [List.length_drop] at q1
              omega)
            have HRE := Lib.hid (show ∀ y ∈ cuts (hitOf level) (ss.drop x), y ≤ 200 from fun y hy => by
              have q1 := cut_le (hitOf level) (ss.drop x) 0 0 y hy
              have q2 := HL.out
              rw [List.length_drop] at q1
              omega)
            generalize cuts (hitOf level) (ss.drop x) = R at HCE2 HRL HRE HRX
            have hKi : decide ((L.length : Int) ≤ (K : Int)) = false := decide_eq_false (by omega)
            have hKi' : decide (L.length ≤ K) = false := decide_eq_false (by omega)
            have hKi2 : (K : Int) < (L.length : Int) := by omega
            have HIS := Lib.hid (show IS w1 (.slice (cutU av c (K + 1)) (L.length - (K + 1)) (c - (K + 1))) ((natI L).drop (K + 1)) by
              have := HI.out.cut c (K + 1) (by omega) HC1.out
              refine ⟨_, _, by rw [List.length_drop, natI_len], by rw [List.length_drop, natI_len]; exact this, by rw [List.length_drop, natI_len]; have := HC1.out; omega, by have := HCM.out; omega⟩)
            have hsl2 := ints_from av L.length c (K + 1) ((K : Int) + 1) (by omega) (by omega)
            subst hav
            clear hcell hx0 hx hKl
            go_wp2_with fail
            refine HCE2.out.mono ?_
            rintro e w2 ⟨v2, rfl, h1, h2⟩
            have B2 := Lib.hid (H2.out.trans (h2.mono H2.out.size))
            have HCX := Lib.hid hc
            obtain ⟨a2, c2, hv2, -, -, -⟩ := IS.of_own h1
            rw [natI_len] at hv2
            subst hv2
            have HO2 := Lib.hid h1
            have HB2 := Lib.hid h2
            have hRi : (R.length : Int) ≤ 200 := by have := HRL.out; omega
            clear h1 h2 HCE2 hc
            go_wp2_with fail
            go_loopw [88] (fun i wr => ∃ (done rest : List Nat), i = .int .i64 (done.length : Int) ∧ Hid (R = done ++ rest) ∧ OwnI wr w1.heap.size (.slice a2 R.length c2) (up x done ++ natI rest) ∧ Below w1.heap.size w1 wr) (fun i _ => R.length - (intOf i).toNat)
            case atStart => exact ⟨[], R, rfl, rfl, HO2.out, HB2.out⟩
            case round =>
              obtain ⟨done, rest, rfl, HD, hr, hb⟩ := hrel
              have HR := Lib.hid hr
              have HBW := Lib.hid hb
              clear hr hb
              cases rest with
              | cons e rest =>
                obtain ⟨n, hn⟩ : ∃ n, n = done.length := ⟨_, rfl⟩
                have hln : n < R.length := by rw [HD.out, List.length_append, List.length_cons]; omega
                have hpos : n < (up x done ++ natI (e :: rest)).length := by simp [natI, hn, up_len]
                obtain ⟨g, cp, hv, hg, -, -, hcell, hfree, hset⟩ := HR.out.row (by omega)
                injection hv with hav hl2 hc2
                subst hav
                clear hl2 hc2
                have hc := hcell n hpos
                have hf := hfree n
                have hat : (up x done ++ natI (e :: rest))[n] = (e : Int) := by
                  rw [List.getElem_append_right (by rw [up_len]; omega)]
                  simp [natI, hn, up_len]
                rw [hat] at hc
                unfold i64v at hc
                have hs := hset n ((e : Int) + (x : Int)) hpos
                have e2 : (up x done ++ natI (e :: rest)).set n ((e : Int) + (x : Int)) = up x (done ++ [e]) ++ natI rest := by
                  rw [hn, ← up_len x done]
                  have := set_mid (up x done) (e : Int) ((e : Int) + (x : Int)) (natI rest)
                  rw [show natI (e :: rest) = (e : Int) :: natI rest from rfl, this]
                  simp [up]
                rw [e2] at hs
                have HSX := Lib.hid hs
                have he : (e : Int) ≤ 200 := by have := HRE.out e (by rw [HD.out]; simp); omega
                have hxi : (x : Int) ≤ 200 := by omega
                have cx := (HBW.out.cell (p := ⟨b, off + K, none⟩) (World.block_lt_of_cell? w1 _ HCX.out)).trans HCX.out
                have HD2 := Lib.hid (show R = (done ++ [e]) ++ rest by rw [HD.out]; simp)
                have HN := Lib.hid hn
                have hnR : (n : Int) < (R.length : Int) := by omega
                have hKl2 : (K : Int) < (L.length : Int) := hKi2
                rw [← hn]
                clear hcell hfree hset hs e2 hat hpos hn hln HD
                go_wp2_with fail
                go_region
                all_goals
                  go_wp2_with fail
                  go_roundw
                  case rel => exact ⟨done ++ [e], rest, by rw [List.length_append, ← HN.out]; go_num, HD2.out, HSX.out, (HBW.out.setCell hg _).drew⟩
                  case measure => simp [intOf]; omega
              | nil =>
                have hn : (done.length : Int) = (R.length : Int) := by rw [HD.out]; simp
                have hup : up x done ++ natI [] = (natI L).drop (K + 1) := by rw [← HRX.out, HD.out]; simp [natI]
                rw [hup] at HR
                have T1 := Lib.hid (IS.of_own HR.out)
                have T2 := Lib.hid (HIS.out.later HBW.out)
                have HLX := Lib.hid (show ((natI L).drop (K + 1)).length ≤ 1000000 by rw [List.length_drop, natI_len]; have := HLL.out; omega)
                have B3 := Lib.hid (H2.out.trans (HBW.out.mono H2.out.size))
                rw [hn]
                clear hn hup HR HD HRX
                go_wp2_with fail
                refine (ints_is _ _ _ _ T1.out T2.out HLX.out).mono ?_
                rintro e w4 ⟨rfl, hb⟩
                have B4 := Lib.hid (B3.out.trans (hb.mono B3.out.size))
                clear hb T1 T2
                go_wp2_with fail
                refine (awake18 _).mono ?_
                rintro e w5 ⟨rfl, hb⟩
                have B5 := Lib.hid (B4.out.trans (hb.mono B4.out.size))
                clear hb
                go_wp2_with fail
                go_ret
                exact ⟨rfl, B5.out⟩
          · have hKi : decide ((L.length : Int) ≤ (K : Int)) = true := decide_eq_true (by omega)
            have hKi' : decide (L.length ≤ K) = true := decide_eq_true (by omega)
            go_wp2_with fail
            refine (awake18 _).mono ?_
            rintro e w2 ⟨rfl, hb⟩
            have HB := Lib.hid (H2.out.trans (hb.mono H2.out.size))
            clear hb
            go_wp2_with fail
            go_ret
            exact ⟨rfl, HB.out⟩
end Go.Proofs.Ytnogddjhkdmahaa.LCutRest
