/- The document's Pieces of layer 11 over this translation. -/
import Derived.Test.YtpiafgdbjpfcaaaDx
import Derived.Test.YtpiafgdbjpfcaaaDp
namespace Go.Proofs.Ytpiafgdbjpfcaaa
open Go.RowKit Vi

theorem take_grow (L : List UInt8) (o k : Nat) (h : o ≤ k) : (L.drop o).take (k - o) ++ (L.drop k).take 1 = (L.drop o).take (k + 1 - o) := by
  rw [show k + 1 - o = (k - o) + 1 by omega, List.take_add, List.drop_drop, show o + (k - o) = k by omega]
theorem pcsW_next (B T : List UInt8) (own i : Nat) (l : List Pc) (h : i + 8 ≤ T.length → stands B (win T i) = none) : pcsW B T own i l = pcsW B T own (i + 1) l := by
  by_cases h8 : i + 8 ≤ T.length
  · exact pcsW_none B T own i l h8 (h h8)
  · rw [pcsW_end B T own i l h8, pcsW_end B T own (i + 1) l (by omega)]
theorem pcsW_last (B T : List UInt8) (own : Nat) (l : List Pc) : pcsW B T own T.length l = addL l ((T.drop own).take (T.length - own)) := by
  rw [pcsW_end B T own _ l (by omega), List.take_of_length_le (by simp)]
theorem addL_nil (l : List Pc) (O : ByteArray) (h : O.size = 0) : addL l O.data.toList = l := by
  unfold addL; rw [if_pos (List.eq_nil_of_length_eq_zero (by simpa using h))]
theorem addL_one (l : List Pc) (O : ByteArray) (h : O.size ≠ 0) : addL l O.data.toList = l ++ [(false, 0, (O.size : Int), O)] := by
  unfold addL; rw [if_neg (fun e => h (by have := congrArg List.length e; simpa using this))]; simp
theorem emptyT (O : ByteArray) (h : O.size = 0) : O.toList.isEmpty = true := by
  rw [Lib.toList_data, List.eq_nil_of_length_eq_zero (show O.data.toList.length = 0 by simpa using h)]; rfl
theorem emptyF (O : ByteArray) (h : O.size ≠ 0) : O.toList.isEmpty = false := by
  rw [Lib.toList_data, List.isEmpty_eq_false_iff]; exact fun e => h (by have := congrArg List.length e; simpa using this)
theorem cpl_step2 (B T : ByteArray) (p k n j : Nat) (hb : p + j < B.size) (ht : k + j < T.size) (hn : n = cpl (B.data.toList.drop p) (T.data.toList.drop k)) (hc : n = j + cpl ((B.data.toList.drop p).drop j) ((T.data.toList.drop k).drop j)) :
    (B[p + j] = T[k + j] → j + 1 ≤ n ∧ n = (j + 1) + cpl ((B.data.toList.drop p).drop (j + 1)) ((T.data.toList.drop k).drop (j + 1))) ∧ (B[p + j] ≠ T[k + j] → j = n) := by
  have hb1 : j < (B.data.toList.drop p).length := by rw [List.length_drop]; have : B.data.toList.length = B.size := by simp
                                                     omega
  have ht1 : j < (T.data.toList.drop k).length := by rw [List.length_drop]; have : T.data.toList.length = T.size := by simp
                                                     omega
  have h := cpl_step _ _ j hb1 ht1 (hn ▸ hc)
  have e1 : (B.data.toList.drop p)[j] = B[p + j] := by rw [List.getElem_drop]; rfl
  have e2 : (T.data.toList.drop k)[j] = T[k + j] := by rw [List.getElem_drop]; rfl
  rw [e1, e2, ← hn] at h
  exact ⟨fun e => ⟨by have := h.1 e; omega, h.1 e⟩, fun e => (h.2 e).symm⟩
set_option maxRecDepth 100000 in
set_option maxHeartbeats 8000000 in
theorem rpieces_any (B T : ByteArray) (w : World) (hB : B.size ≤ 3000) (hT : T.size ≤ 3000) :
    Calls Try.prog 11 #[.string B, .string T] w (AddP (pcsW B.data.toList T.data.toList 0 0 []) w.heap.size w) := by
  have hbl : B.data.toList.length = B.size := by simp
  have htl : T.data.toList.length = T.size := by simp
  have HBL := Lib.hid hbl
  have HTL := Lib.hid htl
  clear hbl htl
  have hti : (T.size : Int) ≤ 3000 := by omega
  have hbi : (B.size : Int) ≤ 3000 := by omega
  go_enter Try.func11, Try.ntmps11
  go_wp2_with fail
  go_loopw [5, 6, 7] (fun v ow i wr => ∃ (l : List Pc) (O : ByteArray) (o k : Nat), ow = .string O ∧ i = .int .i64 (k : Int) ∧ o ≤ k ∧ k ≤ T.size ∧ l.length ≤ 2 * k ∧ (O.size = k - o ∧ O.data.toList = (T.data.toList.drop o).take (k - o)) ∧ OwX pcC 4 34 wr w.heap.size v l ∧ w.heap.size ≤ wr.heap.size ∧
    Below w.heap.size w wr ∧ pcsW B.data.toList T.data.toList o k l = pcsW B.data.toList T.data.toList 0 0 []) (fun _ _ i _ => T.size - (intOf i).toNat)
  case atStart => exact ⟨[], ⟨#[]⟩, 0, 0, rfl, rfl, Nat.le_refl _, Nat.zero_le _, by simp, ⟨rfl, by simp⟩, OwX.nil _, Nat.le_refl _, Below.refl _ _, rfl⟩
  case round =>
    obtain ⟨l, O, o, k, rfl, rfl, hok, hk, hll, ⟨hos, hol⟩, hox, hsz, hbel, hsp⟩ := hrel
    have HX := Lib.hid hox
    have HO := Lib.hid hol
    have HL := Lib.hid hbel
    have HP := Lib.hid hsp
    clear hox hbel hsp hol
    by_cases hlt : k < T.size
    · have hkt : decide ((k : Int) < (T.size : Int)) = true := decide_eq_true (by omega)
      by_cases h8 : k + 8 ≤ T.size
      · have hk8 : decide ((k : Int) + 8 ≤ (T.size : Int)) = true := decide_eq_true (by omega)
        obtain ⟨X0, hX0⟩ : ∃ X0, X0 = T.extract k (k + 8) := ⟨_, rfl⟩
        have hsl0 := run_win T k h8 X0 hX0 (k : Int) ((k : Int) + 8) rfl rfl
        have HST := Lib.hid (fun W : World => rstands_any B X0 W hB)
        rw [win_of T X0 k hX0] at HST
        clear hX0
        cases hst : stands B.data.toList (win T.data.toList k) with
        | none =>
          rw [hst] at HST
          have HST1 := Lib.hid (show ∀ W : World, Calls Try.prog 38 #[.string B, .string X0] W fun e w' => e = .returned (.int .i64 (-1)) ∧ Below W.heap.size W w' from HST.out)
          clear HST
          obtain ⟨X, hX⟩ : ∃ X, X = T.extract k (k + 1) := ⟨_, rfl⟩
          obtain ⟨SS, hSS⟩ : ∃ SS : ByteArray, SS = O ++ X := ⟨_, rfl⟩
          have hsl : ∀ W, _ := fun W => run_mid T k (k + 1) (by omega) (by omega) X hX W
          rw [show ((k + 1 : Nat) : Int) = (k : Int) + 1 by omega] at hsl
          have hXs : X.size = 1 := by rw [hX, ByteArray.size_extract]; omega
          have q1 : ∀ W, (Op.stringOp .add O X).run Try.prog W = .ok (.string SS) W := fun W => by rw [hSS]; exact run_string_add_sum W _ _ (by omega)
          have hSz : SS.size = k + 1 - o := by rw [hSS, ByteArray.size_append, hXs]; omega
          have HN := Lib.hid (show SS.data.toList = (T.data.toList.drop o).take (k + 1 - o) by
            rw [← take_grow _ o k hok, ← HO.out, hSS, ByteArray.data_append, Array.toList_append, mid_list T X k (k + 1) hX, show k + 1 - k = 1 by omega])
          have HP2 := Lib.hid ((pcsW_next _ _ _ _ l (fun _ => hst)).symm.trans HP.out)
          clear hX hSS hst
          go_wp2_with fail
          refine (HST1.out _).mono ?_
          rintro e w2 ⟨rfl, hb2⟩
          have HX2 := Lib.hid (HX.out.kept hb2)
          have HL2 := Lib.hid (HL.out.trans (hb2.mono hsz))
          have hz2 := hb2.size
          clear hb2
          go_wp2_with fail
          go_roundw
          case rel => exact ⟨l, SS, o, k + 1, rfl, by go_num, by omega, by omega, by omega, ⟨hSz, HN.out⟩, HX2.out, by omega, HL2.out, HP2.out⟩
          case measure => simp [intOf] <;> omega
        | some p =>
          rw [hst] at HST
          have HST1 := Lib.hid (show ∀ W : World, Calls Try.prog 38 #[.string B, .string X0] W fun e w' => e = .returned (.int .i64 (p : Int)) ∧ Below W.heap.size W w' from HST.out)
          clear HST
          obtain ⟨n, hn⟩ : ∃ n, n = cpl (B.data.toList.drop p) (T.data.toList.drop k) := ⟨_, rfl⟩
          have h8c := cpl_eight (by rw [HTL.out]; exact h8) hst
          rw [HBL.out, ← hn] at h8c
          obtain ⟨hn8, hp8⟩ := h8c
          have hnk : k + n ≤ T.size := by
            have := (cpl_le (B.data.toList.drop p) (T.data.toList.drop k)).2
            rw [List.length_drop, HTL.out, ← hn] at this
            omega
          have hpi : (p : Int) ≤ 3000 := by omega
          have hni : (n : Int) ≤ 3000 := by omega
          have HP2 := Lib.hid ((pcsW_some _ _ _ _ p n l (by rw [HTL.out]; exact h8) hst hn).symm.trans HP.out)
          rw [← HO.out] at HP2
          have HNN := Lib.hid hn
          have hp0d : decide ((p : Int) < 0) = false := decide_eq_false (by omega)
          clear hst hn
          go_wp2_with fail
          refine (HST1.out _).mono ?_
          rintro e w2 ⟨rfl, hb2⟩
          have HX2 := Lib.hid (HX.out.kept hb2)
          have HL2 := Lib.hid (HL.out.trans (hb2.mono hsz))
          have hz2 : w.heap.size ≤ w2.heap.size := Nat.le_trans hsz hb2.size
          clear hb2
          by_cases hO : O.size = 0
          · have hemp := emptyT O hO
            rw [addL_nil l O hO] at HP2
            have hO0 : O.size = 0 := hO
            have hO0l : O.data.toList = [] := List.eq_nil_of_length_eq_zero (by simpa using hO)
            go_wp2_with fail
            go_loopw [9] (fun jn wr2 => ∃ j : Nat, jn = .int .i64 (j : Int) ∧ j ≤ n ∧ n = j + cpl ((B.data.toList.drop p).drop j) ((T.data.toList.drop k).drop j) ∧ OwX pcC 4 34 wr2 w.heap.size _ l ∧ w.heap.size ≤ wr2.heap.size ∧ Below w.heap.size w wr2) (fun jn _ => n - (intOf jn).toNat)
            case atStart => exact ⟨0, rfl, Nat.zero_le _, by simpa using HNN.out, HX2.out, hz2, HL2.out⟩
            case round =>
              obtain ⟨j, rfl, hjn, hjc, hox4, hsz4, hbel4⟩ := hrel
              have HX4 := Lib.hid hox4
              have HL4 := Lib.hid hbel4
              have HC := Lib.hid hjc
              clear hox4 hbel4 hjc
              by_cases hj1 : k + j < T.size
              · have hd1 : decide ((k : Int) + (j : Int) < (T.size : Int)) = true := decide_eq_true (by omega)
                by_cases hj2 : p + j < B.size
                · have hd2 : decide ((p : Int) + (j : Int) < (B.size : Int)) = true := decide_eq_true (by omega)
                  obtain ⟨x, hx⟩ : ∃ x, T[k + j] = x := ⟨_, rfl⟩
                  obtain ⟨y, hy⟩ : ∃ y, B[p + j] = y := ⟨_, rfl⟩
                  have HS := Lib.hid (cpl_step2 B T p k n j hj2 hj1 HNN.out HC.out)
                  rw [hx, hy] at HS
                  have hk1 : ((k : Int) + (j : Int)).toNat = k + j := by omega
                  have hp1 : ((p : Int) + (j : Int)).toNat = p + j := by omega
                  have hk0 : 0 ≤ (k : Int) + (j : Int) := by omega
                  have hp0 : 0 ≤ (p : Int) + (j : Int) := by omega
                  by_cases hxy : y = x
                  · have hq : ((x.toNat : Int) == (y.toNat : Int)) = true := by rw [hxy]; simp
                    have hjn2 := (HS.out.1 hxy).1
                    have HC2 := Lib.hid (HS.out.1 hxy).2
                    have hw1 : IntKind.i64.wrap ((k : Int) + (j : Int)) = (k : Int) + (j : Int) := IntWalk.i64_in _ (by omega)
                    have hw2 : IntKind.i64.wrap ((p : Int) + (j : Int)) = (p : Int) + (j : Int) := IntWalk.i64_in _ (by omega)
                    clear hxy
                    go_wp2_with fail
                    go_quiet (fail)
                    clear hw1 hw2
                    go_wp2_with fail
                    go_roundw
                    case rel => exact ⟨j + 1, by go_num, hjn2, HC2.out, HX4.out, hsz4, ⟨HL4.out.os, HL4.out.tape, HL4.out.output, HL4.out.size, HL4.out.block⟩⟩
                    case measure => simp [intOf] <;> omega
                  · have hq : ((x.toNat : Int) == (y.toNat : Int)) = false := by
                      rw [beq_eq_false_iff_ne]
                      intro h
                      exact hxy (UInt8.toNat_inj.1 (by omega))
                    obtain rfl : j = n := HS.out.2 hxy
                    have hw1 : IntKind.i64.wrap ((k : Int) + (j : Int)) = (k : Int) + (j : Int) := IntWalk.i64_in _ (by omega)
                    have hw2 : IntKind.i64.wrap ((p : Int) + (j : Int)) = (p : Int) + (j : Int) := IntWalk.i64_in _ (by omega)
                    clear hxy
                    go_wp2_with fail
                    refine wp_region_quiet_below (by kernel_rfl) (by kernel_rfl) ?_
                    repeat (any_goals (first | go_big_quiet_step (fail) | quiet_step (fail)))
                    refine wpQuiet_nil ?_
                    intro w5 hw5
                    clear hw1 hw2
                    have hb5 := below_anyY hw5
                    clear hw5
                    have HX5 := Lib.hid (HX4.out.kept hb5)
                    have HL4b := Lib.hid (HL4.out.trans (hb5.mono hsz4))
                    have hsz5 : w.heap.size ≤ w5.heap.size := Nat.le_trans hsz4 hb5.size
                    clear hb5
                    have HL5 := Lib.hid (Below.refl w.heap.size w5)
                    go_wp2_with (at_builtin; refine wpList_appX rfl (.tmp 75) (.tmp 79) 23 34 _ 40 rfl Try.underlying23 info_pc rfl (by omega) (by omega) pcC_len pcC_one w.heap.size w5 (HL5.out.alloc hsz5 _) (by simp; omega) _ l rfl (HX5.out.alloc _) w5.heap.size 1 (true, (p : Int), (j : Int), ⟨#[]⟩) #[.bool true, .int .i64 (p : Int), .int .i64 (j : Int), .string ⟨#[]⟩] 34 (0, 0) rfl (heap_alloc_new w5 _) rfl (by omega) ?_)
                    intro v6 w6 HO6 HB6 HZ6 HG6
                    have HL6 := Lib.hid (HL4b.out.trans HB6.out)
                    go_wp2_with fail
                    go_roundw
                    case rel => exact ⟨_, O, k + j, k + j, rfl, by go_num, Nat.le_refl _, hnk, by rw [List.length_append]; simp; omega, ⟨by omega, by rw [hO0l]; simp⟩, HO6.out, HZ6.out, HL6.out, HP2.out⟩
                    case measure => simp [intOf] <;> omega
                · have hd2 : decide ((p : Int) + (j : Int) < (B.size : Int)) = false := decide_eq_false (by omega)
                  obtain rfl : j = n := by
                    have h1 := (cpl_le ((B.data.toList.drop p).drop j) ((T.data.toList.drop k).drop j)).1
                    have h2 := HC.out
                    rw [List.length_drop, List.length_drop, HBL.out] at h1
                    omega
                  have hw1 : IntKind.i64.wrap ((k : Int) + (j : Int)) = (k : Int) + (j : Int) := IntWalk.i64_in _ (by omega)
                  have hw2 : IntKind.i64.wrap ((p : Int) + (j : Int)) = (p : Int) + (j : Int) := IntWalk.i64_in _ (by omega)
                  go_wp2_with fail
                  refine wp_region_quiet_below (by kernel_rfl) (by kernel_rfl) ?_
                  repeat (any_goals (first | go_big_quiet_step (fail) | quiet_step (fail)))
                  refine wpQuiet_nil ?_
                  intro w5 hw5
                  clear hw1 hw2
                  have hb5 := below_anyY hw5
                  clear hw5
                  have HX5 := Lib.hid (HX4.out.kept hb5)
                  have HL4b := Lib.hid (HL4.out.trans (hb5.mono hsz4))
                  have hsz5 : w.heap.size ≤ w5.heap.size := Nat.le_trans hsz4 hb5.size
                  clear hb5
                  have HL5 := Lib.hid (Below.refl w.heap.size w5)
                  go_wp2_with (at_builtin; refine wpList_appX rfl (.tmp 75) (.tmp 79) 23 34 _ 40 rfl Try.underlying23 info_pc rfl (by omega) (by omega) pcC_len pcC_one w.heap.size w5 (HL5.out.alloc hsz5 _) (by simp; omega) _ l rfl (HX5.out.alloc _) w5.heap.size 1 (true, (p : Int), (j : Int), ⟨#[]⟩) #[.bool true, .int .i64 (p : Int), .int .i64 (j : Int), .string ⟨#[]⟩] 34 (0, 0) rfl (heap_alloc_new w5 _) rfl (by omega) ?_)
                  intro v6 w6 HO6 HB6 HZ6 HG6
                  have HL6 := Lib.hid (HL4b.out.trans HB6.out)
                  go_wp2_with fail
                  go_roundw
                  case rel => exact ⟨_, O, k + j, k + j, rfl, by go_num, Nat.le_refl _, hnk, by rw [List.length_append]; simp; omega, ⟨by omega, by rw [hO0l]; simp⟩, HO6.out, HZ6.out, HL6.out, HP2.out⟩
                  case measure => simp [intOf] <;> omega
              · have hd1 : decide ((k : Int) + (j : Int) < (T.size : Int)) = false := decide_eq_false (by omega)
                obtain rfl : j = n := by
                  have h1 := (cpl_le ((B.data.toList.drop p).drop j) ((T.data.toList.drop k).drop j)).2
                  have h2 := HC.out
                  rw [List.length_drop, List.length_drop, HTL.out] at h1
                  omega
                have hw1 : IntKind.i64.wrap ((k : Int) + (j : Int)) = (k : Int) + (j : Int) := IntWalk.i64_in _ (by omega)
                go_wp2_with fail
                refine wp_region_quiet_below (by kernel_rfl) (by kernel_rfl) ?_
                repeat (any_goals (first | go_big_quiet_step (fail) | quiet_step (fail)))
                refine wpQuiet_nil ?_
                intro w5 hw5
                clear hw1
                have hb5 := below_anyY hw5
                clear hw5
                have HX5 := Lib.hid (HX4.out.kept hb5)
                have HL4b := Lib.hid (HL4.out.trans (hb5.mono hsz4))
                have hsz5 : w.heap.size ≤ w5.heap.size := Nat.le_trans hsz4 hb5.size
                clear hb5
                have HL5 := Lib.hid (Below.refl w.heap.size w5)
                go_wp2_with (at_builtin; refine wpList_appX rfl (.tmp 75) (.tmp 79) 23 34 _ 40 rfl Try.underlying23 info_pc rfl (by omega) (by omega) pcC_len pcC_one w.heap.size w5 (HL5.out.alloc hsz5 _) (by simp; omega) _ l rfl (HX5.out.alloc _) w5.heap.size 1 (true, (p : Int), (j : Int), ⟨#[]⟩) #[.bool true, .int .i64 (p : Int), .int .i64 (j : Int), .string ⟨#[]⟩] 34 (0, 0) rfl (heap_alloc_new w5 _) rfl (by omega) ?_)
                intro v6 w6 HO6 HB6 HZ6 HG6
                have HL6 := Lib.hid (HL4b.out.trans HB6.out)
                go_wp2_with fail
                go_roundw
                case rel => exact ⟨_, O, k + j, k + j, rfl, by go_num, Nat.le_refl _, hnk, by rw [List.length_append]; simp; omega, ⟨by omega, by rw [hO0l]; simp⟩, HO6.out, HZ6.out, HL6.out, HP2.out⟩
                case measure => simp [intOf] <;> omega
          · have hemp := emptyF O hO
            rw [addL_one l O hO] at HP2
            have hoi : (O.size : Int) ≤ 3000 := by omega
            clear hos
            have HR2 := Lib.hid (Below.refl w.heap.size w2)
            go_wp2_with (at_builtin; refine wpList_appX rfl (.tmp 39) (.tmp 44) 23 34 _ 40 rfl Try.underlying23 info_pc rfl (by omega) (by omega) pcC_len pcC_one w.heap.size w2 (HR2.out.alloc hz2 _) (by simp; omega) _ l rfl (HX2.out.alloc _) w2.heap.size 1 (false, 0, (O.size : Int), O) #[.bool false, .int .i64 0, .int .i64 (O.size : Int), .string O] 34 (0, 0) rfl (heap_alloc_new w2 _) rfl (by omega) ?_)
            intro v3 w3 HX3 HB3 HZ3 HG3
            have HL3 := Lib.hid (HL2.out.trans HB3.out)
            have hl3 : (l ++ [(false, 0, (O.size : Int), O)]).length ≤ 2 * k + 1 := by rw [List.length_append]; simp; omega
            obtain ⟨l3, hL3⟩ : ∃ l3, l ++ [(false, 0, (O.size : Int), O)] = l3 := ⟨_, rfl⟩
            rw [hL3] at HX3 HP2 hl3
            clear hL3
            go_wp2_with fail
            go_loopw [9] (fun jn wr2 => ∃ j : Nat, jn = .int .i64 (j : Int) ∧ j ≤ n ∧ n = j + cpl ((B.data.toList.drop p).drop j) ((T.data.toList.drop k).drop j) ∧ OwX pcC 4 34 wr2 w.heap.size v3 l3 ∧ w.heap.size ≤ wr2.heap.size ∧ Below w.heap.size w wr2) (fun jn _ => n - (intOf jn).toNat)
            case atStart => exact ⟨0, rfl, Nat.zero_le _, by simpa using HNN.out, HX3.out, HZ3.out, HL3.out⟩
            case round =>
              obtain ⟨j, rfl, hjn, hjc, hox4, hsz4, hbel4⟩ := hrel
              have HX4 := Lib.hid hox4
              have HL4 := Lib.hid hbel4
              have HC := Lib.hid hjc
              clear hox4 hbel4 hjc
              by_cases hj1 : k + j < T.size
              · have hd1 : decide ((k : Int) + (j : Int) < (T.size : Int)) = true := decide_eq_true (by omega)
                by_cases hj2 : p + j < B.size
                · have hd2 : decide ((p : Int) + (j : Int) < (B.size : Int)) = true := decide_eq_true (by omega)
                  obtain ⟨x, hx⟩ : ∃ x, T[k + j] = x := ⟨_, rfl⟩
                  obtain ⟨y, hy⟩ : ∃ y, B[p + j] = y := ⟨_, rfl⟩
                  have HS := Lib.hid (cpl_step2 B T p k n j hj2 hj1 HNN.out HC.out)
                  rw [hx, hy] at HS
                  have hk1 : ((k : Int) + (j : Int)).toNat = k + j := by omega
                  have hp1 : ((p : Int) + (j : Int)).toNat = p + j := by omega
                  have hk0 : 0 ≤ (k : Int) + (j : Int) := by omega
                  have hp0 : 0 ≤ (p : Int) + (j : Int) := by omega
                  by_cases hxy : y = x
                  · have hq : ((x.toNat : Int) == (y.toNat : Int)) = true := by rw [hxy]; simp
                    have hjn2 := (HS.out.1 hxy).1
                    have HC2 := Lib.hid (HS.out.1 hxy).2
                    have hw1 : IntKind.i64.wrap ((k : Int) + (j : Int)) = (k : Int) + (j : Int) := IntWalk.i64_in _ (by omega)
                    have hw2 : IntKind.i64.wrap ((p : Int) + (j : Int)) = (p : Int) + (j : Int) := IntWalk.i64_in _ (by omega)
                    clear hxy
                    go_wp2_with fail
                    go_quiet (fail)
                    clear hw1 hw2
                    go_wp2_with fail
                    go_roundw
                    case rel => exact ⟨j + 1, by go_num, hjn2, HC2.out, HX4.out, hsz4, ⟨HL4.out.os, HL4.out.tape, HL4.out.output, HL4.out.size, HL4.out.block⟩⟩
                    case measure => simp [intOf] <;> omega
                  · have hq : ((x.toNat : Int) == (y.toNat : Int)) = false := by
                      rw [beq_eq_false_iff_ne]
                      intro h
                      exact hxy (UInt8.toNat_inj.1 (by omega))
                    obtain rfl : j = n := HS.out.2 hxy
                    have hw1 : IntKind.i64.wrap ((k : Int) + (j : Int)) = (k : Int) + (j : Int) := IntWalk.i64_in _ (by omega)
                    have hw2 : IntKind.i64.wrap ((p : Int) + (j : Int)) = (p : Int) + (j : Int) := IntWalk.i64_in _ (by omega)
                    clear hxy
                    go_wp2_with fail
                    refine wp_region_quiet_below (by kernel_rfl) (by kernel_rfl) ?_
                    repeat (any_goals (first | go_big_quiet_step (fail) | quiet_step (fail)))
                    refine wpQuiet_nil ?_
                    intro w5 hw5
                    clear hw1 hw2
                    have hb5 := below_anyY hw5
                    clear hw5
                    have HX5 := Lib.hid (HX4.out.kept hb5)
                    have HL4b := Lib.hid (HL4.out.trans (hb5.mono hsz4))
                    have hsz5 : w.heap.size ≤ w5.heap.size := Nat.le_trans hsz4 hb5.size
                    clear hb5
                    have HL5 := Lib.hid (Below.refl w.heap.size w5)
                    go_wp2_with (at_builtin; refine wpList_appX rfl (.tmp 75) (.tmp 79) 23 34 _ 40 rfl Try.underlying23 info_pc rfl (by omega) (by omega) pcC_len pcC_one w.heap.size w5 (HL5.out.alloc hsz5 _) (by simp; omega) v3 l3 rfl (HX5.out.alloc _) w5.heap.size 1 (true, (p : Int), (j : Int), ⟨#[]⟩) #[.bool true, .int .i64 (p : Int), .int .i64 (j : Int), .string ⟨#[]⟩] 34 (0, 0) rfl (heap_alloc_new w5 _) rfl (by omega) ?_)
                    intro v6 w6 HO6 HB6 HZ6 HG6
                    have HL6 := Lib.hid (HL4b.out.trans HB6.out)
                    go_wp2_with fail
                    go_roundw
                    case rel => exact ⟨_, ⟨#[]⟩, k + j, k + j, rfl, by go_num, Nat.le_refl _, hnk, by rw [List.length_append]; simp; omega, ⟨(Nat.sub_self (k + j)).symm, by simp⟩, HO6.out, HZ6.out, HL6.out, HP2.out⟩
                    case measure => simp [intOf] <;> omega
                · have hd2 : decide ((p : Int) + (j : Int) < (B.size : Int)) = false := decide_eq_false (by omega)
                  obtain rfl : j = n := by
                    have h1 := (cpl_le ((B.data.toList.drop p).drop j) ((T.data.toList.drop k).drop j)).1
                    have h2 := HC.out
                    rw [List.length_drop, List.length_drop, HBL.out] at h1
                    omega
                  have hw1 : IntKind.i64.wrap ((k : Int) + (j : Int)) = (k : Int) + (j : Int) := IntWalk.i64_in _ (by omega)
                  have hw2 : IntKind.i64.wrap ((p : Int) + (j : Int)) = (p : Int) + (j : Int) := IntWalk.i64_in _ (by omega)
                  go_wp2_with fail
                  refine wp_region_quiet_below (by kernel_rfl) (by kernel_rfl) ?_
                  repeat (any_goals (first | go_big_quiet_step (fail) | quiet_step (fail)))
                  refine wpQuiet_nil ?_
                  intro w5 hw5
                  clear hw1 hw2
                  have hb5 := below_anyY hw5
                  clear hw5
                  have HX5 := Lib.hid (HX4.out.kept hb5)
                  have HL4b := Lib.hid (HL4.out.trans (hb5.mono hsz4))
                  have hsz5 : w.heap.size ≤ w5.heap.size := Nat.le_trans hsz4 hb5.size
                  clear hb5
                  have HL5 := Lib.hid (Below.refl w.heap.size w5)
                  go_wp2_with (at_builtin; refine wpList_appX rfl (.tmp 75) (.tmp 79) 23 34 _ 40 rfl Try.underlying23 info_pc rfl (by omega) (by omega) pcC_len pcC_one w.heap.size w5 (HL5.out.alloc hsz5 _) (by simp; omega) v3 l3 rfl (HX5.out.alloc _) w5.heap.size 1 (true, (p : Int), (j : Int), ⟨#[]⟩) #[.bool true, .int .i64 (p : Int), .int .i64 (j : Int), .string ⟨#[]⟩] 34 (0, 0) rfl (heap_alloc_new w5 _) rfl (by omega) ?_)
                  intro v6 w6 HO6 HB6 HZ6 HG6
                  have HL6 := Lib.hid (HL4b.out.trans HB6.out)
                  go_wp2_with fail
                  go_roundw
                  case rel => exact ⟨_, ⟨#[]⟩, k + j, k + j, rfl, by go_num, Nat.le_refl _, hnk, by rw [List.length_append]; simp; omega, ⟨(Nat.sub_self (k + j)).symm, by simp⟩, HO6.out, HZ6.out, HL6.out, HP2.out⟩
                  case measure => simp [intOf] <;> omega
              · have hd1 : decide ((k : Int) + (j : Int) < (T.size : Int)) = false := decide_eq_false (by omega)
                obtain rfl : j = n := by
                  have h1 := (cpl_le ((B.data.toList.drop p).drop j) ((T.data.toList.drop k).drop j)).2
                  have h2 := HC.out
                  rw [List.length_drop, List.length_drop, HTL.out] at h1
                  omega
                have hw1 : IntKind.i64.wrap ((k : Int) + (j : Int)) = (k : Int) + (j : Int) := IntWalk.i64_in _ (by omega)
                go_wp2_with fail
                refine wp_region_quiet_below (by kernel_rfl) (by kernel_rfl) ?_
                repeat (any_goals (first | go_big_quiet_step (fail) | quiet_step (fail)))
                refine wpQuiet_nil ?_
                intro w5 hw5
                clear hw1
                have hb5 := below_anyY hw5
                clear hw5
                have HX5 := Lib.hid (HX4.out.kept hb5)
                have HL4b := Lib.hid (HL4.out.trans (hb5.mono hsz4))
                have hsz5 : w.heap.size ≤ w5.heap.size := Nat.le_trans hsz4 hb5.size
                clear hb5
                have HL5 := Lib.hid (Below.refl w.heap.size w5)
                go_wp2_with (at_builtin; refine wpList_appX rfl (.tmp 75) (.tmp 79) 23 34 _ 40 rfl Try.underlying23 info_pc rfl (by omega) (by omega) pcC_len pcC_one w.heap.size w5 (HL5.out.alloc hsz5 _) (by simp; omega) v3 l3 rfl (HX5.out.alloc _) w5.heap.size 1 (true, (p : Int), (j : Int), ⟨#[]⟩) #[.bool true, .int .i64 (p : Int), .int .i64 (j : Int), .string ⟨#[]⟩] 34 (0, 0) rfl (heap_alloc_new w5 _) rfl (by omega) ?_)
                intro v6 w6 HO6 HB6 HZ6 HG6
                have HL6 := Lib.hid (HL4b.out.trans HB6.out)
                go_wp2_with fail
                go_roundw
                case rel => exact ⟨_, ⟨#[]⟩, k + j, k + j, rfl, by go_num, Nat.le_refl _, hnk, by rw [List.length_append]; simp; omega, ⟨(Nat.sub_self (k + j)).symm, by simp⟩, HO6.out, HZ6.out, HL6.out, HP2.out⟩
                case measure => simp [intOf] <;> omega
      · have hk8 : decide ((k : Int) + 8 ≤ (T.size : Int)) = false := decide_eq_false (by omega)
        obtain ⟨X, hX⟩ : ∃ X, X = T.extract k (k + 1) := ⟨_, rfl⟩
        obtain ⟨SS, hSS⟩ : ∃ SS : ByteArray, SS = O ++ X := ⟨_, rfl⟩
        have hsl : ∀ W, _ := fun W => run_mid T k (k + 1) (by omega) (by omega) X hX W
        rw [show ((k + 1 : Nat) : Int) = (k : Int) + 1 by omega] at hsl
        have hXs : X.size = 1 := by rw [hX, ByteArray.size_extract]; omega
        have q1 : ∀ W, (Op.stringOp .add O X).run Try.prog W = .ok (.string SS) W := fun W => by rw [hSS]; exact run_string_add_sum W _ _ (by omega)
        have hSz : SS.size = k + 1 - o := by rw [hSS, ByteArray.size_append, hXs]; omega
        have HN := Lib.hid (show SS.data.toList = (T.data.toList.drop o).take (k + 1 - o) by
          rw [← take_grow _ o k hok, ← HO.out, hSS, ByteArray.data_append, Array.toList_append, mid_list T X k (k + 1) hX, show k + 1 - k = 1 by omega])
        have HP2 := Lib.hid ((pcsW_next _ _ _ _ l (fun e => absurd e (by rw [HTL.out]; exact h8))).symm.trans HP.out)
        clear hX hSS 
        go_wp2_with fail
        go_roundw
        case rel => exact ⟨l, SS, o, k + 1, rfl, by go_num, by omega, by omega, by omega, ⟨hSz, HN.out⟩, HX.out, hsz, HL.out, HP2.out⟩
        case measure => simp [intOf] <;> omega
    · obtain rfl : k = T.size := by omega
      have hkt : decide ((T.size : Int) < (T.size : Int)) = false := decide_eq_false (by omega)
      have HE := Lib.hid (show addL l O.data.toList = pcsW B.data.toList T.data.toList 0 0 [] by
        rw [← HP.out, HO.out, ← HTL.out, pcsW_last])
      by_cases hO : O.size = 0
      · have hemp := emptyT O hO
        rw [addL_nil l O hO] at HE
        go_wp2_with fail
        go_ret
        exact ⟨_, rfl, by rw [← HE.out]; exact HX.out, HL.out, hsz⟩
      · have hemp := emptyF O hO
        rw [addL_one l O hO] at HE
        have hoi : (O.size : Int) ≤ 3000 := by omega
        clear hos
        have HR2 := Lib.hid (Below.refl w.heap.size wr)
        go_wp2_with (at_builtin; refine wpList_appX rfl (.tmp 86) (.tmp 91) 23 34 _ 40 rfl Try.underlying23 info_pc rfl (by omega) (by omega) pcC_len pcC_one w.heap.size wr (HR2.out.alloc hsz _) (by simp; omega) _ l rfl (HX.out.alloc _) wr.heap.size 1 (false, 0, (O.size : Int), O) #[.bool false, .int .i64 0, .int .i64 (O.size : Int), .string O] 34 (0, 0) rfl (heap_alloc_new wr _) rfl (by omega) ?_)
        intro v3 w3 HX3 HB3 HZ3 HG3
        have HL3 := Lib.hid (HL.out.trans HB3.out)
        go_wp2_with fail
        go_ret
        exact ⟨v3, rfl, by rw [← HE.out]; exact HX3.out, HL3.out, HZ3.out⟩
end Go.Proofs.Ytpiafgdbjpfcaaa
