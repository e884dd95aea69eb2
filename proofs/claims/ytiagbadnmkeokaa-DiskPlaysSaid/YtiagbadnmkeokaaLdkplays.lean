/- P7.1 to P7.3: whatever is done with a disk of any few sectors, both disks answer the same. Condition: texts of at most 2^47 - 4096 bytes. -/
import Derived.Test.YtiagbadnmkeokaaDNh
namespace Go.Proofs.Ytiagbadnmkeokaa
open Go.RowKit Vi

set_option maxRecDepth 100000 in
set_option maxHeartbeats 4000000 in
theorem dplays_a (z : Int) (A : Option Addr) (m c : Nat) (w : World) (hz : 40 < z ∧ z ≤ 4096) :
    Calls Try.prog 3 #[.int .i64 z, .slice A m c] w fun e w' => e = .returned (.bool true) ∧ Below w.heap.size w w' := by
  have t0 : decide (z > 40) = true := decide_eq_true (by omega)
  have t1 : decide (40 < z) = true := decide_eq_true (by omega)
  have t2 : decide (z ≤ 4096) = true := decide_eq_true (by omega)
  clear hz
  go_enter Try.func3, Try.ntmps3
  go_wp2_with fail
  refine (awake7_any _).mono ?_
  rintro e w1 ⟨rfl, hb1⟩
  have HB := Lib.hid hb1
  clear hb1
  go_wp2_with fail
  go_ret
  exact ⟨rfl, HB.out⟩
set_option maxRecDepth 100000 in
set_option maxHeartbeats 4000000 in
theorem dplays_b (z : Int) (A : Option Addr) (m c : Nat) (l : List Ac) (w : World) (h : RdX acC 6 w A m l) (hm : m ≤ maxLen) (hz : z < 16 ∨ 4096 < z) :
    Calls Try.prog 3 #[.int .i64 z, .slice A m c] w fun e w' => e = .returned (.bool true) ∧ Below w.heap.size w w' := by
  have HN := Lib.hid (fun W : World => dnew_no z W (by omega))
  have HFW := Lib.hid (few7_any A m c l w h hm)
  by_cases h40 : 40 < z
  · have t0 : decide (z > 40) = true := decide_eq_true (by omega)
    have t1 : decide (40 < z) = true := decide_eq_true (by omega)
    have t2 : decide (z ≤ 4096) = false := decide_eq_false (by omega)
    have t3 : decide (z < 16) = false := decide_eq_false (by omega)
    have t4 : decide (z > 4096) = true := decide_eq_true (by omega)
    have t5 : decide (4096 < z) = true := decide_eq_true (by omega)
    clear hz h40
    go_enter Try.func3, Try.ntmps3
    go_wp2_with fail
    refine HFW.out.mono ?_
    rintro e w1 ⟨b, rfl, hf, hb1⟩
    have HB1 := Lib.hid hb1
    clear hb1 HFW
    cases b with
    | false =>
      clear hf
      go_wp2_with fail
      refine (awake7_any _).mono ?_
      rintro e w2 ⟨rfl, hb2⟩
      have HB2 := Lib.hid (HB1.out.trans (hb2.mono HB1.out.size))
      clear hb2
      go_wp2_with fail
      go_ret
      exact ⟨rfl, HB2.out⟩
    | true =>
      have hl60 : l.length ≤ 60 := hf rfl
      clear hf
      clear hl60
      go_wp2_with fail
      refine (HN.out _).mono ?_
      rintro e w2 ⟨rfl, hb2⟩
      have HB2 := Lib.hid (HB1.out.trans (hb2.mono HB1.out.size))
      clear hb2 HB1
      go_wp2_with fail
      refine (awake7_any _).mono ?_
      rintro e w3 ⟨rfl, hb3⟩
      have HB3 := Lib.hid (HB2.out.trans (hb3.mono HB2.out.size))
      clear hb3
      go_wp2_with fail
      go_ret
      exact ⟨rfl, HB3.out⟩
  · have t0 : decide (z > 40) = false := decide_eq_false (by omega)
    have t1 : decide (40 < z) = false := decide_eq_false (by omega)
    have t2 : decide (z < 16) = true := decide_eq_true (by omega)
    clear hz h40
    go_enter Try.func3, Try.ntmps3
    go_wp2_with fail
    refine HFW.out.mono ?_
    rintro e w1 ⟨b, rfl, hf, hb1⟩
    have HB1 := Lib.hid hb1
    clear hb1 HFW
    cases b with
    | false =>
      clear hf
      go_wp2_with fail
      refine (awake7_any _).mono ?_
      rintro e w2 ⟨rfl, hb2⟩
      have HB2 := Lib.hid (HB1.out.trans (hb2.mono HB1.out.size))
      clear hb2
      go_wp2_with fail
      go_ret
      exact ⟨rfl, HB2.out⟩
    | true =>
      have hl60 : l.length ≤ 60 := hf rfl
      clear hf
      clear hl60
      go_wp2_with fail
      refine (HN.out _).mono ?_
      rintro e w2 ⟨rfl, hb2⟩
      have HB2 := Lib.hid (HB1.out.trans (hb2.mono HB1.out.size))
      clear hb2 HB1
      go_wp2_with fail
      refine (awake7_any _).mono ?_
      rintro e w3 ⟨rfl, hb3⟩
      have HB3 := Lib.hid (HB2.out.trans (hb3.mono HB2.out.size))
      clear hb3
      go_wp2_with fail
      go_ret
      exact ⟨rfl, HB3.out⟩
set_option maxRecDepth 100000 in
set_option maxHeartbeats 4000000 in
theorem dplays_c (z : Int) (A : Option Addr) (m c : Nat) (l : List Ac) (w : World) (h : RdX acC 6 w A m l) (ok : ∀ a ∈ l, AcOk w a) (hm : m ≤ maxLen) (hz : 16 ≤ z ∧ z ≤ 40) :
    Calls Try.prog 3 #[.int .i64 z, .slice A m c] w fun e w' => e = .returned (.bool true) ∧ Below w.heap.size w w' := by
  obtain ⟨N, rfl⟩ : ∃ N : Nat, z = (N : Int) := ⟨z.toNat, by omega⟩
  have hm1 : m ≤ 9223372036854775807 := Nat.le_trans hm (by decide)
  have HN := Lib.hid (fun W : World => dnew_yes N W (by omega) (by omega))
  have HFW := Lib.hid (few7_any A m c l w h hm)
  have H := Lib.hid h
  have HOKA := Lib.hid ok
  have hSl : (List.replicate N noZ).length = N := List.length_replicate
  have HSz := Lib.hid (fun (k : Nat) (hk : k < N) => show (List.replicate N noZ)[k]? = some noZ by rw [List.getElem?_replicate, if_pos hk])
  have HNO := Lib.hid (fun W : World => dnoughts_any W)
  have HD0 : Hid (DsOk 0 ⟨List.replicate N noZ, [], 0, false, 0⟩) := Lib.hid ⟨by show 16 ≤ (List.replicate N noZ).length; omega, by show (List.replicate N noZ).length ≤ _; omega, Nat.zero_le _, Int.le_refl _, by show (0 : Int) ≤ _; omega, Int.le_refl _, Int.le_refl _⟩
  generalize List.replicate N noZ = S at HN hSl HSz HD0
  generalize noZ = nz at HSz HNO
  have HSl := Lib.hid hSl
  clear h ok hm hSl
  have t0 : decide ((N : Int) > 40) = false := decide_eq_false (by omega)
  have t1 : decide (40 < (N : Int)) = false := decide_eq_false (by omega)
  have t2 : decide ((N : Int) < 16) = false := decide_eq_false (by omega)
  have t3 : decide ((N : Int) > 4096) = false := decide_eq_false (by omega)
  have t4 : decide (4096 < (N : Int)) = false := decide_eq_false (by omega)
  go_enter Try.func3, Try.ntmps3
  go_wp2_with fail
  refine HFW.out.mono ?_
  rintro e w1 ⟨b, rfl, hf, hb1⟩
  have HB1 := Lib.hid hb1
  clear hb1 HFW
  cases b with
  | false =>
    clear hf
    go_wp2_with fail
    refine (awake7_any _).mono ?_
    rintro e w2 ⟨rfl, hb2⟩
    have HB2 := Lib.hid (HB1.out.trans (hb2.mono HB1.out.size))
    clear hb2
    go_wp2_with fail
    go_ret
    exact ⟨rfl, HB2.out⟩
  | true =>
    have hl60 : l.length ≤ 60 := hf rfl
    clear hf
    go_wp2_with fail
    refine (HN.out _).mono ?_
    rintro e w2 ⟨D, rfl, hd2, hi2, hb2⟩
    have HW2 : Hid (DW w.heap.size w D ⟨S, [], 0, false, 0⟩ w2) := Lib.hid ⟨hd2, fun b q => Nat.le_trans HB1.out.size (hi2 b q), HB1.out.trans (hb2.mono HB1.out.size), Nat.le_trans HB1.out.size hb2.size⟩
    clear hd2 hi2 hb2 HB1 HN
    go_wp2_with fail
    refine (dseize_any D S [] false 0 0 w2 HW2.out.dk (by have q : S.length ≤ 4096 := HD0.out.s2; omega) (by simp)).mono ?_
    rintro e w3 ⟨A9, n9, c9, B9, m9, k9, rfl, hs3, hc3, hb3⟩
    have HS3 := Lib.hid (hs3.rdA stC_len HW2.out hb3)
    have HC3 := Lib.hid (hc3.rdA wrC_len HW2.out hb3)
    have HW3 := Lib.hid (HW2.out.below hb3)
    clear hs3 hc3 hb3 HW2
    obtain rfl : N = n9 := HSl.out.symm.trans HS3.out.1.1
    obtain rfl : 0 = m9 := HC3.out.1.1
    have HB0 := Lib.hid ((Below.refl w3.heap.size w3).alloc (Nat.le_refl _) (.cells #[.slice none 0 0, .slice none 0 0, .int .i64 0, .bool false, .int .i64 0] 35 (0, 0)))
    have HN0 := Lib.hid (blk_new w3 (.cells #[.slice none 0 0, .slice none 0 0, .int .i64 0, .bool false, .int .i64 0] 35 (0, 0)))
    go_wp2_with (refine wpList_store_rowY rfl 35 (.tmp 7) (.tmp 52) rfl w3.heap.size #[.slice A9 N c9, .slice B9 0 k9, .int .i64 0, .bool false, .int .i64 0] rfl rfl 35 _ HN0.out info_rd rfl (by simp [Value.oneCell']) w3.heap.size w3 HB0.out (Nat.le_refl _) ?_)
    intro w4 hbk hoth hbel _
    have HT4 : Hid (St w.heap.size w D w3.heap.size ⟨S, [], 0, false, 0⟩ A9 N c9 B9 0 k9 w4) := Lib.hid ⟨HW3.out.below hbel.out, hbk.out, fun q => by have := HW3.out.dk.new (q.back hbel.out HW3.out.lt); omega, HS3.out.kd (Kd.of_below hbel.out HW3.out.lt), HC3.out.kd (Kd.of_below hbel.out HW3.out.lt), HW3.out.sz⟩
    clear hbk hoth hbel HB0 HN0 HW3 HS3 HC3
    generalize w3.heap.size = x at *
    have y0 : w4.cell? ⟨x, 0, none⟩ = some (.slice A9 N c9) := (cell_of_row _ _ 0 _ _ _ HT4.out.xb).trans rfl
    have y1 : w4.cell? ⟨x, 1, none⟩ = some (.slice B9 0 k9) := (cell_of_row _ _ 1 _ _ _ HT4.out.xb).trans rfl
    go_wp2_with fail
    go_loopw [67] (fun i wr => ∃ j : Nat, i = .int .i64 (j : Int) ∧ j ≤ N ∧ Below w4.heap.size w4 wr) (fun i _ => N - (intOf i).toNat)
    case atStart => exact ⟨0, rfl, Nat.zero_le _, Below.refl _ _⟩
    case round =>
      obtain ⟨j, rfl, hj, hb⟩ := hrel
      have HT := Lib.hid (HT4.out.kept hb)
      have HB := Lib.hid hb
      clear hb y0 y1
      by_cases hlt : j < N
      · have hd1 : decide ((j : Int) < (N : Int)) = true := decide_eq_true (by omega)
        have hi0 : (0 : Int) ≤ (j : Int) := by omega
        have hs1 : IntKind.i64.wrap ((j : Int) + 1) = (j : Int) + 1 := IntWalk.i64_in _ (by omega)
        obtain ⟨ba, oa, hl1, rfl, hba, hca⟩ := (HT.out.s.1).at hlt
        have hv1 : S[j]'hl1 = nz := by have q := HSz.out j hlt; rw [List.getElem?_eq_getElem hl1] at q; injection q
        have c1 : wr.cell? ⟨ba, oa + j, none⟩ = some (.string nz) := by have q := hca 0 (.string (S[j]'hl1)) rfl; rw [hv1] at q; simpa using q
        clear hca hba hv1 hl1
        have x0 := (cell_of_row _ _ 0 _ _ _ HT.out.xb).trans (show _ = some (Value.slice (some ⟨ba, oa, none⟩) N c9) from rfl)
        have r1 := fun d os => cell_regrown c1 d os
        have r3 := fun d os => cell_regrown x0 d os
        go_upto_region 14 with (fail)
        refine wp_region_quiet_below (by kernel_rfl) (by kernel_rfl) ?_
        repeat (any_goals (first | go_big_quiet_step ((go_at_call 12; with_reducible exact Calls.regrown_of (HNO.out _))) | quiet_step ((go_at_call 12; with_reducible exact Calls.regrown_of (HNO.out _)))))
        refine wpQuiet_nil ?_
        intro w5 hw5
        have hb5 := below_anyY hw5
        have HB5 := Lib.hid (HB.out.trans (hb5.mono HB.out.size))
        clear hw5 hb5 c1 r1 r3 x0
        go_wp2_with fail
        go_roundw
        case rel => exact ⟨j + 1, by go_num, by omega, HB5.out⟩
        case measure => simp [intOf] <;> omega
      · have hd1 : decide ((j : Int) < (N : Int)) = false := decide_eq_false (by omega)
        go_wp2_with fail
        go_loopw [81] (fun i wr => ∃ (k : Nat) (d : Ds) (A : Option Addr) (n c : Nat) (A2 : Option Addr) (n2 c2 : Nat), i = .int .i64 (k : Int) ∧ k ≤ m ∧ DsOk k d ∧ St w.heap.size w D x d A n c A2 n2 c2 wr) (fun i _ => m - (intOf i).toNat)
        case atStart => exact ⟨0, _, _, _, _, _, _, _, rfl, Nat.zero_le _, HD0.out, HT.out⟩
        case round =>
          obtain ⟨k, d, A6, n6, c6, B6, m6, k6, rfl, hk, hok, hst⟩ := hrel
          clear HT HB HT4 HD0 HSz HNO
          have HO := Lib.hid hok
          have HT := Lib.hid hst
          clear hok hst
          by_cases hlt2 : k < m
          · have hd2 : decide ((k : Int) < (m : Int)) = true := decide_eq_true (by omega)
            have hi0 : (0 : Int) ≤ (k : Int) := by omega
            have hs1 : IntKind.i64.wrap ((k : Int) + 1) = (k : Int) + 1 := IntWalk.i64_in _ (by omega)
            have hk60 : k ≤ 1000 := by have := H.out.1; omega
            obtain ⟨ba, oa, hl1, rfl, hba, hca⟩ := (H.out.below HT.out.dw.bel).at hlt2
            obtain ⟨a, ha⟩ : ∃ a, a = l[k]'hl1 := ⟨_, rfl⟩
            have HA := Lib.hid (HOKA.out (l[k]'hl1) (List.getElem_mem hl1))
            have c0 : wr.cell? ⟨ba, oa + k * 6, none⟩ = some (.int .i64 (l[k]'hl1).kd) := by have q := hca 0 _ rfl; simpa using q
            have c1 := hca 1 (.int .i64 (l[k]'hl1).at') rfl
            have c2 := hca 2 (.int .i64 (l[k]'hl1).nn) rfl
            have c3 := hca 3 (.string (l[k]'hl1).t) rfl
            have c4 := hca 4 (.bool (l[k]'hl1).rw') rfl
            have c5 := hca 5 (.slice (l[k]'hl1).ka (l[k]'hl1).kn (l[k]'hl1).kc) rfl
            rw [← ha] at c0 c1 c2 c3 c4 c5 HA
            clear hca hba ha hl1
            have HB0 := Lib.hid ((Below.refl wr.heap.size wr).alloc (Nat.le_refl _) (.cells #[.int .i64 0, .int .i64 0, .int .i64 0, .string ⟨#[]⟩, .bool false, .slice none 0 0] 39 (0, 0)))
            have HN0 := Lib.hid (blk_new wr (.cells #[.int .i64 0, .int .i64 0, .int .i64 0, .string ⟨#[]⟩, .bool false, .slice none 0 0] 39 (0, 0)))
            have hia : (Try.prog.info? 39).map (·.size) = some 6 := by kernel_rfl
            go_wp2_with (refine wpList_store_rowY rfl 39 (.tmp 10) (.tmp 84) rfl wr.heap.size #[.int .i64 a.kd, .int .i64 a.at', .int .i64 a.nn, .string a.t, .bool a.rw', .slice a.ka a.kn a.kc] rfl rfl 39 _ HN0.out hia rfl (by simp [Value.oneCell']) wr.heap.size wr HB0.out (Nat.le_refl _) ?_)
            intro w6 hbk hoth hbel _
            have HT6 := Lib.hid (HT.out.kept hbel.out)
            have HX6 := Lib.hid hbk.out
            clear hbk hoth hbel HB0 HN0 HT c0 c1 c2 c3 c4 c5
            generalize wr.heap.size = y at *
            have y0 : w6.cell? ⟨x, 0, none⟩ = some (.slice A6 n6 c6) := (cell_of_row _ _ 0 _ _ _ HT6.out.xb).trans rfl
            have y1 : w6.cell? ⟨x, 1, none⟩ = some (.slice B6 m6 k6) := (cell_of_row _ _ 1 _ _ _ HT6.out.xb).trans rfl
            have y2 : w6.cell? ⟨x, 2, none⟩ = some (.int .i64 d.ar) := (cell_of_row _ _ 2 _ _ _ HT6.out.xb).trans rfl
            have y3 : w6.cell? ⟨x, 3, none⟩ = some (.bool d.go) := (cell_of_row _ _ 3 _ _ _ HT6.out.xb).trans rfl
            have y4 : w6.cell? ⟨x, 4, none⟩ = some (.int .i64 d.op) := (cell_of_row _ _ 4 _ _ _ HT6.out.xb).trans rfl
            have z0 : w6.cell? ⟨y, 0, none⟩ = some (.int .i64 a.kd) := (cell_of_row _ _ 0 _ _ _ HX6.out).trans rfl
            have z1 : w6.cell? ⟨y, 1, none⟩ = some (.int .i64 a.at') := (cell_of_row _ _ 1 _ _ _ HX6.out).trans rfl
            have z2 : w6.cell? ⟨y, 2, none⟩ = some (.int .i64 a.nn) := (cell_of_row _ _ 2 _ _ _ HX6.out).trans rfl
            have z3 : w6.cell? ⟨y, 3, none⟩ = some (.string a.t) := (cell_of_row _ _ 3 _ _ _ HX6.out).trans rfl
            have z4 : w6.cell? ⟨y, 4, none⟩ = some (.bool a.rw') := (cell_of_row _ _ 4 _ _ _ HX6.out).trans rfl
            have z5 : w6.cell? ⟨y, 5, none⟩ = some (.slice a.ka a.kn a.kc) := (cell_of_row _ _ 5 _ _ _ HX6.out).trans rfl
            go_wp2_with fail
            refine (does_any w.heap.size w D d k A6 n6 c6 B6 m6 k6 a w6 HT6.out.dw HO.out hk60 HT6.out.s HT6.out.c HA.out.wt (HA.out.r.farA HT6.out.dw) HA.out.ws (Nat.le_trans HA.out.le HA.out.lc)).mono ?_
            rintro e w7 ⟨A8, n8, c8, B8, m8, k8, rfl, hd7, hk7, hs7, hc7⟩
            have HT7 := Lib.hid (HT6.out.stored (mc := c8) (k2 := k8) hd7 hk7 hs7 hc7)
            have HX7 := Lib.hid ((hk7.block _ (lt_of_block HT6.out.xb) HT6.out.nx).trans HT6.out.xb)
            have HO7 := Lib.hid (HO.out.act a (by have q := HA.out.wn; simp [Lit.wf, IntKind.min, IntKind.max, IntKind.bits, IntKind.signed] at q; omega))
            clear y0 y1 y2 y3 y4 z0 z1 z2 z3 z4 z5 hd7 hk7 hs7 hc7 HT6 HX6 HA HO
            have y0 : w7.cell? ⟨x, 0, none⟩ = some (.slice A6 n6 c6) := (cell_of_row _ _ 0 _ _ _ HX7.out).trans rfl
            have y1 : w7.cell? ⟨x, 1, none⟩ = some (.slice B6 m6 k6) := (cell_of_row _ _ 1 _ _ _ HX7.out).trans rfl
            have y2 : w7.cell? ⟨x, 2, none⟩ = some (.int .i64 d.ar) := (cell_of_row _ _ 2 _ _ _ HX7.out).trans rfl
            have y3 : w7.cell? ⟨x, 3, none⟩ = some (.bool d.go) := (cell_of_row _ _ 3 _ _ _ HX7.out).trans rfl
            have y4 : w7.cell? ⟨x, 4, none⟩ = some (.int .i64 d.op) := (cell_of_row _ _ 4 _ _ _ HX7.out).trans rfl
            have f0 : w7.frozen? ⟨x, 0, none⟩ = false := frozen_of_row _ _ _ _ _ HX7.out
            have f1 : w7.frozen? ⟨x, 1, none⟩ = false := frozen_of_row _ _ _ _ _ HX7.out
            have f2 : w7.frozen? ⟨x, 2, none⟩ = false := frozen_of_row _ _ _ _ _ HX7.out
            have f3 : w7.frozen? ⟨x, 3, none⟩ = false := frozen_of_row _ _ _ _ _ HX7.out
            have f4 : w7.frozen? ⟨x, 4, none⟩ = false := frozen_of_row _ _ _ _ _ HX7.out
            generalize d.act a = d' at *
            go_upto_region 22 with (fail)
            clear y0 y1 y2 y3 y4 f0 f1 f2 f3 f4
            generalize (((((w7.setCell ⟨x, 0, none⟩ (.slice A8 n8 c8)).setCell ⟨x, 1, none⟩ (.slice B8 m8 k8)).setCell ⟨x, 2, none⟩ (.int .i64 d'.ar)).setCell ⟨x, 3, none⟩ (.bool d'.go)).setCell ⟨x, 4, none⟩ (.int .i64 d'.op)) = w8 at *
            go_wp2_with fail
            go_roundw
            case rel => exact ⟨k + 1, d', _, _, _, _, _, _, by go_num, by omega, HO7.out, HT7.out⟩
            case measure => simp [intOf] <;> omega
          · have hd2 : decide ((k : Int) < (m : Int)) = false := decide_eq_false (by omega)
            have hk60 : k ≤ 1000 := by have := H.out.1; omega
            have HSZ := Lib.hid (fun (W : World) (q : DW w.heap.size w D d W) => dseize_any D d.S d.C d.go d.op d.ar W q.dk (by have q := HO.out.s2; omega) (by have q := HO.out.c; omega))
            have HSM := Lib.hid (And.intro (show n6 ≤ 100000 by have := HO.out.s2; have := HT.out.s.1.1; omega) (show m6 ≤ 100000 by have := HO.out.c; have := HT.out.c.1.1; omega))
            go_upto_region 25 with (fail)
            have HT0 := Lib.hid HT.out.drew
            refine wp_region_L_drew (S := fun _ W => W.heap[x]? = some (.cells (rdC A6 n6 c6 B6 m6 k6 d) 35 (0, 0))) (by kernel_rfl) HT0.out.xb (fun hS hC => ?_)
            generalize wr.drew = u0 at *
            refine wpAnyL_take (i := 0) (oi := { dst := some 95, op := .move (.tmp 5), type := _, pos := _, after := _, guard := none }) (v := ?_) rfl (by kernel_rfl) (by kernel_rfl) (by kernel_rfl) (fun _ _ _ h => h) (fun _ _ => Iff.rfl) hC (Or.inl ⟨by rfl, ?_⟩) hS (fun hC hS => ?_)
            rotate_left
            · intro W9 hSw; skip; go_simp; try (with_reducible rfl)
            try simp only [Act.put, List.setIfInBounds_toArray, List.set_cons_zero, List.set_cons_succ]
            refine wpAnyL_take (i := 2) (oi := { dst := some 97, op := .fieldAddr 35 (.tmp 7) 0, type := _, pos := _, after := _, guard := none }) (v := ?_) rfl (by kernel_rfl) (by kernel_rfl) (by kernel_rfl) (fun _ _ _ h => h) (fun _ _ => Iff.rfl) hC (Or.inl ⟨by rfl, ?_⟩) hS (fun hC hS => ?_)
            rotate_left
            · intro W9 hSw; skip; go_simp; try (with_reducible rfl)
            try simp only [Act.put, List.setIfInBounds_toArray, List.set_cons_zero, List.set_cons_succ]
            refine wpAnyL_take (i := 3) (oi := { dst := some 98, op := .load 32 (.tmp 97), type := _, pos := _, after := _, guard := none }) (v := ?_) rfl (by kernel_rfl) (by kernel_rfl) (by kernel_rfl) (fun _ _ _ h => h) (fun _ _ => Iff.rfl) hC (Or.inl ⟨by rfl, ?_⟩) hS (fun hC hS => ?_)
            rotate_left
            · intro W9 hSw; have q0 := (cell_of_row _ _ 0 _ _ _ hSw.choose_spec.2.2).trans rfl; have q1 := (cell_of_row _ _ 1 _ _ _ hSw.choose_spec.2.2).trans rfl; go_simp; try (with_reducible rfl)
            try simp only [Act.put, List.setIfInBounds_toArray, List.set_cons_zero, List.set_cons_succ]
            refine wpAnyL_ready (rs := [1]) (by kernel_rfl) (by simp) hC ?_
            refine AllReadyL.cons (o := { dst := some 96, op := .call { callee := .value (.func 11), args := #[.tmp 95], argTypes := #[25] }, type := _, pos := _, after := _, guard := none }) rfl (fun K9 hK => ?_) ?_
            · skip
              go_simp
              refine (HSZ.out _ HT0.out.dw).mono ?_
              rintro e u4 ⟨A8, n8, c8, B8, m8, k8, rfl, hs4, hc4, hb4⟩
              have HT4 := Lib.hid (HT0.out.kept hb4)
              have HR4 := Lib.hid (hs4.rdA stC_len HT0.out.dw hb4)
              have HR5 := Lib.hid (hc4.rdA wrC_len HT0.out.dw hb4)
              clear hs4 hc4 hb4 HT0
              refine hK _ _ HT4.out.xb (fun hC => ?_)
              clear hK K9
              try simp only [Act.put, List.setIfInBounds_toArray, List.set_cons_zero, List.set_cons_succ]
              refine wpAnyL_ready (rs := [4]) (by kernel_rfl) (by simp) hC ?_
              refine AllReadyL.cons (o := { dst := some 99, op := .call { callee := .value (.func 14), args := #[.tmp 96, .tmp 98], argTypes := #[32, 32] }, type := _, pos := _, after := _, guard := none }) rfl (fun K9 hK => ?_) ?_
              · skip
                go_simp
                obtain rfl : n6 = n8 := HT4.out.s.1.1.symm.trans HR4.out.1.1
                obtain rfl : m6 = m8 := HT4.out.c.1.1.symm.trans HR5.out.1.1
                refine (rsame_yes A8 n6 c8 B8 m6 k8 A6 c6 B6 k6 d.S d.C u4 HR4.out.1 HR5.out.1 HT4.out.s.1 HT4.out.c.1 HSM.out.1 HSM.out.2).mono ?_
                rintro e u5 ⟨rfl, hb5⟩
                have HT5 := Lib.hid (HT4.out.kept hb5)
                clear hb5 HT4 HR4 HR5
                refine hK _ _ HT5.out.xb (fun hC => ?_)
                clear hK K9
                try simp only [Act.put, List.setIfInBounds_toArray, List.set_cons_zero, List.set_cons_succ]
                refine wpAnyL_take (i := 5) (oi := { dst := some 100, op := .move (.tmp 99), type := _, pos := _, after := _, guard := none }) (v := ?_) rfl (by kernel_rfl) (by kernel_rfl) (by kernel_rfl) (fun _ _ _ h => h) (fun _ _ => Iff.rfl) hC (Or.inl ⟨by rfl, ?_⟩) HT5.out.xb (fun hC hS => ?_)
                rotate_left
                · intro W9 hSw; skip; go_simp; try (with_reducible rfl)
                try simp only [Act.put, List.setIfInBounds_toArray, List.set_cons_zero, List.set_cons_succ]
                refine wpAnyL_ready (rs := [6]) (by kernel_rfl) (by simp) hC ?_
                refine AllReadyL.cons (o := { dst := some 101, op := .call { callee := .value (.func 9), args := #[], argTypes := #[] }, type := _, pos := _, after := _, guard := some (5, true) }) rfl (fun K9 hK => ?_) ?_
                · skip
                  go_simp
                  refine (awake7_any _).mono ?_
                  rintro e u6 ⟨rfl, hb6⟩
                  have HT6 := Lib.hid (HT5.out.kept hb6)
                  clear hb6 HT5
                  refine hK _ _ HT6.out.xb (fun hC => ?_)
                  clear hK K9
                  try simp only [Act.put, List.setIfInBounds_toArray, List.set_cons_zero, List.set_cons_succ]
                  refine wpAnyL_take (i := 7) (oi := { dst := some 102, op := .pick (.tmp 100) (.tmp 101) (.const (.bool false)), type := _, pos := _, after := _, guard := none }) (v := ?_) rfl (by kernel_rfl) (by kernel_rfl) (by kernel_rfl) (fun _ _ _ h => h) (fun _ _ => Iff.rfl) hC (Or.inl ⟨by rfl, ?_⟩) HT6.out.xb (fun hC hS => ?_)
                  rotate_left
                  · intro W9 hSw; skip; go_simp; try (with_reducible rfl)
                  try simp only [Act.put, List.setIfInBounds_toArray, List.set_cons_zero, List.set_cons_succ]
                  refine wpAnyL_take (i := 8) (oi := { dst := some 4, op := .assign (.tmp 102), type := _, pos := _, after := _, guard := none }) (v := ?_) rfl (by kernel_rfl) (by kernel_rfl) (by kernel_rfl) (fun _ _ _ h => h) (fun _ _ => Iff.rfl) hC (Or.inl ⟨by rfl, ?_⟩) HT6.out.xb (fun hC hS => ?_)
                  rotate_left
                  · intro W9 hSw; skip; go_simp; try (with_reducible rfl)
                  try simp only [Act.put, List.setIfInBounds_toArray, List.set_cons_zero, List.set_cons_succ]
                  refine wpAnyL_done (by kernel_rfl) ?_ _
                  go_wp2_with fail
                  go_ret
                  exact ⟨rfl, HT6.out.dw.bel⟩
                exact AllReadyL.nil
              exact AllReadyL.nil
            exact AllReadyL.nil
theorem LDiskPlays (z : Int) (A : Option Addr) (m c : Nat) (l : List Ac) (w : World) (h : RdX acC 6 w A m l) (ok : ∀ a ∈ l, AcOk w a) (hm : m ≤ maxLen) :
    Calls Try.prog 3 #[.int .i64 z, .slice A m c] w fun e w' => e = .returned (.bool true) ∧ Below w.heap.size w w' := by
  by_cases h1 : z < 16 ∨ 4096 < z
  · exact dplays_b z A m c l w h hm h1
  · by_cases h2 : 40 < z
    · exact dplays_a z A m c w ⟨h2, by omega⟩
    · exact dplays_c z A m c l w h ok hm ⟨by omega, by omega⟩
end Go.Proofs.Ytiagbadnmkeokaa
