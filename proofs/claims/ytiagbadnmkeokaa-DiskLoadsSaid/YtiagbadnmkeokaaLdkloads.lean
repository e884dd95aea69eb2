/- P7.1: of any image there is the disk that has it, or none; what came in stays. Condition: texts of at most 2^47 - 4096 bytes. -/
import Derived.Test.YtiagbadnmkeokaaDNi
namespace Go.Proofs.Ytiagbadnmkeokaa
open Go.RowKit Vi

theorem OwX.rd0 {α : Type} {f : α → List Value} {s : Nat} {T : TypeId} {W : World} {B n c : Nat} {A : Option Addr} {l : List α} (hf : ∀ x, (f x).length = s) (h : OwX f s T W B (.slice A n c) l) : RdX f s W A n l := by
  obtain ⟨A', c', e, hr, _, _⟩ := h.rd hf
  injection e with e1 e2 e3
  subst e1 e2 e3
  exact hr
theorem blk_belowN {W W' : World} {b : Nat} {o : Obj} (h : W.heap[b]? = some o) (hb : Below W.heap.size W W') : W'.heap[b]? = some o := (hb.block b (lt_of_block h)).trans h
set_option maxRecDepth 100000 in
set_option maxHeartbeats 4000000 in
theorem dloads_a (A : Option Addr) (n c : Nat) (A2 : Option Addr) (m c2 : Nat) (A3 : Option Addr) (k c3 : Nat) (w : World) (hz : 60 < n) :
    Calls Try.prog 4 #[.agg #[.slice A n c, .slice A2 m c2], .slice A3 k c3] w fun e w' => e = .returned (.bool true) ∧ Below w.heap.size w w' := by
  have HB0 := Lib.hid ((Below.refl w.heap.size w).alloc (Nat.le_refl _) (.cells #[.slice A n c, .slice A2 m c2] 32 (0, 0)))
  have HX := Lib.hid (blk_new w (.cells #[.slice A n c, .slice A2 m c2] 32 (0, 0)))
  obtain ⟨v, hv⟩ : ∃ v, v = w.alloc (.cells #[.slice A n c, .slice A2 m c2] 32 (0, 0)) := ⟨_, rfl⟩
  have HV := Lib.hid hv
  rw [← hv] at HB0 HX
  clear hv
  have a0 : v.cell? ⟨w.heap.size, 0, none⟩ = some (.slice A n c) := (cell_of_row _ _ 0 _ _ _ HX.out).trans rfl
  have a1 : v.cell? ⟨w.heap.size, 1, none⟩ = some (.slice A2 m c2) := (cell_of_row _ _ 1 _ _ _ HX.out).trans rfl
  have t0 : decide ((n : Int) > 60) = true := decide_eq_true (by omega)
  have t1 : decide (60 < (n : Int)) = true := decide_eq_true (by omega)
  clear hz
  go_enter Try.func4, Try.ntmps4
  go_upto_region 1 with (fail)
  rw [← HV.out]
  clear HV
  go_wp2_with fail
  refine (awake7_any _).mono ?_
  rintro e wz ⟨rfl, hbz⟩
  have HBZ := Lib.hid (HB0.out.trans (hbz.mono HB0.out.size))
  clear hbz
  go_wp2_with fail
  go_ret
  exact ⟨rfl, HBZ.out⟩
set_option maxRecDepth 100000 in
set_option maxHeartbeats 4000000 in
theorem dloads_b (A : Option Addr) (n c : Nat) (A2 : Option Addr) (m c2 : Nat) (A3 : Option Addr) (k c3 : Nat) (w : World) (hz : ¬ 60 < n) (hy : 60 < m) :
    Calls Try.prog 4 #[.agg #[.slice A n c, .slice A2 m c2], .slice A3 k c3] w fun e w' => e = .returned (.bool true) ∧ Below w.heap.size w w' := by
  have HB0 := Lib.hid ((Below.refl w.heap.size w).alloc (Nat.le_refl _) (.cells #[.slice A n c, .slice A2 m c2] 32 (0, 0)))
  have HX := Lib.hid (blk_new w (.cells #[.slice A n c, .slice A2 m c2] 32 (0, 0)))
  obtain ⟨v, hv⟩ : ∃ v, v = w.alloc (.cells #[.slice A n c, .slice A2 m c2] 32 (0, 0)) := ⟨_, rfl⟩
  have HV := Lib.hid hv
  rw [← hv] at HB0 HX
  clear hv
  have a0 : v.cell? ⟨w.heap.size, 0, none⟩ = some (.slice A n c) := (cell_of_row _ _ 0 _ _ _ HX.out).trans rfl
  have a1 : v.cell? ⟨w.heap.size, 1, none⟩ = some (.slice A2 m c2) := (cell_of_row _ _ 1 _ _ _ HX.out).trans rfl
  have t0 : decide ((n : Int) > 60) = false := decide_eq_false (by omega)
  have t1 : decide (60 < (n : Int)) = false := decide_eq_false (by omega)
  have t2 : decide ((m : Int) > 60) = true := decide_eq_true (by omega)
  have t3 : decide (60 < (m : Int)) = true := decide_eq_true (by omega)
  clear hz hy
  go_enter Try.func4, Try.ntmps4
  go_upto_region 1 with (fail)
  rw [← HV.out]
  clear HV
  go_wp2_with fail
  refine (awake7_any _).mono ?_
  rintro e wz ⟨rfl, hbz⟩
  have HBZ := Lib.hid (HB0.out.trans (hbz.mono HB0.out.size))
  clear hbz
  go_wp2_with fail
  go_ret
  exact ⟨rfl, HBZ.out⟩
set_option maxRecDepth 100000 in
set_option maxHeartbeats 4000000 in
theorem dloads_c (A : Option Addr) (n c : Nat) (A2 : Option Addr) (m c2 : Nat) (A3 : Option Addr) (k c3 : Nat) (l : List Ac) (w : World) (h : RdX acC 6 w A3 k l) (hm : k ≤ maxLen) (hz : ¬ 60 < n) (hy : ¬ 60 < m) (hx : 20 < k) :
    Calls Try.prog 4 #[.agg #[.slice A n c, .slice A2 m c2], .slice A3 k c3] w fun e w' => e = .returned (.bool true) ∧ Below w.heap.size w w' := by
  have HB0 := Lib.hid ((Below.refl w.heap.size w).alloc (Nat.le_refl _) (.cells #[.slice A n c, .slice A2 m c2] 32 (0, 0)))
  have HX := Lib.hid (blk_new w (.cells #[.slice A n c, .slice A2 m c2] 32 (0, 0)))
  obtain ⟨v, hv⟩ : ∃ v, v = w.alloc (.cells #[.slice A n c, .slice A2 m c2] 32 (0, 0)) := ⟨_, rfl⟩
  have HV := Lib.hid hv
  rw [← hv] at HB0 HX
  clear hv
  have a0 : v.cell? ⟨w.heap.size, 0, none⟩ = some (.slice A n c) := (cell_of_row _ _ 0 _ _ _ HX.out).trans rfl
  have a1 : v.cell? ⟨w.heap.size, 1, none⟩ = some (.slice A2 m c2) := (cell_of_row _ _ 1 _ _ _ HX.out).trans rfl
  have HFW := Lib.hid (few7_any A3 k c3 l v (h.below HB0.out) hm)
  have t0 : decide ((n : Int) > 60) = false := decide_eq_false (by omega)
  have t1 : decide (60 < (n : Int)) = false := decide_eq_false (by omega)
  have t2 : decide ((m : Int) > 60) = false := decide_eq_false (by omega)
  have t3 : decide (60 < (m : Int)) = false := decide_eq_false (by omega)
  have t4 : decide ((k : Int) > 20) = true := decide_eq_true (by omega)
  have t5 : decide (20 < (k : Int)) = true := decide_eq_true (by omega)
  clear hz hy hx
  go_enter Try.func4, Try.ntmps4
  go_upto_region 1 with (fail)
  rw [← HV.out]
  clear HV
  go_wp2_with fail
  refine HFW.out.mono ?_
  rintro e w1 ⟨b, rfl, hf, hb1⟩
  have HB1 := Lib.hid (HB0.out.trans (hb1.mono HB0.out.size))
  have HX1 := Lib.hid (blk_below HX.out hb1)
  clear hb1 HFW HX HB0 a0 a1
  cases b with
  | false =>
    clear hf
    go_wp2_with fail
    refine (awake7_any _).mono ?_
    rintro e wz ⟨rfl, hbz⟩
    have HBZ := Lib.hid (HB1.out.trans (hbz.mono HB1.out.size))
    clear hbz
    go_wp2_with fail
    go_ret
    exact ⟨rfl, HBZ.out⟩
  | true =>
    clear hf
    go_wp2_with fail
    refine (awake7_any _).mono ?_
    rintro e wz ⟨rfl, hbz⟩
    have HBZ := Lib.hid (HB1.out.trans (hbz.mono HB1.out.size))
    clear hbz
    go_wp2_with fail
    go_ret
    exact ⟨rfl, HBZ.out⟩
set_option maxRecDepth 100000 in
set_option maxHeartbeats 4000000 in
theorem dloads_d (A : Option Addr) (n c : Nat) (A2 : Option Addr) (m c2 : Nat) (SS : List ByteArray) (CC : List Wr) (A3 : Option Addr) (k c3 : Nat) (l : List Ac) (w : World) (h1 : RdX stC 1 w A n SS) (h2 : RdX wrC 2 w A2 m CC) (h : RdX acC 6 w A3 k l) (ok : ∀ a ∈ l, AcOk w a) (hm : k ≤ maxLen) (hz : ¬ 60 < n) (hy : ¬ 60 < m) (hx : ¬ 20 < k) :
    Calls Try.prog 4 #[.agg #[.slice A n c, .slice A2 m c2], .slice A3 k c3] w fun e w' => e = .returned (.bool true) ∧ Below w.heap.size w w' := by
  have HB0 := Lib.hid ((Below.refl w.heap.size w).alloc (Nat.le_refl _) (.cells #[.slice A n c, .slice A2 m c2] 32 (0, 0)))
  have HX := Lib.hid (blk_new w (.cells #[.slice A n c, .slice A2 m c2] 32 (0, 0)))
  obtain ⟨v, hv⟩ : ∃ v, v = w.alloc (.cells #[.slice A n c, .slice A2 m c2] 32 (0, 0)) := ⟨_, rfl⟩
  have HV := Lib.hid hv
  rw [← hv] at HB0 HX
  clear hv
  have a0 : v.cell? ⟨w.heap.size, 0, none⟩ = some (.slice A n c) := (cell_of_row _ _ 0 _ _ _ HX.out).trans rfl
  have a1 : v.cell? ⟨w.heap.size, 1, none⟩ = some (.slice A2 m c2) := (cell_of_row _ _ 1 _ _ _ HX.out).trans rfl
  have HFW := Lib.hid (few7_any A3 k c3 l v (h.below HB0.out) hm)
  have H := Lib.hid (h.below HB0.out)
  have H1 := Lib.hid (h1.below HB0.out)
  have H2 := Lib.hid (h2.below HB0.out)
  have HOKA := Lib.hid (fun a ha => (ok a ha).below HB0.out)
  have hl1 : SS.length = n := h1.1
  have hl2 : CC.length = m := h2.1
  have hlk : l.length = k := h.1
  have hk1 : k ≤ 9223372036854775807 := by omega
  subst hl1 hl2
  clear h h1 h2 ok hm
  have t0 : decide ((SS.length : Int) > 60) = false := decide_eq_false (by omega)
  have t1 : decide (60 < (SS.length : Int)) = false := decide_eq_false (by omega)
  have t2 : decide ((CC.length : Int) > 60) = false := decide_eq_false (by omega)
  have t3 : decide (60 < (CC.length : Int)) = false := decide_eq_false (by omega)
  have t4 : decide ((k : Int) > 20) = false := decide_eq_false (by omega)
  have t5 : decide (20 < (k : Int)) = false := decide_eq_false (by omega)
  have HSM := Lib.hid (And.intro (show SS.length ≤ 100000 by omega) (show CC.length ≤ 100000 by omega))
  have HC6 := Lib.hid (show CC.length ≤ 4096 by omega)
  have HK20 := Lib.hid (And.intro (show k ≤ 20 by omega) hlk)
  clear hz hy hx hlk
  go_enter Try.func4, Try.ntmps4
  go_upto_region 1 with (fail)
  rw [← HV.out]
  clear HV
  go_wp2_with fail
  refine HFW.out.mono ?_
  rintro e w1 ⟨b, rfl, hf, hb1⟩
  have HB1 := Lib.hid (HB0.out.trans (hb1.mono HB0.out.size))
  have HX1 := Lib.hid (blk_below HX.out hb1)
  have HH := Lib.hid (H.out.below hb1)
  have H1' := Lib.hid (H1.out.below hb1)
  have H2' := Lib.hid (H2.out.below hb1)
  have HOKB := Lib.hid (fun a ha => (HOKA.out a ha).below hb1)
  clear hb1 HFW HX HB0 a0 a1 H H1 H2 HOKA
  cases b with
  | false =>
    clear hf
    go_wp2_with fail
    refine (awake7_any _).mono ?_
    rintro e wz ⟨rfl, hbz⟩
    have HBZ := Lib.hid (HB1.out.trans (hbz.mono HB1.out.size))
    clear hbz
    go_wp2_with fail
    go_ret
    exact ⟨rfl, HBZ.out⟩
  | true =>
    clear hf
    have a0 : w1.cell? ⟨w.heap.size, 0, none⟩ = some (.slice A SS.length c) := (cell_of_row _ _ 0 _ _ _ HX1.out).trans rfl
    have a1 : w1.cell? ⟨w.heap.size, 1, none⟩ = some (.slice A2 CC.length c2) := (cell_of_row _ _ 1 _ _ _ HX1.out).trans rfl
    go_wp2_with fail
    refine (rcopy_any A SS.length c A2 CC.length c2 SS CC w1 H1'.out H2'.out HSM.out.1 HSM.out.2).mono ?_
    rintro e w2 ⟨A9, n9, c9, B9, m9, k9, rfl, hs2, hc2, hb2⟩
    have HO1 := Lib.hid (hs2.rd0 stC_len)
    have HO2 := Lib.hid (hc2.rd0 wrC_len)
    obtain rfl : SS.length = n9 := HO1.out.1
    obtain rfl : CC.length = m9 := HO2.out.1
    have HB2 := Lib.hid (HB1.out.trans (hb2.mono HB1.out.size))
    have HX2 := Lib.hid (blk_below HX1.out hb2)
    have HH2 := Lib.hid (HH.out.below hb2)
    have H12 := Lib.hid (H1'.out.below hb2)
    have H22 := Lib.hid (H2'.out.below hb2)
    have HOK2 := Lib.hid (fun a ha => (HOKB.out a ha).below hb2)
    clear hs2 hc2 hb2 HB1 HX1 HH H1' H2' HOKB a0 a1
    have HBa := Lib.hid ((Below.refl w2.heap.size w2).alloc (Nat.le_refl _) (.cells #[.slice none 0 0, .slice none 0 0] 32 (0, 0)))
    have HNa := Lib.hid (blk_new w2 (.cells #[.slice none 0 0, .slice none 0 0] 32 (0, 0)))
    go_wp2_with (refine wpList_store_rowY rfl 32 (.tmp 5) (.tmp 34) rfl w2.heap.size #[.slice A9 SS.length c9, .slice B9 CC.length k9] rfl rfl 32 _ HNa.out (by kernel_rfl) rfl (by simp [Value.oneCell']) w2.heap.size w2 HBa.out (Nat.le_refl _) ?_)
    intro w3 hbk hoth hbel _
    have HY3 := Lib.hid hbk.out
    have HB3 := Lib.hid (HB2.out.trans (hbel.out.mono HB2.out.size))
    have HX3 := Lib.hid (blk_below HX2.out hbel.out)
    have HH3 := Lib.hid (HH2.out.below hbel.out)
    have H13 := Lib.hid (H12.out.below hbel.out)
    have H23 := Lib.hid (H22.out.below hbel.out)
    have HOK3 := Lib.hid (fun a ha => (HOK2.out a ha).below hbel.out)
    have HO13 := Lib.hid (HO1.out.below hbel.out)
    have HO23 := Lib.hid (HO2.out.below hbel.out)
    clear hbk hoth hbel HBa HNa HB2 HX2 HH2 H12 H22 HOK2 HO1 HO2
    generalize w2.heap.size = y at *
    have a0 : w3.cell? ⟨y, 0, none⟩ = some (.slice A9 SS.length c9) := (cell_of_row _ _ 0 _ _ _ HY3.out).trans rfl
    have a1 : w3.cell? ⟨y, 1, none⟩ = some (.slice B9 CC.length k9) := (cell_of_row _ _ 1 _ _ _ HY3.out).trans rfl
    go_wp2_with fail
    refine (dload_any A9 c9 B9 k9 SS CC w3 HO13.out HO23.out HSM.out.1 HSM.out.2 _ rfl).mono ?_
    intro e w4 hL
    clear a0 a1
    obtain ⟨bm, hbm⟩ : ∃ b, b = mayI SS CC := ⟨_, rfl⟩
    cases bm with
    | false =>
      obtain ⟨rfl, hb4⟩ := hL.2 hbm.symm
      have HB4 := Lib.hid (HB3.out.trans (hb4.mono HB3.out.size))
      have HX4 := Lib.hid (blk_below HX3.out hb4)
      have HM := Lib.hid (rmay_any A SS.length c A2 CC.length c2 SS CC w4 (H13.out.below hb4) (H23.out.below hb4) HSM.out.1 HSM.out.2)
      rw [← hbm] at HM
      clear hL hb4 hbm
      have a0 : w4.cell? ⟨w.heap.size, 0, none⟩ = some (.slice A SS.length c) := (cell_of_row _ _ 0 _ _ _ HX4.out).trans rfl
      have a1 : w4.cell? ⟨w.heap.size, 1, none⟩ = some (.slice A2 CC.length c2) := (cell_of_row _ _ 1 _ _ _ HX4.out).trans rfl
      go_wp2_with fail
      refine HM.out.mono ?_
      rintro e w5 ⟨rfl, hb5⟩
      have HB5 := Lib.hid (HB4.out.trans (hb5.mono HB4.out.size))
      clear hb5
      go_wp2_with fail
      refine (awake7_any _).mono ?_
      rintro e wz ⟨rfl, hbz⟩
      have HBZ := Lib.hid (HB5.out.trans (hbz.mono HB5.out.size))
      clear hbz
      go_wp2_with fail
      go_ret
      exact ⟨rfl, HBZ.out⟩
    | true =>
      obtain ⟨D, rfl, hd4, hi4, hb4⟩ := hL.1 hbm.symm
      have HW4 : Hid (DW w3.heap.size w3 D ⟨SS, CC, 0, false, 0⟩ w4) := Lib.hid ⟨hd4, hi4, hb4, hb4.size⟩
      have hI := hbm.symm
      unfold mayI at hI
      have hI := (Bool.and_eq_true _ _ ▸ hI).1
      have hI := of_decide_eq_true hI
      have HD0 : Hid (DsOk 0 ⟨SS, CC, 0, false, 0⟩) := Lib.hid ⟨by show 16 ≤ SS.length; omega, by show SS.length ≤ _; omega, HC6.out, Int.le_refl _, by show (0 : Int) ≤ _; omega, Int.le_refl _, Int.le_refl _⟩
      have HX4 := Lib.hid (blk_below HX3.out hb4)
      have HM := Lib.hid (rmay_any A SS.length c A2 CC.length c2 SS CC w4 (H13.out.below hb4) (H23.out.below hb4) HSM.out.1 HSM.out.2)
      rw [← hbm] at HM
      clear hL hb4 hbm hd4 hi4 hI HX4
      have HXW := Lib.hid (fun (W : World) (d : Ds) (q : DW w3.heap.size w3 D d W) => blk_belowN HX3.out q.bel)
      have HYW := Lib.hid (fun (W : World) (d : Ds) (q : DW w3.heap.size w3 D d W) => blk_belowN HY3.out q.bel)
      have HX4 := Lib.hid (HXW.out _ _ HW4.out)
      have a0 : w4.cell? ⟨w.heap.size, 0, none⟩ = some (.slice A SS.length c) := (cell_of_row _ _ 0 _ _ _ HX4.out).trans rfl
      have a1 : w4.cell? ⟨w.heap.size, 1, none⟩ = some (.slice A2 CC.length c2) := (cell_of_row _ _ 1 _ _ _ HX4.out).trans rfl
      go_wp2_with fail
      refine HM.out.mono ?_
      rintro e w5 ⟨rfl, hb5⟩
      have HW5 := Lib.hid (HW4.out.below hb5)
      clear hb5 HM HW4 HX4 a0 a1
      go_upto_region 7 with (fail)
      have HW6 := Lib.hid (HW5.out.below (Below.refl _ _).drew)
      refine wp_region_L_drew (S := fun _ W => W.heap[w.heap.size]? = some (.cells #[.slice A SS.length c, .slice A2 CC.length c2] 32 (0, 0))) (by kernel_rfl) (HXW.out _ _ HW6.out) (fun hS hC => ?_)
      generalize w5.drew = u0 at *
      refine wpAnyL_take (i := 0) (oi := { dst := some 52, op := .move (.tmp 6), type := _, pos := _, after := _, guard := none }) (v := ?_) rfl (by kernel_rfl) (by kernel_rfl) (by kernel_rfl) (fun _ _ _ h => h) (fun _ _ => Iff.rfl) hC (Or.inl ⟨by rfl, ?_⟩) hS (fun hC hS => ?_)
      rotate_left
      · intro W9 hSw; skip; go_simp; try (with_reducible rfl)
      try simp only [Act.put, List.setIfInBounds_toArray, List.set_cons_zero, List.set_cons_succ]
      refine wpAnyL_take (i := 1) (oi := { dst := some 53, op := .binOp .eql 25 (.tmp 52) (.const (.pointer none)) 25, type := _, pos := _, after := _, guard := none }) (v := ?_) rfl (by kernel_rfl) (by kernel_rfl) (by kernel_rfl) (fun _ _ _ h => h) (fun _ _ => Iff.rfl) hC (Or.inl ⟨by rfl, ?_⟩) hS (fun hC hS => ?_)
      rotate_left
      · intro W9 hSw; skip; go_simp; try (with_reducible rfl)
      try simp only [Act.put, List.setIfInBounds_toArray, List.set_cons_zero, List.set_cons_succ]
      refine wpAnyL_take (i := 2) (oi := { dst := some 54, op := .move (.tmp 53), type := _, pos := _, after := _, guard := none }) (v := ?_) rfl (by kernel_rfl) (by kernel_rfl) (by kernel_rfl) (fun _ _ _ h => h) (fun _ _ => Iff.rfl) hC (Or.inl ⟨by rfl, ?_⟩) hS (fun hC hS => ?_)
      rotate_left
      · intro W9 hSw; skip; go_simp; try (with_reducible rfl)
      try simp only [Act.put, List.setIfInBounds_toArray, List.set_cons_zero, List.set_cons_succ]
      refine wpAnyL_take (i := 3) (oi := { dst := some 55, op := .move (.tmp 7), type := _, pos := _, after := _, guard := some (2, false) }) (v := ?_) rfl (by kernel_rfl) (by kernel_rfl) (by kernel_rfl) (fun _ _ _ h => h) (fun _ _ => Iff.rfl) hC (Or.inl ⟨by rfl, ?_⟩) hS (fun hC hS => ?_)
      rotate_left
      · intro W9 hSw; skip; go_simp; try (with_reducible rfl)
      try simp only [Act.put, List.setIfInBounds_toArray, List.set_cons_zero, List.set_cons_succ]
      refine wpAnyL_take (i := 4) (oi := { dst := some 56, op := .binOp .neq 26 (.tmp 55) (.const (.int Go.IntKind.i64 0)) 26, type := _, pos := _, after := _, guard := some (2, false) }) (v := ?_) rfl (by kernel_rfl) (by kernel_rfl) (by kernel_rfl) (fun _ _ _ h => h) (fun _ _ => Iff.rfl) hC (Or.inl ⟨by rfl, ?_⟩) hS (fun hC hS => ?_)
      rotate_left
      · intro W9 hSw; skip; go_simp; try (with_reducible rfl)
      try simp only [Act.put, List.setIfInBounds_toArray, List.set_cons_zero, List.set_cons_succ]
      refine wpAnyL_take (i := 5) (oi := { dst := some 57, op := .pick (.tmp 54) (.const (.bool true)) (.tmp 56), type := _, pos := _, after := _, guard := none }) (v := ?_) rfl (by kernel_rfl) (by kernel_rfl) (by kernel_rfl) (fun _ _ _ h => h) (fun _ _ => Iff.rfl) hC (Or.inl ⟨by rfl, ?_⟩) hS (fun hC hS => ?_)
      rotate_left
      · intro W9 hSw; skip; go_simp; try (with_reducible rfl)
      try simp only [Act.put, List.setIfInBounds_toArray, List.set_cons_zero, List.set_cons_succ]
      refine wpAnyL_take (i := 6) (oi := { dst := some 58, op := .move (.tmp 57), type := _, pos := _, after := _, guard := none }) (v := ?_) rfl (by kernel_rfl) (by kernel_rfl) (by kernel_rfl) (fun _ _ _ h => h) (fun _ _ => Iff.rfl) hC (Or.inl ⟨by rfl, ?_⟩) hS (fun hC hS => ?_)
      rotate_left
      · intro W9 hSw; skip; go_simp; try (with_reducible rfl)
      try simp only [Act.put, List.setIfInBounds_toArray, List.set_cons_zero, List.set_cons_succ]
      refine wpAnyL_take (i := 7) (oi := { dst := some 59, op := .move (.tmp 6), type := _, pos := _, after := _, guard := some (6, false) }) (v := ?_) rfl (by kernel_rfl) (by kernel_rfl) (by kernel_rfl) (fun _ _ _ h => h) (fun _ _ => Iff.rfl) hC (Or.inl ⟨by rfl, ?_⟩) hS (fun hC hS => ?_)
      rotate_left
      · intro W9 hSw; skip; go_simp; try (with_reducible rfl)
      try simp only [Act.put, List.setIfInBounds_toArray, List.set_cons_zero, List.set_cons_succ]
      refine wpAnyL_take (i := 9) (oi := { dst := some 61, op := .load 32 (.tmp 2), type := _, pos := _, after := _, guard := some (6, false) }) (v := ?_) rfl (by kernel_rfl) (by kernel_rfl) (by kernel_rfl) (fun _ _ _ h => h) (fun _ _ => Iff.rfl) hC (Or.inl ⟨by rfl, ?_⟩) hS (fun hC hS => ?_)
      rotate_left
      · intro W9 hSw; have q0 := (cell_of_row _ _ 0 _ _ _ hSw.choose_spec.2.2).trans rfl; have q1 := (cell_of_row _ _ 1 _ _ _ hSw.choose_spec.2.2).trans rfl; go_simp; try (with_reducible rfl)
      try simp only [Act.put, List.setIfInBounds_toArray, List.set_cons_zero, List.set_cons_succ]
      refine wpAnyL_ready (rs := [8]) (by kernel_rfl) (by simp) hC ?_
      refine AllReadyL.cons (o := { dst := some 60, op := .call { callee := .value (.func 11), args := #[.tmp 59], argTypes := #[25] }, type := _, pos := _, after := _, guard := some (6, false) }) rfl (fun K9 hK => ?_) ?_
      · skip
        go_simp
        refine (dseize_any D SS CC false 0 0 u0 HW6.out.dk HSM.out.1 HSM.out.2).mono ?_
        rintro e u4 ⟨A8, n8, c8, B8, m8, k8, rfl, hs4, hc4, hb4⟩
        have HW7 := Lib.hid (HW6.out.below hb4)
        have HR4 := Lib.hid (hs4.rd0 stC_len)
        have HR5 := Lib.hid (hc4.rd0 wrC_len)
        clear hs4 hc4 hb4 HW6
        refine hK _ _ (HXW.out _ _ HW7.out) (fun hC => ?_)
        clear hK K9
        try simp only [Act.put, List.setIfInBounds_toArray, List.set_cons_zero, List.set_cons_succ]
        refine wpAnyL_ready (rs := [10]) (by kernel_rfl) (by simp) hC ?_
        refine AllReadyL.cons (o := { dst := some 62, op := .call { callee := .value (.func 14), args := #[.tmp 60, .tmp 61], argTypes := #[32, 32] }, type := _, pos := _, after := _, guard := some (6, false) }) rfl (fun K9 hK => ?_) ?_
        · skip
          go_simp
          obtain rfl : SS.length = n8 := HR4.out.1
          obtain rfl : CC.length = m8 := HR5.out.1
          refine (rsame_yes A8 SS.length c8 B8 CC.length k8 A c A2 c2 SS CC u4 HR4.out HR5.out (H13.out.farA HW7.out).1 (H23.out.farA HW7.out).1 HSM.out.1 HSM.out.2).mono ?_
          rintro e u5 ⟨rfl, hb5⟩
          have HW8 := Lib.hid (HW7.out.below hb5)
          clear hb5 HW7 HR4 HR5
          refine hK _ _ (HXW.out _ _ HW8.out) (fun hC => ?_)
          clear hK K9
          try simp only [Act.put, List.setIfInBounds_toArray, List.set_cons_zero, List.set_cons_succ]
          refine wpAnyL_take (i := 11) (oi := { dst := some 63, op := .unOp .not 4 (.tmp 62), type := _, pos := _, after := _, guard := some (6, false) }) (v := ?_) rfl (by kernel_rfl) (by kernel_rfl) (by kernel_rfl) (fun _ _ _ h => h) (fun _ _ => Iff.rfl) hC (Or.inl ⟨by rfl, ?_⟩) (HXW.out _ _ HW8.out) (fun hC hS => ?_)
          rotate_left
          · intro W9 hSw; skip; go_simp; try (with_reducible rfl)
          try simp only [Act.put, List.setIfInBounds_toArray, List.set_cons_zero, List.set_cons_succ]
          refine wpAnyL_take (i := 12) (oi := { dst := some 64, op := .pick (.tmp 58) (.const (.bool true)) (.tmp 63), type := _, pos := _, after := _, guard := none }) (v := ?_) rfl (by kernel_rfl) (by kernel_rfl) (by kernel_rfl) (fun _ _ _ h => h) (fun _ _ => Iff.rfl) hC (Or.inl ⟨by rfl, ?_⟩) (HXW.out _ _ HW8.out) (fun hC hS => ?_)
          rotate_left
          · intro W9 hSw; skip; go_simp; try (with_reducible rfl)
          try simp only [Act.put, List.setIfInBounds_toArray, List.set_cons_zero, List.set_cons_succ]
          refine wpAnyL_done (by kernel_rfl) ?_ _
          clear hS hC
          have HX8 := Lib.hid (HXW.out _ _ HW8.out)
          have a0 : u5.cell? ⟨w.heap.size, 0, none⟩ = some (.slice A SS.length c) := (cell_of_row _ _ 0 _ _ _ HX8.out).trans rfl
          have a1 : u5.cell? ⟨w.heap.size, 1, none⟩ = some (.slice A2 CC.length c2) := (cell_of_row _ _ 1 _ _ _ HX8.out).trans rfl
          have HB0 := Lib.hid ((Below.refl u5.heap.size u5).alloc (Nat.le_refl _) (.cells #[.slice none 0 0, .slice none 0 0, .int .i64 0, .bool false, .int .i64 0] 35 (0, 0)))
          have HN0 := Lib.hid (blk_new u5 (.cells #[.slice none 0 0, .slice none 0 0, .int .i64 0, .bool false, .int .i64 0] 35 (0, 0)))
          go_wp2_with (refine wpList_store_rowY rfl 35 (.tmp 8) (.tmp 66) rfl u5.heap.size #[.slice A SS.length c, .slice A2 CC.length c2, .int .i64 0, .bool false, .int .i64 0] rfl rfl 35 _ HN0.out info_rd rfl (by simp [Value.oneCell']) u5.heap.size u5 HB0.out (Nat.le_refl _) ?_)
          intro w9 hbk hoth hbel _
          have HT9 : Hid (St w3.heap.size w3 D u5.heap.size ⟨SS, CC, 0, false, 0⟩ A SS.length c A2 CC.length c2 w9) := Lib.hid ⟨HW8.out.below hbel.out, hbk.out, fun q => by have := HW8.out.dk.new (q.back hbel.out HW8.out.lt); omega, H13.out.farA (HW8.out.below hbel.out), H23.out.farA (HW8.out.below hbel.out), HW8.out.sz⟩
          clear hbk hoth hbel HB0 HN0 HW8 HX8 a0 a1
          generalize u5.heap.size = x at *
          go_wp2_with fail
          go_loopw [69] (fun i wr => ∃ (j : Nat) (d : Ds) (A : Option Addr) (n c : Nat) (A2 : Option Addr) (n2 c2 : Nat), i = .int .i64 (j : Int) ∧ j ≤ k ∧ DsOk j d ∧ St w3.heap.size w3 D x d A n c A2 n2 c2 wr) (fun i _ => k - (intOf i).toNat)
          case atStart => exact ⟨0, _, _, _, _, _, _, _, rfl, Nat.zero_le _, HD0.out, HT9.out⟩
          case round =>
            obtain ⟨j, d, A6, n6, c6, B6, m6, k6, rfl, hk, hok, hst⟩ := hrel
            clear HT9 HD0
            have HO := Lib.hid hok
            have HT := Lib.hid hst
            clear hok hst
            have hk60 : j ≤ 1000 := by have := HK20.out.1; omega
            by_cases hlt2 : j < k
            · have hd2 : decide ((j : Int) < (k : Int)) = true := decide_eq_true (by omega)
              have hi0 : (0 : Int) ≤ (j : Int) := by omega
              have hs1 : IntKind.i64.wrap ((j : Int) + 1) = (j : Int) + 1 := IntWalk.i64_in _ (by omega)
              obtain ⟨ba, oa, hl1, rfl, hba, hca⟩ := (HH3.out.below HT.out.dw.bel).at hlt2
              obtain ⟨a, ha⟩ : ∃ a, a = l[j]'hl1 := ⟨_, rfl⟩
              have HA := Lib.hid (HOK3.out (l[j]'hl1) (List.getElem_mem hl1))
              have c0 : wr.cell? ⟨ba, oa + j * 6, none⟩ = some (.int .i64 (l[j]'hl1).kd) := by have q := hca 0 _ rfl; simpa using q
              have c1 := hca 1 (.int .i64 (l[j]'hl1).at') rfl
              have c2 := hca 2 (.int .i64 (l[j]'hl1).nn) rfl
              have c3 := hca 3 (.string (l[j]'hl1).t) rfl
              have c4 := hca 4 (.bool (l[j]'hl1).rw') rfl
              have c5 := hca 5 (.slice (l[j]'hl1).ka (l[j]'hl1).kn (l[j]'hl1).kc) rfl
              rw [← ha] at c0 c1 c2 c3 c4 c5 HA
              clear hca hba ha hl1
              have HB0 := Lib.hid ((Below.refl wr.heap.size wr).alloc (Nat.le_refl _) (.cells #[.int .i64 0, .int .i64 0, .int .i64 0, .string ⟨#[]⟩, .bool false, .slice none 0 0] 39 (0, 0)))
              have HN0 := Lib.hid (blk_new wr (.cells #[.int .i64 0, .int .i64 0, .int .i64 0, .string ⟨#[]⟩, .bool false, .slice none 0 0] 39 (0, 0)))
              have hia : (Try.prog.info? 39).map (·.size) = some 6 := by kernel_rfl
              go_wp2_with (refine wpList_store_rowY rfl 39 (.tmp 10) (.tmp 72) rfl wr.heap.size #[.int .i64 a.kd, .int .i64 a.at', .int .i64 a.nn, .string a.t, .bool a.rw', .slice a.ka a.kn a.kc] rfl rfl 39 _ HN0.out hia rfl (by simp [Value.oneCell']) wr.heap.size wr HB0.out (Nat.le_refl _) ?_)
              intro w6 hbk hoth hbel _
              have HT6 := Lib.hid (HT.out.kept hbel.out)
              have HX6 := Lib.hid hbk.out
              clear hbk hoth hbel HB0 HN0 HT c0 c1 c2 c3 c4 c5
              generalize wr.heap.size = y2 at *
              have y0 : w6.cell? ⟨x, 0, none⟩ = some (.slice A6 n6 c6) := (cell_of_row _ _ 0 _ _ _ HT6.out.xb).trans rfl
              have y1 : w6.cell? ⟨x, 1, none⟩ = some (.slice B6 m6 k6) := (cell_of_row _ _ 1 _ _ _ HT6.out.xb).trans rfl
              have y2' : w6.cell? ⟨x, 2, none⟩ = some (.int .i64 d.ar) := (cell_of_row _ _ 2 _ _ _ HT6.out.xb).trans rfl
              have y3 : w6.cell? ⟨x, 3, none⟩ = some (.bool d.go) := (cell_of_row _ _ 3 _ _ _ HT6.out.xb).trans rfl
              have y4 : w6.cell? ⟨x, 4, none⟩ = some (.int .i64 d.op) := (cell_of_row _ _ 4 _ _ _ HT6.out.xb).trans rfl
              have z0 : w6.cell? ⟨y2, 0, none⟩ = some (.int .i64 a.kd) := (cell_of_row _ _ 0 _ _ _ HX6.out).trans rfl
              have z1 : w6.cell? ⟨y2, 1, none⟩ = some (.int .i64 a.at') := (cell_of_row _ _ 1 _ _ _ HX6.out).trans rfl
              have z2 : w6.cell? ⟨y2, 2, none⟩ = some (.int .i64 a.nn) := (cell_of_row _ _ 2 _ _ _ HX6.out).trans rfl
              have z3 : w6.cell? ⟨y2, 3, none⟩ = some (.string a.t) := (cell_of_row _ _ 3 _ _ _ HX6.out).trans rfl
              have z4 : w6.cell? ⟨y2, 4, none⟩ = some (.bool a.rw') := (cell_of_row _ _ 4 _ _ _ HX6.out).trans rfl
              have z5 : w6.cell? ⟨y2, 5, none⟩ = some (.slice a.ka a.kn a.kc) := (cell_of_row _ _ 5 _ _ _ HX6.out).trans rfl
              go_wp2_with fail
              refine (does_any w3.heap.size w3 D d j A6 n6 c6 B6 m6 k6 a w6 HT6.out.dw HO.out hk60 HT6.out.s HT6.out.c HA.out.wt (HA.out.r.farA HT6.out.dw) HA.out.ws (Nat.le_trans HA.out.le HA.out.lc)).mono ?_
              rintro e w7 ⟨A8, n8, c8, B8, m8, k8, rfl, hd7, hk7, hs7, hc7⟩
              have HT7 := Lib.hid (HT6.out.stored (mc := c8) (k2 := k8) hd7 hk7 hs7 hc7)
              have HX7 := Lib.hid ((hk7.block _ (lt_of_block HT6.out.xb) HT6.out.nx).trans HT6.out.xb)
              have HO7 := Lib.hid (HO.out.act a (by have q := HA.out.wn; simp [Lit.wf, IntKind.min, IntKind.max, IntKind.bits, IntKind.signed] at q; omega))
              clear y0 y1 y2' y3 y4 z0 z1 z2 z3 z4 z5 hd7 hk7 hs7 hc7 HT6 HX6 HA HO
              have y0 : w7.cell? ⟨x, 0, none⟩ = some (.slice A6 n6 c6) := (cell_of_row _ _ 0 _ _ _ HX7.out).trans rfl
              have y1 : w7.cell? ⟨x, 1, none⟩ = some (.slice B6 m6 k6) := (cell_of_row _ _ 1 _ _ _ HX7.out).trans rfl
              have y2' : w7.cell? ⟨x, 2, none⟩ = some (.int .i64 d.ar) := (cell_of_row _ _ 2 _ _ _ HX7.out).trans rfl
              have y3 : w7.cell? ⟨x, 3, none⟩ = some (.bool d.go) := (cell_of_row _ _ 3 _ _ _ HX7.out).trans rfl
              have y4 : w7.cell? ⟨x, 4, none⟩ = some (.int .i64 d.op) := (cell_of_row _ _ 4 _ _ _ HX7.out).trans rfl
              have f0 : w7.frozen? ⟨x, 0, none⟩ = false := frozen_of_row _ _ _ _ _ HX7.out
              have f1 : w7.frozen? ⟨x, 1, none⟩ = false := frozen_of_row _ _ _ _ _ HX7.out
              have f2 : w7.frozen? ⟨x, 2, none⟩ = false := frozen_of_row _ _ _ _ _ HX7.out
              have f3 : w7.frozen? ⟨x, 3, none⟩ = false := frozen_of_row _ _ _ _ _ HX7.out
              have f4 : w7.frozen? ⟨x, 4, none⟩ = false := frozen_of_row _ _ _ _ _ HX7.out
              generalize d.act a = d' at *
              go_upto_region 15 with (fail)
              clear y0 y1 y2' y3 y4 f0 f1 f2 f3 f4
              generalize (((((w7.setCell ⟨x, 0, none⟩ (.slice A8 n8 c8)).setCell ⟨x, 1, none⟩ (.slice B8 m8 k8)).setCell ⟨x, 2, none⟩ (.int .i64 d'.ar)).setCell ⟨x, 3, none⟩ (.bool d'.go)).setCell ⟨x, 4, none⟩ (.int .i64 d'.op)) = w8 at *
              go_wp2_with fail
              go_roundw
              case rel => exact ⟨j + 1, d', _, _, _, _, _, _, by go_num, by omega, HO7.out, HT7.out⟩
              case measure => simp [intOf] <;> omega
            · have hd2 : decide ((j : Int) < (k : Int)) = false := decide_eq_false (by omega)
              have HSZ := Lib.hid (fun (W : World) (q : DW w3.heap.size w3 D d W) => dseize_any D d.S d.C d.go d.op d.ar W q.dk (by have q := HO.out.s2; omega) (by have q := HO.out.c; omega))
              have HSN := Lib.hid (And.intro (show n6 ≤ 100000 by have := HO.out.s2; have := HT.out.s.1.1; omega) (show m6 ≤ 100000 by have := HO.out.c; have := HT.out.c.1.1; omega))
              go_upto_region 18 with (fail)
              have HT0 := Lib.hid HT.out.drew
              refine wp_region_L_drew (S := fun _ W => W.heap[x]? = some (.cells (rdC A6 n6 c6 B6 m6 k6 d) 35 (0, 0)) ∧ W.heap[w.heap.size]? = some (.cells #[.slice A SS.length c, .slice A2 CC.length c2] 32 (0, 0)) ∧ W.heap[y]? = some (.cells #[.slice A9 SS.length c9, .slice B9 CC.length k9] 32 (0, 0))) (by kernel_rfl) ⟨HT0.out.xb, HXW.out _ _ HT0.out.dw, HYW.out _ _ HT0.out.dw⟩ (fun hS hC => ?_)
              generalize wr.drew = u0 at *
              refine wpAnyL_take (i := 0) (oi := { dst := some 83, op := .move (.tmp 6), type := _, pos := _, after := _, guard := none }) (v := ?_) rfl (by kernel_rfl) (by kernel_rfl) (by kernel_rfl) (fun _ _ _ h => h) (fun _ _ => Iff.rfl) hC (Or.inl ⟨by rfl, ?_⟩) hS (fun hC hS => ?_)
              rotate_left
              · intro W9 hSw; skip; go_simp; try (with_reducible rfl)
              try simp only [Act.put, List.setIfInBounds_toArray, List.set_cons_zero, List.set_cons_succ]
              refine wpAnyL_take (i := 2) (oi := { dst := some 85, op := .fieldAddr 35 (.tmp 8) 0, type := _, pos := _, after := _, guard := none }) (v := ?_) rfl (by kernel_rfl) (by kernel_rfl) (by kernel_rfl) (fun _ _ _ h => h) (fun _ _ => Iff.rfl) hC (Or.inl ⟨by rfl, ?_⟩) hS (fun hC hS => ?_)
              rotate_left
              · intro W9 hSw; skip; go_simp; try (with_reducible rfl)
              try simp only [Act.put, List.setIfInBounds_toArray, List.set_cons_zero, List.set_cons_succ]
              refine wpAnyL_take (i := 3) (oi := { dst := some 86, op := .load 32 (.tmp 85), type := _, pos := _, after := _, guard := none }) (v := ?_) rfl (by kernel_rfl) (by kernel_rfl) (by kernel_rfl) (fun _ _ _ h => h) (fun _ _ => Iff.rfl) hC (Or.inl ⟨by rfl, ?_⟩) hS (fun hC hS => ?_)
              rotate_left
              · intro W9 hSw; have q0 := (cell_of_row _ _ 0 _ _ _ hSw.choose_spec.2.2.1).trans rfl; have q1 := (cell_of_row _ _ 1 _ _ _ hSw.choose_spec.2.2.1).trans rfl; go_simp; try (with_reducible rfl)
              try simp only [Act.put, List.setIfInBounds_toArray, List.set_cons_zero, List.set_cons_succ]
              refine wpAnyL_ready (rs := [1]) (by kernel_rfl) (by simp) hC ?_
              refine AllReadyL.cons (o := { dst := some 84, op := .call { callee := .value (.func 11), args := #[.tmp 83], argTypes := #[25] }, type := _, pos := _, after := _, guard := none }) rfl (fun K9 hK => ?_) ?_
              · skip
                go_simp
                refine (HSZ.out _ HT0.out.dw).mono ?_
                rintro e u4 ⟨A8, n8, c8, B8, m8, k8, rfl, hs4, hc4, hb4⟩
                have HT4 := Lib.hid (HT0.out.kept hb4)
                have HR4 := Lib.hid (hs4.rd0 stC_len)
                have HR5 := Lib.hid (hc4.rd0 wrC_len)
                clear hs4 hc4 hb4 HT0
                refine hK _ _ ⟨HT4.out.xb, HXW.out _ _ HT4.out.dw, HYW.out _ _ HT4.out.dw⟩ (fun hC => ?_)
                clear hK K9
                try simp only [Act.put, List.setIfInBounds_toArray, List.set_cons_zero, List.set_cons_succ]
                refine wpAnyL_ready (rs := [4]) (by kernel_rfl) (by simp) hC ?_
                refine AllReadyL.cons (o := { dst := some 87, op := .call { callee := .value (.func 14), args := #[.tmp 84, .tmp 86], argTypes := #[32, 32] }, type := _, pos := _, after := _, guard := none }) rfl (fun K9 hK => ?_) ?_
                · skip
                  go_simp
                  obtain rfl : n6 = n8 := HT4.out.s.1.1.symm.trans HR4.out.1
                  obtain rfl : m6 = m8 := HT4.out.c.1.1.symm.trans HR5.out.1
                  refine (rsame_yes A8 n6 c8 B8 m6 k8 A6 c6 B6 k6 d.S d.C u4 HR4.out HR5.out HT4.out.s.1 HT4.out.c.1 HSN.out.1 HSN.out.2).mono ?_
                  rintro e u5 ⟨rfl, hb5⟩
                  have HT5 := Lib.hid (HT4.out.kept hb5)
                  clear hb5 HT4 HR4 HR5
                  refine hK _ _ ⟨HT5.out.xb, HXW.out _ _ HT5.out.dw, HYW.out _ _ HT5.out.dw⟩ (fun hC => ?_)
                  clear hK K9
                  try simp only [Act.put, List.setIfInBounds_toArray, List.set_cons_zero, List.set_cons_succ]
                  refine wpAnyL_take (i := 5) (oi := { dst := some 88, op := .move (.tmp 87), type := _, pos := _, after := _, guard := none }) (v := ?_) rfl (by kernel_rfl) (by kernel_rfl) (by kernel_rfl) (fun _ _ _ h => h) (fun _ _ => Iff.rfl) hC (Or.inl ⟨by rfl, ?_⟩) ⟨HT5.out.xb, HXW.out _ _ HT5.out.dw, HYW.out _ _ HT5.out.dw⟩ (fun hC hS => ?_)
                  rotate_left
                  · intro W9 hSw; skip; go_simp; try (with_reducible rfl)
                  try simp only [Act.put, List.setIfInBounds_toArray, List.set_cons_zero, List.set_cons_succ]
                  refine wpAnyL_take (i := 6) (oi := { dst := some 89, op := .load 32 (.tmp 5), type := _, pos := _, after := _, guard := some (5, true) }) (v := ?_) rfl (by kernel_rfl) (by kernel_rfl) (by kernel_rfl) (fun _ _ _ h => h) (fun _ _ => Iff.rfl) hC (Or.inl ⟨by rfl, ?_⟩) ⟨HT5.out.xb, HXW.out _ _ HT5.out.dw, HYW.out _ _ HT5.out.dw⟩ (fun hC hS => ?_)
                  rotate_left
                  · intro W9 hSw; have q0 := (cell_of_row _ _ 0 _ _ _ hSw.choose_spec.2.2.2.2).trans rfl; have q1 := (cell_of_row _ _ 1 _ _ _ hSw.choose_spec.2.2.2.2).trans rfl; go_simp; try (with_reducible rfl)
                  try simp only [Act.put, List.setIfInBounds_toArray, List.set_cons_zero, List.set_cons_succ]
                  refine wpAnyL_take (i := 7) (oi := { dst := some 90, op := .load 32 (.tmp 2), type := _, pos := _, after := _, guard := some (5, true) }) (v := ?_) rfl (by kernel_rfl) (by kernel_rfl) (by kernel_rfl) (fun _ _ _ h => h) (fun _ _ => Iff.rfl) hC (Or.inl ⟨by rfl, ?_⟩) ⟨HT5.out.xb, HXW.out _ _ HT5.out.dw, HYW.out _ _ HT5.out.dw⟩ (fun hC hS => ?_)
                  rotate_left
                  · intro W9 hSw; have q0 := (cell_of_row _ _ 0 _ _ _ hSw.choose_spec.2.2.2.1).trans rfl; have q1 := (cell_of_row _ _ 1 _ _ _ hSw.choose_spec.2.2.2.1).trans rfl; go_simp; try (with_reducible rfl)
                  try simp only [Act.put, List.setIfInBounds_toArray, List.set_cons_zero, List.set_cons_succ]
                  refine wpAnyL_ready (rs := [8]) (by kernel_rfl) (by simp) hC ?_
                  refine AllReadyL.cons (o := { dst := some 91, op := .call { callee := .value (.func 14), args := #[.tmp 89, .tmp 90], argTypes := #[32, 32] }, type := _, pos := _, after := _, guard := some (5, true) }) rfl (fun K9 hK => ?_) ?_
                  · skip
                    go_simp
                    refine (rsame_yes A9 SS.length c9 B9 CC.length k9 A c A2 c2 SS CC u5 (HO13.out.farA HT5.out.dw).1 (HO23.out.farA HT5.out.dw).1 (H13.out.farA HT5.out.dw).1 (H23.out.farA HT5.out.dw).1 HSM.out.1 HSM.out.2).mono ?_
                    rintro e u6 ⟨rfl, hb6⟩
                    have HT6 := Lib.hid (HT5.out.kept hb6)
                    clear hb6 HT5
                    refine hK _ _ ⟨HT6.out.xb, HXW.out _ _ HT6.out.dw, HYW.out _ _ HT6.out.dw⟩ (fun hC => ?_)
                    clear hK K9
                    try simp only [Act.put, List.setIfInBounds_toArray, List.set_cons_zero, List.set_cons_succ]
                    refine wpAnyL_take (i := 9) (oi := { dst := some 92, op := .pick (.tmp 88) (.tmp 91) (.const (.bool false)), type := _, pos := _, after := _, guard := none }) (v := ?_) rfl (by kernel_rfl) (by kernel_rfl) (by kernel_rfl) (fun _ _ _ h => h) (fun _ _ => Iff.rfl) hC (Or.inl ⟨by rfl, ?_⟩) ⟨HT6.out.xb, HXW.out _ _ HT6.out.dw, HYW.out _ _ HT6.out.dw⟩ (fun hC hS => ?_)
                    rotate_left
                    · intro W9 hSw; skip; go_simp; try (with_reducible rfl)
                    try simp only [Act.put, List.setIfInBounds_toArray, List.set_cons_zero, List.set_cons_succ]
                    refine wpAnyL_take (i := 10) (oi := { dst := some 93, op := .move (.tmp 92), type := _, pos := _, after := _, guard := none }) (v := ?_) rfl (by kernel_rfl) (by kernel_rfl) (by kernel_rfl) (fun _ _ _ h => h) (fun _ _ => Iff.rfl) hC (Or.inl ⟨by rfl, ?_⟩) ⟨HT6.out.xb, HXW.out _ _ HT6.out.dw, HYW.out _ _ HT6.out.dw⟩ (fun hC hS => ?_)
                    rotate_left
                    · intro W9 hSw; skip; go_simp; try (with_reducible rfl)
                    try simp only [Act.put, List.setIfInBounds_toArray, List.set_cons_zero, List.set_cons_succ]
                    refine wpAnyL_ready (rs := [11]) (by kernel_rfl) (by simp) hC ?_
                    refine AllReadyL.cons (o := { dst := some 94, op := .call { callee := .value (.func 9), args := #[], argTypes := #[] }, type := _, pos := _, after := _, guard := some (10, true) }) rfl (fun K9 hK => ?_) ?_
                    · skip
                      go_simp
                      refine (awake7_any _).mono ?_
                      rintro e u7 ⟨rfl, hb7⟩
                      have HT7 := Lib.hid (HT6.out.kept hb7)
                      clear hb7 HT6
                      refine hK _ _ ⟨HT7.out.xb, HXW.out _ _ HT7.out.dw, HYW.out _ _ HT7.out.dw⟩ (fun hC => ?_)
                      clear hK K9
                      try simp only [Act.put, List.setIfInBounds_toArray, List.set_cons_zero, List.set_cons_succ]
                      refine wpAnyL_take (i := 12) (oi := { dst := some 95, op := .pick (.tmp 93) (.tmp 94) (.const (.bool false)), type := _, pos := _, after := _, guard := none }) (v := ?_) rfl (by kernel_rfl) (by kernel_rfl) (by kernel_rfl) (fun _ _ _ h => h) (fun _ _ => Iff.rfl) hC (Or.inl ⟨by rfl, ?_⟩) ⟨HT7.out.xb, HXW.out _ _ HT7.out.dw, HYW.out _ _ HT7.out.dw⟩ (fun hC hS => ?_)
                      rotate_left
                      · intro W9 hSw; skip; go_simp; try (with_reducible rfl)
                      try simp only [Act.put, List.setIfInBounds_toArray, List.set_cons_zero, List.set_cons_succ]
                      refine wpAnyL_take (i := 13) (oi := { dst := some 4, op := .assign (.tmp 95), type := _, pos := _, after := _, guard := none }) (v := ?_) rfl (by kernel_rfl) (by kernel_rfl) (by kernel_rfl) (fun _ _ _ h => h) (fun _ _ => Iff.rfl) hC (Or.inl ⟨by rfl, ?_⟩) ⟨HT7.out.xb, HXW.out _ _ HT7.out.dw, HYW.out _ _ HT7.out.dw⟩ (fun hC hS => ?_)
                      rotate_left
                      · intro W9 hSw; skip; go_simp; try (with_reducible rfl)
                      try simp only [Act.put, List.setIfInBounds_toArray, List.set_cons_zero, List.set_cons_succ]
                      refine wpAnyL_done (by kernel_rfl) ?_ _
                      go_wp2_with fail
                      go_ret
                      exact ⟨rfl, HB3.out.trans (HT7.out.dw.bel.mono HB3.out.size)⟩
                    exact AllReadyL.nil
                  exact AllReadyL.nil
                exact AllReadyL.nil
              exact AllReadyL.nil
        exact AllReadyL.nil
      exact AllReadyL.nil
theorem LDiskLoads (A : Option Addr) (n c : Nat) (A2 : Option Addr) (m c2 : Nat) (SS : List ByteArray) (CC : List Wr) (A3 : Option Addr) (k c3 : Nat) (l : List Ac) (w : World) (h1 : RdX stC 1 w A n SS) (h2 : RdX wrC 2 w A2 m CC) (h : RdX acC 6 w A3 k l) (ok : ∀ a ∈ l, AcOk w a) (hm : k ≤ maxLen) :
    Calls Try.prog 4 #[.agg #[.slice A n c, .slice A2 m c2], .slice A3 k c3] w fun e w' => e = .returned (.bool true) ∧ Below w.heap.size w w' := by
  by_cases q1 : 60 < n
  · exact dloads_a A n c A2 m c2 A3 k c3 w q1
  by_cases q2 : 60 < m
  · exact dloads_b A n c A2 m c2 A3 k c3 w q1 q2
  by_cases q3 : 20 < k
  · exact dloads_c A n c A2 m c2 A3 k c3 l w h hm q1 q2 q3
  · exact dloads_d A n c A2 m c2 SS CC A3 k c3 l w h1 h2 h ok hm q1 q2 q3
end Go.Proofs.Ytiagbadnmkeokaa
