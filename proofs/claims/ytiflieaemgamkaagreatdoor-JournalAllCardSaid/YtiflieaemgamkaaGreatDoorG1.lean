/- Several texts of one family, merged for a claim. Conditions as in its parts. -/
import Derived.Test.YtiflieaemgamkaaGreatDoorG0
import Derived.Lib.MinMax
import Derived.Laws.MakeOwn
import Derived.Test.YtiflieaemgamkaaGreatDoorSr
import Derived.Laws.CopyOwn
import Derived.Lib.BufferWrite
import Derived.Deep.DeepCutAuto
import Derived.Test.YtiflieaemgamkaaGreatDoorProg
import Derived.WalkKit
import Derived.Lib.Hide
import Derived.WalkSpells
import Derived.WalkLawsBesides
import Derived.Test.YtiflieaemgamkaaGreatDoorEc
import Derived.Below
import Derived.Handy
import Derived.RegionTactic
import Derived.Lib.Strings
import Derived.Lib.Walk
import Derived.Lib.Builder
import Derived.Lib.AppendStr
import Derived.Lib.UnsafeStr
import Derived.Lib.FrozenHead
import Derived.Laws.Externs
namespace Go.Proofs.YtiflieaemgamkaaGreatDoor
open Go.RowKit Vi

theorem shwL_take (i : Int) (CC : List Wr) (k : Nat) (hk : k < CC.length) (s : ByteArray) : shwL i (CC.take (k + 1)) s = if CC[k].1 = i then CC[k].2 else shwL i (CC.take k) s := by
  rw [List.take_succ_eq_append_getElem hk, shwL_snoc]
set_option maxRecDepth 100000 in
set_option maxHeartbeats 1000000 in
theorem rshows_any (A : Option Addr) (n c : Nat) (A2 : Option Addr) (n2 c2 : Nat) (SS : List ByteArray) (CC : List Wr) (i : Int) (w : World) (h2 : RdX stC 1 w A n SS) (h3 : RdX wrC 2 w A2 n2 CC) (hi : 0 ≤ i ∧ i < (n : Int)) (hc : n2 ≤ 100000) :
    Calls Tryz.prog 142 #[.agg #[.slice A n c, .slice A2 n2 c2], .int .i64 i] w fun e w' => e = .returned (.string (shw SS CC i)) ∧ Below w.heap.size w w' := by
  obtain ⟨hi0, hi1⟩ := hi
  obtain ⟨j, rfl⟩ : ∃ j : Nat, i = (j : Int) := ⟨i.toNat, by omega⟩
  have hj : j < n := by omega
  have HB0 := Lib.hid ((Below.refl w.heap.size w).alloc (Nat.le_refl _) (.cells #[.slice A n c, .slice A2 n2 c2] 33 (0, 0)))
  have HX0 := Lib.hid (blk_new w (.cells #[.slice A n c, .slice A2 n2 c2] 33 (0, 0)))
  have H2 := Lib.hid (h2.below HB0.out)
  have H3 := Lib.hid (h3.below HB0.out)
  obtain ⟨v, hv⟩ : ∃ v, v = w.alloc (.cells #[.slice A n c, .slice A2 n2 c2] 33 (0, 0)) := ⟨_, rfl⟩
  have HV := Lib.hid hv
  rw [← hv] at HB0 HX0 H2 H3
  clear hv h2 h3
  go_enter Tryz.func142, Tryz.ntmps142
  go_upto_region 1 with (fail)
  rw [← HV.out]
  obtain ⟨b, off, hl, rfl, _, hcell⟩ := H2.out.at hj
  have c0 := hcell 0 (.string SS[j]) rfl
  rw [Nat.mul_one, Nat.add_zero] at c0
  have HS := Lib.hid (show (SS[((j : Int)).toNat]?).getD ⟨#[]⟩ = SS[j] by simp [hl])
  obtain ⟨s0, hs0⟩ : ∃ s0, s0 = SS[j] := ⟨_, rfl⟩
  rw [← hs0] at c0 HS
  have x0 : v.cell? ⟨w.heap.size, 0, none⟩ = some (.slice (some ⟨b, off, none⟩) n c) := (cell_of_row _ _ 0 _ _ _ HX0.out).trans rfl
  have x1 : v.cell? ⟨w.heap.size, 1, none⟩ = some (.slice A2 n2 c2) := (cell_of_row _ _ 1 _ _ _ HX0.out).trans rfl
  clear hcell hs0 hi0
  go_wp2_with fail
  clear c0
  go_loop [5, 6] (fun s i => ∃ k : Nat, s = .string (shwL (j : Int) (CC.take k) s0) ∧ i = .int .i64 (k : Int) ∧ k ≤ n2) (fun _ i => n2 - (intOf i).toNat)
  case atStart => exact ⟨0, rfl, rfl, Nat.zero_le _⟩
  case round =>
    obtain ⟨k, rfl, rfl, hk⟩ := hrel
    obtain ⟨t, ht⟩ : ∃ t, t = shwL (j : Int) (CC.take k) s0 := ⟨_, rfl⟩
    rw [← ht]
    have HT0 := Lib.hid ht
    clear ht
    by_cases hlt : k < n2
    · have hd1 : decide ((k : Int) < (n2 : Int)) = true := decide_eq_true (by omega)
      have hi0 : (0 : Int) ≤ (k : Int) := by omega
      obtain ⟨b2, off2, hl2, rfl, _, hcell⟩ := H3.out.at hlt
      have y0 := hcell 0 (.int .i64 CC[k].1) rfl
      have y1 := hcell 1 (.string CC[k].2) rfl
      rw [Nat.add_zero] at y0
      have HT := Lib.hid (shwL_take (j : Int) CC k hl2 s0)
      obtain ⟨x, hx⟩ : ∃ x, x = CC[k] := ⟨_, rfl⟩
      rw [← hx] at y0 y1 HT
      clear hcell hx
      obtain ⟨at0, s⟩ := x
      by_cases hq : at0 = (j : Int)
      · have d1 : (at0 == (j : Int)) = true := by simpa using hq
        have HT2 := Lib.hid (show shwL (j : Int) (CC.take (k + 1)) s0 = s by rw [HT.out, if_pos hq])
        clear HT hq
        go_wp2_with fail
        go_round
        case rel => exact ⟨k + 1, by rw [HT2.out], by go_num, by omega⟩
        case measure => simp [intOf] <;> omega
      · have d1 : (at0 == (j : Int)) = false := by rw [beq_eq_false_iff_ne]; exact hq
        have HT2 := Lib.hid (show shwL (j : Int) (CC.take (k + 1)) s0 = t by rw [HT.out, if_neg hq, HT0.out])
        clear HT hq
        go_wp2_with fail
        go_round
        case rel => exact ⟨k + 1, by rw [HT2.out], by go_num, by omega⟩
        case measure => simp [intOf] <;> omega
    · have hd1 : decide ((k : Int) < (n2 : Int)) = false := decide_eq_false (by omega)
      have HE := Lib.hid (show shw SS CC (j : Int) = t by rw [HT0.out, List.take_of_length_le (by have := H3.out.1; omega)]; unfold shw; rw [HS.out])
      clear HT0
      go_wp2_with fail
      go_ret
      exact ⟨by rw [HE.out]; rfl, HB0.out⟩
/-- all are kept -/
def allK : Nat → Bool := fun _ => true
theorem info_im : (Tryz.prog.info? 33).map (·.size) = some 2 := by kernel_rfl
/-- the sectors that are safe then, and no cache -/
def DoneP (SS : List ByteArray) (w : World) (e : Ending) (w' : World) : Prop := ∃ A n c, e = .returned (.agg #[.slice A n c, .slice none 0 0]) ∧ OwX stC 1 9 w' w.heap.size (.slice A n c) SS ∧ Below w.heap.size w w'
set_option maxRecDepth 100000 in
set_option maxHeartbeats 4000000 in
theorem rdone_all (A : Option Addr) (n c : Nat) (A2 : Option Addr) (n2 c2 : Nat) (L : Value) (SS : List ByteArray) (CC : List Wr) (w : World) (h2 : RdX stC 1 w A n SS) (h3 : RdX wrC 2 w A2 n2 CC) (hok : ∀ x ∈ CC, 0 ≤ x.1 ∧ x.1 < (SS.length : Int) ∧ x.2.size = 128) (hs : n ≤ 100000) (hc : n2 ≤ 100000) :
    Calls Tryz.prog 94 #[.agg #[.slice A n c, .slice A2 n2 c2], .bool true, L] w (DoneP (setP allK 0 CC SS) w) := by
  have H4 := Lib.hid hok
  have HL := Lib.hid h3.1
  clear hok
  have HB1 := Lib.hid (Below.refl w.heap.size w)
  have HF2 := Lib.hid (blk_new w (.cells #[.slice A n c, .slice A2 n2 c2] 33 (0, 0)))
  have HB3 := Lib.hid (HB1.out.alloc HB1.out.size (.cells #[.slice A n c, .slice A2 n2 c2] 33 (0, 0)))
  clear HB1
  have HF4 := Lib.hid (blk_alloc HF2.out (.cells #[.slice none 0 0, .slice none 0 0] 33 (0, 0)))
  clear HF2
  have HF5 : Hid (((w.alloc (.cells #[.slice A n c, .slice A2 n2 c2] 33 (0, 0))).alloc (.cells #[.slice none 0 0, .slice none 0 0] 33 (0, 0))).heap[w.heap.size + 1]? = some (.cells #[.slice none 0 0, .slice none 0 0] 33 (0, 0))) := Lib.hid (blk_newN (W := (w.alloc (.cells #[.slice A n c, .slice A2 n2 c2] 33 (0, 0)))) (o := (.cells #[.slice none 0 0, .slice none 0 0] 33 (0, 0))) (by simp))
  have HB6 := Lib.hid (HB3.out.alloc (by have := HB3.out.size; simp at this ⊢ <;> omega) (.cells #[.slice none 0 0, .slice none 0 0] 33 (0, 0)))
  clear HB3
  obtain ⟨v, hv⟩ : ∃ v, v = ((w.alloc (.cells #[.slice A n c, .slice A2 n2 c2] 33 (0, 0))).alloc (.cells #[.slice none 0 0, .slice none 0 0] 33 (0, 0))) := ⟨_, rfl⟩
  have HVv := Lib.hid hv
  rw [← hv] at HF4 HF5 HB6
  clear hv
  have HCP := Lib.hid (rcopy_any A n c A2 n2 c2 SS CC v (h2.below HB6.out) (h3.below HB6.out) hs hc)
  clear h2 h3
  go_enter Tryz.func94, Tryz.ntmps94
  go_upto_region 1 with (fail)
  rw [← HVv.out]
  go_wp2_with (refine wpList_load_row rfl 33 (.tmp 3) rfl (w.heap.size) rfl 33 #[.slice A n c, .slice A2 n2 c2] (0, 0) _ HF4.out Tryz.underlying33 rfl (info_im) ?_)
  refine (HCP.out).mono ?_
  rintro e w1 ⟨B1, n1, k1, B2, n3, k2, rfl, ho1, ho2, hb1⟩
  have HF7 := Lib.hid (blk_below HF4.out hb1)
  have HF8 := Lib.hid (blk_below HF5.out hb1)
  have HB9 := Lib.hid (HB6.out.trans (hb1.mono HB6.out.size))
  have HO0 := Lib.hid (ho1.mono (B' := w.heap.size) HB6.out.size)
  have HQ0 := Lib.hid (ho2.mono (B' := w.heap.size) HB6.out.size)
  clear hb1 HB6 HF4 HF5
  clear HCP ho1 ho2
  obtain ⟨_, _, e, _, _, _⟩ := HQ0.out.rd wrC_len
  injection e with e1 e2 e3
  subst e2
  clear e1 e3
  go_wp2_with (first
    | refine wpList_store_rowY rfl 33 (.tmp 3) (.tmp 9) rfl (w.heap.size) #[.slice B1 n1 k1, .slice B2 CC.length k2] rfl rfl 33 _ HF7.out (info_im) rfl (by simp [Value.oneCell']) w.heap.size w HB9.out (by omega) ?_)
  intro w2 hbk hoth hbel _
  have HO10 := Lib.hid (HO0.out.oth hoth.out HF7.out (by decide))
  have HQ11 := Lib.hid (HQ0.out.oth hoth.out HF7.out (by decide))
  have HF12 := Lib.hid hbk.out
  have HF13 := Lib.hid (blk_oth HF8.out hoth.out (by omega))
  have HB14 := Lib.hid hbel.out
  clear hbk hoth hbel HB9 HF7 HF8
  go_wp2_with fail
  have hcl : CC.length ≤ 100000 := by have := HL.out; omega
  go_loopw [7] (fun i wr => ∃ k : Nat, i = .int .i64 (k : Int) ∧ k ≤ CC.length ∧ wr.heap[w.heap.size]? = some (.cells #[.slice B1 n1 k1, .slice B2 CC.length k2] 33 (0, 0)) ∧ wr.heap[w.heap.size + 1]? = some (.cells #[.slice none 0 0, .slice none 0 0] 33 (0, 0)) ∧ OwX stC 1 9 wr w.heap.size (.slice B1 n1 k1) (setP allK 0 (CC.take k) SS) ∧ OwX wrC 2 102 wr w.heap.size (.slice B2 CC.length k2) CC ∧ Below w.heap.size w wr) (fun i _ => CC.length - (intOf i).toNat)
  case atStart => exact ⟨0, rfl, Nat.zero_le _, HF12.out, HF13.out, HO10.out, HQ11.out, HB14.out⟩
  case round =>
    obtain ⟨k, rfl, hk, hx, hr, ho, hq, hb⟩ := hrel
    have HX := Lib.hid hx
    have HR := Lib.hid hr
    have HO := Lib.hid ho
    have HQ := Lib.hid hq
    have HB := Lib.hid hb
    clear hx hr ho hq hb
    have x0 : wr.cell? ⟨w.heap.size, 0, none⟩ = some (.slice B1 n1 k1) := (cell_of_row _ _ 0 _ _ _ HX.out).trans rfl
    have x1 : wr.cell? ⟨w.heap.size, 1, none⟩ = some (.slice B2 CC.length k2) := (cell_of_row _ _ 1 _ _ _ HX.out).trans rfl
    by_cases hlt : k < CC.length
    · have hd1 : decide ((k : Int) < (CC.length : Int)) = true := decide_eq_true (by omega)
      have hi0 : (0 : Int) ≤ (k : Int) := by omega
      obtain ⟨A', c', e, hrd, _, _⟩ := HQ.out.rd wrC_len
      injection e with e1 e2 e3
      subst e1 e3
      obtain ⟨b, off, hl, rfl, hbb, hcell⟩ := hrd.at hlt
      have y0 := hcell 0 (.int .i64 CC[k].1) rfl
      have y1 := hcell 1 (.string CC[k].2) rfl
      rw [Nat.add_zero] at y0
      have HT0 := Lib.hid (show setP allK 0 (CC.take (k + 1)) SS = if allK k = true then (setP allK 0 (CC.take k) SS).set CC[k].1.toNat CC[k].2 else setP allK 0 (CC.take k) SS by rw [List.take_succ_eq_append_getElem hl, setP_snoc, Nat.zero_add, List.length_take, Nat.min_eq_left (Nat.le_of_lt hl)])
      obtain ⟨q1, q2, _⟩ := H4.out CC[k] (List.getElem_mem hl)
      obtain ⟨x, hx⟩ : ∃ x, x = CC[k] := ⟨_, rfl⟩
      rw [← hx] at y0 y1 HT0 q1 q2
      clear hx hcell hrd e2
      obtain ⟨at0, s⟩ := x
      have q1 : 0 ≤ at0 := q1
      have q2 : at0 < (SS.length : Int) := q2
      obtain ⟨j, rfl⟩ : ∃ j : Nat, at0 = (j : Int) := ⟨at0.toNat, by omega⟩
      have hj : j < (setP allK 0 (CC.take k) SS).length := by rw [setP_len]; omega
      have hn1 : n1 = (setP allK 0 (CC.take k) SS).length := by
        obtain ⟨_, _, e, _, _, _⟩ := HO.out.rd stC_len
        injection e
      have hj0 : (0 : Int) ≤ (j : Int) := by omega
      have hj1 : (j : Int) < (n1 : Int) := by omega
      clear q1 q2
      obtain ⟨T, hT⟩ : ∃ T, T = setP allK 0 (CC.take k) SS := ⟨_, rfl⟩
      rw [← hT] at HT0 HO hj hn1
      clear hT hn1
      have HT := Lib.hid (show setP allK 0 (CC.take (k + 1)) SS = T.set j s by rw [HT0.out]; exact if_pos rfl)
      clear HT0
      go_upto_region 6 with (fail)
      have hrow := HO.out
      rcases hrow with ⟨_, ⟨_, h0⟩ | ⟨gg, cap, cur, e, hg, hheap, _⟩⟩
      · omega
      injection e with e1 e2 e3
      subst e1 e3
      have HG := Lib.hid hheap
      have hgm : w.heap.size ≤ gg := hg
      have hne : ¬ b = gg := fun e => by
        subst e
        rcases HQ.out.2 with ⟨q, _⟩ | ⟨g2, _, _, q, _, h4, _⟩
        · cases q
        · injection q with q _ _
          injection q with q
          injection q with q _ _
          subst q
          rw [hheap] at h4
          cases h4
      have hnx : ¬ w.heap.size = gg := fun e => by
        subst e
        have q := HX.out
        rw [hheap] at q
        cases q
      have hnr : ¬ w.heap.size + 1 = gg := fun e => by
        subst e
        have q := HR.out
        rw [hheap] at q
        cases q
      obtain ⟨A3_, c3_, e, hr2, _, _⟩ := HO.out.rd stC_len
      injection e with e4 e5 e6
      subst e4
      have hck : wr.cell? ⟨gg, j, none⟩ = some (.string T[j]) := by
        obtain ⟨b2, off2, hb2, _, hc2⟩ := hr2.2 (by omega)
        injection hb2 with hb2
        injection hb2 with hb3 hb4
        subst hb3 hb4
        have q := hc2 j T[j] 0 (.string T[j]) (List.getElem?_eq_getElem hj) rfl
        rw [Nat.zero_add, Nat.mul_one, Nat.add_zero] at q
        exact q
      obtain ⟨o, ho⟩ : ∃ o, o = T[j] := ⟨_, rfl⟩
      rw [← ho] at hck
      clear hr2 hheap hg ho e2 e5 e6
      refine wp_region_L_drew (S := fun _ W => W.heap[w.heap.size]? = some (.cells #[.slice (some ⟨gg, 0, none⟩) n1 k1, .slice (some ⟨b, off, none⟩) CC.length k2] 33 (0, 0)) ∧ W.cell? ⟨b, off + k * 2, none⟩ = some (.int .i64 (j : Int)) ∧ W.cell? ⟨b, off + k * 2 + 1, none⟩ = some (.string s)) (by kernel_rfl) ⟨HX.out, y0, y1⟩ (fun hS hC => ?_)
      refine wpAnyL_take (i := 0) (oi := { dst := some 23, op := .fieldAddr 33 (.tmp 3) 0, type := _, pos := _, after := _, guard := none }) (v := ?_) rfl (by kernel_rfl) (by kernel_rfl) (by kernel_rfl) (fun _ _ _ h => h) (fun _ _ => Iff.rfl) hC (Or.inl ⟨by rfl, ?_⟩) hS (fun hC hS => ?_)
      rotate_left
      · intro W9 hSw; skip; go_simp; try (with_reducible rfl)
      try simp only [Act.put, List.setIfInBounds_toArray, List.set_cons_zero, List.set_cons_succ]
      refine wpAnyL_take (i := 1) (oi := { dst := some 24, op := .load 30 (.tmp 23), type := _, pos := _, after := _, guard := none }) (v := ?_) rfl (by kernel_rfl) (by kernel_rfl) (by kernel_rfl) (fun _ _ _ h => h) (fun _ _ => Iff.rfl) hC (Or.inl ⟨by rfl, ?_⟩) hS (fun hC hS => ?_)
      rotate_left
      · intro W9 hSw; have q0 := (cell_of_row _ _ 0 _ _ _ hSw.choose_spec.2.2.1).trans rfl; have q1 := (cell_of_row _ _ 1 _ _ _ hSw.choose_spec.2.2.1).trans rfl; go_simp; try (with_reducible rfl)
      try simp only [Act.put, List.setIfInBounds_toArray, List.set_cons_zero, List.set_cons_succ]
      refine wpAnyL_take (i := 2) (oi := { dst := some 25, op := .fieldAddr 33 (.tmp 3) 1, type := _, pos := _, after := _, guard := none }) (v := ?_) rfl (by kernel_rfl) (by kernel_rfl) (by kernel_rfl) (fun _ _ _ h => h) (fun _ _ => Iff.rfl) hC (Or.inl ⟨by rfl, ?_⟩) hS (fun hC hS => ?_)
      rotate_left
      · intro W9 hSw; skip; go_simp; try (with_reducible rfl)
      try simp only [Act.put, List.setIfInBounds_toArray, List.set_cons_zero, List.set_cons_succ]
      refine wpAnyL_take (i := 3) (oi := { dst := some 26, op := .load 31 (.tmp 25), type := _, pos := _, after := _, guard := none }) (v := ?_) rfl (by kernel_rfl) (by kernel_rfl) (by kernel_rfl) (fun _ _ _ h => h) (fun _ _ => Iff.rfl) hC (Or.inl ⟨by rfl, ?_⟩) hS (fun hC hS => ?_)
      rotate_left
      · intro W9 hSw; have q1 := (cell_of_row _ _ 1 _ _ _ hSw.choose_spec.2.2.1).trans rfl; go_simp; try (with_reducible rfl)
      try simp only [Act.put, List.setIfInBounds_toArray, List.set_cons_zero, List.set_cons_succ]
      refine wpAnyL_take (i := 4) (oi := { dst := some 27, op := .move (.tmp 7), type := _, pos := _, after := _, guard := none }) (v := ?_) rfl (by kernel_rfl) (by kernel_rfl) (by kernel_rfl) (fun _ _ _ h => h) (fun _ _ => Iff.rfl) hC (Or.inl ⟨by rfl, ?_⟩) hS (fun hC hS => ?_)
      rotate_left
      · intro W9 hSw; skip; go_simp; try (with_reducible rfl)
      try simp only [Act.put, List.setIfInBounds_toArray, List.set_cons_zero, List.set_cons_succ]
      refine wpAnyL_take (i := 5) (oi := { dst := some 28, op := .indexAddr 31 (.tmp 26) (.tmp 27), type := _, pos := _, after := _, guard := none }) (v := ?_) rfl (by kernel_rfl) (by kernel_rfl) (by kernel_rfl) (fun _ _ _ h => h) (fun _ _ => Iff.rfl) hC (Or.inl ⟨by rfl, ?_⟩) hS (fun hC hS => ?_)
      rotate_left
      · intro W9 hSw; skip; go_simp; try (with_reducible rfl)
      try simp only [Act.put, List.setIfInBounds_toArray, List.set_cons_zero, List.set_cons_succ]
      refine wpAnyL_take (i := 6) (oi := { dst := some 29, op := .fieldAddr 102 (.tmp 28) 0, type := _, pos := _, after := _, guard := none }) (v := ?_) rfl (by kernel_rfl) (by kernel_rfl) (by kernel_rfl) (fun _ _ _ h => h) (fun _ _ => Iff.rfl) hC (Or.inl ⟨by rfl, ?_⟩) hS (fun hC hS => ?_)
      rotate_left
      · intro W9 hSw; skip; go_simp; try (with_reducible rfl)
      try simp only [Act.put, List.setIfInBounds_toArray, List.set_cons_zero, List.set_cons_succ]
      refine wpAnyL_take (i := 7) (oi := { dst := some 30, op := .load 3 (.tmp 29), type := _, pos := _, after := _, guard := none }) (v := ?_) rfl (by kernel_rfl) (by kernel_rfl) (by kernel_rfl) (fun _ _ _ h => h) (fun _ _ => Iff.rfl) hC (Or.inl ⟨by rfl, ?_⟩) hS (fun hC hS => ?_)
      rotate_left
      · intro W9 hSw; have q0 := hSw.choose_spec.2.2.2.1; have q1 := hSw.choose_spec.2.2.2.2; go_simp; try (with_reducible rfl)
      try simp only [Act.put, List.setIfInBounds_toArray, List.set_cons_zero, List.set_cons_succ]
      refine wpAnyL_take (i := 8) (oi := { dst := some 31, op := .fieldAddr 33 (.tmp 3) 1, type := _, pos := _, after := _, guard := none }) (v := ?_) rfl (by kernel_rfl) (by kernel_rfl) (by kernel_rfl) (fun _ _ _ h => h) (fun _ _ => Iff.rfl) hC (Or.inl ⟨by rfl, ?_⟩) hS (fun hC hS => ?_)
      rotate_left
      · intro W9 hSw; skip; go_simp; try (with_reducible rfl)
      try simp only [Act.put, List.setIfInBounds_toArray, List.set_cons_zero, List.set_cons_succ]
      refine wpAnyL_take (i := 9) (oi := { dst := some 32, op := .load 31 (.tmp 31), type := _, pos := _, after := _, guard := none }) (v := ?_) rfl (by kernel_rfl) (by kernel_rfl) (by kernel_rfl) (fun _ _ _ h => h) (fun _ _ => Iff.rfl) hC (Or.inl ⟨by rfl, ?_⟩) hS (fun hC hS => ?_)
      rotate_left
      · intro W9 hSw; have q1 := (cell_of_row _ _ 1 _ _ _ hSw.choose_spec.2.2.1).trans rfl; go_simp; try (with_reducible rfl)
      try simp only [Act.put, List.setIfInBounds_toArray, List.set_cons_zero, List.set_cons_succ]
      refine wpAnyL_take (i := 10) (oi := { dst := some 33, op := .move (.tmp 7), type := _, pos := _, after := _, guard := none }) (v := ?_) rfl (by kernel_rfl) (by kernel_rfl) (by kernel_rfl) (fun _ _ _ h => h) (fun _ _ => Iff.rfl) hC (Or.inl ⟨by rfl, ?_⟩) hS (fun hC hS => ?_)
      rotate_left
      · intro W9 hSw; skip; go_simp; try (with_reducible rfl)
      try simp only [Act.put, List.setIfInBounds_toArray, List.set_cons_zero, List.set_cons_succ]
      refine wpAnyL_take (i := 11) (oi := { dst := some 34, op := .indexAddr 31 (.tmp 32) (.tmp 33), type := _, pos := _, after := _, guard := none }) (v := ?_) rfl (by kernel_rfl) (by kernel_rfl) (by kernel_rfl) (fun _ _ _ h => h) (fun _ _ => Iff.rfl) hC (Or.inl ⟨by rfl, ?_⟩) hS (fun hC hS => ?_)
      rotate_left
      · intro W9 hSw; skip; go_simp; try (with_reducible rfl)
      try simp only [Act.put, List.setIfInBounds_toArray, List.set_cons_zero, List.set_cons_succ]
      refine wpAnyL_take (i := 12) (oi := { dst := some 35, op := .fieldAddr 102 (.tmp 34) 1, type := _, pos := _, after := _, guard := none }) (v := ?_) rfl (by kernel_rfl) (by kernel_rfl) (by kernel_rfl) (fun _ _ _ h => h) (fun _ _ => Iff.rfl) hC (Or.inl ⟨by rfl, ?_⟩) hS (fun hC hS => ?_)
      rotate_left
      · intro W9 hSw; skip; go_simp; try (with_reducible rfl)
      try simp only [Act.put, List.setIfInBounds_toArray, List.set_cons_zero, List.set_cons_succ]
      refine wpAnyL_take (i := 13) (oi := { dst := some 36, op := .load 9 (.tmp 35), type := _, pos := _, after := _, guard := none }) (v := ?_) rfl (by kernel_rfl) (by kernel_rfl) (by kernel_rfl) (fun _ _ _ h => h) (fun _ _ => Iff.rfl) hC (Or.inl ⟨by rfl, ?_⟩) hS (fun hC hS => ?_)
      rotate_left
      · intro W9 hSw; have q0 := hSw.choose_spec.2.2.2.1; have q1 := hSw.choose_spec.2.2.2.2; go_simp; try (with_reducible rfl)
      try simp only [Act.put, List.setIfInBounds_toArray, List.set_cons_zero, List.set_cons_succ]
      refine wpAnyL_take (i := 14) (oi := { dst := some 37, op := .indexAddr 30 (.tmp 24) (.tmp 30), type := _, pos := _, after := _, guard := none }) (v := ?_) rfl (by kernel_rfl) (by kernel_rfl) (by kernel_rfl) (fun _ _ _ h => h) (fun _ _ => Iff.rfl) hC (Or.inl ⟨by rfl, ?_⟩) hS (fun hC hS => ?_)
      rotate_left
      · intro W9 hSw; skip; go_simp; try (with_reducible rfl)
      try simp only [Act.put, List.setIfInBounds_toArray, List.set_cons_zero, List.set_cons_succ]
      refine wpAnyL_ready (rs := [15]) (by kernel_rfl) (by simp) hC ?_
      refine AllReadyL.cons (o := { dst := none, op := .store 9 (.tmp 37) (.tmp 36), type := _, pos := _, after := _, guard := none }) rfl (fun K9 hK => ?_) ?_
      · skip
        have y3 : wr.drew.cell? ⟨gg, j, none⟩ = some (.string o) := hck
        have f3 : wr.drew.frozen? ⟨gg, j, none⟩ = false := frozen_of_row _ _ _ _ _ (show wr.drew.heap[gg]? = _ from HG.out)
        go_simp
        have HK := Lib.hid ((KK.refl [gg] wr.drew).set (b := gg) (by simp) j (.string s))
        have HX9 := Lib.hid (HK.out.blk (show wr.drew.heap[w.heap.size]? = _ from HX.out) (by simpa using hnx))
        have HR9 := Lib.hid (HK.out.blk (show wr.drew.heap[w.heap.size + 1]? = _ from HR.out) (by simpa using hnr))
        have z0 := (World.cell?_of_block (a := ⟨b, off + k * 2, none⟩) (HK.out.block b hbb (by simpa using hne))).trans y0
        have z1 := (World.cell?_of_block (a := ⟨b, off + k * 2 + 1, none⟩) (HK.out.block b hbb (by simpa using hne))).trans y1
        have HO9 := Lib.hid (HO.out.drew.setS (i := j) s)
        have HQ9 := Lib.hid (HQ.out.drew.kkD HK.out (show wr.drew.heap[gg]? = _ from HG.out) (by decide))
        have HB9 := Lib.hid (HK.out.below HB.out.drew (fun b hb => by obtain rfl : b = gg := (by simpa using hb); exact hgm) HB.out.drew.size)
        refine hK _ _ ⟨HX9.out, z0, z1⟩ (fun hC => ?_)
        clear hK K9
        try simp only [Act.put, List.setIfInBounds_toArray, List.set_cons_zero, List.set_cons_succ]
        refine wpAnyL_done (by kernel_rfl) ?_ _
        clear x0 x1 y0 y1 y3 f3 z0 z1 hck hS
        go_wp2_with fail
        go_roundw
        case rel => exact ⟨k + 1, by go_num, by omega, HX9.out, HR9.out, by rw [HT.out]; exact HO9.out, HQ9.out, HB9.out⟩
        case measure => simp [intOf] <;> omega
      exact AllReadyL.nil
    · have hd1 : decide ((k : Int) < (CC.length : Int)) = false := decide_eq_false (by omega)
      have HO : Hid (OwX stC 1 9 wr w.heap.size (.slice B1 n1 k1) (setP allK 0 CC SS)) := Lib.hid (by have e : CC.take k = CC := List.take_of_length_le (by omega); rw [← e]; exact HO.out)
      have f0 : wr.frozen? ⟨w.heap.size, 1, none⟩ = false := frozen_of_row _ _ _ _ _ HX.out
      clear HQ
      go_upto_region 8 with (fail)
      clear x0 x1 f0
      have HKK901 := Lib.hid ((KK.refl [w.heap.size] wr).set (b := w.heap.size) (by simp) 1 (.slice none 0 0))
      have HF902 := Lib.hid (show (wr.setCell ⟨w.heap.size, 1, none⟩ (.slice none 0 0)).heap[w.heap.size]? = some (.cells #[.slice B1 n1 k1, .slice none 0 0] 33 (0, 0)) by have q := heap_setCell_at (i := 1) (u := .slice none 0 0) (HX.out); exact q)
      have HF903 := Lib.hid (HKK901.out.blk HR.out (by simp <;> omega))
      have HO904 := Lib.hid (HO.out.kkD HKK901.out HX.out (by decide))
      have HB905 := Lib.hid (HKK901.out.below HB.out (fun b hb => by obtain rfl : b = w.heap.size := (by simpa using hb); omega) HB.out.size)
      clear HB HX HR
      generalize (wr.setCell ⟨w.heap.size, 1, none⟩ (.slice none 0 0)) = w91 at *
      go_wp2_with (first
        | refine wpList_store_rowY rfl 33 (.tmp 6) (.tmp 39) rfl (w.heap.size + 1) #[.slice B1 n1 k1, .slice none 0 0] rfl rfl 33 _ HF903.out (info_im) rfl (by simp [Value.oneCell']) w.heap.size w HB905.out (by omega) ?_
        | refine wpList_load_row rfl 33 (.tmp 3) rfl (w.heap.size) rfl 33 #[.slice B1 n1 k1, .slice none 0 0] (0, 0) _ HF902.out Tryz.underlying33 rfl (info_im) ?_)
      intro w92 hbk hoth hbel _
      have HO906 := Lib.hid (HO904.out.oth hoth.out HF903.out (by decide))
      have HF907 := Lib.hid (blk_oth HF902.out hoth.out (by omega))
      have HF908 := Lib.hid hbk.out
      have HB909 := Lib.hid hbel.out
      clear hbk hoth hbel HB905 HF902 HF903
      go_wp2_with fail
      refine bodyPost_ret (results_cY rfl _ _ (w.heap.size + 1) #[.slice B1 n1 k1, .slice none 0 0] rfl (run_loadVar_row _ (w.heap.size + 1) 33 33 _ (0, 0) _ HF908.out Tryz.underlying33 rfl (by kernel_rfl))) rfl ?_
      exact ⟨B1, n1, k1, rfl, HO906.out, HB909.out⟩
set_option maxRecDepth 100000 in
set_option maxHeartbeats 4000000 in
theorem rdone_keep (A : Option Addr) (n c : Nat) (A2 : Option Addr) (n2 c2 : Nat) (A3 : Option Addr) (n3' c3 : Nat) (ks : List Int) (SS : List ByteArray) (CC : List Wr) (w : World) (h2 : RdX stC 1 w A n SS) (h3 : RdX wrC 2 w A2 n2 CC) (hk : RdX inC 1 w A3 n3' ks) (hn3 : n3' ≤ maxLen) (hok : ∀ x ∈ CC, 0 ≤ x.1 ∧ x.1 < (SS.length : Int) ∧ x.2.size = 128) (hs : n ≤ 100000) (hc : n2 ≤ 100000) :
    Calls Tryz.prog 94 #[.agg #[.slice A n c, .slice A2 n2 c2], .bool false, .slice A3 n3' c3] w (DoneP (setP (inK ks) 0 CC SS) w) := by
  have H4 := Lib.hid hok
  have HL := Lib.hid h3.1
  clear hok
  have HK0 := Lib.hid hk
  clear hk
  have HB1 := Lib.hid (Below.refl w.heap.size w)
  have HF2 := Lib.hid (blk_new w (.cells #[.slice A n c, .slice A2 n2 c2] 33 (0, 0)))
  have HB3 := Lib.hid (HB1.out.alloc HB1.out.size (.cells #[.slice A n c, .slice A2 n2 c2] 33 (0, 0)))
  clear HB1
  have HF4 := Lib.hid (blk_alloc HF2.out (.cells #[.slice none 0 0, .slice none 0 0] 33 (0, 0)))
  clear HF2
  have HF5 : Hid (((w.alloc (.cells #[.slice A n c, .slice A2 n2 c2] 33 (0, 0))).alloc (.cells #[.slice none 0 0, .slice none 0 0] 33 (0, 0))).heap[w.heap.size + 1]? = some (.cells #[.slice none 0 0, .slice none 0 0] 33 (0, 0))) := Lib.hid (blk_newN (W := (w.alloc (.cells #[.slice A n c, .slice A2 n2 c2] 33 (0, 0)))) (o := (.cells #[.slice none 0 0, .slice none 0 0] 33 (0, 0))) (by simp))
  have HB6 := Lib.hid (HB3.out.alloc (by have := HB3.out.size; simp at this ⊢ <;> omega) (.cells #[.slice none 0 0, .slice none 0 0] 33 (0, 0)))
  clear HB3
  obtain ⟨v, hv⟩ : ∃ v, v = ((w.alloc (.cells #[.slice A n c, .slice A2 n2 c2] 33 (0, 0))).alloc (.cells #[.slice none 0 0, .slice none 0 0] 33 (0, 0))) := ⟨_, rfl⟩
  have HVv := Lib.hid hv
  rw [← hv] at HF4 HF5 HB6
  clear hv
  have HCP := Lib.hid (rcopy_any A n c A2 n2 c2 SS CC v (h2.below HB6.out) (h3.below HB6.out) hs hc)
  clear h2 h3
  go_enter Tryz.func94, Tryz.ntmps94
  go_upto_region 1 with (fail)
  rw [← HVv.out]
  go_wp2_with (refine wpList_load_row rfl 33 (.tmp 3) rfl (w.heap.size) rfl 33 #[.slice A n c, .slice A2 n2 c2] (0, 0) _ HF4.out Tryz.underlying33 rfl (info_im) ?_)
  refine (HCP.out).mono ?_
  rintro e w1 ⟨B1, n1, k1, B2, n3, k2, rfl, ho1, ho2, hb1⟩
  have HF7 := Lib.hid (blk_below HF4.out hb1)
  have HF8 := Lib.hid (blk_below HF5.out hb1)
  have HB9 := Lib.hid (HB6.out.trans (hb1.mono HB6.out.size))
  have HO0 := Lib.hid (ho1.mono (B' := w.heap.size) HB6.out.size)
  have HQ0 := Lib.hid (ho2.mono (B' := w.heap.size) HB6.out.size)
  clear hb1 HB6 HF4 HF5
  clear HCP ho1 ho2
  obtain ⟨_, _, e, _, _, _⟩ := HQ0.out.rd wrC_len
  injection e with e1 e2 e3
  subst e2
  clear e1 e3
  go_wp2_with (first
    | refine wpList_store_rowY rfl 33 (.tmp 3) (.tmp 9) rfl (w.heap.size) #[.slice B1 n1 k1, .slice B2 CC.length k2] rfl rfl 33 _ HF7.out (info_im) rfl (by simp [Value.oneCell']) w.heap.size w HB9.out (by omega) ?_)
  intro w2 hbk hoth hbel _
  have HO10 := Lib.hid (HO0.out.oth hoth.out HF7.out (by decide))
  have HQ11 := Lib.hid (HQ0.out.oth hoth.out HF7.out (by decide))
  have HF12 := Lib.hid hbk.out
  have HF13 := Lib.hid (blk_oth HF8.out hoth.out (by omega))
  have HB14 := Lib.hid hbel.out
  clear hbk hoth hbel HB9 HF7 HF8
  go_wp2_with fail
  have hcl : CC.length ≤ 100000 := by have := HL.out; omega
  go_loopw [7] (fun i wr => ∃ k : Nat, i = .int .i64 (k : Int) ∧ k ≤ CC.length ∧ wr.heap[w.heap.size]? = some (.cells #[.slice B1 n1 k1, .slice B2 CC.length k2] 33 (0, 0)) ∧ wr.heap[w.heap.size + 1]? = some (.cells #[.slice none 0 0, .slice none 0 0] 33 (0, 0)) ∧ OwX stC 1 9 wr w.heap.size (.slice B1 n1 k1) (setP (inK ks) 0 (CC.take k) SS) ∧ OwX wrC 2 102 wr w.heap.size (.slice B2 CC.length k2) CC ∧ Below w.heap.size w wr) (fun i _ => CC.length - (intOf i).toNat)
  case atStart => exact ⟨0, rfl, Nat.zero_le _, HF12.out, HF13.out, HO10.out, HQ11.out, HB14.out⟩
  case round =>
    obtain ⟨k, rfl, hk, hx, hr, ho, hq, hb⟩ := hrel
    have HX := Lib.hid hx
    have HR := Lib.hid hr
    have HO := Lib.hid ho
    have HQ := Lib.hid hq
    have HB := Lib.hid hb
    clear hx hr ho hq hb
    have x0 : wr.cell? ⟨w.heap.size, 0, none⟩ = some (.slice B1 n1 k1) := (cell_of_row _ _ 0 _ _ _ HX.out).trans rfl
    have x1 : wr.cell? ⟨w.heap.size, 1, none⟩ = some (.slice B2 CC.length k2) := (cell_of_row _ _ 1 _ _ _ HX.out).trans rfl
    by_cases hlt : k < CC.length
    · have hd1 : decide ((k : Int) < (CC.length : Int)) = true := decide_eq_true (by omega)
      have hi0 : (0 : Int) ≤ (k : Int) := by omega
      obtain ⟨A', c', e, hrd, _, _⟩ := HQ.out.rd wrC_len
      injection e with e1 e2 e3
      subst e1 e3
      obtain ⟨b, off, hl, rfl, hbb, hcell⟩ := hrd.at hlt
      have y0 := hcell 0 (.int .i64 CC[k].1) rfl
      have y1 := hcell 1 (.string CC[k].2) rfl
      rw [Nat.add_zero] at y0
      have HT0 := Lib.hid (show setP (inK ks) 0 (CC.take (k + 1)) SS = if (inK ks) k = true then (setP (inK ks) 0 (CC.take k) SS).set CC[k].1.toNat CC[k].2 else setP (inK ks) 0 (CC.take k) SS by rw [List.take_succ_eq_append_getElem hl, setP_snoc, Nat.zero_add, List.length_take, Nat.min_eq_left (Nat.le_of_lt hl)])
      obtain ⟨q1, q2, _⟩ := H4.out CC[k] (List.getElem_mem hl)
      obtain ⟨x, hx⟩ : ∃ x, x = CC[k] := ⟨_, rfl⟩
      rw [← hx] at y0 y1 HT0 q1 q2
      clear hx hcell hrd e2
      obtain ⟨at0, s⟩ := x
      have q1 : 0 ≤ at0 := q1
      have q2 : at0 < (SS.length : Int) := q2
      obtain ⟨j, rfl⟩ : ∃ j : Nat, at0 = (j : Int) := ⟨at0.toNat, by omega⟩
      have hj : j < (setP (inK ks) 0 (CC.take k) SS).length := by rw [setP_len]; omega
      have hn1 : n1 = (setP (inK ks) 0 (CC.take k) SS).length := by
        obtain ⟨_, _, e, _, _, _⟩ := HO.out.rd stC_len
        injection e
      have hj0 : (0 : Int) ≤ (j : Int) := by omega
      have hj1 : (j : Int) < (n1 : Int) := by omega
      clear q1 q2
      obtain ⟨T, hT⟩ : ∃ T, T = setP (inK ks) 0 (CC.take k) SS := ⟨_, rfl⟩
      rw [← hT] at HT0 HO hj hn1
      clear hT hn1
      have HKC := Lib.hid (fun (W : World) (q : RdX inC 1 W A3 n3' ks) => rkept_any A3 n3' c3 ks (k : Int) W q hn3)
      have HKR := Lib.hid (HK0.out.below HB.out)
      obtain ⟨pb, hpb⟩ : ∃ pb, pb = inK ks k := ⟨_, rfl⟩
      have HKC : Hid (∀ (W : World), RdX inC 1 W A3 n3' ks → Calls Tryz.prog 153 #[.slice A3 n3' c3, .int .i64 (k : Int)] W fun e w' => e = .returned (.bool pb) ∧ W = w') := Lib.hid (fun W q => by rw [hpb]; exact HKC.out W q)
      rw [← hpb] at HT0
      clear hpb
      cases pb
      · have HT := Lib.hid (show setP (inK ks) 0 (CC.take (k + 1)) SS = T by rw [HT0.out]; simp)
        clear HT0
        go_wp2_with fail
        refine (HKC.out _ HKR.out).mono ?_
        rintro e w' ⟨rfl, rfl⟩
        go_wp2_with fail
        go_roundw
        case rel => exact ⟨k + 1, by go_num, by omega, HX.out, HR.out, by rw [HT.out]; exact HO.out, HQ.out, HB.out⟩
        case measure => simp [intOf] <;> omega
      have HT := Lib.hid (show setP (inK ks) 0 (CC.take (k + 1)) SS = T.set j s by rw [HT0.out]; simp)
      clear HT0
      go_wp2_with fail
      refine (HKC.out _ HKR.out).mono ?_
      rintro e w' ⟨rfl, rfl⟩
      go_upto_region 6 with (fail)
      have hrow := HO.out
      rcases hrow with ⟨_, ⟨_, h0⟩ | ⟨gg, cap, cur, e, hg, hheap, _⟩⟩
      · omega
      injection e with e1 e2 e3
      subst e1 e3
      have HG := Lib.hid hheap
      have hgm : w.heap.size ≤ gg := hg
      have hne : ¬ b = gg := fun e => by
        subst e
        rcases HQ.out.2 with ⟨q, _⟩ | ⟨g2, _, _, q, _, h4, _⟩
        · cases q
        · injection q with q _ _
          injection q with q
          injection q with q _ _
          subst q
          rw [hheap] at h4
          cases h4
      have hnx : ¬ w.heap.size = gg := fun e => by
        subst e
        have q := HX.out
        rw [hheap] at q
        cases q
      have hnr : ¬ w.heap.size + 1 = gg := fun e => by
        subst e
        have q := HR.out
        rw [hheap] at q
        cases q
      obtain ⟨A3_, c3_, e, hr2, _, _⟩ := HO.out.rd stC_len
      injection e with e4 e5 e6
      subst e4
      have hck : wr.cell? ⟨gg, j, none⟩ = some (.string T[j]) := by
        obtain ⟨b2, off2, hb2, _, hc2⟩ := hr2.2 (by omega)
        injection hb2 with hb2
        injection hb2 with hb3 hb4
        subst hb3 hb4
        have q := hc2 j T[j] 0 (.string T[j]) (List.getElem?_eq_getElem hj) rfl
        rw [Nat.zero_add, Nat.mul_one, Nat.add_zero] at q
        exact q
      obtain ⟨o, ho⟩ : ∃ o, o = T[j] := ⟨_, rfl⟩
      rw [← ho] at hck
      clear hr2 hheap hg ho e2 e5 e6
      refine wp_region_L_drew (S := fun _ W => W.heap[w.heap.size]? = some (.cells #[.slice (some ⟨gg, 0, none⟩) n1 k1, .slice (some ⟨b, off, none⟩) CC.length k2] 33 (0, 0)) ∧ W.cell? ⟨b, off + k * 2, none⟩ = some (.int .i64 (j : Int)) ∧ W.cell? ⟨b, off + k * 2 + 1, none⟩ = some (.string s)) (by kernel_rfl) ⟨HX.out, y0, y1⟩ (fun hS hC => ?_)
      refine wpAnyL_take (i := 0) (oi := { dst := some 23, op := .fieldAddr 33 (.tmp 3) 0, type := _, pos := _, after := _, guard := none }) (v := ?_) rfl (by kernel_rfl) (by kernel_rfl) (by kernel_rfl) (fun _ _ _ h => h) (fun _ _ => Iff.rfl) hC (Or.inl ⟨by rfl, ?_⟩) hS (fun hC hS => ?_)
      rotate_left
      · intro W9 hSw; skip; go_simp; try (with_reducible rfl)
      try simp only [Act.put, List.setIfInBounds_toArray, List.set_cons_zero, List.set_cons_succ]
      refine wpAnyL_take (i := 1) (oi := { dst := some 24, op := .load 30 (.tmp 23), type := _, pos := _, after := _, guard := none }) (v := ?_) rfl (by kernel_rfl) (by kernel_rfl) (by kernel_rfl) (fun _ _ _ h => h) (fun _ _ => Iff.rfl) hC (Or.inl ⟨by rfl, ?_⟩) hS (fun hC hS => ?_)
      rotate_left
      · intro W9 hSw; have q0 := (cell_of_row _ _ 0 _ _ _ hSw.choose_spec.2.2.1).trans rfl; have q1 := (cell_of_row _ _ 1 _ _ _ hSw.choose_spec.2.2.1).trans rfl; go_simp; try (with_reducible rfl)
      try simp only [Act.put, List.setIfInBounds_toArray, List.set_cons_zero, List.set_cons_succ]
      refine wpAnyL_take (i := 2) (oi := { dst := some 25, op := .fieldAddr 33 (.tmp 3) 1, type := _, pos := _, after := _, guard := none }) (v := ?_) rfl (by kernel_rfl) (by kernel_rfl) (by kernel_rfl) (fun _ _ _ h => h) (fun _ _ => Iff.rfl) hC (Or.inl ⟨by rfl, ?_⟩) hS (fun hC hS => ?_)
      rotate_left
      · intro W9 hSw; skip; go_simp; try (with_reducible rfl)
      try simp only [Act.put, List.setIfInBounds_toArray, List.set_cons_zero, List.set_cons_succ]
      refine wpAnyL_take (i := 3) (oi := { dst := some 26, op := .load 31 (.tmp 25), type := _, pos := _, after := _, guard := none }) (v := ?_) rfl (by kernel_rfl) (by kernel_rfl) (by kernel_rfl) (fun _ _ _ h => h) (fun _ _ => Iff.rfl) hC (Or.inl ⟨by rfl, ?_⟩) hS (fun hC hS => ?_)
      rotate_left
      · intro W9 hSw; have q1 := (cell_of_row _ _ 1 _ _ _ hSw.choose_spec.2.2.1).trans rfl; go_simp; try (with_reducible rfl)
      try simp only [Act.put, List.setIfInBounds_toArray, List.set_cons_zero, List.set_cons_succ]
      refine wpAnyL_take (i := 4) (oi := { dst := some 27, op := .move (.tmp 7), type := _, pos := _, after := _, guard := none }) (v := ?_) rfl (by kernel_rfl) (by kernel_rfl) (by kernel_rfl) (fun _ _ _ h => h) (fun _ _ => Iff.rfl) hC (Or.inl ⟨by rfl, ?_⟩) hS (fun hC hS => ?_)
      rotate_left
      · intro W9 hSw; skip; go_simp; try (with_reducible rfl)
      try simp only [Act.put, List.setIfInBounds_toArray, List.set_cons_zero, List.set_cons_succ]
      refine wpAnyL_take (i := 5) (oi := { dst := some 28, op := .indexAddr 31 (.tmp 26) (.tmp 27), type := _, pos := _, after := _, guard := none }) (v := ?_) rfl (by kernel_rfl) (by kernel_rfl) (by kernel_rfl) (fun _ _ _ h => h) (fun _ _ => Iff.rfl) hC (Or.inl ⟨by rfl, ?_⟩) hS (fun hC hS => ?_)
      rotate_left
      · intro W9 hSw; skip; go_simp; try (with_reducible rfl)
      try simp only [Act.put, List.setIfInBounds_toArray, List.set_cons_zero, List.set_cons_succ]
      refine wpAnyL_take (i := 6) (oi := { dst := some 29, op := .fieldAddr 102 (.tmp 28) 0, type := _, pos := _, after := _, guard := none }) (v := ?_) rfl (by kernel_rfl) (by kernel_rfl) (by kernel_rfl) (fun _ _ _ h => h) (fun _ _ => Iff.rfl) hC (Or.inl ⟨by rfl, ?_⟩) hS (fun hC hS => ?_)
      rotate_left
      · intro W9 hSw; skip; go_simp; try (with_reducible rfl)
      try simp only [Act.put, List.setIfInBounds_toArray, List.set_cons_zero, List.set_cons_succ]
      refine wpAnyL_take (i := 7) (oi := { dst := some 30, op := .load 3 (.tmp 29), type := _, pos := _, after := _, guard := none }) (v := ?_) rfl (by kernel_rfl) (by kernel_rfl) (by kernel_rfl) (fun _ _ _ h => h) (fun _ _ => Iff.rfl) hC (Or.inl ⟨by rfl, ?_⟩) hS (fun hC hS => ?_)
      rotate_left
      · intro W9 hSw; have q0 := hSw.choose_spec.2.2.2.1; have q1 := hSw.choose_spec.2.2.2.2; go_simp; try (with_reducible rfl)
      try simp only [Act.put, List.setIfInBounds_toArray, List.set_cons_zero, List.set_cons_succ]
      refine wpAnyL_take (i := 8) (oi := { dst := some 31, op := .fieldAddr 33 (.tmp 3) 1, type := _, pos := _, after := _, guard := none }) (v := ?_) rfl (by kernel_rfl) (by kernel_rfl) (by kernel_rfl) (fun _ _ _ h => h) (fun _ _ => Iff.rfl) hC (Or.inl ⟨by rfl, ?_⟩) hS (fun hC hS => ?_)
      rotate_left
      · intro W9 hSw; skip; go_simp; try (with_reducible rfl)
      try simp only [Act.put, List.setIfInBounds_toArray, List.set_cons_zero, List.set_cons_succ]
      refine wpAnyL_take (i := 9) (oi := { dst := some 32, op := .load 31 (.tmp 31), type := _, pos := _, after := _, guard := none }) (v := ?_) rfl (by kernel_rfl) (by kernel_rfl) (by kernel_rfl) (fun _ _ _ h => h) (fun _ _ => Iff.rfl) hC (Or.inl ⟨by rfl, ?_⟩) hS (fun hC hS => ?_)
      rotate_left
      · intro W9 hSw; have q1 := (cell_of_row _ _ 1 _ _ _ hSw.choose_spec.2.2.1).trans rfl; go_simp; try (with_reducible rfl)
      try simp only [Act.put, List.setIfInBounds_toArray, List.set_cons_zero, List.set_cons_succ]
      refine wpAnyL_take (i := 10) (oi := { dst := some 33, op := .move (.tmp 7), type := _, pos := _, after := _, guard := none }) (v := ?_) rfl (by kernel_rfl) (by kernel_rfl) (by kernel_rfl) (fun _ _ _ h => h) (fun _ _ => Iff.rfl) hC (Or.inl ⟨by rfl, ?_⟩) hS (fun hC hS => ?_)
      rotate_left
      · intro W9 hSw; skip; go_simp; try (with_reducible rfl)
      try simp only [Act.put, List.setIfInBounds_toArray, List.set_cons_zero, List.set_cons_succ]
      refine wpAnyL_take (i := 11) (oi := { dst := some 34, op := .indexAddr 31 (.tmp 32) (.tmp 33), type := _, pos := _, after := _, guard := none }) (v := ?_) rfl (by kernel_rfl) (by kernel_rfl) (by kernel_rfl) (fun _ _ _ h => h) (fun _ _ => Iff.rfl) hC (Or.inl ⟨by rfl, ?_⟩) hS (fun hC hS => ?_)
      rotate_left
      · intro W9 hSw; skip; go_simp; try (with_reducible rfl)
      try simp only [Act.put, List.setIfInBounds_toArray, List.set_cons_zero, List.set_cons_succ]
      refine wpAnyL_take (i := 12) (oi := { dst := some 35, op := .fieldAddr 102 (.tmp 34) 1, type := _, pos := _, after := _, guard := none }) (v := ?_) rfl (by kernel_rfl) (by kernel_rfl) (by kernel_rfl) (fun _ _ _ h => h) (fun _ _ => Iff.rfl) hC (Or.inl ⟨by rfl, ?_⟩) hS (fun hC hS => ?_)
      rotate_left
      · intro W9 hSw; skip; go_simp; try (with_reducible rfl)
      try simp only [Act.put, List.setIfInBounds_toArray, List.set_cons_zero, List.set_cons_succ]
      refine wpAnyL_take (i := 13) (oi := { dst := some 36, op := .load 9 (.tmp 35), type := _, pos := _, after := _, guard := none }) (v := ?_) rfl (by kernel_rfl) (by kernel_rfl) (by kernel_rfl) (fun _ _ _ h => h) (fun _ _ => Iff.rfl) hC (Or.inl ⟨by rfl, ?_⟩) hS (fun hC hS => ?_)
      rotate_left
      · intro W9 hSw; have q0 := hSw.choose_spec.2.2.2.1; have q1 := hSw.choose_spec.2.2.2.2; go_simp; try (with_reducible rfl)
      try simp only [Act.put, List.setIfInBounds_toArray, List.set_cons_zero, List.set_cons_succ]
      refine wpAnyL_take (i := 14) (oi := { dst := some 37, op := .indexAddr 30 (.tmp 24) (.tmp 30), type := _, pos := _, after := _, guard := none }) (v := ?_) rfl (by kernel_rfl) (by kernel_rfl) (by kernel_rfl) (fun _ _ _ h => h) (fun _ _ => Iff.rfl) hC (Or.inl ⟨by rfl, ?_⟩) hS (fun hC hS => ?_)
      rotate_left
      · intro W9 hSw; skip; go_simp; try (with_reducible rfl)
      try simp only [Act.put, List.setIfInBounds_toArray, List.set_cons_zero, List.set_cons_succ]
      refine wpAnyL_ready (rs := [15]) (by kernel_rfl) (by simp) hC ?_
      refine AllReadyL.cons (o := { dst := none, op := .store 9 (.tmp 37) (.tmp 36), type := _, pos := _, after := _, guard := none }) rfl (fun K9 hK => ?_) ?_
      · skip
        have y3 : wr.drew.cell? ⟨gg, j, none⟩ = some (.string o) := hck
        have f3 : wr.drew.frozen? ⟨gg, j, none⟩ = false := frozen_of_row _ _ _ _ _ (show wr.drew.heap[gg]? = _ from HG.out)
        go_simp
        have HK := Lib.hid ((KK.refl [gg] wr.drew).set (b := gg) (by simp) j (.string s))
        have HX9 := Lib.hid (HK.out.blk (show wr.drew.heap[w.heap.size]? = _ from HX.out) (by simpa using hnx))
        have HR9 := Lib.hid (HK.out.blk (show wr.drew.heap[w.heap.size + 1]? = _ from HR.out) (by simpa using hnr))
        have z0 := (World.cell?_of_block (a := ⟨b, off + k * 2, none⟩) (HK.out.block b hbb (by simpa using hne))).trans y0
        have z1 := (World.cell?_of_block (a := ⟨b, off + k * 2 + 1, none⟩) (HK.out.block b hbb (by simpa using hne))).trans y1
        have HO9 := Lib.hid (HO.out.drew.setS (i := j) s)
        have HQ9 := Lib.hid (HQ.out.drew.kkD HK.out (show wr.drew.heap[gg]? = _ from HG.out) (by decide))
        have HB9 := Lib.hid (HK.out.below HB.out.drew (fun b hb => by obtain rfl : b = gg := (by simpa using hb); exact hgm) HB.out.drew.size)
        refine hK _ _ ⟨HX9.out, z0, z1⟩ (fun hC => ?_)
        clear hK K9
        try simp only [Act.put, List.setIfInBounds_toArray, List.set_cons_zero, List.set_cons_succ]
        refine wpAnyL_done (by kernel_rfl) ?_ _
        clear x0 x1 y0 y1 y3 f3 z0 z1 hck hS
        go_wp2_with fail
        go_roundw
        case rel => exact ⟨k + 1, by go_num, by omega, HX9.out, HR9.out, by rw [HT.out]; exact HO9.out, HQ9.out, HB9.out⟩
        case measure => simp [intOf] <;> omega
      exact AllReadyL.nil
    · have hd1 : decide ((k : Int) < (CC.length : Int)) = false := decide_eq_false (by omega)
      have HO : Hid (OwX stC 1 9 wr w.heap.size (.slice B1 n1 k1) (setP (inK ks) 0 CC SS)) := Lib.hid (by have e : CC.take k = CC := List.take_of_length_le (by omega); rw [← e]; exact HO.out)
      have f0 : wr.frozen? ⟨w.heap.size, 1, none⟩ = false := frozen_of_row _ _ _ _ _ HX.out
      clear HQ
      go_upto_region 8 with (fail)
      clear x0 x1 f0
      have HKK901 := Lib.hid ((KK.refl [w.heap.size] wr).set (b := w.heap.size) (by simp) 1 (.slice none 0 0))
      have HF902 := Lib.hid (show (wr.setCell ⟨w.heap.size, 1, none⟩ (.slice none 0 0)).heap[w.heap.size]? = some (.cells #[.slice B1 n1 k1, .slice none 0 0] 33 (0, 0)) by have q := heap_setCell_at (i := 1) (u := .slice none 0 0) (HX.out); exact q)
      have HF903 := Lib.hid (HKK901.out.blk HR.out (by simp <;> omega))
      have HO904 := Lib.hid (HO.out.kkD HKK901.out HX.out (by decide))
      have HB905 := Lib.hid (HKK901.out.below HB.out (fun b hb => by obtain rfl : b = w.heap.size := (by simpa using hb); omega) HB.out.size)
      clear HB HX HR
      generalize (wr.setCell ⟨w.heap.size, 1, none⟩ (.slice none 0 0)) = w91 at *
      go_wp2_with (first
        | refine wpList_store_rowY rfl 33 (.tmp 6) (.tmp 39) rfl (w.heap.size + 1) #[.slice B1 n1 k1, .slice none 0 0] rfl rfl 33 _ HF903.out (info_im) rfl (by simp [Value.oneCell']) w.heap.size w HB905.out (by omega) ?_
        | refine wpList_load_row rfl 33 (.tmp 3) rfl (w.heap.size) rfl 33 #[.slice B1 n1 k1, .slice none 0 0] (0, 0) _ HF902.out Tryz.underlying33 rfl (info_im) ?_)
      intro w92 hbk hoth hbel _
      have HO906 := Lib.hid (HO904.out.oth hoth.out HF903.out (by decide))
      have HF907 := Lib.hid (blk_oth HF902.out hoth.out (by omega))
      have HF908 := Lib.hid hbk.out
      have HB909 := Lib.hid hbel.out
      clear hbk hoth hbel HB905 HF902 HF903
      go_wp2_with fail
      refine bodyPost_ret (results_cY rfl _ _ (w.heap.size + 1) #[.slice B1 n1 k1, .slice none 0 0] rfl (run_loadVar_row _ (w.heap.size + 1) 33 33 _ (0, 0) _ HF908.out Tryz.underlying33 rfl (by kernel_rfl))) rfl ?_
      exact ⟨B1, n1, k1, rfl, HO906.out, HB909.out⟩
end Go.Proofs.YtiflieaemgamkaaGreatDoor

namespace Go.Proofs.YtiflieaemgamkaaGreatDoor
open Go.RowKit Vi

/-- a number is a block's beyond a world's end -/
theorem step_false (SS : List ByteArray) (CC : List Wr) (ar op : Int) : Ds.step ⟨SS, CC, ar, false, op⟩ = ⟨SS, CC, stpF ar, stpD ar, stpO op ar⟩ := by
  unfold Ds.step stpF stpD stpO
  by_cases h : ar = 1
  · rw [if_pos h, if_pos h, if_pos h, decide_eq_true h]
  · rw [if_neg h, if_neg h, if_neg h, decide_eq_false h]
set_option maxRecDepth 100000 in
set_option maxHeartbeats 4000000 in
theorem rwrite_gone (P : Nat → Prop) (SS : List ByteArray) (CC : List Wr) (ar : Int) (op : Int) (A : Option Addr) (n c : Nat) (A2 : Option Addr) (n2 c2 : Nat) (i : Int) (s : ByteArray) (w : World) (h1 : RdP P stC 1 w A n SS) (h2 : RdP P wrC 2 w A2 n2 CC) :
    Calls Tryz.prog 90 #[rdv A n c A2 n2 c2 ar true op, .int .i64 i, .string s] w (RetDI P ⟨SS, CC, ar, true, op⟩ 7 w) := by
  have H1 := Lib.hid h1
  have H2 := Lib.hid h2
  have HL := Lib.hid h1.1.1
  clear h1 h2
  have HB1 := Lib.hid (Below.refl w.heap.size w)
  have HF2 := Lib.hid (blk_new w (.cells #[.slice A n c, .slice A2 n2 c2, .int .i64 ar, .bool true, .int .i64 op] 36 (0, 0)))
  have HB3 := Lib.hid (HB1.out.alloc HB1.out.size (.cells #[.slice A n c, .slice A2 n2 c2, .int .i64 ar, .bool true, .int .i64 op] 36 (0, 0)))
  clear HB1
  have HF4 := Lib.hid (blk_alloc HF2.out (.cells #[.slice none 0 0, .slice none 0 0, .int .i64 0, .bool false, .int .i64 0] 36 (0, 0)))
  clear HF2
  have HF5 : Hid (((w.alloc (.cells #[.slice A n c, .slice A2 n2 c2, .int .i64 ar, .bool true, .int .i64 op] 36 (0, 0))).alloc (.cells #[.slice none 0 0, .slice none 0 0, .int .i64 0, .bool false, .int .i64 0] 36 (0, 0))).heap[w.heap.size + 1]? = some (.cells #[.slice none 0 0, .slice none 0 0, .int .i64 0, .bool false, .int .i64 0] 36 (0, 0))) := Lib.hid (blk_newN (W := (w.alloc (.cells #[.slice A n c, .slice A2 n2 c2, .int .i64 ar, .bool true, .int .i64 op] 36 (0, 0)))) (o := (.cells #[.slice none 0 0, .slice none 0 0, .int .i64 0, .bool false, .int .i64 0] 36 (0, 0))) (by simp))
  have HB6 := Lib.hid (HB3.out.alloc (by have := HB3.out.size; simp at this ⊢ <;> omega) (.cells #[.slice none 0 0, .slice none 0 0, .int .i64 0, .bool false, .int .i64 0] 36 (0, 0)))
  clear HB3
  obtain ⟨v, hv⟩ : ∃ v, v = ((w.alloc (.cells #[.slice A n c, .slice A2 n2 c2, .int .i64 ar, .bool true, .int .i64 op] 36 (0, 0))).alloc (.cells #[.slice none 0 0, .slice none 0 0, .int .i64 0, .bool false, .int .i64 0] 36 (0, 0))) := ⟨_, rfl⟩
  have HVv := Lib.hid hv
  rw [← hv] at HF4 HF5 HB6
  clear hv
  go_enter Tryz.func90, Tryz.ntmps90
  go_upto_region 1 with (fail)
  rw [← HVv.out]
  have hc7 : v.cell? ⟨w.heap.size, 3, none⟩ = some (.bool true) := by rw [cell_of_row _ _ _ _ _ _ HF4.out]; rfl
  go_upto_region 2 with (fail)
  clear hc7
  go_wp2_with (first
    | refine wpList_store_rowY rfl 36 (.tmp 6) (.tmp 11) rfl (w.heap.size + 1) #[.slice A n c, .slice A2 n2 c2, .int .i64 ar, .bool true, .int .i64 op] rfl rfl 36 _ HF5.out (info_rd) rfl (by simp [Value.oneCell']) w.heap.size w HB6.out (by omega) ?_
    | refine wpList_load_row rfl 36 (.tmp 3) rfl (w.heap.size) rfl 36 #[.slice A n c, .slice A2 n2 c2, .int .i64 ar, .bool true, .int .i64 op] (0, 0) _ HF4.out Tryz.underlying36 rfl (info_rd) ?_)
  intro w1 hbk hoth hbel _
  have HF8 := Lib.hid (blk_oth HF4.out hoth.out (by omega))
  have HF9 := Lib.hid hbk.out
  have HB10 := Lib.hid hbel.out
  clear hbk hoth hbel HB6 HF4 HF5
  go_wp2_with fail
  refine bodyPost_ret (results_ctY rfl _ _ (w.heap.size + 1) #[.slice A n c, .slice A2 n2 c2, .int .i64 ar, .bool true, .int .i64 op] rfl (run_loadVar_row _ (w.heap.size + 1) 36 36 _ (0, 0) _ HF9.out Tryz.underlying36 rfl (by kernel_rfl))) rfl ?_
  exact ⟨_, rfl, ⟨A, n, c, A2, n2, c2, rfl, H1.out.below HB10.out, H2.out.below HB10.out⟩, HB10.out⟩
set_option maxRecDepth 100000 in
set_option maxHeartbeats 4000000 in
theorem rflush_gone (P : Nat → Prop) (SS : List ByteArray) (CC : List Wr) (ar : Int) (op : Int) (A : Option Addr) (n c : Nat) (A2 : Option Addr) (n2 c2 : Nat) (w : World) (h1 : RdP P stC 1 w A n SS) (h2 : RdP P wrC 2 w A2 n2 CC) :
    Calls Tryz.prog 92 #[rdv A n c A2 n2 c2 ar true op] w (RetDI P ⟨SS, CC, ar, true, op⟩ 7 w) := by
  have H1 := Lib.hid h1
  have H2 := Lib.hid h2
  have HL := Lib.hid h1.1.1
  clear h1 h2
  have HB1 := Lib.hid (Below.refl w.heap.size w)
  have HF2 := Lib.hid (blk_new w (.cells #[.slice A n c, .slice A2 n2 c2, .int .i64 ar, .bool true, .int .i64 op] 36 (0, 0)))
  have HB3 := Lib.hid (HB1.out.alloc HB1.out.size (.cells #[.slice A n c, .slice A2 n2 c2, .int .i64 ar, .bool true, .int .i64 op] 36 (0, 0)))
  clear HB1
  have HF4 := Lib.hid (blk_alloc HF2.out (.cells #[.slice none 0 0, .slice none 0 0, .int .i64 0, .bool false, .int .i64 0] 36 (0, 0)))
  clear HF2
  have HF5 : Hid (((w.alloc (.cells #[.slice A n c, .slice A2 n2 c2, .int .i64 ar, .bool true, .int .i64 op] 36 (0, 0))).alloc (.cells #[.slice none 0 0, .slice none 0 0, .int .i64 0, .bool false, .int .i64 0] 36 (0, 0))).heap[w.heap.size + 1]? = some (.cells #[.slice none 0 0, .slice none 0 0, .int .i64 0, .bool false, .int .i64 0] 36 (0, 0))) := Lib.hid (blk_newN (W := (w.alloc (.cells #[.slice A n c, .slice A2 n2 c2, .int .i64 ar, .bool true, .int .i64 op] 36 (0, 0)))) (o := (.cells #[.slice none 0 0, .slice none 0 0, .int .i64 0, .bool false, .int .i64 0] 36 (0, 0))) (by simp))
  have HB6 := Lib.hid (HB3.out.alloc (by have := HB3.out.size; simp at this ⊢ <;> omega) (.cells #[.slice none 0 0, .slice none 0 0, .int .i64 0, .bool false, .int .i64 0] 36 (0, 0)))
  clear HB3
  obtain ⟨v, hv⟩ : ∃ v, v = ((w.alloc (.cells #[.slice A n c, .slice A2 n2 c2, .int .i64 ar, .bool true, .int .i64 op] 36 (0, 0))).alloc (.cells #[.slice none 0 0, .slice none 0 0, .int .i64 0, .bool false, .int .i64 0] 36 (0, 0))) := ⟨_, rfl⟩
  have HVv := Lib.hid hv
  rw [← hv] at HF4 HF5 HB6
  clear hv
  go_enter Tryz.func92, Tryz.ntmps92
  go_upto_region 1 with (fail)
  rw [← HVv.out]
  have hc7 : v.cell? ⟨w.heap.size, 3, none⟩ = some (.bool true) := by rw [cell_of_row _ _ _ _ _ _ HF4.out]; rfl
  go_upto_region 2 with (fail)
  clear hc7
  go_wp2_with (first
    | refine wpList_store_rowY rfl 36 (.tmp 2) (.tmp 7) rfl (w.heap.size + 1) #[.slice A n c, .slice A2 n2 c2, .int .i64 ar, .bool true, .int .i64 op] rfl rfl 36 _ HF5.out (info_rd) rfl (by simp [Value.oneCell']) w.heap.size w HB6.out (by omega) ?_
    | refine wpList_load_row rfl 36 (.tmp 1) rfl (w.heap.size) rfl 36 #[.slice A n c, .slice A2 n2 c2, .int .i64 ar, .bool true, .int .i64 op] (0, 0) _ HF4.out Tryz.underlying36 rfl (info_rd) ?_)
  intro w1 hbk hoth hbel _
  have HF8 := Lib.hid (blk_oth HF4.out hoth.out (by omega))
  have HF9 := Lib.hid hbk.out
  have HB10 := Lib.hid hbel.out
  clear hbk hoth hbel HB6 HF4 HF5
  go_wp2_with fail
  refine bodyPost_ret (results_ctY rfl _ _ (w.heap.size + 1) #[.slice A n c, .slice A2 n2 c2, .int .i64 ar, .bool true, .int .i64 op] rfl (run_loadVar_row _ (w.heap.size + 1) 36 36 _ (0, 0) _ HF9.out Tryz.underlying36 rfl (by kernel_rfl))) rfl ?_
  exact ⟨_, rfl, ⟨A, n, c, A2, n2, c2, rfl, H1.out.below HB10.out, H2.out.below HB10.out⟩, HB10.out⟩
set_option maxRecDepth 100000 in
set_option maxHeartbeats 4000000 in
theorem rarm_gone (P : Nat → Prop) (SS : List ByteArray) (CC : List Wr) (ar : Int) (op : Int) (A : Option Addr) (n c : Nat) (A2 : Option Addr) (n2 c2 : Nat) (k : Int) (w : World) (h1 : RdP P stC 1 w A n SS) (h2 : RdP P wrC 2 w A2 n2 CC) :
    Calls Tryz.prog 43 #[rdv A n c A2 n2 c2 ar true op, .int .i64 k] w (RetDI P ⟨SS, CC, ar, true, op⟩ 7 w) := by
  have H1 := Lib.hid h1
  have H2 := Lib.hid h2
  have HL := Lib.hid h1.1.1
  clear h1 h2
  have HB1 := Lib.hid (Below.refl w.heap.size w)
  have HF2 := Lib.hid (blk_new w (.cells #[.slice A n c, .slice A2 n2 c2, .int .i64 ar, .bool true, .int .i64 op] 36 (0, 0)))
  have HB3 := Lib.hid (HB1.out.alloc HB1.out.size (.cells #[.slice A n c, .slice A2 n2 c2, .int .i64 ar, .bool true, .int .i64 op] 36 (0, 0)))
  clear HB1
  have HF4 := Lib.hid (blk_alloc HF2.out (.cells #[.slice none 0 0, .slice none 0 0, .int .i64 0, .bool false, .int .i64 0] 36 (0, 0)))
  clear HF2
  have HF5 : Hid (((w.alloc (.cells #[.slice A n c, .slice A2 n2 c2, .int .i64 ar, .bool true, .int .i64 op] 36 (0, 0))).alloc (.cells #[.slice none 0 0, .slice none 0 0, .int .i64 0, .bool false, .int .i64 0] 36 (0, 0))).heap[w.heap.size + 1]? = some (.cells #[.slice none 0 0, .slice none 0 0, .int .i64 0, .bool false, .int .i64 0] 36 (0, 0))) := Lib.hid (blk_newN (W := (w.alloc (.cells #[.slice A n c, .slice A2 n2 c2, .int .i64 ar, .bool true, .int .i64 op] 36 (0, 0)))) (o := (.cells #[.slice none 0 0, .slice none 0 0, .int .i64 0, .bool false, .int .i64 0] 36 (0, 0))) (by simp))
  have HB6 := Lib.hid (HB3.out.alloc (by have := HB3.out.size; simp at this ⊢ <;> omega) (.cells #[.slice none 0 0, .slice none 0 0, .int .i64 0, .bool false, .int .i64 0] 36 (0, 0)))
  clear HB3
  obtain ⟨v, hv⟩ : ∃ v, v = ((w.alloc (.cells #[.slice A n c, .slice A2 n2 c2, .int .i64 ar, .bool true, .int .i64 op] 36 (0, 0))).alloc (.cells #[.slice none 0 0, .slice none 0 0, .int .i64 0, .bool false, .int .i64 0] 36 (0, 0))) := ⟨_, rfl⟩
  have HVv := Lib.hid hv
  rw [← hv] at HF4 HF5 HB6
  clear hv
  go_enter Tryz.func43, Tryz.ntmps43
  go_upto_region 1 with (fail)
  rw [← HVv.out]
  have hc7 : v.cell? ⟨w.heap.size, 3, none⟩ = some (.bool true) := by rw [cell_of_row _ _ _ _ _ _ HF4.out]; rfl
  go_upto_region 2 with (fail)
  clear hc7
  go_wp2_with (first
    | refine wpList_store_rowY rfl 36 (.tmp 4) (.tmp 8) rfl (w.heap.size + 1) #[.slice A n c, .slice A2 n2 c2, .int .i64 ar, .bool true, .int .i64 op] rfl rfl 36 _ HF5.out (info_rd) rfl (by simp [Value.oneCell']) w.heap.size w HB6.out (by omega) ?_
    | refine wpList_load_row rfl 36 (.tmp 2) rfl (w.heap.size) rfl 36 #[.slice A n c, .slice A2 n2 c2, .int .i64 ar, .bool true, .int .i64 op] (0, 0) _ HF4.out Tryz.underlying36 rfl (info_rd) ?_)
  intro w1 hbk hoth hbel _
  have HF8 := Lib.hid (blk_oth HF4.out hoth.out (by omega))
  have HF9 := Lib.hid hbk.out
  have HB10 := Lib.hid hbel.out
  clear hbk hoth hbel HB6 HF4 HF5
  go_wp2_with fail
  refine bodyPost_ret (results_ctY rfl _ _ (w.heap.size + 1) #[.slice A n c, .slice A2 n2 c2, .int .i64 ar, .bool true, .int .i64 op] rfl (run_loadVar_row _ (w.heap.size + 1) 36 36 _ (0, 0) _ HF9.out Tryz.underlying36 rfl (by kernel_rfl))) rfl ?_
  exact ⟨_, rfl, ⟨A, n, c, A2, n2, c2, rfl, H1.out.below HB10.out, H2.out.below HB10.out⟩, HB10.out⟩
set_option maxRecDepth 100000 in
set_option maxHeartbeats 4000000 in
theorem rarm_no (P : Nat → Prop) (SS : List ByteArray) (CC : List Wr) (ar : Int) (op : Int) (A : Option Addr) (n c : Nat) (A2 : Option Addr) (n2 c2 : Nat) (k : Int) (w : World) (h1 : RdP P stC 1 w A n SS) (h2 : RdP P wrC 2 w A2 n2 CC) (hk : k < 0) :
    Calls Tryz.prog 43 #[rdv A n c A2 n2 c2 ar false op, .int .i64 k] w (RetDI P ⟨SS, CC, ar, false, op⟩ 2 w) := by
  have H1 := Lib.hid h1
  have H2 := Lib.hid h2
  have HL := Lib.hid h1.1.1
  clear h1 h2
  have d1 : decide (k < 0) = true := decide_eq_true hk
  have HB1 := Lib.hid (Below.refl w.heap.size w)
  have HF2 := Lib.hid (blk_new w (.cells #[.slice A n c, .slice A2 n2 c2, .int .i64 ar, .bool false, .int .i64 op] 36 (0, 0)))
  have HB3 := Lib.hid (HB1.out.alloc HB1.out.size (.cells #[.slice A n c, .slice A2 n2 c2, .int .i64 ar, .bool false, .int .i64 op] 36 (0, 0)))
  clear HB1
  have HF4 := Lib.hid (blk_alloc HF2.out (.cells #[.slice none 0 0, .slice none 0 0, .int .i64 0, .bool false, .int .i64 0] 36 (0, 0)))
  clear HF2
  have HF5 : Hid (((w.alloc (.cells #[.slice A n c, .slice A2 n2 c2, .int .i64 ar, .bool false, .int .i64 op] 36 (0, 0))).alloc (.cells #[.slice none 0 0, .slice none 0 0, .int .i64 0, .bool false, .int .i64 0] 36 (0, 0))).heap[w.heap.size + 1]? = some (.cells #[.slice none 0 0, .slice none 0 0, .int .i64 0, .bool false, .int .i64 0] 36 (0, 0))) := Lib.hid (blk_newN (W := (w.alloc (.cells #[.slice A n c, .slice A2 n2 c2, .int .i64 ar, .bool false, .int .i64 op] 36 (0, 0)))) (o := (.cells #[.slice none 0 0, .slice none 0 0, .int .i64 0, .bool false, .int .i64 0] 36 (0, 0))) (by simp))
  have HB6 := Lib.hid (HB3.out.alloc (by have := HB3.out.size; simp at this ⊢ <;> omega) (.cells #[.slice none 0 0, .slice none 0 0, .int .i64 0, .bool false, .int .i64 0] 36 (0, 0)))
  clear HB3
  obtain ⟨v, hv⟩ : ∃ v, v = ((w.alloc (.cells #[.slice A n c, .slice A2 n2 c2, .int .i64 ar, .bool false, .int .i64 op] 36 (0, 0))).alloc (.cells #[.slice none 0 0, .slice none 0 0, .int .i64 0, .bool false, .int .i64 0] 36 (0, 0))) := ⟨_, rfl⟩
  have HVv := Lib.hid hv
  rw [← hv] at HF4 HF5 HB6
  clear hv
  go_enter Tryz.func43, Tryz.ntmps43
  go_upto_region 1 with (fail)
  rw [← HVv.out]
  have hc7 : v.cell? ⟨w.heap.size, 3, none⟩ = some (.bool false) := by rw [cell_of_row _ _ _ _ _ _ HF4.out]; rfl
  go_upto_region 4 with (fail)
  clear hc7
  go_wp2_with (first
    | refine wpList_store_rowY rfl 36 (.tmp 4) (.tmp 11) rfl (w.heap.size + 1) #[.slice A n c, .slice A2 n2 c2, .int .i64 ar, .bool false, .int .i64 op] rfl rfl 36 _ HF5.out (info_rd) rfl (by simp [Value.oneCell']) w.heap.size w HB6.out (by omega) ?_
    | refine wpList_load_row rfl 36 (.tmp 2) rfl (w.heap.size) rfl 36 #[.slice A n c, .slice A2 n2 c2, .int .i64 ar, .bool false, .int .i64 op] (0, 0) _ HF4.out Tryz.underlying36 rfl (info_rd) ?_)
  intro w1 hbk hoth hbel _
  have HF8 := Lib.hid (blk_oth HF4.out hoth.out (by omega))
  have HF9 := Lib.hid hbk.out
  have HB10 := Lib.hid hbel.out
  clear hbk hoth hbel HB6 HF4 HF5
  go_wp2_with fail
  refine bodyPost_ret (results_ctY rfl _ _ (w.heap.size + 1) #[.slice A n c, .slice A2 n2 c2, .int .i64 ar, .bool false, .int .i64 op] rfl (run_loadVar_row _ (w.heap.size + 1) 36 36 _ (0, 0) _ HF9.out Tryz.underlying36 rfl (by kernel_rfl))) rfl ?_
  exact ⟨_, rfl, ⟨A, n, c, A2, n2, c2, rfl, H1.out.below HB10.out, H2.out.below HB10.out⟩, HB10.out⟩
set_option maxRecDepth 100000 in
set_option maxHeartbeats 4000000 in
theorem rarm_yes (P : Nat → Prop) (SS : List ByteArray) (CC : List Wr) (ar : Int) (op : Int) (A : Option Addr) (n c : Nat) (A2 : Option Addr) (n2 c2 : Nat) (k : Int) (w : World) (h1 : RdP P stC 1 w A n SS) (h2 : RdP P wrC 2 w A2 n2 CC) (hk : ¬ k < 0) :
    Calls Tryz.prog 43 #[rdv A n c A2 n2 c2 ar false op, .int .i64 k] w (RetDI P ⟨SS, CC, k, false, op⟩ 0 w) := by
  have H1 := Lib.hid h1
  have H2 := Lib.hid h2
  have HL := Lib.hid h1.1.1
  clear h1 h2
  have d1 : decide (k < 0) = false := decide_eq_false hk
  have HB1 := Lib.hid (Below.refl w.heap.size w)
  have HF2 := Lib.hid (blk_new w (.cells #[.slice A n c, .slice A2 n2 c2, .int .i64 ar, .bool false, .int .i64 op] 36 (0, 0)))
  have HB3 := Lib.hid (HB1.out.alloc HB1.out.size (.cells #[.slice A n c, .slice A2 n2 c2, .int .i64 ar, .bool false, .int .i64 op] 36 (0, 0)))
  clear HB1
  have HF4 := Lib.hid (blk_alloc HF2.out (.cells #[.slice none 0 0, .slice none 0 0, .int .i64 0, .bool false, .int .i64 0] 36 (0, 0)))
  clear HF2
  have HF5 : Hid (((w.alloc (.cells #[.slice A n c, .slice A2 n2 c2, .int .i64 ar, .bool false, .int .i64 op] 36 (0, 0))).alloc (.cells #[.slice none 0 0, .slice none 0 0, .int .i64 0, .bool false, .int .i64 0] 36 (0, 0))).heap[w.heap.size + 1]? = some (.cells #[.slice none 0 0, .slice none 0 0, .int .i64 0, .bool false, .int .i64 0] 36 (0, 0))) := Lib.hid (blk_newN (W := (w.alloc (.cells #[.slice A n c, .slice A2 n2 c2, .int .i64 ar, .bool false, .int .i64 op] 36 (0, 0)))) (o := (.cells #[.slice none 0 0, .slice none 0 0, .int .i64 0, .bool false, .int .i64 0] 36 (0, 0))) (by simp))
  have HB6 := Lib.hid (HB3.out.alloc (by have := HB3.out.size; simp at this ⊢ <;> omega) (.cells #[.slice none 0 0, .slice none 0 0, .int .i64 0, .bool false, .int .i64 0] 36 (0, 0)))
  clear HB3
  obtain ⟨v, hv⟩ : ∃ v, v = ((w.alloc (.cells #[.slice A n c, .slice A2 n2 c2, .int .i64 ar, .bool false, .int .i64 op] 36 (0, 0))).alloc (.cells #[.slice none 0 0, .slice none 0 0, .int .i64 0, .bool false, .int .i64 0] 36 (0, 0))) := ⟨_, rfl⟩
  have HVv := Lib.hid hv
  rw [← hv] at HF4 HF5 HB6
  clear hv
  go_enter Tryz.func43, Tryz.ntmps43
  go_upto_region 1 with (fail)
  rw [← HVv.out]
  have hc7 : v.cell? ⟨w.heap.size, 2, none⟩ = some (.int .i64 ar) := by rw [cell_of_row _ _ _ _ _ _ HF4.out]; rfl
  have hc8 : v.cell? ⟨w.heap.size, 3, none⟩ = some (.bool false) := by rw [cell_of_row _ _ _ _ _ _ HF4.out]; rfl
  have hz9 : v.frozen? ⟨w.heap.size, 2, none⟩ = false := frozen_of_row _ _ _ _ _ HF4.out
  go_upto_region 6 with (fail)
  clear hc7 hc8 hz9
  have HKK10 := Lib.hid ((KK.refl [w.heap.size] v).set (b := w.heap.size) (by simp) 2 (.int .i64 k))
  have HF11 := Lib.hid (show (v.setCell ⟨w.heap.size, 2, none⟩ (.int .i64 k)).heap[w.heap.size]? = some (.cells #[.slice A n c, .slice A2 n2 c2, .int .i64 k, .bool false, .int .i64 op] 36 (0, 0)) by have q := heap_setCell_at (i := 2) (u := .int .i64 k) (HF4.out); exact q)
  have HF12 := Lib.hid (HKK10.out.blk HF5.out (by simp <;> omega))
  have HB13 := Lib.hid (HKK10.out.below HB6.out (fun b hb => by obtain rfl : b = w.heap.size := (by simpa using hb); omega) HB6.out.size)
  clear HB6 HF4 HF5
  generalize (v.setCell ⟨w.heap.size, 2, none⟩ (.int .i64 k)) = w1 at *
  go_wp2_with (first
    | refine wpList_store_rowY rfl 36 (.tmp 4) (.tmp 14) rfl (w.heap.size + 1) #[.slice A n c, .slice A2 n2 c2, .int .i64 k, .bool false, .int .i64 op] rfl rfl 36 _ HF12.out (info_rd) rfl (by simp [Value.oneCell']) w.heap.size w HB13.out (by omega) ?_
    | refine wpList_load_row rfl 36 (.tmp 2) rfl (w.heap.size) rfl 36 #[.slice A n c, .slice A2 n2 c2, .int .i64 k, .bool false, .int .i64 op] (0, 0) _ HF11.out Tryz.underlying36 rfl (info_rd) ?_)
  intro w2 hbk hoth hbel _
  have HF14 := Lib.hid (blk_oth HF11.out hoth.out (by omega))
  have HF15 := Lib.hid hbk.out
  have HB16 := Lib.hid hbel.out
  clear hbk hoth hbel HB13 HF11 HF12
  go_wp2_with fail
  refine bodyPost_ret (results_ctY rfl _ _ (w.heap.size + 1) #[.slice A n c, .slice A2 n2 c2, .int .i64 k, .bool false, .int .i64 op] rfl (run_loadVar_row _ (w.heap.size + 1) 36 36 _ (0, 0) _ HF15.out Tryz.underlying36 rfl (by kernel_rfl))) rfl ?_
  exact ⟨_, rfl, ⟨A, n, c, A2, n2, c2, rfl, H1.out.below HB16.out, H2.out.below HB16.out⟩, HB16.out⟩
set_option maxRecDepth 100000 in
set_option maxHeartbeats 4000000 in
theorem rover_out (P : Nat → Prop) (SS : List ByteArray) (CC : List Wr) (ar : Int) (go : Bool) (op : Int) (A : Option Addr) (n c : Nat) (A2 : Option Addr) (n2 c2 : Nat) (i : Int) (s : ByteArray) (w : World) (h1 : RdP P stC 1 w A n SS) (h2 : RdP P wrC 2 w A2 n2 CC) (hi : ¬ (0 ≤ i ∧ i < (SS.length : Int))) :
    Calls Tryz.prog 46 #[rdv A n c A2 n2 c2 ar go op, .int .i64 i, .string s] w (RetDI P ⟨SS, CC, ar, go, op⟩ 8 w) := by
  have H1 := Lib.hid h1
  have H2 := Lib.hid h2
  have HL := Lib.hid h1.1.1
  clear h1 h2
  have HD := Lib.hid (show decide (0 ≤ i ∧ i < (n : Int)) = false from decide_eq_false (by rw [← HL.out]; exact hi))
  clear hi
  have HB1 := Lib.hid (Below.refl w.heap.size w)
  have HF2 := Lib.hid (blk_new w (.cells #[.slice A n c, .slice A2 n2 c2, .int .i64 ar, .bool go, .int .i64 op] 36 (0, 0)))
  have HB3 := Lib.hid (HB1.out.alloc HB1.out.size (.cells #[.slice A n c, .slice A2 n2 c2, .int .i64 ar, .bool go, .int .i64 op] 36 (0, 0)))
  clear HB1
  have HF4 := Lib.hid (blk_alloc HF2.out (.cells #[.slice none 0 0, .slice none 0 0, .int .i64 0, .bool false, .int .i64 0] 36 (0, 0)))
  clear HF2
  have HF5 : Hid (((w.alloc (.cells #[.slice A n c, .slice A2 n2 c2, .int .i64 ar, .bool go, .int .i64 op] 36 (0, 0))).alloc (.cells #[.slice none 0 0, .slice none 0 0, .int .i64 0, .bool false, .int .i64 0] 36 (0, 0))).heap[w.heap.size + 1]? = some (.cells #[.slice none 0 0, .slice none 0 0, .int .i64 0, .bool false, .int .i64 0] 36 (0, 0))) := Lib.hid (blk_newN (W := (w.alloc (.cells #[.slice A n c, .slice A2 n2 c2, .int .i64 ar, .bool go, .int .i64 op] 36 (0, 0)))) (o := (.cells #[.slice none 0 0, .slice none 0 0, .int .i64 0, .bool false, .int .i64 0] 36 (0, 0))) (by simp))
  have HB6 := Lib.hid (HB3.out.alloc (by have := HB3.out.size; simp at this ⊢ <;> omega) (.cells #[.slice none 0 0, .slice none 0 0, .int .i64 0, .bool false, .int .i64 0] 36 (0, 0)))
  clear HB3
  obtain ⟨v, hv⟩ : ∃ v, v = ((w.alloc (.cells #[.slice A n c, .slice A2 n2 c2, .int .i64 ar, .bool go, .int .i64 op] 36 (0, 0))).alloc (.cells #[.slice none 0 0, .slice none 0 0, .int .i64 0, .bool false, .int .i64 0] 36 (0, 0))) := ⟨_, rfl⟩
  have HVv := Lib.hid hv
  rw [← hv] at HF4 HF5 HB6
  clear hv
  go_enter Tryz.func46, Tryz.ntmps46
  go_upto_region 1 with (fail)
  rw [← HVv.out]
  have HIN := Lib.hid (rin_any A n c A2 n2 c2 ar go op i v)
  rw [HD.out] at HIN
  go_wp2_with (refine wpList_load_row rfl 36 (.tmp 3) rfl (w.heap.size) rfl 36 #[.slice A n c, .slice A2 n2 c2, .int .i64 ar, .bool go, .int .i64 op] (0, 0) _ HF4.out Tryz.underlying36 rfl (info_rd) ?_)
  refine (HIN.out).mono ?_
  rintro e w1 ⟨rfl, hb1⟩
  have HF7 := Lib.hid (blk_below HF4.out hb1)
  have HF8 := Lib.hid (blk_below HF5.out hb1)
  have HB9 := Lib.hid (HB6.out.trans (hb1.mono HB6.out.size))
  clear hb1 HB6 HF4 HF5
  clear HIN
  go_upto_region 2 with (fail)
  go_wp2_with (first
    | refine wpList_store_rowY rfl 36 (.tmp 6) (.tmp 12) rfl (w.heap.size + 1) #[.slice A n c, .slice A2 n2 c2, .int .i64 ar, .bool go, .int .i64 op] rfl rfl 36 _ HF8.out (info_rd) rfl (by simp [Value.oneCell']) w.heap.size w HB9.out (by omega) ?_
    | refine wpList_load_row rfl 36 (.tmp 3) rfl (w.heap.size) rfl 36 #[.slice A n c, .slice A2 n2 c2, .int .i64 ar, .bool go, .int .i64 op] (0, 0) _ HF7.out Tryz.underlying36 rfl (info_rd) ?_)
  intro w2 hbk hoth hbel _
  have HF10 := Lib.hid (blk_oth HF7.out hoth.out (by omega))
  have HF11 := Lib.hid hbk.out
  have HB12 := Lib.hid hbel.out
  clear hbk hoth hbel HB9 HF7 HF8
  go_wp2_with fail
  refine bodyPost_ret (results_ctY rfl _ _ (w.heap.size + 1) #[.slice A n c, .slice A2 n2 c2, .int .i64 ar, .bool go, .int .i64 op] rfl (run_loadVar_row _ (w.heap.size + 1) 36 36 _ (0, 0) _ HF11.out Tryz.underlying36 rfl (by kernel_rfl))) rfl ?_
  exact ⟨_, rfl, ⟨A, n, c, A2, n2, c2, rfl, H1.out.below HB12.out, H2.out.below HB12.out⟩, HB12.out⟩
set_option maxRecDepth 100000 in
set_option maxHeartbeats 4000000 in
theorem rover_len (P : Nat → Prop) (SS : List ByteArray) (CC : List Wr) (ar : Int) (go : Bool) (op : Int) (A : Option Addr) (n c : Nat) (A2 : Option Addr) (n2 c2 : Nat) (i : Int) (s : ByteArray) (w : World) (h1 : RdP P stC 1 w A n SS) (h2 : RdP P wrC 2 w A2 n2 CC) (hi : 0 ≤ i ∧ i < (SS.length : Int)) (hs : s.size ≠ 128) :
    Calls Tryz.prog 46 #[rdv A n c A2 n2 c2 ar go op, .int .i64 i, .string s] w (RetDI P ⟨SS, CC, ar, go, op⟩ 2 w) := by
  have H1 := Lib.hid h1
  have H2 := Lib.hid h2
  have HL := Lib.hid h1.1.1
  clear h1 h2
  have HD := Lib.hid (show decide (0 ≤ i ∧ i < (n : Int)) = true from decide_eq_true (by rw [← HL.out]; exact hi))
  have d1 : ((s.size : Int) != 128) = true := by simp; omega
  clear hi hs
  have HB1 := Lib.hid (Below.refl w.heap.size w)
  have HF2 := Lib.hid (blk_new w (.cells #[.slice A n c, .slice A2 n2 c2, .int .i64 ar, .bool go, .int .i64 op] 36 (0, 0)))
  have HB3 := Lib.hid (HB1.out.alloc HB1.out.size (.cells #[.slice A n c, .slice A2 n2 c2, .int .i64 ar, .bool go, .int .i64 op] 36 (0, 0)))
  clear HB1
  have HF4 := Lib.hid (blk_alloc HF2.out (.cells #[.slice none 0 0, .slice none 0 0, .int .i64 0, .bool false, .int .i64 0] 36 (0, 0)))
  clear HF2
  have HF5 : Hid (((w.alloc (.cells #[.slice A n c, .slice A2 n2 c2, .int .i64 ar, .bool go, .int .i64 op] 36 (0, 0))).alloc (.cells #[.slice none 0 0, .slice none 0 0, .int .i64 0, .bool false, .int .i64 0] 36 (0, 0))).heap[w.heap.size + 1]? = some (.cells #[.slice none 0 0, .slice none 0 0, .int .i64 0, .bool false, .int .i64 0] 36 (0, 0))) := Lib.hid (blk_newN (W := (w.alloc (.cells #[.slice A n c, .slice A2 n2 c2, .int .i64 ar, .bool go, .int .i64 op] 36 (0, 0)))) (o := (.cells #[.slice none 0 0, .slice none 0 0, .int .i64 0, .bool false, .int .i64 0] 36 (0, 0))) (by simp))
  have HB6 := Lib.hid (HB3.out.alloc (by have := HB3.out.size; simp at this ⊢ <;> omega) (.cells #[.slice none 0 0, .slice none 0 0, .int .i64 0, .bool false, .int .i64 0] 36 (0, 0)))
  clear HB3
  obtain ⟨v, hv⟩ : ∃ v, v = ((w.alloc (.cells #[.slice A n c, .slice A2 n2 c2, .int .i64 ar, .bool go, .int .i64 op] 36 (0, 0))).alloc (.cells #[.slice none 0 0, .slice none 0 0, .int .i64 0, .bool false, .int .i64 0] 36 (0, 0))) := ⟨_, rfl⟩
  have HVv := Lib.hid hv
  rw [← hv] at HF4 HF5 HB6
  clear hv
  go_enter Tryz.func46, Tryz.ntmps46
  go_upto_region 1 with (fail)
  rw [← HVv.out]
  have HIN := Lib.hid (rin_any A n c A2 n2 c2 ar go op i v)
  rw [HD.out] at HIN
  go_wp2_with (refine wpList_load_row rfl 36 (.tmp 3) rfl (w.heap.size) rfl 36 #[.slice A n c, .slice A2 n2 c2, .int .i64 ar, .bool go, .int .i64 op] (0, 0) _ HF4.out Tryz.underlying36 rfl (info_rd) ?_)
  refine (HIN.out).mono ?_
  rintro e w1 ⟨rfl, hb1⟩
  have HF7 := Lib.hid (blk_below HF4.out hb1)
  have HF8 := Lib.hid (blk_below HF5.out hb1)
  have HB9 := Lib.hid (HB6.out.trans (hb1.mono HB6.out.size))
  clear hb1 HB6 HF4 HF5
  clear HIN
  go_upto_region 4 with (fail)
  go_wp2_with (first
    | refine wpList_store_rowY rfl 36 (.tmp 6) (.tmp 16) rfl (w.heap.size + 1) #[.slice A n c, .slice A2 n2 c2, .int .i64 ar, .bool go, .int .i64 op] rfl rfl 36 _ HF8.out (info_rd) rfl (by simp [Value.oneCell']) w.heap.size w HB9.out (by omega) ?_
    | refine wpList_load_row rfl 36 (.tmp 3) rfl (w.heap.size) rfl 36 #[.slice A n c, .slice A2 n2 c2, .int .i64 ar, .bool go, .int .i64 op] (0, 0) _ HF7.out Tryz.underlying36 rfl (info_rd) ?_)
  intro w2 hbk hoth hbel _
  have HF10 := Lib.hid (blk_oth HF7.out hoth.out (by omega))
  have HF11 := Lib.hid hbk.out
  have HB12 := Lib.hid hbel.out
  clear hbk hoth hbel HB9 HF7 HF8
  go_wp2_with fail
  refine bodyPost_ret (results_ctY rfl _ _ (w.heap.size + 1) #[.slice A n c, .slice A2 n2 c2, .int .i64 ar, .bool go, .int .i64 op] rfl (run_loadVar_row _ (w.heap.size + 1) 36 36 _ (0, 0) _ HF11.out Tryz.underlying36 rfl (by kernel_rfl))) rfl ?_
  exact ⟨_, rfl, ⟨A, n, c, A2, n2, c2, rfl, H1.out.below HB12.out, H2.out.below HB12.out⟩, HB12.out⟩
set_option maxRecDepth 100000 in
set_option maxHeartbeats 4000000 in
theorem rover_yes (P : Nat → Prop) (SS : List ByteArray) (CC : List Wr) (ar : Int) (go : Bool) (op : Int) (A : Option Addr) (n c : Nat) (A2 : Option Addr) (n2 c2 : Nat) (i : Int) (s : ByteArray) (w : World) (h1 : RdP P stC 1 w A n SS) (h2 : RdP P wrC 2 w A2 n2 CC) (hi : 0 ≤ i ∧ i < (SS.length : Int)) (hs : s.size = 128) (hn : n ≤ 100000) (hn2 : n2 ≤ 100000) (hP : ∀ b, w.heap.size ≤ b → P b) :
    Calls Tryz.prog 46 #[rdv A n c A2 n2 c2 ar go op, .int .i64 i, .string s] w (RetDI P ⟨SS.set i.toNat s, CC, ar, go, op⟩ 0 w) := by
  have H1 := Lib.hid h1
  have H2 := Lib.hid h2
  have HL := Lib.hid h1.1.1
  clear h1 h2
  have HD := Lib.hid (show decide (0 ≤ i ∧ i < (n : Int)) = true from decide_eq_true (by rw [← HL.out]; exact hi))
  have d1 : ((s.size : Int) != 128) = false := by simp; omega
  obtain ⟨hi0, hi1⟩ := hi
  obtain ⟨j, rfl⟩ : ∃ j : Nat, i = (j : Int) := ⟨i.toNat, by omega⟩
  have hj : j < SS.length := by omega
  have HP := Lib.hid hP
  clear hP hs
  have HB1 := Lib.hid (Below.refl w.heap.size w)
  have HF2 := Lib.hid (blk_new w (.cells #[.slice A n c, .slice A2 n2 c2, .int .i64 ar, .bool go, .int .i64 op] 36 (0, 0)))
  have HB3 := Lib.hid (HB1.out.alloc HB1.out.size (.cells #[.slice A n c, .slice A2 n2 c2, .int .i64 ar, .bool go, .int .i64 op] 36 (0, 0)))
  clear HB1
  have HF4 := Lib.hid (blk_alloc HF2.out (.cells #[.slice none 0 0, .slice none 0 0, .int .i64 0, .bool false, .int .i64 0] 36 (0, 0)))
  clear HF2
  have HF5 : Hid (((w.alloc (.cells #[.slice A n c, .slice A2 n2 c2, .int .i64 ar, .bool go, .int .i64 op] 36 (0, 0))).alloc (.cells #[.slice none 0 0, .slice none 0 0, .int .i64 0, .bool false, .int .i64 0] 36 (0, 0))).heap[w.heap.size + 1]? = some (.cells #[.slice none 0 0, .slice none 0 0, .int .i64 0, .bool false, .int .i64 0] 36 (0, 0))) := Lib.hid (blk_newN (W := (w.alloc (.cells #[.slice A n c, .slice A2 n2 c2, .int .i64 ar, .bool go, .int .i64 op] 36 (0, 0)))) (o := (.cells #[.slice none 0 0, .slice none 0 0, .int .i64 0, .bool false, .int .i64 0] 36 (0, 0))) (by simp))
  have HB6 := Lib.hid (HB3.out.alloc (by have := HB3.out.size; simp at this ⊢ <;> omega) (.cells #[.slice none 0 0, .slice none 0 0, .int .i64 0, .bool false, .int .i64 0] 36 (0, 0)))
  clear HB3
  obtain ⟨v, hv⟩ : ∃ v, v = ((w.alloc (.cells #[.slice A n c, .slice A2 n2 c2, .int .i64 ar, .bool go, .int .i64 op] 36 (0, 0))).alloc (.cells #[.slice none 0 0, .slice none 0 0, .int .i64 0, .bool false, .int .i64 0] 36 (0, 0))) := ⟨_, rfl⟩
  have HVv := Lib.hid hv
  rw [← hv] at HF4 HF5 HB6
  clear hv
  go_enter Tryz.func46, Tryz.ntmps46
  go_upto_region 1 with (fail)
  rw [← HVv.out]
  have HIN := Lib.hid (rin_any A n c A2 n2 c2 ar go op (j : Int) v)
  rw [HD.out] at HIN
  go_wp2_with (refine wpList_load_row rfl 36 (.tmp 3) rfl (w.heap.size) rfl 36 #[.slice A n c, .slice A2 n2 c2, .int .i64 ar, .bool go, .int .i64 op] (0, 0) _ HF4.out Tryz.underlying36 rfl (info_rd) ?_)
  refine (HIN.out).mono ?_
  rintro e w1 ⟨rfl, hb1⟩
  have HF7 := Lib.hid (blk_below HF4.out hb1)
  have HF8 := Lib.hid (blk_below HF5.out hb1)
  have HB9 := Lib.hid (HB6.out.trans (hb1.mono HB6.out.size))
  clear hb1 HB6 HF4 HF5
  clear HIN
  have hc10 : w1.cell? ⟨w.heap.size, 0, none⟩ = some (.slice A n c) := by rw [cell_of_row _ _ _ _ _ _ HF7.out]; rfl
  have hc11 : w1.cell? ⟨w.heap.size, 1, none⟩ = some (.slice A2 n2 c2) := by rw [cell_of_row _ _ _ _ _ _ HF7.out]; rfl
  have HCP := Lib.hid (rcopy_any A n c A2 n2 c2 SS CC w1 (H1.out.1.below HB9.out) (H2.out.1.below HB9.out) hn hn2)
  go_wp2_with fail
  refine (HCP.out).mono ?_
  rintro e w2 ⟨B1, m1, k1, B2, m2, k2, rfl, ho1, ho2, hb2⟩
  clear hc10 hc11
  have HF12 := Lib.hid (blk_below HF7.out hb2)
  have HF13 := Lib.hid (blk_below HF8.out hb2)
  have HB14 := Lib.hid (HB9.out.trans (hb2.mono HB9.out.size))
  have HO0 := Lib.hid (ho1.mono (B' := w.heap.size) HB9.out.size)
  have HQ0 := Lib.hid (ho2.mono (B' := w.heap.size) HB9.out.size)
  clear hb2 HB9 HF7 HF8
  clear HCP ho1 ho2
  have hc15 : w2.cell? ⟨w.heap.size, 0, none⟩ = some (.slice A n c) := by rw [cell_of_row _ _ _ _ _ _ HF12.out]; rfl
  have hc16 : w2.cell? ⟨w.heap.size, 1, none⟩ = some (.slice A2 n2 c2) := by rw [cell_of_row _ _ _ _ _ _ HF12.out]; rfl
  have hz17 : w2.frozen? ⟨w.heap.size, 0, none⟩ = false := frozen_of_row _ _ _ _ _ HF12.out
  have hz18 : w2.frozen? ⟨w.heap.size, 1, none⟩ = false := frozen_of_row _ _ _ _ _ HF12.out
  go_upto_region 6 with (fail)
  clear hc15 hc16 hz17 hz18
  have HKK19 := Lib.hid (((KK.refl [w.heap.size] w2).set (b := w.heap.size) (by simp) 0 (.slice B1 m1 k1)).set (b := w.heap.size) (by simp) 1 (.slice B2 m2 k2))
  have HF20 := Lib.hid (show ((w2.setCell ⟨w.heap.size, 0, none⟩ (.slice B1 m1 k1)).setCell ⟨w.heap.size, 1, none⟩ (.slice B2 m2 k2)).heap[w.heap.size]? = some (.cells #[.slice B1 m1 k1, .slice B2 m2 k2, .int .i64 ar, .bool go, .int .i64 op] 36 (0, 0)) by have q := heap_setCell_at (i := 1) (u := .slice B2 m2 k2) (heap_setCell_at (i := 0) (u := .slice B1 m1 k1) (HF12.out)); exact q)
  have HF21 := Lib.hid (HKK19.out.blk HF13.out (by simp <;> omega))
  have HO22 := Lib.hid (HO0.out.kkD HKK19.out HF12.out (by decide))
  have HQ23 := Lib.hid (HQ0.out.kkD HKK19.out HF12.out (by decide))
  have HB24 := Lib.hid (HKK19.out.below HB14.out (fun b hb => by obtain rfl : b = w.heap.size := (by simpa using hb); omega) HB14.out.size)
  clear HB14 HF12 HF13
  generalize ((w2.setCell ⟨w.heap.size, 0, none⟩ (.slice B1 m1 k1)).setCell ⟨w.heap.size, 1, none⟩ (.slice B2 m2 k2)) = w3 at *
  rcases HO22.out with ⟨_, ⟨_, h0⟩ | ⟨gg, cap, cur, e, hgg, hheap, _⟩⟩
  · omega
  injection e with e1 e2 e3
  subst e1 e2 e3
  obtain ⟨A9, c9, e, hr2, _, _⟩ := HO22.out.rd stC_len
  injection e with e4 e5 e6
  subst e4
  have HG := Lib.hid hheap
  have hck : w3.cell? ⟨gg, j, none⟩ = some (.string SS[j]) := by
    obtain ⟨b2, off2, hb2, _, hc2⟩ := hr2.2 (by omega)
    injection hb2 with hb2
    injection hb2 with hb3 hb4
    subst hb3 hb4
    have q := hc2 j SS[j] 0 (.string SS[j]) (List.getElem?_eq_getElem hj) rfl
    rw [Nat.zero_add, Nat.mul_one, Nat.add_zero] at q
    exact q
  obtain ⟨o, ho⟩ : ∃ o, o = SS[j] := ⟨_, rfl⟩
  rw [← ho] at hck
  have hfk : w3.frozen? ⟨gg, j, none⟩ = false := frozen_of_row _ _ _ _ _ hheap
  have hj1 : (j : Int) < (SS.length : Int) := by omega
  clear hr2 ho hheap e5 e6 hi1
  have hc25 : w3.cell? ⟨w.heap.size, 0, none⟩ = some (.slice (some ⟨gg, 0, none⟩) SS.length k1) := by rw [cell_of_row _ _ _ _ _ _ HF20.out]; rfl
  have hnp : ¬ w.heap.size = gg := fun e => by
    have q := HF20.out
    rw [e, HG.out] at q
    cases q
  have hnr : ¬ w.heap.size + 1 = gg := fun e => by
    have q := HF21.out
    rw [e, HG.out] at q
    cases q
  go_upto_region 7 with (fail)
  have HK := Lib.hid ((KK.refl [gg] w3).set (b := gg) (by simp) j (.string s))
  have HFp := Lib.hid (HK.out.blk HF20.out (by simpa using hnp))
  have HFr := Lib.hid (HK.out.blk HF21.out (by simpa using hnr))
  have HO9 := Lib.hid (HO22.out.setS (i := j) s)
  have HQ9 := Lib.hid (HQ23.out.kkD HK.out HG.out (by decide))
  have HB9 := Lib.hid (HK.out.below HB24.out (fun b hb => by obtain rfl : b = gg := (by simpa using hb); exact hgg) HB24.out.size)
  clear hc25
  clear hck hfk
  generalize (w3.setCell ⟨gg, j, none⟩ (.string s)) = w90 at *
  go_wp2_with (first
    | refine wpList_store_rowY rfl 36 (.tmp 6) (.tmp 27) rfl (w.heap.size + 1) #[.slice (some ⟨gg, 0, none⟩) SS.length k1, .slice B2 m2 k2, .int .i64 ar, .bool go, .int .i64 op] rfl rfl 36 _ HFr.out (info_rd) rfl (by simp [Value.oneCell']) w.heap.size w HB9.out (by omega) ?_
    | refine wpList_load_row rfl 36 (.tmp 3) rfl (w.heap.size) rfl 36 #[.slice (some ⟨gg, 0, none⟩) SS.length k1, .slice B2 m2 k2, .int .i64 ar, .bool go, .int .i64 op] (0, 0) _ HFp.out Tryz.underlying36 rfl (info_rd) ?_)
  intro w4 hbk hoth hbel _
  have HO26 := Lib.hid (HO9.out.oth hoth.out HFr.out (by decide))
  have HQ27 := Lib.hid (HQ9.out.oth hoth.out HFr.out (by decide))
  have HF28 := Lib.hid (blk_oth HFp.out hoth.out (by omega))
  have HF29 := Lib.hid hbk.out
  have HB30 := Lib.hid hbel.out
  clear hbk hoth hbel HB9 HFp HFr
  go_wp2_with fail
  refine bodyPost_ret (results_ctY rfl _ _ (w.heap.size + 1) #[.slice (some ⟨gg, 0, none⟩) SS.length k1, .slice B2 m2 k2, .int .i64 ar, .bool go, .int .i64 op] rfl (run_loadVar_row _ (w.heap.size + 1) 36 36 _ (0, 0) _ HF29.out Tryz.underlying36 rfl (by kernel_rfl))) rfl ?_
  exact ⟨_, rfl, ⟨_, _, _, B2, m2, k2, rfl, (show RdP P stC 1 _ (some ⟨gg, 0, none⟩) SS.length (SS.set j s) from OwX.rdP stC_len HP.out (by simpa using HO26.out)), OwX.rdP wrC_len HP.out HQ27.out⟩, HB30.out⟩
end Go.Proofs.YtiflieaemgamkaaGreatDoor

namespace Go.Proofs.YtiflieaemgamkaaGreatDoor
open Go.RowKit Vi

/-- the sectors that are safe behind a flush -/
def flsS (ar : Int) (SS : List ByteArray) (CC : List Wr) : List ByteArray := if ar = 1 then SS else setP allK 0 CC SS
set_option maxRecDepth 100000 in
set_option maxHeartbeats 4000000 in
theorem rwrite_out (P : Nat → Prop) (SS : List ByteArray) (CC : List Wr) (ar : Int) (op : Int) (A : Option Addr) (n c : Nat) (A2 : Option Addr) (n2 c2 : Nat) (i : Int) (s : ByteArray) (w : World) (h1 : RdP P stC 1 w A n SS) (h2 : RdP P wrC 2 w A2 n2 CC) (hi : ¬ (0 ≤ i ∧ i < (SS.length : Int))) :
    Calls Tryz.prog 90 #[rdv A n c A2 n2 c2 ar false op, .int .i64 i, .string s] w (RetDI P ⟨SS, CC, ar, false, op⟩ 8 w) := by
  have H1 := Lib.hid h1
  have H2 := Lib.hid h2
  have HL := Lib.hid h1.1.1
  clear h1 h2
  have HD := Lib.hid (show decide (0 ≤ i ∧ i < (n : Int)) = false from decide_eq_false (by rw [← HL.out]; exact hi))
  clear hi
  have HB1 := Lib.hid (Below.refl w.heap.size w)
  have HF2 := Lib.hid (blk_new w (.cells #[.slice A n c, .slice A2 n2 c2, .int .i64 ar, .bool false, .int .i64 op] 36 (0, 0)))
  have HB3 := Lib.hid (HB1.out.alloc HB1.out.size (.cells #[.slice A n c, .slice A2 n2 c2, .int .i64 ar, .bool false, .int .i64 op] 36 (0, 0)))
  clear HB1
  have HF4 := Lib.hid (blk_alloc HF2.out (.cells #[.slice none 0 0, .slice none 0 0, .int .i64 0, .bool false, .int .i64 0] 36 (0, 0)))
  clear HF2
  have HF5 : Hid (((w.alloc (.cells #[.slice A n c, .slice A2 n2 c2, .int .i64 ar, .bool false, .int .i64 op] 36 (0, 0))).alloc (.cells #[.slice none 0 0, .slice none 0 0, .int .i64 0, .bool false, .int .i64 0] 36 (0, 0))).heap[w.heap.size + 1]? = some (.cells #[.slice none 0 0, .slice none 0 0, .int .i64 0, .bool false, .int .i64 0] 36 (0, 0))) := Lib.hid (blk_newN (W := (w.alloc (.cells #[.slice A n c, .slice A2 n2 c2, .int .i64 ar, .bool false, .int .i64 op] 36 (0, 0)))) (o := (.cells #[.slice none 0 0, .slice none 0 0, .int .i64 0, .bool false, .int .i64 0] 36 (0, 0))) (by simp))
  have HB6 := Lib.hid (HB3.out.alloc (by have := HB3.out.size; simp at this ⊢ <;> omega) (.cells #[.slice none 0 0, .slice none 0 0, .int .i64 0, .bool false, .int .i64 0] 36 (0, 0)))
  clear HB3
  obtain ⟨v, hv⟩ : ∃ v, v = ((w.alloc (.cells #[.slice A n c, .slice A2 n2 c2, .int .i64 ar, .bool false, .int .i64 op] 36 (0, 0))).alloc (.cells #[.slice none 0 0, .slice none 0 0, .int .i64 0, .bool false, .int .i64 0] 36 (0, 0))) := ⟨_, rfl⟩
  have HVv := Lib.hid hv
  rw [← hv] at HF4 HF5 HB6
  clear hv
  go_enter Tryz.func90, Tryz.ntmps90
  go_upto_region 1 with (fail)
  rw [← HVv.out]
  have hc7 : v.cell? ⟨w.heap.size, 3, none⟩ = some (.bool false) := by rw [cell_of_row _ _ _ _ _ _ HF4.out]; rfl
  have HIN := Lib.hid (rin_any A n c A2 n2 c2 ar false op i v)
  rw [HD.out] at HIN
  go_wp2_with (refine wpList_load_row rfl 36 (.tmp 3) rfl (w.heap.size) rfl 36 #[.slice A n c, .slice A2 n2 c2, .int .i64 ar, .bool false, .int .i64 op] (0, 0) _ HF4.out Tryz.underlying36 rfl (info_rd) ?_)
  refine (HIN.out).mono ?_
  rintro e w1 ⟨rfl, hb1⟩
  clear hc7
  have HF8 := Lib.hid (blk_below HF4.out hb1)
  have HF9 := Lib.hid (blk_below HF5.out hb1)
  have HB10 := Lib.hid (HB6.out.trans (hb1.mono HB6.out.size))
  clear hb1 HB6 HF4 HF5
  clear HIN
  go_upto_region 4 with (fail)
  go_wp2_with (first
    | refine wpList_store_rowY rfl 36 (.tmp 6) (.tmp 16) rfl (w.heap.size + 1) #[.slice A n c, .slice A2 n2 c2, .int .i64 ar, .bool false, .int .i64 op] rfl rfl 36 _ HF9.out (info_rd) rfl (by simp [Value.oneCell']) w.heap.size w HB10.out (by omega) ?_
    | refine wpList_load_row rfl 36 (.tmp 3) rfl (w.heap.size) rfl 36 #[.slice A n c, .slice A2 n2 c2, .int .i64 ar, .bool false, .int .i64 op] (0, 0) _ HF8.out Tryz.underlying36 rfl (info_rd) ?_)
  intro w2 hbk hoth hbel _
  have HF11 := Lib.hid (blk_oth HF8.out hoth.out (by omega))
  have HF12 := Lib.hid hbk.out
  have HB13 := Lib.hid hbel.out
  clear hbk hoth hbel HB10 HF8 HF9
  go_wp2_with fail
  refine bodyPost_ret (results_ctY rfl _ _ (w.heap.size + 1) #[.slice A n c, .slice A2 n2 c2, .int .i64 ar, .bool false, .int .i64 op] rfl (run_loadVar_row _ (w.heap.size + 1) 36 36 _ (0, 0) _ HF12.out Tryz.underlying36 rfl (by kernel_rfl))) rfl ?_
  exact ⟨_, rfl, ⟨A, n, c, A2, n2, c2, rfl, H1.out.below HB13.out, H2.out.below HB13.out⟩, HB13.out⟩
set_option maxRecDepth 100000 in
set_option maxHeartbeats 4000000 in
theorem rwrite_len (P : Nat → Prop) (SS : List ByteArray) (CC : List Wr) (ar : Int) (op : Int) (A : Option Addr) (n c : Nat) (A2 : Option Addr) (n2 c2 : Nat) (i : Int) (s : ByteArray) (w : World) (h1 : RdP P stC 1 w A n SS) (h2 : RdP P wrC 2 w A2 n2 CC) (hi : 0 ≤ i ∧ i < (SS.length : Int)) (hs : s.size ≠ 128) :
    Calls Tryz.prog 90 #[rdv A n c A2 n2 c2 ar false op, .int .i64 i, .string s] w (RetDI P ⟨SS, CC, ar, false, op⟩ 2 w) := by
  have H1 := Lib.hid h1
  have H2 := Lib.hid h2
  have HL := Lib.hid h1.1.1
  clear h1 h2
  have HD := Lib.hid (show decide (0 ≤ i ∧ i < (n : Int)) = true from decide_eq_true (by rw [← HL.out]; exact hi))
  have d1 : ((s.size : Int) != 128) = true := by simp; omega
  clear hi hs
  have HB1 := Lib.hid (Below.refl w.heap.size w)
  have HF2 := Lib.hid (blk_new w (.cells #[.slice A n c, .slice A2 n2 c2, .int .i64 ar, .bool false, .int .i64 op] 36 (0, 0)))
  have HB3 := Lib.hid (HB1.out.alloc HB1.out.size (.cells #[.slice A n c, .slice A2 n2 c2, .int .i64 ar, .bool false, .int .i64 op] 36 (0, 0)))
  clear HB1
  have HF4 := Lib.hid (blk_alloc HF2.out (.cells #[.slice none 0 0, .slice none 0 0, .int .i64 0, .bool false, .int .i64 0] 36 (0, 0)))
  clear HF2
  have HF5 : Hid (((w.alloc (.cells #[.slice A n c, .slice A2 n2 c2, .int .i64 ar, .bool false, .int .i64 op] 36 (0, 0))).alloc (.cells #[.slice none 0 0, .slice none 0 0, .int .i64 0, .bool false, .int .i64 0] 36 (0, 0))).heap[w.heap.size + 1]? = some (.cells #[.slice none 0 0, .slice none 0 0, .int .i64 0, .bool false, .int .i64 0] 36 (0, 0))) := Lib.hid (blk_newN (W := (w.alloc (.cells #[.slice A n c, .slice A2 n2 c2, .int .i64 ar, .bool false, .int .i64 op] 36 (0, 0)))) (o := (.cells #[.slice none 0 0, .slice none 0 0, .int .i64 0, .bool false, .int .i64 0] 36 (0, 0))) (by simp))
  have HB6 := Lib.hid (HB3.out.alloc (by have := HB3.out.size; simp at this ⊢ <;> omega) (.cells #[.slice none 0 0, .slice none 0 0, .int .i64 0, .bool false, .int .i64 0] 36 (0, 0)))
  clear HB3
  obtain ⟨v, hv⟩ : ∃ v, v = ((w.alloc (.cells #[.slice A n c, .slice A2 n2 c2, .int .i64 ar, .bool false, .int .i64 op] 36 (0, 0))).alloc (.cells #[.slice none 0 0, .slice none 0 0, .int .i64 0, .bool false, .int .i64 0] 36 (0, 0))) := ⟨_, rfl⟩
  have HVv := Lib.hid hv
  rw [← hv] at HF4 HF5 HB6
  clear hv
  go_enter Tryz.func90, Tryz.ntmps90
  go_upto_region 1 with (fail)
  rw [← HVv.out]
  have hc7 : v.cell? ⟨w.heap.size, 3, none⟩ = some (.bool false) := by rw [cell_of_row _ _ _ _ _ _ HF4.out]; rfl
  have HIN := Lib.hid (rin_any A n c A2 n2 c2 ar false op i v)
  rw [HD.out] at HIN
  go_wp2_with (refine wpList_load_row rfl 36 (.tmp 3) rfl (w.heap.size) rfl 36 #[.slice A n c, .slice A2 n2 c2, .int .i64 ar, .bool false, .int .i64 op] (0, 0) _ HF4.out Tryz.underlying36 rfl (info_rd) ?_)
  refine (HIN.out).mono ?_
  rintro e w1 ⟨rfl, hb1⟩
  clear hc7
  have HF8 := Lib.hid (blk_below HF4.out hb1)
  have HF9 := Lib.hid (blk_below HF5.out hb1)
  have HB10 := Lib.hid (HB6.out.trans (hb1.mono HB6.out.size))
  clear hb1 HB6 HF4 HF5
  clear HIN
  go_upto_region 6 with (fail)
  go_wp2_with (first
    | refine wpList_store_rowY rfl 36 (.tmp 6) (.tmp 20) rfl (w.heap.size + 1) #[.slice A n c, .slice A2 n2 c2, .int .i64 ar, .bool false, .int .i64 op] rfl rfl 36 _ HF9.out (info_rd) rfl (by simp [Value.oneCell']) w.heap.size w HB10.out (by omega) ?_
    | refine wpList_load_row rfl 36 (.tmp 3) rfl (w.heap.size) rfl 36 #[.slice A n c, .slice A2 n2 c2, .int .i64 ar, .bool false, .int .i64 op] (0, 0) _ HF8.out Tryz.underlying36 rfl (info_rd) ?_)
  intro w2 hbk hoth hbel _
  have HF11 := Lib.hid (blk_oth HF8.out hoth.out (by omega))
  have HF12 := Lib.hid hbk.out
  have HB13 := Lib.hid hbel.out
  clear hbk hoth hbel HB10 HF8 HF9
  go_wp2_with fail
  refine bodyPost_ret (results_ctY rfl _ _ (w.heap.size + 1) #[.slice A n c, .slice A2 n2 c2, .int .i64 ar, .bool false, .int .i64 op] rfl (run_loadVar_row _ (w.heap.size + 1) 36 36 _ (0, 0) _ HF12.out Tryz.underlying36 rfl (by kernel_rfl))) rfl ?_
  exact ⟨_, rfl, ⟨A, n, c, A2, n2, c2, rfl, H1.out.below HB13.out, H2.out.below HB13.out⟩, HB13.out⟩
set_option maxRecDepth 100000 in
set_option maxHeartbeats 4000000 in
theorem rwrite_up (P : Nat → Prop) (SS : List ByteArray) (CC : List Wr) (ar : Int) (op : Int) (A : Option Addr) (n c : Nat) (A2 : Option Addr) (n2 c2 : Nat) (i : Int) (s : ByteArray) (w : World) (h1 : RdP P stC 1 w A n SS) (h2 : RdP P wrC 2 w A2 n2 CC) (hi : 0 ≤ i ∧ i < (SS.length : Int)) (hs : s.size = 128) (ha : 0 ≤ ar ∧ ar ≤ 9223372036854775807) (ho : -1000000000 ≤ op ∧ op ≤ 1000000000) (hn : n ≤ 100000) (hn2 : n2 ≤ 100000) (hP : ∀ b, w.heap.size ≤ b → P b) :
    Calls Tryz.prog 90 #[rdv A n c A2 n2 c2 ar false op, .int .i64 i, .string s] w (RetDI P ⟨SS, wrtC ar CC i s, stpF ar, stpD ar, stpO op ar⟩ (stpE ar) w) := by
  have H1 := Lib.hid h1
  have H2 := Lib.hid h2
  have HL := Lib.hid h1.1.1
  clear h1 h2
  have HD := Lib.hid (show decide (0 ≤ i ∧ i < (n : Int)) = true from decide_eq_true (by rw [← HL.out]; exact hi))
  have d1 : ((s.size : Int) != 128) = false := by simp; omega
  have HP := Lib.hid hP
  have hcl : CC.length ≤ 100000 := by have := H2.out.1.1; omega
  clear hi hs hP
  by_cases hq : ar = 1
  · have HD2 := Lib.hid (show decide (ar = 1) = true from decide_eq_true hq)
    have HE1 := Lib.hid (show wrtC ar CC i s = CC by unfold wrtC; rw [if_pos hq])
    have HE2 := Lib.hid (show stpE ar = 7 by unfold stpE; rw [if_pos hq])
    clear hq
    have HB1 := Lib.hid (Below.refl w.heap.size w)
    have HF2 := Lib.hid (blk_new w (.cells #[.slice A n c, .slice A2 n2 c2, .int .i64 ar, .bool false, .int .i64 op] 36 (0, 0)))
    have HB3 := Lib.hid (HB1.out.alloc HB1.out.size (.cells #[.slice A n c, .slice A2 n2 c2, .int .i64 ar, .bool false, .int .i64 op] 36 (0, 0)))
    clear HB1
    have HF4 := Lib.hid (blk_alloc HF2.out (.cells #[.slice none 0 0, .slice none 0 0, .int .i64 0, .bool false, .int .i64 0] 36 (0, 0)))
    clear HF2
    have HF5 : Hid (((w.alloc (.cells #[.slice A n c, .slice A2 n2 c2, .int .i64 ar, .bool false, .int .i64 op] 36 (0, 0))).alloc (.cells #[.slice none 0 0, .slice none 0 0, .int .i64 0, .bool false, .int .i64 0] 36 (0, 0))).heap[w.heap.size + 1]? = some (.cells #[.slice none 0 0, .slice none 0 0, .int .i64 0, .bool false, .int .i64 0] 36 (0, 0))) := Lib.hid (blk_newN (W := (w.alloc (.cells #[.slice A n c, .slice A2 n2 c2, .int .i64 ar, .bool false, .int .i64 op] 36 (0, 0)))) (o := (.cells #[.slice none 0 0, .slice none 0 0, .int .i64 0, .bool false, .int .i64 0] 36 (0, 0))) (by simp))
    have HB6 := Lib.hid (HB3.out.alloc (by have := HB3.out.size; simp at this ⊢ <;> omega) (.cells #[.slice none 0 0, .slice none 0 0, .int .i64 0, .bool false, .int .i64 0] 36 (0, 0)))
    clear HB3
    obtain ⟨v, hv⟩ : ∃ v, v = ((w.alloc (.cells #[.slice A n c, .slice A2 n2 c2, .int .i64 ar, .bool false, .int .i64 op] 36 (0, 0))).alloc (.cells #[.slice none 0 0, .slice none 0 0, .int .i64 0, .bool false, .int .i64 0] 36 (0, 0))) := ⟨_, rfl⟩
    have HVv := Lib.hid hv
    rw [← hv] at HF4 HF5 HB6
    clear hv
    go_enter Tryz.func90, Tryz.ntmps90
    go_upto_region 1 with (fail)
    rw [← HVv.out]
    have hc7 : v.cell? ⟨w.heap.size, 3, none⟩ = some (.bool false) := by rw [cell_of_row _ _ _ _ _ _ HF4.out]; rfl
    have HIN := Lib.hid (rin_any A n c A2 n2 c2 ar false op i v)
    rw [HD.out] at HIN
    go_wp2_with (refine wpList_load_row rfl 36 (.tmp 3) rfl (w.heap.size) rfl 36 #[.slice A n c, .slice A2 n2 c2, .int .i64 ar, .bool false, .int .i64 op] (0, 0) _ HF4.out Tryz.underlying36 rfl (info_rd) ?_)
    refine (HIN.out).mono ?_
    rintro e w1 ⟨rfl, hb1⟩
    clear hc7
    have HF8 := Lib.hid (blk_below HF4.out hb1)
    have HF9 := Lib.hid (blk_below HF5.out hb1)
    have HB10 := Lib.hid (HB6.out.trans (hb1.mono HB6.out.size))
    clear hb1 HB6 HF4 HF5
    clear HIN
    have HST := rstep_any ⟨SS, CC, ar, false, op⟩ A n c A2 n2 c2 w1 ha ho
    unfold StepP at HST
    rw [step_false] at HST
    dsimp only at HST
    rw [HD2.out] at HST
    have HST := Lib.hid HST
    go_wp2_with (refine wpList_load_row rfl 36 (.tmp 3) rfl (w.heap.size) rfl 36 #[.slice A n c, .slice A2 n2 c2, .int .i64 ar, .bool false, .int .i64 op] (0, 0) _ HF8.out Tryz.underlying36 rfl (info_rd) ?_)
    refine (HST.out).mono ?_
    rintro e w2 ⟨rfl, hb2⟩
    have HF11 := Lib.hid (blk_below HF8.out hb2)
    have HF12 := Lib.hid (blk_below HF9.out hb2)
    have HB13 := Lib.hid (HB10.out.trans (hb2.mono HB10.out.size))
    clear hb2 HB10 HF8 HF9
    clear HST
    go_wp2_with (first
      | refine wpList_store_rowY rfl 36 (.tmp 3) (.tmp 24) rfl (w.heap.size) #[.slice A n c, .slice A2 n2 c2, .int .i64 (stpF ar), .bool (stpD ar), .int .i64 (stpO op ar)] rfl rfl 36 _ HF11.out (info_rd) rfl (by simp [Value.oneCell']) w.heap.size w HB13.out (by omega) ?_)
    intro w3 hbk hoth hbel _
    have HF14 := Lib.hid hbk.out
    have HF15 := Lib.hid (blk_oth HF12.out hoth.out (by omega))
    have HB16 := Lib.hid hbel.out
    clear hbk hoth hbel HB13 HF11 HF12
    go_upto_region 9 with (fail)
    go_wp2_with (first
      | refine wpList_store_rowY rfl 36 (.tmp 6) (.tmp 27) rfl (w.heap.size + 1) #[.slice A n c, .slice A2 n2 c2, .int .i64 (stpF ar), .bool (stpD ar), .int .i64 (stpO op ar)] rfl rfl 36 _ HF15.out (info_rd) rfl (by simp [Value.oneCell']) w.heap.size w HB16.out (by omega) ?_
      | refine wpList_load_row rfl 36 (.tmp 3) rfl (w.heap.size) rfl 36 #[.slice A n c, .slice A2 n2 c2, .int .i64 (stpF ar), .bool (stpD ar), .int .i64 (stpO op ar)] (0, 0) _ HF14.out Tryz.underlying36 rfl (info_rd) ?_)
    intro w4 hbk hoth hbel _
    have HF17 := Lib.hid (blk_oth HF14.out hoth.out (by omega))
    have HF18 := Lib.hid hbk.out
    have HB19 := Lib.hid hbel.out
    clear hbk hoth hbel HB16 HF14 HF15
    go_wp2_with fail
    rw [HE1.out, HE2.out]
    refine bodyPost_ret (results_ctY rfl _ _ (w.heap.size + 1) #[.slice A n c, .slice A2 n2 c2, .int .i64 (stpF ar), .bool (stpD ar), .int .i64 (stpO op ar)] rfl (run_loadVar_row _ (w.heap.size + 1) 36 36 _ (0, 0) _ HF18.out Tryz.underlying36 rfl (by kernel_rfl))) rfl ?_
    exact ⟨_, rfl, ⟨A, n, c, A2, n2, c2, rfl, H1.out.below HB19.out, H2.out.below HB19.out⟩, HB19.out⟩
  · have HD2 := Lib.hid (show decide (ar = 1) = false from decide_eq_false hq)
    have HE1 := Lib.hid (show wrtC ar CC i s = CC ++ [(i, s)] by unfold wrtC; rw [if_neg hq])
    have HE2 := Lib.hid (show stpE ar = 0 by unfold stpE; rw [if_neg hq])
    clear hq
    have HB1 := Lib.hid (Below.refl w.heap.size w)
    have HF2 := Lib.hid (blk_new w (.cells #[.slice A n c, .slice A2 n2 c2, .int .i64 ar, .bool false, .int .i64 op] 36 (0, 0)))
    have HB3 := Lib.hid (HB1.out.alloc HB1.out.size (.cells #[.slice A n c, .slice A2 n2 c2, .int .i64 ar, .bool false, .int .i64 op] 36 (0, 0)))
    clear HB1
    have HF4 := Lib.hid (blk_alloc HF2.out (.cells #[.slice none 0 0, .slice none 0 0, .int .i64 0, .bool false, .int .i64 0] 36 (0, 0)))
    clear HF2
    have HF5 : Hid (((w.alloc (.cells #[.slice A n c, .slice A2 n2 c2, .int .i64 ar, .bool false, .int .i64 op] 36 (0, 0))).alloc (.cells #[.slice none 0 0, .slice none 0 0, .int .i64 0, .bool false, .int .i64 0] 36 (0, 0))).heap[w.heap.size + 1]? = some (.cells #[.slice none 0 0, .slice none 0 0, .int .i64 0, .bool false, .int .i64 0] 36 (0, 0))) := Lib.hid (blk_newN (W := (w.alloc (.cells #[.slice A n c, .slice A2 n2 c2, .int .i64 ar, .bool false, .int .i64 op] 36 (0, 0)))) (o := (.cells #[.slice none 0 0, .slice none 0 0, .int .i64 0, .bool false, .int .i64 0] 36 (0, 0))) (by simp))
    have HB6 := Lib.hid (HB3.out.alloc (by have := HB3.out.size; simp at this ⊢ <;> omega) (.cells #[.slice none 0 0, .slice none 0 0, .int .i64 0, .bool false, .int .i64 0] 36 (0, 0)))
    clear HB3
    obtain ⟨v, hv⟩ : ∃ v, v = ((w.alloc (.cells #[.slice A n c, .slice A2 n2 c2, .int .i64 ar, .bool false, .int .i64 op] 36 (0, 0))).alloc (.cells #[.slice none 0 0, .slice none 0 0, .int .i64 0, .bool false, .int .i64 0] 36 (0, 0))) := ⟨_, rfl⟩
    have HVv := Lib.hid hv
    rw [← hv] at HF4 HF5 HB6
    clear hv
    go_enter Tryz.func90, Tryz.ntmps90
    go_upto_region 1 with (fail)
    rw [← HVv.out]
    have hc7 : v.cell? ⟨w.heap.size, 3, none⟩ = some (.bool false) := by rw [cell_of_row _ _ _ _ _ _ HF4.out]; rfl
    have HIN := Lib.hid (rin_any A n c A2 n2 c2 ar false op i v)
    rw [HD.out] at HIN
    go_wp2_with (refine wpList_load_row rfl 36 (.tmp 3) rfl (w.heap.size) rfl 36 #[.slice A n c, .slice A2 n2 c2, .int .i64 ar, .bool false, .int .i64 op] (0, 0) _ HF4.out Tryz.underlying36 rfl (info_rd) ?_)
    refine (HIN.out).mono ?_
    rintro e w1 ⟨rfl, hb1⟩
    clear hc7
    have HF8 := Lib.hid (blk_below HF4.out hb1)
    have HF9 := Lib.hid (blk_below HF5.out hb1)
    have HB10 := Lib.hid (HB6.out.trans (hb1.mono HB6.out.size))
    clear hb1 HB6 HF4 HF5
    clear HIN
    have HST := rstep_any ⟨SS, CC, ar, false, op⟩ A n c A2 n2 c2 w1 ha ho
    unfold StepP at HST
    rw [step_false] at HST
    dsimp only at HST
    rw [HD2.out] at HST
    have HST := Lib.hid HST
    go_wp2_with (refine wpList_load_row rfl 36 (.tmp 3) rfl (w.heap.size) rfl 36 #[.slice A n c, .slice A2 n2 c2, .int .i64 ar, .bool false, .int .i64 op] (0, 0) _ HF8.out Tryz.underlying36 rfl (info_rd) ?_)
    refine (HST.out).mono ?_
    rintro e w2 ⟨rfl, hb2⟩
    have HF11 := Lib.hid (blk_below HF8.out hb2)
    have HF12 := Lib.hid (blk_below HF9.out hb2)
    have HB13 := Lib.hid (HB10.out.trans (hb2.mono HB10.out.size))
    clear hb2 HB10 HF8 HF9
    clear HST
    go_wp2_with (first
      | refine wpList_store_rowY rfl 36 (.tmp 3) (.tmp 24) rfl (w.heap.size) #[.slice A n c, .slice A2 n2 c2, .int .i64 (stpF ar), .bool (stpD ar), .int .i64 (stpO op ar)] rfl rfl 36 _ HF11.out (info_rd) rfl (by simp [Value.oneCell']) w.heap.size w HB13.out (by omega) ?_)
    intro w3 hbk hoth hbel _
    have HF14 := Lib.hid hbk.out
    have HF15 := Lib.hid (blk_oth HF12.out hoth.out (by omega))
    have HB16 := Lib.hid hbel.out
    clear hbk hoth hbel HB13 HF11 HF12
    have hc17 : w3.cell? ⟨w.heap.size, 0, none⟩ = some (.slice A n c) := by rw [cell_of_row _ _ _ _ _ _ HF14.out]; rfl
    have hc18 : w3.cell? ⟨w.heap.size, 1, none⟩ = some (.slice A2 n2 c2) := by rw [cell_of_row _ _ _ _ _ _ HF14.out]; rfl
    have HCP := Lib.hid (rcopy_any A n c A2 n2 c2 SS CC w3 (H1.out.1.below HB16.out) (H2.out.1.below HB16.out) hn hn2)
    go_wp2_with fail
    refine (HCP.out).mono ?_
    rintro e w4 ⟨B1, m1, k1, B2, m2, k2, rfl, ho1, ho2, hb4⟩
    clear hc17 hc18
    have HF19 := Lib.hid (blk_below HF14.out hb4)
    have HF20 := Lib.hid (blk_below HF15.out hb4)
    have HB21 := Lib.hid (HB16.out.trans (hb4.mono HB16.out.size))
    have HO0 := Lib.hid (ho1.mono (B' := w.heap.size) HB16.out.size)
    have HQ0 := Lib.hid (ho2.mono (B' := w.heap.size) HB16.out.size)
    clear hb4 HB16 HF14 HF15
    clear HCP ho1 ho2
    have hc22 : w4.cell? ⟨w.heap.size, 0, none⟩ = some (.slice A n c) := by rw [cell_of_row _ _ _ _ _ _ HF19.out]; rfl
    have hc23 : w4.cell? ⟨w.heap.size, 1, none⟩ = some (.slice A2 n2 c2) := by rw [cell_of_row _ _ _ _ _ _ HF19.out]; rfl
    have hz24 : w4.frozen? ⟨w.heap.size, 0, none⟩ = false := frozen_of_row _ _ _ _ _ HF19.out
    have hz25 : w4.frozen? ⟨w.heap.size, 1, none⟩ = false := frozen_of_row _ _ _ _ _ HF19.out
    go_upto_region 11 with (fail)
    clear hc22 hc23 hz24 hz25
    have HKK26 := Lib.hid (((KK.refl [w.heap.size] w4).set (b := w.heap.size) (by simp) 0 (.slice B1 m1 k1)).set (b := w.heap.size) (by simp) 1 (.slice B2 m2 k2))
    have HF27 := Lib.hid (show ((w4.setCell ⟨w.heap.size, 0, none⟩ (.slice B1 m1 k1)).setCell ⟨w.heap.size, 1, none⟩ (.slice B2 m2 k2)).heap[w.heap.size]? = some (.cells #[.slice B1 m1 k1, .slice B2 m2 k2, .int .i64 (stpF ar), .bool (stpD ar), .int .i64 (stpO op ar)] 36 (0, 0)) by have q := heap_setCell_at (i := 1) (u := .slice B2 m2 k2) (heap_setCell_at (i := 0) (u := .slice B1 m1 k1) (HF19.out)); exact q)
    have HF28 := Lib.hid (HKK26.out.blk HF20.out (by simp <;> omega))
    have HO29 := Lib.hid (HO0.out.kkD HKK26.out HF19.out (by decide))
    have HQ30 := Lib.hid (HQ0.out.kkD HKK26.out HF19.out (by decide))
    have HB31 := Lib.hid (HKK26.out.below HB21.out (fun b hb => by obtain rfl : b = w.heap.size := (by simpa using hb); omega) HB21.out.size)
    clear HB21 HF19 HF20
    generalize ((w4.setCell ⟨w.heap.size, 0, none⟩ (.slice B1 m1 k1)).setCell ⟨w.heap.size, 1, none⟩ (.slice B2 m2 k2)) = w5 at *
    have hc32 : w5.cell? ⟨w.heap.size, 1, none⟩ = some (.slice B2 m2 k2) := by rw [cell_of_row _ _ _ _ _ _ HF27.out]; rfl
    have y1 : (w5.alloc (.cells #[.int .i64 i, .string s] 102 (0, 0))).cell? ⟨w.heap.size, 1, none⟩ = some (.slice B2 m2 k2) := (cell_of_row _ _ 1 _ _ _ (blk_alloc HF27.out _)).trans rfl
    go_wp2_with (at_builtin; refine wpList_appX rfl (.tmp 34) (.tmp 38) 31 102 _ 24 rfl Tryz.underlying31 info_wrB rfl (by omega) (by omega) wrC_len wrC_one w.heap.size w (HB31.out.alloc HB31.out.size (.cells #[.int .i64 i, .string s] 102 (0, 0))) (Nat.le_trans HB31.out.size (by simp)) (.slice B2 m2 k2) CC rfl (HQ30.out.alloc (.cells #[.int .i64 i, .string s] 102 (0, 0))) w5.heap.size 1 (i, s) #[.int .i64 i, .string s] 102 (0, 0) rfl (heap_alloc_new w5 _) rfl (by omega) ?_)
    intro v9 w90 HO9 HB9 _ HG9
    have HFp := Lib.hid ((HQ30.out.alloc (.cells #[.int .i64 i, .string s] 102 (0, 0))).box HG9.out (blk_alloc HF27.out (.cells #[.int .i64 i, .string s] 102 (0, 0))) (Or.inl (by decide)))
    have HFr := Lib.hid ((HQ30.out.alloc (.cells #[.int .i64 i, .string s] 102 (0, 0))).box HG9.out (blk_alloc HF28.out (.cells #[.int .i64 i, .string s] 102 (0, 0))) (Or.inl (by decide)))
    have HP9 := Lib.hid ((HO29.out.alloc (.cells #[.int .i64 i, .string s] 102 (0, 0))).other (HQ30.out.alloc (.cells #[.int .i64 i, .string s] 102 (0, 0))) (by decide) HG9.out)
    obtain ⟨Q1, Q2, Q3, rfl⟩ := HO9.out.sl3
    clear hc32
    clear y1
    have hc33 : w90.cell? ⟨w.heap.size, 1, none⟩ = some (.slice B2 m2 k2) := by rw [cell_of_row _ _ _ _ _ _ HFp.out]; rfl
    have hz34 : w90.frozen? ⟨w.heap.size, 1, none⟩ = false := frozen_of_row _ _ _ _ _ HFp.out
    go_upto_region 12 with (fail)
    clear hc33 hz34
    have HKK35 := Lib.hid ((KK.refl [w.heap.size] w90).set (b := w.heap.size) (by simp) 1 (.slice Q1 Q2 Q3))
    have HF36 := Lib.hid (show (w90.setCell ⟨w.heap.size, 1, none⟩ (.slice Q1 Q2 Q3)).heap[w.heap.size]? = some (.cells #[.slice B1 m1 k1, .slice Q1 Q2 Q3, .int .i64 (stpF ar), .bool (stpD ar), .int .i64 (stpO op ar)] 36 (0, 0)) by have q := heap_setCell_at (i := 1) (u := .slice Q1 Q2 Q3) (HFp.out); exact q)
    have HF37 := Lib.hid (HKK35.out.blk HFr.out (by simp <;> omega))
    have HP38 := Lib.hid (HP9.out.kkD HKK35.out HFp.out (by decide))
    have HO39 := Lib.hid (HO9.out.kkD HKK35.out HFp.out (by decide))
    have HB40 := Lib.hid (HKK35.out.below HB9.out (fun b hb => by obtain rfl : b = w.heap.size := (by simpa using hb); omega) HB9.out.size)
    clear HB9 HFp HFr
    generalize (w90.setCell ⟨w.heap.size, 1, none⟩ (.slice Q1 Q2 Q3)) = w6 at *
    go_wp2_with (first
      | refine wpList_store_rowY rfl 36 (.tmp 6) (.tmp 42) rfl (w.heap.size + 1) #[.slice B1 m1 k1, .slice Q1 Q2 Q3, .int .i64 (stpF ar), .bool (stpD ar), .int .i64 (stpO op ar)] rfl rfl 36 _ HF37.out (info_rd) rfl (by simp [Value.oneCell']) w.heap.size w HB40.out (by omega) ?_
      | refine wpList_load_row rfl 36 (.tmp 3) rfl (w.heap.size) rfl 36 #[.slice B1 m1 k1, .slice Q1 Q2 Q3, .int .i64 (stpF ar), .bool (stpD ar), .int .i64 (stpO op ar)] (0, 0) _ HF36.out Tryz.underlying36 rfl (info_rd) ?_)
    intro w7 hbk hoth hbel _
    have HP41 := Lib.hid (HP38.out.oth hoth.out HF37.out (by decide))
    have HO42 := Lib.hid (HO39.out.oth hoth.out HF37.out (by decide))
    have HF43 := Lib.hid (blk_oth HF36.out hoth.out (by omega))
    have HF44 := Lib.hid hbk.out
    have HB45 := Lib.hid hbel.out
    clear hbk hoth hbel HB40 HF36 HF37
    go_wp2_with fail
    rw [HE1.out, HE2.out]
    refine bodyPost_ret (results_ctY rfl _ _ (w.heap.size + 1) #[.slice B1 m1 k1, .slice Q1 Q2 Q3, .int .i64 (stpF ar), .bool (stpD ar), .int .i64 (stpO op ar)] rfl (run_loadVar_row _ (w.heap.size + 1) 36 36 _ (0, 0) _ HF44.out Tryz.underlying36 rfl (by kernel_rfl))) rfl ?_
    exact ⟨_, rfl, ⟨_, _, _, Q1, Q2, Q3, rfl, OwX.rdP stC_len HP.out HP41.out, OwX.rdP wrC_len HP.out HO42.out⟩, HB45.out⟩
set_option maxRecDepth 100000 in
set_option maxHeartbeats 4000000 in
theorem rflush_up (P : Nat → Prop) (SS : List ByteArray) (CC : List Wr) (ar : Int) (op : Int) (A : Option Addr) (n c : Nat) (A2 : Option Addr) (n2 c2 : Nat) (w : World) (h1 : RdP P stC 1 w A n SS) (h2 : RdP P wrC 2 w A2 n2 CC) (hok : ∀ x ∈ CC, 0 ≤ x.1 ∧ x.1 < (SS.length : Int) ∧ x.2.size = 128) (ha : 0 ≤ ar ∧ ar ≤ 9223372036854775807) (ho : -1000000000 ≤ op ∧ op ≤ 1000000000) (hn : n ≤ 100000) (hn2 : n2 ≤ 100000) (hP : ∀ b, w.heap.size ≤ b → P b) :
    Calls Tryz.prog 92 #[rdv A n c A2 n2 c2 ar false op] w (RetDI P ⟨flsS ar SS CC, stpC ar CC, stpF ar, stpD ar, stpO op ar⟩ (stpE ar) w) := by
  have H1 := Lib.hid h1
  have H2 := Lib.hid h2
  have HL := Lib.hid h1.1.1
  clear h1 h2
  have HP := Lib.hid hP
  have HOK := Lib.hid hok
  clear hP hok
  by_cases hq : ar = 1
  · have HD2 := Lib.hid (show decide (ar = 1) = true from decide_eq_true hq)
    have HE1 := Lib.hid (show stpC ar CC = CC by unfold stpC; rw [if_pos hq])
    have HE2 := Lib.hid (show stpE ar = 7 by unfold stpE; rw [if_pos hq])
    have HE3 := Lib.hid (show flsS ar SS CC = SS from if_pos hq)
    clear hq
    have HB1 := Lib.hid (Below.refl w.heap.size w)
    have HF2 := Lib.hid (blk_new w (.cells #[.slice A n c, .slice A2 n2 c2, .int .i64 ar, .bool false, .int .i64 op] 36 (0, 0)))
    have HB3 := Lib.hid (HB1.out.alloc HB1.out.size (.cells #[.slice A n c, .slice A2 n2 c2, .int .i64 ar, .bool false, .int .i64 op] 36 (0, 0)))
    clear HB1
    have HF4 := Lib.hid (blk_alloc HF2.out (.cells #[.slice none 0 0, .slice none 0 0, .int .i64 0, .bool false, .int .i64 0] 36 (0, 0)))
    clear HF2
    have HF5 : Hid (((w.alloc (.cells #[.slice A n c, .slice A2 n2 c2, .int .i64 ar, .bool false, .int .i64 op] 36 (0, 0))).alloc (.cells #[.slice none 0 0, .slice none 0 0, .int .i64 0, .bool false, .int .i64 0] 36 (0, 0))).heap[w.heap.size + 1]? = some (.cells #[.slice none 0 0, .slice none 0 0, .int .i64 0, .bool false, .int .i64 0] 36 (0, 0))) := Lib.hid (blk_newN (W := (w.alloc (.cells #[.slice A n c, .slice A2 n2 c2, .int .i64 ar, .bool false, .int .i64 op] 36 (0, 0)))) (o := (.cells #[.slice none 0 0, .slice none 0 0, .int .i64 0, .bool false, .int .i64 0] 36 (0, 0))) (by simp))
    have HB6 := Lib.hid (HB3.out.alloc (by have := HB3.out.size; simp at this ⊢ <;> omega) (.cells #[.slice none 0 0, .slice none 0 0, .int .i64 0, .bool false, .int .i64 0] 36 (0, 0)))
    clear HB3
    obtain ⟨v, hv⟩ : ∃ v, v = ((w.alloc (.cells #[.slice A n c, .slice A2 n2 c2, .int .i64 ar, .bool false, .int .i64 op] 36 (0, 0))).alloc (.cells #[.slice none 0 0, .slice none 0 0, .int .i64 0, .bool false, .int .i64 0] 36 (0, 0))) := ⟨_, rfl⟩
    have HVv := Lib.hid hv
    rw [← hv] at HF4 HF5 HB6
    clear hv
    go_enter Tryz.func92, Tryz.ntmps92
    go_upto_region 1 with (fail)
    rw [← HVv.out]
    have hc7 : v.cell? ⟨w.heap.size, 3, none⟩ = some (.bool false) := by rw [cell_of_row _ _ _ _ _ _ HF4.out]; rfl
    have HST := rstep_any ⟨SS, CC, ar, false, op⟩ A n c A2 n2 c2 v ha ho
    unfold StepP at HST
    rw [step_false] at HST
    dsimp only at HST
    rw [HD2.out] at HST
    have HST := Lib.hid HST
    go_wp2_with (refine wpList_load_row rfl 36 (.tmp 1) rfl (w.heap.size) rfl 36 #[.slice A n c, .slice A2 n2 c2, .int .i64 ar, .bool false, .int .i64 op] (0, 0) _ HF4.out Tryz.underlying36 rfl (info_rd) ?_)
    refine (HST.out).mono ?_
    rintro e w1 ⟨rfl, hb1⟩
    clear hc7
    have HF8 := Lib.hid (blk_below HF4.out hb1)
    have HF9 := Lib.hid (blk_below HF5.out hb1)
    have HB10 := Lib.hid (HB6.out.trans (hb1.mono HB6.out.size))
    clear hb1 HB6 HF4 HF5
    clear HST
    go_wp2_with (first
      | refine wpList_store_rowY rfl 36 (.tmp 1) (.tmp 11) rfl (w.heap.size) #[.slice A n c, .slice A2 n2 c2, .int .i64 (stpF ar), .bool (stpD ar), .int .i64 (stpO op ar)] rfl rfl 36 _ HF8.out (info_rd) rfl (by simp [Value.oneCell']) w.heap.size w HB10.out (by omega) ?_)
    intro w2 hbk hoth hbel _
    have HF11 := Lib.hid hbk.out
    have HF12 := Lib.hid (blk_oth HF9.out hoth.out (by omega))
    have HB13 := Lib.hid hbel.out
    clear hbk hoth hbel HB10 HF8 HF9
    go_upto_region 5 with (fail)
    go_wp2_with (first
      | refine wpList_store_rowY rfl 36 (.tmp 2) (.tmp 14) rfl (w.heap.size + 1) #[.slice A n c, .slice A2 n2 c2, .int .i64 (stpF ar), .bool (stpD ar), .int .i64 (stpO op ar)] rfl rfl 36 _ HF12.out (info_rd) rfl (by simp [Value.oneCell']) w.heap.size w HB13.out (by omega) ?_
      | refine wpList_load_row rfl 36 (.tmp 1) rfl (w.heap.size) rfl 36 #[.slice A n c, .slice A2 n2 c2, .int .i64 (stpF ar), .bool (stpD ar), .int .i64 (stpO op ar)] (0, 0) _ HF11.out Tryz.underlying36 rfl (info_rd) ?_)
    intro w3 hbk hoth hbel _
    have HF14 := Lib.hid (blk_oth HF11.out hoth.out (by omega))
    have HF15 := Lib.hid hbk.out
    have HB16 := Lib.hid hbel.out
    clear hbk hoth hbel HB13 HF11 HF12
    go_wp2_with fail
    rw [HE1.out, HE2.out, HE3.out]
    refine bodyPost_ret (results_ctY rfl _ _ (w.heap.size + 1) #[.slice A n c, .slice A2 n2 c2, .int .i64 (stpF ar), .bool (stpD ar), .int .i64 (stpO op ar)] rfl (run_loadVar_row _ (w.heap.size + 1) 36 36 _ (0, 0) _ HF15.out Tryz.underlying36 rfl (by kernel_rfl))) rfl ?_
    exact ⟨_, rfl, ⟨A, n, c, A2, n2, c2, rfl, H1.out.below HB16.out, H2.out.below HB16.out⟩, HB16.out⟩
  · have HD2 := Lib.hid (show decide (ar = 1) = false from decide_eq_false hq)
    have HE1 := Lib.hid (show stpC ar CC = [] by unfold stpC; rw [if_neg hq])
    have HE2 := Lib.hid (show stpE ar = 0 by unfold stpE; rw [if_neg hq])
    have HE3 := Lib.hid (show flsS ar SS CC = setP allK 0 CC SS from if_neg hq)
    clear hq
    have HB1 := Lib.hid (Below.refl w.heap.size w)
    have HF2 := Lib.hid (blk_new w (.cells #[.slice A n c, .slice A2 n2 c2, .int .i64 ar, .bool false, .int .i64 op] 36 (0, 0)))
    have HB3 := Lib.hid (HB1.out.alloc HB1.out.size (.cells #[.slice A n c, .slice A2 n2 c2, .int .i64 ar, .bool false, .int .i64 op] 36 (0, 0)))
    clear HB1
    have HF4 := Lib.hid (blk_alloc HF2.out (.cells #[.slice none 0 0, .slice none 0 0, .int .i64 0, .bool false, .int .i64 0] 36 (0, 0)))
    clear HF2
    have HF5 : Hid (((w.alloc (.cells #[.slice A n c, .slice A2 n2 c2, .int .i64 ar, .bool false, .int .i64 op] 36 (0, 0))).alloc (.cells #[.slice none 0 0, .slice none 0 0, .int .i64 0, .bool false, .int .i64 0] 36 (0, 0))).heap[w.heap.size + 1]? = some (.cells #[.slice none 0 0, .slice none 0 0, .int .i64 0, .bool false, .int .i64 0] 36 (0, 0))) := Lib.hid (blk_newN (W := (w.alloc (.cells #[.slice A n c, .slice A2 n2 c2, .int .i64 ar, .bool false, .int .i64 op] 36 (0, 0)))) (o := (.cells #[.slice none 0 0, .slice none 0 0, .int .i64 0, .bool false, .int .i64 0] 36 (0, 0))) (by simp))
    have HB6 := Lib.hid (HB3.out.alloc (by have := HB3.out.size; simp at this ⊢ <;> omega) (.cells #[.slice none 0 0, .slice none 0 0, .int .i64 0, .bool false, .int .i64 0] 36 (0, 0)))
    clear HB3
    obtain ⟨v, hv⟩ : ∃ v, v = ((w.alloc (.cells #[.slice A n c, .slice A2 n2 c2, .int .i64 ar, .bool false, .int .i64 op] 36 (0, 0))).alloc (.cells #[.slice none 0 0, .slice none 0 0, .int .i64 0, .bool false, .int .i64 0] 36 (0, 0))) := ⟨_, rfl⟩
    have HVv := Lib.hid hv
    rw [← hv] at HF4 HF5 HB6
    clear hv
    go_enter Tryz.func92, Tryz.ntmps92
    go_upto_region 1 with (fail)
    rw [← HVv.out]
    have hc7 : v.cell? ⟨w.heap.size, 3, none⟩ = some (.bool false) := by rw [cell_of_row _ _ _ _ _ _ HF4.out]; rfl
    have HST := rstep_any ⟨SS, CC, ar, false, op⟩ A n c A2 n2 c2 v ha ho
    unfold StepP at HST
    rw [step_false] at HST
    dsimp only at HST
    rw [HD2.out] at HST
    have HST := Lib.hid HST
    go_wp2_with (refine wpList_load_row rfl 36 (.tmp 1) rfl (w.heap.size) rfl 36 #[.slice A n c, .slice A2 n2 c2, .int .i64 ar, .bool false, .int .i64 op] (0, 0) _ HF4.out Tryz.underlying36 rfl (info_rd) ?_)
    refine (HST.out).mono ?_
    rintro e w1 ⟨rfl, hb1⟩
    clear hc7
    have HF8 := Lib.hid (blk_below HF4.out hb1)
    have HF9 := Lib.hid (blk_below HF5.out hb1)
    have HB10 := Lib.hid (HB6.out.trans (hb1.mono HB6.out.size))
    clear hb1 HB6 HF4 HF5
    clear HST
    go_wp2_with (first
      | refine wpList_store_rowY rfl 36 (.tmp 1) (.tmp 11) rfl (w.heap.size) #[.slice A n c, .slice A2 n2 c2, .int .i64 (stpF ar), .bool (stpD ar), .int .i64 (stpO op ar)] rfl rfl 36 _ HF8.out (info_rd) rfl (by simp [Value.oneCell']) w.heap.size w HB10.out (by omega) ?_)
    intro w2 hbk hoth hbel _
    have HF11 := Lib.hid hbk.out
    have HF12 := Lib.hid (blk_oth HF9.out hoth.out (by omega))
    have HB13 := Lib.hid hbel.out
    clear hbk hoth hbel HB10 HF8 HF9
    have hc14 : w2.cell? ⟨w.heap.size, 0, none⟩ = some (.slice A n c) := by rw [cell_of_row _ _ _ _ _ _ HF11.out]; rfl
    have hc15 : w2.cell? ⟨w.heap.size, 1, none⟩ = some (.slice A2 n2 c2) := by rw [cell_of_row _ _ _ _ _ _ HF11.out]; rfl
    have HDN := Lib.hid (rdone_all A n c A2 n2 c2 (.slice none 0 0) SS CC w2 (H1.out.1.below HB13.out) (H2.out.1.below HB13.out) HOK.out hn hn2)
    go_wp2_with fail
    refine (HDN.out).mono ?_
    rintro e w3 ⟨B1, m1, k1, rfl, ho1, hb3⟩
    clear hc14 hc15
    have HF16 := Lib.hid (blk_below HF11.out hb3)
    have HF17 := Lib.hid (blk_below HF12.out hb3)
    have HB18 := Lib.hid (HB13.out.trans (hb3.mono HB13.out.size))
    have HO0 := Lib.hid (ho1.mono (B' := w.heap.size) HB13.out.size)
    clear hb3 HB13 HF11 HF12
    clear HDN ho1
    have hc19 : w3.cell? ⟨w.heap.size, 0, none⟩ = some (.slice A n c) := by rw [cell_of_row _ _ _ _ _ _ HF16.out]; rfl
    have hc20 : w3.cell? ⟨w.heap.size, 1, none⟩ = some (.slice A2 n2 c2) := by rw [cell_of_row _ _ _ _ _ _ HF16.out]; rfl
    have hz21 : w3.frozen? ⟨w.heap.size, 0, none⟩ = false := frozen_of_row _ _ _ _ _ HF16.out
    have hz22 : w3.frozen? ⟨w.heap.size, 1, none⟩ = false := frozen_of_row _ _ _ _ _ HF16.out
    go_upto_region 7 with (fail)
    clear hc19 hc20 hz21 hz22
    have HKK23 := Lib.hid (((KK.refl [w.heap.size] w3).set (b := w.heap.size) (by simp) 0 (.slice B1 m1 k1)).set (b := w.heap.size) (by simp) 1 (.slice none 0 0))
    have HF24 := Lib.hid (show ((w3.setCell ⟨w.heap.size, 0, none⟩ (.slice B1 m1 k1)).setCell ⟨w.heap.size, 1, none⟩ (.slice none 0 0)).heap[w.heap.size]? = some (.cells #[.slice B1 m1 k1, .slice none 0 0, .int .i64 (stpF ar), .bool (stpD ar), .int .i64 (stpO op ar)] 36 (0, 0)) by have q := heap_setCell_at (i := 1) (u := .slice none 0 0) (heap_setCell_at (i := 0) (u := .slice B1 m1 k1) (HF16.out)); exact q)
    have HF25 := Lib.hid (HKK23.out.blk HF17.out (by simp <;> omega))
    have HO26 := Lib.hid (HO0.out.kkD HKK23.out HF16.out (by decide))
    have HB27 := Lib.hid (HKK23.out.below HB18.out (fun b hb => by obtain rfl : b = w.heap.size := (by simpa using hb); omega) HB18.out.size)
    clear HB18 HF16 HF17
    generalize ((w3.setCell ⟨w.heap.size, 0, none⟩ (.slice B1 m1 k1)).setCell ⟨w.heap.size, 1, none⟩ (.slice none 0 0)) = w4 at *
    go_wp2_with (first
      | refine wpList_store_rowY rfl 36 (.tmp 2) (.tmp 19) rfl (w.heap.size + 1) #[.slice B1 m1 k1, .slice none 0 0, .int .i64 (stpF ar), .bool (stpD ar), .int .i64 (stpO op ar)] rfl rfl 36 _ HF25.out (info_rd) rfl (by simp [Value.oneCell']) w.heap.size w HB27.out (by omega) ?_
      | refine wpList_load_row rfl 36 (.tmp 1) rfl (w.heap.size) rfl 36 #[.slice B1 m1 k1, .slice none 0 0, .int .i64 (stpF ar), .bool (stpD ar), .int .i64 (stpO op ar)] (0, 0) _ HF24.out Tryz.underlying36 rfl (info_rd) ?_)
    intro w5 hbk hoth hbel _
    have HO28 := Lib.hid (HO26.out.oth hoth.out HF25.out (by decide))
    have HF29 := Lib.hid (blk_oth HF24.out hoth.out (by omega))
    have HF30 := Lib.hid hbk.out
    have HB31 := Lib.hid hbel.out
    clear hbk hoth hbel HB27 HF24 HF25
    go_wp2_with fail
    rw [HE1.out, HE2.out, HE3.out]
    refine bodyPost_ret (results_ctY rfl _ _ (w.heap.size + 1) #[.slice B1 m1 k1, .slice none 0 0, .int .i64 (stpF ar), .bool (stpD ar), .int .i64 (stpO op ar)] rfl (run_loadVar_row _ (w.heap.size + 1) 36 36 _ (0, 0) _ HF30.out Tryz.underlying36 rfl (by kernel_rfl))) rfl ?_
    exact ⟨_, rfl, ⟨_, _, _, none, 0, 0, rfl, OwX.rdP stC_len HP.out HO28.out, ⟨RdX.nil, fun h => by omega⟩⟩, HB31.out⟩
set_option maxRecDepth 100000 in
set_option maxHeartbeats 4000000 in
theorem rcrash_any (P : Nat → Prop) (SS : List ByteArray) (CC : List Wr) (ar : Int) (go : Bool) (op : Int) (A : Option Addr) (n c : Nat) (A2 : Option Addr) (n2 c2 : Nat) (A3 : Option Addr) (n3' c3 : Nat) (ks : List Int) (w : World) (h1 : RdP P stC 1 w A n SS) (h2 : RdP P wrC 2 w A2 n2 CC) (hok : ∀ x ∈ CC, 0 ≤ x.1 ∧ x.1 < (SS.length : Int) ∧ x.2.size = 128) (hk : RdX inC 1 w A3 n3' ks) (hn3 : n3' ≤ maxLen) (hn : n ≤ 100000) (hn2 : n2 ≤ 100000) (hP : ∀ b, w.heap.size ≤ b → P b) :
    Calls Tryz.prog 45 #[rdv A n c A2 n2 c2 ar go op, .slice A3 n3' c3] w (RetD P ⟨setP (inK ks) 0 CC SS, [], 0, true, op⟩ w) := by
  have H1 := Lib.hid h1
  have H2 := Lib.hid h2
  have HL := Lib.hid h1.1.1
  clear h1 h2
  have HP := Lib.hid hP
  have HOK := Lib.hid hok
  have HKS := Lib.hid hk
  clear hk
  clear hP hok
  have HB1 := Lib.hid (Below.refl w.heap.size w)
  have HF2 := Lib.hid (blk_new w (.cells #[.slice A n c, .slice A2 n2 c2, .int .i64 ar, .bool go, .int .i64 op] 36 (0, 0)))
  have HB3 := Lib.hid (HB1.out.alloc HB1.out.size (.cells #[.slice A n c, .slice A2 n2 c2, .int .i64 ar, .bool go, .int .i64 op] 36 (0, 0)))
  clear HB1
  have HF4 := Lib.hid (blk_alloc HF2.out (.cells #[.slice none 0 0, .slice none 0 0, .int .i64 0, .bool false, .int .i64 0] 36 (0, 0)))
  clear HF2
  have HF5 : Hid (((w.alloc (.cells #[.slice A n c, .slice A2 n2 c2, .int .i64 ar, .bool go, .int .i64 op] 36 (0, 0))).alloc (.cells #[.slice none 0 0, .slice none 0 0, .int .i64 0, .bool false, .int .i64 0] 36 (0, 0))).heap[w.heap.size + 1]? = some (.cells #[.slice none 0 0, .slice none 0 0, .int .i64 0, .bool false, .int .i64 0] 36 (0, 0))) := Lib.hid (blk_newN (W := (w.alloc (.cells #[.slice A n c, .slice A2 n2 c2, .int .i64 ar, .bool go, .int .i64 op] 36 (0, 0)))) (o := (.cells #[.slice none 0 0, .slice none 0 0, .int .i64 0, .bool false, .int .i64 0] 36 (0, 0))) (by simp))
  have HB6 := Lib.hid (HB3.out.alloc (by have := HB3.out.size; simp at this ⊢ <;> omega) (.cells #[.slice none 0 0, .slice none 0 0, .int .i64 0, .bool false, .int .i64 0] 36 (0, 0)))
  clear HB3
  obtain ⟨v, hv⟩ : ∃ v, v = ((w.alloc (.cells #[.slice A n c, .slice A2 n2 c2, .int .i64 ar, .bool go, .int .i64 op] 36 (0, 0))).alloc (.cells #[.slice none 0 0, .slice none 0 0, .int .i64 0, .bool false, .int .i64 0] 36 (0, 0))) := ⟨_, rfl⟩
  have HVv := Lib.hid hv
  rw [← hv] at HF4 HF5 HB6
  clear hv
  go_enter Tryz.func45, Tryz.ntmps45
  go_upto_region 1 with (fail)
  rw [← HVv.out]
  have hc7 : v.cell? ⟨w.heap.size, 0, none⟩ = some (.slice A n c) := by rw [cell_of_row _ _ _ _ _ _ HF4.out]; rfl
  have hc8 : v.cell? ⟨w.heap.size, 1, none⟩ = some (.slice A2 n2 c2) := by rw [cell_of_row _ _ _ _ _ _ HF4.out]; rfl
  have HDN := Lib.hid (rdone_keep A n c A2 n2 c2 A3 n3' c3 ks SS CC v (H1.out.1.below HB6.out) (H2.out.1.below HB6.out) (HKS.out.below HB6.out) hn3 HOK.out hn hn2)
  go_wp2_with fail
  refine (HDN.out).mono ?_
  rintro e w1 ⟨B1, m1, k1, rfl, ho1, hb1⟩
  clear hc7 hc8
  have HF9 := Lib.hid (blk_below HF4.out hb1)
  have HF10 := Lib.hid (blk_below HF5.out hb1)
  have HB11 := Lib.hid (HB6.out.trans (hb1.mono HB6.out.size))
  have HO0 := Lib.hid (ho1.mono (B' := w.heap.size) HB6.out.size)
  clear hb1 HB6 HF4 HF5
  clear HDN ho1
  have hc12 : w1.cell? ⟨w.heap.size, 0, none⟩ = some (.slice A n c) := by rw [cell_of_row _ _ _ _ _ _ HF9.out]; rfl
  have hc13 : w1.cell? ⟨w.heap.size, 1, none⟩ = some (.slice A2 n2 c2) := by rw [cell_of_row _ _ _ _ _ _ HF9.out]; rfl
  have hz14 : w1.frozen? ⟨w.heap.size, 0, none⟩ = false := frozen_of_row _ _ _ _ _ HF9.out
  have hz15 : w1.frozen? ⟨w.heap.size, 1, none⟩ = false := frozen_of_row _ _ _ _ _ HF9.out
  have hc16 : w1.cell? ⟨w.heap.size, 2, none⟩ = some (.int .i64 ar) := by rw [cell_of_row _ _ _ _ _ _ HF9.out]; rfl
  have hc17 : w1.cell? ⟨w.heap.size, 3, none⟩ = some (.bool go) := by rw [cell_of_row _ _ _ _ _ _ HF9.out]; rfl
  have hz18 : w1.frozen? ⟨w.heap.size, 2, none⟩ = false := frozen_of_row _ _ _ _ _ HF9.out
  have hz19 : w1.frozen? ⟨w.heap.size, 3, none⟩ = false := frozen_of_row _ _ _ _ _ HF9.out
  go_upto_region 4 with (fail)
  clear hc12 hc13 hz14 hz15 hc16 hc17 hz18 hz19
  have HKK20 := Lib.hid (((((KK.refl [w.heap.size] w1).set (b := w.heap.size) (by simp) 0 (.slice B1 m1 k1)).set (b := w.heap.size) (by simp) 1 (.slice none 0 0)).set (b := w.heap.size) (by simp) 3 (.bool true)).set (b := w.heap.size) (by simp) 2 (.int .i64 0))
  have HF21 := Lib.hid (show ((((w1.setCell ⟨w.heap.size, 0, none⟩ (.slice B1 m1 k1)).setCell ⟨w.heap.size, 1, none⟩ (.slice none 0 0)).setCell ⟨w.heap.size, 3, none⟩ (.bool true)).setCell ⟨w.heap.size, 2, none⟩ (.int .i64 0)).heap[w.heap.size]? = some (.cells #[.slice B1 m1 k1, .slice none 0 0, .int .i64 0, .bool true, .int .i64 op] 36 (0, 0)) by have q := heap_setCell_at (i := 2) (u := .int .i64 0) (heap_setCell_at (i := 3) (u := .bool true) (heap_setCell_at (i := 1) (u := .slice none 0 0) (heap_setCell_at (i := 0) (u := .slice B1 m1 k1) (HF9.out)))); exact q)
  have HF22 := Lib.hid (HKK20.out.blk HF10.out (by simp <;> omega))
  have HO23 := Lib.hid (HO0.out.kkD HKK20.out HF9.out (by decide))
  have HB24 := Lib.hid (HKK20.out.below HB11.out (fun b hb => by obtain rfl : b = w.heap.size := (by simpa using hb); omega) HB11.out.size)
  clear HB11 HF9 HF10
  generalize ((((w1.setCell ⟨w.heap.size, 0, none⟩ (.slice B1 m1 k1)).setCell ⟨w.heap.size, 1, none⟩ (.slice none 0 0)).setCell ⟨w.heap.size, 3, none⟩ (.bool true)).setCell ⟨w.heap.size, 2, none⟩ (.int .i64 0)) = w2 at *
  go_wp2_with (first
    | refine wpList_store_rowY rfl 36 (.tmp 4) (.tmp 12) rfl (w.heap.size + 1) #[.slice B1 m1 k1, .slice none 0 0, .int .i64 0, .bool true, .int .i64 op] rfl rfl 36 _ HF22.out (info_rd) rfl (by simp [Value.oneCell']) w.heap.size w HB24.out (by omega) ?_
    | refine wpList_load_row rfl 36 (.tmp 2) rfl (w.heap.size) rfl 36 #[.slice B1 m1 k1, .slice none 0 0, .int .i64 0, .bool true, .int .i64 op] (0, 0) _ HF21.out Tryz.underlying36 rfl (info_rd) ?_)
  intro w3 hbk hoth hbel _
  have HO25 := Lib.hid (HO23.out.oth hoth.out HF22.out (by decide))
  have HF26 := Lib.hid (blk_oth HF21.out hoth.out (by omega))
  have HF27 := Lib.hid hbk.out
  have HB28 := Lib.hid hbel.out
  clear hbk hoth hbel HB24 HF21 HF22
  go_wp2_with fail
  refine bodyPost_ret (results_cY rfl _ _ (w.heap.size + 1) #[.slice B1 m1 k1, .slice none 0 0, .int .i64 0, .bool true, .int .i64 op] rfl (run_loadVar_row _ (w.heap.size + 1) 36 36 _ (0, 0) _ HF27.out Tryz.underlying36 rfl (by kernel_rfl))) rfl ?_
  exact ⟨_, rfl, ⟨_, _, _, none, 0, 0, rfl, OwX.rdP stC_len HP.out HO25.out, ⟨RdX.nil, fun h => by omega⟩⟩, HB28.out⟩
set_option maxRecDepth 100000 in
set_option maxHeartbeats 4000000 in
theorem rboot_any (P : Nat → Prop) (SS : List ByteArray) (CC : List Wr) (ar : Int) (go : Bool) (op : Int) (A : Option Addr) (n c : Nat) (A2 : Option Addr) (n2 c2 : Nat) (w : World) (h1 : RdP P stC 1 w A n SS) (h2 : RdP P wrC 2 w A2 n2 CC) (hok : ∀ x ∈ CC, 0 ≤ x.1 ∧ x.1 < (SS.length : Int) ∧ x.2.size = 128) (hn : n ≤ 100000) (hn2 : n2 ≤ 100000) (hP : ∀ b, w.heap.size ≤ b → P b) :
    Calls Tryz.prog 44 #[rdv A n c A2 n2 c2 ar go op] w (RetD P ⟨setP (inK []) 0 CC SS, [], 0, false, op⟩ w) := by
  have H1 := Lib.hid h1
  have H2 := Lib.hid h2
  have HL := Lib.hid h1.1.1
  clear h1 h2
  have HP := Lib.hid hP
  have HOK := Lib.hid hok
  clear hP hok
  have HB1 := Lib.hid (Below.refl w.heap.size w)
  have HF2 := Lib.hid (blk_new w (.cells #[.slice A n c, .slice A2 n2 c2, .int .i64 ar, .bool go, .int .i64 op] 36 (0, 0)))
  have HB3 := Lib.hid (HB1.out.alloc HB1.out.size (.cells #[.slice A n c, .slice A2 n2 c2, .int .i64 ar, .bool go, .int .i64 op] 36 (0, 0)))
  clear HB1
  have HF4 := Lib.hid (blk_alloc HF2.out (.cells #[.slice none 0 0, .slice none 0 0, .int .i64 0, .bool false, .int .i64 0] 36 (0, 0)))
  clear HF2
  have HF5 : Hid (((w.alloc (.cells #[.slice A n c, .slice A2 n2 c2, .int .i64 ar, .bool go, .int .i64 op] 36 (0, 0))).alloc (.cells #[.slice none 0 0, .slice none 0 0, .int .i64 0, .bool false, .int .i64 0] 36 (0, 0))).heap[w.heap.size + 1]? = some (.cells #[.slice none 0 0, .slice none 0 0, .int .i64 0, .bool false, .int .i64 0] 36 (0, 0))) := Lib.hid (blk_newN (W := (w.alloc (.cells #[.slice A n c, .slice A2 n2 c2, .int .i64 ar, .bool go, .int .i64 op] 36 (0, 0)))) (o := (.cells #[.slice none 0 0, .slice none 0 0, .int .i64 0, .bool false, .int .i64 0] 36 (0, 0))) (by simp))
  have HB6 := Lib.hid (HB3.out.alloc (by have := HB3.out.size; simp at this ⊢ <;> omega) (.cells #[.slice none 0 0, .slice none 0 0, .int .i64 0, .bool false, .int .i64 0] 36 (0, 0)))
  clear HB3
  obtain ⟨v, hv⟩ : ∃ v, v = ((w.alloc (.cells #[.slice A n c, .slice A2 n2 c2, .int .i64 ar, .bool go, .int .i64 op] 36 (0, 0))).alloc (.cells #[.slice none 0 0, .slice none 0 0, .int .i64 0, .bool false, .int .i64 0] 36 (0, 0))) := ⟨_, rfl⟩
  have HVv := Lib.hid hv
  rw [← hv] at HF4 HF5 HB6
  clear hv
  go_enter Tryz.func44, Tryz.ntmps44
  go_upto_region 1 with (fail)
  rw [← HVv.out]
  have hc7 : v.cell? ⟨w.heap.size, 0, none⟩ = some (.slice A n c) := by rw [cell_of_row _ _ _ _ _ _ HF4.out]; rfl
  have hc8 : v.cell? ⟨w.heap.size, 1, none⟩ = some (.slice A2 n2 c2) := by rw [cell_of_row _ _ _ _ _ _ HF4.out]; rfl
  have HDN := Lib.hid (rdone_keep A n c A2 n2 c2 none 0 0 [] SS CC v (H1.out.1.below HB6.out) (H2.out.1.below HB6.out) RdX.nil (Nat.zero_le _) HOK.out hn hn2)
  go_wp2_with fail
  refine (HDN.out).mono ?_
  rintro e w1 ⟨B1, m1, k1, rfl, ho1, hb1⟩
  clear hc7 hc8
  have HF9 := Lib.hid (blk_below HF4.out hb1)
  have HF10 := Lib.hid (blk_below HF5.out hb1)
  have HB11 := Lib.hid (HB6.out.trans (hb1.mono HB6.out.size))
  have HO0 := Lib.hid (ho1.mono (B' := w.heap.size) HB6.out.size)
  clear hb1 HB6 HF4 HF5
  clear HDN ho1
  have hc12 : w1.cell? ⟨w.heap.size, 0, none⟩ = some (.slice A n c) := by rw [cell_of_row _ _ _ _ _ _ HF9.out]; rfl
  have hc13 : w1.cell? ⟨w.heap.size, 1, none⟩ = some (.slice A2 n2 c2) := by rw [cell_of_row _ _ _ _ _ _ HF9.out]; rfl
  have hz14 : w1.frozen? ⟨w.heap.size, 0, none⟩ = false := frozen_of_row _ _ _ _ _ HF9.out
  have hz15 : w1.frozen? ⟨w.heap.size, 1, none⟩ = false := frozen_of_row _ _ _ _ _ HF9.out
  have hc16 : w1.cell? ⟨w.heap.size, 2, none⟩ = some (.int .i64 ar) := by rw [cell_of_row _ _ _ _ _ _ HF9.out]; rfl
  have hc17 : w1.cell? ⟨w.heap.size, 3, none⟩ = some (.bool go) := by rw [cell_of_row _ _ _ _ _ _ HF9.out]; rfl
  have hz18 : w1.frozen? ⟨w.heap.size, 2, none⟩ = false := frozen_of_row _ _ _ _ _ HF9.out
  have hz19 : w1.frozen? ⟨w.heap.size, 3, none⟩ = false := frozen_of_row _ _ _ _ _ HF9.out
  go_upto_region 4 with (fail)
  clear hc12 hc13 hz14 hz15 hc16 hc17 hz18 hz19
  have HKK20 := Lib.hid (((((KK.refl [w.heap.size] w1).set (b := w.heap.size) (by simp) 0 (.slice B1 m1 k1)).set (b := w.heap.size) (by simp) 1 (.slice none 0 0)).set (b := w.heap.size) (by simp) 3 (.bool false)).set (b := w.heap.size) (by simp) 2 (.int .i64 0))
  have HF21 := Lib.hid (show ((((w1.setCell ⟨w.heap.size, 0, none⟩ (.slice B1 m1 k1)).setCell ⟨w.heap.size, 1, none⟩ (.slice none 0 0)).setCell ⟨w.heap.size, 3, none⟩ (.bool false)).setCell ⟨w.heap.size, 2, none⟩ (.int .i64 0)).heap[w.heap.size]? = some (.cells #[.slice B1 m1 k1, .slice none 0 0, .int .i64 0, .bool false, .int .i64 op] 36 (0, 0)) by have q := heap_setCell_at (i := 2) (u := .int .i64 0) (heap_setCell_at (i := 3) (u := .bool false) (heap_setCell_at (i := 1) (u := .slice none 0 0) (heap_setCell_at (i := 0) (u := .slice B1 m1 k1) (HF9.out)))); exact q)
  have HF22 := Lib.hid (HKK20.out.blk HF10.out (by simp <;> omega))
  have HO23 := Lib.hid (HO0.out.kkD HKK20.out HF9.out (by decide))
  have HB24 := Lib.hid (HKK20.out.below HB11.out (fun b hb => by obtain rfl : b = w.heap.size := (by simpa using hb); omega) HB11.out.size)
  clear HB11 HF9 HF10
  generalize ((((w1.setCell ⟨w.heap.size, 0, none⟩ (.slice B1 m1 k1)).setCell ⟨w.heap.size, 1, none⟩ (.slice none 0 0)).setCell ⟨w.heap.size, 3, none⟩ (.bool false)).setCell ⟨w.heap.size, 2, none⟩ (.int .i64 0)) = w2 at *
  go_wp2_with (first
    | refine wpList_store_rowY rfl 36 (.tmp 2) (.tmp 9) rfl (w.heap.size + 1) #[.slice B1 m1 k1, .slice none 0 0, .int .i64 0, .bool false, .int .i64 op] rfl rfl 36 _ HF22.out (info_rd) rfl (by simp [Value.oneCell']) w.heap.size w HB24.out (by omega) ?_
    | refine wpList_load_row rfl 36 (.tmp 1) rfl (w.heap.size) rfl 36 #[.slice B1 m1 k1, .slice none 0 0, .int .i64 0, .bool false, .int .i64 op] (0, 0) _ HF21.out Tryz.underlying36 rfl (info_rd) ?_)
  intro w3 hbk hoth hbel _
  have HO25 := Lib.hid (HO23.out.oth hoth.out HF22.out (by decide))
  have HF26 := Lib.hid (blk_oth HF21.out hoth.out (by omega))
  have HF27 := Lib.hid hbk.out
  have HB28 := Lib.hid hbel.out
  clear hbk hoth hbel HB24 HF21 HF22
  go_wp2_with fail
  refine bodyPost_ret (results_cY rfl _ _ (w.heap.size + 1) #[.slice B1 m1 k1, .slice none 0 0, .int .i64 0, .bool false, .int .i64 op] rfl (run_loadVar_row _ (w.heap.size + 1) 36 36 _ (0, 0) _ HF27.out Tryz.underlying36 rfl (by kernel_rfl))) rfl ?_
  exact ⟨_, rfl, ⟨_, _, _, none, 0, 0, rfl, OwX.rdP stC_len HP.out HO25.out, ⟨RdX.nil, fun h => by omega⟩⟩, HB28.out⟩
end Go.Proofs.YtiflieaemgamkaaGreatDoor

namespace Go.Proofs.YtiflieaemgamkaaGreatDoor
open Go.RowKit Vi

theorem results_cttY {fn : Func} {p t u : Tmp} {ty : TypeId} (h : fn.results = #[.cell p ty, .tmp t, .tmp u]) (tmps : Array Value) (w : World) (g : Nat) (cs : Array Value)
    (hp : tmps.getD p undef = .pointer (some ⟨g, 0, none⟩)) (hr : (loadVar ty ⟨g, 0, none⟩).run Tryz.prog w = .ok (.agg cs) w) :
    (results fn tmps).run Tryz.prog w = .ok (.tuple #[.agg cs, tmps.getD t undef, tmps.getD u undef]) w := by
  have hp' : tmps[p]?.getD undef = .pointer (some ⟨g, 0, none⟩) := by simpa using hp
  simp [results, h, hp', asAddr, hr]
/-- a disk, a text, and a number are handed back -/
def RetDSI (P : Nat → Prop) (d : Ds) (s : ByteArray) (z : Int) (w : World) (e : Ending) (w' : World) : Prop := ∃ v, e = .returned (.tuple #[v, .string s, .int .i64 z]) ∧ RdR P d w' v ∧ Below w.heap.size w w'
set_option maxRecDepth 100000 in
set_option maxHeartbeats 4000000 in
theorem rread_gone (P : Nat → Prop) (SS : List ByteArray) (CC : List Wr) (ar : Int) (op : Int) (A : Option Addr) (n c : Nat) (A2 : Option Addr) (n2 c2 : Nat) (i : Int) (w : World) (h1 : RdP P stC 1 w A n SS) (h2 : RdP P wrC 2 w A2 n2 CC) :
    Calls Tryz.prog 87 #[rdv A n c A2 n2 c2 ar true op, .int .i64 i] w (RetDSI P ⟨SS, CC, ar, true, op⟩ ⟨#[]⟩ 7 w) := by
  have H1 := Lib.hid h1
  have H2 := Lib.hid h2
  have HL := Lib.hid h1.1.1
  clear h1 h2
  have HB1 := Lib.hid (Below.refl w.heap.size w)
  have HF2 := Lib.hid (blk_new w (.cells #[.slice A n c, .slice A2 n2 c2, .int .i64 ar, .bool true, .int .i64 op] 36 (0, 0)))
  have HB3 := Lib.hid (HB1.out.alloc HB1.out.size (.cells #[.slice A n c, .slice A2 n2 c2, .int .i64 ar, .bool true, .int .i64 op] 36 (0, 0)))
  clear HB1
  have HF4 := Lib.hid (blk_alloc HF2.out (.cells #[.slice none 0 0, .slice none 0 0, .int .i64 0, .bool false, .int .i64 0] 36 (0, 0)))
  clear HF2
  have HF5 : Hid (((w.alloc (.cells #[.slice A n c, .slice A2 n2 c2, .int .i64 ar, .bool true, .int .i64 op] 36 (0, 0))).alloc (.cells #[.slice none 0 0, .slice none 0 0, .int .i64 0, .bool false, .int .i64 0] 36 (0, 0))).heap[w.heap.size + 1]? = some (.cells #[.slice none 0 0, .slice none 0 0, .int .i64 0, .bool false, .int .i64 0] 36 (0, 0))) := Lib.hid (blk_newN (W := (w.alloc (.cells #[.slice A n c, .slice A2 n2 c2, .int .i64 ar, .bool true, .int .i64 op] 36 (0, 0)))) (o := (.cells #[.slice none 0 0, .slice none 0 0, .int .i64 0, .bool false, .int .i64 0] 36 (0, 0))) (by simp))
  have HB6 := Lib.hid (HB3.out.alloc (by have := HB3.out.size; simp at this ⊢ <;> omega) (.cells #[.slice none 0 0, .slice none 0 0, .int .i64 0, .bool false, .int .i64 0] 36 (0, 0)))
  clear HB3
  obtain ⟨v, hv⟩ : ∃ v, v = ((w.alloc (.cells #[.slice A n c, .slice A2 n2 c2, .int .i64 ar, .bool true, .int .i64 op] 36 (0, 0))).alloc (.cells #[.slice none 0 0, .slice none 0 0, .int .i64 0, .bool false, .int .i64 0] 36 (0, 0))) := ⟨_, rfl⟩
  have HVv := Lib.hid hv
  rw [← hv] at HF4 HF5 HB6
  clear hv
  go_enter Tryz.func87, Tryz.ntmps87
  go_upto_region 1 with (fail)
  rw [← HVv.out]
  have hc7 : v.cell? ⟨w.heap.size, 3, none⟩ = some (.bool true) := by rw [cell_of_row _ _ _ _ _ _ HF4.out]; rfl
  go_upto_region 2 with (fail)
  clear hc7
  go_wp2_with (first
    | refine wpList_store_rowY rfl 36 (.tmp 4) (.tmp 9) rfl (w.heap.size + 1) #[.slice A n c, .slice A2 n2 c2, .int .i64 ar, .bool true, .int .i64 op] rfl rfl 36 _ HF5.out (info_rd) rfl (by simp [Value.oneCell']) w.heap.size w HB6.out (by omega) ?_
    | refine wpList_load_row rfl 36 (.tmp 2) rfl (w.heap.size) rfl 36 #[.slice A n c, .slice A2 n2 c2, .int .i64 ar, .bool true, .int .i64 op] (0, 0) _ HF4.out Tryz.underlying36 rfl (info_rd) ?_)
  intro w1 hbk hoth hbel _
  have HF8 := Lib.hid (blk_oth HF4.out hoth.out (by omega))
  have HF9 := Lib.hid hbk.out
  have HB10 := Lib.hid hbel.out
  clear hbk hoth hbel HB6 HF4 HF5
  go_wp2_with fail
  refine bodyPost_ret (results_cttY rfl _ _ (w.heap.size + 1) #[.slice A n c, .slice A2 n2 c2, .int .i64 ar, .bool true, .int .i64 op] rfl (run_loadVar_row _ (w.heap.size + 1) 36 36 _ (0, 0) _ HF9.out Tryz.underlying36 rfl (by kernel_rfl))) rfl ?_
  exact ⟨_, rfl, ⟨A, n, c, A2, n2, c2, rfl, H1.out.below HB10.out, H2.out.below HB10.out⟩, HB10.out⟩
set_option maxRecDepth 100000 in
set_option maxHeartbeats 4000000 in
theorem rread_out (P : Nat → Prop) (SS : List ByteArray) (CC : List Wr) (ar : Int) (op : Int) (A : Option Addr) (n c : Nat) (A2 : Option Addr) (n2 c2 : Nat) (i : Int) (w : World) (h1 : RdP P stC 1 w A n SS) (h2 : RdP P wrC 2 w A2 n2 CC) (hi : ¬ (0 ≤ i ∧ i < (SS.length : Int))) :
    Calls Tryz.prog 87 #[rdv A n c A2 n2 c2 ar false op, .int .i64 i] w (RetDSI P ⟨SS, CC, ar, false, op⟩ ⟨#[]⟩ 8 w) := by
  have H1 := Lib.hid h1
  have H2 := Lib.hid h2
  have HL := Lib.hid h1.1.1
  clear h1 h2
  have HD := Lib.hid (show decide (0 ≤ i ∧ i < (n : Int)) = false from decide_eq_false (by rw [← HL.out]; exact hi))
  clear hi
  have HB1 := Lib.hid (Below.refl w.heap.size w)
  have HF2 := Lib.hid (blk_new w (.cells #[.slice A n c, .slice A2 n2 c2, .int .i64 ar, .bool false, .int .i64 op] 36 (0, 0)))
  have HB3 := Lib.hid (HB1.out.alloc HB1.out.size (.cells #[.slice A n c, .slice A2 n2 c2, .int .i64 ar, .bool false, .int .i64 op] 36 (0, 0)))
  clear HB1
  have HF4 := Lib.hid (blk_alloc HF2.out (.cells #[.slice none 0 0, .slice none 0 0, .int .i64 0, .bool false, .int .i64 0] 36 (0, 0)))
  clear HF2
  have HF5 : Hid (((w.alloc (.cells #[.slice A n c, .slice A2 n2 c2, .int .i64 ar, .bool false, .int .i64 op] 36 (0, 0))).alloc (.cells #[.slice none 0 0, .slice none 0 0, .int .i64 0, .bool false, .int .i64 0] 36 (0, 0))).heap[w.heap.size + 1]? = some (.cells #[.slice none 0 0, .slice none 0 0, .int .i64 0, .bool false, .int .i64 0] 36 (0, 0))) := Lib.hid (blk_newN (W := (w.alloc (.cells #[.slice A n c, .slice A2 n2 c2, .int .i64 ar, .bool false, .int .i64 op] 36 (0, 0)))) (o := (.cells #[.slice none 0 0, .slice none 0 0, .int .i64 0, .bool false, .int .i64 0] 36 (0, 0))) (by simp))
  have HB6 := Lib.hid (HB3.out.alloc (by have := HB3.out.size; simp at this ⊢ <;> omega) (.cells #[.slice none 0 0, .slice none 0 0, .int .i64 0, .bool false, .int .i64 0] 36 (0, 0)))
  clear HB3
  obtain ⟨v, hv⟩ : ∃ v, v = ((w.alloc (.cells #[.slice A n c, .slice A2 n2 c2, .int .i64 ar, .bool false, .int .i64 op] 36 (0, 0))).alloc (.cells #[.slice none 0 0, .slice none 0 0, .int .i64 0, .bool false, .int .i64 0] 36 (0, 0))) := ⟨_, rfl⟩
  have HVv := Lib.hid hv
  rw [← hv] at HF4 HF5 HB6
  clear hv
  go_enter Tryz.func87, Tryz.ntmps87
  go_upto_region 1 with (fail)
  rw [← HVv.out]
  have hc7 : v.cell? ⟨w.heap.size, 3, none⟩ = some (.bool false) := by rw [cell_of_row _ _ _ _ _ _ HF4.out]; rfl
  have HIN := Lib.hid (rin_any A n c A2 n2 c2 ar false op i v)
  rw [HD.out] at HIN
  go_wp2_with (refine wpList_load_row rfl 36 (.tmp 2) rfl (w.heap.size) rfl 36 #[.slice A n c, .slice A2 n2 c2, .int .i64 ar, .bool false, .int .i64 op] (0, 0) _ HF4.out Tryz.underlying36 rfl (info_rd) ?_)
  refine (HIN.out).mono ?_
  rintro e w1 ⟨rfl, hb1⟩
  clear hc7
  have HF8 := Lib.hid (blk_below HF4.out hb1)
  have HF9 := Lib.hid (blk_below HF5.out hb1)
  have HB10 := Lib.hid (HB6.out.trans (hb1.mono HB6.out.size))
  clear hb1 HB6 HF4 HF5
  clear HIN
  go_upto_region 4 with (fail)
  go_wp2_with (first
    | refine wpList_store_rowY rfl 36 (.tmp 4) (.tmp 14) rfl (w.heap.size + 1) #[.slice A n c, .slice A2 n2 c2, .int .i64 ar, .bool false, .int .i64 op] rfl rfl 36 _ HF9.out (info_rd) rfl (by simp [Value.oneCell']) w.heap.size w HB10.out (by omega) ?_
    | refine wpList_load_row rfl 36 (.tmp 2) rfl (w.heap.size) rfl 36 #[.slice A n c, .slice A2 n2 c2, .int .i64 ar, .bool false, .int .i64 op] (0, 0) _ HF8.out Tryz.underlying36 rfl (info_rd) ?_)
  intro w2 hbk hoth hbel _
  have HF11 := Lib.hid (blk_oth HF8.out hoth.out (by omega))
  have HF12 := Lib.hid hbk.out
  have HB13 := Lib.hid hbel.out
  clear hbk hoth hbel HB10 HF8 HF9
  go_wp2_with fail
  refine bodyPost_ret (results_cttY rfl _ _ (w.heap.size + 1) #[.slice A n c, .slice A2 n2 c2, .int .i64 ar, .bool false, .int .i64 op] rfl (run_loadVar_row _ (w.heap.size + 1) 36 36 _ (0, 0) _ HF12.out Tryz.underlying36 rfl (by kernel_rfl))) rfl ?_
  exact ⟨_, rfl, ⟨A, n, c, A2, n2, c2, rfl, H1.out.below HB13.out, H2.out.below HB13.out⟩, HB13.out⟩
set_option maxRecDepth 100000 in
set_option maxHeartbeats 4000000 in
theorem rread_up (P : Nat → Prop) (SS : List ByteArray) (CC : List Wr) (ar : Int) (op : Int) (A : Option Addr) (n c : Nat) (A2 : Option Addr) (n2 c2 : Nat) (i : Int) (w : World) (h1 : RdP P stC 1 w A n SS) (h2 : RdP P wrC 2 w A2 n2 CC) (hi : 0 ≤ i ∧ i < (SS.length : Int)) (hn2 : n2 ≤ 100000) (ho : -1000000000 ≤ op ∧ op ≤ 1000000000) :
    Calls Tryz.prog 87 #[rdv A n c A2 n2 c2 ar false op, .int .i64 i] w (RetDSI P ⟨SS, CC, ar, false, op + 1⟩ (shw SS CC i) 0 w) := by
  have H1 := Lib.hid h1
  have H2 := Lib.hid h2
  have HL := Lib.hid h1.1.1
  clear h1 h2
  have HD := Lib.hid (show decide (0 ≤ i ∧ i < (n : Int)) = true from decide_eq_true (by rw [← HL.out]; exact hi))
  have HI := Lib.hid (show 0 ≤ i ∧ i < (n : Int) by rw [← HL.out]; exact hi)
  have hwp : IntKind.i64.wrap (op + 1) = op + 1 := IntWalk.i64_in _ (by omega)
  clear hi
  have HB1 := Lib.hid (Below.refl w.heap.size w)
  have HF2 := Lib.hid (blk_new w (.cells #[.slice A n c, .slice A2 n2 c2, .int .i64 ar, .bool false, .int .i64 op] 36 (0, 0)))
  have HB3 := Lib.hid (HB1.out.alloc HB1.out.size (.cells #[.slice A n c, .slice A2 n2 c2, .int .i64 ar, .bool false, .int .i64 op] 36 (0, 0)))
  clear HB1
  have HF4 := Lib.hid (blk_alloc HF2.out (.cells #[.slice none 0 0, .slice none 0 0, .int .i64 0, .bool false, .int .i64 0] 36 (0, 0)))
  clear HF2
  have HF5 : Hid (((w.alloc (.cells #[.slice A n c, .slice A2 n2 c2, .int .i64 ar, .bool false, .int .i64 op] 36 (0, 0))).alloc (.cells #[.slice none 0 0, .slice none 0 0, .int .i64 0, .bool false, .int .i64 0] 36 (0, 0))).heap[w.heap.size + 1]? = some (.cells #[.slice none 0 0, .slice none 0 0, .int .i64 0, .bool false, .int .i64 0] 36 (0, 0))) := Lib.hid (blk_newN (W := (w.alloc (.cells #[.slice A n c, .slice A2 n2 c2, .int .i64 ar, .bool false, .int .i64 op] 36 (0, 0)))) (o := (.cells #[.slice none 0 0, .slice none 0 0, .int .i64 0, .bool false, .int .i64 0] 36 (0, 0))) (by simp))
  have HB6 := Lib.hid (HB3.out.alloc (by have := HB3.out.size; simp at this ⊢ <;> omega) (.cells #[.slice none 0 0, .slice none 0 0, .int .i64 0, .bool false, .int .i64 0] 36 (0, 0)))
  clear HB3
  obtain ⟨v, hv⟩ : ∃ v, v = ((w.alloc (.cells #[.slice A n c, .slice A2 n2 c2, .int .i64 ar, .bool false, .int .i64 op] 36 (0, 0))).alloc (.cells #[.slice none 0 0, .slice none 0 0, .int .i64 0, .bool false, .int .i64 0] 36 (0, 0))) := ⟨_, rfl⟩
  have HVv := Lib.hid hv
  rw [← hv] at HF4 HF5 HB6
  clear hv
  go_enter Tryz.func87, Tryz.ntmps87
  go_upto_region 1 with (fail)
  rw [← HVv.out]
  have hc7 : v.cell? ⟨w.heap.size, 3, none⟩ = some (.bool false) := by rw [cell_of_row _ _ _ _ _ _ HF4.out]; rfl
  have HIN := Lib.hid (rin_any A n c A2 n2 c2 ar false op i v)
  rw [HD.out] at HIN
  go_wp2_with (refine wpList_load_row rfl 36 (.tmp 2) rfl (w.heap.size) rfl 36 #[.slice A n c, .slice A2 n2 c2, .int .i64 ar, .bool false, .int .i64 op] (0, 0) _ HF4.out Tryz.underlying36 rfl (info_rd) ?_)
  refine (HIN.out).mono ?_
  rintro e w1 ⟨rfl, hb1⟩
  clear hc7
  have HF8 := Lib.hid (blk_below HF4.out hb1)
  have HF9 := Lib.hid (blk_below HF5.out hb1)
  have HB10 := Lib.hid (HB6.out.trans (hb1.mono HB6.out.size))
  clear hb1 HB6 HF4 HF5
  clear HIN
  have hc11 : w1.cell? ⟨w.heap.size, 4, none⟩ = some (.int .i64 op) := by rw [cell_of_row _ _ _ _ _ _ HF8.out]; rfl
  have hz12 : w1.frozen? ⟨w.heap.size, 4, none⟩ = false := frozen_of_row _ _ _ _ _ HF8.out
  go_upto_region 6 with (fail)
  clear hc11 hz12
  have HKK13 := Lib.hid ((KK.refl [w.heap.size] w1).set (b := w.heap.size) (by simp) 4 (.int .i64 (op + 1)))
  have HF14 := Lib.hid (show (w1.setCell ⟨w.heap.size, 4, none⟩ (.int .i64 (op + 1))).heap[w.heap.size]? = some (.cells #[.slice A n c, .slice A2 n2 c2, .int .i64 ar, .bool false, .int .i64 (op + 1)] 36 (0, 0)) by have q := heap_setCell_at (i := 4) (u := .int .i64 (op + 1)) (HF8.out); exact q)
  have HF15 := Lib.hid (HKK13.out.blk HF9.out (by simp <;> omega))
  have HB16 := Lib.hid (HKK13.out.below HB10.out (fun b hb => by obtain rfl : b = w.heap.size := (by simpa using hb); omega) HB10.out.size)
  clear HB10 HF8 HF9
  generalize (w1.setCell ⟨w.heap.size, 4, none⟩ (.int .i64 (op + 1))) = w2 at *
  clear hwp
  have HSH := Lib.hid (fun (W : World) (q1 : RdX stC 1 W A n SS) (q2 : RdX wrC 2 W A2 n2 CC) => rshows_any A n c A2 n2 c2 SS CC i W q1 q2 HI.out hn2)
  refine wp_region_L_drew (S := fun _ W => W.heap[w.heap.size]? = some (.cells #[.slice A n c, .slice A2 n2 c2, .int .i64 ar, .bool false, .int .i64 (op + 1)] 36 (0, 0))) (by kernel_rfl) HF14.out (fun hS hC => ?_)
  refine wpAnyL_take (i := 0) (oi := { dst := some 19, op := .load 36 (.tmp 2), type := _, pos := _, after := _, guard := none }) (v := ?_) rfl (by kernel_rfl) (by kernel_rfl) (by kernel_rfl) (fun _ _ _ h => h) (fun _ _ => Iff.rfl) hC (Or.inl ⟨by rfl, ?_⟩) hS (fun hC hS => ?_)
  rotate_left
  · intro W9 hSw; have q0 := (cell_of_row _ _ 0 _ _ _ hSw.choose_spec.2.2).trans rfl; have q1 := (cell_of_row _ _ 1 _ _ _ hSw.choose_spec.2.2).trans rfl; have q2 := (cell_of_row _ _ 2 _ _ _ hSw.choose_spec.2.2).trans rfl; have q3 := (cell_of_row _ _ 3 _ _ _ hSw.choose_spec.2.2).trans rfl; have q4 := (cell_of_row _ _ 4 _ _ _ hSw.choose_spec.2.2).trans rfl; go_simp; try (with_reducible rfl)
  try simp only [Act.put, List.setIfInBounds_toArray, List.set_cons_zero, List.set_cons_succ]
  refine wpAnyL_take (i := 1) (oi := { dst := some 20, op := .fieldAddr 36 (.tmp 2) 0, type := _, pos := _, after := _, guard := none }) (v := ?_) rfl (by kernel_rfl) (by kernel_rfl) (by kernel_rfl) (fun _ _ _ h => h) (fun _ _ => Iff.rfl) hC (Or.inl ⟨by rfl, ?_⟩) hS (fun hC hS => ?_)
  rotate_left
  · intro W9 hSw; skip; go_simp; try (with_reducible rfl)
  try simp only [Act.put, List.setIfInBounds_toArray, List.set_cons_zero, List.set_cons_succ]
  refine wpAnyL_take (i := 2) (oi := { dst := some 21, op := .load 33 (.tmp 20), type := _, pos := _, after := _, guard := none }) (v := ?_) rfl (by kernel_rfl) (by kernel_rfl) (by kernel_rfl) (fun _ _ _ h => h) (fun _ _ => Iff.rfl) hC (Or.inl ⟨by rfl, ?_⟩) hS (fun hC hS => ?_)
  rotate_left
  · intro W9 hSw; have q0 := (cell_of_row _ _ 0 _ _ _ hSw.choose_spec.2.2).trans rfl; have q1 := (cell_of_row _ _ 1 _ _ _ hSw.choose_spec.2.2).trans rfl; go_simp; try (with_reducible rfl)
  try simp only [Act.put, List.setIfInBounds_toArray, List.set_cons_zero, List.set_cons_succ]
  refine wpAnyL_take (i := 3) (oi := { dst := some 22, op := .move (.tmp 1), type := _, pos := _, after := _, guard := none }) (v := ?_) rfl (by kernel_rfl) (by kernel_rfl) (by kernel_rfl) (fun _ _ _ h => h) (fun _ _ => Iff.rfl) hC (Or.inl ⟨by rfl, ?_⟩) hS (fun hC hS => ?_)
  rotate_left
  · intro W9 hSw; skip; go_simp; try (with_reducible rfl)
  try simp only [Act.put, List.setIfInBounds_toArray, List.set_cons_zero, List.set_cons_succ]
  refine wpAnyL_ready (rs := [4]) (by kernel_rfl) (by simp) hC ?_
  refine AllReadyL.cons (o := { dst := some 23, op := .call { callee := .value (.func 142), args := #[.tmp 21, .tmp 22], argTypes := #[33, 3] }, type := _, pos := _, after := _, guard := none }) rfl (fun K9 hK => ?_) ?_
  · skip
    go_simp
    refine (HSH.out _ (H1.out.1.below HB16.out.drew) (H2.out.1.below HB16.out.drew)).mono ?_
    rintro e W4 ⟨rfl, hb4⟩
    have HB4 := Lib.hid (HB16.out.drew.trans (hb4.mono HB16.out.drew.size))
    have HP4 := Lib.hid (blk_below (show (w2.drew).heap[w.heap.size]? = _ from HF14.out) hb4)
    have HR4 := Lib.hid (blk_below (show (w2.drew).heap[w.heap.size + 1]? = _ from HF15.out) hb4)
    clear hb4
    refine hK _ _ HP4.out (fun hC => ?_)
    clear hK K9
    try simp only [Act.put, List.setIfInBounds_toArray, List.set_cons_zero, List.set_cons_succ]
    refine wpAnyL_ready (rs := [5]) (by kernel_rfl) (by simp) hC ?_
    refine AllReadyL.cons (o := { dst := none, op := .store 36 (.tmp 4) (.tmp 19), type := _, pos := _, after := _, guard := none }) rfl (fun K9 hK => ?_) ?_
    · skip
      have y0 : (W4).cell? ⟨w.heap.size + 1, 0, none⟩ = some (.slice none 0 0) := (cell_of_row _ _ 0 _ _ _ (show (W4).heap[w.heap.size + 1]? = _ from HR4.out)).trans rfl
      have y1 : (W4).cell? ⟨w.heap.size + 1, 1, none⟩ = some (.slice none 0 0) := (cell_of_row _ _ 1 _ _ _ (show (W4).heap[w.heap.size + 1]? = _ from HR4.out)).trans rfl
      have y2 : (W4).cell? ⟨w.heap.size + 1, 2, none⟩ = some (.int .i64 0) := (cell_of_row _ _ 2 _ _ _ (show (W4).heap[w.heap.size + 1]? = _ from HR4.out)).trans rfl
      have y3 : (W4).cell? ⟨w.heap.size + 1, 3, none⟩ = some (.bool false) := (cell_of_row _ _ 3 _ _ _ (show (W4).heap[w.heap.size + 1]? = _ from HR4.out)).trans rfl
      have y4 : (W4).cell? ⟨w.heap.size + 1, 4, none⟩ = some (.int .i64 0) := (cell_of_row _ _ 4 _ _ _ (show (W4).heap[w.heap.size + 1]? = _ from HR4.out)).trans rfl
      have f0 : (W4).frozen? ⟨w.heap.size + 1, 0, none⟩ = false := frozen_of_row _ _ _ _ _ (show (W4).heap[w.heap.size + 1]? = _ from HR4.out)
      have f1 : (W4).frozen? ⟨w.heap.size + 1, 1, none⟩ = false := frozen_of_row _ _ _ _ _ (show (W4).heap[w.heap.size + 1]? = _ from HR4.out)
      have f2 : (W4).frozen? ⟨w.heap.size + 1, 2, none⟩ = false := frozen_of_row _ _ _ _ _ (show (W4).heap[w.heap.size + 1]? = _ from HR4.out)
      have f3 : (W4).frozen? ⟨w.heap.size + 1, 3, none⟩ = false := frozen_of_row _ _ _ _ _ (show (W4).heap[w.heap.size + 1]? = _ from HR4.out)
      have f4 : (W4).frozen? ⟨w.heap.size + 1, 4, none⟩ = false := frozen_of_row _ _ _ _ _ (show (W4).heap[w.heap.size + 1]? = _ from HR4.out)
      go_simp
      have HKK := Lib.hid ((((((KK.refl [w.heap.size + 1] (W4)).set (b := w.heap.size + 1) (by simp) 0 (.slice A n c)).set (b := w.heap.size + 1) (by simp) 1 (.slice A2 n2 c2)).set (b := w.heap.size + 1) (by simp) 2 (.int .i64 ar)).set (b := w.heap.size + 1) (by simp) 3 (.bool false)).set (b := w.heap.size + 1) (by simp) 4 (.int .i64 (op + 1)))
      have HR5 := Lib.hid (show ((((((W4).setCell ⟨w.heap.size + 1, 0, none⟩ (.slice A n c)).setCell ⟨w.heap.size + 1, 1, none⟩ (.slice A2 n2 c2)).setCell ⟨w.heap.size + 1, 2, none⟩ (.int .i64 ar)).setCell ⟨w.heap.size + 1, 3, none⟩ (.bool false)).setCell ⟨w.heap.size + 1, 4, none⟩ (.int .i64 (op + 1))).heap[w.heap.size + 1]? = some (.cells #[.slice A n c, .slice A2 n2 c2, .int .i64 ar, .bool false, .int .i64 (op + 1)] 36 (0, 0)) by have q := heap_setCell_at (i := 4) (u := .int .i64 (op + 1)) (heap_setCell_at (i := 3) (u := .bool false) (heap_setCell_at (i := 2) (u := .int .i64 ar) (heap_setCell_at (i := 1) (u := .slice A2 n2 c2) (heap_setCell_at (i := 0) (u := .slice A n c) (HR4.out))))); exact q)
      have HP5 := Lib.hid (HKK.out.blk (show (W4).heap[w.heap.size]? = _ from HP4.out) (by simp <;> omega))
      have HB5 := Lib.hid (HKK.out.below HB4.out (fun b hb => by obtain rfl : b = w.heap.size + 1 := (by simpa using hb); omega) HB4.out.size)
      clear y0 y1 y2 y3 y4 f0 f1 f2 f3 f4
      generalize ((((((W4).setCell ⟨w.heap.size + 1, 0, none⟩ (.slice A n c)).setCell ⟨w.heap.size + 1, 1, none⟩ (.slice A2 n2 c2)).setCell ⟨w.heap.size + 1, 2, none⟩ (.int .i64 ar)).setCell ⟨w.heap.size + 1, 3, none⟩ (.bool false)).setCell ⟨w.heap.size + 1, 4, none⟩ (.int .i64 (op + 1))) = W5 at *
      refine hK _ _ HP5.out (fun hC => ?_)
      clear hK K9
      try simp only [Act.put, List.setIfInBounds_toArray, List.set_cons_zero, List.set_cons_succ]
      refine wpAnyL_take (i := 6) (oi := { dst := some 5, op := .assign (.tmp 23), type := _, pos := _, after := _, guard := none }) (v := ?_) rfl (by kernel_rfl) (by kernel_rfl) (by kernel_rfl) (fun _ _ _ h => h) (fun _ _ => Iff.rfl) hC (Or.inl ⟨by rfl, ?_⟩) HP5.out (fun hC hS => ?_)
      rotate_left
      · intro W9 hSw; skip; go_simp; try (with_reducible rfl)
      try simp only [Act.put, List.setIfInBounds_toArray, List.set_cons_zero, List.set_cons_succ]
      refine wpAnyL_take (i := 7) (oi := { dst := some 6, op := .assign (.const (.int Go.IntKind.i64 0)), type := _, pos := _, after := _, guard := none }) (v := ?_) rfl (by kernel_rfl) (by kernel_rfl) (by kernel_rfl) (fun _ _ _ h => h) (fun _ _ => Iff.rfl) hC (Or.inl ⟨by rfl, ?_⟩) HP5.out (fun hC hS => ?_)
      rotate_left
      · intro W9 hSw; skip; go_simp; try (with_reducible rfl)
      try simp only [Act.put, List.setIfInBounds_toArray, List.set_cons_zero, List.set_cons_succ]
      refine wpAnyL_done (by kernel_rfl) ?_ _
      go_wp2_with fail
      first
        | (refine bodyPost_ret (results_cttY rfl _ _ (w.heap.size + 1) #[.slice A n c, .slice A2 n2 c2, .int .i64 ar, .bool false, .int .i64 (op + 1)] rfl (run_loadVar_row _ (w.heap.size + 1) 36 36 _ (0, 0) _ HR5.out Tryz.underlying36 rfl (by kernel_rfl))) rfl ?_; exact ⟨_, rfl, ⟨A, n, c, A2, n2, c2, rfl, H1.out.below HB5.out, H2.out.below HB5.out⟩, HB5.out⟩)
        | (refine bodyPost_ret (results_cttY rfl _ _ (w.heap.size + 1) #[.slice A n c, .slice A2 n2 c2, .int .i64 ar, .bool false, .int .i64 (op + 1)] rfl (run_loadVar_row _ (w.heap.size + 1) 36 36 _ (0, 0) _ HR4.out Tryz.underlying36 rfl (by kernel_rfl))) rfl ?_; exact ⟨_, rfl, ⟨A, n, c, A2, n2, c2, rfl, H1.out.below HB4.out, H2.out.below HB4.out⟩, HB4.out⟩)
    exact AllReadyL.nil
  exact AllReadyL.nil
end Go.Proofs.YtiflieaemgamkaaGreatDoor

namespace Go.Proofs.YtiflieaemgamkaaGreatDoor
open Go.RowKit Vi

theorem info_u8D : (Tryz.prog.info? 5).map (fun i => (i.zero, i.size, i.bytes)) = some (some (.int .u8 0), 1, 1) := by kernel_rfl
def zsD (n : Nat) : List UInt8 := List.replicate n 0
theorem made_zsD (n : Nat) : madeCells (Value.int .u8 0).cells (n * 1) = ((zsD n).map fun c => Value.int .u8 (c.toNat : Int)).toArray := by
  unfold zsD madeCells Value.cells
  apply Array.ext
  · simp
  · intro j h1 h2; simp [Nat.mod_one]
theorem make_zsD (n : Nat) (hn : n ≤ 3000000) (w : World) : (Instr.makeSlice 154 (.int .i64 (n : Int)) (.int .i64 (n : Int))).run Tryz.prog w = .ok (.slice (some ⟨w.heap.size, 0, none⟩) n n) (w.alloc (.cells ((zsD n).map fun c => Value.int .u8 (c.toNat : Int)).toArray 5)) := by
  obtain ⟨i0, hi, hz0, hz1, hz2⟩ := info_parts info_u8D
  have h := run_make (P := Tryz.prog) w 154 5 i0 (.int .u8 0) Tryz.underlying154 hi hz0 .i64 .i64 (n : Int) (n : Int) (by omega) (Int.le_refl _) (by rw [hz2]; omega) (by omega)
  rw [h, hz1]
  simp only [Int.toNat_natCast]
  rw [made_zsD]
theorem conv_zsD (n : Nat) (w : World) (cs : Array Value) (hcs : cs = ((zsD n).map fun c => Value.int .u8 (c.toNat : Int)).toArray) :
    (convert 154 9 (.slice (some ⟨w.heap.size, 0, none⟩) n n)).run Tryz.prog (w.alloc (.cells cs 5)) = .ok (.string ⟨(zsD n).toArray⟩) (w.alloc (.cells cs 5)) := by
  have hl : (zsD n).length = n := by simp [zsD]
  have h := run_convert_bytes_back (P := Tryz.prog) (w.alloc (.cells cs 5)) 154 9 5 ⟨w.heap.size, 0, none⟩ n (zsD n) Tryz.underlying154 Tryz.underlying5 Tryz.underlying9 (fun j hj => by
    rw [Addr.add_lit, Nat.zero_add, cell_of_row _ _ _ _ _ _ (MapKept.heap_alloc w (.cells cs 5)).1, hcs]
    simp [hj])
  rw [hl] at h
  exact h
/-- a sector of noughts -/
def noZ : ByteArray := ⟨(zsD 128).toArray⟩
theorem noZ_size : noZ.size = 128 := by
  show (zsD 128).toArray.size = 128
  simp [zsD]
/-- a text with noughts behind it, or cut off -/
def fullT (s : ByteArray) : ByteArray := (s ++ noZ).extract 0 128
theorem fullT_size (s : ByteArray) : (fullT s).size = 128 := by
  unfold fullT
  rw [ByteArray.size_extract, ByteArray.size_append, noZ_size]
  omega
set_option maxRecDepth 100000 in
set_option maxHeartbeats 400000 in
theorem dnoughts_any (w : World) : Calls Tryz.prog 58 #[.int .i64 128] w fun e w' => e = .returned (.string noZ) ∧ Below w.heap.size w w' := by
  obtain ⟨cs, hcs⟩ : ∃ cs, cs = ((zsD 128).map fun c => Value.int .u8 (c.toNat : Int)).toArray := ⟨_, rfl⟩
  have hmk := make_zsD 128 (by omega)
  rw [← hcs] at hmk
  have hmk2 : ∀ W : World, (Instr.makeSlice 154 (.int .i64 128) (.int .i64 128)).run Tryz.prog W = .ok (.slice (some ⟨W.heap.size, 0, none⟩) 128 128) (W.alloc (.cells cs 5)) := hmk
  have hcv := conv_zsD 128 w cs hcs
  have hzz : (⟨(zsD 128).toArray⟩ : ByteArray) = noZ := rfl
  rw [hzz] at hcv
  clear hcs hmk
  generalize noZ = z at hcv ⊢
  have hmx : max (128 : Int) 0 = 128 := by decide
  go_enter Tryz.func58, Tryz.ntmps58
  go_wp2
  go_ret
  exact ⟨rfl, (Below.refl _ w).alloc (Nat.le_refl _) _⟩
theorem dfull_any (s : ByteArray) (w : World) (hs : s.size ≤ 140737488351232) :
    Calls Tryz.prog 21 #[.string s] w fun e w' => e = .returned (.string (fullT s)) ∧ Below w.heap.size w w' := by
  have HF := Lib.hid (show (s ++ noZ).extract 0 128 = fullT s from rfl)
  have HN := Lib.hid (fun W : World => dnoughts_any W)
  have hz := noZ_size
  generalize noZ = N at HF HN hz
  have hzi : (N.size : Int) = 128 := by omega
  have hsi : (s.size : Int) ≤ 140737488351232 := by omega
  have ha : (s ++ N).size = s.size + N.size := ByteArray.size_append
  have hb : (128 : Int) ≤ ((s ++ N).size : Int) := by omega
  have hb2 : 128 ≤ (s ++ N).size := by omega
  have hb3 : ¬ (s ++ N).size < 128 := by omega
  have HZ := Lib.hid (And.intro ha hzi)
  clear ha hz hs hzi
  have hz2 : (N.size : Int) ≤ 128 := by rw [HZ.out.2]; omega
  go_enter Tryz.func21, Tryz.ntmps21
  go_wp2_with fail
  refine (HN.out _).mono ?_
  rintro e w1 ⟨rfl, hb1⟩
  have HB := Lib.hid hb1
  clear hb1
  go_wp2
  go_ret
  exact ⟨by rw [← HF.out]; rfl, HB.out⟩
/-- an act -/
structure Ac where
  kd : Int
  at' : Int
  nn : Int
  t : ByteArray
  rw' : Bool
  ka : Option Addr
  kn : Nat
  kc : Nat
  ks : List Int
def acC (a : Ac) : List Value := [.int .i64 a.kd, .int .i64 a.at', .int .i64 a.nn, .string a.t, .bool a.rw', .slice a.ka a.kn a.kc]
theorem acC_len (a : Ac) : (acC a).length = 6 := rfl
/-- what an act holds, in a world -/
structure AcOk (w : World) (a : Ac) : Prop where
  r : RdX inC 1 w a.ka a.kn a.ks
  ws : ∀ x ∈ a.ks, (Lit.int .i64 x).wf = true
  wn : (Lit.int .i64 a.nn).wf = true
  wa : (Lit.int .i64 a.at').wf = true
  wk : (Lit.int .i64 a.kd).wf = true
  wt : a.t.size ≤ 140737488351232
  le : a.kn ≤ a.kc
  lc : a.kc ≤ maxLen
theorem AcOk.below {w w' : World} {a : Ac} (h : AcOk w a) (hb : Below w.heap.size w w') : AcOk w' a := ⟨h.r.below hb, h.ws, h.wn, h.wa, h.wk, h.wt, h.le, h.lc⟩
/-- what an act writes -/
def acT (a : Ac) : ByteArray := if a.rw' = true then a.t else fullT a.t
abbrev acV (a : Ac) : Value := .agg #[.int .i64 a.kd, .int .i64 a.at', .int .i64 a.nn, .string a.t, .bool a.rw', .slice a.ka a.kn a.kc]
/-- so few, of so few bytes -/
def acFew (l : List Ac) : Prop := l.length ≤ 60
def wtA (a : Ac) : Int := min (a.t.size : Int) 10000 + min (a.kn : Int) 10000
def sumA (l : List Ac) : Int := (l.map wtA).foldl (· + ·) 0
theorem sumA_snoc (l : List Ac) (a : Ac) : sumA (l ++ [a]) = sumA l + wtA a := by simp [sumA]
theorem wtA_pos (a : Ac) : 0 ≤ wtA a := by unfold wtA; omega
theorem sumA_pos (l : List Ac) : 0 ≤ sumA l := by
  have : ∀ (l : List Ac) (z : Int), 0 ≤ z → 0 ≤ (l.map wtA).foldl (· + ·) z := fun l => by
    induction l with
    | nil => intro z hz; exact hz
    | cons a r ih => intro z hz; exact ih (z + wtA a) (by have := wtA_pos a; omega)
  exact this l 0 (Int.le_refl _)
theorem sumA_bd (l : List Ac) : sumA l ≤ 20000 * (l.length : Int) := by
  have : ∀ (l : List Ac) (z : Int), (l.map wtA).foldl (· + ·) z ≤ z + 20000 * (l.length : Int) := fun l => by
    induction l with
    | nil => intro z; simp
    | cons b r ih =>
      intro z
      have := ih (z + wtA b)
      have hb : wtA b ≤ 20000 := by unfold wtA; omega
      show (r.map wtA).foldl (· + ·) (z + wtA b) ≤ _
      rw [List.length_cons]
      push_cast
      omega
  have := this l 0
  unfold sumA
  omega
/-- whether acts are few is told -/
def FewP (l : List Ac) (w : World) (e : Ending) (w' : World) : Prop := ∃ b, e = .returned (.bool b) ∧ (b = true → acFew l) ∧ Below w.heap.size w w'
end Go.Proofs.YtiflieaemgamkaaGreatDoor

namespace Go.Proofs.YtiflieaemgamkaaGreatDoor
open Go.RowKit Vi

theorem size_strD : (Tryz.prog.info? 9).map (·.size) = some 1 := by kernel_rfl
/-- a new row of empty texts -/
def empD (n : Nat) : List Value := List.replicate n (.string ⟨#[]⟩)
theorem made_empD (n : Nat) : madeCells (Value.string ⟨#[]⟩).cells (n * 1) = (empD n).toArray := by
  unfold empD madeCells Value.cells
  apply Array.ext
  · simp
  · intro j h1 h2; simp [Nat.mod_one]
theorem make_atD (w : World) (n : Nat) (hn : n ≤ 3000000) : (Instr.makeSlice 30 (.int .i64 (n : Int)) (.int .i64 (n : Int))).run Tryz.prog w = .ok (.slice (some ⟨w.heap.size, 0, none⟩) n n) (w.alloc (.cells (empD n).toArray 9)) := by
  obtain ⟨i0, hi, hz0, hz1, hz2⟩ := info_parts info_stA
  have h := run_make (P := Tryz.prog) w 30 9 i0 (.string ⟨#[]⟩) Tryz.underlying30 hi hz0 .i64 .i64 (n : Int) (n : Int) (by omega) (Int.le_refl _) (by rw [hz2]; omega) (by omega)
  rw [h, hz1]
  simp only [Int.toNat_natCast]
  rw [made_empD]
/-- a row whose first k texts are s -/
def rpD (s : ByteArray) (k n : Nat) : List Value := List.replicate k (.string s) ++ empD (n - k)
theorem rpD_len (s : ByteArray) (k n : Nat) (h : k ≤ n) : (rpD s k n).length = n := by simp [rpD, empD]; omega
theorem rpD_splice (s : ByteArray) (k m n : Nat) (h : k + m ≤ n) : splice (rpD s k n) k (List.replicate m (.string s)) = rpD s (k + m) n := by
  unfold splice rpD
  rw [List.take_left' (by simp), List.length_replicate, List.drop_append, List.length_replicate, List.drop_eq_nil_of_le (by simp), List.nil_append, ← List.append_assoc, List.replicate_append_replicate]
  congr 1
  unfold empD
  rw [List.drop_replicate]
  congr 1
  omega
theorem rpD_zero (s : ByteArray) (n : Nat) : rpD s 0 n = empD n := by simp [rpD]
theorem rpD_all (s : ByteArray) (n : Nat) : rpD s n n = (List.replicate n s).map Value.string := by simp [rpD, empD]
/-- a row of one text is handed back -/
def RepP (s : ByteArray) (n : Nat) (w : World) (e : Ending) (w' : World) : Prop := ∃ A, e = .returned (.slice (some A) n n) ∧ RdX stC 1 w' (some A) n (List.replicate n s) ∧ Below w.heap.size w w'
set_option maxRecDepth 100000 in
set_option maxHeartbeats 4000000 in
theorem drepeat_any (s : ByteArray) (b c n : Nat) (w : World) (hb : w.cell? ⟨b, 0, none⟩ = some (.string s)) (h1 : 1 ≤ n) (hn : n ≤ 4096) :
    Calls Tryz.prog 38 #[.slice (some ⟨b, 0, none⟩) 1 c, .int .i64 (n : Int)] w (RepP s n w) := by
  have hbl : b < w.heap.size := World.block_lt_of_cell? w _ hb
  have HM := Lib.hid (fun W : World => (Tryz.bits_Mul 1 n (by omega) (by omega) W))
  have e1 : 1 * n / 18446744073709551616 = 0 := Nat.div_eq_of_lt (by omega)
  have e2 : 1 * n % 18446744073709551616 = n := by rw [Nat.one_mul]; exact Nat.mod_eq_of_lt (by omega)
  rw [e1, e2] at HM
  have HM : Hid (∀ W : World, Calls Tryz.prog 78 #[.int .u64 1, .int .u64 (n : Int)] W fun e w' => e = .returned (.tuple #[.int .u64 0, .int .u64 (n : Int)]) ∧ W = w') := Lib.hid (fun W => (HM.out W).mono fun _ _ h => ⟨h.1, h.2.symm⟩)
  clear e1 e2
  have hmk := fun W => make_atD W n (by omega)
  have HB0 := Lib.hid ((Below.refl w.heap.size w).alloc (Nat.le_refl _) (.cells (empD n).toArray 9))
  have HS0 : Hid ((w.alloc (.cells (empD n).toArray 9)).cell? ⟨b, 0, none⟩ = some (.string s)) := Lib.hid ((HB0.out.cell (p := ⟨b, 0, none⟩) hbl).trans hb)
  have hn1 : (1 : Int) ≤ (n : Int) := by omega
  have hn2 : (n : Int) ≤ 4096 := by omega
  clear hb
  go_enter Tryz.func38, Tryz.ntmps38
  go_wp2_with fail
  refine (HM.out _).mono ?_
  rintro e w' ⟨rfl, rfl⟩
  go_wp2_with (with_reducible refine wpList_copy_splice rfl (.tmp 31) (.tmp 32) 30 30 rfl 9 Tryz.underlying30 size_strD (some ⟨w.heap.size, 0, none⟩) (some ⟨b, 0, none⟩) n n 1 c rfl rfl w.heap.size 0 (empD n) 9 (MapKept.heap_alloc _ _).1 [.string s] ?n1 (fun _ => ⟨rfl, _, rfl, ?s1⟩) ?f1 ?o1 w.heap.size w HB0.out (Nat.le_refl _) ?_)
  case n1 => exact (Nat.min_eq_left h1).symm
  case s1 =>
    intro j v hj
    have h0 : j = 0 := by
      have := (List.getElem?_eq_some_iff.1 hj).1
      simp at this
      omega
    subst h0
    rw [Addr.add_lit]
    have e : v = .string s := by simpa using hj.symm
    rw [e]
    exact HS0.out
  case f1 => simp [empD]; omega
  case o1 => intro v hv; obtain rfl := List.mem_singleton.1 hv; rfl
  intro w1 hw1 hb1
  have HR1 : Hid (w1.heap[w.heap.size]? = some (.cells (rpD s 1 n).toArray 9 (0, 0))) := Lib.hid (by
    have q := hw1.out
    rw [← rpD_zero s n] at q
    have e : splice (rpD s 0 n) 0 [Value.string s] = rpD s 1 n := rpD_splice s 0 1 n (by omega)
    rw [e] at q
    exact q)
  have HB1 := Lib.hid hb1
  clear hw1 hb1 hmk HM
  go_wp2_with fail
  go_loopw [8] (fun i wr => ∃ k : Nat, i = .int .i64 (k : Int) ∧ 1 ≤ k ∧ k ≤ n ∧ wr.heap[w.heap.size]? = some (.cells (rpD s k n).toArray 9 (0, 0)) ∧ Below w.heap.size w wr) (fun i _ => n - (intOf i).toNat)
  case atStart => exact ⟨1, rfl, Nat.le_refl _, h1, HR1.out, HB1.out⟩
  case round =>
    obtain ⟨k, rfl, hk1, hk, hr, hb⟩ := hrel
    have HR := Lib.hid hr
    have HB := Lib.hid hb
    clear hr hb
    by_cases hlt : k < n
    · have hd1 : decide ((k : Int) < (n : Int)) = true := decide_eq_true (by omega)
      have hi0 : (0 : Int) ≤ (k : Int) := by omega
      have hi1 : (k : Int) ≤ (n : Int) := by omega
      obtain ⟨m, hm⟩ : ∃ m, m = Nat.min k (n - k) := ⟨_, rfl⟩
      have hm1 : m ≤ k := by rw [hm]; exact Nat.min_le_left _ _
      have hm2 : k + m ≤ n := by have : m ≤ n - k := by rw [hm]; exact Nat.min_le_right _ _
                                 omega
      have hm3 : 1 ≤ m := by rw [hm]; exact Nat.le_min.2 ⟨hk1, by omega⟩
      have HMm := Lib.hid hm
      clear hm
      have hs1 : IntKind.i64.wrap ((k : Int) + (m : Int)) = (k : Int) + (m : Int) := IntWalk.i64_in _ (by omega)
      have hnk : ¬ n = k := by omega
      go_upto_region 9 with (fail)
      refine wp_region_L_drew (S := fun _ _ => True) (by kernel_rfl) trivial (fun hS hC => ?_)
      refine wpAnyL_take (i := 0) (oi := { dst := some 38, op := .move (.tmp 8), type := _, pos := _, after := _, guard := none }) (v := ?_) rfl (by kernel_rfl) (by kernel_rfl) (by kernel_rfl) (fun _ _ _ h => h) (fun _ _ => Iff.rfl) hC (Or.inl ⟨by rfl, ?_⟩) hS (fun hC hS => ?_)
      rotate_left
      · intro W9 hSw; skip; go_simp; try (with_reducible rfl)
      try simp only [Act.put, List.setIfInBounds_toArray, List.set_cons_zero, List.set_cons_succ]
      refine wpAnyL_take (i := 1) (oi := { dst := some 39, op := .move (.tmp 7), type := _, pos := _, after := _, guard := none }) (v := ?_) rfl (by kernel_rfl) (by kernel_rfl) (by kernel_rfl) (fun _ _ _ h => h) (fun _ _ => Iff.rfl) hC (Or.inl ⟨by rfl, ?_⟩) hS (fun hC hS => ?_)
      rotate_left
      · intro W9 hSw; skip; go_simp; try (with_reducible rfl)
      try simp only [Act.put, List.setIfInBounds_toArray, List.set_cons_zero, List.set_cons_succ]
      refine wpAnyL_take (i := 2) (oi := { dst := some 40, op := .move (.tmp 8), type := _, pos := _, after := _, guard := none }) (v := ?_) rfl (by kernel_rfl) (by kernel_rfl) (by kernel_rfl) (fun _ _ _ h => h) (fun _ _ => Iff.rfl) hC (Or.inl ⟨by rfl, ?_⟩) hS (fun hC hS => ?_)
      rotate_left
      · intro W9 hSw; skip; go_simp; try (with_reducible rfl)
      try simp only [Act.put, List.setIfInBounds_toArray, List.set_cons_zero, List.set_cons_succ]
      refine wpAnyL_take (i := 3) (oi := { dst := some 41, op := .slice 30 (.tmp 39) (some (.tmp 40)) none none, type := _, pos := _, after := _, guard := none }) (v := ?_) rfl (by kernel_rfl) (by kernel_rfl) (by kernel_rfl) (fun _ _ _ h => h) (fun _ _ => Iff.rfl) hC (Or.inl ⟨by rfl, ?_⟩) hS (fun hC hS => ?_)
      rotate_left
      · intro W9 hSw; skip; go_simp; try (with_reducible rfl)
      try simp only [Act.put, List.setIfInBounds_toArray, List.set_cons_zero, List.set_cons_succ]
      refine wpAnyL_take (i := 4) (oi := { dst := some 42, op := .move (.tmp 7), type := _, pos := _, after := _, guard := none }) (v := ?_) rfl (by kernel_rfl) (by kernel_rfl) (by kernel_rfl) (fun _ _ _ h => h) (fun _ _ => Iff.rfl) hC (Or.inl ⟨by rfl, ?_⟩) hS (fun hC hS => ?_)
      rotate_left
      · intro W9 hSw; skip; go_simp; try (with_reducible rfl)
      try simp only [Act.put, List.setIfInBounds_toArray, List.set_cons_zero, List.set_cons_succ]
      refine wpAnyL_take (i := 5) (oi := { dst := some 43, op := .move (.tmp 8), type := _, pos := _, after := _, guard := none }) (v := ?_) rfl (by kernel_rfl) (by kernel_rfl) (by kernel_rfl) (fun _ _ _ h => h) (fun _ _ => Iff.rfl) hC (Or.inl ⟨by rfl, ?_⟩) hS (fun hC hS => ?_)
      rotate_left
      · intro W9 hSw; skip; go_simp; try (with_reducible rfl)
      try simp only [Act.put, List.setIfInBounds_toArray, List.set_cons_zero, List.set_cons_succ]
      refine wpAnyL_take (i := 6) (oi := { dst := some 44, op := .slice 30 (.tmp 42) none (some (.tmp 43)) none, type := _, pos := _, after := _, guard := none }) (v := ?_) rfl (by kernel_rfl) (by kernel_rfl) (by kernel_rfl) (fun _ _ _ h => h) (fun _ _ => Iff.rfl) hC (Or.inl ⟨by rfl, ?_⟩) hS (fun hC hS => ?_)
      rotate_left
      · intro W9 hSw; skip; go_simp; try (with_reducible rfl)
      try simp only [Act.put, List.setIfInBounds_toArray, List.set_cons_zero, List.set_cons_succ]
      refine wpAnyL_ready (rs := [7]) (by kernel_rfl) (by simp) hC ?_
      refine AllReadyL.cons (o := { dst := some 45, op := .call { callee := .builtin .copy, args := #[.tmp 41, .tmp 44], argTypes := #[30, 30] }, type := _, pos := _, after := _, guard := none }) rfl (fun K9 hK => ?_) ?_
      · skip
        refine step_copy_splice rfl (.tmp 41) (.tmp 44) 30 30 rfl 9 Tryz.underlying30 size_strD (some ⟨w.heap.size, k, none⟩) (some ⟨w.heap.size, 0, none⟩) (n - k) (n - k) k n ?d1 ?d2 w.heap.size k (rpD s k n) 9 HR.out (List.replicate m (.string s)) ?d3 (fun _ => ⟨rfl, _, rfl, ?d4⟩) ?d5 ?d6 w.heap.size w HB.out.drew (Nat.le_refl _) ?_
        case d1 => first | rfl | (trace_state; sorry)
        case d2 => first | rfl | (trace_state; sorry)
        case d3 => rw [List.length_replicate]; exact HMm.out
        case d4 =>
          intro j v hj
          have hjm : j < m := by
            have := (List.getElem?_eq_some_iff.1 hj).1
            simpa using this
          have e : v = .string s := by
            rw [List.getElem?_replicate, if_pos hjm] at hj
            simpa using hj.symm
          rw [Addr.add_lit, Nat.zero_add, e, cell_of_row _ _ _ _ _ _ (show wr.drew.heap[w.heap.size]? = _ from HR.out)]
          unfold rpD
          rw [List.getElem?_toArray, List.getElem?_append_left (by simp; omega), List.getElem?_replicate, if_pos (by omega)]
        case d5 => rw [List.length_replicate, rpD_len s k n hk]; exact hm2
        case d6 => intro v hv; obtain ⟨_, rfl⟩ := List.mem_replicate.1 hv; rfl
        intro w2 hw2 hb2
        have HR2 : Hid (w2.heap[w.heap.size]? = some (.cells (rpD s (k + m) n).toArray 9 (0, 0))) := Lib.hid (by rw [← rpD_splice s k m n hm2]; exact hw2.out)
        have HB2 := Lib.hid hb2
        clear hw2 hb2
        rw [List.length_replicate]
        refine hK _ _ trivial (fun hC => ?_)
        clear hK K9
        try simp only [Act.put, List.setIfInBounds_toArray, List.set_cons_zero, List.set_cons_succ]
        refine wpAnyL_take (i := 8) (oi := { dst := some 46, op := .binOp .add 3 (.tmp 38) (.tmp 45) 3, type := _, pos := _, after := _, guard := none }) (v := ?_) rfl (by kernel_rfl) (by kernel_rfl) (by kernel_rfl) (fun _ _ _ h => h) (fun _ _ => Iff.rfl) hC (Or.inl ⟨by rfl, ?_⟩) trivial (fun hC hS => ?_)
        rotate_left
        · intro W9 hSw; skip; go_simp; try (with_reducible rfl)
        try simp only [Act.put, List.setIfInBounds_toArray, List.set_cons_zero, List.set_cons_succ]
        refine wpAnyL_take (i := 9) (oi := { dst := some 8, op := .assign (.tmp 46), type := _, pos := _, after := _, guard := none }) (v := ?_) rfl (by kernel_rfl) (by kernel_rfl) (by kernel_rfl) (fun _ _ _ h => h) (fun _ _ => Iff.rfl) hC (Or.inl ⟨by rfl, ?_⟩) trivial (fun hC hS => ?_)
        rotate_left
        · intro W9 hSw; skip; go_simp; try (with_reducible rfl)
        try simp only [Act.put, List.setIfInBounds_toArray, List.set_cons_zero, List.set_cons_succ]
        refine wpAnyL_done (by kernel_rfl) ?_ _
        go_wp2_with fail
        go_roundw
        case rel => exact ⟨k + m, by first | go_num | (simp [goInt]; done) | (simp [goInt]; omega), by omega, hm2, HR2.out, HB2.out⟩
        case measure => simp [intOf] <;> omega
      exact AllReadyL.nil
    · have hd1 : decide ((k : Int) < (n : Int)) = false := decide_eq_false (by omega)
      have hke : k = n := by omega
      subst hke
      have HF := Lib.hid (show RdX stC 1 wr (some ⟨w.heap.size, 0, none⟩) k (List.replicate k s) from ⟨by simp, fun _ => ⟨w.heap.size, 0, rfl, lt_of_block HR.out, fun j x i u hj hu => by
        have hjm := (List.getElem?_eq_some_iff.1 hj).1
        have hi := (List.getElem?_eq_some_iff.1 hu).1
        simp [stC] at hi
        subst hi
        have e2 := HR.out
        rw [rpD_all] at e2
        rw [cell_of_row _ _ _ _ _ _ e2, Nat.zero_add, Nat.mul_one, Nat.add_zero, List.getElem?_toArray, List.getElem?_map, hj]
        exact hu⟩⟩)
      go_wp2_with fail
      go_ret
      exact ⟨_, rfl, HF.out, HB.out⟩
theorem repZ : (⟨(Lib.repeatL [(0 : UInt8)] 128).toArray⟩ : ByteArray) = noZ := by
  have h : ∀ k, Lib.repeatL [(0 : UInt8)] k = List.replicate k 0 := fun k => by
    induction k with
    | zero => rfl
    | succ k ih => rw [List.replicate_succ, ← ih]; rfl
  unfold noZ zsD
  rw [h]
set_option maxRecDepth 100000 in
theorem dnew_no (n : Int) (w : World) (h : ¬ (16 ≤ n ∧ n ≤ 4096)) : Calls Tryz.prog 8 #[.int .i64 n] w (NoD w) := by
  have HZ := dsize_any n w
  rw [decide_eq_false h] at HZ
  have HZ := Lib.hid HZ
  clear h
  go_enter Tryz.func8, Tryz.ntmps8
  go_wp2_with fail
  refine HZ.out.mono ?_
  rintro e w' ⟨rfl, rfl⟩
  go_wp2_with fail
  go_ret2
  exact ⟨rfl, Below.refl _ _⟩
theorem may_new (n : Nat) (h1 : 16 ≤ n) (h2 : n ≤ 4096) : true = mayI (List.replicate n noZ) [] := by
  unfold mayI
  rw [List.length_replicate, decide_eq_true (by omega), decide_eq_true (by simp)]
  have : (List.replicate n noZ).any badS = false := by
    rw [List.any_eq_false]
    intro x hx
    obtain ⟨_, rfl⟩ := List.mem_replicate.1 hx
    unfold badS
    rw [decide_eq_true noZ_size]
    simp
  rw [this]
  rfl
set_option maxRecDepth 100000 in
set_option maxHeartbeats 2000000 in
theorem dnew_yes (n : Nat) (w : World) (h1 : 16 ≤ n) (h2 : n ≤ 4096) : Calls Tryz.prog 8 #[.int .i64 (n : Int)] w (NewD (List.replicate n noZ) [] w) := by
  have HZ := dsize_any (n : Int) w
  rw [decide_eq_true (by omega)] at HZ
  have HZ := Lib.hid HZ
  have HS := Lib.hid (Tryz.strings_Repeat ⟨#[0]⟩ 128 w (by omega) (by show 1 * 128 ≤ _; omega))
  have HE := Lib.hid repZ
  have HMY := Lib.hid (may_new n h1 h2)
  go_enter Tryz.func8, Tryz.ntmps8
  go_wp2_with fail
  refine HZ.out.mono ?_
  rintro e w' ⟨rfl, rfl⟩
  go_wp2_with fail
  refine HS.out.mono ?_
  rintro e w1 ⟨he, hb1⟩
  have hz : Ending.returned (.string ⟨(Lib.repeatL (⟨#[0]⟩ : ByteArray).data.toList 128).toArray⟩) = Ending.returned (.string noZ) := congrArg (fun x => Ending.returned (Value.string x)) HE.out
  rw [hz] at he
  subst he
  have HB1 := Lib.hid hb1
  clear hb1 hz
  have HB2 := Lib.hid (HB1.out.alloc HB1.out.size (.cells #[.string noZ] 9 (0, 0)))
  have HX := Lib.hid (blk_new w1 (.cells #[.string noZ] 9 (0, 0)))
  have HR := Lib.hid (drepeat_any noZ w1.heap.size 1 n _ ((cell_of_row _ _ 0 _ _ _ HX.out).trans rfl) (by omega) h2)
  go_wp2_with fail
  refine HR.out.mono ?_
  rintro e w2 ⟨A, rfl, hr, hb2⟩
  have HB3 := Lib.hid (HB2.out.trans (hb2.mono HB2.out.size))
  have HRD : Hid (RdX stC 1 w2 (some A) (List.replicate n noZ).length (List.replicate n noZ)) := Lib.hid (by rw [List.length_replicate]; exact hr)
  have HL := dload_any (some A) n none 0 (List.replicate n noZ) [] w2 HRD.out RdX.nil (by rw [List.length_replicate]; omega) (by simp) true HMY.out
  rw [List.length_replicate] at HL
  have HL := Lib.hid HL
  clear hr hb2
  go_wp2_with fail
  refine HL.out.mono ?_
  rintro e w3 ⟨hy, _⟩
  obtain ⟨D, rfl, hd, hi, hb3⟩ := hy (by first | rfl | trivial)
  have HD := Lib.hid hd
  have HI := Lib.hid hi
  have HB4 := Lib.hid (HB3.out.trans (hb3.mono HB3.out.size))
  clear hy hd hi hb3
  go_wp2_with fail
  go_ret2
  exact ⟨D, rfl, HD.out, fun b q => Nat.le_trans HB3.out.size (HI.out b q), HB4.out⟩
end Go.Proofs.YtiflieaemgamkaaGreatDoor

namespace Go.Proofs.YtiflieaemgamkaaGreatDoor
open Go.RowKit Vi

theorem InD.back {D : Nat} {w w' : World} (hb : Below w.heap.size w w') (hD : D < w.heap.size) {b : Nat} (q : InD D w' b) : InD D w b := by
  rcases q with q | ⟨o, n, c, q⟩ | ⟨o, n, c, q⟩
  · exact .inl q
  · exact .inr (.inl ⟨o, n, c, by rw [← hb.cell (p := ⟨D, 0, none⟩) hD]; exact q⟩)
  · exact .inr (.inr ⟨o, n, c, by rw [← hb.cell (p := ⟨D, 1, none⟩) hD]; exact q⟩)
/-- the program's disk is d, its blocks lie from n on, what lay below n of w0 lies as it lay -/
structure DW (n : Nat) (w0 : World) (D : Nat) (d : Ds) (w : World) : Prop where
  dk : DK D d.S d.C d.go d.op d.ar w
  far : ∀ b, InD D w b → n ≤ b
  bel : Below n w0 w
  sz : n ≤ w.heap.size
theorem DW.lt {n : Nat} {w0 : World} {D : Nat} {d : Ds} {w : World} (h : DW n w0 D d w) : D < w.heap.size := h.dk.lt
theorem DW.kd {n : Nat} {w0 : World} {D : Nat} {d d' : Ds} {w w' : World} (h : DW n w0 D d w) (k : Kd D w w') (h' : DK D d'.S d'.C d'.go d'.op d'.ar w') : DW n w0 D d' w' :=
  ⟨h', fun b q => by
    rcases Nat.lt_or_ge b w.heap.size with hb | hb
    · exact h.far b (k.ind b hb q)
    · exact Nat.le_trans h.sz hb, ⟨k.os.trans h.bel.os, k.tape.trans h.bel.tape, k.output.trans h.bel.output, Nat.le_trans h.bel.size k.size, fun b hb => (k.block b (Nat.lt_of_lt_of_le hb h.sz) (fun q => by have := h.far b q; omega)).trans (h.bel.block b hb)⟩, Nat.le_trans h.sz k.size⟩
theorem DW.below {n : Nat} {w0 : World} {D : Nat} {d : Ds} {w w' : World} (h : DW n w0 D d w) (hb : Below w.heap.size w w') : DW n w0 D d w' := h.kd (Kd.of_below hb h.lt) (h.dk.kept hb)
/-- few enough of all -/
structure DsOk (k : Nat) (d : Ds) : Prop where
  s1 : 16 ≤ d.S.length
  s2 : d.S.length ≤ 4096
  c : d.C.length ≤ 4096 + k
  a1 : 0 ≤ d.ar
  a2 : d.ar ≤ 9223372036854775807
  o1 : 0 ≤ d.op
  o2 : d.op ≤ (k : Int)
/-- a write -/
def Ds.wrE (d : Ds) (i : Int) (s : ByteArray) : Int := if d.go = true then 7 else if dckE d.S.length i s ≠ 0 then dckE d.S.length i s else stpE d.ar
def Ds.wrt (d : Ds) (i : Int) (s : ByteArray) : Ds := if d.go = true then d else if dckE d.S.length i s ≠ 0 then d else ⟨d.S, wrtC d.ar d.C i s, stpF d.ar, stpD d.ar, stpO d.op d.ar⟩
/-- a flush -/
def Ds.flE (d : Ds) : Int := if d.go = true then 7 else stpE d.ar
def Ds.fls (d : Ds) : Ds := if d.go = true then d else ⟨flsS d.ar d.S d.C, stpC d.ar d.C, stpF d.ar, stpD d.ar, stpO d.op d.ar⟩
def Ds.arm (d : Ds) (k : Int) : Ds := if armE d.go k = 0 then ⟨d.S, d.C, k, d.go, d.op⟩ else d
def Ds.crash (d : Ds) (ks : List Int) : Ds := ⟨setP (inK ks) 0 d.C d.S, [], 0, true, d.op⟩
def Ds.boot (d : Ds) : Ds := ⟨d.S, [], 0, false, d.op⟩
def Ds.over (d : Ds) (i : Int) (s : ByteArray) : Ds := ⟨overS d.S i s, d.C, d.ar, d.go, d.op⟩
def Ds.rdE (d : Ds) (i : Int) : Int := if d.go = true then 7 else if 0 ≤ i ∧ i < (d.S.length : Int) then 0 else 8
def Ds.rdS (d : Ds) (i : Int) : ByteArray := if d.rdE i = 0 then shw d.S d.C i else ⟨#[]⟩
def Ds.red (d : Ds) (i : Int) : Ds := if d.rdE i = 0 then ⟨d.S, d.C, d.ar, d.go, d.op + 1⟩ else d
theorem setP_none (C : List Wr) (k : Nat) (S : List ByteArray) : setP (inK []) k C S = S := by
  induction C generalizing k S with
  | nil => rfl
  | cons x r ih => exact ih _ _
theorem setP_all (C : List Wr) (k : Nat) (S : List ByteArray) : setP allK k C S = safeW S C := by
  induction C generalizing k S with
  | nil => rfl
  | cons x r ih => exact ih _ _
theorem stpF_bd {a : Int} (h1 : 0 ≤ a) (h2 : a ≤ 9223372036854775807) : 0 ≤ stpF a ∧ stpF a ≤ 9223372036854775807 := by unfold stpF; split <;> omega
theorem stpO_bd {o a : Int} : o ≤ stpO o a ∧ stpO o a ≤ o + 1 := by unfold stpO; split <;> omega
theorem DsOk.wrt {k : Nat} {d : Ds} (h : DsOk k d) (i : Int) (s : ByteArray) : DsOk (k + 1) (d.wrt i s) := by
  obtain ⟨h1, h2, h3, h4, h5, h6, h7⟩ := h
  have f := stpF_bd h4 h5
  have o := stpO_bd (o := d.op) (a := d.ar)
  unfold Ds.wrt
  split
  · exact ⟨h1, h2, by omega, h4, h5, h6, by omega⟩
  · split
    · exact ⟨h1, h2, by omega, h4, h5, h6, by omega⟩
    · refine ⟨h1, h2, ?_, f.1, f.2, by show 0 ≤ stpO _ _; omega, by show stpO _ _ ≤ _; omega⟩
      show (wrtC d.ar d.C i s).length ≤ _
      unfold wrtC
      split
      · omega
      · rw [List.length_append]; simp; omega
theorem flsS_len (a : Int) (S : List ByteArray) (C : List Wr) : (flsS a S C).length = S.length := by unfold flsS; split; rfl; exact setP_len _ _ _ _
theorem DsOk.fls {k : Nat} {d : Ds} (h : DsOk k d) : DsOk (k + 1) d.fls := by
  obtain ⟨h1, h2, h3, h4, h5, h6, h7⟩ := h
  have f := stpF_bd h4 h5
  have o := stpO_bd (o := d.op) (a := d.ar)
  have hl := flsS_len d.ar d.S d.C
  unfold Ds.fls
  split
  · exact ⟨h1, h2, by omega, h4, h5, h6, by omega⟩
  · refine ⟨by show 16 ≤ (flsS _ _ _).length; omega, by show (flsS _ _ _).length ≤ _; omega, ?_, f.1, f.2, by show 0 ≤ stpO _ _; omega, by show stpO _ _ ≤ _; omega⟩
    show (stpC d.ar d.C).length ≤ _
    unfold stpC
    split
    · omega
    · simp
theorem DsOk.arm {k : Nat} {d : Ds} (h : DsOk k d) (n : Int) (hn : n ≤ 9223372036854775807) : DsOk (k + 1) (d.arm n) := by
  obtain ⟨h1, h2, h3, h4, h5, h6, h7⟩ := h
  unfold Ds.arm
  split
  · next q =>
    have : ¬ n < 0 := fun e => by
      unfold armE at q
      by_cases hg : d.go = true
      · rw [if_pos hg] at q; cases q
      · rw [if_neg hg, if_pos e] at q; cases q
    exact ⟨h1, h2, by show d.C.length ≤ _; omega, by show 0 ≤ n; omega, hn, h6, by show d.op ≤ _; omega⟩
  · exact ⟨h1, h2, by omega, h4, h5, h6, by omega⟩
theorem DsOk.crash {k : Nat} {d : Ds} (h : DsOk k d) (ks : List Int) : DsOk (k + 1) (d.crash ks) := by
  have hl := setP_len (inK ks) d.C 0 d.S
  exact ⟨by show 16 ≤ (setP _ _ _ _).length; rw [hl]; exact h.s1, by show (setP _ _ _ _).length ≤ _; rw [hl]; exact h.s2, Nat.zero_le _, Int.le_refl _, by show (0 : Int) ≤ _; omega, h.o1, by have := h.o2; show d.op ≤ _; omega⟩
theorem DsOk.boot {k : Nat} {d : Ds} (h : DsOk k d) : DsOk (k + 1) d.boot := ⟨h.s1, h.s2, Nat.zero_le _, Int.le_refl _, by show (0 : Int) ≤ _; omega, h.o1, by have := h.o2; show d.op ≤ _; omega⟩
theorem overS_len (S : List ByteArray) (i : Int) (s : ByteArray) : (overS S i s).length = S.length := by unfold overS; split; rw [List.length_set]; rfl
theorem DsOk.over {k : Nat} {d : Ds} (h : DsOk k d) (i : Int) (s : ByteArray) : DsOk (k + 1) (d.over i s) := by
  have hl := overS_len d.S i s
  exact ⟨by show 16 ≤ (overS _ _ _).length; rw [hl]; exact h.s1, by show (overS _ _ _).length ≤ _; rw [hl]; exact h.s2, by have := h.c; show d.C.length ≤ _; omega, h.a1, h.a2, h.o1, by have := h.o2; show d.op ≤ _; omega⟩
theorem DsOk.red {k : Nat} {d : Ds} (h : DsOk k d) (i : Int) : DsOk (k + 1) (d.red i) := by
  unfold Ds.red
  split
  · exact ⟨h.s1, h.s2, by have := h.c; show d.C.length ≤ _; omega, h.a1, h.a2, by have := h.o1; show 0 ≤ d.op + 1; omega, by have := h.o2; show d.op + 1 ≤ _; omega⟩
  · exact ⟨h.s1, h.s2, by have := h.c; omega, h.a1, h.a2, h.o1, by have := h.o2; omega⟩
theorem DsOk.up {k : Nat} {d : Ds} (h : DsOk k d) : DsOk (k + 1) d := ⟨h.s1, h.s2, by have := h.c; omega, h.a1, h.a2, h.o1, by have := h.o2; omega⟩
/-- a number, and the disk then -/
def PI (n : Nat) (w0 : World) (D : Nat) (d : Ds) (z : Int) (w : World) (e : Ending) (w' : World) : Prop := e = .returned (.int .i64 z) ∧ DW n w0 D d w' ∧ Kd D w w'
section
variable {n : Nat} {w0 : World} {D : Nat} {d : Ds} {w : World} {k : Nat}
theorem pwrite (h : DW n w0 D d w) (o : DsOk k d) (hk : k ≤ 1000) (i : Int) (s : ByteArray) : Calls Tryz.prog 109 #[.pointer (some ⟨D, 0, none⟩), .int .i64 i, .string s] w (PI n w0 D (d.wrt i s) (d.wrE i s) w) := by
  obtain ⟨SS, CC, ar, go, op⟩ := d
  have hd : DK D SS CC go op ar w := h.dk
  have o1 : 0 ≤ op := o.o1
  have o2 : op ≤ (k : Int) := o.o2
  have hc : CC.length ≤ 4096 + k := o.c
  unfold Ds.wrt Ds.wrE
  dsimp only
  cases go with
  | true => exact (dwrite_down D SS CC op ar i s w hd).mono fun _ _ ⟨h1, h2, h3⟩ => ⟨h1, h.kd h3 h2, h3⟩
  | false =>
    rw [if_neg Bool.false_ne_true, if_neg Bool.false_ne_true]
    by_cases hq : dckE SS.length i s = 0
    · rw [if_neg (fun h => h hq), if_neg (fun h => h hq)]
      exact (dwrite_up D SS CC op ar i s w hd hq ⟨by omega, by omega⟩ ⟨o.a1, o.a2⟩ (by omega)).mono fun _ _ ⟨h1, h2, h3⟩ => ⟨h1, h.kd h3 h2, h3⟩
    · rw [if_pos hq, if_pos hq]
      exact (dwrite_no D SS CC op ar i s w hd hq).mono fun _ _ ⟨h1, h2, h3⟩ => ⟨h1, h.kd h3 h2, h3⟩
theorem pflush (h : DW n w0 D d w) (o : DsOk k d) (hk : k ≤ 1000) : Calls Tryz.prog 55 #[.pointer (some ⟨D, 0, none⟩)] w (PI n w0 D d.fls d.flE w) := by
  obtain ⟨SS, CC, ar, go, op⟩ := d
  have hd : DK D SS CC go op ar w := h.dk
  have o1 : 0 ≤ op := o.o1
  have o2 : op ≤ (k : Int) := o.o2
  unfold Ds.fls Ds.flE
  dsimp only
  cases go with
  | true => exact (dflush_down D SS CC op ar w hd).mono fun _ _ ⟨h1, h2, h3⟩ => ⟨h1, h.kd h3 h2, h3⟩
  | false =>
    rw [if_neg Bool.false_ne_true, if_neg Bool.false_ne_true]
    have e : flsS ar SS CC = stpS ar SS CC := by unfold flsS stpS; rw [setP_all]
    refine (dflush_up D SS CC op ar w hd ⟨by omega, by omega⟩ ⟨o.a1, o.a2⟩).mono fun _ w' ⟨h1, h2, h3⟩ => ⟨h1, h.kd h3 ?_, h3⟩
    show DK D (flsS ar SS CC) (stpC ar CC) (stpD ar) (stpO op ar) (stpF ar) w'
    rw [e]; exact h2
theorem parm (h : DW n w0 D d w) (z : Int) : Calls Tryz.prog 22 #[.pointer (some ⟨D, 0, none⟩), .int .i64 z] w (PI n w0 D (d.arm z) (armE d.go z) w) := by
  refine (darm_any D d.S d.C d.go d.op d.ar z w h.dk).mono fun _ _ ⟨h1, h2, h3⟩ => ⟨h1, h.kd h3 ?_, h3⟩
  unfold armF at h2
  unfold Ds.arm
  split
  · next q => rw [if_pos q] at h2; exact h2
  · next q => rw [if_neg q] at h2; exact h2
theorem pcrash (h : DW n w0 D d w) (o : DsOk k d) (hk : k ≤ 1000) (A : Option Addr) (m c : Nat) (ks : List Int) (hr : RdX inC 1 w A m ks) (hw : ∀ x ∈ ks, (Lit.int .i64 x).wf = true) (hm : m ≤ maxLen) : Calls Tryz.prog 23 #[.pointer (some ⟨D, 0, none⟩), .slice A m c] w (PI n w0 D (d.crash ks) 0 w) :=
  (dcrash_any D d.S d.C d.go d.op d.ar A m c ks w h.dk hr hw hm (by have := o.c; omega)).mono fun _ _ ⟨h1, h2, h3⟩ => ⟨h1, h.kd h3 h2, h3⟩
theorem pboot (h : DW n w0 D d w) : Calls Tryz.prog 24 #[.pointer (some ⟨D, 0, none⟩)] w (PI n w0 D d.boot 0 w) :=
  (dboot_any D d.S d.C d.go d.op d.ar w h.dk).mono fun _ _ ⟨h1, h2, h3⟩ => ⟨h1, h.kd h3 h2, h3⟩
theorem pover (h : DW n w0 D d w) (i : Int) (s : ByteArray) : Calls Tryz.prog 19 #[.pointer (some ⟨D, 0, none⟩), .int .i64 i, .string s] w (PI n w0 D (d.over i s) (dckE d.S.length i s) w) :=
  (dover_any D d.S d.C d.go d.op d.ar i s w h.dk).mono fun _ _ ⟨h1, h2, h3⟩ => ⟨h1, h.kd h3 h2, h3⟩
/-- a text and a number, and the disk then -/
def PSI (n : Nat) (w0 : World) (D : Nat) (d : Ds) (s : ByteArray) (z : Int) (w : World) (e : Ending) (w' : World) : Prop := e = .returned (.tuple #[.string s, .int .i64 z]) ∧ DW n w0 D d w' ∧ Kd D w w'
theorem pread (h : DW n w0 D d w) (o : DsOk k d) (hk : k ≤ 1000) (i : Int) : Calls Tryz.prog 99 #[.pointer (some ⟨D, 0, none⟩), .int .i64 i] w (PSI n w0 D (d.red i) (d.rdS i) (d.rdE i) w) := by
  obtain ⟨SS, CC, ar, go, op⟩ := d
  have hd : DK D SS CC go op ar w := h.dk
  have o1 : 0 ≤ op := o.o1
  have o2 : op ≤ (k : Int) := o.o2
  have hc : CC.length ≤ 4096 + k := o.c
  cases go with
  | true =>
    have e : Ds.rdE ⟨SS, CC, ar, true, op⟩ i = 7 := if_pos rfl
    unfold Ds.red Ds.rdS
    rw [e, if_neg (by decide), if_neg (by decide)]
    exact (dread_down D SS CC op ar i w hd).mono fun _ _ ⟨h1, h2⟩ => by subst h2; exact ⟨h1, h, Kd.refl _ _⟩
  | false =>
    by_cases hi : 0 ≤ i ∧ i < (SS.length : Int)
    · have e : Ds.rdE ⟨SS, CC, ar, false, op⟩ i = 0 := by unfold Ds.rdE; rw [if_neg Bool.false_ne_true, if_pos hi]
      unfold Ds.red Ds.rdS
      rw [e, if_pos rfl, if_pos rfl]
      exact (dread_up D SS CC op ar i w hd hi (by omega) ⟨by omega, by omega⟩).mono fun _ _ ⟨h1, h2, h3⟩ => ⟨h1, h.kd h3 h2, h3⟩
    · have e : Ds.rdE ⟨SS, CC, ar, false, op⟩ i = 8 := by unfold Ds.rdE; rw [if_neg Bool.false_ne_true, if_neg hi]
      unfold Ds.red Ds.rdS
      rw [e, if_neg (by decide), if_neg (by decide)]
      exact (dread_no D SS CC op ar i w hd hi).mono fun _ _ ⟨h1, h2⟩ => by subst h2; exact ⟨h1, h, Kd.refl _ _⟩
end
/-- the document's disk as a value: its rows -/
structure RV (P : Nat → Prop) (d : Ds) (A : Option Addr) (n : Nat) (A2 : Option Addr) (n2 : Nat) (w : World) : Prop where
  s : RdP P stC 1 w A n d.S
  c : RdP P wrC 2 w A2 n2 d.C
section
variable {P : Nat → Prop} {d : Ds} {A : Option Addr} {n c : Nat} {A2 : Option Addr} {n2 c2 : Nat} {w : World} {k : Nat}
theorem RV.ns (h : RV P d A n A2 n2 w) : d.S.length = n := h.s.1.1
theorem RV.nc (h : RV P d A n A2 n2 w) : d.C.length = n2 := h.c.1.1
theorem qwrite (h : RV P d A n A2 n2 w) (o : DsOk k d) (hk : k ≤ 1000) (hP : ∀ b, w.heap.size ≤ b → P b) (i : Int) (s : ByteArray) : Calls Tryz.prog 90 #[rdv A n c A2 n2 c2 d.ar d.go d.op, .int .i64 i, .string s] w (RetDI P (d.wrt i s) (d.wrE i s) w) := by
  obtain ⟨SS, CC, ar, go, op⟩ := d
  have o1 : 0 ≤ op := o.o1
  have o2 : op ≤ (k : Int) := o.o2
  have hs : SS.length = n := h.ns
  have hc : CC.length = n2 := h.nc
  have hs2 : SS.length ≤ 4096 := o.s2
  have hc2 : CC.length ≤ 4096 + k := o.c
  unfold Ds.wrt Ds.wrE
  dsimp only
  cases go with
  | true => exact rwrite_gone P SS CC ar op A n c A2 n2 c2 i s w h.s h.c
  | false =>
    rw [if_neg Bool.false_ne_true, if_neg Bool.false_ne_true]
    by_cases hi : 0 ≤ i ∧ i < (SS.length : Int)
    · by_cases hz : s.size = 128
      · have e : dckE SS.length i s = 0 := by unfold dckE; rw [if_pos hi, if_pos hz]
        rw [e, if_neg (fun h => h rfl), if_neg (fun h => h rfl)]
        exact rwrite_up P SS CC ar op A n c A2 n2 c2 i s w h.s h.c hi hz ⟨o.a1, o.a2⟩ ⟨by omega, by omega⟩ (by omega) (by omega) hP
      · have e : dckE SS.length i s = 2 := by unfold dckE; rw [if_pos hi, if_neg hz]
        rw [e, if_pos (by decide), if_pos (by decide)]
        exact rwrite_len P SS CC ar op A n c A2 n2 c2 i s w h.s h.c hi hz
    · have e : dckE SS.length i s = 8 := by unfold dckE; rw [if_neg hi]
      rw [e, if_pos (by decide), if_pos (by decide)]
      exact rwrite_out P SS CC ar op A n c A2 n2 c2 i s w h.s h.c hi
theorem qflush (h : RV P d A n A2 n2 w) (o : DsOk k d) (hk : k ≤ 1000) (hP : ∀ b, w.heap.size ≤ b → P b) (hok : ∀ x ∈ d.C, 0 ≤ x.1 ∧ x.1 < (d.S.length : Int) ∧ x.2.size = 128) : Calls Tryz.prog 92 #[rdv A n c A2 n2 c2 d.ar d.go d.op] w (RetDI P d.fls d.flE w) := by
  obtain ⟨SS, CC, ar, go, op⟩ := d
  have o1 : 0 ≤ op := o.o1
  have o2 : op ≤ (k : Int) := o.o2
  have hs : SS.length = n := h.ns
  have hc : CC.length = n2 := h.nc
  have hs2 : SS.length ≤ 4096 := o.s2
  have hc2 : CC.length ≤ 4096 + k := o.c
  unfold Ds.fls Ds.flE
  dsimp only
  cases go with
  | true => exact rflush_gone P SS CC ar op A n c A2 n2 c2 w h.s h.c
  | false =>
    rw [if_neg Bool.false_ne_true, if_neg Bool.false_ne_true]
    exact rflush_up P SS CC ar op A n c A2 n2 c2 w h.s h.c hok ⟨o.a1, o.a2⟩ ⟨by omega, by omega⟩ (by omega) (by omega) hP
theorem qarm (h : RV P d A n A2 n2 w) (z : Int) : Calls Tryz.prog 43 #[rdv A n c A2 n2 c2 d.ar d.go d.op, .int .i64 z] w (RetDI P (d.arm z) (armE d.go z) w) := by
  obtain ⟨SS, CC, ar, go, op⟩ := d
  unfold Ds.arm
  dsimp only
  cases go with
  | true =>
    have e : armE true z = 7 := rfl
    rw [e, if_neg (by decide)]
    exact rarm_gone P SS CC ar op A n c A2 n2 c2 z w h.s h.c
  | false =>
    by_cases hz : z < 0
    · have e : armE false z = 2 := by unfold armE; rw [if_neg Bool.false_ne_true, if_pos hz]
      rw [e, if_neg (by decide)]
      exact rarm_no P SS CC ar op A n c A2 n2 c2 z w h.s h.c hz
    · have e : armE false z = 0 := by unfold armE; rw [if_neg Bool.false_ne_true, if_neg hz]
      rw [e, if_pos rfl]
      exact rarm_yes P SS CC ar op A n c A2 n2 c2 z w h.s h.c hz
theorem qcrash (h : RV P d A n A2 n2 w) (o : DsOk k d) (hk : k ≤ 1000) (hP : ∀ b, w.heap.size ≤ b → P b) (hok : ∀ x ∈ d.C, 0 ≤ x.1 ∧ x.1 < (d.S.length : Int) ∧ x.2.size = 128) (A3 : Option Addr) (m c3 : Nat) (ks : List Int) (hr : RdX inC 1 w A3 m ks) (hm : m ≤ maxLen) : Calls Tryz.prog 45 #[rdv A n c A2 n2 c2 d.ar d.go d.op, .slice A3 m c3] w (RetD P (d.crash ks) w) := by
  have hs := h.ns
  have hc := h.nc
  have hs2 := o.s2
  have hc2 := o.c
  exact rcrash_any P d.S d.C d.ar d.go d.op A n c A2 n2 c2 A3 m c3 ks w h.s h.c hok hr hm (by omega) (by omega) hP
theorem qboot (h : RV P d A n A2 n2 w) (o : DsOk k d) (hk : k ≤ 1000) (hP : ∀ b, w.heap.size ≤ b → P b) (hok : ∀ x ∈ d.C, 0 ≤ x.1 ∧ x.1 < (d.S.length : Int) ∧ x.2.size = 128) : Calls Tryz.prog 44 #[rdv A n c A2 n2 c2 d.ar d.go d.op] w (RetD P d.boot w) := by
  have hs := h.ns
  have hc := h.nc
  have hs2 := o.s2
  have hc2 := o.c
  have q := rboot_any P d.S d.C d.ar d.go d.op A n c A2 n2 c2 w h.s h.c hok (by omega) (by omega) hP
  rw [setP_none] at q
  exact q
theorem qover (h : RV P d A n A2 n2 w) (o : DsOk k d) (hk : k ≤ 1000) (hP : ∀ b, w.heap.size ≤ b → P b) (i : Int) (s : ByteArray) : Calls Tryz.prog 46 #[rdv A n c A2 n2 c2 d.ar d.go d.op, .int .i64 i, .string s] w (RetDI P (d.over i s) (dckE d.S.length i s) w) := by
  have hs := h.ns
  have hc := h.nc
  have hs2 := o.s2
  have hc2 := o.c
  unfold Ds.over overS
  by_cases hi : 0 ≤ i ∧ i < (d.S.length : Int)
  · by_cases hz : s.size = 128
    · have e : dckE d.S.length i s = 0 := by unfold dckE; rw [if_pos hi, if_pos hz]
      rw [e, if_pos rfl]
      exact rover_yes P d.S d.C d.ar d.go d.op A n c A2 n2 c2 i s w h.s h.c hi hz (by omega) (by omega) hP
    · have e : dckE d.S.length i s = 2 := by unfold dckE; rw [if_pos hi, if_neg hz]
      rw [e, if_neg (by decide)]
      exact rover_len P d.S d.C d.ar d.go d.op A n c A2 n2 c2 i s w h.s h.c hi hz
  · have e : dckE d.S.length i s = 8 := by unfold dckE; rw [if_neg hi]
    rw [e, if_neg (by decide)]
    exact rover_out P d.S d.C d.ar d.go d.op A n c A2 n2 c2 i s w h.s h.c hi
theorem qread (h : RV P d A n A2 n2 w) (o : DsOk k d) (hk : k ≤ 1000) (i : Int) : Calls Tryz.prog 87 #[rdv A n c A2 n2 c2 d.ar d.go d.op, .int .i64 i] w (RetDSI P (d.red i) (d.rdS i) (d.rdE i) w) := by
  obtain ⟨SS, CC, ar, go, op⟩ := d
  have o1 : 0 ≤ op := o.o1
  have o2 : op ≤ (k : Int) := o.o2
  have hc : CC.length = n2 := h.nc
  have hc2 : CC.length ≤ 4096 + k := o.c
  cases go with
  | true =>
    have e : Ds.rdE ⟨SS, CC, ar, true, op⟩ i = 7 := if_pos rfl
    unfold Ds.red Ds.rdS
    rw [e, if_neg (by decide), if_neg (by decide)]
    exact rread_gone P SS CC ar op A n c A2 n2 c2 i w h.s h.c
  | false =>
    by_cases hi : 0 ≤ i ∧ i < (SS.length : Int)
    · have e : Ds.rdE ⟨SS, CC, ar, false, op⟩ i = 0 := by unfold Ds.rdE; rw [if_neg Bool.false_ne_true, if_pos hi]
      unfold Ds.red Ds.rdS
      rw [e, if_pos rfl, if_pos rfl]
      exact rread_up P SS CC ar op A n c A2 n2 c2 i w h.s h.c hi (by omega) ⟨by omega, by omega⟩
    · have e : Ds.rdE ⟨SS, CC, ar, false, op⟩ i = 8 := by unfold Ds.rdE; rw [if_neg Bool.false_ne_true, if_neg hi]
      unfold Ds.red Ds.rdS
      rw [e, if_neg (by decide), if_neg (by decide)]
      exact rread_out P SS CC ar op A n c A2 n2 c2 i w h.s h.c hi
end
end Go.Proofs.YtiflieaemgamkaaGreatDoor

namespace Go.Proofs.YtiflieaemgamkaaGreatDoor
open Go.RowKit Vi

/-- copy into a row from its first place on: as much of a text as there is room for -/
theorem run_copy_front {P : Program} (w : World) (dT sT ty elem : TypeId) (g dLen dCap : Nat) (s : ByteArray) (cur : Array Value) (t : TypeId)
    (hu : P.underlying dT = some (.slice elem)) (hs : (P.info? elem).map (·.size) = some 1) (hg : w.heap[g]? = some (.cells cur t (0, 0))) (hfit : dLen ≤ cur.size) :
    (Builtin.copy_ #[dT, sT] ty #[.slice (some ⟨g, 0, none⟩) dLen dCap, .string s]).run P w =
      .ok (goInt (Nat.min s.size dLen)) (w.setRow g (Lib.byteCells (s.data.toList.take (Nat.min s.size dLen)) ++ cur.toList.drop (Nat.min s.size dLen)).toArray) := by
  have hlen : (Lib.byteCells (s.data.toList.take (Nat.min s.size dLen))).length = Nat.min s.size dLen := by
    rw [Lib.byteCells_length, List.length_take, ← Lib.size_eq]
    exact Nat.min_eq_left (Nat.min_le_left _ _)
  have hst := run_storeCells_at P g 0 t (Lib.byteCells (s.data.toList.take (Nat.min s.size dLen))) 0 cur w hg (by rw [hlen]; simp only [Nat.zero_add]; exact Nat.le_trans (Nat.min_le_right _ _) hfit) (Lib.byteCells_one _)
  have htk : List.take (Nat.min s.size dLen) (List.map (fun b : UInt8 => Value.int IntKind.u8 (b.toNat : Int)) s.data.toList) = Lib.byteCells (s.data.toList.take (Nat.min s.size dLen)) := by
    unfold Lib.byteCells
    rw [List.map_take]
  rw [hlen] at hst
  simp only [Nat.add_zero, Nat.zero_add, List.take_zero, List.nil_append] at hst
  cases hq : P.info? elem with
  | none => simp [hq] at hs
  | some i =>
    generalize hm : Nat.min s.size dLen = m at *
    simp [Builtin.copy_, run_underlying hu, Builtin.lenOf, Builtin.firstCells, sizeOf, typeInfo, hq, hm]
    rw [htk, hst]
    simp [Result.andThen]
/-- a sector's first bytes are the text's, noughts stand behind -/
theorem lfull_list (s : ByteArray) : (fullT s).data.toList = s.data.toList.take (Nat.min s.size 128) ++ (zsD 128).drop (Nat.min s.size 128) := by
  unfold fullT
  rw [ByteArray.data_extract, Array.toList_extract]
  have e : (s ++ noZ).data.toList = s.data.toList ++ zsD 128 := by simp [noZ]
  rw [e]
  simp only [List.extract, List.drop_zero, Nat.sub_zero]
  have hl : s.data.toList.length = s.size := (Lib.size_eq s).symm
  rw [List.take_append, hl]
  rcases Nat.lt_or_ge s.size 128 with h | h
  · rw [show Nat.min s.size 128 = s.size from Nat.min_eq_left (by omega)]
    have e1 : s.data.toList.take 128 = s.data.toList := List.take_of_length_le (by omega)
    have e2 : s.data.toList.take s.size = s.data.toList := List.take_of_length_le (by omega)
    rw [e1, e2]
    congr 1
    unfold zsD
    rw [List.take_replicate, List.drop_replicate]
    congr 1
    omega
  · rw [show Nat.min s.size 128 = 128 from Nat.min_eq_right h]
    rw [show 128 - s.size = 0 by omega]
    simp [zsD]
end Go.Proofs.YtiflieaemgamkaaGreatDoor

namespace Ar
/-- how many sectors a half has -/
def hf (n : Int) : Int := if n < 16 ∨ 4096 < n then 0 else (n - 2) / 2
/-- the first sector of a half -/
def fs (n h : Int) : Int := if h = 1 then 2 + hf n else 2
/-- how many sectors so many bytes take -/
def sc (b : Int) : Int := if b ≤ 0 then 0 else (b - 1) / 128 + 1
/-- the first sector of the log -/
def lg (n h p : Int) : Int := fs n h + min (sc p) (hf n)
/-- what a log may have -/
def fr (n p r : Int) : Int := hf n - min (sc p) (hf n) - min (max r 0) (hf n) - 1
/-- what is left -/
def lf (n p r : Int) : Int := if hf n - 1 < r ∨ hf n - 1 < sc p then -1 else if 0 < r then hf n - 1 - r - sc p else hf n - 1 - sc p
/-- does it fit -/
def ft (n p t r : Int) : Bool := decide (sc t ≤ fr n p r)
/-- for what a sector is -/
def ofv (n h p t r s : Int) : Int :=
  if n < 16 ∨ 4096 < n ∨ s < 0 ∨ n ≤ s then 6 else if s < 2 then 0
  else if s < fs n h ∨ fs n h + hf n ≤ s then 5
  else if s < lg n h p then 1 else if s < lg n h p + sc t then 2
  else if fs n h + hf n - 1 - s < r then 3 else 4

theorem hf_bd (n : Int) : 0 ≤ hf n ∧ hf n ≤ 2047 := by unfold hf; split <;> omega
theorem hf_in (n : Int) (h0 : 16 ≤ n) (h1 : n ≤ 4096) : hf n = (n - 2) / 2 := by unfold hf; rw [if_neg (by omega)]
theorem hf_out (n : Int) (h : n < 16 ∨ 4096 < n) : hf n = 0 := by unfold hf; rw [if_pos h]
theorem fs_bd (n h : Int) : 2 ≤ fs n h ∧ fs n h ≤ 2049 := by have := hf_bd n; unfold fs; split <;> omega
theorem sc_bd (b : Int) (h : b ≤ 9223372036854775807) : 0 ≤ sc b ∧ sc b ≤ 72057594037927936 := by unfold sc; split <;> omega
theorem sc_le (b : Int) (h : b ≤ 0) : sc b = 0 := by unfold sc; rw [if_pos h]
theorem sc_gt (b : Int) (h : 0 < b) : sc b = (b - 1) / 128 + 1 := by unfold sc; rw [if_neg (by omega)]
theorem sc_ref0 (b : Int) (h : 0 < b) (h1 : b % 128 = 0) : sc b = b / 128 := by rw [sc_gt b h]; omega
theorem sc_ref1 (b : Int) (h : 0 < b) (h1 : 0 < b % 128) : sc b = b / 128 + 1 := by rw [sc_gt b h]; omega
theorem lg_bd (n h p : Int) (hp : p ≤ 9223372036854775807) : 2 ≤ lg n h p ∧ lg n h p ≤ 4096 := by
  have := hf_bd n; have := fs_bd n h; have := sc_bd p hp; unfold lg; omega
theorem fr_bd (n p r : Int) (hp : p ≤ 9223372036854775807) : -4095 ≤ fr n p r ∧ fr n p r ≤ 2046 := by
  have := hf_bd n; have := sc_bd p hp; unfold fr; omega
theorem fr_lf (n p r : Int) (hp : p ≤ 9223372036854775807) : (fr n p r < 0 ∧ lf n p r < 0) ∨ (0 ≤ fr n p r ∧ lf n p r = fr n p r) := by
  have := hf_bd n; have := sc_bd p hp; unfold fr lf
  split
  · omega
  · split <;> omega
theorem lf_bd (n p r : Int) (hp : p ≤ 9223372036854775807) : -4095 ≤ lf n p r ∧ lf n p r ≤ 2046 := by
  have := hf_bd n; have := sc_bd p hp; unfold lf
  split
  · omega
  · split <;> omega
end Ar

namespace Go.Proofs.YtiflieaemgamkaaGreatDoor
open Go.RowKit Ar

theorem ret_i {a b : Int} (h : a = b) : Ending.returned (.int .i64 a) = .returned (.int .i64 b) := by rw [h]
theorem ret_b {a b : Bool} (h : a = b) : Ending.returned (.bool a) = .returned (.bool b) := by rw [h]

set_option maxHeartbeats 400000 in
theorem refHalf_any (n : Int) (w : World) (hn0 : -9223372036854775808 ≤ n) (hn1 : n ≤ 9223372036854775807) :
    Calls Tryz.prog 18 #[.int .i64 n] w fun e w' => e = .returned (.int .i64 (hf n)) ∧ w = w' := by
  by_cases a1 : n < 16
  · have H := Lib.hid (hf_out n (Or.inl a1))
    go_enter Tryz.func18, Tryz.ntmps18
    go_wp2
    go_ret
    exact ⟨ret_i H.out.symm, rfl⟩
  · by_cases a2 : 4096 < n
    · have H := Lib.hid (hf_out n (Or.inr a2))
      go_enter Tryz.func18, Tryz.ntmps18
      go_wp2
      go_ret
      exact ⟨ret_i H.out.symm, rfl⟩
    · have H := Lib.hid (hf_in n (by omega) (by omega))
      go_enter Tryz.func18, Tryz.ntmps18
      go_wp2
      go_ret
      exact ⟨ret_i H.out.symm, rfl⟩

/-- may a disk have so many sectors? -/
def ck (n : Int) : Int := if n < 16 ∨ 4096 < n then 2 else 0
theorem ck_out (n : Int) (h : n < 16 ∨ 4096 < n) : ck n = 2 := by unfold ck; rw [if_pos h]
theorem ck_in (n : Int) (h0 : 16 ≤ n) (h1 : n ≤ 4096) : ck n = 0 := by unfold ck; rw [if_neg (by omega)]

set_option maxHeartbeats 400000 in
theorem check_any (n : Int) (w : World) (hn0 : -9223372036854775808 ≤ n) (hn1 : n ≤ 9223372036854775807) :
    Calls Tryz.prog 154 #[.int .i64 n] w fun e w' => e = .returned (.int .i64 (ck n)) ∧ w = w' := by
  by_cases a1 : n < 16
  · have H := Lib.hid (ck_out n (Or.inl a1))
    go_enter Tryz.func154, Tryz.ntmps154
    go_wp2
    go_ret
    exact ⟨ret_i H.out.symm, rfl⟩
  · by_cases a2 : 4096 < n
    · have H := Lib.hid (ck_out n (Or.inr a2))
      go_enter Tryz.func154, Tryz.ntmps154
      go_wp2
      go_ret
      exact ⟨ret_i H.out.symm, rfl⟩
    · have H := Lib.hid (ck_in n (by omega) (by omega))
      go_enter Tryz.func154, Tryz.ntmps154
      go_wp2
      go_ret
      exact ⟨ret_i H.out.symm, rfl⟩

set_option maxHeartbeats 400000 in
theorem half_any (n : Int) (w : World) (hn0 : -9223372036854775808 ≤ n) (hn1 : n ≤ 9223372036854775807) :
    Calls Tryz.prog 98 #[.int .i64 n] w fun e w' => e = .returned (.int .i64 (hf n)) ∧ w = w' := by
  by_cases a : n < 16 ∨ 4096 < n
  · have H := Lib.hid (hf_out n a)
    have K := Lib.hid (ck_out n a)
    clear a
    go_enter Tryz.func98, Tryz.ntmps98
    go_wp2_with fail
    refine (check_any n _ hn0 hn1).mono ?_
    rintro e w' ⟨rfl, rfl⟩
    rw [K.out]
    go_wp2
    go_ret
    exact ⟨ret_i H.out.symm, rfl⟩
  · have a1 : 16 ≤ n := by omega
    have a2 : n ≤ 4096 := by omega
    have H := Lib.hid (hf_in n a1 a2)
    have K := Lib.hid (ck_in n a1 a2)
    clear a
    go_enter Tryz.func98, Tryz.ntmps98
    go_wp2_with fail
    refine (check_any n _ hn0 hn1).mono ?_
    rintro e w' ⟨rfl, rfl⟩
    rw [K.out]
    go_wp2
    go_ret
    exact ⟨ret_i H.out.symm, rfl⟩

theorem fs_onefirst (n h : Int) (e : h = 1) : fs n h = 2 + hf n := by unfold fs; rw [if_pos e]
theorem fs_twofirst (n h : Int) (e : ¬ h = 1) : fs n h = 2 := by unfold fs; rw [if_neg e]
set_option maxHeartbeats 400000 in
theorem first_any (n h : Int) (w : World) (hn0 : -9223372036854775808 ≤ n) (hn1 : n ≤ 9223372036854775807) :
    Calls Tryz.prog 210 #[.int .i64 n, .int .i64 h] w fun e w' => e = .returned (.int .i64 (fs n h)) ∧ w = w' := by
  have b := hf_bd n
  by_cases a : h = 1
  · have H := Lib.hid (fs_onefirst n h a)
    subst a
    go_enter Tryz.func210, Tryz.ntmps210
    go_wp2_with fail
    refine (half_any n _ hn0 hn1).mono ?_
    rintro e w' ⟨rfl, rfl⟩
    obtain ⟨b0, b1⟩ := b
    go_wp2
    go_ret
    exact ⟨ret_i H.out.symm, rfl⟩
  · have H := Lib.hid (fs_twofirst n h a)
    have a' : (h == 1) = false := by simpa using a
    go_enter Tryz.func210, Tryz.ntmps210
    go_wp2
    go_ret
    exact ⟨ret_i H.out.symm, rfl⟩

theorem fs_onerefFirst (n h : Int) (e : h = 1) : fs n h = 2 + hf n := by unfold fs; rw [if_pos e]
theorem fs_tworefFirst (n h : Int) (e : ¬ h = 1) : fs n h = 2 := by unfold fs; rw [if_neg e]
set_option maxHeartbeats 400000 in
theorem refFirst_any (n h : Int) (w : World) (hn0 : -9223372036854775808 ≤ n) (hn1 : n ≤ 9223372036854775807) :
    Calls Tryz.prog 57 #[.int .i64 n, .int .i64 h] w fun e w' => e = .returned (.int .i64 (fs n h)) ∧ w = w' := by
  have b := hf_bd n
  by_cases a : h = 1
  · have H := Lib.hid (fs_onerefFirst n h a)
    subst a
    go_enter Tryz.func57, Tryz.ntmps57
    go_wp2_with fail
    refine (refHalf_any n _ hn0 hn1).mono ?_
    rintro e w' ⟨rfl, rfl⟩
    obtain ⟨b0, b1⟩ := b
    go_wp2
    go_ret
    exact ⟨ret_i H.out.symm, rfl⟩
  · have H := Lib.hid (fs_tworefFirst n h a)
    have a' : (h == 1) = false := by simpa using a
    go_enter Tryz.func57, Tryz.ntmps57
    go_wp2
    go_ret
    exact ⟨ret_i H.out.symm, rfl⟩

end Go.Proofs.YtiflieaemgamkaaGreatDoor

namespace Go.Proofs.YtiflieaemgamkaaGreatDoor
open Go.RowKit Vi

theorem InD.kkM {D g : Nat} {w w' : World} (k : KK [g] w w') (hD : D < w.heap.size) (hg : D ≠ g) {b : Nat} (q : InD D w' b) : InD D w b := by
  have hb := k.block D hD (by simpa using hg)
  have hc : ∀ i, w'.cell? ⟨D, i, none⟩ = w.cell? ⟨D, i, none⟩ := fun i => World.cell?_of_block hb
  rcases q with q | ⟨o, n, c, q⟩ | ⟨o, n, c, q⟩
  · exact .inl q
  · exact .inr (.inl ⟨o, n, c, by rw [← hc]; exact q⟩)
  · exact .inr (.inr ⟨o, n, c, by rw [← hc]; exact q⟩)
theorem OwX.ofB {α : Type} {f : α → List Value} {s : Nat} {T : TypeId} {w W : World} {B n c : Nat} {A : Option Addr} {l : List α} (h : OwX f s T w B (.slice A n c) l) (hb : ∀ b o, A = some ⟨b, o, none⟩ → b < w.heap.size → W.heap[b]? = w.heap[b]?) : OwX f s T W B (.slice A n c) l := by
  rcases h with ⟨h1, h | ⟨b, cap, cur, h2, h3, h4, h5⟩⟩
  · exact ⟨h1, .inl h⟩
  · have e : A = some ⟨b, 0, none⟩ := by injection h2
    exact ⟨h1, .inr ⟨b, cap, cur, h2, h3, (hb b 0 e (lt_of_block h4)).trans h4, h5⟩⟩
theorem DK.kkM {D g : Nat} {SS : List ByteArray} {CC : List Wr} {dn : Bool} {ops fu : Int} {w w' : World} (h : DK D SS CC dn ops fu w) (k : KK [g] w w') (hn : ¬ InD D w g) : DK D SS CC dn ops fu w' := by
  obtain ⟨⟨sa, sn, sc, ca, cn, cc, h1, h2, h3⟩, h4⟩ := h
  have hD : D ≠ g := fun e => hn (.inl e.symm)
  refine ⟨⟨sa, sn, sc, ca, cn, cc, k.blk h1 (by simpa using hD), h2.ofB (fun b o e hb => k.block b hb (fun q => ?_)), h3.ofB (fun b o e hb => k.block b hb (fun q => ?_))⟩, h4⟩
  · obtain rfl : b = g := by simpa using q
    subst e
    exact hn (InD.safe h1)
  · obtain rfl : b = g := by simpa using q
    subst e
    exact hn (InD.cache h1)
theorem DW.kkM {n : Nat} {w0 : World} {D g : Nat} {d : Ds} {w w' : World} (h : DW n w0 D d w) (k : KK [g] w w') (hng : ¬ InD D w g) (hn : n ≤ g) : DW n w0 D d w' :=
  ⟨h.dk.kkM k hng, fun b q => h.far b (q.kkM k h.lt (fun e => hng (.inl e.symm))), k.below h.bel (fun b hb => by obtain rfl : b = g := (by simpa using hb); exact hn) h.sz, Nat.le_trans h.sz k.size⟩
theorem DsOk.leM {k k' : Nat} {d : Ds} (h : DsOk k d) (hk : k ≤ k') : DsOk k' d := ⟨h.s1, h.s2, by have := h.c; omega, h.a1, h.a2, h.o1, by have := h.o2; omega⟩
section
variable {n : Nat} {w0 : World} {D L : Nat} {d : Ds} {f m : Int} {t : ByteArray} {w w' : World}
end
/-- what a Below from B on leaves: a disk whose blocks lie below B -/
theorem DW.belowB {n : Nat} {w0 : World} {D B : Nat} {d : Ds} {w w' : World} (h : DW n w0 D d w) (hi : ∀ b, InD D w b → b < B) (hb : Below B w w') (hn : n ≤ B) : DW n w0 D d w' ∧ ∀ b, InD D w' b → b < B := by
  obtain ⟨⟨⟨sa, sn, sc, ca, cn, cc, h1, h2, h3⟩, h4⟩, hf, hbl, hs⟩ := h
  have hD : D < B := hi D (.inl rfl)
  have h1' : w'.heap[D]? = some (dkO sa sn sc ca cn cc true d.go d.op d.ar) := (hb.block D hD).trans h1
  have hin : ∀ b, InD D w' b → InD D w b := fun b q => by
    rcases q.cases h1' with q | ⟨o, q⟩ | ⟨o, q⟩
    · exact .inl q
    · subst q; exact InD.safe h1
    · subst q; exact InD.cache h1
  refine ⟨⟨⟨⟨sa, sn, sc, ca, cn, cc, h1', h2.ofB (fun b o e _ => ?_), h3.ofB (fun b o e _ => ?_)⟩, h4⟩, fun b q => hf b (hin b q), hbl.trans (hb.mono hn), Nat.le_trans hs hb.size⟩, fun b q => hi b (hin b q)⟩
  · subst e; exact hb.block b (hi b (InD.safe h1))
  · subst e; exact hb.block b (hi b (InD.cache h1))
theorem Kd.belowB {D : Nat} {w w3 w4 : World} (h : Kd D w w3) (hb : Below w.heap.size w3 w4) (hD : D < w.heap.size) : Kd D w w4 :=
  ⟨hb.os.trans h.os, hb.tape.trans h.tape, hb.output.trans h.output, Nat.le_trans h.size hb.size, fun b q hn => (hb.block b q).trans (h.block b q hn), fun b q hin => h.ind b q (by
    rcases hin with e | ⟨o, n, c, e⟩ | ⟨o, n, c, e⟩
    · exact .inl e
    · exact .inr (.inl ⟨o, n, c, by rw [← hb.cell (p := ⟨D, 0, none⟩) hD]; exact e⟩)
    · exact .inr (.inr ⟨o, n, c, by rw [← hb.cell (p := ⟨D, 1, none⟩) hD]; exact e⟩))⟩
/-- Read once more: no other block becomes the disk's -/
theorem dread_upI (D : Nat) (SS : List ByteArray) (CC : List Wr) (ops fu : Int) (i : Int) (w : World) (h : DK D SS CC false ops fu w) (hi : 0 ≤ i ∧ i < (SS.length : Int)) (hl : CC.length ≤ 1000000) (ho : -1000000000 ≤ ops ∧ ops ≤ 1000000000) :
    Calls Tryz.prog 99 #[.pointer (some ⟨D, 0, none⟩), .int .i64 i] w fun e w' => e = .returned (.tuple #[.string (shw SS CC i), .int .i64 0]) ∧ DK D SS CC false (ops + 1) fu w' ∧ Kd D w w' ∧ ∀ b, InD D w' b → InD D w b := by
  have HR := Lib.hid h.readyIs
  have HH := h.hasIs i
  rw [decide_eq_true hi] at HH
  have HH := Lib.hid HH
  have HI := Lib.hid hi
  obtain ⟨⟨sa, sn, sc, ca, cn, cc, h1, h2, h3⟩, h4⟩ := h
  have H1 := Lib.hid h1
  have H2 := Lib.hid h2
  have H3 := Lib.hid h3
  have H4 := Lib.hid h4
  have c4 : w.cell? ⟨D, 4, none⟩ = some (.int .i64 ops) := (dk_cells h1).2.2.2.2.1
  have f4 : w.frozen? ⟨D, 4, none⟩ = false := frozen_of_row _ _ _ _ _ h1
  have w2 : IntKind.i64.wrap (ops + 1) = ops + 1 := IntWalk.i64_in _ (by omega)
  clear h1 h2 h3 h4 hi
  go_enter Tryz.func99, Tryz.ntmps99
  go_wp2_with fail
  refine HR.out.mono ?_
  rintro e w' ⟨rfl, rfl⟩
  go_wp2_with fail
  refine HH.out.mono ?_
  rintro e w' ⟨rfl, rfl⟩
  go_wp2_with fail
  have HK := Lib.hid ((KK.refl [D] w).set (b := D) (by simp) 4 (.int .i64 (ops + 1)))
  have HB := Lib.hid (show (w.setCell ⟨D, 4, none⟩ (.int .i64 (ops + 1))).heap[D]? = some (dkO sa sn sc ca cn cc true false (ops + 1) fu) from heap_setCell_at (i := 4) (u := .int .i64 (ops + 1)) H1.out)
  have HO2 := Lib.hid (H2.out.kkD HK.out H1.out (by decide))
  have HO3 := Lib.hid (H3.out.kkD HK.out H1.out (by decide))
  have HKd := Lib.hid (Kd.of_same HK.out H1.out HB.out)
  have HIn : Hid (∀ b, InD D (w.setCell ⟨D, 4, none⟩ (.int .i64 (ops + 1))) b → InD D w b) := Lib.hid (fun b q => by
    rcases q.cases HB.out with q | ⟨o, q⟩ | ⟨o, q⟩
    · exact .inl q
    · have := H1.out; subst q; exact InD.safe this
    · have := H1.out; subst q; exact InD.cache this)
  clear c4 f4 w2
  generalize (w.setCell ⟨D, 4, none⟩ (.int .i64 (ops + 1))) = v at *
  have HD : Hid (DK D SS CC false (ops + 1) fu v) := Lib.hid ⟨⟨sa, sn, sc, ca, cn, cc, HB.out, HO2.out, HO3.out⟩, H4.out⟩
  have HS := Lib.hid (dshow_any D SS CC false (ops + 1) fu i v HD.out HI.out hl)
  refine HS.out.mono ?_
  rintro e w1 ⟨rfl, hb⟩
  have HD1 := Lib.hid (HD.out.kept hb)
  have HK1 := Lib.hid (HKd.out.trans (Kd.of_below hb HD.out.lt))
  have HIn1 : Hid (∀ b, InD D w1 b → InD D w b) := Lib.hid (fun b q => HIn.out b (q.back hb HD.out.lt))
  clear hb
  go_wp2_with fail
  go_ret2
  exact ⟨rfl, HD1.out, HK1.out, HIn1.out⟩
section
variable {n : Nat} {w0 : World} {D L : Nat} {d : Ds} {f m : Int} {t : ByteArray} {w : World}
theorem DW.sizeIs (h : DW n w0 D d w) : Calls Tryz.prog 97 #[.pointer (some ⟨D, 0, none⟩)] w fun e w' => e = .returned (.int .i64 (d.S.length : Int)) ∧ w = w' := by
  obtain ⟨⟨sa, sn, sc, ca, cn, cc, h1, h2, h3⟩, h4⟩ := h.dk
  obtain ⟨_, _, e, hr, _, _⟩ := h2.rd stC_len
  injection e with e1 e2 e3
  have hl : d.S.length = sn := hr.1.trans e2.symm
  rw [hl]
  exact dszz_any D sa sn sc ca cn cc d.go d.op d.ar w h1
theorem DW.opsIs (h : DW n w0 D d w) : Calls Tryz.prog 14 #[.pointer (some ⟨D, 0, none⟩)] w fun e w' => e = .returned (.int .i64 d.op) ∧ w = w' := by
  obtain ⟨⟨sa, sn, sc, ca, cn, cc, h1, h2, h3⟩, h4⟩ := h.dk
  exact dops_any D sa sn sc ca cn cc d.go d.op d.ar w h1
end
end Go.Proofs.YtiflieaemgamkaaGreatDoor

namespace Go.Proofs.YtiflieaemgamkaaGreatDoor
open Go.RowKit Ar

set_option maxHeartbeats 800000 in
theorem last_any (n h : Int) (w : World) (hn0 : -9223372036854775808 ≤ n) (hn1 : n ≤ 9223372036854775807) :
    Calls Tryz.prog 162 #[.int .i64 n, .int .i64 h] w fun e w' => e = .returned (.int .i64 (fs n h + hf n - 1)) ∧ w = w' := by
  have b1 := hf_bd n
  have b3 := fs_bd n h
  go_enter Tryz.func162, Tryz.ntmps162
  go_wp2_with fail
  refine (first_any n h _ hn0 hn1).mono ?_
  rintro e w' ⟨rfl, rfl⟩
  go_wp2_with fail
  refine (half_any n _ hn0 hn1).mono ?_
  rintro e w' ⟨rfl, rfl⟩
  go_wp2
  go_ret
  exact ⟨rfl, rfl⟩

theorem ft_lf (n p t r : Int) (hp1 : p ≤ 9223372036854775807) (ht1 : t ≤ 9223372036854775807) : ft n p t r = (decide (0 ≤ lf n p r) && decide (sc t ≤ lf n p r)) := by
  have := fr_lf n p r hp1
  have := sc_bd t ht1
  unfold ft
  rw [Bool.eq_iff_iff]; simp; omega

/-- where a record stands, and what is told -/
def pl (n h s : Int) : Value := if s < 0 ∨ hf n ≤ s then .tuple #[.int .i64 0, .int .i64 8] else .tuple #[.int .i64 (fs n h + hf n - 1 - s), .int .i64 0]

set_option maxHeartbeats 800000 in
theorem place_any (n h s : Int) (w : World) (hn0 : -9223372036854775808 ≤ n) (hn1 : n ≤ 9223372036854775807) (hs0 : -9223372036854775808 ≤ s) (hs1 : s ≤ 9223372036854775807) :
    Calls Tryz.prog 107 #[.int .i64 n, .int .i64 h, .int .i64 s] w fun e w' => e = .returned (pl n h s) ∧ w = w' := by
  have b1 := hf_bd n
  have b3 := fs_bd n h
  by_cases a : s < 0
  · have HH := Lib.hid (show pl n h s = _ from if_pos (Or.inl a))
    go_enter Tryz.func107, Tryz.ntmps107
    go_wp2
    rw [HH.out]
    go_ret2
    exact ⟨rfl, rfl⟩
  · by_cases c : hf n ≤ s
    · have HH := Lib.hid (show pl n h s = _ from if_pos (Or.inr c))
      go_enter Tryz.func107, Tryz.ntmps107
      go_wp2_with fail
      refine (half_any n _ hn0 hn1).mono ?_
      rintro e w' ⟨rfl, rfl⟩
      go_wp2
      rw [HH.out]
      go_ret2
      exact ⟨rfl, rfl⟩
    · have HH := Lib.hid (show pl n h s = _ from if_neg (by omega))
      have c' : decide (hf n ≤ s) = false := by simpa using c
      go_enter Tryz.func107, Tryz.ntmps107
      go_wp2_with fail
      refine (half_any n _ hn0 hn1).mono ?_
      rintro e w' ⟨rfl, rfl⟩
      go_wp2_with fail
      refine (last_any n h _ hn0 hn1).mono ?_
      rintro e w' ⟨rfl, rfl⟩
      go_wp2
      rw [HH.out]
      go_ret2
      exact ⟨rfl, rfl⟩
end Go.Proofs.YtiflieaemgamkaaGreatDoor

namespace Go.Proofs.YtiflieaemgamkaaGreatDoor
open Go.RowKit Vi Ar

/-- a journal's box -/
def jnO (D : Nat) (hf ep ct : Int) : Obj := .cells #[.pointer (some ⟨D, 0, none⟩), .int .i64 hf, .int .i64 ep, .int .i64 ct] 100 (0, 0)
/-- a journal at J over the disk d at D -/
structure JW (n : Nat) (w0 : World) (D J : Nat) (d : Ds) (hf ep ct : Int) (w : World) : Prop where
  dw : DW n w0 D d w
  bx : w.heap[J]? = some (jnO D hf ep ct)
  nl : ¬ InD D w J
  ge : n ≤ J
/-- a block that is no disk's -/
def Bx (D b : Nat) (o : Obj) (w : World) : Prop := w.heap[b]? = some o ∧ ¬ InD D w b
theorem Bx.kd {D b : Nat} {o : Obj} {w w' : World} (h : Bx D b o w) (k : Kd D w w') : Bx D b o w' := ⟨(k.block _ (lt_of_block h.1) h.2).trans h.1, fun q => h.2 (k.ind _ (lt_of_block h.1) q)⟩
theorem Bx.below {D b : Nat} {o : Obj} {w w' : World} (h : Bx D b o w) (hb : Below w.heap.size w w') (hD : D < w.heap.size) : Bx D b o w' := h.kd (Kd.of_below hb hD)
section
variable {n : Nat} {w0 : World} {D J : Nat} {d : Ds} {hf ep ct : Int} {w w' : World} {k0 : Nat}
theorem JW.below (h : JW n w0 D J d hf ep ct w) (hb : Below w.heap.size w w') : JW n w0 D J d hf ep ct w' := ⟨h.dw.below hb, blk_below h.bx hb, fun q => h.nl (q.back hb h.dw.lt), h.ge⟩
theorem JW.kd {d' : Ds} (h : JW n w0 D J d hf ep ct w) (hd : DW n w0 D d' w') (k : Kd D w w') : JW n w0 D J d' hf ep ct w' := ⟨hd, (k.block _ (lt_of_block h.bx) h.nl).trans h.bx, fun q => h.nl (k.ind _ (lt_of_block h.bx) q), h.ge⟩
theorem JW.kk {g : Nat} (h : JW n w0 D J d hf ep ct w) (k : KK [g] w w') (hg : ¬ InD D w g) (hn : n ≤ g) (hJ : J ≠ g) : JW n w0 D J d hf ep ct w' := ⟨h.dw.kkM k hg hn, k.blk h.bx (by simpa using hJ), fun q => h.nl (q.kkM k h.dw.lt (fun e => hg (.inl e.symm))), h.ge⟩
theorem JW.c0 (h : JW n w0 D J d hf ep ct w) : w.cell? ⟨J, 0, none⟩ = some (.pointer (some ⟨D, 0, none⟩)) := (cell_of_row _ _ 0 _ _ _ h.bx).trans rfl
theorem JW.c1 (h : JW n w0 D J d hf ep ct w) : w.cell? ⟨J, 1, none⟩ = some (.int .i64 hf) := (cell_of_row _ _ 1 _ _ _ h.bx).trans rfl
theorem JW.c2 (h : JW n w0 D J d hf ep ct w) : w.cell? ⟨J, 2, none⟩ = some (.int .i64 ep) := (cell_of_row _ _ 2 _ _ _ h.bx).trans rfl
theorem JW.c3 (h : JW n w0 D J d hf ep ct w) : w.cell? ⟨J, 3, none⟩ = some (.int .i64 ct) := (cell_of_row _ _ 3 _ _ _ h.bx).trans rfl
theorem JW.fz (h : JW n w0 D J d hf ep ct w) (i : Nat) : w.frozen? ⟨J, i, none⟩ = false := frozen_of_row _ _ _ _ _ h.bx
theorem JW.set (h : JW n w0 D J d hf ep ct w) (c' : Int) : JW n w0 D J d hf ep c' (w.setCell ⟨J, 3, none⟩ (.int .i64 c')) := by
  have k := (KK.refl [J] w).set (b := J) (by simp) 3 (.int .i64 c')
  refine ⟨h.dw.kkM k h.nl h.ge, ?_, fun q => h.nl (q.kkM k h.dw.lt (fun e => h.nl (.inl e.symm))), h.ge⟩
  have q := heap_setCell_at (i := 3) (u := .int .i64 c') h.bx
  exact q
theorem jmade_any (h : JW n w0 D J d hf ep ct w) : Calls Tryz.prog 48 #[.pointer (some ⟨J, 0, none⟩)] w fun e w' => e = .returned (.bool true) ∧ w = w' := by
  have c0 := h.c0
  clear h
  go_enter Tryz.func48, Tryz.ntmps48
  go_wp2_with fail
  go_ret
  exact ⟨rfl, rfl⟩
theorem jcount_any (h : JW n w0 D J d hf ep ct w) : Calls Tryz.prog 12 #[.pointer (some ⟨J, 0, none⟩)] w fun e w' => e = .returned (.int .i64 ct) ∧ w = w' := by
  have c3 := h.c3
  have HM := Lib.hid (jmade_any h)
  clear h
  go_enter Tryz.func12, Tryz.ntmps12
  go_wp2_with fail
  refine HM.out.mono ?_
  rintro e w' ⟨rfl, rfl⟩
  go_wp2_with fail
  go_ret
  exact ⟨rfl, rfl⟩
theorem jplace_any (h : JW n w0 D J d hf ep ct w) (hl : d.S.length ≤ 4096) (s a z : Int) (hs0 : -9223372036854775808 ≤ s) (hs1 : s ≤ 9223372036854775807) (hp : pl (d.S.length : Int) hf s = .tuple #[.int .i64 a, .int .i64 z]) :
    Calls Tryz.prog 52 #[.pointer (some ⟨J, 0, none⟩), .int .i64 s] w fun e w' => e = .returned (.tuple #[.int .i64 a, .int .i64 z]) ∧ Below w.heap.size w w' := by
  have r0 := fun d os => cell_regrown h.c0 d os
  have r1 := fun d os => cell_regrown h.c1 d os
  have HH := Lib.hid h.dw
  obtain ⟨N, hN⟩ : ∃ N : Nat, N = d.S.length := ⟨_, rfl⟩
  have HS := Lib.hid (fun (W : World) (q : DW n w0 D d W) => (by rw [hN]; exact q.sizeIs : Calls Tryz.prog 97 #[.pointer (some ⟨D, 0, none⟩)] W fun e w' => e = .returned (.int .i64 (N : Int)) ∧ W = w'))
  rw [← hN] at hl hp
  have HPL := Lib.hid (fun W : World => (by have y := place_any (N : Int) hf s W (by omega) (by omega) hs0 hs1; rw [hp] at y; exact y : Calls Tryz.prog 107 #[.int .i64 (N : Int), .int .i64 hf, .int .i64 s] W fun e w' => e = .returned (.tuple #[.int .i64 a, .int .i64 z]) ∧ W = w'))
  clear h hp hN
  go_enter Tryz.func52, Tryz.ntmps52
  go_wp2_with fail
  refine wp_region_quiet_below (by kernel_rfl) (by kernel_rfl) ?_
  repeat (any_goals (first | go_big_quiet_step ((first | (go_at_call 97; with_reducible exact Calls.regrown_of (of_same (HS.out _ (HH.out.below (below_regrown _ _ _))))) | (go_at_call 107; with_reducible exact Calls.regrown_of (of_same (HPL.out _))))) | quiet_step ((first | (go_at_call 97; with_reducible exact Calls.regrown_of (of_same (HS.out _ (HH.out.below (below_regrown _ _ _))))) | (go_at_call 107; with_reducible exact Calls.regrown_of (of_same (HPL.out _)))))))
  refine wpQuiet_nil ?_
  intro v1 hv1
  have hb1 := below_anyY hv1
  clear hv1 r0 r1
  go_wp2_with fail
  go_ret2
  exact ⟨rfl, hb1⟩
set_option maxRecDepth 100000 in
set_option maxHeartbeats 2000000 in
theorem jwr1 (h : JW n w0 D J d hf ep ct w) (o : DsOk k0 d) (hk : k0 ≤ 900) (p I Z : Nat) (i : Int) (s : ByteArray) (hp : Bx D p (.cells #[.pointer (some ⟨J, 0, none⟩)] 37 (0, 0)) w) (hi : Bx D I (.cells #[.int .i64 i] 3 (0, 0)) w) (hz : Bx D Z (.cells #[.string s] 9 (0, 0)) w) :
    Calls Tryz.prog 108 #[.pointer (some ⟨p, 0, none⟩), .pointer (some ⟨I, 0, none⟩), .pointer (some ⟨Z, 0, none⟩)] w (PI n w0 D (d.wrt i s) (d.wrE i s) w) := by
  have hbd : Below w.heap.size w w.drew := (Below.refl _ w).drew
  have HV := Lib.hid (h.below hbd)
  have HP := Lib.hid (hp.below hbd h.dw.lt)
  have HI := Lib.hid (hi.below hbd h.dw.lt)
  have HZ := Lib.hid (hz.below hbd h.dw.lt)
  have HK := Lib.hid (Kd.of_below hbd h.dw.lt)
  have HWR := Lib.hid (fun (W : World) (q : DW n w0 D d W) => pwrite q o (by omega) i s)
  obtain ⟨e2, he2⟩ : ∃ e, e = d.wrE i s := ⟨_, rfl⟩
  obtain ⟨d2, hd2⟩ : ∃ x, x = d.wrt i s := ⟨_, rfl⟩
  rw [← he2, ← hd2] at HWR ⊢
  clear hbd h hp hi hz he2 hd2 o
  go_enter Tryz.func108, Tryz.ntmps108
  go_upto_region 1 with (fail)
  refine wp_region_L_drew (S := fun _ W => W.heap[p]? = some (.cells #[.pointer (some ⟨J, 0, none⟩)] 37 (0, 0)) ∧ W.heap[I]? = some (.cells #[.int .i64 i] 3 (0, 0)) ∧ W.heap[Z]? = some (.cells #[.string s] 9 (0, 0)) ∧ W.heap[J]? = some (jnO D hf ep ct)) (by kernel_rfl) ⟨HP.out.1, HI.out.1, HZ.out.1, HV.out.bx⟩ (fun hS hC => ?_)
  generalize w.drew = v0 at *
  refine wpAnyL_take (i := 0) (oi := { dst := some 4, op := .load 37 (.tmp 0), type := _, pos := _, after := _, guard := none }) (v := ?_) rfl (by kernel_rfl) (by kernel_rfl) (by kernel_rfl) (fun _ _ _ h => h) (fun _ _ => Iff.rfl) hC (Or.inl ⟨by rfl, ?_⟩) ⟨HP.out.1, HI.out.1, HZ.out.1, HV.out.bx⟩ (fun hC hS => ?_)
  rotate_left
  · intro W9 hSw; have q0 := (cell_of_row _ _ 0 _ _ _ hSw.choose_spec.2.2.1).trans rfl; go_simp; try (with_reducible rfl)
  try simp only [Act.put, List.setIfInBounds_toArray, List.set_cons_zero, List.set_cons_succ]
  refine wpAnyL_take (i := 1) (oi := { dst := some 5, op := .nilCheck (.tmp 4), type := _, pos := _, after := _, guard := none }) (v := ?_) rfl (by kernel_rfl) (by kernel_rfl) (by kernel_rfl) (fun _ _ _ h => h) (fun _ _ => Iff.rfl) hC (Or.inl ⟨by rfl, ?_⟩) ⟨HP.out.1, HI.out.1, HZ.out.1, HV.out.bx⟩ (fun hC hS => ?_)
  rotate_left
  · intro W9 hSw; skip; go_simp; try (with_reducible rfl)
  try simp only [Act.put, List.setIfInBounds_toArray, List.set_cons_zero, List.set_cons_succ]
  refine wpAnyL_take (i := 2) (oi := { dst := some 6, op := .fieldAddr 100 (.tmp 5) 0, type := _, pos := _, after := _, guard := none }) (v := ?_) rfl (by kernel_rfl) (by kernel_rfl) (by kernel_rfl) (fun _ _ _ h => h) (fun _ _ => Iff.rfl) hC (Or.inl ⟨by rfl, ?_⟩) ⟨HP.out.1, HI.out.1, HZ.out.1, HV.out.bx⟩ (fun hC hS => ?_)
  rotate_left
  · intro W9 hSw; skip; go_simp; try (with_reducible rfl)
  try simp only [Act.put, List.setIfInBounds_toArray, List.set_cons_zero, List.set_cons_succ]
  refine wpAnyL_take (i := 3) (oi := { dst := some 7, op := .load 25 (.tmp 6), type := _, pos := _, after := _, guard := none }) (v := ?_) rfl (by kernel_rfl) (by kernel_rfl) (by kernel_rfl) (fun _ _ _ h => h) (fun _ _ => Iff.rfl) hC (Or.inl ⟨by rfl, ?_⟩) ⟨HP.out.1, HI.out.1, HZ.out.1, HV.out.bx⟩ (fun hC hS => ?_)
  rotate_left
  · intro W9 hSw; have q0 := (cell_of_row _ _ 0 _ _ _ hSw.choose_spec.2.2.2.2.2).trans rfl; go_simp; try (with_reducible rfl)
  try simp only [Act.put, List.setIfInBounds_toArray, List.set_cons_zero, List.set_cons_succ]
  refine wpAnyL_take (i := 4) (oi := { dst := some 8, op := .load 3 (.tmp 1), type := _, pos := _, after := _, guard := none }) (v := ?_) rfl (by kernel_rfl) (by kernel_rfl) (by kernel_rfl) (fun _ _ _ h => h) (fun _ _ => Iff.rfl) hC (Or.inl ⟨by rfl, ?_⟩) ⟨HP.out.1, HI.out.1, HZ.out.1, HV.out.bx⟩ (fun hC hS => ?_)
  rotate_left
  · intro W9 hSw; have q0 := (cell_of_row _ _ 0 _ _ _ hSw.choose_spec.2.2.2.1).trans rfl; go_simp; try (with_reducible rfl)
  try simp only [Act.put, List.setIfInBounds_toArray, List.set_cons_zero, List.set_cons_succ]
  refine wpAnyL_take (i := 5) (oi := { dst := some 9, op := .load 9 (.tmp 2), type := _, pos := _, after := _, guard := none }) (v := ?_) rfl (by kernel_rfl) (by kernel_rfl) (by kernel_rfl) (fun _ _ _ h => h) (fun _ _ => Iff.rfl) hC (Or.inl ⟨by rfl, ?_⟩) ⟨HP.out.1, HI.out.1, HZ.out.1, HV.out.bx⟩ (fun hC hS => ?_)
  rotate_left
  · intro W9 hSw; have q0 := (cell_of_row _ _ 0 _ _ _ hSw.choose_spec.2.2.2.2.1).trans rfl; go_simp; try (with_reducible rfl)
  try simp only [Act.put, List.setIfInBounds_toArray, List.set_cons_zero, List.set_cons_succ]
  refine wpAnyL_ready (rs := [6]) (by kernel_rfl) (by simp) hC ?_
  refine AllReadyL.cons (o := { dst := some 10, op := .call { callee := .value (.func 109), args := #[.tmp 7, .tmp 8, .tmp 9], argTypes := #[25, 3, 9] }, type := _, pos := _, after := _, guard := none }) rfl (fun K9 hK => ?_) ?_
  · skip
    go_simp
    refine (HWR.out _ HV.out.dw).mono ?_
    rintro e v1 ⟨rfl, hd, hk2⟩
    have HV := Lib.hid (HV.out.kd hd hk2)
    have HP := Lib.hid (HP.out.kd hk2)
    have HI := Lib.hid (HI.out.kd hk2)
    have HZ := Lib.hid (HZ.out.kd hk2)
    have HK := Lib.hid (HK.out.trans hk2)
    clear hd hk2
    refine hK _ _ ⟨HP.out.1, HI.out.1, HZ.out.1, HV.out.bx⟩ (fun hC => ?_)
    clear hK K9
    try simp only [Act.put, List.setIfInBounds_toArray, List.set_cons_zero, List.set_cons_succ]
    refine wpAnyL_take (i := 7) (oi := { dst := some 3, op := .assign (.tmp 10), type := _, pos := _, after := _, guard := none }) (v := ?_) rfl (by kernel_rfl) (by kernel_rfl) (by kernel_rfl) (fun _ _ _ h => h) (fun _ _ => Iff.rfl) hC (Or.inl ⟨by rfl, ?_⟩) ⟨HP.out.1, HI.out.1, HZ.out.1, HV.out.bx⟩ (fun hC hS => ?_)
    rotate_left
    · intro W9 hSw; skip; go_simp; try (with_reducible rfl)
    try simp only [Act.put, List.setIfInBounds_toArray, List.set_cons_zero, List.set_cons_succ]
    refine wpAnyL_done (by kernel_rfl) ?_ _
    clear hS hC
    go_wp2_with fail
    go_ret
    exact ⟨rfl, HV.out.dw, HK.out⟩
  exact AllReadyL.nil
/-- a write as a function's value -/
def wrF (p : Nat) : Value := .func (.func 108) #[] #[.pointer (some ⟨p, 0, none⟩), .pointer (some ⟨p + 1, 0, none⟩), .pointer (some ⟨p + 2, 0, none⟩)]
/-- the boxes that it holds -/
structure WrB (D J p : Nat) (i : Int) (s : ByteArray) (w : World) : Prop where
  a : Bx D p (.cells #[.pointer (some ⟨J, 0, none⟩)] 37 (0, 0)) w
  b : Bx D (p + 1) (.cells #[.int .i64 i] 3 (0, 0)) w
  c : Bx D (p + 2) (.cells #[.string s] 9 (0, 0)) w
theorem WrB.kd {p : Nat} {i : Int} {s : ByteArray} (h : WrB D J p i s w) (k : Kd D w w') : WrB D J p i s w' := ⟨h.a.kd k, h.b.kd k, h.c.kd k⟩
theorem jwrite_any (h : JW n w0 D J d hf ep ct w) (i : Int) (s : ByteArray) :
    Calls Tryz.prog 54 #[.pointer (some ⟨J, 0, none⟩), .int .i64 i, .string s] w fun e w' => e = .returned (wrF w.heap.size) ∧ WrB D J w.heap.size i s w' ∧ Below w.heap.size w w' := by
  have HBn := Lib.hid ((((Below.refl w.heap.size w).alloc (Nat.le_refl _) (.cells #[.pointer (some ⟨J, 0, none⟩)] 37 (0, 0))).alloc (by simp) (.cells #[.int .i64 i] 3 (0, 0))).alloc (by simp; omega) (.cells #[.string s] 9 (0, 0)))
  have HX := Lib.hid (blk_alloc (blk_alloc (blk_new w (.cells #[.pointer (some ⟨J, 0, none⟩)] 37 (0, 0))) (.cells #[.int .i64 i] 3 (0, 0))) (.cells #[.string s] 9 (0, 0)))
  have HI := Lib.hid (blk_alloc (two_blk w (.cells #[.pointer (some ⟨J, 0, none⟩)] 37 (0, 0)) (.cells #[.int .i64 i] 3 (0, 0))) (.cells #[.string s] 9 (0, 0)))
  have HZ := Lib.hid (three_blk w (.cells #[.pointer (some ⟨J, 0, none⟩)] 37 (0, 0)) (.cells #[.int .i64 i] 3 (0, 0)) (.cells #[.string s] 9 (0, 0)))
  have hno : ∀ b, w.heap.size ≤ b → ¬ InD D (((w.alloc (.cells #[.pointer (some ⟨J, 0, none⟩)] 37 (0, 0))).alloc (.cells #[.int .i64 i] 3 (0, 0))).alloc (.cells #[.string s] 9 (0, 0))) b := fun b hb q => by have := h.dw.dk.new (q.back HBn.out h.dw.lt); omega
  have HNO := Lib.hid hno
  clear h hno
  go_enter Tryz.func54, Tryz.ntmps54
  go_wp2_with fail
  go_ret
  exact ⟨rfl, ⟨⟨HX.out, HNO.out _ (Nat.le_refl _)⟩, ⟨HI.out, HNO.out _ (by omega)⟩, ⟨HZ.out, HNO.out _ (by omega)⟩⟩, HBn.out⟩
end
end Go.Proofs.YtiflieaemgamkaaGreatDoor

namespace Go.Proofs.YtiflieaemgamkaaGreatDoor
open Go.RowKit Vi

/-- a step of a disk: a write, or a flush -/
def jop (d : Ds) : Option Wr → Ds × Int
  | none => (d.fls, d.flE)
  | some x => (d.wrt x.1 x.2, d.wrE x.1 x.2)
/-- steps, up to the first error -/
def jst : List (Option Wr) → Ds → Ds × Int
  | [], d => (d, 0)
  | o :: r, d => if (jop d o).2 ≠ 0 then jop d o else jst r (jop d o).1
theorem jst_no {o : Option Wr} {r : List (Option Wr)} {d : Ds} {R : Ds × Int} (h : jst (o :: r) d = R) (q : (jop d o).2 ≠ 0) : R = jop d o := by rw [jst, if_pos q] at h; exact h.symm
theorem jst_yes {o : Option Wr} {r : List (Option Wr)} {d : Ds} {R : Ds × Int} (h : jst (o :: r) d = R) (q : (jop d o).2 = 0) : jst r (jop d o).1 = R := by rw [jst, if_neg (fun h => h q)] at h; exact h
theorem jop_ok {k : Nat} {d : Ds} (h : DsOk k d) (o : Option Wr) : DsOk (k + 1) (jop d o).1 := by
  cases o with
  | none => exact h.fls
  | some x => exact h.wrt x.1 x.2
def flF (D : Nat) : Value := .func (.func 55) #[.pointer (some ⟨D, 0, none⟩)] #[]
section
variable {n : Nat} {w0 : World} {D J : Nat} {d : Ds} {hf ep ct : Int} {w : World} {k0 : Nat}
theorem jopw (h : JW n w0 D J d hf ep ct w) (o : DsOk k0 d) (hk : k0 ≤ 900) (p : Nat) (x : Wr) (hp : WrB D J p x.1 x.2 w) : Calls Tryz.prog 108 #[.pointer (some ⟨p, 0, none⟩), .pointer (some ⟨p + 1, 0, none⟩), .pointer (some ⟨p + 2, 0, none⟩)] w fun e w' => e = .returned (.int .i64 (jop d (some x)).2) ∧ JW n w0 D J (jop d (some x)).1 hf ep ct w' ∧ Kd D w w' :=
  (jwr1 h o hk p (p + 1) (p + 2) x.1 x.2 hp.a hp.b hp.c).mono fun _ _ ⟨h1, h2, h3⟩ => ⟨h1, h.kd h2 h3, h3⟩
theorem jopf (h : JW n w0 D J d hf ep ct w) (o : DsOk k0 d) (hk : k0 ≤ 900) : Calls Tryz.prog 55 #[.pointer (some ⟨D, 0, none⟩)] w fun e w' => e = .returned (.int .i64 (jop d none).2) ∧ JW n w0 D J (jop d none).1 hf ep ct w' ∧ Kd D w w' :=
  (pflush h.dw o (by omega)).mono fun _ _ ⟨h1, h2, h3⟩ => ⟨h1, h.kd h2 h3, h3⟩
set_option maxRecDepth 100000 in
set_option maxHeartbeats 4000000 in
theorem jsteps_any (B c p1 p2 : Nat) (x1 x2 : Wr) (h : JW n w0 D J d hf ep ct w) (o : DsOk k0 d) (hk : k0 ≤ 890) (h1 : WrB D J p1 x1.1 x1.2 w) (h2 : WrB D J p2 x2.1 x2.2 w) (hB : Bx D B (.cells #[wrF p1, flF D, wrF p2, flF D] 61 (0, 0)) w) :
    Calls Tryz.prog 53 #[.slice (some ⟨B, 0, none⟩) 4 c] w fun e w' => e = .returned (.int .i64 (jst [some x1, none, some x2, none] d).2) ∧ JW n w0 D J (jst [some x1, none, some x2, none] d).1 hf ep ct w' ∧ Kd D w w' := by
  obtain ⟨R, hR⟩ : ∃ R, R = jst [some x1, none, some x2, none] d := ⟨_, rfl⟩
  rw [← hR]
  have HR := Lib.hid hR.symm
  have HJ := Lib.hid h
  have HO := Lib.hid o
  have H1 := Lib.hid h1
  have H2 := Lib.hid h2
  have HB := Lib.hid hB
  clear hR h o h1 h2 hB
  go_enter Tryz.func53, Tryz.ntmps53
  go_wp2_with fail
  go_loopw [8] (fun i wr => ∃ (k : Nat) (x : Ds), i = .int .i64 (k : Int) ∧ k ≤ 4 ∧ DsOk (k0 + k) x ∧ jst ([some x1, none, some x2, none].drop k) x = R ∧ JW n w0 D J x hf ep ct wr ∧ Kd D w wr) (fun i _ => 4 - (intOf i).toNat)
  case atStart => exact ⟨0, d, rfl, Nat.zero_le _, HO.out, HR.out, HJ.out, Kd.refl _ _⟩
  case round =>
    obtain ⟨k, x, rfl, hkc, hok, hl, hjw, hkd⟩ := hrel
    clear HR HJ HO
    have HO := Lib.hid hok
    have HL := Lib.hid hl
    have HJ := Lib.hid hjw
    have HK := Lib.hid hkd
    have HBk := Lib.hid (HB.out.kd hkd)
    clear hok hl hjw hkd
    rcases (show k = 0 ∨ k = 1 ∨ k = 2 ∨ k = 3 ∨ k = 4 by omega) with rfl | rfl | rfl | rfl | rfl
    · have y0 : wr.cell? ⟨B, 0, none⟩ = some (wrF p1) := (cell_of_row _ _ 0 _ _ _ HBk.out.1).trans rfl
      have HNO := Lib.hid (fun q => jst_no (o := (some x1)) HL.out q)
      have HYES := Lib.hid (fun q => jst_yes (o := (some x1)) HL.out q)
      have HO2 := Lib.hid (jop_ok HO.out (some x1))
      have HP := jopw HJ.out HO.out (by omega) p1 x1 (H1.out.kd HK.out)
      obtain ⟨y, hy⟩ : ∃ y, y = jop x (some x1) := ⟨_, rfl⟩
      rw [← hy] at HP HNO HYES HO2
      clear hy HL
      unfold wrF at y0
      go_wp2_with fail
      clear y0
      refine HP.mono ?_
      rintro e w2 ⟨rfl, hj2, hk2⟩
      have HJ2 := Lib.hid hj2
      have HK2 := Lib.hid (HK.out.trans hk2)
      clear hj2 hk2 HP HJ HK HBk
      by_cases hq : y.2 = 0
      · have hz1 : (y.2 != 0) = false := by simpa using hq
        have HY2 := Lib.hid (HYES.out hq)
        clear HNO HYES hq
        go_wp2_with fail
        go_roundw
        case rel => exact ⟨1, y.1, by go_num, by omega, HO2.out, HY2.out, HJ2.out, HK2.out⟩
        case measure => simp [intOf]
      · have hz2 : (y.2 != 0) = true := by simpa using hq
        have HN2 := Lib.hid (HNO.out hq)
        clear HNO HYES hq
        go_wp2_with fail
        go_ret
        exact ⟨dk_retI (by rw [HN2.out]), by rw [HN2.out]; exact HJ2.out, HK2.out⟩
    · have y0 : wr.cell? ⟨B, 1, none⟩ = some (flF D) := (cell_of_row _ _ 1 _ _ _ HBk.out.1).trans rfl
      have HNO := Lib.hid (fun q => jst_no (o := none) HL.out q)
      have HYES := Lib.hid (fun q => jst_yes (o := none) HL.out q)
      have HO2 := Lib.hid (jop_ok HO.out none)
      have HP := jopf HJ.out HO.out (by omega)
      obtain ⟨y, hy⟩ : ∃ y, y = jop x none := ⟨_, rfl⟩
      rw [← hy] at HP HNO HYES HO2
      clear hy HL
      unfold flF at y0
      go_wp2_with fail
      clear y0
      refine HP.mono ?_
      rintro e w2 ⟨rfl, hj2, hk2⟩
      have HJ2 := Lib.hid hj2
      have HK2 := Lib.hid (HK.out.trans hk2)
      clear hj2 hk2 HP HJ HK HBk
      by_cases hq : y.2 = 0
      · have hz1 : (y.2 != 0) = false := by simpa using hq
        have HY2 := Lib.hid (HYES.out hq)
        clear HNO HYES hq
        go_wp2_with fail
        go_roundw
        case rel => exact ⟨2, y.1, by go_num, by omega, HO2.out, HY2.out, HJ2.out, HK2.out⟩
        case measure => simp [intOf]
      · have hz2 : (y.2 != 0) = true := by simpa using hq
        have HN2 := Lib.hid (HNO.out hq)
        clear HNO HYES hq
        go_wp2_with fail
        go_ret
        exact ⟨dk_retI (by rw [HN2.out]), by rw [HN2.out]; exact HJ2.out, HK2.out⟩
    · have y0 : wr.cell? ⟨B, 2, none⟩ = some (wrF p2) := (cell_of_row _ _ 2 _ _ _ HBk.out.1).trans rfl
      have HNO := Lib.hid (fun q => jst_no (o := (some x2)) HL.out q)
      have HYES := Lib.hid (fun q => jst_yes (o := (some x2)) HL.out q)
      have HO2 := Lib.hid (jop_ok HO.out (some x2))
      have HP := jopw HJ.out HO.out (by omega) p2 x2 (H2.out.kd HK.out)
      obtain ⟨y, hy⟩ : ∃ y, y = jop x (some x2) := ⟨_, rfl⟩
      rw [← hy] at HP HNO HYES HO2
      clear hy HL
      unfold wrF at y0
      go_wp2_with fail
      clear y0
      refine HP.mono ?_
      rintro e w2 ⟨rfl, hj2, hk2⟩
      have HJ2 := Lib.hid hj2
      have HK2 := Lib.hid (HK.out.trans hk2)
      clear hj2 hk2 HP HJ HK HBk
      by_cases hq : y.2 = 0
      · have hz1 : (y.2 != 0) = false := by simpa using hq
        have HY2 := Lib.hid (HYES.out hq)
        clear HNO HYES hq
        go_wp2_with fail
        go_roundw
        case rel => exact ⟨3, y.1, by go_num, by omega, HO2.out, HY2.out, HJ2.out, HK2.out⟩
        case measure => simp [intOf]
      · have hz2 : (y.2 != 0) = true := by simpa using hq
        have HN2 := Lib.hid (HNO.out hq)
        clear HNO HYES hq
        go_wp2_with fail
        go_ret
        exact ⟨dk_retI (by rw [HN2.out]), by rw [HN2.out]; exact HJ2.out, HK2.out⟩
    · have y0 : wr.cell? ⟨B, 3, none⟩ = some (flF D) := (cell_of_row _ _ 3 _ _ _ HBk.out.1).trans rfl
      have HNO := Lib.hid (fun q => jst_no (o := none) HL.out q)
      have HYES := Lib.hid (fun q => jst_yes (o := none) HL.out q)
      have HO2 := Lib.hid (jop_ok HO.out none)
      have HP := jopf HJ.out HO.out (by omega)
      obtain ⟨y, hy⟩ : ∃ y, y = jop x none := ⟨_, rfl⟩
      rw [← hy] at HP HNO HYES HO2
      clear hy HL
      unfold flF at y0
      go_wp2_with fail
      clear y0
      refine HP.mono ?_
      rintro e w2 ⟨rfl, hj2, hk2⟩
      have HJ2 := Lib.hid hj2
      have HK2 := Lib.hid (HK.out.trans hk2)
      clear hj2 hk2 HP HJ HK HBk
      by_cases hq : y.2 = 0
      · have hz1 : (y.2 != 0) = false := by simpa using hq
        have HY2 := Lib.hid (HYES.out hq)
        clear HNO HYES hq
        go_wp2_with fail
        go_roundw
        case rel => exact ⟨4, y.1, by go_num, by omega, HO2.out, HY2.out, HJ2.out, HK2.out⟩
        case measure => simp [intOf]
      · have hz2 : (y.2 != 0) = true := by simpa using hq
        have HN2 := Lib.hid (HNO.out hq)
        clear HNO HYES hq
        go_wp2_with fail
        go_ret
        exact ⟨dk_retI (by rw [HN2.out]), by rw [HN2.out]; exact HJ2.out, HK2.out⟩
    · have HR := Lib.hid (show R = (x, 0) from HL.out.symm)
      clear HL HBk
      go_wp2_with fail
      go_ret
      exact ⟨dk_retI (by rw [HR.out]), by rw [HR.out]; exact HJ.out, HK.out⟩
end
end Go.Proofs.YtiflieaemgamkaaGreatDoor

namespace Go.Proofs.YtiflieaemgamkaaGreatDoor
open Go.RowKit Vi Ar Cm

theorem repJ : (⟨(Lib.repeatL [(0 : UInt8)] 128).toArray⟩ : ByteArray) = noZ := repZ
section
variable {n : Nat} {w0 : World} {D J : Nat} {d : Ds} {hf ep ct : Int} {w : World} {k0 : Nat}
/-- what a record that is appended does -/
def japS (d : Ds) (a1 a2 ep ct k : Int) (x o y : ByteArray) (t u : Int) : Ds × Int := jst [some (a1, noZ), none, some (a2, recS ep ct k x o y t u), none] d
set_option maxRecDepth 100000 in
set_option maxHeartbeats 8000000 in
theorem jappend_yes (h : JW n w0 D J d hf ep ct w) (ok : DsOk k0 d) (hk0 : k0 ≤ 890) (hT : Tab w) (e0 s0 k : Int) (x o y : ByteArray) (t u a1 a2 : Int) (hr : rok ep ct k x o y t u = true) (hc0 : 0 ≤ ct) (hc1 : ct ≤ 100000) (h1 : pl (d.S.length : Int) hf (ct + 1) = .tuple #[.int .i64 a1, .int .i64 0]) (h2 : pl (d.S.length : Int) hf ct = .tuple #[.int .i64 a2, .int .i64 0]) :
    Calls Tryz.prog 17 #[.pointer (some ⟨J, 0, none⟩), .agg #[.int .i64 e0, .int .i64 s0, .int .i64 k, .string x, .string o, .string y, .int .i64 t, .int .i64 u]] w fun e w' => e = .returned (.int .i64 (japS d a1 a2 ep ct k x o y t u).2) ∧ JW n w0 D J (japS d a1 a2 ep ct k x o y t u).1 hf ep (if (japS d a1 a2 ep ct k x o y t u).2 = 0 then ct + 1 else ct) w' := by
  obtain ⟨Z, hZ⟩ : ∃ Z, Z = japS d a1 a2 ep ct k x o y t u := ⟨_, rfl⟩
  rw [← hZ]
  have HZ := Lib.hid hZ
  have hb0 : Below w.heap.size w (w.alloc (.cells #[.int .i64 e0, .int .i64 s0, .int .i64 k, .string x, .string o, .string y, .int .i64 t, .int .i64 u] 42 (0, 0))) := (Below.refl _ _).alloc (Nat.le_refl _) _
  have HV := Lib.hid (h.below hb0)
  have HF := Lib.hid (blk_new w (.cells #[.int .i64 e0, .int .i64 s0, .int .i64 k, .string x, .string o, .string y, .int .i64 t, .int .i64 u] 42 (0, 0)))
  have HB := Lib.hid hb0
  have hnr : ¬ InD D (w.alloc (.cells #[.int .i64 e0, .int .i64 s0, .int .i64 k, .string x, .string o, .string y, .int .i64 t, .int .i64 u] 42 (0, 0))) w.heap.size := fun q => by have := h.dw.dk.new (q.back hb0 h.dw.lt); omega
  have HNR := Lib.hid hnr
  have hrn := h.dw.sz
  have hJr : J ≠ w.heap.size := fun e => by have := lt_of_block h.bx; omega
  have HT := Lib.hid hT
  have HRK := Lib.hid hr
  have hl1 : d.S.length ≤ 4096 := ok.s2
  have HP1 := Lib.hid (fun (W : World) (q : JW n w0 D J d hf ep ct W) => jplace_any q hl1 (ct + 1) a1 0 (by omega) (by omega) h1)
  have HP2 := Lib.hid (fun (W : World) (q : JW n w0 D J d hf ep ct W) => jplace_any q hl1 ct a2 0 (by omega) (by omega) h2)
  have HRP := Lib.hid (fun W : World => Tryz.strings_Repeat ⟨#[0]⟩ 128 W (by omega) (by show 1 * 128 ≤ _; omega))
  have HREP := Lib.hid repJ
  have ew : IntKind.i64.wrap (ct + 1) = ct + 1 := IntWalk.i64_in _ (by omega)
  have HST := Lib.hid (fun (W : World) (B c p1 p2 : Nat) (q : JW n w0 D J d hf ep ct W) (g1 : WrB D J p1 a1 noZ W) (g2 : WrB D J p2 a2 (recS ep ct k x o y t u) W) (gB : Bx D B (.cells #[wrF p1, flF D, wrF p2, flF D] 61 (0, 0)) W) => (by have y := jsteps_any B c p1 p2 (a1, noZ) (a2, recS ep ct k x o y t u) q ok hk0 g1 g2 gB; rw [hZ]; exact y : Calls Tryz.prog 53 #[.slice (some ⟨B, 0, none⟩) 4 c] W fun e w' => e = .returned (.int .i64 Z.2) ∧ JW n w0 D J Z.1 hf ep ct w' ∧ Kd D W w'))
  obtain ⟨v, hv⟩ : ∃ v, v = w.alloc (.cells #[.int .i64 e0, .int .i64 s0, .int .i64 k, .string x, .string o, .string y, .int .i64 t, .int .i64 u] 42 (0, 0)) := ⟨_, rfl⟩
  have HVV := Lib.hid hv
  rw [← hv] at HV HF HB HNR
  have HMD := Lib.hid (jmade_any HV.out)
  clear h ok hT hr h1 h2 hb0 hnr hv hZ
  go_enter Tryz.func17, Tryz.ntmps17
  go_upto_region 1 with (fail)
  rw [← HVV.out]
  clear HVV
  generalize hrr : w.heap.size = r at *
  go_wp2_with fail
  refine HMD.out.mono ?_
  rintro e w' ⟨rfl, rfl⟩
  clear HMD
  go_upto_region 3 with (fail)
  have HV := Lib.hid (HV.out.below (Below.refl _ _).drew)
  have HF := Lib.hid (show v.drew.heap[r]? = some (.cells #[.int .i64 e0, .int .i64 s0, .int .i64 k, .string x, .string o, .string y, .int .i64 t, .int .i64 u] 42 (0, 0)) from HF.out)
  have HNR : Hid (¬ InD D v.drew r) := Lib.hid (fun q => HNR.out q)
  have HB := Lib.hid HB.out.drew
  refine wp_region_L_drew (S := fun _ W => W.heap[J]? = some (jnO D hf ep ct)) (by kernel_rfl) HV.out.bx (fun hS hC => ?_)
  generalize v.drew = v0 at *
  refine wpAnyL_take (i := 0) (oi := { dst := some 14, op := .move (.tmp 0), type := _, pos := _, after := _, guard := none }) (v := ?_) rfl (by kernel_rfl) (by kernel_rfl) (by kernel_rfl) (fun _ _ _ h => h) (fun _ _ => Iff.rfl) hC (Or.inl ⟨by rfl, ?_⟩) HV.out.bx (fun hC hS => ?_)
  rotate_left
  · intro W9 hSw; skip; go_simp; try (with_reducible rfl)
  try simp only [Act.put, List.setIfInBounds_toArray, List.set_cons_zero, List.set_cons_succ]
  refine wpAnyL_take (i := 1) (oi := { dst := some 15, op := .nilCheck (.tmp 14), type := _, pos := _, after := _, guard := none }) (v := ?_) rfl (by kernel_rfl) (by kernel_rfl) (by kernel_rfl) (fun _ _ _ h => h) (fun _ _ => Iff.rfl) hC (Or.inl ⟨by rfl, ?_⟩) HV.out.bx (fun hC hS => ?_)
  rotate_left
  · intro W9 hSw; skip; go_simp; try (with_reducible rfl)
  try simp only [Act.put, List.setIfInBounds_toArray, List.set_cons_zero, List.set_cons_succ]
  refine wpAnyL_take (i := 2) (oi := { dst := some 16, op := .fieldAddr 100 (.tmp 15) 2, type := _, pos := _, after := _, guard := none }) (v := ?_) rfl (by kernel_rfl) (by kernel_rfl) (by kernel_rfl) (fun _ _ _ h => h) (fun _ _ => Iff.rfl) hC (Or.inl ⟨by rfl, ?_⟩) HV.out.bx (fun hC hS => ?_)
  rotate_left
  · intro W9 hSw; skip; go_simp; try (with_reducible rfl)
  try simp only [Act.put, List.setIfInBounds_toArray, List.set_cons_zero, List.set_cons_succ]
  refine wpAnyL_take (i := 3) (oi := { dst := some 17, op := .load 3 (.tmp 16), type := _, pos := _, after := _, guard := none }) (v := ?_) rfl (by kernel_rfl) (by kernel_rfl) (by kernel_rfl) (fun _ _ _ h => h) (fun _ _ => Iff.rfl) hC (Or.inl ⟨by rfl, ?_⟩) HV.out.bx (fun hC hS => ?_)
  rotate_left
  · intro W9 hSw; have q0 := (cell_of_row _ _ 2 _ _ _ hSw.choose_spec.2.2).trans rfl; go_simp; try (with_reducible rfl)
  try simp only [Act.put, List.setIfInBounds_toArray, List.set_cons_zero, List.set_cons_succ]
  refine wpAnyL_take (i := 4) (oi := { dst := some 18, op := .move (.tmp 0), type := _, pos := _, after := _, guard := none }) (v := ?_) rfl (by kernel_rfl) (by kernel_rfl) (by kernel_rfl) (fun _ _ _ h => h) (fun _ _ => Iff.rfl) hC (Or.inl ⟨by rfl, ?_⟩) HV.out.bx (fun hC hS => ?_)
  rotate_left
  · intro W9 hSw; skip; go_simp; try (with_reducible rfl)
  try simp only [Act.put, List.setIfInBounds_toArray, List.set_cons_zero, List.set_cons_succ]
  refine wpAnyL_take (i := 5) (oi := { dst := some 19, op := .nilCheck (.tmp 18), type := _, pos := _, after := _, guard := none }) (v := ?_) rfl (by kernel_rfl) (by kernel_rfl) (by kernel_rfl) (fun _ _ _ h => h) (fun _ _ => Iff.rfl) hC (Or.inl ⟨by rfl, ?_⟩) HV.out.bx (fun hC hS => ?_)
  rotate_left
  · intro W9 hSw; skip; go_simp; try (with_reducible rfl)
  try simp only [Act.put, List.setIfInBounds_toArray, List.set_cons_zero, List.set_cons_succ]
  refine wpAnyL_take (i := 6) (oi := { dst := some 20, op := .fieldAddr 100 (.tmp 19) 3, type := _, pos := _, after := _, guard := none }) (v := ?_) rfl (by kernel_rfl) (by kernel_rfl) (by kernel_rfl) (fun _ _ _ h => h) (fun _ _ => Iff.rfl) hC (Or.inl ⟨by rfl, ?_⟩) HV.out.bx (fun hC hS => ?_)
  rotate_left
  · intro W9 hSw; skip; go_simp; try (with_reducible rfl)
  try simp only [Act.put, List.setIfInBounds_toArray, List.set_cons_zero, List.set_cons_succ]
  refine wpAnyL_take (i := 7) (oi := { dst := some 21, op := .load 3 (.tmp 20), type := _, pos := _, after := _, guard := none }) (v := ?_) rfl (by kernel_rfl) (by kernel_rfl) (by kernel_rfl) (fun _ _ _ h => h) (fun _ _ => Iff.rfl) hC (Or.inl ⟨by rfl, ?_⟩) HV.out.bx (fun hC hS => ?_)
  rotate_left
  · intro W9 hSw; have q0 := (cell_of_row _ _ 3 _ _ _ hSw.choose_spec.2.2).trans rfl; go_simp; try (with_reducible rfl)
  try simp only [Act.put, List.setIfInBounds_toArray, List.set_cons_zero, List.set_cons_succ]
  refine wpAnyL_take (i := 8) (oi := { dst := some 22, op := .fieldAddr 42 (.tmp 3) 0, type := _, pos := _, after := _, guard := none }) (v := ?_) rfl (by kernel_rfl) (by kernel_rfl) (by kernel_rfl) (fun _ _ _ h => h) (fun _ _ => Iff.rfl) hC (Or.inl ⟨by rfl, ?_⟩) HV.out.bx (fun hC hS => ?_)
  rotate_left
  · intro W9 hSw; skip; go_simp; try (with_reducible rfl)
  try simp only [Act.put, List.setIfInBounds_toArray, List.set_cons_zero, List.set_cons_succ]
  refine wpAnyL_ready (rs := [9]) (by kernel_rfl) (by simp) hC ?_
  refine AllReadyL.cons (o := { dst := none, op := .store 3 (.tmp 22) (.tmp 17), type := _, pos := _, after := _, guard := none }) rfl (fun K9 hK => ?_) ?_
  · skip
    have y0 : v0.cell? ⟨r, 0, none⟩ = some (.int .i64 e0) := (cell_of_row _ _ 0 _ _ _ HF.out).trans rfl
    have z0 : v0.frozen? ⟨r, 0, none⟩ = false := frozen_of_row _ _ _ _ _ HF.out
    go_simp
    clear y0 z0
    have HF1 : Hid ((v0.setCell ⟨r, 0, none⟩ (.int .i64 ep)).heap[r]? = some (.cells #[.int .i64 ep, .int .i64 s0, .int .i64 k, .string x, .string o, .string y, .int .i64 t, .int .i64 u] 42 (0, 0))) := Lib.hid (by have q := heap_setCell_at (i := 0) (u := .int .i64 ep) HF.out; exact q)
    have HK1 := Lib.hid ((KK.refl [r] v0).set (b := r) (by simp) 0 (.int .i64 ep))
    refine hK _ _ (HK1.out.blk HV.out.bx (by simpa using hJr)) (fun hC => ?_)
    clear hK K9
    try simp only [Act.put, List.setIfInBounds_toArray, List.set_cons_zero, List.set_cons_succ]
    refine wpAnyL_take (i := 10) (oi := { dst := some 23, op := .fieldAddr 42 (.tmp 3) 1, type := _, pos := _, after := _, guard := none }) (v := ?_) rfl (by kernel_rfl) (by kernel_rfl) (by kernel_rfl) (fun _ _ _ h => h) (fun _ _ => Iff.rfl) hC (Or.inl ⟨by rfl, ?_⟩) (HK1.out.blk HV.out.bx (by simpa using hJr)) (fun hC hS => ?_)
    rotate_left
    · intro W9 hSw; skip; go_simp; try (with_reducible rfl)
    try simp only [Act.put, List.setIfInBounds_toArray, List.set_cons_zero, List.set_cons_succ]
    refine wpAnyL_ready (rs := [11]) (by kernel_rfl) (by simp) hC ?_
    refine AllReadyL.cons (o := { dst := none, op := .store 3 (.tmp 23) (.tmp 21), type := _, pos := _, after := _, guard := none }) rfl (fun K9 hK => ?_) ?_
    · skip
      have y0 : (v0.setCell ⟨r, 0, none⟩ (.int .i64 ep)).cell? ⟨r, 1, none⟩ = some (.int .i64 s0) := (cell_of_row _ _ 1 _ _ _ HF1.out).trans rfl
      have z0 : (v0.setCell ⟨r, 0, none⟩ (.int .i64 ep)).frozen? ⟨r, 1, none⟩ = false := frozen_of_row _ _ _ _ _ HF1.out
      go_simp
      clear y0 z0
      have HF2 : Hid (((v0.setCell ⟨r, 0, none⟩ (.int .i64 ep)).setCell ⟨r, 1, none⟩ (.int .i64 ct)).heap[r]? = some (.cells #[.int .i64 ep, .int .i64 ct, .int .i64 k, .string x, .string o, .string y, .int .i64 t, .int .i64 u] 42 (0, 0))) := Lib.hid (by have q := heap_setCell_at (i := 1) (u := .int .i64 ct) HF1.out; exact q)
      have HK2 := Lib.hid (HK1.out.set (b := r) (by simp) 1 (.int .i64 ct))
      refine hK _ _ (HK2.out.blk HV.out.bx (by simpa using hJr)) (fun hC => ?_)
      clear hK K9
      try simp only [Act.put, List.setIfInBounds_toArray, List.set_cons_zero, List.set_cons_succ]
      refine wpAnyL_done (by kernel_rfl) ?_ _
      clear hS hC
      have HV2 := Lib.hid (HV.out.kk HK2.out HNR.out hrn hJr)
      have HB2 : Hid (Below r w ((v0.setCell ⟨r, 0, none⟩ (.int .i64 ep)).setCell ⟨r, 1, none⟩ (.int .i64 ct))) := Lib.hid (HK2.out.below HB.out (fun b hb => by have e : b = r := (by simpa using hb); omega) (by have := HB.out.size; omega))
      have HT2 := Lib.hid (HT.out.later (by rw [hrr]; exact HB2.out))
      clear HV HB HF HF1 HK1 HK2 HNR HT
      generalize ((v0.setCell ⟨r, 0, none⟩ (.int .i64 ep)).setCell ⟨r, 1, none⟩ (.int .i64 ct)) = v1 at *
      have y0 : v1.cell? ⟨r, 0, none⟩ = _ := (cell_of_row _ _ 0 _ _ _ HF2.out).trans rfl
      have y1 : v1.cell? ⟨r, 1, none⟩ = _ := (cell_of_row _ _ 1 _ _ _ HF2.out).trans rfl
      have y2 : v1.cell? ⟨r, 2, none⟩ = _ := (cell_of_row _ _ 2 _ _ _ HF2.out).trans rfl
      have y3 : v1.cell? ⟨r, 3, none⟩ = _ := (cell_of_row _ _ 3 _ _ _ HF2.out).trans rfl
      have y4 : v1.cell? ⟨r, 4, none⟩ = _ := (cell_of_row _ _ 4 _ _ _ HF2.out).trans rfl
      have y5 : v1.cell? ⟨r, 5, none⟩ = _ := (cell_of_row _ _ 5 _ _ _ HF2.out).trans rfl
      have y6 : v1.cell? ⟨r, 6, none⟩ = _ := (cell_of_row _ _ 6 _ _ _ HF2.out).trans rfl
      have y7 : v1.cell? ⟨r, 7, none⟩ = _ := (cell_of_row _ _ 7 _ _ _ HF2.out).trans rfl
      go_wp2_with fail
      clear y0 y1 y2 y3 y4 y5 y6 y7 HF2
      refine (erput_yes ep ct k x o y t u v1 HT2.out HRK.out).mono ?_
      rintro e w1 ⟨rfl, hb⟩
      have HV3 := Lib.hid (HV2.out.below hb)
      clear hb HV2 HB2 HT2
      generalize recS ep ct k x o y t u = rs at *
      have c3 := HV3.out.c3
      go_wp2_with fail
      clear c3
      refine (HP1.out _ HV3.out).mono ?_
      rintro e w2 ⟨rfl, hb⟩
      have HV4 := Lib.hid (HV3.out.below hb)
      clear hb HV3
      have c3 := HV4.out.c3
      go_wp2_with fail
      clear c3
      refine (HP2.out _ HV4.out).mono ?_
      rintro e w3 ⟨rfl, hb⟩
      have HV5 := Lib.hid (HV4.out.below hb)
      clear hb HV4
      go_wp2_with fail
      refine (HRP.out _).mono ?_
      rintro e w4 ⟨he, hb⟩
      rw [HREP.out] at he
      subst he
      have HV6 := Lib.hid (HV5.out.below hb)
      clear hb HV5
      go_upto_region 12 with (fail)
      have HV := Lib.hid (HV6.out.below (Below.refl _ _).drew)
      clear HV6
      refine wp_region_L_drew (S := fun _ W => W.heap[J]? = some (jnO D hf ep ct)) (by kernel_rfl) HV.out.bx (fun hS hC => ?_)
      generalize w4.drew = v0 at *
      refine wpAnyL_take (i := 0) (oi := { dst := some 54, op := .move (.tmp 0), type := _, pos := _, after := _, guard := none }) (v := ?_) rfl (by kernel_rfl) (by kernel_rfl) (by kernel_rfl) (fun _ _ _ h => h) (fun _ _ => Iff.rfl) hC (Or.inl ⟨by rfl, ?_⟩) HV.out.bx (fun hC hS => ?_)
      rotate_left
      · intro W9 hSw; skip; go_simp; try (with_reducible rfl)
      try simp only [Act.put, List.setIfInBounds_toArray, List.set_cons_zero, List.set_cons_succ]
      refine wpAnyL_take (i := 1) (oi := { dst := some 55, op := .move (.tmp 7), type := _, pos := _, after := _, guard := none }) (v := ?_) rfl (by kernel_rfl) (by kernel_rfl) (by kernel_rfl) (fun _ _ _ h => h) (fun _ _ => Iff.rfl) hC (Or.inl ⟨by rfl, ?_⟩) HV.out.bx (fun hC hS => ?_)
      rotate_left
      · intro W9 hSw; skip; go_simp; try (with_reducible rfl)
      try simp only [Act.put, List.setIfInBounds_toArray, List.set_cons_zero, List.set_cons_succ]
      refine wpAnyL_take (i := 2) (oi := { dst := some 56, op := .move (.tmp 10), type := _, pos := _, after := _, guard := none }) (v := ?_) rfl (by kernel_rfl) (by kernel_rfl) (by kernel_rfl) (fun _ _ _ h => h) (fun _ _ => Iff.rfl) hC (Or.inl ⟨by rfl, ?_⟩) HV.out.bx (fun hC hS => ?_)
      rotate_left
      · intro W9 hSw; skip; go_simp; try (with_reducible rfl)
      try simp only [Act.put, List.setIfInBounds_toArray, List.set_cons_zero, List.set_cons_succ]
      refine wpAnyL_take (i := 4) (oi := { dst := some 58, op := .move (.tmp 0), type := _, pos := _, after := _, guard := none }) (v := ?_) rfl (by kernel_rfl) (by kernel_rfl) (by kernel_rfl) (fun _ _ _ h => h) (fun _ _ => Iff.rfl) hC (Or.inl ⟨by rfl, ?_⟩) HV.out.bx (fun hC hS => ?_)
      rotate_left
      · intro W9 hSw; skip; go_simp; try (with_reducible rfl)
      try simp only [Act.put, List.setIfInBounds_toArray, List.set_cons_zero, List.set_cons_succ]
      refine wpAnyL_take (i := 5) (oi := { dst := some 59, op := .nilCheck (.tmp 58), type := _, pos := _, after := _, guard := none }) (v := ?_) rfl (by kernel_rfl) (by kernel_rfl) (by kernel_rfl) (fun _ _ _ h => h) (fun _ _ => Iff.rfl) hC (Or.inl ⟨by rfl, ?_⟩) HV.out.bx (fun hC hS => ?_)
      rotate_left
      · intro W9 hSw; skip; go_simp; try (with_reducible rfl)
      try simp only [Act.put, List.setIfInBounds_toArray, List.set_cons_zero, List.set_cons_succ]
      refine wpAnyL_take (i := 6) (oi := { dst := some 60, op := .fieldAddr 100 (.tmp 59) 0, type := _, pos := _, after := _, guard := none }) (v := ?_) rfl (by kernel_rfl) (by kernel_rfl) (by kernel_rfl) (fun _ _ _ h => h) (fun _ _ => Iff.rfl) hC (Or.inl ⟨by rfl, ?_⟩) HV.out.bx (fun hC hS => ?_)
      rotate_left
      · intro W9 hSw; skip; go_simp; try (with_reducible rfl)
      try simp only [Act.put, List.setIfInBounds_toArray, List.set_cons_zero, List.set_cons_succ]
      refine wpAnyL_take (i := 7) (oi := { dst := some 61, op := .load 25 (.tmp 60), type := _, pos := _, after := _, guard := none }) (v := ?_) rfl (by kernel_rfl) (by kernel_rfl) (by kernel_rfl) (fun _ _ _ h => h) (fun _ _ => Iff.rfl) hC (Or.inl ⟨by rfl, ?_⟩) HV.out.bx (fun hC hS => ?_)
      rotate_left
      · intro W9 hSw; have q0 := (cell_of_row _ _ 0 _ _ _ hSw.choose_spec.2.2).trans rfl; go_simp; try (with_reducible rfl)
      try simp only [Act.put, List.setIfInBounds_toArray, List.set_cons_zero, List.set_cons_succ]
      refine wpAnyL_take (i := 8) (oi := { dst := some 62, op := .makeFunc (.func 55) #[.tmp 61] #[], type := _, pos := _, after := _, guard := none }) (v := ?_) rfl (by kernel_rfl) (by kernel_rfl) (by kernel_rfl) (fun _ _ _ h => h) (fun _ _ => Iff.rfl) hC (Or.inl ⟨by rfl, ?_⟩) HV.out.bx (fun hC hS => ?_)
      rotate_left
      · intro W9 hSw; skip; go_simp; try (with_reducible rfl)
      try simp only [Act.put, List.setIfInBounds_toArray, List.set_cons_zero, List.set_cons_succ]
      refine wpAnyL_take (i := 9) (oi := { dst := some 63, op := .move (.tmp 0), type := _, pos := _, after := _, guard := none }) (v := ?_) rfl (by kernel_rfl) (by kernel_rfl) (by kernel_rfl) (fun _ _ _ h => h) (fun _ _ => Iff.rfl) hC (Or.inl ⟨by rfl, ?_⟩) HV.out.bx (fun hC hS => ?_)
      rotate_left
      · intro W9 hSw; skip; go_simp; try (with_reducible rfl)
      try simp only [Act.put, List.setIfInBounds_toArray, List.set_cons_zero, List.set_cons_succ]
      refine wpAnyL_take (i := 10) (oi := { dst := some 64, op := .move (.tmp 8), type := _, pos := _, after := _, guard := none }) (v := ?_) rfl (by kernel_rfl) (by kernel_rfl) (by kernel_rfl) (fun _ _ _ h => h) (fun _ _ => Iff.rfl) hC (Or.inl ⟨by rfl, ?_⟩) HV.out.bx (fun hC hS => ?_)
      rotate_left
      · intro W9 hSw; skip; go_simp; try (with_reducible rfl)
      try simp only [Act.put, List.setIfInBounds_toArray, List.set_cons_zero, List.set_cons_succ]
      refine wpAnyL_take (i := 11) (oi := { dst := some 65, op := .move (.tmp 5), type := _, pos := _, after := _, guard := none }) (v := ?_) rfl (by kernel_rfl) (by kernel_rfl) (by kernel_rfl) (fun _ _ _ h => h) (fun _ _ => Iff.rfl) hC (Or.inl ⟨by rfl, ?_⟩) HV.out.bx (fun hC hS => ?_)
      rotate_left
      · intro W9 hSw; skip; go_simp; try (with_reducible rfl)
      try simp only [Act.put, List.setIfInBounds_toArray, List.set_cons_zero, List.set_cons_succ]
      refine wpAnyL_take (i := 13) (oi := { dst := some 67, op := .move (.tmp 0), type := _, pos := _, after := _, guard := none }) (v := ?_) rfl (by kernel_rfl) (by kernel_rfl) (by kernel_rfl) (fun _ _ _ h => h) (fun _ _ => Iff.rfl) hC (Or.inl ⟨by rfl, ?_⟩) HV.out.bx (fun hC hS => ?_)
      rotate_left
      · intro W9 hSw; skip; go_simp; try (with_reducible rfl)
      try simp only [Act.put, List.setIfInBounds_toArray, List.set_cons_zero, List.set_cons_succ]
      refine wpAnyL_take (i := 14) (oi := { dst := some 68, op := .nilCheck (.tmp 67), type := _, pos := _, after := _, guard := none }) (v := ?_) rfl (by kernel_rfl) (by kernel_rfl) (by kernel_rfl) (fun _ _ _ h => h) (fun _ _ => Iff.rfl) hC (Or.inl ⟨by rfl, ?_⟩) HV.out.bx (fun hC hS => ?_)
      rotate_left
      · intro W9 hSw; skip; go_simp; try (with_reducible rfl)
      try simp only [Act.put, List.setIfInBounds_toArray, List.set_cons_zero, List.set_cons_succ]
      refine wpAnyL_take (i := 15) (oi := { dst := some 69, op := .fieldAddr 100 (.tmp 68) 0, type := _, pos := _, after := _, guard := none }) (v := ?_) rfl (by kernel_rfl) (by kernel_rfl) (by kernel_rfl) (fun _ _ _ h => h) (fun _ _ => Iff.rfl) hC (Or.inl ⟨by rfl, ?_⟩) HV.out.bx (fun hC hS => ?_)
      rotate_left
      · intro W9 hSw; skip; go_simp; try (with_reducible rfl)
      try simp only [Act.put, List.setIfInBounds_toArray, List.set_cons_zero, List.set_cons_succ]
      refine wpAnyL_take (i := 16) (oi := { dst := some 70, op := .load 25 (.tmp 69), type := _, pos := _, after := _, guard := none }) (v := ?_) rfl (by kernel_rfl) (by kernel_rfl) (by kernel_rfl) (fun _ _ _ h => h) (fun _ _ => Iff.rfl) hC (Or.inl ⟨by rfl, ?_⟩) HV.out.bx (fun hC hS => ?_)
      rotate_left
      · intro W9 hSw; have q0 := (cell_of_row _ _ 0 _ _ _ hSw.choose_spec.2.2).trans rfl; go_simp; try (with_reducible rfl)
      try simp only [Act.put, List.setIfInBounds_toArray, List.set_cons_zero, List.set_cons_succ]
      refine wpAnyL_take (i := 17) (oi := { dst := some 71, op := .makeFunc (.func 55) #[.tmp 70] #[], type := _, pos := _, after := _, guard := none }) (v := ?_) rfl (by kernel_rfl) (by kernel_rfl) (by kernel_rfl) (fun _ _ _ h => h) (fun _ _ => Iff.rfl) hC (Or.inl ⟨by rfl, ?_⟩) HV.out.bx (fun hC hS => ?_)
      rotate_left
      · intro W9 hSw; skip; go_simp; try (with_reducible rfl)
      try simp only [Act.put, List.setIfInBounds_toArray, List.set_cons_zero, List.set_cons_succ]
      refine wpAnyL_ready (rs := [3]) (by kernel_rfl) (by simp) hC ?_
      refine AllReadyL.cons (o := { dst := some 57, op := .call { callee := .value (.func 54), args := #[.tmp 54, .tmp 55, .tmp 56], argTypes := #[37, 3, 9] }, type := _, pos := _, after := _, guard := none }) rfl (fun K9 hK => ?_) ?_
      · skip
        go_simp
        refine (jwrite_any HV.out a1 noZ).mono ?_
        rintro e v1 ⟨rfl, hw, hb⟩
        have HV := Lib.hid (HV.out.below hb)
        have HG1 := Lib.hid hw
        clear hw hb
        generalize v0.heap.size = p1 at *
        simp only [wrF]
        refine hK _ _ HV.out.bx (fun hC => ?_)
        clear hK K9
        try simp only [Act.put, List.setIfInBounds_toArray, List.set_cons_zero, List.set_cons_succ]
        refine wpAnyL_ready (rs := [12]) (by kernel_rfl) (by simp) hC ?_
        refine AllReadyL.cons (o := { dst := some 66, op := .call { callee := .value (.func 54), args := #[.tmp 63, .tmp 64, .tmp 65], argTypes := #[37, 3, 9] }, type := _, pos := _, after := _, guard := none }) rfl (fun K9 hK => ?_) ?_
        · skip
          go_simp
          refine (jwrite_any HV.out a2 rs).mono ?_
          rintro e v2 ⟨rfl, hw, hb⟩
          have HG1 := Lib.hid (HG1.out.kd (Kd.of_below hb HV.out.dw.lt))
          have HV := Lib.hid (HV.out.below hb)
          have HG2 := Lib.hid hw
          clear hw hb
          generalize v1.heap.size = p2 at *
          simp only [wrF]
          refine hK _ _ HV.out.bx (fun hC => ?_)
          clear hK K9
          try simp only [Act.put, List.setIfInBounds_toArray, List.set_cons_zero, List.set_cons_succ]
          refine wpAnyL_ready (rs := [18]) (by kernel_rfl) (by simp) hC ?_
          refine AllReadyL.cons (o := { dst := some 72, op := .buildSlice 180 4 #[(0, .tmp 57), (1, .tmp 62), (2, .tmp 66), (3, .tmp 71)], type := _, pos := _, after := _, guard := none }) rfl (fun K9 hK => ?_) ?_
          · skip
            go_simp
            have hb : Below v2.heap.size v2 (v2.alloc (.cells #[wrF p1, flF D, wrF p2, flF D] 61 (0, 0))) := (Below.refl _ _).alloc (Nat.le_refl _) _
            have hnb : ¬ InD D (v2.alloc (.cells #[wrF p1, flF D, wrF p2, flF D] 61 (0, 0))) v2.heap.size := fun q => by have := HV.out.dw.dk.new (q.back hb HV.out.dw.lt); omega
            have HGB : Hid (Bx D v2.heap.size (.cells #[wrF p1, flF D, wrF p2, flF D] 61 (0, 0)) (v2.alloc (.cells #[wrF p1, flF D, wrF p2, flF D] 61 (0, 0)))) := Lib.hid ⟨blk_new v2 _, hnb⟩
            have HG1 := Lib.hid (HG1.out.kd (Kd.of_below hb HV.out.dw.lt))
            have HG2 := Lib.hid (HG2.out.kd (Kd.of_below hb HV.out.dw.lt))
            have HV := Lib.hid (HV.out.below hb)
            clear hb hnb
            refine hK _ _ HV.out.bx (fun hC => ?_)
            clear hK K9
            try simp only [Act.put, List.setIfInBounds_toArray, List.set_cons_zero, List.set_cons_succ]
            refine wpAnyL_ready (rs := [19]) (by kernel_rfl) (by simp) hC ?_
            refine AllReadyL.cons (o := { dst := some 73, op := .call { callee := .value (.func 53), args := #[.tmp 72], argTypes := #[180] }, type := _, pos := _, after := _, guard := none }) rfl (fun K9 hK => ?_) ?_
            · skip
              go_simp
              refine (HST.out _ v2.heap.size 4 p1 p2 HV.out HG1.out HG2.out HGB.out).mono ?_
              rintro e v3 ⟨rfl, hj, _⟩
              have HV := Lib.hid hj
              clear hj HG1 HG2 HGB
              refine hK _ _ HV.out.bx (fun hC => ?_)
              clear hK K9
              try simp only [Act.put, List.setIfInBounds_toArray, List.set_cons_zero, List.set_cons_succ]
              refine wpAnyL_take (i := 20) (oi := { dst := some 6, op := .assign (.tmp 73), type := _, pos := _, after := _, guard := none }) (v := ?_) rfl (by kernel_rfl) (by kernel_rfl) (by kernel_rfl) (fun _ _ _ h => h) (fun _ _ => Iff.rfl) hC (Or.inl ⟨by rfl, ?_⟩) HV.out.bx (fun hC hS => ?_)
              rotate_left
              · intro W9 hSw; skip; go_simp; try (with_reducible rfl)
              try simp only [Act.put, List.setIfInBounds_toArray, List.set_cons_zero, List.set_cons_succ]
              refine wpAnyL_done (by kernel_rfl) ?_ _
              clear hS hC
              by_cases hz : Z.2 = 0
              · have hz1 : (Z.2 == 0) = true := by simpa using hz
                have c3 := HV.out.c3
                have f3 := HV.out.fz 3
                have HV9 := Lib.hid (HV.out.set (ct + 1))
                go_wp2_with fail
                go_ret
                exact ⟨rfl, HV9.out⟩
              · have hz1 : (Z.2 == 0) = false := by simpa using hz
                go_wp2_with fail
                go_ret
                exact ⟨rfl, HV.out⟩
            exact AllReadyL.nil
          exact AllReadyL.nil
        exact AllReadyL.nil
      exact AllReadyL.nil
    exact AllReadyL.nil
  exact AllReadyL.nil
end
end Go.Proofs.YtiflieaemgamkaaGreatDoor

namespace Go.Proofs.YtiflieaemgamkaaGreatDoor
open Go.RowKit

/-- a builder in block b, with these bytes -/
def Bld (w : World) (B b : Nat) (l : List UInt8) : Prop := Lib.IsBuilderF 156 5 B b (Lib.byteCells l) w
theorem Bld.new (w : World) : Bld (w.alloc (.cells #[.pointer none, .slice none 0 0] 156)) w.heap.size w.heap.size [] :=
  .inl ⟨Nat.le_refl _, _, heap_alloc_new w _, ⟨rfl, .inl ⟨rfl, rfl⟩⟩, by simp [Value.ownBlock]⟩
theorem bld_later {w w' : World} {B b : Nat} {p : Value} {bs : List Value} (h : Lib.BuilderAtF 156 5 B b p bs w) (hb : Below w.heap.size w w') : Lib.BuilderAtF 156 5 B b p bs w' := by
  have lt : ∀ (k : Nat) (o : Obj), w.heap[k]? = some o → k < w.heap.size := fun k o h => by
    rcases Nat.lt_or_ge k w.heap.size with q | q
    · exact q
    · rw [Array.getElem?_eq_none q] at h
      cases h
  obtain ⟨h1, v, h2, h3, h4⟩ := h
  refine ⟨h1, v, (hb.block b (lt b _ h2)).trans h2, ?_, h4⟩
  rcases h3 with ⟨h5, h6 | ⟨g, cap, cur, fz, h7, h8, h9, h10⟩⟩
  · exact ⟨h5, .inl h6⟩
  · exact ⟨h5, .inr ⟨g, cap, cur, fz, h7, h8, (hb.block g (lt g _ h9)).trans h9, h10⟩⟩
theorem sizeBld : (Tryz.prog.info? 156).map (·.size) = some 2 := by kernel_rfl
theorem liesBld : liesAt Tryz.prog Tryz.prog.depth 156 (2 / Tryz.prog.cellsOf 156) 0 156 1 = true := by kernel_rfl
theorem infoBy : (Tryz.prog.info? 5).map (fun i => (i.zero, i.size, i.bytes)) = some (some (.int .u8 0), 1, 1) := by kernel_rfl
theorem cellsBy : Tryz.prog.cellsOf 5 = 1 := by kernel_rfl
set_option maxRecDepth 100000 in
theorem copyCheck_used (b : Nat) (w : World) (h0 : w.cell? ⟨b, 0, none⟩ = some (.pointer (some ⟨b, 0, none⟩))) :
    Calls Tryz.prog 136 #[.pointer (some ⟨b, 0, none⟩)] w fun e w' => e = .returned (.tuple #[]) ∧ w' = w := by
  obtain ⟨j, hj, _⟩ := Option.map_eq_some_iff.1 sizeBld
  go_enter Tryz.func136, Tryz.ntmps136
  go_wp2
  rw [Lib.run_neq_ptr_same w _ Tryz.underlying153 hj]
  go_wp2
  go_end0
  exact ⟨rfl, rfl⟩
set_option maxHeartbeats 1000000 in
set_option maxRecDepth 100000 in
theorem copyCheck_fresh (b : Nat) (w : World) (h0 : w.cell? ⟨b, 0, none⟩ = some (.pointer none)) (hsh : w.shape? b = some (156, 2)) (hfz : w.frozen? ⟨b, 0, none⟩ = false) :
    Calls Tryz.prog 136 #[.pointer (some ⟨b, 0, none⟩)] w fun e w' => e = .returned (.tuple #[]) ∧ w' = w.setCell ⟨b, 0, none⟩ (.pointer (some ⟨b, 0, none⟩)) := by
  obtain ⟨j, hj, hjs⟩ := Option.map_eq_some_iff.1 sizeBld
  go_enter Tryz.func136, Tryz.ntmps136
  go_wp2
  rw [Lib.run_to_unsafe w ⟨b, 0, none⟩ Tryz.underlying153 Tryz.underlying248 hj (by rw [hjs]; decide) hsh (Nat.zero_lt_succ 1)]
  simp only [Result.andThen]
  rw [Oper.upon_value]
  go_wp2
  rw [run_callFunc_extern Tryz.func189 (by kernel_rfl) (by kernel_rfl) (by kernel_rfl) (e := Extern.AbiNoEscape.same) (by kernel_rfl)]
  rw [Lib.run_noEscape]
  simp only [Result.andThen]
  rw [Oper.upon_value]
  go_wp2
  rw [Lib.run_from_unsafe w ⟨b, 0, none⟩ Tryz.underlying248 Tryz.underlying153 hj hsh liesBld]
  simp only [Result.andThen]
  rw [Oper.upon_value]
  go_wp2
  go_end0
  exact ⟨rfl, rfl⟩
theorem copyCheck_any (B b : Nat) (l : List UInt8) (w : World) (h : Bld w B b l) :
    Calls Tryz.prog 136 #[.pointer (some ⟨b, 0, none⟩)] w fun e w' => e = .returned (.tuple #[]) ∧ Lib.BuilderAtF 156 5 B b (.pointer (some ⟨b, 0, none⟩)) (Lib.byteCells l) w' ∧ Below B w w' := by
  rcases h with h | h
  · refine (copyCheck_fresh b w h.cell0 h.shape h.frozen0).mono ?_
    rintro e w' ⟨rfl, rfl⟩
    exact ⟨rfl, h.used _, (Below.refl B w).setCell (p := ⟨b, 0, none⟩) h.1 _⟩
  · refine (copyCheck_used b w h.cell0).mono ?_
    rintro e w' ⟨rfl, rfl⟩
    exact ⟨rfl, h, Below.refl B _⟩
set_option maxHeartbeats 2000000 in
set_option maxRecDepth 100000 in
theorem write_any (B b : Nat) (l : List UInt8) (s : ByteArray) (w : World) (h : Bld w B b l) (hlen : l.length + s.size ≤ 10000000) (hBw : B ≤ w.heap.size) :
    Calls Tryz.prog 81 #[.pointer (some ⟨b, 0, none⟩), .string s] w fun e w' => e = .returned (.tuple #[.int .i64 s.size, .nilIface]) ∧ Bld w' B b (l ++ s.data.toList) ∧ Below B w w' := by
  obtain ⟨i0, hi, hz0, hz1, hz2⟩ := info_parts infoBy
  go_enter Tryz.func81, Tryz.ntmps81
  go_wp2_with fail
  refine (copyCheck_any B b l _ h).mono ?_
  rintro e w1 ⟨rfl, h1, hb1⟩
  obtain ⟨hB, v, hbk, hown, hne⟩ := h1
  rw [Lib.byteCells_length] at hown
  have c0 : w1.cell? ⟨b, 0, none⟩ = some (.pointer (some ⟨b, 0, none⟩)) := by rw [Lib.cell_of_heap hbk]; rfl
  have c1 : w1.cell? ⟨b, 1, none⟩ = some v := by rw [Lib.cell_of_heap hbk]; rfl
  go_wp2_with (at_builtin; refine Lib.wpList_append_own_stringF _ rfl _ _ 154 9 rfl B 5 i0 Tryz.underlying154 Tryz.underlying9 hi hz0 hz1 hz2 _ _ _ rfl hown s rfl ?c3 ?c4 ?c5 ?_)
  case c3 => unfold maxLen; omega
  case c4 => omega
  case c5 => have := hb1.size; omega
  intro v' w2 hown' hgrow _
  have hlt : b < w1.heap.size := by
    rcases Nat.lt_or_ge b w1.heap.size with h' | h'
    · exact h'
    · simp [Array.getElem?_eq_none h'] at hbk
  have hb2 : w2.heap[b]? = some (.cells #[.pointer (some ⟨b, 0, none⟩), v] 156 (0, 0)) := by
    rw [hgrow.block b hlt (fun e => hne e.symm)]
    exact hbk
  have d0 : w2.cell? ⟨b, 0, none⟩ = some (.pointer (some ⟨b, 0, none⟩)) := by rw [Lib.cell_of_heap hb2]; rfl
  have d1 : w2.cell? ⟨b, 1, none⟩ = some v := by rw [Lib.cell_of_heap hb2]; rfl
  have f1 : w2.frozen? ⟨b, 1, none⟩ = false := Lib.frozen_of_heap hb2 1
  obtain ⟨ao, n', cap, rfl⟩ : ∃ ao n' cap, v' = .slice ao n' cap := by
    rcases hown'.2 with ⟨hv, _⟩ | ⟨g, cap, cur, fz, hv, _⟩
    · exact ⟨_, _, _, hv⟩
    · exact ⟨_, _, _, hv⟩
  have HOW := Lib.hid hown'
  have HB2 := Lib.hid hb2
  have HG := Lib.hid hgrow
  have HOA := Lib.hid hown
  have HB1 := Lib.hid hb1
  clear hb2 hown' hgrow hbk hown hb1
  go_wp2
  go_ret2
  refine ⟨rfl, .inr ?_, ?_⟩
  · have hcs : Lib.byteCells (l ++ s.data.toList) = Lib.byteCells l ++ Lib.strCells s := by rw [Lib.byteCells_append, Lib.strCells_eq]
    rw [hcs]
    exact Lib.BuilderAtF.put (T := 156) (e := 5) hB HB2.out (bs' := Lib.byteCells l ++ Lib.strCells s) (by simpa [Lib.strCells_length, Lib.byteCells_length] using HOW.out) (by decide)
  · exact (HB1.out.grown HG.out (by have := HB1.out.size; omega) (fun k hk => (HOA.out.lt k hk).1)).setCell (p := ⟨b, 1, none⟩) hB _
set_option maxHeartbeats 1000000 in
set_option maxRecDepth 100000 in
theorem bstr_nil (b : Nat) (p : Value) (w : World) (hbk : w.heap[b]? = some (.cells #[p, .slice none 0 0] 156 (0, 0))) :
    Calls Tryz.prog 83 #[.pointer (some ⟨b, 0, none⟩)] w fun e w' => e = .returned (.string ⟨#[]⟩) ∧ Below w.heap.size w w' := by
  have hUS : ∀ (W : World) (q : Option Addr), (Builtin.unsafeString_ #[207, 3] 9 #[.pointer q, .int .i64 0]).run Tryz.prog W = .ok (.string .empty) W := fun W q => Lib.run_unsafeString_none W _ _ _ q
  have c1 : w.drew.cell? ⟨b, 1, none⟩ = some (.slice none 0 0) := by
    have : w.drew.heap[b]? = some (.cells #[p, .slice none 0 0] 156 (0, 0)) := hbk
    rw [Lib.cell_of_heap this]; rfl
  have hSD : (Builtin.unsafeSliceData_ #[154] 207 #[.slice none 0 0]).run Tryz.prog w.drew = .ok (.pointer none) w.drew := rfl
  clear hbk
  go_enter Tryz.func83, Tryz.ntmps83
  go_wp2
  go_region
  all_goals (go_wp2; go_ret; exact ⟨rfl, Below.drew (Below.refl _ w)⟩)
set_option maxHeartbeats 1000000 in
set_option maxRecDepth 100000 in
theorem bstr_some (B b : Nat) (l : List UInt8) (w : World) (h : Bld w B b l) (h0 : l ≠ []) :
    Calls Tryz.prog 83 #[.pointer (some ⟨b, 0, none⟩)] w fun e w' => e = .returned (.string ⟨l.toArray⟩) ∧ Below B w w' := by
  obtain ⟨p, hp, hAt⟩ : ∃ p, (p = .pointer none ∨ p = .pointer (some ⟨b, 0, none⟩)) ∧ Lib.BuilderAtF 156 5 B b p (Lib.byteCells l) w := by
    rcases h with h | h
    · exact ⟨_, .inl rfl, h⟩
    · exact ⟨_, .inr rfl, h⟩
  obtain ⟨hB, v, hbk, hown, hne⟩ := hAt
  have hl0 : l.length ≠ 0 := by simpa using h0
  rw [Lib.byteCells_length] at hown
  obtain ⟨g, cap, cur, fz, rfl, hbg, hg, hfz, hnc, hcm, hcs, htake⟩ : ∃ g cap cur fz, v = .slice (some ⟨g, 0, none⟩) l.length cap ∧ B ≤ g ∧ w.heap[g]? = some (.cells cur 5 fz) ∧ fz.2 ≤ l.length * 1 ∧ l.length ≤ cap ∧ cap ≤ maxLen ∧ cur.size = cap * 1 ∧ cur.toList.take (l.length * 1) = Lib.byteCells l := by
    rcases hown.2 with ⟨_, hz⟩ | ⟨g, cap, cur, fz, hv, r⟩
    · exact absurd hz hl0
    · exact ⟨g, cap, cur, fz, hv, r⟩
  have c1 : w.drew.cell? ⟨b, 1, none⟩ = some (.slice (some ⟨g, 0, none⟩) l.length cap) := by
    have : w.drew.heap[b]? = some (.cells #[p, .slice (some ⟨g, 0, none⟩) l.length cap] 156 (0, 0)) := hbk
    rw [Lib.cell_of_heap this]; rfl
  have hSD : (Builtin.unsafeSliceData_ #[154] 207 #[.slice (some ⟨g, 0, none⟩) l.length cap]).run Tryz.prog w.drew = .ok (.pointer (some ⟨g, 0, none⟩)) w.drew :=
    Lib.run_unsafeSliceData_row _ _ _ _ _ _ (by omega)
  have hUS : (Builtin.unsafeString_ #[207, 3] 9 #[.pointer (some ⟨g, 0, none⟩), .int .i64 l.length]).run Tryz.prog w.drew = .ok (.string ⟨l.toArray⟩) (w.drew.freeze ⟨g, 0, none⟩ l.length) := by
    refine Lib.run_unsafeString_row w.drew 207 3 9 5 Tryz.underlying207 cellsBy g cur.size (by have hg' : w.drew.heap[g]? = some (.cells cur 5 fz) := hg; simp [World.shape?, hg']) l h0 (by omega) (by unfold maxLen at hcm; omega) ?_
    intro j x hx
    have := hown.cells (g := g) rfl j (.int .u8 x.toNat) (by simp [Lib.byteCells, hx])
    exact this
  have HBG := Lib.hid hbg
  clear hbk hown hg htake hcs hcm hfz hnc hp hbg
  go_enter Tryz.func83, Tryz.ntmps83
  go_wp2
  go_region
  all_goals (go_wp2; go_ret; exact ⟨rfl, Lib.below_freeze (Below.drew (Below.refl B w)) (p := ⟨g, 0, none⟩) HBG.out _⟩)
end Go.Proofs.YtiflieaemgamkaaGreatDoor
