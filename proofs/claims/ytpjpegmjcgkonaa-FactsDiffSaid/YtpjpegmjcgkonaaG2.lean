/- Several texts of one family, merged for a claim. Conditions as in its parts. -/
import Derived.Test.YtpjpegmjcgkonaaG1
import Derived.Test.YtpjpegmjcgkonaaG0
namespace Go.Proofs.Ytpjpegmjcgkonaa
open Go.RowKit Vi

theorem elem_csl : Try.prog.elem 23 = 29 := by kernel_rfl
theorem size_csl (W : World) : (sizeOf 29).run Try.prog W = .ok 7 W := by
  obtain ⟨i0, hi, _, hz1, _⟩ := info_parts info_cg
  simp [sizeOf, typeInfo, hi, hz1]
theorem und_csl : Try.prog.underlying 23 = some (.slice (Try.prog.elem 23)) := by rw [elem_csl]; exact Try.underlying23
theorem sliceC_from (a : Option Addr) (n c : Nat) (hk : 1 ≤ n) (W : World) : (Instr.slice 23 (.slice a n c) (some (.int .i64 1)) none none).run Try.prog W = .ok (.slice (cutX 7 a c 1) (n - 1) (c - 1)) W := by
  rw [run_slice_l W _ a n c und_csl .i64 1 (by omega) (by omega), elem_csl, size_csl]
  simp [Result.andThen, sliced, cutX]
theorem rd_c7 {W : World} {b o n k : Nat} {l : List Cg} {x : Cg} (h : RdX cgC 7 W (some ⟨b, o, none⟩) n l) (hx : l[k]? = some x) (hk : k < n) : C7 W b (o + k * 7) x := by
  obtain ⟨b2, o2, e, _, hc⟩ := h.2 (by omega)
  injection e with e
  injection e with e1 e2 _
  subst e1 e2
  exact ⟨by have q := hc k x 0 _ hx rfl; simpa using q, hc k x 1 _ hx rfl, hc k x 2 _ hx rfl, hc k x 3 _ hx rfl, hc k x 4 _ hx rfl, hc k x 5 _ hx rfl, hc k x 6 _ hx rfl⟩
theorem outA_len (p : Option Fc × Option Cg) : (outA p).length ≤ 1 := by
  obtain ⟨x, y⟩ := p
  cases y with
  | none => cases x <;> simp [outA]
  | some c =>
    have e : outA (x, some c) = if c.2.2.2.2.1 = true then [behindC c] else [] := by cases x <;> rfl
    rw [e]
    split <;> simp
set_option linter.unusedSimpArgs false in
set_option maxRecDepth 100000 in
set_option maxHeartbeats 8000000 in
theorem meetA_any (w : World) (X : List Fc) (Y : List Cg) (A1 : Option Addr) (n1 c1 : Nat) (A2 : Option Addr) (n2 c2 : Nat) (u : World) (h1 : RdX fcC 4 w A1 n1 X) (h2 : RdX cgC 7 w A2 n2 Y) (l1 : n1 ≤ c1) (l2 : n2 ≤ c2) (m1 : n1 ≤ 100000) (m2 : n2 ≤ 100000) (hJ : JB fcC 4 32 22 w u []) :
    Calls Try.prog 27 #[.slice A1 n1 c1, .slice A2 n2 c2, (.func (.func 25) #[] #[]), .func (.func 28) #[] #[.pointer (some ⟨w.heap.size, 0, none⟩)]] u fun e u' => e = .returned (.tuple #[]) ∧ JB fcC 4 32 22 w u' ((meetL cmpC X Y).flatMap outA) := by
  have HJ0 := Lib.hid hJ
  have H1 := Lib.hid h1
  have H2 := Lib.hid h2
  obtain ⟨tot, htot⟩ : ∃ tot, tot = (meetL cmpC X Y).flatMap outA := ⟨_, rfl⟩
  have HTOT := Lib.hid htot
  have HX := Lib.hid h1.1
  have HY := Lib.hid h2.1
  rw [← htot]
  have HM := Lib.hid (And.intro (And.intro l1 l2) (And.intro m1 m2))
  clear htot h1 h2 hJ l1 l2 m1 m2
  go_enter Try.func27, Try.ntmps27
  go_wp2_with fail
  go_loopw [0, 1] (fun p q wr => ∃ (xs : List Fc) (ys : List Cg) (B1 : Option Addr) (N1 d1 : Nat) (B2 : Option Addr) (N2 d2 : Nat) (acc : List Fc), p = .slice B1 N1 d1 ∧ q = .slice B2 N2 d2 ∧ RdX fcC 4 w B1 N1 xs ∧ RdX cgC 7 w B2 N2 ys ∧ N1 ≤ d1 ∧ N2 ≤ d2 ∧ acc.length + N1 + N2 ≤ 200000 ∧ acc ++ (meetL cmpC xs ys).flatMap outA = tot ∧ JB fcC 4 32 22 w wr acc) (fun p q _ => slLen p + slLen q)
  case atStart => exact ⟨X, Y, A1, n1, c1, A2, n2, c2, [], rfl, rfl, H1.out, H2.out, HM.out.1.1, HM.out.1.2, by have := HM.out.2; simp; omega, by rw [HTOT.out]; rfl, HJ0.out⟩
  case round =>
    obtain ⟨xs, ys, B1, N1, d1, B2, N2, d2, acc, rfl, rfl, r1, r2, k1, k2, hlen, heq, hj⟩ := hrel
    have HR1 := Lib.hid r1
    have HR2 := Lib.hid r2
    have HK := Lib.hid (And.intro k1 k2)
    have HLN := Lib.hid hlen
    have HEQ := Lib.hid heq
    have HJ := Lib.hid hj
    have hN1 : (N1 : Int) ≤ 9223372036854775807 := by omega
    have hN2 : (N2 : Int) ≤ 9223372036854775807 := by omega
    clear r1 r2 k1 k2 hlen heq hj HJ0
    by_cases hb : 0 < N1 ∧ 0 < N2
    · obtain ⟨hp1, hp2⟩ := hb
      obtain ⟨b1, o1, rfl⟩ := rd_some HR1.out hp1
      obtain ⟨b2, o2, rfl⟩ := rd_some HR2.out hp2
      have hd1 : decide ((0 : Int) < (N1 : Int)) = true := decide_eq_true (by omega)
      have hd2 : decide ((0 : Int) < (N2 : Int)) = true := decide_eq_true (by omega)
      have hd3 : decide (0 < N1) = true := decide_eq_true hp1
      have hd4 : decide (0 < N2) = true := decide_eq_true hp2
      have hxl := HR1.out.1
      have hyl := HR2.out.1
      obtain ⟨x, xs', rfl⟩ : ∃ x xs', xs = x :: xs' := by cases xs with
        | nil => simp at hxl; omega
        | cons x r => exact ⟨x, r, rfl⟩
      obtain ⟨y, ys', rfl⟩ : ∃ y ys', ys = y :: ys' := by cases ys with
        | nil => simp at hyl; omega
        | cons x r => exact ⟨x, r, rfl⟩
      have HCX := Lib.hid (show C4 wr b1 o1 x by have q := rd_c4 (HR1.out.below HJ.out.bel) (k := 0) rfl hp1; simpa using q)
      have HCY := Lib.hid (show C7 wr b2 o2 y by have q := rd_c7 (HR2.out.below HJ.out.bel) (k := 0) rfl hp2; simpa using q)
      have HD1 := Lib.hid (HR1.out.drop 1 hp1 HK.out.1)
      have HD2 := Lib.hid (HR2.out.drop 1 hp2 HK.out.2)
      have hsl1 := fun W => sliceF_from (some ⟨b1, o1, none⟩) N1 d1 hp1 W
      have hsl2 := fun W => sliceC_from (some ⟨b2, o2, none⟩) N2 d2 hp2 W
      generalize cutX 4 (some ⟨b1, o1, none⟩) d1 1 = E1 at hsl1 HD1
      generalize cutX 7 (some ⟨b2, o2, none⟩) d2 1 = E2 at hsl2 HD2
      clear hxl hyl
      go_upto_region 1 with (fail)
      have HCX := Lib.hid (HCX.out.below (Below.refl _ _).drew)
      have HCY := Lib.hid (HCY.out.below (Below.refl _ _).drew)
      have HJ := Lib.hid (HJ.out.kept (Below.refl _ _).drew)
      refine wp_region_L_drew (S := fun _ _ => True) (by kernel_rfl) trivial (fun hS hC => ?_)
      generalize wr.drew = v1 at *
      refine wpAnyL_take (i := 0) (oi := { dst := some 21, op := .move (.tmp 0), type := _, pos := _, after := _, guard := none }) (v := ?_) rfl (by kernel_rfl) (by kernel_rfl) (by kernel_rfl) (fun _ _ _ h => h) (fun _ _ => Iff.rfl) hC (Or.inl ⟨by rfl, ?_⟩) trivial (fun hC hS => ?_)
      rotate_left
      · intro W9 hSw; skip; go_simp; try (with_reducible rfl)
      try simp only [Act.put, List.setIfInBounds_toArray, List.set_cons_zero, List.set_cons_succ]
      refine wpAnyL_take (i := 1) (oi := { dst := some 22, op := .indexAddr 22 (.tmp 21) (.const (.int Go.IntKind.i64 0)), type := _, pos := _, after := _, guard := none }) (v := ?_) rfl (by kernel_rfl) (by kernel_rfl) (by kernel_rfl) (fun _ _ _ h => h) (fun _ _ => Iff.rfl) hC (Or.inl ⟨by rfl, ?_⟩) trivial (fun hC hS => ?_)
      rotate_left
      · intro W9 hSw; skip; go_simp; try (with_reducible rfl)
      try simp only [Act.put, List.setIfInBounds_toArray, List.set_cons_zero, List.set_cons_succ]
      refine wpAnyL_take (i := 2) (oi := { dst := some 23, op := .move (.tmp 1), type := _, pos := _, after := _, guard := none }) (v := ?_) rfl (by kernel_rfl) (by kernel_rfl) (by kernel_rfl) (fun _ _ _ h => h) (fun _ _ => Iff.rfl) hC (Or.inl ⟨by rfl, ?_⟩) trivial (fun hC hS => ?_)
      rotate_left
      · intro W9 hSw; skip; go_simp; try (with_reducible rfl)
      try simp only [Act.put, List.setIfInBounds_toArray, List.set_cons_zero, List.set_cons_succ]
      refine wpAnyL_take (i := 3) (oi := { dst := some 24, op := .indexAddr 23 (.tmp 23) (.const (.int Go.IntKind.i64 0)), type := _, pos := _, after := _, guard := none }) (v := ?_) rfl (by kernel_rfl) (by kernel_rfl) (by kernel_rfl) (fun _ _ _ h => h) (fun _ _ => Iff.rfl) hC (Or.inl ⟨by rfl, ?_⟩) trivial (fun hC hS => ?_)
      rotate_left
      · intro W9 hSw; skip; go_simp; try (with_reducible rfl)
      try simp only [Act.put, List.setIfInBounds_toArray, List.set_cons_zero, List.set_cons_succ]
      refine wpAnyL_take (i := 4) (oi := { dst := some 8, op := .assign (.tmp 22), type := _, pos := _, after := _, guard := none }) (v := ?_) rfl (by kernel_rfl) (by kernel_rfl) (by kernel_rfl) (fun _ _ _ h => h) (fun _ _ => Iff.rfl) hC (Or.inl ⟨by rfl, ?_⟩) trivial (fun hC hS => ?_)
      rotate_left
      · intro W9 hSw; skip; go_simp; try (with_reducible rfl)
      try simp only [Act.put, List.setIfInBounds_toArray, List.set_cons_zero, List.set_cons_succ]
      refine wpAnyL_take (i := 5) (oi := { dst := some 9, op := .assign (.tmp 24), type := _, pos := _, after := _, guard := none }) (v := ?_) rfl (by kernel_rfl) (by kernel_rfl) (by kernel_rfl) (fun _ _ _ h => h) (fun _ _ => Iff.rfl) hC (Or.inl ⟨by rfl, ?_⟩) trivial (fun hC hS => ?_)
      rotate_left
      · intro W9 hSw; skip; go_simp; try (with_reducible rfl)
      try simp only [Act.put, List.setIfInBounds_toArray, List.set_cons_zero, List.set_cons_succ]
      refine wpAnyL_done (by kernel_rfl) ?_ _
      clear hS hC
      go_upto_region 2 with (fail)
      have HCX := Lib.hid (HCX.out.below (Below.refl _ _).drew)
      have HCY := Lib.hid (HCY.out.below (Below.refl _ _).drew)
      have HJ := Lib.hid (HJ.out.kept (Below.refl _ _).drew)
      obtain ⟨x1, x2, x3, x4⟩ := x
      obtain ⟨y1, y2, y3, y4, y5, y6, y7⟩ := y
      refine wp_region_L_drew (S := fun _ W => C4 W b1 o1 (x1, x2, x3, x4) ∧ C7 W b2 o2 (y1, y2, y3, y4, y5, y6, y7)) (by kernel_rfl) ⟨HCX.out, HCY.out⟩ (fun hS hC => ?_)
      generalize v1.drew = v2 at *
      refine wpAnyL_take (i := 0) (oi := { dst := some 25, op := .move (.tmp 2), type := _, pos := _, after := _, guard := none }) (v := ?_) rfl (by kernel_rfl) (by kernel_rfl) (by kernel_rfl) (fun _ _ _ h => h) (fun _ _ => Iff.rfl) hC (Or.inl ⟨by rfl, ?_⟩) hS (fun hC hS => ?_)
      rotate_left
      · intro W9 hSw; skip; go_simp; try (with_reducible rfl)
      try simp only [Act.put, List.setIfInBounds_toArray, List.set_cons_zero, List.set_cons_succ]
      refine wpAnyL_take (i := 1) (oi := { dst := some 26, op := .move (.tmp 8), type := _, pos := _, after := _, guard := none }) (v := ?_) rfl (by kernel_rfl) (by kernel_rfl) (by kernel_rfl) (fun _ _ _ h => h) (fun _ _ => Iff.rfl) hC (Or.inl ⟨by rfl, ?_⟩) hS (fun hC hS => ?_)
      rotate_left
      · intro W9 hSw; skip; go_simp; try (with_reducible rfl)
      try simp only [Act.put, List.setIfInBounds_toArray, List.set_cons_zero, List.set_cons_succ]
      refine wpAnyL_take (i := 2) (oi := { dst := some 27, op := .nilCheck (.tmp 26), type := _, pos := _, after := _, guard := none }) (v := ?_) rfl (by kernel_rfl) (by kernel_rfl) (by kernel_rfl) (fun _ _ _ h => h) (fun _ _ => Iff.rfl) hC (Or.inl ⟨by rfl, ?_⟩) hS (fun hC hS => ?_)
      rotate_left
      · intro W9 hSw; skip; go_simp; try (with_reducible rfl)
      try simp only [Act.put, List.setIfInBounds_toArray, List.set_cons_zero, List.set_cons_succ]
      refine wpAnyL_take (i := 3) (oi := { dst := some 28, op := .load 32 (.tmp 27), type := _, pos := _, after := _, guard := none }) (v := ?_) rfl (by kernel_rfl) (by kernel_rfl) (by kernel_rfl) (fun _ _ _ h => h) (fun _ _ => Iff.rfl) hC (Or.inl ⟨by rfl, ?_⟩) hS (fun hC hS => ?_)
      rotate_left
      · intro W9 hSw; obtain ⟨q0, q1, q2, q3⟩ := hSw.choose_spec.2.2.1; try dsimp only at q0 q1 q2 q3; go_simp; try (with_reducible rfl)
      try simp only [Act.put, List.setIfInBounds_toArray, List.set_cons_zero, List.set_cons_succ]
      refine wpAnyL_take (i := 4) (oi := { dst := some 29, op := .move (.tmp 9), type := _, pos := _, after := _, guard := none }) (v := ?_) rfl (by kernel_rfl) (by kernel_rfl) (by kernel_rfl) (fun _ _ _ h => h) (fun _ _ => Iff.rfl) hC (Or.inl ⟨by rfl, ?_⟩) hS (fun hC hS => ?_)
      rotate_left
      · intro W9 hSw; skip; go_simp; try (with_reducible rfl)
      try simp only [Act.put, List.setIfInBounds_toArray, List.set_cons_zero, List.set_cons_succ]
      refine wpAnyL_take (i := 5) (oi := { dst := some 30, op := .nilCheck (.tmp 29), type := _, pos := _, after := _, guard := none }) (v := ?_) rfl (by kernel_rfl) (by kernel_rfl) (by kernel_rfl) (fun _ _ _ h => h) (fun _ _ => Iff.rfl) hC (Or.inl ⟨by rfl, ?_⟩) hS (fun hC hS => ?_)
      rotate_left
      · intro W9 hSw; skip; go_simp; try (with_reducible rfl)
      try simp only [Act.put, List.setIfInBounds_toArray, List.set_cons_zero, List.set_cons_succ]
      refine wpAnyL_take (i := 6) (oi := { dst := some 31, op := .load 29 (.tmp 30), type := _, pos := _, after := _, guard := none }) (v := ?_) rfl (by kernel_rfl) (by kernel_rfl) (by kernel_rfl) (fun _ _ _ h => h) (fun _ _ => Iff.rfl) hC (Or.inl ⟨by rfl, ?_⟩) hS (fun hC hS => ?_)
      rotate_left
      · intro W9 hSw; obtain ⟨q0, q1, q2, q3, q4, q5, q6⟩ := hSw.choose_spec.2.2.2; try dsimp only at q0 q1 q2 q3 q4 q5 q6; go_simp; try (with_reducible rfl)
      try simp only [Act.put, List.setIfInBounds_toArray, List.set_cons_zero, List.set_cons_succ]
      refine wpAnyL_ready (rs := [7]) (by kernel_rfl) (by simp) hC ?_
      refine AllReadyL.cons (o := { dst := some 32, op := .call { callee := .value (.tmp 25), args := #[.tmp 28, .tmp 31], argTypes := #[32, 29] }, type := _, pos := _, after := _, guard := none }) rfl (fun K9 hK => ?_) ?_
      · skip
        go_simp
        refine (acmp_any (x1, x2, x3, x4) (y1, y2, y3, y4, y5, y6, y7) v2).mono ?_
        rintro e v3 ⟨rfl, hb⟩
        have HCX3 := Lib.hid (HCX.out.below hb)
        have HCY3 := Lib.hid (HCY.out.below hb)
        have HJ3 := Lib.hid (HJ.out.kept hb)
        clear hb HCX HCY HJ
        refine hK _ _ ⟨HCX3.out, HCY3.out⟩ (fun hC => ?_)
        clear hK K9
        try simp only [Act.put, List.setIfInBounds_toArray, List.set_cons_zero, List.set_cons_succ]
        refine wpAnyL_take (i := 8) (oi := { dst := some 10, op := .assign (.tmp 32), type := _, pos := _, after := _, guard := none }) (v := ?_) rfl (by kernel_rfl) (by kernel_rfl) (by kernel_rfl) (fun _ _ _ h => h) (fun _ _ => Iff.rfl) hC (Or.inl ⟨by rfl, ?_⟩) ⟨HCX3.out, HCY3.out⟩ (fun hC hS => ?_)
        rotate_left
        · intro W9 hSw; skip; go_simp; try (with_reducible rfl)
        try simp only [Act.put, List.setIfInBounds_toArray, List.set_cons_zero, List.set_cons_succ]
        refine wpAnyL_done (by kernel_rfl) ?_ _
        clear hS hC
        obtain ⟨cv, hcv⟩ : ∃ cv, cv = cmpC (x1, x2, x3, x4) (y1, y2, y3, y4, y5, y6, y7) := ⟨_, rfl⟩
        have HCV := Lib.hid hcv
        rw [← hcv]
        clear hcv
        by_cases c1 : cv < 0
        · have t1 : decide (cv ≤ 0) = true := decide_eq_true (by omega)
          have t2 : decide (cv ≥ 0) = false := decide_eq_false (by omega)
          have t3 : decide ((0 : Int) ≤ cv) = false := decide_eq_false (by omega)
          have HST := Lib.hid (astep_any w acc (some ⟨b1, o1, none⟩) none (some (x1, x2, x3, x4)) none v3 HJ3.out ⟨b1, o1, rfl, HCX3.out⟩ rfl (.inl (by simp)) (fun a b ha hb => by cases hb) (by have := HLN.out; omega))
          go_wp2_with fail
          refine HST.out.mono ?_
          rintro e v4 ⟨rfl, hj⟩
          have HJ9 := Lib.hid hj
          clear hj HST HCX3 HCY3 HJ3 hsl1 hsl2
          go_wp2_with fail
          go_roundw
          case rel => exact ⟨xs', (y1, y2, y3, y4, y5, y6, y7) :: ys', E1, N1 - 1, d1 - 1, some ⟨b2, o2, none⟩, N2, d2, acc ++ outA ((some (x1, x2, x3, x4)), none), rfl, rfl, HD1.out, HR2.out, by have := HK.out.1; omega, by have := HK.out.2; omega, by have q := outA_len ((some (x1, x2, x3, x4)), none); rw [List.length_append]; have := HLN.out; omega, by rw [← HEQ.out, meet_lt _ _ (by rw [← HCV.out]; omega), List.flatMap_cons, List.append_assoc], HJ9.out⟩
          case measure => simp [slLen] <;> omega
        · by_cases c2 : 0 < cv
          · have t1 : decide (cv ≤ 0) = false := decide_eq_false (by omega)
            have t2 : decide (cv ≥ 0) = true := decide_eq_true (by omega)
            have t3 : decide ((0 : Int) ≤ cv) = true := decide_eq_true (by omega)
            have HST := Lib.hid (astep_any w acc none (some ⟨b2, o2, none⟩) none (some (y1, y2, y3, y4, y5, y6, y7)) v3 HJ3.out rfl ⟨b2, o2, rfl, HCY3.out⟩ (.inr (by simp)) (fun a b ha hb => by cases ha) (by have := HLN.out; omega))
            go_wp2_with fail
            refine HST.out.mono ?_
            rintro e v4 ⟨rfl, hj⟩
            have HJ9 := Lib.hid hj
            clear hj HST HCX3 HCY3 HJ3 hsl1 hsl2
            go_wp2_with fail
            go_roundw
            case rel => exact ⟨(x1, x2, x3, x4) :: xs', ys', some ⟨b1, o1, none⟩, N1, d1, E2, N2 - 1, d2 - 1, acc ++ outA (none, (some (y1, y2, y3, y4, y5, y6, y7))), rfl, rfl, HR1.out, HD2.out, by have := HK.out.1; omega, by have := HK.out.2; omega, by have q := outA_len (none, (some (y1, y2, y3, y4, y5, y6, y7))); rw [List.length_append]; have := HLN.out; omega, by rw [← HEQ.out, meet_gt _ _ (by rw [← HCV.out]; omega), List.flatMap_cons, List.append_assoc], HJ9.out⟩
            case measure => simp [slLen] <;> omega
          · have t1 : decide (cv ≤ 0) = true := decide_eq_true (by omega)
            have HSK := Lib.hid (cmpF_eq (x1, x2, x3, x4) (behindC (y1, y2, y3, y4, y5, y6, y7)) (by have q : cv = cmpF (x1, x2, x3, x4) (behindC (y1, y2, y3, y4, y5, y6, y7)) := HCV.out; rw [← q]; omega) (by have q : cv = cmpF (x1, x2, x3, x4) (behindC (y1, y2, y3, y4, y5, y6, y7)) := HCV.out; rw [← q]; omega))
            have t2 : decide (cv ≥ 0) = true := decide_eq_true (by omega)
            have t3 : decide ((0 : Int) ≤ cv) = true := decide_eq_true (by omega)
            have HST := Lib.hid (astep_any w acc (some ⟨b1, o1, none⟩) (some ⟨b2, o2, none⟩) (some (x1, x2, x3, x4)) (some (y1, y2, y3, y4, y5, y6, y7)) v3 HJ3.out ⟨b1, o1, rfl, HCX3.out⟩ ⟨b2, o2, rfl, HCY3.out⟩ (.inl (by simp)) (fun a b ha hb => by cases ha; cases hb; exact HSK.out) (by have := HLN.out; omega))
            go_wp2_with fail
            refine HST.out.mono ?_
            rintro e v4 ⟨rfl, hj⟩
            have HJ9 := Lib.hid hj
            clear hj HST HCX3 HCY3 HJ3 hsl1 hsl2
            go_wp2_with fail
            go_roundw
            case rel => exact ⟨xs', ys', E1, N1 - 1, d1 - 1, E2, N2 - 1, d2 - 1, acc ++ outA ((some (x1, x2, x3, x4)), (some (y1, y2, y3, y4, y5, y6, y7))), rfl, rfl, HD1.out, HD2.out, by have := HK.out.1; omega, by have := HK.out.2; omega, by have q := outA_len ((some (x1, x2, x3, x4)), (some (y1, y2, y3, y4, y5, y6, y7))); rw [List.length_append]; have := HLN.out; omega, by rw [← HEQ.out, meet_eq _ _ (by rw [← HCV.out]; omega) (by rw [← HCV.out]; omega), List.flatMap_cons, List.append_assoc], HJ9.out⟩
            case measure => simp [slLen] <;> omega
      exact AllReadyL.nil
    · have HBB := Lib.hid hb
      have HMT := Lib.hid (show acc ++ (xs.flatMap fun x => outA (some x, none)) ++ (ys.flatMap fun y => outA (none, some y)) = tot by
        rw [← HEQ.out]
        have e1 := HR1.out.1
        have e2 := HR2.out.1
        cases xs with
        | nil => rw [meet_nil, List.flatMap_map]; simp
        | cons x r =>
          cases ys with
          | nil => rw [meet_nil2, List.flatMap_map]; simp
          | cons y q => exact absurd ⟨by simp at e1; omega, by simp at e2; omega⟩ HBB.out)
      have HGO : Hid (¬ 0 < N1 ∨ 0 < N1 ∧ ¬ 0 < N2) := Lib.hid (by omega)
      clear hb HBB HEQ
      rcases HGO.out with q1 | ⟨q1, q2⟩
      · have hd1 : decide ((0 : Int) < (N1 : Int)) = false := decide_eq_false (by omega)
        have hd3 : decide (0 < N1) = false := decide_eq_false q1
        go_wp2_with fail
        go_loopw [47] (fun i wq => ∃ j : Nat, i = .int .i64 (j : Int) ∧ j ≤ N1 ∧ JB fcC 4 32 22 w wq (acc ++ ((xs.take j).flatMap fun x => outA (some x, none)))) (fun i _ => N1 - (intOf i).toNat)
        case atStart => exact ⟨0, rfl, Nat.zero_le _, by simpa using HJ.out⟩
        case round =>
          obtain ⟨j, rfl, hj, hjb⟩ := hrel
          have HJ10 := Lib.hid hjb
          clear hjb
          by_cases hlt : j < N1
          · have hq1 : decide ((j : Int) < (N1 : Int)) = true := decide_eq_true (by omega)
            have hi0 : (0 : Int) ≤ (j : Int) := by omega
            have hw1 : IntKind.i64.wrap ((j : Int) + 1) = (j : Int) + 1 := IntWalk.i64_in _ (by omega)
            have hll := HR1.out.1
            obtain ⟨x, hx⟩ : ∃ x, xs[j]? = some x := ⟨_, List.getElem?_eq_getElem (by omega)⟩
            obtain ⟨b1, o1, hB⟩ := rd_some HR1.out (by omega)
            subst hB
            have HCX := Lib.hid (rd_c4 (HR1.out.below HJ10.out.bel) hx hlt)
            have HTK := Lib.hid (show acc ++ ((xs.take (j + 1)).flatMap fun x => outA (some x, none)) = (acc ++ ((xs.take j).flatMap fun x => outA (some x, none))) ++ outA (some x, none) by obtain ⟨hj2, hx2⟩ := List.getElem?_eq_some_iff.1 hx; rw [List.take_succ_eq_append_getElem hj2, hx2, List.flatMap_append, List.append_assoc]; simp)
            have HST := Lib.hid (astep_any w _ (some ⟨b1, o1 + j * 4, none⟩) none (some x) none wr HJ10.out ⟨b1, o1 + j * 4, rfl, HCX.out⟩ rfl (.inl (by simp)) (fun a b ha hb => by cases hb) (by have := HLN.out; have q1 := fl_len (f := fun x : Fc => outA (some x, none)) (fun x => outA_len (some x, none)) (xs.take j); rw [List.length_append]; rw [List.length_take] at q1; omega))
            clear hx hll
            go_wp2_with fail
            refine HST.out.mono ?_
            rintro e v4 ⟨rfl, hj9⟩
            have HJ9 := Lib.hid hj9
            clear hj9 HST HCX
            go_wp2_with fail
            go_roundw
            case rel => exact ⟨j + 1, by go_num, by omega, by rw [HTK.out]; exact HJ9.out⟩
            case measure => simp [intOf] <;> omega
          · have hq1 : decide ((j : Int) < (N1 : Int)) = false := decide_eq_false (by omega)
            have hje : j = N1 := by omega
            subst hje
            have HJ2 := Lib.hid (show JB fcC 4 32 22 w wr (acc ++ (xs.flatMap fun x => outA (some x, none))) by have q := HJ10.out; rwa [List.take_of_length_le (by have := HR1.out.1; omega)] at q)
            go_wp2_with fail
            go_loopw [58] (fun i wq => ∃ j : Nat, i = .int .i64 (j : Int) ∧ j ≤ N2 ∧ JB fcC 4 32 22 w wq ((acc ++ (xs.flatMap fun x => outA (some x, none))) ++ ((ys.take j).flatMap fun y => outA (none, some y)))) (fun i _ => N2 - (intOf i).toNat)
            case atStart => exact ⟨0, rfl, Nat.zero_le _, by simpa using HJ2.out⟩
            case round =>
              obtain ⟨j, rfl, hj, hjb⟩ := hrel
              have HJ11 := Lib.hid hjb
              clear hjb
              by_cases hlt : j < N2
              · have hq1 : decide ((j : Int) < (N2 : Int)) = true := decide_eq_true (by omega)
                have hi0 : (0 : Int) ≤ (j : Int) := by omega
                have hw1 : IntKind.i64.wrap ((j : Int) + 1) = (j : Int) + 1 := IntWalk.i64_in _ (by omega)
                have hll := HR2.out.1
                obtain ⟨x, hx⟩ : ∃ x, ys[j]? = some x := ⟨_, List.getElem?_eq_getElem (by omega)⟩
                obtain ⟨b1, o1, hB⟩ := rd_some HR2.out (by omega)
                subst hB
                have HCX := Lib.hid (rd_c7 (HR2.out.below HJ11.out.bel) hx hlt)
                have HTK := Lib.hid (show (acc ++ (xs.flatMap fun x => outA (some x, none))) ++ ((ys.take (j + 1)).flatMap fun y => outA (none, some y)) = ((acc ++ (xs.flatMap fun x => outA (some x, none))) ++ ((ys.take j).flatMap fun y => outA (none, some y))) ++ outA (none, some x) by obtain ⟨hj2, hx2⟩ := List.getElem?_eq_some_iff.1 hx; rw [List.take_succ_eq_append_getElem hj2, hx2, List.flatMap_append, List.append_assoc]; simp)
                have HST := Lib.hid (astep_any w _ none (some ⟨b1, o1 + j * 7, none⟩) none (some x) wr HJ11.out rfl ⟨b1, o1 + j * 7, rfl, HCX.out⟩ (.inr (by simp)) (fun a b ha hb => by cases ha) (by have := HLN.out; have e1 := HR1.out.1; have q1 := fl_len (f := fun x : Fc => outA (some x, none)) (fun x => outA_len (some x, none)) xs; have q2 := fl_len (f := fun y : Cg => outA (none, some y)) (fun y => outA_len (none, some y)) (ys.take j); rw [List.length_append, List.length_append]; rw [List.length_take] at q2; omega))
                clear hx hll
                go_wp2_with fail
                refine HST.out.mono ?_
                rintro e v4 ⟨rfl, hj9⟩
                have HJ9 := Lib.hid hj9
                clear hj9 HST HCX
                go_wp2_with fail
                go_roundw
                case rel => exact ⟨j + 1, by go_num, by omega, by rw [HTK.out]; exact HJ9.out⟩
                case measure => simp [intOf] <;> omega
              · have hq1 : decide ((j : Int) < (N2 : Int)) = false := decide_eq_false (by omega)
                have hje : j = N2 := by omega
                subst hje
                have HJ3 := Lib.hid (show JB fcC 4 32 22 w wr ((acc ++ (xs.flatMap fun x => outA (some x, none))) ++ (ys.flatMap fun y => outA (none, some y))) by have q := HJ11.out; rwa [List.take_of_length_le (by have := HR2.out.1; omega)] at q)
                go_wp2_with fail
                refine bodyPost_end (results_none rfl _ _ _) rfl ?_
                exact ⟨rfl, by rw [← HMT.out]; exact HJ3.out⟩
      · have hd1 : decide ((0 : Int) < (N1 : Int)) = true := decide_eq_true (by omega)
        have hd3 : decide (0 < N1) = true := decide_eq_true q1
        have hd2 : decide ((0 : Int) < (N2 : Int)) = false := decide_eq_false (by omega)
        have hd4 : decide (0 < N2) = false := decide_eq_false q2
        go_wp2_with fail
        go_loopw [47] (fun i wq => ∃ j : Nat, i = .int .i64 (j : Int) ∧ j ≤ N1 ∧ JB fcC 4 32 22 w wq (acc ++ ((xs.take j).flatMap fun x => outA (some x, none)))) (fun i _ => N1 - (intOf i).toNat)
        case atStart => exact ⟨0, rfl, Nat.zero_le _, by simpa using HJ.out⟩
        case round =>
          obtain ⟨j, rfl, hj, hjb⟩ := hrel
          have HJ10 := Lib.hid hjb
          clear hjb
          by_cases hlt : j < N1
          · have hq1 : decide ((j : Int) < (N1 : Int)) = true := decide_eq_true (by omega)
            have hi0 : (0 : Int) ≤ (j : Int) := by omega
            have hw1 : IntKind.i64.wrap ((j : Int) + 1) = (j : Int) + 1 := IntWalk.i64_in _ (by omega)
            have hll := HR1.out.1
            obtain ⟨x, hx⟩ : ∃ x, xs[j]? = some x := ⟨_, List.getElem?_eq_getElem (by omega)⟩
            obtain ⟨b1, o1, hB⟩ := rd_some HR1.out (by omega)
            subst hB
            have HCX := Lib.hid (rd_c4 (HR1.out.below HJ10.out.bel) hx hlt)
            have HTK := Lib.hid (show acc ++ ((xs.take (j + 1)).flatMap fun x => outA (some x, none)) = (acc ++ ((xs.take j).flatMap fun x => outA (some x, none))) ++ outA (some x, none) by obtain ⟨hj2, hx2⟩ := List.getElem?_eq_some_iff.1 hx; rw [List.take_succ_eq_append_getElem hj2, hx2, List.flatMap_append, List.append_assoc]; simp)
            have HST := Lib.hid (astep_any w _ (some ⟨b1, o1 + j * 4, none⟩) none (some x) none wr HJ10.out ⟨b1, o1 + j * 4, rfl, HCX.out⟩ rfl (.inl (by simp)) (fun a b ha hb => by cases hb) (by have := HLN.out; have q1 := fl_len (f := fun x : Fc => outA (some x, none)) (fun x => outA_len (some x, none)) (xs.take j); rw [List.length_append]; rw [List.length_take] at q1; omega))
            clear hx hll
            go_wp2_with fail
            refine HST.out.mono ?_
            rintro e v4 ⟨rfl, hj9⟩
            have HJ9 := Lib.hid hj9
            clear hj9 HST HCX
            go_wp2_with fail
            go_roundw
            case rel => exact ⟨j + 1, by go_num, by omega, by rw [HTK.out]; exact HJ9.out⟩
            case measure => simp [intOf] <;> omega
          · have hq1 : decide ((j : Int) < (N1 : Int)) = false := decide_eq_false (by omega)
            have hje : j = N1 := by omega
            subst hje
            have HJ2 := Lib.hid (show JB fcC 4 32 22 w wr (acc ++ (xs.flatMap fun x => outA (some x, none))) by have q := HJ10.out; rwa [List.take_of_length_le (by have := HR1.out.1; omega)] at q)
            go_wp2_with fail
            go_loopw [58] (fun i wq => ∃ j : Nat, i = .int .i64 (j : Int) ∧ j ≤ N2 ∧ JB fcC 4 32 22 w wq ((acc ++ (xs.flatMap fun x => outA (some x, none))) ++ ((ys.take j).flatMap fun y => outA (none, some y)))) (fun i _ => N2 - (intOf i).toNat)
            case atStart => exact ⟨0, rfl, Nat.zero_le _, by simpa using HJ2.out⟩
            case round =>
              obtain ⟨j, rfl, hj, hjb⟩ := hrel
              have HJ11 := Lib.hid hjb
              clear hjb
              by_cases hlt : j < N2
              · have hq1 : decide ((j : Int) < (N2 : Int)) = true := decide_eq_true (by omega)
                have hi0 : (0 : Int) ≤ (j : Int) := by omega
                have hw1 : IntKind.i64.wrap ((j : Int) + 1) = (j : Int) + 1 := IntWalk.i64_in _ (by omega)
                have hll := HR2.out.1
                obtain ⟨x, hx⟩ : ∃ x, ys[j]? = some x := ⟨_, List.getElem?_eq_getElem (by omega)⟩
                obtain ⟨b1, o1, hB⟩ := rd_some HR2.out (by omega)
                subst hB
                have HCX := Lib.hid (rd_c7 (HR2.out.below HJ11.out.bel) hx hlt)
                have HTK := Lib.hid (show (acc ++ (xs.flatMap fun x => outA (some x, none))) ++ ((ys.take (j + 1)).flatMap fun y => outA (none, some y)) = ((acc ++ (xs.flatMap fun x => outA (some x, none))) ++ ((ys.take j).flatMap fun y => outA (none, some y))) ++ outA (none, some x) by obtain ⟨hj2, hx2⟩ := List.getElem?_eq_some_iff.1 hx; rw [List.take_succ_eq_append_getElem hj2, hx2, List.flatMap_append, List.append_assoc]; simp)
                have HST := Lib.hid (astep_any w _ none (some ⟨b1, o1 + j * 7, none⟩) none (some x) wr HJ11.out rfl ⟨b1, o1 + j * 7, rfl, HCX.out⟩ (.inr (by simp)) (fun a b ha hb => by cases ha) (by have := HLN.out; have e1 := HR1.out.1; have q1 := fl_len (f := fun x : Fc => outA (some x, none)) (fun x => outA_len (some x, none)) xs; have q2 := fl_len (f := fun y : Cg => outA (none, some y)) (fun y => outA_len (none, some y)) (ys.take j); rw [List.length_append, List.length_append]; rw [List.length_take] at q2; omega))
                clear hx hll
                go_wp2_with fail
                refine HST.out.mono ?_
                rintro e v4 ⟨rfl, hj9⟩
                have HJ9 := Lib.hid hj9
                clear hj9 HST HCX
                go_wp2_with fail
                go_roundw
                case rel => exact ⟨j + 1, by go_num, by omega, by rw [HTK.out]; exact HJ9.out⟩
                case measure => simp [intOf] <;> omega
              · have hq1 : decide ((j : Int) < (N2 : Int)) = false := decide_eq_false (by omega)
                have hje : j = N2 := by omega
                subst hje
                have HJ3 := Lib.hid (show JB fcC 4 32 22 w wr ((acc ++ (xs.flatMap fun x => outA (some x, none))) ++ (ys.flatMap fun y => outA (none, some y))) by have q := HJ11.out; rwa [List.take_of_length_le (by have := HR2.out.1; omega)] at q)
                go_wp2_with fail
                refine bodyPost_end (results_none rfl _ _ _) rfl ?_
                exact ⟨rfl, by rw [← HMT.out]; exact HJ3.out⟩
end Go.Proofs.Ytpjpegmjcgkonaa

namespace Go.Proofs.Ytpjpegmjcgkonaa
open Go.RowKit Vi

set_option maxRecDepth 100000 in
set_option maxHeartbeats 4000000 in
theorem fdiff_any (X : List Fc) (Y : List Fc) (A1 : Option Addr) (n1 c1 : Nat) (A2 : Option Addr) (n2 c2 : Nat) (w : World) (h1 : RdX fcC 4 w A1 n1 X) (h2 : RdX fcC 4 w A2 n2 Y) (l1 : n1 ≤ c1) (l2 : n2 ≤ c2) (m1 : n1 ≤ 100000) (m2 : n2 ≤ 100000) :
    Calls Try.prog 9 #[.slice A1 n1 c1, .slice A2 n2 c2] w fun e w' => ∃ v, e = .returned v ∧ OwX cgC 7 29 w' w.heap.size v ((meetL cmpF X Y).flatMap outD) ∧ Below w.heap.size w w' := by
  have HMT := Lib.hid (fun u hJ => meetD_any w X Y A1 n1 c1 A2 n2 c2 u h1 h2 l1 l2 m1 m2 hJ)
  have HJ0 := Lib.hid (show JB cgC 7 29 23 w (w.alloc (.cells #[.slice none 0 0] 23 (0, 0))) [] from ⟨⟨_, blk_new w _, OwX.nil _⟩, (Below.refl _ _).alloc (Nat.le_refl _) _⟩)
  have hmf : ∀ (fn : Fn) (first cap : Array Value) (w : World), (Instr.makeFunc fn first cap).run Try.prog w = .ok (.func fn first cap) w := fun _ _ _ _ => rfl
  clear h1 h2 l1 l2 m1 m2
  go_enter Try.func9, Try.ntmps9
  go_wp2_with fail
  refine (HMT.out _ HJ0.out).mono ?_
  rintro e w2 ⟨rfl, hj⟩
  obtain ⟨v, hv, ho⟩ := hj.bx
  have HB := Lib.hid hj.bel
  obtain ⟨A, n, c, rfl⟩ := ho.sl3
  have HO := Lib.hid ho
  have z0 : w2.cell? ⟨w.heap.size, 0, none⟩ = some (.slice A n c) := (cell_of_row _ _ 0 _ _ _ hv).trans rfl
  clear HMT HJ0 hj hv ho hmf
  go_wp2_with fail
  go_ret
  exact ⟨_, rfl, HO.out.mono (Nat.le_succ _), HB.out⟩
set_option maxRecDepth 100000 in
set_option maxHeartbeats 4000000 in
theorem fapply_any (X : List Fc) (Y : List Cg) (A1 : Option Addr) (n1 c1 : Nat) (A2 : Option Addr) (n2 c2 : Nat) (w : World) (h1 : RdX fcC 4 w A1 n1 X) (h2 : RdX cgC 7 w A2 n2 Y) (l1 : n1 ≤ c1) (l2 : n2 ≤ c2) (m1 : n1 ≤ 100000) (m2 : n2 ≤ 100000) :
    Calls Try.prog 13 #[.slice A1 n1 c1, .slice A2 n2 c2] w fun e w' => ∃ v, e = .returned v ∧ OwX fcC 4 32 w' w.heap.size v ((meetL cmpC X Y).flatMap outA) ∧ Below w.heap.size w w' := by
  have HMT := Lib.hid (fun u hJ => meetA_any w X Y A1 n1 c1 A2 n2 c2 u h1 h2 l1 l2 m1 m2 hJ)
  have HJ0 := Lib.hid (show JB fcC 4 32 22 w (w.alloc (.cells #[.slice none 0 0] 22 (0, 0))) [] from ⟨⟨_, blk_new w _, OwX.nil _⟩, (Below.refl _ _).alloc (Nat.le_refl _) _⟩)
  have hmf : ∀ (fn : Fn) (first cap : Array Value) (w : World), (Instr.makeFunc fn first cap).run Try.prog w = .ok (.func fn first cap) w := fun _ _ _ _ => rfl
  clear h1 h2 l1 l2 m1 m2
  go_enter Try.func13, Try.ntmps13
  go_wp2_with fail
  refine (HMT.out _ HJ0.out).mono ?_
  rintro e w2 ⟨rfl, hj⟩
  obtain ⟨v, hv, ho⟩ := hj.bx
  have HB := Lib.hid hj.bel
  obtain ⟨A, n, c, rfl⟩ := ho.sl3
  have HO := Lib.hid ho
  have z0 : w2.cell? ⟨w.heap.size, 0, none⟩ = some (.slice A n c) := (cell_of_row _ _ 0 _ _ _ hv).trans rfl
  clear HMT HJ0 hj hv ho hmf
  go_wp2_with fail
  go_ret
  exact ⟨_, rfl, HO.out.mono (Nat.le_succ _), HB.out⟩
theorem run_neq_cg_no (p1 : Int) (p2 p3 : ByteArray) (p4 p5 : Bool) (p6 p7 : ByteArray) (W : World) :
    (binOp .neq 29 (.agg #[.int .i64 p1, .string p2, .string p3, .bool p4, .bool p5, .string p6, .string p7]) (.agg #[.int .i64 p1, .string p2, .string p3, .bool p4, .bool p5, .string p6, .string p7])).run Try.prog W = .ok (.bool false) W := by
  simp [go_sem]
set_option maxRecDepth 100000 in
set_option maxHeartbeats 2000000 in
theorem samech_yes (A : Option Addr) (n c : Nat) (l : List Cg) (A2 : Option Addr) (c2 : Nat) (w : World) (h : RdX cgC 7 w A n l) (h2 : RdX cgC 7 w A2 n l) (hn : n ≤ maxLen) :
    Calls Try.prog 8 #[.slice A n c, .slice A2 n c2] w fun e w' => e = .returned (.bool true) ∧ Below w.heap.size w w' := by
  have H := Lib.hid h
  have H2 := Lib.hid h2
  have L := Lib.hid h.1
  have HB1 := Lib.hid (Below.refl w.heap.size w)
  unfold maxLen at hn
  clear h h2
  have d1 : ((n : Int) != (n : Int)) = false := by simp
  go_enter Try.func8, Try.ntmps8
  go_wp2_with fail
  clear d1
  go_loopw [13] (fun i wr => ∃ k : Nat, i = .int .i64 (k : Int) ∧ k ≤ n ∧ Below w.heap.size w wr) (fun i _ => n - (intOf i).toNat)
  case atStart => exact ⟨0, rfl, Nat.zero_le _, HB1.out⟩
  case round =>
    clear HB1
    obtain ⟨k, rfl, hk, hb⟩ := hrel
    have HB := Lib.hid hb
    clear hb
    by_cases hlt : k < n
    · have hd1 : decide ((k : Int) < (n : Int)) = true := decide_eq_true (by omega)
      have hl : k < l.length := by rw [L.out]; exact hlt
      obtain ⟨b, off, _, rfl, hbb, _⟩ := (H.out.below HB.out).at hlt
      obtain ⟨b2, off2, _, rfl, hbb2, _⟩ := (H2.out.below HB.out).at hlt
      obtain ⟨x, hx⟩ : ∃ x, l[k] = x := ⟨_, rfl⟩
      have HX := Lib.hid (show l[k]? = some x by rw [List.getElem?_eq_getElem hl, hx])
      clear hx
      obtain ⟨x1, x2, x3, x4, x5, x6, x7⟩ := x
      have hi0 : (0 : Int) ≤ (k : Int) := by omega
      have hnq := fun W => run_neq_cg_no x1 x2 x3 x4 x5 x6 x7 W
      have hc101 : wr.cell? ⟨b, off + k * 7, none⟩ = some (.int .i64 x1) := (H.out.below HB.out).cellAt HX.out hlt 0 _ rfl
      have hc102 : wr.cell? ⟨b, off + k * 7 + 1, none⟩ = some (.string x2) := (H.out.below HB.out).cellAt HX.out hlt 1 _ rfl
      have hc103 : wr.cell? ⟨b, off + k * 7 + 2, none⟩ = some (.string x3) := (H.out.below HB.out).cellAt HX.out hlt 2 _ rfl
      have hc104 : wr.cell? ⟨b, off + k * 7 + 3, none⟩ = some (.bool x4) := (H.out.below HB.out).cellAt HX.out hlt 3 _ rfl
      have hc105 : wr.cell? ⟨b, off + k * 7 + 4, none⟩ = some (.bool x5) := (H.out.below HB.out).cellAt HX.out hlt 4 _ rfl
      have hc106 : wr.cell? ⟨b, off + k * 7 + 5, none⟩ = some (.string x6) := (H.out.below HB.out).cellAt HX.out hlt 5 _ rfl
      have hc107 : wr.cell? ⟨b, off + k * 7 + 6, none⟩ = some (.string x7) := (H.out.below HB.out).cellAt HX.out hlt 6 _ rfl
      have hc201 : wr.cell? ⟨b2, off2 + k * 7, none⟩ = some (.int .i64 x1) := (H2.out.below HB.out).cellAt HX.out hlt 0 _ rfl
      have hc202 : wr.cell? ⟨b2, off2 + k * 7 + 1, none⟩ = some (.string x2) := (H2.out.below HB.out).cellAt HX.out hlt 1 _ rfl
      have hc203 : wr.cell? ⟨b2, off2 + k * 7 + 2, none⟩ = some (.string x3) := (H2.out.below HB.out).cellAt HX.out hlt 2 _ rfl
      have hc204 : wr.cell? ⟨b2, off2 + k * 7 + 3, none⟩ = some (.bool x4) := (H2.out.below HB.out).cellAt HX.out hlt 3 _ rfl
      have hc205 : wr.cell? ⟨b2, off2 + k * 7 + 4, none⟩ = some (.bool x5) := (H2.out.below HB.out).cellAt HX.out hlt 4 _ rfl
      have hc206 : wr.cell? ⟨b2, off2 + k * 7 + 5, none⟩ = some (.string x6) := (H2.out.below HB.out).cellAt HX.out hlt 5 _ rfl
      have hc207 : wr.cell? ⟨b2, off2 + k * 7 + 6, none⟩ = some (.string x7) := (H2.out.below HB.out).cellAt HX.out hlt 6 _ rfl
      go_wp2_with fail
      have hr101 := fun d os => cell_regrown hc101 d os
      have hr201 := fun d os => cell_regrown hc201 d os
      have hr102 := fun d os => cell_regrown hc102 d os
      have hr202 := fun d os => cell_regrown hc202 d os
      have hr103 := fun d os => cell_regrown hc103 d os
      have hr203 := fun d os => cell_regrown hc203 d os
      have hr104 := fun d os => cell_regrown hc104 d os
      have hr204 := fun d os => cell_regrown hc204 d os
      have hr105 := fun d os => cell_regrown hc105 d os
      have hr205 := fun d os => cell_regrown hc205 d os
      have hr106 := fun d os => cell_regrown hc106 d os
      have hr206 := fun d os => cell_regrown hc206 d os
      have hr107 := fun d os => cell_regrown hc107 d os
      have hr207 := fun d os => cell_regrown hc207 d os
      refine wp_region_quiet_below (by kernel_rfl) (by kernel_rfl) ?_
      repeat (any_goals (first | go_big_quiet_step (fail) | quiet_step (fail)))
      refine wpQuiet_nil ?_
      intro w11 hw11
      have hb11 := below_anyY hw11
      clear hw11 hr101 hr201 hr102 hr202 hr103 hr203 hr104 hr204 hr105 hr205 hr106 hr206 hr107 hr207
      clear hc101 hc201 hc102 hc202 hc103 hc203 hc104 hc204 hc105 hc205 hc106 hc206 hc107 hc207
      have HB113 := Lib.hid (HB.out.trans (hb11.mono HB.out.size))
      clear hb11 HB
      go_wp2_with fail
      go_roundw
      case rel => exact ⟨k + 1, by go_num, by omega, HB113.out⟩
      case measure => simp [intOf] <;> omega
    · have hd1 : decide ((k : Int) < (n : Int)) = false := decide_eq_false (by omega)
      go_wp2_with fail
      go_ret
      exact ⟨rfl, HB.out⟩
theorem findK_step {f x : Fc} {l : List Fc} {j : Nat} (h : l[j]? = some x) (hf : findK l f = findK (l.drop j) f) (hn : ¬ sameK x f) : findK l f = findK (l.drop (j + 1)) f := by
  obtain ⟨hl, rfl⟩ := List.getElem?_eq_some_iff.1 h
  rw [hf, List.drop_eq_getElem_cons hl, findK_skip hn]
theorem findK_stop {f x : Fc} {l : List Fc} {j : Nat} (h : l[j]? = some x) (hf : findK l f = findK (l.drop j) f) (hn : sameK x f) : valV l f = x.2.2.2 ∧ valB l f = true := by
  obtain ⟨hl, rfl⟩ := List.getElem?_eq_some_iff.1 h
  unfold valV valB
  rw [hf, List.drop_eq_getElem_cons hl, findK_hit hn]
  exact ⟨rfl, rfl⟩
theorem findK_over {f : Fc} {l : List Fc} {j : Nat} (h : l.length ≤ j) (hf : findK l f = findK (l.drop j) f) : valV l f = ⟨#[]⟩ ∧ valB l f = false := by
  unfold valV valB
  rw [hf, List.drop_eq_nil_of_le h]
  exact ⟨rfl, rfl⟩
set_option maxRecDepth 100000 in
set_option maxHeartbeats 4000000 in
theorem rvalue_any (A : Option Addr) (n c : Nat) (l : List Fc) (x1 : Int) (x2 x3 x4 : ByteArray) (w : World) (h : RdX fcC 4 w A n l) (hn : n ≤ 1000000) :
    Calls Try.prog 24 #[.slice A n c, .agg #[.int .i64 x1, .string x2, .string x3, .string x4]] w fun e w' => e = .returned (.tuple #[.string (valV l (x1, x2, x3, x4)), .bool (valB l (x1, x2, x3, x4))]) ∧ Below w.heap.size w w' := by
  have H := Lib.hid h
  have LL := Lib.hid h.1
  have hnI : (n : Int) ≤ 9223372036854775807 := by omega
  clear h
  have HB1 := Lib.hid (Below.refl w.heap.size w)
  have HF2 := Lib.hid (blk_new w (.cells #[.int .i64 x1, .string x2, .string x3, .string x4] 32 (0, 0)))
  have HB3 := Lib.hid (HB1.out.alloc HB1.out.size (.cells #[.int .i64 x1, .string x2, .string x3, .string x4] 32 (0, 0)))
  clear HB1
  obtain ⟨v, hv⟩ : ∃ v, v = (w.alloc (.cells #[.int .i64 x1, .string x2, .string x3, .string x4] 32 (0, 0))) := ⟨_, rfl⟩
  have HVv := Lib.hid hv
  rw [← hv] at HF2 HB3
  clear hv
  go_enter Try.func24, Try.ntmps24
  go_upto_region 1 with (fail)
  rw [← HVv.out]
  go_wp2_with fail
  go_loopw [10] (fun i wr => ∃ j : Nat, i = .int .i64 (j : Int) ∧ j ≤ n ∧ findK l (x1, x2, x3, x4) = findK (l.drop j) (x1, x2, x3, x4) ∧ Below v.heap.size v wr) (fun i _ => n - (intOf i).toNat)
  case atStart => exact ⟨0, rfl, Nat.zero_le _, rfl, Below.refl _ _⟩
  case round =>
    obtain ⟨j, rfl, hj, hs, hb⟩ := hrel
    have HS := Lib.hid hs
    have HBV := Lib.hid hb
    have HXP := Lib.hid (blk_below HF2.out hb)
    have HB := Lib.hid (HB3.out.trans (hb.mono HB3.out.size))
    clear hs hb
    by_cases hlt : j < n
    · skip
      have hd1 : decide ((j : Int) < (n : Int)) = true := decide_eq_true (by omega)
      have hi0 : (0 : Int) ≤ (j : Int) := by omega
      have hw1 : IntKind.i64.wrap ((j : Int) + 1) = (j : Int) + 1 := IntWalk.i64_in _ (by omega)
      have hl : j < l.length := by rw [LL.out]; exact hlt
      obtain ⟨b, off, _, rfl, hbb, _⟩ := (H.out.below HB.out).at hlt
      obtain ⟨y, hy⟩ : ∃ y, l[j] = y := ⟨_, rfl⟩
      have HX := Lib.hid (show l[j]? = some y by rw [List.getElem?_eq_getElem hl, hy])
      clear hy
      obtain ⟨y1, y2, y3, y4⟩ := y
      have a0 : wr.cell? ⟨b, off + j * 4, none⟩ = some (.int .i64 y1) := (H.out.below HB.out).cellAt HX.out hlt 0 _ rfl
      have a1 : wr.cell? ⟨b, off + j * 4 + 1, none⟩ = some (.string y2) := (H.out.below HB.out).cellAt HX.out hlt 1 _ rfl
      have a2 : wr.cell? ⟨b, off + j * 4 + 2, none⟩ = some (.string y3) := (H.out.below HB.out).cellAt HX.out hlt 2 _ rfl
      have a3 : wr.cell? ⟨b, off + j * 4 + 3, none⟩ = some (.string y4) := (H.out.below HB.out).cellAt HX.out hlt 3 _ rfl
      have HF4 := Lib.hid (blk_alloc HXP.out (.cells #[.int .i64 y1, .string y2, .string y3, .string y4] 32 (0, 0)))
      have HF5 := Lib.hid (blk_new wr (.cells #[.int .i64 y1, .string y2, .string y3, .string y4] 32 (0, 0)))
      have HB6 := Lib.hid (HB.out.alloc HB.out.size (.cells #[.int .i64 y1, .string y2, .string y3, .string y4] 32 (0, 0)))
      clear HB
      have hc7 : (wr.alloc (.cells #[.int .i64 y1, .string y2, .string y3, .string y4] 32 (0, 0))).cell? ⟨w.heap.size, 0, none⟩ = some (.int .i64 x1) := by rw [cell_of_row _ _ _ _ _ _ HF4.out]; rfl
      have hc8 : wr.cell? ⟨w.heap.size, 0, none⟩ = some (.int .i64 x1) := by rw [cell_of_row _ _ _ _ _ _ HXP.out]; rfl
      have hc9 : (wr.alloc (.cells #[.int .i64 y1, .string y2, .string y3, .string y4] 32 (0, 0))).cell? ⟨w.heap.size, 1, none⟩ = some (.string x2) := by rw [cell_of_row _ _ _ _ _ _ HF4.out]; rfl
      have hc10 : wr.cell? ⟨w.heap.size, 1, none⟩ = some (.string x2) := by rw [cell_of_row _ _ _ _ _ _ HXP.out]; rfl
      have hc11 : (wr.alloc (.cells #[.int .i64 y1, .string y2, .string y3, .string y4] 32 (0, 0))).cell? ⟨w.heap.size, 2, none⟩ = some (.string x3) := by rw [cell_of_row _ _ _ _ _ _ HF4.out]; rfl
      have hc12 : wr.cell? ⟨w.heap.size, 2, none⟩ = some (.string x3) := by rw [cell_of_row _ _ _ _ _ _ HXP.out]; rfl
      have hl13 : w.heap.size < wr.heap.size := lt_of_block HXP.out
      have hl14 : ¬ w.heap.size = wr.heap.size := by omega
      have hc15 : (wr.alloc (.cells #[.int .i64 y1, .string y2, .string y3, .string y4] 32 (0, 0))).cell? ⟨wr.heap.size, 0, none⟩ = some (.int .i64 y1) := by rw [cell_of_row _ _ _ _ _ _ HF5.out]; rfl
      have hc16 : (wr.alloc (.cells #[.int .i64 y1, .string y2, .string y3, .string y4] 32 (0, 0))).cell? ⟨wr.heap.size, 1, none⟩ = some (.string y2) := by rw [cell_of_row _ _ _ _ _ _ HF5.out]; rfl
      have hc17 : (wr.alloc (.cells #[.int .i64 y1, .string y2, .string y3, .string y4] 32 (0, 0))).cell? ⟨wr.heap.size, 2, none⟩ = some (.string y3) := by rw [cell_of_row _ _ _ _ _ _ HF5.out]; rfl
      have hc18 : (wr.alloc (.cells #[.int .i64 y1, .string y2, .string y3, .string y4] 32 (0, 0))).cell? ⟨wr.heap.size, 3, none⟩ = some (.string y4) := by rw [cell_of_row _ _ _ _ _ _ HF5.out]; rfl
      have HNEXT := Lib.hid (fun q => findK_step (f := (x1, x2, x3, x4)) HX.out HS.out q)
      by_cases k1 : y1 = x1
      rotate_left
      · skip
        have e1 : (y1 == x1) = false := by simpa using k1
        have e1d : decide (y1 = x1) = false := decide_eq_false k1
        clear hnI
        have HN := Lib.hid (HNEXT.out (fun q => k1 q.1))
        clear HNEXT
        go_wp2_with fail
        go_roundw
        case rel => exact ⟨j + 1, by go_num, by omega, HN.out, (by have q : Below v.heap.size v wr := HBV.out; exact q.trans (((Below.refl _ _).alloc (Nat.le_refl _) _).mono q.size))⟩
        case measure => simp [intOf] <;> omega
      subst k1
      by_cases k2 : y2 = x2
      rotate_left
      · skip
        obtain ⟨e1, e2⟩ := beq_neD k2
        have HN := Lib.hid (HNEXT.out (fun q => k2 q.2.1))
        clear HNEXT
        go_wp2_with fail
        go_roundw
        case rel => exact ⟨j + 1, by go_num, by omega, HN.out, (by have q : Below v.heap.size v wr := HBV.out; exact q.trans (((Below.refl _ _).alloc (Nat.le_refl _) _).mono q.size))⟩
        case measure => simp [intOf] <;> omega
      subst k2
      obtain ⟨s1, s2⟩ := beq_sameD y2
      by_cases k3 : y3 = x3
      rotate_left
      · skip
        obtain ⟨e1, e2⟩ := beq_neD k3
        have HN := Lib.hid (HNEXT.out (fun q => k3 q.2.2))
        clear HNEXT
        go_wp2_with fail
        go_roundw
        case rel => exact ⟨j + 1, by go_num, by omega, HN.out, (by have q : Below v.heap.size v wr := HBV.out; exact q.trans (((Below.refl _ _).alloc (Nat.le_refl _) _).mono q.size))⟩
        case measure => simp [intOf] <;> omega
      subst k3
      obtain ⟨s3, s4⟩ := beq_sameD y3
      have HV := Lib.hid (findK_stop (f := (y1, y2, y3, x4)) HX.out HS.out ⟨rfl, rfl, rfl⟩)
      clear HNEXT
      go_wp2_with fail
      go_ret2
      exact ⟨by rw [HV.out.1, HV.out.2]; rfl, HB6.out⟩
    · skip
      have hd1 : decide ((j : Int) < (n : Int)) = false := decide_eq_false (by omega)
      have HV := Lib.hid (findK_over (f := (x1, x2, x3, x4)) (show l.length ≤ j by rw [LL.out]; omega) HS.out)
      go_wp2_with fail
      go_ret2
      exact ⟨by rw [HV.out.1, HV.out.2]; rfl, HB.out⟩
end Go.Proofs.Ytpjpegmjcgkonaa

namespace Go.Proofs.Ytpjpegmjcgkonaa
open Go.RowKit Vi

theorem both_nil2 (x : Fc) (xs : List Fc) : bothL (x :: xs) [] = clr x :: bothL xs [] := by unfold bothL; rw [meet_nil2, meet_nil2]; rfl
theorem both_nil (y : Fc) (ys : List Fc) : bothL [] (y :: ys) = clr y :: bothL [] ys := by unfold bothL; rw [meet_nil, meet_nil]; rfl
theorem both_none : bothL [] [] = [] := by unfold bothL; rw [meet_nil]; rfl
theorem both_gt {x y : Fc} (xs ys : List Fc) (h : lessF y x = true) : bothL (x :: xs) (y :: ys) = clr y :: bothL (x :: xs) ys := by unfold bothL; rw [meet_gt _ _ ((cmpF_gt x y).2 h)]; rfl
theorem both_lt {x y : Fc} (xs ys : List Fc) (h : lessF x y = true) : bothL (x :: xs) (y :: ys) = clr x :: bothL xs (y :: ys) := by unfold bothL; rw [meet_lt _ _ ((cmpF_lt x y).2 h)]; rfl
theorem both_eq {x y : Fc} (xs ys : List Fc) (h1 : lessF x y = false) (h2 : lessF y x = false) : bothL (x :: xs) (y :: ys) = clr x :: bothL xs ys := by
  unfold bothL
  rw [meet_eq _ _ (fun q => by rw [(cmpF_lt x y).1 q] at h1; cases h1) (fun q => by rw [(cmpF_gt x y).1 q] at h2; cases h2)]
  rfl
theorem drop_at {α : Type} {l : List α} {j : Nat} {x : α} (h : l[j]? = some x) : l.drop j = x :: l.drop (j + 1) := by
  obtain ⟨hl, rfl⟩ := List.getElem?_eq_some_iff.1 h
  rw [List.drop_eq_getElem_cons hl]
set_option maxRecDepth 100000 in
set_option maxHeartbeats 8000000 in
theorem rboth_any (X Y : List Fc) (A1 : Option Addr) (n1 c1 : Nat) (A2 : Option Addr) (n2 c2 : Nat) (w : World) (h1 : RdX fcC 4 w A1 n1 X) (h2 : RdX fcC 4 w A2 n2 Y) (m1 : n1 ≤ 100000) (m2 : n2 ≤ 100000) :
    Calls Try.prog 23 #[.slice A1 n1 c1, .slice A2 n2 c2] w fun e w' => ∃ v, e = .returned v ∧ OwX fcC 4 32 w' w.heap.size v (bothL X Y) ∧ Below w.heap.size w w' := by
  have H1 := Lib.hid h1
  have H2 := Lib.hid h2
  have L1 := Lib.hid h1.1
  have L2 := Lib.hid h2.1
  have HM := Lib.hid (And.intro m1 m2)
  have HB0 := Lib.hid (Below.refl w.heap.size w)
  have hN1 : (n1 : Int) ≤ 9223372036854775807 := by omega
  have hN2 : (n2 : Int) ≤ 9223372036854775807 := by omega
  clear h1 h2
  go_enter Try.func23, Try.ntmps23
  go_wp2_with fail
  go_loopw [5, 6, 7] (fun s p q wr => ∃ (i k : Nat) (acc : List Fc), p = .int .i64 (i : Int) ∧ q = .int .i64 (k : Int) ∧ i ≤ n1 ∧ k ≤ n2 ∧ OwX fcC 4 32 wr w.heap.size s acc ∧ acc.length ≤ i + k ∧ acc ++ bothL (X.drop i) (Y.drop k) = bothL X Y ∧ Below w.heap.size w wr) (fun _ p q _ => n1 + n2 - (intOf p).toNat - (intOf q).toNat)
  case atStart => exact ⟨0, 0, [], rfl, rfl, Nat.zero_le _, Nat.zero_le _, OwX.nil _, Nat.le_refl _, rfl, HB0.out⟩
  case round =>
    clear HB0
    obtain ⟨i, k, acc, rfl, rfl, hi, hk, ho, hln, heq, hb⟩ := hrel
    obtain ⟨av, nv, cv, rfl⟩ := ho.sl3
    have HO := Lib.hid ho
    have HLN := Lib.hid hln
    have HEQ := Lib.hid heq
    have HB := Lib.hid hb
    have hi0 : (0 : Int) ≤ (i : Int) := by omega
    have hk0 : (0 : Int) ≤ (k : Int) := by omega
    have hw1 : IntKind.i64.wrap ((i : Int) + 1) = (i : Int) + 1 := IntWalk.i64_in _ (by omega)
    have hw2 : IntKind.i64.wrap ((k : Int) + 1) = (k : Int) + 1 := IntWalk.i64_in _ (by omega)
    clear ho hln heq hb
    by_cases hli : i < n1
    · by_cases hlk : k < n2
      · skip
        have hd1 : decide ((i : Int) < (n1 : Int)) = true := decide_eq_true (by omega)
        have hd1n : decide (i < n1) = true := decide_eq_true (by omega)
        have hd2 : decide ((k : Int) < (n2 : Int)) = true := decide_eq_true (by omega)
        have hd2n : decide (k < n2) = true := decide_eq_true (by omega)
        have hq1 : ((k : Int) == (n2 : Int)) = false := by simp; omega
        have hq2 : (k == n2) = false := by simp; omega
        have hq3 : decide ((k : Int) = (n2 : Int)) = false := decide_eq_false (by omega)
        have hq4 : decide (k = n2) = false := decide_eq_false (by omega)
        have hlx : i < X.length := by have := L1.out; omega
        obtain ⟨b1, o1, _, rfl, _, _⟩ := H1.out.at hli
        obtain ⟨x, hx⟩ : ∃ z, X[i] = z := ⟨_, rfl⟩
        have HEx := Lib.hid (show X[i]? = some x by rw [List.getElem?_eq_getElem hlx, hx])
        clear hx hlx
        obtain ⟨x1, x2, x3, x4⟩ := x
        have hly : k < Y.length := by have := L2.out; omega
        obtain ⟨b2, o2, _, rfl, _, _⟩ := H2.out.at hlk
        obtain ⟨y, hy⟩ : ∃ z, Y[k] = z := ⟨_, rfl⟩
        have HEy := Lib.hid (show Y[k]? = some y by rw [List.getElem?_eq_getElem hly, hy])
        clear hy hly
        obtain ⟨y1, y2, y3, y4⟩ := y
        have HLT1 := Lib.hid (fun W : World => rless_any y1 y2 y3 y4 x1 x2 x3 x4 W)
        have HLT2 := Lib.hid (fun W : World => rless_any x1 x2 x3 x4 y1 y2 y3 y4 W)
        have HDX := Lib.hid (drop_at HEx.out)
        have HDY := Lib.hid (drop_at HEy.out)
        cases hp : lessF (y1, y2, y3, y4) (x1, x2, x3, x4) with
        | true =>
          have HBE := Lib.hid (show bothL (X.drop i) (Y.drop k) = clr (y1, y2, y3, y4) :: bothL (X.drop (i)) (Y.drop (k + 1)) by rw [HDX.out, HDY.out]; exact both_gt (X.drop (i + 1)) (Y.drop (k + 1)) hp)
          rw [hp] at HLT1
          clear hp HLT2
          have x0 : wr.cell? ⟨b1, o1 + i * 4, none⟩ = some (.int .i64 x1) := (H1.out.below HB.out).cellAt HEx.out hli 0 _ rfl
          have x1 : wr.cell? ⟨b1, o1 + i * 4 + 1, none⟩ = some (.string x2) := (H1.out.below HB.out).cellAt HEx.out hli 1 _ rfl
          have x2 : wr.cell? ⟨b1, o1 + i * 4 + 2, none⟩ = some (.string x3) := (H1.out.below HB.out).cellAt HEx.out hli 2 _ rfl
          have x3 : wr.cell? ⟨b1, o1 + i * 4 + 3, none⟩ = some (.string x4) := (H1.out.below HB.out).cellAt HEx.out hli 3 _ rfl
          have y0 : wr.cell? ⟨b2, o2 + k * 4, none⟩ = some (.int .i64 y1) := (H2.out.below HB.out).cellAt HEy.out hlk 0 _ rfl
          have y1 : wr.cell? ⟨b2, o2 + k * 4 + 1, none⟩ = some (.string y2) := (H2.out.below HB.out).cellAt HEy.out hlk 1 _ rfl
          have y2 : wr.cell? ⟨b2, o2 + k * 4 + 2, none⟩ = some (.string y3) := (H2.out.below HB.out).cellAt HEy.out hlk 2 _ rfl
          have y3 : wr.cell? ⟨b2, o2 + k * 4 + 3, none⟩ = some (.string y4) := (H2.out.below HB.out).cellAt HEy.out hlk 3 _ rfl
          go_upto_region 4 with (fail)
          have rx0 := fun d os => cell_regrown x0 d os
          have rx1 := fun d os => cell_regrown x1 d os
          have rx2 := fun d os => cell_regrown x2 d os
          have rx3 := fun d os => cell_regrown x3 d os
          have ry0 := fun d os => cell_regrown y0 d os
          have ry1 := fun d os => cell_regrown y1 d os
          have ry2 := fun d os => cell_regrown y2 d os
          have ry3 := fun d os => cell_regrown y3 d os
          refine wp_region_quiet_below (by kernel_rfl) (by kernel_rfl) ?_
          repeat (any_goals (first | go_big_quiet_step (first | (go_at_call 11; with_reducible exact Calls.regrown_of (HLT1.out _))) | quiet_step (first | (go_at_call 11; with_reducible exact Calls.regrown_of (HLT1.out _)))))
          refine wpQuiet_nil ?_
          intro w4 hww4
          have hbw4 := below_anyY hww4
          clear hww4 rx0 rx1 rx2 rx3 ry0 ry1 ry2 ry3 x0 x1 x2 x3 y0 y1 y2 y3
          have HO4 := Lib.hid (HO.out.kept hbw4)
          have HB4 := Lib.hid (HB.out.trans (hbw4.mono HB.out.size))
          clear hbw4 HO HB
          clear HLT1
          have dy0 : w4.cell? ⟨b2, o2 + k * 4, none⟩ = some (.int .i64 y1) := (H2.out.below HB4.out).cellAt HEy.out hlk 0 _ rfl
          have dy1 : w4.cell? ⟨b2, o2 + k * 4 + 1, none⟩ = some (.string y2) := (H2.out.below HB4.out).cellAt HEy.out hlk 1 _ rfl
          have dy2 : w4.cell? ⟨b2, o2 + k * 4 + 2, none⟩ = some (.string y3) := (H2.out.below HB4.out).cellAt HEy.out hlk 2 _ rfl
          have dy3 : w4.cell? ⟨b2, o2 + k * 4 + 3, none⟩ = some (.string y4) := (H2.out.below HB4.out).cellAt HEy.out hlk 3 _ rfl
          have HXN := Lib.hid (blk_new w4 (.cells #[.int .i64 y1, .string y2, .string y3, .string ⟨#[]⟩] 32 (0, 0)))
          have c0 : (w4.alloc (.cells #[.int .i64 y1, .string y2, .string y3, .string ⟨#[]⟩] 32 (0, 0))).cell? ⟨w4.heap.size, 0, none⟩ = some (.int .i64 y1) := (cell_of_row _ _ 0 _ _ _ HXN.out).trans rfl
          have c1 : (w4.alloc (.cells #[.int .i64 y1, .string y2, .string y3, .string ⟨#[]⟩] 32 (0, 0))).cell? ⟨w4.heap.size, 1, none⟩ = some (.string y2) := (cell_of_row _ _ 1 _ _ _ HXN.out).trans rfl
          have c2 : (w4.alloc (.cells #[.int .i64 y1, .string y2, .string y3, .string ⟨#[]⟩] 32 (0, 0))).cell? ⟨w4.heap.size, 2, none⟩ = some (.string y3) := (cell_of_row _ _ 2 _ _ _ HXN.out).trans rfl
          have c3 : (w4.alloc (.cells #[.int .i64 y1, .string y2, .string y3, .string ⟨#[]⟩] 32 (0, 0))).cell? ⟨w4.heap.size, 3, none⟩ = some (.string ⟨#[]⟩) := (cell_of_row _ _ 3 _ _ _ HXN.out).trans rfl
          have HB5 := Lib.hid ((HB4.out.alloc HB4.out.size (.cells #[.int .i64 y1, .string y2, .string y3, .string ⟨#[]⟩] 32 (0, 0))).alloc (HB4.out.alloc HB4.out.size (.cells #[.int .i64 y1, .string y2, .string y3, .string ⟨#[]⟩] 32 (0, 0))).size (.cells #[.int .i64 y1, .string y2, .string y3, .string ⟨#[]⟩] 32 (0, 0)))
          have HO5 := Lib.hid ((HO4.out.alloc (.cells #[.int .i64 y1, .string y2, .string y3, .string ⟨#[]⟩] 32 (0, 0))).alloc (.cells #[.int .i64 y1, .string y2, .string y3, .string ⟨#[]⟩] 32 (0, 0)))
          go_wp2_with (at_builtin; refine wpList_appX rfl (.tmp 76) (.tmp 78) 22 32 _ 56 rfl Try.underlying22 info_fcD rfl (by omega) (by omega) fcC_len fcC_one w.heap.size w HB5.out (by have := HB4.out.size; simp at this ⊢ <;> omega) (.slice av nv cv) acc rfl HO5.out (w4.heap.size + 1) 1 (y1, y2, y3, ⟨#[]⟩) #[.int .i64 y1, .string y2, .string y3, .string ⟨#[]⟩] 32 (0, 0) rfl (blk_newN (by simp)) rfl (by have := HLN.out; have := HM.out; omega) ?_)
          intro v9 w9 HO9 HB9 _ _
          have hv9 := HO9.out.one
          clear c0 c1 c2 c3 HXN HB5 HO5 HO4 HB4
          go_wp2_with fail
          go_roundw
          case rel => exact ⟨i, k + 1, acc ++ [clr (y1, y2, y3, y4)], rfl, by go_num, by omega, by omega, HO9.out, by rw [List.length_append]; have := HLN.out; simp; omega, by rw [← HEQ.out, HBE.out, List.append_assoc]; rfl, HB9.out⟩
          case measure => simp [intOf] <;> omega
        | false =>
          rw [hp] at HLT1
          cases hp2 : lessF (x1, x2, x3, x4) (y1, y2, y3, y4) with
          | true =>
            have HBE := Lib.hid (show bothL (X.drop i) (Y.drop k) = clr (x1, x2, x3, x4) :: bothL (X.drop (i + 1)) (Y.drop (k)) by rw [HDX.out, HDY.out]; exact both_lt (X.drop (i + 1)) (Y.drop (k + 1)) hp2)
            rw [hp2] at HLT2
            clear hp hp2
            have x0 : wr.cell? ⟨b1, o1 + i * 4, none⟩ = some (.int .i64 x1) := (H1.out.below HB.out).cellAt HEx.out hli 0 _ rfl
            have x1 : wr.cell? ⟨b1, o1 + i * 4 + 1, none⟩ = some (.string x2) := (H1.out.below HB.out).cellAt HEx.out hli 1 _ rfl
            have x2 : wr.cell? ⟨b1, o1 + i * 4 + 2, none⟩ = some (.string x3) := (H1.out.below HB.out).cellAt HEx.out hli 2 _ rfl
            have x3 : wr.cell? ⟨b1, o1 + i * 4 + 3, none⟩ = some (.string x4) := (H1.out.below HB.out).cellAt HEx.out hli 3 _ rfl
            have y0 : wr.cell? ⟨b2, o2 + k * 4, none⟩ = some (.int .i64 y1) := (H2.out.below HB.out).cellAt HEy.out hlk 0 _ rfl
            have y1 : wr.cell? ⟨b2, o2 + k * 4 + 1, none⟩ = some (.string y2) := (H2.out.below HB.out).cellAt HEy.out hlk 1 _ rfl
            have y2 : wr.cell? ⟨b2, o2 + k * 4 + 2, none⟩ = some (.string y3) := (H2.out.below HB.out).cellAt HEy.out hlk 2 _ rfl
            have y3 : wr.cell? ⟨b2, o2 + k * 4 + 3, none⟩ = some (.string y4) := (H2.out.below HB.out).cellAt HEy.out hlk 3 _ rfl
            go_upto_region 4 with (fail)
            have rx0 := fun d os => cell_regrown x0 d os
            have rx1 := fun d os => cell_regrown x1 d os
            have rx2 := fun d os => cell_regrown x2 d os
            have rx3 := fun d os => cell_regrown x3 d os
            have ry0 := fun d os => cell_regrown y0 d os
            have ry1 := fun d os => cell_regrown y1 d os
            have ry2 := fun d os => cell_regrown y2 d os
            have ry3 := fun d os => cell_regrown y3 d os
            refine wp_region_quiet_below (by kernel_rfl) (by kernel_rfl) ?_
            repeat (any_goals (first | go_big_quiet_step (first | (go_at_call 11; with_reducible exact Calls.regrown_of (HLT1.out _))) | quiet_step (first | (go_at_call 11; with_reducible exact Calls.regrown_of (HLT1.out _)))))
            refine wpQuiet_nil ?_
            intro w4 hww4
            have hbw4 := below_anyY hww4
            clear hww4 rx0 rx1 rx2 rx3 ry0 ry1 ry2 ry3 x0 x1 x2 x3 y0 y1 y2 y3
            have HO4 := Lib.hid (HO.out.kept hbw4)
            have HB4 := Lib.hid (HB.out.trans (hbw4.mono HB.out.size))
            clear hbw4 HO HB
            clear HLT1
            have dx0 : w4.cell? ⟨b1, o1 + i * 4, none⟩ = some (.int .i64 x1) := (H1.out.below HB4.out).cellAt HEx.out hli 0 _ rfl
            have dx1 : w4.cell? ⟨b1, o1 + i * 4 + 1, none⟩ = some (.string x2) := (H1.out.below HB4.out).cellAt HEx.out hli 1 _ rfl
            have dx2 : w4.cell? ⟨b1, o1 + i * 4 + 2, none⟩ = some (.string x3) := (H1.out.below HB4.out).cellAt HEx.out hli 2 _ rfl
            have dx3 : w4.cell? ⟨b1, o1 + i * 4 + 3, none⟩ = some (.string x4) := (H1.out.below HB4.out).cellAt HEx.out hli 3 _ rfl
            have HXN := Lib.hid (blk_new w4 (.cells #[.int .i64 x1, .string x2, .string x3, .string ⟨#[]⟩] 32 (0, 0)))
            have c0 : (w4.alloc (.cells #[.int .i64 x1, .string x2, .string x3, .string ⟨#[]⟩] 32 (0, 0))).cell? ⟨w4.heap.size, 0, none⟩ = some (.int .i64 x1) := (cell_of_row _ _ 0 _ _ _ HXN.out).trans rfl
            have c1 : (w4.alloc (.cells #[.int .i64 x1, .string x2, .string x3, .string ⟨#[]⟩] 32 (0, 0))).cell? ⟨w4.heap.size, 1, none⟩ = some (.string x2) := (cell_of_row _ _ 1 _ _ _ HXN.out).trans rfl
            have c2 : (w4.alloc (.cells #[.int .i64 x1, .string x2, .string x3, .string ⟨#[]⟩] 32 (0, 0))).cell? ⟨w4.heap.size, 2, none⟩ = some (.string x3) := (cell_of_row _ _ 2 _ _ _ HXN.out).trans rfl
            have c3 : (w4.alloc (.cells #[.int .i64 x1, .string x2, .string x3, .string ⟨#[]⟩] 32 (0, 0))).cell? ⟨w4.heap.size, 3, none⟩ = some (.string ⟨#[]⟩) := (cell_of_row _ _ 3 _ _ _ HXN.out).trans rfl
            have HB5 := Lib.hid ((HB4.out.alloc HB4.out.size (.cells #[.int .i64 x1, .string x2, .string x3, .string ⟨#[]⟩] 32 (0, 0))).alloc (HB4.out.alloc HB4.out.size (.cells #[.int .i64 x1, .string x2, .string x3, .string ⟨#[]⟩] 32 (0, 0))).size (.cells #[.int .i64 x1, .string x2, .string x3, .string ⟨#[]⟩] 32 (0, 0)))
            have HO5 := Lib.hid ((HO4.out.alloc (.cells #[.int .i64 x1, .string x2, .string x3, .string ⟨#[]⟩] 32 (0, 0))).alloc (.cells #[.int .i64 x1, .string x2, .string x3, .string ⟨#[]⟩] 32 (0, 0)))
            go_wp2_with (at_builtin; refine wpList_appX rfl (.tmp 47) (.tmp 49) 22 32 _ 56 rfl Try.underlying22 info_fcD rfl (by omega) (by omega) fcC_len fcC_one w.heap.size w HB5.out (by have := HB4.out.size; simp at this ⊢ <;> omega) (.slice av nv cv) acc rfl HO5.out (w4.heap.size + 1) 1 (x1, x2, x3, ⟨#[]⟩) #[.int .i64 x1, .string x2, .string x3, .string ⟨#[]⟩] 32 (0, 0) rfl (blk_newN (by simp)) rfl (by have := HLN.out; have := HM.out; omega) ?_)
            intro v9 w9 HO9 HB9 _ _
            have hv9 := HO9.out.one
            clear c0 c1 c2 c3 HXN HB5 HO5 HO4 HB4
            clear dx0 dx1 dx2 dx3
            have fx0 : w9.cell? ⟨b1, o1 + i * 4, none⟩ = some (.int .i64 x1) := (H1.out.below HB9.out).cellAt HEx.out hli 0 _ rfl
            have fx1 : w9.cell? ⟨b1, o1 + i * 4 + 1, none⟩ = some (.string x2) := (H1.out.below HB9.out).cellAt HEx.out hli 1 _ rfl
            have fx2 : w9.cell? ⟨b1, o1 + i * 4 + 2, none⟩ = some (.string x3) := (H1.out.below HB9.out).cellAt HEx.out hli 2 _ rfl
            have fx3 : w9.cell? ⟨b1, o1 + i * 4 + 3, none⟩ = some (.string x4) := (H1.out.below HB9.out).cellAt HEx.out hli 3 _ rfl
            have fy0 : w9.cell? ⟨b2, o2 + k * 4, none⟩ = some (.int .i64 y1) := (H2.out.below HB9.out).cellAt HEy.out hlk 0 _ rfl
            have fy1 : w9.cell? ⟨b2, o2 + k * 4 + 1, none⟩ = some (.string y2) := (H2.out.below HB9.out).cellAt HEy.out hlk 1 _ rfl
            have fy2 : w9.cell? ⟨b2, o2 + k * 4 + 2, none⟩ = some (.string y3) := (H2.out.below HB9.out).cellAt HEy.out hlk 2 _ rfl
            have fy3 : w9.cell? ⟨b2, o2 + k * 4 + 3, none⟩ = some (.string y4) := (H2.out.below HB9.out).cellAt HEy.out hlk 3 _ rfl
            go_upto_region 8 with (fail)
            have rfx0 := fun d os => cell_regrown fx0 d os
            have rfx1 := fun d os => cell_regrown fx1 d os
            have rfx2 := fun d os => cell_regrown fx2 d os
            have rfx3 := fun d os => cell_regrown fx3 d os
            have rfy0 := fun d os => cell_regrown fy0 d os
            have rfy1 := fun d os => cell_regrown fy1 d os
            have rfy2 := fun d os => cell_regrown fy2 d os
            have rfy3 := fun d os => cell_regrown fy3 d os
            refine wp_region_quiet_below (by kernel_rfl) (by kernel_rfl) ?_
            repeat (any_goals (first | go_big_quiet_step (first | (go_at_call 11; with_reducible exact Calls.regrown_of (HLT2.out _))) | quiet_step (first | (go_at_call 11; with_reducible exact Calls.regrown_of (HLT2.out _)))))
            refine wpQuiet_nil ?_
            intro w10 hww10
            have hbw10 := below_anyY hww10
            clear hww10 rfx0 rfx1 rfx2 rfx3 rfy0 rfy1 rfy2 rfy3 fx0 fx1 fx2 fx3 fy0 fy1 fy2 fy3
            have HO10 := Lib.hid (HO9.out.kept hbw10)
            have HB10 := Lib.hid (HB9.out.trans (hbw10.mono HB9.out.size))
            clear hbw10 HO9 HB9
            go_wp2_with fail
            go_roundw
            case rel => exact ⟨i + 1, k, acc ++ [clr (x1, x2, x3, x4)], by go_num, rfl, by omega, by omega, HO10.out, by rw [List.length_append]; have := HLN.out; simp; omega, by rw [← HEQ.out, HBE.out, List.append_assoc]; rfl, HB10.out⟩
            case measure => simp [intOf] <;> omega
          | false =>
            have HBE := Lib.hid (show bothL (X.drop i) (Y.drop k) = clr (x1, x2, x3, x4) :: bothL (X.drop (i + 1)) (Y.drop (k + 1)) by rw [HDX.out, HDY.out]; exact both_eq (X.drop (i + 1)) (Y.drop (k + 1)) hp2 hp)
            rw [hp2] at HLT2
            clear hp hp2
            have x0 : wr.cell? ⟨b1, o1 + i * 4, none⟩ = some (.int .i64 x1) := (H1.out.below HB.out).cellAt HEx.out hli 0 _ rfl
            have x1 : wr.cell? ⟨b1, o1 + i * 4 + 1, none⟩ = some (.string x2) := (H1.out.below HB.out).cellAt HEx.out hli 1 _ rfl
            have x2 : wr.cell? ⟨b1, o1 + i * 4 + 2, none⟩ = some (.string x3) := (H1.out.below HB.out).cellAt HEx.out hli 2 _ rfl
            have x3 : wr.cell? ⟨b1, o1 + i * 4 + 3, none⟩ = some (.string x4) := (H1.out.below HB.out).cellAt HEx.out hli 3 _ rfl
            have y0 : wr.cell? ⟨b2, o2 + k * 4, none⟩ = some (.int .i64 y1) := (H2.out.below HB.out).cellAt HEy.out hlk 0 _ rfl
            have y1 : wr.cell? ⟨b2, o2 + k * 4 + 1, none⟩ = some (.string y2) := (H2.out.below HB.out).cellAt HEy.out hlk 1 _ rfl
            have y2 : wr.cell? ⟨b2, o2 + k * 4 + 2, none⟩ = some (.string y3) := (H2.out.below HB.out).cellAt HEy.out hlk 2 _ rfl
            have y3 : wr.cell? ⟨b2, o2 + k * 4 + 3, none⟩ = some (.string y4) := (H2.out.below HB.out).cellAt HEy.out hlk 3 _ rfl
            go_upto_region 4 with (fail)
            have rx0 := fun d os => cell_regrown x0 d os
            have rx1 := fun d os => cell_regrown x1 d os
            have rx2 := fun d os => cell_regrown x2 d os
            have rx3 := fun d os => cell_regrown x3 d os
            have ry0 := fun d os => cell_regrown y0 d os
            have ry1 := fun d os => cell_regrown y1 d os
            have ry2 := fun d os => cell_regrown y2 d os
            have ry3 := fun d os => cell_regrown y3 d os
            refine wp_region_quiet_below (by kernel_rfl) (by kernel_rfl) ?_
            repeat (any_goals (first | go_big_quiet_step (first | (go_at_call 11; with_reducible exact Calls.regrown_of (HLT1.out _))) | quiet_step (first | (go_at_call 11; with_reducible exact Calls.regrown_of (HLT1.out _)))))
            refine wpQuiet_nil ?_
            intro w4 hww4
            have hbw4 := below_anyY hww4
            clear hww4 rx0 rx1 rx2 rx3 ry0 ry1 ry2 ry3 x0 x1 x2 x3 y0 y1 y2 y3
            have HO4 := Lib.hid (HO.out.kept hbw4)
            have HB4 := Lib.hid (HB.out.trans (hbw4.mono HB.out.size))
            clear hbw4 HO HB
            clear HLT1
            have dx0 : w4.cell? ⟨b1, o1 + i * 4, none⟩ = some (.int .i64 x1) := (H1.out.below HB4.out).cellAt HEx.out hli 0 _ rfl
            have dx1 : w4.cell? ⟨b1, o1 + i * 4 + 1, none⟩ = some (.string x2) := (H1.out.below HB4.out).cellAt HEx.out hli 1 _ rfl
            have dx2 : w4.cell? ⟨b1, o1 + i * 4 + 2, none⟩ = some (.string x3) := (H1.out.below HB4.out).cellAt HEx.out hli 2 _ rfl
            have dx3 : w4.cell? ⟨b1, o1 + i * 4 + 3, none⟩ = some (.string x4) := (H1.out.below HB4.out).cellAt HEx.out hli 3 _ rfl
            have HXN := Lib.hid (blk_new w4 (.cells #[.int .i64 x1, .string x2, .string x3, .string ⟨#[]⟩] 32 (0, 0)))
            have c0 : (w4.alloc (.cells #[.int .i64 x1, .string x2, .string x3, .string ⟨#[]⟩] 32 (0, 0))).cell? ⟨w4.heap.size, 0, none⟩ = some (.int .i64 x1) := (cell_of_row _ _ 0 _ _ _ HXN.out).trans rfl
            have c1 : (w4.alloc (.cells #[.int .i64 x1, .string x2, .string x3, .string ⟨#[]⟩] 32 (0, 0))).cell? ⟨w4.heap.size, 1, none⟩ = some (.string x2) := (cell_of_row _ _ 1 _ _ _ HXN.out).trans rfl
            have c2 : (w4.alloc (.cells #[.int .i64 x1, .string x2, .string x3, .string ⟨#[]⟩] 32 (0, 0))).cell? ⟨w4.heap.size, 2, none⟩ = some (.string x3) := (cell_of_row _ _ 2 _ _ _ HXN.out).trans rfl
            have c3 : (w4.alloc (.cells #[.int .i64 x1, .string x2, .string x3, .string ⟨#[]⟩] 32 (0, 0))).cell? ⟨w4.heap.size, 3, none⟩ = some (.string ⟨#[]⟩) := (cell_of_row _ _ 3 _ _ _ HXN.out).trans rfl
            have HB5 := Lib.hid ((HB4.out.alloc HB4.out.size (.cells #[.int .i64 x1, .string x2, .string x3, .string ⟨#[]⟩] 32 (0, 0))).alloc (HB4.out.alloc HB4.out.size (.cells #[.int .i64 x1, .string x2, .string x3, .string ⟨#[]⟩] 32 (0, 0))).size (.cells #[.int .i64 x1, .string x2, .string x3, .string ⟨#[]⟩] 32 (0, 0)))
            have HO5 := Lib.hid ((HO4.out.alloc (.cells #[.int .i64 x1, .string x2, .string x3, .string ⟨#[]⟩] 32 (0, 0))).alloc (.cells #[.int .i64 x1, .string x2, .string x3, .string ⟨#[]⟩] 32 (0, 0)))
            go_wp2_with (at_builtin; refine wpList_appX rfl (.tmp 47) (.tmp 49) 22 32 _ 56 rfl Try.underlying22 info_fcD rfl (by omega) (by omega) fcC_len fcC_one w.heap.size w HB5.out (by have := HB4.out.size; simp at this ⊢ <;> omega) (.slice av nv cv) acc rfl HO5.out (w4.heap.size + 1) 1 (x1, x2, x3, ⟨#[]⟩) #[.int .i64 x1, .string x2, .string x3, .string ⟨#[]⟩] 32 (0, 0) rfl (blk_newN (by simp)) rfl (by have := HLN.out; have := HM.out; omega) ?_)
            intro v9 w9 HO9 HB9 _ _
            have hv9 := HO9.out.one
            clear c0 c1 c2 c3 HXN HB5 HO5 HO4 HB4
            clear dx0 dx1 dx2 dx3
            have fx0 : w9.cell? ⟨b1, o1 + i * 4, none⟩ = some (.int .i64 x1) := (H1.out.below HB9.out).cellAt HEx.out hli 0 _ rfl
            have fx1 : w9.cell? ⟨b1, o1 + i * 4 + 1, none⟩ = some (.string x2) := (H1.out.below HB9.out).cellAt HEx.out hli 1 _ rfl
            have fx2 : w9.cell? ⟨b1, o1 + i * 4 + 2, none⟩ = some (.string x3) := (H1.out.below HB9.out).cellAt HEx.out hli 2 _ rfl
            have fx3 : w9.cell? ⟨b1, o1 + i * 4 + 3, none⟩ = some (.string x4) := (H1.out.below HB9.out).cellAt HEx.out hli 3 _ rfl
            have fy0 : w9.cell? ⟨b2, o2 + k * 4, none⟩ = some (.int .i64 y1) := (H2.out.below HB9.out).cellAt HEy.out hlk 0 _ rfl
            have fy1 : w9.cell? ⟨b2, o2 + k * 4 + 1, none⟩ = some (.string y2) := (H2.out.below HB9.out).cellAt HEy.out hlk 1 _ rfl
            have fy2 : w9.cell? ⟨b2, o2 + k * 4 + 2, none⟩ = some (.string y3) := (H2.out.below HB9.out).cellAt HEy.out hlk 2 _ rfl
            have fy3 : w9.cell? ⟨b2, o2 + k * 4 + 3, none⟩ = some (.string y4) := (H2.out.below HB9.out).cellAt HEy.out hlk 3 _ rfl
            go_upto_region 8 with (fail)
            have rfx0 := fun d os => cell_regrown fx0 d os
            have rfx1 := fun d os => cell_regrown fx1 d os
            have rfx2 := fun d os => cell_regrown fx2 d os
            have rfx3 := fun d os => cell_regrown fx3 d os
            have rfy0 := fun d os => cell_regrown fy0 d os
            have rfy1 := fun d os => cell_regrown fy1 d os
            have rfy2 := fun d os => cell_regrown fy2 d os
            have rfy3 := fun d os => cell_regrown fy3 d os
            refine wp_region_quiet_below (by kernel_rfl) (by kernel_rfl) ?_
            repeat (any_goals (first | go_big_quiet_step (first | (go_at_call 11; with_reducible exact Calls.regrown_of (HLT2.out _))) | quiet_step (first | (go_at_call 11; with_reducible exact Calls.regrown_of (HLT2.out _)))))
            refine wpQuiet_nil ?_
            intro w10 hww10
            have hbw10 := below_anyY hww10
            clear hww10 rfx0 rfx1 rfx2 rfx3 rfy0 rfy1 rfy2 rfy3 fx0 fx1 fx2 fx3 fy0 fy1 fy2 fy3
            have HO10 := Lib.hid (HO9.out.kept hbw10)
            have HB10 := Lib.hid (HB9.out.trans (hbw10.mono HB9.out.size))
            clear hbw10 HO9 HB9
            go_wp2_with fail
            go_roundw
            case rel => exact ⟨i + 1, k + 1, acc ++ [clr (x1, x2, x3, x4)], by go_num, by go_num, by omega, by omega, HO10.out, by rw [List.length_append]; have := HLN.out; simp; omega, by rw [← HEQ.out, HBE.out, List.append_assoc]; rfl, HB10.out⟩
            case measure => simp [intOf] <;> omega
      · obtain rfl : k = n2 := by omega
        have hd1 : decide ((i : Int) < (n1 : Int)) = true := decide_eq_true (by omega)
        have hd1n : decide (i < n1) = true := decide_eq_true (by omega)
        have hd2 : decide ((k : Int) < (k : Int)) = false := decide_eq_false (by omega)
        have hlx : i < X.length := by have := L1.out; omega
        obtain ⟨b1, o1, _, rfl, _, _⟩ := H1.out.at hli
        obtain ⟨x, hx⟩ : ∃ z, X[i] = z := ⟨_, rfl⟩
        have HEx := Lib.hid (show X[i]? = some x by rw [List.getElem?_eq_getElem hlx, hx])
        clear hx hlx
        obtain ⟨x1, x2, x3, x4⟩ := x
        have HDX := Lib.hid (drop_at HEx.out)
        have HDY := Lib.hid (show Y.drop k = [] from List.drop_eq_nil_of_le (by have := L2.out; omega))
        have HBE := Lib.hid (show bothL (X.drop i) (Y.drop k) = clr (x1, x2, x3, x4) :: bothL (X.drop (i + 1)) (Y.drop (k)) by rw [HDX.out, HDY.out]; exact both_nil2 (x1, x2, x3, x4) (X.drop (i + 1)))
        have x0 : wr.cell? ⟨b1, o1 + i * 4, none⟩ = some (.int .i64 x1) := (H1.out.below HB.out).cellAt HEx.out hli 0 _ rfl
        have x1 : wr.cell? ⟨b1, o1 + i * 4 + 1, none⟩ = some (.string x2) := (H1.out.below HB.out).cellAt HEx.out hli 1 _ rfl
        have x2 : wr.cell? ⟨b1, o1 + i * 4 + 2, none⟩ = some (.string x3) := (H1.out.below HB.out).cellAt HEx.out hli 2 _ rfl
        have x3 : wr.cell? ⟨b1, o1 + i * 4 + 3, none⟩ = some (.string x4) := (H1.out.below HB.out).cellAt HEx.out hli 3 _ rfl
        go_upto_region 4 with (fail)
        have rx0 := fun d os => cell_regrown x0 d os
        have rx1 := fun d os => cell_regrown x1 d os
        have rx2 := fun d os => cell_regrown x2 d os
        have rx3 := fun d os => cell_regrown x3 d os
        refine wp_region_quiet_below (by kernel_rfl) (by kernel_rfl) ?_
        repeat (any_goals (first | go_big_quiet_step (fail) | quiet_step (fail)))
        refine wpQuiet_nil ?_
        intro w4 hww4
        have hbw4 := below_anyY hww4
        clear hww4 rx0 rx1 rx2 rx3 x0 x1 x2 x3
        have HO4 := Lib.hid (HO.out.kept hbw4)
        have HB4 := Lib.hid (HB.out.trans (hbw4.mono HB.out.size))
        clear hbw4 HO HB
        have dx0 : w4.cell? ⟨b1, o1 + i * 4, none⟩ = some (.int .i64 x1) := (H1.out.below HB4.out).cellAt HEx.out hli 0 _ rfl
        have dx1 : w4.cell? ⟨b1, o1 + i * 4 + 1, none⟩ = some (.string x2) := (H1.out.below HB4.out).cellAt HEx.out hli 1 _ rfl
        have dx2 : w4.cell? ⟨b1, o1 + i * 4 + 2, none⟩ = some (.string x3) := (H1.out.below HB4.out).cellAt HEx.out hli 2 _ rfl
        have dx3 : w4.cell? ⟨b1, o1 + i * 4 + 3, none⟩ = some (.string x4) := (H1.out.below HB4.out).cellAt HEx.out hli 3 _ rfl
        have HXN := Lib.hid (blk_new w4 (.cells #[.int .i64 x1, .string x2, .string x3, .string ⟨#[]⟩] 32 (0, 0)))
        have c0 : (w4.alloc (.cells #[.int .i64 x1, .string x2, .string x3, .string ⟨#[]⟩] 32 (0, 0))).cell? ⟨w4.heap.size, 0, none⟩ = some (.int .i64 x1) := (cell_of_row _ _ 0 _ _ _ HXN.out).trans rfl
        have c1 : (w4.alloc (.cells #[.int .i64 x1, .string x2, .string x3, .string ⟨#[]⟩] 32 (0, 0))).cell? ⟨w4.heap.size, 1, none⟩ = some (.string x2) := (cell_of_row _ _ 1 _ _ _ HXN.out).trans rfl
        have c2 : (w4.alloc (.cells #[.int .i64 x1, .string x2, .string x3, .string ⟨#[]⟩] 32 (0, 0))).cell? ⟨w4.heap.size, 2, none⟩ = some (.string x3) := (cell_of_row _ _ 2 _ _ _ HXN.out).trans rfl
        have c3 : (w4.alloc (.cells #[.int .i64 x1, .string x2, .string x3, .string ⟨#[]⟩] 32 (0, 0))).cell? ⟨w4.heap.size, 3, none⟩ = some (.string ⟨#[]⟩) := (cell_of_row _ _ 3 _ _ _ HXN.out).trans rfl
        have HB5 := Lib.hid ((HB4.out.alloc HB4.out.size (.cells #[.int .i64 x1, .string x2, .string x3, .string ⟨#[]⟩] 32 (0, 0))).alloc (HB4.out.alloc HB4.out.size (.cells #[.int .i64 x1, .string x2, .string x3, .string ⟨#[]⟩] 32 (0, 0))).size (.cells #[.int .i64 x1, .string x2, .string x3, .string ⟨#[]⟩] 32 (0, 0)))
        have HO5 := Lib.hid ((HO4.out.alloc (.cells #[.int .i64 x1, .string x2, .string x3, .string ⟨#[]⟩] 32 (0, 0))).alloc (.cells #[.int .i64 x1, .string x2, .string x3, .string ⟨#[]⟩] 32 (0, 0)))
        go_wp2_with (at_builtin; refine wpList_appX rfl (.tmp 47) (.tmp 49) 22 32 _ 56 rfl Try.underlying22 info_fcD rfl (by omega) (by omega) fcC_len fcC_one w.heap.size w HB5.out (by have := HB4.out.size; simp at this ⊢ <;> omega) (.slice av nv cv) acc rfl HO5.out (w4.heap.size + 1) 1 (x1, x2, x3, ⟨#[]⟩) #[.int .i64 x1, .string x2, .string x3, .string ⟨#[]⟩] 32 (0, 0) rfl (blk_newN (by simp)) rfl (by have := HLN.out; have := HM.out; omega) ?_)
        intro v9 w9 HO9 HB9 _ _
        have hv9 := HO9.out.one
        clear c0 c1 c2 c3 HXN HB5 HO5 HO4 HB4
        clear dx0 dx1 dx2 dx3
        go_upto_region 8 with (fail)
        refine wp_region_quiet_below (by kernel_rfl) (by kernel_rfl) ?_
        repeat (any_goals (first | go_big_quiet_step (fail) | quiet_step (fail)))
        refine wpQuiet_nil ?_
        intro w10 hww10
        have hbw10 := below_anyY hww10
        clear hww10  
        have HO10 := Lib.hid (HO9.out.kept hbw10)
        have HB10 := Lib.hid (HB9.out.trans (hbw10.mono HB9.out.size))
        clear hbw10 HO9 HB9
        go_wp2_with fail
        go_roundw
        case rel => exact ⟨i + 1, k, acc ++ [clr (x1, x2, x3, x4)], by go_num, rfl, by omega, by omega, HO10.out, by rw [List.length_append]; have := HLN.out; simp; omega, by rw [← HEQ.out, HBE.out, List.append_assoc]; rfl, HB10.out⟩
        case measure => simp [intOf] <;> omega
    · obtain rfl : i = n1 := by omega
      have hd1 : decide ((i : Int) < (i : Int)) = false := decide_eq_false (by omega)
      have HDX := Lib.hid (show X.drop i = [] from List.drop_eq_nil_of_le (by have := L1.out; omega))
      by_cases hlk : k < n2
      · skip
        have hd2 : decide ((k : Int) < (n2 : Int)) = true := decide_eq_true (by omega)
        have hd2n : decide (k < n2) = true := decide_eq_true (by omega)
        have hq1 : ((k : Int) == (n2 : Int)) = false := by simp; omega
        have hq2 : (k == n2) = false := by simp; omega
        have hq3 : decide ((k : Int) = (n2 : Int)) = false := decide_eq_false (by omega)
        have hq4 : decide (k = n2) = false := decide_eq_false (by omega)
        have hly : k < Y.length := by have := L2.out; omega
        obtain ⟨b2, o2, _, rfl, _, _⟩ := H2.out.at hlk
        obtain ⟨y, hy⟩ : ∃ z, Y[k] = z := ⟨_, rfl⟩
        have HEy := Lib.hid (show Y[k]? = some y by rw [List.getElem?_eq_getElem hly, hy])
        clear hy hly
        obtain ⟨y1, y2, y3, y4⟩ := y
        have HDY := Lib.hid (drop_at HEy.out)
        have HBE := Lib.hid (show bothL (X.drop i) (Y.drop k) = clr (y1, y2, y3, y4) :: bothL (X.drop (i)) (Y.drop (k + 1)) by rw [HDX.out, HDY.out]; exact both_nil (y1, y2, y3, y4) (Y.drop (k + 1)))
        have y0 : wr.cell? ⟨b2, o2 + k * 4, none⟩ = some (.int .i64 y1) := (H2.out.below HB.out).cellAt HEy.out hlk 0 _ rfl
        have y1 : wr.cell? ⟨b2, o2 + k * 4 + 1, none⟩ = some (.string y2) := (H2.out.below HB.out).cellAt HEy.out hlk 1 _ rfl
        have y2 : wr.cell? ⟨b2, o2 + k * 4 + 2, none⟩ = some (.string y3) := (H2.out.below HB.out).cellAt HEy.out hlk 2 _ rfl
        have y3 : wr.cell? ⟨b2, o2 + k * 4 + 3, none⟩ = some (.string y4) := (H2.out.below HB.out).cellAt HEy.out hlk 3 _ rfl
        go_upto_region 4 with (fail)
        have ry0 := fun d os => cell_regrown y0 d os
        have ry1 := fun d os => cell_regrown y1 d os
        have ry2 := fun d os => cell_regrown y2 d os
        have ry3 := fun d os => cell_regrown y3 d os
        refine wp_region_quiet_below (by kernel_rfl) (by kernel_rfl) ?_
        repeat (any_goals (first | go_big_quiet_step (fail) | quiet_step (fail)))
        refine wpQuiet_nil ?_
        intro w4 hww4
        have hbw4 := below_anyY hww4
        clear hww4 ry0 ry1 ry2 ry3 y0 y1 y2 y3
        have HO4 := Lib.hid (HO.out.kept hbw4)
        have HB4 := Lib.hid (HB.out.trans (hbw4.mono HB.out.size))
        clear hbw4 HO HB
        have dy0 : w4.cell? ⟨b2, o2 + k * 4, none⟩ = some (.int .i64 y1) := (H2.out.below HB4.out).cellAt HEy.out hlk 0 _ rfl
        have dy1 : w4.cell? ⟨b2, o2 + k * 4 + 1, none⟩ = some (.string y2) := (H2.out.below HB4.out).cellAt HEy.out hlk 1 _ rfl
        have dy2 : w4.cell? ⟨b2, o2 + k * 4 + 2, none⟩ = some (.string y3) := (H2.out.below HB4.out).cellAt HEy.out hlk 2 _ rfl
        have dy3 : w4.cell? ⟨b2, o2 + k * 4 + 3, none⟩ = some (.string y4) := (H2.out.below HB4.out).cellAt HEy.out hlk 3 _ rfl
        have HXN := Lib.hid (blk_new w4 (.cells #[.int .i64 y1, .string y2, .string y3, .string ⟨#[]⟩] 32 (0, 0)))
        have c0 : (w4.alloc (.cells #[.int .i64 y1, .string y2, .string y3, .string ⟨#[]⟩] 32 (0, 0))).cell? ⟨w4.heap.size, 0, none⟩ = some (.int .i64 y1) := (cell_of_row _ _ 0 _ _ _ HXN.out).trans rfl
        have c1 : (w4.alloc (.cells #[.int .i64 y1, .string y2, .string y3, .string ⟨#[]⟩] 32 (0, 0))).cell? ⟨w4.heap.size, 1, none⟩ = some (.string y2) := (cell_of_row _ _ 1 _ _ _ HXN.out).trans rfl
        have c2 : (w4.alloc (.cells #[.int .i64 y1, .string y2, .string y3, .string ⟨#[]⟩] 32 (0, 0))).cell? ⟨w4.heap.size, 2, none⟩ = some (.string y3) := (cell_of_row _ _ 2 _ _ _ HXN.out).trans rfl
        have c3 : (w4.alloc (.cells #[.int .i64 y1, .string y2, .string y3, .string ⟨#[]⟩] 32 (0, 0))).cell? ⟨w4.heap.size, 3, none⟩ = some (.string ⟨#[]⟩) := (cell_of_row _ _ 3 _ _ _ HXN.out).trans rfl
        have HB5 := Lib.hid ((HB4.out.alloc HB4.out.size (.cells #[.int .i64 y1, .string y2, .string y3, .string ⟨#[]⟩] 32 (0, 0))).alloc (HB4.out.alloc HB4.out.size (.cells #[.int .i64 y1, .string y2, .string y3, .string ⟨#[]⟩] 32 (0, 0))).size (.cells #[.int .i64 y1, .string y2, .string y3, .string ⟨#[]⟩] 32 (0, 0)))
        have HO5 := Lib.hid ((HO4.out.alloc (.cells #[.int .i64 y1, .string y2, .string y3, .string ⟨#[]⟩] 32 (0, 0))).alloc (.cells #[.int .i64 y1, .string y2, .string y3, .string ⟨#[]⟩] 32 (0, 0)))
        go_wp2_with (at_builtin; refine wpList_appX rfl (.tmp 76) (.tmp 78) 22 32 _ 56 rfl Try.underlying22 info_fcD rfl (by omega) (by omega) fcC_len fcC_one w.heap.size w HB5.out (by have := HB4.out.size; simp at this ⊢ <;> omega) (.slice av nv cv) acc rfl HO5.out (w4.heap.size + 1) 1 (y1, y2, y3, ⟨#[]⟩) #[.int .i64 y1, .string y2, .string y3, .string ⟨#[]⟩] 32 (0, 0) rfl (blk_newN (by simp)) rfl (by have := HLN.out; have := HM.out; omega) ?_)
        intro v9 w9 HO9 HB9 _ _
        have hv9 := HO9.out.one
        clear c0 c1 c2 c3 HXN HB5 HO5 HO4 HB4
        go_wp2_with fail
        go_roundw
        case rel => exact ⟨i, k + 1, acc ++ [clr (y1, y2, y3, y4)], rfl, by go_num, by omega, by omega, HO9.out, by rw [List.length_append]; have := HLN.out; simp; omega, by rw [← HEQ.out, HBE.out, List.append_assoc]; rfl, HB9.out⟩
        case measure => simp [intOf] <;> omega
      · skip
        have hd2 : decide ((k : Int) < (n2 : Int)) = false := decide_eq_false (by omega)
        have hd2n : decide (k < n2) = false := decide_eq_false (by omega)
        have HFIN := Lib.hid (show acc = bothL X Y by rw [← HEQ.out, HDX.out, List.drop_eq_nil_of_le (show Y.length ≤ k by have := L2.out; omega), both_none, List.append_nil])
        go_wp2_with fail
        go_ret
        exact ⟨_, rfl, HFIN.out ▸ HO.out, HB.out⟩
end Go.Proofs.Ytpjpegmjcgkonaa
