/- P7.1: a disk that no call made has nothing, and takes nothing. Condition: texts of at most 2^47 - 4096 bytes. -/
import Derived.Test.YtiagbadnmkeokaaDNk
namespace Go.Proofs.Ytiagbadnmkeokaa
open Go.RowKit Vi

theorem dkO_zero : (Obj.cells #[.slice none 0 0, .slice none 0 0, .bool false, .bool false, .int .i64 0, .int .i64 0] 56 (0, 0)) = dkO none 0 0 none 0 0 false false 0 0 := rfl
set_option linter.unusedSimpArgs false in
set_option maxRecDepth 100000 in
set_option maxHeartbeats 4000000 in
theorem LDiskNobody (a : Ac) (b : Bool) (w : World) (ok : AcOk w a) :
    Calls Try.prog 6 #[acV a, .bool b] w fun e w' => e = .returned (.bool true) ∧ Below w.heap.size w w' := by
  obtain ⟨tx, htx⟩ : ∃ tx, tx = acT a := ⟨_, rfl⟩
  have HTX := Lib.hid (fun W : World => atext_any a W ok.wt)
  rw [← htx] at HTX
  clear htx
  have HB0 := Lib.hid (((Below.refl w.heap.size w).alloc (Nat.le_refl _) (.cells (acC a).toArray 39 (0, 0))).alloc (by simp) (.cells (acC a).toArray 39 (0, 0)))
  have HX0 := Lib.hid (blk_alloc (blk_new w (.cells (acC a).toArray 39 (0, 0))) (.cells (acC a).toArray 39 (0, 0)))
  have HY0 := Lib.hid (show ((w.alloc (.cells (acC a).toArray 39 (0, 0))).alloc (.cells (acC a).toArray 39 (0, 0))).heap[w.heap.size + 1]? = some (.cells (acC a).toArray 39 (0, 0)) by have q := blk_new (w.alloc (.cells (acC a).toArray 39 (0, 0))) (.cells (acC a).toArray 39 (0, 0)); simpa using q)
  have HFW := Lib.hid (few7_any (some ⟨w.heap.size + 1, 0, none⟩) 1 1 [a] _ (rd_blkD (f := acC) (s := 6) (fun _ => rfl) [a] HY0.out (by simp [flat, acC])) (by decide))
  clear HY0 ok
  obtain ⟨kd, at0, nn, t, rw1, ka, kan, kac, kas⟩ := a
  have HX0 : Hid (((w.alloc (.cells #[.int .i64 kd, .int .i64 at0, .int .i64 nn, .string t, .bool rw1, .slice ka kan kac] 39 (0, 0))).alloc (.cells #[.int .i64 kd, .int .i64 at0, .int .i64 nn, .string t, .bool rw1, .slice ka kan kac] 39 (0, 0))).heap[w.heap.size]? = some (.cells #[.int .i64 kd, .int .i64 at0, .int .i64 nn, .string t, .bool rw1, .slice ka kan kac] 39 (0, 0))) := Lib.hid HX0.out
  have HB0 : Hid (Below w.heap.size w ((w.alloc (.cells #[.int .i64 kd, .int .i64 at0, .int .i64 nn, .string t, .bool rw1, .slice ka kan kac] 39 (0, 0))).alloc (.cells #[.int .i64 kd, .int .i64 at0, .int .i64 nn, .string t, .bool rw1, .slice ka kan kac] 39 (0, 0)))) := Lib.hid HB0.out
  have HFW : Hid (Calls Try.prog 8 #[.slice (some ⟨w.heap.size + 1, 0, none⟩) 1 1] ((w.alloc (.cells #[.int .i64 kd, .int .i64 at0, .int .i64 nn, .string t, .bool rw1, .slice ka kan kac] 39 (0, 0))).alloc (.cells #[.int .i64 kd, .int .i64 at0, .int .i64 nn, .string t, .bool rw1, .slice ka kan kac] 39 (0, 0))) (FewP [⟨kd, at0, nn, t, rw1, ka, kan, kac, kas⟩] ((w.alloc (.cells #[.int .i64 kd, .int .i64 at0, .int .i64 nn, .string t, .bool rw1, .slice ka kan kac] 39 (0, 0))).alloc (.cells #[.int .i64 kd, .int .i64 at0, .int .i64 nn, .string t, .bool rw1, .slice ka kan kac] 39 (0, 0))))) := Lib.hid HFW.out

  go_enter Try.func6, Try.ntmps6
  go_wp2_with fail
  refine HFW.out.mono ?_
  rintro e w1 ⟨b0, rfl, _, hb1⟩
  have HB1 := Lib.hid (HB0.out.trans (hb1.mono HB0.out.size))
  have HX1 := Lib.hid (blk_below HX0.out hb1)
  clear hb1 HFW HB0 HX0
  cases b0 with
  | false =>
    go_wp2_with fail
    refine (awake7_any _).mono ?_
    rintro e wz ⟨rfl, hbz⟩
    have HBZ := Lib.hid (HB1.out.trans (hbz.mono HB1.out.size))
    clear hbz
    go_wp2_with fail
    go_ret
    exact ⟨rfl, HBZ.out⟩
  | true =>
    cases b with
    | false =>
      have HN2 : Hid (NoDk none w1) := Lib.hid (.inl rfl)
      have HB2 := HB1
      have HX2 := HX1
      obtain ⟨w2, hw2⟩ : ∃ w2, w2 = w1 := ⟨_, rfl⟩
      rw [← hw2] at HN2 HB2 HX2
      go_upto_region 6 with (fail)
      rw [← hw2]
      clear hw2 HB1 HX1
      have x1 : w2.cell? ⟨w.heap.size, 1, none⟩ = some (.int .i64 at0) := (cell_of_row _ _ 1 _ _ _ HX2.out).trans rfl
      go_wp2_with fail
      refine (nread HN2.out at0).mono ?_
      rintro e w3 ⟨rfl, hb3⟩
      have HB3 := Lib.hid (HB2.out.trans (hb3.mono HB2.out.size))
      have HX3 := Lib.hid (blk_below HX2.out hb3)
      have HN3 := Lib.hid (HN2.out.kept hb3)
      clear hb3 x1 HB2 HX2 HN2
      go_wp2_with fail
      refine (nseize HN3.out).mono ?_
      rintro e w4 ⟨rfl, hb4⟩
      have HB4 := Lib.hid (HB3.out.trans (hb4.mono HB3.out.size))
      have HX4 := Lib.hid (blk_below HX3.out hb4)
      have HN4 := Lib.hid (HN3.out.kept hb4)
      clear hb4 HB3 HX3 HN3
      have HBa := Lib.hid ((Below.refl w4.heap.size w4).alloc (Nat.le_refl _) (.cells #[.slice none 0 0, .slice none 0 0] 32 (0, 0)))
      have HNa := Lib.hid (blk_new w4 (.cells #[.slice none 0 0, .slice none 0 0] 32 (0, 0)))
      go_wp2_with (refine wpList_store_rowY rfl 32 (.tmp 8) (.tmp 25) rfl w4.heap.size #[.slice none 0 0, .slice none 0 0] rfl rfl 32 _ HNa.out (by kernel_rfl) rfl (by simp [Value.oneCell']) w4.heap.size w4 HBa.out (Nat.le_refl _) ?_)
      intro w5 hbk hoth hbel _
      have HI5 := Lib.hid hbk.out
      have HB5 := Lib.hid (HB4.out.trans (hbel.out.mono HB4.out.size))
      have HX5 := Lib.hid (blk_below HX4.out hbel.out)
      have HN5 := Lib.hid (HN4.out.kept hbel.out)
      clear hbk hoth hbel HBa HNa HB4 HX4 HN4
      generalize w4.heap.size = y at *
      go_upto_region 8 with (fail)
      have HB5 := Lib.hid HB5.out.drew
      have HN5 := Lib.hid (HN5.out.kept (Below.refl _ _).drew)
      have HX5 := Lib.hid (show w5.drew.heap[w.heap.size]? = some (.cells #[.int .i64 kd, .int .i64 at0, .int .i64 nn, .string t, .bool rw1, .slice ka kan kac] 39 (0, 0)) from HX5.out)
      have HI5 := Lib.hid (show w5.drew.heap[y]? = some (.cells #[.slice none 0 0, .slice none 0 0] 32 (0, 0)) from HI5.out)
      refine wp_region_L_drew (S := fun _ W => W.heap[w.heap.size]? = some (.cells #[.int .i64 kd, .int .i64 at0, .int .i64 nn, .string t, .bool rw1, .slice ka kan kac] 39 (0, 0))) (by kernel_rfl) HX5.out (fun hS hC => ?_)
      generalize w5.drew = v0 at *
      refine wpAnyL_take (i := 0) (oi := { dst := some 26, op := .move (.tmp 6), type := _, pos := _, after := _, guard := none }) (v := ?_) rfl (by kernel_rfl) (by kernel_rfl) (by kernel_rfl) (fun _ _ _ h => h) (fun _ _ => Iff.rfl) hC (Or.inl ⟨by rfl, ?_⟩) hS (fun hC hS => ?_)
      rotate_left
      · intro W9 hSw; skip; go_simp; try (with_reducible rfl)
      try simp only [Act.put, List.setIfInBounds_toArray, List.set_cons_zero, List.set_cons_succ]
      refine wpAnyL_take (i := 1) (oi := { dst := some 27, op := .binOp .neq 9 (.tmp 26) (.const (.string { data := #[] })) 9, type := _, pos := _, after := _, guard := none }) (v := ?_) rfl (by kernel_rfl) (by kernel_rfl) (by kernel_rfl) (fun _ _ _ h => h) (fun _ _ => Iff.rfl) hC (Or.inl ⟨by rfl, ?_⟩) hS (fun hC hS => ?_)
      rotate_left
      · intro W9 hSw; skip; go_simp; try (with_reducible rfl)
      try simp only [Act.put, List.setIfInBounds_toArray, List.set_cons_zero, List.set_cons_succ]
      refine wpAnyL_take (i := 2) (oi := { dst := some 28, op := .move (.tmp 27), type := _, pos := _, after := _, guard := none }) (v := ?_) rfl (by kernel_rfl) (by kernel_rfl) (by kernel_rfl) (fun _ _ _ h => h) (fun _ _ => Iff.rfl) hC (Or.inl ⟨by rfl, ?_⟩) hS (fun hC hS => ?_)
      rotate_left
      · intro W9 hSw; skip; go_simp; try (with_reducible rfl)
      try simp only [Act.put, List.setIfInBounds_toArray, List.set_cons_zero, List.set_cons_succ]
      refine wpAnyL_take (i := 3) (oi := { dst := some 29, op := .move (.tmp 7), type := _, pos := _, after := _, guard := some (2, false) }) (v := ?_) rfl (by kernel_rfl) (by kernel_rfl) (by kernel_rfl) (fun _ _ _ h => h) (fun _ _ => Iff.rfl) hC (Or.inl ⟨by rfl, ?_⟩) hS (fun hC hS => ?_)
      rotate_left
      · intro W9 hSw; skip; go_simp; try (with_reducible rfl)
      try simp only [Act.put, List.setIfInBounds_toArray, List.set_cons_zero, List.set_cons_succ]
      refine wpAnyL_take (i := 4) (oi := { dst := some 30, op := .binOp .neq 26 (.tmp 29) (.const (.int Go.IntKind.i64 1)) 26, type := _, pos := _, after := _, guard := some (2, false) }) (v := ?_) rfl (by kernel_rfl) (by kernel_rfl) (by kernel_rfl) (fun _ _ _ h => h) (fun _ _ => Iff.rfl) hC (Or.inl ⟨by rfl, ?_⟩) hS (fun hC hS => ?_)
      rotate_left
      · intro W9 hSw; skip; go_simp; try (with_reducible rfl)
      try simp only [Act.put, List.setIfInBounds_toArray, List.set_cons_zero, List.set_cons_succ]
      refine wpAnyL_take (i := 5) (oi := { dst := some 31, op := .pick (.tmp 28) (.const (.bool true)) (.tmp 30), type := _, pos := _, after := _, guard := none }) (v := ?_) rfl (by kernel_rfl) (by kernel_rfl) (by kernel_rfl) (fun _ _ _ h => h) (fun _ _ => Iff.rfl) hC (Or.inl ⟨by rfl, ?_⟩) hS (fun hC hS => ?_)
      rotate_left
      · intro W9 hSw; skip; go_simp; try (with_reducible rfl)
      try simp only [Act.put, List.setIfInBounds_toArray, List.set_cons_zero, List.set_cons_succ]
      refine wpAnyL_take (i := 6) (oi := { dst := some 32, op := .move (.tmp 31), type := _, pos := _, after := _, guard := none }) (v := ?_) rfl (by kernel_rfl) (by kernel_rfl) (by kernel_rfl) (fun _ _ _ h => h) (fun _ _ => Iff.rfl) hC (Or.inl ⟨by rfl, ?_⟩) hS (fun hC hS => ?_)
      rotate_left
      · intro W9 hSw; skip; go_simp; try (with_reducible rfl)
      try simp only [Act.put, List.setIfInBounds_toArray, List.set_cons_zero, List.set_cons_succ]
      refine wpAnyL_take (i := 7) (oi := { dst := some 33, op := .move (.tmp 5), type := _, pos := _, after := _, guard := some (6, false) }) (v := ?_) rfl (by kernel_rfl) (by kernel_rfl) (by kernel_rfl) (fun _ _ _ h => h) (fun _ _ => Iff.rfl) hC (Or.inl ⟨by rfl, ?_⟩) hS (fun hC hS => ?_)
      rotate_left
      · intro W9 hSw; skip; go_simp; try (with_reducible rfl)
      try simp only [Act.put, List.setIfInBounds_toArray, List.set_cons_zero, List.set_cons_succ]
      refine wpAnyL_take (i := 8) (oi := { dst := some 34, op := .fieldAddr 39 (.tmp 2) 1, type := _, pos := _, after := _, guard := some (6, false) }) (v := ?_) rfl (by kernel_rfl) (by kernel_rfl) (by kernel_rfl) (fun _ _ _ h => h) (fun _ _ => Iff.rfl) hC (Or.inl ⟨by rfl, ?_⟩) hS (fun hC hS => ?_)
      rotate_left
      · intro W9 hSw; skip; go_simp; try (with_reducible rfl)
      try simp only [Act.put, List.setIfInBounds_toArray, List.set_cons_zero, List.set_cons_succ]
      refine wpAnyL_take (i := 9) (oi := { dst := some 35, op := .load 3 (.tmp 34), type := _, pos := _, after := _, guard := some (6, false) }) (v := ?_) rfl (by kernel_rfl) (by kernel_rfl) (by kernel_rfl) (fun _ _ _ h => h) (fun _ _ => Iff.rfl) hC (Or.inl ⟨by rfl, ?_⟩) hS (fun hC hS => ?_)
      rotate_left
      · intro W9 hSw; have q1 := (cell_of_row _ _ 1 _ _ _ hSw.choose_spec.2.2).trans rfl; go_simp; try (with_reducible rfl)
      try simp only [Act.put, List.setIfInBounds_toArray, List.set_cons_zero, List.set_cons_succ]
      refine wpAnyL_take (i := 10) (oi := { dst := some 36, op := .load 39 (.tmp 2), type := _, pos := _, after := _, guard := some (6, false) }) (v := ?_) rfl (by kernel_rfl) (by kernel_rfl) (by kernel_rfl) (fun _ _ _ h => h) (fun _ _ => Iff.rfl) hC (Or.inl ⟨by rfl, ?_⟩) hS (fun hC hS => ?_)
      rotate_left
      · intro W9 hSw; have q0 := (cell_of_row _ _ 0 _ _ _ hSw.choose_spec.2.2).trans rfl; have q1 := (cell_of_row _ _ 1 _ _ _ hSw.choose_spec.2.2).trans rfl; have q2 := (cell_of_row _ _ 2 _ _ _ hSw.choose_spec.2.2).trans rfl; have q3 := (cell_of_row _ _ 3 _ _ _ hSw.choose_spec.2.2).trans rfl; have q4 := (cell_of_row _ _ 4 _ _ _ hSw.choose_spec.2.2).trans rfl; have q5 := (cell_of_row _ _ 5 _ _ _ hSw.choose_spec.2.2).trans rfl; go_simp; try (with_reducible rfl)
      try simp only [Act.put, List.setIfInBounds_toArray, List.set_cons_zero, List.set_cons_succ]
      refine wpAnyL_ready (rs := [11]) (by kernel_rfl) (by simp) hC ?_
      refine AllReadyL.cons (o := { dst := some 37, op := .call { callee := .value (.func 21), args := #[.tmp 36], argTypes := #[39] }, type := _, pos := _, after := _, guard := some (6, false) }) rfl (fun K9 hK => ?_) ?_
      · skip
        go_simp
        refine (HTX.out _).mono ?_
        rintro e v1 ⟨rfl, hb9⟩
        have HBv1 := Lib.hid (HB5.out.trans (hb9.mono HB5.out.size))
        have HXv1 := Lib.hid (blk_below HX5.out hb9)
        have HIv1 := Lib.hid (blk_below HI5.out hb9)
        have HNv1 := Lib.hid (HN5.out.kept hb9)
        clear hb9 HB5 HX5 HI5 HN5
        refine hK _ _ HXv1.out (fun hC => ?_)
        clear hK K9
        try simp only [Act.put, List.setIfInBounds_toArray, List.set_cons_zero, List.set_cons_succ]
        refine wpAnyL_ready (rs := [12]) (by kernel_rfl) (by simp) hC ?_
        refine AllReadyL.cons (o := { dst := some 38, op := .call { callee := .value (.func 20), args := #[.tmp 33, .tmp 35, .tmp 37], argTypes := #[25, 3, 9] }, type := _, pos := _, after := _, guard := some (6, false) }) rfl (fun K9 hK => ?_) ?_
        · skip
          go_simp
          refine (nwrite HNv1.out at0 tx).mono ?_
          rintro e v2 ⟨rfl, hb9⟩
          have HBv2 := Lib.hid (HBv1.out.trans (hb9.mono HBv1.out.size))
          have HXv2 := Lib.hid (blk_below HXv1.out hb9)
          have HIv2 := Lib.hid (blk_below HIv1.out hb9)
          have HNv2 := Lib.hid (HNv1.out.kept hb9)
          clear hb9 HBv1 HXv1 HIv1 HNv1
          refine hK _ _ HXv2.out (fun hC => ?_)
          clear hK K9
          try simp only [Act.put, List.setIfInBounds_toArray, List.set_cons_zero, List.set_cons_succ]
          refine wpAnyL_take (i := 13) (oi := { dst := some 39, op := .binOp .neq 26 (.tmp 38) (.const (.int Go.IntKind.i64 1)) 26, type := _, pos := _, after := _, guard := some (6, false) }) (v := ?_) rfl (by kernel_rfl) (by kernel_rfl) (by kernel_rfl) (fun _ _ _ h => h) (fun _ _ => Iff.rfl) hC (Or.inl ⟨by rfl, ?_⟩) HXv2.out (fun hC hS => ?_)
          rotate_left
          · intro W9 hSw; skip; go_simp; try (with_reducible rfl)
          try simp only [Act.put, List.setIfInBounds_toArray, List.set_cons_zero, List.set_cons_succ]
          refine wpAnyL_take (i := 14) (oi := { dst := some 40, op := .pick (.tmp 32) (.const (.bool true)) (.tmp 39), type := _, pos := _, after := _, guard := none }) (v := ?_) rfl (by kernel_rfl) (by kernel_rfl) (by kernel_rfl) (fun _ _ _ h => h) (fun _ _ => Iff.rfl) hC (Or.inl ⟨by rfl, ?_⟩) HXv2.out (fun hC hS => ?_)
          rotate_left
          · intro W9 hSw; skip; go_simp; try (with_reducible rfl)
          try simp only [Act.put, List.setIfInBounds_toArray, List.set_cons_zero, List.set_cons_succ]
          refine wpAnyL_take (i := 15) (oi := { dst := some 41, op := .move (.tmp 40), type := _, pos := _, after := _, guard := none }) (v := ?_) rfl (by kernel_rfl) (by kernel_rfl) (by kernel_rfl) (fun _ _ _ h => h) (fun _ _ => Iff.rfl) hC (Or.inl ⟨by rfl, ?_⟩) HXv2.out (fun hC hS => ?_)
          rotate_left
          · intro W9 hSw; skip; go_simp; try (with_reducible rfl)
          try simp only [Act.put, List.setIfInBounds_toArray, List.set_cons_zero, List.set_cons_succ]
          refine wpAnyL_take (i := 16) (oi := { dst := some 42, op := .move (.tmp 5), type := _, pos := _, after := _, guard := some (15, false) }) (v := ?_) rfl (by kernel_rfl) (by kernel_rfl) (by kernel_rfl) (fun _ _ _ h => h) (fun _ _ => Iff.rfl) hC (Or.inl ⟨by rfl, ?_⟩) HXv2.out (fun hC hS => ?_)
          rotate_left
          · intro W9 hSw; skip; go_simp; try (with_reducible rfl)
          try simp only [Act.put, List.setIfInBounds_toArray, List.set_cons_zero, List.set_cons_succ]
          refine wpAnyL_ready (rs := [17]) (by kernel_rfl) (by simp) hC ?_
          refine AllReadyL.cons (o := { dst := some 43, op := .call { callee := .value (.func 19), args := #[.tmp 42], argTypes := #[25] }, type := _, pos := _, after := _, guard := some (15, false) }) rfl (fun K9 hK => ?_) ?_
          · skip
            go_simp
            refine (nflush HNv2.out).mono ?_
            rintro e v3 ⟨rfl, hb9⟩
            have HBv3 := Lib.hid (HBv2.out.trans (hb9.mono HBv2.out.size))
            have HXv3 := Lib.hid (blk_below HXv2.out hb9)
            have HIv3 := Lib.hid (blk_below HIv2.out hb9)
            have HNv3 := Lib.hid (HNv2.out.kept hb9)
            clear hb9 HBv2 HXv2 HIv2 HNv2
            refine hK _ _ HXv3.out (fun hC => ?_)
            clear hK K9
            try simp only [Act.put, List.setIfInBounds_toArray, List.set_cons_zero, List.set_cons_succ]
            refine wpAnyL_take (i := 18) (oi := { dst := some 44, op := .binOp .neq 26 (.tmp 43) (.const (.int Go.IntKind.i64 1)) 26, type := _, pos := _, after := _, guard := some (15, false) }) (v := ?_) rfl (by kernel_rfl) (by kernel_rfl) (by kernel_rfl) (fun _ _ _ h => h) (fun _ _ => Iff.rfl) hC (Or.inl ⟨by rfl, ?_⟩) HXv3.out (fun hC hS => ?_)
            rotate_left
            · intro W9 hSw; skip; go_simp; try (with_reducible rfl)
            try simp only [Act.put, List.setIfInBounds_toArray, List.set_cons_zero, List.set_cons_succ]
            refine wpAnyL_take (i := 19) (oi := { dst := some 45, op := .pick (.tmp 41) (.const (.bool true)) (.tmp 44), type := _, pos := _, after := _, guard := none }) (v := ?_) rfl (by kernel_rfl) (by kernel_rfl) (by kernel_rfl) (fun _ _ _ h => h) (fun _ _ => Iff.rfl) hC (Or.inl ⟨by rfl, ?_⟩) HXv3.out (fun hC hS => ?_)
            rotate_left
            · intro W9 hSw; skip; go_simp; try (with_reducible rfl)
            try simp only [Act.put, List.setIfInBounds_toArray, List.set_cons_zero, List.set_cons_succ]
            refine wpAnyL_take (i := 20) (oi := { dst := some 46, op := .move (.tmp 45), type := _, pos := _, after := _, guard := none }) (v := ?_) rfl (by kernel_rfl) (by kernel_rfl) (by kernel_rfl) (fun _ _ _ h => h) (fun _ _ => Iff.rfl) hC (Or.inl ⟨by rfl, ?_⟩) HXv3.out (fun hC hS => ?_)
            rotate_left
            · intro W9 hSw; skip; go_simp; try (with_reducible rfl)
            try simp only [Act.put, List.setIfInBounds_toArray, List.set_cons_zero, List.set_cons_succ]
            refine wpAnyL_take (i := 21) (oi := { dst := some 47, op := .move (.tmp 5), type := _, pos := _, after := _, guard := some (20, false) }) (v := ?_) rfl (by kernel_rfl) (by kernel_rfl) (by kernel_rfl) (fun _ _ _ h => h) (fun _ _ => Iff.rfl) hC (Or.inl ⟨by rfl, ?_⟩) HXv3.out (fun hC hS => ?_)
            rotate_left
            · intro W9 hSw; skip; go_simp; try (with_reducible rfl)
            try simp only [Act.put, List.setIfInBounds_toArray, List.set_cons_zero, List.set_cons_succ]
            refine wpAnyL_take (i := 22) (oi := { dst := some 48, op := .fieldAddr 39 (.tmp 2) 2, type := _, pos := _, after := _, guard := some (20, false) }) (v := ?_) rfl (by kernel_rfl) (by kernel_rfl) (by kernel_rfl) (fun _ _ _ h => h) (fun _ _ => Iff.rfl) hC (Or.inl ⟨by rfl, ?_⟩) HXv3.out (fun hC hS => ?_)
            rotate_left
            · intro W9 hSw; skip; go_simp; try (with_reducible rfl)
            try simp only [Act.put, List.setIfInBounds_toArray, List.set_cons_zero, List.set_cons_succ]
            refine wpAnyL_take (i := 23) (oi := { dst := some 49, op := .load 3 (.tmp 48), type := _, pos := _, after := _, guard := some (20, false) }) (v := ?_) rfl (by kernel_rfl) (by kernel_rfl) (by kernel_rfl) (fun _ _ _ h => h) (fun _ _ => Iff.rfl) hC (Or.inl ⟨by rfl, ?_⟩) HXv3.out (fun hC hS => ?_)
            rotate_left
            · intro W9 hSw; have q2 := (cell_of_row _ _ 2 _ _ _ hSw.choose_spec.2.2).trans rfl; go_simp; try (with_reducible rfl)
            try simp only [Act.put, List.setIfInBounds_toArray, List.set_cons_zero, List.set_cons_succ]
            refine wpAnyL_ready (rs := [24]) (by kernel_rfl) (by simp) hC ?_
            refine AllReadyL.cons (o := { dst := some 50, op := .call { callee := .value (.func 25), args := #[.tmp 47, .tmp 49], argTypes := #[25, 3] }, type := _, pos := _, after := _, guard := some (20, false) }) rfl (fun K9 hK => ?_) ?_
            · skip
              go_simp
              refine (narm HNv3.out nn).mono ?_
              rintro e v4 ⟨rfl, hb9⟩
              have HBv4 := Lib.hid (HBv3.out.trans (hb9.mono HBv3.out.size))
              have HXv4 := Lib.hid (blk_below HXv3.out hb9)
              have HIv4 := Lib.hid (blk_below HIv3.out hb9)
              have HNv4 := Lib.hid (HNv3.out.kept hb9)
              clear hb9 HBv3 HXv3 HIv3 HNv3
              refine hK _ _ HXv4.out (fun hC => ?_)
              clear hK K9
              try simp only [Act.put, List.setIfInBounds_toArray, List.set_cons_zero, List.set_cons_succ]
              refine wpAnyL_take (i := 25) (oi := { dst := some 51, op := .binOp .neq 26 (.tmp 50) (.const (.int Go.IntKind.i64 1)) 26, type := _, pos := _, after := _, guard := some (20, false) }) (v := ?_) rfl (by kernel_rfl) (by kernel_rfl) (by kernel_rfl) (fun _ _ _ h => h) (fun _ _ => Iff.rfl) hC (Or.inl ⟨by rfl, ?_⟩) HXv4.out (fun hC hS => ?_)
              rotate_left
              · intro W9 hSw; skip; go_simp; try (with_reducible rfl)
              try simp only [Act.put, List.setIfInBounds_toArray, List.set_cons_zero, List.set_cons_succ]
              refine wpAnyL_take (i := 26) (oi := { dst := some 52, op := .pick (.tmp 46) (.const (.bool true)) (.tmp 51), type := _, pos := _, after := _, guard := none }) (v := ?_) rfl (by kernel_rfl) (by kernel_rfl) (by kernel_rfl) (fun _ _ _ h => h) (fun _ _ => Iff.rfl) hC (Or.inl ⟨by rfl, ?_⟩) HXv4.out (fun hC hS => ?_)
              rotate_left
              · intro W9 hSw; skip; go_simp; try (with_reducible rfl)
              try simp only [Act.put, List.setIfInBounds_toArray, List.set_cons_zero, List.set_cons_succ]
              refine wpAnyL_take (i := 27) (oi := { dst := some 53, op := .move (.tmp 52), type := _, pos := _, after := _, guard := none }) (v := ?_) rfl (by kernel_rfl) (by kernel_rfl) (by kernel_rfl) (fun _ _ _ h => h) (fun _ _ => Iff.rfl) hC (Or.inl ⟨by rfl, ?_⟩) HXv4.out (fun hC hS => ?_)
              rotate_left
              · intro W9 hSw; skip; go_simp; try (with_reducible rfl)
              try simp only [Act.put, List.setIfInBounds_toArray, List.set_cons_zero, List.set_cons_succ]
              refine wpAnyL_take (i := 28) (oi := { dst := some 54, op := .move (.tmp 5), type := _, pos := _, after := _, guard := some (27, false) }) (v := ?_) rfl (by kernel_rfl) (by kernel_rfl) (by kernel_rfl) (fun _ _ _ h => h) (fun _ _ => Iff.rfl) hC (Or.inl ⟨by rfl, ?_⟩) HXv4.out (fun hC hS => ?_)
              rotate_left
              · intro W9 hSw; skip; go_simp; try (with_reducible rfl)
              try simp only [Act.put, List.setIfInBounds_toArray, List.set_cons_zero, List.set_cons_succ]
              refine wpAnyL_take (i := 29) (oi := { dst := some 55, op := .fieldAddr 39 (.tmp 2) 5, type := _, pos := _, after := _, guard := some (27, false) }) (v := ?_) rfl (by kernel_rfl) (by kernel_rfl) (by kernel_rfl) (fun _ _ _ h => h) (fun _ _ => Iff.rfl) hC (Or.inl ⟨by rfl, ?_⟩) HXv4.out (fun hC hS => ?_)
              rotate_left
              · intro W9 hSw; skip; go_simp; try (with_reducible rfl)
              try simp only [Act.put, List.setIfInBounds_toArray, List.set_cons_zero, List.set_cons_succ]
              refine wpAnyL_take (i := 30) (oi := { dst := some 56, op := .load 37 (.tmp 55), type := _, pos := _, after := _, guard := some (27, false) }) (v := ?_) rfl (by kernel_rfl) (by kernel_rfl) (by kernel_rfl) (fun _ _ _ h => h) (fun _ _ => Iff.rfl) hC (Or.inl ⟨by rfl, ?_⟩) HXv4.out (fun hC hS => ?_)
              rotate_left
              · intro W9 hSw; have q5 := (cell_of_row _ _ 5 _ _ _ hSw.choose_spec.2.2).trans rfl; go_simp; try (with_reducible rfl)
              try simp only [Act.put, List.setIfInBounds_toArray, List.set_cons_zero, List.set_cons_succ]
              refine wpAnyL_ready (rs := [31]) (by kernel_rfl) (by simp) hC ?_
              refine AllReadyL.cons (o := { dst := some 57, op := .call { callee := .value (.func 22), args := #[.tmp 54, .tmp 56], argTypes := #[25, 37] }, type := _, pos := _, after := _, guard := some (27, false) }) rfl (fun K9 hK => ?_) ?_
              · skip
                go_simp
                refine (ncrash HNv4.out ka kan kac).mono ?_
                rintro e v5 ⟨rfl, hb9⟩
                have HBv5 := Lib.hid (HBv4.out.trans (hb9.mono HBv4.out.size))
                have HXv5 := Lib.hid (blk_below HXv4.out hb9)
                have HIv5 := Lib.hid (blk_below HIv4.out hb9)
                have HNv5 := Lib.hid (HNv4.out.kept hb9)
                clear hb9 HBv4 HXv4 HIv4 HNv4
                refine hK _ _ HXv5.out (fun hC => ?_)
                clear hK K9
                try simp only [Act.put, List.setIfInBounds_toArray, List.set_cons_zero, List.set_cons_succ]
                refine wpAnyL_take (i := 32) (oi := { dst := some 58, op := .binOp .neq 26 (.tmp 57) (.const (.int Go.IntKind.i64 1)) 26, type := _, pos := _, after := _, guard := some (27, false) }) (v := ?_) rfl (by kernel_rfl) (by kernel_rfl) (by kernel_rfl) (fun _ _ _ h => h) (fun _ _ => Iff.rfl) hC (Or.inl ⟨by rfl, ?_⟩) HXv5.out (fun hC hS => ?_)
                rotate_left
                · intro W9 hSw; skip; go_simp; try (with_reducible rfl)
                try simp only [Act.put, List.setIfInBounds_toArray, List.set_cons_zero, List.set_cons_succ]
                refine wpAnyL_take (i := 33) (oi := { dst := some 59, op := .pick (.tmp 53) (.const (.bool true)) (.tmp 58), type := _, pos := _, after := _, guard := none }) (v := ?_) rfl (by kernel_rfl) (by kernel_rfl) (by kernel_rfl) (fun _ _ _ h => h) (fun _ _ => Iff.rfl) hC (Or.inl ⟨by rfl, ?_⟩) HXv5.out (fun hC hS => ?_)
                rotate_left
                · intro W9 hSw; skip; go_simp; try (with_reducible rfl)
                try simp only [Act.put, List.setIfInBounds_toArray, List.set_cons_zero, List.set_cons_succ]
                refine wpAnyL_take (i := 34) (oi := { dst := some 60, op := .move (.tmp 59), type := _, pos := _, after := _, guard := none }) (v := ?_) rfl (by kernel_rfl) (by kernel_rfl) (by kernel_rfl) (fun _ _ _ h => h) (fun _ _ => Iff.rfl) hC (Or.inl ⟨by rfl, ?_⟩) HXv5.out (fun hC hS => ?_)
                rotate_left
                · intro W9 hSw; skip; go_simp; try (with_reducible rfl)
                try simp only [Act.put, List.setIfInBounds_toArray, List.set_cons_zero, List.set_cons_succ]
                refine wpAnyL_take (i := 35) (oi := { dst := some 61, op := .move (.tmp 5), type := _, pos := _, after := _, guard := some (34, false) }) (v := ?_) rfl (by kernel_rfl) (by kernel_rfl) (by kernel_rfl) (fun _ _ _ h => h) (fun _ _ => Iff.rfl) hC (Or.inl ⟨by rfl, ?_⟩) HXv5.out (fun hC hS => ?_)
                rotate_left
                · intro W9 hSw; skip; go_simp; try (with_reducible rfl)
                try simp only [Act.put, List.setIfInBounds_toArray, List.set_cons_zero, List.set_cons_succ]
                refine wpAnyL_ready (rs := [36]) (by kernel_rfl) (by simp) hC ?_
                refine AllReadyL.cons (o := { dst := some 62, op := .call { callee := .value (.func 18), args := #[.tmp 61], argTypes := #[25] }, type := _, pos := _, after := _, guard := some (34, false) }) rfl (fun K9 hK => ?_) ?_
                · skip
                  go_simp
                  refine (nboot HNv5.out).mono ?_
                  rintro e v6 ⟨rfl, hb9⟩
                  have HBv6 := Lib.hid (HBv5.out.trans (hb9.mono HBv5.out.size))
                  have HXv6 := Lib.hid (blk_below HXv5.out hb9)
                  have HIv6 := Lib.hid (blk_below HIv5.out hb9)
                  have HNv6 := Lib.hid (HNv5.out.kept hb9)
                  clear hb9 HBv5 HXv5 HIv5 HNv5
                  refine hK _ _ HXv6.out (fun hC => ?_)
                  clear hK K9
                  try simp only [Act.put, List.setIfInBounds_toArray, List.set_cons_zero, List.set_cons_succ]
                  refine wpAnyL_take (i := 37) (oi := { dst := some 63, op := .binOp .neq 26 (.tmp 62) (.const (.int Go.IntKind.i64 1)) 26, type := _, pos := _, after := _, guard := some (34, false) }) (v := ?_) rfl (by kernel_rfl) (by kernel_rfl) (by kernel_rfl) (fun _ _ _ h => h) (fun _ _ => Iff.rfl) hC (Or.inl ⟨by rfl, ?_⟩) HXv6.out (fun hC hS => ?_)
                  rotate_left
                  · intro W9 hSw; skip; go_simp; try (with_reducible rfl)
                  try simp only [Act.put, List.setIfInBounds_toArray, List.set_cons_zero, List.set_cons_succ]
                  refine wpAnyL_take (i := 38) (oi := { dst := some 64, op := .pick (.tmp 60) (.const (.bool true)) (.tmp 63), type := _, pos := _, after := _, guard := none }) (v := ?_) rfl (by kernel_rfl) (by kernel_rfl) (by kernel_rfl) (fun _ _ _ h => h) (fun _ _ => Iff.rfl) hC (Or.inl ⟨by rfl, ?_⟩) HXv6.out (fun hC hS => ?_)
                  rotate_left
                  · intro W9 hSw; skip; go_simp; try (with_reducible rfl)
                  try simp only [Act.put, List.setIfInBounds_toArray, List.set_cons_zero, List.set_cons_succ]
                  refine wpAnyL_done (by kernel_rfl) ?_ _
                  go_upto_region 10 with (fail)
                  clear hS hC
                  have HBv6 := Lib.hid HBv6.out.drew
                  have HNv6 := Lib.hid (HNv6.out.kept (Below.refl _ _).drew)
                  have HXv6 := Lib.hid (show v6.drew.heap[w.heap.size]? = some (.cells #[.int .i64 kd, .int .i64 at0, .int .i64 nn, .string t, .bool rw1, .slice ka kan kac] 39 (0, 0)) from HXv6.out)
                  have HIv6 := Lib.hid (show v6.drew.heap[y]? = some (.cells #[.slice none 0 0, .slice none 0 0] 32 (0, 0)) from HIv6.out)
                  refine wp_region_L_drew (S := fun _ W => W.heap[w.heap.size]? = some (.cells #[.int .i64 kd, .int .i64 at0, .int .i64 nn, .string t, .bool rw1, .slice ka kan kac] 39 (0, 0)) ∧ W.heap[y]? = some (.cells #[.slice none 0 0, .slice none 0 0] 32 (0, 0))) (by kernel_rfl) ⟨HXv6.out, HIv6.out⟩ (fun hS hC => ?_)
                  have hw0 : IntKind.i64.wrap (0 + 0) = 0 := by decide
                  generalize v6.drew = u0 at *
                  refine wpAnyL_take (i := 0) (oi := { dst := some 65, op := .move (.tmp 5), type := _, pos := _, after := _, guard := none }) (v := ?_) rfl (by kernel_rfl) (by kernel_rfl) (by kernel_rfl) (fun _ _ _ h => h) (fun _ _ => Iff.rfl) hC (Or.inl ⟨by rfl, ?_⟩) hS (fun hC hS => ?_)
                  rotate_left
                  · intro W9 hSw; skip; go_simp; try (with_reducible rfl)
                  try simp only [Act.put, List.setIfInBounds_toArray, List.set_cons_zero, List.set_cons_succ]
                  refine wpAnyL_take (i := 1) (oi := { dst := some 66, op := .fieldAddr 39 (.tmp 2) 1, type := _, pos := _, after := _, guard := none }) (v := ?_) rfl (by kernel_rfl) (by kernel_rfl) (by kernel_rfl) (fun _ _ _ h => h) (fun _ _ => Iff.rfl) hC (Or.inl ⟨by rfl, ?_⟩) hS (fun hC hS => ?_)
                  rotate_left
                  · intro W9 hSw; skip; go_simp; try (with_reducible rfl)
                  try simp only [Act.put, List.setIfInBounds_toArray, List.set_cons_zero, List.set_cons_succ]
                  refine wpAnyL_take (i := 2) (oi := { dst := some 67, op := .load 3 (.tmp 66), type := _, pos := _, after := _, guard := none }) (v := ?_) rfl (by kernel_rfl) (by kernel_rfl) (by kernel_rfl) (fun _ _ _ h => h) (fun _ _ => Iff.rfl) hC (Or.inl ⟨by rfl, ?_⟩) hS (fun hC hS => ?_)
                  rotate_left
                  · intro W9 hSw; have q1 := (cell_of_row _ _ 1 _ _ _ hSw.choose_spec.2.2.1).trans rfl; go_simp; try (with_reducible rfl)
                  try simp only [Act.put, List.setIfInBounds_toArray, List.set_cons_zero, List.set_cons_succ]
                  refine wpAnyL_take (i := 3) (oi := { dst := some 68, op := .load 39 (.tmp 2), type := _, pos := _, after := _, guard := none }) (v := ?_) rfl (by kernel_rfl) (by kernel_rfl) (by kernel_rfl) (fun _ _ _ h => h) (fun _ _ => Iff.rfl) hC (Or.inl ⟨by rfl, ?_⟩) hS (fun hC hS => ?_)
                  rotate_left
                  · intro W9 hSw; have q0 := (cell_of_row _ _ 0 _ _ _ hSw.choose_spec.2.2.1).trans rfl; have q1 := (cell_of_row _ _ 1 _ _ _ hSw.choose_spec.2.2.1).trans rfl; have q2 := (cell_of_row _ _ 2 _ _ _ hSw.choose_spec.2.2.1).trans rfl; have q3 := (cell_of_row _ _ 3 _ _ _ hSw.choose_spec.2.2.1).trans rfl; have q4 := (cell_of_row _ _ 4 _ _ _ hSw.choose_spec.2.2.1).trans rfl; have q5 := (cell_of_row _ _ 5 _ _ _ hSw.choose_spec.2.2.1).trans rfl; go_simp; try (with_reducible rfl)
                  try simp only [Act.put, List.setIfInBounds_toArray, List.set_cons_zero, List.set_cons_succ]
                  refine wpAnyL_ready (rs := [4]) (by kernel_rfl) (by simp) hC ?_
                  refine AllReadyL.cons (o := { dst := some 69, op := .call { callee := .value (.func 21), args := #[.tmp 68], argTypes := #[39] }, type := _, pos := _, after := _, guard := none }) rfl (fun K9 hK => ?_) ?_
                  · skip
                    go_simp
                    refine (HTX.out _).mono ?_
                    rintro e v7 ⟨rfl, hb9⟩
                    have HBv7 := Lib.hid (HBv6.out.trans (hb9.mono HBv6.out.size))
                    have HXv7 := Lib.hid (blk_below HXv6.out hb9)
                    have HIv7 := Lib.hid (blk_below HIv6.out hb9)
                    have HNv7 := Lib.hid (HNv6.out.kept hb9)
                    clear hb9 HBv6 HXv6 HIv6 HNv6
                    refine hK _ _ ⟨HXv7.out, HIv7.out⟩ (fun hC => ?_)
                    clear hK K9
                    try simp only [Act.put, List.setIfInBounds_toArray, List.set_cons_zero, List.set_cons_succ]
                    refine wpAnyL_ready (rs := [5]) (by kernel_rfl) (by simp) hC ?_
                    refine AllReadyL.cons (o := { dst := some 70, op := .call { callee := .value (.func 26), args := #[.tmp 65, .tmp 67, .tmp 69], argTypes := #[25, 3, 9] }, type := _, pos := _, after := _, guard := none }) rfl (fun K9 hK => ?_) ?_
                    · skip
                      go_simp
                      refine (nover HNv7.out at0 tx).mono ?_
                      rintro e v8 ⟨rfl, hb9⟩
                      have HBv8 := Lib.hid (HBv7.out.trans (hb9.mono HBv7.out.size))
                      have HXv8 := Lib.hid (blk_below HXv7.out hb9)
                      have HIv8 := Lib.hid (blk_below HIv7.out hb9)
                      have HNv8 := Lib.hid (HNv7.out.kept hb9)
                      clear hb9 HBv7 HXv7 HIv7 HNv7
                      refine hK _ _ ⟨HXv8.out, HIv8.out⟩ (fun hC => ?_)
                      clear hK K9
                      try simp only [Act.put, List.setIfInBounds_toArray, List.set_cons_zero, List.set_cons_succ]
                      refine wpAnyL_take (i := 6) (oi := { dst := some 71, op := .binOp .eql 26 (.tmp 70) (.const (.int Go.IntKind.i64 1)) 26, type := _, pos := _, after := _, guard := none }) (v := ?_) rfl (by kernel_rfl) (by kernel_rfl) (by kernel_rfl) (fun _ _ _ h => h) (fun _ _ => Iff.rfl) hC (Or.inl ⟨by rfl, ?_⟩) ⟨HXv8.out, HIv8.out⟩ (fun hC hS => ?_)
                      rotate_left
                      · intro W9 hSw; skip; go_simp; try (with_reducible rfl)
                      try simp only [Act.put, List.setIfInBounds_toArray, List.set_cons_zero, List.set_cons_succ]
                      refine wpAnyL_take (i := 7) (oi := { dst := some 72, op := .move (.tmp 71), type := _, pos := _, after := _, guard := none }) (v := ?_) rfl (by kernel_rfl) (by kernel_rfl) (by kernel_rfl) (fun _ _ _ h => h) (fun _ _ => Iff.rfl) hC (Or.inl ⟨by rfl, ?_⟩) ⟨HXv8.out, HIv8.out⟩ (fun hC hS => ?_)
                      rotate_left
                      · intro W9 hSw; skip; go_simp; try (with_reducible rfl)
                      try simp only [Act.put, List.setIfInBounds_toArray, List.set_cons_zero, List.set_cons_succ]
                      refine wpAnyL_take (i := 8) (oi := { dst := some 73, op := .fieldAddr 32 (.tmp 8) 0, type := _, pos := _, after := _, guard := some (7, true) }) (v := ?_) rfl (by kernel_rfl) (by kernel_rfl) (by kernel_rfl) (fun _ _ _ h => h) (fun _ _ => Iff.rfl) hC (Or.inl ⟨by rfl, ?_⟩) ⟨HXv8.out, HIv8.out⟩ (fun hC hS => ?_)
                      rotate_left
                      · intro W9 hSw; skip; go_simp; try (with_reducible rfl)
                      try simp only [Act.put, List.setIfInBounds_toArray, List.set_cons_zero, List.set_cons_succ]
                      refine wpAnyL_take (i := 9) (oi := { dst := some 74, op := .load 29 (.tmp 73), type := _, pos := _, after := _, guard := some (7, true) }) (v := ?_) rfl (by kernel_rfl) (by kernel_rfl) (by kernel_rfl) (fun _ _ _ h => h) (fun _ _ => Iff.rfl) hC (Or.inl ⟨by rfl, ?_⟩) ⟨HXv8.out, HIv8.out⟩ (fun hC hS => ?_)
                      rotate_left
                      · intro W9 hSw; have q0 := (cell_of_row _ _ 0 _ _ _ hSw.choose_spec.2.2.2).trans rfl; go_simp; try (with_reducible rfl)
                      try simp only [Act.put, List.setIfInBounds_toArray, List.set_cons_zero, List.set_cons_succ]
                      refine wpAnyL_take (i := 10) (oi := { dst := some 75, op := .call { callee := .builtin .len, args := #[.tmp 74], argTypes := #[29] }, type := _, pos := _, after := _, guard := some (7, true) }) (v := ?_) rfl (by kernel_rfl) (by kernel_rfl) (by kernel_rfl) (fun _ _ _ h => h) (fun _ _ => Iff.rfl) hC (Or.inl ⟨by rfl, ?_⟩) ⟨HXv8.out, HIv8.out⟩ (fun hC hS => ?_)
                      rotate_left
                      · intro W9 hSw; skip; go_simp; try (with_reducible rfl)
                      try simp only [Act.put, List.setIfInBounds_toArray, List.set_cons_zero, List.set_cons_succ]
                      refine wpAnyL_take (i := 11) (oi := { dst := some 76, op := .fieldAddr 32 (.tmp 8) 1, type := _, pos := _, after := _, guard := some (7, true) }) (v := ?_) rfl (by kernel_rfl) (by kernel_rfl) (by kernel_rfl) (fun _ _ _ h => h) (fun _ _ => Iff.rfl) hC (Or.inl ⟨by rfl, ?_⟩) ⟨HXv8.out, HIv8.out⟩ (fun hC hS => ?_)
                      rotate_left
                      · intro W9 hSw; skip; go_simp; try (with_reducible rfl)
                      try simp only [Act.put, List.setIfInBounds_toArray, List.set_cons_zero, List.set_cons_succ]
                      refine wpAnyL_take (i := 12) (oi := { dst := some 77, op := .load 30 (.tmp 76), type := _, pos := _, after := _, guard := some (7, true) }) (v := ?_) rfl (by kernel_rfl) (by kernel_rfl) (by kernel_rfl) (fun _ _ _ h => h) (fun _ _ => Iff.rfl) hC (Or.inl ⟨by rfl, ?_⟩) ⟨HXv8.out, HIv8.out⟩ (fun hC hS => ?_)
                      rotate_left
                      · intro W9 hSw; have q1 := (cell_of_row _ _ 1 _ _ _ hSw.choose_spec.2.2.2).trans rfl; go_simp; try (with_reducible rfl)
                      try simp only [Act.put, List.setIfInBounds_toArray, List.set_cons_zero, List.set_cons_succ]
                      refine wpAnyL_take (i := 13) (oi := { dst := some 78, op := .call { callee := .builtin .len, args := #[.tmp 77], argTypes := #[30] }, type := _, pos := _, after := _, guard := some (7, true) }) (v := ?_) rfl (by kernel_rfl) (by kernel_rfl) (by kernel_rfl) (fun _ _ _ h => h) (fun _ _ => Iff.rfl) hC (Or.inl ⟨by rfl, ?_⟩) ⟨HXv8.out, HIv8.out⟩ (fun hC hS => ?_)
                      rotate_left
                      · intro W9 hSw; skip; go_simp; try (with_reducible rfl)
                      try simp only [Act.put, List.setIfInBounds_toArray, List.set_cons_zero, List.set_cons_succ]
                      refine wpAnyL_take (i := 14) (oi := { dst := some 79, op := .binOp .add 3 (.tmp 75) (.tmp 78) 3, type := _, pos := _, after := _, guard := some (7, true) }) (v := ?_) rfl (by kernel_rfl) (by kernel_rfl) (by kernel_rfl) (fun _ _ _ h => h) (fun _ _ => Iff.rfl) hC (Or.inl ⟨by rfl, ?_⟩) ⟨HXv8.out, HIv8.out⟩ (fun hC hS => ?_)
                      rotate_left
                      · intro W9 hSw; skip; go_simp; try (with_reducible rfl)
                      try simp only [Act.put, List.setIfInBounds_toArray, List.set_cons_zero, List.set_cons_succ]
                      refine wpAnyL_take (i := 15) (oi := { dst := some 80, op := .move (.tmp 5), type := _, pos := _, after := _, guard := some (7, true) }) (v := ?_) rfl (by kernel_rfl) (by kernel_rfl) (by kernel_rfl) (fun _ _ _ h => h) (fun _ _ => Iff.rfl) hC (Or.inl ⟨by rfl, ?_⟩) ⟨HXv8.out, HIv8.out⟩ (fun hC hS => ?_)
                      rotate_left
                      · intro W9 hSw; skip; go_simp; try (with_reducible rfl)
                      try simp only [Act.put, List.setIfInBounds_toArray, List.set_cons_zero, List.set_cons_succ]
                      refine wpAnyL_take (i := 18) (oi := { dst := some 83, op := .move (.tmp 5), type := _, pos := _, after := _, guard := some (7, true) }) (v := ?_) rfl (by kernel_rfl) (by kernel_rfl) (by kernel_rfl) (fun _ _ _ h => h) (fun _ _ => Iff.rfl) hC (Or.inl ⟨by rfl, ?_⟩) ⟨HXv8.out, HIv8.out⟩ (fun hC hS => ?_)
                      rotate_left
                      · intro W9 hSw; skip; go_simp; try (with_reducible rfl)
                      try simp only [Act.put, List.setIfInBounds_toArray, List.set_cons_zero, List.set_cons_succ]
                      refine wpAnyL_ready (rs := [16]) (by kernel_rfl) (by simp) hC ?_
                      refine AllReadyL.cons (o := { dst := some 81, op := .call { callee := .value (.func 27), args := #[.tmp 80], argTypes := #[25] }, type := _, pos := _, after := _, guard := some (7, true) }) rfl (fun K9 hK => ?_) ?_
                      · skip
                        go_simp
                        refine (nsize HNv8.out).mono ?_
                        rintro e v9 ⟨rfl, hb9⟩
                        have HBv9 := Lib.hid (HBv8.out.trans (hb9.mono HBv8.out.size))
                        have HXv9 := Lib.hid (blk_below HXv8.out hb9)
                        have HIv9 := Lib.hid (blk_below HIv8.out hb9)
                        have HNv9 := Lib.hid (HNv8.out.kept hb9)
                        clear hb9 HBv8 HXv8 HIv8 HNv8
                        refine hK _ _ ⟨HXv9.out, HIv9.out⟩ (fun hC => ?_)
                        clear hK K9
                        try simp only [Act.put, List.setIfInBounds_toArray, List.set_cons_zero, List.set_cons_succ]
                        refine wpAnyL_take (i := 17) (oi := { dst := some 82, op := .binOp .add 3 (.tmp 79) (.tmp 81) 3, type := _, pos := _, after := _, guard := some (7, true) }) (v := ?_) rfl (by kernel_rfl) (by kernel_rfl) (by kernel_rfl) (fun _ _ _ h => h) (fun _ _ => Iff.rfl) hC (Or.inl ⟨by rfl, ?_⟩) ⟨HXv9.out, HIv9.out⟩ (fun hC hS => ?_)
                        rotate_left
                        · intro W9 hSw; skip; go_simp; try (with_reducible rfl)
                        try simp only [Act.put, List.setIfInBounds_toArray, List.set_cons_zero, List.set_cons_succ]
                        refine wpAnyL_ready (rs := [19]) (by kernel_rfl) (by simp) hC ?_
                        refine AllReadyL.cons (o := { dst := some 84, op := .call { callee := .value (.func 28), args := #[.tmp 83], argTypes := #[25] }, type := _, pos := _, after := _, guard := some (7, true) }) rfl (fun K9 hK => ?_) ?_
                        · skip
                          go_simp
                          refine (nops HNv9.out).mono ?_
                          rintro e v10 ⟨rfl, hb9⟩
                          have HBv10 := Lib.hid (HBv9.out.trans (hb9.mono HBv9.out.size))
                          have HXv10 := Lib.hid (blk_below HXv9.out hb9)
                          have HIv10 := Lib.hid (blk_below HIv9.out hb9)
                          have HNv10 := Lib.hid (HNv9.out.kept hb9)
                          clear hb9 HBv9 HXv9 HIv9 HNv9
                          refine hK _ _ ⟨HXv10.out, HIv10.out⟩ (fun hC => ?_)
                          clear hK K9
                          try simp only [Act.put, List.setIfInBounds_toArray, List.set_cons_zero, List.set_cons_succ]
                          refine wpAnyL_take (i := 20) (oi := { dst := some 85, op := .binOp .add 3 (.tmp 82) (.tmp 84) 3, type := _, pos := _, after := _, guard := some (7, true) }) (v := ?_) rfl (by kernel_rfl) (by kernel_rfl) (by kernel_rfl) (fun _ _ _ h => h) (fun _ _ => Iff.rfl) hC (Or.inl ⟨by rfl, ?_⟩) ⟨HXv10.out, HIv10.out⟩ (fun hC hS => ?_)
                          rotate_left
                          · intro W9 hSw; skip; go_simp; try (with_reducible rfl)
                          try simp only [Act.put, List.setIfInBounds_toArray, List.set_cons_zero, List.set_cons_succ]
                          refine wpAnyL_take (i := 21) (oi := { dst := some 86, op := .binOp .eql 3 (.tmp 85) (.const (.int Go.IntKind.i64 0)) 3, type := _, pos := _, after := _, guard := some (7, true) }) (v := ?_) rfl (by kernel_rfl) (by kernel_rfl) (by kernel_rfl) (fun _ _ _ h => h) (fun _ _ => Iff.rfl) hC (Or.inl ⟨by rfl, ?_⟩) ⟨HXv10.out, HIv10.out⟩ (fun hC hS => ?_)
                          rotate_left
                          · intro W9 hSw; skip; go_simp; try (with_reducible rfl)
                          try simp only [Act.put, List.setIfInBounds_toArray, List.set_cons_zero, List.set_cons_succ]
                          refine wpAnyL_take (i := 22) (oi := { dst := some 87, op := .pick (.tmp 72) (.tmp 86) (.const (.bool false)), type := _, pos := _, after := _, guard := none }) (v := ?_) rfl (by kernel_rfl) (by kernel_rfl) (by kernel_rfl) (fun _ _ _ h => h) (fun _ _ => Iff.rfl) hC (Or.inl ⟨by rfl, ?_⟩) ⟨HXv10.out, HIv10.out⟩ (fun hC hS => ?_)
                          rotate_left
                          · intro W9 hSw; skip; go_simp; try (with_reducible rfl)
                          try simp only [Act.put, List.setIfInBounds_toArray, List.set_cons_zero, List.set_cons_succ]
                          refine wpAnyL_take (i := 23) (oi := { dst := some 88, op := .move (.tmp 87), type := _, pos := _, after := _, guard := none }) (v := ?_) rfl (by kernel_rfl) (by kernel_rfl) (by kernel_rfl) (fun _ _ _ h => h) (fun _ _ => Iff.rfl) hC (Or.inl ⟨by rfl, ?_⟩) ⟨HXv10.out, HIv10.out⟩ (fun hC hS => ?_)
                          rotate_left
                          · intro W9 hSw; skip; go_simp; try (with_reducible rfl)
                          try simp only [Act.put, List.setIfInBounds_toArray, List.set_cons_zero, List.set_cons_succ]
                          refine wpAnyL_take (i := 24) (oi := { dst := some 89, op := .move (.tmp 5), type := _, pos := _, after := _, guard := some (23, true) }) (v := ?_) rfl (by kernel_rfl) (by kernel_rfl) (by kernel_rfl) (fun _ _ _ h => h) (fun _ _ => Iff.rfl) hC (Or.inl ⟨by rfl, ?_⟩) ⟨HXv10.out, HIv10.out⟩ (fun hC hS => ?_)
                          rotate_left
                          · intro W9 hSw; skip; go_simp; try (with_reducible rfl)
                          try simp only [Act.put, List.setIfInBounds_toArray, List.set_cons_zero, List.set_cons_succ]
                          refine wpAnyL_ready (rs := [25]) (by kernel_rfl) (by simp) hC ?_
                          refine AllReadyL.cons (o := { dst := some 90, op := .call { callee := .value (.func 23), args := #[.tmp 89], argTypes := #[25] }, type := _, pos := _, after := _, guard := some (23, true) }) rfl (fun K9 hK => ?_) ?_
                          · skip
                            go_simp
                            refine (ndown HNv10.out).mono ?_
                            rintro e v11 ⟨rfl, hb9⟩
                            have HBv11 := Lib.hid (HBv10.out.trans (hb9.mono HBv10.out.size))
                            have HXv11 := Lib.hid (blk_below HXv10.out hb9)
                            have HIv11 := Lib.hid (blk_below HIv10.out hb9)
                            have HNv11 := Lib.hid (HNv10.out.kept hb9)
                            clear hb9 HBv10 HXv10 HIv10 HNv10
                            refine hK _ _ ⟨HXv11.out, HIv11.out⟩ (fun hC => ?_)
                            clear hK K9
                            try simp only [Act.put, List.setIfInBounds_toArray, List.set_cons_zero, List.set_cons_succ]
                            refine wpAnyL_take (i := 26) (oi := { dst := some 91, op := .unOp .not 4 (.tmp 90), type := _, pos := _, after := _, guard := some (23, true) }) (v := ?_) rfl (by kernel_rfl) (by kernel_rfl) (by kernel_rfl) (fun _ _ _ h => h) (fun _ _ => Iff.rfl) hC (Or.inl ⟨by rfl, ?_⟩) ⟨HXv11.out, HIv11.out⟩ (fun hC hS => ?_)
                            rotate_left
                            · intro W9 hSw; skip; go_simp; try (with_reducible rfl)
                            try simp only [Act.put, List.setIfInBounds_toArray, List.set_cons_zero, List.set_cons_succ]
                            refine wpAnyL_take (i := 27) (oi := { dst := some 92, op := .pick (.tmp 88) (.tmp 91) (.const (.bool false)), type := _, pos := _, after := _, guard := none }) (v := ?_) rfl (by kernel_rfl) (by kernel_rfl) (by kernel_rfl) (fun _ _ _ h => h) (fun _ _ => Iff.rfl) hC (Or.inl ⟨by rfl, ?_⟩) ⟨HXv11.out, HIv11.out⟩ (fun hC hS => ?_)
                            rotate_left
                            · intro W9 hSw; skip; go_simp; try (with_reducible rfl)
                            try simp only [Act.put, List.setIfInBounds_toArray, List.set_cons_zero, List.set_cons_succ]
                            refine wpAnyL_take (i := 28) (oi := { dst := some 93, op := .move (.tmp 92), type := _, pos := _, after := _, guard := none }) (v := ?_) rfl (by kernel_rfl) (by kernel_rfl) (by kernel_rfl) (fun _ _ _ h => h) (fun _ _ => Iff.rfl) hC (Or.inl ⟨by rfl, ?_⟩) ⟨HXv11.out, HIv11.out⟩ (fun hC hS => ?_)
                            rotate_left
                            · intro W9 hSw; skip; go_simp; try (with_reducible rfl)
                            try simp only [Act.put, List.setIfInBounds_toArray, List.set_cons_zero, List.set_cons_succ]
                            refine wpAnyL_ready (rs := [29]) (by kernel_rfl) (by simp) hC ?_
                            refine AllReadyL.cons (o := { dst := some 94, op := .call { callee := .value (.func 9), args := #[], argTypes := #[] }, type := _, pos := _, after := _, guard := some (28, true) }) rfl (fun K9 hK => ?_) ?_
                            · skip
                              go_simp
                              refine (awake7_any _).mono ?_
                              rintro e v12 ⟨rfl, hb9⟩
                              have HBv12 := Lib.hid (HBv11.out.trans (hb9.mono HBv11.out.size))
                              have HXv12 := Lib.hid (blk_below HXv11.out hb9)
                              have HIv12 := Lib.hid (blk_below HIv11.out hb9)
                              have HNv12 := Lib.hid (HNv11.out.kept hb9)
                              clear hb9 HBv11 HXv11 HIv11 HNv11
                              refine hK _ _ ⟨HXv12.out, HIv12.out⟩ (fun hC => ?_)
                              clear hK K9
                              try simp only [Act.put, List.setIfInBounds_toArray, List.set_cons_zero, List.set_cons_succ]
                              refine wpAnyL_take (i := 30) (oi := { dst := some 95, op := .pick (.tmp 93) (.tmp 94) (.const (.bool false)), type := _, pos := _, after := _, guard := none }) (v := ?_) rfl (by kernel_rfl) (by kernel_rfl) (by kernel_rfl) (fun _ _ _ h => h) (fun _ _ => Iff.rfl) hC (Or.inl ⟨by rfl, ?_⟩) ⟨HXv12.out, HIv12.out⟩ (fun hC hS => ?_)
                              rotate_left
                              · intro W9 hSw; skip; go_simp; try (with_reducible rfl)
                              try simp only [Act.put, List.setIfInBounds_toArray, List.set_cons_zero, List.set_cons_succ]
                              refine wpAnyL_take (i := 31) (oi := { dst := some 4, op := .assign (.tmp 95), type := _, pos := _, after := _, guard := none }) (v := ?_) rfl (by kernel_rfl) (by kernel_rfl) (by kernel_rfl) (fun _ _ _ h => h) (fun _ _ => Iff.rfl) hC (Or.inl ⟨by rfl, ?_⟩) ⟨HXv12.out, HIv12.out⟩ (fun hC hS => ?_)
                              rotate_left
                              · intro W9 hSw; skip; go_simp; try (with_reducible rfl)
                              try simp only [Act.put, List.setIfInBounds_toArray, List.set_cons_zero, List.set_cons_succ]
                              refine wpAnyL_done (by kernel_rfl) ?_ _
                              go_wp2_with fail
                              go_ret
                              exact ⟨rfl, HBv12.out⟩
                            exact AllReadyL.nil
                          exact AllReadyL.nil
                        exact AllReadyL.nil
                      exact AllReadyL.nil
                    exact AllReadyL.nil
                  exact AllReadyL.nil
                exact AllReadyL.nil
              exact AllReadyL.nil
            exact AllReadyL.nil
          exact AllReadyL.nil
        exact AllReadyL.nil
      exact AllReadyL.nil
    | true =>
      have HBa := Lib.hid ((Below.refl w1.heap.size w1).alloc (Nat.le_refl _) (.cells #[.slice none 0 0, .slice none 0 0, .bool false, .bool false, .int .i64 0, .int .i64 0] 56 (0, 0)))
      have HN2 : Hid (NoDk (some ⟨w1.heap.size, 0, none⟩) (w1.alloc (.cells #[.slice none 0 0, .slice none 0 0, .bool false, .bool false, .int .i64 0, .int .i64 0] 56 (0, 0)))) := Lib.hid (.inr ⟨_, rfl, blk_new w1 _⟩)
      have HB2 := Lib.hid (HB1.out.trans (HBa.out.mono HB1.out.size))
      have HX2 := Lib.hid (blk_below HX1.out HBa.out)
      obtain ⟨w2, hw2⟩ : ∃ w2, w2 = w1.alloc (.cells #[.slice none 0 0, .slice none 0 0, .bool false, .bool false, .int .i64 0, .int .i64 0] 56 (0, 0)) := ⟨_, rfl⟩
      rw [← hw2] at HN2 HB2 HX2
      clear HBa
      go_upto_region 6 with (fail)
      rw [← hw2]
      clear hw2 HB1 HX1
      generalize w1.heap.size = D at *
      have x1 : w2.cell? ⟨w.heap.size, 1, none⟩ = some (.int .i64 at0) := (cell_of_row _ _ 1 _ _ _ HX2.out).trans rfl
      go_wp2_with fail
      refine (nread HN2.out at0).mono ?_
      rintro e w3 ⟨rfl, hb3⟩
      have HB3 := Lib.hid (HB2.out.trans (hb3.mono HB2.out.size))
      have HX3 := Lib.hid (blk_below HX2.out hb3)
      have HN3 := Lib.hid (HN2.out.kept hb3)
      clear hb3 x1 HB2 HX2 HN2
      go_wp2_with fail
      refine (nseize HN3.out).mono ?_
      rintro e w4 ⟨rfl, hb4⟩
      have HB4 := Lib.hid (HB3.out.trans (hb4.mono HB3.out.size))
      have HX4 := Lib.hid (blk_below HX3.out hb4)
      have HN4 := Lib.hid (HN3.out.kept hb4)
      clear hb4 HB3 HX3 HN3
      have HBa := Lib.hid ((Below.refl w4.heap.size w4).alloc (Nat.le_refl _) (.cells #[.slice none 0 0, .slice none 0 0] 32 (0, 0)))
      have HNa := Lib.hid (blk_new w4 (.cells #[.slice none 0 0, .slice none 0 0] 32 (0, 0)))
      go_wp2_with (refine wpList_store_rowY rfl 32 (.tmp 8) (.tmp 25) rfl w4.heap.size #[.slice none 0 0, .slice none 0 0] rfl rfl 32 _ HNa.out (by kernel_rfl) rfl (by simp [Value.oneCell']) w4.heap.size w4 HBa.out (Nat.le_refl _) ?_)
      intro w5 hbk hoth hbel _
      have HI5 := Lib.hid hbk.out
      have HB5 := Lib.hid (HB4.out.trans (hbel.out.mono HB4.out.size))
      have HX5 := Lib.hid (blk_below HX4.out hbel.out)
      have HN5 := Lib.hid (HN4.out.kept hbel.out)
      clear hbk hoth hbel HBa HNa HB4 HX4 HN4
      generalize w4.heap.size = y at *
      go_upto_region 8 with (fail)
      have HB5 := Lib.hid HB5.out.drew
      have HN5 := Lib.hid (HN5.out.kept (Below.refl _ _).drew)
      have HX5 := Lib.hid (show w5.drew.heap[w.heap.size]? = some (.cells #[.int .i64 kd, .int .i64 at0, .int .i64 nn, .string t, .bool rw1, .slice ka kan kac] 39 (0, 0)) from HX5.out)
      have HI5 := Lib.hid (show w5.drew.heap[y]? = some (.cells #[.slice none 0 0, .slice none 0 0] 32 (0, 0)) from HI5.out)
      refine wp_region_L_drew (S := fun _ W => W.heap[w.heap.size]? = some (.cells #[.int .i64 kd, .int .i64 at0, .int .i64 nn, .string t, .bool rw1, .slice ka kan kac] 39 (0, 0))) (by kernel_rfl) HX5.out (fun hS hC => ?_)
      generalize w5.drew = v0 at *
      refine wpAnyL_take (i := 0) (oi := { dst := some 26, op := .move (.tmp 6), type := _, pos := _, after := _, guard := none }) (v := ?_) rfl (by kernel_rfl) (by kernel_rfl) (by kernel_rfl) (fun _ _ _ h => h) (fun _ _ => Iff.rfl) hC (Or.inl ⟨by rfl, ?_⟩) hS (fun hC hS => ?_)
      rotate_left
      · intro W9 hSw; skip; go_simp; try (with_reducible rfl)
      try simp only [Act.put, List.setIfInBounds_toArray, List.set_cons_zero, List.set_cons_succ]
      refine wpAnyL_take (i := 1) (oi := { dst := some 27, op := .binOp .neq 9 (.tmp 26) (.const (.string { data := #[] })) 9, type := _, pos := _, after := _, guard := none }) (v := ?_) rfl (by kernel_rfl) (by kernel_rfl) (by kernel_rfl) (fun _ _ _ h => h) (fun _ _ => Iff.rfl) hC (Or.inl ⟨by rfl, ?_⟩) hS (fun hC hS => ?_)
      rotate_left
      · intro W9 hSw; skip; go_simp; try (with_reducible rfl)
      try simp only [Act.put, List.setIfInBounds_toArray, List.set_cons_zero, List.set_cons_succ]
      refine wpAnyL_take (i := 2) (oi := { dst := some 28, op := .move (.tmp 27), type := _, pos := _, after := _, guard := none }) (v := ?_) rfl (by kernel_rfl) (by kernel_rfl) (by kernel_rfl) (fun _ _ _ h => h) (fun _ _ => Iff.rfl) hC (Or.inl ⟨by rfl, ?_⟩) hS (fun hC hS => ?_)
      rotate_left
      · intro W9 hSw; skip; go_simp; try (with_reducible rfl)
      try simp only [Act.put, List.setIfInBounds_toArray, List.set_cons_zero, List.set_cons_succ]
      refine wpAnyL_take (i := 3) (oi := { dst := some 29, op := .move (.tmp 7), type := _, pos := _, after := _, guard := some (2, false) }) (v := ?_) rfl (by kernel_rfl) (by kernel_rfl) (by kernel_rfl) (fun _ _ _ h => h) (fun _ _ => Iff.rfl) hC (Or.inl ⟨by rfl, ?_⟩) hS (fun hC hS => ?_)
      rotate_left
      · intro W9 hSw; skip; go_simp; try (with_reducible rfl)
      try simp only [Act.put, List.setIfInBounds_toArray, List.set_cons_zero, List.set_cons_succ]
      refine wpAnyL_take (i := 4) (oi := { dst := some 30, op := .binOp .neq 26 (.tmp 29) (.const (.int Go.IntKind.i64 1)) 26, type := _, pos := _, after := _, guard := some (2, false) }) (v := ?_) rfl (by kernel_rfl) (by kernel_rfl) (by kernel_rfl) (fun _ _ _ h => h) (fun _ _ => Iff.rfl) hC (Or.inl ⟨by rfl, ?_⟩) hS (fun hC hS => ?_)
      rotate_left
      · intro W9 hSw; skip; go_simp; try (with_reducible rfl)
      try simp only [Act.put, List.setIfInBounds_toArray, List.set_cons_zero, List.set_cons_succ]
      refine wpAnyL_take (i := 5) (oi := { dst := some 31, op := .pick (.tmp 28) (.const (.bool true)) (.tmp 30), type := _, pos := _, after := _, guard := none }) (v := ?_) rfl (by kernel_rfl) (by kernel_rfl) (by kernel_rfl) (fun _ _ _ h => h) (fun _ _ => Iff.rfl) hC (Or.inl ⟨by rfl, ?_⟩) hS (fun hC hS => ?_)
      rotate_left
      · intro W9 hSw; skip; go_simp; try (with_reducible rfl)
      try simp only [Act.put, List.setIfInBounds_toArray, List.set_cons_zero, List.set_cons_succ]
      refine wpAnyL_take (i := 6) (oi := { dst := some 32, op := .move (.tmp 31), type := _, pos := _, after := _, guard := none }) (v := ?_) rfl (by kernel_rfl) (by kernel_rfl) (by kernel_rfl) (fun _ _ _ h => h) (fun _ _ => Iff.rfl) hC (Or.inl ⟨by rfl, ?_⟩) hS (fun hC hS => ?_)
      rotate_left
      · intro W9 hSw; skip; go_simp; try (with_reducible rfl)
      try simp only [Act.put, List.setIfInBounds_toArray, List.set_cons_zero, List.set_cons_succ]
      refine wpAnyL_take (i := 7) (oi := { dst := some 33, op := .move (.tmp 5), type := _, pos := _, after := _, guard := some (6, false) }) (v := ?_) rfl (by kernel_rfl) (by kernel_rfl) (by kernel_rfl) (fun _ _ _ h => h) (fun _ _ => Iff.rfl) hC (Or.inl ⟨by rfl, ?_⟩) hS (fun hC hS => ?_)
      rotate_left
      · intro W9 hSw; skip; go_simp; try (with_reducible rfl)
      try simp only [Act.put, List.setIfInBounds_toArray, List.set_cons_zero, List.set_cons_succ]
      refine wpAnyL_take (i := 8) (oi := { dst := some 34, op := .fieldAddr 39 (.tmp 2) 1, type := _, pos := _, after := _, guard := some (6, false) }) (v := ?_) rfl (by kernel_rfl) (by kernel_rfl) (by kernel_rfl) (fun _ _ _ h => h) (fun _ _ => Iff.rfl) hC (Or.inl ⟨by rfl, ?_⟩) hS (fun hC hS => ?_)
      rotate_left
      · intro W9 hSw; skip; go_simp; try (with_reducible rfl)
      try simp only [Act.put, List.setIfInBounds_toArray, List.set_cons_zero, List.set_cons_succ]
      refine wpAnyL_take (i := 9) (oi := { dst := some 35, op := .load 3 (.tmp 34), type := _, pos := _, after := _, guard := some (6, false) }) (v := ?_) rfl (by kernel_rfl) (by kernel_rfl) (by kernel_rfl) (fun _ _ _ h => h) (fun _ _ => Iff.rfl) hC (Or.inl ⟨by rfl, ?_⟩) hS (fun hC hS => ?_)
      rotate_left
      · intro W9 hSw; have q1 := (cell_of_row _ _ 1 _ _ _ hSw.choose_spec.2.2).trans rfl; go_simp; try (with_reducible rfl)
      try simp only [Act.put, List.setIfInBounds_toArray, List.set_cons_zero, List.set_cons_succ]
      refine wpAnyL_take (i := 10) (oi := { dst := some 36, op := .load 39 (.tmp 2), type := _, pos := _, after := _, guard := some (6, false) }) (v := ?_) rfl (by kernel_rfl) (by kernel_rfl) (by kernel_rfl) (fun _ _ _ h => h) (fun _ _ => Iff.rfl) hC (Or.inl ⟨by rfl, ?_⟩) hS (fun hC hS => ?_)
      rotate_left
      · intro W9 hSw; have q0 := (cell_of_row _ _ 0 _ _ _ hSw.choose_spec.2.2).trans rfl; have q1 := (cell_of_row _ _ 1 _ _ _ hSw.choose_spec.2.2).trans rfl; have q2 := (cell_of_row _ _ 2 _ _ _ hSw.choose_spec.2.2).trans rfl; have q3 := (cell_of_row _ _ 3 _ _ _ hSw.choose_spec.2.2).trans rfl; have q4 := (cell_of_row _ _ 4 _ _ _ hSw.choose_spec.2.2).trans rfl; have q5 := (cell_of_row _ _ 5 _ _ _ hSw.choose_spec.2.2).trans rfl; go_simp; try (with_reducible rfl)
      try simp only [Act.put, List.setIfInBounds_toArray, List.set_cons_zero, List.set_cons_succ]
      refine wpAnyL_ready (rs := [11]) (by kernel_rfl) (by simp) hC ?_
      refine AllReadyL.cons (o := { dst := some 37, op := .call { callee := .value (.func 21), args := #[.tmp 36], argTypes := #[39] }, type := _, pos := _, after := _, guard := some (6, false) }) rfl (fun K9 hK => ?_) ?_
      · skip
        go_simp
        refine (HTX.out _).mono ?_
        rintro e v1 ⟨rfl, hb9⟩
        have HBv1 := Lib.hid (HB5.out.trans (hb9.mono HB5.out.size))
        have HXv1 := Lib.hid (blk_below HX5.out hb9)
        have HIv1 := Lib.hid (blk_below HI5.out hb9)
        have HNv1 := Lib.hid (HN5.out.kept hb9)
        clear hb9 HB5 HX5 HI5 HN5
        refine hK _ _ HXv1.out (fun hC => ?_)
        clear hK K9
        try simp only [Act.put, List.setIfInBounds_toArray, List.set_cons_zero, List.set_cons_succ]
        refine wpAnyL_ready (rs := [12]) (by kernel_rfl) (by simp) hC ?_
        refine AllReadyL.cons (o := { dst := some 38, op := .call { callee := .value (.func 20), args := #[.tmp 33, .tmp 35, .tmp 37], argTypes := #[25, 3, 9] }, type := _, pos := _, after := _, guard := some (6, false) }) rfl (fun K9 hK => ?_) ?_
        · skip
          go_simp
          refine (nwrite HNv1.out at0 tx).mono ?_
          rintro e v2 ⟨rfl, hb9⟩
          have HBv2 := Lib.hid (HBv1.out.trans (hb9.mono HBv1.out.size))
          have HXv2 := Lib.hid (blk_below HXv1.out hb9)
          have HIv2 := Lib.hid (blk_below HIv1.out hb9)
          have HNv2 := Lib.hid (HNv1.out.kept hb9)
          clear hb9 HBv1 HXv1 HIv1 HNv1
          refine hK _ _ HXv2.out (fun hC => ?_)
          clear hK K9
          try simp only [Act.put, List.setIfInBounds_toArray, List.set_cons_zero, List.set_cons_succ]
          refine wpAnyL_take (i := 13) (oi := { dst := some 39, op := .binOp .neq 26 (.tmp 38) (.const (.int Go.IntKind.i64 1)) 26, type := _, pos := _, after := _, guard := some (6, false) }) (v := ?_) rfl (by kernel_rfl) (by kernel_rfl) (by kernel_rfl) (fun _ _ _ h => h) (fun _ _ => Iff.rfl) hC (Or.inl ⟨by rfl, ?_⟩) HXv2.out (fun hC hS => ?_)
          rotate_left
          · intro W9 hSw; skip; go_simp; try (with_reducible rfl)
          try simp only [Act.put, List.setIfInBounds_toArray, List.set_cons_zero, List.set_cons_succ]
          refine wpAnyL_take (i := 14) (oi := { dst := some 40, op := .pick (.tmp 32) (.const (.bool true)) (.tmp 39), type := _, pos := _, after := _, guard := none }) (v := ?_) rfl (by kernel_rfl) (by kernel_rfl) (by kernel_rfl) (fun _ _ _ h => h) (fun _ _ => Iff.rfl) hC (Or.inl ⟨by rfl, ?_⟩) HXv2.out (fun hC hS => ?_)
          rotate_left
          · intro W9 hSw; skip; go_simp; try (with_reducible rfl)
          try simp only [Act.put, List.setIfInBounds_toArray, List.set_cons_zero, List.set_cons_succ]
          refine wpAnyL_take (i := 15) (oi := { dst := some 41, op := .move (.tmp 40), type := _, pos := _, after := _, guard := none }) (v := ?_) rfl (by kernel_rfl) (by kernel_rfl) (by kernel_rfl) (fun _ _ _ h => h) (fun _ _ => Iff.rfl) hC (Or.inl ⟨by rfl, ?_⟩) HXv2.out (fun hC hS => ?_)
          rotate_left
          · intro W9 hSw; skip; go_simp; try (with_reducible rfl)
          try simp only [Act.put, List.setIfInBounds_toArray, List.set_cons_zero, List.set_cons_succ]
          refine wpAnyL_take (i := 16) (oi := { dst := some 42, op := .move (.tmp 5), type := _, pos := _, after := _, guard := some (15, false) }) (v := ?_) rfl (by kernel_rfl) (by kernel_rfl) (by kernel_rfl) (fun _ _ _ h => h) (fun _ _ => Iff.rfl) hC (Or.inl ⟨by rfl, ?_⟩) HXv2.out (fun hC hS => ?_)
          rotate_left
          · intro W9 hSw; skip; go_simp; try (with_reducible rfl)
          try simp only [Act.put, List.setIfInBounds_toArray, List.set_cons_zero, List.set_cons_succ]
          refine wpAnyL_ready (rs := [17]) (by kernel_rfl) (by simp) hC ?_
          refine AllReadyL.cons (o := { dst := some 43, op := .call { callee := .value (.func 19), args := #[.tmp 42], argTypes := #[25] }, type := _, pos := _, after := _, guard := some (15, false) }) rfl (fun K9 hK => ?_) ?_
          · skip
            go_simp
            refine (nflush HNv2.out).mono ?_
            rintro e v3 ⟨rfl, hb9⟩
            have HBv3 := Lib.hid (HBv2.out.trans (hb9.mono HBv2.out.size))
            have HXv3 := Lib.hid (blk_below HXv2.out hb9)
            have HIv3 := Lib.hid (blk_below HIv2.out hb9)
            have HNv3 := Lib.hid (HNv2.out.kept hb9)
            clear hb9 HBv2 HXv2 HIv2 HNv2
            refine hK _ _ HXv3.out (fun hC => ?_)
            clear hK K9
            try simp only [Act.put, List.setIfInBounds_toArray, List.set_cons_zero, List.set_cons_succ]
            refine wpAnyL_take (i := 18) (oi := { dst := some 44, op := .binOp .neq 26 (.tmp 43) (.const (.int Go.IntKind.i64 1)) 26, type := _, pos := _, after := _, guard := some (15, false) }) (v := ?_) rfl (by kernel_rfl) (by kernel_rfl) (by kernel_rfl) (fun _ _ _ h => h) (fun _ _ => Iff.rfl) hC (Or.inl ⟨by rfl, ?_⟩) HXv3.out (fun hC hS => ?_)
            rotate_left
            · intro W9 hSw; skip; go_simp; try (with_reducible rfl)
            try simp only [Act.put, List.setIfInBounds_toArray, List.set_cons_zero, List.set_cons_succ]
            refine wpAnyL_take (i := 19) (oi := { dst := some 45, op := .pick (.tmp 41) (.const (.bool true)) (.tmp 44), type := _, pos := _, after := _, guard := none }) (v := ?_) rfl (by kernel_rfl) (by kernel_rfl) (by kernel_rfl) (fun _ _ _ h => h) (fun _ _ => Iff.rfl) hC (Or.inl ⟨by rfl, ?_⟩) HXv3.out (fun hC hS => ?_)
            rotate_left
            · intro W9 hSw; skip; go_simp; try (with_reducible rfl)
            try simp only [Act.put, List.setIfInBounds_toArray, List.set_cons_zero, List.set_cons_succ]
            refine wpAnyL_take (i := 20) (oi := { dst := some 46, op := .move (.tmp 45), type := _, pos := _, after := _, guard := none }) (v := ?_) rfl (by kernel_rfl) (by kernel_rfl) (by kernel_rfl) (fun _ _ _ h => h) (fun _ _ => Iff.rfl) hC (Or.inl ⟨by rfl, ?_⟩) HXv3.out (fun hC hS => ?_)
            rotate_left
            · intro W9 hSw; skip; go_simp; try (with_reducible rfl)
            try simp only [Act.put, List.setIfInBounds_toArray, List.set_cons_zero, List.set_cons_succ]
            refine wpAnyL_take (i := 21) (oi := { dst := some 47, op := .move (.tmp 5), type := _, pos := _, after := _, guard := some (20, false) }) (v := ?_) rfl (by kernel_rfl) (by kernel_rfl) (by kernel_rfl) (fun _ _ _ h => h) (fun _ _ => Iff.rfl) hC (Or.inl ⟨by rfl, ?_⟩) HXv3.out (fun hC hS => ?_)
            rotate_left
            · intro W9 hSw; skip; go_simp; try (with_reducible rfl)
            try simp only [Act.put, List.setIfInBounds_toArray, List.set_cons_zero, List.set_cons_succ]
            refine wpAnyL_take (i := 22) (oi := { dst := some 48, op := .fieldAddr 39 (.tmp 2) 2, type := _, pos := _, after := _, guard := some (20, false) }) (v := ?_) rfl (by kernel_rfl) (by kernel_rfl) (by kernel_rfl) (fun _ _ _ h => h) (fun _ _ => Iff.rfl) hC (Or.inl ⟨by rfl, ?_⟩) HXv3.out (fun hC hS => ?_)
            rotate_left
            · intro W9 hSw; skip; go_simp; try (with_reducible rfl)
            try simp only [Act.put, List.setIfInBounds_toArray, List.set_cons_zero, List.set_cons_succ]
            refine wpAnyL_take (i := 23) (oi := { dst := some 49, op := .load 3 (.tmp 48), type := _, pos := _, after := _, guard := some (20, false) }) (v := ?_) rfl (by kernel_rfl) (by kernel_rfl) (by kernel_rfl) (fun _ _ _ h => h) (fun _ _ => Iff.rfl) hC (Or.inl ⟨by rfl, ?_⟩) HXv3.out (fun hC hS => ?_)
            rotate_left
            · intro W9 hSw; have q2 := (cell_of_row _ _ 2 _ _ _ hSw.choose_spec.2.2).trans rfl; go_simp; try (with_reducible rfl)
            try simp only [Act.put, List.setIfInBounds_toArray, List.set_cons_zero, List.set_cons_succ]
            refine wpAnyL_ready (rs := [24]) (by kernel_rfl) (by simp) hC ?_
            refine AllReadyL.cons (o := { dst := some 50, op := .call { callee := .value (.func 25), args := #[.tmp 47, .tmp 49], argTypes := #[25, 3] }, type := _, pos := _, after := _, guard := some (20, false) }) rfl (fun K9 hK => ?_) ?_
            · skip
              go_simp
              refine (narm HNv3.out nn).mono ?_
              rintro e v4 ⟨rfl, hb9⟩
              have HBv4 := Lib.hid (HBv3.out.trans (hb9.mono HBv3.out.size))
              have HXv4 := Lib.hid (blk_below HXv3.out hb9)
              have HIv4 := Lib.hid (blk_below HIv3.out hb9)
              have HNv4 := Lib.hid (HNv3.out.kept hb9)
              clear hb9 HBv3 HXv3 HIv3 HNv3
              refine hK _ _ HXv4.out (fun hC => ?_)
              clear hK K9
              try simp only [Act.put, List.setIfInBounds_toArray, List.set_cons_zero, List.set_cons_succ]
              refine wpAnyL_take (i := 25) (oi := { dst := some 51, op := .binOp .neq 26 (.tmp 50) (.const (.int Go.IntKind.i64 1)) 26, type := _, pos := _, after := _, guard := some (20, false) }) (v := ?_) rfl (by kernel_rfl) (by kernel_rfl) (by kernel_rfl) (fun _ _ _ h => h) (fun _ _ => Iff.rfl) hC (Or.inl ⟨by rfl, ?_⟩) HXv4.out (fun hC hS => ?_)
              rotate_left
              · intro W9 hSw; skip; go_simp; try (with_reducible rfl)
              try simp only [Act.put, List.setIfInBounds_toArray, List.set_cons_zero, List.set_cons_succ]
              refine wpAnyL_take (i := 26) (oi := { dst := some 52, op := .pick (.tmp 46) (.const (.bool true)) (.tmp 51), type := _, pos := _, after := _, guard := none }) (v := ?_) rfl (by kernel_rfl) (by kernel_rfl) (by kernel_rfl) (fun _ _ _ h => h) (fun _ _ => Iff.rfl) hC (Or.inl ⟨by rfl, ?_⟩) HXv4.out (fun hC hS => ?_)
              rotate_left
              · intro W9 hSw; skip; go_simp; try (with_reducible rfl)
              try simp only [Act.put, List.setIfInBounds_toArray, List.set_cons_zero, List.set_cons_succ]
              refine wpAnyL_take (i := 27) (oi := { dst := some 53, op := .move (.tmp 52), type := _, pos := _, after := _, guard := none }) (v := ?_) rfl (by kernel_rfl) (by kernel_rfl) (by kernel_rfl) (fun _ _ _ h => h) (fun _ _ => Iff.rfl) hC (Or.inl ⟨by rfl, ?_⟩) HXv4.out (fun hC hS => ?_)
              rotate_left
              · intro W9 hSw; skip; go_simp; try (with_reducible rfl)
              try simp only [Act.put, List.setIfInBounds_toArray, List.set_cons_zero, List.set_cons_succ]
              refine wpAnyL_take (i := 28) (oi := { dst := some 54, op := .move (.tmp 5), type := _, pos := _, after := _, guard := some (27, false) }) (v := ?_) rfl (by kernel_rfl) (by kernel_rfl) (by kernel_rfl) (fun _ _ _ h => h) (fun _ _ => Iff.rfl) hC (Or.inl ⟨by rfl, ?_⟩) HXv4.out (fun hC hS => ?_)
              rotate_left
              · intro W9 hSw; skip; go_simp; try (with_reducible rfl)
              try simp only [Act.put, List.setIfInBounds_toArray, List.set_cons_zero, List.set_cons_succ]
              refine wpAnyL_take (i := 29) (oi := { dst := some 55, op := .fieldAddr 39 (.tmp 2) 5, type := _, pos := _, after := _, guard := some (27, false) }) (v := ?_) rfl (by kernel_rfl) (by kernel_rfl) (by kernel_rfl) (fun _ _ _ h => h) (fun _ _ => Iff.rfl) hC (Or.inl ⟨by rfl, ?_⟩) HXv4.out (fun hC hS => ?_)
              rotate_left
              · intro W9 hSw; skip; go_simp; try (with_reducible rfl)
              try simp only [Act.put, List.setIfInBounds_toArray, List.set_cons_zero, List.set_cons_succ]
              refine wpAnyL_take (i := 30) (oi := { dst := some 56, op := .load 37 (.tmp 55), type := _, pos := _, after := _, guard := some (27, false) }) (v := ?_) rfl (by kernel_rfl) (by kernel_rfl) (by kernel_rfl) (fun _ _ _ h => h) (fun _ _ => Iff.rfl) hC (Or.inl ⟨by rfl, ?_⟩) HXv4.out (fun hC hS => ?_)
              rotate_left
              · intro W9 hSw; have q5 := (cell_of_row _ _ 5 _ _ _ hSw.choose_spec.2.2).trans rfl; go_simp; try (with_reducible rfl)
              try simp only [Act.put, List.setIfInBounds_toArray, List.set_cons_zero, List.set_cons_succ]
              refine wpAnyL_ready (rs := [31]) (by kernel_rfl) (by simp) hC ?_
              refine AllReadyL.cons (o := { dst := some 57, op := .call { callee := .value (.func 22), args := #[.tmp 54, .tmp 56], argTypes := #[25, 37] }, type := _, pos := _, after := _, guard := some (27, false) }) rfl (fun K9 hK => ?_) ?_
              · skip
                go_simp
                refine (ncrash HNv4.out ka kan kac).mono ?_
                rintro e v5 ⟨rfl, hb9⟩
                have HBv5 := Lib.hid (HBv4.out.trans (hb9.mono HBv4.out.size))
                have HXv5 := Lib.hid (blk_below HXv4.out hb9)
                have HIv5 := Lib.hid (blk_below HIv4.out hb9)
                have HNv5 := Lib.hid (HNv4.out.kept hb9)
                clear hb9 HBv4 HXv4 HIv4 HNv4
                refine hK _ _ HXv5.out (fun hC => ?_)
                clear hK K9
                try simp only [Act.put, List.setIfInBounds_toArray, List.set_cons_zero, List.set_cons_succ]
                refine wpAnyL_take (i := 32) (oi := { dst := some 58, op := .binOp .neq 26 (.tmp 57) (.const (.int Go.IntKind.i64 1)) 26, type := _, pos := _, after := _, guard := some (27, false) }) (v := ?_) rfl (by kernel_rfl) (by kernel_rfl) (by kernel_rfl) (fun _ _ _ h => h) (fun _ _ => Iff.rfl) hC (Or.inl ⟨by rfl, ?_⟩) HXv5.out (fun hC hS => ?_)
                rotate_left
                · intro W9 hSw; skip; go_simp; try (with_reducible rfl)
                try simp only [Act.put, List.setIfInBounds_toArray, List.set_cons_zero, List.set_cons_succ]
                refine wpAnyL_take (i := 33) (oi := { dst := some 59, op := .pick (.tmp 53) (.const (.bool true)) (.tmp 58), type := _, pos := _, after := _, guard := none }) (v := ?_) rfl (by kernel_rfl) (by kernel_rfl) (by kernel_rfl) (fun _ _ _ h => h) (fun _ _ => Iff.rfl) hC (Or.inl ⟨by rfl, ?_⟩) HXv5.out (fun hC hS => ?_)
                rotate_left
                · intro W9 hSw; skip; go_simp; try (with_reducible rfl)
                try simp only [Act.put, List.setIfInBounds_toArray, List.set_cons_zero, List.set_cons_succ]
                refine wpAnyL_take (i := 34) (oi := { dst := some 60, op := .move (.tmp 59), type := _, pos := _, after := _, guard := none }) (v := ?_) rfl (by kernel_rfl) (by kernel_rfl) (by kernel_rfl) (fun _ _ _ h => h) (fun _ _ => Iff.rfl) hC (Or.inl ⟨by rfl, ?_⟩) HXv5.out (fun hC hS => ?_)
                rotate_left
                · intro W9 hSw; skip; go_simp; try (with_reducible rfl)
                try simp only [Act.put, List.setIfInBounds_toArray, List.set_cons_zero, List.set_cons_succ]
                refine wpAnyL_take (i := 35) (oi := { dst := some 61, op := .move (.tmp 5), type := _, pos := _, after := _, guard := some (34, false) }) (v := ?_) rfl (by kernel_rfl) (by kernel_rfl) (by kernel_rfl) (fun _ _ _ h => h) (fun _ _ => Iff.rfl) hC (Or.inl ⟨by rfl, ?_⟩) HXv5.out (fun hC hS => ?_)
                rotate_left
                · intro W9 hSw; skip; go_simp; try (with_reducible rfl)
                try simp only [Act.put, List.setIfInBounds_toArray, List.set_cons_zero, List.set_cons_succ]
                refine wpAnyL_ready (rs := [36]) (by kernel_rfl) (by simp) hC ?_
                refine AllReadyL.cons (o := { dst := some 62, op := .call { callee := .value (.func 18), args := #[.tmp 61], argTypes := #[25] }, type := _, pos := _, after := _, guard := some (34, false) }) rfl (fun K9 hK => ?_) ?_
                · skip
                  go_simp
                  refine (nboot HNv5.out).mono ?_
                  rintro e v6 ⟨rfl, hb9⟩
                  have HBv6 := Lib.hid (HBv5.out.trans (hb9.mono HBv5.out.size))
                  have HXv6 := Lib.hid (blk_below HXv5.out hb9)
                  have HIv6 := Lib.hid (blk_below HIv5.out hb9)
                  have HNv6 := Lib.hid (HNv5.out.kept hb9)
                  clear hb9 HBv5 HXv5 HIv5 HNv5
                  refine hK _ _ HXv6.out (fun hC => ?_)
                  clear hK K9
                  try simp only [Act.put, List.setIfInBounds_toArray, List.set_cons_zero, List.set_cons_succ]
                  refine wpAnyL_take (i := 37) (oi := { dst := some 63, op := .binOp .neq 26 (.tmp 62) (.const (.int Go.IntKind.i64 1)) 26, type := _, pos := _, after := _, guard := some (34, false) }) (v := ?_) rfl (by kernel_rfl) (by kernel_rfl) (by kernel_rfl) (fun _ _ _ h => h) (fun _ _ => Iff.rfl) hC (Or.inl ⟨by rfl, ?_⟩) HXv6.out (fun hC hS => ?_)
                  rotate_left
                  · intro W9 hSw; skip; go_simp; try (with_reducible rfl)
                  try simp only [Act.put, List.setIfInBounds_toArray, List.set_cons_zero, List.set_cons_succ]
                  refine wpAnyL_take (i := 38) (oi := { dst := some 64, op := .pick (.tmp 60) (.const (.bool true)) (.tmp 63), type := _, pos := _, after := _, guard := none }) (v := ?_) rfl (by kernel_rfl) (by kernel_rfl) (by kernel_rfl) (fun _ _ _ h => h) (fun _ _ => Iff.rfl) hC (Or.inl ⟨by rfl, ?_⟩) HXv6.out (fun hC hS => ?_)
                  rotate_left
                  · intro W9 hSw; skip; go_simp; try (with_reducible rfl)
                  try simp only [Act.put, List.setIfInBounds_toArray, List.set_cons_zero, List.set_cons_succ]
                  refine wpAnyL_done (by kernel_rfl) ?_ _
                  go_upto_region 10 with (fail)
                  clear hS hC
                  have HBv6 := Lib.hid HBv6.out.drew
                  have HNv6 := Lib.hid (HNv6.out.kept (Below.refl _ _).drew)
                  have HXv6 := Lib.hid (show v6.drew.heap[w.heap.size]? = some (.cells #[.int .i64 kd, .int .i64 at0, .int .i64 nn, .string t, .bool rw1, .slice ka kan kac] 39 (0, 0)) from HXv6.out)
                  have HIv6 := Lib.hid (show v6.drew.heap[y]? = some (.cells #[.slice none 0 0, .slice none 0 0] 32 (0, 0)) from HIv6.out)
                  refine wp_region_L_drew (S := fun _ W => W.heap[w.heap.size]? = some (.cells #[.int .i64 kd, .int .i64 at0, .int .i64 nn, .string t, .bool rw1, .slice ka kan kac] 39 (0, 0)) ∧ W.heap[y]? = some (.cells #[.slice none 0 0, .slice none 0 0] 32 (0, 0))) (by kernel_rfl) ⟨HXv6.out, HIv6.out⟩ (fun hS hC => ?_)
                  have hw0 : IntKind.i64.wrap (0 + 0) = 0 := by decide
                  generalize v6.drew = u0 at *
                  refine wpAnyL_take (i := 0) (oi := { dst := some 65, op := .move (.tmp 5), type := _, pos := _, after := _, guard := none }) (v := ?_) rfl (by kernel_rfl) (by kernel_rfl) (by kernel_rfl) (fun _ _ _ h => h) (fun _ _ => Iff.rfl) hC (Or.inl ⟨by rfl, ?_⟩) hS (fun hC hS => ?_)
                  rotate_left
                  · intro W9 hSw; skip; go_simp; try (with_reducible rfl)
                  try simp only [Act.put, List.setIfInBounds_toArray, List.set_cons_zero, List.set_cons_succ]
                  refine wpAnyL_take (i := 1) (oi := { dst := some 66, op := .fieldAddr 39 (.tmp 2) 1, type := _, pos := _, after := _, guard := none }) (v := ?_) rfl (by kernel_rfl) (by kernel_rfl) (by kernel_rfl) (fun _ _ _ h => h) (fun _ _ => Iff.rfl) hC (Or.inl ⟨by rfl, ?_⟩) hS (fun hC hS => ?_)
                  rotate_left
                  · intro W9 hSw; skip; go_simp; try (with_reducible rfl)
                  try simp only [Act.put, List.setIfInBounds_toArray, List.set_cons_zero, List.set_cons_succ]
                  refine wpAnyL_take (i := 2) (oi := { dst := some 67, op := .load 3 (.tmp 66), type := _, pos := _, after := _, guard := none }) (v := ?_) rfl (by kernel_rfl) (by kernel_rfl) (by kernel_rfl) (fun _ _ _ h => h) (fun _ _ => Iff.rfl) hC (Or.inl ⟨by rfl, ?_⟩) hS (fun hC hS => ?_)
                  rotate_left
                  · intro W9 hSw; have q1 := (cell_of_row _ _ 1 _ _ _ hSw.choose_spec.2.2.1).trans rfl; go_simp; try (with_reducible rfl)
                  try simp only [Act.put, List.setIfInBounds_toArray, List.set_cons_zero, List.set_cons_succ]
                  refine wpAnyL_take (i := 3) (oi := { dst := some 68, op := .load 39 (.tmp 2), type := _, pos := _, after := _, guard := none }) (v := ?_) rfl (by kernel_rfl) (by kernel_rfl) (by kernel_rfl) (fun _ _ _ h => h) (fun _ _ => Iff.rfl) hC (Or.inl ⟨by rfl, ?_⟩) hS (fun hC hS => ?_)
                  rotate_left
                  · intro W9 hSw; have q0 := (cell_of_row _ _ 0 _ _ _ hSw.choose_spec.2.2.1).trans rfl; have q1 := (cell_of_row _ _ 1 _ _ _ hSw.choose_spec.2.2.1).trans rfl; have q2 := (cell_of_row _ _ 2 _ _ _ hSw.choose_spec.2.2.1).trans rfl; have q3 := (cell_of_row _ _ 3 _ _ _ hSw.choose_spec.2.2.1).trans rfl; have q4 := (cell_of_row _ _ 4 _ _ _ hSw.choose_spec.2.2.1).trans rfl; have q5 := (cell_of_row _ _ 5 _ _ _ hSw.choose_spec.2.2.1).trans rfl; go_simp; try (with_reducible rfl)
                  try simp only [Act.put, List.setIfInBounds_toArray, List.set_cons_zero, List.set_cons_succ]
                  refine wpAnyL_ready (rs := [4]) (by kernel_rfl) (by simp) hC ?_
                  refine AllReadyL.cons (o := { dst := some 69, op := .call { callee := .value (.func 21), args := #[.tmp 68], argTypes := #[39] }, type := _, pos := _, after := _, guard := none }) rfl (fun K9 hK => ?_) ?_
                  · skip
                    go_simp
                    refine (HTX.out _).mono ?_
                    rintro e v7 ⟨rfl, hb9⟩
                    have HBv7 := Lib.hid (HBv6.out.trans (hb9.mono HBv6.out.size))
                    have HXv7 := Lib.hid (blk_below HXv6.out hb9)
                    have HIv7 := Lib.hid (blk_below HIv6.out hb9)
                    have HNv7 := Lib.hid (HNv6.out.kept hb9)
                    clear hb9 HBv6 HXv6 HIv6 HNv6
                    refine hK _ _ ⟨HXv7.out, HIv7.out⟩ (fun hC => ?_)
                    clear hK K9
                    try simp only [Act.put, List.setIfInBounds_toArray, List.set_cons_zero, List.set_cons_succ]
                    refine wpAnyL_ready (rs := [5]) (by kernel_rfl) (by simp) hC ?_
                    refine AllReadyL.cons (o := { dst := some 70, op := .call { callee := .value (.func 26), args := #[.tmp 65, .tmp 67, .tmp 69], argTypes := #[25, 3, 9] }, type := _, pos := _, after := _, guard := none }) rfl (fun K9 hK => ?_) ?_
                    · skip
                      go_simp
                      refine (nover HNv7.out at0 tx).mono ?_
                      rintro e v8 ⟨rfl, hb9⟩
                      have HBv8 := Lib.hid (HBv7.out.trans (hb9.mono HBv7.out.size))
                      have HXv8 := Lib.hid (blk_below HXv7.out hb9)
                      have HIv8 := Lib.hid (blk_below HIv7.out hb9)
                      have HNv8 := Lib.hid (HNv7.out.kept hb9)
                      clear hb9 HBv7 HXv7 HIv7 HNv7
                      refine hK _ _ ⟨HXv8.out, HIv8.out⟩ (fun hC => ?_)
                      clear hK K9
                      try simp only [Act.put, List.setIfInBounds_toArray, List.set_cons_zero, List.set_cons_succ]
                      refine wpAnyL_take (i := 6) (oi := { dst := some 71, op := .binOp .eql 26 (.tmp 70) (.const (.int Go.IntKind.i64 1)) 26, type := _, pos := _, after := _, guard := none }) (v := ?_) rfl (by kernel_rfl) (by kernel_rfl) (by kernel_rfl) (fun _ _ _ h => h) (fun _ _ => Iff.rfl) hC (Or.inl ⟨by rfl, ?_⟩) ⟨HXv8.out, HIv8.out⟩ (fun hC hS => ?_)
                      rotate_left
                      · intro W9 hSw; skip; go_simp; try (with_reducible rfl)
                      try simp only [Act.put, List.setIfInBounds_toArray, List.set_cons_zero, List.set_cons_succ]
                      refine wpAnyL_take (i := 7) (oi := { dst := some 72, op := .move (.tmp 71), type := _, pos := _, after := _, guard := none }) (v := ?_) rfl (by kernel_rfl) (by kernel_rfl) (by kernel_rfl) (fun _ _ _ h => h) (fun _ _ => Iff.rfl) hC (Or.inl ⟨by rfl, ?_⟩) ⟨HXv8.out, HIv8.out⟩ (fun hC hS => ?_)
                      rotate_left
                      · intro W9 hSw; skip; go_simp; try (with_reducible rfl)
                      try simp only [Act.put, List.setIfInBounds_toArray, List.set_cons_zero, List.set_cons_succ]
                      refine wpAnyL_take (i := 8) (oi := { dst := some 73, op := .fieldAddr 32 (.tmp 8) 0, type := _, pos := _, after := _, guard := some (7, true) }) (v := ?_) rfl (by kernel_rfl) (by kernel_rfl) (by kernel_rfl) (fun _ _ _ h => h) (fun _ _ => Iff.rfl) hC (Or.inl ⟨by rfl, ?_⟩) ⟨HXv8.out, HIv8.out⟩ (fun hC hS => ?_)
                      rotate_left
                      · intro W9 hSw; skip; go_simp; try (with_reducible rfl)
                      try simp only [Act.put, List.setIfInBounds_toArray, List.set_cons_zero, List.set_cons_succ]
                      refine wpAnyL_take (i := 9) (oi := { dst := some 74, op := .load 29 (.tmp 73), type := _, pos := _, after := _, guard := some (7, true) }) (v := ?_) rfl (by kernel_rfl) (by kernel_rfl) (by kernel_rfl) (fun _ _ _ h => h) (fun _ _ => Iff.rfl) hC (Or.inl ⟨by rfl, ?_⟩) ⟨HXv8.out, HIv8.out⟩ (fun hC hS => ?_)
                      rotate_left
                      · intro W9 hSw; have q0 := (cell_of_row _ _ 0 _ _ _ hSw.choose_spec.2.2.2).trans rfl; go_simp; try (with_reducible rfl)
                      try simp only [Act.put, List.setIfInBounds_toArray, List.set_cons_zero, List.set_cons_succ]
                      refine wpAnyL_take (i := 10) (oi := { dst := some 75, op := .call { callee := .builtin .len, args := #[.tmp 74], argTypes := #[29] }, type := _, pos := _, after := _, guard := some (7, true) }) (v := ?_) rfl (by kernel_rfl) (by kernel_rfl) (by kernel_rfl) (fun _ _ _ h => h) (fun _ _ => Iff.rfl) hC (Or.inl ⟨by rfl, ?_⟩) ⟨HXv8.out, HIv8.out⟩ (fun hC hS => ?_)
                      rotate_left
                      · intro W9 hSw; skip; go_simp; try (with_reducible rfl)
                      try simp only [Act.put, List.setIfInBounds_toArray, List.set_cons_zero, List.set_cons_succ]
                      refine wpAnyL_take (i := 11) (oi := { dst := some 76, op := .fieldAddr 32 (.tmp 8) 1, type := _, pos := _, after := _, guard := some (7, true) }) (v := ?_) rfl (by kernel_rfl) (by kernel_rfl) (by kernel_rfl) (fun _ _ _ h => h) (fun _ _ => Iff.rfl) hC (Or.inl ⟨by rfl, ?_⟩) ⟨HXv8.out, HIv8.out⟩ (fun hC hS => ?_)
                      rotate_left
                      · intro W9 hSw; skip; go_simp; try (with_reducible rfl)
                      try simp only [Act.put, List.setIfInBounds_toArray, List.set_cons_zero, List.set_cons_succ]
                      refine wpAnyL_take (i := 12) (oi := { dst := some 77, op := .load 30 (.tmp 76), type := _, pos := _, after := _, guard := some (7, true) }) (v := ?_) rfl (by kernel_rfl) (by kernel_rfl) (by kernel_rfl) (fun _ _ _ h => h) (fun _ _ => Iff.rfl) hC (Or.inl ⟨by rfl, ?_⟩) ⟨HXv8.out, HIv8.out⟩ (fun hC hS => ?_)
                      rotate_left
                      · intro W9 hSw; have q1 := (cell_of_row _ _ 1 _ _ _ hSw.choose_spec.2.2.2).trans rfl; go_simp; try (with_reducible rfl)
                      try simp only [Act.put, List.setIfInBounds_toArray, List.set_cons_zero, List.set_cons_succ]
                      refine wpAnyL_take (i := 13) (oi := { dst := some 78, op := .call { callee := .builtin .len, args := #[.tmp 77], argTypes := #[30] }, type := _, pos := _, after := _, guard := some (7, true) }) (v := ?_) rfl (by kernel_rfl) (by kernel_rfl) (by kernel_rfl) (fun _ _ _ h => h) (fun _ _ => Iff.rfl) hC (Or.inl ⟨by rfl, ?_⟩) ⟨HXv8.out, HIv8.out⟩ (fun hC hS => ?_)
                      rotate_left
                      · intro W9 hSw; skip; go_simp; try (with_reducible rfl)
                      try simp only [Act.put, List.setIfInBounds_toArray, List.set_cons_zero, List.set_cons_succ]
                      refine wpAnyL_take (i := 14) (oi := { dst := some 79, op := .binOp .add 3 (.tmp 75) (.tmp 78) 3, type := _, pos := _, after := _, guard := some (7, true) }) (v := ?_) rfl (by kernel_rfl) (by kernel_rfl) (by kernel_rfl) (fun _ _ _ h => h) (fun _ _ => Iff.rfl) hC (Or.inl ⟨by rfl, ?_⟩) ⟨HXv8.out, HIv8.out⟩ (fun hC hS => ?_)
                      rotate_left
                      · intro W9 hSw; skip; go_simp; try (with_reducible rfl)
                      try simp only [Act.put, List.setIfInBounds_toArray, List.set_cons_zero, List.set_cons_succ]
                      refine wpAnyL_take (i := 15) (oi := { dst := some 80, op := .move (.tmp 5), type := _, pos := _, after := _, guard := some (7, true) }) (v := ?_) rfl (by kernel_rfl) (by kernel_rfl) (by kernel_rfl) (fun _ _ _ h => h) (fun _ _ => Iff.rfl) hC (Or.inl ⟨by rfl, ?_⟩) ⟨HXv8.out, HIv8.out⟩ (fun hC hS => ?_)
                      rotate_left
                      · intro W9 hSw; skip; go_simp; try (with_reducible rfl)
                      try simp only [Act.put, List.setIfInBounds_toArray, List.set_cons_zero, List.set_cons_succ]
                      refine wpAnyL_take (i := 18) (oi := { dst := some 83, op := .move (.tmp 5), type := _, pos := _, after := _, guard := some (7, true) }) (v := ?_) rfl (by kernel_rfl) (by kernel_rfl) (by kernel_rfl) (fun _ _ _ h => h) (fun _ _ => Iff.rfl) hC (Or.inl ⟨by rfl, ?_⟩) ⟨HXv8.out, HIv8.out⟩ (fun hC hS => ?_)
                      rotate_left
                      · intro W9 hSw; skip; go_simp; try (with_reducible rfl)
                      try simp only [Act.put, List.setIfInBounds_toArray, List.set_cons_zero, List.set_cons_succ]
                      refine wpAnyL_ready (rs := [16]) (by kernel_rfl) (by simp) hC ?_
                      refine AllReadyL.cons (o := { dst := some 81, op := .call { callee := .value (.func 27), args := #[.tmp 80], argTypes := #[25] }, type := _, pos := _, after := _, guard := some (7, true) }) rfl (fun K9 hK => ?_) ?_
                      · skip
                        go_simp
                        refine (nsize HNv8.out).mono ?_
                        rintro e v9 ⟨rfl, hb9⟩
                        have HBv9 := Lib.hid (HBv8.out.trans (hb9.mono HBv8.out.size))
                        have HXv9 := Lib.hid (blk_below HXv8.out hb9)
                        have HIv9 := Lib.hid (blk_below HIv8.out hb9)
                        have HNv9 := Lib.hid (HNv8.out.kept hb9)
                        clear hb9 HBv8 HXv8 HIv8 HNv8
                        refine hK _ _ ⟨HXv9.out, HIv9.out⟩ (fun hC => ?_)
                        clear hK K9
                        try simp only [Act.put, List.setIfInBounds_toArray, List.set_cons_zero, List.set_cons_succ]
                        refine wpAnyL_take (i := 17) (oi := { dst := some 82, op := .binOp .add 3 (.tmp 79) (.tmp 81) 3, type := _, pos := _, after := _, guard := some (7, true) }) (v := ?_) rfl (by kernel_rfl) (by kernel_rfl) (by kernel_rfl) (fun _ _ _ h => h) (fun _ _ => Iff.rfl) hC (Or.inl ⟨by rfl, ?_⟩) ⟨HXv9.out, HIv9.out⟩ (fun hC hS => ?_)
                        rotate_left
                        · intro W9 hSw; skip; go_simp; try (with_reducible rfl)
                        try simp only [Act.put, List.setIfInBounds_toArray, List.set_cons_zero, List.set_cons_succ]
                        refine wpAnyL_ready (rs := [19]) (by kernel_rfl) (by simp) hC ?_
                        refine AllReadyL.cons (o := { dst := some 84, op := .call { callee := .value (.func 28), args := #[.tmp 83], argTypes := #[25] }, type := _, pos := _, after := _, guard := some (7, true) }) rfl (fun K9 hK => ?_) ?_
                        · skip
                          go_simp
                          refine (nops HNv9.out).mono ?_
                          rintro e v10 ⟨rfl, hb9⟩
                          have HBv10 := Lib.hid (HBv9.out.trans (hb9.mono HBv9.out.size))
                          have HXv10 := Lib.hid (blk_below HXv9.out hb9)
                          have HIv10 := Lib.hid (blk_below HIv9.out hb9)
                          have HNv10 := Lib.hid (HNv9.out.kept hb9)
                          clear hb9 HBv9 HXv9 HIv9 HNv9
                          refine hK _ _ ⟨HXv10.out, HIv10.out⟩ (fun hC => ?_)
                          clear hK K9
                          try simp only [Act.put, List.setIfInBounds_toArray, List.set_cons_zero, List.set_cons_succ]
                          refine wpAnyL_take (i := 20) (oi := { dst := some 85, op := .binOp .add 3 (.tmp 82) (.tmp 84) 3, type := _, pos := _, after := _, guard := some (7, true) }) (v := ?_) rfl (by kernel_rfl) (by kernel_rfl) (by kernel_rfl) (fun _ _ _ h => h) (fun _ _ => Iff.rfl) hC (Or.inl ⟨by rfl, ?_⟩) ⟨HXv10.out, HIv10.out⟩ (fun hC hS => ?_)
                          rotate_left
                          · intro W9 hSw; skip; go_simp; try (with_reducible rfl)
                          try simp only [Act.put, List.setIfInBounds_toArray, List.set_cons_zero, List.set_cons_succ]
                          refine wpAnyL_take (i := 21) (oi := { dst := some 86, op := .binOp .eql 3 (.tmp 85) (.const (.int Go.IntKind.i64 0)) 3, type := _, pos := _, after := _, guard := some (7, true) }) (v := ?_) rfl (by kernel_rfl) (by kernel_rfl) (by kernel_rfl) (fun _ _ _ h => h) (fun _ _ => Iff.rfl) hC (Or.inl ⟨by rfl, ?_⟩) ⟨HXv10.out, HIv10.out⟩ (fun hC hS => ?_)
                          rotate_left
                          · intro W9 hSw; skip; go_simp; try (with_reducible rfl)
                          try simp only [Act.put, List.setIfInBounds_toArray, List.set_cons_zero, List.set_cons_succ]
                          refine wpAnyL_take (i := 22) (oi := { dst := some 87, op := .pick (.tmp 72) (.tmp 86) (.const (.bool false)), type := _, pos := _, after := _, guard := none }) (v := ?_) rfl (by kernel_rfl) (by kernel_rfl) (by kernel_rfl) (fun _ _ _ h => h) (fun _ _ => Iff.rfl) hC (Or.inl ⟨by rfl, ?_⟩) ⟨HXv10.out, HIv10.out⟩ (fun hC hS => ?_)
                          rotate_left
                          · intro W9 hSw; skip; go_simp; try (with_reducible rfl)
                          try simp only [Act.put, List.setIfInBounds_toArray, List.set_cons_zero, List.set_cons_succ]
                          refine wpAnyL_take (i := 23) (oi := { dst := some 88, op := .move (.tmp 87), type := _, pos := _, after := _, guard := none }) (v := ?_) rfl (by kernel_rfl) (by kernel_rfl) (by kernel_rfl) (fun _ _ _ h => h) (fun _ _ => Iff.rfl) hC (Or.inl ⟨by rfl, ?_⟩) ⟨HXv10.out, HIv10.out⟩ (fun hC hS => ?_)
                          rotate_left
                          · intro W9 hSw; skip; go_simp; try (with_reducible rfl)
                          try simp only [Act.put, List.setIfInBounds_toArray, List.set_cons_zero, List.set_cons_succ]
                          refine wpAnyL_take (i := 24) (oi := { dst := some 89, op := .move (.tmp 5), type := _, pos := _, after := _, guard := some (23, true) }) (v := ?_) rfl (by kernel_rfl) (by kernel_rfl) (by kernel_rfl) (fun _ _ _ h => h) (fun _ _ => Iff.rfl) hC (Or.inl ⟨by rfl, ?_⟩) ⟨HXv10.out, HIv10.out⟩ (fun hC hS => ?_)
                          rotate_left
                          · intro W9 hSw; skip; go_simp; try (with_reducible rfl)
                          try simp only [Act.put, List.setIfInBounds_toArray, List.set_cons_zero, List.set_cons_succ]
                          refine wpAnyL_ready (rs := [25]) (by kernel_rfl) (by simp) hC ?_
                          refine AllReadyL.cons (o := { dst := some 90, op := .call { callee := .value (.func 23), args := #[.tmp 89], argTypes := #[25] }, type := _, pos := _, after := _, guard := some (23, true) }) rfl (fun K9 hK => ?_) ?_
                          · skip
                            go_simp
                            refine (ndown HNv10.out).mono ?_
                            rintro e v11 ⟨rfl, hb9⟩
                            have HBv11 := Lib.hid (HBv10.out.trans (hb9.mono HBv10.out.size))
                            have HXv11 := Lib.hid (blk_below HXv10.out hb9)
                            have HIv11 := Lib.hid (blk_below HIv10.out hb9)
                            have HNv11 := Lib.hid (HNv10.out.kept hb9)
                            clear hb9 HBv10 HXv10 HIv10 HNv10
                            refine hK _ _ ⟨HXv11.out, HIv11.out⟩ (fun hC => ?_)
                            clear hK K9
                            try simp only [Act.put, List.setIfInBounds_toArray, List.set_cons_zero, List.set_cons_succ]
                            refine wpAnyL_take (i := 26) (oi := { dst := some 91, op := .unOp .not 4 (.tmp 90), type := _, pos := _, after := _, guard := some (23, true) }) (v := ?_) rfl (by kernel_rfl) (by kernel_rfl) (by kernel_rfl) (fun _ _ _ h => h) (fun _ _ => Iff.rfl) hC (Or.inl ⟨by rfl, ?_⟩) ⟨HXv11.out, HIv11.out⟩ (fun hC hS => ?_)
                            rotate_left
                            · intro W9 hSw; skip; go_simp; try (with_reducible rfl)
                            try simp only [Act.put, List.setIfInBounds_toArray, List.set_cons_zero, List.set_cons_succ]
                            refine wpAnyL_take (i := 27) (oi := { dst := some 92, op := .pick (.tmp 88) (.tmp 91) (.const (.bool false)), type := _, pos := _, after := _, guard := none }) (v := ?_) rfl (by kernel_rfl) (by kernel_rfl) (by kernel_rfl) (fun _ _ _ h => h) (fun _ _ => Iff.rfl) hC (Or.inl ⟨by rfl, ?_⟩) ⟨HXv11.out, HIv11.out⟩ (fun hC hS => ?_)
                            rotate_left
                            · intro W9 hSw; skip; go_simp; try (with_reducible rfl)
                            try simp only [Act.put, List.setIfInBounds_toArray, List.set_cons_zero, List.set_cons_succ]
                            refine wpAnyL_take (i := 28) (oi := { dst := some 93, op := .move (.tmp 92), type := _, pos := _, after := _, guard := none }) (v := ?_) rfl (by kernel_rfl) (by kernel_rfl) (by kernel_rfl) (fun _ _ _ h => h) (fun _ _ => Iff.rfl) hC (Or.inl ⟨by rfl, ?_⟩) ⟨HXv11.out, HIv11.out⟩ (fun hC hS => ?_)
                            rotate_left
                            · intro W9 hSw; skip; go_simp; try (with_reducible rfl)
                            try simp only [Act.put, List.setIfInBounds_toArray, List.set_cons_zero, List.set_cons_succ]
                            refine wpAnyL_ready (rs := [29]) (by kernel_rfl) (by simp) hC ?_
                            refine AllReadyL.cons (o := { dst := some 94, op := .call { callee := .value (.func 9), args := #[], argTypes := #[] }, type := _, pos := _, after := _, guard := some (28, true) }) rfl (fun K9 hK => ?_) ?_
                            · skip
                              go_simp
                              refine (awake7_any _).mono ?_
                              rintro e v12 ⟨rfl, hb9⟩
                              have HBv12 := Lib.hid (HBv11.out.trans (hb9.mono HBv11.out.size))
                              have HXv12 := Lib.hid (blk_below HXv11.out hb9)
                              have HIv12 := Lib.hid (blk_below HIv11.out hb9)
                              have HNv12 := Lib.hid (HNv11.out.kept hb9)
                              clear hb9 HBv11 HXv11 HIv11 HNv11
                              refine hK _ _ ⟨HXv12.out, HIv12.out⟩ (fun hC => ?_)
                              clear hK K9
                              try simp only [Act.put, List.setIfInBounds_toArray, List.set_cons_zero, List.set_cons_succ]
                              refine wpAnyL_take (i := 30) (oi := { dst := some 95, op := .pick (.tmp 93) (.tmp 94) (.const (.bool false)), type := _, pos := _, after := _, guard := none }) (v := ?_) rfl (by kernel_rfl) (by kernel_rfl) (by kernel_rfl) (fun _ _ _ h => h) (fun _ _ => Iff.rfl) hC (Or.inl ⟨by rfl, ?_⟩) ⟨HXv12.out, HIv12.out⟩ (fun hC hS => ?_)
                              rotate_left
                              · intro W9 hSw; skip; go_simp; try (with_reducible rfl)
                              try simp only [Act.put, List.setIfInBounds_toArray, List.set_cons_zero, List.set_cons_succ]
                              refine wpAnyL_take (i := 31) (oi := { dst := some 4, op := .assign (.tmp 95), type := _, pos := _, after := _, guard := none }) (v := ?_) rfl (by kernel_rfl) (by kernel_rfl) (by kernel_rfl) (fun _ _ _ h => h) (fun _ _ => Iff.rfl) hC (Or.inl ⟨by rfl, ?_⟩) ⟨HXv12.out, HIv12.out⟩ (fun hC hS => ?_)
                              rotate_left
                              · intro W9 hSw; skip; go_simp; try (with_reducible rfl)
                              try simp only [Act.put, List.setIfInBounds_toArray, List.set_cons_zero, List.set_cons_succ]
                              refine wpAnyL_done (by kernel_rfl) ?_ _
                              go_wp2_with fail
                              go_ret
                              exact ⟨rfl, HBv12.out⟩
                            exact AllReadyL.nil
                          exact AllReadyL.nil
                        exact AllReadyL.nil
                      exact AllReadyL.nil
                    exact AllReadyL.nil
                  exact AllReadyL.nil
                exact AllReadyL.nil
              exact AllReadyL.nil
            exact AllReadyL.nil
          exact AllReadyL.nil
        exact AllReadyL.nil
      exact AllReadyL.nil
end Go.Proofs.Ytiagbadnmkeokaa
