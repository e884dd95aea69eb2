/- The closure by which Write caches, over this translation. Condition: less than a million writes. -/
import Derived.Test.YtagenkofoacajaaDoorDLh
import Derived.Test.YtagenkofoacajaaDoorPo
import Derived.Test.YtagenkofoacajaaDoorOLb
namespace Go.Proofs.YtagenkofoacajaaDoor
open Go.RowKit Vi

/-- where a row that a struct was appended to lies -/
theorem OwX.sl0 {α : Type} {f : α → List Value} {s : Nat} {T : TypeId} {w : World} {B : Nat} {A : Option Addr} {n c : Nat} {l : List α} (h : OwX f s T w B (.slice A n c) l) : ∀ b o, A = some ⟨b, o, none⟩ → (Value.slice A n c).ownBlock = some b := by
  intro b o e
  rcases h.2 with ⟨q, _⟩ | ⟨g, _, _, q, _⟩
  · injection q with q _ _
    rw [e] at q; cases q
  · subst e
    rfl
theorem kd_app {D : Nat} {sa : Option Addr} {sn sc : Nat} {ca : Option Addr} {cn cc : Nat} {mk dn : Bool} {ops fu : Int} {A : Option Addr} {n c : Nat} {mk' dn' : Bool} {ops' fu' : Int} {w v w7 w8 : World} (_ : D < w.heap.size)
    (h : w.heap[D]? = some (dkO sa sn sc ca cn cc mk dn ops fu)) (h8 : w8.heap[D]? = some (dkO sa sn sc A n c mk' dn' ops' fu')) (hb : Below w.heap.size w v) (hg : v.grownBy w7 (Value.slice ca cn cc).ownBlock) (hk : KK [D] w7 w8)
    (how : ∀ g, (Value.slice ca cn cc).ownBlock = some g → ∃ o, ca = some ⟨g, o, none⟩) (ha : (Value.slice A n c).ownBlock = (Value.slice ca cn cc).ownBlock ∨ (Value.slice A n c).ownBlock = some v.heap.size) (hs : ∀ b o, A = some ⟨b, o, none⟩ → (Value.slice A n c).ownBlock = some b) : Kd D w w8 := by
  have hv := hb.size
  refine ⟨hk.os.trans (hg.os.trans hb.os), hk.tape.trans (hg.tape.trans hb.tape), hk.output.trans (hg.output.trans hb.output), Nat.le_trans hv (Nat.le_trans hg.size hk.size), fun b hbl hn => ?_, fun b hbl q => ?_⟩
  · rw [hk.block b (Nat.lt_of_lt_of_le hbl (Nat.le_trans hv hg.size)) (fun e => hn (by obtain rfl : b = D := (by simpa using e); exact .inl rfl))]
    rw [hg.block b (Nat.lt_of_lt_of_le hbl hv) (fun e => by
      obtain ⟨o, q⟩ := how b (by first | exact e | exact e.symm)
      subst q
      exact hn (InD.cache h))]
    exact hb.block b hbl
  · rcases q.cases h8 with q | ⟨o, q⟩ | ⟨o, q⟩
    · subst q; exact .inl rfl
    · subst q; exact InD.safe h
    · have e := hs b o q
      rcases ha with ha | ha
      · rw [e] at ha
        obtain ⟨o2, q2⟩ := how b ha.symm
        subst q2
        exact InD.cache h
      · rw [e] at ha
        injection ha with ha
        omega
structure SW (X I Z D : Nat) (i : Int) (s : ByteArray) (u : Value) (L : Array Bool) (W : World) : Prop where
  x : W.cell? ⟨X, 0, none⟩ = some (.pointer (some ⟨D, 0, none⟩))
  n : W.cell? ⟨I, 0, none⟩ = some (.int .i64 i)
  z : W.cell? ⟨Z, 0, none⟩ = some (.string s)
  c : L.getD 14 false = false → W.cell? ⟨D, 1, none⟩ = some u
theorem SW.set {X I Z D : Nat} {i : Int} {s : ByteArray} {u : Value} {j : Nat} (h1 : j ≠ 14) (L : Array Bool) (w : World) : SW X I Z D i s u (L.setIfInBounds j true) w ↔ SW X I Z D i s u L w :=
  ⟨fun h => ⟨h.x, h.n, h.z, fun q => h.c (by rw [getF_set L j 14 h1]; exact q)⟩, fun h => ⟨h.x, h.n, h.z, fun q => h.c (by rw [getF_set L j 14 h1] at q; exact q)⟩⟩
theorem SW.cOf {md : Region.Mode} {ops : Array Oper} {X I Z D : Nat} {i : Int} {s : ByteArray} {u : Value} {j : Nat} {w : World} (h : SI md ops (SW X I Z D i s u) j w) (f : Nat) (hw : waits md ops f 14 j = true) : w.cell? ⟨D, 1, none⟩ = some u := by
  obtain ⟨L, hs, hi, hS⟩ := h
  exact hS.c (shut_of hs hi f 14 hw)
theorem SW.all {md : Region.Mode} {ops : Array Oper} {X I Z D : Nat} {i : Int} {s : ByteArray} {u : Value} {j : Nat} {w : World} (h : SI md ops (SW X I Z D i s u) j w) : w.cell? ⟨X, 0, none⟩ = some (.pointer (some ⟨D, 0, none⟩)) ∧ w.cell? ⟨I, 0, none⟩ = some (.int .i64 i) ∧ w.cell? ⟨Z, 0, none⟩ = some (.string s) := by
  obtain ⟨L, _, _, hS⟩ := h
  exact ⟨hS.x, hS.n, hS.z⟩
set_option maxRecDepth 100000 in
set_option maxHeartbeats 4000000 in
theorem dwrite1 (X I Z D : Nat) (SS : List ByteArray) (CC : List Wr) (dn : Bool) (ops fu : Int) (i : Int) (s : ByteArray) (w : World) (h : DK D SS CC dn ops fu w) (hx : w.heap[X]? = some (.cells #[.pointer (some ⟨D, 0, none⟩)] 24 (0, 0))) (hi : w.heap[I]? = some (.cells #[.int .i64 i] 3 (0, 0))) (hz : w.heap[Z]? = some (.cells #[.string s] 9 (0, 0)))
    (hok : 0 ≤ i ∧ i < (SS.length : Int) ∧ s.size = 128) (hl : CC.length + 1 ≤ 1000000) :
    Calls Tryd.prog 76 #[.pointer (some ⟨X, 0, none⟩), .pointer (some ⟨I, 0, none⟩), .pointer (some ⟨Z, 0, none⟩)] w fun e w' => e = .returned (.tuple #[]) ∧ DK D SS (CC ++ [(i, s)]) dn ops fu w' ∧ Kd D w w' := by
  obtain ⟨⟨sa, sn, sc, ca, cn, cc, h1, h2, h3⟩, h4⟩ := h
  have H1 := Lib.hid h1
  have H2 := Lib.hid h2
  have H3 := Lib.hid h3
  have H4 := Lib.hid h4
  have HX := Lib.hid hx
  have HI := Lib.hid hi
  have HZ := Lib.hid hz
  have HOK := Lib.hid hok
  have HX1 := Lib.hid (blk_alloc (show w.drew.heap[X]? = _ from hx) (.cells #[.int .i64 i, .string s] 112 (0, 0)))
  have HI1 := Lib.hid (blk_alloc (show w.drew.heap[I]? = _ from hi) (.cells #[.int .i64 i, .string s] 112 (0, 0)))
  have HZ1 := Lib.hid (blk_alloc (show w.drew.heap[Z]? = _ from hz) (.cells #[.int .i64 i, .string s] 112 (0, 0)))
  have HD1 := Lib.hid (blk_alloc (show w.drew.heap[D]? = _ from h1) (.cells #[.int .i64 i, .string s] 112 (0, 0)))
  have HS1 := Lib.hid (h2.drew.alloc (.cells #[.int .i64 i, .string s] 112 (0, 0)))
  have HC1 := Lib.hid (h3.drew.alloc (.cells #[.int .i64 i, .string s] 112 (0, 0)))
  have HBn := Lib.hid (((Below.refl w.heap.size w).drew).alloc (Nat.le_refl _) (.cells #[.int .i64 i, .string s] 112 (0, 0)))
  have hDl := lt_of_block h1
  have HOW := Lib.hid (fun (g : Nat) (e : (Value.slice ca cn cc).ownBlock = some g) => show ∃ o, ca = some ⟨g, o, none⟩ from by
    rcases h3.2 with ⟨q, _⟩ | ⟨g', _, _, q, _⟩
    · rw [q] at e; simp [Value.ownBlock] at e
    · injection q with q1 _ _
      subst q1
      simp [Value.ownBlock] at e
      subst e
      exact ⟨0, rfl⟩)
  clear h1 h2 h3 h4 hx hi hz hok
  go_enter Tryd.func76, Tryd.ntmps76
  go_upto_region 0 with (fail)
  refine wp_region_L_drew (S := SW X I Z D i s (.slice ca cn cc)) (by kernel_rfl) ⟨(cell_of_row _ _ 0 _ _ _ HX.out).trans rfl, (cell_of_row _ _ 0 _ _ _ HI.out).trans rfl, (cell_of_row _ _ 0 _ _ _ HZ.out).trans rfl, fun _ => (dk_cells H1.out).2.1⟩ (fun hS hC => ?_)
  refine wpAnyL_take (i := 0) (oi := { dst := some 3, op := .load 24 (.tmp 0), type := _, pos := _, after := _, guard := none }) (v := ?_) rfl (by kernel_rfl) (by kernel_rfl) (by kernel_rfl) (fun _ _ _ h => h) (SW.set (by decide)) hC (Or.inl ⟨by rfl, ?_⟩) hS (fun hC hS => ?_)
  rotate_left
  · intro W9 hSw; have q0 := (SW.all hSw).1; go_simp; try (with_reducible rfl)
  try simp only [Act.put, List.setIfInBounds_toArray, List.set_cons_zero, List.set_cons_succ]
  refine wpAnyL_take (i := 1) (oi := { dst := some 4, op := .load 24 (.tmp 0), type := _, pos := _, after := _, guard := none }) (v := ?_) rfl (by kernel_rfl) (by kernel_rfl) (by kernel_rfl) (fun _ _ _ h => h) (SW.set (by decide)) hC (Or.inl ⟨by rfl, ?_⟩) hS (fun hC hS => ?_)
  rotate_left
  · intro W9 hSw; have q0 := (SW.all hSw).1; go_simp; try (with_reducible rfl)
  try simp only [Act.put, List.setIfInBounds_toArray, List.set_cons_zero, List.set_cons_succ]
  refine wpAnyL_take (i := 2) (oi := { dst := some 5, op := .nilCheck (.tmp 4), type := _, pos := _, after := _, guard := none }) (v := ?_) rfl (by kernel_rfl) (by kernel_rfl) (by kernel_rfl) (fun _ _ _ h => h) (SW.set (by decide)) hC (Or.inl ⟨by rfl, ?_⟩) hS (fun hC hS => ?_)
  rotate_left
  · intro W9 hSw; skip; go_simp; try (with_reducible rfl)
  try simp only [Act.put, List.setIfInBounds_toArray, List.set_cons_zero, List.set_cons_succ]
  refine wpAnyL_take (i := 3) (oi := { dst := some 6, op := .fieldAddr 99 (.tmp 5) 0, type := _, pos := _, after := _, guard := none }) (v := ?_) rfl (by kernel_rfl) (by kernel_rfl) (by kernel_rfl) (fun _ _ _ h => h) (SW.set (by decide)) hC (Or.inl ⟨by rfl, ?_⟩) hS (fun hC hS => ?_)
  rotate_left
  · intro W9 hSw; skip; go_simp; try (with_reducible rfl)
  try simp only [Act.put, List.setIfInBounds_toArray, List.set_cons_zero, List.set_cons_succ]
  refine wpAnyL_take (i := 4) (oi := { dst := some 7, op := .fieldAddr 97 (.tmp 6) 1, type := _, pos := _, after := _, guard := none }) (v := ?_) rfl (by kernel_rfl) (by kernel_rfl) (by kernel_rfl) (fun _ _ _ h => h) (SW.set (by decide)) hC (Or.inl ⟨by rfl, ?_⟩) hS (fun hC hS => ?_)
  rotate_left
  · intro W9 hSw; skip; go_simp; try (with_reducible rfl)
  try simp only [Act.put, List.setIfInBounds_toArray, List.set_cons_zero, List.set_cons_succ]
  refine wpAnyL_take (i := 5) (oi := { dst := some 8, op := .load 92 (.tmp 7), type := _, pos := _, after := _, guard := none }) (v := ?_) rfl (by kernel_rfl) (by kernel_rfl) (by kernel_rfl) (fun _ _ _ h => h) (SW.set (by decide)) hC (Or.inl ⟨by rfl, ?_⟩) hS (fun hC hS => ?_)
  rotate_left
  · intro W9 hSw; have q0 := SW.cOf hSw 15 (by kernel_rfl); go_simp; try (with_reducible rfl)
  try simp only [Act.put, List.setIfInBounds_toArray, List.set_cons_zero, List.set_cons_succ]
  refine wpAnyL_take (i := 6) (oi := { dst := some 9, op := .load 3 (.tmp 1), type := _, pos := _, after := _, guard := none }) (v := ?_) rfl (by kernel_rfl) (by kernel_rfl) (by kernel_rfl) (fun _ _ _ h => h) (SW.set (by decide)) hC (Or.inl ⟨by rfl, ?_⟩) hS (fun hC hS => ?_)
  rotate_left
  · intro W9 hSw; have q0 := (SW.all hSw).2.1; go_simp; try (with_reducible rfl)
  try simp only [Act.put, List.setIfInBounds_toArray, List.set_cons_zero, List.set_cons_succ]
  refine wpAnyL_take (i := 7) (oi := { dst := some 10, op := .load 9 (.tmp 2), type := _, pos := _, after := _, guard := none }) (v := ?_) rfl (by kernel_rfl) (by kernel_rfl) (by kernel_rfl) (fun _ _ _ h => h) (SW.set (by decide)) hC (Or.inl ⟨by rfl, ?_⟩) hS (fun hC hS => ?_)
  rotate_left
  · intro W9 hSw; have q0 := (SW.all hSw).2.2; go_simp; try (with_reducible rfl)
  try simp only [Act.put, List.setIfInBounds_toArray, List.set_cons_zero, List.set_cons_succ]
  refine wpAnyL_take (i := 8) (oi := { dst := some 11, op := .build 112 #[(0, .tmp 9), (1, .tmp 10)], type := _, pos := _, after := _, guard := none }) (v := ?_) rfl (by kernel_rfl) (by kernel_rfl) (by kernel_rfl) (fun _ _ _ h => h) (SW.set (by decide)) hC (Or.inl ⟨by rfl, ?_⟩) hS (fun hC hS => ?_)
  rotate_left
  · intro W9 hSw; skip; go_simp; try (with_reducible rfl)
  try simp only [Act.put, List.setIfInBounds_toArray, List.set_cons_zero, List.set_cons_succ]
  refine wpAnyL_ready (rs := [9]) (by kernel_rfl) (by simp) hC ?_
  refine AllReadyL.cons (o := { dst := some 12, op := .buildSlice 92 1 #[(0, .tmp 11)], type := _, pos := _, after := _, guard := none }) rfl (fun K9 hK => ?_) ?_
  · skip
    go_simp
    refine hK _ _ ⟨(cell_of_row _ _ 0 _ _ _ HX1.out).trans rfl, (cell_of_row _ _ 0 _ _ _ HI1.out).trans rfl, (cell_of_row _ _ 0 _ _ _ HZ1.out).trans rfl, fun _ => (dk_cells HD1.out).2.1⟩ (fun hC => ?_)
    clear hK K9
    try simp only [Act.put, List.setIfInBounds_toArray, List.set_cons_zero, List.set_cons_succ]
    refine wpAnyL_ready (rs := [10]) (by kernel_rfl) (by simp) hC ?_
    refine AllReadyL.cons (o := { dst := some 13, op := .call { callee := .builtin .append, args := #[.tmp 8, .tmp 12], argTypes := #[92, 92] }, type := _, pos := _, after := _, guard := none }) rfl (fun K9 hK => ?_) ?_
    · skip
      refine step_appPo rfl (.tmp 8) (.tmp 12) 92 112 _ 24 rfl Tryd.underlying92 info_wrB rfl (by omega) (by omega) wrC_len wrC_one 0 w (HBn.out.mono (Nat.zero_le _)) (Nat.zero_le _) (.slice ca cn cc) CC rfl HC1.out w.heap.size 1 (i, s) #[.int .i64 i, .string s] 112 (0, 0) rfl (heap_alloc_new w.drew _) rfl hl ?_
      intro v7 w7 HO7 HB7 HG7 HA7
      have HX7 := Lib.hid (HC1.out.box HG7.out HX1.out (Or.inl (by decide)))
      have HI7 := Lib.hid (HC1.out.box HG7.out HI1.out (Or.inl (by decide)))
      have HZ7 := Lib.hid (HC1.out.box HG7.out HZ1.out (Or.inl (by decide)))
      have HD7 := Lib.hid (HC1.out.box HG7.out HD1.out (Or.inl (by decide)))
      have HS7 := Lib.hid (HS1.out.other HC1.out (by decide) HG7.out)
      have z7 : w7.frozen? ⟨D, 1, none⟩ = false := frozen_of_row _ _ _ _ _ HD7.out
      have q7 : w7.cell? ⟨D, 1, none⟩ = some (.slice ca cn cc) := (dk_cells HD7.out).2.1
      obtain ⟨A7, n7, c7, rfl⟩ := HO7.out.sl3
      refine hK _ _ ⟨(cell_of_row _ _ 0 _ _ _ HX7.out).trans rfl, (cell_of_row _ _ 0 _ _ _ HI7.out).trans rfl, (cell_of_row _ _ 0 _ _ _ HZ7.out).trans rfl, fun _ => q7⟩ (fun hC => ?_)
      clear hK K9
      try simp only [Act.put, List.setIfInBounds_toArray, List.set_cons_zero, List.set_cons_succ]
      refine wpAnyL_take (i := 11) (oi := { dst := some 14, op := .nilCheck (.tmp 3), type := _, pos := _, after := _, guard := none }) (v := ?_) rfl (by kernel_rfl) (by kernel_rfl) (by kernel_rfl) (fun _ _ _ h => h) (SW.set (by decide)) hC (Or.inl ⟨by rfl, ?_⟩) ⟨(cell_of_row _ _ 0 _ _ _ HX7.out).trans rfl, (cell_of_row _ _ 0 _ _ _ HI7.out).trans rfl, (cell_of_row _ _ 0 _ _ _ HZ7.out).trans rfl, fun _ => q7⟩ (fun hC hS => ?_)
      rotate_left
      · intro W9 hSw; skip; go_simp; try (with_reducible rfl)
      try simp only [Act.put, List.setIfInBounds_toArray, List.set_cons_zero, List.set_cons_succ]
      refine wpAnyL_take (i := 12) (oi := { dst := some 15, op := .fieldAddr 99 (.tmp 14) 0, type := _, pos := _, after := _, guard := none }) (v := ?_) rfl (by kernel_rfl) (by kernel_rfl) (by kernel_rfl) (fun _ _ _ h => h) (SW.set (by decide)) hC (Or.inl ⟨by rfl, ?_⟩) ⟨(cell_of_row _ _ 0 _ _ _ HX7.out).trans rfl, (cell_of_row _ _ 0 _ _ _ HI7.out).trans rfl, (cell_of_row _ _ 0 _ _ _ HZ7.out).trans rfl, fun _ => q7⟩ (fun hC hS => ?_)
      rotate_left
      · intro W9 hSw; skip; go_simp; try (with_reducible rfl)
      try simp only [Act.put, List.setIfInBounds_toArray, List.set_cons_zero, List.set_cons_succ]
      refine wpAnyL_take (i := 13) (oi := { dst := some 16, op := .fieldAddr 97 (.tmp 15) 1, type := _, pos := _, after := _, guard := none }) (v := ?_) rfl (by kernel_rfl) (by kernel_rfl) (by kernel_rfl) (fun _ _ _ h => h) (SW.set (by decide)) hC (Or.inl ⟨by rfl, ?_⟩) ⟨(cell_of_row _ _ 0 _ _ _ HX7.out).trans rfl, (cell_of_row _ _ 0 _ _ _ HI7.out).trans rfl, (cell_of_row _ _ 0 _ _ _ HZ7.out).trans rfl, fun _ => q7⟩ (fun hC hS => ?_)
      rotate_left
      · intro W9 hSw; skip; go_simp; try (with_reducible rfl)
      try simp only [Act.put, List.setIfInBounds_toArray, List.set_cons_zero, List.set_cons_succ]
      refine wpAnyL_ready (rs := [14]) (by kernel_rfl) (by simp) hC ?_
      refine AllReadyL.cons (o := { dst := none, op := .store 92 (.tmp 16) (.tmp 13), type := _, pos := _, after := _, guard := none }) rfl (fun K9 hK => ?_) ?_
      · skip
        go_simp
        have HK := Lib.hid ((KK.refl [D] w7).set (b := D) (by simp) 1 (.slice A7 n7 c7))
        have HD8 := Lib.hid (show (w7.setCell ⟨D, 1, none⟩ (.slice A7 n7 c7)).heap[D]? = some (dkO sa sn sc A7 n7 c7 true dn ops fu) from heap_setCell_at (i := 1) (u := .slice A7 n7 c7) HD7.out)
        have hne : ∀ {b : Nat} {cs : Array Value} {T : TypeId}, w7.heap[b]? = some (.cells cs T (0, 0)) → T ≠ 99 → b ∉ [D] := fun hb hT e => by
          obtain rfl := (by simpa using e : _ = D)
          rw [HD7.out] at hb
          cases hb
          exact hT rfl
        have HX8 := Lib.hid (HK.out.blk HX7.out (hne HX7.out (by decide)))
        have HI8 := Lib.hid (HK.out.blk HI7.out (hne HI7.out (by decide)))
        have HZ8 := Lib.hid (HK.out.blk HZ7.out (hne HZ7.out (by decide)))
        have HS8 := Lib.hid (HS7.out.kkD HK.out HD7.out (by decide))
        have HC8 := Lib.hid (HO7.out.kkD HK.out HD7.out (by decide))
        refine hK _ _ ⟨(cell_of_row _ _ 0 _ _ _ HX8.out).trans rfl, (cell_of_row _ _ 0 _ _ _ HI8.out).trans rfl, (cell_of_row _ _ 0 _ _ _ HZ8.out).trans rfl, fun q => absurd q (by decide)⟩ (fun hC => ?_)
        clear hK K9
        try simp only [Act.put, List.setIfInBounds_toArray, List.set_cons_zero, List.set_cons_succ]
        refine wpAnyL_done (by kernel_rfl) ?_ _
        have HKd := Lib.hid (kd_app hDl H1.out HD8.out HBn.out HG7.out HK.out HOW.out HA7.out (HO7.out.sl0))
        refine bodyPost_end (results_none rfl _ _ _) rfl ?_
        exact ⟨rfl, ⟨⟨sa, sn, sc, A7, n7, c7, HD8.out, HS8.out, HC8.out⟩, fun x hx => by
          rcases List.mem_append.1 hx with hx | hx
          · exact H4.out x hx
          · obtain rfl : x = (i, s) := (by simpa using hx)
            exact HOK.out⟩, HKd.out⟩
      exact AllReadyL.nil
    exact AllReadyL.nil
  exact AllReadyL.nil
end Go.Proofs.YtagenkofoacajaaDoor
