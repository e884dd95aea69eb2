/- The walk of FactsDiff over this translation. Condition: slices that are no longer than a slice may be. -/
import Derived.Test.YtpjpegmjcgkonaaG3
import Derived.Test.YtpjpegmjcgkonaaG4
namespace Go.Proofs.Ytpjpegmjcgkonaa.LFactsDiff
open Go.RowKit Vi

structure S2 (A B : World → Prop) (k1 k2 : Nat) (L : Array Bool) (W : World) : Prop where
  x : L.getD k1 false = false → A W
  y : L.getD k2 false = false → B W
theorem S2.set {A B : World → Prop} {k1 k2 j : Nat} (h0 : j ≠ k1) (h1 : j ≠ k2) (L : Array Bool) (w : World) : S2 A B k1 k2 (L.setIfInBounds j true) w ↔ S2 A B k1 k2 L w :=
  ⟨fun h => ⟨fun q => h.x (by rw [getF_set L j k1 h0]; exact q), fun q => h.y (by rw [getF_set L j k2 h1]; exact q)⟩, fun h => ⟨fun q => h.x (by rw [getF_set L j k1 h0] at q; exact q), fun q => h.y (by rw [getF_set L j k2 h1] at q; exact q)⟩⟩
theorem S2.xOf {md : Region.Mode} {ops : Array Oper} {A B : World → Prop} {k1 k2 j : Nat} {w : World} (h : SI md ops (S2 A B k1 k2) j w) (f : Nat) (hw : waits md ops f k1 j = true) : A w := by
  obtain ⟨L, hs, hi, hS⟩ := h
  exact hS.x (shut_of hs hi f k1 hw)
theorem S2.yOf {md : Region.Mode} {ops : Array Oper} {A B : World → Prop} {k1 k2 j : Nat} {w : World} (h : SI md ops (S2 A B k1 k2) j w) (f : Nat) (hw : waits md ops f k2 j = true) : B w := by
  obtain ⟨L, hs, hi, hS⟩ := h
  exact hS.y (shut_of hs hi f k2 hw)
theorem step_storeY {ops : Array Oper} {o : Oper} {a : Act} {K : Act → World → Prop} {Q : Exit → Act → World → Prop} {E : Prop} {w : World} (hgd : o.guard = none) (ty : TypeId) (x y : Operand) (ho : o.op = .store ty x y)
    (g : Nat) (cells : Array Value) (hx : a.eval x = .pointer (some ⟨g, 0, none⟩)) (hy : a.eval y = .agg cells)
    (t : TypeId) (old : Array Value) (hg : w.heap[g]? = some (.cells old t (0, 0))) (hi : (Try.prog.info? ty).map (·.size) = some cells.size)
    (hold : old.size = cells.size) (h1 : cells.all (·.oneCell') = true) (n : Nat) (w0 : World) (hb : Below n w0 w) (hn : n ≤ g)
    (h : ∀ w', Hid (w'.heap[g]? = some (.cells cells t (0, 0))) → Hid (∀ k, k ≠ g → w'.heap[k]? = w.heap[k]?) → Hid (Below n w0 w') → K (a.put o.dst undef) w') :
    if Region.wanted o (yielded ops a.tmps) = true then Oper.wp Try.prog o a w K Q else E := by
  have hw : Region.wanted o (yielded ops a.tmps) = true := by simp [Region.wanted, hgd]
  rw [if_pos hw]
  exact wp_store_row ty x y ho g cells hx hy t old hg hi hold h1 (h _ (setRow_heap w g old cells t (0, 0) hg) (fun k hk => setRow_other w g k cells hk) (below_setRow hb hn cells))
theorem adj_step {C : List Cg} {j : Nat} {y z : Cg} (h : ∀ q a b, q < j → (C.map keyC)[q]? = some a → (C.map keyC)[q + 1]? = some b → lessF a b = true) (hy : C[j]? = some y) (hz : C[j + 1]? = some z) (hp : lessF (keyC y) (keyC z) = true) :
    ∀ q a b, q < j + 1 → (C.map keyC)[q]? = some a → (C.map keyC)[q + 1]? = some b → lessF a b = true := by
  intro q a b hq ha hb
  by_cases h1 : q < j
  · exact h q a b h1 ha hb
  · obtain rfl : q = j := by omega
    rw [List.getElem?_map, hy] at ha
    rw [List.getElem?_map, hz] at hb
    cases ha
    cases hb
    exact hp

set_option linter.unusedSimpArgs false in
set_option maxRecDepth 100000 in
set_option maxHeartbeats 16000000 in
theorem walk (A1 : Option Addr) (n1 c1 : Nat) (X : List Fc) (A2 : Option Addr) (n2 c2 : Nat) (Y : List Fc) (A3 : Option Addr) (n3 c3 : Nat) (C : List Cg) (w : World) (h1 : RdX fcC 4 w A1 n1 X) (h2 : RdX fcC 4 w A2 n2 Y) (h3 : RdX cgC 7 w A3 n3 C) (l1 : n1 ≤ c1) (l2 : n2 ≤ c2) (l3 : n3 ≤ c3) (m1 : n1 ≤ maxLen) (m2 : n2 ≤ maxLen) :
    Calls Try.prog 3 #[.slice A1 n1 c1, .slice A2 n2 c2, .slice A3 n3 c3] w fun e w' => e = .returned (.bool true) ∧ Below w.heap.size w w' := by
  have H1 := Lib.hid h1
  have H2 := Lib.hid h2
  have H3 := Lib.hid h3
  have L3 := Lib.hid h3.1
  have HL := Lib.hid (And.intro l1 (And.intro l2 l3))
  have HF1 := Lib.hid (few27_any A1 n1 c1 X w h1 m1)
  have HF2 := Lib.hid (fun (W : World) (q : RdX fcC 4 W A2 n2 Y) => few27_any A2 n2 c2 Y W q m2)
  have HB0 := Lib.hid (Below.refl w.heap.size w)
  clear h1 h2 h3 l1 l2 l3 m1 m2
  go_enter Try.func3, Try.ntmps3
  go_wp2_with fail
  refine HF1.out.mono ?_
  rintro e w1 ⟨b, rfl, hn1, hb⟩
  have HB1 := Lib.hid (HB0.out.trans (hb.mono HB0.out.size))
  clear hb
  clear HF1
  cases b with
  | false =>
    go_wp2_with fail
    refine (awake27 _).mono ?_
    rintro e w99 ⟨rfl, hb99⟩
    have HB99 := Lib.hid (HB1.out.trans (hb99.mono HB1.out.size))
    clear hb99
    go_wp2_with fail
    go_ret
    exact ⟨rfl, HB99.out⟩
  | true =>
    have hn1 : n1 ≤ 120 := hn1 rfl
    go_wp2_with fail
    refine (HF2.out _ (H2.out.below HB1.out)).mono ?_
    rintro e w2 ⟨b, rfl, hn2, hb⟩
    have HB2 := Lib.hid (HB1.out.trans (hb.mono HB1.out.size))
    clear hb
    clear HF2
    cases b with
    | false =>
      go_wp2_with fail
      refine (awake27 _).mono ?_
      rintro e w99 ⟨rfl, hb99⟩
      have HB99 := Lib.hid (HB2.out.trans (hb99.mono HB2.out.size))
      clear hb99
      go_wp2_with fail
      go_ret
      exact ⟨rfl, HB99.out⟩
    | true =>
      have hn2 : n2 ≤ 120 := hn2 rfl
      go_wp2_with fail
      refine (rrises_any A1 n1 c1 X _ (H1.out.below HB2.out) (by omega)).mono ?_
      rintro e w3 ⟨rfl, hb⟩
      have HB3 := Lib.hid (HB2.out.trans (hb.mono HB2.out.size))
      clear hb
      cases hr1 : risesF X with
      | false =>
        go_wp2_with fail
        refine (awake27 _).mono ?_
        rintro e w99 ⟨rfl, hb99⟩
        have HB99 := Lib.hid (HB3.out.trans (hb99.mono HB3.out.size))
        clear hb99
        go_wp2_with fail
        go_ret
        exact ⟨rfl, HB99.out⟩
      | true =>
        have HR1 := Lib.hid (rs_of hr1)
        clear hr1
        go_wp2_with fail
        refine (rrises_any A2 n2 c2 Y _ (H2.out.below HB3.out) (by omega)).mono ?_
        rintro e w4 ⟨rfl, hb⟩
        have HB4 := Lib.hid (HB3.out.trans (hb.mono HB3.out.size))
        clear hb
        cases hr2 : risesF Y with
        | false =>
          go_wp2_with fail
          refine (awake27 _).mono ?_
          rintro e w99 ⟨rfl, hb99⟩
          have HB99 := Lib.hid (HB4.out.trans (hb99.mono HB4.out.size))
          clear hb99
          go_wp2_with fail
          go_ret
          exact ⟨rfl, HB99.out⟩
        | true =>
          have HR2 := Lib.hid (rs_of hr2)
          clear hr2
          by_cases h60 : n3 ≤ 60
          rotate_left
          · have g1 : decide ((60 : Int) < (n3 : Int)) = true := decide_eq_true (by omega)
            have g2 : decide (60 < n3) = true := decide_eq_true (by omega)
            go_wp2_with fail
            refine (awake27 _).mono ?_
            rintro e w99 ⟨rfl, hb99⟩
            have HB99 := Lib.hid (HB4.out.trans (hb99.mono HB4.out.size))
            clear hb99
            go_wp2_with fail
            go_ret
            exact ⟨rfl, HB99.out⟩
          have g1 : decide ((60 : Int) < (n3 : Int)) = false := decide_eq_false (by omega)
          have g2 : decide (60 < n3) = false := decide_eq_false (by omega)
          go_wp2_with fail
          clear g1 g2
          refine (fdiff_any X Y A1 n1 c1 A2 n2 c2 _ (H1.out.below HB4.out) (H2.out.below HB4.out) HL.out.1 HL.out.2.1 (by omega) (by omega)).mono ?_
          rintro e w5 ⟨v5, rfl, ho5, hb⟩
          have HB5 := Lib.hid (HB4.out.trans (hb.mono HB4.out.size))
          clear hb
          obtain ⟨D, hD⟩ : ∃ D, D = (meetL cmpF X Y).flatMap outD := ⟨_, rfl⟩
          have HD := Lib.hid (show rdifL X Y = D by rw [hD]; exact (dif_eq HR1.out HR2.out).symm)
          rw [← hD] at ho5
          clear hD
          obtain ⟨a5, d5, rfl, hr5, q5, q5'⟩ := ho5.rd cgC_len
          have HD5 := Lib.hid hr5
          have HQ5 := Lib.hid (Nat.le_trans q5 q5')
          clear ho5 hr5 q5 q5'
          go_wp2_with fail
          refine (rdiff_any X Y A1 n1 c1 A2 n2 c2 _ (H1.out.below HB5.out) (H2.out.below HB5.out) (by omega) (by omega)).mono ?_
          rintro e w6 ⟨v6, rfl, ho6, hb⟩
          rw [HD.out] at ho6
          obtain ⟨a6, d6, rfl, hr6, _, _⟩ := ho6.rd cgC_len
          have HD6 := Lib.hid hr6
          have HD7 := Lib.hid (HD5.out.below hb)
          have HB6 := Lib.hid (HB5.out.trans (hb.mono HB5.out.size))
          clear hb
          clear ho6 hr6 HD5 HD
          go_wp2_with fail
          refine (samech_yes a5 D.length d5 D a6 d6 _ HD7.out HD6.out HQ5.out).mono ?_
          rintro e w7 ⟨rfl, hb⟩
          have HB7 := Lib.hid (HB6.out.trans (hb.mono HB6.out.size))
          clear hb
          clear HD6 HD7 HQ5
          go_wp2_with fail
          go_loopw [7] (fun i wr => ∃ j k : Nat, i = .int .i64 (k : Int) ∧ k = j + 1 ∧ j ≤ n3 ∧ (∀ q a b, q < j → (C.map keyC)[q]? = some a → (C.map keyC)[q + 1]? = some b → lessF a b = true) ∧ Below w.heap.size w wr) (fun i _ => n3 + 1 - (intOf i).toNat)
          case atStart => exact ⟨0, 1, rfl, rfl, Nat.zero_le _, fun q a b hq => absurd hq (Nat.not_lt_zero _), HB7.out⟩
          case round =>
            clear HB0 HB1 HB2 HB3 HB4 HB5 HB6 HB7
            obtain ⟨j, k, rfl, hkj, hj, hadj, hb⟩ := hrel
            have HA := Lib.hid hadj
            have HB := Lib.hid hb
            clear hadj hb
            by_cases hlt : k < n3
            · have hd1 : decide ((k : Int) < (n3 : Int)) = true := decide_eq_true (by omega)
              have hl0 : j < C.length := by rw [L3.out]; omega
              have hl1 : k < C.length := by rw [L3.out]; omega
              have hjn : j < n3 := by omega
              have HB8 := Lib.hid (HB.out.drew)
              obtain ⟨b, off, _, rfl, hbb, _⟩ := (H3.out.below HB.out).at hlt
              obtain ⟨y, hy⟩ : ∃ y, C[j] = y := ⟨_, rfl⟩
              obtain ⟨z, hz⟩ : ∃ z, C[k] = z := ⟨_, rfl⟩
              have HY := Lib.hid (show C[j]? = some y by rw [List.getElem?_eq_getElem hl0, hy])
              have HZ := Lib.hid (show C[k]? = some z by rw [List.getElem?_eq_getElem hl1, hz])
              clear hy hz hl0 hl1
              obtain ⟨y1, y2, y3, y4, y5, y6, y7⟩ := y
              obtain ⟨z1, z2, z3, z4, z5, z6, z7⟩ := z
              have HY0 := Lib.hid (rd_c7 (H3.out.below HB8.out) HY.out hjn)
              have HZ0 := Lib.hid (rd_c7 (H3.out.below HB8.out) HZ.out hlt)
              have hi0 : (0 : Int) ≤ (k : Int) := by omega
              have hi1 : (0 : Int) ≤ (j : Int) := by omega
              have hi2 : (j : Int) < (n3 : Int) := by omega
              have hi3 : (k : Int) < (n3 : Int) := by omega
              have hw0 : IntKind.i64.wrap ((k : Int) - 1) = (j : Int) := by rw [IntWalk.i64_in _ (by omega)]; omega
              have hw1 : IntKind.i64.wrap ((k : Int) + 1) = (k : Int) + 1 := IntWalk.i64_in _ (by omega)
              have HLS := Lib.hid (fun W : World => rless_any y1 y2 y3 ⟨#[]⟩ z1 z2 z3 ⟨#[]⟩ W)
              have HKJ := Lib.hid hkj
              clear hkj
              go_upto_region 8 with (fail)
              refine wp_region_L_drew (S := S2 (fun W => C7 W b (off + j * 7) (y1, y2, y3, y4, y5, y6, y7)) (fun W => C7 W b (off + k * 7) (z1, z2, z3, z4, z5, z6, z7)) 11 12) (by kernel_rfl) ⟨fun _ => HY0.out, fun _ => HZ0.out⟩ (fun hS hC => ?_)
              generalize wr.drew = v0 at *
              have HA1 := Lib.hid ((Below.refl v0.heap.size v0).alloc (Nat.le_refl _) (.cells #[.int .i64 0, .string ⟨#[]⟩, .string ⟨#[]⟩, .bool false, .bool false, .string ⟨#[]⟩, .string ⟨#[]⟩] 29 (0, 0)))
              have HA2 := Lib.hid (HA1.out.alloc HA1.out.size (.cells #[.int .i64 0, .string ⟨#[]⟩, .string ⟨#[]⟩, .bool false, .bool false, .string ⟨#[]⟩, .string ⟨#[]⟩] 29 (0, 0)))
              have HN1 := Lib.hid (blk_alloc (blk_new v0 (.cells #[.int .i64 0, .string ⟨#[]⟩, .string ⟨#[]⟩, .bool false, .bool false, .string ⟨#[]⟩, .string ⟨#[]⟩] 29 (0, 0))) (.cells #[.int .i64 0, .string ⟨#[]⟩, .string ⟨#[]⟩, .bool false, .bool false, .string ⟨#[]⟩, .string ⟨#[]⟩] 29 (0, 0)))
              have HN2 : Hid (((v0.alloc (.cells #[.int .i64 0, .string ⟨#[]⟩, .string ⟨#[]⟩, .bool false, .bool false, .string ⟨#[]⟩, .string ⟨#[]⟩] 29 (0, 0))).alloc (.cells #[.int .i64 0, .string ⟨#[]⟩, .string ⟨#[]⟩, .bool false, .bool false, .string ⟨#[]⟩, .string ⟨#[]⟩] 29 (0, 0))).heap[v0.heap.size + 1]? = some (.cells #[.int .i64 0, .string ⟨#[]⟩, .string ⟨#[]⟩, .bool false, .bool false, .string ⟨#[]⟩, .string ⟨#[]⟩] 29 (0, 0))) := Lib.hid (blk_newN (by simp))
              refine wpAnyL_take (i := 0) (oi := { dst := some 48, op := .move (.tmp 2), type := _, pos := _, after := _, guard := none }) (v := ?_) rfl (by kernel_rfl) (by kernel_rfl) (by kernel_rfl) (fun _ _ _ h => h) (S2.set (by decide) (by decide)) hC (Or.inl ⟨by rfl, ?_⟩) hS (fun hC hS => ?_)
              rotate_left
              · intro W9 hSw; skip; go_simp; try (with_reducible rfl)
              try simp only [Act.put, List.setIfInBounds_toArray, List.set_cons_zero, List.set_cons_succ]
              refine wpAnyL_take (i := 1) (oi := { dst := some 49, op := .move (.tmp 7), type := _, pos := _, after := _, guard := none }) (v := ?_) rfl (by kernel_rfl) (by kernel_rfl) (by kernel_rfl) (fun _ _ _ h => h) (S2.set (by decide) (by decide)) hC (Or.inl ⟨by rfl, ?_⟩) hS (fun hC hS => ?_)
              rotate_left
              · intro W9 hSw; skip; go_simp; try (with_reducible rfl)
              try simp only [Act.put, List.setIfInBounds_toArray, List.set_cons_zero, List.set_cons_succ]
              refine wpAnyL_take (i := 2) (oi := { dst := some 50, op := .binOp .sub 3 (.tmp 49) (.const (.int Go.IntKind.i64 1)) 3, type := _, pos := _, after := _, guard := none }) (v := ?_) rfl (by kernel_rfl) (by kernel_rfl) (by kernel_rfl) (fun _ _ _ h => h) (S2.set (by decide) (by decide)) hC (Or.inl ⟨by rfl, ?_⟩) hS (fun hC hS => ?_)
              rotate_left
              · intro W9 hSw; skip; go_simp; try (with_reducible rfl)
              try simp only [Act.put, List.setIfInBounds_toArray, List.set_cons_zero, List.set_cons_succ]
              refine wpAnyL_take (i := 3) (oi := { dst := some 51, op := .indexAddr 23 (.tmp 48) (.tmp 50), type := _, pos := _, after := _, guard := none }) (v := ?_) rfl (by kernel_rfl) (by kernel_rfl) (by kernel_rfl) (fun _ _ _ h => h) (S2.set (by decide) (by decide)) hC (Or.inl ⟨by rfl, ?_⟩) hS (fun hC hS => ?_)
              rotate_left
              · intro W9 hSw; skip; go_simp; try (with_reducible rfl)
              try simp only [Act.put, List.setIfInBounds_toArray, List.set_cons_zero, List.set_cons_succ]
              refine wpAnyL_take (i := 4) (oi := { dst := some 52, op := .load 29 (.tmp 51), type := _, pos := _, after := _, guard := none }) (v := ?_) rfl (by kernel_rfl) (by kernel_rfl) (by kernel_rfl) (fun _ _ _ h => h) (S2.set (by decide) (by decide)) hC (Or.inl ⟨by rfl, ?_⟩) hS (fun hC hS => ?_)
              rotate_left
              · intro W9 hSw; obtain ⟨q0, q1, q2, q3, q4, q5, q6⟩ := S2.xOf hSw 20 (by kernel_rfl); dsimp only at q0 q1 q2 q3 q4 q5 q6; go_simp; try (with_reducible rfl)
              try simp only [Act.put, List.setIfInBounds_toArray, List.set_cons_zero, List.set_cons_succ]
              refine wpAnyL_take (i := 5) (oi := { dst := some 53, op := .move (.tmp 2), type := _, pos := _, after := _, guard := none }) (v := ?_) rfl (by kernel_rfl) (by kernel_rfl) (by kernel_rfl) (fun _ _ _ h => h) (S2.set (by decide) (by decide)) hC (Or.inl ⟨by rfl, ?_⟩) hS (fun hC hS => ?_)
              rotate_left
              · intro W9 hSw; skip; go_simp; try (with_reducible rfl)
              try simp only [Act.put, List.setIfInBounds_toArray, List.set_cons_zero, List.set_cons_succ]
              refine wpAnyL_take (i := 6) (oi := { dst := some 54, op := .move (.tmp 7), type := _, pos := _, after := _, guard := none }) (v := ?_) rfl (by kernel_rfl) (by kernel_rfl) (by kernel_rfl) (fun _ _ _ h => h) (S2.set (by decide) (by decide)) hC (Or.inl ⟨by rfl, ?_⟩) hS (fun hC hS => ?_)
              rotate_left
              · intro W9 hSw; skip; go_simp; try (with_reducible rfl)
              try simp only [Act.put, List.setIfInBounds_toArray, List.set_cons_zero, List.set_cons_succ]
              refine wpAnyL_take (i := 7) (oi := { dst := some 55, op := .indexAddr 23 (.tmp 53) (.tmp 54), type := _, pos := _, after := _, guard := none }) (v := ?_) rfl (by kernel_rfl) (by kernel_rfl) (by kernel_rfl) (fun _ _ _ h => h) (S2.set (by decide) (by decide)) hC (Or.inl ⟨by rfl, ?_⟩) hS (fun hC hS => ?_)
              rotate_left
              · intro W9 hSw; skip; go_simp; try (with_reducible rfl)
              try simp only [Act.put, List.setIfInBounds_toArray, List.set_cons_zero, List.set_cons_succ]
              refine wpAnyL_take (i := 8) (oi := { dst := some 56, op := .load 29 (.tmp 55), type := _, pos := _, after := _, guard := none }) (v := ?_) rfl (by kernel_rfl) (by kernel_rfl) (by kernel_rfl) (fun _ _ _ h => h) (S2.set (by decide) (by decide)) hC (Or.inl ⟨by rfl, ?_⟩) hS (fun hC hS => ?_)
              rotate_left
              · intro W9 hSw; obtain ⟨q0, q1, q2, q3, q4, q5, q6⟩ := S2.yOf hSw 20 (by kernel_rfl); dsimp only at q0 q1 q2 q3 q4 q5 q6; go_simp; try (with_reducible rfl)
              try simp only [Act.put, List.setIfInBounds_toArray, List.set_cons_zero, List.set_cons_succ]
              refine wpAnyL_ready (rs := [9, 10]) (by kernel_rfl) (by simp) hC ?_
              refine AllReadyL.cons (o := { dst := some 8, op := .alloc 29, type := _, pos := _, after := _, guard := none }) rfl (fun K9 hK => ?_) ?_
              · skip
                go_simp
                refine hK _ _ ⟨fun _ => HY0.out.below HA1.out, fun _ => HZ0.out.below HA1.out⟩ (fun hC => ?_)
                clear hK K9
                try simp only [Act.put, List.setIfInBounds_toArray, List.set_cons_zero, List.set_cons_succ]
                refine wpAnyL_ready (rs := [10]) (by kernel_rfl) (by simp) hC ?_
                refine AllReadyL.cons (o := { dst := some 9, op := .alloc 29, type := _, pos := _, after := _, guard := none }) rfl (fun K9 hK => ?_) ?_
                · skip
                  go_simp
                  refine hK _ _ ⟨fun _ => HY0.out.below HA2.out, fun _ => HZ0.out.below HA2.out⟩ (fun hC => ?_)
                  clear hK K9
                  try simp only [Act.put, List.setIfInBounds_toArray, List.set_cons_zero, List.set_cons_succ]
                  refine wpAnyL_ready (rs := [11]) (by kernel_rfl) (by simp) hC ?_
                  refine AllReadyL.cons (o := { dst := none, op := .store 29 (.tmp 8) (.tmp 52), type := _, pos := _, after := _, guard := none }) rfl (fun K9 hK => ?_) ?_
                  · skip
                    refine step_storeY rfl 29 (.tmp 8) (.tmp 52) rfl v0.heap.size #[.int .i64 y1, .string y2, .string y3, .bool y4, .bool y5, .string y6, .string y7] rfl rfl 29 _ HN1.out info_cgS rfl (by simp [Value.oneCell']) v0.heap.size v0 HA2.out (by omega) ?_
                    intro w11 hk1 ho1 hb1
                    have HR1 := Lib.hid ((ho1.out (v0.heap.size + 1) (by omega)).trans HN2.out)
                    refine hK _ _ ⟨fun q => absurd q (by decide), fun _ => HZ0.out.below hb1.out⟩ (fun hC => ?_)
                    clear hK K9
                    try simp only [Act.put, List.setIfInBounds_toArray, List.set_cons_zero, List.set_cons_succ]
                    refine wpAnyL_ready (rs := [12]) (by kernel_rfl) (by simp) hC ?_
                    refine AllReadyL.cons (o := { dst := none, op := .store 29 (.tmp 9) (.tmp 56), type := _, pos := _, after := _, guard := none }) rfl (fun K9 hK => ?_) ?_
                    · skip
                      refine step_storeY rfl 29 (.tmp 9) (.tmp 56) rfl (v0.heap.size + 1) #[.int .i64 z1, .string z2, .string z3, .bool z4, .bool z5, .string z6, .string z7] rfl rfl 29 _ HR1.out info_cgS rfl (by simp [Value.oneCell']) v0.heap.size v0 hb1.out (by omega) ?_
                      intro w12 hk2 ho2 hb2
                      have HR2 := Lib.hid ((ho2.out v0.heap.size (by omega)).trans hk1.out)
                      have HB12 := Lib.hid (HB8.out.trans (hb2.out.mono HB8.out.size))
                      refine hK _ _ ⟨fun q => absurd q (by decide), fun q => absurd q (by decide)⟩ (fun hC => ?_)
                      clear hK K9
                      try simp only [Act.put, List.setIfInBounds_toArray, List.set_cons_zero, List.set_cons_succ]
                      refine wpAnyL_done (by kernel_rfl) ?_ _
                      clear hS hC
                      have p0 : w12.cell? ⟨v0.heap.size, 0, none⟩ = some (.int .i64 y1) := (cell_of_row _ _ 0 _ _ _ HR2.out).trans rfl
                      have r0 : w12.cell? ⟨v0.heap.size + 1, 0, none⟩ = some (.int .i64 z1) := (cell_of_row _ _ 0 _ _ _ hk2.out).trans rfl
                      have p1 : w12.cell? ⟨v0.heap.size, 1, none⟩ = some (.string y2) := (cell_of_row _ _ 1 _ _ _ HR2.out).trans rfl
                      have r1 : w12.cell? ⟨v0.heap.size + 1, 1, none⟩ = some (.string z2) := (cell_of_row _ _ 1 _ _ _ hk2.out).trans rfl
                      have p2 : w12.cell? ⟨v0.heap.size, 2, none⟩ = some (.string y3) := (cell_of_row _ _ 2 _ _ _ HR2.out).trans rfl
                      have r2 : w12.cell? ⟨v0.heap.size + 1, 2, none⟩ = some (.string z3) := (cell_of_row _ _ 2 _ _ _ hk2.out).trans rfl
                      clear hk1 ho1 hb1 hk2 ho2 hb2 HR1 HA1 HA2 HN1 HN2 HY0 HZ0
                      go_wp2_with fail
                      refine (HLS.out w12).mono ?_
                      rintro e w13 ⟨rfl, hb⟩
                      have HB13 := Lib.hid (HB12.out.trans (hb.mono HB12.out.size))
                      clear hb p0 p1 p2 r0 r1 r2
                      cases hp : lessF (y1, y2, y3, ⟨#[]⟩) (z1, z2, z3, ⟨#[]⟩) with
                      | true =>
                        go_wp2_with fail
                        go_roundw
                        case rel => exact ⟨k, k + 1, by go_num, rfl, by omega, (by have e := HKJ.out; subst e; exact adj_step HA.out HY.out HZ.out hp), HB13.out⟩
                        case measure => simp [intOf] <;> omega
                      | false =>
                        go_wp2_with fail
                        refine (awake27 _).mono ?_
                        rintro e w99 ⟨rfl, hb99⟩
                        have HB99 := Lib.hid (HB13.out.trans (hb99.mono HB13.out.size))
                        clear hb99
                        go_wp2_with fail
                        go_ret
                        exact ⟨rfl, HB99.out⟩
                    exact AllReadyL.nil
                  exact AllReadyL.nil
                exact AllReadyL.nil
              refine AllReadyL.cons (o := { dst := some 9, op := .alloc 29, type := _, pos := _, after := _, guard := none }) rfl (fun K9 hK => ?_) ?_
              · skip
                go_simp
                refine hK _ _ ⟨fun _ => HY0.out.below HA1.out, fun _ => HZ0.out.below HA1.out⟩ (fun hC => ?_)
                clear hK K9
                try simp only [Act.put, List.setIfInBounds_toArray, List.set_cons_zero, List.set_cons_succ]
                refine wpAnyL_ready (rs := [9]) (by kernel_rfl) (by simp) hC ?_
                refine AllReadyL.cons (o := { dst := some 8, op := .alloc 29, type := _, pos := _, after := _, guard := none }) rfl (fun K9 hK => ?_) ?_
                · skip
                  go_simp
                  refine hK _ _ ⟨fun _ => HY0.out.below HA2.out, fun _ => HZ0.out.below HA2.out⟩ (fun hC => ?_)
                  clear hK K9
                  try simp only [Act.put, List.setIfInBounds_toArray, List.set_cons_zero, List.set_cons_succ]
                  refine wpAnyL_ready (rs := [11]) (by kernel_rfl) (by simp) hC ?_
                  refine AllReadyL.cons (o := { dst := none, op := .store 29 (.tmp 8) (.tmp 52), type := _, pos := _, after := _, guard := none }) rfl (fun K9 hK => ?_) ?_
                  · skip
                    refine step_storeY rfl 29 (.tmp 8) (.tmp 52) rfl (v0.heap.size + 1) #[.int .i64 y1, .string y2, .string y3, .bool y4, .bool y5, .string y6, .string y7] rfl rfl 29 _ HN2.out info_cgS rfl (by simp [Value.oneCell']) v0.heap.size v0 HA2.out (by omega) ?_
                    intro w11 hk1 ho1 hb1
                    have HR1 := Lib.hid ((ho1.out v0.heap.size (by omega)).trans HN1.out)
                    refine hK _ _ ⟨fun q => absurd q (by decide), fun _ => HZ0.out.below hb1.out⟩ (fun hC => ?_)
                    clear hK K9
                    try simp only [Act.put, List.setIfInBounds_toArray, List.set_cons_zero, List.set_cons_succ]
                    refine wpAnyL_ready (rs := [12]) (by kernel_rfl) (by simp) hC ?_
                    refine AllReadyL.cons (o := { dst := none, op := .store 29 (.tmp 9) (.tmp 56), type := _, pos := _, after := _, guard := none }) rfl (fun K9 hK => ?_) ?_
                    · skip
                      refine step_storeY rfl 29 (.tmp 9) (.tmp 56) rfl v0.heap.size #[.int .i64 z1, .string z2, .string z3, .bool z4, .bool z5, .string z6, .string z7] rfl rfl 29 _ HR1.out info_cgS rfl (by simp [Value.oneCell']) v0.heap.size v0 hb1.out (by omega) ?_
                      intro w12 hk2 ho2 hb2
                      have HR2 := Lib.hid ((ho2.out (v0.heap.size + 1) (by omega)).trans hk1.out)
                      have HB12 := Lib.hid (HB8.out.trans (hb2.out.mono HB8.out.size))
                      refine hK _ _ ⟨fun q => absurd q (by decide), fun q => absurd q (by decide)⟩ (fun hC => ?_)
                      clear hK K9
                      try simp only [Act.put, List.setIfInBounds_toArray, List.set_cons_zero, List.set_cons_succ]
                      refine wpAnyL_done (by kernel_rfl) ?_ _
                      clear hS hC
                      have p0 : w12.cell? ⟨v0.heap.size + 1, 0, none⟩ = some (.int .i64 y1) := (cell_of_row _ _ 0 _ _ _ HR2.out).trans rfl
                      have r0 : w12.cell? ⟨v0.heap.size, 0, none⟩ = some (.int .i64 z1) := (cell_of_row _ _ 0 _ _ _ hk2.out).trans rfl
                      have p1 : w12.cell? ⟨v0.heap.size + 1, 1, none⟩ = some (.string y2) := (cell_of_row _ _ 1 _ _ _ HR2.out).trans rfl
                      have r1 : w12.cell? ⟨v0.heap.size, 1, none⟩ = some (.string z2) := (cell_of_row _ _ 1 _ _ _ hk2.out).trans rfl
                      have p2 : w12.cell? ⟨v0.heap.size + 1, 2, none⟩ = some (.string y3) := (cell_of_row _ _ 2 _ _ _ HR2.out).trans rfl
                      have r2 : w12.cell? ⟨v0.heap.size, 2, none⟩ = some (.string z3) := (cell_of_row _ _ 2 _ _ _ hk2.out).trans rfl
                      clear hk1 ho1 hb1 hk2 ho2 hb2 HR1 HA1 HA2 HN1 HN2 HY0 HZ0
                      go_wp2_with fail
                      refine (HLS.out w12).mono ?_
                      rintro e w13 ⟨rfl, hb⟩
                      have HB13 := Lib.hid (HB12.out.trans (hb.mono HB12.out.size))
                      clear hb p0 p1 p2 r0 r1 r2
                      cases hp : lessF (y1, y2, y3, ⟨#[]⟩) (z1, z2, z3, ⟨#[]⟩) with
                      | true =>
                        go_wp2_with fail
                        go_roundw
                        case rel => exact ⟨k, k + 1, by go_num, rfl, by omega, (by have e := HKJ.out; subst e; exact adj_step HA.out HY.out HZ.out hp), HB13.out⟩
                        case measure => simp [intOf] <;> omega
                      | false =>
                        go_wp2_with fail
                        refine (awake27 _).mono ?_
                        rintro e w99 ⟨rfl, hb99⟩
                        have HB99 := Lib.hid (HB13.out.trans (hb99.mono HB13.out.size))
                        clear hb99
                        go_wp2_with fail
                        go_ret
                        exact ⟨rfl, HB99.out⟩
                    exact AllReadyL.nil
                  exact AllReadyL.nil
                exact AllReadyL.nil
              exact AllReadyL.nil
            · have hd1 : decide ((k : Int) < (n3 : Int)) = false := decide_eq_false (by omega)
              have HRS := Lib.hid (show Rs (C.map keyC) from rs_adj fun q a b h1 h2 => HA.out q a b (by have q2 := (List.getElem?_eq_some_iff.1 h2).1; rw [List.length_map, L3.out] at q2; omega) h1 h2)
              have HAP := Lib.hid (app_eq HR1.out HRS.out)
              clear HA HRS
              go_wp2_with fail
              refine (fapply_any X C A1 n1 c1 A3 n3 c3 _ (H1.out.below HB.out) (H3.out.below HB.out) HL.out.1 HL.out.2.2 (by omega) (by omega)).mono ?_
              rintro e w15 ⟨v15, rfl, ho5, hb⟩
              have HB15 := Lib.hid (HB.out.trans (hb.mono HB.out.size))
              clear hb
              obtain ⟨D, hD⟩ : ∃ D, D = (meetL cmpC X C).flatMap outA := ⟨_, rfl⟩
              have HD := Lib.hid (show rappL X C = D by rw [hD]; exact HAP.out.symm)
              rw [← hD] at ho5
              clear hD HAP
              obtain ⟨a5, d5, rfl, hr5, q5, q5'⟩ := ho5.rd fcC_len
              have HD5 := Lib.hid hr5
              have HQ5 := Lib.hid (Nat.le_trans q5 q5')
              clear ho5 hr5 q5 q5'
              go_wp2_with fail
              refine (rapply_any X C A1 n1 c1 A3 n3 c3 _ (H1.out.below HB15.out) (H3.out.below HB15.out) (by omega) (by omega)).mono ?_
              rintro e w16 ⟨v16, rfl, ho6, hb⟩
              rw [HD.out] at ho6
              obtain ⟨a6, d6, rfl, hr6, _, _⟩ := ho6.rd fcC_len
              have HD6 := Lib.hid hr6
              have HD7 := Lib.hid (HD5.out.below hb)
              have HB16 := Lib.hid (HB15.out.trans (hb.mono HB15.out.size))
              clear hb
              clear ho6 hr6 HD5 HD
              go_wp2_with fail
              refine (same27_yes a5 D.length d5 D a6 d6 _ HD7.out HD6.out HQ5.out).mono ?_
              rintro e w17 ⟨rfl, hb⟩
              have HB17 := Lib.hid (HB16.out.trans (hb.mono HB16.out.size))
              clear hb
              clear HD6 HD7 HQ5
              go_wp2_with fail
              refine (awake27 _).mono ?_
              rintro e w99 ⟨rfl, hb99⟩
              have HB99 := Lib.hid (HB17.out.trans (hb99.mono HB17.out.size))
              clear hb99
              go_wp2_with fail
              go_ret
              exact ⟨rfl, HB99.out⟩
end Go.Proofs.Ytpjpegmjcgkonaa.LFactsDiff
