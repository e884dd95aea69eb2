/- ValueOrder: which of any two values stands first; of three the first one stands ahead of the third, if it does of the second, and that of the third. No condition. -/
import Derived.Test.YtipggdjeejhecaaDoorRows
import Derived.Test.YtipggdjeejhecaaDoorWc
import Derived.WalkKit
namespace Go.Proofs.YtipggdjeejhecaaDoor.LValueOrder
open Go.RowKit Vi Hm

theorem cmpI_lt {a b : Int} (h : a < b) : cmpI a b = -1 := by unfold cmpI; rw [if_pos h]
theorem cmpI_gt {a b : Int} (h : b < a) : cmpI a b = 1 := by unfold cmpI; rw [if_neg (by omega), if_pos h]
theorem cmpI_eq (a : Int) : cmpI a a = 0 := by unfold cmpI; rw [if_neg (by omega), if_neg (by omega)]
theorem vcmp_is (k1 n1 : Int) (t1 : ByteArray) (k2 n2 : Int) (t2 : ByteArray) : vcmp k1 n1 t1 k2 n2 t2 = if vless k1 n1 t1 k2 n2 t2 = true then -1 else if vless k2 n2 t2 k1 n1 t1 = true then 1 else 0 := by
  unfold vcmp vless orI
  rcases Int.lt_trichotomy k1 k2 with h | rfl | h
  · have e1 : k1 ≠ k2 := by omega
    rw [cmpI_lt h]
    simp [e1, h]
  · rw [cmpI_eq]
    rcases Int.lt_trichotomy n1 n2 with h | rfl | h
    · have e1 : n1 ≠ n2 := by omega
      rw [cmpI_lt h]
      simp [e1, h]
    · rw [cmpI_eq]
      simp [cmpS]
    · have e1 : n1 ≠ n2 := by omega
      have e2 : n2 ≠ n1 := by omega
      rw [cmpI_gt h]
      simp [e1, e2, h, show ¬ n1 < n2 by omega]
  · have e1 : k1 ≠ k2 := by omega
    have e2 : k2 ≠ k1 := by omega
    rw [cmpI_gt h]
    simp [e1, e2, h, show ¬ k1 < k2 by omega]
theorem veq {k1 n1 : Int} {t1 : ByteArray} {k2 n2 : Int} {t2 : ByteArray} (h1 : vless k1 n1 t1 k2 n2 t2 = false) (h2 : vless k2 n2 t2 k1 n1 t1 = false) : k1 = k2 ∧ n1 = n2 ∧ t1.toList = t2.toList := by
  unfold vless at h1 h2
  by_cases e : k1 = k2
  · subst e
    rw [if_neg (by simp)] at h1 h2
    by_cases e2 : n1 = n2
    · subst e2
      rw [if_neg (by simp)] at h1 h2
      exact ⟨rfl, rfl, blw_total _ _ h1 h2⟩
    · rw [if_pos e2] at h1
      rw [if_pos (fun h => e2 h.symm)] at h2
      simp at h1 h2
      omega
  · rw [if_pos e] at h1
    rw [if_pos (fun h => e h.symm)] at h2
    simp at h1 h2
    omega
theorem vless_ne {k1 n1 : Int} {t1 : ByteArray} {k2 n2 : Int} {t2 : ByteArray} (h : vless k1 n1 t1 k2 n2 t2 = true) : vless k2 n2 t2 k1 n1 t1 = false ∧ ¬ (k1 = k2 ∧ n1 = n2 ∧ t1.toList = t2.toList) := by
  unfold vless at h ⊢
  by_cases e : k1 = k2
  · subst e
    rw [if_neg (by simp)] at h ⊢
    by_cases e2 : n1 = n2
    · subst e2
      rw [if_neg (by simp)] at h ⊢
      refine ⟨?_, fun h3 => ?_⟩
      · cases hq : Op.bytesLess t2.toList t1.toList with
        | false => rfl
        | true =>
          have := blw_trans _ _ _ h hq
          rw [blw_irrefl] at this
          cases this
      · rw [h3.2.2, blw_irrefl] at h
        cases h
    · rw [if_pos e2] at h
      rw [if_pos (fun h => e2 h.symm)]
      simp at h ⊢
      exact ⟨by omega, fun h3 => absurd h3 e2⟩
  · rw [if_pos e] at h
    rw [if_pos (fun h => e h.symm)]
    simp at h ⊢
    exact ⟨by omega, fun h3 => absurd h3 e⟩
theorem three_ways {a b c : Prop} (h : ¬ (a ∧ b ∧ c)) : ¬ a ∨ (a ∧ ¬ b) ∨ (a ∧ b ∧ ¬ c) := by
  by_cases ha : a
  · by_cases hb : b
    · exact .inr (.inr ⟨ha, hb, fun hc => h ⟨ha, hb, hc⟩⟩)
    · exact .inr (.inl ⟨ha, hb⟩)
  · exact .inl ha
theorem vless_trans {k1 n1 : Int} {t1 : ByteArray} {k2 n2 : Int} {t2 : ByteArray} {k3 n3 : Int} {t3 : ByteArray} (h1 : vless k1 n1 t1 k2 n2 t2 = true) (h2 : vless k2 n2 t2 k3 n3 t3 = true) : vless k1 n1 t1 k3 n3 t3 = true := by
  have key : ∀ {k1 n1 : Int} {t1 : ByteArray} {k2 n2 : Int} {t2 : ByteArray}, vless k1 n1 t1 k2 n2 t2 = true ↔ k1 < k2 ∨ (k1 = k2 ∧ (n1 < n2 ∨ (n1 = n2 ∧ Op.bytesLess t1.toList t2.toList = true))) := by
    intro k1 n1 t1 k2 n2 t2
    unfold vless
    by_cases e : k1 = k2
    · subst e
      rw [if_neg (by simp)]
      by_cases e2 : n1 = n2
      · subst e2
        rw [if_neg (by simp)]
        simp
      · rw [if_pos e2]
        simp [e2]
    · rw [if_pos e]
      simp [e]
  rw [key] at h1 h2 ⊢
  rcases h1 with h1 | ⟨rfl, h1 | ⟨rfl, h1⟩⟩
  · rcases h2 with h2 | ⟨rfl, h2⟩
    · exact .inl (by omega)
    · exact .inl h1
  · rcases h2 with h2 | ⟨rfl, h2 | ⟨rfl, h2⟩⟩
    · exact .inl h2
    · exact .inr ⟨rfl, .inl (by omega)⟩
    · exact .inr ⟨rfl, .inl h1⟩
  · rcases h2 with h2 | ⟨rfl, h2 | ⟨rfl, h2⟩⟩
    · exact .inl h2
    · exact .inr ⟨rfl, .inl h2⟩
    · exact .inr ⟨rfl, .inr ⟨rfl, blw_trans _ _ _ h1 h2⟩⟩
/-- three values in boxes of their own -/
structure ThreeV (w : World) (k1 n1 : Int) (t1 : ByteArray) (k2 n2 : Int) (t2 : ByteArray) (k3 n3 : Int) (t3 : ByteArray) (W : World) : Prop where
  c0 : W.cell? ⟨w.heap.size, 0, none⟩ = some (.int .i64 k1)
  c1 : W.cell? ⟨w.heap.size, 1, none⟩ = some (.int .i64 n1)
  c2 : W.cell? ⟨w.heap.size, 2, none⟩ = some (.string t1)
  d0 : W.cell? ⟨w.heap.size + 1, 0, none⟩ = some (.int .i64 k2)
  d1 : W.cell? ⟨w.heap.size + 1, 1, none⟩ = some (.int .i64 n2)
  d2 : W.cell? ⟨w.heap.size + 1, 2, none⟩ = some (.string t2)
  e0 : W.cell? ⟨w.heap.size + 1 + 1, 0, none⟩ = some (.int .i64 k3)
  e1 : W.cell? ⟨w.heap.size + 1 + 1, 1, none⟩ = some (.int .i64 n3)
  e2 : W.cell? ⟨w.heap.size + 1 + 1, 2, none⟩ = some (.string t3)
  old : Below w.heap.size w W
theorem threeV (w : World) (k1 n1 : Int) (t1 : ByteArray) (k2 n2 : Int) (t2 : ByteArray) (k3 n3 : Int) (t3 : ByteArray) : ThreeV w k1 n1 t1 k2 n2 t2 k3 n3 t3 (((w.alloc (.cells #[.int .i64 k1, .int .i64 n1, .string t1] 23)).alloc (.cells #[.int .i64 k2, .int .i64 n2, .string t2] 23)).alloc (.cells #[.int .i64 k3, .int .i64 n3, .string t3] 23)) := by
  have T := twoV w k1 n1 t1 k2 n2 t2
  have hz : ((w.alloc (.cells #[.int .i64 k1, .int .i64 n1, .string t1] 23)).alloc (.cells #[.int .i64 k2, .int .i64 n2, .string t2] 23)).heap.size = w.heap.size + 1 + 1 := by simp
  generalize ((w.alloc (.cells #[.int .i64 k1, .int .i64 n1, .string t1] 23)).alloc (.cells #[.int .i64 k2, .int .i64 n2, .string t2] 23)) = W at T hz ⊢
  have B : Below W.heap.size W (W.alloc (.cells #[.int .i64 k3, .int .i64 n3, .string t3] 23)) := (Below.refl _ _).alloc (Nat.le_refl _) _
  have go : ∀ {b o : Nat} {u : Value}, W.cell? ⟨b, o, none⟩ = some u → (W.alloc (.cells #[.int .i64 k3, .int .i64 n3, .string t3] 23)).cell? ⟨b, o, none⟩ = some u := fun h => (B.cell (World.block_lt_of_cell? W _ h)).trans h
  have hn := heap_alloc_new W (.cells #[.int .i64 k3, .int .i64 n3, .string t3] 23)
  rw [hz] at hn
  exact ⟨go T.c0, go T.c1, go T.c2, go T.d0, go T.d1, go T.d2, by rw [cell_of_row _ _ _ _ _ _ hn]; rfl, by rw [cell_of_row _ _ _ _ _ _ hn]; rfl, by rw [cell_of_row _ _ _ _ _ _ hn]; rfl, T.old.trans (B.mono T.old.size)⟩
section
variable {w W W' : World} {k1 n1 : Int} {t1 : ByteArray} {k2 n2 : Int} {t2 : ByteArray} {k3 n3 : Int} {t3 : ByteArray}
theorem ThreeV.later (h : ThreeV w k1 n1 t1 k2 n2 t2 k3 n3 t3 W) (hb : Below W.heap.size W W') : ThreeV w k1 n1 t1 k2 n2 t2 k3 n3 t3 W' := by
  have go : ∀ {b o : Nat} {u : Value}, W.cell? ⟨b, o, none⟩ = some u → W'.cell? ⟨b, o, none⟩ = some u := fun h => (hb.cell (World.block_lt_of_cell? W _ h)).trans h
  exact ⟨go h.c0, go h.c1, go h.c2, go h.d0, go h.d1, go h.d2, go h.e0, go h.e1, go h.e2, h.old.trans (hb.mono h.old.size)⟩
end
set_option maxRecDepth 100000 in
set_option maxHeartbeats 2000000 in
theorem walk_lt (k1 n1 : Int) (t1 : ByteArray) (k2 n2 : Int) (t2 : ByteArray) (k3 n3 : Int) (t3 : ByteArray) (w : World) (h12 : vless k1 n1 t1 k2 n2 t2 = true) (h23 : vless k2 n2 t2 k3 n3 t3 = true) :
    Calls Tryd.prog 5 #[.agg #[.int .i64 k1, .int .i64 n1, .string t1], .agg #[.int .i64 k2, .int .i64 n2, .string t2], .agg #[.int .i64 k3, .int .i64 n3, .string t3]] w fun e w' => e = .returned (.bool true) ∧ Below w.heap.size w w' := by
  have L12 := Lib.hid (fun W : World => vless_any k1 n1 t1 k2 n2 t2 W)
  have L21 := Lib.hid (fun W : World => vless_any k2 n2 t2 k1 n1 t1 W)
  have C12 := Lib.hid (fun W : World => vcmp_any k1 n1 t1 k2 n2 t2 W)
  have C21 := Lib.hid (fun W : World => vcmp_any k2 n2 t2 k1 n1 t1 W)
  have C23 := Lib.hid (fun W : World => vcmp_any k2 n2 t2 k3 n3 t3 W)
  have C13 := Lib.hid (fun W : World => vcmp_any k1 n1 t1 k3 n3 t3 W)
  obtain ⟨h21, hne⟩ := vless_ne h12
  have h13 := vless_trans h12 h23
  have q12 : vcmp k1 n1 t1 k2 n2 t2 = -1 := by rw [vcmp_is, h12]; rfl
  have q21 : vcmp k2 n2 t2 k1 n1 t1 = 1 := by rw [vcmp_is, h12, h21]; rfl
  have q23 : vcmp k2 n2 t2 k3 n3 t3 = -1 := by rw [vcmp_is, h23]; rfl
  have q13 : vcmp k1 n1 t1 k3 n3 t3 = -1 := by rw [vcmp_is, h13]; rfl
  rw [h12] at L12
  rw [h21] at L21
  rw [q12] at C12
  rw [q21] at C21
  rw [q23] at C23
  rw [q13] at C13
  have HS := Lib.hid hne
  clear q12 q21 q23 q13 h12 h21 h23 h13 hne
  go_enter Tryd.func5, Tryd.ntmps5
  go_upto_region 1 with (fail)
  refine gen_worldW (ThreeV w k1 n1 t1 k2 n2 t2 k3 n3 t3) (threeV w k1 n1 t1 k2 n2 t2 k3 n3 t3) ?_
  intro W0 tv
  have TV := Lib.hid tv
  obtain ⟨c0, c1, c2, d0, d1, d2, e0, e1, e2, -⟩ := tv
  go_wp2_with fail
  clear c0 c1 c2 d0 d1 d2 e0 e1 e2
  refine (L12.out _).mono ?_
  rintro e V ⟨rfl, hb⟩
  have TV2 := Lib.hid (TV.out.later hb)
  obtain ⟨c0, c1, c2, d0, d1, d2, e0, e1, e2, -⟩ := TV2.out
  clear hb TV
  have TV := Lib.hid TV2.out
  clear TV2
  go_wp2_with fail
  clear c0 c1 c2 d0 d1 d2 e0 e1 e2
  refine (L21.out _).mono ?_
  rintro e V ⟨rfl, hb⟩
  have TV2 := Lib.hid (TV.out.later hb)
  obtain ⟨c0, c1, c2, d0, d1, d2, e0, e1, e2, -⟩ := TV2.out
  clear hb TV
  have TV := Lib.hid TV2.out
  clear TV2
  go_wp2_with fail
  clear c0 c1 c2 d0 d1 d2 e0 e1 e2
  refine (C12.out _).mono ?_
  rintro e V ⟨rfl, hb⟩
  have TV2 := Lib.hid (TV.out.later hb)
  obtain ⟨c0, c1, c2, d0, d1, d2, e0, e1, e2, -⟩ := TV2.out
  clear hb TV
  have TV := Lib.hid TV2.out
  clear TV2
  go_wp2_with fail
  clear c0 c1 c2 d0 d1 d2 e0 e1 e2
  refine (C21.out _).mono ?_
  rintro e V ⟨rfl, hb⟩
  have TV2 := Lib.hid (TV.out.later hb)
  obtain ⟨c0, c1, c2, d0, d1, d2, e0, e1, e2, -⟩ := TV2.out
  clear hb TV
  have TV := Lib.hid TV2.out
  clear TV2
  go_wp2_with fail
  all_goals
    clear c0 c1 c2 d0 d1 d2 e0 e1 e2
    subst_vars
    first
    | (exfalso; refine HS.out ⟨rfl, rfl, ?_⟩; assumption)
    | (refine (C12.out _).mono ?_
       rintro e V ⟨rfl, hb⟩
       have TV2 := Lib.hid (TV.out.later hb)
       obtain ⟨c0, c1, c2, d0, d1, d2, e0, e1, e2, -⟩ := TV2.out
       clear hb TV
       have TV := Lib.hid TV2.out
       clear TV2
       go_wp2_with fail
       clear c0 c1 c2 d0 d1 d2 e0 e1 e2
       refine (C23.out _).mono ?_
       rintro e V ⟨rfl, hb⟩
       have TV2 := Lib.hid (TV.out.later hb)
       obtain ⟨c0, c1, c2, d0, d1, d2, e0, e1, e2, -⟩ := TV2.out
       clear hb TV
       have TV := Lib.hid TV2.out
       clear TV2
       go_wp2_with fail
       clear c0 c1 c2 d0 d1 d2 e0 e1 e2
       refine (C13.out _).mono ?_
       rintro e V ⟨rfl, hb⟩
       have TV2 := Lib.hid (TV.out.later hb)
       obtain ⟨c0, c1, c2, d0, d1, d2, e0, e1, e2, -⟩ := TV2.out
       clear hb TV
       have TV := Lib.hid TV2.out
       clear TV2
       go_wp2_with fail
       clear c0 c1 c2 d0 d1 d2 e0 e1 e2
       refine (awake06 _).mono ?_
       rintro e V ⟨rfl, hb⟩
       have BF := Lib.hid (TV.out.old.trans (hb.mono TV.out.old.size))
       clear hb TV
       go_wp2_with fail
       go_ret
       exact ⟨rfl, BF.out⟩)
set_option maxRecDepth 100000 in
set_option maxHeartbeats 2000000 in
theorem walk_lf (k1 n1 : Int) (t1 : ByteArray) (k2 n2 : Int) (t2 : ByteArray) (k3 n3 : Int) (t3 : ByteArray) (w : World) (h12 : vless k1 n1 t1 k2 n2 t2 = true) (h23 : vless k2 n2 t2 k3 n3 t3 = false) :
    Calls Tryd.prog 5 #[.agg #[.int .i64 k1, .int .i64 n1, .string t1], .agg #[.int .i64 k2, .int .i64 n2, .string t2], .agg #[.int .i64 k3, .int .i64 n3, .string t3]] w fun e w' => e = .returned (.bool true) ∧ Below w.heap.size w w' := by
  have L12 := Lib.hid (fun W : World => vless_any k1 n1 t1 k2 n2 t2 W)
  have L21 := Lib.hid (fun W : World => vless_any k2 n2 t2 k1 n1 t1 W)
  have C12 := Lib.hid (fun W : World => vcmp_any k1 n1 t1 k2 n2 t2 W)
  have C21 := Lib.hid (fun W : World => vcmp_any k2 n2 t2 k1 n1 t1 W)
  have C23 := Lib.hid (fun W : World => vcmp_any k2 n2 t2 k3 n3 t3 W)
  obtain ⟨h21, hne⟩ := vless_ne h12
  have q12 : vcmp k1 n1 t1 k2 n2 t2 = -1 := by rw [vcmp_is, h12]; rfl
  have q21 : vcmp k2 n2 t2 k1 n1 t1 = 1 := by rw [vcmp_is, h12, h21]; rfl
  have hz : decide (vcmp k2 n2 t2 k3 n3 t3 < 0) = false := by
    rw [vcmp_is, h23]
    cases vless k3 n3 t3 k2 n2 t2 <;> rfl
  rw [h12] at L12
  rw [h21] at L21
  rw [q12] at C12
  rw [q21] at C21
  generalize vcmp k2 n2 t2 k3 n3 t3 = z at C23 hz
  have HS := Lib.hid hne
  clear q12 q21 h12 h21 h23 hne
  go_enter Tryd.func5, Tryd.ntmps5
  go_upto_region 1 with (fail)
  refine gen_worldW (ThreeV w k1 n1 t1 k2 n2 t2 k3 n3 t3) (threeV w k1 n1 t1 k2 n2 t2 k3 n3 t3) ?_
  intro W0 tv
  have TV := Lib.hid tv
  obtain ⟨c0, c1, c2, d0, d1, d2, e0, e1, e2, -⟩ := tv
  go_wp2_with fail
  clear c0 c1 c2 d0 d1 d2 e0 e1 e2
  refine (L12.out _).mono ?_
  rintro e V ⟨rfl, hb⟩
  have TV2 := Lib.hid (TV.out.later hb)
  obtain ⟨c0, c1, c2, d0, d1, d2, e0, e1, e2, -⟩ := TV2.out
  clear hb TV
  have TV := Lib.hid TV2.out
  clear TV2
  go_wp2_with fail
  clear c0 c1 c2 d0 d1 d2 e0 e1 e2
  refine (L21.out _).mono ?_
  rintro e V ⟨rfl, hb⟩
  have TV2 := Lib.hid (TV.out.later hb)
  obtain ⟨c0, c1, c2, d0, d1, d2, e0, e1, e2, -⟩ := TV2.out
  clear hb TV
  have TV := Lib.hid TV2.out
  clear TV2
  go_wp2_with fail
  clear c0 c1 c2 d0 d1 d2 e0 e1 e2
  refine (C12.out _).mono ?_
  rintro e V ⟨rfl, hb⟩
  have TV2 := Lib.hid (TV.out.later hb)
  obtain ⟨c0, c1, c2, d0, d1, d2, e0, e1, e2, -⟩ := TV2.out
  clear hb TV
  have TV := Lib.hid TV2.out
  clear TV2
  go_wp2_with fail
  clear c0 c1 c2 d0 d1 d2 e0 e1 e2
  refine (C21.out _).mono ?_
  rintro e V ⟨rfl, hb⟩
  have TV2 := Lib.hid (TV.out.later hb)
  obtain ⟨c0, c1, c2, d0, d1, d2, e0, e1, e2, -⟩ := TV2.out
  clear hb TV
  have TV := Lib.hid TV2.out
  clear TV2
  go_wp2_with fail
  all_goals
    clear c0 c1 c2 d0 d1 d2 e0 e1 e2
    subst_vars
    first
    | (exfalso; refine HS.out ⟨rfl, rfl, ?_⟩; assumption)
    | (refine (C12.out _).mono ?_
       rintro e V ⟨rfl, hb⟩
       have TV2 := Lib.hid (TV.out.later hb)
       obtain ⟨c0, c1, c2, d0, d1, d2, e0, e1, e2, -⟩ := TV2.out
       clear hb TV
       have TV := Lib.hid TV2.out
       clear TV2
       go_wp2_with fail
       clear c0 c1 c2 d0 d1 d2 e0 e1 e2
       refine (C23.out _).mono ?_
       rintro e V ⟨rfl, hb⟩
       have TV2 := Lib.hid (TV.out.later hb)
       obtain ⟨c0, c1, c2, d0, d1, d2, e0, e1, e2, -⟩ := TV2.out
       clear hb TV
       have TV := Lib.hid TV2.out
       clear TV2
       go_wp2_with fail
       clear c0 c1 c2 d0 d1 d2 e0 e1 e2
       refine (awake06 _).mono ?_
       rintro e V ⟨rfl, hb⟩
       have BF := Lib.hid (TV.out.old.trans (hb.mono TV.out.old.size))
       clear hb TV
       go_wp2_with fail
       go_ret
       exact ⟨rfl, BF.out⟩)
set_option maxRecDepth 100000 in
set_option maxHeartbeats 2000000 in
theorem walk_g (k1 n1 : Int) (t1 : ByteArray) (k2 n2 : Int) (t2 : ByteArray) (k3 n3 : Int) (t3 : ByteArray) (w : World) (h12 : vless k1 n1 t1 k2 n2 t2 = false) (h21 : vless k2 n2 t2 k1 n1 t1 = true) :
    Calls Tryd.prog 5 #[.agg #[.int .i64 k1, .int .i64 n1, .string t1], .agg #[.int .i64 k2, .int .i64 n2, .string t2], .agg #[.int .i64 k3, .int .i64 n3, .string t3]] w fun e w' => e = .returned (.bool true) ∧ Below w.heap.size w w' := by
  have L12 := Lib.hid (fun W : World => vless_any k1 n1 t1 k2 n2 t2 W)
  have L21 := Lib.hid (fun W : World => vless_any k2 n2 t2 k1 n1 t1 W)
  have C12 := Lib.hid (fun W : World => vcmp_any k1 n1 t1 k2 n2 t2 W)
  have C21 := Lib.hid (fun W : World => vcmp_any k2 n2 t2 k1 n1 t1 W)
  have hne := (vless_ne h21).2
  have q12 : vcmp k1 n1 t1 k2 n2 t2 = 1 := by rw [vcmp_is, h12, h21]; rfl
  have q21 : vcmp k2 n2 t2 k1 n1 t1 = -1 := by rw [vcmp_is, h21]; rfl
  rw [h12] at L12
  rw [h21] at L21
  rw [q12] at C12
  rw [q21] at C21
  have HS := Lib.hid (show ¬ (k1 = k2 ∧ n1 = n2 ∧ t1.toList = t2.toList) from fun h => hne ⟨h.1.symm, h.2.1.symm, h.2.2.symm⟩)
  clear q12 q21 h12 h21 hne
  go_enter Tryd.func5, Tryd.ntmps5
  go_upto_region 1 with (fail)
  refine gen_worldW (ThreeV w k1 n1 t1 k2 n2 t2 k3 n3 t3) (threeV w k1 n1 t1 k2 n2 t2 k3 n3 t3) ?_
  intro W0 tv
  have TV := Lib.hid tv
  obtain ⟨c0, c1, c2, d0, d1, d2, e0, e1, e2, -⟩ := tv
  go_wp2_with fail
  clear c0 c1 c2 d0 d1 d2 e0 e1 e2
  refine (L12.out _).mono ?_
  rintro e V ⟨rfl, hb⟩
  have TV2 := Lib.hid (TV.out.later hb)
  obtain ⟨c0, c1, c2, d0, d1, d2, e0, e1, e2, -⟩ := TV2.out
  clear hb TV
  have TV := Lib.hid TV2.out
  clear TV2
  go_wp2_with fail
  clear c0 c1 c2 d0 d1 d2 e0 e1 e2
  refine (L21.out _).mono ?_
  rintro e V ⟨rfl, hb⟩
  have TV2 := Lib.hid (TV.out.later hb)
  obtain ⟨c0, c1, c2, d0, d1, d2, e0, e1, e2, -⟩ := TV2.out
  clear hb TV
  have TV := Lib.hid TV2.out
  clear TV2
  go_wp2_with fail
  clear c0 c1 c2 d0 d1 d2 e0 e1 e2
  refine (C12.out _).mono ?_
  rintro e V ⟨rfl, hb⟩
  have TV2 := Lib.hid (TV.out.later hb)
  obtain ⟨c0, c1, c2, d0, d1, d2, e0, e1, e2, -⟩ := TV2.out
  clear hb TV
  have TV := Lib.hid TV2.out
  clear TV2
  go_wp2_with fail
  clear c0 c1 c2 d0 d1 d2 e0 e1 e2
  refine (C21.out _).mono ?_
  rintro e V ⟨rfl, hb⟩
  have TV2 := Lib.hid (TV.out.later hb)
  obtain ⟨c0, c1, c2, d0, d1, d2, e0, e1, e2, -⟩ := TV2.out
  clear hb TV
  have TV := Lib.hid TV2.out
  clear TV2
  go_wp2_with fail
  all_goals
    clear c0 c1 c2 d0 d1 d2 e0 e1 e2
    subst_vars
    first
    | (exfalso; refine HS.out ⟨rfl, rfl, ?_⟩; assumption)
    | (refine (C12.out _).mono ?_
       rintro e V ⟨rfl, hb⟩
       have TV2 := Lib.hid (TV.out.later hb)
       obtain ⟨c0, c1, c2, d0, d1, d2, e0, e1, e2, -⟩ := TV2.out
       clear hb TV
       have TV := Lib.hid TV2.out
       clear TV2
       go_wp2_with fail
       clear c0 c1 c2 d0 d1 d2 e0 e1 e2
       refine (awake06 _).mono ?_
       rintro e V ⟨rfl, hb⟩
       have BF := Lib.hid (TV.out.old.trans (hb.mono TV.out.old.size))
       clear hb TV
       go_wp2_with fail
       go_ret
       exact ⟨rfl, BF.out⟩)
end Go.Proofs.YtipggdjeejhecaaDoor.LValueOrder
