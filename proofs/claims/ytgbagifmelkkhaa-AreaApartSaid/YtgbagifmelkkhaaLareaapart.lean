/- AreaApart: where all fits, pack, log and records are apart, as many sectors as each needs, and the sector ahead of the last record is none of them. No condition. -/
import Derived.Test.YtgbagifmelkkhaaRows
import Derived.Test.YtgbagifmelkkhaaRw
import Derived.Test.YtgbagifmelkkhaaRo
import Derived.Test.YtgbagifmelkkhaaRp
import Derived.Below
import Derived.LoopTactic
import Derived.Handy
import Derived.Deep.RegionWith
import Derived.RegionTactic
import Derived.Deep.QuietTactic
import Derived.BigQuiet
import Derived.Lib.QuietBelow
namespace Go.Proofs.Ytgbagifmelkkhaa.LAreaApart
open Go.RowKit Ar

set_option maxHeartbeats 800000 in
theorem early (n h p t r : Int) (w : World) (hn0 : -9223372036854775808 ≤ n) (hn1 : n ≤ 9223372036854775807) (hp0 : -9223372036854775808 ≤ p) (hp1 : p ≤ 9223372036854775807) (ht0 : -9223372036854775808 ≤ t) (ht1 : t ≤ 9223372036854775807) (hr0 : -9223372036854775808 ≤ r) (hr1 : r ≤ 9223372036854775807)
    (hno : ft n p t r = false ∨ 400 < n ∨ h < 0 ∨ 1 < h ∨ p < 0 ∨ t < 0 ∨ r < 0) :
    Calls Try.prog 6 #[.int .i64 n, .int .i64 h, .int .i64 p, .int .i64 t, .int .i64 r] w fun e w' => e = .returned (.bool true) ∧ Below w.heap.size w w' := by
  cases c0 : ft n p t r with
  | false =>
    have C0 := Lib.hid c0
    clear c0 hno
    go_enter Try.func6, Try.ntmps6
    go_wp2_with fail
    refine (fits_any n p t r _ hn0 hn1 hp0 hp1 ht0 ht1 hr0 hr1).mono ?_
    rintro e w' ⟨rfl, rfl⟩
    rw [C0.out]
    go_wp2_with fail
    refine (areaAwake_any _).mono ?_
    rintro e w' ⟨rfl, rfl⟩
    go_wp2
    go_ret
    exact ⟨rfl, Below.refl _ _⟩
  | true =>
    have C0 := Lib.hid c0
    clear c0
    have hno : 400 < n ∨ h < 0 ∨ 1 < h ∨ p < 0 ∨ t < 0 ∨ r < 0 := by
      rcases hno with e | e
      · rw [C0.out] at e; cases e
      · exact e
    by_cases c1 : 400 < n
    rotate_left; by_cases c2 : h < 0
    rotate_left; by_cases c3 : 1 < h
    rotate_left; by_cases c4 : p < 0
    rotate_left; by_cases c5 : t < 0
    rotate_left; have c6 : r < 0 := by omega
    all_goals clear hno
    all_goals go_enter Try.func6, Try.ntmps6
    all_goals go_wp2_with fail
    all_goals refine (fits_any n p t r _ hn0 hn1 hp0 hp1 ht0 ht1 hr0 hr1).mono ?_
    all_goals rintro e w' ⟨rfl, rfl⟩
    all_goals rw [C0.out]
    all_goals go_wp2_with fail
    all_goals refine (areaAwake_any _).mono ?_
    all_goals rintro e w' ⟨rfl, rfl⟩
    all_goals go_wp2
    all_goals go_ret
    all_goals exact ⟨rfl, Below.refl _ _⟩

theorem bcell {W w1 : World} (hb : Below W.heap.size W w1) : (∀ b o, b < W.heap.size → w1.cell? ⟨b, o, none⟩ = W.cell? ⟨b, o, none⟩) ∧ (∀ b o, b < W.heap.size → w1.frozen? ⟨b, o, none⟩ = W.frozen? ⟨b, o, none⟩) :=
  ⟨fun b o h => hb.cell (p := ⟨b, o, none⟩) h, fun b o h => hb.frozen (p := ⟨b, o, none⟩) h⟩

/-- what the two boxes hold -/
def Boxes (h p : Int) (B : Nat) (c : Int → Int) (w : World) : Prop :=
  (∀ j v, (#[Value.int .i64 0, .int .i64 h, .int .i64 p, .int .i64 0] : Array Value)[j]? = some v → w.cell? ⟨B, j, none⟩ = some v) ∧
  (∀ j : Nat, j < 7 → w.cell? ⟨B + 1, j, none⟩ = some (.int .i64 (c j))) ∧ (∀ o, w.frozen? ⟨B + 1, o, none⟩ = false) ∧ B + 1 < w.heap.size
theorem boxes_below {h p : Int} {B : Nat} {c : Int → Int} {w w1 : World} (b : Boxes h p B c w) (hb : Below w.heap.size w w1) : Boxes h p B c w1 := by
  obtain ⟨h1, h2, h3, h4⟩ := b
  obtain ⟨e1, e2⟩ := bcell hb
  exact ⟨fun j v e => by rw [e1 _ _ (by omega)]; exact h1 j v e, fun j e => by rw [e1 _ _ (by omega)]; exact h2 j e, fun o => by rw [e2 _ _ (by omega)]; exact h3 o, by have := hb.size; omega⟩
theorem boxes_set {h p : Int} {B : Nat} {c : Int → Int} {w : World} (b : Boxes h p B c w) (j : Nat) (hj : j < 7) (x : Int) :
    Boxes h p B (fun i => if i = (j : Int) then x else c i) (w.setCell ⟨B + 1, j, none⟩ (.int .i64 x)) := by
  obtain ⟨h1, h2, h3, h4⟩ := b
  refine ⟨fun i v e => ?_, fun i hi => ?_, fun o => ?_, by simpa using h4⟩
  · rw [World.cell?_setCell_other _ _ _ _ (by simp)]; exact h1 i v e
  · by_cases e : i = j
    · subst e; rw [World.cell?_setCell_same _ _ _ (h2 i hi)]; simp
    · rw [World.cell?_setCell_other _ _ _ _ (fun g => e (by cases g; rfl)), h2 i hi]
      show some (Value.int .i64 (c i)) = some (Value.int .i64 (if (i : Int) = (j : Int) then x else c i))
      rw [if_neg (by omega)]
  · rw [World.frozen?_setCell]; exact h3 o
theorem ct_step (f : Nat → Int) (k : Nat) (v : Int) (h : f k = v) : (fun i => if i = v then ct f v k + 1 else ct f i k) = fun i => ct f i (k + 1) := by
  funext i
  simp only [ct, h]
  by_cases e : i = v
  · subst e; simp
  · rw [if_neg e, if_neg (fun g => e g.symm)]; omega
theorem boxes_round {h p : Int} {B : Nat} {f : Nat → Int} {k : Nat} {w w1 : World} (b : Boxes h p B (fun i => ct f i k) w) (hb : Below w.heap.size w w1) (v : Nat) (hv : v < 7) (e : f k = (v : Int)) :
    Boxes h p B (fun i => ct f i (k + 1)) (w1.setCell ⟨B + 1, v, none⟩ (.int .i64 (ct f v k + 1))) := by
  have := boxes_set (boxes_below b hb) v hv (ct f v k + 1)
  rwa [ct_step f k v e] at this
theorem vl_cases (n h p t r : Int) (k : Nat) : vl n h p t r k = 0 ∨ vl n h p t r k = 1 ∨ vl n h p t r k = 2 ∨ vl n h p t r k = 3 ∨ vl n h p t r k = 4 ∨ vl n h p t r k = 5 := by
  have := lay_bd (fs n h) (fs n h + hf n) (lg n h p) (lg n h p + sc t) r k
  unfold vl; omega

theorem below_any {w w' : World} (h : ∃ p : Regrown, w' = Sort.grow (redrawn w p.d) p.os) : Below w.heap.size w w' := by
  obtain ⟨p, rfl⟩ := h
  exact below_regrown w p.d p.os
theorem awake_below (w : World) : Calls Try.prog 24 #[] w fun e w' => e = .returned (.bool true) ∧ Below w.heap.size w w' :=
  (areaAwake_any w).mono fun _ _ ⟨h1, h2⟩ => ⟨h1, h2 ▸ Below.refl _ _⟩
theorem sectors_below (b : Int) (w : World) (h0 : -9223372036854775808 ≤ b) (h1 : b ≤ 9223372036854775807) : Calls Try.prog 20 #[.int .i64 b] w fun e w' => e = .returned (.int .i64 (sc b)) ∧ Below w.heap.size w w' :=
  (sectors_any b w h0 h1).mono fun _ _ ⟨h1, h2⟩ => ⟨h1, h2 ▸ Below.refl _ _⟩
theorem new_cell (w : World) (cs : Array Value) (t : TypeId) (k : Nat) (v : Value) (hk : cs[k]? = some v) : (w.alloc (.cells cs t)).cell? ⟨w.heap.size, k, none⟩ = some v := by
  have e := (MapKept.heap_alloc w (.cells cs t)).1
  simp only [World.cell?, e]
  exact hk
theorem new_free (w : World) (cs : Array Value) (t : TypeId) (k : Nat) : (w.alloc (.cells cs t)).frozen? ⟨w.heap.size, k, none⟩ = false := by
  have e := (MapKept.heap_alloc w (.cells cs t)).1
  simp only [World.frozen?, e]
  simp
theorem boxes_start (w : World) (h p : Int) (f : Nat → Int) : Boxes h p w.heap.size (fun j => ct f j 0)
    ((w.alloc (.cells #[.int .i64 0, .int .i64 h, .int .i64 p, .int .i64 0] 32)).alloc (.cells #[.int .i64 0, .int .i64 0, .int .i64 0, .int .i64 0, .int .i64 0, .int .i64 0, .int .i64 0] 35)) := by
  have hs : (w.alloc (.cells #[.int .i64 0, .int .i64 h, .int .i64 p, .int .i64 0] 32)).heap.size = w.heap.size + 1 := by simp
  refine ⟨fun j v e => ?_, fun j hj => ?_, fun o => ?_, by simp⟩
  · have hb := (Below.refl (w.heap.size + 1) (w.alloc (.cells #[.int .i64 0, .int .i64 h, .int .i64 p, .int .i64 0] 32))).alloc (by simp) (.cells #[.int .i64 0, .int .i64 0, .int .i64 0, .int .i64 0, .int .i64 0, .int .i64 0, .int .i64 0] 35)
    rw [hb.cell (p := ⟨w.heap.size, j, none⟩) (by simp)]
    exact new_cell _ _ _ _ _ e
  · rw [← hs]
    refine new_cell _ _ _ _ _ ?_
    rcases (show j = 0 ∨ j = 1 ∨ j = 2 ∨ j = 3 ∨ j = 4 ∨ j = 5 ∨ j = 6 by omega) with rfl | rfl | rfl | rfl | rfl | rfl | rfl <;> rfl
  · rw [← hs]; exact new_free _ _ _ _

set_option maxRecDepth 100000 in
set_option maxHeartbeats 1600000 in
theorem main (n h p t r : Int) (w : World) (hn0 : -9223372036854775808 ≤ n) (hn1 : n ≤ 9223372036854775807) (hp0 : -9223372036854775808 ≤ p) (hp1 : p ≤ 9223372036854775807) (ht0 : -9223372036854775808 ≤ t) (ht1 : t ≤ 9223372036854775807) (hr0 : -9223372036854775808 ≤ r) (hr1 : r ≤ 9223372036854775807)
    (C0 : Hid (ft n p t r = true)) (H : Fit n h p t r) :
    Calls Try.prog 6 #[.int .i64 n, .int .i64 h, .int .i64 p, .int .i64 t, .int .i64 r] w fun e w' => e = .returned (.bool true) ∧ Below w.heap.size w w' := by
  have hn400 := H.n1
  have hn16 := H.n0
  have hrr := H.r0
  have hrh := H.rh
  have c1 : decide (400 < n) = false := by simp; omega
  have c2 : decide (h < 0) = false := by have := H.h0; simp; omega
  have c3 : decide (1 < h) = false := by have := H.h1; simp; omega
  have c4 : decide (p < 0) = false := by have := H.p0; simp; omega
  have c5 : decide (t < 0) = false := by have := H.t0; simp; omega
  have c6 : decide (r < 0) = false := by simp; omega
  go_enter Try.func6, Try.ntmps6
  go_wp2_with fail
  refine (fits_any n p t r _ hn0 hn1 hp0 hp1 ht0 ht1 hr0 hr1).mono ?_
  rintro e w' ⟨rfl, rfl⟩
  rw [C0.out]
  go_wp2_with fail
  go_loopw [13, 54] (fun _ i wr => ∃ k : Nat, (k : Int) ≤ n ∧ i = .int .i64 (k : Int) ∧ Boxes h p w.heap.size (fun j => ct (vl n h p t r) j k) wr ∧ Below w.heap.size w wr) (fun _ i _ => (n - intOf i).toNat)
  case atStart =>
    refine ⟨0, by omega, rfl, boxes_start w h p _, ((Below.refl _ _).alloc (Nat.le_refl _) _).alloc (by simp) _⟩
  case round =>
    obtain ⟨k, hk, rfl, hbx, hb⟩ := hrel
    have HB := Lib.hid hbx
    obtain ⟨ha, hcs, hfz, hsz⟩ := hbx
    have a0 := ha 0 _ rfl
    have a1 := ha 1 _ rfl
    have a2 := ha 2 _ rfl
    have a3 := ha 3 _ rfl
    have hs := hb.size
    by_cases hlt : (k : Int) < n
    · have HV := Lib.hid (fit_lay H k hlt)
      rcases vl_cases n h p t r k with e | e | e | e | e | e
      · have HV2 := Lib.hid (HV.out.trans e)
        have HE := Lib.hid e
        clear e HV
        have cc := hcs 0 (by omega)
        have cb := ct_bd (vl n h p t r) 0 k
        have cfz := hfz 0
        clear ha hcs hfz
        go_wp2_with fail
        refine (of_any n 0 h p 0 t r k _ hn0 hn1 hp0 hp1 ht0 ht1 hr0 hr1 (by omega) (by omega)).mono ?_
        rintro e w1 ⟨rfl, hb1⟩
        rw [HV2.out]
        have hbx1 := boxes_round HB.out hb1 0 (by omega) HE.out
        have hb2 : Below w.heap.size w w1 := hb.trans (hb1.mono hs)
        have d0 : w1.cell? ⟨w.heap.size + 1, 0, none⟩ = _ := (hb1.cell (p := ⟨w.heap.size + 1, 0, none⟩) hsz).trans cc
        have dz : w1.frozen? ⟨w.heap.size + 1, 0, none⟩ = _ := (hb1.frozen (p := ⟨w.heap.size + 1, 0, none⟩) hsz).trans cfz
        clear cc cfz hb1 a0 a1 a2 a3
        have HX := Lib.hid hbx1
        clear hbx1 HB
        go_wp2
        go_roundw
        case rel => exact ⟨k + 1, by omega, by go_num, HX.out, hb2.setCell (by simp) _⟩
        case measure => simp [intOf]; omega
      · have HV2 := Lib.hid (HV.out.trans e)
        have HE := Lib.hid e
        clear e HV
        have cc := hcs 1 (by omega)
        have cb := ct_bd (vl n h p t r) 1 k
        have cfz := hfz 1
        clear ha hcs hfz
        go_wp2_with fail
        refine (of_any n 0 h p 0 t r k _ hn0 hn1 hp0 hp1 ht0 ht1 hr0 hr1 (by omega) (by omega)).mono ?_
        rintro e w1 ⟨rfl, hb1⟩
        rw [HV2.out]
        have hbx1 := boxes_round HB.out hb1 1 (by omega) HE.out
        have hb2 : Below w.heap.size w w1 := hb.trans (hb1.mono hs)
        have d0 : w1.cell? ⟨w.heap.size + 1, 1, none⟩ = _ := (hb1.cell (p := ⟨w.heap.size + 1, 1, none⟩) hsz).trans cc
        have dz : w1.frozen? ⟨w.heap.size + 1, 1, none⟩ = _ := (hb1.frozen (p := ⟨w.heap.size + 1, 1, none⟩) hsz).trans cfz
        clear cc cfz hb1 a0 a1 a2 a3
        have HX := Lib.hid hbx1
        clear hbx1 HB
        go_wp2
        go_roundw
        case rel => exact ⟨k + 1, by omega, by go_num, HX.out, hb2.setCell (by simp) _⟩
        case measure => simp [intOf]; omega
      · have HV2 := Lib.hid (HV.out.trans e)
        have HE := Lib.hid e
        clear e HV
        have cc := hcs 2 (by omega)
        have cb := ct_bd (vl n h p t r) 2 k
        have cfz := hfz 2
        clear ha hcs hfz
        go_wp2_with fail
        refine (of_any n 0 h p 0 t r k _ hn0 hn1 hp0 hp1 ht0 ht1 hr0 hr1 (by omega) (by omega)).mono ?_
        rintro e w1 ⟨rfl, hb1⟩
        rw [HV2.out]
        have hbx1 := boxes_round HB.out hb1 2 (by omega) HE.out
        have hb2 : Below w.heap.size w w1 := hb.trans (hb1.mono hs)
        have d0 : w1.cell? ⟨w.heap.size + 1, 2, none⟩ = _ := (hb1.cell (p := ⟨w.heap.size + 1, 2, none⟩) hsz).trans cc
        have dz : w1.frozen? ⟨w.heap.size + 1, 2, none⟩ = _ := (hb1.frozen (p := ⟨w.heap.size + 1, 2, none⟩) hsz).trans cfz
        clear cc cfz hb1 a0 a1 a2 a3
        have HX := Lib.hid hbx1
        clear hbx1 HB
        go_wp2
        go_roundw
        case rel => exact ⟨k + 1, by omega, by go_num, HX.out, hb2.setCell (by simp) _⟩
        case measure => simp [intOf]; omega
      · have HV2 := Lib.hid (HV.out.trans e)
        have HE := Lib.hid e
        clear e HV
        have cc := hcs 3 (by omega)
        have cb := ct_bd (vl n h p t r) 3 k
        have cfz := hfz 3
        clear ha hcs hfz
        go_wp2_with fail
        refine (of_any n 0 h p 0 t r k _ hn0 hn1 hp0 hp1 ht0 ht1 hr0 hr1 (by omega) (by omega)).mono ?_
        rintro e w1 ⟨rfl, hb1⟩
        rw [HV2.out]
        have hbx1 := boxes_round HB.out hb1 3 (by omega) HE.out
        have hb2 : Below w.heap.size w w1 := hb.trans (hb1.mono hs)
        have d0 : w1.cell? ⟨w.heap.size + 1, 3, none⟩ = _ := (hb1.cell (p := ⟨w.heap.size + 1, 3, none⟩) hsz).trans cc
        have dz : w1.frozen? ⟨w.heap.size + 1, 3, none⟩ = _ := (hb1.frozen (p := ⟨w.heap.size + 1, 3, none⟩) hsz).trans cfz
        clear cc cfz hb1 a0 a1 a2 a3
        have HX := Lib.hid hbx1
        clear hbx1 HB
        go_wp2
        go_roundw
        case rel => exact ⟨k + 1, by omega, by go_num, HX.out, hb2.setCell (by simp) _⟩
        case measure => simp [intOf]; omega
      · have HV2 := Lib.hid (HV.out.trans e)
        have HE := Lib.hid e
        clear e HV
        have cc := hcs 4 (by omega)
        have cb := ct_bd (vl n h p t r) 4 k
        have cfz := hfz 4
        clear ha hcs hfz
        go_wp2_with fail
        refine (of_any n 0 h p 0 t r k _ hn0 hn1 hp0 hp1 ht0 ht1 hr0 hr1 (by omega) (by omega)).mono ?_
        rintro e w1 ⟨rfl, hb1⟩
        rw [HV2.out]
        have hbx1 := boxes_round HB.out hb1 4 (by omega) HE.out
        have hb2 : Below w.heap.size w w1 := hb.trans (hb1.mono hs)
        have d0 : w1.cell? ⟨w.heap.size + 1, 4, none⟩ = _ := (hb1.cell (p := ⟨w.heap.size + 1, 4, none⟩) hsz).trans cc
        have dz : w1.frozen? ⟨w.heap.size + 1, 4, none⟩ = _ := (hb1.frozen (p := ⟨w.heap.size + 1, 4, none⟩) hsz).trans cfz
        clear cc cfz hb1 a0 a1 a2 a3
        have HX := Lib.hid hbx1
        clear hbx1 HB
        go_wp2
        go_roundw
        case rel => exact ⟨k + 1, by omega, by go_num, HX.out, hb2.setCell (by simp) _⟩
        case measure => simp [intOf]; omega
      · have HV2 := Lib.hid (HV.out.trans e)
        have HE := Lib.hid e
        clear e HV
        have cc := hcs 5 (by omega)
        have cb := ct_bd (vl n h p t r) 5 k
        have cfz := hfz 5
        clear ha hcs hfz
        go_wp2_with fail
        refine (of_any n 0 h p 0 t r k _ hn0 hn1 hp0 hp1 ht0 ht1 hr0 hr1 (by omega) (by omega)).mono ?_
        rintro e w1 ⟨rfl, hb1⟩
        rw [HV2.out]
        have hbx1 := boxes_round HB.out hb1 5 (by omega) HE.out
        have hb2 : Below w.heap.size w w1 := hb.trans (hb1.mono hs)
        have d0 : w1.cell? ⟨w.heap.size + 1, 5, none⟩ = _ := (hb1.cell (p := ⟨w.heap.size + 1, 5, none⟩) hsz).trans cc
        have dz : w1.frozen? ⟨w.heap.size + 1, 5, none⟩ = _ := (hb1.frozen (p := ⟨w.heap.size + 1, 5, none⟩) hsz).trans cfz
        clear cc cfz hb1 a0 a1 a2 a3
        have HX := Lib.hid hbx1
        clear hbx1 HB
        go_wp2
        go_roundw
        case rel => exact ⟨k + 1, by omega, by go_num, HX.out, hb2.setCell (by simp) _⟩
        case measure => simp [intOf]; omega
    · have hkn : (k : Int) = n := by omega
      have HC := Lib.hid (fit_cts H k hkn)
      have HP := Lib.hid (show pl n h r = _ from if_neg (by omega))
      have HE := Lib.hid (fit_empty H)
      have fb := fs_bd n h
      have hfb := hf_bd n
      clear ha hcs hfz hlt
      go_wp2_with fail
      refine (place_any n h r _ hn0 hn1 hr0 hr1).mono ?_
      rintro e w' ⟨rfl, rfl⟩
      rw [HP.out]
      go_wp2_with fail
      refine (of_any n 0 h p 0 t r (fs n h + hf n - 1 - r) _ hn0 hn1 hp0 hp1 ht0 ht1 hr0 hr1 (by omega) (by omega)).mono ?_
      rintro e w1 ⟨rfl, hb1⟩
      rw [HE.out]
      have HB1 := Lib.hid (boxes_below HB.out hb1)
      have hb2 : Below w.heap.size w w1 := hb.trans (hb1.mono hs)
      clear hb1 hb HB hs hsz a0 a1 a2 a3
      go_wp2_with fail
      go_loopw [89] (fun i wq => ∃ q : Nat, (q : Int) ≤ r ∧ i = .int .i64 (q : Int) ∧ Boxes h p w.heap.size (fun j => ct (vl n h p t r) j k) wq ∧ Below w.heap.size w wq) (fun i _ => (r - intOf i).toNat)
      case atStart => exact ⟨0, by omega, rfl, HB1.out, hb2⟩
      case round =>
        obtain ⟨q, hq, rfl, hbq, hbl⟩ := hrel
        have HQ := Lib.hid hbq
        obtain ⟨ha, hcs, hfz, hsz⟩ := hbq
        have hs := hbl.size
        by_cases hlt : (q : Int) < r
        · have a0 := ha 0 _ rfl
          have a1 := ha 1 _ rfl
          have a2 := ha 2 _ rfl
          have a3 := ha 3 _ rfl
          have HP2 := Lib.hid (show pl n h q = _ from if_neg (by omega))
          have HR := Lib.hid (fit_rec H q (by omega) hlt)
          clear ha hcs hfz HB1 hb2
          go_wp2_with fail
          refine (place_any n h q _ hn0 hn1 (by omega) (by omega)).mono ?_
          rintro e w' ⟨rfl, rfl⟩
          rw [HP2.out]
          go_wp2_with fail
          refine (of_any n 0 h p 0 t r (fs n h + hf n - 1 - q) _ hn0 hn1 hp0 hp1 ht0 ht1 hr0 hr1 (by omega) (by omega)).mono ?_
          rintro e w2 ⟨rfl, hb3⟩
          rw [HR.out]
          have HB2 := Lib.hid (boxes_below HQ.out hb3)
          have hb4 : Below w.heap.size w w2 := hbl.trans (hb3.mono hs)
          clear hb3 hbl HQ hs hsz a0 a1 a2 a3
          go_wp2
          go_roundw
          case rel => exact ⟨q + 1, by omega, by go_num, HB2.out, hb4⟩
          case measure => simp [intOf]; omega
        · obtain ⟨e0, e1, e2, e3, e6⟩ := HC.out
          have z0 : wr.cell? ⟨w.heap.size + 1, 0, none⟩ = some (.int .i64 2) := (hcs 0 (by omega)).trans (congrArg (fun x => some (Value.int .i64 x)) e0)
          have z1 : wr.cell? ⟨w.heap.size + 1, 1, none⟩ = some (.int .i64 (sc p)) := (hcs 1 (by omega)).trans (congrArg (fun x => some (Value.int .i64 x)) e1)
          have z2 : wr.cell? ⟨w.heap.size + 1, 2, none⟩ = some (.int .i64 (sc t)) := (hcs 2 (by omega)).trans (congrArg (fun x => some (Value.int .i64 x)) e2)
          have z3 : wr.cell? ⟨w.heap.size + 1, 3, none⟩ = some (.int .i64 r) := (hcs 3 (by omega)).trans (congrArg (fun x => some (Value.int .i64 x)) e3)
          have z6 : wr.cell? ⟨w.heap.size + 1, 6, none⟩ = some (.int .i64 0) := (hcs 6 (by omega)).trans (congrArg (fun x => some (Value.int .i64 x)) e6)
          have l0 := fun d os => cell_regrown z0 d os
          have l1 := fun d os => cell_regrown z1 d os
          have l2 := fun d os => cell_regrown z2 d os
          have l3 := fun d os => cell_regrown z3 d os
          have l6 := fun d os => cell_regrown z6 d os
          have q1 : (sc p == sc p) = true := by simp
          have q2 : (sc t == sc t) = true := by simp
          have q3 : (r == r) = true := by simp
          clear e0 e1 e2 e3 e6 z0 z1 z2 z3 z6 ha hcs hfz HC HP HE HB1 hb2 HQ
          go_wp2_with fail
          refine wp_region_quiet_below (by kernel_rfl) (by kernel_rfl) ?_
          repeat (any_goals (first | go_big_quiet_step ((first | (go_at_call 20; exact Calls.regrown_of (sectors_below p _ hp0 hp1)) | (go_at_call 20; exact Calls.regrown_of (sectors_below t _ ht0 ht1)) | (go_at_call 24; exact Calls.regrown_of (awake_below _)))) | quiet_step ((first | (go_at_call 20; exact Calls.regrown_of (sectors_below p _ hp0 hp1)) | (go_at_call 20; exact Calls.regrown_of (sectors_below t _ ht0 ht1)) | (go_at_call 24; exact Calls.regrown_of (awake_below _))))))
          refine wpQuiet_nil ?_
          intro w2 hw'
          have hb3 := below_any hw'
          clear hw' l0 l1 l2 l3 l6
          go_wp2
          go_ret
          exact ⟨rfl, hbl.trans (hb3.mono hs)⟩
theorem walk (n h p t r : Int) (w : World) (hn0 : -9223372036854775808 ≤ n) (hn1 : n ≤ 9223372036854775807) (hp0 : -9223372036854775808 ≤ p) (hp1 : p ≤ 9223372036854775807) (ht0 : -9223372036854775808 ≤ t) (ht1 : t ≤ 9223372036854775807) (hr0 : -9223372036854775808 ≤ r) (hr1 : r ≤ 9223372036854775807) :
    Calls Try.prog 6 #[.int .i64 n, .int .i64 h, .int .i64 p, .int .i64 t, .int .i64 r] w fun e w' => e = .returned (.bool true) ∧ Below w.heap.size w w' := by
  by_cases g : ft n p t r = false ∨ 400 < n ∨ h < 0 ∨ 1 < h ∨ p < 0 ∨ t < 0 ∨ r < 0
  · exact early n h p t r w hn0 hn1 hp0 hp1 ht0 ht1 hr0 hr1 g
  · have c0 : ft n p t r = true := by
      cases c : ft n p t r with
      | true => rfl
      | false => exact absurd (Or.inl c) g
    have g' : ¬ (400 < n ∨ h < 0 ∨ 1 < h ∨ p < 0 ∨ t < 0 ∨ r < 0) := fun e => g (Or.inr e)
    exact main n h p t r w hn0 hn1 hp0 hp1 ht0 ht1 hr0 hr1 (Lib.hid c0) (fit_of n h p t r c0 (by omega) (by omega) (by omega) (by omega) (by omega) (by omega) hp1 ht1)
end Go.Proofs.Ytgbagifmelkkhaa.LAreaApart
