/- Contracts of slices.Clone, slices.Grow (of nil) and slices.Concat (of two) over rows of texts; of name.With and name.Without. -/
import Derived.Test.YtlkhgjgefhcicaaNq
import Derived.Lib.AppendZerosOnto
namespace Go.Proofs.Ytlkhgjgefhcicaa
open Go.RowKit

set_option maxRecDepth 100000 in
set_option maxHeartbeats 800000 in
theorem clone_any (a : Option Addr) (len cap : Nat) (ss : List ByteArray) (w : World) (hsl : SlN w a len ss) (hlm : len ≤ 100000) :
    Calls Try.prog 46 #[.slice a len cap] w (RetTS w ss) := by
  have q24 : ∀ (w : World) (a : Option Addr) (n c n' c' : Nat), (binOp .eql 22 (.slice a n c) (.slice none n' c')).run Try.prog w = .ok (.bool a.isNone) w := fun w a n c n' c' => Lib.run_eql_slice_nil w _ _ a n c n' c' Try.underlying22
  have HS := Lib.hid hsl
  have hl := hsl.1
  rcases a with _ | ad
  · have h0 : ss = [] := by
      rcases Nat.eq_zero_or_pos len with h0 | h0
      · exact List.length_eq_zero_iff.1 (by omega)
      · obtain ⟨b, off, e, _⟩ := hsl.2 h0
        cases e
    subst h0
    clear hsl hl
    go_enter Try.func46, Try.ntmps46
    go_wp2
    go_ret
    exact ⟨_, rfl, TS.of_own (own_nil w 0), Below.refl _ _⟩
  · clear hsl hl
    go_enter Try.func46, Try.ntmps46
    go_wp2_with (at_builtin; refine wpList_app rfl _ _ rfl w.heap.size w ((Below.refl _ w).alloc (Nat.le_refl _) _) (by simp) _ [] rfl (own_zero w) (some ad) len cap ss rfl (HS.out.later ((Below.refl _ w).alloc (Nat.le_refl _) _)) (by simp; omega) ?_)
    intro v1 w1 HO HB HZ
    go_wp2
    go_ret
    exact ⟨v1, rfl, TS.of_own HO.out, HB.out⟩

set_option maxRecDepth 100000 in
set_option maxHeartbeats 800000 in
theorem sgrow_any (n : Nat) (w : World) (hn : n ≤ 300000) :
    Calls Try.prog 82 #[.slice none 0 0, .int .i64 (n : Int)] w (RetOwn w []) := by
  rcases Nat.eq_zero_or_pos n with rfl | hp
  · go_enter Try.func82, Try.ntmps82
    go_wp2
    go_ret
    exact ⟨_, rfl, own_nil w _, Below.refl _ _⟩
  · obtain ⟨i0, hi, hz0, hz1, hz2⟩ := info_parts info_str
    have hrz := fun ty => Lib.run_append_nil_zeros (P := Try.prog) w 22 3 ty 9 i0 (.string ⟨#[]⟩) .i64 .i64 Try.underlying22 Try.underlying3 hi hz0 n hp (by omega) (by omega) (by rw [hz2]; omega)
    have hGn : n ≤ grownCap w n 0 9 := grownCap_ge w _ _ _
    have hGm : grownCap w n 0 9 ≤ maxLen := grownCap_le_maxLen w n 0 9 (by unfold maxLen; omega)
    obtain ⟨G, hG⟩ : ∃ G, G = grownCap w n 0 9 := ⟨_, rfl⟩
    rw [← hG] at hGn hGm
    simp only [← hG] at hrz
    clear hG
    have hGm2 := hGm
    unfold maxLen at hGm2
    have h4 : (n : Int) > 0 := by omega
    have h1 : ¬ ((n : Int) < 0) := by omega
    have HRZ := Lib.hid hrz
    clear hrz hi hz0 hz1 hz2
    go_enter Try.func82, Try.ntmps82
    go_wp2_with (at_builtin; refine Lib.wpList_append_run _ rfl _ _ _ _ rfl _ _ rfl rfl _ _ (HRZ.out _) ?_)
    all_goals go_ret
    all_goals exact ⟨_, rfl, ⟨by simp, .inr ⟨w.heap.size, G, _, rfl, Nat.le_refl _, heap_alloc_new w.drew _, Nat.zero_le _, hGm, by simp [size_zeroCells]; omega, by simp⟩⟩, ((Below.refl _ w).drew).alloc (Nat.le_refl _) _⟩

set_option maxRecDepth 100000 in
set_option maxHeartbeats 1600000 in
theorem concat2_any (b : Nat) (A0 : Option Addr) (n0 c0 : Nat) (xs : List ByteArray) (A1 : Option Addr) (n1 c1 : Nat) (ys : List ByteArray) (w : World)
    (h0 : w.cell? ⟨b, 0, none⟩ = some (.slice A0 n0 c0)) (h1 : w.cell? ⟨b, 1, none⟩ = some (.slice A1 n1 c1)) (s0 : SlN w A0 n0 xs) (s1 : SlN w A1 n1 ys) (hm0 : n0 ≤ 100000) (hm1 : n1 ≤ 100000) :
    Calls Try.prog 48 #[.slice (some ⟨b, 0, none⟩) 2 2] w (RetTS w (xs ++ ys)) := by
  have H0 := Lib.hid s0
  have H1 := Lib.hid s1
  have HC0 := Lib.hid h0
  have HC1 := Lib.hid h1
  have hlt := World.block_lt_of_cell? w _ h0
  have HLT := Lib.hid (show b < w.heap.size from hlt)
  clear s0 s1 hlt
  go_enter Try.func48, Try.ntmps48
  go_wp2
  go_loop [3, 5, 11] (fun v _ i => (i = .int .i64 0 ∧ v = .int .i64 0) ∨ (i = .int .i64 1 ∧ v = .int .i64 (n0 : Int)) ∨ (i = .int .i64 2 ∧ v = .int .i64 ((n0 : Int) + (n1 : Int)))) (fun _ _ i => 2 - (intOf i).toNat)
  case atStart => exact Or.inl ⟨rfl, rfl⟩
  case round =>
    rcases hrel with ⟨rfl, rfl⟩ | ⟨rfl, rfl⟩ | ⟨rfl, rfl⟩
    · go_wp2
      go_round
      case rel => exact Or.inr (Or.inl ⟨rfl, rfl⟩)
      case measure => simp [intOf]
    · go_wp2
      go_round
      case rel => exact Or.inr (Or.inr ⟨rfl, rfl⟩)
      case measure => simp [intOf]
    · obtain ⟨N, hN⟩ : ∃ N, N = n0 + n1 := ⟨_, rfl⟩
      have hNi : (n0 : Int) + (n1 : Int) = (N : Int) := by omega
      have HN := Lib.hid hN
      clear hN h0 h1
      go_wp2_with fail
      refine (sgrow_any N w (by have := HN.out; omega)).mono ?_
      rintro e w1 ⟨v1, rfl, ho1, hb1⟩
      have HO1 := Lib.hid ho1
      have HB1 := Lib.hid hb1
      clear ho1 hb1
      go_wp2
      go_loopw [6, 8, 27] (fun v _ i wr => ∃ L : List ByteArray, OwnS wr w.heap.size v L ∧ Below w.heap.size w wr ∧ ((i = .int .i64 0 ∧ L = []) ∨ (i = .int .i64 1 ∧ L = xs) ∨ (i = .int .i64 2 ∧ L = xs ++ ys))) (fun _ _ i _ => 2 - (intOf i).toNat)
      case atStart => exact ⟨[], HO1.out, HB1.out, Or.inl ⟨rfl, rfl⟩⟩
      case round =>
        obtain ⟨L, ho, hb, hcase⟩ := hrel
        have HO := Lib.hid ho
        have HB := Lib.hid hb
        have hc0 := (hb.cell (p := ⟨b, 0, none⟩) HLT.out).trans HC0.out
        have hc1 := (hb.cell (p := ⟨b, 1, none⟩) HLT.out).trans HC1.out
        have hx0 := H0.out.1
        have hx1 := H1.out.1
        have HX0 := Lib.hid hx0
        have HX1 := Lib.hid hx1
        clear ho hb hx0 hx1 HO1 HB1
        rcases hcase with ⟨rfl, rfl⟩ | ⟨rfl, hL⟩ | ⟨rfl, hL⟩
        · go_wp2_with (at_builtin; refine wpList_app rfl _ _ rfl w.heap.size w HB.out HB.out.size _ [] rfl HO.out A0 n0 c0 xs rfl (H0.out.later HB.out) (by simp; omega) ?_)
          intro v2 w2 HO2 HB2 HZ2
          go_wp2
          go_roundw
          case rel => exact ⟨xs, HO2.out, HB2.out, Or.inr (Or.inl ⟨rfl, rfl⟩)⟩
          case measure => simp [intOf]
        · have HL := Lib.hid hL
          clear hL
          go_wp2_with (at_builtin; refine wpList_app rfl _ _ rfl w.heap.size w HB.out HB.out.size _ L rfl HO.out A1 n1 c1 ys rfl (H1.out.later HB.out) (by rw [HL.out, HX0.out]; omega) ?_)
          intro v2 w2 HO2 HB2 HZ2
          go_wp2
          go_roundw
          case rel => exact ⟨xs ++ ys, by have := HO2.out; rw [HL.out] at this; exact this, HB2.out, Or.inr (Or.inr ⟨rfl, rfl⟩)⟩
          case measure => simp [intOf]
        · have HL := Lib.hid hL
          clear hL
          go_wp2
          go_ret
          exact ⟨_, rfl, by have := TS.of_own HO.out; rw [HL.out] at this; exact this, HB.out⟩

set_option maxRecDepth 100000 in
set_option maxHeartbeats 1600000 in
theorem withNo_any (a : Option Addr) (len cap : Nat) (ss : List ByteArray) (x : ByteArray) (K : Nat) (w : World) (hsl : SlN w a len ss) (hlm : len ≤ 100000) (hlc : len ≤ cap) (hK : Cut ss x K) (hm : metB ss x K = false) :
    Calls Try.prog 14 #[.slice a len cap, .string x] w (RetTS2 w (ss.take K ++ x :: ss.drop K) true) := by
  have hkl : K ≤ len := by have := hK.1; rw [hsl.1] at this; exact this
  have HM := Lib.hid hm
  have HK := Lib.hid hK
  have HS := Lib.hid hsl
  have e1 := slice_to a len cap K (by omega)
  have e2 := slice_from a len cap K hkl
  clear hm hK hsl
  have hk0 : 0 ≤ (K : Int) := by omega
  have hk2 : (K : Int) ≤ (len : Int) := by omega
  go_enter Try.func14, Try.ntmps14
  go_wp2_with fail
  refine (find_any a len cap ss x K w HS.out (by omega) HK.out).mono ?_
  rintro e w' ⟨rfl, rfl⟩
  rw [HM.out]
  go_wp2_with fail
  go_region_with ((go_at_call 47; refine (join_ts a K cap (ss.take K) x (cutA a cap K) (len - K) (cap - K) (ss.drop K) _ ?_ ?_ (by omega) (by omega)).mono ?_; (exact HS.out.upto K hkl); (exact HS.out.cut cap K hkl hlc); rintro e w2 ⟨v2, rfl, ht, hb⟩))
  all_goals go_wp2
  all_goals go_ret2
  all_goals exact ⟨v2, rfl, ht, ((Below.refl _ w).drew).trans hb⟩

set_option maxRecDepth 100000 in
set_option maxHeartbeats 800000 in
theorem withYes_any (a : Option Addr) (len cap : Nat) (ss : List ByteArray) (x : ByteArray) (K : Nat) (w : World) (hsl : SlN w a len ss) (hlm : len ≤ 100000) (hK : Cut ss x K) (hm : metB ss x K = true) :
    Calls Try.prog 14 #[.slice a len cap, .string x] w (RetTS2 w ss false) := by
  have HM := Lib.hid hm
  have HK := Lib.hid hK
  have HS := Lib.hid hsl
  clear hm hK hsl
  go_enter Try.func14, Try.ntmps14
  go_wp2_with fail
  refine (find_any a len cap ss x K w HS.out (by omega) HK.out).mono ?_
  rintro e w' ⟨rfl, rfl⟩
  rw [HM.out]
  go_wp2_with fail
  refine (clone_any a len cap ss w HS.out hlm).mono ?_
  rintro e w2 ⟨v2, rfl, ht, hb⟩
  go_wp2
  go_ret2
  exact ⟨v2, rfl, ht, hb⟩

set_option maxRecDepth 100000 in
set_option maxHeartbeats 800000 in
theorem withoutNo_any (a : Option Addr) (len cap : Nat) (ss : List ByteArray) (x : ByteArray) (K : Nat) (w : World) (hsl : SlN w a len ss) (hlm : len ≤ 100000) (hK : Cut ss x K) (hm : metB ss x K = false) :
    Calls Try.prog 15 #[.slice a len cap, .string x] w (RetTS2 w ss false) := by
  have HM := Lib.hid hm
  have HK := Lib.hid hK
  have HS := Lib.hid hsl
  clear hm hK hsl
  go_enter Try.func15, Try.ntmps15
  go_wp2_with fail
  refine (find_any a len cap ss x K w HS.out (by omega) HK.out).mono ?_
  rintro e w' ⟨rfl, rfl⟩
  rw [HM.out]
  go_wp2_with fail
  refine (clone_any a len cap ss w HS.out hlm).mono ?_
  rintro e w2 ⟨v2, rfl, ht, hb⟩
  go_wp2
  go_ret2
  exact ⟨v2, rfl, ht, hb⟩

theorem two_cells (w : World) (x y : Value) (t : TypeId) : (w.alloc (.cells #[x, y] t)).drew.cell? ⟨w.heap.size, 0, none⟩ = some x ∧ (w.alloc (.cells #[x, y] t)).drew.cell? ⟨w.heap.size, 1, none⟩ = some y := by
  constructor
  · show (w.alloc (.cells #[x, y] t)).cell? _ = _
    rw [cell_of_row _ _ _ _ _ _ (MapKept.heap_alloc w (.cells #[x, y] t)).1]
    rfl
  · show (w.alloc (.cells #[x, y] t)).cell? _ = _
    rw [cell_of_row _ _ _ _ _ _ (MapKept.heap_alloc w (.cells #[x, y] t)).1]
    rfl
set_option maxRecDepth 100000 in
set_option maxHeartbeats 1600000 in
theorem withoutYes_any (a : Option Addr) (len cap : Nat) (ss : List ByteArray) (x : ByteArray) (K : Nat) (w : World) (hsl : SlN w a len ss) (hlm : len ≤ 100000) (hlc : len ≤ cap) (hK : Cut ss x K) (hm : metB ss x K = true) :
    Calls Try.prog 15 #[.slice a len cap, .string x] w (RetTS2 w (ss.take K ++ ss.drop (K + 1)) true) := by
  obtain ⟨hks, _⟩ := met_at hm
  have hkl : K < len := by rw [hsl.1] at hks; exact hks
  have HM := Lib.hid hm
  have HK := Lib.hid hK
  have HS := Lib.hid hsl
  have e1 := slice_to a len cap K (by omega)
  have e2 := slice_at a len cap (K + 1) ((K : Int) + 1) (by omega) (by omega)
  clear hm hK hsl
  have hk0 : 0 ≤ (K : Int) := by omega
  have hk2 : (K : Int) + 1 ≤ (len : Int) := by omega
  have hk3 : (K : Int) ≤ 100000 := by omega
  have hk4 : IntKind.i64.wrap ((K : Int) + 1) = (K : Int) + 1 := by rw [IntKind.wrap_i64]; omega
  go_enter Try.func15, Try.ntmps15
  go_wp2_with fail
  refine (find_any a len cap ss x K w HS.out (by omega) HK.out).mono ?_
  rintro e w' ⟨rfl, rfl⟩
  rw [HM.out]
  go_wp2_with fail
  go_region_with ((go_at_call 48; refine (concat2_any w.heap.size a K cap (ss.take K) (cutA a cap (K + 1)) (len - (K + 1)) (cap - (K + 1)) (ss.drop (K + 1)) _ ?_ ?_ ?_ ?_ (by omega) (by omega)).mono ?_; (exact (two_cells w _ _ _).1); (exact (two_cells w _ _ _).2); (exact (HS.out.upto K (by omega)).later (((Below.refl _ w).alloc (Nat.le_refl _) _).drew)); (exact (HS.out.cut cap (K + 1) hkl hlc).later (((Below.refl _ w).alloc (Nat.le_refl _) _).drew)); rintro e w2 ⟨v2, rfl, ht, hb⟩))
  all_goals go_wp2
  all_goals go_ret2
  all_goals exact ⟨v2, rfl, ht, (((Below.refl _ w).alloc (Nat.le_refl _) _).drew).trans (hb.mono (by simp))⟩
end Go.Proofs.Ytlkhgjgefhcicaa
