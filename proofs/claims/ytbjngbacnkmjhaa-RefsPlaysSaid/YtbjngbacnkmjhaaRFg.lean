/- The document's Same and Few of layer 37, and awake, over this translation. Condition: slices that are no longer than a slice may be. -/
import Derived.Test.YtbjngbacnkmjhaaRFe
import Derived.Test.YtbjngbacnkmjhaaRFf
import Derived.Lib.MinMax
namespace Go.Proofs.Ytbjngbacnkmjhaa
open Go.RowKit Vi

set_option maxRecDepth 100000 in
theorem run_neq_rf (p1 q1 : Int) (p2 q2 p3 q3 : ByteArray) (h : ¬ (p1 = q1 ∧ p2 = q2 ∧ p3 = q3)) (W : World) :
    (binOp .neq 97 (.agg #[.int .i64 p1, .string p2, .string p3]) (.agg #[.int .i64 q1, .string q2, .string q3])).run Try.prog W = .ok (.bool true) W := by
  have hx : ∀ a b : ByteArray, a ≠ b → (a.toList == b.toList) = false := fun a b hab => by
    rw [beq_eq_false_iff_ne]; exact fun e => hab (ba_ext e)
  by_cases h1 : p1 = q1
  · subst h1
    by_cases h2 : p2 = q2
    · subst h2
      have h3 := hx p3 q3 (fun e => h ⟨rfl, rfl, e⟩)
      simp [go_sem, h3]
    · have h3 := hx p2 q2 h2
      simp [go_sem, h3]
  · have h4 : (p1 == q1) = false := by rw [beq_eq_false_iff_ne]; exact h1
    simp [go_sem, h4]
set_option maxRecDepth 100000 in
theorem run_neq_rf_no (p1 : Int) (p2 p3 : ByteArray) (W : World) :
    (binOp .neq 97 (.agg #[.int .i64 p1, .string p2, .string p3]) (.agg #[.int .i64 p1, .string p2, .string p3])).run Try.prog W = .ok (.bool false) W := by
  simp [go_sem]
def sameR (l m : List Rf) : Bool := decide (l = m)
set_option maxRecDepth 100000 in
set_option maxHeartbeats 2000000 in
theorem rfsame_any (A : Option Addr) (n c : Nat) (l : List Rf) (A2 : Option Addr) (n2 c2 : Nat) (m : List Rf) (w : World) (h : RdX rfC 3 w A n l) (h2 : RdX rfC 3 w A2 n2 m) (hn : n ≤ maxLen) :
    Calls Try.prog 62 #[.slice A n c, .slice A2 n2 c2] w fun e w' => e = .returned (.bool (sameR l m)) ∧ Below w.heap.size w w' := by
  have H := Lib.hid h
  have H2 := Lib.hid h2
  have L := Lib.hid h.1
  have L2 := Lib.hid h2.1
  have HB1 := Lib.hid (Below.refl w.heap.size w)
  unfold maxLen at hn
  clear h h2
  by_cases hq : n = n2
  rotate_left
  · have d1 : ((n : Int) != (n2 : Int)) = true := by simp; omega
    have HR := Lib.hid (show sameR l m = false from decide_eq_false (fun e => hq (by rw [← L.out, ← L2.out, e])))
    clear hq
    go_enter Try.func62, Try.ntmps62
    go_wp2_with fail
    go_ret
    exact ⟨by first | (rw [HR.out]; done) | (rw [HR.out]; rfl), HB1.out⟩
  subst hq
  have d1 : ((n : Int) != (n : Int)) = false := by simp
  go_enter Try.func62, Try.ntmps62
  go_wp2_with fail
  clear d1
  go_loopw [13] (fun i wr => ∃ k : Nat, i = .int .i64 (k : Int) ∧ k ≤ n ∧ l.take k = m.take k ∧ Below w.heap.size w wr) (fun i _ => n - (intOf i).toNat)
  case atStart => exact ⟨0, rfl, Nat.zero_le _, rfl, HB1.out⟩
  case round =>
    clear HB1
    obtain ⟨k, rfl, hk, hs, hb⟩ := hrel
    have HS := Lib.hid hs
    have HB := Lib.hid hb
    clear hs hb
    by_cases hlt : k < n
    · have hd1 : decide ((k : Int) < (n : Int)) = true := decide_eq_true (by omega)
      have hl : k < l.length := by rw [L.out]; exact hlt
      have hl2 : k < m.length := by rw [L2.out]; exact hlt
      obtain ⟨b, off, _, rfl, hbb, _⟩ := (H.out.below HB.out).at hlt
      obtain ⟨b2, off2, _, rfl, hbb2, _⟩ := (H2.out.below HB.out).at hlt
      obtain ⟨x, hx⟩ : ∃ x, l[k] = x := ⟨_, rfl⟩
      obtain ⟨y, hy⟩ : ∃ y, m[k] = y := ⟨_, rfl⟩
      have HX := Lib.hid (show l[k]? = some x by rw [List.getElem?_eq_getElem hl, hx])
      have HY := Lib.hid (show m[k]? = some y by rw [List.getElem?_eq_getElem hl2, hy])
      have HT := Lib.hid (show l.take (k + 1) = l.take k ++ [x] by rw [List.take_succ_eq_append_getElem hl, hx])
      have HT2 := Lib.hid (show m.take (k + 1) = m.take k ++ [y] by rw [List.take_succ_eq_append_getElem hl2, hy])
      clear hx hy
      obtain ⟨x1, x2, x3⟩ := x
      obtain ⟨y1, y2, y3⟩ := y
      have hi0 : (0 : Int) ≤ (k : Int) := by omega
      by_cases hp : x1 = y1 ∧ x2 = y2 ∧ x3 = y3
      · obtain ⟨rfl, rfl, rfl⟩ := hp
        have HR := Lib.hid (show l.take (k + 1) = m.take (k + 1) by rw [HT.out, HT2.out, HS.out])
        have hnq := fun W => run_neq_rf_no x1 x2 x3 W
        have hc101 : wr.cell? ⟨b, off + k * 3, none⟩ = some (.int .i64 x1) := (H.out.below HB.out).cellAt HX.out hlt 0 _ rfl
        have hc102 : wr.cell? ⟨b, off + k * 3 + 1, none⟩ = some (.string x2) := (H.out.below HB.out).cellAt HX.out hlt 1 _ rfl
        have hc103 : wr.cell? ⟨b, off + k * 3 + 2, none⟩ = some (.string x3) := (H.out.below HB.out).cellAt HX.out hlt 2 _ rfl
        have hc104 : wr.cell? ⟨b2, off2 + k * 3, none⟩ = some (.int .i64 x1) := (H2.out.below HB.out).cellAt HY.out hlt 0 _ rfl
        have hc105 : wr.cell? ⟨b2, off2 + k * 3 + 1, none⟩ = some (.string x2) := (H2.out.below HB.out).cellAt HY.out hlt 1 _ rfl
        have hc106 : wr.cell? ⟨b2, off2 + k * 3 + 2, none⟩ = some (.string x3) := (H2.out.below HB.out).cellAt HY.out hlt 2 _ rfl
        go_wp2_with fail
        have hr107 := fun d os => cell_regrown hc101 d os
        have hr108 := fun d os => cell_regrown hc102 d os
        have hr109 := fun d os => cell_regrown hc103 d os
        have hr110 := fun d os => cell_regrown hc104 d os
        have hr111 := fun d os => cell_regrown hc105 d os
        have hr112 := fun d os => cell_regrown hc106 d os
        refine wp_region_quiet_below (by kernel_rfl) (by kernel_rfl) ?_
        repeat (any_goals (first | go_big_quiet_step (fail) | quiet_step (fail)))
        refine wpQuiet_nil ?_
        intro w11 hw11
        have hb11 := below_anyY hw11
        clear hw11 hr107 hr108 hr109 hr110 hr111 hr112
        clear hc101 hc102 hc103 hc104 hc105 hc106
        have HB113 := Lib.hid (HB.out.trans (hb11.mono HB.out.size))
        clear hb11 HB 
        go_wp2_with fail
        go_roundw
        case rel => exact ⟨k + 1, by go_num, by omega, HR.out, HB113.out⟩
        case measure => simp [intOf] <;> omega
      · have HR := Lib.hid (show sameR l m = false from decide_eq_false (fun e => hp (by
          have h1 := HX.out
          rw [e, HY.out] at h1
          injection h1 with h1
          injection h1 with a1 a2
          injection a2 with a2 a3
          exact ⟨a1.symm, a2.symm, a3.symm⟩)))
        have hnq := fun W => run_neq_rf x1 y1 x2 y2 x3 y3 hp W
        clear hp
        have hc101 : wr.cell? ⟨b, off + k * 3, none⟩ = some (.int .i64 x1) := (H.out.below HB.out).cellAt HX.out hlt 0 _ rfl
        have hc102 : wr.cell? ⟨b, off + k * 3 + 1, none⟩ = some (.string x2) := (H.out.below HB.out).cellAt HX.out hlt 1 _ rfl
        have hc103 : wr.cell? ⟨b, off + k * 3 + 2, none⟩ = some (.string x3) := (H.out.below HB.out).cellAt HX.out hlt 2 _ rfl
        have hc104 : wr.cell? ⟨b2, off2 + k * 3, none⟩ = some (.int .i64 y1) := (H2.out.below HB.out).cellAt HY.out hlt 0 _ rfl
        have hc105 : wr.cell? ⟨b2, off2 + k * 3 + 1, none⟩ = some (.string y2) := (H2.out.below HB.out).cellAt HY.out hlt 1 _ rfl
        have hc106 : wr.cell? ⟨b2, off2 + k * 3 + 2, none⟩ = some (.string y3) := (H2.out.below HB.out).cellAt HY.out hlt 2 _ rfl
        go_wp2_with fail
        have hr107 := fun d os => cell_regrown hc101 d os
        have hr108 := fun d os => cell_regrown hc102 d os
        have hr109 := fun d os => cell_regrown hc103 d os
        have hr110 := fun d os => cell_regrown hc104 d os
        have hr111 := fun d os => cell_regrown hc105 d os
        have hr112 := fun d os => cell_regrown hc106 d os
        refine wp_region_quiet_below (by kernel_rfl) (by kernel_rfl) ?_
        repeat (any_goals (first | go_big_quiet_step (fail) | quiet_step (fail)))
        refine wpQuiet_nil ?_
        intro w11 hw11
        have hb11 := below_anyY hw11
        clear hw11 hr107 hr108 hr109 hr110 hr111 hr112
        clear hc101 hc102 hc103 hc104 hc105 hc106
        have HB113 := Lib.hid (HB.out.trans (hb11.mono HB.out.size))
        clear hb11 HB 
        go_wp2_with fail
        go_ret
        exact ⟨by first | (rw [HR.out]; done) | (rw [HR.out]; rfl), HB113.out⟩
    · have hd1 : decide ((k : Int) < (n : Int)) = false := decide_eq_false (by omega)
      have HR := Lib.hid (show sameR l m = true from decide_eq_true (by
        have h1 := HS.out
        rw [List.take_of_length_le (by rw [L.out]; omega), List.take_of_length_le (by rw [L2.out]; omega)] at h1
        exact h1))
      go_wp2_with fail
      go_ret
      exact ⟨by first | (rw [HR.out]; done) | (rw [HR.out]; rfl), HB.out⟩
def RetBR (p : Prop) (w : World) (e : Ending) (w' : World) : Prop := ∃ b : Bool, e = .returned (.bool b) ∧ (b = true → p) ∧ Below w.heap.size w w'
set_option maxRecDepth 100000 in
set_option maxHeartbeats 4000000 in
theorem rffew_any (A : Option Addr) (n c : Nat) (l : List Rf) (w : World) (h : RdX rfC 3 w A n l) (hn : n ≤ maxLen) :
    Calls Try.prog 54 #[.slice A n c] w (RetBR (n ≤ 70) w) := by
  have H := Lib.hid h
  have LL := Lib.hid h.1
  have HB1 := Lib.hid (Below.refl w.heap.size w)
  unfold maxLen at hn
  clear h
  go_enter Try.func54, Try.ntmps54
  go_wp2_with fail
  go_loopw [3, 4] (fun s i wr => ∃ k m : Nat, s = .int .i64 (m : Int) ∧ i = .int .i64 (k : Int) ∧ k ≤ n ∧ k ≤ 71 ∧ m ≤ 10000 * k ∧ Below w.heap.size w wr) (fun _ i _ => n - (intOf i).toNat)
  case atStart => exact ⟨0, 0, rfl, rfl, Nat.zero_le _, by omega, by omega, HB1.out⟩
  case round =>
    clear HB1
    obtain ⟨k, m, rfl, rfl, hk, hk71, hm, hb⟩ := hrel
    have HB := Lib.hid hb
    clear hb
    have HTL : Hid (∀ W : World, Below w.heap.size w W → True) := Lib.hid (fun _ _ => trivial)
    clear HTL
    by_cases hlt : k < n ∧ k ≤ 70
    · have hlt1 := hlt.1
      have hlt2 := hlt.2
      have hd1 : decide ((k : Int) < (n : Int)) = true := decide_eq_true (by omega)
      have hd2 : decide ((k : Int) ≤ 70) = true := decide_eq_true (by omega)
      have hl : k < l.length := by rw [LL.out]; exact hlt.1
      obtain ⟨b, off, _, rfl, hbb, _⟩ := (H.out.below HB.out).at hlt1
      obtain ⟨x, hx⟩ : ∃ x, l[k] = x := ⟨_, rfl⟩
      have HX := Lib.hid (show l[k]? = some x by rw [List.getElem?_eq_getElem hl, hx])
      clear hx
      obtain ⟨x1, x2, x3⟩ := x
      have hi0 : (0 : Int) ≤ (k : Int) := by omega
      have hv0 : IntKind.i64.wrap ((m : Int) + min (x2.size : Int) 5000) = (m : Int) + min (x2.size : Int) 5000 := IntWalk.i64_in _ (by omega)
      have hv1 : IntKind.i64.wrap (((m : Int) + min (x2.size : Int) 5000) + min (x3.size : Int) 5000) = ((m : Int) + min (x2.size : Int) 5000) + min (x3.size : Int) 5000 := IntWalk.i64_in _ (by omega)
      have hc101 : wr.cell? ⟨b, off + k * 3 + 1, none⟩ = some (.string x2) := (H.out.below HB.out).cellAt HX.out hlt1 1 _ rfl
      have hc102 : wr.cell? ⟨b, off + k * 3 + 2, none⟩ = some (.string x3) := (H.out.below HB.out).cellAt HX.out hlt1 2 _ rfl
      clear hlt
      go_wp2_with fail
      have Rhc101 := fun d os => cell_regrown hc101 d os
      have Rhc102 := fun d os => cell_regrown hc102 d os
      refine wp_region_quiet_below (by kernel_rfl) (by kernel_rfl) ?_
      repeat (any_goals (first | go_big_quiet_step (fail) | quiet_step (fail) | (refine wpQuiet_step (fun K hK => ?_); go_simp; refine hK _ ?_; clear hK K)))
      refine wpQuiet_nil ?_
      intro w11 hw11
      have hb11 := below_anyY hw11
      clear hw11 Rhc101 Rhc102
      clear hc101 hc102
      have HB2 := Lib.hid (HB.out.trans (hb11.mono HB.out.size))
      clear hb11
      clear hv0 hv1
      go_wp2_with fail
      go_roundw
      case rel => exact ⟨k + 1, m + min x2.size 5000 + min x3.size 5000, by congr 1; omega, by go_num, by omega, by omega, by omega, HB2.out⟩
      case measure => simp [intOf] <;> omega
    · rcases Nat.lt_or_ge k n with q | q
      · have hd1 : decide ((k : Int) < (n : Int)) = true := decide_eq_true (by omega)
        have hd2 : decide ((k : Int) ≤ 70) = false := decide_eq_false (by omega)
        have hd3 : decide ((n : Int) ≤ 70) = false := decide_eq_false (by omega)
        go_wp2_with fail
        go_ret
        exact ⟨false, rfl, (fun q => by cases q), HB.out⟩
      · have hd1 : decide ((k : Int) < (n : Int)) = false := decide_eq_false (by omega)
        by_cases h70 : n ≤ 70
        · have hd3 : decide ((n : Int) ≤ 70) = true := decide_eq_true (by omega)
          go_wp2_with fail
          go_ret
          exact ⟨_, rfl, (fun _ => h70), HB.out⟩
        · have hd3 : decide ((n : Int) ≤ 70) = false := decide_eq_false (by omega)
          go_wp2_with fail
          go_ret
          exact ⟨false, rfl, (fun q => by cases q), HB.out⟩
def raT : ByteArray := ⟨#[97]⟩
def rxT : ByteArray := ⟨#[120]⟩
def ryT : ByteArray := ⟨#[121]⟩
theorem em_cons (b : UInt8) (l : List UInt8) : emB ⟨⟨b :: l⟩⟩ = false := by unfold emB; rw [ByteArray.toList_eq]; rfl
theorem em_nil : emB ⟨#[]⟩ = true := by unfold emB; rw [ByteArray.toList_eq]; rfl
theorem okN_a : okN 1 ⟨#[97]⟩ = true := by rfl
theorem st_first : stE [] 1 ⟨#[97]⟩ ⟨#[]⟩ ⟨#[120]⟩ = 0 ∧ stV [] 1 ⟨#[97]⟩ ⟨#[]⟩ ⟨#[120]⟩ = [(1, ⟨#[97]⟩, ⟨#[120]⟩)] := by
  have h : stE [] 1 ⟨#[97]⟩ ⟨#[]⟩ ⟨#[120]⟩ = 0 := by
    unfold stE
    rw [if_neg (by rw [okN_a]; simp), if_neg (by intro q; have := q.2; rw [show emB ⟨#[120]⟩ = false from em_cons _ _] at this; cases this), if_neg (by simp [isR]), if_neg (by simp)]
  refine ⟨h, ?_⟩
  unfold stV stL
  rw [if_pos h, if_neg (by simp only; rw [show emB ⟨#[120]⟩ = false from em_cons _ _]; simp)]
  rfl
theorem st_second : stE [(1, ⟨#[97]⟩, ⟨#[120]⟩)] 1 ⟨#[97]⟩ ⟨#[]⟩ ⟨#[121]⟩ = 10 := by
  have hi : isR [(1, ⟨#[97]⟩, ⟨#[120]⟩)] (1, ⟨#[97]⟩, ⟨#[121]⟩) = ⟨#[120]⟩ := by
    unfold isR
    rw [List.find?_cons_of_pos (p := fun r => sameK r (1, ⟨#[97]⟩, ⟨#[121]⟩)) (by unfold sameK; simp)]
  unfold stE
  rw [if_neg (by rw [okN_a]; simp), if_neg (by intro q; have := q.2; rw [show emB ⟨#[121]⟩ = false from em_cons _ _] at this; cases this), hi,
    if_pos (by rw [beq_eq_false_iff_ne, ByteArray.toList_eq, ByteArray.toList_eq]; decide), if_pos em_nil]
set_option maxRecDepth 100000 in
set_option maxHeartbeats 1000000 in
theorem awake37 (w : World) : Calls Try.prog 55 #[] w fun e w' => e = .returned (.bool true) ∧ Below w.heap.size w w' := by
  have HF1 := Lib.hid (fun W : World => rfset_any none 0 0 [] 1 ⟨#[97]⟩ ⟨#[]⟩ ⟨#[120]⟩ W RdX.nil (Nat.le_refl _) OkL.nil (by decide))
  have HO := Lib.hid (st_ok (l := []) (k := 1) (s := ⟨#[97]⟩) (old := ⟨#[]⟩) (now := ⟨#[120]⟩) OkL.nil)
  rw [st_first.1, st_first.2] at HF1
  rw [st_first.2] at HO
  have HF2 := Lib.hid (fun (A : Option Addr) (c : Nat) (W : World) (q : RdX rfC 3 W A 1 [(1, ⟨#[97]⟩, ⟨#[120]⟩)]) (hc : 1 ≤ c) => rfset_any A 1 c [(1, ⟨#[97]⟩, ⟨#[120]⟩)] 1 ⟨#[97]⟩ ⟨#[]⟩ ⟨#[121]⟩ W q hc HO.out (by decide))
  rw [st_second] at HF2
  clear HO
  go_enter Try.func55, Try.ntmps55
  go_wp2_with fail
  refine (HF1.out _).mono ?_
  rintro e w1 ⟨v1, rfl, hr1, hb1⟩
  obtain ⟨A1, c1, rfl, hx1, hc1, -⟩ := hr1
  have HB1 := Lib.hid hb1
  have HX1 := Lib.hid hx1
  have HC1 := Lib.hid hc1
  clear hb1 hx1 hc1
  go_wp2_with fail
  refine (HF2.out A1 c1 _ HX1.out HC1.out).mono ?_
  rintro e w2 ⟨v2, rfl, hr2, hb2⟩
  have hv2 := hr2.one
  have HB2 := Lib.hid (HB1.out.trans (hb2.mono HB1.out.size))
  clear hr2 hb2
  go_wp2_with fail
  go_ret
  exact ⟨rfl, HB2.out⟩
end Go.Proofs.Ytbjngbacnkmjhaa
