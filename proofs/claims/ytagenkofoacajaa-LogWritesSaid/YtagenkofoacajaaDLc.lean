/- settle of none, and Boot, over this translation. No condition. -/
import Derived.Test.YtagenkofoacajaaDLb
import Derived.IntWalk
namespace Go.Proofs.Ytagenkofoacajaa
open Go.RowKit Vi

set_option maxRecDepth 100000 in
set_option maxHeartbeats 2000000 in
theorem dsettle_none (D : Nat) (SS : List ByteArray) (CC : List Wr) (dn : Bool) (ops fu : Int) (w : World) (h : DK D SS CC dn ops fu w) :
    Calls Try.prog 45 #[.pointer (some ⟨D, 0, none⟩), .func (.func 50) #[] #[]] w fun e w' => e = .returned (.tuple #[]) ∧ DK D SS [] dn ops fu w' ∧ Kd D w w' := by
  obtain ⟨⟨sa, sn, sc, ca, cn, cc, h1, h2, h3⟩, _⟩ := h
  obtain ⟨A, c, e, hr, hc1, hc2⟩ := h3.rd wrC_len
  injection e with e1 e2 e3
  subst e1 e2 e3
  have H := Lib.hid h1
  have HO := Lib.hid h2
  have HC := Lib.hid hr
  obtain ⟨c0, c1, c2, c3, c4, c5⟩ := dk_cells h1
  have hnm : CC.length ≤ maxLen := Nat.le_trans hc1 hc2
  unfold maxLen at hnm
  clear h1 h2 h3 hr hc1 hc2
  generalize hn : CC.length = n at *
  have HN := Lib.hid hn
  clear hn
  go_enter Try.func45, Try.ntmps45
  go_wp2_with fail
  clear c0 c1 c2 c3 c4 c5
  go_loopw [11] (fun i wr => ∃ k : Nat, i = .int .i64 (k : Int) ∧ k ≤ n ∧ Below w.heap.size w wr) (fun i _ => n - (intOf i).toNat)
  case atStart => exact ⟨0, rfl, Nat.zero_le _, Below.refl _ _⟩
  case round =>
    obtain ⟨k, rfl, hk, hb⟩ := hrel
    have HB := Lib.hid hb
    clear hb
    by_cases hlt : k < n
    · have hd1 : decide ((k : Int) < (n : Int)) = true := decide_eq_true (by omega)
      have hi0 : (0 : Int) ≤ (k : Int) := by omega
      obtain ⟨b, off, hl, rfl, hbb, _⟩ := (HC.out.below HB.out).at hlt
      obtain ⟨x, hx⟩ : ∃ x, x = CC[k] := ⟨_, rfl⟩
      have HX := Lib.hid (show CC[k]? = some x by rw [List.getElem?_eq_getElem hl, hx])
      obtain ⟨at0, s⟩ := x
      have x0 : wr.cell? ⟨b, off + k * 2, none⟩ = some (.int .i64 at0) := (HC.out.below HB.out).cellAt HX.out hlt 0 _ rfl
      have x1 : wr.cell? ⟨b, off + k * 2 + 1, none⟩ = some (.string s) := (HC.out.below HB.out).cellAt HX.out hlt 1 _ rfl
      have HNO := Lib.hid (fun W : World => dnone_any (k : Int) W)
      have HBn := Lib.hid (HB.out.alloc HB.out.size (.cells #[.int .i64 at0, .string s] 134 (0, 0)))
      clear hx
      go_wp2_with fail
      clear x0 x1
      refine (HNO.out _).mono ?_
      rintro e w' ⟨rfl, rfl⟩
      go_wp2_with fail
      go_roundw
      case rel => exact ⟨k + 1, by go_num, by omega, HBn.out⟩
      case measure => simp [intOf] <;> omega
    · have hd1 : decide ((k : Int) < (n : Int)) = false := decide_eq_false (by omega)
      have HD := Lib.hid (blk_below H.out HB.out)
      have HO1 := Lib.hid (HO.out.kept HB.out)
      have f1 : wr.frozen? ⟨D, 1, none⟩ = false := frozen_of_row _ _ _ _ _ HD.out
      have y1 : wr.cell? ⟨D, 1, none⟩ = some (.slice ca n cc) := (dk_cells HD.out).2.1
      go_wp2_with fail
      have HK := Lib.hid ((KK.refl [D] wr).set (b := D) (by simp) 1 (.slice none 0 0))
      have HR := Lib.hid (show (wr.setCell ⟨D, 1, none⟩ (.slice none 0 0)).heap[D]? = some (dkO sa sn sc none 0 0 true dn ops fu) from heap_setCell_at (i := 1) (u := .slice none 0 0) HD.out)
      have HO2 := Lib.hid (HO1.out.kkD HK.out HD.out (by decide))
      refine bodyPost_end (results_none rfl _ _ _) rfl ?_
      exact ⟨rfl, ⟨⟨sa, sn, sc, none, 0, 0, HR.out, HO2.out, OwX.nil _⟩, fun x hx => by cases hx⟩, Kd.of_none ((KK.of_below HB.out).trans HK.out) H.out HR.out⟩
set_option maxRecDepth 100000 in
theorem dboot_any (D : Nat) (SS : List ByteArray) (CC : List Wr) (dn : Bool) (ops fu : Int) (w : World) (h : DK D SS CC dn ops fu w) :
    Calls Try.prog 13 #[.pointer (some ⟨D, 0, none⟩)] w fun e w' => e = .returned (.int .i64 0) ∧ DK D SS [] false ops 0 w' ∧ Kd D w w' := by
  have HM := Lib.hid (show Calls Try.prog 47 #[.pointer (some ⟨D, 0, none⟩)] w fun e w' => e = .returned (.bool true) ∧ w = w' by
    obtain ⟨⟨sa, sn, sc, ca, cn, cc, h1, h2, h3⟩, _⟩ := h
    exact dmade_any D sa sn sc ca cn cc true dn ops fu w h1)
  have HS := Lib.hid (dsettle_none D SS CC dn ops fu w h)
  clear h
  go_enter Try.func13, Try.ntmps13
  go_wp2_with fail
  refine HM.out.mono ?_
  rintro e w' ⟨rfl, rfl⟩
  go_wp2_with fail
  refine HS.out.mono ?_
  rintro e w1 ⟨rfl, hd, hk⟩
  have HK := Lib.hid hk
  obtain ⟨⟨sa, sn, sc, ca, cn, cc, h1, h2, h3⟩, h4⟩ := hd
  have HT := Lib.hid (dturn_any D sa sn sc ca cn cc true dn ops fu false w1 h1)
  have H1 := Lib.hid h1
  have H2 := Lib.hid h2
  have H3 := Lib.hid h3
  clear hk h1 h2 h3 h4
  go_wp2_with fail
  refine HT.out.mono ?_
  rintro e w2 ⟨rfl, hb, hk⟩
  have HB := Lib.hid hb
  have HK2 := Lib.hid hk
  have HO2 := Lib.hid (H2.out.kkD hk H1.out (by decide))
  have HO3 := Lib.hid (H3.out.kkD hk H1.out (by decide))
  clear hb hk
  go_wp2_with fail
  go_ret
  exact ⟨rfl, ⟨⟨sa, sn, sc, ca, cn, cc, HB.out, HO2.out, HO3.out⟩, fun x hx => by cases hx⟩, HK.out.trans (Kd.of_same HK2.out H1.out HB.out)⟩
end Go.Proofs.Ytagenkofoacajaa
