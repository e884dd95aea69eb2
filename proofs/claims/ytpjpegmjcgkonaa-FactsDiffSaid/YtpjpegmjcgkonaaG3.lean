/- Several texts of one family, merged for a claim. Conditions as in its parts. -/
import Derived.Test.YtpjpegmjcgkonaaG2
namespace Go.Proofs.Ytpjpegmjcgkonaa
open Go.RowKit Vi

theorem both_len (X Y : List Fc) : (bothL X Y).length ≤ X.length + Y.length := by
  unfold bothL
  rw [List.length_map]
  suffices h : ∀ (n : Nat) (a b : List Fc), a.length + b.length ≤ n → (meetL cmpF a b).length ≤ a.length + b.length from h _ X Y (Nat.le_refl _)
  intro n
  induction n with
  | zero =>
    intro a b h
    cases a with
    | nil => rw [meet_nil]; simp
    | cons x a => simp at h
  | succ n ih =>
    intro a b h
    cases a with
    | nil => rw [meet_nil]; simp
    | cons x a =>
      cases b with
      | nil => rw [meet_nil2]; simp
      | cons y b =>
        simp only [List.length_cons] at h
        by_cases h1 : cmpF x y < 0
        · rw [meet_lt _ _ h1]
          have := ih a (y :: b) (by simp; omega)
          simp at this ⊢; omega
        · by_cases h2 : 0 < cmpF x y
          · rw [meet_gt _ _ h2]
            have := ih (x :: a) b (by simp; omega)
            simp at this ⊢; omega
          · rw [meet_eq _ _ h1 h2]
            have := ih a b (by omega)
            simp at this ⊢; omega
theorem fm_take {α β : Type} (f : α → List β) (l : List α) (k : Nat) {x : α} (h : l[k]? = some x) : (l.take (k + 1)).flatMap f = (l.take k).flatMap f ++ f x := by
  obtain ⟨hl, rfl⟩ := List.getElem?_eq_some_iff.1 h
  rw [List.take_succ_eq_append_getElem hl, List.flatMap_append]
  simp
theorem outR_len (a b : List Fc) (f : Fc) : (outR a b f).length ≤ 1 := by unfold outR; split <;> simp
set_option maxRecDepth 100000 in
set_option maxHeartbeats 8000000 in
theorem rdiff_any (X Y : List Fc) (A1 : Option Addr) (n1 c1 : Nat) (A2 : Option Addr) (n2 c2 : Nat) (w : World) (h1 : RdX fcC 4 w A1 n1 X) (h2 : RdX fcC 4 w A2 n2 Y) (m1 : n1 ≤ 100000) (m2 : n2 ≤ 100000) :
    Calls Try.prog 10 #[.slice A1 n1 c1, .slice A2 n2 c2] w fun e w' => ∃ v, e = .returned v ∧ OwX cgC 7 29 w' w.heap.size v (rdifL X Y) ∧ Below w.heap.size w w' := by
  have H1 := Lib.hid h1
  have H2 := Lib.hid h2
  have HM := Lib.hid (And.intro m1 m2)
  have HBL := Lib.hid (show (bothL X Y).length ≤ 200000 by have q := both_len X Y; rw [h1.1, h2.1] at q; omega)
  have HBO := Lib.hid (rboth_any X Y A1 n1 c1 A2 n2 c2 w h1 h2 m1 m2)
  clear h1 h2
  go_enter Try.func10, Try.ntmps10
  go_wp2_with fail
  refine HBO.out.mono ?_
  rintro e w2 ⟨v, rfl, ho, hb2⟩
  obtain ⟨F, hF⟩ : ∃ F, F = bothL X Y := ⟨_, rfl⟩
  have HFE := Lib.hid hF
  rw [← hF] at ho HBL
  obtain ⟨AF, cF, rfl, hrF, _, _⟩ := ho.rd fcC_len
  have HF := Lib.hid hrF
  have HBW := Lib.hid hb2
  have G1 := Lib.hid (H1.out.below hb2)
  have G2 := Lib.hid (H2.out.below hb2)
  obtain ⟨m, hm⟩ : ∃ m, m = F.length := ⟨_, rfl⟩
  have HML := Lib.hid hm
  rw [← hm] at HF HBL
  try rw [← hm]
  have hmI : (m : Int) ≤ 9223372036854775807 := by have := HBL.out; omega
  clear hF ho hb2 hm H1 H2 HBO hrF
  go_wp2_with fail
  go_loopw [5, 16] (fun s p wr => ∃ (j : Nat) (acc : List Cg), p = .int .i64 (j : Int) ∧ j ≤ m ∧ OwX cgC 7 29 wr w2.heap.size s acc ∧ acc.length ≤ j ∧ acc = (F.take j).flatMap (outR X Y) ∧ Below w2.heap.size w2 wr) (fun _ p _ => m - (intOf p).toNat)
  case atStart => exact ⟨0, [], rfl, Nat.zero_le _, OwX.nil _, Nat.le_refl _, rfl, Below.refl _ _⟩
  case round =>
    obtain ⟨j, acc, rfl, hj, ho, hln, heq, hb⟩ := hrel
    obtain ⟨av, nv, cv, rfl⟩ := ho.sl3
    have HO := Lib.hid ho
    have HLN := Lib.hid hln
    have HEQ := Lib.hid heq
    have HB := Lib.hid hb
    clear ho hln heq hb
    by_cases hlt : j < m
    · have hd1 : decide ((j : Int) < (m : Int)) = true := decide_eq_true (by omega)
      have hi0 : (0 : Int) ≤ (j : Int) := by omega
      have hw1 : IntKind.i64.wrap ((j : Int) + 1) = (j : Int) + 1 := IntWalk.i64_in _ (by omega)
      have hl : j < F.length := by rw [← HML.out]; exact hlt
      obtain ⟨b, off, _, rfl, hbb, _⟩ := (HF.out.below HB.out).at hlt
      obtain ⟨x, hx⟩ : ∃ x, F[j] = x := ⟨_, rfl⟩
      have HX := Lib.hid (show F[j]? = some x by rw [List.getElem?_eq_getElem hl, hx])
      have HT := Lib.hid (fm_take (outR X Y) F j HX.out)
      clear hx hl hbb
      obtain ⟨x1, x2, x3, x4⟩ := x
      have a0 : wr.cell? ⟨b, off + j * 4, none⟩ = some (.int .i64 x1) := (HF.out.below HB.out).cellAt HX.out hlt 0 _ rfl
      have a1 : wr.cell? ⟨b, off + j * 4 + 1, none⟩ = some (.string x2) := (HF.out.below HB.out).cellAt HX.out hlt 1 _ rfl
      have a2 : wr.cell? ⟨b, off + j * 4 + 2, none⟩ = some (.string x3) := (HF.out.below HB.out).cellAt HX.out hlt 2 _ rfl
      have a3 : wr.cell? ⟨b, off + j * 4 + 3, none⟩ = some (.string x4) := (HF.out.below HB.out).cellAt HX.out hlt 3 _ rfl
      have HO0 := Lib.hid (HO.out.alloc (.cells #[.int .i64 x1, .string x2, .string x3, .string x4] 32 (0, 0)))
      have HF1 := Lib.hid (blk_new wr (.cells #[.int .i64 x1, .string x2, .string x3, .string x4] 32 (0, 0)))
      have HB2 := Lib.hid (HB.out.alloc HB.out.size (.cells #[.int .i64 x1, .string x2, .string x3, .string x4] 32 (0, 0)))
      clear HB
      have hc3 : (wr.alloc (.cells #[.int .i64 x1, .string x2, .string x3, .string x4] 32 (0, 0))).cell? ⟨wr.heap.size, 0, none⟩ = some (.int .i64 x1) := by rw [cell_of_row _ _ _ _ _ _ HF1.out]; rfl
      have hc4 : (wr.alloc (.cells #[.int .i64 x1, .string x2, .string x3, .string x4] 32 (0, 0))).cell? ⟨wr.heap.size, 1, none⟩ = some (.string x2) := by rw [cell_of_row _ _ _ _ _ _ HF1.out]; rfl
      have hc5 : (wr.alloc (.cells #[.int .i64 x1, .string x2, .string x3, .string x4] 32 (0, 0))).cell? ⟨wr.heap.size, 2, none⟩ = some (.string x3) := by rw [cell_of_row _ _ _ _ _ _ HF1.out]; rfl
      have hc6 : (wr.alloc (.cells #[.int .i64 x1, .string x2, .string x3, .string x4] 32 (0, 0))).cell? ⟨wr.heap.size, 3, none⟩ = some (.string x4) := by rw [cell_of_row _ _ _ _ _ _ HF1.out]; rfl
      go_wp2_with fail
      refine (rvalue_any A1 n1 c1 X x1 x2 x3 x4 (wr.alloc (.cells #[.int .i64 x1, .string x2, .string x3, .string x4] 32 (0, 0))) (G1.out.below HB2.out) (by have := HM.out; omega)).mono ?_
      rintro e w11 ⟨rfl, hb11⟩
      clear a0 a1 a2 a3 hc3 hc4 hc5 hc6
      have HF7 := Lib.hid (blk_below HF1.out hb11)
      have HO8 := Lib.hid (HO0.out.kept hb11)
      have HB9 := Lib.hid (HB2.out.trans (hb11.mono HB2.out.size))
      clear hb11 HB2 HF1
      obtain ⟨b1, hb1⟩ : ∃ z, z = valB X (x1, x2, x3, x4) := ⟨_, rfl⟩
      obtain ⟨v1, hv1⟩ : ∃ z, z = valV X (x1, x2, x3, x4) := ⟨_, rfl⟩
      rw [← hb1, ← hv1]
      have HE1 := Lib.hid (And.intro hb1 hv1)
      clear hb1 hv1
      have hc10 : w11.cell? ⟨wr.heap.size, 0, none⟩ = some (.int .i64 x1) := by rw [cell_of_row _ _ _ _ _ _ HF7.out]; rfl
      have hc11 : w11.cell? ⟨wr.heap.size, 1, none⟩ = some (.string x2) := by rw [cell_of_row _ _ _ _ _ _ HF7.out]; rfl
      have hc12 : w11.cell? ⟨wr.heap.size, 2, none⟩ = some (.string x3) := by rw [cell_of_row _ _ _ _ _ _ HF7.out]; rfl
      have hc13 : w11.cell? ⟨wr.heap.size, 3, none⟩ = some (.string x4) := by rw [cell_of_row _ _ _ _ _ _ HF7.out]; rfl
      go_wp2_with fail
      refine (rvalue_any A2 n2 c2 Y x1 x2 x3 x4 w11 (G2.out.below HB9.out) (by have := HM.out; omega)).mono ?_
      rintro e w12 ⟨rfl, hb12⟩
      clear hc10 hc11 hc12 hc13
      have HF14 := Lib.hid (blk_below HF7.out hb12)
      have HO15 := Lib.hid (HO8.out.kept hb12)
      have HB16 := Lib.hid (HB9.out.trans (hb12.mono HB9.out.size))
      clear hb12 HB9 HF7
      obtain ⟨b2, hb2⟩ : ∃ z, z = valB Y (x1, x2, x3, x4) := ⟨_, rfl⟩
      obtain ⟨v2, hv2⟩ : ∃ z, z = valV Y (x1, x2, x3, x4) := ⟨_, rfl⟩
      rw [← hb2, ← hv2]
      have HE2 := Lib.hid (And.intro hb2 hv2)
      clear hb2 hv2
      have HOUT := Lib.hid (show outR X Y (x1, x2, x3, x4) = if (b1 != b2 || v1 != v2) = true then [(x1, x2, x3, b1, b2, v1, v2)] else [] by rw [HE1.out.1, HE1.out.2, HE2.out.1, HE2.out.2]; rfl)
      clear HE1 HE2
      by_cases kb : b1 = b2
      rotate_left
      · skip
        have t1 : (b1 != b2) = true := by simpa using kb
        have t2 : (b1 == b2) = false := by simpa using kb
        have HOU2 := Lib.hid (show outR X Y (x1, x2, x3, x4) = [(x1, x2, x3, b1, b2, v1, v2)] by rw [HOUT.out, t1]; rfl)
        clear kb HOUT
        have hc17 : w12.cell? ⟨wr.heap.size, 0, none⟩ = some (.int .i64 x1) := by rw [cell_of_row _ _ _ _ _ _ HF14.out]; rfl
        have hc18 : w12.cell? ⟨wr.heap.size, 1, none⟩ = some (.string x2) := by rw [cell_of_row _ _ _ _ _ _ HF14.out]; rfl
        have hc19 : w12.cell? ⟨wr.heap.size, 2, none⟩ = some (.string x3) := by rw [cell_of_row _ _ _ _ _ _ HF14.out]; rfl
        have HB5 := Lib.hid (HB16.out.alloc HB16.out.size (.cells #[.int .i64 x1, .string x2, .string x3, .bool b1, .bool b2, .string v1, .string v2] 29 (0, 0)))
        have HO5 := Lib.hid (HO15.out.alloc (.cells #[.int .i64 x1, .string x2, .string x3, .bool b1, .bool b2, .string v1, .string v2] 29 (0, 0)))
        go_wp2_with (at_builtin; refine wpList_appX rfl (.tmp 40) (.tmp 52) 23 29 _ 80 rfl Try.underlying23 info_cg rfl (by omega) (by omega) cgC_len cgC_one w2.heap.size w2 HB5.out (by have := HB16.out.size; simp at this ⊢ <;> omega) (.slice av nv cv) acc rfl HO5.out w12.heap.size 1 (x1, x2, x3, b1, b2, v1, v2) #[.int .i64 x1, .string x2, .string x3, .bool b1, .bool b2, .string v1, .string v2] 29 (0, 0) rfl (heap_alloc_new w12 _) rfl (by have := HLN.out; have := HBL.out; omega) ?_)
        intro v9 w9 HO9 HB9 _ _
        have hv9 := HO9.out.one
        clear hc17 hc18 hc19
        clear HB5 HO5
        go_wp2_with fail
        go_roundw
        case rel => exact ⟨j + 1, acc ++ [(x1, x2, x3, b1, b2, v1, v2)], by go_num, by omega, HO9.out, by rw [List.length_append]; have := HLN.out; simp; omega, by rw [HT.out, ← HEQ.out, HOU2.out], HB9.out⟩
        case measure => simp [intOf] <;> omega
      subst kb
      have t1 : (b1 != b1) = false := by simp
      by_cases kv : v1 = v2
      rotate_left
      · skip
        obtain ⟨e1, e2⟩ := beq_neD kv
        have HOU2 := Lib.hid (show outR X Y (x1, x2, x3, x4) = [(x1, x2, x3, b1, b1, v1, v2)] by rw [HOUT.out, t1, show (v1 != v2) = true by simp [bne, e1]]; rfl)
        clear kv HOUT
        have hc17 : w12.cell? ⟨wr.heap.size, 0, none⟩ = some (.int .i64 x1) := by rw [cell_of_row _ _ _ _ _ _ HF14.out]; rfl
        have hc18 : w12.cell? ⟨wr.heap.size, 1, none⟩ = some (.string x2) := by rw [cell_of_row _ _ _ _ _ _ HF14.out]; rfl
        have hc19 : w12.cell? ⟨wr.heap.size, 2, none⟩ = some (.string x3) := by rw [cell_of_row _ _ _ _ _ _ HF14.out]; rfl
        have HB5 := Lib.hid (HB16.out.alloc HB16.out.size (.cells #[.int .i64 x1, .string x2, .string x3, .bool b1, .bool b1, .string v1, .string v2] 29 (0, 0)))
        have HO5 := Lib.hid (HO15.out.alloc (.cells #[.int .i64 x1, .string x2, .string x3, .bool b1, .bool b1, .string v1, .string v2] 29 (0, 0)))
        go_wp2_with (at_builtin; refine wpList_appX rfl (.tmp 40) (.tmp 52) 23 29 _ 80 rfl Try.underlying23 info_cg rfl (by omega) (by omega) cgC_len cgC_one w2.heap.size w2 HB5.out (by have := HB16.out.size; simp at this ⊢ <;> omega) (.slice av nv cv) acc rfl HO5.out w12.heap.size 1 (x1, x2, x3, b1, b1, v1, v2) #[.int .i64 x1, .string x2, .string x3, .bool b1, .bool b1, .string v1, .string v2] 29 (0, 0) rfl (heap_alloc_new w12 _) rfl (by have := HLN.out; have := HBL.out; omega) ?_)
        intro v9 w9 HO9 HB9 _ _
        have hv9 := HO9.out.one
        clear hc17 hc18 hc19
        clear HB5 HO5
        go_wp2_with fail
        go_roundw
        case rel => exact ⟨j + 1, acc ++ [(x1, x2, x3, b1, b1, v1, v2)], by go_num, by omega, HO9.out, by rw [List.length_append]; have := HLN.out; simp; omega, by rw [HT.out, ← HEQ.out, HOU2.out], HB9.out⟩
        case measure => simp [intOf] <;> omega
      subst kv
      obtain ⟨e1, e2⟩ := beq_sameD v1
      have HOU2 := Lib.hid (show outR X Y (x1, x2, x3, x4) = [] by rw [HOUT.out, t1, show (v1 != v1) = false by simp [bne, e1]]; rfl)
      clear HOUT
      go_wp2_with fail
      go_roundw
      case rel => exact ⟨j + 1, acc, by go_num, by omega, HO15.out, by have := HLN.out; omega, by rw [HT.out, ← HEQ.out, HOU2.out, List.append_nil], HB16.out⟩
      case measure => simp [intOf] <;> omega
    · have hd1 : decide ((j : Int) < (m : Int)) = false := decide_eq_false (by omega)
      have HFIN := Lib.hid (show acc = rdifL X Y by rw [HEQ.out, List.take_of_length_le (by rw [← HML.out]; omega), HFE.out]; rfl)
      go_wp2_with fail
      go_ret
      exact ⟨_, rfl, HFIN.out ▸ HO.out.mono HBW.out.size, HBW.out.trans (HB.out.mono HBW.out.size)⟩
end Go.Proofs.Ytpjpegmjcgkonaa

namespace Go.Proofs.Ytpjpegmjcgkonaa
open Go.RowKit Vi

def keyC (c : Cg) : Fc := (c.1, c.2.1, c.2.2.1, ⟨#[]⟩)
def updC (f : Fc) (st : ByteArray × Bool) (c : Cg) : ByteArray × Bool := if keyB (keyC c) f = true then (c.2.2.2.2.2.2, c.2.2.2.2.1) else st
theorem upd_hit {f : Fc} {c : Cg} (st : ByteArray × Bool) (h : sameK (keyC c) f) : updC f st c = (c.2.2.2.2.2.2, c.2.2.2.2.1) := by unfold updC; rw [if_pos ((keyB_iff _ _).2 h)]
theorem upd_miss {f : Fc} {c : Cg} (st : ByteArray × Bool) (h : ¬ sameK (keyC c) f) : updC f st c = st := by unfold updC; rw [if_neg (fun q => h ((keyB_iff _ _).1 q))]
def finC (X : List Fc) (C : List Cg) (f : Fc) : ByteArray × Bool := C.foldl (updC f) (valV X f, valB X f)
def outG (X : List Fc) (C : List Cg) (f : Fc) : List Fc := if (finC X C f).2 = true then [(f.1, f.2.1, f.2.2.1, (finC X C f).1)] else []
def rappL (X : List Fc) (C : List Cg) : List Fc := (bothL X (C.map keyC)).flatMap (outG X C)
theorem foldC_take {α β : Type} (f : β → α → β) (s : β) (l : List α) (k : Nat) {x : α} (h : l[k]? = some x) : (l.take (k + 1)).foldl f s = f ((l.take k).foldl f s) x := by
  obtain ⟨hl, rfl⟩ := List.getElem?_eq_some_iff.1 h
  rw [List.take_succ_eq_append_getElem hl, List.foldl_append]
  rfl
theorem mp_take {α β : Type} (f : α → β) (l : List α) (k : Nat) {x : α} (h : l[k]? = some x) : (l.take (k + 1)).map f = (l.take k).map f ++ [f x] := by
  obtain ⟨hl, rfl⟩ := List.getElem?_eq_some_iff.1 h
  rw [List.take_succ_eq_append_getElem hl, List.map_append]
  rfl
set_option maxRecDepth 100000 in
set_option maxHeartbeats 16000000 in
theorem rapply_any (X : List Fc) (C : List Cg) (A1 : Option Addr) (n1 c1 : Nat) (A2 : Option Addr) (n2 c2 : Nat) (w : World) (h1 : RdX fcC 4 w A1 n1 X) (h2 : RdX cgC 7 w A2 n2 C) (m1 : n1 ≤ 100000) (m2 : n2 ≤ 100000) :
    Calls Try.prog 14 #[.slice A1 n1 c1, .slice A2 n2 c2] w fun e w' => ∃ v, e = .returned v ∧ OwX fcC 4 32 w' w.heap.size v (rappL X C) ∧ Below w.heap.size w w' := by
  have H1 := Lib.hid h1
  have H2 := Lib.hid h2
  have L2 := Lib.hid h2.1
  have HM := Lib.hid (And.intro m1 m2)
  have hN2 : (n2 : Int) ≤ 9223372036854775807 := by omega
  clear h1 h2
  go_enter Try.func14, Try.ntmps14
  go_wp2_with fail
  go_loopw [5, 17] (fun s p wr => ∃ (j : Nat) (acc : List Fc), p = .int .i64 (j : Int) ∧ j ≤ n2 ∧ OwX fcC 4 32 wr w.heap.size s acc ∧ acc.length = j ∧ acc = (C.take j).map keyC ∧ Below w.heap.size w wr) (fun _ p _ => n2 - (intOf p).toNat)
  case atStart => exact ⟨0, [], rfl, Nat.zero_le _, OwX.nil _, rfl, rfl, Below.refl _ _⟩
  case round =>
    obtain ⟨j, acc, rfl, hj, ho, hln, heq, hb⟩ := hrel
    have HEQ := Lib.hid heq
    have HB := Lib.hid hb
    have HLN := Lib.hid hln
    by_cases hlt : j < n2
    · obtain ⟨av, nv, cv, rfl⟩ := ho.sl3
      have HO := Lib.hid ho
      clear ho hln heq hb
      have hd1 : decide ((j : Int) < (n2 : Int)) = true := decide_eq_true (by omega)
      have hi0 : (0 : Int) ≤ (j : Int) := by omega
      have hw1 : IntKind.i64.wrap ((j : Int) + 1) = (j : Int) + 1 := IntWalk.i64_in _ (by omega)
      have hl : j < C.length := by rw [L2.out]; exact hlt
      obtain ⟨b, off, _, rfl, _, _⟩ := (H2.out.below HB.out).at hlt
      obtain ⟨y, hy⟩ : ∃ y, C[j] = y := ⟨_, rfl⟩
      have HX := Lib.hid (show C[j]? = some y by rw [List.getElem?_eq_getElem hl, hy])
      have HT := Lib.hid (mp_take keyC C j HX.out)
      clear hy hl
      obtain ⟨y1, y2, y3, y4, y5, y6, y7⟩ := y
      have a0 : wr.cell? ⟨b, off + j * 7, none⟩ = some (.int .i64 y1) := (H2.out.below HB.out).cellAt HX.out hlt 0 _ rfl
      have a1 : wr.cell? ⟨b, off + j * 7 + 1, none⟩ = some (.string y2) := (H2.out.below HB.out).cellAt HX.out hlt 1 _ rfl
      have a2 : wr.cell? ⟨b, off + j * 7 + 2, none⟩ = some (.string y3) := (H2.out.below HB.out).cellAt HX.out hlt 2 _ rfl
      have a3 : wr.cell? ⟨b, off + j * 7 + 3, none⟩ = some (.bool y4) := (H2.out.below HB.out).cellAt HX.out hlt 3 _ rfl
      have a4 : wr.cell? ⟨b, off + j * 7 + 4, none⟩ = some (.bool y5) := (H2.out.below HB.out).cellAt HX.out hlt 4 _ rfl
      have a5 : wr.cell? ⟨b, off + j * 7 + 5, none⟩ = some (.string y6) := (H2.out.below HB.out).cellAt HX.out hlt 5 _ rfl
      have a6 : wr.cell? ⟨b, off + j * 7 + 6, none⟩ = some (.string y7) := (H2.out.below HB.out).cellAt HX.out hlt 6 _ rfl
      have HN := Lib.hid (blk_new wr (.cells #[.int .i64 y1, .string y2, .string y3, .bool y4, .bool y5, .string y6, .string y7] 29 (0, 0)))
      have cc0 : (wr.alloc (.cells #[.int .i64 y1, .string y2, .string y3, .bool y4, .bool y5, .string y6, .string y7] 29 (0, 0))).cell? ⟨wr.heap.size, 0, none⟩ = some (.int .i64 y1) := (cell_of_row _ _ 0 _ _ _ HN.out).trans rfl
      have cc1 : (wr.alloc (.cells #[.int .i64 y1, .string y2, .string y3, .bool y4, .bool y5, .string y6, .string y7] 29 (0, 0))).cell? ⟨wr.heap.size, 1, none⟩ = some (.string y2) := (cell_of_row _ _ 1 _ _ _ HN.out).trans rfl
      have cc2 : (wr.alloc (.cells #[.int .i64 y1, .string y2, .string y3, .bool y4, .bool y5, .string y6, .string y7] 29 (0, 0))).cell? ⟨wr.heap.size, 2, none⟩ = some (.string y3) := (cell_of_row _ _ 2 _ _ _ HN.out).trans rfl
      have HB5 := Lib.hid ((HB.out.alloc HB.out.size (.cells #[.int .i64 y1, .string y2, .string y3, .bool y4, .bool y5, .string y6, .string y7] 29 (0, 0))).alloc (HB.out.alloc HB.out.size (.cells #[.int .i64 y1, .string y2, .string y3, .bool y4, .bool y5, .string y6, .string y7] 29 (0, 0))).size (.cells #[.int .i64 y1, .string y2, .string y3, .string ⟨#[]⟩] 32 (0, 0)))
      have HO5 := Lib.hid ((HO.out.alloc (.cells #[.int .i64 y1, .string y2, .string y3, .bool y4, .bool y5, .string y6, .string y7] 29 (0, 0))).alloc (.cells #[.int .i64 y1, .string y2, .string y3, .string ⟨#[]⟩] 32 (0, 0)))
      go_wp2_with (at_builtin; refine wpList_appX rfl (.tmp 21) (.tmp 29) 22 32 _ 56 rfl Try.underlying22 info_fcD rfl (by omega) (by omega) fcC_len fcC_one w.heap.size w HB5.out (by have := HB.out.size; simp at this ⊢ <;> omega) (.slice av nv cv) acc rfl HO5.out (wr.heap.size + 1) 1 (y1, y2, y3, ⟨#[]⟩) #[.int .i64 y1, .string y2, .string y3, .string ⟨#[]⟩] 32 (0, 0) rfl (blk_newN (by simp)) rfl (by have := HLN.out; have := HM.out; omega) ?_)
      intro v9 w9 HO9 HB9 _ _
      have hv9 := HO9.out.one
      clear cc0 cc1 cc2 HN HB5 HO5 a0 a1 a2 a3 a4 a5 a6
      go_wp2_with fail
      go_roundw
      case rel => exact ⟨j + 1, acc ++ [(y1, y2, y3, ⟨#[]⟩)], by go_num, by omega, HO9.out, by rw [List.length_append, HLN.out]; rfl, by rw [HT.out, ← HEQ.out]; rfl, HB9.out⟩
      case measure => simp [intOf] <;> omega
    · have hd1 : decide ((j : Int) < (n2 : Int)) = false := decide_eq_false (by omega)
      have HAC := Lib.hid (show acc = C.map keyC by rw [heq, List.take_of_length_le (by rw [L2.out]; omega)])
      obtain ⟨A3, cv3, rfl, hr3, _, _⟩ := ho.rd fcC_len
      rw [hln] at hr3
      try rw [hln]
      rw [HAC.out] at hr3
      have HBO := Lib.hid (rboth_any X (C.map keyC) A1 n1 c1 A3 j cv3 wr (H1.out.below HB.out) hr3 HM.out.1 (by have := HM.out.2; omega))
      have HBL := Lib.hid (show (bothL X (C.map keyC)).length ≤ 200000 by have q := both_len X (C.map keyC); rw [H1.out.1, List.length_map, L2.out] at q; have := HM.out; omega)
      clear ho hln heq hb hr3 HEQ HLN HAC
      go_wp2_with fail
      refine HBO.out.mono ?_
      rintro e w2 ⟨v, rfl, ho, hb2⟩
      obtain ⟨F, hF⟩ : ∃ F, F = bothL X (C.map keyC) := ⟨_, rfl⟩
      have HFE := Lib.hid hF
      rw [← hF] at ho HBL
      obtain ⟨AF, cF, rfl, hrF, _, _⟩ := ho.rd fcC_len
      have HF := Lib.hid hrF
      have HBW := Lib.hid (HB.out.trans (hb2.mono HB.out.size))
      have G1 := Lib.hid (H1.out.below HBW.out)
      have G2 := Lib.hid (H2.out.below HBW.out)
      obtain ⟨m, hm⟩ : ∃ m, m = F.length := ⟨_, rfl⟩
      have HML := Lib.hid hm
      rw [← hm] at HF HBL
      try rw [← hm]
      have hmI : (m : Int) ≤ 9223372036854775807 := by have := HBL.out; omega
      clear hF ho hb2 hm H1 H2 HBO hrF HB hd1 hlt hj
      go_wp2_with fail
      go_loopw [8, 36] (fun s p wr => ∃ (j : Nat) (acc : List Fc), p = .int .i64 (j : Int) ∧ j ≤ m ∧ OwX fcC 4 32 wr w2.heap.size s acc ∧ acc.length ≤ j ∧ acc = (F.take j).flatMap (outG X C) ∧ Below w2.heap.size w2 wr) (fun _ p _ => m - (intOf p).toNat)
      case atStart => exact ⟨0, [], rfl, Nat.zero_le _, OwX.nil _, Nat.le_refl _, rfl, Below.refl _ _⟩
      case round =>
        obtain ⟨j, acc, rfl, hj, ho, hln, heq, hb⟩ := hrel
        obtain ⟨av, nv, cv, rfl⟩ := ho.sl3
        have HO := Lib.hid ho
        have HLN := Lib.hid hln
        have HEQ := Lib.hid heq
        have HB := Lib.hid hb
        clear ho hln heq hb
        by_cases hlt : j < m
        · have hd1 : decide ((j : Int) < (m : Int)) = true := decide_eq_true (by omega)
          have hi0 : (0 : Int) ≤ (j : Int) := by omega
          have hw1 : IntKind.i64.wrap ((j : Int) + 1) = (j : Int) + 1 := IntWalk.i64_in _ (by omega)
          have hl : j < F.length := by rw [← HML.out]; exact hlt
          obtain ⟨b, off, _, rfl, _, _⟩ := (HF.out.below HB.out).at hlt
          obtain ⟨x, hx⟩ : ∃ x, F[j] = x := ⟨_, rfl⟩
          have HX := Lib.hid (show F[j]? = some x by rw [List.getElem?_eq_getElem hl, hx])
          have HT := Lib.hid (fm_take (outG X C) F j HX.out)
          clear hx hl
          obtain ⟨x1, x2, x3, x4⟩ := x
          have a0 : wr.cell? ⟨b, off + j * 4, none⟩ = some (.int .i64 x1) := (HF.out.below HB.out).cellAt HX.out hlt 0 _ rfl
          have a1 : wr.cell? ⟨b, off + j * 4 + 1, none⟩ = some (.string x2) := (HF.out.below HB.out).cellAt HX.out hlt 1 _ rfl
          have a2 : wr.cell? ⟨b, off + j * 4 + 2, none⟩ = some (.string x3) := (HF.out.below HB.out).cellAt HX.out hlt 2 _ rfl
          have a3 : wr.cell? ⟨b, off + j * 4 + 3, none⟩ = some (.string x4) := (HF.out.below HB.out).cellAt HX.out hlt 3 _ rfl
          have HN := Lib.hid (blk_new wr (.cells #[.int .i64 x1, .string x2, .string x3, .string x4] 32 (0, 0)))
          have HBR := Lib.hid ((Below.refl wr.heap.size wr).alloc (Nat.le_refl _) (.cells #[.int .i64 x1, .string x2, .string x3, .string x4] 32 (0, 0)))
          have cc0 : (wr.alloc (.cells #[.int .i64 x1, .string x2, .string x3, .string x4] 32 (0, 0))).cell? ⟨wr.heap.size, 0, none⟩ = some (.int .i64 x1) := (cell_of_row _ _ 0 _ _ _ HN.out).trans rfl
          have cc1 : (wr.alloc (.cells #[.int .i64 x1, .string x2, .string x3, .string x4] 32 (0, 0))).cell? ⟨wr.heap.size, 1, none⟩ = some (.string x2) := (cell_of_row _ _ 1 _ _ _ HN.out).trans rfl
          have cc2 : (wr.alloc (.cells #[.int .i64 x1, .string x2, .string x3, .string x4] 32 (0, 0))).cell? ⟨wr.heap.size, 2, none⟩ = some (.string x3) := (cell_of_row _ _ 2 _ _ _ HN.out).trans rfl
          have cc3 : (wr.alloc (.cells #[.int .i64 x1, .string x2, .string x3, .string x4] 32 (0, 0))).cell? ⟨wr.heap.size, 3, none⟩ = some (.string x4) := (cell_of_row _ _ 3 _ _ _ HN.out).trans rfl
          go_wp2_with fail
          have HG1 := Lib.hid (G1.out.below (HB.out.trans (HBR.out.mono HB.out.size)))
          refine (rvalue_any A1 n1 c1 X x1 x2 x3 x4 (wr.alloc (.cells #[.int .i64 x1, .string x2, .string x3, .string x4] 32 (0, 0))) HG1.out (by have := HM.out; omega)).mono ?_
          rintro e w3 ⟨rfl, hb3⟩
          obtain ⟨wq, hwq⟩ : ∃ z, z = wr := ⟨_, rfl⟩
          subst hwq
          have HN3 := Lib.hid (blk_below HN.out hb3)
          have HR3 := Lib.hid (HBR.out.trans (hb3.mono HBR.out.size))
          clear HG1 hb3 cc0 cc1 cc2 cc3 a0 a1 a2 a3 HN HBR
          obtain ⟨s0, hs0⟩ : ∃ z, z = valV X (x1, x2, x3, x4) := ⟨_, rfl⟩
          obtain ⟨b0, hb0⟩ : ∃ z, z = valB X (x1, x2, x3, x4) := ⟨_, rfl⟩
          rw [← hs0, ← hb0]
          have HFC := Lib.hid (show finC X C (x1, x2, x3, x4) = C.foldl (updC (x1, x2, x3, x4)) (s0, b0) by rw [hs0, hb0]; rfl)
          clear hs0 hb0
          go_wp2_with fail
          go_loopw [11, 12, 48] (fun v t q wz => ∃ (k : Nat) (st : ByteArray × Bool), q = .int .i64 (k : Int) ∧ k ≤ n2 ∧ v = .string st.1 ∧ t = .bool st.2 ∧ st = (C.take k).foldl (updC (x1, x2, x3, x4)) (s0, b0) ∧ Below w3.heap.size w3 wz) (fun _ _ q _ => n2 - (intOf q).toNat)
          case atStart => exact ⟨0, (s0, b0), rfl, Nat.zero_le _, rfl, rfl, rfl, Below.refl _ _⟩
          case round =>
            obtain ⟨k, st, rfl, hk, rfl, rfl, hst, hb⟩ := hrel
            have HST := Lib.hid hst
            have HZ := Lib.hid hb
            have HNZ := Lib.hid (blk_below HN3.out hb)
            have HRZ := Lib.hid (HR3.out.trans (hb.mono HR3.out.size))
            have HBZ := Lib.hid (HB.out.trans (HRZ.out.mono HB.out.size))
            clear hst hb
            by_cases hlk : k < n2
            · have hd2 : decide ((k : Int) < (n2 : Int)) = true := decide_eq_true (by omega)
              have hi2 : (0 : Int) ≤ (k : Int) := by omega
              have hw2 : IntKind.i64.wrap ((k : Int) + 1) = (k : Int) + 1 := IntWalk.i64_in _ (by omega)
              have hl2 : k < C.length := by rw [L2.out]; exact hlk
              obtain ⟨b2, o2, _, rfl, _, _⟩ := (G2.out.below HBZ.out).at hlk
              obtain ⟨y, hy⟩ : ∃ y, C[k] = y := ⟨_, rfl⟩
              have HY := Lib.hid (show C[k]? = some y by rw [List.getElem?_eq_getElem hl2, hy])
              have HTK := Lib.hid (foldC_take (updC (x1, x2, x3, x4)) (s0, b0) C k HY.out)
              clear hy hl2
              obtain ⟨y1, y2, y3, y4, y5, y6, y7⟩ := y
              have d0 : wr.cell? ⟨b2, o2 + k * 7, none⟩ = some (.int .i64 y1) := (G2.out.below HBZ.out).cellAt HY.out hlk 0 _ rfl
              have d1 : wr.cell? ⟨b2, o2 + k * 7 + 1, none⟩ = some (.string y2) := (G2.out.below HBZ.out).cellAt HY.out hlk 1 _ rfl
              have d2 : wr.cell? ⟨b2, o2 + k * 7 + 2, none⟩ = some (.string y3) := (G2.out.below HBZ.out).cellAt HY.out hlk 2 _ rfl
              have d3 : wr.cell? ⟨b2, o2 + k * 7 + 3, none⟩ = some (.bool y4) := (G2.out.below HBZ.out).cellAt HY.out hlk 3 _ rfl
              have d4 : wr.cell? ⟨b2, o2 + k * 7 + 4, none⟩ = some (.bool y5) := (G2.out.below HBZ.out).cellAt HY.out hlk 4 _ rfl
              have d5 : wr.cell? ⟨b2, o2 + k * 7 + 5, none⟩ = some (.string y6) := (G2.out.below HBZ.out).cellAt HY.out hlk 5 _ rfl
              have d6 : wr.cell? ⟨b2, o2 + k * 7 + 6, none⟩ = some (.string y7) := (G2.out.below HBZ.out).cellAt HY.out hlk 6 _ rfl
              have HNY := Lib.hid (blk_new wr (.cells #[.int .i64 y1, .string y2, .string y3, .bool y4, .bool y5, .string y6, .string y7] 29 (0, 0)))
              have HNF := Lib.hid (blk_alloc HNZ.out (.cells #[.int .i64 y1, .string y2, .string y3, .bool y4, .bool y5, .string y6, .string y7] 29 (0, 0)))
              have hls : wq.heap.size < wr.heap.size := lt_of_block HNZ.out
              have hln2 : ¬ wq.heap.size = wr.heap.size := by omega
              have f0 : (wr.alloc (.cells #[.int .i64 y1, .string y2, .string y3, .bool y4, .bool y5, .string y6, .string y7] 29 (0, 0))).cell? ⟨wr.heap.size, 0, none⟩ = some (.int .i64 y1) := (cell_of_row _ _ 0 _ _ _ HNY.out).trans rfl
              have f1 : (wr.alloc (.cells #[.int .i64 y1, .string y2, .string y3, .bool y4, .bool y5, .string y6, .string y7] 29 (0, 0))).cell? ⟨wr.heap.size, 1, none⟩ = some (.string y2) := (cell_of_row _ _ 1 _ _ _ HNY.out).trans rfl
              have f2 : (wr.alloc (.cells #[.int .i64 y1, .string y2, .string y3, .bool y4, .bool y5, .string y6, .string y7] 29 (0, 0))).cell? ⟨wr.heap.size, 2, none⟩ = some (.string y3) := (cell_of_row _ _ 2 _ _ _ HNY.out).trans rfl
              have f3 : (wr.alloc (.cells #[.int .i64 y1, .string y2, .string y3, .bool y4, .bool y5, .string y6, .string y7] 29 (0, 0))).cell? ⟨wr.heap.size, 3, none⟩ = some (.bool y4) := (cell_of_row _ _ 3 _ _ _ HNY.out).trans rfl
              have f4 : (wr.alloc (.cells #[.int .i64 y1, .string y2, .string y3, .bool y4, .bool y5, .string y6, .string y7] 29 (0, 0))).cell? ⟨wr.heap.size, 4, none⟩ = some (.bool y5) := (cell_of_row _ _ 4 _ _ _ HNY.out).trans rfl
              have f5 : (wr.alloc (.cells #[.int .i64 y1, .string y2, .string y3, .bool y4, .bool y5, .string y6, .string y7] 29 (0, 0))).cell? ⟨wr.heap.size, 5, none⟩ = some (.string y6) := (cell_of_row _ _ 5 _ _ _ HNY.out).trans rfl
              have f6 : (wr.alloc (.cells #[.int .i64 y1, .string y2, .string y3, .bool y4, .bool y5, .string y6, .string y7] 29 (0, 0))).cell? ⟨wr.heap.size, 6, none⟩ = some (.string y7) := (cell_of_row _ _ 6 _ _ _ HNY.out).trans rfl
              have g0 : (wr.alloc (.cells #[.int .i64 y1, .string y2, .string y3, .bool y4, .bool y5, .string y6, .string y7] 29 (0, 0))).cell? ⟨wq.heap.size, 0, none⟩ = some (.int .i64 x1) := (cell_of_row _ _ 0 _ _ _ HNF.out).trans rfl
              have k0 : wr.cell? ⟨wq.heap.size, 0, none⟩ = some (.int .i64 x1) := (cell_of_row _ _ 0 _ _ _ HNZ.out).trans rfl
              have g1 : (wr.alloc (.cells #[.int .i64 y1, .string y2, .string y3, .bool y4, .bool y5, .string y6, .string y7] 29 (0, 0))).cell? ⟨wq.heap.size, 1, none⟩ = some (.string x2) := (cell_of_row _ _ 1 _ _ _ HNF.out).trans rfl
              have k1 : wr.cell? ⟨wq.heap.size, 1, none⟩ = some (.string x2) := (cell_of_row _ _ 1 _ _ _ HNZ.out).trans rfl
              have g2 : (wr.alloc (.cells #[.int .i64 y1, .string y2, .string y3, .bool y4, .bool y5, .string y6, .string y7] 29 (0, 0))).cell? ⟨wq.heap.size, 2, none⟩ = some (.string x3) := (cell_of_row _ _ 2 _ _ _ HNF.out).trans rfl
              have k2 : wr.cell? ⟨wq.heap.size, 2, none⟩ = some (.string x3) := (cell_of_row _ _ 2 _ _ _ HNZ.out).trans rfl
              have HZN := Lib.hid (HZ.out.trans (((Below.refl wr.heap.size wr).alloc (Nat.le_refl _) (.cells #[.int .i64 y1, .string y2, .string y3, .bool y4, .bool y5, .string y6, .string y7] 29 (0, 0))).mono HZ.out.size))
              by_cases k1 : y1 = x1
              rotate_left
              · skip
                have e1 : (y1 == x1) = false := by simpa using k1
                have e1d : decide (y1 = x1) = false := decide_eq_false k1
                have HU := Lib.hid (upd_miss (f := (x1, x2, x3, x4)) (c := (y1, y2, y3, y4, y5, y6, y7)) st (fun q => k1 q.1))
                go_wp2_with fail
                go_roundw
                case rel => exact ⟨k + 1, st, by go_num, by omega, rfl, rfl, by rw [HTK.out, ← HST.out, HU.out], HZN.out⟩
                case measure => simp [intOf] <;> omega
              obtain rfl := k1.symm
              by_cases k2 : y2 = x2
              rotate_left
              · skip
                obtain ⟨e1, e2⟩ := beq_neD k2
                have HU := Lib.hid (upd_miss (f := (x1, x2, x3, x4)) (c := (x1, y2, y3, y4, y5, y6, y7)) st (fun q => k2 q.2.1))
                go_wp2_with fail
                go_roundw
                case rel => exact ⟨k + 1, st, by go_num, by omega, rfl, rfl, by rw [HTK.out, ← HST.out, HU.out], HZN.out⟩
                case measure => simp [intOf] <;> omega
              obtain rfl := k2.symm
              obtain ⟨s1, s2⟩ := beq_sameD x2
              by_cases k3 : y3 = x3
              rotate_left
              · skip
                obtain ⟨e1, e2⟩ := beq_neD k3
                have HU := Lib.hid (upd_miss (f := (x1, x2, x3, x4)) (c := (x1, x2, y3, y4, y5, y6, y7)) st (fun q => k3 q.2.2))
                go_wp2_with fail
                go_roundw
                case rel => exact ⟨k + 1, st, by go_num, by omega, rfl, rfl, by rw [HTK.out, ← HST.out, HU.out], HZN.out⟩
                case measure => simp [intOf] <;> omega
              obtain rfl := k3.symm
              obtain ⟨s3, s4⟩ := beq_sameD x3
              have HU := Lib.hid (upd_hit (f := (x1, x2, x3, x4)) (c := (x1, x2, x3, y4, y5, y6, y7)) st ⟨rfl, rfl, rfl⟩)
              go_wp2_with fail
              go_roundw
              case rel => exact ⟨k + 1, (y7, y5), by go_num, by omega, rfl, rfl, by rw [HTK.out, ← HST.out, HU.out], HZN.out⟩
              case measure => simp [intOf] <;> omega
            · have hd2 : decide ((k : Int) < (n2 : Int)) = false := decide_eq_false (by omega)
              have HFI := Lib.hid (show finC X C (x1, x2, x3, x4) = st by rw [HFC.out, HST.out, List.take_of_length_le (by rw [L2.out]; omega)])
              clear HST HFC
              obtain ⟨s, t⟩ := st
              cases t with
              | false =>
                have HOG := Lib.hid (show outG X C (x1, x2, x3, x4) = [] by unfold outG; rw [HFI.out]; rfl)
                have HOZ := Lib.hid (HO.out.kept HRZ.out)
                go_wp2_with fail
                go_roundw
                case rel => exact ⟨j + 1, acc, by go_num, by omega, HOZ.out, by have := HLN.out; omega, by rw [HT.out, ← HEQ.out, HOG.out, List.append_nil], HBZ.out⟩
                case measure => simp [intOf] <;> omega
              | true =>
                have HOG := Lib.hid (show outG X C (x1, x2, x3, x4) = [(x1, x2, x3, s)] by unfold outG; rw [HFI.out]; rfl)
                have p3 : wr.cell? ⟨wq.heap.size, 3, none⟩ = some (.string x4) := (cell_of_row _ _ 3 _ _ _ HNZ.out).trans rfl
                have z3 : wr.frozen? ⟨wq.heap.size, 3, none⟩ = false := frozen_of_row _ _ _ _ _ HNZ.out
                go_upto_region 21 with (fail)
                have HN7 := Lib.hid (show (wr.setCell ⟨wq.heap.size, 3, none⟩ (.string s)).heap[wq.heap.size]? = some (.cells #[.int .i64 x1, .string x2, .string x3, .string s] 32 (0, 0)) from heap_setCell_at (i := 3) (u := .string s) HNZ.out)
                have HR7 := Lib.hid (HRZ.out.setCell (p := ⟨wq.heap.size, 3, none⟩) (Nat.le_refl _) (.string s))
                clear p3 z3
                generalize wr.setCell ⟨wq.heap.size, 3, none⟩ (.string s) = w7 at *
                have HB7 := Lib.hid (HB.out.trans (HR7.out.mono HB.out.size))
                have p0 : w7.cell? ⟨wq.heap.size, 0, none⟩ = some (.int .i64 x1) := (cell_of_row _ _ 0 _ _ _ HN7.out).trans rfl
                have p1 : w7.cell? ⟨wq.heap.size, 1, none⟩ = some (.string x2) := (cell_of_row _ _ 1 _ _ _ HN7.out).trans rfl
                have p2 : w7.cell? ⟨wq.heap.size, 2, none⟩ = some (.string x3) := (cell_of_row _ _ 2 _ _ _ HN7.out).trans rfl
                have p3 : w7.cell? ⟨wq.heap.size, 3, none⟩ = some (.string s) := (cell_of_row _ _ 3 _ _ _ HN7.out).trans rfl
                have HB8 := Lib.hid (HB7.out.alloc HB7.out.size (.cells #[.int .i64 x1, .string x2, .string x3, .string s] 32 (0, 0)))
                have HO8 := Lib.hid ((HO.out.kept HR7.out).alloc (.cells #[.int .i64 x1, .string x2, .string x3, .string s] 32 (0, 0)))
                go_wp2_with (at_builtin; refine wpList_appX rfl (.tmp 79) (.tmp 81) 22 32 _ 56 rfl Try.underlying22 info_fcD rfl (by omega) (by omega) fcC_len fcC_one w2.heap.size w2 HB8.out (by have := HB7.out.size; simp at this ⊢ <;> omega) (.slice av nv cv) acc rfl HO8.out w7.heap.size 1 (x1, x2, x3, s) #[.int .i64 x1, .string x2, .string x3, .string s] 32 (0, 0) rfl (heap_alloc_new w7 _) rfl (by have := HLN.out; have := HBL.out; omega) ?_)
                intro v9 w9 HO9 HB9 _ _
                have hv9 := HO9.out.one
                clear p0 p1 p2 p3 HB8 HO8
                go_wp2_with fail
                go_roundw
                case rel => exact ⟨j + 1, acc ++ [(x1, x2, x3, s)], by go_num, by omega, HO9.out, by rw [List.length_append]; have := HLN.out; simp; omega, by rw [HT.out, ← HEQ.out, HOG.out], HB9.out⟩
                case measure => simp [intOf] <;> omega
        · have hd1 : decide ((j : Int) < (m : Int)) = false := decide_eq_false (by omega)
          have HFIN := Lib.hid (show acc = rappL X C by rw [HEQ.out, List.take_of_length_le (by rw [← HML.out]; omega), HFE.out]; rfl)
          go_wp2_with fail
          go_ret
          exact ⟨_, rfl, HFIN.out ▸ HO.out.mono HBW.out.size, HBW.out.trans (HB.out.mono HBW.out.size)⟩
end Go.Proofs.Ytpjpegmjcgkonaa

namespace Go.Proofs.Ytpjpegmjcgkonaa
open Go.RowKit

theorem meet_map : ∀ (n : Nat) (X : List Fc) (C : List Cg), X.length + C.length ≤ n → meetL cmpF X (C.map keyC) = (meetL cmpC X C).map fun p => (p.1, p.2.map keyC)
  | n, [], C, _ => by
    rw [meet_nil, meet_nil, List.map_map, List.map_map]
    rfl
  | n, x :: X, [], _ => by
    show meetL cmpF (x :: X) [] = _
    rw [meet_nil2, meet_nil2, List.map_map]
    rfl
  | 0, x :: X, c :: C, h => by simp at h
  | n + 1, x :: X, c :: C, h => by
    simp only [List.length_cons] at h
    have e : cmpF x (keyC c) = cmpC x c := rfl
    show meetL cmpF (x :: X) (keyC c :: C.map keyC) = _
    by_cases h1 : cmpC x c < 0
    · rw [meet_lt _ _ (by rw [e]; exact h1), meet_lt _ _ h1, List.map_cons]
      have ih := meet_map n X (c :: C) (by simp; omega)
      rw [List.map_cons] at ih
      rw [ih]
      rfl
    · by_cases h2 : 0 < cmpC x c
      · rw [meet_gt _ _ (by rw [e]; exact h2), meet_gt _ _ h2, List.map_cons, meet_map n (x :: X) C (by simp; omega)]
        rfl
      · rw [meet_eq _ _ (by rw [e]; exact h1) (by rw [e]; exact h2), meet_eq _ _ h1 h2, List.map_cons, meet_map n X C (by omega)]
        rfl
theorem meet_snd : ∀ (n : Nat) (X : List Fc) (C : List Cg), X.length + C.length ≤ n → ∀ p ∈ meetL cmpC X C, ∀ c, p.2 = some c → c ∈ C
  | n, [], C, _, p, hp, c, hc => by
    rw [meet_nil] at hp
    obtain ⟨y, hy, rfl⟩ := List.mem_map.1 hp
    cases hc
    exact hy
  | n, x :: X, [], _, p, hp, c, hc => by
    rw [meet_nil2] at hp
    obtain ⟨y, hy, rfl⟩ := List.mem_map.1 hp
    cases hc
  | 0, x :: X, c :: C, h, _, _, _, _ => by simp at h
  | n + 1, x :: X, d :: C, h, p, hp, c, hc => by
    simp only [List.length_cons] at h
    by_cases h1 : cmpC x d < 0
    · rw [meet_lt _ _ h1] at hp
      rcases List.mem_cons.1 hp with rfl | hp
      · cases hc
      · exact meet_snd n X (d :: C) (by simp; omega) p hp c hc
    · by_cases h2 : 0 < cmpC x d
      · rw [meet_gt _ _ h2] at hp
        rcases List.mem_cons.1 hp with rfl | hp
        · cases hc; exact List.mem_cons_self ..
        · exact List.mem_cons_of_mem _ (meet_snd n (x :: X) C (by simp; omega) p hp c hc)
      · rw [meet_eq _ _ h1 h2] at hp
        rcases List.mem_cons.1 hp with rfl | hp
        · cases hc; exact List.mem_cons_self ..
        · exact List.mem_cons_of_mem _ (meet_snd n X C (by omega) p hp c hc)
theorem foldC_none {f : Fc} : ∀ {C : List Cg} (st : ByteArray × Bool), (∀ c ∈ C, ¬ sameK (keyC c) f) → C.foldl (updC f) st = st
  | [], _, _ => rfl
  | c :: C, st, h => by
    rw [List.foldl_cons, upd_miss st (h c (List.mem_cons_self ..))]
    exact foldC_none st fun d hd => h d (List.mem_cons_of_mem _ hd)
theorem sameK_trans {a b c : Fc} (h : sameK a b) (k : sameK b c) : sameK a c := ⟨h.1.trans k.1, h.2.1.trans k.2.1, h.2.2.trans k.2.2⟩
theorem sameK_symm {a b : Fc} (h : sameK a b) : sameK b a := ⟨h.1.symm, h.2.1.symm, h.2.2.symm⟩
theorem foldC_one {f : Fc} {c : Cg} : ∀ {C : List Cg} (st : ByteArray × Bool), Rs (C.map keyC) → c ∈ C → sameK (keyC c) f → C.foldl (updC f) st = (c.2.2.2.2.2.2, c.2.2.2.2.1)
  | [], _, _, h, _ => by cases h
  | d :: C, st, hr, hc, hs => by
    have hr' := List.pairwise_cons.1 (show ((keyC d) :: C.map keyC).Pairwise _ from hr)
    rw [List.foldl_cons]
    rcases List.mem_cons.1 hc with rfl | hc
    · rw [upd_hit st hs]
      refine foldC_none _ fun e he q => ?_
      exact (less_not (hr'.1 _ (List.mem_map.2 ⟨e, he, rfl⟩))).1 (sameK_trans hs (sameK_symm q))
    · exact foldC_one _ hr'.2 hc hs
theorem app_eq {X : List Fc} {C : List Cg} (hX : Rs X) (hC : Rs (C.map keyC)) : (meetL cmpC X C).flatMap outA = rappL X C := by
  unfold rappL bothL
  rw [meet_map _ X C (Nat.le_refl _), List.map_map, List.flatMap_map]
  refine flatMap_cong fun p hp => ?_
  have hp' : (p.1, p.2.map keyC) ∈ meetL cmpF X (C.map keyC) := by
    rw [meet_map _ X C (Nat.le_refl _)]
    exact List.mem_map.2 ⟨p, hp, rfl⟩
  obtain ⟨q1, q2, _, q4⟩ := meet_find _ X (C.map keyC) (Nat.le_refl _) hX hC _ hp'
  have hsnd := meet_snd _ X C (Nat.le_refl _) p hp
  have e1 : findK X (clr (ptF (p.1, p.2.map keyC))) = p.1 := by rw [← findK_cong (clr_same _)]; exact q1
  have e2 : findK (C.map keyC) (clr (ptF (p.1, p.2.map keyC))) = p.2.map keyC := by rw [← findK_cong (clr_same _)]; exact q2
  show outA p = outG X C (clr (ptF (p.1, p.2.map keyC)))
  obtain ⟨x, y⟩ := p
  cases y with
  | none =>
    cases x with
    | none => rcases q4 with q | q <;> exact absurd rfl q
    | some x =>
      have hn : finC X C (clr x) = (x.2.2.2, true) := by
        unfold finC
        rw [foldC_none]
        · have e1' : findK X (clr x) = some x := e1
          unfold valV valB
          rw [e1']
          rfl
        · intro c hc q
          have e2' : findK (C.map keyC) (clr x) = none := e2
          unfold findK at e2'
          have := List.find?_eq_none.1 e2' (keyC c) (List.mem_map.2 ⟨c, hc, rfl⟩)
          exact this ((keyB_iff _ _).2 q)
      show [x] = outG X C (clr x)
      unfold outG
      rw [hn]
      rfl
  | some c =>
    have hc := hsnd c rfl
    have hs : sameK (keyC c) (clr (ptF (x, some (keyC c)))) := (keyB_iff _ _).1 (by
      have e2' : findK (C.map keyC) (clr (ptF (x, some (keyC c)))) = some (keyC c) := e2
      unfold findK at e2'
      exact List.find?_some (p := fun z => keyB z (clr (ptF (x, some (keyC c))))) e2')
    have hn : finC X C (clr (ptF (x, some (keyC c)))) = (c.2.2.2.2.2.2, c.2.2.2.2.1) := foldC_one _ hC hc hs
    show outA (x, some c) = outG X C (clr (ptF (x, some (keyC c))))
    generalize hf : clr (ptF (x, some (keyC c))) = f at hs hn
    have ea : outA (x, some c) = if c.2.2.2.2.1 = true then [behindC c] else [] := by cases x <;> rfl
    rw [ea]
    unfold outG
    rw [hn]
    obtain ⟨s1, s2, s3⟩ := hs
    have eb : behindC c = (f.1, f.2.1, f.2.2.1, c.2.2.2.2.2.2) := by rw [← s1, ← s2, ← s3]; rfl
    rw [eb]
theorem rs_adj : ∀ {l : List Fc}, (∀ j a b, l[j]? = some a → l[j + 1]? = some b → lessF a b = true) → Rs l
  | [], _ => List.Pairwise.nil
  | [a], _ => by simp
  | a :: b :: r, h => by
    have ih : Rs (b :: r) := rs_adj fun j x y hx hy => h (j + 1) x y hx hy
    have hab := h 0 a b rfl rfl
    refine List.pairwise_cons.2 ⟨fun c hc => ?_, ih⟩
    rcases List.mem_cons.1 hc with rfl | hc
    · exact hab
    · exact less_trans hab ((List.pairwise_cons.1 ih).1 c hc)
end Go.Proofs.Ytpjpegmjcgkonaa
