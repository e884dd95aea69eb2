/- The contracts of (*sha.Hash).finish and bytes over this translation. Conditions: a sum that lies in a block of its own; the table that the program's text lays. -/
import Derived.Test.YtagenkofoacajaaDoorHa
import Derived.Test.YtagenkofoacajaaDoorHf
namespace Go.Proofs.YtagenkofoacajaaDoor
open Go.RowKit Hm

theorem row_set8 (w : World) (M : Nat) (l l' : List UInt8) (t : TypeId) (i : Nat) (c : UInt8) (v : Int) (hv : v = (c.toNat : Int)) (h : w.heap[M]? = some (.cells (l.map u8v).toArray t (0, 0))) (hs : l.set i c = l') :
    (w.setCell ⟨M, i, none⟩ (.int .u8 v)).heap[M]? = some (.cells (l'.map u8v).toArray t (0, 0)) := by
  rw [heap_setCell_same _ _ _ _ _ _ h, ← hs, hv]
  simp [List.map_set, u8v]
theorem row_cell8 (w : World) (M : Nat) (l : List UInt8) (t : TypeId) (i : Nat) (h : w.heap[M]? = some (.cells (l.map u8v).toArray t (0, 0))) (hi : i < l.length) :
    w.cell? ⟨M, i, none⟩ = some (.int .u8 ((l.getD i 0).toNat : Int)) := by
  rw [cell_of_row _ _ _ _ _ _ h]
  simp [u8v, List.getD, hi]
theorem outByte_int (h : List Nat) (k x : Nat) (hx : x = h.getD (k / 4) 0) : ((x : Int) / 2 ^ (24 - k % 4 * 8) % 256) = ((outByte h k).toNat : Int) := by
  subst hx
  unfold outByte
  generalize 24 - k % 4 * 8 = e
  rw [UInt8.toNat_ofNat', Nat.mod_eq_of_lt (Nat.mod_lt _ (by decide)), Int.natCast_emod, Int.natCast_ediv, Int.natCast_pow]
  rfl
theorem conv_row8 (w : World) (M : Nat) (l : List UInt8) (t : TypeId) (n cap : Nat) (h : w.heap[M]? = some (.cells (l.map u8v).toArray t (0, 0))) (hn : n ≤ l.length) :
    (convert 95 9 (.slice (some ⟨M, 0, none⟩) n cap)).run Tryd.prog w = .ok (.string ⟨(l.take n).toArray⟩) w := by
  have hl : (l.take n).length = n := by rw [List.length_take]; omega
  have e := run_convert_bytes_back (P := Tryd.prog) w 95 9 5 ⟨M, 0, none⟩ cap (l.take n) Tryd.underlying95 Tryd.underlying5 Tryd.underlying9 (fun j hj => by
    rw [hl] at hj
    rw [Addr.add_lit, Nat.zero_add, row_cell8 w M l t j h (by omega)]
    rw [List.getElem_take, List.getD_eq_getElem?_getD, List.getElem?_eq_getElem (by omega)]
    rfl)
  rw [hl] at e
  exact e
set_option maxRecDepth 100000 in
set_option maxHeartbeats 2000000 in
theorem bytes_any (B : Nat) (h : List Nat) (b : List UInt8) (n : Nat) (w : World) (H : SH w B h b n) :
    Calls Tryd.prog 108 #[.pointer (some ⟨B, 0, none⟩)] w fun e w' => e = .returned (.string ⟨(bytesOf h).toArray⟩) ∧ Below w.heap.size w w' := by
  have HH := Lib.hid H
  have hlt := H.lt
  clear H
  go_enter Tryd.func108, Tryd.ntmps108
  go_wp2_with fail
  go_loopw [4, 5] (fun _ i wr => ∃ (k : Nat), i = .int .i64 (k : Int) ∧ k ≤ 32 ∧ wr.heap[w.heap.size]? = some (.cells ((outAt h k).map u8v).toArray 173 (0, 0)) ∧ Below w.heap.size w wr) (fun _ i _ => 32 - (intOf i).toNat)
  case atStart => exact ⟨0, rfl, by omega, heap_alloc_new w _, (Below.refl _ w).alloc (Nat.le_refl _) _⟩
  case round =>
    obtain ⟨k, rfl, hk, hr, hb⟩ := hrel
    have HR := Lib.hid hr
    have HB := Lib.hid hb
    clear hr hb
    by_cases hlt2 : k < 32
    · have cw := (show SH wr B h b n from HH.out.later HB.out).words (k / 4) (by omega)
      have cm := row_cell8 wr w.heap.size _ _ k HR.out (by rw [outAt_len h k hk]; exact hlt2)
      have fm := frozen_of_row wr w.heap.size k _ _ HR.out
      obtain ⟨x, hx⟩ : ∃ x, x = h.getD (k / 4) 0 := ⟨_, rfl⟩
      rw [← hx] at cw
      have HS := Lib.hid (row_set8 wr w.heap.size _ _ _ k _ _ (outByte_int h k x hx) HR.out (outAt_set h k hlt2))
      clear hx
      generalize ((outAt h k).getD k 0).toNat = old at cm
      go_wp2_with fail
      go_roundw
      case rel => exact ⟨k + 1, by go_num, by omega, HS.out, HB.out.setCell (Nat.le_refl _) _⟩
      case measure => simp [intOf]; omega
    · obtain rfl : k = 32 := by omega
      have hcv := conv_row8 wr w.heap.size _ _ 32 32 HR.out (by rw [outAt_len h 32 (by omega)]; omega)
      rw [outAt_all h HH.out.hl, List.take_of_length_le (by rw [bytesOf_len h HH.out.hl]; omega)] at hcv
      go_wp2_with fail
      go_ret
      exact ⟨rfl, HB.out⟩
theorem endByte_int (n k : Nat) : (((n : Int) * 8) / 2 ^ (8 * (7 - k)) % 256) = ((endByte n k).toNat : Int) := by
  unfold endByte
  generalize 8 * (7 - k) = e
  rw [UInt8.toNat_ofNat', Nat.mod_eq_of_lt (Nat.mod_lt _ (by decide)), Int.natCast_emod, Int.natCast_ediv, Int.natCast_pow, Int.natCast_mul]
  rfl
theorem end_start (n o : Nat) (h1 : 1 ≤ o) (h2 : o ≤ 72) : (Tryd.zeroCells172.setIfInBounds 0 (Value.int IntKind.u8 128)) = ((endAt n o 0).map u8v).toArray := by
  rw [endAt_zero n o h1 h2]
  kernel_rfl
theorem len_72 : Tryd.prog.arrayLen 172 = 72 := by kernel_rfl
theorem elem_72 : Tryd.prog.elem 172 = 5 := by kernel_rfl
theorem und_72 : Tryd.prog.underlying 172 = some (.array (Tryd.prog.arrayLen 172) (Tryd.prog.elem 172)) := by rw [len_72, elem_72]; exact Tryd.underlying172
theorem sl72 (M m : Nat) (hm : m ≤ 72) (v : Int) (hv : v = (m : Int)) (W : World) : (Instr.sliceAt 172 (.pointer (some ⟨M, 0, none⟩)) none (some (.int .i64 v)) none).run Tryd.prog W = .ok (.slice (some ⟨M, 0, none⟩) m 72) W := by
  subst hv
  rw [run_sliceAt_array_h W _ ⟨M, 0, none⟩ und_72 .i64 m (by omega) (by rw [len_72]; omega), elem_72, len_72, size_of_b]
  simp [Result.andThen, slicedAt, Addr.add]
set_option maxRecDepth 100000 in
set_option maxHeartbeats 2000000 in
theorem finish_any (B : Nat) (l : List UInt8) (w : World) (H : SL w B l) (hT : HTab w) (hB : 0 ≠ B) (hn : l.length ≤ 576460752303423488) :
    Calls Tryd.prog 107 #[.pointer (some ⟨B, 0, none⟩)] w fun e w' => e = .returned (.tuple #[]) ∧ SL w' B (l ++ tailOf l.length) ∧ Only B w w' := by
  have HH := Lib.hid H
  have HT := Lib.hid hT
  have hlt := H.lt
  have cc : w.cell? ⟨B, 73, none⟩ = some (.int .i64 (l.length : Int)) := by obtain ⟨b, h1, _⟩ := H; exact h1.count
  have HHB := Lib.hid hB
  clear H hT hB
  obtain ⟨n, hnl⟩ : ∃ n, n = l.length := ⟨_, rfl⟩
  rw [← hnl] at cc hn
  have HNL := Lib.hid hnl
  clear hnl
  have hni : (n : Int) ≤ 576460752303423488 := by omega
  obtain ⟨o, ho⟩ : ∃ o, o = 64 - (n + 8) % 64 := ⟨_, rfl⟩
  have ho1 : 1 ≤ o := by omega
  have ho2 : o ≤ 64 := by omega
  have HO := Lib.hid ho
  clear ho
  go_enter Tryd.func107, Tryd.ntmps107
  have e1 : 64 - ((n : Int) + 8) % 64 = (o : Int) := by have := HO.out; omega
  go_wp2_with fail
  go_loopw [4, 13] (fun _ i wr => ∃ (k : Nat), i = .int .i64 (k : Int) ∧ k ≤ 8 ∧ wr.heap[w.heap.size]? = some (.cells ((endAt n o k).map u8v).toArray 172 (0, 0)) ∧ Below w.heap.size w wr) (fun _ i _ => 8 - (intOf i).toNat)
  case atStart => exact ⟨0, rfl, by omega, by rw [end_start n o ho1 (by omega)]; exact heap_alloc_new w _, (Below.refl _ w).alloc (Nat.le_refl _) _⟩
  case round =>
    obtain ⟨k, rfl, hk, hr, hb⟩ := hrel
    have HR := Lib.hid hr
    have HB := Lib.hid hb
    clear hr hb
    by_cases hlt2 : k < 8
    · have cw := (HB.out.cell (p := ⟨B, 73, none⟩) hlt).trans cc
      have cm := row_cell8 wr w.heap.size _ _ (o + k) HR.out (by rw [endAt_len n o k ho1 (by omega)]; omega)
      have fm := frozen_of_row wr w.heap.size (o + k) _ _ HR.out
      have HS := Lib.hid (row_set8 wr w.heap.size _ _ _ (o + k) _ _ (endByte_int n k) HR.out (endAt_set n o k ho1 (by omega)))
      generalize ((endAt n o k).getD (o + k) 0).toNat = old at cm
      go_wp2_with fail
      go_roundw
      case rel => exact ⟨k + 1, by go_num, by omega, HS.out, HB.out.setCell (Nat.le_refl _) _⟩
      case measure => simp [intOf]; omega
    · obtain rfl : k = 8 := by omega
      have hcv := conv_row8 wr w.heap.size _ _ (o + 8) 72 HR.out (by rw [endAt_len n o 8 ho1 (by omega)]; omega)
      rw [HO.out, endAt_take, ← HO.out] at hcv
      have hsl := sl72 w.heap.size (o + 8) (by omega) ((o : Int) + 8) (by omega) wr
      have HS := Lib.hid (HH.out.later HB.out)
      have HTX := Lib.hid (HT.out.later HB.out)
      have HLE := Lib.hid (show l.length + (⟨(tailOf n).toArray⟩ : ByteArray).size ≤ 1152921504606846976 by
        have h1 := tailOf_size n
        show _ + (tailOf n).toArray.size ≤ _
        rw [List.size_toArray, ← HNL.out]
        omega)
      go_wp2_with fail
      refine (add_any B l _ wr HS.out HTX.out HHB.out HLE.out).mono ?_
      rintro e' w5 ⟨rfl, h5, o5⟩
      have H5 := Lib.hid h5
      have O5 := Lib.hid o5
      clear h5 o5
      go_wp2_with fail
      refine bodyPost_end (results_none rfl _ _ _) rfl ⟨rfl, ?_, (Only.of_below HB.out).trans O5.out⟩
      have h := H5.out
      rw [← HNL.out]
      exact h
end Go.Proofs.YtagenkofoacajaaDoor
