/- Several texts of one family, merged for a claim. Conditions as in its parts. -/
import Derived.Test.YtiflieaemgamkaaDoorHy
import Derived.Test.YtiflieaemgamkaaDoorHa
import Derived.Test.YtiflieaemgamkaaDoorT
namespace Go.Proofs.YtiflieaemgamkaaDoor
open Go.RowKit Hm

def endByte (n i : Nat) : UInt8 := UInt8.ofNat (n * 8 / 2 ^ (8 * (7 - i)) % 256)
/-- the 72 bytes, so many of the length's laid from place o on -/
def endAt (n o k : Nat) : List UInt8 := (128 :: List.replicate (o - 1) 0) ++ ((List.range k).map (endByte n) ++ List.replicate (72 - o - k) 0)
theorem endAt_len (n o k : Nat) (ho : 1 ≤ o) (h : o + k ≤ 72) : (endAt n o k).length = 72 := by
  unfold endAt
  simp
  omega
theorem endAt_zero (n o : Nat) (ho : 1 ≤ o) (h : o ≤ 72) : endAt n o 0 = 128 :: List.replicate 71 0 := by
  unfold endAt
  rw [List.range_zero, List.map_nil, List.nil_append, List.cons_append, List.replicate_append_replicate, show o - 1 + (72 - o - 0) = 71 by omega]
theorem endAt_set (n o k : Nat) (ho : 1 ≤ o) (h : o + k < 72) : (endAt n o k).set (o + k) (endByte n k) = endAt n o (k + 1) := by
  unfold endAt
  have hl : (128 :: List.replicate (o - 1) (0 : UInt8)).length = o := by simp; omega
  rw [List.set_append_right _ _ (by rw [hl]; omega), hl, Nat.add_sub_cancel_left]
  have hr : ((List.range k).map (endByte n)).length = k := by simp
  rw [List.set_append_right _ _ (by rw [hr]; exact Nat.le_refl _), hr, Nat.sub_self, show 72 - o - k = (72 - o - (k + 1)) + 1 by omega, List.replicate_succ, List.set_cons_zero, List.range_succ, List.map_append]
  simp
theorem endAt_take (n : Nat) : (endAt n (64 - (n + 8) % 64) 8).take (64 - (n + 8) % 64 + 8) = tailOf n := by
  unfold endAt tailOf
  have hm : (n + 8) % 64 < 64 := Nat.mod_lt _ (by omega)
  generalize (n + 8) % 64 = m at hm
  rw [← List.append_assoc, List.take_append_of_le_length (by simp; omega), List.take_of_length_le (by simp; omega)]
  rw [show 64 - m - 1 = 63 - m by omega]
  rfl
theorem tailOf_len (n : Nat) : (n + (tailOf n).length) % 64 = 0 := by
  unfold tailOf
  have hm : (n + 8) % 64 < 64 := Nat.mod_lt _ (by omega)
  simp
  omega
theorem tailOf_size (n : Nat) : (tailOf n).length ≤ 72 := by
  have h := tailOf_len n
  unfold tailOf at h ⊢
  simp at h ⊢
  try omega

def outByte (h : List Nat) (k : Nat) : UInt8 := UInt8.ofNat (h.getD (k / 4) 0 / 2 ^ (24 - k % 4 * 8) % 256)
theorem bytesOf_out (h : List Nat) (hl : h.length = 8) : bytesOf h = (List.range 32).map (outByte h) := by
  obtain ⟨a0, a1, a2, a3, a4, a5, a6, a7, rfl⟩ := list8 h hl
  simp [bytesOf, outByte, List.range, List.range.loop]
def outAt (h : List Nat) (k : Nat) : List UInt8 := (List.range k).map (outByte h) ++ List.replicate (32 - k) 0
theorem outAt_len (h : List Nat) (k : Nat) (hk : k ≤ 32) : (outAt h k).length = 32 := by
  unfold outAt
  simp
  omega
theorem outAt_set (h : List Nat) (k : Nat) (hk : k < 32) : (outAt h k).set k (outByte h k) = outAt h (k + 1) := by
  unfold outAt
  have hr : ((List.range k).map (outByte h)).length = k := by simp
  rw [List.set_append_right _ _ (by rw [hr]; exact Nat.le_refl _), hr, Nat.sub_self, show 32 - k = (32 - (k + 1)) + 1 by omega, List.replicate_succ, List.set_cons_zero, List.range_succ, List.map_append]
  simp
theorem outAt_all (h : List Nat) (hl : h.length = 8) : outAt h 32 = bytesOf h := by
  rw [bytesOf_out h hl]
  simp [outAt]
theorem bytesOf_len (h : List Nat) (hl : h.length = 8) : (bytesOf h).length = 32 := by
  rw [bytesOf_out h hl]
  simp
theorem sum_blk (l : List UInt8) : bytesOf (blk (l ++ tailOf l.length)) = Hm.sum l := rfl
end Go.Proofs.YtiflieaemgamkaaDoor

namespace Go.Proofs.YtiflieaemgamkaaDoor
open Go.RowKit Hm

theorem row_set8 (w : World) (M : Nat) (l l' : List UInt8) (t : TypeId) (i : Nat) (c : UInt8) (v : Int) (hv : v = (c.toNat : Int)) (h : w.heap[M]? = some (.cells (l.map u8v).toArray t (0, 0))) (hs : l.set i c = l') :
    (w.setCell ⟨M, i, none⟩ (.int .u8 v)).heap[M]? = some (.cells (l'.map u8v).toArray t (0, 0)) := by
  rw [heap_setCell_same _ _ _ _ _ _ h, ← hs, hv]
  simp [List.map_set, u8v]
theorem row_cell8 (w : World) (M : Nat) (l : List UInt8) (t : TypeId) (i : Nat) (h : w.heap[M]? = some (.cells (l.map u8v).toArray t (0, 0))) (hi : i < l.length) :
    w.cell? ⟨M, i, none⟩ = some (.int .u8 ((l.getD i 0).toNat : Int)) := by
  rw [cell_of_row _ _ _ _ _ _ h]
  simp [u8v, List.getD, hi]
theorem outByte_int (h : List Nat) (k x : Nat) (hx : x = h.getD (k / 4) 0) : ((x : Int) / 2 ^ (24 - k % 4 * 8) % 256) = ((outByte h k).toNat : Int) := by
  subst hx
  unfold outByte
  generalize 24 - k % 4 * 8 = e
  rw [UInt8.toNat_ofNat', Nat.mod_eq_of_lt (Nat.mod_lt _ (by decide)), Int.natCast_emod, Int.natCast_ediv, Int.natCast_pow]
  rfl
theorem conv_row8 (w : World) (M : Nat) (l : List UInt8) (t : TypeId) (n cap : Nat) (h : w.heap[M]? = some (.cells (l.map u8v).toArray t (0, 0))) (hn : n ≤ l.length) :
    (convert 89 9 (.slice (some ⟨M, 0, none⟩) n cap)).run Tryd.prog w = .ok (.string ⟨(l.take n).toArray⟩) w := by
  have hl : (l.take n).length = n := by rw [List.length_take]; omega
  have e := run_convert_bytes_back (P := Tryd.prog) w 89 9 5 ⟨M, 0, none⟩ cap (l.take n) Tryd.underlying89 Tryd.underlying5 Tryd.underlying9 (fun j hj => by
    rw [hl] at hj
    rw [Addr.add_lit, Nat.zero_add, row_cell8 w M l t j h (by omega)]
    rw [List.getElem_take, List.getD_eq_getElem?_getD, List.getElem?_eq_getElem (by omega)]
    rfl)
  rw [hl] at e
  exact e
set_option maxRecDepth 100000 in
set_option maxHeartbeats 2000000 in
theorem bytes_any (B : Nat) (h : List Nat) (b : List UInt8) (n : Nat) (w : World) (H : SH w B h b n) :
    Calls Tryd.prog 29 #[.pointer (some ⟨B, 0, none⟩)] w fun e w' => e = .returned (.string ⟨(bytesOf h).toArray⟩) ∧ Below w.heap.size w w' := by
  have HH := Lib.hid H
  have hlt := H.lt
  clear H
  go_enter Tryd.func29, Tryd.ntmps29
  go_wp2_with fail
  go_loopw [4, 5] (fun _ i wr => ∃ (k : Nat), i = .int .i64 (k : Int) ∧ k ≤ 32 ∧ wr.heap[w.heap.size]? = some (.cells ((outAt h k).map u8v).toArray 95 (0, 0)) ∧ Below w.heap.size w wr) (fun _ i _ => 32 - (intOf i).toNat)
  case atStart => exact ⟨0, rfl, by omega, heap_alloc_new w _, (Below.refl _ w).alloc (Nat.le_refl _) _⟩
  case round =>
    obtain ⟨k, rfl, hk, hr, hb⟩ := hrel
    have HR := Lib.hid hr
    have HB := Lib.hid hb
    clear hr hb
    by_cases hlt2 : k < 32
    · have cw := (show SH wr B h b n from HH.out.later HB.out).words (k / 4) (by omega)
      have cm := row_cell8 wr w.heap.size _ _ k HR.out (by rw [outAt_len h k hk]; exact hlt2)
      have fm := frozen_of_row wr w.heap.size k _ _ HR.out
      obtain ⟨x, hx⟩ : ∃ x, x = h.getD (k / 4) 0 := ⟨_, rfl⟩
      rw [← hx] at cw
      have HS := Lib.hid (row_set8 wr w.heap.size _ _ _ k _ _ (outByte_int h k x hx) HR.out (outAt_set h k hlt2))
      clear hx
      generalize ((outAt h k).getD k 0).toNat = old at cm
      go_wp2_with fail
      go_roundw
      case rel => exact ⟨k + 1, by go_num, by omega, HS.out, HB.out.setCell (Nat.le_refl _) _⟩
      case measure => simp [intOf]; omega
    · obtain rfl : k = 32 := by omega
      have hcv := conv_row8 wr w.heap.size _ _ 32 32 HR.out (by rw [outAt_len h 32 (by omega)]; omega)
      rw [outAt_all h HH.out.hl, List.take_of_length_le (by rw [bytesOf_len h HH.out.hl]; omega)] at hcv
      go_wp2_with fail
      go_ret
      exact ⟨rfl, HB.out⟩
theorem endByte_int (n k : Nat) : (((n : Int) * 8) / 2 ^ (8 * (7 - k)) % 256) = ((endByte n k).toNat : Int) := by
  unfold endByte
  generalize 8 * (7 - k) = e
  rw [UInt8.toNat_ofNat', Nat.mod_eq_of_lt (Nat.mod_lt _ (by decide)), Int.natCast_emod, Int.natCast_ediv, Int.natCast_pow, Int.natCast_mul]
  rfl
theorem end_start (n o : Nat) (h1 : 1 ≤ o) (h2 : o ≤ 72) : (Tryd.zeroCells93.setIfInBounds 0 (Value.int IntKind.u8 128)) = ((endAt n o 0).map u8v).toArray := by
  rw [endAt_zero n o h1 h2]
  kernel_rfl
theorem len_72 : Tryd.prog.arrayLen 93 = 72 := by kernel_rfl
theorem elem_72 : Tryd.prog.elem 93 = 5 := by kernel_rfl
theorem und_72 : Tryd.prog.underlying 93 = some (.array (Tryd.prog.arrayLen 93) (Tryd.prog.elem 93)) := by rw [len_72, elem_72]; exact Tryd.underlying93
theorem sl72 (M m : Nat) (hm : m ≤ 72) (v : Int) (hv : v = (m : Int)) (W : World) : (Instr.sliceAt 93 (.pointer (some ⟨M, 0, none⟩)) none (some (.int .i64 v)) none).run Tryd.prog W = .ok (.slice (some ⟨M, 0, none⟩) m 72) W := by
  subst hv
  rw [run_sliceAt_array_h W _ ⟨M, 0, none⟩ und_72 .i64 m (by omega) (by rw [len_72]; omega), elem_72, len_72, size_of_b]
  simp [Result.andThen, slicedAt, Addr.add]
set_option maxRecDepth 100000 in
set_option maxHeartbeats 2000000 in
theorem finish_any (B : Nat) (l : List UInt8) (w : World) (H : SL w B l) (hT : HTab w) (hB : 0 ≠ B) (hn : l.length ≤ 576460752303423488) :
    Calls Tryd.prog 28 #[.pointer (some ⟨B, 0, none⟩)] w fun e w' => e = .returned (.tuple #[]) ∧ SL w' B (l ++ tailOf l.length) ∧ Only B w w' := by
  have HH := Lib.hid H
  have HT := Lib.hid hT
  have hlt := H.lt
  have cc : w.cell? ⟨B, 73, none⟩ = some (.int .i64 (l.length : Int)) := by obtain ⟨b, h1, _⟩ := H; exact h1.count
  have HHB := Lib.hid hB
  clear H hT hB
  obtain ⟨n, hnl⟩ : ∃ n, n = l.length := ⟨_, rfl⟩
  rw [← hnl] at cc hn
  have HNL := Lib.hid hnl
  clear hnl
  have hni : (n : Int) ≤ 576460752303423488 := by omega
  obtain ⟨o, ho⟩ : ∃ o, o = 64 - (n + 8) % 64 := ⟨_, rfl⟩
  have ho1 : 1 ≤ o := by omega
  have ho2 : o ≤ 64 := by omega
  have HO := Lib.hid ho
  clear ho
  go_enter Tryd.func28, Tryd.ntmps28
  have e1 : 64 - ((n : Int) + 8) % 64 = (o : Int) := by have := HO.out; omega
  go_wp2_with fail
  go_loopw [4, 13] (fun _ i wr => ∃ (k : Nat), i = .int .i64 (k : Int) ∧ k ≤ 8 ∧ wr.heap[w.heap.size]? = some (.cells ((endAt n o k).map u8v).toArray 93 (0, 0)) ∧ Below w.heap.size w wr) (fun _ i _ => 8 - (intOf i).toNat)
  case atStart => exact ⟨0, rfl, by omega, by rw [end_start n o ho1 (by omega)]; exact heap_alloc_new w _, (Below.refl _ w).alloc (Nat.le_refl _) _⟩
  case round =>
    obtain ⟨k, rfl, hk, hr, hb⟩ := hrel
    have HR := Lib.hid hr
    have HB := Lib.hid hb
    clear hr hb
    by_cases hlt2 : k < 8
    · have cw := (HB.out.cell (p := ⟨B, 73, none⟩) hlt).trans cc
      have cm := row_cell8 wr w.heap.size _ _ (o + k) HR.out (by rw [endAt_len n o k ho1 (by omega)]; omega)
      have fm := frozen_of_row wr w.heap.size (o + k) _ _ HR.out
      have HS := Lib.hid (row_set8 wr w.heap.size _ _ _ (o + k) _ _ (endByte_int n k) HR.out (endAt_set n o k ho1 (by omega)))
      generalize ((endAt n o k).getD (o + k) 0).toNat = old at cm
      go_wp2_with fail
      go_roundw
      case rel => exact ⟨k + 1, by go_num, by omega, HS.out, HB.out.setCell (Nat.le_refl _) _⟩
      case measure => simp [intOf]; omega
    · obtain rfl : k = 8 := by omega
      have hcv := conv_row8 wr w.heap.size _ _ (o + 8) 72 HR.out (by rw [endAt_len n o 8 ho1 (by omega)]; omega)
      rw [HO.out, endAt_take, ← HO.out] at hcv
      have hsl := sl72 w.heap.size (o + 8) (by omega) ((o : Int) + 8) (by omega) wr
      have HS := Lib.hid (HH.out.later HB.out)
      have HTX := Lib.hid (HT.out.later HB.out)
      have HLE := Lib.hid (show l.length + (⟨(tailOf n).toArray⟩ : ByteArray).size ≤ 1152921504606846976 by
        have h1 := tailOf_size n
        show _ + (tailOf n).toArray.size ≤ _
        rw [List.size_toArray, ← HNL.out]
        omega)
      go_wp2_with fail
      refine (add_any B l _ wr HS.out HTX.out HHB.out HLE.out).mono ?_
      rintro e' w5 ⟨rfl, h5, o5⟩
      have H5 := Lib.hid h5
      have O5 := Lib.hid o5
      clear h5 o5
      go_wp2_with fail
      refine bodyPost_end (results_none rfl _ _ _) rfl ⟨rfl, ?_, (Only.of_below HB.out).trans O5.out⟩
      have h := H5.out
      rw [← HNL.out]
      exact h
end Go.Proofs.YtiflieaemgamkaaDoor

namespace Go.Proofs.YtiflieaemgamkaaDoor
open Go.RowKit Hm

def hc0 : Array Value := (hcs first (List.replicate 64 0) 0).toArray
theorem hc_one (h : List Nat) (b : List UInt8) (n : Nat) : (hcs h b n).toArray.all (·.oneCell') = true := by
  rw [Array.all_eq_true_iff_forall_mem]
  intro v hv
  simp [hcs] at hv
  rcases hv with rfl | ⟨x, _, rfl⟩ | ⟨x, _, rfl⟩ | rfl <;> rfl
theorem hc_info (h : List Nat) (b : List UInt8) (n : Nat) (hl : h.length = 8) (hb : b.length = 64) : (Tryd.prog.info? 73).map (·.size) = some (hcs h b n).toArray.size := by
  rw [List.size_toArray, hcs_len h b n hl hb]
  kernel_rfl
set_option maxRecDepth 100000 in
set_option maxHeartbeats 1000000 in
theorem start_any (w : World) : Calls Tryd.prog 26 #[] w fun e w' => e = .returned (.agg hc0) ∧ Below w.heap.size w w' := by
  go_enter Tryd.func26, Tryd.ntmps26
  go_wp2_with (refine wpList_store_row rfl 73 (.tmp 0) (.tmp 2) rfl w.heap.size hc0 rfl (by kernel_rfl) 73 _ (heap_alloc_new w _) (by kernel_rfl) (by kernel_rfl) (by kernel_rfl) ?_)
  refine bodyPost_ret (results_cell_row rfl _ _ w.heap.size 73 hc0 (0, 0) _ rfl (setRow_heap _ w.heap.size _ hc0 73 (0, 0) (heap_alloc_new w _)) Tryd.underlying73 rfl (by kernel_rfl)) rfl ?_
  exact ⟨rfl, below_setRow ((Below.refl _ w).alloc (Nat.le_refl _) _) (Nat.le_refl _) hc0⟩
theorem SL.start {w : World} {B : Nat} (h : w.heap[B]? = some (.cells hc0 73 (0, 0))) : SL w B [] :=
  ⟨List.replicate 64 0, ⟨rfl, by decide, rfl, h⟩, rfl⟩
theorem HTab.lt {w : World} (h : HTab w) : 0 < w.heap.size := World.block_lt_of_cell? w _ (h 0 (by omega))
theorem HTab.ne {w : World} (h : HTab w) {B : Nat} (hB : w.heap.size ≤ B) : 0 ≠ B := fun e => by
  have := h.lt
  omega
/-- a new sum's answer -/
def MadeH (w : World) (e : Ending) (w' : World) : Prop := ∃ B, e = .returned (.pointer (some ⟨B, 0, none⟩)) ∧ SL w' B [] ∧ w.heap.size ≤ B ∧ Below w.heap.size w w'
theorem SL.made {w : World} {B : Nat} {l : List UInt8} (h : SL w B l) : w.cell? ⟨B, 0, none⟩ = some (.bool true) := by
  obtain ⟨b, h1, _⟩ := h
  exact h1.made
theorem SL.count {w : World} {B : Nat} {l : List UInt8} (h : SL w B l) : w.cell? ⟨B, 73, none⟩ = some (.int .i64 (l.length : Int)) := by
  obtain ⟨b, h1, _⟩ := h
  exact h1.count
theorem done_bytes (l : List UInt8) (w : World) (B : Nat) (H : SL w B (l ++ tailOf l.length)) :
    Calls Tryd.prog 29 #[.pointer (some ⟨B, 0, none⟩)] w fun e w' => e = .returned (.string ⟨(Hm.sum l).toArray⟩) ∧ Below w.heap.size w w' := by
  obtain ⟨b, h1, _⟩ := H
  have h := bytes_any B _ b _ w h1
  rw [sum_blk] at h
  exact h
end Go.Proofs.YtiflieaemgamkaaDoor

namespace Go.Proofs.YtiflieaemgamkaaDoor
open Go.RowKit Hm

set_option maxRecDepth 100000 in
set_option maxHeartbeats 1000000 in
theorem sumP_any (a : Option Addr) (len cap : Nat) (ss : List ByteArray) (w : World) (hT : HTab w) (hsl : StrS w a len ss) (hn : (catS ss).length ≤ 576460752303423488) (hle : len ≤ 1000000) :
    Calls Tryd.prog 17 #[.slice a len cap] w fun e w' => e = .returned (.string ⟨(Hm.sum (catS ss)).toArray⟩) ∧ Below w.heap.size w w' := by
  have HT := Lib.hid hT
  have HS := Lib.hid hsl
  have HN := Lib.hid hn
  clear hT hsl hn
  go_enter Tryd.func17, Tryd.ntmps17
  go_wp2_with fail
  refine (start_any w).mono ?_
  rintro e w0 ⟨rfl, hb⟩
  have B0 := Lib.hid hb
  clear hb
  go_wp2_with (refine wpList_store_row rfl 73 (.tmp 3) (.tmp 6) rfl w0.heap.size hc0 rfl rfl 73 _ (heap_alloc_new w0 _) (by kernel_rfl) (by kernel_rfl) (by kernel_rfl) ?_)
  obtain ⟨w1, hw1⟩ : ∃ w1, w1 = (w0.alloc (.cells Tryd.zeroCells73 73)).setRow w0.heap.size hc0 := ⟨_, rfl⟩
  obtain ⟨M, hM⟩ : ∃ M, M = w0.heap.size := ⟨_, rfl⟩
  have H1 := Lib.hid (show SL w1 M [] by rw [hw1, hM]; exact SL.start (setRow_heap _ w0.heap.size _ hc0 73 (0, 0) (heap_alloc_new w0 _)))
  have B1 := Lib.hid (show Below w.heap.size w w1 by rw [hw1]; exact below_setRow (B0.out.alloc B0.out.size _) B0.out.size hc0)
  have HM := Lib.hid (show w.heap.size ≤ M by rw [hM]; exact B0.out.size)
  rw [← hw1, ← hM]
  clear hw1 hM B0
  go_wp2_with fail
  go_loopw [5, 9] (fun _ i wr => ∃ (k : Nat), i = .int .i64 (k : Int) ∧ k ≤ len ∧ SL wr M (catS (ss.take k)) ∧ Below w.heap.size w wr) (fun _ i _ => len - (intOf i).toNat)
  case atStart => exact ⟨0, rfl, Nat.zero_le _, H1.out, B1.out⟩
  case round =>
    obtain ⟨k, rfl, hk, h1, hb⟩ := hrel
    have HR := Lib.hid h1
    have HB := Lib.hid hb
    clear h1 hb
    have hl := HS.out.1
    by_cases hlt2 : k < len
    · obtain ⟨b, off, ha, hc⟩ := HS.out.2 (by omega)
      subst ha
      have cK := (HB.out.cell (p := ⟨b, off + k, none⟩) (World.block_lt_of_cell? w _ (hc k (by omega)))).trans (hc k (by omega))
      obtain ⟨t, ht⟩ : ∃ t, t = ss[k]'(by omega) := ⟨_, rfl⟩
      rw [← ht] at cK
      have HK := Lib.hid (show catS (ss.take (k + 1)) = catS (ss.take k) ++ t.data.toList by rw [ht]; exact catS_take ss k (by omega))
      have HA := Lib.hid (add_any M (catS (ss.take k)) t wr HR.out (HT.out.later HB.out) (HT.out.ne HM.out) (by
        have h := catS_le ss k (by omega)
        rw [← ht] at h
        have := HN.out
        omega))
      clear hc ht hl
      go_wp2_with fail
      refine HA.out.mono ?_
      rintro e w2 ⟨rfl, h2, o2⟩
      have H2 := Lib.hid h2
      have B2 := Lib.hid (Only.below HB.out o2 HM.out HB.out.size)
      clear h2 o2
      go_wp2_with fail
      go_roundw
      case rel => exact ⟨k + 1, by go_num, by omega, by rw [HK.out]; exact H2.out, B2.out⟩
      case measure => simp [intOf]; omega
    · obtain rfl : k = len := by omega
      have HR2 := Lib.hid (show SL wr M (catS ss) by have h := HR.out; rw [List.take_of_length_le (by omega)] at h; exact h)
      clear hl
      go_wp2_with fail
      refine (finish_any M (catS ss) wr HR2.out (HT.out.later HB.out) (HT.out.ne HM.out) HN.out).mono ?_
      rintro e w2 ⟨rfl, h2, o2⟩
      have H2 := Lib.hid h2
      have B2 := Lib.hid (Only.below HB.out o2 HM.out HB.out.size)
      clear h2 o2
      go_wp2_with fail
      refine (done_bytes (catS ss) w2 M H2.out).mono ?_
      rintro e w3 ⟨rfl, hb3⟩
      have B3 := Lib.hid hb3
      clear hb3
      go_wp2_with fail
      go_ret
      exact ⟨rfl, B2.out.trans (B3.out.mono B2.out.size)⟩
end Go.Proofs.YtiflieaemgamkaaDoor
