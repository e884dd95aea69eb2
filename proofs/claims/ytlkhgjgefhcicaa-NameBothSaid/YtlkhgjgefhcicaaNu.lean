/- Contracts of the document's With and All over rows of texts. -/
import Derived.Test.YtlkhgjgefhcicaaNs
import Derived.Test.YtlkhgjgefhcicaaNr
import Derived.Deep.RegionLaw
namespace Go.Proofs.Ytlkhgjgefhcicaa
open Go.RowKit

theorem new_one (w : World) (o : Obj) : (w.alloc o).drew.heap[w.heap.size]? = some o := (MapKept.heap_alloc w o).1
theorem new_two (w : World) (o p : Obj) : ((w.alloc o).alloc p).drew.heap[w.heap.size]? = some o ∧ ((w.alloc o).alloc p).drew.heap[w.heap.size + 1]? = some p := by
  constructor
  · show ((w.heap.push o).push p)[w.heap.size]? = _
    rw [Array.getElem?_push]
    simp
  · show ((w.heap.push o).push p)[w.heap.size + 1]? = _
    rw [Array.getElem?_push]
    simp
theorem bel_one (w : World) (o : Obj) : Below w.heap.size w (w.alloc o).drew := ((Below.refl _ w).alloc (Nat.le_refl _) o).drew
theorem bel_two (w : World) (o p : Obj) : Below w.heap.size w ((w.alloc o).alloc p).drew := (((Below.refl _ w).alloc (Nat.le_refl _) o).alloc (by simp) p).drew
theorem siz_one (w : World) (o : Obj) : w.heap.size < (w.alloc o).drew.heap.size := by show _ < (w.heap.push o).size; simp
theorem siz_two (w : World) (o p : Obj) : w.heap.size + 1 < ((w.alloc o).alloc p).drew.heap.size := by show _ < ((w.heap.push o).push p).size; simp
theorem siz_old (w : World) (o p : Obj) : w.heap.size < ((w.alloc o).alloc p).drew.heap.size := Nat.lt_of_succ_lt (siz_two w o p)
theorem own_ne {p q : Nat} (h : p ≠ q) (n c : Nat) : some p ≠ (Value.slice (some ⟨q, 0, none⟩) n c).ownBlock := fun e => h (by simpa [Value.ownBlock] using e)

set_option maxRecDepth 100000 in
set_option maxHeartbeats 4000000 in
theorem refWith_any (a : Option Addr) (len cap : Nat) (ss : List ByteArray) (x : ByteArray) (w : World) (hsl : SlN w a len ss) (hlm : len ≤ 100000) (hlc : len ≤ cap) (hcm : cap ≤ maxLen) :
    Calls Try.prog 19 #[.slice a len cap, .string x] w (RetTS w (withL ss x)) := by
  cases hq : inB ss x with
  | true =>
    have HQ := Lib.hid hq
    have HW := Lib.hid (with_yes hq)
    have HS := Lib.hid hsl
    clear hq hsl
    go_enter Try.func19, Try.ntmps19
    go_wp2_with fail
    refine (refIn_any a len cap ss x _ HS.out (by omega)).mono ?_
    rintro e w' ⟨rfl, rfl⟩
    rw [HQ.out]
    go_wp2
    go_ret
    exact ⟨_, rfl, by rw [HW.out]; exact HS.out.ts hlc hcm, Below.refl _ _⟩
  | false =>
    have HQ := Lib.hid hq
    have HW := Lib.hid (with_no hq)
    have HS := Lib.hid hsl
    have hkl : lessN ss x ≤ len := by have := lessN_le ss x; rw [hsl.1] at this; exact this
    have hl := hsl.1
    clear hq hsl
    obtain ⟨K, hK⟩ : ∃ K, K = lessN ss x := ⟨_, rfl⟩
    have HL := Lib.hid (refLess_any a len cap ss x w HS.out (by omega))
    rw [← hK] at HL HW hkl
    clear hK
    have e1 := slice_to a len cap K (by omega)
    have e2 := slice_from a len cap K hkl
    have hk0 : 0 ≤ (K : Int) := by omega
    have hk2 : (K : Int) ≤ (len : Int) := by omega
    have HT := Lib.hid (show (ss.take K).length = K by rw [List.length_take, hl]; omega)
    clear hl
    go_enter Try.func19, Try.ntmps19
    go_wp2_with fail
    refine (refIn_any a len cap ss x _ HS.out (by omega)).mono ?_
    rintro e w' ⟨rfl, rfl⟩
    rw [HQ.out]
    go_wp2_with fail
    refine HL.out.mono ?_
    rintro e w' ⟨rfl, rfl⟩
    go_wp2_with fail
    go_region_law (first
      | ((refine step_appg ?_ (.tmp 13) (.tmp 16) ?_ w.heap.size w ?_ ?_ (.slice (some ⟨w.heap.size, 0, none⟩) 0 0) [] ?_ (own_zero_at ?_ (Nat.le_refl _)) a K cap (ss.take K) ?_ ((HS.out.upto K hkl).later ?_) ?_ ?_; (rfl); (rfl); (first | exact bel_one _ _ | exact bel_two _ _ _); (first | exact Nat.le_of_lt (siz_one _ _) | exact Nat.le_of_lt (siz_old _ _ _)); (rfl); (first | exact new_one _ _ | exact (new_two _ _ _).1 | exact (new_two _ _ _).2); (rfl); (first | exact bel_one _ _ | exact bel_two _ _ _); (simp only [List.length_nil]; omega); intro v1 w1 HO1 HB1 HZ1 HG1))
      | ((refine step_appg ?_ (.tmp 13) (.tmp 16) ?_ w.heap.size w ?_ ?_ (.slice (some ⟨w.heap.size + 1, 0, none⟩) 0 0) [] ?_ (own_zero_at ?_ (Nat.le_succ _)) a K cap (ss.take K) ?_ ((HS.out.upto K hkl).later ?_) ?_ ?_; (rfl); (rfl); (first | exact bel_one _ _ | exact bel_two _ _ _); (first | exact Nat.le_of_lt (siz_one _ _) | exact Nat.le_of_lt (siz_old _ _ _)); (rfl); (first | exact new_one _ _ | exact (new_two _ _ _).1 | exact (new_two _ _ _).2); (rfl); (first | exact bel_one _ _ | exact bel_two _ _ _); (simp only [List.length_nil]; omega); intro v1 w1 HO1 HB1 HZ1 HG1))
      | ((refine step_appg ?_ (.tmp 17) (.tmp 19) ?_ w.heap.size w (HB1.out.alloc HZ1.out _) ?_ v1 (ss.take K) ?_ (HO1.out.alloc _) (some ⟨w1.heap.size, 0, none⟩) 1 1 [x] ?_ (sl_one _ x) ?_ ?_; (rfl); (rfl); (have := HZ1.out; simp; omega); (rfl); (rfl); (rw [HT.out]; omega); intro v2 w2 HO2 HB2 HZ2 HG2))
      | ((refine step_appg ?_ (.tmp 17) (.tmp 19) ?_ w.heap.size w HB1.out HZ1.out v1 (ss.take K) ?_ HO1.out (some ⟨w.heap.size + 1, 0, none⟩) 1 1 [x] ?_ (sl_one_at ((HG1.out.block _ (siz_two _ _ _) (own_ne ?_ _ _)).trans ?_)) ?_ ?_; (rfl); (rfl); (rfl); (rfl); (omega); (first | exact new_one _ _ | exact (new_two _ _ _).1 | exact (new_two _ _ _).2); (rw [HT.out]; omega); intro v2 w2 HO2 HB2 HZ2 HG2))
      | ((refine step_appg ?_ (.tmp 17) (.tmp 19) ?_ w.heap.size w HB1.out HZ1.out v1 (ss.take K) ?_ HO1.out (some ⟨w.heap.size, 0, none⟩) 1 1 [x] ?_ (sl_one_at ((HG1.out.block _ (siz_old _ _ _) (own_ne ?_ _ _)).trans ?_)) ?_ ?_; (rfl); (rfl); (rfl); (rfl); (omega); (first | exact new_one _ _ | exact (new_two _ _ _).1 | exact (new_two _ _ _).2); (rw [HT.out]; omega); intro v2 w2 HO2 HB2 HZ2 HG2))
      | ((refine step_appg ?_ (.tmp 20) (.tmp 23) ?_ w.heap.size w HB2.out HZ2.out v2 (ss.take K ++ [x]) ?_ HO2.out (cutA a cap K) (len - K) (cap - K) (ss.drop K) ?_ ((HS.out.cut cap K hkl hlc).later HB2.out) ?_ ?_; (rfl); (rfl); (rfl); (rfl); (rw [List.length_append, HT.out]; simp; omega); intro v3 w3 HO3 HB3 HZ3 HG3)))
    all_goals go_wp2
    all_goals go_ret
    all_goals exact ⟨v3, rfl, by have := TS.of_own HO3.out; rw [HW.out]; simpa using this, HB3.out⟩

set_option maxRecDepth 100000 in
set_option maxHeartbeats 800000 in
theorem refAll_any (a : Option Addr) (la ca : Nat) (xs : List ByteArray) (b : Option Addr) (lb cb : Nat) (ys : List ByteArray) (w : World) (ha : SlN w a la xs) (hb : SlN w b lb ys) (h1 : la ≤ 40000) (h2 : lb ≤ 40000) (hac : la ≤ ca) (hcm : ca ≤ maxLen) :
    Calls Try.prog 23 #[.slice a la ca, .slice b lb cb] w (RetTS w (ys.foldl withL xs)) := by
  have HA := Lib.hid (ha.ts hac hcm)
  have HB0 := Lib.hid hb
  have HL := Lib.hid hb.1
  have HLA := Lib.hid ha.1
  clear ha hb
  go_enter Try.func23, Try.ntmps23
  go_wp2
  go_loopw [0, 5] (fun v i wr => ∃ (k : Nat) (L : List ByteArray), k ≤ lb ∧ i = .int .i64 (k : Int) ∧ TS wr v L ∧ L = (ys.take k).foldl withL xs ∧ Below w.heap.size w wr) (fun _ i _ => lb - (intOf i).toNat)
  case atStart => exact ⟨0, xs, Nat.zero_le _, rfl, HA.out, rfl, Below.refl _ _⟩
  case round =>
    obtain ⟨k, L, hk, rfl, ht, hL, hbw⟩ := hrel
    have HLL := Lib.hid hL
    have HB := Lib.hid hbw
    by_cases hlt : k < lb
    · have hlen : L.length ≤ 80000 := by rw [hL]; have := fold_len (ys.take k) xs; rw [List.length_take, HLA.out] at this; omega
      obtain ⟨a1, c1, rfl, hs1, hc1, hm1⟩ := ht
      have HS1 := Lib.hid hs1
      have hkn : k < ys.length := by rw [HL.out]; exact hlt
      obtain ⟨bb, off, rfl, hcell⟩ := (HB0.out.later HB.out).2 (by omega)
      have hc := hcell k hkn
      have HN := Lib.hid (fold_take xs ys k hkn)
      clear hcell hL hbw hs1
      generalize ys[k] = s at hc HN
      go_wp2_with fail
      refine (refWith_any a1 L.length c1 L s _ HS1.out (by omega) hc1 hm1).mono ?_
      rintro e w2 ⟨v2, rfl, ht2, hb2⟩
      have HT2 := Lib.hid ht2
      have HB2 := Lib.hid (HB.out.trans (hb2.mono HB.out.size))
      clear ht2 hb2
      go_wp2
      go_roundw
      case rel => exact ⟨k + 1, withL L s, by omega, by go_num, HT2.out, by rw [HN.out, HLL.out], HB2.out⟩
      case measure => simp [intOf]; omega
    · have hf : ys.take k = ys := List.take_of_length_le (by rw [HL.out]; omega)
      have HF := Lib.hid hf
      have HT := Lib.hid ht
      clear hf hL hbw ht
      go_wp2
      go_ret
      exact ⟨_, rfl, by have := HT.out; rw [HLL.out, HF.out] at this; exact this, HB.out⟩
end Go.Proofs.Ytlkhgjgefhcicaa
