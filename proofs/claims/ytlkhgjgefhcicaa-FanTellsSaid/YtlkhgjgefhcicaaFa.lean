/- Contracts of fan's small functions and of the document's Wrong and At; of the statements' few and Noughts (31). -/
import Derived.Test.YtlkhgjgefhcicaaFp
import Derived.Test.YtlkhgjgefhcicaaNy
import Derived.Test.YtlkhgjgefhcicaaNr
import Derived.Laws.MakeOwn
namespace Go.Proofs.Ytlkhgjgefhcicaa
open Go.RowKit

theorem isSum_yes (s : ByteArray) (w : World) (h : s.size = 32) : Calls Try.prog 52 #[.string s] w fun e w' => e = .returned (.bool true) ∧ w = w' := by
  have q : ((s.size : Int) == 32) = true := by simp; omega
  have H := Lib.hid h
  clear h
  go_enter Try.func52, Try.ntmps52
  go_wp2
  go_ret
  exact ⟨rfl, rfl⟩
theorem isSum_no (s : ByteArray) (w : World) (h : ¬ s.size = 32) : Calls Try.prog 52 #[.string s] w fun e w' => e = .returned (.bool false) ∧ w = w' := by
  have q : ((s.size : Int) == 32) = false := by simp; omega
  have H := Lib.hid h
  clear h
  go_enter Try.func52, Try.ntmps52
  go_wp2
  go_ret
  exact ⟨rfl, rfl⟩
theorem prt_head (s : ByteArray) (h : 0 < s.size) : ((s[0].toNat : Int) / 16) = (prt s : Int) := by
  unfold prt
  have e : s.data.toList.getD 0 0 = s[0] := by
    rw [List.getD_eq_getElem?_getD, List.getElem?_eq_getElem (by simpa using h)]
    rfl
  rw [e]
  omega
theorem partOf_any (s : ByteArray) (w : World) (h : 0 < s.size) : Calls Try.prog 51 #[.string s] w fun e w' => e = .returned (.int .i64 (prt s : Int)) ∧ w = w' := by
  have HP := Lib.hid (prt_head s h)
  have hb := s[0].toNat_lt
  have h0 : (0 : Int) < (s.size : Int) := by omega
  go_enter Try.func51, Try.ntmps51
  go_wp2
  go_ret
  exact ⟨ret_n (by rw [← HP.out]), rfl⟩

set_option maxHeartbeats 1600000 in
set_option maxRecDepth 100000 in
theorem fcheck_any (a : Option Addr) (len cap : Nat) (ss : List ByteArray) (w : World) (hsl : SlN w a len ss) (hlm : len ≤ maxLen) :
    Calls Try.prog 30 #[.slice a len cap] w fun e w' => e = .returned (.int .i64 (wR ⟨#[]⟩ ss)) ∧ w = w' := by
  unfold maxLen at hlm
  have HSL := Lib.hid hsl.2
  have HL := Lib.hid hsl.1
  clear hsl
  go_enter Try.func30, Try.ntmps30
  go_wp2
  go_loop [3, 4, 7] (fun _ _ i => ∃ (k : Nat), k ≤ len ∧ i = .int .i64 (k : Int) ∧ wR ⟨#[]⟩ ss = wR (if k = 0 then ⟨#[]⟩ else ss.getD (k - 1) ⟨#[]⟩) (ss.drop k)) (fun _ _ i => len - (intOf i).toNat)
  case atStart => exact ⟨0, Nat.zero_le _, rfl, rfl⟩
  case round =>
    obtain ⟨k, hk, rfl, heq⟩ := hrel
    have HE := Lib.hid heq
    clear heq
    by_cases hlt : k < len
    · obtain ⟨b, off, rfl, hcell⟩ := HSL.out (by omega)
      have hkn : k < ss.length := by rw [HL.out]; exact hlt
      have hc := hcell k hkn
      have HD := Lib.hid (List.drop_eq_getElem_cons hkn)
      have HCL := Lib.hid hcell
      clear hcell
      by_cases hn : ss[k].size = 32
      · rcases Nat.eq_zero_or_pos k with h0 | hpos
        · subst h0
          rw [Nat.add_zero] at hc
          have HR := Lib.hid (HE.out.trans (by rw [HD.out, if_pos rfl, wR_first ss[0] _ hn]))
          have HG := Lib.hid (show ss.getD 0 ⟨#[]⟩ = ss[0] by rw [List.getD_eq_getElem?_getD, List.getElem?_eq_getElem hkn]; rfl)
          have HN := Lib.hid hn
          clear hn
          generalize ss[0] = s at hc HN HD HR HG
          go_wp2_with fail
          refine (isSum_yes s _ HN.out).mono ?_
          rintro e w' ⟨rfl, rfl⟩
          go_wp2
          go_round
          case rel => exact ⟨1, by omega, rfl, by rw [HR.out, if_neg (by omega), HG.out]⟩
          case measure => simp [intOf]; omega
        · obtain ⟨m, rfl⟩ : ∃ m, k = m + 1 := ⟨k - 1, by omega⟩
          have hm : m < ss.length := by omega
          have hcm := HCL.out m hm
          have HG := Lib.hid (show ss.getD m ⟨#[]⟩ = ss[m] by rw [List.getD_eq_getElem?_getD, List.getElem?_eq_getElem hm]; rfl)
          have HG2 := Lib.hid (show ss.getD (m + 1) ⟨#[]⟩ = ss[m + 1] by rw [List.getD_eq_getElem?_getD, List.getElem?_eq_getElem hkn]; rfl)
          have HE2 := Lib.hid (HE.out.trans (by rw [if_neg (by omega), Nat.add_sub_cancel, HG.out]))
          have hi0 : (0 : Int) ≤ (m : Int) := by omega
          have hi1 : (m : Int) < (len : Int) := by omega
          have HN := Lib.hid hn
          have HK := Lib.hid (show w.cell? ⟨b, off + (m + 1), none⟩ = some (.string ss[m + 1]) from hc)
          clear HE hn HCL hc
          obtain ⟨s, hs1⟩ : ∃ s, s = ss[m + 1]'(by omega) := ⟨_, rfl⟩
          obtain ⟨p, hp1⟩ : ∃ p, p = ss[m] := ⟨_, rfl⟩
          rw [← hs1] at HK HN HD HG2
          rw [← hp1] at HE2 hcm HG
          clear hs1 hp1
          have hk1 := HK.out
          rcases leS_cases s p with ⟨g1, hg⟩ | ⟨g1, g2, hg⟩ | ⟨g1, g2, hg⟩
          · have HR := Lib.hid (HE2.out.trans (by rw [HD.out, wR_ord p s _ HN.out hg]))
            clear hg
            go_wp2_with fail
            refine (isSum_yes s _ HN.out).mono ?_
            rintro e w' ⟨rfl, rfl⟩
            go_wp2
            go_ret
            exact ⟨ret_n HR.out.symm, rfl⟩
          · have HR := Lib.hid (HE2.out.trans (by rw [HD.out, wR_ord p s _ HN.out hg]))
            clear hg
            go_wp2_with fail
            refine (isSum_yes s _ HN.out).mono ?_
            rintro e w' ⟨rfl, rfl⟩
            go_wp2
            go_ret
            exact ⟨ret_n HR.out.symm, rfl⟩
          · have HR := Lib.hid (HE2.out.trans (by rw [HD.out, wR_go p s _ HN.out hg]))
            clear hg
            go_wp2_with fail
            refine (isSum_yes s _ HN.out).mono ?_
            rintro e w' ⟨rfl, rfl⟩
            go_wp2
            go_round
            case rel => exact ⟨m + 1 + 1, by omega, by go_num, by rw [HR.out, if_neg (by omega), Nat.add_sub_cancel, HG2.out]⟩
            case measure => simp [intOf]; omega
      · have HR := Lib.hid (HE.out.trans (by rw [HD.out, wR_bad _ ss[k] _ hn]))
        have HN := Lib.hid hn
        clear hn
        generalize ss[k] = s at hc HN HD
        go_wp2_with fail
        refine (isSum_no s _ HN.out).mono ?_
        rintro e w' ⟨rfl, rfl⟩
        go_wp2
        go_ret
        exact ⟨ret_n HR.out.symm, rfl⟩
    · have HR := Lib.hid (HE.out.trans (by rw [List.drop_of_length_le (by rw [HL.out]; omega)]; rfl : _ = (0 : Int)))
      go_wp2
      go_ret
      exact ⟨ret_n HR.out.symm, rfl⟩

set_option maxHeartbeats 1600000 in
set_option maxRecDepth 100000 in
theorem refWrong_any (a : Option Addr) (len cap : Nat) (ss : List ByteArray) (w : World) (hsl : SlN w a len ss) (hlm : len ≤ maxLen) :
    Calls Try.prog 29 #[.slice a len cap] w fun e w' => e = .returned (.int .i64 (wR ⟨#[]⟩ ss)) ∧ ∃ q, w' = w.drewN q := by
  unfold maxLen at hlm
  have HSL := Lib.hid hsl.2
  have HL := Lib.hid hsl.1
  clear hsl
  go_enter Try.func29, Try.ntmps29
  go_wp2
  go_loopw [3] (fun i wr => ∃ (k : Nat), k ≤ len ∧ i = .int .i64 (k : Int) ∧ wR ⟨#[]⟩ ss = wR (if k = 0 then ⟨#[]⟩ else ss.getD (k - 1) ⟨#[]⟩) (ss.drop k) ∧ ∃ q, wr = w.drewN q) (fun i _ => len - (intOf i).toNat)
  case atStart => exact ⟨0, Nat.zero_le _, rfl, rfl, 0, rfl⟩
  case round =>
    obtain ⟨k, hk, rfl, heq, q, rfl⟩ := hrel
    have HE := Lib.hid heq
    clear heq
    by_cases hlt : k < len
    · obtain ⟨b, off, rfl, hcell⟩ := HSL.out (by omega)
      have hkn : k < ss.length := by rw [HL.out]; exact hlt
      have hc := hcell k hkn
      have HD := Lib.hid (List.drop_eq_getElem_cons hkn)
      have HCL := Lib.hid hcell
      clear hcell
      by_cases hn : ss[k].size = 32
      · have qn : ((ss[k].size : Int) != 32) = false := by simp; omega
        rcases Nat.eq_zero_or_pos k with h0 | hpos
        · subst h0
          rw [Nat.add_zero] at hc
          have HR := Lib.hid (HE.out.trans (by rw [HD.out, if_pos rfl, wR_first ss[0] _ hn]))
          have HG := Lib.hid (show ss.getD 0 ⟨#[]⟩ = ss[0] by rw [List.getD_eq_getElem?_getD, List.getElem?_eq_getElem hkn]; rfl)
          clear hn
          generalize ss[0] = s at hc qn HD HR HG
          go_wp2_with fail
          go_quiet (fail)
          go_wp2
          go_roundw
          case rel => exact ⟨1, by omega, rfl, by rw [HR.out, if_neg (by omega), HG.out], _, rfl⟩
          case measure => simp [intOf]; omega
        · obtain ⟨m, rfl⟩ : ∃ m, k = m + 1 := ⟨k - 1, by omega⟩
          have hm : m < ss.length := by omega
          have hcm := HCL.out m hm
          have HG := Lib.hid (show ss.getD m ⟨#[]⟩ = ss[m] by rw [List.getD_eq_getElem?_getD, List.getElem?_eq_getElem hm]; rfl)
          have HG2 := Lib.hid (show ss.getD (m + 1) ⟨#[]⟩ = ss[m + 1] by rw [List.getD_eq_getElem?_getD, List.getElem?_eq_getElem hkn]; rfl)
          have HE2 := Lib.hid (HE.out.trans (by rw [if_neg (by omega), Nat.add_sub_cancel, HG.out]))
          have hi0 : (0 : Int) ≤ (m : Int) := by omega
          have hi1 : (m : Int) < (len : Int) := by omega
          have HN := Lib.hid hn
          have HK := Lib.hid (show w.cell? ⟨b, off + (m + 1), none⟩ = some (.string ss[m + 1]) from hc)
          clear HE hn HCL hc
          obtain ⟨s, hs1⟩ : ∃ s, s = ss[m + 1]'(by omega) := ⟨_, rfl⟩
          obtain ⟨p, hp1⟩ : ∃ p, p = ss[m] := ⟨_, rfl⟩
          rw [← hs1] at HK HN HD HG2 qn
          rw [← hp1] at HE2 hcm HG
          clear hs1 hp1
          have hk1 := HK.out
          rcases leS_cases s p with ⟨g1, hg⟩ | ⟨g1, g2, hg⟩ | ⟨g1, g2, hg⟩
          · have HR := Lib.hid (HE2.out.trans (by rw [HD.out, wR_ord p s _ HN.out hg]))
            clear hg
            go_wp2_with fail
            go_quiet (fail)
            go_wp2
            go_ret
            exact ⟨ret_n HR.out.symm, _, World.drewN_drewN _ _ _⟩
          · have HR := Lib.hid (HE2.out.trans (by rw [HD.out, wR_ord p s _ HN.out hg]))
            clear hg
            go_wp2_with fail
            go_quiet (fail)
            go_wp2
            go_ret
            exact ⟨ret_n HR.out.symm, _, World.drewN_drewN _ _ _⟩
          · have HR := Lib.hid (HE2.out.trans (by rw [HD.out, wR_go p s _ HN.out hg]))
            clear hg
            go_wp2_with fail
            go_quiet (fail)
            go_wp2
            go_roundw
            case rel => exact ⟨m + 1 + 1, by omega, by go_num, by rw [HR.out, if_neg (by omega), Nat.add_sub_cancel, HG2.out], _, rfl⟩
            case measure => simp [intOf]; omega
      · have qn : ((ss[k].size : Int) != 32) = true := by simp; omega
        have HR := Lib.hid (HE.out.trans (by rw [HD.out, wR_bad _ ss[k] _ hn]))
        clear hn
        generalize ss[k] = s at hc qn HD
        go_wp2
        go_ret
        exact ⟨ret_n HR.out.symm, q, rfl⟩
    · have HR := Lib.hid (HE.out.trans (by rw [List.drop_of_length_le (by rw [HL.out]; omega)]; rfl : _ = (0 : Int)))
      go_wp2
      go_ret
      exact ⟨ret_n HR.out.symm, q, rfl⟩

/-- what At answers -/
def RetAt (w : World) (ss : List ByteArray) (x : ByteArray) (e : Ending) (w' : World) : Prop := ∃ z : Int, e = .returned (.int .i64 z) ∧ AtIs ss x z ∧ w = w'
set_option maxHeartbeats 800000 in
set_option maxRecDepth 100000 in
theorem refAt_any (a : Option Addr) (len cap : Nat) (ss : List ByteArray) (x : ByteArray) (w : World) (hsl : SlN w a len ss) (hlm : len ≤ 1000000) :
    Calls Try.prog 36 #[.slice a len cap, .string x] w (RetAt w ss x) := by
  have HSL := Lib.hid hsl.2
  have HL := Lib.hid hsl.1
  clear hsl
  go_enter Try.func36, Try.ntmps36
  go_wp2
  go_loop [5] (fun i => ∃ (k : Nat), k ≤ len ∧ i = .int .i64 (k : Int) ∧ inB (ss.take k) x = false) (fun i => len - (intOf i).toNat)
  case atStart => exact ⟨0, Nat.zero_le _, rfl, rfl⟩
  case round =>
    obtain ⟨k, hk, rfl, heq⟩ := hrel
    have HE := Lib.hid heq
    clear heq
    by_cases hlt : k < len
    · obtain ⟨b, off, rfl, hcell⟩ := HSL.out (by omega)
      have hkn : k < ss.length := by rw [HL.out]; exact hlt
      have hc := hcell k hkn
      have HT := Lib.hid (in_take ss x k hkn)
      have HI := Lib.hid (fun (h : ss[k].toList = x.toList) => (Or.inl ⟨k, hkn, rfl, ba_ext h⟩ : AtIs ss x (k : Int)))
      clear hcell
      generalize ss[k] = s at hc HT HI
      cases hq : (s.toList == x.toList) with
      | true =>
        have HR := Lib.hid (HI.out (beq_iff_eq.1 hq))
        go_wp2
        go_ret
        exact ⟨_, rfl, HR.out, rfl⟩
      | false =>
        have HR := Lib.hid (HT.out.trans (by rw [HE.out, hq, Bool.or_false]))
        go_wp2
        go_round
        case rel => exact ⟨k + 1, by omega, by go_num, HR.out⟩
        case measure => simp [intOf]; omega
    · have HR := Lib.hid (show inB ss x = false by rw [← HE.out, List.take_of_length_le (by rw [HL.out]; omega)])
      go_wp2
      go_ret
      exact ⟨-1, rfl, Or.inr ⟨rfl, HR.out⟩, rfl⟩

set_option maxHeartbeats 400000 in
theorem few12_any (a : Option Addr) (len cap : Nat) (ss : List ByteArray) (w : World) (hsl : SlN w a len ss) (hle : len ≤ 100) (hs : ∀ s ∈ ss, s.size ≤ maxLen) :
    Calls Try.prog 26 #[.slice a len cap] w (FewIs w) := by
  have HS := Lib.hid hs
  have HSL := Lib.hid hsl
  have hd : decide ((len : Int) ≤ 100) = true := decide_eq_true (by omega)
  clear hs hsl
  go_enter Try.func26, Try.ntmps26
  go_wp2_with fail
  refine (nbytes_any a len cap ss w HSL.out (by omega) HS.out).mono ?_
  rintro e w' ⟨⟨r, rfl, _⟩, rfl⟩
  go_wp2
  go_ret
  exact ⟨_, rfl, rfl⟩
theorem few12_no (a : Option Addr) (len cap : Nat) (w : World) (hle : ¬ len ≤ 100) (hlm : (len : Int) ≤ 9223372036854775807) :
    Calls Try.prog 26 #[.slice a len cap] w fun e w' => e = .returned (.bool false) ∧ w = w' := by
  have hd : decide ((len : Int) ≤ 100) = false := decide_eq_false (by omega)
  have hd2 : decide (len ≤ 100) = false := decide_eq_false hle
  go_enter Try.func26, Try.ntmps26
  go_wp2
  go_ret
  exact ⟨rfl, rfl⟩

theorem info_u8f : (Try.prog.info? 5).map (fun i => (i.zero, i.size, i.bytes)) = some (some (.int .u8 0), 1, 1) := by kernel_rfl
def zs (n : Nat) : List UInt8 := List.replicate n 0
theorem made_zs (n : Nat) : madeCells (Value.int .u8 0).cells (n * 1) = ((zs n).map fun c => Value.int .u8 (c.toNat : Int)).toArray := by
  unfold zs madeCells Value.cells
  apply Array.ext
  · simp
  · intro j h1 h2; simp [Nat.mod_one]
theorem make_zs (n : Nat) (hn : n ≤ 3000000) (w : World) : (Instr.makeSlice 91 (.int .i64 (n : Int)) (.int .i64 (n : Int))).run Try.prog w = .ok (.slice (some ⟨w.heap.size, 0, none⟩) n n) (w.alloc (.cells ((zs n).map fun c => Value.int .u8 (c.toNat : Int)).toArray 5)) := by
  obtain ⟨i0, hi, hz0, hz1, hz2⟩ := info_parts info_u8f
  have h := run_make (P := Try.prog) w 91 5 i0 (.int .u8 0) Try.underlying91 hi hz0 .i64 .i64 (n : Int) (n : Int) (by omega) (Int.le_refl _) (by rw [hz2]; omega) (by omega)
  rw [h, hz1]
  simp only [Int.toNat_natCast]
  rw [made_zs]
theorem conv_zs (n : Nat) (w : World) (cs : Array Value) (hcs : cs = ((zs n).map fun c => Value.int .u8 (c.toNat : Int)).toArray) :
    (convert 91 9 (.slice (some ⟨w.heap.size, 0, none⟩) n n)).run Try.prog (w.alloc (.cells cs 5)) = .ok (.string ⟨(zs n).toArray⟩) (w.alloc (.cells cs 5)) := by
  have hl : (zs n).length = n := by simp [zs]
  have h := run_convert_bytes_back (P := Try.prog) (w.alloc (.cells cs 5)) 91 9 5 ⟨w.heap.size, 0, none⟩ n (zs n) Try.underlying91 Try.underlying5 Try.underlying9 (fun j hj => by
    rw [Addr.add_lit, Nat.zero_add, cell_of_row _ _ _ _ _ _ (MapKept.heap_alloc w (.cells cs 5)).1, hcs]
    simp [hj])
  rw [hl] at h
  exact h
set_option maxRecDepth 100000 in
set_option maxHeartbeats 400000 in
theorem noughts31_any (w : World) : Calls Try.prog 41 #[.int .i64 31] w fun e w' => e = .returned (.string ⟨(zs 31).toArray⟩) ∧ Below w.heap.size w w' := by
  obtain ⟨cs, hcs⟩ : ∃ cs, cs = ((zs 31).map fun c => Value.int .u8 (c.toNat : Int)).toArray := ⟨_, rfl⟩
  have hmk := make_zs 31 (by omega)
  rw [← hcs] at hmk
  have hmk2 : ∀ W : World, (Instr.makeSlice 91 (.int .i64 31) (.int .i64 31)).run Try.prog W = .ok (.slice (some ⟨W.heap.size, 0, none⟩) 31 31) (W.alloc (.cells cs 5)) := hmk
  have hcv := conv_zs 31 w cs hcs
  clear hcs hmk
  obtain ⟨z, hz⟩ : ∃ z : ByteArray, z = ⟨(zs 31).toArray⟩ := ⟨_, rfl⟩
  rw [← hz] at hcv ⊢
  clear hz
  go_enter Try.func41, Try.ntmps41
  go_wp2
  go_ret
  exact ⟨rfl, (Below.refl _ w).alloc (Nat.le_refl _) _⟩
end Go.Proofs.Ytlkhgjgefhcicaa
