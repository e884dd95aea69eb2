/- Both Plays of layer 37 over this translation. Conditions: refs that may be, at most 100,000; names that are no longer than a text may be. -/
import Derived.Test.YtbjngbacnkmjhaaRFg
namespace Go.Proofs.Ytbjngbacnkmjhaa
open Go.RowKit Vi

abbrev Rc := Int × Int × Int × ByteArray × ByteArray × ByteArray × Int × Int
def rcC (r : Rc) : List Value := [.int .i64 r.1, .int .i64 r.2.1, .int .i64 r.2.2.1, .string r.2.2.2.1, .string r.2.2.2.2.1, .string r.2.2.2.2.2.1, .int .i64 r.2.2.2.2.2.2.1, .int .i64 r.2.2.2.2.2.2.2]
theorem rcC_len (r : Rc) : (rcC r).length = 8 := rfl
theorem rcC_one (r : Rc) : ∀ u ∈ rcC r, u.oneCell' = true := by
  intro u hu
  simp only [rcC, List.mem_cons, List.not_mem_nil, or_false] at hu
  rcases hu with h | h | h | h | h | h | h | h <;> (subst h; rfl)
def playR : List Rf → List Rc → List Rf × Int
  | L, [] => (L, 0)
  | L, r :: rs => if stE L r.2.2.1 r.2.2.2.1 r.2.2.2.2.1 r.2.2.2.2.2.1 = 0 then playR (stV L r.2.2.1 r.2.2.2.1 r.2.2.2.2.1 r.2.2.2.2.2.1) rs else ([], stE L r.2.2.1 r.2.2.2.1 r.2.2.2.2.1 r.2.2.2.2.2.1)
theorem play_at (L : List Rf) (rs : List Rc) (k : Nat) (h : k < rs.length) {q1 q2 kd q3 q4 : Int} {s old now : ByteArray} (hx : rs[k] = (q1, q2, kd, s, old, now, q3, q4)) :
    playR L (rs.drop k) = if stE L kd s old now = 0 then playR (stV L kd s old now) (rs.drop (k + 1)) else ([], stE L kd s old now) := by
  rw [List.drop_eq_getElem_cons h, hx]; rfl
theorem play_ok : ∀ (rs : List Rc) (L : List Rf), OkL L → OkL (playR L rs).1
  | [], _, h => h
  | r :: rs, L, h => by
    unfold playR
    split
    · exact play_ok rs _ (st_ok h)
    · exact OkL.nil
set_option maxRecDepth 100000 in
set_option maxHeartbeats 4000000 in
theorem rfplay_any (A : Option Addr) (n c : Nat) (l : List Rf) (A2 : Option Addr) (n2 c2 : Nat) (rs : List Rc) (w : World) (h : RdX rfC 3 w A n l) (h2 : RdX rcC 8 w A2 n2 rs) (hn2 : n2 ≤ maxLen) (hok : OkL l) (hz : ∀ r ∈ rs, r.2.2.2.1.size ≤ maxLen) :
    Calls Try.prog 65 #[.slice A n c, .slice A2 n2 c2] w (RetRV w (playR l rs).1 (playR l rs).2) := by
  have H := Lib.hid h
  have H2 := Lib.hid h2
  have L2 := Lib.hid h2.1
  have HZ := Lib.hid hz
  have HLn := Lib.hid h.1
  have HOK := Lib.hid hok
  have hn : n ≤ 64 := by rw [← h.1]; exact hok.len
  unfold maxLen at hn2
  have HB1 := Lib.hid (Below.refl w.heap.size w)
  clear h h2 hz hok
  go_enter Try.func65, Try.ntmps65
  go_wp2_with fail
  refine (rfclone_any A n c l w H.out (by omega)).mono ?_
  rintro e w1 ⟨v1, rfl, ho1, hb1⟩
  have HRV := Lib.hid (RV.own ho1)
  have HBS := Lib.hid hb1
  have hv1 := ho1.one
  clear ho1 hb1
  go_wp2_with fail
  go_loopw [6, 14] (fun vv i wr => ∃ (j : Nat) (v : Value) (L : List Rf), v = vv ∧ i = .int .i64 (j : Int) ∧ j ≤ n2 ∧ RV wr v L ∧ OkL L ∧ playR L (rs.drop j) = playR l rs ∧ Below w.heap.size w wr) (fun _ i _ => n2 - (intOf i).toNat)
  case atStart => exact ⟨0, _, l, rfl, rfl, Nat.zero_le _, HRV.out, HOK.out, rfl, HBS.out⟩
  case round =>
    clear HRV HBS HB1
    obtain ⟨j, v, L, rfl, rfl, hj, hrv, hokL, hpl, hb⟩ := hrel
    obtain ⟨A1, c1, rfl, hx1, hc1, hm1⟩ := hrv
    have HRL := Lib.hid hx1
    have HRV := Lib.hid (show RV wr (.slice A1 L.length c1) L from ⟨A1, c1, rfl, hx1, hc1, hm1⟩)
    have HKL := Lib.hid hokL
    have HPL := Lib.hid hpl
    have HB := Lib.hid hb
    have HC1 := Lib.hid hc1
    clear hx1 hokL hpl hb hc1 hm1
    by_cases hlt : j < n2
    · have hd1 : decide ((j : Int) < (n2 : Int)) = true := decide_eq_true (by omega)
      have hl : j < rs.length := by rw [L2.out]; exact hlt
      obtain ⟨b, off, _, rfl, hbb, _⟩ := (H2.out.below HB.out).at hlt
      have HZK := Lib.hid (HZ.out _ (List.getElem_mem hl))
      have HAT := Lib.hid (fun (q1 q2 kd q3 q4 : Int) (s old now : ByteArray) (hx : rs[j] = (q1, q2, kd, s, old, now, q3, q4)) => play_at L rs j hl hx)
      obtain ⟨x, hx⟩ : ∃ x, rs[j] = x := ⟨_, rfl⟩
      have HX := Lib.hid (show rs[j]? = some x by rw [List.getElem?_eq_getElem hl, hx])
      rw [hx] at HZK HAT
      obtain ⟨q1, q2, kd, s, old, now, q3, q4⟩ := x
      have HAT := Lib.hid (HAT.out _ _ _ _ _ _ _ _ rfl)
      have hsz : s.size ≤ maxLen := HZK.out
      have hi0 : (0 : Int) ≤ (j : Int) := by omega
      clear hx
      have HS := Lib.hid (fun (W : World) (q : RdX rfC 3 W A1 L.length L) => rfset_any A1 L.length c1 L kd s old now W q HC1.out HKL.out hsz)
      have HVK := Lib.hid (st_ok (k := kd) (s := s) (old := old) (now := now) HKL.out)
      generalize stV L kd s old now = V at *
      generalize stE L kd s old now = z at *
      by_cases hz0 : z = 0
      · have e0 : (z != 0) = false := by simpa using hz0
        have HR := Lib.hid (show playR V (rs.drop (j + 1)) = playR l rs by rw [← HPL.out, HAT.out, if_pos hz0])
        clear hz0
        have hc101 : wr.cell? ⟨b, off + j * 8, none⟩ = some (.int .i64 q1) := (H2.out.below HB.out).cellAt HX.out hlt 0 _ rfl
        have hc102 : wr.cell? ⟨b, off + j * 8 + 1, none⟩ = some (.int .i64 q2) := (H2.out.below HB.out).cellAt HX.out hlt 1 _ rfl
        have hc103 : wr.cell? ⟨b, off + j * 8 + 2, none⟩ = some (.int .i64 kd) := (H2.out.below HB.out).cellAt HX.out hlt 2 _ rfl
        have hc104 : wr.cell? ⟨b, off + j * 8 + 3, none⟩ = some (.string s) := (H2.out.below HB.out).cellAt HX.out hlt 3 _ rfl
        have hc105 : wr.cell? ⟨b, off + j * 8 + 4, none⟩ = some (.string old) := (H2.out.below HB.out).cellAt HX.out hlt 4 _ rfl
        have hc106 : wr.cell? ⟨b, off + j * 8 + 5, none⟩ = some (.string now) := (H2.out.below HB.out).cellAt HX.out hlt 5 _ rfl
        have hc107 : wr.cell? ⟨b, off + j * 8 + 6, none⟩ = some (.int .i64 q3) := (H2.out.below HB.out).cellAt HX.out hlt 6 _ rfl
        have hc108 : wr.cell? ⟨b, off + j * 8 + 7, none⟩ = some (.int .i64 q4) := (H2.out.below HB.out).cellAt HX.out hlt 7 _ rfl
        have HF109 := Lib.hid (blk_new wr (.cells #[.int .i64 q1, .int .i64 q2, .int .i64 kd, .string s, .string old, .string now, .int .i64 q3, .int .i64 q4] 110 (0, 0)))
        have HB110 := Lib.hid (HB.out.alloc HB.out.size (.cells #[.int .i64 q1, .int .i64 q2, .int .i64 kd, .string s, .string old, .string now, .int .i64 q3, .int .i64 q4] 110 (0, 0)))
        clear HB
        have hc111 : (wr.alloc (.cells #[.int .i64 q1, .int .i64 q2, .int .i64 kd, .string s, .string old, .string now, .int .i64 q3, .int .i64 q4] 110 (0, 0))).cell? ⟨wr.heap.size, 2, none⟩ = some (.int .i64 kd) := by rw [cell_of_row _ _ _ _ _ _ HF109.out]; rfl
        have hc112 : (wr.alloc (.cells #[.int .i64 q1, .int .i64 q2, .int .i64 kd, .string s, .string old, .string now, .int .i64 q3, .int .i64 q4] 110 (0, 0))).cell? ⟨wr.heap.size, 3, none⟩ = some (.string s) := by rw [cell_of_row _ _ _ _ _ _ HF109.out]; rfl
        have hc113 : (wr.alloc (.cells #[.int .i64 q1, .int .i64 q2, .int .i64 kd, .string s, .string old, .string now, .int .i64 q3, .int .i64 q4] 110 (0, 0))).cell? ⟨wr.heap.size, 4, none⟩ = some (.string old) := by rw [cell_of_row _ _ _ _ _ _ HF109.out]; rfl
        have hc114 : (wr.alloc (.cells #[.int .i64 q1, .int .i64 q2, .int .i64 kd, .string s, .string old, .string now, .int .i64 q3, .int .i64 q4] 110 (0, 0))).cell? ⟨wr.heap.size, 5, none⟩ = some (.string now) := by rw [cell_of_row _ _ _ _ _ _ HF109.out]; rfl
        go_wp2_with fail
        refine (HS.out (wr.alloc (.cells #[.int .i64 q1, .int .i64 q2, .int .i64 kd, .string s, .string old, .string now, .int .i64 q3, .int .i64 q4] 110 (0, 0))) (HRL.out.alloc _)).mono ?_
        rintro e w11 ⟨v4, rfl, hr4, hb11⟩
        clear hc101 hc102 hc103 hc104 hc105 hc106 hc107 hc108 hc111 hc112 hc113 hc114
        have HF115 := Lib.hid (blk_below HF109.out hb11)
        have HB116 := Lib.hid (HB110.out.trans (hb11.mono (by have := HB110.out.size; simp at this ⊢ <;> omega)))
        clear hb11 HB110 HF109
        have hv4 := hr4.one
        have HR4 := Lib.hid hr4
        clear hr4
        go_wp2_with fail
        go_roundw
        case rel => exact ⟨j + 1, v4, V, rfl, by go_num, by omega, HR4.out, HVK.out, HR.out, HB116.out⟩
        case measure => simp [intOf] <;> omega
      · have e0 : (z != 0) = true := by simpa using hz0
        have HR := Lib.hid (show playR l rs = ([], z) by rw [← HPL.out, HAT.out, if_neg hz0])
        clear hz0
        have hc101 : wr.cell? ⟨b, off + j * 8, none⟩ = some (.int .i64 q1) := (H2.out.below HB.out).cellAt HX.out hlt 0 _ rfl
        have hc102 : wr.cell? ⟨b, off + j * 8 + 1, none⟩ = some (.int .i64 q2) := (H2.out.below HB.out).cellAt HX.out hlt 1 _ rfl
        have hc103 : wr.cell? ⟨b, off + j * 8 + 2, none⟩ = some (.int .i64 kd) := (H2.out.below HB.out).cellAt HX.out hlt 2 _ rfl
        have hc104 : wr.cell? ⟨b, off + j * 8 + 3, none⟩ = some (.string s) := (H2.out.below HB.out).cellAt HX.out hlt 3 _ rfl
        have hc105 : wr.cell? ⟨b, off + j * 8 + 4, none⟩ = some (.string old) := (H2.out.below HB.out).cellAt HX.out hlt 4 _ rfl
        have hc106 : wr.cell? ⟨b, off + j * 8 + 5, none⟩ = some (.string now) := (H2.out.below HB.out).cellAt HX.out hlt 5 _ rfl
        have hc107 : wr.cell? ⟨b, off + j * 8 + 6, none⟩ = some (.int .i64 q3) := (H2.out.below HB.out).cellAt HX.out hlt 6 _ rfl
        have hc108 : wr.cell? ⟨b, off + j * 8 + 7, none⟩ = some (.int .i64 q4) := (H2.out.below HB.out).cellAt HX.out hlt 7 _ rfl
        have HF109 := Lib.hid (blk_new wr (.cells #[.int .i64 q1, .int .i64 q2, .int .i64 kd, .string s, .string old, .string now, .int .i64 q3, .int .i64 q4] 110 (0, 0)))
        have HB110 := Lib.hid (HB.out.alloc HB.out.size (.cells #[.int .i64 q1, .int .i64 q2, .int .i64 kd, .string s, .string old, .string now, .int .i64 q3, .int .i64 q4] 110 (0, 0)))
        clear HB
        have hc111 : (wr.alloc (.cells #[.int .i64 q1, .int .i64 q2, .int .i64 kd, .string s, .string old, .string now, .int .i64 q3, .int .i64 q4] 110 (0, 0))).cell? ⟨wr.heap.size, 2, none⟩ = some (.int .i64 kd) := by rw [cell_of_row _ _ _ _ _ _ HF109.out]; rfl
        have hc112 : (wr.alloc (.cells #[.int .i64 q1, .int .i64 q2, .int .i64 kd, .string s, .string old, .string now, .int .i64 q3, .int .i64 q4] 110 (0, 0))).cell? ⟨wr.heap.size, 3, none⟩ = some (.string s) := by rw [cell_of_row _ _ _ _ _ _ HF109.out]; rfl
        have hc113 : (wr.alloc (.cells #[.int .i64 q1, .int .i64 q2, .int .i64 kd, .string s, .string old, .string now, .int .i64 q3, .int .i64 q4] 110 (0, 0))).cell? ⟨wr.heap.size, 4, none⟩ = some (.string old) := by rw [cell_of_row _ _ _ _ _ _ HF109.out]; rfl
        have hc114 : (wr.alloc (.cells #[.int .i64 q1, .int .i64 q2, .int .i64 kd, .string s, .string old, .string now, .int .i64 q3, .int .i64 q4] 110 (0, 0))).cell? ⟨wr.heap.size, 5, none⟩ = some (.string now) := by rw [cell_of_row _ _ _ _ _ _ HF109.out]; rfl
        go_wp2_with fail
        refine (HS.out (wr.alloc (.cells #[.int .i64 q1, .int .i64 q2, .int .i64 kd, .string s, .string old, .string now, .int .i64 q3, .int .i64 q4] 110 (0, 0))) (HRL.out.alloc _)).mono ?_
        rintro e w11 ⟨v4, rfl, hr4, hb11⟩
        clear hc101 hc102 hc103 hc104 hc105 hc106 hc107 hc108 hc111 hc112 hc113 hc114
        have HF115 := Lib.hid (blk_below HF109.out hb11)
        have HB116 := Lib.hid (HB110.out.trans (hb11.mono (by have := HB110.out.size; simp at this ⊢ <;> omega)))
        clear hb11 HB110 HF109
        have hv4 := hr4.one
        have HR4 := Lib.hid hr4
        clear hr4
        go_wp2_with fail
        go_ret2
        exact ⟨_, by first | (rw [HR.out]; done) | (rw [HR.out]; rfl), by rw [HR.out]; exact RV.nil _, HB116.out⟩
    · have hd1 : decide ((j : Int) < (n2 : Int)) = false := decide_eq_false (by omega)
      have HR := Lib.hid (show playR l rs = (L, 0) by rw [← HPL.out, List.drop_eq_nil_of_le (by rw [L2.out]; omega)]; rfl)
      go_wp2_with fail
      go_ret2
      exact ⟨_, by first | (rw [HR.out]; done) | (rw [HR.out]; rfl), by rw [HR.out]; exact HRV.out, HB.out⟩
set_option maxRecDepth 100000 in
set_option maxHeartbeats 4000000 in
theorem rfdplay_any (A : Option Addr) (n c : Nat) (l : List Rf) (A2 : Option Addr) (n2 c2 : Nat) (rs : List Rc) (w : World) (h : RdX rfC 3 w A n l) (h2 : RdX rcC 8 w A2 n2 rs) (hnc : n ≤ c) (hcm : c ≤ maxLen) (hn2 : n2 ≤ maxLen) (hok : OkL l) (hz : ∀ r ∈ rs, r.2.2.2.1.size ≤ maxLen) :
    Calls Try.prog 66 #[.slice A n c, .slice A2 n2 c2] w (RetRV w (playR l rs).1 (playR l rs).2) := by
  have H := Lib.hid h
  have H2 := Lib.hid h2
  have L2 := Lib.hid h2.1
  have HZ := Lib.hid hz
  have HLn := Lib.hid h.1
  have HOK := Lib.hid hok
  have hn : n ≤ 64 := by rw [← h.1]; exact hok.len
  unfold maxLen at hn2
  have HB1 := Lib.hid (Below.refl w.heap.size w)
  clear h h2 hz hok
  go_enter Try.func66, Try.ntmps66
  go_wp2_with fail
  have HRV := Lib.hid (show RV w (.slice A n c) l from ⟨A, c, by rw [HLn.out], by rw [HLn.out]; exact H.out, by rw [HLn.out]; exact hnc, hcm⟩)
  have HBS := HB1
  go_loopw [0, 12] (fun vv i wr => ∃ (j : Nat) (v : Value) (L : List Rf), v = vv ∧ i = .int .i64 (j : Int) ∧ j ≤ n2 ∧ RV wr v L ∧ OkL L ∧ playR L (rs.drop j) = playR l rs ∧ Below w.heap.size w wr) (fun _ i _ => n2 - (intOf i).toNat)
  case atStart => exact ⟨0, _, l, rfl, rfl, Nat.zero_le _, HRV.out, HOK.out, rfl, HBS.out⟩
  case round =>
    clear HRV HBS HB1
    obtain ⟨j, v, L, rfl, rfl, hj, hrv, hokL, hpl, hb⟩ := hrel
    obtain ⟨A1, c1, rfl, hx1, hc1, hm1⟩ := hrv
    have HRL := Lib.hid hx1
    have HRV := Lib.hid (show RV wr (.slice A1 L.length c1) L from ⟨A1, c1, rfl, hx1, hc1, hm1⟩)
    have HKL := Lib.hid hokL
    have HPL := Lib.hid hpl
    have HB := Lib.hid hb
    have HC1 := Lib.hid hc1
    clear hx1 hokL hpl hb hc1 hm1
    by_cases hlt : j < n2
    · have hd1 : decide ((j : Int) < (n2 : Int)) = true := decide_eq_true (by omega)
      have hl : j < rs.length := by rw [L2.out]; exact hlt
      obtain ⟨b, off, _, rfl, hbb, _⟩ := (H2.out.below HB.out).at hlt
      have HZK := Lib.hid (HZ.out _ (List.getElem_mem hl))
      have HAT := Lib.hid (fun (q1 q2 kd q3 q4 : Int) (s old now : ByteArray) (hx : rs[j] = (q1, q2, kd, s, old, now, q3, q4)) => play_at L rs j hl hx)
      obtain ⟨x, hx⟩ : ∃ x, rs[j] = x := ⟨_, rfl⟩
      have HX := Lib.hid (show rs[j]? = some x by rw [List.getElem?_eq_getElem hl, hx])
      rw [hx] at HZK HAT
      obtain ⟨q1, q2, kd, s, old, now, q3, q4⟩ := x
      have HAT := Lib.hid (HAT.out _ _ _ _ _ _ _ _ rfl)
      have hsz : s.size ≤ maxLen := HZK.out
      have hi0 : (0 : Int) ≤ (j : Int) := by omega
      clear hx
      have HS := Lib.hid (fun (W : World) (q : RdX rfC 3 W A1 L.length L) => rfdset_any A1 L.length c1 L kd s old now W q (by have := HKL.out.len; omega) hsz)
      have HVK := Lib.hid (st_ok (k := kd) (s := s) (old := old) (now := now) HKL.out)
      generalize stV L kd s old now = V at *
      generalize stE L kd s old now = z at *
      by_cases hz0 : z = 0
      · have e0 : (z != 0) = false := by simpa using hz0
        have HR := Lib.hid (show playR V (rs.drop (j + 1)) = playR l rs by rw [← HPL.out, HAT.out, if_pos hz0])
        clear hz0
        have hc101 : wr.cell? ⟨b, off + j * 8, none⟩ = some (.int .i64 q1) := (H2.out.below HB.out).cellAt HX.out hlt 0 _ rfl
        have hc102 : wr.cell? ⟨b, off + j * 8 + 1, none⟩ = some (.int .i64 q2) := (H2.out.below HB.out).cellAt HX.out hlt 1 _ rfl
        have hc103 : wr.cell? ⟨b, off + j * 8 + 2, none⟩ = some (.int .i64 kd) := (H2.out.below HB.out).cellAt HX.out hlt 2 _ rfl
        have hc104 : wr.cell? ⟨b, off + j * 8 + 3, none⟩ = some (.string s) := (H2.out.below HB.out).cellAt HX.out hlt 3 _ rfl
        have hc105 : wr.cell? ⟨b, off + j * 8 + 4, none⟩ = some (.string old) := (H2.out.below HB.out).cellAt HX.out hlt 4 _ rfl
        have hc106 : wr.cell? ⟨b, off + j * 8 + 5, none⟩ = some (.string now) := (H2.out.below HB.out).cellAt HX.out hlt 5 _ rfl
        have hc107 : wr.cell? ⟨b, off + j * 8 + 6, none⟩ = some (.int .i64 q3) := (H2.out.below HB.out).cellAt HX.out hlt 6 _ rfl
        have hc108 : wr.cell? ⟨b, off + j * 8 + 7, none⟩ = some (.int .i64 q4) := (H2.out.below HB.out).cellAt HX.out hlt 7 _ rfl
        have HF109 := Lib.hid (blk_new wr (.cells #[.int .i64 q1, .int .i64 q2, .int .i64 kd, .string s, .string old, .string now, .int .i64 q3, .int .i64 q4] 110 (0, 0)))
        have HB110 := Lib.hid (HB.out.alloc HB.out.size (.cells #[.int .i64 q1, .int .i64 q2, .int .i64 kd, .string s, .string old, .string now, .int .i64 q3, .int .i64 q4] 110 (0, 0)))
        clear HB
        have hc111 : (wr.alloc (.cells #[.int .i64 q1, .int .i64 q2, .int .i64 kd, .string s, .string old, .string now, .int .i64 q3, .int .i64 q4] 110 (0, 0))).cell? ⟨wr.heap.size, 2, none⟩ = some (.int .i64 kd) := by rw [cell_of_row _ _ _ _ _ _ HF109.out]; rfl
        have hc112 : (wr.alloc (.cells #[.int .i64 q1, .int .i64 q2, .int .i64 kd, .string s, .string old, .string now, .int .i64 q3, .int .i64 q4] 110 (0, 0))).cell? ⟨wr.heap.size, 3, none⟩ = some (.string s) := by rw [cell_of_row _ _ _ _ _ _ HF109.out]; rfl
        have hc113 : (wr.alloc (.cells #[.int .i64 q1, .int .i64 q2, .int .i64 kd, .string s, .string old, .string now, .int .i64 q3, .int .i64 q4] 110 (0, 0))).cell? ⟨wr.heap.size, 4, none⟩ = some (.string old) := by rw [cell_of_row _ _ _ _ _ _ HF109.out]; rfl
        have hc114 : (wr.alloc (.cells #[.int .i64 q1, .int .i64 q2, .int .i64 kd, .string s, .string old, .string now, .int .i64 q3, .int .i64 q4] 110 (0, 0))).cell? ⟨wr.heap.size, 5, none⟩ = some (.string now) := by rw [cell_of_row _ _ _ _ _ _ HF109.out]; rfl
        go_wp2_with fail
        refine (HS.out (wr.alloc (.cells #[.int .i64 q1, .int .i64 q2, .int .i64 kd, .string s, .string old, .string now, .int .i64 q3, .int .i64 q4] 110 (0, 0))) (HRL.out.alloc _)).mono ?_
        rintro e w11 ⟨v4, rfl, hr4, hb11⟩
        clear hc101 hc102 hc103 hc104 hc105 hc106 hc107 hc108 hc111 hc112 hc113 hc114
        have HF115 := Lib.hid (blk_below HF109.out hb11)
        have HB116 := Lib.hid (HB110.out.trans (hb11.mono (by have := HB110.out.size; simp at this ⊢ <;> omega)))
        clear hb11 HB110 HF109
        have hv4 := hr4.one
        have HR4 := Lib.hid hr4
        clear hr4
        go_wp2_with fail
        go_roundw
        case rel => exact ⟨j + 1, v4, V, rfl, by go_num, by omega, HR4.out, HVK.out, HR.out, HB116.out⟩
        case measure => simp [intOf] <;> omega
      · have e0 : (z != 0) = true := by simpa using hz0
        have HR := Lib.hid (show playR l rs = ([], z) by rw [← HPL.out, HAT.out, if_neg hz0])
        clear hz0
        have hc101 : wr.cell? ⟨b, off + j * 8, none⟩ = some (.int .i64 q1) := (H2.out.below HB.out).cellAt HX.out hlt 0 _ rfl
        have hc102 : wr.cell? ⟨b, off + j * 8 + 1, none⟩ = some (.int .i64 q2) := (H2.out.below HB.out).cellAt HX.out hlt 1 _ rfl
        have hc103 : wr.cell? ⟨b, off + j * 8 + 2, none⟩ = some (.int .i64 kd) := (H2.out.below HB.out).cellAt HX.out hlt 2 _ rfl
        have hc104 : wr.cell? ⟨b, off + j * 8 + 3, none⟩ = some (.string s) := (H2.out.below HB.out).cellAt HX.out hlt 3 _ rfl
        have hc105 : wr.cell? ⟨b, off + j * 8 + 4, none⟩ = some (.string old) := (H2.out.below HB.out).cellAt HX.out hlt 4 _ rfl
        have hc106 : wr.cell? ⟨b, off + j * 8 + 5, none⟩ = some (.string now) := (H2.out.below HB.out).cellAt HX.out hlt 5 _ rfl
        have hc107 : wr.cell? ⟨b, off + j * 8 + 6, none⟩ = some (.int .i64 q3) := (H2.out.below HB.out).cellAt HX.out hlt 6 _ rfl
        have hc108 : wr.cell? ⟨b, off + j * 8 + 7, none⟩ = some (.int .i64 q4) := (H2.out.below HB.out).cellAt HX.out hlt 7 _ rfl
        have HF109 := Lib.hid (blk_new wr (.cells #[.int .i64 q1, .int .i64 q2, .int .i64 kd, .string s, .string old, .string now, .int .i64 q3, .int .i64 q4] 110 (0, 0)))
        have HB110 := Lib.hid (HB.out.alloc HB.out.size (.cells #[.int .i64 q1, .int .i64 q2, .int .i64 kd, .string s, .string old, .string now, .int .i64 q3, .int .i64 q4] 110 (0, 0)))
        clear HB
        have hc111 : (wr.alloc (.cells #[.int .i64 q1, .int .i64 q2, .int .i64 kd, .string s, .string old, .string now, .int .i64 q3, .int .i64 q4] 110 (0, 0))).cell? ⟨wr.heap.size, 2, none⟩ = some (.int .i64 kd) := by rw [cell_of_row _ _ _ _ _ _ HF109.out]; rfl
        have hc112 : (wr.alloc (.cells #[.int .i64 q1, .int .i64 q2, .int .i64 kd, .string s, .string old, .string now, .int .i64 q3, .int .i64 q4] 110 (0, 0))).cell? ⟨wr.heap.size, 3, none⟩ = some (.string s) := by rw [cell_of_row _ _ _ _ _ _ HF109.out]; rfl
        have hc113 : (wr.alloc (.cells #[.int .i64 q1, .int .i64 q2, .int .i64 kd, .string s, .string old, .string now, .int .i64 q3, .int .i64 q4] 110 (0, 0))).cell? ⟨wr.heap.size, 4, none⟩ = some (.string old) := by rw [cell_of_row _ _ _ _ _ _ HF109.out]; rfl
        have hc114 : (wr.alloc (.cells #[.int .i64 q1, .int .i64 q2, .int .i64 kd, .string s, .string old, .string now, .int .i64 q3, .int .i64 q4] 110 (0, 0))).cell? ⟨wr.heap.size, 5, none⟩ = some (.string now) := by rw [cell_of_row _ _ _ _ _ _ HF109.out]; rfl
        go_wp2_with fail
        refine (HS.out (wr.alloc (.cells #[.int .i64 q1, .int .i64 q2, .int .i64 kd, .string s, .string old, .string now, .int .i64 q3, .int .i64 q4] 110 (0, 0))) (HRL.out.alloc _)).mono ?_
        rintro e w11 ⟨v4, rfl, hr4, hb11⟩
        clear hc101 hc102 hc103 hc104 hc105 hc106 hc107 hc108 hc111 hc112 hc113 hc114
        have HF115 := Lib.hid (blk_below HF109.out hb11)
        have HB116 := Lib.hid (HB110.out.trans (hb11.mono (by have := HB110.out.size; simp at this ⊢ <;> omega)))
        clear hb11 HB110 HF109
        have hv4 := hr4.one
        have HR4 := Lib.hid hr4
        clear hr4
        go_wp2_with fail
        go_ret2
        exact ⟨_, by first | (rw [HR.out]; done) | (rw [HR.out]; rfl), by rw [HR.out]; exact RV.nil _, HB116.out⟩
    · have hd1 : decide ((j : Int) < (n2 : Int)) = false := decide_eq_false (by omega)
      have HR := Lib.hid (show playR l rs = (L, 0) by rw [← HPL.out, List.drop_eq_nil_of_le (by rw [L2.out]; omega)]; rfl)
      go_wp2_with fail
      go_ret2
      exact ⟨_, by first | (rw [HR.out]; done) | (rw [HR.out]; rfl), by rw [HR.out]; exact HRV.out, HB.out⟩
end Go.Proofs.Ytbjngbacnkmjhaa
