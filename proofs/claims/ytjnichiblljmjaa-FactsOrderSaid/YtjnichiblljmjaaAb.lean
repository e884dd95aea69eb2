/- elem.CheckProps, checkParts, CheckNode, CheckEdge over this translation. Conditions: texts that are no longer than a text may be, slices of at most 2 to the 62nd. -/
import Derived.Test.YtjnichiblljmjaaAa
namespace Go.Proofs.Ytjnichiblljmjaa
open Go.RowKit Vi

set_option maxRecDepth 100000 in
set_option maxHeartbeats 2000000 in
theorem cprops_any (A : Option Addr) (n c : Nat) (ps : List Pr) (w : World) (h : RdX prC 4 w A n ps) (hn : (n : Int) ≤ 9223372036854775807) (ht : ∀ p ∈ ps, p.1.size ≤ maxLen) :
    Calls Try.prog 93 #[.slice A n c] w fun e w' => e = .returned (.int .i64 (prW ps)) ∧ Below w.heap.size w w' := by
  have H := Lib.hid h
  have L := Lib.hid h.1
  have HT := Lib.hid ht
  clear h ht
  by_cases h8 : 8 < n
  · have d1 : decide ((8 : Int) < (n : Int)) = true := decide_eq_true (by omega)
    have HV := Lib.hid (show (5 : Int) = prW ps by unfold prW; rw [if_pos (by rw [L.out]; exact h8)])
    go_enter Try.func93, Try.ntmps93
    go_wp2_with fail
    go_ret
    exact ⟨retI HV.out, Below.refl _ _⟩
  · have d1 : decide ((8 : Int) < (n : Int)) = false := decide_eq_false (by omega)
    have HV := Lib.hid (show prE ⟨#[]⟩ ps = prW ps by unfold prW; rw [if_neg (by rw [L.out]; exact h8)])
    go_enter Try.func93, Try.ntmps93
    go_wp2_with fail
    go_loopw [3, 11] (fun s i wr => ∃ (k : Nat) (p : ByteArray), s = .string p ∧ i = .int .i64 (k : Int) ∧ k ≤ n ∧ prE p (ps.drop k) = prE ⟨#[]⟩ ps ∧ Below w.heap.size w wr) (fun _ i _ => n - (intOf i).toNat)
    case atStart => exact ⟨0, _, rfl, rfl, Nat.zero_le _, rfl, Below.refl _ _⟩
    case round =>
      obtain ⟨k, p, rfl, rfl, hk, hs, hb⟩ := hrel
      have HS := Lib.hid hs
      have HB := Lib.hid hb
      clear hs hb
      by_cases hlt : k < n
      · have hd1 : decide ((k : Int) < (n : Int)) = true := decide_eq_true (by omega)
        obtain ⟨b, off, hl, rfl, hbb, _⟩ := (H.out.below HB.out).at hlt
        have HA := Lib.hid (prE_at p ps k hl)
        have hsz := HT.out _ (List.getElem_mem hl)
        obtain ⟨x, hx⟩ : ∃ x, ps[k] = x := ⟨_, rfl⟩
        have HX := Lib.hid (show ps[k]? = some x by rw [List.getElem?_eq_getElem hl, hx])
        rw [hx] at HA hsz
        obtain ⟨s, a, d, t⟩ := x
        have hsz : s.size ≤ maxLen := hsz
        have hi0 : (0 : Int) ≤ (k : Int) := by omega
        have HST := Lib.hid (fun W : World => stand_any s a d t W hsz)
        clear hx hsz
        cases ho : okP (s, a, d, t) with
        | false =>
          rw [ho] at HST
          have HR := Lib.hid (show (2 : Int) = prW ps by rw [← HV.out, ← HS.out, HA.out, if_pos ho])
          clear ho
          have hc101 : wr.cell? ⟨b, off + k * 4, none⟩ = some (.string s) := (H.out.below HB.out).cellAt HX.out hlt 0 _ rfl
          have hc102 : wr.cell? ⟨b, off + k * 4 + 1, none⟩ = some (.int .i64 a) := (H.out.below HB.out).cellAt HX.out hlt 1 _ rfl
          have hc103 : wr.cell? ⟨b, off + k * 4 + 2, none⟩ = some (.int .i64 d) := (H.out.below HB.out).cellAt HX.out hlt 2 _ rfl
          have hc104 : wr.cell? ⟨b, off + k * 4 + 3, none⟩ = some (.string t) := (H.out.below HB.out).cellAt HX.out hlt 3 _ rfl
          have HF105 := Lib.hid (blk_new wr (.cells #[.string s, .int .i64 a, .int .i64 d, .string t] 139 (0, 0)))
          have HB106 := Lib.hid (HB.out.alloc HB.out.size (.cells #[.string s, .int .i64 a, .int .i64 d, .string t] 139 (0, 0)))
          clear HB
          have hc107 : (wr.alloc (.cells #[.string s, .int .i64 a, .int .i64 d, .string t] 139 (0, 0))).cell? ⟨wr.heap.size, 0, none⟩ = some (.string s) := by rw [cell_of_row _ _ _ _ _ _ HF105.out]; rfl
          have hc108 : (wr.alloc (.cells #[.string s, .int .i64 a, .int .i64 d, .string t] 139 (0, 0))).cell? ⟨wr.heap.size, 1, none⟩ = some (.int .i64 a) := by rw [cell_of_row _ _ _ _ _ _ HF105.out]; rfl
          have hc109 : (wr.alloc (.cells #[.string s, .int .i64 a, .int .i64 d, .string t] 139 (0, 0))).cell? ⟨wr.heap.size, 2, none⟩ = some (.int .i64 d) := by rw [cell_of_row _ _ _ _ _ _ HF105.out]; rfl
          have hc110 : (wr.alloc (.cells #[.string s, .int .i64 a, .int .i64 d, .string t] 139 (0, 0))).cell? ⟨wr.heap.size, 3, none⟩ = some (.string t) := by rw [cell_of_row _ _ _ _ _ _ HF105.out]; rfl
          go_wp2_with fail
          clear hc101 hc102 hc103 hc104 hc107 hc108 hc109 hc110
          refine (HST.out (wr.alloc (.cells #[.string s, .int .i64 a, .int .i64 d, .string t] 139 (0, 0)))).mono ?_
          rintro e w11 ⟨rfl, hb11⟩
          have HF111 := Lib.hid (blk_below HF105.out hb11)
          have HB112 := Lib.hid (HB106.out.trans (hb11.mono HB106.out.size))
          clear hb11 HB106 HF105
          go_wp2_with fail
          go_ret
          exact ⟨retI HR.out, HB112.out⟩
        | true =>
          rw [ho] at HST
          have HNB := Lib.hid (show ¬ okP (s, a, d, t) = false by rw [ho]; simp)
          clear ho
          rcases leS_cases s p with ⟨g1, hg⟩ | ⟨g1, g2, hg⟩ | ⟨g1, g2, hg⟩
          · have HR := Lib.hid (show (4 : Int) = prW ps by rw [← HV.out, ← HS.out, HA.out, if_neg HNB.out, if_pos hg])
            clear hg
            have hc101 : wr.cell? ⟨b, off + k * 4, none⟩ = some (.string s) := (H.out.below HB.out).cellAt HX.out hlt 0 _ rfl
            have hc102 : wr.cell? ⟨b, off + k * 4 + 1, none⟩ = some (.int .i64 a) := (H.out.below HB.out).cellAt HX.out hlt 1 _ rfl
            have hc103 : wr.cell? ⟨b, off + k * 4 + 2, none⟩ = some (.int .i64 d) := (H.out.below HB.out).cellAt HX.out hlt 2 _ rfl
            have hc104 : wr.cell? ⟨b, off + k * 4 + 3, none⟩ = some (.string t) := (H.out.below HB.out).cellAt HX.out hlt 3 _ rfl
            have HF105 := Lib.hid (blk_new wr (.cells #[.string s, .int .i64 a, .int .i64 d, .string t] 139 (0, 0)))
            have HB106 := Lib.hid (HB.out.alloc HB.out.size (.cells #[.string s, .int .i64 a, .int .i64 d, .string t] 139 (0, 0)))
            clear HB
            have hc107 : (wr.alloc (.cells #[.string s, .int .i64 a, .int .i64 d, .string t] 139 (0, 0))).cell? ⟨wr.heap.size, 0, none⟩ = some (.string s) := by rw [cell_of_row _ _ _ _ _ _ HF105.out]; rfl
            have hc108 : (wr.alloc (.cells #[.string s, .int .i64 a, .int .i64 d, .string t] 139 (0, 0))).cell? ⟨wr.heap.size, 1, none⟩ = some (.int .i64 a) := by rw [cell_of_row _ _ _ _ _ _ HF105.out]; rfl
            have hc109 : (wr.alloc (.cells #[.string s, .int .i64 a, .int .i64 d, .string t] 139 (0, 0))).cell? ⟨wr.heap.size, 2, none⟩ = some (.int .i64 d) := by rw [cell_of_row _ _ _ _ _ _ HF105.out]; rfl
            have hc110 : (wr.alloc (.cells #[.string s, .int .i64 a, .int .i64 d, .string t] 139 (0, 0))).cell? ⟨wr.heap.size, 3, none⟩ = some (.string t) := by rw [cell_of_row _ _ _ _ _ _ HF105.out]; rfl
            go_wp2_with fail
            clear hc101 hc102 hc103 hc104 hc107 hc108 hc109 hc110
            refine (HST.out (wr.alloc (.cells #[.string s, .int .i64 a, .int .i64 d, .string t] 139 (0, 0)))).mono ?_
            rintro e w11 ⟨rfl, hb11⟩
            have HF111 := Lib.hid (blk_below HF105.out hb11)
            have HB112 := Lib.hid (HB106.out.trans (hb11.mono HB106.out.size))
            clear hb11 HB106 HF105
            have hc113 : w11.cell? ⟨wr.heap.size, 0, none⟩ = some (.string s) := by rw [cell_of_row _ _ _ _ _ _ HF111.out]; rfl
            have hc114 : w11.cell? ⟨wr.heap.size, 1, none⟩ = some (.int .i64 a) := by rw [cell_of_row _ _ _ _ _ _ HF111.out]; rfl
            have hc115 : w11.cell? ⟨wr.heap.size, 2, none⟩ = some (.int .i64 d) := by rw [cell_of_row _ _ _ _ _ _ HF111.out]; rfl
            have hc116 : w11.cell? ⟨wr.heap.size, 3, none⟩ = some (.string t) := by rw [cell_of_row _ _ _ _ _ _ HF111.out]; rfl
            go_wp2_with fail
            go_ret
            exact ⟨retI HR.out, HB112.out⟩
          · have HR := Lib.hid (show (4 : Int) = prW ps by rw [← HV.out, ← HS.out, HA.out, if_neg HNB.out, if_pos hg])
            clear hg
            have hc101 : wr.cell? ⟨b, off + k * 4, none⟩ = some (.string s) := (H.out.below HB.out).cellAt HX.out hlt 0 _ rfl
            have hc102 : wr.cell? ⟨b, off + k * 4 + 1, none⟩ = some (.int .i64 a) := (H.out.below HB.out).cellAt HX.out hlt 1 _ rfl
            have hc103 : wr.cell? ⟨b, off + k * 4 + 2, none⟩ = some (.int .i64 d) := (H.out.below HB.out).cellAt HX.out hlt 2 _ rfl
            have hc104 : wr.cell? ⟨b, off + k * 4 + 3, none⟩ = some (.string t) := (H.out.below HB.out).cellAt HX.out hlt 3 _ rfl
            have HF105 := Lib.hid (blk_new wr (.cells #[.string s, .int .i64 a, .int .i64 d, .string t] 139 (0, 0)))
            have HB106 := Lib.hid (HB.out.alloc HB.out.size (.cells #[.string s, .int .i64 a, .int .i64 d, .string t] 139 (0, 0)))
            clear HB
            have hc107 : (wr.alloc (.cells #[.string s, .int .i64 a, .int .i64 d, .string t] 139 (0, 0))).cell? ⟨wr.heap.size, 0, none⟩ = some (.string s) := by rw [cell_of_row _ _ _ _ _ _ HF105.out]; rfl
            have hc108 : (wr.alloc (.cells #[.string s, .int .i64 a, .int .i64 d, .string t] 139 (0, 0))).cell? ⟨wr.heap.size, 1, none⟩ = some (.int .i64 a) := by rw [cell_of_row _ _ _ _ _ _ HF105.out]; rfl
            have hc109 : (wr.alloc (.cells #[.string s, .int .i64 a, .int .i64 d, .string t] 139 (0, 0))).cell? ⟨wr.heap.size, 2, none⟩ = some (.int .i64 d) := by rw [cell_of_row _ _ _ _ _ _ HF105.out]; rfl
            have hc110 : (wr.alloc (.cells #[.string s, .int .i64 a, .int .i64 d, .string t] 139 (0, 0))).cell? ⟨wr.heap.size, 3, none⟩ = some (.string t) := by rw [cell_of_row _ _ _ _ _ _ HF105.out]; rfl
            go_wp2_with fail
            clear hc101 hc102 hc103 hc104 hc107 hc108 hc109 hc110
            refine (HST.out (wr.alloc (.cells #[.string s, .int .i64 a, .int .i64 d, .string t] 139 (0, 0)))).mono ?_
            rintro e w11 ⟨rfl, hb11⟩
            have HF111 := Lib.hid (blk_below HF105.out hb11)
            have HB112 := Lib.hid (HB106.out.trans (hb11.mono HB106.out.size))
            clear hb11 HB106 HF105
            have hc113 : w11.cell? ⟨wr.heap.size, 0, none⟩ = some (.string s) := by rw [cell_of_row _ _ _ _ _ _ HF111.out]; rfl
            have hc114 : w11.cell? ⟨wr.heap.size, 1, none⟩ = some (.int .i64 a) := by rw [cell_of_row _ _ _ _ _ _ HF111.out]; rfl
            have hc115 : w11.cell? ⟨wr.heap.size, 2, none⟩ = some (.int .i64 d) := by rw [cell_of_row _ _ _ _ _ _ HF111.out]; rfl
            have hc116 : w11.cell? ⟨wr.heap.size, 3, none⟩ = some (.string t) := by rw [cell_of_row _ _ _ _ _ _ HF111.out]; rfl
            go_wp2_with fail
            go_ret
            exact ⟨retI HR.out, HB112.out⟩
          · have HR := Lib.hid (show prE s (ps.drop (k + 1)) = prE ⟨#[]⟩ ps by rw [← HS.out, HA.out, if_neg HNB.out, if_neg (by rw [show leS (s, a, d, t).1 p = false from hg]; simp)])
            clear hg
            have hc101 : wr.cell? ⟨b, off + k * 4, none⟩ = some (.string s) := (H.out.below HB.out).cellAt HX.out hlt 0 _ rfl
            have hc102 : wr.cell? ⟨b, off + k * 4 + 1, none⟩ = some (.int .i64 a) := (H.out.below HB.out).cellAt HX.out hlt 1 _ rfl
            have hc103 : wr.cell? ⟨b, off + k * 4 + 2, none⟩ = some (.int .i64 d) := (H.out.below HB.out).cellAt HX.out hlt 2 _ rfl
            have hc104 : wr.cell? ⟨b, off + k * 4 + 3, none⟩ = some (.string t) := (H.out.below HB.out).cellAt HX.out hlt 3 _ rfl
            have HF105 := Lib.hid (blk_new wr (.cells #[.string s, .int .i64 a, .int .i64 d, .string t] 139 (0, 0)))
            have HB106 := Lib.hid (HB.out.alloc HB.out.size (.cells #[.string s, .int .i64 a, .int .i64 d, .string t] 139 (0, 0)))
            clear HB
            have hc107 : (wr.alloc (.cells #[.string s, .int .i64 a, .int .i64 d, .string t] 139 (0, 0))).cell? ⟨wr.heap.size, 0, none⟩ = some (.string s) := by rw [cell_of_row _ _ _ _ _ _ HF105.out]; rfl
            have hc108 : (wr.alloc (.cells #[.string s, .int .i64 a, .int .i64 d, .string t] 139 (0, 0))).cell? ⟨wr.heap.size, 1, none⟩ = some (.int .i64 a) := by rw [cell_of_row _ _ _ _ _ _ HF105.out]; rfl
            have hc109 : (wr.alloc (.cells #[.string s, .int .i64 a, .int .i64 d, .string t] 139 (0, 0))).cell? ⟨wr.heap.size, 2, none⟩ = some (.int .i64 d) := by rw [cell_of_row _ _ _ _ _ _ HF105.out]; rfl
            have hc110 : (wr.alloc (.cells #[.string s, .int .i64 a, .int .i64 d, .string t] 139 (0, 0))).cell? ⟨wr.heap.size, 3, none⟩ = some (.string t) := by rw [cell_of_row _ _ _ _ _ _ HF105.out]; rfl
            go_wp2_with fail
            clear hc101 hc102 hc103 hc104 hc107 hc108 hc109 hc110
            refine (HST.out (wr.alloc (.cells #[.string s, .int .i64 a, .int .i64 d, .string t] 139 (0, 0)))).mono ?_
            rintro e w11 ⟨rfl, hb11⟩
            have HF111 := Lib.hid (blk_below HF105.out hb11)
            have HB112 := Lib.hid (HB106.out.trans (hb11.mono HB106.out.size))
            clear hb11 HB106 HF105
            have hc113 : w11.cell? ⟨wr.heap.size, 0, none⟩ = some (.string s) := by rw [cell_of_row _ _ _ _ _ _ HF111.out]; rfl
            have hc114 : w11.cell? ⟨wr.heap.size, 1, none⟩ = some (.int .i64 a) := by rw [cell_of_row _ _ _ _ _ _ HF111.out]; rfl
            have hc115 : w11.cell? ⟨wr.heap.size, 2, none⟩ = some (.int .i64 d) := by rw [cell_of_row _ _ _ _ _ _ HF111.out]; rfl
            have hc116 : w11.cell? ⟨wr.heap.size, 3, none⟩ = some (.string t) := by rw [cell_of_row _ _ _ _ _ _ HF111.out]; rfl
            go_wp2_with fail
            go_roundw
            case rel => exact ⟨k + 1, s, rfl, by go_num, by omega, HR.out, HB112.out⟩
            case measure => simp [intOf] <;> omega
      · have hd1 : decide ((k : Int) < (n : Int)) = false := decide_eq_false (by omega)
        have HR := Lib.hid (show (0 : Int) = prW ps by rw [← HV.out, ← HS.out, prE_end p ps k (by rw [L.out]; omega)])
        go_wp2_with fail
        go_ret
        exact ⟨retI HR.out, HB.out⟩
/-- why labels and properties may not be -/
def rsW (ss : List ByteArray) (ps : List Pr) : Int := if 8 < ss.length then 5 else if rowE ⟨#[]⟩ ss ≠ 0 then rowE ⟨#[]⟩ ss else prW ps
theorem or2 (a b : Int) : orL [a, b] = if a ≠ 0 then a else b := by
  show (if a ≠ 0 then a else if b ≠ 0 then b else 0) = _
  split
  · rfl
  · split <;> omega
/-- labels and properties that came in -/
structure LP (w : World) (A : Option Addr) (n : Nat) (ss : List ByteArray) (A2 : Option Addr) (n2 : Nat) (ps : List Pr) : Prop where
  l : SlN w A n ss
  p : RdX prC 4 w A2 n2 ps
theorem LP.below {w w' : World} {A A2 : Option Addr} {n n2 : Nat} {ss : List ByteArray} {ps : List Pr} (h : LP w A n ss A2 n2 ps) (hb : Below w.heap.size w w') : LP w' A n ss A2 n2 ps := ⟨h.l.later hb, h.p.below hb⟩
/-- texts and numbers that are ones -/
structure LOk (n : Nat) (ss : List ByteArray) (n2 : Nat) (ps : List Pr) : Prop where
  n : n ≤ maxLen
  n2 : n2 ≤ maxLen
  s : ∀ s ∈ ss, s.size ≤ maxLen
  p : ∀ p ∈ ps, p.1.size ≤ maxLen
set_option maxRecDepth 100000 in
set_option maxHeartbeats 2000000 in
theorem cparts_any (A A2 : Option Addr) (n c n2 c2 : Nat) (ss : List ByteArray) (ps : List Pr) (w : World) (h : LP w A n ss A2 n2 ps) (k : LOk n ss n2 ps) :
    Calls Try.prog 165 #[.slice A n c, .slice A2 n2 c2] w fun e w' => e = .returned (.int .i64 (rsW ss ps)) ∧ Below w.heap.size w w' := by
  have H := Lib.hid h
  have L := Lib.hid h.l.1
  have hm := k.n
  have hm2 := k.n2
  unfold maxLen at hm hm2
  have HRW := Lib.hid (fun (W : World) (g : SlN W A n ss) => nrow_any A n c ss W g k.n k.s)
  have HPW := Lib.hid (fun (W : World) (g : RdX prC 4 W A2 n2 ps) => cprops_any A2 n2 c2 ps W g (by omega) k.p)
  clear h k
  by_cases h8 : 8 < n
  · have d1 : decide ((8 : Int) < (n : Int)) = true := decide_eq_true (by omega)
    have HV := Lib.hid (show (5 : Int) = rsW ss ps by unfold rsW; rw [if_pos (by rw [L.out]; exact h8)])
    go_enter Try.func165, Try.ntmps165
    go_wp2_with fail
    go_ret
    exact ⟨retI HV.out, Below.refl _ _⟩
  · have d1 : decide ((8 : Int) < (n : Int)) = false := decide_eq_false (by omega)
    obtain ⟨x, hx⟩ : ∃ x, x = rowE ⟨#[]⟩ ss := ⟨_, rfl⟩
    obtain ⟨y, hy⟩ : ∃ y, y = prW ps := ⟨_, rfl⟩
    have HV := Lib.hid (show orL [x, y] = rsW ss ps by rw [or2, hx, hy]; unfold rsW; rw [if_neg (show ¬ 8 < ss.length by rw [L.out]; exact h8)])
    rw [← hx] at HRW
    rw [← hy] at HPW
    clear hx hy h8
    have HB1 := Lib.hid (Below.refl w.heap.size w)
    go_enter Try.func165, Try.ntmps165
    go_wp2_with fail
    refine (HRW.out w (H.out.l.later HB1.out)).mono ?_
    rintro e w' ⟨rfl, rfl⟩
    go_wp2_with fail
    refine (HPW.out w (H.out.p.below HB1.out)).mono ?_
    rintro e w1 ⟨rfl, hb1⟩
    have HB2 := Lib.hid (HB1.out.trans (hb1.mono HB1.out.size))
    clear hb1 HB1 
    have HF3 := Lib.hid (blk_new w1 (.cells #[.int .i64 x, .int .i64 y] 23 (0, 0)))
    have HB4 := Lib.hid (HB2.out.alloc HB2.out.size (.cells #[.int .i64 x, .int .i64 y] 23 (0, 0)))
    clear HB2
    go_wp2_with fail
    refine (orE_any _ 0 2 2 [x, y] _ (rd_blk (f := ieC) (s := 1) (fun _ => rfl) [x, y] HF3.out rfl) (by omega)).mono ?_
    rintro e w' ⟨rfl, rfl⟩
    go_wp2_with fail
    go_ret
    exact ⟨retI HV.out, HB4.out⟩
/-- why a node may not be -/
def ndW (i : ByteArray) (ss : List ByteArray) (ps : List Pr) : Int := if nm i = false then 2 else rsW ss ps
def edW (i f g : ByteArray) (ss : List ByteArray) (ps : List Pr) : Int := if nm i = false then 2 else if nm f = false then 2 else if nm g = false then 2 else rsW ss ps
theorem or_nck (i : ByteArray) (l : List Int) : orL (nck i :: l) = if nm i = false then 2 else orL l := by
  show (if nck i ≠ 0 then nck i else orL l) = _
  cases h : nm i with
  | false => rw [nck_no i h]; rfl
  | true => rw [nck_yes i h]; rfl
theorem or1 (a : Int) : orL [a] = a := by
  show (if a ≠ 0 then a else 0) = a
  split <;> omega
set_option maxRecDepth 100000 in
set_option maxHeartbeats 2000000 in
theorem cnode_any (i : ByteArray) (A A2 : Option Addr) (n c n2 c2 : Nat) (ss : List ByteArray) (ps : List Pr) (w : World) (h : LP w A n ss A2 n2 ps) (k : LOk n ss n2 ps) (hi : i.size ≤ maxLen) :
    Calls Try.prog 130 #[.agg #[.string i, .slice A n c, .slice A2 n2 c2]] w fun e w' => e = .returned (.int .i64 (ndW i ss ps)) ∧ Below w.heap.size w w' := by
  have H := Lib.hid h
  have HPT := Lib.hid (fun (W : World) (g : LP W A n ss A2 n2 ps) => cparts_any A A2 n c n2 c2 ss ps W g k)
  have HNK := Lib.hid (fun W : World => ncheck_any i W hi)
  clear h k
  obtain ⟨x, hx⟩ : ∃ x, x = nck i := ⟨_, rfl⟩
  obtain ⟨y, hy⟩ : ∃ y, y = rsW ss ps := ⟨_, rfl⟩
  have HV := Lib.hid (show orL [x, y] = ndW i ss ps by rw [hx, or_nck, or1, hy]; rfl)
  rw [← hx] at HNK
  rw [← hy] at HPT
  clear hx hy
  have HB1 := Lib.hid (Below.refl w.heap.size w)
  go_enter Try.func130, Try.ntmps130
  have HF2 := Lib.hid (blk_new w (.cells #[.string i, .slice A n c, .slice A2 n2 c2] 45 (0, 0)))
  have HB3 := Lib.hid (HB1.out.alloc HB1.out.size (.cells #[.string i, .slice A n c, .slice A2 n2 c2] 45 (0, 0)))
  clear HB1
  have hc4 : (w.alloc (.cells #[.string i, .slice A n c, .slice A2 n2 c2] 45 (0, 0))).cell? ⟨w.heap.size, 0, none⟩ = some (.string i) := by rw [cell_of_row _ _ _ _ _ _ HF2.out]; rfl
  have hc5 : (w.alloc (.cells #[.string i, .slice A n c, .slice A2 n2 c2] 45 (0, 0))).cell? ⟨w.heap.size, 1, none⟩ = some (.slice A n c) := by rw [cell_of_row _ _ _ _ _ _ HF2.out]; rfl
  have hc6 : (w.alloc (.cells #[.string i, .slice A n c, .slice A2 n2 c2] 45 (0, 0))).cell? ⟨w.heap.size, 2, none⟩ = some (.slice A2 n2 c2) := by rw [cell_of_row _ _ _ _ _ _ HF2.out]; rfl
  go_wp2_with fail
  have hr7 := fun d os => cell_regrown hc4 d os
  have hr8 := fun d os => cell_regrown hc5 d os
  have hr9 := fun d os => cell_regrown hc6 d os
  refine wp_region_quiet_tail 8 (by kernel_rfl) (by kernel_rfl) ?_
  simp only [List.take_succ_cons, List.take_zero, List.drop_succ_cons, List.drop_zero]
  repeat (any_goals (first | go_big_quiet_step ((first | (go_at_call 58; with_reducible exact Calls.regrown_of (of_same (HNK.out _))) | (go_at_call 165; with_reducible exact Calls.regrown_of (HPT.out _ (H.out.below (HB3.out.trans ((below_regrown _ _ _).mono HB3.out.size))))))) | quiet_step ((first | (go_at_call 58; with_reducible exact Calls.regrown_of (of_same (HNK.out _))) | (go_at_call 165; with_reducible exact Calls.regrown_of (HPT.out _ (H.out.below (HB3.out.trans ((below_regrown _ _ _).mono HB3.out.size)))))))))
  refine wpQuiet_nil ?_
  intro w1 hw1
  have hb1 := below_anyY hw1
  clear hw1 hr7 hr8 hr9
  clear hc4 hc5 hc6
  have HF10 := Lib.hid (blk_below HF2.out hb1)
  have HB11 := Lib.hid (HB3.out.trans (hb1.mono HB3.out.size))
  clear hb1 HB3 HF2
  have HF12 := Lib.hid (blk_alloc HF10.out (.cells #[.int .i64 x, .int .i64 y] 23 (0, 0)))
  have HF13 := Lib.hid (blk_new w1 (.cells #[.int .i64 x, .int .i64 y] 23 (0, 0)))
  have HB14 := Lib.hid (HB11.out.alloc HB11.out.size (.cells #[.int .i64 x, .int .i64 y] 23 (0, 0)))
  clear HB11
  go_wp2_with fail
  refine (orE_any _ 0 2 2 [x, y] _ (rd_blk (f := ieC) (s := 1) (fun _ => rfl) [x, y] HF13.out rfl) (by omega)).mono ?_
  rintro e w' ⟨rfl, rfl⟩
  go_wp2_with fail
  go_ret
  exact ⟨retI HV.out, HB14.out⟩
set_option maxRecDepth 100000 in
set_option maxHeartbeats 2000000 in
theorem cedge_any (i f g : ByteArray) (A A2 : Option Addr) (n c n2 c2 : Nat) (ss : List ByteArray) (ps : List Pr) (w : World) (h : LP w A n ss A2 n2 ps) (k : LOk n ss n2 ps) (hi : i.size ≤ maxLen) (hf : f.size ≤ maxLen) (hg : g.size ≤ maxLen) :
    Calls Try.prog 133 #[.agg #[.string i, .string f, .string g, .slice A n c, .slice A2 n2 c2]] w fun e w' => e = .returned (.int .i64 (edW i f g ss ps)) ∧ Below w.heap.size w w' := by
  have H := Lib.hid h
  have HPT := Lib.hid (fun (W : World) (q : LP W A n ss A2 n2 ps) => cparts_any A A2 n c n2 c2 ss ps W q k)
  have HN1 := Lib.hid (fun W : World => ncheck_any i W hi)
  have HN2 := Lib.hid (fun W : World => ncheck_any f W hf)
  have HN3 := Lib.hid (fun W : World => ncheck_any g W hg)
  clear h k
  obtain ⟨x, hx⟩ : ∃ x, x = nck i := ⟨_, rfl⟩
  obtain ⟨x2, hx2⟩ : ∃ x, x = nck f := ⟨_, rfl⟩
  obtain ⟨x3, hx3⟩ : ∃ x, x = nck g := ⟨_, rfl⟩
  obtain ⟨y, hy⟩ : ∃ y, y = rsW ss ps := ⟨_, rfl⟩
  have HV := Lib.hid (show orL [x, x2, x3, y] = edW i f g ss ps by rw [hx, or_nck, hx2, or_nck, hx3, or_nck, or1, hy]; rfl)
  rw [← hx] at HN1
  rw [← hx2] at HN2
  rw [← hx3] at HN3
  rw [← hy] at HPT
  clear hx hx2 hx3 hy
  have HB1 := Lib.hid (Below.refl w.heap.size w)
  go_enter Try.func133, Try.ntmps133
  have HF2 := Lib.hid (blk_new w (.cells #[.string i, .string f, .string g, .slice A n c, .slice A2 n2 c2] 49 (0, 0)))
  have HB3 := Lib.hid (HB1.out.alloc HB1.out.size (.cells #[.string i, .string f, .string g, .slice A n c, .slice A2 n2 c2] 49 (0, 0)))
  clear HB1
  have hc4 : (w.alloc (.cells #[.string i, .string f, .string g, .slice A n c, .slice A2 n2 c2] 49 (0, 0))).cell? ⟨w.heap.size, 0, none⟩ = some (.string i) := by rw [cell_of_row _ _ _ _ _ _ HF2.out]; rfl
  have hc5 : (w.alloc (.cells #[.string i, .string f, .string g, .slice A n c, .slice A2 n2 c2] 49 (0, 0))).cell? ⟨w.heap.size, 1, none⟩ = some (.string f) := by rw [cell_of_row _ _ _ _ _ _ HF2.out]; rfl
  have hc6 : (w.alloc (.cells #[.string i, .string f, .string g, .slice A n c, .slice A2 n2 c2] 49 (0, 0))).cell? ⟨w.heap.size, 2, none⟩ = some (.string g) := by rw [cell_of_row _ _ _ _ _ _ HF2.out]; rfl
  have hc7 : (w.alloc (.cells #[.string i, .string f, .string g, .slice A n c, .slice A2 n2 c2] 49 (0, 0))).cell? ⟨w.heap.size, 3, none⟩ = some (.slice A n c) := by rw [cell_of_row _ _ _ _ _ _ HF2.out]; rfl
  have hc8 : (w.alloc (.cells #[.string i, .string f, .string g, .slice A n c, .slice A2 n2 c2] 49 (0, 0))).cell? ⟨w.heap.size, 4, none⟩ = some (.slice A2 n2 c2) := by rw [cell_of_row _ _ _ _ _ _ HF2.out]; rfl
  go_wp2_with fail
  have hr9 := fun d os => cell_regrown hc4 d os
  have hr10 := fun d os => cell_regrown hc5 d os
  have hr11 := fun d os => cell_regrown hc6 d os
  have hr12 := fun d os => cell_regrown hc7 d os
  have hr13 := fun d os => cell_regrown hc8 d os
  refine wp_region_quiet_tail 14 (by kernel_rfl) (by kernel_rfl) ?_
  simp only [List.take_succ_cons, List.take_zero, List.drop_succ_cons, List.drop_zero]
  repeat (any_goals (first | go_big_quiet_step ((first | (go_at_call 58; with_reducible exact Calls.regrown_of (of_same (HN1.out _))) | (go_at_call 58; with_reducible exact Calls.regrown_of (of_same (HN2.out _))) | (go_at_call 58; with_reducible exact Calls.regrown_of (of_same (HN3.out _))) | (go_at_call 165; with_reducible exact Calls.regrown_of (HPT.out _ (H.out.below (HB3.out.trans ((below_regrown _ _ _).mono HB3.out.size))))))) | quiet_step ((first | (go_at_call 58; with_reducible exact Calls.regrown_of (of_same (HN1.out _))) | (go_at_call 58; with_reducible exact Calls.regrown_of (of_same (HN2.out _))) | (go_at_call 58; with_reducible exact Calls.regrown_of (of_same (HN3.out _))) | (go_at_call 165; with_reducible exact Calls.regrown_of (HPT.out _ (H.out.below (HB3.out.trans ((below_regrown _ _ _).mono HB3.out.size)))))))))
  refine wpQuiet_nil ?_
  intro w1 hw1
  have hb1 := below_anyY hw1
  clear hw1 hr9 hr10 hr11 hr12 hr13
  clear hc4 hc5 hc6 hc7 hc8
  have HF14 := Lib.hid (blk_below HF2.out hb1)
  have HB15 := Lib.hid (HB3.out.trans (hb1.mono HB3.out.size))
  clear hb1 HB3 HF2
  have HF16 := Lib.hid (blk_alloc HF14.out (.cells #[.int .i64 x, .int .i64 x2, .int .i64 x3, .int .i64 y] 23 (0, 0)))
  have HF17 := Lib.hid (blk_new w1 (.cells #[.int .i64 x, .int .i64 x2, .int .i64 x3, .int .i64 y] 23 (0, 0)))
  have HB18 := Lib.hid (HB15.out.alloc HB15.out.size (.cells #[.int .i64 x, .int .i64 x2, .int .i64 x3, .int .i64 y] 23 (0, 0)))
  clear HB15
  go_wp2_with fail
  refine (orE_any _ 0 4 4 [x, x2, x3, y] _ (rd_blk (f := ieC) (s := 1) (fun _ => rfl) [x, x2, x3, y] HF17.out rfl) (by omega)).mono ?_
  rintro e w' ⟨rfl, rfl⟩
  go_wp2_with fail
  go_ret
  exact ⟨retI HV.out, HB18.out⟩
end Go.Proofs.Ytjnichiblljmjaa
