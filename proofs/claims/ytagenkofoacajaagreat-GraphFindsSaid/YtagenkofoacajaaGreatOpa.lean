/- Nodes, edges, labels and properties: what may be, what is put, what is the same. Conditions: texts that are no longer than a text may be. -/
import Derived.Test.YtagenkofoacajaaGreatPr
import Derived.Test.YtagenkofoacajaaGreatPx
import Derived.Test.YtagenkofoacajaaGreatAa
import Derived.Test.YtagenkofoacajaaGreatSput
import Derived.Test.YtagenkofoacajaaGreatNp
import Derived.Laws.Concat
namespace Go.Proofs.YtagenkofoacajaaGreat
open Go.RowKit Vi

theorem info_prA : (Tryz.prog.info? 92).map (fun i => (i.zero, i.size, i.bytes)) = some (some (.agg #[.string ⟨#[]⟩, .int .i64 0, .int .i64 0, .string ⟨#[]⟩]), 4, 48) := by kernel_rfl
theorem sln_c {w : World} {A : Option Addr} {n : Nat} {l : List ByteArray} (h : RdX stC 1 w A n l) : SlN w A n l :=
  ⟨h.1, fun hp => by
    obtain ⟨b, off, e, _, hc⟩ := h.2 hp
    refine ⟨b, off, e, fun i hi => ?_⟩
    have := hc i l[i] 0 (.string l[i]) (List.getElem?_eq_getElem hi) rfl
    rwa [Nat.mul_one, Nat.add_zero] at this⟩
end Go.Proofs.YtagenkofoacajaaGreat

namespace Go.Proofs.YtagenkofoacajaaGreat
open Go.RowKit Vi

set_option maxRecDepth 100000 in
set_option maxHeartbeats 2000000 in
theorem cprops_any (A : Option Addr) (n c : Nat) (ps : List Pr) (w : World) (h : RdX prC 4 w A n ps) (hn : (n : Int) ≤ 9223372036854775807) (ht : ∀ p ∈ ps, p.1.size ≤ maxLen) :
    Calls Tryz.prog 83 #[.slice A n c] w fun e w' => e = .returned (.int .i64 (prW ps)) ∧ Below w.heap.size w w' := by
  have H := Lib.hid h
  have L := Lib.hid h.1
  have HT := Lib.hid ht
  clear h ht
  by_cases h8 : 8 < n
  · have d1 : decide ((8 : Int) < (n : Int)) = true := decide_eq_true (by omega)
    have HV := Lib.hid (show (5 : Int) = prW ps by unfold prW; rw [if_pos (by rw [L.out]; exact h8)])
    go_enter Tryz.func83, Tryz.ntmps83
    go_wp2_with fail
    go_ret
    exact ⟨retI HV.out, Below.refl _ _⟩
  · have d1 : decide ((8 : Int) < (n : Int)) = false := decide_eq_false (by omega)
    have HV := Lib.hid (show prE ⟨#[]⟩ ps = prW ps by unfold prW; rw [if_neg (by rw [L.out]; exact h8)])
    go_enter Tryz.func83, Tryz.ntmps83
    go_wp2_with fail
    go_loopw [3, 11] (fun s i wr => ∃ (k : Nat) (p : ByteArray), s = .string p ∧ i = .int .i64 (k : Int) ∧ k ≤ n ∧ prE p (ps.drop k) = prE ⟨#[]⟩ ps ∧ Below w.heap.size w wr) (fun _ i _ => n - (intOf i).toNat)
    case atStart => exact ⟨0, _, rfl, rfl, Nat.zero_le _, rfl, Below.refl _ _⟩
    case round =>
      obtain ⟨k, p, rfl, rfl, hk, hs, hb⟩ := hrel
      have HS := Lib.hid hs
      have HB := Lib.hid hb
      clear hs hb
      by_cases hlt : k < n
      · have hd1 : decide ((k : Int) < (n : Int)) = true := decide_eq_true (by omega)
        obtain ⟨b, off, hl, rfl, hbb, _⟩ := (H.out.below HB.out).at hlt
        have HA := Lib.hid (prE_at p ps k hl)
        have hsz := HT.out _ (List.getElem_mem hl)
        obtain ⟨x, hx⟩ : ∃ x, ps[k] = x := ⟨_, rfl⟩
        have HX := Lib.hid (show ps[k]? = some x by rw [List.getElem?_eq_getElem hl, hx])
        rw [hx] at HA hsz
        obtain ⟨s, a, d, t⟩ := x
        have hsz : s.size ≤ maxLen := hsz
        have hi0 : (0 : Int) ≤ (k : Int) := by omega
        have HST := Lib.hid (fun W : World => stand_any s a d t W hsz)
        clear hx hsz
        cases ho : okP (s, a, d, t) with
        | false =>
          rw [ho] at HST
          have HR := Lib.hid (show (2 : Int) = prW ps by rw [← HV.out, ← HS.out, HA.out, if_pos ho])
          clear ho
          have hc101 : wr.cell? ⟨b, off + k * 4, none⟩ = some (.string s) := (H.out.below HB.out).cellAt HX.out hlt 0 _ rfl
          have hc102 : wr.cell? ⟨b, off + k * 4 + 1, none⟩ = some (.int .i64 a) := (H.out.below HB.out).cellAt HX.out hlt 1 _ rfl
          have hc103 : wr.cell? ⟨b, off + k * 4 + 2, none⟩ = some (.int .i64 d) := (H.out.below HB.out).cellAt HX.out hlt 2 _ rfl
          have hc104 : wr.cell? ⟨b, off + k * 4 + 3, none⟩ = some (.string t) := (H.out.below HB.out).cellAt HX.out hlt 3 _ rfl
          have HF105 := Lib.hid (blk_new wr (.cells #[.string s, .int .i64 a, .int .i64 d, .string t] 92 (0, 0)))
          have HB106 := Lib.hid (HB.out.alloc HB.out.size (.cells #[.string s, .int .i64 a, .int .i64 d, .string t] 92 (0, 0)))
          clear HB
          have hc107 : (wr.alloc (.cells #[.string s, .int .i64 a, .int .i64 d, .string t] 92 (0, 0))).cell? ⟨wr.heap.size, 0, none⟩ = some (.string s) := by rw [cell_of_row _ _ _ _ _ _ HF105.out]; rfl
          have hc108 : (wr.alloc (.cells #[.string s, .int .i64 a, .int .i64 d, .string t] 92 (0, 0))).cell? ⟨wr.heap.size, 1, none⟩ = some (.int .i64 a) := by rw [cell_of_row _ _ _ _ _ _ HF105.out]; rfl
          have hc109 : (wr.alloc (.cells #[.string s, .int .i64 a, .int .i64 d, .string t] 92 (0, 0))).cell? ⟨wr.heap.size, 2, none⟩ = some (.int .i64 d) := by rw [cell_of_row _ _ _ _ _ _ HF105.out]; rfl
          have hc110 : (wr.alloc (.cells #[.string s, .int .i64 a, .int .i64 d, .string t] 92 (0, 0))).cell? ⟨wr.heap.size, 3, none⟩ = some (.string t) := by rw [cell_of_row _ _ _ _ _ _ HF105.out]; rfl
          go_wp2_with fail
          clear hc101 hc102 hc103 hc104 hc107 hc108 hc109 hc110
          refine (HST.out (wr.alloc (.cells #[.string s, .int .i64 a, .int .i64 d, .string t] 92 (0, 0)))).mono ?_
          rintro e w11 ⟨rfl, hb11⟩
          have HF111 := Lib.hid (blk_below HF105.out hb11)
          have HB112 := Lib.hid (HB106.out.trans (hb11.mono HB106.out.size))
          clear hb11 HB106 HF105
          go_wp2_with fail
          go_ret
          exact ⟨retI HR.out, HB112.out⟩
        | true =>
          rw [ho] at HST
          have HNB := Lib.hid (show ¬ okP (s, a, d, t) = false by rw [ho]; simp)
          clear ho
          rcases leS_cases s p with ⟨g1, hg⟩ | ⟨g1, g2, hg⟩ | ⟨g1, g2, hg⟩
          · have HR := Lib.hid (show (4 : Int) = prW ps by rw [← HV.out, ← HS.out, HA.out, if_neg HNB.out, if_pos hg])
            clear hg
            have hc101 : wr.cell? ⟨b, off + k * 4, none⟩ = some (.string s) := (H.out.below HB.out).cellAt HX.out hlt 0 _ rfl
            have hc102 : wr.cell? ⟨b, off + k * 4 + 1, none⟩ = some (.int .i64 a) := (H.out.below HB.out).cellAt HX.out hlt 1 _ rfl
            have hc103 : wr.cell? ⟨b, off + k * 4 + 2, none⟩ = some (.int .i64 d) := (H.out.below HB.out).cellAt HX.out hlt 2 _ rfl
            have hc104 : wr.cell? ⟨b, off + k * 4 + 3, none⟩ = some (.string t) := (H.out.below HB.out).cellAt HX.out hlt 3 _ rfl
            have HF105 := Lib.hid (blk_new wr (.cells #[.string s, .int .i64 a, .int .i64 d, .string t] 92 (0, 0)))
            have HB106 := Lib.hid (HB.out.alloc HB.out.size (.cells #[.string s, .int .i64 a, .int .i64 d, .string t] 92 (0, 0)))
            clear HB
            have hc107 : (wr.alloc (.cells #[.string s, .int .i64 a, .int .i64 d, .string t] 92 (0, 0))).cell? ⟨wr.heap.size, 0, none⟩ = some (.string s) := by rw [cell_of_row _ _ _ _ _ _ HF105.out]; rfl
            have hc108 : (wr.alloc (.cells #[.string s, .int .i64 a, .int .i64 d, .string t] 92 (0, 0))).cell? ⟨wr.heap.size, 1, none⟩ = some (.int .i64 a) := by rw [cell_of_row _ _ _ _ _ _ HF105.out]; rfl
            have hc109 : (wr.alloc (.cells #[.string s, .int .i64 a, .int .i64 d, .string t] 92 (0, 0))).cell? ⟨wr.heap.size, 2, none⟩ = some (.int .i64 d) := by rw [cell_of_row _ _ _ _ _ _ HF105.out]; rfl
            have hc110 : (wr.alloc (.cells #[.string s, .int .i64 a, .int .i64 d, .string t] 92 (0, 0))).cell? ⟨wr.heap.size, 3, none⟩ = some (.string t) := by rw [cell_of_row _ _ _ _ _ _ HF105.out]; rfl
            go_wp2_with fail
            clear hc101 hc102 hc103 hc104 hc107 hc108 hc109 hc110
            refine (HST.out (wr.alloc (.cells #[.string s, .int .i64 a, .int .i64 d, .string t] 92 (0, 0)))).mono ?_
            rintro e w11 ⟨rfl, hb11⟩
            have HF111 := Lib.hid (blk_below HF105.out hb11)
            have HB112 := Lib.hid (HB106.out.trans (hb11.mono HB106.out.size))
            clear hb11 HB106 HF105
            have hc113 : w11.cell? ⟨wr.heap.size, 0, none⟩ = some (.string s) := by rw [cell_of_row _ _ _ _ _ _ HF111.out]; rfl
            have hc114 : w11.cell? ⟨wr.heap.size, 1, none⟩ = some (.int .i64 a) := by rw [cell_of_row _ _ _ _ _ _ HF111.out]; rfl
            have hc115 : w11.cell? ⟨wr.heap.size, 2, none⟩ = some (.int .i64 d) := by rw [cell_of_row _ _ _ _ _ _ HF111.out]; rfl
            have hc116 : w11.cell? ⟨wr.heap.size, 3, none⟩ = some (.string t) := by rw [cell_of_row _ _ _ _ _ _ HF111.out]; rfl
            go_wp2_with fail
            go_ret
            exact ⟨retI HR.out, HB112.out⟩
          · have HR := Lib.hid (show (4 : Int) = prW ps by rw [← HV.out, ← HS.out, HA.out, if_neg HNB.out, if_pos hg])
            clear hg
            have hc101 : wr.cell? ⟨b, off + k * 4, none⟩ = some (.string s) := (H.out.below HB.out).cellAt HX.out hlt 0 _ rfl
            have hc102 : wr.cell? ⟨b, off + k * 4 + 1, none⟩ = some (.int .i64 a) := (H.out.below HB.out).cellAt HX.out hlt 1 _ rfl
            have hc103 : wr.cell? ⟨b, off + k * 4 + 2, none⟩ = some (.int .i64 d) := (H.out.below HB.out).cellAt HX.out hlt 2 _ rfl
            have hc104 : wr.cell? ⟨b, off + k * 4 + 3, none⟩ = some (.string t) := (H.out.below HB.out).cellAt HX.out hlt 3 _ rfl
            have HF105 := Lib.hid (blk_new wr (.cells #[.string s, .int .i64 a, .int .i64 d, .string t] 92 (0, 0)))
            have HB106 := Lib.hid (HB.out.alloc HB.out.size (.cells #[.string s, .int .i64 a, .int .i64 d, .string t] 92 (0, 0)))
            clear HB
            have hc107 : (wr.alloc (.cells #[.string s, .int .i64 a, .int .i64 d, .string t] 92 (0, 0))).cell? ⟨wr.heap.size, 0, none⟩ = some (.string s) := by rw [cell_of_row _ _ _ _ _ _ HF105.out]; rfl
            have hc108 : (wr.alloc (.cells #[.string s, .int .i64 a, .int .i64 d, .string t] 92 (0, 0))).cell? ⟨wr.heap.size, 1, none⟩ = some (.int .i64 a) := by rw [cell_of_row _ _ _ _ _ _ HF105.out]; rfl
            have hc109 : (wr.alloc (.cells #[.string s, .int .i64 a, .int .i64 d, .string t] 92 (0, 0))).cell? ⟨wr.heap.size, 2, none⟩ = some (.int .i64 d) := by rw [cell_of_row _ _ _ _ _ _ HF105.out]; rfl
            have hc110 : (wr.alloc (.cells #[.string s, .int .i64 a, .int .i64 d, .string t] 92 (0, 0))).cell? ⟨wr.heap.size, 3, none⟩ = some (.string t) := by rw [cell_of_row _ _ _ _ _ _ HF105.out]; rfl
            go_wp2_with fail
            clear hc101 hc102 hc103 hc104 hc107 hc108 hc109 hc110
            refine (HST.out (wr.alloc (.cells #[.string s, .int .i64 a, .int .i64 d, .string t] 92 (0, 0)))).mono ?_
            rintro e w11 ⟨rfl, hb11⟩
            have HF111 := Lib.hid (blk_below HF105.out hb11)
            have HB112 := Lib.hid (HB106.out.trans (hb11.mono HB106.out.size))
            clear hb11 HB106 HF105
            have hc113 : w11.cell? ⟨wr.heap.size, 0, none⟩ = some (.string s) := by rw [cell_of_row _ _ _ _ _ _ HF111.out]; rfl
            have hc114 : w11.cell? ⟨wr.heap.size, 1, none⟩ = some (.int .i64 a) := by rw [cell_of_row _ _ _ _ _ _ HF111.out]; rfl
            have hc115 : w11.cell? ⟨wr.heap.size, 2, none⟩ = some (.int .i64 d) := by rw [cell_of_row _ _ _ _ _ _ HF111.out]; rfl
            have hc116 : w11.cell? ⟨wr.heap.size, 3, none⟩ = some (.string t) := by rw [cell_of_row _ _ _ _ _ _ HF111.out]; rfl
            go_wp2_with fail
            go_ret
            exact ⟨retI HR.out, HB112.out⟩
          · have HR := Lib.hid (show prE s (ps.drop (k + 1)) = prE ⟨#[]⟩ ps by rw [← HS.out, HA.out, if_neg HNB.out, if_neg (by rw [show leS (s, a, d, t).1 p = false from hg]; simp)])
            clear hg
            have hc101 : wr.cell? ⟨b, off + k * 4, none⟩ = some (.string s) := (H.out.below HB.out).cellAt HX.out hlt 0 _ rfl
            have hc102 : wr.cell? ⟨b, off + k * 4 + 1, none⟩ = some (.int .i64 a) := (H.out.below HB.out).cellAt HX.out hlt 1 _ rfl
            have hc103 : wr.cell? ⟨b, off + k * 4 + 2, none⟩ = some (.int .i64 d) := (H.out.below HB.out).cellAt HX.out hlt 2 _ rfl
            have hc104 : wr.cell? ⟨b, off + k * 4 + 3, none⟩ = some (.string t) := (H.out.below HB.out).cellAt HX.out hlt 3 _ rfl
            have HF105 := Lib.hid (blk_new wr (.cells #[.string s, .int .i64 a, .int .i64 d, .string t] 92 (0, 0)))
            have HB106 := Lib.hid (HB.out.alloc HB.out.size (.cells #[.string s, .int .i64 a, .int .i64 d, .string t] 92 (0, 0)))
            clear HB
            have hc107 : (wr.alloc (.cells #[.string s, .int .i64 a, .int .i64 d, .string t] 92 (0, 0))).cell? ⟨wr.heap.size, 0, none⟩ = some (.string s) := by rw [cell_of_row _ _ _ _ _ _ HF105.out]; rfl
            have hc108 : (wr.alloc (.cells #[.string s, .int .i64 a, .int .i64 d, .string t] 92 (0, 0))).cell? ⟨wr.heap.size, 1, none⟩ = some (.int .i64 a) := by rw [cell_of_row _ _ _ _ _ _ HF105.out]; rfl
            have hc109 : (wr.alloc (.cells #[.string s, .int .i64 a, .int .i64 d, .string t] 92 (0, 0))).cell? ⟨wr.heap.size, 2, none⟩ = some (.int .i64 d) := by rw [cell_of_row _ _ _ _ _ _ HF105.out]; rfl
            have hc110 : (wr.alloc (.cells #[.string s, .int .i64 a, .int .i64 d, .string t] 92 (0, 0))).cell? ⟨wr.heap.size, 3, none⟩ = some (.string t) := by rw [cell_of_row _ _ _ _ _ _ HF105.out]; rfl
            go_wp2_with fail
            clear hc101 hc102 hc103 hc104 hc107 hc108 hc109 hc110
            refine (HST.out (wr.alloc (.cells #[.string s, .int .i64 a, .int .i64 d, .string t] 92 (0, 0)))).mono ?_
            rintro e w11 ⟨rfl, hb11⟩
            have HF111 := Lib.hid (blk_below HF105.out hb11)
            have HB112 := Lib.hid (HB106.out.trans (hb11.mono HB106.out.size))
            clear hb11 HB106 HF105
            have hc113 : w11.cell? ⟨wr.heap.size, 0, none⟩ = some (.string s) := by rw [cell_of_row _ _ _ _ _ _ HF111.out]; rfl
            have hc114 : w11.cell? ⟨wr.heap.size, 1, none⟩ = some (.int .i64 a) := by rw [cell_of_row _ _ _ _ _ _ HF111.out]; rfl
            have hc115 : w11.cell? ⟨wr.heap.size, 2, none⟩ = some (.int .i64 d) := by rw [cell_of_row _ _ _ _ _ _ HF111.out]; rfl
            have hc116 : w11.cell? ⟨wr.heap.size, 3, none⟩ = some (.string t) := by rw [cell_of_row _ _ _ _ _ _ HF111.out]; rfl
            go_wp2_with fail
            go_roundw
            case rel => exact ⟨k + 1, s, rfl, by go_num, by omega, HR.out, HB112.out⟩
            case measure => simp [intOf] <;> omega
      · have hd1 : decide ((k : Int) < (n : Int)) = false := decide_eq_false (by omega)
        have HR := Lib.hid (show (0 : Int) = prW ps by rw [← HV.out, ← HS.out, prE_end p ps k (by rw [L.out]; omega)])
        go_wp2_with fail
        go_ret
        exact ⟨retI HR.out, HB.out⟩
/-- why labels and properties may not be -/
def rsW (ss : List ByteArray) (ps : List Pr) : Int := if 8 < ss.length then 5 else if rowE ⟨#[]⟩ ss ≠ 0 then rowE ⟨#[]⟩ ss else prW ps
theorem or2 (a b : Int) : orL [a, b] = if a ≠ 0 then a else b := by
  show (if a ≠ 0 then a else if b ≠ 0 then b else 0) = _
  split
  · rfl
  · split <;> omega
/-- labels and properties that came in -/
structure LP (w : World) (A : Option Addr) (n : Nat) (ss : List ByteArray) (A2 : Option Addr) (n2 : Nat) (ps : List Pr) : Prop where
  l : SlN w A n ss
  p : RdX prC 4 w A2 n2 ps
theorem LP.below {w w' : World} {A A2 : Option Addr} {n n2 : Nat} {ss : List ByteArray} {ps : List Pr} (h : LP w A n ss A2 n2 ps) (hb : Below w.heap.size w w') : LP w' A n ss A2 n2 ps := ⟨h.l.later hb, h.p.below hb⟩
/-- texts and numbers that are ones -/
structure LOk (n : Nat) (ss : List ByteArray) (n2 : Nat) (ps : List Pr) : Prop where
  n : n ≤ maxLen
  n2 : n2 ≤ maxLen
  s : ∀ s ∈ ss, s.size ≤ maxLen
  p : ∀ p ∈ ps, p.1.size ≤ maxLen
set_option maxRecDepth 100000 in
set_option maxHeartbeats 2000000 in
theorem cparts_any (A A2 : Option Addr) (n c n2 c2 : Nat) (ss : List ByteArray) (ps : List Pr) (w : World) (h : LP w A n ss A2 n2 ps) (k : LOk n ss n2 ps) :
    Calls Tryz.prog 130 #[.slice A n c, .slice A2 n2 c2] w fun e w' => e = .returned (.int .i64 (rsW ss ps)) ∧ Below w.heap.size w w' := by
  have H := Lib.hid h
  have L := Lib.hid h.l.1
  have hm := k.n
  have hm2 := k.n2
  unfold maxLen at hm hm2
  have HRW := Lib.hid (fun (W : World) (g : SlN W A n ss) => nrow_any A n c ss W g k.n k.s)
  have HPW := Lib.hid (fun (W : World) (g : RdX prC 4 W A2 n2 ps) => cprops_any A2 n2 c2 ps W g (by omega) k.p)
  clear h k
  by_cases h8 : 8 < n
  · have d1 : decide ((8 : Int) < (n : Int)) = true := decide_eq_true (by omega)
    have HV := Lib.hid (show (5 : Int) = rsW ss ps by unfold rsW; rw [if_pos (by rw [L.out]; exact h8)])
    go_enter Tryz.func130, Tryz.ntmps130
    go_wp2_with fail
    go_ret
    exact ⟨retI HV.out, Below.refl _ _⟩
  · have d1 : decide ((8 : Int) < (n : Int)) = false := decide_eq_false (by omega)
    obtain ⟨x, hx⟩ : ∃ x, x = rowE ⟨#[]⟩ ss := ⟨_, rfl⟩
    obtain ⟨y, hy⟩ : ∃ y, y = prW ps := ⟨_, rfl⟩
    have HV := Lib.hid (show orL [x, y] = rsW ss ps by rw [or2, hx, hy]; unfold rsW; rw [if_neg (show ¬ 8 < ss.length by rw [L.out]; exact h8)])
    rw [← hx] at HRW
    rw [← hy] at HPW
    clear hx hy h8
    have HB1 := Lib.hid (Below.refl w.heap.size w)
    go_enter Tryz.func130, Tryz.ntmps130
    go_wp2_with fail
    refine (HRW.out w (H.out.l.later HB1.out)).mono ?_
    rintro e w' ⟨rfl, rfl⟩
    go_wp2_with fail
    refine (HPW.out w (H.out.p.below HB1.out)).mono ?_
    rintro e w1 ⟨rfl, hb1⟩
    have HB2 := Lib.hid (HB1.out.trans (hb1.mono HB1.out.size))
    clear hb1 HB1 
    have HF3 := Lib.hid (blk_new w1 (.cells #[.int .i64 x, .int .i64 y] 49 (0, 0)))
    have HB4 := Lib.hid (HB2.out.alloc HB2.out.size (.cells #[.int .i64 x, .int .i64 y] 49 (0, 0)))
    clear HB2
    go_wp2_with fail
    refine (orE_any _ 0 2 2 [x, y] _ (rd_blk (f := ieC) (s := 1) (fun _ => rfl) [x, y] HF3.out rfl) (by omega)).mono ?_
    rintro e w' ⟨rfl, rfl⟩
    go_wp2_with fail
    go_ret
    exact ⟨retI HV.out, HB4.out⟩
/-- why a node may not be -/
def ndW (i : ByteArray) (ss : List ByteArray) (ps : List Pr) : Int := if nm i = false then 2 else rsW ss ps
def edW (i f g : ByteArray) (ss : List ByteArray) (ps : List Pr) : Int := if nm i = false then 2 else if nm f = false then 2 else if nm g = false then 2 else rsW ss ps
theorem or_nck (i : ByteArray) (l : List Int) : orL (nck i :: l) = if nm i = false then 2 else orL l := by
  show (if nck i ≠ 0 then nck i else orL l) = _
  cases h : nm i with
  | false => rw [nck_no i h]; rfl
  | true => rw [nck_yes i h]; rfl
theorem or1 (a : Int) : orL [a] = a := by
  show (if a ≠ 0 then a else 0) = a
  split <;> omega
set_option maxRecDepth 100000 in
set_option maxHeartbeats 2000000 in
theorem cnode_any (i : ByteArray) (A A2 : Option Addr) (n c n2 c2 : Nat) (ss : List ByteArray) (ps : List Pr) (w : World) (h : LP w A n ss A2 n2 ps) (k : LOk n ss n2 ps) (hi : i.size ≤ maxLen) :
    Calls Tryz.prog 107 #[.agg #[.string i, .slice A n c, .slice A2 n2 c2]] w fun e w' => e = .returned (.int .i64 (ndW i ss ps)) ∧ Below w.heap.size w w' := by
  have H := Lib.hid h
  have HPT := Lib.hid (fun (W : World) (g : LP W A n ss A2 n2 ps) => cparts_any A A2 n c n2 c2 ss ps W g k)
  have HNK := Lib.hid (fun W : World => ncheck_any i W hi)
  clear h k
  obtain ⟨x, hx⟩ : ∃ x, x = nck i := ⟨_, rfl⟩
  obtain ⟨y, hy⟩ : ∃ y, y = rsW ss ps := ⟨_, rfl⟩
  have HV := Lib.hid (show orL [x, y] = ndW i ss ps by rw [hx, or_nck, or1, hy]; rfl)
  rw [← hx] at HNK
  rw [← hy] at HPT
  clear hx hy
  have HB1 := Lib.hid (Below.refl w.heap.size w)
  go_enter Tryz.func107, Tryz.ntmps107
  have HF2 := Lib.hid (blk_new w (.cells #[.string i, .slice A n c, .slice A2 n2 c2] 32 (0, 0)))
  have HB3 := Lib.hid (HB1.out.alloc HB1.out.size (.cells #[.string i, .slice A n c, .slice A2 n2 c2] 32 (0, 0)))
  clear HB1
  have hc4 : (w.alloc (.cells #[.string i, .slice A n c, .slice A2 n2 c2] 32 (0, 0))).cell? ⟨w.heap.size, 0, none⟩ = some (.string i) := by rw [cell_of_row _ _ _ _ _ _ HF2.out]; rfl
  have hc5 : (w.alloc (.cells #[.string i, .slice A n c, .slice A2 n2 c2] 32 (0, 0))).cell? ⟨w.heap.size, 1, none⟩ = some (.slice A n c) := by rw [cell_of_row _ _ _ _ _ _ HF2.out]; rfl
  have hc6 : (w.alloc (.cells #[.string i, .slice A n c, .slice A2 n2 c2] 32 (0, 0))).cell? ⟨w.heap.size, 2, none⟩ = some (.slice A2 n2 c2) := by rw [cell_of_row _ _ _ _ _ _ HF2.out]; rfl
  go_wp2_with fail
  have hr7 := fun d os => cell_regrown hc4 d os
  have hr8 := fun d os => cell_regrown hc5 d os
  have hr9 := fun d os => cell_regrown hc6 d os
  refine wp_region_quiet_tail 8 (by kernel_rfl) (by kernel_rfl) ?_
  simp only [List.take_succ_cons, List.take_zero, List.drop_succ_cons, List.drop_zero]
  repeat (any_goals (first | go_big_quiet_step ((first | (go_at_call 84; with_reducible exact Calls.regrown_of (of_same (HNK.out _))) | (go_at_call 130; with_reducible exact Calls.regrown_of (HPT.out _ (H.out.below (HB3.out.trans ((below_regrown _ _ _).mono HB3.out.size))))))) | quiet_step ((first | (go_at_call 84; with_reducible exact Calls.regrown_of (of_same (HNK.out _))) | (go_at_call 130; with_reducible exact Calls.regrown_of (HPT.out _ (H.out.below (HB3.out.trans ((below_regrown _ _ _).mono HB3.out.size)))))))))
  refine wpQuiet_nil ?_
  intro w1 hw1
  have hb1 := below_anyY hw1
  clear hw1 hr7 hr8 hr9
  clear hc4 hc5 hc6
  have HF10 := Lib.hid (blk_below HF2.out hb1)
  have HB11 := Lib.hid (HB3.out.trans (hb1.mono HB3.out.size))
  clear hb1 HB3 HF2
  have HF12 := Lib.hid (blk_alloc HF10.out (.cells #[.int .i64 x, .int .i64 y] 49 (0, 0)))
  have HF13 := Lib.hid (blk_new w1 (.cells #[.int .i64 x, .int .i64 y] 49 (0, 0)))
  have HB14 := Lib.hid (HB11.out.alloc HB11.out.size (.cells #[.int .i64 x, .int .i64 y] 49 (0, 0)))
  clear HB11
  go_wp2_with fail
  refine (orE_any _ 0 2 2 [x, y] _ (rd_blk (f := ieC) (s := 1) (fun _ => rfl) [x, y] HF13.out rfl) (by omega)).mono ?_
  rintro e w' ⟨rfl, rfl⟩
  go_wp2_with fail
  go_ret
  exact ⟨retI HV.out, HB14.out⟩
set_option maxRecDepth 100000 in
set_option maxHeartbeats 2000000 in
theorem cedge_any (i f g : ByteArray) (A A2 : Option Addr) (n c n2 c2 : Nat) (ss : List ByteArray) (ps : List Pr) (w : World) (h : LP w A n ss A2 n2 ps) (k : LOk n ss n2 ps) (hi : i.size ≤ maxLen) (hf : f.size ≤ maxLen) (hg : g.size ≤ maxLen) :
    Calls Tryz.prog 108 #[.agg #[.string i, .string f, .string g, .slice A n c, .slice A2 n2 c2]] w fun e w' => e = .returned (.int .i64 (edW i f g ss ps)) ∧ Below w.heap.size w w' := by
  have H := Lib.hid h
  have HPT := Lib.hid (fun (W : World) (q : LP W A n ss A2 n2 ps) => cparts_any A A2 n c n2 c2 ss ps W q k)
  have HN1 := Lib.hid (fun W : World => ncheck_any i W hi)
  have HN2 := Lib.hid (fun W : World => ncheck_any f W hf)
  have HN3 := Lib.hid (fun W : World => ncheck_any g W hg)
  clear h k
  obtain ⟨x, hx⟩ : ∃ x, x = nck i := ⟨_, rfl⟩
  obtain ⟨x2, hx2⟩ : ∃ x, x = nck f := ⟨_, rfl⟩
  obtain ⟨x3, hx3⟩ : ∃ x, x = nck g := ⟨_, rfl⟩
  obtain ⟨y, hy⟩ : ∃ y, y = rsW ss ps := ⟨_, rfl⟩
  have HV := Lib.hid (show orL [x, x2, x3, y] = edW i f g ss ps by rw [hx, or_nck, hx2, or_nck, hx3, or_nck, or1, hy]; rfl)
  rw [← hx] at HN1
  rw [← hx2] at HN2
  rw [← hx3] at HN3
  rw [← hy] at HPT
  clear hx hx2 hx3 hy
  have HB1 := Lib.hid (Below.refl w.heap.size w)
  go_enter Tryz.func108, Tryz.ntmps108
  have HF2 := Lib.hid (blk_new w (.cells #[.string i, .string f, .string g, .slice A n c, .slice A2 n2 c2] 36 (0, 0)))
  have HB3 := Lib.hid (HB1.out.alloc HB1.out.size (.cells #[.string i, .string f, .string g, .slice A n c, .slice A2 n2 c2] 36 (0, 0)))
  clear HB1
  have hc4 : (w.alloc (.cells #[.string i, .string f, .string g, .slice A n c, .slice A2 n2 c2] 36 (0, 0))).cell? ⟨w.heap.size, 0, none⟩ = some (.string i) := by rw [cell_of_row _ _ _ _ _ _ HF2.out]; rfl
  have hc5 : (w.alloc (.cells #[.string i, .string f, .string g, .slice A n c, .slice A2 n2 c2] 36 (0, 0))).cell? ⟨w.heap.size, 1, none⟩ = some (.string f) := by rw [cell_of_row _ _ _ _ _ _ HF2.out]; rfl
  have hc6 : (w.alloc (.cells #[.string i, .string f, .string g, .slice A n c, .slice A2 n2 c2] 36 (0, 0))).cell? ⟨w.heap.size, 2, none⟩ = some (.string g) := by rw [cell_of_row _ _ _ _ _ _ HF2.out]; rfl
  have hc7 : (w.alloc (.cells #[.string i, .string f, .string g, .slice A n c, .slice A2 n2 c2] 36 (0, 0))).cell? ⟨w.heap.size, 3, none⟩ = some (.slice A n c) := by rw [cell_of_row _ _ _ _ _ _ HF2.out]; rfl
  have hc8 : (w.alloc (.cells #[.string i, .string f, .string g, .slice A n c, .slice A2 n2 c2] 36 (0, 0))).cell? ⟨w.heap.size, 4, none⟩ = some (.slice A2 n2 c2) := by rw [cell_of_row _ _ _ _ _ _ HF2.out]; rfl
  go_wp2_with fail
  have hr9 := fun d os => cell_regrown hc4 d os
  have hr10 := fun d os => cell_regrown hc5 d os
  have hr11 := fun d os => cell_regrown hc6 d os
  have hr12 := fun d os => cell_regrown hc7 d os
  have hr13 := fun d os => cell_regrown hc8 d os
  refine wp_region_quiet_tail 14 (by kernel_rfl) (by kernel_rfl) ?_
  simp only [List.take_succ_cons, List.take_zero, List.drop_succ_cons, List.drop_zero]
  repeat (any_goals (first | go_big_quiet_step ((first | (go_at_call 84; with_reducible exact Calls.regrown_of (of_same (HN1.out _))) | (go_at_call 84; with_reducible exact Calls.regrown_of (of_same (HN2.out _))) | (go_at_call 84; with_reducible exact Calls.regrown_of (of_same (HN3.out _))) | (go_at_call 130; with_reducible exact Calls.regrown_of (HPT.out _ (H.out.below (HB3.out.trans ((below_regrown _ _ _).mono HB3.out.size))))))) | quiet_step ((first | (go_at_call 84; with_reducible exact Calls.regrown_of (of_same (HN1.out _))) | (go_at_call 84; with_reducible exact Calls.regrown_of (of_same (HN2.out _))) | (go_at_call 84; with_reducible exact Calls.regrown_of (of_same (HN3.out _))) | (go_at_call 130; with_reducible exact Calls.regrown_of (HPT.out _ (H.out.below (HB3.out.trans ((below_regrown _ _ _).mono HB3.out.size)))))))))
  refine wpQuiet_nil ?_
  intro w1 hw1
  have hb1 := below_anyY hw1
  clear hw1 hr9 hr10 hr11 hr12 hr13
  clear hc4 hc5 hc6 hc7 hc8
  have HF14 := Lib.hid (blk_below HF2.out hb1)
  have HB15 := Lib.hid (HB3.out.trans (hb1.mono HB3.out.size))
  clear hb1 HB3 HF2
  have HF16 := Lib.hid (blk_alloc HF14.out (.cells #[.int .i64 x, .int .i64 x2, .int .i64 x3, .int .i64 y] 49 (0, 0)))
  have HF17 := Lib.hid (blk_new w1 (.cells #[.int .i64 x, .int .i64 x2, .int .i64 x3, .int .i64 y] 49 (0, 0)))
  have HB18 := Lib.hid (HB15.out.alloc HB15.out.size (.cells #[.int .i64 x, .int .i64 x2, .int .i64 x3, .int .i64 y] 49 (0, 0)))
  clear HB15
  go_wp2_with fail
  refine (orE_any _ 0 4 4 [x, x2, x3, y] _ (rd_blk (f := ieC) (s := 1) (fun _ => rfl) [x, x2, x3, y] HF17.out rfl) (by omega)).mono ?_
  rintro e w' ⟨rfl, rfl⟩
  go_wp2_with fail
  go_ret
  exact ⟨retI HV.out, HB18.out⟩
end Go.Proofs.YtagenkofoacajaaGreat

namespace Go.Proofs.YtagenkofoacajaaGreat
open Go.RowKit Vi

set_option maxRecDepth 100000 in
set_option maxHeartbeats 4000000 in
theorem rprops_any (A : Option Addr) (n c : Nat) (ps : List Pr) (w : World) (h : RdX prC 4 w A n ps) (hn : (n : Int) ≤ 9223372036854775807) (ht : ∀ p ∈ ps, p.1.size ≤ maxLen) :
    Calls Tryz.prog 78 #[.slice A n c] w fun e w' => e = .returned (.int .i64 (prW ps)) ∧ Below w.heap.size w w' := by
  have H := Lib.hid h
  have L := Lib.hid h.1
  have HT := Lib.hid ht
  clear h ht
  by_cases h8 : 8 < n
  · have d1 : decide ((8 : Int) < (n : Int)) = true := decide_eq_true (by omega)
    have HV := Lib.hid (show (5 : Int) = prW ps by unfold prW; rw [if_pos (by rw [L.out]; exact h8)])
    go_enter Tryz.func78, Tryz.ntmps78
    go_wp2_with fail
    go_ret
    exact ⟨retI HV.out, Below.refl _ _⟩
  · have d1 : decide ((8 : Int) < (n : Int)) = false := decide_eq_false (by omega)
    have HV := Lib.hid (show prE ⟨#[]⟩ ps = prW ps by unfold prW; rw [if_neg (by rw [L.out]; exact h8)])
    go_enter Tryz.func78, Tryz.ntmps78
    go_wp2_with fail
    go_loopw [3] (fun i wr => ∃ (k : Nat), i = .int .i64 (k : Int) ∧ k ≤ n ∧ prE (prevP ps k) (ps.drop k) = prE ⟨#[]⟩ ps ∧ Below w.heap.size w wr) (fun i _ => n - (intOf i).toNat)
    case atStart => exact ⟨0, rfl, Nat.zero_le _, rfl, Below.refl _ _⟩
    case round =>
      obtain ⟨k, rfl, hk, hs, hb⟩ := hrel
      have HS := Lib.hid hs
      have HB := Lib.hid hb
      clear hs hb
      by_cases hlt : k < n
      · have hd1 : decide ((k : Int) < (n : Int)) = true := decide_eq_true (by omega)
        obtain ⟨b, off, hl, rfl, hbb, _⟩ := (H.out.below HB.out).at hlt
        have HA := Lib.hid (prE_at (prevP ps k) ps k hl)
        have hsz := HT.out _ (List.getElem_mem hl)
        have HPS := Lib.hid (prevP_succ ps k hl)
        obtain ⟨x, hx⟩ : ∃ x, ps[k] = x := ⟨_, rfl⟩
        have HX := Lib.hid (show ps[k]? = some x by rw [List.getElem?_eq_getElem hl, hx])
        rw [hx] at HA hsz HPS
        obtain ⟨s, a, d, t⟩ := x
        have HPS : Hid (prevP ps (k + 1) = s) := HPS
        have hsz : s.size ≤ maxLen := hsz
        have hi0 : (0 : Int) ≤ (k : Int) := by omega
        have HC := Lib.hid (fun W : World => refIs_any s W hsz)
        have HD := Lib.hid (fun W : World => vis_any a d t W)
        clear hx hsz
        cases hn1 : nm s with
        | false =>
          rw [hn1] at HC
          have HR := Lib.hid (show (2 : Int) = prW ps by rw [← HV.out, ← HS.out, HA.out, if_pos (by unfold okP; rw [show nm (s, a, d, t).1 = false from hn1]; rfl)])
          clear hn1
          have hc101 : wr.cell? ⟨b, off + k * 4, none⟩ = some (.string s) := (H.out.below HB.out).cellAt HX.out hlt 0 _ rfl
          have hc102 : wr.cell? ⟨b, off + k * 4 + 1, none⟩ = some (.int .i64 a) := (H.out.below HB.out).cellAt HX.out hlt 1 _ rfl
          have hc103 : wr.cell? ⟨b, off + k * 4 + 2, none⟩ = some (.int .i64 d) := (H.out.below HB.out).cellAt HX.out hlt 2 _ rfl
          have hc104 : wr.cell? ⟨b, off + k * 4 + 3, none⟩ = some (.string t) := (H.out.below HB.out).cellAt HX.out hlt 3 _ rfl
          go_wp2_with fail
          refine (HC.out wr).mono ?_
          rintro e w' ⟨rfl, rfl⟩
          go_wp2_with fail
          go_ret
          exact ⟨retI HR.out, HB.out⟩
        | true =>
          rw [hn1] at HC
          have HNM := Lib.hid hn1
          clear hn1
          cases hv : vok a d t with
          | false =>
            rw [hv] at HD
            have HR := Lib.hid (show (2 : Int) = prW ps by rw [← HV.out, ← HS.out, HA.out, if_pos (by unfold okP; rw [show vok (s, a, d, t).2.1 (s, a, d, t).2.2.1 (s, a, d, t).2.2.2 = false from hv]; simp)])
            clear hv
            have hc101 : wr.cell? ⟨b, off + k * 4, none⟩ = some (.string s) := (H.out.below HB.out).cellAt HX.out hlt 0 _ rfl
            have hc102 : wr.cell? ⟨b, off + k * 4 + 1, none⟩ = some (.int .i64 a) := (H.out.below HB.out).cellAt HX.out hlt 1 _ rfl
            have hc103 : wr.cell? ⟨b, off + k * 4 + 2, none⟩ = some (.int .i64 d) := (H.out.below HB.out).cellAt HX.out hlt 2 _ rfl
            have hc104 : wr.cell? ⟨b, off + k * 4 + 3, none⟩ = some (.string t) := (H.out.below HB.out).cellAt HX.out hlt 3 _ rfl
            go_wp2_with fail
            refine (HC.out wr).mono ?_
            rintro e w' ⟨rfl, rfl⟩
            go_wp2_with fail
            clear hc101 hc102 hc103 hc104
            refine (HD.out wr).mono ?_
            rintro e w11 ⟨rfl, hb11⟩
            have HB105 := Lib.hid (HB.out.trans (hb11.mono HB.out.size))
            clear hb11 HB 
            go_wp2_with fail
            go_ret
            exact ⟨retI HR.out, HB105.out⟩
          | true =>
            rw [hv] at HD
            have HNB := Lib.hid (show ¬ okP (s, a, d, t) = false by unfold okP; rw [show vok (s, a, d, t).2.1 (s, a, d, t).2.2.1 (s, a, d, t).2.2.2 = true from hv, show nm (s, a, d, t).1 = true from HNM.out]; simp)
            clear hv
            rcases Nat.eq_zero_or_pos k with h0 | hpos
            · have HR := Lib.hid (show prE (prevP ps (k + 1)) (ps.drop (k + 1)) = prE ⟨#[]⟩ ps by
                rw [HPS.out, ← HS.out, HA.out, if_neg HNB.out, if_neg]
                rw [show prevP ps k = ⟨#[]⟩ by rw [h0]; rfl, show leS (s, a, d, t).1 ⟨#[]⟩ = false from le_nil s HNM.out]; simp)
              have hd0 : decide ((0 : Int) < (k : Int)) = false := decide_eq_false (by omega)
              have hd0n : decide (0 < k) = false := decide_eq_false (by omega)
              clear h0
              have hc101 : wr.cell? ⟨b, off + k * 4, none⟩ = some (.string s) := (H.out.below HB.out).cellAt HX.out hlt 0 _ rfl
              have hc102 : wr.cell? ⟨b, off + k * 4 + 1, none⟩ = some (.int .i64 a) := (H.out.below HB.out).cellAt HX.out hlt 1 _ rfl
              have hc103 : wr.cell? ⟨b, off + k * 4 + 2, none⟩ = some (.int .i64 d) := (H.out.below HB.out).cellAt HX.out hlt 2 _ rfl
              have hc104 : wr.cell? ⟨b, off + k * 4 + 3, none⟩ = some (.string t) := (H.out.below HB.out).cellAt HX.out hlt 3 _ rfl
              go_wp2_with fail
              refine (HC.out wr).mono ?_
              rintro e w' ⟨rfl, rfl⟩
              go_wp2_with fail
              clear hc101 hc102 hc103 hc104
              refine (HD.out wr).mono ?_
              rintro e w11 ⟨rfl, hb11⟩
              have HB105 := Lib.hid (HB.out.trans (hb11.mono HB.out.size))
              clear hb11 HB 
              go_wp2_with fail
              refine wp_region_quiet_below (by kernel_rfl) (by kernel_rfl) ?_
              repeat (any_goals (first | go_big_quiet_step (fail) | quiet_step (fail)))
              refine wpQuiet_nil ?_
              intro w12 hw12
              have hb12 := below_anyY hw12
              clear hw12 
              have HB106 := Lib.hid (HB105.out.trans (hb12.mono HB105.out.size))
              clear hb12 HB105 
              go_wp2_with fail
              go_roundw
              case rel => exact ⟨k + 1, by go_num, by omega, HR.out, HB106.out⟩
              case measure => simp [intOf] <;> omega
            · obtain ⟨m, rfl⟩ : ∃ m, k = m + 1 := ⟨k - 1, by omega⟩
              have hml : m < ps.length := by omega
              have hltm : m < n := by omega
              obtain ⟨y, hy⟩ : ∃ y, ps[m] = y := ⟨_, rfl⟩
              have HXM := Lib.hid (show ps[m]? = some y by rw [List.getElem?_eq_getElem hml, hy])
              have HPM := Lib.hid (prevP_succ ps m hml)
              rw [hy] at HPM
              obtain ⟨p, ya, yd, yt⟩ := y
              have HPM : Hid (prevP ps (m + 1) = p) := HPM
              have hi1 : (0 : Int) ≤ (m : Int) := by omega
              have hi2 : (m : Int) < (n : Int) := by omega
              clear hy
              rcases leS_cases s p with ⟨g1, hg⟩ | ⟨g1, g2, hg⟩ | ⟨g1, g2, hg⟩
              · have HR := Lib.hid (show (4 : Int) = prW ps by rw [← HV.out, ← HS.out, HA.out, if_neg HNB.out, if_pos (by rw [HPM.out]; exact hg)])
                clear hg
                have hc101 : wr.cell? ⟨b, off + (m + 1) * 4, none⟩ = some (.string s) := (H.out.below HB.out).cellAt HX.out hlt 0 _ rfl
                have hc102 : wr.cell? ⟨b, off + (m + 1) * 4 + 1, none⟩ = some (.int .i64 a) := (H.out.below HB.out).cellAt HX.out hlt 1 _ rfl
                have hc103 : wr.cell? ⟨b, off + (m + 1) * 4 + 2, none⟩ = some (.int .i64 d) := (H.out.below HB.out).cellAt HX.out hlt 2 _ rfl
                have hc104 : wr.cell? ⟨b, off + (m + 1) * 4 + 3, none⟩ = some (.string t) := (H.out.below HB.out).cellAt HX.out hlt 3 _ rfl
                go_wp2_with fail
                refine (HC.out wr).mono ?_
                rintro e w' ⟨rfl, rfl⟩
                go_wp2_with fail
                clear hc101 hc102 hc103 hc104
                refine (HD.out wr).mono ?_
                rintro e w11 ⟨rfl, hb11⟩
                have HB105 := Lib.hid (HB.out.trans (hb11.mono HB.out.size))
                clear hb11 HB 
                have hc106 : w11.cell? ⟨b, off + (m + 1) * 4, none⟩ = some (.string s) := (H.out.below HB105.out).cellAt HX.out hlt 0 _ rfl
                have hc107 : w11.cell? ⟨b, off + m * 4, none⟩ = some (.string p) := (H.out.below HB105.out).cellAt HXM.out hltm 0 _ rfl
                go_wp2_with fail
                have hr108 := fun d os => cell_regrown hc106 d os
                have hr109 := fun d os => cell_regrown hc107 d os
                refine wp_region_quiet_below (by kernel_rfl) (by kernel_rfl) ?_
                repeat (any_goals (first | go_big_quiet_step (fail) | quiet_step (fail)))
                refine wpQuiet_nil ?_
                intro w12 hw12
                have hb12 := below_anyY hw12
                clear hw12 hr108 hr109
                clear hc106 hc107
                have HB110 := Lib.hid (HB105.out.trans (hb12.mono HB105.out.size))
                clear hb12 HB105 
                go_wp2_with fail
                go_ret
                exact ⟨retI HR.out, HB110.out⟩
              · have HR := Lib.hid (show (4 : Int) = prW ps by rw [← HV.out, ← HS.out, HA.out, if_neg HNB.out, if_pos (by rw [HPM.out]; exact hg)])
                clear hg
                have hc101 : wr.cell? ⟨b, off + (m + 1) * 4, none⟩ = some (.string s) := (H.out.below HB.out).cellAt HX.out hlt 0 _ rfl
                have hc102 : wr.cell? ⟨b, off + (m + 1) * 4 + 1, none⟩ = some (.int .i64 a) := (H.out.below HB.out).cellAt HX.out hlt 1 _ rfl
                have hc103 : wr.cell? ⟨b, off + (m + 1) * 4 + 2, none⟩ = some (.int .i64 d) := (H.out.below HB.out).cellAt HX.out hlt 2 _ rfl
                have hc104 : wr.cell? ⟨b, off + (m + 1) * 4 + 3, none⟩ = some (.string t) := (H.out.below HB.out).cellAt HX.out hlt 3 _ rfl
                go_wp2_with fail
                refine (HC.out wr).mono ?_
                rintro e w' ⟨rfl, rfl⟩
                go_wp2_with fail
                clear hc101 hc102 hc103 hc104
                refine (HD.out wr).mono ?_
                rintro e w11 ⟨rfl, hb11⟩
                have HB105 := Lib.hid (HB.out.trans (hb11.mono HB.out.size))
                clear hb11 HB 
                have hc106 : w11.cell? ⟨b, off + (m + 1) * 4, none⟩ = some (.string s) := (H.out.below HB105.out).cellAt HX.out hlt 0 _ rfl
                have hc107 : w11.cell? ⟨b, off + m * 4, none⟩ = some (.string p) := (H.out.below HB105.out).cellAt HXM.out hltm 0 _ rfl
                go_wp2_with fail
                have hr108 := fun d os => cell_regrown hc106 d os
                have hr109 := fun d os => cell_regrown hc107 d os
                refine wp_region_quiet_below (by kernel_rfl) (by kernel_rfl) ?_
                repeat (any_goals (first | go_big_quiet_step (fail) | quiet_step (fail)))
                refine wpQuiet_nil ?_
                intro w12 hw12
                have hb12 := below_anyY hw12
                clear hw12 hr108 hr109
                clear hc106 hc107
                have HB110 := Lib.hid (HB105.out.trans (hb12.mono HB105.out.size))
                clear hb12 HB105 
                go_wp2_with fail
                go_ret
                exact ⟨retI HR.out, HB110.out⟩
              · have HR := Lib.hid (show prE (prevP ps (m + 1 + 1)) (ps.drop (m + 1 + 1)) = prE ⟨#[]⟩ ps by
                  rw [HPS.out, ← HS.out, HA.out, if_neg HNB.out, if_neg]
                  rw [HPM.out, show leS (s, a, d, t).1 p = false from hg]; simp)
                clear hg
                have hc101 : wr.cell? ⟨b, off + (m + 1) * 4, none⟩ = some (.string s) := (H.out.below HB.out).cellAt HX.out hlt 0 _ rfl
                have hc102 : wr.cell? ⟨b, off + (m + 1) * 4 + 1, none⟩ = some (.int .i64 a) := (H.out.below HB.out).cellAt HX.out hlt 1 _ rfl
                have hc103 : wr.cell? ⟨b, off + (m + 1) * 4 + 2, none⟩ = some (.int .i64 d) := (H.out.below HB.out).cellAt HX.out hlt 2 _ rfl
                have hc104 : wr.cell? ⟨b, off + (m + 1) * 4 + 3, none⟩ = some (.string t) := (H.out.below HB.out).cellAt HX.out hlt 3 _ rfl
                go_wp2_with fail
                refine (HC.out wr).mono ?_
                rintro e w' ⟨rfl, rfl⟩
                go_wp2_with fail
                clear hc101 hc102 hc103 hc104
                refine (HD.out wr).mono ?_
                rintro e w11 ⟨rfl, hb11⟩
                have HB105 := Lib.hid (HB.out.trans (hb11.mono HB.out.size))
                clear hb11 HB 
                have hc106 : w11.cell? ⟨b, off + (m + 1) * 4, none⟩ = some (.string s) := (H.out.below HB105.out).cellAt HX.out hlt 0 _ rfl
                have hc107 : w11.cell? ⟨b, off + m * 4, none⟩ = some (.string p) := (H.out.below HB105.out).cellAt HXM.out hltm 0 _ rfl
                go_wp2_with fail
                have hr108 := fun d os => cell_regrown hc106 d os
                have hr109 := fun d os => cell_regrown hc107 d os
                refine wp_region_quiet_below (by kernel_rfl) (by kernel_rfl) ?_
                repeat (any_goals (first | go_big_quiet_step (fail) | quiet_step (fail)))
                refine wpQuiet_nil ?_
                intro w12 hw12
                have hb12 := below_anyY hw12
                clear hw12 hr108 hr109
                clear hc106 hc107
                have HB110 := Lib.hid (HB105.out.trans (hb12.mono HB105.out.size))
                clear hb12 HB105 
                go_wp2_with fail
                go_roundw
                case rel => exact ⟨m + 1 + 1, by go_num, by omega, HR.out, HB110.out⟩
                case measure => simp [intOf] <;> omega
      · have hd1 : decide ((k : Int) < (n : Int)) = false := decide_eq_false (by omega)
        have HR := Lib.hid (show (0 : Int) = prW ps by rw [← HV.out, ← HS.out, prE_end _ ps k (by rw [L.out]; omega)])
        go_wp2_with fail
        go_ret
        exact ⟨retI HR.out, HB.out⟩
set_option maxRecDepth 100000 in
set_option maxHeartbeats 2000000 in
theorem rrest_any (A A2 : Option Addr) (n c n2 c2 : Nat) (ss : List ByteArray) (ps : List Pr) (w : World) (h : LP w A n ss A2 n2 ps) (k : LOk n ss n2 ps) :
    Calls Tryz.prog 54 #[.slice A n c, .slice A2 n2 c2] w fun e w' => e = .returned (.int .i64 (rsW ss ps)) ∧ Below w.heap.size w w' := by
  have H := Lib.hid h
  have L := Lib.hid h.l.1
  have hm := k.n
  have hm2 := k.n2
  unfold maxLen at hm hm2
  have HRW := Lib.hid (fun (W : World) (g : SlN W A n ss) => of_drew (refRow_any A n c ss W g k.n k.s))
  have HPW := Lib.hid (fun (W : World) (g : RdX prC 4 W A2 n2 ps) => rprops_any A2 n2 c2 ps W g (by omega) k.p)
  clear h k
  by_cases h8 : 8 < n
  · have d1 : decide ((8 : Int) < (n : Int)) = true := decide_eq_true (by omega)
    have HV := Lib.hid (show (5 : Int) = rsW ss ps by unfold rsW; rw [if_pos (by rw [L.out]; exact h8)])
    go_enter Tryz.func54, Tryz.ntmps54
    go_wp2_with fail
    go_ret
    exact ⟨retI HV.out, Below.refl _ _⟩
  · have d1 : decide ((8 : Int) < (n : Int)) = false := decide_eq_false (by omega)
    have HQ := Lib.hid (show rsW ss ps = if rowE ⟨#[]⟩ ss ≠ 0 then rowE ⟨#[]⟩ ss else prW ps by unfold rsW; rw [if_neg (show ¬ 8 < ss.length by rw [L.out]; exact h8)])
    obtain ⟨x, hx⟩ : ∃ x, x = rowE ⟨#[]⟩ ss := ⟨_, rfl⟩
    rw [← hx] at HRW HQ
    clear hx h8
    by_cases hz : x = 0
    · have hz1 : (x != 0) = false := by rw [hz]; rfl
      have HV := Lib.hid (show prW ps = rsW ss ps by rw [HQ.out, if_neg (by omega)])
      clear hz
      have HB1 := Lib.hid (Below.refl w.heap.size w)
      go_enter Tryz.func54, Tryz.ntmps54
      go_wp2_with fail
      refine (HRW.out w (H.out.l.later HB1.out)).mono ?_
      rintro e w1 ⟨rfl, hb1⟩
      have HB2 := Lib.hid (HB1.out.trans (hb1.mono HB1.out.size))
      clear hb1 HB1 
      go_wp2_with fail
      refine (HPW.out w1 (H.out.p.below HB2.out)).mono ?_
      rintro e w2 ⟨rfl, hb2⟩
      have HB3 := Lib.hid (HB2.out.trans (hb2.mono HB2.out.size))
      clear hb2 HB2 
      go_wp2_with fail
      go_ret
      exact ⟨retI HV.out, HB3.out⟩
    · have hz1 : (x != 0) = true := by simpa using hz
      have HV := Lib.hid (show x = rsW ss ps by rw [HQ.out, if_pos hz])
      clear hz
      have HB1 := Lib.hid (Below.refl w.heap.size w)
      go_enter Tryz.func54, Tryz.ntmps54
      go_wp2_with fail
      refine (HRW.out w (H.out.l.later HB1.out)).mono ?_
      rintro e w1 ⟨rfl, hb1⟩
      have HB2 := Lib.hid (HB1.out.trans (hb1.mono HB1.out.size))
      clear hb1 HB1 
      go_wp2_with fail
      go_ret
      exact ⟨retI HV.out, HB2.out⟩
set_option maxRecDepth 100000 in
set_option maxHeartbeats 2000000 in
theorem rnode_any (i : ByteArray) (A A2 : Option Addr) (n c n2 c2 : Nat) (ss : List ByteArray) (ps : List Pr) (w : World) (h : LP w A n ss A2 n2 ps) (k : LOk n ss n2 ps) (hi : i.size ≤ maxLen) :
    Calls Tryz.prog 28 #[.agg #[.string i, .slice A n c, .slice A2 n2 c2]] w fun e w' => e = .returned (.int .i64 (ndW i ss ps)) ∧ Below w.heap.size w w' := by
  have H := Lib.hid h
  have HPT := Lib.hid (fun (W : World) (g : LP W A n ss A2 n2 ps) => rrest_any A A2 n c n2 c2 ss ps W g k)
  have HNK := Lib.hid (fun W : World => refIs_any i W hi)
  clear h k
  cases hn : nm i with
  | false =>
    rw [hn] at HNK
    have HV := Lib.hid (show (2 : Int) = ndW i ss ps by unfold ndW; rw [if_pos hn])
    clear hn
    have HB1 := Lib.hid (Below.refl w.heap.size w)
    go_enter Tryz.func28, Tryz.ntmps28
    have HF2 := Lib.hid (blk_new w (.cells #[.string i, .slice A n c, .slice A2 n2 c2] 32 (0, 0)))
    have HB3 := Lib.hid (HB1.out.alloc HB1.out.size (.cells #[.string i, .slice A n c, .slice A2 n2 c2] 32 (0, 0)))
    clear HB1
    have hc4 : (w.alloc (.cells #[.string i, .slice A n c, .slice A2 n2 c2] 32 (0, 0))).cell? ⟨w.heap.size, 0, none⟩ = some (.string i) := by rw [cell_of_row _ _ _ _ _ _ HF2.out]; rfl
    have hc5 : (w.alloc (.cells #[.string i, .slice A n c, .slice A2 n2 c2] 32 (0, 0))).cell? ⟨w.heap.size, 1, none⟩ = some (.slice A n c) := by rw [cell_of_row _ _ _ _ _ _ HF2.out]; rfl
    have hc6 : (w.alloc (.cells #[.string i, .slice A n c, .slice A2 n2 c2] 32 (0, 0))).cell? ⟨w.heap.size, 2, none⟩ = some (.slice A2 n2 c2) := by rw [cell_of_row _ _ _ _ _ _ HF2.out]; rfl
    go_wp2_with fail
    refine (HNK.out (w.alloc (.cells #[.string i, .slice A n c, .slice A2 n2 c2] 32 (0, 0)))).mono ?_
    rintro e w' ⟨rfl, rfl⟩
    go_wp2_with fail
    go_ret
    exact ⟨retI HV.out, HB3.out⟩
  | true =>
    rw [hn] at HNK
    have HV := Lib.hid (show rsW ss ps = ndW i ss ps by unfold ndW; rw [if_neg (by rw [hn]; simp)])
    clear hn
    have HB1 := Lib.hid (Below.refl w.heap.size w)
    go_enter Tryz.func28, Tryz.ntmps28
    have HF2 := Lib.hid (blk_new w (.cells #[.string i, .slice A n c, .slice A2 n2 c2] 32 (0, 0)))
    have HB3 := Lib.hid (HB1.out.alloc HB1.out.size (.cells #[.string i, .slice A n c, .slice A2 n2 c2] 32 (0, 0)))
    clear HB1
    have hc4 : (w.alloc (.cells #[.string i, .slice A n c, .slice A2 n2 c2] 32 (0, 0))).cell? ⟨w.heap.size, 0, none⟩ = some (.string i) := by rw [cell_of_row _ _ _ _ _ _ HF2.out]; rfl
    have hc5 : (w.alloc (.cells #[.string i, .slice A n c, .slice A2 n2 c2] 32 (0, 0))).cell? ⟨w.heap.size, 1, none⟩ = some (.slice A n c) := by rw [cell_of_row _ _ _ _ _ _ HF2.out]; rfl
    have hc6 : (w.alloc (.cells #[.string i, .slice A n c, .slice A2 n2 c2] 32 (0, 0))).cell? ⟨w.heap.size, 2, none⟩ = some (.slice A2 n2 c2) := by rw [cell_of_row _ _ _ _ _ _ HF2.out]; rfl
    go_wp2_with fail
    refine (HNK.out (w.alloc (.cells #[.string i, .slice A n c, .slice A2 n2 c2] 32 (0, 0)))).mono ?_
    rintro e w' ⟨rfl, rfl⟩
    go_wp2_with fail
    clear hc4 hc5 hc6
    refine (HPT.out (w.alloc (.cells #[.string i, .slice A n c, .slice A2 n2 c2] 32 (0, 0))) (H.out.below HB3.out)).mono ?_
    rintro e w1 ⟨rfl, hb1⟩
    have HF7 := Lib.hid (blk_below HF2.out hb1)
    have HB8 := Lib.hid (HB3.out.trans (hb1.mono HB3.out.size))
    clear hb1 HB3 HF2
    go_wp2_with fail
    go_ret
    exact ⟨retI HV.out, HB8.out⟩
set_option maxRecDepth 100000 in
set_option maxHeartbeats 2000000 in
theorem redge_any (i f g : ByteArray) (A A2 : Option Addr) (n c n2 c2 : Nat) (ss : List ByteArray) (ps : List Pr) (w : World) (h : LP w A n ss A2 n2 ps) (k : LOk n ss n2 ps) (hi : i.size ≤ maxLen) (hf : f.size ≤ maxLen) (hg : g.size ≤ maxLen) :
    Calls Tryz.prog 29 #[.agg #[.string i, .string f, .string g, .slice A n c, .slice A2 n2 c2]] w fun e w' => e = .returned (.int .i64 (edW i f g ss ps)) ∧ Below w.heap.size w w' := by
  have H := Lib.hid h
  have HPT := Lib.hid (fun (W : World) (q : LP W A n ss A2 n2 ps) => rrest_any A A2 n c n2 c2 ss ps W q k)
  have HN1 := Lib.hid (fun W : World => refIs_any i W hi)
  have HN2 := Lib.hid (fun W : World => refIs_any f W hf)
  have HN3 := Lib.hid (fun W : World => refIs_any g W hg)
  clear h k
  cases h1 : nm i with
  | false =>
    rw [h1] at HN1
    have HV := Lib.hid (show (2 : Int) = edW i f g ss ps by unfold edW; rw [if_pos h1])
    clear h1
    have HB1 := Lib.hid (Below.refl w.heap.size w)
    go_enter Tryz.func29, Tryz.ntmps29
    have HF2 := Lib.hid (blk_new w (.cells #[.string i, .string f, .string g, .slice A n c, .slice A2 n2 c2] 36 (0, 0)))
    have HB3 := Lib.hid (HB1.out.alloc HB1.out.size (.cells #[.string i, .string f, .string g, .slice A n c, .slice A2 n2 c2] 36 (0, 0)))
    clear HB1
    have hc4 : (w.alloc (.cells #[.string i, .string f, .string g, .slice A n c, .slice A2 n2 c2] 36 (0, 0))).cell? ⟨w.heap.size, 0, none⟩ = some (.string i) := by rw [cell_of_row _ _ _ _ _ _ HF2.out]; rfl
    have hc5 : (w.alloc (.cells #[.string i, .string f, .string g, .slice A n c, .slice A2 n2 c2] 36 (0, 0))).cell? ⟨w.heap.size, 1, none⟩ = some (.string f) := by rw [cell_of_row _ _ _ _ _ _ HF2.out]; rfl
    have hc6 : (w.alloc (.cells #[.string i, .string f, .string g, .slice A n c, .slice A2 n2 c2] 36 (0, 0))).cell? ⟨w.heap.size, 2, none⟩ = some (.string g) := by rw [cell_of_row _ _ _ _ _ _ HF2.out]; rfl
    have hc7 : (w.alloc (.cells #[.string i, .string f, .string g, .slice A n c, .slice A2 n2 c2] 36 (0, 0))).cell? ⟨w.heap.size, 3, none⟩ = some (.slice A n c) := by rw [cell_of_row _ _ _ _ _ _ HF2.out]; rfl
    have hc8 : (w.alloc (.cells #[.string i, .string f, .string g, .slice A n c, .slice A2 n2 c2] 36 (0, 0))).cell? ⟨w.heap.size, 4, none⟩ = some (.slice A2 n2 c2) := by rw [cell_of_row _ _ _ _ _ _ HF2.out]; rfl
    go_wp2_with fail
    refine (HN1.out (w.alloc (.cells #[.string i, .string f, .string g, .slice A n c, .slice A2 n2 c2] 36 (0, 0)))).mono ?_
    rintro e w' ⟨rfl, rfl⟩
    go_wp2_with fail
    go_ret
    exact ⟨retI HV.out, HB3.out⟩
  | true =>
    rw [h1] at HN1
    have HV1 := Lib.hid (show edW i f g ss ps = _ by unfold edW; rw [if_neg (by rw [h1]; simp)])
    clear h1
    cases h2 : nm f with
    | false =>
      rw [h2] at HN2
      have HV := Lib.hid (show (2 : Int) = edW i f g ss ps by rw [HV1.out, if_pos h2])
      clear h2
      have HB1 := Lib.hid (Below.refl w.heap.size w)
      go_enter Tryz.func29, Tryz.ntmps29
      have HF2 := Lib.hid (blk_new w (.cells #[.string i, .string f, .string g, .slice A n c, .slice A2 n2 c2] 36 (0, 0)))
      have HB3 := Lib.hid (HB1.out.alloc HB1.out.size (.cells #[.string i, .string f, .string g, .slice A n c, .slice A2 n2 c2] 36 (0, 0)))
      clear HB1
      have hc4 : (w.alloc (.cells #[.string i, .string f, .string g, .slice A n c, .slice A2 n2 c2] 36 (0, 0))).cell? ⟨w.heap.size, 0, none⟩ = some (.string i) := by rw [cell_of_row _ _ _ _ _ _ HF2.out]; rfl
      have hc5 : (w.alloc (.cells #[.string i, .string f, .string g, .slice A n c, .slice A2 n2 c2] 36 (0, 0))).cell? ⟨w.heap.size, 1, none⟩ = some (.string f) := by rw [cell_of_row _ _ _ _ _ _ HF2.out]; rfl
      have hc6 : (w.alloc (.cells #[.string i, .string f, .string g, .slice A n c, .slice A2 n2 c2] 36 (0, 0))).cell? ⟨w.heap.size, 2, none⟩ = some (.string g) := by rw [cell_of_row _ _ _ _ _ _ HF2.out]; rfl
      have hc7 : (w.alloc (.cells #[.string i, .string f, .string g, .slice A n c, .slice A2 n2 c2] 36 (0, 0))).cell? ⟨w.heap.size, 3, none⟩ = some (.slice A n c) := by rw [cell_of_row _ _ _ _ _ _ HF2.out]; rfl
      have hc8 : (w.alloc (.cells #[.string i, .string f, .string g, .slice A n c, .slice A2 n2 c2] 36 (0, 0))).cell? ⟨w.heap.size, 4, none⟩ = some (.slice A2 n2 c2) := by rw [cell_of_row _ _ _ _ _ _ HF2.out]; rfl
      go_wp2_with fail
      refine (HN1.out (w.alloc (.cells #[.string i, .string f, .string g, .slice A n c, .slice A2 n2 c2] 36 (0, 0)))).mono ?_
      rintro e w' ⟨rfl, rfl⟩
      go_wp2_with fail
      refine (HN2.out (w.alloc (.cells #[.string i, .string f, .string g, .slice A n c, .slice A2 n2 c2] 36 (0, 0)))).mono ?_
      rintro e w' ⟨rfl, rfl⟩
      go_wp2_with fail
      go_ret
      exact ⟨retI HV.out, HB3.out⟩
    | true =>
      rw [h2] at HN2
      have HV2 := Lib.hid (HV1.out.trans (if_neg (by rw [h2]; simp)))
      clear h2
      cases h3 : nm g with
      | false =>
        rw [h3] at HN3
        have HV := Lib.hid (show (2 : Int) = edW i f g ss ps by rw [HV2.out, if_pos h3])
        clear h3
        have HB1 := Lib.hid (Below.refl w.heap.size w)
        go_enter Tryz.func29, Tryz.ntmps29
        have HF2 := Lib.hid (blk_new w (.cells #[.string i, .string f, .string g, .slice A n c, .slice A2 n2 c2] 36 (0, 0)))
        have HB3 := Lib.hid (HB1.out.alloc HB1.out.size (.cells #[.string i, .string f, .string g, .slice A n c, .slice A2 n2 c2] 36 (0, 0)))
        clear HB1
        have hc4 : (w.alloc (.cells #[.string i, .string f, .string g, .slice A n c, .slice A2 n2 c2] 36 (0, 0))).cell? ⟨w.heap.size, 0, none⟩ = some (.string i) := by rw [cell_of_row _ _ _ _ _ _ HF2.out]; rfl
        have hc5 : (w.alloc (.cells #[.string i, .string f, .string g, .slice A n c, .slice A2 n2 c2] 36 (0, 0))).cell? ⟨w.heap.size, 1, none⟩ = some (.string f) := by rw [cell_of_row _ _ _ _ _ _ HF2.out]; rfl
        have hc6 : (w.alloc (.cells #[.string i, .string f, .string g, .slice A n c, .slice A2 n2 c2] 36 (0, 0))).cell? ⟨w.heap.size, 2, none⟩ = some (.string g) := by rw [cell_of_row _ _ _ _ _ _ HF2.out]; rfl
        have hc7 : (w.alloc (.cells #[.string i, .string f, .string g, .slice A n c, .slice A2 n2 c2] 36 (0, 0))).cell? ⟨w.heap.size, 3, none⟩ = some (.slice A n c) := by rw [cell_of_row _ _ _ _ _ _ HF2.out]; rfl
        have hc8 : (w.alloc (.cells #[.string i, .string f, .string g, .slice A n c, .slice A2 n2 c2] 36 (0, 0))).cell? ⟨w.heap.size, 4, none⟩ = some (.slice A2 n2 c2) := by rw [cell_of_row _ _ _ _ _ _ HF2.out]; rfl
        go_wp2_with fail
        refine (HN1.out (w.alloc (.cells #[.string i, .string f, .string g, .slice A n c, .slice A2 n2 c2] 36 (0, 0)))).mono ?_
        rintro e w' ⟨rfl, rfl⟩
        go_wp2_with fail
        refine (HN2.out (w.alloc (.cells #[.string i, .string f, .string g, .slice A n c, .slice A2 n2 c2] 36 (0, 0)))).mono ?_
        rintro e w' ⟨rfl, rfl⟩
        go_wp2_with fail
        refine (HN3.out (w.alloc (.cells #[.string i, .string f, .string g, .slice A n c, .slice A2 n2 c2] 36 (0, 0)))).mono ?_
        rintro e w' ⟨rfl, rfl⟩
        go_wp2_with fail
        go_ret
        exact ⟨retI HV.out, HB3.out⟩
      | true =>
        rw [h3] at HN3
        have HV := Lib.hid (show rsW ss ps = edW i f g ss ps by rw [HV2.out, if_neg (by rw [h3]; simp)])
        clear h3
        have HB1 := Lib.hid (Below.refl w.heap.size w)
        go_enter Tryz.func29, Tryz.ntmps29
        have HF2 := Lib.hid (blk_new w (.cells #[.string i, .string f, .string g, .slice A n c, .slice A2 n2 c2] 36 (0, 0)))
        have HB3 := Lib.hid (HB1.out.alloc HB1.out.size (.cells #[.string i, .string f, .string g, .slice A n c, .slice A2 n2 c2] 36 (0, 0)))
        clear HB1
        have hc4 : (w.alloc (.cells #[.string i, .string f, .string g, .slice A n c, .slice A2 n2 c2] 36 (0, 0))).cell? ⟨w.heap.size, 0, none⟩ = some (.string i) := by rw [cell_of_row _ _ _ _ _ _ HF2.out]; rfl
        have hc5 : (w.alloc (.cells #[.string i, .string f, .string g, .slice A n c, .slice A2 n2 c2] 36 (0, 0))).cell? ⟨w.heap.size, 1, none⟩ = some (.string f) := by rw [cell_of_row _ _ _ _ _ _ HF2.out]; rfl
        have hc6 : (w.alloc (.cells #[.string i, .string f, .string g, .slice A n c, .slice A2 n2 c2] 36 (0, 0))).cell? ⟨w.heap.size, 2, none⟩ = some (.string g) := by rw [cell_of_row _ _ _ _ _ _ HF2.out]; rfl
        have hc7 : (w.alloc (.cells #[.string i, .string f, .string g, .slice A n c, .slice A2 n2 c2] 36 (0, 0))).cell? ⟨w.heap.size, 3, none⟩ = some (.slice A n c) := by rw [cell_of_row _ _ _ _ _ _ HF2.out]; rfl
        have hc8 : (w.alloc (.cells #[.string i, .string f, .string g, .slice A n c, .slice A2 n2 c2] 36 (0, 0))).cell? ⟨w.heap.size, 4, none⟩ = some (.slice A2 n2 c2) := by rw [cell_of_row _ _ _ _ _ _ HF2.out]; rfl
        go_wp2_with fail
        refine (HN1.out (w.alloc (.cells #[.string i, .string f, .string g, .slice A n c, .slice A2 n2 c2] 36 (0, 0)))).mono ?_
        rintro e w' ⟨rfl, rfl⟩
        go_wp2_with fail
        refine (HN2.out (w.alloc (.cells #[.string i, .string f, .string g, .slice A n c, .slice A2 n2 c2] 36 (0, 0)))).mono ?_
        rintro e w' ⟨rfl, rfl⟩
        go_wp2_with fail
        refine (HN3.out (w.alloc (.cells #[.string i, .string f, .string g, .slice A n c, .slice A2 n2 c2] 36 (0, 0)))).mono ?_
        rintro e w' ⟨rfl, rfl⟩
        go_wp2_with fail
        clear hc4 hc5 hc6 hc7 hc8
        refine (HPT.out (w.alloc (.cells #[.string i, .string f, .string g, .slice A n c, .slice A2 n2 c2] 36 (0, 0))) (H.out.below HB3.out)).mono ?_
        rintro e w1 ⟨rfl, hb1⟩
        have HF9 := Lib.hid (blk_below HF2.out hb1)
        have HB10 := Lib.hid (HB3.out.trans (hb1.mono HB3.out.size))
        clear hb1 HB3 HF2
        go_wp2_with fail
        go_ret
        exact ⟨retI HV.out, HB10.out⟩
end Go.Proofs.YtagenkofoacajaaGreat

namespace Go.Proofs.YtagenkofoacajaaGreat
open Go.RowKit Vi

def tS (s : ByteArray) : ByteArray := ⟨(put s.size).toArray⟩ ++ s
def nS (n : Nat) : ByteArray := ⟨(put n).toArray⟩
def pS (p : Pr) : ByteArray := tS p.1 ++ vput p.2.1 p.2.2.1 p.2.2.2
def accL (a : ByteArray) (ss : List ByteArray) : ByteArray := ss.foldl (fun x s => x ++ tS s) a
def accP (a : ByteArray) (ps : List Pr) : ByteArray := ps.foldl (fun x p => x ++ pS p) a
/-- the bytes of labels and properties -/
def ptS (ss : List ByteArray) (ps : List Pr) : ByteArray := accP (accL (nS ss.length) ss ++ nS ps.length) ps
theorem accL_take (a : ByteArray) (ss : List ByteArray) (k : Nat) (h : k < ss.length) : accL a (ss.take (k + 1)) = accL a (ss.take k) ++ tS ss[k] := by
  rw [List.take_succ_eq_append_getElem h]; unfold accL; rw [List.foldl_append]; rfl
theorem accP_take (a : ByteArray) (ps : List Pr) (k : Nat) (h : k < ps.length) : accP a (ps.take (k + 1)) = accP a (ps.take k) ++ pS ps[k] := by
  rw [List.take_succ_eq_append_getElem h]; unfold accP; rw [List.foldl_append]; rfl
theorem nS_size (n : Nat) : (nS n).size ≤ 10 := by
  show (put n).toArray.size ≤ 10
  rw [List.size_toArray]; exact put_len n
theorem tS_size (s : ByteArray) : (tS s).size ≤ s.size + 10 := by
  unfold tS
  rw [ByteArray.size_append]
  have := nS_size s.size
  unfold nS at this
  omega
theorem vput_small (k n : Int) (t : ByteArray) (h : t.size ≤ 64) : (vput k n t).size ≤ 80 := by
  unfold vput
  split
  · rw [ByteArray.size_append]
    have h1 : (⟨#[UInt8.ofNat (k % 256).toNat]⟩ : ByteArray).size = 1 := rfl
    have h2 : (vrest k n t).size ≤ 75 := by
      unfold vrest
      split
      · show 1 ≤ 75; omega
      · split
        · have := nS_size (zig n); unfold nS at this; omega
        · have := tS_size t; unfold tS at this; omega
    omega
  · show 0 ≤ 80; omega
/-- labels and properties that may be are small -/
structure Sm (ss : List ByteArray) (ps : List Pr) : Prop where
  l : ss.length ≤ 8
  s : ∀ s ∈ ss, s.size ≤ 12
  pl : ps.length ≤ 8
  p : ∀ p ∈ ps, p.1.size ≤ 12 ∧ p.2.2.2.size ≤ 64 ∧ -9223372036854775808 ≤ p.2.2.1 ∧ p.2.2.1 ≤ 9223372036854775807
theorem nm_small {s : ByteArray} (h : nm s = true) : s.size ≤ 12 := by
  by_cases k : s.size ≤ 12
  · exact k
  · rw [nm_long s (Or.inr (by omega))] at h; cases h
theorem vok_small {k n : Int} {t : ByteArray} (h : vok k n t = true) : t.size ≤ 64 := by
  have em : t.toList.isEmpty = true → t.size ≤ 64 := fun e => by
    have : t.toList = [] := by simpa using e
    have hl : t.toList.length = t.size := by rw [Lib.toList_data]; simp
    rw [this] at hl
    simp at hl
    omega
  unfold vok at h
  split at h
  · rw [Bool.and_eq_true] at h; exact em h.2
  · split at h
    · exact em h
    · rw [Bool.and_eq_true] at h; exact of_decide_eq_true h.2
theorem prE_zero : ∀ (p : ByteArray) (ps : List Pr), prE p ps = 0 → ∀ x ∈ ps, okP x = true
  | _, [], _, x, hx => by cases hx
  | p, y :: r, h, x, hx => by
    unfold prE at h
    split at h
    · cases h
    · next h1 =>
      split at h
      · cases h
      · rcases List.mem_cons.1 hx with rfl | hx
        · simpa using h1
        · exact prE_zero _ r h x hx
def IntsOk (ps : List Pr) : Prop := ∀ p ∈ ps, -9223372036854775808 ≤ p.2.2.1 ∧ p.2.2.1 ≤ 9223372036854775807
theorem rs_zero {ss : List ByteArray} {ps : List Pr} (h : rsW ss ps = 0) : ss.length ≤ 8 ∧ rowE ⟨#[]⟩ ss = 0 ∧ ps.length ≤ 8 ∧ prE ⟨#[]⟩ ps = 0 := by
  unfold rsW at h
  split at h
  · cases h
  · next h1 =>
    split at h
    · next h2 => exact absurd h h2
    · next h2 =>
      unfold prW at h
      split at h
      · cases h
      · next h3 => exact ⟨by omega, by simpa using h2, by omega, h⟩
theorem rs_sm {ss : List ByteArray} {ps : List Pr} (h : rsW ss ps = 0) (hi : IntsOk ps) : Sm ss ps := by
  obtain ⟨h1, h2, h3, h4⟩ := rs_zero h
  refine ⟨h1, fun s hs => nm_small ((row0_ok ss h2).1 s hs), h3, fun p hp => ?_⟩
  have k := prE_zero _ ps h4 p hp
  unfold okP at k
  rw [Bool.and_eq_true] at k
  exact ⟨nm_small k.1, vok_small k.2, hi p hp⟩
theorem nd_zero {i : ByteArray} {ss : List ByteArray} {ps : List Pr} (h : ndW i ss ps = 0) : nm i = true ∧ rsW ss ps = 0 := by
  unfold ndW at h
  split at h
  · cases h
  · next h1 => exact ⟨by simpa using h1, h⟩
theorem ed_zero {i f g : ByteArray} {ss : List ByteArray} {ps : List Pr} (h : edW i f g ss ps = 0) : nm i = true ∧ nm f = true ∧ nm g = true ∧ rsW ss ps = 0 := by
  unfold edW at h
  split at h
  · cases h
  · next h1 =>
    split at h
    · cases h
    · next h2 =>
      split at h
      · cases h
      · next h3 => exact ⟨by simpa using h1, by simpa using h2, by simpa using h3, h⟩
theorem accP_size (a : ByteArray) : ∀ (ps : List Pr), (∀ p ∈ ps, p.1.size ≤ 12 ∧ p.2.2.2.size ≤ 64 ∧ -9223372036854775808 ≤ p.2.2.1 ∧ p.2.2.1 ≤ 9223372036854775807) → (accP a ps).size ≤ a.size + 110 * ps.length := by
  intro ps
  induction ps generalizing a with
  | nil => intro _; show a.size ≤ _; omega
  | cons p r ih =>
    intro h
    have h1 := ih (a ++ pS p) (fun x hx => h x (List.mem_cons_of_mem _ hx))
    obtain ⟨k1, k2, _⟩ := h p (by simp)
    have h2 : (pS p).size ≤ 102 := by
      unfold pS
      rw [ByteArray.size_append]
      have := tS_size p.1
      have := vput_small p.2.1 p.2.2.1 p.2.2.2 k2
      omega
    rw [ByteArray.size_append] at h1
    show (accP (a ++ pS p) r).size ≤ _
    rw [List.length_cons]
    omega
theorem accL_size (a : ByteArray) : ∀ (ss : List ByteArray), (∀ s ∈ ss, s.size ≤ 12) → (accL a ss).size ≤ a.size + 22 * ss.length := by
  intro ss
  induction ss generalizing a with
  | nil => intro _; show a.size ≤ _; omega
  | cons p r ih =>
    intro h
    have h1 := ih (a ++ tS p) (fun x hx => h x (List.mem_cons_of_mem _ hx))
    have k1 := h p (by simp)
    have := tS_size p
    rw [ByteArray.size_append] at h1
    show (accL (a ++ tS p) r).size ≤ _
    rw [List.length_cons]
    omega
theorem ptS_size {ss : List ByteArray} {ps : List Pr} (k : Sm ss ps) : (ptS ss ps).size ≤ 2000 := by
  have h1 := accP_size (accL (nS ss.length) ss ++ nS ps.length) ps k.p
  have h2 := accL_size (nS ss.length) ss k.s
  have h3 := nS_size ss.length
  have h4 := nS_size ps.length
  have h5 := k.l
  have h6 := k.pl
  rw [ByteArray.size_append] at h1
  unfold ptS
  omega
end Go.Proofs.YtagenkofoacajaaGreat

namespace Go.Proofs.YtagenkofoacajaaGreat
open Go.RowKit Vi

set_option maxRecDepth 100000 in
set_option maxHeartbeats 2000000 in
theorem stexts_yes (A A2 : Option Addr) (n c c2 : Nat) (ss : List ByteArray) (w : World) (h : SlN w A n ss) (h2 : SlN w A2 n ss) (hn : (n : Int) ≤ 9223372036854775807) :
    Calls Tryz.prog 35 #[.slice A n c, .slice A2 n c2] w fun e w' => e = .returned (.bool true) ∧ Below w.heap.size w w' := by
  have H := Lib.hid h
  have H2 := Lib.hid h2
  have L := Lib.hid h.1
  clear h h2
  go_enter Tryz.func35, Tryz.ntmps35
  go_wp2_with fail
  go_loopw [5] (fun i wr => ∃ k : Nat, i = .int .i64 (k : Int) ∧ k ≤ n ∧ Below w.heap.size w wr) (fun i _ => n - (intOf i).toNat)
  case atStart => exact ⟨0, rfl, Nat.zero_le _, Below.refl _ _⟩
  case round =>
    obtain ⟨k, rfl, hk, hb⟩ := hrel
    have HB := Lib.hid hb
    clear hb
    by_cases hlt : k < n
    · have hd1 : decide ((k : Int) < (n : Int)) = true := decide_eq_true (by omega)
      have hl : k < ss.length := by rw [L.out]; exact hlt
      obtain ⟨b, off, rfl, hc⟩ := (H.out.later HB.out).2 (by omega)
      obtain ⟨b2, off2, rfl, hc2⟩ := (H2.out.later HB.out).2 (by omega)
      have a0 := hc k hl
      have a2 := hc2 k hl
      obtain ⟨s, hs⟩ : ∃ s, ss[k] = s := ⟨_, rfl⟩
      rw [hs] at a0 a2
      have hi0 : (0 : Int) ≤ (k : Int) := by omega
      clear hc hc2 hs
      go_wp2_with fail
      go_quiet (fail)
      go_wp2_with fail
      go_roundw
      case rel => exact ⟨k + 1, by go_num, by omega, ⟨HB.out.os, HB.out.tape, HB.out.output, HB.out.size, HB.out.block⟩⟩
      case measure => simp [intOf] <;> omega
    · have hd1 : decide ((k : Int) < (n : Int)) = false := decide_eq_false (by omega)
      go_wp2_with fail
      go_ret
      exact ⟨rfl, HB.out⟩
set_option maxRecDepth 100000 in
set_option maxHeartbeats 2000000 in
theorem sprops_yes (A A2 : Option Addr) (n c c2 : Nat) (ps : List Pr) (w : World) (h : RdX prC 4 w A n ps) (h2 : RdX prC 4 w A2 n ps) (hn : (n : Int) ≤ 9223372036854775807) :
    Calls Tryz.prog 36 #[.slice A n c, .slice A2 n c2] w fun e w' => e = .returned (.bool true) ∧ Below w.heap.size w w' := by
  have H := Lib.hid h
  have H2 := Lib.hid h2
  clear h h2
  go_enter Tryz.func36, Tryz.ntmps36
  go_wp2_with fail
  go_loopw [5] (fun i wr => ∃ k : Nat, i = .int .i64 (k : Int) ∧ k ≤ n ∧ Below w.heap.size w wr) (fun i _ => n - (intOf i).toNat)
  case atStart => exact ⟨0, rfl, Nat.zero_le _, Below.refl _ _⟩
  case round =>
    obtain ⟨k, rfl, hk, hb⟩ := hrel
    have HB := Lib.hid hb
    clear hb
    by_cases hlt : k < n
    · have hd1 : decide ((k : Int) < (n : Int)) = true := decide_eq_true (by omega)
      obtain ⟨b, off, hl, rfl, hbb, hc⟩ := (H.out.below HB.out).at hlt
      obtain ⟨b2, off2, hl2, rfl, hbb2, hc2⟩ := (H2.out.below HB.out).at hlt
      obtain ⟨x, hx⟩ : ∃ x, ps[k] = x := ⟨_, rfl⟩
      rw [hx] at hc hc2
      obtain ⟨s, a, d, t⟩ := x
      have a0 := hc 0 _ rfl
      have a1 := hc 1 _ rfl
      have a2 := hc 2 _ rfl
      have a3 := hc 3 _ rfl
      have b0 := hc2 0 _ rfl
      have b1 := hc2 1 _ rfl
      have b2' := hc2 2 _ rfl
      have b3 := hc2 3 _ rfl
      rw [Nat.add_zero] at a0 b0
      have hi0 : (0 : Int) ≤ (k : Int) := by omega
      clear hc hc2 hx
      go_wp2_with fail
      go_quiet (fail)
      go_wp2_with fail
      go_roundw
      case rel => exact ⟨k + 1, by go_num, by omega, ⟨HB.out.os, HB.out.tape, HB.out.output, HB.out.size, HB.out.block⟩⟩
      case measure => simp [intOf] <;> omega
    · have hd1 : decide ((k : Int) < (n : Int)) = false := decide_eq_false (by omega)
      go_wp2_with fail
      go_ret
      exact ⟨rfl, HB.out⟩
set_option maxRecDepth 100000 in
set_option maxHeartbeats 2000000 in
theorem snode_yes (i : ByteArray) (A A2 B B2 : Option Addr) (n c c2 m d d2 : Nat) (ss : List ByteArray) (ps : List Pr) (w : World) (h : LP w A n ss B m ps) (h2 : LP w A2 n ss B2 m ps) (hn : (n : Int) ≤ 9223372036854775807) (hm : (m : Int) ≤ 9223372036854775807) :
    Calls Tryz.prog 12 #[.agg #[.string i, .slice A n c, .slice B m d], .agg #[.string i, .slice A2 n c2, .slice B2 m d2]] w fun e w' => e = .returned (.bool true) ∧ Below w.heap.size w w' := by
  have H := Lib.hid h
  have H2 := Lib.hid h2
  clear h h2
  have hqi : (i.toList == i.toList) = true := by simp
  have HB1 := Lib.hid (Below.refl w.heap.size w)
  go_enter Tryz.func12, Tryz.ntmps12
  have HF2 := Lib.hid (blk_new w (.cells #[.string i, .slice A n c, .slice B m d] 32 (0, 0)))
  have HB3 := Lib.hid (HB1.out.alloc HB1.out.size (.cells #[.string i, .slice A n c, .slice B m d] 32 (0, 0)))
  clear HB1
  have HQ4 := Lib.hid (H.out.below ((Below.refl _ w).alloc (Nat.le_refl _) (.cells #[.string i, .slice A n c, .slice B m d] 32 (0, 0))))
  clear H
  have HQ5 := Lib.hid (H2.out.below ((Below.refl _ w).alloc (Nat.le_refl _) (.cells #[.string i, .slice A n c, .slice B m d] 32 (0, 0))))
  clear H2
  have HF6 := Lib.hid (blk_alloc HF2.out (.cells #[.string i, .slice A2 n c2, .slice B2 m d2] 32 (0, 0)))
  clear HF2
  have HF7 : Hid (((w.alloc (.cells #[.string i, .slice A n c, .slice B m d] 32 (0, 0))).alloc (.cells #[.string i, .slice A2 n c2, .slice B2 m d2] 32 (0, 0))).heap[w.heap.size + 1]? = some (.cells #[.string i, .slice A2 n c2, .slice B2 m d2] 32 (0, 0))) := Lib.hid (blk_newN (W := (w.alloc (.cells #[.string i, .slice A n c, .slice B m d] 32 (0, 0)))) (o := (.cells #[.string i, .slice A2 n c2, .slice B2 m d2] 32 (0, 0))) (by simp))
  have HB8 := Lib.hid (HB3.out.alloc (by have := HB3.out.size; simp at this ⊢ <;> omega) (.cells #[.string i, .slice A2 n c2, .slice B2 m d2] 32 (0, 0)))
  clear HB3
  have HQ9 := Lib.hid (HQ4.out.below ((Below.refl _ (w.alloc (.cells #[.string i, .slice A n c, .slice B m d] 32 (0, 0)))).alloc (Nat.le_refl _) (.cells #[.string i, .slice A2 n c2, .slice B2 m d2] 32 (0, 0))))
  clear HQ4
  have HQ10 := Lib.hid (HQ5.out.below ((Below.refl _ (w.alloc (.cells #[.string i, .slice A n c, .slice B m d] 32 (0, 0)))).alloc (Nat.le_refl _) (.cells #[.string i, .slice A2 n c2, .slice B2 m d2] 32 (0, 0))))
  clear HQ5
  have hc11 : ((w.alloc (.cells #[.string i, .slice A n c, .slice B m d] 32 (0, 0))).alloc (.cells #[.string i, .slice A2 n c2, .slice B2 m d2] 32 (0, 0))).cell? ⟨w.heap.size, 0, none⟩ = some (.string i) := by rw [cell_of_row _ _ _ _ _ _ HF6.out]; rfl
  have hc12 : ((w.alloc (.cells #[.string i, .slice A n c, .slice B m d] 32 (0, 0))).alloc (.cells #[.string i, .slice A2 n c2, .slice B2 m d2] 32 (0, 0))).cell? ⟨w.heap.size, 1, none⟩ = some (.slice A n c) := by rw [cell_of_row _ _ _ _ _ _ HF6.out]; rfl
  have hc13 : ((w.alloc (.cells #[.string i, .slice A n c, .slice B m d] 32 (0, 0))).alloc (.cells #[.string i, .slice A2 n c2, .slice B2 m d2] 32 (0, 0))).cell? ⟨w.heap.size, 2, none⟩ = some (.slice B m d) := by rw [cell_of_row _ _ _ _ _ _ HF6.out]; rfl
  have hc14 : ((w.alloc (.cells #[.string i, .slice A n c, .slice B m d] 32 (0, 0))).alloc (.cells #[.string i, .slice A2 n c2, .slice B2 m d2] 32 (0, 0))).cell? ⟨w.heap.size + 1, 0, none⟩ = some (.string i) := by rw [cell_of_row _ _ _ _ _ _ HF7.out]; rfl
  have hc15 : ((w.alloc (.cells #[.string i, .slice A n c, .slice B m d] 32 (0, 0))).alloc (.cells #[.string i, .slice A2 n c2, .slice B2 m d2] 32 (0, 0))).cell? ⟨w.heap.size + 1, 1, none⟩ = some (.slice A2 n c2) := by rw [cell_of_row _ _ _ _ _ _ HF7.out]; rfl
  have hc16 : ((w.alloc (.cells #[.string i, .slice A n c, .slice B m d] 32 (0, 0))).alloc (.cells #[.string i, .slice A2 n c2, .slice B2 m d2] 32 (0, 0))).cell? ⟨w.heap.size + 1, 2, none⟩ = some (.slice B2 m d2) := by rw [cell_of_row _ _ _ _ _ _ HF7.out]; rfl
  go_wp2_with fail
  clear hc11 hc12 hc13 hc14 hc15 hc16
  refine (stexts_yes A A2 n c c2 ss ((w.alloc (.cells #[.string i, .slice A n c, .slice B m d] 32 (0, 0))).alloc (.cells #[.string i, .slice A2 n c2, .slice B2 m d2] 32 (0, 0))) HQ9.out.l HQ10.out.l hn).mono ?_
  rintro e w1 ⟨rfl, hb1⟩
  have HF17 := Lib.hid (blk_below HF6.out hb1)
  have HF18 := Lib.hid (blk_below HF7.out hb1)
  have HB19 := Lib.hid (HB8.out.trans (hb1.mono HB8.out.size))
  have HQ20 := Lib.hid (HQ9.out.below hb1)
  clear HQ9
  have HQ21 := Lib.hid (HQ10.out.below hb1)
  clear HQ10
  clear hb1 HB8 HF6 HF7
  have hc22 : w1.cell? ⟨w.heap.size, 0, none⟩ = some (.string i) := by rw [cell_of_row _ _ _ _ _ _ HF17.out]; rfl
  have hc23 : w1.cell? ⟨w.heap.size, 1, none⟩ = some (.slice A n c) := by rw [cell_of_row _ _ _ _ _ _ HF17.out]; rfl
  have hc24 : w1.cell? ⟨w.heap.size, 2, none⟩ = some (.slice B m d) := by rw [cell_of_row _ _ _ _ _ _ HF17.out]; rfl
  have hc25 : w1.cell? ⟨w.heap.size + 1, 0, none⟩ = some (.string i) := by rw [cell_of_row _ _ _ _ _ _ HF18.out]; rfl
  have hc26 : w1.cell? ⟨w.heap.size + 1, 1, none⟩ = some (.slice A2 n c2) := by rw [cell_of_row _ _ _ _ _ _ HF18.out]; rfl
  have hc27 : w1.cell? ⟨w.heap.size + 1, 2, none⟩ = some (.slice B2 m d2) := by rw [cell_of_row _ _ _ _ _ _ HF18.out]; rfl
  go_wp2_with fail
  clear hc22 hc23 hc24 hc25 hc26 hc27
  refine (sprops_yes B B2 m d d2 ps w1 HQ20.out.p HQ21.out.p hm).mono ?_
  rintro e w2 ⟨rfl, hb2⟩
  have HF28 := Lib.hid (blk_below HF17.out hb2)
  have HF29 := Lib.hid (blk_below HF18.out hb2)
  have HB30 := Lib.hid (HB19.out.trans (hb2.mono HB19.out.size))
  have HQ31 := Lib.hid (HQ20.out.below hb2)
  clear HQ20
  have HQ32 := Lib.hid (HQ21.out.below hb2)
  clear HQ21
  clear hb2 HB19 HF17 HF18
  go_wp2_with fail
  go_ret
  exact ⟨rfl, HB30.out⟩
set_option maxRecDepth 100000 in
set_option maxHeartbeats 2000000 in
theorem sedge_yes (i f g : ByteArray) (A A2 B B2 : Option Addr) (n c c2 m d d2 : Nat) (ss : List ByteArray) (ps : List Pr) (w : World) (h : LP w A n ss B m ps) (h2 : LP w A2 n ss B2 m ps) (hn : (n : Int) ≤ 9223372036854775807) (hm : (m : Int) ≤ 9223372036854775807) :
    Calls Tryz.prog 13 #[.agg #[.string i, .string f, .string g, .slice A n c, .slice B m d], .agg #[.string i, .string f, .string g, .slice A2 n c2, .slice B2 m d2]] w fun e w' => e = .returned (.bool true) ∧ Below w.heap.size w w' := by
  have H := Lib.hid h
  have H2 := Lib.hid h2
  clear h h2
  have hqi : (i.toList == i.toList) = true := by simp
  have hqf : (f.toList == f.toList) = true := by simp
  have hqg : (g.toList == g.toList) = true := by simp
  have HB1 := Lib.hid (Below.refl w.heap.size w)
  go_enter Tryz.func13, Tryz.ntmps13
  have HF2 := Lib.hid (blk_new w (.cells #[.string i, .string f, .string g, .slice A n c, .slice B m d] 36 (0, 0)))
  have HB3 := Lib.hid (HB1.out.alloc HB1.out.size (.cells #[.string i, .string f, .string g, .slice A n c, .slice B m d] 36 (0, 0)))
  clear HB1
  have HQ4 := Lib.hid (H.out.below ((Below.refl _ w).alloc (Nat.le_refl _) (.cells #[.string i, .string f, .string g, .slice A n c, .slice B m d] 36 (0, 0))))
  clear H
  have HQ5 := Lib.hid (H2.out.below ((Below.refl _ w).alloc (Nat.le_refl _) (.cells #[.string i, .string f, .string g, .slice A n c, .slice B m d] 36 (0, 0))))
  clear H2
  have HF6 := Lib.hid (blk_alloc HF2.out (.cells #[.string i, .string f, .string g, .slice A2 n c2, .slice B2 m d2] 36 (0, 0)))
  clear HF2
  have HF7 : Hid (((w.alloc (.cells #[.string i, .string f, .string g, .slice A n c, .slice B m d] 36 (0, 0))).alloc (.cells #[.string i, .string f, .string g, .slice A2 n c2, .slice B2 m d2] 36 (0, 0))).heap[w.heap.size + 1]? = some (.cells #[.string i, .string f, .string g, .slice A2 n c2, .slice B2 m d2] 36 (0, 0))) := Lib.hid (blk_newN (W := (w.alloc (.cells #[.string i, .string f, .string g, .slice A n c, .slice B m d] 36 (0, 0)))) (o := (.cells #[.string i, .string f, .string g, .slice A2 n c2, .slice B2 m d2] 36 (0, 0))) (by simp))
  have HB8 := Lib.hid (HB3.out.alloc (by have := HB3.out.size; simp at this ⊢ <;> omega) (.cells #[.string i, .string f, .string g, .slice A2 n c2, .slice B2 m d2] 36 (0, 0)))
  clear HB3
  have HQ9 := Lib.hid (HQ4.out.below ((Below.refl _ (w.alloc (.cells #[.string i, .string f, .string g, .slice A n c, .slice B m d] 36 (0, 0)))).alloc (Nat.le_refl _) (.cells #[.string i, .string f, .string g, .slice A2 n c2, .slice B2 m d2] 36 (0, 0))))
  clear HQ4
  have HQ10 := Lib.hid (HQ5.out.below ((Below.refl _ (w.alloc (.cells #[.string i, .string f, .string g, .slice A n c, .slice B m d] 36 (0, 0)))).alloc (Nat.le_refl _) (.cells #[.string i, .string f, .string g, .slice A2 n c2, .slice B2 m d2] 36 (0, 0))))
  clear HQ5
  have hc11 : ((w.alloc (.cells #[.string i, .string f, .string g, .slice A n c, .slice B m d] 36 (0, 0))).alloc (.cells #[.string i, .string f, .string g, .slice A2 n c2, .slice B2 m d2] 36 (0, 0))).cell? ⟨w.heap.size, 0, none⟩ = some (.string i) := by rw [cell_of_row _ _ _ _ _ _ HF6.out]; rfl
  have hc12 : ((w.alloc (.cells #[.string i, .string f, .string g, .slice A n c, .slice B m d] 36 (0, 0))).alloc (.cells #[.string i, .string f, .string g, .slice A2 n c2, .slice B2 m d2] 36 (0, 0))).cell? ⟨w.heap.size, 1, none⟩ = some (.string f) := by rw [cell_of_row _ _ _ _ _ _ HF6.out]; rfl
  have hc13 : ((w.alloc (.cells #[.string i, .string f, .string g, .slice A n c, .slice B m d] 36 (0, 0))).alloc (.cells #[.string i, .string f, .string g, .slice A2 n c2, .slice B2 m d2] 36 (0, 0))).cell? ⟨w.heap.size, 2, none⟩ = some (.string g) := by rw [cell_of_row _ _ _ _ _ _ HF6.out]; rfl
  have hc14 : ((w.alloc (.cells #[.string i, .string f, .string g, .slice A n c, .slice B m d] 36 (0, 0))).alloc (.cells #[.string i, .string f, .string g, .slice A2 n c2, .slice B2 m d2] 36 (0, 0))).cell? ⟨w.heap.size, 3, none⟩ = some (.slice A n c) := by rw [cell_of_row _ _ _ _ _ _ HF6.out]; rfl
  have hc15 : ((w.alloc (.cells #[.string i, .string f, .string g, .slice A n c, .slice B m d] 36 (0, 0))).alloc (.cells #[.string i, .string f, .string g, .slice A2 n c2, .slice B2 m d2] 36 (0, 0))).cell? ⟨w.heap.size, 4, none⟩ = some (.slice B m d) := by rw [cell_of_row _ _ _ _ _ _ HF6.out]; rfl
  have hc16 : ((w.alloc (.cells #[.string i, .string f, .string g, .slice A n c, .slice B m d] 36 (0, 0))).alloc (.cells #[.string i, .string f, .string g, .slice A2 n c2, .slice B2 m d2] 36 (0, 0))).cell? ⟨w.heap.size + 1, 0, none⟩ = some (.string i) := by rw [cell_of_row _ _ _ _ _ _ HF7.out]; rfl
  have hc17 : ((w.alloc (.cells #[.string i, .string f, .string g, .slice A n c, .slice B m d] 36 (0, 0))).alloc (.cells #[.string i, .string f, .string g, .slice A2 n c2, .slice B2 m d2] 36 (0, 0))).cell? ⟨w.heap.size + 1, 1, none⟩ = some (.string f) := by rw [cell_of_row _ _ _ _ _ _ HF7.out]; rfl
  have hc18 : ((w.alloc (.cells #[.string i, .string f, .string g, .slice A n c, .slice B m d] 36 (0, 0))).alloc (.cells #[.string i, .string f, .string g, .slice A2 n c2, .slice B2 m d2] 36 (0, 0))).cell? ⟨w.heap.size + 1, 2, none⟩ = some (.string g) := by rw [cell_of_row _ _ _ _ _ _ HF7.out]; rfl
  have hc19 : ((w.alloc (.cells #[.string i, .string f, .string g, .slice A n c, .slice B m d] 36 (0, 0))).alloc (.cells #[.string i, .string f, .string g, .slice A2 n c2, .slice B2 m d2] 36 (0, 0))).cell? ⟨w.heap.size + 1, 3, none⟩ = some (.slice A2 n c2) := by rw [cell_of_row _ _ _ _ _ _ HF7.out]; rfl
  have hc20 : ((w.alloc (.cells #[.string i, .string f, .string g, .slice A n c, .slice B m d] 36 (0, 0))).alloc (.cells #[.string i, .string f, .string g, .slice A2 n c2, .slice B2 m d2] 36 (0, 0))).cell? ⟨w.heap.size + 1, 4, none⟩ = some (.slice B2 m d2) := by rw [cell_of_row _ _ _ _ _ _ HF7.out]; rfl
  go_wp2_with fail
  clear hc11 hc12 hc13 hc14 hc15 hc16 hc17 hc18 hc19 hc20
  refine (stexts_yes A A2 n c c2 ss ((w.alloc (.cells #[.string i, .string f, .string g, .slice A n c, .slice B m d] 36 (0, 0))).alloc (.cells #[.string i, .string f, .string g, .slice A2 n c2, .slice B2 m d2] 36 (0, 0))) HQ9.out.l HQ10.out.l hn).mono ?_
  rintro e w1 ⟨rfl, hb1⟩
  have HF21 := Lib.hid (blk_below HF6.out hb1)
  have HF22 := Lib.hid (blk_below HF7.out hb1)
  have HB23 := Lib.hid (HB8.out.trans (hb1.mono HB8.out.size))
  have HQ24 := Lib.hid (HQ9.out.below hb1)
  clear HQ9
  have HQ25 := Lib.hid (HQ10.out.below hb1)
  clear HQ10
  clear hb1 HB8 HF6 HF7
  have hc26 : w1.cell? ⟨w.heap.size, 0, none⟩ = some (.string i) := by rw [cell_of_row _ _ _ _ _ _ HF21.out]; rfl
  have hc27 : w1.cell? ⟨w.heap.size, 1, none⟩ = some (.string f) := by rw [cell_of_row _ _ _ _ _ _ HF21.out]; rfl
  have hc28 : w1.cell? ⟨w.heap.size, 2, none⟩ = some (.string g) := by rw [cell_of_row _ _ _ _ _ _ HF21.out]; rfl
  have hc29 : w1.cell? ⟨w.heap.size, 3, none⟩ = some (.slice A n c) := by rw [cell_of_row _ _ _ _ _ _ HF21.out]; rfl
  have hc30 : w1.cell? ⟨w.heap.size, 4, none⟩ = some (.slice B m d) := by rw [cell_of_row _ _ _ _ _ _ HF21.out]; rfl
  have hc31 : w1.cell? ⟨w.heap.size + 1, 0, none⟩ = some (.string i) := by rw [cell_of_row _ _ _ _ _ _ HF22.out]; rfl
  have hc32 : w1.cell? ⟨w.heap.size + 1, 1, none⟩ = some (.string f) := by rw [cell_of_row _ _ _ _ _ _ HF22.out]; rfl
  have hc33 : w1.cell? ⟨w.heap.size + 1, 2, none⟩ = some (.string g) := by rw [cell_of_row _ _ _ _ _ _ HF22.out]; rfl
  have hc34 : w1.cell? ⟨w.heap.size + 1, 3, none⟩ = some (.slice A2 n c2) := by rw [cell_of_row _ _ _ _ _ _ HF22.out]; rfl
  have hc35 : w1.cell? ⟨w.heap.size + 1, 4, none⟩ = some (.slice B2 m d2) := by rw [cell_of_row _ _ _ _ _ _ HF22.out]; rfl
  go_wp2_with fail
  clear hc26 hc27 hc28 hc29 hc30 hc31 hc32 hc33 hc34 hc35
  refine (sprops_yes B B2 m d d2 ps w1 HQ24.out.p HQ25.out.p hm).mono ?_
  rintro e w2 ⟨rfl, hb2⟩
  have HF36 := Lib.hid (blk_below HF21.out hb2)
  have HF37 := Lib.hid (blk_below HF22.out hb2)
  have HB38 := Lib.hid (HB23.out.trans (hb2.mono HB23.out.size))
  have HQ39 := Lib.hid (HQ24.out.below hb2)
  clear HQ24
  have HQ40 := Lib.hid (HQ25.out.below hb2)
  clear HQ25
  clear hb2 HB23 HF21 HF22
  go_wp2_with fail
  go_ret
  exact ⟨rfl, HB38.out⟩
end Go.Proofs.YtagenkofoacajaaGreat
