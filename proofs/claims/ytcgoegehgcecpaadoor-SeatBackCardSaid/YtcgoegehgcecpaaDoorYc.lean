/- The contracts of the document's Put of layer 8 and of seat's Slot over this translation. No condition. -/
import Derived.Test.YtcgoegehgcecpaaDoorYb
namespace Go.Proofs.YtcgoegehgcecpaaDoor
open Go.RowKit Vi Cm

theorem below_anyY {w w' : World} (h : ∃ p : Regrown, w' = Sort.grow (redrawn w p.d) p.os) : Below w.heap.size w w' := by
  obtain ⟨p, rfl⟩ := h
  exact below_regrown w p.d p.os
/-- what the document's Put answers -/
def headD (a b c d : Int) : ByteArray := if hok a b c d = true then headS a b c d else ⟨#[]⟩
theorem retSY {a b : ByteArray} (h : a = b) : Ending.returned (.string a) = .returned (.string b) := by rw [h]
set_option maxRecDepth 100000 in
set_option maxHeartbeats 2000000 in
theorem rputH_any (a b c d : Int) (w : World) (ha : a ≤ 9223372036854775807) (hb : b ≤ 9223372036854775807) (hc : c ≤ 9223372036854775807) (hd : d ≤ 9223372036854775807) :
    Calls Tryd.prog 31 #[.agg #[.int .i64 a, .int .i64 b, .int .i64 c, .int .i64 d]] w fun e w' => e = .returned (.string (headD a b c d)) ∧ Below w.heap.size w w' := by
  have HIS := Lib.hid (fun W : World => his_any a b c d W)
  cases hv : hok a b c d with
  | false =>
    have HQ := Lib.hid (show (⟨#[]⟩ : ByteArray) = headD a b c d by unfold headD; rw [hv]; simp)
    rw [hv] at HIS
    clear hv ha hb hc hd
    go_enter Tryd.func31, Tryd.ntmps31
    go_wp2_with fail
    refine (HIS.out _).mono ?_
    rintro e w1 ⟨rfl, hb⟩
    have HB := Lib.hid (((Below.refl _ w).alloc (Nat.le_refl _) _).trans (hb.mono (by simp)))
    clear hb HIS
    go_wp2_with fail
    go_ret
    exact ⟨retSY HQ.out, HB.out⟩
  | true =>
    have HQ := Lib.hid (show fullS (ptxH (sealH (bodyH a b c d))) = headD a b c d by unfold headD; rw [hv]; rfl)
    have P1 : Hid (∀ W : World, Calls Tryd.prog 76 #[.int .i64 a] W fun e w' => e = .returned (.string (pnb a)) ∧ Below W.heap.size W w') := Lib.hid (fun W => refPutNum_any a W ha)
    have P2 : Hid (∀ W : World, Calls Tryd.prog 76 #[.int .i64 b] W fun e w' => e = .returned (.string (pnb b)) ∧ Below W.heap.size W w') := Lib.hid (fun W => refPutNum_any b W hb)
    have P3 : Hid (∀ W : World, Calls Tryd.prog 76 #[.int .i64 c] W fun e w' => e = .returned (.string (pnb c)) ∧ Below W.heap.size W w') := Lib.hid (fun W => refPutNum_any c W hc)
    have P4 : Hid (∀ W : World, Calls Tryd.prog 76 #[.int .i64 d] W fun e w' => e = .returned (.string (pnb d)) ∧ Below W.heap.size W w') := Lib.hid (fun W => refPutNum_any d W hd)
    have PS := Lib.hid (fun W : World => rsealed_any (bodyH a b c d) W (by have := bodyH_size a b c d; omega))
    have hbd : (⟨#[112, 108, 101, 97, 99, 104]⟩ ++ pnb a ++ pnb b ++ pnb c ++ pnb d : ByteArray) = bodyH a b c d := rfl
    have s1 := pnb_size a
    have s2 := pnb_size b
    have s3 := pnb_size c
    have s4 := pnb_size d
    rw [hv] at HIS
    generalize fullS (ptxH (sealH (bodyH a b c d))) = X at HQ PS
    rw [← hbd] at PS
    generalize pnb a = p1 at P1 PS s1
    generalize pnb b = p2 at P2 PS s2
    generalize pnb c = p3 at P3 PS s3
    generalize pnb d = p4 at P4 PS s4
    have z1 : (p1.size : Int) ≤ 10 := by omega
    have z2 : (p2.size : Int) ≤ 10 := by omega
    have z3 : (p3.size : Int) ≤ 10 := by omega
    have z4 : (p4.size : Int) ≤ 10 := by omega
    clear hv ha hb hc hd hbd s1 s2 s3 s4
    go_enter Tryd.func31, Tryd.ntmps31
    go_wp2_with fail
    refine (HIS.out _).mono ?_
    rintro e w1 ⟨rfl, hb⟩
    have c0 := hb.cell (p := ⟨w.heap.size, 0, none⟩) (by simp)
    have c1 := hb.cell (p := ⟨w.heap.size, 1, none⟩) (by simp)
    have c2 := hb.cell (p := ⟨w.heap.size, 2, none⟩) (by simp)
    have c3 := hb.cell (p := ⟨w.heap.size, 3, none⟩) (by simp)
    simp at c0 c1 c2 c3
    have HB := Lib.hid (((Below.refl _ w).alloc (Nat.le_refl _) _).trans (hb.mono (by simp)))
    clear hb HIS
    have r0 := fun d os => cell_regrown c0 d os
    have r1 := fun d os => cell_regrown c1 d os
    have r2 := fun d os => cell_regrown c2 d os
    have r3 := fun d os => cell_regrown c3 d os
    go_wp2_with fail
    refine wp_region_quiet_below (by kernel_rfl) (by kernel_rfl) ?_
    repeat (any_goals (first | go_big_quiet_step ((first | (go_at_call 75; exact Calls.regrown_of (PS.out _)) | (go_at_call 76; first | exact Calls.regrown_of (P1.out _) | exact Calls.regrown_of (P2.out _) | exact Calls.regrown_of (P3.out _) | exact Calls.regrown_of (P4.out _)))) | quiet_step ((first | (go_at_call 75; exact Calls.regrown_of (PS.out _)) | (go_at_call 76; first | exact Calls.regrown_of (P1.out _) | exact Calls.regrown_of (P2.out _) | exact Calls.regrown_of (P3.out _) | exact Calls.regrown_of (P4.out _))))))
    refine wpQuiet_nil ?_
    intro w3 hw3
    have HB3 := Lib.hid (HB.out.trans ((below_anyY hw3).mono HB.out.size))
    clear hw3 c0 c1 c2 c3 r0 r1 r2 r3
    go_wp2_with fail
    go_ret
    exact ⟨retSY HQ.out, HB3.out⟩
end Go.Proofs.YtcgoegehgcecpaaDoor
