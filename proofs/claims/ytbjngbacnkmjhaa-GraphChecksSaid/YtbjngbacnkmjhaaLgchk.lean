/- The walk of GraphChecks over this translation. Conditions: texts that are no longer than a text may be. -/
import Derived.Test.YtbjngbacnkmjhaaGQa
import Derived.Test.YtbjngbacnkmjhaaGQb
import Derived.Test.YtbjngbacnkmjhaaGQc
import Derived.Test.YtbjngbacnkmjhaaGQd
import Derived.Deep.DeepCutAuto
import Derived.Deep.RegionHeld3
namespace Go.Proofs.Ytbjngbacnkmjhaa.LGraphChecks
open Go.RowKit Vi

theorem eqB_refl (i : ByteArray) : eqB i i = true := by simp [eqB]
theorem sameNs_refl : ∀ X : List Nd, sameNs X X = true
  | [] => rfl
  | x :: r => by unfold sameNs; rw [sameNs_refl r]; simp [sameN, sameT, sameP, eqB_refl]
theorem sameEs_refl : ∀ X : List Ed, sameEs X X = true
  | [] => rfl
  | x :: r => by unfold sameEs; rw [sameEs_refl r]; simp [sameE, sameT, sameP, eqB_refl]
theorem sameG_refl (X : List Nd) (Y : List Ed) : sameG X Y X Y = true := by unfold sameG; rw [sameNs_refl, sameEs_refl]; simp
structure GC (A A2 B B2 : Option Addr) (c c2 d d2 : Nat) (X X' : List Nd) (Y Y' : List Ed) (w W : World) : Prop where
  ba : W.heap[w.heap.size]? = some (.cells #[.slice A X.length c, .slice A2 Y.length c2] 65 (0, 0))
  bb : W.heap[w.heap.size + 1]? = some (.cells #[.slice B X'.length d, .slice B2 Y'.length d2] 65 (0, 0))
  ga : GrIs W A X.length A2 Y.length X Y
  gb : GrIs W B X'.length B2 Y'.length X' Y'
  bel : Below w.heap.size w W
section
variable {A A2 B B2 : Option Addr} {c c2 d d2 : Nat} {X X' : List Nd} {Y Y' : List Ed} {w W W' : World}
theorem GC.later (h : GC A A2 B B2 c c2 d d2 X X' Y Y' w W) (hb : Below W.heap.size W W') : GC A A2 B B2 c c2 d d2 X X' Y Y' w W' :=
  ⟨blk_below h.ba hb, blk_below h.bb hb, h.ga.below hb, h.gb.below hb, h.bel.trans (hb.mono h.bel.size)⟩
theorem GC.drew (h : GC A A2 B B2 c c2 d d2 X X' Y Y' w W) : GC A A2 B B2 c c2 d d2 X X' Y Y' w W.drew := ⟨h.ba, h.bb, h.ga.below (Below.refl _ _).drew, h.gb.below (Below.refl _ _).drew, h.bel.drew⟩
theorem GC.four (h : GC A A2 B B2 c c2 d d2 X X' Y Y' w W) : W.cell? ⟨w.heap.size, 0, none⟩ = some (.slice A X.length c) ∧ W.cell? ⟨w.heap.size, 1, none⟩ = some (.slice A2 Y.length c2) ∧ W.cell? ⟨w.heap.size + 1, 0, none⟩ = some (.slice B X'.length d) ∧ W.cell? ⟨w.heap.size + 1, 1, none⟩ = some (.slice B2 Y'.length d2) :=
  ⟨(cell_of_row _ _ _ _ _ _ h.ba).trans rfl, (cell_of_row _ _ _ _ _ _ h.ba).trans rfl, (cell_of_row _ _ _ _ _ _ h.bb).trans rfl, (cell_of_row _ _ _ _ _ _ h.bb).trans rfl⟩
end
set_option maxRecDepth 100000 in
set_option maxHeartbeats 16000000 in
theorem walk (A A2 B B2 : Option Addr) (n c n2 c2 m d m2 d2 : Nat) (X X' : List Nd) (Y Y' : List Ed) (w : World) (h : GrIs w A n A2 n2 X Y) (k : GrOk X Y) (h' : GrIs w B m B2 m2 X' Y') :
    Calls Try.prog 7 #[.agg #[.slice A n c, .slice A2 n2 c2], .agg #[.slice B m d, .slice B2 m2 d2]] w fun e w' => e = .returned (.bool true) ∧ Below w.heap.size w w' := by
  obtain ⟨rfl, rfl⟩ := h.nl
  obtain ⟨rfl, rfl⟩ := h'.nl
  have H := Lib.hid h
  have H' := Lib.hid h'
  have HFA := Lib.hid (fun (W : World) (q : GrIs W A X.length A2 Y.length X Y) => few26s_any A A2 X.length c Y.length c2 X Y W q)
  have HFB := Lib.hid (fun (W : World) (q : GrIs W B X'.length B2 Y'.length X' Y') => few26s_any B B2 X'.length d Y'.length d2 X' Y' W q)
  have HCH := Lib.hid (fun (W : World) (q : GrIs W A X.length A2 Y.length X Y) => gcheck_any A A2 X.length c Y.length c2 X Y W q k)
  have HWR := Lib.hid (fun (W : World) (q : GrIs W A X.length A2 Y.length X Y) => wrong26_any A A2 X.length c Y.length c2 X Y W q k)
  obtain ⟨z, hz⟩ : ∃ z, z = gW X Y := ⟨_, rfl⟩
  rw [← hz] at HCH HWR
  have hzz : (z == z) = true := by simp
  clear h h' k hz
  have HB1 := Lib.hid (Below.refl w.heap.size w)
  go_enter Try.func7, Try.ntmps7
  have HF2 := Lib.hid (blk_new w (.cells #[.slice A X.length c, .slice A2 Y.length c2] 65 (0, 0)))
  have HB3 := Lib.hid (HB1.out.alloc HB1.out.size (.cells #[.slice A X.length c, .slice A2 Y.length c2] 65 (0, 0)))
  clear HB1
  have HF4 := Lib.hid (blk_alloc HF2.out (.cells #[.slice B X'.length d, .slice B2 Y'.length d2] 65 (0, 0)))
  clear HF2
  have HF5 : Hid (((w.alloc (.cells #[.slice A X.length c, .slice A2 Y.length c2] 65 (0, 0))).alloc (.cells #[.slice B X'.length d, .slice B2 Y'.length d2] 65 (0, 0))).heap[w.heap.size + 1]? = some (.cells #[.slice B X'.length d, .slice B2 Y'.length d2] 65 (0, 0))) := Lib.hid (blk_newN (W := (w.alloc (.cells #[.slice A X.length c, .slice A2 Y.length c2] 65 (0, 0)))) (o := (.cells #[.slice B X'.length d, .slice B2 Y'.length d2] 65 (0, 0))) (by simp))
  have HB6 := Lib.hid (HB3.out.alloc (by have := HB3.out.size; simp at this ⊢ <;> omega) (.cells #[.slice B X'.length d, .slice B2 Y'.length d2] 65 (0, 0)))
  clear HB3
  have ST : GC A A2 B B2 c c2 d d2 X X' Y Y' w ((w.alloc (.cells #[.slice A X.length c, .slice A2 Y.length c2] 65 (0, 0))).alloc (.cells #[.slice B X'.length d, .slice B2 Y'.length d2] 65 (0, 0))) := ⟨HF4.out, HF5.out, H.out.below HB6.out, H'.out.below HB6.out, HB6.out⟩
  obtain ⟨v, hv⟩ : ∃ v, v = ((w.alloc (.cells #[.slice A X.length c, .slice A2 Y.length c2] 65 (0, 0))).alloc (.cells #[.slice B X'.length d, .slice B2 Y'.length d2] 65 (0, 0))) := ⟨_, rfl⟩
  clear HF4 HF5 HB6
  rw [← hv] at ST
  have ST := Lib.hid ST
  obtain ⟨k0, k1, k2, k3⟩ := ST.out.four
  go_upto_region 1 with (fail)
  try rw [← hv]
  clear hv
  go_wp2_with fail
  clear k0 k1 k2 k3
  refine (HFA.out v ST.out.ga).mono ?_
  rintro e w1 ⟨b, rfl, hsa, hb1⟩
  have ST := Lib.hid (ST.out.later hb1)
  have HSA := Lib.hid hsa
  clear hb1 hsa
  obtain ⟨k0, k1, k2, k3⟩ := ST.out.four
  cases b with
  | false =>
    go_wp2_with fail
    refine (awake26 w1).mono ?_
    rintro e w2 ⟨rfl, hb2⟩
    have ST := Lib.hid (ST.out.later hb2)
    clear hb2 k0 k1 k2 k3
    go_wp2_with fail
    go_ret
    exact ⟨rfl, ST.out.bel⟩
  | true =>
    go_wp2_with fail
    clear k0 k1 k2 k3
    refine (HFB.out w1 ST.out.gb).mono ?_
    rintro e w2 ⟨b, rfl, hsb, hb2⟩
    have ST := Lib.hid (ST.out.later hb2)
    clear hb2
    obtain ⟨k0, k1, k2, k3⟩ := ST.out.four
    cases b with
    | false =>
      go_wp2_with fail
      refine (awake26 w2).mono ?_
      rintro e w3 ⟨rfl, hb3⟩
      have ST := Lib.hid (ST.out.later hb3)
      clear hb3 k0 k1 k2 k3
      go_wp2_with fail
      go_ret
      exact ⟨rfl, ST.out.bel⟩
    | true =>
      clear k0 k1 k2 k3
      obtain ⟨sa1, sa2, sa3, sa4⟩ := HSA.out (by first | rfl | trivial)
      clear HSA hsb HFA HFB H H'
      have HCO := Lib.hid (fun (W : World) (q : GrIs W A X.length A2 Y.length X Y) => gcopy_any A A2 X.length c Y.length c2 X Y W q (by omega) (by omega) (fun x hx => by have := sa3 x hx; omega) (fun x hx => by have := sa4 x hx; omega))
      have HYE := Lib.hid (fun (D D2 : Option Addr) (p p2 : Nat) (W : World) (q1 : GrIs W D X.length D2 Y.length X Y) (q2 : GrIs W A X.length A2 Y.length X Y) => same26_yes D D2 A A2 X.length p Y.length p2 c c2 X Y W q1 q2 (by omega) (by omega) (fun x hx => by have := sa3 x hx; omega) (fun x hx => by have := sa4 x hx; omega))
      have HG1 := Lib.hid (fun (W : World) (q1 : GrIs W A X.length A2 Y.length X Y) (q2 : GrIs W B X'.length B2 Y'.length X' Y') => gsame_any A A2 B B2 X.length c Y.length c2 X'.length Y'.length d d2 X X' Y Y' W q1 q2 (by omega) (by omega) (fun x hx => by have := sa3 x hx; omega) (fun x hx => by have := sa4 x hx; omega))
      have HG2 := Lib.hid (fun (W : World) (q1 : GrIs W A X.length A2 Y.length X Y) (q2 : GrIs W B X'.length B2 Y'.length X' Y') => same26_any A A2 B B2 X.length c Y.length c2 X'.length Y'.length d d2 X X' Y Y' W q1 q2 (by omega) (by omega) (fun x hx => by have := sa3 x hx; omega) (fun x hx => by have := sa4 x hx; omega))
      have HG3 := Lib.hid (fun (W : World) (q1 : GrIs W A X.length A2 Y.length X Y) => gsame_any A A2 A A2 X.length c Y.length c2 X.length Y.length c c2 X X Y Y W q1 q1 (by omega) (by omega) (fun x hx => by have := sa3 x hx; omega) (fun x hx => by have := sa4 x hx; omega))
      rw [sameG_refl] at HG3
      generalize sameG X Y X' Y' = s at HG1 HG2
      have hss : (s == s) = true := by simp
      have hsd : decide (s = s) = true := by simp
      clear sa1 sa2 sa3 sa4
      have ST := ST.out
      go_upto_region 3 with (fail)
      go_region_held3 (fun w' => w'.cell? ⟨w.heap.size, 0, none⟩ = some (.slice A X.length c) ∧ w'.cell? ⟨w.heap.size, 1, none⟩ = some (.slice A2 Y.length c2) ∧ w'.cell? ⟨w.heap.size + 1, 0, none⟩ = some (.slice B X'.length d) ∧ w'.cell? ⟨w.heap.size + 1, 1, none⟩ = some (.slice B2 Y'.length d2))
        (first | exact ST.four | exact ST.drew.four)
        (first
        | (go_at_call 38; (first | (with_reducible refine (HCH.out _ ST.ga).mono ?_) | (with_reducible refine (HCH.out _ ST.drew.ga).mono ?_)); rintro e v1 ⟨rfl, hbv⟩; (first | have ST := ST.later hbv | have ST := ST.drew.later hbv); clear hbv)
        | (go_at_call 39; (first | (with_reducible refine (HWR.out _ ST.ga).mono ?_) | (with_reducible refine (HWR.out _ ST.drew.ga).mono ?_)); rintro e v2 ⟨rfl, hbv⟩; (first | have ST := ST.later hbv | have ST := ST.drew.later hbv); clear hbv)
        | (go_at_call 41; (first | (with_reducible refine (HCO.out _ ST.ga).mono ?_) | (with_reducible refine (HCO.out _ ST.drew.ga).mono ?_)); rintro e v3 ⟨D, D2, p, p2, rfl, hgc, hbv⟩; (first | have ST := ST.later hbv | have ST := ST.drew.later hbv); clear hbv)
        | (go_at_call 40; (with_reducible refine (HYE.out D D2 p p2 _ hgc ST.ga).mono ?_); rintro e v4 ⟨rfl, hbv⟩; (first | have ST := ST.later hbv | have ST := ST.drew.later hbv); clear hbv)
        | (go_at_call 42; (first | (with_reducible refine (HG1.out _ ST.ga ST.gb).mono ?_) | (with_reducible refine (HG1.out _ ST.drew.ga ST.drew.gb).mono ?_)); rintro e v5 ⟨rfl, hbv⟩; (first | have ST := ST.later hbv | have ST := ST.drew.later hbv); clear hbv)
        | (go_at_call 40; (first | (with_reducible refine (HG2.out _ ST.ga ST.gb).mono ?_) | (with_reducible refine (HG2.out _ ST.drew.ga ST.drew.gb).mono ?_)); rintro e v6 ⟨rfl, hbv⟩; (first | have ST := ST.later hbv | have ST := ST.drew.later hbv); clear hbv)
        | (go_at_call 42; (first | (with_reducible refine (HG3.out _ ST.ga).mono ?_) | (with_reducible refine (HG3.out _ ST.drew.ga).mono ?_)); rintro e v7 ⟨rfl, hbv⟩; (first | have ST := ST.later hbv | have ST := ST.drew.later hbv); clear hbv)
        | (go_at_call 37; refine (awake26 _).mono ?_; rintro e v8 ⟨rfl, hbv⟩; (first | have ST := ST.later hbv | have ST := ST.drew.later hbv); clear hbv))
      all_goals go_wp2_with fail
      all_goals go_ret
      all_goals exact ⟨rfl, ST.bel⟩
end Go.Proofs.Ytbjngbacnkmjhaa.LGraphChecks
