/- The walk of ElemBack over this translation. Conditions: texts that are no longer than a text may be; numbers that are ones. -/
import Derived.Test.YtdjjabjegmbmaaaElt
namespace Go.Proofs.Ytdjjabjegmbmaaa.LElemBack
open Go.RowKit Vi Zp

theorem lok_sm {ss : List ByteArray} {ps : List Pr} (h : Sm ss ps) : LOk ss.length ss ps.length ps := by
  have a1 := h.l
  have a2 := h.pl
  refine ⟨?_, ?_, fun s hs => ?_, fun p hp => ?_⟩
  · unfold maxLen; omega
  · unfold maxLen; omega
  · have := h.s s hs; unfold maxLen; omega
  · have := (h.p p hp).1; unfold maxLen; omega
set_option maxRecDepth 100000 in
set_option maxHeartbeats 16000000 in
theorem walk (i j f g S : ByteArray) (A A2 B B2 : Option Addr) (n c n2 c2 m d m2 d2 : Nat) (ss tt : List ByteArray) (ps qs : List Pr) (w : World) (h1 : LP w A n ss A2 n2 ps) (k1 : LOk n ss n2 ps) (i1 : IntsOk ps) (h2 : LP w B m tt B2 m2 qs) (k2 : LOk m tt m2 qs) (i2 : IntsOk qs) (hi : i.size ≤ maxLen) (hj : j.size ≤ maxLen) (hf : f.size ≤ maxLen) (hg : g.size ≤ maxLen) :
    Calls Try.prog 8 #[.agg #[.string i, .slice A n c, .slice A2 n2 c2], .agg #[.string j, .string f, .string g, .slice B m d, .slice B2 m2 d2], .string S] w fun e w' => e = .returned (.bool true) ∧ Below w.heap.size w w' := by
  have H1 := Lib.hid h1
  have H2 := Lib.hid h2
  have L1 := Lib.hid h1.l.1
  have L2 := Lib.hid h1.p.1
  have L3 := Lib.hid h2.l.1
  have L4 := Lib.hid h2.p.1
  have hn' := k1.n
  have hn2' := k1.n2
  have hm' := k2.n
  have hm2' := k2.n2
  unfold maxLen at hn' hn2' hm' hm2'
  have HF1 := Lib.hid (fun (W : World) (q : LP W A n ss A2 n2 ps) => few25_any A A2 n c n2 c2 ss ps W q k1)
  have HF2 := Lib.hid (fun (W : World) (q : LP W B m tt B2 m2 qs) => few25_any B B2 m d m2 d2 tt qs W q k2)
  have K1 := Lib.hid k1
  have K2 := Lib.hid k2
  have I1 := Lib.hid i1
  have I2 := Lib.hid i2
  clear h1 h2 k1 k2 i1 i2
  have HB1 := Lib.hid (Below.refl w.heap.size w)
  go_enter Try.func8, Try.ntmps8
  have HF2 := Lib.hid (blk_new w (.cells #[.string i, .slice A n c, .slice A2 n2 c2] 48 (0, 0)))
  have HB3 := Lib.hid (HB1.out.alloc HB1.out.size (.cells #[.string i, .slice A n c, .slice A2 n2 c2] 48 (0, 0)))
  clear HB1
  have HQ4 := Lib.hid (H1.out.below ((Below.refl _ w).alloc (Nat.le_refl _) (.cells #[.string i, .slice A n c, .slice A2 n2 c2] 48 (0, 0))))
  clear H1
  have HQ5 := Lib.hid (H2.out.below ((Below.refl _ w).alloc (Nat.le_refl _) (.cells #[.string i, .slice A n c, .slice A2 n2 c2] 48 (0, 0))))
  clear H2
  have HF6 := Lib.hid (blk_alloc HF2.out (.cells #[.string j, .string f, .string g, .slice B m d, .slice B2 m2 d2] 59 (0, 0)))
  clear HF2
  have HF7 : Hid (((w.alloc (.cells #[.string i, .slice A n c, .slice A2 n2 c2] 48 (0, 0))).alloc (.cells #[.string j, .string f, .string g, .slice B m d, .slice B2 m2 d2] 59 (0, 0))).heap[w.heap.size + 1]? = some (.cells #[.string j, .string f, .string g, .slice B m d, .slice B2 m2 d2] 59 (0, 0))) := Lib.hid (blk_newN (W := (w.alloc (.cells #[.string i, .slice A n c, .slice A2 n2 c2] 48 (0, 0)))) (o := (.cells #[.string j, .string f, .string g, .slice B m d, .slice B2 m2 d2] 59 (0, 0))) (by simp))
  have HB8 := Lib.hid (HB3.out.alloc (by have := HB3.out.size; simp at this ⊢ <;> omega) (.cells #[.string j, .string f, .string g, .slice B m d, .slice B2 m2 d2] 59 (0, 0)))
  clear HB3
  have HQ9 := Lib.hid (HQ4.out.below ((Below.refl _ (w.alloc (.cells #[.string i, .slice A n c, .slice A2 n2 c2] 48 (0, 0)))).alloc (Nat.le_refl _) (.cells #[.string j, .string f, .string g, .slice B m d, .slice B2 m2 d2] 59 (0, 0))))
  clear HQ4
  have HQ10 := Lib.hid (HQ5.out.below ((Below.refl _ (w.alloc (.cells #[.string i, .slice A n c, .slice A2 n2 c2] 48 (0, 0)))).alloc (Nat.le_refl _) (.cells #[.string j, .string f, .string g, .slice B m d, .slice B2 m2 d2] 59 (0, 0))))
  clear HQ5
  have hc11 : ((w.alloc (.cells #[.string i, .slice A n c, .slice A2 n2 c2] 48 (0, 0))).alloc (.cells #[.string j, .string f, .string g, .slice B m d, .slice B2 m2 d2] 59 (0, 0))).cell? ⟨w.heap.size, 0, none⟩ = some (.string i) := by rw [cell_of_row _ _ _ _ _ _ HF6.out]; rfl
  have hc12 : ((w.alloc (.cells #[.string i, .slice A n c, .slice A2 n2 c2] 48 (0, 0))).alloc (.cells #[.string j, .string f, .string g, .slice B m d, .slice B2 m2 d2] 59 (0, 0))).cell? ⟨w.heap.size, 1, none⟩ = some (.slice A n c) := by rw [cell_of_row _ _ _ _ _ _ HF6.out]; rfl
  have hc13 : ((w.alloc (.cells #[.string i, .slice A n c, .slice A2 n2 c2] 48 (0, 0))).alloc (.cells #[.string j, .string f, .string g, .slice B m d, .slice B2 m2 d2] 59 (0, 0))).cell? ⟨w.heap.size, 2, none⟩ = some (.slice A2 n2 c2) := by rw [cell_of_row _ _ _ _ _ _ HF6.out]; rfl
  have hc14 : ((w.alloc (.cells #[.string i, .slice A n c, .slice A2 n2 c2] 48 (0, 0))).alloc (.cells #[.string j, .string f, .string g, .slice B m d, .slice B2 m2 d2] 59 (0, 0))).cell? ⟨w.heap.size + 1, 0, none⟩ = some (.string j) := by rw [cell_of_row _ _ _ _ _ _ HF7.out]; rfl
  have hc15 : ((w.alloc (.cells #[.string i, .slice A n c, .slice A2 n2 c2] 48 (0, 0))).alloc (.cells #[.string j, .string f, .string g, .slice B m d, .slice B2 m2 d2] 59 (0, 0))).cell? ⟨w.heap.size + 1, 1, none⟩ = some (.string f) := by rw [cell_of_row _ _ _ _ _ _ HF7.out]; rfl
  have hc16 : ((w.alloc (.cells #[.string i, .slice A n c, .slice A2 n2 c2] 48 (0, 0))).alloc (.cells #[.string j, .string f, .string g, .slice B m d, .slice B2 m2 d2] 59 (0, 0))).cell? ⟨w.heap.size + 1, 2, none⟩ = some (.string g) := by rw [cell_of_row _ _ _ _ _ _ HF7.out]; rfl
  have hc17 : ((w.alloc (.cells #[.string i, .slice A n c, .slice A2 n2 c2] 48 (0, 0))).alloc (.cells #[.string j, .string f, .string g, .slice B m d, .slice B2 m2 d2] 59 (0, 0))).cell? ⟨w.heap.size + 1, 3, none⟩ = some (.slice B m d) := by rw [cell_of_row _ _ _ _ _ _ HF7.out]; rfl
  have hc18 : ((w.alloc (.cells #[.string i, .slice A n c, .slice A2 n2 c2] 48 (0, 0))).alloc (.cells #[.string j, .string f, .string g, .slice B m d, .slice B2 m2 d2] 59 (0, 0))).cell? ⟨w.heap.size + 1, 4, none⟩ = some (.slice B2 m2 d2) := by rw [cell_of_row _ _ _ _ _ _ HF7.out]; rfl
  go_wp2_with fail
  clear hc11 hc12 hc13 hc14 hc15 hc16 hc17 hc18
  refine (HF1.out ((w.alloc (.cells #[.string i, .slice A n c, .slice A2 n2 c2] 48 (0, 0))).alloc (.cells #[.string j, .string f, .string g, .slice B m d, .slice B2 m2 d2] 59 (0, 0))) HQ9.out).mono ?_
  rintro e w1 ⟨b, rfl, _, hb1⟩
  have HF19 := Lib.hid (blk_below HF6.out hb1)
  have HF20 := Lib.hid (blk_below HF7.out hb1)
  have HB21 := Lib.hid (HB8.out.trans (hb1.mono (by have := HB8.out.size; simp at this ⊢ <;> omega)))
  have HQ22 := Lib.hid (HQ9.out.below hb1)
  clear HQ9
  have HQ23 := Lib.hid (HQ10.out.below hb1)
  clear HQ10
  clear hb1 HB8 HF6 HF7
  cases b with
  | false =>
    go_wp2_with fail
    refine (awake25 w1).mono ?_
    rintro e w2 ⟨rfl, hb2⟩
    have HF24 := Lib.hid (blk_below HF19.out hb2)
    have HF25 := Lib.hid (blk_below HF20.out hb2)
    have HB26 := Lib.hid (HB21.out.trans (hb2.mono HB21.out.size))
    have HQ27 := Lib.hid (HQ22.out.below hb2)
    clear HQ22
    have HQ28 := Lib.hid (HQ23.out.below hb2)
    clear HQ23
    clear hb2 HB21 HF19 HF20
    go_wp2_with fail
    go_ret
    exact ⟨rfl, HB26.out⟩
  | true =>
    have hc24 : w1.cell? ⟨w.heap.size + 1, 0, none⟩ = some (.string j) := by rw [cell_of_row _ _ _ _ _ _ HF20.out]; rfl
    have hc25 : w1.cell? ⟨w.heap.size + 1, 1, none⟩ = some (.string f) := by rw [cell_of_row _ _ _ _ _ _ HF20.out]; rfl
    have hc26 : w1.cell? ⟨w.heap.size + 1, 2, none⟩ = some (.string g) := by rw [cell_of_row _ _ _ _ _ _ HF20.out]; rfl
    have hc27 : w1.cell? ⟨w.heap.size + 1, 3, none⟩ = some (.slice B m d) := by rw [cell_of_row _ _ _ _ _ _ HF20.out]; rfl
    have hc28 : w1.cell? ⟨w.heap.size + 1, 4, none⟩ = some (.slice B2 m2 d2) := by rw [cell_of_row _ _ _ _ _ _ HF20.out]; rfl
    go_wp2_with fail
    clear hc24 hc25 hc26 hc27 hc28
    refine (HF2.out w1 HQ23.out).mono ?_
    rintro e w2 ⟨b2, rfl, _, hb2⟩
    have HF29 := Lib.hid (blk_below HF19.out hb2)
    have HF30 := Lib.hid (blk_below HF20.out hb2)
    have HB31 := Lib.hid (HB21.out.trans (hb2.mono (by have := HB21.out.size; simp at this ⊢ <;> omega)))
    have HQ32 := Lib.hid (HQ22.out.below hb2)
    clear HQ22
    have HQ33 := Lib.hid (HQ23.out.below hb2)
    clear HQ23
    clear hb2 HB21 HF19 HF20
    cases b2 with
    | false =>
      go_wp2_with fail
      refine (awake25 w2).mono ?_
      rintro e w3 ⟨rfl, hb3⟩
      have HF34 := Lib.hid (blk_below HF29.out hb3)
      have HF35 := Lib.hid (blk_below HF30.out hb3)
      have HB36 := Lib.hid (HB31.out.trans (hb3.mono HB31.out.size))
      have HQ37 := Lib.hid (HQ32.out.below hb3)
      clear HQ32
      have HQ38 := Lib.hid (HQ33.out.below hb3)
      clear HQ33
      clear hb3 HB31 HF29 HF30
      go_wp2_with fail
      go_ret
      exact ⟨rfl, HB36.out⟩
    | true =>
      by_cases l2 : 3000 < S.size
      · have hds : decide ((3000 : Int) < (S.size : Int)) = true := decide_eq_true (by omega)
        go_wp2_with fail
        refine (awake25 w2).mono ?_
        rintro e w3 ⟨rfl, hb3⟩
        have HF34 := Lib.hid (blk_below HF29.out hb3)
        have HF35 := Lib.hid (blk_below HF30.out hb3)
        have HB36 := Lib.hid (HB31.out.trans (hb3.mono HB31.out.size))
        have HQ37 := Lib.hid (HQ32.out.below hb3)
        clear HQ32
        have HQ38 := Lib.hid (HQ33.out.below hb3)
        clear HQ33
        clear hb3 HB31 HF29 HF30
        go_wp2_with fail
        go_ret
        exact ⟨rfl, HB36.out⟩
      have hds : decide ((3000 : Int) < (S.size : Int)) = false := decide_eq_false (by omega)
      by_cases z1 : ndW i ss ps = 0
      · have hsm1 := rs_sm (nd_zero z1).2 I1.out
        have hpt1 := ptS_size hsm1
        obtain ⟨T1, hT1⟩ : ∃ T, T = ptS ss ps := ⟨_, rfl⟩
        have hTs1 : T1.size ≤ 999999 := by rw [hT1]; omega
        have HP1 := Lib.hid (fun (W : World) (q : LP W A n ss A2 n2 ps) => pnode_yes i A A2 n c n2 c2 ss ps W q K1.out hi z1 I1.out)
        have HT1 := Lib.hid (fun W : World => (tnode_any i T1 W hi hTs1).mono (TakeN.yes (ss := ss) (ps := ps) ⟨z1, I1.out, hT1.symm⟩))
        rw [← hT1] at HP1
        unfold TkN at HT1
        rw [L1.out, L2.out] at HT1
        clear z1 hsm1 hpt1 hT1 hTs1
        have hc34 : w2.cell? ⟨w.heap.size, 0, none⟩ = some (.string i) := by rw [cell_of_row _ _ _ _ _ _ HF29.out]; rfl
        have hc35 : w2.cell? ⟨w.heap.size, 1, none⟩ = some (.slice A n c) := by rw [cell_of_row _ _ _ _ _ _ HF29.out]; rfl
        have hc36 : w2.cell? ⟨w.heap.size, 2, none⟩ = some (.slice A2 n2 c2) := by rw [cell_of_row _ _ _ _ _ _ HF29.out]; rfl
        go_wp2_with fail
        clear hc34 hc35 hc36
        refine (HP1.out w2 HQ32.out).mono ?_
        rintro e w3 ⟨rfl, hb3⟩
        have HF37 := Lib.hid (blk_below HF29.out hb3)
        have HF38 := Lib.hid (blk_below HF30.out hb3)
        have HB39 := Lib.hid (HB31.out.trans (hb3.mono HB31.out.size))
        have HQ40 := Lib.hid (HQ32.out.below hb3)
        clear HQ32
        have HQ41 := Lib.hid (HQ33.out.below hb3)
        clear HQ33
        clear hb3 HB31 HF29 HF30
        have hc42 : w3.cell? ⟨w.heap.size, 0, none⟩ = some (.string i) := by rw [cell_of_row _ _ _ _ _ _ HF37.out]; rfl
        have hc43 : w3.cell? ⟨w.heap.size, 1, none⟩ = some (.slice A n c) := by rw [cell_of_row _ _ _ _ _ _ HF37.out]; rfl
        have hc44 : w3.cell? ⟨w.heap.size, 2, none⟩ = some (.slice A2 n2 c2) := by rw [cell_of_row _ _ _ _ _ _ HF37.out]; rfl
        go_wp2_with fail
        clear hc42 hc43 hc44
        refine (HT1.out w3).mono ?_
        rintro e w4 ⟨A5, c5, B5, e5, rfl, hlp, hb4⟩
        have HF45 := Lib.hid (blk_below HF37.out hb4)
        have HF46 := Lib.hid (blk_below HF38.out hb4)
        have HB47 := Lib.hid (HB39.out.trans (hb4.mono (by have := HB39.out.size; simp at this ⊢ <;> omega)))
        have HQ48 := Lib.hid (HQ40.out.below hb4)
        clear HQ40
        have HQ49 := Lib.hid (HQ41.out.below hb4)
        clear HQ41
        clear hb4 HB39 HF37 HF38
        have HQ5 := Lib.hid hlp
        clear hlp
        have hk50 : w.heap.size < w4.heap.size := lt_of_block HF45.out
        have hk51 : w.heap.size + 1 < w4.heap.size := lt_of_block HF46.out
        have HF52 := Lib.hid (blk_alloc HF45.out (.cells #[.string i, .slice A5 n c5, .slice B5 n2 e5] 48 (0, 0)))
        have HF53 := Lib.hid (blk_alloc HF46.out (.cells #[.string i, .slice A5 n c5, .slice B5 n2 e5] 48 (0, 0)))
        have HF54 := Lib.hid (blk_new w4 (.cells #[.string i, .slice A5 n c5, .slice B5 n2 e5] 48 (0, 0)))
        have HB55 := Lib.hid (HB47.out.alloc HB47.out.size (.cells #[.string i, .slice A5 n c5, .slice B5 n2 e5] 48 (0, 0)))
        clear HB47
        have HQ56 := Lib.hid (HQ48.out.below ((Below.refl _ w4).alloc (Nat.le_refl _) (.cells #[.string i, .slice A5 n c5, .slice B5 n2 e5] 48 (0, 0))))
        clear HQ48
        have HQ57 := Lib.hid (HQ49.out.below ((Below.refl _ w4).alloc (Nat.le_refl _) (.cells #[.string i, .slice A5 n c5, .slice B5 n2 e5] 48 (0, 0))))
        clear HQ49
        have HQ58 := Lib.hid (HQ5.out.below ((Below.refl _ w4).alloc (Nat.le_refl _) (.cells #[.string i, .slice A5 n c5, .slice B5 n2 e5] 48 (0, 0))))
        clear HQ5
        have hc59 : (w4.alloc (.cells #[.string i, .slice A5 n c5, .slice B5 n2 e5] 48 (0, 0))).cell? ⟨w.heap.size, 0, none⟩ = some (.string i) := by rw [cell_of_row _ _ _ _ _ _ HF52.out]; rfl
        have hc60 : w4.cell? ⟨w.heap.size, 0, none⟩ = some (.string i) := by rw [cell_of_row _ _ _ _ _ _ HF45.out]; rfl
        have hc61 : (w4.alloc (.cells #[.string i, .slice A5 n c5, .slice B5 n2 e5] 48 (0, 0))).cell? ⟨w.heap.size, 1, none⟩ = some (.slice A n c) := by rw [cell_of_row _ _ _ _ _ _ HF52.out]; rfl
        have hc62 : w4.cell? ⟨w.heap.size, 1, none⟩ = some (.slice A n c) := by rw [cell_of_row _ _ _ _ _ _ HF45.out]; rfl
        have hc63 : (w4.alloc (.cells #[.string i, .slice A5 n c5, .slice B5 n2 e5] 48 (0, 0))).cell? ⟨w.heap.size, 2, none⟩ = some (.slice A2 n2 c2) := by rw [cell_of_row _ _ _ _ _ _ HF52.out]; rfl
        have hc64 : w4.cell? ⟨w.heap.size, 2, none⟩ = some (.slice A2 n2 c2) := by rw [cell_of_row _ _ _ _ _ _ HF45.out]; rfl
        have hl65 : w.heap.size < w4.heap.size := lt_of_block HF45.out
        have hl66 : ¬ w.heap.size = w4.heap.size := by omega
        have hc67 : (w4.alloc (.cells #[.string i, .slice A5 n c5, .slice B5 n2 e5] 48 (0, 0))).cell? ⟨w4.heap.size, 0, none⟩ = some (.string i) := by rw [cell_of_row _ _ _ _ _ _ HF54.out]; rfl
        have hc68 : (w4.alloc (.cells #[.string i, .slice A5 n c5, .slice B5 n2 e5] 48 (0, 0))).cell? ⟨w4.heap.size, 1, none⟩ = some (.slice A5 n c5) := by rw [cell_of_row _ _ _ _ _ _ HF54.out]; rfl
        have hc69 : (w4.alloc (.cells #[.string i, .slice A5 n c5, .slice B5 n2 e5] 48 (0, 0))).cell? ⟨w4.heap.size, 2, none⟩ = some (.slice B5 n2 e5) := by rw [cell_of_row _ _ _ _ _ _ HF54.out]; rfl
        go_wp2_with fail
        clear hc59 hc60 hc61 hc62 hc63 hc64 hl65 hl66 hc67 hc68 hc69
        refine (snode_yes i A5 A B5 A2 n c5 c n2 e5 c2 ss ps (w4.alloc (.cells #[.string i, .slice A5 n c5, .slice B5 n2 e5] 48 (0, 0))) HQ58.out HQ56.out (by omega) (by omega)).mono ?_
        rintro e w5 ⟨rfl, hb5⟩
        have HF70 := Lib.hid (blk_below HF52.out hb5)
        have HF71 := Lib.hid (blk_below HF53.out hb5)
        have HF72 := Lib.hid (blk_below HF54.out hb5)
        have HB73 := Lib.hid (HB55.out.trans (hb5.mono HB55.out.size))
        have HQ74 := Lib.hid (HQ56.out.below hb5)
        clear HQ56
        have HQ75 := Lib.hid (HQ57.out.below hb5)
        clear HQ57
        have HQ76 := Lib.hid (HQ58.out.below hb5)
        clear HQ58
        clear hb5 HB55 HF52 HF45 HF53 HF46 HF54
        clear HQ76
        by_cases z2 : edW j f g tt qs = 0
        · have hsm2 := rs_sm (ed_zero z2).2.2.2 I2.out
          have hpt2 := ptS_size hsm2
          have hf12 := nm_small (ed_zero z2).2.1
          have hg12 := nm_small (ed_zero z2).2.2.1
          obtain ⟨T2, hT2⟩ : ∃ T, T = (tS f ++ tS g) ++ ptS tt qs := ⟨_, rfl⟩
          have hTs2 : T2.size ≤ 999999 := by
            have q1 := tS_size f
            have q2 := tS_size g
            rw [hT2, ByteArray.size_append, ByteArray.size_append]; omega
          have HP2 := Lib.hid (fun (W : World) (q : LP W B m tt B2 m2 qs) => pedge_yes j f g B B2 m d m2 d2 tt qs W q K2.out hj hf hg z2 I2.out)
          have HT2 := Lib.hid (fun W : World => (tedge_any j T2 W hj hTs2).mono (TakeE.yes (f := f) (g := g) (ss := tt) (ps := qs) ⟨z2, I2.out, hT2.symm⟩))
          rw [← hT2] at HP2
          unfold TkE at HT2
          rw [L3.out, L4.out] at HT2
          clear z2 hsm2 hpt2 hf12 hg12 hT2 hTs2
          have hc77 : w5.cell? ⟨w.heap.size + 1, 0, none⟩ = some (.string j) := by rw [cell_of_row _ _ _ _ _ _ HF71.out]; rfl
          have hc78 : w5.cell? ⟨w.heap.size + 1, 1, none⟩ = some (.string f) := by rw [cell_of_row _ _ _ _ _ _ HF71.out]; rfl
          have hc79 : w5.cell? ⟨w.heap.size + 1, 2, none⟩ = some (.string g) := by rw [cell_of_row _ _ _ _ _ _ HF71.out]; rfl
          have hc80 : w5.cell? ⟨w.heap.size + 1, 3, none⟩ = some (.slice B m d) := by rw [cell_of_row _ _ _ _ _ _ HF71.out]; rfl
          have hc81 : w5.cell? ⟨w.heap.size + 1, 4, none⟩ = some (.slice B2 m2 d2) := by rw [cell_of_row _ _ _ _ _ _ HF71.out]; rfl
          go_wp2_with fail
          clear hc77 hc78 hc79 hc80 hc81
          refine (HP2.out w5 HQ75.out).mono ?_
          rintro e w6 ⟨rfl, hb6⟩
          have HF82 := Lib.hid (blk_below HF70.out hb6)
          have HF83 := Lib.hid (blk_below HF71.out hb6)
          have HF84 := Lib.hid (blk_below HF72.out hb6)
          have HB85 := Lib.hid (HB73.out.trans (hb6.mono HB73.out.size))
          have HQ86 := Lib.hid (HQ74.out.below hb6)
          clear HQ74
          have HQ87 := Lib.hid (HQ75.out.below hb6)
          clear HQ75
          clear hb6 HB73 HF70 HF71 HF72
          have hc88 : w6.cell? ⟨w.heap.size + 1, 0, none⟩ = some (.string j) := by rw [cell_of_row _ _ _ _ _ _ HF83.out]; rfl
          have hc89 : w6.cell? ⟨w.heap.size + 1, 1, none⟩ = some (.string f) := by rw [cell_of_row _ _ _ _ _ _ HF83.out]; rfl
          have hc90 : w6.cell? ⟨w.heap.size + 1, 2, none⟩ = some (.string g) := by rw [cell_of_row _ _ _ _ _ _ HF83.out]; rfl
          have hc91 : w6.cell? ⟨w.heap.size + 1, 3, none⟩ = some (.slice B m d) := by rw [cell_of_row _ _ _ _ _ _ HF83.out]; rfl
          have hc92 : w6.cell? ⟨w.heap.size + 1, 4, none⟩ = some (.slice B2 m2 d2) := by rw [cell_of_row _ _ _ _ _ _ HF83.out]; rfl
          go_wp2_with fail
          clear hc88 hc89 hc90 hc91 hc92
          refine (HT2.out w6).mono ?_
          rintro e w7 ⟨A4, c4, B4, e4, rfl, hlp, hb7⟩
          have HF93 := Lib.hid (blk_below HF82.out hb7)
          have HF94 := Lib.hid (blk_below HF83.out hb7)
          have HF95 := Lib.hid (blk_below HF84.out hb7)
          have HB96 := Lib.hid (HB85.out.trans (hb7.mono (by have := HB85.out.size; simp at this ⊢ <;> omega)))
          have HQ97 := Lib.hid (HQ86.out.below hb7)
          clear HQ86
          have HQ98 := Lib.hid (HQ87.out.below hb7)
          clear HQ87
          clear hb7 HB85 HF82 HF83 HF84
          have HQ4 := Lib.hid hlp
          clear hlp
          have hk99 : w.heap.size < w7.heap.size := lt_of_block HF93.out
          have hk100 : w.heap.size + 1 < w7.heap.size := lt_of_block HF94.out
          have hk101 : w4.heap.size < w7.heap.size := lt_of_block HF95.out
          have HF102 := Lib.hid (blk_alloc HF93.out (.cells #[.string j, .string f, .string g, .slice A4 m c4, .slice B4 m2 e4] 59 (0, 0)))
          have HF103 := Lib.hid (blk_alloc HF94.out (.cells #[.string j, .string f, .string g, .slice A4 m c4, .slice B4 m2 e4] 59 (0, 0)))
          have HF104 := Lib.hid (blk_alloc HF95.out (.cells #[.string j, .string f, .string g, .slice A4 m c4, .slice B4 m2 e4] 59 (0, 0)))
          have HF105 := Lib.hid (blk_new w7 (.cells #[.string j, .string f, .string g, .slice A4 m c4, .slice B4 m2 e4] 59 (0, 0)))
          have HB106 := Lib.hid (HB96.out.alloc HB96.out.size (.cells #[.string j, .string f, .string g, .slice A4 m c4, .slice B4 m2 e4] 59 (0, 0)))
          clear HB96
          have HQ107 := Lib.hid (HQ97.out.below ((Below.refl _ w7).alloc (Nat.le_refl _) (.cells #[.string j, .string f, .string g, .slice A4 m c4, .slice B4 m2 e4] 59 (0, 0))))
          clear HQ97
          have HQ108 := Lib.hid (HQ98.out.below ((Below.refl _ w7).alloc (Nat.le_refl _) (.cells #[.string j, .string f, .string g, .slice A4 m c4, .slice B4 m2 e4] 59 (0, 0))))
          clear HQ98
          have HQ109 := Lib.hid (HQ4.out.below ((Below.refl _ w7).alloc (Nat.le_refl _) (.cells #[.string j, .string f, .string g, .slice A4 m c4, .slice B4 m2 e4] 59 (0, 0))))
          clear HQ4
          have hc110 : (w7.alloc (.cells #[.string j, .string f, .string g, .slice A4 m c4, .slice B4 m2 e4] 59 (0, 0))).cell? ⟨w.heap.size + 1, 0, none⟩ = some (.string j) := by rw [cell_of_row _ _ _ _ _ _ HF103.out]; rfl
          have hc111 : w7.cell? ⟨w.heap.size + 1, 0, none⟩ = some (.string j) := by rw [cell_of_row _ _ _ _ _ _ HF94.out]; rfl
          have hc112 : (w7.alloc (.cells #[.string j, .string f, .string g, .slice A4 m c4, .slice B4 m2 e4] 59 (0, 0))).cell? ⟨w.heap.size + 1, 1, none⟩ = some (.string f) := by rw [cell_of_row _ _ _ _ _ _ HF103.out]; rfl
          have hc113 : w7.cell? ⟨w.heap.size + 1, 1, none⟩ = some (.string f) := by rw [cell_of_row _ _ _ _ _ _ HF94.out]; rfl
          have hc114 : (w7.alloc (.cells #[.string j, .string f, .string g, .slice A4 m c4, .slice B4 m2 e4] 59 (0, 0))).cell? ⟨w.heap.size + 1, 2, none⟩ = some (.string g) := by rw [cell_of_row _ _ _ _ _ _ HF103.out]; rfl
          have hc115 : w7.cell? ⟨w.heap.size + 1, 2, none⟩ = some (.string g) := by rw [cell_of_row _ _ _ _ _ _ HF94.out]; rfl
          have hc116 : (w7.alloc (.cells #[.string j, .string f, .string g, .slice A4 m c4, .slice B4 m2 e4] 59 (0, 0))).cell? ⟨w.heap.size + 1, 3, none⟩ = some (.slice B m d) := by rw [cell_of_row _ _ _ _ _ _ HF103.out]; rfl
          have hc117 : w7.cell? ⟨w.heap.size + 1, 3, none⟩ = some (.slice B m d) := by rw [cell_of_row _ _ _ _ _ _ HF94.out]; rfl
          have hc118 : (w7.alloc (.cells #[.string j, .string f, .string g, .slice A4 m c4, .slice B4 m2 e4] 59 (0, 0))).cell? ⟨w.heap.size + 1, 4, none⟩ = some (.slice B2 m2 d2) := by rw [cell_of_row _ _ _ _ _ _ HF103.out]; rfl
          have hc119 : w7.cell? ⟨w.heap.size + 1, 4, none⟩ = some (.slice B2 m2 d2) := by rw [cell_of_row _ _ _ _ _ _ HF94.out]; rfl
          have hl120 : w.heap.size + 1 < w7.heap.size := lt_of_block HF94.out
          have hl121 : ¬ w.heap.size + 1 = w7.heap.size := by omega
          have hc122 : (w7.alloc (.cells #[.string j, .string f, .string g, .slice A4 m c4, .slice B4 m2 e4] 59 (0, 0))).cell? ⟨w7.heap.size, 0, none⟩ = some (.string j) := by rw [cell_of_row _ _ _ _ _ _ HF105.out]; rfl
          have hc123 : (w7.alloc (.cells #[.string j, .string f, .string g, .slice A4 m c4, .slice B4 m2 e4] 59 (0, 0))).cell? ⟨w7.heap.size, 1, none⟩ = some (.string f) := by rw [cell_of_row _ _ _ _ _ _ HF105.out]; rfl
          have hc124 : (w7.alloc (.cells #[.string j, .string f, .string g, .slice A4 m c4, .slice B4 m2 e4] 59 (0, 0))).cell? ⟨w7.heap.size, 2, none⟩ = some (.string g) := by rw [cell_of_row _ _ _ _ _ _ HF105.out]; rfl
          have hc125 : (w7.alloc (.cells #[.string j, .string f, .string g, .slice A4 m c4, .slice B4 m2 e4] 59 (0, 0))).cell? ⟨w7.heap.size, 3, none⟩ = some (.slice A4 m c4) := by rw [cell_of_row _ _ _ _ _ _ HF105.out]; rfl
          have hc126 : (w7.alloc (.cells #[.string j, .string f, .string g, .slice A4 m c4, .slice B4 m2 e4] 59 (0, 0))).cell? ⟨w7.heap.size, 4, none⟩ = some (.slice B4 m2 e4) := by rw [cell_of_row _ _ _ _ _ _ HF105.out]; rfl
          go_wp2_with fail
          clear hc110 hc111 hc112 hc113 hc114 hc115 hc116 hc117 hc118 hc119 hl120 hl121 hc122 hc123 hc124 hc125 hc126
          refine (sedge_yes j f g B A4 B2 B4 m d c4 m2 d2 e4 tt qs (w7.alloc (.cells #[.string j, .string f, .string g, .slice A4 m c4, .slice B4 m2 e4] 59 (0, 0))) HQ108.out HQ109.out (by omega) (by omega)).mono ?_
          rintro e w8 ⟨rfl, hb8⟩
          have HF127 := Lib.hid (blk_below HF102.out hb8)
          have HF128 := Lib.hid (blk_below HF103.out hb8)
          have HF129 := Lib.hid (blk_below HF104.out hb8)
          have HF130 := Lib.hid (blk_below HF105.out hb8)
          have HB131 := Lib.hid (HB106.out.trans (hb8.mono HB106.out.size))
          have HQ132 := Lib.hid (HQ107.out.below hb8)
          clear HQ107
          have HQ133 := Lib.hid (HQ108.out.below hb8)
          clear HQ108
          have HQ134 := Lib.hid (HQ109.out.below hb8)
          clear HQ109
          clear hb8 HB106 HF102 HF93 HF103 HF94 HF104 HF95 HF105
          clear HQ134
          by_cases h3 : ∃ s3 p3, IsN ⟨#[97]⟩ S s3 p3
          · obtain ⟨s3, p3, h3⟩ := h3
            have hsm3 := rs_sm (nd_zero h3.1).2 h3.2.1
            have HT3 := Lib.hid (fun W : World => (tnode_any ⟨#[97]⟩ S W (by unfold maxLen; decide) (by omega)).mono (TakeN.yes h3))
            obtain ⟨x1, hx1⟩ : ∃ n, n = s3.length := ⟨_, rfl⟩
            obtain ⟨x2, hx2⟩ : ∃ n, n = p3.length := ⟨_, rfl⟩
            have HP3 := Lib.hid (fun (W : World) (A A2 : Option Addr) (c c2 : Nat) (q : LP W A x1 s3 A2 x2 p3) => pnode_yes ⟨#[97]⟩ A A2 x1 c x2 c2 s3 p3 W q (by rw [hx1, hx2]; exact lok_sm hsm3) (by unfold maxLen; decide) h3.1 h3.2.1)
            rw [h3.2.2] at HP3
            unfold TkN at HT3
            rw [← hx1, ← hx2] at HT3
            have hse : (S.toList == S.toList) = true := by simp
            have hsn : (S.toList != S.toList) = false := by simp
            clear h3 hsm3 hx1 hx2
            go_wp2_with fail
            refine (HT3.out w8).mono ?_
            rintro e w9 ⟨A3, c3, B3, e3, rfl, hlp, hb9⟩
            have HF135 := Lib.hid (blk_below HF127.out hb9)
            have HF136 := Lib.hid (blk_below HF128.out hb9)
            have HF137 := Lib.hid (blk_below HF129.out hb9)
            have HF138 := Lib.hid (blk_below HF130.out hb9)
            have HB139 := Lib.hid (HB131.out.trans (hb9.mono (by have := HB131.out.size; simp at this ⊢ <;> omega)))
            have HQ140 := Lib.hid (HQ132.out.below hb9)
            clear HQ132
            have HQ141 := Lib.hid (HQ133.out.below hb9)
            clear HQ133
            clear hb9 HB131 HF127 HF128 HF129 HF130
            have HQ3 := Lib.hid hlp
            clear hlp
            have hk142 : w.heap.size < w9.heap.size := lt_of_block HF135.out
            have hk143 : w.heap.size + 1 < w9.heap.size := lt_of_block HF136.out
            have hk144 : w4.heap.size < w9.heap.size := lt_of_block HF137.out
            have hk145 : w7.heap.size < w9.heap.size := lt_of_block HF138.out
            have HF146 := Lib.hid (blk_alloc HF135.out (.cells #[.string ⟨#[97]⟩, .slice A3 x1 c3, .slice B3 x2 e3] 48 (0, 0)))
            have HF147 := Lib.hid (blk_alloc HF136.out (.cells #[.string ⟨#[97]⟩, .slice A3 x1 c3, .slice B3 x2 e3] 48 (0, 0)))
            have HF148 := Lib.hid (blk_alloc HF137.out (.cells #[.string ⟨#[97]⟩, .slice A3 x1 c3, .slice B3 x2 e3] 48 (0, 0)))
            have HF149 := Lib.hid (blk_alloc HF138.out (.cells #[.string ⟨#[97]⟩, .slice A3 x1 c3, .slice B3 x2 e3] 48 (0, 0)))
            have HF150 := Lib.hid (blk_new w9 (.cells #[.string ⟨#[97]⟩, .slice A3 x1 c3, .slice B3 x2 e3] 48 (0, 0)))
            have HB151 := Lib.hid (HB139.out.alloc HB139.out.size (.cells #[.string ⟨#[97]⟩, .slice A3 x1 c3, .slice B3 x2 e3] 48 (0, 0)))
            clear HB139
            have HQ152 := Lib.hid (HQ140.out.below ((Below.refl _ w9).alloc (Nat.le_refl _) (.cells #[.string ⟨#[97]⟩, .slice A3 x1 c3, .slice B3 x2 e3] 48 (0, 0))))
            clear HQ140
            have HQ153 := Lib.hid (HQ141.out.below ((Below.refl _ w9).alloc (Nat.le_refl _) (.cells #[.string ⟨#[97]⟩, .slice A3 x1 c3, .slice B3 x2 e3] 48 (0, 0))))
            clear HQ141
            have HQ154 := Lib.hid (HQ3.out.below ((Below.refl _ w9).alloc (Nat.le_refl _) (.cells #[.string ⟨#[97]⟩, .slice A3 x1 c3, .slice B3 x2 e3] 48 (0, 0))))
            clear HQ3
            have hc155 : (w9.alloc (.cells #[.string ⟨#[97]⟩, .slice A3 x1 c3, .slice B3 x2 e3] 48 (0, 0))).cell? ⟨w9.heap.size, 0, none⟩ = some (.string ⟨#[97]⟩) := by rw [cell_of_row _ _ _ _ _ _ HF150.out]; rfl
            have hc156 : (w9.alloc (.cells #[.string ⟨#[97]⟩, .slice A3 x1 c3, .slice B3 x2 e3] 48 (0, 0))).cell? ⟨w9.heap.size, 1, none⟩ = some (.slice A3 x1 c3) := by rw [cell_of_row _ _ _ _ _ _ HF150.out]; rfl
            have hc157 : (w9.alloc (.cells #[.string ⟨#[97]⟩, .slice A3 x1 c3, .slice B3 x2 e3] 48 (0, 0))).cell? ⟨w9.heap.size, 2, none⟩ = some (.slice B3 x2 e3) := by rw [cell_of_row _ _ _ _ _ _ HF150.out]; rfl
            go_wp2_with fail
            clear hc155 hc156 hc157
            refine (HP3.out (w9.alloc (.cells #[.string ⟨#[97]⟩, .slice A3 x1 c3, .slice B3 x2 e3] 48 (0, 0))) A3 B3 c3 e3 HQ154.out).mono ?_
            rintro e w10 ⟨rfl, hb10⟩
            have HF158 := Lib.hid (blk_below HF146.out hb10)
            have HF159 := Lib.hid (blk_below HF147.out hb10)
            have HF160 := Lib.hid (blk_below HF148.out hb10)
            have HF161 := Lib.hid (blk_below HF149.out hb10)
            have HF162 := Lib.hid (blk_below HF150.out hb10)
            have HB163 := Lib.hid (HB151.out.trans (hb10.mono HB151.out.size))
            have HQ164 := Lib.hid (HQ152.out.below hb10)
            clear HQ152
            have HQ165 := Lib.hid (HQ153.out.below hb10)
            clear HQ153
            have HQ166 := Lib.hid (HQ154.out.below hb10)
            clear HQ154
            clear hb10 HB151 HF146 HF135 HF147 HF136 HF148 HF137 HF149 HF138 HF150
            go_wp2_with fail
            refine (awake25 w10).mono ?_
            rintro e w11 ⟨rfl, hb11⟩
            have HF167 := Lib.hid (blk_below HF158.out hb11)
            have HF168 := Lib.hid (blk_below HF159.out hb11)
            have HF169 := Lib.hid (blk_below HF160.out hb11)
            have HF170 := Lib.hid (blk_below HF161.out hb11)
            have HF171 := Lib.hid (blk_below HF162.out hb11)
            have HB172 := Lib.hid (HB163.out.trans (hb11.mono HB163.out.size))
            have HQ173 := Lib.hid (HQ164.out.below hb11)
            clear HQ164
            have HQ174 := Lib.hid (HQ165.out.below hb11)
            clear HQ165
            have HQ175 := Lib.hid (HQ166.out.below hb11)
            clear HQ166
            clear hb11 HB163 HF158 HF159 HF160 HF161 HF162
            go_wp2_with fail
            go_ret
            exact ⟨rfl, HB172.out⟩
          · have HT3 := Lib.hid (fun W : World => (tnode_any ⟨#[97]⟩ S W (by unfold maxLen; decide) (by omega)).mono (TakeN.no (fun s3 p3 k => h3 ⟨s3, p3, k⟩)))
            unfold TkN at HT3
            clear h3
            go_wp2_with fail
            refine (HT3.out w8).mono ?_
            rintro e w9 ⟨A3, c3, B3, e3, rfl, _, hb9⟩
            have HF135 := Lib.hid (blk_below HF127.out hb9)
            have HF136 := Lib.hid (blk_below HF128.out hb9)
            have HF137 := Lib.hid (blk_below HF129.out hb9)
            have HF138 := Lib.hid (blk_below HF130.out hb9)
            have HB139 := Lib.hid (HB131.out.trans (hb9.mono (by have := HB131.out.size; simp at this ⊢ <;> omega)))
            have HQ140 := Lib.hid (HQ132.out.below hb9)
            clear HQ132
            have HQ141 := Lib.hid (HQ133.out.below hb9)
            clear HQ133
            clear hb9 HB131 HF127 HF128 HF129 HF130
            have hk142 : w.heap.size < w9.heap.size := lt_of_block HF135.out
            have hk143 : w.heap.size + 1 < w9.heap.size := lt_of_block HF136.out
            have hk144 : w4.heap.size < w9.heap.size := lt_of_block HF137.out
            have hk145 : w7.heap.size < w9.heap.size := lt_of_block HF138.out
            have HF146 := Lib.hid (blk_alloc HF135.out (.cells #[.string ⟨#[]⟩, .slice A3 (List.length ([] : List ByteArray)) c3, .slice B3 (List.length ([] : List Pr)) e3] 48 (0, 0)))
            have HF147 := Lib.hid (blk_alloc HF136.out (.cells #[.string ⟨#[]⟩, .slice A3 (List.length ([] : List ByteArray)) c3, .slice B3 (List.length ([] : List Pr)) e3] 48 (0, 0)))
            have HF148 := Lib.hid (blk_alloc HF137.out (.cells #[.string ⟨#[]⟩, .slice A3 (List.length ([] : List ByteArray)) c3, .slice B3 (List.length ([] : List Pr)) e3] 48 (0, 0)))
            have HF149 := Lib.hid (blk_alloc HF138.out (.cells #[.string ⟨#[]⟩, .slice A3 (List.length ([] : List ByteArray)) c3, .slice B3 (List.length ([] : List Pr)) e3] 48 (0, 0)))
            have HF150 := Lib.hid (blk_new w9 (.cells #[.string ⟨#[]⟩, .slice A3 (List.length ([] : List ByteArray)) c3, .slice B3 (List.length ([] : List Pr)) e3] 48 (0, 0)))
            have HB151 := Lib.hid (HB139.out.alloc HB139.out.size (.cells #[.string ⟨#[]⟩, .slice A3 (List.length ([] : List ByteArray)) c3, .slice B3 (List.length ([] : List Pr)) e3] 48 (0, 0)))
            clear HB139
            have HQ152 := Lib.hid (HQ140.out.below ((Below.refl _ w9).alloc (Nat.le_refl _) (.cells #[.string ⟨#[]⟩, .slice A3 (List.length ([] : List ByteArray)) c3, .slice B3 (List.length ([] : List Pr)) e3] 48 (0, 0))))
            clear HQ140
            have HQ153 := Lib.hid (HQ141.out.below ((Below.refl _ w9).alloc (Nat.le_refl _) (.cells #[.string ⟨#[]⟩, .slice A3 (List.length ([] : List ByteArray)) c3, .slice B3 (List.length ([] : List Pr)) e3] 48 (0, 0))))
            clear HQ141
            go_wp2_with fail
            refine (awake25 (w9.alloc (.cells #[.string ⟨#[]⟩, .slice A3 (List.length ([] : List ByteArray)) c3, .slice B3 (List.length ([] : List Pr)) e3] 48 (0, 0)))).mono ?_
            rintro e w10 ⟨rfl, hb10⟩
            have HF154 := Lib.hid (blk_below HF146.out hb10)
            have HF155 := Lib.hid (blk_below HF147.out hb10)
            have HF156 := Lib.hid (blk_below HF148.out hb10)
            have HF157 := Lib.hid (blk_below HF149.out hb10)
            have HF158 := Lib.hid (blk_below HF150.out hb10)
            have HB159 := Lib.hid (HB151.out.trans (hb10.mono HB151.out.size))
            have HQ160 := Lib.hid (HQ152.out.below hb10)
            clear HQ152
            have HQ161 := Lib.hid (HQ153.out.below hb10)
            clear HQ153
            clear hb10 HB151 HF146 HF135 HF147 HF136 HF148 HF137 HF149 HF138 HF150
            go_wp2_with fail
            go_ret
            exact ⟨rfl, HB159.out⟩
        · have HP2 := Lib.hid (fun (W : World) (q : LP W B m tt B2 m2 qs) => pedge_no j f g B B2 m d m2 d2 tt qs W q K2.out hj hf hg z2)
          obtain ⟨z4, hz4⟩ : ∃ z, z = edW j f g tt qs := ⟨_, rfl⟩
          rw [← hz4] at HP2 z2
          have hze4 : (z4 == 0) = false := by simpa using z2
          clear z2 hz4
          have hc77 : w5.cell? ⟨w.heap.size + 1, 0, none⟩ = some (.string j) := by rw [cell_of_row _ _ _ _ _ _ HF71.out]; rfl
          have hc78 : w5.cell? ⟨w.heap.size + 1, 1, none⟩ = some (.string f) := by rw [cell_of_row _ _ _ _ _ _ HF71.out]; rfl
          have hc79 : w5.cell? ⟨w.heap.size + 1, 2, none⟩ = some (.string g) := by rw [cell_of_row _ _ _ _ _ _ HF71.out]; rfl
          have hc80 : w5.cell? ⟨w.heap.size + 1, 3, none⟩ = some (.slice B m d) := by rw [cell_of_row _ _ _ _ _ _ HF71.out]; rfl
          have hc81 : w5.cell? ⟨w.heap.size + 1, 4, none⟩ = some (.slice B2 m2 d2) := by rw [cell_of_row _ _ _ _ _ _ HF71.out]; rfl
          go_wp2_with fail
          clear hc77 hc78 hc79 hc80 hc81
          refine (HP2.out w5 HQ75.out).mono ?_
          rintro e w6 ⟨rfl, hb6⟩
          have HF82 := Lib.hid (blk_below HF70.out hb6)
          have HF83 := Lib.hid (blk_below HF71.out hb6)
          have HF84 := Lib.hid (blk_below HF72.out hb6)
          have HB85 := Lib.hid (HB73.out.trans (hb6.mono HB73.out.size))
          have HQ86 := Lib.hid (HQ74.out.below hb6)
          clear HQ74
          have HQ87 := Lib.hid (HQ75.out.below hb6)
          clear HQ75
          clear hb6 HB73 HF70 HF71 HF72
          by_cases h3 : ∃ s3 p3, IsN ⟨#[97]⟩ S s3 p3
          · obtain ⟨s3, p3, h3⟩ := h3
            have hsm3 := rs_sm (nd_zero h3.1).2 h3.2.1
            have HT3 := Lib.hid (fun W : World => (tnode_any ⟨#[97]⟩ S W (by unfold maxLen; decide) (by omega)).mono (TakeN.yes h3))
            obtain ⟨x1, hx1⟩ : ∃ n, n = s3.length := ⟨_, rfl⟩
            obtain ⟨x2, hx2⟩ : ∃ n, n = p3.length := ⟨_, rfl⟩
            have HP3 := Lib.hid (fun (W : World) (A A2 : Option Addr) (c c2 : Nat) (q : LP W A x1 s3 A2 x2 p3) => pnode_yes ⟨#[97]⟩ A A2 x1 c x2 c2 s3 p3 W q (by rw [hx1, hx2]; exact lok_sm hsm3) (by unfold maxLen; decide) h3.1 h3.2.1)
            rw [h3.2.2] at HP3
            unfold TkN at HT3
            rw [← hx1, ← hx2] at HT3
            have hse : (S.toList == S.toList) = true := by simp
            have hsn : (S.toList != S.toList) = false := by simp
            clear h3 hsm3 hx1 hx2
            go_wp2_with fail
            refine (HT3.out w6).mono ?_
            rintro e w7 ⟨A3, c3, B3, e3, rfl, hlp, hb7⟩
            have HF88 := Lib.hid (blk_below HF82.out hb7)
            have HF89 := Lib.hid (blk_below HF83.out hb7)
            have HF90 := Lib.hid (blk_below HF84.out hb7)
            have HB91 := Lib.hid (HB85.out.trans (hb7.mono (by have := HB85.out.size; simp at this ⊢ <;> omega)))
            have HQ92 := Lib.hid (HQ86.out.below hb7)
            clear HQ86
            have HQ93 := Lib.hid (HQ87.out.below hb7)
            clear HQ87
            clear hb7 HB85 HF82 HF83 HF84
            have HQ3 := Lib.hid hlp
            clear hlp
            have hk94 : w.heap.size < w7.heap.size := lt_of_block HF88.out
            have hk95 : w.heap.size + 1 < w7.heap.size := lt_of_block HF89.out
            have hk96 : w4.heap.size < w7.heap.size := lt_of_block HF90.out
            have HF97 := Lib.hid (blk_alloc HF88.out (.cells #[.string ⟨#[97]⟩, .slice A3 x1 c3, .slice B3 x2 e3] 48 (0, 0)))
            have HF98 := Lib.hid (blk_alloc HF89.out (.cells #[.string ⟨#[97]⟩, .slice A3 x1 c3, .slice B3 x2 e3] 48 (0, 0)))
            have HF99 := Lib.hid (blk_alloc HF90.out (.cells #[.string ⟨#[97]⟩, .slice A3 x1 c3, .slice B3 x2 e3] 48 (0, 0)))
            have HF100 := Lib.hid (blk_new w7 (.cells #[.string ⟨#[97]⟩, .slice A3 x1 c3, .slice B3 x2 e3] 48 (0, 0)))
            have HB101 := Lib.hid (HB91.out.alloc HB91.out.size (.cells #[.string ⟨#[97]⟩, .slice A3 x1 c3, .slice B3 x2 e3] 48 (0, 0)))
            clear HB91
            have HQ102 := Lib.hid (HQ92.out.below ((Below.refl _ w7).alloc (Nat.le_refl _) (.cells #[.string ⟨#[97]⟩, .slice A3 x1 c3, .slice B3 x2 e3] 48 (0, 0))))
            clear HQ92
            have HQ103 := Lib.hid (HQ93.out.below ((Below.refl _ w7).alloc (Nat.le_refl _) (.cells #[.string ⟨#[97]⟩, .slice A3 x1 c3, .slice B3 x2 e3] 48 (0, 0))))
            clear HQ93
            have HQ104 := Lib.hid (HQ3.out.below ((Below.refl _ w7).alloc (Nat.le_refl _) (.cells #[.string ⟨#[97]⟩, .slice A3 x1 c3, .slice B3 x2 e3] 48 (0, 0))))
            clear HQ3
            have hc105 : (w7.alloc (.cells #[.string ⟨#[97]⟩, .slice A3 x1 c3, .slice B3 x2 e3] 48 (0, 0))).cell? ⟨w7.heap.size, 0, none⟩ = some (.string ⟨#[97]⟩) := by rw [cell_of_row _ _ _ _ _ _ HF100.out]; rfl
            have hc106 : (w7.alloc (.cells #[.string ⟨#[97]⟩, .slice A3 x1 c3, .slice B3 x2 e3] 48 (0, 0))).cell? ⟨w7.heap.size, 1, none⟩ = some (.slice A3 x1 c3) := by rw [cell_of_row _ _ _ _ _ _ HF100.out]; rfl
            have hc107 : (w7.alloc (.cells #[.string ⟨#[97]⟩, .slice A3 x1 c3, .slice B3 x2 e3] 48 (0, 0))).cell? ⟨w7.heap.size, 2, none⟩ = some (.slice B3 x2 e3) := by rw [cell_of_row _ _ _ _ _ _ HF100.out]; rfl
            go_wp2_with fail
            clear hc105 hc106 hc107
            refine (HP3.out (w7.alloc (.cells #[.string ⟨#[97]⟩, .slice A3 x1 c3, .slice B3 x2 e3] 48 (0, 0))) A3 B3 c3 e3 HQ104.out).mono ?_
            rintro e w8 ⟨rfl, hb8⟩
            have HF108 := Lib.hid (blk_below HF97.out hb8)
            have HF109 := Lib.hid (blk_below HF98.out hb8)
            have HF110 := Lib.hid (blk_below HF99.out hb8)
            have HF111 := Lib.hid (blk_below HF100.out hb8)
            have HB112 := Lib.hid (HB101.out.trans (hb8.mono HB101.out.size))
            have HQ113 := Lib.hid (HQ102.out.below hb8)
            clear HQ102
            have HQ114 := Lib.hid (HQ103.out.below hb8)
            clear HQ103
            have HQ115 := Lib.hid (HQ104.out.below hb8)
            clear HQ104
            clear hb8 HB101 HF97 HF88 HF98 HF89 HF99 HF90 HF100
            go_wp2_with fail
            refine (awake25 w8).mono ?_
            rintro e w9 ⟨rfl, hb9⟩
            have HF116 := Lib.hid (blk_below HF108.out hb9)
            have HF117 := Lib.hid (blk_below HF109.out hb9)
            have HF118 := Lib.hid (blk_below HF110.out hb9)
            have HF119 := Lib.hid (blk_below HF111.out hb9)
            have HB120 := Lib.hid (HB112.out.trans (hb9.mono HB112.out.size))
            have HQ121 := Lib.hid (HQ113.out.below hb9)
            clear HQ113
            have HQ122 := Lib.hid (HQ114.out.below hb9)
            clear HQ114
            have HQ123 := Lib.hid (HQ115.out.below hb9)
            clear HQ115
            clear hb9 HB112 HF108 HF109 HF110 HF111
            go_wp2_with fail
            go_ret
            exact ⟨rfl, HB120.out⟩
          · have HT3 := Lib.hid (fun W : World => (tnode_any ⟨#[97]⟩ S W (by unfold maxLen; decide) (by omega)).mono (TakeN.no (fun s3 p3 k => h3 ⟨s3, p3, k⟩)))
            unfold TkN at HT3
            clear h3
            go_wp2_with fail
            refine (HT3.out w6).mono ?_
            rintro e w7 ⟨A3, c3, B3, e3, rfl, _, hb7⟩
            have HF88 := Lib.hid (blk_below HF82.out hb7)
            have HF89 := Lib.hid (blk_below HF83.out hb7)
            have HF90 := Lib.hid (blk_below HF84.out hb7)
            have HB91 := Lib.hid (HB85.out.trans (hb7.mono (by have := HB85.out.size; simp at this ⊢ <;> omega)))
            have HQ92 := Lib.hid (HQ86.out.below hb7)
            clear HQ86
            have HQ93 := Lib.hid (HQ87.out.below hb7)
            clear HQ87
            clear hb7 HB85 HF82 HF83 HF84
            have hk94 : w.heap.size < w7.heap.size := lt_of_block HF88.out
            have hk95 : w.heap.size + 1 < w7.heap.size := lt_of_block HF89.out
            have hk96 : w4.heap.size < w7.heap.size := lt_of_block HF90.out
            have HF97 := Lib.hid (blk_alloc HF88.out (.cells #[.string ⟨#[]⟩, .slice A3 (List.length ([] : List ByteArray)) c3, .slice B3 (List.length ([] : List Pr)) e3] 48 (0, 0)))
            have HF98 := Lib.hid (blk_alloc HF89.out (.cells #[.string ⟨#[]⟩, .slice A3 (List.length ([] : List ByteArray)) c3, .slice B3 (List.length ([] : List Pr)) e3] 48 (0, 0)))
            have HF99 := Lib.hid (blk_alloc HF90.out (.cells #[.string ⟨#[]⟩, .slice A3 (List.length ([] : List ByteArray)) c3, .slice B3 (List.length ([] : List Pr)) e3] 48 (0, 0)))
            have HF100 := Lib.hid (blk_new w7 (.cells #[.string ⟨#[]⟩, .slice A3 (List.length ([] : List ByteArray)) c3, .slice B3 (List.length ([] : List Pr)) e3] 48 (0, 0)))
            have HB101 := Lib.hid (HB91.out.alloc HB91.out.size (.cells #[.string ⟨#[]⟩, .slice A3 (List.length ([] : List ByteArray)) c3, .slice B3 (List.length ([] : List Pr)) e3] 48 (0, 0)))
            clear HB91
            have HQ102 := Lib.hid (HQ92.out.below ((Below.refl _ w7).alloc (Nat.le_refl _) (.cells #[.string ⟨#[]⟩, .slice A3 (List.length ([] : List ByteArray)) c3, .slice B3 (List.length ([] : List Pr)) e3] 48 (0, 0))))
            clear HQ92
            have HQ103 := Lib.hid (HQ93.out.below ((Below.refl _ w7).alloc (Nat.le_refl _) (.cells #[.string ⟨#[]⟩, .slice A3 (List.length ([] : List ByteArray)) c3, .slice B3 (List.length ([] : List Pr)) e3] 48 (0, 0))))
            clear HQ93
            go_wp2_with fail
            refine (awake25 (w7.alloc (.cells #[.string ⟨#[]⟩, .slice A3 (List.length ([] : List ByteArray)) c3, .slice B3 (List.length ([] : List Pr)) e3] 48 (0, 0)))).mono ?_
            rintro e w8 ⟨rfl, hb8⟩
            have HF104 := Lib.hid (blk_below HF97.out hb8)
            have HF105 := Lib.hid (blk_below HF98.out hb8)
            have HF106 := Lib.hid (blk_below HF99.out hb8)
            have HF107 := Lib.hid (blk_below HF100.out hb8)
            have HB108 := Lib.hid (HB101.out.trans (hb8.mono HB101.out.size))
            have HQ109 := Lib.hid (HQ102.out.below hb8)
            clear HQ102
            have HQ110 := Lib.hid (HQ103.out.below hb8)
            clear HQ103
            clear hb8 HB101 HF97 HF88 HF98 HF89 HF99 HF90 HF100
            go_wp2_with fail
            go_ret
            exact ⟨rfl, HB108.out⟩
      · have HP1 := Lib.hid (fun (W : World) (q : LP W A n ss A2 n2 ps) => pnode_no i A A2 n c n2 c2 ss ps W q K1.out hi z1)
        obtain ⟨z5, hz5⟩ : ∃ z, z = ndW i ss ps := ⟨_, rfl⟩
        rw [← hz5] at HP1 z1
        have hze5 : (z5 == 0) = false := by simpa using z1
        clear z1 hz5
        have hc34 : w2.cell? ⟨w.heap.size, 0, none⟩ = some (.string i) := by rw [cell_of_row _ _ _ _ _ _ HF29.out]; rfl
        have hc35 : w2.cell? ⟨w.heap.size, 1, none⟩ = some (.slice A n c) := by rw [cell_of_row _ _ _ _ _ _ HF29.out]; rfl
        have hc36 : w2.cell? ⟨w.heap.size, 2, none⟩ = some (.slice A2 n2 c2) := by rw [cell_of_row _ _ _ _ _ _ HF29.out]; rfl
        go_wp2_with fail
        clear hc34 hc35 hc36
        refine (HP1.out w2 HQ32.out).mono ?_
        rintro e w3 ⟨rfl, hb3⟩
        have HF37 := Lib.hid (blk_below HF29.out hb3)
        have HF38 := Lib.hid (blk_below HF30.out hb3)
        have HB39 := Lib.hid (HB31.out.trans (hb3.mono HB31.out.size))
        have HQ40 := Lib.hid (HQ32.out.below hb3)
        clear HQ32
        have HQ41 := Lib.hid (HQ33.out.below hb3)
        clear HQ33
        clear hb3 HB31 HF29 HF30
        by_cases z2 : edW j f g tt qs = 0
        · have hsm2 := rs_sm (ed_zero z2).2.2.2 I2.out
          have hpt2 := ptS_size hsm2
          have hf12 := nm_small (ed_zero z2).2.1
          have hg12 := nm_small (ed_zero z2).2.2.1
          obtain ⟨T2, hT2⟩ : ∃ T, T = (tS f ++ tS g) ++ ptS tt qs := ⟨_, rfl⟩
          have hTs2 : T2.size ≤ 999999 := by
            have q1 := tS_size f
            have q2 := tS_size g
            rw [hT2, ByteArray.size_append, ByteArray.size_append]; omega
          have HP2 := Lib.hid (fun (W : World) (q : LP W B m tt B2 m2 qs) => pedge_yes j f g B B2 m d m2 d2 tt qs W q K2.out hj hf hg z2 I2.out)
          have HT2 := Lib.hid (fun W : World => (tedge_any j T2 W hj hTs2).mono (TakeE.yes (f := f) (g := g) (ss := tt) (ps := qs) ⟨z2, I2.out, hT2.symm⟩))
          rw [← hT2] at HP2
          unfold TkE at HT2
          rw [L3.out, L4.out] at HT2
          clear z2 hsm2 hpt2 hf12 hg12 hT2 hTs2
          have hc42 : w3.cell? ⟨w.heap.size + 1, 0, none⟩ = some (.string j) := by rw [cell_of_row _ _ _ _ _ _ HF38.out]; rfl
          have hc43 : w3.cell? ⟨w.heap.size + 1, 1, none⟩ = some (.string f) := by rw [cell_of_row _ _ _ _ _ _ HF38.out]; rfl
          have hc44 : w3.cell? ⟨w.heap.size + 1, 2, none⟩ = some (.string g) := by rw [cell_of_row _ _ _ _ _ _ HF38.out]; rfl
          have hc45 : w3.cell? ⟨w.heap.size + 1, 3, none⟩ = some (.slice B m d) := by rw [cell_of_row _ _ _ _ _ _ HF38.out]; rfl
          have hc46 : w3.cell? ⟨w.heap.size + 1, 4, none⟩ = some (.slice B2 m2 d2) := by rw [cell_of_row _ _ _ _ _ _ HF38.out]; rfl
          go_wp2_with fail
          clear hc42 hc43 hc44 hc45 hc46
          refine (HP2.out w3 HQ41.out).mono ?_
          rintro e w4 ⟨rfl, hb4⟩
          have HF47 := Lib.hid (blk_below HF37.out hb4)
          have HF48 := Lib.hid (blk_below HF38.out hb4)
          have HB49 := Lib.hid (HB39.out.trans (hb4.mono HB39.out.size))
          have HQ50 := Lib.hid (HQ40.out.below hb4)
          clear HQ40
          have HQ51 := Lib.hid (HQ41.out.below hb4)
          clear HQ41
          clear hb4 HB39 HF37 HF38
          have hc52 : w4.cell? ⟨w.heap.size + 1, 0, none⟩ = some (.string j) := by rw [cell_of_row _ _ _ _ _ _ HF48.out]; rfl
          have hc53 : w4.cell? ⟨w.heap.size + 1, 1, none⟩ = some (.string f) := by rw [cell_of_row _ _ _ _ _ _ HF48.out]; rfl
          have hc54 : w4.cell? ⟨w.heap.size + 1, 2, none⟩ = some (.string g) := by rw [cell_of_row _ _ _ _ _ _ HF48.out]; rfl
          have hc55 : w4.cell? ⟨w.heap.size + 1, 3, none⟩ = some (.slice B m d) := by rw [cell_of_row _ _ _ _ _ _ HF48.out]; rfl
          have hc56 : w4.cell? ⟨w.heap.size + 1, 4, none⟩ = some (.slice B2 m2 d2) := by rw [cell_of_row _ _ _ _ _ _ HF48.out]; rfl
          go_wp2_with fail
          clear hc52 hc53 hc54 hc55 hc56
          refine (HT2.out w4).mono ?_
          rintro e w5 ⟨A4, c4, B4, e4, rfl, hlp, hb5⟩
          have HF57 := Lib.hid (blk_below HF47.out hb5)
          have HF58 := Lib.hid (blk_below HF48.out hb5)
          have HB59 := Lib.hid (HB49.out.trans (hb5.mono (by have := HB49.out.size; simp at this ⊢ <;> omega)))
          have HQ60 := Lib.hid (HQ50.out.below hb5)
          clear HQ50
          have HQ61 := Lib.hid (HQ51.out.below hb5)
          clear HQ51
          clear hb5 HB49 HF47 HF48
          have HQ4 := Lib.hid hlp
          clear hlp
          have hk62 : w.heap.size < w5.heap.size := lt_of_block HF57.out
          have hk63 : w.heap.size + 1 < w5.heap.size := lt_of_block HF58.out
          have HF64 := Lib.hid (blk_alloc HF57.out (.cells #[.string j, .string f, .string g, .slice A4 m c4, .slice B4 m2 e4] 59 (0, 0)))
          have HF65 := Lib.hid (blk_alloc HF58.out (.cells #[.string j, .string f, .string g, .slice A4 m c4, .slice B4 m2 e4] 59 (0, 0)))
          have HF66 := Lib.hid (blk_new w5 (.cells #[.string j, .string f, .string g, .slice A4 m c4, .slice B4 m2 e4] 59 (0, 0)))
          have HB67 := Lib.hid (HB59.out.alloc HB59.out.size (.cells #[.string j, .string f, .string g, .slice A4 m c4, .slice B4 m2 e4] 59 (0, 0)))
          clear HB59
          have HQ68 := Lib.hid (HQ60.out.below ((Below.refl _ w5).alloc (Nat.le_refl _) (.cells #[.string j, .string f, .string g, .slice A4 m c4, .slice B4 m2 e4] 59 (0, 0))))
          clear HQ60
          have HQ69 := Lib.hid (HQ61.out.below ((Below.refl _ w5).alloc (Nat.le_refl _) (.cells #[.string j, .string f, .string g, .slice A4 m c4, .slice B4 m2 e4] 59 (0, 0))))
          clear HQ61
          have HQ70 := Lib.hid (HQ4.out.below ((Below.refl _ w5).alloc (Nat.le_refl _) (.cells #[.string j, .string f, .string g, .slice A4 m c4, .slice B4 m2 e4] 59 (0, 0))))
          clear HQ4
          have hc71 : (w5.alloc (.cells #[.string j, .string f, .string g, .slice A4 m c4, .slice B4 m2 e4] 59 (0, 0))).cell? ⟨w.heap.size + 1, 0, none⟩ = some (.string j) := by rw [cell_of_row _ _ _ _ _ _ HF65.out]; rfl
          have hc72 : w5.cell? ⟨w.heap.size + 1, 0, none⟩ = some (.string j) := by rw [cell_of_row _ _ _ _ _ _ HF58.out]; rfl
          have hc73 : (w5.alloc (.cells #[.string j, .string f, .string g, .slice A4 m c4, .slice B4 m2 e4] 59 (0, 0))).cell? ⟨w.heap.size + 1, 1, none⟩ = some (.string f) := by rw [cell_of_row _ _ _ _ _ _ HF65.out]; rfl
          have hc74 : w5.cell? ⟨w.heap.size + 1, 1, none⟩ = some (.string f) := by rw [cell_of_row _ _ _ _ _ _ HF58.out]; rfl
          have hc75 : (w5.alloc (.cells #[.string j, .string f, .string g, .slice A4 m c4, .slice B4 m2 e4] 59 (0, 0))).cell? ⟨w.heap.size + 1, 2, none⟩ = some (.string g) := by rw [cell_of_row _ _ _ _ _ _ HF65.out]; rfl
          have hc76 : w5.cell? ⟨w.heap.size + 1, 2, none⟩ = some (.string g) := by rw [cell_of_row _ _ _ _ _ _ HF58.out]; rfl
          have hc77 : (w5.alloc (.cells #[.string j, .string f, .string g, .slice A4 m c4, .slice B4 m2 e4] 59 (0, 0))).cell? ⟨w.heap.size + 1, 3, none⟩ = some (.slice B m d) := by rw [cell_of_row _ _ _ _ _ _ HF65.out]; rfl
          have hc78 : w5.cell? ⟨w.heap.size + 1, 3, none⟩ = some (.slice B m d) := by rw [cell_of_row _ _ _ _ _ _ HF58.out]; rfl
          have hc79 : (w5.alloc (.cells #[.string j, .string f, .string g, .slice A4 m c4, .slice B4 m2 e4] 59 (0, 0))).cell? ⟨w.heap.size + 1, 4, none⟩ = some (.slice B2 m2 d2) := by rw [cell_of_row _ _ _ _ _ _ HF65.out]; rfl
          have hc80 : w5.cell? ⟨w.heap.size + 1, 4, none⟩ = some (.slice B2 m2 d2) := by rw [cell_of_row _ _ _ _ _ _ HF58.out]; rfl
          have hl81 : w.heap.size + 1 < w5.heap.size := lt_of_block HF58.out
          have hl82 : ¬ w.heap.size + 1 = w5.heap.size := by omega
          have hc83 : (w5.alloc (.cells #[.string j, .string f, .string g, .slice A4 m c4, .slice B4 m2 e4] 59 (0, 0))).cell? ⟨w5.heap.size, 0, none⟩ = some (.string j) := by rw [cell_of_row _ _ _ _ _ _ HF66.out]; rfl
          have hc84 : (w5.alloc (.cells #[.string j, .string f, .string g, .slice A4 m c4, .slice B4 m2 e4] 59 (0, 0))).cell? ⟨w5.heap.size, 1, none⟩ = some (.string f) := by rw [cell_of_row _ _ _ _ _ _ HF66.out]; rfl
          have hc85 : (w5.alloc (.cells #[.string j, .string f, .string g, .slice A4 m c4, .slice B4 m2 e4] 59 (0, 0))).cell? ⟨w5.heap.size, 2, none⟩ = some (.string g) := by rw [cell_of_row _ _ _ _ _ _ HF66.out]; rfl
          have hc86 : (w5.alloc (.cells #[.string j, .string f, .string g, .slice A4 m c4, .slice B4 m2 e4] 59 (0, 0))).cell? ⟨w5.heap.size, 3, none⟩ = some (.slice A4 m c4) := by rw [cell_of_row _ _ _ _ _ _ HF66.out]; rfl
          have hc87 : (w5.alloc (.cells #[.string j, .string f, .string g, .slice A4 m c4, .slice B4 m2 e4] 59 (0, 0))).cell? ⟨w5.heap.size, 4, none⟩ = some (.slice B4 m2 e4) := by rw [cell_of_row _ _ _ _ _ _ HF66.out]; rfl
          go_wp2_with fail
          clear hc71 hc72 hc73 hc74 hc75 hc76 hc77 hc78 hc79 hc80 hl81 hl82 hc83 hc84 hc85 hc86 hc87
          refine (sedge_yes j f g B A4 B2 B4 m d c4 m2 d2 e4 tt qs (w5.alloc (.cells #[.string j, .string f, .string g, .slice A4 m c4, .slice B4 m2 e4] 59 (0, 0))) HQ69.out HQ70.out (by omega) (by omega)).mono ?_
          rintro e w6 ⟨rfl, hb6⟩
          have HF88 := Lib.hid (blk_below HF64.out hb6)
          have HF89 := Lib.hid (blk_below HF65.out hb6)
          have HF90 := Lib.hid (blk_below HF66.out hb6)
          have HB91 := Lib.hid (HB67.out.trans (hb6.mono HB67.out.size))
          have HQ92 := Lib.hid (HQ68.out.below hb6)
          clear HQ68
          have HQ93 := Lib.hid (HQ69.out.below hb6)
          clear HQ69
          have HQ94 := Lib.hid (HQ70.out.below hb6)
          clear HQ70
          clear hb6 HB67 HF64 HF57 HF65 HF58 HF66
          clear HQ94
          by_cases h3 : ∃ s3 p3, IsN ⟨#[97]⟩ S s3 p3
          · obtain ⟨s3, p3, h3⟩ := h3
            have hsm3 := rs_sm (nd_zero h3.1).2 h3.2.1
            have HT3 := Lib.hid (fun W : World => (tnode_any ⟨#[97]⟩ S W (by unfold maxLen; decide) (by omega)).mono (TakeN.yes h3))
            obtain ⟨x1, hx1⟩ : ∃ n, n = s3.length := ⟨_, rfl⟩
            obtain ⟨x2, hx2⟩ : ∃ n, n = p3.length := ⟨_, rfl⟩
            have HP3 := Lib.hid (fun (W : World) (A A2 : Option Addr) (c c2 : Nat) (q : LP W A x1 s3 A2 x2 p3) => pnode_yes ⟨#[97]⟩ A A2 x1 c x2 c2 s3 p3 W q (by rw [hx1, hx2]; exact lok_sm hsm3) (by unfold maxLen; decide) h3.1 h3.2.1)
            rw [h3.2.2] at HP3
            unfold TkN at HT3
            rw [← hx1, ← hx2] at HT3
            have hse : (S.toList == S.toList) = true := by simp
            have hsn : (S.toList != S.toList) = false := by simp
            clear h3 hsm3 hx1 hx2
            go_wp2_with fail
            refine (HT3.out w6).mono ?_
            rintro e w7 ⟨A3, c3, B3, e3, rfl, hlp, hb7⟩
            have HF95 := Lib.hid (blk_below HF88.out hb7)
            have HF96 := Lib.hid (blk_below HF89.out hb7)
            have HF97 := Lib.hid (blk_below HF90.out hb7)
            have HB98 := Lib.hid (HB91.out.trans (hb7.mono (by have := HB91.out.size; simp at this ⊢ <;> omega)))
            have HQ99 := Lib.hid (HQ92.out.below hb7)
            clear HQ92
            have HQ100 := Lib.hid (HQ93.out.below hb7)
            clear HQ93
            clear hb7 HB91 HF88 HF89 HF90
            have HQ3 := Lib.hid hlp
            clear hlp
            have hk101 : w.heap.size < w7.heap.size := lt_of_block HF95.out
            have hk102 : w.heap.size + 1 < w7.heap.size := lt_of_block HF96.out
            have hk103 : w5.heap.size < w7.heap.size := lt_of_block HF97.out
            have HF104 := Lib.hid (blk_alloc HF95.out (.cells #[.string ⟨#[97]⟩, .slice A3 x1 c3, .slice B3 x2 e3] 48 (0, 0)))
            have HF105 := Lib.hid (blk_alloc HF96.out (.cells #[.string ⟨#[97]⟩, .slice A3 x1 c3, .slice B3 x2 e3] 48 (0, 0)))
            have HF106 := Lib.hid (blk_alloc HF97.out (.cells #[.string ⟨#[97]⟩, .slice A3 x1 c3, .slice B3 x2 e3] 48 (0, 0)))
            have HF107 := Lib.hid (blk_new w7 (.cells #[.string ⟨#[97]⟩, .slice A3 x1 c3, .slice B3 x2 e3] 48 (0, 0)))
            have HB108 := Lib.hid (HB98.out.alloc HB98.out.size (.cells #[.string ⟨#[97]⟩, .slice A3 x1 c3, .slice B3 x2 e3] 48 (0, 0)))
            clear HB98
            have HQ109 := Lib.hid (HQ99.out.below ((Below.refl _ w7).alloc (Nat.le_refl _) (.cells #[.string ⟨#[97]⟩, .slice A3 x1 c3, .slice B3 x2 e3] 48 (0, 0))))
            clear HQ99
            have HQ110 := Lib.hid (HQ100.out.below ((Below.refl _ w7).alloc (Nat.le_refl _) (.cells #[.string ⟨#[97]⟩, .slice A3 x1 c3, .slice B3 x2 e3] 48 (0, 0))))
            clear HQ100
            have HQ111 := Lib.hid (HQ3.out.below ((Below.refl _ w7).alloc (Nat.le_refl _) (.cells #[.string ⟨#[97]⟩, .slice A3 x1 c3, .slice B3 x2 e3] 48 (0, 0))))
            clear HQ3
            have hc112 : (w7.alloc (.cells #[.string ⟨#[97]⟩, .slice A3 x1 c3, .slice B3 x2 e3] 48 (0, 0))).cell? ⟨w7.heap.size, 0, none⟩ = some (.string ⟨#[97]⟩) := by rw [cell_of_row _ _ _ _ _ _ HF107.out]; rfl
            have hc113 : (w7.alloc (.cells #[.string ⟨#[97]⟩, .slice A3 x1 c3, .slice B3 x2 e3] 48 (0, 0))).cell? ⟨w7.heap.size, 1, none⟩ = some (.slice A3 x1 c3) := by rw [cell_of_row _ _ _ _ _ _ HF107.out]; rfl
            have hc114 : (w7.alloc (.cells #[.string ⟨#[97]⟩, .slice A3 x1 c3, .slice B3 x2 e3] 48 (0, 0))).cell? ⟨w7.heap.size, 2, none⟩ = some (.slice B3 x2 e3) := by rw [cell_of_row _ _ _ _ _ _ HF107.out]; rfl
            go_wp2_with fail
            clear hc112 hc113 hc114
            refine (HP3.out (w7.alloc (.cells #[.string ⟨#[97]⟩, .slice A3 x1 c3, .slice B3 x2 e3] 48 (0, 0))) A3 B3 c3 e3 HQ111.out).mono ?_
            rintro e w8 ⟨rfl, hb8⟩
            have HF115 := Lib.hid (blk_below HF104.out hb8)
            have HF116 := Lib.hid (blk_below HF105.out hb8)
            have HF117 := Lib.hid (blk_below HF106.out hb8)
            have HF118 := Lib.hid (blk_below HF107.out hb8)
            have HB119 := Lib.hid (HB108.out.trans (hb8.mono HB108.out.size))
            have HQ120 := Lib.hid (HQ109.out.below hb8)
            clear HQ109
            have HQ121 := Lib.hid (HQ110.out.below hb8)
            clear HQ110
            have HQ122 := Lib.hid (HQ111.out.below hb8)
            clear HQ111
            clear hb8 HB108 HF104 HF95 HF105 HF96 HF106 HF97 HF107
            go_wp2_with fail
            refine (awake25 w8).mono ?_
            rintro e w9 ⟨rfl, hb9⟩
            have HF123 := Lib.hid (blk_below HF115.out hb9)
            have HF124 := Lib.hid (blk_below HF116.out hb9)
            have HF125 := Lib.hid (blk_below HF117.out hb9)
            have HF126 := Lib.hid (blk_below HF118.out hb9)
            have HB127 := Lib.hid (HB119.out.trans (hb9.mono HB119.out.size))
            have HQ128 := Lib.hid (HQ120.out.below hb9)
            clear HQ120
            have HQ129 := Lib.hid (HQ121.out.below hb9)
            clear HQ121
            have HQ130 := Lib.hid (HQ122.out.below hb9)
            clear HQ122
            clear hb9 HB119 HF115 HF116 HF117 HF118
            go_wp2_with fail
            go_ret
            exact ⟨rfl, HB127.out⟩
          · have HT3 := Lib.hid (fun W : World => (tnode_any ⟨#[97]⟩ S W (by unfold maxLen; decide) (by omega)).mono (TakeN.no (fun s3 p3 k => h3 ⟨s3, p3, k⟩)))
            unfold TkN at HT3
            clear h3
            go_wp2_with fail
            refine (HT3.out w6).mono ?_
            rintro e w7 ⟨A3, c3, B3, e3, rfl, _, hb7⟩
            have HF95 := Lib.hid (blk_below HF88.out hb7)
            have HF96 := Lib.hid (blk_below HF89.out hb7)
            have HF97 := Lib.hid (blk_below HF90.out hb7)
            have HB98 := Lib.hid (HB91.out.trans (hb7.mono (by have := HB91.out.size; simp at this ⊢ <;> omega)))
            have HQ99 := Lib.hid (HQ92.out.below hb7)
            clear HQ92
            have HQ100 := Lib.hid (HQ93.out.below hb7)
            clear HQ93
            clear hb7 HB91 HF88 HF89 HF90
            have hk101 : w.heap.size < w7.heap.size := lt_of_block HF95.out
            have hk102 : w.heap.size + 1 < w7.heap.size := lt_of_block HF96.out
            have hk103 : w5.heap.size < w7.heap.size := lt_of_block HF97.out
            have HF104 := Lib.hid (blk_alloc HF95.out (.cells #[.string ⟨#[]⟩, .slice A3 (List.length ([] : List ByteArray)) c3, .slice B3 (List.length ([] : List Pr)) e3] 48 (0, 0)))
            have HF105 := Lib.hid (blk_alloc HF96.out (.cells #[.string ⟨#[]⟩, .slice A3 (List.length ([] : List ByteArray)) c3, .slice B3 (List.length ([] : List Pr)) e3] 48 (0, 0)))
            have HF106 := Lib.hid (blk_alloc HF97.out (.cells #[.string ⟨#[]⟩, .slice A3 (List.length ([] : List ByteArray)) c3, .slice B3 (List.length ([] : List Pr)) e3] 48 (0, 0)))
            have HF107 := Lib.hid (blk_new w7 (.cells #[.string ⟨#[]⟩, .slice A3 (List.length ([] : List ByteArray)) c3, .slice B3 (List.length ([] : List Pr)) e3] 48 (0, 0)))
            have HB108 := Lib.hid (HB98.out.alloc HB98.out.size (.cells #[.string ⟨#[]⟩, .slice A3 (List.length ([] : List ByteArray)) c3, .slice B3 (List.length ([] : List Pr)) e3] 48 (0, 0)))
            clear HB98
            have HQ109 := Lib.hid (HQ99.out.below ((Below.refl _ w7).alloc (Nat.le_refl _) (.cells #[.string ⟨#[]⟩, .slice A3 (List.length ([] : List ByteArray)) c3, .slice B3 (List.length ([] : List Pr)) e3] 48 (0, 0))))
            clear HQ99
            have HQ110 := Lib.hid (HQ100.out.below ((Below.refl _ w7).alloc (Nat.le_refl _) (.cells #[.string ⟨#[]⟩, .slice A3 (List.length ([] : List ByteArray)) c3, .slice B3 (List.length ([] : List Pr)) e3] 48 (0, 0))))
            clear HQ100
            go_wp2_with fail
            refine (awake25 (w7.alloc (.cells #[.string ⟨#[]⟩, .slice A3 (List.length ([] : List ByteArray)) c3, .slice B3 (List.length ([] : List Pr)) e3] 48 (0, 0)))).mono ?_
            rintro e w8 ⟨rfl, hb8⟩
            have HF111 := Lib.hid (blk_below HF104.out hb8)
            have HF112 := Lib.hid (blk_below HF105.out hb8)
            have HF113 := Lib.hid (blk_below HF106.out hb8)
            have HF114 := Lib.hid (blk_below HF107.out hb8)
            have HB115 := Lib.hid (HB108.out.trans (hb8.mono HB108.out.size))
            have HQ116 := Lib.hid (HQ109.out.below hb8)
            clear HQ109
            have HQ117 := Lib.hid (HQ110.out.below hb8)
            clear HQ110
            clear hb8 HB108 HF104 HF95 HF105 HF96 HF106 HF97 HF107
            go_wp2_with fail
            go_ret
            exact ⟨rfl, HB115.out⟩
        · have HP2 := Lib.hid (fun (W : World) (q : LP W B m tt B2 m2 qs) => pedge_no j f g B B2 m d m2 d2 tt qs W q K2.out hj hf hg z2)
          obtain ⟨z4, hz4⟩ : ∃ z, z = edW j f g tt qs := ⟨_, rfl⟩
          rw [← hz4] at HP2 z2
          have hze4 : (z4 == 0) = false := by simpa using z2
          clear z2 hz4
          have hc42 : w3.cell? ⟨w.heap.size + 1, 0, none⟩ = some (.string j) := by rw [cell_of_row _ _ _ _ _ _ HF38.out]; rfl
          have hc43 : w3.cell? ⟨w.heap.size + 1, 1, none⟩ = some (.string f) := by rw [cell_of_row _ _ _ _ _ _ HF38.out]; rfl
          have hc44 : w3.cell? ⟨w.heap.size + 1, 2, none⟩ = some (.string g) := by rw [cell_of_row _ _ _ _ _ _ HF38.out]; rfl
          have hc45 : w3.cell? ⟨w.heap.size + 1, 3, none⟩ = some (.slice B m d) := by rw [cell_of_row _ _ _ _ _ _ HF38.out]; rfl
          have hc46 : w3.cell? ⟨w.heap.size + 1, 4, none⟩ = some (.slice B2 m2 d2) := by rw [cell_of_row _ _ _ _ _ _ HF38.out]; rfl
          go_wp2_with fail
          clear hc42 hc43 hc44 hc45 hc46
          refine (HP2.out w3 HQ41.out).mono ?_
          rintro e w4 ⟨rfl, hb4⟩
          have HF47 := Lib.hid (blk_below HF37.out hb4)
          have HF48 := Lib.hid (blk_below HF38.out hb4)
          have HB49 := Lib.hid (HB39.out.trans (hb4.mono HB39.out.size))
          have HQ50 := Lib.hid (HQ40.out.below hb4)
          clear HQ40
          have HQ51 := Lib.hid (HQ41.out.below hb4)
          clear HQ41
          clear hb4 HB39 HF37 HF38
          by_cases h3 : ∃ s3 p3, IsN ⟨#[97]⟩ S s3 p3
          · obtain ⟨s3, p3, h3⟩ := h3
            have hsm3 := rs_sm (nd_zero h3.1).2 h3.2.1
            have HT3 := Lib.hid (fun W : World => (tnode_any ⟨#[97]⟩ S W (by unfold maxLen; decide) (by omega)).mono (TakeN.yes h3))
            obtain ⟨x1, hx1⟩ : ∃ n, n = s3.length := ⟨_, rfl⟩
            obtain ⟨x2, hx2⟩ : ∃ n, n = p3.length := ⟨_, rfl⟩
            have HP3 := Lib.hid (fun (W : World) (A A2 : Option Addr) (c c2 : Nat) (q : LP W A x1 s3 A2 x2 p3) => pnode_yes ⟨#[97]⟩ A A2 x1 c x2 c2 s3 p3 W q (by rw [hx1, hx2]; exact lok_sm hsm3) (by unfold maxLen; decide) h3.1 h3.2.1)
            rw [h3.2.2] at HP3
            unfold TkN at HT3
            rw [← hx1, ← hx2] at HT3
            have hse : (S.toList == S.toList) = true := by simp
            have hsn : (S.toList != S.toList) = false := by simp
            clear h3 hsm3 hx1 hx2
            go_wp2_with fail
            refine (HT3.out w4).mono ?_
            rintro e w5 ⟨A3, c3, B3, e3, rfl, hlp, hb5⟩
            have HF52 := Lib.hid (blk_below HF47.out hb5)
            have HF53 := Lib.hid (blk_below HF48.out hb5)
            have HB54 := Lib.hid (HB49.out.trans (hb5.mono (by have := HB49.out.size; simp at this ⊢ <;> omega)))
            have HQ55 := Lib.hid (HQ50.out.below hb5)
            clear HQ50
            have HQ56 := Lib.hid (HQ51.out.below hb5)
            clear HQ51
            clear hb5 HB49 HF47 HF48
            have HQ3 := Lib.hid hlp
            clear hlp
            have hk57 : w.heap.size < w5.heap.size := lt_of_block HF52.out
            have hk58 : w.heap.size + 1 < w5.heap.size := lt_of_block HF53.out
            have HF59 := Lib.hid (blk_alloc HF52.out (.cells #[.string ⟨#[97]⟩, .slice A3 x1 c3, .slice B3 x2 e3] 48 (0, 0)))
            have HF60 := Lib.hid (blk_alloc HF53.out (.cells #[.string ⟨#[97]⟩, .slice A3 x1 c3, .slice B3 x2 e3] 48 (0, 0)))
            have HF61 := Lib.hid (blk_new w5 (.cells #[.string ⟨#[97]⟩, .slice A3 x1 c3, .slice B3 x2 e3] 48 (0, 0)))
            have HB62 := Lib.hid (HB54.out.alloc HB54.out.size (.cells #[.string ⟨#[97]⟩, .slice A3 x1 c3, .slice B3 x2 e3] 48 (0, 0)))
            clear HB54
            have HQ63 := Lib.hid (HQ55.out.below ((Below.refl _ w5).alloc (Nat.le_refl _) (.cells #[.string ⟨#[97]⟩, .slice A3 x1 c3, .slice B3 x2 e3] 48 (0, 0))))
            clear HQ55
            have HQ64 := Lib.hid (HQ56.out.below ((Below.refl _ w5).alloc (Nat.le_refl _) (.cells #[.string ⟨#[97]⟩, .slice A3 x1 c3, .slice B3 x2 e3] 48 (0, 0))))
            clear HQ56
            have HQ65 := Lib.hid (HQ3.out.below ((Below.refl _ w5).alloc (Nat.le_refl _) (.cells #[.string ⟨#[97]⟩, .slice A3 x1 c3, .slice B3 x2 e3] 48 (0, 0))))
            clear HQ3
            have hc66 : (w5.alloc (.cells #[.string ⟨#[97]⟩, .slice A3 x1 c3, .slice B3 x2 e3] 48 (0, 0))).cell? ⟨w5.heap.size, 0, none⟩ = some (.string ⟨#[97]⟩) := by rw [cell_of_row _ _ _ _ _ _ HF61.out]; rfl
            have hc67 : (w5.alloc (.cells #[.string ⟨#[97]⟩, .slice A3 x1 c3, .slice B3 x2 e3] 48 (0, 0))).cell? ⟨w5.heap.size, 1, none⟩ = some (.slice A3 x1 c3) := by rw [cell_of_row _ _ _ _ _ _ HF61.out]; rfl
            have hc68 : (w5.alloc (.cells #[.string ⟨#[97]⟩, .slice A3 x1 c3, .slice B3 x2 e3] 48 (0, 0))).cell? ⟨w5.heap.size, 2, none⟩ = some (.slice B3 x2 e3) := by rw [cell_of_row _ _ _ _ _ _ HF61.out]; rfl
            go_wp2_with fail
            clear hc66 hc67 hc68
            refine (HP3.out (w5.alloc (.cells #[.string ⟨#[97]⟩, .slice A3 x1 c3, .slice B3 x2 e3] 48 (0, 0))) A3 B3 c3 e3 HQ65.out).mono ?_
            rintro e w6 ⟨rfl, hb6⟩
            have HF69 := Lib.hid (blk_below HF59.out hb6)
            have HF70 := Lib.hid (blk_below HF60.out hb6)
            have HF71 := Lib.hid (blk_below HF61.out hb6)
            have HB72 := Lib.hid (HB62.out.trans (hb6.mono HB62.out.size))
            have HQ73 := Lib.hid (HQ63.out.below hb6)
            clear HQ63
            have HQ74 := Lib.hid (HQ64.out.below hb6)
            clear HQ64
            have HQ75 := Lib.hid (HQ65.out.below hb6)
            clear HQ65
            clear hb6 HB62 HF59 HF52 HF60 HF53 HF61
            go_wp2_with fail
            refine (awake25 w6).mono ?_
            rintro e w7 ⟨rfl, hb7⟩
            have HF76 := Lib.hid (blk_below HF69.out hb7)
            have HF77 := Lib.hid (blk_below HF70.out hb7)
            have HF78 := Lib.hid (blk_below HF71.out hb7)
            have HB79 := Lib.hid (HB72.out.trans (hb7.mono HB72.out.size))
            have HQ80 := Lib.hid (HQ73.out.below hb7)
            clear HQ73
            have HQ81 := Lib.hid (HQ74.out.below hb7)
            clear HQ74
            have HQ82 := Lib.hid (HQ75.out.below hb7)
            clear HQ75
            clear hb7 HB72 HF69 HF70 HF71
            go_wp2_with fail
            go_ret
            exact ⟨rfl, HB79.out⟩
          · have HT3 := Lib.hid (fun W : World => (tnode_any ⟨#[97]⟩ S W (by unfold maxLen; decide) (by omega)).mono (TakeN.no (fun s3 p3 k => h3 ⟨s3, p3, k⟩)))
            unfold TkN at HT3
            clear h3
            go_wp2_with fail
            refine (HT3.out w4).mono ?_
            rintro e w5 ⟨A3, c3, B3, e3, rfl, _, hb5⟩
            have HF52 := Lib.hid (blk_below HF47.out hb5)
            have HF53 := Lib.hid (blk_below HF48.out hb5)
            have HB54 := Lib.hid (HB49.out.trans (hb5.mono (by have := HB49.out.size; simp at this ⊢ <;> omega)))
            have HQ55 := Lib.hid (HQ50.out.below hb5)
            clear HQ50
            have HQ56 := Lib.hid (HQ51.out.below hb5)
            clear HQ51
            clear hb5 HB49 HF47 HF48
            have hk57 : w.heap.size < w5.heap.size := lt_of_block HF52.out
            have hk58 : w.heap.size + 1 < w5.heap.size := lt_of_block HF53.out
            have HF59 := Lib.hid (blk_alloc HF52.out (.cells #[.string ⟨#[]⟩, .slice A3 (List.length ([] : List ByteArray)) c3, .slice B3 (List.length ([] : List Pr)) e3] 48 (0, 0)))
            have HF60 := Lib.hid (blk_alloc HF53.out (.cells #[.string ⟨#[]⟩, .slice A3 (List.length ([] : List ByteArray)) c3, .slice B3 (List.length ([] : List Pr)) e3] 48 (0, 0)))
            have HF61 := Lib.hid (blk_new w5 (.cells #[.string ⟨#[]⟩, .slice A3 (List.length ([] : List ByteArray)) c3, .slice B3 (List.length ([] : List Pr)) e3] 48 (0, 0)))
            have HB62 := Lib.hid (HB54.out.alloc HB54.out.size (.cells #[.string ⟨#[]⟩, .slice A3 (List.length ([] : List ByteArray)) c3, .slice B3 (List.length ([] : List Pr)) e3] 48 (0, 0)))
            clear HB54
            have HQ63 := Lib.hid (HQ55.out.below ((Below.refl _ w5).alloc (Nat.le_refl _) (.cells #[.string ⟨#[]⟩, .slice A3 (List.length ([] : List ByteArray)) c3, .slice B3 (List.length ([] : List Pr)) e3] 48 (0, 0))))
            clear HQ55
            have HQ64 := Lib.hid (HQ56.out.below ((Below.refl _ w5).alloc (Nat.le_refl _) (.cells #[.string ⟨#[]⟩, .slice A3 (List.length ([] : List ByteArray)) c3, .slice B3 (List.length ([] : List Pr)) e3] 48 (0, 0))))
            clear HQ56
            go_wp2_with fail
            refine (awake25 (w5.alloc (.cells #[.string ⟨#[]⟩, .slice A3 (List.length ([] : List ByteArray)) c3, .slice B3 (List.length ([] : List Pr)) e3] 48 (0, 0)))).mono ?_
            rintro e w6 ⟨rfl, hb6⟩
            have HF65 := Lib.hid (blk_below HF59.out hb6)
            have HF66 := Lib.hid (blk_below HF60.out hb6)
            have HF67 := Lib.hid (blk_below HF61.out hb6)
            have HB68 := Lib.hid (HB62.out.trans (hb6.mono HB62.out.size))
            have HQ69 := Lib.hid (HQ63.out.below hb6)
            clear HQ63
            have HQ70 := Lib.hid (HQ64.out.below hb6)
            clear HQ64
            clear hb6 HB62 HF59 HF52 HF60 HF53 HF61
            go_wp2_with fail
            go_ret
            exact ⟨rfl, HB68.out⟩
end Go.Proofs.Ytdjjabjegmbmaaa.LElemBack
