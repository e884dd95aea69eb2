/- The document's Props, rest, Node, Edge of layer 25 over this translation. Conditions: texts that are no longer than a text may be, slices of at most 2 to the 62nd. -/
import Derived.Test.YtdjjabjegmbmaaaAb
namespace Go.Proofs.Ytdjjabjegmbmaaa
open Go.RowKit Vi

set_option maxRecDepth 100000 in
set_option maxHeartbeats 4000000 in
theorem rprops_any (A : Option Addr) (n c : Nat) (ps : List Pr) (w : World) (h : RdX prC 4 w A n ps) (hn : (n : Int) ≤ 9223372036854775807) (ht : ∀ p ∈ ps, p.1.size ≤ maxLen) :
    Calls Try.prog 31 #[.slice A n c] w fun e w' => e = .returned (.int .i64 (prW ps)) ∧ Below w.heap.size w w' := by
  have H := Lib.hid h
  have L := Lib.hid h.1
  have HT := Lib.hid ht
  clear h ht
  by_cases h8 : 8 < n
  · have d1 : decide ((8 : Int) < (n : Int)) = true := decide_eq_true (by omega)
    have HV := Lib.hid (show (5 : Int) = prW ps by unfold prW; rw [if_pos (by rw [L.out]; exact h8)])
    go_enter Try.func31, Try.ntmps31
    go_wp2_with fail
    go_ret
    exact ⟨retI HV.out, Below.refl _ _⟩
  · have d1 : decide ((8 : Int) < (n : Int)) = false := decide_eq_false (by omega)
    have HV := Lib.hid (show prE ⟨#[]⟩ ps = prW ps by unfold prW; rw [if_neg (by rw [L.out]; exact h8)])
    go_enter Try.func31, Try.ntmps31
    go_wp2_with fail
    go_loopw [3] (fun i wr => ∃ (k : Nat), i = .int .i64 (k : Int) ∧ k ≤ n ∧ prE (prevP ps k) (ps.drop k) = prE ⟨#[]⟩ ps ∧ Below w.heap.size w wr) (fun i _ => n - (intOf i).toNat)
    case atStart => exact ⟨0, rfl, Nat.zero_le _, rfl, Below.refl _ _⟩
    case round =>
      obtain ⟨k, rfl, hk, hs, hb⟩ := hrel
      have HS := Lib.hid hs
      have HB := Lib.hid hb
      clear hs hb
      by_cases hlt : k < n
      · have hd1 : decide ((k : Int) < (n : Int)) = true := decide_eq_true (by omega)
        obtain ⟨b, off, hl, rfl, hbb, _⟩ := (H.out.below HB.out).at hlt
        have HA := Lib.hid (prE_at (prevP ps k) ps k hl)
        have hsz := HT.out _ (List.getElem_mem hl)
        have HPS := Lib.hid (prevP_succ ps k hl)
        obtain ⟨x, hx⟩ : ∃ x, ps[k] = x := ⟨_, rfl⟩
        have HX := Lib.hid (show ps[k]? = some x by rw [List.getElem?_eq_getElem hl, hx])
        rw [hx] at HA hsz HPS
        obtain ⟨s, a, d, t⟩ := x
        have HPS : Hid (prevP ps (k + 1) = s) := HPS
        have hsz : s.size ≤ maxLen := hsz
        have hi0 : (0 : Int) ≤ (k : Int) := by omega
        have HC := Lib.hid (fun W : World => refIs_any s W hsz)
        have HD := Lib.hid (fun W : World => vis_any a d t W)
        clear hx hsz
        cases hn1 : nm s with
        | false =>
          rw [hn1] at HC
          have HR := Lib.hid (show (2 : Int) = prW ps by rw [← HV.out, ← HS.out, HA.out, if_pos (by unfold okP; rw [show nm (s, a, d, t).1 = false from hn1]; rfl)])
          clear hn1
          have hc101 : wr.cell? ⟨b, off + k * 4, none⟩ = some (.string s) := (H.out.below HB.out).cellAt HX.out hlt 0 _ rfl
          have hc102 : wr.cell? ⟨b, off + k * 4 + 1, none⟩ = some (.int .i64 a) := (H.out.below HB.out).cellAt HX.out hlt 1 _ rfl
          have hc103 : wr.cell? ⟨b, off + k * 4 + 2, none⟩ = some (.int .i64 d) := (H.out.below HB.out).cellAt HX.out hlt 2 _ rfl
          have hc104 : wr.cell? ⟨b, off + k * 4 + 3, none⟩ = some (.string t) := (H.out.below HB.out).cellAt HX.out hlt 3 _ rfl
          go_wp2_with fail
          refine (HC.out wr).mono ?_
          rintro e w' ⟨rfl, rfl⟩
          go_wp2_with fail
          go_ret
          exact ⟨retI HR.out, HB.out⟩
        | true =>
          rw [hn1] at HC
          have HNM := Lib.hid hn1
          clear hn1
          cases hv : vok a d t with
          | false =>
            rw [hv] at HD
            have HR := Lib.hid (show (2 : Int) = prW ps by rw [← HV.out, ← HS.out, HA.out, if_pos (by unfold okP; rw [show vok (s, a, d, t).2.1 (s, a, d, t).2.2.1 (s, a, d, t).2.2.2 = false from hv]; simp)])
            clear hv
            have hc101 : wr.cell? ⟨b, off + k * 4, none⟩ = some (.string s) := (H.out.below HB.out).cellAt HX.out hlt 0 _ rfl
            have hc102 : wr.cell? ⟨b, off + k * 4 + 1, none⟩ = some (.int .i64 a) := (H.out.below HB.out).cellAt HX.out hlt 1 _ rfl
            have hc103 : wr.cell? ⟨b, off + k * 4 + 2, none⟩ = some (.int .i64 d) := (H.out.below HB.out).cellAt HX.out hlt 2 _ rfl
            have hc104 : wr.cell? ⟨b, off + k * 4 + 3, none⟩ = some (.string t) := (H.out.below HB.out).cellAt HX.out hlt 3 _ rfl
            go_wp2_with fail
            refine (HC.out wr).mono ?_
            rintro e w' ⟨rfl, rfl⟩
            go_wp2_with fail
            clear hc101 hc102 hc103 hc104
            refine (HD.out wr).mono ?_
            rintro e w11 ⟨rfl, hb11⟩
            have HB105 := Lib.hid (HB.out.trans (hb11.mono HB.out.size))
            clear hb11 HB 
            go_wp2_with fail
            go_ret
            exact ⟨retI HR.out, HB105.out⟩
          | true =>
            rw [hv] at HD
            have HNB := Lib.hid (show ¬ okP (s, a, d, t) = false by unfold okP; rw [show vok (s, a, d, t).2.1 (s, a, d, t).2.2.1 (s, a, d, t).2.2.2 = true from hv, show nm (s, a, d, t).1 = true from HNM.out]; simp)
            clear hv
            rcases Nat.eq_zero_or_pos k with h0 | hpos
            · have HR := Lib.hid (show prE (prevP ps (k + 1)) (ps.drop (k + 1)) = prE ⟨#[]⟩ ps by
                rw [HPS.out, ← HS.out, HA.out, if_neg HNB.out, if_neg]
                rw [show prevP ps k = ⟨#[]⟩ by rw [h0]; rfl, show leS (s, a, d, t).1 ⟨#[]⟩ = false from le_nil s HNM.out]; simp)
              have hd0 : decide ((0 : Int) < (k : Int)) = false := decide_eq_false (by omega)
              have hd0n : decide (0 < k) = false := decide_eq_false (by omega)
              clear h0
              have hc101 : wr.cell? ⟨b, off + k * 4, none⟩ = some (.string s) := (H.out.below HB.out).cellAt HX.out hlt 0 _ rfl
              have hc102 : wr.cell? ⟨b, off + k * 4 + 1, none⟩ = some (.int .i64 a) := (H.out.below HB.out).cellAt HX.out hlt 1 _ rfl
              have hc103 : wr.cell? ⟨b, off + k * 4 + 2, none⟩ = some (.int .i64 d) := (H.out.below HB.out).cellAt HX.out hlt 2 _ rfl
              have hc104 : wr.cell? ⟨b, off + k * 4 + 3, none⟩ = some (.string t) := (H.out.below HB.out).cellAt HX.out hlt 3 _ rfl
              go_wp2_with fail
              refine (HC.out wr).mono ?_
              rintro e w' ⟨rfl, rfl⟩
              go_wp2_with fail
              clear hc101 hc102 hc103 hc104
              refine (HD.out wr).mono ?_
              rintro e w11 ⟨rfl, hb11⟩
              have HB105 := Lib.hid (HB.out.trans (hb11.mono HB.out.size))
              clear hb11 HB 
              go_wp2_with fail
              refine wp_region_quiet_below (by kernel_rfl) (by kernel_rfl) ?_
              repeat (any_goals (first | go_big_quiet_step (fail) | quiet_step (fail)))
              refine wpQuiet_nil ?_
              intro w12 hw12
              have hb12 := below_anyY hw12
              clear hw12 
              have HB106 := Lib.hid (HB105.out.trans (hb12.mono HB105.out.size))
              clear hb12 HB105 
              go_wp2_with fail
              go_roundw
              case rel => exact ⟨k + 1, by go_num, by omega, HR.out, HB106.out⟩
              case measure => simp [intOf] <;> omega
            · obtain ⟨m, rfl⟩ : ∃ m, k = m + 1 := ⟨k - 1, by omega⟩
              have hml : m < ps.length := by omega
              have hltm : m < n := by omega
              obtain ⟨y, hy⟩ : ∃ y, ps[m] = y := ⟨_, rfl⟩
              have HXM := Lib.hid (show ps[m]? = some y by rw [List.getElem?_eq_getElem hml, hy])
              have HPM := Lib.hid (prevP_succ ps m hml)
              rw [hy] at HPM
              obtain ⟨p, ya, yd, yt⟩ := y
              have HPM : Hid (prevP ps (m + 1) = p) := HPM
              have hi1 : (0 : Int) ≤ (m : Int) := by omega
              have hi2 : (m : Int) < (n : Int) := by omega
              clear hy
              rcases leS_cases s p with ⟨g1, hg⟩ | ⟨g1, g2, hg⟩ | ⟨g1, g2, hg⟩
              · have HR := Lib.hid (show (4 : Int) = prW ps by rw [← HV.out, ← HS.out, HA.out, if_neg HNB.out, if_pos (by rw [HPM.out]; exact hg)])
                clear hg
                have hc101 : wr.cell? ⟨b, off + (m + 1) * 4, none⟩ = some (.string s) := (H.out.below HB.out).cellAt HX.out hlt 0 _ rfl
                have hc102 : wr.cell? ⟨b, off + (m + 1) * 4 + 1, none⟩ = some (.int .i64 a) := (H.out.below HB.out).cellAt HX.out hlt 1 _ rfl
                have hc103 : wr.cell? ⟨b, off + (m + 1) * 4 + 2, none⟩ = some (.int .i64 d) := (H.out.below HB.out).cellAt HX.out hlt 2 _ rfl
                have hc104 : wr.cell? ⟨b, off + (m + 1) * 4 + 3, none⟩ = some (.string t) := (H.out.below HB.out).cellAt HX.out hlt 3 _ rfl
                go_wp2_with fail
                refine (HC.out wr).mono ?_
                rintro e w' ⟨rfl, rfl⟩
                go_wp2_with fail
                clear hc101 hc102 hc103 hc104
                refine (HD.out wr).mono ?_
                rintro e w11 ⟨rfl, hb11⟩
                have HB105 := Lib.hid (HB.out.trans (hb11.mono HB.out.size))
                clear hb11 HB 
                have hc106 : w11.cell? ⟨b, off + (m + 1) * 4, none⟩ = some (.string s) := (H.out.below HB105.out).cellAt HX.out hlt 0 _ rfl
                have hc107 : w11.cell? ⟨b, off + m * 4, none⟩ = some (.string p) := (H.out.below HB105.out).cellAt HXM.out hltm 0 _ rfl
                go_wp2_with fail
                have hr108 := fun d os => cell_regrown hc106 d os
                have hr109 := fun d os => cell_regrown hc107 d os
                refine wp_region_quiet_below (by kernel_rfl) (by kernel_rfl) ?_
                repeat (any_goals (first | go_big_quiet_step (fail) | quiet_step (fail)))
                refine wpQuiet_nil ?_
                intro w12 hw12
                have hb12 := below_anyY hw12
                clear hw12 hr108 hr109
                clear hc106 hc107
                have HB110 := Lib.hid (HB105.out.trans (hb12.mono HB105.out.size))
                clear hb12 HB105 
                go_wp2_with fail
                go_ret
                exact ⟨retI HR.out, HB110.out⟩
              · have HR := Lib.hid (show (4 : Int) = prW ps by rw [← HV.out, ← HS.out, HA.out, if_neg HNB.out, if_pos (by rw [HPM.out]; exact hg)])
                clear hg
                have hc101 : wr.cell? ⟨b, off + (m + 1) * 4, none⟩ = some (.string s) := (H.out.below HB.out).cellAt HX.out hlt 0 _ rfl
                have hc102 : wr.cell? ⟨b, off + (m + 1) * 4 + 1, none⟩ = some (.int .i64 a) := (H.out.below HB.out).cellAt HX.out hlt 1 _ rfl
                have hc103 : wr.cell? ⟨b, off + (m + 1) * 4 + 2, none⟩ = some (.int .i64 d) := (H.out.below HB.out).cellAt HX.out hlt 2 _ rfl
                have hc104 : wr.cell? ⟨b, off + (m + 1) * 4 + 3, none⟩ = some (.string t) := (H.out.below HB.out).cellAt HX.out hlt 3 _ rfl
                go_wp2_with fail
                refine (HC.out wr).mono ?_
                rintro e w' ⟨rfl, rfl⟩
                go_wp2_with fail
                clear hc101 hc102 hc103 hc104
                refine (HD.out wr).mono ?_
                rintro e w11 ⟨rfl, hb11⟩
                have HB105 := Lib.hid (HB.out.trans (hb11.mono HB.out.size))
                clear hb11 HB 
                have hc106 : w11.cell? ⟨b, off + (m + 1) * 4, none⟩ = some (.string s) := (H.out.below HB105.out).cellAt HX.out hlt 0 _ rfl
                have hc107 : w11.cell? ⟨b, off + m * 4, none⟩ = some (.string p) := (H.out.below HB105.out).cellAt HXM.out hltm 0 _ rfl
                go_wp2_with fail
                have hr108 := fun d os => cell_regrown hc106 d os
                have hr109 := fun d os => cell_regrown hc107 d os
                refine wp_region_quiet_below (by kernel_rfl) (by kernel_rfl) ?_
                repeat (any_goals (first | go_big_quiet_step (fail) | quiet_step (fail)))
                refine wpQuiet_nil ?_
                intro w12 hw12
                have hb12 := below_anyY hw12
                clear hw12 hr108 hr109
                clear hc106 hc107
                have HB110 := Lib.hid (HB105.out.trans (hb12.mono HB105.out.size))
                clear hb12 HB105 
                go_wp2_with fail
                go_ret
                exact ⟨retI HR.out, HB110.out⟩
              · have HR := Lib.hid (show prE (prevP ps (m + 1 + 1)) (ps.drop (m + 1 + 1)) = prE ⟨#[]⟩ ps by
                  rw [HPS.out, ← HS.out, HA.out, if_neg HNB.out, if_neg]
                  rw [HPM.out, show leS (s, a, d, t).1 p = false from hg]; simp)
                clear hg
                have hc101 : wr.cell? ⟨b, off + (m + 1) * 4, none⟩ = some (.string s) := (H.out.below HB.out).cellAt HX.out hlt 0 _ rfl
                have hc102 : wr.cell? ⟨b, off + (m + 1) * 4 + 1, none⟩ = some (.int .i64 a) := (H.out.below HB.out).cellAt HX.out hlt 1 _ rfl
                have hc103 : wr.cell? ⟨b, off + (m + 1) * 4 + 2, none⟩ = some (.int .i64 d) := (H.out.below HB.out).cellAt HX.out hlt 2 _ rfl
                have hc104 : wr.cell? ⟨b, off + (m + 1) * 4 + 3, none⟩ = some (.string t) := (H.out.below HB.out).cellAt HX.out hlt 3 _ rfl
                go_wp2_with fail
                refine (HC.out wr).mono ?_
                rintro e w' ⟨rfl, rfl⟩
                go_wp2_with fail
                clear hc101 hc102 hc103 hc104
                refine (HD.out wr).mono ?_
                rintro e w11 ⟨rfl, hb11⟩
                have HB105 := Lib.hid (HB.out.trans (hb11.mono HB.out.size))
                clear hb11 HB 
                have hc106 : w11.cell? ⟨b, off + (m + 1) * 4, none⟩ = some (.string s) := (H.out.below HB105.out).cellAt HX.out hlt 0 _ rfl
                have hc107 : w11.cell? ⟨b, off + m * 4, none⟩ = some (.string p) := (H.out.below HB105.out).cellAt HXM.out hltm 0 _ rfl
                go_wp2_with fail
                have hr108 := fun d os => cell_regrown hc106 d os
                have hr109 := fun d os => cell_regrown hc107 d os
                refine wp_region_quiet_below (by kernel_rfl) (by kernel_rfl) ?_
                repeat (any_goals (first | go_big_quiet_step (fail) | quiet_step (fail)))
                refine wpQuiet_nil ?_
                intro w12 hw12
                have hb12 := below_anyY hw12
                clear hw12 hr108 hr109
                clear hc106 hc107
                have HB110 := Lib.hid (HB105.out.trans (hb12.mono HB105.out.size))
                clear hb12 HB105 
                go_wp2_with fail
                go_roundw
                case rel => exact ⟨m + 1 + 1, by go_num, by omega, HR.out, HB110.out⟩
                case measure => simp [intOf] <;> omega
      · have hd1 : decide ((k : Int) < (n : Int)) = false := decide_eq_false (by omega)
        have HR := Lib.hid (show (0 : Int) = prW ps by rw [← HV.out, ← HS.out, prE_end _ ps k (by rw [L.out]; omega)])
        go_wp2_with fail
        go_ret
        exact ⟨retI HR.out, HB.out⟩
set_option maxRecDepth 100000 in
set_option maxHeartbeats 2000000 in
theorem rrest_any (A A2 : Option Addr) (n c n2 c2 : Nat) (ss : List ByteArray) (ps : List Pr) (w : World) (h : LP w A n ss A2 n2 ps) (k : LOk n ss n2 ps) :
    Calls Try.prog 90 #[.slice A n c, .slice A2 n2 c2] w fun e w' => e = .returned (.int .i64 (rsW ss ps)) ∧ Below w.heap.size w w' := by
  have H := Lib.hid h
  have L := Lib.hid h.l.1
  have hm := k.n
  have hm2 := k.n2
  unfold maxLen at hm hm2
  have HRW := Lib.hid (fun (W : World) (g : SlN W A n ss) => of_drew (refRow_any A n c ss W g k.n k.s))
  have HPW := Lib.hid (fun (W : World) (g : RdX prC 4 W A2 n2 ps) => rprops_any A2 n2 c2 ps W g (by omega) k.p)
  clear h k
  by_cases h8 : 8 < n
  · have d1 : decide ((8 : Int) < (n : Int)) = true := decide_eq_true (by omega)
    have HV := Lib.hid (show (5 : Int) = rsW ss ps by unfold rsW; rw [if_pos (by rw [L.out]; exact h8)])
    go_enter Try.func90, Try.ntmps90
    go_wp2_with fail
    go_ret
    exact ⟨retI HV.out, Below.refl _ _⟩
  · have d1 : decide ((8 : Int) < (n : Int)) = false := decide_eq_false (by omega)
    have HQ := Lib.hid (show rsW ss ps = if rowE ⟨#[]⟩ ss ≠ 0 then rowE ⟨#[]⟩ ss else prW ps by unfold rsW; rw [if_neg (show ¬ 8 < ss.length by rw [L.out]; exact h8)])
    obtain ⟨x, hx⟩ : ∃ x, x = rowE ⟨#[]⟩ ss := ⟨_, rfl⟩
    rw [← hx] at HRW HQ
    clear hx h8
    by_cases hz : x = 0
    · have hz1 : (x != 0) = false := by rw [hz]; rfl
      have HV := Lib.hid (show prW ps = rsW ss ps by rw [HQ.out, if_neg (by omega)])
      clear hz
      have HB1 := Lib.hid (Below.refl w.heap.size w)
      go_enter Try.func90, Try.ntmps90
      go_wp2_with fail
      refine (HRW.out w (H.out.l.later HB1.out)).mono ?_
      rintro e w1 ⟨rfl, hb1⟩
      have HB2 := Lib.hid (HB1.out.trans (hb1.mono HB1.out.size))
      clear hb1 HB1 
      go_wp2_with fail
      refine (HPW.out w1 (H.out.p.below HB2.out)).mono ?_
      rintro e w2 ⟨rfl, hb2⟩
      have HB3 := Lib.hid (HB2.out.trans (hb2.mono HB2.out.size))
      clear hb2 HB2 
      go_wp2_with fail
      go_ret
      exact ⟨retI HV.out, HB3.out⟩
    · have hz1 : (x != 0) = true := by simpa using hz
      have HV := Lib.hid (show x = rsW ss ps by rw [HQ.out, if_pos hz])
      clear hz
      have HB1 := Lib.hid (Below.refl w.heap.size w)
      go_enter Try.func90, Try.ntmps90
      go_wp2_with fail
      refine (HRW.out w (H.out.l.later HB1.out)).mono ?_
      rintro e w1 ⟨rfl, hb1⟩
      have HB2 := Lib.hid (HB1.out.trans (hb1.mono HB1.out.size))
      clear hb1 HB1 
      go_wp2_with fail
      go_ret
      exact ⟨retI HV.out, HB2.out⟩
set_option maxRecDepth 100000 in
set_option maxHeartbeats 2000000 in
theorem rnode_any (i : ByteArray) (A A2 : Option Addr) (n c n2 c2 : Nat) (ss : List ByteArray) (ps : List Pr) (w : World) (h : LP w A n ss A2 n2 ps) (k : LOk n ss n2 ps) (hi : i.size ≤ maxLen) :
    Calls Try.prog 28 #[.agg #[.string i, .slice A n c, .slice A2 n2 c2]] w fun e w' => e = .returned (.int .i64 (ndW i ss ps)) ∧ Below w.heap.size w w' := by
  have H := Lib.hid h
  have HPT := Lib.hid (fun (W : World) (g : LP W A n ss A2 n2 ps) => rrest_any A A2 n c n2 c2 ss ps W g k)
  have HNK := Lib.hid (fun W : World => refIs_any i W hi)
  clear h k
  cases hn : nm i with
  | false =>
    rw [hn] at HNK
    have HV := Lib.hid (show (2 : Int) = ndW i ss ps by unfold ndW; rw [if_pos hn])
    clear hn
    have HB1 := Lib.hid (Below.refl w.heap.size w)
    go_enter Try.func28, Try.ntmps28
    have HF2 := Lib.hid (blk_new w (.cells #[.string i, .slice A n c, .slice A2 n2 c2] 48 (0, 0)))
    have HB3 := Lib.hid (HB1.out.alloc HB1.out.size (.cells #[.string i, .slice A n c, .slice A2 n2 c2] 48 (0, 0)))
    clear HB1
    have hc4 : (w.alloc (.cells #[.string i, .slice A n c, .slice A2 n2 c2] 48 (0, 0))).cell? ⟨w.heap.size, 0, none⟩ = some (.string i) := by rw [cell_of_row _ _ _ _ _ _ HF2.out]; rfl
    have hc5 : (w.alloc (.cells #[.string i, .slice A n c, .slice A2 n2 c2] 48 (0, 0))).cell? ⟨w.heap.size, 1, none⟩ = some (.slice A n c) := by rw [cell_of_row _ _ _ _ _ _ HF2.out]; rfl
    have hc6 : (w.alloc (.cells #[.string i, .slice A n c, .slice A2 n2 c2] 48 (0, 0))).cell? ⟨w.heap.size, 2, none⟩ = some (.slice A2 n2 c2) := by rw [cell_of_row _ _ _ _ _ _ HF2.out]; rfl
    go_wp2_with fail
    refine (HNK.out (w.alloc (.cells #[.string i, .slice A n c, .slice A2 n2 c2] 48 (0, 0)))).mono ?_
    rintro e w' ⟨rfl, rfl⟩
    go_wp2_with fail
    go_ret
    exact ⟨retI HV.out, HB3.out⟩
  | true =>
    rw [hn] at HNK
    have HV := Lib.hid (show rsW ss ps = ndW i ss ps by unfold ndW; rw [if_neg (by rw [hn]; simp)])
    clear hn
    have HB1 := Lib.hid (Below.refl w.heap.size w)
    go_enter Try.func28, Try.ntmps28
    have HF2 := Lib.hid (blk_new w (.cells #[.string i, .slice A n c, .slice A2 n2 c2] 48 (0, 0)))
    have HB3 := Lib.hid (HB1.out.alloc HB1.out.size (.cells #[.string i, .slice A n c, .slice A2 n2 c2] 48 (0, 0)))
    clear HB1
    have hc4 : (w.alloc (.cells #[.string i, .slice A n c, .slice A2 n2 c2] 48 (0, 0))).cell? ⟨w.heap.size, 0, none⟩ = some (.string i) := by rw [cell_of_row _ _ _ _ _ _ HF2.out]; rfl
    have hc5 : (w.alloc (.cells #[.string i, .slice A n c, .slice A2 n2 c2] 48 (0, 0))).cell? ⟨w.heap.size, 1, none⟩ = some (.slice A n c) := by rw [cell_of_row _ _ _ _ _ _ HF2.out]; rfl
    have hc6 : (w.alloc (.cells #[.string i, .slice A n c, .slice A2 n2 c2] 48 (0, 0))).cell? ⟨w.heap.size, 2, none⟩ = some (.slice A2 n2 c2) := by rw [cell_of_row _ _ _ _ _ _ HF2.out]; rfl
    go_wp2_with fail
    refine (HNK.out (w.alloc (.cells #[.string i, .slice A n c, .slice A2 n2 c2] 48 (0, 0)))).mono ?_
    rintro e w' ⟨rfl, rfl⟩
    go_wp2_with fail
    clear hc4 hc5 hc6
    refine (HPT.out (w.alloc (.cells #[.string i, .slice A n c, .slice A2 n2 c2] 48 (0, 0))) (H.out.below HB3.out)).mono ?_
    rintro e w1 ⟨rfl, hb1⟩
    have HF7 := Lib.hid (blk_below HF2.out hb1)
    have HB8 := Lib.hid (HB3.out.trans (hb1.mono HB3.out.size))
    clear hb1 HB3 HF2
    go_wp2_with fail
    go_ret
    exact ⟨retI HV.out, HB8.out⟩
set_option maxRecDepth 100000 in
set_option maxHeartbeats 2000000 in
theorem redge_any (i f g : ByteArray) (A A2 : Option Addr) (n c n2 c2 : Nat) (ss : List ByteArray) (ps : List Pr) (w : World) (h : LP w A n ss A2 n2 ps) (k : LOk n ss n2 ps) (hi : i.size ≤ maxLen) (hf : f.size ≤ maxLen) (hg : g.size ≤ maxLen) :
    Calls Try.prog 34 #[.agg #[.string i, .string f, .string g, .slice A n c, .slice A2 n2 c2]] w fun e w' => e = .returned (.int .i64 (edW i f g ss ps)) ∧ Below w.heap.size w w' := by
  have H := Lib.hid h
  have HPT := Lib.hid (fun (W : World) (q : LP W A n ss A2 n2 ps) => rrest_any A A2 n c n2 c2 ss ps W q k)
  have HN1 := Lib.hid (fun W : World => refIs_any i W hi)
  have HN2 := Lib.hid (fun W : World => refIs_any f W hf)
  have HN3 := Lib.hid (fun W : World => refIs_any g W hg)
  clear h k
  cases h1 : nm i with
  | false =>
    rw [h1] at HN1
    have HV := Lib.hid (show (2 : Int) = edW i f g ss ps by unfold edW; rw [if_pos h1])
    clear h1
    have HB1 := Lib.hid (Below.refl w.heap.size w)
    go_enter Try.func34, Try.ntmps34
    have HF2 := Lib.hid (blk_new w (.cells #[.string i, .string f, .string g, .slice A n c, .slice A2 n2 c2] 59 (0, 0)))
    have HB3 := Lib.hid (HB1.out.alloc HB1.out.size (.cells #[.string i, .string f, .string g, .slice A n c, .slice A2 n2 c2] 59 (0, 0)))
    clear HB1
    have hc4 : (w.alloc (.cells #[.string i, .string f, .string g, .slice A n c, .slice A2 n2 c2] 59 (0, 0))).cell? ⟨w.heap.size, 0, none⟩ = some (.string i) := by rw [cell_of_row _ _ _ _ _ _ HF2.out]; rfl
    have hc5 : (w.alloc (.cells #[.string i, .string f, .string g, .slice A n c, .slice A2 n2 c2] 59 (0, 0))).cell? ⟨w.heap.size, 1, none⟩ = some (.string f) := by rw [cell_of_row _ _ _ _ _ _ HF2.out]; rfl
    have hc6 : (w.alloc (.cells #[.string i, .string f, .string g, .slice A n c, .slice A2 n2 c2] 59 (0, 0))).cell? ⟨w.heap.size, 2, none⟩ = some (.string g) := by rw [cell_of_row _ _ _ _ _ _ HF2.out]; rfl
    have hc7 : (w.alloc (.cells #[.string i, .string f, .string g, .slice A n c, .slice A2 n2 c2] 59 (0, 0))).cell? ⟨w.heap.size, 3, none⟩ = some (.slice A n c) := by rw [cell_of_row _ _ _ _ _ _ HF2.out]; rfl
    have hc8 : (w.alloc (.cells #[.string i, .string f, .string g, .slice A n c, .slice A2 n2 c2] 59 (0, 0))).cell? ⟨w.heap.size, 4, none⟩ = some (.slice A2 n2 c2) := by rw [cell_of_row _ _ _ _ _ _ HF2.out]; rfl
    go_wp2_with fail
    refine (HN1.out (w.alloc (.cells #[.string i, .string f, .string g, .slice A n c, .slice A2 n2 c2] 59 (0, 0)))).mono ?_
    rintro e w' ⟨rfl, rfl⟩
    go_wp2_with fail
    go_ret
    exact ⟨retI HV.out, HB3.out⟩
  | true =>
    rw [h1] at HN1
    have HV1 := Lib.hid (show edW i f g ss ps = _ by unfold edW; rw [if_neg (by rw [h1]; simp)])
    clear h1
    cases h2 : nm f with
    | false =>
      rw [h2] at HN2
      have HV := Lib.hid (show (2 : Int) = edW i f g ss ps by rw [HV1.out, if_pos h2])
      clear h2
      have HB1 := Lib.hid (Below.refl w.heap.size w)
      go_enter Try.func34, Try.ntmps34
      have HF2 := Lib.hid (blk_new w (.cells #[.string i, .string f, .string g, .slice A n c, .slice A2 n2 c2] 59 (0, 0)))
      have HB3 := Lib.hid (HB1.out.alloc HB1.out.size (.cells #[.string i, .string f, .string g, .slice A n c, .slice A2 n2 c2] 59 (0, 0)))
      clear HB1
      have hc4 : (w.alloc (.cells #[.string i, .string f, .string g, .slice A n c, .slice A2 n2 c2] 59 (0, 0))).cell? ⟨w.heap.size, 0, none⟩ = some (.string i) := by rw [cell_of_row _ _ _ _ _ _ HF2.out]; rfl
      have hc5 : (w.alloc (.cells #[.string i, .string f, .string g, .slice A n c, .slice A2 n2 c2] 59 (0, 0))).cell? ⟨w.heap.size, 1, none⟩ = some (.string f) := by rw [cell_of_row _ _ _ _ _ _ HF2.out]; rfl
      have hc6 : (w.alloc (.cells #[.string i, .string f, .string g, .slice A n c, .slice A2 n2 c2] 59 (0, 0))).cell? ⟨w.heap.size, 2, none⟩ = some (.string g) := by rw [cell_of_row _ _ _ _ _ _ HF2.out]; rfl
      have hc7 : (w.alloc (.cells #[.string i, .string f, .string g, .slice A n c, .slice A2 n2 c2] 59 (0, 0))).cell? ⟨w.heap.size, 3, none⟩ = some (.slice A n c) := by rw [cell_of_row _ _ _ _ _ _ HF2.out]; rfl
      have hc8 : (w.alloc (.cells #[.string i, .string f, .string g, .slice A n c, .slice A2 n2 c2] 59 (0, 0))).cell? ⟨w.heap.size, 4, none⟩ = some (.slice A2 n2 c2) := by rw [cell_of_row _ _ _ _ _ _ HF2.out]; rfl
      go_wp2_with fail
      refine (HN1.out (w.alloc (.cells #[.string i, .string f, .string g, .slice A n c, .slice A2 n2 c2] 59 (0, 0)))).mono ?_
      rintro e w' ⟨rfl, rfl⟩
      go_wp2_with fail
      refine (HN2.out (w.alloc (.cells #[.string i, .string f, .string g, .slice A n c, .slice A2 n2 c2] 59 (0, 0)))).mono ?_
      rintro e w' ⟨rfl, rfl⟩
      go_wp2_with fail
      go_ret
      exact ⟨retI HV.out, HB3.out⟩
    | true =>
      rw [h2] at HN2
      have HV2 := Lib.hid (HV1.out.trans (if_neg (by rw [h2]; simp)))
      clear h2
      cases h3 : nm g with
      | false =>
        rw [h3] at HN3
        have HV := Lib.hid (show (2 : Int) = edW i f g ss ps by rw [HV2.out, if_pos h3])
        clear h3
        have HB1 := Lib.hid (Below.refl w.heap.size w)
        go_enter Try.func34, Try.ntmps34
        have HF2 := Lib.hid (blk_new w (.cells #[.string i, .string f, .string g, .slice A n c, .slice A2 n2 c2] 59 (0, 0)))
        have HB3 := Lib.hid (HB1.out.alloc HB1.out.size (.cells #[.string i, .string f, .string g, .slice A n c, .slice A2 n2 c2] 59 (0, 0)))
        clear HB1
        have hc4 : (w.alloc (.cells #[.string i, .string f, .string g, .slice A n c, .slice A2 n2 c2] 59 (0, 0))).cell? ⟨w.heap.size, 0, none⟩ = some (.string i) := by rw [cell_of_row _ _ _ _ _ _ HF2.out]; rfl
        have hc5 : (w.alloc (.cells #[.string i, .string f, .string g, .slice A n c, .slice A2 n2 c2] 59 (0, 0))).cell? ⟨w.heap.size, 1, none⟩ = some (.string f) := by rw [cell_of_row _ _ _ _ _ _ HF2.out]; rfl
        have hc6 : (w.alloc (.cells #[.string i, .string f, .string g, .slice A n c, .slice A2 n2 c2] 59 (0, 0))).cell? ⟨w.heap.size, 2, none⟩ = some (.string g) := by rw [cell_of_row _ _ _ _ _ _ HF2.out]; rfl
        have hc7 : (w.alloc (.cells #[.string i, .string f, .string g, .slice A n c, .slice A2 n2 c2] 59 (0, 0))).cell? ⟨w.heap.size, 3, none⟩ = some (.slice A n c) := by rw [cell_of_row _ _ _ _ _ _ HF2.out]; rfl
        have hc8 : (w.alloc (.cells #[.string i, .string f, .string g, .slice A n c, .slice A2 n2 c2] 59 (0, 0))).cell? ⟨w.heap.size, 4, none⟩ = some (.slice A2 n2 c2) := by rw [cell_of_row _ _ _ _ _ _ HF2.out]; rfl
        go_wp2_with fail
        refine (HN1.out (w.alloc (.cells #[.string i, .string f, .string g, .slice A n c, .slice A2 n2 c2] 59 (0, 0)))).mono ?_
        rintro e w' ⟨rfl, rfl⟩
        go_wp2_with fail
        refine (HN2.out (w.alloc (.cells #[.string i, .string f, .string g, .slice A n c, .slice A2 n2 c2] 59 (0, 0)))).mono ?_
        rintro e w' ⟨rfl, rfl⟩
        go_wp2_with fail
        refine (HN3.out (w.alloc (.cells #[.string i, .string f, .string g, .slice A n c, .slice A2 n2 c2] 59 (0, 0)))).mono ?_
        rintro e w' ⟨rfl, rfl⟩
        go_wp2_with fail
        go_ret
        exact ⟨retI HV.out, HB3.out⟩
      | true =>
        rw [h3] at HN3
        have HV := Lib.hid (show rsW ss ps = edW i f g ss ps by rw [HV2.out, if_neg (by rw [h3]; simp)])
        clear h3
        have HB1 := Lib.hid (Below.refl w.heap.size w)
        go_enter Try.func34, Try.ntmps34
        have HF2 := Lib.hid (blk_new w (.cells #[.string i, .string f, .string g, .slice A n c, .slice A2 n2 c2] 59 (0, 0)))
        have HB3 := Lib.hid (HB1.out.alloc HB1.out.size (.cells #[.string i, .string f, .string g, .slice A n c, .slice A2 n2 c2] 59 (0, 0)))
        clear HB1
        have hc4 : (w.alloc (.cells #[.string i, .string f, .string g, .slice A n c, .slice A2 n2 c2] 59 (0, 0))).cell? ⟨w.heap.size, 0, none⟩ = some (.string i) := by rw [cell_of_row _ _ _ _ _ _ HF2.out]; rfl
        have hc5 : (w.alloc (.cells #[.string i, .string f, .string g, .slice A n c, .slice A2 n2 c2] 59 (0, 0))).cell? ⟨w.heap.size, 1, none⟩ = some (.string f) := by rw [cell_of_row _ _ _ _ _ _ HF2.out]; rfl
        have hc6 : (w.alloc (.cells #[.string i, .string f, .string g, .slice A n c, .slice A2 n2 c2] 59 (0, 0))).cell? ⟨w.heap.size, 2, none⟩ = some (.string g) := by rw [cell_of_row _ _ _ _ _ _ HF2.out]; rfl
        have hc7 : (w.alloc (.cells #[.string i, .string f, .string g, .slice A n c, .slice A2 n2 c2] 59 (0, 0))).cell? ⟨w.heap.size, 3, none⟩ = some (.slice A n c) := by rw [cell_of_row _ _ _ _ _ _ HF2.out]; rfl
        have hc8 : (w.alloc (.cells #[.string i, .string f, .string g, .slice A n c, .slice A2 n2 c2] 59 (0, 0))).cell? ⟨w.heap.size, 4, none⟩ = some (.slice A2 n2 c2) := by rw [cell_of_row _ _ _ _ _ _ HF2.out]; rfl
        go_wp2_with fail
        refine (HN1.out (w.alloc (.cells #[.string i, .string f, .string g, .slice A n c, .slice A2 n2 c2] 59 (0, 0)))).mono ?_
        rintro e w' ⟨rfl, rfl⟩
        go_wp2_with fail
        refine (HN2.out (w.alloc (.cells #[.string i, .string f, .string g, .slice A n c, .slice A2 n2 c2] 59 (0, 0)))).mono ?_
        rintro e w' ⟨rfl, rfl⟩
        go_wp2_with fail
        refine (HN3.out (w.alloc (.cells #[.string i, .string f, .string g, .slice A n c, .slice A2 n2 c2] 59 (0, 0)))).mono ?_
        rintro e w' ⟨rfl, rfl⟩
        go_wp2_with fail
        clear hc4 hc5 hc6 hc7 hc8
        refine (HPT.out (w.alloc (.cells #[.string i, .string f, .string g, .slice A n c, .slice A2 n2 c2] 59 (0, 0))) (H.out.below HB3.out)).mono ?_
        rintro e w1 ⟨rfl, hb1⟩
        have HF9 := Lib.hid (blk_below HF2.out hb1)
        have HB10 := Lib.hid (HB3.out.trans (hb1.mono HB3.out.size))
        clear hb1 HB3 HF2
        go_wp2_with fail
        go_ret
        exact ⟨retI HV.out, HB10.out⟩
end Go.Proofs.Ytdjjabjegmbmaaa
