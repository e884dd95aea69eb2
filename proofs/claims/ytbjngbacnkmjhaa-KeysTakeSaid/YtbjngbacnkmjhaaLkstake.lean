/- The walk of KeysTake over this translation. No condition. -/
import Derived.Test.YtbjngbacnkmjhaaKMc
import Derived.Deep.DeepCutAuto
namespace Go.Proofs.Ytbjngbacnkmjhaa.LKeysTake
open Go.RowKit Vi

set_option maxRecDepth 100000 in
set_option maxHeartbeats 16000000 in
theorem walk (A : Option Addr) (n c : Nat) (l : List En) (w : World) (h : RdX enC 2 w A n l) (hm : n ≤ maxLen) :
    Calls Try.prog 9 #[.slice A n c] w fun e w' => e = .returned (.bool true) ∧ Below w.heap.size w w' := by
  have H := Lib.hid h
  have HL := Lib.hid h.1
  have HFW := Lib.hid (fun (W : World) (q : RdX enC 2 W A n l) => few20_any A n c l W q hm)
  clear h hm
  go_enter Try.func9, Try.ntmps9
  go_wp2_with fail
  refine (HFW.out w H.out).mono ?_
  rintro e w1 ⟨b, rfl, hsm, hb1⟩
  have HB1 := Lib.hid hb1
  have HS := Lib.hid hsm
  clear hb1 hsm HFW
  cases b with
  | false =>
    go_wp2_with fail
    refine (awake31_any w1).mono ?_
    rintro e w2 ⟨rfl, hb2⟩
    have HB2 := Lib.hid (HB1.out.trans (hb2.mono HB1.out.size))
    clear hb2
    go_wp2_with fail
    go_ret
    exact ⟨rfl, HB2.out⟩
  | true =>
    obtain ⟨hn60, hsz⟩ := HS.out (by first | rfl | trivial)
    obtain ⟨rs, hr1, hr2⟩ := tkN_all l hsz
    obtain ⟨ts, ht1, ht2⟩ := tkE_all l hsz
    have HR1 := Lib.hid hr1
    have HR2 := Lib.hid hr2
    have HT1 := Lib.hid ht1
    have HT2 := Lib.hid ht2
    clear HS hsz hr1 hr2 ht1 ht2
    go_wp2_with fail
    go_loopw [4, 5, 22] (fun p q i wr => ∃ (k : Nat) (v v2 : Value) (R : List NdR) (R2 : List EdR), p = .bool (badOf (rs.take k)) ∧ q = .bool (badOf (ts.take k)) ∧ i = .int .i64 (k : Int) ∧ k ≤ n ∧ wr.heap[w1.heap.size]? = some (.cells #[v, v2] 65 (0, 0)) ∧ OwX ndC 3 81 wr w.heap.size v R ∧ OwX edC 5 85 wr w.heap.size v2 R2 ∧ NdsOwn wr R ((rs.take k).map (·.1)) ∧ EdsOwn wr R2 ((ts.take k).map (·.1)) ∧ Below w.heap.size w wr) (fun _ _ i _ => n - (intOf i).toNat)
    case atStart => exact ⟨0, _, _, [], [], rfl, rfl, rfl, Nat.zero_le _, blk_new w1 _, OwX.nil _, OwX.nil _, NdsOwn.nil _, EdsOwn.nil _, HB1.out.alloc HB1.out.size _⟩
    case round =>
      obtain ⟨k, v, v2, R, R2, rfl, rfl, rfl, hk, hg, ho, ho2, hd, hd2, hb⟩ := hrel
      have HG := Lib.hid hg
      have HO := Lib.hid ho
      have HO2 := Lib.hid ho2
      have HD := Lib.hid hd
      have HD2 := Lib.hid hd2
      have HB := Lib.hid hb
      obtain ⟨av, nv, cv, rfl⟩ := ho.sl3
      obtain ⟨ae, ne, ce, rfl⟩ := ho2.sl3
      clear hg ho ho2 hd hd2 hb
      obtain ⟨bp, hbp⟩ : ∃ b, b = badOf (rs.take k) := ⟨_, rfl⟩
      obtain ⟨bq, hbq⟩ : ∃ b, b = badOf (ts.take k) := ⟨_, rfl⟩
      have HBP := Lib.hid hbp
      have HBQ := Lib.hid hbq
      rw [← hbp, ← hbq]
      clear hbp hbq
      by_cases hlt : k < n
      · have hd1 : decide ((k : Int) < (n : Int)) = true := decide_eq_true (by omega)
        have hi0 : (0 : Int) ≤ (k : Int) := by omega
        obtain ⟨b0, off, hl, rfl, hbb, _⟩ := (H.out.below HB.out).at hlt
        have hrl : k < rs.length := by rw [HR1.out]; exact hl
        have htl : k < ts.length := by rw [HT1.out]; exact hl
        obtain ⟨x, hx⟩ : ∃ x, x = l[k] := ⟨_, rfl⟩
        obtain ⟨q, hq⟩ : ∃ q, q = rs[k] := ⟨_, rfl⟩
        obtain ⟨q2, hq2⟩ : ∃ q, q = ts[k] := ⟨_, rfl⟩
        have HX := Lib.hid (show l[k]? = some x by rw [List.getElem?_eq_getElem hl, hx])
        have HTA := Lib.hid (show rs.take (k + 1) = rs.take k ++ [q] by rw [List.take_succ_eq_append_getElem hrl, hq])
        have HTE := Lib.hid (show ts.take (k + 1) = ts.take k ++ [q2] by rw [List.take_succ_eq_append_getElem htl, hq2])
        have HC := Lib.hid (HR2.out k x q HX.out (by rw [List.getElem?_eq_getElem hrl, hq])).2.2
        have HC2 := Lib.hid (HT2.out k x q2 HX.out (by rw [List.getElem?_eq_getElem htl, hq2])).2.2
        obtain ⟨ks, vs⟩ := x
        clear hx hq hq2
        obtain ⟨⟨j, ss, ps⟩, ok⟩ := q
        obtain ⟨⟨j2, f2, g2, ss2, ps2⟩, ok2⟩ := q2
        have HC : Hid (∀ W, Calls Try.prog 50 #[.string ks, .string vs] W (TkNX (j, ss, ps) (.bool ok) W)) := HC
        have HC2 : Hid (∀ W, Calls Try.prog 51 #[.string ks, .string vs] W (TkEX (j2, f2, g2, ss2, ps2) (.bool ok2) W)) := HC2
        have HB0 := Lib.hid (Below.refl wr.heap.size wr)
        have hc101 : wr.cell? ⟨b0, off + k * 2, none⟩ = some (.string ks) := (H.out.below HB.out).cellAt HX.out hlt 0 _ rfl
        have hc102 : wr.cell? ⟨b0, off + k * 2 + 1, none⟩ = some (.string vs) := (H.out.below HB.out).cellAt HX.out hlt 1 _ rfl
        have HF103 := Lib.hid (blk_new wr (.cells #[.string ks, .string vs] 78 (0, 0)))
        have HB104 := Lib.hid (HB0.out.alloc HB0.out.size (.cells #[.string ks, .string vs] 78 (0, 0)))
        clear HB0
        have hc105 : (wr.alloc (.cells #[.string ks, .string vs] 78 (0, 0))).cell? ⟨wr.heap.size, 0, none⟩ = some (.string ks) := by rw [cell_of_row _ _ _ _ _ _ HF103.out]; rfl
        have hc106 : (wr.alloc (.cells #[.string ks, .string vs] 78 (0, 0))).cell? ⟨wr.heap.size, 1, none⟩ = some (.string vs) := by rw [cell_of_row _ _ _ _ _ _ HF103.out]; rfl
        go_wp2_with fail
        clear hc105 hc106 hc101 hc102 hbb
        refine (HC.out (wr.alloc (.cells #[.string ks, .string vs] 78 (0, 0)))).mono ?_
        rintro e w11 ⟨⟨a1, a2, a3⟩, ⟨b1, b2, b3⟩, rfl, hpo, hb11⟩
        have HF107 := Lib.hid (blk_below HF103.out hb11)
        have HB108 := Lib.hid (HB104.out.trans (hb11.mono (by have := HB104.out.size; simp at this ⊢ <;> omega)))
        have HPO := Lib.hid hpo
        clear hb11 HB104 HF103 hpo
        simp only [slV]
        have HNB := Lib.hid (blk_new w11 (.cells #[.string j, .slice a1 a2 a3, .slice b1 b2 b3] 81 (0, 0)))
        have HEB := Lib.hid (blk_alloc HF107.out (.cells #[.string j, .slice a1 a2 a3, .slice b1 b2 b3] 81 (0, 0)))
        have HPO1 := Lib.hid (HPO.out.below ((Below.refl w11.heap.size w11).alloc (Nat.le_refl _) (.cells #[.string j, .slice a1 a2 a3, .slice b1 b2 b3] 81 (0, 0))))
        have HB109 := Lib.hid (HB108.out.alloc HB108.out.size (.cells #[.string j, .slice a1 a2 a3, .slice b1 b2 b3] 81 (0, 0)))
        have hs109 : wr.heap.size ≤ w11.heap.size := HB108.out.size
        have hc110 : (w11.alloc (.cells #[.string j, .slice a1 a2 a3, .slice b1 b2 b3] 81 (0, 0))).cell? ⟨wr.heap.size, 0, none⟩ = some (.string ks) := by rw [cell_of_row _ _ _ _ _ _ HEB.out]; rfl
        have hc111 : (w11.alloc (.cells #[.string j, .slice a1 a2 a3, .slice b1 b2 b3] 81 (0, 0))).cell? ⟨wr.heap.size, 1, none⟩ = some (.string vs) := by rw [cell_of_row _ _ _ _ _ _ HEB.out]; rfl
        go_wp2_with fail
        clear hc110 hc111
        refine (HC2.out (w11.alloc (.cells #[.string j, .slice a1 a2 a3, .slice b1 b2 b3] 81 (0, 0)))).mono ?_
        rintro e w12 ⟨⟨d1, d2, d3⟩, ⟨e1, e2, e3⟩, rfl, hpo, hb12⟩
        have HNB1 := Lib.hid (blk_below HNB.out hb12)
        have HB113 := Lib.hid (HB109.out.trans (hb12.mono (by have := HB109.out.size; simp at this ⊢ <;> omega)))
        have HPO2 := Lib.hid (HPO1.out.below hb12)
        have HPE := Lib.hid hpo
        clear hb12 HB109 HB108 HF107 HEB HNB HPO HPO1 hpo
        simp only [slV]
        have HEB := Lib.hid (blk_new w12 (.cells #[.string j2, .string f2, .string g2, .slice d1 d2 d3, .slice e1 e2 e3] 85 (0, 0)))
        have HNB := Lib.hid (blk_alloc HNB1.out (.cells #[.string j2, .string f2, .string g2, .slice d1 d2 d3, .slice e1 e2 e3] 85 (0, 0)))
        have HPN := Lib.hid (HPO2.out.below ((Below.refl w12.heap.size w12).alloc (Nat.le_refl _) (.cells #[.string j2, .string f2, .string g2, .slice d1 d2 d3, .slice e1 e2 e3] 85 (0, 0))))
        have HPF := Lib.hid (HPE.out.below ((Below.refl w12.heap.size w12).alloc (Nat.le_refl _) (.cells #[.string j2, .string f2, .string g2, .slice d1 d2 d3, .slice e1 e2 e3] 85 (0, 0))))
        have HBV := Lib.hid (HB113.out.alloc HB113.out.size (.cells #[.string j2, .string f2, .string g2, .slice d1 d2 d3, .slice e1 e2 e3] 85 (0, 0)))
        have hs113 : wr.heap.size ≤ w12.heap.size := HB113.out.size
        clear HNB1 HPO2 HPE HB113
        go_upto_region 10 with (fail)
        go_cut [4, 5, 22] from 22 to 64 (fun p q i wx => p = .bool (bp || !ok) ∧ q = .bool (bq || !ok2) ∧ i = .int .i64 (k : Int) ∧ wx = w12.alloc (.cells #[.string j2, .string f2, .string g2, .slice d1 d2 d3, .slice e1 e2 e3] 85 (0, 0)))
        case first =>
          cases bp <;> cases ok <;> cases bq <;> cases ok2
          all_goals
            go_wp2_with fail
            go_meet
            case rel => exact ⟨rfl, rfl, rfl, rfl⟩
        case rest =>
          obtain ⟨rfl, rfl, rfl, rfl⟩ := hcut
          obtain ⟨v, hv⟩ : ∃ v, v = w12.alloc (.cells #[.string j2, .string f2, .string g2, .slice d1 d2 d3, .slice e1 e2 e3] 85 (0, 0)) := ⟨_, rfl⟩
          rw [← hv] at HEB HNB HPN HPF HBV
          go_upto_region 11 with (fail)
          try rw [← hv]
          clear hv
          have KW0 : Hid (KW w1.heap.size (.slice av nv cv) (.slice ae ne ce) (.slice av nv cv) (.slice ae ne ce) R ((rs.take k).map (·.1)) R2 ((ts.take k).map (·.1)) w v) := Lib.hid (KW.later ⟨HG.out, HO.out, HO2.out, HD.out, HD2.out, HB.out⟩ HBV.out)
          have KWd := Lib.hid KW0.out.drew
          have HNd : Hid (v.drew.heap[w11.heap.size]? = _) := Lib.hid HNB.out
          have HEd : Hid (v.drew.heap[w12.heap.size]? = _) := Lib.hid HEB.out
          have HpN := Lib.hid (HPN.out.below (Below.refl _ v).drew)
          have HpE := Lib.hid (HPF.out.below (Below.refl _ v).drew)
          clear HG HO HO2 HD HD2 HB HNB HEB HPN HPF HBV KW0
          refine wp_region_L_drew (S := SK w1.heap.size w11.heap.size w12.heap.size (.cells #[.slice av nv cv, .slice ae ne ce] 65 (0, 0)) (.cells #[.string j, .slice a1 a2 a3, .slice b1 b2 b3] 81 (0, 0)) (.cells #[.string j2, .string f2, .string g2, .slice d1 d2 d3, .slice e1 e2 e3] 85 (0, 0))) (by kernel_rfl) ⟨fun _ => KWd.out.g, fun _ => HNd.out, fun _ => HEd.out⟩ (fun hS hC => ?_)
          refine wpAnyL_take (i := 0) (oi := { dst := some 52, op := .fieldAddr 65 (.tmp 3) 0, type := _, pos := _, after := _, guard := none }) (v := ?_) rfl (by kernel_rfl) (by kernel_rfl) (by kernel_rfl) (fun _ _ _ h => h) (SK.set (by decide) (by decide) (by decide)) hC (Or.inl ⟨by rfl, ?_⟩) hS (fun hC hS => ?_)
          rotate_left
          · intro W9 hSw; skip; go_simp; try (with_reducible rfl)
          try simp only [Act.put, List.setIfInBounds_toArray, List.set_cons_zero, List.set_cons_succ]
          refine wpAnyL_take (i := 1) (oi := { dst := some 53, op := .load 62 (.tmp 52), type := _, pos := _, after := _, guard := none }) (v := ?_) rfl (by kernel_rfl) (by kernel_rfl) (by kernel_rfl) (fun _ _ _ h => h) (SK.set (by decide) (by decide) (by decide)) hC (Or.inl ⟨by rfl, ?_⟩) hS (fun hC hS => ?_)
          rotate_left
          · intro W9 hSw; have q := SK.gOf hSw 6 (by kernel_rfl); have q0 := (cell_of_row _ _ 0 _ _ _ q).trans rfl; go_simp; try (with_reducible rfl)
          try simp only [Act.put, List.setIfInBounds_toArray, List.set_cons_zero, List.set_cons_succ]
          refine wpAnyL_take (i := 2) (oi := { dst := some 54, op := .load 81 (.tmp 8), type := _, pos := _, after := _, guard := none }) (v := ?_) rfl (by kernel_rfl) (by kernel_rfl) (by kernel_rfl) (fun _ _ _ h => h) (SK.set (by decide) (by decide) (by decide)) hC (Or.inl ⟨by rfl, ?_⟩) hS (fun hC hS => ?_)
          rotate_left
          · intro W9 hSw; have q := SK.nOf hSw 6 (by kernel_rfl); have q0 := (cell_of_row _ _ 0 _ _ _ q).trans rfl; have q1 := (cell_of_row _ _ 1 _ _ _ q).trans rfl; have q2 := (cell_of_row _ _ 2 _ _ _ q).trans rfl; go_simp; try (with_reducible rfl)
          try simp only [Act.put, List.setIfInBounds_toArray, List.set_cons_zero, List.set_cons_succ]
          refine wpAnyL_take (i := 5) (oi := { dst := some 57, op := .fieldAddr 65 (.tmp 3) 1, type := _, pos := _, after := _, guard := none }) (v := ?_) rfl (by kernel_rfl) (by kernel_rfl) (by kernel_rfl) (fun _ _ _ h => h) (SK.set (by decide) (by decide) (by decide)) hC (Or.inl ⟨by rfl, ?_⟩) hS (fun hC hS => ?_)
          rotate_left
          · intro W9 hSw; skip; go_simp; try (with_reducible rfl)
          try simp only [Act.put, List.setIfInBounds_toArray, List.set_cons_zero, List.set_cons_succ]
          refine wpAnyL_take (i := 6) (oi := { dst := some 58, op := .load 63 (.tmp 57), type := _, pos := _, after := _, guard := none }) (v := ?_) rfl (by kernel_rfl) (by kernel_rfl) (by kernel_rfl) (fun _ _ _ h => h) (SK.set (by decide) (by decide) (by decide)) hC (Or.inl ⟨by rfl, ?_⟩) hS (fun hC hS => ?_)
          rotate_left
          · intro W9 hSw; have q := SK.gOf hSw 6 (by kernel_rfl); have q0 := (cell_of_row _ _ 1 _ _ _ q).trans rfl; go_simp; try (with_reducible rfl)
          try simp only [Act.put, List.setIfInBounds_toArray, List.set_cons_zero, List.set_cons_succ]
          refine wpAnyL_take (i := 7) (oi := { dst := some 59, op := .load 85 (.tmp 10), type := _, pos := _, after := _, guard := none }) (v := ?_) rfl (by kernel_rfl) (by kernel_rfl) (by kernel_rfl) (fun _ _ _ h => h) (SK.set (by decide) (by decide) (by decide)) hC (Or.inl ⟨by rfl, ?_⟩) hS (fun hC hS => ?_)
          rotate_left
          · intro W9 hSw; have q := SK.eOf hSw 6 (by kernel_rfl); have q0 := (cell_of_row _ _ 0 _ _ _ q).trans rfl; have q1 := (cell_of_row _ _ 1 _ _ _ q).trans rfl; have q2 := (cell_of_row _ _ 2 _ _ _ q).trans rfl; have q3 := (cell_of_row _ _ 3 _ _ _ q).trans rfl; have q4 := (cell_of_row _ _ 4 _ _ _ q).trans rfl; go_simp; try (with_reducible rfl)
          try simp only [Act.put, List.setIfInBounds_toArray, List.set_cons_zero, List.set_cons_succ]
          refine wpAnyL_ready (rs := [3, 8]) (by kernel_rfl) (by simp) hC ?_
          refine AllReadyL.cons (o := { dst := some 55, op := .buildSlice 62 1 #[(0, .tmp 54)], type := _, pos := _, after := _, guard := none }) rfl (fun K9 hK => ?_) ?_
          · skip
            go_simp
            have KW7 := Lib.hid (KWd.out.alloc (.cells #[.string j, .slice a1 a2 a3, .slice b1 b2 b3] 81 (0, 0)))
            have HN7 := Lib.hid (blk_alloc HNd.out (.cells #[.string j, .slice a1 a2 a3, .slice b1 b2 b3] 81 (0, 0)))
            have HE7 := Lib.hid (blk_alloc HEd.out (.cells #[.string j, .slice a1 a2 a3, .slice b1 b2 b3] 81 (0, 0)))
            have HbN7 : Hid ((v.drew.alloc (.cells #[.string j, .slice a1 a2 a3, .slice b1 b2 b3] 81 (0, 0))).heap[v.heap.size]? = some (.cells #[.string j, .slice a1 a2 a3, .slice b1 b2 b3] 81 (0, 0))) := Lib.hid (blk_newN (by simp))
            have HpN7 := Lib.hid (HpN.out.below ((Below.refl _ _).alloc (Nat.le_refl _) (.cells #[.string j, .slice a1 a2 a3, .slice b1 b2 b3] 81 (0, 0))))
            have HpE7 := Lib.hid (HpE.out.below ((Below.refl _ _).alloc (Nat.le_refl _) (.cells #[.string j, .slice a1 a2 a3, .slice b1 b2 b3] 81 (0, 0))))
            refine hK _ _ ⟨fun _ => KW7.out.g, fun _ => HN7.out, fun _ => HE7.out⟩ (fun hC => ?_)
            clear hK K9
            try simp only [Act.put, List.setIfInBounds_toArray, List.set_cons_zero, List.set_cons_succ]
            refine wpAnyL_ready (rs := [4, 8]) (by kernel_rfl) (by simp) hC ?_
            refine AllReadyL.cons (o := { dst := some 56, op := .call { callee := .builtin .append, args := #[.tmp 53, .tmp 55], argTypes := #[62, 62] }, type := _, pos := _, after := _, guard := none }) rfl (fun K9 hK => ?_) ?_
            · skip
              refine step_appX rfl (.tmp 53) (.tmp 55) 62 81 _ 64 rfl Try.underlying62 info_ndB rfl (by omega) (by omega) ndC_len ndC_one w.heap.size w KW7.out.bel KW7.out.bel.size (.slice av nv cv) R rfl KW7.out.on (v.heap.size) 1 (j, ⟨a1, a2, a3⟩, ⟨b1, b2, b3⟩) #[.string j, .slice a1 a2 a3, .slice b1 b2 b3] 81 (0, 0) rfl HbN7.out rfl (by rw [KW7.out.dn.len, List.length_map, List.length_take]; omega) ?_
              intro v9 u4 HO9 HB9 HZ9 HG9
              obtain ⟨an, nn, cn, rfl⟩ := HO9.out.sl3
              have KW8 := Lib.hid (KW7.out.appN (x := (j, ss, ps)) HO9.out HG9.out HB9.out rfl HpN7.out)
              have HE8 := Lib.hid (KW7.out.on.box HG9.out HE7.out (Or.inl (by decide)))
              have HpE8 := Lib.hid (HpE7.out.other KW7.out.on (by decide) (by decide) HG9.out)
              clear HO9 HB9 HZ9 HG9
              refine hK _ _ ⟨fun _ => KW8.out.g, fun q => absurd q (by decide), fun _ => HE8.out⟩ (fun hC => ?_)
              clear hK K9
              try simp only [Act.put, List.setIfInBounds_toArray, List.set_cons_zero, List.set_cons_succ]
              refine wpAnyL_take (i := 10) (oi := { dst := some 62, op := .fieldAddr 65 (.tmp 3) 0, type := _, pos := _, after := _, guard := none }) (v := ?_) rfl (by kernel_rfl) (by kernel_rfl) (by kernel_rfl) (fun _ _ _ h => h) (SK.set (by decide) (by decide) (by decide)) hC (Or.inl ⟨by rfl, ?_⟩) ⟨fun _ => KW8.out.g, fun q => absurd q (by decide), fun _ => HE8.out⟩ (fun hC hS => ?_)
              rotate_left
              · intro W9 hSw; skip; go_simp; try (with_reducible rfl)
              try simp only [Act.put, List.setIfInBounds_toArray, List.set_cons_zero, List.set_cons_succ]
              refine wpAnyL_ready (rs := [8]) (by kernel_rfl) (by simp) hC ?_
              refine AllReadyL.cons (o := { dst := some 60, op := .buildSlice 63 1 #[(0, .tmp 59)], type := _, pos := _, after := _, guard := none }) rfl (fun K9 hK => ?_) ?_
              · skip
                go_simp
                have KW10 := Lib.hid (KW8.out.alloc (.cells #[.string j2, .string f2, .string g2, .slice d1 d2 d3, .slice e1 e2 e3] 85 (0, 0)))
                have HE10 := Lib.hid (blk_alloc HE8.out (.cells #[.string j2, .string f2, .string g2, .slice d1 d2 d3, .slice e1 e2 e3] 85 (0, 0)))
                have HbE10 : Hid ((u4.alloc (.cells #[.string j2, .string f2, .string g2, .slice d1 d2 d3, .slice e1 e2 e3] 85 (0, 0))).heap[u4.heap.size]? = some (.cells #[.string j2, .string f2, .string g2, .slice d1 d2 d3, .slice e1 e2 e3] 85 (0, 0))) := Lib.hid (blk_newN (by simp))
                have HpE10 := Lib.hid (HpE8.out.below ((Below.refl _ _).alloc (Nat.le_refl _) (.cells #[.string j2, .string f2, .string g2, .slice d1 d2 d3, .slice e1 e2 e3] 85 (0, 0))))
                refine hK _ _ ⟨fun _ => KW10.out.g, fun q => absurd q (by decide), fun _ => HE10.out⟩ (fun hC => ?_)
                clear hK K9
                try simp only [Act.put, List.setIfInBounds_toArray, List.set_cons_zero, List.set_cons_succ]
                refine wpAnyL_ready (rs := [9]) (by kernel_rfl) (by simp) hC ?_
                refine AllReadyL.cons (o := { dst := some 61, op := .call { callee := .builtin .append, args := #[.tmp 58, .tmp 60], argTypes := #[63, 63] }, type := _, pos := _, after := _, guard := none }) rfl (fun K9 hK => ?_) ?_
                · skip
                  refine step_appX rfl (.tmp 58) (.tmp 60) 63 85 _ 96 rfl Try.underlying63 info_edB rfl (by omega) (by omega) edC_len edC_one w.heap.size w KW10.out.bel KW10.out.bel.size (.slice ae ne ce) R2 rfl KW10.out.oe (u4.heap.size) 1 (j2, f2, g2, ⟨d1, d2, d3⟩, ⟨e1, e2, e3⟩) #[.string j2, .string f2, .string g2, .slice d1 d2 d3, .slice e1 e2 e3] 85 (0, 0) rfl HbE10.out rfl (by rw [KW10.out.de.len, List.length_map, List.length_take]; omega) ?_
                  intro v9 u9 HO9 HB9 HZ9 HG9
                  obtain ⟨am, nm, cm, rfl⟩ := HO9.out.sl3
                  have KW11 := Lib.hid (KW10.out.appE (x := (j2, f2, g2, ss2, ps2)) HO9.out HG9.out HB9.out rfl rfl rfl HpE10.out)
                  clear HO9 HB9 HZ9 HG9
                  refine hK _ _ ⟨fun _ => KW11.out.g, fun q => absurd q (by decide), fun q => absurd q (by decide)⟩ (fun hC => ?_)
                  clear hK K9
                  try simp only [Act.put, List.setIfInBounds_toArray, List.set_cons_zero, List.set_cons_succ]
                  refine wpAnyL_ready (rs := [11]) (by kernel_rfl) (by simp) hC ?_
                  refine AllReadyL.cons (o := { dst := none, op := .store 62 (.tmp 62) (.tmp 56), type := _, pos := _, after := _, guard := none }) rfl (fun K9 hK => ?_) ?_
                  · skip
                    have y0 : u9.cell? ⟨w1.heap.size, 0, none⟩ = some (.slice av nv cv) := (cell_of_row _ _ _ _ _ _ KW11.out.g).trans rfl
                    have y1 : u9.cell? ⟨w1.heap.size, 1, none⟩ = some (.slice ae ne ce) := (cell_of_row _ _ _ _ _ _ KW11.out.g).trans rfl
                    have z0 : u9.frozen? ⟨w1.heap.size, 0, none⟩ = false := frozen_of_row _ _ _ _ _ KW11.out.g
                    have z1 : u9.frozen? ⟨w1.heap.size, 1, none⟩ = false := frozen_of_row _ _ _ _ _ KW11.out.g
                    go_simp
                    refine hK _ _ ⟨fun q => absurd q (by decide), fun q => absurd q (by decide), fun q => absurd q (by decide)⟩ (fun hC => ?_)
                    clear hK K9
                    try simp only [Act.put, List.setIfInBounds_toArray, List.set_cons_zero, List.set_cons_succ]
                    refine wpAnyL_take (i := 12) (oi := { dst := some 63, op := .fieldAddr 65 (.tmp 3) 1, type := _, pos := _, after := _, guard := none }) (v := ?_) rfl (by kernel_rfl) (by kernel_rfl) (by kernel_rfl) (fun _ _ _ h => h) (SK.set (by decide) (by decide) (by decide)) hC (Or.inl ⟨by rfl, ?_⟩) ⟨fun q => absurd q (by decide), fun q => absurd q (by decide), fun q => absurd q (by decide)⟩ (fun hC hS => ?_)
                    rotate_left
                    · intro W9 hSw; skip; go_simp; try (with_reducible rfl)
                    try simp only [Act.put, List.setIfInBounds_toArray, List.set_cons_zero, List.set_cons_succ]
                    refine wpAnyL_ready (rs := [13]) (by kernel_rfl) (by simp) hC ?_
                    refine AllReadyL.cons (o := { dst := none, op := .store 63 (.tmp 63) (.tmp 61), type := _, pos := _, after := _, guard := none }) rfl (fun K9 hK => ?_) ?_
                    · skip
                      go_simp
                      refine hK _ _ ⟨fun q => absurd q (by decide), fun q => absurd q (by decide), fun q => absurd q (by decide)⟩ (fun hC => ?_)
                      clear hK K9
                      try simp only [Act.put, List.setIfInBounds_toArray, List.set_cons_zero, List.set_cons_succ]
                      refine wpAnyL_done (by kernel_rfl) ?_ _
                      clear hC
                      have HF := Lib.hid (KW11.out.stored (by have := HB1.out.size; omega))
                      generalize ((u9.setCell ⟨w1.heap.size, 0, none⟩ (.slice an nn cn)).setCell ⟨w1.heap.size, 1, none⟩ (.slice am nm cm)) = u9 at *
                      go_wp2_with fail
                      go_roundw
                      case rel => exact ⟨k + 1, .slice an nn cn, .slice am nm cm, R ++ [(j, ⟨a1, a2, a3⟩, ⟨b1, b2, b3⟩)], R2 ++ [(j2, f2, g2, ⟨d1, d2, d3⟩, ⟨e1, e2, e3⟩)], by rw [HTA.out, badOf_snoc, ← HBP.out], by rw [HTE.out, badOf_snoc, ← HBQ.out], by go_num, by omega, HF.out.g, HF.out.on, HF.out.oe, by rw [HTA.out, List.map_append]; exact HF.out.dn, by rw [HTE.out, List.map_append]; exact HF.out.de, HF.out.bel⟩
                      case measure => simp [intOf] <;> omega
                    exact AllReadyL.nil
                  exact AllReadyL.nil
                exact AllReadyL.nil
              exact AllReadyL.nil
            refine AllReadyL.cons (o := { dst := some 60, op := .buildSlice 63 1 #[(0, .tmp 59)], type := _, pos := _, after := _, guard := none }) rfl (fun K9 hK => ?_) ?_
            · skip
              go_simp
              have KW8 := Lib.hid (KW7.out.alloc (.cells #[.string j2, .string f2, .string g2, .slice d1 d2 d3, .slice e1 e2 e3] 85 (0, 0)))
              have HN8 := Lib.hid (blk_alloc HN7.out (.cells #[.string j2, .string f2, .string g2, .slice d1 d2 d3, .slice e1 e2 e3] 85 (0, 0)))
              have HE8 := Lib.hid (blk_alloc HE7.out (.cells #[.string j2, .string f2, .string g2, .slice d1 d2 d3, .slice e1 e2 e3] 85 (0, 0)))
              have HbN8 := Lib.hid (blk_alloc HbN7.out (.cells #[.string j2, .string f2, .string g2, .slice d1 d2 d3, .slice e1 e2 e3] 85 (0, 0)))
              have HbE8 : Hid (((v.drew.alloc (.cells #[.string j, .slice a1 a2 a3, .slice b1 b2 b3] 81 (0, 0))).alloc (.cells #[.string j2, .string f2, .string g2, .slice d1 d2 d3, .slice e1 e2 e3] 85 (0, 0))).heap[v.heap.size + 1]? = some (.cells #[.string j2, .string f2, .string g2, .slice d1 d2 d3, .slice e1 e2 e3] 85 (0, 0))) := Lib.hid (blk_newN (by simp))
              have HpN8 := Lib.hid (HpN7.out.below ((Below.refl _ _).alloc (Nat.le_refl _) (.cells #[.string j2, .string f2, .string g2, .slice d1 d2 d3, .slice e1 e2 e3] 85 (0, 0))))
              have HpE8 := Lib.hid (HpE7.out.below ((Below.refl _ _).alloc (Nat.le_refl _) (.cells #[.string j2, .string f2, .string g2, .slice d1 d2 d3, .slice e1 e2 e3] 85 (0, 0))))
              refine hK _ _ ⟨fun _ => KW8.out.g, fun _ => HN8.out, fun _ => HE8.out⟩ (fun hC => ?_)
              clear hK K9
              try simp only [Act.put, List.setIfInBounds_toArray, List.set_cons_zero, List.set_cons_succ]
              refine wpAnyL_ready (rs := [4]) (by kernel_rfl) (by simp) hC ?_
              refine AllReadyL.cons (o := { dst := some 56, op := .call { callee := .builtin .append, args := #[.tmp 53, .tmp 55], argTypes := #[62, 62] }, type := _, pos := _, after := _, guard := none }) rfl (fun K9 hK => ?_) ?_
              · skip
                refine step_appX rfl (.tmp 53) (.tmp 55) 62 81 _ 64 rfl Try.underlying62 info_ndB rfl (by omega) (by omega) ndC_len ndC_one w.heap.size w KW8.out.bel KW8.out.bel.size (.slice av nv cv) R rfl KW8.out.on (v.heap.size) 1 (j, ⟨a1, a2, a3⟩, ⟨b1, b2, b3⟩) #[.string j, .slice a1 a2 a3, .slice b1 b2 b3] 81 (0, 0) rfl HbN8.out rfl (by rw [KW8.out.dn.len, List.length_map, List.length_take]; omega) ?_
                intro v9 u4 HO9 HB9 HZ9 HG9
                obtain ⟨an, nn, cn, rfl⟩ := HO9.out.sl3
                have KW9 := Lib.hid (KW8.out.appN (x := (j, ss, ps)) HO9.out HG9.out HB9.out rfl HpN8.out)
                have HE9 := Lib.hid (KW8.out.on.box HG9.out HE8.out (Or.inl (by decide)))
                have HbE9 := Lib.hid (KW8.out.on.box HG9.out HbE8.out (Or.inl (by decide)))
                have HpE9 := Lib.hid (HpE8.out.other KW8.out.on (by decide) (by decide) HG9.out)
                clear HO9 HB9 HZ9 HG9
                refine hK _ _ ⟨fun _ => KW9.out.g, fun q => absurd q (by decide), fun _ => HE9.out⟩ (fun hC => ?_)
                clear hK K9
                try simp only [Act.put, List.setIfInBounds_toArray, List.set_cons_zero, List.set_cons_succ]
                refine wpAnyL_take (i := 10) (oi := { dst := some 62, op := .fieldAddr 65 (.tmp 3) 0, type := _, pos := _, after := _, guard := none }) (v := ?_) rfl (by kernel_rfl) (by kernel_rfl) (by kernel_rfl) (fun _ _ _ h => h) (SK.set (by decide) (by decide) (by decide)) hC (Or.inl ⟨by rfl, ?_⟩) ⟨fun _ => KW9.out.g, fun q => absurd q (by decide), fun _ => HE9.out⟩ (fun hC hS => ?_)
                rotate_left
                · intro W9 hSw; skip; go_simp; try (with_reducible rfl)
                try simp only [Act.put, List.setIfInBounds_toArray, List.set_cons_zero, List.set_cons_succ]
                refine wpAnyL_ready (rs := [9]) (by kernel_rfl) (by simp) hC ?_
                refine AllReadyL.cons (o := { dst := some 61, op := .call { callee := .builtin .append, args := #[.tmp 58, .tmp 60], argTypes := #[63, 63] }, type := _, pos := _, after := _, guard := none }) rfl (fun K9 hK => ?_) ?_
                · skip
                  refine step_appX rfl (.tmp 58) (.tmp 60) 63 85 _ 96 rfl Try.underlying63 info_edB rfl (by omega) (by omega) edC_len edC_one w.heap.size w KW9.out.bel KW9.out.bel.size (.slice ae ne ce) R2 rfl KW9.out.oe (v.heap.size + 1) 1 (j2, f2, g2, ⟨d1, d2, d3⟩, ⟨e1, e2, e3⟩) #[.string j2, .string f2, .string g2, .slice d1 d2 d3, .slice e1 e2 e3] 85 (0, 0) rfl HbE9.out rfl (by rw [KW9.out.de.len, List.length_map, List.length_take]; omega) ?_
                  intro v9 u9 HO9 HB9 HZ9 HG9
                  obtain ⟨am, nm, cm, rfl⟩ := HO9.out.sl3
                  have KW11 := Lib.hid (KW9.out.appE (x := (j2, f2, g2, ss2, ps2)) HO9.out HG9.out HB9.out rfl rfl rfl HpE9.out)
                  clear HO9 HB9 HZ9 HG9
                  refine hK _ _ ⟨fun _ => KW11.out.g, fun q => absurd q (by decide), fun q => absurd q (by decide)⟩ (fun hC => ?_)
                  clear hK K9
                  try simp only [Act.put, List.setIfInBounds_toArray, List.set_cons_zero, List.set_cons_succ]
                  refine wpAnyL_ready (rs := [11]) (by kernel_rfl) (by simp) hC ?_
                  refine AllReadyL.cons (o := { dst := none, op := .store 62 (.tmp 62) (.tmp 56), type := _, pos := _, after := _, guard := none }) rfl (fun K9 hK => ?_) ?_
                  · skip
                    have y0 : u9.cell? ⟨w1.heap.size, 0, none⟩ = some (.slice av nv cv) := (cell_of_row _ _ _ _ _ _ KW11.out.g).trans rfl
                    have y1 : u9.cell? ⟨w1.heap.size, 1, none⟩ = some (.slice ae ne ce) := (cell_of_row _ _ _ _ _ _ KW11.out.g).trans rfl
                    have z0 : u9.frozen? ⟨w1.heap.size, 0, none⟩ = false := frozen_of_row _ _ _ _ _ KW11.out.g
                    have z1 : u9.frozen? ⟨w1.heap.size, 1, none⟩ = false := frozen_of_row _ _ _ _ _ KW11.out.g
                    go_simp
                    refine hK _ _ ⟨fun q => absurd q (by decide), fun q => absurd q (by decide), fun q => absurd q (by decide)⟩ (fun hC => ?_)
                    clear hK K9
                    try simp only [Act.put, List.setIfInBounds_toArray, List.set_cons_zero, List.set_cons_succ]
                    refine wpAnyL_take (i := 12) (oi := { dst := some 63, op := .fieldAddr 65 (.tmp 3) 1, type := _, pos := _, after := _, guard := none }) (v := ?_) rfl (by kernel_rfl) (by kernel_rfl) (by kernel_rfl) (fun _ _ _ h => h) (SK.set (by decide) (by decide) (by decide)) hC (Or.inl ⟨by rfl, ?_⟩) ⟨fun q => absurd q (by decide), fun q => absurd q (by decide), fun q => absurd q (by decide)⟩ (fun hC hS => ?_)
                    rotate_left
                    · intro W9 hSw; skip; go_simp; try (with_reducible rfl)
                    try simp only [Act.put, List.setIfInBounds_toArray, List.set_cons_zero, List.set_cons_succ]
                    refine wpAnyL_ready (rs := [13]) (by kernel_rfl) (by simp) hC ?_
                    refine AllReadyL.cons (o := { dst := none, op := .store 63 (.tmp 63) (.tmp 61), type := _, pos := _, after := _, guard := none }) rfl (fun K9 hK => ?_) ?_
                    · skip
                      go_simp
                      refine hK _ _ ⟨fun q => absurd q (by decide), fun q => absurd q (by decide), fun q => absurd q (by decide)⟩ (fun hC => ?_)
                      clear hK K9
                      try simp only [Act.put, List.setIfInBounds_toArray, List.set_cons_zero, List.set_cons_succ]
                      refine wpAnyL_done (by kernel_rfl) ?_ _
                      clear hC
                      have HF := Lib.hid (KW11.out.stored (by have := HB1.out.size; omega))
                      generalize ((u9.setCell ⟨w1.heap.size, 0, none⟩ (.slice an nn cn)).setCell ⟨w1.heap.size, 1, none⟩ (.slice am nm cm)) = u9 at *
                      go_wp2_with fail
                      go_roundw
                      case rel => exact ⟨k + 1, .slice an nn cn, .slice am nm cm, R ++ [(j, ⟨a1, a2, a3⟩, ⟨b1, b2, b3⟩)], R2 ++ [(j2, f2, g2, ⟨d1, d2, d3⟩, ⟨e1, e2, e3⟩)], by rw [HTA.out, badOf_snoc, ← HBP.out], by rw [HTE.out, badOf_snoc, ← HBQ.out], by go_num, by omega, HF.out.g, HF.out.on, HF.out.oe, by rw [HTA.out, List.map_append]; exact HF.out.dn, by rw [HTE.out, List.map_append]; exact HF.out.de, HF.out.bel⟩
                      case measure => simp [intOf] <;> omega
                    exact AllReadyL.nil
                  exact AllReadyL.nil
                exact AllReadyL.nil
              exact AllReadyL.nil
            exact AllReadyL.nil
          refine AllReadyL.cons (o := { dst := some 60, op := .buildSlice 63 1 #[(0, .tmp 59)], type := _, pos := _, after := _, guard := none }) rfl (fun K9 hK => ?_) ?_
          · skip
            go_simp
            have KW7 := Lib.hid (KWd.out.alloc (.cells #[.string j2, .string f2, .string g2, .slice d1 d2 d3, .slice e1 e2 e3] 85 (0, 0)))
            have HN7 := Lib.hid (blk_alloc HNd.out (.cells #[.string j2, .string f2, .string g2, .slice d1 d2 d3, .slice e1 e2 e3] 85 (0, 0)))
            have HE7 := Lib.hid (blk_alloc HEd.out (.cells #[.string j2, .string f2, .string g2, .slice d1 d2 d3, .slice e1 e2 e3] 85 (0, 0)))
            have HbE7 : Hid ((v.drew.alloc (.cells #[.string j2, .string f2, .string g2, .slice d1 d2 d3, .slice e1 e2 e3] 85 (0, 0))).heap[v.heap.size]? = some (.cells #[.string j2, .string f2, .string g2, .slice d1 d2 d3, .slice e1 e2 e3] 85 (0, 0))) := Lib.hid (blk_newN (by simp))
            have HpN7 := Lib.hid (HpN.out.below ((Below.refl _ _).alloc (Nat.le_refl _) (.cells #[.string j2, .string f2, .string g2, .slice d1 d2 d3, .slice e1 e2 e3] 85 (0, 0))))
            have HpE7 := Lib.hid (HpE.out.below ((Below.refl _ _).alloc (Nat.le_refl _) (.cells #[.string j2, .string f2, .string g2, .slice d1 d2 d3, .slice e1 e2 e3] 85 (0, 0))))
            refine hK _ _ ⟨fun _ => KW7.out.g, fun _ => HN7.out, fun _ => HE7.out⟩ (fun hC => ?_)
            clear hK K9
            try simp only [Act.put, List.setIfInBounds_toArray, List.set_cons_zero, List.set_cons_succ]
            refine wpAnyL_ready (rs := [3]) (by kernel_rfl) (by simp) hC ?_
            refine AllReadyL.cons (o := { dst := some 55, op := .buildSlice 62 1 #[(0, .tmp 54)], type := _, pos := _, after := _, guard := none }) rfl (fun K9 hK => ?_) ?_
            · skip
              go_simp
              have KW8 := Lib.hid (KW7.out.alloc (.cells #[.string j, .slice a1 a2 a3, .slice b1 b2 b3] 81 (0, 0)))
              have HN8 := Lib.hid (blk_alloc HN7.out (.cells #[.string j, .slice a1 a2 a3, .slice b1 b2 b3] 81 (0, 0)))
              have HE8 := Lib.hid (blk_alloc HE7.out (.cells #[.string j, .slice a1 a2 a3, .slice b1 b2 b3] 81 (0, 0)))
              have HbE8 := Lib.hid (blk_alloc HbE7.out (.cells #[.string j, .slice a1 a2 a3, .slice b1 b2 b3] 81 (0, 0)))
              have HbN8 : Hid (((v.drew.alloc (.cells #[.string j2, .string f2, .string g2, .slice d1 d2 d3, .slice e1 e2 e3] 85 (0, 0))).alloc (.cells #[.string j, .slice a1 a2 a3, .slice b1 b2 b3] 81 (0, 0))).heap[v.heap.size + 1]? = some (.cells #[.string j, .slice a1 a2 a3, .slice b1 b2 b3] 81 (0, 0))) := Lib.hid (blk_newN (by simp))
              have HpN8 := Lib.hid (HpN7.out.below ((Below.refl _ _).alloc (Nat.le_refl _) (.cells #[.string j, .slice a1 a2 a3, .slice b1 b2 b3] 81 (0, 0))))
              have HpE8 := Lib.hid (HpE7.out.below ((Below.refl _ _).alloc (Nat.le_refl _) (.cells #[.string j, .slice a1 a2 a3, .slice b1 b2 b3] 81 (0, 0))))
              refine hK _ _ ⟨fun _ => KW8.out.g, fun _ => HN8.out, fun _ => HE8.out⟩ (fun hC => ?_)
              clear hK K9
              try simp only [Act.put, List.setIfInBounds_toArray, List.set_cons_zero, List.set_cons_succ]
              refine wpAnyL_ready (rs := [4]) (by kernel_rfl) (by simp) hC ?_
              refine AllReadyL.cons (o := { dst := some 56, op := .call { callee := .builtin .append, args := #[.tmp 53, .tmp 55], argTypes := #[62, 62] }, type := _, pos := _, after := _, guard := none }) rfl (fun K9 hK => ?_) ?_
              · skip
                refine step_appX rfl (.tmp 53) (.tmp 55) 62 81 _ 64 rfl Try.underlying62 info_ndB rfl (by omega) (by omega) ndC_len ndC_one w.heap.size w KW8.out.bel KW8.out.bel.size (.slice av nv cv) R rfl KW8.out.on (v.heap.size + 1) 1 (j, ⟨a1, a2, a3⟩, ⟨b1, b2, b3⟩) #[.string j, .slice a1 a2 a3, .slice b1 b2 b3] 81 (0, 0) rfl HbN8.out rfl (by rw [KW8.out.dn.len, List.length_map, List.length_take]; omega) ?_
                intro v9 u4 HO9 HB9 HZ9 HG9
                obtain ⟨an, nn, cn, rfl⟩ := HO9.out.sl3
                have KW9 := Lib.hid (KW8.out.appN (x := (j, ss, ps)) HO9.out HG9.out HB9.out rfl HpN8.out)
                have HE9 := Lib.hid (KW8.out.on.box HG9.out HE8.out (Or.inl (by decide)))
                have HbE9 := Lib.hid (KW8.out.on.box HG9.out HbE8.out (Or.inl (by decide)))
                have HpE9 := Lib.hid (HpE8.out.other KW8.out.on (by decide) (by decide) HG9.out)
                clear HO9 HB9 HZ9 HG9
                refine hK _ _ ⟨fun _ => KW9.out.g, fun q => absurd q (by decide), fun _ => HE9.out⟩ (fun hC => ?_)
                clear hK K9
                try simp only [Act.put, List.setIfInBounds_toArray, List.set_cons_zero, List.set_cons_succ]
                refine wpAnyL_take (i := 10) (oi := { dst := some 62, op := .fieldAddr 65 (.tmp 3) 0, type := _, pos := _, after := _, guard := none }) (v := ?_) rfl (by kernel_rfl) (by kernel_rfl) (by kernel_rfl) (fun _ _ _ h => h) (SK.set (by decide) (by decide) (by decide)) hC (Or.inl ⟨by rfl, ?_⟩) ⟨fun _ => KW9.out.g, fun q => absurd q (by decide), fun _ => HE9.out⟩ (fun hC hS => ?_)
                rotate_left
                · intro W9 hSw; skip; go_simp; try (with_reducible rfl)
                try simp only [Act.put, List.setIfInBounds_toArray, List.set_cons_zero, List.set_cons_succ]
                refine wpAnyL_ready (rs := [9]) (by kernel_rfl) (by simp) hC ?_
                refine AllReadyL.cons (o := { dst := some 61, op := .call { callee := .builtin .append, args := #[.tmp 58, .tmp 60], argTypes := #[63, 63] }, type := _, pos := _, after := _, guard := none }) rfl (fun K9 hK => ?_) ?_
                · skip
                  refine step_appX rfl (.tmp 58) (.tmp 60) 63 85 _ 96 rfl Try.underlying63 info_edB rfl (by omega) (by omega) edC_len edC_one w.heap.size w KW9.out.bel KW9.out.bel.size (.slice ae ne ce) R2 rfl KW9.out.oe (v.heap.size) 1 (j2, f2, g2, ⟨d1, d2, d3⟩, ⟨e1, e2, e3⟩) #[.string j2, .string f2, .string g2, .slice d1 d2 d3, .slice e1 e2 e3] 85 (0, 0) rfl HbE9.out rfl (by rw [KW9.out.de.len, List.length_map, List.length_take]; omega) ?_
                  intro v9 u9 HO9 HB9 HZ9 HG9
                  obtain ⟨am, nm, cm, rfl⟩ := HO9.out.sl3
                  have KW11 := Lib.hid (KW9.out.appE (x := (j2, f2, g2, ss2, ps2)) HO9.out HG9.out HB9.out rfl rfl rfl HpE9.out)
                  clear HO9 HB9 HZ9 HG9
                  refine hK _ _ ⟨fun _ => KW11.out.g, fun q => absurd q (by decide), fun q => absurd q (by decide)⟩ (fun hC => ?_)
                  clear hK K9
                  try simp only [Act.put, List.setIfInBounds_toArray, List.set_cons_zero, List.set_cons_succ]
                  refine wpAnyL_ready (rs := [11]) (by kernel_rfl) (by simp) hC ?_
                  refine AllReadyL.cons (o := { dst := none, op := .store 62 (.tmp 62) (.tmp 56), type := _, pos := _, after := _, guard := none }) rfl (fun K9 hK => ?_) ?_
                  · skip
                    have y0 : u9.cell? ⟨w1.heap.size, 0, none⟩ = some (.slice av nv cv) := (cell_of_row _ _ _ _ _ _ KW11.out.g).trans rfl
                    have y1 : u9.cell? ⟨w1.heap.size, 1, none⟩ = some (.slice ae ne ce) := (cell_of_row _ _ _ _ _ _ KW11.out.g).trans rfl
                    have z0 : u9.frozen? ⟨w1.heap.size, 0, none⟩ = false := frozen_of_row _ _ _ _ _ KW11.out.g
                    have z1 : u9.frozen? ⟨w1.heap.size, 1, none⟩ = false := frozen_of_row _ _ _ _ _ KW11.out.g
                    go_simp
                    refine hK _ _ ⟨fun q => absurd q (by decide), fun q => absurd q (by decide), fun q => absurd q (by decide)⟩ (fun hC => ?_)
                    clear hK K9
                    try simp only [Act.put, List.setIfInBounds_toArray, List.set_cons_zero, List.set_cons_succ]
                    refine wpAnyL_take (i := 12) (oi := { dst := some 63, op := .fieldAddr 65 (.tmp 3) 1, type := _, pos := _, after := _, guard := none }) (v := ?_) rfl (by kernel_rfl) (by kernel_rfl) (by kernel_rfl) (fun _ _ _ h => h) (SK.set (by decide) (by decide) (by decide)) hC (Or.inl ⟨by rfl, ?_⟩) ⟨fun q => absurd q (by decide), fun q => absurd q (by decide), fun q => absurd q (by decide)⟩ (fun hC hS => ?_)
                    rotate_left
                    · intro W9 hSw; skip; go_simp; try (with_reducible rfl)
                    try simp only [Act.put, List.setIfInBounds_toArray, List.set_cons_zero, List.set_cons_succ]
                    refine wpAnyL_ready (rs := [13]) (by kernel_rfl) (by simp) hC ?_
                    refine AllReadyL.cons (o := { dst := none, op := .store 63 (.tmp 63) (.tmp 61), type := _, pos := _, after := _, guard := none }) rfl (fun K9 hK => ?_) ?_
                    · skip
                      go_simp
                      refine hK _ _ ⟨fun q => absurd q (by decide), fun q => absurd q (by decide), fun q => absurd q (by decide)⟩ (fun hC => ?_)
                      clear hK K9
                      try simp only [Act.put, List.setIfInBounds_toArray, List.set_cons_zero, List.set_cons_succ]
                      refine wpAnyL_done (by kernel_rfl) ?_ _
                      clear hC
                      have HF := Lib.hid (KW11.out.stored (by have := HB1.out.size; omega))
                      generalize ((u9.setCell ⟨w1.heap.size, 0, none⟩ (.slice an nn cn)).setCell ⟨w1.heap.size, 1, none⟩ (.slice am nm cm)) = u9 at *
                      go_wp2_with fail
                      go_roundw
                      case rel => exact ⟨k + 1, .slice an nn cn, .slice am nm cm, R ++ [(j, ⟨a1, a2, a3⟩, ⟨b1, b2, b3⟩)], R2 ++ [(j2, f2, g2, ⟨d1, d2, d3⟩, ⟨e1, e2, e3⟩)], by rw [HTA.out, badOf_snoc, ← HBP.out], by rw [HTE.out, badOf_snoc, ← HBQ.out], by go_num, by omega, HF.out.g, HF.out.on, HF.out.oe, by rw [HTA.out, List.map_append]; exact HF.out.dn, by rw [HTE.out, List.map_append]; exact HF.out.de, HF.out.bel⟩
                      case measure => simp [intOf] <;> omega
                    exact AllReadyL.nil
                  exact AllReadyL.nil
                exact AllReadyL.nil
              exact AllReadyL.nil
            exact AllReadyL.nil
          exact AllReadyL.nil
      · have hd1 : decide ((k : Int) < (n : Int)) = false := decide_eq_false (by omega)
        obtain rfl : k = n := by omega
        have HE := Lib.hid (show rs.take k = rs from List.take_of_length_le (by rw [HR1.out, HL.out]; omega))
        have HE2 := Lib.hid (show ts.take k = ts from List.take_of_length_le (by rw [HT1.out, HL.out]; omega))
        rw [HE.out] at HBP HD
        rw [HE2.out] at HBQ HD2
        have KW0 := Lib.hid (show KW w1.heap.size (.slice av nv cv) (.slice ae ne ce) (.slice av nv cv) (.slice ae ne ce) R (rs.map (·.1)) R2 (ts.map (·.1)) w wr from ⟨HG.out, HO.out, HO2.out, HD.out, HD2.out, HB.out⟩)
        have HTN := Lib.hid (fun (W : World) (q : RdX enC 2 W A k l) => takesN_any A k c l rs W q hn60 HR1.out HR2.out)
        have HTT := Lib.hid (fun (W : World) (q : RdX enC 2 W A k l) => takesE_any A k c l ts W q hn60 HT1.out HT2.out)
        have HSN := Lib.hid (rsSm HR1.out HR2.out)
        have HSE := Lib.hid (tsSm HT1.out HT2.out)
        have HLN := Lib.hid (show (rs.map (·.1)).length ≤ 1000000 by rw [List.length_map, HR1.out, HL.out]; omega)
        have HLE := Lib.hid (show (ts.map (·.1)).length ≤ 1000000 by rw [List.length_map, HT1.out, HL.out]; omega)
        clear HE HE2 HG HO HO2 HD HD2 HR1 HR2 HT1 HT2 hlt hn60 HL
        cases bp
        · have HGN := Lib.hid (gd_yes (rs := rs) (by have q := HBP.out; unfold badOf at q; simpa using q))
          rw [HGN.out.1, HGN.out.2] at HTN
          cases bq
          · have HGE := Lib.hid (gd_yes (rs := ts) (by have q := HBQ.out; unfold badOf at q; simpa using q))
            rw [HGE.out.1, HGE.out.2] at HTT
            clear HGN HGE HBP HBQ
            go_wp2_with fail
            refine (HTN.out wr (H.out.below HB.out)).mono ?_
            rintro e w2 ⟨v12, R12, rfl, ho, hd, hb⟩
            obtain ⟨a12, n12, c12, rfl⟩ := ho.sl3
            have HOn := Lib.hid ho
            have HDn := Lib.hid hd
            have KW2 := Lib.hid (KW0.out.later hb)
            clear ho hd hb KW0 HTN
            go_wp2_with fail
            refine (HTT.out w2 (H.out.below KW2.out.bel)).mono ?_
            rintro e w3 ⟨v14, R14, rfl, ho, hd, hb⟩
            obtain ⟨a14, n14, c14, rfl⟩ := ho.sl3
            have HOe := Lib.hid ho
            have HDe := Lib.hid hd
            have KW3 := Lib.hid (KW2.out.later hb)
            have HOm := Lib.hid (HOn.out.kept hb)
            have HDm := Lib.hid (HDn.out.below hb)
            clear ho hd hb KW2 HTT HOn HDn
            have y0 : w3.cell? ⟨w1.heap.size, 0, none⟩ = some (.slice av nv cv) := (cell_of_row _ _ _ _ _ _ KW3.out.g).trans rfl
            have y1 : w3.cell? ⟨w1.heap.size, 1, none⟩ = some (.slice ae ne ce) := (cell_of_row _ _ _ _ _ _ KW3.out.g).trans rfl
            have z0 : w3.frozen? ⟨w1.heap.size, 0, none⟩ = false := frozen_of_row _ _ _ _ _ KW3.out.g
            have z1 : w3.frozen? ⟨w1.heap.size, 1, none⟩ = false := frozen_of_row _ _ _ _ _ KW3.out.g
            go_wp2_with fail
            have HKK : Hid (KK [w1.heap.size] w3 w3) := Lib.hid (KK.refl [w1.heap.size] w3)
            have HB4 := Lib.hid (HKK.out.below KW3.out.bel (by simp; have := HB1.out.size; omega) KW3.out.bel.size)
            refine (same_own (HOm.out.kkT HKK.out KW3.out.g (by decide)) (HDm.out.kkT HKK.out KW3.out.g (by decide) (by decide)) (HOe.out.kkT HKK.out KW3.out.g (by decide)) (HDe.out.kkT HKK.out KW3.out.g (by decide) (by decide)) (KW3.out.on.kkT HKK.out KW3.out.g (by decide)) (KW3.out.dn.kkT HKK.out KW3.out.g (by decide) (by decide)) (KW3.out.oe.kkT HKK.out KW3.out.g (by decide)) (KW3.out.de.kkT HKK.out KW3.out.g (by decide) (by decide)) HLN.out HLE.out HSN.out HSE.out).mono ?_
            rintro e w5 ⟨rfl, hb5⟩
            have HB5 := Lib.hid (HB4.out.trans (hb5.mono HB4.out.size))
            clear hb5 HKK KW3 HOm HDm HOe HDe y0 y1 z0 z1
            go_wp2_with fail
            refine (awake31_any w5).mono ?_
            rintro e w6 ⟨rfl, hb6⟩
            have HB6 := Lib.hid (HB5.out.trans (hb6.mono HB5.out.size))
            clear hb6
            go_wp2_with fail
            go_ret
            exact ⟨rfl, HB6.out⟩
          · have HGE := Lib.hid (gd_no (rs := ts) (by have q := HBQ.out; unfold badOf at q; simpa using q))
            rw [HGE.out.1, HGE.out.2] at HTT
            clear HGN HGE HBP HBQ
            go_wp2_with fail
            refine (HTN.out wr (H.out.below HB.out)).mono ?_
            rintro e w2 ⟨v12, R12, rfl, ho, hd, hb⟩
            obtain ⟨a12, n12, c12, rfl⟩ := ho.sl3
            have HOn := Lib.hid ho
            have HDn := Lib.hid hd
            have KW2 := Lib.hid (KW0.out.later hb)
            clear ho hd hb KW0 HTN
            go_wp2_with fail
            refine (HTT.out w2 (H.out.below KW2.out.bel)).mono ?_
            rintro e w3 ⟨v14, R14, rfl, ho, hd, hb⟩
            obtain ⟨a14, n14, c14, rfl⟩ := ho.sl3
            have HOe := Lib.hid ho
            have HDe := Lib.hid hd
            have KW3 := Lib.hid (KW2.out.later hb)
            have HOm := Lib.hid (HOn.out.kept hb)
            have HDm := Lib.hid (HDn.out.below hb)
            clear ho hd hb KW2 HTT HOn HDn
            have y0 : w3.cell? ⟨w1.heap.size, 0, none⟩ = some (.slice av nv cv) := (cell_of_row _ _ _ _ _ _ KW3.out.g).trans rfl
            have y1 : w3.cell? ⟨w1.heap.size, 1, none⟩ = some (.slice ae ne ce) := (cell_of_row _ _ _ _ _ _ KW3.out.g).trans rfl
            have z0 : w3.frozen? ⟨w1.heap.size, 0, none⟩ = false := frozen_of_row _ _ _ _ _ KW3.out.g
            have z1 : w3.frozen? ⟨w1.heap.size, 1, none⟩ = false := frozen_of_row _ _ _ _ _ KW3.out.g
            go_wp2_with fail
            have HKK : Hid (KK [w1.heap.size] w3 (w3.setCell ⟨w1.heap.size, 1, none⟩ (.slice none 0 0))) := Lib.hid ((KK.refl [w1.heap.size] w3).set (b := w1.heap.size) (by simp) 1 (.slice none 0 0))
            have HB4 := Lib.hid (HKK.out.below KW3.out.bel (by simp; have := HB1.out.size; omega) KW3.out.bel.size)
            refine (same_own (HOm.out.kkT HKK.out KW3.out.g (by decide)) (HDm.out.kkT HKK.out KW3.out.g (by decide) (by decide)) (HOe.out.kkT HKK.out KW3.out.g (by decide)) (HDe.out.kkT HKK.out KW3.out.g (by decide) (by decide)) (KW3.out.on.kkT HKK.out KW3.out.g (by decide)) (KW3.out.dn.kkT HKK.out KW3.out.g (by decide) (by decide)) (OwX.nil (f := edC) (s := 5) (T := 85) (B := 0) _) (EdsOwn.nil _) HLN.out (Nat.zero_le _) HSN.out (fun x hx => by cases hx)).mono ?_
            rintro e w5 ⟨rfl, hb5⟩
            have HB5 := Lib.hid (HB4.out.trans (hb5.mono HB4.out.size))
            clear hb5 HKK KW3 HOm HDm HOe HDe y0 y1 z0 z1
            go_wp2_with fail
            refine (awake31_any w5).mono ?_
            rintro e w6 ⟨rfl, hb6⟩
            have HB6 := Lib.hid (HB5.out.trans (hb6.mono HB5.out.size))
            clear hb6
            go_wp2_with fail
            go_ret
            exact ⟨rfl, HB6.out⟩
        · have HGN := Lib.hid (gd_no (rs := rs) (by have q := HBP.out; unfold badOf at q; simpa using q))
          rw [HGN.out.1, HGN.out.2] at HTN
          cases bq
          · have HGE := Lib.hid (gd_yes (rs := ts) (by have q := HBQ.out; unfold badOf at q; simpa using q))
            rw [HGE.out.1, HGE.out.2] at HTT
            clear HGN HGE HBP HBQ
            go_wp2_with fail
            refine (HTN.out wr (H.out.below HB.out)).mono ?_
            rintro e w2 ⟨v12, R12, rfl, ho, hd, hb⟩
            obtain ⟨a12, n12, c12, rfl⟩ := ho.sl3
            have HOn := Lib.hid ho
            have HDn := Lib.hid hd
            have KW2 := Lib.hid (KW0.out.later hb)
            clear ho hd hb KW0 HTN
            go_wp2_with fail
            refine (HTT.out w2 (H.out.below KW2.out.bel)).mono ?_
            rintro e w3 ⟨v14, R14, rfl, ho, hd, hb⟩
            obtain ⟨a14, n14, c14, rfl⟩ := ho.sl3
            have HOe := Lib.hid ho
            have HDe := Lib.hid hd
            have KW3 := Lib.hid (KW2.out.later hb)
            have HOm := Lib.hid (HOn.out.kept hb)
            have HDm := Lib.hid (HDn.out.below hb)
            clear ho hd hb KW2 HTT HOn HDn
            have y0 : w3.cell? ⟨w1.heap.size, 0, none⟩ = some (.slice av nv cv) := (cell_of_row _ _ _ _ _ _ KW3.out.g).trans rfl
            have y1 : w3.cell? ⟨w1.heap.size, 1, none⟩ = some (.slice ae ne ce) := (cell_of_row _ _ _ _ _ _ KW3.out.g).trans rfl
            have z0 : w3.frozen? ⟨w1.heap.size, 0, none⟩ = false := frozen_of_row _ _ _ _ _ KW3.out.g
            have z1 : w3.frozen? ⟨w1.heap.size, 1, none⟩ = false := frozen_of_row _ _ _ _ _ KW3.out.g
            go_wp2_with fail
            have HKK : Hid (KK [w1.heap.size] w3 (w3.setCell ⟨w1.heap.size, 0, none⟩ (.slice none 0 0))) := Lib.hid ((KK.refl [w1.heap.size] w3).set (b := w1.heap.size) (by simp) 0 (.slice none 0 0))
            have HB4 := Lib.hid (HKK.out.below KW3.out.bel (by simp; have := HB1.out.size; omega) KW3.out.bel.size)
            refine (same_own (HOm.out.kkT HKK.out KW3.out.g (by decide)) (HDm.out.kkT HKK.out KW3.out.g (by decide) (by decide)) (HOe.out.kkT HKK.out KW3.out.g (by decide)) (HDe.out.kkT HKK.out KW3.out.g (by decide) (by decide)) (OwX.nil (f := ndC) (s := 3) (T := 81) (B := 0) _) (NdsOwn.nil _) (KW3.out.oe.kkT HKK.out KW3.out.g (by decide)) (KW3.out.de.kkT HKK.out KW3.out.g (by decide) (by decide)) (Nat.zero_le _) HLE.out (fun x hx => by cases hx) HSE.out).mono ?_
            rintro e w5 ⟨rfl, hb5⟩
            have HB5 := Lib.hid (HB4.out.trans (hb5.mono HB4.out.size))
            clear hb5 HKK KW3 HOm HDm HOe HDe y0 y1 z0 z1
            go_wp2_with fail
            refine (awake31_any w5).mono ?_
            rintro e w6 ⟨rfl, hb6⟩
            have HB6 := Lib.hid (HB5.out.trans (hb6.mono HB5.out.size))
            clear hb6
            go_wp2_with fail
            go_ret
            exact ⟨rfl, HB6.out⟩
          · have HGE := Lib.hid (gd_no (rs := ts) (by have q := HBQ.out; unfold badOf at q; simpa using q))
            rw [HGE.out.1, HGE.out.2] at HTT
            clear HGN HGE HBP HBQ
            go_wp2_with fail
            refine (HTN.out wr (H.out.below HB.out)).mono ?_
            rintro e w2 ⟨v12, R12, rfl, ho, hd, hb⟩
            obtain ⟨a12, n12, c12, rfl⟩ := ho.sl3
            have HOn := Lib.hid ho
            have HDn := Lib.hid hd
            have KW2 := Lib.hid (KW0.out.later hb)
            clear ho hd hb KW0 HTN
            go_wp2_with fail
            refine (HTT.out w2 (H.out.below KW2.out.bel)).mono ?_
            rintro e w3 ⟨v14, R14, rfl, ho, hd, hb⟩
            obtain ⟨a14, n14, c14, rfl⟩ := ho.sl3
            have HOe := Lib.hid ho
            have HDe := Lib.hid hd
            have KW3 := Lib.hid (KW2.out.later hb)
            have HOm := Lib.hid (HOn.out.kept hb)
            have HDm := Lib.hid (HDn.out.below hb)
            clear ho hd hb KW2 HTT HOn HDn
            have y0 : w3.cell? ⟨w1.heap.size, 0, none⟩ = some (.slice av nv cv) := (cell_of_row _ _ _ _ _ _ KW3.out.g).trans rfl
            have y1 : w3.cell? ⟨w1.heap.size, 1, none⟩ = some (.slice ae ne ce) := (cell_of_row _ _ _ _ _ _ KW3.out.g).trans rfl
            have z0 : w3.frozen? ⟨w1.heap.size, 0, none⟩ = false := frozen_of_row _ _ _ _ _ KW3.out.g
            have z1 : w3.frozen? ⟨w1.heap.size, 1, none⟩ = false := frozen_of_row _ _ _ _ _ KW3.out.g
            go_wp2_with fail
            have HKK : Hid (KK [w1.heap.size] w3 ((w3.setCell ⟨w1.heap.size, 0, none⟩ (.slice none 0 0)).setCell ⟨w1.heap.size, 1, none⟩ (.slice none 0 0))) := Lib.hid (((KK.refl [w1.heap.size] w3).set (b := w1.heap.size) (by simp) 0 (.slice none 0 0)).set (b := w1.heap.size) (by simp) 1 (.slice none 0 0))
            have HB4 := Lib.hid (HKK.out.below KW3.out.bel (by simp; have := HB1.out.size; omega) KW3.out.bel.size)
            refine (same_own (HOm.out.kkT HKK.out KW3.out.g (by decide)) (HDm.out.kkT HKK.out KW3.out.g (by decide) (by decide)) (HOe.out.kkT HKK.out KW3.out.g (by decide)) (HDe.out.kkT HKK.out KW3.out.g (by decide) (by decide)) (OwX.nil (f := ndC) (s := 3) (T := 81) (B := 0) _) (NdsOwn.nil _) (OwX.nil (f := edC) (s := 5) (T := 85) (B := 0) _) (EdsOwn.nil _) (Nat.zero_le _) (Nat.zero_le _) (fun x hx => by cases hx) (fun x hx => by cases hx)).mono ?_
            rintro e w5 ⟨rfl, hb5⟩
            have HB5 := Lib.hid (HB4.out.trans (hb5.mono HB4.out.size))
            clear hb5 HKK KW3 HOm HDm HOe HDe y0 y1 z0 z1
            go_wp2_with fail
            refine (awake31_any w5).mono ?_
            rintro e w6 ⟨rfl, hb6⟩
            have HB6 := Lib.hid (HB5.out.trans (hb6.mono HB5.out.size))
            clear hb6
            go_wp2_with fail
            go_ret
            exact ⟨rfl, HB6.out⟩
end Go.Proofs.Ytbjngbacnkmjhaa.LKeysTake
