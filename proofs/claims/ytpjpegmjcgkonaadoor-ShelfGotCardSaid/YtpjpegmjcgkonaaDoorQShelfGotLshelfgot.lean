/- P16.3: what was put is got, by its name, whatever is put behind; or two unlike texts with one sum are told. Condition: the table that the program's text lays. -/
import Derived.Test.YtpjpegmjcgkonaaDoorQShelfNobodySFl
namespace Go.Proofs.YtpjpegmjcgkonaaDoor
open Go.RowKit Vi Hm

/-- behind the first k texts: objects are named by their sums, and each text that isn't empty is got -/
structure GI (ss : List ByteArray) (k : Nat) (L : List Ob) : Prop where
  nm : ∀ x ∈ L, x.1 = nmS x.2 ∧ x.2.size ≠ 0 ∧ x.2.size ≤ 65536
  got : ∀ j, j < k → ∀ t, ss[j]? = some t → t.size ≠ 0 → getO L (nmS t) = some t
  len : L.length ≤ k
theorem GI.zero (ss : List ByteArray) : GI ss 0 [] := ⟨fun _ h => (by cases h), fun _ h => by omega, Nat.le_refl _⟩
theorem get_app {L : List Ob} {s : ByteArray} {u : ByteArray} (h : getO L s = some u) (M : List Ob) : getO (L ++ M) s = some u := by
  unfold getO at *
  rw [List.find?_append]
  cases q : L.find? (fun x => x.1.toList == s.toList) with
  | none => rw [q] at h; cases h
  | some x => rw [q] at h; simpa using h
theorem get_snoc {L : List Ob} {t : ByteArray} (h : getO L (nmS t) = none) : getO (L ++ [(nmS t, t)]) (nmS t) = some t := by
  unfold getO at *
  rw [List.find?_append]
  cases q : L.find? (fun x => x.1.toList == (nmS t).toList) with
  | none => simp
  | some x => rw [q] at h; cases h
theorem get_mem {L : List Ob} {s u : ByteArray} (h : getO L s = some u) : ∃ x ∈ L, x.1 = s ∧ x.2 = u := by
  unfold getO at h
  obtain ⟨x, hx, e⟩ := Option.map_eq_some_iff.1 h
  have := List.find?_some hx
  exact ⟨x, List.mem_of_find?_eq_some hx, ba_eq.1 this, e⟩
theorem GI.skip {ss : List ByteArray} {k : Nat} {L : List Ob} (h : GI ss k L) {t : ByteArray} (ht : ss[k]? = some t) (h0 : t.size = 0) : GI ss (k + 1) L :=
  ⟨h.nm, fun j hj u hu hn => by
    rcases Nat.lt_or_ge j k with q | q
    · exact h.got j q u hu hn
    · obtain rfl : j = k := by omega
      rw [ht] at hu
      cases hu
      exact absurd h0 hn, by have := h.len; omega⟩
theorem GI.add {ss : List ByteArray} {k : Nat} {L : List Ob} (h : GI ss k L) {t : ByteArray} (ht : ss[k]? = some t) (h0 : t.size ≠ 0) (h1 : ¬ 65536 < t.size) (hg : getO L (nmS t) = none) : GI ss (k + 1) (L ++ [(nmS t, t)]) :=
  ⟨fun x hx => by
    rcases List.mem_append.1 hx with q | q
    · exact h.nm x q
    · obtain rfl : x = (nmS t, t) := by simpa using q
      exact ⟨rfl, h0, Nat.le_of_not_lt h1⟩, fun j hj u hu hn => by
    rcases Nat.lt_or_ge j k with q | q
    · exact get_app (h.got j q u hu hn) _
    · obtain rfl : j = k := by omega
      rw [ht] at hu
      cases hu
      exact get_snoc hg, by rw [List.length_append]; have := h.len; simp; omega⟩
theorem GI.same {ss : List ByteArray} {k : Nat} {L : List Ob} (h : GI ss k L) {t : ByteArray} (ht : ss[k]? = some t) (hg : getO L (nmS t) = some t) : GI ss (k + 1) L :=
  ⟨h.nm, fun j hj u hu hn => by
    rcases Nat.lt_or_ge j k with q | q
    · exact h.got j q u hu hn
    · obtain rfl : j = k := by omega
      rw [ht] at hu
      cases hu
      exact hg, by have := h.len; omega⟩
theorem empty_of_size {t : ByteArray} (h : t.size = 0) : t = ⟨#[]⟩ := ByteArray.ext (Array.eq_empty_of_size_eq_zero h)
theorem isEmpty_of_ne {t : ByteArray} (h0 : t.size ≠ 0) : t.toList.isEmpty = false := by
  rw [Lib.toList_data]
  cases q : t.data.toList with
  | nil => exact absurd (by show t.data.size = 0; rw [← Array.length_toList, q]; rfl) h0
  | cons _ _ => rfl
theorem eqn_of_ne {t : ByteArray} (h0 : t.size ≠ 0) : (t.toList == []) = false := by
  rw [Lib.toList_data]
  cases q : t.data.toList with
  | nil => exact absurd (by show t.data.size = 0; rw [← Array.length_toList, q]; rfl) h0
  | cons _ _ => rfl
theorem beq_empty {t : ByteArray} (h0 : t.size ≠ 0) : (t == (⟨#[]⟩ : ByteArray)) = false := by
  cases q : (t == (⟨#[]⟩ : ByteArray)) with
  | false => rfl
  | true => rw [ba_beq q] at h0; exact absurd rfl h0
theorem bne_empty {t : ByteArray} (h0 : t.size ≠ 0) : (t != (⟨#[]⟩ : ByteArray)) = true := by simp [bne, beq_empty h0]
theorem bne_of_ne {a b : ByteArray} (h : a ≠ b) : (a != b) = true := by
  cases q : (a == b) with
  | true => exact absurd (ba_beq q) h
  | false => simp [bne, q]
theorem met_of {a b : ByteArray} (h : a.size ≠ 0) : metO a b = true := by unfold metO; rw [beq_empty h]; rfl
theorem met_none : metO ⟨#[]⟩ ⟨#[]⟩ = false := rfl
theorem mt_none (u t : ByteArray) : mtA ⟨#[]⟩ ⟨#[]⟩ u = u ∧ mtB ⟨#[]⟩ ⟨#[]⟩ t = t := ⟨rfl, rfl⟩
theorem cat_mem {ss : List ByteArray} {k : Nat} {t : ByteArray} (h : ss[k]? = some t) : t.size ≤ (catS ss).length := by
  obtain ⟨hk, rfl⟩ := List.getElem?_eq_some_iff.1 h
  have := catS_le ss k hk
  omega
set_option maxRecDepth 100000 in
set_option maxHeartbeats 4000000 in
theorem LShelfGot (a : Option Addr) (len cap : Nat) (ss : List ByteArray) (w : World) (hsl : StrS w a len ss) (hz : ∀ s ∈ ss, s.size ≤ maxLen) (hlm : len ≤ maxLen) (hT : HTab w) :
    Calls Tryd.prog 4 #[.slice a len cap] w fun e w' => e = .returned (.bool true) ∧ Below w.heap.size w w' := by
  have HT := Lib.hid hT
  have HS := Lib.hid hsl
  have HAW := Lib.hid (awake16_any w hT)
  have hlI : (len : Int) ≤ 9223372036854775807 := by unfold maxLen at hlm; omega
  have HZ := Lib.hid hz
  clear hT hsl hz
  by_cases h40 : 40 < len
  · have d1 : decide ((40 : Int) < (len : Int)) = true := decide_eq_true (by omega)
    have d2 : decide (40 < len) = true := decide_eq_true h40
    clear h40
    go_enter Tryd.func4, Tryd.ntmps4
    go_wp2_with fail
    refine HAW.out.mono ?_
    rintro e w1 ⟨rfl, hb⟩
    have HB := Lib.hid hb
    clear hb
    go_wp2_with fail
    go_ret
    exact ⟨rfl, HB.out⟩
  have d1 : decide ((40 : Int) < (len : Int)) = false := decide_eq_false (by omega)
  have d2 : decide (40 < len) = false := decide_eq_false h40
  have HL := Lib.hid (show len ≤ 40 by omega)
  clear h40
  go_enter Tryd.func4, Tryd.ntmps4
  go_wp2_with fail
  refine (tbytes_any a len cap ss w HS.out (by have := HL.out; omega) HZ.out).mono ?_
  rintro e w1 ⟨⟨r, rfl, hr⟩, rfl⟩
  have HR := Lib.hid hr
  clear hr
  by_cases h4 : 4000 < r
  · have d3 : decide ((4000 : Int) < (r : Int)) = true := decide_eq_true (by omega)
    have d4 : decide (4000 < r) = true := decide_eq_true h4
    clear h4
    go_wp2_with fail
    refine HAW.out.mono ?_
    rintro e w1 ⟨rfl, hb⟩
    have HB := Lib.hid hb
    clear hb
    go_wp2_with fail
    go_ret
    exact ⟨rfl, HB.out⟩
  have d3 : decide ((4000 : Int) < (r : Int)) = false := decide_eq_false (by omega)
  have d4 : decide (4000 < r) = false := decide_eq_false h4
  have HC := Lib.hid (show (catS ss).length ≤ 4000 by rw [HR.out (by omega)]; omega)
  clear h4 HR
  go_wp2_with fail
  refine (snew_any w).mono ?_
  rintro e w1 hr
  obtain ⟨D, rfl, h1⟩ := NewS.sw (Below.refl _ w) hr
  have H1 := Lib.hid h1
  clear h1 hr d3 d4
  go_wp2_with fail
  go_loopw [30] (fun i wr => ∃ (k : Nat) (L : List Ob), i = .int .i64 (k : Int) ∧ k ≤ len ∧ GI ss k L ∧ SW w.heap.size w D L ⟨#[]⟩ ⟨#[]⟩ k wr) (fun i _ => len - (intOf i).toNat)
  case atStart => exact ⟨0, [], rfl, Nat.zero_le _, GI.zero _, H1.out⟩
  case round =>
    obtain ⟨k, L, rfl, hk, hgi, hsw⟩ := hrel
    have HG := Lib.hid hgi
    have HW := Lib.hid hsw
    clear hgi hsw H1
    by_cases hlt : k < len
    · obtain ⟨b, off, ha, hc⟩ := HS.out.at (by omega)
      subst ha
      have hl := HS.out.1
      obtain ⟨t, ht⟩ : ∃ t, ss[k]? = some t := ⟨_, List.getElem?_eq_getElem (by omega)⟩
      have cK := (HW.out.bel.cell (p := ⟨b, off + k, none⟩) (World.block_lt_of_cell? w _ (hc k hlt t ht))).trans (hc k hlt t ht)
      have hts := cat_mem ht
      have HTS := Lib.hid (show t.size ≤ 4000 by have := HC.out; omega)
      have HTK := Lib.hid ht
      have HP := Lib.hid (sputT_any _ _ D L ⟨#[]⟩ ⟨#[]⟩ k t wr HW.out HT.out (Nat.le_refl _) (by have := HL.out; omega) (by have := HG.out.len; have := HL.out; omega))
      have hkI : (k : Int) < 9223372036854775807 := by omega
      clear hc hts hl ht
      by_cases h0 : t.size = 0
      · obtain ⟨p1, p2, p3, p4, p5⟩ := put_bad (L := L) (x := 2) (.inl ⟨h0, rfl⟩) ⟨#[]⟩ ⟨#[]⟩
        have HG2 := Lib.hid (HG.out.skip HTK.out h0)
        obtain rfl := empty_of_size h0
        have HP2 := Lib.hid HP.out
        unfold RetPut at HP2
        rw [p1, p2, p3, p4, p5] at HP2
        clear HP p1 p2 p3 p4 p5 h0
        go_wp2_with fail
        refine HP2.out.mono ?_
        rintro e w2 ⟨rfl, h2⟩
        have H2 := Lib.hid h2
        clear h2
        go_wp2_with fail
        go_roundw
        case rel => exact ⟨k + 1, L, by go_num, by omega, HG2.out, H2.out⟩
        case measure => simp [intOf] <;> omega
      have e1 := isEmpty_of_ne h0
      have e2 := eqn_of_ne h0
      have e3 := bne_empty h0
      have e4 := beq_empty h0
      have h1 : ¬ 65536 < t.size := by have := HTS.out; omega
      cases hg : getO L (nmS t) with
      | none =>
        obtain ⟨p1, p2, p3, p4, p5⟩ := put_none h0 h1 hg ⟨#[]⟩ ⟨#[]⟩
        have HG2 := Lib.hid (HG.out.add HTK.out h0 h1 hg)
        have HP2 := Lib.hid HP.out
        unfold RetPut at HP2
        rw [p1, p2, p3, p4, p5] at HP2
        generalize L ++ [(nmS t, t)] = L2 at *
        have HU := Lib.hid (fun (W : World) (M : Nat) (hT : HTab W) (hS : StrS W (some ⟨M, 0, none⟩) 1 [t]) => sum1_any t W M hT hS (by have := HTS.out; omega))
        obtain ⟨N, hN⟩ : ∃ N, N = nmS t := ⟨_, rfl⟩
        rw [← hN] at HP2 HU
        clear HP p1 p2 p3 p4 p5 h0 h1 hg hN
        go_wp2_with fail
        refine HP2.out.mono ?_
        rintro e w2 ⟨rfl, h2⟩
        have H2 := Lib.hid h2
        clear h2
        go_wp2_with fail
        have H3 := Lib.hid (H2.out.below ((Below.refl _ w2).alloc (Nat.le_refl _) (.cells #[.string t] 9)))
        refine (HU.out _ w2.heap.size (HT.out.later H3.out.bel) (str_one w2 t)).mono ?_
        rintro e w4 ⟨rfl, hb⟩
        have H4 := Lib.hid (H3.out.below hb)
        clear hb
        go_wp2_with fail
        go_roundw
        case rel => exact ⟨k + 1, L2, by go_num, by omega, HG2.out, H4.out⟩
        case measure => simp [intOf] <;> omega
      | some u =>
        by_cases hu : u = t
        · subst hu
          obtain ⟨p1, p2, p3, p4, p5⟩ := put_same h0 h1 hg ⟨#[]⟩ ⟨#[]⟩
          have HG2 := Lib.hid (HG.out.same HTK.out hg)
          have HP2 := Lib.hid HP.out
          unfold RetPut at HP2
          rw [p1, p2, p3, p4, p5] at HP2
          have HU := Lib.hid (fun (W : World) (M : Nat) (hT : HTab W) (hS : StrS W (some ⟨M, 0, none⟩) 1 [u]) => sum1_any u W M hT hS (by have := HTS.out; omega))
          obtain ⟨N, hN⟩ : ∃ N, N = nmS u := ⟨_, rfl⟩
          rw [← hN] at HP2 HU
          clear HP p1 p2 p3 p4 p5 h0 h1 hg hN
          go_wp2_with fail
          refine HP2.out.mono ?_
          rintro e w2 ⟨rfl, h2⟩
          have H2 := Lib.hid h2
          clear h2
          go_wp2_with fail
          have H3 := Lib.hid (H2.out.below ((Below.refl _ w2).alloc (Nat.le_refl _) (.cells #[.string u] 9)))
          refine (HU.out _ w2.heap.size (HT.out.later H3.out.bel) (str_one w2 u)).mono ?_
          rintro e w4 ⟨rfl, hb⟩
          have H4 := Lib.hid (H3.out.below hb)
          clear hb
          go_wp2_with fail
          go_roundw
          case rel => exact ⟨k + 1, L, by go_num, by omega, HG2.out, H4.out⟩
          case measure => simp [intOf] <;> omega
        · obtain ⟨p1, p2, p3, p4, p5⟩ := put_clash h0 h1 hg hu ⟨#[]⟩ ⟨#[]⟩
          obtain ⟨x, hx, hx1, hx2⟩ := get_mem hg
          obtain ⟨n1, n2, hus⟩ := HG.out.nm x hx
          rw [hx2] at n1 n2 hus
          rw [hx1] at n1
          have HP2 := Lib.hid HP.out
          unfold RetPut at HP2
          rw [p1, p2, p3, p4, p5, (mt_none u t).1, (mt_none u t).2] at HP2
          have HU := Lib.hid (fun (W : World) (M : Nat) (hT : HTab W) (hS : StrS W (some ⟨M, 0, none⟩) 1 [t]) => sum1_any t W M hT hS (by have := HTS.out; omega))
          have HV := Lib.hid (fun (W : World) (M : Nat) (hT : HTab W) (hS : StrS W (some ⟨M, 0, none⟩) 1 [u]) => sum1_any u W M hT hS (by omega))
          rw [← n1] at HV
          have hm := met_of (b := t) n2
          have hne := bne_of_ne hu
          have hne0 : (u.toList == t.toList) = false := by
            cases q : (u.toList == t.toList) with
            | false => rfl
            | true => exact absurd (toListEq (by simpa using q)) hu
          obtain ⟨N, hN⟩ : ∃ N, N = nmS t := ⟨_, rfl⟩
          rw [← hN] at HU HV
          clear HP p1 p2 p3 p4 p5 h0 h1 hg hN n1 n2 hx hx1 hx2 hus hu
          go_wp2_with fail
          refine HP2.out.mono ?_
          rintro e w2 ⟨rfl, h2⟩
          have H2 := Lib.hid h2
          clear h2
          go_wp2_with fail
          have hcl := sclash_any D L u t _ w2 H2.out.sk
          rw [hm] at hcl
          refine hcl.mono ?_
          rintro e w3 ⟨rfl, hb⟩
          have H3 := Lib.hid (H2.out.below hb)
          clear hb hcl hm e1 e2 e3 e4 cK hkI
          go_wp2_with fail
          have H4 := Lib.hid (H3.out.below ((Below.refl _ w3).alloc (Nat.le_refl _) (.cells #[.string u] 9)))
          refine (HV.out _ w3.heap.size (HT.out.later H4.out.bel) (str_one w3 u)).mono ?_
          rintro e w5 ⟨rfl, hb⟩
          have H5 := Lib.hid (H4.out.below hb)
          clear hb
          go_wp2_with fail
          have H6 := Lib.hid (H5.out.below ((Below.refl _ w5).alloc (Nat.le_refl _) (.cells #[.string t] 9)))
          refine (HU.out _ w5.heap.size (HT.out.later H6.out.bel) (str_one w5 t)).mono ?_
          rintro e w7 ⟨rfl, hb⟩
          have H7 := Lib.hid (H6.out.below hb)
          clear hb
          go_wp2_with fail
          refine (awake16_any w7 (HT.out.later H7.out.bel)).mono ?_
          rintro e w8 ⟨rfl, hb⟩
          have H8 := Lib.hid (H7.out.below hb)
          clear hb
          go_wp2_with fail
          go_ret
          exact ⟨rfl, H8.out.bel⟩
    · obtain rfl : k = len := by omega
      have HLK := Lib.hid HG.out.len
      have hkI : (k : Int) < 9223372036854775807 := by have := HL.out; omega
      go_wp2_with fail
      go_loopw [85] (fun i wr => ∃ (j : Nat), i = .int .i64 (j : Int) ∧ j ≤ k ∧ SW w.heap.size w D L ⟨#[]⟩ ⟨#[]⟩ k wr) (fun i _ => k - (intOf i).toNat)
      case atStart => exact ⟨0, rfl, Nat.zero_le _, HW.out⟩
      case round =>
        obtain ⟨j, rfl, hj, hsw⟩ := hrel
        have HX := Lib.hid hsw
        clear hsw HW
        by_cases hlt2 : j < k
        · obtain ⟨b, off, ha, hc⟩ := HS.out.at (by omega)
          subst ha
          have hl := HS.out.1
          obtain ⟨t, ht⟩ : ∃ t, ss[j]? = some t := ⟨_, List.getElem?_eq_getElem (by omega)⟩
          have cK := (HX.out.bel.cell (p := ⟨b, off + j, none⟩) (World.block_lt_of_cell? w _ (hc j hlt2 t ht))).trans (hc j hlt2 t ht)
          have hts := cat_mem ht
          have HTS := Lib.hid (show t.size ≤ 4000 by have := HC.out; omega)
          have HGT := Lib.hid (HG.out.got j hlt2 t ht)
          clear hc hts hl ht
          have HU := Lib.hid (fun (W : World) (M : Nat) (hT : HTab W) (hS : StrS W (some ⟨M, 0, none⟩) 1 [t]) => sum1_any t W M hT hS (by have := HTS.out; omega))
          have HE := Lib.hid (fun (W : World) (h : SK D L ⟨#[]⟩ ⟨#[]⟩ k W) => sget_any D L ⟨#[]⟩ ⟨#[]⟩ k (nmS t) W h (nm_le t))
          obtain ⟨N, hN⟩ : ∃ N, N = nmS t := ⟨_, rfl⟩
          rw [← hN] at HU HE HGT
          clear hN
          by_cases h0 : t.size = 0
          · obtain rfl := empty_of_size h0
            clear h0 HGT
            generalize getO L N = q at HE
            go_wp2_with fail
            have H3 := Lib.hid (HX.out.below ((Below.refl _ wr).alloc (Nat.le_refl _) (.cells #[.string ⟨#[]⟩] 9)))
            refine (HU.out _ wr.heap.size (HT.out.later H3.out.bel) (str_one wr ⟨#[]⟩)).mono ?_
            rintro e w4 ⟨rfl, hb⟩
            have H4 := Lib.hid (H3.out.below hb)
            clear hb
            go_wp2_with fail
            refine (HE.out w4 H4.out.sk).mono ?_
            rintro e w5 ⟨rfl, hb⟩
            have H5 := Lib.hid (H4.out.below hb)
            clear hb
            go_wp2_with fail
            go_roundw
            case rel => exact ⟨j + 1, by go_num, by omega, H5.out⟩
            case measure => simp [intOf] <;> omega
          · have e1 := isEmpty_of_ne h0
            have e2 := eqn_of_ne h0
            have e3 := bne_empty h0
            have e4 := beq_empty h0
            rw [HGT.out h0] at HE
            clear h0 HGT
            go_wp2_with fail
            have H3 := Lib.hid (HX.out.below ((Below.refl _ wr).alloc (Nat.le_refl _) (.cells #[.string t] 9)))
            refine (HU.out _ wr.heap.size (HT.out.later H3.out.bel) (str_one wr t)).mono ?_
            rintro e w4 ⟨rfl, hb⟩
            have H4 := Lib.hid (H3.out.below hb)
            clear hb
            go_wp2_with fail
            refine (HE.out w4 H4.out.sk).mono ?_
            rintro e w5 ⟨rfl, hb⟩
            have H5 := Lib.hid (H4.out.below hb)
            clear hb
            go_wp2_with fail
            go_roundw
            case rel => exact ⟨j + 1, by go_num, by omega, H5.out⟩
            case measure => simp [intOf] <;> omega
        · have hlt3 : j = k := by omega
          subst hlt3
          have hcl := sclash_any D L ⟨#[]⟩ ⟨#[]⟩ j wr HX.out.sk
          rw [met_none] at hcl
          have HCL := Lib.hid hcl
          clear hcl
          go_wp2_with fail
          refine HCL.out.mono ?_
          rintro e w3 ⟨rfl, hb⟩
          have H3 := Lib.hid (HX.out.below hb)
          clear hb
          go_wp2_with fail
          refine (awake16_any w3 (HT.out.later H3.out.bel)).mono ?_
          rintro e w8 ⟨rfl, hb⟩
          have H8 := Lib.hid (H3.out.below hb)
          clear hb
          go_wp2_with fail
          go_ret
          exact ⟨rfl, H8.out.bel⟩
end Go.Proofs.YtpjpegmjcgkonaaDoor
