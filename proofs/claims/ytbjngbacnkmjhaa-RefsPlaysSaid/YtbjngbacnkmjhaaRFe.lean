/- refs.Set over this translation. Conditions: refs that may be, a name that is no longer than a text may be. -/
import Derived.Test.YtbjngbacnkmjhaaRFp
import Derived.Deep.DeepCutAuto
namespace Go.Proofs.Ytbjngbacnkmjhaa
open Go.RowKit Vi

set_option maxRecDepth 100000 in
set_option maxHeartbeats 8000000 in
theorem rfset_any (A : Option Addr) (n c : Nat) (l : List Rf) (k : Int) (s old now : ByteArray) (w : World) (h : RdX rfC 3 w A n l) (hc : n ≤ c) (hl : OkL l) (hs : s.size ≤ maxLen) :
    Calls Try.prog 60 #[.slice A n c, .int .i64 k, .string s, .string old, .string now] w (RetRV w (stV l k s old now) (stE l k s old now)) := by
  have H := Lib.hid h
  have L := Lib.hid h.1
  have hn : n ≤ 64 := by rw [← h.1]; exact hl.len
  have HF := Lib.hid (fun (W : World) (q : RdX rfC 3 W A n l) => rffind_any A n c l k s now W q (by omega) hl.rise)
  have HIN := Lib.hid (fun W : World => isn_any k s W hs)
  have HEM := Lib.hid (isR_em (x := (k, s, now)) hl)
  have HY := Lib.hid (isR_yes (x := (k, s, now)) hl.rise)
  have HTK := Lib.hid (ltR_take (x := (k, s, now)) hl.rise)
  have HGY := Lib.hid (gtR_yes (x := (k, s, now)) hl.rise)
  have HGN := Lib.hid (gtR_no (x := (k, s, now)) hl.rise)
  have hkn : lesR l (k, s, now) ≤ n := by rw [← L.out]; exact lesR_le _ _
  have HE := Lib.hid (show stE l k s old now = if okN k s = false then 2 else if emB old = true ∧ emB now = true then 2
    else if ((isR l (k, s, now)).toList == old.toList) = false then (if emB old = true then 10 else if emB (isR l (k, s, now)) = true then 9 else 12)
    else if emB old = true ∧ 64 ≤ l.length then 5 else 0 from rfl)
  have HSL := Lib.hid (show stL l (k, s, now) = l.filter (fun a => lessR a (k, s, now)) ++ (if emB now = true then [] else [(k, s, now)]) ++ l.filter (fun a => lessR (k, s, now) a) from rfl)
  have HSV := Lib.hid (fun q : stE l k s old now = 0 => show stV l k s old now = stL l (k, s, now) by unfold stV; rw [if_pos q])
  clear h hl
  generalize lesR l (k, s, now) = K at *
  generalize isR l (k, s, now) = m at *
  cases hk : okN k s with
  | false =>
    have HV := Lib.hid (st_bad (HE.out.trans (if_pos hk)) (by decide))
    rw [hk] at HIN
    clear hk HEM HY HTK HGY HGN HE HSL HSV
    have HB1 := Lib.hid (Below.refl w.heap.size w)
    go_enter Try.func60, Try.ntmps60
    go_wp2_with fail
    refine (HF.out w (H.out.below HB1.out)).mono ?_
    rintro e w1 ⟨rfl, hb1⟩
    have HB2 := Lib.hid (HB1.out.trans (hb1.mono HB1.out.size))
    clear hb1 HB1 
    go_wp2_with fail
    refine (HIN.out w1).mono ?_
    rintro e w' ⟨rfl, rfl⟩
    go_wp2_with fail
    go_ret2
    exact ⟨_, by first | (rw [HV.out.1]; done) | (rw [HV.out.1]; rfl), by rw [HV.out.2]; exact RV.nil _, HB2.out⟩
  | true =>
    rw [hk] at HIN
    cases ho : old.toList.isEmpty with
    | true =>
      have ho2 : emB old = true := ho
      cases hw : now.toList.isEmpty with
      | true =>
        have hw2 : emB now = true := hw
        have HV := Lib.hid (st_bad (HE.out.trans (by rw [if_neg (by rw [hk]; simp), if_pos ⟨ho2, hw2⟩])) (by decide))
        clear ho2 hw2 hk
        clear HEM HY HTK HGY HGN HE HSL HSV
        have HB1 := Lib.hid (Below.refl w.heap.size w)
        go_enter Try.func60, Try.ntmps60
        go_wp2_with fail
        refine (HF.out w (H.out.below HB1.out)).mono ?_
        rintro e w1 ⟨rfl, hb1⟩
        have HB2 := Lib.hid (HB1.out.trans (hb1.mono HB1.out.size))
        clear hb1 HB1 
        go_wp2_with fail
        refine (HIN.out w1).mono ?_
        rintro e w' ⟨rfl, rfl⟩
        go_wp2_with fail
        go_ret2
        exact ⟨_, by first | (rw [HV.out.1]; done) | (rw [HV.out.1]; rfl), by rw [HV.out.2]; exact RV.nil _, HB2.out⟩
      | false =>
        have hw2 : emB now = false := hw
        cases hi : m.toList.isEmpty with
        | false =>
          have hi2 : emB m = false := hi
          have hne : (m.toList == old.toList) = false := by
            cases q : (m.toList == old.toList) with
            | false => rfl
            | true => have := emB_same q; rw [hi2, ho2] at this; cases this
          have HV := Lib.hid (st_bad (HE.out.trans (by rw [if_neg (by rw [hk]; simp), if_neg (fun q => by rw [hw2] at q; cases q.2), if_pos hne, if_pos ho2])) (by decide))
          clear ho2 hw2 hi2 hk
          clear HEM HY HTK HGY HGN HE HSL HSV
          have HB1 := Lib.hid (Below.refl w.heap.size w)
          go_enter Try.func60, Try.ntmps60
          go_wp2_with fail
          refine (HF.out w (H.out.below HB1.out)).mono ?_
          rintro e w1 ⟨rfl, hb1⟩
          have HB2 := Lib.hid (HB1.out.trans (hb1.mono HB1.out.size))
          clear hb1 HB1 
          go_wp2_with fail
          refine (HIN.out w1).mono ?_
          rintro e w' ⟨rfl, rfl⟩
          go_wp2_with fail
          go_ret2
          exact ⟨_, by first | (rw [HV.out.1]; done) | (rw [HV.out.1]; rfl), by rw [HV.out.2]; exact RV.nil _, HB2.out⟩
        | true =>
          have hi2 : emB m = true := hi
          have heq : (m.toList == old.toList) = true := emB_ext hi2 ho2
          have hmt : metR l (k, s, now) K = false := by have := HEM.out; rw [hi2] at this; simpa using this.symm
          by_cases h64 : 64 ≤ n
          · have d64 : decide ((64 : Int) ≤ (n : Int)) = true := decide_eq_true (by omega)
            have HV := Lib.hid (st_bad (HE.out.trans (by rw [if_neg (by rw [hk]; simp), if_neg (fun q => by rw [hw2] at q; cases q.2), if_neg (by rw [heq]; simp), if_pos ⟨ho2, by rw [L.out]; exact h64⟩])) (by decide))
            clear ho2 hw2 hi2 hk hmt
            clear HEM HY HTK HGY HGN HE HSL HSV
            have HB1 := Lib.hid (Below.refl w.heap.size w)
            go_enter Try.func60, Try.ntmps60
            go_wp2_with fail
            refine (HF.out w (H.out.below HB1.out)).mono ?_
            rintro e w1 ⟨rfl, hb1⟩
            have HB2 := Lib.hid (HB1.out.trans (hb1.mono HB1.out.size))
            clear hb1 HB1 
            go_wp2_with fail
            refine (HIN.out w1).mono ?_
            rintro e w' ⟨rfl, rfl⟩
            go_wp2_with fail
            go_ret2
            exact ⟨_, by first | (rw [HV.out.1]; done) | (rw [HV.out.1]; rfl), by rw [HV.out.2]; exact RV.nil _, HB2.out⟩
          · have d64 : decide ((64 : Int) ≤ (n : Int)) = false := decide_eq_false (by omega)
            have hz : stE l k s old now = 0 := HE.out.trans (by rw [if_neg (by rw [hk]; simp), if_neg (fun q => by rw [hw2] at q; cases q.2), if_neg (by rw [heq]; simp), if_neg (fun q => h64 (by rw [← L.out]; exact q.2))])
            have HV := Lib.hid (show stE l k s old now = 0 ∧ stV l k s old now = (l.take K ++ [(k, s, now)]) ++ l.drop K from ⟨hz, by rw [HSV.out hz, HSL.out, HTK.out, HGN.out hmt, if_neg (by rw [hw2]; simp)]⟩)
            clear ho2 hw2 hi2 hk hmt hz
            clear HEM HY HTK HGY HGN HE HSL HSV
            have HB1 := Lib.hid (Below.refl w.heap.size w)
            go_enter Try.func60, Try.ntmps60
            go_wp2_with fail
            refine (HF.out w (H.out.below HB1.out)).mono ?_
            rintro e w1 ⟨rfl, hb1⟩
            have HB2 := Lib.hid (HB1.out.trans (hb1.mono HB1.out.size))
            clear hb1 HB1 
            go_wp2_with fail
            refine (HIN.out w1).mono ?_
            rintro e w' ⟨rfl, rfl⟩
            go_wp2_with fail
            have hi0 : (0 : Int) ≤ (K : Int) := by omega
            have hi1 : (K : Int) ≤ (n : Int) := by omega
            have s1 := fun W => rfslice_to A n c K (by omega) W
            have s2 := fun W => rfslice_from A n c K (K : Int) (by omega) (by omega) W
            have HD1 := Lib.hid (H.out.take K (by omega))
            have HD2 := Lib.hid (H.out.drop (c := c) K (by omega) hc)
            generalize cutX 3 A c K = A2 at s2 HD2
            refine wp_region_quiet_below (by kernel_rfl) (by kernel_rfl) ?_
            repeat (any_goals (first | go_big_quiet_step (fail) | quiet_step (fail)))
            refine wpQuiet_nil ?_
            intro w2 hw2
            have hb2 := below_anyY hw2
            clear hw2 
            have HB3 := Lib.hid (HB2.out.trans (hb2.mono HB2.out.size))
            clear hb2 HB2 
            clear s1 s2
            have HRL := Lib.hid (fun (W : World) (hB : Below w2.heap.size w2 W) (hp : W.heap[w2.heap.size]? = some (.cells #[.int .i64 k, .string s, .string now] 97 (0, 0))) => show ∀ y ∈ ([⟨A, K, c, l.take K⟩, ⟨some ⟨w2.heap.size, 0, none⟩, 1, 1, [(k, s, now)]⟩, ⟨A2, n - K, c - K, l.drop K⟩] : List SlR), RdX rfC 3 W y.a y.n y.l from fun y hy => by
              have HBN := HB3.out.trans (hB.mono HB3.out.size)
              rcases List.mem_cons.1 hy with e | hy
              · subst e; exact HD1.out.below HBN
              rcases List.mem_cons.1 hy with e | hy
              · subst e; exact rd_blk (f := rfC) (s := 3) (fun _ => rfl) [(k, s, now)] hp rfl
              have e : y = ⟨A2, n - K, c - K, l.drop K⟩ := by simpa using hy
              subst e; exact HD2.out.below HBN)
            go_wp2_with fail
            refine (rfconcat_any (w2.heap.size + 1) 0 3 3 [⟨A, K, c, l.take K⟩, ⟨some ⟨w2.heap.size, 0, none⟩, 1, 1, [(k, s, now)]⟩, ⟨A2, n - K, c - K, l.drop K⟩] _ (rd_blk (f := slRC) (s := 1) (fun _ => rfl) [⟨A, K, c, l.take K⟩, ⟨some ⟨w2.heap.size, 0, none⟩, 1, 1, [(k, s, now)]⟩, ⟨A2, n - K, c - K, l.drop K⟩] (two_blk w2 _ _) rfl) (HRL.out _ (((Below.refl _ w2).alloc (Nat.le_refl _) _).alloc (by simp) _) (blk_alloc (blk_new w2 _) _)) (by omega) (by simp [totR]; omega)).mono ?_
            rintro e w9 ⟨v9, rfl, ho9, hb9⟩
            have HO9 := Lib.hid ho9
            have HBZ := Lib.hid (HB3.out.trans (((((Below.refl _ w2).alloc (Nat.le_refl _) _).alloc (by simp) _).trans (hb9.mono (by simp <;> omega))).mono HB3.out.size))
            have hv9 := ho9.one
            clear ho9 hb9
            go_wp2_with fail
            go_ret2
            refine ⟨v9, by first | (rw [HV.out.1]; done) | (rw [HV.out.1]; rfl), ?_, HBZ.out⟩
            rw [HV.out.2]
            have k9 := HO9.out
            simp only [List.flatMap_cons, List.flatMap_nil, List.append_nil] at k9
            rw [List.append_assoc]
            exact RV.own k9
    | false =>
      have ho2 : emB old = false := ho
      cases hi : m.toList.isEmpty with
      | true =>
        have hi2 : emB m = true := hi
        have hne : (m.toList == old.toList) = false := by
          cases q : (m.toList == old.toList) with
          | false => rfl
          | true => have := emB_same q; rw [hi2, ho2] at this; cases this
        have HV := Lib.hid (st_bad (HE.out.trans (by rw [if_neg (by rw [hk]; simp), if_neg (fun q => by rw [ho2] at q; cases q.1), if_pos hne, if_neg (by rw [ho2]; simp), if_pos hi2])) (by decide))
        clear ho2 hi2 hk
        clear HEM HY HTK HGY HGN HE HSL HSV
        have HB1 := Lib.hid (Below.refl w.heap.size w)
        go_enter Try.func60, Try.ntmps60
        go_wp2_with fail
        refine (HF.out w (H.out.below HB1.out)).mono ?_
        rintro e w1 ⟨rfl, hb1⟩
        have HB2 := Lib.hid (HB1.out.trans (hb1.mono HB1.out.size))
        clear hb1 HB1 
        go_wp2_with fail
        refine (HIN.out w1).mono ?_
        rintro e w' ⟨rfl, rfl⟩
        go_wp2_with fail
        go_ret2
        exact ⟨_, by first | (rw [HV.out.1]; done) | (rw [HV.out.1]; rfl), by rw [HV.out.2]; exact RV.nil _, HB2.out⟩
      | false =>
        have hi2 : emB m = false := hi
        cases he : (m.toList == old.toList) with
        | false =>
          have HV := Lib.hid (st_bad (HE.out.trans (by rw [if_neg (by rw [hk]; simp), if_neg (fun q => by rw [ho2] at q; cases q.1), if_pos he, if_neg (by rw [ho2]; simp), if_neg (by rw [hi2]; simp)])) (by decide))
          clear ho2 hi2 hk
          clear HEM HY HTK HGY HGN HE HSL HSV
          have HB1 := Lib.hid (Below.refl w.heap.size w)
          go_enter Try.func60, Try.ntmps60
          go_wp2_with fail
          refine (HF.out w (H.out.below HB1.out)).mono ?_
          rintro e w1 ⟨rfl, hb1⟩
          have HB2 := Lib.hid (HB1.out.trans (hb1.mono HB1.out.size))
          clear hb1 HB1 
          go_wp2_with fail
          refine (HIN.out w1).mono ?_
          rintro e w' ⟨rfl, rfl⟩
          go_wp2_with fail
          go_ret2
          exact ⟨_, by first | (rw [HV.out.1]; done) | (rw [HV.out.1]; rfl), by rw [HV.out.2]; exact RV.nil _, HB2.out⟩
        | true =>
          have hmt : metR l (k, s, now) K = true := by have := HEM.out; rw [hi2] at this; simpa using this.symm
          have hkl : K < n := by rw [← L.out]; exact (HY.out hmt).1
          have hz : stE l k s old now = 0 := HE.out.trans (by rw [if_neg (by rw [hk]; simp), if_neg (fun q => by rw [ho2] at q; cases q.1), if_neg (by rw [he]; simp), if_neg (fun q => by rw [ho2] at q; cases q.1)])
          cases hw : now.toList.isEmpty with
          | true =>
            have hw2 : emB now = true := hw
            have HV := Lib.hid (show stE l k s old now = 0 ∧ stV l k s old now = l.take K ++ l.drop (K + 1) from ⟨hz, by rw [HSV.out hz, HSL.out, HTK.out, HGY.out hmt, if_pos hw2, List.append_nil]⟩)
            clear ho2 hi2 hk hmt hz hw2
            clear HEM HY HTK HGY HGN HE HSL HSV
            have HB1 := Lib.hid (Below.refl w.heap.size w)
            go_enter Try.func60, Try.ntmps60
            go_wp2_with fail
            refine (HF.out w (H.out.below HB1.out)).mono ?_
            rintro e w1 ⟨rfl, hb1⟩
            have HB2 := Lib.hid (HB1.out.trans (hb1.mono HB1.out.size))
            clear hb1 HB1 
            go_wp2_with fail
            refine (HIN.out w1).mono ?_
            rintro e w' ⟨rfl, rfl⟩
            go_wp2_with fail
            have hi0 : (0 : Int) ≤ (K : Int) := by omega
            have hi1 : (K : Int) ≤ (n : Int) := by omega
            have s1 := fun W => rfslice_to A n c K (by omega) W
            have s2 := fun W => rfslice_from A n c K (K : Int) (by omega) (by omega) W
            have HD1 := Lib.hid (H.out.take K (by omega))
            have HD2 := Lib.hid (H.out.drop (c := c) K (by omega) hc)
            generalize cutX 3 A c K = A2 at s2 HD2
            refine wp_region_quiet_below (by kernel_rfl) (by kernel_rfl) ?_
            repeat (any_goals (first | go_big_quiet_step (fail) | quiet_step (fail)))
            refine wpQuiet_nil ?_
            intro w2 hw2
            have hb2 := below_anyY hw2
            clear hw2 
            have HB3 := Lib.hid (HB2.out.trans (hb2.mono HB2.out.size))
            clear hb2 HB2 
            clear s1 s2
            have s3 := fun W => rfslice_from A2 (n - K) (c - K) 1 1 (by omega) (by omega) W
            have HD3 := Lib.hid (HD2.out.drop (c := c - K) 1 (by omega) (by omega))
            rw [List.drop_drop] at HD3
            generalize cutX 3 A2 (c - K) 1 = A3 at s3 HD3
            have HRL := Lib.hid (fun (W : World) (hB : Below w2.heap.size w2 W) => show ∀ y ∈ ([⟨A, K, c, l.take K⟩, ⟨A3, n - K - 1, c - K - 1, l.drop (K + 1)⟩] : List SlR), RdX rfC 3 W y.a y.n y.l from fun y hy => by
              have HBN := HB3.out.trans (hB.mono HB3.out.size)
              rcases List.mem_cons.1 hy with e | hy
              · subst e; exact HD1.out.below HBN
              have e : y = ⟨A3, n - K - 1, c - K - 1, l.drop (K + 1)⟩ := by simpa using hy
              subst e; exact HD3.out.below HBN)
            go_wp2_with fail
            refine (rfconcat_any (w2.heap.size) 0 2 2 [⟨A, K, c, l.take K⟩, ⟨A3, n - K - 1, c - K - 1, l.drop (K + 1)⟩] _ (rd_blk (f := slRC) (s := 1) (fun _ => rfl) [⟨A, K, c, l.take K⟩, ⟨A3, n - K - 1, c - K - 1, l.drop (K + 1)⟩] (blk_new w2 _) rfl) (HRL.out _ ((Below.refl _ w2).alloc (Nat.le_refl _) _)) (by omega) (by simp [totR]; omega)).mono ?_
            rintro e w9 ⟨v9, rfl, ho9, hb9⟩
            have HO9 := Lib.hid ho9
            have HBZ := Lib.hid (HB3.out.trans ((((Below.refl _ w2).alloc (Nat.le_refl _) _).trans (hb9.mono (by simp <;> omega))).mono HB3.out.size))
            have hv9 := ho9.one
            clear ho9 hb9
            go_wp2_with fail
            go_ret2
            refine ⟨v9, by first | (rw [HV.out.1]; done) | (rw [HV.out.1]; rfl), ?_, HBZ.out⟩
            rw [HV.out.2]
            have k9 := HO9.out
            simp only [List.flatMap_cons, List.flatMap_nil, List.append_nil] at k9
            exact RV.own k9
          | false =>
            have hw2 : emB now = false := hw
            have HV := Lib.hid (show stE l k s old now = 0 ∧ stV l k s old now = (l.take K ++ [(k, s, now)]) ++ l.drop (K + 1) from ⟨hz, by rw [HSV.out hz, HSL.out, HTK.out, HGY.out hmt, if_neg (by rw [hw2]; simp)]⟩)
            clear ho2 hi2 hk hmt hz hw2
            clear HEM HY HTK HGY HGN HE HSL HSV
            have HB1 := Lib.hid (Below.refl w.heap.size w)
            go_enter Try.func60, Try.ntmps60
            go_wp2_with fail
            refine (HF.out w (H.out.below HB1.out)).mono ?_
            rintro e w1 ⟨rfl, hb1⟩
            have HB2 := Lib.hid (HB1.out.trans (hb1.mono HB1.out.size))
            clear hb1 HB1 
            go_wp2_with fail
            refine (HIN.out w1).mono ?_
            rintro e w' ⟨rfl, rfl⟩
            go_wp2_with fail
            have hi0 : (0 : Int) ≤ (K : Int) := by omega
            have hi1 : (K : Int) ≤ (n : Int) := by omega
            have s1 := fun W => rfslice_to A n c K (by omega) W
            have s2 := fun W => rfslice_from A n c K (K : Int) (by omega) (by omega) W
            have HD1 := Lib.hid (H.out.take K (by omega))
            have HD2 := Lib.hid (H.out.drop (c := c) K (by omega) hc)
            generalize cutX 3 A c K = A2 at s2 HD2
            refine wp_region_quiet_below (by kernel_rfl) (by kernel_rfl) ?_
            repeat (any_goals (first | go_big_quiet_step (fail) | quiet_step (fail)))
            refine wpQuiet_nil ?_
            intro w2 hw2
            have hb2 := below_anyY hw2
            clear hw2 
            have HB3 := Lib.hid (HB2.out.trans (hb2.mono HB2.out.size))
            clear hb2 HB2 
            clear s1 s2
            have s3 := fun W => rfslice_from A2 (n - K) (c - K) 1 1 (by omega) (by omega) W
            have HD3 := Lib.hid (HD2.out.drop (c := c - K) 1 (by omega) (by omega))
            rw [List.drop_drop] at HD3
            generalize cutX 3 A2 (c - K) 1 = A3 at s3 HD3
            have HRL := Lib.hid (fun (W : World) (hB : Below w2.heap.size w2 W) (hp : W.heap[w2.heap.size]? = some (.cells #[.int .i64 k, .string s, .string now] 97 (0, 0))) => show ∀ y ∈ ([⟨A, K, c, l.take K⟩, ⟨some ⟨w2.heap.size, 0, none⟩, 1, 1, [(k, s, now)]⟩, ⟨A3, n - K - 1, c - K - 1, l.drop (K + 1)⟩] : List SlR), RdX rfC 3 W y.a y.n y.l from fun y hy => by
              have HBN := HB3.out.trans (hB.mono HB3.out.size)
              rcases List.mem_cons.1 hy with e | hy
              · subst e; exact HD1.out.below HBN
              rcases List.mem_cons.1 hy with e | hy
              · subst e; exact rd_blk (f := rfC) (s := 3) (fun _ => rfl) [(k, s, now)] hp rfl
              have e : y = ⟨A3, n - K - 1, c - K - 1, l.drop (K + 1)⟩ := by simpa using hy
              subst e; exact HD3.out.below HBN)
            go_wp2_with fail
            refine (rfconcat_any (w2.heap.size + 1) 0 3 3 [⟨A, K, c, l.take K⟩, ⟨some ⟨w2.heap.size, 0, none⟩, 1, 1, [(k, s, now)]⟩, ⟨A3, n - K - 1, c - K - 1, l.drop (K + 1)⟩] _ (rd_blk (f := slRC) (s := 1) (fun _ => rfl) [⟨A, K, c, l.take K⟩, ⟨some ⟨w2.heap.size, 0, none⟩, 1, 1, [(k, s, now)]⟩, ⟨A3, n - K - 1, c - K - 1, l.drop (K + 1)⟩] (two_blk w2 _ _) rfl) (HRL.out _ (((Below.refl _ w2).alloc (Nat.le_refl _) _).alloc (by simp) _) (blk_alloc (blk_new w2 _) _)) (by omega) (by simp [totR]; omega)).mono ?_
            rintro e w9 ⟨v9, rfl, ho9, hb9⟩
            have HO9 := Lib.hid ho9
            have HBZ := Lib.hid (HB3.out.trans (((((Below.refl _ w2).alloc (Nat.le_refl _) _).alloc (by simp) _).trans (hb9.mono (by simp <;> omega))).mono HB3.out.size))
            have hv9 := ho9.one
            clear ho9 hb9
            go_wp2_with fail
            go_ret2
            refine ⟨v9, by first | (rw [HV.out.1]; done) | (rw [HV.out.1]; rfl), ?_, HBZ.out⟩
            rw [HV.out.2]
            have k9 := HO9.out
            simp only [List.flatMap_cons, List.flatMap_nil, List.append_nil] at k9
            rw [List.append_assoc]
            exact RV.own k9
end Go.Proofs.Ytbjngbacnkmjhaa
