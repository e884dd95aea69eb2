/- P16.1, P16.2: whatever is put, forgotten and left, each call is answered, and the shelf has, what the document says. Condition: the table that the program's text lays. -/
import Derived.Test.YtpjpegmjcgkonaaDoorG4
namespace Go.Proofs.YtpjpegmjcgkonaaDoor
open Go.RowKit Vi Hm

theorem pos_get (L : List Ob) (s : ByteArray) : (posO L s).isSome = (getO L s).isSome := by
  cases h : posO L s with
  | none => rw [pos_none h]; rfl
  | some i => obtain ⟨k, hk, _, h2, _⟩ := pos_some h; rw [h2]; rfl
theorem sliceS_from (a : Option Addr) (n c k : Nat) (hk : k ≤ n) (hc : n ≤ c) (W : World) : ∃ A2, (Instr.slice 27 (.slice a n c) (some (.int .i64 (k : Int))) none none).run Tryd.prog W = .ok (.slice A2 (n - k) (c - k)) W ∧ ∀ (w : World) (l : List ByteArray), SlN w a n l → SlN w A2 (n - k) (l.drop k) := by
  rw [run_slice_l W _ a n c und_ss .i64 k (by omega) (by omega), elem_ss, size_of_str]
  refine ⟨_, by simp only [Result.andThen_ok, Int.toNat_natCast]; rfl, fun w l h => ?_⟩
  have hl := h.1
  refine ⟨by rw [List.length_drop]; omega, fun hp => ?_⟩
  obtain ⟨b, off, rfl, hcell⟩ := h.2 (by omega)
  refine ⟨b, off + k, ?_, fun i hi => ?_⟩
  · simp [Addr.add_lit]
    intro e
    omega
  · rw [List.length_drop] at hi
    have q := hcell (k + i) (by omega)
    rw [List.getElem_drop, ← q]
    congr 2
    omega
theorem tx_some (L : List Ob) (K : Nat) (hK : K ≤ L.length) : txO L (K : Int) = (L.map (·.2)).drop K := by
  unfold txO
  rw [if_pos (by omega), Int.toNat_natCast, List.map_drop]
theorem tx_none (L : List Ob) (n : Int) (h : ¬ (0 ≤ n ∧ n ≤ (L.length : Int))) : txO L n = [] := by unfold txO; rw [if_neg h]
set_option maxRecDepth 100000 in
set_option maxHeartbeats 8000000 in
theorem LShelfPlays (A : Option Addr) (n c : Nat) (l : List Aq) (name : ByteArray) (m : Int) (w : World) (h : RdX acQ 3 w A n l) (hm : n ≤ maxLen) (hz : ∀ x ∈ l, x.2.2.size ≤ maxLen) (hnm : name.size ≤ maxLen) (hT : HTab w) :
    Calls Tryd.prog 3 #[.slice A n c, .string name, .int .i64 m] w fun e w' => e = .returned (.bool true) ∧ Below w.heap.size w w' := by
  have H := Lib.hid h
  have HF := Lib.hid (few16_any A n c l w h hm hz)
  have HT := Lib.hid hT
  have HAW := Lib.hid (awake16_any w hT)
  have HNM := Lib.hid hnm
  have hnI : (name.size : Int) ≤ 9223372036854775807 := by unfold maxLen at hnm; omega
  have hmI : (n : Int) ≤ 9223372036854775807 := by unfold maxLen at hm; omega
  obtain ⟨WW, hWW⟩ : ∃ WW, WW = w := ⟨_, rfl⟩
  have HWW := Lib.hid (show Below w.heap.size w WW by rw [hWW]; exact Below.refl _ _)
  clear h hm hz hnm hT
  go_enter Tryd.func3, Tryd.ntmps3
  go_wp2_with fail
  refine HF.out.mono ?_
  rintro e w0 ⟨b, rfl, hb, rfl⟩
  cases b with
  | false =>
    clear hb
    go_wp2_with fail
    refine HAW.out.mono ?_
    rintro e wz ⟨rfl, hb⟩
    have HBZ := Lib.hid hb
    clear hb
    go_wp2_with fail
    go_ret
    exact ⟨rfl, HBZ.out⟩
  | true =>
  have HN40 := Lib.hid (hb rfl)
  clear hb HF
  by_cases hq : 1000 < name.size
  · have d1 : decide ((1000 : Int) < (name.size : Int)) = true := decide_eq_true (by omega)
    have d2 : decide (1000 < name.size) = true := decide_eq_true hq
    clear hq
    go_wp2_with fail
    refine HAW.out.mono ?_
    rintro e wz ⟨rfl, hb⟩
    have HBZ := Lib.hid hb
    clear hb
    go_wp2_with fail
    go_ret
    exact ⟨rfl, HBZ.out⟩
  have d1 : decide ((1000 : Int) < (name.size : Int)) = false := decide_eq_false (by omega)
  have d2 : decide (1000 < name.size) = false := decide_eq_false hq
  clear hq HAW
  rw [← hWW]
  clear hWW
  go_wp2_with fail
  refine (snew_any WW).mono ?_
  rintro e w1 hr
  obtain ⟨D0, rfl, hs⟩ := NewS.sw HWW.out hr
  have HS1 := Lib.hid hs
  clear hr hs
  have HNy := Lib.hid (blk_new w1 (.cells #[.slice none 0 0, .slice none 0 0, .string ⟨#[]⟩, .string ⟨#[]⟩] 29 (0, 0)))
  have HBy := Lib.hid (HS1.out.bel.alloc HS1.out.sz (.cells #[.slice none 0 0, .slice none 0 0, .string ⟨#[]⟩, .string ⟨#[]⟩] 29 (0, 0)))
  have HIy := Lib.hid (show ∀ W : World, Below w1.heap.size w1 W → ¬ InS D0 W w1.heap.size from fun W hb q => absurd (HS1.out.sk.new (q.back hb HS1.out.sk.lt)) (Nat.lt_irrefl _))
  go_wp2_with (refine wpList_store_rowY rfl 29 (.tmp 8) (.tmp 27) rfl w1.heap.size #[.slice none 0 0, .slice none 0 0, .string ⟨#[]⟩, .string ⟨#[]⟩] rfl rfl 29 _ HNy.out (info_rs) rfl (by simp [Value.oneCell']) w1.heap.size w1 ((Below.refl _ _).alloc (Nat.le_refl _) _) (Nat.le_refl _) ?_)
  intro w2 hbk hoth hbel _
  have HQ1 := Lib.hid (show Sq w w1.heap.size D0 [] ⟨#[]⟩ ⟨#[]⟩ 0 none 0 0 none 0 0 w2 from ⟨HS1.out.below hbel.out, hbk.out, HIy.out _ hbel.out, ShR.nil _ _⟩)
  have HYW := Lib.hid (show w.heap.size ≤ w1.heap.size from HS1.out.sz)
  clear hbk hoth hbel HNy HBy HIy HS1
  generalize w1.heap.size = y at *
  go_wp2_with fail
  go_loopw [7, 30] (fun p i wr => ∃ (j D : Nat) (L : List Ob) (c0 c1 : ByteArray) (k : Nat) (ta : Option Addr) (tn tc : Nat) (sa : Option Addr) (sn sc : Nat), p = .pointer (some ⟨D, 0, none⟩) ∧ i = .int .i64 (j : Int) ∧ j ≤ n ∧ Inv L c0 c1 ∧ L.length ≤ j ∧ k ≤ 50 * j ∧ Sq w y D L c0 c1 k ta tn tc sa sn sc wr) (fun _ i _ => n - (intOf i).toNat)
  case atStart => exact ⟨0, D0, [], ⟨#[]⟩, ⟨#[]⟩, 0, none, 0, 0, none, 0, 0, rfl, rfl, Nat.zero_le _, Inv.nil, Nat.zero_le _, Nat.zero_le _, HQ1.out⟩
  case round =>
    obtain ⟨j, D, L, c0, c1, k, ta, tn, tc, sa, sn, sc, rfl, rfl, hj, hi, hl, hk, hs⟩ := hrel
    have HS := Lib.hid hs
    have HI := Lib.hid hi
    have HLK := Lib.hid (And.intro hl hk)
    clear hs hi hl hk HQ1
    by_cases hlt : j < n
    · have hd1 : decide ((j : Int) < (n : Int)) = true := decide_eq_true (by omega)
      have hi0 : (0 : Int) ≤ (j : Int) := by omega
      have hs1 : IntKind.i64.wrap ((j : Int) + 1) = (j : Int) + 1 := IntWalk.i64_in _ (by omega)
      obtain ⟨ba, oa2, hl1, rfl, hba, hca⟩ := (H.out.below HS.out.sw.bel).at hlt
      have g0 : wr.cell? ⟨ba, oa2 + j * 3, none⟩ = some (.int .i64 (l[j]'hl1).1) := by have q := hca 0 _ rfl; simpa using q
      have g1 := hca 1 (.int .i64 (l[j]'hl1).2.1) rfl
      have g2 := hca 2 (.string (l[j]'hl1).2.2) rfl
      obtain ⟨x, hx⟩ : ∃ x, x = l[j]'hl1 := ⟨_, rfl⟩
      rw [← hx] at g0 g1 g2
      clear hca hba hx hl1
      obtain ⟨kd, nn, t⟩ := x
      have HB0 := Lib.hid ((Below.refl wr.heap.size wr).alloc (Nat.le_refl _) (.cells #[.int .i64 0, .int .i64 0, .string ⟨#[]⟩] 31 (0, 0)))
      have HN0 := Lib.hid (blk_new wr (.cells #[.int .i64 0, .int .i64 0, .string ⟨#[]⟩] 31 (0, 0)))
      go_wp2_with (refine wpList_store_rowY rfl 31 (.tmp 10) (.tmp 33) rfl wr.heap.size #[.int .i64 kd, .int .i64 nn, .string t] rfl rfl 31 _ HN0.out (by kernel_rfl) rfl (by simp [Value.oneCell']) wr.heap.size wr HB0.out (Nat.le_refl _) ?_)
      intro w6 hbk hoth hbel _
      have HX6 := Lib.hid hbk.out
      have HS6 := Lib.hid (HS.out.kept hbel.out)
      clear hbk hoth hbel HB0 HN0 HS g0 g1 g2
      generalize wr.heap.size = z at *
      have x0 : w6.cell? ⟨z, 0, none⟩ = some (.int .i64 kd) := (cell_of_row _ _ 0 _ _ _ HX6.out).trans rfl
      have x1 : w6.cell? ⟨z, 1, none⟩ = some (.int .i64 nn) := (cell_of_row _ _ 1 _ _ _ HX6.out).trans rfl
      have x2 : w6.cell? ⟨z, 2, none⟩ = some (.string t) := (cell_of_row _ _ 2 _ _ _ HX6.out).trans rfl
      obtain ⟨y0, y1, y2, y3⟩ := HS6.out.cells
      have HD := Lib.hid (does_anyS w.heap.size w (fun b => b ≠ y) D L c0 c1 k kd nn t ta tn tc sa sn sc w6 HS6.out.sw HS6.out.rs (fun b hb => by have := lt_of_block HS6.out.bx; omega) HI.out (by have := HLK.out.1; have := HN40.out; omega) (by have := HLK.out.2; have := HN40.out; omega) HT.out (Nat.le_refl _))
      have HIA := Lib.hid (HI.out.act kd nn t)
      generalize actL L kd nn t = L' at HD HIA
      generalize actA L c0 c1 kd t = d0 at HD HIA
      generalize actB L c0 c1 kd t = d1 at HD HIA
      go_wp2_with fail
      refine HD.out.mono ?_
      rintro e w7 hq
      obtain ⟨D2, r1, r2, r3, r4, r5, r6, rfl, q1, q2, q3, q4⟩ := RetDoes.sq HS6.out hq
      have HW7 := Lib.hid q1
      have HR7 := Lib.hid q2
      have HY7 := Lib.hid q3
      have HN7 := Lib.hid q4
      clear hq q1 q2 q3 q4 x0 x1 x2 y0 y1 y2 y3 HD HX6 HS6
      go_wp2_with (refine wpList_store_rowY rfl 29 (.tmp 8) (.tmp 40) rfl y #[.slice r1 r2 r3, .slice r4 r5 r6, .string d0, .string d1] rfl rfl 29 _ HY7.out (info_rs) rfl (by simp [Value.oneCell']) w.heap.size w HW7.out.bel HYW.out ?_)
      intro w8 hbk hoth hbel _
      have HS8 := Lib.hid (Sq.put HW7.out HR7.out HN7.out hbk.out hoth.out hbel.out)
      clear hbk hoth hbel HW7 HR7 HY7 HN7
      obtain ⟨y0, y1, y2, y3⟩ := HS8.out.cells
      have HSM := Lib.hid (ssame_any (fun b => ¬ InS D2 w8 b ∧ b ≠ y) D2 L' d0 d1 (k + 1 + L.length) r1 r2 r3 r4 r5 r6 w8 HS8.out.sw.sk HS8.out.rs HIA.out.1 (by have := HIA.out.2; have := HLK.out.1; have := HN40.out; omega) (by have := HLK.out.1; have := HLK.out.2; have := HN40.out; omega))
      go_wp2_with fail
      refine HSM.out.mono ?_
      rintro e w9 ⟨rfl, hb⟩
      have HS9 := Lib.hid (HS8.out.kept hb)
      clear hb y0 y1 y2 y3 HSM HS8
      go_wp2_with fail
      go_roundw
      case rel => exact ⟨j + 1, D2, L', d0, d1, k + 1 + L.length, r1, r2, r3, r4, r5, r6, rfl, by go_num, by omega, HIA.out.1, by have := HIA.out.2; have := HLK.out.1; omega, by have := HLK.out.1; have := HLK.out.2; have := HN40.out; omega, HS9.out⟩
      case measure => simp [intOf] <;> omega
    · have hd1 : decide ((j : Int) < (n : Int)) = false := decide_eq_false (by omega)
      have HGE := Lib.hid (fun (W : World) (q : SK D L c0 c1 k W) => sget_any D L c0 c1 k name W q HNM.out)
      have HHS := Lib.hid (fun (W : World) (q : SK D L c0 c1 k W) => shas_any D L c0 c1 k name W q HNM.out)
      have HRG := Lib.hid (fun (W : World) (q : ShR (fun b => ¬ InS D W b ∧ b ≠ y) L ta tn tc sa sn sc W) => rsget_any _ L c0 c1 name ta tn tc sa sn sc W q (by have := HLK.out.1; have := HN40.out; omega))
      rw [pos_get] at HHS
      obtain ⟨gv, hgv⟩ : ∃ gv, gv = (getO L name).getD ⟨#[]⟩ := ⟨_, rfl⟩
      obtain ⟨gb, hgb⟩ : ∃ gb, gb = (getO L name).isSome := ⟨_, rfl⟩
      rw [← hgv, ← hgb] at HGE HRG
      rw [← hgb] at HHS
      clear hgv hgb
      obtain ⟨u1, u2⟩ := beq_same gv
      have HTL := Lib.hid HS.out.rs.tn_eq
      have HLL := Lib.hid (show L.length ≤ 40000 from by have := HLK.out.1; have := HN40.out; omega)
      go_wp2_with fail
      refine (HGE.out wr HS.out.sw.sk).mono ?_
      rintro e w3 ⟨rfl, hb⟩
      have HS3 := Lib.hid (HS.out.kept hb)
      clear hb HS
      obtain ⟨y0, y1, y2, y3⟩ := HS3.out.cells
      go_wp2_with fail
      refine (HRG.out w3 HS3.out.rs).mono ?_
      rintro e w4 ⟨rfl, hb⟩
      have HS4 := Lib.hid (HS3.out.kept hb)
      clear hb y0 y1 y2 y3 HS3
      obtain ⟨y0, y1, y2, y3⟩ := HS4.out.cells
      clear y1 y2 y3
      have HTX := Lib.hid (fun (W : World) (q : SK D L c0 c1 k W) => stexts_any D L c0 c1 k m W q (by have := HLL.out; omega))
      have htc := HTL.out
      subst htc
      have hlI : (L.length : Int) ≤ 9223372036854775807 := by have := HLL.out; omega
      by_cases hmm : 0 ≤ m ∧ m ≤ (L.length : Int)
      · obtain ⟨K, rfl⟩ : ∃ K : Nat, m = (K : Int) := ⟨m.toNat, by omega⟩
        have hK : K ≤ L.length := by omega
        have t1 : decide ((0 : Int) ≤ (K : Int)) = true := decide_eq_true (by omega)
        have t2 : decide ((K : Int) ≤ (L.length : Int)) = true := decide_eq_true (by omega)
        have t3 : decide (K ≤ L.length) = true := decide_eq_true hK
        have t4 : decide ((K : Int) ≥ 0) = true := decide_eq_true (by omega)
        rw [tx_some L K hK] at HTX
        obtain ⟨A2, hsl, hsn⟩ := sliceS_from ta L.length tc K hK HS4.out.rs.tl w4
        have HSN := Lib.hid (hsn w4 _ (rd_sln HS4.out.rs.t))
        have hsl2 : ∀ W : World, (Instr.slice 27 (.slice ta L.length tc) (some (.int .i64 (K : Int))) none none).run Tryd.prog W = .ok (.slice A2 (L.length - K) (tc - K)) W := fun W => by
          rw [run_slice_l W _ ta L.length tc und_ss .i64 K (by omega) (by omega), elem_ss, size_of_str]
          rw [run_slice_l w4 _ ta L.length tc und_ss .i64 K (by omega) (by omega), elem_ss, size_of_str] at hsl
          simp only [Result.andThen_ok] at hsl ⊢
          injection hsl with hsl _
          rw [hsl]
        have HKL := Lib.hid hK
        clear hsl hsn hmm hK
        go_wp2_with fail
        refine (HHS.out w4 HS4.out.sw.sk).mono ?_
        rintro e w' ⟨rfl, rfl⟩
        clear y0
        go_wp2_with fail
        refine (HTX.out w4 HS4.out.sw.sk).mono ?_
        rintro e w5 ⟨V, rfl, ho, hb⟩
        obtain ⟨A5, C5, rfl, hrd, _, _⟩ := ho.rd stC_len
        have HT5 := Lib.hid (rd_sln hrd)
        have HT6 := Lib.hid (HSN.out.later hb)
        have HS5 := Lib.hid (HS4.out.kept hb)
        rw [List.length_drop, List.length_map] at HT5 ⊢
        clear ho hb hrd HSN HS4
        go_wp2_with fail
        refine (same_texts A5 C5 A2 (tc - K) (L.length - K) _ w5 HT5.out HT6.out (by have := HLL.out; omega)).mono ?_
        rintro e w6 ⟨rfl, hb⟩
        have HS6 := Lib.hid (HS5.out.kept hb)
        clear hb HS5 HT5 HT6
        go_wp2_with fail
        refine (awake16_any w6 (HT.out.later HS6.out.sw.bel)).mono ?_
        rintro e w7 ⟨rfl, hb⟩
        have HS7 := Lib.hid (HS6.out.kept hb)
        clear hb HS6
        go_wp2_with fail
        go_ret
        exact ⟨rfl, HS7.out.sw.bel⟩
      · rw [tx_none L m hmm] at HTX
        have HGO : Hid (¬ 0 ≤ m ∨ 0 ≤ m ∧ ¬ m ≤ (L.length : Int)) := Lib.hid (by omega)
        clear hmm
        rcases HGO.out with h1 | ⟨h1, h2⟩
        · have t1 : decide ((0 : Int) ≤ m) = false := decide_eq_false h1
          have t4 : decide (m ≥ (0 : Int)) = false := decide_eq_false h1
          go_wp2_with fail
          refine (HHS.out w4 HS4.out.sw.sk).mono ?_
          rintro e w' ⟨rfl, rfl⟩
          clear y0
          go_wp2_with fail
          refine (HTX.out w4 HS4.out.sw.sk).mono ?_
          rintro e w5 ⟨V, rfl, ho, hb⟩
          obtain ⟨A5, C5, rfl, hrd, _, _⟩ := ho.rd stC_len
          have HT5 := Lib.hid (rd_sln hrd)
          have HS5 := Lib.hid (HS4.out.kept hb)
          clear ho hb hrd HS4
          go_wp2_with fail
          refine (same_texts A5 C5 none 0 0 [] w5 HT5.out ⟨rfl, fun h => absurd h (by decide)⟩ (by decide)).mono ?_
          rintro e w6 ⟨rfl, hb⟩
          have HS6 := Lib.hid (HS5.out.kept hb)
          clear hb HS5 HT5
          go_wp2_with fail
          refine (awake16_any w6 (HT.out.later HS6.out.sw.bel)).mono ?_
          rintro e w7 ⟨rfl, hb⟩
          have HS7 := Lib.hid (HS6.out.kept hb)
          clear hb HS6
          go_wp2_with fail
          go_ret
          exact ⟨rfl, HS7.out.sw.bel⟩
        · have t1 : decide ((0 : Int) ≤ m) = true := decide_eq_true h1
          have t4 : decide (m ≥ (0 : Int)) = true := decide_eq_true h1
          have t2 : decide (m ≤ (L.length : Int)) = false := decide_eq_false h2
          go_wp2_with fail
          refine (HHS.out w4 HS4.out.sw.sk).mono ?_
          rintro e w' ⟨rfl, rfl⟩
          clear y0
          go_wp2_with fail
          refine (HTX.out w4 HS4.out.sw.sk).mono ?_
          rintro e w5 ⟨V, rfl, ho, hb⟩
          obtain ⟨A5, C5, rfl, hrd, _, _⟩ := ho.rd stC_len
          have HT5 := Lib.hid (rd_sln hrd)
          have HS5 := Lib.hid (HS4.out.kept hb)
          clear ho hb hrd HS4
          go_wp2_with fail
          refine (same_texts A5 C5 none 0 0 [] w5 HT5.out ⟨rfl, fun h => absurd h (by decide)⟩ (by decide)).mono ?_
          rintro e w6 ⟨rfl, hb⟩
          have HS6 := Lib.hid (HS5.out.kept hb)
          clear hb HS5 HT5
          go_wp2_with fail
          refine (awake16_any w6 (HT.out.later HS6.out.sw.bel)).mono ?_
          rintro e w7 ⟨rfl, hb⟩
          have HS7 := Lib.hid (HS6.out.kept hb)
          clear hb HS6
          go_wp2_with fail
          go_ret
          exact ⟨rfl, HS7.out.sw.bel⟩
end Go.Proofs.YtpjpegmjcgkonaaDoor
