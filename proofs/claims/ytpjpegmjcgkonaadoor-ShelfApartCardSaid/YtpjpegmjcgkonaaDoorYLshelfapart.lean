/- P16.2: a copy is the same, and apart. Condition: the table that the program's text lays. -/
import Derived.Test.YtpjpegmjcgkonaaDoorG4
namespace Go.Proofs.YtpjpegmjcgkonaaDoor
open Go.RowKit Vi Hm

theorem rd_act {W : World} {b : Nat} (x : Aq) (h : W.heap[b]? = some (.cells #[.int .i64 x.1, .int .i64 x.2.1, .string x.2.2] 31 (0, 0))) : RdX acQ 3 W (some ⟨b, 0, none⟩) 1 [x] := by
  refine ⟨rfl, fun _ => ⟨b, 0, rfl, lt_of_block h, fun k y j u hk hu => ?_⟩⟩
  obtain rfl : k = 0 := by
    rcases Nat.eq_zero_or_pos k with q | q
    · exact q
    · rw [List.getElem?_eq_none (by simp; omega)] at hk; cases hk
  obtain rfl : x = y := by simpa using hk
  rw [cell_of_row _ _ _ _ _ _ h]
  have : j < 3 := by
    rcases Nat.lt_or_ge j 3 with q | q
    · exact q
    · rw [List.getElem?_eq_none (by simp [acQ]; omega)] at hu; cases hu
  rcases (by omega : j = 0 ∨ j = 1 ∨ j = 2) with rfl | rfl | rfl <;> simpa [acQ] using hu
set_option maxRecDepth 100000 in
set_option maxHeartbeats 8000000 in
theorem LShelfApart (A : Option Addr) (n c : Nat) (l : List Aq) (a : Aq) (u0 : World) (h : RdX acQ 3 u0 A n l) (hm : n ≤ maxLen) (hz : ∀ x ∈ l, x.2.2.size ≤ maxLen) (hz2 : a.2.2.size ≤ maxLen) (hT : HTab u0) :
    Calls Tryd.prog 5 #[.slice A n c, actv a.1 a.2.1 a.2.2] u0 fun e w' => e = .returned (.bool true) ∧ Below u0.heap.size u0 w' := by
  obtain ⟨ak, an, at0⟩ := a
  dsimp only at hz2 ⊢
  have hmI : (n : Int) ≤ 9223372036854775807 := by unfold maxLen at hm; omega
  have HB1 := Lib.hid ((Below.refl u0.heap.size u0).alloc (Nat.le_refl _) (.cells #[.int .i64 ak, .int .i64 an, .string at0] 31 (0, 0)))
  have HX1 := Lib.hid (blk_new u0 (.cells #[.int .i64 ak, .int .i64 an, .string at0] 31 (0, 0)))
  have HF := Lib.hid (few16_any A n c l (u0.alloc (.cells #[.int .i64 ak, .int .i64 an, .string at0] 31 (0, 0))) (h.alloc _) hm hz)
  have HAW := Lib.hid (awake16_any (u0.alloc (.cells #[.int .i64 ak, .int .i64 an, .string at0] 31 (0, 0))) (hT.later HB1.out))
  have HB2 := Lib.hid (HB1.out.alloc (by simp) (.cells #[.int .i64 ak, .int .i64 an, .string at0] 31 (0, 0)))
  have HF2 := Lib.hid (few16_any (some ⟨u0.heap.size + 1, 0, none⟩) 1 1 [(ak, an, at0)] ((u0.alloc (.cells #[.int .i64 ak, .int .i64 an, .string at0] 31 (0, 0))).alloc (.cells #[.int .i64 ak, .int .i64 an, .string at0] 31 (0, 0))) (rd_act (ak, an, at0) (blk_newN (W := u0.alloc (.cells #[.int .i64 ak, .int .i64 an, .string at0] 31 (0, 0))) (o := (.cells #[.int .i64 ak, .int .i64 an, .string at0] 31 (0, 0))) (by simp))) (by decide) (fun x hx => by obtain rfl : x = (ak, an, at0) := (by simpa using hx); exact hz2))
  have HAW2 := Lib.hid (awake16_any ((u0.alloc (.cells #[.int .i64 ak, .int .i64 an, .string at0] 31 (0, 0))).alloc (.cells #[.int .i64 ak, .int .i64 an, .string at0] 31 (0, 0))) (hT.later HB2.out))
  have H := Lib.hid (h.below HB2.out)
  have HT := Lib.hid (hT.later HB2.out)
  have HX2 := Lib.hid (blk_alloc HX1.out (.cells #[.int .i64 ak, .int .i64 an, .string at0] 31 (0, 0)))
  have q0 : (u0.alloc (.cells #[.int .i64 ak, .int .i64 an, .string at0] 31 (0, 0))).cell? ⟨u0.heap.size, 0, none⟩ = some (.int .i64 ak) := (cell_of_row _ _ 0 _ _ _ HX1.out).trans rfl
  have q1 : (u0.alloc (.cells #[.int .i64 ak, .int .i64 an, .string at0] 31 (0, 0))).cell? ⟨u0.heap.size, 1, none⟩ = some (.int .i64 an) := (cell_of_row _ _ 1 _ _ _ HX1.out).trans rfl
  have q2 : (u0.alloc (.cells #[.int .i64 ak, .int .i64 an, .string at0] 31 (0, 0))).cell? ⟨u0.heap.size, 2, none⟩ = some (.string at0) := (cell_of_row _ _ 2 _ _ _ HX1.out).trans rfl
  clear h hm hz hz2 hT
  go_enter Tryd.func5, Tryd.ntmps5
  go_wp2_with fail
  refine HF.out.mono ?_
  rintro e w0 ⟨b, rfl, hb, rfl⟩
  cases b with
  | false =>
    clear hb
    go_wp2_with fail
    refine HAW.out.mono ?_
    rintro e wz ⟨rfl, hb⟩
    have HBZ := Lib.hid (HB1.out.trans (hb.mono HB1.out.size))
    clear hb
    go_wp2_with fail
    go_ret
    exact ⟨rfl, HBZ.out⟩
  | true =>
  have HN40 := Lib.hid (hb rfl)
  clear hb HF
  go_wp2_with fail
  refine HF2.out.mono ?_
  rintro e w0 ⟨b, rfl, _, rfl⟩
  clear q0 q1 q2
  cases b with
  | false =>
    go_wp2_with fail
    refine HAW2.out.mono ?_
    rintro e wz ⟨rfl, hb⟩
    have HBZ := Lib.hid (HB2.out.trans (hb.mono HB2.out.size))
    clear hb
    go_wp2_with fail
    go_ret
    exact ⟨rfl, HBZ.out⟩
  | true =>
  clear HAW HAW2 HF2 HB1 HX1
  obtain ⟨w, hw⟩ : ∃ w, w = ((u0.alloc (.cells #[.int .i64 ak, .int .i64 an, .string at0] 31 (0, 0))).alloc (.cells #[.int .i64 ak, .int .i64 an, .string at0] 31 (0, 0))) := ⟨_, rfl⟩
  rw [← hw] at HB2 H HT HX2
  rw [← hw]
  clear hw
  have HWW := Lib.hid (Below.refl w.heap.size w)
  go_wp2_with fail
  refine (snew_any w).mono ?_
  rintro e w1 hr
  obtain ⟨D0, rfl, hs⟩ := NewS.sw HWW.out hr
  have HS1 := Lib.hid hs
  clear hr hs
  have HNy := Lib.hid (blk_new w1 (.cells #[.slice none 0 0, .slice none 0 0, .string ⟨#[]⟩, .string ⟨#[]⟩] 29 (0, 0)))
  have HBy := Lib.hid (HS1.out.bel.alloc HS1.out.sz (.cells #[.slice none 0 0, .slice none 0 0, .string ⟨#[]⟩, .string ⟨#[]⟩] 29 (0, 0)))
  have HIy := Lib.hid (show ∀ W : World, Below w1.heap.size w1 W → ¬ InS D0 W w1.heap.size from fun W hb q => absurd (HS1.out.sk.new (q.back hb HS1.out.sk.lt)) (Nat.lt_irrefl _))
  go_wp2_with (refine wpList_store_rowY rfl 29 (.tmp 6) (.tmp 24) rfl w1.heap.size #[.slice none 0 0, .slice none 0 0, .string ⟨#[]⟩, .string ⟨#[]⟩] rfl rfl 29 _ HNy.out (info_rs) rfl (by simp [Value.oneCell']) w1.heap.size w1 ((Below.refl _ _).alloc (Nat.le_refl _) _) (Nat.le_refl _) ?_)
  intro w2 hbk hoth hbel _
  have HQ1 := Lib.hid (show Sq w w1.heap.size D0 [] ⟨#[]⟩ ⟨#[]⟩ 0 none 0 0 none 0 0 w2 from ⟨HS1.out.below hbel.out, hbk.out, HIy.out _ hbel.out, ShR.nil _ _⟩)
  have HYW := Lib.hid (show w.heap.size ≤ w1.heap.size from HS1.out.sz)
  clear hbk hoth hbel HNy HBy HIy HS1
  generalize w1.heap.size = y at *
  go_wp2_with fail
  go_loopw [5, 27] (fun p i wr => ∃ (j D : Nat) (L : List Ob) (c0 c1 : ByteArray) (k : Nat) (ta : Option Addr) (tn tc : Nat) (sa : Option Addr) (sn sc : Nat), p = .pointer (some ⟨D, 0, none⟩) ∧ i = .int .i64 (j : Int) ∧ j ≤ n ∧ Inv L c0 c1 ∧ L.length ≤ j ∧ k ≤ 50 * j ∧ Sq w y D L c0 c1 k ta tn tc sa sn sc wr) (fun _ i _ => n - (intOf i).toNat)
  case atStart => exact ⟨0, D0, [], ⟨#[]⟩, ⟨#[]⟩, 0, none, 0, 0, none, 0, 0, rfl, rfl, Nat.zero_le _, Inv.nil, Nat.zero_le _, Nat.zero_le _, HQ1.out⟩
  case round =>
    obtain ⟨j, D, L, c0, c1, k, ta, tn, tc, sa, sn, sc, rfl, rfl, hj, hi, hl, hk, hs⟩ := hrel
    have HS := Lib.hid hs
    have HI := Lib.hid hi
    have HLK := Lib.hid (And.intro hl hk)
    clear hs hi hl hk HQ1
    by_cases hlt : j < n
    · have hd1 : decide ((j : Int) < (n : Int)) = true := decide_eq_true (by omega)
      have hi0 : (0 : Int) ≤ (j : Int) := by omega
      have hs1 : IntKind.i64.wrap ((j : Int) + 1) = (j : Int) + 1 := IntWalk.i64_in _ (by omega)
      obtain ⟨ba, oa2, hl1, rfl, hba, hca⟩ := (H.out.below HS.out.sw.bel).at hlt
      have g0 : wr.cell? ⟨ba, oa2 + j * 3, none⟩ = some (.int .i64 (l[j]'hl1).1) := by have q := hca 0 _ rfl; simpa using q
      have g1 := hca 1 (.int .i64 (l[j]'hl1).2.1) rfl
      have g2 := hca 2 (.string (l[j]'hl1).2.2) rfl
      obtain ⟨x, hx⟩ : ∃ x, x = l[j]'hl1 := ⟨_, rfl⟩
      rw [← hx] at g0 g1 g2
      clear hca hba hx hl1
      obtain ⟨kd, nn, t⟩ := x
      have HB0 := Lib.hid ((Below.refl wr.heap.size wr).alloc (Nat.le_refl _) (.cells #[.int .i64 0, .int .i64 0, .string ⟨#[]⟩] 31 (0, 0)))
      have HN0 := Lib.hid (blk_new wr (.cells #[.int .i64 0, .int .i64 0, .string ⟨#[]⟩] 31 (0, 0)))
      go_wp2_with (refine wpList_store_rowY rfl 31 (.tmp 8) (.tmp 30) rfl wr.heap.size #[.int .i64 kd, .int .i64 nn, .string t] rfl rfl 31 _ HN0.out (by kernel_rfl) rfl (by simp [Value.oneCell']) wr.heap.size wr HB0.out (Nat.le_refl _) ?_)
      intro w6 hbk hoth hbel _
      have HX6 := Lib.hid hbk.out
      have HS6 := Lib.hid (HS.out.kept hbel.out)
      clear hbk hoth hbel HB0 HN0 HS g0 g1 g2
      generalize wr.heap.size = z at *
      have x0 : w6.cell? ⟨z, 0, none⟩ = some (.int .i64 kd) := (cell_of_row _ _ 0 _ _ _ HX6.out).trans rfl
      have x1 : w6.cell? ⟨z, 1, none⟩ = some (.int .i64 nn) := (cell_of_row _ _ 1 _ _ _ HX6.out).trans rfl
      have x2 : w6.cell? ⟨z, 2, none⟩ = some (.string t) := (cell_of_row _ _ 2 _ _ _ HX6.out).trans rfl
      obtain ⟨y0, y1, y2, y3⟩ := HS6.out.cells
      have HD := Lib.hid (does_anyS w.heap.size w (fun b => b ≠ y) D L c0 c1 k kd nn t ta tn tc sa sn sc w6 HS6.out.sw HS6.out.rs (fun b hb => by have := lt_of_block HS6.out.bx; omega) HI.out (by have := HLK.out.1; have := HN40.out; omega) (by have := HLK.out.2; have := HN40.out; omega) HT.out (Nat.le_refl _))
      have HIA := Lib.hid (HI.out.act kd nn t)
      generalize actL L kd nn t = L' at HD HIA
      generalize actA L c0 c1 kd t = d0 at HD HIA
      generalize actB L c0 c1 kd t = d1 at HD HIA
      go_wp2_with fail
      refine HD.out.mono ?_
      rintro e w7 hq
      obtain ⟨D2, r1, r2, r3, r4, r5, r6, rfl, q1, q2, q3, q4⟩ := RetDoes.sq HS6.out hq
      have HW7 := Lib.hid q1
      have HR7 := Lib.hid q2
      have HY7 := Lib.hid q3
      have HN7 := Lib.hid q4
      clear hq q1 q2 q3 q4 x0 x1 x2 y0 y1 y2 y3 HD HX6 HS6
      go_wp2_with (refine wpList_store_rowY rfl 29 (.tmp 6) (.tmp 37) rfl y #[.slice r1 r2 r3, .slice r4 r5 r6, .string d0, .string d1] rfl rfl 29 _ HY7.out (info_rs) rfl (by simp [Value.oneCell']) w.heap.size w HW7.out.bel HYW.out ?_)
      intro w8 hbk hoth hbel _
      have HS8 := Lib.hid (Sq.put HW7.out HR7.out HN7.out hbk.out hoth.out hbel.out)
      clear hbk hoth hbel HW7 HR7 HY7 HN7
      go_wp2_with fail
      go_roundw
      case rel => exact ⟨j + 1, D2, L', d0, d1, k + 1 + L.length, r1, r2, r3, r4, r5, r6, rfl, by go_num, by omega, HIA.out.1, by have := HIA.out.2; have := HLK.out.1; omega, by have := HLK.out.1; have := HLK.out.2; have := HN40.out; omega, HS8.out⟩
      case measure => simp [intOf] <;> omega
    · have hd1 : decide ((j : Int) < (n : Int)) = false := decide_eq_false (by omega)
      have HLL := Lib.hid (show L.length ≤ 40000 from by have := HLK.out.1; have := HN40.out; omega)
      have HKK := Lib.hid (show k ≤ 10000 from by have := HLK.out.2; have := HN40.out; omega)
      go_wp2_with fail
      refine (scopy_any w.heap.size w D L c0 c1 k wr HS.out.sw (by have := HLL.out; omega)).mono ?_
      rintro e w3 ⟨D2, rfl, hs2, hs1⟩
      have HS3 := Lib.hid (HS.out.kept hs2.bel)
      have HC3 := Lib.hid (hs2.lift rfl HS.out.sw.bel HS.out.sw.sz)
      have HAP := Lib.hid (show ∀ b, InS D w3 b → ¬ InS D2 w3 b from fun b q1 q2 => absurd (HS.out.sw.sk.new (q1.back hs2.bel HS.out.sw.sk.lt)) (by have := hs2.far b q2; omega))
      have HY2 := Lib.hid (show ¬ InS D2 w3 y from fun q => absurd (lt_of_block HS.out.bx) (by have := hs2.far y q; omega))
      have HR3 := Lib.hid (show ShR (fun b => ¬ InS D2 w3 b ∧ ¬ InS D w3 b ∧ b ≠ y) L ta tn tc sa sn sc w3 from
        ((ShR.imp (P' := fun b => (¬ InS D wr b ∧ b ≠ y) ∧ b < wr.heap.size) HS.out.rs (fun b h1 h2 => ⟨h2, h1⟩)).below hs2.bel).imp fun b _ q => ⟨fun z => absurd (hs2.far b z) (by omega), fun z => q.1.1 (z.back hs2.bel HS.out.sw.sk.lt), q.1.2⟩)
      clear hs2 hs1 HS
      obtain ⟨y0, y1, y2, y3⟩ := HS3.out.cells
      have HSM := Lib.hid (ssame_any _ D2 L c0 c1 k ta tn tc sa sn sc w3 HC3.out.sk HR3.out HI.out HLL.out (by have := HKK.out; omega))
      go_wp2_with fail
      refine HSM.out.mono ?_
      rintro e w4 ⟨rfl, hb⟩
      have HS4 := Lib.hid (HS3.out.kept hb)
      have HC4 := Lib.hid (HC3.out.below hb)
      have HAP4 := Lib.hid (show ∀ b, InS D w4 b → ¬ InS D2 w4 b from fun b q1 q2 => HAP.out b (q1.back hb HS3.out.sw.sk.lt) (q2.back hb HC3.out.sk.lt))
      have HY4 := Lib.hid (show ¬ InS D2 w4 y from fun q => HY2.out (q.back hb HC3.out.sk.lt))
      have HR4 := Lib.hid ((HR3.out.below hb).imp (P' := fun b => ¬ InS D2 w4 b ∧ ¬ InS D w4 b ∧ b ≠ y) fun b _ q => ⟨fun z => q.1 (z.back hb HC3.out.sk.lt), fun z => q.2.1 (z.back hb HS3.out.sw.sk.lt), q.2.2⟩)
      clear hb y0 y1 y2 y3 HSM HS3 HC3 HAP HY2 HR3
      obtain ⟨y0, y1, y2, y3⟩ := HS4.out.cells
      have x0 : w4.cell? ⟨u0.heap.size, 0, none⟩ = some (.int .i64 ak) := (cell_of_row _ _ 0 _ _ _ (blk_below HX2.out HS4.out.sw.bel)).trans rfl
      have x1 : w4.cell? ⟨u0.heap.size, 1, none⟩ = some (.int .i64 an) := (cell_of_row _ _ 1 _ _ _ (blk_below HX2.out HS4.out.sw.bel)).trans rfl
      have x2 : w4.cell? ⟨u0.heap.size, 2, none⟩ = some (.string at0) := (cell_of_row _ _ 2 _ _ _ (blk_below HX2.out HS4.out.sw.bel)).trans rfl
      have HD := Lib.hid (does_anyS w.heap.size w (fun b => ¬ InS D w4 b ∧ b ≠ y) D2 L c0 c1 k ak an at0 ta tn tc sa sn sc w4 HC4.out HR4.out (fun b hb => ⟨fun q => absurd (HS4.out.sw.sk.new q) (by omega), by have := lt_of_block HS4.out.bx; omega⟩) HI.out HLL.out (by have := HKK.out; omega) HT.out (Nat.le_refl _))
      have HIA := Lib.hid (HI.out.act ak an at0)
      generalize actL L ak an at0 = L' at HD HIA
      generalize actA L c0 c1 ak at0 = d0 at HD HIA
      generalize actB L c0 c1 ak at0 = d1 at HD HIA
      go_wp2_with fail
      refine HD.out.mono ?_
      rintro e w5 ⟨D3, r1, r2, r3, r4, r5, r6, rfl, q1, q2, q3⟩
      have HC5 := Lib.hid q1
      have HK5 := Lib.hid (show SK D L c0 c1 k w5 from HS4.out.sw.sk.oth (fun b z => q3.block b (HS4.out.sw.sk.new z) (HAP4.out b z)))
      have HX5 := Lib.hid ((q3.block y (lt_of_block HS4.out.bx) HY4.out).trans HS4.out.bx)
      have HO5 := Lib.hid (ShR.blocks HR4.out (fun b h1 h2 => q3.block b h1 h2.1) q3.size)
      have HN5 := Lib.hid q2
      clear q1 q2 q3 x0 x1 x2 y0 y1 y2 y3 HD HS4 HC4 HR4 HAP4 HY4
      have HB0 := Lib.hid ((Below.refl w5.heap.size w5).alloc (Nat.le_refl _) (.cells #[.slice none 0 0, .slice none 0 0, .string ⟨#[]⟩, .string ⟨#[]⟩] 29 (0, 0)))
      have HN0 := Lib.hid (blk_new w5 (.cells #[.slice none 0 0, .slice none 0 0, .string ⟨#[]⟩, .string ⟨#[]⟩] 29 (0, 0)))
      go_wp2_with (refine wpList_store_rowY rfl 29 (.tmp 11) (.tmp 52) rfl w5.heap.size #[.slice r1 r2 r3, .slice r4 r5 r6, .string d0, .string d1] rfl rfl 29 _ HN0.out (info_rs) rfl (by simp [Value.oneCell']) w5.heap.size w5 HB0.out (Nat.le_refl _) ?_)
      intro w6 hbk hoth hbel _
      have HC6 := Lib.hid (HC5.out.below hbel.out)
      have HK6 := Lib.hid (HK5.out.kept hbel.out)
      have HX6 := Lib.hid (blk_below HX5.out hbel.out)
      have HO6 := Lib.hid (HO5.out.below hbel.out)
      have HN6 := Lib.hid (HN5.out.below hbel.out)
      have HZ6 := Lib.hid hbk.out
      clear hbk hoth hbel HB0 HN0 HC5 HK5 HX5 HO5 HN5
      generalize w5.heap.size = z at *
      have z0 : w6.cell? ⟨z, 0, none⟩ = some (.slice r1 r2 r3) := (cell_of_row _ _ 0 _ _ _ HZ6.out).trans rfl
      have z1 : w6.cell? ⟨z, 1, none⟩ = some (.slice r4 r5 r6) := (cell_of_row _ _ 1 _ _ _ HZ6.out).trans rfl
      have z2 : w6.cell? ⟨z, 2, none⟩ = some (.string d0) := (cell_of_row _ _ 2 _ _ _ HZ6.out).trans rfl
      have z3 : w6.cell? ⟨z, 3, none⟩ = some (.string d1) := (cell_of_row _ _ 3 _ _ _ HZ6.out).trans rfl
      have HSM := Lib.hid (ssame_any _ D3 L' d0 d1 (k + 1 + L.length) r1 r2 r3 r4 r5 r6 w6 HC6.out.sk HN6.out HIA.out.1 (by have := HIA.out.2; have := HLK.out.1; have := HN40.out; omega) (by have := HKK.out; have := HLL.out; omega))
      go_wp2_with fail
      refine HSM.out.mono ?_
      rintro e w7 ⟨rfl, hb⟩
      have HC7 := Lib.hid (HC6.out.below hb)
      have HK7 := Lib.hid (HK6.out.kept hb)
      have HX7 := Lib.hid (blk_below HX6.out hb)
      have HO7 := Lib.hid (HO6.out.below hb)
      clear hb z0 z1 z2 z3 HSM HC6 HK6 HX6 HO6 HN6 HZ6
      have z0 : w7.cell? ⟨y, 0, none⟩ = some (.slice ta tn tc) := (cell_of_row _ _ 0 _ _ _ HX7.out).trans rfl
      have z1 : w7.cell? ⟨y, 1, none⟩ = some (.slice sa sn sc) := (cell_of_row _ _ 1 _ _ _ HX7.out).trans rfl
      have z2 : w7.cell? ⟨y, 2, none⟩ = some (.string c0) := (cell_of_row _ _ 2 _ _ _ HX7.out).trans rfl
      have z3 : w7.cell? ⟨y, 3, none⟩ = some (.string c1) := (cell_of_row _ _ 3 _ _ _ HX7.out).trans rfl
      have HSM := Lib.hid (ssame_any _ D L c0 c1 k ta tn tc sa sn sc w7 HK7.out HO7.out HI.out HLL.out (by have := HKK.out; omega))
      go_wp2_with fail
      refine HSM.out.mono ?_
      rintro e w8 ⟨rfl, hb⟩
      have HC8 := Lib.hid (HC7.out.below hb)
      clear hb z0 z1 z2 z3 HSM HC7 HK7 HX7 HO7
      go_wp2_with fail
      refine (awake16_any w8 (HT.out.later HC8.out.bel)).mono ?_
      rintro e w9 ⟨rfl, hb⟩
      have HC9 := Lib.hid (HC8.out.below hb)
      clear hb HC8
      go_wp2_with fail
      go_ret
      exact ⟨rfl, HB2.out.trans (HC9.out.bel.mono HB2.out.size)⟩
end Go.Proofs.YtpjpegmjcgkonaaDoor
