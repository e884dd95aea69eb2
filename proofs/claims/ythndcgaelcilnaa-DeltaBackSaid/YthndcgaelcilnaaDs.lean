/- The contract of the document's Take of layer 11 over this translation. Condition: texts of fewer than a million bytes. -/
import Derived.Test.YthndcgaelcilnaaDt
import Derived.Test.YthndcgaelcilnaaQb
namespace Go.Proofs.Ythndcgaelcilnaa
open Go.RowKit Vi

theorem info_scD (a b c : Value) : (Try.prog.info? 146).map (·.size) = some (#[a, b, c] : Array Value).size := by kernel_rfl
theorem one_scD (S : ByteArray) (x y : Int) : (#[.string S, .int .i64 x, .int .i64 y] : Array Value).all (·.oneCell') = true := by simp [Value.oneCell']
theorem rnumD (S : ByteArray) (q : Nat) (er n v : Int) (q' : Nat) (e' : Int) (w : World) (hS : S.size ≤ 1000000) (hq : q ≤ S.size) (h0 : 0 ≤ n) (h1 : n ≤ 4294967296) (h : Rd.num S q er n = (v, q', e')) :
    Calls Try.prog 91 #[.agg #[.string S, .int .i64 (q : Int), .int .i64 er], .int .i64 n] w fun e w' => e = .returned (.tuple #[.agg #[.string S, .int .i64 (q' : Int), .int .i64 e'], .int .i64 v]) ∧ Below w.heap.size w w' := by
  have h1 := rNum_any S q er n w hS hq (by omega) (by omega)
  rw [h] at h1
  exact h1
theorem rfixD (S : ByteArray) (q : Nat) (er n : Int) (v : ByteArray) (q' : Nat) (e' : Int) (w : World) (hS : S.size ≤ 1000000) (hq : q ≤ S.size) (h0 : 0 ≤ n) (h1 : n ≤ 9223372036854775807) (h : Rd.fix S q er n = (v, q', e')) :
    Calls Try.prog 92 #[.agg #[.string S, .int .i64 (q : Int), .int .i64 er], .int .i64 n] w fun e w' => e = .returned (.tuple #[.agg #[.string S, .int .i64 (q' : Int), .int .i64 e'], .string v]) ∧ Below w.heap.size w w' := by
  have h1 := rFix_any S q er n w hS hq (by omega) (by omega)
  rw [h] at h1
  exact h1
theorem but_rowR {B : Nat} {w W W' : World} (h : But B w W) (hb : Below B W W') (ho : ∀ k, k ≠ B → W'.heap[k]? = W.heap[k]?) : But B w W' :=
  ⟨hb.os.trans h.os, hb.tape.trans h.tape, hb.output.trans h.output, Nat.le_trans h.size hb.size, fun i hi hne => (ho i (fun e => hne (by rw [e]))).trans (h.block i hi hne)⟩
set_option maxHeartbeats 8000000 in
set_option maxRecDepth 100000 in
theorem drtake_any (S : ByteArray) (w : World) (hS : S.size ≤ 999999) :
    Calls Try.prog 24 #[.string S] w (TakeP (.bool true) (.bool false) S w.heap.size w) := by
  go_enter Try.func24, Try.ntmps24
  go_wp2_with fail
  obtain ⟨B, hBe⟩ : ∃ B, B = w.heap.size := ⟨_, rfl⟩
  have HBE := Lib.hid hBe
  have HF0 := Lib.hid (blk_new w (.cells #[.string S, .int .i64 0, .int .i64 0] 146 (0, 0)))
  have HB0 := Lib.hid ((Below.refl w.heap.size w).alloc (Nat.le_refl _) (.cells #[.string S, .int .i64 0, .int .i64 0] 146 (0, 0)))
  rw [← hBe] at HF0 HB0 ⊢
  clear hBe
  go_loopw [4] (fun v wr => ∃ (l : List Pc) (q : Nat), wr.heap[B]? = some (.cells #[.string S, .int .i64 (q : Int), .int .i64 0] 146 (0, 0)) ∧ Rds S q l ∧ OwX pcC 4 26 wr (B + 1) v l ∧ Below B w wr) (fun v _ => S.size + 1 - slL v)
  case atStart => exact ⟨[], 0, HF0.out, Rds.nil S, OwX.nil _, HB0.out⟩
  case round =>
    obtain ⟨l, q, hbx, hrd, hox, hbel⟩ := hrel
    have hq := hrd.1
    have hlq := hrd.2.2.2
    have HF := Lib.hid hbx
    have HRD := Lib.hid hrd
    have HX := Lib.hid hox
    have HL := Lib.hid hbel
    have hBlt := lt_of_block hbx
    have HLN := Lib.hid hox.len
    clear hbx hrd hox hbel
    by_cases hlt : q < S.size
    · have hd1 : decide ((q : Int) < (S.size : Int)) = true := decide_eq_true (by omega)
      obtain ⟨p, q', e', hR⟩ : ∃ p q' e', rdp 4294967295 4294967295 S q = (p, q', e') := ⟨_, _, _, rfl⟩
      have HR := Lib.hid hR
      obtain ⟨v, q1, e1, hR1⟩ : ∃ v q1 e1, Rd.num S q 0 4294967295 = (v, q1, e1) := ⟨_, _, _, rfl⟩
      have hq1 := Rd.num_le S q 0 4294967295 hq
      have hv := Rd.num_bd S q 0 4294967295 (by omega)
      have H1 := Lib.hid (fun (W : World) => rnumD S q 0 4294967295 v q1 e1 W (by omega) hq (by omega) (by omega) hR1)
      rw [hR1] at hq1 hv
      dsimp only at hq1 hv
      obtain ⟨hv0, hv1⟩ := hv
      unfold rdp at hR
      rw [hR1] at hR
      dsimp only at hR
      have HL2 := Lib.hid (fun (W : World) (k : But B wr W) => But.below HL.out k (Nat.le_refl _) (by omega))
      by_cases hm : v % 2 = 1
      · rw [if_pos hm] at hR
        obtain ⟨a, q2, e2, hR2⟩ : ∃ a q2 e2, Rd.num S q1 e1 4294967295 = (a, q2, e2) := ⟨_, _, _, rfl⟩
        have H2 := Lib.hid (fun (W : World) => rnumD S q1 e1 4294967295 a q2 e2 W (by omega) hq1 (by omega) (by omega) hR2)
        rw [hR2] at hR
        simp only [Prod.mk.injEq] at hR
        obtain ⟨rfl, rfl, rfl⟩ := hR
        have hbt : (v % 2 == 1) = true := by rw [hm]; rfl
        clear hR1 hR2 hm
        by_cases he : e2 = 0
        · subst he
          cases hok : okP (true, a, (v / 2), ⟨#[]⟩) with
          | false =>
            have HN := Lib.hid (HRD.out.stuck (a := 4294967295) (b := 4294967295) (by omega) (by omega) hlt HR.out (Or.inr hok))
            have HI := Lib.hid (fun W : World => dis_any true a (v / 2) ⟨#[]⟩ false W hok)
            clear hok
            have HK1 := Lib.hid (But.refl B wr)
            have hc2 : wr.cell? ⟨B, 0, none⟩ = some (.string S) := by rw [cell_of_row _ _ _ _ _ _ HF.out]; rfl
            have hc3 : wr.cell? ⟨B, 1, none⟩ = some (.int .i64 (q : Int)) := by rw [cell_of_row _ _ _ _ _ _ HF.out]; rfl
            have hc4 : wr.cell? ⟨B, 2, none⟩ = some (.int .i64 0) := by rw [cell_of_row _ _ _ _ _ _ HF.out]; rfl
            go_wp2_with fail
            clear hc2 hc3 hc4
            refine (H1.out wr).mono ?_
            rintro e w1 ⟨rfl, hb1⟩
            have HF5 := Lib.hid (blk_below HF.out hb1)
            have HK6 := Lib.hid (HK1.out.trans (But.of_below hb1))
            clear hb1 HK1 HF
            have hk7 := HK6.out.size
            have hk8 : B < w1.heap.size := lt_of_block HF5.out
            have HF9 := Lib.hid (blk_alloc HF5.out (.cells #[.string S, .int .i64 (q1 : Int), .int .i64 e1] 146 (0, 0)))
            have HF10 := Lib.hid (blk_new w1 (.cells #[.string S, .int .i64 (q1 : Int), .int .i64 e1] 146 (0, 0)))
            have HK11 := Lib.hid (HK6.out.alloc (.cells #[.string S, .int .i64 (q1 : Int), .int .i64 e1] 146 (0, 0)))
            clear HK6
            go_upto_region 5 with (fail)
            go_wp2_with (first
              | refine wpList_store_rowY rfl 146 (.tmp 5) (.tmp 26) rfl (B) #[.string S, .int .i64 (q1 : Int), .int .i64 e1] rfl rfl 146 _ HF9.out (info_scD _ _ _) rfl (one_scD _ _ _) (B) (w1.alloc (.cells #[.string S, .int .i64 (q1 : Int), .int .i64 e1] 146 (0, 0))) (Below.refl _ _) (by omega) ?_
              | refine wpList_load_row rfl 146 (.tmp 6) rfl (w1.heap.size) rfl 146 #[.string S, .int .i64 (q1 : Int), .int .i64 e1] (0, 0) _ HF10.out Try.underlying146 rfl (info_scD _ _ _) ?_)
            intro W2 hbk hoth hbel _
            have HF12 := Lib.hid hbk.out
            have HF13 := Lib.hid (blk_oth HF10.out hoth.out (by omega))
            have HK14 := Lib.hid (but_rowR HK11.out hbel.out hoth.out)
            clear hbk hoth hbel HK11 HF9 HF10
            have hk15 := HK14.out.size
            have hk16 : B < W2.heap.size := lt_of_block HF12.out
            have hk17 : w1.heap.size < W2.heap.size := lt_of_block HF13.out
            have HF18 := Lib.hid (blk_alloc HF12.out (.cells #[.bool true, .int .i64 0, .int .i64 (v / 2), .string ⟨#[]⟩] 26 (0, 0)))
            have HF19 := Lib.hid (blk_alloc HF13.out (.cells #[.bool true, .int .i64 0, .int .i64 (v / 2), .string ⟨#[]⟩] 26 (0, 0)))
            have HF20 := Lib.hid (blk_new W2 (.cells #[.bool true, .int .i64 0, .int .i64 (v / 2), .string ⟨#[]⟩] 26 (0, 0)))
            have HK21 := Lib.hid (HK14.out.alloc (.cells #[.bool true, .int .i64 0, .int .i64 (v / 2), .string ⟨#[]⟩] 26 (0, 0)))
            clear HK14
            have hc22 : (W2.alloc (.cells #[.bool true, .int .i64 0, .int .i64 (v / 2), .string ⟨#[]⟩] 26 (0, 0))).cell? ⟨W2.heap.size, 0, none⟩ = some (.bool true) := by rw [cell_of_row _ _ _ _ _ _ HF20.out]; rfl
            have hc23 : (W2.alloc (.cells #[.bool true, .int .i64 0, .int .i64 (v / 2), .string ⟨#[]⟩] 26 (0, 0))).cell? ⟨W2.heap.size, 1, none⟩ = some (.int .i64 0) := by rw [cell_of_row _ _ _ _ _ _ HF20.out]; rfl
            have hc24 : (W2.alloc (.cells #[.bool true, .int .i64 0, .int .i64 (v / 2), .string ⟨#[]⟩] 26 (0, 0))).cell? ⟨W2.heap.size, 2, none⟩ = some (.int .i64 (v / 2)) := by rw [cell_of_row _ _ _ _ _ _ HF20.out]; rfl
            have hc25 : (W2.alloc (.cells #[.bool true, .int .i64 0, .int .i64 (v / 2), .string ⟨#[]⟩] 26 (0, 0))).cell? ⟨W2.heap.size, 3, none⟩ = some (.string ⟨#[]⟩) := by rw [cell_of_row _ _ _ _ _ _ HF20.out]; rfl
            have hc26 : (W2.alloc (.cells #[.bool true, .int .i64 0, .int .i64 (v / 2), .string ⟨#[]⟩] 26 (0, 0))).cell? ⟨B, 0, none⟩ = some (.string S) := by rw [cell_of_row _ _ _ _ _ _ HF18.out]; rfl
            have hc27 : W2.cell? ⟨B, 0, none⟩ = some (.string S) := by rw [cell_of_row _ _ _ _ _ _ HF12.out]; rfl
            have hc28 : (W2.alloc (.cells #[.bool true, .int .i64 0, .int .i64 (v / 2), .string ⟨#[]⟩] 26 (0, 0))).cell? ⟨B, 1, none⟩ = some (.int .i64 (q1 : Int)) := by rw [cell_of_row _ _ _ _ _ _ HF18.out]; rfl
            have hc29 : W2.cell? ⟨B, 1, none⟩ = some (.int .i64 (q1 : Int)) := by rw [cell_of_row _ _ _ _ _ _ HF12.out]; rfl
            have hc30 : (W2.alloc (.cells #[.bool true, .int .i64 0, .int .i64 (v / 2), .string ⟨#[]⟩] 26 (0, 0))).cell? ⟨B, 2, none⟩ = some (.int .i64 e1) := by rw [cell_of_row _ _ _ _ _ _ HF18.out]; rfl
            have hc31 : W2.cell? ⟨B, 2, none⟩ = some (.int .i64 e1) := by rw [cell_of_row _ _ _ _ _ _ HF12.out]; rfl
            have hl32 : B < W2.heap.size := lt_of_block HF12.out
            have hl33 : ¬ B = W2.heap.size := by omega
            go_wp2_with fail
            clear hc22 hc23 hc24 hc25 hc26 hc27 hc28 hc29 hc30 hc31 hl32 hl33
            refine (H2.out (W2.alloc (.cells #[.bool true, .int .i64 0, .int .i64 (v / 2), .string ⟨#[]⟩] 26 (0, 0)))).mono ?_
            rintro e w3 ⟨rfl, hb3⟩
            have HF34 := Lib.hid (blk_below HF18.out hb3)
            have HF35 := Lib.hid (blk_below HF19.out hb3)
            have HF36 := Lib.hid (blk_below HF20.out hb3)
            have HK37 := Lib.hid (HK21.out.trans (But.of_below hb3))
            clear hb3 HK21 HF18 HF12 HF19 HF13 HF20
            have hk38 := HK37.out.size
            have hk39 : B < w3.heap.size := lt_of_block HF34.out
            have hk40 : w1.heap.size < w3.heap.size := lt_of_block HF35.out
            have hk41 : W2.heap.size < w3.heap.size := lt_of_block HF36.out
            go_wp2_with (first
              | refine wpList_store_rowY rfl 146 (.tmp 5) (.tmp 38) rfl (B) #[.string S, .int .i64 (q2 : Int), .int .i64 0] rfl rfl 146 _ HF34.out (info_scD _ _ _) rfl (one_scD _ _ _) (B) w3 (Below.refl _ _) (by omega) ?_)
            intro W4 hbk hoth hbel _
            have HF42 := Lib.hid hbk.out
            have HF43 := Lib.hid (blk_oth HF35.out hoth.out (by omega))
            have HF44 := Lib.hid (blk_oth HF36.out hoth.out (by omega))
            have HK45 := Lib.hid (but_rowR HK37.out hbel.out hoth.out)
            clear hbk hoth hbel HK37 HF34 HF35 HF36
            have hk46 := HK45.out.size
            have hk47 : B < W4.heap.size := lt_of_block HF42.out
            have hk48 : w1.heap.size < W4.heap.size := lt_of_block HF43.out
            have hk49 : W2.heap.size < W4.heap.size := lt_of_block HF44.out
            have hc50 : W4.cell? ⟨W2.heap.size, 0, none⟩ = some (.bool true) := by rw [cell_of_row _ _ _ _ _ _ HF44.out]; rfl
            have hc51 : W4.cell? ⟨W2.heap.size, 1, none⟩ = some (.int .i64 0) := by rw [cell_of_row _ _ _ _ _ _ HF44.out]; rfl
            have hc52 : W4.cell? ⟨W2.heap.size, 2, none⟩ = some (.int .i64 (v / 2)) := by rw [cell_of_row _ _ _ _ _ _ HF44.out]; rfl
            have hc53 : W4.cell? ⟨W2.heap.size, 3, none⟩ = some (.string ⟨#[]⟩) := by rw [cell_of_row _ _ _ _ _ _ HF44.out]; rfl
            have hz54 : W4.frozen? ⟨W2.heap.size, 1, none⟩ = false := frozen_of_row _ _ _ _ _ HF44.out
            go_upto_region 10 with (fail)
            clear hc50 hc51 hc52 hc53 hz54
            have HF55 := Lib.hid (show (W4.setCell ⟨W2.heap.size, 1, none⟩ (.int .i64 a)).heap[B]? = some (.cells #[.string S, .int .i64 (q2 : Int), .int .i64 0] 146 (0, 0)) by rw [Below.heap_setCell _ _ _ _ (by show B ≠ W2.heap.size; omega)]; exact HF42.out)
            have HF56 := Lib.hid (show (W4.setCell ⟨W2.heap.size, 1, none⟩ (.int .i64 a)).heap[w1.heap.size]? = some (.cells #[.string S, .int .i64 (q1 : Int), .int .i64 e1] 146 (0, 0)) by rw [Below.heap_setCell _ _ _ _ (by show w1.heap.size ≠ W2.heap.size; omega)]; exact HF43.out)
            have HF57 := Lib.hid (show (W4.setCell ⟨W2.heap.size, 1, none⟩ (.int .i64 a)).heap[W2.heap.size]? = some (.cells #[.bool true, .int .i64 a, .int .i64 (v / 2), .string ⟨#[]⟩] 26 (0, 0)) by have h := heap_setCell_at (i := 1) (u := .int .i64 a) HF44.out; exact h)
            have HK58 := Lib.hid (HK45.out.setNew (b := W2.heap.size) (by omega) 1 (.int .i64 a))

            have hc59 : (W4.setCell ⟨W2.heap.size, 1, none⟩ (.int .i64 a)).cell? ⟨B, 0, none⟩ = some (.string S) := by rw [cell_of_row _ _ _ _ _ _ HF55.out]; rfl
            have hc60 : (W4.setCell ⟨W2.heap.size, 1, none⟩ (.int .i64 a)).cell? ⟨B, 1, none⟩ = some (.int .i64 (q2 : Int)) := by rw [cell_of_row _ _ _ _ _ _ HF55.out]; rfl
            have hc61 : (W4.setCell ⟨W2.heap.size, 1, none⟩ (.int .i64 a)).cell? ⟨B, 2, none⟩ = some (.int .i64 0) := by rw [cell_of_row _ _ _ _ _ _ HF55.out]; rfl
            have hc62 : (W4.setCell ⟨W2.heap.size, 1, none⟩ (.int .i64 a)).cell? ⟨W2.heap.size, 0, none⟩ = some (.bool true) := by rw [cell_of_row _ _ _ _ _ _ HF57.out]; rfl
            have hc63 : (W4.setCell ⟨W2.heap.size, 1, none⟩ (.int .i64 a)).cell? ⟨W2.heap.size, 1, none⟩ = some (.int .i64 a) := by rw [cell_of_row _ _ _ _ _ _ HF57.out]; rfl
            have hc64 : (W4.setCell ⟨W2.heap.size, 1, none⟩ (.int .i64 a)).cell? ⟨W2.heap.size, 2, none⟩ = some (.int .i64 (v / 2)) := by rw [cell_of_row _ _ _ _ _ _ HF57.out]; rfl
            have hc65 : (W4.setCell ⟨W2.heap.size, 1, none⟩ (.int .i64 a)).cell? ⟨W2.heap.size, 3, none⟩ = some (.string ⟨#[]⟩) := by rw [cell_of_row _ _ _ _ _ _ HF57.out]; rfl
            go_wp2_with fail
            clear hc59 hc60 hc61 hc62 hc63 hc64 hc65
            refine (HI.out (W4.setCell ⟨W2.heap.size, 1, none⟩ (.int .i64 a))).mono ?_
            rintro e w5 ⟨rfl, hb5⟩
            have HF66 := Lib.hid (blk_below HF55.out hb5)
            have HF67 := Lib.hid (blk_below HF56.out hb5)
            have HF68 := Lib.hid (blk_below HF57.out hb5)
            have HK69 := Lib.hid (HK58.out.trans (But.of_below hb5))
            clear hb5 HK58 HF55 HF56 HF57
            have hk70 := HK69.out.size
            have hk71 : B < w5.heap.size := lt_of_block HF66.out
            have hk72 : w1.heap.size < w5.heap.size := lt_of_block HF67.out
            have hk73 : W2.heap.size < w5.heap.size := lt_of_block HF68.out
            go_wp2_with fail
            go_ret2
            try rw [← HBE.out]
            exact Or.inr ⟨HN.out, rfl, HL2.out _ HK69.out, by have := HK69.out.size; omega⟩
          | true =>
            obtain ⟨hst, hqq⟩ := HRD.out.step HR.out hok
            have HST := Lib.hid hst
            have hq' := hst.1
            have HI := Lib.hid (fun W : World => dis_any true a (v / 2) ⟨#[]⟩ true W hok)
            clear hok hst
            have HK1 := Lib.hid (But.refl B wr)
            have hc2 : wr.cell? ⟨B, 0, none⟩ = some (.string S) := by rw [cell_of_row _ _ _ _ _ _ HF.out]; rfl
            have hc3 : wr.cell? ⟨B, 1, none⟩ = some (.int .i64 (q : Int)) := by rw [cell_of_row _ _ _ _ _ _ HF.out]; rfl
            have hc4 : wr.cell? ⟨B, 2, none⟩ = some (.int .i64 0) := by rw [cell_of_row _ _ _ _ _ _ HF.out]; rfl
            go_wp2_with fail
            clear hc2 hc3 hc4
            refine (H1.out wr).mono ?_
            rintro e w1 ⟨rfl, hb1⟩
            have HF5 := Lib.hid (blk_below HF.out hb1)
            have HK6 := Lib.hid (HK1.out.trans (But.of_below hb1))
            clear hb1 HK1 HF
            have hk7 := HK6.out.size
            have hk8 : B < w1.heap.size := lt_of_block HF5.out
            have HF9 := Lib.hid (blk_alloc HF5.out (.cells #[.string S, .int .i64 (q1 : Int), .int .i64 e1] 146 (0, 0)))
            have HF10 := Lib.hid (blk_new w1 (.cells #[.string S, .int .i64 (q1 : Int), .int .i64 e1] 146 (0, 0)))
            have HK11 := Lib.hid (HK6.out.alloc (.cells #[.string S, .int .i64 (q1 : Int), .int .i64 e1] 146 (0, 0)))
            clear HK6
            go_upto_region 5 with (fail)
            go_wp2_with (first
              | refine wpList_store_rowY rfl 146 (.tmp 5) (.tmp 26) rfl (B) #[.string S, .int .i64 (q1 : Int), .int .i64 e1] rfl rfl 146 _ HF9.out (info_scD _ _ _) rfl (one_scD _ _ _) (B) (w1.alloc (.cells #[.string S, .int .i64 (q1 : Int), .int .i64 e1] 146 (0, 0))) (Below.refl _ _) (by omega) ?_
              | refine wpList_load_row rfl 146 (.tmp 6) rfl (w1.heap.size) rfl 146 #[.string S, .int .i64 (q1 : Int), .int .i64 e1] (0, 0) _ HF10.out Try.underlying146 rfl (info_scD _ _ _) ?_)
            intro W2 hbk hoth hbel _
            have HF12 := Lib.hid hbk.out
            have HF13 := Lib.hid (blk_oth HF10.out hoth.out (by omega))
            have HK14 := Lib.hid (but_rowR HK11.out hbel.out hoth.out)
            clear hbk hoth hbel HK11 HF9 HF10
            have hk15 := HK14.out.size
            have hk16 : B < W2.heap.size := lt_of_block HF12.out
            have hk17 : w1.heap.size < W2.heap.size := lt_of_block HF13.out
            have HF18 := Lib.hid (blk_alloc HF12.out (.cells #[.bool true, .int .i64 0, .int .i64 (v / 2), .string ⟨#[]⟩] 26 (0, 0)))
            have HF19 := Lib.hid (blk_alloc HF13.out (.cells #[.bool true, .int .i64 0, .int .i64 (v / 2), .string ⟨#[]⟩] 26 (0, 0)))
            have HF20 := Lib.hid (blk_new W2 (.cells #[.bool true, .int .i64 0, .int .i64 (v / 2), .string ⟨#[]⟩] 26 (0, 0)))
            have HK21 := Lib.hid (HK14.out.alloc (.cells #[.bool true, .int .i64 0, .int .i64 (v / 2), .string ⟨#[]⟩] 26 (0, 0)))
            clear HK14
            have hc22 : (W2.alloc (.cells #[.bool true, .int .i64 0, .int .i64 (v / 2), .string ⟨#[]⟩] 26 (0, 0))).cell? ⟨W2.heap.size, 0, none⟩ = some (.bool true) := by rw [cell_of_row _ _ _ _ _ _ HF20.out]; rfl
            have hc23 : (W2.alloc (.cells #[.bool true, .int .i64 0, .int .i64 (v / 2), .string ⟨#[]⟩] 26 (0, 0))).cell? ⟨W2.heap.size, 1, none⟩ = some (.int .i64 0) := by rw [cell_of_row _ _ _ _ _ _ HF20.out]; rfl
            have hc24 : (W2.alloc (.cells #[.bool true, .int .i64 0, .int .i64 (v / 2), .string ⟨#[]⟩] 26 (0, 0))).cell? ⟨W2.heap.size, 2, none⟩ = some (.int .i64 (v / 2)) := by rw [cell_of_row _ _ _ _ _ _ HF20.out]; rfl
            have hc25 : (W2.alloc (.cells #[.bool true, .int .i64 0, .int .i64 (v / 2), .string ⟨#[]⟩] 26 (0, 0))).cell? ⟨W2.heap.size, 3, none⟩ = some (.string ⟨#[]⟩) := by rw [cell_of_row _ _ _ _ _ _ HF20.out]; rfl
            have hc26 : (W2.alloc (.cells #[.bool true, .int .i64 0, .int .i64 (v / 2), .string ⟨#[]⟩] 26 (0, 0))).cell? ⟨B, 0, none⟩ = some (.string S) := by rw [cell_of_row _ _ _ _ _ _ HF18.out]; rfl
            have hc27 : W2.cell? ⟨B, 0, none⟩ = some (.string S) := by rw [cell_of_row _ _ _ _ _ _ HF12.out]; rfl
            have hc28 : (W2.alloc (.cells #[.bool true, .int .i64 0, .int .i64 (v / 2), .string ⟨#[]⟩] 26 (0, 0))).cell? ⟨B, 1, none⟩ = some (.int .i64 (q1 : Int)) := by rw [cell_of_row _ _ _ _ _ _ HF18.out]; rfl
            have hc29 : W2.cell? ⟨B, 1, none⟩ = some (.int .i64 (q1 : Int)) := by rw [cell_of_row _ _ _ _ _ _ HF12.out]; rfl
            have hc30 : (W2.alloc (.cells #[.bool true, .int .i64 0, .int .i64 (v / 2), .string ⟨#[]⟩] 26 (0, 0))).cell? ⟨B, 2, none⟩ = some (.int .i64 e1) := by rw [cell_of_row _ _ _ _ _ _ HF18.out]; rfl
            have hc31 : W2.cell? ⟨B, 2, none⟩ = some (.int .i64 e1) := by rw [cell_of_row _ _ _ _ _ _ HF12.out]; rfl
            have hl32 : B < W2.heap.size := lt_of_block HF12.out
            have hl33 : ¬ B = W2.heap.size := by omega
            go_wp2_with fail
            clear hc22 hc23 hc24 hc25 hc26 hc27 hc28 hc29 hc30 hc31 hl32 hl33
            refine (H2.out (W2.alloc (.cells #[.bool true, .int .i64 0, .int .i64 (v / 2), .string ⟨#[]⟩] 26 (0, 0)))).mono ?_
            rintro e w3 ⟨rfl, hb3⟩
            have HF34 := Lib.hid (blk_below HF18.out hb3)
            have HF35 := Lib.hid (blk_below HF19.out hb3)
            have HF36 := Lib.hid (blk_below HF20.out hb3)
            have HK37 := Lib.hid (HK21.out.trans (But.of_below hb3))
            clear hb3 HK21 HF18 HF12 HF19 HF13 HF20
            have hk38 := HK37.out.size
            have hk39 : B < w3.heap.size := lt_of_block HF34.out
            have hk40 : w1.heap.size < w3.heap.size := lt_of_block HF35.out
            have hk41 : W2.heap.size < w3.heap.size := lt_of_block HF36.out
            go_wp2_with (first
              | refine wpList_store_rowY rfl 146 (.tmp 5) (.tmp 38) rfl (B) #[.string S, .int .i64 (q2 : Int), .int .i64 0] rfl rfl 146 _ HF34.out (info_scD _ _ _) rfl (one_scD _ _ _) (B) w3 (Below.refl _ _) (by omega) ?_)
            intro W4 hbk hoth hbel _
            have HF42 := Lib.hid hbk.out
            have HF43 := Lib.hid (blk_oth HF35.out hoth.out (by omega))
            have HF44 := Lib.hid (blk_oth HF36.out hoth.out (by omega))
            have HK45 := Lib.hid (but_rowR HK37.out hbel.out hoth.out)
            clear hbk hoth hbel HK37 HF34 HF35 HF36
            have hk46 := HK45.out.size
            have hk47 : B < W4.heap.size := lt_of_block HF42.out
            have hk48 : w1.heap.size < W4.heap.size := lt_of_block HF43.out
            have hk49 : W2.heap.size < W4.heap.size := lt_of_block HF44.out
            have hc50 : W4.cell? ⟨W2.heap.size, 0, none⟩ = some (.bool true) := by rw [cell_of_row _ _ _ _ _ _ HF44.out]; rfl
            have hc51 : W4.cell? ⟨W2.heap.size, 1, none⟩ = some (.int .i64 0) := by rw [cell_of_row _ _ _ _ _ _ HF44.out]; rfl
            have hc52 : W4.cell? ⟨W2.heap.size, 2, none⟩ = some (.int .i64 (v / 2)) := by rw [cell_of_row _ _ _ _ _ _ HF44.out]; rfl
            have hc53 : W4.cell? ⟨W2.heap.size, 3, none⟩ = some (.string ⟨#[]⟩) := by rw [cell_of_row _ _ _ _ _ _ HF44.out]; rfl
            have hz54 : W4.frozen? ⟨W2.heap.size, 1, none⟩ = false := frozen_of_row _ _ _ _ _ HF44.out
            go_upto_region 10 with (fail)
            clear hc50 hc51 hc52 hc53 hz54
            have HF55 := Lib.hid (show (W4.setCell ⟨W2.heap.size, 1, none⟩ (.int .i64 a)).heap[B]? = some (.cells #[.string S, .int .i64 (q2 : Int), .int .i64 0] 146 (0, 0)) by rw [Below.heap_setCell _ _ _ _ (by show B ≠ W2.heap.size; omega)]; exact HF42.out)
            have HF56 := Lib.hid (show (W4.setCell ⟨W2.heap.size, 1, none⟩ (.int .i64 a)).heap[w1.heap.size]? = some (.cells #[.string S, .int .i64 (q1 : Int), .int .i64 e1] 146 (0, 0)) by rw [Below.heap_setCell _ _ _ _ (by show w1.heap.size ≠ W2.heap.size; omega)]; exact HF43.out)
            have HF57 := Lib.hid (show (W4.setCell ⟨W2.heap.size, 1, none⟩ (.int .i64 a)).heap[W2.heap.size]? = some (.cells #[.bool true, .int .i64 a, .int .i64 (v / 2), .string ⟨#[]⟩] 26 (0, 0)) by have h := heap_setCell_at (i := 1) (u := .int .i64 a) HF44.out; exact h)
            have HK58 := Lib.hid (HK45.out.setNew (b := W2.heap.size) (by omega) 1 (.int .i64 a))

            have hc59 : (W4.setCell ⟨W2.heap.size, 1, none⟩ (.int .i64 a)).cell? ⟨B, 0, none⟩ = some (.string S) := by rw [cell_of_row _ _ _ _ _ _ HF55.out]; rfl
            have hc60 : (W4.setCell ⟨W2.heap.size, 1, none⟩ (.int .i64 a)).cell? ⟨B, 1, none⟩ = some (.int .i64 (q2 : Int)) := by rw [cell_of_row _ _ _ _ _ _ HF55.out]; rfl
            have hc61 : (W4.setCell ⟨W2.heap.size, 1, none⟩ (.int .i64 a)).cell? ⟨B, 2, none⟩ = some (.int .i64 0) := by rw [cell_of_row _ _ _ _ _ _ HF55.out]; rfl
            have hc62 : (W4.setCell ⟨W2.heap.size, 1, none⟩ (.int .i64 a)).cell? ⟨W2.heap.size, 0, none⟩ = some (.bool true) := by rw [cell_of_row _ _ _ _ _ _ HF57.out]; rfl
            have hc63 : (W4.setCell ⟨W2.heap.size, 1, none⟩ (.int .i64 a)).cell? ⟨W2.heap.size, 1, none⟩ = some (.int .i64 a) := by rw [cell_of_row _ _ _ _ _ _ HF57.out]; rfl
            have hc64 : (W4.setCell ⟨W2.heap.size, 1, none⟩ (.int .i64 a)).cell? ⟨W2.heap.size, 2, none⟩ = some (.int .i64 (v / 2)) := by rw [cell_of_row _ _ _ _ _ _ HF57.out]; rfl
            have hc65 : (W4.setCell ⟨W2.heap.size, 1, none⟩ (.int .i64 a)).cell? ⟨W2.heap.size, 3, none⟩ = some (.string ⟨#[]⟩) := by rw [cell_of_row _ _ _ _ _ _ HF57.out]; rfl
            go_wp2_with fail
            clear hc59 hc60 hc61 hc62 hc63 hc64 hc65
            refine (HI.out (W4.setCell ⟨W2.heap.size, 1, none⟩ (.int .i64 a))).mono ?_
            rintro e w5 ⟨rfl, hb5⟩
            have HF66 := Lib.hid (blk_below HF55.out hb5)
            have HF67 := Lib.hid (blk_below HF56.out hb5)
            have HF68 := Lib.hid (blk_below HF57.out hb5)
            have HK69 := Lib.hid (HK58.out.trans (But.of_below hb5))
            clear hb5 HK58 HF55 HF56 HF57
            have hk70 := HK69.out.size
            have hk71 : B < w5.heap.size := lt_of_block HF66.out
            have hk72 : w1.heap.size < w5.heap.size := lt_of_block HF67.out
            have hk73 : W2.heap.size < w5.heap.size := lt_of_block HF68.out
            have hc74 : w5.cell? ⟨W2.heap.size, 0, none⟩ = some (.bool true) := by rw [cell_of_row _ _ _ _ _ _ HF68.out]; rfl
            have hc75 : w5.cell? ⟨W2.heap.size, 1, none⟩ = some (.int .i64 a) := by rw [cell_of_row _ _ _ _ _ _ HF68.out]; rfl
            have hc76 : w5.cell? ⟨W2.heap.size, 2, none⟩ = some (.int .i64 (v / 2)) := by rw [cell_of_row _ _ _ _ _ _ HF68.out]; rfl
            have hc77 : w5.cell? ⟨W2.heap.size, 3, none⟩ = some (.string ⟨#[]⟩) := by rw [cell_of_row _ _ _ _ _ _ HF68.out]; rfl
            have HX9 := Lib.hid (HX.out.but HK69.out)
            have HR9 := Lib.hid (Below.refl (B + 1) w5)
            go_wp2_with (at_builtin; refine wpList_appX rfl (.tmp 57) (.tmp 59) 22 26 _ 40 rfl Try.underlying22 info_pc rfl (by omega) (by omega) pcC_len pcC_one (B + 1) w5 (HR9.out.alloc (by omega) _) (by simp; omega) _ l rfl (HX9.out.alloc _) w5.heap.size 1 (true, a, (v / 2), ⟨#[]⟩) #[.bool true, .int .i64 a, .int .i64 (v / 2), .string ⟨#[]⟩] 26 (0, 0) rfl (heap_alloc_new w5 _) rfl (by omega) ?_)
            intro v4 w4 HO4 HB4 HZ4 HG4
            clear hc74 hc75 hc76 hc77
            have HS4 := Lib.hid ((HB4.out.block B (by omega)).trans HF66.out)
            have HL4 := Lib.hid ((HL2.out _ HK69.out).trans (HB4.out.mono (by omega)))
            have HN4 := Lib.hid HO4.out.len
            have hl4 : slL v4 = l.length + 1 := by rw [HN4.out]; simp
            have hl5 := HLN.out
            go_wp2_with fail
            go_roundw
            case rel => exact ⟨_, q2, HS4.out, HST.out, HO4.out, HL4.out⟩
            case measure => omega
        · have hne : (e2 != 0) = true := by simpa using he
          have HN := Lib.hid (HRD.out.stuck (a := 4294967295) (b := 4294967295) (by omega) (by omega) hlt HR.out (Or.inl he))
          clear he
          have HK1 := Lib.hid (But.refl B wr)
          have hc2 : wr.cell? ⟨B, 0, none⟩ = some (.string S) := by rw [cell_of_row _ _ _ _ _ _ HF.out]; rfl
          have hc3 : wr.cell? ⟨B, 1, none⟩ = some (.int .i64 (q : Int)) := by rw [cell_of_row _ _ _ _ _ _ HF.out]; rfl
          have hc4 : wr.cell? ⟨B, 2, none⟩ = some (.int .i64 0) := by rw [cell_of_row _ _ _ _ _ _ HF.out]; rfl
          go_wp2_with fail
          clear hc2 hc3 hc4
          refine (H1.out wr).mono ?_
          rintro e w1 ⟨rfl, hb1⟩
          have HF5 := Lib.hid (blk_below HF.out hb1)
          have HK6 := Lib.hid (HK1.out.trans (But.of_below hb1))
          clear hb1 HK1 HF
          have hk7 := HK6.out.size
          have hk8 : B < w1.heap.size := lt_of_block HF5.out
          have HF9 := Lib.hid (blk_alloc HF5.out (.cells #[.string S, .int .i64 (q1 : Int), .int .i64 e1] 146 (0, 0)))
          have HF10 := Lib.hid (blk_new w1 (.cells #[.string S, .int .i64 (q1 : Int), .int .i64 e1] 146 (0, 0)))
          have HK11 := Lib.hid (HK6.out.alloc (.cells #[.string S, .int .i64 (q1 : Int), .int .i64 e1] 146 (0, 0)))
          clear HK6
          go_upto_region 5 with (fail)
          go_wp2_with (first
            | refine wpList_store_rowY rfl 146 (.tmp 5) (.tmp 26) rfl (B) #[.string S, .int .i64 (q1 : Int), .int .i64 e1] rfl rfl 146 _ HF9.out (info_scD _ _ _) rfl (one_scD _ _ _) (B) (w1.alloc (.cells #[.string S, .int .i64 (q1 : Int), .int .i64 e1] 146 (0, 0))) (Below.refl _ _) (by omega) ?_
            | refine wpList_load_row rfl 146 (.tmp 6) rfl (w1.heap.size) rfl 146 #[.string S, .int .i64 (q1 : Int), .int .i64 e1] (0, 0) _ HF10.out Try.underlying146 rfl (info_scD _ _ _) ?_)
          intro W2 hbk hoth hbel _
          have HF12 := Lib.hid hbk.out
          have HF13 := Lib.hid (blk_oth HF10.out hoth.out (by omega))
          have HK14 := Lib.hid (but_rowR HK11.out hbel.out hoth.out)
          clear hbk hoth hbel HK11 HF9 HF10
          have hk15 := HK14.out.size
          have hk16 : B < W2.heap.size := lt_of_block HF12.out
          have hk17 : w1.heap.size < W2.heap.size := lt_of_block HF13.out
          have HF18 := Lib.hid (blk_alloc HF12.out (.cells #[.bool true, .int .i64 0, .int .i64 (v / 2), .string ⟨#[]⟩] 26 (0, 0)))
          have HF19 := Lib.hid (blk_alloc HF13.out (.cells #[.bool true, .int .i64 0, .int .i64 (v / 2), .string ⟨#[]⟩] 26 (0, 0)))
          have HF20 := Lib.hid (blk_new W2 (.cells #[.bool true, .int .i64 0, .int .i64 (v / 2), .string ⟨#[]⟩] 26 (0, 0)))
          have HK21 := Lib.hid (HK14.out.alloc (.cells #[.bool true, .int .i64 0, .int .i64 (v / 2), .string ⟨#[]⟩] 26 (0, 0)))
          clear HK14
          have hc22 : (W2.alloc (.cells #[.bool true, .int .i64 0, .int .i64 (v / 2), .string ⟨#[]⟩] 26 (0, 0))).cell? ⟨W2.heap.size, 0, none⟩ = some (.bool true) := by rw [cell_of_row _ _ _ _ _ _ HF20.out]; rfl
          have hc23 : (W2.alloc (.cells #[.bool true, .int .i64 0, .int .i64 (v / 2), .string ⟨#[]⟩] 26 (0, 0))).cell? ⟨W2.heap.size, 1, none⟩ = some (.int .i64 0) := by rw [cell_of_row _ _ _ _ _ _ HF20.out]; rfl
          have hc24 : (W2.alloc (.cells #[.bool true, .int .i64 0, .int .i64 (v / 2), .string ⟨#[]⟩] 26 (0, 0))).cell? ⟨W2.heap.size, 2, none⟩ = some (.int .i64 (v / 2)) := by rw [cell_of_row _ _ _ _ _ _ HF20.out]; rfl
          have hc25 : (W2.alloc (.cells #[.bool true, .int .i64 0, .int .i64 (v / 2), .string ⟨#[]⟩] 26 (0, 0))).cell? ⟨W2.heap.size, 3, none⟩ = some (.string ⟨#[]⟩) := by rw [cell_of_row _ _ _ _ _ _ HF20.out]; rfl
          have hc26 : (W2.alloc (.cells #[.bool true, .int .i64 0, .int .i64 (v / 2), .string ⟨#[]⟩] 26 (0, 0))).cell? ⟨B, 0, none⟩ = some (.string S) := by rw [cell_of_row _ _ _ _ _ _ HF18.out]; rfl
          have hc27 : W2.cell? ⟨B, 0, none⟩ = some (.string S) := by rw [cell_of_row _ _ _ _ _ _ HF12.out]; rfl
          have hc28 : (W2.alloc (.cells #[.bool true, .int .i64 0, .int .i64 (v / 2), .string ⟨#[]⟩] 26 (0, 0))).cell? ⟨B, 1, none⟩ = some (.int .i64 (q1 : Int)) := by rw [cell_of_row _ _ _ _ _ _ HF18.out]; rfl
          have hc29 : W2.cell? ⟨B, 1, none⟩ = some (.int .i64 (q1 : Int)) := by rw [cell_of_row _ _ _ _ _ _ HF12.out]; rfl
          have hc30 : (W2.alloc (.cells #[.bool true, .int .i64 0, .int .i64 (v / 2), .string ⟨#[]⟩] 26 (0, 0))).cell? ⟨B, 2, none⟩ = some (.int .i64 e1) := by rw [cell_of_row _ _ _ _ _ _ HF18.out]; rfl
          have hc31 : W2.cell? ⟨B, 2, none⟩ = some (.int .i64 e1) := by rw [cell_of_row _ _ _ _ _ _ HF12.out]; rfl
          have hl32 : B < W2.heap.size := lt_of_block HF12.out
          have hl33 : ¬ B = W2.heap.size := by omega
          go_wp2_with fail
          clear hc22 hc23 hc24 hc25 hc26 hc27 hc28 hc29 hc30 hc31 hl32 hl33
          refine (H2.out (W2.alloc (.cells #[.bool true, .int .i64 0, .int .i64 (v / 2), .string ⟨#[]⟩] 26 (0, 0)))).mono ?_
          rintro e w3 ⟨rfl, hb3⟩
          have HF34 := Lib.hid (blk_below HF18.out hb3)
          have HF35 := Lib.hid (blk_below HF19.out hb3)
          have HF36 := Lib.hid (blk_below HF20.out hb3)
          have HK37 := Lib.hid (HK21.out.trans (But.of_below hb3))
          clear hb3 HK21 HF18 HF12 HF19 HF13 HF20
          have hk38 := HK37.out.size
          have hk39 : B < w3.heap.size := lt_of_block HF34.out
          have hk40 : w1.heap.size < w3.heap.size := lt_of_block HF35.out
          have hk41 : W2.heap.size < w3.heap.size := lt_of_block HF36.out
          go_wp2_with (first
            | refine wpList_store_rowY rfl 146 (.tmp 5) (.tmp 38) rfl (B) #[.string S, .int .i64 (q2 : Int), .int .i64 e2] rfl rfl 146 _ HF34.out (info_scD _ _ _) rfl (one_scD _ _ _) (B) w3 (Below.refl _ _) (by omega) ?_)
          intro W4 hbk hoth hbel _
          have HF42 := Lib.hid hbk.out
          have HF43 := Lib.hid (blk_oth HF35.out hoth.out (by omega))
          have HF44 := Lib.hid (blk_oth HF36.out hoth.out (by omega))
          have HK45 := Lib.hid (but_rowR HK37.out hbel.out hoth.out)
          clear hbk hoth hbel HK37 HF34 HF35 HF36
          have hk46 := HK45.out.size
          have hk47 : B < W4.heap.size := lt_of_block HF42.out
          have hk48 : w1.heap.size < W4.heap.size := lt_of_block HF43.out
          have hk49 : W2.heap.size < W4.heap.size := lt_of_block HF44.out
          have hc50 : W4.cell? ⟨W2.heap.size, 0, none⟩ = some (.bool true) := by rw [cell_of_row _ _ _ _ _ _ HF44.out]; rfl
          have hc51 : W4.cell? ⟨W2.heap.size, 1, none⟩ = some (.int .i64 0) := by rw [cell_of_row _ _ _ _ _ _ HF44.out]; rfl
          have hc52 : W4.cell? ⟨W2.heap.size, 2, none⟩ = some (.int .i64 (v / 2)) := by rw [cell_of_row _ _ _ _ _ _ HF44.out]; rfl
          have hc53 : W4.cell? ⟨W2.heap.size, 3, none⟩ = some (.string ⟨#[]⟩) := by rw [cell_of_row _ _ _ _ _ _ HF44.out]; rfl
          have hz54 : W4.frozen? ⟨W2.heap.size, 1, none⟩ = false := frozen_of_row _ _ _ _ _ HF44.out
          go_upto_region 10 with (fail)
          clear hc50 hc51 hc52 hc53 hz54
          have HF55 := Lib.hid (show (W4.setCell ⟨W2.heap.size, 1, none⟩ (.int .i64 a)).heap[B]? = some (.cells #[.string S, .int .i64 (q2 : Int), .int .i64 e2] 146 (0, 0)) by rw [Below.heap_setCell _ _ _ _ (by show B ≠ W2.heap.size; omega)]; exact HF42.out)
          have HF56 := Lib.hid (show (W4.setCell ⟨W2.heap.size, 1, none⟩ (.int .i64 a)).heap[w1.heap.size]? = some (.cells #[.string S, .int .i64 (q1 : Int), .int .i64 e1] 146 (0, 0)) by rw [Below.heap_setCell _ _ _ _ (by show w1.heap.size ≠ W2.heap.size; omega)]; exact HF43.out)
          have HF57 := Lib.hid (show (W4.setCell ⟨W2.heap.size, 1, none⟩ (.int .i64 a)).heap[W2.heap.size]? = some (.cells #[.bool true, .int .i64 a, .int .i64 (v / 2), .string ⟨#[]⟩] 26 (0, 0)) by have h := heap_setCell_at (i := 1) (u := .int .i64 a) HF44.out; exact h)
          have HK58 := Lib.hid (HK45.out.setNew (b := W2.heap.size) (by omega) 1 (.int .i64 a))

          have hc59 : (W4.setCell ⟨W2.heap.size, 1, none⟩ (.int .i64 a)).cell? ⟨B, 0, none⟩ = some (.string S) := by rw [cell_of_row _ _ _ _ _ _ HF55.out]; rfl
          have hc60 : (W4.setCell ⟨W2.heap.size, 1, none⟩ (.int .i64 a)).cell? ⟨B, 1, none⟩ = some (.int .i64 (q2 : Int)) := by rw [cell_of_row _ _ _ _ _ _ HF55.out]; rfl
          have hc61 : (W4.setCell ⟨W2.heap.size, 1, none⟩ (.int .i64 a)).cell? ⟨B, 2, none⟩ = some (.int .i64 e2) := by rw [cell_of_row _ _ _ _ _ _ HF55.out]; rfl
          go_wp2_with fail
          clear hc59 hc60 hc61
          go_ret2
          try rw [← HBE.out]
          exact Or.inr ⟨HN.out, rfl, HL2.out _ HK58.out, by have := HK58.out.size; omega⟩
      · rw [if_neg hm] at hR
        obtain ⟨o, q2, e2, hR2⟩ : ∃ a q2 e2, Rd.fix S q1 e1 (v / 2) = (a, q2, e2) := ⟨_, _, _, rfl⟩
        have H2 := Lib.hid (fun (W : World) => rfixD S q1 e1 (v / 2) o q2 e2 W (by omega) hq1 (by omega) (by omega) hR2)
        rw [hR2] at hR
        simp only [Prod.mk.injEq] at hR
        obtain ⟨rfl, rfl, rfl⟩ := hR
        have hbt : (v % 2 == 1) = false := by simpa using hm
        clear hR1 hR2 hm
        by_cases he : e2 = 0
        · subst he
          cases hok : okP (false, 0, (v / 2), o) with
          | false =>
            have HN := Lib.hid (HRD.out.stuck (a := 4294967295) (b := 4294967295) (by omega) (by omega) hlt HR.out (Or.inr hok))
            have HI := Lib.hid (fun W : World => dis_any false 0 (v / 2) o false W hok)
            clear hok
            have HK1 := Lib.hid (But.refl B wr)
            have hc2 : wr.cell? ⟨B, 0, none⟩ = some (.string S) := by rw [cell_of_row _ _ _ _ _ _ HF.out]; rfl
            have hc3 : wr.cell? ⟨B, 1, none⟩ = some (.int .i64 (q : Int)) := by rw [cell_of_row _ _ _ _ _ _ HF.out]; rfl
            have hc4 : wr.cell? ⟨B, 2, none⟩ = some (.int .i64 0) := by rw [cell_of_row _ _ _ _ _ _ HF.out]; rfl
            go_wp2_with fail
            clear hc2 hc3 hc4
            refine (H1.out wr).mono ?_
            rintro e w1 ⟨rfl, hb1⟩
            have HF5 := Lib.hid (blk_below HF.out hb1)
            have HK6 := Lib.hid (HK1.out.trans (But.of_below hb1))
            clear hb1 HK1 HF
            have hk7 := HK6.out.size
            have hk8 : B < w1.heap.size := lt_of_block HF5.out
            have HF9 := Lib.hid (blk_alloc HF5.out (.cells #[.string S, .int .i64 (q1 : Int), .int .i64 e1] 146 (0, 0)))
            have HF10 := Lib.hid (blk_new w1 (.cells #[.string S, .int .i64 (q1 : Int), .int .i64 e1] 146 (0, 0)))
            have HK11 := Lib.hid (HK6.out.alloc (.cells #[.string S, .int .i64 (q1 : Int), .int .i64 e1] 146 (0, 0)))
            clear HK6
            go_upto_region 5 with (fail)
            go_wp2_with (first
              | refine wpList_store_rowY rfl 146 (.tmp 5) (.tmp 26) rfl (B) #[.string S, .int .i64 (q1 : Int), .int .i64 e1] rfl rfl 146 _ HF9.out (info_scD _ _ _) rfl (one_scD _ _ _) (B) (w1.alloc (.cells #[.string S, .int .i64 (q1 : Int), .int .i64 e1] 146 (0, 0))) (Below.refl _ _) (by omega) ?_
              | refine wpList_load_row rfl 146 (.tmp 6) rfl (w1.heap.size) rfl 146 #[.string S, .int .i64 (q1 : Int), .int .i64 e1] (0, 0) _ HF10.out Try.underlying146 rfl (info_scD _ _ _) ?_)
            intro W2 hbk hoth hbel _
            have HF12 := Lib.hid hbk.out
            have HF13 := Lib.hid (blk_oth HF10.out hoth.out (by omega))
            have HK14 := Lib.hid (but_rowR HK11.out hbel.out hoth.out)
            clear hbk hoth hbel HK11 HF9 HF10
            have hk15 := HK14.out.size
            have hk16 : B < W2.heap.size := lt_of_block HF12.out
            have hk17 : w1.heap.size < W2.heap.size := lt_of_block HF13.out
            have HF18 := Lib.hid (blk_alloc HF12.out (.cells #[.bool false, .int .i64 0, .int .i64 (v / 2), .string ⟨#[]⟩] 26 (0, 0)))
            have HF19 := Lib.hid (blk_alloc HF13.out (.cells #[.bool false, .int .i64 0, .int .i64 (v / 2), .string ⟨#[]⟩] 26 (0, 0)))
            have HF20 := Lib.hid (blk_new W2 (.cells #[.bool false, .int .i64 0, .int .i64 (v / 2), .string ⟨#[]⟩] 26 (0, 0)))
            have HK21 := Lib.hid (HK14.out.alloc (.cells #[.bool false, .int .i64 0, .int .i64 (v / 2), .string ⟨#[]⟩] 26 (0, 0)))
            clear HK14
            have hc22 : (W2.alloc (.cells #[.bool false, .int .i64 0, .int .i64 (v / 2), .string ⟨#[]⟩] 26 (0, 0))).cell? ⟨W2.heap.size, 0, none⟩ = some (.bool false) := by rw [cell_of_row _ _ _ _ _ _ HF20.out]; rfl
            have hc23 : (W2.alloc (.cells #[.bool false, .int .i64 0, .int .i64 (v / 2), .string ⟨#[]⟩] 26 (0, 0))).cell? ⟨W2.heap.size, 1, none⟩ = some (.int .i64 0) := by rw [cell_of_row _ _ _ _ _ _ HF20.out]; rfl
            have hc24 : (W2.alloc (.cells #[.bool false, .int .i64 0, .int .i64 (v / 2), .string ⟨#[]⟩] 26 (0, 0))).cell? ⟨W2.heap.size, 2, none⟩ = some (.int .i64 (v / 2)) := by rw [cell_of_row _ _ _ _ _ _ HF20.out]; rfl
            have hc25 : (W2.alloc (.cells #[.bool false, .int .i64 0, .int .i64 (v / 2), .string ⟨#[]⟩] 26 (0, 0))).cell? ⟨W2.heap.size, 3, none⟩ = some (.string ⟨#[]⟩) := by rw [cell_of_row _ _ _ _ _ _ HF20.out]; rfl
            have hc26 : (W2.alloc (.cells #[.bool false, .int .i64 0, .int .i64 (v / 2), .string ⟨#[]⟩] 26 (0, 0))).cell? ⟨B, 0, none⟩ = some (.string S) := by rw [cell_of_row _ _ _ _ _ _ HF18.out]; rfl
            have hc27 : W2.cell? ⟨B, 0, none⟩ = some (.string S) := by rw [cell_of_row _ _ _ _ _ _ HF12.out]; rfl
            have hc28 : (W2.alloc (.cells #[.bool false, .int .i64 0, .int .i64 (v / 2), .string ⟨#[]⟩] 26 (0, 0))).cell? ⟨B, 1, none⟩ = some (.int .i64 (q1 : Int)) := by rw [cell_of_row _ _ _ _ _ _ HF18.out]; rfl
            have hc29 : W2.cell? ⟨B, 1, none⟩ = some (.int .i64 (q1 : Int)) := by rw [cell_of_row _ _ _ _ _ _ HF12.out]; rfl
            have hc30 : (W2.alloc (.cells #[.bool false, .int .i64 0, .int .i64 (v / 2), .string ⟨#[]⟩] 26 (0, 0))).cell? ⟨B, 2, none⟩ = some (.int .i64 e1) := by rw [cell_of_row _ _ _ _ _ _ HF18.out]; rfl
            have hc31 : W2.cell? ⟨B, 2, none⟩ = some (.int .i64 e1) := by rw [cell_of_row _ _ _ _ _ _ HF12.out]; rfl
            have hl32 : B < W2.heap.size := lt_of_block HF12.out
            have hl33 : ¬ B = W2.heap.size := by omega
            go_wp2_with fail
            clear hc22 hc23 hc24 hc25 hc26 hc27 hc28 hc29 hc30 hc31 hl32 hl33
            refine (H2.out (W2.alloc (.cells #[.bool false, .int .i64 0, .int .i64 (v / 2), .string ⟨#[]⟩] 26 (0, 0)))).mono ?_
            rintro e w3 ⟨rfl, hb3⟩
            have HF34 := Lib.hid (blk_below HF18.out hb3)
            have HF35 := Lib.hid (blk_below HF19.out hb3)
            have HF36 := Lib.hid (blk_below HF20.out hb3)
            have HK37 := Lib.hid (HK21.out.trans (But.of_below hb3))
            clear hb3 HK21 HF18 HF12 HF19 HF13 HF20
            have hk38 := HK37.out.size
            have hk39 : B < w3.heap.size := lt_of_block HF34.out
            have hk40 : w1.heap.size < w3.heap.size := lt_of_block HF35.out
            have hk41 : W2.heap.size < w3.heap.size := lt_of_block HF36.out
            go_wp2_with (first
              | refine wpList_store_rowY rfl 146 (.tmp 5) (.tmp 46) rfl (B) #[.string S, .int .i64 (q2 : Int), .int .i64 0] rfl rfl 146 _ HF34.out (info_scD _ _ _) rfl (one_scD _ _ _) (B) w3 (Below.refl _ _) (by omega) ?_)
            intro W4 hbk hoth hbel _
            have HF42 := Lib.hid hbk.out
            have HF43 := Lib.hid (blk_oth HF35.out hoth.out (by omega))
            have HF44 := Lib.hid (blk_oth HF36.out hoth.out (by omega))
            have HK45 := Lib.hid (but_rowR HK37.out hbel.out hoth.out)
            clear hbk hoth hbel HK37 HF34 HF35 HF36
            have hk46 := HK45.out.size
            have hk47 : B < W4.heap.size := lt_of_block HF42.out
            have hk48 : w1.heap.size < W4.heap.size := lt_of_block HF43.out
            have hk49 : W2.heap.size < W4.heap.size := lt_of_block HF44.out
            have hc50 : W4.cell? ⟨W2.heap.size, 0, none⟩ = some (.bool false) := by rw [cell_of_row _ _ _ _ _ _ HF44.out]; rfl
            have hc51 : W4.cell? ⟨W2.heap.size, 1, none⟩ = some (.int .i64 0) := by rw [cell_of_row _ _ _ _ _ _ HF44.out]; rfl
            have hc52 : W4.cell? ⟨W2.heap.size, 2, none⟩ = some (.int .i64 (v / 2)) := by rw [cell_of_row _ _ _ _ _ _ HF44.out]; rfl
            have hc53 : W4.cell? ⟨W2.heap.size, 3, none⟩ = some (.string ⟨#[]⟩) := by rw [cell_of_row _ _ _ _ _ _ HF44.out]; rfl
            have hz54 : W4.frozen? ⟨W2.heap.size, 3, none⟩ = false := frozen_of_row _ _ _ _ _ HF44.out
            go_upto_region 10 with (fail)
            clear hc50 hc51 hc52 hc53 hz54
            have HF55 := Lib.hid (show (W4.setCell ⟨W2.heap.size, 3, none⟩ (.string o)).heap[B]? = some (.cells #[.string S, .int .i64 (q2 : Int), .int .i64 0] 146 (0, 0)) by rw [Below.heap_setCell _ _ _ _ (by show B ≠ W2.heap.size; omega)]; exact HF42.out)
            have HF56 := Lib.hid (show (W4.setCell ⟨W2.heap.size, 3, none⟩ (.string o)).heap[w1.heap.size]? = some (.cells #[.string S, .int .i64 (q1 : Int), .int .i64 e1] 146 (0, 0)) by rw [Below.heap_setCell _ _ _ _ (by show w1.heap.size ≠ W2.heap.size; omega)]; exact HF43.out)
            have HF57 := Lib.hid (show (W4.setCell ⟨W2.heap.size, 3, none⟩ (.string o)).heap[W2.heap.size]? = some (.cells #[.bool false, .int .i64 0, .int .i64 (v / 2), .string o] 26 (0, 0)) by have h := heap_setCell_at (i := 3) (u := .string o) HF44.out; exact h)
            have HK58 := Lib.hid (HK45.out.setNew (b := W2.heap.size) (by omega) 3 (.string o))

            have hc59 : (W4.setCell ⟨W2.heap.size, 3, none⟩ (.string o)).cell? ⟨B, 0, none⟩ = some (.string S) := by rw [cell_of_row _ _ _ _ _ _ HF55.out]; rfl
            have hc60 : (W4.setCell ⟨W2.heap.size, 3, none⟩ (.string o)).cell? ⟨B, 1, none⟩ = some (.int .i64 (q2 : Int)) := by rw [cell_of_row _ _ _ _ _ _ HF55.out]; rfl
            have hc61 : (W4.setCell ⟨W2.heap.size, 3, none⟩ (.string o)).cell? ⟨B, 2, none⟩ = some (.int .i64 0) := by rw [cell_of_row _ _ _ _ _ _ HF55.out]; rfl
            have hc62 : (W4.setCell ⟨W2.heap.size, 3, none⟩ (.string o)).cell? ⟨W2.heap.size, 0, none⟩ = some (.bool false) := by rw [cell_of_row _ _ _ _ _ _ HF57.out]; rfl
            have hc63 : (W4.setCell ⟨W2.heap.size, 3, none⟩ (.string o)).cell? ⟨W2.heap.size, 1, none⟩ = some (.int .i64 0) := by rw [cell_of_row _ _ _ _ _ _ HF57.out]; rfl
            have hc64 : (W4.setCell ⟨W2.heap.size, 3, none⟩ (.string o)).cell? ⟨W2.heap.size, 2, none⟩ = some (.int .i64 (v / 2)) := by rw [cell_of_row _ _ _ _ _ _ HF57.out]; rfl
            have hc65 : (W4.setCell ⟨W2.heap.size, 3, none⟩ (.string o)).cell? ⟨W2.heap.size, 3, none⟩ = some (.string o) := by rw [cell_of_row _ _ _ _ _ _ HF57.out]; rfl
            go_wp2_with fail
            clear hc59 hc60 hc61 hc62 hc63 hc64 hc65
            refine (HI.out (W4.setCell ⟨W2.heap.size, 3, none⟩ (.string o))).mono ?_
            rintro e w5 ⟨rfl, hb5⟩
            have HF66 := Lib.hid (blk_below HF55.out hb5)
            have HF67 := Lib.hid (blk_below HF56.out hb5)
            have HF68 := Lib.hid (blk_below HF57.out hb5)
            have HK69 := Lib.hid (HK58.out.trans (But.of_below hb5))
            clear hb5 HK58 HF55 HF56 HF57
            have hk70 := HK69.out.size
            have hk71 : B < w5.heap.size := lt_of_block HF66.out
            have hk72 : w1.heap.size < w5.heap.size := lt_of_block HF67.out
            have hk73 : W2.heap.size < w5.heap.size := lt_of_block HF68.out
            go_wp2_with fail
            go_ret2
            try rw [← HBE.out]
            exact Or.inr ⟨HN.out, rfl, HL2.out _ HK69.out, by have := HK69.out.size; omega⟩
          | true =>
            obtain ⟨hst, hqq⟩ := HRD.out.step HR.out hok
            have HST := Lib.hid hst
            have hq' := hst.1
            have HI := Lib.hid (fun W : World => dis_any false 0 (v / 2) o true W hok)
            clear hok hst
            have HK1 := Lib.hid (But.refl B wr)
            have hc2 : wr.cell? ⟨B, 0, none⟩ = some (.string S) := by rw [cell_of_row _ _ _ _ _ _ HF.out]; rfl
            have hc3 : wr.cell? ⟨B, 1, none⟩ = some (.int .i64 (q : Int)) := by rw [cell_of_row _ _ _ _ _ _ HF.out]; rfl
            have hc4 : wr.cell? ⟨B, 2, none⟩ = some (.int .i64 0) := by rw [cell_of_row _ _ _ _ _ _ HF.out]; rfl
            go_wp2_with fail
            clear hc2 hc3 hc4
            refine (H1.out wr).mono ?_
            rintro e w1 ⟨rfl, hb1⟩
            have HF5 := Lib.hid (blk_below HF.out hb1)
            have HK6 := Lib.hid (HK1.out.trans (But.of_below hb1))
            clear hb1 HK1 HF
            have hk7 := HK6.out.size
            have hk8 : B < w1.heap.size := lt_of_block HF5.out
            have HF9 := Lib.hid (blk_alloc HF5.out (.cells #[.string S, .int .i64 (q1 : Int), .int .i64 e1] 146 (0, 0)))
            have HF10 := Lib.hid (blk_new w1 (.cells #[.string S, .int .i64 (q1 : Int), .int .i64 e1] 146 (0, 0)))
            have HK11 := Lib.hid (HK6.out.alloc (.cells #[.string S, .int .i64 (q1 : Int), .int .i64 e1] 146 (0, 0)))
            clear HK6
            go_upto_region 5 with (fail)
            go_wp2_with (first
              | refine wpList_store_rowY rfl 146 (.tmp 5) (.tmp 26) rfl (B) #[.string S, .int .i64 (q1 : Int), .int .i64 e1] rfl rfl 146 _ HF9.out (info_scD _ _ _) rfl (one_scD _ _ _) (B) (w1.alloc (.cells #[.string S, .int .i64 (q1 : Int), .int .i64 e1] 146 (0, 0))) (Below.refl _ _) (by omega) ?_
              | refine wpList_load_row rfl 146 (.tmp 6) rfl (w1.heap.size) rfl 146 #[.string S, .int .i64 (q1 : Int), .int .i64 e1] (0, 0) _ HF10.out Try.underlying146 rfl (info_scD _ _ _) ?_)
            intro W2 hbk hoth hbel _
            have HF12 := Lib.hid hbk.out
            have HF13 := Lib.hid (blk_oth HF10.out hoth.out (by omega))
            have HK14 := Lib.hid (but_rowR HK11.out hbel.out hoth.out)
            clear hbk hoth hbel HK11 HF9 HF10
            have hk15 := HK14.out.size
            have hk16 : B < W2.heap.size := lt_of_block HF12.out
            have hk17 : w1.heap.size < W2.heap.size := lt_of_block HF13.out
            have HF18 := Lib.hid (blk_alloc HF12.out (.cells #[.bool false, .int .i64 0, .int .i64 (v / 2), .string ⟨#[]⟩] 26 (0, 0)))
            have HF19 := Lib.hid (blk_alloc HF13.out (.cells #[.bool false, .int .i64 0, .int .i64 (v / 2), .string ⟨#[]⟩] 26 (0, 0)))
            have HF20 := Lib.hid (blk_new W2 (.cells #[.bool false, .int .i64 0, .int .i64 (v / 2), .string ⟨#[]⟩] 26 (0, 0)))
            have HK21 := Lib.hid (HK14.out.alloc (.cells #[.bool false, .int .i64 0, .int .i64 (v / 2), .string ⟨#[]⟩] 26 (0, 0)))
            clear HK14
            have hc22 : (W2.alloc (.cells #[.bool false, .int .i64 0, .int .i64 (v / 2), .string ⟨#[]⟩] 26 (0, 0))).cell? ⟨W2.heap.size, 0, none⟩ = some (.bool false) := by rw [cell_of_row _ _ _ _ _ _ HF20.out]; rfl
            have hc23 : (W2.alloc (.cells #[.bool false, .int .i64 0, .int .i64 (v / 2), .string ⟨#[]⟩] 26 (0, 0))).cell? ⟨W2.heap.size, 1, none⟩ = some (.int .i64 0) := by rw [cell_of_row _ _ _ _ _ _ HF20.out]; rfl
            have hc24 : (W2.alloc (.cells #[.bool false, .int .i64 0, .int .i64 (v / 2), .string ⟨#[]⟩] 26 (0, 0))).cell? ⟨W2.heap.size, 2, none⟩ = some (.int .i64 (v / 2)) := by rw [cell_of_row _ _ _ _ _ _ HF20.out]; rfl
            have hc25 : (W2.alloc (.cells #[.bool false, .int .i64 0, .int .i64 (v / 2), .string ⟨#[]⟩] 26 (0, 0))).cell? ⟨W2.heap.size, 3, none⟩ = some (.string ⟨#[]⟩) := by rw [cell_of_row _ _ _ _ _ _ HF20.out]; rfl
            have hc26 : (W2.alloc (.cells #[.bool false, .int .i64 0, .int .i64 (v / 2), .string ⟨#[]⟩] 26 (0, 0))).cell? ⟨B, 0, none⟩ = some (.string S) := by rw [cell_of_row _ _ _ _ _ _ HF18.out]; rfl
            have hc27 : W2.cell? ⟨B, 0, none⟩ = some (.string S) := by rw [cell_of_row _ _ _ _ _ _ HF12.out]; rfl
            have hc28 : (W2.alloc (.cells #[.bool false, .int .i64 0, .int .i64 (v / 2), .string ⟨#[]⟩] 26 (0, 0))).cell? ⟨B, 1, none⟩ = some (.int .i64 (q1 : Int)) := by rw [cell_of_row _ _ _ _ _ _ HF18.out]; rfl
            have hc29 : W2.cell? ⟨B, 1, none⟩ = some (.int .i64 (q1 : Int)) := by rw [cell_of_row _ _ _ _ _ _ HF12.out]; rfl
            have hc30 : (W2.alloc (.cells #[.bool false, .int .i64 0, .int .i64 (v / 2), .string ⟨#[]⟩] 26 (0, 0))).cell? ⟨B, 2, none⟩ = some (.int .i64 e1) := by rw [cell_of_row _ _ _ _ _ _ HF18.out]; rfl
            have hc31 : W2.cell? ⟨B, 2, none⟩ = some (.int .i64 e1) := by rw [cell_of_row _ _ _ _ _ _ HF12.out]; rfl
            have hl32 : B < W2.heap.size := lt_of_block HF12.out
            have hl33 : ¬ B = W2.heap.size := by omega
            go_wp2_with fail
            clear hc22 hc23 hc24 hc25 hc26 hc27 hc28 hc29 hc30 hc31 hl32 hl33
            refine (H2.out (W2.alloc (.cells #[.bool false, .int .i64 0, .int .i64 (v / 2), .string ⟨#[]⟩] 26 (0, 0)))).mono ?_
            rintro e w3 ⟨rfl, hb3⟩
            have HF34 := Lib.hid (blk_below HF18.out hb3)
            have HF35 := Lib.hid (blk_below HF19.out hb3)
            have HF36 := Lib.hid (blk_below HF20.out hb3)
            have HK37 := Lib.hid (HK21.out.trans (But.of_below hb3))
            clear hb3 HK21 HF18 HF12 HF19 HF13 HF20
            have hk38 := HK37.out.size
            have hk39 : B < w3.heap.size := lt_of_block HF34.out
            have hk40 : w1.heap.size < w3.heap.size := lt_of_block HF35.out
            have hk41 : W2.heap.size < w3.heap.size := lt_of_block HF36.out
            go_wp2_with (first
              | refine wpList_store_rowY rfl 146 (.tmp 5) (.tmp 46) rfl (B) #[.string S, .int .i64 (q2 : Int), .int .i64 0] rfl rfl 146 _ HF34.out (info_scD _ _ _) rfl (one_scD _ _ _) (B) w3 (Below.refl _ _) (by omega) ?_)
            intro W4 hbk hoth hbel _
            have HF42 := Lib.hid hbk.out
            have HF43 := Lib.hid (blk_oth HF35.out hoth.out (by omega))
            have HF44 := Lib.hid (blk_oth HF36.out hoth.out (by omega))
            have HK45 := Lib.hid (but_rowR HK37.out hbel.out hoth.out)
            clear hbk hoth hbel HK37 HF34 HF35 HF36
            have hk46 := HK45.out.size
            have hk47 : B < W4.heap.size := lt_of_block HF42.out
            have hk48 : w1.heap.size < W4.heap.size := lt_of_block HF43.out
            have hk49 : W2.heap.size < W4.heap.size := lt_of_block HF44.out
            have hc50 : W4.cell? ⟨W2.heap.size, 0, none⟩ = some (.bool false) := by rw [cell_of_row _ _ _ _ _ _ HF44.out]; rfl
            have hc51 : W4.cell? ⟨W2.heap.size, 1, none⟩ = some (.int .i64 0) := by rw [cell_of_row _ _ _ _ _ _ HF44.out]; rfl
            have hc52 : W4.cell? ⟨W2.heap.size, 2, none⟩ = some (.int .i64 (v / 2)) := by rw [cell_of_row _ _ _ _ _ _ HF44.out]; rfl
            have hc53 : W4.cell? ⟨W2.heap.size, 3, none⟩ = some (.string ⟨#[]⟩) := by rw [cell_of_row _ _ _ _ _ _ HF44.out]; rfl
            have hz54 : W4.frozen? ⟨W2.heap.size, 3, none⟩ = false := frozen_of_row _ _ _ _ _ HF44.out
            go_upto_region 10 with (fail)
            clear hc50 hc51 hc52 hc53 hz54
            have HF55 := Lib.hid (show (W4.setCell ⟨W2.heap.size, 3, none⟩ (.string o)).heap[B]? = some (.cells #[.string S, .int .i64 (q2 : Int), .int .i64 0] 146 (0, 0)) by rw [Below.heap_setCell _ _ _ _ (by show B ≠ W2.heap.size; omega)]; exact HF42.out)
            have HF56 := Lib.hid (show (W4.setCell ⟨W2.heap.size, 3, none⟩ (.string o)).heap[w1.heap.size]? = some (.cells #[.string S, .int .i64 (q1 : Int), .int .i64 e1] 146 (0, 0)) by rw [Below.heap_setCell _ _ _ _ (by show w1.heap.size ≠ W2.heap.size; omega)]; exact HF43.out)
            have HF57 := Lib.hid (show (W4.setCell ⟨W2.heap.size, 3, none⟩ (.string o)).heap[W2.heap.size]? = some (.cells #[.bool false, .int .i64 0, .int .i64 (v / 2), .string o] 26 (0, 0)) by have h := heap_setCell_at (i := 3) (u := .string o) HF44.out; exact h)
            have HK58 := Lib.hid (HK45.out.setNew (b := W2.heap.size) (by omega) 3 (.string o))

            have hc59 : (W4.setCell ⟨W2.heap.size, 3, none⟩ (.string o)).cell? ⟨B, 0, none⟩ = some (.string S) := by rw [cell_of_row _ _ _ _ _ _ HF55.out]; rfl
            have hc60 : (W4.setCell ⟨W2.heap.size, 3, none⟩ (.string o)).cell? ⟨B, 1, none⟩ = some (.int .i64 (q2 : Int)) := by rw [cell_of_row _ _ _ _ _ _ HF55.out]; rfl
            have hc61 : (W4.setCell ⟨W2.heap.size, 3, none⟩ (.string o)).cell? ⟨B, 2, none⟩ = some (.int .i64 0) := by rw [cell_of_row _ _ _ _ _ _ HF55.out]; rfl
            have hc62 : (W4.setCell ⟨W2.heap.size, 3, none⟩ (.string o)).cell? ⟨W2.heap.size, 0, none⟩ = some (.bool false) := by rw [cell_of_row _ _ _ _ _ _ HF57.out]; rfl
            have hc63 : (W4.setCell ⟨W2.heap.size, 3, none⟩ (.string o)).cell? ⟨W2.heap.size, 1, none⟩ = some (.int .i64 0) := by rw [cell_of_row _ _ _ _ _ _ HF57.out]; rfl
            have hc64 : (W4.setCell ⟨W2.heap.size, 3, none⟩ (.string o)).cell? ⟨W2.heap.size, 2, none⟩ = some (.int .i64 (v / 2)) := by rw [cell_of_row _ _ _ _ _ _ HF57.out]; rfl
            have hc65 : (W4.setCell ⟨W2.heap.size, 3, none⟩ (.string o)).cell? ⟨W2.heap.size, 3, none⟩ = some (.string o) := by rw [cell_of_row _ _ _ _ _ _ HF57.out]; rfl
            go_wp2_with fail
            clear hc59 hc60 hc61 hc62 hc63 hc64 hc65
            refine (HI.out (W4.setCell ⟨W2.heap.size, 3, none⟩ (.string o))).mono ?_
            rintro e w5 ⟨rfl, hb5⟩
            have HF66 := Lib.hid (blk_below HF55.out hb5)
            have HF67 := Lib.hid (blk_below HF56.out hb5)
            have HF68 := Lib.hid (blk_below HF57.out hb5)
            have HK69 := Lib.hid (HK58.out.trans (But.of_below hb5))
            clear hb5 HK58 HF55 HF56 HF57
            have hk70 := HK69.out.size
            have hk71 : B < w5.heap.size := lt_of_block HF66.out
            have hk72 : w1.heap.size < w5.heap.size := lt_of_block HF67.out
            have hk73 : W2.heap.size < w5.heap.size := lt_of_block HF68.out
            have hc74 : w5.cell? ⟨W2.heap.size, 0, none⟩ = some (.bool false) := by rw [cell_of_row _ _ _ _ _ _ HF68.out]; rfl
            have hc75 : w5.cell? ⟨W2.heap.size, 1, none⟩ = some (.int .i64 0) := by rw [cell_of_row _ _ _ _ _ _ HF68.out]; rfl
            have hc76 : w5.cell? ⟨W2.heap.size, 2, none⟩ = some (.int .i64 (v / 2)) := by rw [cell_of_row _ _ _ _ _ _ HF68.out]; rfl
            have hc77 : w5.cell? ⟨W2.heap.size, 3, none⟩ = some (.string o) := by rw [cell_of_row _ _ _ _ _ _ HF68.out]; rfl
            have HX9 := Lib.hid (HX.out.but HK69.out)
            have HR9 := Lib.hid (Below.refl (B + 1) w5)
            go_wp2_with (at_builtin; refine wpList_appX rfl (.tmp 57) (.tmp 59) 22 26 _ 40 rfl Try.underlying22 info_pc rfl (by omega) (by omega) pcC_len pcC_one (B + 1) w5 (HR9.out.alloc (by omega) _) (by simp; omega) _ l rfl (HX9.out.alloc _) w5.heap.size 1 (false, 0, (v / 2), o) #[.bool false, .int .i64 0, .int .i64 (v / 2), .string o] 26 (0, 0) rfl (heap_alloc_new w5 _) rfl (by omega) ?_)
            intro v4 w4 HO4 HB4 HZ4 HG4
            clear hc74 hc75 hc76 hc77
            have HS4 := Lib.hid ((HB4.out.block B (by omega)).trans HF66.out)
            have HL4 := Lib.hid ((HL2.out _ HK69.out).trans (HB4.out.mono (by omega)))
            have HN4 := Lib.hid HO4.out.len
            have hl4 : slL v4 = l.length + 1 := by rw [HN4.out]; simp
            have hl5 := HLN.out
            go_wp2_with fail
            go_roundw
            case rel => exact ⟨_, q2, HS4.out, HST.out, HO4.out, HL4.out⟩
            case measure => omega
        · have hne : (e2 != 0) = true := by simpa using he
          have HN := Lib.hid (HRD.out.stuck (a := 4294967295) (b := 4294967295) (by omega) (by omega) hlt HR.out (Or.inl he))
          clear he
          have HK1 := Lib.hid (But.refl B wr)
          have hc2 : wr.cell? ⟨B, 0, none⟩ = some (.string S) := by rw [cell_of_row _ _ _ _ _ _ HF.out]; rfl
          have hc3 : wr.cell? ⟨B, 1, none⟩ = some (.int .i64 (q : Int)) := by rw [cell_of_row _ _ _ _ _ _ HF.out]; rfl
          have hc4 : wr.cell? ⟨B, 2, none⟩ = some (.int .i64 0) := by rw [cell_of_row _ _ _ _ _ _ HF.out]; rfl
          go_wp2_with fail
          clear hc2 hc3 hc4
          refine (H1.out wr).mono ?_
          rintro e w1 ⟨rfl, hb1⟩
          have HF5 := Lib.hid (blk_below HF.out hb1)
          have HK6 := Lib.hid (HK1.out.trans (But.of_below hb1))
          clear hb1 HK1 HF
          have hk7 := HK6.out.size
          have hk8 : B < w1.heap.size := lt_of_block HF5.out
          have HF9 := Lib.hid (blk_alloc HF5.out (.cells #[.string S, .int .i64 (q1 : Int), .int .i64 e1] 146 (0, 0)))
          have HF10 := Lib.hid (blk_new w1 (.cells #[.string S, .int .i64 (q1 : Int), .int .i64 e1] 146 (0, 0)))
          have HK11 := Lib.hid (HK6.out.alloc (.cells #[.string S, .int .i64 (q1 : Int), .int .i64 e1] 146 (0, 0)))
          clear HK6
          go_upto_region 5 with (fail)
          go_wp2_with (first
            | refine wpList_store_rowY rfl 146 (.tmp 5) (.tmp 26) rfl (B) #[.string S, .int .i64 (q1 : Int), .int .i64 e1] rfl rfl 146 _ HF9.out (info_scD _ _ _) rfl (one_scD _ _ _) (B) (w1.alloc (.cells #[.string S, .int .i64 (q1 : Int), .int .i64 e1] 146 (0, 0))) (Below.refl _ _) (by omega) ?_
            | refine wpList_load_row rfl 146 (.tmp 6) rfl (w1.heap.size) rfl 146 #[.string S, .int .i64 (q1 : Int), .int .i64 e1] (0, 0) _ HF10.out Try.underlying146 rfl (info_scD _ _ _) ?_)
          intro W2 hbk hoth hbel _
          have HF12 := Lib.hid hbk.out
          have HF13 := Lib.hid (blk_oth HF10.out hoth.out (by omega))
          have HK14 := Lib.hid (but_rowR HK11.out hbel.out hoth.out)
          clear hbk hoth hbel HK11 HF9 HF10
          have hk15 := HK14.out.size
          have hk16 : B < W2.heap.size := lt_of_block HF12.out
          have hk17 : w1.heap.size < W2.heap.size := lt_of_block HF13.out
          have HF18 := Lib.hid (blk_alloc HF12.out (.cells #[.bool false, .int .i64 0, .int .i64 (v / 2), .string ⟨#[]⟩] 26 (0, 0)))
          have HF19 := Lib.hid (blk_alloc HF13.out (.cells #[.bool false, .int .i64 0, .int .i64 (v / 2), .string ⟨#[]⟩] 26 (0, 0)))
          have HF20 := Lib.hid (blk_new W2 (.cells #[.bool false, .int .i64 0, .int .i64 (v / 2), .string ⟨#[]⟩] 26 (0, 0)))
          have HK21 := Lib.hid (HK14.out.alloc (.cells #[.bool false, .int .i64 0, .int .i64 (v / 2), .string ⟨#[]⟩] 26 (0, 0)))
          clear HK14
          have hc22 : (W2.alloc (.cells #[.bool false, .int .i64 0, .int .i64 (v / 2), .string ⟨#[]⟩] 26 (0, 0))).cell? ⟨W2.heap.size, 0, none⟩ = some (.bool false) := by rw [cell_of_row _ _ _ _ _ _ HF20.out]; rfl
          have hc23 : (W2.alloc (.cells #[.bool false, .int .i64 0, .int .i64 (v / 2), .string ⟨#[]⟩] 26 (0, 0))).cell? ⟨W2.heap.size, 1, none⟩ = some (.int .i64 0) := by rw [cell_of_row _ _ _ _ _ _ HF20.out]; rfl
          have hc24 : (W2.alloc (.cells #[.bool false, .int .i64 0, .int .i64 (v / 2), .string ⟨#[]⟩] 26 (0, 0))).cell? ⟨W2.heap.size, 2, none⟩ = some (.int .i64 (v / 2)) := by rw [cell_of_row _ _ _ _ _ _ HF20.out]; rfl
          have hc25 : (W2.alloc (.cells #[.bool false, .int .i64 0, .int .i64 (v / 2), .string ⟨#[]⟩] 26 (0, 0))).cell? ⟨W2.heap.size, 3, none⟩ = some (.string ⟨#[]⟩) := by rw [cell_of_row _ _ _ _ _ _ HF20.out]; rfl
          have hc26 : (W2.alloc (.cells #[.bool false, .int .i64 0, .int .i64 (v / 2), .string ⟨#[]⟩] 26 (0, 0))).cell? ⟨B, 0, none⟩ = some (.string S) := by rw [cell_of_row _ _ _ _ _ _ HF18.out]; rfl
          have hc27 : W2.cell? ⟨B, 0, none⟩ = some (.string S) := by rw [cell_of_row _ _ _ _ _ _ HF12.out]; rfl
          have hc28 : (W2.alloc (.cells #[.bool false, .int .i64 0, .int .i64 (v / 2), .string ⟨#[]⟩] 26 (0, 0))).cell? ⟨B, 1, none⟩ = some (.int .i64 (q1 : Int)) := by rw [cell_of_row _ _ _ _ _ _ HF18.out]; rfl
          have hc29 : W2.cell? ⟨B, 1, none⟩ = some (.int .i64 (q1 : Int)) := by rw [cell_of_row _ _ _ _ _ _ HF12.out]; rfl
          have hc30 : (W2.alloc (.cells #[.bool false, .int .i64 0, .int .i64 (v / 2), .string ⟨#[]⟩] 26 (0, 0))).cell? ⟨B, 2, none⟩ = some (.int .i64 e1) := by rw [cell_of_row _ _ _ _ _ _ HF18.out]; rfl
          have hc31 : W2.cell? ⟨B, 2, none⟩ = some (.int .i64 e1) := by rw [cell_of_row _ _ _ _ _ _ HF12.out]; rfl
          have hl32 : B < W2.heap.size := lt_of_block HF12.out
          have hl33 : ¬ B = W2.heap.size := by omega
          go_wp2_with fail
          clear hc22 hc23 hc24 hc25 hc26 hc27 hc28 hc29 hc30 hc31 hl32 hl33
          refine (H2.out (W2.alloc (.cells #[.bool false, .int .i64 0, .int .i64 (v / 2), .string ⟨#[]⟩] 26 (0, 0)))).mono ?_
          rintro e w3 ⟨rfl, hb3⟩
          have HF34 := Lib.hid (blk_below HF18.out hb3)
          have HF35 := Lib.hid (blk_below HF19.out hb3)
          have HF36 := Lib.hid (blk_below HF20.out hb3)
          have HK37 := Lib.hid (HK21.out.trans (But.of_below hb3))
          clear hb3 HK21 HF18 HF12 HF19 HF13 HF20
          have hk38 := HK37.out.size
          have hk39 : B < w3.heap.size := lt_of_block HF34.out
          have hk40 : w1.heap.size < w3.heap.size := lt_of_block HF35.out
          have hk41 : W2.heap.size < w3.heap.size := lt_of_block HF36.out
          go_wp2_with (first
            | refine wpList_store_rowY rfl 146 (.tmp 5) (.tmp 46) rfl (B) #[.string S, .int .i64 (q2 : Int), .int .i64 e2] rfl rfl 146 _ HF34.out (info_scD _ _ _) rfl (one_scD _ _ _) (B) w3 (Below.refl _ _) (by omega) ?_)
          intro W4 hbk hoth hbel _
          have HF42 := Lib.hid hbk.out
          have HF43 := Lib.hid (blk_oth HF35.out hoth.out (by omega))
          have HF44 := Lib.hid (blk_oth HF36.out hoth.out (by omega))
          have HK45 := Lib.hid (but_rowR HK37.out hbel.out hoth.out)
          clear hbk hoth hbel HK37 HF34 HF35 HF36
          have hk46 := HK45.out.size
          have hk47 : B < W4.heap.size := lt_of_block HF42.out
          have hk48 : w1.heap.size < W4.heap.size := lt_of_block HF43.out
          have hk49 : W2.heap.size < W4.heap.size := lt_of_block HF44.out
          have hc50 : W4.cell? ⟨W2.heap.size, 0, none⟩ = some (.bool false) := by rw [cell_of_row _ _ _ _ _ _ HF44.out]; rfl
          have hc51 : W4.cell? ⟨W2.heap.size, 1, none⟩ = some (.int .i64 0) := by rw [cell_of_row _ _ _ _ _ _ HF44.out]; rfl
          have hc52 : W4.cell? ⟨W2.heap.size, 2, none⟩ = some (.int .i64 (v / 2)) := by rw [cell_of_row _ _ _ _ _ _ HF44.out]; rfl
          have hc53 : W4.cell? ⟨W2.heap.size, 3, none⟩ = some (.string ⟨#[]⟩) := by rw [cell_of_row _ _ _ _ _ _ HF44.out]; rfl
          have hz54 : W4.frozen? ⟨W2.heap.size, 3, none⟩ = false := frozen_of_row _ _ _ _ _ HF44.out
          go_upto_region 10 with (fail)
          clear hc50 hc51 hc52 hc53 hz54
          have HF55 := Lib.hid (show (W4.setCell ⟨W2.heap.size, 3, none⟩ (.string o)).heap[B]? = some (.cells #[.string S, .int .i64 (q2 : Int), .int .i64 e2] 146 (0, 0)) by rw [Below.heap_setCell _ _ _ _ (by show B ≠ W2.heap.size; omega)]; exact HF42.out)
          have HF56 := Lib.hid (show (W4.setCell ⟨W2.heap.size, 3, none⟩ (.string o)).heap[w1.heap.size]? = some (.cells #[.string S, .int .i64 (q1 : Int), .int .i64 e1] 146 (0, 0)) by rw [Below.heap_setCell _ _ _ _ (by show w1.heap.size ≠ W2.heap.size; omega)]; exact HF43.out)
          have HF57 := Lib.hid (show (W4.setCell ⟨W2.heap.size, 3, none⟩ (.string o)).heap[W2.heap.size]? = some (.cells #[.bool false, .int .i64 0, .int .i64 (v / 2), .string o] 26 (0, 0)) by have h := heap_setCell_at (i := 3) (u := .string o) HF44.out; exact h)
          have HK58 := Lib.hid (HK45.out.setNew (b := W2.heap.size) (by omega) 3 (.string o))

          have hc59 : (W4.setCell ⟨W2.heap.size, 3, none⟩ (.string o)).cell? ⟨B, 0, none⟩ = some (.string S) := by rw [cell_of_row _ _ _ _ _ _ HF55.out]; rfl
          have hc60 : (W4.setCell ⟨W2.heap.size, 3, none⟩ (.string o)).cell? ⟨B, 1, none⟩ = some (.int .i64 (q2 : Int)) := by rw [cell_of_row _ _ _ _ _ _ HF55.out]; rfl
          have hc61 : (W4.setCell ⟨W2.heap.size, 3, none⟩ (.string o)).cell? ⟨B, 2, none⟩ = some (.int .i64 e2) := by rw [cell_of_row _ _ _ _ _ _ HF55.out]; rfl
          go_wp2_with fail
          clear hc59 hc60 hc61
          go_ret2
          try rw [← HBE.out]
          exact Or.inr ⟨HN.out, rfl, HL2.out _ HK58.out, by have := HK58.out.size; omega⟩
    · have HK1 := Lib.hid (But.refl B wr)
      have hd1 : decide ((q : Int) < (S.size : Int)) = false := decide_eq_false (by omega)
      have HI := Lib.hid (HRD.out.done hlt)
      have hc2 : wr.cell? ⟨B, 0, none⟩ = some (.string S) := by rw [cell_of_row _ _ _ _ _ _ HF.out]; rfl
      have hc3 : wr.cell? ⟨B, 1, none⟩ = some (.int .i64 (q : Int)) := by rw [cell_of_row _ _ _ _ _ _ HF.out]; rfl
      have hc4 : wr.cell? ⟨B, 2, none⟩ = some (.int .i64 0) := by rw [cell_of_row _ _ _ _ _ _ HF.out]; rfl
      go_wp2_with fail
      have hr5 := fun d os => cell_regrown hc2 d os
      have hr6 := fun d os => cell_regrown hc3 d os
      have hr7 := fun d os => cell_regrown hc4 d os
      refine wp_region_quiet_below (by kernel_rfl) (by kernel_rfl) ?_
      repeat (any_goals (first | go_big_quiet_step (fail) | quiet_step (fail)))
      refine wpQuiet_nil ?_
      intro w1 hw1
      have hb1 := below_anyY hw1
      clear hw1 hr5 hr6 hr7
      clear hc2 hc3 hc4
      have HF8 := Lib.hid (blk_below HF.out hb1)
      have HK9 := Lib.hid (HK1.out.trans (But.of_below hb1))
      clear hb1 HK1 HF
      go_wp2_with fail
      go_ret2
      have hbf := But.below HL.out HK9.out (Nat.le_refl _) (by omega)
      try rw [← HBE.out]
      exact Or.inl ⟨l, _, HI.out, rfl, (HX.out.but HK9.out).mono (by omega), hbf, by have := HK9.out.size; omega⟩
end Go.Proofs.Ythndcgaelcilnaa
