/- The contract of seat.Choose over this translation. Conditions: texts of at most a thousand bytes; the table of crc. -/
import Derived.Test.YtcgoegehgcecpaaDoorYk
import Derived.RegionTactic
import Derived.ChangeAlike
import Derived.Deep.RegionHeld3
namespace Go.Proofs.YtcgoegehgcecpaaDoor
open Go.RowKit Vi Cm

/-- what both Takes answer of a sector -/
structure TkF (S : ByteArray) (a b c d e : Int) : Prop where
  prog : ∀ W : World, Tab W → Calls Tryd.prog 34 #[.string S] W fun r w' => r = .returned (.tuple #[.agg #[.int .i64 a, .int .i64 b, .int .i64 c, .int .i64 d], .int .i64 e]) ∧ Below W.heap.size W w'
  ref : ∀ W : World, Calls Tryd.prog 35 #[.string S] W fun r w' => r = .returned (.tuple #[.agg #[.int .i64 a, .int .i64 b, .int .i64 c, .int .i64 d], .bool (decide (e = 0))]) ∧ Below W.heap.size W w'
  is : (e = 0 ∧ hok a b c d = true ∧ S = headS a b c d) ∨ (e = 3 ∧ a = 0 ∧ b = 0 ∧ c = 0 ∧ d = 0 ∧ ¬ IsHead S)
theorem tkF_yes (a b c d : Int) (h : hok a b c d = true) : TkF (headS a b c d) a b c d 0 := ⟨fun W hT => take_yes a b c d W hT h, fun W => rtake_yes a b c d W h, Or.inl ⟨rfl, h, rfl⟩⟩
theorem tkF_no (S : ByteArray) (hS : S.size ≤ 1000) (h : ¬ IsHead S) : TkF S 0 0 0 0 3 := ⟨fun W hT => take_no S W hT hS h, fun W => rtake_no S W hS h, Or.inr ⟨rfl, rfl, rfl, rfl, rfl, h⟩⟩
theorem tkF_any (S : ByteArray) (hS : S.size ≤ 1000) : ∃ a b c d e, TkF S a b c d e := by
  by_cases h : IsHead S
  · obtain ⟨a, b, c, d, hk, rfl⟩ := h
    exact ⟨a, b, c, d, 0, tkF_yes a b c d hk⟩
  · exact ⟨0, 0, 0, 0, 3, tkF_no S hS h⟩
theorem TkF.bd {S : ByteArray} {a b c d e : Int} (h : TkF S a b c d e) : (a = 0 ∧ b = 0 ∧ c = 0 ∧ d = 0 ∧ e = 3) ∨ (1 ≤ a ∧ a ≤ 4294967295 ∧ e = 0) := by
  rcases h.is with ⟨h1, h2, _⟩ | ⟨h1, h2, h3, h4, h5, _⟩
  · have := hok_bd h2
    exact Or.inr ⟨by omega, by omega, h1⟩
  · exact Or.inl ⟨h2, h3, h4, h5, h1⟩
/-- the head that counts, behind so many sectors -/
def bst (x y : Int × Int × Int × Int) : Nat → Int × Int × Int × Int
  | 0 => (0, 0, 0, 0)
  | 1 => if x.1 % 2 = 0 ∧ 0 < x.1 then x else (0, 0, 0, 0)
  | _ => if y.1 % 2 = 1 ∧ (if x.1 % 2 = 0 ∧ 0 < x.1 then x else (0, 0, 0, 0)).1 < y.1 then y else (if x.1 % 2 = 0 ∧ 0 < x.1 then x else (0, 0, 0, 0))
theorem bst_one (x y : Int × Int × Int × Int) : bst x y 1 = if x.1 % 2 = 0 ∧ 0 < x.1 then x else (0, 0, 0, 0) := rfl
theorem bst_two (x y : Int × Int × Int × Int) : bst x y 2 = if y.1 % 2 = 1 ∧ (bst x y 1).1 < y.1 then y else bst x y 1 := rfl
theorem bst_good (x y : Int × Int × Int × Int) (hx : (x = (0, 0, 0, 0)) ∨ 1 ≤ x.1) (hy : (y = (0, 0, 0, 0)) ∨ 1 ≤ y.1) : ∀ k, (bst x y k = (0, 0, 0, 0)) ∨ 1 ≤ (bst x y k).1 := by
  have h1 : (bst x y 1 = (0, 0, 0, 0)) ∨ 1 ≤ (bst x y 1).1 := by
    rw [bst_one]
    split
    · exact hx
    · exact Or.inl rfl
  intro k
  match k with
  | 0 => exact Or.inl rfl
  | 1 => exact h1
  | k + 2 =>
    show (bst x y 2 = (0, 0, 0, 0)) ∨ 1 ≤ (bst x y 2).1
    rw [bst_two]
    split
    · exact hy
    · exact h1
theorem index2Y (a b : ByteArray) (k : Nat) (v : ByteArray) (hk : k < 2) (hv : ([a, b] : List ByteArray).getD k ⟨#[]⟩ = v) (z : Int) (hz : z = (k : Int)) (W : World) : (Instr.index 68 (.agg #[.string a, .string b]) (.int .i64 z)).run Tryd.prog W = .ok (.string v) W := by
  subst hz
  have hs : ∀ W, (sizeOf 9).run Tryd.prog W = .ok 1 W := fun W => by
    obtain ⟨i0, hi, _, hz1, _⟩ := info_parts (show (Tryd.prog.info? 9).map (fun i => (i.zero, i.size, i.bytes)) = some (some (.string ⟨#[]⟩), 1, 16) by kernel_rfl)
    simp [sizeOf, typeInfo, hi, hz1]
  subst hv
  rcases (show k = 0 ∨ k = 1 by omega) with rfl | rfl <;> simp [Instr.index, run_underlying Tryd.underlying68, asIntOf, hs, go_sem]
/-- what the rounds of Choose carry -/
def ChR (x y : Int × Int × Int × Int) (w : World) (i : Value) (wr : World) : Prop := ∃ (k : Nat) (p q r s : Int), i = .int .i64 (k : Int) ∧ k ≤ 2 ∧ Hid (bst x y k = (p, q, r, s)) ∧
  Hid (wr.heap[w.heap.size]? = some (.cells (hv 0 0 0 0) 48 (0, 0))) ∧ Hid (wr.heap[w.heap.size + 1]? = some (.cells (hv 0 0 0 0) 48 (0, 0))) ∧ Hid (wr.heap[w.heap.size + 2]? = some (.cells (hv p q r s) 48 (0, 0))) ∧ Hid (Below w.heap.size w wr)
theorem two_blk (w : World) (o p : Obj) : ((w.alloc o).alloc p).heap[w.heap.size + 1]? = some p := by
  have h := blk_new (w.alloc o) p
  have hz : (w.alloc o).heap.size = w.heap.size + 1 := by simp
  rw [hz] at h
  exact h
theorem three_blk (w : World) (o p q : Obj) : (((w.alloc o).alloc p).alloc q).heap[w.heap.size + 2]? = some q := by
  have h := blk_new ((w.alloc o).alloc p) q
  have hz : ((w.alloc o).alloc p).heap.size = w.heap.size + 2 := by simp
  rw [hz] at h
  exact h
def chB (t : Int × Int × Int × Int) : Bool := decide (0 < t.1)
theorem set4 (wr : World) (b : Nat) (o0 o1 o2 o3 p q r s : Int) (h : wr.heap[b]? = some (.cells (hv o0 o1 o2 o3) 48 (0, 0))) :
    ((((wr.setCell ⟨b, 0, none⟩ (.int .i64 p)).setCell ⟨b, 1, none⟩ (.int .i64 q)).setCell ⟨b, 2, none⟩ (.int .i64 r)).setCell ⟨b, 3, none⟩ (.int .i64 s)).drew.heap[b]? = some (.cells (hv p q r s) 48 (0, 0)) := by
  have h1 := heap_setCell_at (i := 0) (u := .int .i64 p) h
  have h2 := heap_setCell_at (i := 1) (u := .int .i64 q) h1
  have h3 := heap_setCell_at (i := 2) (u := .int .i64 r) h2
  have h4 := heap_setCell_at (i := 3) (u := .int .i64 s) h3
  exact h4
theorem retC {a b : Value} (h : a = b) : Ending.returned a = .returned b := by rw [h]
set_option maxHeartbeats 4000000 in
set_option maxRecDepth 100000 in
theorem choose_any (S1 S2 : ByteArray) (a b c d e1 a2 b2 c2 d2 e2 : Int) (h1 : TkF S1 a b c d e1) (h2 : TkF S2 a2 b2 c2 d2 e2) (w : World) (hT : Tab w) :
    Calls Tryd.prog 38 #[.string S1, .string S2] w fun e w' => e = .returned (.tuple #[.agg (hv (bst (a, b, c, d) (a2, b2, c2, d2) 2).1 (bst (a, b, c, d) (a2, b2, c2, d2) 2).2.1 (bst (a, b, c, d) (a2, b2, c2, d2) 2).2.2.1 (bst (a, b, c, d) (a2, b2, c2, d2) 2).2.2.2), .bool (chB (bst (a, b, c, d) (a2, b2, c2, d2) 2))]) ∧ Below w.heap.size w w' := by
  have HT := Lib.hid hT
  have K1 := Lib.hid h1.prog
  have K2 := Lib.hid h2.prog
  have hxg : ((a, b, c, d) = ((0, 0, 0, 0) : Int × Int × Int × Int)) ∨ 1 ≤ (a, b, c, d).1 := by
    rcases h1.bd with ⟨rfl, rfl, rfl, rfl, _⟩ | ⟨g, _⟩
    · exact Or.inl rfl
    · exact Or.inr g
  have hyg : ((a2, b2, c2, d2) = ((0, 0, 0, 0) : Int × Int × Int × Int)) ∨ 1 ≤ (a2, b2, c2, d2).1 := by
    rcases h2.bd with ⟨rfl, rfl, rfl, rfl, _⟩ | ⟨g, _⟩
    · exact Or.inl rfl
    · exact Or.inr g
  have HXG := Lib.hid hxg
  have HYG := Lib.hid hyg
  clear hxg hyg
  obtain ⟨x, hx⟩ : ∃ x, x = (a, b, c, d) := ⟨_, rfl⟩
  obtain ⟨y, hy⟩ : ∃ y, y = (a2, b2, c2, d2) := ⟨_, rfl⟩
  rw [← hx, ← hy]
  have HX := Lib.hid hx
  have HY := Lib.hid hy
  have hba : 0 ≤ a ∧ a ≤ 4294967295 := by rcases h1.bd with g | g <;> omega
  have hba2 : 0 ≤ a2 ∧ a2 ≤ 4294967295 := by rcases h2.bd with g | g <;> omega
  obtain ⟨ba0, ba1⟩ := hba
  obtain ⟨bb0, bb1⟩ := hba2
  clear hx hy h1 h2 hT
  have R0 := Lib.hid (blk_alloc (blk_alloc (blk_new w (.cells (hv 0 0 0 0) 48 (0, 0))) (.cells (hv 0 0 0 0) 48 (0, 0))) (.cells (hv 0 0 0 0) 48 (0, 0)))
  have N0 := Lib.hid (blk_alloc (two_blk w (.cells (hv 0 0 0 0) 48 (0, 0)) (.cells (hv 0 0 0 0) 48 (0, 0))) (.cells (hv 0 0 0 0) 48 (0, 0)))
  have T0 := Lib.hid (three_blk w (.cells (hv 0 0 0 0) 48 (0, 0)) (.cells (hv 0 0 0 0) 48 (0, 0)) (.cells (hv 0 0 0 0) 48 (0, 0)))
  have B0 := Lib.hid ((((Below.refl _ w).alloc (Nat.le_refl _) (.cells (hv 0 0 0 0) 48 (0, 0))).alloc (by simp) (.cells (hv 0 0 0 0) 48 (0, 0))).alloc (by simp; omega) (.cells (hv 0 0 0 0) 48 (0, 0)))
  go_enter Tryd.func38, Tryd.ntmps38
  go_wp2_with fail
  go_loopw [15] (fun i wr => ChR x y w i wr) (fun i _ => 2 - (intOf i).toNat)
  case atStart => exact ⟨0, 0, 0, 0, 0, rfl, by omega, rfl, R0.out, N0.out, T0.out, B0.out⟩
  case round =>
    obtain ⟨k, p, q, r, s, rfl, hk, HBS, HR0, HR1, HR2, HBW⟩ := hrel
    rcases (show k = 0 ∨ k = 1 ∨ k = 2 by omega) with rfl | rfl | rfl
    · have hp0 : p = 0 := by
        have := HBS.out
        simp only [bst, Prod.mk.injEq] at this
        exact this.1.symm
      have HP0 := Lib.hid hp0
      clear hp0
      by_cases hp : a % 2 = 0
      · have hpb : (a % 2 == 0) = true := by simp; exact hp
        by_cases hlt : p < a
        · have hdl : decide (p < a) = true := decide_eq_true hlt
          have HB2 := Lib.hid (show bst x y 1 = (a, b, c, d) by rw [bst_one, if_pos (by rw [HX.out]; exact ⟨hp, by rw [HP0.out] at hlt; exact hlt⟩)]; exact HX.out)
          clear hp hlt
          have hi := fun W => index2Y S1 S2 0 S1 (by omega) rfl 0 rfl W
          go_wp2_with fail
          clear hi
          refine (K1.out wr (HT.out.later HBW.out)).mono ?_
          rintro e w5 ⟨rfl, hb⟩
          have R5 := Lib.hid (blk_below HR0.out hb)
          have N5 := Lib.hid (blk_below HR1.out hb)
          have T5 := Lib.hid (blk_below HR2.out hb)
          have B5 := Lib.hid (HBW.out.trans (hb.mono HBW.out.size))
          have hl7 : w.heap.size + 2 < w5.heap.size := lt_of_block T5.out
          have hl8 : ¬ w.heap.size + 2 = w5.heap.size := by omega
          have c7 : w5.cell? ⟨w.heap.size + 2, 0, none⟩ = some (.int .i64 p) := by rw [cell_of_row _ _ _ _ _ _ T5.out]; rfl
          have c8 : (w5.alloc (.cells #[.int .i64 a, .int .i64 b, .int .i64 c, .int .i64 d] 48 (0, 0))).cell? ⟨w.heap.size + 2, 0, none⟩ = some (.int .i64 p) := by rw [cell_of_row _ _ _ _ _ _ (blk_alloc T5.out _)]; rfl
          clear hb HBW HR0 HR1 HR2
          have R6 := Lib.hid (blk_alloc R5.out (.cells #[.int .i64 a, .int .i64 b, .int .i64 c, .int .i64 d] 48 (0, 0)))
          have N6 := Lib.hid (blk_alloc N5.out (.cells #[.int .i64 a, .int .i64 b, .int .i64 c, .int .i64 d] 48 (0, 0)))
          have T6 := Lib.hid (blk_alloc T5.out (.cells #[.int .i64 a, .int .i64 b, .int .i64 c, .int .i64 d] 48 (0, 0)))
          have B6 := Lib.hid (B5.out.alloc B5.out.size (.cells #[.int .i64 a, .int .i64 b, .int .i64 c, .int .i64 d] 48 (0, 0)))
          have HSL := Lib.hid (fun W : World => slot_any a W)
          go_wp2_with fail
          refine (HSL.out _).mono ?_
          rintro e w6 ⟨rfl, rfl⟩
          go_wp2_with (refine wpList_store_rowY rfl 48 (.tmp 7) (.tmp 36) rfl (w.heap.size + 2) (hv a b c d) rfl rfl 48 _ T6.out (info_head _ _ _ _) rfl (one_head _ _ _ _) w.heap.size w B6.out (by omega) ?_)
          intro Wz hbk hoth hbel _
          have R7 := Lib.hid (blk_oth R6.out hoth.out (by omega))
          have N7 := Lib.hid (blk_oth N6.out hoth.out (by omega))
          have T7 := Lib.hid hbk.out
          have B7 := Lib.hid hbel.out
          clear hbk hoth hbel R6 N6 T6 B6 R5 N5 T5 B5 c7 c8
          go_wp2_with fail
          go_roundw
          case rel => exact ⟨1, a, b, c, d, rfl, by omega, HB2.out, R7, N7, T7, B7⟩
          case measure => simp [intOf]
        · have hdl : decide (p < a) = false := decide_eq_false hlt
          have HB2 := Lib.hid (show bst x y 1 = (p, q, r, s) by rw [bst_one, if_neg (by rw [HX.out]; intro g; exact hlt (by rw [HP0.out]; exact g.2))]; exact HBS.out)
          clear hp hlt
          have hi := fun W => index2Y S1 S2 0 S1 (by omega) rfl 0 rfl W
          go_wp2_with fail
          clear hi
          refine (K1.out wr (HT.out.later HBW.out)).mono ?_
          rintro e w5 ⟨rfl, hb⟩
          have R5 := Lib.hid (blk_below HR0.out hb)
          have N5 := Lib.hid (blk_below HR1.out hb)
          have T5 := Lib.hid (blk_below HR2.out hb)
          have B5 := Lib.hid (HBW.out.trans (hb.mono HBW.out.size))
          have hl7 : w.heap.size + 2 < w5.heap.size := lt_of_block T5.out
          have hl8 : ¬ w.heap.size + 2 = w5.heap.size := by omega
          have c7 : w5.cell? ⟨w.heap.size + 2, 0, none⟩ = some (.int .i64 p) := by rw [cell_of_row _ _ _ _ _ _ T5.out]; rfl
          have c8 : (w5.alloc (.cells #[.int .i64 a, .int .i64 b, .int .i64 c, .int .i64 d] 48 (0, 0))).cell? ⟨w.heap.size + 2, 0, none⟩ = some (.int .i64 p) := by rw [cell_of_row _ _ _ _ _ _ (blk_alloc T5.out _)]; rfl
          clear hb HBW HR0 HR1 HR2
          have HSL := Lib.hid (fun W : World => slot_any a W)
          go_wp2_with fail
          refine (HSL.out _).mono ?_
          rintro e w6 ⟨rfl, rfl⟩
          go_wp2_with fail
          go_roundw
          case rel => exact ⟨1, p, q, r, s, rfl, by omega, HB2.out, blk_alloc R5.out _, blk_alloc N5.out _, blk_alloc T5.out _, B5.out.alloc B5.out.size _⟩
          case measure => simp [intOf]
      · have hpb : (a % 2 == 0) = false := by simp; exact hp
        have HB2 := Lib.hid (show bst x y 1 = (p, q, r, s) by rw [bst_one, if_neg (by rw [HX.out]; intro g; exact hp g.1)]; exact HBS.out)
        clear hp
        have hi := fun W => index2Y S1 S2 0 S1 (by omega) rfl 0 rfl W
        go_wp2_with fail
        clear hi
        refine (K1.out wr (HT.out.later HBW.out)).mono ?_
        rintro e w5 ⟨rfl, hb⟩
        have R5 := Lib.hid (blk_below HR0.out hb)
        have N5 := Lib.hid (blk_below HR1.out hb)
        have T5 := Lib.hid (blk_below HR2.out hb)
        have B5 := Lib.hid (HBW.out.trans (hb.mono HBW.out.size))
        have hl7 : w.heap.size + 2 < w5.heap.size := lt_of_block T5.out
        have hl8 : ¬ w.heap.size + 2 = w5.heap.size := by omega
        have c7 : w5.cell? ⟨w.heap.size + 2, 0, none⟩ = some (.int .i64 p) := by rw [cell_of_row _ _ _ _ _ _ T5.out]; rfl
        have c8 : (w5.alloc (.cells #[.int .i64 a, .int .i64 b, .int .i64 c, .int .i64 d] 48 (0, 0))).cell? ⟨w.heap.size + 2, 0, none⟩ = some (.int .i64 p) := by rw [cell_of_row _ _ _ _ _ _ (blk_alloc T5.out _)]; rfl
        clear hb HBW HR0 HR1 HR2
        have HSL := Lib.hid (fun W : World => slot_any a W)
        go_wp2_with fail
        refine (HSL.out _).mono ?_
        rintro e w6 ⟨rfl, rfl⟩
        go_wp2_with fail
        go_roundw
        case rel => exact ⟨1, p, q, r, s, rfl, by omega, HB2.out, blk_alloc R5.out _, blk_alloc N5.out _, blk_alloc T5.out _, B5.out.alloc B5.out.size _⟩
        case measure => simp [intOf]
    · by_cases hp : a2 % 2 = 1
      · have hpb : (a2 % 2 == 1) = true := by simp; exact hp
        by_cases hlt : p < a2
        · have hdl : decide (p < a2) = true := decide_eq_true hlt
          have HB2 := Lib.hid (show bst x y 2 = (a2, b2, c2, d2) by rw [bst_two, if_pos (by rw [HBS.out, HY.out]; exact ⟨hp, hlt⟩)]; exact HY.out)
          clear hp hlt
          have hi := fun W => index2Y S1 S2 1 S2 (by omega) rfl 1 rfl W
          go_wp2_with fail
          clear hi
          refine (K2.out wr (HT.out.later HBW.out)).mono ?_
          rintro e w5 ⟨rfl, hb⟩
          have R5 := Lib.hid (blk_below HR0.out hb)
          have N5 := Lib.hid (blk_below HR1.out hb)
          have T5 := Lib.hid (blk_below HR2.out hb)
          have B5 := Lib.hid (HBW.out.trans (hb.mono HBW.out.size))
          have hl7 : w.heap.size + 2 < w5.heap.size := lt_of_block T5.out
          have hl8 : ¬ w.heap.size + 2 = w5.heap.size := by omega
          have c7 : w5.cell? ⟨w.heap.size + 2, 0, none⟩ = some (.int .i64 p) := by rw [cell_of_row _ _ _ _ _ _ T5.out]; rfl
          have c8 : (w5.alloc (.cells #[.int .i64 a2, .int .i64 b2, .int .i64 c2, .int .i64 d2] 48 (0, 0))).cell? ⟨w.heap.size + 2, 0, none⟩ = some (.int .i64 p) := by rw [cell_of_row _ _ _ _ _ _ (blk_alloc T5.out _)]; rfl
          clear hb HBW HR0 HR1 HR2
          have R6 := Lib.hid (blk_alloc R5.out (.cells #[.int .i64 a2, .int .i64 b2, .int .i64 c2, .int .i64 d2] 48 (0, 0)))
          have N6 := Lib.hid (blk_alloc N5.out (.cells #[.int .i64 a2, .int .i64 b2, .int .i64 c2, .int .i64 d2] 48 (0, 0)))
          have T6 := Lib.hid (blk_alloc T5.out (.cells #[.int .i64 a2, .int .i64 b2, .int .i64 c2, .int .i64 d2] 48 (0, 0)))
          have B6 := Lib.hid (B5.out.alloc B5.out.size (.cells #[.int .i64 a2, .int .i64 b2, .int .i64 c2, .int .i64 d2] 48 (0, 0)))
          have HSL := Lib.hid (fun W : World => slot_any a2 W)
          go_wp2_with fail
          refine (HSL.out _).mono ?_
          rintro e w6 ⟨rfl, rfl⟩
          go_wp2_with (refine wpList_store_rowY rfl 48 (.tmp 7) (.tmp 36) rfl (w.heap.size + 2) (hv a2 b2 c2 d2) rfl rfl 48 _ T6.out (info_head _ _ _ _) rfl (one_head _ _ _ _) w.heap.size w B6.out (by omega) ?_)
          intro Wz hbk hoth hbel _
          have R7 := Lib.hid (blk_oth R6.out hoth.out (by omega))
          have N7 := Lib.hid (blk_oth N6.out hoth.out (by omega))
          have T7 := Lib.hid hbk.out
          have B7 := Lib.hid hbel.out
          clear hbk hoth hbel R6 N6 T6 B6 R5 N5 T5 B5 c7 c8
          go_wp2_with fail
          go_roundw
          case rel => exact ⟨2, a2, b2, c2, d2, rfl, by omega, HB2.out, R7, N7, T7, B7⟩
          case measure => simp [intOf]
        · have hdl : decide (p < a2) = false := decide_eq_false hlt
          have HB2 := Lib.hid (show bst x y 2 = (p, q, r, s) by rw [bst_two, if_neg (by rw [HBS.out, HY.out]; intro g; exact hlt g.2)]; exact HBS.out)
          clear hp hlt
          have hi := fun W => index2Y S1 S2 1 S2 (by omega) rfl 1 rfl W
          go_wp2_with fail
          clear hi
          refine (K2.out wr (HT.out.later HBW.out)).mono ?_
          rintro e w5 ⟨rfl, hb⟩
          have R5 := Lib.hid (blk_below HR0.out hb)
          have N5 := Lib.hid (blk_below HR1.out hb)
          have T5 := Lib.hid (blk_below HR2.out hb)
          have B5 := Lib.hid (HBW.out.trans (hb.mono HBW.out.size))
          have hl7 : w.heap.size + 2 < w5.heap.size := lt_of_block T5.out
          have hl8 : ¬ w.heap.size + 2 = w5.heap.size := by omega
          have c7 : w5.cell? ⟨w.heap.size + 2, 0, none⟩ = some (.int .i64 p) := by rw [cell_of_row _ _ _ _ _ _ T5.out]; rfl
          have c8 : (w5.alloc (.cells #[.int .i64 a2, .int .i64 b2, .int .i64 c2, .int .i64 d2] 48 (0, 0))).cell? ⟨w.heap.size + 2, 0, none⟩ = some (.int .i64 p) := by rw [cell_of_row _ _ _ _ _ _ (blk_alloc T5.out _)]; rfl
          clear hb HBW HR0 HR1 HR2
          have HSL := Lib.hid (fun W : World => slot_any a2 W)
          go_wp2_with fail
          refine (HSL.out _).mono ?_
          rintro e w6 ⟨rfl, rfl⟩
          go_wp2_with fail
          go_roundw
          case rel => exact ⟨2, p, q, r, s, rfl, by omega, HB2.out, blk_alloc R5.out _, blk_alloc N5.out _, blk_alloc T5.out _, B5.out.alloc B5.out.size _⟩
          case measure => simp [intOf]
      · have hpb : (a2 % 2 == 1) = false := by simp; exact hp
        have HB2 := Lib.hid (show bst x y 2 = (p, q, r, s) by rw [bst_two, if_neg (by rw [HBS.out, HY.out]; intro g; exact hp g.1)]; exact HBS.out)
        clear hp
        have hi := fun W => index2Y S1 S2 1 S2 (by omega) rfl 1 rfl W
        go_wp2_with fail
        clear hi
        refine (K2.out wr (HT.out.later HBW.out)).mono ?_
        rintro e w5 ⟨rfl, hb⟩
        have R5 := Lib.hid (blk_below HR0.out hb)
        have N5 := Lib.hid (blk_below HR1.out hb)
        have T5 := Lib.hid (blk_below HR2.out hb)
        have B5 := Lib.hid (HBW.out.trans (hb.mono HBW.out.size))
        have hl7 : w.heap.size + 2 < w5.heap.size := lt_of_block T5.out
        have hl8 : ¬ w.heap.size + 2 = w5.heap.size := by omega
        have c7 : w5.cell? ⟨w.heap.size + 2, 0, none⟩ = some (.int .i64 p) := by rw [cell_of_row _ _ _ _ _ _ T5.out]; rfl
        have c8 : (w5.alloc (.cells #[.int .i64 a2, .int .i64 b2, .int .i64 c2, .int .i64 d2] 48 (0, 0))).cell? ⟨w.heap.size + 2, 0, none⟩ = some (.int .i64 p) := by rw [cell_of_row _ _ _ _ _ _ (blk_alloc T5.out _)]; rfl
        clear hb HBW HR0 HR1 HR2
        have HSL := Lib.hid (fun W : World => slot_any a2 W)
        go_wp2_with fail
        refine (HSL.out _).mono ?_
        rintro e w6 ⟨rfl, rfl⟩
        go_wp2_with fail
        go_roundw
        case rel => exact ⟨2, p, q, r, s, rfl, by omega, HB2.out, blk_alloc R5.out _, blk_alloc N5.out _, blk_alloc T5.out _, B5.out.alloc B5.out.size _⟩
        case measure => simp [intOf]
    · clear R0 N0 T0 B0
      have hbd := bst_good x y (by rw [HX.out]; exact HXG.out) (by rw [HY.out]; exact HYG.out) 2
      rw [HBS.out] at hbd
      have HV := Lib.hid HBS.out
      have c0 : wr.cell? ⟨w.heap.size, 0, none⟩ = some (.int .i64 0) := by rw [cell_of_row _ _ _ _ _ _ HR0.out]; rfl
      have c1 : wr.cell? ⟨w.heap.size, 1, none⟩ = some (.int .i64 0) := by rw [cell_of_row _ _ _ _ _ _ HR0.out]; rfl
      have c2 : wr.cell? ⟨w.heap.size, 2, none⟩ = some (.int .i64 0) := by rw [cell_of_row _ _ _ _ _ _ HR0.out]; rfl
      have c3 : wr.cell? ⟨w.heap.size, 3, none⟩ = some (.int .i64 0) := by rw [cell_of_row _ _ _ _ _ _ HR0.out]; rfl
      have z0 : wr.frozen? ⟨w.heap.size, 0, none⟩ = false := frozen_of_row _ _ _ _ _ HR0.out
      have z1 : wr.frozen? ⟨w.heap.size, 1, none⟩ = false := frozen_of_row _ _ _ _ _ HR0.out
      have z2 : wr.frozen? ⟨w.heap.size, 2, none⟩ = false := frozen_of_row _ _ _ _ _ HR0.out
      have z3 : wr.frozen? ⟨w.heap.size, 3, none⟩ = false := frozen_of_row _ _ _ _ _ HR0.out
      have n0 : wr.cell? ⟨w.heap.size + 1, 0, none⟩ = some (.int .i64 0) := by rw [cell_of_row _ _ _ _ _ _ HR1.out]; rfl
      have n1 : wr.cell? ⟨w.heap.size + 1, 1, none⟩ = some (.int .i64 0) := by rw [cell_of_row _ _ _ _ _ _ HR1.out]; rfl
      have n2 : wr.cell? ⟨w.heap.size + 1, 2, none⟩ = some (.int .i64 0) := by rw [cell_of_row _ _ _ _ _ _ HR1.out]; rfl
      have n3 : wr.cell? ⟨w.heap.size + 1, 3, none⟩ = some (.int .i64 0) := by rw [cell_of_row _ _ _ _ _ _ HR1.out]; rfl
      have t0 : wr.cell? ⟨w.heap.size + 2, 0, none⟩ = some (.int .i64 p) := by rw [cell_of_row _ _ _ _ _ _ HR2.out]; rfl
      have t1 : wr.cell? ⟨w.heap.size + 2, 1, none⟩ = some (.int .i64 q) := by rw [cell_of_row _ _ _ _ _ _ HR2.out]; rfl
      have t2 : wr.cell? ⟨w.heap.size + 2, 2, none⟩ = some (.int .i64 r) := by rw [cell_of_row _ _ _ _ _ _ HR2.out]; rfl
      have t3 : wr.cell? ⟨w.heap.size + 2, 3, none⟩ = some (.int .i64 s) := by rw [cell_of_row _ _ _ _ _ _ HR2.out]; rfl
      have HBWo := HBW.out
      have HR0o := HR0.out
      have HBSo := HBS.out
      clear HV
      clear HBW HR0 HR1 HR2 HX HY HXG HYG K1 K2 HT
      rcases hbd with hz | hge
      · simp only [Prod.mk.injEq] at hz
        obtain ⟨rfl, rfl, rfl, rfl⟩ := hz
        go_wp2_with fail
        go_region
        generalize hWz : ((((wr.setCell ⟨w.heap.size, 0, none⟩ (.int .i64 0)).setCell ⟨w.heap.size, 1, none⟩ (.int .i64 0)).setCell ⟨w.heap.size, 2, none⟩ (.int .i64 0)).setCell ⟨w.heap.size, 3, none⟩ (.int .i64 0)).drew = Wz
        have HK := Lib.hid (show Wz.heap[w.heap.size]? = some (.cells (hv 0 0 0 0) 48 (0, 0)) by rw [← hWz]; exact set4 wr w.heap.size 0 0 0 0 0 0 0 0 HR0o)
        have HE := Lib.hid (show Below w.heap.size w Wz by rw [← hWz]; exact ((((HBWo.setCell (p := ⟨w.heap.size, 0, none⟩) (Nat.le_refl _) _).setCell (p := ⟨w.heap.size, 1, none⟩) (Nat.le_refl _) _).setCell (p := ⟨w.heap.size, 2, none⟩) (Nat.le_refl _) _).setCell (p := ⟨w.heap.size, 3, none⟩) (Nat.le_refl _) _).drew)
        have HBO := Lib.hid HBSo
        clear hWz c0 c1 c2 c3 z0 z1 z2 z3 n0 n1 n2 n3 t0 t1 t2 t3 HR0o HBSo HBWo
        go_wp2_with fail
        refine bodyPost_ret (results_ctY rfl _ _ w.heap.size (hv 0 0 0 0) rfl (run_loadVar_row _ w.heap.size 48 48 _ (0, 0) _ HK.out Tryd.underlying48 rfl (info_head _ _ _ _))) rfl ?_
        exact ⟨by rw [HBO.out]; rfl, HE.out⟩
      · have hp1 : (p == 0) = false := by simp; dsimp only at hge; omega
        have hpp : decide (0 < p) = true := decide_eq_true (by dsimp only at hge; omega)
        have HPP := Lib.hid hpp
        clear hpp hge
        go_wp2_with fail
        go_region
        generalize hWz : ((((wr.setCell ⟨w.heap.size, 0, none⟩ (.int .i64 p)).setCell ⟨w.heap.size, 1, none⟩ (.int .i64 q)).setCell ⟨w.heap.size, 2, none⟩ (.int .i64 r)).setCell ⟨w.heap.size, 3, none⟩ (.int .i64 s)).drew = Wz
        have HK := Lib.hid (show Wz.heap[w.heap.size]? = some (.cells (hv p q r s) 48 (0, 0)) by rw [← hWz]; exact set4 wr w.heap.size 0 0 0 0 p q r s HR0o)
        have HE := Lib.hid (show Below w.heap.size w Wz by rw [← hWz]; exact ((((HBWo.setCell (p := ⟨w.heap.size, 0, none⟩) (Nat.le_refl _) _).setCell (p := ⟨w.heap.size, 1, none⟩) (Nat.le_refl _) _).setCell (p := ⟨w.heap.size, 2, none⟩) (Nat.le_refl _) _).setCell (p := ⟨w.heap.size, 3, none⟩) (Nat.le_refl _) _).drew)
        have HBO := Lib.hid HBSo
        clear hWz c0 c1 c2 c3 z0 z1 z2 z3 n0 n1 n2 n3 t0 t1 t2 t3 HR0o HBSo HBWo
        go_wp2_with fail
        refine bodyPost_ret (results_ctY rfl _ _ w.heap.size (hv p q r s) rfl (run_loadVar_row _ w.heap.size 48 48 _ (0, 0) _ HK.out Tryd.underlying48 rfl (info_head _ _ _ _))) rfl ?_
        exact ⟨by rw [HBO.out]; exact retC (by unfold chB; dsimp only; rw [HPP.out]; rfl), HE.out⟩
end Go.Proofs.YtcgoegehgcecpaaDoor
