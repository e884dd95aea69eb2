/- Words on properties; elem.mayStand; cmp.Or of errors, however many. Conditions: texts that are no longer than a text may be. -/
import Derived.Test.YtagenkofoacajaaGreatTq
import Derived.Test.YtagenkofoacajaaGreatPr
import Derived.Test.YtagenkofoacajaaGreatZb
import Derived.Test.YtagenkofoacajaaGreatNc
import Derived.Test.YtagenkofoacajaaGreatNf
import Derived.Test.YtagenkofoacajaaGreatWr
import Derived.Test.YtagenkofoacajaaGreatWe
import Derived.Test.YtagenkofoacajaaGreatStB
namespace Go.Proofs.YtagenkofoacajaaGreat
open Go.RowKit Vi

abbrev Pr := ByteArray × Int × Int × ByteArray
def prC (p : Pr) : List Value := [.string p.1, .int .i64 p.2.1, .int .i64 p.2.2.1, .string p.2.2.2]
def ieC (n : Int) : List Value := [.int .i64 n]
theorem prC_len (p : Pr) : (prC p).length = 4 := rfl
theorem prC_one (p : Pr) : ∀ u ∈ prC p, u.oneCell' = true := by
  intro u hu
  simp [prC] at hu
  rcases hu with rfl | rfl | rfl | rfl <;> rfl
theorem rd_blk {α : Type} {f : α → List Value} {s : Nat} (hf : ∀ x, (f x).length = s) {w : World} {b : Nat} {T : TypeId} {fr : Nat × Nat} {cs : Array Value} (l : List α) (h : w.heap[b]? = some (.cells cs T fr)) (hc : cs.toList = flat f l) : RdX f s w (some ⟨b, 0, none⟩) l.length l :=
  ⟨rfl, fun _ => ⟨b, 0, rfl, lt_of_block h, fun k x j u hx hu => by
    have hg := flat_get hf l k j x u hx hu
    rw [← hc] at hg
    rw [cell_of_row _ _ _ _ _ _ h, Nat.zero_add]
    simpa using hg⟩⟩
/-- may a property stand? -/
def okP (p : Pr) : Bool := nm p.1 && vok p.2.1 p.2.2.1 p.2.2.2
/-- why properties may not be, behind a key -/
def prE (p : ByteArray) : List Pr → Int
  | [] => 0
  | x :: r => if okP x = false then 2 else if leS x.1 p = true then 4 else prE x.1 r
def prW (ps : List Pr) : Int := if 8 < ps.length then 5 else prE ⟨#[]⟩ ps
def prevP (ps : List Pr) : Nat → ByteArray
  | 0 => ⟨#[]⟩
  | k + 1 => (ps.getD k (⟨#[]⟩, 0, 0, ⟨#[]⟩)).1
theorem prE_at (p : ByteArray) (ps : List Pr) (k : Nat) (h : k < ps.length) : prE p (ps.drop k) = if okP ps[k] = false then 2 else if leS ps[k].1 p = true then 4 else prE ps[k].1 (ps.drop (k + 1)) := by
  rw [List.drop_eq_getElem_cons h]; rfl
theorem prE_end (p : ByteArray) (ps : List Pr) (k : Nat) (h : ps.length ≤ k) : prE p (ps.drop k) = 0 := by rw [List.drop_eq_nil_of_le h]; rfl
theorem prevP_succ (ps : List Pr) (k : Nat) (h : k < ps.length) : prevP ps (k + 1) = ps[k].1 := by
  show (ps.getD k _).1 = _
  rw [List.getD_eq_getElem?_getD, List.getElem?_eq_getElem h]; rfl
theorem okP_nm {p : Pr} (h : okP p = true) : nm p.1 = true := by unfold okP at h; rw [Bool.and_eq_true] at h; exact h.1
def orL : List Int → Int
  | [] => 0
  | x :: r => if x ≠ 0 then x else orL r
theorem orL_at (l : List Int) (k : Nat) (h : k < l.length) : orL (l.drop k) = if l[k] ≠ 0 then l[k] else orL (l.drop (k + 1)) := by rw [List.drop_eq_getElem_cons h]; rfl
theorem orL_end (l : List Int) (k : Nat) (h : l.length ≤ k) : orL (l.drop k) = 0 := by rw [List.drop_eq_nil_of_le h]; rfl
theorem retI {a b : Int} (h : a = b) : Ending.returned (.int .i64 a) = .returned (.int .i64 b) := by rw [h]
theorem retBo {a b : Bool} (h : a = b) : Ending.returned (.bool a) = .returned (.bool b) := by rw [h]
set_option maxRecDepth 100000 in
set_option maxHeartbeats 1000000 in
theorem orE_any (g off n c : Nat) (l : List Int) (w : World) (h : RdX ieC 1 w (some ⟨g, off, none⟩) n l) (hn : (n : Int) ≤ 9223372036854775807) :
    Calls Tryz.prog 129 #[.slice (some ⟨g, off, none⟩) n c] w fun e w' => e = .returned (.int .i64 (orL l)) ∧ w = w' := by
  have H := Lib.hid h
  have L := Lib.hid h.1
  clear h
  go_enter Tryz.func129, Tryz.ntmps129
  go_wp2_with fail
  go_loop [8] (fun i => ∃ k : Nat, i = .int .i64 (k : Int) ∧ k ≤ n ∧ orL (l.drop k) = orL l) (fun i => n - (intOf i).toNat)
  case atStart => exact ⟨0, rfl, Nat.zero_le _, rfl⟩
  case round =>
    obtain ⟨k, rfl, hk, hs⟩ := hrel
    have HS := Lib.hid hs
    clear hs
    by_cases hlt : k < n
    · have hd1 : decide ((k : Int) < (n : Int)) = true := decide_eq_true (by omega)
      have hl : k < l.length := by rw [L.out]; exact hlt
      have HA := Lib.hid (orL_at l k hl)
      obtain ⟨x, hx⟩ : ∃ x, l[k] = x := ⟨_, rfl⟩
      have HX := Lib.hid (show l[k]? = some x by rw [List.getElem?_eq_getElem hl, hx])
      have a0 : w.cell? ⟨g, off + k, none⟩ = some (.int .i64 x) := by have h := H.out.cellAt HX.out hlt 0 _ rfl; rw [Nat.add_zero, Nat.mul_one] at h; exact h
      rw [hx] at HA
      have hi0 : (0 : Int) ≤ (k : Int) := by omega
      clear hx
      by_cases hz : x = 0
      · have hz1 : (x != 0) = false := by rw [hz]; rfl
        have HR := Lib.hid (show orL (l.drop (k + 1)) = orL l by rw [← HS.out, HA.out, if_neg (by omega)])
        clear hz
        go_wp2_with fail
        go_round
        case rel => exact ⟨k + 1, by go_num, by omega, HR.out⟩
        case measure => simp [intOf] <;> omega
      · have hz1 : (x != 0) = true := by simpa using hz
        have HR := Lib.hid (show x = orL l by rw [← HS.out, HA.out, if_pos hz])
        clear hz
        go_wp2_with fail
        go_ret
        exact ⟨retI HR.out, rfl⟩
    · have hd1 : decide ((k : Int) < (n : Int)) = false := decide_eq_false (by omega)
      have HR := Lib.hid (show (0 : Int) = orL l by rw [← HS.out, orL_end l k (by rw [L.out]; omega)])
      go_wp2_with fail
      go_ret
      exact ⟨retI HR.out, rfl⟩
set_option maxRecDepth 100000 in
set_option maxHeartbeats 1000000 in
theorem stand_any (k : ByteArray) (a d : Int) (t : ByteArray) (w : World) (hk : k.size ≤ maxLen) :
    Calls Tryz.prog 111 #[.agg #[.string k, .int .i64 a, .int .i64 d, .string t]] w fun e w' => e = .returned (.bool (okP (k, a, d, t))) ∧ Below w.heap.size w w' := by
  cases hn : nm k with
  | false =>
    have HC := Lib.hid (fun W : World => ncheck_any k W hk)
    rw [nck_no k hn] at HC
    have HV := Lib.hid (show false = okP (k, a, d, t) by unfold okP; rw [show nm (k, a, d, t).1 = false from hn]; rfl)
    clear hn
    have HB1 := Lib.hid (Below.refl w.heap.size w)
    go_enter Tryz.func111, Tryz.ntmps111
    have HF2 := Lib.hid (blk_new w (.cells #[.string k, .int .i64 a, .int .i64 d, .string t] 92 (0, 0)))
    have HB3 := Lib.hid (HB1.out.alloc HB1.out.size (.cells #[.string k, .int .i64 a, .int .i64 d, .string t] 92 (0, 0)))
    clear HB1
    have hc4 : (w.alloc (.cells #[.string k, .int .i64 a, .int .i64 d, .string t] 92 (0, 0))).cell? ⟨w.heap.size, 0, none⟩ = some (.string k) := by rw [cell_of_row _ _ _ _ _ _ HF2.out]; rfl
    have hc5 : (w.alloc (.cells #[.string k, .int .i64 a, .int .i64 d, .string t] 92 (0, 0))).cell? ⟨w.heap.size, 1, none⟩ = some (.int .i64 a) := by rw [cell_of_row _ _ _ _ _ _ HF2.out]; rfl
    have hc6 : (w.alloc (.cells #[.string k, .int .i64 a, .int .i64 d, .string t] 92 (0, 0))).cell? ⟨w.heap.size, 2, none⟩ = some (.int .i64 d) := by rw [cell_of_row _ _ _ _ _ _ HF2.out]; rfl
    have hc7 : (w.alloc (.cells #[.string k, .int .i64 a, .int .i64 d, .string t] 92 (0, 0))).cell? ⟨w.heap.size, 3, none⟩ = some (.string t) := by rw [cell_of_row _ _ _ _ _ _ HF2.out]; rfl
    go_wp2_with fail
    refine (HC.out (w.alloc (.cells #[.string k, .int .i64 a, .int .i64 d, .string t] 92 (0, 0)))).mono ?_
    rintro e w' ⟨rfl, rfl⟩
    go_wp2_with fail
    go_ret
    exact ⟨retBo HV.out, HB3.out⟩
  | true =>
    have HC := Lib.hid (fun W : World => ncheck_any k W hk)
    rw [nck_yes k hn] at HC
    have HD := Lib.hid (fun W : World => vcheck_any a d t W)
    have HN := Lib.hid (show okP (k, a, d, t) = vok a d t by unfold okP; rw [show nm (k, a, d, t).1 = true from hn]; rfl)
    clear hn
    cases hv : vok a d t with
    | false =>
      rw [errV_no hv] at HD
      have HV := Lib.hid (HN.out.trans hv).symm
      clear hv HN
      have HB1 := Lib.hid (Below.refl w.heap.size w)
      go_enter Tryz.func111, Tryz.ntmps111
      have HF2 := Lib.hid (blk_new w (.cells #[.string k, .int .i64 a, .int .i64 d, .string t] 92 (0, 0)))
      have HB3 := Lib.hid (HB1.out.alloc HB1.out.size (.cells #[.string k, .int .i64 a, .int .i64 d, .string t] 92 (0, 0)))
      clear HB1
      have hc4 : (w.alloc (.cells #[.string k, .int .i64 a, .int .i64 d, .string t] 92 (0, 0))).cell? ⟨w.heap.size, 0, none⟩ = some (.string k) := by rw [cell_of_row _ _ _ _ _ _ HF2.out]; rfl
      have hc5 : (w.alloc (.cells #[.string k, .int .i64 a, .int .i64 d, .string t] 92 (0, 0))).cell? ⟨w.heap.size, 1, none⟩ = some (.int .i64 a) := by rw [cell_of_row _ _ _ _ _ _ HF2.out]; rfl
      have hc6 : (w.alloc (.cells #[.string k, .int .i64 a, .int .i64 d, .string t] 92 (0, 0))).cell? ⟨w.heap.size, 2, none⟩ = some (.int .i64 d) := by rw [cell_of_row _ _ _ _ _ _ HF2.out]; rfl
      have hc7 : (w.alloc (.cells #[.string k, .int .i64 a, .int .i64 d, .string t] 92 (0, 0))).cell? ⟨w.heap.size, 3, none⟩ = some (.string t) := by rw [cell_of_row _ _ _ _ _ _ HF2.out]; rfl
      go_wp2_with fail
      refine (HC.out (w.alloc (.cells #[.string k, .int .i64 a, .int .i64 d, .string t] 92 (0, 0)))).mono ?_
      rintro e w' ⟨rfl, rfl⟩
      go_wp2_with fail
      clear hc4 hc5 hc6 hc7
      refine (HD.out (w.alloc (.cells #[.string k, .int .i64 a, .int .i64 d, .string t] 92 (0, 0)))).mono ?_
      rintro e w1 ⟨rfl, hb1⟩
      have HF8 := Lib.hid (blk_below HF2.out hb1)
      have HB9 := Lib.hid (HB3.out.trans (hb1.mono HB3.out.size))
      clear hb1 HB3 HF2
      go_wp2_with fail
      go_ret
      exact ⟨retBo HV.out, HB9.out⟩
    | true =>
      rw [errV_yes hv] at HD
      have HV := Lib.hid (HN.out.trans hv).symm
      clear hv HN
      have HB1 := Lib.hid (Below.refl w.heap.size w)
      go_enter Tryz.func111, Tryz.ntmps111
      have HF2 := Lib.hid (blk_new w (.cells #[.string k, .int .i64 a, .int .i64 d, .string t] 92 (0, 0)))
      have HB3 := Lib.hid (HB1.out.alloc HB1.out.size (.cells #[.string k, .int .i64 a, .int .i64 d, .string t] 92 (0, 0)))
      clear HB1
      have hc4 : (w.alloc (.cells #[.string k, .int .i64 a, .int .i64 d, .string t] 92 (0, 0))).cell? ⟨w.heap.size, 0, none⟩ = some (.string k) := by rw [cell_of_row _ _ _ _ _ _ HF2.out]; rfl
      have hc5 : (w.alloc (.cells #[.string k, .int .i64 a, .int .i64 d, .string t] 92 (0, 0))).cell? ⟨w.heap.size, 1, none⟩ = some (.int .i64 a) := by rw [cell_of_row _ _ _ _ _ _ HF2.out]; rfl
      have hc6 : (w.alloc (.cells #[.string k, .int .i64 a, .int .i64 d, .string t] 92 (0, 0))).cell? ⟨w.heap.size, 2, none⟩ = some (.int .i64 d) := by rw [cell_of_row _ _ _ _ _ _ HF2.out]; rfl
      have hc7 : (w.alloc (.cells #[.string k, .int .i64 a, .int .i64 d, .string t] 92 (0, 0))).cell? ⟨w.heap.size, 3, none⟩ = some (.string t) := by rw [cell_of_row _ _ _ _ _ _ HF2.out]; rfl
      go_wp2_with fail
      refine (HC.out (w.alloc (.cells #[.string k, .int .i64 a, .int .i64 d, .string t] 92 (0, 0)))).mono ?_
      rintro e w' ⟨rfl, rfl⟩
      go_wp2_with fail
      clear hc4 hc5 hc6 hc7
      refine (HD.out (w.alloc (.cells #[.string k, .int .i64 a, .int .i64 d, .string t] 92 (0, 0)))).mono ?_
      rintro e w1 ⟨rfl, hb1⟩
      have HF8 := Lib.hid (blk_below HF2.out hb1)
      have HB9 := Lib.hid (HB3.out.trans (hb1.mono HB3.out.size))
      clear hb1 HB3 HF2
      go_wp2_with fail
      go_ret
      exact ⟨retBo HV.out, HB9.out⟩
end Go.Proofs.YtagenkofoacajaaGreat
