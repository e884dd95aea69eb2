/- Words on chunks; the library's IndexFunc and ContainsFunc as chunk asks them; chunk.fits and mayHave. Condition: slices of fewer than 2 to the 62nd. -/
import Derived.Test.YtdjjabjegmbmaaaPr
import Derived.Test.YtdjjabjegmbmaaaZb
import Derived.Test.YtdjjabjegmbmaaaNc
namespace Go.Proofs.Ytdjjabjegmbmaaa
open Go.RowKit Vi

abbrev En := ByteArray × ByteArray
def enC (e : En) : List Value := [.string e.1, .string e.2]
def inC (n : Int) : List Value := [.int .i64 n]
theorem enC_len (e : En) : (enC e).length = 2 := rfl
theorem inC_len (n : Int) : (inC n).length = 1 := rfl
theorem enC_one (p : En) : ∀ u ∈ enC p, u.oneCell' = true := by
  intro u hu
  simp [enC] at hu
  rcases hu with rfl | rfl <;> rfl
theorem inC_one (p : Int) : ∀ u ∈ inC p, u.oneCell' = true := by
  intro u hu
  simp [inC] at hu
  subst hu; rfl
/-- a chunk's slices read as lists -/
structure ChR (w : World) (ea ca : Option Addr) (en cn : Nat) (es : List En) (cs : List Int) : Prop where
  e : RdX enC 2 w ea en es
  c : RdX inC 1 w ca cn cs
theorem ChR.below {w w' : World} {ea ca : Option Addr} {en cn : Nat} {es : List En} {cs : List Int} (h : ChR w ea ca en cn es cs) (hb : Below w.heap.size w w') : ChR w' ea ca en cn es cs := ⟨h.e.below hb, h.c.below hb⟩
theorem ChR.alloc {w : World} {ea ca : Option Addr} {en cn : Nat} {es : List En} {cs : List Int} (h : ChR w ea ca en cn es cs) (o : Obj) : ChR (w.alloc o) ea ca en cn es cs := ⟨h.e.alloc o, h.c.alloc o⟩
theorem info_ch (a b c : Value) : (Try.prog.info? 26).map (·.size) = some (#[a, b, c] : Array Value).size := by kernel_rfl
theorem one_ch (lv : Int) (ea ca : Option Addr) (en ec cn cc : Nat) : (#[.int .i64 lv, .slice ea en ec, .slice ca cn cc] : Array Value).all (·.oneCell') = true := by simp [Value.oneCell']
/-- the place of the first one -/
def firstIx {α : Type} (p : α → Bool) : List α → Nat → Int
  | [], _ => -1
  | x :: r, k => if p x = true then (k : Int) else firstIx p r (k + 1)
theorem firstIx_at {α : Type} (p : α → Bool) (l : List α) (k : Nat) (h : k < l.length) : firstIx p (l.drop k) k = if p l[k] = true then (k : Int) else firstIx p (l.drop (k + 1)) (k + 1) := by
  rw [List.drop_eq_getElem_cons h]; rfl
theorem firstIx_end {α : Type} (p : α → Bool) (l : List α) (k : Nat) (h : l.length ≤ k) : firstIx p (l.drop k) k = -1 := by
  rw [List.drop_eq_nil_of_le h]; rfl
theorem firstIx_any {α : Type} (p : α → Bool) : ∀ (l : List α) (k : Nat), decide (0 ≤ firstIx p l k) = l.any p
  | [], _ => rfl
  | x :: r, k => by
    unfold firstIx
    rw [List.any_cons]
    cases hp : p x with
    | true => simp
    | false => rw [if_neg (by simp), firstIx_any p r (k + 1)]; simp
theorem firstIx_lt {α : Type} (p : α → Bool) : ∀ (l : List α) (k : Nat), -1 ≤ firstIx p l k ∧ firstIx p l k < (k : Int) + l.length ∨ l = []
  | [], _ => Or.inr rfl
  | x :: r, k => by
    left
    unfold firstIx
    rw [List.length_cons]
    split
    · omega
    · rcases firstIx_lt p r (k + 1) with h | h
      · omega
      · subst h; simp [firstIx]; omega
/-- is a count none? -/
def badI (n : Int) : Bool := decide (n < 1) || decide (2147483648 < n)
set_option maxRecDepth 100000 in
theorem fits1_any (n : Int) (w : World) : Calls Try.prog 197 #[.int .i64 n] w fun e w' => e = .returned (.bool (badI n)) ∧ w = w' := by
  by_cases h : n < 1
  · have HV := Lib.hid (show badI n = true by unfold badI; rw [decide_eq_true h]; rfl)
    have d1 : decide (n < 1) = true := decide_eq_true h
    clear h
    go_enter Try.func197, Try.ntmps197
    go_wp2_with fail
    go_ret
    exact ⟨by first | (rw [HV.out]; done) | (rw [HV.out]; rfl), rfl⟩
  · have HV := Lib.hid (show badI n = decide (2147483648 < n) by unfold badI; rw [decide_eq_false h]; rfl)
    have d1 : decide (n < 1) = false := decide_eq_false h
    clear h
    go_enter Try.func197, Try.ntmps197
    go_wp2_with fail
    go_ret
    exact ⟨by first | (rw [HV.out]; done) | (rw [HV.out]; rfl), rfl⟩
set_option maxRecDepth 100000 in
set_option maxHeartbeats 1600000 in
theorem ixInt_any (A : Option Addr) (n c : Nat) (l : List Int) (w : World) (h : RdX inC 1 w A n l) (hn : (n : Int) ≤ 9223372036854775807) :
    Calls Try.prog 218 #[.slice A n c, .func (.func 197) #[] #[]] w fun e w' => e = .returned (.int .i64 (firstIx badI l 0)) ∧ w = w' := by
  have H := Lib.hid h
  have LL := Lib.hid h.1
  clear h
  go_enter Try.func218, Try.ntmps218
  go_wp2_with fail
  go_loop [8] (fun i => ∃ k : Nat, i = .int .i64 (k : Int) ∧ k ≤ n ∧ firstIx badI (l.drop k) k = firstIx badI l 0) (fun i => n - (intOf i).toNat)
  case atStart => exact ⟨0, rfl, Nat.zero_le _, rfl⟩
  case round =>
    obtain ⟨k, rfl, hk, hs⟩ := hrel
    have HS := Lib.hid hs
    clear hs
    by_cases hlt : k < n
    · have hd1 : decide ((k : Int) < (n : Int)) = true := decide_eq_true (by omega)
      obtain ⟨b, off, hl, rfl, hbb, hc⟩ := H.out.at hlt
      have HA := Lib.hid (firstIx_at badI l k hl)
      obtain ⟨x, hx⟩ : ∃ x, l[k] = x := ⟨_, rfl⟩
      rw [hx] at hc HA
      have a0 : w.cell? ⟨b, off + k * 1, none⟩ = some (.int .i64 x) := hc 0 _ rfl
      have a1 : w.cell? ⟨b, off + k, none⟩ = some (.int .i64 x) := by rw [← Nat.mul_one k]; exact a0
      clear hc hx
      cases hp : badI x with
      | true =>
        have HF := Lib.hid (fits1_any x w)
        rw [hp] at HF
        have HR := Lib.hid (show (k : Int) = firstIx badI l 0 by have := HA.out; rw [if_pos hp] at this; exact this.symm.trans HS.out)
        clear hp
        go_wp2_with fail
        refine HF.out.mono ?_
        rintro e w' ⟨rfl, rfl⟩
        go_wp2_with fail
        go_ret
        exact ⟨by first | (rw [HR.out]; done) | (rw [HR.out]; rfl), rfl⟩
      | false =>
        have HF := Lib.hid (fits1_any x w)
        rw [hp] at HF
        have HR := Lib.hid (show firstIx badI (l.drop (k + 1)) (k + 1) = firstIx badI l 0 by have := HA.out; rw [if_neg (by rw [hp]; simp)] at this; exact this.symm.trans HS.out)
        clear hp
        go_wp2_with fail
        refine HF.out.mono ?_
        rintro e w' ⟨rfl, rfl⟩
        go_wp2_with fail
        go_round
        case rel => exact ⟨k + 1, by go_num, by omega, HR.out⟩
        case measure => simp [intOf] <;> omega
    · have hd1 : decide ((k : Int) < (n : Int)) = false := decide_eq_false (by omega)
      have HR := Lib.hid (show (-1 : Int) = firstIx badI l 0 from (firstIx_end badI l k (by rw [LL.out]; omega)).symm.trans HS.out)
      go_wp2_with fail
      go_ret
      exact ⟨by first | (rw [HR.out]; done) | (rw [HR.out]; rfl), rfl⟩
set_option maxRecDepth 100000 in
theorem hasInt_any (A : Option Addr) (n c : Nat) (l : List Int) (w : World) (h : RdX inC 1 w A n l) (hn : (n : Int) ≤ 9223372036854775807) :
    Calls Try.prog 196 #[.slice A n c, .func (.func 197) #[] #[]] w fun e w' => e = .returned (.bool (l.any badI)) ∧ w = w' := by
  have HX := Lib.hid (ixInt_any A n c l w h hn)
  have HV := Lib.hid (firstIx_any badI l 0)
  clear h
  generalize firstIx badI l 0 = z at HX HV
  go_enter Try.func196, Try.ntmps196
  go_wp2_with fail
  refine HX.out.mono ?_
  rintro e w' ⟨rfl, rfl⟩
  go_wp2_with fail
  go_ret
  exact ⟨by first | (rw [← HV.out]; done) | (rw [← HV.out]; rfl), rfl⟩
/-- may a chunk be, as far as no entry is looked at? -/
def fitB (lv : Int) (es : List En) (cs : List Int) : Bool :=
  if lv < 0 ∨ 40 < lv ∨ 8 < es.length then false else if lv = 0 then decide (cs.length = 0) else if es.length = 0 ∨ cs.length ≠ es.length then false else !cs.any badI
set_option maxRecDepth 100000 in
set_option maxHeartbeats 1600000 in
theorem fits_any (lv : Int) (ea ca : Option Addr) (en ec cn cc : Nat) (es : List En) (cs : List Int) (w : World) (h : ChR w ea ca en cn es cs) (hn : (en : Int) ≤ 9223372036854775807) (hm : (cn : Int) ≤ 9223372036854775807) :
    Calls Try.prog 167 #[.agg #[.int .i64 lv, .slice ea en ec, .slice ca cn cc]] w fun e w' => e = .returned (.bool (fitB lv es cs)) ∧ Below w.heap.size w w' := by
  have H := Lib.hid h
  have LE := Lib.hid h.e.1
  have LC := Lib.hid h.c.1
  clear h
  by_cases h1 : lv < 0
  · have d1 : decide (lv < 0) = true := decide_eq_true (by omega)
    have HV := Lib.hid (show false = fitB lv es cs by unfold fitB; rw [if_pos (Or.inl h1)])
    have HB1 := Lib.hid (Below.refl w.heap.size w)
    go_enter Try.func167, Try.ntmps167
    have HF2 := Lib.hid (blk_new w (.cells #[.int .i64 lv, .slice ea en ec, .slice ca cn cc] 26 (0, 0)))
    have HB3 := Lib.hid (HB1.out.alloc HB1.out.size (.cells #[.int .i64 lv, .slice ea en ec, .slice ca cn cc] 26 (0, 0)))
    clear HB1
    have hc4 : (w.alloc (.cells #[.int .i64 lv, .slice ea en ec, .slice ca cn cc] 26 (0, 0))).cell? ⟨w.heap.size, 0, none⟩ = some (.int .i64 lv) := by rw [cell_of_row _ _ _ _ _ _ HF2.out]; rfl
    have hc5 : (w.alloc (.cells #[.int .i64 lv, .slice ea en ec, .slice ca cn cc] 26 (0, 0))).cell? ⟨w.heap.size, 1, none⟩ = some (.slice ea en ec) := by rw [cell_of_row _ _ _ _ _ _ HF2.out]; rfl
    have hc6 : (w.alloc (.cells #[.int .i64 lv, .slice ea en ec, .slice ca cn cc] 26 (0, 0))).cell? ⟨w.heap.size, 2, none⟩ = some (.slice ca cn cc) := by rw [cell_of_row _ _ _ _ _ _ HF2.out]; rfl
    go_wp2_with fail
    go_ret
    exact ⟨by first | (rw [← HV.out]; done) | (rw [← HV.out]; rfl), HB3.out⟩
  by_cases h2 : 40 < lv
  · have d1 : decide (lv < 0) = false := decide_eq_false (by omega)
    have d2 : decide (40 < lv) = true := decide_eq_true (by omega)
    have HV := Lib.hid (show false = fitB lv es cs by unfold fitB; rw [if_pos (Or.inr (Or.inl h2))])
    have HB1 := Lib.hid (Below.refl w.heap.size w)
    go_enter Try.func167, Try.ntmps167
    have HF2 := Lib.hid (blk_new w (.cells #[.int .i64 lv, .slice ea en ec, .slice ca cn cc] 26 (0, 0)))
    have HB3 := Lib.hid (HB1.out.alloc HB1.out.size (.cells #[.int .i64 lv, .slice ea en ec, .slice ca cn cc] 26 (0, 0)))
    clear HB1
    have hc4 : (w.alloc (.cells #[.int .i64 lv, .slice ea en ec, .slice ca cn cc] 26 (0, 0))).cell? ⟨w.heap.size, 0, none⟩ = some (.int .i64 lv) := by rw [cell_of_row _ _ _ _ _ _ HF2.out]; rfl
    have hc5 : (w.alloc (.cells #[.int .i64 lv, .slice ea en ec, .slice ca cn cc] 26 (0, 0))).cell? ⟨w.heap.size, 1, none⟩ = some (.slice ea en ec) := by rw [cell_of_row _ _ _ _ _ _ HF2.out]; rfl
    have hc6 : (w.alloc (.cells #[.int .i64 lv, .slice ea en ec, .slice ca cn cc] 26 (0, 0))).cell? ⟨w.heap.size, 2, none⟩ = some (.slice ca cn cc) := by rw [cell_of_row _ _ _ _ _ _ HF2.out]; rfl
    go_wp2_with fail
    go_ret
    exact ⟨by first | (rw [← HV.out]; done) | (rw [← HV.out]; rfl), HB3.out⟩
  by_cases h3 : 8 < en
  · have d1 : decide (lv < 0) = false := decide_eq_false (by omega)
    have d2 : decide (40 < lv) = false := decide_eq_false (by omega)
    have d3 : decide ((8 : Int) < (en : Int)) = true := decide_eq_true (by omega)
    have HV := Lib.hid (show false = fitB lv es cs by unfold fitB; rw [if_pos (Or.inr (Or.inr (by rw [LE.out]; exact h3)))])
    have HB1 := Lib.hid (Below.refl w.heap.size w)
    go_enter Try.func167, Try.ntmps167
    have HF2 := Lib.hid (blk_new w (.cells #[.int .i64 lv, .slice ea en ec, .slice ca cn cc] 26 (0, 0)))
    have HB3 := Lib.hid (HB1.out.alloc HB1.out.size (.cells #[.int .i64 lv, .slice ea en ec, .slice ca cn cc] 26 (0, 0)))
    clear HB1
    have hc4 : (w.alloc (.cells #[.int .i64 lv, .slice ea en ec, .slice ca cn cc] 26 (0, 0))).cell? ⟨w.heap.size, 0, none⟩ = some (.int .i64 lv) := by rw [cell_of_row _ _ _ _ _ _ HF2.out]; rfl
    have hc5 : (w.alloc (.cells #[.int .i64 lv, .slice ea en ec, .slice ca cn cc] 26 (0, 0))).cell? ⟨w.heap.size, 1, none⟩ = some (.slice ea en ec) := by rw [cell_of_row _ _ _ _ _ _ HF2.out]; rfl
    have hc6 : (w.alloc (.cells #[.int .i64 lv, .slice ea en ec, .slice ca cn cc] 26 (0, 0))).cell? ⟨w.heap.size, 2, none⟩ = some (.slice ca cn cc) := by rw [cell_of_row _ _ _ _ _ _ HF2.out]; rfl
    go_wp2_with fail
    go_ret
    exact ⟨by first | (rw [← HV.out]; done) | (rw [← HV.out]; rfl), HB3.out⟩
  by_cases h4 : lv = 0
  · have d1 : decide (lv < 0) = false := decide_eq_false (by omega)
    have d2 : decide (40 < lv) = false := decide_eq_false (by omega)
    have d3 : decide ((8 : Int) < (en : Int)) = false := decide_eq_false (by omega)
    have d4 : (lv == 0) = true := by simpa using h4
    have HV := Lib.hid (show ((cn : Int) == 0) = fitB lv es cs by unfold fitB; rw [if_neg (by rw [LE.out]; omega), if_pos h4, LC.out]; by_cases hc : cn = 0 <;> simp [hc] <;> omega)
    clear h4
    have HB1 := Lib.hid (Below.refl w.heap.size w)
    go_enter Try.func167, Try.ntmps167
    have HF2 := Lib.hid (blk_new w (.cells #[.int .i64 lv, .slice ea en ec, .slice ca cn cc] 26 (0, 0)))
    have HB3 := Lib.hid (HB1.out.alloc HB1.out.size (.cells #[.int .i64 lv, .slice ea en ec, .slice ca cn cc] 26 (0, 0)))
    clear HB1
    have hc4 : (w.alloc (.cells #[.int .i64 lv, .slice ea en ec, .slice ca cn cc] 26 (0, 0))).cell? ⟨w.heap.size, 0, none⟩ = some (.int .i64 lv) := by rw [cell_of_row _ _ _ _ _ _ HF2.out]; rfl
    have hc5 : (w.alloc (.cells #[.int .i64 lv, .slice ea en ec, .slice ca cn cc] 26 (0, 0))).cell? ⟨w.heap.size, 1, none⟩ = some (.slice ea en ec) := by rw [cell_of_row _ _ _ _ _ _ HF2.out]; rfl
    have hc6 : (w.alloc (.cells #[.int .i64 lv, .slice ea en ec, .slice ca cn cc] 26 (0, 0))).cell? ⟨w.heap.size, 2, none⟩ = some (.slice ca cn cc) := by rw [cell_of_row _ _ _ _ _ _ HF2.out]; rfl
    go_wp2_with fail
    go_ret
    exact ⟨by first | (rw [← HV.out]; done) | (rw [← HV.out]; rfl), HB3.out⟩
  by_cases h5 : en = 0
  · have d1 : decide (lv < 0) = false := decide_eq_false (by omega)
    have d2 : decide (40 < lv) = false := decide_eq_false (by omega)
    have d3 : decide ((8 : Int) < (en : Int)) = false := decide_eq_false (by omega)
    have d4 : (lv == 0) = false := by simpa using h4
    have d5 : ((en : Int) == 0) = true := by simp [h5]
    have HV := Lib.hid (show false = fitB lv es cs by unfold fitB; rw [if_neg (by rw [LE.out]; omega), if_neg h4, if_pos (Or.inl (LE.out.trans h5))])
    clear h5
    have HB1 := Lib.hid (Below.refl w.heap.size w)
    go_enter Try.func167, Try.ntmps167
    have HF2 := Lib.hid (blk_new w (.cells #[.int .i64 lv, .slice ea en ec, .slice ca cn cc] 26 (0, 0)))
    have HB3 := Lib.hid (HB1.out.alloc HB1.out.size (.cells #[.int .i64 lv, .slice ea en ec, .slice ca cn cc] 26 (0, 0)))
    clear HB1
    have hc4 : (w.alloc (.cells #[.int .i64 lv, .slice ea en ec, .slice ca cn cc] 26 (0, 0))).cell? ⟨w.heap.size, 0, none⟩ = some (.int .i64 lv) := by rw [cell_of_row _ _ _ _ _ _ HF2.out]; rfl
    have hc5 : (w.alloc (.cells #[.int .i64 lv, .slice ea en ec, .slice ca cn cc] 26 (0, 0))).cell? ⟨w.heap.size, 1, none⟩ = some (.slice ea en ec) := by rw [cell_of_row _ _ _ _ _ _ HF2.out]; rfl
    have hc6 : (w.alloc (.cells #[.int .i64 lv, .slice ea en ec, .slice ca cn cc] 26 (0, 0))).cell? ⟨w.heap.size, 2, none⟩ = some (.slice ca cn cc) := by rw [cell_of_row _ _ _ _ _ _ HF2.out]; rfl
    go_wp2_with fail
    go_ret
    exact ⟨by first | (rw [← HV.out]; done) | (rw [← HV.out]; rfl), HB3.out⟩
  by_cases h6 : cn = en
  · have d1 : decide (lv < 0) = false := decide_eq_false (by omega)
    have d2 : decide (40 < lv) = false := decide_eq_false (by omega)
    have d3 : decide ((8 : Int) < (en : Int)) = false := decide_eq_false (by omega)
    have d4 : (lv == 0) = false := by simpa using h4
    have d5 : ((en : Int) == 0) = false := by simp; omega
    have d6 : ((cn : Int) != (en : Int)) = false := by simp; omega
    have HV := Lib.hid (show (!cs.any badI) = fitB lv es cs by unfold fitB; rw [if_neg (by rw [LE.out]; omega), if_neg h4, if_neg (by rw [LE.out, LC.out]; omega)])
    clear h6
    have HB1 := Lib.hid (Below.refl w.heap.size w)
    go_enter Try.func167, Try.ntmps167
    have HF2 := Lib.hid (blk_new w (.cells #[.int .i64 lv, .slice ea en ec, .slice ca cn cc] 26 (0, 0)))
    have HB3 := Lib.hid (HB1.out.alloc HB1.out.size (.cells #[.int .i64 lv, .slice ea en ec, .slice ca cn cc] 26 (0, 0)))
    clear HB1
    have hc4 : (w.alloc (.cells #[.int .i64 lv, .slice ea en ec, .slice ca cn cc] 26 (0, 0))).cell? ⟨w.heap.size, 0, none⟩ = some (.int .i64 lv) := by rw [cell_of_row _ _ _ _ _ _ HF2.out]; rfl
    have hc5 : (w.alloc (.cells #[.int .i64 lv, .slice ea en ec, .slice ca cn cc] 26 (0, 0))).cell? ⟨w.heap.size, 1, none⟩ = some (.slice ea en ec) := by rw [cell_of_row _ _ _ _ _ _ HF2.out]; rfl
    have hc6 : (w.alloc (.cells #[.int .i64 lv, .slice ea en ec, .slice ca cn cc] 26 (0, 0))).cell? ⟨w.heap.size, 2, none⟩ = some (.slice ca cn cc) := by rw [cell_of_row _ _ _ _ _ _ HF2.out]; rfl
    go_wp2_with fail
    refine (hasInt_any ca cn cc cs (w.alloc (.cells #[.int .i64 lv, .slice ea en ec, .slice ca cn cc] 26 (0, 0))) (H.out.alloc _).c hm).mono ?_
    rintro e w' ⟨rfl, rfl⟩
    go_wp2_with fail
    go_ret
    exact ⟨by first | (rw [← HV.out]; done) | (rw [← HV.out]; rfl), HB3.out⟩
  · have d1 : decide (lv < 0) = false := decide_eq_false (by omega)
    have d2 : decide (40 < lv) = false := decide_eq_false (by omega)
    have d3 : decide ((8 : Int) < (en : Int)) = false := decide_eq_false (by omega)
    have d4 : (lv == 0) = false := by simpa using h4
    have d5 : ((en : Int) == 0) = false := by simp; omega
    have d6 : ((cn : Int) != (en : Int)) = true := by simp; omega
    have HV := Lib.hid (show false = fitB lv es cs by unfold fitB; rw [if_neg (by rw [LE.out]; omega), if_neg h4, if_pos (Or.inr (by rw [LE.out, LC.out]; exact h6))])
    have HB1 := Lib.hid (Below.refl w.heap.size w)
    go_enter Try.func167, Try.ntmps167
    have HF2 := Lib.hid (blk_new w (.cells #[.int .i64 lv, .slice ea en ec, .slice ca cn cc] 26 (0, 0)))
    have HB3 := Lib.hid (HB1.out.alloc HB1.out.size (.cells #[.int .i64 lv, .slice ea en ec, .slice ca cn cc] 26 (0, 0)))
    clear HB1
    have hc4 : (w.alloc (.cells #[.int .i64 lv, .slice ea en ec, .slice ca cn cc] 26 (0, 0))).cell? ⟨w.heap.size, 0, none⟩ = some (.int .i64 lv) := by rw [cell_of_row _ _ _ _ _ _ HF2.out]; rfl
    have hc5 : (w.alloc (.cells #[.int .i64 lv, .slice ea en ec, .slice ca cn cc] 26 (0, 0))).cell? ⟨w.heap.size, 1, none⟩ = some (.slice ea en ec) := by rw [cell_of_row _ _ _ _ _ _ HF2.out]; rfl
    have hc6 : (w.alloc (.cells #[.int .i64 lv, .slice ea en ec, .slice ca cn cc] 26 (0, 0))).cell? ⟨w.heap.size, 2, none⟩ = some (.slice ca cn cc) := by rw [cell_of_row _ _ _ _ _ _ HF2.out]; rfl
    go_wp2_with fail
    go_ret
    exact ⟨by first | (rw [← HV.out]; done) | (rw [← HV.out]; rfl), HB3.out⟩
def haveB (lv : Int) (v : ByteArray) : Bool := if 0 < lv then decide (v.size = 32) else decide (v.size ≤ 2048)
set_option maxRecDepth 100000 in
theorem have_any (lv : Int) (v : ByteArray) (w : World) : Calls Try.prog 168 #[.int .i64 lv, .string v] w fun e w' => e = .returned (.bool (haveB lv v)) ∧ w = w' := by
  by_cases h : 0 < lv
  · have HV := Lib.hid (show ((v.size : Int) == 32) = haveB lv v by unfold haveB; rw [if_pos h]; by_cases hc : v.size = 32 <;> simp [hc] <;> omega)
    have d1 : decide (0 < lv) = true := decide_eq_true h
    go_enter Try.func168, Try.ntmps168
    go_wp2_with fail
    go_ret
    exact ⟨by first | (rw [← HV.out]; done) | (rw [← HV.out]; rfl), rfl⟩
  · have HV := Lib.hid (show decide ((v.size : Int) ≤ 2048) = haveB lv v by unfold haveB; rw [if_neg h]; by_cases hc : v.size ≤ 2048 <;> simp [hc] <;> omega)
    have d1 : decide (0 < lv) = false := decide_eq_false h
    go_enter Try.func168, Try.ntmps168
    go_wp2_with fail
    go_ret
    exact ⟨by first | (rw [← HV.out]; done) | (rw [← HV.out]; rfl), rfl⟩
end Go.Proofs.Ytdjjabjegmbmaaa
