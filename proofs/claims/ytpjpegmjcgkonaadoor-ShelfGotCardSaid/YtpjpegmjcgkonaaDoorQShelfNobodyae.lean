/- Several texts of one family, merged for a claim. Conditions as in its parts. -/
import Derived.Test.YtpjpegmjcgkonaaDoorQShelfNobodySFc
namespace Go.Proofs.YtpjpegmjcgkonaaDoor
open Go.RowKit Vi

/-- a shelf that is new -/
def NewS (w : World) (e : Ending) (w' : World) : Prop := ∃ D, e = .returned (.pointer (some ⟨D, 0, none⟩)) ∧ SK D [] ⟨#[]⟩ ⟨#[]⟩ 0 w' ∧ (∀ b, InS D w' b → w.heap.size ≤ b) ∧ Below w.heap.size w w'
set_option maxRecDepth 100000 in
theorem snew_any (w : World) : Calls Tryd.prog 11 #[] w (NewS w) := by
  have HB1 := Lib.hid ((Below.refl w.heap.size w).alloc (Nat.le_refl _) (.map #[] 0))
  have HB2 := Lib.hid (HB1.out.alloc (by simp) (.cells #[.slice none 0 0, .map (some w.heap.size), .string ⟨#[]⟩, .string ⟨#[]⟩] 55 (0, 0)))
  have HD := Lib.hid (show ((w.alloc (.map #[] 0)).alloc (.cells #[.slice none 0 0, .map (some w.heap.size), .string ⟨#[]⟩, .string ⟨#[]⟩] 55 (0, 0))).heap[w.heap.size + 1]? = some (shO none 0 0 (some w.heap.size) ⟨#[]⟩ ⟨#[]⟩) by
    have q := blk_new (w.alloc (.map #[] 0)) (.cells #[.slice none 0 0, .map (some w.heap.size), .string ⟨#[]⟩, .string ⟨#[]⟩] 55 (0, 0)); simpa [shO] using q)
  have HM := Lib.hid (((MapI.made w).of (g := posO []) (fun _ => rfl)).kept (w' := (w.alloc (.map #[] 0)).alloc (.cells #[.slice none 0 0, .map (some w.heap.size), .string ⟨#[]⟩, .string ⟨#[]⟩] 55 (0, 0))) (Below.heap_alloc _ _ _ (by simp)))
  have hmm := fun W : World => run_makeMap (P := Tryd.prog) 52 W
  go_enter Tryd.func11, Tryd.ntmps11
  go_wp2_with fail
  go_ret
  refine ⟨_, rfl, ⟨none, 0, 0, w.heap.size, HD.out, OwX.nil _, HM.out⟩, fun b q => ?_, HB2.out⟩
  rcases q.cases HD.out with q | ⟨o, q⟩ | q
  · subst q; simp
  · cases q
  · cases q; exact Nat.le_refl _
theorem ba_beq {a b : ByteArray} (h : (a == b) = true) : a = b := by
  have q : (a.data == b.data) = true := h
  exact ByteArray.ext (by simpa using q)
theorem results_t3 {fn : Func} {p t u : Tmp} (h : fn.results = #[.tmp p, .tmp t, .tmp u]) (tmps : Array Value) (w : World) :
    (results fn tmps).run Tryd.prog w = .ok (.tuple #[tmps.getD p undef, tmps.getD t undef, tmps.getD u undef]) w := by
  simp [results, h]
theorem run_eqS (d : Nat) (a b : ByteArray) (w : World) : (Op.equalIn (d + 1) 9 (.string a) (.string b)).run Tryd.prog w = .ok (a == b) w := by
  simp [Op.equalIn, run_underlying Tryd.underlying9]
theorem run_eqA (d : Nat) (c0 c1 : ByteArray) (w : World) : (Op.equalIn (d + 2) 53 (.agg #[.string c0, .string c1]) (.agg #[.string ⟨#[]⟩, .string ⟨#[]⟩])).run Tryd.prog w = .ok (c0 == ⟨#[]⟩ && c1 == ⟨#[]⟩) w := by
  obtain ⟨i0, hi, _, hz, _⟩ := info_parts info_stA
  have hc : Tryd.prog.cellsOf 9 = 1 := by kernel_rfl
  rw [run_equalIn_array w (d + 1) _ _ Tryd.underlying53 hi, hc]
  rw [show List.range 2 = [0, 1] from rfl]
  have hp : ∀ (xs : Array Value) (k : Nat) (v : Value), xs[k]? = some v → (part 9 xs k).run Tryd.prog w = .ok v w := fun xs k v h => by
    simp [part, h]
  have a0 := hp #[.string c0, .string c1] 0 _ rfl
  have a1 := hp #[.string c0, .string c1] 1 _ rfl
  have b0 := hp #[.string ⟨#[]⟩, .string ⟨#[]⟩] 0 _ rfl
  have b1 := hp #[.string ⟨#[]⟩, .string ⟨#[]⟩] 1 _ rfl
  simp only [Op.eqItems, Sem.run_bind, Nat.zero_mul, Nat.one_mul, a0, b0, Result.andThen_ok]
  cases hx : (c0 == (⟨#[]⟩ : ByteArray)) with
  | false => simp [run_eqS, hx]
  | true =>
    cases hy : (c1 == (⟨#[]⟩ : ByteArray)) <;> simp [a1, b1, run_eqS, hx, hy]
/-- has it two unlike texts? -/
def metO (c0 c1 : ByteArray) : Bool := !(c0 == (⟨#[]⟩ : ByteArray) && c1 == (⟨#[]⟩ : ByteArray))
set_option maxRecDepth 100000 in
theorem sclash_any (D : Nat) (L : List Ob) (c0 c1 : ByteArray) (k : Nat) (w : World) (h : SK D L c0 c1 k w) : Calls Tryd.prog 21 #[.pointer (some ⟨D, 0, none⟩)] w fun e w' => e = .returned (.tuple #[.string c0, .string c1, .bool (metO c0 c1)]) ∧ Below w.heap.size w w' := by
  obtain ⟨oa, on, oc, B, h1, h2, h3⟩ := h
  have HM := Lib.hid (smade_any D oa on oc (some B) c0 c1 w h1)
  obtain ⟨x0, x1, x2, x3⟩ := sh_cells h1
  clear h1 h2 h3 x0 x1
  have heq : (Op.equalIn 10000 53 (.agg #[.string c0, .string c1]) (.agg #[.string ⟨#[]⟩, .string ⟨#[]⟩])).run Tryd.prog w = .ok (c0 == ⟨#[]⟩ && c1 == ⟨#[]⟩) w := run_eqA 9998 c0 c1 w
  have HME := Lib.hid (show metO c0 c1 = !(c0 == (⟨#[]⟩ : ByteArray) && c1 == (⟨#[]⟩ : ByteArray)) from rfl)
  cases hb : (c0 == (⟨#[]⟩ : ByteArray) && c1 == (⟨#[]⟩ : ByteArray)) with
  | true =>
    rw [hb] at heq HME
    have he : c0 = ⟨#[]⟩ ∧ c1 = ⟨#[]⟩ := by
      rw [Bool.and_eq_true] at hb
      exact ⟨ba_beq hb.1, ba_beq hb.2⟩
    have HE := Lib.hid he
    clear hb he
    go_enter Tryd.func21, Tryd.ntmps21
    go_wp2_with fail
    refine HM.out.mono ?_
    rintro e w' ⟨rfl, rfl⟩
    go_wp2_with fail
    refine bodyPost_ret (results_t3 rfl _ _) rfl ?_
    exact ⟨by rw [HME.out, HE.out.1, HE.out.2]; rfl, Below.refl _ _⟩
  | false =>
    rw [hb] at heq HME
    clear hb
    go_enter Tryd.func21, Tryd.ntmps21
    go_wp2_with fail
    refine HM.out.mono ?_
    rintro e w' ⟨rfl, rfl⟩
    go_upto_region 3 with (fail)
    have r2 := fun d os => cell_regrown x2 d os
    have r3 := fun d os => cell_regrown x3 d os
    refine wp_region_quiet_below (by kernel_rfl) (by kernel_rfl) ?_
    repeat (any_goals (first | go_big_quiet_step (fail) | quiet_step (fail)))
    refine wpQuiet_nil ?_
    intro w2 hw2
    have hb2 := below_anyY hw2
    clear hw2 r2 r3 x2 x3 heq
    go_wp2_with fail
    refine bodyPost_ret (results_t3 rfl _ _) rfl ?_
    exact ⟨by rw [HME.out]; rfl, hb2⟩
end Go.Proofs.YtpjpegmjcgkonaaDoor

namespace Go.Proofs.YtpjpegmjcgkonaaDoor
open Go.RowKit Vi

theorem Ks.of_box {D : Nat} {oa : Option Addr} {on oc : Nat} {pm : Option Nat} {c0 c1 d0 d1 : ByteArray} {w v w' : World} (hb : Below w.heap.size w v) (k : KK [D] v w') (h : w.heap[D]? = some (shO oa on oc pm c0 c1)) (h' : w'.heap[D]? = some (shO oa on oc pm d0 d1)) : Ks D w w' := by
  refine ⟨k.os.trans hb.os, k.tape.trans hb.tape, k.output.trans hb.output, Nat.le_trans hb.size k.size, fun b hbl hn => (k.block b (Nat.lt_of_lt_of_le hbl hb.size) (fun e => hn (by obtain rfl : b = D := (by simpa using e); exact .inl rfl))).trans (hb.block b hbl), fun b hbl q => ?_⟩
  rcases q.cases h' with q | ⟨o, q⟩ | q
  · exact .inl q
  · subst q; exact InS.row h
  · subst q; exact InS.map h
/-- the two unlike texts then -/
def mtA (c0 c1 t0 : ByteArray) : ByteArray := if metO c0 c1 = true then c0 else t0
def mtB (c0 c1 t1 : ByteArray) : ByteArray := if metO c0 c1 = true then c1 else t1
set_option maxRecDepth 100000 in
set_option maxHeartbeats 2000000 in
theorem smeet_any (D : Nat) (L : List Ob) (c0 c1 : ByteArray) (k : Nat) (t0 t1 : ByteArray) (w : World) (h : SK D L c0 c1 k w) :
    Calls Tryd.prog 75 #[.pointer (some ⟨D, 0, none⟩), .agg #[.string t0, .string t1]] w fun e w' => e = .returned (.tuple #[]) ∧ SK D L (mtA c0 c1 t0) (mtB c0 c1 t1) k w' ∧ Ks D w w' := by
  have HLT := Lib.hid h.lt
  have HB0 := Lib.hid ((Below.refl w.heap.size w).alloc (Nat.le_refl _) (.cells #[.string t0, .string t1] 53 (0, 0)))
  have HX0 := Lib.hid (blk_new w (.cells #[.string t0, .string t1] 53 (0, 0)))
  have HS0 := Lib.hid (h.kept HB0.out)
  have HDW := Lib.hid h.box
  clear h
  obtain ⟨v, hv⟩ : ∃ v, v = w.alloc (.cells #[.string t0, .string t1] 53 (0, 0)) := ⟨_, rfl⟩
  have HV := Lib.hid hv
  rw [← hv] at HB0 HX0 HS0
  clear hv
  have HC := Lib.hid (sclash_any D L c0 c1 k v HS0.out)
  obtain ⟨b, hb⟩ : ∃ b, b = metO c0 c1 := ⟨_, rfl⟩
  have HMB := Lib.hid hb
  rw [← hb] at HC
  clear hb
  cases b with
  | true =>
    go_enter Tryd.func75, Tryd.ntmps75
    go_upto_region 1 with (fail)
    rw [← HV.out]
    go_wp2_with fail
    refine HC.out.mono ?_
    rintro e w2 ⟨rfl, hb2⟩
    have HS2 := Lib.hid (HS0.out.kept hb2)
    have HB2 := Lib.hid (HB0.out.trans (hb2.mono HB0.out.size))
    clear hb2
    go_wp2_with fail
    refine bodyPost_end (results_none rfl _ _ _) rfl ?_
    refine ⟨rfl, ?_, Ks.of_below HB2.out HLT.out⟩
    unfold mtA mtB
    rw [← HMB.out]
    exact HS2.out
  | false =>
    go_enter Tryd.func75, Tryd.ntmps75
    go_upto_region 1 with (fail)
    rw [← HV.out]
    go_wp2_with fail
    refine HC.out.mono ?_
    rintro e w2 ⟨rfl, hb2⟩
    have HS2 := Lib.hid (HS0.out.kept hb2)
    have HB2 := Lib.hid (HB0.out.trans (hb2.mono HB0.out.size))
    have HX2 := Lib.hid (blk_below HX0.out hb2)
    obtain ⟨oa, on, oc, B, g1, g2, g3⟩ := HDW.out
    have HW1 := Lib.hid g1
    have hD2 := (HB2.out.block D HLT.out).trans g1
    have HD2 := Lib.hid hD2
    have HO2 := Lib.hid (g2.kept HB2.out)
    have HM2 := Lib.hid (g3.kept (w' := w2) (HB2.out.block B g3.lt))
    have hDB : D ≠ B := fun e => by
      obtain ⟨n, Dm, ⟨es, cl, q, _⟩, _⟩ := g3
      rw [← e, g1] at q
      cases q
    clear hb2 g1 g2 g3 hD2 HS2 HDW
    have x0 : w2.cell? ⟨w.heap.size, 0, none⟩ = some (.string t0) := (cell_of_row _ _ 0 _ _ _ HX2.out).trans rfl
    have x1 : w2.cell? ⟨w.heap.size, 1, none⟩ = some (.string t1) := (cell_of_row _ _ 1 _ _ _ HX2.out).trans rfl
    have y2 : w2.cell? ⟨D, 2, none⟩ = some (.string c0) := (cell_of_row _ _ 2 _ _ _ HD2.out).trans rfl
    have y3 : w2.cell? ⟨D, 3, none⟩ = some (.string c1) := (cell_of_row _ _ 3 _ _ _ HD2.out).trans rfl
    have f2 : w2.frozen? ⟨D, 2, none⟩ = false := frozen_of_row _ _ _ _ _ HD2.out
    have f3 : w2.frozen? ⟨D, 3, none⟩ = false := frozen_of_row _ _ _ _ _ HD2.out
    go_wp2_with fail
    have HK := Lib.hid (((KK.refl [D] w2).set (b := D) (by simp) 2 (.string t0)).set (b := D) (by simp) 3 (.string t1))
    have HD8 := Lib.hid (show ((w2.setCell ⟨D, 2, none⟩ (.string t0)).setCell ⟨D, 3, none⟩ (.string t1)).heap[D]? = some (shO oa on oc (some B) t0 t1) by have q := heap_setCell_at (i := 3) (u := .string t1) (heap_setCell_at (i := 2) (u := .string t0) HD2.out); exact q)
    have HO8 := Lib.hid (HO2.out.kkD HK.out HD2.out (by decide))
    have HM8 := Lib.hid (HM2.out.kept (HK.out.block B HM2.out.lt (by simpa using fun e => hDB e.symm)))
    refine bodyPost_end (results_none rfl _ _ _) rfl ?_
    refine ⟨rfl, ?_, Ks.of_box HB2.out HK.out HW1.out HD8.out⟩
    unfold mtA mtB
    rw [← HMB.out]
    exact ⟨oa, on, oc, B, HD8.out, HO8.out, HM8.out⟩
theorem get_none {L : List Ob} {s : ByteArray} (h : getO L s = none) : posO L s = none := by
  unfold getO at h
  unfold posO
  rw [Option.map_eq_none_iff] at h ⊢
  rw [List.findIdx?_eq_none_iff]
  rw [List.find?_eq_none] at h
  intro x hx
  simpa using h x hx
end Go.Proofs.YtpjpegmjcgkonaaDoor
