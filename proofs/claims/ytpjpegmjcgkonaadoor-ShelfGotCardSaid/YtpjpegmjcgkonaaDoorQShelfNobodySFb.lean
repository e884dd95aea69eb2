/- A shelf: its box, its objects, its places; the calls that only read. Conditions: few enough of all, names no longer than a text may be. -/
import Derived.Test.YtpjpegmjcgkonaaDoorQShelfNobodySFa
import Derived.WalkSpells
import Derived.Test.YtpjpegmjcgkonaaDoorQShelfNobodyad
import Derived.Test.YtpjpegmjcgkonaaDoorQShelfNobodyPo
import Derived.Test.YtpjpegmjcgkonaaDoorOLb
namespace Go.Proofs.YtpjpegmjcgkonaaDoor
open Go.RowKit Vi

abbrev Ob := ByteArray × ByteArray
def obC (x : Ob) : List Value := [.string x.1, .string x.2]
theorem obC_len (x : Ob) : (obC x).length = 2 := rfl
theorem obC_one (x : Ob) : ∀ u ∈ obC x, u.oneCell' = true := by
  intro u hu
  simp [obC] at hu
  rcases hu with rfl | rfl <;> rfl
/-- a shelf's box -/
def shO (oa : Option Addr) (on oc : Nat) (pm : Option Nat) (c0 c1 : ByteArray) : Obj := .cells #[.slice oa on oc, .map pm, .string c0, .string c1] 55 (0, 0)
/-- where a name stands -/
def posO (L : List Ob) (s : ByteArray) : Option Int := Option.map (fun k : Nat => (Int.ofNat k : Int)) (L.findIdx? fun x => x.1.toList == s.toList)
section
variable {D : Nat} {oa : Option Addr} {on oc : Nat} {pm : Option Nat} {c0 c1 : ByteArray} {w : World}
theorem sh_cells (h : w.heap[D]? = some (shO oa on oc pm c0 c1)) : w.cell? ⟨D, 0, none⟩ = some (.slice oa on oc) ∧ w.cell? ⟨D, 1, none⟩ = some (.map pm) ∧ w.cell? ⟨D, 2, none⟩ = some (.string c0) ∧ w.cell? ⟨D, 3, none⟩ = some (.string c1) :=
  ⟨(cell_of_row _ _ _ _ _ _ h).trans rfl, (cell_of_row _ _ _ _ _ _ h).trans rfl, (cell_of_row _ _ _ _ _ _ h).trans rfl, (cell_of_row _ _ _ _ _ _ h).trans rfl⟩
end
/-- a shelf that is there -/
structure SK (D : Nat) (L : List Ob) (c0 c1 : ByteArray) (k : Nat) (w : World) : Prop where
  box : ∃ (oa : Option Addr) (on oc B : Nat), w.heap[D]? = some (shO oa on oc (some B) c0 c1) ∧ OwX obC 2 81 w 0 (.slice oa on oc) L ∧ MapI w B k (posO L)
theorem SK.lt {D : Nat} {L : List Ob} {c0 c1 : ByteArray} {k : Nat} {w : World} (h : SK D L c0 c1 k w) : D < w.heap.size := by
  obtain ⟨oa, on, oc, B, h1, h2, h3⟩ := h
  exact lt_of_block h1
theorem SK.kept {D : Nat} {L : List Ob} {c0 c1 : ByteArray} {k : Nat} {w w' : World} (h : SK D L c0 c1 k w) (hb : Below w.heap.size w w') : SK D L c0 c1 k w' := by
  obtain ⟨oa, on, oc, B, h1, h2, h3⟩ := h
  exact ⟨oa, on, oc, B, (hb.block D (lt_of_block h1)).trans h1, h2.kept hb, h3.kept (hb.block B h3.lt)⟩
set_option maxRecDepth 100000 in
theorem smade_nil (w : World) : Calls Tryd.prog 45 #[.pointer none] w fun e w' => e = .returned (.bool false) ∧ w = w' := by
  go_enter Tryd.func45, Tryd.ntmps45
  go_wp2_with fail
  go_ret
  exact ⟨rfl, rfl⟩
theorem run_map_ne (w : World) (pm : Option Nat) : (binOp .neq 52 (.map pm) (.map none)).run Tryd.prog w = .ok (.bool pm.isSome) w := by
  rw [run_neq_map_nil w _ _ _ pm Tryd.underlying52]
  cases pm <;> rfl
set_option maxRecDepth 100000 in
theorem smade_any (D : Nat) (oa : Option Addr) (on oc : Nat) (pm : Option Nat) (c0 c1 : ByteArray) (w : World) (h : w.heap[D]? = some (shO oa on oc pm c0 c1)) : Calls Tryd.prog 45 #[.pointer (some ⟨D, 0, none⟩)] w fun e w' => e = .returned (.bool pm.isSome) ∧ w = w' := by
  obtain ⟨x0, x1, x2, x3⟩ := sh_cells h
  clear h x0 x2 x3
  cases pm with
  | none =>
    have hn := run_map_ne w none
    go_enter Tryd.func45, Tryd.ntmps45
    go_wp2_with fail
    go_ret
    exact ⟨rfl, rfl⟩
  | some B =>
    have hn := run_map_ne w (some B)
    go_enter Tryd.func45, Tryd.ntmps45
    go_wp2_with fail
    go_ret
    exact ⟨rfl, rfl⟩
set_option maxRecDepth 100000 in
theorem shas_any (D : Nat) (L : List Ob) (c0 c1 : ByteArray) (k : Nat) (s : ByteArray) (w : World) (h : SK D L c0 c1 k w) (hs : s.size ≤ maxLen) : Calls Tryd.prog 16 #[.pointer (some ⟨D, 0, none⟩), .string s] w fun e w' => e = .returned (.bool (posO L s).isSome) ∧ w = w' := by
  obtain ⟨oa, on, oc, B, h1, h2, h3⟩ := h
  have HM := Lib.hid (smade_any D oa on oc (some B) c0 c1 w h1)
  have hl := h3.look2 s hs
  obtain ⟨x0, x1, x2, x3⟩ := sh_cells h1
  clear h1 h2 h3 x0 x2 x3
  generalize posO L s = p at hl ⊢
  go_enter Tryd.func16, Tryd.ntmps16
  go_wp2_with fail
  refine HM.out.mono ?_
  rintro e w' ⟨rfl, rfl⟩
  go_wp2_with fail
  go_ret
  exact ⟨rfl, rfl⟩
set_option maxRecDepth 100000 in
theorem slen_any (D : Nat) (L : List Ob) (c0 c1 : ByteArray) (k : Nat) (w : World) (h : SK D L c0 c1 k w) : Calls Tryd.prog 24 #[.pointer (some ⟨D, 0, none⟩)] w fun e w' => e = .returned (.int .i64 (L.length : Int)) ∧ w = w' := by
  obtain ⟨oa, on, oc, B, h1, h2, h3⟩ := h
  have HM := Lib.hid (smade_any D oa on oc (some B) c0 c1 w h1)
  obtain ⟨x0, x1, x2, x3⟩ := sh_cells h1
  have hl : L.length = on := by
    obtain ⟨_, _, e, hr, _, _⟩ := h2.rd obC_len
    injection e with _ e _
    exact e.symm
  subst hl
  clear h1 h2 h3 x1 x2 x3
  go_enter Tryd.func24, Tryd.ntmps24
  go_wp2_with fail
  refine HM.out.mono ?_
  rintro e w' ⟨rfl, rfl⟩
  go_wp2_with fail
  go_ret
  exact ⟨rfl, rfl⟩
/-- the text with a name -/
def getO (L : List Ob) (s : ByteArray) : Option ByteArray := (L.find? fun x => x.1.toList == s.toList).map (·.2)
theorem pos_none {L : List Ob} {s : ByteArray} (h : posO L s = none) : getO L s = none := by
  unfold posO at h
  unfold getO
  rw [Option.map_eq_none_iff] at h ⊢
  rw [List.findIdx?_eq_none_iff] at h
  rw [List.find?_eq_none]
  intro x hx
  have := h x hx
  simp [this]
theorem pos_some {L : List Ob} {s : ByteArray} {i : Int} (h : posO L s = some i) : ∃ (k : Nat) (hk : k < L.length), i = (k : Int) ∧ getO L s = some L[k].2 ∧ L[k].1 = s := by
  unfold posO at h
  obtain ⟨k, hk, rfl⟩ := Option.map_eq_some_iff.1 h
  rw [List.findIdx?_eq_some_iff_getElem] at hk
  obtain ⟨hlt, h1, h2⟩ := hk
  refine ⟨k, hlt, rfl, ?_, ba_eq.1 h1⟩
  unfold getO
  rw [show (L.find? fun x => x.1.toList == s.toList) = some L[k] from by
    rw [List.find?_eq_some_iff_getElem]
    exact ⟨h1, k, hlt, rfl, fun j hj => by simpa using h2 j hj⟩]
  rfl
set_option maxRecDepth 100000 in
set_option maxHeartbeats 2000000 in
theorem sget_any (D : Nat) (L : List Ob) (c0 c1 : ByteArray) (k : Nat) (s : ByteArray) (w : World) (h : SK D L c0 c1 k w) (hs : s.size ≤ maxLen) : Calls Tryd.prog 14 #[.pointer (some ⟨D, 0, none⟩), .string s] w fun e w' => e = .returned (.tuple #[.string ((getO L s).getD ⟨#[]⟩), .bool (getO L s).isSome]) ∧ Below w.heap.size w w' := by
  have HH := shas_any D L c0 c1 k s w h hs
  obtain ⟨oa, on, oc, B, h1, h2, h3⟩ := h
  have hl := h3.look1 s hs
  obtain ⟨x0, x1, x2, x3⟩ := sh_cells h1
  obtain ⟨p, hp⟩ : ∃ p, p = posO L s := ⟨_, rfl⟩
  rw [← hp] at HH hl
  have HH := Lib.hid HH
  cases p with
  | none =>
    have HG := Lib.hid (pos_none hp.symm)
    clear h1 h2 h3 x0 x1 x2 x3 hl hp
    go_enter Tryd.func14, Tryd.ntmps14
    go_wp2_with fail
    refine HH.out.mono ?_
    rintro e w' ⟨rfl, rfl⟩
    go_wp2_with fail
    go_ret2
    exact ⟨by rw [HG.out]; rfl, Below.refl _ _⟩
  | some i =>
    obtain ⟨j, hj, rfl, hg, _⟩ := pos_some hp.symm
    have HG := Lib.hid hg
    obtain ⟨A', c', e, hr, _, _⟩ := h2.rd obC_len
    injection e with e1 e2 e3
    subst e1 e2 e3
    obtain ⟨b, off, hl2, rfl, hbb, hcell⟩ := hr.at hj
    have c9 := hcell 1 (.string L[j].2) rfl
    obtain ⟨t, ht⟩ : ∃ t, t = L[j].2 := ⟨_, rfl⟩
    rw [← ht] at c9 HG
    have hd1 : decide ((j : Int) < (L.length : Int)) = true := decide_eq_true (by omega)
    have hi0 : (0 : Int) ≤ (j : Int) := by omega
    have hi1 : (j : Int) < (L.length : Int) := by omega
    have hl : (Instr.lookup 52 (.map (some B)) (.string s) false).run Tryd.prog w = .ok (.int .i64 (j : Int)) w := hl
    have HL := Lib.hid (fun W : World => fun (hb : Below w.heap.size w W) => (h3.kept (hb.block B h3.lt)).look1 s hs)
    rw [← hp] at HL
    clear h1 h2 h3 x2 x3 hp ht hcell hr hbb hg
    go_enter Tryd.func14, Tryd.ntmps14
    go_wp2_with fail
    refine HH.out.mono ?_
    rintro e w' ⟨rfl, rfl⟩
    go_upto_region 3 with (fail)
    have r0 := fun d os => cell_regrown x0 d os
    have r1 := fun d os => cell_regrown x1 d os
    have r2 := fun d os => cell_regrown c9 d os
    have r3 : ∀ d os, (Instr.lookup 52 (.map (some B)) (.string s) false).run Tryd.prog (Sort.grow (redrawn w d) os) = .ok (.int .i64 (j : Int)) (Sort.grow (redrawn w d) os) := fun d os => HL.out (Sort.grow (redrawn w d) os) (below_regrown w d os)
    refine wp_region_quiet_below (by kernel_rfl) (by kernel_rfl) ?_
    repeat (any_goals (first | go_big_quiet_step (fail) | quiet_step (fail)))
    refine wpQuiet_nil ?_
    intro w2 hw2
    have hb2 := below_anyY hw2
    clear hw2 r0 r1 r2 r3 x0 x1 c9 hl
    go_wp2_with fail
    go_ret2
    exact ⟨by rw [HG.out]; rfl, hb2⟩
end Go.Proofs.YtpjpegmjcgkonaaDoor
