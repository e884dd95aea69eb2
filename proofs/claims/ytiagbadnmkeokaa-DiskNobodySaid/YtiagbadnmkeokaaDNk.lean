/- The disk family, merged for a claim. Conditions as in its parts. -/
import Derived.Test.YtiagbadnmkeokaaDNj
namespace Go.Proofs.Ytiagbadnmkeokaa
open Go.RowKit Vi

/-- no disk: nil, or one that no call made -/
def NoDk (p : Option Addr) (w : World) : Prop := p = none ∨ ∃ D, p = some ⟨D, 0, none⟩ ∧ w.heap[D]? = some (dkO none 0 0 none 0 0 false false 0 0)
theorem NoDk.kept {p : Option Addr} {w w' : World} (h : NoDk p w) (hb : Below w.heap.size w w') : NoDk p w' := by
  rcases h with h | ⟨D, h1, h2⟩
  · exact .inl h
  · exact .inr ⟨D, h1, blk_below h2 hb⟩
/-- a number, and nothing old turned -/
def RetZ (z : Int) (w : World) (e : Ending) (w' : World) : Prop := e = .returned (.int .i64 z) ∧ Below w.heap.size w w'
section
variable {p : Option Addr} {w : World}
theorem nmade (h : NoDk p w) : Calls Try.prog 43 #[.pointer p] w fun e w' => e = .returned (.bool false) ∧ w = w' := by
  rcases h with rfl | ⟨D, rfl, h2⟩
  · exact dmade_nil w
  · exact dmade_any D _ _ _ _ _ _ _ _ _ _ w h2
theorem nready (h : NoDk p w) : Calls Try.prog 56 #[.pointer p] w fun e w' => e = .returned (.int .i64 1) ∧ w = w' := by
  rcases h with rfl | ⟨D, rfl, h2⟩
  · exact dready_nil w
  · exact dready_no D _ _ _ _ _ _ _ _ _ w h2
theorem ndown (h : NoDk p w) : Calls Try.prog 23 #[.pointer p] w (RetBl false w) := by
  rcases h with rfl | ⟨D, rfl, h2⟩
  · exact of_same (ddown_nil w)
  · exact of_same (ddown_no D _ _ _ _ _ _ _ _ _ w h2)
theorem nsize (h : NoDk p w) : Calls Try.prog 27 #[.pointer p] w (RetZ 0 w) := by
  rcases h with rfl | ⟨D, rfl, h2⟩
  · exact of_same (dszz_nil w)
  · exact of_same (dszz_no D _ _ _ _ _ _ _ _ _ w h2)
theorem nops (h : NoDk p w) : Calls Try.prog 28 #[.pointer p] w (RetZ 0 w) := by
  rcases h with rfl | ⟨D, rfl, h2⟩
  · exact of_same (dops_nil w)
  · exact of_same (dops_no D _ _ _ _ _ _ _ _ _ w h2)
set_option maxRecDepth 100000 in
theorem nread (h : NoDk p w) (i : Int) : Calls Try.prog 24 #[.pointer p, .int .i64 i] w (fun e w' => e = .returned (.tuple #[.string ⟨#[]⟩, .int .i64 1]) ∧ Below w.heap.size w w') := by
  have HR := Lib.hid (nready h)
  clear h
  go_enter Try.func24, Try.ntmps24
  go_wp2_with fail
  refine HR.out.mono ?_
  rintro e w' ⟨rfl, rfl⟩
  go_wp2_with fail
  go_ret2
  exact ⟨rfl, Below.refl _ _⟩
set_option maxRecDepth 100000 in
theorem narm (h : NoDk p w) (i : Int) : Calls Try.prog 25 #[.pointer p, .int .i64 i] w (RetZ 1 w) := by
  have HR := Lib.hid (nready h)
  clear h
  go_enter Try.func25, Try.ntmps25
  go_wp2_with fail
  refine HR.out.mono ?_
  rintro e w' ⟨rfl, rfl⟩
  go_wp2_with fail
  go_ret
  exact ⟨rfl, Below.refl _ _⟩
set_option maxRecDepth 100000 in
theorem ncrash (h : NoDk p w) (A : Option Addr) (n c : Nat) : Calls Try.prog 22 #[.pointer p, .slice A n c] w (RetZ 1 w) := by
  have HR := Lib.hid (nmade h)
  clear h
  go_enter Try.func22, Try.ntmps22
  go_wp2_with fail
  refine HR.out.mono ?_
  rintro e w' ⟨rfl, rfl⟩
  go_wp2_with fail
  go_ret
  exact ⟨rfl, Below.refl _ _⟩
set_option maxRecDepth 100000 in
theorem nboot (h : NoDk p w) : Calls Try.prog 18 #[.pointer p] w (RetZ 1 w) := by
  have HR := Lib.hid (nmade h)
  clear h
  go_enter Try.func18, Try.ntmps18
  go_wp2_with fail
  refine HR.out.mono ?_
  rintro e w' ⟨rfl, rfl⟩
  go_wp2_with fail
  go_ret
  exact ⟨rfl, Below.refl _ _⟩
set_option maxRecDepth 100000 in
theorem nover (h : NoDk p w) (i : Int) (s : ByteArray) : Calls Try.prog 26 #[.pointer p, .int .i64 i, .string s] w (RetZ 1 w) := by
  have HR := Lib.hid (nmade h)
  clear h
  go_enter Try.func26, Try.ntmps26
  go_wp2_with fail
  refine HR.out.mono ?_
  rintro e w' ⟨rfl, rfl⟩
  go_wp2_with fail
  go_ret
  exact ⟨rfl, Below.refl _ _⟩
set_option maxRecDepth 100000 in
theorem nflush (h : NoDk p w) : Calls Try.prog 19 #[.pointer p] w (RetZ 1 w) := by
  have HBn := Lib.hid ((Below.refl w.heap.size w).alloc (Nat.le_refl _) (.cells #[.pointer p] 25 (0, 0)))
  have HR := Lib.hid (nready (h.kept HBn.out))
  have HX := Lib.hid (blk_new w (.cells #[.pointer p] 25 (0, 0)))
  have x0 : (w.alloc (.cells #[.pointer p] 25 (0, 0))).cell? ⟨w.heap.size, 0, none⟩ = some (.pointer p) := (cell_of_row _ _ _ _ _ _ HX.out).trans rfl
  clear h
  go_enter Try.func19, Try.ntmps19
  go_wp2_with fail
  clear x0
  refine HR.out.mono ?_
  rintro e w' ⟨rfl, rfl⟩
  go_wp2_with fail
  go_ret
  exact ⟨rfl, HBn.out⟩
set_option maxRecDepth 100000 in
theorem nwrite (h : NoDk p w) (i : Int) (s : ByteArray) : Calls Try.prog 20 #[.pointer p, .int .i64 i, .string s] w (RetZ 1 w) := by
  have HBn := Lib.hid ((((Below.refl w.heap.size w).alloc (Nat.le_refl _) (.cells #[.pointer p] 25 (0, 0))).alloc (by simp) (.cells #[.int .i64 i] 3 (0, 0))).alloc (by simp <;> omega) (.cells #[.string s] 9 (0, 0)))
  have HX := Lib.hid (blk_alloc (blk_alloc (blk_new w (.cells #[.pointer p] 25 (0, 0))) (.cells #[.int .i64 i] 3 (0, 0))) (.cells #[.string s] 9 (0, 0)))
  obtain ⟨v, hv⟩ : ∃ v, v = (((w.alloc (.cells #[.pointer p] 25 (0, 0))).alloc (.cells #[.int .i64 i] 3 (0, 0))).alloc (.cells #[.string s] 9 (0, 0))) := ⟨_, rfl⟩
  have HV := Lib.hid hv
  rw [← hv] at HBn HX
  have HR := Lib.hid (nready (h.kept HBn.out))
  clear h hv
  go_enter Try.func20, Try.ntmps20
  go_upto_region 1 with (fail)
  rw [← HV.out]
  have x0 : v.cell? ⟨w.heap.size, 0, none⟩ = some (.pointer p) := (cell_of_row _ _ 0 _ _ _ HX.out).trans rfl
  go_wp2_with fail
  refine HR.out.mono ?_
  rintro e w' ⟨rfl, rfl⟩
  clear x0
  go_wp2_with fail
  go_ret
  exact ⟨rfl, HBn.out⟩
set_option maxRecDepth 100000 in
theorem nseize (h : NoDk p w) : Calls Try.prog 11 #[.pointer p] w fun e w' => e = .returned (.agg #[.slice none 0 0, .slice none 0 0]) ∧ Below w.heap.size w w' := by
  have HB0 := Lib.hid ((Below.refl w.heap.size w).alloc (Nat.le_refl _) (.cells #[.slice none 0 0, .slice none 0 0] 32 (0, 0)))
  have HR0 := Lib.hid (blk_new w (.cells #[.slice none 0 0, .slice none 0 0] 32 (0, 0)))
  have HM := Lib.hid (nmade (h.kept HB0.out))
  clear h
  obtain ⟨v, hv⟩ : ∃ v, v = w.alloc (.cells #[.slice none 0 0, .slice none 0 0] 32 (0, 0)) := ⟨_, rfl⟩
  have HV := Lib.hid hv
  rw [← hv] at HB0 HR0 HM
  clear hv
  go_enter Try.func11, Try.ntmps11
  go_upto_region 1 with (fail)
  rw [← HV.out]
  clear HV
  go_wp2_with fail
  refine HM.out.mono ?_
  rintro e w' ⟨rfl, rfl⟩
  go_wp2_with (refine wpList_store_rowY rfl 32 (.tmp 2) (.tmp 7) rfl w.heap.size #[.slice none 0 0, .slice none 0 0] rfl rfl 32 _ HR0.out (by kernel_rfl) rfl (by simp [Value.oneCell']) w.heap.size w HB0.out (Nat.le_refl _) ?_)
  intro w6 hbk hoth hbel _
  have HR6 := Lib.hid hbk.out
  have HB6 := Lib.hid hbel.out
  clear hbk hoth hbel HM HR0
  go_wp2_with fail
  refine bodyPost_ret (results_cY rfl _ _ w.heap.size #[.slice none 0 0, .slice none 0 0] rfl (run_loadVar_row _ w.heap.size 32 32 _ (0, 0) _ HR6.out Try.underlying32 rfl (by kernel_rfl))) rfl ?_
  exact ⟨rfl, HB6.out⟩
end
end Go.Proofs.Ytiagbadnmkeokaa
