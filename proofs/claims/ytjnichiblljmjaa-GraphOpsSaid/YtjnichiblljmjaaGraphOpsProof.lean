/- Whether any op may be, and what becomes of any labels and properties by it, is as the document says. No condition. -/
import Derived.Test.YtjnichiblljmjaaRows
import Derived.WalkKit
import Derived.Test.YtjnichiblljmjaaLopf
import Derived.Test.YtjnichiblljmjaaOpc
import Derived.Test.YtjnichiblljmjaaSh
import Derived.Test.YtjnichiblljmjaaSh
import Derived.ProofKit
import Derived.OpenShut
import Derived.ShutString
import Derived.ChangeOld
import Derived.Below
namespace Go.Proofs.Ytjnichiblljmjaa.graphOps
open Go.ChangeShapes Go.WideShapes Go.ChangeAt Go.RowKit
open Go.ChangeMaps (open_string shut_string)
set_option linter.unusedVariables false

theorem own : ownKnob Try.prog.godebug = none := by kernel_rfl
theorem laidOut : laidOutB Try.prog = true := by kernel_rfl


theorem walk (x0 : Sh.Den (.pair (.slice (.pair (.str) (.pair (.slice (.str)) (.slice (.pair (.str) (.pair (.int .i64) (.pair (.int .i64) (.str)))))))) (.slice (.pair (.str) (.pair (.str) (.pair (.str) (.pair (.slice (.str)) (.slice (.pair (.str) (.pair (.int .i64) (.pair (.int .i64) (.str)))))))))))) (x1 : Sh.Den (.pair (.int .i64) (.pair (.str) (.pair (.str) (.pair (.str) (.pair (.str) (.pair (.int .i64) (.pair (.int .i64) (.str))))))))) (w : World) (w0 : Sh.Ok w (.pair (.slice (.pair (.str) (.pair (.slice (.str)) (.slice (.pair (.str) (.pair (.int .i64) (.pair (.int .i64) (.str)))))))) (.slice (.pair (.str) (.pair (.str) (.pair (.str) (.pair (.slice (.str)) (.slice (.pair (.str) (.pair (.int .i64) (.pair (.int .i64) (.str))))))))))) x0) (w1 : Sh.Ok w (.pair (.int .i64) (.pair (.str) (.pair (.str) (.pair (.str) (.pair (.str) (.pair (.int .i64) (.pair (.int .i64) (.str)))))))) x1) :
    Calls Try.prog 9 #[.agg ⟨Sh.cells (.pair (.slice (.pair (.str) (.pair (.slice (.str)) (.slice (.pair (.str) (.pair (.int .i64) (.pair (.int .i64) (.str)))))))) (.slice (.pair (.str) (.pair (.str) (.pair (.str) (.pair (.slice (.str)) (.slice (.pair (.str) (.pair (.int .i64) (.pair (.int .i64) (.str))))))))))) x0⟩, .agg ⟨Sh.cells (.pair (.int .i64) (.pair (.str) (.pair (.str) (.pair (.str) (.pair (.str) (.pair (.int .i64) (.pair (.int .i64) (.str)))))))) x1⟩] w fun e w' => e = .returned (.bool true) ∧ Below w.heap.size w w' := by
  obtain ⟨q1, q2⟩ := gr_of x0.1 x0.2 w0.1 w0.2
  exact LGraphOps.walk x0.1.a x0.2.a x0.1.n x0.1.c x0.2.n x0.2.c _ _ x1.1 x1.2.1 x1.2.2.1 x1.2.2.2.1 x1.2.2.2.2.1 x1.2.2.2.2.2.1 x1.2.2.2.2.2.2.1 x1.2.2.2.2.2.2.2 w q1 q2 w1.2.1 w1.2.2.1 w1.2.2.2.1 w1.2.2.2.2.1

set_option maxRecDepth 100000 in
theorem lifted (os : Os) (started : os.Started) (H : Type) (enc : TypeId × Value → H) :
    ReturnsInHanded {} Try.checked os 9 .any (Rows.graphOpsSpec.pre6 enc Try.prog Try.f9 Rows.graphOpsRow.domain false) (Rows.graphOpsSpec.post enc Try.prog Try.f9 false true false false) := by
  refine returnsInHanded_of_change (C := Try.checked) own started (by kernel_rfl) Try.func9
    (ChangeSpec.witness6 (enc := enc) (C := Try.checked) false ⟨#[], #[.agg #[.slice none 0 0, .slice none 0 0], .agg #[.int .i64 0, .string ByteArray.empty, .string ByteArray.empty, .string ByteArray.empty, .string ByteArray.empty, .int .i64 0, .int .i64 0, .string ByteArray.empty]], []⟩ 8 (by kernel_rfl) (by kernel_rfl) (by kernel_rfl) (by kernel_rfl)) ?_
  intro W base args ds gs before hval0 hW hcnd _
  have hval : ∀ (j : Nat) t v, Try.f9.params[j]? = some t → args[j]? = some v → Value.okWide Try.prog W .any base t v := hval0
  have hW' := hW
  obtain ⟨p, q, hA0, hV, rfl, hfz, hnd⟩ := hW
  have hA : DataW.TrodAll enc Try.prog W 0 (fun _ => true) true Try.f9.params.toList args.toList ds p := hA0
  rw [Try.params9] at hA hval
  obtain ⟨v0, vs0, d0, ds0, p0, q0, hargs, rfl, rfl, h0, r0⟩ := trodAll_cons hA
  obtain ⟨v1, vs1, d1, ds1, p1, q1, rfl, rfl, rfl, h1, r1⟩ := trodAll_cons r0
  obtain ⟨rfl, rfl, rfl⟩ := trodAll_nil r1
  obtain rfl : args = #[v0, v1] := by first | exact Array.ext' hargs | exact Array.ext' hargs.symm | (cases args; simp_all)
  obtain ⟨rfl, rfl⟩ := trodVars_none hV
  have k0 := h0
  have lt0 : ∀ x ∈ p0, x.block < W.heap.size := by obtain ⟨m, hm⟩ := k0; exact DataW.trod_lt m _ _ _ hm
  obtain ⟨x0, rfl, w0⟩ := Sh.open_struct 30 (.pair (.slice (.pair (.str) (.pair (.slice (.str)) (.slice (.pair (.str) (.pair (.int .i64) (.pair (.int .i64) (.str)))))))) (.slice (.pair (.str) (.pair (.str) (.pair (.str) (.pair (.slice (.str)) (.slice (.pair (.str) (.pair (.int .i64) (.pair (.int .i64) (.str))))))))))) Try.underlying39 (by kernel_rfl) (hval 0 39 v0 rfl rfl) h0
  have k1 := h1
  have lt1 : ∀ x ∈ p1, x.block < W.heap.size := by obtain ⟨m, hm⟩ := k1; exact DataW.trod_lt m _ _ _ hm
  obtain ⟨x1, rfl, w1⟩ := Sh.open_struct 30 (.pair (.int .i64) (.pair (.str) (.pair (.str) (.pair (.str) (.pair (.str) (.pair (.int .i64) (.pair (.int .i64) (.str)))))))) Try.underlying85 (by kernel_rfl) (hval 1 85 v1 rfl rfl) h1
  clear hA0 hval0
  refine (walk x0 x1 W w0 w1).mono fun e W' ⟨he, bel⟩ => ?_
  subst he
  exact ⟨_, rfl, _, _, _, [], _, [], hW', trodAll_mk1 (shut_bool Try.underlying4 _), (trodAll_cons_mk (Below.trod laidOut (by kernel_rfl) (of_decide_eq_true (by kernel_rfl)) k0 bel lt0) (trodAll_cons_mk (Below.trod laidOut (by kernel_rfl) (of_decide_eq_true (by kernel_rfl)) k1 bel lt1) trodAll_mk0)), rfl, bel.frame _, fun h => by cases h⟩

theorem over : Rows.graphOpsRow.holds Try.pinned (OpenSpec.ofChange Rows.graphOpsSpec) :=
  OpenClaim.holds_of_wide 9 Try.f9 rfl rfl rfl rfl rfl rfl rfl ⟨rfl, rfl, rfl, rfl, rfl⟩ rfl rfl rfl rfl rfl (by kernel_rfl) Try.func9 (by kernel_rfl)
    (of_decide_eq_true (by kernel_rfl)) (by unfold Func.isWrapper; first | (rw [if_pos (by decide +kernel)]; kernel_rfl) | (rw [if_neg (by decide +kernel)]; exact ⟨rfl, rfl⟩))
    (fun os started H enc _ => lifted os started H enc)

theorem proved : Rows.GraphOpsSaid :=
  over
end Go.Proofs.Ytjnichiblljmjaa.graphOps
