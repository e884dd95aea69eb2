/- The contracts of value's Show of a text and of the statements' awake of layer 6 over this translation. No condition. -/
import Derived.Test.YtagenkofoacajaaGreatWb
namespace Go.Proofs.YtagenkofoacajaaGreat
open Go.RowKit Vi Hm

theorem vput_m1 : VPut 2 (-1) ⟨#[]⟩ = .tuple #[.string ⟨#[2, 1]⟩, .int .i64 0] := by
  have h1 : vput 2 (-1) ⟨#[]⟩ = ⟨#[2, 1]⟩ := by decide +kernel
  have h2 : errV 2 (-1) ⟨#[]⟩ = 0 := by decide +kernel
  unfold VPut
  rw [h1, h2]
end Go.Proofs.YtagenkofoacajaaGreat
