/- byKind.addParts of no labels and no properties, over this translation. No condition. -/
import Derived.Test.YtjnichiblljmjaaIg
namespace Go.Proofs.Ytjnichiblljmjaa
open Go.RowKit Vi

set_option maxRecDepth 100000 in
theorem fparts0 (p : Value) (x : ByteArray) (a b : Int) (w : World) : Calls Try.prog 88 #[p, .string x, .int .i64 a, .slice none 0 0, .int .i64 b, .slice none 0 0] w fun e w' => e = .returned (.tuple #[]) ∧ w = w' := by
  go_enter Try.func88, Try.ntmps88
  go_wp2_with fail
  go_loop [20] (fun i => i = .int .i64 0) (fun _ => 0)
  case atStart => rfl
  case round =>
    subst hrel
    go_wp2_with fail
    go_loop [33] (fun i => i = .int .i64 0) (fun _ => 0)
    case atStart => rfl
    case round =>
      subst hrel
      go_wp2_with fail
      exact ⟨rfl, .tuple #[], by simp [results, go_sem], rfl, rfl⟩
end Go.Proofs.Ytjnichiblljmjaa
