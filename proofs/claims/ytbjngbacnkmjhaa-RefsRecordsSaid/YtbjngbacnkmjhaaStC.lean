/- Texts as rows of one cell; what the program says of properties and texts. No condition. -/
import Derived.Test.YtbjngbacnkmjhaaPr
import Derived.Test.YtbjngbacnkmjhaaPx
import Derived.Test.YtbjngbacnkmjhaaAa
namespace Go.Proofs.Ytbjngbacnkmjhaa
open Go.RowKit Vi

def stC (s : ByteArray) : List Value := [.string s]
theorem stC_len (s : ByteArray) : (stC s).length = 1 := rfl
theorem stC_one (p : ByteArray) : ∀ u ∈ stC p, u.oneCell' = true := by
  intro u hu
  simp [stC] at hu
  subst hu; rfl
theorem info_prA : (Try.prog.info? 187).map (fun i => (i.zero, i.size, i.bytes)) = some (some (.agg #[.string ⟨#[]⟩, .int .i64 0, .int .i64 0, .string ⟨#[]⟩]), 4, 48) := by kernel_rfl
theorem info_stA : (Try.prog.info? 9).map (fun i => (i.zero, i.size, i.bytes)) = some (some (.string ⟨#[]⟩), 1, 16) := by kernel_rfl
theorem sln_c {w : World} {A : Option Addr} {n : Nat} {l : List ByteArray} (h : RdX stC 1 w A n l) : SlN w A n l :=
  ⟨h.1, fun hp => by
    obtain ⟨b, off, e, _, hc⟩ := h.2 hp
    refine ⟨b, off, e, fun i hi => ?_⟩
    have := hc i l[i] 0 (.string l[i]) (List.getElem?_eq_getElem hi) rfl
    rwa [Nat.mul_one, Nat.add_zero] at this⟩
end Go.Proofs.Ytbjngbacnkmjhaa
