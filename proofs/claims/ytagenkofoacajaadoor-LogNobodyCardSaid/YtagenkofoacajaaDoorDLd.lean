/- Arm and Over over this translation. No condition. -/
import Derived.Test.YtagenkofoacajaaDoorDLc
namespace Go.Proofs.YtagenkofoacajaaDoor
open Go.RowKit Vi

theorem DK.made {D : Nat} {SS : List ByteArray} {CC : List Wr} {dn : Bool} {ops fu : Int} {w : World} (h : DK D SS CC dn ops fu w) : Calls Tryd.prog 66 #[.pointer (some ⟨D, 0, none⟩)] w fun e w' => e = .returned (.bool true) ∧ w = w' := by
  obtain ⟨⟨sa, sn, sc, ca, cn, cc, h1, h2, h3⟩, _⟩ := h
  exact dmade_any D sa sn sc ca cn cc true dn ops fu w h1
theorem DK.readyIs {D : Nat} {SS : List ByteArray} {CC : List Wr} {dn : Bool} {ops fu : Int} {w : World} (h : DK D SS CC dn ops fu w) : Calls Tryd.prog 70 #[.pointer (some ⟨D, 0, none⟩)] w fun e w' => e = .returned (.int .i64 (if dn = true then 7 else 0)) ∧ w = w' := by
  obtain ⟨⟨sa, sn, sc, ca, cn, cc, h1, h2, h3⟩, _⟩ := h
  exact dready_any D sa sn sc ca cn cc dn ops fu w h1
theorem DK.checkIs {D : Nat} {SS : List ByteArray} {CC : List Wr} {dn : Bool} {ops fu : Int} {w : World} (h : DK D SS CC dn ops fu w) (i : Int) (s : ByteArray) : Calls Tryd.prog 74 #[.pointer (some ⟨D, 0, none⟩), .int .i64 i, .string s] w fun e w' => e = .returned (.int .i64 (dckE SS.length i s)) ∧ w = w' := by
  obtain ⟨⟨sa, sn, sc, ca, cn, cc, h1, h2, h3⟩, _⟩ := h
  have hl : sn = SS.length := by
    obtain ⟨A, c, e, _, _, _⟩ := h2.rd stC_len
    injection e
  rw [← hl]
  exact dcheck_any D sa sn sc i s w (dk_cells h1).1
def armE (dn : Bool) (n : Int) : Int := if dn = true then 7 else if n < 0 then 2 else 0
/-- what is armed then -/
def armF (dn : Bool) (n fu : Int) : Int := if armE dn n = 0 then n else fu
end Go.Proofs.YtagenkofoacajaaDoor
