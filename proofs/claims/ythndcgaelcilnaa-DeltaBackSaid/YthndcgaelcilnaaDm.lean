/- The map that delta.firsts makes over this translation: where pieces of eight bytes stand first. Condition: a base of at most three thousand bytes. -/
import Derived.Test.YthndcgaelcilnaaProg
import Derived.WalkKit
import Derived.Below
import Derived.Lib.Hide
import Derived.Handy
import Derived.LoopTactic
import Derived.RegionTactic
import Derived.Maps.Own
import Derived.Maps.OwnSet
import Derived.Maps.Views
import Derived.WalkArith
import Derived.Lib.Strings
namespace Go.Proofs.Ythndcgaelcilnaa
open Go.RowKit Go.WideMaps Go.Maps

/-- eight bytes at a place -/
def win (L : List UInt8) (i : Nat) : List UInt8 := (L.drop i).take 8
/-- the map behind j rounds -/
def dmp (L : List UInt8) : Nat → DataW Unit
  | 0 => .map []
  | j + 1 => (dmp L j).put (.string (win L (L.length - 8 - j))) (.lit (.int .i64 ((L.length - 8 - j : Nat) : Int)))
/-- the first place at which a piece stands, of those looked at -/
def fsp (L s : List UInt8) : Nat → Option Nat
  | 0 => none
  | j + 1 => if win L (L.length - 8 - j) = s then some (L.length - 8 - j) else fsp L s j
theorem dmp_map (L : List UInt8) : ∀ j, IsMap (dmp L j)
  | 0 => isMap_empty
  | j + 1 => (dmp_map L j).put _ _
theorem key_lit (s : List UInt8) : WideAt.IsKeyLit (.string s) := by trivial
theorem dmp_has (L s : List UInt8) : ∀ j, Maps.has (dmp L j) (.string s) = (fsp L s j).isSome
  | 0 => rfl
  | j + 1 => by
    unfold dmp fsp
    split
    · rename_i h
      rw [← h, has_put_same (dmp_map L j) (key_lit _)]
      rfl
    · rename_i h
      rw [has_put_other (by intro e; injection e with e; exact h e.symm), dmp_has L s j]
theorem dmp_at (L s : List UInt8) (i : Nat) (z : DataW Unit) : ∀ j, fsp L s j = some i → (dmp L j).atKey (.string s) z = .lit (.int .i64 (i : Int))
  | 0, h => by cases h
  | j + 1, h => by
    unfold fsp at h
    unfold dmp
    split at h
    · rename_i hw
      injection h with h
      rw [← hw, atKey_put_same (dmp_map L j) (key_lit _), h]
    · rename_i hw
      rw [atKey_put_other (by intro e; injection e with e; exact hw e.symm), dmp_at L s i z j h]
/-- where eight bytes first stand in a base -/
def stands (L s : List UInt8) : Option Nat := fsp L s (L.length - 7)
theorem lawS : Keyed Try.prog 9 := string_keyed Try.underlying9
theorem zeroI (w : World) : (zeroValue 3).run Try.prog w = .ok (.int .i64 0) w := by kernel_rfl
theorem run_makeMap_hint {P : Program} (t k e : TypeId) (kd : IntKind) (n : Int) (ht : P.underlying t = some (.map k e)) (w : World) :
    (Instr.makeMap t (some (.int kd n))).run P w = .ok (.map (some w.heap.size)) (w.alloc (.map #[] 0)) := by
  simp [Instr.makeMap, run_underlying ht]; rfl
theorem run_win (S : ByteArray) (k : Nat) (h : k + 8 ≤ S.size) (X : ByteArray) (hX : X = S.extract k (k + 8)) (z z1 : Int) (hz : z = (k : Int)) (hz1 : z1 = (k : Int) + 8) (W : World) :
    (Instr.slice 9 (.string S) (some (.int .i64 z)) (some (.int .i64 z1)) none).run Try.prog W = .ok (.string X) W := by
  subst hz hz1 hX
  rw [run_slice_string _ _ _ _ _ _ _ Try.underlying9 (by omega) (by omega) (by omega)]
  rw [show ((k : Int)).toNat = k by omega, show ((k : Int) + 8).toNat = k + 8 by omega]
theorem win_of (S X : ByteArray) (k : Nat) (h : X = S.extract k (k + 8)) : X.data.toList = win S.data.toList k := by
  subst h
  unfold win
  rw [ByteArray.data_extract, Array.toList_extract]
  simp only [List.extract]
  rw [show k + 8 - k = 8 by omega]
set_option maxRecDepth 100000 in
set_option maxHeartbeats 1600000 in
theorem firsts_any (S : ByteArray) (w : World) (hS : S.size ≤ 3000) :
    Calls Try.prog 128 #[.string S] w fun e w' => e = .returned (.map (some w.heap.size)) ∧ (∃ n, n ≤ 4000 ∧ w'.ownsMap Try.prog 9 (plainElem Try.prog 3) w.heap.size n (dmp S.data.toList (S.data.toList.length - 7))) ∧ Below w.heap.size w w' := by
  have hmm := run_makeMap_hint (P := Try.prog) 191 9 3
  have hl : S.data.toList.length = S.size := by simp
  rw [hl]
  have hs0 : (S.size : Int) ≤ 3000 := by omega
  have hs1 : decide ((65536 : Int) < (S.size : Int)) = false := decide_eq_false (by omega)
  have hs2 : decide ((S.size : Int) ≤ 65536) = true := decide_eq_true (by omega)
  have HL := Lib.hid hl
  clear hl
  have hmm2 := fun kd n W => hmm kd n Try.underlying191 W
  clear hmm
  go_enter Try.func128, Try.ntmps128
  go_wp2_with fail
  go_loopw [4] (fun i wr => ∃ j : Nat, j ≤ S.size - 7 ∧ i = .int .i64 ((S.size : Int) - 8 - (j : Int)) ∧ wr.ownsMap Try.prog 9 (plainElem Try.prog 3) w.heap.size j (dmp S.data.toList j) ∧ Below w.heap.size w wr) (fun i _ => (intOf i + 1).toNat)
  case atStart => exact ⟨0, Nat.zero_le _, by simp, World.ownsMap_made _ _ _ _, (Below.refl _ _).alloc (Nat.le_refl _) _⟩
  case round =>
    obtain ⟨j, hj, rfl, hown, hnx⟩ := hrel
    by_cases hlt : j < S.size - 7
    · obtain ⟨k, hk⟩ : ∃ k : Nat, k = S.size - 8 - j := ⟨_, rfl⟩
      obtain ⟨X, hX⟩ : ∃ X, X = S.extract k (k + 8) := ⟨_, rfl⟩
      have hz : (S.size : Int) - 8 - (j : Int) = (k : Int) := by omega
      have hsl := run_win S k (by omega) X hX (k : Int) ((k : Int) + 8) rfl rfl
      have hkb : (k : Int) ≤ 3000 := by omega
      have hXs : X.size ≤ maxLen := by rw [hX, ByteArray.size_extract]; unfold maxLen; omega
      have HD := Lib.hid (show (dmp S.data.toList j).put (.string X.data.toList) (.lit (.int .i64 (k : Int))) = dmp S.data.toList (j + 1) by
        have e := HL.out
        rw [win_of S X k hX, hk]
        show _ = (dmp S.data.toList j).put (.string (win S.data.toList (S.data.toList.length - 8 - j))) (.lit (.int .i64 ((S.data.toList.length - 8 - j : Nat) : Int)))
        rw [e])
      have HO := Lib.hid hown
      have HN := Lib.hid hnx
      have HJ := Lib.hid hk
      have hjb : j < maxLen := by unfold maxLen; omega
      rw [hz]
      clear hX hown hnx hk hz
      go_wp2_with (at_mapUpdate; refine wpList_mapUpdate_own _ rfl _ _ _ 191 rfl 9 3 lawS Try.underlying191 _ w.heap.size j _ rfl HO.out hjb _ _ _ rfl rfl (keyOf_string_mk Try.underlying9 hXs) _ [] (plainElem_int Try.underlying3 (WalkArith.wf_i64 (by omega))) ?_)
      intro w1 hown1 hgrow1
      rw [HD.out] at hown1
      have HO1 := Lib.hid hown1
      have HN1 := Lib.hid (HN.out.grown hgrow1 HN.out.size (fun j hj => by cases hj; exact Nat.le_refl _))
      clear hown1 hgrow1
      go_wp2_with fail
      go_roundw
      case rel => exact ⟨j + 1, by omega, by have := HJ.out; exact congrArg (Value.int .i64) (by omega), HO1.out, HN1.out⟩
      case measure => have := HJ.out; simp [intOf] <;> omega
    · have hneg : (S.size : Int) - 8 - (j : Int) < 0 := by omega
      have hd0 : decide ((0 : Int) ≤ (S.size : Int) - 8 - (j : Int)) = false := decide_eq_false (by omega)
      obtain rfl : j = S.size - 7 := by omega
      have HO := Lib.hid hown
      have HN := Lib.hid hnx
      clear hown hnx
      go_wp2_with fail
      go_ret
      exact ⟨rfl, ⟨_, by omega, HO.out⟩, HN.out⟩
end Go.Proofs.Ythndcgaelcilnaa
