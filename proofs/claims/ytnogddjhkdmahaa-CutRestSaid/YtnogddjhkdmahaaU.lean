/- Slices of ints as lists of ints, whatever the package: rows of the call's own, what is stored into them, slices of slices; the statements' Ints over them. -/
import Derived.Test.YtnogddjhkdmahaaO
import Derived.Test.YtnogddjhkdmahaaT
import Derived.Lib.SliceRun
import Derived.Deep.QuietTactic
import Derived.BigQuiet
import Derived.LoopTactic
namespace Go.Proofs.Ytnogddjhkdmahaa
open Go.RowKit

def i64v (x : Int) : Value := .int .i64 x
/-- a slice that reads as these ints -/
def IntS (w : World) (a : Option Addr) (len : Nat) (xs : List Int) : Prop :=
  xs.length = len ∧ (0 < len → ∃ b off, a = some ⟨b, off, none⟩ ∧ ∀ k (_ : k < xs.length), w.cell? ⟨b, off + k, none⟩ = some (i64v xs[k]))
theorem IntS.later {w w' : World} {a : Option Addr} {len : Nat} {xs : List Int} (h : IntS w a len xs) (hb : Below w.heap.size w w') : IntS w' a len xs := by
  refine ⟨h.1, fun hp => ?_⟩
  obtain ⟨b, off, ha, hc⟩ := h.2 hp
  refine ⟨b, off, ha, fun k hk => ?_⟩
  rw [hb.cell (p := ⟨b, off + k, none⟩) (World.block_lt_of_cell? w _ (hc k hk))]
  exact hc k hk
/-- a row of ints that the call owns -/
def OwnI (w : World) (B : Nat) (v : Value) (xs : List Int) : Prop := Own 3 w B v (xs.map i64v)
/-- a value that is a slice of these ints -/
def IS (w : World) (v : Value) (xs : List Int) : Prop := ∃ (a : Option Addr) (c : Nat), v = .slice a xs.length c ∧ IntS w a xs.length xs ∧ xs.length ≤ c ∧ c ≤ maxLen
theorem IS.of_own {w : World} {B : Nat} {v : Value} {xs : List Int} (h : OwnI w B v xs) : IS w v xs := by
  rcases Nat.eq_zero_or_pos xs.length with h0 | h0
  · have e : xs = [] := List.length_eq_zero_iff.1 h0
    subst e
    rcases h.2 with ⟨rfl, _⟩ | ⟨g, cap, cur, rfl, _, _, _, hm, _⟩
    · exact ⟨none, 0, rfl, ⟨rfl, fun hp => absurd hp (by simp)⟩, Nat.le_refl _, by decide⟩
    · exact ⟨_, cap, rfl, ⟨rfl, fun hp => absurd hp (by simp)⟩, Nat.zero_le _, hm⟩
  · obtain ⟨g, cap, e, _, hn, hm, hc⟩ := Own.cellAt h (by simpa using h0)
    refine ⟨some ⟨g, 0, none⟩, cap, by rw [e]; simp, ⟨rfl, fun _ => ⟨g, 0, rfl, fun k hk => ?_⟩⟩, by simpa using hn, hm⟩
    rw [Nat.zero_add, hc k (by simpa using hk)]
    simp
theorem IS.later {w w' : World} {v : Value} {xs : List Int} (h : IS w v xs) (hb : Below w.heap.size w w') : IS w' v xs := by
  obtain ⟨a, c, e, hs, h1, h2⟩ := h
  exact ⟨a, c, e, hs.later hb, h1, h2⟩
/-- the block in which a row lies -/
theorem OwnI.row {w : World} {B : Nat} {v : Value} {xs : List Int} (h : OwnI w B v xs) (hp : 0 < xs.length) : ∃ g cap, v = .slice (some ⟨g, 0, none⟩) xs.length cap ∧ B ≤ g ∧ cap ≤ maxLen ∧ xs.length ≤ cap ∧ (∀ k (_ : k < xs.length), w.cell? ⟨g, k, none⟩ = some (i64v xs[k])) ∧
    (∀ k, w.frozen? ⟨g, k, none⟩ = false) ∧ ∀ k u, k < xs.length → OwnI (w.setCell ⟨g, k, none⟩ (i64v u)) B v (xs.set k u) := by
  obtain ⟨g, cap, e, hB, hn, hm, hc⟩ := Own.cellAt h (by simpa using hp)
  rw [List.length_map] at e hn
  refine ⟨g, cap, e, hB, hm, hn, fun k hk => ?_, fun k => ?_, fun k u hk => ?_⟩
  · rw [hc k (by simpa using hk)]
    simp
  · rcases h.2 with ⟨h1, _⟩ | ⟨g', cap', cur, h2, _, h4, _⟩
    · rw [h1] at e
      cases e
    · rw [h2] at e
      injection e with e1
      injection e1 with e1
      injection e1 with e1
      subst e1
      exact frozen_of_row _ _ _ _ _ h4
  · rcases h.2 with ⟨h1, _⟩ | ⟨g', cap', cur, h2, h3, h4, h5, h6, h7, h8⟩
    · rw [h1] at e
      cases e
    · have e2 := e
      rw [h2] at e2
      injection e2 with e1
      injection e1 with e1
      injection e1 with e1
      subst e1
      unfold OwnI Own
      refine ⟨by simp, .inr ⟨g', cap', _, by rw [h2]; simp, h3, heap_setCell_same _ _ _ _ _ _ h4, by simpa using h5, h6, by simpa using h7, ?_⟩⟩
      rw [List.length_map, List.length_set, Array.toList_setIfInBounds, List.take_set, List.map_set]
      rw [List.length_map] at h8
      rw [h8]
theorem OwnI.kept {w w' : World} {B : Nat} {v : Value} {xs : List Int} (h : OwnI w B v xs) (hb : Below w.heap.size w w') : OwnI w' B v xs := Own.kept h hb
theorem info_i8 : (Try.prog.info? 3).map (fun i => (i.zero, i.size, i.bytes)) = some (some (.int .i64 0), 1, 8) := by kernel_rfl
theorem info_s16 : (Try.prog.info? 9).map (fun i => (i.zero, i.size, i.bytes)) = some (some (.string ⟨#[]⟩), 1, 16) := by kernel_rfl
/-- where a slice's end lies -/
def cutU (a : Option Addr) (c k : Nat) : Option Addr := if c = k then a else a.map (·.add k)
theorem elem_iU : Try.prog.elem 37 = 3 := by kernel_rfl
theorem elem_sU : Try.prog.elem 35 = 9 := by kernel_rfl
theorem size_iU (W : World) : (sizeOf 3).run Try.prog W = .ok 1 W := by
  obtain ⟨i0, hi, _, hz1, _⟩ := info_parts info_i8
  simp [sizeOf, typeInfo, hi, hz1]
theorem size_sU (W : World) : (sizeOf 9).run Try.prog W = .ok 1 W := by
  obtain ⟨i0, hi, _, hz1, _⟩ := info_parts info_s16
  simp [sizeOf, typeInfo, hi, hz1]
theorem und_iU : Try.prog.underlying 37 = some (.slice (Try.prog.elem 37)) := by rw [elem_iU]; exact Try.underlying37
theorem und_sU : Try.prog.underlying 35 = some (.slice (Try.prog.elem 35)) := by rw [elem_sU]; exact Try.underlying35
theorem ints_from (a : Option Addr) (n c k : Nat) (z : Int) (hz : z = k) (hk : k ≤ n) (W : World) : (Instr.slice 37 (.slice a n c) (some (.int .i64 z)) none none).run Try.prog W = .ok (.slice (cutU a c k) (n - k) (c - k)) W := by
  subst hz
  rw [run_slice_l W _ a n c und_iU .i64 k (by omega) (by omega), elem_iU, size_iU]
  simp [Result.andThen, sliced, cutU]
theorem strs_from (a : Option Addr) (n c k : Nat) (z : Int) (hz : z = k) (hk : k ≤ n) (W : World) : (Instr.slice 35 (.slice a n c) (some (.int .i64 z)) none none).run Try.prog W = .ok (.slice (cutU a c k) (n - k) (c - k)) W := by
  subst hz
  rw [run_slice_l W _ a n c und_sU .i64 k (by omega) (by omega), elem_sU, size_sU]
  simp [Result.andThen, sliced, cutU]
theorem IntS.cut {w : World} {a : Option Addr} {n : Nat} {xs : List Int} (h : IntS w a n xs) (c k : Nat) (hk : k ≤ n) (hc : n ≤ c) : IntS w (cutU a c k) (n - k) (xs.drop k) := by
  have hl := h.1
  refine ⟨by rw [List.length_drop]; omega, fun hp => ?_⟩
  obtain ⟨b, off, rfl, hcell⟩ := h.2 (by omega)
  refine ⟨b, off + k, ?_, fun i hi => ?_⟩
  · unfold cutU
    rw [if_neg (by omega)]
    simp [Addr.add_lit]
  · have h2 : k + i < xs.length := by rw [List.length_drop] at hi; omega
    rw [Nat.add_assoc, hcell (k + i) h2]
    simp
theorem StrS.cut {w : World} {a : Option Addr} {n : Nat} {ss : List ByteArray} (h : StrS w a n ss) (c k : Nat) (hk : k ≤ n) (hc : n ≤ c) : StrS w (cutU a c k) (n - k) (ss.drop k) := by
  have hl := h.1
  refine ⟨by rw [List.length_drop]; omega, fun hp => ?_⟩
  obtain ⟨b, off, rfl, hcell⟩ := h.2 (by omega)
  refine ⟨b, off + k, ?_, fun i hi => ?_⟩
  · unfold cutU
    rw [if_neg (by omega)]
    simp [Addr.add_lit]
  · have h2 : k + i < ss.length := by rw [List.length_drop] at hi; omega
    rw [Nat.add_assoc, hcell (k + i) h2]
    simp
set_option maxRecDepth 100000 in
set_option maxHeartbeats 800000 in
theorem ints_same (a : Option Addr) (ca : Nat) (b : Option Addr) (cb len : Nat) (xs : List Int) (w : World) (ha : IntS w a len xs) (hb : IntS w b len xs) (hlm : len ≤ 1000000) :
    Calls Try.prog 21 #[.slice a len ca, .slice b len cb] w fun e w' => e = .returned (.bool true) ∧ ∃ q, w' = w.drewN q := by
  have HA := Lib.hid ha.2
  have HB := Lib.hid hb.2
  have HL := Lib.hid ha.1
  clear ha hb
  go_enter Try.func21, Try.ntmps21
  go_wp2
  go_loopw [5, 13] (fun _ i wr => ∃ k : Nat, k ≤ len ∧ i = .int .i64 (k : Int) ∧ ∃ q, wr = w.drewN q) (fun _ i _ => len - (intOf i).toNat)
  case atStart => exact ⟨0, Nat.zero_le _, rfl, 0, rfl⟩
  case round =>
    obtain ⟨k, hk, rfl, q, rfl⟩ := hrel
    by_cases hlt : k < len
    · obtain ⟨b1, o1, rfl, h1⟩ := HA.out (by omega)
      obtain ⟨b2, o2, rfl, h2⟩ := HB.out (by omega)
      have hkn : k < xs.length := by rw [HL.out]; exact hlt
      have c1 := h1 k hkn
      have c2 := h2 k hkn
      clear h1 h2
      unfold i64v at c1 c2
      generalize xs[k] = s at c1 c2
      have hi0 : (0 : Int) ≤ (k : Int) := by omega
      have hi1 : (k : Int) < (len : Int) := by omega
      go_wp2_with fail
      go_quiet (fail)
      go_wp2
      go_roundw
      case rel => exact ⟨k + 1, by omega, by go_num, _, rfl⟩
      case measure => simp [intOf]; omega
    · go_wp2
      go_ret
      exact ⟨rfl, q, rfl⟩
/-- Ints of two slices that read the same -/
theorem ints_is (v u : Value) (xs : List Int) (w : World) (hv : IS w v xs) (hu : IS w u xs) (hl : xs.length ≤ 1000000) :
    Calls Try.prog 21 #[v, u] w fun e w' => e = .returned (.bool true) ∧ Below w.heap.size w w' := by
  obtain ⟨a, c, rfl, h1, _⟩ := hv
  obtain ⟨b, d, rfl, h2, _⟩ := hu
  exact (ints_same a c b d _ xs w h1 h2 hl).mono fun e w' ⟨he, q, hq⟩ => ⟨he, by rw [hq]; exact ⟨rfl, rfl, rfl, Nat.le_refl _, fun _ _ => rfl⟩⟩
end Go.Proofs.Ytnogddjhkdmahaa
