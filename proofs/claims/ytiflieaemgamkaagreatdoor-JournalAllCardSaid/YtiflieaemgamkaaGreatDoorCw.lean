/- Contracts of the sum of layer 2 over this translation: crc.On and the document's own bits and On. Conditions: texts of at most a hundred thousand bytes, sums of 32 bits, and the table that the program's text lays. -/
import Derived.Test.YtiflieaemgamkaaGreatDoorProg
import Derived.Test.YtiflieaemgamkaaGreatDoorCm
import Derived.WalkKit
import Derived.Lib.Hide
import Derived.WalkSpells
import Derived.WalkLawsBesides
namespace Go.Proofs.YtiflieaemgamkaaGreatDoor
open Go.RowKit Cm

theorem ret_valC {k : IntKind} {a b : Int} (h : a = b) : Ending.returned (.int k a) = .returned (.int k b) := by rw [h]
theorem info_u32 : (Tryz.prog.info? 188).map (fun i => (i.zero, i.size, i.bytes)) = some (some (.int .u32 0), 1, 4) := by kernel_rfl

/-- the table in memory -/
def Tab (w : World) : Prop := ∀ j, j < 16 → w.cell? ⟨2, j, none⟩ = some (.int .u32 ((tab.getD j 0 : Nat) : Int))
theorem Tab.later {w w' : World} (h : Tab w) (hb : Below w.heap.size w w') : Tab w' := fun j hj => by
  rw [hb.cell (p := ⟨2, j, none⟩) (World.block_lt_of_cell? w _ (h j hj))]; exact h j hj

set_option maxHeartbeats 800000 in
set_option maxRecDepth 100000 in
theorem on_any (sum : Nat) (s : ByteArray) (w : World) (hT : Tab w) (hsum : sum < 4294967296) (hs : s.size ≤ 100000) :
    Calls Tryz.prog 234 #[.int .u32 sum, .string s] w fun e w' => e = .returned (.int .u32 (on sum s.data.toList)) ∧ w = w' := by
  have hn1 := Lib.hid (not_is sum hsum)
  have HS := Lib.hid hsum
  have HT := Lib.hid hT
  have hsi : (sum : Int) ≤ 4294967295 := by omega
  clear hT hsum
  go_enter Tryz.func234, Tryz.ntmps234
  go_wp2
  go_loop [5, 6, 11] (fun r u i => ∃ (k a : Nat), i = .int .i64 (k : Int) ∧ k ≤ s.size ∧ r = .int .u32 (a : Int) ∧ a = run (4294967295 - sum) (s.data.toList.take k)) (fun _ _ i => s.size - (intOf i).toNat)
  case atStart => exact ⟨0, 4294967295 - sum, rfl, by omega, by rw [hn1.out], rfl⟩
  case round =>
    obtain ⟨k, a, rfl, hk, rfl, ha⟩ := hrel
    have ha32 : a < 4294967296 := by rw [ha]; exact run_lt _ _ (by have := HS.out; omega)
    have HA := Lib.hid ha
    clear ha
    by_cases hlt : k < s.size
    · have hb8 : (s[k].toNat : Int) ≤ 255 := by have := s[k].toNat_lt; omega
      have hsn : s.data.toList.take (k + 1) = s.data.toList.take k ++ [s[k]] := by
        rw [List.take_succ_eq_append_getElem (by simpa using hlt)]; rfl
      obtain ⟨r0, hr0⟩ : ∃ r0, r0 = a ^^^ s[k].toNat := ⟨_, rfl⟩
      have h0 : r0 < 4294967296 := by rw [hr0]; exact xor_lt _ _ ha32 (by omega)
      have e0 : bits BinOp.xor IntKind.u32 (a : Int) (s[k].toNat : Int) = (r0 : Int) := by rw [hr0]; exact xor_is _ _ ha32 (by omega)
      obtain ⟨n0, hn0⟩ : ∃ n0, n0 = r0 % 16 := ⟨_, rfl⟩
      have e1 : bits BinOp.and IntKind.u32 (r0 : Int) 15 = (n0 : Int) := by rw [hn0]; exact and15 _ h0
      have l0 : n0 < 16 := by omega
      obtain ⟨t0, ht0⟩ : ∃ t0, t0 = tab.getD n0 0 := ⟨_, rfl⟩
      have c0 : w.cell? ⟨2, n0, none⟩ = some (.int .u32 (t0 : Int)) := by rw [ht0]; exact HT.out n0 l0
      have lt0 : t0 < 4294967296 := by rw [ht0]; exact tab_lt ⟨n0, l0⟩
      obtain ⟨r1, hr1⟩ : ∃ r1, r1 = stp4 r0 := ⟨_, rfl⟩
      have h1 : r1 < 4294967296 := by rw [hr1]; exact stp4_lt _ h0
      have e2 : bits BinOp.xor IntKind.u32 ((r0 : Int) / 16) (t0 : Int) = (r1 : Int) := by
        have : (r0 : Int) / 16 = ((r0 / 16 : Nat) : Int) := by omega
        rw [this, xor_is _ _ (by omega) lt0, hr1, ht0, hn0, stp4_tab]
      obtain ⟨n1, hn1'⟩ : ∃ n1, n1 = r1 % 16 := ⟨_, rfl⟩
      have e3 : bits BinOp.and IntKind.u32 (r1 : Int) 15 = (n1 : Int) := by rw [hn1']; exact and15 _ h1
      have l1 : n1 < 16 := by omega
      obtain ⟨t1, ht1⟩ : ∃ t1, t1 = tab.getD n1 0 := ⟨_, rfl⟩
      have c1 : w.cell? ⟨2, n1, none⟩ = some (.int .u32 (t1 : Int)) := by rw [ht1]; exact HT.out n1 l1
      have lt1 : t1 < 4294967296 := by rw [ht1]; exact tab_lt ⟨n1, l1⟩
      obtain ⟨r2, hr2⟩ : ∃ r2, r2 = stp4 r1 := ⟨_, rfl⟩
      have e4 : bits BinOp.xor IntKind.u32 ((r1 : Int) / 16) (t1 : Int) = (r2 : Int) := by
        have : (r1 : Int) / 16 = ((r1 / 16 : Nat) : Int) := by omega
        rw [this, xor_is _ _ (by omega) lt1, hr2, ht1, hn1', stp4_tab]
      have hfin : r2 = run (4294967295 - sum) (s.data.toList.take (k + 1)) := by
        rw [hsn, run_snoc, ← HA.out, hr2, hr1, hr0]; rfl
      have HF := Lib.hid hfin
      clear hfin hsn hr0 hn0 ht0 hr1 hn1' ht1 hr2
      go_wp2
      go_round
      case rel => exact ⟨k + 1, r2, by go_num, by omega, rfl, HF.out⟩
      case measure => simp [intOf]; omega
    · have hfin : s.data.toList.take k = s.data.toList := List.take_of_length_le (by simp; omega)
      have hno := not_is a ha32
      have HO : Hid (bits BinOp.xor IntKind.u32 IntKind.u32.max (a : Int) = ((on sum s.data.toList : Nat) : Int)) := by
        show _ = _
        rw [hno, HA.out, hfin]; rfl
      clear hfin hno
      go_wp2
      go_ret
      exact ⟨ret_valC HO.out, rfl⟩
end Go.Proofs.YtiflieaemgamkaaGreatDoor
