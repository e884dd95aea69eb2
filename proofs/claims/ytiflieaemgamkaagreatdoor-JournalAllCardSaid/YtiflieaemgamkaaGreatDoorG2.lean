/- Several texts of one family, merged for a claim. Conditions as in its parts. -/
import Derived.Test.YtiflieaemgamkaaGreatDoorProg
import Derived.WalkKit
import Derived.Lib.Hide
import Derived.Below
import Derived.WalkSpells
import Derived.WalkLawsBesides
import Derived.LoopTactic
namespace Go.Proofs.YtiflieaemgamkaaGreatDoor
open Go.RowKit

/-- texts, one behind the other -/
def catS (ss : List ByteArray) : List UInt8 := ss.flatMap fun s => s.data.toList
theorem catS_take (ss : List ByteArray) (k : Nat) (h : k < ss.length) : catS (ss.take (k + 1)) = catS (ss.take k) ++ ss[k].data.toList := by
  unfold catS
  rw [List.take_succ_eq_append_getElem h, List.flatMap_append, List.flatMap_cons, List.flatMap_nil, List.append_nil]
theorem catS_le (ss : List ByteArray) (k : Nat) (h : k < ss.length) : (catS (ss.take k)).length + ss[k].size ≤ (catS ss).length := by
  have e : catS ss = catS (ss.take (k + 1)) ++ catS (ss.drop (k + 1)) := by
    unfold catS
    rw [← List.flatMap_append, List.take_append_drop]
  rw [e, catS_take ss k h]
  simp
/-- a slice that reads as these texts -/
def StrS (w : World) (a : Option Addr) (len : Nat) (ss : List ByteArray) : Prop :=
  ss.length = len ∧ (0 < len → ∃ b off, a = some ⟨b, off, none⟩ ∧ ∀ k (_ : k < ss.length), w.cell? ⟨b, off + k, none⟩ = some (.string ss[k]))
theorem StrS.later {w w' : World} {a : Option Addr} {len : Nat} {ss : List ByteArray} (h : StrS w a len ss) (hb : Below w.heap.size w w') : StrS w' a len ss := by
  refine ⟨h.1, fun hp => ?_⟩
  obtain ⟨b, off, ha, hc⟩ := h.2 hp
  refine ⟨b, off, ha, fun k hk => ?_⟩
  rw [hb.cell (p := ⟨b, off + k, none⟩) (World.block_lt_of_cell? w _ (hc k hk))]
  exact hc k hk
theorem str_one (w : World) (s : ByteArray) : StrS (w.alloc (.cells #[.string s] 9)) (some ⟨w.heap.size, 0, none⟩) 1 [s] :=
  ⟨rfl, fun _ => ⟨_, _, rfl, fun k hk => by
    have : k = 0 := by simpa using hk
    subst this
    rw [cell_of_row _ _ _ _ _ _ (heap_alloc_new w (.cells #[.string s] 9))]
    rfl⟩⟩
/-- the cell of a text -/
theorem StrS.at {w : World} {a : Option Addr} {len : Nat} {ss : List ByteArray} (h : StrS w a len ss) (hp : 0 < len) : ∃ b off, a = some ⟨b, off, none⟩ ∧ ∀ k (_ : k < len) (t : ByteArray), ss[k]? = some t → w.cell? ⟨b, off + k, none⟩ = some (.string t) := by
  obtain ⟨b, off, ha, hc⟩ := h.2 hp
  refine ⟨b, off, ha, fun k hk t ht => ?_⟩
  have hl := h.1
  rw [hc k (by omega)]
  rw [List.getElem?_eq_getElem (by omega)] at ht
  rw [Option.some.inj ht]
theorem retN {a b : Int} (h : a = b) : Ending.returned (.int .i64 a) = .returned (.int .i64 b) := by rw [h]
theorem cat_take_len (ss : List ByteArray) (k : Nat) (h : k < ss.length) : (catS (ss.take (k + 1))).length = (catS (ss.take k)).length + ss[k].size := by
  rw [catS_take ss k h, List.length_append]
  simp
/-- how many bytes there are, as long as that is below a million -/
def BytesR (ss : List ByteArray) (e : Ending) : Prop := ∃ r : Nat, e = .returned (.int .i64 (r : Int)) ∧ (r < 1000000 → (catS ss).length = r)
theorem bytesR_big (ss : List ByteArray) (r m : Nat) (hm : m = 1000000) : BytesR ss (.returned (.int .i64 ((r : Int) + 1000000))) :=
  ⟨r + m, retN (by omega), fun h => by omega⟩
set_option maxHeartbeats 800000 in
set_option maxRecDepth 100000 in
theorem tbytes_any (a : Option Addr) (len cap : Nat) (ss : List ByteArray) (w : World) (hsl : StrS w a len ss) (hle : len ≤ 1000) (hs : ∀ s ∈ ss, s.size ≤ maxLen) :
    Calls Tryz.prog 15 #[.slice a len cap] w fun e w' => BytesR ss e ∧ w = w' := by
  have HS := Lib.hid hsl
  have HN := Lib.hid hs
  clear hsl hs
  go_enter Tryz.func15, Tryz.ntmps15
  go_wp2
  go_loop [3, 8] (fun v i => ∃ (k r : Nat), i = .int .i64 (k : Int) ∧ k ≤ len ∧ v = .int .i64 (r : Int) ∧ r < 1000000 ∧ (catS (ss.take k)).length = r) (fun _ i => len - (intOf i).toNat)
  case atStart => exact ⟨0, 0, rfl, by omega, rfl, by omega, by rw [List.take_zero]; rfl⟩
  case round =>
    obtain ⟨k, r, rfl, hk, rfl, hr, hrs⟩ := hrel
    have HR := Lib.hid hrs
    clear hrs
    have hl := HS.out.1
    by_cases hlt : k < len
    · obtain ⟨b, off, ha, hc⟩ := HS.out.2 (by omega)
      subst ha
      have cK := hc k (by omega)
      have hsk := HN.out _ (List.getElem_mem (show k < ss.length by omega))
      have hst := cat_take_len ss k (by omega)
      obtain ⟨t, ht⟩ : ∃ t, t = ss[k]'(by omega) := ⟨_, rfl⟩
      rw [← ht] at cK hsk hst
      have hsi : (t.size : Int) ≤ 9223372036854775807 := by unfold maxLen at hsk; omega
      clear hsk
      rw [HR.out] at hst
      have HST := Lib.hid hst
      clear hst hc hl ht
      by_cases hbig : 1000000 < (t.size : Int)
      · have hf : (1000000 : Int) ≤ (r : Int) + 1000000 := by omega
        have hf2 : decide ((1000000 : Int) ≤ (r : Int) + 1000000) = true := decide_eq_true hf
        have hf3 : (1000000 : Nat) ≤ r + 1000000 := by omega
        have hbr := bytesR_big ss r 1000000 rfl
        go_wp2_with fail
        go_ret
        exact ⟨hbr, rfl⟩
      · have hle2 : (t.size : Int) ≤ 1000000 := by omega
        clear hsi
        by_cases hsum : 1000000 ≤ (r : Int) + t.size
        · have hf2 : decide ((1000000 : Int) ≤ (r : Int) + t.size) = true := decide_eq_true hsum
          have hf3 : decide (1000000 ≤ r + t.size) = true := decide_eq_true (by omega)
          go_wp2
          all_goals go_ret
          all_goals exact ⟨⟨r + t.size, retN (by omega), fun h => by omega⟩, rfl⟩
        · have hf2 : decide ((1000000 : Int) ≤ (r : Int) + t.size) = false := decide_eq_false hsum
          have hf3 : decide (1000000 ≤ r + t.size) = false := decide_eq_false (by omega)
          go_wp2
          all_goals go_round
          all_goals first
            | (case rel => exact ⟨k + 1, r + t.size, by go_num, by omega, by first | rfl | go_num | (congr 2; omega), by omega, HST.out⟩)
            | skip
          all_goals first
            | (case measure => simp [intOf]; omega)
            | skip
    · have hfin : ss.take k = ss := List.take_of_length_le (by omega)
      have hst : (catS ss).length = r := by rw [← HR.out, hfin]
      have HST := Lib.hid hst
      clear hst hfin hl
      go_wp2
      go_ret
      exact ⟨⟨r, rfl, fun _ => HST.out⟩, rfl⟩
end Go.Proofs.YtiflieaemgamkaaGreatDoor
