/- Contracts of the document's own Digits, Put, Zig and Zag of layer 1 over this translation, for every number of 64 bits. -/
import Derived.Test.YtiflieaemgamkaaGreatDoorVg
import Derived.Test.YtiflieaemgamkaaGreatDoorVd
namespace Go.Proofs.YtiflieaemgamkaaGreatDoor
open Go.RowKit Vi

theorem info_int : (Tryz.prog.info? 3).map (fun i => (i.zero, i.size, i.bytes)) = some (some (.int .i64 0), 1, 8) := by kernel_rfl

theorem own_one (w : World) (e : TypeId) (x : Value) : (w.alloc (.cells #[x] e)).ownsRow w.heap.size e 1 (.slice (some ⟨w.heap.size, 0, none⟩) 1 1) 1 [x] :=
  ⟨by simp, .inr ⟨w.heap.size, 1, #[x], rfl, Nat.le_refl _, heap_alloc_new _ _, by omega, by unfold maxLen; omega, rfl, rfl⟩⟩

theorem conv_one (w : World) (x : Int) (b : UInt8) (hx : x = (b.toNat : Int)) :
    (convert 154 9 (.slice (some ⟨w.heap.size, 0, none⟩) 1 1)).run Tryz.prog (w.alloc (.cells #[.int .u8 x] 5)) = .ok (.string ⟨#[b]⟩) (w.alloc (.cells #[.int .u8 x] 5)) := by
  subst hx
  exact conv_own (xs := [b]) (own_one w 5 (bv b))

set_option maxHeartbeats 400000 in
set_option maxRecDepth 100000 in
theorem digits_any (n : Nat) (w : World) (hn : (n : Int) ≤ 18446744073709551615) :
    Calls Tryz.prog 223 #[.int .u64 n] w fun e w' => ∃ v, e = .returned v ∧ w'.ownsRow w.heap.size 3 1 v (digs n).length ((digs n).map iv) ∧ Below w.heap.size w w' := by
  obtain ⟨i0, hi, hz0, hz1, hz2⟩ := info_parts info_int
  go_enter Tryz.func223, Tryz.ntmps223
  go_wp2
  go_loopw [0, 3] (fun n' v wr => ∃ (ds : List Nat) (m f : Nat), n' = .int .u64 (m : Int) ∧ m < 128 ^ f ∧ f ≤ 9 ∧ (m : Int) ≤ 18446744073709551615 ∧ ds.length + f ≤ 10 ∧ ds ++ dgt f m = digs n ∧ wr.ownsRow w.heap.size 3 1 v ds.length (ds.map iv) ∧ Below w.heap.size w wr) (fun i _ _ => (intOf i).toNat)
  case atStart =>
    refine ⟨[n % 128], n / 128, 9, by go_num, by omega, by omega, by omega, by simp, rfl, ?_, (Below.refl _ _).alloc (Nat.le_refl _) _⟩
    have := own_one w 3 (iv (n % 128))
    simpa [iv] using this
  case round =>
    obtain ⟨ds, m, f, rfl, hf, hf10, hm, hlen', heq, hown', hb⟩ := hrel
    have HE := Lib.hid heq; clear heq
    have HF := Lib.hid hf; clear hf
    have hs := hb.size
    clear hn
    by_cases h : 0 < m
    · have hmm : ((m % 128 : Nat) : Int) = (m : Int) % 128 := by omega
      have HM := Lib.hid hmm; clear hmm
      go_wp2_with (at_builtin; refine wpList_append_own _ rfl _ _ 43 rfl w.heap.size 3 i0 (.int .i64 0) 1 8 Tryz.underlying43 hi hz0 hz1 hz2 rfl (by decide) _ _ _ rfl (hown'.alloc _) ⟨wr.heap.size, 0, none⟩ 1 1 [.int .i64 ((m : Int) % 128)] rfl rfl ?c1 ?c2 ?c3 ?c4 ?c5 ?_)
      case c1 => exact cell_one_new _ _ _
      case c2 => intro u hu; simp at hu; subst hu; rfl
      case c3 => unfold maxLen; omega
      case c4 => omega
      case c5 => simp; omega
      intro v' w1 hown1 hgrow _
      obtain ⟨g, rfl⟩ : ∃ g, f = g + 1 := by
        cases f with
        | zero => have := HF.out; simp at this; omega
        | succ g => exact ⟨g, rfl⟩
      have HFin := Lib.hid (dgt_split g m ds h _ HE.out)
      have hb1 : Below w.heap.size w w1 := (hb.alloc (by omega) _).grown hgrow (by simp; omega) (fun j hj => (hown'.lt j hj).1)
      have ho : w1.ownsRow w.heap.size 3 1 v' (ds ++ [m % 128]).length ((ds ++ [m % 128]).map iv) := by
        simpa [iv, HM.out] using hown1
      clear hown' hown1 hgrow hb hs
      go_wp2
      go_roundw
      case rel => exact ⟨_, m / 128, g, by first | rfl | go_num, by have := HF.out; rw [Nat.pow_succ] at this; omega, by omega, by omega, by simp; omega, HFin.out, ho, hb1⟩
      case measure => simp [intOf]; omega
    · obtain rfl : m = 0 := by omega
      have hfin : ds = digs n := by rw [← HE.out, dgt_zero]; simp
      have HFin := Lib.hid hfin; clear hfin
      go_wp2
      go_ret
      exact ⟨_, rfl, by rw [← HFin.out]; exact hown', hb⟩


end Go.Proofs.YtiflieaemgamkaaGreatDoor
