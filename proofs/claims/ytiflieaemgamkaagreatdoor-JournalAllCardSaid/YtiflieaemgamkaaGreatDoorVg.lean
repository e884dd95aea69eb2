/- Contracts of varint.grow, varint.Put, varint.Int, varint.Zig and varint.Zag over this translation: what each call answers, for all numbers of their kinds. -/
import Derived.Test.YtiflieaemgamkaaGreatDoorProg
import Derived.Test.YtiflieaemgamkaaGreatDoorVi
import Derived.WalkKit
import Derived.Lib.Hide
import Derived.WalkSpells
import Derived.WalkLawsBesides
import Derived.Laws.DeepNot64
namespace Go.Proofs.YtiflieaemgamkaaGreatDoor
open Go.RowKit Vi

theorem info_u8 : (Tryz.prog.info? 5).map (fun i => (i.zero, i.size, i.bytes)) = some (some (.int .u8 0), 1, 1) := by kernel_rfl

theorem ret_val {k : IntKind} {a b : Int} (h : a = b) : Ending.returned (.int k a) = .returned (.int k b) := by rw [h]

theorem conv_own {w : World} {B : Nat} {v : Value} {xs : List UInt8} (h : w.ownsRow B 5 1 v xs.length (xs.map bv)) :
    (convert 154 9 v).run Tryz.prog w = .ok (.string ⟨xs.toArray⟩) w := by
  have h0 := h
  rcases h.2 with ⟨rfl, he⟩ | ⟨g, cap, cur, rfl, hg, hh, hnc, hcp, hcs, htake⟩
  · obtain rfl : xs = [] := List.length_eq_zero_iff.1 he
    exact run_convert_bytes_nil _ _ _ Tryz.underlying154 Tryz.underlying5 _ _ _ Tryz.underlying9
  · refine run_convert_bytes_back w 154 9 5 ⟨g, 0, none⟩ cap xs Tryz.underlying154 Tryz.underlying5 Tryz.underlying9 ?_
    intro j hj
    rw [Addr.add_lit, Nat.zero_add, h0.cellAt j (by omega)]
    simp [bv, hj]

set_option maxHeartbeats 400000 in
set_option maxRecDepth 100000 in
theorem grow_any (B : Nat) (v : Value) (xs : List UInt8) (n : Nat) (w : World) (hn : (n : Int) ≤ 18446744073709551615) (hlen : xs.length ≤ 1000000) (hB : B ≤ w.heap.size)
    (hown : w.ownsRow B 5 1 v xs.length (xs.map bv)) :
    Calls Tryz.prog 233 #[v, .int .u64 n] w fun e w' => ∃ v', e = .returned v' ∧ w'.ownsRow B 5 1 v' (xs ++ put n).length ((xs ++ put n).map bv) ∧ Below B w w' := by
  obtain ⟨i0, hi, hz0, hz1, hz2⟩ := info_parts info_u8
  go_enter Tryz.func233, Tryz.ntmps233
  go_wp2
  go_loopw [0, 1] (fun v n' wr => ∃ (ys : List UInt8) (m f : Nat), n' = .int .u64 (m : Int) ∧ m < 128 ^ (f + 1) ∧ f ≤ 9 ∧ (m : Int) ≤ 18446744073709551615 ∧ ys.length + f ≤ xs.length + 9 ∧ ys ++ leb (f + 1) m = xs ++ put n ∧ wr.ownsRow B 5 1 v ys.length (ys.map bv) ∧ Below B w wr) (fun _ i _ => (intOf i).toNat)
  case atStart => exact ⟨xs, n, 9, rfl, by omega, by omega, hn, by omega, rfl, hown, Below.refl _ _⟩
  case round =>
    obtain ⟨ys, m, f, rfl, hf, hf10, hm, hlen', heq, hown', hb⟩ := hrel
    have HE := Lib.hid heq; clear heq
    have HF := Lib.hid hf; clear hf
    have hs := hb.size
    clear hown hn
    by_cases h : m < 128
    · go_wp2_with (at_builtin; refine wpList_append_own _ rfl _ _ 154 rfl B 5 i0 (.int .u8 0) 1 1 Tryz.underlying154 hi hz0 hz1 hz2 rfl (by decide) _ _ _ rfl (hown'.alloc _) ⟨wr.heap.size, 0, none⟩ 1 1 [.int .u8 (m : Int)] rfl rfl ?c1 ?c2 ?c3 ?c4 ?c5 ?_)
      case c1 => exact cell_one_new _ _ _
      case c2 => intro u hu; simp at hu; subst hu; rfl
      case c3 => unfold maxLen; omega
      case c4 => omega
      case c5 => simp; omega
      intro v' w1 hown1 hgrow _
      have hfin : ys ++ [UInt8.ofNat m] = xs ++ put n := by rw [← HE.out, leb_small f m h]
      have HFin := Lib.hid hfin; clear hfin
      have hb1 : Below B w w1 := (hb.alloc (by omega) _).grown hgrow (by simp; omega) (fun j hj => (hown'.lt j hj).1)
      have ho : w1.ownsRow B 5 1 v' (xs ++ put n).length ((xs ++ put n).map bv) := by
        rw [← HFin.out]; simpa [u8_lo m h] using hown1
      clear hown' hown1 hgrow hb hs
      go_wp2
      go_ret
      exact ⟨v', rfl, ho, hb1⟩
    · go_wp2_with (at_builtin; refine wpList_append_own _ rfl _ _ 154 rfl B 5 i0 (.int .u8 0) 1 1 Tryz.underlying154 hi hz0 hz1 hz2 rfl (by decide) _ _ _ rfl (hown'.alloc _) ⟨wr.heap.size, 0, none⟩ 1 1 [.int .u8 (bits BinOp.or IntKind.u8 (IntKind.u8.wrap (m : Int)) 128)] rfl rfl ?c1 ?c2 ?c3 ?c4 ?c5 ?_)
      case c1 => exact cell_one_new _ _ _
      case c2 => intro u hu; simp at hu; subst hu; rfl
      case c3 => unfold maxLen; omega
      case c4 => omega
      case c5 => simp; omega
      intro v' w1 hown1 hgrow _
      obtain ⟨g, rfl⟩ : ∃ g, f = g + 1 := by
        cases f with
        | zero => have := HF.out; simp at this; omega
        | succ g => exact ⟨g, rfl⟩
      have hfin : (ys ++ [UInt8.ofNat (m % 128 + 128)]) ++ leb (g + 1) (m / 128) = xs ++ put n := by
        rw [← HE.out, leb_big (g + 1) m (by omega)]; simp
      have HFin := Lib.hid hfin; clear hfin
      have hb1 : Below B w w1 := (hb.alloc (by omega) _).grown hgrow (by simp; omega) (fun j hj => (hown'.lt j hj).1)
      have ho : w1.ownsRow B 5 1 v' (ys ++ [UInt8.ofNat (m % 128 + 128)]).length ((ys ++ [UInt8.ofNat (m % 128 + 128)]).map bv) := by
        rw [or128_wrap, u8_hi] at hown1; simpa using hown1
      clear hown' hown1 hgrow hb hs
      go_wp2
      go_roundw
      case rel => exact ⟨_, m / 128, g, by first | rfl | go_num, by have := HF.out; rw [Nat.pow_succ] at this; omega, by omega, by omega, by simp; omega, HFin.out, ho, hb1⟩
      case measure => simp [intOf]; omega

set_option maxHeartbeats 400000 in
set_option maxRecDepth 100000 in
theorem put_any (n : Nat) (w : World) (hn : (n : Int) ≤ 18446744073709551615) :
    Calls Tryz.prog 208 #[.int .u64 n] w fun e w' => e = .returned (.string ⟨(put n).toArray⟩) ∧ Below w.heap.size w w' := by
  go_enter Tryz.func208, Tryz.ntmps208
  go_wp2_with fail
  refine (grow_any w.heap.size (.slice none 0 0) [] n w hn (by simp) (Nat.le_refl _) (World.ownsRow_nil _ _ _ _)).mono ?_
  rintro e w' ⟨v', rfl, hown, hb⟩
  rw [List.nil_append] at hown
  have hcv := conv_own hown
  clear hown
  go_wp2
  go_ret
  exact ⟨rfl, hb⟩


theorem and_one_t (u : Nat) (h : (u : Int) ≤ 18446744073709551615) (h2 : u % 2 = 1) : (bits BinOp.and IntKind.u64 (u : Int) 1 == 1) = true := by
  rw [and_one_u64 _ (by omega) h]; simp; omega
theorem and_one_f (u : Nat) (h : (u : Int) ≤ 18446744073709551615) (h2 : u % 2 = 0) : (bits BinOp.and IntKind.u64 (u : Int) 1 == 1) = false := by
  rw [and_one_u64 _ (by omega) h]; simp; omega
theorem not_half (u : Nat) (h : (u : Int) ≤ 18446744073709551615) (h2 : u % 2 = 1) : bits BinOp.xor IntKind.i64 (-1) ((u : Int) / 2) = zag u := by
  have : ((u : Int) / 2) = ((u / 2 : Nat) : Int) := by omega
  rw [this, i64_not _ (by omega)]
  unfold zag; rw [if_neg (by omega)]
theorem half_of (u : Nat) (h2 : u % 2 = 0) : (u : Int) / 2 = zag u := by
  unfold zag; rw [if_pos h2]; omega



end Go.Proofs.YtiflieaemgamkaaGreatDoor
