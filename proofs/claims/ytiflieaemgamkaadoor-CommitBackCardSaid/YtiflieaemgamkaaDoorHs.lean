/- The contract of (*sha.Hash).spread over this translation: the words of a block. Conditions: a sum that lies in a block of its own. -/
import Derived.Test.YtiflieaemgamkaaDoorHr
import Derived.Lib.Hide
import Derived.Deep.QuietTactic
import Derived.BigQuiet
import Derived.Deep.RegionWith
import Derived.RegionTactic
import Derived.StillTailTactics
import Derived.Laws.Rows
import Derived.Laws.Tables
import Derived.Laws.CopyOwn
import Derived.IntWalk
namespace Go.Proofs.YtiflieaemgamkaaDoor
open Go.RowKit Hm

/-- a sum on its way, in the block B: its words, its bytes, and how many there were -/
structure IsH (w : World) (B : Nat) (h : List Nat) (b : List UInt8) (n : Nat) : Prop where
  hl : h.length = 8
  hlt : ∀ j, j < 8 → h.getD j 0 < 4294967296
  bl : b.length = 64
  made : w.cell? ⟨B, 0, none⟩ = some (.bool true)
  words : ∀ j, j < 8 → w.cell? ⟨B, 1 + j, none⟩ = some (.int .u32 (h.getD j 0 : Int))
  bytes : ∀ j, j < 64 → w.cell? ⟨B, 9 + j, none⟩ = some (.int .u8 ((b.getD j 0).toNat : Int))
  count : w.cell? ⟨B, 73, none⟩ = some (.int .i64 (n : Int))
  free : ∀ j, j < 74 → w.frozen? ⟨B, j, none⟩ = false
  lt : B < w.heap.size

/-- the row of words in the block N + 1, and the row N where the answer will lie -/
structure RW (N : Nat) (w : World) (r : List Nat) (wr : World) : Prop where
  len : r.length = 64
  lt : ∀ j, r.getD j 0 < 4294967296
  blk : wr.heap[N + 1]? = some (.cells (r.map fun (x : Nat) => Value.int .u32 (x : Int)).toArray 115 (0, 0))
  res : wr.heap[N]? = some (.cells (Array.replicate 64 (.int .u32 0)) 115 (0, 0))
  old : Below w.heap.size w wr
  at_ : N = w.heap.size
theorem RW.cell {N : Nat} {w wr : World} {r : List Nat} (h : RW N w r wr) (j : Nat) (hj : j < 64) : wr.cell? ⟨N + 1, j, none⟩ = some (.int .u32 (r.getD j 0 : Int)) := by
  have := h.len
  rw [cell_of_row _ _ _ _ _ _ h.blk]
  simp [List.getD, this, hj]
theorem RW.free {N : Nat} {w wr : World} {r : List Nat} (h : RW N w r wr) (j : Nat) : wr.frozen? ⟨N + 1, j, none⟩ = false := by
  simp [World.frozen?, h.blk]
theorem set_lt (r : List Nat) (i x : Nat) (hr : ∀ j, r.getD j 0 < 4294967296) (hx : x < 4294967296) (j : Nat) : (r.set i x).getD j 0 < 4294967296 := by
  have := hr j
  simp only [List.getD, List.getElem?_set] at this ⊢
  split
  · split <;> simp [hx]
  · exact this
theorem RW.set {N : Nat} {w wr : World} {r : List Nat} (h : RW N w r wr) (i x : Nat) (hx : x < 4294967296) :
    RW N w (r.set i x) (wr.setCell ⟨N + 1, i, none⟩ (.int .u32 (x : Int))).drew := by
  refine ⟨by simp [h.len], set_lt r i x h.lt hx, ?_, ?_, (h.old.setCell (by have := h.at_; show _ ≤ N + 1; omega) _).drew, h.at_⟩
  · show (wr.setCell ⟨N + 1, i, none⟩ (.int .u32 (x : Int))).heap[N + 1]? = _
    rw [heap_setCell_same _ _ _ _ _ _ h.blk]
    simp [List.map_set]
  · show (wr.setCell ⟨N + 1, i, none⟩ (.int .u32 (x : Int))).heap[N]? = _
    rw [heap_setCell_other _ _ _ _ (by show N ≠ N + 1; omega)]
    exact h.res

theorem or_byte (x c : Nat) (hc : c < 256) : bits BinOp.or IntKind.u32 ((x : Int) * 256 % 4294967296) (c : Int) = ((x * 2 ^ 8 % 4294967296 ||| c : Nat) : Int) := by
  have h := u32_or_nat (x * 2 ^ 8 % 4294967296) c (Nat.mod_lt _ (by omega)) (by omega)
  rw [← h]
  congr 1
/-- one byte more -/
def take1 (b : List UInt8) (r : List Nat) (k : Nat) : List Nat := r.set (k / 4) (r.getD (k / 4) 0 * 2 ^ 8 % 4294967296 ||| (b.getD k 0).toNat)
def took (b : List UInt8) (k : Nat) : List Nat := (List.range k).foldl (take1 b) (List.replicate 64 0)
theorem took_succ (b : List UInt8) (k : Nat) : took b (k + 1) = take1 b (took b k) k := by
  unfold took; rw [List.range_succ, List.foldl_append]; rfl
def grew (r : List Nat) (k : Nat) : List Nat := r.set k ((r.getD (k - 16) 0 + sig0 (r.getD (k - 15) 0) + r.getD (k - 7) 0 + sig1 (r.getD (k - 2) 0)) % 4294967296)
def grown (b : List UInt8) (k : Nat) : List Nat := (List.range (k - 16)).foldl (fun r m => grew r (16 + m)) (took b 64)
theorem grown_succ (b : List UInt8) (k : Nat) (h : 16 ≤ k) : grown b (k + 1) = grew (grown b k) k := by
  unfold grown
  rw [show k + 1 - 16 = (k - 16) + 1 by omega, List.range_succ, List.foldl_append]
  show grew _ (16 + (k - 16)) = _
  rw [show 16 + (k - 16) = k by omega]
theorem grown16 (b : List UInt8) : grown b 16 = took b 64 := by
  unfold grown
  rw [Nat.sub_self, List.range_zero, List.foldl_nil]
theorem rw_16 {N : Nat} {w wr : World} {b : List UInt8} (h : RW N w (took b 64) wr) : RW N w (grown b 16) wr := by rw [grown16]; exact h
theorem two_new (w : World) (o p : Obj) : ((w.alloc o).alloc p).heap[w.heap.size]? = some o ∧ ((w.alloc o).alloc p).heap[w.heap.size + 1]? = some p := by
  constructor
  · show ((w.heap.push o).push p)[w.heap.size]? = _
    rw [Array.getElem?_push]
    simp
  · show ((w.heap.push o).push p)[w.heap.size + 1]? = _
    rw [Array.getElem?_push]
    simp
theorem two_below (w : World) (o p : Obj) : Below w.heap.size w ((w.alloc o).alloc p) := Below.alloc (Below.alloc (Below.refl _ _) (Nat.le_refl _) _) (by simp) _
theorem rw_start (w W : World) (h0 : W.heap[w.heap.size]? = some (.cells (Array.replicate 64 (.int .u32 0)) 115 (0, 0))) (h1 : W.heap[w.heap.size + 1]? = some (.cells (Array.replicate 64 (.int .u32 0)) 115 (0, 0))) (hb : Below w.heap.size w W) :
    RW w.heap.size w (List.replicate 64 0) W :=
  ⟨rfl, fun j => by simp only [List.getD, List.getElem?_replicate]; split <;> simp, by rw [h1]; rfl, h0, hb, rfl⟩

theorem RW.set' {N : Nat} {w wr : World} {r : List Nat} (h : RW N w r wr) (i x : Nat) (v : Int) (hv : v = (x : Int)) (hx : x < 4294967296) : RW N w (r.set i x) (wr.setCell ⟨N + 1, i, none⟩ (.int .u32 v)).drew := by
  subst hv
  exact h.set i x hx
theorem RW.set2 {N : Nat} {w wr : World} {r : List Nat} (h : RW N w r wr) (i x : Nat) (v : Int) (hv : v = (x : Int)) (hx : x < 4294967296) : RW N w (r.set i x) (wr.setCell ⟨N + 1, i, none⟩ (.int .u32 v)) :=
  let g := h.set' i x v hv hx
  ⟨g.len, g.lt, g.blk, g.res, ⟨g.old.os, g.old.tape, g.old.output, g.old.size, g.old.block⟩, g.at_⟩
theorem RW.drews {N : Nat} {w wr : World} {r : List Nat} (h : RW N w r wr) (q : Nat) : RW N w r (wr.drewN q).drew :=
  ⟨h.len, h.lt, h.blk, h.res, ⟨h.old.os, h.old.tape, h.old.output, h.old.size, h.old.block⟩, h.at_⟩
/-- words put together, as letters -/
theorem xor_ex (a b : Nat) (ha : a < 4294967296) (hb : b < 4294967296) : ∃ c : Nat, c < 4294967296 ∧ Hid (c = a ^^^ b) ∧ bits .xor .u32 (a : Int) (b : Int) = (c : Int) := ⟨_, xor_lt a b ha hb, rfl, u32_xor_nat a b ha hb⟩
theorem and_ex (a b : Nat) (ha : a < 4294967296) (hb : b < 4294967296) : ∃ c : Nat, c < 4294967296 ∧ Hid (c = a &&& b) ∧ bits .and .u32 (a : Int) (b : Int) = (c : Int) := ⟨_, and_lt a b ha, rfl, u32_and_nat a b ha hb⟩
theorem add_ex (a b : Nat) : ∃ c : Nat, c < 4294967296 ∧ Hid (c = (a + b) % 4294967296) ∧ IntKind.u32.wrap ((a : Int) + (b : Int)) = (c : Int) ∧ ((a : Int) + (b : Int)) % 4294967296 = (c : Int) :=
  ⟨_, Nat.mod_lt _ (by omega), rfl, by rw [IntKind.wrap_u32]; omega, by omega⟩
theorem div_ex (a k : Nat) (d : Int) (hd : d = ((2 ^ k : Nat) : Int)) (ha : a < 4294967296) : ∃ c : Nat, c < 4294967296 ∧ Hid (c = a / 2 ^ k) ∧ (a : Int) / d = (c : Int) := ⟨a / 2 ^ k, div_lt a k ha, rfl, by rw [hd]; rfl⟩
theorem rot_ex (x k : Nat) (z : Int) (hz : z = k) (hx : x < 4294967296) (hk0 : 1 ≤ k) (hk1 : k ≤ 31) : ∃ c : Nat, c < 4294967296 ∧ Hid (c = rotr x k) ∧
    Hid (∀ W : World, Calls Tryd.prog 63 #[.int .u32 x, .int .i64 z] W fun e w' => e = .returned (.int .u32 (c : Int)) ∧ w' = W) :=
  ⟨_, rotr_lt x k hx, rfl, fun W => (right_at x k z hz W hx hk0 hk1).mono fun _ _ ⟨h1, h2⟩ => ⟨h1, h2.symm⟩⟩

set_option maxHeartbeats 4000000 in
set_option maxRecDepth 100000 in
theorem spread_any (B : Nat) (h : List Nat) (b : List UInt8) (n : Nat) (w : World) (hH : IsH w B h b n) :
    Calls Tryd.prog 62 #[.pointer (some ⟨B, 0, none⟩)] w fun e w' => e = .returned (.agg ((grown b 64).map fun (x : Nat) => Value.int .u32 (x : Int)).toArray) ∧ (grown b 64).length = 64 ∧ Below w.heap.size w w' := by
  have hlt := hH.lt
  have HH := Lib.hid hH
  clear hH
  go_enter Tryd.func62, Tryd.ntmps62
  go_wp2_with fail
  go_loopw [4, 8] (fun _ i wr => ∃ (k : Nat), i = .int .i64 (k : Int) ∧ k ≤ 64 ∧ RW w.heap.size w (took b k) wr) (fun _ i _ => 64 - (intOf i).toNat)
  case atStart => exact ⟨0, rfl, by omega, rw_start w _ (two_new w _ _).1 (two_new w _ _).2 (two_below w _ _)⟩
  case round =>
    obtain ⟨k, rfl, hk, hri⟩ := hrel
    have RI0 := Lib.hid hri
    clear hri
    by_cases hlt2 : k < 64
    · have cw := RI0.out.cell (k / 4) (by omega)
      have fw := RI0.out.free (k / 4)
      have cb := (RI0.out.old.cell (p := ⟨B, 9 + k, none⟩) hlt).trans (HH.out.bytes k hlt2)
      have xl := RI0.out.lt (k / 4)
      obtain ⟨x, hx⟩ : ∃ x, x = (took b k).getD (k / 4) 0 := ⟨_, rfl⟩
      obtain ⟨c, hc⟩ : ∃ c, c = (b.getD k 0).toNat := ⟨_, rfl⟩
      have hc8 : c < 256 := by rw [hc]; exact (b.getD k 0).toNat_lt
      rw [← hx] at cw xl
      rw [← hc] at cb
      have hor := or_byte x c hc8
      have hnew := RI0.out.set (k / 4) (x * 2 ^ 8 % 4294967296 ||| c) (or_lt _ _ (Nat.mod_lt _ (by omega)) (by omega))
      have htk : (took b k).set (k / 4) (x * 2 ^ 8 % 4294967296 ||| c) = took b (k + 1) := by rw [took_succ, take1, ← hx, ← hc]
      rw [htk] at hnew
      have HN := Lib.hid hnew
      clear hnew htk hx hc
      go_wp2_with fail
      go_region
      all_goals
        go_wp2_with fail
        go_roundw
        case rel => exact ⟨k + 1, by go_num, by omega, HN.out⟩
        case measure => simp [intOf]; omega
    · obtain rfl : k = 64 := by omega
      have HRI := Lib.hid (rw_16 RI0.out)
      clear RI0 hlt HH hlt2 hk
      go_wp2_with fail
      go_loopw [5, 6, 7] (fun i _ _ wr => ∃ (m : Nat), i = .int .i64 ((m : Int) + 16) ∧ m ≤ 48 ∧ RW w.heap.size w (grown b (m + 16)) wr) (fun i _ _ _ => 64 - (intOf i).toNat)
      case atStart => exact ⟨0, rfl, by omega, HRI.out⟩
      case round =>
        clear HRI
        obtain ⟨m, rfl, hk, hri⟩ := hrel
        have RI0 := Lib.hid hri
        clear hri
        by_cases hlt2 : m < 48
        · have c16 := RI0.out.cell m (by omega)
          have c15 := RI0.out.cell (m + 1) (by omega)
          have c7 := RI0.out.cell (m + 9) (by omega)
          have c2 := RI0.out.cell (m + 14) (by omega)
          have c0 := RI0.out.cell (m + 16) (by omega)
          have f0 := RI0.out.free (m + 16)
          have l16 := RI0.out.lt m
          have l15 := RI0.out.lt (m + 1)
          have l7 := RI0.out.lt (m + 9)
          have l2 := RI0.out.lt (m + 14)
          obtain ⟨x16, hx16⟩ : ∃ x, x = (grown b (m + 16)).getD m 0 := ⟨_, rfl⟩
          obtain ⟨x15, hx15⟩ : ∃ x, x = (grown b (m + 16)).getD (m + 1) 0 := ⟨_, rfl⟩
          obtain ⟨x7, hx7⟩ : ∃ x, x = (grown b (m + 16)).getD (m + 9) 0 := ⟨_, rfl⟩
          obtain ⟨x2, hx2⟩ : ∃ x, x = (grown b (m + 16)).getD (m + 14) 0 := ⟨_, rfl⟩
          obtain ⟨x0, hx0⟩ : ∃ x, x = (grown b (m + 16)).getD (m + 16) 0 := ⟨_, rfl⟩
          rw [← hx16] at c16 l16
          rw [← hx15] at c15 l15
          rw [← hx7] at c7 l7
          rw [← hx2] at c2 l2
          rw [← hx0] at c0
          have htk : (grown b (m + 16)).set (m + 16) ((x16 + sig0 x15 + x7 + sig1 x2) % 4294967296) = grown b (m + 1 + 16) := by
            rw [show m + 1 + 16 = m + 16 + 1 by omega, grown_succ b (m + 16) (by omega), grew, show m + 16 - 16 = m by omega, show m + 16 - 15 = m + 1 by omega, show m + 16 - 7 = m + 9 by omega, show m + 16 - 2 = m + 14 by omega, ← hx16, ← hx15, ← hx7, ← hx2]
          have HK := Lib.hid htk
          clear htk hx16 hx15 hx7 hx2 hx0
          obtain ⟨q7, hq7, D7, C7⟩ := rot_ex x15 7 7 rfl l15 (by omega) (by omega)
          obtain ⟨q18, hq18, D18, C18⟩ := rot_ex x15 18 18 rfl l15 (by omega) (by omega)
          obtain ⟨q17, hq17, D17, C17⟩ := rot_ex x2 17 17 rfl l2 (by omega) (by omega)
          obtain ⟨q19, hq19, D19, C19⟩ := rot_ex x2 19 19 rfl l2 (by omega) (by omega)
          obtain ⟨y1, ly1, E1, e1⟩ := xor_ex q7 q18 hq7 hq18
          obtain ⟨z1, lz1, F1, f1⟩ := div_ex x15 3 8 rfl l15
          obtain ⟨y2, ly2, E2, e2⟩ := xor_ex y1 z1 ly1 lz1
          obtain ⟨y3, ly3, E3, e3⟩ := xor_ex q17 q19 hq17 hq19
          obtain ⟨z2, lz2, F2, f2⟩ := div_ex x2 10 1024 rfl l2
          obtain ⟨y4, ly4, E4, e4⟩ := xor_ex y3 z2 ly3 lz2
          obtain ⟨s1, ls1, G1, g1, g1'⟩ := add_ex x16 y2
          obtain ⟨s2, ls2, G2, g2, g2'⟩ := add_ex s1 x7
          obtain ⟨s3, ls3, G3, g3, g3'⟩ := add_ex s2 y4
          have HV := Lib.hid (show (s3 : Int) = (((x16 + sig0 x15 + x7 + sig1 x2) % 4294967296 : Nat) : Int) by
            have a1 := G1.out
            have a2 := G2.out
            have a3 := G3.out
            have b1 : y2 = sig0 x15 := by rw [E2.out, E1.out, D7.out, D18.out, F1.out]; rfl
            have b2 : y4 = sig1 x2 := by rw [E4.out, E3.out, D17.out, D19.out, F2.out]; rfl
            rw [b1] at a1
            rw [b2] at a3
            omega)
          have w16 : IntKind.i64.wrap (m : Int) = (m : Int) := by rw [IntKind.wrap_i64]; omega
          have w7 : IntKind.i64.wrap ((m : Int) + 9) = (m : Int) + 9 := by rw [IntKind.wrap_i64]; omega
          have w7' : IntKind.i64.wrap ((m : Int) + 16 - 7) = (m : Int) + 9 := by rw [IntKind.wrap_i64]; omega
          have n9 : ((m : Int) + 9).toNat = m + 9 := by omega
          have n16 : ((m : Int) + 16).toNat = m + 16 := by omega
          have b0 : 0 ≤ (m : Int) := by omega
          have b9 : 0 ≤ (m : Int) + 9 := by omega
          have b16 : 0 ≤ (m : Int) + 16 := by omega
          have b1 : (m : Int) < 64 := by omega
          have b2 : (m : Int) + 9 < 64 := by omega
          have b3 : (m : Int) + 16 < 64 := by omega
          go_wp2_with fail
          go_quiet (fail)
          go_wp2_with fail
          refine wp_region_still_tail 29 (by kernel_rfl) (by kernel_rfl) ?_
          show wpStill _ _ (wr.drewN nq).drew (fun a' => wpList _ _ _ _ a' (wr.drewN nq).drew) _ _
          have RI2 := Lib.hid (RI0.out.drews nq)
          have d16 : (wr.drewN nq).drew.cell? ⟨w.heap.size + 1, m, none⟩ = some (.int .u32 (x16 : Int)) := c16
          have d7 : (wr.drewN nq).drew.cell? ⟨w.heap.size + 1, m + 9, none⟩ = some (.int .u32 (x7 : Int)) := c7
          have d0 : (wr.drewN nq).drew.cell? ⟨w.heap.size + 1, m + 16, none⟩ = some (.int .u32 (x0 : Int)) := c0
          have g0 : (wr.drewN nq).drew.frozen? ⟨w.heap.size + 1, m + 16, none⟩ = false := f0
          clear c16 c15 c7 c2 c0 f0
          generalize (wr.drewN nq).drew = w2 at *
          simp only [List.take_succ_cons, List.take_zero, List.drop_succ_cons, List.drop_zero]
          repeat (first
            | still_step
            | (refine wpStill_step (fun K hK => ?_)
               go_simp
               first
               | refine ⟨_, C7.out _, hK _ ?_⟩
               | refine ⟨_, C18.out _, hK _ ?_⟩
               | refine ⟨_, C17.out _, hK _ ?_⟩
               | refine ⟨_, C19.out _, hK _ ?_⟩
               clear hK K))
          refine wpStill_nil ?_
          go_wp2_with fail
          go_roundw
          case rel =>
            repeat apply Exists.intro
            refine ⟨?_, rfl⟩
            exact ⟨m + 1, by go_num, by omega, by have := RI2.out.set2 (m + 16) _ _ HV.out (Nat.mod_lt _ (by omega)); rw [HK.out] at this; exact this⟩
          case measure => simp [intOf]; omega
        · obtain rfl : m = 48 := by omega
          have hblk := RI0.out.blk
          have hres := RI0.out.res
          have hlen := RI0.out.len
          have HBL := Lib.hid RI0.out.old
          obtain ⟨cs, hcs⟩ : ∃ cs, cs = ((grown b (48 + 16)).map fun (x : Nat) => Value.int .u32 (x : Int)).toArray := ⟨_, rfl⟩
          have hsz : cs.size = 64 := by rw [hcs]; simp [hlen]
          rw [← hcs] at hblk
          have HCS := Lib.hid hcs
          have hone : cs.all (·.oneCell') = true := by
            rw [hcs, Array.all_eq_true_iff_forall_mem]
            intro v hv
            simp at hv
            obtain ⟨x, _, rfl⟩ := hv
            rfl
          have HSZ := Lib.hid hsz
          have HBK := Lib.hid hblk
          have HRS := Lib.hid hres
          have HON := Lib.hid hone
          have HLE := Lib.hid hlen
          have hinfo : (Tryd.prog.info? 115).map (·.size) = some cs.size := by rw [hsz]; kernel_rfl
          have HIN := Lib.hid hinfo
          clear hblk hres hlen hcs hsz hone hinfo RI0 hlt2 hk
          go_wp2_with (first
            | refine wpList_load_row rfl 115 (.tmp 3) rfl (w.heap.size + 1) rfl 115 cs (0, 0) _ HBK.out Tryd.underlying115 rfl HIN.out ?_
            | refine wpList_store_row rfl 115 (.tmp 2) (.tmp 69) rfl w.heap.size cs rfl rfl 115 _ HRS.out HIN.out (by rw [HSZ.out]; simp) HON.out ?_)
          refine bodyPost_ret (results_cell_row rfl _ _ w.heap.size 115 cs (0, 0) _ rfl (setRow_heap wr w.heap.size _ cs 115 (0, 0) HRS.out) Tryd.underlying115 rfl HIN.out) rfl ?_
          exact ⟨by rw [HCS.out], HLE.out, below_setRow HBL.out (Nat.le_refl _) cs⟩
end Go.Proofs.YtiflieaemgamkaaDoor
