/- The contracts of cut's Cutter over this translation. Conditions: keys of at most maxLen bytes; an open chunk of at most seven keys. -/
import Derived.Test.YtnogddjhkdmahaaJp
import Derived.Test.YtnogddjhkdmahaaKc
import Derived.Test.YtnogddjhkdmahaaU
namespace Go.Proofs.Ytnogddjhkdmahaa
open Go.RowKit Rm Jm

/-- a Cutter in the block B -/
def CC (w : World) (B : Nat) (made : Bool) (level : Int) (n : Nat) : Prop := w.heap[B]? = some (.cells #[.bool made, .int .i64 level, .int .i64 (n : Int)] 48 (0, 0))
theorem CC.lt {w : World} {B : Nat} {made : Bool} {level : Int} {n : Nat} (h : CC w B made level n) : B < w.heap.size := blk_lt h
theorem CC.c0 {w : World} {B : Nat} {made : Bool} {level : Int} {n : Nat} (h : CC w B made level n) : w.cell? ⟨B, 0, none⟩ = some (.bool made) := by unfold CC at h; simp [World.cell?, h]
theorem CC.c1 {w : World} {B : Nat} {made : Bool} {level : Int} {n : Nat} (h : CC w B made level n) : w.cell? ⟨B, 1, none⟩ = some (.int .i64 level) := by unfold CC at h; simp [World.cell?, h]
theorem CC.c2 {w : World} {B : Nat} {made : Bool} {level : Int} {n : Nat} (h : CC w B made level n) : w.cell? ⟨B, 2, none⟩ = some (.int .i64 (n : Int)) := by unfold CC at h; simp [World.cell?, h]
theorem CC.free {w : World} {B : Nat} {made : Bool} {level : Int} {n : Nat} (h : CC w B made level n) (j : Nat) : w.frozen? ⟨B, j, none⟩ = false := frozen_of_row _ _ _ _ _ h
theorem CC.set {w : World} {B : Nat} {made : Bool} {level : Int} {n : Nat} (h : CC w B made level n) (m : Nat) (z : Int) (hz : z = (m : Int)) : CC (w.setCell ⟨B, 2, none⟩ (.int .i64 z)) B made level m := by
  subst hz
  unfold CC
  rw [heap_setCell_same _ _ _ _ _ _ h]
  rfl
theorem CC.kept {w w' : World} {B : Nat} {made : Bool} {level : Int} {n : Nat} (h : CC w B made level n) (e : w'.heap[B]? = w.heap[B]?) : CC w' B made level n := e.trans h
theorem CC.later {w w' : World} {B : Nat} {made : Bool} {level : Int} {n : Nat} (h : CC w B made level n) (hb : Below w.heap.size w w') : CC w' B made level n := h.kept (hb.block B h.lt)
/-- a new Cutter's answer -/
def MadeC (level : Int) (w : World) (e : Ending) (w' : World) : Prop := e = .returned (.pointer (some ⟨w.heap.size, 0, none⟩)) ∧ CC w' w.heap.size true level 0 ∧ Below w.heap.size w w' ∧ w.heap.size < w'.heap.size
set_option maxRecDepth 100000 in
theorem cnew_any (level : Int) (w : World) : Calls Try.prog 25 #[.int .i64 level] w (MadeC level w) := by
  go_enter Try.func25, Try.ntmps25
  go_wp2_with fail
  go_ret
  exact ⟨rfl, heap_alloc_new w _, (Below.refl _ w).alloc (Nat.le_refl _) _, by simp⟩
theorem csize_any (B : Nat) (made : Bool) (level : Int) (n : Nat) (w : World) (h : CC w B made level n) :
    Calls Try.prog 27 #[.pointer (some ⟨B, 0, none⟩)] w fun e w' => e = .returned (.int .i64 (n : Int)) ∧ w = w' := by
  have hc := h.c2
  clear h
  go_enter Try.func27, Try.ntmps27
  go_wp2_with fail
  go_ret
  exact ⟨rfl, rfl⟩
theorem csize_nil (w : World) : Calls Try.prog 27 #[.pointer none] w fun e w' => e = .returned (.int .i64 0) ∧ w = w' := by
  go_enter Try.func27, Try.ntmps27
  go_wp2_with fail
  go_ret
  exact ⟨rfl, rfl⟩
theorem cnext_nil (s : ByteArray) (w : World) : Calls Try.prog 26 #[.pointer none, .string s] w fun e w' => e = .returned (.bool false) ∧ w = w' := by
  go_enter Try.func26, Try.ntmps26
  go_wp2_with fail
  go_ret
  exact ⟨rfl, rfl⟩
theorem cnext_none (B : Nat) (level : Int) (n : Nat) (s : ByteArray) (w : World) (h : CC w B false level n) :
    Calls Try.prog 26 #[.pointer (some ⟨B, 0, none⟩), .string s] w fun e w' => e = .returned (.bool false) ∧ w = w' := by
  have hc := h.c0
  clear h
  go_enter Try.func26, Try.ntmps26
  go_wp2_with fail
  go_ret
  exact ⟨rfl, rfl⟩
/-- Next's answer -/
def NextR (B : Nat) (level : Int) (n : Nat) (s : ByteArray) (w : World) (e : Ending) (w' : World) : Prop := e = .returned (.bool (endB (hitOf level) n s)) ∧ CC w' B true level (nxt (hitOf level) n s) ∧ OnB B w w'
theorem nextR_yes {B : Nat} {level : Int} {n : Nat} {s : ByteArray} {w w' : World} (he : endB (hitOf level) n s = true) (hc : CC w' B true level 0) (ho : OnB B w w') : NextR B level n s w (.returned (.bool true)) w' :=
  ⟨by rw [he], by unfold nxt; rw [if_pos he]; exact hc, ho⟩
theorem nextR_no {B : Nat} {level : Int} {n : Nat} {s : ByteArray} {w w' : World} (he : endB (hitOf level) n s = false) (hc : CC w' B true level (n + 1)) (ho : OnB B w w') : NextR B level n s w (.returned (.bool false)) w' :=
  ⟨by rw [he], by unfold nxt; rw [if_neg (by rw [he]; simp)]; exact hc, ho⟩
set_option maxRecDepth 100000 in
set_option maxHeartbeats 1000000 in
theorem cnext_any (B : Nat) (level : Int) (n : Nat) (s : ByteArray) (w : World) (h : CC w B true level n) (hn : n ≤ 7) (hs : s.size ≤ maxLen) :
    Calls Try.prog 26 #[.pointer (some ⟨B, 0, none⟩), .string s] w (NextR B level n s w) := by
  have c0 := h.c0
  have c1 := h.c1
  have c2 := h.c2
  have f2 := h.free 2
  have HC := Lib.hid (h.set (n + 1) ((n : Int) + 1) (by omega))
  have HO := Lib.hid ((OnB.refl B w).set 2 (.int .i64 ((n : Int) + 1)))
  have HS := Lib.hid hs
  clear h hs
  by_cases h7 : n = 7
  · have hE := Lib.hid (show endB (hitOf level) n s = true by rw [h7]; rfl)
    have e1 : (((n : Int) + 1) == 8) = true := by rw [beq_iff_eq]; omega
    clear h7
    go_enter Try.func26, Try.ntmps26
    go_wp2_with fail
    go_ret
    exact nextR_yes hE.out (HC.out.set 0 0 rfl) (HO.out.set 2 _)
  · have e1 : (((n : Int) + 1) == 8) = false := by rw [beq_eq_false_iff_ne]; omega
    by_cases h1 : 1 ≤ n
    · have e2 : decide ((2 : Int) ≤ (n : Int) + 1) = true := decide_eq_true (by omega)
      have HH := Lib.hid (fun W : World => hits_any level s W HS.out)
      cases hh : hitOf level s with
      | true =>
        have hE := Lib.hid (show endB (hitOf level) n s = true by unfold endB; rw [hh]; simp [h1])
        rw [hh] at HH
        clear hh h7 h1
        go_enter Try.func26, Try.ntmps26
        go_wp2_with fail
        refine (HH.out _).mono ?_
        rintro e w1 ⟨rfl, hb⟩
        have hC1 := HC.out.later hb
        have hf := hC1.free 2
        have hcc := hC1.c2
        have HC1 := Lib.hid hC1
        have HO1 := Lib.hid (HO.out.trans (OnB.of_below hb))
        clear hb hC1
        go_wp2_with fail
        go_ret
        exact nextR_yes hE.out (HC1.out.set 0 0 rfl) (HO1.out.set 2 _)
      | false =>
        have hE := Lib.hid (show endB (hitOf level) n s = false by unfold endB; rw [hh]; simp [h7])
        rw [hh] at HH
        clear hh h7 h1
        go_enter Try.func26, Try.ntmps26
        go_wp2_with fail
        refine (HH.out _).mono ?_
        rintro e w1 ⟨rfl, hb⟩
        have HC1 := Lib.hid (HC.out.later hb)
        have HO1 := Lib.hid (HO.out.trans (OnB.of_below hb))
        clear hb
        go_wp2_with fail
        go_ret
        exact nextR_no hE.out HC1.out HO1.out
    · have e2 : decide ((2 : Int) ≤ (n : Int) + 1) = false := decide_eq_false (by omega)
      have hE := Lib.hid (show endB (hitOf level) n s = false by unfold endB; simp [h1, h7])
      clear h7 h1
      go_enter Try.func26, Try.ntmps26
      go_wp2_with fail
      go_ret
      exact nextR_no hE.out HC.out HO.out
end Go.Proofs.Ytnogddjhkdmahaa
