/- few of layer 11 over this translation. -/
import Derived.Test.YthndcgaelcilnaaDu
namespace Go.Proofs.Ythndcgaelcilnaa
open Go.RowKit Vi

def fewS : List Pc → Nat
  | [] => 0
  | p :: r => min p.2.2.2.size 10000 + fewS r
theorem fewS_app : ∀ l m : List Pc, fewS (l ++ m) = fewS l + fewS m
  | [], m => by simp [fewS]
  | p :: r, m => by rw [List.cons_append, fewS, fewS, fewS_app r m]; omega
theorem fewS_le : ∀ l : List Pc, fewS l ≤ 10000 * l.length
  | [] => Nat.zero_le _
  | p :: r => by have := fewS_le r; rw [fewS, List.length_cons]; omega
def fewB (l : List Pc) : Bool := decide (l.length ≤ 60) && decide (fewS l ≤ 10000)
set_option maxRecDepth 100000 in
set_option maxHeartbeats 1600000 in
theorem few11_any (A : Option Addr) (n c : Nat) (l : List Pc) (w : World) (h : RdX pcC 4 w A n l) (hn : (n : Int) ≤ 9223372036854775807) :
    Calls Try.prog 15 #[.slice A n c] w fun e w' => e = .returned (.bool (fewB l)) ∧ Below w.heap.size w w' := by
  have H := Lib.hid h
  have LL := Lib.hid h.1
  clear h
  go_enter Try.func15, Try.ntmps15
  go_wp2_with fail
  go_loopw [3, 4] (fun s i wr => ∃ k m : Nat, s = .int .i64 (m : Int) ∧ i = .int .i64 (k : Int) ∧ k ≤ n ∧ k ≤ 61 ∧ m ≤ 10000 * k ∧ m = fewS (l.take k) ∧ Below w.heap.size w wr) (fun _ i _ => n - (intOf i).toNat)
  case atStart => exact ⟨0, 0, rfl, rfl, Nat.zero_le _, by omega, by omega, rfl, Below.refl _ _⟩
  case round =>
    obtain ⟨k, m, rfl, rfl, hk, hk61, hm, hs, hb⟩ := hrel
    have HS := Lib.hid hs
    have HB := Lib.hid hb
    clear hs hb
    by_cases hlt : k < n
    · have hd1 : decide ((k : Int) < (n : Int)) = true := decide_eq_true (by omega)
      by_cases h60 : k ≤ 60
      · have hd2 : decide ((k : Int) ≤ 60) = true := decide_eq_true (by omega)
        obtain ⟨b, off, hl, rfl, hbb, hc⟩ := H.out.at hlt
        have G := Lib.hid (show l.take (k + 1) = l.take k ++ [l[k]] from List.take_succ_eq_append_getElem hl)
        obtain ⟨p, hp⟩ : ∃ p, l[k] = p := ⟨_, rfl⟩
        rw [hp] at hc G
        clear hp
        obtain ⟨pc, pa, pn, po⟩ := p
        have a3 : wr.cell? ⟨b, off + k * 4 + 3, none⟩ = some (.string po) := (HB.out.cell (p := ⟨b, _, none⟩) hbb).trans (hc 3 _ rfl)
        clear hc
        have HN := Lib.hid (show m + min po.size 10000 = fewS (l.take (k + 1)) by
          rw [G.out, fewS_app, HS.out]; rfl)
        by_cases hz : (10000 : Int) < (po.size : Int)
        · have HN2 := Lib.hid (show m + 10000 = fewS (l.take (k + 1)) by have := HN.out; omega)
          go_wp2_with fail
          go_roundw
          case rel => exact ⟨k + 1, m + 10000, by go_num, by go_num, by omega, by omega, by omega, HN2.out, HB.out⟩
          case measure => simp [intOf] <;> omega
        · have HN2 := Lib.hid (show m + po.size = fewS (l.take (k + 1)) by have := HN.out; omega)
          go_wp2_with fail
          go_roundw
          case rel => exact ⟨k + 1, m + po.size, by go_num, by go_num, by omega, by omega, by omega, HN2.out, HB.out⟩
          case measure => simp [intOf] <;> omega
      · have hd2 : decide ((k : Int) ≤ 60) = false := decide_eq_false (by omega)
        have hd3 : decide ((n : Int) ≤ 60) = false := decide_eq_false (by omega)
        have HF := Lib.hid (show false = fewB l by unfold fewB; rw [LL.out, decide_eq_false (by omega)]; rfl)
        go_wp2_with fail
        go_ret
        exact ⟨by rw [← HF.out]; rfl, HB.out⟩
    · obtain rfl : k = n := by omega
      have hd1 : decide ((k : Int) < (k : Int)) = false := decide_eq_false (by omega)
      by_cases h60 : k ≤ 60
      · have hd3 : decide ((k : Int) ≤ 60) = true := decide_eq_true (by omega)
        have HF := Lib.hid (show decide ((m : Int) ≤ 10000) = fewB l by
          have e := HS.out
          rw [List.take_of_length_le (by rw [LL.out]; exact Nat.le_refl _)] at e
          unfold fewB
          rw [LL.out, decide_eq_true h60, Bool.true_and, ← e, decide_eq_decide]
          omega)
        go_wp2_with fail
        go_ret
        exact ⟨by rw [← HF.out]; rfl, HB.out⟩
      · have hd3 : decide ((k : Int) ≤ 60) = false := decide_eq_false (by omega)
        have HF := Lib.hid (show false = fewB l by unfold fewB; rw [LL.out, decide_eq_false (by omega)]; rfl)
        go_wp2_with fail
        go_ret
        exact ⟨by rw [← HF.out]; rfl, HB.out⟩
end Go.Proofs.Ythndcgaelcilnaa
