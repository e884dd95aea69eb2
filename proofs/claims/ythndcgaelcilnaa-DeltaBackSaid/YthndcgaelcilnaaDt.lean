/- The contract of delta.Take over this translation. Condition: texts of fewer than a million bytes. -/
import Derived.Test.YthndcgaelcilnaaDr
import Derived.Test.YthndcgaelcilnaaDw
import Derived.Test.YthndcgaelcilnaaDc
namespace Go.Proofs.Ythndcgaelcilnaa
open Go.RowKit Vi

theorem OwX.but {α : Type} {f : α → List Value} {s : Nat} {T : TypeId} {w w' : World} {B : Nat} {v : Value} {l : List α} (h : OwX f s T w (B + 1) v l) (hb : But B w w') : OwX f s T w' (B + 1) v l := by
  rcases h with ⟨h1, h | ⟨g, cap, cur, h2, h3, h4, h5⟩⟩
  · exact ⟨h1, .inl h⟩
  · refine ⟨h1, .inr ⟨g, cap, cur, h2, h3, ?_, h5⟩⟩
    rw [hb.block g (by
      rcases Nat.lt_or_ge g w.heap.size with q | q
      · exact q
      · rw [Array.getElem?_eq_none q] at h4
        cases h4) (by simp; omega)]
    exact h4
def slL : Value → Nat
  | .slice _ n _ => n
  | _ => 0
theorem OwX.len {α : Type} {f : α → List Value} {s : Nat} {T : TypeId} {w : World} {B : Nat} {v : Value} {l : List α} (h : OwX f s T w B v l) : slL v = l.length := by
  rcases h.2 with ⟨e, h0⟩ | ⟨g, cap, cur, e, _⟩
  · rw [e, h0]; rfl
  · rw [e]; rfl
/-- what is told of bytes: their pieces, or that they are none's -/
def TakeP (ok bad : Value) (S : ByteArray) (B : Nat) (w : World) (e : Ending) (w' : World) : Prop :=
  (∃ l v', IsD S l ∧ e = .returned (.tuple #[v', ok]) ∧ OwX pcC 4 26 w' B v' l ∧ Below B w w' ∧ B ≤ w'.heap.size) ∨ ((∀ m, ¬ IsD S m) ∧ e = .returned (.tuple #[.slice none 0 0, bad]) ∧ Below B w w' ∧ B ≤ w'.heap.size)
set_option maxHeartbeats 4000000 in
set_option maxRecDepth 100000 in
theorem dtake_any (S : ByteArray) (w : World) (hS : S.size ≤ 999999) :
    Calls Try.prog 23 #[.string S] w (TakeP (.int .i64 0) (.int .i64 3) S w.heap.size w) := by
  go_enter Try.func23, Try.ntmps23
  go_wp2_with fail
  refine (new_any S w).mono ?_
  rintro e w1 ⟨rfl, hs, hb⟩
  obtain ⟨B, hBe⟩ : ∃ B, B = w.heap.size := ⟨_, rfl⟩
  have HBE := Lib.hid hBe
  rw [← hBe] at hs hb ⊢
  have HS1 := Lib.hid hs
  have HB1 := Lib.hid hb
  have hz1 := hs.lt
  clear hs hb hBe
  go_wp2_with fail
  go_loopw [4] (fun v wr => ∃ (l : List Pc) (q : Nat), Sc wr B true S q 0 ∧ Rds S q l ∧ OwX pcC 4 26 wr (B + 1) v l ∧ Below B w wr) (fun v _ => S.size + 1 - slL v)
  case atStart => exact ⟨[], 0, HS1.out, Rds.nil S, OwX.nil _, HB1.out⟩
  case round =>
    obtain ⟨l, q, hsc, hrd, hox, hbel⟩ := hrel
    have hq := hrd.1
    have hlq := hrd.2.2.2
    have HSC := Lib.hid hsc
    have HRD := Lib.hid hrd
    have HX := Lib.hid hox
    have HL := Lib.hid hbel
    have hzB := hsc.lt
    have HLN := Lib.hid hox.len
    clear hsc hrd hox hbel
    by_cases hlt : q < S.size
    · have hd1 : decide ((q : Int) < (S.size : Int)) = true := decide_eq_true (by omega)
      obtain ⟨p, q', e', hR⟩ : ∃ p q' e', rdp 131073 65536 S q = (p, q', e') := ⟨_, _, _, rfl⟩
      have HD := Lib.hid (fun (W : World) (g : Sc W B true S q 0) => dread_any W B S q p q' e' (by omega) hq g hR)
      have HE := Lib.hid (fun (W : World) (g : Sc W B true S q' e') => err_any W B true S q' e' g)
      rw [if_pos rfl] at HE
      have HR := Lib.hid hR
      clear hR
      obtain ⟨pc, pa, pn, po⟩ := p
      dsimp only at HD
      go_wp2_with fail
      refine (at_any wr B true S q 0 HSC.out).mono ?_
      rintro e w' ⟨rfl, rfl⟩
      go_wp2_with fail
      refine (HD.out _ HSC.out).mono ?_
      rintro e w2 ⟨rfl, hs, hk⟩
      have HL2 := Lib.hid (But.below HL.out hk (Nat.le_refl _) (by omega))
      have HX2 := Lib.hid ((HX.out.but hk).alloc (.cells #[.bool pc, .int .i64 pa, .int .i64 pn, .string po] 26 (0, 0)))
      have hz2 := hk.size
      have HS2 := Lib.hid (hs.alloc (.cells #[.bool pc, .int .i64 pa, .int .i64 pn, .string po] 26 (0, 0)))
      have HL2' := Lib.hid (HL2.out.alloc (by omega) (.cells #[.bool pc, .int .i64 pa, .int .i64 pn, .string po] 26 (0, 0)))
      have HF2 := Lib.hid (blk_new w2 (.cells #[.bool pc, .int .i64 pa, .int .i64 pn, .string po] 26 (0, 0)))
      clear hs hk HL2 HSC HX HL
      by_cases he : e' = 0
      · subst he
        cases hok : okP (pc, pa, pn, po) with
        | false =>
          have HN := Lib.hid (HRD.out.stuck (a := 131073) (b := 65536) (by omega) (by omega) hlt HR.out (Or.inr hok))
          have HI := Lib.hid (fun W : World => dcheck_any pc pa pn po false W hok)
          rw [if_neg (by simp)] at HI
          clear hok
          have c0 : (w2.alloc (.cells #[.bool pc, .int .i64 pa, .int .i64 pn, .string po] 26 (0, 0))).cell? ⟨w2.heap.size, 0, none⟩ = some (.bool pc) := by rw [cell_of_row _ _ _ _ _ _ HF2.out]; rfl
          have c1 : (w2.alloc (.cells #[.bool pc, .int .i64 pa, .int .i64 pn, .string po] 26 (0, 0))).cell? ⟨w2.heap.size, 1, none⟩ = some (.int .i64 pa) := by rw [cell_of_row _ _ _ _ _ _ HF2.out]; rfl
          have c2 : (w2.alloc (.cells #[.bool pc, .int .i64 pa, .int .i64 pn, .string po] 26 (0, 0))).cell? ⟨w2.heap.size, 2, none⟩ = some (.int .i64 pn) := by rw [cell_of_row _ _ _ _ _ _ HF2.out]; rfl
          have c3 : (w2.alloc (.cells #[.bool pc, .int .i64 pa, .int .i64 pn, .string po] 26 (0, 0))).cell? ⟨w2.heap.size, 3, none⟩ = some (.string po) := by rw [cell_of_row _ _ _ _ _ _ HF2.out]; rfl
          go_wp2_with fail
          refine (HE.out _ HS2.out).mono ?_
          rintro e w' ⟨rfl, rfl⟩
          go_wp2_with fail
          refine (HI.out _).mono ?_
          rintro e w3 ⟨rfl, hb3⟩
          have HL3 := Lib.hid (HL2'.out.trans (hb3.mono (by simp; omega)))
          clear hb3 c0 c1 c2 c3
          go_wp2_with fail
          go_ret2
          rw [← HBE.out]
          exact Or.inr ⟨HN.out, rfl, HL3.out, by have := HL3.out.size; have := HBE.out; omega⟩
        | true =>
          obtain ⟨hst, hqq⟩ := HRD.out.step HR.out hok
          have HST := Lib.hid hst
          have hq' := hst.1
          have HI := Lib.hid (fun W : World => dcheck_any pc pa pn po true W hok)
          rw [if_pos rfl] at HI
          clear hok hst
          have c0 : (w2.alloc (.cells #[.bool pc, .int .i64 pa, .int .i64 pn, .string po] 26 (0, 0))).cell? ⟨w2.heap.size, 0, none⟩ = some (.bool pc) := by rw [cell_of_row _ _ _ _ _ _ HF2.out]; rfl
          have c1 : (w2.alloc (.cells #[.bool pc, .int .i64 pa, .int .i64 pn, .string po] 26 (0, 0))).cell? ⟨w2.heap.size, 1, none⟩ = some (.int .i64 pa) := by rw [cell_of_row _ _ _ _ _ _ HF2.out]; rfl
          have c2 : (w2.alloc (.cells #[.bool pc, .int .i64 pa, .int .i64 pn, .string po] 26 (0, 0))).cell? ⟨w2.heap.size, 2, none⟩ = some (.int .i64 pn) := by rw [cell_of_row _ _ _ _ _ _ HF2.out]; rfl
          have c3 : (w2.alloc (.cells #[.bool pc, .int .i64 pa, .int .i64 pn, .string po] 26 (0, 0))).cell? ⟨w2.heap.size, 3, none⟩ = some (.string po) := by rw [cell_of_row _ _ _ _ _ _ HF2.out]; rfl
          go_wp2_with fail
          refine (HE.out _ HS2.out).mono ?_
          rintro e w' ⟨rfl, rfl⟩
          go_wp2_with fail
          refine (HI.out _).mono ?_
          rintro e w3 ⟨rfl, hb3⟩
          have hz3 : w2.heap.size + 1 ≤ w3.heap.size := by have := hb3.size; simp at this; omega
          have HL3 := Lib.hid (HL2'.out.trans (hb3.mono (by simp; omega)))
          have HX3 := Lib.hid (HX2.out.kept hb3)
          have HS3 := Lib.hid (HS2.out.kept (hb3.block B HS2.out.lt))
          have HF3 := Lib.hid (blk_below HF2.out hb3)
          have HR3 := Lib.hid (Below.refl (B + 1) w3)
          clear hb3 HX2 HS2 HF2 HL2' c0 c1 c2 c3
          have d0 : w3.cell? ⟨w2.heap.size, 0, none⟩ = some (.bool pc) := by rw [cell_of_row _ _ _ _ _ _ HF3.out]; rfl
          have d1 : w3.cell? ⟨w2.heap.size, 1, none⟩ = some (.int .i64 pa) := by rw [cell_of_row _ _ _ _ _ _ HF3.out]; rfl
          have d2 : w3.cell? ⟨w2.heap.size, 2, none⟩ = some (.int .i64 pn) := by rw [cell_of_row _ _ _ _ _ _ HF3.out]; rfl
          have d3 : w3.cell? ⟨w2.heap.size, 3, none⟩ = some (.string po) := by rw [cell_of_row _ _ _ _ _ _ HF3.out]; rfl
          go_wp2_with (at_builtin; refine wpList_appX rfl (.tmp 24) (.tmp 26) 22 26 _ 40 rfl Try.underlying22 info_pc rfl (by omega) (by omega) pcC_len pcC_one (B + 1) w3 (HR3.out.alloc (by omega) _) (by simp; omega) _ l rfl (HX3.out.alloc _) w3.heap.size 1 (pc, pa, pn, po) #[.bool pc, .int .i64 pa, .int .i64 pn, .string po] 26 (0, 0) rfl (heap_alloc_new w3 _) rfl (by omega) ?_)
          intro v4 w4 HO4 HB4 HZ4 HG4
          have HS4 := Lib.hid (HS3.out.kept (HB4.out.block B (by omega)))
          have HL4 := Lib.hid (HL3.out.trans (HB4.out.mono (by omega)))
          have HN4 := Lib.hid HO4.out.len
          have hl4 : slL v4 = l.length + 1 := by rw [HN4.out]; simp
          have hl5 := HLN.out
          clear d0 d1 d2 d3
          go_wp2_with fail
          go_roundw
          case rel => exact ⟨_, q', HS4.out, HST.out, HO4.out, HL4.out⟩
          case measure => omega
      · have hne : (e' != 0) = true := by simpa using he
        have HN := Lib.hid (HRD.out.stuck (a := 131073) (b := 65536) (by omega) (by omega) hlt HR.out (Or.inl he))
        go_wp2_with fail
        refine (HE.out _ HS2.out).mono ?_
        rintro e w' ⟨rfl, rfl⟩
        go_wp2_with fail
        go_ret2
        rw [← HBE.out]
        exact Or.inr ⟨HN.out, rfl, HL2'.out, by have := HL2'.out.size; have := HBE.out; omega⟩
    · have hd1 : decide ((q : Int) < (S.size : Int)) = false := decide_eq_false (by omega)
      have HI := Lib.hid (HRD.out.done hlt)
      go_wp2_with fail
      refine (at_any wr B true S q 0 HSC.out).mono ?_
      rintro e w' ⟨rfl, rfl⟩
      go_wp2_with fail
      go_ret2
      rw [← HBE.out]
      exact Or.inl ⟨l, _, HI.out, rfl, HX.out.mono (by have := HBE.out; omega), HL.out, by have := HBE.out; omega⟩
end Go.Proofs.Ythndcgaelcilnaa
