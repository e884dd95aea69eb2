/- The contracts of the document's Is, Full, Sealed and Put of layer 8 over this translation. No condition. -/
import Derived.Test.YtiflieaemgamkaaGreatDoorYa
import Derived.Lib.QuietBelow
import Derived.BigQuiet
namespace Go.Proofs.YtiflieaemgamkaaGreatDoor
open Go.RowKit Vi Cm

theorem noughts_snoc (S : ByteArray) (k : Nat) : (S ++ ⟨#[0]⟩ : ByteArray) ++ noughts k = S ++ noughts (k + 1) := by
  have e : noughts (k + 1) = ⟨#[0]⟩ ++ noughts k := by
    apply ByteArray.ext
    simp [noughts, Lib.repeatL]
  rw [e, ByteArray.append_assoc]
theorem full_zero (S : ByteArray) : S ++ noughts 0 = S := by
  apply ByteArray.ext
  simp [noughts, Lib.repeatL]
set_option maxRecDepth 100000 in
set_option maxHeartbeats 800000 in
theorem rfull_any (s : ByteArray) (w : World) (hs : s.size ≤ 1000) :
    Calls Tryz.prog 91 #[.string s] w fun e w' => e = .returned (.string (fullS s)) ∧ w = w' := by
  go_enter Tryz.func91, Tryz.ntmps91
  go_wp2_with fail
  go_loop [0] (fun v => ∃ S : ByteArray, v = .string S ∧ S.size ≤ 1000 ∧ Hid (S ++ noughts (128 - S.size) = fullS s)) (fun v => match v with | .string S => 128 - S.size | _ => 0)
  case atStart => exact ⟨s, rfl, hs, rfl⟩
  case round =>
    obtain ⟨S, rfl, hz, HS⟩ := hrel
    by_cases hlt : S.size < 128
    · have hd1 : decide ((S.size : Int) < 128) = true := decide_eq_true (by omega)
      have hsi : (S.size : Int) < 128 := by omega
      have hn : (S ++ ⟨#[0]⟩ : ByteArray).size = S.size + 1 := by rw [ByteArray.size_append]; rfl
      have HN := Lib.hid hn
      have HS2 := Lib.hid (show (S ++ ⟨#[0]⟩ : ByteArray) ++ noughts (128 - (S ++ ⟨#[0]⟩ : ByteArray).size) = fullS s by
        rw [noughts_snoc, hn, ← HS.out]
        congr 2
        omega)
      clear hn HS
      go_wp2_with fail
      go_round
      case rel => exact ⟨_, rfl, by rw [HN.out]; omega, HS2.out⟩
      case measure => show 128 - (S ++ ⟨#[0]⟩ : ByteArray).size < 128 - S.size; rw [HN.out]; omega
    · have hd1 : decide ((S.size : Int) < 128) = false := decide_eq_false (by omega)
      have HF := Lib.hid (show S = fullS s by
        rw [← HS.out, show 128 - S.size = 0 by omega, full_zero])
      clear HS
      go_wp2_with fail
      go_ret
      exact ⟨by rw [← HF.out]; rfl, rfl⟩
theorem rsealed_any (s : ByteArray) (w : World) (hs : s.size ≤ 100) :
    Calls Tryz.prog 152 #[.string s] w fun e w' => e = .returned (.string (fullS (ptxH (sealH s)))) ∧ Below w.heap.size w w' := by
  have z1 := sealH_size s
  have z2 := ptxH_size (sealH s)
  have Q1 := Lib.hid (fun W : World => refOn_any 0 s W (by omega) (by omega))
  have Q2 := Lib.hid (fun W : World => refTail_any (on 0 s.data.toList) W (on_lt _ _))
  have Q3 : Hid (∀ W : World, Calls Tryz.prog 151 #[.string (sealH s)] W fun e w' => e = .returned (.string (ptxH (sealH s))) ∧ Below W.heap.size W w') := Lib.hid (fun W => refPutText_any (sealH s) W (by omega))
  have Q4 := Lib.hid (fun W : World => rfull_any (ptxH (sealH s)) W (by omega))
  have hsl : (s ++ ⟨(tl (on 0 s.data.toList)).toArray⟩ : ByteArray) = sealH s := rfl
  have ht : (⟨(tl (on 0 s.data.toList)).toArray⟩ : ByteArray).size = 4 := rfl
  have hsi : (s.size : Int) ≤ 100 := by omega
  generalize (⟨(tl (on 0 s.data.toList)).toArray⟩ : ByteArray) = T at Q2 hsl ht
  have hti : (T.size : Int) = 4 := by omega
  generalize on 0 s.data.toList = o at Q1 Q2
  generalize fullS (ptxH (sealH s)) = X3 at Q4 ⊢
  generalize ptxH (sealH s) = X2 at Q3 Q4
  generalize sealH s = X1 at Q3 hsl
  clear z1 z2 ht hs
  go_enter Tryz.func152, Tryz.ntmps152
  go_wp2_with fail
  refine (Q1.out _).mono ?_
  rintro e w1 ⟨rfl, hb⟩
  have B1 := Lib.hid hb
  clear hb
  go_wp2_with fail
  refine (Q2.out _).mono ?_
  rintro e w2 ⟨rfl, hb⟩
  have B2 := Lib.hid (B1.out.trans (hb.mono B1.out.size))
  clear hb
  go_wp2_with fail
  refine (Q3.out _).mono ?_
  rintro e w3 ⟨rfl, hb⟩
  have B3 := Lib.hid (B2.out.trans (hb.mono B2.out.size))
  clear hb
  go_wp2_with fail
  refine (Q4.out _).mono ?_
  rintro e w4 ⟨rfl, rfl⟩
  go_wp2_with fail
  go_ret
  exact ⟨rfl, B3.out⟩
end Go.Proofs.YtiflieaemgamkaaGreatDoor
