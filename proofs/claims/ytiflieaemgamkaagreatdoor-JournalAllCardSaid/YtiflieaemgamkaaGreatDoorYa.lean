/- The contracts of seat's within, Check, Full and Put over this translation. Conditions: the table of crc. -/
import Derived.Test.YtiflieaemgamkaaGreatDoorSput
import Derived.Test.YtiflieaemgamkaaGreatDoorCo
import Derived.Test.YtiflieaemgamkaaGreatDoorCr
import Derived.Test.YtiflieaemgamkaaGreatDoorSr
import Derived.Handy
import Derived.LoopTactic
namespace Go.Proofs.YtiflieaemgamkaaGreatDoor
open Go.RowKit Vi Cm

def wthB (x lo hi : Int) : Bool := decide (lo ≤ x) && decide (x ≤ hi)
theorem retBY {a b : Bool} (h : a = b) : Ending.returned (.bool a) = .returned (.bool b) := by rw [h]
/-- may a head be? -/
def hok (a b c d : Int) : Bool := wthB a 1 4294967295 && wthB b 0 1 && wthB c 0 524288 && wthB d 1 4294967296
def errH (a b c d : Int) : Int := if hok a b c d = true then 0 else 2
theorem retZY {a b : Int} (h : a = b) : Ending.returned (.int .i64 a) = .returned (.int .i64 b) := by rw [h]
theorem errH_is {a b c d z : Int} {x y u v : Bool} (h1 : wthB a 1 4294967295 = x) (h2 : wthB b 0 1 = y) (h3 : wthB c 0 524288 = u) (h4 : wthB d 1 4294967296 = v) (hz : z = if (x && y && u && v) = true then 0 else 2) : z = errH a b c d := by
  unfold errH hok
  rw [h1, h2, h3, h4, hz]
theorem rep0_len : ∀ k, (Lib.repeatL [0] k).length = k
  | 0 => rfl
  | k + 1 => by rw [Lib.repeatL, List.length_append, rep0_len k]; simp; omega
/-- a text, and noughts behind it -/
def noughts (k : Nat) : ByteArray := ⟨(Lib.repeatL [0] k).toArray⟩
def fullS (s : ByteArray) : ByteArray := s ++ noughts (128 - s.size)
theorem full_yes (s : ByteArray) (w : World) (hs : s.size ≤ 128) :
    Calls Tryz.prog 102 #[.string s] w fun e w' => e = .returned (.tuple #[.string (fullS s), .int .i64 0]) ∧ Below w.heap.size w w' := by
  obtain ⟨k, hk⟩ : ∃ k, k = 128 - s.size := ⟨_, rfl⟩
  have hki : (128 : Int) - (s.size : Int) = (k : Int) := by omega
  have HF := Lib.hid (show s ++ noughts k = fullS s by rw [hk]; rfl)
  have HR := Lib.hid (fun W : World => Tryz.strings_Repeat ⟨#[0]⟩ k W (by omega) (by show 1 * k ≤ _; omega))
  have hz : (noughts k).size = k := by
    show (Lib.repeatL [0] k).toArray.size = k
    rw [List.size_toArray]
    exact rep0_len k
  have hR : (⟨(Lib.repeatL (ByteArray.mk #[0]).data.toList k).toArray⟩ : ByteArray) = noughts k := rfl
  rw [hR] at HR
  generalize noughts k = R at HF HR hz
  have hzi : (R.size : Int) ≤ 128 := by omega
  have hsi : (s.size : Int) ≤ 128 := by omega
  have hd : decide ((128 : Int) < (s.size : Int)) = false := decide_eq_false (by omega)
  clear hk hR hz hs
  go_enter Tryz.func102, Tryz.ntmps102
  go_wp2_with fail
  refine (HR.out _).mono ?_
  rintro e w1 ⟨rfl, hb⟩
  have HB := Lib.hid hb
  clear hb
  go_wp2_with fail
  go_ret2
  exact ⟨by rw [← HF.out]; rfl, HB.out⟩
theorem full_no (s : ByteArray) (w : World) (hs : 128 < s.size) :
    Calls Tryz.prog 102 #[.string s] w fun e w' => e = .returned (.tuple #[.string ⟨#[]⟩, .int .i64 5]) ∧ Below w.heap.size w w' := by
  have hd : decide ((128 : Int) < (s.size : Int)) = true := decide_eq_true (by omega)
  clear hs
  go_enter Tryz.func102, Tryz.ntmps102
  go_wp2_with fail
  go_ret2
  exact ⟨rfl, Below.refl _ _⟩
theorem noughts_size (k : Nat) : (noughts k).size = k := by
  show (Lib.repeatL [0] k).toArray.size = k
  rw [List.size_toArray]
  exact rep0_len k
def pnb (n : Int) : ByteArray := ⟨(put n.toNat).toArray⟩
theorem pnb_size (n : Int) : (pnb n).size ≤ 10 := by
  have := put_len n.toNat
  show (put n.toNat).toArray.size ≤ 10
  rw [List.size_toArray]
  exact this
def signS : ByteArray := ⟨#[112, 108, 101, 97, 99, 104]⟩
/-- what stands ahead of the sum -/
def bodyH (a b c d : Int) : ByteArray := signS ++ pnb a ++ pnb b ++ pnb c ++ pnb d
/-- as far as the round has come -/
def bodyK (a b c d : Int) : Nat → ByteArray
  | 0 => signS
  | 1 => signS ++ pnb a
  | 2 => signS ++ pnb a ++ pnb b
  | 3 => signS ++ pnb a ++ pnb b ++ pnb c
  | _ => bodyH a b c d
theorem bodyH_size (a b c d : Int) : (bodyH a b c d).size ≤ 46 := by
  have h1 := pnb_size a
  have h2 := pnb_size b
  have h3 := pnb_size c
  have h4 := pnb_size d
  unfold bodyH
  simp only [ByteArray.size_append]
  have : signS.size = 6 := rfl
  omega
def sealH (s : ByteArray) : ByteArray := s ++ ⟨(tl (on 0 s.data.toList)).toArray⟩
theorem sealH_size (s : ByteArray) : (sealH s).size = s.size + 4 := by
  unfold sealH
  rw [ByteArray.size_append]
  rfl
def ptxH (s : ByteArray) : ByteArray := ⟨(put s.size).toArray⟩ ++ s
theorem ptxH_size (s : ByteArray) : (ptxH s).size ≤ s.size + 10 := by
  have := put_len s.size
  unfold ptxH
  rw [ByteArray.size_append]
  show (put s.size).toArray.size + s.size ≤ _
  rw [List.size_toArray]
  omega
/-- a head's sector -/
def headS (a b c d : Int) : ByteArray := fullS (ptxH (sealH (bodyH a b c d)))
/-- what the rounds of Put carry -/
def HPut (a b c d : Int) (w : World) (v i : Value) (wr : World) : Prop := ∃ (k : Nat) (S : ByteArray), v = .string S ∧ i = .int .i64 (k : Int) ∧ k ≤ 4 ∧ Hid (S = bodyK a b c d k) ∧ Below w.heap.size w wr
end Go.Proofs.YtiflieaemgamkaaGreatDoor
