/- The contracts of seat's within, Check, Full and Put over this translation. Conditions: the table of crc. -/
import Derived.Test.YtcgoegehgcecpaaDoorSput
import Derived.Test.YtcgoegehgcecpaaDoorCo
import Derived.Test.YtcgoegehgcecpaaDoorCr
import Derived.Test.YtcgoegehgcecpaaDoorSh
import Derived.Handy
import Derived.LoopTactic
namespace Go.Proofs.YtcgoegehgcecpaaDoor
open Go.RowKit Vi Cm

def wthB (x lo hi : Int) : Bool := decide (lo ≤ x) && decide (x ≤ hi)
theorem retBY {a b : Bool} (h : a = b) : Ending.returned (.bool a) = .returned (.bool b) := by rw [h]
theorem within_any (x lo hi : Int) (w : World) : Calls Tryd.prog 77 #[.int .i64 x, .int .i64 lo, .int .i64 hi] w fun e w' => e = .returned (.bool (wthB x lo hi)) ∧ w = w' := by
  have HV := Lib.hid (show wthB x lo hi = (decide (lo ≤ x) && decide (x ≤ hi)) from rfl)
  cases h1 : decide (lo ≤ x) <;> cases h2 : decide (x ≤ hi)
  all_goals
    rw [h1, h2] at HV
    go_enter Tryd.func77, Tryd.ntmps77
    go_wp2_with fail
    go_ret
    exact ⟨retBY HV.out.symm, rfl⟩
/-- may a head be? -/
def hok (a b c d : Int) : Bool := wthB a 1 4294967295 && wthB b 0 1 && wthB c 0 524288 && wthB d 1 4294967296
def errH (a b c d : Int) : Int := if hok a b c d = true then 0 else 2
theorem retZY {a b : Int} (h : a = b) : Ending.returned (.int .i64 a) = .returned (.int .i64 b) := by rw [h]
theorem errH_is {a b c d z : Int} {x y u v : Bool} (h1 : wthB a 1 4294967295 = x) (h2 : wthB b 0 1 = y) (h3 : wthB c 0 524288 = u) (h4 : wthB d 1 4294967296 = v) (hz : z = if (x && y && u && v) = true then 0 else 2) : z = errH a b c d := by
  unfold errH hok
  rw [h1, h2, h3, h4, hz]
set_option maxRecDepth 100000 in
set_option maxHeartbeats 2000000 in
theorem hcheck_any (a b c d : Int) (w : World) :
    Calls Tryd.prog 32 #[.agg #[.int .i64 a, .int .i64 b, .int .i64 c, .int .i64 d]] w fun e w' => e = .returned (.int .i64 (errH a b c d)) ∧ Below w.heap.size w w' := by
  have H1 := Lib.hid (fun W : World => within_any a 1 4294967295 W)
  have H2 := Lib.hid (fun W : World => within_any b 0 1 W)
  have H3 := Lib.hid (fun W : World => within_any c 0 524288 W)
  have H4 := Lib.hid (fun W : World => within_any d 1 4294967296 W)
  have HB := Lib.hid ((Below.refl w.heap.size w).alloc (Nat.le_refl _) (.cells #[.int .i64 a, .int .i64 b, .int .i64 c, .int .i64 d] 48))
  cases h1 : wthB a 1 4294967295 with
  | false =>
    have HE := Lib.hid (errH_is (a := a) (b := b) (c := c) (d := d) (z := 2) h1 rfl rfl rfl (by simp))
    rw [h1] at H1
    clear h1
    go_enter Tryd.func32, Tryd.ntmps32
    go_wp2_with fail
    refine (H1.out _).mono ?_
    rintro e w1 ⟨rfl, rfl⟩
    go_wp2_with fail
    go_ret
    exact ⟨retZY HE.out, HB.out⟩
  | true =>
    cases h2 : wthB b 0 1 with
    | false =>
      have HE := Lib.hid (errH_is (a := a) (b := b) (c := c) (d := d) (z := 2) h1 h2 rfl rfl (by simp))
      rw [h1] at H1
      rw [h2] at H2
      clear h1 h2
      go_enter Tryd.func32, Tryd.ntmps32
      go_wp2_with fail
      refine (H1.out _).mono ?_
      rintro e w1 ⟨rfl, rfl⟩
      go_wp2_with fail
      refine (H2.out _).mono ?_
      rintro e w1 ⟨rfl, rfl⟩
      go_wp2_with fail
      go_ret
      exact ⟨retZY HE.out, HB.out⟩
    | true =>
      cases h3 : wthB c 0 524288 with
      | false =>
        have HE := Lib.hid (errH_is (a := a) (b := b) (c := c) (d := d) (z := 2) h1 h2 h3 rfl (by simp))
        rw [h1] at H1
        rw [h2] at H2
        rw [h3] at H3
        clear h1 h2 h3
        go_enter Tryd.func32, Tryd.ntmps32
        go_wp2_with fail
        refine (H1.out _).mono ?_
        rintro e w1 ⟨rfl, rfl⟩
        go_wp2_with fail
        refine (H2.out _).mono ?_
        rintro e w1 ⟨rfl, rfl⟩
        go_wp2_with fail
        refine (H3.out _).mono ?_
        rintro e w1 ⟨rfl, rfl⟩
        go_wp2_with fail
        go_ret
        exact ⟨retZY HE.out, HB.out⟩
      | true =>
        cases h4 : wthB d 1 4294967296
        all_goals
          have HE := Lib.hid (errH_is (a := a) (b := b) (c := c) (d := d) h1 h2 h3 h4 rfl)
          rw [h1] at H1
          rw [h2] at H2
          rw [h3] at H3
          rw [h4] at H4
          clear h1 h2 h3 h4
          go_enter Tryd.func32, Tryd.ntmps32
          go_wp2_with fail
          refine (H1.out _).mono ?_
          rintro e w1 ⟨rfl, rfl⟩
          go_wp2_with fail
          refine (H2.out _).mono ?_
          rintro e w1 ⟨rfl, rfl⟩
          go_wp2_with fail
          refine (H3.out _).mono ?_
          rintro e w1 ⟨rfl, rfl⟩
          go_wp2_with fail
          refine (H4.out _).mono ?_
          rintro e w1 ⟨rfl, rfl⟩
          go_wp2_with fail
          go_ret
          exact ⟨retZY HE.out, HB.out⟩
theorem rep0_len : ∀ k, (Lib.repeatL [0] k).length = k
  | 0 => rfl
  | k + 1 => by rw [Lib.repeatL, List.length_append, rep0_len k]; simp; omega
/-- a text, and noughts behind it -/
def noughts (k : Nat) : ByteArray := ⟨(Lib.repeatL [0] k).toArray⟩
def fullS (s : ByteArray) : ByteArray := s ++ noughts (128 - s.size)
theorem full_yes (s : ByteArray) (w : World) (hs : s.size ≤ 128) :
    Calls Tryd.prog 40 #[.string s] w fun e w' => e = .returned (.tuple #[.string (fullS s), .int .i64 0]) ∧ Below w.heap.size w w' := by
  obtain ⟨k, hk⟩ : ∃ k, k = 128 - s.size := ⟨_, rfl⟩
  have hki : (128 : Int) - (s.size : Int) = (k : Int) := by omega
  have HF := Lib.hid (show s ++ noughts k = fullS s by rw [hk]; rfl)
  have HR := Lib.hid (fun W : World => Tryd.strings_Repeat ⟨#[0]⟩ k W (by omega) (by show 1 * k ≤ _; omega))
  have hz : (noughts k).size = k := by
    show (Lib.repeatL [0] k).toArray.size = k
    rw [List.size_toArray]
    exact rep0_len k
  have hR : (⟨(Lib.repeatL (ByteArray.mk #[0]).data.toList k).toArray⟩ : ByteArray) = noughts k := rfl
  rw [hR] at HR
  generalize noughts k = R at HF HR hz
  have hzi : (R.size : Int) ≤ 128 := by omega
  have hsi : (s.size : Int) ≤ 128 := by omega
  have hd : decide ((128 : Int) < (s.size : Int)) = false := decide_eq_false (by omega)
  clear hk hR hz hs
  go_enter Tryd.func40, Tryd.ntmps40
  go_wp2_with fail
  refine (HR.out _).mono ?_
  rintro e w1 ⟨rfl, hb⟩
  have HB := Lib.hid hb
  clear hb
  go_wp2_with fail
  go_ret2
  exact ⟨by rw [← HF.out]; rfl, HB.out⟩
theorem full_no (s : ByteArray) (w : World) (hs : 128 < s.size) :
    Calls Tryd.prog 40 #[.string s] w fun e w' => e = .returned (.tuple #[.string ⟨#[]⟩, .int .i64 5]) ∧ Below w.heap.size w w' := by
  have hd : decide ((128 : Int) < (s.size : Int)) = true := decide_eq_true (by omega)
  clear hs
  go_enter Tryd.func40, Tryd.ntmps40
  go_wp2_with fail
  go_ret2
  exact ⟨rfl, Below.refl _ _⟩
theorem noughts_size (k : Nat) : (noughts k).size = k := by
  show (Lib.repeatL [0] k).toArray.size = k
  rw [List.size_toArray]
  exact rep0_len k
def pnb (n : Int) : ByteArray := ⟨(put n.toNat).toArray⟩
theorem pnb_size (n : Int) : (pnb n).size ≤ 10 := by
  have := put_len n.toNat
  show (put n.toNat).toArray.size ≤ 10
  rw [List.size_toArray]
  exact this
def signS : ByteArray := ⟨#[112, 108, 101, 97, 99, 104]⟩
/-- what stands ahead of the sum -/
def bodyH (a b c d : Int) : ByteArray := signS ++ pnb a ++ pnb b ++ pnb c ++ pnb d
/-- as far as the round has come -/
def bodyK (a b c d : Int) : Nat → ByteArray
  | 0 => signS
  | 1 => signS ++ pnb a
  | 2 => signS ++ pnb a ++ pnb b
  | 3 => signS ++ pnb a ++ pnb b ++ pnb c
  | _ => bodyH a b c d
theorem bodyH_size (a b c d : Int) : (bodyH a b c d).size ≤ 46 := by
  have h1 := pnb_size a
  have h2 := pnb_size b
  have h3 := pnb_size c
  have h4 := pnb_size d
  unfold bodyH
  simp only [ByteArray.size_append]
  have : signS.size = 6 := rfl
  omega
def sealH (s : ByteArray) : ByteArray := s ++ ⟨(tl (on 0 s.data.toList)).toArray⟩
theorem sealH_size (s : ByteArray) : (sealH s).size = s.size + 4 := by
  unfold sealH
  rw [ByteArray.size_append]
  rfl
def ptxH (s : ByteArray) : ByteArray := ⟨(put s.size).toArray⟩ ++ s
theorem ptxH_size (s : ByteArray) : (ptxH s).size ≤ s.size + 10 := by
  have := put_len s.size
  unfold ptxH
  rw [ByteArray.size_append]
  show (put s.size).toArray.size + s.size ≤ _
  rw [List.size_toArray]
  omega
/-- a head's sector -/
def headS (a b c d : Int) : ByteArray := fullS (ptxH (sealH (bodyH a b c d)))
theorem index4 (a b c d : Int) (k : Nat) (v : Int) (hk : k < 4) (hv : ([a, b, c, d] : List Int).getD k 0 = v) (z : Int) (hz : z = (k : Int)) (W : World) : (Instr.index 99 (.agg #[.int .i64 a, .int .i64 b, .int .i64 c, .int .i64 d]) (.int .i64 z)).run Tryd.prog W = .ok (.int .i64 v) W := by
  subst hz
  have hs : ∀ W, (sizeOf 3).run Tryd.prog W = .ok 1 W := fun W => by
    obtain ⟨i0, hi, _, hz1, _⟩ := info_parts (show (Tryd.prog.info? 3).map (fun i => (i.zero, i.size, i.bytes)) = some (some (.int .i64 0), 1, 8) by kernel_rfl)
    simp [sizeOf, typeInfo, hi, hz1]
  subst hv
  rcases (show k = 0 ∨ k = 1 ∨ k = 2 ∨ k = 3 by omega) with rfl | rfl | rfl | rfl <;> simp [Instr.index, run_underlying Tryd.underlying99, asIntOf, hs, go_sem]
/-- what the rounds of Put carry -/
def HPut (a b c d : Int) (w : World) (v i : Value) (wr : World) : Prop := ∃ (k : Nat) (S : ByteArray), v = .string S ∧ i = .int .i64 (k : Int) ∧ k ≤ 4 ∧ Hid (S = bodyK a b c d k) ∧ Below w.heap.size w wr
set_option maxRecDepth 100000 in
set_option maxHeartbeats 2000000 in
theorem hput_yes (a b c d : Int) (w : World) (hT : Tab w) (h : hok a b c d = true) (ha : a ≤ 9223372036854775807) (hb : b ≤ 9223372036854775807) (hc : c ≤ 9223372036854775807) (hd : d ≤ 9223372036854775807) :
    Calls Tryd.prog 27 #[.agg #[.int .i64 a, .int .i64 b, .int .i64 c, .int .i64 d]] w fun e w' => e = .returned (.tuple #[.string (headS a b c d), .int .i64 0]) ∧ Below w.heap.size w w' := by
  have HT := Lib.hid hT
  have he : errH a b c d = 0 := by unfold errH; rw [h]; rfl
  have HCK := Lib.hid (fun W : World => hcheck_any a b c d W)
  rw [he] at HCK
  have P1 : Hid (∀ W : World, Calls Tryd.prog 72 #[.int .i64 a] W fun e w' => e = .returned (.string (pnb a)) ∧ Below W.heap.size W w') := Lib.hid (fun W => putNum_any a W ha)
  have P2 : Hid (∀ W : World, Calls Tryd.prog 72 #[.int .i64 b] W fun e w' => e = .returned (.string (pnb b)) ∧ Below W.heap.size W w') := Lib.hid (fun W => putNum_any b W hb)
  have P3 : Hid (∀ W : World, Calls Tryd.prog 72 #[.int .i64 c] W fun e w' => e = .returned (.string (pnb c)) ∧ Below W.heap.size W w') := Lib.hid (fun W => putNum_any c W hc)
  have P4 : Hid (∀ W : World, Calls Tryd.prog 72 #[.int .i64 d] W fun e w' => e = .returned (.string (pnb d)) ∧ Below W.heap.size W w') := Lib.hid (fun W => putNum_any d W hd)
  have s1 := pnb_size a
  have s2 := pnb_size b
  have s3 := pnb_size c
  have s4 := pnb_size d
  clear he h ha hb hc hd hT
  go_enter Tryd.func27, Tryd.ntmps27
  go_wp2_with fail
  refine (HCK.out _).mono ?_
  rintro e w1 ⟨rfl, hb⟩
  have c0 := hb.cell (p := ⟨w.heap.size, 0, none⟩) (by simp)
  have c1 := hb.cell (p := ⟨w.heap.size, 1, none⟩) (by simp)
  have c2 := hb.cell (p := ⟨w.heap.size, 2, none⟩) (by simp)
  have c3 := hb.cell (p := ⟨w.heap.size, 3, none⟩) (by simp)
  simp at c0 c1 c2 c3
  have HB := Lib.hid (((Below.refl _ w).alloc (Nat.le_refl _) _).trans (hb.mono (by simp)))
  clear hb HCK
  go_wp2_with fail
  go_loopw [5, 22] (fun v i wr => HPut a b c d w v i wr) (fun _ i _ => 4 - (intOf i).toNat)
  case atStart => exact ⟨0, signS, rfl, rfl, by omega, rfl, HB.out⟩
  case round =>
    obtain ⟨k, S, rfl, rfl, hk, HS, hb⟩ := hrel
    have HBW := Lib.hid hb
    clear hb c0 c1 c2 c3
    rcases (show k = 0 ∨ k = 1 ∨ k = 2 ∨ k = 3 ∨ k = 4 by omega) with rfl | rfl | rfl | rfl | rfl
    · have hsz : (S.size : Int) ≤ 46 := by
        have h := HS.out
        rw [h]
        simp only [bodyK]
        have : signS.size = 6 := rfl
        omega
      have HS2 := Lib.hid (show S ++ pnb a = bodyK a b c d 1 by rw [HS.out]; rfl)
      have hp : ((pnb a).size : Int) ≤ 10 := by omega
      clear HS s1 s2 s3 s4
      generalize pnb a = p at P1 HS2 hp
      have hi := fun W => index4 a b c d 0 a (by omega) rfl 0 rfl W
      go_wp2_with fail
      clear hi
      refine (P1.out _).mono ?_
      rintro e w2 ⟨rfl, hb⟩
      have HB2 := Lib.hid (HBW.out.trans (hb.mono HBW.out.size))
      clear hb
      go_wp2_with fail
      go_roundw
      case rel => exact ⟨1, _, rfl, rfl, by omega, HS2.out, HB2.out⟩
      case measure => simp [intOf]
    · have hsz : (S.size : Int) ≤ 46 := by
        have h := HS.out
        rw [h]
        simp only [bodyK, ByteArray.size_append]
        have : signS.size = 6 := rfl
        omega
      have HS2 := Lib.hid (show S ++ pnb b = bodyK a b c d 2 by rw [HS.out]; rfl)
      have hp : ((pnb b).size : Int) ≤ 10 := by omega
      clear HS s1 s2 s3 s4
      generalize pnb b = p at P2 HS2 hp
      have hi := fun W => index4 a b c d 1 b (by omega) rfl 1 rfl W
      go_wp2_with fail
      clear hi
      refine (P2.out _).mono ?_
      rintro e w2 ⟨rfl, hb⟩
      have HB2 := Lib.hid (HBW.out.trans (hb.mono HBW.out.size))
      clear hb
      go_wp2_with fail
      go_roundw
      case rel => exact ⟨2, _, rfl, rfl, by omega, HS2.out, HB2.out⟩
      case measure => simp [intOf]
    · have hsz : (S.size : Int) ≤ 46 := by
        have h := HS.out
        rw [h]
        simp only [bodyK, ByteArray.size_append]
        have : signS.size = 6 := rfl
        omega
      have HS2 := Lib.hid (show S ++ pnb c = bodyK a b c d 3 by rw [HS.out]; rfl)
      have hp : ((pnb c).size : Int) ≤ 10 := by omega
      clear HS s1 s2 s3 s4
      generalize pnb c = p at P3 HS2 hp
      have hi := fun W => index4 a b c d 2 c (by omega) rfl 2 rfl W
      go_wp2_with fail
      clear hi
      refine (P3.out _).mono ?_
      rintro e w2 ⟨rfl, hb⟩
      have HB2 := Lib.hid (HBW.out.trans (hb.mono HBW.out.size))
      clear hb
      go_wp2_with fail
      go_roundw
      case rel => exact ⟨3, _, rfl, rfl, by omega, HS2.out, HB2.out⟩
      case measure => simp [intOf]
    · have hsz : (S.size : Int) ≤ 46 := by
        have h := HS.out
        rw [h]
        simp only [bodyK, ByteArray.size_append]
        have : signS.size = 6 := rfl
        omega
      have HS2 := Lib.hid (show S ++ pnb d = bodyK a b c d 4 by rw [HS.out]; rfl)
      have hp : ((pnb d).size : Int) ≤ 10 := by omega
      clear HS s1 s2 s3 s4
      generalize pnb d = p at P4 HS2 hp
      have hi := fun W => index4 a b c d 3 d (by omega) rfl 3 rfl W
      go_wp2_with fail
      clear hi
      refine (P4.out _).mono ?_
      rintro e w2 ⟨rfl, hb⟩
      have HB2 := Lib.hid (HBW.out.trans (hb.mono HBW.out.size))
      clear hb
      go_wp2_with fail
      go_roundw
      case rel => exact ⟨4, _, rfl, rfl, by omega, HS2.out, HB2.out⟩
      case measure => simp [intOf]
    · have HF := Lib.hid (show Calls Tryd.prog 40 #[.string (ptxH (sealH (bodyH a b c d)))] = Calls Tryd.prog 40 #[.string (ptxH (sealH (bodyH a b c d)))] from rfl)
      have z0 := bodyH_size a b c d
      have hS : S = bodyH a b c d := HS.out
      have Q1 := Lib.hid (fun (W : World) (h : Tab W) => seal_any (bodyH a b c d) W h (by omega))
      have Q2 := Lib.hid (fun W : World => putText_any (sealH (bodyH a b c d)) W (by rw [sealH_size]; omega))
      have Q3 := Lib.hid (fun W : World => full_yes (ptxH (sealH (bodyH a b c d))) W (by have := ptxH_size (sealH (bodyH a b c d)); rw [sealH_size] at this; omega))
      have HH := Lib.hid (show fullS (ptxH (sealH (bodyH a b c d))) = headS a b c d from rfl)
      have Q1 : Hid (∀ W : World, Tab W → Calls Tryd.prog 74 #[.string (bodyH a b c d)] W fun e w' => e = .returned (.string (sealH (bodyH a b c d))) ∧ Below W.heap.size W w') := Q1
      have Q2 : Hid (∀ W : World, Calls Tryd.prog 73 #[.string (sealH (bodyH a b c d))] W fun e w' => e = .returned (.string (ptxH (sealH (bodyH a b c d)))) ∧ Below W.heap.size W w') := Q2
      subst hS
      clear HF z0 HS P1 P2 P3 P4 s1 s2 s3 s4
      generalize ptxH (sealH (bodyH a b c d)) = X2 at Q2 Q3 HH
      generalize sealH (bodyH a b c d) = X1 at Q1 Q2
      generalize bodyH a b c d = X0 at Q1 ⊢
      generalize fullS X2 = X3 at Q3 HH
      go_wp2_with fail
      refine (Q1.out _ (HT.out.later HBW.out)).mono ?_
      rintro e w2 ⟨rfl, hb⟩
      have B1 := Lib.hid (HBW.out.trans (hb.mono HBW.out.size))
      clear hb
      go_wp2_with fail
      refine (Q2.out _).mono ?_
      rintro e w3 ⟨rfl, hb⟩
      have B2 := Lib.hid (B1.out.trans (hb.mono B1.out.size))
      clear hb
      go_wp2_with fail
      refine (Q3.out _).mono ?_
      rintro e w4 ⟨rfl, hb⟩
      have B3 := Lib.hid (B2.out.trans (hb.mono B2.out.size))
      clear hb
      go_wp2_with fail
      go_ret2
      exact ⟨by rw [← HH.out]; rfl, B3.out⟩
theorem hput_no (a b c d : Int) (w : World) (h : hok a b c d = false) :
    Calls Tryd.prog 27 #[.agg #[.int .i64 a, .int .i64 b, .int .i64 c, .int .i64 d]] w fun e w' => e = .returned (.tuple #[.string ⟨#[]⟩, .int .i64 2]) ∧ Below w.heap.size w w' := by
  have he : errH a b c d = 2 := by unfold errH; rw [h]; rfl
  have HCK := Lib.hid (fun W : World => hcheck_any a b c d W)
  rw [he] at HCK
  clear he h
  go_enter Tryd.func27, Tryd.ntmps27
  go_wp2_with fail
  refine (HCK.out _).mono ?_
  rintro e w1 ⟨rfl, hb⟩
  have HB := Lib.hid (((Below.refl _ w).alloc (Nat.le_refl _) _).trans (hb.mono (by simp)))
  clear hb HCK
  go_wp2_with fail
  go_ret2
  exact ⟨rfl, HB.out⟩
end Go.Proofs.YtcgoegehgcecpaaDoor
