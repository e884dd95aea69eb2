/- Plain facts on heads: what is read of a head's sector, and what was read is a head's sector; the contract of seat.Take over this translation. Conditions: texts of at most a thousand bytes; the table of crc. -/
import Derived.Test.YtiflieaemgamkaaGreatDoorZb
import Derived.Test.YtiflieaemgamkaaGreatDoorYf
namespace Go.Proofs.YtiflieaemgamkaaGreatDoor
open Go.RowKit Vi Cm

theorem four_is (X : ByteArray) (q a b c d : Nat) (m1 m2 m3 m4 : Int) (t : List UInt8) (h : X.data.toList.drop q = put a ++ (put b ++ (put c ++ (put d ++ t))))
    (ha : (a : Int) ≤ m1) (hb : (b : Int) ≤ m2) (hc : (c : Int) ≤ m3) (hd : (d : Int) ≤ m4) (h1 : m1 ≤ 4294967296) (h2 : m2 ≤ 4294967296) (h3 : m3 ≤ 4294967296) (h4 : m4 ≤ 4294967296) :
    ∃ q1 q2 q3 q4, Rd.num X q 0 m1 = ((a : Int), q1, 0) ∧ Rd.num X q1 0 m2 = ((b : Int), q2, 0) ∧ Rd.num X q2 0 m3 = ((c : Int), q3, 0) ∧ Rd.num X q3 0 m4 = ((d : Int), q4, 0) ∧ X.data.toList.drop q4 = t := by
  have e1 : X.data.toList.drop (q + (put a).length) = put b ++ (put c ++ (put d ++ t)) := by rw [← List.drop_drop, h, List.drop_left]
  have e2 : X.data.toList.drop (q + (put a).length + (put b).length) = put c ++ (put d ++ t) := by rw [← List.drop_drop, e1, List.drop_left]
  have e3 : X.data.toList.drop (q + (put a).length + (put b).length + (put c).length) = put d ++ t := by rw [← List.drop_drop, e2, List.drop_left]
  have e4 : X.data.toList.drop (q + (put a).length + (put b).length + (put c).length + (put d).length) = t := by rw [← List.drop_drop, e3, List.drop_left]
  exact ⟨_, _, _, _, num_is X q a m1 _ h (by omega) ha, num_is X _ b m2 _ e1 (by omega) hb, num_is X _ c m3 _ e2 (by omega) hc, num_is X _ d m4 _ e3 (by omega) hd, e4⟩
theorem four_of (X : ByteArray) (q q1 q2 q3 q4 : Nat) (e e1 e2 e3 a b c d m1 m2 m3 m4 : Int) (h1 : Rd.num X q e m1 = (a, q1, e1)) (h2 : Rd.num X q1 e1 m2 = (b, q2, e2)) (h3 : Rd.num X q2 e2 m3 = (c, q3, e3)) (h4 : Rd.num X q3 e3 m4 = (d, q4, 0)) :
    e = 0 ∧ ∃ a' b' c' d' : Nat, a = a' ∧ b = b' ∧ c = c' ∧ d = d' ∧ X.data.toList.drop q = put a' ++ (put b' ++ (put c' ++ (put d' ++ X.data.toList.drop q4))) := by
  obtain ⟨k3, d', rfl, _, g4, _⟩ := num_of _ _ _ _ _ _ h4
  subst k3
  obtain ⟨k2, c', rfl, _, g3, _⟩ := num_of _ _ _ _ _ _ h3
  subst k2
  obtain ⟨k1, b', rfl, _, g2, _⟩ := num_of _ _ _ _ _ _ h2
  subst k1
  obtain ⟨k0, a', rfl, _, g1, _⟩ := num_of _ _ _ _ _ _ h1
  exact ⟨k0, a', b', c', d', rfl, rfl, rfl, rfl, by rw [g1, g2, g3, g4]⟩
theorem body_list (a b c d : Nat) : (bodyH a b c d).data.toList = signS.data.toList ++ (put a ++ (put b ++ (put c ++ (put d ++ [])))) := by
  unfold bodyH pnb
  rw [ba_app, ba_app, ba_app, ba_app]
  simp
theorem ptx_sz (t : ByteArray) : (ptxH t).size = (put t.size).length + t.size := by
  rw [← ba_len, ptx_list, List.length_append, ba_len]
theorem head_front (a b c d : Int) : bareB (headS a b c d) = true ∧ bareT (headS a b c d) = sealH (bodyH a b c d) := by
  refine bare_is _ ?_
  have h1 := ptxH_size (sealH (bodyH a b c d))
  rw [sealH_size] at h1
  have h2 := bodyH_size a b c d
  omega
theorem head_size (a b c d : Int) : (headS a b c d).size = 128 := (bare_of _ (head_front a b c d).1).2.2
theorem hok_bd {a b c d : Int} (h : hok a b c d = true) : 1 ≤ a ∧ a ≤ 4294967295 ∧ 0 ≤ b ∧ b ≤ 1 ∧ 0 ≤ c ∧ c ≤ 524288 ∧ 1 ≤ d ∧ d ≤ 4294967296 := by
  unfold hok wthB at h
  simp only [Bool.and_eq_true, decide_eq_true_eq] at h
  omega
theorem hok_nat {a b c d : Int} (h : hok a b c d = true) : ∃ a' b' c' d' : Nat, a = a' ∧ b = b' ∧ c = c' ∧ d = d' := by
  have h1 := hok_bd h
  exact ⟨a.toNat, b.toNat, c.toNat, d.toNat, by omega, by omega, by omega, by omega⟩
/-- is a sector a head's? -/
def IsHead (S : ByteArray) : Prop := ∃ a b c d : Int, hok a b c d = true ∧ S = headS a b c d
/-- what is read of a head's sector, by whichever limits -/
theorem head_nums (a b c d : Int) (h : hok a b c d = true) (m1 m2 m3 m4 : Int) (ha : a ≤ m1) (hb : b ≤ m2) (hc : c ≤ m3) (hd : d ≤ m4) (h1 : m1 ≤ 4294967296) (h2 : m2 ≤ 4294967296) (h3 : m3 ≤ 4294967296) (h4 : m4 ≤ 4294967296) :
    Rd.fix (bodyH a b c d) 0 0 6 = (signS, 6, 0) ∧ ∃ q1 q2 q3 q4, Rd.num (bodyH a b c d) 6 0 m1 = (a, q1, 0) ∧ Rd.num (bodyH a b c d) q1 0 m2 = (b, q2, 0) ∧ Rd.num (bodyH a b c d) q2 0 m3 = (c, q3, 0) ∧ Rd.num (bodyH a b c d) q3 0 m4 = (d, q4, 0) ∧ Rd.fin (bodyH a b c d) q4 0 = 0 := by
  obtain ⟨a', b', c', d', rfl, rfl, rfl, rfl⟩ := hok_nat h
  have hl := body_list a' b' c' d'
  have hf := fix_is (bodyH a' b' c' d') 0 signS (put a' ++ (put b' ++ (put c' ++ (put d' ++ [])))) (Nat.zero_le _) (by rw [List.drop_zero, hl])
  have h6 : (bodyH (a' : Int) b' c' d').data.toList.drop 6 = put a' ++ (put b' ++ (put c' ++ (put d' ++ []))) := by
    rw [hl, show (6 : Nat) = signS.data.toList.length from rfl, List.drop_left]
  obtain ⟨q1, q2, q3, q4, g1, g2, g3, g4, g5⟩ := four_is (bodyH a' b' c' d') 6 a' b' c' d' m1 m2 m3 m4 [] h6 ha hb hc hd h1 h2 h3 h4
  exact ⟨hf, q1, q2, q3, q4, g1, g2, g3, g4, fin_is _ _ g5⟩
theorem head_of (S X f : ByteArray) (q0 q1 q2 q3 q4 : Nat) (e0 e1 e2 e3 e4 a b c d : Int) (hb : bareB S = true) (hs : sealed (bareT S) = true) (hx : (bareT S).extract 0 ((bareT S).size - 4) = X)
    (hf : Rd.fix X 0 0 6 = (f, q0, e0)) (hfs : f = signS) (h1 : Rd.num X q0 e0 4294967295 = (a, q1, e1)) (h2 : Rd.num X q1 e1 1 = (b, q2, e2)) (h3 : Rd.num X q2 e2 524288 = (c, q3, e3)) (h4 : Rd.num X q3 e3 4294967296 = (d, q4, e4))
    (hfin : Rd.fin X q4 e4 = 0) : S = headS a b c d := by
  obtain ⟨k4, hend⟩ := fin_of _ _ _ hfin
  subst k4
  obtain ⟨k0, a', b', c', d', rfl, rfl, rfl, rfl, hd⟩ := four_of _ _ _ _ _ _ _ _ _ _ _ _ _ _ _ _ _ _ h1 h2 h3 h4
  subst k0
  subst hfs
  obtain ⟨_, _, hq0, hl⟩ := fix_of X 0 0 6 signS q0 (Nat.zero_le _) hf
  rw [List.drop_zero, hd, hend] at hl
  have hX : X = bodyH a' b' c' d' := ba_ext (by rw [hl, body_list])
  have ht := seal_of _ hs
  rw [hx, hX] at ht
  rw [(bare_of S hb).1, ht]
  rfl
theorem sealed_empty : sealed ⟨#[]⟩ = false := by decide +kernel

theorem Tab.butY {w w' : World} {B : Nat} (h : Tab w) (k : But B w w') (hB : 2 ≠ B) : Tab w' := fun j hj => by
  have hl := World.block_lt_of_cell? w _ (h j hj)
  have hb := k.block 2 hl (fun e => hB (by first | exact Option.some.inj e | exact (Option.some.inj e).symm))
  rw [← h j hj]
  unfold World.cell?
  first | rw [hb] | simp only [hb]
theorem Tab.ltY {w : World} (h : Tab w) : 2 < w.heap.size := World.block_lt_of_cell? w _ (h 0 (by omega))
/-- a head in memory, by value -/
def hv (a b c d : Int) : Array Value := #[.int .i64 a, .int .i64 b, .int .i64 c, .int .i64 d]
theorem one_head (a b c d : Int) : (hv a b c d).all (·.oneCell') = true := by simp [hv, Value.oneCell']
theorem ret_head {a b c d : Int} {v u : Value} (h : v = u) : Ending.returned (.tuple #[.agg (hv a b c d), v]) = .returned (.tuple #[.agg (hv a b c d), u]) := by rw [h]
end Go.Proofs.YtiflieaemgamkaaGreatDoor
