/- A record's bytes: plain facts; the contracts of entry's nums and texts over this translation. -/
import Derived.Test.YtiflieaemgamkaaGreatDoorEa
namespace Go.Proofs.YtiflieaemgamkaaGreatDoor
open Go.RowKit Vi Cm

theorem leb_le : ∀ (f n k : Nat), 0 < k → n < 128 ^ k → (leb (f + 1) n).length ≤ k
  | f, n, k, hk, hn => by
    by_cases h1 : n < 128
    · rw [leb_small f n h1]; show 1 ≤ k; omega
    · cases f with
      | zero => rw [leb]; split <;> simp [leb] <;> omega
      | succ f =>
        rw [leb_big (f + 1) n (by omega)]
        obtain ⟨j, rfl⟩ : ∃ j, k = j + 1 := ⟨k - 1, by omega⟩
        rcases Nat.eq_zero_or_pos j with rfl | hj
        · simp at hn; omega
        · have := leb_le f (n / 128) j hj (by rw [Nat.pow_succ] at hn; omega)
          simp only [List.length_cons]; omega
theorem put_le (n k : Nat) (hk : 0 < k) (h : n < 128 ^ k) : (put n).length ≤ k := leb_le 9 n k hk h
theorem pnb_le (n : Int) (k : Nat) (hk : 0 < k) (h : n.toNat < 128 ^ k) : (pnb n).size ≤ k := by
  show (put n.toNat).toArray.size ≤ k
  rw [List.size_toArray]
  exact put_le _ _ hk h
/-- numbers, one behind the other -/
def catN : List Int → ByteArray
  | [] => ⟨#[]⟩
  | x :: r => pnb x ++ catN r
def catT : List ByteArray → ByteArray
  | [] => ⟨#[]⟩
  | x :: r => ptxH x ++ catT r
theorem emp_app (s : ByteArray) : (⟨#[]⟩ ++ s : ByteArray) = s := by apply ba_ext; simp
theorem app_emp (s : ByteArray) : (s ++ ⟨#[]⟩ : ByteArray) = s := by apply ba_ext; simp
theorem catN_snoc : ∀ (l : List Int) (x : Int), catN (l ++ [x]) = catN l ++ pnb x
  | [], x => by show pnb x ++ ⟨#[]⟩ = ⟨#[]⟩ ++ pnb x; rw [app_emp, emp_app]
  | y :: l, x => by show pnb y ++ catN (l ++ [x]) = (pnb y ++ catN l) ++ pnb x; rw [catN_snoc l x, ByteArray.append_assoc]
theorem catT_snoc : ∀ (l : List ByteArray) (x : ByteArray), catT (l ++ [x]) = catT l ++ ptxH x
  | [], x => by show ptxH x ++ ⟨#[]⟩ = ⟨#[]⟩ ++ ptxH x; rw [app_emp, emp_app]
  | y :: l, x => by show ptxH y ++ catT (l ++ [x]) = (ptxH y ++ catT l) ++ ptxH x; rw [catT_snoc l x, ByteArray.append_assoc]
def NumsR (xs : List Int) (w : World) (v i : Value) (wr : World) : Prop := ∃ (k : Nat) (S : ByteArray), v = .string S ∧ i = .int .i64 (k : Int) ∧ k ≤ xs.length ∧ Hid (S = catN (xs.take k)) ∧ S.size ≤ 10 * k ∧ Below w.heap.size w wr
set_option maxRecDepth 100000 in
set_option maxHeartbeats 1000000 in
theorem nums_any (b c : Nat) (xs : List Int) (w : World) (hl : xs.length ≤ 3) (hc : ∀ i, i < xs.length → w.cell? ⟨b, i, none⟩ = some (.int .i64 (xs.getD i 0))) (hx : ∀ v ∈ xs, v ≤ 9223372036854775807) :
    Calls Tryz.prog 105 #[.slice (some ⟨b, 0, none⟩) xs.length c] w fun e w' => e = .returned (.string (catN xs)) ∧ Below w.heap.size w w' := by
  have HC := Lib.hid hc
  have HX := Lib.hid hx
  obtain ⟨n, hn⟩ : ∃ n, n = xs.length := ⟨_, rfl⟩
  have HN := Lib.hid hn
  rw [← hn] at hl ⊢
  clear hc hx hn
  go_enter Tryz.func105, Tryz.ntmps105
  go_wp2_with fail
  go_loopw [3, 8] (fun v i wr => NumsR xs w v i wr) (fun _ i _ => n - (intOf i).toNat)
  case atStart => exact ⟨0, ⟨#[]⟩, rfl, rfl, Nat.zero_le _, rfl, Nat.le_refl _, Below.refl _ _⟩
  case round =>
    obtain ⟨k, S, rfl, rfl, hk, HS, hz, hb⟩ := hrel
    have HB := Lib.hid hb
    rw [← HN.out] at hk
    by_cases hlt : k < n
    · have hlx : k < xs.length := by rw [← HN.out]; exact hlt
      have hcell := HC.out k hlx
      obtain ⟨v, hv⟩ : ∃ v, v = xs.getD k 0 := ⟨_, rfl⟩
      rw [← hv] at hcell
      have hvm : v ∈ xs := by
        rw [hv, List.getD_eq_getElem?_getD, List.getElem?_eq_getElem hlx]
        exact List.getElem_mem hlx
      have hvx := HX.out v hvm
      have hce : wr.cell? ⟨b, k, none⟩ = some (.int .i64 v) := (hb.cell (p := ⟨b, k, none⟩) (World.block_lt_of_cell? w _ hcell)).trans hcell
      have HS2 := Lib.hid (show S ++ pnb v = catN (xs.take (k + 1)) by
        rw [List.take_succ_eq_append_getElem hlx, catN_snoc, ← HS.out, hv, List.getD_eq_getElem?_getD, List.getElem?_eq_getElem hlx]
        rfl)
      have P1 := Lib.hid (fun W : World => (show Calls Tryz.prog 160 #[.int .i64 v] W fun e w' => e = .returned (.string (pnb v)) ∧ Below W.heap.size W w' from putNum_any v W hvx))
      have hps := pnb_size v
      have hps2 : ((pnb v).size : Int) ≤ 10 := by omega
      have hzz : (S ++ pnb v : ByteArray).size ≤ 10 * (k + 1) := by rw [ByteArray.size_append]; omega
      have hsi : (S.size : Int) ≤ 30 := by omega
      have HZ := Lib.hid hzz
      have hdl : decide ((k : Int) < (n : Int)) = true := decide_eq_true (by omega)
      have hdl2 : decide (k < n) = true := decide_eq_true hlt
      generalize pnb v = p at P1 HS2 HZ hps2
      clear hb hcell hv hvm hzz hps
      go_wp2_with fail
      refine (P1.out _).mono ?_
      rintro e w2 ⟨rfl, hb2⟩
      have HB2 := Lib.hid (HB.out.trans (hb2.mono HB.out.size))
      clear hb2
      go_wp2
      go_roundw
      case rel => exact ⟨k + 1, _, rfl, by go_num, by rw [← HN.out]; omega, HS2.out, HZ.out, HB2.out⟩
      case measure => simp [intOf]; omega
    · obtain rfl : k = n := by omega
      have HF := Lib.hid (show S = catN xs by rw [HS.out, HN.out, List.take_length])
      have hdl : decide ((k : Int) < (k : Int)) = false := decide_eq_false (by omega)
      clear hb HS
      go_wp2
      go_ret
      exact ⟨by rw [← HF.out]; rfl, HB.out⟩
def TextsR (xs : List ByteArray) (w : World) (v i : Value) (wr : World) : Prop := ∃ (k : Nat) (S : ByteArray), v = .string S ∧ i = .int .i64 (k : Int) ∧ k ≤ xs.length ∧ Hid (S = catT (xs.take k)) ∧ S.size ≤ 1000 * k ∧ Below w.heap.size w wr
set_option maxRecDepth 100000 in
set_option maxHeartbeats 1000000 in
theorem texts_any (b c : Nat) (xs : List ByteArray) (w : World) (hl : xs.length ≤ 3) (hc : ∀ i, i < xs.length → w.cell? ⟨b, i, none⟩ = some (.string (xs.getD i ⟨#[]⟩))) (hx : ∀ v ∈ xs, v.size ≤ 900) :
    Calls Tryz.prog 106 #[.slice (some ⟨b, 0, none⟩) xs.length c] w fun e w' => e = .returned (.string (catT xs)) ∧ Below w.heap.size w w' := by
  have HC := Lib.hid hc
  have HX := Lib.hid hx
  obtain ⟨n, hn⟩ : ∃ n, n = xs.length := ⟨_, rfl⟩
  have HN := Lib.hid hn
  rw [← hn] at hl ⊢
  clear hc hx hn
  go_enter Tryz.func106, Tryz.ntmps106
  go_wp2_with fail
  go_loopw [3, 8] (fun v i wr => TextsR xs w v i wr) (fun _ i _ => n - (intOf i).toNat)
  case atStart => exact ⟨0, ⟨#[]⟩, rfl, rfl, Nat.zero_le _, rfl, Nat.le_refl _, Below.refl _ _⟩
  case round =>
    obtain ⟨k, S, rfl, rfl, hk, HS, hz, hb⟩ := hrel
    have HB := Lib.hid hb
    rw [← HN.out] at hk
    by_cases hlt : k < n
    · have hlx : k < xs.length := by rw [← HN.out]; exact hlt
      have hcell := HC.out k hlx
      obtain ⟨v, hv⟩ : ∃ v, v = xs.getD k ⟨#[]⟩ := ⟨_, rfl⟩
      rw [← hv] at hcell
      have hvm : v ∈ xs := by
        rw [hv, List.getD_eq_getElem?_getD, List.getElem?_eq_getElem hlx]
        exact List.getElem_mem hlx
      have hvx := HX.out v hvm
      have hce : wr.cell? ⟨b, k, none⟩ = some (.string v) := (hb.cell (p := ⟨b, k, none⟩) (World.block_lt_of_cell? w _ hcell)).trans hcell
      have HS2 := Lib.hid (show S ++ ptxH v = catT (xs.take (k + 1)) by
        rw [List.take_succ_eq_append_getElem hlx, catT_snoc, ← HS.out, hv, List.getD_eq_getElem?_getD, List.getElem?_eq_getElem hlx]
        rfl)
      have P1 := Lib.hid (fun W : World => (show Calls Tryz.prog 103 #[.string v] W fun e w' => e = .returned (.string (ptxH v)) ∧ Below W.heap.size W w' from putText_any v W (by omega)))
      have hps := ptxH_size v
      have hps2 : ((ptxH v).size : Int) ≤ 1000 := by omega
      have hzz : (S ++ ptxH v : ByteArray).size ≤ 1000 * (k + 1) := by rw [ByteArray.size_append]; omega
      have hsi : (S.size : Int) ≤ 3000 := by omega
      have HZ := Lib.hid hzz
      have hdl : decide ((k : Int) < (n : Int)) = true := decide_eq_true (by omega)
      have hdl2 : decide (k < n) = true := decide_eq_true hlt
      generalize ptxH v = p at P1 HS2 HZ hps2
      clear hb hcell hv hvm hzz hps hvx
      go_wp2_with fail
      refine (P1.out _).mono ?_
      rintro e w2 ⟨rfl, hb2⟩
      have HB2 := Lib.hid (HB.out.trans (hb2.mono HB.out.size))
      clear hb2
      go_wp2
      go_roundw
      case rel => exact ⟨k + 1, _, rfl, by go_num, by rw [← HN.out]; omega, HS2.out, HZ.out, HB2.out⟩
      case measure => simp [intOf]; omega
    · obtain rfl : k = n := by omega
      have HF := Lib.hid (show S = catT xs by rw [HS.out, HN.out, List.take_length])
      have hdl : decide ((k : Int) < (k : Int)) = false := decide_eq_false (by omega)
      clear hb HS
      go_wp2
      go_ret
      exact ⟨by rw [← HF.out]; rfl, HB.out⟩
end Go.Proofs.YtiflieaemgamkaaGreatDoor
