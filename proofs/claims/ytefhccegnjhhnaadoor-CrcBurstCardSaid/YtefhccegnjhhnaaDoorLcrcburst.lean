/- CrcBurst: a sealed text that is turned within 32 bits in a row is not opened, where the table holds what the program's text lays. -/
import Derived.Test.YtefhccegnjhhnaaDoorCa
import Derived.Test.YtefhccegnjhhnaaDoorCb
import Derived.Lib.ConvBytes
import Derived.RegionTactic
namespace Go.Proofs.YtefhccegnjhhnaaDoor.LCrcBurst
open Go.RowKit Cm

theorem le_tl (x : Nat) (hx : x < 4294967296) : le (tl x) = x := by
  simp only [tl, le]
  rw [byte_nat _ (by omega), byte_nat _ (by omega), byte_nat _ (by omega), byte_nat _ (by omega)]
  omega
theorem sealed_run (t : ByteArray) (h : sealed t = true) : run 4294967295 t.data.toList = it 32 4294967295 := by
  unfold sealed at h
  simp only [Bool.and_eq_true, decide_eq_true_eq, beq_iff_eq] at h
  obtain ⟨h4, h⟩ := h
  have hl : t.data.toList.length = t.size := by simp
  rw [← List.take_append_drop (t.size - 4) t.data.toList]
  refine seal_run _ _ ?_ (by rw [List.length_drop, hl]; omega)
  rw [h, le_tl _ (on_lt _ _)]
  rfl
theorem sealed_mk (s : ByteArray) : sealed (s ++ ByteArray.mk (tl (on 0 s.data.toList)).toArray) = true ∧ (s ++ ByteArray.mk (tl (on 0 s.data.toList)).toArray).size = s.size + 4 := by
  have hsz : (s ++ ByteArray.mk (tl (on 0 s.data.toList)).toArray).size = s.size + 4 := by rw [ByteArray.size_append]; rfl
  have hd : (s ++ ByteArray.mk (tl (on 0 s.data.toList)).toArray).data.toList = s.data.toList ++ tl (on 0 s.data.toList) := by simp
  have hl : s.data.toList.length = s.size := by simp
  refine ⟨?_, hsz⟩
  unfold sealed
  rw [hsz, hd, Nat.add_sub_cancel, decide_eq_true (by omega), Bool.true_and, ← hl, List.drop_left, List.take_left]
  simp

theorem conv_row (w : World) (Y : ByteArray) : ∃ cap W, (convert 9 34 (.string Y)).run Tryd.prog w = .ok (.slice (some ⟨w.heap.size, 0, none⟩) Y.size cap) W ∧
    (∀ j (_ : j < Y.data.toList.length), W.cell? ⟨w.heap.size, j, none⟩ = some (.int .u8 (Y.data.toList[j].toNat : Int))) ∧ (∀ j, j < Y.size → W.frozen? ⟨w.heap.size, j, none⟩ = false) ∧ Below w.heap.size w W ∧ w.heap.size < W.heap.size := by
  refine ⟨_, _, Lib.run_convert_string_bytes w 9 34 5 Y Tryd.underlying9 Tryd.underlying34 Tryd.underlying5, ?_, ?_, ?_, ?_⟩
  · intro j hj
    have hj2 : j < Y.size := by simpa using hj
    rw [Lib.bytesWorld_cell w 5 Y j hj2]
    simp [List.getD, hj2]
  · intro j hj
    have hs : Y.size ≤ (Lib.bytesCells w 5 Y).size := by simp [Lib.bytesCells]
    simp [World.frozen?, Lib.bytesWorld_at_new]
    omega
  · exact ⟨rfl, rfl, rfl, by rw [Lib.bytesWorld_size]; omega, fun k hk => Lib.bytesWorld_at_old w 5 Y k hk⟩
  · rw [Lib.bytesWorld_size]; omega

/-- the register's test on a bit -/
theorem bit_t (turn k : Nat) (ht : turn < 4294967296) (h : turn / 2 ^ k % 2 = 1) : (bits BinOp.and IntKind.u32 ((turn : Int) / 2 ^ k) 1 == 1) = true := by
  have e : (turn : Int) / 2 ^ k = ((turn / 2 ^ k : Nat) : Int) := by rw [Int.natCast_ediv, Int.natCast_pow]; rfl
  have := u32_and_nat (turn / 2 ^ k) 1 (Nat.lt_of_le_of_lt (Nat.div_le_self _ _) ht) (by omega)
  rw [show ((1 : Nat) : Int) = 1 by rfl] at this
  rw [e, this, Nat.and_one_is_mod, h]; rfl
theorem bit_f (turn k : Nat) (ht : turn < 4294967296) (h : turn / 2 ^ k % 2 = 0) : (bits BinOp.and IntKind.u32 ((turn : Int) / 2 ^ k) 1 == 1) = false := by
  have e : (turn : Int) / 2 ^ k = ((turn / 2 ^ k : Nat) : Int) := by rw [Int.natCast_ediv, Int.natCast_pow]; rfl
  have := u32_and_nat (turn / 2 ^ k) 1 (Nat.lt_of_le_of_lt (Nat.div_le_self _ _) ht) (by omega)
  rw [show ((1 : Nat) : Int) = 1 by rfl] at this
  rw [e, this, Nat.and_one_is_mod, h]; rfl

/-- what a round keeps: the row's bytes, turned as far as the round has come -/
structure RI (b : Nat) (w : World) (Y : List UInt8) (p turn k : Nat) (l : List UInt8) (wr : World) : Prop where
  len : l.length = Y.length
  num : le l = le Y ^^^ 2 ^ p * (turn % 2 ^ k)
  cell : ∀ j (_ : j < l.length), wr.cell? ⟨b, j, none⟩ = some (.int .u8 (l[j].toNat : Int))
  free : ∀ j, j < l.length → wr.frozen? ⟨b, j, none⟩ = false
  old : Below w.heap.size w wr
  above : w.heap.size ≤ b
theorem ri_start {b : Nat} {w W : World} {Y : ByteArray} {p turn : Nat} (hc : ∀ j (_ : j < Y.data.toList.length), W.cell? ⟨b, j, none⟩ = some (.int .u8 (Y.data.toList[j].toNat : Int))) (hf : ∀ j, j < Y.size → W.frozen? ⟨b, j, none⟩ = false) (ha : w.heap.size ≤ b) (hb : Below w.heap.size w W) : RI b w Y.data.toList p turn 0 Y.data.toList W :=
  ⟨rfl, by simp [Nat.mod_one], hc, fun j hj => hf j (by simpa using hj), hb, ha⟩
theorem ri_no {b : Nat} {w wr : World} {Y l : List UInt8} {p turn k : Nat} (h : RI b w Y p turn k l wr) (hb : turn / 2 ^ k % 2 = 0) : RI b w Y p turn (k + 1) l wr :=
  ⟨h.len, by rw [bit_no turn k hb]; exact h.num, h.cell, h.free, h.old, h.above⟩
theorem mul_bit (p turn k : Nat) (h : turn / 2 ^ k % 2 = 1) : 2 ^ p * (turn % 2 ^ (k + 1)) = 2 ^ p * (turn % 2 ^ k) ^^^ 2 ^ (p + k) := by
  rw [bit_up turn k h, mul_xor, ← Nat.pow_add]
theorem ri_yes {b : Nat} {w wr : World} {Y l : List UInt8} {p turn k : Nat} (h : RI b w Y p turn k l wr) (hb : turn / 2 ^ k % 2 = 1) (J K : Nat) (hJ : J < l.length) (hK : K < 8) (hJK : 8 * J + K = p + k) :
    RI b w Y p turn (k + 1) (l.set J (UInt8.ofNat (l[J].toNat ^^^ 2 ^ K))) (wr.setCell ⟨b, J, none⟩ (.int .u8 ((l[J].toNat ^^^ 2 ^ K : Nat) : Int))).drew := by
  have hp : 2 ^ K < 256 := by have : 2 ^ K ≤ 2 ^ 7 := Nat.pow_le_pow_right (by omega) (by omega); omega
  have hx : l[J].toNat ^^^ 2 ^ K < 256 := Nat.xor_lt_two_pow (n := 8) l[J].toNat_lt hp
  refine ⟨by simpa using h.len, ?_, ?_, ?_, (h.old.setCell h.above _).drew, h.above⟩
  · rw [le_set l J hJ K hK, h.num, mul_bit p turn k hb, hJK, Nat.xor_assoc]
  · intro j hj
    rw [List.length_set] at hj
    show (wr.setCell ⟨b, J, none⟩ (.int .u8 ((l[J].toNat ^^^ 2 ^ K : Nat) : Int))).cell? ⟨b, j, none⟩ = _
    by_cases e : J = j
    · subst e
      rw [World.cell?_setCell_same (v := .int .u8 ((l[J].toNat ^^^ 2 ^ K : Nat) : Int)) (h := h.cell J hJ), List.getElem_set_self, UInt8.toNat_ofNat', Nat.mod_eq_of_lt hx]
    · rw [World.cell?_setCell_other (h := fun he => e (by injection he)), List.getElem_set_ne e]
      exact h.cell j hj
  · intro j hj
    rw [List.length_set] at hj
    show (wr.setCell ⟨b, J, none⟩ (.int .u8 ((l[J].toNat ^^^ 2 ^ K : Nat) : Int))).frozen? ⟨b, j, none⟩ = _
    rw [World.frozen?_setCell]
    exact h.free j hj
theorem wrap_shr (turn k : Nat) (ht : turn < 4294967296) : IntKind.u32.wrap ((turn : Int) / 2 ^ k) = (turn : Int) / 2 ^ k := by
  have e : (turn : Int) / 2 ^ k = ((turn / 2 ^ k : Nat) : Int) := by rw [Int.natCast_ediv, Int.natCast_pow]; rfl
  have hd : turn / 2 ^ k ≤ turn := Nat.div_le_self _ _
  rw [e]
  generalize turn / 2 ^ k = x at hd ⊢
  have : IntKind.u32.wrap (x : Int) = (x : Int) % 4294967296 := by simp [IntKind.wrap, IntKind.bits, IntKind.signed]
  rw [this]
  omega

theorem back_str {b : Nat} {w wr : World} {Y l : List UInt8} {p turn k cap : Nat} (h : RI b w Y p turn k l wr) :
    (convert 34 9 (.slice (some ⟨b, 0, none⟩) l.length cap)).run Tryd.prog wr = .ok (.string ⟨l.toArray⟩) wr := by
  refine run_convert_bytes_back wr 34 9 5 ⟨b, 0, none⟩ cap l Tryd.underlying34 Tryd.underlying5 Tryd.underlying9 ?_
  intro j hj
  rw [Addr.add_lit, Nat.zero_add]
  exact h.cell j hj
theorem back_len {l : List UInt8} {Y : ByteArray} (h : l.length = Y.data.toList.length) : l.length = Y.size := by rw [h]; simp
theorem not_sealed {b : Nat} {w wr : World} {Y : ByteArray} {l : List UInt8} {p turn : Nat} (h : RI b w Y.data.toList p turn 32 l wr) (hy : run 4294967295 Y.data.toList = it 32 4294967295) (hp : p + 32 ≤ 8 * Y.size) (ht : turn < 4294967296) (h0 : ¬ turn = 0) :
    opened ⟨l.toArray⟩ = .tuple #[.string ⟨#[]⟩, .bool false] := by
  have hs : sealed ⟨l.toArray⟩ = false := by
    rcases hc : sealed ⟨l.toArray⟩ with _ | _
    · rfl
    · have h2 := sealed_run _ hc
      have hn := h.num
      rw [show turn % 2 ^ 32 = turn by omega] at hn
      exact (burst Y.data.toList l p turn h.len.symm hn (by simpa using hp) ht h0 (by rw [hy]; exact h2.symm)).elim
  unfold opened
  rw [hs]
  rfl
theorem quo8 (n J : Nat) (h : J = n / 8) : (n : Int).tdiv 8 = (J : Int) := by rw [Int.tdiv_eq_ediv_of_nonneg (by omega)]; omega
theorem rem8 (n K : Nat) (h : K = n % 8) : (n : Int).tmod 8 = (K : Int) := by rw [Int.tmod_eq_emod_of_nonneg (by omega)]; omega
theorem pow_lt (K : Nat) (h : K < 8) : 2 ^ K < 256 := by have : 2 ^ K ≤ 2 ^ 7 := Nat.pow_le_pow_right (by omega) (by omega); omega
theorem xor_bit (x K : Nat) (hx : x < 256) (hK : K < 8) : bits BinOp.xor IntKind.u8 (x : Int) (2 ^ K % 256) = ((x ^^^ 2 ^ K : Nat) : Int) := by
  have h := pow_lt K hK
  have := u8_xor_nat x (2 ^ K) hx h
  rw [Int.natCast_pow] at this
  have e : (2 : Int) ^ K % 256 = 2 ^ K := by
    have h2 : ((2 ^ K : Nat) : Int) = (2 : Int) ^ K := by rw [Int.natCast_pow]; rfl
    rw [← h2]
    generalize 2 ^ K = z at h ⊢
    omega
  rw [e]
  exact this

set_option maxHeartbeats 1600000 in
set_option maxRecDepth 100000 in
theorem walk (s : ByteArray) (at_ : Int) (turn : Nat) (w : World) (hT : Tab w) (hs : s.size ≤ maxLen) (ha0 : -9223372036854775808 ≤ at_) (ha1 : at_ ≤ 9223372036854775807) (ht : turn < 4294967296) :
    Calls Tryd.prog 5 #[.string s, .int .i64 at_, .int .u32 turn] w fun e w' => e = .returned (.bool true) ∧ Below w.heap.size w w' := by
  have hs2 := hs
  unfold maxLen at hs2
  have HT := Lib.hid hT
  clear hT
  rcases Int.lt_trichotomy (1000 : Int) s.size with hb | hb | hb
  all_goals
    first | (have hbn : (1000 : Int) ≤ s.size := by omega) | skip
    go_enter Tryd.func5, Tryd.ntmps5
    go_wp2_with fail
    refine (seal_any _ w HT.out (by first | omega | (rw [ByteArray.size_extract]; omega))).mono ?_
    rintro e w1 ⟨rfl, hb1⟩
    have hm := sealed_mk (if (1000 : Int) < s.size then s.extract 0 1000 else s)
    first | rw [if_pos hb] at hm | rw [if_neg (by omega)] at hm
    have hzs : 4 ≤ (_ ++ ByteArray.mk (tl (on 0 (ByteArray.data _).toList)).toArray : ByteArray).size ∧ (_ ++ ByteArray.mk (tl (on 0 (ByteArray.data _).toList)).toArray : ByteArray).size ≤ 1004 := ⟨Nat.le_trans (by omega) (Nat.le_of_eq hm.2.symm), by rw [hm.2]; first | omega | (rw [ByteArray.size_extract]; omega)⟩
    have hse := hm.1
    clear hm
    generalize (_ ++ ByteArray.mk (tl (on 0 (ByteArray.data _).toList)).toArray : ByteArray) = Y at hzs hse ⊢
    obtain ⟨cap, W, hcv, hcell, hfree, hbW, hWs⟩ := conv_row w1 Y
    have hb2 : Below w.heap.size w W := hb1.trans (hbW.mono hb1.size)
    have hsz1 := hb1.size
    have HC := Lib.hid hcell
    have HF := Lib.hid hfree
    have HSE := Lib.hid (sealed_run Y hse)
    clear hb1 hbW hcell hfree hse
    obtain ⟨hz4, hz1⟩ := hzs
    by_cases a0 : at_ < 0
    · go_wp2_with fail
      refine (awake2_any W (HT.out.later hb2)).mono ?_
      rintro e w8 ⟨rfl, k⟩
      have hb8 := hb2.trans (k.mono hb2.size)
      go_wp2_with fail
      go_ret
      exact ⟨rfl, hb8⟩
    by_cases a1 : at_ > 8 * (Y.size : Int) - 32
    · go_wp2_with fail
      refine (awake2_any W (HT.out.later hb2)).mono ?_
      rintro e w8 ⟨rfl, k⟩
      have hb8 := hb2.trans (k.mono hb2.size)
      go_wp2_with fail
      go_ret
      exact ⟨rfl, hb8⟩
    obtain ⟨p, rfl⟩ := Int.eq_ofNat_of_zero_le (show 0 ≤ at_ by omega)
    by_cases h0 : turn = 0
    · subst h0
      go_wp2_with fail
      refine (awake2_any W (HT.out.later hb2)).mono ?_
      rintro e w8 ⟨rfl, k⟩
      have hb8 := hb2.trans (k.mono hb2.size)
      go_wp2_with fail
      go_ret
      exact ⟨rfl, hb8⟩
    have hp : p + 32 ≤ 8 * Y.size := by omega
    have hti : ¬ ((turn : Int) = 0) := by omega
    have htq : ((turn : Int) == 0) = false := by simpa using h0
    have HQ := Lib.hid htq
    clear htq
    go_wp2_with fail
    · exfalso
      have hor : ((((Y.size : Int) < 4 ∨ (p : Int) < 0) ∨ 8 * (Y.size : Int) - 32 < (p : Int)) ∨ ((turn : Int) == 0) = true) := by assumption
      rw [HQ.out] at hor
      rcases hor with (hor | hor) | hor
      · omega
      · omega
      · cases hor
    go_loopw [8, 38] (fun _ i wr => ∃ (k : Nat) (l : List UInt8), i = .int .i64 (k : Int) ∧ k ≤ 32 ∧ RI (w1.heap.size) w Y.data.toList p turn k l wr) (fun _ i _ => 32 - (intOf i).toNat)
    case atStart => exact ⟨0, Y.data.toList, rfl, by omega, ri_start HC.out HF.out (by omega) hb2⟩
    case round =>
      obtain ⟨k, l, rfl, hk, hri⟩ := hrel
      have RI0 := Lib.hid hri
      have hlen := hri.len
      by_cases hlt : k < 32
      · clear hri
        have hsh : IntKind.u32.wrap ((turn : Int) / 2 ^ k) = (turn : Int) / 2 ^ k := wrap_shr turn k ht
        rcases Nat.mod_two_eq_zero_or_one (turn / 2 ^ k) with hbit | hbit
        · have hbb := bit_f turn k ht hbit
          have hne := ri_no RI0.out hbit
          have HNE := Lib.hid hne
          clear hne
          go_wp2_with fail
          go_roundw
          case rel => exact ⟨k + 1, l, by go_num, by omega, HNE.out⟩
          case measure => simp [intOf]; omega
        · have hbb := bit_t turn k ht hbit
          obtain ⟨J, hJ⟩ : ∃ J, J = (p + k) / 8 := ⟨_, rfl⟩
          obtain ⟨K, hK⟩ : ∃ K, K = (p + k) % 8 := ⟨_, rfl⟩
          have hJl : J < l.length := by rw [hlen]; simp; omega
          have hK8 : K < 8 := by omega
          have hye := ri_yes RI0.out hbit J K hJl hK8 (by omega)
          have cJ := RI0.out.cell J hJl
          have fJ := RI0.out.free J hJl
          have hxo := xor_bit l[J].toNat K l[J].toNat_lt hK8
          have HY := Lib.hid hye
          clear hye
          have hJs : J < Y.size := by have : l.length = Y.size := by rw [hlen]; simp
                                      omega
          subst hJ hK
          obtain ⟨x, hx⟩ : ∃ x, x = l[(p + k) / 8].toNat := ⟨_, rfl⟩
          rw [← hx] at cJ hxo HY
          have hx8 : x < 256 := by rw [hx]; exact l[(p + k) / 8].toNat_lt
          clear hx
          go_wp2_with fail
          go_region
          all_goals
            go_wp2_with fail
            go_roundw
            case rel => exact ⟨k + 1, _, by go_num, by omega, HY.out⟩
            case measure => simp [intOf]; omega
      · obtain rfl : k = 32 := by omega
        have hcb := back_str (cap := cap) hri
        have hbel := hri.old
        have hno := not_sealed hri HSE.out hp ht h0
        have HNO := Lib.hid hno
        have hzs : (⟨l.toArray⟩ : ByteArray).size ≤ 90000 := by show l.toArray.size ≤ _; simp [hlen]; omega
        clear hno hri
        rw [back_len hlen] at hcb
        go_wp2_with fail
        refine (open_any ⟨l.toArray⟩ wr (HT.out.later hbel) hzs).mono ?_
        rintro e w8 ⟨rfl, k⟩
        rw [HNO.out]
        have hb8 := hbel.trans (k.mono hbel.size)
        clear hbel k
        go_wp2_with fail
        refine (awake2_any w8 (HT.out.later hb8)).mono ?_
        rintro e w9 ⟨rfl, k⟩
        have hb9 := hb8.trans (k.mono hb8.size)
        go_wp2_with fail
        go_ret
        exact ⟨rfl, hb9⟩
end Go.Proofs.YtefhccegnjhhnaaDoor.LCrcBurst
