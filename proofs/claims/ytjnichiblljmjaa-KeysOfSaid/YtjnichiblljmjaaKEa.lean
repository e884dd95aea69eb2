/- keys.Of, Begin, Parted, and the document's Of and Parted of layer 31, over this translation. Condition: texts of at most a million bytes. -/
import Derived.Test.YtjnichiblljmjaaIf
import Derived.Test.YtjnichiblljmjaaAa
namespace Go.Proofs.Ytjnichiblljmjaa
open Go.RowKit Vi

/-- may a node and an edge make a key? -/
def okK (a b : ByteArray) : Bool := nm a && nm b
theorem okK_l {a b : ByteArray} (h : okK a b = true) : nm a = true := by unfold okK at h; rw [Bool.and_eq_true] at h; exact h.1
theorem okK_r {a b : ByteArray} (h : okK a b = true) : nm b = true := by unfold okK at h; rw [Bool.and_eq_true] at h; exact h.2
theorem okK_yes {a b : ByteArray} (h : okK a b = true) : orL [nck a, nck b] = 0 := by
  rw [nck_yes a (okK_l h), nck_yes b (okK_r h)]; rfl
theorem okK_no {a b : ByteArray} (h : okK a b = false) : orL [nck a, nck b] = 2 := by
  cases h1 : nm a with
  | false => rw [nck_no a h1]; rfl
  | true =>
    have h2 : nm b = false := by unfold okK at h; rw [h1] at h; simpa using h
    rw [nck_yes a h1, nck_no b h2]; rfl
theorem kbegin_any (a : ByteArray) (w : World) (ha : a.size ≤ 1000000) :
    Calls Try.prog 16 #[.string a] w fun e w' => e = .returned (.string (a ++ ⟨#[0]⟩)) ∧ w = w' := by
  have h1 : ¬ 9223372036854775807 < a.size + 1 := by omega
  go_enter Try.func16, Try.ntmps16
  go_wp2_with fail
  go_ret
  exact ⟨rfl, rfl⟩
set_option maxRecDepth 100000 in
set_option maxHeartbeats 1000000 in
theorem kof_yes (a b : ByteArray) (w : World) (ha : a.size ≤ 1000000) (hb : b.size ≤ 1000000) (h : okK a b = true) :
    Calls Try.prog 12 #[.string a, .string b] w fun e w' => e = .returned (.tuple #[.string (a ++ ⟨#[0]⟩ ++ b), .int .i64 0]) ∧ Below w.heap.size w w' := by
  have HN1 := Lib.hid (fun W : World => ncheck_any a W (by unfold maxLen; omega))
  have HN2 := Lib.hid (fun W : World => ncheck_any b W (by unfold maxLen; omega))
  have HG := Lib.hid (fun W : World => kbegin_any a W ha)
  have HZ := Lib.hid (okK_yes h)
  obtain ⟨x, hx⟩ : ∃ x, x = nck a := ⟨_, rfl⟩
  obtain ⟨y, hy⟩ : ∃ y, y = nck b := ⟨_, rfl⟩
  rw [← hx] at HN1 HZ
  rw [← hy] at HN2 HZ
  clear hx hy h
  have h1 : ¬ 9223372036854775807 < a.size + 1 := by omega
  have h2 : ¬ 9223372036854775807 < a.size + 1 + b.size := by omega
  go_enter Try.func12, Try.ntmps12
  go_wp2_with fail
  refine (HN1.out _).mono ?_
  rintro e w' ⟨rfl, rfl⟩
  go_wp2_with fail
  refine (HN2.out _).mono ?_
  rintro e w' ⟨rfl, rfl⟩
  have HF := Lib.hid (blk_new w (.cells #[.int .i64 x, .int .i64 y] 23 (0, 0)))
  have HB := Lib.hid ((Below.refl w.heap.size w).alloc (Nat.le_refl _) (.cells #[.int .i64 x, .int .i64 y] 23 (0, 0)))
  go_wp2_with fail
  refine (orE_any _ 0 2 2 [x, y] _ (rd_blk (f := ieC) (s := 1) (fun _ => rfl) [x, y] HF.out rfl) (by omega)).mono ?_
  rintro e w' ⟨rfl, rfl⟩
  rw [HZ.out]
  go_wp2_with fail
  refine (HG.out _).mono ?_
  rintro e w' ⟨rfl, rfl⟩
  go_wp2_with fail
  go_ret2
  exact ⟨rfl, HB.out⟩
set_option maxRecDepth 100000 in
set_option maxHeartbeats 1000000 in
theorem kof_no (a b : ByteArray) (w : World) (ha : a.size ≤ 1000000) (hb : b.size ≤ 1000000) (h : okK a b = false) :
    Calls Try.prog 12 #[.string a, .string b] w fun e w' => e = .returned (.tuple #[.string ⟨#[]⟩, .int .i64 2]) ∧ Below w.heap.size w w' := by
  have HN1 := Lib.hid (fun W : World => ncheck_any a W (by unfold maxLen; omega))
  have HN2 := Lib.hid (fun W : World => ncheck_any b W (by unfold maxLen; omega))
  have HZ := Lib.hid (okK_no h)
  obtain ⟨x, hx⟩ : ∃ x, x = nck a := ⟨_, rfl⟩
  obtain ⟨y, hy⟩ : ∃ y, y = nck b := ⟨_, rfl⟩
  rw [← hx] at HN1 HZ
  rw [← hy] at HN2 HZ
  clear hx hy h
  go_enter Try.func12, Try.ntmps12
  go_wp2_with fail
  refine (HN1.out _).mono ?_
  rintro e w' ⟨rfl, rfl⟩
  go_wp2_with fail
  refine (HN2.out _).mono ?_
  rintro e w' ⟨rfl, rfl⟩
  have HF := Lib.hid (blk_new w (.cells #[.int .i64 x, .int .i64 y] 23 (0, 0)))
  have HB := Lib.hid ((Below.refl w.heap.size w).alloc (Nat.le_refl _) (.cells #[.int .i64 x, .int .i64 y] 23 (0, 0)))
  go_wp2_with fail
  refine (orE_any _ 0 2 2 [x, y] _ (rd_blk (f := ieC) (s := 1) (fun _ => rfl) [x, y] HF.out rfl) (by omega)).mono ?_
  rintro e w' ⟨rfl, rfl⟩
  rw [HZ.out]
  go_wp2_with fail
  go_ret2
  exact ⟨rfl, HB.out⟩
theorem pj (l : List UInt8) (h : (l.takeWhile (· != 0)).length < l.length) : l.take (l.takeWhile (· != 0)).length ++ [0] ++ l.drop ((l.takeWhile (· != 0)).length + 1) = l := by
  induction l with
  | nil => simp at h
  | cons b l ih =>
    by_cases hb : b = 0
    · subst hb; simp
    · have h2 : (b != 0) = true := by simpa using hb
      rw [List.takeWhile_cons, if_pos h2] at h ⊢
      simp only [List.length_cons, List.take_succ_cons, List.drop_succ_cons, List.cons_append] at h ⊢
      rw [ih (by omega)]
theorem part_join (s : ByteArray) (h : zN s < s.size) : partA s ++ ⟨#[0]⟩ ++ partB s = s := by
  have hl : s.data.toList.length = s.size := by simp
  have hj := pj s.data.toList (by unfold zN at h; omega)
  apply ByteArray.ext
  apply Array.ext'
  have e1 : (partA s).data.toList = s.data.toList.take (zN s) := by unfold partA; simp [ByteArray.data_extract]
  have e2 : (partB s).data.toList = s.data.toList.drop (zN s + 1) := by
    unfold partB
    simp [ByteArray.data_extract]
    exact List.take_of_length_le (by simp)
  simp only [ByteArray.data_append, Array.toList_append, e1, e2]
  exact hj
theorem nm_pos {s : ByteArray} (h : nm s = true) : 1 ≤ s.size := by
  unfold nm at h
  rw [Bool.and_eq_true, Bool.and_eq_true] at h
  exact of_decide_eq_true h.1.1
theorem part_ok (s : ByteArray) (h : okK (partA s) (partB s) = true) : zN s < s.size := by
  have h1 := nm_pos (okK_r h)
  unfold partB at h1
  rw [ByteArray.size_extract] at h1
  omega
theorem okc_ne {c : UInt8} (h : okc c = true) : (c != 0) = true := by
  rw [bne_iff_ne]
  rintro rfl
  exact absurd h (by decide)
theorem nm_all {s : ByteArray} (h : nm s = true) : ∀ c ∈ s.data.toList, (c != 0) = true := by
  unfold nm at h
  rw [Bool.and_eq_true, List.all_eq_true] at h
  exact fun c hc => okc_ne (h.2 c hc)
theorem part_of (a b : ByteArray) (h : nm a = true) : partA (a ++ ⟨#[0]⟩ ++ b) = a ∧ partB (a ++ ⟨#[0]⟩ ++ b) = b := by
  have hz : zN (a ++ ⟨#[0]⟩ ++ b) = a.size := by
    unfold zN
    rw [show (a ++ ⟨#[0]⟩ ++ b).data.toList = a.data.toList ++ (0 :: b.data.toList) by simp [ByteArray.data_append], List.takeWhile_append_of_pos (nm_all h)]
    simp
  constructor
  · apply ByteArray.ext
    apply Array.ext'
    unfold partA
    rw [hz]
    simp [ByteArray.data_extract, ByteArray.data_append]
  · apply ByteArray.ext
    apply Array.ext'
    unfold partB
    rw [hz]
    simp [ByteArray.data_extract, ByteArray.data_append, ByteArray.size_append]
    have e0 : (⟨#[0]⟩ : ByteArray).size = 1 := rfl
    rw [e0, List.drop_eq_nil_of_le (by simp), List.take_of_length_le (by simp)]
    simp
    exact List.take_of_length_le (by simp)
theorem pA_le (s : ByteArray) : (partA s).size ≤ s.size := by unfold partA; rw [ByteArray.size_extract]; omega
theorem pB_le (s : ByteArray) : (partB s).size ≤ s.size := by unfold partB; rw [ByteArray.size_extract]; omega
set_option maxRecDepth 100000 in
set_option maxHeartbeats 1000000 in
theorem kparted_yes (s : ByteArray) (w : World) (hs : s.size ≤ 1000000) (h : okK (partA s) (partB s) = true) :
    Calls Try.prog 14 #[.string s] w fun e w' => e = .returned (.tuple #[.string (partA s), .string (partB s), .int .i64 0]) ∧ Below w.heap.size w w' := by
  have HI := Lib.hid (fun W : World => scut_any s W hs)
  have HO := Lib.hid (fun W : World => kof_yes (partA s) (partB s) W (Nat.le_trans (pA_le s) hs) (Nat.le_trans (pB_le s) hs) h)
  rw [part_join s (part_ok s h)] at HO
  have hq : (s.toList != s.toList) = false := by simp
  clear h
  generalize partA s = pa at *
  generalize partB s = pb at *
  go_enter Try.func14, Try.ntmps14
  go_wp2_with fail
  refine (HI.out _).mono ?_
  rintro e w1 ⟨⟨b, rfl⟩, hb⟩
  have HB := Lib.hid hb
  have hz := hb.size
  clear hb
  go_wp2_with fail
  refine (HO.out _).mono ?_
  rintro e w2 ⟨rfl, hb⟩
  have HB2 := Lib.hid (HB.out.trans (hb.mono hz))
  clear hb
  go_wp2_with fail
  go_ret3
  exact ⟨rfl, HB2.out⟩
set_option maxRecDepth 100000 in
set_option maxHeartbeats 1000000 in
theorem kparted_no (s : ByteArray) (w : World) (hs : s.size ≤ 1000000) (h : okK (partA s) (partB s) = false) :
    Calls Try.prog 14 #[.string s] w fun e w' => e = .returned (.tuple #[.string ⟨#[]⟩, .string ⟨#[]⟩, .int .i64 3]) ∧ Below w.heap.size w w' := by
  have HI := Lib.hid (fun W : World => scut_any s W hs)
  have HO := Lib.hid (fun W : World => kof_no (partA s) (partB s) W (Nat.le_trans (pA_le s) hs) (Nat.le_trans (pB_le s) hs) h)
  clear h
  generalize partA s = pa at *
  generalize partB s = pb at *
  go_enter Try.func14, Try.ntmps14
  go_wp2_with fail
  refine (HI.out _).mono ?_
  rintro e w1 ⟨⟨b, rfl⟩, hb⟩
  have HB := Lib.hid hb
  have hz := hb.size
  clear hb
  go_wp2_with fail
  refine (HO.out _).mono ?_
  rintro e w2 ⟨rfl, hb⟩
  have HB2 := Lib.hid (HB.out.trans (hb.mono hz))
  clear hb
  go_wp2_with fail
  go_ret3
  exact ⟨rfl, HB2.out⟩
set_option maxRecDepth 100000 in
theorem r31of_yes (a b : ByteArray) (w : World) (ha : a.size ≤ 1000000) (hb : b.size ≤ 1000000) (h : okK a b = true) :
    Calls Try.prog 13 #[.string a, .string b] w fun e w' => e = .returned (.tuple #[.string (a ++ ⟨#[0]⟩ ++ b), .bool true]) ∧ w = w' := by
  have HN1 := Lib.hid (fun W : World => refIs_any a W (by unfold maxLen; omega))
  have HN2 := Lib.hid (fun W : World => refIs_any b W (by unfold maxLen; omega))
  rw [okK_l h] at HN1
  rw [okK_r h] at HN2
  clear h
  have h1 : ¬ 9223372036854775807 < a.size + 1 := by omega
  have h2 : ¬ 9223372036854775807 < a.size + 1 + b.size := by omega
  go_enter Try.func13, Try.ntmps13
  go_wp2_with fail
  refine (HN1.out _).mono ?_
  rintro e w' ⟨rfl, rfl⟩
  go_wp2_with fail
  refine (HN2.out _).mono ?_
  rintro e w' ⟨rfl, rfl⟩
  go_wp2_with fail
  go_ret2
  exact ⟨rfl, rfl⟩
set_option maxRecDepth 100000 in
theorem r31of_no (a b : ByteArray) (w : World) (ha : a.size ≤ 1000000) (hb : b.size ≤ 1000000) (h : okK a b = false) :
    Calls Try.prog 13 #[.string a, .string b] w fun e w' => e = .returned (.tuple #[.string ⟨#[]⟩, .bool false]) ∧ w = w' := by
  have HN1 := Lib.hid (fun W : World => refIs_any a W (by unfold maxLen; omega))
  have HN2 := Lib.hid (fun W : World => refIs_any b W (by unfold maxLen; omega))
  cases h1 : nm a with
  | false =>
    rw [h1] at HN1
    clear h h1 HN2
    go_enter Try.func13, Try.ntmps13
    go_wp2_with fail
    refine (HN1.out _).mono ?_
    rintro e w' ⟨rfl, rfl⟩
    go_wp2_with fail
    go_ret2
    exact ⟨rfl, rfl⟩
  | true =>
    have h2 : nm b = false := by unfold okK at h; rw [h1] at h; simpa using h
    rw [h1] at HN1
    rw [h2] at HN2
    clear h h1 h2
    go_enter Try.func13, Try.ntmps13
    go_wp2_with fail
    refine (HN1.out _).mono ?_
    rintro e w' ⟨rfl, rfl⟩
    go_wp2_with fail
    refine (HN2.out _).mono ?_
    rintro e w' ⟨rfl, rfl⟩
    go_wp2_with fail
    go_ret2
    exact ⟨rfl, rfl⟩
theorem bel_drewN (w : World) (q : Nat) : Below w.heap.size w (w.drewN q) := ⟨rfl, rfl, rfl, Nat.le_refl _, fun _ _ => rfl⟩
theorem nmE : nm (⟨#[]⟩ : ByteArray) = false := rfl
theorem nn_split (s : ByteArray) (h : ¬ zN s < s.size) : okK (partA s) (partB s) = false := by
  cases hk : okK (partA s) (partB s) with
  | false => rfl
  | true => exact absurd (part_ok s hk) h
set_option maxRecDepth 100000 in
set_option maxHeartbeats 1000000 in
theorem r31parted_yes (s : ByteArray) (w : World) (hs : s.size ≤ 1000000) (h : okK (partA s) (partB s) = true) :
    Calls Try.prog 15 #[.string s] w fun e w' => e = .returned (.tuple #[.string (partA s), .string (partB s), .bool true]) ∧ Below w.heap.size w w' := by
  have HO := Lib.hid (fun W : World => r31of_yes (partA s) (partB s) W (Nat.le_trans (pA_le s) hs) (Nat.le_trans (pB_le s) hs) h)
  rw [part_join s (part_ok s h)] at HO
  have HK := Lib.hid (part_ok s h)
  have hq : (s.toList != s.toList) = false := by simp
  clear h
  go_enter Try.func15, Try.ntmps15
  go_wp2_with fail
  go_loop [5] (fun i => ∃ k : Nat, i = .int .i64 (k : Int) ∧ k ≤ s.size ∧ ∀ j, (h : j < s.size) → j < k → s[j] ≠ 0) (fun i => s.size - (intOf i).toNat)
  case atStart => exact ⟨0, rfl, Nat.zero_le _, fun _ _ h => absurd h (Nat.not_lt_zero _)⟩
  case round =>
    obtain ⟨k, rfl, hk, hz⟩ := hrel
    have HZ := Lib.hid hz
    clear hz
    by_cases hlt : k < s.size
    · have hd1 : decide ((k : Int) < (s.size : Int)) = true := decide_eq_true (by omega)
      have hi0 : (0 : Int) ≤ (k : Int) := by omega
      by_cases h0 : s[k] = 0
      · have e1 : ((s[k].toNat : Int) == 0) = true := by rw [h0]; rfl
        have c1 : (k : Int) ≤ (s.size : Int) := by omega
        have c2 : (0 : Int) ≤ (k : Int) + 1 := by omega
        have c3 : (k : Int) + 1 ≤ (s.size : Int) := by omega
        have hw : IntKind.i64.wrap ((k : Int) + 1) = (k : Int) + 1 := IntWalk.i64_in _ (by omega)
        have hn : ((k : Int) + 1).toNat = k + 1 := by omega
        have HV := Lib.hid (zN_at s k hlt HZ.out h0)
        have QA := Lib.hid (show s.extract 0 k = partA s by unfold partA; rw [HV.out])
        have QB := Lib.hid (show s.extract (k + 1) s.size = partB s by unfold partB; rw [HV.out])
        rw [← QA.out, ← QB.out] at HO
        clear h0
        go_wp2_with fail
        go_quiet ((go_at_call 13; exact Calls.quiet_of_same (Calls.mono (HO.out _) fun _ _ ⟨h1, h2⟩ => ⟨h1, h2.symm⟩)))
        go_wp2_with fail
        go_quiet (fail)
        go_wp2_with fail
        go_ret3
        exact ⟨by rw [← QA.out, ← QB.out]; rfl, (bel_drewN w _).trans (bel_drewN (w.drewN _) _)⟩
      · have e1 : ((s[k].toNat : Int) == 0) = false := by
          have : s[k].toNat ≠ 0 := fun q => h0 (UInt8.toNat_inj.mp (by simpa using q))
          rw [beq_eq_false_iff_ne]; omega
        have HS := Lib.hid (show ∀ j, (h : j < s.size) → j < k + 1 → s[j] ≠ 0 from fun j h q => by
          by_cases e : j = k
          · subst e; exact h0
          · exact HZ.out j h (by omega))
        clear h0
        go_wp2_with fail
        go_round
        case rel => exact ⟨k + 1, by go_num, by omega, HS.out⟩
        case measure => simp [intOf] <;> omega
    · exact absurd (zN_end s (fun j h q => HZ.out j h (by omega))) (by have := HK.out; omega)
set_option maxRecDepth 100000 in
set_option maxHeartbeats 1000000 in
theorem r31parted_no (s : ByteArray) (w : World) (hs : s.size ≤ 1000000) (h : okK (partA s) (partB s) = false) :
    Calls Try.prog 15 #[.string s] w fun e w' => e = .returned (.tuple #[.string ⟨#[]⟩, .string ⟨#[]⟩, .bool false]) ∧ Below w.heap.size w w' := by
  have HO := Lib.hid (fun W : World => r31of_no (partA s) (partB s) W (Nat.le_trans (pA_le s) hs) (Nat.le_trans (pB_le s) hs) h)
  clear h
  go_enter Try.func15, Try.ntmps15
  go_wp2_with fail
  go_loop [5] (fun i => ∃ k : Nat, i = .int .i64 (k : Int) ∧ k ≤ s.size ∧ ∀ j, (h : j < s.size) → j < k → s[j] ≠ 0) (fun i => s.size - (intOf i).toNat)
  case atStart => exact ⟨0, rfl, Nat.zero_le _, fun _ _ h => absurd h (Nat.not_lt_zero _)⟩
  case round =>
    obtain ⟨k, rfl, hk, hz⟩ := hrel
    have HZ := Lib.hid hz
    clear hz
    by_cases hlt : k < s.size
    · have hd1 : decide ((k : Int) < (s.size : Int)) = true := decide_eq_true (by omega)
      have hi0 : (0 : Int) ≤ (k : Int) := by omega
      by_cases h0 : s[k] = 0
      · have e1 : ((s[k].toNat : Int) == 0) = true := by rw [h0]; rfl
        have c1 : (k : Int) ≤ (s.size : Int) := by omega
        have c2 : (0 : Int) ≤ (k : Int) + 1 := by omega
        have c3 : (k : Int) + 1 ≤ (s.size : Int) := by omega
        have hw : IntKind.i64.wrap ((k : Int) + 1) = (k : Int) + 1 := IntWalk.i64_in _ (by omega)
        have hn : ((k : Int) + 1).toNat = k + 1 := by omega
        have HV := Lib.hid (zN_at s k hlt HZ.out h0)
        have QA := Lib.hid (show s.extract 0 k = partA s by unfold partA; rw [HV.out])
        have QB := Lib.hid (show s.extract (k + 1) s.size = partB s by unfold partB; rw [HV.out])
        rw [← QA.out, ← QB.out] at HO
        clear h0
        go_wp2_with fail
        go_quiet ((go_at_call 13; exact Calls.quiet_of_same (Calls.mono (HO.out _) fun _ _ ⟨h1, h2⟩ => ⟨h1, h2.symm⟩)))
        go_wp2_with fail
        go_ret3
        exact ⟨rfl, bel_drewN _ _⟩
      · have e1 : ((s[k].toNat : Int) == 0) = false := by
          have : s[k].toNat ≠ 0 := fun q => h0 (UInt8.toNat_inj.mp (by simpa using q))
          rw [beq_eq_false_iff_ne]; omega
        have HS := Lib.hid (show ∀ j, (h : j < s.size) → j < k + 1 → s[j] ≠ 0 from fun j h q => by
          by_cases e : j = k
          · subst e; exact h0
          · exact HZ.out j h (by omega))
        clear h0
        go_wp2_with fail
        go_round
        case rel => exact ⟨k + 1, by go_num, by omega, HS.out⟩
        case measure => simp [intOf] <;> omega
    · have hd1 : decide ((k : Int) < (s.size : Int)) = false := decide_eq_false (by omega)
      go_wp2_with fail
      go_ret3
      exact ⟨rfl, Below.refl _ _⟩
/-- the chapter's example -/
theorem awake31_any (w : World) : Calls Try.prog 11 #[] w fun e w' => e = .returned (.bool true) ∧ Below w.heap.size w w' := by
  have HO := Lib.hid (fun W : World => kof_yes ⟨#[97]⟩ ⟨#[120]⟩ W (by decide) (by decide) (by decide))
  rw [show (⟨#[97]⟩ : ByteArray) ++ ⟨#[0]⟩ ++ ⟨#[120]⟩ = ⟨#[97, 0, 120]⟩ from rfl] at HO
  go_enter Try.func11, Try.ntmps11
  go_wp2_with fail
  refine (HO.out _).mono ?_
  rintro e w1 ⟨rfl, hb⟩
  go_wp2_with fail
  go_ret
  exact ⟨rfl, hb⟩
end Go.Proofs.Ytjnichiblljmjaa
