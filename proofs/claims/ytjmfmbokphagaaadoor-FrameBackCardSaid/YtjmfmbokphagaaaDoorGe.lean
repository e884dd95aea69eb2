/- The contracts of both Whole of layer 14, of frame.All and of the statements' Texts over this translation. Conditions: bytes of at most eighty thousand; the table of crc. -/
import Derived.Test.YtjmfmbokphagaaaDoorGd
import Derived.Deep.QuietTactic
import Derived.BigQuiet
namespace Go.Proofs.YtjmfmbokphagaaaDoor
open Go.RowKit Vi Cm

theorem rdtext_pos (S : ByteArray) (n : Int) (t : ByteArray) (q1 : Nat) (h : Rd.text S 0 0 n = (t, q1, 0)) : t.size ≤ q1 := by
  unfold Rd.text Rd.fix at h
  split at h
  · injection h with h1 h2; subst h1; exact Nat.zero_le _
  · split at h
    · injection h with h1 h2; injection h2 with h3 h4; exact absurd h4 (by decide)
    · injection h with h1 h2
      injection h2 with h3 h4
      subst h1
      rw [ByteArray.size_extract]
      omega
theorem fr_pos (S : ByteArray) (t : ByteArray) (q : Nat) (h : fr S 0 0 = (t, q, 0)) : 0 < q ∧ q ≤ S.size ∧ t.size ≤ S.size := by
  have hle := fr_le S 0 0 (Nat.zero_le _)
  rw [h] at hle
  obtain ⟨u, q1, e1, hR⟩ : ∃ u q1 e1, Rd.text S 0 0 65540 = (u, q1, e1) := ⟨_, _, _, rfl⟩
  have hts := rdtext_size S 0 0 _ u q1 e1 hR
  by_cases hs : sealed u = true ∧ 4 < u.size
  · have hy := h.symm.trans (fr_good S 0 0 u q1 e1 hR hs)
    simp only [Prod.mk.injEq] at hy
    obtain ⟨h1, h2, h3⟩ := hy
    subst h3
    have := rdtext_pos S _ u q1 hR
    refine ⟨by omega, hle, ?_⟩
    rw [h1, ByteArray.size_extract]
    omega
  · have hy := h.symm.trans (fr_bad S 0 0 u q1 e1 hR hs)
    simp only [Prod.mk.injEq] at hy
    obtain ⟨h1, h2, h3⟩ := hy
    exfalso
    unfold Rd.fail at h3
    split at h3
    · rename_i hne; exact hne h3.symm
    · exact absurd h3 (by decide)
/-- the texts at the front, from a place on, and where they end -/
def whN : Nat → ByteArray → Nat → List ByteArray × Nat
  | 0, _, at' => ([], at')
  | f + 1, S, at' => match fr (S.extract at' S.size) 0 0 with
    | (t, q, e) => if e = 0 then ((t :: (whN f S (at' + q)).1), (whN f S (at' + q)).2) else ([], at')
def wh (S : ByteArray) : List ByteArray × Nat := whN (S.size + 1) S 0
theorem whN_yes (f : Nat) (S : ByteArray) (p : Nat) (t : ByteArray) (q : Nat) (h : fr (S.extract p S.size) 0 0 = (t, q, 0)) : whN (f + 1) S p = ((t :: (whN f S (p + q)).1), (whN f S (p + q)).2) := by
  rw [whN, h]
  simp
theorem whN_no (f : Nat) (S : ByteArray) (p : Nat) (t : ByteArray) (q : Nat) (e : Int) (h : fr (S.extract p S.size) 0 0 = (t, q, e)) (he : e ≠ 0) : whN (f + 1) S p = ([], p) := by
  rw [whN, h]
  simp [he]
theorem ext_sz (S : ByteArray) (p : Nat) : (S.extract p S.size).size = S.size - p := by
  rw [ByteArray.size_extract]
  omega
theorem takeV_ok (S : ByteArray) (t : ByteArray) (q : Nat) (h : fr S 0 0 = (t, q, 0)) : takeV S = .tuple #[.string t, .int .i64 (q : Int), .int .i64 0] := by unfold takeV; rw [h]; rfl
theorem takeV_no (S : ByteArray) (t : ByteArray) (q : Nat) (e : Int) (h : fr S 0 0 = (t, q, e)) (he : e ≠ 0) : takeV S = .tuple #[.string ⟨#[]⟩, .int .i64 0, .int .i64 3] := by unfold takeV; rw [h]; simp [he]
/-- where a reading from a place on has got to -/
def At (S : ByteArray) (L : List ByteArray) (p : Nat) : Prop := ∃ f, S.size - p < f ∧ L.length ≤ p ∧ p ≤ S.size ∧ (L ++ (whN f S p).1, (whN f S p).2) = wh S
theorem At.start (S : ByteArray) : At S [] 0 := ⟨S.size + 1, by omega, by simp, by omega, by rw [List.nil_append]; unfold wh; generalize whN (S.size + 1) S 0 = x; rfl⟩
theorem At.go {S : ByteArray} {L : List ByteArray} {p : Nat} (h : At S L p) (t : ByteArray) (q : Nat) (ht : fr (S.extract p S.size) 0 0 = (t, q, 0)) : At S (L ++ [t]) (p + q) ∧ 0 < q ∧ q ≤ S.size - p ∧ t.size ≤ S.size := by
  obtain ⟨f, h1, h2, h3, h4⟩ := h
  obtain ⟨h5, h6, h7⟩ := fr_pos _ t q ht
  rw [ext_sz] at h6 h7
  refine ⟨?_, h5, h6, by omega⟩
  obtain ⟨g, rfl⟩ : ∃ g, f = g + 1 := ⟨f - 1, by omega⟩
  refine ⟨g, by omega, by simp; omega, by omega, ?_⟩
  rw [whN_yes g S p t q ht] at h4
  rw [List.append_assoc]
  exact h4
theorem At.stop {S : ByteArray} {L : List ByteArray} {p : Nat} (h : At S L p) (t : ByteArray) (q : Nat) (e : Int) (ht : fr (S.extract p S.size) 0 0 = (t, q, e)) (he : e ≠ 0) : wh S = (L, p) := by
  obtain ⟨f, h1, h2, h3, h4⟩ := h
  obtain ⟨g, rfl⟩ : ∃ g, f = g + 1 := ⟨f - 1, by omega⟩
  rw [whN_no g S p t q e ht he] at h4
  rw [← h4]
  simp
theorem fr_nil : fr ⟨#[]⟩ 0 0 = (⟨#[]⟩, 0, 3) := by decide +kernel
theorem At.all {S : ByteArray} {L : List ByteArray} (h : At S L S.size) : wh S = (L, S.size) := by
  refine h.stop ⟨#[]⟩ 0 3 ?_ (by decide)
  have e : S.extract S.size S.size = ⟨#[]⟩ := str_empty _ (by rw [ext_sz]; omega)
  rw [e]
  exact fr_nil

def stw (s : ByteArray) : Value := .string s
theorem info_st : (Tryd.prog.info? 9).map (fun i => (i.zero, i.size, i.bytes)) = some (some (.string ⟨#[]⟩), 1, 16) := by kernel_rfl
/-- a call that answers with these texts -/
def RetL (w : World) (L : List ByteArray) (n : Nat) (e : Ending) (w' : World) : Prop := ∃ a c, e = .returned (.tuple #[.slice a L.length c, .int .i64 (n : Int)]) ∧ StrS w' a L.length L ∧ L.length ≤ c ∧ c ≤ maxLen ∧ Below w.heap.size w w'
theorem own_str {w : World} {B : Nat} {v : Value} {L : List ByteArray} (h : Own 9 w B v (L.map stw)) : ∃ a c, v = .slice a L.length c ∧ StrS w a L.length L ∧ L.length ≤ c ∧ c ≤ maxLen := by
  rcases Nat.eq_zero_or_pos L.length with h0 | hp
  · have hx : L = [] := List.length_eq_zero_iff.1 h0
    subst hx
    rcases h.2 with ⟨rfl, _⟩ | ⟨g, cap, cur, rfl, _, _, h1, h2, _⟩
    · exact ⟨none, 0, rfl, ⟨rfl, fun h => by simp at h⟩, Nat.le_refl _, by decide⟩
    · exact ⟨some ⟨g, 0, none⟩, cap, rfl, ⟨rfl, fun h => by simp at h⟩, h1, h2⟩
  · obtain ⟨g, cap, rfl, _, h2, h3, hc⟩ := h.cellAt (by simpa using hp)
    rw [List.length_map] at h2 ⊢
    refine ⟨_, cap, rfl, ⟨rfl, fun _ => ⟨g, 0, rfl, fun k hk => ?_⟩⟩, h2, h3⟩
    rw [Nat.zero_add, hc k (by simpa using hk)]
    simp [stw]
set_option maxHeartbeats 1000000 in
set_option maxRecDepth 100000 in
theorem whole_any (S : ByteArray) (w : World) (hS : S.size ≤ 80000) (hT : Tab w) :
    Calls Tryd.prog 40 #[.string S] w (RetL w (wh S).1 (wh S).2) := by
  have HS := Lib.hid hS
  have HT := Lib.hid hT
  have hSi : (S.size : Int) ≤ 80000 := by omega
  clear hT
  go_enter Tryd.func40, Tryd.ntmps40
  go_wp2_with fail
  go_loopw [4, 5, 6, 7, 8] (fun v i _ _ _ wr => ∃ (p : Nat) (L : List ByteArray), i = .int .i64 (p : Int) ∧ At S L p ∧ Own 9 wr w.heap.size v (L.map stw) ∧ Below w.heap.size w wr) (fun _ i _ _ _ _ => S.size + 1 - (intOf i).toNat)
  case atStart => exact ⟨0, [], rfl, At.start S, Own.nil _ _ _, Below.refl _ _⟩
  case round =>
    obtain ⟨p, L, rfl, hat, ho, hb⟩ := hrel
    have hp : p ≤ S.size := by obtain ⟨_, _, _, h, _⟩ := hat; exact h
    have hL : L.length ≤ p := by obtain ⟨_, _, h, _⟩ := hat; exact h
    have HA := Lib.hid hat
    have HO := Lib.hid ho
    have HB := Lib.hid hb
    clear hat ho hb
    obtain ⟨t, q, e, hR⟩ : ∃ t q e, fr (S.extract p S.size) 0 0 = (t, q, e) := ⟨_, _, _, rfl⟩
    obtain ⟨X, hX⟩ : ∃ X, S.extract p S.size = X := ⟨_, rfl⟩
    have hXs : X.size ≤ 80000 := by rw [← hX, ext_sz]; omega
    have HTK := Lib.hid (take_any X wr hXs (HT.out.later HB.out))
    by_cases he : e = 0
    · subst he
      obtain ⟨hA2, hq0, hq1, htz⟩ := HA.out.go t q hR
      have HA2 := Lib.hid hA2
      rw [hX] at hR
      rw [takeV_ok X t q hR] at HTK
      have hLl : (L.map stw).length + 1 ≤ 3000000 := by rw [List.length_map]; omega
      have HLL := Lib.hid hLl
      clear hA2 hR hLl
      go_wp2_with fail
      refine HTK.out.mono ?_
      rintro e w1 ⟨rfl, hb⟩
      have B1 := Lib.hid (HB.out.trans (hb.mono HB.out.size))
      have HO1 := Lib.hid (HO.out.kept hb)
      clear hb HTK
      go_wp2_with (at_builtin; refine wpList_appV rfl (.tmp 21) (.tmp 23) 26 9 (.string ⟨#[]⟩) 16 rfl Tryd.underlying26 info_st rfl (by omega) w.heap.size w (B1.out.alloc B1.out.size _) ?c1 _ (L.map stw) rfl (HO1.out.alloc _) ⟨w1.heap.size, 0, none⟩ 1 1 [.string t] rfl rfl (Lay.new w1 _ _) ?c2 HLL.out ?_)
      case c1 => have := B1.out.size; simp; omega
      case c2 => intro u hu; simp at hu; subst hu; rfl
      intro v2 w2 HO2 HB2 HZ2
      go_wp2_with fail
      go_roundw
      case rel => exact ⟨p + q, L ++ [t], by go_num, HA2.out, by rw [List.map_append]; exact HO2.out, HB2.out⟩
      case measure => simp [intOf]; omega
    · have HW := Lib.hid (HA.out.stop t q e hR he)
      rw [hX] at hR
      rw [takeV_no X t q e hR he] at HTK
      clear hR he
      go_wp2_with fail
      refine HTK.out.mono ?_
      rintro e w1 ⟨rfl, hb⟩
      have B1 := Lib.hid (HB.out.trans (hb.mono HB.out.size))
      obtain ⟨a, c, hv, h1, h2, h3⟩ := own_str (HO.out.kept hb)
      have HF := Lib.hid (show RetL w (wh S).1 (wh S).2 (.returned (.tuple #[.slice a L.length c, .int .i64 (p : Int)])) w1 by
        rw [HW.out]
        exact ⟨a, c, rfl, h1, h2, h3, B1.out⟩)
      subst hv
      clear hb HTK h1 h2 h3 HO
      go_wp2_with fail
      go_ret2
      exact HF.out
set_option maxHeartbeats 2000000 in
set_option maxRecDepth 100000 in
theorem rwhole_any (S : ByteArray) (w : World) (hS : S.size ≤ 80000) :
    Calls Tryd.prog 41 #[.string S] w (RetL w (wh S).1 (wh S).2) := by
  have HS := Lib.hid hS
  have hSi : (S.size : Int) ≤ 80000 := by omega
  go_enter Tryd.func41, Tryd.ntmps41
  go_wp2_with fail
  go_loopw [4, 5, 6, 7] (fun v i _ _ wr => ∃ (p : Nat) (L : List ByteArray), i = .int .i64 (p : Int) ∧ At S L p ∧ Own 9 wr w.heap.size v (L.map stw) ∧ Below w.heap.size w wr) (fun _ i _ _ _ => S.size + 1 - (intOf i).toNat)
  case atStart => exact ⟨0, [], rfl, At.start S, Own.nil _ _ _, Below.refl _ _⟩
  case round =>
    obtain ⟨p, L, rfl, hat, ho, hb⟩ := hrel
    have hp : p ≤ S.size := by obtain ⟨_, _, _, h, _⟩ := hat; exact h
    have hL : L.length ≤ p := by obtain ⟨_, _, h, _⟩ := hat; exact h
    have HA := Lib.hid hat
    have HO := Lib.hid ho
    have HB := Lib.hid hb
    clear hat ho hb
    by_cases hlt : p < S.size
    · obtain ⟨t, q, e, hR⟩ : ∃ t q e, fr (S.extract p S.size) 0 0 = (t, q, e) := ⟨_, _, _, rfl⟩
      obtain ⟨X, hX⟩ : ∃ X, S.extract p S.size = X := ⟨_, rfl⟩
      have hXs : X.size ≤ 80000 := by rw [← hX, ext_sz]; omega
      have hrr := rread_any X 0 0 wr hXs (Nat.zero_le _)
      rw [← hX, hR, hX] at hrr
      have HRR := Lib.hid hrr
      clear hrr
      dsimp only at HRR
      unfold sv at HRR
      by_cases he : e = 0
      · subst he
        obtain ⟨hA2, hq0, hq1, htz⟩ := HA.out.go t q hR
        have HA2 := Lib.hid hA2
        have hLl : (L.map stw).length + 1 ≤ 3000000 := by rw [List.length_map]; omega
        have HLL := Lib.hid hLl
        clear hA2 hR hLl
        go_wp2_with fail
        refine HRR.out.mono ?_
        rintro e w1 ⟨rfl, hb⟩
        have B1 := Lib.hid (HB.out.trans (hb.mono HB.out.size))
        have HO1 := Lib.hid (HO.out.kept hb)
        clear hb HRR
        go_wp2_with (refine wpList_store_rowM rfl 55 (.tmp 6) (.tmp 18) rfl w1.heap.size #[.string X, .int .i64 (q : Int), .int .i64 0] rfl rfl 55 _ (heap_alloc_new w1 _) (info_scan _ _ _) rfl (one3 _ _ _) w1.heap.size w1 ((Below.refl _ w1).alloc (Nat.le_refl _) _) (Nat.le_refl _) ?_)
        intro w2 hblk hoth hbel hsz
        have c1 : w2.cell? ⟨w1.heap.size, 1, none⟩ = some (.int .i64 (q : Int)) := by rw [cell_of_row _ _ _ _ _ _ hblk.out]; rfl
        have c2 : w2.cell? ⟨w1.heap.size, 2, none⟩ = some (.int .i64 0) := by rw [cell_of_row _ _ _ _ _ _ hblk.out]; rfl
        have hlt2 : w1.heap.size < w2.heap.size := by rw [hsz.out]; simp
        have B2 := Lib.hid (B1.out.trans (hbel.out.mono B1.out.size))
        have HO2 := Lib.hid (HO1.out.kept hbel.out)
        obtain ⟨M, hM⟩ : ∃ M, M = w1.heap.size := ⟨_, rfl⟩
        rw [← hM] at c1 c2 hlt2 hblk ⊢
        have HNE := Lib.hid (own_ne HO2.out hblk.out (by decide))
        clear hoth hbel hsz HO1 B1 hM
        go_wp2_with (at_builtin; refine wpList_appG rfl (.tmp 25) (.tmp 27) 26 9 (.string ⟨#[]⟩) 16 rfl Tryd.underlying26 info_st rfl (by omega) w.heap.size w (B2.out.alloc B2.out.size _) ?c1 _ (L.map stw) rfl (HO2.out.alloc _) ⟨w2.heap.size, 0, none⟩ 1 1 [.string t] rfl rfl (Lay.new w2 _ _) ?c2 HLL.out ?_)
        case c1 => have := B2.out.size; simp; omega
        case c2 => intro u hu; simp at hu; subst hu; rfl
        intro v3 w3 HO3 HB3 HZ3 HG3
        have d1 : w3.cell? ⟨M, 1, none⟩ = some (.int .i64 (q : Int)) := by
          have hb := HG3.out.block M (by simp; omega) HNE.out
          have hb2 : w3.heap[M]? = some (.cells #[.string X, .int .i64 (q : Int), .int .i64 0] 55 (0, 0)) := by
            rw [hb]
            exact ((Below.refl w2.heap.size w2).alloc (Nat.le_refl _) (.cells #[.string t] 9)).block M hlt2 |>.trans hblk.out
          rw [cell_of_row _ _ _ _ _ _ hb2]
          rfl
        clear c1 c2 hblk HG3 HNE HO2 B2 hlt2
        go_wp2_with fail
        go_roundw
        case rel => exact ⟨p + q, L ++ [t], by go_num, HA2.out, by rw [List.map_append]; exact HO3.out, HB3.out⟩
        case measure => simp [intOf]; omega
      · have HW := Lib.hid (HA.out.stop t q e hR he)
        have hd : (e != 0) = true := by simpa using he
        clear hR he
        go_wp2_with fail
        refine HRR.out.mono ?_
        rintro e' w1 ⟨rfl, hb⟩
        have B1 := Lib.hid (HB.out.trans (hb.mono HB.out.size))
        have HO1 := Lib.hid (HO.out.kept hb)
        clear hb HRR
        go_wp2_with (refine wpList_store_rowM rfl 55 (.tmp 6) (.tmp 18) rfl w1.heap.size #[.string X, .int .i64 (q : Int), .int .i64 e] rfl rfl 55 _ (heap_alloc_new w1 _) (info_scan _ _ _) rfl (one3 _ _ _) w1.heap.size w1 ((Below.refl _ w1).alloc (Nat.le_refl _) _) (Nat.le_refl _) ?_)
        intro w2 hblk hoth hbel hsz
        have c2 : w2.cell? ⟨w1.heap.size, 2, none⟩ = some (.int .i64 e) := by rw [cell_of_row _ _ _ _ _ _ hblk.out]; rfl
        have B2 := Lib.hid (B1.out.trans (hbel.out.mono B1.out.size))
        obtain ⟨a, c, hv, h1, h2, h3⟩ := own_str (HO1.out.kept hbel.out)
        have HF := Lib.hid (show RetL w (wh S).1 (wh S).2 (.returned (.tuple #[.slice a L.length c, .int .i64 (p : Int)])) w2 by
          rw [HW.out]
          exact ⟨a, c, rfl, h1, h2, h3, B2.out⟩)
        obtain ⟨M, hM⟩ : ∃ M, M = w1.heap.size := ⟨_, rfl⟩
        rw [← hM] at c2 ⊢
        subst hv
        clear hblk hoth hbel hsz HO1 B1 hM h1 h2 h3 HO
        go_wp2_with fail
        go_ret2
        exact HF.out
    · have hpe : p = S.size := by omega
      subst hpe
      have HW := Lib.hid HA.out.all
      obtain ⟨a, c, hv, h1, h2, h3⟩ := own_str HO.out
      have HF := Lib.hid (show RetL w (wh S).1 (wh S).2 (.returned (.tuple #[.slice a L.length c, .int .i64 (S.size : Int)])) wr by
        rw [HW.out]
        exact ⟨a, c, rfl, h1, h2, h3, HB.out⟩)
      subst hv
      clear h1 h2 h3 HO
      go_wp2_with fail
      go_ret2
      exact HF.out
end Go.Proofs.YtjmfmbokphagaaaDoor
