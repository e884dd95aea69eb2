/- The contracts of frame.Read, Take and of the document's own Read of layer 14 over this translation. Conditions: bytes of at most eighty thousand; the table of crc. -/
import Derived.Test.YtjmfmbokphagaaaDoorGa
import Derived.Test.YtjmfmbokphagaaaDoorCa
import Derived.Test.YtjmfmbokphagaaaDoorSu
import Derived.Test.YtjmfmbokphagaaaDoorQb
import Derived.Laws.Rows
import Derived.Laws.Tables
import Derived.Laws.CopyOwn
namespace Go.Proofs.YtjmfmbokphagaaaDoor
open Go.RowKit Vi Cm

theorem Tab.but {w w' : World} {B : Nat} (h : Tab w) (k : But B w w') (hB : 1 ≠ B) : Tab w' := fun j hj => by
  have hl := World.block_lt_of_cell? w _ (h j hj)
  have hb := k.block 1 hl (fun e => hB (by first | exact Option.some.inj e | exact (Option.some.inj e).symm))
  rw [← h j hj]
  unfold World.cell?
  first | rw [hb] | simp only [hb]
theorem Tab.lt {w : World} (h : Tab w) : 1 < w.heap.size := World.block_lt_of_cell? w _ (h 0 (by omega))
theorem Tab.ne {w : World} (h : Tab w) {B : Nat} (hB : w.heap.size ≤ B) : 1 ≠ B := fun e => by
  have := h.lt
  omega
theorem wpList_store_rowM {ops : Array Oper} {rest : List Oper} {o : Oper} {a : Act} {w : World} {Q : Exit → Act → World → Prop} (hgd : o.guard = none) (ty : TypeId) (x y : Operand) (ho : o.op = .store ty x y)
    (g : Nat) (cells : Array Value) (hx : a.eval x = .pointer (some ⟨g, 0, none⟩)) (hy : a.eval y = .agg cells)
    (t : TypeId) (old : Array Value) (hg : w.heap[g]? = some (.cells old t (0, 0))) (hi : (Tryd.prog.info? ty).map (·.size) = some cells.size)
    (hold : old.size = cells.size) (h1 : cells.all (·.oneCell') = true) (n : Nat) (w0 : World) (hb : Below n w0 w) (hn : n ≤ g)
    (h : ∀ w', Hid (w'.heap[g]? = some (.cells cells t (0, 0))) → Hid (∀ k, k ≠ g → w'.heap[k]? = w.heap[k]?) → Hid (Below n w0 w') → Hid (w'.heap.size = w.heap.size) → wpList Tryd.prog ops Q rest (a.put o.dst undef) w') : wpList Tryd.prog ops Q (o :: rest) a w :=
  wpList_store_row hgd ty x y ho g cells hx hy t old hg hi hold h1 (h _ (setRow_heap w g old cells t (0, 0) hg) (fun k hk => setRow_other w g k cells hk) (below_setRow hb hn cells) (size_setRow w g cells))
theorem opened_no (t : ByteArray) (h : sealed t = false) : opened t = .tuple #[.string ⟨#[]⟩, .bool false] := by unfold opened; rw [h]; rfl
theorem opened_yes (t : ByteArray) (h : sealed t = true) : opened t = .tuple #[.string (t.extract 0 (t.size - 4)), .bool true] := by unfold opened; rw [h]; rfl
theorem rdtext_size (S : ByteArray) (q : Nat) (er n : Int) (t : ByteArray) (q1 : Nat) (e1 : Int) (h : Rd.text S q er n = (t, q1, e1)) : t.size ≤ S.size := by
  unfold Rd.text Rd.fix at h
  split at h
  · injection h with h1 h2; subst h1; exact Nat.zero_le _
  · split at h
    · injection h with h1 h2; subst h1; exact Nat.zero_le _
    · injection h with h1 h2
      subst h1
      rw [ByteArray.size_extract, ByteArray.size_extract]
      omega
theorem ne_list (s : ByteArray) (h : s.size ≠ 0) : (s.toList == []) = false := by
  rw [beq_eq_false_iff_ne]
  intro e
  exact h ((size_list s).1 e)
theorem fr_bad (S : ByteArray) (q : Nat) (er : Int) (t : ByteArray) (q1 : Nat) (e1 : Int) (h : Rd.text S q er 65540 = (t, q1, e1)) (hs : ¬ (sealed t = true ∧ 4 < t.size)) : fr S q er = (⟨#[]⟩, q1, Rd.fail e1 3) := by
  rw [fr_of S q er t q1 e1 h, if_neg hs]
theorem fr_good (S : ByteArray) (q : Nat) (er : Int) (t : ByteArray) (q1 : Nat) (e1 : Int) (h : Rd.text S q er 65540 = (t, q1, e1)) (hs : sealed t = true ∧ 4 < t.size) : fr S q er = (t.extract 0 (t.size - 4), q1, e1) := by
  rw [fr_of S q er t q1 e1 h, if_pos hs]
set_option maxHeartbeats 1000000 in
set_option maxRecDepth 100000 in
theorem read_any (w : World) (B : Nat) (S : ByteArray) (q : Nat) (er : Int) (hS : S.size ≤ 80000) (hq : q ≤ S.size) (h : Sc w B true S q er) (hT : Tab w) (hB : 1 ≠ B) :
    Calls Tryd.prog 35 #[.pointer (some ⟨B, 0, none⟩)] w fun e w' => e = .returned (.string (fr S q er).1) ∧ Sc w' B true S (fr S q er).2.1 (fr S q er).2.2 ∧ But B w w' := by
  obtain ⟨t, q1, e1, hR⟩ : ∃ t q1 e1, Rd.text S q er 65540 = (t, q1, e1) := ⟨_, _, _, rfl⟩
  have hts := rdtext_size S q er _ t q1 e1 hR
  have hq1 := Rd.text_le S q er 65540 hq
  have HX := Lib.hid (textU w B S q er 65540 (by omega) hq h (by omega))
  rw [hR] at HX hq1
  dsimp only at HX hq1
  have HT := Lib.hid hT
  have HBN := Lib.hid hB
  have HS := Lib.hid hS
  clear h hT hB
  by_cases hg : sealed t = true ∧ 4 < t.size
  · have HF := Lib.hid (fr_good S q er t q1 e1 hR hg)
    rw [HF.out]
    dsimp only
    obtain ⟨X, hX⟩ : ∃ X : ByteArray, X = t.extract 0 (t.size - 4) := ⟨_, rfl⟩
    have hXz : X.size ≠ 0 := by rw [hX, ByteArray.size_extract]; omega
    have hne := ne_list X hXz
    have hne2 : ¬ X.toList = [] := fun e => hXz ((size_list X).1 e)
    have HO := Lib.hid (opened_yes t hg.1)
    rw [← hX] at HO ⊢
    clear hR hg hX hXz
    go_enter Tryd.func35, Tryd.ntmps35
    go_wp2_with fail
    refine HX.out.mono ?_
    rintro e w1 ⟨rfl, h1, k1⟩
    have H1 := Lib.hid h1
    have K1 := Lib.hid k1
    clear h1 k1 HX
    go_wp2_with fail
    refine (open_any t w1 (HT.out.but K1.out HBN.out) (by have := HS.out; omega)).mono ?_
    rintro e w2 ⟨rfl, hb⟩
    have HB := Lib.hid hb
    rw [HO.out]
    clear hb
    go_wp2_with fail
    go_ret
    exact ⟨rfl, H1.out.kept (HB.out.block B H1.out.lt), K1.out.trans (But.of_below HB.out)⟩
  · have HF := Lib.hid (fr_bad S q er t q1 e1 hR hg)
    rw [HF.out]
    dsimp only
    by_cases hs : sealed t = true
    · obtain ⟨X, hX⟩ : ∃ X : ByteArray, X = t.extract 0 (t.size - 4) := ⟨_, rfl⟩
      have hXz : X.size = 0 := by
        have : ¬ 4 < t.size := fun h => hg ⟨hs, h⟩
        rw [hX, ByteArray.size_extract]; omega
      have HO := Lib.hid (opened_yes t hs)
      rw [← hX, str_empty X hXz] at HO
      clear hR hg hX hXz hs
      go_enter Tryd.func35, Tryd.ntmps35
      go_wp2_with fail
      refine HX.out.mono ?_
      rintro e w1 ⟨rfl, h1, k1⟩
      have H1 := Lib.hid h1
      have K1 := Lib.hid k1
      clear h1 k1 HX
      go_wp2_with fail
      refine (open_any t w1 (HT.out.but K1.out HBN.out) (by have := HS.out; omega)).mono ?_
      rintro e w2 ⟨rfl, hb⟩
      have K2 := Lib.hid (K1.out.trans (But.of_below hb))
      have H2 := Lib.hid (H1.out.kept (hb.block B H1.out.lt))
      rw [HO.out]
      clear hb
      go_wp2_with fail
      refine (failU w2 B S q1 e1 3 (by have := HS.out; omega) hq1 H2.out).mono ?_
      rintro e w3 ⟨rfl, h3, k3⟩
      have H3 := Lib.hid h3
      have K3 := Lib.hid (K2.out.trans k3)
      clear h3 k3
      go_wp2_with fail
      go_ret
      exact ⟨rfl, H3.out, K3.out⟩
    · have HO := Lib.hid (opened_no t (by simpa using hs))
      clear hR hg hs
      go_enter Tryd.func35, Tryd.ntmps35
      go_wp2_with fail
      refine HX.out.mono ?_
      rintro e w1 ⟨rfl, h1, k1⟩
      have H1 := Lib.hid h1
      have K1 := Lib.hid k1
      clear h1 k1 HX
      go_wp2_with fail
      refine (open_any t w1 (HT.out.but K1.out HBN.out) (by have := HS.out; omega)).mono ?_
      rintro e w2 ⟨rfl, hb⟩
      have K2 := Lib.hid (K1.out.trans (But.of_below hb))
      have H2 := Lib.hid (H1.out.kept (hb.block B H1.out.lt))
      rw [HO.out]
      clear hb
      go_wp2_with fail
      refine (failU w2 B S q1 e1 3 (by have := HS.out; omega) hq1 H2.out).mono ?_
      rintro e w3 ⟨rfl, h3, k3⟩
      have H3 := Lib.hid h3
      have K3 := Lib.hid (K2.out.trans k3)
      clear h3 k3
      go_wp2_with fail
      go_ret
      exact ⟨rfl, H3.out, K3.out⟩
/-- what Take answers -/
def takeV (S : ByteArray) : Value := if (fr S 0 0).2.2 = 0 then .tuple #[.string (fr S 0 0).1, .int .i64 ((fr S 0 0).2.1 : Int), .int .i64 0] else .tuple #[.string ⟨#[]⟩, .int .i64 0, .int .i64 3]
set_option maxHeartbeats 1000000 in
set_option maxRecDepth 100000 in
theorem take_any (S : ByteArray) (w : World) (hS : S.size ≤ 80000) (hT : Tab w) :
    Calls Tryd.prog 37 #[.string S] w fun e w' => e = .returned (takeV S) ∧ Below w.heap.size w w' := by
  obtain ⟨t, q1, e1, hR⟩ : ∃ t q1 e1, fr S 0 0 = (t, q1, e1) := ⟨_, _, _, rfl⟩
  have HV := Lib.hid (show takeV S = if e1 = 0 then .tuple #[.string t, .int .i64 (q1 : Int), .int .i64 0] else .tuple #[.string ⟨#[]⟩, .int .i64 0, .int .i64 3] by unfold takeV; rw [hR])
  have HS := Lib.hid hS
  have HT := Lib.hid hT
  have HR := Lib.hid hR
  clear hS hT hR
  go_enter Tryd.func37, Tryd.ntmps37
  go_wp2_with fail
  refine (new_any S w).mono ?_
  rintro e w1 ⟨rfl, h1, hb1⟩
  have H1 := Lib.hid h1
  have B1 := Lib.hid hb1
  clear h1 hb1
  go_wp2_with fail
  have hrd := read_any w1 w.heap.size S 0 0 HS.out (Nat.zero_le _) H1.out (HT.out.later B1.out) (HT.out.ne (Nat.le_refl _))
  rw [HR.out] at hrd
  dsimp only at hrd
  refine hrd.mono ?_
  clear hrd
  rintro e w2 ⟨rfl, h2, k2⟩
  have H2 := Lib.hid h2
  have B2 := Lib.hid (But.below B1.out k2 (Nat.le_refl _) B1.out.size)
  clear h2 k2
  have herr := err_any w2 w.heap.size true S q1 e1 H2.out
  have hat := at_any w2 w.heap.size true S q1 e1 H2.out
  simp only [if_true] at herr hat
  have HE := Lib.hid herr
  have HA := Lib.hid hat
  clear herr hat
  by_cases he : e1 = 0
  · subst he
    go_wp2_with fail
    refine HE.out.mono ?_
    rintro e w3 ⟨rfl, rfl⟩
    go_wp2_with fail
    refine HA.out.mono ?_
    rintro e w3 ⟨rfl, rfl⟩
    have HV2 := Lib.hid (HV.out.trans (if_pos trivial))
    go_wp2_with fail
    go_ret3
    exact ⟨congrArg Ending.returned HV2.out.symm, B2.out⟩
  · have hd : (e1 != 0) = true := by simpa using he
    have HV2 := Lib.hid (HV.out.trans (if_neg he))
    clear HV
    go_wp2_with fail
    refine HE.out.mono ?_
    rintro e w3 ⟨rfl, rfl⟩
    go_wp2_with fail
    go_ret3
    exact ⟨congrArg Ending.returned HV2.out.symm, B2.out⟩
end Go.Proofs.YtjmfmbokphagaaaDoor
