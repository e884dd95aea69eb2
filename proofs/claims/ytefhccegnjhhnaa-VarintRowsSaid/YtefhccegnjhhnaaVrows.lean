/- Contracts of varint.Row and varint.Rows and of the document's own Rows over this translation. Conditions: texts of at most a million bytes, rows of at most ten thousand numbers. -/
import Derived.Test.YtefhccegnjhhnaaVrget
import Derived.Test.YtefhccegnjhhnaaVr
namespace Go.Proofs.Ytefhccegnjhhnaa
open Go.RowKit Vi

theorem info_u64 : (Try.prog.info? 22).map (fun i => (i.zero, i.size, i.bytes)) = some (some (.int .u64 0), 1, 8) := by kernel_rfl
theorem ext_drop (s : ByteArray) (p : Nat) : (s.extract p s.size).data.toList = s.data.toList.drop p := by
  rw [ByteArray.data_extract, Array.toList_extract]
  simp only [List.extract]
  exact List.take_of_length_le (by simp)

/-- what a call that takes a row off answers -/
def RowsIs (w : World) (r : Option (List Nat × Nat)) (e : Ending) (w' : World) : Prop :=
  (∃ acc p v, r = some (acc, p) ∧ e = .returned (.tuple #[v, .int .i64 (p : Int), .bool true]) ∧ w'.ownsRow w.heap.size 22 1 v acc.length (acc.map nv) ∧ Below w.heap.size w w') ∨
  (r = none ∧ e = .returned (.tuple #[.slice none 0 0, .int .i64 0, .bool false]) ∧ Below w.heap.size w w')

set_option maxHeartbeats 800000 in
set_option maxRecDepth 100000 in
theorem rows_any (s : ByteArray) (count : Int) (w : World) (hs : s.size ≤ 1000000) (hc0 : -9223372036854775808 ≤ count) (hc1 : count ≤ 9223372036854775807) :
    Calls Try.prog 22 #[.string s, .int .i64 count] w (RowsIs w (rws count.toNat s.data.toList [] 0)) := by
  obtain ⟨i0, hi, hz0, hz1, hz2⟩ := info_parts info_u64
  by_cases hbig : (s.size : Int) < count
  · have hn := rws_long count.toNat s.data.toList [] 0 (by simp; omega)
    have HN := Lib.hid hn
    clear hn
    go_enter Try.func22, Try.ntmps22
    go_wp2
    go_ret3
    exact Or.inr ⟨HN.out, rfl, Below.refl _ _⟩
  · go_enter Try.func22, Try.ntmps22
    go_wp2
    go_loopw [4, 5, 15] (fun v p i wr => ∃ (k q : Nat) (acc : List Nat), i = .int .i64 (k : Int) ∧ p = .int .i64 (q : Int) ∧ q ≤ s.size ∧ acc.length ≤ q ∧ (0 < k → (k : Int) ≤ count) ∧ rws (count.toNat - k) (s.data.toList.drop q) acc q = rws count.toNat s.data.toList [] 0 ∧ wr.ownsRow w.heap.size 22 1 v acc.length (acc.map nv) ∧ Below w.heap.size w wr) (fun _ _ i _ => (count - intOf i).toNat)
    case atStart => exact ⟨0, 0, [], rfl, rfl, by omega, by simp, by omega, rfl, World.ownsRow_nil _ _ _ _, Below.refl _ _⟩
    case round =>
      obtain ⟨k, q, acc, rfl, rfl, hq, hacc, hkc, heq, hown, hb⟩ := hrel
      have HE := Lib.hid heq
      have HKC := Lib.hid hkc
      have hs' := hb.size
      clear heq hkc
      by_cases hlt : (k : Int) < count
      · have hex := ext_drop s q
        have hes : (s.extract q s.size).size = s.size - q := by rw [ByteArray.size_extract]; omega
        have HX := Lib.hid hex
        have HS := Lib.hid hes
        clear hex hes
        go_wp2_with fail
        refine (get_any (s.extract q s.size) _ (by rw [HS.out]; unfold maxLen; omega)).mono ?_
        rintro e w' ⟨rfl, rfl⟩
        rw [HX.out]
        unfold gv
        have hkl := gk_le (s.data.toList.drop q)
        have hnl := gn_lt (s.data.toList.drop q)
        have hdl : (s.data.toList.drop q).length = s.size - q := by simp
        rw [hdl] at hkl
        clear hdl
        cases hg : gb (s.data.toList.drop q) with
        | true =>
          have HP := gk_pos hg
          have e1 : count.toNat - k = (count.toNat - (k + 1)) + 1 := by omega
          have h2 := HE.out
          rw [e1, rws_yes hg, List.drop_drop] at h2
          have HE2 := Lib.hid h2
          clear h2 e1 HE hg
          generalize gk (s.data.toList.drop q) = g at *
          generalize gn (s.data.toList.drop q) = n at *
          go_wp2_with (at_builtin; refine wpList_append_own _ rfl _ _ 37 rfl w.heap.size 22 i0 (.int .u64 0) 1 8 Try.underlying37 hi hz0 hz1 hz2 rfl (by decide) _ _ _ rfl (hown.alloc _) ⟨wr.heap.size, 0, none⟩ 1 1 [.int .u64 (n : Int)] rfl rfl ?c1 ?c2 ?c3 ?c4 ?c5 ?_)
          case c1 => exact cell_one_new _ _ _
          case c2 => intro u hu; simp at hu; subst hu; rfl
          case c3 => unfold maxLen; omega
          case c4 => omega
          case c5 => simp; omega
          intro v' w1 hown1 hgrow _
          have hb1 : Below w.heap.size w w1 := (hb.alloc (by omega) _).grown hgrow (by simp; omega) (fun j hj => (hown.lt j hj).1)
          have ho : w1.ownsRow w.heap.size 22 1 v' (acc ++ [n]).length ((acc ++ [n]).map nv) := by
            simpa [nv] using hown1
          clear hown hown1 hgrow hb hs'
          go_wp2
          go_roundw
          case rel => exact ⟨k + 1, q + g, _, by go_num, by go_num, by omega, by simp; omega, by omega, HE2.out, ho, hb1⟩
          case measure => simp [intOf]; omega
        | false =>
          have e1 : count.toNat - k = (count.toNat - (k + 1)) + 1 := by omega
          have h2 := HE.out
          rw [e1, rws_no hg] at h2
          have HE2 := Lib.hid h2
          clear h2 e1 HE hg
          generalize gk (s.data.toList.drop q) = g at *
          generalize gn (s.data.toList.drop q) = n at *
          go_wp2
          go_ret3
          exact Or.inr ⟨HE2.out.symm, rfl, hb⟩
      · have h2 := HE.out
        rw [show count.toNat - k = 0 by omega, rws] at h2
        have HE2 := Lib.hid h2
        clear h2 HE
        go_wp2
        go_ret3
        exact Or.inl ⟨acc, q, _, HE2.out.symm, rfl, hown, hb⟩

set_option maxHeartbeats 800000 in
set_option maxRecDepth 100000 in
theorem refRows_any (s : ByteArray) (count : Int) (w : World) (hs : s.size ≤ 1000000) (hc0 : -9223372036854775808 ≤ count) (hc1 : count ≤ 9223372036854775807) :
    Calls Try.prog 24 #[.string s, .int .i64 count] w (RowsIs w (rws count.toNat s.data.toList [] 0)) := by
  obtain ⟨i0, hi, hz0, hz1, hz2⟩ := info_parts info_u64
  go_enter Try.func24, Try.ntmps24
  go_wp2
  go_loopw [7, 8, 9] (fun v p i wr => ∃ (k q : Nat) (acc : List Nat), i = .int .i64 (k : Int) ∧ p = .int .i64 (q : Int) ∧ q ≤ s.size ∧ acc.length ≤ q ∧ k ≤ q ∧ (0 < k → (k : Int) ≤ count) ∧ rws (count.toNat - k) (s.data.toList.drop q) acc q = rws count.toNat s.data.toList [] 0 ∧ wr.ownsRow w.heap.size 22 1 v acc.length (acc.map nv) ∧ Below w.heap.size w wr) (fun _ _ i _ => (count - intOf i).toNat)
  case atStart => exact ⟨0, 0, [], rfl, rfl, by omega, by simp, by omega, by omega, rfl, World.ownsRow_nil _ _ _ _, Below.refl _ _⟩
  case round =>
    obtain ⟨k, q, acc, rfl, rfl, hq, hacc, hkq, hkc, heq, hown, hb⟩ := hrel
    have HE := Lib.hid heq
    have HKC := Lib.hid hkc
    have hs' := hb.size
    clear heq hkc
    by_cases hlt : (k : Int) < count
    · have hex := ext_drop s q
      have hes : (s.extract q s.size).size = s.size - q := by rw [ByteArray.size_extract]; omega
      have HX := Lib.hid hex
      have HS := Lib.hid hes
      clear hex hes
      go_wp2_with fail
      refine (refGet_any (s.extract q s.size) _ (by rw [HS.out]; unfold maxLen; omega)).mono ?_
      rintro e w' ⟨rfl, hbg⟩
      rw [HX.out]
      unfold gv
      have hkl := gk_le (s.data.toList.drop q)
      have hnl := gn_lt (s.data.toList.drop q)
      have hdl : (s.data.toList.drop q).length = s.size - q := by simp
      rw [hdl] at hkl
      clear hdl
      have hownq : w'.ownsRow w.heap.size 22 1 _ acc.length (acc.map nv) := hown.kept (row := none) ⟨hbg.os, hbg.tape, hbg.output, hbg.size, fun k hk _ => hbg.block k hk⟩ (by cases hv : Value.ownBlock _ <;> simp)
      have hbq : Below w.heap.size w w' := hb.trans (hbg.mono (by omega))
      have hsq := hbg.size
      clear hown hb hbg
      cases hg : gb (s.data.toList.drop q) with
      | true =>
        have HP := gk_pos hg
        have e1 : count.toNat - k = (count.toNat - (k + 1)) + 1 := by omega
        have h2 := HE.out
        rw [e1, rws_yes hg, List.drop_drop] at h2
        have HE2 := Lib.hid h2
        clear h2 e1 HE hg
        generalize gk (s.data.toList.drop q) = g at *
        generalize gn (s.data.toList.drop q) = n at *
        go_wp2_with (at_builtin; refine wpList_append_own _ rfl _ _ 37 rfl w.heap.size 22 i0 (.int .u64 0) 1 8 Try.underlying37 hi hz0 hz1 hz2 rfl (by decide) _ _ _ rfl (hownq.alloc _) ⟨w'.heap.size, 0, none⟩ 1 1 [.int .u64 (n : Int)] rfl rfl ?c1 ?c2 ?c3 ?c4 ?c5 ?_)
        case c1 => exact cell_one_new _ _ _
        case c2 => intro u hu; simp at hu; subst hu; rfl
        case c3 => unfold maxLen; omega
        case c4 => omega
        case c5 => simp; omega
        intro v' w1 hown1 hgrow _
        have hb1 : Below w.heap.size w w1 := (hbq.alloc (by omega) _).grown hgrow (by simp; omega) (fun j hj => (hownq.lt j hj).1)
        have ho : w1.ownsRow w.heap.size 22 1 v' (acc ++ [n]).length ((acc ++ [n]).map nv) := by
          simpa [nv] using hown1
        clear hownq hown1 hgrow hbq hs' hsq
        go_wp2
        go_roundw
        case rel => exact ⟨k + 1, q + g, _, by go_num, by go_num, by omega, by simp; omega, by omega, by omega, HE2.out, ho, hb1⟩
        case measure => simp [intOf]; omega
      | false =>
        have e1 : count.toNat - k = (count.toNat - (k + 1)) + 1 := by omega
        have h2 := HE.out
        rw [e1, rws_no hg] at h2
        have HE2 := Lib.hid h2
        clear h2 e1 HE hg
        generalize gk (s.data.toList.drop q) = g at *
        generalize gn (s.data.toList.drop q) = n at *
        go_wp2
        go_ret3
        exact Or.inr ⟨HE2.out.symm, rfl, hbq⟩
    · have h2 := HE.out
      rw [show count.toNat - k = 0 by omega, rws] at h2
      have HE2 := Lib.hid h2
      clear h2 HE
      go_wp2
      go_ret3
      exact Or.inl ⟨acc, q, _, HE2.out.symm, rfl, hown, hb⟩
end Go.Proofs.Ytefhccegnjhhnaa
