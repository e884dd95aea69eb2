/- The document's own readings of layer 4 over this translation: each is the plain functions'. Condition: texts of at most a million bytes. -/
import Derived.Test.YtiflieaemgamkaaGreatDoorSp
import Derived.Test.YtiflieaemgamkaaGreatDoorVrget
import Derived.Handy
import Derived.Outline
import Derived.Deep.RegionWith
import Derived.RegionTactic
import Derived.Deep.QuietTactic
import Derived.BigQuiet
import Derived.Deep.RegionHeld3
namespace Go.Proofs.YtiflieaemgamkaaGreatDoor
open Go.RowKit Vi

/-- a Scan of the document's, by value -/
def sv (S : ByteArray) (q : Nat) (er : Int) : Value := .agg #[.string S, .int .i64 (q : Int), .int .i64 er]
theorem ret_pair {a b c d : Value} (h1 : a = c) (h2 : b = d) : Ending.returned (.tuple #[a, b]) = .returned (.tuple #[c, d]) := by rw [h1, h2]
theorem qcell {W w1 : World} (hb : Below W.heap.size W w1) : (∀ b o, b < W.heap.size → w1.cell? ⟨b, o, none⟩ = W.cell? ⟨b, o, none⟩) ∧ (∀ b o, b < W.heap.size → w1.frozen? ⟨b, o, none⟩ = W.frozen? ⟨b, o, none⟩) :=
  ⟨fun b o h => hb.cell (p := ⟨b, o, none⟩) h, fun b o h => hb.frozen (p := ⟨b, o, none⟩) h⟩

theorem box_at {w0 w1 : World} {cs : Array Value} {t : TypeId} (hb : Below (w0.alloc (.cells cs t)).heap.size (w0.alloc (.cells cs t)) w1) {n : Nat} (hn : w0.heap.size = n) (k : Nat) {v : Value} (hk : cs[k]? = some v) : w1.cell? ⟨n, k, none⟩ = some v := by
  subst hn
  rw [hb.cell (p := ⟨w0.heap.size, k, none⟩) (by simp)]
  have e := (MapKept.heap_alloc w0 (.cells cs t)).1
  simp only [World.cell?, e]
  exact hk
theorem box_free {w0 w1 : World} {cs : Array Value} {t : TypeId} (hb : Below (w0.alloc (.cells cs t)).heap.size (w0.alloc (.cells cs t)) w1) {n : Nat} (hn : w0.heap.size = n) (k : Nat) : w1.frozen? ⟨n, k, none⟩ = false := by
  subst hn
  rw [hb.frozen (p := ⟨w0.heap.size, k, none⟩) (by simp)]
  have e := (MapKept.heap_alloc w0 (.cells cs t)).1
  simp only [World.frozen?, e]
  simp
/-- the same of the block ahead of it -/
theorem box_at2 {w0 w1 : World} {cs ds : Array Value} {t u : TypeId} (hb : Below ((w0.alloc (.cells cs t)).alloc (.cells ds u)).heap.size ((w0.alloc (.cells cs t)).alloc (.cells ds u)) w1) (k : Nat) {v : Value} (hk : cs[k]? = some v) : w1.cell? ⟨w0.heap.size, k, none⟩ = some v :=
  box_at (((Below.refl _ (w0.alloc (.cells cs t))).alloc (Nat.le_refl _) (.cells ds u)).trans (hb.mono (by simp))) rfl k hk
theorem box_free2 {w0 w1 : World} {cs ds : Array Value} {t u : TypeId} (hb : Below ((w0.alloc (.cells cs t)).alloc (.cells ds u)).heap.size ((w0.alloc (.cells cs t)).alloc (.cells ds u)) w1) (k : Nat) : w1.frozen? ⟨w0.heap.size, k, none⟩ = false :=
  box_free (((Below.refl _ (w0.alloc (.cells cs t))).alloc (Nat.le_refl _) (.cells ds u)).trans (hb.mono (by simp))) rfl k
theorem addr_ne (b i j : Nat) (h : i ≠ j) : (⟨b, i, none⟩ : Addr) ≠ ⟨b, j, none⟩ := fun e => h (by cases e; rfl)
theorem read3 {w : World} {b : Nat} {x y z : Value} (d0 : w.cell? ⟨b, 0, none⟩ = some x) (d1 : w.cell? ⟨b, 1, none⟩ = some y) (d2 : w.cell? ⟨b, 2, none⟩ = some z) (x' y' z' : Value) :
    (w.setCell ⟨b, 0, none⟩ x').cell? ⟨b, 0, none⟩ = some x' ∧ ((w.setCell ⟨b, 0, none⟩ x').setCell ⟨b, 1, none⟩ y').cell? ⟨b, 1, none⟩ = some y' ∧
    (((w.setCell ⟨b, 0, none⟩ x').setCell ⟨b, 1, none⟩ y').setCell ⟨b, 2, none⟩ z').cell? ⟨b, 2, none⟩ = some z' := by
  refine ⟨World.cell?_setCell_same _ _ _ d0, World.cell?_setCell_same _ _ _ (u := y) ?_, World.cell?_setCell_same _ _ _ (u := z) ?_⟩
  · rw [World.cell?_setCell_other _ _ _ _ (addr_ne _ _ _ (by decide))]; exact d1
  · rw [World.cell?_setCell_other _ _ _ _ (addr_ne _ _ _ (by decide)), World.cell?_setCell_other _ _ _ _ (addr_ne _ _ _ (by decide))]; exact d2
theorem size_two {w w1 : World} {a b : Obj} (hb : Below ((w.alloc a).alloc b).heap.size ((w.alloc a).alloc b) w1) : w.heap.size + 1 + 1 ≤ w1.heap.size := by
  have := hb.size; simpa using this
theorem below_two {w w1 : World} {a b : Obj} (hb : Below ((w.alloc a).alloc b).heap.size ((w.alloc a).alloc b) w1) : Below w.heap.size w w1 :=
  (((Below.refl _ w).alloc (Nat.le_refl _) a).alloc (by simp) b).trans (hb.mono (by simp; omega))

set_option maxHeartbeats 800000 in
set_option maxRecDepth 100000 in
theorem rfix_any (S : ByteArray) (q : Nat) (er n : Int) (w : World) (hS : S.size ≤ 1000000) (hq : q ≤ S.size) (hn0 : -9223372036854775808 ≤ n) (hn1 : n ≤ 9223372036854775807) :
    Calls Tryz.prog 196 #[.agg #[.string S, .int .i64 (q : Int), .int .i64 er], .int .i64 n] w fun e w' => e = .returned (.tuple #[sv S (Rd.fix S q er n).2.1 (Rd.fix S q er n).2.2, .string (Rd.fix S q er n).1]) ∧ Below w.heap.size w w' := by
  by_cases he : er = 0
  · subst he
    by_cases hn : n < 0
    · have HH := Lib.hid (show Rd.fix S q 0 n = (⟨#[]⟩, q, 3) by unfold Rd.fix; rw [if_neg (by simp), if_pos (Or.inl hn)])
      go_enter Tryz.func196, Tryz.ntmps196
      go_wp2
      go_returns
      exact ⟨by rw [HH.out]; rfl, by go_grown⟩
    · by_cases hn2 : (S.size : Int) - q < n
      · have HH := Lib.hid (show Rd.fix S q 0 n = (⟨#[]⟩, q, 3) by unfold Rd.fix; rw [if_neg (by simp), if_pos (Or.inr hn2)])
        go_enter Tryz.func196, Tryz.ntmps196
        go_wp2
        go_returns
        exact ⟨by rw [HH.out]; rfl, by go_grown⟩
      · obtain ⟨m, rfl⟩ := Int.eq_ofNat_of_zero_le (show 0 ≤ n by omega)
        have hm : m ≤ S.size - q := by omega
        have hd : decide ((S.size : Int) - q < (m : Int)) = false := by simp; omega
        have HH := Lib.hid (show Rd.fix S q 0 (m : Int) = ((S.extract q S.size).extract 0 m, q + m, 0) by unfold Rd.fix; rw [if_neg (by simp), if_neg (by omega)]; simp)
        have HX := Lib.hid (show S.extract q (q + m) = (S.extract q S.size).extract 0 m by rw [ByteArray.extract_extract, Nat.add_zero, Nat.min_eq_left (by omega)])
        clear hn hn2
        go_enter Tryz.func196, Tryz.ntmps196
        go_wp2
        go_returns
        exact ⟨ret_pair (by rw [HH.out]; rfl) (by rw [HH.out, ← HX.out]), by go_grown⟩
  · have he' : (er != 0) = true := by simpa using he
    have HH := Lib.hid (show Rd.fix S q er n = (⟨#[]⟩, q, er) by unfold Rd.fix; rw [if_pos he])
    go_enter Tryz.func196, Tryz.ntmps196
    go_wp2
    go_returns
    exact ⟨by rw [HH.out]; rfl, by go_grown⟩

set_option maxHeartbeats 800000 in
set_option maxRecDepth 100000 in
theorem rFix_any (S : ByteArray) (q : Nat) (er n : Int) (w : World) (hS : S.size ≤ 1000000) (hq : q ≤ S.size) (hn0 : -9223372036854775808 ≤ n) (hn1 : n ≤ 9223372036854775807) :
    Calls Tryz.prog 187 #[.agg #[.string S, .int .i64 (q : Int), .int .i64 er], .int .i64 n] w fun e w' => e = .returned (.tuple #[sv S (Rd.fix S q er n).2.1 (Rd.fix S q er n).2.2, .string (Rd.fix S q er n).1]) ∧ Below w.heap.size w w' := by
  go_enter Tryz.func187, Tryz.ntmps187
  go_wp2_with fail
  refine (rfix_any S q er n _ hS hq hn0 hn1).mono ?_
  rintro e w1 ⟨rfl, hb1⟩
  have d0 := box_at hb1 (n := w.heap.size + 1) (by simp) 0 rfl
  have d1 := box_at hb1 (n := w.heap.size + 1) (by simp) 1 rfl
  have d2 := box_at hb1 (n := w.heap.size + 1) (by simp) 2 rfl
  have z0 := box_free hb1 (n := w.heap.size + 1) (by simp) 0
  have z1 := box_free hb1 (n := w.heap.size + 1) (by simp) 1
  have z2 := box_free hb1 (n := w.heap.size + 1) (by simp) 2
  have hsz := size_two hb1
  have hbb := below_two hb1
  obtain ⟨r0, r1, r2⟩ := read3 d0 d1 d2 (.string S) (.int .i64 ((Rd.fix S q er n).2.1 : Int)) (.int .i64 (Rd.fix S q er n).2.2)
  clear hb1
  unfold sv
  go_wp2
  refine bodyPost_ret (v := .tuple #[sv S (Rd.fix S q er n).2.1 (Rd.fix S q er n).2.2, .string (Rd.fix S q er n).1]) (by simp [sv, results, Tryz.results187, go_sem, r0, r1, r2]) rfl ⟨rfl, by go_grown⟩

theorem far_cell {w : World} {b c i j : Nat} {x v : Value} (h : w.cell? ⟨c, j, none⟩ = some v) (hne : b ≠ c) : (w.setCell ⟨b, i, none⟩ x).cell? ⟨c, j, none⟩ = some v := by
  rw [World.cell?_setCell_other _ _ _ _ (fun e => hne (by cases e; rfl))]; exact h
theorem far_free {w : World} {b c i j : Nat} {x : Value} (h : w.frozen? ⟨c, j, none⟩ = false) : (w.setCell ⟨b, i, none⟩ x).frozen? ⟨c, j, none⟩ = false := by
  rw [World.frozen?_setCell]; exact h
theorem set_same {w : World} {b i : Nat} {x v : Value} (h : w.cell? ⟨b, i, none⟩ = some v) : (w.setCell ⟨b, i, none⟩ x).cell? ⟨b, i, none⟩ = some x := World.cell?_setCell_same _ _ _ h

set_option maxHeartbeats 1600000 in
set_option maxRecDepth 100000 in
theorem rNum_any (S : ByteArray) (q : Nat) (er n : Int) (w : World) (hS : S.size ≤ 1000000) (hq : q ≤ S.size) (hn0 : -9223372036854775808 ≤ n) (hn1 : n ≤ 9223372036854775807) :
    Calls Tryz.prog 145 #[.agg #[.string S, .int .i64 (q : Int), .int .i64 er], .int .i64 n] w fun e w' => e = .returned (.tuple #[sv S (Rd.num S q er n).2.1 (Rd.num S q er n).2.2, .int .i64 (Rd.num S q er n).1]) ∧ Below w.heap.size w w' := by
  by_cases he : er = 0
  rotate_left
  · have he' : (er != 0) = true := by simpa using he
    have HH := Lib.hid (show Rd.num S q er n = (0, q, er) by unfold Rd.num; rw [if_pos he])
    go_enter Tryz.func145, Tryz.ntmps145
    go_wp2
    go_returns
    exact ⟨by rw [HH.out]; rfl, by go_grown⟩
  subst he
  have hex : (S.extract q S.size).data.toList = S.data.toList.drop q := by
    rw [ByteArray.data_extract, Array.toList_extract]
    simp only [List.extract]
    exact List.take_of_length_le (by simp)
  have hxs : (S.extract q S.size).size ≤ maxLen := by rw [ByteArray.size_extract]; unfold maxLen; omega
  have HX := Lib.hid hex
  have HXS := Lib.hid hxs
  have hgl := gn_lt (S.data.toList.drop q)
  have hgk := gk_le (S.data.toList.drop q)
  rw [Rd.drop_len] at hgk
  clear hex hxs
  go_enter Tryz.func145, Tryz.ntmps145
  go_wp2_with fail
  refine (refGet_any (S.extract q S.size) _ HXS.out).mono ?_
  rintro e w1 ⟨rfl, hb1⟩
  rw [HX.out]
  unfold gv
  have p0 := box_at2 hb1 0 rfl
  have p1 := box_at2 hb1 1 rfl
  have p2 := box_at2 hb1 2 rfl
  have y0 := box_free2 hb1 0
  have y1 := box_free2 hb1 1
  have y2 := box_free2 hb1 2
  have d0 := box_at hb1 (n := w.heap.size + 1) (by simp) 0 rfl
  have d1 := box_at hb1 (n := w.heap.size + 1) (by simp) 1 rfl
  have d2 := box_at hb1 (n := w.heap.size + 1) (by simp) 2 rfl
  have z0 := box_free hb1 (n := w.heap.size + 1) (by simp) 0
  have z1 := box_free hb1 (n := w.heap.size + 1) (by simp) 1
  have z2 := box_free hb1 (n := w.heap.size + 1) (by simp) 2
  have hsz := size_two hb1
  have hbb := below_two hb1
  have hnn : ¬ w.heap.size = w.heap.size + 1 := by omega
  clear hb1
  cases hg : gb (S.data.toList.drop q) with
  | false =>
    have HH := Lib.hid (show Rd.num S q 0 n = (0, q, 3) by unfold Rd.num; rw [if_neg (by simp), if_pos hg])
    have s2 := set_same (x := .int .i64 3) p2
    have e0 := far_cell (b := w.heap.size) (i := 2) (x := .int .i64 3) d0 (by omega)
    have e1 := far_cell (b := w.heap.size) (i := 2) (x := .int .i64 3) d1 (by omega)
    have e2 := far_cell (b := w.heap.size) (i := 2) (x := .int .i64 3) d2 (by omega)
    obtain ⟨r0, r1, r2⟩ := read3 e0 e1 e2 (.string S) (.int .i64 (q : Int)) (.int .i64 3)
    generalize gn (S.data.toList.drop q) = x1 at *
    generalize gk (S.data.toList.drop q) = x2 at *
    clear hg d0 d1 d2
    go_wp2
    rw [HH.out]
    refine bodyPost_ret (v := .tuple #[sv S q 3, .int .i64 0]) (by simp [sv, results, Tryz.results145, go_sem, r0, r1, r2]) rfl ⟨rfl, by go_grown⟩
  | true =>
    by_cases hm : n < 0 ∨ n < gn (S.data.toList.drop q)
    · have HH := Lib.hid (show Rd.num S q 0 n = (0, q, 5) by unfold Rd.num; rw [if_neg (by simp), if_neg (by rw [hg]; simp), if_pos hm])
      have s2 := set_same (x := .int .i64 5) p2
      have e0 := far_cell (b := w.heap.size) (i := 2) (x := .int .i64 5) d0 (by omega)
      have e1 := far_cell (b := w.heap.size) (i := 2) (x := .int .i64 5) d1 (by omega)
      have e2 := far_cell (b := w.heap.size) (i := 2) (x := .int .i64 5) d2 (by omega)
      obtain ⟨r0, r1, r2⟩ := read3 e0 e1 e2 (.string S) (.int .i64 (q : Int)) (.int .i64 5)
      by_cases hn : n < 0
      · clear hm
        generalize gn (S.data.toList.drop q) = x1 at *
        generalize gk (S.data.toList.drop q) = x2 at *
        clear hg d0 d1 d2
        go_wp2
        rw [HH.out]
        refine bodyPost_ret (v := .tuple #[sv S q 5, .int .i64 0]) (by simp [sv, results, Tryz.results145, go_sem, r0, r1, r2]) rfl ⟨rfl, by go_grown⟩
      · obtain ⟨m, rfl⟩ := Int.eq_ofNat_of_zero_le (show 0 ≤ n by omega)
        have hm2 : (m : Int) < gn (S.data.toList.drop q) := by omega
        clear hm
        generalize gn (S.data.toList.drop q) = x1 at *
        generalize gk (S.data.toList.drop q) = x2 at *
        clear hg d0 d1 d2
        go_wp2
        rw [HH.out]
        refine bodyPost_ret (v := .tuple #[sv S q 5, .int .i64 0]) (by simp [sv, results, Tryz.results145, go_sem, r0, r1, r2]) rfl ⟨rfl, by go_grown⟩
    · have HH := Lib.hid (show Rd.num S q 0 n = ((gn (S.data.toList.drop q) : Int), q + gk (S.data.toList.drop q), 0) by unfold Rd.num; rw [if_neg (by simp), if_neg (by rw [hg]; simp), if_neg hm])
      obtain ⟨m, rfl⟩ := Int.eq_ofNat_of_zero_le (show 0 ≤ n by omega)
      have hm2 : (gn (S.data.toList.drop q) : Int) ≤ m := by omega
      clear hm
      generalize gn (S.data.toList.drop q) = x1 at *
      generalize gk (S.data.toList.drop q) = x2 at *
      have s1 := set_same (x := .int .i64 ((q : Int) + (x2 : Int))) p1
      have e0 := far_cell (b := w.heap.size) (i := 1) (x := .int .i64 ((q : Int) + (x2 : Int))) d0 (by omega)
      have e1 := far_cell (b := w.heap.size) (i := 1) (x := .int .i64 ((q : Int) + (x2 : Int))) d1 (by omega)
      have e2 := far_cell (b := w.heap.size) (i := 1) (x := .int .i64 ((q : Int) + (x2 : Int))) d2 (by omega)
      obtain ⟨r0, r1, r2⟩ := read3 e0 e1 e2 (.string S) (.int .i64 ((q : Int) + (x2 : Int))) (.int .i64 0)
      clear hg d0 d1 d2
      go_wp2
      rw [HH.out]
      refine bodyPost_ret (v := .tuple #[sv S (q + x2) 0, .int .i64 (x1 : Int)]) (by simp [sv, results, Tryz.results145, go_sem, r0, r1, r2]) rfl ⟨rfl, by go_grown⟩



theorem rest_fix (S : ByteArray) (q : Nat) (er : Int) (hq : q ≤ S.size) : Rd.fix S q er ((S.size : Int) - q) = Rd.rest S q er := by
  unfold Rd.fix Rd.rest
  by_cases he : er = 0
  · subst he
    rw [if_neg (by simp), if_neg (by omega), if_neg (by simp)]
    have e1 : ((S.size : Int) - q).toNat = S.size - q := by omega
    rw [e1, ByteArray.extract_extract, Nat.add_zero, Nat.min_eq_left (by omega), show q + (S.size - q) = S.size by omega]
  · rw [if_pos he, if_pos he]

end Go.Proofs.YtiflieaemgamkaaGreatDoor
