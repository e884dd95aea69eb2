/- The contracts of the document's own Read of layer 14, of frame.Whole and All, and of the statements' Texts over this translation. Conditions: bytes of at most eighty thousand; the table of crc. -/
import Derived.Test.YtjmfmbokphagaaaDoorGb
import Derived.Test.YtjmfmbokphagaaaDoorO
import Derived.Laws.ResultCell
namespace Go.Proofs.YtjmfmbokphagaaaDoor
open Go.RowKit Vi Cm

theorem results_ct {fn : Func} {p t : Tmp} {ty : TypeId} (h : fn.results = #[.cell p ty, .tmp t]) (tmps : Array Value) (w : World) (g : Nat) (cs : Array Value)
    (hp : tmps.getD p undef = .pointer (some ⟨g, 0, none⟩)) (hr : (loadVar ty ⟨g, 0, none⟩).run Tryd.prog w = .ok (.agg cs) w) :
    (results fn tmps).run Tryd.prog w = .ok (.tuple #[.agg cs, tmps.getD t undef]) w := by
  have hp' : tmps[p]?.getD undef = .pointer (some ⟨g, 0, none⟩) := by simpa using hp
  simp [results, h, hp', asAddr, hr]
theorem two_at (w : World) (o p : Obj) : ((w.alloc o).alloc p).heap[w.heap.size]? = some o ∧ ((w.alloc o).alloc p).heap[w.heap.size + 1]? = some p := by
  constructor
  · show ((w.heap.push o).push p)[w.heap.size]? = _
    rw [Array.getElem?_push]
    simp
  · show ((w.heap.push o).push p)[w.heap.size + 1]? = _
    rw [Array.getElem?_push]
    simp
theorem info_scan (a b c : Value) : (Tryd.prog.info? 55).map (·.size) = some (#[a, b, c] : Array Value).size := by kernel_rfl
theorem one3 (S : ByteArray) (x y : Int) : (#[.string S, .int .i64 x, .int .i64 y] : Array Value).all (·.oneCell') = true := by simp [Value.oneCell']
/-- the blocks of the parameter and of the answer -/
structure Two (w W : World) (S : ByteArray) (q1 : Nat) (e1 : Int) (rs : Array Value) : Prop where
  par : W.heap[w.heap.size]? = some (.cells #[.string S, .int .i64 (q1 : Int), .int .i64 e1] 55 (0, 0))
  res : W.heap[w.heap.size + 1]? = some (.cells rs 55 (0, 0))
  siz : rs.size = 3
  old : Below w.heap.size w W
  big : w.heap.size + 2 ≤ W.heap.size
theorem Two.later {w W W' : World} {S : ByteArray} {q1 : Nat} {e1 : Int} {rs : Array Value} (h : Two w W S q1 e1 rs) (hb : Below W.heap.size W W') : Two w W' S q1 e1 rs := by
  have hg := h.big
  exact ⟨(hb.block _ (by omega)).trans h.par, (hb.block _ (by omega)).trans h.res, h.siz, h.old.trans (hb.mono (by omega)), Nat.le_trans hg hb.size⟩
set_option maxHeartbeats 2000000 in
set_option maxRecDepth 100000 in
theorem rread_any (S : ByteArray) (q : Nat) (er : Int) (w : World) (hS : S.size ≤ 80000) (hq : q ≤ S.size) :
    Calls Tryd.prog 36 #[.agg #[.string S, .int .i64 (q : Int), .int .i64 er]] w fun e w' => e = .returned (.tuple #[sv S (fr S q er).2.1 (fr S q er).2.2, .string (fr S q er).1]) ∧ Below w.heap.size w w' := by
  obtain ⟨t, q1, e1, hR⟩ : ∃ t q1 e1, Rd.text S q er 65540 = (t, q1, e1) := ⟨_, _, _, rfl⟩
  have hts := rdtext_size S q er _ t q1 e1 hR
  have HX := Lib.hid (show ∀ W : World, _ from fun W => rText_any S q er 65540 W (by omega) hq (by omega) (by omega))
  rw [hR] at HX
  dsimp only at HX
  obtain ⟨X0, q2, e2, hF0⟩ : ∃ X0 q2 e2, fr S q er = (X0, q2, e2) := ⟨_, _, _, rfl⟩
  rw [hF0]
  dsimp only
  have HF0 := Lib.hid hF0
  have HR := Lib.hid hR
  have HTS := Lib.hid hts
  have HSS := Lib.hid hS
  clear hR hts hF0
  obtain ⟨W0, hW0⟩ : ∃ W0, W0 = (w.alloc (.cells #[.string S, .int .i64 (q : Int), .int .i64 er] 55)).alloc (.cells #[.string ⟨#[]⟩, .int .i64 0, .int .i64 0] 55) := ⟨_, rfl⟩
  have H0 := Lib.hid (show Two w W0 S q er #[.string ⟨#[]⟩, .int .i64 0, .int .i64 0] by
    rw [hW0]
    exact ⟨(two_at w _ _).1, (two_at w _ _).2, rfl, ((Below.refl _ w).alloc (Nat.le_refl _) _).alloc (by simp) _, by simp⟩)
  have HW0 := Lib.hid hW0
  clear hW0
  go_enter Tryd.func36, Tryd.ntmps36
  go_wp2_with (refine wpList_load_row rfl 55 (.tmp 1) rfl w.heap.size rfl 55 #[.string S, .int .i64 (q : Int), .int .i64 er] (0, 0) _ (by have h := H0.out.par; rw [HW0.out] at h; exact h) Tryd.underlying55 rfl (info_scan _ _ _) ?_)
  rw [← HW0.out]
  refine (HX.out W0).mono ?_
  rintro e W1 ⟨rfl, hb⟩
  have H1 := Lib.hid (H0.out.later hb)
  clear hb H0 HW0 HX
  unfold sv
  go_wp2_with (refine wpList_store_rowM rfl 55 (.tmp 1) (.tmp 10) rfl w.heap.size #[.string S, .int .i64 (q1 : Int), .int .i64 e1] rfl rfl 55 _ H1.out.par (info_scan _ _ _) rfl (one3 _ _ _) w.heap.size w H1.out.old (Nat.le_refl _) ?_)
  intro W2 hb1 ho1 hbel hz
  have H2 := Lib.hid (show Two w W2 S q1 e1 #[.string ⟨#[]⟩, .int .i64 0, .int .i64 0] from ⟨hb1.out, (ho1.out _ (by omega)).trans H1.out.res, rfl, hbel.out, by rw [hz.out]; exact H1.out.big⟩)
  clear hb1 ho1 hbel hz H1
  have c2 : W2.cell? ⟨w.heap.size, 2, none⟩ = some (.int .i64 e1) := by rw [cell_of_row _ _ _ _ _ _ H2.out.par]; rfl
  have f2 : W2.frozen? ⟨w.heap.size, 2, none⟩ = false := frozen_of_row _ _ _ _ _ H2.out.par
  by_cases he : e1 = 0
  · subst he
    have hlt : w.heap.size < W2.heap.size := by have := H2.out.big; omega
    by_cases hs : sealed t = true
    · obtain ⟨X, hX⟩ : ∃ X : ByteArray, X = t.extract 0 (t.size - 4) := ⟨_, rfl⟩
      have HO := Lib.hid (opened_yes t hs)
      rw [← hX] at HO
      by_cases hg : 4 < t.size
      · have hy := HF0.out.symm.trans (fr_good S q er t q1 0 HR.out ⟨hs, hg⟩)
        rw [← hX] at hy
        have hXz : X.size ≠ 0 := by rw [hX, ByteArray.size_extract]; omega
        have hne := ne_list X hXz
        have hne2 : ¬ X.toList = [] := fun e => hXz ((size_list X).1 e)
        simp only [Prod.mk.injEq] at hy
        obtain ⟨u1, u2, u3⟩ := hy
        have u1 := u1.symm
        have u2 := u2.symm
        have u3 := u3.symm
        subst u1
        subst u2
        subst u3
        clear hX hXz hs hg HR HF0
        go_wp2_with fail
        refine (refOpen_any t W2 (by have h1 := HTS.out; have h2 := HSS.out; omega)).mono ?_
        rintro e W3 ⟨rfl, hb⟩
        have H3 := Lib.hid (H2.out.later hb)
        rw [HO.out]
        clear hb
        go_wp2_with (first
          | refine wpList_load_row rfl 55 (.tmp 1) rfl w.heap.size rfl 55 #[.string S, .int .i64 (q1 : Int), .int .i64 0] (0, 0) _ H3.out.par Tryd.underlying55 rfl (info_scan _ _ _) ?_
          | refine wpList_store_rowM rfl 55 (.tmp 2) (.tmp 29) rfl (w.heap.size + 1) #[.string S, .int .i64 (q1 : Int), .int .i64 0] rfl rfl 55 _ H3.out.res (info_scan _ _ _) rfl (one3 _ _ _) w.heap.size w H3.out.old (by omega) ?_)
        intro W4 hb1 ho1 hbel hz
        go_wp2_with fail
        refine bodyPost_ret (results_ct rfl _ _ (w.heap.size + 1) #[.string S, .int .i64 (q1 : Int), .int .i64 0] rfl (run_loadVar_row _ (w.heap.size + 1) 55 55 _ (0, 0) _ hb1.out Tryd.underlying55 rfl (info_scan _ _ _))) rfl ?_
        exact ⟨rfl, hbel.out⟩
      · have hy := HF0.out.symm.trans (fr_bad S q er t q1 0 HR.out (fun h => hg h.2))
        rw [show Rd.fail 0 3 = 3 by rfl] at hy
        simp only [Prod.mk.injEq] at hy
        obtain ⟨u1, u2, u3⟩ := hy
        have u1 := u1.symm
        have u2 := u2.symm
        have u3 := u3.symm
        subst u1
        subst u2
        subst u3
        clear HF0
        have hXz : X.size = 0 := by rw [hX, ByteArray.size_extract]; omega
        rw [str_empty X hXz] at HO
        clear hX hXz hs hg HR
        go_wp2_with fail
        refine (refOpen_any t W2 (by have h1 := HTS.out; have h2 := HSS.out; omega)).mono ?_
        rintro e W3 ⟨rfl, hb⟩
        have H3 := Lib.hid (H2.out.later hb)
        have c3 : W3.cell? ⟨w.heap.size, 2, none⟩ = some (.int .i64 0) := by rw [cell_of_row _ _ _ _ _ _ H3.out.par]; rfl
        have f3 : W3.frozen? ⟨w.heap.size, 2, none⟩ = false := frozen_of_row _ _ _ _ _ H3.out.par
        rw [HO.out]
        clear hb
        have HP := Lib.hid (show (W3.setCell ⟨w.heap.size, 2, none⟩ (.int .i64 3)).heap[w.heap.size]? = some (.cells #[.string S, .int .i64 (q1 : Int), .int .i64 3] 55 (0, 0)) by rw [heap_setCell_same _ _ _ _ _ _ H3.out.par]; rfl)
        have HQ := Lib.hid (show (W3.setCell ⟨w.heap.size, 2, none⟩ (.int .i64 3)).heap[w.heap.size + 1]? = some (.cells #[.string ⟨#[]⟩, .int .i64 0, .int .i64 0] 55 (0, 0)) by rw [Below.heap_setCell _ _ _ _ (by simp)]; exact H3.out.res)
        have HBB := Lib.hid (H3.out.old.setCell (p := ⟨w.heap.size, 2, none⟩) (Nat.le_refl _) (.int .i64 3))
        go_wp2_with (first
          | refine wpList_load_row rfl 55 (.tmp 1) rfl w.heap.size rfl 55 #[.string S, .int .i64 (q1 : Int), .int .i64 3] (0, 0) _ HP.out Tryd.underlying55 rfl (info_scan _ _ _) ?_
          | refine wpList_store_rowM rfl 55 (.tmp 2) (.tmp 28) rfl (w.heap.size + 1) #[.string S, .int .i64 (q1 : Int), .int .i64 3] rfl rfl 55 _ HQ.out (info_scan _ _ _) rfl (one3 _ _ _) w.heap.size w HBB.out (by omega) ?_)
        intro W4 hb1 ho1 hbel hz
        go_wp2_with fail
        refine bodyPost_ret (results_ct rfl _ _ (w.heap.size + 1) #[.string S, .int .i64 (q1 : Int), .int .i64 3] rfl (run_loadVar_row _ (w.heap.size + 1) 55 55 _ (0, 0) _ hb1.out Tryd.underlying55 rfl (info_scan _ _ _))) rfl ?_
        exact ⟨rfl, hbel.out⟩
    · have hy := HF0.out.symm.trans (fr_bad S q er t q1 0 HR.out (fun h => hs h.1))
      rw [show Rd.fail 0 3 = 3 by rfl] at hy
      simp only [Prod.mk.injEq] at hy
      obtain ⟨u1, u2, u3⟩ := hy
      have u1 := u1.symm
      have u2 := u2.symm
      have u3 := u3.symm
      subst u1
      subst u2
      subst u3
      clear HF0
      have HO := Lib.hid (opened_no t (by simpa using hs))
      clear hs HR
      go_wp2_with fail
      refine (refOpen_any t W2 (by have h1 := HTS.out; have h2 := HSS.out; omega)).mono ?_
      rintro e W3 ⟨rfl, hb⟩
      have H3 := Lib.hid (H2.out.later hb)
      have c3 : W3.cell? ⟨w.heap.size, 2, none⟩ = some (.int .i64 0) := by rw [cell_of_row _ _ _ _ _ _ H3.out.par]; rfl
      have f3 : W3.frozen? ⟨w.heap.size, 2, none⟩ = false := frozen_of_row _ _ _ _ _ H3.out.par
      rw [HO.out]
      clear hb
      have HP := Lib.hid (show (W3.setCell ⟨w.heap.size, 2, none⟩ (.int .i64 3)).heap[w.heap.size]? = some (.cells #[.string S, .int .i64 (q1 : Int), .int .i64 3] 55 (0, 0)) by rw [heap_setCell_same _ _ _ _ _ _ H3.out.par]; rfl)
      have HQ := Lib.hid (show (W3.setCell ⟨w.heap.size, 2, none⟩ (.int .i64 3)).heap[w.heap.size + 1]? = some (.cells #[.string ⟨#[]⟩, .int .i64 0, .int .i64 0] 55 (0, 0)) by rw [Below.heap_setCell _ _ _ _ (by simp)]; exact H3.out.res)
      have HBB := Lib.hid (H3.out.old.setCell (p := ⟨w.heap.size, 2, none⟩) (Nat.le_refl _) (.int .i64 3))
      go_wp2_with (first
        | refine wpList_load_row rfl 55 (.tmp 1) rfl w.heap.size rfl 55 #[.string S, .int .i64 (q1 : Int), .int .i64 3] (0, 0) _ HP.out Tryd.underlying55 rfl (info_scan _ _ _) ?_
        | refine wpList_store_rowM rfl 55 (.tmp 2) (.tmp 28) rfl (w.heap.size + 1) #[.string S, .int .i64 (q1 : Int), .int .i64 3] rfl rfl 55 _ HQ.out (info_scan _ _ _) rfl (one3 _ _ _) w.heap.size w HBB.out (by omega) ?_)
      intro W4 hb1 ho1 hbel hz
      go_wp2_with fail
      refine bodyPost_ret (results_ct rfl _ _ (w.heap.size + 1) #[.string S, .int .i64 (q1 : Int), .int .i64 3] rfl (run_loadVar_row _ (w.heap.size + 1) 55 55 _ (0, 0) _ hb1.out Tryd.underlying55 rfl (info_scan _ _ _))) rfl ?_
      exact ⟨rfl, hbel.out⟩
  · have hd : (e1 != 0) = true := by simpa using he
    have hte := rdtext_err S q er 65540 t q1 e1 HR.out he
    have hy := HF0.out.symm.trans (fr_bad S q er t q1 e1 HR.out (fun h => by rw [hte] at h; exact absurd h.2 (by decide)))
    rw [show Rd.fail e1 3 = e1 by unfold Rd.fail; rw [if_pos he]] at hy
    simp only [Prod.mk.injEq] at hy
    obtain ⟨u1, u2, u3⟩ := hy
    have u1 := u1.symm
    have u2 := u2.symm
    have u3 := u3.symm
    subst u1
    subst u2
    subst u3
    clear HF0
    clear hte he HR
    go_wp2_with (first
      | refine wpList_load_row rfl 55 (.tmp 1) rfl w.heap.size rfl 55 #[.string S, .int .i64 (q1 : Int), .int .i64 e1] (0, 0) _ H2.out.par Tryd.underlying55 rfl (info_scan _ _ _) ?_
      | refine wpList_store_rowM rfl 55 (.tmp 2) (.tmp 15) rfl (w.heap.size + 1) #[.string S, .int .i64 (q1 : Int), .int .i64 e1] rfl rfl 55 _ H2.out.res (info_scan _ _ _) rfl (one3 _ _ _) w.heap.size w H2.out.old (by omega) ?_)
    intro W4 hb1 ho1 hbel hz
    go_wp2_with fail
    refine bodyPost_ret (results_ct rfl _ _ (w.heap.size + 1) #[.string S, .int .i64 (q1 : Int), .int .i64 e1] rfl (run_loadVar_row _ (w.heap.size + 1) 55 55 _ (0, 0) _ hb1.out Tryd.underlying55 rfl (info_scan _ _ _))) rfl ?_
    exact ⟨rfl, hbel.out⟩
end Go.Proofs.YtjmfmbokphagaaaDoor
