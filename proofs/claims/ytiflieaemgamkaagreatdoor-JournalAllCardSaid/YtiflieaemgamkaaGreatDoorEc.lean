/- The contract of entry.Put over this translation. Condition: the table of crc. -/
import Derived.Test.YtiflieaemgamkaaGreatDoorEn
import Derived.Test.YtiflieaemgamkaaGreatDoorEb
import Derived.Deep.RegionHeld3
import Derived.Outline
namespace Go.Proofs.YtiflieaemgamkaaGreatDoor
open Go.RowKit Vi Cm

theorem bcellY {W w1 : World} (hb : Below W.heap.size W w1) : (∀ b o, b < W.heap.size → w1.cell? ⟨b, o, none⟩ = W.cell? ⟨b, o, none⟩) ∧ (∀ b o, b < W.heap.size → w1.frozen? ⟨b, o, none⟩ = W.frozen? ⟨b, o, none⟩) :=
  ⟨fun b o h => hb.cell (p := ⟨b, o, none⟩) h, fun b o h => hb.frozen (p := ⟨b, o, none⟩) h⟩
theorem nums3 (b c : Nat) (x y z : Int) (w : World) (h0 : w.cell? ⟨b, 0, none⟩ = some (.int .i64 x)) (h1 : w.cell? ⟨b, 1, none⟩ = some (.int .i64 y)) (h2 : w.cell? ⟨b, 2, none⟩ = some (.int .i64 z)) (hx : x ≤ 9223372036854775807) (hy : y ≤ 9223372036854775807) (hz : z ≤ 9223372036854775807) :
    Calls Tryz.prog 105 #[.slice (some ⟨b, 0, none⟩) 3 c] w fun e w' => e = .returned (.string (catN [x, y, z])) ∧ Below w.heap.size w w' := by
  refine nums_any b c [x, y, z] w (by simp) ?_ ?_
  · intro i hi
    rcases (show i = 0 ∨ i = 1 ∨ i = 2 by simp at hi; omega) with rfl | rfl | rfl
    · exact h0
    · exact h1
    · exact h2
  · intro v hv
    simp at hv
    rcases hv with rfl | rfl | rfl <;> assumption
theorem nums2 (b c : Nat) (x y : Int) (w : World) (h0 : w.cell? ⟨b, 0, none⟩ = some (.int .i64 x)) (h1 : w.cell? ⟨b, 1, none⟩ = some (.int .i64 y)) (hx : x ≤ 9223372036854775807) (hy : y ≤ 9223372036854775807) :
    Calls Tryz.prog 105 #[.slice (some ⟨b, 0, none⟩) 2 c] w fun e w' => e = .returned (.string (catN [x, y])) ∧ Below w.heap.size w w' := by
  refine nums_any b c [x, y] w (by simp) ?_ ?_
  · intro i hi
    rcases (show i = 0 ∨ i = 1 by simp at hi; omega) with rfl | rfl
    · exact h0
    · exact h1
  · intro v hv
    simp at hv
    rcases hv with rfl | rfl <;> assumption
theorem texts3 (b c : Nat) (x y z : ByteArray) (w : World) (h0 : w.cell? ⟨b, 0, none⟩ = some (.string x)) (h1 : w.cell? ⟨b, 1, none⟩ = some (.string y)) (h2 : w.cell? ⟨b, 2, none⟩ = some (.string z)) (hx : x.size ≤ 900) (hy : y.size ≤ 900) (hz : z.size ≤ 900) :
    Calls Tryz.prog 106 #[.slice (some ⟨b, 0, none⟩) 3 c] w fun e w' => e = .returned (.string (catT [x, y, z])) ∧ Below w.heap.size w w' := by
  refine texts_any b c [x, y, z] w (by simp) ?_ ?_
  · intro i hi
    rcases (show i = 0 ∨ i = 1 ∨ i = 2 by simp at hi; omega) with rfl | rfl | rfl
    · exact h0
    · exact h1
    · exact h2
  · intro v hv
    simp at hv
    rcases hv with rfl | rfl | rfl <;> assumption
/-- what stands ahead of a record's sum -/
def bodyR (a b k : Int) (x o n : ByteArray) (t u : Int) : ByteArray := ⟨#[82]⟩ ++ catN [a, b, k] ++ catT [x, o, n] ++ catN [t, u]
def recS (a b k : Int) (x o n : ByteArray) (t u : Int) : ByteArray := fullS (ptxH (sealH (bodyR a b k x o n t u)))
theorem rok_bd {a b k : Int} {x o n : ByteArray} {t u : Int} (h : rok a b k x o n t u = true) : 1 ≤ a ∧ a ≤ 4294967295 ∧ 0 ≤ b ∧ b ≤ 4095 ∧ 1 ≤ k ∧ k ≤ 2 ∧ 1 ≤ x.size ∧ x.size ≤ 12 ∧ (o.size = 0 ∨ o.size = 32) ∧ (n.size = 0 ∨ n.size = 32) ∧ 0 ≤ t ∧ t ≤ 524288 ∧ 1 ≤ u ∧ u ≤ 4294967296 := by
  unfold rok at h
  simp only [Bool.and_eq_true] at h
  obtain ⟨⟨⟨⟨⟨⟨⟨⟨h1, h2⟩, h3⟩, h4⟩, h5⟩, h6⟩, _⟩, h7⟩, h8⟩ := h
  have w : ∀ {v lo hi : Int}, wthB v lo hi = true → lo ≤ v ∧ v ≤ hi := fun {v lo hi} g => by
    unfold wthB at g
    simp only [Bool.and_eq_true, decide_eq_true_eq] at g
    exact g
  have e1 := w h1
  have e2 := w h2
  have e3 := w h3
  have e7 := w h7
  have e8 := w h8
  unfold nm at h4
  simp only [Bool.and_eq_true, decide_eq_true_eq] at h4
  have e5 := sumB_or h5
  have e6 := sumB_or h6
  exact ⟨e1.1, e1.2, e2.1, e2.2, e3.1, e3.2, h4.1.1, h4.1.2, e5, e6, e7.1, e7.2, e8.1, e8.2⟩
theorem ptx_le (s : ByteArray) (k : Nat) (hk : 0 < k) (h : s.size < 128 ^ k) : (ptxH s).size ≤ k + s.size := by
  rw [ptx_sz]
  have := put_le s.size k hk h
  omega
theorem bodyR_size {a b k : Int} {x o n : ByteArray} {t u : Int} (h : rok a b k x o n t u = true) : (bodyR a b k x o n t u).size ≤ 96 ∧ 1 ≤ (bodyR a b k x o n t u).size ∧ (catN [a, b, k]).size ≤ 8 ∧ (catT [x, o, n]).size ≤ 79 ∧ (catN [t, u]).size ≤ 8 := by
  obtain ⟨a0, a1, b0, b1, k0, k1, x0, x1, o1, n1, t0, t1, u0, u1⟩ := rok_bd h
  have z1 := pnb_le a 5 (by omega) (by omega)
  have z2 := pnb_le b 2 (by omega) (by omega)
  have z3 := pnb_le k 1 (by omega) (by omega)
  have z4 := ptx_le x 1 (by omega) (by omega)
  have z5 := ptx_le o 1 (by omega) (by omega)
  have z6 := ptx_le n 1 (by omega) (by omega)
  have z7 := pnb_le t 3 (by omega) (by omega)
  have z8 := pnb_le u 5 (by omega) (by omega)
  have e1 : (catN [a, b, k]).size = (pnb a).size + ((pnb b).size + ((pnb k).size + 0)) := by simp only [catN, ByteArray.size_append]; rfl
  have e2 : (catT [x, o, n]).size = (ptxH x).size + ((ptxH o).size + ((ptxH n).size + 0)) := by simp only [catT, ByteArray.size_append]; rfl
  have e3 : (catN [t, u]).size = (pnb t).size + ((pnb u).size + 0) := by simp only [catN, ByteArray.size_append]; rfl
  have e4 : (bodyR a b k x o n t u).size = 1 + (catN [a, b, k]).size + (catT [x, o, n]).size + (catN [t, u]).size := by unfold bodyR; simp only [ByteArray.size_append]; rfl
  omega
/-- the box of Put's record, through all that is laid behind it -/
structure PS (a b k : Int) (x o n : ByteArray) (t u : Int) (w W : World) : Prop where
  box : W.heap[w.heap.size]? = some (.cells #[.int .i64 a, .int .i64 b, .int .i64 k, .string x, .string o, .string n, .int .i64 t, .int .i64 u] 42 (0, 0))
  bel : Below w.heap.size w W
theorem PS.later {a b k : Int} {x o n : ByteArray} {t u : Int} {w W W' : World} (h : PS a b k x o n t u w W) (hb : Below W.heap.size W W') : PS a b k x o n t u w W' := ⟨blk_below h.box hb, h.bel.trans (hb.mono h.bel.size)⟩
theorem PS.alloc {a b k : Int} {x o n : ByteArray} {t u : Int} {w W : World} (h : PS a b k x o n t u w W) (p : Obj) : PS a b k x o n t u w (W.alloc p) := ⟨blk_alloc h.box p, h.bel.alloc h.bel.size p⟩
theorem PS.drew {a b k : Int} {x o n : ByteArray} {t u : Int} {w W : World} (h : PS a b k x o n t u w W) : PS a b k x o n t u w W.drew := ⟨h.box, h.bel.drew⟩
theorem PS.c0 {a b k : Int} {x o n : ByteArray} {t u : Int} {w W : World} (h : PS a b k x o n t u w W) : W.cell? ⟨w.heap.size, 0, none⟩ = some (.int .i64 a) := by rw [cell_of_row _ _ _ _ _ _ h.box]; rfl
theorem PS.c1 {a b k : Int} {x o n : ByteArray} {t u : Int} {w W : World} (h : PS a b k x o n t u w W) : W.cell? ⟨w.heap.size, 1, none⟩ = some (.int .i64 b) := by rw [cell_of_row _ _ _ _ _ _ h.box]; rfl
theorem PS.c2 {a b k : Int} {x o n : ByteArray} {t u : Int} {w W : World} (h : PS a b k x o n t u w W) : W.cell? ⟨w.heap.size, 2, none⟩ = some (.int .i64 k) := by rw [cell_of_row _ _ _ _ _ _ h.box]; rfl
theorem PS.c3 {a b k : Int} {x o n : ByteArray} {t u : Int} {w W : World} (h : PS a b k x o n t u w W) : W.cell? ⟨w.heap.size, 3, none⟩ = some (.string x) := by rw [cell_of_row _ _ _ _ _ _ h.box]; rfl
theorem PS.c4 {a b k : Int} {x o n : ByteArray} {t u : Int} {w W : World} (h : PS a b k x o n t u w W) : W.cell? ⟨w.heap.size, 4, none⟩ = some (.string o) := by rw [cell_of_row _ _ _ _ _ _ h.box]; rfl
theorem PS.c5 {a b k : Int} {x o n : ByteArray} {t u : Int} {w W : World} (h : PS a b k x o n t u w W) : W.cell? ⟨w.heap.size, 5, none⟩ = some (.string n) := by rw [cell_of_row _ _ _ _ _ _ h.box]; rfl
theorem PS.c6 {a b k : Int} {x o n : ByteArray} {t u : Int} {w W : World} (h : PS a b k x o n t u w W) : W.cell? ⟨w.heap.size, 6, none⟩ = some (.int .i64 t) := by rw [cell_of_row _ _ _ _ _ _ h.box]; rfl
theorem PS.c7 {a b k : Int} {x o n : ByteArray} {t u : Int} {w W : World} (h : PS a b k x o n t u w W) : W.cell? ⟨w.heap.size, 7, none⟩ = some (.int .i64 u) := by rw [cell_of_row _ _ _ _ _ _ h.box]; rfl
theorem PS.octo {a b k : Int} {x o n : ByteArray} {t u : Int} {w W : World} (h : PS a b k x o n t u w W) : W.cell? ⟨w.heap.size, 0, none⟩ = some (.int .i64 a) ∧ W.cell? ⟨w.heap.size, 1, none⟩ = some (.int .i64 b) ∧ W.cell? ⟨w.heap.size, 2, none⟩ = some (.int .i64 k) ∧ W.cell? ⟨w.heap.size, 3, none⟩ = some (.string x) ∧ W.cell? ⟨w.heap.size, 4, none⟩ = some (.string o) ∧ W.cell? ⟨w.heap.size, 5, none⟩ = some (.string n) ∧ W.cell? ⟨w.heap.size, 6, none⟩ = some (.int .i64 t) ∧ W.cell? ⟨w.heap.size, 7, none⟩ = some (.int .i64 u) :=
  ⟨h.c0, h.c1, h.c2, h.c3, h.c4, h.c5, h.c6, h.c7⟩
theorem blk_cellY {W : World} {b j : Nat} {cs : Array Value} {T : TypeId} {v : Value} (h : W.heap[b]? = some (.cells cs T (0, 0))) (hv : cs[j]? = some v) : W.cell? ⟨b, j, none⟩ = some v := (cell_of_row W b j cs T (0, 0) h).trans hv
theorem cellAD {V : World} {p : Addr} {v : Value} (h : V.cell? p = some v) (o : Obj) : (V.alloc o).cell? p = some v := by rw [World.cell?_alloc_some _ _ _ (by rw [h]; rfl)]; exact h
set_option maxHeartbeats 16000000 in
set_option maxRecDepth 100000 in
theorem erput_yes (a b k : Int) (x o n : ByteArray) (t u : Int) (w : World) (hT : Tab w) (h : rok a b k x o n t u = true) :
    Calls Tryz.prog 51 #[.agg #[.int .i64 a, .int .i64 b, .int .i64 k, .string x, .string o, .string n, .int .i64 t, .int .i64 u]] w fun e w' => e = .returned (.tuple #[.string (recS a b k x o n t u), .int .i64 0]) ∧ Below w.heap.size w w' := by
  have HT := Lib.hid hT
  have bd := rok_bd h
  have bz := bodyR_size h
  have HCK := Lib.hid (fun W : World => rcheck_any a b k x o n t u W (by unfold maxLen; omega))
  rw [← errR_yes h] at HCK
  have H1 := Lib.hid (fun (W : World) (B c : Nat) h0 h1 h2 => nums3 B c a b k W h0 h1 h2 (by omega) (by omega) (by omega))
  have H2 := Lib.hid (fun (W : World) (B c : Nat) h0 h1 h2 => texts3 B c x o n W h0 h1 h2 (by omega) (by omega) (by omega))
  have H3 := Lib.hid (fun (W : World) (B c : Nat) h0 h1 => nums2 B c t u W h0 h1 (by omega) (by omega))
  have HSL := Lib.hid (fun (W : World) (h : Tab W) => (show Calls Tryz.prog 104 #[.string (bodyR a b k x o n t u)] W fun e w' => e = .returned (.string (sealH (bodyR a b k x o n t u))) ∧ Below W.heap.size W w' from seal_any (bodyR a b k x o n t u) W h (by omega)))
  have HPT := Lib.hid (fun W : World => (show Calls Tryz.prog 103 #[.string (sealH (bodyR a b k x o n t u))] W fun e w' => e = .returned (.string (ptxH (sealH (bodyR a b k x o n t u)))) ∧ Below W.heap.size W w' from putText_any (sealH (bodyR a b k x o n t u)) W (by rw [sealH_size]; omega)))
  have HFU := Lib.hid (fun W : World => full_yes (ptxH (sealH (bodyR a b k x o n t u))) W (by have := ptx_le (sealH (bodyR a b k x o n t u)) 1 (by omega) (by rw [sealH_size]; omega); rw [sealH_size] at this; omega))
  have hbd : (⟨#[82]⟩ ++ catN [a, b, k] ++ catT [x, o, n] ++ catN [t, u] : ByteArray) = bodyR a b k x o n t u := rfl
  have HRS := Lib.hid (show fullS (ptxH (sealH (bodyR a b k x o n t u))) = recS a b k x o n t u from rfl)
  generalize fullS (ptxH (sealH (bodyR a b k x o n t u))) = X3 at HFU HRS
  generalize ptxH (sealH (bodyR a b k x o n t u)) = X2 at HPT HFU
  generalize sealH (bodyR a b k x o n t u) = X1 at HSL HPT
  rw [← hbd] at HSL
  generalize catN [a, b, k] = p1 at H1 HSL bz
  generalize catT [x, o, n] = p2 at H2 HSL bz
  generalize catN [t, u] = p3 at H3 HSL bz
  have y1 : (p1.size : Int) ≤ 8 := by omega
  have y2 : (p2.size : Int) ≤ 79 := by omega
  have y3 : (p3.size : Int) ≤ 8 := by omega
  obtain ⟨s1, t1⟩ : ∃ s1, s1 = (⟨#[82]⟩ ++ p1 : ByteArray) := ⟨_, rfl⟩
  obtain ⟨s2, t2⟩ : ∃ s2, s2 = s1 ++ p2 := ⟨_, rfl⟩
  obtain ⟨s3, t3⟩ : ∃ s3, s3 = s2 ++ p3 := ⟨_, rfl⟩
  have z1 : s1.size = 1 + p1.size := by rw [t1, ByteArray.size_append]; rfl
  have z2 : s2.size = s1.size + p2.size := by rw [t2, ByteArray.size_append]
  have q1 : ∀ W, (Op.stringOp .add ⟨#[82]⟩ p1).run Tryz.prog W = .ok (.string s1) W := fun W => by rw [t1]; exact run_string_add_sum W _ _ (by show 1 + p1.size ≤ _; omega)
  have q2 : ∀ W, (Op.stringOp .add s1 p2).run Tryz.prog W = .ok (.string s2) W := fun W => by rw [t2]; exact run_string_add_sum W _ _ (by omega)
  have q3 : ∀ W, (Op.stringOp .add s2 p3).run Tryz.prog W = .ok (.string s3) W := fun W => by rw [t3]; exact run_string_add_sum W _ _ (by omega)
  rw [← t1, ← t2, ← t3] at HSL
  clear z1 z2 t1 t2 t3
  clear bd bz hbd h hT
  go_enter Tryz.func51, Tryz.ntmps51
  go_wp2_with fail
  refine (HCK.out _).mono ?_
  rintro e w1 ⟨rfl, hb⟩
  have ST : PS a b k x o n t u w w1 := ⟨blk_below (blk_new w (.cells #[.int .i64 a, .int .i64 b, .int .i64 k, .string x, .string o, .string n, .int .i64 t, .int .i64 u] 42 (0, 0))) hb, ((Below.refl _ w).alloc (Nat.le_refl _) _).trans (hb.mono (by simp))⟩
  have c0 := ST.c0
  have c1 := ST.c1
  have c2 := ST.c2
  have c3 := ST.c3
  have c4 := ST.c4
  have c5 := ST.c5
  have c6 := ST.c6
  have c7 := ST.c7
  have hl : w.heap.size < w1.heap.size := lt_of_block ST.box
  have hl2 : ¬ w1.heap.size = w.heap.size := by omega
  clear hb HCK
  go_wp2_with fail
  go_region_held3 (fun w' => w'.cell? ⟨w.heap.size, 0, none⟩ = some (.int .i64 a) ∧ w'.cell? ⟨w.heap.size, 1, none⟩ = some (.int .i64 b) ∧ w'.cell? ⟨w.heap.size, 2, none⟩ = some (.int .i64 k) ∧ w'.cell? ⟨w.heap.size, 3, none⟩ = some (.string x) ∧ w'.cell? ⟨w.heap.size, 4, none⟩ = some (.string o) ∧ w'.cell? ⟨w.heap.size, 5, none⟩ = some (.string n) ∧ w'.cell? ⟨w.heap.size, 6, none⟩ = some (.int .i64 t) ∧ w'.cell? ⟨w.heap.size, 7, none⟩ = some (.int .i64 u)) (first | (refine ⟨?_, ?_, ?_, ?_, ?_, ?_, ?_, ?_⟩ <;> assumption) | exact ST.drew.octo | exact (ST.alloc _).drew.octo | exact ((ST.alloc _).alloc _).drew.octo | exact (((ST.alloc _).alloc _).alloc _).drew.octo | exact (ST.alloc _).octo | exact ((ST.alloc _).alloc _).all | exact (((ST.alloc _).alloc _).alloc _).octo)
    (first
    | (go_at_call 105; (with_reducible refine (H1.out _ _ _ ?_ ?_ ?_).mono ?_); (first | (focus (simp; done)) | (focus (refine cellAD ?_ _; simp; done)) | (focus (refine cellAD (cellAD ?_ _) _; simp; done)) | (focus (refine blk_cellY (blk_newN ?_) rfl; simp; done)) | (focus (refine cellAD (blk_cellY (blk_newN ?_) rfl) _; simp; done)) | (focus (refine cellAD (cellAD (blk_cellY (blk_newN ?_) rfl) _) _; simp; done))); (first | (focus (simp; done)) | (focus (refine cellAD ?_ _; simp; done)) | (focus (refine cellAD (cellAD ?_ _) _; simp; done)) | (focus (refine blk_cellY (blk_newN ?_) rfl; simp; done)) | (focus (refine cellAD (blk_cellY (blk_newN ?_) rfl) _; simp; done)) | (focus (refine cellAD (cellAD (blk_cellY (blk_newN ?_) rfl) _) _; simp; done))); (first | (focus (simp; done)) | (focus (refine cellAD ?_ _; simp; done)) | (focus (refine cellAD (cellAD ?_ _) _; simp; done)) | (focus (refine blk_cellY (blk_newN ?_) rfl; simp; done)) | (focus (refine cellAD (blk_cellY (blk_newN ?_) rfl) _; simp; done)) | (focus (refine cellAD (cellAD (blk_cellY (blk_newN ?_) rfl) _) _; simp; done))); rintro e v2 ⟨rfl, hb2⟩; have hsv2 := hb2.size; (try simp at hsv2); (first | have ST := ST.later hb2 | have ST := ST.drew.later hb2 | have ST := (ST.alloc _).later hb2 | have ST := (ST.alloc _).drew.later hb2 | have ST := ((ST.alloc _).alloc _).later hb2 | have ST := ((ST.alloc _).alloc _).drew.later hb2 | have ST := (((ST.alloc _).alloc _).alloc _).later hb2 | have ST := (((ST.alloc _).alloc _).alloc _).drew.later hb2); have k0 := ST.c0; have k1 := ST.c1; have k2 := ST.c2; have k3 := ST.c3; have k4 := ST.c4; have k5 := ST.c5; have k6 := ST.c6; have k7 := ST.c7; have hlv2 := lt_of_block ST.box)
    | (go_at_call 105; (with_reducible refine (H3.out _ _ _ ?_ ?_).mono ?_); (first | (focus (simp; done)) | (refine ((hb3.cell (p := ⟨_, _, none⟩) ?_).trans ?_); (first | omega | (focus (simp; done)) | (focus (simp; omega))); (first | (focus (simp; done)) | (focus (refine cellAD ?_ _; simp; done)) | (focus (refine cellAD (cellAD ?_ _) _; simp; done)) | (focus (refine blk_cellY (blk_newN ?_) rfl; simp; done)) | (focus (refine cellAD (blk_cellY (blk_newN ?_) rfl) _; simp; done)) | (focus (refine cellAD (cellAD (blk_cellY (blk_newN ?_) rfl) _) _; simp; done)))) | (refine ((hb3.cell (p := ⟨_, _, none⟩) ?_).trans ((hb2.cell (p := ⟨_, _, none⟩) ?_).trans ?_)); (first | omega | (focus (simp; done)) | (focus (simp; omega))); (first | omega | (focus (simp; done)) | (focus (simp; omega))); (first | (focus (simp; done)) | (focus (refine cellAD ?_ _; simp; done)) | (focus (refine cellAD (cellAD ?_ _) _; simp; done)) | (focus (refine blk_cellY (blk_newN ?_) rfl; simp; done)) | (focus (refine cellAD (blk_cellY (blk_newN ?_) rfl) _; simp; done)) | (focus (refine cellAD (cellAD (blk_cellY (blk_newN ?_) rfl) _) _; simp; done)))) | (refine ((hb3.cell (p := ⟨_, _, none⟩) ?_).trans (cellAD ((hb2.cell (p := ⟨_, _, none⟩) ?_).trans ?_) _)); (first | omega | (focus (simp; done)) | (focus (simp; omega))); (first | omega | (focus (simp; done)) | (focus (simp; omega))); (first | (focus (simp; done)) | (focus (refine cellAD ?_ _; simp; done)) | (focus (refine cellAD (cellAD ?_ _) _; simp; done)) | (focus (refine blk_cellY (blk_newN ?_) rfl; simp; done)) | (focus (refine cellAD (blk_cellY (blk_newN ?_) rfl) _; simp; done)) | (focus (refine cellAD (cellAD (blk_cellY (blk_newN ?_) rfl) _) _; simp; done)))) | (refine ((hb3.cell (p := ⟨_, _, none⟩) ?_).trans (cellAD (cellAD ((hb2.cell (p := ⟨_, _, none⟩) ?_).trans ?_) _) _)); (first | omega | (focus (simp; done)) | (focus (simp; omega))); (first | omega | (focus (simp; done)) | (focus (simp; omega))); (first | (focus (simp; done)) | (focus (refine cellAD ?_ _; simp; done)) | (focus (refine cellAD (cellAD ?_ _) _; simp; done)) | (focus (refine blk_cellY (blk_newN ?_) rfl; simp; done)) | (focus (refine cellAD (blk_cellY (blk_newN ?_) rfl) _; simp; done)) | (focus (refine cellAD (cellAD (blk_cellY (blk_newN ?_) rfl) _) _; simp; done)))) | (refine (cellAD ((hb3.cell (p := ⟨_, _, none⟩) ?_).trans ?_) _); (first | omega | (focus (simp; done)) | (focus (simp; omega))); (first | (focus (simp; done)) | (focus (refine cellAD ?_ _; simp; done)) | (focus (refine cellAD (cellAD ?_ _) _; simp; done)) | (focus (refine blk_cellY (blk_newN ?_) rfl; simp; done)) | (focus (refine cellAD (blk_cellY (blk_newN ?_) rfl) _; simp; done)) | (focus (refine cellAD (cellAD (blk_cellY (blk_newN ?_) rfl) _) _; simp; done)))) | (refine (cellAD ((hb3.cell (p := ⟨_, _, none⟩) ?_).trans ((hb2.cell (p := ⟨_, _, none⟩) ?_).trans ?_)) _); (first | omega | (focus (simp; done)) | (focus (simp; omega))); (first | omega | (focus (simp; done)) | (focus (simp; omega))); (first | (focus (simp; done)) | (focus (refine cellAD ?_ _; simp; done)) | (focus (refine cellAD (cellAD ?_ _) _; simp; done)) | (focus (refine blk_cellY (blk_newN ?_) rfl; simp; done)) | (focus (refine cellAD (blk_cellY (blk_newN ?_) rfl) _; simp; done)) | (focus (refine cellAD (cellAD (blk_cellY (blk_newN ?_) rfl) _) _; simp; done)))) | (refine (cellAD ((hb3.cell (p := ⟨_, _, none⟩) ?_).trans (cellAD ((hb2.cell (p := ⟨_, _, none⟩) ?_).trans ?_) _)) _); (first | omega | (focus (simp; done)) | (focus (simp; omega))); (first | omega | (focus (simp; done)) | (focus (simp; omega))); (first | (focus (simp; done)) | (focus (refine cellAD ?_ _; simp; done)) | (focus (refine cellAD (cellAD ?_ _) _; simp; done)) | (focus (refine blk_cellY (blk_newN ?_) rfl; simp; done)) | (focus (refine cellAD (blk_cellY (blk_newN ?_) rfl) _; simp; done)) | (focus (refine cellAD (cellAD (blk_cellY (blk_newN ?_) rfl) _) _; simp; done)))) | (refine (cellAD ((hb3.cell (p := ⟨_, _, none⟩) ?_).trans (cellAD (cellAD ((hb2.cell (p := ⟨_, _, none⟩) ?_).trans ?_) _) _)) _); (first | omega | (focus (simp; done)) | (focus (simp; omega))); (first | omega | (focus (simp; done)) | (focus (simp; omega))); (first | (focus (simp; done)) | (focus (refine cellAD ?_ _; simp; done)) | (focus (refine cellAD (cellAD ?_ _) _; simp; done)) | (focus (refine blk_cellY (blk_newN ?_) rfl; simp; done)) | (focus (refine cellAD (blk_cellY (blk_newN ?_) rfl) _; simp; done)) | (focus (refine cellAD (cellAD (blk_cellY (blk_newN ?_) rfl) _) _; simp; done))))); (first | (focus (simp; done)) | (refine ((hb3.cell (p := ⟨_, _, none⟩) ?_).trans ?_); (first | omega | (focus (simp; done)) | (focus (simp; omega))); (first | (focus (simp; done)) | (focus (refine cellAD ?_ _; simp; done)) | (focus (refine cellAD (cellAD ?_ _) _; simp; done)) | (focus (refine blk_cellY (blk_newN ?_) rfl; simp; done)) | (focus (refine cellAD (blk_cellY (blk_newN ?_) rfl) _; simp; done)) | (focus (refine cellAD (cellAD (blk_cellY (blk_newN ?_) rfl) _) _; simp; done)))) | (refine ((hb3.cell (p := ⟨_, _, none⟩) ?_).trans ((hb2.cell (p := ⟨_, _, none⟩) ?_).trans ?_)); (first | omega | (focus (simp; done)) | (focus (simp; omega))); (first | omega | (focus (simp; done)) | (focus (simp; omega))); (first | (focus (simp; done)) | (focus (refine cellAD ?_ _; simp; done)) | (focus (refine cellAD (cellAD ?_ _) _; simp; done)) | (focus (refine blk_cellY (blk_newN ?_) rfl; simp; done)) | (focus (refine cellAD (blk_cellY (blk_newN ?_) rfl) _; simp; done)) | (focus (refine cellAD (cellAD (blk_cellY (blk_newN ?_) rfl) _) _; simp; done)))) | (refine ((hb3.cell (p := ⟨_, _, none⟩) ?_).trans (cellAD ((hb2.cell (p := ⟨_, _, none⟩) ?_).trans ?_) _)); (first | omega | (focus (simp; done)) | (focus (simp; omega))); (first | omega | (focus (simp; done)) | (focus (simp; omega))); (first | (focus (simp; done)) | (focus (refine cellAD ?_ _; simp; done)) | (focus (refine cellAD (cellAD ?_ _) _; simp; done)) | (focus (refine blk_cellY (blk_newN ?_) rfl; simp; done)) | (focus (refine cellAD (blk_cellY (blk_newN ?_) rfl) _; simp; done)) | (focus (refine cellAD (cellAD (blk_cellY (blk_newN ?_) rfl) _) _; simp; done)))) | (refine ((hb3.cell (p := ⟨_, _, none⟩) ?_).trans (cellAD (cellAD ((hb2.cell (p := ⟨_, _, none⟩) ?_).trans ?_) _) _)); (first | omega | (focus (simp; done)) | (focus (simp; omega))); (first | omega | (focus (simp; done)) | (focus (simp; omega))); (first | (focus (simp; done)) | (focus (refine cellAD ?_ _; simp; done)) | (focus (refine cellAD (cellAD ?_ _) _; simp; done)) | (focus (refine blk_cellY (blk_newN ?_) rfl; simp; done)) | (focus (refine cellAD (blk_cellY (blk_newN ?_) rfl) _; simp; done)) | (focus (refine cellAD (cellAD (blk_cellY (blk_newN ?_) rfl) _) _; simp; done)))) | (refine (cellAD ((hb3.cell (p := ⟨_, _, none⟩) ?_).trans ?_) _); (first | omega | (focus (simp; done)) | (focus (simp; omega))); (first | (focus (simp; done)) | (focus (refine cellAD ?_ _; simp; done)) | (focus (refine cellAD (cellAD ?_ _) _; simp; done)) | (focus (refine blk_cellY (blk_newN ?_) rfl; simp; done)) | (focus (refine cellAD (blk_cellY (blk_newN ?_) rfl) _; simp; done)) | (focus (refine cellAD (cellAD (blk_cellY (blk_newN ?_) rfl) _) _; simp; done)))) | (refine (cellAD ((hb3.cell (p := ⟨_, _, none⟩) ?_).trans ((hb2.cell (p := ⟨_, _, none⟩) ?_).trans ?_)) _); (first | omega | (focus (simp; done)) | (focus (simp; omega))); (first | omega | (focus (simp; done)) | (focus (simp; omega))); (first | (focus (simp; done)) | (focus (refine cellAD ?_ _; simp; done)) | (focus (refine cellAD (cellAD ?_ _) _; simp; done)) | (focus (refine blk_cellY (blk_newN ?_) rfl; simp; done)) | (focus (refine cellAD (blk_cellY (blk_newN ?_) rfl) _; simp; done)) | (focus (refine cellAD (cellAD (blk_cellY (blk_newN ?_) rfl) _) _; simp; done)))) | (refine (cellAD ((hb3.cell (p := ⟨_, _, none⟩) ?_).trans (cellAD ((hb2.cell (p := ⟨_, _, none⟩) ?_).trans ?_) _)) _); (first | omega | (focus (simp; done)) | (focus (simp; omega))); (first | omega | (focus (simp; done)) | (focus (simp; omega))); (first | (focus (simp; done)) | (focus (refine cellAD ?_ _; simp; done)) | (focus (refine cellAD (cellAD ?_ _) _; simp; done)) | (focus (refine blk_cellY (blk_newN ?_) rfl; simp; done)) | (focus (refine cellAD (blk_cellY (blk_newN ?_) rfl) _; simp; done)) | (focus (refine cellAD (cellAD (blk_cellY (blk_newN ?_) rfl) _) _; simp; done)))) | (refine (cellAD ((hb3.cell (p := ⟨_, _, none⟩) ?_).trans (cellAD (cellAD ((hb2.cell (p := ⟨_, _, none⟩) ?_).trans ?_) _) _)) _); (first | omega | (focus (simp; done)) | (focus (simp; omega))); (first | omega | (focus (simp; done)) | (focus (simp; omega))); (first | (focus (simp; done)) | (focus (refine cellAD ?_ _; simp; done)) | (focus (refine cellAD (cellAD ?_ _) _; simp; done)) | (focus (refine blk_cellY (blk_newN ?_) rfl; simp; done)) | (focus (refine cellAD (blk_cellY (blk_newN ?_) rfl) _; simp; done)) | (focus (refine cellAD (cellAD (blk_cellY (blk_newN ?_) rfl) _) _; simp; done))))); rintro e v4 ⟨rfl, hb4⟩; have hsv4 := hb4.size; (try simp at hsv4); (first | have ST := ST.later hb4 | have ST := ST.drew.later hb4 | have ST := (ST.alloc _).later hb4 | have ST := (ST.alloc _).drew.later hb4 | have ST := ((ST.alloc _).alloc _).later hb4 | have ST := ((ST.alloc _).alloc _).drew.later hb4 | have ST := (((ST.alloc _).alloc _).alloc _).later hb4 | have ST := (((ST.alloc _).alloc _).alloc _).drew.later hb4); have k0 := ST.c0; have k1 := ST.c1; have k2 := ST.c2; have k3 := ST.c3; have k4 := ST.c4; have k5 := ST.c5; have k6 := ST.c6; have k7 := ST.c7; have hlv4 := lt_of_block ST.box)
    | (go_at_call 106; (with_reducible refine (H2.out _ _ _ ?_ ?_ ?_).mono ?_); (first | (focus (simp; done)) | (refine ((hb2.cell (p := ⟨_, _, none⟩) ?_).trans ?_); (first | omega | (focus (simp; done)) | (focus (simp; omega))); (first | (focus (simp; done)) | (focus (refine cellAD ?_ _; simp; done)) | (focus (refine cellAD (cellAD ?_ _) _; simp; done)) | (focus (refine blk_cellY (blk_newN ?_) rfl; simp; done)) | (focus (refine cellAD (blk_cellY (blk_newN ?_) rfl) _; simp; done)) | (focus (refine cellAD (cellAD (blk_cellY (blk_newN ?_) rfl) _) _; simp; done)))) | (refine (cellAD ((hb2.cell (p := ⟨_, _, none⟩) ?_).trans ?_) _); (first | omega | (focus (simp; done)) | (focus (simp; omega))); (first | (focus (simp; done)) | (focus (refine cellAD ?_ _; simp; done)) | (focus (refine cellAD (cellAD ?_ _) _; simp; done)) | (focus (refine blk_cellY (blk_newN ?_) rfl; simp; done)) | (focus (refine cellAD (blk_cellY (blk_newN ?_) rfl) _; simp; done)) | (focus (refine cellAD (cellAD (blk_cellY (blk_newN ?_) rfl) _) _; simp; done)))) | (refine (cellAD (cellAD ((hb2.cell (p := ⟨_, _, none⟩) ?_).trans ?_) _) _); (first | omega | (focus (simp; done)) | (focus (simp; omega))); (first | (focus (simp; done)) | (focus (refine cellAD ?_ _; simp; done)) | (focus (refine cellAD (cellAD ?_ _) _; simp; done)) | (focus (refine blk_cellY (blk_newN ?_) rfl; simp; done)) | (focus (refine cellAD (blk_cellY (blk_newN ?_) rfl) _; simp; done)) | (focus (refine cellAD (cellAD (blk_cellY (blk_newN ?_) rfl) _) _; simp; done))))); (first | (focus (simp; done)) | (refine ((hb2.cell (p := ⟨_, _, none⟩) ?_).trans ?_); (first | omega | (focus (simp; done)) | (focus (simp; omega))); (first | (focus (simp; done)) | (focus (refine cellAD ?_ _; simp; done)) | (focus (refine cellAD (cellAD ?_ _) _; simp; done)) | (focus (refine blk_cellY (blk_newN ?_) rfl; simp; done)) | (focus (refine cellAD (blk_cellY (blk_newN ?_) rfl) _; simp; done)) | (focus (refine cellAD (cellAD (blk_cellY (blk_newN ?_) rfl) _) _; simp; done)))) | (refine (cellAD ((hb2.cell (p := ⟨_, _, none⟩) ?_).trans ?_) _); (first | omega | (focus (simp; done)) | (focus (simp; omega))); (first | (focus (simp; done)) | (focus (refine cellAD ?_ _; simp; done)) | (focus (refine cellAD (cellAD ?_ _) _; simp; done)) | (focus (refine blk_cellY (blk_newN ?_) rfl; simp; done)) | (focus (refine cellAD (blk_cellY (blk_newN ?_) rfl) _; simp; done)) | (focus (refine cellAD (cellAD (blk_cellY (blk_newN ?_) rfl) _) _; simp; done)))) | (refine (cellAD (cellAD ((hb2.cell (p := ⟨_, _, none⟩) ?_).trans ?_) _) _); (first | omega | (focus (simp; done)) | (focus (simp; omega))); (first | (focus (simp; done)) | (focus (refine cellAD ?_ _; simp; done)) | (focus (refine cellAD (cellAD ?_ _) _; simp; done)) | (focus (refine blk_cellY (blk_newN ?_) rfl; simp; done)) | (focus (refine cellAD (blk_cellY (blk_newN ?_) rfl) _; simp; done)) | (focus (refine cellAD (cellAD (blk_cellY (blk_newN ?_) rfl) _) _; simp; done))))); (first | (focus (simp; done)) | (refine ((hb2.cell (p := ⟨_, _, none⟩) ?_).trans ?_); (first | omega | (focus (simp; done)) | (focus (simp; omega))); (first | (focus (simp; done)) | (focus (refine cellAD ?_ _; simp; done)) | (focus (refine cellAD (cellAD ?_ _) _; simp; done)) | (focus (refine blk_cellY (blk_newN ?_) rfl; simp; done)) | (focus (refine cellAD (blk_cellY (blk_newN ?_) rfl) _; simp; done)) | (focus (refine cellAD (cellAD (blk_cellY (blk_newN ?_) rfl) _) _; simp; done)))) | (refine (cellAD ((hb2.cell (p := ⟨_, _, none⟩) ?_).trans ?_) _); (first | omega | (focus (simp; done)) | (focus (simp; omega))); (first | (focus (simp; done)) | (focus (refine cellAD ?_ _; simp; done)) | (focus (refine cellAD (cellAD ?_ _) _; simp; done)) | (focus (refine blk_cellY (blk_newN ?_) rfl; simp; done)) | (focus (refine cellAD (blk_cellY (blk_newN ?_) rfl) _; simp; done)) | (focus (refine cellAD (cellAD (blk_cellY (blk_newN ?_) rfl) _) _; simp; done)))) | (refine (cellAD (cellAD ((hb2.cell (p := ⟨_, _, none⟩) ?_).trans ?_) _) _); (first | omega | (focus (simp; done)) | (focus (simp; omega))); (first | (focus (simp; done)) | (focus (refine cellAD ?_ _; simp; done)) | (focus (refine cellAD (cellAD ?_ _) _; simp; done)) | (focus (refine blk_cellY (blk_newN ?_) rfl; simp; done)) | (focus (refine cellAD (blk_cellY (blk_newN ?_) rfl) _; simp; done)) | (focus (refine cellAD (cellAD (blk_cellY (blk_newN ?_) rfl) _) _; simp; done))))); rintro e v3 ⟨rfl, hb3⟩; have hsv3 := hb3.size; (try simp at hsv3); (first | have ST := ST.later hb3 | have ST := ST.drew.later hb3 | have ST := (ST.alloc _).later hb3 | have ST := (ST.alloc _).drew.later hb3 | have ST := ((ST.alloc _).alloc _).later hb3 | have ST := ((ST.alloc _).alloc _).drew.later hb3 | have ST := (((ST.alloc _).alloc _).alloc _).later hb3 | have ST := (((ST.alloc _).alloc _).alloc _).drew.later hb3); have k0 := ST.c0; have k1 := ST.c1; have k2 := ST.c2; have k3 := ST.c3; have k4 := ST.c4; have k5 := ST.c5; have k6 := ST.c6; have k7 := ST.c7; have hlv3 := lt_of_block ST.box)
    | (go_at_call 103; (with_reducible refine (HPT.out _).mono ?_); rintro e v6 ⟨rfl, hb6⟩; have hsv6 := hb6.size; (try simp at hsv6); (first | have ST := ST.later hb6 | have ST := ST.drew.later hb6 | have ST := (ST.alloc _).later hb6 | have ST := (ST.alloc _).drew.later hb6 | have ST := ((ST.alloc _).alloc _).later hb6 | have ST := ((ST.alloc _).alloc _).drew.later hb6 | have ST := (((ST.alloc _).alloc _).alloc _).later hb6 | have ST := (((ST.alloc _).alloc _).alloc _).drew.later hb6); have k0 := ST.c0; have k1 := ST.c1; have k2 := ST.c2; have k3 := ST.c3; have k4 := ST.c4; have k5 := ST.c5; have k6 := ST.c6; have k7 := ST.c7; have hlv6 := lt_of_block ST.box)
    | (go_at_call 102; (with_reducible refine (HFU.out _).mono ?_); rintro e v7 ⟨rfl, hb7⟩; have hsv7 := hb7.size; (try simp at hsv7); (first | have ST := ST.later hb7 | have ST := ST.drew.later hb7 | have ST := (ST.alloc _).later hb7 | have ST := (ST.alloc _).drew.later hb7 | have ST := ((ST.alloc _).alloc _).later hb7 | have ST := ((ST.alloc _).alloc _).drew.later hb7 | have ST := (((ST.alloc _).alloc _).alloc _).later hb7 | have ST := (((ST.alloc _).alloc _).alloc _).drew.later hb7); have k0 := ST.c0; have k1 := ST.c1; have k2 := ST.c2; have k3 := ST.c3; have k4 := ST.c4; have k5 := ST.c5; have k6 := ST.c6; have k7 := ST.c7; have hlv7 := lt_of_block ST.box)
    | (go_at_call 104; (with_reducible refine (HSL.out _ (HT.out.later ST.bel)).mono ?_); rintro e v5 ⟨rfl, hb5⟩; have hsv5 := hb5.size; (try simp at hsv5); (first | have ST := ST.later hb5 | have ST := ST.drew.later hb5 | have ST := (ST.alloc _).later hb5 | have ST := (ST.alloc _).drew.later hb5 | have ST := ((ST.alloc _).alloc _).later hb5 | have ST := ((ST.alloc _).alloc _).drew.later hb5 | have ST := (((ST.alloc _).alloc _).alloc _).later hb5 | have ST := (((ST.alloc _).alloc _).alloc _).drew.later hb5); have k0 := ST.c0; have k1 := ST.c1; have k2 := ST.c2; have k3 := ST.c3; have k4 := ST.c4; have k5 := ST.c5; have k6 := ST.c6; have k7 := ST.c7; have hlv5 := lt_of_block ST.box))
  all_goals go_wp2_with fail
  all_goals go_ret2
  all_goals exact ⟨by rw [← HRS.out]; rfl, ST.bel⟩
end Go.Proofs.YtiflieaemgamkaaGreatDoor
